/- Fields: what a sign stands for. And more. -/
import Derived.Test.YtamegacbmbgcfaaGreatDoorZTopWorth8
import Derived.RangeFuncRecord
import Derived.Deep.SlicePairs
import Derived.OpenShut
set_option linter.unusedVariables false
set_option maxHeartbeats 64000000
set_option maxRecDepth 100000
open Go.Value (int slice)
open Go.IntKind (i64)
namespace Go.Proofs.YtamegacbmbgcfaaGreatDoor
open Go.RowKit
theorem JO(s:ByteArray)(c:Int)(w:World):
  Calls Tryz.prog 175 #[.string s,.int .u8 c] w λe w'=>e=.returned (int i64 (Lib.indexByte s.data.toList c.toNat.toUInt8))/\w'=w:=by
 have hx:=run_callFunc_extern (w:=w) (args:= #[.string s,.int .u8 c]) Tryz.func188 (by kernel_rfl) (by kernel_rfl) (by kernel_rfl) (e:=Extern.BytealgIndexByte.indexByte) (by kernel_rfl);go_enter Tryz.func175,Tryz.ntmps175;go_wp2;rw[Lib.run_indexByteString];simp only[Result.andThen];rw[Oper.upon_value];go_wp2;go_ret;exact⟨rfl,rfl⟩
theorem JQ(s:ByteArray)(c:Int)(w:World):
  Calls Tryz.prog 154 #[.string s,.int .u8 c] w λe w'=>e=.returned (int i64 (Lib.indexByte s.data.toList c.toNat.toUInt8))/\w'=w:=by
 have K:Hid (Calls Tryz.prog 175 #[.string s,.int .u8 c] w λe w'=>e=.returned (int i64 (Lib.indexByte s.data.toList c.toNat.toUInt8))/\w'=w):=JO s c w;go_enter Tryz.func154,Tryz.ntmps154;go_wp2_with fail
 refine Calls.mono K ?_;rintro e w' ⟨rfl,rfl⟩;go_wp2;go_ret;exact⟨rfl,rfl⟩
namespace Fd
def t_(b:UInt8):Int:=if b=46 then 0 else if b=35 then 1 else if b=126 then 2 else if b=94 then 3 else -1
theorem yO(b:UInt8)(h:¬(49<=b.toNat/\b.toNat<=57)):meant b=if 0<=t_ b then some (t_ b,0) else none:=by
 unfold meant t_;rw[if_neg h];split
 ·rfl
 ·split
  ·rfl
  ·split
   ·rfl
   ·split
    ·rfl
    ·rfl
end Fd
theorem JR(b:UInt8):Lib.indexByte [46,35,126,94] b=Fd.t_ b:=by
 unfold Fd.t_;by_cases h1:b=46
 ·subst h1;decide
 ·by_cases h2:b=35
  ·subst h2;decide
  ·by_cases h3:b=126
   ·subst h3;decide
   ·by_cases h4:b=94
    ·subst h4;decide
    ·have g1:¬46=b:=λh=>h1 h.symm
     have g2:¬35=b:=λh=>h2 h.symm
     have g3:¬126=b:=λh=>h3 h.symm
     have g4:¬94=b:=λh=>h4 h.symm
     simp[Lib.indexByte,h1,h2,h3,h4,g1,g2,g3,g4]
theorem Ec(b:UInt8)(w:World):
  Calls Tryz.prog 118 #[.int .u8 (b.toNat:Nat)] w λe w'=>(∃g o,Fd.meant b=some (g,o)/\e=.returned (.tuple #[int i64 g,int i64 o,.bool true])/\w'=w)\/(Fd.meant b=none/\e=.returned (.tuple #[int i64 (-1),int i64 0,.bool false])/\w'=w):=by
 have hb:=b.toNat_lt;by_cases h:49<=b.toNat/\b.toNat<=57
 ·have e:Fd.meant b=some (0,((b.toNat:Int)-48)*10):=by unfold Fd.meant;rw[if_pos h]
  have E:Hid _:=e;obtain⟨h1,h2⟩:=h;clear e;generalize b.toNat=n at *;have w1:IntKind.u8.wrap ((n:Int)-48)=(n:Int)-48:=by rw[IntKind.wrap_u8];omega
  go_enter Tryz.func118,Tryz.ntmps118;go_wp2;go_ret3;exact .inl ⟨_,_,E,rfl,rfl⟩
 ·have e:=Fd.yO b h
  have I:Hid (Calls Tryz.prog 154 #[.string ⟨#[46,35,126,94]⟩,.int .u8 (b.toNat:Nat)] w λe w'=>e=.returned (int i64 (Fd.t_ b))/\w'=w):=by
   refine(JQ ⟨#[46,35,126,94]⟩ (b.toNat:Nat) w).mono ?_;rintro e w' ⟨rfl,rfl⟩;refine⟨?_,rfl⟩;have e2:((b.toNat:Nat):Int).toNat.toUInt8=b:=by rw[Int.toNat_natCast];exact UInt8.ofNat_toNat
   rw[e2];rw[<-JR b]
  have gl: -1<=Fd.t_ b:=by unfold Fd.t_;split<;>(try split)<;>(try split)<;>(try split)<;>omega
  generalize Fd.t_ b=g at *;by_cases hg:0<=g
  ·have E:Hid (Fd.meant b=some (g,0)):=by unfold Hid;rw[e,if_pos hg]
   clear e;by_cases h1:49<=b.toNat
   ·have h2:¬b.toNat<=57:=by omega
    clear h;go_enter Tryz.func118,Tryz.ntmps118;go_wp2_with fail
    refine Calls.mono I ?_;rintro e w' ⟨rfl,rfl⟩;go_wp2;go_ret3;exact .inl ⟨_,_,E,rfl,rfl⟩
   ·clear h
    go_enter Tryz.func118,Tryz.ntmps118;go_wp2_with fail
    refine Calls.mono I ?_;rintro e w' ⟨rfl,rfl⟩;go_wp2;go_ret3;exact .inl ⟨_,_,E,rfl,rfl⟩
  ·obtain rfl:g= -1:=by omega
   have E:Hid (Fd.meant b=none):=by unfold Hid;rw[e,if_neg hg]
   clear e gl hg;by_cases h1:49<=b.toNat
   ·have h2:¬b.toNat<=57:=by omega
    clear h;go_enter Tryz.func118,Tryz.ntmps118;go_wp2_with fail
    refine Calls.mono I ?_;rintro e w' ⟨rfl,rfl⟩;go_wp2;go_ret3;exact .inr ⟨E,rfl,rfl⟩
   ·clear h
    go_enter Tryz.func118,Tryz.ntmps118;go_wp2_with fail
    refine Calls.mono I ?_;rintro e w' ⟨rfl,rfl⟩;go_wp2;go_ret3;exact .inr ⟨E,rfl,rfl⟩
structure Two(w:World)(base:Nat)(u1 u2:Value)(gs os:List Int):Prop where
 o1:Ow w base u1 gs
 o2:Ow w base u2 os
 ne:∀k,u1.ownBlock=some k->u2.ownBlock≠some k
theorem Two.below{w w':World}{base n:Nat}{u1 u2:Value}{gs os:List Int}(h:Two w base u1 u2 gs os)(hb:Below n w w')(hn:w.heap.size<=n):Two w' base u1 u2 gs os:=
 ⟨h.o1.below (hb.mono hn),h.o2.below (hb.mono hn),h.ne⟩
theorem Two.kp{w w':World}{base z:Nat}{u1 u2:Value}{gs os:List Int}(h:Two w base u1 u2 gs os)(hk:Kp z w w')(hz:z<base):Two w' base u1 u2 gs os:=by
 have hg:w.grownBy w' (some z):=⟨hk.os,hk.tape,hk.output,hk.size,λk hk' hne=>hk.block k hk' (λe=>hne (by rw[e]))⟩;refine⟨h.o1.kept hg ?_,h.o2.kept hg ?_,h.ne⟩
 ·right;intro e;have:=(h.o1.block z e).1;omega
 ·right;intro e;have:=(h.o2.block z e).1;omega
def Dt(w:World)(z:Nat)(u1 u2:Value)(s:Fd.St):Prop:=w.heap[z]? =some (.cells #[int i64 (s.W:Nat),int i64 (s.H:Nat),u1,u2,int i64 (s.c:Nat)] 122 (0,0))
def Dr(w:World)(z:Nat)(s:Fd.St):Prop:=∃u1 u2,Dt w z u1 u2 s/\Two w (z+1) u1 u2 s.gs s.os
section
variable {w:World} {z:Nat} {u1 u2:Value} {s:Fd.St}
theorem Dt.c0(h:Dt w z u1 u2 s):w.cell? ⟨z,0,none⟩=some (int i64 (s.W:Nat)):=by unfold Dt at h;simp[World.cell?,h]
theorem Dt.c1(h:Dt w z u1 u2 s):w.cell? ⟨z,1,none⟩=some (int i64 (s.H:Nat)):=by unfold Dt at h;simp[World.cell?,h]
theorem Dt.c2(h:Dt w z u1 u2 s):w.cell? ⟨z,2,none⟩=some u1:=by unfold Dt at h;simp[World.cell?,h]
theorem Dt.c3(h:Dt w z u1 u2 s):w.cell? ⟨z,3,none⟩=some u2:=by unfold Dt at h;simp[World.cell?,h]
theorem Dt.c4(h:Dt w z u1 u2 s):w.cell? ⟨z,4,none⟩=some (int i64 (s.c:Nat)):=by unfold Dt at h;simp[World.cell?,h]
theorem Dt.fz(h:Dt w z u1 u2 s)(i:Nat):w.frozen? ⟨z,i,none⟩=false:=by unfold Dt at h;simp[World.frozen?,h]
theorem Dt.lt(h:Dt w z u1 u2 s):z<w.heap.size:=lt_of_block h
theorem Dt.below{w':World}{n:Nat}(h:Dt w z u1 u2 s)(hb:Below n w w')(hz:z<n):Dt w' z u1 u2 s:=(hb.block z hz).trans h
end
theorem NH(z:Nat)(u1 u2:Value)(s:Fd.St)(w:World)(h:Dt w z u1 u2 s)(hc:s.c<=12)(hw:s.W<=12)(hb:s.c=0\/s.c<s.W):
  Calls Tryz.prog 117 #[.pointer (some ⟨z,0,none⟩)] w λe w'=>e=.returned (.iface 75 (int i64 2))/\∃n,w'=w.drewN n:=by
 have c0:=h.c0;have c4:=h.c4;obtain⟨c,W,H,gs,os⟩:=s;simp only at hc hw hb c0 c4;clear h;by_cases q:c=0
 ·subst q
  go_enter Tryz.func117,Tryz.ntmps117;go_wp2_with fail
  go_quiet (fail);go_wp2;go_ret;exact⟨rfl,_,rfl⟩
 ·have q2:c<W:=by omega
  have q':((c:Int)==0)=false:=by rw[beq_eq_false_iff_ne];omega
  clear hb;go_enter Tryz.func117,Tryz.ntmps117;go_wp2_with fail
  go_quiet (fail);go_wp2;go_ret;exact⟨rfl,_,rfl⟩
theorem QY(z:Nat)(u1 u2:Value)(s:Fd.St)(w:World)(h:Dt w z u1 u2 s)(hc:s.c<=12)(hw:s.W<=12)(hh:s.H<=12)(h0:s.c≠0)(h1:¬s.c<s.W):
  Calls Tryz.prog 117 #[.pointer (some ⟨z,0,none⟩)] w λe w'=>e=.returned .nilIface/\Dt w' z u1 u2 ⟨0,s.c,s.H+1,s.gs,s.os⟩/\Kp z w w':=by
 have D:=aj (h);have c0:=h.c0;have c1:=h.c1;have c4:=h.c4;have f0:=h.fz 0;have f1:=h.fz 1;have f4:=h.fz 4;obtain⟨c,W,H,gs,os⟩:=s;simp only at hc hw hh h0 h1 c0 c1 c4;have q':((c:Int)==0)=false:=by rw[beq_eq_false_iff_ne];omega
 clear h;go_enter Tryz.func117,Tryz.ntmps117;go_wp2_with fail
 go_quiet (fail);have Dq:Hid (Dt (w.drewN nq) z u1 u2 _):=D;have Kq:=aj ((Kp.refl z w).drewN nq);have c0:(w.drewN nq).cell? _=some (int i64 (W:Nat)):=Dq.c0;have c1:(w.drewN nq).cell? _=some (int i64 (H:Nat)):=Dq.c1;have c4:(w.drewN nq).cell? _=some (int i64 (c:Nat)):=Dq.c4;have f0:=Dq.fz 0;have f1:=Dq.fz 1;have f4:=Dq.fz 4;generalize w.drewN nq=w1 at *;go_wp2;go_ret;refine⟨rfl,?_,?_⟩
 ·unfold Dt
  rw[heap_setCell_same _ z 4 _ _ _ (heap_setCell_same _ z 1 _ _ _ (heap_setCell_same w1 z 0 _ _ _ Dq.out))];simp
 ·exact((Kq.trans (Kp.set _ _ _)).trans (Kp.set _ _ _)).trans (Kp.set _ _ _)
structure yP(s:Fd.St):Prop where
 w0:s.H=0->s.W=0
 cw:0<s.H->s.c<=s.W
 c12:s.c<=12
 w12:s.W<=12
 h12:s.H<=12
 gl:s.gs.length<=156
 ol:s.os.length<=156
theorem yP.of{s:Fd.St}{l:List UInt8}(h:Fd.Inv s l):yP s:=by
 have e:s.H*s.W<=144:=Nat.mul_le_mul h.h12 h.w12;have:=h.c12;exact⟨h.w0,h.cw,h.c12,h.w12,h.h12,by rw[h.gl];omega,by rw[h.ol];omega⟩
theorem JU{s:Fd.St}(h:yP s):Fd.step s 10=if s.c=0\/s.c<s.W then .inl 2 else .inr ⟨0,s.c,s.H+1,s.gs,s.os⟩:=by
 unfold Fd.step;rw[if_pos rfl];have:=h.w0;have:=h.cw
 by_cases q:s.c=0\/(0<s.H/\s.c≠s.W)
 ·rw[if_pos q,if_pos (by omega)]
 ·rw[if_neg q,if_neg (by omega)]
theorem step_none{s:Fd.St}{b:UInt8}(hb:b≠10)(hm:Fd.meant b=none):Fd.step s b=.inl 2:=by
 unfold Fd.step;rw[if_neg hb,hm]
theorem step_some{s:Fd.St}{b:UInt8}{g o:Int}(hb:b≠10)(hm:Fd.meant b=some (g,o)):Fd.step s b=if 0<s.H/\s.c=s.W then .inl 2 else if s.c=12\/s.H=12 then .inl 4 else .inr ⟨s.c+1,s.W,s.H,s.gs++[g],s.os++[o]⟩:=by
 unfold Fd.step;rw[if_neg hb,hm]
theorem JV(z:Nat)(s:Fd.St)(w:World)(h:Dr w z s)(ok:yP s):
  Calls Tryz.prog 79 #[.pointer (some ⟨z,0,none⟩),.int .u8 10] w λe w'=>(∃f,Fd.step s 10=.inl f/\e=.returned (.iface 75 (int i64 f))/\f≠0/\Below z w w')\/(∃s',Fd.step s 10=.inr s'/\e=.returned .nilIface/\Dr w' z s'/\Below z w w'):=by
 obtain⟨u1,u2,hd,ht⟩:=h;have S:=JU ok;have HS:Hid _:=S;clear S;by_cases q:s.c=0\/s.c<s.W
 ·have K:=aj (NH z u1 u2 s w hd ok.c12 ok.w12 q)
  have Q:=aj (q);clear q hd ht ok;go_enter Tryz.func79,Tryz.ntmps79;go_wp2_with fail
  refine Calls.mono K ?_;rintro e w1 ⟨rfl,n,rfl⟩;go_wp2;go_ret;exact .inl ⟨2,by rw[HS.out,if_pos Q.out],rfl,by decide,_root_.Go.below_drewN (Below.refl _ _) _⟩
 ·have K:=aj (QY z u1 u2 s w hd ok.c12 ok.w12 ok.h12 (λe=>q (.inl e)) (λe=>q (.inr e)))
  have Q:=aj (q);have T:=aj (ht);have L:=aj (hd.lt);clear q hd ht ok;go_enter Tryz.func79,Tryz.ntmps79;go_wp2_with fail
  refine Calls.mono K ?_;rintro e w1 ⟨rfl,hd1,hk1⟩;have D1:=aj (hd1);have K1:=aj (hk1);clear hd1 hk1;go_wp2;go_ret;refine .inr ⟨_,by rw[HS.out,if_neg Q.out],rfl,⟨u1,u2,D1,T.kp K1 (Nat.lt_succ_self _)⟩,Kp.below (Below.refl _ _) K1 (Nat.le_of_lt L) (Nat.le_refl _)⟩
theorem Ed(z:Nat)(s:Fd.St)(b:UInt8)(w:World)(h:Dr w z s)(ok:yP s)(hb:b≠10):
  Calls Tryz.prog 79 #[.pointer (some ⟨z,0,none⟩),.int .u8 (b.toNat:Nat)] w λe w'=>(∃f,Fd.step s b=.inl f/\e=.returned (.iface 75 (int i64 f))/\f≠0/\Below z w w')\/(∃s',Fd.step s b=.inr s'/\e=.returned .nilIface/\Dr w' z s'/\Below z w w'):=by
 obtain⟨u1,u2,hd,ht⟩:=h;have hb2:=b.toNat_lt;have hb3:¬((b.toNat:Nat):Int)=10:=by
  intro e;have e2:b.toNat=10:=by omega
  exact hb (UInt8.toNat_inj.1 e2)
 have M:=aj (Ec b);have HB:=aj (hb);have D:=aj (hd);have T:=aj (ht);have K:=aj (ok);clear hb hd ht ok;generalize b.toNat=n at *;go_enter Tryz.func79,Tryz.ntmps79;go_wp2_with fail
 refine(M _).mono ?_;rintro e w1 hm;rcases hm with⟨g,o,hm,rfl,rfl⟩|⟨hm,rfl,rfl⟩
 ·have HS:Hid _:=step_some (s:=s) HB hm
  have c0:=D.c0;have c1:=D.c1;have c2:=D.c2;have c3:=D.c3;have c4:=D.c4;obtain⟨c,W,H,gs,os⟩:=s;simp only at c0 c1 c4;have k12:=K.c12;have w12:=K.w12;have h12:=K.h12;simp only at k12 w12 h12;clear hm M;by_cases q1:0<H/\c=W
  ·obtain⟨Zi,Yd⟩:=q1
   have QZ:Hid (Fd.step ⟨c,W,H,gs,os⟩ b=.inl 2):=by unfold Hid;rw[HS.out,if_pos ⟨Zi,Yd⟩]
   subst Yd;go_wp2_with fail
   go_quiet (fail);go_wp2;go_ret;exact .inl ⟨2,QZ,rfl,by decide,_root_.Go.below_drewN (Below.refl _ _) _⟩
  ·have HS1:Hid (Fd.step ⟨c,W,H,gs,os⟩ b=if c=12\/H=12 then .inl 4 else .inr ⟨c+1,W,H,gs++[g],os++[o]⟩):=by unfold Hid;rw[HS.out,if_neg q1]
   clear HS;go_wp2_with fail
   go_cut [39] (λv W'=>v=.bool false/\∃n,W'=w1.drewN n)
   case first=>
    by_cases q2:H=0
    ·subst q2
     go_quiet (fail);go_wp2_with fail
     go_meet
     case rel=>exact⟨rfl,_,rfl⟩
    ·have q3:0<H:=by omega
     have q4:¬c=W:=λe=>q1 ⟨q3,e⟩
     have q4b:((c:Int)==(W:Int))=false:=by rw[beq_eq_false_iff_ne];omega
     clear q1;go_quiet (fail);go_wp2_with fail
     go_meet
     case rel=>exact⟨rfl,_,rfl⟩
   case rest=>
    obtain⟨rfl,nn,hn⟩:=hcut;have kb:Below w1.heap.size w1 wc:=by rw[hn];exact _root_.Go.below_drewN (Below.refl _ _) _
    have D2:=aj (D.below kb D.lt);have T2:=aj (T.below kb (Nat.le_refl _));have B2:=aj (kb.mono (Nat.le_of_lt D.lt));clear kb hn c0 c1 c2 c3 c4 q1 D T;have c0:=D2.c0;have c1:=D2.c1;have c2:=D2.c2;have c3:=D2.c3;have c4:=D2.c4;simp only at c0 c1 c4;by_cases q5:c=12
    ·subst q5
     have QZ:Hid (Fd.step ⟨12,W,H,gs,os⟩ b=.inl 4):=by unfold Hid;rw[HS1.out,if_pos (.inl rfl)]
     go_wp2;go_ret;exact .inl ⟨4,QZ,rfl,by decide,B2⟩
    ·have q5b:((c:Int)==12)=false:=by rw[beq_eq_false_iff_ne];omega
     by_cases q6:H=12
     ·subst q6
      have QZ:Hid (Fd.step ⟨c,W,12,gs,os⟩ b=.inl 4):=by unfold Hid;rw[HS1.out,if_pos (.inr rfl)]
      go_wp2;go_ret;exact .inl ⟨4,QZ,rfl,by decide,B2⟩
     ·have q6b:((H:Int)==12)=false:=by rw[beq_eq_false_iff_ne];omega
      have QZ:Hid (Fd.step ⟨c,W,H,gs,os⟩ b=.inr ⟨c+1,W,H,gs++[g],os++[o]⟩):=by unfold Hid;rw[HS1.out,if_neg (by omega)]
      have gl:=K.gl;have ol:=K.ol;simp only at gl ol;have L2:=aj (D2.lt);clear HS1;go_wp2_with (at_builtin;refine gJ _ rfl _ _ rfl (z+1) _ gs rfl (T2.o1.alloc _) ⟨wc.heap.size,0,none⟩ g rfl (by simp) (by omega) (by have:=L2.out;simp;omega) ?_);intro g1 cap1 w3 o3 g3 a3 l3;have hob:∀k,u1.ownBlock=some k->z+1<=k:=λk hk=>(T2.o1.block k hk).1
      have b3:Below (z+1) wc w3:=((Below.refl _ _).alloc L2 _).grown g3 (by have:=L2.out;simp;omega) hob;have D3:=D2.below b3 (Nat.lt_succ_self _);have O3:=(T2.o2.alloc _).kept g3 (by
       cases hq:u2.ownBlock with
       |none=>exact .inl rfl
       |some k=>exact .inr (λe=>T2.ne k e.symm hq))
      have N3:Hid (∀k,u2.ownBlock=some k->k≠g1):=by
       intro k hk e;subst e;rcases a3 with a3|a3
       ·exact T2.ne _ a3 hk
       ·have:=(T2.o2.block _ hk).2
        try simp at a3
        omega
      have K3:Kp z w3 (w3.setCell ⟨z,2,none⟩ (slice (some ⟨g1,0,none⟩) (gs.length+1) cap1)):=Kp.set _ _ _;have T3:Hid (Two (w3.setCell ⟨z,2,none⟩ (slice (some ⟨g1,0,none⟩) (gs.length+1) cap1)) (z+1) (slice (some ⟨g1,0,none⟩) (gs.length+1) cap1) u2 (gs++[g]) os):=
       (show Two w3 (z+1) (slice (some ⟨g1,0,none⟩) (gs.length+1) cap1) u2 (gs++[g]) os from⟨o3,O3,λk hk e=>N3 k e (Option.some.inj hk).symm⟩).kp K3 (Nat.lt_succ_self _)
      have D4:Hid (Dt (w3.setCell ⟨z,2,none⟩ (slice (some ⟨g1,0,none⟩) (gs.length+1) cap1)) z (slice (some ⟨g1,0,none⟩) (gs.length+1) cap1) u2 ⟨c,W,H,gs++[g],os⟩):=by
       unfold Hid Dt;rw[heap_setCell_same w3 z 2 _ _ _ D3];simp
      have B4:Hid (Below z w1 (w3.setCell ⟨z,2,none⟩ (slice (some ⟨g1,0,none⟩) (gs.length+1) cap1))):=(B2.trans (b3.mono (Nat.le_succ _))).setCell (Nat.le_refl _) _;have e2:=D3.c2;have e3:=D3.c3;have f2:=D3.fz 2;have z3:=aj (D3.lt);clear o3 g3 a3 l3 hob b3 D3 O3 K3 c0 c1 c2 c3 c4;go_wp2_with (at_builtin;refine gJ _ rfl _ _ rfl (z+1) _ os rfl (T3.o2.alloc _) ⟨w3.heap.size,0,none⟩ o rfl (by rw[World.cell?_alloc_at _ _ _ _ (by simp)];rfl) (by omega) (by have:=z3.out;simp;omega) ?_);intro g2 cap2 w5 o5 g5 a5 l5;have hob:∀k,u2.ownBlock=some k->z+1<=k:=λk hk=>(T3.o2.block k hk).1
      have b5:=((Below.refl _ _).alloc (by have:=z3.out;simp;omega) _).grown g5 (by have:=z3.out;simp;omega) hob;have D5:=D4.below b5 (Nat.lt_succ_self _);have O5:=(T3.o1.alloc _).kept g5 (by
       cases hq:(slice (some ⟨g1,0,none⟩) (gs.length+1) cap1).ownBlock with
       |none=>exact .inl rfl
       |some k=>exact .inr (λe=>T3.ne k hq e.symm))
      have N5:Hid (∀k,(slice (some ⟨g1,0,none⟩) (gs.length+1) cap1).ownBlock=some k->k≠g2):=by
       intro k hk e;subst e;rcases a5 with a5|a5
       ·exact T3.ne _ hk a5
       ·have:=(T3.o1.block _ hk).2
        simp at this
        try simp at a5
        omega
      have K5:Kp z w5 (w5.setCell ⟨z,3,none⟩ (slice (some ⟨g2,0,none⟩) (os.length+1) cap2)):=Kp.set _ _ _;have T5:Hid (Two (w5.setCell ⟨z,3,none⟩ (slice (some ⟨g2,0,none⟩) (os.length+1) cap2)) (z+1) (slice (some ⟨g1,0,none⟩) (gs.length+1) cap1) (slice (some ⟨g2,0,none⟩) (os.length+1) cap2) (gs++[g]) (os++[o])):=
       (show Two w5 (z+1) (slice (some ⟨g1,0,none⟩) (gs.length+1) cap1) (slice (some ⟨g2,0,none⟩) (os.length+1) cap2) (gs++[g]) (os++[o]) from⟨O5,o5,λk hk e=>N5 k hk (Option.some.inj e).symm⟩).kp K5 (Nat.lt_succ_self _)
      have D6:Hid (Dt (w5.setCell ⟨z,3,none⟩ (slice (some ⟨g2,0,none⟩) (os.length+1) cap2)) z (slice (some ⟨g1,0,none⟩) (gs.length+1) cap1) (slice (some ⟨g2,0,none⟩) (os.length+1) cap2) ⟨c,W,H,gs++[g],os++[o]⟩):=by
       unfold Hid Dt;rw[heap_setCell_same w5 z 3 _ _ _ D5];simp
      have B6:Hid (Below z w1 (w5.setCell ⟨z,3,none⟩ (slice (some ⟨g2,0,none⟩) (os.length+1) cap2))):=(B4.trans (b5.mono (Nat.le_succ _))).setCell (Nat.le_refl _) _;have e4:=D5.c3;have e5:w5.cell? _=some (int i64 (c:Nat)):=D5.c4;have f3:=D5.fz 3;have f4:=D5.fz 4;clear o5 g5 a5 l5 hob b5 D5 O5 K5 e2 e3 f2;go_wp2;go_ret;refine .inr ⟨_,QZ,rfl,⟨(slice _ _ cap1),(slice _ _ cap2),?_,T5.kp (Kp.set _ _ _) (Nat.lt_succ_self _)⟩,B6.setCell (Nat.le_refl _) _⟩;unfold Dt;rw[heap_setCell_same _ z 4 _ _ _ D6.out];simp
 ·have HS:Hid (Fd.step s b=.inl 2):=step_none HB hm
  go_wp2_with fail
  go_quiet (fail);go_wp2;go_ret;exact .inl ⟨2,HS,rfl,by decide,_root_.Go.below_drewN (Below.refl _ _) _⟩
theorem Ee(z:Nat)(s:Fd.St)(b:UInt8)(w:World)(h:Dr w z s)(ok:yP s):
  Calls Tryz.prog 79 #[.pointer (some ⟨z,0,none⟩),.int .u8 (b.toNat:Nat)] w λe w'=>(∃f,Fd.step s b=.inl f/\e=.returned (.iface 75 (int i64 f))/\f≠0/\Below z w w')\/(∃s',Fd.step s b=.inr s'/\e=.returned .nilIface/\Dr w' z s'/\Below z w w'):=by
 by_cases hb:b=10
 ·subst hb
  exact JV z s w h ok
 ·exact Ed z s b w h ok hb
theorem Q_{l:List UInt8}{k:Nat}(st:Fd.St)(h:k<l.length):Fd.run st k (l.drop k)=match Fd.step st l[k] with| .inl e=>.inl (k,e)| .inr s'=>Fd.run s' (k+1) (l.drop (k+1)):=by
 rw[List.drop_eq_getElem_cons h];rfl
def Says(l:List UInt8)(e:Ending)(w':World):Prop:=
 (∃(i:Nat) (f:Int),Fd.parse l=.inl (i,f)/\e=.returned (.tuple #[.agg #[int i64 0,int i64 0,slice none 0 0,slice none 0 0],int i64 (i:Nat),.iface 75 (int i64 f)])/\f≠0)\/
 (∃st u1 u2,Fd.parse l=.inr st/\e=.returned (.tuple #[.agg #[int i64 (st.W:Nat),int i64 (st.H:Nat),u1,u2],int i64 0,.nilIface])/\Ro w' u1 st.gs/\Ro w' u2 st.os)
def NI(b:Nat)(l:List UInt8)(e:Ending)(w':World):Prop:=
 (∃(i:Nat) (f:Int),Fd.parse l=.inl (i,f)/\e=.returned (.tuple #[.agg #[int i64 0,int i64 0,slice none 0 0,slice none 0 0],int i64 (i:Nat),.iface 75 (int i64 f)])/\f≠0)\/
 (∃st u1 u2,Fd.parse l=.inr st/\e=.returned (.tuple #[.agg #[int i64 (st.W:Nat),int i64 (st.H:Nat),u1,u2],int i64 0,.nilIface])/\Two w' (b+1+1) u1 u2 st.gs st.os)
theorem Ef(s:ByteArray)(w:World)(hs:s.size<=maxLen):
  Calls Tryz.prog 43 #[.string s] w λe w'=>NI w.heap.size s.data.toList e w'/\Below w.heap.size w w':=by
 unfold maxLen at hs;generalize hl:s.data.toList=l;have Hl:=aj (hl);have Ll:Hid (l.length=s.size):=by unfold Hid;rw[<-hl];rfl
 clear hl;have P:Hid (Fd.parse l=match Fd.run Fd.st0 0 l with| .inl x=>.inl x| .inr s=>if 0<s.c\/s.H=0 then .inl _ else .inr s):=rfl;go_enter Tryz.func43,Tryz.ntmps43;go_wp2_with fail
 have B0:Hid (Below _ w ((w.alloc (Obj.cells #[int i64 0,int i64 0,slice none 0 0,slice none 0 0] 25)).alloc (Obj.cells #[int i64 0,int i64 0,slice none 0 0,slice none 0 0,int i64 0] 122))):=((Below.refl _ _).alloc (Nat.le_refl _) _).alloc (by simp) _;have D0:Hid (Dr ((w.alloc (Obj.cells #[int i64 0,int i64 0,slice none 0 0,slice none 0 0] 25)).alloc (Obj.cells #[int i64 0,int i64 0,slice none 0 0,slice none 0 0,int i64 0] 122)) (w.heap.size+1) Fd.st0):=by
  refine⟨slice none 0 0,slice none 0 0,?_,⟨Ow.nil _ _,Ow.nil _ _,λk h=>by cases h⟩⟩;have e:(w.alloc (Obj.cells #[int i64 0,int i64 0,slice none 0 0,slice none 0 0] 25)).heap.size=w.heap.size+1:=by simp
  unfold Dt;rw[<-e];exact heap_alloc_new _ _
 have X0:Hid (Bf ((w.alloc (Obj.cells #[int i64 0,int i64 0,slice none 0 0,slice none 0 0] 25)).alloc (Obj.cells #[int i64 0,int i64 0,slice none 0 0,slice none 0 0,int i64 0] 122)) w.heap.size 0 0 (slice none 0 0) (slice none 0 0)):=
  (Bf.mk' (w:=w) 0 0 (slice none 0 0) (slice none 0 0) rfl).below ((Below.refl _ _).alloc (Nat.le_refl _) _) (by simp)
 have Z0:Hid (∀i,((w.alloc (Obj.cells #[int i64 0,int i64 0,slice none 0 0,slice none 0 0] 25)).alloc (Obj.cells #[int i64 0,int i64 0,slice none 0 0,slice none 0 0,int i64 0] 122)).frozen? ⟨w.heap.size,i,none⟩=false):=by
  intro i;rw[((Below.refl _ (w.alloc (Obj.cells #[int i64 0,int i64 0,slice none 0 0,slice none 0 0] 25))).alloc (Nat.le_refl _) _).frozen (p:=⟨w.heap.size,i,none⟩) (by simp)];simp
 generalize (w.alloc _).alloc _=w0 at *;go_loopw [10] (λi W'=>∃(k:Nat) (st:Fd.St),k<=s.size/\i=int i64 (k:Nat)/\Dr W' (w.heap.size+1) st/\Fd.Inv st (l.take k)/\Fd.run st k (l.drop k)=Fd.run Fd.st0 0 l/\Below (w.heap.size+1) w0 W') (λi _=>s.size-(intOf i).toNat)
 case atStart=>exact⟨0,Fd.st0,Nat.zero_le _,rfl,D0,by simpa using Fd.inv0,by simp,Below.refl _ _⟩
 case round=>
  obtain⟨k,st,hk,rfl,hd,hi,hrun,hb⟩:=hrel;have D:=aj (hd);have I:=aj (hi);have R:=aj (hrun);have B:=aj (hb);have X:=aj (X0.below hb (Nat.lt_succ_self _));have Z:Hid (∀i,wr.frozen? _=false):=λi=>by rw[hb.frozen (p:=⟨w.heap.size,i,none⟩) (Nat.lt_succ_self _)];exact Z0 i
  have BW:=aj (B0.trans (hb.mono (Nat.le_succ _)));clear hd hi hrun hb D0;by_cases h0:k=s.size
  ·subst h0
   have R2:Hid (Fd.run Fd.st0 0 l=.inr st):=by
    unfold Hid;rw[<-R.out,List.drop_of_length_le (by rw[Ll.out];exact Nat.le_refl _)];rfl
   obtain⟨u1,u2,hd,ht⟩:=D.out;have T:=aj (ht);have c0:=hd.c0;have c1:=hd.c1;have c2:=hd.c2;have c3:=hd.c3;have c4:=hd.c4;obtain⟨x0,x1,x2,x3⟩:=X.out;have z0:=Z 0;have z1:=Z 1;have z2:=Z 2;have z3:=Z 3;have k12:=I.c12;have h12:=I.h12;have w12:=I.w12;obtain⟨c,W,H,gs,os⟩:=st;simp only at c0 c1 c4 k12 h12 w12;have P2:Hid (Fd.parse l=if 0<c\/H=0 then .inl (l.length,2) else .inr ⟨c,W,H,gs,os⟩):=by
    unfold Hid;rw[P.out,R2.out]
   clear hd ht;by_cases q1:0<c
   ·go_wp2
    refine bodyPost_ret (by simp[results,Tryz.results43,go_sem,x0,x1,x2,x3]) rfl ⟨.inl ⟨s.size,2,by rw[P2.out,if_pos (.inl q1),Ll.out],rfl,by decide⟩,?_⟩;exact(((BW.setCell (Nat.le_refl _) _).setCell (Nat.le_refl _) _).setCell (Nat.le_refl _) _).setCell (Nat.le_refl _) _
   ·obtain rfl:c=0:=by omega
    by_cases q2:H=0
    ·subst q2
     go_wp2;refine bodyPost_ret (by simp[results,Tryz.results43,go_sem,x0,x1,x2,x3]) rfl ⟨.inl ⟨s.size,2,by rw[P2.out,Ll.out];simp,rfl,by decide⟩,?_⟩;exact(((BW.setCell (Nat.le_refl _) _).setCell (Nat.le_refl _) _).setCell (Nat.le_refl _) _).setCell (Nat.le_refl _) _
    ·have q2b:((H:Int)==0)=false:=by rw[beq_eq_false_iff_ne];omega
     obtain⟨p1,k1,rfl⟩:=T.o1.len;obtain⟨p2,k2,rfl⟩:=T.o2.len;have KK:Hid (Kp _ wr ((((wr.setCell ⟨w.heap.size,0,none⟩ (int i64 (W:Nat))).setCell ⟨w.heap.size,1,none⟩ (int i64 (H:Nat))).setCell ⟨w.heap.size,2,none⟩ (slice p1 gs.length k1)).setCell ⟨w.heap.size,3,none⟩ (slice p2 os.length k2))):=(((Kp.set _ _ _).trans (Kp.set _ _ _)).trans (Kp.set _ _ _)).trans (Kp.set _ _ _);go_wp2;refine bodyPost_ret (v:=.tuple #[.agg #[int i64 (W:Nat),int i64 (H:Nat),slice p1 gs.length k1,slice p2 os.length k2],int i64 0,.nilIface]) (by simp[results,Tryz.results43,go_sem,x0,x1,x2,x3]) rfl ⟨.inr ⟨_,_,_,by rw[P2.out,if_neg (by omega)],rfl,?_⟩,?_⟩
     ·exact T.kp KK (by omega)
     ·exact(((BW.setCell (Nat.le_refl _) _).setCell (Nat.le_refl _) _).setCell (Nat.le_refl _) _).setCell (Nat.le_refl _) _
  ·have hks:k<s.size:=by omega
   have hkl:k<l.length:=by rw[Ll.out];exact hks
   have RA:=Q_ st hkl;rw[R.out] at RA;have eb:l[k]=s[k]:=by
    have:=Hl.out;subst this;rfl
   rw[eb] at RA;have UY:Hid _:=RA;have TK:Hid (l.take (k+1)=l.take k++[s[k]]):=by unfold Hid;rw[List.take_succ_eq_append_getElem hkl,eb]
   have KR:=aj (Ee _ st s[k] wr D (yP.of I));clear RA eb;go_wp2_with fail
   refine Calls.mono KR ?_;rintro e w1 hm;rcases hm with⟨f,hst,rfl,hf,hb⟩|⟨st',hst,rfl,hd',hb⟩
   ·have P2:Hid (Fd.parse l=.inl (k,f)):=by
     unfold Hid;rw[P.out,UY.out,hst]
    have Hf:=aj (hf);have B1:=aj (BW.trans (hb.mono (Nat.le_succ _)));have X1:=X.below hb (Nat.lt_succ_self _);have z0:w1.frozen? ⟨w.heap.size,0,none⟩=false:=by rw[hb.frozen (p:=⟨w.heap.size,0,none⟩) (Nat.lt_succ_self _)];exact Z 0
    have z1:w1.frozen? ⟨w.heap.size,1,none⟩=false:=by rw[hb.frozen (p:=⟨w.heap.size,1,none⟩) (Nat.lt_succ_self _)];exact Z 1
    have z2:w1.frozen? ⟨w.heap.size,2,none⟩=false:=by rw[hb.frozen (p:=⟨w.heap.size,2,none⟩) (Nat.lt_succ_self _)];exact Z 2
    have z3:w1.frozen? ⟨w.heap.size,3,none⟩=false:=by rw[hb.frozen (p:=⟨w.heap.size,3,none⟩) (Nat.lt_succ_self _)];exact Z 3
    obtain⟨x0,x1,x2,x3⟩:=X1;clear hst hf hb KR UY;go_wp2;refine bodyPost_ret (by simp[results,Tryz.results43,go_sem,x0,x1,x2,x3]) rfl ⟨.inl ⟨k,f,P2,rfl,Hf⟩,?_⟩;exact(((B1.setCell (Nat.le_refl _) _).setCell (Nat.le_refl _) _).setCell (Nat.le_refl _) _).setCell (Nat.le_refl _) _
   ·have I2:Hid (Fd.Inv st' (l.take (k+1))):=by unfold Hid;rw[TK.out];exact I.step hst
    have R2:Hid (Fd.run st' (k+1) (l.drop (k+1))=Fd.run Fd.st0 0 l):=by unfold Hid;rw[UY.out,hst]
    have D2:=aj (hd');have B2:=aj (B.trans hb);clear hst hd' hb KR UY;go_wp2;go_round
    case rel=>exact⟨k+1,st',by omega,by go_num,D2,I2,R2,B2⟩
    case measure=>simp[intOf];omega
theorem parse_any(s:ByteArray)(w:World)(hs:s.size<=maxLen):
  Calls Tryz.prog 43 #[.string s] w λe w'=>Says s.data.toList e w'/\Below w.heap.size w w':=
 (Ef s w hs).mono λe w' ⟨h,hb⟩=>⟨h.imp id λ⟨st,u1,u2,h1,h2,h3⟩=>⟨st,u1,u2,h1,h2,h3.o1.ro,h3.o2.ro⟩,hb⟩
open Go.Proofs.YtamegacbmbgcfaaGreatDoor.So
namespace One
def X0:WV:=⟨0,1,4,2,SG,SO,[0],[],[]⟩
def X1:WV:=⟨0,2,4,2,SG,SO,[0],[ob],[]⟩
theorem f0:Wd.dW OK 4 2 SG SO 1 0=0:=by decide+kernel
theorem f1:Wd.dG OK X0 0 0 0=0:=by decide+kernel
theorem f2:Wd.dG OK X1 0 1 1=0:=by decide+kernel
theorem e0:Wd.begun OK 4 2 SG SO 1 0=X0:=vS f0
theorem e1:Wd.placed OK X0 0 0 0=X1:=(jV f1).trans rfl
theorem e2:Wd.placed OK X1 0 1 1=OX:=(jV f2).trans rfl
theorem names:∀k∈OK,k.b.size<=9223372036854775807:=by
 intro k hk;unfold OK at hk;rcases List.mem_cons.1 hk with rfl|hk
 ·decide
 rcases List.mem_cons.1 hk with rfl|hk
 ·decide
 ·cases hk
theorem ez{r:Value}(h:Er r 0):r=.nilIface:=by
 rcases h with⟨-,h⟩|⟨h,-⟩
 ·exact h
 ·exact absurd rfl h
theorem Ut{w:World}{z:Nat}(hz:w.heap.size=z):Kl (w.alloc (.cells #[.string ⟨#[98,97,115,101]⟩,int i64 50,int i64 0,int i64 0,int i64 0,int i64 0,int i64 0,int i64 0,int i64 0,.bool false,.bool true,.string ⟨#[100,105,103,103,101,114]⟩,int i64 10,int i64 0,int i64 0,int i64 0,int i64 2,int i64 0,int i64 0,int i64 20,.bool false,.bool false] 65)) (slice (some ⟨z,0,none⟩) 2 2) OK:=by
 subst hz;refine⟨_,2,rfl,Nat.le_refl _,by omega,λ_=>⟨_,rfl,by simp,λi k hi=>?_⟩⟩;have hl:i<2:=(List.getElem?_eq_some_iff.1 hi).1;rw[Addr.add_lit,Nat.zero_add]
 match i,hl,hi with
 |0,_,hi=>injection hi with hi;subst hi;constructor<;>simp[OB]
 |1,_,hi=>injection hi with hi;subst hi;constructor<;>simp[OD]
theorem Uu(w:World):zB (w.alloc (Obj.cells #[int i64 0,int i64 2,int i64 2,int i64 6] 72)) (slice (some ⟨w.heap.size,0,none⟩) 1 1) [oo]:=by
 refine⟨_,_,rfl,by decide,by decide,λ_=>⟨⟨w.heap.size,0,none⟩,rfl,by simp,λi k hk=>?_⟩⟩;have hn:=heap_alloc_new w (Obj.cells #[int i64 0,int i64 2,int i64 2,int i64 6] 72)
 match i,hk with
 |0,hk=>simp[oo] at hk;subst hk;refine⟨?_,?_,?_,?_⟩<;>(simp only[World.cell?,Addr.add_lit,hn];rfl)
 |i+1,hk=>simp at hk
theorem Uw(w:World)(v:Value)(hv:zB w v [oo]):RG (w.alloc (Obj.cells #[v,slice none 0 0,slice none 0 0] 30)) (slice (some ⟨w.heap.size,0,none⟩) 3 3) [[oo],[],[]]:=by
 have hn:=heap_alloc_new w (Obj.cells #[v,slice none 0 0,slice none 0 0] 30);have hb:Below _ w (w.alloc (Obj.cells #[v,slice none 0 0,slice none 0 0] 30)):=(Below.refl _ _).alloc (Nat.le_refl _) _;have ol:∀W,zB W (slice none 0 0) []:=λW=>⟨none,0,rfl,Nat.le_refl _,by omega,λh=>absurd rfl h⟩
 refine⟨_,_,rfl,by decide,by decide,λ_=>⟨⟨w.heap.size,0,none⟩,rfl,by simp,λi l hl=>?_⟩⟩
 match i,hl with
 |0,hl=>simp at hl;subst hl;exact⟨_,by simp only[World.cell?,Addr.add_lit,hn];rfl,hv.below hb⟩
 |1,hl=>simp at hl;subst hl;exact⟨_,by simp only[World.cell?,Addr.add_lit,hn];rfl,ol _⟩
 |2,hl=>simp at hl;subst hl;exact⟨_,by simp only[World.cell?,Addr.add_lit,hn];rfl,ol _⟩
 |i+3,hl=>simp at hl
end One
theorem one_any(w:World)(hsd:Sd w):Calls Tryz.prog 18 #[] w λe w'=>e=.returned (.bool true)/\Below w.heap.size w w':=by
 have Xe:=aj (hsd);clear hsd;go_enter Tryz.func18,Tryz.ntmps18;go_upto_region 2 with fail
 have KL:Hid (Kl _ (slice (some ⟨w.heap.size,0,none⟩) 2 2) OK):=One.Ut rfl;have B0:Hid (Below _ w (w.alloc (Obj.cells #[.string ⟨#[98,97,115,101]⟩,int i64 50,int i64 0,int i64 0,int i64 0,int i64 0,int i64 0,int i64 0,int i64 0,.bool false,.bool true,.string ⟨#[100,105,103,103,101,114]⟩,int i64 10,int i64 0,int i64 0,int i64 0,int i64 2,int i64 0,int i64 0,int i64 20,.bool false,.bool false] 65))):=(Below.refl _ _).alloc (Nat.le_refl _) _;generalize w.alloc _=w0 at *;obtain⟨zk,Xf⟩:∃z,w.heap.size=z:=⟨_,rfl⟩;have Zj:=aj (Xf);rw[Xf] at KL ⊢;clear Xf;go_wp2_with fail
 refine(parse_any _ w0 (by decide)).mono ?_;rintro e w1 ⟨hs,hb⟩;have hp:Fd.parse (⟨#[46,46,46,46,10,46,46,51,46,10]⟩:ByteArray).data.toList=.inr _:=JE;rcases hs with⟨i,f,h1,-⟩|⟨st,u1,u2,h1,h2,r1,r2⟩
 ·rw[hp] at h1;cases h1
 rw[hp] at h1;injection h1 with h1
 subst h1;subst h2;have RO:Hid (Ro w1 u1 SG/\Ro w1 u2 SO):=⟨r1,r2⟩;obtain⟨p1,q1,rfl,-⟩:=r1;obtain⟨p2,q2,rfl,-⟩:=r2;have B1:=aj (hb);clear hb hp;have l8:SG.length=8:=rfl;have l8':SO.length=8:=rfl;rw[l8,l8'] at *;clear l8 l8';go_upto_region 3 with fail
 have BA:Hid (Below _ w1 (w1.alloc (Obj.cells #[int i64 4,int i64 2,slice p1 8 q1,slice p2 8 q2] 25))):=(Below.refl _ _).alloc (Nat.le_refl _) _;obtain⟨zf,Xg⟩:∃z,w1.heap.size=z:=⟨_,rfl⟩;have X2:Hid (Bx _ zf 4 2 (slice p1 8 q1) (slice p2 8 q2)):=Bx.mk' _ _ _ _ Xg;have FL:Hid (Fl (w1.alloc (Obj.cells #[int i64 4,int i64 2,slice p1 8 q1,slice p2 8 q2] 25)) (.agg #[int i64 4,int i64 2,slice p1 8 q1,slice p2 8 q2]) 4 2 SG SO):=⟨_,_,rfl,RO.1.below BA,RO.2.below BA⟩;have B2:=aj (B1.trans (BA.mono B1.size));rw[Xg];generalize (w1.alloc _)=w2 at *;clear BA B1 RO Xg;obtain⟨f0,f1,f2,f3⟩:=X2.out;go_wp2_with fail
 refine(new_any _ _ OK 4 2 SG SO 1 0 w2 (KL.out.below B2.out) One.names FL.out).mono ?_;rintro e w3 ⟨u,r,rfl,hr,ho,hb⟩;rw[One.f0] at hr;rw[One.e0] at ho;obtain rfl:=One.ez hr;have B3:=aj (B2.out.trans (hb.mono B2.out.size));have L3:=aj (ho.l);clear hr hb f0 f1 f2 f3 X2 FL B2;obtain⟨y1,y2,y3,y4,y5,rfl,o1,o2,o3,o4,o5⟩:=ho;obtain⟨a1,b1,rfl⟩:=o1.len;obtain⟨a2,b2,rfl⟩:=o2.len;obtain⟨a3,b3,rfl⟩:=o3.len;obtain⟨a4,b4,rfl⟩:=o4.len;obtain⟨a5,b5,rfl⟩:=o5.len;have L3':Hid (Wl w3 (.agg #[int i64 0,int i64 1,int i64 4,int i64 2,slice a1 8 b1,slice a2 8 b2,slice a3 1 b3,slice a4 0 b4,slice a5 0 b5]) One.X0):=L3;clear L3 o1 o2 o3 o4 o5;have g1:One.X0.turn=0/\One.X0.next=1/\One.X0.wide=4/\One.X0.high=2/\One.X0.gs.length=8/\One.X0.os.length=8/\One.X0.gold.length=1/\One.X0.us.length=0/\One.X0.qs.length=0:=⟨rfl,rfl,rfl,rfl,rfl,rfl,rfl,rfl,rfl⟩;obtain⟨g1,g2,g3,g4,g5,g6,g7,g8,g9⟩:=g1;simp only[g1,g2,g3,g4,g5,g6,g7,g8,g9];clear g1 g2 g3 g4 g5 g6 g7 g8 g9;go_upto_region 4 with fail
 have BA:Hid (Below _ w3 (w3.alloc (Obj.cells #[int i64 0,int i64 1,int i64 4,int i64 2,slice a1 8 b1,slice a2 8 b2,slice a3 1 b3,slice a4 0 b4,slice a5 0 b5] 29))):=(Below.refl _ _).alloc (Nat.le_refl _) _;obtain⟨z,hz⟩:∃z,w3.heap.size=z:=⟨_,rfl⟩;have XA0:Hid (Wx _ z (int i64 0) (int i64 1) (int i64 4) (int i64 2) (slice a1 8 b1) (slice a2 8 b2) (slice a3 1 b3) (slice a4 0 b4) (slice a5 0 b5)):=Wx.new _ _ _ _ _ _ _ _ _ hz;have LA0:=aj (L3'.below BA);have BA0:=aj (B3.trans (BA.mono B3.size));have NZ:Hid (w0.heap.size<=z):=by rw[<-hz];exact B3.size
 rw[hz];generalize w3.alloc _=s0 at *;clear BA L3' B3 hz;have xx:=XA0.cells;go_wp2_with fail
 refine(mX _ _ OK One.X0 0 0 0 s0 (KL.below BA0) One.names LA0).mono ?_;rintro e v0 ⟨u,r,rfl,hr,ho,hb⟩;rw[One.f1] at hr;rw[One.e1] at ho;obtain rfl:=One.ez hr;have BV:=aj (BA0.trans (hb.mono BA0.size));have XV:=aj (XA0.below hb XA0.lt);have LV:=aj (d_ (ho) (XA0.lt));clear hr hb xx XA0 LA0 BA0;obtain⟨y1,y2,y3,y4,y5,rfl,o1,o2,o3,o4,o5⟩:=ho;obtain⟨c1,d1,rfl⟩:=o1.len;obtain⟨c2,d2,rfl⟩:=o2.len;obtain⟨c3,d3,rfl⟩:=o3.len;obtain⟨c4,d4,rfl⟩:=o4.len;obtain⟨c5,d5,rfl⟩:=o5.len;have Rf:Hid (Wo v0 _ (.agg #[int i64 0,int i64 2,int i64 4,int i64 2,slice c1 8 d1,slice c2 8 d2,slice c3 1 d3,slice c4 1 d4,slice c5 0 d5]) One.X1/\z<s0.heap.size):=LV;clear LV o1 o2 o3 o4 o5;have g1:One.X1.turn=0/\One.X1.next=2/\One.X1.wide=4/\One.X1.high=2/\One.X1.gs.length=8/\One.X1.os.length=8/\One.X1.gold.length=1/\One.X1.us.length=1/\One.X1.qs.length=0:=⟨rfl,rfl,rfl,rfl,rfl,rfl,rfl,rfl,rfl⟩;obtain⟨g1,g2,g3,g4,g5,g6,g7,g8,g9⟩:=g1;simp only[g1,g2,g3,g4,g5,g6,g7,g8,g9];clear g1 g2 g3 g4 g5 g6 g7 g8 g9;have xx:=XV.cells;have tt:=XV.bC;have KW:=aj (bI v0 z (int i64 0) (int i64 2) (int i64 4) (int i64 2) (slice c1 8 d1) (slice c2 8 d2) (slice c3 1 d3) (slice c4 1 d4) (slice c5 0 d5));have XA1:=aj (XV.put (int i64 0) (int i64 2) (int i64 4) (int i64 2) (slice c1 8 d1) (slice c2 8 d2) (slice c3 1 d3) (slice c4 1 d4) (slice c5 0 d5));have LA1:=aj ((Rf.1.kp KW Rf.2).l);have BA1:=aj (KW.below BV BV.size NZ);go_upto_region 5 with fail
 clear xx tt XV Rf BV KW;generalize World.setCell _ _ _=s1 at *;have xx:=XA1.cells;go_wp2_with fail
 refine(mX _ _ OK One.X1 0 1 1 s1 (KL.below BA1) One.names LA1).mono ?_;rintro e v1 ⟨u,r,rfl,hr,ho,hb⟩;rw[One.f2] at hr;rw[One.e2] at ho;obtain rfl:=One.ez hr;have BV:=aj (BA1.trans (hb.mono BA1.size));have XV:=aj (XA1.below hb XA1.lt);have LV:=aj (d_ (ho) (XA1.lt));clear hr hb xx XA1 LA1 BA1;obtain⟨y1,y2,y3,y4,y5,rfl,o1,o2,o3,o4,o5⟩:=ho;obtain⟨m1,n1,rfl⟩:=o1.len;obtain⟨m2,n2,rfl⟩:=o2.len;obtain⟨m3,n3,rfl⟩:=o3.len;obtain⟨m4,n4,rfl⟩:=o4.len;obtain⟨m5,n5,rfl⟩:=o5.len;have Rf:Hid (Wo v1 _ (.agg #[int i64 0,int i64 3,int i64 4,int i64 2,slice m1 8 n1,slice m2 8 n2,slice m3 1 n3,slice m4 2 n4,slice m5 0 n5]) OX/\z<s1.heap.size):=LV;clear LV o1 o2 o3 o4 o5;have g1:OX.turn=0/\OX.next=3/\OX.wide=4/\OX.high=2/\OX.gs.length=8/\OX.os.length=8/\OX.gold.length=1/\OX.us.length=2/\OX.qs.length=0:=⟨rfl,rfl,rfl,rfl,rfl,rfl,rfl,rfl,rfl⟩;obtain⟨g1,g2,g3,g4,g5,g6,g7,g8,g9⟩:=g1;simp only[g1,g2,g3,g4,g5,g6,g7,g8,g9];clear g1 g2 g3 g4 g5 g6 g7 g8 g9;have xx:=XV.cells;have tt:=XV.bC;have KW:=aj (bI v1 z (int i64 0) (int i64 3) (int i64 4) (int i64 2) (slice m1 8 n1) (slice m2 8 n2) (slice m3 1 n3) (slice m4 2 n4) (slice m5 0 n5));have XA2:=aj (XV.put (int i64 0) (int i64 3) (int i64 4) (int i64 2) (slice m1 8 n1) (slice m2 8 n2) (slice m3 1 n3) (slice m4 2 n4) (slice m5 0 n5));have LA2:=aj ((Rf.1.kp KW Rf.2).l);have BA2:=aj (KW.below BV BV.size NZ);go_upto_region 6 with fail
 clear xx tt XV Rf BV KW;generalize World.setCell _ _ _=s2 at *;go_upto_region 7 with fail
 have BO:Hid (Below _ s2 (s2.alloc (Obj.cells #[int i64 0,int i64 2,int i64 2,int i64 6] 72))):=(Below.refl _ _).alloc (Nat.le_refl _) _;obtain⟨zo,Xh⟩:∃z,s2.heap.size=z:=⟨_,rfl⟩;have OL:Hid (zB (s2.alloc (Obj.cells #[int i64 0,int i64 2,int i64 2,int i64 6] 72)) (slice (some ⟨zo,0,none⟩) 1 1) [oo]):=by rw[<-Xh];exact One.Uu s2
 have X6:=aj (XA2.below BO XA2.lt);have L6:=aj (LA2.below BO);have B6:=aj (BA2.trans (BO.mono BA2.size));rw[Xh];generalize s2.alloc _=w6 at *;clear BO Xh XA2 LA2 BA2;have BL:Hid (Below _ w6 (w6.alloc (Obj.cells #[slice (some ⟨zo,0,none⟩) 1 1,slice none 0 0,slice none 0 0] 30))):=(Below.refl _ _).alloc (Nat.le_refl _) _;have LL:=aj (One.Uw w6 _ OL);have B7:=aj (B6.trans (BL.mono B6.size));have L7:=aj (L6.below BL);have xx:=X6.cells;go_wp2_with fail
 refine(Jz _ _ _ OK OX _ _ (KL.below B7) One.names L7 LL ((Xe.below B0).below B7)).mono ?_;rintro e w8 ⟨v,r,FF,rfl,hr,hf,hb⟩;obtain⟨rfl,ho⟩:=JM hf hr;have B8:=aj (B7.trans (hb.mono B7.size));have G8:=aj (ho.l);clear hr hf hb xx X6 L6 B6 BL LL B7 L7 OL;obtain⟨y1,y2,y3,y4,y5,rfl,o1,o2,o3,o4,o5⟩:=ho;obtain⟨r1,s1,rfl⟩:=o1.len;obtain⟨r2,s2,rfl⟩:=o2.len;obtain⟨r3,s3,rfl⟩:=o3.len;obtain⟨r4,s4,rfl⟩:=o4.len;obtain⟨r5,s5,rfl⟩:=o5.len;obtain⟨ya,yc,ye,-,-,yq⟩:=o3.ro;injection ye with e1 e2 e3
 subst e1 e3;obtain⟨yg,rfl,ylt,yq⟩:=yq (by simp[OW]);have c20:=yq 0 20 rfl;have ey:yg.add 0=yg:=by simp[Addr.add]
 rw[ey] at c20;have YL:=aj (d_ (c20) (ylt));clear o1 o2 o3 o4 o5 yq c20 ylt e2 ey G8;have g1:(OW 3 10 20 (od 1 0 2 6)).turn=3/\(OW 3 10 20 (od 1 0 2 6)).next=3/\(OW 3 10 20 (od 1 0 2 6)).wide=4/\(OW 3 10 20 (od 1 0 2 6)).high=2/\(OW 3 10 20 (od 1 0 2 6)).gs.length=8/\(OW 3 10 20 (od 1 0 2 6)).os.length=8/\(OW 3 10 20 (od 1 0 2 6)).gold.length=1/\(OW 3 10 20 (od 1 0 2 6)).us.length=2/\(OW 3 10 20 (od 1 0 2 6)).qs.length=0:=⟨rfl,rfl,rfl,rfl,rfl,rfl,rfl,rfl,rfl⟩
 obtain⟨g1,g2,g3,g4,g5,g6,g7,g8,g9⟩:=g1;simp only[g1,g2,g3,g4,g5,g6,g7,g8,g9];clear g1 g2 g3 g4 g5 g6 g7 g8 g9;go_upto_region 8 with fail
 have BF:Hid (Below _ w8 (w8.alloc (Obj.cells #[int i64 3,int i64 3,int i64 4,int i64 2,slice r1 8 s1,slice r2 8 s2,slice (some yg) 1 s3,slice r4 2 s4,slice r5 0 s5] 29))):=(Below.refl _ _).alloc (Nat.le_refl _) _;obtain⟨zz,hzz⟩:∃z,w8.heap.size=z:=⟨_,rfl⟩;have XF:Hid (Wx _ zz (int i64 3) (int i64 3) (int i64 4) (int i64 2) (slice r1 8 s1) (slice r2 8 s2) (slice (some yg) 1 s3) (slice r4 2 s4) (slice r5 0 s5)):=Wx.new _ _ _ _ _ _ _ _ _ hzz;have B9:=aj (B8.trans (BF.mono B8.size));have c20:(w8.alloc (Obj.cells #[int i64 3,int i64 3,int i64 4,int i64 2,slice r1 8 s1,slice r2 8 s2,slice (some yg) 1 s3,slice r4 2 s4,slice r5 0 s5] 29)).cell? yg=some (int i64 20):=by rw[BF.out.cell YL.out.2];exact YL.1
 rw[hzz];generalize w8.alloc _=w9 at *;clear BF hzz B8 YL;have xx:=XF.cells;have BZ:=aj (B0.trans (B9.mono B0.size));have GL:=aj (trivial);go_wp2;go_ret;exact⟨rfl,by first|exact BZ|(rw[<-Zj.out];exact BZ)⟩
end Go.Proofs.YtamegacbmbgcfaaGreatDoor
namespace Go.Proofs.YtamegacbmbgcfaaGreatDoor
def iy(ks:List KV)(n:Int):Option KV:=if n<0 then none else ks[n.toNat]?
def fE(ks:List KV)(u:aC):Bool:=match iy ks u.kind with
 |none=>true
 |some k=>decide (u.aA<0\/3<u.aA\/u.life<0\/k.n0<u.life)
def iC(ks:List KV)(u:aC):Int:=match iy ks u.kind with
 |none=>0
 |some k=>(k.n5*u.life).tdiv k.n0
def bK(ks:List KV)(us:List aC)(j:Int):Int:=us.foldl (λs u=>if u.aA=j then s+iC ks u else s) 0
def bM(ks:List KV)(us:List aC):List Int:=[bK ks us 0,bK ks us 1,bK ks us 2,bK ks us 3]
theorem yQ(ks:List KV)(i:Nat):iy ks (i:Int)=ks[i]? :=by
 unfold iy;rw[if_neg (by omega)];rfl
theorem mD{ks:List KV}{us:List aC}{n:Nat}{u:aC}(h:us[n]? =some u)(j:Int):bK ks (us.take (n+1)) j=if u.aA=j then bK ks (us.take n) j+iC ks u else bK ks (us.take n) j:=by
 obtain⟨hi,e⟩:=List.getElem?_eq_some_iff.1 h;unfold bK;rw[List.take_succ_eq_append_getElem hi,List.foldl_append,e];rfl
theorem qj{ks:List KV}{u:aC}(h:fE ks u=false):∃(i:Nat) (k:KV),u.kind=i/\ks[i]? =some k/\0<=u.aA/\u.aA<=3/\0<=u.life/\u.life<=k.n0/\iC ks u=(k.n5*u.life).tdiv k.n0:=by
 unfold fE at h;cases hk:iy ks u.kind with
 |none=>rw[hk] at h;cases h
 |some k=>
  rw[hk] at h;have h2:=of_decide_eq_false h;unfold iy at hk;split at hk
  ·cases hk
  ·refine⟨u.kind.toNat,k,by omega,hk,by omega,by omega,by omega,by omega,?_⟩
   unfold iC iy;rw[if_neg (by assumption),hk]
theorem part_le{p l m:Int}(h1:0<=p)(h2:p<=1000)(h3:0<=l)(h4:l<=m)(h5:0<m):0<=(p*l).tdiv m/\(p*l).tdiv m<=1000:=by
 have h6:0<=p*l:=Int.mul_nonneg h1 h3;rw[Int.tdiv_eq_ediv_of_nonneg h6];refine⟨Int.ediv_nonneg h6 (by omega),?_⟩;have h7:p*l<=1000*m:=Int.mul_le_mul h2 h4 h3 (by decide)
 calc p*l/m<=1000*m/m:=Int.ediv_le_ediv h5 h7
  _=1000:=Int.mul_ediv_cancel _ (by omega)
theorem iR{ks:List KV}(hk:∀k∈ks,0<=k.n5/\k.n5<=1000/\0<k.n0){us:List aC}(hu:us.any (fE ks)=false)(j:Int):∀n,n<=us.length->0<=bK ks (us.take n) j/\bK ks (us.take n) j<=1000*n
 |0,_=>by simp[bK]
 |n+1,h=>by
  have ih:=iR hk hu j n (by omega);obtain⟨u,e⟩:∃u,us[n]? =some u:=⟨_,List.getElem?_eq_getElem (by omega)⟩;have hb:fE ks u=false:=by
   rw[List.any_eq_false] at hu;have:=hu u (List.mem_of_getElem? e);simpa using this
  obtain⟨i,k,_,h2,_,_,h5,h6,h7⟩:=qj hb;have h8:=hk k (List.mem_of_getElem? h2);have h9:=part_le h8.1 h8.2.1 h5 h6 h8.2.2;rw[mD e,h7];split<;>omega
open Go.RowKit
theorem Ux{B:Nat}{w W:World}(h:Below B w W):∀n,Below B w (W.drewN n)
 |0=>h
 |n+1=>(Ux h n).drew
theorem Eh(v:Value)(ks:List KV)(u:aC)(b:Nat)(w:World)(h:Kl w v ks)(hc:w.cell? ⟨b,0,none⟩=some v):
  Calls Tryz.prog 47 #[u.val,.pointer (some ⟨b,0,none⟩)] w λe w'=>e=.returned (.bool (fE ks u))/\Below w.heap.size w w':=by
 have hl:=cell_lt hc;obtain⟨R,hR⟩:∃R,fE ks u=R:=⟨_,rfl⟩;have HR:Hid (fE ks u=R):=hR;rw[hR];clear hR;obtain⟨a,c,rfl,c1,c2,hx⟩:=h;obtain⟨id,aA,kind,at_,life,load,task,goal⟩:=u;unfold aC.val;have hw:IntKind.i64.wrap ((ks.length:Int)-1)=(ks.length:Int)-1:=by
  simp[IntKind.wrap,IntKind.bits,IntKind.signed];omega
 by_cases h1:0<=aA/\aA<=3
 ·obtain⟨h1a,h1b⟩:=h1
  by_cases h2:0<=kind/\kind<=(ks.length:Int)-1
  ·obtain⟨i,rfl⟩:∃i:Nat,kind=i:=⟨kind.toNat,by omega⟩
   have hi:i<ks.length:=by omega
   have hi':(i:Int)<(ks.length:Int):=by omega
   obtain⟨k,hk⟩:∃k,ks[i]? =some k:=⟨_,List.getElem?_eq_getElem hi⟩;obtain⟨x,rfl,hx1,hx2⟩:=hx (by rintro rfl;simp at hi);have KC:=hx2 i k hk;have q1:w.cell? ⟨(x.add (i*11)).block,(x.add (i*11)).off+1,none⟩=some (int i64 k.n0):=KC.c1;have RB:Hid (R=decide (life<0\/k.n0<life)):=by
    unfold Hid;rw[<-HR.out];unfold fE;rw[yQ,hk];simp only
    congr 1
    exact propext (by omega)
   generalize k.n0=m at *;have hx3:(x.add (i*11)).block<w.heap.size:=by rw[add_block];exact hx1
   have q1':∀o,(w.alloc o).cell? ⟨(x.add (i*11)).block,(x.add (i*11)).off+1,none⟩=some (int i64 m):=λo=>by rw[((Below.refl w.heap.size w).alloc (Nat.le_refl _) o).cell (p:=⟨(x.add (i*11)).block,(x.add (i*11)).off+1,none⟩) hx3];exact q1
   clear hx2 hk KC HR hx;by_cases h3:0<=life/\life<=m
   ·obtain⟨h3a,h3b⟩:=h3
    have E:Hid (R=false):=by unfold Hid;rw[RB.out,decide_eq_false (by omega)]
    go_enter Tryz.func47,Tryz.ntmps47;go_wp2_with fail
    go_quiet (first|(go_at_call 48;exact Calls.quiet_of_same (iU _ _ _ _ (by omega) (by omega)))|(go_at_call 48;exact Calls.quiet_of_same (jS _ _ _ _ (by omega))));go_wp2;go_ret;exact⟨by rw[E.out];rfl,Ux ((Below.refl _ _).alloc (Nat.le_refl _) _) _⟩
   ·have E:Hid (R=true):=by unfold Hid;rw[RB.out,decide_eq_true (by omega)]
    go_enter Tryz.func47,Tryz.ntmps47;go_wp2_with fail
    go_quiet (first|(go_at_call 48;exact Calls.quiet_of_same (iU _ _ _ _ (by omega) (by omega)))|(go_at_call 48;exact Calls.quiet_of_same (jS _ _ _ _ (by omega))));go_wp2;go_ret;exact⟨by rw[E.out];rfl,Ux ((Below.refl _ _).alloc (Nat.le_refl _) _) _⟩
  ·have E:Hid (R=true):=by
    unfold Hid;rw[<-HR.out];unfold fE;have:iy ks kind=none:=by
     unfold iy;split
     ·rfl
     ·exact List.getElem?_eq_none (by omega)
    rw[this]
   clear hx;go_enter Tryz.func47,Tryz.ntmps47;go_wp2_with fail
   go_quiet (first|(go_at_call 48;exact Calls.quiet_of_same (iU _ _ _ _ (by omega) (by omega)))|(go_at_call 48;exact Calls.quiet_of_same (jS _ _ _ _ (by omega))));go_wp2;go_ret;exact⟨by rw[E.out];rfl,Ux ((Below.refl _ _).alloc (Nat.le_refl _) _) _⟩
 ·have E:Hid (R=true):=by
   unfold Hid;rw[<-HR.out];unfold fE;split
   ·rfl
   ·exact decide_eq_true (by simp only;omega)
  clear hx;go_enter Tryz.func47,Tryz.ntmps47;go_wp2_with fail
  go_quiet (first|(go_at_call 48;exact Calls.quiet_of_same (iU _ _ _ _ (by omega) (by omega)))|(go_at_call 48;exact Calls.quiet_of_same (jS _ _ _ _ (by omega))));go_wp2;go_ret;exact⟨by rw[E.out];rfl,Ux ((Below.refl _ _).alloc (Nat.le_refl _) _) _⟩
theorem NJ:∀args w,(callFunc 47 args).run Tryz.prog w=.ok (.enter 47 args) w:=by
 intro args w;go_simp
theorem Rh(w:World):(Instr.makeSlice 23 (int i64 4) (int i64 4)).run Tryz.prog w=.ok (slice (some ⟨w.heap.size,0,none⟩) 4 4) (w.alloc (.cells #[int i64 0,int i64 0,int i64 0,int i64 0] 3)):=by kernel_rfl
theorem rJ(v:Value)(ks:List KV)(y:Value)(us:List aC)(w:World)(h:Kl w v ks)(hb:∀k∈ks,k.b.size<=9223372036854775807)(hu:jD w y us):
  Calls Tryz.prog 20 #[v,y] w λe w'=>∃(r u:Value),e=.returned (.tuple #[r,u])/\Below w.heap.size w w'/\
   ((Kd.aG (ks.map KV.k)≠0/\Ro w' r []/\Er u (Kd.aG (ks.map KV.k)))\/
    (Kd.aG (ks.map KV.k)=0/\40<us.length/\Ro w' r []/\Er u 4)\/
    (Kd.aG (ks.map KV.k)=0/\us.length<=40/\us.any (fE ks)=true/\Ro w' r []/\Er u 1)\/
    (Kd.aG (ks.map KV.k)=0/\us.length<=40/\us.any (fE ks)=false/\Ro w' r (bM ks us)/\Er u 0)):=by
 have K0:Hid (Kl w v ks):=h;have U0:Hid (jD w y us):=hu;have CA:Hid (∀W,Below w.heap.size w W->Calls Tryz.prog 46 #[v] W λe w'=>∃u,e=.returned u/\Er u (Kd.aG (ks.map KV.k))/\Below W.heap.size W w'):=λW hW=>nU v ks W (h.below hW) hb
 have KR:Hid (Kd.aG (ks.map KV.k)=0->ks.length<=8/\∀k∈ks,0<=k.n5/\k.n5<=1000/\0<k.n0/\k.n0<=1000):=iH;generalize Kd.aG (ks.map KV.k)=R at *;have Rn:∀W:World,Ro W (slice none 0 0) []:=λW=>⟨none,0,rfl,Nat.le_refl _,by omega,λh=>absurd rfl h⟩
 have RN:Hid (∀W:World,Ro W (slice none 0 0) []):=Rn;clear hb Rn;obtain⟨a,c,rfl,c1,c2,-⟩:=h;obtain⟨au,cu,rfl,cu1,cu2,-⟩:=hu;go_enter Tryz.func20,Tryz.ntmps20;go_wp2_with fail
 have B0:Below w.heap.size w (w.alloc (Obj.cells #[slice a ks.length c] 22)):=(Below.refl _ _).alloc (Nat.le_refl _) _;have hc0:(w.alloc (Obj.cells #[slice a ks.length c] 22)).cell? ⟨w.heap.size,0,none⟩=some (slice a ks.length c):=by simp
 have hz0:w.heap.size<(w.alloc (Obj.cells #[slice a ks.length c] 22)).heap.size:=by simp
 refine(CA _ B0).mono ?_;rintro e w1 ⟨u,rfl,hu,b1⟩;have B1:Hid (Below w.heap.size w w1):=B0.trans (b1.mono B0.size);have hc1:w1.cell? ⟨w.heap.size,0,none⟩=some (slice a ks.length c):=by rw[b1.cell (p:=⟨w.heap.size,0,none⟩) hz0];exact hc0
 clear CA b1 B0 hc0 hz0;rcases hu with⟨h0,rfl⟩|⟨h0,rfl⟩
 ·have H0:Hid (R=0):=h0
  clear h0;by_cases h40:40<us.length
  ·have h40':(40:Int)<(us.length:Int):=by omega
   go_wp2;go_ret2;exact⟨_,_,rfl,B1,.inr (.inl ⟨H0,h40,RN _,Er.no (by decide)⟩)⟩
  ·have h40':¬(40:Int)<(us.length:Int):=by omega
   have hl40:us.length<=40:=by omega
   go_wp2_with fail
   have hl1:=cell_lt hc1;refine(kW 47 NJ _ _ us (fE ks) _ (U0.below B1) ?_).mono ?_
   ·intro W hW k
    exact Eh _ ks k w.heap.size W (K0.below (B1.trans (hW.mono B1.size))) (by rw[hW.cell (p:=⟨w.heap.size,0,none⟩) hl1];exact hc1)
   ·rintro e w2 ⟨rfl,b2⟩
    have B2:Hid (Below w.heap.size w w2):=B1.trans (b2.mono B1.size);have hc2:w2.cell? ⟨w.heap.size,0,none⟩=some (slice a ks.length c):=by rw[b2.cell (p:=⟨w.heap.size,0,none⟩) hl1];exact hc1
    clear b2 hc1 hl1;cases hA:us.any (fE ks) with
    |true=>
     have HA:Hid (us.any (fE ks)=true):=hA;clear hA;go_wp2;go_ret2;exact⟨_,_,rfl,B2,.inr (.inr (.inl ⟨H0,hl40,HA,RN _,Er.no (by decide)⟩))⟩
    |false=>
     have HA:Hid (us.any (fE ks)=false):=hA;clear hA;have KR2:Hid (ks.length<=8/\∀k∈ks,0<=k.n5/\k.n5<=1000/\0<k.n0/\k.n0<=1000):=KR H0;have hm:=Rh w2;have hlt:w.heap.size<w2.heap.size:=cell_lt hc2;have hl0:w.heap.size<=w2.heap.size:=by omega
     have BB:Hid (Below w2.heap.size w2 (w2.alloc (Obj.cells #[int i64 0,int i64 0,int i64 0,int i64 0] 3))):=(Below.refl _ _).alloc (Nat.le_refl _) _;have BK:Hid (Bk (w2.alloc (Obj.cells #[int i64 0,int i64 0,int i64 0,int i64 0] 3)) w2.heap.size (bM ks []) #[]):=by
      unfold Hid Bk;rw[World.alloc_heap_new];rfl
     have HC:Hid (w2.cell? ⟨w.heap.size,0,none⟩=some (slice a ks.length c)):=hc2;clear hc2 KR RN;go_wp2_with fail
     go_loopw [29] (λj W'=>∃n:Nat,n<=us.length/\j=int i64 (n:Nat)/\Bk W' w2.heap.size (bM ks (us.take n)) #[]/\Below w2.heap.size w2 W') (λj _=>us.length-(intOf j).toNat)
     case atStart=>exact⟨0,Nat.zero_le _,rfl,BK,BB⟩
     case round=>
      obtain⟨n,hn,rfl,hbk,hbb⟩:=hrel;have Bk1:Hid (Bk wr w2.heap.size (bM ks (us.take n)) #[]):=hbk;have Bb1:Hid (Below w2.heap.size w2 wr):=hbb;have Bw:Hid (Below w.heap.size w wr):=B2.trans (hbb.mono hl0);clear hbk hbb;by_cases hne:n=us.length
      ·subst hne
       go_wp2;go_ret2;refine⟨_,_,rfl,Bw,.inr (.inr (.inr ⟨H0,hl40,HA,?_,Er.nil⟩))⟩;have:=Bk1.ro (c:=4) (by simp[bM]) (by omega);rw[List.take_of_length_le (Nat.le_refl _)] at this;exact this
      ·have hnl:n<us.length:=by omega
       have QS:(n:Int)<(us.length:Int):=by omega
       obtain⟨u,hu⟩:∃u,us[n]? =some u:=⟨_,List.getElem?_eq_getElem hnl⟩;have hbad:fE ks u=false:=by
        have:=HA.out;rw[List.any_eq_false] at this;simpa using this u (List.mem_of_getElem? hu)
       obtain⟨i,k,hki,hk,hp0,hp3,hl0',hlm,hwo⟩:=qj hbad;have kb:=KR2.2 k (List.mem_of_getElem? hk);have hil:i<ks.length:=(List.getElem?_eq_some_iff.1 hk).1;have WB:=iR (λk hk=>⟨(KR2.2 k hk).1,(KR2.2 k hk).2.1,(KR2.2 k hk).2.2.1⟩) HA u.aA n hn;have WN:Hid (∀j,bK ks (us.take (n+1)) j=if u.aA=j then bK ks (us.take n) j+iC ks u else bK ks (us.take n) j):=mD hu;obtain⟨p,hpp⟩:∃p:Nat,u.aA=p:=⟨u.aA.toNat,by omega⟩;have hp4:p<4:=by omega
       have Wd:Hid ((bM ks (us.take n))[p]? =some (bK ks (us.take n) u.aA)):=by
        unfold Hid bM;rw[hpp]
        match p,hp4 with
        |0,_=>rfl
        |1,_=>rfl
        |2,_=>rfl
        |3,_=>rfl
       have Ws:Hid ((bM ks (us.take n)).set p (bK ks (us.take n) u.aA+iC ks u)=bM ks (us.take (n+1))):=by
        unfold Hid bM;rw[WN.out 0,WN.out 1,WN.out 2,WN.out 3,hpp]
        match p,hp4 with
        |0,_=>rfl
        |1,_=>rfl
        |2,_=>rfl
        |3,_=>rfl
       have PL:=part_le kb.1 kb.2.1 hl0' hlm kb.2.2.1;have ML:0<=k.n5*u.life/\k.n5*u.life<=1000000:=⟨Int.mul_nonneg kb.1 hl0',by
        have:k.n5*u.life<=1000*1000:=Int.mul_le_mul kb.2.1 (by omega) hl0' (by decide);omega⟩
       obtain⟨hm1,hm2⟩:=ML;obtain⟨hq1,hq2⟩:=PL;obtain⟨hb1,hb2⟩:=WB;rw[hwo] at Ws;generalize bK ks (us.take n) u.aA=sm at *;have Uc:=U0.below Bw;obtain⟨au',cu',e,-,-,Ye⟩:=Uc;injection e with e1 e2 e3
       subst e1 e3;obtain⟨xu,rfl,Zk,hxu⟩:=Ye (by rintro rfl;simp at hnl);have UC:=hxu n u hu;have Kk:=K0.below Bw;obtain⟨a',c',e,-,-,hkx⟩:=Kk;injection e with e1 e2 e3
       subst e1 e3;obtain⟨xk,rfl,uZ,hxk⟩:=hkx (by rintro rfl;simp at hil);have KC:=hxk i k hk;have hcl:wr.cell? ⟨w.heap.size,0,none⟩=some (slice (some xk) ks.length c):=by rw[Bb1.out.cell (p:=⟨w.heap.size,0,none⟩) hlt];exact HC
       have Xi:(i:Int)<(ks.length:Int):=by omega
       clear hxu Ye hkx hxk hu hk hbad hwo WN e2 hnl hn;have hs:=Bk1.lt;obtain⟨id,aA,kind,at_,life,load,task,goal⟩:=u;obtain⟨U_,n0,n1,n2,n3,n4,n5,n6,n7,kf,kt⟩:=k;simp only at hki hpp hl0' hlm kb hm1 hm2 hq1 hq2 Ws Wd;subst hki hpp;obtain⟨g1,g2,g3,g4⟩:=kb;obtain⟨m,em⟩:∃m,n5*life=m:=⟨_,rfl⟩;rw[em] at hm1 hm2 hq1 hq2 Ws;obtain⟨qq,eq⟩:∃qq,m.tdiv n0=qq:=⟨_,rfl⟩;rw[eq] at hq1 hq2 Ws;have Em:Hid (n5*life=m):=em;have Eq:Hid (m.tdiv n0=qq):=eq;have AA:Hid (Kc wr (xk.add (i*11)) ⟨U_,n0,n1,n2,n3,n4,n5,n6,n7,kf,kt⟩):=KC;have hcl':Hid (wr.cell? ⟨w.heap.size,0,none⟩=some (slice (some xk) ks.length c)):=hcl;obtain⟨u0,u1,u2,u3,u4,u5,u6,u7⟩:=UC;simp only at u0 u1 u2 u3 u4 u5 u6 u7;have Hs1:Hid (w2.heap.size<wr.heap.size):=hs;have Hxk:Hid (xk.block<wr.heap.size):=uZ;clear em eq KC hcl hs uZ;go_upto_region 13 with fail
       have b3:Below wr.heap.size wr (wr.alloc (Obj.cells #[int i64 id,int i64 (p:Nat),int i64 (i:Nat),int i64 at_,int i64 life,int i64 load,int i64 task,int i64 goal] 59)):=(Below.refl _ _).alloc (Nat.le_refl _) _;have X3:=dB.mk' (w:=wr) ⟨id,(p:Nat),(i:Nat),at_,life,load,task,goal⟩ rfl;simp only at X3;clear u0 u1 u2 u3 u4 u5 u6 u7;generalize wr.alloc (Obj.cells #[int i64 id,int i64 (p:Nat),int i64 (i:Nat),int i64 at_,int i64 life,int i64 load,int i64 task,int i64 goal] 59)=w3 at *;have B3:Hid (Below wr.heap.size wr w3):=b3;have hcl:w3.cell? ⟨w.heap.size,0,none⟩=some (slice (some xk) ks.length c):=by rw[b3.cell (p:=⟨w.heap.size,0,none⟩) (cell_lt hcl'.out)];exact hcl'
       have KC:=AA.below b3 (by rw[add_block];exact Hxk);obtain⟨k0,k1,k2,k3,k4,k5,k6,k7,k8,k9,k10⟩:=KC;simp only at k0 k1 k2 k3 k4 k5 k6 k7 k8 k9 k10;have x1:w3.cell? ⟨wr.heap.size,1,none⟩=some (int i64 (p:Nat)):=X3.c1;have x2:w3.cell? ⟨wr.heap.size,2,none⟩=some (int i64 (i:Nat)):=X3.c2;have x4:w3.cell? ⟨wr.heap.size,4,none⟩=some (int i64 life):=X3.c4;have Y3:Hid (wr.heap.size<w3.heap.size/\w3.cell? ⟨wr.heap.size,1,none⟩=some (int i64 (p:Nat))/\w3.cell? ⟨wr.heap.size,4,none⟩=some (int i64 life)):=⟨X3.lt,x1,x4⟩;clear X3 b3;go_upto_region 14 with fail
       have b4:Below w3.heap.size w3 (w3.alloc (Obj.cells #[.string U_,int i64 n0,int i64 n1,int i64 n2,int i64 n3,int i64 n4,int i64 n5,int i64 n6,int i64 n7,.bool kf,.bool kt] 65)):=(Below.refl _ _).alloc (Nat.le_refl _) _;have X4:=Kc.mk' (w:=w3) ⟨U_,n0,n1,n2,n3,n4,n5,n6,n7,kf,kt⟩ rfl;simp only at X4;clear k0 k1 k2 k3 k4 k5 k6 k7 k8 k9 k10 x1 x2 x4 hcl;generalize w3.alloc (Obj.cells #[.string U_,int i64 n0,int i64 n1,int i64 n2,int i64 n3,int i64 n4,int i64 n5,int i64 n6,int i64 n7,.bool kf,.bool kt] 65)=w4 at *;have B4:Hid (Below wr.heap.size wr w4):=B3.trans (b4.mono B3.size);have x1:w4.cell? ⟨wr.heap.size,1,none⟩=some (int i64 (p:Nat)):=by rw[b4.cell (p:=⟨wr.heap.size,1,none⟩) Y3.out.1];exact Y3.2.1
       have x4:w4.cell? ⟨wr.heap.size,4,none⟩=some (int i64 life):=by rw[b4.cell (p:=⟨wr.heap.size,4,none⟩) Y3.out.1];exact Y3.2.2
       have z1:w4.cell? ⟨w3.heap.size,1,none⟩=some (int i64 n0):=X4.c1;have z6:w4.cell? ⟨w3.heap.size,6,none⟩=some (int i64 n5):=X4.c6;have Bk4:Hid (Bk w4 w2.heap.size (bM ks (us.take n)) #[]):=Bk1.low B4 Hs1;have y0:w4.cell? ⟨w2.heap.size,p,none⟩=some (int i64 sm):=Bk4.cell Wd;have y1:w4.frozen? ⟨w2.heap.size,p,none⟩=false:=Bk4.thaw p;have hn0:n0≠0:=by omega
       have hp4':(p:Int)<4:=by omega
       have em:n5*life=m:=Em;have eq:m.tdiv n0=qq:=Eq;have hsm:sm<=1000000:=by omega
       clear X4 b4 Y3;go_region
       all_goals
        go_wp2;refine⟨⟨n+1,by omega,by go_num,?_,?_⟩,by simp[intOf];omega⟩
        ·have:=Bk4.set p (sm+qq) (by simpa[bM] using hp4)
         rw[Ws.out] at this;exact this
        ·exact(((Bb1.trans (B4.mono Bb1.size)).setCell (p:=⟨w2.heap.size,p,none⟩) (Nat.le_refl _) _).drew)
 ·have H0:Hid (R≠0):=h0
  clear h0;go_wp2;go_ret2;exact⟨_,_,rfl,B1,.inl ⟨H0,RN _,Er.no H0⟩⟩
namespace Sc
def points(ks:List KV)(X:WV):List Int:=List.zipWith (λg x=>g+10*x) X.gold (bM ks X.us)
theorem fO{ks:List KV}{X:WV}(h:X.gold.length<=4):(points ks X).length=X.gold.length:=by
 unfold points bM;simp;omega
theorem qm{ks:List KV}{X:WV}{i:Nat}{g x:Int}(hg:X.gold[i]? =some g)(hx:(bM ks X.us)[i]? =some x):(points ks X)[i]? =some (g+10*x):=by
 unfold points;rw[List.getElem?_zipWith,hg,hx]
end Sc
structure NP(ks:List KV)(X:WV):Prop where
 k:Kd.aG (ks.map KV.k)=0
 ul:X.us.length<=40
 bad:X.us.any (fE ks)=false
 gl:X.gold.length<=4
 gold:∀g∈X.gold,0<=g/\g<=1000000
 worth:∀(i:Nat) x,(bM ks X.us)[i]? =some x->0<=x/\x<=40000
 wl:∀i,i<X.gold.length->∃x,(bM ks X.us)[i]? =some x
theorem Ag{ks:List KV}{X:WV}(h:Wd.aF ks X=0):NP ks X:=by
 have R:=bZ h;have n:=R.nums;unfold Wd.aU at n;simp only[Bool.or_eq_false_iff,Bool.not_eq_false',decide_eq_true_eq] at n;obtain⟨-,-,⟨g1,g2⟩,g3⟩:=n;have gl:X.gold.length<=4:=by omega
 have kr:=iH R.kinds;have bad:X.us.any (fE ks)=false:=by
  rw[List.any_eq_false];intro u hu;obtain⟨i,hi⟩:=List.mem_iff_getElem?.1 hu;obtain⟨k,F⟩:=R.fine hi;have e:iy ks u.kind=some k:=by
   unfold iy;rw[if_neg (by have:=F.k0;omega)];exact F.kk
  unfold fE;rw[e];simp only[decide_eq_true_eq];have:=F.p;have:=F.life;omega
 refine⟨R.kinds,R.ul,bad,gl,λg hg=>?_,λi x hx=>?_,λi hi=>?_⟩
 ·rw[List.any_eq_false] at g3
  have:=g3 g hg;unfold Wd.off at this;simp at this;exact this
 ·have wb:∀j,0<=bK ks X.us j/\bK ks X.us j<=40000:=λj=>by
   have:=iR (λk hk=>⟨(kr.2 k hk).1,(kr.2 k hk).2.1,(kr.2 k hk).2.2.1⟩) bad j X.us.length (Nat.le_refl _);rw[List.take_of_length_le (Nat.le_refl _)] at this;have:=R.ul;omega
  unfold bM at hx
  match i,hx with
  |0,hx=>simp at hx;rw[<-hx];exact wb 0
  |1,hx=>simp at hx;rw[<-hx];exact wb 1
  |2,hx=>simp at hx;rw[<-hx];exact wb 2
  |3,hx=>simp at hx;rw[<-hx];exact wb 3
  |n+4,hx=>simp at hx
 ·exact⟨_,List.getElem?_eq_getElem (by unfold bM;simp;omega)⟩
theorem yR(vk vw:Value)(ks:List KV)(X:WV)(w:World)(hk:Kl w vk ks)(hb:∀k∈ks,k.b.size<=9223372036854775807)(hw:Wl w vw X):
  Calls Tryz.prog 19 #[vk,vw] w λe w'=>∃(r u:Value),e=.returned (.tuple #[r,u])/\Below w.heap.size w w'/\
   ((Wd.aF ks X≠0/\Ro w' r []/\Er u (Wd.aF ks X))\/(Wd.aF ks X=0/\Ro w' r (Sc.points ks X)/\Er u 0)):=by
 have K:Hid (Kl w vk ks/\∀k∈ks,k.b.size<=9223372036854775807):=⟨hk,hb⟩;have W0:Hid (Wl w vw X):=hw;have PF:Hid (Wd.aF ks X=0->NP ks X):=Ag;obtain⟨v1,v2,v3,v4,v5,rfl,r1,r2,hg,hu,r5⟩:=hw;have U0:Hid (jD w v4 X.us):=hu;have G0:Hid (Ro w v3 X.gold):=hg;obtain⟨ag,cg,rfl,cg1,cg2,-⟩:=hg;clear r1 r2 r5 hu hk hb;go_enter Tryz.func19,Tryz.ntmps19;obtain⟨z,hz⟩:∃z,w.heap.size=z:=⟨_,rfl⟩;have HZ:Hid (w.heap.size=z):=hz;have X0:Hid (Bw (w.alloc (Obj.cells #[int i64 X.turn,int i64 X.next,int i64 X.wide,int i64 X.high,v1,v2,slice ag X.gold.length cg,v4,v5] 29)) z X v1 v2 (slice ag X.gold.length cg) v4 v5):=Bw.mk' (w:=w) X v1 v2 (slice ag X.gold.length cg) v4 v5 hz;have B0:Hid (Below w.heap.size w (w.alloc (Obj.cells #[int i64 X.turn,int i64 X.next,int i64 X.wide,int i64 X.high,v1,v2,slice ag X.gold.length cg,v4,v5] 29))):=(Below.refl _ _).alloc (Nat.le_refl _) _;go_upto_region 1 with fail
 clear hz;generalize (w.alloc (Obj.cells #[int i64 X.turn,int i64 X.next,int i64 X.wide,int i64 X.high,v1,v2,slice ag X.gold.length cg,v4,v5] 29))=w1 at *;obtain⟨x0,x1,x2,x3,x4,x5,x6,x7,x8⟩:=X0.out;go_wp2_with fail
 refine(dR _ _ ks X w1 (K.1.below B0) K.2 (W0.below B0)).mono ?_;rintro e w2 ⟨r,rfl,hr,b2⟩;have B2:Hid (Below w.heap.size w w2):=B0.trans (b2.mono B0.size);have X2:Hid (Bw w2 z X v1 v2 (slice ag X.gold.length cg) v4 v5):=X0.below b2 X0.lt;clear b2 x0 x1 x2 x3 x4 x5 x6 x7 x8 X0;rcases hr with⟨h0,rfl⟩|⟨h0,rfl⟩
 case inr=>
  have H0:Hid (Wd.aF ks X≠0):=h0;clear h0;go_wp2;go_ret2;exact⟨_,_,rfl,by first|exact B2|(rw[<-HZ.out];exact B2),.inl ⟨H0,⟨none,0,rfl,Nat.le_refl _,by omega,λh=>absurd rfl h⟩,Er.no H0⟩⟩
 case inl=>
  have F:Hid (NP ks X):=PF h0;have H0:Hid (Wd.aF ks X=0):=h0;clear PF h0;have x7:=X2.c7;go_wp2_with fail
  refine(rJ _ ks _ X.us w2 (K.1.below B2) K.2 (U0.below B2)).mono ?_;rintro e w3 ⟨r,u,rfl,b3,hr⟩;have B3:Hid (Below w.heap.size w w3):=B2.trans (b3.mono B2.size);have X3:Hid (Bw w3 z X v1 v2 (slice ag X.gold.length cg) v4 v5):=X2.below b3 X2.lt;clear b3 x7;rcases hr with⟨h,-⟩|⟨-,h,-⟩|⟨-,-,h,-⟩|⟨-,-,-,hr,he⟩
  ·exact absurd F.k h
  ·have:=F.ul;omega
  ·rw[F.out.bad] at h;cases h
  obtain rfl:u=.nilIface:=by
   rcases he with⟨-,e⟩|⟨h,-⟩
   ·exact e
   ·exact absurd rfl h
  have RW:Hid (Ro w3 r (bM ks X.us)):=hr;have lw:(bM ks X.us).length=4:=rfl;obtain⟨ar,cr,rfl,-,-,hwc⟩:=hr;obtain⟨xr,rfl,hxl,hxr⟩:=hwc (by simp[bM]);have WC:Hid (xr.block<w3.heap.size/\∀(i:Nat) d,(bM ks X.us)[i]? =some d->w3.cell? (xr.add i)=some (int i64 d)):=⟨hxl,hxr⟩;rw[lw];clear hwc hxl hxr he lw;have gl:=F.gl;obtain⟨w4,hm,hbk,hbb,hs⟩:=GZ X.gold.length w3 (by omega);have BK:Hid (Bk w4 w3.heap.size (List.replicate X.gold.length 0) #[]):=hbk;have BB:Hid (Below w3.heap.size w3 w4):=hbb;have x6:=X3.c6;have x6':=(X3.below BB X3.lt).c6;obtain⟨b,hb⟩:∃b,w3.heap.size=b:=⟨_,rfl⟩;have HB:Hid (w3.heap.size=b):=hb;rw[hb] at BK hm;clear hbk hbb hs hb;go_wp2_with fail
  clear hm x6 x6';go_loopw [35] (λj V=>∃n:Nat,n<=X.gold.length/\j=int i64 (n:Nat)/\Bk V b ((Sc.points ks X).take n++List.replicate (X.gold.length-n) 0) #[]/\Below b w3 V) (λj _=>X.gold.length-(intOf j).toNat)
  case atStart=>exact⟨0,Nat.zero_le _,rfl,by simpa using BK.out,by rw[<-HB.out];exact BB⟩
  case round=>
   obtain⟨n,hn,rfl,hb1,hB⟩:=hrel;have B1:Hid (Bk wr b ((Sc.points ks X).take n++List.replicate (X.gold.length-n) 0) #[]):=hb1;have V1:Hid (Below b w3 wr):=hB;have BR:Hid (Below w.heap.size w wr):=B3.trans (by rw[<-HB.out] at hB;exact hB.mono B3.size);clear hb1 hB;by_cases hne:n=X.gold.length
   ·subst hne
    go_wp2;go_ret2;refine⟨_,_,rfl,by first|exact BR|(rw[<-HZ.out];exact BR),.inr ⟨H0,?_,Er.nil⟩⟩;have:=B1.ro (c:=X.gold.length) (by simp[Sc.fO gl]) (by omega);rw[Nat.sub_self,List.replicate_zero,List.append_nil,List.take_of_length_le (by rw[Sc.fO gl];exact Nat.le_refl _),Sc.fO gl] at this;exact this
   ·have hnl:n<X.gold.length:=by omega
    have QS:(n:Int)<(X.gold.length:Int):=by omega
    have hn4:(n:Int)<4:=by omega
    obtain⟨g,hg⟩:∃g,X.gold[n]? =some g:=⟨_,List.getElem?_eq_getElem hnl⟩;obtain⟨x,hx⟩:=F.wl n hnl;have gb:=F.gold g (List.mem_of_getElem? hg);have xb:=F.worth n x hx;have PG:Hid ((Sc.points ks X)[n]? =some (g+10*x)):=Sc.qm hg hx;obtain⟨a',c',e',-,-,hy⟩:=G0.below BR;injection e' with e1 e2 e3
    subst e1 e3;obtain⟨y,rfl,-,hy⟩:=hy (by rintro hn;rw[hn] at hnl;simp at hnl);have cy:=hy n g hg;have cx:wr.cell? (xr.add n)=some (int i64 x):=by
     rw[V1.out.cell (by rw[add_block,<-HB.out];exact WC.out.1)];exact WC.2 n x hx
    have tz:=B1.thaw n;have l9:((Sc.points ks X).take n).length=n:=by rw[List.length_take,Sc.fO gl];omega
    have cz:=B1.cell (i:=n) (d:=0) (by
     rw[List.getElem?_append_right (by omega),l9,Nat.sub_self,List.getElem?_replicate,if_pos (by omega)])
    have SZ:Hid (Bk (wr.setCell ⟨b,n,none⟩ (int i64 (g+10*x))) b ((Sc.points ks X).take (n+1)++List.replicate (X.gold.length-(n+1)) 0) #[]):=by
     have h9:=B1.set n (g+10*x) (by simp[Sc.fO gl];omega);have e9:((Sc.points ks X).take n++List.replicate (X.gold.length-n) 0).set n (g+10*x)=(Sc.points ks X).take (n+1)++List.replicate (X.gold.length-(n+1)) 0:=by
      rw[List.set_append_right _ _ (by omega),l9,Nat.sub_self,List.take_add_one,PG.out];have:X.gold.length-n=(X.gold.length-(n+1))+1:=by omega
      rw[this,List.replicate_succ];simp
     rw[e9] at h9;exact h9
    have w10:IntKind.i64.wrap (10*x)=10*x:=by rw[IntKind.wrap_i64];omega
    have wgx:IntKind.i64.wrap (g+10*x)=g+10*x:=by rw[IntKind.wrap_i64];omega
    clear hy hg hx e2 l9;go_wp2;exact⟨⟨n+1,by omega,by go_num,SZ,V1.setCell (p:=⟨b,n,none⟩) (Nat.le_refl _) _⟩,by simp[intOf];omega⟩
open Go.ChangeAt Go.ChangeShapes Go.WideShapes
theorem JX{H:Type}:∀d:DataW H,1<=Rows.uptoBulk d
 | .lit (.string bytes)=>by simp[Rows.uptoBulk]
 | .lit (.int _ _)=>by simp[Rows.uptoBulk]
 | .lit (.bool _)=>by simp[Rows.uptoBulk]
 | .lit (.float .f32 _)=>by simp[Rows.uptoBulk]
 | .lit (.float .f64 _)=>by simp[Rows.uptoBulk]
 | .lit .nil=>by simp[Rows.uptoBulk]
 | .nil=>by simp[Rows.uptoBulk]
 | .ptr d=>by simp[Rows.uptoBulk]
 | .slice _ _=>by simp[Rows.uptoBulk]
 | .agg _=>by simp[Rows.uptoBulk]
 | .iface _ _=>by simp[Rows.uptoBulk]
 | .map _=>by simp[Rows.uptoBulk]
 | .held _=>by simp[Rows.uptoBulk]
theorem vU{H:Type}:∀ds:List (DataW H),ds.length<=Rows.uptoBulkAll ds
 |[]=>by simp
 |d::ds=>by
  have h1:=JX d;have h2:=vU ds;simp only[Rows.uptoBulkAll,List.length_cons];omega
theorem kT{H:Type}(es sp:List (DataW H)):es.length<=Rows.uptoBulk (.slice es sp):=by
 have:=vU es;simp only[Rows.uptoBulk];omega
theorem in64_of_wf{n:Int}(h:(Lit.int i64 n).wf=true):Wd.In64 n:=by
 unfold Wd.In64;simp only[Lit.wf,Bool.and_eq_true,decide_eq_true_eq] at h;have h1:IntKind.i64.min= -9223372036854775808:=by decide
 have h2:IntKind.i64.max=9223372036854775807:=by decide
 omega
theorem kU{H:Type}{enc:TypeId×Value->H}{W:World}{base:Nat}{held:Bool}{fuel:Nat}{v:Value}{y:DataW H×List MemPlace}(h:DataW.trod enc Tryz.prog W base (λ_=>true) held fuel 23 [v]=some y):
  ∃zs,Ro W v zs/\(∀n∈zs,Wd.In64 n)/\zs.length<=Rows.uptoBulk y.1:=by
 rcases open_ints Tryz.underlying23 Tryz.underlying3 (by kernel_rfl) h with⟨hcs,rfl⟩|⟨x,l,c,zs,hcs,_,hl,hm,hz,rfl,hcell,hwz⟩
 ·simp at hcs
  subst hcs;exact⟨_,zn.ro (.inl ⟨rfl,rfl,rfl,rfl⟩),by simp,by simp⟩
 ·simp at hcs
  subst hcs;refine⟨_,zn.ro (.inr ⟨_,rfl,hl,hm,by simpa using hz,hcell,hwz⟩),λn hn=>in64_of_wf (hwz n (List.mem_of_mem_take hn)),?_⟩;have:=kT (H:=H) (lits .i64 (zs.take l)) (lits .i64 (zs.drop l));simpa[lits] using this
theorem NR:∃f0 f1 f2 f3 f4 f5 f6 f7:Field,Tryz.prog.underlying 59=some (.struct #[f0,f1,f2,f3,f4,f5,f6,f7])/\f0.offset=0/\f0.type=3/\f1.offset=1/\f1.type=3/\f2.offset=2/\f2.type=3/\f3.offset=3/\f3.type=3/\f4.offset=4/\f4.type=3/\f5.offset=5/\f5.type=3/\f6.offset=6/\f6.type=3/\f7.offset=7/\f7.type=3:=⟨_,_,_,_,_,_,_,_,Tryz.underlying59,rfl,rfl,rfl,rfl,rfl,rfl,rfl,rfl,rfl,rfl,rfl,rfl,rfl,rfl,rfl,rfl⟩
theorem Ei{H:Type}{enc:TypeId×Value->H}{W:World}{base:Nat}{held:Bool}{fuel:Nat}{cs:List Value}{y:DataW H×List MemPlace}(h:DataW.trod enc Tryz.prog W base (λ_=>true) held fuel 59 cs=some y):
  ∃k:aC,cs=[.int .i64 k.id,.int .i64 k.aA,.int .i64 k.kind,.int .i64 k.at_,.int .i64 k.life,.int .i64 k.load,.int .i64 k.task,.int .i64 k.goal]/\∀n∈Wd.um k,Wd.In64 n:=by
 obtain⟨f0,f1,f2,f3,f4,f5,f6,f7,he,o0,t0,o1,t1,o2,t2,o3,t3,o4,t4,o5,t5,o6,t6,o7,t7⟩:=NR;obtain⟨xs,m,-,-,hlen,hxl,hf⟩:=DataW.trod_struct he h;have uj:Tryz.prog.cellsOf 3=1:=by kernel_rfl
 have Ej:Tryz.prog.cellsOf 59=8:=by kernel_rfl
 rw[Ej] at hlen
 match cs,hlen with
 |[v0,v1,v2,v3,v4,v5,v6,v7],_=>
  have hx:xs.length=8:=hxl
  match xs,hx with
  |[x0,x1,x2,x3,x4,x5,x6,x7],_=>
   have g0:=hf 0 f0 rfl;rw[o0,t0,uj] at g0;have g1:=hf 1 f1 rfl;rw[o1,t1,uj] at g1;have g2:=hf 2 f2 rfl;rw[o2,t2,uj] at g2;have g3:=hf 3 f3 rfl;rw[o3,t3,uj] at g3;have g4:=hf 4 f4 rfl;rw[o4,t4,uj] at g4;have g5:=hf 5 f5 rfl;rw[o5,t5,uj] at g5;have g6:=hf 6 f6 rfl;rw[o6,t6,uj] at g6;have g7:=hf 7 f7 rfl;rw[o7,t7,uj] at g7;obtain⟨m0,e0,-,w0⟩:=DataW.trod_int Tryz.underlying3 g0;obtain⟨m1,e1,-,w1⟩:=DataW.trod_int Tryz.underlying3 g1;obtain⟨m2,e2,-,w2⟩:=DataW.trod_int Tryz.underlying3 g2;obtain⟨m3,e3,-,w3⟩:=DataW.trod_int Tryz.underlying3 g3;obtain⟨m4,e4,-,w4⟩:=DataW.trod_int Tryz.underlying3 g4;obtain⟨m5,e5,-,w5⟩:=DataW.trod_int Tryz.underlying3 g5;obtain⟨m6,e6,-,w6⟩:=DataW.trod_int Tryz.underlying3 g6;obtain⟨m7,e7,-,w7⟩:=DataW.trod_int Tryz.underlying3 g7;simp at e0 e1 e2 e3 e4 e5 e6 e7;subst e0 e1 e2 e3 e4 e5 e6 e7;refine⟨⟨m0,m1,m2,m3,m4,m5,m6,m7⟩,rfl,?_⟩;intro n hn;simp only[Wd.um,List.mem_cons,List.not_mem_nil,or_false] at hn;rcases hn with rfl|rfl|rfl|rfl|rfl|rfl|rfl|rfl
   ·exact in64_of_wf w0
   ·exact in64_of_wf w1
   ·exact in64_of_wf w2
   ·exact in64_of_wf w3
   ·exact in64_of_wf w4
   ·exact in64_of_wf w5
   ·exact in64_of_wf w6
   ·exact in64_of_wf w7
theorem yS{H:Type}{enc:TypeId×Value->H}{W:World}{base:Nat}{held:Bool}{fuel:Nat}{v:Value}{y:DataW H×List MemPlace}(h:DataW.trod enc Tryz.prog W base (λ_=>true) held fuel 26 [v]=some y):
  ∃ks:List aC,jD W v ks/\(∀k∈ks,∀n∈Wd.um k,Wd.In64 n)/\ks.length<=Rows.uptoBulk y.1:=by
 have Ej:Tryz.prog.cellsOf 59=8:=by kernel_rfl
 rcases Go.Deep.open_slice Tryz.underlying26 h with⟨hcs,-⟩|⟨a,len,cap,m,q,D,Pl,hcs,hb,hl,hm,hmm,rfl,hx⟩
 ·simp at hcs
  subst hcs;exact⟨[],⟨none,0,rfl,Nat.le_refl _,by omega,λh=>absurd rfl h⟩,by simp,by simp⟩
 ·simp at hcs
  subst hcs;have hlm:len<=m:=by rw[hmm];simp;exact hl
  have each:∀i,i<len->∃k:aC,dB W (a.add (i*8)) k/\(∀n∈Wd.um k,Wd.In64 n):=by
   intro i hi;obtain⟨cs',h1,h2⟩:=hx i (by omega);obtain⟨k,rfl,hk⟩:=Ei h2;rw[Ej] at h1;obtain⟨-,-,hcell⟩:=World.cells?_some h1;refine⟨k,?_,hk⟩;generalize a.add (i*8)=y at *;exact⟨hcell 0 (by decide),hcell 1 (by decide),hcell 2 (by decide),hcell 3 (by decide),hcell 4 (by decide),hcell 5 (by decide),hcell 6 (by decide),hcell 7 (by decide)⟩
  have inh:Inhabited aC:=⟨⟨0,0,0,0,0,0,0,0⟩⟩;obtain⟨q,hq⟩:=Go.Deep.choose_lt each;refine⟨(List.range len).map q,⟨some a,cap,by simp,by simpa using hl,by unfold maxLen at hm;omega,λhn=>⟨a,rfl,?_,λi k hk=>?_⟩⟩,?_,?_⟩
  ·have h0:0<len:=by
    rcases Nat.eq_zero_or_pos len with h|h
    ·subst h;simp at hn
    ·exact h
   have:=(hq 0 h0).1.lt;rwa[add_block] at this
  ·have hi:i<len:=by
    have:=(List.getElem?_eq_some_iff.1 hk).1;simpa using this
   rw[List.getElem?_map,List.getElem?_range hi] at hk;injection hk with hk
   subst hk;exact(hq i hi).1
  ·intro k hk
   obtain⟨i,hi,rfl⟩:=List.mem_map.1 hk;exact(hq i (List.mem_range.1 hi)).2
  ·have:=kT ((List.range len).map D) ((List.range (m-len)).map λj=>D (len+j))
   simpa using this
theorem NT:∃f0 f1 f2 f3:Field,Tryz.prog.underlying 69=some (.struct #[f0,f1,f2,f3])/\f0.offset=0/\f0.type=3/\f1.offset=1/\f1.type=3/\f2.offset=2/\f2.type=3/\f3.offset=3/\f3.type=3:=⟨_,_,_,_,Tryz.underlying69,rfl,rfl,rfl,rfl,rfl,rfl,rfl,rfl⟩
theorem Eo{H:Type}{enc:TypeId×Value->H}{W:World}{base:Nat}{held:Bool}{fuel:Nat}{cs:List Value}{y:DataW H×List MemPlace}(h:DataW.trod enc Tryz.prog W base (λ_=>true) held fuel 69 cs=some y):
  ∃k:aN,cs=[.int .i64 k.aA,.int .i64 k.unit,.int .i64 k.kind,.int .i64 k.left]/\∀n∈Wd.uo k,Wd.In64 n:=by
 obtain⟨f0,f1,f2,f3,he,o0,t0,o1,t1,o2,t2,o3,t3⟩:=NT;obtain⟨xs,m,-,-,hlen,hxl,hf⟩:=DataW.trod_struct he h;have uj:Tryz.prog.cellsOf 3=1:=by kernel_rfl
 have Ej:Tryz.prog.cellsOf 69=4:=by kernel_rfl
 rw[Ej] at hlen
 match cs,hlen with
 |[v0,v1,v2,v3],_=>
  have hx:xs.length=4:=hxl
  match xs,hx with
  |[x0,x1,x2,x3],_=>
   have g0:=hf 0 f0 rfl;rw[o0,t0,uj] at g0;have g1:=hf 1 f1 rfl;rw[o1,t1,uj] at g1;have g2:=hf 2 f2 rfl;rw[o2,t2,uj] at g2;have g3:=hf 3 f3 rfl;rw[o3,t3,uj] at g3;obtain⟨m0,e0,-,w0⟩:=DataW.trod_int Tryz.underlying3 g0;obtain⟨m1,e1,-,w1⟩:=DataW.trod_int Tryz.underlying3 g1;obtain⟨m2,e2,-,w2⟩:=DataW.trod_int Tryz.underlying3 g2;obtain⟨m3,e3,-,w3⟩:=DataW.trod_int Tryz.underlying3 g3;simp at e0 e1 e2 e3;subst e0 e1 e2 e3;refine⟨⟨m0,m1,m2,m3⟩,rfl,?_⟩;intro n hn;simp only[Wd.uo,List.mem_cons,List.not_mem_nil,or_false] at hn;rcases hn with rfl|rfl|rfl|rfl
   ·exact in64_of_wf w0
   ·exact in64_of_wf w1
   ·exact in64_of_wf w2
   ·exact in64_of_wf w3
theorem yT{H:Type}{enc:TypeId×Value->H}{W:World}{base:Nat}{held:Bool}{fuel:Nat}{v:Value}{y:DataW H×List MemPlace}(h:DataW.trod enc Tryz.prog W base (λ_=>true) held fuel 27 [v]=some y):
  ∃ks:List aN,J_ W v ks/\(∀k∈ks,∀n∈Wd.uo k,Wd.In64 n)/\ks.length<=Rows.uptoBulk y.1:=by
 have Ej:Tryz.prog.cellsOf 69=4:=by kernel_rfl
 rcases Go.Deep.open_slice Tryz.underlying27 h with⟨hcs,-⟩|⟨a,len,cap,m,q,D,Pl,hcs,hb,hl,hm,hmm,rfl,hx⟩
 ·simp at hcs
  subst hcs;exact⟨[],⟨none,0,rfl,Nat.le_refl _,by omega,λh=>absurd rfl h⟩,by simp,by simp⟩
 ·simp at hcs
  subst hcs;have hlm:len<=m:=by rw[hmm];simp;exact hl
  have each:∀i,i<len->∃k:aN,kE W (a.add (i*4)) k/\(∀n∈Wd.uo k,Wd.In64 n):=by
   intro i hi;obtain⟨cs',h1,h2⟩:=hx i (by omega);obtain⟨k,rfl,hk⟩:=Eo h2;rw[Ej] at h1;obtain⟨-,-,hcell⟩:=World.cells?_some h1;refine⟨k,?_,hk⟩;generalize a.add (i*4)=y at *;exact⟨hcell 0 (by decide),hcell 1 (by decide),hcell 2 (by decide),hcell 3 (by decide)⟩
  have inh:Inhabited aN:=⟨⟨0,0,0,0⟩⟩;obtain⟨q,hq⟩:=Go.Deep.choose_lt each;refine⟨(List.range len).map q,⟨some a,cap,by simp,by simpa using hl,by unfold maxLen at hm;omega,λhn=>⟨a,rfl,?_,λi k hk=>?_⟩⟩,?_,?_⟩
  ·have h0:0<len:=by
    rcases Nat.eq_zero_or_pos len with h|h
    ·subst h;simp at hn
    ·exact h
   have:=(hq 0 h0).1.lt;rwa[add_block] at this
  ·have hi:i<len:=by
    have:=(List.getElem?_eq_some_iff.1 hk).1;simpa using this
   rw[List.getElem?_map,List.getElem?_range hi] at hk;injection hk with hk
   subst hk;exact(hq i hi).1
  ·intro k hk
   obtain⟨i,hi,rfl⟩:=List.mem_map.1 hk;exact(hq i (List.mem_range.1 hi)).2
  ·have:=kT ((List.range len).map D) ((List.range (m-len)).map λj=>D (len+j))
   simpa using this
theorem yU:∃f0 f1 f2 f3 f4 f5:Field,Tryz.prog.underlying 29=some (.struct #[f0,f1,f2,f3,f4,f5])/\f0.offset=0/\f0.type=3/\f1.offset=1/\f1.type=3/\f2.offset=2/\f2.type=25/\f3.offset=6/\f3.type=23/\f4.offset=7/\f4.type=26/\f5.offset=8/\f5.type=27:=⟨_,_,_,_,_,_,Tryz.underlying29,rfl,rfl,rfl,rfl,rfl,rfl,rfl,rfl,rfl,rfl,rfl,rfl⟩
theorem yV:∃f0 f1 f2 f3:Field,Tryz.prog.underlying 25=some (.struct #[f0,f1,f2,f3])/\f0.offset=0/\f0.type=3/\f1.offset=1/\f1.type=3/\f2.offset=2/\f2.type=23/\f3.offset=3/\f3.type=23:=⟨_,_,_,_,Tryz.underlying25,rfl,rfl,rfl,rfl,rfl,rfl,rfl,rfl⟩
theorem yX{w:World}{v:Value}{xs:List Int}(h:Ro w v xs):Wd.In64 (xs.length:Int):=by
 obtain⟨a,c,-,h1,h2,-⟩:=h;unfold Wd.In64;omega
theorem ug{H:Type}{enc:TypeId×Value->H}{W:World}{base:Nat}{held:Bool}{fuel:Nat}{cs:List Value}{y:DataW H×List MemPlace}(h:DataW.trod enc Tryz.prog W base (λ_=>true) held fuel 29 cs=some y):
  ∃X:WV,Wl W (.agg cs.toArray) X/\(∀n∈Wd.nums X,Wd.In64 n)/\(Rows.uptoBulk y.1<=1048576->EJ X):=by
 obtain⟨f0,f1,f2,f3,f4,f5,he,o0,t0,o1,t1,o2,t2,o3,t3,o4,t4,o5,t5⟩:=yU;obtain⟨xs,m,-,rfl,hlen,hxl,hf⟩:=DataW.trod_struct he h;have uj:Tryz.prog.cellsOf 3=1:=by kernel_rfl
 have Zl:Tryz.prog.cellsOf 25=4:=by kernel_rfl
 have Xj:Tryz.prog.cellsOf 23=1:=by kernel_rfl
 have Zm:Tryz.prog.cellsOf 26=1:=by kernel_rfl
 have Zn:Tryz.prog.cellsOf 27=1:=by kernel_rfl
 have Ej:Tryz.prog.cellsOf 29=9:=by kernel_rfl
 rw[Ej] at hlen
 match cs,hlen with
 |[v0,v1,v2,v3,v4,v5,v6,v7,v8],_=>
  have hx:xs.length=6:=hxl
  match xs,hx with
  |[x0,x1,x2,x3,x4,x5],_=>
   have g0:=hf 0 f0 rfl;rw[o0,t0,uj] at g0;have g1:=hf 1 f1 rfl;rw[o1,t1,uj] at g1;have g2:=hf 2 f2 rfl;rw[o2,t2,Zl] at g2;have g3:=hf 3 f3 rfl;rw[o3,t3,Xj] at g3;have g4:=hf 4 f4 rfl;rw[o4,t4,Zm] at g4;have g5:=hf 5 f5 rfl;rw[o5,t5,Zn] at g5;obtain⟨m0,e0,-,w0⟩:=DataW.trod_int Tryz.underlying3 g0;obtain⟨m1,e1,-,w1⟩:=DataW.trod_int Tryz.underlying3 g1;obtain⟨r0,r1,r2,r3,he',p0,s0,p1,s1,p2,s2,p3,s3⟩:=yV;obtain⟨ys,m',-,rfl,hlen',hyl,hg⟩:=DataW.trod_struct he' g2;have hy:ys.length=4:=hyl
   match ys,hy with
   |[y0,y1,y2,y3],_=>
    have k0:=hg 0 r0 rfl;rw[p0,s0,uj] at k0;have k1:=hg 1 r1 rfl;rw[p1,s1,uj] at k1;have k2:=hg 2 r2 rfl;rw[p2,s2,Xj] at k2;have k3:=hg 3 r3 rfl;rw[p3,s3,Xj] at k3;obtain⟨m2,e2,-,w2⟩:=DataW.trod_int Tryz.underlying3 k0;obtain⟨m3,e3,-,w3⟩:=DataW.trod_int Tryz.underlying3 k1;simp at e0 e1 e2 e3;subst e0 e1 e2 e3;obtain⟨gs,hgs,igs,bgs⟩:=kU k2;obtain⟨os,hos,Zo,bos⟩:=kU k3;obtain⟨gold,Pg,Uy,Yf⟩:=kU g3;obtain⟨us,hus,Zp,bus⟩:=yS g4;obtain⟨qs,N_,Zq,bqs⟩:=yT g5;have lu:Wd.In64 (us.length:Int):=by
     obtain⟨a,c,-,h1,h2,-⟩:=hus;unfold Wd.In64;omega
    have lq:Wd.In64 (qs.length:Int):=by
     obtain⟨a,c,-,h1,h2,-⟩:=N_;unfold Wd.In64;omega
    refine⟨⟨m0,m1,m2,m3,gs,os,gold,us,qs⟩,⟨_,_,_,_,_,rfl,hgs,hos,Pg,hus,N_⟩,?_,?_⟩
    ·intro n hn
     simp only[Wd.nums,List.mem_append,List.mem_cons,List.not_mem_nil,or_false,List.mem_flatMap] at hn;rcases hn with(((((rfl|rfl|rfl|rfl)|(rfl|hn))|(rfl|hn))|(rfl|hn))|(rfl|⟨u,hu,hn⟩))|(rfl|⟨u,hu,hn⟩)
     ·exact in64_of_wf w0
     ·exact in64_of_wf w1
     ·exact in64_of_wf w2
     ·exact in64_of_wf w3
     ·exact yX hgs
     ·exact igs _ hn
     ·exact yX hos
     ·exact Zo _ hn
     ·exact yX Pg
     ·exact Uy _ hn
     ·exact lu
     ·exact Zp u hu n hn
     ·exact lq
     ·exact Zq u hu n hn
    ·intro hb
     simp only[Rows.uptoBulk,Rows.uptoBulkAll,List.map_cons,List.map_nil] at hb;exact⟨by simp only;omega,by simp only;omega,by simp only;omega,by simp only;omega,by simp only;omega⟩
theorem JY{H:Type}{enc:TypeId×Value->H}{W:World}{base b0:Nat}{held:Bool}{v:Value}{d:DataW H}{p:List MemPlace}(hv:Value.okWide Tryz.prog W .any b0 29 v)(h:DataW.Trod enc Tryz.prog W base (λ_=>true) held 29 v d p):
  ∃X:WV,Wl W v X/\(∀n∈Wd.nums X,Wd.In64 n)/\(Rows.uptoBulk d<=1048576->EJ X):=by
 obtain⟨cs,rfl,hsz⟩:=okWide_struct Tryz.underlying29 hv;obtain⟨fuel,hf⟩:=h;have:=ug hf;simpa[Value.cells] using this
theorem vV:∃f0 f1 f2 f3 f4 f5 f6 f7 f8 f9 f10:Field,Tryz.prog.underlying 65=some (.struct #[f0,f1,f2,f3,f4,f5,f6,f7,f8,f9,f10])/\
 f0.offset=0/\f0.type=9/\f1.offset=1/\f1.type=3/\f2.offset=2/\f2.type=3/\f3.offset=3/\f3.type=3/\f4.offset=4/\f4.type=3/\f5.offset=5/\f5.type=3/\f6.offset=6/\f6.type=3/\f7.offset=7/\f7.type=3/\f8.offset=8/\f8.type=3/\f9.offset=9/\f9.type=4/\f10.offset=10/\f10.type=4:=⟨_,_,_,_,_,_,_,_,_,_,_,Tryz.underlying65,rfl,rfl,rfl,rfl,rfl,rfl,rfl,rfl,rfl,rfl,rfl,rfl,rfl,rfl,rfl,rfl,rfl,rfl,rfl,rfl,rfl,rfl⟩
theorem Ep{H:Type}{enc:TypeId×Value->H}{W:World}{base:Nat}{held:Bool}{fuel:Nat}{cs:List Value}{y:DataW H×List MemPlace}(h:DataW.trod enc Tryz.prog W base (λ_=>true) held fuel 65 cs=some y):
  ∃k:KV,cs=[.string k.b,.int .i64 k.n0,.int .i64 k.n1,.int .i64 k.n2,.int .i64 k.n3,.int .i64 k.n4,.int .i64 k.n5,.int .i64 k.n6,.int .i64 k.n7,.bool k.f,.bool k.t]/\k.b.size<=maxLen:=by
 obtain⟨f0,f1,f2,f3,f4,f5,f6,f7,f8,f9,f10,he,o0,t0,o1,t1,o2,t2,o3,t3,o4,t4,o5,t5,o6,t6,o7,t7,o8,t8,o9,t9,o10,t10⟩:=vV;obtain⟨xs,n,-,-,hlen,hxl,hf⟩:=DataW.trod_struct he h;have cs9:Tryz.prog.cellsOf 9=1:=by kernel_rfl
 have cs3:Tryz.prog.cellsOf 3=1:=by kernel_rfl
 have cs4:Tryz.prog.cellsOf 4=1:=by kernel_rfl
 have Ej:Tryz.prog.cellsOf 65=11:=by kernel_rfl
 rw[Ej] at hlen
 match cs,hlen with
 |[v0,v1,v2,v3,v4,v5,v6,v7,v8,v9,v10],_=>
  have hx11:xs.length=11:=hxl
  match xs,hx11 with
  |[x0,x1,x2,x3,x4,x5,x6,x7,x8,x9,x10],_=>
   have g0:=hf 0 f0 rfl;rw[o0,t0,cs9] at g0;have g1:=hf 1 f1 rfl;rw[o1,t1,cs3] at g1;have g2:=hf 2 f2 rfl;rw[o2,t2,cs3] at g2;have g3:=hf 3 f3 rfl;rw[o3,t3,cs3] at g3;have g4:=hf 4 f4 rfl;rw[o4,t4,cs3] at g4;have g5:=hf 5 f5 rfl;rw[o5,t5,cs3] at g5;have g6:=hf 6 f6 rfl;rw[o6,t6,cs3] at g6;have g7:=hf 7 f7 rfl;rw[o7,t7,cs3] at g7;have g8:=hf 8 f8 rfl;rw[o8,t8,cs3] at g8;have g9:=hf 9 f9 rfl;rw[o9,t9,cs4] at g9;have g10:=hf 10 f10 rfl;rw[o10,t10,cs4] at g10;obtain⟨b,e0,-,hb⟩:=DataW.trod_string Tryz.underlying9 g0;obtain⟨m1,e1,-,-⟩:=DataW.trod_int Tryz.underlying3 g1;obtain⟨m2,e2,-,-⟩:=DataW.trod_int Tryz.underlying3 g2;obtain⟨m3,e3,-,-⟩:=DataW.trod_int Tryz.underlying3 g3;obtain⟨m4,e4,-,-⟩:=DataW.trod_int Tryz.underlying3 g4;obtain⟨m5,e5,-,-⟩:=DataW.trod_int Tryz.underlying3 g5;obtain⟨m6,e6,-,-⟩:=DataW.trod_int Tryz.underlying3 g6;obtain⟨m7,e7,-,-⟩:=DataW.trod_int Tryz.underlying3 g7;obtain⟨m8,e8,-,-⟩:=DataW.trod_int Tryz.underlying3 g8;obtain⟨bf,e9,-⟩:=DataW.trod_bool Tryz.underlying4 g9;obtain⟨bt,e10,-⟩:=DataW.trod_bool Tryz.underlying4 g10;simp at e0 e1 e2 e3 e4 e5 e6 e7 e8 e9 e10;subst e0 e1 e2 e3 e4 e5 e6 e7 e8 e9 e10;exact⟨⟨b,m1,m2,m3,m4,m5,m6,m7,m8,bf,bt⟩,rfl,hb⟩
theorem yY{H:Type}{enc:TypeId×Value->H}{W:World}{base:Nat}{held:Bool}{fuel:Nat}{v:Value}{y:DataW H×List MemPlace}(h:DataW.trod enc Tryz.prog W base (λ_=>true) held fuel 22 [v]=some y):
  ∃ks:List KV,Kl W v ks/\∀k∈ks,k.b.size<=maxLen:=by
 have Ej:Tryz.prog.cellsOf 65=11:=by kernel_rfl
 rcases Go.Deep.open_slice Tryz.underlying22 h with⟨hcs,-⟩|⟨a,len,cap,m,n,D,Pl,hcs,hb,hl,hm,hmm,-,hx⟩
 ·simp at hcs
  subst hcs;exact⟨[],⟨none,0,rfl,Nat.le_refl _,by omega,λh=>absurd rfl h⟩,by simp⟩
 ·simp at hcs
  subst hcs;have hlm:len<=m:=by rw[hmm];simp;exact hl
  have each:∀i,i<len->∃k:KV,Kc W (a.add (i*11)) k/\k.b.size<=maxLen:=by
   intro i hi;obtain⟨cs',h1,h2⟩:=hx i (by omega);obtain⟨k,rfl,hk⟩:=Ep h2;rw[Ej] at h1;obtain⟨-,-,hcell⟩:=World.cells?_some h1;refine⟨k,?_,hk⟩;generalize a.add _=y at *;exact⟨hcell 0 (by decide),hcell 1 (by decide),hcell 2 (by decide),hcell 3 (by decide),hcell 4 (by decide),hcell 5 (by decide),hcell 6 (by decide),hcell 7 (by decide),hcell 8 (by decide),hcell 9 (by decide),hcell 10 (by decide)⟩
  have inh:Inhabited KV:=⟨⟨ByteArray.empty,0,0,0,0,0,0,0,0,false,false⟩⟩;obtain⟨q,hq⟩:=Go.Deep.choose_lt each;refine⟨(List.range len).map q,⟨some a,cap,by simp,by simpa using hl,by unfold maxLen at hm;omega,λhn=>⟨a,rfl,?_,λi k hk=>?_⟩⟩,?_⟩
  ·have h0:0<len:=by
    rcases Nat.eq_zero_or_pos len with h|h
    ·subst h;simp at hn
    ·exact h
   have:=(hq 0 h0).1.lt;rwa[add_block] at this
  ·have hi:i<len:=by
    have:=(List.getElem?_eq_some_iff.1 hk).1;simpa using this
   rw[List.getElem?_map,List.getElem?_range hi] at hk;injection hk with hk
   subst hk;exact(hq i hi).1
  ·intro k hk
   obtain⟨i,hi,rfl⟩:=List.mem_map.1 hk;exact(hq i (List.mem_range.1 hi)).2
theorem JZ{H:Type}{enc:TypeId×Value->H}{W:World}{base b0:Nat}{held:Bool}{v:Value}{d:DataW H}{p:List MemPlace}(hv:Value.okWide Tryz.prog W .any b0 22 v)(h:DataW.Trod enc Tryz.prog W base (λ_=>true) held 22 v d p):
  ∃ks:List KV,Kl W v ks/\∀k∈ks,k.b.size<=maxLen:=by
 obtain⟨a,len,cap,rfl⟩:=okWide_slice Tryz.underlying22 hv;obtain⟨fuel,hf⟩:=h;exact yY hf
end Go.Proofs.YtamegacbmbgcfaaGreatDoor
namespace Go.Proofs.YtamegacbmbgcfaaGreatDoor.topWorth
open Go.RowKit Go.Proofs.YtamegacbmbgcfaaGreatDoor.So
theorem rM{ks:List KV}{j:Int}:∀(us:List aC) (s:Int),us.any (λu=>decide (u.aA=j))=false->us.foldl (λs u=>if u.aA=j then s+iC ks u else s) s=s
 |[],s,_=>rfl
 |u::us,s,h=>by
  rw[List.any_cons,Bool.or_eq_false_iff] at h;rw[List.foldl_cons,if_neg (of_decide_eq_false h.1)];exact rM us s h.2
theorem yZ{ks:List KV}{us:List aC}{j:Int}(h:us.any (λu=>decide (u.aA=j))=false):bK ks us j=0:=rM us 0 h
theorem Es{ks:List KV}{us:List aC}{i:Nat}(h:i<4):(bM ks us)[i]? =some (bK ks us (i:Nat)):=by
 match i,h with
 |0,_=>rfl
 |1,_=>rfl
 |2,_=>rfl
 |3,_=>rfl
theorem walk(vk:Value)(ks:List KV)(vw:Value)(X:WV)(w:World)
  (h0:Kl w vk ks/\∀k∈ks,k.b.size<=maxLen) (h1:Wl w vw X/\∀n∈Wd.nums X,Wd.In64 n) (hsd:Sd w):
  Calls Tryz.prog 5 #[vk,vw] w λe w'=>e=.returned (.bool true)/\Below w.heap.size w w':=by
 have K:Hid (Kl w vk ks/\∀k∈ks,k.b.size<=9223372036854775807):=⟨h0.1,λk hk=>by have:=h0.2 k hk;unfold maxLen at this;omega⟩;have H:Hid (Wl w vw X):=h1.1;have Xe:Hid (Sd w):=hsd;obtain⟨p1,q1,p2,q2,p3,q3,p4,q4,p5,q5,rfl⟩:=aX h1.1;obtain⟨pk,qk,rfl,-⟩:=h0.1;have HS:=H.out.slices;have GR:Hid (Ro w (slice p3 X.gold.length q3) X.gold/\jD w (slice p4 X.us.length q4) X.us):=⟨HS.2.2.1,HS.2.2.2.1⟩;clear h0 h1 hsd HS;go_enter Tryz.func5,Tryz.ntmps5;go_upto_region 1 with fail
 have B0:Hid (Below w.heap.size w (w.alloc (Obj.cells #[int i64 X.turn,int i64 X.next,int i64 X.wide,int i64 X.high,slice p1 X.gs.length q1,slice p2 X.os.length q2,slice p3 X.gold.length q3,slice p4 X.us.length q4,slice p5 X.qs.length q5] 29))):=(Below.refl _ _).alloc (Nat.le_refl _) _;have X0:Hid (Bw (w.alloc (Obj.cells #[int i64 X.turn,int i64 X.next,int i64 X.wide,int i64 X.high,slice p1 X.gs.length q1,slice p2 X.os.length q2,slice p3 X.gold.length q3,slice p4 X.us.length q4,slice p5 X.qs.length q5] 29)) w.heap.size X (slice p1 X.gs.length q1) (slice p2 X.os.length q2) (slice p3 X.gold.length q3) (slice p4 X.us.length q4) (slice p5 X.qs.length q5)):=Bw.mk' X _ _ _ _ _ rfl;generalize w.alloc (Obj.cells #[int i64 X.turn,int i64 X.next,int i64 X.wide,int i64 X.high,slice p1 X.gs.length q1,slice p2 X.os.length q2,slice p3 X.gold.length q3,slice p4 X.us.length q4,slice p5 X.qs.length q5] 29)=w0 at *;go_wp2_with fail
 refine(one_any w0 (Xe.out.below B0.out)).mono ?_;rintro e w1 ⟨rfl,hb⟩;have B1:Hid (Below w.heap.size w w1):=B0.out.trans (hb.mono B0.out.size);have X1:Hid (Bw w1 w.heap.size X (slice p1 X.gs.length q1) (slice p2 X.os.length q2) (slice p3 X.gold.length q3) (slice p4 X.us.length q4) (slice p5 X.qs.length q5)):=X0.out.below hb X0.out.lt;clear hb X0 B0;obtain⟨x0,x1,x2,x3,x4,x5,x6,x7,x8⟩:=X1.out;go_wp2_with fail
 refine(yR _ _ ks X w1 (K.out.1.below B1.out) K.out.2 (H.out.below B1.out)).mono ?_;rintro e w2 ⟨r,u,rfl,hb,hs⟩;have B2:Hid (Below w.heap.size w w2):=B1.out.trans (hb.mono B1.out.size);have X2:Hid (Bw w2 w.heap.size X (slice p1 X.gs.length q1) (slice p2 X.os.length q2) (slice p3 X.gold.length q3) (slice p4 X.us.length q4) (slice p5 X.qs.length q5)):=X1.out.below hb X1.out.lt;clear hb x0 x1 x2 x3 x4 x5 x6 x7 x8 X1 B1;rcases hs with⟨hf,-,hu⟩|⟨hf,hro,hu⟩
 case inl=>
  obtain⟨f,Et⟩:∃f,Wd.aF ks X=f:=⟨_,rfl⟩;rw[Et] at hf hu;rcases hu with⟨h,-⟩|⟨-,rfl⟩
  ·exact absurd h hf
  clear Et hf;go_wp2;go_ret;exact⟨rfl,B2.out⟩
 have PF:Hid (NP ks X):=Ag hf;have PR:Hid (Ro w2 r (Sc.points ks X)):=hro;obtain rfl:=One.ez hu;clear hf hro hu;obtain⟨x0,x1,x2,x3,x4,x5,x6,x7,x8⟩:=X2.out;go_wp2_with fail
 refine(rJ _ ks _ X.us w2 (K.out.1.below B2.out) K.out.2 (GR.out.2.below B2.out)).mono ?_;rintro e w3 ⟨r3,u3,rfl,hb,hs⟩;have B3:Hid (Below w.heap.size w w3):=B2.out.trans (hb.mono B2.out.size);have X3:Hid (Bw w3 w.heap.size X (slice p1 X.gs.length q1) (slice p2 X.os.length q2) (slice p3 X.gold.length q3) (slice p4 X.us.length q4) (slice p5 X.qs.length q5)):=X2.out.below hb X2.out.lt;have PR3:Hid (Ro w3 r (Sc.points ks X)):=PR.out.below hb;clear hb x0 x1 x2 x3 x4 x5 x6 x7 x8 X2 B2 PR;obtain⟨hro,hu⟩:Ro w3 r3 (bM ks X.us)/\Er u3 0:=by
  rcases hs with⟨h,-⟩|⟨-,h,-⟩|⟨-,-,h,-⟩|⟨-,-,-,h⟩
  ·exact absurd PF.out.k h
  ·have:=PF.out.ul;omega
  ·rw[PF.out.bad] at h;cases h
  ·exact h
 obtain rfl:=One.ez hu;have WR:Hid (Ro w3 r3 (bM ks X.us)):=hro;clear hs hu hro;obtain⟨rp,rc,rfl,rl1,rl2,-⟩:=PR3.out;obtain⟨sp,sc,rfl,sl1,sl2,-⟩:=WR.out;have gl4:X.gold.length<=4:=PF.out.gl;have Xk:(Sc.points ks X).length=X.gold.length:=Sc.fO gl4;have Xm:(bM ks X.us).length=4:=rfl;rw[Xk] at rl1 PR3 ⊢;rw[Xm] at sl1 WR ⊢;have WRL:Hid ((bM ks X.us).length=4):=Xm;have EPL:Hid ((Sc.points ks X).length=X.gold.length):=Xk;clear Xk Xm;obtain⟨x0,x1,x2,x3,x4,x5,x6,x7,x8⟩:=X3.out;have GR3:Hid (Ro w3 (slice p3 X.gold.length q3) X.gold/\jD w3 (slice p4 X.us.length q4) X.us):=⟨GR.out.1.below B3.out,GR.out.2.below B3.out⟩;obtain⟨ga9,gc9,Zr,gc1,gc2,-⟩:=GR3.out.1;injection Zr with ge1 ge2 ge3
 subst ge1 ge3;obtain⟨ua9,uc9,Zt,uc1,uc2,-⟩:=GR3.out.2;injection Zt with ue1 ue2 ue3
 subst ue1 ue3;clear ge2 ue2;have hgg:((X.gold.length:Int)==(X.gold.length:Int))=true:=beq_self_eq_true _;go_wp2_with fail
 clear x0 x1 x2 x3 x4 x5 x6 x7 x8 hgg;go_loopw [10] (λj W=>∃i:Nat,i<=X.gold.length/\j=int i64 (i:Nat)/\∃q,W=w3.drewN q) (λj _=>X.gold.length-(intOf j).toNat)
 case atStart=>exact⟨0,Nat.zero_le _,rfl,0,rfl⟩
 case round=>
 obtain⟨i,hi,rfl,q,rfl⟩:=hrel;have BQ:Hid (∀n,Below w.heap.size w (w3.drewN n)):=λn=>⟨B3.out.os,B3.out.tape,B3.out.output,B3.out.size,B3.out.block⟩
 by_cases hie:i=X.gold.length
 case pos=>
  subst hie;go_wp2;go_ret;exact⟨rfl,BQ.out _⟩
 have hil:i<X.gold.length:=by omega
 have Xi:(i:Int)<(X.gold.length:Int):=by omega
 have hi4:(i:Int)<4:=by omega
 have XQ:Hid (Bw (w3.drewN q) w.heap.size X (slice p1 X.gs.length q1) (slice p2 X.os.length q2) (slice p3 X.gold.length q3) (slice p4 X.us.length q4) (slice p5 X.qs.length q5)):=⟨X3.out.c0,X3.out.c1,X3.out.c2,X3.out.c3,X3.out.c4,X3.out.c5,X3.out.c6,X3.out.c7,X3.out.c8⟩;have UQ:Hid (jD (w3.drewN q) (slice p4 X.us.length q4) X.us):=GR3.out.2.below ⟨rfl,rfl,rfl,Nat.le_refl _,λ_ _=>rfl⟩;obtain⟨g,hg⟩:∃g,X.gold[i]? =some g:=⟨_,List.getElem?_eq_getElem hil⟩;obtain⟨x,hx⟩:∃x,bK ks X.us (i:Nat)=x:=⟨_,rfl⟩;have hwx:(bM ks X.us)[i]? =some x:=by rw[Es (by omega),hx]
 have hpx:(Sc.points ks X)[i]? =some (g+10*x):=Sc.qm hg hwx;have gb:=PF.out.gold g (List.mem_of_getElem? hg);have xb:=PF.out.worth i x hwx;have HX:Hid (bK ks X.us (i:Nat)=x):=hx;obtain⟨ga,gq,ge,-,-,Ah⟩:=GR3.out.1;injection ge with ge1 ge2 ge3
 subst ge1 ge3;obtain⟨yg,rfl,-,Ah⟩:=Ah (by rintro h;rw[h] at hg;simp at hg);have cg:(w3.drewN q).cell? (yg.add i)=some (int i64 g):=Ah i g hg;obtain⟨pa,pq,pe,-,-,Ai⟩:=PR3.out;injection pe with pe1 pe2 pe3
 subst pe1 pe3;obtain⟨yp,rfl,-,Ai⟩:=Ai (by rintro h;rw[h] at hpx;simp at hpx);obtain⟨pv,hpv⟩:∃v,g+10*x=v:=⟨_,rfl⟩;have cp:(w3.drewN q).cell? (yp.add i)=some (int i64 pv):=by rw[<-hpv];exact Ai i _ hpx
 obtain⟨wa,wq,we,-,-,Aj⟩:=WR.out;injection we with we1 we2 we3
 subst we1 we3;obtain⟨yw,rfl,-,Aj⟩:=Aj (by rintro h;rw[h] at hwx;simp at hwx);have cw:(w3.drewN q).cell? (yw.add i)=some (int i64 x):=Aj i x hwx;have w10:IntKind.i64.wrap (10*x)=10*x:=by rw[IntKind.wrap_i64];omega
 have Zu:IntKind.i64.wrap (g+10*x)=g+10*x:=by rw[IntKind.wrap_i64];omega
 have PV:Hid (g+10*x=pv):=hpv;clear hg hwx hpx Ah Ai Aj ge2 pe2 we2 hx;generalize hw4:w3.drewN q=w4 at *;have W4:Hid (w3.drewN q=w4):=hw4;clear hw4;obtain⟨x0,x1,x2,x3,x4,x5,x6,x7,x8⟩:=XQ.out;go_wp2_with fail
 go_loopw [11,12] (λmv nv W=>∃n:Nat,n<=X.us.length/\mv=.bool ((X.us.take n).any (λu=>decide (u.aA=(i:Nat))))/\nv=int i64 (n:Nat)/\W=w4) (λ_ nv _=>X.us.length-(intOf nv).toNat)
 case atStart=>exact⟨0,Nat.zero_le _,by simp,rfl,rfl⟩
 case round=>
 obtain⟨n,hn,rfl,rfl,rfl⟩:=hrel;by_cases hne:n=X.us.length
 case neg=>
  have hnl:n<X.us.length:=by omega
  have QS:(n:Int)<(X.us.length:Int):=by omega
  obtain⟨u,hu⟩:∃u,X.us[n]? =some u:=⟨_,List.getElem?_eq_getElem hnl⟩;have NX:Hid ((X.us.take (n+1)).any (λu=>decide (u.aA=(i:Nat)))=((X.us.take n).any (λu=>decide (u.aA=(i:Nat)))||decide (u.aA=(i:Nat)))):=by
   unfold Hid;rw[List.take_add_one,hu,List.any_append];simp
  obtain⟨ua,uq,ue,-,-,Ak⟩:=UQ.out;injection ue with ue1 ue2 ue3
  subst ue1 ue3;obtain⟨yu,rfl,-,Ak⟩:=Ak (by rintro h;rw[h] at hu;simp at hu);obtain⟨c0,c1,c2,c3,c4,c5,c6,c7⟩:=Ak n u hu;obtain⟨m,hm⟩:∃m,(X.us.take n).any (λu=>decide (u.aA=(i:Nat)))=m:=⟨_,rfl⟩;rw[hm] at NX ⊢;clear Ak hu hm ue2;cases m with
  |true=>
   go_wp2;go_roundw
   case rel=>exact⟨n+1,by omega,by rw[NX.out];rfl,by go_num,by first|rfl|trivial⟩
   case measure=>simp[intOf];omega
  |false=>
   by_cases hpi:u.aA=(i:Nat)
   ·have hpb:(u.aA==((i:Nat):Int))=true:=beq_iff_eq.2 hpi
    have NY:Hid ((X.us.take (n+1)).any (λu=>decide (u.aA=(i:Nat)))=true):=by unfold Hid;rw[NX.out,decide_eq_true hpi];rfl
    go_wp2;go_roundw
    case rel=>exact⟨n+1,by omega,by rw[NY.out],by go_num,by first|rfl|trivial⟩
    case measure=>simp[intOf];omega
   ·have hpb:(u.aA==((i:Nat):Int))=false:=beq_eq_false_iff_ne.2 hpi
    have NY:Hid ((X.us.take (n+1)).any (λu=>decide (u.aA=(i:Nat)))=false):=by unfold Hid;rw[NX.out,decide_eq_false hpi];rfl
    go_wp2;go_roundw
    case rel=>exact⟨n+1,by omega,by rw[NY.out],by go_num,by first|rfl|trivial⟩
    case measure=>simp[intOf];omega
 have hnn:¬(n:Int)<(X.us.length:Int):=by omega
 have BQ4:Hid (∀m,∃q',wr.drewN m=w3.drewN q'):=λm=>⟨q+m,by rw[<-W4.out,World.drewN_drewN]⟩
 have MV:Hid ((X.us.take n).any (λu=>decide (u.aA=(i:Nat)))=false->pv=g):=by
  intro h;rw[hne,List.take_length] at h;have:=yZ (ks:=ks) h;have h9:=HX.out;have h8:=PV.out;omega
 obtain⟨m,hm⟩:∃m,(X.us.take n).any (λu=>decide (u.aA=(i:Nat)))=m:=⟨_,rfl⟩;rw[hm] at MV ⊢;clear hm;go_upto_region 18 with fail
 have hpe:(pv==g+10*x)=true:=beq_iff_eq.2 PV.out.symm;have pve:g+10*x=pv:=PV.out;cases m with
 |true=>
  go_quiet (fail);go_wp2;go_roundw
  case rel=>exact⟨i+1,by omega,by go_num,BQ4.out _⟩
  case measure=>simp[intOf];omega
 |false=>
  have hpg:pv=g:=MV.out rfl;clear MV;subst hpg;go_quiet (fail);go_wp2;go_roundw
  case rel=>exact⟨i+1,by omega,by go_num,BQ4.out _⟩
  case measure=>simp[intOf];omega
end Go.Proofs.YtamegacbmbgcfaaGreatDoor.topWorth
namespace Go.Proofs.YtamegacbmbgcfaaGreatDoor
open Go.ChangeShapes Go.WideShapes Go.ChangeAt Go.RowKit
theorem Ap:Tryz.prog.globalNamed "marchland/field.sides" =some 1:=by kernel_rfl
theorem NV:(Tryz.prog.globals[1]?).map (·.type)=some 236:=by kernel_rfl
theorem Aq:Tryz.prog.cellsOf 235=2:=by kernel_rfl
theorem Ri:Tryz.prog.cellsOf 3=1:=by kernel_rfl
theorem len2{α:Type}{l:List α}(h:l.length=2):∃a b,l=[a,b]:=by
 match l,h with
 |[a,b],_=>exact⟨a,b,rfl⟩
theorem Xn{α:Type}{l:List α}(h:l.length=4):∃a b c d,l=[a,b,c,d]:=by
 match l,h with
 |[a,b,c,d],_=>exact⟨a,b,c,d,rfl⟩
theorem jB{w:World}{fuel:Nat}{cs:List Value}{a b:Int}{y:DataW Unit×List MemPlace}(h:DataW.trod (λ_=>()) Tryz.prog w 0 (λ_=>true) false fuel 235 cs=some y)(hy:y.1=.agg [.lit (.int .i64 a),.lit (.int .i64 b)]):cs=[.int .i64 a,.int .i64 b]:=by
 obtain⟨y0,y1,n,hx,hl,h0,h1⟩:=trod_struct2 Tryz.underlying235 h;obtain⟨p,e0,f0,-⟩:=DataW.trod_int Tryz.underlying3 h0;obtain⟨q,e1,f1,-⟩:=DataW.trod_int Tryz.underlying3 h1;rw[hx,f0,f1] at hy;simp only[DataW.agg.injEq,List.cons.injEq,DataW.lit.injEq,Lit.int.injEq,true_and,and_true] at hy;obtain⟨rfl,rfl⟩:=hy;dsimp only at e0 e1;rw[Ri] at e0 e1;rw[Aq] at hl;obtain⟨c0,c1,rfl⟩:=len2 hl;simp at e0 e1;rw[e0,e1]
theorem zh{w:World}(h:laidMet Tryz.prog [("marchland/field.sides",Rows.laid_marchland_field_sides)] w):Sd w:=by
 obtain⟨ps,⟨g,t,cs,fuel,p,q,h1,h2,h3,h4,-,-⟩,-,-⟩:=h;obtain rfl:=Option.some.inj (Ap.symm.trans h1);obtain rfl:=Option.some.inj (NV.symm.trans h2);obtain⟨xs,m,-,hx,hl,hn,hi⟩:=DataW.trod_array Tryz.underlying236 h4;have hd:xs.map (·.1)=[.agg [.lit (.int .i64 0),.lit (.int .i64 (-1))],.agg [.lit (.int .i64 (-1)),.lit (.int .i64 0)],.agg [.lit (.int .i64 1),.lit (.int .i64 0)],.agg [.lit (.int .i64 0),.lit (.int .i64 1)]]:=by
  have e:Rows.laid_marchland_field_sides=DataW.agg (xs.map (·.1)):=congrArg Prod.fst hx;unfold Rows.laid_marchland_field_sides at e;injection e with e
  exact e.symm
 obtain⟨x0,x1,x2,x3,rfl⟩:=Xn hn;simp only[List.map_cons,List.map_nil,List.cons.injEq,and_true] at hd;obtain⟨d0,d1,d2,d3⟩:=hd;have i0:=jB (hi 0 (by decide)) d0;have i1:=jB (hi 1 (by decide)) d1;have i2:=jB (hi 2 (by decide)) d2;have i3:=jB (hi 3 (by decide)) d3;rw[Aq] at i0 i1 i2 i3;have ec:∀k:Nat,w.cell? ⟨1,k,none⟩=cs.toList[k]? :=λk=>by
  have e:=World.var?_cell Ap h3 k;rw[e,Array.getElem?_toList]
 have g0:∀k a b,(cs.toList.drop (k*2)).take 2=[.int .i64 a,.int .i64 b]->cs.toList[k*2]? =some (.int .i64 a)/\cs.toList[k*2+1]? =some (.int .i64 b):=by
  intro k a b e;constructor
  ·have:=congrArg (λl=>l[0]?) e
   simpa[List.getElem?_take,List.getElem?_drop] using this
  ·have:=congrArg (λl=>l[1]?) e
   simpa[List.getElem?_take,List.getElem?_drop] using this
 have j0:=g0 0 _ _ i0;have j1:=g0 1 _ _ i1;have j2:=g0 2 _ _ i2;have j3:=g0 3 _ _ i3;exact⟨(ec 0).trans j0.1,(ec 1).trans j0.2,(ec 2).trans j1.1,(ec 3).trans j1.2,(ec 4).trans j2.1,(ec 5).trans j2.2,(ec 6).trans j3.1,(ec 7).trans j3.2⟩
end Go.Proofs.YtamegacbmbgcfaaGreatDoor
