/- Fields: what a sign stands for. And more. -/
import Derived.Test.YtolfphmdmpehdaaGreatDoorZTopViews8
set_option linter.unusedVariables false
set_option linter.unusedSimpArgs false
set_option maxHeartbeats 32000000
set_option maxRecDepth 100000
open Go.Value (int slice)
open Go.IntKind (i64)
open Go.Obj (cells)
open Go.Proofs.Tryz
namespace Go.Proofs.YtolfphmdmpehdaaGreatDoor
section
open Go.RowKit
variable {b:UInt8} {base n z:Nat} {gs os:List Int} {l:List UInt8} {s:Fd.St} {u1 u2:Value} {w w':World}
theorem Un(s:ByteArray)(c:Int)(w:World):
  Calls prog 173 #[.string s,.int .u8 c] w λe w'=>e=.returned (int i64 (Lib.indexByte s.data.toList c.toNat.toUInt8))/\w'=w:=by
 have hx:=run_callFunc_extern (w:=w) (args:= #[.string s,.int .u8 c]) func213 (by kernel_rfl) (by kernel_rfl) (by kernel_rfl) (e:=Extern.BytealgIndexByte.indexByte) (by kernel_rfl);go_enter func173,ntmps173;go_wp2;rw[Lib.run_indexByteString];simp only[Result.andThen];rw[Oper.upon_value];go_wp2;go_ret;exact⟨rfl,rfl⟩
theorem Uo(s:ByteArray)(c:Int)(w:World):
  Calls prog 137 #[.string s,.int .u8 c] w λe w'=>e=.returned (int i64 (Lib.indexByte s.data.toList c.toNat.toUInt8))/\w'=w:=by
 have K:Hid (Calls prog 173 #[.string s,.int .u8 c] w λe w'=>e=.returned (int i64 (Lib.indexByte s.data.toList c.toNat.toUInt8))/\w'=w):=Un s c w;go_enter func137,ntmps137;go_wp2_with fail
 refine Calls.mono K ?_;rintro e w' ⟨rfl,rfl⟩;go_wp2;go_ret;exact⟨rfl,rfl⟩
namespace Fd
def Aa(b:UInt8):Int:=if b=46 then 0 else if b=35 then 1 else if b=126 then 2 else if b=94 then 3 else -1
theorem II(b:UInt8)(h:¬(49<=b.toNat/\b.toNat<=57)):meant b=if 0<=Aa b then some (Aa b,0) else none:=by
 unfold meant Aa;rw[if_neg h];split
 ·rfl
 ·split
  ·rfl
  ·split
   ·rfl
   ·split
    ·rfl
    ·rfl
end Fd
theorem Ur(b:UInt8):Lib.indexByte [46,35,126,94] b=Fd.Aa b:=by
 unfold Fd.Aa;by_cases h1:b=46
 ·subst h1;decide
 ·by_cases h2:b=35
  ·subst h2;decide
  ·by_cases h3:b=126
   ·subst h3;decide
   ·by_cases h4:b=94
    ·subst h4;decide
    ·have g1:¬46=b:=λh=>h1 h.symm
     have g2:¬35=b:=λh=>h2 h.symm
     have g3:¬126=b:=λh=>h3 h.symm
     have g4:¬94=b:=λh=>h4 h.symm
     simp[Lib.indexByte,h1,h2,h3,h4,g1,g2,g3,g4]
theorem Oi(b:UInt8)(w:World):
  Calls prog 131 #[.int .u8 (b.toNat:Nat)] w λe w'=>(∃g o,Fd.meant b=some (g,o)/\e=.returned (.tuple #[int i64 g,int i64 o,.bool true])/\w'=w)\/(Fd.meant b=none/\e=.returned (.tuple #[int i64 (-1),int i64 0,.bool false])/\w'=w):=by
 have hb:=b.toNat_lt;by_cases h:49<=b.toNat/\b.toNat<=57
 ·have e:Fd.meant b=some (0,((b.toNat:Int)-48)*10):=by unfold Fd.meant;rw[if_pos h]
  have E:Hid _:=e;obtain⟨h1,h2⟩:=h;clear e;generalize b.toNat=n at *;have w1:IntKind.u8.wrap ((n:Int)-48)=(n:Int)-48:=by rw[IntKind.wrap_u8];omega
  go_enter func131,ntmps131;go_wp2;go_ret3;exact .inl ⟨_,_,E,rfl,rfl⟩
 ·have e:=Fd.II b h
  have I:Hid (Calls prog 137 #[.string ⟨#[46,35,126,94]⟩,.int .u8 (b.toNat:Nat)] w λe w'=>e=.returned (int i64 (Fd.Aa b))/\w'=w):=by
   refine(Uo ⟨#[46,35,126,94]⟩ (b.toNat:Nat) w).mono ?_;rintro e w' ⟨rfl,rfl⟩;refine⟨?_,rfl⟩;have e2:((b.toNat:Nat):Int).toNat.toUInt8=b:=by rw[bF];exact UInt8.ofNat_toNat
   rw[e2];rw[<-Ur b]
  have gl: -1<=Fd.Aa b:=by unfold Fd.Aa;split<;>(try split)<;>(try split)<;>(try split)<;>omega
  generalize Fd.Aa b=g at *;by_cases hg:0<=g
  ·have E:Hid (Fd.meant b=some (g,0)):=by unfold Hid;rw[e,if_pos hg]
   clear e;by_cases h1:49<=b.toNat
   ·have h2:¬b.toNat<=57:=by omega
    clear h;go_enter func131,ntmps131;go_wp2_with fail
    refine Calls.mono I ?_;rintro e w' ⟨rfl,rfl⟩;go_wp2;go_ret3;exact .inl ⟨_,_,E,rfl,rfl⟩
   ·clear h
    go_enter func131,ntmps131;go_wp2_with fail
    refine Calls.mono I ?_;rintro e w' ⟨rfl,rfl⟩;go_wp2;go_ret3;exact .inl ⟨_,_,E,rfl,rfl⟩
  ·obtain rfl:g= -1:=by omega
   have E:Hid (Fd.meant b=none):=by unfold Hid;rw[e,if_neg hg]
   clear e gl hg;by_cases h1:49<=b.toNat
   ·have h2:¬b.toNat<=57:=by omega
    clear h;go_enter func131,ntmps131;go_wp2_with fail
    refine Calls.mono I ?_;rintro e w' ⟨rfl,rfl⟩;go_wp2;go_ret3;exact .inr ⟨E,rfl,rfl⟩
   ·clear h
    go_enter func131,ntmps131;go_wp2_with fail
    refine Calls.mono I ?_;rintro e w' ⟨rfl,rfl⟩;go_wp2;go_ret3;exact .inr ⟨E,rfl,rfl⟩
structure Two(w:World)(base:Nat)(u1 u2:Value)(gs os:List Int):Prop where
 o1:Ow w base u1 gs
 o2:Ow w base u2 os
 ne:∀k,u1.ownBlock=some k->u2.ownBlock≠some k
theorem Two.below(h:Two w base u1 u2 gs os)(hb:Below n w w')(hn:w.heap.size<=n):Two w' base u1 u2 gs os:=
 ⟨h.o1.below (hb.mono hn),h.o2.below (hb.mono hn),h.ne⟩
theorem Two.kp(h:Two w base u1 u2 gs os)(hk:Kp z w w')(hz:z<base):Two w' base u1 u2 gs os:=by
 have hg:w.grownBy w' (some z):=⟨hk.os,hk.tape,hk.output,hk.size,λk hk' hne=>hk.block k hk' (λe=>hne (by rw[e]))⟩;refine⟨h.o1.kept hg ?_,h.o2.kept hg ?_,h.ne⟩
 ·right;intro e;have:=(h.o1.block z e).1;omega
 ·right;intro e;have:=(h.o2.block z e).1;omega
def Dt(w:World)(z:Nat)(u1 u2:Value)(s:Fd.St):Prop:=w.heap[z]? =some (.cells #[int i64 (s.W:Nat),int i64 (s.H:Nat),u1,u2,int i64 (s.c:Nat)] 129 (0,0))
def Dr(w:World)(z:Nat)(s:Fd.St):Prop:=∃u1 u2,Dt w z u1 u2 s/\Two w (z+1) u1 u2 s.gs s.os
section
variable {w:World} {z:Nat} {u1 u2:Value} {s:Fd.St}
theorem Dt.c0(h:Dt w z u1 u2 s):w.cell? ⟨z,0,none⟩=some (int i64 (s.W:Nat)):=by unfold Dt at h;simp[World.cell?,h]
theorem Dt.c1(h:Dt w z u1 u2 s):w.cell? ⟨z,1,none⟩=some (int i64 (s.H:Nat)):=by unfold Dt at h;simp[World.cell?,h]
theorem Dt.c2(h:Dt w z u1 u2 s):w.cell? ⟨z,2,none⟩=some u1:=by unfold Dt at h;simp[World.cell?,h]
theorem Dt.c3(h:Dt w z u1 u2 s):w.cell? ⟨z,3,none⟩=some u2:=by unfold Dt at h;simp[World.cell?,h]
theorem Dt.c4(h:Dt w z u1 u2 s):w.cell? ⟨z,4,none⟩=some (int i64 (s.c:Nat)):=by unfold Dt at h;simp[World.cell?,h]
theorem Dt.fz(h:Dt w z u1 u2 s)(i:Nat):w.frozen? ⟨z,i,none⟩=false:=by unfold Dt at h;simp[World.frozen?,h]
theorem Dt.lt(h:Dt w z u1 u2 s):z<w.heap.size:=lt_of_block h
theorem Dt.below(h:Dt w z u1 u2 s)(hb:Below n w w')(hz:z<n):Dt w' z u1 u2 s:=(hb.block z hz).trans h
end
theorem Yl(z:Nat)(u1 u2:Value)(s:Fd.St)(w:World)(h:Dt w z u1 u2 s)(hc:s.c<=12)(hw:s.W<=12)(hb:s.c=0\/s.c<s.W):
  Calls prog 130 #[.pointer (some ⟨z,0,none⟩)] w λe w'=>e=.returned (.iface 85 (int i64 2))/\∃n,w'=w.drewN n:=by
 have c0:=h.c0;have c4:=h.c4;obtain⟨c,W,H,gs,os⟩:=s;simp only at hc hw hb c0 c4;clear h;by_cases q:c=0
 ·subst q
  go_enter func130,ntmps130;go_wp2_with fail
  go_quiet (fail);go_wp2;go_ret;exact⟨rfl,_,rfl⟩
 ·have q2:c<W:=by omega
  have q':((c:Int)==0)=false:=by rw[beq_eq_false_iff_ne];omega
  clear hb;go_enter func130,ntmps130;go_wp2_with fail
  go_quiet (fail);go_wp2;go_ret;exact⟨rfl,_,rfl⟩
theorem aaI(z:Nat)(u1 u2:Value)(s:Fd.St)(w:World)(h:Dt w z u1 u2 s)(hc:s.c<=12)(hw:s.W<=12)(hh:s.H<=12)(h0:s.c≠0)(h1:¬s.c<s.W):
  Calls prog 130 #[.pointer (some ⟨z,0,none⟩)] w λe w'=>e=.returned .nilIface/\Dt w' z u1 u2 ⟨0,s.c,s.H+1,s.gs,s.os⟩/\Kp z w w':=by
 have D:=aj (h);have c0:=h.c0;have c1:=h.c1;have c4:=h.c4;have f0:=h.fz 0;have f1:=h.fz 1;have f4:=h.fz 4;obtain⟨c,W,H,gs,os⟩:=s;simp only at hc hw hh h0 h1 c0 c1 c4;have q':((c:Int)==0)=false:=by rw[beq_eq_false_iff_ne];omega
 clear h;go_enter func130,ntmps130;go_wp2_with fail
 go_quiet (fail);have Dq:Hid (Dt (w.drewN nq) z u1 u2 _):=D;have Kq:=aj ((Kp.refl z w).drewN nq);have c0:(w.drewN nq).cell? _=some (int i64 (W:Nat)):=Dq.c0;have c1:(w.drewN nq).cell? _=some (int i64 (H:Nat)):=Dq.c1;have c4:(w.drewN nq).cell? _=some (int i64 (c:Nat)):=Dq.c4;have f0:=Dq.fz 0;have f1:=Dq.fz 1;have f4:=Dq.fz 4;generalize w.drewN nq=w1 at *;go_wp2;go_ret;refine⟨rfl,?_,?_⟩
 ·unfold Dt
  rw[heap_setCell_same _ z 4 _ _ _ (heap_setCell_same _ z 1 _ _ _ (heap_setCell_same w1 z 0 _ _ _ Dq.out))];simp
 ·exact((Kq.trans (Kp.set _ _ _)).trans (Kp.set _ _ _)).trans (Kp.set _ _ _)
structure IJ(s:Fd.St):Prop where
 w0:s.H=0->s.W=0
 cw:0<s.H->s.c<=s.W
 c12:s.c<=12
 w12:s.W<=12
 h12:s.H<=12
 gl:s.gs.length<=156
 ol:s.os.length<=156
theorem IJ.of(h:Fd.Inv s l):IJ s:=by
 have e:s.H*s.W<=144:=o_ h.h12 h.w12;have:=h.c12;exact⟨h.w0,h.cw,h.c12,h.w12,h.h12,by rw[h.gl];omega,by rw[h.ol];omega⟩
theorem Us(h:IJ s):Fd.step s 10=if s.c=0\/s.c<s.W then .inl 2 else .inr ⟨0,s.c,s.H+1,s.gs,s.os⟩:=by
 unfold Fd.step;rw[if_pos rfl];have:=h.w0;have:=h.cw
 by_cases q:s.c=0\/(0<s.H/\s.c≠s.W)
 ·rw[if_pos q,if_pos (by omega)]
 ·rw[if_neg q,if_neg (by omega)]
theorem step_none(hb:b≠10)(hm:Fd.meant b=none):Fd.step s b=.inl 2:=by
 unfold Fd.step;rw[if_neg hb,hm]
theorem step_some{g o:Int}(hb:b≠10)(hm:Fd.meant b=some (g,o)):Fd.step s b=if 0<s.H/\s.c=s.W then .inl 2 else if s.c=12\/s.H=12 then .inl 4 else .inr ⟨s.c+1,s.W,s.H,s.gs++[g],s.os++[o]⟩:=by
 unfold Fd.step;rw[if_neg hb,hm]
theorem Ut(z:Nat)(s:Fd.St)(w:World)(h:Dr w z s)(ok:IJ s):
  Calls prog 81 #[.pointer (some ⟨z,0,none⟩),.int .u8 10] w λe w'=>(∃f,Fd.step s 10=.inl f/\e=.returned (.iface 85 (int i64 f))/\f≠0/\Below z w w')\/(∃s',Fd.step s 10=.inr s'/\e=.returned .nilIface/\Dr w' z s'/\Below z w w'):=by
 obtain⟨u1,u2,hd,ht⟩:=h;have S:=Us ok;have HS:Hid _:=S;clear S;by_cases q:s.c=0\/s.c<s.W
 ·have K:=aj (Yl z u1 u2 s w hd ok.c12 ok.w12 q)
  have Q:=aj (q);clear q hd ht ok;go_enter func81,ntmps81;go_wp2_with fail
  refine Calls.mono K ?_;rintro e w1 ⟨rfl,n,rfl⟩;go_wp2;go_ret;exact .inl ⟨2,by rw[HS.out,if_pos Q.out],rfl,by decide,_root_.Go.below_drewN aB _⟩
 ·have K:=aj (aaI z u1 u2 s w hd ok.c12 ok.w12 ok.h12 (λe=>q (.inl e)) (λe=>q (.inr e)))
  have Q:=aj (q);have T:=aj (ht);have L:=aj (hd.lt);clear q hd ht ok;go_enter func81,ntmps81;go_wp2_with fail
  refine Calls.mono K ?_;rintro e w1 ⟨rfl,hd1,hk1⟩;have D1:=aj (hd1);have K1:=aj (hk1);clear hd1 hk1;go_wp2;go_ret;refine .inr ⟨_,by rw[HS.out,if_neg Q.out],rfl,⟨u1,u2,D1,T.kp K1 (fC _)⟩,Kp.below aB K1 (Nat.le_of_lt L) aN⟩
theorem Oj(z:Nat)(s:Fd.St)(b:UInt8)(w:World)(h:Dr w z s)(ok:IJ s)(hb:b≠10):
  Calls prog 81 #[.pointer (some ⟨z,0,none⟩),.int .u8 (b.toNat:Nat)] w λe w'=>(∃f,Fd.step s b=.inl f/\e=.returned (.iface 85 (int i64 f))/\f≠0/\Below z w w')\/(∃s',Fd.step s b=.inr s'/\e=.returned .nilIface/\Dr w' z s'/\Below z w w'):=by
 obtain⟨u1,u2,hd,ht⟩:=h;have hb2:=b.toNat_lt;have hb3:¬((b.toNat:Nat):Int)=10:=by
  intro e;have e2:b.toNat=10:=by omega
  exact hb (UInt8.toNat_inj.1 e2)
 have M:=aj (Oi b);have HB:=aj (hb);have D:=aj (hd);have T:=aj (ht);have K:=aj (ok);clear hb hd ht ok;generalize b.toNat=n at *;go_enter func81,ntmps81;go_wp2_with fail
 refine(M _).mono ?_;rintro e w1 hm;rcases hm with⟨g,o,hm,rfl,rfl⟩|⟨hm,rfl,rfl⟩
 ·have HS:Hid _:=step_some (s:=s) HB hm
  have c0:=D.c0;have c1:=D.c1;have c2:=D.c2;have c3:=D.c3;have c4:=D.c4;obtain⟨c,W,H,gs,os⟩:=s;simp only at c0 c1 c4;have k12:=K.c12;have w12:=K.w12;have h12:=K.h12;simp only at k12 w12 h12;clear hm M;by_cases q1:0<H/\c=W
  ·obtain⟨q1a,q1b⟩:=q1
   have HS':Hid (Fd.step ⟨c,W,H,gs,os⟩ b=.inl 2):=by unfold Hid;rw[HS.out,if_pos ⟨q1a,q1b⟩]
   subst q1b;go_wp2_with fail
   go_quiet (fail);go_wp2;go_ret;exact .inl ⟨2,HS',rfl,by decide,_root_.Go.below_drewN aB _⟩
  ·have HS1:Hid (Fd.step ⟨c,W,H,gs,os⟩ b=if c=12\/H=12 then .inl 4 else .inr ⟨c+1,W,H,gs++[g],os++[o]⟩):=by unfold Hid;rw[HS.out,if_neg q1]
   clear HS;go_wp2_with fail
   go_cut [39] (λv W'=>v=.bool false/\∃n,W'=w1.drewN n)
   case first=>
    by_cases q2:H=0
    ·subst q2
     go_quiet (fail);go_wp2_with fail
     go_meet
     case rel=>exact⟨rfl,_,rfl⟩
    ·have q3:0<H:=by omega
     have q4:¬c=W:=λe=>q1 ⟨q3,e⟩
     have q4b:((c:Int)==(W:Int))=false:=by rw[beq_eq_false_iff_ne];omega
     clear q1;go_quiet (fail);go_wp2_with fail
     go_meet
     case rel=>exact⟨rfl,_,rfl⟩
   case rest=>
    obtain⟨rfl,nn,hn⟩:=hcut;have kb:Below w1.heap.size w1 wc:=by rw[hn];exact _root_.Go.below_drewN aB _
    have D2:=aj (D.below kb D.lt);have T2:=aj (T.below kb aN);have B2:=aj (kb.mono (Nat.le_of_lt D.lt));clear kb hn c0 c1 c2 c3 c4 q1 D T;have c0:=D2.c0;have c1:=D2.c1;have c2:=D2.c2;have c3:=D2.c3;have c4:=D2.c4;simp only at c0 c1 c4;by_cases q5:c=12
    ·subst q5
     have HS':Hid (Fd.step ⟨12,W,H,gs,os⟩ b=.inl 4):=by unfold Hid;rw[HS1.out,if_pos (.inl rfl)]
     go_wp2;go_ret;exact .inl ⟨4,HS',rfl,by decide,B2⟩
    ·have q5b:((c:Int)==12)=false:=by rw[beq_eq_false_iff_ne];omega
     by_cases q6:H=12
     ·subst q6
      have HS':Hid (Fd.step ⟨c,W,12,gs,os⟩ b=.inl 4):=by unfold Hid;rw[HS1.out,if_pos (.inr rfl)]
      go_wp2;go_ret;exact .inl ⟨4,HS',rfl,by decide,B2⟩
     ·have q6b:((H:Int)==12)=false:=by rw[beq_eq_false_iff_ne];omega
      have HS':Hid (Fd.step ⟨c,W,H,gs,os⟩ b=.inr ⟨c+1,W,H,gs++[g],os++[o]⟩):=by unfold Hid;rw[HS1.out,if_neg (by omega)]
      have gl:=K.gl;have ol:=K.ol;simp only at gl ol;have L2:=aj (D2.lt);clear HS1;go_wp2_with (at_builtin;refine gG _ rfl _ _ rfl (z+1) _ gs rfl (T2.o1.alloc _) ⟨wc.heap.size,0,none⟩ g rfl (by simp) (by omega) (by have:=L2.out;simp;omega) ?_);intro g1 cap1 w3 o3 g3 a3 l3;have hob:∀k,u1.ownBlock=some k->z+1<=k:=λk hk=>(T2.o1.block k hk).1
      have b3:Below (z+1) wc w3:=(aB.alloc L2 _).grown g3 (by have:=L2.out;simp;omega) hob;have D3:=D2.below b3 (fC _);have O3:=(T2.o2.alloc _).kept g3 (by
       cases hq:u2.ownBlock with
       |none=>exact .inl rfl
       |some k=>exact .inr (λe=>T2.ne k e.symm hq))
      have N3:Hid (∀k,u2.ownBlock=some k->k≠g1):=by
       intro k hk e;subst e;rcases a3 with a3|a3
       ·exact T2.ne _ a3 hk
       ·have:=(T2.o2.block _ hk).2
        try simp at a3
        omega
      have K3:Kp z w3 (w3.setCell ⟨z,2,none⟩ (slice (some ⟨g1,0,none⟩) (gs.length+1) cap1)):=Kp.set _ _ _;have T3:Hid (Two (w3.setCell ⟨z,2,none⟩ (slice (some ⟨g1,0,none⟩) (gs.length+1) cap1)) (z+1) (slice (some ⟨g1,0,none⟩) (gs.length+1) cap1) u2 (gs++[g]) os):=
       (show Two w3 (z+1) (slice (some ⟨g1,0,none⟩) (gs.length+1) cap1) u2 (gs++[g]) os from⟨o3,O3,λk hk e=>N3 k e (dQ hk).symm⟩).kp K3 (fC _)
      have D4:Hid (Dt (w3.setCell ⟨z,2,none⟩ (slice (some ⟨g1,0,none⟩) (gs.length+1) cap1)) z (slice (some ⟨g1,0,none⟩) (gs.length+1) cap1) u2 ⟨c,W,H,gs++[g],os⟩):=by
       unfold Hid Dt;rw[heap_setCell_same w3 z 2 _ _ _ D3];simp
      have B4:Hid (Below z w1 (w3.setCell ⟨z,2,none⟩ (slice (some ⟨g1,0,none⟩) (gs.length+1) cap1))):=(B2.trans (b3.mono (Nat.le_succ _))).setCell aN _;have e2:=D3.c2;have e3:=D3.c3;have f2:=D3.fz 2;have z3:=aj (D3.lt);clear o3 g3 a3 l3 hob b3 D3 O3 K3 c0 c1 c2 c3 c4;go_wp2_with (at_builtin;refine gG _ rfl _ _ rfl (z+1) _ os rfl (T3.o2.alloc _) ⟨w3.heap.size,0,none⟩ o rfl (by rw[World.cell?_alloc_at _ _ _ _ (by simp)];rfl) (by omega) (by have:=z3.out;simp;omega) ?_);intro g2 cap2 w5 o5 g5 a5 l5;have hob:∀k,u2.ownBlock=some k->z+1<=k:=λk hk=>(T3.o2.block k hk).1
      have b5:=(aB.alloc (by have:=z3.out;simp;omega) _).grown g5 (by have:=z3.out;simp;omega) hob;have D5:=D4.below b5 (fC _);have O5:=(T3.o1.alloc _).kept g5 (by
       cases hq:(slice (some ⟨g1,0,none⟩) (gs.length+1) cap1).ownBlock with
       |none=>exact .inl rfl
       |some k=>exact .inr (λe=>T3.ne k hq e.symm))
      have N5:Hid (∀k,(slice (some ⟨g1,0,none⟩) (gs.length+1) cap1).ownBlock=some k->k≠g2):=by
       intro k hk e;subst e;rcases a5 with a5|a5
       ·exact T3.ne _ hk a5
       ·have:=(T3.o1.block _ hk).2
        simp at this
        try simp at a5
        omega
      have K5:Kp z w5 (w5.setCell ⟨z,3,none⟩ (slice (some ⟨g2,0,none⟩) (os.length+1) cap2)):=Kp.set _ _ _;have T5:Hid (Two (w5.setCell ⟨z,3,none⟩ (slice (some ⟨g2,0,none⟩) (os.length+1) cap2)) (z+1) (slice (some ⟨g1,0,none⟩) (gs.length+1) cap1) (slice (some ⟨g2,0,none⟩) (os.length+1) cap2) (gs++[g]) (os++[o])):=
       (show Two w5 (z+1) (slice (some ⟨g1,0,none⟩) (gs.length+1) cap1) (slice (some ⟨g2,0,none⟩) (os.length+1) cap2) (gs++[g]) (os++[o]) from⟨O5,o5,λk hk e=>N5 k hk (dQ e).symm⟩).kp K5 (fC _)
      have D6:Hid (Dt (w5.setCell ⟨z,3,none⟩ (slice (some ⟨g2,0,none⟩) (os.length+1) cap2)) z (slice (some ⟨g1,0,none⟩) (gs.length+1) cap1) (slice (some ⟨g2,0,none⟩) (os.length+1) cap2) ⟨c,W,H,gs++[g],os++[o]⟩):=by
       unfold Hid Dt;rw[heap_setCell_same w5 z 3 _ _ _ D5];simp
      have B6:Hid (Below z w1 (w5.setCell ⟨z,3,none⟩ (slice (some ⟨g2,0,none⟩) (os.length+1) cap2))):=(B4.trans (b5.mono (Nat.le_succ _))).setCell aN _;have e4:=D5.c3;have e5:w5.cell? _=some (int i64 (c:Nat)):=D5.c4;have f3:=D5.fz 3;have f4:=D5.fz 4;clear o5 g5 a5 l5 hob b5 D5 O5 K5 e2 e3 f2;go_wp2;go_ret;refine .inr ⟨_,HS',rfl,⟨(slice _ _ cap1),(slice _ _ cap2),?_,T5.kp (Kp.set _ _ _) (fC _)⟩,B6.setCell aN _⟩;unfold Dt;rw[heap_setCell_same _ z 4 _ _ _ D6.out];simp
 ·have HS:Hid (Fd.step s b=.inl 2):=step_none HB hm
  go_wp2_with fail
  go_quiet (fail);go_wp2;go_ret;exact .inl ⟨2,HS,rfl,by decide,_root_.Go.below_drewN aB _⟩
theorem Ol(z:Nat)(s:Fd.St)(b:UInt8)(w:World)(h:Dr w z s)(ok:IJ s):
  Calls prog 81 #[.pointer (some ⟨z,0,none⟩),.int .u8 (b.toNat:Nat)] w λe w'=>(∃f,Fd.step s b=.inl f/\e=.returned (.iface 85 (int i64 f))/\f≠0/\Below z w w')\/(∃s',Fd.step s b=.inr s'/\e=.returned .nilIface/\Dr w' z s'/\Below z w w'):=by
 by_cases hb:b=10
 ·subst hb
  exact Ut z s w h ok
 ·exact Oj z s b w h ok hb
theorem aaJ{k:Nat}(st:Fd.St)(h:k<l.length):Fd.run st k (l.drop k)=match Fd.step st l[k] with| .inl e=>.inl (k,e)| .inr s'=>Fd.run s' (k+1) (l.drop (k+1)):=by
 rw[List.drop_eq_getElem_cons h];rfl
def Says(l:List UInt8)(e:Ending)(w':World):Prop:=
 (∃(i:Nat) (f:Int),Fd.parse l=.inl (i,f)/\e=.returned (.tuple #[.agg #[int i64 0,int i64 0,slice none 0 0,slice none 0 0],int i64 (i:Nat),.iface 85 (int i64 f)])/\f≠0)\/
 (∃st u1 u2,Fd.parse l=.inr st/\e=.returned (.tuple #[.agg #[int i64 (st.W:Nat),int i64 (st.H:Nat),u1,u2],int i64 0,.nilIface])/\Ro w' u1 st.gs/\Ro w' u2 st.os)
def Ym(b:Nat)(l:List UInt8)(e:Ending)(w':World):Prop:=
 (∃(i:Nat) (f:Int),Fd.parse l=.inl (i,f)/\e=.returned (.tuple #[.agg #[int i64 0,int i64 0,slice none 0 0,slice none 0 0],int i64 (i:Nat),.iface 85 (int i64 f)])/\f≠0)\/
 (∃st u1 u2,Fd.parse l=.inr st/\e=.returned (.tuple #[.agg #[int i64 (st.W:Nat),int i64 (st.H:Nat),u1,u2],int i64 0,.nilIface])/\Two w' (b+1+1) u1 u2 st.gs st.os)
theorem Om(s:ByteArray)(w:World)(hs:s.size<=maxLen):
  Calls prog 37 #[.string s] w λe w'=>Ym w.heap.size s.data.toList e w'/\Below w.heap.size w w':=by
 unfold maxLen at hs;generalize hl:s.data.toList=l;have Hl:=aj (hl);have Ll:Hid (l.length=s.size):=by unfold Hid;rw[<-hl];rfl
 clear hl;have P:Hid (Fd.parse l=match Fd.run Fd.st0 0 l with| .inl x=>.inl x| .inr s=>if 0<s.c\/s.H=0 then .inl _ else .inr s):=rfl;go_enter func37,ntmps37;go_wp2_with fail
 have B0:Hid (Below _ w ((w.alloc (cells #[int i64 0,int i64 0,slice none 0 0,slice none 0 0] 25)).alloc (cells #[int i64 0,int i64 0,slice none 0 0,slice none 0 0,int i64 0] 129))):=aA.alloc (by simp) _;have D0:Hid (Dr ((w.alloc (cells #[int i64 0,int i64 0,slice none 0 0,slice none 0 0] 25)).alloc (cells #[int i64 0,int i64 0,slice none 0 0,slice none 0 0,int i64 0] 129)) (w.heap.size+1) Fd.st0):=by
  refine⟨slice none 0 0,slice none 0 0,?_,⟨Ow.nil _ _,Ow.nil _ _,λk h=>by cases h⟩⟩;have e:(w.alloc (cells #[int i64 0,int i64 0,slice none 0 0,slice none 0 0] 25)).heap.size=w.heap.size+1:=by simp
  unfold Dt;rw[<-e];exact heap_alloc_new _ _
 have X0:Hid (Bf ((w.alloc (cells #[int i64 0,int i64 0,slice none 0 0,slice none 0 0] 25)).alloc (cells #[int i64 0,int i64 0,slice none 0 0,slice none 0 0,int i64 0] 129)) w.heap.size 0 0 (slice none 0 0) (slice none 0 0)):=
  (Bf.mk' (w:=w) 0 0 (slice none 0 0) (slice none 0 0) rfl).below aA (by simp)
 have Z0:Hid (∀i,((w.alloc (cells #[int i64 0,int i64 0,slice none 0 0,slice none 0 0] 25)).alloc (cells #[int i64 0,int i64 0,slice none 0 0,slice none 0 0,int i64 0] 129)).frozen? ⟨w.heap.size,i,none⟩=false):=by
  intro i;rw[((dU _ (w.alloc (cells #[int i64 0,int i64 0,slice none 0 0,slice none 0 0] 25))).alloc aN _).frozen (p:=⟨w.heap.size,i,none⟩) (by simp)];simp
 generalize (w.alloc _).alloc _=w0 at *;go_loopw [10] (λi W'=>∃(k:Nat) (st:Fd.St),k<=s.size/\i=int i64 (k:Nat)/\Dr W' (w.heap.size+1) st/\Fd.Inv st (l.take k)/\Fd.run st k (l.drop k)=Fd.run Fd.st0 0 l/\Below (w.heap.size+1) w0 W') (λi _=>s.size-(intOf i).toNat)
 case atStart=>exact⟨0,Fd.st0,aZ _,rfl,D0,by simpa using Fd.inv0,by simp,dU _ _⟩
 case round=>
  obtain⟨k,st,hk,rfl,hd,hi,hrun,hb⟩:=hrel;have D:=aj (hd);have I:=aj (hi);have R:=aj (hrun);have B:=aj (hb);have X:=aj (X0.below hb (fC _));have Z:Hid (∀i,wr.frozen? _=false):=λi=>by rw[hb.frozen (p:=⟨w.heap.size,i,none⟩) (fC _)];exact Z0 i
  have BW:=aj (B0.trans (hb.mono (Nat.le_succ _)));clear hd hi hrun hb D0;by_cases h0:k=s.size
  ·subst h0
   have R2:Hid (Fd.run Fd.st0 0 l=.inr st):=by
    unfold Hid;rw[<-R.out,List.drop_of_length_le (by rw[Ll.out];exact aU _)];rfl
   obtain⟨u1,u2,hd,ht⟩:=D.out;have T:=aj (ht);have c0:=hd.c0;have c1:=hd.c1;have c2:=hd.c2;have c3:=hd.c3;have c4:=hd.c4;obtain⟨x0,x1,x2,x3⟩:=X.out;have z0:=Z 0;have z1:=Z 1;have z2:=Z 2;have z3:=Z 3;have k12:=I.c12;have h12:=I.h12;have w12:=I.w12;obtain⟨c,W,H,gs,os⟩:=st;simp only at c0 c1 c4 k12 h12 w12;have P2:Hid (Fd.parse l=if 0<c\/H=0 then .inl (l.length,2) else .inr ⟨c,W,H,gs,os⟩):=by
    unfold Hid;rw[P.out,R2.out]
   clear hd ht;by_cases q1:0<c
   ·go_wp2
    refine bodyPost_ret (by simp[results,results37,go_sem,x0,x1,x2,x3]) rfl ⟨.inl ⟨s.size,2,by rw[P2.out,if_pos (.inl q1),Ll.out],rfl,by decide⟩,?_⟩;exact(((BW.setCell aN _).setCell aN _).setCell aN _).setCell aN _
   ·obtain rfl:c=0:=by omega
    by_cases q2:H=0
    ·subst q2
     go_wp2;refine bodyPost_ret (by simp[results,results37,go_sem,x0,x1,x2,x3]) rfl ⟨.inl ⟨s.size,2,by rw[P2.out,Ll.out];simp,rfl,by decide⟩,?_⟩;exact(((BW.setCell aN _).setCell aN _).setCell aN _).setCell aN _
    ·have q2b:((H:Int)==0)=false:=by rw[beq_eq_false_iff_ne];omega
     obtain⟨p1,k1,rfl⟩:=T.o1.len;obtain⟨p2,k2,rfl⟩:=T.o2.len;have KK:Hid (Kp _ wr ((((wr.setCell ⟨w.heap.size,0,none⟩ (int i64 (W:Nat))).setCell ⟨w.heap.size,1,none⟩ (int i64 (H:Nat))).setCell ⟨w.heap.size,2,none⟩ (slice p1 gs.length k1)).setCell ⟨w.heap.size,3,none⟩ (slice p2 os.length k2))):=(((Kp.set _ _ _).trans (Kp.set _ _ _)).trans (Kp.set _ _ _)).trans (Kp.set _ _ _);go_wp2;refine bodyPost_ret (v:=.tuple #[.agg #[int i64 (W:Nat),int i64 (H:Nat),slice p1 gs.length k1,slice p2 os.length k2],int i64 0,.nilIface]) (by simp[results,results37,go_sem,x0,x1,x2,x3]) rfl ⟨.inr ⟨_,_,_,by rw[P2.out,if_neg (by omega)],rfl,?_⟩,?_⟩
     ·exact T.kp KK (by omega)
     ·exact(((BW.setCell aN _).setCell aN _).setCell aN _).setCell aN _
  ·have hks:k<s.size:=by omega
   have hkl:k<l.length:=by rw[Ll.out];exact hks
   have RA:=aaJ st hkl;rw[R.out] at RA;have eb:l[k]=s[k]:=by
    have:=Hl.out;subst this;rfl
   rw[eb] at RA;have RA':Hid _:=RA;have TK:Hid (l.take (k+1)=l.take k++[s[k]]):=by unfold Hid;rw[dM hkl,eb]
   have KR:=aj (Ol _ st s[k] wr D (IJ.of I));clear RA eb;go_wp2_with fail
   refine Calls.mono KR ?_;rintro e w1 hm;rcases hm with⟨f,hst,rfl,hf,hb⟩|⟨st',hst,rfl,hd',hb⟩
   ·have P2:Hid (Fd.parse l=.inl (k,f)):=by
     unfold Hid;rw[P.out,RA'.out,hst]
    have Hf:=aj (hf);have B1:=aj (BW.trans (hb.mono (Nat.le_succ _)));have X1:=X.below hb (fC _);have z0:w1.frozen? ⟨w.heap.size,0,none⟩=false:=by rw[hb.frozen (p:=⟨w.heap.size,0,none⟩) (fC _)];exact Z 0
    have z1:w1.frozen? ⟨w.heap.size,1,none⟩=false:=by rw[hb.frozen (p:=⟨w.heap.size,1,none⟩) (fC _)];exact Z 1
    have z2:w1.frozen? ⟨w.heap.size,2,none⟩=false:=by rw[hb.frozen (p:=⟨w.heap.size,2,none⟩) (fC _)];exact Z 2
    have z3:w1.frozen? ⟨w.heap.size,3,none⟩=false:=by rw[hb.frozen (p:=⟨w.heap.size,3,none⟩) (fC _)];exact Z 3
    obtain⟨x0,x1,x2,x3⟩:=X1;clear hst hf hb KR RA';go_wp2;refine bodyPost_ret (by simp[results,results37,go_sem,x0,x1,x2,x3]) rfl ⟨.inl ⟨k,f,P2,rfl,Hf⟩,?_⟩;exact(((B1.setCell aN _).setCell aN _).setCell aN _).setCell aN _
   ·have I2:Hid (Fd.Inv st' (l.take (k+1))):=by unfold Hid;rw[TK.out];exact I.step hst
    have R2:Hid (Fd.run st' (k+1) (l.drop (k+1))=Fd.run Fd.st0 0 l):=by unfold Hid;rw[RA'.out,hst]
    have D2:=aj (hd');have B2:=aj (B.trans hb);clear hst hd' hb KR RA';go_wp2;go_round
    case rel=>exact⟨k+1,st',by omega,by go_num,D2,I2,R2,B2⟩
    case measure=>simp[intOf];omega
theorem parse_any(s:ByteArray)(w:World)(hs:s.size<=maxLen):
  Calls prog 37 #[.string s] w λe w'=>Says s.data.toList e w'/\Below w.heap.size w w':=
 (Om s w hs).mono λe w' ⟨h,hb⟩=>⟨h.imp id λ⟨st,u1,u2,h1,h2,h3⟩=>⟨st,u1,u2,h1,h2,h3.o1.ro,h3.o2.ro⟩,hb⟩
open Go.Proofs.YtolfphmdmpehdaaGreatDoor.So
namespace One
def X0:WV:=⟨0,1,4,2,SG,SO,[0],[],[]⟩
def X1:WV:=⟨0,2,4,2,SG,SO,[0],[ob],[]⟩
theorem f0:Wd.h_ OK 4 2 SG SO 1 0=0:=by decide+kernel
theorem f1:Wd.fV OK X0 0 0 0=0:=by decide+kernel
theorem f2:Wd.fV OK X1 0 1 1=0:=by decide+kernel
theorem e0:Wd.begun OK 4 2 SG SO 1 0=X0:=Dv f0
theorem e1:Wd.placed OK X0 0 0 0=X1:=(oD f1).trans rfl
theorem e2:Wd.placed OK X1 0 1 1=OX:=(oD f2).trans rfl
theorem names:∀k∈OK,k.b.size<=9223372036854775807:=by
 intro k hk;unfold OK at hk;rcases bP.1 hk with rfl|hk
 ·decide
 rcases bP.1 hk with rfl|hk
 ·decide
 ·cases hk
theorem ez{r:Value}(h:Er r 0):r=.nilIface:=by
 rcases h with⟨-,h⟩|⟨h,-⟩
 ·exact h
 ·exact absurd rfl h
theorem abH(hz:w.heap.size=z):Kl (w.alloc (.cells #[.string ⟨#[98,97,115,101]⟩,int i64 50,int i64 0,int i64 0,int i64 0,int i64 0,int i64 0,int i64 0,int i64 0,.bool false,.bool true,.string ⟨#[100,105,103,103,101,114]⟩,int i64 10,int i64 0,int i64 0,int i64 0,int i64 2,int i64 0,int i64 0,int i64 20,.bool false,.bool false] 77)) (slice (some ⟨z,0,none⟩) 2 2) OK:=by
 subst hz;refine⟨_,2,rfl,aU _,by omega,λ_=>⟨_,rfl,by simp,λi k hi=>?_⟩⟩;have hl:i<2:=(aK.1 hi).1;rw[Addr.add_lit,aO]
 match i,hl,hi with
 |0,_,hi=>injection hi with hi;subst hi;constructor<;>simp[OB]
 |1,_,hi=>injection hi with hi;subst hi;constructor<;>simp[OD]
theorem abI(w:World):Bo (w.alloc (cells #[int i64 0,int i64 2,int i64 2,int i64 6] 96)) (slice (some ⟨w.heap.size,0,none⟩) 1 1) [oo]:=by
 refine⟨_,_,rfl,by decide,by decide,λ_=>⟨⟨w.heap.size,0,none⟩,rfl,by simp,λi k hk=>?_⟩⟩;have hn:=heap_alloc_new w (cells #[int i64 0,int i64 2,int i64 2,int i64 6] 96)
 match i,hk with
 |0,hk=>simp[oo] at hk;subst hk;refine⟨?_,?_,?_,?_⟩<;>(simp only[World.cell?,Addr.add_lit,hn];rfl)
 |i+1,hk=>simp at hk
theorem abJ(w:World)(v:Value)(hv:Bo w v [oo]):Py (w.alloc (cells #[v,slice none 0 0,slice none 0 0] 61)) (slice (some ⟨w.heap.size,0,none⟩) 3 3) [[oo],[],[]]:=by
 have hn:=heap_alloc_new w (cells #[v,slice none 0 0,slice none 0 0] 61);have hb:Below _ w (w.alloc (cells #[v,slice none 0 0,slice none 0 0] 61)):=aA;have ol:∀W,Bo W (slice none 0 0) []:=λW=>⟨none,0,rfl,aU _,by omega,λh=>absurd rfl h⟩
 refine⟨_,_,rfl,by decide,by decide,λ_=>⟨⟨w.heap.size,0,none⟩,rfl,by simp,λi l hl=>?_⟩⟩
 match i,hl with
 |0,hl=>simp at hl;subst hl;exact⟨_,by simp only[World.cell?,Addr.add_lit,hn];rfl,hv.below hb⟩
 |1,hl=>simp at hl;subst hl;exact⟨_,by simp only[World.cell?,Addr.add_lit,hn];rfl,ol _⟩
 |2,hl=>simp at hl;subst hl;exact⟨_,by simp only[World.cell?,Addr.add_lit,hn];rfl,ol _⟩
 |i+3,hl=>simp at hl
end One
theorem one_any(w:World)(hsd:Sd w):Calls prog 24 #[] w λe w'=>e=.returned (.bool true)/\Below w.heap.size w w':=by
 have SDH:=aj (hsd);clear hsd;go_enter func24,ntmps24;go_upto_region 2 with fail
 have KL:Hid (Kl _ (slice (some ⟨w.heap.size,0,none⟩) 2 2) OK):=One.abH rfl;have B0:Hid (Below _ w (w.alloc (cells #[.string ⟨#[98,97,115,101]⟩,int i64 50,int i64 0,int i64 0,int i64 0,int i64 0,int i64 0,int i64 0,int i64 0,.bool false,.bool true,.string ⟨#[100,105,103,103,101,114]⟩,int i64 10,int i64 0,int i64 0,int i64 0,int i64 2,int i64 0,int i64 0,int i64 20,.bool false,.bool false] 77))):=aA;generalize w.alloc _=w0 at *;obtain⟨zk,hzk⟩:∃z,w.heap.size=z:=⟨_,rfl⟩;have HZK:=aj (hzk);rw[hzk] at KL ⊢;clear hzk;go_wp2_with fail
 refine(parse_any _ w0 (by decide)).mono ?_;rintro e w1 ⟨hs,hb⟩;have hp:Fd.parse (⟨#[46,46,46,46,10,46,46,51,46,10]⟩:ByteArray).data.toList=.inr _:=Uf;rcases hs with⟨i,f,h1,-⟩|⟨st,u1,u2,h1,h2,r1,r2⟩
 ·rw[hp] at h1;cases h1
 rw[hp] at h1;injection h1 with h1
 subst h1;subst h2;have RO:Hid (Ro w1 u1 SG/\Ro w1 u2 SO):=⟨r1,r2⟩;obtain⟨p1,q1,rfl,-⟩:=r1;obtain⟨p2,q2,rfl,-⟩:=r2;have B1:=aj (hb);clear hb hp;have l8:SG.length=8:=rfl;have l8':SO.length=8:=rfl;rw[l8,l8'] at *;clear l8 l8';go_upto_region 3 with fail
 have BA:Hid (Below _ w1 (w1.alloc (cells #[int i64 4,int i64 2,slice p1 8 q1,slice p2 8 q2] 25))):=aA;obtain⟨zf,Zk⟩:∃z,w1.heap.size=z:=⟨_,rfl⟩;have X2:Hid (Bx _ zf 4 2 (slice p1 8 q1) (slice p2 8 q2)):=Bx.mk' _ _ _ _ Zk;have FL:Hid (Fl (w1.alloc (cells #[int i64 4,int i64 2,slice p1 8 q1,slice p2 8 q2] 25)) (.agg #[int i64 4,int i64 2,slice p1 8 q1,slice p2 8 q2]) 4 2 SG SO):=⟨_,_,rfl,RO.1.below BA,RO.2.below BA⟩;have B2:=aG B1 BA;rw[Zk];generalize (w1.alloc _)=w2 at *;clear BA B1 RO Zk;obtain⟨f0,f1,f2,f3⟩:=X2.out;go_wp2_with fail
 refine(new_any _ _ OK 4 2 SG SO 1 0 w2 (KL.out.below B2.out) One.names FL.out).mono ?_;rintro e w3 ⟨u,r,rfl,hr,ho,hb⟩;rw[One.f0] at hr;rw[One.e0] at ho;obtain rfl:=One.ez hr;have B3:=aG B2 hb;have L3:=aj (ho.l);clear hr hb f0 f1 f2 f3 X2 FL B2;obtain⟨y1,y2,y3,y4,y5,rfl,o1,o2,o3,o4,o5⟩:=ho;obtain⟨a1,b1,rfl⟩:=o1.len;obtain⟨a2,b2,rfl⟩:=o2.len;obtain⟨a3,b3,rfl⟩:=o3.len;obtain⟨a4,b4,rfl⟩:=o4.len;obtain⟨a5,b5,rfl⟩:=o5.len;have L3':Hid (Wl w3 (.agg #[int i64 0,int i64 1,int i64 4,int i64 2,slice a1 8 b1,slice a2 8 b2,slice a3 1 b3,slice a4 0 b4,slice a5 0 b5]) One.X0):=L3;clear L3 o1 o2 o3 o4 o5;have g1:One.X0.turn=0/\One.X0.next=1/\One.X0.wide=4/\One.X0.high=2/\One.X0.gs.length=8/\One.X0.os.length=8/\One.X0.gold.length=1/\One.X0.us.length=0/\One.X0.qs.length=0:=⟨rfl,rfl,rfl,rfl,rfl,rfl,rfl,rfl,rfl⟩;obtain⟨g1,g2,g3,g4,g5,g6,g7,g8,g9⟩:=g1;simp only[g1,g2,g3,g4,g5,g6,g7,g8,g9];clear g1 g2 g3 g4 g5 g6 g7 g8 g9;go_upto_region 4 with fail
 have BA:Hid (Below _ w3 (w3.alloc (cells #[int i64 0,int i64 1,int i64 4,int i64 2,slice a1 8 b1,slice a2 8 b2,slice a3 1 b3,slice a4 0 b4,slice a5 0 b5] 29))):=aA;obtain⟨z,hz⟩:∃z,w3.heap.size=z:=⟨_,rfl⟩;have XA0:Hid (Wx _ z (int i64 0) (int i64 1) (int i64 4) (int i64 2) (slice a1 8 b1) (slice a2 8 b2) (slice a3 1 b3) (slice a4 0 b4) (slice a5 0 b5)):=Wx.new _ _ _ _ _ _ _ _ _ hz;have LA0:=aj (L3'.below BA);have BA0:=aG B3 BA;have NZ:Hid (w0.heap.size<=z):=by rw[<-hz];exact B3.size
 rw[hz];generalize w3.alloc _=s0 at *;clear BA L3' B3 hz;have xx:=XA0.cells;go_wp2_with fail
 refine(rZ _ _ OK One.X0 0 0 0 s0 (KL.below BA0) One.names LA0).mono ?_;rintro e v0 ⟨u,r,rfl,hr,ho,hb⟩;rw[One.f1] at hr;rw[One.e1] at ho;obtain rfl:=One.ez hr;have BV:=aG BA0 hb;have XV:=aj (XA0.below hb XA0.lt);have LV:=aj (dJ (ho) (XA0.lt));clear hr hb xx XA0 LA0 BA0;obtain⟨y1,y2,y3,y4,y5,rfl,o1,o2,o3,o4,o5⟩:=ho;obtain⟨c1,d1,rfl⟩:=o1.len;obtain⟨c2,d2,rfl⟩:=o2.len;obtain⟨c3,d3,rfl⟩:=o3.len;obtain⟨c4,d4,rfl⟩:=o4.len;obtain⟨c5,d5,rfl⟩:=o5.len;have LV':Hid (Wo v0 _ (.agg #[int i64 0,int i64 2,int i64 4,int i64 2,slice c1 8 d1,slice c2 8 d2,slice c3 1 d3,slice c4 1 d4,slice c5 0 d5]) One.X1/\z<s0.heap.size):=LV;clear LV o1 o2 o3 o4 o5;have g1:One.X1.turn=0/\One.X1.next=2/\One.X1.wide=4/\One.X1.high=2/\One.X1.gs.length=8/\One.X1.os.length=8/\One.X1.gold.length=1/\One.X1.us.length=1/\One.X1.qs.length=0:=⟨rfl,rfl,rfl,rfl,rfl,rfl,rfl,rfl,rfl⟩;obtain⟨g1,g2,g3,g4,g5,g6,g7,g8,g9⟩:=g1;simp only[g1,g2,g3,g4,g5,g6,g7,g8,g9];clear g1 g2 g3 g4 g5 g6 g7 g8 g9;have xx:=XV.cells;have tt:=XV.cO;have KW:=aj (dG v0 z (int i64 0) (int i64 2) (int i64 4) (int i64 2) (slice c1 8 d1) (slice c2 8 d2) (slice c3 1 d3) (slice c4 1 d4) (slice c5 0 d5));have XA1:=aj (XV.put (int i64 0) (int i64 2) (int i64 4) (int i64 2) (slice c1 8 d1) (slice c2 8 d2) (slice c3 1 d3) (slice c4 1 d4) (slice c5 0 d5));have LA1:=aj ((LV'.1.kp KW LV'.2).l);have BA1:=aj (KW.below BV BV.size NZ);go_upto_region 5 with fail
 clear xx tt XV LV' BV KW;generalize World.setCell _ _ _=s1 at *;have xx:=XA1.cells;go_wp2_with fail
 refine(rZ _ _ OK One.X1 0 1 1 s1 (KL.below BA1) One.names LA1).mono ?_;rintro e v1 ⟨u,r,rfl,hr,ho,hb⟩;rw[One.f2] at hr;rw[One.e2] at ho;obtain rfl:=One.ez hr;have BV:=aG BA1 hb;have XV:=aj (XA1.below hb XA1.lt);have LV:=aj (dJ (ho) (XA1.lt));clear hr hb xx XA1 LA1 BA1;obtain⟨y1,y2,y3,y4,y5,rfl,o1,o2,o3,o4,o5⟩:=ho;obtain⟨m1,n1,rfl⟩:=o1.len;obtain⟨m2,n2,rfl⟩:=o2.len;obtain⟨m3,n3,rfl⟩:=o3.len;obtain⟨m4,n4,rfl⟩:=o4.len;obtain⟨m5,n5,rfl⟩:=o5.len;have LV':Hid (Wo v1 _ (.agg #[int i64 0,int i64 3,int i64 4,int i64 2,slice m1 8 n1,slice m2 8 n2,slice m3 1 n3,slice m4 2 n4,slice m5 0 n5]) OX/\z<s1.heap.size):=LV;clear LV o1 o2 o3 o4 o5;have g1:OX.turn=0/\OX.next=3/\OX.wide=4/\OX.high=2/\OX.gs.length=8/\OX.os.length=8/\OX.gold.length=1/\OX.us.length=2/\OX.qs.length=0:=⟨rfl,rfl,rfl,rfl,rfl,rfl,rfl,rfl,rfl⟩;obtain⟨g1,g2,g3,g4,g5,g6,g7,g8,g9⟩:=g1;simp only[g1,g2,g3,g4,g5,g6,g7,g8,g9];clear g1 g2 g3 g4 g5 g6 g7 g8 g9;have xx:=XV.cells;have tt:=XV.cO;have KW:=aj (dG v1 z (int i64 0) (int i64 3) (int i64 4) (int i64 2) (slice m1 8 n1) (slice m2 8 n2) (slice m3 1 n3) (slice m4 2 n4) (slice m5 0 n5));have XA2:=aj (XV.put (int i64 0) (int i64 3) (int i64 4) (int i64 2) (slice m1 8 n1) (slice m2 8 n2) (slice m3 1 n3) (slice m4 2 n4) (slice m5 0 n5));have LA2:=aj ((LV'.1.kp KW LV'.2).l);have BA2:=aj (KW.below BV BV.size NZ);go_upto_region 6 with fail
 clear xx tt XV LV' BV KW;generalize World.setCell _ _ _=s2 at *;go_upto_region 7 with fail
 have BO:Hid (Below _ s2 (s2.alloc (cells #[int i64 0,int i64 2,int i64 2,int i64 6] 96))):=aA;obtain⟨zo,hzo⟩:∃z,s2.heap.size=z:=⟨_,rfl⟩;have OL:Hid (Bo (s2.alloc (cells #[int i64 0,int i64 2,int i64 2,int i64 6] 96)) (slice (some ⟨zo,0,none⟩) 1 1) [oo]):=by rw[<-hzo];exact One.abI s2
 have X6:=aj (XA2.below BO XA2.lt);have L6:=aj (LA2.below BO);have B6:=aG BA2 BO;rw[hzo];generalize s2.alloc _=w6 at *;clear BO hzo XA2 LA2 BA2;have BL:Hid (Below _ w6 (w6.alloc (cells #[slice (some ⟨zo,0,none⟩) 1 1,slice none 0 0,slice none 0 0] 61))):=aA;have LL:=aj (One.abJ w6 _ OL);have B7:=aG B6 BL;have L7:=aj (L6.below BL);have xx:=X6.cells;go_wp2_with fail
 refine(Uc _ _ _ OK OX _ _ (KL.below B7) One.names L7 LL ((SDH.below B0).below B7)).mono ?_;rintro e w8 ⟨v,r,FF,rfl,hr,hf,hb⟩;obtain⟨rfl,ho⟩:=Ul hf hr;have B8:=aG B7 hb;have G8:=aj (ho.l);clear hr hf hb xx X6 L6 B6 BL LL B7 L7 OL;obtain⟨y1,y2,y3,y4,y5,rfl,o1,o2,o3,o4,o5⟩:=ho;obtain⟨r1,s1,rfl⟩:=o1.len;obtain⟨r2,s2,rfl⟩:=o2.len;obtain⟨r3,s3,rfl⟩:=o3.len;obtain⟨r4,s4,rfl⟩:=o4.len;obtain⟨r5,s5,rfl⟩:=o5.len;obtain⟨ya,yc,ye,-,-,yq⟩:=o3.ro;injection ye with e1 e2 e3
 subst e1 e3;obtain⟨yg,rfl,ylt,yq⟩:=yq (by simp[OW]);have c20:=yq 0 20 rfl;have ey:yg.add 0=yg:=by simp[Addr.add]
 rw[ey] at c20;have YL:=aj (dJ (c20) (ylt));clear o1 o2 o3 o4 o5 yq c20 ylt e2 ey G8;have g1:(OW 3 10 20 (od 1 0 2 6)).turn=3/\(OW 3 10 20 (od 1 0 2 6)).next=3/\(OW 3 10 20 (od 1 0 2 6)).wide=4/\(OW 3 10 20 (od 1 0 2 6)).high=2/\(OW 3 10 20 (od 1 0 2 6)).gs.length=8/\(OW 3 10 20 (od 1 0 2 6)).os.length=8/\(OW 3 10 20 (od 1 0 2 6)).gold.length=1/\(OW 3 10 20 (od 1 0 2 6)).us.length=2/\(OW 3 10 20 (od 1 0 2 6)).qs.length=0:=⟨rfl,rfl,rfl,rfl,rfl,rfl,rfl,rfl,rfl⟩
 obtain⟨g1,g2,g3,g4,g5,g6,g7,g8,g9⟩:=g1;simp only[g1,g2,g3,g4,g5,g6,g7,g8,g9];clear g1 g2 g3 g4 g5 g6 g7 g8 g9;go_upto_region 8 with fail
 have BF:Hid (Below _ w8 (w8.alloc (cells #[int i64 3,int i64 3,int i64 4,int i64 2,slice r1 8 s1,slice r2 8 s2,slice (some yg) 1 s3,slice r4 2 s4,slice r5 0 s5] 29))):=aA;obtain⟨zz,hzz⟩:∃z,w8.heap.size=z:=⟨_,rfl⟩;have XF:Hid (Wx _ zz (int i64 3) (int i64 3) (int i64 4) (int i64 2) (slice r1 8 s1) (slice r2 8 s2) (slice (some yg) 1 s3) (slice r4 2 s4) (slice r5 0 s5)):=Wx.new _ _ _ _ _ _ _ _ _ hzz;have B9:=aG B8 BF;have c20:(w8.alloc (cells #[int i64 3,int i64 3,int i64 4,int i64 2,slice r1 8 s1,slice r2 8 s2,slice (some yg) 1 s3,slice r4 2 s4,slice r5 0 s5] 29)).cell? yg=some (int i64 20):=by rw[BF.out.cell YL.out.2];exact YL.1
 rw[hzz];generalize w8.alloc _=w9 at *;clear BF hzz B8 YL;have xx:=XF.cells;have BZ:=aG B0 B9;have GL:=aj (trivial);go_wp2;go_ret;exact⟨rfl,by first|exact BZ|(rw[<-HZK.out];exact BZ)⟩
end
section
variable {B b base c x z:Nat} {V V' w w':World} {W a n p:Int} {X:WV} {ds xs:List Bool} {ks:List KV} {l:List UInt8} {r:Option Nat} {v:Value} {y:Addr}
theorem dO(h: -100000000<=n/\n<=100000000):Wd.In64 n:=by unfold Wd.In64;omega
theorem lY{b:Int}(h:Wd.off b n=false):b<=n/\n<=1000000:=by
 unfold Wd.off at h;simp at h;omega
theorem bH.wok(h:bH ks X):Wd.VQ X:=by
 obtain⟨Wn,Hn,e1,e2,G⟩:=h.good;have hn:=h.nums;unfold Wd.b_ at hn;simp only[Bool.or_eq_false_iff] at hn;obtain⟨n1,n2,n3,n4⟩:=hn;have t1:=lY n1;have t2:=lY n2;have g4:X.gold.length<=4:=(jY h.nums).2;have w12:=G.w2;have h12:=G.h2;have cell:Wn*Hn<=144:=by
  have:Wn*Hn<=12*12:=o_ w12 h12;omega
 have gl:=G.gl;have ol:=G.ol;have hgs:∀n∈X.gs,Wd.In64 n:=λn hn=>by
  obtain⟨i,hi⟩:=List.mem_iff_getElem?.1 hn;have hil:=(aK.1 hi).1;have:=G.cell i n _ hi (aH (by omega));exact dO (by omega)
 have hos:∀n∈X.os,Wd.In64 n:=λn hn=>by
  obtain⟨i,hi⟩:=List.mem_iff_getElem?.1 hn;have hil:=(aK.1 hi).1;have:=G.cell i _ n (aH (by omega)) hi;exact dO (by omega)
 have hgo:∀n∈X.gold,Wd.In64 n:=λn hn=>by
  rw[bK] at n4;have:=lY (by simpa using n4 n hn:Wd.off 0 n=false);exact dO (by omega)
 have kb:∀k∈ks,k.n0<=1000/\k.n7<=1000:=λk hk=>by
  have h9:=h.kinds;unfold Kd.bg at h9;split at h9
  ·omega
  ·have h2:=jM h9 k.k (jg.2 ⟨k,hk,rfl⟩)
   unfold Kd.eu at h2;split at h2
   ·omega
   ·rename_i h3
    rw[Bool.not_eq_true,bK] at h3;have a1:=h3 k.n0 (by simp[KV.k]);have a2:=h3 k.n7 (by simp[KV.k]);simp only[decide_eq_true_eq] at a1 a2;omega
 have k8:ks.length<=8:=by
  have h9:=h.kinds;unfold Kd.bg at h9;split at h9
  ·omega
  ·rename_i h3
   simp at h3;omega
 have hus:∀u∈X.us,∀n∈Wd.iM u,Wd.In64 n:=λu hu n hn=>by
  obtain⟨i,hi⟩:=List.mem_iff_getElem?.1 hu;obtain⟨k,F⟩:=h.fine hi;have b:=kb k (aT F.kk);have f1:=F.id1;have f2:=F.id2;have f3:=F.p;have f4:=F.k0;have f5:=F.life;have f6:=F.load;have f7:=F.task;have f8:=F.at_;have f9:=F.goal;unfold Wd.iM at hn;simp only[bP,List.not_mem_nil,or_false] at hn;rcases hn with rfl|rfl|rfl|rfl|rfl|rfl|rfl|rfl<;>exact dO (by omega)
 have Ez:∀j∈X.qs,∀n∈Wd.iO j,Wd.In64 n:=λj hj n hn=>by
  have hf:=h.job hj;unfold Wd.aY at hf;split at hf
  ·cases hf
  ·rename_i u hu
   have hm:=List.mem_of_find?_eq_some hu;have hid:u.id=j.unit:=by simpa using List.find?_some hu
   obtain⟨i,hi⟩:=List.mem_iff_getElem?.1 hm;obtain⟨k',F⟩:=h.fine hi;have f1:=F.id1;have f2:=F.id2;have f3:=F.p;split at hf
   ·cases hf
   ·split at hf
    ·cases hf
    ·rename_i hp
     split at hf
     ·cases hf
     ·rename_i hk
      simp only[Bool.or_eq_true,bne_iff_ne,not_or,Decidable.not_not,Bool.not_eq_true] at hp;unfold Wd.has at hk;simp at hk;unfold Wd.iO at hn;simp only[bP,List.not_mem_nil,or_false] at hn;rcases hn with rfl|rfl|rfl|rfl<;>exact dO (by omega)
 refine⟨λn hn=>?_,by omega,by omega,by omega,aJ h.ul (by omega),aJ h.ql (by omega)⟩;have u40:=h.ul;have q12:=h.ql;unfold Wd.nums at hn;simp only[gJ,bP,List.not_mem_nil,or_false,List.mem_flatMap] at hn;rcases hn with(((((rfl|rfl|rfl|rfl)|rfl|hn)|rfl|hn)|rfl|hn)|rfl|⟨u,hu,hn⟩)|rfl|⟨j,hj,hn⟩
 ·exact dO (by omega)
 ·exact dO (by omega)
 ·exact dO (by omega)
 ·exact dO (by omega)
 ·exact dO (by omega)
 ·exact hgs n hn
 ·exact dO (by omega)
 ·exact hos n hn
 ·exact dO (by omega)
 ·exact hgo n hn
 ·exact dO (by omega)
 ·exact hus u hu n hn
 ·exact dO (by omega)
 ·exact Ez j hj n hn
theorem su(h:Wd.VQ X):mJ X:=⟨aJ h.g (by omega),aJ h.o (by omega),aJ h.p (by omega),aJ h.u (by omega),aJ h.q (by omega)⟩
def Sm(n:Int):Prop:= -100000000<=n/\n<=100000000
theorem lD(h: -100000000<=n/\n<=100000000):Sm n:=h
theorem Dx(h:bH ks X):(∀n∈Wd.nums X,Sm n)/\X.gs.length<=144/\X.os.length<=144/\X.gold.length<=4/\X.us.length<=40/\X.qs.length<=12:=by
 obtain⟨Wn,Hn,e1,e2,G⟩:=h.good;have hn:=h.nums;unfold Wd.b_ at hn;simp only[Bool.or_eq_false_iff] at hn;obtain⟨n1,n2,n3,n4⟩:=hn;have t1:=lY n1;have t2:=lY n2;have g4:X.gold.length<=4:=(jY h.nums).2;have w12:=G.w2;have h12:=G.h2;have cell:Wn*Hn<=144:=by
  have:Wn*Hn<=12*12:=o_ w12 h12;omega
 have gl:=G.gl;have ol:=G.ol;have hgs:∀n∈X.gs,Sm n:=λn hn=>by
  obtain⟨i,hi⟩:=List.mem_iff_getElem?.1 hn;have hil:=(aK.1 hi).1;have:=G.cell i n _ hi (aH (by omega));exact lD (by omega)
 have hos:∀n∈X.os,Sm n:=λn hn=>by
  obtain⟨i,hi⟩:=List.mem_iff_getElem?.1 hn;have hil:=(aK.1 hi).1;have:=G.cell i _ n (aH (by omega)) hi;exact lD (by omega)
 have hgo:∀n∈X.gold,Sm n:=λn hn=>by
  rw[bK] at n4;have:=lY (by simpa using n4 n hn:Wd.off 0 n=false);exact lD (by omega)
 have kb:∀k∈ks,k.n0<=1000/\k.n7<=1000:=λk hk=>by
  have h9:=h.kinds;unfold Kd.bg at h9;split at h9
  ·omega
  ·have h2:=jM h9 k.k (jg.2 ⟨k,hk,rfl⟩)
   unfold Kd.eu at h2;split at h2
   ·omega
   ·rename_i h3
    rw[Bool.not_eq_true,bK] at h3;have a1:=h3 k.n0 (by simp[KV.k]);have a2:=h3 k.n7 (by simp[KV.k]);simp only[decide_eq_true_eq] at a1 a2;omega
 have k8:ks.length<=8:=by
  have h9:=h.kinds;unfold Kd.bg at h9;split at h9
  ·omega
  ·rename_i h3
   simp at h3;omega
 have hus:∀u∈X.us,∀n∈Wd.iM u,Sm n:=λu hu n hn=>by
  obtain⟨i,hi⟩:=List.mem_iff_getElem?.1 hu;obtain⟨k,F⟩:=h.fine hi;have b:=kb k (aT F.kk);have f1:=F.id1;have f2:=F.id2;have f3:=F.p;have f4:=F.k0;have f5:=F.life;have f6:=F.load;have f7:=F.task;have f8:=F.at_;have f9:=F.goal;unfold Wd.iM at hn;simp only[bP,List.not_mem_nil,or_false] at hn;rcases hn with rfl|rfl|rfl|rfl|rfl|rfl|rfl|rfl<;>exact lD (by omega)
 have Ez:∀j∈X.qs,∀n∈Wd.iO j,Sm n:=λj hj n hn=>by
  have hf:=h.job hj;unfold Wd.aY at hf;split at hf
  ·cases hf
  ·rename_i u hu
   have hm:=List.mem_of_find?_eq_some hu;have hid:u.id=j.unit:=by simpa using List.find?_some hu
   obtain⟨i,hi⟩:=List.mem_iff_getElem?.1 hm;obtain⟨k',F⟩:=h.fine hi;have f1:=F.id1;have f2:=F.id2;have f3:=F.p;split at hf
   ·cases hf
   ·split at hf
    ·cases hf
    ·rename_i hp
     split at hf
     ·cases hf
     ·rename_i hk
      simp only[Bool.or_eq_true,bne_iff_ne,not_or,Decidable.not_not,Bool.not_eq_true] at hp;unfold Wd.has at hk;simp at hk;unfold Wd.iO at hn;simp only[bP,List.not_mem_nil,or_false] at hn;rcases hn with rfl|rfl|rfl|rfl<;>exact lD (by omega)
 refine⟨λn hn=>?_,by omega,by omega,g4,h.ul,h.ql⟩;have u40:=h.ul;have q12:=h.ql;unfold Wd.nums at hn;simp only[gJ,bP,List.not_mem_nil,or_false,List.mem_flatMap] at hn;rcases hn with(((((rfl|rfl|rfl|rfl)|rfl|hn)|rfl|hn)|rfl|hn)|rfl|⟨u,hu,hn⟩)|rfl|⟨j,hj,hn⟩
 ·exact lD (by omega)
 ·exact lD (by omega)
 ·exact lD (by omega)
 ·exact lD (by omega)
 ·exact lD (by omega)
 ·exact hgs n hn
 ·exact lD (by omega)
 ·exact hos n hn
 ·exact lD (by omega)
 ·exact hgo n hn
 ·exact lD (by omega)
 ·exact hus u hu n hn
 ·exact lD (by omega)
 ·exact Ez j hj n hn
theorem Yn(h:x<268435456):(Wd.vl x).length<=4:=by
 by_cases h1:x<128
 ·rw[Wd.kK h1];simp
 rw[Wd.lN (by omega)];by_cases h2:x/128<128
 ·rw[Wd.kK h2];simp
 rw[Wd.lN (by omega)];by_cases h3:x/128/128<128
 ·rw[Wd.kK h3];simp
 rw[Wd.lN (by omega),Wd.kK (by omega)];simp
theorem Uu(h:Sm n):(Wd.num n).length<=4:=by
 have hz:Wd.zz n<268435456:=by
  unfold Sm at h;unfold Wd.zz;split<;>omega
 unfold Wd.num;exact Yn hz
theorem Ku:∀{xs:List Int},(∀n∈xs,Sm n)->(Wd.wr xs).length<=4*xs.length
 |[],_=>by simp[Wd.wr]
 |x::xs,h=>by
  have h1:=Uu (h x (by simp));have h2:=Ku (xs:=xs) (λn hn=>h n (by simp[hn]));unfold Wd.wr at *;rw[List.flatMap_cons,aC,dI];omega
theorem Oo(us:List aI):(us.flatMap Wd.iM).length=8*us.length:=by
 induction us with
 |nil=>rfl
 |cons u us ih=>rw[List.flatMap_cons,aC,ih,dI];simp[Wd.iM];omega
theorem Oq(qs:List bM):(qs.flatMap Wd.iO).length=4*qs.length:=by
 induction qs with
 |nil=>rfl
 |cons u us ih=>rw[List.flatMap_cons,aC,ih,dI];simp[Wd.iO];omega
theorem Yo(h:bH ks X):(Wd.enc X).length<=6000:=by
 obtain⟨h0,h1,h2,h3,h4,h5⟩:=Dx h;have h6:=Ku h0;have h7:(Wd.nums X).length=4+(1+X.gs.length)+(1+X.os.length)+(1+X.gold.length)+(1+8*X.us.length)+(1+4*X.qs.length):=by
  unfold Wd.nums;simp only[aC,dI,aS,Oo,Oq];omega
 unfold Wd.enc;omega
open Go.RowKit
def By(w:World)(v:Value)(l:List UInt8):Prop:=∃(a:Option Addr) (c:Nat),v=slice a l.length c/\l.length<=c/\c<=maxLen/\(l≠[]->∃x,a=some x/\x.block<w.heap.size/\∀(i:Nat) d,l[i]? =some d->w.cell? (x.add i)=some (.int .u8 (d.toNat:Int)))
theorem By.below(h:By w v l)(hb:Below w.heap.size w w'):By w' v l:=by
 obtain⟨a,c,h1,h2,h3,h4⟩:=h;refine⟨a,c,h1,h2,h3,λhn=>?_⟩;obtain⟨x,e,hx,hk⟩:=h4 hn;refine⟨x,e,fE hx hb.size,λi d hi=>?_⟩;rw[hb.cell (p:=x.add i) (by rw[add_block];exact hx)];exact hk i d hi
theorem Uw(n:Int)(w:World)(h:Wd.In64 n):Calls prog 99 #[int i64 n] w λe w'=>e=.returned (.int .u64 (Wd.zz n:Nat))/\w'=w:=by
 unfold Wd.In64 at h;by_cases h0:n<0
 ·obtain⟨m,hm⟩:∃m:Nat,n= -((m:Int)+1):=⟨(-(n+1)).toNat,by omega⟩
  subst hm;have E:Hid (Wd.zz (-((m:Int)+1))=m*2+1):=by unfold Hid Wd.zz;rw[if_pos h0];omega
  have e1: -((m:Int)+1)+1= -(m:Int):=by omega
  have e2: - -(m:Int)=m:=by omega
  have w1:IntKind.i64.wrap (-(m:Int))= -(m:Int):=by rw[IntKind.wrap_i64];omega
  have w2:IntKind.i64.wrap (m:Int)=(m:Int):=by rw[IntKind.wrap_i64];omega
  have hm:(m:Int)<9223372036854775808:=by omega
  clear h;go_enter func99,ntmps99;go_wp2;go_ret;refine⟨?_,rfl⟩;rw[E.out];show Ending.returned (.int .u64 _)=_
  congr 2
  try simp only[w2]
  omega
 ·obtain⟨m,rfl⟩:∃m:Nat,n=m:=⟨n.toNat,by omega⟩
  have E:Hid (Wd.zz (m:Int)=m*2):=by unfold Hid Wd.zz;rw[if_neg h0];omega
  have hm:(m:Int)<9223372036854775808:=by omega
  clear h;go_enter func99,ntmps99;go_wp2;go_ret;refine⟨?_,rfl⟩;rw[E.out];show Ending.returned (.int .u64 _)=_
  congr 2
  try simp only[w2]
  omega
def byteCells(l:List UInt8):List Value:=l.map λb=>.int .u8 (b.toNat:Nat)
theorem Ot:(prog.info? 5).map (λi=>(i.zero,i.size,i.bytes))=some (some (.int .u8 0),1,1):=by kernel_rfl
def Ob(w:World)(base:Nat)(v:Value)(l:List UInt8):Prop:=w.ownsRow base 5 1 v l.length (byteCells l)
theorem Ob.nil(w:World)(base:Nat):Ob w base (slice none 0 0) []:=World.ownsRow_nil _ _ _ _
theorem Ob.alloc(h:Ob w base v l)(o:Obj):Ob (w.alloc o) base v l:=World.ownsRow.alloc h o
theorem Ob.drew(h:Ob w base v l):Ob w.drew base v l:=h
theorem Ob.block(h:Ob w base v l):∀k,v.ownBlock=some k->base<=k/\k<w.heap.size:=World.ownsRow.lt h
theorem byteCells_snoc(l:List UInt8)(b:UInt8):byteCells (l++[b])=byteCells l++[.int .u8 (b.toNat:Nat)]:=by simp[byteCells]
theorem Ob.len(h:Ob w base v l):∃a c,v=slice a l.length c:=by
 rcases h.2 with⟨hv,h0⟩|⟨g,cap,cur,hv,_⟩
 ·exact⟨none,0,by rw[hv,h0]⟩
 ·exact⟨_,_,hv⟩
theorem Ob.text(h:Ob w base v l)(hl:0<l.length):
  ∃g cap,v=slice (some ⟨g,0,none⟩) l.length cap/\∀j (hj:j<l.length),w.cell? ((⟨g,0,none⟩:Addr).add j)=some (.int .u8 (l[j].toNat:Int)):=by
 obtain⟨g,cap,hv,-,-⟩:=World.ownsRow.form h hl;refine⟨g,cap,hv,λj hj=>?_⟩;subst hv;rw[Addr.add_lit,aO,World.ownsRow.cellAt h j (by omega)];simp[byteCells,aH hj]
theorem wu{ops:Array Oper}{rest:List Oper}{o:Oper}{a:Act}{Q:Exit->Act->World->Prop}(w:World)(hgd:o.guard=none)(s x:Operand)
  (ho:o.op=.call {callee:=.builtin .append,args:= #[s,x],argTypes:= #[56,56]}) (base:Nat) (v:Value) (l:List UInt8) (hs:a.eval s=v) (hown:Ob w base v l)
  (ad:Addr) (b:UInt8) (hx:a.eval x=slice (some ad) 1 1) (hd:w.cell? ad=some (.int .u8 (b.toNat:Nat))) (hl:l.length<=2000000000) (hbase:base<=w.heap.size)
  (h:∀g cap w',Ob w' base (slice (some ⟨g,0,none⟩) (l.length+1) cap) (l++[b])->w.grownBy w' v.ownBlock->g<w'.heap.size->wpList prog ops Q rest (a.put o.dst (slice (some ⟨g,0,none⟩) (l.length+1) cap)) w'):
  wpList prog ops Q (o::rest) a w:=by
 obtain⟨i0,hi,hz0,hz1,hz2⟩:=info_parts Ot;refine wpList_append_lies w hgd s x 56 ho base 5 i0 (.int .u8 0) 1 1 underlying56 hi hz0 hz1 hz2 rfl (by decide) v l.length _ hs hown ad 1 1 [.int .u8 (b.toNat:Nat)] hx rfl ?_ ?_ (by decide) (by unfold maxLen;omega) (by omega) hbase _ rfl ?_
 ·intro j u hj
  match j,hj with
  |0,hj=>simp at hj;subst hj;exact hd
 ·intro u hu
  simp at hu;subst hu;rfl
 ·intro g cap w' h1 h2 h3 h4
  refine h g cap w' ?_ h2 h4;unfold Ob;rw[aC,byteCells_snoc];exact h1
theorem Ux(h:x<18446744073709551616):(Wd.vl x).length<=10:=by
 have h1:=Wd.PI x x 0 0 [] aN (by omega) (by simpa using h) (.inl rfl);have h2:=(Wd.Ar _ 0 0 _ _ (by omega) (by decide) h1).2.2.1;omega
theorem Yp(h:Wd.In64 n):(Wd.num n).length<=10:=Ux (Wd.PG h)
theorem Uy:∀{xs:List Int},(∀n∈xs,Wd.In64 n)->(Wd.wr xs).length<=10*xs.length
 |[],_=>by simp[Wd.wr]
 |x::xs,h=>by
  have h1:=Yp (h x (by simp));have h2:=Uy (xs:=xs) (λn hn=>h n (by simp[hn]));have:Wd.wr (x::xs)=Wd.num x++Wd.wr xs:=by simp[Wd.wr]
  rw[this,aC,dI];omega
theorem Yq{xs:List Int}{k:Nat}(h:xs[k]? =some n):Wd.wr (xs.take (k+1))=Wd.wr (xs.take k)++Wd.num n:=by
 obtain⟨hi,e⟩:=aK.1 h;rw[dM hi,Wd.iZ,e,Wd.tZ]
theorem write_any(v:Value)(xs:List Int)(w:World)(h:Ro w v xs)(hi:∀n∈xs,Wd.In64 n)(hl:xs.length<=100000000):
  Calls prog 55 #[v] w λe w'=>∃u,e=.returned u/\Ob w' w.heap.size u (Wd.wr xs)/\Below w.heap.size w w':=by
 have R:Hid (Ro w v xs):=h;have HI:Hid (∀n∈xs,Wd.In64 n):=hi;obtain⟨ad,cap,rfl,h1,h2,h3⟩:=h;clear h3 hi;go_enter func55,ntmps55;go_wp2;go_loopw [3,9] (λbv iv W=>∃(k:Nat),iv=int i64 (k:Nat)/\k<=xs.length/\Ob W w.heap.size bv (Wd.wr (xs.take k))/\Below w.heap.size w W) (λ_ iv _=>xs.length-(intOf iv).toNat)
 case atStart=>exact⟨0,rfl,aZ _,Ob.nil _ _,dU _ _⟩
 case round=>
  obtain⟨k,rfl,hk,ho,hb⟩:=hrel;have O:Hid (Ob wr w.heap.size u3 (Wd.wr (xs.take k))):=ho;have B:Hid (Below w.heap.size w wr):=hb;clear ho hb;by_cases he:k=xs.length
  ·subst he
   go_wp2;go_ret;exact⟨_,rfl,by have:=O.out;rwa[rG] at this,B⟩
  ·have hlt:k<xs.length:=by omega
   have hli:(k:Int)<(xs.length:Int):=by omega
   obtain⟨n,hn⟩:∃n,xs[k]? =some n:=⟨_,aH hlt⟩;have HN:Hid (xs[k]? =some n):=hn;have IN:Hid (Wd.In64 n):=HI n (aT hn);obtain⟨ad',cap',e,-,-,hc⟩:=R.below B;injection e with e1 e2 e3
   subst e1 e3;obtain⟨y,rfl,hy,hcell⟩:=hc (by intro e;subst e;simp at hlt);have c1:wr.cell? (y.add k)=some (int i64 n):=hcell k n hn;clear hc hcell hy hn;go_wp2_with fail
   refine(Uw n _ IN).mono ?_;rintro e w1 ⟨rfl,rfl⟩;have PL:Hid ((Wd.wr (xs.take k)).length<=1000000000):=by
    unfold Hid;have:=Uy (xs:=xs.take k) (λn hn=>HI n (List.mem_of_mem_take hn));rw[dP] at this;omega
   obtain⟨P,hP⟩:∃P,Wd.wr (xs.take k)=P:=⟨_,rfl⟩;have HP:Hid (Wd.wr (xs.take (k+1))=P++Wd.num n):=by unfold Hid;rw[Yq HN.out,hP]
   rw[hP] at O PL;obtain⟨x,hx⟩:∃x,Wd.zz n=x:=⟨_,rfl⟩;have HX:Hid (Wd.num n=Wd.vl x/\x<18446744073709551616):=⟨by unfold Wd.num;rw[hx],by rw[<-hx];exact Wd.PG IN⟩;rw[hx];clear hx hP c1;go_wp2;go_loopw [3,6] (λbv xv W=>∃(y:Nat) (D:List UInt8),xv=.int .u64 (y:Nat)/\y<18446744073709551616/\D++Wd.vl y=Wd.vl x/\Ob W w.heap.size bv (P++D)/\Below w.heap.size w W) (λ_ xv _=>(intOf xv).toNat)
   case atStart=>exact⟨x,[],rfl,HX.2,rfl,by rw[iK];exact O,B⟩
   case round=>
    obtain⟨y,D,rfl,hy,hv,ho,hb⟩:=hrel;have O2:Hid (Ob wr w.heap.size u3 (P++D)):=ho;have B2:Hid (Below w.heap.size w wr):=hb;have HV:Hid (D++Wd.vl y=Wd.vl x):=hv;have DL:Hid ((P++D).length<=1000000010):=by
     unfold Hid;have h1:=Ux HX.2;have h2:=congrArg List.length hv;have h3:=PL.out;rw[aC] at h2 ⊢;omega
    clear ho hb hv;obtain⟨L,hL⟩:∃L,P++D=L:=⟨_,rfl⟩;have HL:Hid (P++D=L):=hL;rw[hL] at O2 DL;clear hL;by_cases h128:128<=y
    ·obtain⟨m,hm⟩:∃m,y%128=m:=⟨_,rfl⟩
     obtain⟨d,hd⟩:∃d,y/128=d:=⟨_,rfl⟩;have hmi:(y:Int)%128=m:=by omega
     have hdi:(y:Int)/128=d:=by omega
     have m1:m<128:=by omega
     have hgi:(128:Int)<=(y:Int):=by omega
     obtain⟨c,hc⟩:∃c,UInt8.ofNat (m+128)=c:=⟨_,rfl⟩;have em:c.toNat=m+128:=by rw[<-hc,UInt8.toNat_ofNat'];omega
     have HE:Hid (Wd.vl y=c::Wd.vl d):=by unfold Hid;rw[Wd.lN h128,hm,hd,hc]
     have hdl:Hid (d<y):=aj (by omega);clear hm hd h128 hc;go_wp2_with (at_builtin;refine wu _ rfl _ _ rfl w.heap.size _ L rfl (O2.alloc _) ⟨wr.heap.size,0,none⟩ c rfl (by rw[em];simp) (by have:=DL.out;omega) (by have:=B2.size;simp;omega) ?_);intro g cap2 w5 o5 g5 l5;have O5:Hid (Ob w5 w.heap.size (slice (some ⟨g,0,none⟩) (L.length+1) cap2) (P++(D++[c]))):=by unfold Hid;rw[<-bT,HL.out];exact o5
     have B5:Hid (Below w.heap.size w w5):=(B2.alloc B2.size _).grown g5 (by have:=B2.size;simp;omega) (λb hb=>(O2.block b hb).1);clear o5 g5 l5;go_wp2;go_roundw
     case rel=>
      refine⟨d,D++[c],rfl,by have:=hdl.out;omega,?_,O5,B5⟩;rw[bT,<-HV.out,HE.out];rfl
     case measure=>have:=hdl.out;simp[intOf];omega
    ·have hgi:¬(128:Int)<=(y:Int):=by omega
     obtain⟨c,hc⟩:∃c,UInt8.ofNat y=c:=⟨_,rfl⟩;have em:c.toNat=y:=by rw[<-hc,UInt8.toNat_ofNat'];omega
     have wy:IntKind.u8.wrap (y:Int)=(y:Int):=by rw[IntKind.wrap_u8];omega
     have HE:Hid (D++[c]=Wd.num n):=by unfold Hid;rw[HX.out.1,<-HV.out,Wd.kK (by omega),hc]
     clear h128 hc;go_wp2_with (at_builtin;refine wu _ rfl _ _ rfl w.heap.size _ L rfl (O2.alloc _) ⟨wr.heap.size,0,none⟩ c rfl (by rw[em];simp) (by have:=DL.out;omega) (by have:=B2.size;simp;omega) ?_);intro g cap2 w5 o5 g5 l5;have O5:Hid (Ob w5 w.heap.size (slice (some ⟨g,0,none⟩) (L.length+1) cap2) (Wd.wr (xs.take (k+1)))):=by unfold Hid;rw[HP.out,<-HE.out,<-bT,HL.out];exact o5
     have B5:Hid (Below w.heap.size w w5):=(B2.alloc B2.size _).grown g5 (by have:=B2.size;simp;omega) (λb hb=>(O2.block b hb).1);clear o5 g5 l5;go_wp2;go_roundw
     case rel=>exact⟨k+1,rfl,by omega,O5,B5⟩
     case measure=>simp[intOf];omega
theorem yF(n f t k:Int)(b:Nat)(w:World)(n1:0<n)(n2:n<=11)(f1:0<=f)(f2:f<=11)(t1:0<=t)(t2:t<=11)(k1:0<=k)(k2:k<=n)(hb:w.cell? ⟨b,0,none⟩=some (int i64 n)):
  Calls prog 254 #[int i64 f,int i64 t,int i64 k,.pointer (some ⟨b,0,none⟩)] w λe w'=>e=.returned (int i64 (Fd.along n f t k))/\w'=w:=by
 have b1:0<=2*f*n:=Int.mul_nonneg (by omega) (by omega);have b2:2*f*n<=22*11:=Int.mul_le_mul (by omega) n2 (by omega) (by omega);have b3:0<=2*f*n+2*k*(t-f)+n:=by
  rw[Fd.oH];have h1:0<=f*(n-k):=Int.mul_nonneg f1 (by omega);have h2:=Int.mul_nonneg t1 k1;omega
 have b4:2*f*n+2*k*(t-f)+n<=1000:=by
  rw[Fd.oH];have h1:f*(n-k)<=11*11:=Int.mul_le_mul f2 (by omega) (by omega) (by omega);have h2:t*k<=11*11:=Int.mul_le_mul t2 (by omega) (by omega) (by omega);omega
 go_enter func254,ntmps254;go_wp2;go_ret;exact⟨rfl,rfl⟩
theorem acG(a b c d n:Int)(h:n=max (max a b) (max c d))(w:World):(Builtin.max_ #[3,3,3,3] 3 #[int i64 a,int i64 b,int i64 c,int i64 d]).run prog w=.ok (int i64 n) w:=by
 simp[Builtin.max_,Builtin.max2]
 congr 1
 omega
theorem Uz(W H a b:Nat)(w:World)(h1:0<W)(h2:W<=12)(h3:H<=12)(ha:a<W*H)(hb:b<W*H):
  Calls prog 228 #[int i64 (W:Nat),int i64 (a:Nat),int i64 (b:Nat)] w λe w'=>∃v,e=.returned v/\Ow w' w.heap.size v (Fd.line W a b)/\Below w.heap.size w w':=by
 have hm:W*H<=144:=o_ h2 h3;have hs:=Fd.WE h1 h2 h3 ha hb;have a1:=Nat.div_lt_of_lt_mul ha;have a2:=Nat.div_lt_of_lt_mul hb;have a3:=Nat.mod_lt a h1;have a4:=Nat.mod_lt b h1;have hn:Hid (max _ _=Fd.span W a b):=rfl;have HL:Hid (Fd.line W a b=if Fd.span W a b=0 then[(a:Int)] else(List.range _).map λk:Nat=>Fd.along _ _ _ k*W+Fd.along _ _ _ k):=rfl;obtain⟨c,hc⟩:∃c,a%W=c:=⟨_,rfl⟩;obtain⟨r,hr⟩:∃r,a/W=r:=⟨_,rfl⟩;obtain⟨d,hd⟩:∃c,b%W=c:=⟨_,rfl⟩;obtain⟨s,hs'⟩:∃r,b/W=r:=⟨_,rfl⟩;rw[hc,hr,hd,hs'] at hn HL;rw[hr] at a1;rw[hs'] at a2;rw[hc] at a3;rw[hd] at a4;generalize Fd.span W a b=n at *;have hmax:=acG ((c:Int)-d) (d-c) (r-s) (s-r) n (by have:=hn.out;omega);have Pa:=aj (dJ (hc) (hr));have Pb:=aj (dJ (hd) (hs'));have A1:a<=144:=by omega
 have B1:b<=144:=by omega
 have c1:c<=11:=by omega
 have d1:d<=11:=by omega
 have r1:r<=11:=by omega
 have s1:s<=11:=by omega
 have N1:=aj (hn.symm);clear hc hr hd hs' hn ha hb a1 a2 a3 a4;go_enter func228,ntmps228;go_wp2_with fail
 refine(kL W a c r _ h1 h2 A1 Pa.1 Pa.2).mono ?_;rintro e w1 ⟨rfl,q1,hq1⟩;have B1':Hid (Below w.heap.size w w1):=by rw[hq1];exact _root_.Go.below_drewN aB _
 clear hq1;go_wp2_with fail
 refine(kL W b d s _ h1 h2 B1 Pb.1 Pb.2).mono ?_;rintro e w2 ⟨rfl,q2,hq2⟩;have B2:Hid (Below w.heap.size w w2):=by rw[hq2];exact _root_.Go.below_drewN B1' _
 clear hq2 B1' Pa Pb;by_cases h0:n=0
 ·subst h0
  go_wp2;go_ret;refine⟨_,rfl,?_,?_⟩
  ·have e:=HL.out
   simp only[if_true] at e;rw[e];have hz:=B2.size;exact Ow.one _ (by simp;omega) (by simp)
  ·have hz:=B2.size
   exact(B2.alloc hz _).alloc (by simp;omega) _
 ·have n0:0<n:=by omega
  have HL':Hid (Fd.line W a b=(List.range (n+1)).map λk:Nat=>Fd.along n r s k*W+Fd.along n c d k):=by
   have:=HL.out;rw[if_neg h0] at this;exact this
  clear HL;have hb0:((n:Int)==0)=false:=by rw[beq_eq_false_iff_ne];omega
  go_wp2_with fail
  clear hmax h0 hb0;have Z2:=aj (B2.size);have B3:Hid (Below _ w (w2.alloc (cells #[Value.int IntKind.i64 n] 3))):=B2.alloc B2.size _;have c3:Hid ((w2.alloc (cells #[Value.int IntKind.i64 n] 3)).cell? ⟨w2.heap.size,0,none⟩=some (int i64 n)):=by unfold Hid;simp
  have z3:Hid ((w2.alloc (cells #[Value.int IntKind.i64 n] 3)).heap.size=w2.heap.size+1):=by unfold Hid;simp
  generalize w2.alloc _=w3 at *;go_loopw [13,47] (λv i W'=>∃k:Nat,k<=n+1/\i=int i64 (k:Nat)/\Ow W' (w2.heap.size+1) v ((List.range k).map λk:Nat=>Fd.along n r s k*W+Fd.along n c d k)/\W'.cell? ⟨w2.heap.size,0,none⟩=some (int i64 n)/\Below w.heap.size w W'/\w2.heap.size+1<=W'.heap.size) (λ_ i _=>n+1-(intOf i).toNat)
  case atStart=>exact⟨0,aZ _,rfl,Ow.nil _ _,c3,B3,by rw[z3.out];exact aU _⟩
  case round=>
   obtain⟨k,hk,rfl,ho,hc,hbl,hz⟩:=hrel;clear B3 c3 z3;have O:=aj (ho);have B:=aj (hbl);have Z:=aj (hz);have C:=aj (hc);clear ho hbl hz hc;by_cases h0:k=n+1
   ·subst h0
    have e1:¬((n:Int)+1<n+1):=by omega
    go_wp2;go_ret;exact⟨_,rfl,by rw[HL'.out];exact O.mono (by have:=Z2.out;omega),B⟩
   ·have hkn:k<=n:=by omega
    have p1:=Fd.qF 0 n r s k (by omega) (by omega) (by omega) (by omega) (by omega);have p2:=Fd.qG 11 n r s k (by omega) (by omega) (by omega) (by omega) (by omega);have q1:=Fd.qF 0 n c d k (by omega) (by omega) (by omega) (by omega) (by omega);have q2:=Fd.qG 11 n c d k (by omega) (by omega) (by omega) (by omega) (by omega);have K1:=yF n r s k w2.heap.size wr (by omega) (by omega) (by omega) (by omega) (by omega) (by omega) (by omega) (by omega) C;have K2:=yF n c d k w2.heap.size wr (by omega) (by omega) (by omega) (by omega) (by omega) (by omega) (by omega) (by omega) C;have S:Hid (((List.range (k+1)).map λk:Nat=>Fd.along n r s k*W+Fd.along n c d k)=((List.range k).map λk:Nat=>Fd.along n r s k*W+Fd.along n c d k)++[Fd.along n r s k*W+Fd.along n c d k]):=by
     unfold Hid;rw[List.range_succ,kH];rfl
    generalize Fd.along n r s k=p at *;generalize Fd.along n c d k=q at *;have L:Hid (((List.range k).map λk:Nat=>Fd.along n r s k*W+Fd.along n c d k).length=k):=by unfold Hid;simp
    generalize ((List.range k).map _)=xs at *;have K1':=aj (K1);have K2':=aj (K2);clear K1 K2;have m1:0<=p*(W:Int):=Int.mul_nonneg p1 (by omega);have m2:p*(W:Int)<=11*12:=Int.mul_le_mul p2 (by omega) (by omega) (by omega);go_wp2_with fail
    refine Calls.mono K1' ?_;rintro e w4 ⟨rfl,rfl⟩;go_wp2_with fail
    refine Calls.mono K2' ?_;rintro e w4 ⟨rfl,rfl⟩;clear K1' K2';go_wp2_with (at_builtin;refine gG _ rfl _ _ rfl _ _ xs rfl (O.alloc _) _ (p*W+q) rfl (by simp) (by rw[L.out];omega) (by have:=Z.out;simp;omega) ?_);intro g cap w5 o5 g5 a5 l5;have O5:=aj (o5);have hob:∀k,u13.ownBlock=some k->w2.heap.size+1<=k:=λk hk=>(O.block k hk).1
    have hne:some w2.heap.size≠u13.ownBlock:=λe=>by have:=hob _ e.symm;omega
    have C5:Hid (w5.cell? ⟨w2.heap.size,0,none⟩=some (int i64 n)):=by
     unfold Hid;have z:=Z.out;rw[g5.cell_far ⟨w2.heap.size,0,none⟩ (by simp;omega) hne,World.cell?_alloc_past _ _ _ (by show w2.heap.size<w4.heap.size;omega)];exact C
    have B5:=aj ((B.alloc B.size _).grown g5 (by have:=B.size;simp;omega) (λk hk=>by have:=hob k hk;have:=Z2.out;omega));have Z5:Hid (w2.heap.size+1<=w5.heap.size):=by have:=Z.out;have:=g5.size;simp at this;unfold Hid;omega
    clear o5 g5 a5 l5 hob hne;go_wp2;go_round
    case rel=>exact⟨k+1,by omega,by go_num,by rw[S.out];exact O5,C5,B5,Z5⟩
    case measure=>simp[intOf];omega
theorem UD(u q q2 q3:Value)(xs:List Int)(p:Int->Bool)(w:World)(hu:Ro w u xs)
  (hp:∀x∈xs,Calls prog 227 #[int i64 x,q,q2,q3] w λe w'=>e=.returned (.bool (p x))/\w'=w):
  Calls prog 165 #[u,.func (Fn.func 227) #[] #[q,q2,q3]] w λe w'=>∃r:Int,e=.returned (int i64 r)/\decide (0<=r)=xs.any p/\w'=w:=by
 obtain⟨a,c,rfl,c1,c2,ca⟩:=hu;have Ca:=aj (ca);have Hp:=aj (hp);clear ca hp;go_enter func165,ntmps165;go_wp2;go_loop [8] (λi=>∃k:Nat,k<=xs.length/\i=int i64 (k:Nat)/\(xs.take k).any p=false) (λi=>xs.length-(intOf i).toNat)
 case atStart=>exact⟨0,aZ _,rfl,by simp⟩
 case round=>
  obtain⟨k,hk,rfl,ht⟩:=hrel;have Ht:=aj (ht);clear ht;by_cases h0:k=xs.length
  ·subst h0
   go_wp2;go_ret;refine⟨_,rfl,?_,rfl⟩;have:=Ht.out;rw[List.take_of_length_le aN] at this;rw[this];decide
  ·have hkx:k<xs.length:=by omega
   obtain⟨x,rfl,-,hx⟩:=Ca (by intro h;rw[h] at hkx;simp at hkx);have cx:=hx k xs[k] (aH hkx);have hc:=Hp xs[k] (kG hkx);have Hs:Hid _:=AY (p:=p) hkx;have Hm:Hid (p xs[k]=true->xs.any p=true):=λh=>gK.2 ⟨_,kG hkx,h⟩
   generalize xs[k]=y at *;clear hx;cases hy:p y with
   |true=>
    rw[hy] at hc;have Hc:=aj (hc);have Hy:=aj (hy);clear hc hy;go_wp2_with fail
    refine Calls.mono Hc ?_;rintro e w1 ⟨rfl,rfl⟩;go_wp2;go_ret;exact⟨_,rfl,by rw[Hm.out Hy.out,decide_eq_true (by omega)],rfl⟩
   |false=>
    rw[hy] at hc;have Hc:=aj (hc);have Hy:=aj (hy);clear hc hy;go_wp2_with fail
    refine Calls.mono Hc ?_;rintro e w1 ⟨rfl,rfl⟩;go_wp2;go_round
    case rel=>exact⟨k+1,by omega,by go_num,by have:=Hs.out;rw[Ht.out,Hy.out] at this;exact this⟩
    case measure=>simp[intOf];omega
theorem UJ(u q q2 q3:Value)(xs:List Int)(p:Int->Bool)(w:World)(hu:Ro w u xs)
  (hp:∀x∈xs,Calls prog 227 #[int i64 x,q,q2,q3] w λe w'=>e=.returned (.bool (p x))/\w'=w):
  Calls prog 123 #[u,.func (Fn.func 227) #[] #[q,q2,q3]] w λe w'=>e=.returned (.bool (xs.any p))/\w'=w:=by
 have H:=UD u q q2 q3 xs p w hu hp;have H':=aj (H);clear H hp;go_enter func123,ntmps123;go_wp2_with fail
 refine Calls.mono H' ?_;rintro e w1 ⟨r,rfl,hr,rfl⟩;have Hr:=aj (hr);clear hr;go_wp2;go_ret;exact⟨by show Ending.returned (.bool (decide (0<=r)))=_;rw[Hr.out],rfl⟩
namespace Fd
def hide(gs:List Int)(a b x:Int):Bool:=decide (x≠a)&&(decide (x≠b)&&(decide (gs.getD x.toNat 0=1)||decide (gs.getD x.toNat 0=3)))
end Fd
theorem Ou(x a b:Int)(ba bb bf:Nat)(y:Addr)(n c:Nat)(gs:List Int)(w:World)(x0:0<=x)(x1:x<n)(hn:gs.length=n)(n2:n<=144)
  (ha:w.cell? ⟨ba,0,none⟩=some (int i64 a)) (hb:w.cell? ⟨bb,0,none⟩=some (int i64 b)) (hf:w.cell? ⟨bf,2,none⟩=some (slice (some y) n c))
  (hg:∀i d,gs[i]? =some d->w.cell? (y.add i)=some (int i64 d)):
  Calls prog 227 #[int i64 x,.pointer (some ⟨ba,0,none⟩),.pointer (some ⟨bb,0,none⟩),.pointer (some ⟨bf,0,none⟩)] w λe w'=>e=.returned (.bool (Fd.hide gs a b x))/\w'=w:=by
 obtain⟨k,rfl⟩:∃k:Nat,x=k:=⟨x.toNat,by omega⟩;have hk:k<gs.length:=by omega
 have hc:=hg k gs[k] (aH hk);have He:Hid (Fd.hide gs a b k=(decide ((k:Int)≠a)&&(decide ((k:Int)≠b)&&(decide (gs[k]=1)||decide (gs[k]=3))))):=by
  unfold Hid Fd.hide;rw[bF,dD,aH hk];rfl
 generalize gs[k]=g at *;clear hg;by_cases h1:(k:Int)=a
 ·go_enter func227,ntmps227
  go_wp2;go_ret;exact⟨by rw[He.out];simp[h1],rfl⟩
 ·by_cases h2:(k:Int)=b
  ·go_enter func227,ntmps227
   go_wp2;go_ret;exact⟨by rw[He.out];simp[h2],rfl⟩
  ·by_cases h3:g=1
   ·subst h3
    go_enter func227,ntmps227;go_wp2;go_ret;exact⟨by rw[He.out];simp[h1,h2],rfl⟩
   ·by_cases h4:g=3
    ·subst h4
     go_enter func227,ntmps227;go_wp2;go_ret;exact⟨by rw[He.out];simp[h1,h2],rfl⟩
    ·go_enter func227,ntmps227
     go_wp2;go_ret;exact⟨by rw[He.out];simp[h1,h2,h3,h4],rfl⟩
def Ac(W:Nat)(gs:List Int)(k:KV)(a b:Nat):Bool:=decide (pY W a b<=k.n3)&&(k.f|| !(Fd.line W a b).any (Fd.hide gs a b))
def IK(ks:List KV)(W:Nat)(gs:List Int)(p:Int)(c:Nat)(u:aI):Bool:=(u.ay==p)&&(match ks[u.kind.toNat]? with
 |some k=>Ac W gs k u.at_.toNat c
 |none=>false)
def jW(ks:List KV)(W:Nat)(gs:List Int)(us:List aI)(p:Int)(c:Nat):Bool:=us.any (IK ks W gs p c)
def yG(ks:List KV)(W:Nat)(X:WV)(p:Int):List Bool:=(List.range X.gs.length).map (jW ks W X.gs X.us p)
def iD(q:Nat->Bool)(n:Nat)(l:List Int):List Int:=l.mapIdx (λi x=>if decide (i<n)&&q i then 0 else x)
def Aq(q:Nat->Bool)(l:List Int):List Int:=l.mapIdx (λi x=>if q i then 0 else x)
theorem oM(q:Nat->Bool)(n:Nat)(l:List Int):(iD q n l).length=l.length:=by unfold iD;simp
theorem kD(q:Nat->Bool)(l:List Int):(Aq q l).length=l.length:=by unfold Aq;simp
theorem wB(q:Nat->Bool)(l:List Int):iD q 0 l=l:=by
 unfold iD;apply List.ext_getElem?;intro i;simp
theorem yH(q:Nat->Bool)(l:List Int):iD q l.length l=Aq q l:=by
 unfold iD Aq;apply List.ext_getElem
 ·simp
 ·intro i h1 h2
  have:i<l.length:=by simpa using h1
  simp[this]
theorem yI{q:Nat->Bool}{n:Nat}(l:List Int)(h:q n=true):iD q (n+1) l=(iD q n l).set n 0:=by
 unfold iD;apply List.ext_getElem
 ·simp
 ·intro i h1 h2
  rw[List.getElem_set];simp only[List.getElem_mapIdx];by_cases e:n=i
  ·subst e;simp[h]
  ·rw[if_neg e]
   have:decide (i<n+1)=decide (i<n):=decide_eq_decide.2 (by omega);rw[this]
theorem Dy{q:Nat->Bool}{n:Nat}(l:List Int)(h:q n=false):iD q (n+1) l=iD q n l:=by
 unfold iD;apply List.ext_getElem
 ·simp
 ·intro i h1 h2
  simp only[List.getElem_mapIdx];by_cases e:n=i
  ·subst e;simp[h]
  ·have:decide (i<n+1)=decide (i<n):=decide_eq_decide.2 (by omega)
   rw[this]
def hidU(ks:List KV)(W:Nat)(X:WV)(p:Int)(u:aI):Bool:= !(u.ay==p)&& !jW ks W X.gs X.us p u.at_.toNat
def wY(p:Int)(j:bM):Bool:= !(j.ay==p)
def dS(ks:List KV)(W:Nat)(X:WV)(p:Int):WV:={X with us:=X.us.filter (λu=> !hidU ks W X p u),qs:=X.qs.filter (λj=> !wY p j),gold:=Aq (λi=> !decide ((i:Int)=p)) X.gold,os:=Aq (λi=> !jW ks W X.gs X.us p i) X.os}
theorem Kv(ks:List KV)(W:Nat)(X:WV)(p:Int)(h:c<X.gs.length):(yG ks W X p)[c]? =some (jW ks W X.gs X.us p c):=by
 unfold yG;simp[h]
theorem dW{o:Obj}{p:Addr}(h:p.block<w.heap.size):(w.alloc o).cell? p=w.cell? p:=((dU w.heap.size w).alloc aN o).cell h
structure Bsx(w:World)(z:Nat)(W:Int)(v:Value)(a b:Int):Prop where
 wide:w.cell? ⟨z,0,none⟩=some (int i64 W)
 ground:w.cell? ⟨z,2,none⟩=some v
 ca:w.cell? ⟨z+1,0,none⟩=some (int i64 a)
 cb:w.cell? ⟨z+1+1,0,none⟩=some (int i64 b)
theorem Bsx.lt{b:Int}(h:Bsx w z W v a b):z+2<w.heap.size:=cell_lt h.cb
theorem Bsx.below{n:Nat}{b:Int}(h:Bsx w z W v a b)(hb:Below n w w')(hn:z+2<n):Bsx w' z W v a b:=
 ⟨by rw[hb.cell (p:=⟨z,0,none⟩) (by show z<n;omega)];exact h.wide,by rw[hb.cell (p:=⟨z,2,none⟩) (by show z<n;omega)];exact h.ground,
  by rw[hb.cell (p:=⟨z+1,0,none⟩) (by show z+1<n;omega)];exact h.ca,by rw[hb.cell (p:=⟨z+1+1,0,none⟩) (by show z+1+1<n;omega)];exact h.cb⟩
theorem Ov{W H:Nat}{gs os:List Int}{a:Nat}(G:Fd.Good W H gs os)(ha:a<W*H)(hb:b<W*H):Fd.fU (Fd.fault W H gs os) gs.length [(a:Int),(b:Int)]=0:=by
 unfold Fd.fU;rw[Fd.eU G,if_neg (by decide),if_pos];rw[G.gl];simp;omega
theorem Yr(v:Value)(W H:Nat)(gs os:List Int)(a b:Nat)(s:Int)(w:World)(h:Fl w v W H gs os)(G:Fd.Good W H gs os)(ha:a<W*H)(hb:b<W*H)(s0:0<=s)(s1:s<=1000000):
  Calls prog 185 #[v,int i64 (a:Nat),int i64 (b:Nat),int i64 s] w λe w'=>∃r,Ma.Sq r ((((a%W:Nat):Int)-(b%W:Nat))*(((a%W:Nat):Int)-(b%W:Nat))+(((a/W:Nat):Int)-(b/W:Nat))*(((a/W:Nat):Int)-(b/W:Nat)))/\
   e=.returned (.tuple #[.bool (decide (r<=s)&& !(Fd.line W a b).any (Fd.hide gs a b)),.nilIface])/\Below w.heap.size w w':=by
 have F0:=aj (h);have HG:=aj (G);have HA:=aj (ha);have HB:=aj (hb);have HF:=aj (Ov G ha hb);have hm:=G.pos.2;have A1:a<=144:=by omega
 have B1':b<=144:=by omega
 have W1:0<W:=G.w1;have W2:=G.w2;have a1':=Nat.div_lt_of_lt_mul ha;have a2':=Nat.div_lt_of_lt_mul hb;have a3':=Nat.mod_lt a W1;have a4':=Nat.mod_lt b W1;have h2':=G.h2;obtain⟨u1,u2,rfl,⟨a1,c,rfl,c1,c2,ca⟩,⟨b1,d,rfl,d1,d2,cb⟩⟩:=h;obtain⟨y,rfl,-,hg⟩:=ca (by intro e;have h3:=G.gl;have h4:=G.pos;rw[e] at h3;simp only[aS] at h3;omega);have Cg:=aj (hg);have yl:Hid (y.block<w.heap.size):=by
  have hn:0<gs.length:=by have:=G.gl;have:=G.pos;omega
  have:=cell_lt (hg 0 gs[0] (aH hn));rwa[add_block] at this
 have GL:=aj (G.gl);clear cb hg G ha hb;obtain⟨p,hp⟩:∃c,a%W=c:=⟨_,rfl⟩;obtain⟨q,hq⟩:∃c,b%W=c:=⟨_,rfl⟩;obtain⟨m,hm'⟩:∃c,a/W=c:=⟨_,rfl⟩;obtain⟨n,hn⟩:∃c,b/W=c:=⟨_,rfl⟩;rw[hp,hq,hm',hn];rw[hm'] at a1';rw[hn] at a2';rw[hp] at a3';rw[hq] at a4';have Pa:=aj (dJ (hp) (hm'));have Pb:=aj (dJ (hq) (hn));clear hp hq hm' hn;go_enter func185,ntmps185;go_wp2_with fail
 refine(tJ _ _ W H gs os _ _ (F0.below (((aA.alloc (by simp) _).alloc (by simp;omega) _).alloc (by simp;omega) _)) (Ro.aaX (w:=((w.alloc _).alloc _).alloc _) a b (by simp))).mono ?_;rintro e w1 ⟨v1,rfl,hv,hb⟩;have B1:=aj ((((aA.alloc (by simp) _).alloc (by simp;omega) _).alloc (by simp;omega) _).trans (hb.mono (by simp;omega)));have X1:Hid (Bsx w1 w.heap.size W (slice (some y) gs.length c) a b):=by
  refine⟨?_,?_,?_,?_⟩
  ·rw[hb.cell (p:=⟨w.heap.size,0,none⟩) (by simp;omega),dW (by simp;omega),dW (by simp;omega),dW (by simp),World.cell?_alloc_new]
   rfl
  ·rw[hb.cell (p:=⟨w.heap.size,2,none⟩) (by simp;omega),dW (by simp;omega),dW (by simp;omega),dW (by simp),World.cell?_alloc_new]
   rfl
  ·rw[hb.cell (p:=⟨w.heap.size+1,0,none⟩) (by simp;try omega),dW (by simp;try omega),dW (by simp),World.cell?_alloc_at _ _ _ _ (by simp)]
   rfl
  ·rw[hb.cell (p:=⟨w.heap.size+1+1,0,none⟩) (by simp;try omega),dW (by simp),World.cell?_alloc_at _ _ _ _ (by simp)]
   rfl
 rw[HF.out] at hv;clear hb;rcases hv with⟨hz,rfl⟩|⟨hz,rfl⟩
 ·clear hz
  have f1:=X1.wide;have f2:=X1.ca;have f3:=X1.cb;go_wp2_with fail
  refine(iQ _ _ _ _ s0 s1).mono ?_;rintro e w2 ⟨rfl,rfl⟩;go_wp2_with fail
  refine(kL W a p m _ W1 W2 A1 Pa.1 Pa.2).mono ?_;rintro e w3 ⟨rfl,q3,hq3⟩;have b3:Below w2.heap.size w2 w3:=by rw[hq3];exact _root_.Go.below_drewN aB _
  have B3:=aG B1 b3;have X3:=aj (X1.below b3 X1.lt);clear hq3 b3 B1 X1 f1 f2 f3;have f1:=X3.wide;have f2:=X3.ca;have f3:=X3.cb;go_wp2_with fail
  refine(kL W b q n _ W1 W2 B1' Pb.1 Pb.2).mono ?_;rintro e w4 ⟨rfl,q4,hq4⟩;have b4:Below w3.heap.size w3 w4:=by rw[hq4];exact _root_.Go.below_drewN aB _
  have B4:=aG B3 b4;have X4:=aj (X3.below b4 X3.lt);clear hq4 b4 B3 X3 f1 f2 f3;go_wp2_with fail
  refine(GK p m q n _ ⟨by omega,by omega⟩ ⟨by omega,by omega⟩ ⟨by omega,by omega⟩ ⟨by omega,by omega⟩).mono ?_;rintro e w5 ⟨r,hr,rfl,rfl⟩;have R:=aj (hr);clear hr;by_cases hrs:r<=s
  ·have f1:=X4.wide
   have f2:=X4.ca;have f3:=X4.cb;go_wp2_with fail
   refine(Uz W H a b _ W1 W2 h2' HA HB).mono ?_;rintro e w6 ⟨u,rfl,ho,b6⟩;have B6:=aG B4 b6;have X6:=X4.below b6 X4.lt;have hh:=UJ u (.pointer (some ⟨w.heap.size+1,0,none⟩)) (.pointer (some ⟨w.heap.size+1+1,0,none⟩)) (.pointer (some ⟨w.heap.size,0,none⟩)) (Fd.line W a b) (Fd.hide gs a b) w6 ho.ro
    (λx hx=>by
     obtain⟨k,hk,e⟩:=List.mem_iff_getElem.1 hx;rw[Fd.BM] at hk;have e2:=Fd.QC (W:=W) (a:=a) (b:=b) (k:=k) (by omega);rw[aH (by rw[Fd.BM];omega),e] at e2;have e3:∃t:Nat,x=t/\t<W*H:=by
      injection e2 with e2
      by_cases h0:Fd.span W a b=0
      ·rw[if_pos h0] at e2
       exact⟨a,e2,HA⟩
      ·rw[if_neg h0] at e2
       obtain⟨r',c',-,-,-,-,e4,e5,-⟩:=Fd.WJ W1 HA HB (show 0<Fd.span W a b by omega) (show k<=Fd.span W a b by omega);exact⟨_,e2.trans e4,e5⟩
     obtain⟨t,rfl,ht⟩:=e3;exact Ou t a b _ _ _ y gs.length c gs w6 (by omega) (by have:=GL.out;omega) rfl (by have:=GL.out;omega) X6.ca X6.cb X6.ground
      (λi d hd=>by rw[B6.out.cell (p:=y.add i) (by rw[add_block];exact yl.out)];exact Cg i d hd))
   generalize hbl:(Fd.line W a b).any (Fd.hide gs a b)=bl at *;have Hbl:=aj (hbl);have Hh:=aj (hh);clear hh hbl ho b6 X6 X4 f1 f2 f3;go_wp2_with fail
   refine Calls.mono Hh ?_;rintro e w7 ⟨rfl,rfl⟩;have Hrs:=aj (hrs);clear hrs;go_wp2;go_ret2;exact⟨r,R,by show Ending.returned (.tuple #[.bool (!bl),.nilIface])=_;rw[decide_eq_true Hrs.out,Bool.true_and,Hbl.out],B6⟩
  ·have acT:s<r:=by omega
   go_wp2;go_ret2;exact⟨r,R,by show Ending.returned (.tuple #[.bool false,.nilIface])=_;rw[decide_eq_false (by omega),Bool.false_and],B4⟩
 ·exact absurd rfl hz
theorem cell_new1(v:Value)(T:TypeId)(hz:w.heap.size=z):(w.alloc (.cells #[v] T)).cell? ⟨z,0,none⟩=some v:=by
 subst hz;simp
theorem Dz(v:Value)(W H:Nat)(gs os:List Int)(k:KV)(a b:Nat)(w:World)(h:Fl w v W H gs os)(G:Fd.Good W H gs os)(ha:a<W*H)(hb:b<W*H)(s0:0<=k.n3)(s1:k.n3<=12):
  Calls prog 147 #[v,k.val,int i64 (a:Nat),int i64 (b:Nat)] w λe w'=>e=.returned (.bool (Ac W gs k a b))/\Below w.heap.size w w':=by
 have F0:=aj (h);have HG:=aj (iJ G ha hb s0 s1);have hm:=G.pos.2;have FE:Hid (∀r,Ma.Sq r _->pY W a b=r):=λr hr=>JY G.w2 (by omega) (by omega) G.w1 hr
 obtain⟨ca,hca⟩:∃n,a%W=n:=⟨_,rfl⟩;obtain⟨ra,hra⟩:∃n,a/W=n:=⟨_,rfl⟩;obtain⟨cb,hcb⟩:∃n,b%W=n:=⟨_,rfl⟩;obtain⟨rb,hrb⟩:∃n,b/W=n:=⟨_,rfl⟩;have hw:¬(W:Int)=0:=by have:=G.w1;omega
 have e1:(a:Int)%(W:Int)=(ca:Nat):=by rw[<-hca];rfl
 have e2:(a:Int)/(W:Int)=(ra:Nat):=by rw[<-hra];rfl
 have e3:(b:Int)%(W:Int)=(cb:Nat):=by rw[<-hcb];rfl
 have e4:(b:Int)/(W:Int)=(rb:Nat):=by rw[<-hrb];rfl
 have l1:ra<=144:=by rw[<-hra];exact aJ (Nat.div_le_self _ _) (by omega)
 have l2:rb<=144:=by rw[<-hrb];exact aJ (Nat.div_le_self _ _) (by omega)
 have l3:ca<=144:=by rw[<-hca];exact aJ (Nat.mod_le _ _) (by omega)
 have l4:cb<=144:=by rw[<-hcb];exact aJ (Nat.mod_le _ _) (by omega)
 have FO:Hid (∀V,Calls _ 184 _ V λe w'=>e=.returned (.tuple #[int i64 (pY W a b),.nilIface])/\w'=V):=λV=>by
  refine(GK _ _ _ _ V (je l3) (je l1) (je l4) (je l2)).mono ?_;rintro e w' ⟨r,hr,rfl,rfl⟩;rw[<-hca,<-hra,<-hcb,<-hrb] at hr;rw[FE.out r hr];exact⟨rfl,rfl⟩
 clear hca hra hcb hrb;obtain⟨u1,u2,rfl,⟨a1,c,rfl,c1,c2,ca'⟩,⟨b1,d,rfl,d1,d2,cb'⟩⟩:=h;clear ca' cb' G ha hb s0 s1 hm;have B0:Hid (Below _ w ((w.alloc (cells #[int i64 (W:Nat),int i64 (H:Nat),slice a1 gs.length c,slice b1 os.length d] 25)).alloc (cells #[.string k.b,int i64 k.n0,int i64 k.n1,int i64 k.n2,int i64 k.n3,int i64 k.n4,int i64 k.n5,int i64 k.n6,int i64 k.n7,.bool k.f,.bool k.t] 77))):=aA.alloc (by simp) _;have F1:Hid (Bf ((w.alloc _).alloc (cells #[.string k.b,int i64 k.n0,int i64 k.n1,int i64 k.n2,int i64 k.n3,int i64 k.n4,int i64 k.n5,int i64 k.n6,int i64 k.n7,.bool k.f,.bool k.t] 77)) _ W H (slice a1 gs.length c) (slice b1 os.length d)):=(Bf.mk' _ _ _ _ rfl).below aA (by simp);have K1:Hid (Kc ((w.alloc (cells #[int i64 (W:Nat),int i64 (H:Nat),slice a1 gs.length c,slice b1 os.length d] 25)).alloc _) ⟨w.heap.size+1,0,none⟩ k):=Kc.mk' k (by simp);unfold KV.val;go_enter func147,ntmps147;go_upto_region 1 with fail
 generalize ((w.alloc _).alloc _)=w0 at *;obtain⟨f0,f1,f2,f3⟩:=F1;obtain⟨y0,y1,y2,y3,y4,y5,y6,y7,y8,y9,y10⟩:=K1;obtain⟨f,hf⟩:∃f,pY W a b=f:=⟨_,rfl⟩;have HF:=aj (hf);rw[hf] at FO;clear hf;cases hk:k.f with
 |true=>
  have SE:Hid (Ac W gs k a b=decide (f<=k.n3)):=by unfold Hid Ac;rw[hk,HF.out];simp
  rw[hk] at y9;go_upto_region 2 with fail
  go_quiet ((go_at_call 184;exact Calls.quiet_of_same (FO _)));go_wp2;go_ret;exact⟨by rw[SE.out];rfl,⟨B0.os,B0.tape,B0.output,B0.size,B0.block⟩⟩
 |false=>
  obtain⟨z,hz⟩:∃z,(decide (f<=k.n3)&& !(Fd.line W a b).any (Fd.hide gs a b))=z:=⟨_,rfl⟩;have SE:Hid (Ac W gs k a b=z):=by unfold Hid Ac;rw[hk,HF.out,<-hz];simp
  rw[hk] at y9;go_upto_region 4 with fail
  go_wp2_with fail
  refine(Yr _ W H gs os a b k.n3 w0 (F0.below B0) HG.1 HG.2.1 HG.2.2.1 HG.2.2.2.1 (by have:=HG.out.2.2.2.2;omega)).mono ?_;rintro e w1 ⟨r,hr,rfl,hb⟩;have er:=HF.symm.trans (FE r hr);rw[<-er,hz];have B1:=aG B0 hb;clear hb hr er hz f0 f1 f2 f3 y0 y1 y2 y3 y4 y5 y6 y7 y8 y9 y10;cases z<;>
  ·go_wp2
   go_ret;exact⟨by rw[SE.out];rfl,B1⟩
theorem UM(K:Nat)(eK:∀args w,(callFunc K args).run prog w=.ok (.enter K args) w)(u:Value)(cs:Array Value)(ks:List aI)(p:aI->Bool)(w:World)(hu:oP w u ks)
  (hp:∀W,Below w.heap.size w W->∀k∈ks,Calls prog K (#[k.val]++cs) W λe w'=>e=.returned (.bool (p k))/\Below W.heap.size W w'):
  Calls prog 129 #[u,.func (Fn.func K) #[] cs] w λe w'=>e=.returned (.bool (ks.any p))/\Below w.heap.size w w':=by
 have H':=aj (qJ K eK u cs ks p w hu hp);clear hp;go_enter func129,ntmps129;go_wp2_with fail
 refine Calls.mono H' ?_;rintro e w1 ⟨r,rfl,hr,q⟩;have Hr:=aj (hr.has);have Q:=aj (q);clear hr q;go_wp2;go_ret;exact⟨by show Ending.returned (.bool (decide (0<=r)))=_;rw[Hr.out],Q⟩
theorem aaK(ks:List KV)(X:WV)(u:aI)(p:Int)(Wn c bp bw bk ba:Nat)(vk u1 u2 u3 u4 u5:Value)(w:World)(WR:bH ks X)(hw:X.wide=(Wn:Nat))(hc:c<X.gs.length)(hu:u∈X.us)
  (hk:Kl w vk ks) (hx:Wl w (.agg #[int i64 X.turn,int i64 X.next,int i64 X.wide,int i64 X.high,u1,u2,u3,u4,u5]) X) (hb:Bw w bw X u1 u2 u3 u4 u5)
  (c1:w.cell? ⟨bp,0,none⟩=some (int i64 p)) (c2:w.cell? ⟨bk,0,none⟩=some vk) (c3:w.cell? ⟨ba,0,none⟩=some (int i64 (c:Nat))):
  Calls prog 146 (#[u.val]++ #[.pointer (some ⟨bp,0,none⟩),.pointer (some ⟨bw,0,none⟩),.pointer (some ⟨bk,0,none⟩),.pointer (some ⟨ba,0,none⟩)]) w λe w'=>e=.returned (.bool (IK ks Wn X.gs p c u))/\Below w.heap.size w w':=by
 obtain⟨i,hi⟩:=List.mem_iff_getElem?.1 hu;obtain⟨k,fu⟩:=WR.fine hi;obtain⟨Wm,Hn,e1,e2,G⟩:=WR.good;have ew:Wm=Wn:=by omega
 subst ew;obtain⟨kn,hkn⟩:∃n:Nat,u.kind=n:=⟨u.kind.toNat,by have:=fu.k0.1;omega⟩;obtain⟨an,han⟩:∃n:Nat,u.at_=n:=⟨u.at_.toNat,by have:=fu.at_.1;omega⟩;have hkk:ks[kn]? =some k:=by have:=fu.kk;rw[hkn] at this;exact this
 have hkl:=(aK.1 hkk).1;have hN:=lT WR.kinds (aT hkk);have HE:=aj (lM hkn han e1 e2);have LL:Hid (Fd.Good Wm Hn X.gs X.os/\an<Wm*Hn/\c<Wm*Hn/\0<=k.n3/\k.n3<=12):=⟨G,by have:=fu.at_.2;have:=G.gl;omega,by have:=G.gl;omega,hN.2.2.2.2.2.2.2.2.1,hN.2.2.2.2.2.2.2.2.2.1⟩;have SE:Hid (IK ks Wm X.gs p c u=((u.ay==p)&&Ac Wm X.gs k an c)):=by
  unfold Hid IK;rw[hkn,han,bF,bF,hkk]
 have XL:=aj (hx);obtain⟨pk,qk,rfl,ck1,ck2,kc⟩:=hk;obtain⟨xk,rfl,hxk,hkc⟩:=kc (by intro h;rw[h] at hkl;simp at hkl);have KC:Hid (Kc w (xk.add (kn*11)) k/\(xk.add (kn*11)).block<w.heap.size):=⟨hkc kn k hkk,by rw[add_block];exact hxk⟩;have CF:=aj (w_ c1 c2 c3 (cell_lt c1) (cell_lt c2) (cell_lt c3));have BX:=aj (hb);have B0:Hid (Below _ w (w.alloc (cells #[int i64 u.id,int i64 u.ay,int i64 u.kind,int i64 u.at_,int i64 u.life,int i64 u.load,int i64 u.task,int i64 u.goal] 74))):=aA;have O0:Hid (fA _ ⟨w.heap.size,0,none⟩ u):=fA.mk' u rfl;clear kc hkc hxk hx hb c1 c2 c3 hkk fu hi e1 e2 G hN hkn han hc hu WR;unfold aI.val;go_enter func146,ntmps146;go_upto_region 1 with fail
 generalize (w.alloc _)=w0 at *;by_cases hp:u.ay=p
 case neg=>
  have hp':(u.ay==p)=false:=by rw[beq_eq_false_iff_ne];exact hp
  have hp2:=decide_eq_false hp;have S1:Hid (IK ks Wm X.gs p c u=false):=by unfold Hid;rw[SE.out,hp'];rfl
  have d1:w0.cell? ⟨w.heap.size,1,none⟩=some (int i64 u.ay):=by have:=O0.c1;rw[aO] at this;exact this
  have d2:w0.cell? ⟨bp,0,none⟩=some (int i64 p):=by rw[B0.out.cell (p:=⟨bp,0,none⟩) CF.out.2.2.2.1];exact CF.1
  obtain⟨q0,q1,q2,q3,q4,q5,q6,q7⟩:=O0;clear hp;go_quiet (fail);go_wp2;go_ret;exact⟨by rw[S1.out];rfl,⟨B0.os,B0.tape,B0.output,B0.size,B0.block⟩⟩
 ·have S1:Hid (IK ks Wm X.gs p c u=Ac Wm X.gs k an c):=by unfold Hid;rw[SE.out,hp];simp
  have C1:Hid (w.cell? ⟨bp,0,none⟩=some (int i64 u.ay)):=by unfold Hid;rw[hp];exact CF.1
  clear hp;have CB:Hid (∀V,Below _ w V->fA V ⟨w.heap.size,0,none⟩ u->(V.cell? ⟨w.heap.size,1,none⟩=some _/\V.cell? ⟨w.heap.size,2,none⟩=some _/\V.cell? ⟨w.heap.size,3,none⟩=some _/\V.cell? _=some _/\V.cell? _=some _/\V.cell? _=some _/\Bw V bw X u1 u2 u3 u4 u5/\Kc V _ k)):=λV hb h0=>
   ⟨by have:=h0.c1;rw[aO] at this;exact this,by have:=h0.c2;rw[aO,HE.out.1] at this;exact this,by have:=h0.c3;rw[aO,HE.out.2.1] at this;exact this,
    by rw[hb.cell (p:=⟨bp,0,none⟩) CF.out.2.2.2.1];exact C1,by rw[hb.cell (p:=⟨bk,0,none⟩) CF.out.2.2.2.2.1];exact CF.2.1,by rw[hb.cell (p:=⟨ba,0,none⟩) CF.out.2.2.2.2.2];exact CF.2.2.1,
    BX.below hb BX.lt,KC.1.below hb KC.2⟩
  refine aV [(true,0),(true,1),(true,2),(true,3),(true,4),(true,5),(true,6),(true,7),(true,8),(true,9),(true,10),(true,11),(true,12),(true,13),(true,14),(false,15)] [(true,16),(false,17)] (λV=>(V.cell? _=some _/\V.cell? ⟨w.heap.size,2,none⟩=some (int i64 (kn:Nat))/\V.cell? ⟨w.heap.size,3,none⟩=some (int i64 (an:Nat))/\V.cell? ⟨bp,0,none⟩=some (int i64 u.ay)/\V.cell? ⟨bk,0,none⟩=some (slice (some xk) ks.length qk)/\V.cell? ⟨ba,0,none⟩=some (int i64 (c:Nat))/\Bw V bw X u1 u2 u3 u4 u5/\Kc V (xk.add (kn*11)) k)) (by kernel_rfl) (by kernel_rfl) (by kernel_rfl) (by decide+kernel) (by decide+kernel) (CB _ B0.drew (O0.below (aB.drew) O0.lt)) ?_;have B1:Hid (Below _ w {w0 with drawn:=w0.drawn+1}):=B0.drew;have O1:Hid (fA {w0 with drawn:=w0.drawn+1} _ u):=O0.below (aB.drew) O0.lt;generalize ({w0 with drawn:=w0.drawn+1}:World)=w1 at *;clear B0 O0;refine au rfl (.pointer (some ⟨w.heap.size,1,none⟩)) (by go_simp) (λV hV=>by go_simp) ?_;go_simp;refine au rfl (int i64 u.ay) (by go_simp) (λV hV=>by obtain⟨d1,d2,d3,d4,d5,d6,⟨x0,x1,x2,x3,x4,x5,x6,x7,x8⟩,⟨y0,y1,y2,y3,y4,y5,y6,y7,y8,y9,y10⟩⟩:=hV;go_simp) ?_;go_simp;refine au rfl (int i64 u.ay) (by go_simp) (λV hV=>by obtain⟨d1,d2,d3,d4,d5,d6,⟨x0,x1,x2,x3,x4,x5,x6,x7,x8⟩,⟨y0,y1,y2,y3,y4,y5,y6,y7,y8,y9,y10⟩⟩:=hV;go_simp) ?_;go_simp;refine au rfl (.bool true) (by go_simp) (λV hV=>by go_simp) ?_;go_simp;refine au rfl (.bool true) (by go_simp) (λV hV=>by go_simp) ?_;go_simp;refine au rfl (.pointer (some ⟨bw,2,none⟩)) (by go_simp) (λV hV=>by go_simp) ?_;go_simp;refine au rfl (.agg #[int i64 X.wide,int i64 X.high,u1,u2]) (by go_simp) (λV hV=>by obtain⟨d1,d2,d3,d4,d5,d6,⟨x0,x1,x2,x3,x4,x5,x6,x7,x8⟩,⟨y0,y1,y2,y3,y4,y5,y6,y7,y8,y9,y10⟩⟩:=hV;go_simp) ?_;go_simp;refine au rfl (slice (some xk) ks.length qk) (by go_simp) (λV hV=>by obtain⟨d1,d2,d3,d4,d5,d6,⟨x0,x1,x2,x3,x4,x5,x6,x7,x8⟩,⟨y0,y1,y2,y3,y4,y5,y6,y7,y8,y9,y10⟩⟩:=hV;go_simp) ?_;go_simp;refine au rfl (.pointer (some ⟨w.heap.size,2,none⟩)) (by go_simp) (λV hV=>by go_simp) ?_;go_simp;refine au rfl (int i64 (kn:Nat)) (by go_simp) (λV hV=>by obtain⟨d1,d2,d3,d4,d5,d6,⟨x0,x1,x2,x3,x4,x5,x6,x7,x8⟩,⟨y0,y1,y2,y3,y4,y5,y6,y7,y8,y9,y10⟩⟩:=hV;go_simp) ?_;go_simp;refine au rfl (.pointer (some (xk.add (kn*11)))) (by go_simp) (λV hV=>by go_simp) ?_;go_simp;refine au rfl (.agg #[.string k.b,int i64 k.n0,int i64 k.n1,int i64 k.n2,int i64 k.n3,int i64 k.n4,int i64 k.n5,int i64 k.n6,int i64 k.n7,.bool k.f,.bool k.t]) (by go_simp) (λV hV=>by obtain⟨d1,d2,d3,d4,d5,d6,⟨x0,x1,x2,x3,x4,x5,x6,x7,x8⟩,⟨y0,y1,y2,y3,y4,y5,y6,y7,y8,y9,y10⟩⟩:=hV;go_simp) ?_;go_simp;refine au rfl (.pointer (some ⟨w.heap.size,3,none⟩)) (by go_simp) (λV hV=>by go_simp) ?_;go_simp;refine au rfl (int i64 (an:Nat)) (by go_simp) (λV hV=>by obtain⟨d1,d2,d3,d4,d5,d6,⟨x0,x1,x2,x3,x4,x5,x6,x7,x8⟩,⟨y0,y1,y2,y3,y4,y5,y6,y7,y8,y9,y10⟩⟩:=hV;go_simp) ?_;go_simp;refine au rfl (int i64 (c:Nat)) (by go_simp) (λV hV=>by obtain⟨d1,d2,d3,d4,d5,d6,⟨x0,x1,x2,x3,x4,x5,x6,x7,x8⟩,⟨y0,y1,y2,y3,y4,y5,y6,y7,y8,y9,y10⟩⟩:=hV;go_simp) ?_;go_simp;refine dH rfl 147 #[.agg #[int i64 X.wide,int i64 X.high,u1,u2],.agg #[.string k.b,int i64 k.n0,int i64 k.n1,int i64 k.n2,int i64 k.n3,int i64 k.n4,int i64 k.n5,int i64 k.n6,int i64 k.n7,.bool k.f,.bool k.t],int i64 (an:Nat),int i64 (c:Nat)] (by go_simp) (by go_simp) ?_;have FLD:=sN (XL.below B1);rw[HE.out.2.2.1,HE.out.2.2.2] at FLD ⊢;refine(Dz _ Wm Hn X.gs X.os k an c w1 FLD LL.1 LL.2.1 LL.2.2.1 LL.2.2.2.1 LL.2.2.2.2).mono ?_;rintro e w2 ⟨rfl,hb⟩;have B2:=aG B1 hb;refine⟨_,rfl,CB _ B2 (O1.below hb O1.lt),?_⟩;clear hb B1 O1 FLD;go_simp;obtain⟨t,ht⟩:∃t,Ac Wm X.gs k an c=t:=⟨_,rfl⟩;rw[ht] at S1 ⊢;clear ht;refine aQ rfl (.bool t) (by go_simp) (λV hV=>by go_simp) ?_;go_simp;refine aW rfl (.bool t) w2 (by go_simp) (by go_simp) trivial ?_;go_simp;unfold bC;go_wp2;go_ret;exact⟨by rw[S1.out];rfl,B2⟩
theorem DC(vk vw:Value)(ks:List KV)(X:WV)(p:Int)(Wn c:Nat)(w:World)(WR:bH ks X)(hw:X.wide=(Wn:Nat))(hc:c<X.gs.length)(hk:Kl w vk ks)(hx:Wl w vw X):
  Calls prog 96 #[vk,vw,int i64 p,int i64 (c:Nat)] w λe w'=>e=.returned (.bool (jW ks Wn X.gs X.us p c))/\Below w.heap.size w w':=by
 have HR:=aj (fQ (WR) (hw) (hc));have K:=aj (hk);have XL:=aj (hx);obtain⟨p1,q1,p2,q2,p3,q3,p4,q4,p5,q5,rfl⟩:=aX hx;obtain⟨pk,qk,rfl,-⟩:=hk;clear hx hw hc WR;have B0:Hid (Below _ w ((((w.alloc (cells #[slice pk ks.length qk] 22)).alloc (cells #[int i64 X.turn,int i64 X.next,int i64 X.wide,int i64 X.high,slice p1 X.gs.length q1,slice p2 X.os.length q2,slice p3 X.gold.length q3,slice p4 X.us.length q4,slice p5 X.qs.length q5] 29)).alloc (cells #[int i64 p] 3)).alloc (cells #[int i64 (c:Nat)] 3))):=((aA.alloc (by simp) _).alloc (by simp;omega) _).alloc (by simp;omega) _;have K0:Hid (((((w.alloc (cells #[slice pk ks.length qk] 22)).alloc (cells #[int i64 X.turn,int i64 X.next,int i64 X.wide,int i64 X.high,slice p1 X.gs.length q1,slice p2 X.os.length q2,slice p3 X.gold.length q3,slice p4 X.us.length q4,slice p5 X.qs.length q5] 29)).alloc (cells #[int i64 p] 3)).alloc (cells #[int i64 (c:Nat)] 3)).cell? ⟨w.heap.size,0,none⟩=some (slice pk ks.length qk)/\((((w.alloc (cells #[slice pk ks.length qk] 22)).alloc (cells #[int i64 X.turn,int i64 X.next,int i64 X.wide,int i64 X.high,slice p1 X.gs.length q1,slice p2 X.os.length q2,slice p3 X.gold.length q3,slice p4 X.us.length q4,slice p5 X.qs.length q5] 29)).alloc (cells #[int i64 p] 3)).alloc (cells #[int i64 (c:Nat)] 3)).cell? ⟨w.heap.size+1+1,0,none⟩=some (int i64 p)/\((((w.alloc (cells #[slice pk ks.length qk] 22)).alloc (cells #[int i64 X.turn,int i64 X.next,int i64 X.wide,int i64 X.high,slice p1 X.gs.length q1,slice p2 X.os.length q2,slice p3 X.gold.length q3,slice p4 X.us.length q4,slice p5 X.qs.length q5] 29)).alloc (cells #[int i64 p] 3)).alloc (cells #[int i64 (c:Nat)] 3)).cell? ⟨w.heap.size+1+1+1,0,none⟩=some (int i64 (c:Nat))):=by
  refine⟨?_,?_,?_⟩
  ·rw[dW (p:=⟨w.heap.size,0,none⟩) (by simp;omega),dW (p:=⟨w.heap.size,0,none⟩) (by simp;omega),dW (p:=⟨w.heap.size,0,none⟩) (by simp)]
   simp
  ·rw[dW (p:=⟨w.heap.size+1+1,0,none⟩) (by simp)]
   exact cell_new1 _ _ (by simp)
  ·exact cell_new1 _ _ (by simp)
 have X0:Hid (Bw ((((w.alloc (cells #[slice pk ks.length qk] 22)).alloc _).alloc (cells #[int i64 p] 3)).alloc (cells #[int i64 (c:Nat)] 3)) (w.heap.size+1) X (slice p1 X.gs.length q1) (slice p2 X.os.length q2) (slice p3 X.gold.length q3) (slice p4 X.us.length q4) (slice p5 X.qs.length q5)):=((Bw.mk' X _ _ _ _ _ (by simp)).below aA (by simp)).below aA (by simp);go_enter func96,ntmps96;go_upto_region 1 with fail
 generalize ((((w.alloc _).alloc _).alloc _).alloc _)=w0 at *;obtain⟨x0,x1,x2,x3,x4,x5,x6,x7,x8⟩:=X0.out;go_wp2_with fail
 refine(UM 146 (by intro args w;go_simp) _ _ X.us _ w0 (XL.out.below B0.out).slices.2.2.2.1 (λV hV u hu=>aaK ks X u p Wn c _ _ _ _ _ _ _ _ _ _ V HR.out.1 HR.out.2.1 HR.out.2.2 hu (K.out.below (B0.out.trans (hV.mono B0.out.size))) (XL.out.below (B0.out.trans (hV.mono B0.out.size))) (X0.out.below hV X0.out.lt) (by rw[hV.cell (p:=⟨w.heap.size+1+1,0,none⟩) (cell_lt K0.out.2.1)];exact K0.out.2.1) (by rw[hV.cell (p:=⟨w.heap.size,0,none⟩) (cell_lt K0.out.1)];exact K0.out.1) (by rw[hV.cell (p:=⟨w.heap.size+1+1+1,0,none⟩) (cell_lt K0.out.2.2)];exact K0.out.2.2))).mono ?_;rintro e w1 ⟨rfl,hb⟩;have B1:=aG B0 hb;obtain⟨t,ht⟩:∃t,X.us.any (IK ks Wn X.gs p c)=t:=⟨_,rfl⟩;have ST:Hid (jW ks Wn X.gs X.us p c=t):=ht;rw[ht];clear hb ht x0 x1 x2 x3 x4 x5 x6 x7 x8;go_wp2;go_ret;exact⟨by rw[ST.out];rfl,B1⟩
def Zl(w:World)(v:Value)(xs:List Bool):Prop:=∃(a:Option Addr) (c:Nat),v=slice a xs.length c/\xs.length<=c/\c<=9223372036854775807/\(xs≠[]->∃x,a=some x/\x.block<w.heap.size/\∀i d,xs[i]? =some d->w.cell? (x.add i)=some (.bool d))
theorem Zl.below(h:Zl w v xs)(hb:Below w.heap.size w w'):Zl w' v xs:=by
 obtain⟨a,c,h1,h2,h3,h4⟩:=h;refine⟨a,c,h1,h2,h3,λhx=>?_⟩;obtain⟨x,ha,hl,hc⟩:=h4 hx;refine⟨x,ha,fE hl hb.size,λi d hd=>?_⟩;rw[hb.cell (p:=x.add i) (by rw[add_block];exact hl)];exact hc i d hd
theorem Zl.nil(w:World):Zl w (slice none 0 0) []:=⟨none,0,rfl,aU _,by omega,λh=>absurd rfl h⟩
theorem Zl.len(h:Zl w v xs):∃a c,v=slice a xs.length c:=by
 obtain⟨a,c,h,-⟩:=h;exact⟨a,c,h⟩
def jG(ds:List Bool):List Value:=ds.map λd=>.bool d
def Bb(w:World)(b:Nat)(ds:List Bool):Prop:=w.heap[b]? =some (.cells (jG ds).toArray 4 (0,0))
theorem Bb.cell(h:Bb w b ds){i:Nat}{d:Bool}(hd:ds[i]? =some d):w.cell? ⟨b,i,none⟩=some (.bool d):=by
 have hi:i<ds.length:=(aK.1 hd).1;unfold Bb at h;simp only[World.cell?,h];simp[jG,hi];exact(aK.1 hd).2
theorem Bb.thaw(h:Bb w b ds)(i:Nat):w.frozen? ⟨b,i,none⟩=false:=by
 unfold Bb at h;simp[World.frozen?,h]
theorem Bb.set(h:Bb w b ds)(i:Nat)(d:Bool):Bb (w.setCell ⟨b,i,none⟩ (.bool d)) b (ds.set i d):=by
 unfold Bb at *;rw[heap_setCell_same w b i _ _ _ h];have e:(jG (ds.set i d)).toArray=(jG ds).toArray.setIfInBounds i (.bool d):=by
  simp[jG,List.map_set]
 rw[e]
theorem Bb.lt(h:Bb w b ds):b<w.heap.size:=lt_of_block h
theorem Bb.low(h:Bb w b ds)(hb:Below B w w')(hB:b<B):Bb w' b ds:=by
 unfold Bb at *;rw[hb.block b hB];exact h
theorem Bb.bl(h:Bb w b ds)(h1:ds.length<=c)(h2:c<=9223372036854775807):Zl w (slice (some ⟨b,0,none⟩) ds.length c) ds:=
 ⟨_,c,rfl,h1,h2,λ_=>⟨_,rfl,h.lt,λi d hd=>by rw[Addr.add_lit,aO];exact h.cell hd⟩⟩
theorem Ox:(prog.info? 4).map (λi=>(i.zero,i.size,i.bytes))=some (some (.bool false),1,1):=by kernel_rfl
theorem IU(n:Nat):madeCells #[Value.bool false] n=(jG (List.replicate n false)).toArray:=by
 apply Array.ext_getElem?;intro i;unfold madeCells jG;by_cases h:i<n
 ·simp[h,Nat.mod_one]
 ·simp[h]
theorem abK(n:Nat)(w:World)(h:n<=1000000):∃w',(Instr.makeSlice 99 (int i64 (n:Nat)) (int i64 (n:Nat))).run prog w=.ok (slice (some ⟨w.heap.size,0,none⟩) n n) w'/\Bb w' w.heap.size (List.replicate n false)/\Below w.heap.size w w'/\w'.heap.size=w.heap.size+1:=by
 obtain⟨i0,hi,hz0,hz1,hz2⟩:=info_parts Ox;have hr:=run_make (P:=prog) w 99 4 i0 (.bool false) underlying99 hi hz0 .i64 .i64 (n:Nat) (n:Nat) (by omega) (Int.le_refl _) (by rw[hz2];omega) (by omega);refine⟨_,hr,?_,aA,by simp⟩;unfold Bb;rw[hz1,bF,Nat.mul_one,heap_alloc_new];have e:(Value.bool false).cells= #[Value.bool false]:=rfl;rw[e,IU]
def bZ(ks:List KV)(X:WV)(p:Int):Int:=if Wd.aP ks X=0 then(if 0<=p/\p<(X.gold.length:Int) then 0 else 1) else Wd.aP ks X
def iL(ks:List KV)(X:WV)(c:Int):Int:=if Wd.aP ks X=0 then(if 0<=c/\c<(X.gs.length:Int) then 0 else 6) else Wd.aP ks X
theorem jf(h:bZ ks X p=0):Wd.aP ks X=0/\0<=p/\p<(X.gold.length:Int):=by
 unfold bZ at h;split at h
 ·rename_i h1
  split at h
  ·rename_i h2;exact⟨h1,h2⟩
  ·cases h
 ·rename_i h1;exact absurd h h1
def jq(ks:List KV)(W:Nat)(X:WV)(p:Int)(n:Nat):List Bool:=(List.range X.gs.length).map (λi=>decide (i<n)&&jW ks W X.gs X.us p i)
theorem IV(ks:List KV)(W:Nat)(X:WV)(p:Int)(n:Nat):(jq ks W X p n).length=X.gs.length:=by unfold jq;simp
theorem DF(ks:List KV)(W:Nat)(X:WV)(p:Int):jq ks W X p 0=List.replicate X.gs.length false:=by
 unfold jq;apply List.ext_getElem
 ·simp
 ·intro i h1 h2
  simp
theorem IW(ks:List KV)(W:Nat)(X:WV)(p:Int):jq ks W X p X.gs.length=yG ks W X p:=by
 unfold jq yG;apply List.map_congr_left;intro i hi;simp[List.mem_range.1 hi]
theorem DI(ks:List KV)(W:Nat)(X:WV)(p:Int)(n:Nat):jq ks W X p (n+1)=(jq ks W X p n).set n (jW ks W X.gs X.us p n):=by
 unfold jq;apply List.ext_getElem
 ·simp
 ·intro i h1 h2
  rw[List.getElem_set];simp only[List.getElem_map,List.getElem_range];by_cases e:n=i
  ·subst e;simp
  ·rw[if_neg e]
   have:decide (i<n+1)=decide (i<n):=decide_eq_decide.2 (by omega);rw[this]
theorem tH(vk vw:Value)(ks:List KV)(X:WV)(p:Int)(w:World)(hk:Kl w vk ks)(hb:∀k∈ks,k.b.size<=9223372036854775807)(hw:Wl w vw X):
  Calls prog 48 #[vk,vw,int i64 p] w λe w'=>∃r,e=.returned r/\Er r (bZ ks X p)/\Below w.heap.size w w':=by
 have K:=aj (dJ (hk) (hb));have H:=aj (hw);obtain⟨p1,q1,p2,q2,p3,q3,p4,q4,p5,q5,rfl⟩:=aX hw;obtain⟨pk,qk,rfl,-⟩:=hk;clear hb hw;have B0:Hid (Below _ w (w.alloc (cells #[int i64 X.turn,int i64 X.next,int i64 X.wide,int i64 X.high,slice p1 X.gs.length q1,slice p2 X.os.length q2,slice p3 X.gold.length q3,slice p4 X.us.length q4,slice p5 X.qs.length q5] 29))):=aA;have X0:Hid (Bw _ w.heap.size X (slice p1 X.gs.length q1) (slice p2 X.os.length q2) (slice p3 X.gold.length q3) (slice p4 X.us.length q4) (slice p5 X.qs.length q5)):=Bw.mk' X _ _ _ _ _ rfl;go_enter func48,ntmps48;go_upto_region 1 with fail
 generalize (w.alloc _)=w0 at *;obtain⟨x0,x1,x2,x3,x4,x5,x6,x7,x8⟩:=X0.out;go_wp2_with fail
 refine(gY _ _ ks X w0 (K.1.below B0) K.2 (H.below B0)).mono ?_;rintro e w1 ⟨r,rfl,hr,hb⟩;obtain⟨fw,hfw⟩:∃f,Wd.aP ks X=f:=⟨_,rfl⟩;have FW:=aj (hfw);rw[hfw] at hr;have B1:=aG B0 hb;have X1:=aj (X0.below hb X0.lt);clear hb hfw x0 x1 x2 x3 x4 x5 x6 x7 x8 X0 B0;rcases hr with⟨rfl,rfl⟩|⟨hf,rfl⟩
 case inr=>
  have HF:=aj (hf);clear hf;have PF:Hid (bZ ks X p=fw):=by unfold Hid bZ;rw[FW.out,if_neg HF.out]
  go_wp2;go_ret;exact⟨_,rfl,by rw[PF.out];exact Er.no HF,B1⟩
 obtain⟨x0,x1,x2,x3,x4,x5,x6,x7,x8⟩:=X1.out;by_cases hi0:p<0
 ·have PF:Hid (bZ ks X p=1):=by unfold Hid bZ;rw[FW.out,if_pos rfl,if_neg (by omega)]
  go_wp2;go_ret;exact⟨_,rfl,by rw[PF.out];exact Er.no (by decide),B1⟩
 by_cases hi1:(X.gold.length:Int)<=p
 ·have PF:Hid (bZ ks X p=1):=by unfold Hid bZ;rw[FW.out,if_pos rfl,if_neg (by omega)]
  go_wp2;go_ret;exact⟨_,rfl,by rw[PF.out];exact Er.no (by decide),B1⟩
 have PF:Hid (bZ ks X p=0):=by unfold Hid bZ;rw[FW.out,if_pos rfl,if_pos (by omega)]
 go_wp2;go_ret;exact⟨_,rfl,by rw[PF.out];exact Er.nil,B1⟩
theorem UO(vk vw:Value)(ks:List KV)(X:WV)(p:Int)(Wn:Nat)(w:World)(WR:bH ks X)(jS:X.wide=(Wn:Nat))(hk:Kl w vk ks)(hb:∀k∈ks,k.b.size<=9223372036854775807)(hw:Wl w vw X):
  Calls prog 50 #[vk,vw,int i64 p] w λe w'=>∃b,e=.returned (slice (some ⟨b,0,none⟩) X.gs.length X.gs.length)/\Bb w' b (yG ks Wn X p)/\w.heap.size<b/\Below w.heap.size w w':=by
 have HR:=aj (dJ (WR) (jS));have GL:X.gs.length<=144:=by obtain⟨_,_,-,-,G⟩:=WR.good;rw[G.gl];exact G.pos.2
 clear WR jS;have K:=aj (dJ (hk) (hb));have H:=aj (hw);obtain⟨p1,q1,p2,q2,p3,q3,p4,q4,p5,q5,rfl⟩:=aX hw;obtain⟨pk,qk,rfl,-⟩:=hk;clear hb hw;have B0:Hid (Below _ w (w.alloc (cells #[int i64 X.turn,int i64 X.next,int i64 X.wide,int i64 X.high,slice p1 X.gs.length q1,slice p2 X.os.length q2,slice p3 X.gold.length q3,slice p4 X.us.length q4,slice p5 X.qs.length q5] 29))):=aA;have X0:Hid (Bw _ w.heap.size X (slice p1 X.gs.length q1) (slice p2 X.os.length q2) (slice p3 X.gold.length q3) (slice p4 X.us.length q4) (slice p5 X.qs.length q5)):=Bw.mk' X _ _ _ _ _ rfl;go_enter func50,ntmps50;go_upto_region 1 with fail
 generalize (w.alloc _)=w0 at *;have x4:=X0.c4;obtain⟨w1,hmk,hbk,hb1,hs1⟩:=abK X.gs.length w0 (by omega);go_upto_region 2 with fail
 have BK:Hid (Bb w1 w0.heap.size (jq ks Wn X p 0)):=by unfold Hid;rw[DF];exact hbk
 have B1:=aG B0 hb1;have X1:=aj (X0.below hb1 X0.lt);obtain⟨lb,hlb⟩:∃z,w0.heap.size=z:=⟨_,rfl⟩;have LB:Hid (w.heap.size<lb):=by unfold Hid;rw[<-hlb];exact X0.lt
 rw[hlb] at BK ⊢;clear hmk hbk hb1 hs1 x4 hlb B0 X0;go_wp2_with fail
 go_loopw [16] (λi V=>∃n:Nat,i=int i64 (n:Nat)/\n<=X.gs.length/\Bb V lb (jq ks Wn X p n)/\Bw V w.heap.size X (slice p1 X.gs.length q1) (slice p2 X.os.length q2) (slice p3 X.gold.length q3) (slice p4 X.us.length q4) (slice p5 X.qs.length q5)/\Below w.heap.size w V) (λi _=>X.gs.length-(intOf i).toNat)
 case atStart=>exact⟨0,rfl,aZ _,BK,X1,B1⟩
 case round=>
  obtain⟨n,rfl,hn,hbb,hx,hb⟩:=hrel;clear BK X1 B1;have BK:=aj (hbb);have X1:=aj (hx);have B1:=aj (hb);clear hbb hx hb;by_cases h0:n=X.gs.length
  ·subst h0
   go_wp2;go_ret;exact⟨lb,rfl,by have:=BK.out;rw[IW] at this;exact this,LB,B1⟩
  ·have hnl:n<X.gs.length:=by omega
   have hni:((n:Nat):Int)<(X.gs.length:Nat):=by omega
   have aaL:=aj (hnl);have WN:IntKind.i64.wrap ((n:Nat)+1:Int)=((n:Nat):Int)+1:=by rw[IntKind.wrap_i64];omega
   obtain⟨x0,x1,x2,x3,x4,x5,x6,x7,x8⟩:=X1.out;go_wp2_with fail
   refine(DC _ _ ks X p Wn n wr HR.1 HR.2 aaL (K.1.below B1) (H.below B1)).mono ?_;rintro e w2 ⟨rfl,hb⟩;have B2:=aG B1 hb;have X2:=aj (X1.below hb X1.lt);have BK2:=aj (BK.low hb BK.lt);obtain⟨t,ht⟩:∃t,jW ks Wn X.gs X.us p n=t:=⟨_,rfl⟩;have NX:Hid (jq ks Wn X p (n+1)=(jq ks Wn X p n).set n t):=by unfold Hid;rw[DI,ht]
   obtain⟨y,hy⟩:∃y,(jq ks Wn X p n)[n]? =some y:=⟨_,aH (by rw[IV];exact aaL)⟩;have cy:=BK2.cell hy;have ty:=BK2.thaw n;rw[ht];clear hb ht hy x0 x1 x2 x3 x4 x5 x6 x7 x8 BK B1 X1;have K3:Hid (Kp lb w2 (w2.setCell ⟨lb,n,none⟩ (.bool t))):=Kp.set _ _ _;have BK3:=aj (BK2.set n t);go_wp2;generalize (w2.setCell _ _)=w3 at *;go_round
   case rel=>exact⟨n+1,by go_num,by have:=aaL.out;omega,by rw[NX.out];exact BK3,X2.kp9 K3 (by have:=LB.out;omega),K3.below B2 B2.size (by have:=LB.out;omega)⟩
   case measure=>simp[intOf];omega
def Rs(w:World)(p:Int)(V:World):Prop:=V.cell? ⟨w.heap.size+1,0,none⟩=some (int i64 p)/\Wx V (w.heap.size+1+1) (int i64 0) (int i64 0) (int i64 0) (int i64 0) (slice none 0 0) (slice none 0 0) (slice none 0 0) (slice none 0 0) (slice none 0 0)/\Below w.heap.size w V
theorem Rs.gb(h:Rs w p V)(k:V.grownBy V' r)(hr:∀b,r=some b->b=w.heap.size\/w.heap.size+1+1<b):Rs w p V':=by
 obtain⟨h1,h2,h3⟩:=h;refine⟨jL h1 k (λe=>by have:=hr _ e;simp at this;omega),(k.block _ h2.lt (λe=>by have:=hr _ e.symm;omega)).trans h2,?_⟩;exact⟨k.os.trans h3.os,k.tape.trans h3.tape,k.output.trans h3.output,aJ h3.size k.size,λi hi=>(k.block i (fE hi h3.size) (λe=>by have:=hr _ e.symm;omega)).trans (h3.block i hi)⟩
def Bsg(V:World)(bb b9 n:Nat)(ds:List Bool):Prop:=Bb V bb ds/\V.cell? ⟨b9,0,none⟩=some (slice (some ⟨bb,0,none⟩) n n)/\b9<V.heap.size
theorem Bsg.gb{bb b9 n:Nat}(h:Bsg V bb b9 n ds)(k:V.grownBy V' r)(h1:r≠some bb)(h2:r≠some b9):Bsg V' bb b9 n ds:=
 ⟨(k.block _ h.1.lt (Ne.symm h1)).trans h.1,jL h.2.1 k h2,fE h.2.2 k.size⟩
theorem Wx.gb{c0 c1 c2 c3 c4 c5 c6 c7 c8:Value}(h:Wx w z c0 c1 c2 c3 c4 c5 c6 c7 c8)(k:w.grownBy w' r)(hn:r≠some z):Wx w' z c0 c1 c2 c3 c4 c5 c6 c7 c8:=(k.block z h.lt (Ne.symm hn)).trans h
theorem aaM(ks:List KV)(X:WV)(u:aI)(p:Int)(Wn an n bp bc bb:Nat)(w:World)(ha:u.at_=(an:Nat))(hn:an<n)
  (c1:w.cell? ⟨bp,0,none⟩=some (int i64 p)) (c2:w.cell? ⟨bc,0,none⟩=some (slice (some ⟨bb,0,none⟩) n n)) (c3:w.cell? ⟨bb,an,none⟩=some (.bool (jW ks Wn X.gs X.us p an))):
  Calls prog 52 (#[u.val]++ #[.pointer (some ⟨bp,0,none⟩),.pointer (some ⟨bc,0,none⟩)]) w λe w'=>e=.returned (.bool (hidU ks Wn X p u))/\Below w.heap.size w w':=by
 have HU:Hid (hidU ks Wn X p u=(!(u.ay==p)&& !jW ks Wn X.gs X.us p an)):=by unfold Hid hidU;rw[ha,bF]
 have B0:Hid (Below _ w (w.alloc (cells #[int i64 u.id,int i64 u.ay,int i64 u.kind,int i64 u.at_,int i64 u.life,int i64 u.load,int i64 u.task,int i64 u.goal] 74))):=aA;have O0:Hid (fA _ ⟨w.heap.size,0,none⟩ u):=fA.mk' u rfl;have d1:(w.alloc (cells #[int i64 u.id,int i64 u.ay,int i64 u.kind,int i64 u.at_,int i64 u.life,int i64 u.load,int i64 u.task,int i64 u.goal] 74)).cell? ⟨bp,0,none⟩=some (int i64 p):=by rw[B0.out.cell (p:=⟨bp,0,none⟩) (cell_lt c1)];exact c1
 have d2:(w.alloc (cells #[int i64 u.id,int i64 u.ay,int i64 u.kind,int i64 u.at_,int i64 u.life,int i64 u.load,int i64 u.task,int i64 u.goal] 74)).cell? ⟨bc,0,none⟩=some (slice (some ⟨bb,0,none⟩) n n):=by rw[B0.out.cell (p:=⟨bc,0,none⟩) (cell_lt c2)];exact c2
 have d3:(w.alloc (cells #[int i64 u.id,int i64 u.ay,int i64 u.kind,int i64 u.at_,int i64 u.life,int i64 u.load,int i64 u.task,int i64 u.goal] 74)).cell? ⟨bb,an,none⟩=some (.bool (jW ks Wn X.gs X.us p an)):=by rw[B0.out.cell (p:=⟨bb,an,none⟩) (cell_lt c3)];exact c3
 have HE:=aj (ha);have hni:((an:Nat):Int)<(n:Nat):=by omega
 clear c1 c2 c3 ha;unfold aI.val;go_enter func52,ntmps52;go_upto_region 1 with fail
 generalize (w.alloc _)=w0 at *;obtain⟨q0,q1,q2,q3,q4,q5,q6,q7⟩:=O0.out;rw[HE.out] at q3;obtain⟨t,ht⟩:∃t,jW ks Wn X.gs X.us p an=t:=⟨_,rfl⟩;rw[ht] at d3 HU;clear ht;by_cases hp:u.ay=p
 ·have S1:Hid (hidU ks Wn X p u=false):=by unfold Hid;rw[HU.out,hp];simp
  rw[hp] at q1;go_wp2;go_ret;exact⟨by rw[S1.out];rfl,B0⟩
 ·have hp':(u.ay==p)=false:=by rw[beq_eq_false_iff_ne];exact hp
  have S1:Hid (hidU ks Wn X p u= !t):=by unfold Hid;rw[HU.out,hp'];simp
  have HB:Hid ((u.ay != p)=true):=by unfold Hid bne;rw[hp'];rfl
  go_wp2;go_ret;exact⟨by rw[S1.out];show Ending.returned (.bool (u.ay != p&& !t))=_;rw[HB.out];rfl,B0⟩
theorem aaN(j:bM)(p:Int)(bp:Nat)(w:World)(c1:w.cell? ⟨bp,0,none⟩=some (int i64 p)):
  Calls prog 54 (#[j.val]++ #[.pointer (some ⟨bp,0,none⟩)]) w λe w'=>e=.returned (.bool (wY p j))/\Below w.heap.size w w':=by
 have B0:Hid (Below _ w (w.alloc (cells #[int i64 j.ay,int i64 j.unit,int i64 j.kind,int i64 j.left] 93))):=aA;have O0:Hid (nI _ ⟨w.heap.size,0,none⟩ j):=nI.mk' j rfl;have d1:(w.alloc (cells #[int i64 j.ay,int i64 j.unit,int i64 j.kind,int i64 j.left] 93)).cell? ⟨bp,0,none⟩=some (int i64 p):=by rw[B0.out.cell (p:=⟨bp,0,none⟩) (cell_lt c1)];exact c1
 clear c1;unfold bM.val;go_enter func54,ntmps54;go_upto_region 1 with fail
 generalize (w.alloc _)=w0 at *;obtain⟨q0,q1,q2,q3⟩:=O0.out;by_cases hp:j.ay=p
 ·have S1:Hid (wY p j=false):=by unfold Hid wY;rw[hp];simp
  rw[hp] at q0;go_wp2;go_ret;exact⟨by rw[S1.out];simp,B0⟩
 ·have hp':(j.ay==p)=false:=by rw[beq_eq_false_iff_ne];exact hp
  have S1:Hid (wY p j=true):=by unfold Hid wY;rw[hp'];rfl
  have HB:Hid ((j.ay != p)=true):=by unfold Hid bne;rw[hp'];rfl
  go_wp2;go_ret;exact⟨by rw[S1.out];show Ending.returned (.bool (j.ay != p))=_;rw[HB.out],B0⟩
def DJ(ks:List KV)(X:WV)(p:Int)(w w':World)(v:Value):Prop:=
 (bZ ks X p≠0/\v=.agg #[int i64 0,int i64 0,int i64 0,int i64 0,slice none 0 0,slice none 0 0,slice none 0 0,slice none 0 0,slice none 0 0])\/(bZ ks X p=0/\∃Wn:Nat,X.wide=(Wn:Nat)/\Wo w' w.heap.size v (dS ks Wn X p))
theorem wC(vk vw:Value)(ks:List KV)(X:WV)(p:Int)(w:World)(hk:Kl w vk ks)(hb:∀k∈ks,k.b.size<=9223372036854775807)(hw:Wl w vw X):
  Calls prog 25 #[vk,vw,int i64 p] w λe w'=>∃v r,e=.returned (.tuple #[v,r])/\Er r (bZ ks X p)/\DJ ks X p w w' v/\Below w.heap.size w w':=by
 have K:=aj (dJ (hk) (hb));have H:=aj (hw);obtain⟨p1,q1,p2,q2,p3,q3,p4,q4,p5,q5,rfl⟩:=aX hw;obtain⟨pk,qk,rfl,-⟩:=hk;clear hb hw;go_enter func25,ntmps25;go_upto_region 1 with fail
 have R0:Hid (Rs w p (((w.alloc (cells #[int i64 X.turn,int i64 X.next,int i64 X.wide,int i64 X.high,slice p1 X.gs.length q1,slice p2 X.os.length q2,slice p3 X.gold.length q3,slice p4 X.us.length q4,slice p5 X.qs.length q5] 29)).alloc (cells #[int i64 p] 3)).alloc (cells #[int i64 0,int i64 0,int i64 0,int i64 0,slice none 0 0,slice none 0 0,slice none 0 0,slice none 0 0,slice none 0 0] 29))):=⟨by rw[dW (p:=⟨w.heap.size+1,0,none⟩) (by simp)];exact cell_new1 _ _ (by simp),Wx.new _ _ _ _ _ _ _ _ _ (by simp),(aA.alloc (by simp) _).alloc (by simp;omega) _⟩;have X0:Hid (Wx (((w.alloc _).alloc (cells #[int i64 p] 3)).alloc (cells #[int i64 0,int i64 0,int i64 0,int i64 0,slice none 0 0,slice none 0 0,slice none 0 0,slice none 0 0,slice none 0 0] 29)) _ (int i64 X.turn) (int i64 X.next) (int i64 X.wide) (int i64 X.high) (slice p1 X.gs.length q1) (slice p2 X.os.length q2) (slice p3 X.gold.length q3) (slice p4 X.us.length q4) (slice p5 X.qs.length q5)):=((Wx.new _ _ _ _ _ _ _ _ _ rfl).below aA (by simp)).below aA (by simp;omega);generalize (((w.alloc _).alloc _).alloc _)=w0 at *;obtain⟨x0,x1,x2,x3,x4,x5,x6,x7,x8⟩:=X0.cells;have pp:=R0.out.1;go_wp2_with fail
 refine(tH _ _ ks X p w0 (K.1.below R0.2.2) K.2 (H.below R0.2.2)).mono ?_;rintro e w1 ⟨r,rfl,hr,hb⟩;obtain⟨fw,hfw⟩:∃f,bZ ks X p=f:=⟨_,rfl⟩;have FW:=aj (hfw);rw[hfw] at hr;have R1:=aj (R0.gb (r:=none) (nX hb) (by simp));have X1:=aj (X0.below hb X0.lt);clear hb hfw x0 x1 x2 x3 x4 x5 x6 x7 x8 pp X0 R0;rcases hr with⟨rfl,rfl⟩|⟨hf,rfl⟩
 case inr=>
  have HF:=aj (hf);clear hf;have zz:=R1.2.1.cells;obtain⟨t0,t1,t2,t3,t4,t5,t6,t7,t8⟩:=R1.2.1.cO;have KZ:=aj (fH w1 (w.heap.size+1+1));have yy:=(R1.2.1.nJ).cells;go_wp2;clear zz t0 t1 t2 t3 t4 t5 t6 t7 t8;generalize World.setCell _ _ _=w9 at *;refine bodyPost_ret (v:=.tuple #[.agg _,.iface 85 (int i64 fw)]) (by simp[results,results25,go_sem,yy]) rfl ⟨_,_,rfl,by rw[FW.out];exact Er.no HF,.inl ⟨by rw[FW.out];exact HF,rfl⟩,KZ.below R1.2.2 R1.2.2.size (by omega)⟩
 have WR:=aj (bY (jf FW).1);obtain⟨Wn,Hn,e1,e2,G⟩:=WR.good;have GD:Hid (X.wide=(Wn:Nat)/\X.gs.length<=144/\X.os.length=X.gs.length/\0<X.gs.length/\0<X.gold.length/\X.gold.length<=4):=⟨e1,by rw[G.gl];exact G.pos.2,by rw[G.gl,G.ol],by rw[G.gl];exact G.pos.1,by have:=(jf FW).2;omega,by have:=(jY WR.nums).2;omega⟩;clear e1 e2 G;obtain⟨x0,x1,x2,x3,x4,x5,x6,x7,x8⟩:=X1.cells;go_wp2_with fail
 refine(jo _ X w1 (H.below R1.2.2) WR.len).mono ?_;rintro e w2 ⟨cu,rfl,⟨k1,k2,k3,k4,k5,rfl,⟨o1,o2,o3,o4,o5⟩,d12,d13,d14,d15,d23,d24,d25,d34,d35,d45⟩,hb⟩;obtain⟨a1,r1,rfl⟩:=o1.len;obtain⟨a2,r2,rfl⟩:=o2.len;obtain⟨a3,r3,rfl⟩:=o3.len;obtain⟨a4,r4,rfl⟩:=o4.len;obtain⟨a5,r5,rfl⟩:=o5.len;obtain⟨b1,hb1⟩:∃z,w1.heap.size=z:=⟨_,rfl⟩;rw[hb1] at o1 o2 o3 o4 o5;have BS:Hid (w.heap.size+1+1<b1/\b1<=w2.heap.size):=⟨by rw[<-hb1];exact R1.2.1.lt,by rw[<-hb1];exact hb.size⟩;have X2:=aj (X1.below hb X1.lt);have R2:=aj (R1.gb (r:=none) (nX hb) (by simp));have O2:=aj (iJ o1 o2 o3 o4 o5);have DD:Hid (fK (slice a1 X.gs.length r1) (slice a2 X.os.length r2)/\fK (slice a1 X.gs.length r1) (slice a3 X.gold.length r3)/\fK (slice a1 X.gs.length r1) (slice a4 X.us.length r4)/\fK (slice a1 X.gs.length r1) (slice a5 X.qs.length r5)/\fK (slice a2 X.os.length r2) (slice a3 X.gold.length r3)/\fK (slice a2 X.os.length r2) (slice a4 X.us.length r4)/\fK (slice a2 X.os.length r2) (slice a5 X.qs.length r5)/\fK (slice a3 X.gold.length r3) (slice a4 X.us.length r4)/\fK (slice a3 X.gold.length r3) (slice a5 X.qs.length r5)/\fK (slice a4 X.us.length r4) (slice a5 X.qs.length r5)):=⟨d12,d13,d14,d15,d23,d24,d25,d34,d35,d45⟩;clear hb hb1 x0 x1 x2 x3 x4 x5 x6 x7 x8 o1 o2 o3 o4 o5 d12 d13 d14 d15 d23 d24 d25 d34 d35 d45 X1 R1;have zz:=X2.cells;obtain⟨t0,t1,t2,t3,t4,t5,t6,t7,t8⟩:=X2.cO;have KZ:=aj (dG w2 w.heap.size (int i64 X.turn) (int i64 X.next) (int i64 X.wide) (int i64 X.high) (slice a1 X.gs.length r1) (slice a2 X.os.length r2) (slice a3 X.gold.length r3) (slice a4 X.us.length r4) (slice a5 X.qs.length r5));have X3:=aj (X2.put (int i64 X.turn) (int i64 X.next) (int i64 X.wide) (int i64 X.high) (slice a1 X.gs.length r1) (slice a2 X.os.length r2) (slice a3 X.gold.length r3) (slice a4 X.us.length r4) (slice a5 X.qs.length r5));go_upto_region 5 with fail
 clear zz t0 t1 t2 t3 t4 t5 t6 t7 t8;generalize World.setCell _ _ _=w3 at *;have R3:=aj (R2.gb (jm KZ) (λb hb=>.inl (dQ hb).symm));have O3:Hid (Ow w3 b1 (slice a1 X.gs.length r1) X.gs/\Ow w3 b1 (slice a2 X.os.length r2) X.os/\Ow w3 b1 (slice a3 X.gold.length r3) X.gold/\fD w3 b1 (slice a4 X.us.length r4) X.us/\fB w3 b1 (slice a5 X.qs.length r5) X.qs):=by
  have h:=BS.out.1;exact⟨O2.1.kp KZ (by omega),O2.2.1.kp KZ (by omega),O2.2.2.1.kp KZ (by omega),O2.2.2.2.1.kp KZ (by omega),O2.2.2.2.2.kp KZ (by omega)⟩
 obtain⟨b3,hb3⟩:∃z,w3.heap.size=z:=⟨_,rfl⟩;have LB:Hid ((∀b,(slice a1 X.gs.length r1).ownBlock=some b->b1<=b/\b<b3)/\(∀b,(slice a2 X.os.length r2).ownBlock=some b->b1<=b/\b<b3)/\(∀b,(slice a3 X.gold.length r3).ownBlock=some b->b1<=b/\b<b3)/\(∀b,(slice a4 X.us.length r4).ownBlock=some b->b1<=b/\b<b3)/\(∀b,(slice a5 X.qs.length r5).ownBlock=some b->b1<=b/\b<b3)):=by
  unfold Hid;rw[<-hb3];exact⟨O3.1.block,O3.2.1.block,O3.2.2.1.block,World.ownsRow.lt O3.2.2.2.1,World.ownsRow.lt O3.2.2.2.2⟩
 have L3:Hid (Wl w3 (.agg #[int i64 X.turn,int i64 X.next,int i64 X.wide,int i64 X.high,slice a1 X.gs.length r1,slice a2 X.os.length r2,slice a3 X.gold.length r3,slice a4 X.us.length r4,slice a5 X.qs.length r5]) X):=⟨_,_,_,_,_,rfl,O3.1.ro,O3.2.1.ro,O3.2.2.1.ro,O3.2.2.2.1.l,O3.2.2.2.2.l⟩;have S3:Hid (b1<=b3):=by unfold Hid;rw[<-hb3];exact aJ BS.2 KZ.size
 clear KZ X2 R2 O2;obtain⟨x0,x1,x2,x3,x4,x5,x6,x7,x8⟩:=X3.cells;have pp:=R3.out.1;go_wp2_with fail
 refine(UO _ _ ks X p Wn w3 WR GD.1 (K.1.below R3.2.2) K.2 L3).mono ?_;rintro e w4 ⟨bb,rfl,hbb,hlt,hb⟩;rw[hb3] at hlt;have X4:=aj (X3.below hb X3.lt);have R4:=aj (R3.gb (r:=none) (nX hb) (by simp));have O4:=aj (iJ (O3.1.below hb) (O3.2.1.below hb) (O3.2.2.1.below hb) (O3.2.2.2.1.below hb) (O3.2.2.2.2.below hb));have BK:=aj (hbb);have S4:Hid (b3<bb/\b3<=w4.heap.size):=⟨hlt,by rw[<-hb3];exact hb.size⟩;clear hb hb3 hbb hlt x0 x1 x2 x3 x4 x5 x6 x7 x8 pp X3 R3 O3 L3;go_upto_region 6 with fail
 have BA:Hid (Below _ w4 (w4.alloc (cells #[slice (some ⟨bb,0,none⟩) X.gs.length X.gs.length] 99))):=aA;obtain⟨b9,hb9⟩:∃z,w4.heap.size=z:=⟨_,rfl⟩;have S5:Hid (b3<bb/\bb<b9):=⟨S4.1,by rw[<-hb9];exact BK.lt⟩;have B5:Hid (Bsg (w4.alloc (cells #[slice (some ⟨bb,0,none⟩) X.gs.length X.gs.length] 99)) bb b9 X.gs.length (yG ks Wn X p)):=⟨BK.low BA BK.lt,cell_new1 _ _ hb9,by rw[<-hb9];simp⟩;rw[hb9];generalize (w4.alloc _)=w5 at *;have X5:=aj (X4.below BA X4.lt);have R5:=aj (R4.gb (r:=none) (nX BA) (by simp));have O5:=aj (iJ (O4.1.below BA) (O4.2.1.below BA) (O4.2.2.1.below BA) (O4.2.2.2.1.below BA) (O4.2.2.2.2.below BA));have Z5:Hid (b1<=w5.heap.size):=by have h1:=BA.size;have h2:=S3.out;have h3:=S4.out.2;unfold Hid;omega
 clear BA hb9 BK S4 X4 R4 O4;obtain⟨-,-,-,-,-,-,-,x7,-⟩:=X5.cells;go_wp2_with fail
 refine(zG 52 (by intro args w;go_simp) (slice a4 X.us.length r4) #[.pointer (some ⟨w.heap.size+1,0,none⟩),.pointer (some ⟨b9,0,none⟩)] X.us (hidU ks Wn X p) w5 b1 O5.2.2.2.1 Z5 (by have:=WR.ul;omega) (λW hbW hgW u hu=>?_)).mono ?_
 ·obtain⟨i,hi⟩:=List.mem_iff_getElem?.1 hu
  obtain⟨k,fu⟩:=WR.fine hi;have h1:=fu.at_;have hB:=B5.gb hgW (λe=>by have:=LB.2.2.2.1 _ e;have:=S5.out;omega) (λe=>by have:=LB.2.2.2.1 _ e;have:=S5.out;omega);have hR:=R5.gb hgW (λb e=>.inr (by have:=LB.2.2.2.1 _ e;have:=BS.out.1;omega));exact aaM ks X u p Wn u.at_.toNat X.gs.length _ _ bb W (by omega) (by omega) hR.1 hB.2.1 (hB.1.cell (Kv ks Wn X p (by omega)))
 rintro e w6 ⟨v4,rfl,ho,hb,hg,hown⟩;obtain⟨st,hst⟩:∃l,X.us.filter (λk=> !hidU ks Wn X p k)=l:=⟨_,rfl⟩;have ST:=aj (hst);rw[hst] at ho;obtain⟨a6,r6,rfl⟩:=ho.len;have OB:=aj (hown);have O6:Hid (Ow w6 b1 (slice a1 X.gs.length r1) X.gs/\Ow w6 b1 (slice a2 X.os.length r2) X.os/\Ow w6 b1 (slice a3 X.gold.length r3) X.gold/\fD w6 b1 (slice a6 st.length r6) st/\fB w6 b1 (slice a5 X.qs.length r5) X.qs):=⟨bJ O5.1 hg (λb h1 h2=>DD.2.2.1 b h1 h2),bJ O5.2.1 hg (λb h1 h2=>DD.2.2.2.2.2.1 b h1 h2),bJ O5.2.2.1 hg (λb h1 h2=>DD.2.2.2.2.2.2.2.1 b h1 h2),ho,bJ O5.2.2.2.2 hg (λb h1 h2=>DD.2.2.2.2.2.2.2.2.2 b h2 h1)⟩;have X6:=aj (X5.below hb (by have:=BS.out.1;omega));have R6:=aj (R5.gb hg (λb e=>.inr (by have:=LB.2.2.2.1 _ e;have:=BS.out.1;omega)));have B6:=aj (B5.gb hg (λe=>by have:=LB.2.2.2.1 _ e;have:=S5.out;omega) (λe=>by have:=LB.2.2.2.1 _ e;have:=S5.out;omega));have Z6:=aj (aJ Z5 hb.size);clear ho hb hg hown hst x7 O5 X5 R5 B5 Z5;obtain⟨-,-,-,-,-,-,-,x7,-⟩:=X6.cells;have t7:=X6.thaw 7;have X7:Hid (Wx _ _ _ _ _ _ _ _ _ (slice a6 st.length r6) _):=X6.Bj _;have K7:Hid (Kp _ w6 (w6.setCell ⟨w.heap.size,7,none⟩ (slice a6 st.length r6))):=Kp.set _ _ _;go_upto_region 7 with fail
 clear x7 t7;generalize (w6.setCell _ _)=w7 at *;have O7:Hid (Ow w7 b1 (slice a1 X.gs.length r1) X.gs/\Ow w7 b1 (slice a2 X.os.length r2) X.os/\Ow w7 b1 (slice a3 X.gold.length r3) X.gold/\fD w7 b1 (slice a6 st.length r6) st/\fB w7 b1 (slice a5 X.qs.length r5) X.qs):=by
  have h:=BS.out.1;exact⟨O6.1.kp K7 (by omega),O6.2.1.kp K7 (by omega),O6.2.2.1.kp K7 (by omega),O6.2.2.2.1.kp K7 (by omega),O6.2.2.2.2.kp K7 (by omega)⟩
 have R7:=aj (R6.gb (jm K7) (λb hb=>.inl (dQ hb).symm));have B7:=aj (B6.gb (jm K7) (λe=>by have:=dQ e;have:=S5.out;have:=S3.out;have:=BS.out.1;omega) (λe=>by have:=dQ e;have:=S5.out;have:=S3.out;have:=BS.out.1;omega));have Z7:=aj (aJ Z6 K7.size);clear K7 O6 X6 R6 B6 Z6;obtain⟨-,-,-,-,-,-,-,-,x8⟩:=X7.cells;go_wp2_with fail
 refine(Dh 54 (by intro args w;go_simp) (slice a5 X.qs.length r5) #[.pointer (some ⟨w.heap.size+1,0,none⟩)] X.qs (wY p) w7 b1 O7.2.2.2.2 Z7 (by have:=WR.ql;omega) (λW hbW hgW j _=>?_)).mono ?_
 ·exact aaN j p _ W (R7.gb hgW (λb e=>.inr (by have:=LB.2.2.2.2 _ e;have:=BS.out.1;omega))).1
 rintro e w8 ⟨v5,rfl,ho,hb,hg,hown⟩;obtain⟨rE,Ez⟩:∃l,X.qs.filter (λk=> !wY p k)=l:=⟨_,rfl⟩;have QS:=aj (Ez);rw[Ez] at ho;obtain⟨a8,r8,rfl⟩:=ho.len;have OC:=aj (hown);have O8:Hid (Ow w8 b1 (slice a1 X.gs.length r1) X.gs/\Ow w8 b1 (slice a2 X.os.length r2) X.os/\Ow w8 b1 (slice a3 X.gold.length r3) X.gold/\fD w8 b1 (slice a6 st.length r6) st/\fB w8 b1 (slice a8 rE.length r8) rE):=⟨bJ O7.1 hg (λb h1 h2=>DD.2.2.2.1 b h1 h2),bJ O7.2.1 hg (λb h1 h2=>DD.2.2.2.2.2.2.1 b h1 h2),bJ O7.2.2.1 hg (λb h1 h2=>DD.2.2.2.2.2.2.2.2.1 b h1 h2),bJ O7.2.2.2.1 hg (λb h1 h2=>DD.2.2.2.2.2.2.2.2.2 b (by rw[<-OB.out];exact h1) h2),ho⟩;have X8:=aj (X7.below hb (by have:=BS.out.1;omega));have R8:=aj (R7.gb hg (λb e=>.inr (by have:=LB.2.2.2.2 _ e;have:=BS.out.1;omega)));have B8:=aj (B7.gb hg (λe=>by have:=LB.2.2.2.2 _ e;have:=S5.out;omega) (λe=>by have:=LB.2.2.2.2 _ e;have:=S5.out;omega));clear ho hb hg hown Ez x8 O7 X7 R7 B7 Z7;obtain⟨-,-,-,-,-,-,-,-,x8⟩:=X8.cells;have t8:=X8.thaw 8;have X9:Hid (Wx _ _ _ _ _ _ _ _ _ _ (slice a8 rE.length r8)):=X8.Lu _;have K9:Hid (Kp _ w8 (w8.setCell ⟨w.heap.size,8,none⟩ (slice a8 rE.length r8))):=Kp.set _ _ _;go_upto_region 8 with fail
 clear x8 t8;generalize (w8.setCell _ _)=w9 at *;have O9:Hid (Ow w9 b1 (slice a1 X.gs.length r1) X.gs/\Ow w9 b1 (slice a2 X.os.length r2) X.os/\Ow w9 b1 (slice a3 X.gold.length r3) X.gold/\fD w9 b1 (slice a6 st.length r6) st/\fB w9 b1 (slice a8 rE.length r8) rE):=by
  have h:=BS.out.1;exact⟨O8.1.kp K9 (by omega),O8.2.1.kp K9 (by omega),O8.2.2.1.kp K9 (by omega),O8.2.2.2.1.kp K9 (by omega),O8.2.2.2.2.kp K9 (by omega)⟩
 have R9:=aj (R8.gb (jm K9) (λb hb=>.inl (dQ hb).symm));have B9:=aj (B8.gb (jm K9) (λe=>by have:=dQ e;have:=S5.out;have:=S3.out;have:=BS.out.1;omega) (λe=>by have:=dQ e;have:=S5.out;have:=S3.out;have:=BS.out.1;omega));clear K9 O8 X8 R8 B8;rcases O9.2.2.1.bk with⟨-,h⟩|⟨g3,cp3,rs3,h,-,hl3,hm3,hz3,abL⟩
 ·exact absurd GD.2.2.2.2.1 (by rw[h];simp)
 injection h with h1 h2 h3
 subst h1;subst h3;rcases O9.2.1.bk with⟨-,h⟩|⟨g2,cp2,rs2,h,-,hl2,hm2,hz2,hbk2⟩
 ·exact absurd GD.2.2.2.1 (by rw[<-GD.out.2.2.1,h];simp)
 injection h with h1 h2' h3
 subst h1;subst h3;have GG:Hid (b1<=g3/\g3<b3/\b1<=g2/\g2<b3/\g2≠g3):=⟨(LB.2.2.1 g3 rfl).1,(LB.2.2.1 g3 rfl).2,(LB.2.1 g2 rfl).1,(LB.2.1 g2 rfl).2,λe=>DD.2.2.2.2.1 g2 rfl (by rw[e];rfl)⟩;have CP:Hid ((X.gold.length<=r3/\r3<=maxLen/\X.gold.length+rs3.size=r3)/\X.os.length<=r2/\r2<=maxLen/\X.os.length+rs2.size=r2):=⟨⟨hl3,hm3,hz3⟩,hl2,hm2,hz2⟩;obtain⟨q,hq⟩:∃q:Nat->Bool,(λi:Nat=> !decide ((i:Int)=p))=q:=⟨_,rfl⟩;obtain⟨s,hs⟩:∃s:Nat->Bool,(λi:Nat=> !jW ks Wn X.gs X.us p i)=s:=⟨_,rfl⟩;have QQ:Hid ((∀i:Nat,q i= !decide ((i:Int)=p))/\∀i:Nat,s i= !jW ks Wn X.gs X.us p i):=⟨λi=>by rw[<-hq],λi=>by rw[<-hs]⟩;have FO:Hid (dS ks Wn X p={X with us:=st,qs:=rE,gold:=Aq q X.gold,os:=Aq s X.os}):=by unfold Hid dS;rw[ST.out,QS.out,hq,hs]
 have BK9:=aj (abL);clear hl3 hm3 hz3 abL hl2 hm2 hz2 hbk2 h2 h2' hq hs;obtain⟨-,-,-,-,-,-,x6,-,-⟩:=X9.cells;go_upto_region 9 with fail
 clear x6;go_loopw [40] (λv40 V=>∃n:Nat,v40=int i64 (n:Nat)/\n<=X.gold.length/\Bk V g3 (iD q n X.gold) rs3/\Kp g3 w9 V) (λv40 _=>X.gold.length-(intOf v40).toNat)
 case atStart=>exact⟨0,rfl,aZ _,by rw[wB];exact BK9,Kp.refl _ _⟩
 case round=>
  obtain⟨n,rfl,hn,hbk,hkp⟩:=hrel;have BR:=aj (hbk);have KR:=aj (hkp);have XR:=aj (X9.kp hkp (by have:=GG.out.1;have:=BS.out.1;omega));have RR:=aj (R9.gb (jm hkp) (λb hb=>.inr (by have:=dQ hb;have:=GG.out.1;have:=BS.out.1;omega)));clear hbk hkp;by_cases h0:n=X.gold.length
  case neg=>
   have hnl:n<X.gold.length:=by omega
   have hni:((n:Nat):Int)<(X.gold.length:Nat):=by omega
   have HN:=aj (hnl);have WN:IntKind.i64.wrap ((n:Nat)+1:Int)=((n:Nat):Int)+1:=by have:=GD.out.2.2.2.2.2;rw[IntKind.wrap_i64];omega
   have pp:=RR.out.1;obtain⟨-,-,-,-,-,-,x6,-,-⟩:=XR.cells;by_cases hp:((n:Nat):Int)=p
   ·have NX:Hid (iD q (n+1) X.gold=iD q n X.gold):=Dy _ (by rw[QQ.out.1,hp];simp)
    rw[<-hp] at pp;clear hp;go_wp2;go_round
    case rel=>exact⟨n+1,by go_num,by have:=HN.out;omega,by rw[NX.out];exact BR,KR⟩
    case measure=>simp[intOf];omega
   ·have NX:Hid (iD q (n+1) X.gold=(iD q n X.gold).set n 0):=yI _ (by rw[QQ.out.1];simp[hp])
    have hp':(((n:Nat):Int)==p)=false:=by rw[beq_eq_false_iff_ne];exact hp
    obtain⟨y,hy⟩:∃y,(iD q n X.gold)[n]? =some y:=⟨_,aH (by rw[oM];exact hnl)⟩;have cy:=BR.cell hy;have ty:=BR.thaw n;have KS:Hid (Kp g3 wr (wr.setCell ⟨g3,n,none⟩ (int i64 0))):=Kp.set _ _ _;have BS3:=aj (BR.set n 0 (by rw[oM];exact hnl));clear hy;go_wp2;generalize (wr.setCell _ _)=w10 at *;go_round
    case rel=>exact⟨n+1,by go_num,by have:=HN.out;omega,by rw[NX.out];exact BS3,KR.trans KS⟩
    case measure=>simp[intOf];omega
  subst h0;have O10:Hid (Ow wr b1 (slice a1 X.gs.length r1) X.gs/\Ow wr b1 (slice (some ⟨g2,0,none⟩) X.os.length r2) X.os/\Ow wr b1 (slice (some ⟨g3,0,none⟩) X.gold.length r3) (Aq q X.gold)/\fD wr b1 (slice a6 st.length r6) st/\fB wr b1 (slice a8 rE.length r8) rE):=by
   have hg:=jm KR;have hz:=BR.out;rw[yH] at hz;have ho:=hz.ow (base:=b1) (cap:=r3) GG.1 (by rw[kD];exact CP.1.1) CP.1.2.1 (by rw[kD];exact CP.1.2.2);rw[kD] at ho;exact⟨bJ O9.1 hg (λb h1 h2=>DD.2.1 b h1 h2),bJ O9.2.1 hg (λb h1 h2=>DD.2.2.2.2.1 b h1 h2),ho,bJ O9.2.2.2.1 hg (λb h1 h2=>DD.2.2.2.2.2.2.2.1 b h2 (by rw[<-OB.out];exact h1)),bJ O9.2.2.2.2 hg (λb h1 h2=>DD.2.2.2.2.2.2.2.2.1 b h2 (by rw[<-OC.out];exact h1))⟩
  have B10:=aj (B9.gb (jm KR) (λe=>by have:=dQ e;have:=S5.out;have:=GG.out;omega) (λe=>by have:=dQ e;have:=S5.out;have:=GG.out;omega));clear BR KR BK9 X9 R9 B9 O9;have c9:=B10.out.2.1;go_upto_region 15 with fail
  clear c9;generalize wr=w10 at *;have BK10:Hid (∃rs,Bk w10 g2 X.os rs/\X.os.length+rs.size=r2):=by
   rcases O10.2.1.bk with⟨h,-⟩|⟨g,cp,rs,h,-,-,-,hz,hbk⟩
   ·cases h
   ·injection h with h1 h2 h3
    injection h1 with h1
    injection h1 with h1
    subst h1;subst h3;exact⟨rs,hbk,hz⟩
  obtain⟨rs,hbk,hz⟩:=BK10;have BK10:=aj (dJ (hbk) (hz));clear hbk hz;go_loopw [53] (λv53 V=>∃n:Nat,v53=int i64 (n:Nat)/\n<=X.gs.length/\Bk V g2 (iD s n X.os) rs/\Kp g2 w10 V) (λv53 _=>X.gs.length-(intOf v53).toNat)
  case atStart=>exact⟨0,rfl,aZ _,by rw[wB];exact BK10.1,Kp.refl _ _⟩
  case round=>
   obtain⟨n,rfl,hn,hbk,hkp⟩:=hrel;have BR:=aj (hbk);have KR:=aj (hkp);have X11:=aj (XR.kp hkp (by have:=GG.out.2.2.1;have:=BS.out.1;omega));have R11:=aj (RR.gb (jm hkp) (λb hb=>.inr (by have:=dQ hb;have:=GG.out.2.2.1;have:=BS.out.1;omega)));have B11:=aj (B10.gb (jm hkp) (λe=>by have:=dQ e;have:=S5.out;have:=GG.out;omega) (λe=>by have:=dQ e;have:=S5.out;have:=GG.out;omega));clear hbk hkp;by_cases h0:n=X.gs.length
   case neg=>
    have hnl:n<X.gs.length:=by omega
    have hni:((n:Nat):Int)<(X.gs.length:Nat):=by omega
    have hno:((n:Nat):Int)<(X.os.length:Nat):=by have:=GD.out.2.2.1;omega
    have HN:=aj (hnl);have WN:IntKind.i64.wrap ((n:Nat)+1:Int)=((n:Nat):Int)+1:=by have:=GD.out.2.1;rw[IntKind.wrap_i64];omega
    have cb:=B11.1.cell (Kv ks Wn X p hnl);have SQ:=QQ.2 n;obtain⟨-,-,-,-,-,x5,-,-,-⟩:=X11.cells;obtain⟨t,ht⟩:∃t,jW ks Wn X.gs X.us p n=t:=⟨_,rfl⟩;rw[ht] at cb SQ;clear ht;cases t with
    |true=>
     have NX:Hid (iD s (n+1) X.os=iD s n X.os):=Dy _ SQ;clear SQ;go_wp2;go_round
     case rel=>exact⟨n+1,by go_num,by have:=HN.out;omega,by rw[NX.out];exact BR,KR⟩
     case measure=>simp[intOf];omega
    |false=>
     have NX:Hid (iD s (n+1) X.os=(iD s n X.os).set n 0):=yI _ SQ;obtain⟨y,hy⟩:∃y,(iD s n X.os)[n]? =some y:=⟨_,aH (by rw[oM];omega)⟩;have cy:=BR.cell hy;have ty:=BR.thaw n;have KS:Hid (Kp g2 wr (wr.setCell ⟨g2,n,none⟩ (int i64 0))):=Kp.set _ _ _;have BS3:=aj (BR.set n 0 (by rw[oM];omega));clear SQ hy;go_wp2;generalize (wr.setCell _ _)=w12 at *;go_round
     case rel=>exact⟨n+1,by go_num,by have:=HN.out;omega,by rw[NX.out];exact BS3,KR.trans KS⟩
     case measure=>simp[intOf];omega
   subst h0;have O11:Hid (Ow wr b1 (slice a1 X.gs.length r1) X.gs/\Ow wr b1 (slice (some ⟨g2,0,none⟩) X.os.length r2) (Aq s X.os)/\Ow wr b1 (slice (some ⟨g3,0,none⟩) X.gold.length r3) (Aq q X.gold)/\fD wr b1 (slice a6 st.length r6) st/\fB wr b1 (slice a8 rE.length r8) rE):=by
    have hg:=jm KR;have hz:=BR.out;rw[<-GD.out.2.2.1,yH] at hz;have ho:=hz.ow (base:=b1) (cap:=r2) GG.2.2.1 (by rw[kD];exact CP.2.1) CP.2.2.1 (by rw[kD];exact BK10.2);rw[kD] at ho;exact⟨bJ O10.1 hg (λb h1 h2=>DD.1 b h1 h2),ho,bJ O10.2.2.1 hg (λb h1 h2=>DD.2.2.2.2.1 b h2 h1),bJ O10.2.2.2.1 hg (λb h1 h2=>DD.2.2.2.2.2.1 b h2 (by rw[<-OB.out];exact h1)),bJ O10.2.2.2.2 hg (λb h1 h2=>DD.2.2.2.2.2.2.1 b h2 (by rw[<-OC.out];exact h1))⟩
   clear BR KR BK10 XR RR B10 O10;obtain⟨x0,x1,x2,x3,x4,x5,x6,x7,x8⟩:=X11.cells;have zz:=R11.2.1.cells;obtain⟨t0,t1,t2,t3,t4,t5,t6,t7,t8⟩:=R11.2.1.cO;have KZ:=aj (dG wr (w.heap.size+1+1) (int i64 X.turn) (int i64 X.next) (int i64 X.wide) (int i64 X.high) (slice a1 X.gs.length r1) (slice (some ⟨g2,0,none⟩) X.os.length r2) (slice (some ⟨g3,0,none⟩) X.gold.length r3) (slice a6 st.length r6) (slice a8 rE.length r8));have yy:=(R11.2.1.put (int i64 X.turn) (int i64 X.next) (int i64 X.wide) (int i64 X.high) (slice a1 X.gs.length r1) (slice (some ⟨g2,0,none⟩) X.os.length r2) (slice (some ⟨g3,0,none⟩) X.gold.length r3) (slice a6 st.length r6) (slice a8 rE.length r8)).cells;go_wp2;clear x0 x1 x2 x3 x4 x5 x6 x7 x8 zz t0 t1 t2 t3 t4 t5 t6 t7 t8;generalize World.setCell _ _ _=wz at *;refine bodyPost_ret (v:=.tuple #[.agg #[int i64 X.turn,int i64 X.next,int i64 X.wide,int i64 X.high,slice a1 X.gs.length r1,slice (some ⟨g2,0,none⟩) X.os.length r2,slice (some ⟨g3,0,none⟩) X.gold.length r3,slice a6 st.length r6,slice a8 rE.length r8],.nilIface]) (by simp[results,results25,go_sem,yy]) rfl ⟨_,_,rfl,by rw[FW.out];exact Er.nil,.inr ⟨FW,Wn,GD.1,?_⟩,KZ.below R11.2.2 R11.2.2.size (by omega)⟩;have h:=BS.out.1;rw[FO.out];exact⟨_,_,_,_,_,rfl,(O11.1.kp KZ (by omega)).mono (by omega),(O11.2.1.kp KZ (by omega)).mono (by omega),(O11.2.2.1.kp KZ (by omega)).mono (by omega),(O11.2.2.2.1.kp KZ (by omega)).mono (by omega),(O11.2.2.2.2.kp KZ (by omega)).mono (by omega)⟩
theorem DT(v:Value)(W:WV)(w:World)(h:Wl w v W)(hs:mJ W):
  Calls prog 56 #[v] w λe w'=>∃u,e=.returned u/\Ow w' (w.heap.size+2) u (Wd.nums W)/\Below w.heap.size w w':=by
 have H:=aj (h);have S:=aj (hs);obtain⟨u1,u2,u3,u4,u5,rfl,h1,h2,h3,h4,h5⟩:=h;obtain⟨a1,k1,rfl,-⟩:=h1;obtain⟨a2,k2,rfl,-⟩:=h2;obtain⟨a3,k3,rfl,-⟩:=h3;obtain⟨a4,k4,rfl,-⟩:=h4;obtain⟨a5,k5,rfl,-⟩:=h5;clear hs;go_enter func56,ntmps56;go_wp2;have N0:Hid (Nm1 w W (slice a1 W.gs.length k1) (slice a2 W.os.length k2) (slice a3 W.gold.length k3) (slice a4 W.us.length k4) (slice a5 W.qs.length k5) (w.heap.size+1+1+1) (slice (some ⟨w.heap.size+1+1,0,none⟩) 4 4) (iP W 0) ((((w.alloc (cells #[int i64 W.turn,int i64 W.next,int i64 W.wide,int i64 W.high,slice a1 W.gs.length k1,slice a2 W.os.length k2,slice a3 W.gold.length k3,slice a4 W.us.length k4,slice a5 W.qs.length k5] 29)).alloc (cells #[int i64 W.wide,int i64 W.high,slice a1 W.gs.length k1,slice a2 W.os.length k2] 25)).alloc (cells #[int i64 W.turn,int i64 W.next,int i64 W.wide,int i64 W.high] 3)).alloc (cells #[slice a1 W.gs.length k1,slice a2 W.os.length k2,slice a3 W.gold.length k3] 23))):=by
  refine⟨?_,by simp[Value.ownBlock],(Bw.mk' W _ _ _ _ _ rfl).below (((aB.alloc (by simp) _).alloc (by simp) _).alloc (by simp) _) (fC _),bD (by simp) rfl,bD (by simp) rfl,bD (by simp) rfl,?_⟩
  ·refine World.ownsRow.alloc ?_ _
   have e:w.heap.size+1+1=((w.alloc (cells #[int i64 W.turn,int i64 W.next,int i64 W.wide,int i64 W.high,slice a1 W.gs.length k1,slice a2 W.os.length k2,slice a3 W.gold.length k3,slice a4 W.us.length k4,slice a5 W.qs.length k5] 29)).alloc (cells #[int i64 W.wide,int i64 W.high,slice a1 W.gs.length k1,slice a2 W.os.length k2] 25)).heap.size:=by simp
   rw[e];exact World.ownsRow_lit _ _ 4 (by simp) (by unfold maxLen;omega) rfl
  ·exact((aA.alloc (by simp) _).alloc (by simp;omega) _).alloc (by simp;omega) _
 generalize ((((w.alloc _).alloc _).alloc _).alloc _)=w3 at *;generalize hzl:w.heap.size+1+1+1=zl at *;have HZ:Hid (w.heap.size+3=zl):=hzl;clear hzl;go_loopw [4,30] (λlv iv W'=>∃k:Nat,k<=3/\iv=int i64 (k:Nat)/\Nm1 w W (slice a1 W.gs.length k1) (slice a2 W.os.length k2) (slice a3 W.gold.length k3) (slice a4 W.us.length k4) (slice a5 W.qs.length k5) zl lv (iP W k) W') (λ_ iv _=>3-(intOf iv).toNat)
 case atStart=>exact⟨0,by omega,rfl,N0⟩
 case round=>
  obtain⟨k,hk,rfl,hn⟩:=hrel;have N:=aj (hn);clear hn N0;have SZ:Hid (w.heap.size+2<=wr.heap.size):=by
   unfold Hid;have h1:=HZ.out;have h2:=cell_lt N.c0;simp only at h2;omega
  by_cases hk3:k=3
  ·subst hk3
   have c7:=N.b.c7;clear hk;go_wp2_with (at_builtin;refine gG _ rfl _ _ rfl _ _ _ rfl (N.o.alloc _) _ (W.us.length:Nat) rfl (by simp) (by have:=jc S 3;omega) (by have:=SZ.out;simp;omega) ?_);intro g cap w5 o5 g5 q5 l5;have N5:Hid (Nm1 w W _ _ _ _ _ zl _ (nO W 0) w5):=N.step aA g5 o5 (uh (by simpa using q5));clear o5 g5 q5 l5 c7 N SZ;have c7:=N5.b.c7;go_wp2;clear c7;go_loopw [4,52] (λlv iv W'=>∃k:Nat,k<=W.us.length/\iv=int i64 (k:Nat)/\Nm1 w W (slice a1 W.gs.length k1) (slice a2 W.os.length k2) (slice a3 W.gold.length k3) (slice a4 W.us.length k4) (slice a5 W.qs.length k5) zl lv (nO W k) W') (λ_ iv _=>W.us.length-(intOf iv).toNat)
   case atStart=>exact⟨0,aZ _,rfl,N5⟩
   case round=>
    obtain⟨k,hk,rfl,hn⟩:=hrel;have N:=aj (hn);have SZ:Hid (w.heap.size+2<=wr.heap.size):=by
     unfold Hid;have h1:=HZ.out;have h2:=cell_lt N.c0;simp only at h2;omega
    clear hn N5;by_cases hkl:k=W.us.length
    ·have hki:(k:Int)=(W.us.length:Int):=by omega
     have ho:=N.o;rw[hkl] at ho;have N':Hid (Nm1 w W (slice a1 W.gs.length k1) (slice a2 W.os.length k2) (slice a3 W.gold.length k3) (slice a4 W.us.length k4) (slice a5 W.qs.length k5) zl u4 (nO W W.us.length) wr):=by have:=N.out;rwa[hkl] at this
     subst hkl;have c8:=N'.b.c8;clear hk ho hki;go_wp2_with (at_builtin;refine gG _ rfl _ _ rfl _ _ _ rfl (N'.o.alloc _) _ (W.qs.length:Nat) rfl (by simp) (by have:=rM S W.us.length;omega) (by have:=SZ.out;simp;omega) ?_);intro g cap w5 o5 g5 q5 l5;have N5:Hid (Nm1 w W _ _ _ _ _ zl _ (oV W 0) w5):=N'.step aA g5 o5 (uh (by simpa using q5));clear o5 g5 q5 l5 c8 N N' SZ;have c8:=N5.b.c8;go_wp2;clear c8;go_loopw [4,85] (λlv iv W'=>∃k:Nat,k<=W.qs.length/\iv=int i64 (k:Nat)/\Nm1 w W (slice a1 W.gs.length k1) (slice a2 W.os.length k2) (slice a3 W.gold.length k3) (slice a4 W.us.length k4) (slice a5 W.qs.length k5) zl lv (oV W k) W') (λ_ iv _=>W.qs.length-(intOf iv).toNat)
     case atStart=>exact⟨0,aZ _,rfl,N5⟩
     case round=>
      obtain⟨k,hk,rfl,hn⟩:=hrel;have N:=aj (hn);have SZ:Hid (w.heap.size+2<=wr.heap.size):=by
       unfold Hid;have h1:=HZ.out;have h2:=cell_lt N.c0;simp only at h2;omega
      clear hn N5;by_cases hkl:k=W.qs.length
      ·subst hkl
       clear hk;go_wp2;go_ret;exact⟨_,rfl,by have:=N.o;rwa[xB] at this,N.bl⟩
      ·have hlt:k<W.qs.length:=by omega
       have hli:(k:Int)<(W.qs.length:Int):=by omega
       have hq:=S.q;obtain⟨j,hj⟩:∃j,W.qs[k]? =some j:=⟨_,aH hlt⟩;obtain⟨-,-,-,-,b,c,e,-,-,hc⟩:=(H.below N.bl).slices;injection e with e1 e2 e3
       subst e1 e3;obtain⟨x,rfl,hx,hcell⟩:=hc (by intro e;rw[e] at hlt;simp at hlt);obtain⟨d0,d1,d2,d3⟩:=hcell k j hj;have NX:=aj (ET hj);clear hc hcell hx hj hkl;go_wp2_with (at_builtin;refine mG _ rfl _ _ rfl _ _ _ rfl ((N.o.alloc _).alloc _) _ _ rfl (Ro.lit (Wd.iO j) _ rfl (by simp[Wd.iO]) (by simp)) (by have:=xC S k;simp[Wd.iO];omega) (by have:=SZ.out;simp;omega) ?_);intro v6 w6 o6 g6 q6;have N6:Hid (Nm1 w W _ _ _ _ _ zl v6 (oV W (k+1)) w6):=N.step (aA.alloc (by simp) _) g6 (by rw[NX.out];exact o6) (by simpa using q6);clear o6 g6 q6;go_wp2;go_roundw
       case rel=>exact⟨k+1,by omega,rfl,N6⟩
       case measure=>simp[intOf];omega
    ·have hlt:k<W.us.length:=by omega
     have hli:(k:Int)<(W.us.length:Int):=by omega
     have hq:=S.u;obtain⟨j,hj⟩:∃j,W.us[k]? =some j:=⟨_,aH hlt⟩;obtain⟨-,-,-,⟨b,c,e,-,-,hc⟩,-⟩:=(H.below N.bl).slices;injection e with e1 e2 e3
     subst e1 e3;obtain⟨x,rfl,hx,hcell⟩:=hc (by intro e;rw[e] at hlt;simp at hlt);obtain⟨d0,d1,d2,d3,d4,d5,d6,d7⟩:=hcell k j hj;have NX:=aj (ES hj);clear hc hcell hx hj hkl;go_wp2_with (at_builtin;refine mG _ rfl _ _ rfl _ _ _ rfl ((N.o.alloc _).alloc _) _ _ rfl (Ro.lit (Wd.iM j) _ rfl (by simp[Wd.iM]) (by simp)) (by have:=rM S k;simp[Wd.iM];omega) (by have:=SZ.out;simp;omega) ?_);intro v6 w6 o6 g6 q6;have N6:Hid (Nm1 w W _ _ _ _ _ zl v6 (nO W (k+1)) w6):=N.step (aA.alloc (by simp) _) g6 (by rw[NX.out];exact o6) (by simpa using q6);clear o6 g6 q6;go_wp2;go_roundw
     case rel=>exact⟨k+1,by omega,rfl,N6⟩
     case measure=>simp[intOf];omega
  ·have hk':k=0\/k=1\/k=2:=by omega
   clear hk hk3;rcases hk' with rfl|rfl|rfl
   ·have ck:=N.c0
    go_wp2_with (at_builtin;refine gG _ rfl _ _ rfl _ _ _ rfl (N.o.alloc _) _ (W.gs.length:Nat) rfl (by simp) (by have:=jc S 0;omega) (by have:=SZ.out;simp;omega) ?_);intro g cap w5 o5 g5 q5 l5;obtain⟨L,hL⟩:∃L,iP W 0++[(W.gs.length:Int)]=L:=⟨_,rfl⟩;rw[hL] at o5;have N5:=aj (N.step aA g5 o5 (uh (by simpa using q5)));have S5:Hid (w.heap.size+2<=w5.heap.size):=by have:=SZ.out;have:=g5.size;simp at this;unfold Hid;omega
    have R5:=aj ((H.below N5.bl).slices.1);have HL:Hid (L++W.gs=iP W 1/\L.length<=5000000):=⟨by rw[<-hL];simp[iP],by have:=jc S 0;rw[<-hL,aC];simp;omega⟩;clear o5 g5 q5 l5 hL ck;go_wp2_with (at_builtin;refine mG _ rfl _ _ rfl _ _ L rfl N5.o _ W.gs rfl R5 (by have:=HL.out.2;have:=S.g;omega) (by have:=S5.out;omega) ?_);intro v6 w6 o6 g6 q6;have N6:Hid (Nm1 w W _ _ _ _ _ zl v6 (iP W 1) w6):=N5.step aB g6 (by rw[<-HL.out.1];exact o6) q6;clear o6 g6 q6;go_wp2;go_roundw
    case rel=>exact⟨1,by omega,rfl,N6⟩
    case measure=>simp[intOf]
   ·have ck:=N.c1
    go_wp2_with (at_builtin;refine gG _ rfl _ _ rfl _ _ _ rfl (N.o.alloc _) _ (W.os.length:Nat) rfl (by simp) (by have:=jc S 1;omega) (by have:=SZ.out;simp;omega) ?_);intro g cap w5 o5 g5 q5 l5;obtain⟨L,hL⟩:∃L,iP W 1++[(W.os.length:Int)]=L:=⟨_,rfl⟩;rw[hL] at o5;have N5:=aj (N.step aA g5 o5 (uh (by simpa using q5)));have S5:Hid (w.heap.size+2<=w5.heap.size):=by have:=SZ.out;have:=g5.size;simp at this;unfold Hid;omega
    have R5:=aj ((H.below N5.bl).slices.2.1);have HL:Hid (L++W.os=iP W 2/\L.length<=5000000):=⟨by rw[<-hL];simp[iP],by have:=jc S 1;rw[<-hL,aC];simp;omega⟩;clear o5 g5 q5 l5 hL ck;go_wp2_with (at_builtin;refine mG _ rfl _ _ rfl _ _ L rfl N5.o _ W.os rfl R5 (by have:=HL.out.2;have:=S.o;omega) (by have:=S5.out;omega) ?_);intro v6 w6 o6 g6 q6;have N6:Hid (Nm1 w W _ _ _ _ _ zl v6 (iP W 2) w6):=N5.step aB g6 (by rw[<-HL.out.1];exact o6) q6;clear o6 g6 q6;go_wp2;go_roundw
    case rel=>exact⟨2,by omega,rfl,N6⟩
    case measure=>simp[intOf]
   ·have ck:=N.c2
    go_wp2_with (at_builtin;refine gG _ rfl _ _ rfl _ _ _ rfl (N.o.alloc _) _ (W.gold.length:Nat) rfl (by simp) (by have:=jc S 2;omega) (by have:=SZ.out;simp;omega) ?_);intro g cap w5 o5 g5 q5 l5;obtain⟨L,hL⟩:∃L,iP W 2++[(W.gold.length:Int)]=L:=⟨_,rfl⟩;rw[hL] at o5;have N5:=aj (N.step aA g5 o5 (uh (by simpa using q5)));have S5:Hid (w.heap.size+2<=w5.heap.size):=by have:=SZ.out;have:=g5.size;simp at this;unfold Hid;omega
    have R5:=aj ((H.below N5.bl).slices.2.2.1);have HL:Hid (L++W.gold=iP W 3/\L.length<=5000000):=⟨by rw[<-hL];simp[iP],by have:=jc S 2;rw[<-hL,aC];simp;omega⟩;clear o5 g5 q5 l5 hL ck;go_wp2_with (at_builtin;refine mG _ rfl _ _ rfl _ _ L rfl N5.o _ W.gold rfl R5 (by have:=HL.out.2;have:=S.p;omega) (by have:=S5.out;omega) ?_);intro v6 w6 o6 g6 q6;have N6:Hid (Nm1 w W _ _ _ _ _ zl v6 (iP W 3) w6):=N5.step aB g6 (by rw[<-HL.out.1];exact o6) q6;clear o6 g6 q6;go_wp2;go_roundw
    case rel=>exact⟨3,by omega,rfl,N6⟩
    case measure=>simp[intOf]
theorem qg(v:Value)(W:WV)(w:World)(h:Wl w v W)(hs:mJ W)(hi:∀n∈Wd.nums W,Wd.In64 n):
  Calls prog 26 #[v] w λe w'=>∃u,e=.returned u/\Ob w' w.heap.size u (Wd.enc W)/\Below w.heap.size w w':=by
 have H:Hid (Wl w v W):=h;have S:Hid (mJ W):=hs;have I:Hid (∀n∈Wd.nums W,Wd.In64 n):=hi;obtain⟨u1,u2,u3,u4,u5,rfl,h1,h2,h3,h4,h5⟩:=h;clear h1 h2 h3 h4 h5 hs hi;go_enter func26,ntmps26;go_wp2_with fail
 have B0:Hid (Below w.heap.size w (w.alloc (cells #[int i64 W.turn,int i64 W.next,int i64 W.wide,int i64 W.high,u1,u2,u3,u4,u5] 29))):=aA;generalize w.alloc (cells #[int i64 W.turn,int i64 W.next,int i64 W.wide,int i64 W.high,u1,u2,u3,u4,u5] 29)=w0 at *;refine(DT _ W w0 (H.below B0) S).mono ?_;rintro e w1 ⟨u,rfl,ho,hb⟩;have O:Hid (Ow w1 (w0.heap.size+2) u (Wd.nums W)):=ho;have B1:Hid (Below w.heap.size w w1):=B0.trans (hb.mono B0.size);clear ho hb;go_wp2_with fail
 have L:(Wd.nums W).length<=100000000:=by rw[<-xB];have:=xC S W.qs.length;omega
 refine(write_any _ (Wd.nums W) w1 O.ro I L).mono ?_;rintro e w2 ⟨b,rfl,ho,hb⟩;have F:Hid (Ob w2 w.heap.size b (Wd.enc W)/\Below w.heap.size w w2):=by
  refine⟨⟨ho.1,?_⟩,B1.trans (hb.mono B1.size)⟩;rcases ho.2 with h1|⟨g,cap,cur,h1,h2,h3⟩
  ·exact .inl h1
  ·exact .inr ⟨g,cap,cur,h1,aJ B1.size h2,h3⟩
 clear ho hb L;go_wp2;go_ret;exact⟨_,rfl,F.1,F.2⟩
structure gW where
 at_:Int
 old:Int
 new:Int
def gW.val(k:gW):Value:=.agg #[int i64 k.at_,int i64 k.old,int i64 k.new]
structure UR(w:World)(y:Addr)(k:gW):Prop where
 c0:w.cell? y=some (int i64 k.at_)
 c1:w.cell? ⟨y.block,y.off+1,none⟩=some (int i64 k.old)
 c2:w.cell? ⟨y.block,y.off+2,none⟩=some (int i64 k.new)
theorem UR.lt{k:gW}(h:UR w y k):y.block<w.heap.size:=cell_lt h.c0
theorem UR.below{k:gW}(h:UR w y k)(hb:Below B w w')(hy:y.block<B):UR w' y k:=
 ⟨by rw[hb.cell (p:=y) hy];exact h.c0,by rw[hb.cell (p:=⟨y.block,y.off+1,none⟩) hy];exact h.c1,by rw[hb.cell (p:=⟨y.block,y.off+2,none⟩) hy];exact h.c2⟩
def VK(w:World)(v:Value)(ks:List gW):Prop:=∃a c,v=slice a ks.length c/\ks.length<=c/\c<=9223372036854775807/\(ks≠[]->∃x,a=some x/\x.block<w.heap.size/\∀(i:Nat) k,ks[i]? =some k->UR w (x.add (i*3)) k)
theorem VK.below{ks:List gW}(h:VK w v ks)(hb:Below w.heap.size w w'):VK w' v ks:=by
 obtain⟨a,c,h1,h2,h3,h4⟩:=h;refine⟨a,c,h1,h2,h3,λhn=>?_⟩;obtain⟨x,e,hx,hk⟩:=h4 hn;exact⟨x,e,fE hx hb.size,λi k hi=>(hk i k hi).below hb (by rw[add_block];exact hx)⟩
theorem UR.mk'(k:gW)(hz:w.heap.size=z):UR (w.alloc (.cells #[int i64 k.at_,int i64 k.old,int i64 k.new] 117)) ⟨z,0,none⟩ k:=by
 subst hz;constructor<;>simp
end
section
variable {a b:List UInt8} {base i n:Nat} {ks:List gW} {v:Value} {w w':World}
namespace Fe
def mD(l:List UInt8)(i:Nat):Int:=match l[i]? with
 |some d=>(d.toNat:Int)
 |none=> -1
theorem UY{l:List UInt8}{d:UInt8}(h:l[i]? =some d):mD l i=(d.toNat:Int):=by unfold mD;rw[h]
theorem tX{l:List UInt8}(h:l.length<=i):mD l i= -1:=by unfold mD;rw[List.getElem?_eq_none h]
theorem qh(l:List UInt8)(i:Nat): -1<=mD l i/\mD l i<=255:=by
 unfold mD;split
 ·rename_i d _
  have:=d.toNat_lt;omega
 ·omega
def one(a b:List UInt8)(i:Nat):List gW:=if mD a i=mD b i then[] else[⟨i,mD a i,mD b i⟩]
def dif(a b:List UInt8):Nat->List gW
 |0=>[]
 |n+1=>dif a b n++one a b n
theorem qX(a b:List UInt8):∀n,(dif a b n).length<=n
 |0=>by simp[dif]
 |n+1=>by
  have:=qX a b n;unfold dif one;rw[aC];split<;>simp<;>omega
theorem wG(h:mD a n=mD b n):dif a b (n+1)=dif a b n:=by rw[dif,one,if_pos h,iK]
theorem wH(h:mD a n≠mD b n):dif a b (n+1)=dif a b n++[⟨n,mD a n,mD b n⟩]:=by rw[dif,one,if_neg h]
def diff(a b:List UInt8):List gW:=dif a b (max a.length b.length)
end Fe
open Go.RowKit
theorem Yt:(prog.info? 117).map (λi=>(i.zero,i.size,i.bytes))=some (some (.agg #[int i64 0,int i64 0,int i64 0]),3,24):=by kernel_rfl
def gW.cs(k:gW):List Value:=[int i64 k.at_,int i64 k.old,int i64 k.new]
theorem Kw:∀(ks:List gW) (i j:Nat) (k:gW),ks[i]? =some k->j<3->(ks.flatMap gW.cs)[i*3+j]? =k.cs[j]?
 |[],i,j,k,h,_=>by simp at h
 |x::ks,0,j,k,h,hj=>by
  simp at h;subst h;rw[List.flatMap_cons,iV (by simp[gW.cs];omega)];simp
 |x::ks,i+1,j,k,h,hj=>by
  rw[List.flatMap_cons,jy (by simp[gW.cs];omega)];have:(i+1)*3+j-(gW.cs x).length=i*3+j:=by simp[gW.cs];omega
  rw[this];exact Kw ks i j k (by simpa using h) hj
def nK(w:World)(base:Nat)(v:Value)(ks:List gW):Prop:=w.ownsRow base 117 3 v ks.length (ks.flatMap gW.cs)
theorem nK.nil(w:World)(base:Nat):nK w base (slice none 0 0) []:=World.ownsRow_nil _ _ _ _
theorem nK.below(h:nK w base v ks)(hb:Below w.heap.size w w'):nK w' base v ks:=
 World.ownsRow.kept h (row:=none) ⟨hb.os,hb.tape,hb.output,hb.size,λk hk _=>hb.block k hk⟩ (by cases v.ownBlock<;>simp)
theorem nK.kept{row:Option Nat}(h:nK w base v ks)(hg:w.grownBy w' row)(hne:v.ownBlock=none\/v.ownBlock≠row):nK w' base v ks:=World.ownsRow.kept h hg hne
theorem nK.alloc(h:nK w base v ks)(o:Obj):nK (w.alloc o) base v ks:=World.ownsRow.alloc h o
theorem nK.block(h:nK w base v ks):∀k,v.ownBlock=some k->base<=k/\k<w.heap.size:=World.ownsRow.lt h
theorem nK.mono{base':Nat}(h:nK w base v ks)(hb:base'<=base):nK w base' v ks:=by
 refine⟨h.1,?_⟩;rcases h.2 with h1|⟨g,cap,cur,h1,h2,h3⟩
 ·exact .inl h1
 ·exact .inr ⟨g,cap,cur,h1,aJ hb h2,h3⟩
theorem nK.l(h:nK w base v ks):VK w v ks:=by
 rcases h.2 with⟨hv,h0⟩|⟨g,cap,cur,hv,hb,hg,h1,h2,h3,h4⟩
 ·exact⟨none,0,by rw[hv,h0],by omega,by omega,λhn=>absurd (List.length_eq_zero_iff.1 h0) hn⟩
 ·refine⟨_,cap,hv,h1,by unfold maxLen at h2;omega,λ_=>⟨_,rfl,lt_of_block hg,λi k hi=>?_⟩⟩
  have hil:i<ks.length:=(aK.1 hi).1;have h5:w.ownsRow base 117 3 (slice (some ⟨g,0,none⟩) ks.length cap) ks.length (ks.flatMap gW.cs):=by rw[<-hv];exact h
  have hc:∀j u,j<3->k.cs[j]? =some u->w.cell? ⟨g,i*3+j,none⟩=some u:=λj u hj hu=>by
   rw[h5.cellAt (i*3+j) (by omega),Kw ks i j k hi hj,hu]
  rw[Addr.add_lit,aO];exact⟨hc 0 _ (by decide) rfl,hc 1 _ (by decide) rfl,hc 2 _ (by decide) rfl⟩
theorem nK.len(h:nK w base v ks):∃a c,v=slice a ks.length c:=by
 obtain⟨a,c,h1,-⟩:=h.l;exact⟨a,c,h1⟩
theorem U_{ops:Array Oper}{rest:List Oper}{o:Oper}{a:Act}{Q:Exit->Act->World->Prop}(w:World)(hgd:o.guard=none)(s x:Operand)
  (ho:o.op=.call {callee:=.builtin .append,args:= #[s,x],argTypes:= #[62,62]}) (base:Nat) (v:Value) (ks:List gW) (hs:a.eval s=v) (hown:nK w base v ks)
  (b:Nat) (d:gW) (hx:a.eval x=slice (some ⟨b,0,none⟩) 1 1) (hd:UR w ⟨b,0,none⟩ d) (hl:ks.length<=1000000) (hbase:base<=w.heap.size)
  (h:∀g cap w',nK w' base (slice (some ⟨g,0,none⟩) (ks.length+1) cap) (ks++[d])->w.grownBy w' v.ownBlock->(v.ownBlock=some g\/g=w.heap.size)->g<w'.heap.size->wpList prog ops Q rest (a.put o.dst (slice (some ⟨g,0,none⟩) (ks.length+1) cap)) w'):
  wpList prog ops Q (o::rest) a w:=by
 obtain⟨i0,hi,hz0,hz1,hz2⟩:=info_parts Yt;refine wpList_append_lies w hgd s x 62 ho base 117 i0 (.agg #[int i64 0,int i64 0,int i64 0]) 3 24 underlying62 hi hz0 hz1 hz2 rfl (by decide) v ks.length _ hs hown ⟨b,0,none⟩ 1 1 d.cs hx rfl ?_ ?_ (by decide) (by unfold maxLen;omega) (by omega) hbase _ rfl ?_
 ·intro j u hj
  have hjn:j<3:=(aK.1 hj).1;rw[Addr.add_lit,aO]
  match j,hjn,hj with
  |0,_,hj=>simp[gW.cs] at hj;subst hj;exact hd.c0
  |1,_,hj=>simp[gW.cs] at hj;subst hj;exact hd.c1
  |2,_,hj=>simp[gW.cs] at hj;subst hj;exact hd.c2
 ·intro u hu
  simp[gW.cs] at hu;rcases hu with rfl|rfl|rfl<;>rfl
 ·intro g cap w' h1 h2 h3 h4
  refine h g cap w' ?_ h2 h3 h4;unfold nK;rw[aC,fM];simpa using h1
end
end Go.Proofs.YtolfphmdmpehdaaGreatDoor
