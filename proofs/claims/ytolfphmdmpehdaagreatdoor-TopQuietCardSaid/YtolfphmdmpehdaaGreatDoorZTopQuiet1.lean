/- What is hidden from the walk: of a fact the same fact, whose words the fact itself tells; facts in a row. And more. -/
import Derived.Test.YtolfphmdmpehdaaGreatDoorRows
import Derived.WalkSpells
import Derived.WalkLawsBesides
import Derived.ProofKit
import Derived.BigQuiet
import Derived.Deep.AppendLies
import Derived.Laws.AppendOwnNone
import Derived.StillTail
import Derived.Deep.DeepCutAuto
set_option linter.unusedVariables false
set_option maxHeartbeats 16000000
set_option maxRecDepth 100000
open Go.Value (int slice)
open Go.IntKind (i64)
namespace Go.Proofs.YtolfphmdmpehdaaGreatDoor
theorem aj{p:Prop}(h:p):Go.RowKit.Hid p:=h
theorem eU{p0 p1:Prop}(h0:p0)(h1:p1):p0/\p1:=⟨h0,h1⟩
theorem iG{p0 p1 p2:Prop}(h0:p0)(h1:p1)(h2:p2):p0/\p1/\p2:=⟨h0,h1,h2⟩
theorem jD{p0 p1 p2 p3:Prop}(h0:p0)(h1:p1)(h2:p2)(h3:p3):p0/\p1/\p2/\p3:=⟨h0,h1,h2,h3⟩
theorem fK{p0 p1 p2 p3 p4:Prop}(h0:p0)(h1:p1)(h2:p2)(h3:p3)(h4:p4):p0/\p1/\p2/\p3/\p4:=⟨h0,h1,h2,h3,h4⟩
theorem uG{p0 p1 p2 p3 p4 p5:Prop}(h0:p0)(h1:p1)(h2:p2)(h3:p3)(h4:p4)(h5:p5):p0/\p1/\p2/\p3/\p4/\p5:=⟨h0,h1,h2,h3,h4,h5⟩
theorem Fe{p0 p1 p2 p3 p4 p5 p6:Prop}(h0:p0)(h1:p1)(h2:p2)(h3:p3)(h4:p4)(h5:p5)(h6:p6):p0/\p1/\p2/\p3/\p4/\p5/\p6:=⟨h0,h1,h2,h3,h4,h5,h6⟩
theorem Oz{p0 p1 p2 p3 p4 p5 p6 p7:Prop}(h0:p0)(h1:p1)(h2:p2)(h3:p3)(h4:p4)(h5:p5)(h6:p6)(h7:p7):p0/\p1/\p2/\p3/\p4/\p5/\p6/\p7:=⟨h0,h1,h2,h3,h4,h5,h6,h7⟩
namespace Wd
def zz(n:Int):Nat:=if n<0 then((-(n+1)).toNat)*2+1 else n.toNat*2
def In64(n:Int):Prop:= -9223372036854775808<=n/\n<=9223372036854775807
def vl(x:Nat):List UInt8:=if h:x<128 then[UInt8.ofNat x] else UInt8.ofNat (x%128+128)::vl (x/128)
termination_by x
def num(n:Int):List UInt8:=vl (zz n)
abbrev Pr (α:Type):=Nat->Option (α×Nat)
end Wd
namespace Wd
def wr(l:List Int):List UInt8:=l.flatMap num
end Wd
open Go.RowKit
structure Kp(z:Nat)(w w':World):Prop where
 os:w'.os=w.os
 tape:w'.tape=w.tape
 output:w'.output=w.output
 size:w.heap.size<=w'.heap.size
 block:∀k,k<w.heap.size->k≠z->w'.heap[k]? =w.heap[k]?
theorem Kp.of{z:Nat}{w w':World}(h:Below w.heap.size w w'):Kp z w w':=⟨h.os,h.tape,h.output,h.size,λk hk _=>h.block k hk⟩
theorem Kp.refl(z:Nat)(w:World):Kp z w w:=Kp.of (Below.refl _ _)
theorem Kp.trans{z:Nat}{a b c:World}(h:Kp z a b)(k:Kp z b c):Kp z a c:=
 ⟨k.os.trans h.os,k.tape.trans h.tape,k.output.trans h.output,Nat.le_trans h.size k.size,λi hi hz=>(k.block i (Nat.lt_of_lt_of_le hi h.size) hz).trans (h.block i hi hz)⟩
theorem Kp.set{z:Nat}(w:World)(i:Nat)(u:Value):Kp z w (w.setCell ⟨z,i,none⟩ u):=
 ⟨rfl,rfl,rfl,by simp[World.setCell],λk _ hz=>Below.heap_setCell _ _ _ _ hz⟩
theorem Kp.below{z B:Nat}{a w w':World}(h:Below B a w)(k:Kp z w w')(hB:B<=w.heap.size)(hz:B<=z):Below B a w':=
 h.trans ⟨k.os,k.tape,k.output,k.size,λi hi=>k.block i (by omega) (by omega)⟩
theorem Kp.drewN{z:Nat}{w W:World}(h:Kp z w W)(n:Nat):Kp z w (W.drewN n):=⟨h.os,h.tape,h.output,h.size,h.block⟩
theorem lt_of_block{w:World}{b:Nat}{o:Obj}(h:w.heap[b]? =some o):b<w.heap.size:=by
 rcases Nat.lt_or_ge b w.heap.size with h1|h1
 ·exact h1
 ·rw[Array.getElem?_eq_none h1] at h;cases h
end Go.Proofs.YtolfphmdmpehdaaGreatDoor
namespace Go.Proofs.YtolfphmdmpehdaaGreatDoor
def zM(k:IntKind)(w:World)(a:Option Addr)(len cap:Nat)(zs:List Int):Prop:=
 (a=none/\len=0/\cap=0/\zs=[])\/
 ∃x,a=some x/\len<=cap/\cap<=maxLen/\zs.length=cap/\(∀i,i<zs.length->w.cell? (x.add i)=some (.int k (zs.getD i 0)))/\∀n∈zs,(Lit.int k n).wf=true
open Go.RowKit
def Cells(w:World)(a:Option Addr)(xs:List Int):Prop:=xs≠[]->∃x,a=some x/\x.block<w.heap.size/\∀i d,xs[i]? =some d->w.cell? (x.add i)=some (int i64 d)
def Ro(w:World)(v:Value)(xs:List Int):Prop:=∃(a:Option Addr) (c:Nat),v=slice a xs.length c/\xs.length<=c/\c<=9223372036854775807/\Cells w a xs
theorem cell_lt{w:World}{x:Addr}{v:Value}(h:w.cell? x=some v):x.block<w.heap.size:=by
 rcases Nat.lt_or_ge x.block w.heap.size with h1|h1
 ·exact h1
 ·simp[World.cell?,Array.getElem?_eq_none h1] at h
theorem add_block(x:Addr)(i:Nat):(x.add i).block=x.block:=by unfold Addr.add;split<;>rfl
theorem Cells.below{w w':World}{a:Option Addr}{xs:List Int}(h:Cells w a xs)(hb:Below w.heap.size w w'):Cells w' a xs:=λhx=>by
 obtain⟨x,ha,hl,hc⟩:=h hx;refine⟨x,ha,Nat.lt_of_lt_of_le hl hb.size,λi d hd=>?_⟩;rw[hb.cell (p:=x.add i) (by rw[add_block];exact hl)];exact hc i d hd
theorem Ro.below{w w':World}{v:Value}{xs:List Int}(h:Ro w v xs)(hb:Below w.heap.size w w'):Ro w' v xs:=by
 obtain⟨a,c,h1,h2,h3,h4⟩:=h;exact⟨a,c,h1,h2,h3,h4.below hb⟩
theorem Ro.drewN{w:World}{v:Value}{xs:List Int}(h:Ro w v xs)(n:Nat):Ro (w.drewN n) v xs:=h.below (_root_.Go.below_drewN (Below.refl _ _) n)
theorem zM.ro{w:World}{a:Option Addr}{len cap:Nat}{zs:List Int}(h:zM .i64 w a len cap zs):Ro w (slice a len cap) (zs.take len):=by
 rcases h with⟨rfl,rfl,rfl,rfl⟩|⟨x,rfl,h1,h2,h3,h4,h5⟩
 ·exact⟨none,0,rfl,Nat.le_refl _,by omega,λh=>absurd rfl h⟩
 ·have hl:(zs.take len).length=len:=by rw[List.length_take];omega
  refine⟨some x,cap,by rw[hl],by omega,by unfold maxLen at h2;omega,λhx=>⟨x,rfl,?_,λi d hd=>?_⟩⟩
  ·have h0:0<zs.length:=by
    rcases Nat.eq_zero_or_pos zs.length with h|h
    ·exact absurd (by rw[List.length_eq_zero_iff.1 h];simp) hx
    ·exact h
   have:=cell_lt (x:=x.add 0) (h4 0 h0);rwa[add_block] at this
  ·rw[List.getElem?_take] at hd
   split at hd
   ·obtain⟨hi,he⟩:=List.getElem?_eq_some_iff.1 hd
    rw[h4 i hi,List.getD_eq_getElem?_getD,hd];rfl
   ·cases hd
structure aC where
 id:Int
 aA:Int
 kind:Int
 at_:Int
 life:Int
 load:Int
 task:Int
 goal:Int
def aC.val(k:aC):Value:=.agg #[int i64 k.id,int i64 k.aA,int i64 k.kind,int i64 k.at_,int i64 k.life,int i64 k.load,int i64 k.task,int i64 k.goal]
structure dB(w:World)(y:Addr)(k:aC):Prop where
 c0:w.cell? y=some (int i64 k.id)
 c1:w.cell? ⟨y.block,y.off+1,none⟩=some (int i64 k.aA)
 c2:w.cell? ⟨y.block,y.off+2,none⟩=some (int i64 k.kind)
 c3:w.cell? ⟨y.block,y.off+3,none⟩=some (int i64 k.at_)
 c4:w.cell? ⟨y.block,y.off+4,none⟩=some (int i64 k.life)
 c5:w.cell? ⟨y.block,y.off+5,none⟩=some (int i64 k.load)
 c6:w.cell? ⟨y.block,y.off+6,none⟩=some (int i64 k.task)
 c7:w.cell? ⟨y.block,y.off+7,none⟩=some (int i64 k.goal)
theorem dB.lt{w:World}{y:Addr}{k:aC}(h:dB w y k):y.block<w.heap.size:=cell_lt h.c0
theorem dB.below{w w':World}{y:Addr}{k:aC}{B:Nat}(h:dB w y k)(hb:Below B w w')(hy:y.block<B):dB w' y k:=
 ⟨by rw[hb.cell (p:=y) hy];exact h.c0,by rw[hb.cell (p:=⟨y.block,y.off+1,none⟩) hy];exact h.c1,by rw[hb.cell (p:=⟨y.block,y.off+2,none⟩) hy];exact h.c2,by rw[hb.cell (p:=⟨y.block,y.off+3,none⟩) hy];exact h.c3,by rw[hb.cell (p:=⟨y.block,y.off+4,none⟩) hy];exact h.c4,by rw[hb.cell (p:=⟨y.block,y.off+5,none⟩) hy];exact h.c5,by rw[hb.cell (p:=⟨y.block,y.off+6,none⟩) hy];exact h.c6,by rw[hb.cell (p:=⟨y.block,y.off+7,none⟩) hy];exact h.c7⟩
def jF(w:World)(v:Value)(ks:List aC):Prop:=∃a c,v=slice a ks.length c/\ks.length<=c/\c<=9223372036854775807/\(ks≠[]->∃x,a=some x/\x.block<w.heap.size/\∀(i:Nat) k,ks[i]? =some k->dB w (x.add (i*8)) k)
theorem jF.below{w w':World}{v:Value}{ks:List aC}(h:jF w v ks)(hb:Below w.heap.size w w'):jF w' v ks:=by
 obtain⟨a,c,h1,h2,h3,h4⟩:=h;refine⟨a,c,h1,h2,h3,λhn=>?_⟩;obtain⟨x,e,hx,hk⟩:=h4 hn;exact⟨x,e,Nat.lt_of_lt_of_le hx hb.size,λi k hi=>(hk i k hi).below hb (by rw[add_block];exact hx)⟩
theorem dB.mk'{w:World}{z:Nat}(k:aC)(hz:w.heap.size=z):dB (w.alloc (.cells #[int i64 k.id,int i64 k.aA,int i64 k.kind,int i64 k.at_,int i64 k.life,int i64 k.load,int i64 k.task,int i64 k.goal] 74)) ⟨z,0,none⟩ k:=by
 subst hz;constructor<;>simp
structure aO where
 aA:Int
 unit:Int
 kind:Int
 left:Int
def aO.val(k:aO):Value:=.agg #[int i64 k.aA,int i64 k.unit,int i64 k.kind,int i64 k.left]
structure jS(w:World)(y:Addr)(k:aO):Prop where
 c0:w.cell? y=some (int i64 k.aA)
 c1:w.cell? ⟨y.block,y.off+1,none⟩=some (int i64 k.unit)
 c2:w.cell? ⟨y.block,y.off+2,none⟩=some (int i64 k.kind)
 c3:w.cell? ⟨y.block,y.off+3,none⟩=some (int i64 k.left)
theorem jS.lt{w:World}{y:Addr}{k:aO}(h:jS w y k):y.block<w.heap.size:=cell_lt h.c0
theorem jS.below{w w':World}{y:Addr}{k:aO}{B:Nat}(h:jS w y k)(hb:Below B w w')(hy:y.block<B):jS w' y k:=
 ⟨by rw[hb.cell (p:=y) hy];exact h.c0,by rw[hb.cell (p:=⟨y.block,y.off+1,none⟩) hy];exact h.c1,by rw[hb.cell (p:=⟨y.block,y.off+2,none⟩) hy];exact h.c2,by rw[hb.cell (p:=⟨y.block,y.off+3,none⟩) hy];exact h.c3⟩
def KT(w:World)(v:Value)(ks:List aO):Prop:=∃a c,v=slice a ks.length c/\ks.length<=c/\c<=9223372036854775807/\(ks≠[]->∃x,a=some x/\x.block<w.heap.size/\∀(i:Nat) k,ks[i]? =some k->jS w (x.add (i*4)) k)
theorem KT.below{w w':World}{v:Value}{ks:List aO}(h:KT w v ks)(hb:Below w.heap.size w w'):KT w' v ks:=by
 obtain⟨a,c,h1,h2,h3,h4⟩:=h;refine⟨a,c,h1,h2,h3,λhn=>?_⟩;obtain⟨x,e,hx,hk⟩:=h4 hn;exact⟨x,e,Nat.lt_of_lt_of_le hx hb.size,λi k hi=>(hk i k hi).below hb (by rw[add_block];exact hx)⟩
theorem jS.mk'{w:World}{z:Nat}(k:aO)(hz:w.heap.size=z):jS (w.alloc (.cells #[int i64 k.aA,int i64 k.unit,int i64 k.kind,int i64 k.left] 93)) ⟨z,0,none⟩ k:=by
 subst hz;constructor<;>simp
end Go.Proofs.YtolfphmdmpehdaaGreatDoor
namespace Go.Proofs.YtolfphmdmpehdaaGreatDoor
structure WV where
 turn:Int
 next:Int
 wide:Int
 high:Int
 gs:List Int
 os:List Int
 gold:List Int
 us:List aC
 qs:List aO
namespace Wd
def uH(u:aC):List Int:=[u.id,u.aA,u.kind,u.at_,u.life,u.load,u.task,u.goal]
def uI(j:aO):List Int:=[j.aA,j.unit,j.kind,j.left]
def nums(W:WV):List Int:=[W.turn,W.next,W.wide,W.high]++((W.gs.length:Int)::W.gs)++((W.os.length:Int)::W.os)++((W.gold.length:Int)::W.gold)++((W.us.length:Int)::W.us.flatMap uH)++((W.qs.length:Int)::W.qs.flatMap uI)
def enc(W:WV):List UInt8:=wr (nums W)
end Wd
end Go.Proofs.YtolfphmdmpehdaaGreatDoor
namespace Go.Proofs.YtolfphmdmpehdaaGreatDoor.Fd
def bQ(g o:Int):Int:=if g<0\/3<g\/o<0\/1000000<o then 1 else if 0<o/\g≠0 then 7 else 0
def bU:List Int->List Int->Int
 |g::gs,o::os=>if bQ g o=0 then bU gs os else bQ g o
 |_,_=>0
def fault(W H:Int)(gs os:List Int):Int:=
 if W<1\/12<W\/H<1\/12<H then 1 else if(gs.length:Int)≠W*H\/(os.length:Int)≠W*H then 3 else bU gs os
structure Good(W H:Nat)(gs os:List Int):Prop where
 w1:1<=W
 w2:W<=12
 h1:1<=H
 h2:H<=12
 gl:gs.length=W*H
 ol:os.length=W*H
 cell:∀(i:Nat) g o,gs[i]? =some g->os[i]? =some o->0<=g/\g<=3/\0<=o/\o<=1000000/\(0<o->g=0)
theorem nR{g o:Int}(h:bQ g o=0):0<=g/\g<=3/\0<=o/\o<=1000000/\(0<o->g=0):=by
 unfold bQ at h;split at h
 ·omega
 ·split at h
  ·omega
  ·omega
theorem jE:∀(gs os:List Int),bU gs os=0->∀(i:Nat) g o,gs[i]? =some g->os[i]? =some o->bQ g o=0
 |[],_,_,i,g,o,h1,_=>by simp at h1
 |_::_,[],_,i,g,o,_,h2=>by simp at h2
 |g0::gs,o0::os,h,i,g,o,h1,h2=>by
  unfold bU at h;split at h
  ·rename_i hc
   cases i with
   |zero=>simp at h1 h2;subst h1;subst h2;exact hc
   |succ i=>exact jE gs os h i g o (by simpa using h1) (by simpa using h2)
  ·rename_i hc
   exact absurd h hc
theorem kJ{W H:Int}{gs os:List Int}(h:fault W H gs os=0):∃W' H':Nat,W=W'/\H=H'/\Good W' H' gs os:=by
 unfold fault at h;split at h
 ·omega
 ·split at h
  ·omega
  ·rename_i h1 h2
   refine⟨W.toNat,H.toNat,by omega,by omega,by omega,by omega,by omega,by omega,?_,?_,λi g o hg ho=>nR (jE gs os h i g o hg ho)⟩
   ·have e:((W.toNat*H.toNat:Nat):Int)=W*H:=by rw[Int.natCast_mul,Int.toNat_of_nonneg (by omega),Int.toNat_of_nonneg (by omega)]
    omega
   ·have e:((W.toNat*H.toNat:Nat):Int)=W*H:=by rw[Int.natCast_mul,Int.toNat_of_nonneg (by omega),Int.toNat_of_nonneg (by omega)]
    omega
theorem rW{g o:Int}(h:0<=g/\g<=3/\0<=o/\o<=1000000/\(0<o->g=0)):bQ g o=0:=by
 unfold bQ;rw[if_neg (by omega),if_neg (by omega)]
theorem kF:∀(gs os:List Int),(∀(i:Nat) g o,gs[i]? =some g->os[i]? =some o->bQ g o=0)->bU gs os=0
 |[],_,_=>by unfold bU;rfl
 |_::_,[],_=>by unfold bU;rfl
 |g::gs,o::os,h=>by
  unfold bU;rw[if_pos (h 0 g o rfl rfl)];exact kF gs os λi g' o' h1 h2=>h (i+1) g' o' (by simpa using h1) (by simpa using h2)
theorem dH{W H:Nat}{gs os:List Int}(h:Good W H gs os):fault W H gs os=0:=by
 have e:((W*H:Nat):Int)=(W:Int)*H:=Int.natCast_mul _ _;have:=h.gl;have:=h.ol;have:=h.w1;have:=h.w2;have:=h.h1;have:=h.h2
 unfold fault;rw[if_neg (by omega),if_neg (by omega)];exact kF gs os λi g o h1 h2=>rW (h.cell i g o h1 h2)
theorem Good.pos{W H:Nat}{gs os:List Int}(h:Good W H gs os):1<=W*H/\W*H<=144:=by
 have h1:=Nat.mul_le_mul h.w1 h.h1;have h2:=Nat.mul_le_mul h.w2 h.h2;omega
theorem nI(gs os:List Int)(k:Nat)(g o:Int)(hg:gs[k]? =some g)(ho:os[k]? =some o):
  bU (gs.drop k) (os.drop k)=if bQ g o=0 then bU (gs.drop (k+1)) (os.drop (k+1)) else bQ g o:=by
 obtain⟨h1,e1⟩:=List.getElem?_eq_some_iff.1 hg;obtain⟨h2,e2⟩:=List.getElem?_eq_some_iff.1 ho;rw[List.drop_eq_getElem_cons h1,List.drop_eq_getElem_cons h2,e1,e2];rfl
def dW(F:Int)(n:Nat)(xs:List Int):Int:=if F≠0 then F else if xs.all (λx=>decide (0<=x/\x<n)) then 0 else 6
def near(W H a:Nat):List Int:=
 (if 0<a/W then[(a:Int)-W] else[])++((if 0<a%W then[(a:Int)-1] else[])++((if a%W+1<W then[(a:Int)+1] else[])++(if a/W+1<H then[(a:Int)+W] else[])))
def onto(g:Int)(zN:Bool):Int:=if g=1 then 0 else if g=2 then(if zN then 1 else 0) else if g=3 then(if zN then 1 else 2) else 1
end Go.Proofs.YtolfphmdmpehdaaGreatDoor.Fd
namespace Go.Proofs.YtolfphmdmpehdaaGreatDoor.Tx
def cut(c:UInt8):List UInt8->List (List UInt8)
 |[]=>[[]]
 |b::r=>if b=c then[]::cut c r else match cut c r with
  |[]=>[[b]]
  |w::ws=>(b::w)::ws
def SC(b:UInt8):Bool:=decide (48<=b.toNat)&&decide (b.toNat<=57)
def SH(n:Nat):List UInt8:=if n<10 then[(48+n).toUInt8] else SH (n/10)++[(48+n%10).toUInt8]
termination_by n
def val(l:List UInt8):Nat:=l.foldl (λn b=>n*10+(b.toNat-48)) 0
def whole(most:Nat)(l:List UInt8):Option Nat:=if l=[]\/most<l.length\/(l.head? =some 48/\1<l.length) then none else if l.all SC then some (val l) else none
end Go.Proofs.YtolfphmdmpehdaaGreatDoor.Tx
namespace Go.Proofs.YtolfphmdmpehdaaGreatDoor.Kd
open Tx
structure K where
 name:List UInt8
 nums:List Int
 zN:Bool
 Fg:Bool
def eG(b:UInt8):Bool:=decide (97<=b.toNat)&&decide (b.toNat<=122)
def jG(l:List UInt8):Bool:= !l.isEmpty&&(decide (l.length<=8)&&l.all eG)
def b_(ns:List Int):Int:=if ns.any (λx=>decide (x<0\/1000<x)) then 1 else if ns.getD 0 0<1\/4<ns.getD 4 0\/12<ns.getD 2 0\/12<ns.getD 3 0 then 1 else 0
def bV(ahead:List K)(k:K):Int:=if jG k.name then(if ahead.any (λa=>a.name==k.name) then 8 else b_ k.nums) else 2
def fF(ahead:List K):List K->Int
 |[]=>0
 |k::r=>if bV ahead k=0 then fF (ahead++[k]) r else bV ahead k
def aG(l:List K):Int:=if 8<l.length then 4 else fF [] l
def flag(b:Bool)(c:UInt8):List UInt8:=if b then[c] else[45]
def words(k:K):List (List UInt8):=k.name::((k.nums.map λn=>SH n.toNat)++[flag k.zN 102,flag k.Fg 116])
def Fh(c:UInt8)(w:List UInt8):Option Bool:=if w=[c] then some true else if w=[45] then some false else none
def Fj:List (List UInt8)->Option (List Int)
 |[]=>some []
 |w::r=>match whole 4 w,Fj r with
  |some n,some ns=>some ((n:Int)::ns)
  |_,_=>none
def PZ(ws:List (List UInt8)):Option K:=if ws.length=11 then
  match Fj ((ws.drop 1).take 8),Fh 102 (ws.getD 9 []),Fh 116 (ws.getD 10 []) with
  |some ns,some f,some t=>some ⟨ws.getD 0 [],ns,f,t⟩
  |_,_,_=>none
 else none
def Fp(acc:List K):List (List UInt8)->(Nat×Int) ⊕ List K
 |[]=>.inr acc
 |[w]=>if w=[] then .inr acc else .inl (acc.length,2)
 |w::v::r=>match PZ (cut 32 w) with
  |none=>.inl (acc.length,2)
  |some k=>if acc.length=8 then .inl (acc.length,4) else if bV acc k=0 then Fp (acc++[k]) (v::r) else .inl (acc.length,bV acc k)
def parse(s:List UInt8):(Nat×Int) ⊕ List K:=Fp [] (cut 10 s)
structure Fit(k:K):Prop where
 len:k.nums.length=8
 low:∀n∈k.nums,0<=n/\n<10000
end Go.Proofs.YtolfphmdmpehdaaGreatDoor.Kd
namespace Go.Proofs.YtolfphmdmpehdaaGreatDoor
open Go.RowKit
structure KV where
 b:ByteArray
 n0:Int
 n1:Int
 n2:Int
 n3:Int
 n4:Int
 n5:Int
 n6:Int
 n7:Int
 f:Bool
 t:Bool
def KV.k(k:KV):Kd.K:=⟨k.b.data.toList,[k.n0,k.n1,k.n2,k.n3,k.n4,k.n5,k.n6,k.n7],k.f,k.t⟩
def KV.val(k:KV):Value:=.agg #[.string k.b,int i64 k.n0,int i64 k.n1,int i64 k.n2,int i64 k.n3,int i64 k.n4,int i64 k.n5,int i64 k.n6,int i64 k.n7,.bool k.f,.bool k.t]
structure Kc(w:World)(y:Addr)(k:KV):Prop where
 c0:w.cell? y=some (.string k.b)
 c1:w.cell? ⟨y.block,y.off+1,none⟩=some (int i64 k.n0)
 c2:w.cell? ⟨y.block,y.off+2,none⟩=some (int i64 k.n1)
 c3:w.cell? ⟨y.block,y.off+3,none⟩=some (int i64 k.n2)
 c4:w.cell? ⟨y.block,y.off+4,none⟩=some (int i64 k.n3)
 c5:w.cell? ⟨y.block,y.off+5,none⟩=some (int i64 k.n4)
 c6:w.cell? ⟨y.block,y.off+6,none⟩=some (int i64 k.n5)
 c7:w.cell? ⟨y.block,y.off+7,none⟩=some (int i64 k.n6)
 c8:w.cell? ⟨y.block,y.off+8,none⟩=some (int i64 k.n7)
 c9:w.cell? ⟨y.block,y.off+9,none⟩=some (.bool k.f)
 c10:w.cell? ⟨y.block,y.off+10,none⟩=some (.bool k.t)
theorem Kc.lt{w:World}{y:Addr}{k:KV}(h:Kc w y k):y.block<w.heap.size:=cell_lt h.c0
theorem Kc.below{w w':World}{y:Addr}{k:KV}{B:Nat}(h:Kc w y k)(hb:Below B w w')(hy:y.block<B):Kc w' y k:=
 ⟨by rw[hb.cell (p:=y) hy];exact h.c0,by rw[hb.cell (p:=⟨y.block,y.off+1,none⟩) hy];exact h.c1,by rw[hb.cell (p:=⟨y.block,y.off+2,none⟩) hy];exact h.c2,by rw[hb.cell (p:=⟨y.block,y.off+3,none⟩) hy];exact h.c3,by rw[hb.cell (p:=⟨y.block,y.off+4,none⟩) hy];exact h.c4,by rw[hb.cell (p:=⟨y.block,y.off+5,none⟩) hy];exact h.c5,by rw[hb.cell (p:=⟨y.block,y.off+6,none⟩) hy];exact h.c6,by rw[hb.cell (p:=⟨y.block,y.off+7,none⟩) hy];exact h.c7,by rw[hb.cell (p:=⟨y.block,y.off+8,none⟩) hy];exact h.c8,by rw[hb.cell (p:=⟨y.block,y.off+9,none⟩) hy];exact h.c9,by rw[hb.cell (p:=⟨y.block,y.off+10,none⟩) hy];exact h.c10⟩
def Kl(w:World)(v:Value)(ks:List KV):Prop:=∃a c,v=slice a ks.length c/\ks.length<=c/\c<=9223372036854775807/\(ks≠[]->∃x,a=some x/\x.block<w.heap.size/\∀(i:Nat) k,ks[i]? =some k->Kc w (x.add (i*11)) k)
theorem Kl.below{w w':World}{v:Value}{ks:List KV}(h:Kl w v ks)(hb:Below w.heap.size w w'):Kl w' v ks:=by
 obtain⟨a,c,h1,h2,h3,h4⟩:=h;refine⟨a,c,h1,h2,h3,λhn=>?_⟩;obtain⟨x,e,hx,hk⟩:=h4 hn;exact⟨x,e,Nat.lt_of_lt_of_le hx hb.size,λi k hi=>(hk i k hi).below hb (by rw[add_block];exact hx)⟩
theorem Kc.mk'{w:World}{z:Nat}(k:KV)(hz:w.heap.size=z):Kc (w.alloc (.cells #[.string k.b,int i64 k.n0,int i64 k.n1,int i64 k.n2,int i64 k.n3,int i64 k.n4,int i64 k.n5,int i64 k.n6,int i64 k.n7,.bool k.f,.bool k.t] 77)) ⟨z,0,none⟩ k:=by
 subst hz;constructor<;>simp
end Go.Proofs.YtolfphmdmpehdaaGreatDoor
namespace Go.Proofs.YtolfphmdmpehdaaGreatDoor
namespace Wd
def off(least n:Int):Bool:= !decide (least<=n/\n<=1000000)
def aU(W:WV):Bool:=off 0 W.turn||(off 1 W.next||(!decide (1<=(W.gold.length:Int)/\(W.gold.length:Int)<=4)||W.gold.any (off 0)))
def has(n:Nat)(i:Int):Bool:=decide (0<=i/\i<(n:Int))
def open_(gs:List Int)(ahead:List aC)(at_:Int)(fl:Bool):Bool:=decide (0<Fd.onto (gs.getD at_.toNat 0) fl)&& !ahead.any (λu=>u.at_==at_)
def dM(W:WV)(ahead:List aC)(u:aC)(k:KV):Int:=
 if !decide (1<=u.life/\u.life<=k.n0)||(!decide (0<=u.load/\u.load<=k.n7)|| !decide (0<=u.task/\u.task<=2)) then 1
 else if !has W.gs.length u.at_|| !has W.gs.length u.goal then 6
 else if !open_ W.gs ahead u.at_ k.f||(u.goal != 0&&u.task==0) then 7 else 0
def bH(us:List aC)(i:Nat)(u:aC):Bool:=match i with
 |0=>false
 |j+1=>match us[j]? with
  |none=>false
  |some x=>decide (u.id<=x.id)
def aI(ks:List KV)(W:WV)(i:Nat)(u:aC):Int:=
 if !decide (1<=u.id/\u.id<=W.next-1) then 1
 else if bH W.us i u then 5
 else if !has W.gold.length u.aA|| !has ks.length u.kind then 1
 else match ks[u.kind.toNat]? with
  |none=>1
  |some k=>dM W (W.us.take i) u k
def bT(ks:List KV)(W:WV)(i:Nat):List aC->Int
 |[]=>0
 |u::r=>if aI ks W i u=0 then bT ks W (i+1) r else aI ks W i u
def aJ(ks:List KV)(W:WV)(j:aO):Int:=match W.us.find? (λu=>u.id==j.unit) with
 |none=>6
 |some u=>match ks[u.kind.toNat]? with
  |none=>7
  |some k=>if u.aA != j.aA|| !k.t then 7 else if !has ks.length j.kind|| !decide (1<=j.left/\j.left<=1000) then 1 else 0
def fB(ks:List KV)(W:WV):List aO->Int
 |[]=>0
 |j::r=>if aJ ks W j=0 then fB ks W r else aJ ks W j
def ground(ks:List KV)(W:WV):Int:=if Kd.aG (ks.map KV.k)=0 then Fd.fault W.wide W.high W.gs W.os else Kd.aG (ks.map KV.k)
def aF(ks:List KV)(W:WV):Int:=
 if ground ks W≠0 then ground ks W
 else if aU W then 1
 else if 40<W.us.length then 4
 else if bT ks W 0 W.us≠0 then bT ks W 0 W.us
 else if 12<W.qs.length then 4
 else fB ks W W.qs
theorem wK{ks:List KV}{W:WV}{i:Nat}{u:aC}(h:W.us[i]? =some u):bT ks W i (W.us.drop i)=if aI ks W i u=0 then bT ks W (i+1) (W.us.drop (i+1)) else aI ks W i u:=by
 obtain⟨hi,e⟩:=List.getElem?_eq_some_iff.1 h;rw[List.drop_eq_getElem_cons hi,e];rfl
theorem Bc{ks:List KV}{W:WV}{i:Nat}{j:aO}(h:W.qs[i]? =some j):fB ks W (W.qs.drop i)=if aJ ks W j=0 then fB ks W (W.qs.drop (i+1)) else aJ ks W j:=by
 obtain⟨hi,e⟩:=List.getElem?_eq_some_iff.1 h;rw[List.drop_eq_getElem_cons hi,e];rfl
end Wd
open Go.RowKit
def Wl(w:World)(v:Value)(W:WV):Prop:=∃u1 u2 u3 u4 u5,v=.agg #[int i64 W.turn,int i64 W.next,int i64 W.wide,int i64 W.high,u1,u2,u3,u4,u5]/\Ro w u1 W.gs/\Ro w u2 W.os/\Ro w u3 W.gold/\jF w u4 W.us/\KT w u5 W.qs
theorem Wl.below{w w':World}{v:Value}{W:WV}(h:Wl w v W)(hb:Below w.heap.size w w'):Wl w' v W:=by
 obtain⟨u1,u2,u3,u4,u5,h1,h2,h3,h4,h5,h6⟩:=h;exact⟨u1,u2,u3,u4,u5,h1,h2.below hb,h3.below hb,h4.below hb,h5.below hb,h6.below hb⟩
structure Bw(w:World)(z:Nat)(W:WV)(u1 u2 u3 u4 u5:Value):Prop where
 c0:w.cell? ⟨z,0,none⟩=some (int i64 W.turn)
 c1:w.cell? ⟨z,1,none⟩=some (int i64 W.next)
 c2:w.cell? ⟨z,2,none⟩=some (int i64 W.wide)
 c3:w.cell? ⟨z,3,none⟩=some (int i64 W.high)
 c4:w.cell? ⟨z,4,none⟩=some u1
 c5:w.cell? ⟨z,5,none⟩=some u2
 c6:w.cell? ⟨z,6,none⟩=some u3
 c7:w.cell? ⟨z,7,none⟩=some u4
 c8:w.cell? ⟨z,8,none⟩=some u5
theorem Bw.lt{w:World}{z:Nat}{W:WV}{u1 u2 u3 u4 u5:Value}(h:Bw w z W u1 u2 u3 u4 u5):z<w.heap.size:=cell_lt h.c0
theorem Bw.below{w w':World}{z n:Nat}{W:WV}{u1 u2 u3 u4 u5:Value}(h:Bw w z W u1 u2 u3 u4 u5)(hb:Below n w w')(hn:z<n):Bw w' z W u1 u2 u3 u4 u5:=
 ⟨by rw[hb.cell (p:=⟨z,0,none⟩) hn];exact h.c0,by rw[hb.cell (p:=⟨z,1,none⟩) hn];exact h.c1,by rw[hb.cell (p:=⟨z,2,none⟩) hn];exact h.c2,by rw[hb.cell (p:=⟨z,3,none⟩) hn];exact h.c3,by rw[hb.cell (p:=⟨z,4,none⟩) hn];exact h.c4,by rw[hb.cell (p:=⟨z,5,none⟩) hn];exact h.c5,by rw[hb.cell (p:=⟨z,6,none⟩) hn];exact h.c6,by rw[hb.cell (p:=⟨z,7,none⟩) hn];exact h.c7,by rw[hb.cell (p:=⟨z,8,none⟩) hn];exact h.c8⟩
theorem Bw.mk'{w:World}{z:Nat}(W:WV)(u1 u2 u3 u4 u5:Value)(hz:w.heap.size=z):Bw (w.alloc (.cells #[int i64 W.turn,int i64 W.next,int i64 W.wide,int i64 W.high,u1,u2,u3,u4,u5] 29)) z W u1 u2 u3 u4 u5:=by
 subst hz;constructor<;>simp
def WV.zero:WV:=⟨0,0,0,0,[],[],[],[],[]⟩
theorem iW:(Tryz.prog.info? 3).map (λi=>(i.zero,i.size,i.bytes))=some (some (int i64 0),1,8):=by kernel_rfl
def Ow(w:World)(base:Nat)(v:Value)(xs:List Int):Prop:=w.ownsRow base 3 1 v xs.length (xs.map (int i64))
theorem Ow.nil(w:World)(base:Nat):Ow w base (slice none 0 0) []:=World.ownsRow_nil _ _ _ _
theorem Ow.ro{w:World}{base:Nat}{v:Value}{xs:List Int}(h:Ow w base v xs):Ro w v xs:=by
 rcases h.2 with⟨hv,h0⟩|⟨g,cap,cur,hv,hb,hg,h1,h2,h3,h4⟩
 ·obtain rfl:=List.length_eq_zero_iff.1 h0
  exact⟨none,0,hv,Nat.le_refl _,by omega,λh=>absurd rfl h⟩
 ·refine⟨_,cap,hv,h1,by unfold maxLen at h2;omega,λ_=>⟨_,rfl,lt_of_block hg,λi d hd=>?_⟩⟩
  have hi:=(List.getElem?_eq_some_iff.1 hd).1;rw[Addr.add_lit,Nat.zero_add];have h5:w.ownsRow base 3 1 (slice (some ⟨g,0,none⟩) xs.length cap) xs.length (xs.map (int i64)):=by rw[<-hv];exact h
  rw[h5.cellAt i (by omega),List.getElem?_map,hd];rfl
theorem Ow.kept{w w':World}{base:Nat}{v:Value}{xs:List Int}{row:Option Nat}(h:Ow w base v xs)(hg:w.grownBy w' row)(hne:v.ownBlock=none\/v.ownBlock≠row):Ow w' base v xs:=World.ownsRow.kept h hg hne
theorem Ow.alloc{w:World}{base:Nat}{v:Value}{xs:List Int}(h:Ow w base v xs)(o:Obj):Ow (w.alloc o) base v xs:=World.ownsRow.alloc h o
theorem Ow.drewN{w:World}{base:Nat}{v:Value}{xs:List Int}(h:Ow w base v xs)(n:Nat):Ow (w.drewN n) base v xs:=h
theorem Ow.block{w:World}{base:Nat}{v:Value}{xs:List Int}(h:Ow w base v xs):∀k,v.ownBlock=some k->base<=k/\k<w.heap.size:=World.ownsRow.lt h
theorem Ow.below{w w':World}{base:Nat}{v:Value}{xs:List Int}(h:Ow w base v xs)(hb:Below w.heap.size w w'):Ow w' base v xs:=
 h.kept (row:=none) ⟨hb.os,hb.tape,hb.output,hb.size,λk hk _=>hb.block k hk⟩ (by cases v.ownBlock<;>simp)
theorem Ow.mono{w:World}{base base':Nat}{v:Value}{xs:List Int}(h:Ow w base v xs)(hb:base'<=base):Ow w base' v xs:=by
 refine⟨h.1,?_⟩;rcases h.2 with h1|⟨g,cap,cur,h1,h2,h3⟩
 ·exact .inl h1
 ·exact .inr ⟨g,cap,cur,h1,Nat.le_trans hb h2,h3⟩
theorem Ow.len{w:World}{base:Nat}{v:Value}{xs:List Int}(h:Ow w base v xs):∃a c,v=slice a xs.length c:=by
 obtain⟨a,c,h1,-⟩:=h.ro;exact⟨a,c,h1⟩
theorem gJ{ops:Array Oper}{rest:List Oper}{o:Oper}{a:Act}{Q:Exit->Act->World->Prop}(w:World)(hgd:o.guard=none)(s x:Operand)
  (ho:o.op=.call {callee:=.builtin .append,args:= #[s,x],argTypes:= #[23,23]}) (base:Nat) (v:Value) (xs:List Int) (hs:a.eval s=v) (hown:Ow w base v xs)
  (ad:Addr) (d:Int) (hx:a.eval x=slice (some ad) 1 1) (hd:w.cell? ad=some (int i64 d)) (hl:xs.length<=1000000000) (hbase:base<=w.heap.size)
  (h:∀g cap w',Ow w' base (slice (some ⟨g,0,none⟩) (xs.length+1) cap) (xs++[d])->w.grownBy w' v.ownBlock->(v.ownBlock=some g\/g=w.heap.size)->g<w'.heap.size->wpList Tryz.prog ops Q rest (a.put o.dst (slice (some ⟨g,0,none⟩) (xs.length+1) cap)) w'):
  wpList Tryz.prog ops Q (o::rest) a w:=by
 obtain⟨i0,hi,hz0,hz1,hz2⟩:=info_parts iW;refine wpList_append_lies w hgd s x 23 ho _ 3 i0 _ 1 8 Tryz.underlying23 hi hz0 hz1 hz2 rfl (by decide) v _ _ hs hown ad 1 1 [int i64 d] hx rfl ?_ ?_ (by decide) (by unfold maxLen;omega) (by omega) hbase _ rfl ?_
 ·intro j u hj
  match j,hj with
  |0,hj=>simp at hj;subst hj;exact hd
 ·intro u hu
  simp at hu;subst hu;rfl
 ·intro g cap w' h1 h2 h3 h4
  refine h g _ w' ?_ h2 h3 h4;unfold Ow;rw[List.length_append,List.map_append];exact h1
theorem Ow.one{w:World}{base z:Nat}(d:Int)(hb:base<=w.heap.size)(hz:w.heap.size=z):Ow (w.alloc (.cells #[int i64 d] 3)) base (slice (some ⟨z,0,none⟩) 1 1) [d]:=by
 subst hz;exact⟨rfl,.inr ⟨_,_,_,rfl,hb,heap_alloc_new w _,Nat.le_refl _,by unfold maxLen;decide,rfl,rfl⟩⟩
theorem fP{P:Program}{w:World}(base:Nat)(t ty e:TypeId)(i:TypeInfo)(size:Nat)(ht:P.underlying t=some (.slice e))(hi:P.info? e=some i)
  (v:Value) (n:Nat) (xs:List Value) (hown:w.ownsRow base e size v n xs) (a:Option Addr) (c:Nat):
  (Builtin.append_ #[t,t] ty #[v,slice a 0 c]).run P w=.ok v w:=by
 rcases hown.2 with⟨rfl,rfl⟩|⟨g,cap,cur,rfl,_,_,hnc,_⟩
 ·cases a<;>simp[Builtin.append_,run_underlying ht,sizeOf,typeInfo,hi,Builtin.lenOf,Builtin.firstCells,loadCells,loadCellsFrom]
 ·cases a<;>simp[Builtin.append_,run_underlying ht,sizeOf,typeInfo,hi,Builtin.lenOf,Builtin.firstCells,hnc,storeCells,loadCells,loadCellsFrom]
theorem Le{ops:Array Oper}{rest:List Oper}{o:Oper}{a:Act}{Q:Exit->Act->World->Prop}(w:World)(hgd:o.guard=none)(s x:Operand)
  (ho:o.op=.call {callee:=.builtin .append,args:= #[s,x],argTypes:= #[23,23]}) (base:Nat) (v:Value) (xs:List Int) (hs:a.eval s=v) (hown:Ow w base v xs)
  (u:Value) (ys:List Int) (hx:a.eval x=u) (hu:Ro w u ys) (hl:xs.length+ys.length<=1000000000) (hbase:base<=w.heap.size)
  (h:∀v' w',Ow w' base v' (xs++ys)->w.grownBy w' v.ownBlock->(v'.ownBlock=v.ownBlock\/v'.ownBlock=some w.heap.size)->wpList Tryz.prog ops Q rest (a.put o.dst v') w'):
  wpList Tryz.prog ops Q (o::rest) a w:=by
 obtain⟨i0,hi,hz0,hz1,hz2⟩:=info_parts iW;obtain⟨ad,c,rfl,h1,h2,h3⟩:=hu;by_cases hn:ys=[]
 ·subst hn
  refine wpList_plain hgd λK hK=>?_
  have hrun:=fP (P:=Tryz.prog) (w:=w) base 23 o.type 3 i0 1 Tryz.underlying23 hi v xs.length _ hown ad c;have hx':a.eval x=slice ad 0 c:=hx;unfold Oper.wp;simp[execOp,ho,resolve,invoke,builtin,hs,hx',hrun,Result.andThen];exact hK _ _ (h v w (by simpa using hown) (World.grownBy.refl _ _) (.inl rfl))
 ·obtain⟨y,rfl,hy,hc⟩:=h3 hn
  refine wpList_append_lies w hgd s x 23 ho _ 3 i0 _ 1 8 Tryz.underlying23 hi hz0 hz1 hz2 rfl (by decide) v _ _ hs hown y _ c (ys.map (int i64)) hx (by simp) ?_ ?_ (List.length_pos_iff.2 hn) (by unfold maxLen;omega) (by omega) hbase _ rfl ?_
  ·intro j u hj
   rw[List.getElem?_map] at hj;cases hd:ys[j]? with
   |none=>rw[hd] at hj;cases hj
   |some d=>rw[hd] at hj;cases hj;exact hc j d hd
  ·exact ints_oneCell _ _
  ·intro g cap w' k1 k2 k3 _
   refine h _ w' ?_ k2 ?_
   ·unfold Ow
    rw[List.length_append,List.map_append];exact k1
   ·rcases k3 with k3|k3
    ·exact .inl k3.symm
    ·exact .inr (by rw[k3];rfl)
theorem Ro.lit{w:World}{z:Nat}(xs:List Int)(cs:Array Value)(hc:cs.toList=xs.map (int i64))(hl:xs.length<=1000)(hz:w.heap.size=z):Ro (w.alloc (.cells cs 3)) (slice (some ⟨z,0,none⟩) xs.length xs.length) xs:=by
 subst hz;refine⟨_,xs.length,rfl,Nat.le_refl _,by omega,λ_=>⟨_,rfl,by simp,λi d hd=>?_⟩⟩;rw[Addr.add_lit,Nat.zero_add];have hh:=heap_alloc_new w (.cells cs 3);simp only[World.cell?,hh];rw[<-Array.getElem?_toList,hc,List.getElem?_map,hd];rfl
structure Fq(W:WV):Prop where
 g:W.gs.length<=1048576
 o:W.os.length<=1048576
 p:W.gold.length<=1048576
 u:W.us.length<=1048576
 q:W.qs.length<=1048576
theorem Bw.grown{w w':World}{z:Nat}{W:WV}{u1 u2 u3 u4 u5:Value}{row:Option Nat}(h:Bw w z W u1 u2 u3 u4 u5)(hg:w.grownBy w' row)(hr:∀k,row=some k->z<k):Bw w' z W u1 u2 u3 u4 u5:=
 h.below (n:=z+1) ((Below.refl _ _).grown hg h.lt (λk hk=>hr k hk)) (Nat.lt_succ_self _)
theorem dh{w:World}{z i:Nat}{cs:Array Value}{T:TypeId}{v:Value}(hz:w.heap.size=z)(hv:cs[i]? =some v):(w.alloc (.cells cs T)).cell? ⟨z,i,none⟩=some v:=by
 subst hz;simp only[World.cell?,heap_alloc_new];simpa using hv
theorem Wl.slices{w:World}{W:WV}{u1 u2 u3 u4 u5:Value}(h:Wl w (.agg #[int i64 W.turn,int i64 W.next,int i64 W.wide,int i64 W.high,u1,u2,u3,u4,u5]) W):Ro w u1 W.gs/\Ro w u2 W.os/\Ro w u3 W.gold/\jF w u4 W.us/\KT w u5 W.qs:=by
 obtain⟨v1,v2,v3,v4,v5,ev,r⟩:=h;simp only[Value.agg.injEq,Array.mk.injEq,List.cons.injEq,and_true,true_and] at ev;obtain⟨rfl,rfl,rfl,rfl,rfl⟩:=ev;exact r
def jg(p:aC->Bool)(ks:List aC)(r:Int):Prop:=(r= -1/\ks.any p=false)\/∃(k:Nat) (x:aC),r=k/\ks[k]? =some x/\p x=true/\(ks.take k).any p=false
theorem qK{p:aC->Bool}{ks:List aC}{k:Nat}{x:aC}(h:ks[k]? =some x):(ks.take (k+1)).any p=((ks.take k).any p||p x):=by
 obtain⟨hi,e⟩:=List.getElem?_eq_some_iff.1 h;rw[List.take_succ_eq_append_getElem hi,List.any_append,e];simp
theorem nS(K:Nat)(eK:∀args w,(callFunc K args).run Tryz.prog w=.ok (.enter K args) w)(u:Value)(cs:Array Value)(ks:List aC)(p:aC->Bool)(w:World)(hu:jF w u ks)
  (hp:∀W,Below w.heap.size w W->∀k:aC,Calls Tryz.prog K (#[k.val]++cs) W λe w'=>e=.returned (.bool (p k))/\Below W.heap.size W w'):
  Calls Tryz.prog 97 #[u,.func (Fn.func K) #[] cs] w λe w'=>∃r:Int,e=.returned (int i64 r)/\jg p ks r/\Below w.heap.size w w':=by
 obtain⟨a,c,rfl,c1,c2,ca⟩:=hu;have Ca:=aj (ca);have Hp:=aj (hp);clear ca hp;go_enter Tryz.func97,Tryz.ntmps97;go_wp2;go_loopw [8] (λi W'=>∃k:Nat,k<=ks.length/\i=int i64 (k:Nat)/\(ks.take k).any p=false/\Below w.heap.size w W') (λi _=>ks.length-(intOf i).toNat)
 case atStart=>exact⟨0,Nat.zero_le _,rfl,by simp,Below.refl _ _⟩
 case round=>
  obtain⟨k,hk,rfl,ht,hb⟩:=hrel;have Ht:=aj (ht);have B:=aj (hb);clear ht hb;by_cases h0:k=ks.length
  ·subst h0
   go_wp2;go_ret;refine⟨_,rfl,.inl ⟨rfl,?_⟩,B⟩;have:=Ht.out;rw[List.take_of_length_le (Nat.le_refl _)] at this;exact this
  ·have hkx:k<ks.length:=by omega
   obtain⟨x,rfl,hx1,hx⟩:=Ca.out (by intro h;rw[h] at hkx;simp at hkx);obtain⟨y,hy⟩:∃y,ks[k]? =some y:=⟨_,List.getElem?_eq_getElem hkx⟩;have Yc:=(hx k y hy).below B.out (by rw[add_block];exact hx1);obtain⟨q0,q1,q2,q3,q4,q5,q6,q7⟩:=Yc;have hc:=Hp.out wr B.out y;have Hs:Hid _:=qK (p:=p) hy;have Hm:=aj (hy);clear hx hx1 hy;cases hy:p y with
   |true=>
    rw[hy] at hc;have Hc:=aj (hc);have Hy:=aj (hy);clear hc hy;go_wp2_with fail
    refine Calls.mono Hc.out ?_;rintro e w1 ⟨rfl,b1⟩;have B1:=aj (B.out.trans (b1.mono B.out.size));clear b1;go_wp2;go_ret;exact⟨_,rfl,.inr ⟨k,y,rfl,Hm,Hy,Ht⟩,B1⟩
   |false=>
    rw[hy] at hc;have Hc:=aj (hc);have Hy:=aj (hy);clear hc hy;go_wp2_with fail
    refine Calls.mono Hc.out ?_;rintro e w1 ⟨rfl,b1⟩;have B1:=aj (B.out.trans (b1.mono B.out.size));clear b1;go_wp2;go_round
    case rel=>exact⟨k+1,by omega,by go_num,by have:=Hs.out;rw[Ht.out,Hy.out] at this;exact this,B1⟩
    case measure=>simp[intOf];omega
theorem jg.has{p:aC->Bool}{xs:List aC}{r:Int}(h:jg p xs r):decide (0<=r)=xs.any p:=by
 rcases h with⟨rfl,h⟩|⟨k,x,rfl,h1,h2,_⟩
 ·rw[h];decide
 ·rw[decide_eq_true (by omega)]
  exact(List.any_eq_true.2 ⟨x,List.mem_of_getElem? h1,h2⟩).symm
theorem kX(K:Nat)(eK:∀args w,(callFunc K args).run Tryz.prog w=.ok (.enter K args) w)(u:Value)(cs:Array Value)(ks:List aC)(p:aC->Bool)(w:World)(hu:jF w u ks)
  (hp:∀W,Below w.heap.size w W->∀k:aC,Calls Tryz.prog K (#[k.val]++cs) W λe w'=>e=.returned (.bool (p k))/\Below W.heap.size W w'):
  Calls Tryz.prog 129 #[u,.func (Fn.func K) #[] cs] w λe w'=>e=.returned (.bool (ks.any p))/\Below w.heap.size w w':=by
 have H':=aj (nS K eK u cs ks p w hu hp);clear hp;go_enter Tryz.func129,Tryz.ntmps129;go_wp2_with fail
 refine Calls.mono H'.out ?_;rintro e w1 ⟨r,rfl,hr,q⟩;have Hr:=aj (hr.has);have Q:=aj (q);clear hr q;go_wp2;go_ret;exact⟨by show Ending.returned (.bool (decide (0<=r)))=_;rw[Hr.out],Q⟩
theorem bG(x lo hi:Int)(w:World):Calls Tryz.prog 74 #[int i64 x,int i64 lo,int i64 hi] w λe w'=>e=.returned (.bool (decide (lo<=x/\x<=hi)))/\w'=w:=by
 by_cases h1:lo<=x
 ·by_cases h2:x<=hi
  ·go_enter Tryz.func74,Tryz.ntmps74
   go_wp2;go_ret;refine⟨?_,rfl⟩;rw[decide_eq_true ⟨h1,h2⟩];rfl
  ·go_enter Tryz.func74,Tryz.ntmps74
   go_wp2;go_ret;refine⟨?_,rfl⟩;rw[decide_eq_false (by omega)];rfl
 ·go_enter Tryz.func74,Tryz.ntmps74
  go_wp2;go_ret;refine⟨?_,rfl⟩;rw[decide_eq_false (by omega)];rfl
theorem kY{p:Int->Bool}{xs:List Int}{k:Nat}(h:k<xs.length):(xs.take (k+1)).any p=((xs.take k).any p||p xs[k]):=by
 rw[List.take_succ_eq_append_getElem h,List.any_append];simp
def KY(p:Int->Bool)(xs:List Int)(r:Int):Prop:=(r= -1/\xs.any p=false)\/∃(k:Nat) (x:Int),r=k/\xs[k]? =some x/\p x=true/\(xs.take k).any p=false
theorem uJ(K:Nat)(eK:∀args w,(callFunc K args).run Tryz.prog w=.ok (.enter K args) w)(u:Value)(cs:Array Value)(xs:List Int)(p:Int->Bool)(w:World)(hu:Ro w u xs)
  (hp:∀m,∀x∈xs,Calls Tryz.prog K (#[int i64 x]++cs) (w.drewN m) λe w'=>e=.returned (.bool (p x))/\∃q,w'=w.drewN q):
  Calls Tryz.prog 165 #[u,.func (Fn.func K) #[] cs] w λe w'=>∃r:Int,e=.returned (int i64 r)/\KY p xs r/\∃q,w'=w.drewN q:=by
 obtain⟨a,c,rfl,c1,c2,ca⟩:=hu;have Ca:=aj (ca);have Hp:=aj (hp);clear ca hp;go_enter Tryz.func165,Tryz.ntmps165;go_wp2;go_loopw [8] (λi W'=>∃k q:Nat,k<=xs.length/\i=int i64 (k:Nat)/\(xs.take k).any p=false/\W'=w.drewN q) (λi _=>xs.length-(intOf i).toNat)
 case atStart=>exact⟨0,0,Nat.zero_le _,rfl,by simp,rfl⟩
 case round=>
  obtain⟨k,q,hk,rfl,ht,rfl⟩:=hrel;have Ht:=aj (ht);clear ht;by_cases h0:k=xs.length
  ·subst h0
   go_wp2;go_ret;refine⟨_,rfl,.inl ⟨rfl,?_⟩,_,rfl⟩;have:=Ht.out;rw[List.take_of_length_le (Nat.le_refl _)] at this;exact this
  ·have hkx:k<xs.length:=by omega
   obtain⟨x,rfl,-,hx⟩:=Ca.out (by intro h;rw[h] at hkx;simp at hkx);have cx:(w.drewN q).cell? _=some _:=hx k _ (List.getElem?_eq_getElem hkx);have hc:=Hp.out q xs[k] (List.getElem_mem hkx);have Hs:Hid _:=kY (p:=p) hkx;have Hm:=aj (List.getElem?_eq_getElem hkx);generalize xs[k]=y at *;generalize w.drewN q=w1 at *;clear hx;cases hy:p y with
   |true=>
    rw[hy] at hc;have Hc:=aj (hc);have Hy:=aj (hy);clear hc hy;go_wp2_with fail
    refine Calls.mono Hc.out ?_;rintro e w1 ⟨rfl,q1,rfl⟩;go_wp2;go_ret;exact⟨_,rfl,.inr ⟨k,y,rfl,Hm,Hy,Ht⟩,q1,rfl⟩
   |false=>
    rw[hy] at hc;have Hc:=aj (hc);have Hy:=aj (hy);clear hc hy;go_wp2_with fail
    refine Calls.mono Hc.out ?_;rintro e w1 ⟨rfl,q1,rfl⟩;go_wp2;go_round
    case rel=>exact⟨k+1,q1,by omega,by go_num,by have:=Hs.out;rw[Ht.out,Hy.out] at this;exact this,rfl⟩
    case measure=>simp[intOf];omega
theorem KY.has{p:Int->Bool}{xs:List Int}{r:Int}(h:KY p xs r):decide (0<=r)=xs.any p:=by
 rcases h with⟨rfl,h⟩|⟨k,x,rfl,h1,h2,_⟩
 ·rw[h];decide
 ·rw[decide_eq_true (by omega)]
  exact(List.any_eq_true.2 ⟨x,List.mem_of_getElem? h1,h2⟩).symm
theorem uK(K:Nat)(eK:∀args w,(callFunc K args).run Tryz.prog w=.ok (.enter K args) w)(u:Value)(cs:Array Value)(xs:List Int)(p:Int->Bool)(w:World)(hu:Ro w u xs)
  (hp:∀m,∀x∈xs,Calls Tryz.prog K (#[int i64 x]++cs) (w.drewN m) λe w'=>e=.returned (.bool (p x))/\∃q,w'=w.drewN q):
  Calls Tryz.prog 123 #[u,.func (Fn.func K) #[] cs] w λe w'=>e=.returned (.bool (xs.any p))/\∃q,w'=w.drewN q:=by
 have H:=uJ K eK u cs xs p w hu hp;have H':=aj (H);clear H hp;go_enter Tryz.func123,Tryz.ntmps123;go_wp2_with fail
 refine Calls.mono H'.out ?_;rintro e w1 ⟨r,rfl,hr,q,rfl⟩;have Hr:=aj (hr.has);clear hr;go_wp2;go_ret;exact⟨by show Ending.returned (.bool (decide (0<=r)))=_;rw[Hr.out],q,rfl⟩
theorem jg.one{p:aC->Bool}{us:List aC}{r r':Int}(h:jg p us r)(h':jg p us r'):r=r':=by
 rcases h with⟨rfl,h1⟩|⟨k,x,rfl,h1,h2,h3⟩
 ·rcases h' with⟨rfl,_⟩|⟨k,x,rfl,g1,g2,g3⟩
  ·rfl
  ·have:us.any p=true:=List.any_eq_true.2 ⟨x,List.mem_of_getElem? g1,g2⟩
   rw[h1] at this;cases this
 ·rcases h' with⟨rfl,g⟩|⟨k',x',rfl,g1,g2,g3⟩
  ·have:us.any p=true:=List.any_eq_true.2 ⟨x,List.mem_of_getElem? h1,h2⟩
   rw[g] at this;cases this
  ·rcases Nat.lt_trichotomy k k' with hl|hl|hl
   ·have:(us.take k').any p=true:=List.any_eq_true.2 ⟨x,List.mem_of_getElem? (by rw[List.getElem?_take,if_pos hl];exact h1),h2⟩
    rw[g3] at this;cases this
   ·rw[hl]
   ·have:(us.take k).any p=true:=List.any_eq_true.2 ⟨x',List.mem_of_getElem? (by rw[List.getElem?_take,if_pos hl];exact g1),g2⟩
    rw[h3] at this;cases this
theorem zO(u:aC)(id:Int)(b:Nat)(w:World)(hc:w.cell? ⟨b,0,none⟩=some (int i64 id)):
  Calls Tryz.prog 161 #[u.val,.pointer (some ⟨b,0,none⟩)] w λe w'=>e=.returned (.bool (u.id==id))/\Below w.heap.size w w':=by
 have hb:b<w.heap.size:=cell_lt hc;have hne:b≠w.heap.size:=by omega
 unfold aC.val;go_enter Tryz.func161,Tryz.ntmps161;go_wp2;go_ret;exact⟨rfl,(Below.refl _ _).alloc (Nat.le_refl _) _⟩
theorem mM(v:Value)(W:WV)(id:Int)(w:World)(h:Wl w v W):
  Calls Tryz.prog 113 #[v,int i64 id] w λe w'=>∃r:Int,e=.returned (int i64 r)/\jg (λu=>u.id==id) W.us r/\Below w.heap.size w w':=by
 have H:=aj (h);obtain⟨u1,u2,u3,u4,u5,rfl,-,-,-,h4,-⟩:=h;have U:=aj (h4);clear h4;go_enter Tryz.func113,Tryz.ntmps113;go_wp2_with fail
 have B0:Hid (Below _ w ((w.alloc (Obj.cells #[int i64 W.turn,int i64 W.next,int i64 W.wide,int i64 W.high,u1,u2,u3,u4,u5] 29)).alloc (Obj.cells #[int i64 id] 3))):=((Below.refl _ _).alloc (Nat.le_refl _) _).alloc (by simp) _;have C0:Hid (((w.alloc (Obj.cells #[int i64 W.turn,int i64 W.next,int i64 W.wide,int i64 W.high,u1,u2,u3,u4,u5] 29)).alloc (Obj.cells #[int i64 id] 3)).cell? ⟨w.heap.size+1,0,none⟩=some (int i64 id)):=dh (by simp) rfl;generalize ((w.alloc _).alloc _)=w0 at *;refine(nS 161 (by intro args w;go_simp) u4 #[.pointer (some ⟨w.heap.size+1,0,none⟩)] W.us (λu=>u.id==id) w0 (U.out.below B0.out) (λV hV k=>zO k id (w.heap.size+1) V (by rw[hV.cell (p:=⟨w.heap.size+1,0,none⟩) (cell_lt C0.out)];exact C0.out))).mono ?_;rintro e w1 ⟨r,rfl,hf,hb⟩;have F:Hid (jg (λu=>u.id==id) W.us r/\Below w.heap.size w w1):=⟨hf,B0.out.trans (hb.mono B0.out.size)⟩;clear hf hb;go_wp2;go_ret;exact⟨r,rfl,F.out.1,F.out.2⟩
theorem dS(a:Option Addr)(n c:Nat)(i:Int)(w:World)(hn:n<=9223372036854775807):
  Calls Tryz.prog 124 #[slice a n c,int i64 i] w λe w'=>e=.returned (.bool (decide (0<=i/\i<(n:Int))))/\w'=w:=by
 have hw:IntKind.i64.wrap ((n:Int)-1)=(n:Int)-1:=by rw[IntKind.wrap_i64];omega
 go_enter Tryz.func124,Tryz.ntmps124;go_wp2_with fail
 refine(bG i 0 _ w).mono ?_;rintro e w1 ⟨rfl,rfl⟩;have E:decide (0<=i/\i<=(n:Int)-1)=decide (0<=i/\i<(n:Int)):=decide_eq_decide.2 ⟨λh=>by omega,λh=>by omega⟩;rw[E];obtain⟨b,hb⟩:∃b,decide (0<=i/\i<(n:Int))=b:=⟨_,rfl⟩;rw[hb];have HB:=aj (hb);clear hb E;go_wp2;go_ret;exact⟨by rw[HB.out];rfl,rfl⟩
theorem iH(a:Option Addr)(n c:Nat)(i:Int)(w:World)(hn:n<=9223372036854775807):
  Calls Tryz.prog 125 #[slice a n c,int i64 i] w λe w'=>e=.returned (.bool (decide (0<=i/\i<(n:Int))))/\w'=w:=by
 have hw:IntKind.i64.wrap ((n:Int)-1)=(n:Int)-1:=by rw[IntKind.wrap_i64];omega
 go_enter Tryz.func125,Tryz.ntmps125;go_wp2_with fail
 refine(bG i 0 _ w).mono ?_;rintro e w1 ⟨rfl,rfl⟩;have E:decide (0<=i/\i<=(n:Int)-1)=decide (0<=i/\i<(n:Int)):=decide_eq_decide.2 ⟨λh=>by omega,λh=>by omega⟩;rw[E];obtain⟨b,hb⟩:∃b,decide (0<=i/\i<(n:Int))=b:=⟨_,rfl⟩;rw[hb];have HB:=aj (hb);clear hb E;go_wp2;go_ret;exact⟨by rw[HB.out];rfl,rfl⟩
end Go.Proofs.YtolfphmdmpehdaaGreatDoor
namespace Go.Proofs.YtolfphmdmpehdaaGreatDoor
def Er(v:Value)(n:Int):Prop:=(n=0/\v=.nilIface)\/(n≠0/\v=.iface 85 (int i64 n))
theorem Er.nil:Er .nilIface 0:=.inl ⟨rfl,rfl⟩
theorem Er.no{n:Int}(h:n≠0):Er (.iface 85 (int i64 n)) n:=.inr ⟨h,rfl⟩
open Go.RowKit
theorem rX(x a b:Int)(w:World):
  Calls Tryz.prog 163 #[int i64 x,int i64 a,int i64 b] w λe w'=>e=.returned (.bool (decide (a<=x/\x<=b)))/\w'=w:=by
 by_cases h1:a<=x
 ·by_cases h2:x<=b
  ·go_enter Tryz.func163,Tryz.ntmps163
   go_wp2;go_ret;exact⟨by simp[h1,h2],rfl⟩
  ·go_enter Tryz.func163,Tryz.ntmps163
   go_wp2;go_ret;exact⟨by simp;omega,rfl⟩
 ·go_enter Tryz.func163,Tryz.ntmps163
  go_wp2;go_ret;exact⟨by simp;omega,rfl⟩
theorem fG(x a b:Int)(w:World)(h1:a<=x)(h2:x<=b):
  Calls Tryz.prog 163 #[int i64 x,int i64 a,int i64 b] w λe w'=>e=.returned (.bool true)/\w'=w:=
 (rX x a b w).mono λe w' ⟨h,hw⟩=>⟨by rw[h,decide_eq_true ⟨h1,h2⟩],hw⟩
theorem mO(x a b:Int)(w:World)(h:x<a\/b<x):
  Calls Tryz.prog 163 #[int i64 x,int i64 a,int i64 b] w λe w'=>e=.returned (.bool false)/\w'=w:=
 (rX x a b w).mono λe w' ⟨h',hw⟩=>⟨by rw[h',decide_eq_false (by omega)],hw⟩
theorem uM(g o:Int)(w:World):
  Calls Tryz.prog 164 #[int i64 g,int i64 o] w λe w'=>∃v,e=.returned v/\Er v (Fd.bQ g o)/\w'=w:=by
 unfold Fd.bQ;by_cases h1:0<=g/\g<=3
 ·obtain⟨h1a,h1b⟩:=h1
  by_cases h2:0<=o/\o<=1000000
  ·obtain⟨Z_,h2b⟩:=h2
   rw[if_neg (by omega)];by_cases h3:0<o
   ·by_cases h4:g=0
    ·subst h4
     rw[if_neg (by omega)];go_enter Tryz.func164,Tryz.ntmps164;go_wp2_with (go_at_call 163;refine(fG _ _ _ _ (by omega) (by omega)).mono ?_;rintro e w' ⟨rfl,rfl⟩);go_ret;exact⟨_,rfl,Er.nil,rfl⟩
    ·rw[if_pos ⟨h3,h4⟩]
     go_enter Tryz.func164,Tryz.ntmps164;go_wp2_with (go_at_call 163;refine(fG _ _ _ _ (by omega) (by omega)).mono ?_;rintro e w' ⟨rfl,rfl⟩);go_ret;exact⟨_,rfl,Er.no (by decide),rfl⟩
   ·rw[if_neg (by omega)]
    go_enter Tryz.func164,Tryz.ntmps164;go_wp2_with (go_at_call 163;refine(fG _ _ _ _ (by omega) (by omega)).mono ?_;rintro e w' ⟨rfl,rfl⟩);go_ret;exact⟨_,rfl,Er.nil,rfl⟩
  ·rw[if_pos (by omega)]
   have h2':o<0\/1000000<o:=by omega
   clear h2;go_enter Tryz.func164,Tryz.ntmps164;go_wp2_with fail
   refine(fG _ _ _ _ (by omega) (by omega)).mono ?_;rintro e w' ⟨rfl,rfl⟩;go_wp2_with fail
   refine(mO _ _ _ _ h2').mono ?_;rintro e w' ⟨rfl,rfl⟩;go_wp2;go_ret;exact⟨_,rfl,Er.no (by decide),rfl⟩
 ·rw[if_pos (by omega)]
  have h1':g<0\/3<g:=by omega
  clear h1;go_enter Tryz.func164,Tryz.ntmps164;go_wp2_with fail
  refine(mO _ _ _ _ h1').mono ?_;rintro e w' ⟨rfl,rfl⟩;go_wp2;go_ret;exact⟨_,rfl,Er.no (by decide),rfl⟩
theorem Lh(g o:Int)(w:World)(h:Fd.bQ g o=0):
  Calls Tryz.prog 164 #[int i64 g,int i64 o] w λe w'=>e=.returned .nilIface/\w'=w:=by
 refine(uM g o w).mono ?_;rintro e w' ⟨v,rfl,hv,rfl⟩;rcases hv with⟨_,rfl⟩|⟨hn,_⟩
 ·exact⟨rfl,rfl⟩
 ·exact absurd h hn
theorem Fv(g o f:Int)(w:World)(h:Fd.bQ g o=f)(hf:f≠0):
  Calls Tryz.prog 164 #[int i64 g,int i64 o] w λe w'=>e=.returned (.iface 85 (int i64 f))/\w'=w:=by
 refine(uM g o w).mono ?_;rintro e w' ⟨v,rfl,hv,rfl⟩;rw[h] at hv;rcases hv with⟨hn,_⟩|⟨_,rfl⟩
 ·exact absurd hn hf
 ·exact⟨rfl,rfl⟩
def Fl(w:World)(v:Value)(W H:Int)(gs os:List Int):Prop:=∃u1 u2,v=.agg #[int i64 W,int i64 H,u1,u2]/\Ro w u1 gs/\Ro w u2 os
theorem Fl.below{w w':World}{v:Value}{W H:Int}{gs os:List Int}(h:Fl w v W H gs os)(hb:Below w.heap.size w w'):Fl w' v W H gs os:=by
 obtain⟨u1,u2,h1,h2,h3⟩:=h;exact⟨u1,u2,h1,h2.below hb,h3.below hb⟩
structure Bf(w:World)(z:Nat)(W H:Int)(u1 u2:Value):Prop where
 c0:w.cell? ⟨z,0,none⟩=some (int i64 W)
 c1:w.cell? ⟨z,1,none⟩=some (int i64 H)
 c2:w.cell? ⟨z,2,none⟩=some u1
 c3:w.cell? ⟨z,3,none⟩=some u2
theorem Bf.lt{w:World}{z:Nat}{W H:Int}{u1 u2:Value}(h:Bf w z W H u1 u2):z<w.heap.size:=cell_lt h.c0
theorem Bf.below{w w':World}{z n:Nat}{W H:Int}{u1 u2:Value}(h:Bf w z W H u1 u2)(hb:Below n w w')(hn:z<n):Bf w' z W H u1 u2:=
 ⟨by rw[hb.cell (p:=⟨z,0,none⟩) hn];exact h.c0,by rw[hb.cell (p:=⟨z,1,none⟩) hn];exact h.c1,by rw[hb.cell (p:=⟨z,2,none⟩) hn];exact h.c2,by rw[hb.cell (p:=⟨z,3,none⟩) hn];exact h.c3⟩
theorem Bf.drewN{w:World}{z:Nat}{W H:Int}{u1 u2:Value}(h:Bf w z W H u1 u2)(n:Nat):Bf (w.drewN n) z W H u1 u2:=h.below (_root_.Go.below_drewN (Below.refl _ _) n) h.lt
theorem Bf.mk'{w:World}{z:Nat}(W H:Int)(u1 u2:Value)(hz:w.heap.size=z):Bf (w.alloc (.cells #[int i64 W,int i64 H,u1,u2] 25)) z W H u1 u2:=by
 subst hz;exact⟨by simp,by simp,by simp,by simp⟩
theorem uN(a b:Option Addr)(c d:Nat)(W H:Int)(gs os:List Int)(w:World)(w1:1<=W)(w2:W<=12)(h1:1<=H)(h2:H<=12)(hg:(gs.length:Int)=W*H)(ho:(os.length:Int)=W*H)
  (c1:gs.length<=c) (c2:c<=9223372036854775807) (d1:os.length<=d) (d2:d<=9223372036854775807) (ha:Cells w a gs) (hb:Cells w b os):
  Calls Tryz.prog 121 #[.agg #[int i64 W,int i64 H,slice a gs.length c,slice b os.length d]] w λe w'=>∃v,e=.returned v/\Er v (Fd.bU gs os)/\Below w.heap.size w w':=by
 have Ha:=aj (ha);have Hb:=aj (hb);have hn:W*H<=144:=by
  have:=Int.mul_le_mul w2 h2 (by omega) (by omega);omega
 have Ho:Hid (os.length=gs.length):=by unfold Hid;omega
 have e1:W*H=(gs.length:Int):=by omega
 have e2:=Ho.out;clear ha hb;rw[e2] at d1 ⊢;clear hg ho e2;generalize hw0:w.alloc (Obj.cells #[int i64 W,int i64 H,slice a gs.length c,slice b gs.length d] 25)=w0;have B0:Hid (Below w.heap.size w w0):=by rw[<-hw0];exact(Below.refl _ _).alloc (Nat.le_refl _) _
 have f0:w0.cell? ⟨w.heap.size,2,none⟩=some (slice a gs.length c):=by rw[<-hw0];simp
 have f1:w0.cell? ⟨w.heap.size,3,none⟩=some (slice b gs.length d):=by rw[<-hw0];simp
 have Hw:=aj (hw0);clear hw0;have Ca:=aj (Ha.out.below B0.out);have Cb:=aj (Hb.out.below B0.out);clear Ha Hb;go_enter Tryz.func121,Tryz.ntmps121;go_wp2_with (go_at_call 163;refine(fG _ _ _ _ (by omega) (by omega)).mono ?_;rintro e w' ⟨rfl,rfl⟩);rw[Hw.out];go_loopw [36] (λi W'=>∃(k q:Nat),k<=gs.length/\i=int i64 (k:Nat)/\Fd.bU (gs.drop k) (os.drop k)=Fd.bU gs os/\W'=w0.drewN q) (λi _=>gs.length-(intOf i).toNat)
 case atStart=>exact⟨0,0,Nat.zero_le _,rfl,by simp,rfl⟩
 case round=>
  obtain⟨k,q,hk,rfl,hf,rfl⟩:=hrel;have Hf:=aj (hf);clear hf;by_cases h0:k=gs.length
  ·subst h0
   go_wp2;go_ret;refine⟨_,rfl,?_,_root_.Go.below_drewN B0.out q⟩;rw[<-Hf.out,List.drop_of_length_le (Nat.le_refl _)];exact Er.nil
  ·have hkx:k<gs.length:=by omega
   have hky:k<os.length:=by rw[Ho.out];exact hkx
   obtain⟨x,rfl,-,hx⟩:=Ca.out (by intro h;rw[h] at hkx;simp at hkx);obtain⟨y,rfl,-,hy⟩:=Cb.out (by intro h;rw[h] at hky;simp at hky);have cx:=hx k gs[k] (List.getElem?_eq_getElem hkx);have cy:=hy k os[k] (List.getElem?_eq_getElem hky);have Te:=Fd.nI gs os k gs[k] os[k] (List.getElem?_eq_getElem hkx) (List.getElem?_eq_getElem hky);rw[Hf.out] at Te;have HT:Hid _:=Te;generalize gs[k]=p at *;generalize os[k]=r at *;clear hx hy Te;have f0q:(w0.drewN q).cell? _=some _:=f0;have f1q:(w0.drewN q).cell? _=some _:=f1;have cxq:(w0.drewN q).cell? _=some _:=cx;have cyq:(w0.drewN q).cell? _=some _:=cy;have Bq:Hid (∀n,Below w.heap.size w ((w0.drewN q).drewN n)):=λn=>_root_.Go.below_drewN (_root_.Go.below_drewN B0.out q) n
   have Eq:Hid (∀n,(w0.drewN q).drewN n=w0.drewN (q+n)):=λn=>by rw[World.drewN_drewN]
   clear cx cy;generalize w0.drewN q=wq at *;by_cases hc:Fd.bQ p r=0
   ·have Hc:=aj (hc)
    clear hc;go_wp2;go_quiet ((go_at_call 164;exact Calls.quiet_of_same (Lh _ _ _ Hc.out)));go_wp2;go_round
    case rel=>exact⟨k+1,q+nq,by omega,by go_num,by have:=HT.out;rw[if_pos Hc.out] at this;exact this.symm,Eq.out _⟩
    case measure=>simp[intOf];omega
   ·generalize Lj:Fd.bQ p r=ff at *
    have Hc:=aj (Lj);have Hn:Hid (ff≠0):=hc;clear hc Lj;go_wp2;go_quiet ((go_at_call 164;exact Calls.quiet_of_same (Fv _ _ _ _ Hc.out Hn.out)));go_wp2;go_ret;refine⟨_,rfl,?_,Bq.out _⟩;rw[HT.out,if_neg Hn.out];exact Er.no Hn.out
theorem uO(u1 u2:Value)(W H:Int)(w:World)(h:W<1\/12<W\/H<1\/12<H):
  Calls Tryz.prog 121 #[.agg #[int i64 W,int i64 H,u1,u2]] w λe w'=>e=.returned (.iface 85 (int i64 1))/\Below w.heap.size w w':=by
 by_cases h1:1<=W/\W<=12
 ·obtain⟨h1a,h1b⟩:=h1
  have h2:H<1\/12<H:=by omega
  clear h;go_enter Tryz.func121,Tryz.ntmps121;go_wp2_with fail
  refine(fG _ _ _ _ (by omega) (by omega)).mono ?_;rintro e w' ⟨rfl,rfl⟩;go_wp2_with fail
  refine(mO _ _ _ _ h2).mono ?_;rintro e w' ⟨rfl,rfl⟩;go_wp2;go_ret;exact⟨rfl,(Below.refl _ _).alloc (Nat.le_refl _) _⟩
 ·have h2:W<1\/12<W:=by omega
  clear h h1;go_enter Tryz.func121,Tryz.ntmps121;go_wp2_with fail
  refine(mO _ _ _ _ h2).mono ?_;rintro e w' ⟨rfl,rfl⟩;go_wp2;go_ret;exact⟨rfl,(Below.refl _ _).alloc (Nat.le_refl _) _⟩
theorem uP(a b:Option Addr)(n m c d:Nat)(W H:Int)(w:World)(w1:1<=W)(w2:W<=12)(h1:1<=H)(h2:H<=12)(h:(n:Int)≠W*H\/(m:Int)≠W*H):
  Calls Tryz.prog 121 #[.agg #[int i64 W,int i64 H,slice a n c,slice b m d]] w λe w'=>e=.returned (.iface 85 (int i64 3))/\Below w.heap.size w w':=by
 have hn:W*H<=144:=by
  have:=Int.mul_le_mul w2 h2 (by omega) (by omega);omega
 have hp:0<=W*H:=Int.mul_nonneg (by omega) (by omega);by_cases e:(n:Int)=W*H
 ·have e2:¬(m:Int)=W*H:=by omega
  have e':=e.symm;rw[e'] at e2;clear h e;go_enter Tryz.func121,Tryz.ntmps121;go_wp2_with (go_at_call 163;refine(fG _ _ _ _ (by omega) (by omega)).mono ?_;rintro e w' ⟨rfl,rfl⟩);go_ret;exact⟨rfl,(Below.refl _ _).alloc (Nat.le_refl _) _⟩
 ·clear h
  go_enter Tryz.func121,Tryz.ntmps121;go_wp2_with (go_at_call 163;refine(fG _ _ _ _ (by omega) (by omega)).mono ?_;rintro e w' ⟨rfl,rfl⟩);go_ret;exact⟨rfl,(Below.refl _ _).alloc (Nat.le_refl _) _⟩
theorem check_any(v:Value)(W H:Int)(gs os:List Int)(w:World)(h:Fl w v W H gs os):
  Calls Tryz.prog 121 #[v] w λe w'=>∃u,e=.returned u/\Er u (Fd.fault W H gs os)/\Below w.heap.size w w':=by
 obtain⟨u1,u2,rfl,⟨a,c,rfl,c1,c2,ca⟩,⟨b,d,rfl,d1,d2,cb⟩⟩:=h;unfold Fd.fault;by_cases h1:W<1\/12<W\/H<1\/12<H
 ·rw[if_pos h1]
  exact(uO _ _ W H w h1).mono λe w' ⟨he,hb⟩=>⟨_,he,Er.no (by decide),hb⟩
 ·rw[if_neg h1]
  by_cases h2:(gs.length:Int)≠W*H\/(os.length:Int)≠W*H
  ·rw[if_pos h2]
   exact(uP _ _ _ _ _ _ W H w (by omega) (by omega) (by omega) (by omega) h2).mono λe w' ⟨he,hb⟩=>⟨_,he,Er.no (by decide),hb⟩
  ·rw[if_neg h2]
   exact uN a b c d W H gs os w (by omega) (by omega) (by omega) (by omega) (by omega) (by omega) c1 c2 d1 d2 ca cb
theorem Fz{p:Int->Bool}{xs:List Int}{k:Nat}(h:k<xs.length):(xs.take (k+1)).any p=((xs.take k).any p||p xs[k]):=by
 rw[List.take_succ_eq_append_getElem h,List.any_append];simp
theorem Bd(u q:Value)(xs:List Int)(p:Int->Bool)(w:World)(hu:Ro w u xs)
  (hp:∀x∈xs,Calls Tryz.prog 232 #[int i64 x,q] w λe w'=>e=.returned (.bool (p x))/\w'=w):
  Calls Tryz.prog 165 #[u,.func (Fn.func 232) #[] #[q]] w λe w'=>∃r:Int,e=.returned (int i64 r)/\decide (0<=r)=xs.any p/\w'=w:=by
 obtain⟨a,c,rfl,c1,c2,ca⟩:=hu;have Ca:=aj (ca);have Hp:=aj (hp);clear ca hp;go_enter Tryz.func165,Tryz.ntmps165;go_wp2;go_loop [8] (λi=>∃k:Nat,k<=xs.length/\i=int i64 (k:Nat)/\(xs.take k).any p=false) (λi=>xs.length-(intOf i).toNat)
 case atStart=>exact⟨0,Nat.zero_le _,rfl,by simp⟩
 case round=>
  obtain⟨k,hk,rfl,ht⟩:=hrel;have Ht:=aj (ht);clear ht;by_cases h0:k=xs.length
  ·subst h0
   go_wp2;go_ret;refine⟨_,rfl,?_,rfl⟩;have:=Ht.out;rw[List.take_of_length_le (Nat.le_refl _)] at this;rw[this];decide
  ·have hkx:k<xs.length:=by omega
   obtain⟨x,rfl,-,hx⟩:=Ca.out (by intro h;rw[h] at hkx;simp at hkx);have cx:=hx k xs[k] (List.getElem?_eq_getElem hkx);have hc:=Hp.out xs[k] (List.getElem_mem hkx);have Hs:Hid _:=Fz (p:=p) hkx;have Hm:Hid (p xs[k]=true->xs.any p=true):=λh=>List.any_eq_true.2 ⟨_,List.getElem_mem hkx,h⟩
   generalize xs[k]=y at *;clear hx;cases hy:p y with
   |true=>
    rw[hy] at hc;have Hc:=aj (hc);have Hy:=aj (hy);clear hc hy;go_wp2_with fail
    refine Calls.mono Hc.out ?_;rintro e w1 ⟨rfl,rfl⟩;go_wp2;go_ret;exact⟨_,rfl,by rw[Hm.out Hy.out,decide_eq_true (by omega)],rfl⟩
   |false=>
    rw[hy] at hc;have Hc:=aj (hc);have Hy:=aj (hy);clear hc hy;go_wp2_with fail
    refine Calls.mono Hc.out ?_;rintro e w1 ⟨rfl,rfl⟩;go_wp2;go_round
    case rel=>exact⟨k+1,by omega,by go_num,by have:=Hs.out;rw[Ht.out,Hy.out] at this;exact this⟩
    case measure=>simp[intOf];omega
theorem FD(u q:Value)(xs:List Int)(p:Int->Bool)(w:World)(hu:Ro w u xs)
  (hp:∀x∈xs,Calls Tryz.prog 232 #[int i64 x,q] w λe w'=>e=.returned (.bool (p x))/\w'=w):
  Calls Tryz.prog 123 #[u,.func (Fn.func 232) #[] #[q]] w λe w'=>e=.returned (.bool (xs.any p))/\w'=w:=by
 have H:=Bd u q xs p w hu hp;have H':=aj (H);clear H hp;go_enter Tryz.func123,Tryz.ntmps123;go_wp2_with fail
 refine Calls.mono H'.out ?_;rintro e w1 ⟨r,rfl,hr,rfl⟩;have Hr:=aj (hr);clear hr;go_wp2;go_ret;exact⟨by show Ending.returned (.bool (decide (0<=r)))=_;rw[Hr.out],rfl⟩
theorem FH(x:Int)(b:Nat)(a:Option Addr)(n c:Nat)(w:World)(hb:w.cell? ⟨b,2,none⟩=some (slice a n c))(hn:n<=9223372036854775807):
  Calls Tryz.prog 232 #[int i64 x,.pointer (some ⟨b,0,none⟩)] w λe w'=>e=.returned (.bool (!decide (0<=x/\x<n)))/\w'=w:=by
 go_enter Tryz.func232,Tryz.ntmps232;go_wp2_with (go_at_call 163;refine(rX _ _ _ _).mono ?_;rintro e w' ⟨rfl,rfl⟩);go_ret;exact⟨by show Ending.returned (.bool (!decide (0<=x)|| !decide (x<=(n:Int)-1)))=_;rw[show(!decide (0<=x)|| !decide (x<=(n:Int)-1))= !decide (0<=x/\x<n) by rw[<-Bool.not_and,<-Bool.decide_and];congr 1;rw[decide_eq_decide];omega],rfl⟩
theorem rY(v u:Value)(W H:Int)(gs os xs:List Int)(w:World)(h:Fl w v W H gs os)(hu:Ro w u xs):
  Calls Tryz.prog 190 #[v,u] w λe w'=>∃u,e=.returned u/\Er u (Fd.dW (Fd.fault W H gs os) gs.length xs)/\Below w.heap.size w w':=by
 have F0:=aj (h);have U0:=aj (hu);obtain⟨u1,u2,rfl,⟨a,c,rfl,c1,c2,ca⟩,⟨b,d,rfl,d1,d2,cb⟩⟩:=h;clear hu ca cb d1 d2;generalize hw0:w.alloc (Obj.cells #[int i64 W,int i64 H,slice a gs.length c,slice b os.length d] 25)=w0;have B0:Hid (Below w.heap.size w w0):=by rw[<-hw0];exact(Below.refl _ _).alloc (Nat.le_refl _) _
 have f0:Hid (w0.cell? ⟨w.heap.size,2,none⟩=some (slice a gs.length c)):=by rw[<-hw0];unfold Hid;simp
 have Z0:Hid (w.heap.size<w0.heap.size):=by rw[<-hw0];unfold Hid;simp
 have Hw:=aj (hw0);clear hw0;go_enter Tryz.func190,Tryz.ntmps190;go_wp2_with fail
 rw[Hw.out];refine(check_any _ W H gs os _ (F0.out.below B0.out)).mono ?_;rintro e w1 ⟨v1,rfl,hv,hb⟩;have B1:=aj (B0.out.trans (hb.mono B0.out.size));have f1:Hid (w1.cell? ⟨w.heap.size,2,none⟩=some (slice a gs.length c)):=by
  unfold Hid;rw[hb.cell (p:=⟨w.heap.size,2,none⟩) Z0.out];exact f0.out
 have U1:=aj (U0.out.below B1.out);clear hb;rcases hv with⟨hz,rfl⟩|⟨hz,rfl⟩
 ·have Hz:=aj (hz)
  clear hz;have hh:=FD u (.pointer (some ⟨w.heap.size,0,none⟩)) xs (λx=> !decide (0<=x/\x<gs.length)) w1 U1.out (λx _=>FH x _ a gs.length c w1 f1.out (by omega));have Ea:Hid (Fd.dW (Fd.fault W H gs os) gs.length xs=if xs.any (λx=> !decide (0<=x/\x<gs.length)) then 6 else 0):=by
   unfold Hid Fd.dW;rw[if_neg (by rw[Hz.out];decide)];cases hx:xs.all (λx=>decide (0<=x/\x<gs.length)) with
   |true=>
    rw[if_pos rfl,if_neg];rw[List.all_eq_true] at hx;simp only[List.any_eq_true,Bool.not_eq_true',not_exists,not_and];intro x hm;rw[hx x hm];decide
   |false=>
    rw[if_neg (by decide),if_pos];rw[List.all_eq_false] at hx;obtain⟨x,hm,hx⟩:=hx;exact List.any_eq_true.2 ⟨x,hm,by rw[Bool.not_eq_true] at hx;rw[hx];rfl⟩
  generalize xs.any _=y at *;have Hh:=aj (hh);clear hh;cases y with
  |true=>
   go_wp2_with fail
   refine Calls.mono Hh.out ?_;rintro e w2 ⟨rfl,rfl⟩;go_wp2;go_ret;exact⟨_,rfl,by rw[Ea.out];exact Er.no (by decide),B1.out⟩
  |false=>
   go_wp2_with fail
   refine Calls.mono Hh.out ?_;rintro e w2 ⟨rfl,rfl⟩;go_wp2;go_ret;exact⟨_,rfl,by rw[Ea.out];exact Er.nil,B1.out⟩
 ·have Hz:=aj (hz)
  clear hz;have Ea:Hid (Fd.dW (Fd.fault W H gs os) gs.length xs=Fd.fault W H gs os):=by
   unfold Hid Fd.dW;rw[if_pos Hz.out]
  go_wp2;go_ret;exact⟨_,rfl,by rw[Ea.out];exact Er.no Hz.out,B1.out⟩
theorem Ro.wL{w:World}{z:Nat}(a:Int)(hz:w.heap.size=z):Ro (w.alloc (.cells #[int i64 a] 3)) (slice (some ⟨z,0,none⟩) 1 1) [a]:=by
 subst hz;refine⟨_,1,rfl,Nat.le_refl _,by omega,λ_=>⟨_,rfl,by simp,λi d hd=>?_⟩⟩;rw[Addr.add_lit,Nat.zero_add]
 match i,hd with
 |0,hd=>simp at hd;subst hd;simp
theorem Ro.Vx{w:World}{z:Nat}(a b:Int)(hz:w.heap.size=z):Ro (w.alloc (.cells #[int i64 a,int i64 b] 3)) (slice (some ⟨z,0,none⟩) 2 2) [a,b]:=by
 subst hz;refine⟨_,2,rfl,Nat.le_refl _,by omega,λ_=>⟨_,rfl,by simp,λi d hd=>?_⟩⟩;rw[Addr.add_lit,Nat.zero_add]
 match i,hd with
 |0,hd=>simp at hd;subst hd;simp
 |1,hd=>simp at hd;subst hd;simp
theorem Bg{F:Int}{n:Nat}{a:Int}(h:Fd.dW F n [a]=0):F=0/\0<=a/\a<n:=by
 unfold Fd.dW at h;split at h
 ·omega
 ·rename_i hF
  have hF:F=0:=by omega
  split at h
  ·rename_i hx
   simp at hx;omega
  ·omega
theorem qL{W H:Nat}{gs os:List Int}{a:Nat}(G:Fd.Good W H gs os)(ha:a<W*H):Fd.dW (Fd.fault W H gs os) gs.length [(a:Int)]=0:=by
 unfold Fd.dW;rw[Fd.dH G,if_neg (by decide),if_pos];rw[G.gl];simp;omega
theorem uQ(g:Int)(fl:Bool)(w:World):
  Calls Tryz.prog 191 #[int i64 g,.bool fl] w λe w'=>e=.returned (int i64 (Fd.onto g fl))/\w'=w:=by
 have O:Hid (∀u,u=Fd.onto g fl->Ending.returned (int i64 u)=.returned (int i64 (Fd.onto g fl))):=λu h=>by rw[h]
 unfold Fd.onto at O;by_cases h1:g=1
 ·subst h1
  go_enter Tryz.func191,Tryz.ntmps191;go_wp2;go_ret;exact⟨O.out 0 rfl,rfl⟩
 ·by_cases h2:g=2
  ·subst h2
   cases fl
   ·go_enter Tryz.func191,Tryz.ntmps191
    go_wp2;go_ret;exact⟨O.out 0 rfl,rfl⟩
   ·go_enter Tryz.func191,Tryz.ntmps191
    go_wp2;go_ret;exact⟨O.out 1 rfl,rfl⟩
  ·by_cases h3:g=3
   ·subst h3
    cases fl
    ·go_enter Tryz.func191,Tryz.ntmps191
     go_wp2;go_ret;exact⟨O.out 2 rfl,rfl⟩
    ·go_enter Tryz.func191,Tryz.ntmps191
     go_wp2;go_ret;exact⟨O.out 1 rfl,rfl⟩
   ·go_enter Tryz.func191,Tryz.ntmps191
    go_wp2;go_ret;exact⟨O.out 1 (by rw[if_neg h1,if_neg h2,if_neg h3]),rfl⟩
theorem rZ(v:Value)(W H:Nat)(gs os:List Int)(a:Nat)(g:Int)(fl:Bool)(w:World)(h:Fl w v W H gs os)(G:Fd.Good W H gs os)(ha:a<W*H)(hg:gs[a]? =some g):
  Calls Tryz.prog 152 #[v,int i64 (a:Nat),.bool fl] w λe w'=>e=.returned (.tuple #[int i64 (Fd.onto g fl),.nilIface])/\Below w.heap.size w w':=by
 have F0:=aj (h);have HF:=aj (qL G ha);obtain⟨u1,u2,rfl,⟨a1,c,rfl,c1,c2,ca⟩,⟨b1,d,rfl,d1,d2,cb⟩⟩:=h;have gl:=G.gl;have hal:a<gs.length:=by omega
 have gp:=G.pos.2;obtain⟨x,rfl,xl,hx⟩:=ca (by intro e;rw[e] at hal;simp at hal);have cx:=aj (hx a g hg);have Xl:=aj (xl);have gl2:gs.length<=144:=by omega
 clear cb hx xl G hg gl gp ha;go_enter Tryz.func152,Tryz.ntmps152;go_wp2_with fail
 refine(rY _ _ W H gs os _ _ (F0.out.below (((Below.refl _ _).alloc (Nat.le_refl _) _).alloc (by simp) _)) (Ro.wL a (by simp))).mono ?_;rintro e w1 ⟨v1,rfl,hv,hb⟩;have B1:=aj ((((Below.refl _ _).alloc (Nat.le_refl _) _).alloc (by simp) _).trans (hb.mono (by simp;omega)));have X1:=((Bf.mk' (w:=w) W H (slice (some x) gs.length c) (slice b1 os.length d) rfl).below ((Below.refl _ _).alloc (Nat.le_refl _) (Obj.cells #[Value.int IntKind.i64 a] 3)) (by simp)).below hb (by simp;omega);have c2:=X1.c2;have cg:w1.cell? (x.add a)=some (int i64 g):=by rw[B1.out.cell (p:=x.add a) (by rw[add_block];exact Xl.out)];exact cx.out
 rw[HF.out] at hv;clear hb X1;rcases hv with⟨hz,rfl⟩|⟨hz,rfl⟩
 ·clear hz
  go_wp2_with fail
  refine(uQ _ _ _).mono ?_;rintro e w2 ⟨rfl,rfl⟩;go_wp2;go_ret2;exact⟨rfl,B1⟩
 ·exact absurd rfl hz
theorem Lm(u:aC)(at_:Int)(b:Nat)(w:World)(hc:w.cell? ⟨b,0,none⟩=some (int i64 at_)):
  Calls Tryz.prog 166 #[u.val,.pointer (some ⟨b,0,none⟩)] w λe w'=>e=.returned (.bool (u.at_==at_))/\Below w.heap.size w w':=by
 have hb:b<w.heap.size:=cell_lt hc;have hne:b≠w.heap.size:=by omega
 unfold aC.val;go_enter Tryz.func166,Tryz.ntmps166;go_wp2;go_ret;exact⟨rfl,(Below.refl _ _).alloc (Nat.le_refl _) _⟩
theorem Lp(g:Int)(fl:Bool):Fd.onto g fl=0\/0<Fd.onto g fl:=by
 unfold Fd.onto;cases fl<;>(repeat' split)<;>omega
theorem nT(f us:Value)(P_ H:Nat)(gs os:List Int)(ahead:List aC)(a:Nat)(g:Int)(fl:Bool)(w:World)(hf:Fl w f P_ H gs os)(G:Fd.Good P_ H gs os)(hu:jF w us ahead)(ha:a<P_*H)(hg:gs[a]? =some g):
  Calls Tryz.prog 126 #[f,us,int i64 (a:Nat),.bool fl] w λe w'=>e=.returned (.bool (Wd.open_ gs ahead (a:Nat) fl))/\Below w.heap.size w w':=by
 have F:=aj (hf);have U:=aj (hu);have HG:=aj (G);have AT:Hid (a<P_*H/\gs[a]? =some g):=⟨ha,hg⟩;have OP:Hid (Wd.open_ gs ahead (a:Nat) fl=(decide (0<Fd.onto g fl)&& !ahead.any (λu=>u.at_==(a:Int)))):=by
  unfold Hid Wd.open_;rw[Int.toNat_natCast,List.getD_eq_getElem?_getD,hg];rfl
 obtain⟨u1,u2,rfl,h1,h2⟩:=hf;clear h1 h2 G ha hg hu;go_enter Tryz.func126,Tryz.ntmps126;go_wp2_with fail
 have B0:Hid (Below _ w ((w.alloc (Obj.cells #[int i64 (P_:Int),int i64 (H:Int),u1,u2] 25)).alloc (Obj.cells #[int i64 (a:Int)] 3))):=((Below.refl _ _).alloc (Nat.le_refl _) _).alloc (by simp) _;have C0:Hid (((w.alloc (Obj.cells #[int i64 (P_:Int),int i64 (H:Int),u1,u2] 25)).alloc (Obj.cells #[int i64 _] 3)).cell? ⟨w.heap.size+1,0,none⟩=some (int i64 (a:Int))):=dh (by simp) rfl;generalize ((w.alloc _).alloc _)=w0 at *;refine(rZ _ P_ H gs os a g fl w0 (F.out.below B0.out) HG.out AT.out.1 AT.out.2).mono ?_;rintro e w1 ⟨rfl,hb1⟩;have B1:=aj (B0.out.trans (hb1.mono B0.out.size));have C1:Hid (w1.cell? ⟨w.heap.size+1,0,none⟩=some (int i64 (a:Int))):=by unfold Hid;rw[hb1.cell (p:=⟨w.heap.size+1,0,none⟩) (cell_lt C0.out)];exact C0.out
 clear hb1 C0;obtain⟨o,ho⟩:∃o,Fd.onto g fl=o:=⟨_,rfl⟩;have OR:=Lp g fl;rw[ho] at OP OR ⊢;clear ho;rcases OR with rfl|hpos
 ·have E:Hid (Wd.open_ gs ahead (a:Nat) fl=false):=by unfold Hid;rw[OP.out];rfl
  go_wp2;go_ret;exact⟨by rw[E.out];rfl,B1.out⟩
 ·have E:Hid (Wd.open_ gs ahead (a:Nat) fl= !ahead.any (λu=>u.at_==(a:Int))):=by unfold Hid;rw[OP.out,decide_eq_true hpos];rfl
  go_wp2_with fail
  refine(kX 166 (by intro args w;go_simp) us #[.pointer (some ⟨w.heap.size+1,0,none⟩)] ahead (λu=>u.at_==(a:Int)) w1 (U.out.below B1.out) (λV hV k=>Lm k (a:Int) (w.heap.size+1) V (by rw[hV.cell (p:=⟨w.heap.size+1,0,none⟩) (cell_lt C1.out)];exact C1.out))).mono ?_;rintro e w2 ⟨rfl,hb2⟩;have B2:=aj (B1.out.trans (hb2.mono B1.out.size));obtain⟨m,hm⟩:∃m,ahead.any (λu=>u.at_==(a:Int))=m:=⟨_,rfl⟩;rw[hm] at E ⊢;clear hb2 hm;go_wp2;go_ret;exact⟨by rw[E.out];rfl,B2.out⟩
open Go
section
variable {P:Program} {ops:Array Oper} {md:Region.Mode} {C:World->Prop}
def fQ(P:Program)(ops:Array Oper)(C:World->Prop)(o:Oper)(v:Value)(a:Act):Prop:=
 (Region.wanted o (yielded ops a.tmps)=true/\∀W,C W->((execOp a.eval o).run P W=.ok (.value v) W\/((execOp a.eval o).run P W=.ok .skip W/\v=undef)\/
  ∃f args,(execOp a.eval o).run P W=.ok (.enter f args) W/\Calls P f args W (λe w'=>e=.returned v/\C w')))\/
 (Region.wanted o (yielded ops a.tmps)=false/\v=undef)
def FM(P:Program)(ops:Array Oper)(C:World->Prop)(i:Nat)(K:Act->Prop)(a:Act):Prop:=
 match ops[i]? with
 |none=>K a
 |some o=>∃v,fQ P ops C o v a/\K (a.put o.dst v)
theorem FN{i:Nat}{a:Act}{K K':Act->Prop}(h:∀a,K a->K' a)(hh:FM P ops C i K a):FM P ops C i K' a:=by
 unfold FM at *;split
 ·rename_i ho
  simp only[ho] at hh;exact h _ hh
 ·rename_i o ho
  simp only[ho] at hh;obtain⟨v,h1,h2⟩:=hh;exact⟨v,h1,h _ h2⟩
theorem fQ.of_same{o:Oper}{v:Value}{a a':Act}(hy:fQ P ops C o v a)(he:execOp a'.eval o=execOp a.eval o)
  (hw:Region.wanted o (yielded ops a'.tmps)=Region.wanted o (yielded ops a.tmps)):fQ P ops C o v a':=by
 unfold fQ at *;rw[he,hw];exact hy
theorem Ls{j:Nat}{oi oj:Oper}{v:Value}(hj:ops[j]? =some oj)(hap:oi.apart ops oj=true)
  (hsi:∀cs b,oi.op≠ .select cs b) (hsj:∀cs b,oj.op≠ .select cs b) {K:Act->Prop} {a:Act}
  (hy:fQ P ops C oi v a) (h:FM P ops C j K (a.put oi.dst v)):
  FM P ops C j (λa'=>fQ P ops C oi v a'/\K (a'.put oi.dst v)) a:=by
 obtain⟨h1,h2,h3⟩:=Oper.apart_spec hap;unfold FM at *;simp only[hj] at *;obtain⟨u,hu,hk⟩:=h;refine⟨u,hu.of_same (execOp_put oj hsj a _ v h1).symm (wanted_put oj a _ v h1).symm,hy.of_same (execOp_put oi hsi a _ u h3) (wanted_put oi a _ u h3),?_⟩;rw[<-Act.put_comm a v u h2];exact hk
theorem uS{i:Nat}{a:Act}{W:World}{K:Act->Prop}{K':Act->World->Prop}{Q':Exit->Act->World->Prop}(h:∀a W,K a->C W->K' a W)(hh:FM P ops C i K a)(hW:C W):wpOp P ops Q' i K' a W:=by
 unfold FM at hh;unfold wpOp;split
 ·rename_i ho
  simp only[ho] at hh;exact h _ _ hh hW
 ·rename_i o ho
  simp only[ho] at hh;obtain⟨v,hy,hk⟩:=hh;rcases hy with⟨hw,hr⟩|⟨hw,rfl⟩
  ·simp only[hw,if_true]
   refine .inl ?_;unfold Oper.wp;rcases hr W hW with e|⟨e,rfl⟩|⟨f,args,e,hc⟩
   ·rw[e]
    exact h _ _ hk hW
   ·rw[e]
    exact h _ _ hk hW
   ·rw[e]
    exact hc.mono λe w' ⟨he,hw'⟩=>by subst he;exact h _ _ hk hw'
  ·simp only[hw]
   exact h _ _ hk hW
def nU(P:Program)(md:Region.Mode)(ops:Array Oper)(C:World->Prop)(n:Nat)(L:Array Bool->Act->Prop):Nat->Array Bool->Act->Prop
 |0,listed,a=>L listed a
 |f+1,listed,a=>
  Region.ready md ops listed≠[]/\∀i∈Region.ready md ops listed,i<n/\FM P ops C i (nU P md ops C n L f (listed.setIfInBounds i true)) a
theorem jH{n g:Nat}{L:Array Bool->Act->Prop}{Q':Exit->Act->World->Prop}(hL:∀listed a W,L listed a->C W->wpAny P md ops Q' g listed a W):
  ∀(f:Nat) (listed:Array Bool) (a:Act) (W:World),nU P md ops C n L f listed a->C W->wpAny P md ops Q' (f+g) listed a W
 |0,listed,a,W,h,hW=>by rw[Nat.zero_add];exact hL _ _ _ h hW
 |f+1,listed,a,W,h,hW=>by
  rw[show f+1+g=(f+g)+1 by omega];exact⟨λh0=>absurd h0 h.1,λi hi=>uS (λa' W' h' hW'=>jH hL f _ a' W' h' hW') (h.2 i hi).2 hW⟩
theorem r_{n i:Nat}{oi:Oper}{v:Value}{L:Array Bool->Act->Prop}(hi:ops[i]? =some oi)(hsel:∀(j:Nat) (o:Oper) cs b,ops[j]? =some o->o.op≠ .select cs b)
  (hs:Region.sinkB md ops n=true) (hc:Region.chainB md ops n=true) (hn:n<ops.size) (hin:i<n)
  (hdone:∀listed a,L listed a->∀j∈Region.ready md ops listed,n<=j):
  ∀(f:Nat) (listed:Array Bool) (a:Act),HeadInv md ops n listed->
   (∀j oj,ops[j]? =some oj->j≠i->listed.getD j true=false->(∀e∈oj.after,Region.binds md e=true->e.on≠i)->oi.apart ops oj=true)->
   i∈Region.ready md ops listed->fQ P ops C oi v a->
   nU P md ops C n L f (listed.setIfInBounds i true) (a.put oi.dst v)->nU P md ops C n L (f+1) listed a:=by
 have hit:∀{K:Act->Prop} {a:Act},fQ P ops C oi v a->K (a.put oi.dst v)->FM P ops C i K a:=λhy hk=>by
  unfold FM;simp only[hi];exact⟨v,hy,hk⟩
 intro f
 induction f with
 |zero=>
  intro listed a inv _ hr hy H;have hun:=(mem_ready.1 hr).1;refine⟨λh=>(by rw[h] at hr;cases hr),λj hj=>?_⟩;have hjn:j<n:=by
   rcases Nat.lt_or_ge j n with h|h
   ·exact h
   ·exact absurd hj (tail_waits hs hc hn inv _ i rfl hin hun j h)
  refine⟨hjn,?_⟩;by_cases hji:j=i
  ·subst hji;exact hit hy H
  ·have:=hdone _ _ H j (ready_mono hj hji)
   omega
 |succ f ih=>
  intro listed a inv hfree hr hy H;have hun:=(mem_ready.1 hr).1;refine⟨λh=>(by rw[h] at hr;cases hr),λj hj=>?_⟩;have hjn:j<n:=by
   rcases Nat.lt_or_ge j n with h|h
   ·exact h
   ·exact absurd hj (tail_waits hs hc hn inv _ i rfl hin hun j h)
  refine⟨hjn,?_⟩;by_cases hji:j=i
  ·subst hji;exact hit hy H
  ·have h1:=(H.2 j (ready_mono hj hji)).2
   obtain⟨hjun,oj,hoj,hall⟩:=mem_ready.1 hj;have hnot:∀e∈oj.after,Region.binds md e=true->e.on≠i:=λe he hb heq=>by
    have h1:=hall e he hb;rw[heq,getD_both hun] at h1;cases h1
   have h2:=Ls hoj (hfree j oj hoj hji hjun hnot) (λcs b=>hsel i oi cs b hi) (λcs b=>hsel j oj cs b hoj) hy h1;have hfree':∀k ok,ops[k]? =some ok->k≠i->(listed.setIfInBounds j true).getD k true=false->
     (∀e∈ok.after,Region.binds md e=true->e.on≠i)->oi.apart ops ok=true:=λk ok hk hki hun hno=>by
    refine hfree k ok hk hki ?_ hno;by_cases hjk:j=k
    ·subst hjk;exact hjun
    ·rw[getD_set_ne true hjk] at hun;exact hun
   refine FN (λa' h3=>ih _ a' (inv.set hj hjn) hfree' (ready_mono hr (Ne.symm hji)) h3.1 ?_) h2;rw[Array.setIfInBounds_comm _ _ hji];exact h3.2
def kK(P:Program)(ops:Array Oper)(C:World->Prop)(Q:Act->Prop):List Oper->Act->Prop
 |[],a=>Q a
 |o::rest,a=>∃v,fQ P ops C o v a/\kK P ops C Q rest (a.put o.dst v)
theorem nV{n g:Nat}{Lq:Act->Prop}(hsel:Region.noSelect ops=true)(hs:Region.sinkB md ops n=true)(hc:Region.chainB md ops n=true)(hn:n<ops.size):
  ∀(l:List Oper) (k:Nat) (listed:Array Bool) (a:Act),(∀j,j<l.length->l[j]? =ops[k+j]?)->k+l.length=n->HeadInv md ops n listed->
  Region.lexHead md ops g l.length k listed=true->kK P ops C Lq l a->
  nU P md ops C n (λlisted' a'=>Region.seqB md ops g n listed'=true/\Lq a') l.length listed a
 |[],k,listed,a,_,hk,_,hB,h=>by
  have:k=n:=by simpa using hk
  subst this;exact⟨by simpa[Region.lexHead] using hB,h⟩
 |o::l,k,listed,a,hl,hk,inv,hB,h=>by
  have h0:ops[k]? =some o:=by simpa using(hl 0 (by simp)).symm
  simp only[List.length_cons,Region.lexHead,Bool.and_eq_true] at hB;obtain⟨⟨hr,hf⟩,hB'⟩:=hB;have hkn:k<n:=by simp only[List.length_cons] at hk;omega
  have hr':k∈Region.ready md ops listed:=by simpa using hr
  obtain⟨v,hy,hK⟩:=h;exact r_ h0 (Region.noSelect_spec hsel) hs hc hn hkn (λlisted' a' hL=>seqB_ready hL.1) _ _ a inv (Region.free_spec h0 hf) hr' hy
   (nV hsel hs hc hn l _ _ _ (λj hj=>by have:=hl (j+1) (by simp;omega);simpa[Nat.add_assoc,Nat.add_comm 1 j] using this) (by simp only[List.length_cons] at hk;omega) (inv.set hr' hkn) hB' hK)
theorem cO{id:Nat}{Q:Exit->Act->World->Prop}{a:Act}{w:World}{l:List Oper}(n:Nat)(C:World->Prop)(hm:P.follows .mixedOrders=true)(hB:Region.lexTailB .any l.toArray n=true)
  (hC:C {w with drawn:=w.drawn+1}) (h:kK P l.toArray C (λa'=>∀W,C W->wpList P l.toArray Q (l.drop n) a' W) (l.take n) a):(Code.region id l.toArray true).wp P Q a w:=by
 simp only[Region.lexTailB,Bool.and_eq_true,decide_eq_true_eq] at hB;obtain⟨⟨⟨⟨hsel,hn⟩,hs⟩,hc⟩,hlex⟩:=hB;have hn':n<l.length:=by simpa using hn
 have htl:(l.take n).length=n:=by simp;omega
 have hdl:(l.drop n).length=l.toArray.size-n:=by simp
 have inv0:HeadInv .any l.toArray n (Array.replicate l.toArray.size false):=
  ⟨by simp,λj oj _ hl=>(by rw[getD_replicate_false] at hl;cases hl),λt _ ht=>getD_in (by simpa using ht) (getD_replicate_false _ _)⟩
 have H:=nV (md:=.any) (g:=l.toArray.size-n) hsel hs hc hn (l.take n) 0 _ a (λj hj=>by
  have hj':j<n:=by rw[htl] at hj;exact hj
  simp[hj']) (by simpa using htl) inv0 (by rw[htl];exact hlex) h
 refine wp_region_any hm ?_;have:=jH (Q':=Q) (g:=l.toArray.size-n) (λlisted a' W hL hW=>by
  have:=wpAny_of_seq (md:=.any) (Q':=Q) (l.drop n) n listed a' W (λj=>by simp[List.getElem?_drop]) (by rw[hdl];exact hL.1) (hL.2 W hW);rwa[hdl] at this) _ _ _ _ H hC
 rw[htl,show n+(l.toArray.size-n)=l.toArray.size by omega] at this;exact this
end
theorem aB{P:Program}{ops:Array Oper}{C:World->Prop}{Q:Act->Prop}{o:Oper}{rest:List Oper}{a:Act}(v:Value)(hw:Region.wanted o (yielded ops a.tmps)=true)(hr:∀W,C W->(execOp a.eval o).run P W=.ok (.value v) W)(h:kK P ops C Q rest (a.put o.dst v)):kK P ops C Q (o::rest) a:=
 ⟨v,.inl ⟨hw,λW hW=>.inl (hr W hW)⟩,h⟩
theorem dN{P:Program}{ops:Array Oper}{C:World->Prop}{Q:Act->Prop}{o:Oper}{rest:List Oper}{a:Act}(v:Value)(f:FuncId)(args:Array Value)(hw:Region.wanted o (yielded ops a.tmps)=true)(hr:∀W,C W->(execOp a.eval o).run P W=.ok (.enter f args) W)
  (hc:∀W,C W->Calls P f args W (λe w'=>e=.returned v/\C w')) (h:kK P ops C Q rest (a.put o.dst v)):kK P ops C Q (o::rest) a:=
 ⟨v,.inl ⟨hw,λW hW=>.inr (.inr ⟨f,args,hr W hW,hc W hW⟩)⟩,h⟩
end Go.Proofs.YtolfphmdmpehdaaGreatDoor
namespace Go.Proofs.YtolfphmdmpehdaaGreatDoor
open Go.RowKit
theorem uf1{ks:List KV}{W:WV}{i:Nat}{u:aC}(h:decide (1<=u.id/\u.id<=W.next-1)=false):Wd.aI ks W i u=1:=by unfold Wd.aI;rw[h];rfl
theorem uf2{ks:List KV}{W:WV}{i:Nat}{u:aC}(h:decide (1<=u.id/\u.id<=W.next-1)=true)(h2:Wd.bH W.us i u=true):Wd.aI ks W i u=5:=by unfold Wd.aI;rw[h,h2];rfl
theorem uf3{ks:List KV}{W:WV}{i:Nat}{u:aC}(h:decide (1<=u.id/\u.id<=W.next-1)=true)(h2:Wd.bH W.us i u=false)(h3:Wd.has W.gold.length u.aA=false):Wd.aI ks W i u=1:=by unfold Wd.aI;rw[h,h2,h3];rfl
theorem uf4{ks:List KV}{W:WV}{i:Nat}{u:aC}(h:decide (1<=u.id/\u.id<=W.next-1)=true)(h2:Wd.bH W.us i u=false)(h3:Wd.has W.gold.length u.aA=true)(h4:Wd.has ks.length u.kind=false):Wd.aI ks W i u=1:=by unfold Wd.aI;rw[h,h2,h3,h4];rfl
theorem uf5{ks:List KV}{W:WV}{i:Nat}{u:aC}{k:KV}(h:decide (1<=u.id/\u.id<=W.next-1)=true)(h2:Wd.bH W.us i u=false)(h3:Wd.has W.gold.length u.aA=true)(h4:Wd.has ks.length u.kind=true)(h5:ks[u.kind.toNat]? =some k):Wd.aI ks W i u=Wd.dM W (W.us.take i) u k:=by unfold Wd.aI;rw[h,h2,h3,h4,h5];rfl
theorem jI(x lo hi:Int)(w:World)(h:lo<=x/\x<=hi):Calls Tryz.prog 74 #[int i64 x,int i64 lo,int i64 hi] w λe w'=>e=.returned (.bool true)/\w'=w:=(bG x lo hi w).mono λe w' ⟨h1,h2⟩=>⟨by rw[h1,decide_eq_true h],h2⟩
theorem kL(x lo hi:Int)(w:World)(h:¬(lo<=x/\x<=hi)):Calls Tryz.prog 74 #[int i64 x,int i64 lo,int i64 hi] w λe w'=>e=.returned (.bool false)/\w'=w:=(bG x lo hi w).mono λe w' ⟨h1,h2⟩=>⟨by rw[h1,decide_eq_false h],h2⟩
section
variable {W:WV} {ah:List aC} {u:aC} {k:KV}
theorem kp1(h:¬(1<=u.life/\u.life<=k.n0)\/¬(0<=u.load/\u.load<=k.n7)\/¬(0<=u.task/\u.task<=2)):Wd.dM W ah u k=1:=by
 unfold Wd.dM;rw[if_pos];rcases h with h|h|h<;>simp only[decide_eq_false h,Bool.not_false,Bool.true_or,Bool.or_true]
theorem kp6(h5:1<=u.life/\u.life<=k.n0)(h6:0<=u.load/\u.load<=k.n7)(h7:0<=u.task/\u.task<=2)(h:¬(0<=u.at_/\u.at_<(W.gs.length:Int))\/¬(0<=u.goal/\u.goal<(W.gs.length:Int))):Wd.dM W ah u k=6:=by
 unfold Wd.dM Wd.has;rw[decide_eq_true h5,decide_eq_true h6,decide_eq_true h7,if_neg (by decide),if_pos];rcases h with h|h<;>simp only[decide_eq_false h,Bool.not_false,Bool.true_or,Bool.or_true]
theorem kp7(h5:1<=u.life/\u.life<=k.n0)(h6:0<=u.load/\u.load<=k.n7)(h7:0<=u.task/\u.task<=2)(h8:0<=u.at_/\u.at_<(W.gs.length:Int))(h9:0<=u.goal/\u.goal<(W.gs.length:Int))(h:Wd.open_ W.gs ah u.at_ k.f=false\/(u.goal≠0/\u.task=0)):Wd.dM W ah u k=7:=by
 unfold Wd.dM Wd.has;rw[decide_eq_true h5,decide_eq_true h6,decide_eq_true h7,decide_eq_true h8,decide_eq_true h9,if_neg (by decide),if_neg (by decide),if_pos];rcases h with h|⟨h,h'⟩
 ·rw[h];rfl
 ·simp[h,h']
theorem kp0(h5:1<=u.life/\u.life<=k.n0)(h6:0<=u.load/\u.load<=k.n7)(h7:0<=u.task/\u.task<=2)(h8:0<=u.at_/\u.at_<(W.gs.length:Int))(h9:0<=u.goal/\u.goal<(W.gs.length:Int))(h:Wd.open_ W.gs ah u.at_ k.f=true)(h':u.goal=0\/u.task≠0):Wd.dM W ah u k=0:=by
 unfold Wd.dM Wd.has;rw[decide_eq_true h5,decide_eq_true h6,decide_eq_true h7,decide_eq_true h8,decide_eq_true h9,h,if_neg (by decide),if_neg (by decide),if_neg];rcases h' with h'|h'<;>simp[h']
end
theorem jF.SK{w:World}{a:Option Addr}{n c:Nat}{us:List aC}(h:jF w (slice a n c) us){q:Nat}(hq:q<=us.length):jF w (slice a q c) (us.take q):=by
 obtain⟨a',c',e,h1,h2,h3⟩:=h;injection e with e1 e2 e3
 subst e1 e3;have hl:(us.take q).length=q:=by rw[List.length_take];omega
 refine⟨a,c,by rw[hl],by omega,h2,λhn=>?_⟩;obtain⟨x,e,hx,hc⟩:=h3 (by intro e;rw[e] at hn;simp at hn);refine⟨x,e,hx,λi k hk=>hc i k ?_⟩;rw[List.getElem?_take] at hk;split at hk
 ·exact hk
 ·cases hk
theorem FP(vk vw:Value)(ks:List KV)(W:WV)(Wn Hn:Nat)(i:Nat)(u:aC)(w:World)(hk:Kl w vk ks)(hw:Wl w vw W)(hW:W.wide=Wn)(hH:W.high=Hn)(G:Fd.Good Wn Hn W.gs W.os)(hu:W.us[i]? =some u)(hn:Wd.off 1 W.next=false)(zQ:W.us.length<=40)(hkl:ks.length<=8)(hgl:W.gold.length<=4):
  Calls Tryz.prog 78 #[vk,vw,int i64 (i:Nat)] w λe w'=>∃r,e=.returned r/\Er r (Wd.aI ks W i u)/\Below w.heap.size w w':=by
 have K:=aj (hk);have H:=aj (hw);have HG:Hid (Fd.Good Wn Hn W.gs W.os/\W.wide=Wn/\W.high=Hn):=⟨G,hW,hH⟩;have HU:=aj (hu);have gl144:W.gs.length<=144:=by have:=G.gl;have:=G.pos;have:=G.pos.2;omega
 obtain⟨u1,u2,u3,u4,u5,rfl,r1,r2,r3,r4,r5⟩:=hw;obtain⟨p1,q1,rfl,-⟩:=r1;obtain⟨p2,q2,rfl,-⟩:=r2;obtain⟨p3,q3,rfl,-⟩:=r3;obtain⟨p4,q4,rfl,k41,k42,k43⟩:=r4;obtain⟨p5,q5,rfl,-⟩:=r5;obtain⟨pk,qk,rfl,kk1,kk2,kk3⟩:=hk;have hil:=(List.getElem?_eq_some_iff.1 hu).1;have Yy:(i:Int)<(W.us.length:Int):=by omega
 obtain⟨x,rfl,hx,hcell⟩:=k43 (by intro e;rw[e] at hil;simp at hil);have UC:Hid (x.block<w.heap.size/\∀(i:Nat) k,W.us[i]? =some k->dB w (x.add (i*8)) k):=⟨hx,hcell⟩;obtain⟨d0,d1,d2,d3,d4,d5,d6,d7⟩:=hcell i u hu;have nx:1<=W.next/\W.next<=1000000:=by
  unfold Wd.off at hn;have:decide (1<=W.next/\W.next<=1000000)=true:=by cases h:decide (1<=W.next/\W.next<=1000000) with|true=>rfl|false=>rw[h] at hn;cases hn
  exact of_decide_eq_true this
 obtain⟨n1,hn1⟩:∃n1:Int,W.next-1=n1:=⟨_,rfl⟩;have wn1:IntKind.i64.wrap n1=n1:=by rw[IntKind.wrap_i64];omega
 obtain⟨b1,hb1⟩:∃b,decide (1<=u.id/\u.id<=n1)=b:=⟨_,rfl⟩;have HB1:Hid (decide (1<=u.id/\u.id<=W.next-1)=b1):=by unfold Hid;rw[hn1];exact hb1
 clear hcell hx k43 hn nx hu hW hH G;go_enter Tryz.func78,Tryz.ntmps78;go_upto_region 1 with fail
 have Y0:Hid (Bw _ w.heap.size W (slice p1 W.gs.length q1) (slice p2 W.os.length q2) (slice p3 W.gold.length q3) (slice (some x) W.us.length q4) (slice p5 W.qs.length q5)):=Bw.mk' W _ _ _ _ _ rfl;have BY:Hid (Below _ w (w.alloc (Obj.cells #[int i64 W.turn,int i64 W.next,int i64 W.wide,int i64 W.high,slice p1 W.gs.length q1,slice p2 W.os.length q2,slice p3 W.gold.length q3,slice (some x) W.us.length q4,slice p5 W.qs.length q5] 29))):=(Below.refl _ _).alloc (Nat.le_refl _) _;have SY:Hid ((w.alloc (Obj.cells #[int i64 W.turn,int i64 W.next,int i64 W.wide,int i64 W.high,slice p1 W.gs.length q1,slice p2 W.os.length q2,slice p3 W.gold.length q3,slice (some x) W.us.length q4,slice p5 W.qs.length q5] 29)).heap.size=w.heap.size+1):=by unfold Hid;simp
 generalize (w.alloc _)=wy at *;clear d0 d1 d2 d3 d4 d5 d6 d7;obtain⟨d0,d1,d2,d3,d4,d5,d6,d7⟩:=(UC.out.2 i u HU.out).below BY.out (by rw[add_block];exact UC.out.1);have x7:=Y0.out.c7;go_upto_region 2 with fail
 have X0:Hid (Bw (wy.alloc (Obj.cells #[int i64 u.id,int i64 u.aA,int i64 u.kind,int i64 u.at_,int i64 u.life,int i64 u.load,int i64 u.task,int i64 u.goal] 74)) _ W _ _ _ _ _):=Y0.out.below ((Below.refl _ _).alloc (Nat.le_refl _) _) Y0.out.lt;have U0:Hid (dB _ ⟨wy.heap.size,0,none⟩ u):=dB.mk' u rfl;have B0:Hid (Below _ w (wy.alloc (Obj.cells #[int i64 u.id,int i64 u.aA,int i64 u.kind,int i64 u.at_,int i64 u.life,int i64 u.load,int i64 u.task,int i64 u.goal] 74))):=BY.out.alloc BY.out.size _;generalize (wy.alloc _)=w0 at *;generalize wy.heap.size=zu at *;clear d0 d1 d2 d3 d4 d5 d6 d7 x7 Y0 BY SY;obtain⟨x0,x1,x2,x3,x4,x5,x6,x7,x8⟩:=X0.out;obtain⟨y0,y1,y2,y3,y4,y5,y6,y7⟩:=U0.out;go_wp2_with fail
 refine(bG _ 1 n1 w0).mono ?_;rintro e ww ⟨rfl,rfl⟩;rw[hb1];clear hb1 hn1 wn1;cases b1 with
 |false=>
  go_wp2;go_ret;exact⟨_,rfl,by rw[uf1 HB1.out];exact Er.no (by decide),B0.out⟩
 |true=>
  obtain⟨b2,hb2⟩:∃b,Wd.bH W.us i u=b:=⟨_,rfl⟩;have HB2:=aj (hb2);go_upto_region 4 with fail
  go_cut [2,22] from 23 to 36 (λv2 v22 V=>v2=int i64 (i:Nat)/\v22=.bool b2/\Below ww.heap.size ww V)
  case first=>
   rcases Nat.eq_zero_or_pos i with hi0|hi0
   ·have g0:¬(0:Int)<(i:Int):=by omega
    have hbf:b2=false:=by rw[<-hb2,hi0];rfl
    subst hbf;clear hb2;have HI0:=aj (hi0);have hnp:¬0<i:=by omega
    clear hi0;go_quiet (fail);go_wp2;go_meet
    case rel=>exact⟨by first|rfl|rw[HI0.out],rfl,_root_.Go.below_drewN (Below.refl _ _) _⟩
   ·obtain⟨j,hj⟩:∃j,i=j+1:=⟨i-1,by omega⟩
    obtain⟨v,hv⟩:∃v,W.us[j]? =some v:=⟨_,List.getElem?_eq_getElem (by omega)⟩;have e0:(i:Int)-1=(j:Nat):=by omega
    have g0:(0:Int)<(i:Int):=by omega
    have wj:IntKind.i64.wrap ((j:Nat):Int)=(j:Nat):=by rw[IntKind.wrap_i64];omega
    have jl:(j:Int)<(W.us.length:Int):=by omega
    obtain⟨d0,-,-,-,-,-,-,-⟩:=(UC.out.2 j v hv).below B0.out (by rw[add_block];exact UC.out.1);have hb:decide (u.id<=v.id)=b2:=by rw[<-hb2,hj];unfold Wd.bH;simp only[hv]
    clear hj hb2 hv;cases b2
    ·have hgt:=of_decide_eq_false hb
     clear hb;go_quiet (fail);go_wp2;go_meet
     case rel=>exact⟨by first|rfl|rw[HI0.out],rfl,_root_.Go.below_drewN (Below.refl _ _) _⟩
    ·have hle:=of_decide_eq_true hb
     clear hb;go_quiet (fail);go_wp2;go_meet
     case rel=>exact⟨by first|rfl|rw[HI0.out],rfl,_root_.Go.below_drewN (Below.refl _ _) _⟩
  case rest=>
   obtain⟨rfl,rfl,hbc⟩:=hcut;have BC:=aj (B0.out.trans (hbc.mono B0.out.size));have XC:=aj (X0.out.below hbc X0.out.lt);have VC:=aj (U0.out.below hbc U0.out.lt);clear hbc hb2 x0 x1 x2 x3 x4 x5 x6 x7 x8 y0 y1 y2 y3 y4 y5 y6 y7 X0 U0 B0;obtain⟨x0,x1,x2,x3,x4,x5,x6,x7,x8⟩:=XC.out;obtain⟨y0,y1,y2,y3,y4,y5,y6,y7⟩:=VC.out;cases b2 with
   |true=>
    go_wp2;go_ret;exact⟨_,rfl,by rw[uf2 HB1.out HB2.out];exact Er.no (by decide),BC.out⟩
   |false=>
    obtain⟨b3,hb3⟩:∃b,decide (0<=u.aA/\u.aA<(W.gold.length:Int))=b:=⟨_,rfl⟩;have HB3:Hid (Wd.has _ _=b3):=hb3;go_wp2_with fail
    refine(dS _ _ _ _ _ (by omega)).mono ?_;rintro e w5 ⟨rfl,iF⟩;obtain rfl:=iF.symm;rw[hb3];clear hb3;cases b3 with
    |false=>
     go_wp2;go_ret;exact⟨_,rfl,by rw[uf3 HB1.out HB2.out HB3.out];exact Er.no (by decide),BC.out⟩
    |true=>
     obtain⟨b4,hb4⟩:∃b,decide (0<=u.kind/\u.kind<(ks.length:Int))=b:=⟨_,rfl⟩;have HB4:Hid (Wd.has _ _=b4):=hb4;go_wp2_with fail
     refine(iH _ _ _ _ _ (by omega)).mono ?_;rintro e w6 ⟨rfl,iF⟩;obtain rfl:=iF.symm;rw[hb4];cases b4 with
     |false=>
      clear hb4;go_wp2;go_ret;exact⟨_,rfl,by rw[uf4 HB1.out HB2.out HB3.out HB4.out];exact Er.no (by decide),BC.out⟩
     |true=>
      have hkr:=of_decide_eq_true hb4;obtain⟨kn,ek⟩:∃kn:Nat,u.kind=kn:=⟨u.kind.toNat,by omega⟩;have hkn:kn<ks.length:=by omega
      obtain⟨k,hkk⟩:∃k,ks[kn]? =some k:=⟨_,List.getElem?_eq_getElem hkn⟩;have UF:=aj (uf5 HB1.out HB2.out HB3.out HB4.out (by rw[ek,Int.toNat_natCast];exact hkk));obtain⟨xk,rfl,hxk,hkc⟩:=kk3 (by intro e;rw[e] at hkn;simp at hkn);have SL:(kn:Int)<(ks.length:Int):=by omega
      have KC:Hid (Kc _ (xk.add (kn*11)) k):=(hkc kn k hkk).below BC.out (by rw[add_block];exact hxk);rw[ek] at y2;obtain⟨l0,l1,l2,l3,l4,l5,l6,l7,l8,l9,l10⟩:=KC.out;clear hkr hb4 hkc hxk hkk kk3;go_upto_region 9 with fail
      by_cases h5:1<=u.life/\u.life<=k.n0
      ·go_quiet ((go_at_call 74;exact Calls.quiet_of_same (jI _ _ _ _ h5)))
       have FV:=aj (_root_.Go.below_drewN BC.out nq);have FX:=aj (XC.out.below (_root_.Go.below_drewN (Below.refl _ _) nq) XC.out.lt);have FY:=aj (VC.out.below (_root_.Go.below_drewN (Below.refl _ _) nq) VC.out.lt);have Bh:=aj (KC.out.below (_root_.Go.below_drewN (Below.refl _ _) nq) KC.out.lt);generalize wc.drewN nq=wd at *;clear BC XC VC KC x0 x1 x2 x3 x4 x5 x6 x7 x8 y0 y1 y2 y3 y4 y5 y6 y7 l0 l1 l2 l3 l4 l5 l6 l7 l8 l9 l10;obtain⟨wc,hwc⟩:∃wc,wc=wd:=⟨_,rfl⟩;subst hwc;have BC:=FV;have XC:=FX;have VC:=FY;have KC:=Bh;clear FV FX FY Bh;obtain⟨x0,x1,x2,x3,x4,x5,x6,x7,x8⟩:=XC.out;obtain⟨y0,y1,y2,y3,y4,y5,y6,y7⟩:=VC.out;rw[ek] at y2;obtain⟨l0,l1,l2,l3,l4,l5,l6,l7,l8,l9,l10⟩:=KC.out;go_upto_region 10 with fail
       by_cases h6:0<=u.load/\u.load<=k.n7
       ·go_quiet ((go_at_call 74;exact Calls.quiet_of_same (jI _ _ _ _ h6)))
        have FV:=aj (_root_.Go.below_drewN BC.out nq);have FX:=aj (XC.out.below (_root_.Go.below_drewN (Below.refl _ _) nq) XC.out.lt);have FY:=aj (VC.out.below (_root_.Go.below_drewN (Below.refl _ _) nq) VC.out.lt);have Bh:=aj (KC.out.below (_root_.Go.below_drewN (Below.refl _ _) nq) KC.out.lt);generalize wc.drewN nq=wd at *;clear BC XC VC KC x0 x1 x2 x3 x4 x5 x6 x7 x8 y0 y1 y2 y3 y4 y5 y6 y7 l0 l1 l2 l3 l4 l5 l6 l7 l8 l9 l10;obtain⟨wc,hwc⟩:∃wc,wc=wd:=⟨_,rfl⟩;subst hwc;have BC:=FV;have XC:=FX;have VC:=FY;have KC:=Bh;clear FV FX FY Bh;obtain⟨x0,x1,x2,x3,x4,x5,x6,x7,x8⟩:=XC.out;obtain⟨y0,y1,y2,y3,y4,y5,y6,y7⟩:=VC.out;rw[ek] at y2;obtain⟨l0,l1,l2,l3,l4,l5,l6,l7,l8,l9,l10⟩:=KC.out;by_cases h7:0<=u.task/\u.task<=2
        ·go_wp2_with fail
         refine(jI _ _ _ _ h7).mono ?_;rintro e w8 ⟨rfl,iF⟩;obtain rfl:=iF.symm;by_cases h8:0<=u.at_/\u.at_<(W.gs.length:Int)
         ·have t8:=decide_eq_true h8
          go_wp2_with fail
          refine(dS _ _ _ _ _ (by omega)).mono ?_;rintro e w9 ⟨rfl,iF⟩;obtain rfl:=iF.symm;rw[t8];by_cases h9:0<=u.goal/\u.goal<(W.gs.length:Int)
          ·have t9:=decide_eq_true h9
           go_wp2_with fail
           refine(dS _ _ _ _ _ (by omega)).mono ?_;rintro e w10 ⟨rfl,iF⟩;obtain rfl:=iF.symm;rw[t9];clear t8 t9;obtain⟨an,ea⟩:∃an:Nat,u.at_=an:=⟨u.at_.toNat,by omega⟩;obtain⟨g,hg0⟩:∃g,W.gs[an]? =some g:=⟨_,List.getElem?_eq_getElem (by omega)⟩;have Qa:=aj (hg0);clear hg0;have FC:Hid (∀V,Below wc.heap.size wc V->V.cell? ⟨w.heap.size,2,none⟩=some (int i64 W.wide)/\V.cell? ⟨w.heap.size,3,none⟩=some (int i64 W.high)/\V.cell? ⟨w.heap.size,4,none⟩=some (slice p1 W.gs.length q1)/\V.cell? ⟨w.heap.size,5,none⟩=some (slice p2 W.os.length q2)/\V.cell? ⟨w.heap.size,7,none⟩=some (slice (some x) W.us.length q4)/\V.cell? ⟨zu,3,none⟩=some (int i64 (an:Nat))/\V.cell? ⟨zu,2,none⟩=some (int i64 (kn:Nat))/\V.cell? ⟨(xk.add (kn*11)).block,(xk.add (kn*11)).off+9,none⟩=some (.bool k.f)):=λV hV=>by
            obtain⟨-,-,z2,z3,z4,z5,-,z7,-⟩:=XC.out.below hV XC.out.lt;obtain⟨-,-,g2,g3,-,-,-,-⟩:=VC.out.below hV VC.out.lt;obtain⟨-,-,-,-,-,-,-,-,-,m9,-⟩:=KC.out.below hV KC.out.lt;rw[ek] at g2;rw[ea] at g3;exact⟨z2,z3,z4,z5,z7,g3,g2,m9⟩
           have SN:Hid (∀V,Below wc.heap.size wc V->Calls Tryz.prog 126 #[.agg #[int i64 W.wide,int i64 W.high,slice p1 W.gs.length q1,slice p2 W.os.length q2],slice (some x) i q4,int i64 (an:Nat),.bool k.f] V λe w'=>e=.returned (.bool (Wd.open_ W.gs (W.us.take i) (an:Nat) k.f))/\Below wc.heap.size wc w'):=λV hV=>by
            have BV:=BC.out.trans (hV.mono BC.out.size);obtain⟨r1,r2,-,r4,-⟩:=(H.out.below BV).slices;obtain⟨uT,RQ,RU⟩:=HG.out;rw[RQ,RU];exact(nT _ _ Wn Hn _ _ _ an g _ V ⟨_,_,rfl,r1,r2⟩ uT (r4.SK (by omega)) (by have:=uT.gl;omega) Qa.out).mono λe w' ⟨h1,h2⟩=>⟨h1,hV.trans (h2.mono hV.size)⟩
           have eo:∀args w,(callFunc 126 args).run Tryz.prog w=.ok (.enter 126 args) w:=by intro args w;go_simp
           have hin:(i:Int)<=(q4:Int):=by omega
           go_upto_region 16 with fail
           refine cO 15 (λV=>Below wc.heap.size wc V) (by kernel_rfl) (by kernel_rfl) (Below.refl _ _).drew ?_;simp only[List.take_succ_cons,List.take_zero,List.drop_succ_cons,List.drop_zero];refine aB (.pointer (some ⟨w.heap.size,2,none⟩)) (by go_simp) (λV hV=>by go_simp) ?_;go_simp;refine aB (.agg #[int i64 W.wide,int i64 W.high,slice p1 W.gs.length q1,slice p2 W.os.length q2]) (by go_simp) (λV hV=>by obtain⟨f2,f3,f4,f5,-⟩:=FC.out V hV;go_simp) ?_;go_simp;refine aB (.pointer (some ⟨w.heap.size,7,none⟩)) (by go_simp) (λV hV=>by go_simp) ?_;go_simp;refine aB (slice (some x) W.us.length q4) (by go_simp) (λV hV=>by obtain⟨-,-,-,-,f7,-⟩:=FC.out V hV;go_simp) ?_;go_simp;refine aB (int i64 (i:Nat)) (by go_simp) (λV hV=>by go_simp) ?_;go_simp;refine aB (slice (some x) i q4) (by go_simp) (λV hV=>by go_simp) ?_;go_simp;refine aB (.pointer (some ⟨zu,3,none⟩)) (by go_simp) (λV hV=>by go_simp) ?_;go_simp;refine aB (int i64 (an:Nat)) (by go_simp) (λV hV=>by obtain⟨-,-,-,-,-,f8,-⟩:=FC.out V hV;go_simp) ?_;go_simp;refine aB (slice (some xk) ks.length qk) (by go_simp) (λV hV=>by go_simp) ?_;go_simp;refine aB (.pointer (some ⟨zu,2,none⟩)) (by go_simp) (λV hV=>by go_simp) ?_;go_simp;refine aB (int i64 (kn:Nat)) (by go_simp) (λV hV=>by obtain⟨-,-,-,-,-,-,f9,-⟩:=FC.out V hV;go_simp) ?_;go_simp;refine aB (.pointer (some (xk.add (kn*11)))) (by go_simp) (λV hV=>by go_simp) ?_;go_simp;refine aB (.pointer (some ⟨(xk.add (kn*11)).block,(xk.add (kn*11)).off+9,none⟩)) (by go_simp) (λV hV=>by go_simp) ?_;go_simp;refine aB (.bool k.f) (by go_simp) (λV hV=>by obtain⟨-,-,-,-,-,-,-,f10⟩:=FC.out V hV;go_simp) ?_;go_simp;refine dN _ _ _ (by go_simp) (λV hV=>by go_simp) (λV hV=>SN.out V hV) ?_;go_simp;intro V hV;have BV:=aj (BC.out.trans (hV.mono BC.out.size));have VV:=aj (VC.out.below hV VC.out.lt);obtain⟨b9,hb9⟩:∃b,Wd.open_ W.gs (W.us.take i) (an:Nat) k.f=b:=⟨_,rfl⟩;have HB9:=aj (hb9);rw[hb9];clear hV FC SN hb9 x0 x1 x2 x3 x4 x5 x6 x7 x8 y0 y1 y2 y3 y4 y5 y6 y7 l0 l1 l2 l3 l4 l5 l6 l7 l8 l9 l10;cases b9 with
           |false=>
            go_wp2;go_ret;exact⟨_,rfl,by rw[UF.out,kp7 h5 h6 h7 h8 h9 (.inl (by rw[ea];exact HB9.out))];exact Er.no (by decide),BV.out⟩
           |true=>
            obtain⟨y0,y1,y2,y3,y4,y5,y6,y7⟩:=VV.out;by_cases hgo:u.goal=0
            ·have Qb:Hid (Wd.aI ks W i u=0):=by unfold Hid;rw[UF.out,kp0 h5 h6 h7 h8 h9 (by rw[ea];exact HB9.out) (.inl hgo)]
             go_wp2;go_ret;exact⟨_,rfl,by rw[Qb.out];exact Er.nil,BV.out⟩
            ·by_cases hta:u.task=0
             ·have Vy:Hid (Wd.aI ks W i u=7):=by unfold Hid;rw[UF.out,kp7 h5 h6 h7 h8 h9 (.inr ⟨hgo,hta⟩)]
              go_wp2;go_ret;exact⟨_,rfl,by rw[Vy.out];exact Er.no (by decide),BV.out⟩
             ·have Qb:Hid (Wd.aI ks W i u=0):=by unfold Hid;rw[UF.out,kp0 h5 h6 h7 h8 h9 (by rw[ea];exact HB9.out) (.inr hta)]
              have tb:(u.task==0)=false:=by simpa using hta
              clear hta;go_wp2;go_ret;exact⟨_,rfl,by rw[Qb.out];exact Er.nil,BV.out⟩
          ·have t9:=decide_eq_false h9
           go_wp2_with fail
           refine(dS _ _ _ _ _ (by omega)).mono ?_;rintro e w10 ⟨rfl,iF⟩;obtain rfl:=iF.symm;rw[t9];clear t9 t8;go_wp2;go_ret;exact⟨_,rfl,by rw[UF.out,kp6 h5 h6 h7 (.inr h9)];exact Er.no (by decide),BC.out⟩
         ·have t8:=decide_eq_false h8
          go_wp2_with fail
          refine(dS _ _ _ _ _ (by omega)).mono ?_;rintro e w9 ⟨rfl,iF⟩;obtain rfl:=iF.symm;rw[t8];clear t8;go_wp2;go_ret;exact⟨_,rfl,by rw[UF.out,kp6 h5 h6 h7 (.inl h8)];exact Er.no (by decide),BC.out⟩
        ·go_wp2_with fail
         refine(kL _ _ _ _ h7).mono ?_;rintro e w8 ⟨rfl,iF⟩;obtain rfl:=iF.symm;go_wp2;go_ret;exact⟨_,rfl,by rw[UF.out,kp1 (.inr (.inr h7))];exact Er.no (by decide),BC.out⟩
       ·go_quiet ((go_at_call 74;exact Calls.quiet_of_same (kL _ _ _ _ h6)))
        have FV:=aj (_root_.Go.below_drewN BC.out nq);have FX:=aj (XC.out.below (_root_.Go.below_drewN (Below.refl _ _) nq) XC.out.lt);have FY:=aj (VC.out.below (_root_.Go.below_drewN (Below.refl _ _) nq) VC.out.lt);have Bh:=aj (KC.out.below (_root_.Go.below_drewN (Below.refl _ _) nq) KC.out.lt);generalize wc.drewN nq=wd at *;clear BC XC VC KC x0 x1 x2 x3 x4 x5 x6 x7 x8 y0 y1 y2 y3 y4 y5 y6 y7 l0 l1 l2 l3 l4 l5 l6 l7 l8 l9 l10;obtain⟨wc,hwc⟩:∃wc,wc=wd:=⟨_,rfl⟩;subst hwc;have BC:=FV;have XC:=FX;have VC:=FY;have KC:=Bh;clear FV FX FY Bh;obtain⟨x0,x1,x2,x3,x4,x5,x6,x7,x8⟩:=XC.out;obtain⟨y0,y1,y2,y3,y4,y5,y6,y7⟩:=VC.out;rw[ek] at y2;obtain⟨l0,l1,l2,l3,l4,l5,l6,l7,l8,l9,l10⟩:=KC.out;go_wp2;go_ret;exact⟨_,rfl,by rw[UF.out,kp1 (.inr (.inl h6))];exact Er.no (by decide),BC.out⟩
      ·go_quiet ((go_at_call 74;exact Calls.quiet_of_same (kL _ _ _ _ h5)))
       have FV:=aj (_root_.Go.below_drewN BC.out nq);have FX:=aj (XC.out.below (_root_.Go.below_drewN (Below.refl _ _) nq) XC.out.lt);have FY:=aj (VC.out.below (_root_.Go.below_drewN (Below.refl _ _) nq) VC.out.lt);have Bh:=aj (KC.out.below (_root_.Go.below_drewN (Below.refl _ _) nq) KC.out.lt);generalize wc.drewN nq=wd at *;clear BC XC VC KC x0 x1 x2 x3 x4 x5 x6 x7 x8 y0 y1 y2 y3 y4 y5 y6 y7 l0 l1 l2 l3 l4 l5 l6 l7 l8 l9 l10;obtain⟨wc,hwc⟩:∃wc,wc=wd:=⟨_,rfl⟩;subst hwc;have BC:=FV;have XC:=FX;have VC:=FY;have KC:=Bh;clear FV FX FY Bh;obtain⟨x0,x1,x2,x3,x4,x5,x6,x7,x8⟩:=XC.out;obtain⟨y0,y1,y2,y3,y4,y5,y6,y7⟩:=VC.out;rw[ek] at y2;obtain⟨l0,l1,l2,l3,l4,l5,l6,l7,l8,l9,l10⟩:=KC.out;go_wp2;go_ret;exact⟨_,rfl,by rw[UF.out,kp1 (.inl h5)];exact Er.no (by decide),BC.out⟩
theorem FZ{us:List aC}{id:Int}:∀{r:Int},jg (λu=>u.id==id) us r->(r= -1/\us.find? (λu=>u.id==id)=none)\/∃(n:Nat) (x:aC),r=n/\us[n]? =some x/\us.find? (λu=>u.id==id)=some x
 |r,.inl ⟨h,h1⟩=>.inl ⟨h,by
  rw[List.find?_eq_none];intro x hx hp;have:us.any (λu=>u.id==id)=true:=List.any_eq_true.2 ⟨x,hx,hp⟩;rw[h1] at this;cases this⟩
 |r,.inr ⟨n,x,h,h1,h2,h3⟩=>.inr ⟨n,x,h,h1,by
  have hn:=(List.getElem?_eq_some_iff.1 h1).1;have e:us=us.take n++x::us.drop (n+1):=by
   obtain⟨hi,e⟩:=List.getElem?_eq_some_iff.1 h1;rw[<-e,<-List.drop_eq_getElem_cons hi,List.take_append_drop]
  have h4:(us.take n).find? (λu=>u.id==id)=none:=by
   rw[List.find?_eq_none];intro y hy hp;have:(us.take n).any (λu=>u.id==id)=true:=List.any_eq_true.2 ⟨y,hy,hp⟩;rw[h3] at this;cases this
  rw[e,List.find?_append,h4];simp only[Option.none_or];have h2':(x.id==id)=true:=h2;simp only[List.find?_cons,h2']⟩
theorem jf6{ks:List KV}{W:WV}{j:aO}(h:W.us.find? (λu=>u.id==j.unit)=none):Wd.aJ ks W j=6:=by unfold Wd.aJ;rw[h]
theorem jf7{ks:List KV}{W:WV}{j:aO}{u:aC}{k:KV}(h:W.us.find? (λu=>u.id==j.unit)=some u)(hk:ks[u.kind.toNat]? =some k)(h7:u.aA≠j.aA\/k.t=false):Wd.aJ ks W j=7:=by
 unfold Wd.aJ;rw[h];simp only[hk];rw[if_pos];rcases h7 with h7|h7<;>simp[h7]
theorem jf1{ks:List KV}{W:WV}{j:aO}{u:aC}{k:KV}(h:W.us.find? (λu=>u.id==j.unit)=some u)(hk:ks[u.kind.toNat]? =some k)(hp:u.aA=j.aA)(ht:k.t=true)(h1:decide (0<=j.kind/\j.kind<(ks.length:Int))=false\/decide (1<=j.left/\j.left<=1000)=false):Wd.aJ ks W j=1:=by
 unfold Wd.aJ Wd.has;rw[h];simp only[hk];rw[hp,ht,if_neg (by simp),if_pos];rcases h1 with h1|h1<;>rw[h1]<;>simp
theorem jf0{ks:List KV}{W:WV}{j:aO}{u:aC}{k:KV}(h:W.us.find? (λu=>u.id==j.unit)=some u)(hk:ks[u.kind.toNat]? =some k)(hp:u.aA=j.aA)(ht:k.t=true)(h1:decide (0<=j.kind/\j.kind<(ks.length:Int))=true)(h2:decide (1<=j.left/\j.left<=1000)=true):Wd.aJ ks W j=0:=by
 unfold Wd.aJ Wd.has;rw[h];simp only[hk];rw[hp,ht,h1,h2,if_neg (by simp),if_neg (by simp)]
theorem Lu(vk vw:Value)(ks:List KV)(W:WV)(j:aO)(w:World)(hk:Kl w vk ks)(hw:Wl w vw W)(zQ:W.us.length<=40)(hkl:ks.length<=8)(hall:∀u∈W.us,0<=u.kind/\u.kind<(ks.length:Int)):
  Calls Tryz.prog 79 #[vk,vw,j.val] w λe w'=>∃r,e=.returned r/\Er r (Wd.aJ ks W j)/\Below w.heap.size w w':=by
 have K:=aj (hk);have H:=aj (hw);have HA:=aj (hall);obtain⟨u1,u2,u3,u4,u5,rfl,r1,r2,r3,r4,r5⟩:=hw;obtain⟨p4,q4,rfl,k41,k42,k43⟩:=r4;obtain⟨pk,qk,rfl,kk1,kk2,kk3⟩:=hk;have UC:=aj (k43);have KK:=aj (kk3);clear r1 r2 r3 r5 k43 kk3 hall;unfold aO.val;go_enter Tryz.func79,Tryz.ntmps79;go_wp2_with fail
 have B0:Hid (Below w.heap.size w ((w.alloc (Obj.cells #[int i64 W.turn,int i64 W.next,int i64 W.wide,int i64 W.high,u1,u2,u3,slice p4 W.us.length q4,u5] 29)).alloc (Obj.cells #[int i64 j.aA,int i64 j.unit,int i64 j.kind,int i64 j.left] 93))):=((Below.refl _ _).alloc (Nat.le_refl _) _).alloc (by simp) _;have X0:Hid (Bw ((w.alloc (Obj.cells #[int i64 W.turn,int i64 W.next,int i64 W.wide,int i64 W.high,u1,u2,u3,slice p4 W.us.length q4,u5] 29)).alloc (Obj.cells #[int i64 j.aA,int i64 j.unit,int i64 j.kind,int i64 j.left] 93)) w.heap.size W u1 u2 u3 (slice p4 W.us.length q4) u5):=(Bw.mk' W _ _ _ _ _ rfl).below (n:=w.heap.size+1) ((Below.refl _ _).alloc (by simp) _) (Nat.lt_succ_self _);have J0:Hid (jS ((w.alloc (Obj.cells #[int i64 W.turn,int i64 W.next,int i64 W.wide,int i64 W.high,u1,u2,u3,slice p4 W.us.length q4,u5] 29)).alloc (Obj.cells #[int i64 j.aA,int i64 j.unit,int i64 j.kind,int i64 j.left] 93)) ⟨w.heap.size+1,0,none⟩ j):=jS.mk' j (by simp);generalize ((w.alloc _).alloc _)=w0 at *;generalize w.heap.size+1=zj at *;refine(mM _ W _ w0 (H.out.below B0.out)).mono ?_;rintro e w1 ⟨r,rfl,hf,hb1⟩;have B1:=aj (B0.out.trans (hb1.mono B0.out.size));have X1:=aj (X0.out.below hb1 X0.out.lt);have J1:=aj (J0.out.below hb1 J0.out.lt);clear hb1 X0 J0 B0;rcases FZ hf with⟨rfl,hfn⟩|⟨n,u,rfl,hn,hfs⟩
 ·have F6:Hid (Wd.aJ ks W j=6):=jf6 hfn
  clear hf hfn;go_wp2;go_ret;exact⟨_,rfl,by rw[F6.out];exact Er.no (by decide),B1.out⟩
 ·have hnl:=(List.getElem?_eq_some_iff.1 hn).1
  have hni:(n:Int)<(W.us.length:Int):=by omega
  have hn0:¬(n:Int)<0:=by omega
  have HF:=aj (hfs);obtain⟨x,rfl,hx,hcell⟩:=UC.out (by intro e;rw[e] at hnl;simp at hnl);obtain⟨d0,d1,d2,d3,d4,d5,d6,d7⟩:=(hcell n u hn).below B1.out (by rw[add_block];exact hx);have Yz:=HA.out u (List.mem_of_getElem? hn);obtain⟨kn,ek⟩:∃kn:Nat,u.kind=kn:=⟨u.kind.toNat,by omega⟩;have hkn:kn<ks.length:=by omega
  have SL:(kn:Int)<(ks.length:Int):=by omega
  obtain⟨k,hkk⟩:∃k,ks[kn]? =some k:=⟨_,List.getElem?_eq_getElem hkn⟩;have HK:Hid (ks[u.kind.toNat]? =some k):=by unfold Hid;rw[ek,Int.toNat_natCast];exact hkk
  obtain⟨xk,rfl,hxk,hkc⟩:=KK.out (by intro e;rw[e] at hkn;simp at hkn);have KC1:=aj ((hkc kn k hkk).below B1.out (by rw[add_block];exact hxk));have x7:=X1.out.c7;have EK:=aj (ek);clear hf hfs hcell hx hn Yz hkc hxk hkk ek;go_upto_region 5 with fail
  have U2:Hid (dB _ ⟨w1.heap.size,0,none⟩ u):=dB.mk' u rfl;have BA:Hid (Below _ w1 (w1.alloc (Obj.cells #[int i64 u.id,int i64 u.aA,int i64 u.kind,int i64 u.at_,int i64 u.life,int i64 u.load,int i64 u.task,int i64 u.goal] 74))):=(Below.refl _ _).alloc (Nat.le_refl _) _;generalize (w1.alloc _)=w2 at *;have B2:=aj (B1.out.trans (BA.out.mono B1.out.size));have J2:=aj (J1.out.below BA.out J1.out.lt);have KC2:=aj (KC1.out.below BA.out KC1.out.lt);clear d0 d1 d2 d3 d4 d5 d6 d7 x7 X1 J1 KC1 BA B1;generalize w1.heap.size=zu at *;obtain⟨y0,y1,y2,y3,y4,y5,y6,y7⟩:=U2.out;rw[EK.out] at y2;obtain⟨j0,j1,j2,j3⟩:=J2.out;obtain⟨l0,l1,l2,l3,l4,l5,l6,l7,l8,l9,l10⟩:=KC2.out;simp only[Nat.zero_add] at y1 y2 y3 y4 y5 y6 y7 j1 j2 j3;by_cases hp:u.aA=j.aA
  ·cases ht:k.t with
   |false=>
    have F7:=aj (jf7 HF.out HK.out (.inr ht));rw[ht] at l10;rw[hp] at y1;clear ht;go_wp2;go_ret;exact⟨_,rfl,by rw[F7.out];exact Er.no (by decide),B2.out⟩
   |true=>
    obtain⟨b4,hb4⟩:∃b,decide (0<=j.kind/\j.kind<(ks.length:Int))=b:=⟨_,rfl⟩;obtain⟨b5,hb5⟩:∃b,decide (1<=j.left/\j.left<=1000)=b:=⟨_,rfl⟩;have HB:=aj (eU hb4 hb5);have RV:Hid (u.aA=j.aA/\k.t=true):=⟨hp,ht⟩;rw[ht] at l10;rw[hp] at y1;clear ht;go_wp2_with fail
    refine(iH _ _ _ _ _ (by omega)).mono ?_;rintro e w3 ⟨rfl,iF⟩;obtain rfl:=iF.symm;rw[hb4];clear hb4;cases b4 with
    |false=>
     have F1:=aj (jf1 HF.out HK.out RV.out.1 RV.out.2 (.inl HB.out.1));clear hb5;go_wp2;go_ret;exact⟨_,rfl,by rw[F1.out];exact Er.no (by decide),B2.out⟩
    |true=>
     go_wp2_with fail
     refine(bG _ 1 _ _).mono ?_;rintro e w4 ⟨rfl,iF⟩;obtain rfl:=iF.symm;rw[hb5];clear hb5;cases b5 with
     |false=>
      have F1:=aj (jf1 HF.out HK.out RV.out.1 RV.out.2 (.inr HB.out.2));go_wp2;go_ret;exact⟨_,rfl,by rw[F1.out];exact Er.no (by decide),B2.out⟩
     |true=>
      have F0:=aj (jf0 HF.out HK.out RV.out.1 RV.out.2 HB.out.1 HB.out.2);go_wp2;go_ret;exact⟨_,rfl,by rw[F0.out];exact Er.nil,B2.out⟩
  ·have F7:=aj (jf7 HF.out HK.out (.inl hp))
   go_wp2;go_ret;exact⟨_,rfl,by rw[F7.out];exact Er.no (by decide),B2.out⟩
theorem uU(x a b:Int)(w:World):
  Calls Tryz.prog 128 #[int i64 x,int i64 a,int i64 b] w λe w'=>e=.returned (.bool (decide (a<=x/\x<=b)))/\w'=w:=by
 by_cases h1:a<=x
 ·by_cases h2:x<=b
  ·go_enter Tryz.func128,Tryz.ntmps128
   go_wp2;go_ret;exact⟨by simp[h1,h2],rfl⟩
  ·go_enter Tryz.func128,Tryz.ntmps128
   go_wp2;go_ret;exact⟨by simp;omega,rfl⟩
 ·go_enter Tryz.func128,Tryz.ntmps128
  go_wp2;go_ret;exact⟨by simp;omega,rfl⟩
theorem iY(x a b:Int)(w:World)(h1:a<=x)(h2:x<=b):
  Calls Tryz.prog 128 #[int i64 x,int i64 a,int i64 b] w λe w'=>e=.returned (.bool true)/\w'=w:=
 (uU x a b w).mono λe w' ⟨h,hw⟩=>⟨by rw[h,decide_eq_true ⟨h1,h2⟩],hw⟩
theorem jT(x a b:Int)(w:World)(h:x<a\/b<x):
  Calls Tryz.prog 128 #[int i64 x,int i64 a,int i64 b] w λe w'=>e=.returned (.bool false)/\w'=w:=
 (uU x a b w).mono λe w' ⟨h',hw⟩=>⟨by rw[h',decide_eq_false (by omega)],hw⟩
def LC(p:KV->Bool)(ks:List KV)(r:Int):Prop:=(r= -1/\ks.any p=false)\/∃(k:Nat) (x:KV),r=k/\ks[k]? =some x/\p x=true/\(ks.take k).any p=false
theorem Bj{p:KV->Bool}{ks:List KV}{k:Nat}{x:KV}(h:ks[k]? =some x):(ks.take (k+1)).any p=((ks.take k).any p||p x):=by
 obtain⟨hi,e⟩:=List.getElem?_eq_some_iff.1 h;rw[List.take_succ_eq_append_getElem hi,List.any_append,e];simp
theorem Gf(K:Nat)(eK:∀args w,(callFunc K args).run Tryz.prog w=.ok (.enter K args) w)(u:Value)(cs:Array Value)(ks:List KV)(p:KV->Bool)(w:World)(hu:Kl w u ks)
  (hp:∀W,Below w.heap.size w W->∀k:KV,Calls Tryz.prog K (#[k.val]++cs) W λe w'=>e=.returned (.bool (p k))/\Below W.heap.size W w'):
  Calls Tryz.prog 241 #[u,.func (Fn.func K) #[] cs] w λe w'=>∃r:Int,e=.returned (int i64 r)/\LC p ks r/\Below w.heap.size w w':=by
 obtain⟨a,c,rfl,c1,c2,ca⟩:=hu;have Ca:=aj (ca);have Hp:=aj (hp);clear ca hp;go_enter Tryz.func241,Tryz.ntmps241;go_wp2;go_loopw [8] (λi W'=>∃k:Nat,k<=ks.length/\i=int i64 (k:Nat)/\(ks.take k).any p=false/\Below w.heap.size w W') (λi _=>ks.length-(intOf i).toNat)
 case atStart=>exact⟨0,Nat.zero_le _,rfl,by simp,Below.refl _ _⟩
 case round=>
  obtain⟨k,hk,rfl,ht,hb⟩:=hrel;have Ht:=aj (ht);have B:=aj (hb);clear ht hb;by_cases h0:k=ks.length
  ·subst h0
   go_wp2;go_ret;refine⟨_,rfl,.inl ⟨rfl,?_⟩,B⟩;have:=Ht.out;rw[List.take_of_length_le (Nat.le_refl _)] at this;exact this
  ·have hkx:k<ks.length:=by omega
   obtain⟨x,rfl,hx1,hx⟩:=Ca.out (by intro h;rw[h] at hkx;simp at hkx);obtain⟨y,hy⟩:∃y,ks[k]? =some y:=⟨_,List.getElem?_eq_getElem hkx⟩;have Yc:=(hx k y hy).below B.out (by rw[add_block];exact hx1);obtain⟨q0,q1,q2,q3,q4,q5,q6,q7,q8,q9,q10⟩:=Yc;have hc:=Hp.out wr B.out y;have Hs:Hid _:=Bj (p:=p) hy;have Hm:=aj (hy);clear hx hx1 hy;cases hy:p y with
   |true=>
    rw[hy] at hc;have Hc:=aj (hc);have Hy:=aj (hy);clear hc hy;go_wp2_with fail
    refine Calls.mono Hc.out ?_;rintro e w1 ⟨rfl,b1⟩;have B1:=aj (B.out.trans (b1.mono B.out.size));clear b1;go_wp2;go_ret;exact⟨_,rfl,.inr ⟨k,y,rfl,Hm,Hy,Ht⟩,B1⟩
   |false=>
    rw[hy] at hc;have Hc:=aj (hc);have Hy:=aj (hy);clear hc hy;go_wp2_with fail
    refine Calls.mono Hc.out ?_;rintro e w1 ⟨rfl,b1⟩;have B1:=aj (B.out.trans (b1.mono B.out.size));clear b1;go_wp2;go_round
    case rel=>exact⟨k+1,by omega,by go_num,by have:=Hs.out;rw[Ht.out,Hy.out] at this;exact this,B1⟩
    case measure=>simp[intOf];omega
theorem Bo(k:KV)(s:ByteArray)(b:Nat)(w:World)(hc:w.cell? ⟨b,0,none⟩=some (.string s)):
  Calls Tryz.prog 242 #[k.val,.pointer (some ⟨b,0,none⟩)] w λe w'=>e=.returned (.bool (k.k.name==s.data.toList))/\Below w.heap.size w w':=by
 obtain⟨kb,n0,n1,n2,n3,n4,n5,n6,n7,kf,kt⟩:=k;have hl:=cell_lt hc;unfold KV.val;go_enter Tryz.func242,Tryz.ntmps242;go_wp2;go_ret;refine⟨?_,(Below.refl _ _).alloc (Nat.le_refl _) _⟩;show Ending.returned (.bool (kb.toList==s.toList))=_;rw[ByteArray.toList_eq,ByteArray.toList_eq];rfl
theorem Qc:∀args w,(callFunc 242 args).run Tryz.prog w=.ok (.enter 242 args) w:=by
 intro args w;go_simp
theorem Gg(v:Value)(ks:List KV)(s:ByteArray)(w:World)(h:Kl w v ks):
  Calls Tryz.prog 208 #[v,.string s] w λe w'=>∃r:Int,e=.returned (int i64 r)/\LC (λk=>k.k.name==s.data.toList) ks r/\Below w.heap.size w w':=by
 have K0:=aj (h);obtain⟨a,c,rfl,c1,c2,-⟩:=h;go_enter Tryz.func208,Tryz.ntmps208;go_wp2_with fail
 have B1:Below _ w (w.alloc (Obj.cells #[.string s] 9)):=(Below.refl _ _).alloc (Nat.le_refl _) _;have hc:(w.alloc (Obj.cells #[.string s] 9)).cell? ⟨w.heap.size,0,none⟩=some (.string s):=by simp
 have hz:(w.alloc (Obj.cells #[.string s] 9)).heap.size=w.heap.size+1:=by simp
 refine(Gf 242 Qc _ _ ks (λk=>k.k.name==s.data.toList) _ (K0.out.below B1) ?_).mono ?_
 ·intro W hW k
  exact Bo k s _ W (by rw[hW.cell (p:=⟨w.heap.size,0,none⟩) (by rw[hz];exact Nat.lt_succ_self _)];exact hc)
 ·rintro e w1 ⟨r,rfl,hr,b1⟩
  have B2:=aj (B1.trans (b1.mono B1.size));have Hr:=aj (hr);clear hr b1 B1 hc hz;go_wp2;go_ret;exact⟨r,rfl,Hr,B2⟩
end Go.Proofs.YtolfphmdmpehdaaGreatDoor
