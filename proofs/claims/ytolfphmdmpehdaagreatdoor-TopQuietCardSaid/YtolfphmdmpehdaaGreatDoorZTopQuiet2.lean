/- The program's kinds: their numbers, and whether these are within bounds. And more. -/
import Derived.Test.YtolfphmdmpehdaaGreatDoorZTopQuiet1
import Derived.Test.YtolfphmdmpehdaaGreatDoorShelf
set_option linter.unusedVariables false
set_option maxHeartbeats 16000000
set_option maxRecDepth 100000
open Go.Value (int slice)
open Go.IntKind (i64)
namespace Go.Proofs.YtolfphmdmpehdaaGreatDoor
open Go.RowKit
def KV.arr(k:KV):Value:=.agg #[int i64 k.n0,int i64 k.n1,int i64 k.n2,int i64 k.n3,int i64 k.n4,int i64 k.n5,int i64 k.n6,int i64 k.n7]
theorem Gh(k:KV)(w:World):
  Calls Tryz.prog 178 #[k.val] w λe w'=>e=.returned k.arr/\Below w.heap.size w w':=by
 obtain⟨kb,n0,n1,n2,n3,n4,n5,n6,n7,kf,kt⟩:=k;unfold KV.val KV.arr;go_enter Tryz.func178,Tryz.ntmps178;go_wp2;refine bodyPost_ret (by simp[results,Tryz.results178,go_sem]) rfl ⟨rfl,?_⟩;exact((Below.refl _ _).alloc (Nat.le_refl _) _).alloc (by simp) _
theorem Vz(cs:Array Value)(p:Nat)(x:Int)(hp:p<8)(h:cs[p]? =some (int i64 x))(W:World):(Instr.index 240 (.agg cs) (int i64 (p:Int))).run Tryz.prog W=.ok (int i64 x) W:=by
 have h1:(0:Int)<=p/\(p:Int)<8:=by omega
 have hs:=(Array.getElem?_eq_some_iff.1 h).1;unfold Instr.index;simp[go_sem,h1];rw[if_pos hp,h];simp[go_sem]
def KV.ns(k:KV):List Int:=[k.n0,k.n1,k.n2,k.n3,k.n4,k.n5,k.n6,k.n7]
theorem LD(k:KV)(w:World):
  Calls Tryz.prog 209 #[k.val] w λe w'=>e=.returned (.bool (decide (Kd.b_ k.ns=0)))/\Below w.heap.size w w':=by
 have NA:=Gh k;obtain⟨kb,n0,n1,n2,n3,n4,n5,n6,n7,kf,kt⟩:=k;have R:Hid (Kd.b_ (KV.ns ⟨kb,n0,n1,n2,n3,n4,n5,n6,n7,kf,kt⟩)=if[n0,n1,n2,n3,n4,n5,n6,n7].any _ then 1 else if n0<1\/4<n4\/12<n2\/12<n3 then 1 else 0):=rfl;generalize Kd.b_ _=r at *;unfold KV.val KV.arr at *;simp only at NA;have XM:=aj (NA);clear NA;go_enter Tryz.func209,Tryz.ntmps209;have B1:Hid (Below _ w (w.alloc (Obj.cells #[.string kb,int i64 n0,int i64 n1,int i64 n2,int i64 n3,int i64 n4,int i64 n5,int i64 n6,int i64 n7,.bool kf,.bool kt] 77))):=(Below.refl _ _).alloc (Nat.le_refl _) _;have X1:Hid (Kc (w.alloc (Obj.cells #[.string kb,.int _ n0,.int _ n1,.int _ n2,.int _ n3,.int _ n4,.int _ n5,.int _ n6,.int _ n7,.bool kf,.bool kt] 77)) _ _):=Kc.mk' ⟨kb,n0,n1,n2,n3,n4,n5,n6,n7,kf,kt⟩ rfl;go_wp2_with fail
 refine(XM.out _).mono ?_;rintro e w2 ⟨rfl,b2⟩;have X2:=aj (X1.out.below b2 X1.out.lt);have B2:=aj (B1.out.trans (b2.mono B1.out.size));clear b2 B1 X1 XM;obtain⟨ns,hns⟩:∃ns,[n0,n1,n2,n3,n4,n5,n6,n7]=ns:=⟨_,rfl⟩;have YA:=aj (hns);have nl:Hid (ns.length=8):=by rw[<-hns];rfl
 rw[hns] at R;clear hns;go_wp2_with fail
 go_loop [7] (λj=>∃p:Nat,p<=8/\j=int i64 (p:Nat)/\(ns.take p).any (λx=>decide (x<0\/1000<x))=false) (λj=>8-(intOf j).toNat)
 case atStart=>exact⟨0,Nat.zero_le _,rfl,by simp⟩
 case round=>
  obtain⟨p,hp,rfl,hany⟩:=hrel;have An:=aj (hany);clear hany;by_cases hp8:p=8
  ·have R2:Hid (r=if n0<1\/4<n4\/12<n2\/12<n3 then 1 else 0):=by
    have h9:=An.out;rw[List.take_of_length_le (by rw[nl.out,hp8];exact Nat.le_refl _)] at h9;unfold Hid;rw[R.out,if_neg (by rw[h9];decide)]
   have z1:w2.cell? ⟨w.heap.size,1,none⟩=some (.int _ n0):=X2.out.c1;have z3:w2.cell? ⟨w.heap.size,3,none⟩=some (.int _ n2):=X2.out.c3;have z4:w2.cell? ⟨w.heap.size,4,none⟩=some (.int _ n3):=X2.out.c4;have z5:w2.cell? ⟨w.heap.size,5,none⟩=some (.int _ n4):=X2.out.c5;subst hp8;clear R An X2;by_cases t1:0<n0
   ·by_cases t2:n4<=4
    ·by_cases t3:n2<=12
     ·by_cases t4:n3<=12
      ·have E:Hid (decide (r=0)=true):=by unfold Hid;rw[R2.out,if_neg (by omega)];rfl
       go_wp2;go_ret;exact⟨by rw[E.out];rfl,B2⟩
      ·have E:Hid (decide (r=0)=false):=by unfold Hid;rw[R2.out,if_pos (by omega)];rfl
       go_wp2;go_ret;exact⟨by rw[E.out];rfl,B2⟩
     ·have E:Hid (decide (r=0)=false):=by unfold Hid;rw[R2.out,if_pos (by omega)];rfl
      go_wp2;go_ret;exact⟨by rw[E.out];rfl,B2⟩
    ·have E:Hid (decide (r=0)=false):=by unfold Hid;rw[R2.out,if_pos (by omega)];rfl
     go_wp2;go_ret;exact⟨by rw[E.out];rfl,B2⟩
   ·have E:Hid (decide (r=0)=false):=by unfold Hid;rw[R2.out,if_pos (by omega)];rfl
    go_wp2;go_ret;exact⟨by rw[E.out];rfl,B2⟩
  ·have hp9:p<8:=by omega
   obtain⟨x,hx⟩:∃x,ns[p]? =some x:=⟨_,List.getElem?_eq_getElem (by rw[nl.out];exact hp9)⟩;have As:Hid ((ns.take (p+1)).any (λx=>decide (x<0\/1000<x))=decide (x<0\/1000<x)):=by
    obtain⟨hi,e⟩:=List.getElem?_eq_some_iff.1 hx;unfold Hid;rw[List.take_succ_eq_append_getElem hi,List.any_append,An.out,e];simp
   have ax:(#[int i64 n0,int i64 n1,int i64 n2,int i64 n3,int i64 n4,int i64 n5,int i64 n6,int i64 n7]:Array Value)[p]? =some (int i64 x):=by
    have h9:(ns.map (int i64)).toArray[p]? =some (int i64 x):=by simp[hx]
    rw[<-YA.out] at h9;exact h9
   have hix:=Vz _ p x hp9 ax;clear ax;have Mx:=aj (List.mem_of_getElem? hx);clear hx;by_cases t:x<0\/1000<x
   ·have E:Hid (decide (r=0)=false):=by
     unfold Hid;rw[R.out,if_pos (List.any_eq_true.2 ⟨x,Mx.out,by simpa using t⟩)];rfl
    go_wp2_with (go_at_call 128;refine(jT _ _ _ _ t).mono ?_;rintro e w' ⟨rfl,rfl⟩);go_ret;exact⟨by rw[E.out];rfl,B2⟩
   ·have A2:Hid ((ns.take (p+1)).any (λx=>decide (x<0\/1000<x))=false):=by unfold Hid;rw[As.out,decide_eq_false t]
    go_wp2_with (go_at_call 128;refine(iY _ _ _ _ (by omega) (by omega)).mono ?_;rintro e w' ⟨rfl,rfl⟩);go_round
    case rel=>exact⟨p+1,by omega,by go_num,A2⟩
    case measure=>simp[intOf];omega
end Go.Proofs.YtolfphmdmpehdaaGreatDoor
namespace Go.Proofs.YtolfphmdmpehdaaGreatDoor.Kd
def jh(r:Nat):Bool:=decide ((r:Int)<97)||decide (122<(r:Int))
theorem Bv{r:Nat}(h:128<=r):jh r=true:=by
 unfold jh;rw[decide_eq_true (show(122:Int)<(r:Int) by omega),Bool.or_true]
theorem su(s:ByteArray)(i:Nat)(h:(s.get! i).toNat<128):Utf8.decode s i=((s.get! i).toNat,1):=by
 unfold Utf8.decode;simp only[Nat.add_zero];rw[if_pos h]
theorem wM(s:ByteArray)(i:Nat)(h:¬(s.get! i).toNat<128):128<=(Utf8.decode s i).1:=by
 unfold Utf8.decode;simp only[Nat.add_zero];rw[if_neg h];simp only[Utf8.runeError];split
 ·split
  ·rename_i h2;exact h2
  ·simp
 ·split
  ·split
   ·rename_i h2
    simp only[Bool.and_eq_true,decide_eq_true_eq] at h2;have:=h2.1;simp only;omega
   ·simp
  ·split
   ·split
    ·rename_i h2
     simp only[Bool.and_eq_true,decide_eq_true_eq] at h2;have:=h2.1;simp only;omega
    ·simp
   ·simp
theorem sD(b:UInt8)(h:b.toNat<128):jh b.toNat= !eG b:=by
 unfold jh eG;by_cases h1:97<=b.toNat
 ·by_cases h2:b.toNat<=122
  ·rw[decide_eq_true h1,decide_eq_true h2,decide_eq_false (show ¬(b.toNat:Int)<97 by omega),decide_eq_false (show ¬122<(b.toNat:Int) by omega)];rfl
  ·rw[decide_eq_true h1,decide_eq_false h2,decide_eq_false (show ¬(b.toNat:Int)<97 by omega),decide_eq_true (show 122<(b.toNat:Int) by omega)];rfl
 ·rw[decide_eq_false h1,decide_eq_true (show(b.toNat:Int)<97 by omega)];rfl
theorem get_at(s:ByteArray)(i:Nat)(h:i<s.size):s.get! i=s.data.toList[i]'h:=by
 show s.data[i]! =_;rw[getElem!_pos s.data i h];simp
theorem nX(s:ByteArray):∀(f pos:Nat),s.size<=pos+f->decide (0<=Lib.idxFuncFrom jh true s f pos)= !((s.data.toList.drop pos).all eG)
 |0,pos,h=>by
  rw[List.drop_eq_nil_of_le (by show s.size<=pos;omega)];rfl
 |f+1,pos,h=>by
  unfold Lib.idxFuncFrom;by_cases hp:pos<s.size
  ·have hl:pos<s.data.toList.length:=hp
   rw[if_pos hp,List.drop_eq_getElem_cons hl,List.all_cons,<-get_at s pos hp];by_cases hb:(s.get! pos).toNat<128
   ·rw[su s pos hb]
    simp only;rw[sD _ hb];cases hi:eG (s.get! pos) with
    |true=>
     rw[if_neg (by simp),Bool.true_and];exact nX s f _ (by omega)
    |false=>
     rw[if_pos (by simp),decide_eq_true (by omega)];simp
   ·rw[if_pos (Bv (wM s pos hb)),decide_eq_true (by omega)]
    have:eG (s.get! pos)=false:=by
     unfold eG;rw[decide_eq_false (show ¬(s.get! pos).toNat<=122 by omega),Bool.and_false]
    rw[this];rfl
  ·rw[if_neg hp,List.drop_eq_nil_of_le (by show s.size<=pos;omega)]
   rfl
theorem wO(s:ByteArray):decide (0<=Lib.idxFunc jh true s)= !(s.data.toList.all eG):=by
 have:=nX s s.size 0 (by omega);rw[List.drop_zero] at this;exact this
end Go.Proofs.YtolfphmdmpehdaaGreatDoor.Kd
namespace Go.Proofs.YtolfphmdmpehdaaGreatDoor
open Go.RowKit
theorem Qd:∀args w,(callFunc 239 args).run Tryz.prog w=.ok (.enter 239 args) w:=by
 intro args w;go_simp
theorem Bz(x:Nat)(w:World):
  Calls Tryz.prog 239 #[.int .i32 (x:Int)] w λe w'=>e=.returned (.bool (Kd.jh x))/\w'=w:=by
 unfold Kd.jh;by_cases h1:(x:Int)<97
 ·go_enter Tryz.func239,Tryz.ntmps239
  go_wp2;go_ret;exact⟨by first|(simp;done)|(simp;omega),rfl⟩
 ·by_cases h2:122<(x:Int)
  ·go_enter Tryz.func239,Tryz.ntmps239
   go_wp2;go_ret;exact⟨by first|(simp;done)|(simp;omega),rfl⟩
  ·go_enter Tryz.func239,Tryz.ntmps239
   go_wp2;go_ret;exact⟨by first|(simp;done)|(simp;omega),rfl⟩
theorem uV(s:ByteArray)(w:World):
  Calls Tryz.prog 240 #[.string s,.func (.func 239) #[] #[]] w λe w'=>e=.returned (.bool (!(s.data.toList.all Kd.eG)))/\Below w.heap.size w w':=by
 have h:=Tryz.strings_ContainsFunc_grows 239 #[] Qd Kd.jh s w (λW x _ _=>(Bz x W).mono λe w' ⟨h1,h2⟩=>⟨h1,by rw[h2];exact Below.refl _ _⟩);rw[Kd.wO s] at h;exact h
theorem wP(s:ByteArray)(w:World)(hb:s.size<=9223372036854775807):
  Calls Tryz.prog 207 #[.string s] w λe w'=>e=.returned (.bool (Kd.jG s.data.toList))/\Below w.heap.size w w':=by
 have L:Hid (∀w:World,Calls Tryz.prog 240 #[.string s,.func (.func 239) #[] #[]] w λe w'=>e=.returned (.bool (!(s.data.toList.all Kd.eG)))/\Below w.heap.size w w'):=λw=>uV s w
 obtain⟨l,hl⟩:∃l,s.data.toList=l:=⟨_,rfl⟩;have Ll:Hid (l.length=s.size):=by unfold Hid;rw[<-hl];rfl
 rw[hl] at L ⊢;clear hl;by_cases h1:1<=s.size/\s.size<=8
 ·obtain⟨h2,h3⟩:=h1
  have E:Hid (Kd.jG l=l.all Kd.eG):=by
   unfold Hid Kd.jG;rw[decide_eq_true (show l.length<=8 by rw[Ll.out];exact h3),Bool.true_and];cases l with
   |nil=>have:=Ll.out;simp at this;omega
   |cons a r=>rfl
  generalize l.all _=b at *;rw[E.out];clear E;go_enter Tryz.func207,Tryz.ntmps207;go_wp2_with (go_at_call 128;refine(iY _ _ _ _ (by omega) (by omega)).mono ?_;rintro e w' ⟨rfl,hw⟩;obtain rfl:=hw.symm);refine(L.out _).mono ?_;rintro e w1 ⟨rfl,b1⟩;have B1:=aj (b1);clear b1;go_wp2;go_ret;exact⟨by simp,B1⟩
 ·have E:Hid (Kd.jG l=false):=by
   unfold Hid Kd.jG;cases l with
   |nil=>rfl
   |cons a r=>
    rw[decide_eq_false (show ¬(a::r).length<=8 by intro h;have:=Ll.out;simp at this h;omega)];simp
  rw[E.out];go_enter Tryz.func207,Tryz.ntmps207;go_wp2_with (go_at_call 128;refine(jT _ _ _ _ (by omega)).mono ?_;rintro e w' ⟨rfl,rfl⟩);go_ret;exact⟨rfl,Below.refl _ _⟩
theorem LC.none{p:KV->Bool}{ks:List KV}{r:Int}(h:LC p ks r):(0<=r/\ks.any p=true)\/(r= -1/\ks.any p=false):=by
 rcases h with h|⟨k,x,rfl,h1,h2,_⟩
 ·exact .inr h
 ·exact .inl ⟨by omega,List.any_eq_true.2 ⟨x,List.mem_of_getElem? h1,h2⟩⟩
theorem BH(v:Value)(ks:List KV)(k:KV)(w:World)(h:Kl w v ks)(hb:k.b.size<=9223372036854775807):
  Calls Tryz.prog 162 #[v,k.val] w λe w'=>∃u,e=.returned u/\Er u (Kd.bV (ks.map KV.k) k.k)/\Below w.heap.size w w':=by
 have K0:=aj (h);obtain⟨a,c,rfl,c1,c2,-⟩:=h;have NM:=wP k.b;have IB:=LD k;have KF:Hid (Kd.bV (ks.map KV.k) k.k=if Kd.jG k.b.data.toList then(if(ks.any λa=>a.k.name==k.b.data.toList) then 8 else Kd.b_ k.ns) else 2):=by
  unfold Hid Kd.bV;rw[List.any_map];rfl
 obtain⟨R,hR⟩:∃R,Kd.bV (ks.map KV.k) k.k=R:=⟨_,rfl⟩;rw[hR] at KF ⊢;clear hR;obtain⟨kb,n0,n1,n2,n3,n4,n5,n6,n7,kf,kt⟩:=k;simp only at hb NM KF;unfold KV.val at IB ⊢;simp only at IB ⊢;have XP:=aj (NM);obtain⟨F,hF⟩:∃F,Kd.b_ (KV.ns ⟨kb,n0,n1,n2,n3,n4,n5,n6,n7,kf,kt⟩)=F:=⟨_,rfl⟩;rw[hF] at IB KF;have XT:=aj (IB);have HF:Hid (F=0\/F=1):=by
  unfold Hid;rw[<-hF];unfold Kd.b_;split
  ·exact .inr rfl
  ·split
   ·exact .inr rfl
   ·exact .inl rfl
 clear NM IB hF;go_enter Tryz.func162,Tryz.ntmps162;have B1:Hid (Below _ w (w.alloc (Obj.cells #[.string kb,int i64 n0,int i64 n1,int i64 n2,int i64 n3,int i64 n4,int i64 n5,int i64 n6,int i64 n7,.bool kf,.bool kt] 77))):=(Below.refl _ _).alloc (Nat.le_refl _) _;have X1:Hid (Kc (w.alloc (Obj.cells #[.string kb,.int _ n0,.int _ n1,.int _ n2,.int _ n3,.int _ n4,.int _ n5,.int _ n6,.int _ n7,.bool kf,.bool kt] 77)) _ _):=Kc.mk' ⟨kb,n0,n1,n2,n3,n4,n5,n6,n7,kf,kt⟩ rfl;go_wp2_with fail
 generalize w.alloc _=w1 at *;refine(XP.out _ hb).mono ?_;rintro e w2 ⟨rfl,b2⟩;have B2:=aj (B1.out.trans (b2.mono B1.out.size));have X2:=aj (X1.out.below b2 X1.out.lt);clear b2 X1 XP;cases hn:Kd.jG kb.data.toList with
 |false=>
  have E:Hid (R=2):=by unfold Hid;rw[KF.out,hn];rfl
  clear hn;go_wp2;go_ret;exact⟨_,rfl,by rw[E.out];exact Er.no (by decide),B2⟩
 |true=>
  have KF2:Hid (R=if(ks.any λa=>a.k.name==kb.data.toList) then 8 else F):=by unfold Hid;rw[KF.out,hn];rfl
  clear hn KF;have x0:w2.cell? _=some (.string kb):=X2.out.c0;go_wp2_with fail
  refine(Gg _ ks kb _ (K0.out.below B2.out)).mono ?_;rintro e w3 ⟨r,rfl,hr,b3⟩;have B3:=aj (B2.out.trans (b3.mono B2.out.size));have X3:=aj (X2.out.below b3 X2.out.lt);clear b3 X2 x0;rcases hr.none with⟨h0,ha⟩|⟨h0,ha⟩
  ·have E:Hid (R=8):=by unfold Hid;rw[KF2.out,if_pos ha]
   clear ha hr;go_wp2;go_ret;exact⟨_,rfl,by rw[E.out];exact Er.no (by decide),B3⟩
  ·have E:Hid (R=F):=by unfold Hid;rw[KF2.out,if_neg (by rw[ha];decide)]
   clear ha hr;subst h0;obtain⟨x0,x1,x2,x3,x4,x5,x6,x7,x8,x9,x10⟩:=X3.out;have x1:w3.cell? ⟨w.heap.size,1,none⟩=some (.int _ n0):=x1;have x2:w3.cell? ⟨w.heap.size,2,none⟩=some (.int _ n1):=x2;have x3:w3.cell? ⟨w.heap.size,3,none⟩=some (.int _ n2):=x3;have x4:w3.cell? ⟨w.heap.size,4,none⟩=some (.int _ n3):=x4;have x5:w3.cell? ⟨w.heap.size,5,none⟩=some (.int _ n4):=x5;have x6:w3.cell? ⟨w.heap.size,6,none⟩=some (.int _ n5):=x6;have x7:w3.cell? ⟨w.heap.size,7,none⟩=some (.int _ n6):=x7;have x8:w3.cell? ⟨w.heap.size,8,none⟩=some (.int _ n7):=x8;have x9:w3.cell? ⟨w.heap.size,9,none⟩=some (.bool kf):=x9;have x10:w3.cell? ⟨w.heap.size,10,none⟩=some (.bool kt):=x10;go_wp2_with fail
   refine(XT.out _).mono ?_;rintro e w4 ⟨rfl,b4⟩;have B4:=aj (B3.out.trans (b4.mono B3.out.size));clear b4 XT x0 x1 x2 x3 x4 x5 x6 x7 x8 x9 x10;rcases HF.out with hF|hF
   ·rw[hF]
    have E2:Hid (R=0):=by unfold Hid;rw[E.out,hF]
    go_wp2;go_ret;exact⟨_,rfl,by rw[E2.out];exact Er.nil,B4⟩
   ·rw[hF]
    have E2:Hid (R=1):=by unfold Hid;rw[E.out,hF]
    go_wp2;go_ret;exact⟨_,rfl,by rw[E2.out];exact Er.no (by decide),B4⟩
theorem Kl.take{w:World}{a:Option Addr}{n c:Nat}{ks:List KV}(h:Kl w (slice a n c) ks){q:Nat}(hq:q<=ks.length):Kl w (slice a q c) (ks.take q):=by
 obtain⟨a',c',e,h1,h2,h3⟩:=h;injection e with e1 e2 e3
 subst e1 e3;have hl:(ks.take q).length=q:=by rw[List.length_take];omega
 refine⟨a,c,by rw[hl],by rw[hl];omega,h2,λhn=>?_⟩;obtain⟨x,hx,hb,hk⟩:=h3 (by rintro rfl;simp at hn);refine⟨x,hx,hb,λi k hi=>hk i k ?_⟩;rw[List.getElem?_take] at hi;split at hi
 ·exact hi
 ·cases hi
theorem Qe{ks:List KV}{i:Nat}{k:KV}(h:ks[i]? =some k):Kd.fF ((ks.take i).map KV.k) ((ks.drop i).map KV.k)=if Kd.bV ((ks.take i).map KV.k) k.k=0 then Kd.fF ((ks.take (i+1)).map KV.k) ((ks.drop (i+1)).map KV.k) else Kd.bV ((ks.take i).map KV.k) k.k:=by
 obtain⟨hi,e⟩:=List.getElem?_eq_some_iff.1 h;rw[List.drop_eq_getElem_cons hi,e,List.map_cons,Kd.fF,List.take_succ_eq_append_getElem hi,e,List.map_append];rfl
theorem nY(v:Value)(ks:List KV)(w:World)(h:Kl w v ks)(hb:∀k∈ks,k.b.size<=9223372036854775807):
  Calls Tryz.prog 120 #[v] w λe w'=>∃u,e=.returned u/\Er u (Kd.aG (ks.map KV.k))/\Below w.heap.size w w':=by
 have K0:=aj (h);have Hb:=aj (hb);obtain⟨R,hR⟩:∃R,Kd.aG (ks.map KV.k)=R:=⟨_,rfl⟩;have HR:=aj (hR);rw[hR];clear hR hb;obtain⟨a,c,rfl,c1,c2,-⟩:=h;by_cases h8:8<ks.length
 ·have E:Hid (R=4):=by unfold Hid;rw[<-HR.out];unfold Kd.aG;rw[if_pos (by simpa using h8)]
  have h8':(8:Int)<(ks.length:Int):=by omega
  go_enter Tryz.func120,Tryz.ntmps120;go_wp2;go_ret;exact⟨_,rfl,by rw[E.out];exact Er.no (by decide),Below.refl _ _⟩
 ·have h8':¬(8:Int)<(ks.length:Int):=by omega
  have R1:Hid (Kd.fF [] (ks.map KV.k)=R):=by unfold Hid;rw[<-HR.out];unfold Kd.aG;rw[if_neg (by simpa using h8)]
  go_enter Tryz.func120,Tryz.ntmps120;go_wp2_with fail
  go_loopw [12] (λj W'=>∃q:Nat,q<=ks.length/\j=int i64 (q:Nat)/\Kd.fF ((ks.take q).map KV.k) ((ks.drop q).map KV.k)=R/\Below w.heap.size w W') (λj _=>ks.length-(intOf j).toNat)
  case atStart=>exact⟨0,Nat.zero_le _,rfl,R1,Below.refl _ _⟩
  case round=>
   obtain⟨q,hq,rfl,hg,hb⟩:=hrel;have Gq:=aj (hg);have B:=aj (hb);clear hg hb;by_cases uz:q=ks.length
   ·have E:Hid (R=0):=by
     unfold Hid;rw[<-Gq.out,uz,List.drop_of_length_le (Nat.le_refl _)];rfl
    subst uz;go_wp2;go_ret;exact⟨_,rfl,by rw[E.out];exact Er.nil,B⟩
   ·have hqk:q<ks.length:=by omega
    obtain⟨k,hk⟩:∃k,ks[q]? =some k:=⟨_,List.getElem?_eq_getElem hqk⟩;have At:Hid (R=if Kd.bV ((ks.take q).map KV.k) k.k=0 then Kd.fF ((ks.take (q+1)).map KV.k) ((ks.drop (q+1)).map KV.k) else Kd.bV ((ks.take q).map KV.k) k.k):=by
     unfold Hid;rw[<-Qe hk];exact Gq.out.symm
    have K1:=K0.out.below B.out;have CK:Hid (∀W:World,Below wr.heap.size wr W->Calls Tryz.prog 162 #[slice a q c,k.val] W λe w'=>∃u,e=.returned u/\Er u (Kd.bV ((ks.take q).map KV.k) k.k)/\Below W.heap.size W w'):=
     λW hW=>BH _ (ks.take q) k W ((K1.take hq).below hW) (Hb.out k (List.mem_of_getElem? hk))
    generalize Kd.bV _ _=F at *;obtain⟨a',c',e,-,-,h3⟩:=K1;injection e with e1 e2 e3
    subst e1 e3;obtain⟨x,rfl,hx1,hx⟩:=h3 (by rintro rfl;simp at hqk);have Yc:=hx q k hk;clear hx h3 e2 hk;obtain⟨kb,n0,n1,n2,n3,n4,n5,n6,n7,kf,kt⟩:=k;obtain⟨q0,q1,q2,q3,q4,q5,q6,q7,q8,q9,q10⟩:=Yc;simp only at q0 q1 q2 q3 q4 q5 q6 q7 q8 q9 q10;unfold KV.val at CK;simp only at CK;go_upto_region 6 with fail
    have B1:Hid (Below _ wr (wr.alloc (Obj.cells #[.string kb,int i64 n0,int i64 n1,int i64 n2,int i64 n3,int i64 n4,int i64 n5,int i64 n6,int i64 n7,.bool kf,.bool kt] 77))):=(Below.refl _ _).alloc (Nat.le_refl _) _;have X1:=Kc.mk' (w:=wr) ⟨kb,n0,n1,n2,n3,n4,n5,n6,n7,kf,kt⟩ rfl;simp only at X1;clear q0 q1 q2 q3 q4 q5 q6 q7 q8 q9 q10;generalize wr.alloc _=w1 at *;obtain⟨x0,x1,x2,x3,x4,x5,x6,x7,x8,x9,x10⟩:=X1;simp only at x0 x1 x2 x3 x4 x5 x6 x7 x8 x9 x10;go_region_with (go_at_call 162;refine Calls.mono (CK.out _ B1.out.drew) ?_;rintro e w2 ⟨u,rfl,hu,b2⟩;have Hu:Hid (Er u F):=hu;have B2:Hid (Below wr.heap.size wr w2):=B1.out.drew.trans (b2.mono B1.out.drew.size);clear hu b2)
    all_goals
     have B3:=aj (B.out.trans (B2.out.mono B.out.size));clear B2 CK x0 x1 x2 x3 x4 x5 x6 x7 x8 x9 x10;rcases Hu.out with⟨hF,rfl⟩|⟨hF,rfl⟩
     ·have G2:Hid (Kd.fF ((ks.take (q+1)).map KV.k) ((ks.drop (q+1)).map KV.k)=R):=by
       unfold Hid;have:=At.out;rw[if_pos hF] at this;exact this.symm
      clear At;go_wp2;go_round
      case rel=>exact⟨q+1,by omega,by go_num,G2,B3⟩
      case measure=>simp[intOf];omega
     ·have E:Hid (R=F):=by
       unfold Hid;have:=At.out;rw[if_neg hF] at this;exact this
      have Hf:=aj (hF);clear At;go_wp2;go_ret;exact⟨_,rfl,by rw[E.out];exact Er.no Hf.out,B3⟩
theorem nZ(v f:Value)(ks:List KV)(W:WV)(w:World)(h:Kl w v ks)(hb:∀k∈ks,k.b.size<=9223372036854775807)(hf:Fl w f W.wide W.high W.gs W.os):
  Calls Tryz.prog 76 #[v,f] w λe w'=>∃u,e=.returned u/\Er u (Wd.ground ks W)/\Below w.heap.size w w':=by
 have K:Hid (Kl w v ks/\∀k∈ks,k.b.size<=9223372036854775807):=⟨h,hb⟩;have F:=aj (hf);obtain⟨u1,u2,rfl,h1,h2⟩:=hf;clear h hb h1 h2;go_enter Tryz.func76,Tryz.ntmps76;go_wp2_with fail
 have B0:Hid (Below _ w (w.alloc (Obj.cells #[int i64 W.wide,int i64 W.high,u1,u2] 25))):=(Below.refl _ _).alloc (Nat.le_refl _) _;have X0:Hid (Bf _ w.heap.size W.wide W.high u1 u2):=Bf.mk' W.wide W.high u1 u2 rfl;generalize w.alloc _=w0 at *;refine(nY _ ks w0 (K.out.1.below B0.out) K.out.2).mono ?_;rintro e w1 ⟨r,rfl,hr,hb1⟩;have B1:=aj (B0.out.trans (hb1.mono B0.out.size));have X1:=aj (X0.out.below hb1 X0.out.lt);clear hb1 X0;rcases hr with⟨hz,rfl⟩|⟨hz,rfl⟩
 ·have G:Hid (Wd.ground ks W=Fd.fault W.wide W.high W.gs W.os):=by unfold Hid Wd.ground;rw[if_pos hz]
  obtain⟨c0,c1,c2,c3⟩:=X1.out;clear hz;go_wp2_with fail
  refine(check_any _ W.wide W.high W.gs W.os w1 (F.out.below B1.out)).mono ?_;rintro e w2 ⟨r,rfl,hr,hb2⟩;have R:Hid (Er r (Wd.ground ks W)/\Below w.heap.size w w2):=⟨by rw[G.out];exact hr,B1.out.trans (hb2.mono B1.out.size)⟩;clear hr hb2 c0 c1 c2 c3;go_wp2;go_ret;exact⟨_,rfl,R.out.1,R.out.2⟩
 ·have G:Hid (Er (.iface 85 (int i64 (Kd.aG (ks.map KV.k)))) (Wd.ground ks W)):=by
   unfold Hid Wd.ground;rw[if_neg hz];exact Er.no hz
  clear hz;go_wp2;go_ret;exact⟨_,rfl,G.out,B1.out⟩
def kZ(W:WV):Int:=if Wd.aU W=true then 1 else 0
theorem LG(n:Int)(w:World):Calls Tryz.prog 122 #[int i64 n] w λe w'=>e=.returned (.bool (Wd.off 0 n))/\w'=w:=by
 go_enter Tryz.func122,Tryz.ntmps122;go_wp2_with fail
 refine(bG n 0 1000000 w).mono ?_;rintro e w1 ⟨rfl,rfl⟩;obtain⟨b,hb⟩:∃b,decide (0<=n/\n<=1000000)=b:=⟨_,rfl⟩;have HB:Hid (Wd.off 0 n= !b):=by unfold Hid Wd.off;rw[hb]
 rw[hb];clear hb;go_wp2;go_ret;exact⟨by rw[HB.out];rfl,rfl⟩
theorem wQ(v:Value)(W:WV)(w:World)(h:Wl w v W):
  Calls Tryz.prog 77 #[v] w λe w'=>∃u,e=.returned u/\Er u (kZ W)/\Below w.heap.size w w':=by
 obtain⟨u1,u2,u3,u4,u5,rfl,-,-,h3,-,-⟩:=h;have R3:=aj (h3);obtain⟨a,c,rfl,c1,c2,-⟩:=h3;go_enter Tryz.func77,Tryz.ntmps77;go_upto_region 2 with fail
 have B0:Hid (Below _ w (w.alloc (Obj.cells #[int i64 W.turn,int i64 W.next,int i64 W.wide,int i64 W.high,u1,u2,slice a W.gold.length c,u4,u5] 29))):=(Below.refl _ _).alloc (Nat.le_refl _) _;have X0:Hid (Bw _ w.heap.size W u1 u2 (slice a W.gold.length c) u4 u5):=Bw.mk' W _ _ _ _ _ rfl;generalize w.alloc _=w0 at *;obtain⟨x0,x1,-,-,-,-,x6,-,-⟩:=X0.out;obtain⟨t,ht⟩:∃t,decide (0<=W.turn/\W.turn<=1000000)=t:=⟨_,rfl⟩;obtain⟨n,hn⟩:∃n,decide (1<=W.next/\W.next<=1000000)=n:=⟨_,rfl⟩;obtain⟨g,hg⟩:∃g,decide (1<=(W.gold.length:Int)/\(W.gold.length:Int)<=4)=g:=⟨_,rfl⟩;obtain⟨m,hm⟩:∃m,W.gold.any (Wd.off 0)=m:=⟨_,rfl⟩;have HN:Hid (Wd.aU W=(!t||(!n||(!g||m)))):=by unfold Hid Wd.aU Wd.off;rw[ht,hn,hg];unfold Wd.off at hm;rw[hm]
 go_wp2_with fail
 refine(bG W.turn 0 1000000 w0).mono ?_;rintro e y1 ⟨rfl,iF⟩;obtain rfl:=iF.symm;rw[ht];cases t with
 |false=>
  go_wp2;go_ret;have EB:Wd.aU W=true:=by rw[HN.out];rfl
  exact⟨_,rfl,by unfold kZ;rw[EB];exact Er.no (by decide),B0.out⟩
 |true=>
  go_wp2_with fail
  refine(bG W.next 1 1000000 _).mono ?_;rintro e y2 ⟨rfl,iF⟩;obtain rfl:=iF.symm;rw[hn];cases n with
  |false=>
   go_wp2;go_ret;have EB:Wd.aU W=true:=by rw[HN.out];rfl
   exact⟨_,rfl,by unfold kZ;rw[EB];exact Er.no (by decide),B0.out⟩
  |true=>
   go_wp2_with fail
   refine(bG _ 1 4 _).mono ?_;rintro e y3 ⟨rfl,iF⟩;obtain rfl:=iF.symm;rw[hg];cases g with
   |false=>
    go_wp2;go_ret;have EB:Wd.aU W=true:=by rw[HN.out];rfl
    exact⟨_,rfl,by unfold kZ;rw[EB];exact Er.no (by decide),B0.out⟩
   |true=>
    go_wp2_with fail
    refine(uK 122 (by intro args w;go_simp) _ #[] W.gold _ _ (R3.out.below B0.out) (λq x _=>(LG x _).mono λe w' ⟨h1,h2⟩=>⟨h1,q,h2⟩)).mono ?_;rintro e y4 ⟨rfl,q,hq⟩;have BQ:Hid (Below w.heap.size w y4):=by rw[hq];exact B0.out.trans ⟨rfl,rfl,rfl,Nat.le_refl _,λ_ _=>rfl⟩
    clear hq;rw[hm];cases m with
    |false=>
     go_wp2;go_ret;have EB:Wd.aU W=false:=by rw[HN.out];rfl
     exact⟨_,rfl,by unfold kZ;rw[EB];exact Er.nil,BQ.out⟩
    |true=>
     go_wp2;go_ret;have EB:Wd.aU W=true:=by rw[HN.out];rfl
     exact⟨_,rfl,by unfold kZ;rw[EB];exact Er.no (by decide),BQ.out⟩
theorem qM{ks:List KV}{W:WV}:∀(l:List aC) (i:Nat),Wd.bT ks W i l=0->∀u∈l,∃j,Wd.aI ks W j u=0
 |[],_,_,u,hu=>by cases hu
 |x::l,i,h,u,hu=>by
  unfold Wd.bT at h;split at h
  ·rename_i h0
   rcases List.mem_cons.1 hu with rfl|hu
   ·exact⟨i,h0⟩
   ·exact qM l _ h u hu
  ·rename_i h0
   exact absurd h h0
theorem wR{ks:List KV}{W:WV}{j:Nat}{u:aC}(h:Wd.aI ks W j u=0):0<=u.kind/\u.kind<(ks.length:Int):=by
 have:Wd.has ks.length u.kind=true:=by
  cases hh:Wd.has ks.length u.kind with
  |true=>rfl
  |false=>
   unfold Wd.aI at h;rw[hh] at h;split at h
   ·cases h
   ·split at h
    ·cases h
    ·rw[if_pos (by simp)] at h
     cases h
 exact of_decide_eq_true this
theorem qN{ks:List KV}(h:Kd.aG (ks.map KV.k)=0):ks.length<=8:=by
 unfold Kd.aG at h;split at h
 ·cases h
 ·rename_i h8
  rw[List.length_map] at h8;omega
theorem jU{W:WV}(h:Wd.aU W=false):Wd.off 1 W.next=false/\W.gold.length<=4:=by
 unfold Wd.aU at h;simp only[Bool.or_eq_false_iff] at h;obtain⟨-,h1,h2,-⟩:=h;refine⟨h1,?_⟩;have:decide (1<=(W.gold.length:Int)/\(W.gold.length:Int)<=4)=true:=by
  cases hh:decide (1<=(W.gold.length:Int)/\(W.gold.length:Int)<=4) with
  |true=>rfl
  |false=>rw[hh] at h2;cases h2
 have:=of_decide_eq_true this;omega
theorem dI(vk vw:Value)(ks:List KV)(W:WV)(w:World)(hk:Kl w vk ks)(hb:∀k∈ks,k.b.size<=9223372036854775807)(hw:Wl w vw W):
  Calls Tryz.prog 33 #[vk,vw] w λe w'=>∃r,e=.returned r/\Er r (Wd.aF ks W)/\Below w.heap.size w w':=by
 have K:Hid (Kl w vk ks/\∀k∈ks,k.b.size<=9223372036854775807):=⟨hk,hb⟩;have H:=aj (hw);obtain⟨u1,u2,u3,u4,u5,rfl,r1,r2,r3,r4,r5⟩:=hw;obtain⟨p1,q1,rfl,-⟩:=r1;obtain⟨p2,q2,rfl,-⟩:=r2;obtain⟨p3,q3,rfl,-⟩:=r3;obtain⟨p4,q4,rfl,-⟩:=r4;obtain⟨p5,q5,rfl,k51,k52,k53⟩:=r5;have JC:=aj (k53);clear hk hb k53;go_enter Tryz.func33,Tryz.ntmps33;go_wp2_with fail
 have B0:Hid (Below _ w (w.alloc (Obj.cells #[int i64 W.turn,int i64 W.next,int i64 W.wide,int i64 W.high,slice p1 W.gs.length q1,slice p2 W.os.length q2,slice p3 W.gold.length q3,slice p4 W.us.length q4,slice p5 W.qs.length q5] 29))):=(Below.refl _ _).alloc (Nat.le_refl _) _;have X0:Hid (Bw _ w.heap.size W (slice p1 W.gs.length q1) (slice p2 W.os.length q2) (slice p3 W.gold.length q3) (slice p4 W.us.length q4) (slice p5 W.qs.length q5)):=Bw.mk' W _ _ _ _ _ rfl;generalize (w.alloc _)=w0 at *;refine(nZ _ _ ks W w0 (K.out.1.below B0.out) K.out.2 ⟨_,_,rfl,(H.out.below B0.out).slices.1,(H.out.below B0.out).slices.2.1⟩).mono ?_;rintro e w1 ⟨r,rfl,hr,hb1⟩;have B1:=aj (B0.out.trans (hb1.mono B0.out.size));have X1:=aj (X0.out.below hb1 X0.out.lt);clear hb1 X0 B0;rcases hr with⟨hz,rfl⟩|⟨hz,rfl⟩
 ·have HZ:=aj (hz)
  obtain⟨x0,x1,x2,x3,x4,x5,x6,x7,x8⟩:=X1.out;clear hz;go_wp2_with fail
  refine(wQ _ W w1 (H.out.below B1.out)).mono ?_;rintro e w2 ⟨r,rfl,hr,hb2⟩;have B2:=aj (B1.out.trans (hb2.mono B1.out.size));have X2:=aj (X1.out.below hb2 X1.out.lt);clear hb2 X1 B1 x0 x1 x2 x3 x4 x5 x6 x7 x8;rcases hr with⟨hn,rfl⟩|⟨hn,rfl⟩
  ·have HN:Hid (Wd.aU W=false):=by
    unfold Hid;unfold kZ at hn;cases h:Wd.aU W with
    |false=>rfl
    |true=>rw[h] at hn;cases hn
   clear hn;have x7:=X2.out.c7;by_cases h40:40<W.us.length
   ·have F4:Hid (Wd.aF ks W=4):=by unfold Hid Wd.aF;rw[if_neg (by rw[HZ.out];simp),HN.out,if_neg (by simp),if_pos h40]
    have VA:(40:Int)<(W.us.length:Int):=by omega
    go_wp2;go_ret;exact⟨_,rfl,by rw[F4.out];exact Er.no (by decide),B2.out⟩
   ·have VA:¬(40:Int)<(W.us.length:Int):=by omega
    have KL:Hid (ks.length<=8):=by
     have:=HZ.out;unfold Wd.ground at this;split at this
     ·rename_i h0
      exact qN h0
     ·rename_i h0
      exact absurd this h0
    have GD:Hid (∃Wn Hn:Nat,W.wide=Wn/\W.high=Hn/\Fd.Good Wn Hn W.gs W.os):=by
     have:=HZ.out;unfold Wd.ground at this;split at this
     ·exact Fd.kJ this
     ·rename_i h0
      exact absurd this h0
    obtain⟨Wn,Hn,RQ,RU,hG⟩:=GD.out;have GG:Hid (W.wide=Wn/\W.high=Hn/\Fd.Good Wn Hn W.gs W.os):=⟨RQ,RU,hG⟩;have US:Hid (W.us.length<=40):=by unfold Hid;omega
    have WF:Hid (Wd.bT ks W 0 W.us≠0->Wd.aF ks W=Wd.bT ks W 0 W.us):=λhne=>by unfold Wd.aF;rw[if_neg (by rw[HZ.out];simp),HN.out,if_neg (by simp),if_neg h40,if_pos hne]
    have WG:Hid (Wd.bT ks W 0 W.us=0->Wd.aF ks W=if 12<W.qs.length then 4 else Wd.fB ks W W.qs):=λh0=>by unfold Wd.aF;rw[if_neg (by rw[HZ.out];simp),HN.out,if_neg (by simp),if_neg h40,if_neg (by rw[h0];simp)]
    clear RQ RU hG h40;go_wp2;clear x7;go_loopw [32] (λiv V=>∃i:Nat,i<=W.us.length/\iv=int i64 (i:Nat)/\Wd.bT ks W i (W.us.drop i)=Wd.bT ks W 0 W.us/\Bw V w.heap.size W (slice p1 W.gs.length q1) (slice p2 W.os.length q2) (slice p3 W.gold.length q3) (slice p4 W.us.length q4) (slice p5 W.qs.length q5)/\Below w.heap.size w V) (λiv _=>W.us.length-(intOf iv).toNat)
    case atStart=>exact⟨0,Nat.zero_le _,rfl,rfl,X2.out,B2.out⟩
    case round=>
     obtain⟨i,hi,rfl,hgo,hX,hB⟩:=hrel;have XR:=aj (hX);have BR:=aj (hB);have GO:=aj (hgo);clear hX hB hgo X2 B2;by_cases hil:i=W.us.length
     ·have U0:Hid (Wd.bT ks W 0 W.us=0):=by unfold Hid;rw[<-GO.out,hil,List.drop_length];rfl
      have x8:=XR.out.c8;subst hil;clear hi;by_cases h12:12<W.qs.length
      ·have F4:Hid (Wd.aF ks W=4):=by unfold Hid;rw[WG.out U0.out,if_pos h12]
       have VD:(12:Int)<(W.qs.length:Int):=by omega
       go_wp2;go_ret;exact⟨_,rfl,by rw[F4.out];exact Er.no (by decide),BR.out⟩
      ·have VD:¬(12:Int)<(W.qs.length:Int):=by omega
       have FJ:Hid (Wd.aF ks W=Wd.fB ks W W.qs):=by unfold Hid;rw[WG.out U0.out,if_neg h12]
       have ALL:Hid (∀u∈W.us,0<=u.kind/\u.kind<(ks.length:Int)):=λu hu=>by
        obtain⟨j,hj⟩:=qM W.us 0 U0.out u hu;exact wR hj
       go_wp2;clear x8;go_loopw [51] (λiv V=>∃i:Nat,i<=W.qs.length/\iv=int i64 (i:Nat)/\Wd.fB ks W (W.qs.drop i)=Wd.fB ks W W.qs/\Bw V w.heap.size W (slice p1 W.gs.length q1) (slice p2 W.os.length q2) (slice p3 W.gold.length q3) (slice p4 W.us.length q4) (slice p5 W.qs.length q5)/\Below w.heap.size w V) (λiv _=>W.qs.length-(intOf iv).toNat)
       case atStart=>exact⟨0,Nat.zero_le _,rfl,rfl,XR.out,BR.out⟩
       case round=>
        obtain⟨i,hi,rfl,hgo,hX,hB⟩:=hrel;have XR:=aj (hX);have BR:=aj (hB);have GO:=aj (hgo);clear hX hB hgo;by_cases hil:i=W.qs.length
        ·have J0:Hid (Wd.aF ks W=0):=by unfold Hid;rw[FJ.out,<-GO.out,hil,List.drop_length];rfl
         subst hil;clear hi;go_wp2;go_ret;exact⟨_,rfl,by rw[J0.out];exact Er.nil,BR.out⟩
        ·have hlt:i<W.qs.length:=by omega
         have XW:(i:Int)<(W.qs.length:Int):=by omega
         obtain⟨j,hj⟩:∃j,W.qs[i]? =some j:=⟨_,List.getElem?_eq_getElem hlt⟩;obtain⟨x,rfl,hx,hcell⟩:=JC.out (by intro e;rw[e] at hlt;simp at hlt);obtain⟨d0,d1,d2,d3⟩:=(hcell i j hj).below BR.out (by rw[add_block];exact hx);have GA:Hid (Wd.fB ks W W.qs=if Wd.aJ ks W j=0 then Wd.fB ks W (W.qs.drop (i+1)) else Wd.aJ ks W j):=by unfold Hid;rw[<-GO.out,Wd.Bc hj]
         obtain⟨x0,x1,x2,x3,x4,x5,x6,x7,x8⟩:=XR.out;clear hcell hx hj hil;go_upto_region 21 with fail
         have BA:Hid (Below _ wr (wr.alloc (Obj.cells #[int i64 j.aA,int i64 j.unit,int i64 j.kind,int i64 j.left] 93))):=(Below.refl _ _).alloc (Nat.le_refl _) _;have J1:Hid (jS _ ⟨wr.heap.size,0,none⟩ j):=jS.mk' j rfl;generalize (wr.alloc _)=w5 at *;have B5:=aj (BR.out.trans (BA.out.mono BR.out.size));have X5:=aj (XR.out.below BA.out XR.out.lt);clear d0 d1 d2 d3 x0 x1 x2 x3 x4 x5 x6 x7 x8 XR BR BA;obtain⟨x0,x1,x2,x3,x4,x5,x6,x7,x8⟩:=X5.out;obtain⟨j0,j1,j2,j3⟩:=J1.out;generalize wr.heap.size=zj at *;simp only[Nat.zero_add] at j1 j2 j3;go_wp2_with fail
         refine(Lu _ _ ks W j w5 (K.out.1.below B5.out) (H.out.below B5.out) US.out KL.out ALL.out).mono ?_;rintro e w6 ⟨r,rfl,hr,hb6⟩;have B6:=aj (B5.out.trans (hb6.mono B5.out.size));have X6:=aj (X5.out.below hb6 X5.out.lt);clear hb6 x0 x1 x2 x3 x4 x5 x6 x7 x8 j0 j1 j2 j3 X5 B5 J1;rcases hr with⟨h0,rfl⟩|⟨h0,rfl⟩
         ·have G2:Hid (Wd.fB ks W (W.qs.drop (i+1))=Wd.fB ks W W.qs):=by unfold Hid;rw[GA.out,if_pos h0]
          clear h0;go_wp2;go_roundw
          case rel=>exact⟨i+1,by omega,rfl,G2.out,X6.out,B6.out⟩
          case measure=>simp[intOf];omega
         ·have FB:Hid (Wd.aF ks W=Wd.aJ ks W j):=by unfold Hid;rw[FJ.out,GA.out,if_neg h0]
          have H0:=aj (h0);clear h0;go_wp2;go_ret;exact⟨_,rfl,by rw[FB.out];exact Er.no H0.out,B6.out⟩
     ·have hlt:i<W.us.length:=by omega
      have XW:(i:Int)<(W.us.length:Int):=by omega
      obtain⟨u,hu⟩:∃u,W.us[i]? =some u:=⟨_,List.getElem?_eq_getElem hlt⟩;have HU:=aj (hu);have GA:Hid (Wd.bT ks W 0 W.us=if Wd.aI ks W i u=0 then Wd.bT ks W (i+1) (W.us.drop (i+1)) else Wd.aI ks W i u):=by unfold Hid;rw[<-GO.out,Wd.wK hu]
      obtain⟨x0,x1,x2,x3,x4,x5,x6,x7,x8⟩:=XR.out;clear hu hil;go_wp2_with fail
      refine(FP _ _ ks W Wn Hn i u wr (K.out.1.below BR.out) (H.out.below BR.out) GG.out.1 GG.out.2.1 GG.out.2.2 HU.out (jU HN.out).1 US.out KL.out (jU HN.out).2).mono ?_;rintro e w6 ⟨r,rfl,hr,hb6⟩;have B6:=aj (BR.out.trans (hb6.mono BR.out.size));have X6:=aj (XR.out.below hb6 XR.out.lt);clear hb6 x0 x1 x2 x3 x4 x5 x6 x7 x8 XR BR;rcases hr with⟨h0,rfl⟩|⟨h0,rfl⟩
      ·have G2:Hid (Wd.bT ks W (i+1) (W.us.drop (i+1))=Wd.bT ks W 0 W.us):=by unfold Hid;rw[GA.out,if_pos h0]
       clear h0;go_wp2;go_roundw
       case rel=>exact⟨i+1,by omega,rfl,G2.out,X6.out,B6.out⟩
       case measure=>simp[intOf];omega
      ·have EU:Wd.bT ks W 0 W.us=Wd.aI ks W i u:=by rw[GA.out,if_neg h0]
       have FB:Hid (Wd.aF ks W=Wd.aI ks W i u):=by unfold Hid;rw[WF.out (by rw[EU];exact h0),EU]
       have H0:=aj (h0);clear h0 EU;go_wp2;go_ret;exact⟨_,rfl,by rw[FB.out];exact Er.no H0.out,B6.out⟩
  ·have F1:Hid (Wd.aF ks W=kZ W):=by
    unfold Hid Wd.aF;unfold kZ at hn ⊢;have hbad:Wd.aU W=true:=by
     cases h:Wd.aU W with
     |true=>rfl
     |false=>rw[h] at hn;exact absurd rfl hn
    rw[if_neg (by rw[HZ.out];simp),hbad];rfl
   have H0:=aj (hn);clear hn;go_wp2;go_ret;exact⟨_,rfl,by rw[F1.out];exact Er.no H0.out,B2.out⟩
 ·have F1:Hid (Wd.aF ks W=Wd.ground ks W):=by unfold Hid Wd.aF;rw[if_pos hz]
  have H0:=aj (hz);clear hz;go_wp2;go_ret;exact⟨_,rfl,by rw[F1.out];exact Er.no H0.out,B1.out⟩
theorem zS:(Tryz.prog.info? 74).map (λi=>(i.zero,i.size,i.bytes))=some (some (.agg #[int i64 0,int i64 0,int i64 0,int i64 0,int i64 0,int i64 0,int i64 0,int i64 0]),8,64):=by kernel_rfl
def aC.cs(k:aC):List Value:=[int i64 k.id,int i64 k.aA,int i64 k.kind,int i64 k.at_,int i64 k.life,int i64 k.load,int i64 k.task,int i64 k.goal]
theorem lC:∀(ks:List aC) (i j:Nat) (k:aC),ks[i]? =some k->j<8->(ks.flatMap aC.cs)[i*8+j]? =k.cs[j]?
 |[],i,j,k,h,_=>by simp at h
 |x::ks,0,j,k,h,hj=>by
  simp at h;subst h;rw[List.flatMap_cons,List.getElem?_append_left (by simp[aC.cs];omega)];simp
 |x::ks,i+1,j,k,h,hj=>by
  rw[List.flatMap_cons,List.getElem?_append_right (by simp[aC.cs];omega)];have:(i+1)*8+j-(aC.cs x).length=i*8+j:=by simp[aC.cs];omega
  rw[this];exact lC ks i j k (by simpa using h) hj
def dQ(w:World)(base:Nat)(v:Value)(ks:List aC):Prop:=w.ownsRow base 74 8 v ks.length (ks.flatMap aC.cs)
theorem dQ.nil(w:World)(base:Nat):dQ w base (slice none 0 0) []:=World.ownsRow_nil _ _ _ _
theorem dQ.below{w w':World}{base:Nat}{v:Value}{ks:List aC}(h:dQ w base v ks)(hb:Below w.heap.size w w'):dQ w' base v ks:=
 World.ownsRow.kept h (row:=none) ⟨hb.os,hb.tape,hb.output,hb.size,λk hk _=>hb.block k hk⟩ (by cases v.ownBlock<;>simp)
theorem dQ.kept{w w':World}{base:Nat}{v:Value}{ks:List aC}{row:Option Nat}(h:dQ w base v ks)(hg:w.grownBy w' row)(hne:v.ownBlock=none\/v.ownBlock≠row):dQ w' base v ks:=World.ownsRow.kept h hg hne
theorem dQ.alloc{w:World}{base:Nat}{v:Value}{ks:List aC}(h:dQ w base v ks)(o:Obj):dQ (w.alloc o) base v ks:=World.ownsRow.alloc h o
theorem dQ.block{w:World}{base:Nat}{v:Value}{ks:List aC}(h:dQ w base v ks):∀k,v.ownBlock=some k->base<=k/\k<w.heap.size:=World.ownsRow.lt h
theorem dQ.mono{w:World}{base base':Nat}{v:Value}{ks:List aC}(h:dQ w base v ks)(hb:base'<=base):dQ w base' v ks:=by
 refine⟨h.1,?_⟩;rcases h.2 with h1|⟨g,cap,cur,h1,h2,h3⟩
 ·exact .inl h1
 ·exact .inr ⟨g,cap,cur,h1,Nat.le_trans hb h2,h3⟩
theorem dQ.l{w:World}{base:Nat}{v:Value}{ks:List aC}(h:dQ w base v ks):jF w v ks:=by
 rcases h.2 with⟨hv,h0⟩|⟨g,cap,cur,hv,hb,hg,h1,h2,h3,h4⟩
 ·exact⟨none,0,by rw[hv,h0],by omega,by omega,λhn=>absurd (List.length_eq_zero_iff.1 h0) hn⟩
 ·refine⟨_,cap,hv,h1,by unfold maxLen at h2;omega,λ_=>⟨_,rfl,lt_of_block hg,λi k hi=>?_⟩⟩
  have hil:=(List.getElem?_eq_some_iff.1 hi).1;have h5:w.ownsRow base 74 8 (slice (some ⟨g,0,none⟩) ks.length cap) ks.length (ks.flatMap aC.cs):=by rw[<-hv];exact h
  have hc:∀j u,j<8->k.cs[j]? =some u->w.cell? ⟨g,i*8+j,none⟩=some u:=λj u hj hu=>by
   rw[h5.cellAt (i*8+j) (by omega),lC ks i j k hi hj,hu]
  rw[Addr.add_lit,Nat.zero_add];exact⟨hc 0 _ (by decide) rfl,hc 1 _ (by decide) rfl,hc 2 _ (by decide) rfl,hc 3 _ (by decide) rfl,hc 4 _ (by decide) rfl,hc 5 _ (by decide) rfl,hc 6 _ (by decide) rfl,hc 7 _ (by decide) rfl⟩
theorem dQ.len{w:World}{base:Nat}{v:Value}{ks:List aC}(h:dQ w base v ks):∃a c,v=slice a ks.length c:=by
 obtain⟨a,c,h1,-⟩:=h.l;exact⟨a,c,h1⟩
theorem sF:(Tryz.prog.info? 93).map (λi=>(i.zero,i.size,i.bytes))=some (some (.agg #[int i64 0,int i64 0,int i64 0,int i64 0]),4,32):=by kernel_rfl
def aO.cs(k:aO):List Value:=[int i64 k.aA,int i64 k.unit,int i64 k.kind,int i64 k.left]
theorem lD:∀(ks:List aO) (i j:Nat) (k:aO),ks[i]? =some k->j<4->(ks.flatMap aO.cs)[i*4+j]? =k.cs[j]?
 |[],i,j,k,h,_=>by simp at h
 |x::ks,0,j,k,h,hj=>by
  simp at h;subst h;rw[List.flatMap_cons,List.getElem?_append_left (by simp[aO.cs];omega)];simp
 |x::ks,i+1,j,k,h,hj=>by
  rw[List.flatMap_cons,List.getElem?_append_right (by simp[aO.cs];omega)];have:(i+1)*4+j-(aO.cs x).length=i*4+j:=by simp[aO.cs];omega
  rw[this];exact lD ks i j k (by simpa using h) hj
def dK(w:World)(base:Nat)(v:Value)(ks:List aO):Prop:=w.ownsRow base 93 4 v ks.length (ks.flatMap aO.cs)
theorem dK.nil(w:World)(base:Nat):dK w base (slice none 0 0) []:=World.ownsRow_nil _ _ _ _
theorem dK.below{w w':World}{base:Nat}{v:Value}{ks:List aO}(h:dK w base v ks)(hb:Below w.heap.size w w'):dK w' base v ks:=
 World.ownsRow.kept h (row:=none) ⟨hb.os,hb.tape,hb.output,hb.size,λk hk _=>hb.block k hk⟩ (by cases v.ownBlock<;>simp)
theorem dK.kept{w w':World}{base:Nat}{v:Value}{ks:List aO}{row:Option Nat}(h:dK w base v ks)(hg:w.grownBy w' row)(hne:v.ownBlock=none\/v.ownBlock≠row):dK w' base v ks:=World.ownsRow.kept h hg hne
theorem dK.alloc{w:World}{base:Nat}{v:Value}{ks:List aO}(h:dK w base v ks)(o:Obj):dK (w.alloc o) base v ks:=World.ownsRow.alloc h o
theorem dK.block{w:World}{base:Nat}{v:Value}{ks:List aO}(h:dK w base v ks):∀k,v.ownBlock=some k->base<=k/\k<w.heap.size:=World.ownsRow.lt h
theorem dK.mono{w:World}{base base':Nat}{v:Value}{ks:List aO}(h:dK w base v ks)(hb:base'<=base):dK w base' v ks:=by
 refine⟨h.1,?_⟩;rcases h.2 with h1|⟨g,cap,cur,h1,h2,h3⟩
 ·exact .inl h1
 ·exact .inr ⟨g,cap,cur,h1,Nat.le_trans hb h2,h3⟩
theorem dK.l{w:World}{base:Nat}{v:Value}{ks:List aO}(h:dK w base v ks):KT w v ks:=by
 rcases h.2 with⟨hv,h0⟩|⟨g,cap,cur,hv,hb,hg,h1,h2,h3,h4⟩
 ·exact⟨none,0,by rw[hv,h0],by omega,by omega,λhn=>absurd (List.length_eq_zero_iff.1 h0) hn⟩
 ·refine⟨_,cap,hv,h1,by unfold maxLen at h2;omega,λ_=>⟨_,rfl,lt_of_block hg,λi k hi=>?_⟩⟩
  have hil:=(List.getElem?_eq_some_iff.1 hi).1;have h5:w.ownsRow base 93 4 (slice (some ⟨g,0,none⟩) ks.length cap) ks.length (ks.flatMap aO.cs):=by rw[<-hv];exact h
  have hc:∀j u,j<4->k.cs[j]? =some u->w.cell? ⟨g,i*4+j,none⟩=some u:=λj u hj hu=>by
   rw[h5.cellAt (i*4+j) (by omega),lD ks i j k hi hj,hu]
  rw[Addr.add_lit,Nat.zero_add];exact⟨hc 0 _ (by decide) rfl,hc 1 _ (by decide) rfl,hc 2 _ (by decide) rfl,hc 3 _ (by decide) rfl⟩
theorem dK.len{w:World}{base:Nat}{v:Value}{ks:List aO}(h:dK w base v ks):∃a c,v=slice a ks.length c:=by
 obtain⟨a,c,h1,-⟩:=h.l;exact⟨a,c,h1⟩
theorem Gi{ops:Array Oper}{rest:List Oper}{o:Oper}{a:Act}{Q:Exit->Act->World->Prop}(w:World)(hgd:o.guard=none)(s x:Operand)
  (ho:o.op=.call {callee:=.builtin .append,args:= #[s,x],argTypes:= #[27,27]}) (base:Nat) (v:Value) (ks:List aO) (hs:a.eval s=v) (hown:dK w base v ks)
  (b:Nat) (d:aO) (hx:a.eval x=slice (some ⟨b,0,none⟩) 1 1) (hd:jS w ⟨b,0,none⟩ d) (hl:ks.length<=1000000000) (hbase:base<=w.heap.size)
  (h:∀g cap w',dK w' base (slice (some ⟨g,0,none⟩) (ks.length+1) cap) (ks++[d])->w.grownBy w' v.ownBlock->(v.ownBlock=some g\/g=w.heap.size)->g<w'.heap.size->wpList Tryz.prog ops Q rest (a.put o.dst (slice (some ⟨g,0,none⟩) (ks.length+1) cap)) w'):
  wpList Tryz.prog ops Q (o::rest) a w:=by
 obtain⟨i0,hi,hz0,hz1,hz2⟩:=info_parts sF;refine wpList_append_lies w hgd s x 27 ho _ 93 i0 _ 4 32 Tryz.underlying27 hi hz0 hz1 hz2 rfl (by decide) v _ _ hs hown _ 1 1 d.cs hx rfl ?_ ?_ (by decide) (by unfold maxLen;omega) (by omega) hbase _ rfl ?_
 ·intro j u hj
  have hjn:j<4:=(List.getElem?_eq_some_iff.1 hj).1;rw[Addr.add_lit,Nat.zero_add]
  match j,hjn,hj with
  |0,_,hj=>simp[aO.cs] at hj;subst hj;exact hd.c0
  |1,_,hj=>simp[aO.cs] at hj;subst hj;exact hd.c1
  |2,_,hj=>simp[aO.cs] at hj;subst hj;exact hd.c2
  |3,_,hj=>simp[aO.cs] at hj;subst hj;exact hd.c3
 ·intro u hu
  simp[aO.cs] at hu;rcases hu with rfl|rfl|rfl|rfl<;>rfl
 ·intro g cap w' h1 h2 h3 h4
  refine h g _ w' ?_ h2 h3 h4;unfold dK;rw[List.length_append,List.flatMap_append];simpa using h1
def Wo(w:World)(base:Nat)(v:Value)(W:WV):Prop:=∃u1 u2 u3 u4 u5,v=.agg #[int i64 W.turn,int i64 W.next,int i64 W.wide,int i64 W.high,u1,u2,u3,u4,u5]/\Ow w base u1 W.gs/\Ow w base u2 W.os/\Ow w base u3 W.gold/\dQ w base u4 W.us/\dK w base u5 W.qs
theorem Wo.l{w:World}{base:Nat}{v:Value}{W:WV}(h:Wo w base v W):Wl w v W:=by
 obtain⟨u1,u2,u3,u4,u5,h1,h2,h3,h4,h5,h6⟩:=h;exact⟨u1,u2,u3,u4,u5,h1,h2.ro,h3.ro,h4.ro,h5.l,h6.l⟩
theorem Wo.below{w w':World}{base:Nat}{v:Value}{W:WV}(h:Wo w base v W)(hb:Below w.heap.size w w'):Wo w' base v W:=by
 obtain⟨u1,u2,u3,u4,u5,h1,h2,h3,h4,h5,h6⟩:=h;exact⟨u1,u2,u3,u4,u5,h1,h2.below hb,h3.below hb,h4.below hb,h5.below hb,h6.below hb⟩
theorem Wo.mono{w:World}{base base':Nat}{v:Value}{W:WV}(h:Wo w base v W)(hb:base'<=base):Wo w base' v W:=by
 obtain⟨u1,u2,u3,u4,u5,h1,h2,h3,h4,h5,h6⟩:=h;exact⟨u1,u2,u3,u4,u5,h1,h2.mono hb,h3.mono hb,h4.mono hb,h5.mono hb,h6.mono hb⟩
theorem fU{z:Nat}{w w':World}{base:Nat}{T:TypeId}{size:Nat}{u:Value}{n:Nat}{cs:List Value}(h:w.ownsRow base T size u n cs)(k:Kp z w w')(hz:z<base):w'.ownsRow base T size u n cs:=by
 refine⟨h.1,?_⟩;rcases h.2 with h1|⟨g,cap,cur,h1,h2,h3,h4⟩
 ·exact .inl h1
 ·exact .inr ⟨g,cap,cur,h1,h2,(k.block g (lt_of_block h3) (by omega)).trans h3,h4⟩
theorem Ow.kp{z:Nat}{w w':World}{base:Nat}{u:Value}{xs:List Int}(h:Ow w base u xs)(k:Kp z w w')(hz:z<base):Ow w' base u xs:=fU h k hz
theorem dQ.kp{z:Nat}{w w':World}{base:Nat}{u:Value}{xs:List aC}(h:dQ w base u xs)(k:Kp z w w')(hz:z<base):dQ w' base u xs:=fU h k hz
theorem dK.kp{z:Nat}{w w':World}{base:Nat}{u:Value}{xs:List aO}(h:dK w base u xs)(k:Kp z w w')(hz:z<base):dK w' base u xs:=fU h k hz
theorem Wo.kp{z:Nat}{w w':World}{base:Nat}{v:Value}{W:WV}(h:Wo w base v W)(k:Kp z w w')(hz:z<base):Wo w' base v W:=by
 obtain⟨u1,u2,u3,u4,u5,h1,h2,h3,h4,h5,h6⟩:=h;exact⟨u1,u2,u3,u4,u5,h1,h2.kp k hz,h3.kp k hz,h4.kp k hz,h5.kp k hz,h6.kp k hz⟩
def dP(u v:Value):Prop:=∀k,u.ownBlock=some k->v.ownBlock≠some k
theorem dP.symm{u v:Value}(h:dP u v):dP v u:=λk h1 h2=>h k h2 h1
theorem dP.ne{u v:Value}(h:dP u v):u.ownBlock=none\/u.ownBlock≠v.ownBlock:=by
 cases e:u.ownBlock with
 |none=>exact .inl rfl
 |some k=>exact .inr (λh2=>h k e h2.symm)
theorem dP.of{u v:Value}{n:Nat}(hu:∀k,u.ownBlock=some k->k<n)(hv:∀k,v.ownBlock=some k->n<=k):dP u v:=λk h1 h2=>by have:=hu k h1;have:=hv k h2;omega
def Wi(w:World)(base:Nat)(v:Value)(W:WV):Prop:=∃u1 u2 u3 u4 u5,v=.agg #[int i64 W.turn,int i64 W.next,int i64 W.wide,int i64 W.high,u1,u2,u3,u4,u5]/\(Ow w base u1 W.gs/\Ow w base u2 W.os/\Ow w base u3 W.gold/\dQ w base u4 W.us/\dK w base u5 W.qs)/\dP u1 u2/\dP u1 u3/\dP u1 u4/\dP u1 u5/\dP u2 u3/\dP u2 u4/\dP u2 u5/\dP u3 u4/\dP u3 u5/\dP u4 u5
theorem Wi.wo{w:World}{base:Nat}{v:Value}{W:WV}(h:Wi w base v W):Wo w base v W:=by
 obtain⟨u1,u2,u3,u4,u5,h1,⟨h2,h3,h4,h5,h6⟩,-⟩:=h;exact⟨u1,u2,u3,u4,u5,h1,h2,h3,h4,h5,h6⟩
theorem Wi.mono{w:World}{base base':Nat}{v:Value}{W:WV}(h:Wi w base v W)(hb:base'<=base):Wi w base' v W:=by
 obtain⟨u1,u2,u3,u4,u5,h1,⟨h2,h3,h4,h5,h6⟩,hd⟩:=h;exact⟨u1,u2,u3,u4,u5,h1,⟨h2.mono hb,h3.mono hb,h4.mono hb,h5.mono hb,h6.mono hb⟩,hd⟩
theorem Wl.kp{z:Nat}{w a w':World}{v:Value}{W:WV}(h:Wl a v W)(hb:Below a.heap.size a w)(k:Kp z w w')(hz:a.heap.size<=z):Wl w' v W:=h.below (k.below hb hb.size hz)
def Wx(w:World)(z:Nat)(c0 c1 c2 c3 c4 c5 c6 c7 c8:Value):Prop:=w.heap[z]? =some (.cells #[c0,c1,c2,c3,c4,c5,c6,c7,c8] 29 (0,0))
theorem Wx.lt{w:World}{z:Nat}{c0 c1 c2 c3 c4 c5 c6 c7 c8:Value}(h:Wx w z c0 c1 c2 c3 c4 c5 c6 c7 c8):z<w.heap.size:=lt_of_block h
theorem Wx.cells{w:World}{z:Nat}{c0 c1 c2 c3 c4 c5 c6 c7 c8:Value}(h:Wx w z c0 c1 c2 c3 c4 c5 c6 c7 c8):w.cell? ⟨z,0,none⟩=some c0/\w.cell? ⟨z,1,none⟩=some c1/\w.cell? ⟨z,2,none⟩=some c2/\w.cell? ⟨z,3,none⟩=some c3/\w.cell? ⟨z,4,none⟩=some c4/\w.cell? ⟨z,5,none⟩=some c5/\w.cell? ⟨z,6,none⟩=some c6/\w.cell? ⟨z,7,none⟩=some c7/\w.cell? ⟨z,8,none⟩=some c8:=by
 unfold Wx at h;refine⟨?_,?_,?_,?_,?_,?_,?_,?_,?_⟩<;>simp[World.cell?,h]
theorem Wx.thaw{w:World}{z:Nat}{c0 c1 c2 c3 c4 c5 c6 c7 c8:Value}(h:Wx w z c0 c1 c2 c3 c4 c5 c6 c7 c8)(i:Nat):w.frozen? ⟨z,i,none⟩=false:=by
 unfold Wx at h;simp[World.frozen?,h]
theorem Wx.bC{w:World}{z:Nat}{c0 c1 c2 c3 c4 c5 c6 c7 c8:Value}(h:Wx w z c0 c1 c2 c3 c4 c5 c6 c7 c8):w.frozen? ⟨z,0,none⟩=false/\w.frozen? ⟨z,1,none⟩=false/\w.frozen? ⟨z,2,none⟩=false/\w.frozen? ⟨z,3,none⟩=false/\w.frozen? ⟨z,4,none⟩=false/\w.frozen? ⟨z,5,none⟩=false/\w.frozen? ⟨z,6,none⟩=false/\w.frozen? ⟨z,7,none⟩=false/\w.frozen? ⟨z,8,none⟩=false:=⟨h.thaw 0,h.thaw 1,h.thaw 2,h.thaw 3,h.thaw 4,h.thaw 5,h.thaw 6,h.thaw 7,h.thaw 8⟩
theorem Wx.new{w:World}{z:Nat}(c0 c1 c2 c3 c4 c5 c6 c7 c8:Value)(hz:w.heap.size=z):Wx (w.alloc (.cells #[c0,c1,c2,c3,c4,c5,c6,c7,c8] 29)) z c0 c1 c2 c3 c4 c5 c6 c7 c8:=by
 subst hz;exact heap_alloc_new _ _
theorem Wx.below{w w':World}{z n:Nat}{c0 c1 c2 c3 c4 c5 c6 c7 c8:Value}(h:Wx w z c0 c1 c2 c3 c4 c5 c6 c7 c8)(hb:Below n w w')(hn:z<n):Wx w' z c0 c1 c2 c3 c4 c5 c6 c7 c8:=(hb.block z hn).trans h
theorem Wx.kp{w w':World}{z y:Nat}{c0 c1 c2 c3 c4 c5 c6 c7 c8:Value}(h:Wx w z c0 c1 c2 c3 c4 c5 c6 c7 c8)(k:Kp y w w')(hn:z≠y):Wx w' z c0 c1 c2 c3 c4 c5 c6 c7 c8:=(k.block z h.lt hn).trans h
theorem Wx.drew{w:World}{z:Nat}{c0 c1 c2 c3 c4 c5 c6 c7 c8:Value}(h:Wx w z c0 c1 c2 c3 c4 c5 c6 c7 c8):Wx w.drew z c0 c1 c2 c3 c4 c5 c6 c7 c8:=h
theorem Wx.set0{w:World}{z:Nat}{c0 c1 c2 c3 c4 c5 c6 c7 c8:Value}(h:Wx w z c0 c1 c2 c3 c4 c5 c6 c7 c8)(u:Value):Wx (w.setCell ⟨z,0,none⟩ u) z u c1 c2 c3 c4 c5 c6 c7 c8:=by
 exact heap_setCell_same w z 0 _ _ u h
theorem Wx.set1{w:World}{z:Nat}{c0 c1 c2 c3 c4 c5 c6 c7 c8:Value}(h:Wx w z c0 c1 c2 c3 c4 c5 c6 c7 c8)(u:Value):Wx (w.setCell ⟨z,1,none⟩ u) z c0 u c2 c3 c4 c5 c6 c7 c8:=by
 exact heap_setCell_same w z 1 _ _ u h
theorem Wx.set2{w:World}{z:Nat}{c0 c1 c2 c3 c4 c5 c6 c7 c8:Value}(h:Wx w z c0 c1 c2 c3 c4 c5 c6 c7 c8)(u:Value):Wx (w.setCell ⟨z,2,none⟩ u) z c0 c1 u c3 c4 c5 c6 c7 c8:=by
 exact heap_setCell_same w z 2 _ _ u h
theorem Wx.BI{w:World}{z:Nat}{c0 c1 c2 c3 c4 c5 c6 c7 c8:Value}(h:Wx w z c0 c1 c2 c3 c4 c5 c6 c7 c8)(u:Value):Wx (w.setCell ⟨z,3,none⟩ u) z c0 c1 c2 u c4 c5 c6 c7 c8:=by
 exact heap_setCell_same w z 3 _ _ u h
theorem Wx.LH{w:World}{z:Nat}{c0 c1 c2 c3 c4 c5 c6 c7 c8:Value}(h:Wx w z c0 c1 c2 c3 c4 c5 c6 c7 c8)(u:Value):Wx (w.setCell ⟨z,4,none⟩ u) z c0 c1 c2 c3 u c5 c6 c7 c8:=by
 exact heap_setCell_same w z 4 _ _ u h
theorem Wx.Gj{w:World}{z:Nat}{c0 c1 c2 c3 c4 c5 c6 c7 c8:Value}(h:Wx w z c0 c1 c2 c3 c4 c5 c6 c7 c8)(u:Value):Wx (w.setCell ⟨z,5,none⟩ u) z c0 c1 c2 c3 c4 u c6 c7 c8:=by
 exact heap_setCell_same w z 5 _ _ u h
theorem Wx.Gm{w:World}{z:Nat}{c0 c1 c2 c3 c4 c5 c6 c7 c8:Value}(h:Wx w z c0 c1 c2 c3 c4 c5 c6 c7 c8)(u:Value):Wx (w.setCell ⟨z,6,none⟩ u) z c0 c1 c2 c3 c4 c5 u c7 c8:=by
 exact heap_setCell_same w z 6 _ _ u h
theorem Wx.wS{w:World}{z:Nat}{c0 c1 c2 c3 c4 c5 c6 c7 c8:Value}(h:Wx w z c0 c1 c2 c3 c4 c5 c6 c7 c8)(u:Value):Wx (w.setCell ⟨z,7,none⟩ u) z c0 c1 c2 c3 c4 c5 c6 u c8:=by
 exact heap_setCell_same w z 7 _ _ u h
theorem Wx.Gn{w:World}{z:Nat}{c0 c1 c2 c3 c4 c5 c6 c7 c8:Value}(h:Wx w z c0 c1 c2 c3 c4 c5 c6 c7 c8)(u:Value):Wx (w.setCell ⟨z,8,none⟩ u) z c0 c1 c2 c3 c4 c5 c6 c7 u:=by
 exact heap_setCell_same w z 8 _ _ u h
theorem Wx.put{w:World}{z:Nat}{c0 c1 c2 c3 c4 c5 c6 c7 c8:Value}(h:Wx w z c0 c1 c2 c3 c4 c5 c6 c7 c8)(e0 e1 e2 e3 e4 e5 e6 e7 e8:Value):Wx (((((((((w.setCell ⟨z,0,none⟩ e0).setCell ⟨z,1,none⟩ e1).setCell ⟨z,2,none⟩ e2).setCell ⟨z,3,none⟩ e3).setCell ⟨z,4,none⟩ e4).setCell ⟨z,5,none⟩ e5).setCell ⟨z,6,none⟩ e6).setCell ⟨z,7,none⟩ e7).setCell ⟨z,8,none⟩ e8) z e0 e1 e2 e3 e4 e5 e6 e7 e8:=(((((((((h.set0 e0).set1 e1).set2 e2).BI e3).LH e4).Gj e5).Gm e6).wS e7).Gn e8)
theorem bP(w:World)(z:Nat)(e0 e1 e2 e3 e4 e5 e6 e7 e8:Value):Kp z w (((((((((w.setCell ⟨z,0,none⟩ e0).setCell ⟨z,1,none⟩ e1).setCell ⟨z,2,none⟩ e2).setCell ⟨z,3,none⟩ e3).setCell ⟨z,4,none⟩ e4).setCell ⟨z,5,none⟩ e5).setCell ⟨z,6,none⟩ e6).setCell ⟨z,7,none⟩ e7).setCell ⟨z,8,none⟩ e8):=
 ((((((((Kp.set w 0 e0).trans (Kp.set _ 1 e1)).trans (Kp.set _ 2 e2)).trans (Kp.set _ 3 e3)).trans (Kp.set _ 4 e4)).trans (Kp.set _ 5 e5)).trans (Kp.set _ 6 e6)).trans (Kp.set _ 7 e7)).trans (Kp.set _ 8 e8)
theorem Wx.jJ{w:World}{z:Nat}{c0 c1 c2 c3 c4 c5 c6 c7 c8:Value}(h:Wx w z c0 c1 c2 c3 c4 c5 c6 c7 c8):Wx (((((((((w.setCell ⟨z,0,none⟩ (int i64 0)).setCell ⟨z,1,none⟩ (int i64 0)).setCell ⟨z,2,none⟩ (int i64 0)).setCell ⟨z,3,none⟩ (int i64 0)).setCell ⟨z,4,none⟩ (slice none 0 0)).setCell ⟨z,5,none⟩ (slice none 0 0)).setCell ⟨z,6,none⟩ (slice none 0 0)).setCell ⟨z,7,none⟩ (slice none 0 0)).setCell ⟨z,8,none⟩ (slice none 0 0)) z (int i64 0) (int i64 0) (int i64 0) (int i64 0) (slice none 0 0) (slice none 0 0) (slice none 0 0) (slice none 0 0) (slice none 0 0):=h.put _ _ _ _ _ _ _ _ _
theorem dF(w:World)(z:Nat):Kp z w (((((((((w.setCell ⟨z,0,none⟩ (int i64 0)).setCell ⟨z,1,none⟩ (int i64 0)).setCell ⟨z,2,none⟩ (int i64 0)).setCell ⟨z,3,none⟩ (int i64 0)).setCell ⟨z,4,none⟩ (slice none 0 0)).setCell ⟨z,5,none⟩ (slice none 0 0)).setCell ⟨z,6,none⟩ (slice none 0 0)).setCell ⟨z,7,none⟩ (slice none 0 0)).setCell ⟨z,8,none⟩ (slice none 0 0)):=bP _ _ _ _ _ _ _ _ _ _ _
theorem n_(w:World)(c0 c1 c2 c3 c4 c5 c6 c7 c8:Value):Hid (Below w.heap.size w ((w.alloc (Obj.cells #[c0,c1,c2,c3,c4,c5,c6,c7,c8] 29)).alloc (Obj.cells #[int i64 0,int i64 0,int i64 0,int i64 0,slice none 0 0,slice none 0 0,slice none 0 0,slice none 0 0,slice none 0 0] 29)))/\Hid (Wx ((w.alloc (Obj.cells #[c0,c1,c2,c3,c4,c5,c6,c7,c8] 29)).alloc (Obj.cells #[int i64 0,int i64 0,int i64 0,int i64 0,slice none 0 0,slice none 0 0,slice none 0 0,slice none 0 0,slice none 0 0] 29)) w.heap.size c0 c1 c2 c3 c4 c5 c6 c7 c8)/\Hid (Wx ((w.alloc (Obj.cells #[c0,c1,c2,c3,c4,c5,c6,c7,c8] 29)).alloc (Obj.cells #[int i64 0,int i64 0,int i64 0,int i64 0,slice none 0 0,slice none 0 0,slice none 0 0,slice none 0 0,slice none 0 0] 29)) (w.heap.size+1) (int i64 0) (int i64 0) (int i64 0) (int i64 0) (slice none 0 0) (slice none 0 0) (slice none 0 0) (slice none 0 0) (slice none 0 0)):=
 ⟨((Below.refl _ _).alloc (Nat.le_refl _) _).alloc (by simp) _,(Wx.new (w:=w) _ _ _ _ _ _ _ _ _ rfl).below ((Below.refl _ _).alloc (Nat.le_refl _) _) (by simp),Wx.new _ _ _ _ _ _ _ _ _ (by simp)⟩
structure SQ(W:WV):Prop where
 g:W.gs.length<=100000000
 o:W.os.length<=100000000
 p:W.gold.length<=100000000
 u:W.us.length<=100000000
 q:W.qs.length<=100000000
namespace Wd
def aT(ks:List KV)(W:WV)(pl kd at_:Int):Int:=
 if 40<=(W.us.length:Int)\/1000000<=W.next then 4
 else if ¬(0<=pl/\pl<(W.gold.length:Int))\/¬(0<=kd/\kd<(ks.length:Int)) then 1
 else if ¬(0<=at_/\at_<(W.gs.length:Int)) then 6
 else match ks[kd.toNat]? with
  |some k=>if open_ W.gs W.us at_ k.f=false then 7 else 0
  |none=>1
theorem pf4{ks:List KV}{W:WV}{pl kd at_:Int}(h:40<=(W.us.length:Int)\/1000000<=W.next):aT ks W pl kd at_=4:=by unfold aT;rw[if_pos h]
theorem pf1{ks:List KV}{W:WV}{pl kd at_:Int}(h:¬(40<=(W.us.length:Int)\/1000000<=W.next))(h1:¬(0<=pl/\pl<(W.gold.length:Int))\/¬(0<=kd/\kd<(ks.length:Int))):aT ks W pl kd at_=1:=by unfold aT;rw[if_neg h,if_pos h1]
theorem pf6{ks:List KV}{W:WV}{pl kd at_:Int}(h:¬(40<=(W.us.length:Int)\/1000000<=W.next))(h1:0<=pl/\pl<(W.gold.length:Int))(h2:0<=kd/\kd<(ks.length:Int))(h3:¬(0<=at_/\at_<(W.gs.length:Int))):aT ks W pl kd at_=6:=by unfold aT;rw[if_neg h,if_neg (by omega),if_pos h3]
theorem YD{ks:List KV}{W:WV}{pl kd at_:Int}{k:KV}(h:¬(40<=(W.us.length:Int)\/1000000<=W.next))(h1:0<=pl/\pl<(W.gold.length:Int))(h2:0<=kd/\kd<(ks.length:Int))(h3:0<=at_/\at_<(W.gs.length:Int))(hk:ks[kd.toNat]? =some k):aT ks W pl kd at_=if open_ W.gs W.us at_ k.f=false then 7 else 0:=by unfold aT;rw[if_neg h,if_neg (by omega),if_neg (by omega),hk]
end Wd
structure aQ(ks:List KV)(W:WV):Prop where
 kinds:Kd.aG (ks.map KV.k)=0
 good:∃Wn Hn:Nat,W.wide=Wn/\W.high=Hn/\Fd.Good Wn Hn W.gs W.os
 nums:Wd.aU W=false
 ul:W.us.length<=40
 units:Wd.bT ks W 0 W.us=0
 ql:W.qs.length<=12
 jobs:Wd.fB ks W W.qs=0
theorem aY{ks:List KV}{W:WV}(h:Wd.aF ks W=0):aQ ks W:=by
 unfold Wd.aF at h;by_cases h0:Wd.ground ks W=0
 ·rw[if_neg (by rw[h0];simp)] at h
  cases h1:Wd.aU W with
  |true=>rw[h1,if_pos rfl] at h;cases h
  |false=>
   rw[h1,if_neg (by simp)] at h;by_cases h2:40<W.us.length
   ·rw[if_pos h2] at h;cases h
   ·rw[if_neg h2] at h
    by_cases h3:Wd.bT ks W 0 W.us=0
    ·rw[if_neg (by rw[h3];simp)] at h
     by_cases h4:12<W.qs.length
     ·rw[if_pos h4] at h;cases h
     ·rw[if_neg h4] at h
      unfold Wd.ground at h0;by_cases h5:Kd.aG (ks.map KV.k)=0
      ·rw[if_pos h5] at h0
       exact⟨h5,Fd.kJ h0,h1,by omega,h3,by omega,h⟩
      ·rw[if_neg h5] at h0;exact absurd h0 h5
    ·rw[if_pos h3] at h;exact absurd h h3
 ·rw[if_pos h0] at h;exact absurd h h0
theorem aQ.len{ks:List KV}{W:WV}(h:aQ ks W):SQ W:=by
 obtain⟨Wn,Hn,-,-,G⟩:=h.good;have h1:=G.pos;have h2:=G.gl;have h3:=G.ol;have h4:=(jU h.nums).2;have h5:=h.ul;have h6:=h.ql;exact⟨by omega,by omega,by omega,by omega,by omega⟩
namespace Wd
def dG(ks:List KV)(W:WV)(pl kd at_:Int):Int:=if aF ks W=0 then aT ks W pl kd at_ else aF ks W
def jV(ks:List KV)(W:WV)(pl kd at_:Int):aC:=⟨W.next,pl,kd,at_,(match ks[kd.toNat]? with|some k=>k.n0|none=>0),0,0,0⟩
def put(ks:List KV)(W:WV)(pl kd at_:Int):WV:={W with next:=W.next+1,us:=W.us++[jV ks W pl kd at_]}
def placed(ks:List KV)(W:WV)(pl kd at_:Int):WV:=if dG ks W pl kd at_=0 then put ks W pl kd at_ else WV.zero
end Wd
theorem og{ks:List KV}{W:WV}{pl kd at_:Int}(h:Wd.dG ks W pl kd at_≠0):Wd.placed ks W pl kd at_=WV.zero:=by unfold Wd.placed;rw[if_neg h]
theorem jW{ks:List KV}{W:WV}{pl kd at_:Int}(h:Wd.dG ks W pl kd at_=0):Wd.placed ks W pl kd at_=Wd.put ks W pl kd at_:=by unfold Wd.placed;rw[if_pos h]
theorem jX(w:World)(base:Nat):Wo w base (.agg #[int i64 0,int i64 0,int i64 0,int i64 0,slice none 0 0,slice none 0 0,slice none 0 0,slice none 0 0,slice none 0 0]) WV.zero:=⟨_,_,_,_,_,rfl,Ow.nil _ _,Ow.nil _ _,Ow.nil _ _,dQ.nil _ _,dK.nil _ _⟩
theorem zT{ks:List KV}{W:WV}{pl kd at_:Int}(h:Wd.aT ks W pl kd at_=0):¬(40<=(W.us.length:Int)\/1000000<=W.next)/\(0<=pl/\pl<(W.gold.length:Int))/\(0<=at_/\at_<(W.gs.length:Int))/\∃kn k,kd=((kn:Nat):Int)/\kn<ks.length/\ks[kn]? =some k/\Wd.open_ W.gs W.us at_ k.f=true:=by
 unfold Wd.aT at h;split at h
 ·cases h
 ·rename_i h1
  split at h
  ·cases h
  ·rename_i h2
   split at h
   ·cases h
   ·rename_i h3
    split at h
    ·rename_i k hk
     split at h
     ·cases h
     ·rename_i h4
      have hl:=(List.getElem?_eq_some_iff.1 hk).1;exact⟨h1,by omega,by omega,kd.toNat,k,by omega,hl,hk,by simpa using h4⟩
    ·cases h
end Go.Proofs.YtolfphmdmpehdaaGreatDoor
namespace Go.Proofs.YtolfphmdmpehdaaGreatDoor
namespace Wd
theorem gK{ks:List KV}{W:WV}:∀(l:List aC) (i:Nat),bT ks W i l=0↔∀(j:Nat) (u:aC),l[j]? =some u->aI ks W (i+j) u=0
 |[],i=>by
  constructor
  ·intro _ j u h;simp at h
  ·intro _;rfl
 |x::l,i=>by
  unfold bT;constructor
  ·intro h
   split at h
   ·rename_i h0
    intro j u hj;cases j with
    |zero=>simp at hj;subst hj;exact h0
    |succ j=>
     have:=(gK l (i+1)).1 h j u (by simpa using hj);rwa[show i+1+j=i+(j+1) by omega] at this
   ·rename_i h0;exact absurd h h0
  ·intro h
   rw[if_pos (show aI ks W i x=0 from h 0 x rfl)];refine(gK l _).2 λj u hj=>?_
   have:=h (j+1) u (by simpa using hj);rwa[show i+(j+1)=i+1+j by omega] at this
theorem iI{ks:List KV}{W:WV}:∀(l:List aO),fB ks W l=0↔∀j∈l,aJ ks W j=0
 |[]=>by
  constructor
  ·intro _ j h;cases h
  ·intro _;rfl
 |x::l=>by
  unfold fB;constructor
  ·intro h
   split at h
   ·rename_i h0
    intro j hj;rcases List.mem_cons.1 hj with rfl|hj
    ·exact h0
    ·exact(iI l).1 h j hj
   ·rename_i h0;exact absurd h h0
  ·intro h
   rw[if_pos (h x (List.mem_cons_self ..))];exact(iI l).2 λj hj=>h j (List.mem_cons_of_mem _ hj)
theorem VE{a:Bool}(h:¬(!a)=true):a=true:=by cases a<;>simp_all
theorem SX{a b:Bool}(h:¬(!a|| !b)=true):a=true/\b=true:=by cases a<;>cases b<;>simp_all
theorem VF{a b c:Bool}(h:¬(!a||(!b|| !c))=true):a=true/\b=true/\c=true:=by cases a<;>cases b<;>cases c<;>simp_all
theorem VG{a b:Bool}(h:¬(!a||b)=true):a=true/\b=false:=by cases a<;>cases b<;>simp_all
structure Gs(ks:List KV)(W:WV)(i:Nat)(u:aC)(k:KV):Prop where
 id1:1<=u.id
 id2:u.id<=W.next-1
 up:bH W.us i u=false
 p:0<=u.aA/\u.aA<(W.gold.length:Int)
 k0:0<=u.kind/\u.kind<(ks.length:Int)
 kk:ks[u.kind.toNat]? =some k
 life:1<=u.life/\u.life<=k.n0
 load:0<=u.load/\u.load<=k.n7
 task:0<=u.task/\u.task<=2
 at_:0<=u.at_/\u.at_<(W.gs.length:Int)
 goal:0<=u.goal/\u.goal<(W.gs.length:Int)
 opn:open_ W.gs (W.us.take i) u.at_ k.f=true
 rest:u.goal=0\/u.task≠0
theorem qO{ks:List KV}{W:WV}{i:Nat}{u:aC}:aI ks W i u=0↔∃k,Gs ks W i u k:=by
 constructor
 ·intro h
  unfold aI at h;split at h
  ·cases h
  rename_i h1;split at h
  ·cases h
  rename_i h2;split at h
  ·cases h
  rename_i h3;split at h
  ·cases h
  rename_i k hk;unfold dM at h;split at h
  ·cases h
  rename_i h4;split at h
  ·cases h
  rename_i h5;split at h
  ·cases h
  rename_i h6;have g1:=of_decide_eq_true (VE h1);have g3:=SX h3;have g4:=VF h4;have g5:=SX h5;have g6:=VG h6;refine⟨k,⟨g1.1,g1.2,by simpa using h2,of_decide_eq_true g3.1,of_decide_eq_true g3.2,hk,of_decide_eq_true g4.1,of_decide_eq_true g4.2.1,of_decide_eq_true g4.2.2,of_decide_eq_true g5.1,of_decide_eq_true g5.2,g6.1,?_⟩⟩;have g7:=g6.2;simp only[Bool.and_eq_false_iff,bne_eq_false_iff_eq,beq_eq_false_iff_ne] at g7;exact g7
 ·rintro⟨k,h⟩
  unfold aI;rw[if_neg (by simp[h.id1,h.id2]),if_neg (by simp[h.up]),if_neg (by simp[has,h.p.1,h.p.2,h.k0.1,h.k0.2]),h.kk];show dM W (W.us.take i) u k=0;unfold dM;rw[if_neg (by simp[h.life.1,h.life.2,h.load.1,h.load.2,h.task.1,h.task.2]),if_neg (by simp[has,h.at_.1,h.at_.2,h.goal.1,h.goal.2]),if_neg];simp only[h.opn,Bool.not_true,Bool.false_or,Bool.and_eq_true,bne_iff_ne,beq_iff_eq,ne_eq,not_and];intro hg ht;rcases h.rest with h1|h1
  ·exact hg h1
  ·exact h1 ht
theorem dR{ks:List KV}{W:WV}(hk:Kd.aG (ks.map KV.k)=0)(hf:Fd.fault W.wide W.high W.gs W.os=0)(hn:aU W=false)(hu:W.us.length<=40)(hus:∀(i:Nat) (u:aC),W.us[i]? =some u->∃k,Gs ks W i u k)(hq:W.qs.length<=12)(OG:∀j∈W.qs,aJ ks W j=0):aF ks W=0:=by
 have h1:ground ks W=0:=by unfold ground;rw[if_pos hk,hf]
 have h2:=(gK W.us 0).2 λj u hj=>by rw[Nat.zero_add];exact qO.2 (hus j u hj)
 unfold aF;rw[if_neg (by rw[h1];simp),hn,if_neg (by simp),if_neg (by omega),if_neg (by rw[h2];simp),if_neg (by omega)];exact(iI _).2 OG
end Wd
theorem aQ.fine{ks:List KV}{W:WV}(h:aQ ks W){i:Nat}{u:aC}(hu:W.us[i]? =some u):∃k,Wd.Gs ks W i u k:=by
 have:=(Wd.gK W.us 0).1 h.units i u hu;rw[Nat.zero_add] at this;exact Wd.qO.1 this
theorem aQ.job{ks:List KV}{W:WV}(h:aQ ks W){j:aO}(hj:j∈W.qs):Wd.aJ ks W j=0:=(Wd.iI W.qs).1 h.jobs j hj
theorem aQ.zero{ks:List KV}{W:WV}(h:aQ ks W):Wd.aF ks W=0:=by
 obtain⟨Wn,Hn,e1,e2,G⟩:=h.good;exact Wd.dR h.kinds (by rw[e1,e2];exact Fd.dH G) h.nums h.ul (λi u hu=>h.fine hu) h.ql (λj hj=>h.job hj)
open Go.RowKit
theorem gY:∀{l acc:List Kd.K},Kd.fF acc l=0->∀k∈l,Kd.b_ k.nums=0
 |[],_,_,k,hk=>by simp at hk
 |x::l,acc,h,k,hk=>by
  unfold Kd.fF at h;split at h
  ·rename_i h0
   rcases List.mem_cons.1 hk with rfl|hk
   ·unfold Kd.bV at h0
    split at h0
    ·split at h0
     ·omega
     ·exact h0
    ·omega
   ·exact gY h k hk
  ·rename_i h0
   exact absurd h h0
theorem iJ{ks:List KV}(h:Kd.aG (ks.map KV.k)=0):ks.length<=8/\∀k∈ks,0<=k.n5/\k.n5<=1000/\0<k.n0/\k.n0<=1000:=by
 unfold Kd.aG at h;split at h
 ·omega
 ·rename_i h8
  refine⟨by simpa using h8,λk hk=>?_⟩;have:=gY h k.k (List.mem_map.2 ⟨k,hk,rfl⟩);unfold Kd.b_ at this;split at this
  ·omega
  ·rename_i h1
   rw[Bool.not_eq_true,List.any_eq_false] at h1;have a:=h1 k.n0 (by simp[KV.k]);have b:=h1 k.n5 (by simp[KV.k]);simp only[decide_eq_true_eq] at a b;split at this
   ·omega
   ·rename_i h2
    have:(k.k.nums).getD 0 0=k.n0:=rfl;omega
end Go.Proofs.YtolfphmdmpehdaaGreatDoor
namespace Go.Proofs.YtolfphmdmpehdaaGreatDoor.Tx
def lines:List UInt8->List (List UInt8)
 |[]=>[]
 |b::r=>if b=10 then[10]::lines r else match lines r with
  |[]=>[[b]]
  |w::ws=>(b::w)::ws
end Go.Proofs.YtolfphmdmpehdaaGreatDoor.Tx
namespace Go.Proofs.YtolfphmdmpehdaaGreatDoor
open Go.RowKit
structure aK where
 aA:Int
 unit:Int
 what:Int
 arg:Int
def aK.val(k:aK):Value:=.agg #[int i64 k.aA,int i64 k.unit,int i64 k.what,int i64 k.arg]
structure kW(w:World)(y:Addr)(k:aK):Prop where
 c0:w.cell? y=some (int i64 k.aA)
 c1:w.cell? ⟨y.block,y.off+1,none⟩=some (int i64 k.unit)
 c2:w.cell? ⟨y.block,y.off+2,none⟩=some (int i64 k.what)
 c3:w.cell? ⟨y.block,y.off+3,none⟩=some (int i64 k.arg)
theorem kW.lt{w:World}{y:Addr}{k:aK}(h:kW w y k):y.block<w.heap.size:=cell_lt h.c0
theorem kW.below{w w':World}{y:Addr}{k:aK}{B:Nat}(h:kW w y k)(hb:Below B w w')(hy:y.block<B):kW w' y k:=
 ⟨by rw[hb.cell (p:=y) hy];exact h.c0,by rw[hb.cell (p:=⟨y.block,y.off+1,none⟩) hy];exact h.c1,by rw[hb.cell (p:=⟨y.block,y.off+2,none⟩) hy];exact h.c2,by rw[hb.cell (p:=⟨y.block,y.off+3,none⟩) hy];exact h.c3⟩
def zU(w:World)(v:Value)(ks:List aK):Prop:=∃a c,v=slice a ks.length c/\ks.length<=c/\c<=9223372036854775807/\(ks≠[]->∃x,a=some x/\x.block<w.heap.size/\∀(i:Nat) k,ks[i]? =some k->kW w (x.add (i*4)) k)
theorem zU.below{w w':World}{v:Value}{ks:List aK}(h:zU w v ks)(hb:Below w.heap.size w w'):zU w' v ks:=by
 obtain⟨a,c,h1,h2,h3,h4⟩:=h;refine⟨a,c,h1,h2,h3,λhn=>?_⟩;obtain⟨x,e,hx,hk⟩:=h4 hn;exact⟨x,e,Nat.lt_of_lt_of_le hx hb.size,λi k hi=>(hk i k hi).below hb (by rw[add_block];exact hx)⟩
theorem kW.mk'{w:World}{z:Nat}(k:aK)(hz:w.heap.size=z):kW (w.alloc (.cells #[int i64 k.aA,int i64 k.unit,int i64 k.what,int i64 k.arg] 96)) ⟨z,0,none⟩ k:=by
 subst hz;constructor<;>simp
end Go.Proofs.YtolfphmdmpehdaaGreatDoor
namespace Go.Proofs.YtolfphmdmpehdaaGreatDoor.Od
open Tx
def bad(o:aK):Prop:=o.aA<0\/3<o.aA\/o.unit<0\/1000000<o.unit\/o.arg<0\/1000000<o.arg\/o.what<0\/3<o.what\/(o.what=0/\o.arg≠0)
instance (o:aK):Decidable (bad o):=by unfold bad;infer_instance
def fault(o:aK):Int:=if bad o then 1 else 0
theorem mP{o:aK}(h:bad o):fault o=1:=if_pos h
theorem oh{o:aK}(h:¬bad o):fault o=0:=if_neg h
def faults(l:List aK):Int:=if 60<l.length then 4 else if l.any (λo=>decide (bad o)) then 1 else 0
def OH:List UInt8:=[115,116,111,112]
def Gt:List UInt8:=[109,97,114,99,104]
def zV:List UInt8:=[103,97,116,104,101,114]
def Gu:List UInt8:=[116,114,97,105,110]
def name(n:Int):List UInt8:=if n=0 then OH else if n=1 then Gt else if n=2 then zV else Gu
def Gv(l:List UInt8):Option Int:=if l=OH then some 0 else if l=Gt then some 1 else if l=zV then some 2 else if l=Gu then some 3 else none
def words(o:aK):List (List UInt8):=SH o.aA.toNat::SH o.unit.toNat::name o.what::(if o.what=0 then[] else[SH o.arg.toNat])
def LJ:List (List UInt8)->Option aK
 |[a,b,c]=>match Gv c,whole 7 a,whole 7 b with
  |some n,some x,some y=>if n=0 then some ⟨x,y,0,0⟩ else none
  |_,_,_=>none
 |[a,b,c,d]=>match Gv c,whole 7 a,whole 7 b,whole 7 d with
  |some n,some x,some y,some z=>if n=0 then none else some ⟨x,y,n,z⟩
  |_,_,_,_=>none
 |_=>none
def Qg(l:List UInt8):Option aK:=if l.getLast? =some 10 then LJ (cut 32 l.dropLast) else none
def go(acc:List aK):List (List UInt8)->(Nat×Int) ⊕ List aK
 |[]=>.inr acc
 |l::r=>match Qg l with
  |none=>.inl (acc.length,2)
  |some o=>if acc.length=60 then .inl (acc.length,4) else if fault o=0 then go (acc++[o]) r else .inl (acc.length,fault o)
def parse(s:List UInt8):(Nat×Int) ⊕ List aK:=go [] (lines s)
theorem uX{o:aK}(h:¬bad o):0<=o.aA/\o.aA<=3/\0<=o.unit/\o.unit<=1000000/\0<=o.arg/\o.arg<=1000000/\0<=o.what/\o.what<=3/\(o.what=0->o.arg=0):=by
 unfold bad at h;omega
theorem gW{l:List aK}(h:faults l=0):l.length<=60/\∀o∈l,¬bad o:=by
 unfold faults at h;split at h
 ·omega
 ·split at h
  ·omega
  ·rename_i h1 h2
   rw[Bool.not_eq_true,List.any_eq_false] at h2;exact⟨by omega,λo ho=>by simpa using h2 o ho⟩
theorem qP{l:List aK}(h:l.length<=60)(hb:∀o∈l,¬bad o):faults l=0:=by
 unfold faults;rw[if_neg (by omega),if_neg];rw[Bool.not_eq_true,List.any_eq_false];intro o ho;simpa using hb o ho
end Go.Proofs.YtolfphmdmpehdaaGreatDoor.Od
namespace Go.Proofs.YtolfphmdmpehdaaGreatDoor
def kM(o:aK)(u:aC):Bool:=decide (u.id=o.unit/\u.aA=o.aA)
def eY(ks:List KV)(a:Int):Int:=match ks[a.toNat]? with|some k=>k.n5|none=>0
def turnsOf(ks:List KV)(a:Int):Int:=match ks[a.toNat]? with|some k=>k.n6|none=>0
def qB(ks:List KV)(Y:WV)(k:KV)(o:aK):Bool:=
 if o.what=1 then decide (o.arg<(Y.gs.length:Int)/\0<Fd.onto (Y.gs.getD o.arg.toNat 0) k.f)
 else if o.what=2 then decide (o.arg<(Y.os.length:Int)/\0<Y.os.getD o.arg.toNat 0/\0<k.n7)
 else if o.what=3 then decide (k.t=true/\o.arg<(ks.length:Int)/\eY ks o.arg<=Y.gold.getD o.aA.toNat 0/\Y.qs.length<12)
 else true
def qQ(o:aK)(u:aC):aC:={u with task:=o.what,goal:=o.arg}
def eH(ks:List KV)(Y:WV)(o:aK):WV:={Y with gold:=Y.gold.set o.aA.toNat (Y.gold.getD o.aA.toNat 0-eY ks o.arg),qs:=Y.qs++[⟨o.aA,o.unit,o.arg,max (turnsOf ks o.arg) 1⟩]}
def lF(Y:WV)(i:Nat)(u:aC)(o:aK):WV:={Y with us:=Y.us.set i (qQ o u)}
def fC(ks:List KV)(Y:WV)(o:aK):Option WV:=
 match Y.us.findIdx? (kM o) with
 |none=>none
 |some i=>match Y.us[i]? with
  |none=>none
  |some u=>match ks[u.kind.toNat]? with
   |none=>none
   |some k=>if qB ks Y k o=true then some (if o.what=3 then eH ks Y o else lF Y i u o) else none
def gv(ks:List KV)(Y:WV)(out:List aK):Nat->WV×List Int
 |0=>(Y,[])
 |q+1=>match out[q]? with
  |none=>gv ks Y out q
  |some o=>match fC ks (gv ks Y out q).1 o with
   |some Z=>(Z,(gv ks Y out q).2)
   |none=>((gv ks Y out q).1,(gv ks Y out q).2++[(q:Int)])
theorem sG{ks:List KV}{Y Z:WV}{out:List aK}{q:Nat}{o:aK}(ho:out[q]? =some o)(h:fC ks (gv ks Y out q).1 o=some Z):gv ks Y out (q+1)=(Z,(gv ks Y out q).2):=by
 rw[gv];simp only[ho,h]
theorem zW{ks:List KV}{Y:WV}{out:List aK}{q:Nat}{o:aK}(ho:out[q]? =some o)(h:fC ks (gv ks Y out q).1 o=none):gv ks Y out (q+1)=((gv ks Y out q).1,(gv ks Y out q).2++[(q:Int)]):=by
 rw[gv];simp only[ho,h]
theorem Gw{us:List aC}{o:aK}(h:us.any (kM o)=false):us.findIdx? (kM o)=none:=by
 rw[List.findIdx?_eq_none_iff];intro x hx;rw[List.any_eq_false] at h;have:=h x hx;simpa using this
theorem Gx{us:List aC}{o:aK}{i:Nat}{u:aC}(hu:us[i]? =some u)(hp:kM o u=true)(hn:(us.take i).any (kM o)=false):us.findIdx? (kM o)=some i:=by
 rw[List.findIdx?_eq_some_iff_getElem];obtain⟨hi,e⟩:=List.getElem?_eq_some_iff.1 hu;refine⟨hi,by rw[e];exact hp,λj hj=>?_⟩;rw[List.any_eq_false] at hn;have hjl:j<us.length:=by omega
 have:us[j]∈us.take i:=by
  rw[List.mem_take_iff_getElem];exact⟨j,by omega,rfl⟩
 have:=hn _ this;simpa using this
structure qC(ks:List KV)(Y:WV):Prop where
 good:∃Wn Hn:Nat,Y.wide=Wn/\Y.high=Hn/\Fd.Good Wn Hn Y.gs Y.os
 units:∀u∈Y.us,(∃kn:Nat,∃k,u.kind=kn/\ks[kn]? =some k)/\∃pn:Nat,u.aA=pn/\pn<Y.gold.length
 gold:∀g∈Y.gold,0<=g/\g<=1000000
 kinds:ks.length<=8/\∀k∈ks,0<=k.n5/\k.n5<=1000/\0<=k.n6/\k.n6<=1000
 ul:Y.us.length<=40
 ql:Y.qs.length<=12
 gl:Y.gold.length<=4
theorem ni{ks:List KV}(h:Kd.aG (ks.map KV.k)=0):∀k∈ks,0<=k.n6/\k.n6<=1000:=by
 intro k hk;unfold Kd.aG at h;split at h
 ·omega
 ·have h2:=gY h k.k (List.mem_map.2 ⟨k,hk,rfl⟩)
  unfold Kd.b_ at h2;split at h2
  ·omega
  ·rename_i h3
   rw[Bool.not_eq_true,List.any_eq_false] at h3;have:=h3 k.n6 (by simp[KV.k]);simp only[decide_eq_true_eq] at this;omega
theorem zX{Y:WV}(h:Wd.aU Y=false):(∀g∈Y.gold,0<=g/\g<=1000000)/\Y.gold.length<=4:=by
 unfold Wd.aU at h;simp only[Bool.or_eq_false_iff] at h;obtain⟨-,-,h3,h4⟩:=h;refine⟨λg hg=>?_,?_⟩
 ·rw[List.any_eq_false] at h4
  have:=h4 g hg;unfold Wd.off at this;simp at this;exact this
 ·simp at h3
  omega
theorem aQ.S_{ks:List KV}{Y:WV}(h:aQ ks Y):qC ks Y:=by
 have kr:=iJ h.kinds;have kt:=ni h.kinds;have gi:=zX h.nums;refine⟨h.good,λu hu=>?_,gi.1,⟨kr.1,λk hk=>⟨(kr.2 k hk).1,(kr.2 k hk).2.1,(kt k hk).1,(kt k hk).2⟩⟩,h.ul,h.ql,gi.2⟩;obtain⟨i,hi⟩:=List.mem_iff_getElem?.1 hu;obtain⟨k,F⟩:=h.fine hi;exact⟨⟨u.kind.toNat,k,by have:=F.k0;omega,F.kk⟩,⟨u.aA.toNat,by have:=F.p;omega,by have:=F.p;omega⟩⟩
theorem qC.sent{ks:List KV}{Y:WV}(h:qC ks Y){i:Nat}{u:aC}(hu:Y.us[i]? =some u)(o:aK):qC ks (lF Y i u o):=by
 refine⟨h.good,λx hx=>?_,h.gold,h.kinds,by simpa[lF] using h.ul,h.ql,h.gl⟩;rcases List.mem_or_eq_of_mem_set hx with hx|rfl
 ·exact h.units x hx
 ·exact h.units u (List.mem_of_getElem? hu)
theorem qC.hire{ks:List KV}{Y:WV}(h:qC ks Y){o:aK}(hp:eY ks o.arg<=Y.gold.getD o.aA.toNat 0)(hpl:o.aA.toNat<Y.gold.length)(hq:Y.qs.length<12):qC ks (eH ks Y o):=by
 have pr:0<=eY ks o.arg:=by
  unfold eY;split
  ·rename_i k hk
   exact(h.kinds.2 k (List.mem_of_getElem? hk)).1
  ·omega
 refine⟨h.good,λx hx=>?_,λg hg=>?_,h.kinds,h.ul,by simp[eH];omega,by simpa[eH] using h.gl⟩
 ·obtain⟨a,pn,b,c⟩:=h.units x hx
  exact⟨a,pn,b,by simpa[eH] using c⟩
 ·rcases List.mem_or_eq_of_mem_set hg with hg|rfl
  ·exact h.gold g hg
  ·have:Y.gold.getD o.aA.toNat 0∈Y.gold:=by
    rw[List.getD_eq_getElem?_getD,List.getElem?_eq_getElem hpl];exact List.getElem_mem _
   have:=h.gold _ this;omega
theorem jY{ks:List KV}(h:Kd.aG (ks.map KV.k)=0){k:KV}(hk:k∈ks):1<=k.n0/\0<=k.n7/\0<=k.n4/\k.n4<=4/\0<=k.n1/\k.n1<=1000/\0<=k.n2/\k.n2<=12/\0<=k.n3/\k.n3<=12/\k.n0<=1000/\k.n7<=1000:=by
 unfold Kd.aG at h;split at h
 ·omega
 ·have:=gY h k.k (List.mem_map.2 ⟨k,hk,rfl⟩)
  unfold Kd.b_ at this;split at this
  ·omega
  ·rename_i h1
   rw[Bool.not_eq_true,List.any_eq_false] at h1;have a:=h1 k.n0 (by simp[KV.k]);have b:=h1 k.n7 (by simp[KV.k]);have c:=h1 k.n4 (by simp[KV.k]);have d:=h1 k.n1 (by simp[KV.k]);have e:=h1 k.n2 (by simp[KV.k]);have f:=h1 k.n3 (by simp[KV.k]);simp only[decide_eq_true_eq] at a b c d e f;split at this
   ·omega
   ·rename_i h2
    have e0:(k.k.nums).getD 0 0=k.n0:=rfl;have e4:(k.k.nums).getD 4 0=k.n4:=rfl;have e2:(k.k.nums).getD 2 0=k.n2:=rfl;have e3:(k.k.nums).getD 3 0=k.n3:=rfl;omega
theorem BM{us:List aC}{n:aC}{p:aC->Bool}{u:aC}(h:us.find? p=some u):(us++[n]).find? p=some u:=by
 rw[List.find?_append,h];rfl
theorem B_{ks:List KV}{W:WV}{pl kd at_:Int}(h:aQ ks W)(hp:Wd.aT ks W pl kd at_=0):Wd.aF ks (Wd.put ks W pl kd at_)=0:=by
 obtain⟨h40,hpl,hat,kn,k,rfl,hkl,hkk,hop⟩:=zT hp;have hnu:Wd.jV ks W pl (kn:Nat) at_=⟨W.next,pl,(kn:Nat),at_,k.n0,0,0,0⟩:=by unfold Wd.jV;rw[Int.toNat_natCast,hkk]
 have hn1:1<=W.next:=by
  have:=(jU h.nums).1;unfold Wd.off at this;simp at this;omega
 have hk:=jY h.kinds (List.mem_of_getElem? hkk);obtain⟨Wn,Hn,e1,e2,G⟩:=h.good;unfold Wd.put;rw[hnu];refine Wd.dR h.kinds (by show Fd.fault W.wide W.high W.gs W.os=0;rw[e1,e2];exact Fd.dH G) ?_ ?_ ?_ h.ql ?_
 ·have hn:=h.nums
  unfold Wd.aU at hn ⊢;simp only[Bool.or_eq_false_iff] at hn ⊢;refine⟨hn.1,?_,hn.2.2⟩;unfold Wd.off;simp;omega
 ·show(W.us++[_]).length<=40
  rw[List.length_append];have:=h40;simp only[List.length_cons,List.length_nil];omega
 ·intro i u hu
  have hu':(W.us++[(⟨W.next,pl,(kn:Nat),at_,k.n0,0,0,0⟩:aC)])[i]? =some u:=hu;rcases Nat.lt_or_ge i W.us.length with hi|hi
  ·rw[List.getElem?_append_left hi] at hu'
   obtain⟨k0,f⟩:=h.fine hu';refine⟨k0,⟨f.id1,?_,?_,f.p,f.k0,f.kk,f.life,f.load,f.task,f.at_,f.goal,?_,f.rest⟩⟩
   ·have:=f.id2
    show u.id<=W.next+1-1;omega
   ·have:=f.up
    show Wd.bH (W.us++[_]) i u=false;unfold Wd.bH at this ⊢;cases i with
    |zero=>rfl
    |succ j=>
     simp only at this ⊢;rw[List.getElem?_append_left (by omega)];exact this
   ·show Wd.open_ W.gs ((W.us++[_]).take i) u.at_ k0.f=true
    rw[List.take_append_of_le_length (by omega)];exact f.opn
  ·rw[List.getElem?_append_right hi] at hu'
   have hil:i=W.us.length:=by
    rcases Nat.eq_zero_or_pos (i-W.us.length) with h0|h0
    ·omega
    ·rw[List.getElem?_eq_none (by simp;omega)] at hu';cases hu'
   subst hil;rw[Nat.sub_self] at hu';injection hu' with hu'
   subst hu';refine⟨k,⟨hn1,?_,?_,hpl,⟨by simp,by simp;omega⟩,by simpa using hkk,⟨hk.1,Int.le_refl _⟩,⟨Int.le_refl _,hk.2.1⟩,⟨by simp,by simp⟩,hat,⟨by simp,Int.lt_of_le_of_lt hat.1 hat.2⟩,?_,.inl rfl⟩⟩
   ·show W.next<=W.next+1-1
    omega
   ·show Wd.bH (W.us++[_]) W.us.length _=false
    unfold Wd.bH;cases hl:W.us.length with
    |zero=>rfl
    |succ j=>
     simp only;rw[List.getElem?_append_left (by omega)];cases hx:W.us[j]? with
     |none=>rfl
     |some x=>
      obtain⟨k0,f⟩:=h.fine hx;have:=f.id2;simp;omega
   ·show Wd.open_ W.gs ((W.us++[_]).take W.us.length) at_ k.f=true
    rw[List.take_left];exact hop
 ·intro j hj
  have:=h.job hj;unfold Wd.aJ at this ⊢;cases hx:W.us.find? (λu=>u.id==j.unit) with
  |none=>rw[hx] at this;cases this
  |some u=>
   rw[hx] at this;have hm:=BM (n:=(⟨W.next,pl,(kn:Nat),at_,k.n0,0,0,0⟩:aC)) hx;simp only[hm];exact this
theorem uY{ks:List KV}{X:WV}(h:aQ ks X){i:Nat}{a b:aC}(ha:X.us[i]? =some a)(hb:X.us[i+1]? =some b):a.id<b.id:=by
 obtain⟨k,f⟩:=h.fine hb;have:=f.up;simp only[Wd.bH,ha,decide_eq_false_iff_not] at this;omega
theorem lG{ks:List KV}{X:WV}(h:aQ ks X):∀(d i:Nat) (a b:aC),X.us[i]? =some a->X.us[i+d+1]? =some b->a.id<b.id
 |0,i,a,b,ha,hb=>uY h ha hb
 |d+1,i,a,b,ha,hb=>by
  have hl:i+d+1<X.us.length:=by have:=(List.getElem?_eq_some_iff.1 hb).1;omega
  have h1:=lG h d i a _ ha (List.getElem?_eq_getElem hl);have h2:=uY h (List.getElem?_eq_getElem hl) (show X.us[i+d+1+1]? =some b from hb);omega
theorem sH{ks:List KV}{X:WV}(h:aQ ks X){i j:Nat}{a b:aC}(ha:X.us[i]? =some a)(hb:X.us[j]? =some b)(e:a.id=b.id):i=j:=by
 rcases Nat.lt_trichotomy i j with hl|hl|hl
 ·have:=lG h (j-i-1) i a b ha (by rw[show i+(j-i-1)+1=j by omega];exact hb)
  omega
 ·exact hl
 ·have:=lG h (i-j-1) j b a hb (by rw[show j+(i-j-1)+1=i by omega];exact ha)
  omega
def er3(u:aC):aC:={u with load:=0,task:=0,goal:=0}
theorem LM{l:List aC}{i:Nat}{u v:aC}(h:l[i]? =some u)(e:er3 v=er3 u):(l.set i v).map er3=l.map er3:=by
 apply List.ext_getElem?;intro j;rw[List.getElem?_map,List.getElem?_map,List.getElem?_set];split
 ·rename_i ej
  subst ej;split
  ·rw[h];simp[e]
  ·rename_i h2
   rw[List.getElem?_eq_none (by omega)]
 ·rfl
theorem wU{l m:List aC}(h:l.map er3=m.map er3){i:Nat}{u:aC}(hu:l[i]? =some u):∃v,m[i]? =some v/\er3 u=er3 v:=by
 have:(l.map er3)[i]? =some (er3 u):=by rw[List.getElem?_map,hu];rfl
 rw[h,List.getElem?_map] at this;cases hv:m[i]? with
 |none=>rw[hv] at this;cases this
 |some v=>
  rw[hv] at this;injection this with this
  exact⟨v,rfl,this.symm⟩
theorem oq{u v:aC}(h:er3 u=er3 v):u.id=v.id/\u.aA=v.aA/\u.kind=v.kind/\u.at_=v.at_/\u.life=v.life:=by
 unfold er3 at h;injection h with h1 h2 h3 h4 h5
 exact⟨h1,h2,h3,h4,h5⟩
theorem Gy{l m:List aC}(h:l.map er3=m.map er3)(i:Nat):(l.take i).map er3=(m.take i).map er3:=by rw[List.map_take,List.map_take,h]
theorem Gz{l m:List aC}(h:l.map er3=m.map er3)(n:Int):(l.find? (λu=>u.id==n)).map er3=(m.find? (λu=>u.id==n)).map er3:=by
 induction l generalizing m with
 |nil=>
  cases m with
  |nil=>rfl
  |cons _ _=>simp at h
 |cons u l ih=>
  cases m with
  |nil=>simp at h
  |cons v m=>
   rw[List.map_cons,List.map_cons] at h;injection h with h1 h2
   have e:=(oq h1).1;rw[List.find?_cons,List.find?_cons,e];cases hh:(v.id==n) with
   |true=>simp[h1]
   |false=>exact ih h2
theorem LP{ks:List KV}{X Z:WV}(e:Z.us.map er3=X.us.map er3)(j:aO):Wd.aJ ks Z j=Wd.aJ ks X j:=by
 unfold Wd.aJ;have h2:=Gz e j.unit;cases hz:Z.us.find? (λu=>u.id==j.unit) with
 |none=>
  rw[hz] at h2;cases hx:X.us.find? (λu=>u.id==j.unit) with
  |none=>rfl
  |some v=>rw[hx] at h2;cases h2
 |some u=>
  rw[hz] at h2;cases hx:X.us.find? (λu=>u.id==j.unit) with
  |none=>rw[hx] at h2;cases h2
  |some v=>
   rw[hx] at h2;injection h2 with h2
   obtain⟨-,q2,q3,-⟩:=oq h2;simp only[q2,q3]
theorem qR{ks:List KV}{X Z:WV}(h:aQ ks X)(k2:Z.next=X.next)(k3:Z.wide=X.wide)(k4:Z.high=X.high)(k5:Z.gs=X.gs)(k8:Z.os=X.os)(k7:Z.gold.length=X.gold.length)(hn:Wd.aU Z=false)(e:Z.us.map er3=X.us.map er3)
  (hu:∀u∈Z.us,(∀k,ks[u.kind.toNat]? =some k->0<=u.load/\u.load<=k.n7)/\(0<=u.task/\u.task<=2)/\(0<=u.goal/\u.goal<(X.gs.length:Int))/\(u.goal=0\/u.task≠0)) (hq:Z.qs.length<=12) (hj:∀j∈Z.qs,Wd.aJ ks X j=0):Wd.aF ks Z=0:=by
 have hl:Z.us.length=X.us.length:=by have:=congrArg List.length e;simpa using this
 refine Wd.dR h.kinds ?_ hn (by rw[hl];exact h.ul) ?_ hq ?_
 ·obtain⟨Wn,Hn,e1,e2,G⟩:=h.good
  rw[k3,k4,k5,k8,e1,e2];exact Fd.dH G
 ·intro i u hu'
  obtain⟨v,hv,ev⟩:=wU e hu';obtain⟨q1,q2,q3,q4,q5⟩:=oq ev;obtain⟨k,F⟩:=h.fine hv;obtain⟨l1,l2,l3,l4⟩:=hu u (List.mem_of_getElem? hu');refine⟨k,by rw[q1];exact F.id1,by rw[q1,k2];exact F.id2,?_,by rw[q2,k7];exact F.p,by rw[q3];exact F.k0,by rw[q3];exact F.kk,by rw[q5];exact F.life,l1 k (by rw[q3];exact F.kk),l2,by rw[q4,k5];exact F.at_,by rw[k5];exact l3,?_,l4⟩
  ·have hup:=F.up
   cases i with
   |zero=>rfl
   |succ i=>
    have hil:i<Z.us.length:=by have:=(List.getElem?_eq_some_iff.1 hu').1;omega
    obtain⟨p,hp⟩:∃p,Z.us[i]? =some p:=⟨_,List.getElem?_eq_getElem hil⟩;obtain⟨p',hp',ep⟩:=wU e hp;simp only[Wd.bH,hp',decide_eq_false_iff_not] at hup;simp only[Wd.bH,hp,decide_eq_false_iff_not];rw[q1,(oq ep).1];exact hup
  ·have ho:=F.opn
   unfold Wd.open_ at ho ⊢;rw[Bool.and_eq_true] at ho ⊢;refine⟨by rw[q4,k5];exact ho.1,?_⟩;have h1:=ho.2;rw[Bool.not_eq_true',List.any_eq_false] at h1 ⊢;intro p hp;obtain⟨i',hi'⟩:=List.mem_iff_getElem?.1 hp;obtain⟨p',hp',ep⟩:=wU (Gy e i) hi';rw[(oq ep).2.2.2.1,q4];exact h1 p' (List.mem_of_getElem? hp')
 ·intro j hj'
  rw[LP e];exact hj j hj'
theorem ou{ks:List KV}{X:WV}(h:aQ ks X){u:aC}(hu:u∈X.us):(∀k,ks[u.kind.toNat]? =some k->0<=u.load/\u.load<=k.n7)/\(0<=u.task/\u.task<=2)/\(0<=u.goal/\u.goal<(X.gs.length:Int))/\(u.goal=0\/u.task≠0):=by
 obtain⟨i,hi⟩:=List.mem_iff_getElem?.1 hu;obtain⟨k,F⟩:=h.fine hi;exact⟨λk' hk'=>by have:=F.kk;rw[this] at hk';injection hk' with e;subst e;exact F.load,F.task,F.goal,F.rest⟩
theorem LQ{ks:List KV}{X:WV}(h:aQ ks X){i:Nat}{u:aC}(hu:X.us[i]? =some u):X.us.find? (λv=>v.id==u.id)=some u:=by
 obtain⟨hi,e⟩:=List.getElem?_eq_some_iff.1 hu;rw[List.find?_eq_some_iff_getElem];refine⟨by simp,i,hi,e,λj hj=>?_⟩;have hjl:j<X.us.length:=by omega
 simp only[Bool.not_eq_true',beq_eq_false_iff_ne];intro ee;have:=sH h (List.getElem?_eq_getElem hjl) hu ee;omega
theorem uZ{ks:List KV}{Y Z:WV}(h:aQ ks Y){o:aK}(ho:¬Od.bad o)(hg:fC ks Y o=some Z):Wd.aF ks Z=0:=by
 unfold fC at hg;cases hi:Y.us.findIdx? (kM o) with
 |none=>rw[hi] at hg;cases hg
 |some i=>
  rw[hi] at hg;simp only at hg;cases hu:Y.us[i]? with
  |none=>rw[hu] at hg;cases hg
  |some u=>
   rw[hu] at hg;simp only at hg;cases hk:ks[u.kind.toNat]? with
   |none=>rw[hk] at hg;cases hg
   |some k=>
    rw[hk] at hg;simp only at hg;have hask:kM o u=true:=by
     have h1:=List.findIdx?_eq_some_iff_getElem.1 hi;obtain⟨h2,h3,-⟩:=h1;rw[(List.getElem?_eq_some_iff.1 hu).2] at h3;exact h3
    unfold kM at hask;have OJ:=of_decide_eq_true hask;unfold Od.bad at ho;split at hg
    ·rename_i hm
     injection hg with hg
     subst hg;unfold qB at hm;by_cases h3:o.what=3
     ·rw[if_neg (by omega),if_neg (by omega),if_pos h3] at hm
      obtain⟨m1,m2,m3,m4⟩:=of_decide_eq_true hm;rw[if_pos h3];obtain⟨ka,hka⟩:∃ka,ks[o.arg.toNat]? =some ka:=⟨_,List.getElem?_eq_getElem (by omega)⟩;have kr:=(iJ h.kinds).2 ka (List.mem_of_getElem? hka);have kt:=ni h.kinds ka (List.mem_of_getElem? hka);have pr:eY ks o.arg=ka.n5:=by unfold eY;rw[hka]
      have tr:turnsOf ks o.arg=ka.n6:=by unfold turnsOf;rw[hka]
      have gi:=zX h.nums;refine qR h rfl rfl rfl rfl rfl (by simp[eH]) ?_ rfl (λv hv=>ou h hv) (by simp only[eH,List.length_append,List.length_cons,List.length_nil];omega) (λj hj=>?_)
      ·have hn:=h.nums
       unfold Wd.aU at hn ⊢;simp only[eH,List.length_set];simp only[Bool.or_eq_false_iff] at hn ⊢;refine⟨hn.1,hn.2.1,hn.2.2.1,?_⟩;rw[List.any_eq_false];intro g hg;have hb:0<=g/\g<=1000000:=by
        rcases List.mem_or_eq_of_mem_set hg with hg|hg
        ·exact gi.1 g hg
        ·rw[hg,pr]
         rw[pr] at m3;have:Y.gold.getD o.aA.toNat 0<=1000000:=by
          rw[List.getD_eq_getElem?_getD];cases hh:Y.gold[o.aA.toNat]? with
          |none=>simp
          |some x=>exact(gi.1 x (List.mem_of_getElem? hh)).2
         omega
       unfold Wd.off;simp;omega
      ·simp only[eH,List.mem_append,List.mem_singleton] at hj
       rcases hj with hj|rfl
       ·exact h.job hj
       ·unfold Wd.aJ
        simp only;rw[<-OJ.1,LQ h hu];simp only[hk];rw[if_neg (by simp[OJ.2,m1]),if_neg];unfold Wd.has;simp only[tr,Bool.or_eq_true,Bool.not_eq_true',decide_eq_false_iff_not,not_or,Classical.not_not];exact⟨⟨by omega,by omega⟩,by omega,by omega⟩
     ·rw[if_neg h3]
      refine qR h rfl rfl rfl rfl rfl rfl h.nums (LM hu rfl) (λv hv=>?_) h.ql (λj hj=>h.job hj);rcases List.mem_or_eq_of_mem_set hv with hv|rfl
      ·exact ou h hv
      ·obtain⟨l1,-⟩:=ou h (List.mem_of_getElem? hu)
       have hl:0<Y.gs.length:=by
        obtain⟨Wn,Hn,-,-,G⟩:=h.good;rw[G.gl];exact Nat.mul_pos G.w1 G.h1
       have hol:Y.os.length=Y.gs.length:=by
        obtain⟨Wn,Hn,-,-,G⟩:=h.good;rw[G.gl,G.ol]
       refine⟨l1,⟨by show 0<=o.what;omega,by show o.what<=2;omega⟩,⟨by show 0<=o.arg;omega,?_⟩,?_⟩
       ·show o.arg<(Y.gs.length:Int)
        by_cases h1:o.what=1
        ·rw[if_pos h1] at hm
         exact(of_decide_eq_true hm).1
        ·by_cases h2:o.what=2
         ·rw[if_neg h1,if_pos h2] at hm
          have:=(of_decide_eq_true hm).1;omega
         ·have:o.what=0:=by omega
          have:o.arg=0:=by omega
          omega
       ·show o.arg=0\/o.what≠0
        omega
    ·cases hg
theorem oz{ks:List KV}{Y:WV}(h:aQ ks Y){out:List aK}(ho:∀o∈out,¬Od.bad o):∀q,aQ ks (gv ks Y out q).1
 |0=>h
 |q+1=>by
  have ih:=oz h ho q;cases hq:out[q]? with
  |none=>rw[gv];simp only[hq];exact ih
  |some o=>
   cases hg:fC ks (gv ks Y out q).1 o with
   |some Z=>rw[sG hq hg];exact aY (uZ ih (ho o (List.mem_of_getElem? hq)) hg)
   |none=>rw[zW hq hg];exact ih
end Go.Proofs.YtolfphmdmpehdaaGreatDoor
namespace Go.Proofs.YtolfphmdmpehdaaGreatDoor.Fd
def along(n f t k:Int):Int:=(2*f*n+2*k*(t-f)+n)/(2*n)
def span(W a b:Nat):Nat:=max (max (a%W-b%W) (b%W-a%W)) (max (a/W-b/W) (b/W-a/W))
def spot(W a b:Nat)(k:Nat):Int:=along (span W a b) (a/W:Nat) (b/W:Nat) k*W+along (span W a b) (a%W:Nat) (b%W:Nat) k
def line(W a b:Nat):List Int:=if span W a b=0 then[(a:Int)] else(List.range (span W a b+1)).map (spot W a b)
end Go.Proofs.YtolfphmdmpehdaaGreatDoor.Fd
namespace Go.Proofs.YtolfphmdmpehdaaGreatDoor
open Go.RowKit
theorem wV(W a c r:Nat)(w:World)(h1:0<W)(h2:W<=12)(h3:a<=144)(hc:a%W=c)(hr:a/W=r):
  Calls Tryz.prog 226 #[int i64 (W:Nat),int i64 (a:Nat)] w λe w'=>e=.returned (.tuple #[int i64 (c:Nat),int i64 (r:Nat)])/\∃n,w'=w.drewN n:=by
 have hw:¬(W:Int)=0:=by omega
 have e1:(a:Int)%(W:Int)=(c:Nat):=by rw[<-hc];rfl
 have e2:(a:Int)/(W:Int)=(r:Nat):=by rw[<-hr];rfl
 have l1:r<=144:=by rw[<-hr];exact Nat.le_trans (Nat.div_le_self _ _) h3
 clear hc hr;go_enter Tryz.func226,Tryz.ntmps226;go_wp2;go_quiet (fail);go_wp2;go_ret2;exact⟨by show Ending.returned (.tuple #[int i64 ((a:Int)%W),int i64 r])=_;rw[e1],_,rfl⟩
theorem GH(v:Value)(W H:Int)(gs os:List Int)(a F:Int)(fl:Bool)(w:World)(h:Fl w v W H gs os)(hF:Fd.dW (Fd.fault W H gs os) gs.length [a]=F)(h0:F≠0):
  Calls Tryz.prog 152 #[v,int i64 a,.bool fl] w λe w'=>e=.returned (.tuple #[int i64 0,.iface 85 (int i64 F)])/\Below w.heap.size w w':=by
 have F0:=aj (h);have HF:=aj (hF);have H0:=aj (h0);obtain⟨u1,u2,rfl,⟨a1,c,rfl,c1,c2,ca⟩,⟨b1,d,rfl,d1,d2,cb⟩⟩:=h;clear hF h0 ca cb;go_enter Tryz.func152,Tryz.ntmps152;go_wp2_with fail
 refine(rY _ _ W H gs os _ _ (F0.out.below (((Below.refl _ _).alloc (Nat.le_refl _) _).alloc (by simp) _)) (Ro.wL a (by simp))).mono ?_;rintro e w1 ⟨v1,rfl,hv,hb⟩;have B1:=aj ((((Below.refl _ _).alloc (Nat.le_refl _) _).alloc (by simp) _).trans (hb.mono (by simp;omega)));rw[HF.out] at hv;clear hb;rcases hv with⟨hz,rfl⟩|⟨hz,rfl⟩
 ·exact absurd hz H0.out
 ·clear hz
  go_wp2;go_ret2;exact⟨rfl,B1⟩
structure Sd(w:World):Prop where
 c0:w.cell? ⟨2,0,none⟩=some (int i64 0)
 c1:w.cell? ⟨2,1,none⟩=some (int i64 (-1))
 c2:w.cell? ⟨2,2,none⟩=some (int i64 (-1))
 c3:w.cell? ⟨2,3,none⟩=some (int i64 0)
 c4:w.cell? ⟨2,4,none⟩=some (int i64 1)
 c5:w.cell? ⟨2,5,none⟩=some (int i64 0)
 c6:w.cell? ⟨2,6,none⟩=some (int i64 0)
 c7:w.cell? ⟨2,7,none⟩=some (int i64 1)
theorem Sd.lt{w:World}(h:Sd w):2<w.heap.size:=cell_lt h.c0
theorem Sd.below{w w':World}(h:Sd w)(hb:Below w.heap.size w w'):Sd w':=by
 have l:=h.lt;refine⟨?_,?_,?_,?_,?_,?_,?_,?_⟩
 ·rw[hb.cell (p:=⟨2,0,none⟩) l];exact h.c0
 ·rw[hb.cell (p:=⟨2,1,none⟩) l];exact h.c1
 ·rw[hb.cell (p:=⟨2,2,none⟩) l];exact h.c2
 ·rw[hb.cell (p:=⟨2,3,none⟩) l];exact h.c3
 ·rw[hb.cell (p:=⟨2,4,none⟩) l];exact h.c4
 ·rw[hb.cell (p:=⟨2,5,none⟩) l];exact h.c5
 ·rw[hb.cell (p:=⟨2,6,none⟩) l];exact h.c6
 ·rw[hb.cell (p:=⟨2,7,none⟩) l];exact h.c7
namespace Fd
def sc(k:Nat):Int:=if k=1 then -1 else if k=2 then 1 else 0
def sr(k:Nat):Int:=if k=0 then -1 else if k=3 then 1 else 0
def nb(W H p r:Nat):Nat->List Int
 |0=>[]
 |k+1=>nb W H p r k++(if(0<=(p:Int)+sc k/\(p:Int)+sc k<=(W:Int)-1)/\(0<=(r:Int)+sr k/\(r:Int)+sr k<=(H:Int)-1) then[((r:Int)+sr k)*W+(p+sc k)] else[])
theorem Qh(W H p r k:Nat):(nb W H p r k).length<=k:=by
 induction k with
 |zero=>exact Nat.le_refl _
 |succ k ih=>
  simp only[nb,List.length_append];split
  ·simp;omega
  ·simp;omega
theorem LY{W H a p r:Nat}(hp:p<W)(hr:r<H)(e:W*r+p=a):nb W H p r 4=(if 0<r then[(a:Int)-W] else[])++((if 0<p then[(a:Int)-1] else[])++((if p+1<W then[(a:Int)+1] else[])++(if r+1<H then[(a:Int)+W] else[]))):=by
 have e1:(a:Int)=W*r+p:=by rw[<-e];simp
 have e2:((r:Int)+ -1)*W=W*r-W:=by rw[Int.add_mul,Int.mul_comm (r:Int) W];omega
 have e3:((r:Int)+1)*W=W*r+W:=by rw[Int.add_mul,Int.mul_comm (r:Int) W];omega
 have e4:((r:Int)+0)*W=W*r:=by rw[Int.add_zero,Int.mul_comm (r:Int) W]
 simp only[nb,List.nil_append,List.append_assoc];rw[show sc 0=0 from rfl,show sc 1= -1 from rfl,show sc 2=1 from rfl,show sc 3=0 from rfl,show sr 0= -1 from rfl,show sr 1=0 from rfl,show sr 2=0 from rfl,show sr 3=1 from rfl,e2,e3,e4]
 congr 1
 ·by_cases h:0<r
  ·rw[if_pos (by omega),if_pos h];congr 1;omega
  ·rw[if_neg (by omega),if_neg h]
 ·congr 1
  ·by_cases h:0<p
   ·rw[if_pos (by omega),if_pos h];congr 1;omega
   ·rw[if_neg (by omega),if_neg h]
  ·congr 1
   ·by_cases h:p+1<W
    ·rw[if_pos (by omega),if_pos h];congr 1;omega
    ·rw[if_neg (by omega),if_neg h]
   ·by_cases h:r+1<H
    ·rw[if_pos (by omega),if_pos h];congr 1;omega
    ·rw[if_neg (by omega),if_neg h]
end Fd
theorem Tc(w:World):(Instr.index 303 (.agg #[int i64 0,int i64 (-1),int i64 (-1),int i64 0,int i64 1,int i64 0,int i64 0,int i64 1]) (int i64 0)).run Tryz.prog w=.ok (.agg #[int i64 0,int i64 (-1)]) w:=by kernel_rfl
theorem Td(w:World):(Instr.index 303 (.agg #[int i64 0,int i64 (-1),int i64 (-1),int i64 0,int i64 1,int i64 0,int i64 0,int i64 1]) (int i64 1)).run Tryz.prog w=.ok (.agg #[int i64 (-1),int i64 0]) w:=by kernel_rfl
theorem Tf(w:World):(Instr.index 303 (.agg #[int i64 0,int i64 (-1),int i64 (-1),int i64 0,int i64 1,int i64 0,int i64 0,int i64 1]) (int i64 2)).run Tryz.prog w=.ok (.agg #[int i64 1,int i64 0]) w:=by kernel_rfl
theorem Ti(w:World):(Instr.index 303 (.agg #[int i64 0,int i64 (-1),int i64 (-1),int i64 0,int i64 1,int i64 0,int i64 0,int i64 1]) (int i64 3)).run Tryz.prog w=.ok (.agg #[int i64 0,int i64 1]) w:=by kernel_rfl
theorem LZ(k:Nat)(hk:k<4)(w:World):(Instr.index 303 (.agg #[int i64 0,int i64 (-1),int i64 (-1),int i64 0,int i64 1,int i64 0,int i64 0,int i64 1]) (int i64 (k:Nat))).run Tryz.prog w=.ok (.agg #[int i64 (Fd.sc k),int i64 (Fd.sr k)]) w:=by
 have h:k=0\/k=1\/k=2\/k=3:=by omega
 rcases h with rfl|rfl|rfl|rfl
 ·exact Tc w
 ·exact Td w
 ·exact Tf w
 ·exact Ti w
theorem u_(v:Value)(W H:Nat)(gs os:List Int)(a:Nat)(w:World)(h:Fl w v W H gs os)(G:Fd.Good W H gs os)(ha:a<W*H)(hs:Sd w):
  Calls Tryz.prog 237 #[v,int i64 (a:Nat)] w λe w'=>∃u,e=.returned u/\Ow w' w.heap.size u (Fd.near W H a)/\Below w.heap.size w w':=by
 have F0:=aj (h);have S0:=aj (hs);obtain⟨u1,u2,rfl,⟨a1,c,rfl,c1,c2,ca⟩,⟨b1,d,rfl,d1,d2,cb⟩⟩:=h;have gp:=G.pos.2;have W1:0<W:=G.w1;have W2:=G.w2;have H1:0<H:=G.h1;have H2:=G.h2;have A1:a<=144:=by omega
 have r1:=Nat.div_lt_of_lt_mul ha;have p1:=Nat.mod_lt a W1;have Ea:=aj (Nat.div_add_mod a W);have En:Hid (Fd.near W H a=(if 0<a/W then[(a:Int)-W] else[])++((if 0<a%W then[(a:Int)-1] else[])++((if a%W+1<W then[(a:Int)+1] else[])++(if a/W+1<H then[(a:Int)+W] else[])))):=rfl;obtain⟨p,hp⟩:∃c,a%W=c:=⟨_,rfl⟩;obtain⟨r,hr⟩:∃c,a/W=c:=⟨_,rfl⟩;rw[hp,hr] at En Ea;rw[hp] at p1;rw[hr] at r1;have Pa:Hid (a%W=p/\a/W=r):=⟨hp,hr⟩;clear hp hr hs ca cb G ha gp;go_enter Tryz.func237,Tryz.ntmps237;go_wp2_with fail
 refine(wV W a p r _ W1 W2 A1 Pa.out.1 Pa.out.2).mono ?_;rintro e w3 ⟨rfl,q3,hq3⟩;have B3:Hid (Below w.heap.size w w3):=by rw[hq3];exact _root_.Go.below_drewN ((Below.refl _ _).alloc (Nat.le_refl _) _) _
 have X3:Hid (Bf w3 w.heap.size W H (slice a1 gs.length c) (slice b1 os.length d)):=by
  rw[hq3];have h0:=Bf.mk' (w:=w) W H (slice a1 gs.length c) (slice b1 os.length d) rfl;exact h0.below (_root_.Go.below_drewN (Below.refl _ _) _) h0.lt
 have S3:=aj (S0.out.below B3.out);clear hq3;obtain⟨x0,x1,x2,x3⟩:=X3.out;obtain⟨s0,s1,s2,s3,s4,s5,s6,s7⟩:=S3.out;go_wp2_with fail
 have Z3:=aj (X3.out.lt);clear s0 s1 s2 s3 s4 s5 s6 s7 S3 S0 x0 x1 x2 x3;go_loopw [5,20] (λv i W'=>∃k:Nat,k<=4/\i=int i64 (k:Nat)/\Ow W' (w.heap.size+1) v (Fd.nb W H p r k)/\Bf W' w.heap.size W H (slice a1 gs.length c) (slice b1 os.length d)/\Below w.heap.size w W') (λ_ i _=>4-(intOf i).toNat)
 case atStart=>exact⟨0,Nat.zero_le _,rfl,Ow.nil _ _,X3,B3⟩
 case round=>
  obtain⟨k,hk,rfl,ho,hx,hb⟩:=hrel;clear X3 B3 Z3;have O:=aj (ho);have X:=aj (hx);have B:=aj (hb);clear ho hx hb;by_cases h0:k=4
  ·subst h0
   have YE:Hid (Fd.near W H a=Fd.nb W H p r 4):=by unfold Hid;rw[En.out,Fd.LY p1 r1 Ea.out]
   go_wp2;go_ret;exact⟨_,rfl,by rw[YE.out];exact O.out.mono (Nat.le_succ _),B⟩
  ·have hk4:k<4:=by omega
   have hi:=LZ k hk4;have l1: -1<=Fd.sc k/\Fd.sc k<=1:=by unfold Fd.sc;split<;>(try split)<;>omega
   have l2: -1<=Fd.sr k/\Fd.sr k<=1:=by unfold Fd.sr;split<;>(try split)<;>omega
   have Ek:Hid (Fd.nb W H p r (k+1)=Fd.nb W H p r k++(if(0<=(p:Int)+Fd.sc k/\(p:Int)+Fd.sc k<=(W:Int)-1)/\(0<=(r:Int)+Fd.sr k/\(r:Int)+Fd.sr k<=(H:Int)-1) then[((r:Int)+Fd.sr k)*W+(p+Fd.sc k)] else[])):=rfl;have Ll:=aj (Fd.Qh W H p r k);generalize Fd.sc k=sc at *;generalize Fd.sr k=sr at *;generalize Fd.nb W H p r k=xs at *;obtain⟨l11,l12⟩:=l1;obtain⟨l21,l22⟩:=l2;go_wp2;go_quiet (fail);clear hi;have k5:Below _ wr ((wr.alloc (Obj.cells #[int i64 sc,int i64 sr] 302)).drewN nq):=_root_.Go.below_drewN ((Below.refl _ _).alloc (Nat.le_refl _) _) _;generalize (wr.alloc _).drewN nq=w5 at *;have O5:=aj (O.out.below k5);have X5:=aj (X.out.below k5 X.out.lt);have B5:=aj (B.out.trans (k5.mono B.out.size));clear k5 O X B;obtain⟨x0,x1,x2,x3⟩:=X5.out;by_cases hc:0<=(p:Int)+sc/\(p:Int)+sc<=(W:Int)-1
   ·by_cases hd:0<=(r:Int)+sr/\(r:Int)+sr<=(H:Int)-1
    ·have Qi:Hid (Fd.nb W H p r (k+1)=xs++[((r:Int)+sr)*W+(p+sc)]):=by
      have:=Ek.out;rw[if_pos ⟨hc,hd⟩] at this;exact this
     clear Ek;obtain⟨C,hC⟩:∃C:Int,(p:Int)+sc=C:=⟨_,rfl⟩;obtain⟨R,hR⟩:∃R:Int,(r:Int)+sr=R:=⟨_,rfl⟩;rw[hC] at hc Qi ⊢;rw[hR] at hd Qi ⊢;obtain⟨hc1,hc2⟩:=hc;obtain⟨hd1,hd2⟩:=hd;have R2:R<=11:=by omega
     have C2:C<=11:=by omega
     clear hC hR l11 l12 l21 l22;have m1:0<=R*(W:Int):=Int.mul_nonneg hd1 (by omega);have m2:R*(W:Int)<=11*12:=Int.mul_le_mul R2 (by omega) (by omega) (by omega);go_wp2_with fail
     refine(fG _ _ _ _ hc1 hc2).mono ?_;rintro e w' ⟨rfl,rfl⟩;go_wp2_with fail
     refine(fG _ _ _ _ hd1 hd2).mono ?_;rintro e w' ⟨rfl,rfl⟩;go_wp2_with (at_builtin;refine gJ _ rfl _ _ rfl _ _ xs rfl (O5.out.alloc _) ⟨w'.heap.size,0,none⟩ (R*W+C) rfl (by simp) (by have:=Ll.out;omega) (by have:=X5.out.lt;simp;omega) ?_);intro g cap w6 o6 g6 a6 l6;have O6:=aj (o6);have hob:∀k,u5.ownBlock=some k->w.heap.size+1<=k:=λk hk=>(O5.out.block k hk).1
     have b6:=((Below.refl _ _).alloc (by have:=X5.out.lt;omega) _).grown g6 (by have:=X5.out.lt;simp;omega) hob;have X6:=aj (X5.out.below b6 (Nat.lt_succ_self _));have B6:=aj (B5.out.trans (b6.mono (Nat.le_succ _)));clear o6 g6 a6 l6 hob b6 x0 x1 x2 x3 m1 m2;go_wp2;go_round
     case rel=>exact⟨k+1,by omega,by go_num,by rw[Qi.out];exact O6,X6,B6⟩
     case measure=>simp[intOf];omega
    ·have Qi:Hid (Fd.nb W H p r (k+1)=xs):=by
      have:=Ek.out;rw[if_neg (λh=>hd h.2),List.append_nil] at this;exact this
     clear Ek;obtain⟨hc1,hc2⟩:=hc;have hd':(r:Int)+sr<0\/(H:Int)-1<(r:Int)+sr:=by omega
     clear hd;go_wp2_with fail
     refine(fG _ _ _ _ hc1 hc2).mono ?_;rintro e w' ⟨rfl,rfl⟩;go_wp2_with fail
     refine(mO _ _ _ _ hd').mono ?_;rintro e w' ⟨rfl,rfl⟩;go_wp2;go_round
     case rel=>exact⟨k+1,by omega,by go_num,by rw[Qi.out];exact O5,X5,B5⟩
     case measure=>simp[intOf];omega
   ·have Qi:Hid (Fd.nb W H p r (k+1)=xs):=by
     have:=Ek.out;rw[if_neg (λh=>hc h.1),List.append_nil] at this;exact this
    clear Ek;have hc':(p:Int)+sc<0\/(W:Int)-1<(p:Int)+sc:=by omega
    clear hc;go_wp2_with fail
    refine(mO _ _ _ _ hc').mono ?_;rintro e w' ⟨rfl,rfl⟩;go_wp2;go_round
    case rel=>exact⟨k+1,by omega,by go_num,by rw[Qi.out];exact O5,X5,B5⟩
    case measure=>simp[intOf];omega
def Bs(w:World)(v:Value)(n:Nat)(nb:Nat->List Int):Prop:=∃x c,v=slice (some x) n c/\n<=c/\c<=9223372036854775807/\∀i,i<n->∃u,w.cell? (x.add i)=some u/\Ro w u (nb i)
theorem Bs.below{w w':World}{v:Value}{n:Nat}{nb:Nat->List Int}(h:Bs w v n nb)(hb:Below w.heap.size w w'):Bs w' v n nb:=by
 obtain⟨x,c,h1,h2,h3,h4⟩:=h;refine⟨x,c,h1,h2,h3,λi hi=>?_⟩;obtain⟨u,hu,hr⟩:=h4 i hi;have:=cell_lt hu;exact⟨u,by rw[hb.cell (p:=x.add i) this];exact hu,hr.below hb⟩
def Ld(w:World)(v:Value)(n:Nat)(nb:Nat->List Int)(ss:List Int):Prop:=∃u1 u2,v=.agg #[u1,u2]/\Bs w u1 n nb/\Ro w u2 ss/\ss.length=n
theorem Ld.below{w w':World}{v:Value}{n:Nat}{nb:Nat->List Int}{ss:List Int}(h:Ld w v n nb ss)(hb:Below w.heap.size w w'):Ld w' v n nb ss:=by
 obtain⟨u1,u2,h1,h2,h3,h4⟩:=h;exact⟨u1,u2,h1,h2.below hb,h3.below hb,h4⟩
structure Bl(w:World)(z:Nat)(u1 u2:Value):Prop where
 c0:w.cell? ⟨z,0,none⟩=some u1
 c1:w.cell? ⟨z,1,none⟩=some u2
theorem Bl.lt{w:World}{z:Nat}{u1 u2:Value}(h:Bl w z u1 u2):z<w.heap.size:=cell_lt h.c0
theorem Bl.mk'{w:World}{z:Nat}(u1 u2:Value)(hz:w.heap.size=z):Bl (w.alloc (.cells #[u1,u2] 296)) z u1 u2:=by
 subst hz;exact⟨by simp,by simp⟩
theorem Bl.below{w w':World}{z B:Nat}{u1 u2:Value}(h:Bl w z u1 u2)(hb:Below B w w')(hz:z<B):Bl w' z u1 u2:=
 ⟨by rw[hb.cell (p:=⟨z,0,none⟩) hz];exact h.c0,by rw[hb.cell (p:=⟨z,1,none⟩) hz];exact h.c1⟩
theorem Bl.kp{w w':World}{z b:Nat}{u1 u2:Value}(h:Bl w z u1 u2)(hk:Kp b w w')(hz:z≠b):Bl w' z u1 u2:=by
 have e:=hk.block z h.lt hz;exact⟨by rw[World.cell?_of_block (w:=w) (a:=⟨z,0,none⟩) e];exact h.c0,by rw[World.cell?_of_block (w:=w) (a:=⟨z,1,none⟩) e];exact h.c1⟩
theorem Cc:(Tryz.prog.info? 23).map (λi=>(i.zero,i.size,i.bytes))=some (some (slice none 0 0),1,24):=by kernel_rfl
theorem GI{ops:Array Oper}{rest:List Oper}{o:Oper}{a:Act}{Q:Exit->Act->World->Prop}(w:World)(hgd:o.guard=none)(s x:Operand)
  (ho:o.op=.call {callee:=.builtin .append,args:= #[s,x],argTypes:= #[158,158]}) (base:Nat) (v:Value) (us:List Value) (hs:a.eval s=v) (hown:w.ownsRow base 23 1 v us.length us)
  (ad:Addr) (u:Value) (hx:a.eval x=slice (some ad) 1 1) (hd:w.cell? ad=some u) (hu:u.oneCell'=true) (hl:us.length<=1000000) (hbase:base<=w.heap.size)
  (h:∀g cap w',w'.ownsRow base 23 1 (slice (some ⟨g,0,none⟩) (us.length+1) cap) (us.length+1) (us++[u])->w.grownBy w' v.ownBlock->(v.ownBlock=some g\/g=w.heap.size)->g<w'.heap.size->wpList Tryz.prog ops Q rest (a.put o.dst (slice (some ⟨g,0,none⟩) (us.length+1) cap)) w'):
  wpList Tryz.prog ops Q (o::rest) a w:=by
 obtain⟨i0,hi,hz0,hz1,hz2⟩:=info_parts Cc;refine wpList_append_lies w hgd s x 158 ho _ 23 i0 _ 1 24 Tryz.underlying158 hi hz0 hz1 hz2 rfl (by decide) v _ _ hs hown ad 1 1 [u] hx rfl ?_ ?_ (by decide) (by unfold maxLen;omega) (by omega) hbase _ rfl ?_
 ·intro j e hj
  match j,hj with
  |0,hj=>simp at hj;subst hj;exact hd
 ·intro e he
  simp at he;subst he;exact hu
 ·intro g cap w' h1 h2 h3 h4
  exact h g _ w' h1 h2 h3 h4
def Apart(u v:Value):Prop:=u.ownBlock=none\/u.ownBlock≠v.ownBlock
theorem Apart.app{u v:Value}{z g n cap:Nat}(h:Apart u v)(hu:∀k,u.ownBlock=some k->k<z)(hg:v.ownBlock=some g\/g=z):Apart u (slice (some ⟨g,0,none⟩) n cap):=by
 rcases h with h|h
 ·exact .inl h
 ·cases hb:u.ownBlock with
  |none=>exact .inl hb
  |some k=>
   refine .inr ?_;intro e;rw[hb] at e;simp only[Value.ownBlock,Option.some.injEq] at e;rcases hg with hg|hg
   ·exact h (by rw[hg,hb,e])
   ·have:=hu k hb
    omega
theorem Apart.fresh{w':World}{u v:Value}{xs:List Int}{z:Nat}(hu:Ow w' z u xs)(hv:∀k,v.ownBlock=some k->k<z):Apart u v:=by
 cases hb:u.ownBlock with
 |none=>exact .inl hb
 |some k=>
  refine .inr λe=>?_
  have h1:=(hu.block k hb).1;rw[hb] at e;have h2:=hv k e.symm;omega
structure oC(w:World)(base:Nat)(v4 v5:Value)(us:List Value)(nb:Nat->List Int)(ss:List Int):Prop where
 o4:w.ownsRow base 23 1 v4 us.length us
 o5:Ow w base v5 ss
 e45:Apart v5 v4
 e54:Apart v4 v5
 each:∀i u,us[i]? =some u->Ow w base u (nb i)/\Apart u v4/\Apart u v5
theorem oC.below{w w':World}{base:Nat}{v4 v5:Value}{us:List Value}{nb:Nat->List Int}{ss:List Int}(h:oC w base v4 v5 us nb ss)(hb:Below w.heap.size w w'):oC w' base v4 v5 us nb ss:=
 ⟨World.ownsRow.kept h.o4 (row:=none) ⟨hb.os,hb.tape,hb.output,hb.size,λk hk _=>hb.block k hk⟩ (by cases v4.ownBlock<;>simp),h.o5.below hb,h.e45,h.e54,λi u hu=>⟨(h.each i u hu).1.below hb,(h.each i u hu).2⟩⟩
theorem oC.kp{w w':World}{base z:Nat}{v4 v5:Value}{us:List Value}{nb:Nat->List Int}{ss:List Int}(h:oC w base v4 v5 us nb ss)(hk:Kp z w w')(hz:z<base):oC w' base v4 v5 us nb ss:=by
 have hg:w.grownBy w' (some z):=⟨hk.os,hk.tape,hk.output,hk.size,λk h1 h2=>hk.block k h1 (λe=>h2 (by rw[e]))⟩;have ne:∀{u:Value} {xs:List Int},Ow w base u xs->u.ownBlock=none\/u.ownBlock≠some z:=λ{u} {xs} ho=>by
  cases hb:u.ownBlock with
  |none=>exact .inl rfl
  |some k=>
   have:=(ho.block k hb).1;exact .inr (by simp;omega)
 have ne4:v4.ownBlock=none\/v4.ownBlock≠some z:=by
  cases hb:v4.ownBlock with
  |none=>exact .inl rfl
  |some k=>
   have:=(World.ownsRow.lt h.o4 k hb).1;exact .inr (by simp;omega)
 exact⟨World.ownsRow.kept h.o4 hg ne4,h.o5.kept hg (ne h.o5),h.e45,h.e54,λi u hu=>⟨(h.each i u hu).1.kept hg (ne (h.each i u hu).1),(h.each i u hu).2⟩⟩
theorem oC.start(w:World)(base:Nat)(nb:Nat->List Int):oC w base (slice none 0 0) (slice none 0 0) [] nb []:=
 ⟨World.ownsRow_nil _ _ _ _,Ow.nil _ _,.inl rfl,.inl rfl,λi u hu=>by simp at hu⟩
theorem oC.bs{w:World}{base n:Nat}{v4 v5:Value}{us:List Value}{nb:Nat->List Int}{ss:List Int}(h:oC w base v4 v5 us nb ss)(hl:us.length=n)(h0:0<n):Bs w v4 n nb:=by
 rcases h.o4.2 with⟨_,e⟩|⟨g,cap,cur,hv,hb,hg,h1,h2,h3,h4⟩
 ·omega
 ·refine⟨⟨g,0,none⟩,cap,by rw[hv,hl],by omega,by unfold maxLen at h2;omega,λi hi=>?_⟩
  obtain⟨u,hu⟩:∃u,us[i]? =some u:=⟨us[i]'(by omega),List.getElem?_eq_getElem _⟩;refine⟨u,?_,(h.each i u hu).1.ro⟩;rw[Addr.add_lit,Nat.zero_add];simp only[World.cell?,hg];rw[<-h4,List.getElem?_take,if_pos (by omega)] at hu;rw[<-Array.getElem?_toList];simpa using hu
theorem oC.list{w w':World}{base g cap:Nat}{v4 v5 u:Value}{us:List Value}{nb:Nat->List Int}{ss:List Int}(h:oC w base v4 v5 us nb ss)(hu:Ow w base u (nb us.length))(a4:Apart u v4)(a5:Apart u v5)
  (ho:w'.ownsRow base 23 1 (slice (some ⟨g,0,none⟩) (us.length+1) cap) (us.length+1) (us++[u])) (hg:w.grownBy w' v4.ownBlock) (hat:v4.ownBlock=some g\/g=w.heap.size):
  oC w' base (slice (some ⟨g,0,none⟩) (us.length+1) cap) v5 (us++[u]) nb ss:=by
 have lt:∀{u:Value} {xs:List Int},Ow w base u xs->∀k,u.ownBlock=some k->k<w.heap.size:=λh k hk=>(h.block k hk).2
 refine⟨by rw[List.length_append];exact ho,h.o5.kept hg h.e45,h.e45.app (lt h.o5) hat,?_,λi e he=>?_⟩
 ·rcases hat with hat|hat
  ·rcases h.e54 with h1|h1
   ·rw[hat] at h1;cases h1
   ·exact .inr (by rw[hat] at h1;exact h1)
  ·refine .inr λe=>?_
   have:=(h.o5.block g (by rw[<-e];rfl)).2;omega
 ·rw[List.getElem?_append] at he
  split at he
  ·have k:=h.each i e he
   exact⟨k.1.kept hg k.2.1,k.2.1.app (lt k.1) hat,k.2.2⟩
  ·rename_i hi
   have hi0:i=us.length:=by
    have:=(List.getElem?_eq_some_iff.1 he).1;simp at this;omega
   subst hi0;simp at he;subst he;exact⟨hu.kept hg a4,a4.app (lt hu) hat,a5⟩
theorem oC.num{w w':World}{base g cap:Nat}{v4 v5:Value}{us:List Value}{nb:Nat->List Int}{ss:List Int}{d:Int}(h:oC w base v4 v5 us nb ss)
  (ho:Ow w' base (slice (some ⟨g,0,none⟩) (ss.length+1) cap) (ss++[d])) (hg:w.grownBy w' v5.ownBlock) (hat:v5.ownBlock=some g\/g=w.heap.size):
  oC w' base v4 (slice (some ⟨g,0,none⟩) (ss.length+1) cap) us nb (ss++[d]):=by
 have lt:∀{u:Value} {xs:List Int},Ow w base u xs->∀k,u.ownBlock=some k->k<w.heap.size:=λh k hk=>(h.block k hk).2
 have lt4:∀k,v4.ownBlock=some k->k<w.heap.size:=λk hk=>(World.ownsRow.lt h.o4 k hk).2
 refine⟨World.ownsRow.kept h.o4 hg h.e54,ho,?_,h.e54.app lt4 hat,λi e he=>?_⟩
 ·rcases hat with hat|hat
  ·rcases h.e45 with h1|h1
   ·rw[hat] at h1;cases h1
   ·exact .inr (by rw[hat] at h1;exact h1)
  ·refine .inr λe=>?_
   have:=lt4 g (by rw[<-e];rfl);omega
 ·have k:=h.each i e he
  exact⟨k.1.kept hg k.2.2,k.2.1,k.2.2.app (lt k.1) hat⟩
theorem L_(v:Value)(W H:Nat)(gs os:List Int)(fl:Bool)(w:World)(h:Fl w v W H gs os)(G:Fd.Good W H gs os)(hs:Sd w):
  Calls Tryz.prog 273 #[v,.bool fl] w λe w'=>∃u1 u2 us,e=.returned (.tuple #[u1,u2,.nilIface])/\us.length=W*H/\oC w' (w.heap.size+1) u1 u2 us (Fd.near W H) (gs.map λg=>Fd.onto g fl)/\Below w.heap.size w w':=by
 have F0:=aj (h);have S0:=aj (hs);have G0:=aj (G);obtain⟨u1,u2,rfl,⟨a1,c,rfl,c1,c2,ca⟩,⟨b1,d,rfl,d1,d2,cb⟩⟩:=h;have gl:=G.gl;have gp:=G.pos;obtain⟨x,rfl,xl,hx⟩:=ca (by intro e;rw[e] at gl;simp at gl;omega);have Hx:=aj (eU hx xl);have gl2:gs.length<=144:=by omega
 have Gl:=aj (gl);clear cb ca hs hx xl G gl gp;go_enter Tryz.func273,Tryz.ntmps273;go_wp2_with fail
 refine(check_any _ W H gs os _ (F0.out.below ((Below.refl _ _).alloc (Nat.le_refl _) _))).mono ?_;rintro e w1 ⟨v1,rfl,hv,hb⟩;have B1:=aj (((Below.refl _ _).alloc (Nat.le_refl _) _).trans (hb.mono (by simp)));have X1:=aj ((Bf.mk' (w:=w) W H (slice (some x) gs.length c) (slice b1 os.length d) rfl).below hb (by simp));rw[Fd.dH G0.out] at hv;clear hb;rcases hv with⟨hz,rfl⟩|⟨hz,rfl⟩
 ·clear hz
  obtain⟨x0,x1,x2,x3⟩:=X1.out;go_wp2_with fail
  clear x0 x1 x2 x3;go_loopw [4,5,18] (λv4 v5 i W'=>∃(k:Nat) (us:List Value),k<=gs.length/\i=int i64 (k:Nat)/\us.length=k/\oC W' (w.heap.size+1) v4 v5 us (Fd.near W H) ((gs.take k).map λg=>Fd.onto g fl)/\Bf W' w.heap.size W H (slice (some x) gs.length c) (slice b1 os.length d)/\Below w.heap.size w W') (λ_ _ i _=>gs.length-(intOf i).toNat)
  case atStart=>exact⟨0,[],Nat.zero_le _,rfl,rfl,oC.start _ _ _,X1,B1⟩
  case round=>
   obtain⟨k,us,hk,rfl,hl,hw,hX,hB⟩:=hrel;clear X1 B1;have D:=aj (hw);have X:=aj (hX);have B:=aj (hB);have Hl:=aj (hl);clear hw hX hB hl;by_cases h0:k=gs.length
   ·subst h0
    go_wp2;go_ret3;refine⟨_,_,us,rfl,by rw[Hl.out,Gl.out],?_,B⟩;have:=D.out;rw[List.take_of_length_le (Nat.le_refl _)] at this;exact this
   ·have hkl:k<gs.length:=by omega
    obtain⟨g,hg⟩:∃g,gs[k]? =some g:=⟨_,List.getElem?_eq_getElem hkl⟩;have cg:wr.cell? (x.add k)=some (int i64 g):=by rw[B.out.cell (p:=x.add k) (by rw[add_block];exact Hx.out.2)];exact Hx.out.1 k g hg
    have Hg:Hid ((gs.take (k+1)).map (λg=>Fd.onto g fl)=(gs.take k).map (λg=>Fd.onto g fl)++[Fd.onto g fl]):=by
     unfold Hid;rw[List.take_succ_eq_append_getElem hkl,List.map_append];rw[List.getElem?_eq_getElem hkl] at hg;injection hg with hg
     rw[hg];rfl
    have Lk:Hid (((gs.take k).map λg=>Fd.onto g fl).length<=144):=by unfold Hid;simp;omega
    have zs:=aj (X.out.lt);obtain⟨x0,x1,x2,x3⟩:=X.out;clear hg;go_wp2_with fail
    refine(u_ _ W H gs os k _ (F0.out.below B.out) G0.out (by rw[<-Gl.out];exact hkl) (S0.out.below B.out)).mono ?_;rintro e w2 ⟨u,rfl,hu,hb2⟩;obtain⟨ua,uc,hue⟩:=hu.len;have a4:=Apart.fresh hu (λk hk=>(World.ownsRow.lt D.out.o4 k hk).2);have a5:=Apart.fresh hu (λk hk=>(D.out.o5.block k hk).2);have A45:Hid (Apart u u4/\Apart u u5):=⟨a4,a5⟩;have ba:Below _ w2 (w2.alloc (Obj.cells #[u] 23)):=(Below.refl _ _).alloc (Nat.le_refl _) _;have U3:Hid (Ow _ (w.heap.size+1) u _):=(hu.mono zs.out).below ba;have D3:=aj ((D.out.below hb2).below ba);have X3:=aj ((X.out.below hb2 X.out.lt).below ba (Nat.lt_of_lt_of_le X.out.lt hb2.size));have B3:=aj ((B.out.trans (hb2.mono B.out.size)).trans (ba.mono (Nat.le_trans B.out.size hb2.size)));have Cd:Hid ((w2.alloc (Obj.cells #[u] 23)).cell? ⟨w2.heap.size,0,none⟩=some u):=by unfold Hid;simp
    have S3:Hid (w.heap.size+1<=(w2.alloc _).heap.size):=X3.out.lt;clear a4 a5 ba hu hb2 D X B zs x0 x1 x2 x3 cg;subst hue;go_wp2_with (at_builtin;refine GI _ rfl _ _ rfl _ _ us rfl D3.out.o4 _ _ rfl Cd.out rfl (by rw[Hl.out];omega) S3.out ?_);intro g4 cap4 w4 o4 gr4 at4 lt4;have D4:=aj (D3.out.list (by rw[Hl.out];exact U3.out) A45.out.1 A45.out.2 o4 gr4 (by simpa using at4));have b4:Below (w.heap.size+1) (w2.alloc (Obj.cells #[slice ua (Fd.near W H k).length uc] 23)) w4:=(Below.refl _ _).grown gr4 S3.out (λk hk=>(World.ownsRow.lt D3.out.o4 k hk).1);have X4:=aj (X3.out.below b4 (Nat.lt_succ_self _));have B4:=aj (B3.out.trans (b4.mono (Nat.le_succ _)));clear o4 gr4 at4 lt4 b4 D3 X3 B3 S3 Cd U3 A45;go_wp2_with fail
    refine(uQ g fl _).mono ?_;rintro e w5 ⟨rfl,rfl⟩;obtain⟨s,hs⟩:∃s,Fd.onto g fl=s:=⟨_,rfl⟩;rw[hs] at Hg ⊢;have ba:Below _ w5 (w5.alloc (Obj.cells #[int i64 s] 3)):=(Below.refl _ _).alloc (Nat.le_refl _) _;have D5:=aj (D4.out.below ba);have X5:=aj (X4.out.below ba X4.out.lt);have B5:=aj (B4.out.trans (ba.mono B4.out.size));have Cd:Hid ((w5.alloc (Obj.cells #[int i64 s] 3)).cell? ⟨w5.heap.size,0,none⟩=some (int i64 s)):=by unfold Hid;simp
    have S5:Hid (w.heap.size+1<=(w5.alloc _).heap.size):=X5.out.lt;clear ba D4 X4 B4 hs;generalize (gs.take k).map _=ss at *;go_wp2_with (at_builtin;refine gJ _ rfl _ _ rfl _ _ ss rfl D5.out.o5 _ s rfl Cd.out (Nat.le_trans Lk.out (by omega)) S5.out ?_);intro g6 cap6 w6 o6 gr6 at6 lt6;have D6:=aj (D5.out.num o6 gr6 (by simpa using at6));have b6:Below (w.heap.size+1) (w5.alloc (Obj.cells #[int i64 s] 3)) w6:=(Below.refl _ _).grown gr6 S5.out (λk hk=>(D5.out.o5.block k hk).1);have X6:=aj (X5.out.below b6 (Nat.lt_succ_self _));have B6:=aj (B5.out.trans (b6.mono (Nat.le_succ _)));clear o6 gr6 at6 lt6 b6 D5 X5 B5 S5 Cd;go_wp2;go_round
    case rel=>exact⟨k+1,us++[slice ua _ uc],by omega,by go_num,by simp[Hl.out],by rw[Hg.out];exact D6,X6,B6⟩
    case measure=>simp[intOf];omega
 ·exact absurd rfl hz
theorem wW:∀args w,(callFunc 274 args).run Tryz.prog w=.ok (.enter 274 args) w:=by
 intro args w;go_simp
theorem wX(x:Int)(b n c:Nat)(a:Option Addr)(w:World)(hb:w.cell? ⟨b,0,none⟩=some (slice a n c))(hn:n<=144):
  Calls Tryz.prog 274 #[int i64 x,.pointer (some ⟨b,0,none⟩)] w λe w'=>e=.returned (.bool (!decide (0<=x/\x<n)))/\w'=w:=by
 by_cases h1:x<0
 ·go_enter Tryz.func274,Tryz.ntmps274
  go_wp2;go_ret;exact⟨by rw[decide_eq_false (by omega)];rfl,rfl⟩
 ·by_cases h2:(n:Int)<=x
  ·go_enter Tryz.func274,Tryz.ntmps274
   go_wp2;go_ret;exact⟨by rw[decide_eq_false (by omega)];rfl,rfl⟩
  ·go_enter Tryz.func274,Tryz.ntmps274
   go_wp2;go_ret;exact⟨rfl,rfl⟩
structure Lw(w:World)(z:Nat)(a b:Value):Prop where
 c0:w.cell? ⟨z,0,none⟩=some a
 c1:w.cell? ⟨z,1,none⟩=some b
 f0:w.frozen? ⟨z,0,none⟩=false
 f1:w.frozen? ⟨z,1,none⟩=false
theorem Lw.mk'{w:World}{z:Nat}{a b:Value}(h:w.heap[z]? =some (.cells #[a,b] 296 (0,0))):Lw w z a b:=
 ⟨by simp[World.cell?,h],by simp[World.cell?,h],by simp[World.frozen?,h],by simp[World.frozen?,h]⟩
theorem look_ok(v u:Value)(W H:Nat)(gs os xs:List Int)(fl:Bool)(w:World)(h:Fl w v W H gs os)(G:Fd.Good W H gs os)(hs:Sd w)(hu:Ro w u xs)(hx:xs.any (λx=> !decide (0<=x/\x<((W*H:Nat):Int)))=false):
  Calls Tryz.prog 256 #[v,.bool fl,u] w λe w'=>(∃v',e=.returned (.tuple #[v',.nilIface])/\Ld w' v' (W*H) (Fd.near W H) (gs.map λg=>Fd.onto g fl))/\Below w.heap.size w w':=by
 have F0:=aj (h);have S0:=aj (hs);have G0:=aj (G);have U0:=aj (hu);have Hx:=aj (hx);obtain⟨u1,u2,rfl,⟨a1,c,rfl,c1,c2,ca⟩,⟨b1,d,rfl,d1,d2,cb⟩⟩:=h;clear hs hu hx ca cb;have Gp:=aj (G.pos.2);have Gq:Hid (0<W*H):=by have:=G.pos.1;unfold Hid;omega
 have Gl:=aj (G.gl);clear G;go_enter Tryz.func256,Tryz.ntmps256;go_wp2_with fail
 have b0:Below w.heap.size w ((w.alloc (Obj.cells #[int i64 W,int i64 H,slice a1 gs.length c,slice b1 os.length d] 25)).alloc (Obj.cells #[slice none 0 0,slice none 0 0] 296)):=((Below.refl _ _).alloc (Nat.le_refl _) _).alloc (by simp) _;refine(L_ _ W H gs os fl _ (F0.out.below b0) G0.out (S0.out.below b0)).mono ?_;rintro e w1 ⟨p1,p2,us,rfl,hus,hD,hb⟩;obtain⟨ss,hss⟩:∃ss,(gs.map λg=>Fd.onto g fl)=ss:=⟨_,rfl⟩;have Sl:Hid (ss.length=W*H):=by unfold Hid;rw[<-hss,List.length_map];exact Gl.out
 have Fb:=aj (hss);rw[hss] at hD;clear hss;have B1:=aj (b0.trans (hb.mono (by simp;omega)));have blk:Hid (w1.heap[w.heap.size+1]? =some (.cells #[slice none 0 0,slice none 0 0] 296 (0,0))):=by
  unfold Hid;rw[hb.block (w.heap.size+1) (by simp)];have:=heap_alloc_new (w.alloc (Obj.cells #[int i64 W,int i64 H,slice a1 gs.length c,slice b1 os.length d] 25)) (Obj.cells #[slice none 0 0,slice none 0 0] 296);simpa using this
 have ba:Below _ w1 (w1.alloc (Obj.cells #[p2] 23)):=(Below.refl _ _).alloc (Nat.le_refl _) _;have YF:=aj (hus);have L2:Hid (oC (w1.alloc (Obj.cells #[p2] 23)) (w.heap.size+1+1+1) p1 p2 us (Fd.near W H) ss):=by
  have:=hD.below ba;unfold Hid;simpa using this
 have hp1:=hD.bs hus (by have:=Gq.out;omega);have hp2:=hD.o5.ro;clear hD hus;have B2:=aj (B1.out.trans (ba.mono B1.out.size));have K2:Hid ((w1.alloc (Obj.cells #[p2] 23)).heap[w.heap.size+1]? =some (.cells #[slice none 0 0,slice none 0 0] 296 (0,0))):=by
  unfold Hid;rw[heap_alloc_old w1 _ (lt_of_block blk.out)];exact blk.out
 have C2:Hid ((w1.alloc (Obj.cells #[p2] 23)).cell? ⟨w1.heap.size,0,none⟩=some p2):=by unfold Hid;simp
 obtain⟨x1,e1,VH,-⟩:=hp1;obtain⟨x2,e2,VI,-⟩:=hp2;subst VH;subst VI;clear hb ba b0 blk B1;go_upto_region 2 with fail
 generalize w1.alloc _=w2 at *;have U2:=aj (U0.out.below B2.out);have c9:=C2.out;have hc:∀m,∀x∈xs,Calls Tryz.prog 274 (#[int i64 x]++ #[.pointer (some ⟨w1.heap.size,0,none⟩)]) (w2.drewN m) λe w'=>e=.returned (.bool (!decide (0<=x/\x<((W*H:Nat):Int))))/\∃q,w'=w2.drewN q:=by
  intro m x _;rw[show(#[int i64 x]++ #[Value.pointer (some ⟨w1.heap.size,0,none⟩)]:Array Value)= #[int i64 x,.pointer (some ⟨w1.heap.size,0,none⟩)] from rfl];refine(wX x _ _ e2 x2 _ ?_ Gp.out).mono ?_
  ·have:=C2.out
   rw[Sl.out] at this;exact this
  ·rintro e w' ⟨h1,h2⟩
   exact⟨h1,m,h2⟩
 have hh:=uK 274 wW u #[.pointer (some ⟨w1.heap.size,0,none⟩)] xs (λx=> !decide (0<=x/\x<((W*H:Nat):Int))) w2 U2.out hc;rw[Hx.out] at hh;have H3:Hid (Calls _ _ #[u,.func (Fn.func 274) _ _] w2 _):=hh;clear hh hc;go_wp2_with fail
 refine Calls.mono H3.out ?_;rintro e w3 ⟨rfl,q,rfl⟩;clear H3;obtain⟨c0,c1,f0,f1⟩:=Lw.mk' (w:=w2.drewN q) K2.out;have L3:Hid (oC (w2.drewN q) _ _ _ us _ ss):=L2.out.below (_root_.Go.below_drewN (Below.refl _ _) _);have B3:Hid (Below _ w (w2.drewN q)):=_root_.Go.below_drewN B2.out _;have c9:(w2.drewN q).cell? _=some _:=C2.out;generalize w2.drewN q=w3 at *;clear B2 L2 K2 C2;go_wp2;refine bodyPost_ret (v:=.tuple #[.agg #[slice (some x1) (W*H) e1,slice x2 ss.length e2],.nilIface]) (by simp[results,Tryz.results256,go_sem,c0,c1]) rfl ?_;have kk:Kp _ w3 ((w3.setCell ⟨w.heap.size+1,0,none⟩ (slice (some x1) (W*H) e1)).setCell ⟨w.heap.size+1,1,none⟩ (slice x2 ss.length e2)):=(Kp.set _ _ _).trans (Kp.set _ _ _);refine⟨⟨_,rfl,?_⟩,(B3.out.setCell (Nat.le_succ _) _).setCell (Nat.le_succ _) _⟩;rw[Fb.out];have D5:=L3.out.kp kk (by omega);exact⟨_,_,rfl,D5.bs YF.out Gq.out,D5.o5.ro,Sl.out⟩
def Qu(w:World)(base:Nat)(v:Value)(xs:List Int):Prop:=∃g off cap cur,v=slice (some ⟨g,off,none⟩) xs.length cap/\base<=g/\w.heap[g]? =some (.cells cur 3 (0,0))/\xs.length<=cap/\cap<=maxLen/\off+cap<=cur.size/\∀(j:Nat) d,xs[j]? =some d->cur[off+j]? =some (int i64 d)
theorem Qu.kept{w w':World}{base:Nat}{v:Value}{xs:List Int}(h:Qu w base v xs)(hk:∀k,base<=k->k<w.heap.size->w'.heap[k]? =w.heap[k]?):Qu w' base v xs:=by
 obtain⟨g,off,cap,cur,h1,h2,h3,h4⟩:=h;exact⟨g,off,cap,cur,h1,h2,by rw[hk g h2 (lt_of_block h3)];exact h3,h4⟩
theorem Qu.below{w w':World}{base:Nat}{v:Value}{xs:List Int}(h:Qu w base v xs)(hb:Below w.heap.size w w'):Qu w' base v xs:=h.kept λk _ hk=>hb.block k hk
theorem Qu.kp{w w':World}{base b:Nat}{v:Value}{xs:List Int}(h:Qu w base v xs)(hk:Kp b w w')(hb:b<base):Qu w' base v xs:=h.kept λk h1 h2=>hk.block k h2 (by omega)
theorem Qu.drewN{w:World}{base:Nat}{v:Value}{xs:List Int}(h:Qu w base v xs)(n:Nat):Qu (w.drewN n) base v xs:=h
theorem Qu.one{w:World}{base z:Nat}(d:Int)(hb:base<=w.heap.size)(hz:w.heap.size=z):Qu (w.alloc (.cells #[int i64 d] 3)) base (slice (some ⟨z,0,none⟩) 1 1) [d]:=by
 subst hz;refine⟨_,0,1,_,rfl,hb,heap_alloc_new w _,Nat.le_refl _,by unfold maxLen;decide,Nat.le_refl _,λj e he=>?_⟩
 match j,he with
 |0,he=>simp at he;subst he;rfl
theorem Qu.first{w:World}{base:Nat}{v:Value}{x:Int}{xs:List Int}(h:Qu w base v (x::xs)):∃g off cap,v=slice (some ⟨g,off,none⟩) (xs.length+1) cap/\xs.length+1<=cap/\cap<=9223372036854775807/\w.cell? ⟨g,off,none⟩=some (int i64 x):=by
 obtain⟨g,off,cap,cur,h1,h2,h3,h4,h5,h6,h7⟩:=h;refine⟨g,off,cap,h1,h4,by unfold maxLen at h5;omega,?_⟩;have:=h7 0 x rfl;simp only[World.cell?,h3];exact this
theorem Qu.rest{w:World}{base:Nat}{v:Value}{x:Int}{xs:List Int}(h:Qu w base v (x::xs)):∃v',Qu w base v' xs/\∀W,(Instr.slice 23 v (some (int i64 1)) none none).run Tryz.prog W=.ok v' W:=by
 obtain⟨g,off,cap,cur,h1,h2,h3,h4,h5,h6,h7⟩:=h;subst h1;obtain⟨i0,hi,hz0,hz1,hz2⟩:=info_parts iW;have hu:Tryz.prog.underlying 23=some (.slice 3):=Tryz.underlying23;have he:Tryz.prog.elem 23=3:=by simp[Program.elem,hu]
 simp only[List.length_cons] at h4 h6;have h5':cap<=9223372036854775807:=by unfold maxLen at h5;omega
 by_cases hc:cap=1
 ·subst hc
  have hx:xs=[]:=List.length_eq_zero_iff.1 (by omega);subst hx;refine⟨slice _ 0 0,⟨g,off,0,cur,rfl,h2,h3,Nat.le_refl _,by omega,by omega,λj d hd=>by simp at hd⟩,λW=>?_⟩;refine(run_slice_l W 23 _ 1 1 (by rw[he];exact hu) _ 1 (by decide) (by decide)).trans ?_;rw[he];simp[sizeOf,typeInfo,hi,hz1,sliced]
 ·refine⟨slice _ _ _,⟨g,off+1,cap-1,cur,rfl,h2,h3,by omega,by omega,by omega,λj d hd=>?_⟩,λW=>?_⟩
  ·have:=h7 (j+1) d (by simpa using hd)
   rwa[show off+(j+1)=off+1+j by omega] at this
  ·refine(run_slice_l W 23 _ (xs.length+1) _ (by rw[he];exact hu) _ 1 (by decide) (by omega)).trans ?_
   rw[he];simp[sizeOf,typeInfo,hi,hz1,sliced,hc,Addr.add_lit]
theorem OM{ops:Array Oper}{rest:List Oper}{o:Oper}{a:Act}{Q:Exit->Act->World->Prop}(w:World)(hgd:o.guard=none)(s x:Operand)
  (ho:o.op=.call {callee:=.builtin .append,args:= #[s,x],argTypes:= #[23,23]}) (base:Nat) (v:Value) (xs:List Int) (hs:a.eval s=v) (hq:Qu w base v xs)
  (ad:Addr) (d:Int) (hx:a.eval x=slice (some ad) 1 1) (hd:w.cell? ad=some (int i64 d)) (hl:xs.length<=1000000) (hbase:base<=w.heap.size)
  (h:∀v' w',Qu w' base v' (xs++[d])->Below base w w'->wpList Tryz.prog ops Q rest (a.put o.dst v') w'):
  wpList Tryz.prog ops Q (o::rest) a w:=by
 obtain⟨i0,hi,hz0,hz1,hz2⟩:=info_parts iW;obtain⟨g,off,cap,cur,h1,h2,h3,h4,h5,h6,h7⟩:=hq;subst h1;have hcell:∀k,k<cur.size->w.cell? ⟨g,k,none⟩=cur[k]? :=λk hk=>by simp[World.cell?,h3]
 refine wpList_append_arg w hgd s x 23 ho 3 i0 _ 1 8 Tryz.underlying23 hi hz0 hz1 hz2 rfl (by decide) g _ _ _ (xs.map (int i64)) hs (by simp) ?_ ad 1 1 [int i64 d] hx rfl ?_ ?_ ?_ (by unfold maxLen;omega) (by omega) ?_ ?_
 ·intro j u hj
  rw[List.getElem?_map] at hj;cases hxj:xs[j]? with
  |none=>rw[hxj] at hj;cases hj
  |some y=>
   rw[hxj] at hj;simp only[Option.map_some,Option.some.injEq] at hj;have hlt:=(List.getElem?_eq_some_iff.1 hxj).1;rw[hcell _ (by omega),h7 j y hxj,hj]
 ·intro j u hj
  match j,hj with
  |0,hj=>simp at hj;subst hj;exact hd
 ·intro u hu
  simp at hu;subst hu;rfl
 ·intro hr j hj
  have hj0:j=0:=by
   have:[int i64 d].length=1:=rfl;omega
  subst hj0;rw[hcell _ (by omega)];refine⟨?_,by simp[World.frozen?,h3]⟩;rw[Array.getElem?_eq_getElem (by omega)];rfl
 ·intro hr
  refine h _ _ ?_ ?_
  ·refine⟨g,off,cap,cur.setIfInBounds (off+xs.length) (int i64 d),by simp,h2,?_,by simpa using hr,h5,by simpa using h6,λj e he=>?_⟩
   ·have:=heap_setCell_same w g (off+xs.length) _ _ (int i64 d) h3
    simpa[World.setCells] using this
   ·rw[List.getElem?_append] at he
    by_cases hj:j<xs.length
    ·rw[if_pos hj] at he
     rw[Array.getElem?_setIfInBounds_ne (by omega)];exact h7 j e he
    ·rw[if_neg hj] at he
     have hj0:j-xs.length=0:=by
      rcases Nat.eq_zero_or_pos (j-xs.length) with h|h
      ·exact h
      ·rw[List.getElem?_eq_none (by simp;omega)] at he;cases he
     rw[hj0] at he;simp at he;subst he;rw[show off+j=off+xs.length by omega,Array.getElem?_setIfInBounds_self_of_lt (by omega)]
  ·simp only[World.setCells,Nat.mul_one]
   exact⟨rfl,rfl,rfl,by simp[World.setCell],λk hk=>Below.heap_setCell _ _ _ _ (by show k≠g;omega)⟩
 ·intro hg v' w' ho' hgr
  refine h _ _ ?_ ((Below.refl _ _).grown hgr hbase (λk hk=>by cases hk));rcases ho'.2 with⟨_,h0⟩|⟨g',cap',cur',e1,e2,e3,e4,e5,e6,e7⟩
  ·omega
  ·refine⟨g',0,cap',cur',by rw[e1];simp,by omega,e3,by simpa using e4,e5,by omega,λj e he=>?_⟩
   rw[Nat.zero_add,<-Array.getElem?_toList];have hj:j<xs.length+1:=by
    have:=(List.getElem?_eq_some_iff.1 he).1;simpa using this
   have:(cur'.toList.take ((xs.length+1)*1))[j]? =some (int i64 e):=by
    rw[e7,show xs.map (int i64)++[int i64 d]=(xs++[d]).map (int i64) by simp,List.getElem?_map,he];rfl
   rw[List.getElem?_take,if_pos (by omega)] at this;exact this
def intCells(ds:List Int):List Value:=ds.map λd=>int i64 d
def Bk(w:World)(b:Nat)(ds:List Int)(r:Array Value):Prop:=w.heap[b]? =some (.cells ((intCells ds).toArray++r) 3 (0,0))
theorem Bk.cell{w:World}{b:Nat}{ds:List Int}{r:Array Value}(h:Bk w b ds r){i:Nat}{d:Int}(hd:ds[i]? =some d):w.cell? ⟨b,i,none⟩=some (int i64 d):=by
 have hi:=(List.getElem?_eq_some_iff.1 hd).1;unfold Bk at h;simp only[World.cell?,h];simp[intCells,Array.getElem?_append,hi];exact(List.getElem?_eq_some_iff.1 hd).2
theorem Bk.thaw{w:World}{b:Nat}{ds:List Int}{r:Array Value}(h:Bk w b ds r)(i:Nat):w.frozen? ⟨b,i,none⟩=false:=by
 unfold Bk at h;simp[World.frozen?,h]
theorem Bk.set{w:World}{b:Nat}{ds:List Int}{r:Array Value}(h:Bk w b ds r)(i:Nat)(d:Int)(hi:i<ds.length):Bk (w.setCell ⟨b,i,none⟩ (int i64 d)) b (ds.set i d) r:=by
 unfold Bk at *;rw[heap_setCell_same w b i _ _ _ h];have e:(intCells (ds.set i d)).toArray=(intCells ds).toArray.setIfInBounds i (int i64 d):=by
  simp[intCells,List.map_set]
 rw[e];have hl:i<(intCells ds).toArray.size:=by simpa[intCells] using hi
 rw[Array.setIfInBounds_append_left hl]
theorem Bk.drewN{w:World}{b:Nat}{ds:List Int}{r:Array Value}(h:Bk w b ds r)(n:Nat):Bk (w.drewN n) b ds r:=h
theorem Bk.kp{w w':World}{b z:Nat}{ds:List Int}{r:Array Value}(h:Bk w b ds r)(hk:Kp z w w')(hne:b≠z):Bk w' b ds r:=by
 unfold Bk at *;rw[hk.block b (lt_of_block h) hne];exact h
theorem Bk.below{w w':World}{b:Nat}{ds:List Int}{r:Array Value}(h:Bk w b ds r)(hb:Below w.heap.size w w'):Bk w' b ds r:=by
 unfold Bk at *;rw[hb.block b (lt_of_block h)];exact h
theorem Bk.lt{w:World}{b:Nat}{ds:List Int}{r:Array Value}(h:Bk w b ds r):b<w.heap.size:=lt_of_block h
theorem Bk.ro{w:World}{b c:Nat}{ds:List Int}{r:Array Value}(h:Bk w b ds r)(h1:ds.length<=c)(h2:c<=9223372036854775807):Ro w (slice (some ⟨b,0,none⟩) ds.length c) ds:=
 ⟨_,c,rfl,h1,h2,λ_=>⟨_,rfl,h.lt,λi d hd=>by rw[Addr.add_lit,Nat.zero_add];exact h.cell hd⟩⟩
theorem Bk.other{w:World}{b:Nat}{ds:List Int}{r:Array Value}(h:Bk w b ds r){g:Nat}(hne:b≠g)(i:Nat)(u:Value):Bk (w.setCell ⟨g,i,none⟩ u) b ds r:=by
 unfold Bk at *;rw[Below.heap_setCell _ _ _ _ hne];exact h
theorem Bk.low{w w':World}{b B:Nat}{ds:List Int}{r:Array Value}(h:Bk w b ds r)(hb:Below B w w')(hB:b<B):Bk w' b ds r:=by
 unfold Bk at *;rw[hb.block b hB];exact h
end Go.Proofs.YtolfphmdmpehdaaGreatDoor
