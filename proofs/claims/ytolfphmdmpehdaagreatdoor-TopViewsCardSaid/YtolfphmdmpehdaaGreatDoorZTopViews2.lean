/- A name's letters, asked rune by rune. Plain mathematics. And more. -/
import Derived.Test.YtolfphmdmpehdaaGreatDoorZTopViews1
import Derived.Test.YtolfphmdmpehdaaGreatDoorShelf
set_option linter.unusedVariables false
set_option linter.unusedSimpArgs false
set_option maxHeartbeats 16000000
set_option maxRecDepth 100000
open Go.Value (int slice)
open Go.IntKind (i64)
open Go.Obj (cells)
open Go.Proofs.Tryz
namespace Go.Proofs.YtolfphmdmpehdaaGreatDoor
namespace Kd
def mO(r:Nat):Bool:=decide ((r:Int)<97)||decide (122<(r:Int))
theorem Lj{r:Nat}(h:128<=r):mO r=true:=by
 unfold mO;rw[decide_eq_true (show(122:Int)<(r:Int) by omega),Bool.or_true]
theorem yS(s:ByteArray)(i:Nat)(h:(s.get! i).toNat<128):Utf8.decode s i=((s.get! i).toNat,1):=by
 unfold Utf8.decode;simp only[Nat.add_zero];rw[if_pos h]
theorem E_(s:ByteArray)(i:Nat)(h:¬(s.get! i).toNat<128):128<=(Utf8.decode s i).1:=by
 unfold Utf8.decode;simp only[Nat.add_zero];rw[if_neg h];simp only[Utf8.runeError];split
 ·split
  ·rename_i h2;exact h2
  ·simp
 ·split
  ·split
   ·rename_i h2
    simp only[Bool.and_eq_true,decide_eq_true_eq] at h2;have:=h2.1;simp only;omega
   ·simp
  ·split
   ·split
    ·rename_i h2
     simp only[Bool.and_eq_true,decide_eq_true_eq] at h2;have:=h2.1;simp only;omega
    ·simp
   ·simp
theorem yT(b:UInt8)(h:b.toNat<128):mO b.toNat= !iF b:=by
 unfold mO iF;by_cases h1:97<=b.toNat
 ·by_cases h2:b.toNat<=122
  ·rw[decide_eq_true h1,decide_eq_true h2,decide_eq_false (show ¬(b.toNat:Int)<97 by omega),decide_eq_false (show ¬122<(b.toNat:Int) by omega)];rfl
  ·rw[decide_eq_true h1,decide_eq_false h2,decide_eq_false (show ¬(b.toNat:Int)<97 by omega),decide_eq_true (show 122<(b.toNat:Int) by omega)];rfl
 ·rw[decide_eq_false h1,decide_eq_true (show(b.toNat:Int)<97 by omega)];rfl
theorem get_at(s:ByteArray)(i:Nat)(h:i<s.size):s.get! i=s.data.toList[i]'h:=by
 show s.data[i]! =_;rw[getElem!_pos s.data i h];simp
theorem uy(s:ByteArray):∀(f pos:Nat),s.size<=pos+f->decide (0<=Lib.idxFuncFrom mO true s f pos)= !((s.data.toList.drop pos).all iF)
 |0,pos,h=>by
  rw[List.drop_eq_nil_of_le (by show s.size<=pos;omega)];rfl
 |f+1,pos,h=>by
  unfold Lib.idxFuncFrom;by_cases hp:pos<s.size
  ·have hl:pos<s.data.toList.length:=hp
   rw[if_pos hp,List.drop_eq_getElem_cons hl,List.all_cons,<-get_at s pos hp];by_cases hb:(s.get! pos).toNat<128
   ·rw[yS s pos hb]
    simp only;rw[yT _ hb];cases hi:iF (s.get! pos) with
    |true=>
     rw[if_neg (by simp),Bool.true_and];exact uy s f _ (by omega)
    |false=>
     rw[if_pos (by simp),decide_eq_true (by omega)];simp
   ·rw[if_pos (Lj (E_ s pos hb)),decide_eq_true (by omega)]
    have:iF (s.get! pos)=false:=by
     unfold iF;rw[decide_eq_false (show ¬(s.get! pos).toNat<=122 by omega),Bool.and_false]
    rw[this];rfl
  ·rw[if_neg hp,List.drop_eq_nil_of_le (by show s.size<=pos;omega)]
   rfl
theorem Fa(s:ByteArray):decide (0<=Lib.idxFunc mO true s)= !(s.data.toList.all iF):=by
 have:=uy s s.size 0 (by omega);rw[List.drop_zero] at this;exact this
end Kd
section
open Go.RowKit
variable {W:WV} {a:Act} {at_ kd pl:Int} {base base' n z:Nat} {c0 c1 c2 c3 c4 c5 c6 c7 c8 u v:Value} {k:KV} {ks:List KV} {o:Oper} {ops:Array Oper} {rest:List Oper} {row:Option Nat} {w w':World}
theorem Zx:∀args w,(callFunc 239 args).run prog w=.ok (.enter 239 args) w:=by
 intro args w;go_simp
theorem Lm(x:Nat)(w:World):
  Calls prog 239 #[.int .i32 (x:Int)] w λe w'=>e=.returned (.bool (Kd.mO x))/\w'=w:=by
 unfold Kd.mO;by_cases h1:(x:Int)<97
 ·go_enter func239,ntmps239
  go_wp2;go_ret;exact⟨by first|(simp;done)|(simp;omega),rfl⟩
 ·by_cases h2:122<(x:Int)
  ·go_enter func239,ntmps239
   go_wp2;go_ret;exact⟨by first|(simp;done)|(simp;omega),rfl⟩
  ·go_enter func239,ntmps239
   go_wp2;go_ret;exact⟨by first|(simp;done)|(simp;omega),rfl⟩
theorem Bh(s:ByteArray)(w:World):
  Calls prog 240 #[.string s,.func (.func 239) #[] #[]] w λe w'=>e=.returned (.bool (!(s.data.toList.all Kd.iF)))/\Below w.heap.size w w':=by
 have h:=strings_ContainsFunc_grows 239 #[] Zx Kd.mO s w (λW x _ _=>(Lm x W).mono λe w' ⟨h1,h2⟩=>⟨h1,by rw[h2];exact dU _ _⟩);rw[Kd.Fa s] at h;exact h
theorem Fb(s:ByteArray)(w:World)(hb:s.size<=9223372036854775807):
  Calls prog 207 #[.string s] w λe w'=>e=.returned (.bool (Kd.nN s.data.toList))/\Below w.heap.size w w':=by
 have L:Hid (∀w:World,Calls prog 240 #[.string s,.func (.func 239) #[] #[]] w λe w'=>e=.returned (.bool (!(s.data.toList.all Kd.iF)))/\Below w.heap.size w w'):=λw=>Bh s w
 obtain⟨l,hl⟩:∃l,s.data.toList=l:=⟨_,rfl⟩;have Ll:Hid (l.length=s.size):=by unfold Hid;rw[<-hl];rfl
 rw[hl] at L ⊢;clear hl;by_cases h1:1<=s.size/\s.size<=8
 ·obtain⟨h2,h3⟩:=h1
  have E:Hid (Kd.nN l=l.all Kd.iF):=by
   unfold Hid Kd.nN;rw[decide_eq_true (show l.length<=8 by rw[Ll.out];exact h3),Bool.true_and];cases l with
   |nil=>have:=Ll.out;simp at this;omega
   |cons a r=>rfl
  generalize l.all _=b at *;rw[E.out];clear E;go_enter func207,ntmps207;go_wp2_with (go_at_call 128;refine(Bg _ _ _ _ (by omega) (by omega)).mono ?_;rintro e w' ⟨rfl,hw⟩;obtain rfl:=hw.symm);refine(L _).mono ?_;rintro e w1 ⟨rfl,b1⟩;have B1:=aj (b1);clear b1;go_wp2;go_ret;exact⟨by simp,B1⟩
 ·have E:Hid (Kd.nN l=false):=by
   unfold Hid Kd.nN;cases l with
   |nil=>rfl
   |cons a r=>
    rw[decide_eq_false (show ¬(a::r).length<=8 by intro h;have:=Ll.out;simp at this h;omega)];simp
  rw[E.out];go_enter func207,ntmps207;go_wp2_with (go_at_call 128;refine(Js _ _ _ _ (by omega)).mono ?_;rintro e w' ⟨rfl,rfl⟩);go_ret;exact⟨rfl,dU _ _⟩
theorem Wh.none{p:KV->Bool}{r:Int}(h:Wh p ks r):(0<=r/\ks.any p=true)\/(r= -1/\ks.any p=false):=by
 rcases h with h|⟨k,x,rfl,h1,h2,_⟩
 ·exact .inr h
 ·exact .inl ⟨by omega,gK.2 ⟨x,aT h1,h2⟩⟩
theorem Lp(v:Value)(ks:List KV)(k:KV)(w:World)(h:Kl w v ks)(hb:k.b.size<=9223372036854775807):
  Calls prog 162 #[v,k.val] w λe w'=>∃u,e=.returned u/\Er u (Kd.eG (ks.map KV.k) k.k)/\Below w.heap.size w w':=by
 have K0:=aj (h);obtain⟨a,c,rfl,c1,c2,-⟩:=h;have NM:=Fb k.b;have IB:=Wj k;have KF:Hid (Kd.eG (ks.map KV.k) k.k=if Kd.nN k.b.data.toList then(if(ks.any λa=>a.k.name==k.b.data.toList) then 8 else Kd.eu k.ns) else 2):=by
  unfold Hid Kd.eG;rw[List.any_map];rfl
 obtain⟨R,hR⟩:∃R,Kd.eG (ks.map KV.k) k.k=R:=⟨_,rfl⟩;rw[hR] at KF ⊢;clear hR;obtain⟨kb,n0,n1,n2,n3,n4,n5,n6,n7,kf,kt⟩:=k;simp only at hb NM KF;unfold KV.val at IB ⊢;simp only at IB ⊢;have NM':=aj (NM);obtain⟨F,hF⟩:∃F,Kd.eu (KV.ns ⟨kb,n0,n1,n2,n3,n4,n5,n6,n7,kf,kt⟩)=F:=⟨_,rfl⟩;rw[hF] at IB KF;have IB':=aj (IB);have HF:Hid (F=0\/F=1):=by
  unfold Hid;rw[<-hF];unfold Kd.eu;split
  ·exact .inr rfl
  ·split
   ·exact .inr rfl
   ·exact .inl rfl
 clear NM IB hF;go_enter func162,ntmps162;have B1:Hid (Below _ w (w.alloc (cells #[.string kb,int i64 n0,int i64 n1,int i64 n2,int i64 n3,int i64 n4,int i64 n5,int i64 n6,int i64 n7,.bool kf,.bool kt] 77))):=aA;have X1:Hid (Kc (w.alloc (cells #[.string kb,.int _ n0,.int _ n1,.int _ n2,.int _ n3,.int _ n4,.int _ n5,.int _ n6,.int _ n7,.bool kf,.bool kt] 77)) _ _):=Kc.mk' ⟨kb,n0,n1,n2,n3,n4,n5,n6,n7,kf,kt⟩ rfl;go_wp2_with fail
 generalize w.alloc _=w1 at *;refine(NM' _ hb).mono ?_;rintro e w2 ⟨rfl,b2⟩;have B2:=aG B1 b2;have X2:=aj (X1.below b2 X1.lt);clear b2 X1 NM';cases hn:Kd.nN kb.data.toList with
 |false=>
  have E:Hid (R=2):=by unfold Hid;rw[KF.out,hn];rfl
  clear hn;go_wp2;go_ret;exact⟨_,rfl,by rw[E.out];exact Er.no (by decide),B2⟩
 |true=>
  have KF2:Hid (R=if(ks.any λa=>a.k.name==kb.data.toList) then 8 else F):=by unfold Hid;rw[KF.out,hn];rfl
  clear hn KF;have x0:w2.cell? _=some (.string kb):=X2.c0;go_wp2_with fail
  refine(Qn _ ks kb _ (K0.below B2)).mono ?_;rintro e w3 ⟨r,rfl,hr,b3⟩;have B3:=aG B2 b3;have X3:=aj (X2.below b3 X2.lt);clear b3 X2 x0;rcases hr.none with⟨h0,ha⟩|⟨h0,ha⟩
  ·have E:Hid (R=8):=by unfold Hid;rw[KF2.out,if_pos ha]
   clear ha hr;go_wp2;go_ret;exact⟨_,rfl,by rw[E.out];exact Er.no (by decide),B3⟩
  ·have E:Hid (R=F):=by unfold Hid;rw[KF2.out,if_neg (by rw[ha];decide)]
   clear ha hr;subst h0;obtain⟨x0,x1,x2,x3,x4,x5,x6,x7,x8,x9,x10⟩:=X3.out;have x1:w3.cell? ⟨w.heap.size,1,none⟩=some (.int _ n0):=x1;have x2:w3.cell? ⟨w.heap.size,2,none⟩=some (.int _ n1):=x2;have x3:w3.cell? ⟨w.heap.size,3,none⟩=some (.int _ n2):=x3;have x4:w3.cell? ⟨w.heap.size,4,none⟩=some (.int _ n3):=x4;have x5:w3.cell? ⟨w.heap.size,5,none⟩=some (.int _ n4):=x5;have x6:w3.cell? ⟨w.heap.size,6,none⟩=some (.int _ n5):=x6;have x7:w3.cell? ⟨w.heap.size,7,none⟩=some (.int _ n6):=x7;have x8:w3.cell? ⟨w.heap.size,8,none⟩=some (.int _ n7):=x8;have x9:w3.cell? ⟨w.heap.size,9,none⟩=some (.bool kf):=x9;have x10:w3.cell? ⟨w.heap.size,10,none⟩=some (.bool kt):=x10;go_wp2_with fail
   refine(IB' _).mono ?_;rintro e w4 ⟨rfl,b4⟩;have B4:=aG B3 b4;clear b4 IB' x0 x1 x2 x3 x4 x5 x6 x7 x8 x9 x10;rcases HF.out with hF|hF
   ·rw[hF]
    have E2:Hid (R=0):=by unfold Hid;rw[E.out,hF]
    go_wp2;go_ret;exact⟨_,rfl,by rw[E2.out];exact Er.nil,B4⟩
   ·rw[hF]
    have E2:Hid (R=1):=by unfold Hid;rw[E.out,hF]
    go_wp2;go_ret;exact⟨_,rfl,by rw[E2.out];exact Er.no (by decide),B4⟩
theorem Kl.take{a:Option Addr}{c:Nat}(h:Kl w (slice a n c) ks){q:Nat}(hq:q<=ks.length):Kl w (slice a q c) (ks.take q):=by
 obtain⟨a',c',e,h1,h2,h3⟩:=h;injection e with e1 e2 e3
 subst e1 e3;have hl:(ks.take q).length=q:=by rw[dP];omega
 refine⟨a,c,by rw[hl],by rw[hl];omega,h2,λhn=>?_⟩;obtain⟨x,hx,hb,hk⟩:=h3 (by rintro rfl;simp at hn);refine⟨x,hx,hb,λi k hi=>hk i k ?_⟩;rw[eP] at hi;split at hi
 ·exact hi
 ·cases hi
theorem Zy{i:Nat}(h:ks[i]? =some k):Kd.ji ((ks.take i).map KV.k) ((ks.drop i).map KV.k)=if Kd.eG ((ks.take i).map KV.k) k.k=0 then Kd.ji ((ks.take (i+1)).map KV.k) ((ks.drop (i+1)).map KV.k) else Kd.eG ((ks.take i).map KV.k) k.k:=by
 obtain⟨hi,e⟩:=aK.1 h;rw[List.drop_eq_getElem_cons hi,e,List.map_cons,Kd.ji,dM hi,e,kH];rfl
theorem Fg(v:Value)(ks:List KV)(w:World)(h:Kl w v ks)(hb:∀k∈ks,k.b.size<=9223372036854775807):
  Calls prog 120 #[v] w λe w'=>∃u,e=.returned u/\Er u (Kd.bg (ks.map KV.k))/\Below w.heap.size w w':=by
 have K0:=aj (h);have Hb:=aj (hb);obtain⟨R,hR⟩:∃R,Kd.bg (ks.map KV.k)=R:=⟨_,rfl⟩;have HR:=aj (hR);rw[hR];clear hR hb;obtain⟨a,c,rfl,c1,c2,-⟩:=h;by_cases h8:8<ks.length
 ·have E:Hid (R=4):=by unfold Hid;rw[<-HR.out];unfold Kd.bg;rw[if_pos (by simpa using h8)]
  have h8':(8:Int)<(ks.length:Int):=by omega
  go_enter func120,ntmps120;go_wp2;go_ret;exact⟨_,rfl,by rw[E.out];exact Er.no (by decide),dU _ _⟩
 ·have h8':¬(8:Int)<(ks.length:Int):=by omega
  have R1:Hid (Kd.ji [] (ks.map KV.k)=R):=by unfold Hid;rw[<-HR.out];unfold Kd.bg;rw[if_neg (by simpa using h8)]
  go_enter func120,ntmps120;go_wp2_with fail
  go_loopw [12] (λj W'=>∃q:Nat,q<=ks.length/\j=int i64 (q:Nat)/\Kd.ji ((ks.take q).map KV.k) ((ks.drop q).map KV.k)=R/\Below w.heap.size w W') (λj _=>ks.length-(intOf j).toNat)
  case atStart=>exact⟨0,aZ _,rfl,R1,dU _ _⟩
  case round=>
   obtain⟨q,hq,rfl,hg,hb⟩:=hrel;have Gq:=aj (hg);have B:=aj (hb);clear hg hb;by_cases Ak:q=ks.length
   ·have E:Hid (R=0):=by
     unfold Hid;rw[<-Gq.out,Ak,List.drop_of_length_le aN];rfl
    subst Ak;go_wp2;go_ret;exact⟨_,rfl,by rw[E.out];exact Er.nil,B⟩
   ·have hqk:q<ks.length:=by omega
    obtain⟨k,hk⟩:∃k,ks[q]? =some k:=⟨_,aH hqk⟩;have At:Hid (R=if Kd.eG ((ks.take q).map KV.k) k.k=0 then Kd.ji ((ks.take (q+1)).map KV.k) ((ks.drop (q+1)).map KV.k) else Kd.eG ((ks.take q).map KV.k) k.k):=by
     unfold Hid;rw[<-Zy hk];exact Gq.symm
    have K1:=K0.below B;have CK:Hid (∀W:World,Below wr.heap.size wr W->Calls prog 162 #[slice a q c,k.val] W λe w'=>∃u,e=.returned u/\Er u (Kd.eG ((ks.take q).map KV.k) k.k)/\Below W.heap.size W w'):=
     λW hW=>Lp _ (ks.take q) k W ((K1.take hq).below hW) (Hb k (aT hk))
    generalize Kd.eG _ _=F at *;obtain⟨a',c',e,-,-,h3⟩:=K1;injection e with e1 e2 e3
    subst e1 e3;obtain⟨x,rfl,hx1,hx⟩:=h3 (by rintro rfl;simp at hqk);have Yc:=hx q k hk;clear hx h3 e2 hk;obtain⟨kb,n0,n1,n2,n3,n4,n5,n6,n7,kf,kt⟩:=k;obtain⟨q0,q1,q2,q3,q4,q5,q6,q7,q8,q9,q10⟩:=Yc;simp only at q0 q1 q2 q3 q4 q5 q6 q7 q8 q9 q10;unfold KV.val at CK;simp only at CK;go_upto_region 6 with fail
    have B1:Hid (Below _ wr (wr.alloc (cells #[.string kb,int i64 n0,int i64 n1,int i64 n2,int i64 n3,int i64 n4,int i64 n5,int i64 n6,int i64 n7,.bool kf,.bool kt] 77))):=aA;have X1:=Kc.mk' (w:=wr) ⟨kb,n0,n1,n2,n3,n4,n5,n6,n7,kf,kt⟩ rfl;simp only at X1;clear q0 q1 q2 q3 q4 q5 q6 q7 q8 q9 q10;generalize wr.alloc _=w1 at *;obtain⟨x0,x1,x2,x3,x4,x5,x6,x7,x8,x9,x10⟩:=X1;simp only at x0 x1 x2 x3 x4 x5 x6 x7 x8 x9 x10;go_region_with (go_at_call 162;refine Calls.mono (CK _ B1.drew) ?_;rintro e w2 ⟨u,rfl,hu,b2⟩;have Hu:Hid (Er u F):=hu;have B2:Hid (Below wr.heap.size wr w2):=B1.drew.trans (b2.mono B1.drew.size);clear hu b2)
    all_goals
     have B3:=aG B B2;clear B2 CK x0 x1 x2 x3 x4 x5 x6 x7 x8 x9 x10;rcases Hu.out with⟨hF,rfl⟩|⟨hF,rfl⟩
     ·have G2:Hid (Kd.ji ((ks.take (q+1)).map KV.k) ((ks.drop (q+1)).map KV.k)=R):=by
       unfold Hid;have:=At.out;rw[if_pos hF] at this;exact this.symm
      clear At;go_wp2;go_round
      case rel=>exact⟨q+1,by omega,by go_num,G2,B3⟩
      case measure=>simp[intOf];omega
     ·have E:Hid (R=F):=by
       unfold Hid;have:=At.out;rw[if_neg hF] at this;exact this
      have Hf:=aj (hF);clear At;go_wp2;go_ret;exact⟨_,rfl,by rw[E.out];exact Er.no Hf,B3⟩
theorem uz(v f:Value)(ks:List KV)(W:WV)(w:World)(h:Kl w v ks)(hb:∀k∈ks,k.b.size<=9223372036854775807)(hf:Fl w f W.wide W.high W.gs W.os):
  Calls prog 76 #[v,f] w λe w'=>∃u,e=.returned u/\Er u (Wd.ground ks W)/\Below w.heap.size w w':=by
 have K:Hid (Kl w v ks/\∀k∈ks,k.b.size<=9223372036854775807):=⟨h,hb⟩;have F:=aj (hf);obtain⟨u1,u2,rfl,h1,h2⟩:=hf;clear h hb h1 h2;go_enter func76,ntmps76;go_wp2_with fail
 have B0:Hid (Below _ w (w.alloc (cells #[int i64 W.wide,int i64 W.high,u1,u2] 25))):=aA;have X0:Hid (Bf _ w.heap.size W.wide W.high u1 u2):=Bf.mk' W.wide W.high u1 u2 rfl;generalize w.alloc _=w0 at *;refine(Fg _ ks w0 (K.1.below B0) K.2).mono ?_;rintro e w1 ⟨r,rfl,hr,hb1⟩;have B1:=aG B0 hb1;have X1:=aj (X0.below hb1 X0.lt);clear hb1 X0;rcases hr with⟨hz,rfl⟩|⟨hz,rfl⟩
 ·have G:Hid (Wd.ground ks W=Fd.fault W.wide W.high W.gs W.os):=by unfold Hid Wd.ground;rw[if_pos hz]
  obtain⟨c0,c1,c2,c3⟩:=X1.out;clear hz;go_wp2_with fail
  refine(check_any _ W.wide W.high W.gs W.os w1 (F.below B1)).mono ?_;rintro e w2 ⟨r,rfl,hr,hb2⟩;have R:Hid (Er r (Wd.ground ks W)/\Below w.heap.size w w2):=⟨by rw[G.out];exact hr,B1.trans (hb2.mono B1.size)⟩;clear hr hb2 c0 c1 c2 c3;go_wp2;go_ret;exact⟨_,rfl,R.1,R.2⟩
 ·have G:Hid (Er (.iface 85 (int i64 (Kd.bg (ks.map KV.k)))) (Wd.ground ks W)):=by
   unfold Hid Wd.ground;rw[if_neg hz];exact Er.no hz
  clear hz;go_wp2;go_ret;exact⟨_,rfl,G,B1⟩
def qy(W:WV):Int:=if Wd.b_ W=true then 1 else 0
theorem Wp(n:Int)(w:World):Calls prog 122 #[int i64 n] w λe w'=>e=.returned (.bool (Wd.off 0 n))/\w'=w:=by
 go_enter func122,ntmps122;go_wp2_with fail
 refine(dh n 0 1000000 w).mono ?_;rintro e w1 ⟨rfl,rfl⟩;obtain⟨b,hb⟩:∃b,decide (0<=n/\n<=1000000)=b:=⟨_,rfl⟩;have HB:Hid (Wd.off 0 n= !b):=by unfold Hid Wd.off;rw[hb]
 rw[hb];clear hb;go_wp2;go_ret;exact⟨by rw[HB.out];rfl,rfl⟩
theorem Fh(v:Value)(W:WV)(w:World)(h:Wl w v W):
  Calls prog 77 #[v] w λe w'=>∃u,e=.returned u/\Er u (qy W)/\Below w.heap.size w w':=by
 obtain⟨u1,u2,u3,u4,u5,rfl,-,-,h3,-,-⟩:=h;have R3:=aj (h3);obtain⟨a,c,rfl,c1,c2,-⟩:=h3;go_enter func77,ntmps77;go_upto_region 2 with fail
 have B0:Hid (Below _ w (w.alloc (cells #[int i64 W.turn,int i64 W.next,int i64 W.wide,int i64 W.high,u1,u2,slice a W.gold.length c,u4,u5] 29))):=aA;have X0:Hid (Bw _ w.heap.size W u1 u2 (slice a W.gold.length c) u4 u5):=Bw.mk' W _ _ _ _ _ rfl;generalize w.alloc _=w0 at *;obtain⟨x0,x1,-,-,-,-,x6,-,-⟩:=X0.out;obtain⟨t,ht⟩:∃t,decide (0<=W.turn/\W.turn<=1000000)=t:=⟨_,rfl⟩;obtain⟨n,hn⟩:∃n,decide (1<=W.next/\W.next<=1000000)=n:=⟨_,rfl⟩;obtain⟨g,hg⟩:∃g,decide (1<=(W.gold.length:Int)/\(W.gold.length:Int)<=4)=g:=⟨_,rfl⟩;obtain⟨m,hm⟩:∃m,W.gold.any (Wd.off 0)=m:=⟨_,rfl⟩;have HN:Hid (Wd.b_ W=(!t||(!n||(!g||m)))):=by unfold Hid Wd.b_ Wd.off;rw[ht,hn,hg];unfold Wd.off at hm;rw[hm]
 go_wp2_with fail
 refine(dh W.turn 0 1000000 w0).mono ?_;rintro e y1 ⟨rfl,jS⟩;obtain rfl:=jS.symm;rw[ht];cases t with
 |false=>
  go_wp2;go_ret;have EB:Wd.b_ W=true:=by rw[HN.out];rfl
  exact⟨_,rfl,by unfold qy;rw[EB];exact Er.no (by decide),B0⟩
 |true=>
  go_wp2_with fail
  refine(dh W.next 1 1000000 _).mono ?_;rintro e y2 ⟨rfl,jS⟩;obtain rfl:=jS.symm;rw[hn];cases n with
  |false=>
   go_wp2;go_ret;have EB:Wd.b_ W=true:=by rw[HN.out];rfl
   exact⟨_,rfl,by unfold qy;rw[EB];exact Er.no (by decide),B0⟩
  |true=>
   go_wp2_with fail
   refine(dh _ 1 4 _).mono ?_;rintro e y3 ⟨rfl,jS⟩;obtain rfl:=jS.symm;rw[hg];cases g with
   |false=>
    go_wp2;go_ret;have EB:Wd.b_ W=true:=by rw[HN.out];rfl
    exact⟨_,rfl,by unfold qy;rw[EB];exact Er.no (by decide),B0⟩
   |true=>
    go_wp2_with fail
    refine(AA 122 (by intro args w;go_simp) _ #[] W.gold _ _ (R3.below B0) (λq x _=>(Wp x _).mono λe w' ⟨h1,h2⟩=>⟨h1,q,h2⟩)).mono ?_;rintro e y4 ⟨rfl,q,hq⟩;have BQ:Hid (Below w.heap.size w y4):=by rw[hq];exact B0.trans ⟨rfl,rfl,rfl,aU _,λ_ _=>rfl⟩
    clear hq;rw[hm];cases m with
    |false=>
     go_wp2;go_ret;have EB:Wd.b_ W=false:=by rw[HN.out];rfl
     exact⟨_,rfl,by unfold qy;rw[EB];exact Er.nil,BQ⟩
    |true=>
     go_wp2;go_ret;have EB:Wd.b_ W=true:=by rw[HN.out];rfl
     exact⟨_,rfl,by unfold qy;rw[EB];exact Er.no (by decide),BQ⟩
theorem xH{ks:List KV}{W:WV}:∀(l:List aI) (i:Nat),Wd.dY ks W i l=0->∀u∈l,∃j,Wd.bG ks W j u=0
 |[],_,_,u,hu=>by cases hu
 |x::l,i,h,u,hu=>by
  unfold Wd.dY at h;split at h
  ·rename_i h0
   rcases bP.1 hu with rfl|hu
   ·exact⟨i,h0⟩
   ·exact xH l _ h u hu
  ·rename_i h0
   exact absurd h h0
theorem Fj{j:Nat}{u:aI}(h:Wd.bG ks W j u=0):0<=u.kind/\u.kind<(ks.length:Int):=by
 have:Wd.has ks.length u.kind=true:=by
  cases hh:Wd.has ks.length u.kind with
  |true=>rfl
  |false=>
   unfold Wd.bG at h;rw[hh] at h;split at h
   ·cases h
   ·split at h
    ·cases h
    ·rw[if_pos (by simp)] at h
     cases h
 exact of_decide_eq_true this
theorem xI(h:Kd.bg (ks.map KV.k)=0):ks.length<=8:=by
 unfold Kd.bg at h;split at h
 ·cases h
 ·rename_i h8
  rw[lG] at h8;omega
theorem jY(h:Wd.b_ W=false):Wd.off 1 W.next=false/\W.gold.length<=4:=by
 unfold Wd.b_ at h;simp only[Bool.or_eq_false_iff] at h;obtain⟨-,h1,h2,-⟩:=h;refine⟨h1,?_⟩;have:decide (1<=(W.gold.length:Int)/\(W.gold.length:Int)<=4)=true:=by
  cases hh:decide (1<=(W.gold.length:Int)/\(W.gold.length:Int)<=4) with
  |true=>rfl
  |false=>rw[hh] at h2;cases h2
 have:=of_decide_eq_true this;omega
theorem gY(vk vw:Value)(ks:List KV)(W:WV)(w:World)(hk:Kl w vk ks)(hb:∀k∈ks,k.b.size<=9223372036854775807)(hw:Wl w vw W):
  Calls prog 33 #[vk,vw] w λe w'=>∃r,e=.returned r/\Er r (Wd.aP ks W)/\Below w.heap.size w w':=by
 have K:Hid (Kl w vk ks/\∀k∈ks,k.b.size<=9223372036854775807):=⟨hk,hb⟩;have H:=aj (hw);obtain⟨u1,u2,u3,u4,u5,rfl,r1,r2,r3,r4,r5⟩:=hw;obtain⟨p1,q1,rfl,-⟩:=r1;obtain⟨p2,q2,rfl,-⟩:=r2;obtain⟨p3,q3,rfl,-⟩:=r3;obtain⟨p4,q4,rfl,-⟩:=r4;obtain⟨p5,q5,rfl,k51,k52,k53⟩:=r5;have JC:=aj (k53);clear hk hb k53;go_enter func33,ntmps33;go_wp2_with fail
 have B0:Hid (Below _ w (w.alloc (cells #[int i64 W.turn,int i64 W.next,int i64 W.wide,int i64 W.high,slice p1 W.gs.length q1,slice p2 W.os.length q2,slice p3 W.gold.length q3,slice p4 W.us.length q4,slice p5 W.qs.length q5] 29))):=aA;have X0:Hid (Bw _ w.heap.size W (slice p1 W.gs.length q1) (slice p2 W.os.length q2) (slice p3 W.gold.length q3) (slice p4 W.us.length q4) (slice p5 W.qs.length q5)):=Bw.mk' W _ _ _ _ _ rfl;generalize (w.alloc _)=w0 at *;refine(uz _ _ ks W w0 (K.1.below B0) K.2 ⟨_,_,rfl,(H.below B0).slices.1,(H.below B0).slices.2.1⟩).mono ?_;rintro e w1 ⟨r,rfl,hr,hb1⟩;have B1:=aG B0 hb1;have X1:=aj (X0.below hb1 X0.lt);clear hb1 X0 B0;rcases hr with⟨hz,rfl⟩|⟨hz,rfl⟩
 ·have HZ:=aj (hz)
  obtain⟨x0,x1,x2,x3,x4,x5,x6,x7,x8⟩:=X1.out;clear hz;go_wp2_with fail
  refine(Fh _ W w1 (H.below B1)).mono ?_;rintro e w2 ⟨r,rfl,hr,hb2⟩;have B2:=aG B1 hb2;have X2:=aj (X1.below hb2 X1.lt);clear hb2 X1 B1 x0 x1 x2 x3 x4 x5 x6 x7 x8;rcases hr with⟨hn,rfl⟩|⟨hn,rfl⟩
  ·have HN:Hid (Wd.b_ W=false):=by
    unfold Hid;unfold qy at hn;cases h:Wd.b_ W with
    |false=>rfl
    |true=>rw[h] at hn;cases hn
   clear hn;have x7:=X2.c7;by_cases h40:40<W.us.length
   ·have F4:Hid (Wd.aP ks W=4):=by unfold Hid Wd.aP;rw[if_neg (by rw[HZ.out];simp),HN.out,if_neg (by simp),if_pos h40]
    have abS:(40:Int)<(W.us.length:Int):=by omega
    go_wp2;go_ret;exact⟨_,rfl,by rw[F4.out];exact Er.no (by decide),B2⟩
   ·have abS:¬(40:Int)<(W.us.length:Int):=by omega
    have KL:Hid (ks.length<=8):=by
     have:=HZ.out;unfold Wd.ground at this;split at this
     ·rename_i h0
      exact xI h0
     ·rename_i h0
      exact absurd this h0
    have GD:Hid (∃Wn Hn:Nat,W.wide=Wn/\W.high=Hn/\Fd.Good Wn Hn W.gs W.os):=by
     have:=HZ.out;unfold Wd.ground at this;split at this
     ·exact Fd.pF this
     ·rename_i h0
      exact absurd this h0
    obtain⟨Wn,Hn,VZ,hHn,hG⟩:=GD.out;have GG:Hid (W.wide=Wn/\W.high=Hn/\Fd.Good Wn Hn W.gs W.os):=⟨VZ,hHn,hG⟩;have US:Hid (W.us.length<=40):=aj (by omega);have WF:Hid (Wd.dY ks W 0 W.us≠0->Wd.aP ks W=Wd.dY ks W 0 W.us):=λhne=>by unfold Wd.aP;rw[if_neg (by rw[HZ.out];simp),HN.out,if_neg (by simp),if_neg h40,if_pos hne]
    have WG:Hid (Wd.dY ks W 0 W.us=0->Wd.aP ks W=if 12<W.qs.length then 4 else Wd.iW ks W W.qs):=λh0=>by unfold Wd.aP;rw[if_neg (by rw[HZ.out];simp),HN.out,if_neg (by simp),if_neg h40,if_neg (by rw[h0];simp)]
    clear VZ hHn hG h40;go_wp2;clear x7;go_loopw [32] (λiv V=>∃i:Nat,i<=W.us.length/\iv=int i64 (i:Nat)/\Wd.dY ks W i (W.us.drop i)=Wd.dY ks W 0 W.us/\Bw V w.heap.size W (slice p1 W.gs.length q1) (slice p2 W.os.length q2) (slice p3 W.gold.length q3) (slice p4 W.us.length q4) (slice p5 W.qs.length q5)/\Below w.heap.size w V) (λiv _=>W.us.length-(intOf iv).toNat)
    case atStart=>exact⟨0,aZ _,rfl,rfl,X2,B2⟩
    case round=>
     obtain⟨i,hi,rfl,hgo,hX,hB⟩:=hrel;have XR:=aj (hX);have BR:=aj (hB);have GO:=aj (hgo);clear hX hB hgo X2 B2;by_cases hil:i=W.us.length
     ·have U0:Hid (Wd.dY ks W 0 W.us=0):=by unfold Hid;rw[<-GO.out,hil,List.drop_length];rfl
      have x8:=XR.c8;subst hil;clear hi;by_cases h12:12<W.qs.length
      ·have F4:Hid (Wd.aP ks W=4):=by unfold Hid;rw[WG.out U0.out,if_pos h12]
       have abT:(12:Int)<(W.qs.length:Int):=by omega
       go_wp2;go_ret;exact⟨_,rfl,by rw[F4.out];exact Er.no (by decide),BR⟩
      ·have abT:¬(12:Int)<(W.qs.length:Int):=by omega
       have FJ:Hid (Wd.aP ks W=Wd.iW ks W W.qs):=by unfold Hid;rw[WG.out U0.out,if_neg h12]
       have ALL:Hid (∀u∈W.us,0<=u.kind/\u.kind<(ks.length:Int)):=λu hu=>by
        obtain⟨j,hj⟩:=xH W.us 0 U0 u hu;exact Fj hj
       go_wp2;clear x8;go_loopw [51] (λiv V=>∃i:Nat,i<=W.qs.length/\iv=int i64 (i:Nat)/\Wd.iW ks W (W.qs.drop i)=Wd.iW ks W W.qs/\Bw V w.heap.size W (slice p1 W.gs.length q1) (slice p2 W.os.length q2) (slice p3 W.gold.length q3) (slice p4 W.us.length q4) (slice p5 W.qs.length q5)/\Below w.heap.size w V) (λiv _=>W.qs.length-(intOf iv).toNat)
       case atStart=>exact⟨0,aZ _,rfl,rfl,XR,BR⟩
       case round=>
        obtain⟨i,hi,rfl,hgo,hX,hB⟩:=hrel;have XR:=aj (hX);have BR:=aj (hB);have GO:=aj (hgo);clear hX hB hgo;by_cases hil:i=W.qs.length
        ·have J0:Hid (Wd.aP ks W=0):=by unfold Hid;rw[FJ.out,<-GO.out,hil,List.drop_length];rfl
         subst hil;clear hi;go_wp2;go_ret;exact⟨_,rfl,by rw[J0.out];exact Er.nil,BR⟩
        ·have hlt:i<W.qs.length:=by omega
         have hli:(i:Int)<(W.qs.length:Int):=by omega
         obtain⟨j,hj⟩:∃j,W.qs[i]? =some j:=⟨_,aH hlt⟩;obtain⟨x,rfl,hx,hcell⟩:=JC (by intro e;rw[e] at hlt;simp at hlt);obtain⟨d0,d1,d2,d3⟩:=(hcell i j hj).below BR (by rw[add_block];exact hx);have GA:Hid (Wd.iW ks W W.qs=if Wd.aY ks W j=0 then Wd.iW ks W (W.qs.drop (i+1)) else Wd.aY ks W j):=by unfold Hid;rw[<-GO.out,Wd.K_ hj]
         obtain⟨x0,x1,x2,x3,x4,x5,x6,x7,x8⟩:=XR.out;clear hcell hx hj hil;go_upto_region 21 with fail
         have BA:Hid (Below _ wr (wr.alloc (cells #[int i64 j.ay,int i64 j.unit,int i64 j.kind,int i64 j.left] 93))):=aA;have J1:Hid (nI _ ⟨wr.heap.size,0,none⟩ j):=nI.mk' j rfl;generalize (wr.alloc _)=w5 at *;have B5:=aG BR BA;have X5:=aj (XR.below BA XR.lt);clear d0 d1 d2 d3 x0 x1 x2 x3 x4 x5 x6 x7 x8 XR BR BA;obtain⟨x0,x1,x2,x3,x4,x5,x6,x7,x8⟩:=X5.out;obtain⟨j0,j1,j2,j3⟩:=J1.out;generalize wr.heap.size=zj at *;simp only[aO] at j1 j2 j3;go_wp2_with fail
         refine(V_ _ _ ks W j w5 (K.1.below B5) (H.below B5) US KL ALL).mono ?_;rintro e w6 ⟨r,rfl,hr,hb6⟩;have B6:=aG B5 hb6;have X6:=aj (X5.below hb6 X5.lt);clear hb6 x0 x1 x2 x3 x4 x5 x6 x7 x8 j0 j1 j2 j3 X5 B5 J1;rcases hr with⟨h0,rfl⟩|⟨h0,rfl⟩
         ·have G2:Hid (Wd.iW ks W (W.qs.drop (i+1))=Wd.iW ks W W.qs):=by unfold Hid;rw[GA.out,if_pos h0]
          clear h0;go_wp2;go_roundw
          case rel=>exact⟨i+1,by omega,rfl,G2,X6,B6⟩
          case measure=>simp[intOf];omega
         ·have FB:Hid (Wd.aP ks W=Wd.aY ks W j):=by unfold Hid;rw[FJ.out,GA.out,if_neg h0]
          have H0:=aj (h0);clear h0;go_wp2;go_ret;exact⟨_,rfl,by rw[FB.out];exact Er.no H0,B6⟩
     ·have hlt:i<W.us.length:=by omega
      have hli:(i:Int)<(W.us.length:Int):=by omega
      obtain⟨u,hu⟩:∃u,W.us[i]? =some u:=⟨_,aH hlt⟩;have HU:=aj (hu);have GA:Hid (Wd.dY ks W 0 W.us=if Wd.bG ks W i u=0 then Wd.dY ks W (i+1) (W.us.drop (i+1)) else Wd.bG ks W i u):=by unfold Hid;rw[<-GO.out,Wd.EP hu]
      obtain⟨x0,x1,x2,x3,x4,x5,x6,x7,x8⟩:=XR.out;clear hu hil;go_wp2_with fail
      refine(Qg _ _ ks W Wn Hn i u wr (K.1.below BR) (H.below BR) GG.1 GG.2.1 GG.2.2 HU (jY HN).1 US KL (jY HN).2).mono ?_;rintro e w6 ⟨r,rfl,hr,hb6⟩;have B6:=aG BR hb6;have X6:=aj (XR.below hb6 XR.lt);clear hb6 x0 x1 x2 x3 x4 x5 x6 x7 x8 XR BR;rcases hr with⟨h0,rfl⟩|⟨h0,rfl⟩
      ·have G2:Hid (Wd.dY ks W (i+1) (W.us.drop (i+1))=Wd.dY ks W 0 W.us):=by unfold Hid;rw[GA.out,if_pos h0]
       clear h0;go_wp2;go_roundw
       case rel=>exact⟨i+1,by omega,rfl,G2,X6,B6⟩
       case measure=>simp[intOf];omega
      ·have EU:Wd.dY ks W 0 W.us=Wd.bG ks W i u:=by rw[GA.out,if_neg h0]
       have FB:Hid (Wd.aP ks W=Wd.bG ks W i u):=by unfold Hid;rw[WF.out (by rw[EU];exact h0),EU]
       have H0:=aj (h0);clear h0 EU;go_wp2;go_ret;exact⟨_,rfl,by rw[FB.out];exact Er.no H0,B6⟩
  ·have F1:Hid (Wd.aP ks W=qy W):=by
    unfold Hid Wd.aP;unfold qy at hn ⊢;have hbad:Wd.b_ W=true:=by
     cases h:Wd.b_ W with
     |true=>rfl
     |false=>rw[h] at hn;exact absurd rfl hn
    rw[if_neg (by rw[HZ.out];simp),hbad];rfl
   have H0:=aj (hn);clear hn;go_wp2;go_ret;exact⟨_,rfl,by rw[F1.out];exact Er.no H0,B2⟩
 ·have F1:Hid (Wd.aP ks W=Wd.ground ks W):=by unfold Hid Wd.aP;rw[if_pos hz]
  have H0:=aj (hz);clear hz;go_wp2;go_ret;exact⟨_,rfl,by rw[F1.out];exact Er.no H0,B1⟩
theorem yU:(prog.info? 74).map (λi=>(i.zero,i.size,i.bytes))=some (some (.agg #[int i64 0,int i64 0,int i64 0,int i64 0,int i64 0,int i64 0,int i64 0,int i64 0]),8,64):=by kernel_rfl
def aI.cs(k:aI):List Value:=[int i64 k.id,int i64 k.ay,int i64 k.kind,int i64 k.at_,int i64 k.life,int i64 k.load,int i64 k.task,int i64 k.goal]
theorem qA:∀(ks:List aI) (i j:Nat) (k:aI),ks[i]? =some k->j<8->(ks.flatMap aI.cs)[i*8+j]? =k.cs[j]?
 |[],i,j,k,h,_=>by simp at h
 |x::ks,0,j,k,h,hj=>by
  simp at h;subst h;rw[List.flatMap_cons,iV (by simp[aI.cs];omega)];simp
 |x::ks,i+1,j,k,h,hj=>by
  rw[List.flatMap_cons,jy (by simp[aI.cs];omega)];have:(i+1)*8+j-(aI.cs x).length=i*8+j:=by simp[aI.cs];omega
  rw[this];exact qA ks i j k (by simpa using h) hj
def fD(w:World)(base:Nat)(v:Value)(ks:List aI):Prop:=w.ownsRow base 74 8 v ks.length (ks.flatMap aI.cs)
theorem fD.nil(w:World)(base:Nat):fD w base (slice none 0 0) []:=World.ownsRow_nil _ _ _ _
theorem fD.below{ks:List aI}(h:fD w base v ks)(hb:Below w.heap.size w w'):fD w' base v ks:=
 World.ownsRow.kept h (row:=none) ⟨hb.os,hb.tape,hb.output,hb.size,λk hk _=>hb.block k hk⟩ (by cases v.ownBlock<;>simp)
theorem fD.kept{ks:List aI}(h:fD w base v ks)(hg:w.grownBy w' row)(hne:v.ownBlock=none\/v.ownBlock≠row):fD w' base v ks:=World.ownsRow.kept h hg hne
theorem fD.alloc{ks:List aI}(h:fD w base v ks)(o:Obj):fD (w.alloc o) base v ks:=World.ownsRow.alloc h o
theorem fD.block{ks:List aI}(h:fD w base v ks):∀k,v.ownBlock=some k->base<=k/\k<w.heap.size:=World.ownsRow.lt h
theorem fD.mono{ks:List aI}(h:fD w base v ks)(hb:base'<=base):fD w base' v ks:=by
 refine⟨h.1,?_⟩;rcases h.2 with h1|⟨g,cap,cur,h1,h2,h3⟩
 ·exact .inl h1
 ·exact .inr ⟨g,cap,cur,h1,aJ hb h2,h3⟩
theorem fD.l{ks:List aI}(h:fD w base v ks):oP w v ks:=by
 rcases h.2 with⟨hv,h0⟩|⟨g,cap,cur,hv,hb,hg,h1,h2,h3,h4⟩
 ·exact⟨none,0,by rw[hv,h0],by omega,by omega,λhn=>absurd (List.length_eq_zero_iff.1 h0) hn⟩
 ·refine⟨_,cap,hv,h1,by unfold maxLen at h2;omega,λ_=>⟨_,rfl,lt_of_block hg,λi k hi=>?_⟩⟩
  have hil:=(aK.1 hi).1;have h5:w.ownsRow base 74 8 (slice (some ⟨g,0,none⟩) ks.length cap) ks.length (ks.flatMap aI.cs):=by rw[<-hv];exact h
  have hc:∀j u,j<8->k.cs[j]? =some u->w.cell? ⟨g,i*8+j,none⟩=some u:=λj u hj hu=>by
   rw[h5.cellAt (i*8+j) (by omega),qA ks i j k hi hj,hu]
  rw[Addr.add_lit,aO];exact⟨hc 0 _ (by decide) rfl,hc 1 _ (by decide) rfl,hc 2 _ (by decide) rfl,hc 3 _ (by decide) rfl,hc 4 _ (by decide) rfl,hc 5 _ (by decide) rfl,hc 6 _ (by decide) rfl,hc 7 _ (by decide) rfl⟩
theorem fD.len{ks:List aI}(h:fD w base v ks):∃a c,v=slice a ks.length c:=by
 obtain⟨a,c,h1,-⟩:=h.l;exact⟨a,c,h1⟩
theorem Zz{Q:Exit->Act->World->Prop}(w:World)(hgd:o.guard=none)(s x:Operand)
  (ho:o.op=.call {callee:=.builtin .append,args:= #[s,x],argTypes:= #[26,26]}) (base:Nat) (v:Value) (ks:List aI) (hs:a.eval s=v) (hown:fD w base v ks)
  (b:Nat) (d:aI) (hx:a.eval x=slice (some ⟨b,0,none⟩) 1 1) (hd:fA w ⟨b,0,none⟩ d) (hl:ks.length<=1000000000) (hbase:base<=w.heap.size)
  (h:∀g cap w',fD w' base (slice (some ⟨g,0,none⟩) (ks.length+1) cap) (ks++[d])->w.grownBy w' v.ownBlock->(v.ownBlock=some g\/g=w.heap.size)->g<w'.heap.size->wpList prog ops Q rest (a.put o.dst (slice (some ⟨g,0,none⟩) (ks.length+1) cap)) w'):
  wpList prog ops Q (o::rest) a w:=by
 obtain⟨i0,hi,hz0,hz1,hz2⟩:=info_parts yU;refine wpList_append_lies w hgd s x 26 ho _ 74 i0 _ 8 64 underlying26 hi hz0 hz1 hz2 rfl (by decide) v _ _ hs hown _ 1 1 d.cs hx rfl ?_ ?_ (by decide) (by unfold maxLen;omega) (by omega) hbase _ rfl ?_
 ·intro j u hj
  have hjn:j<8:=(aK.1 hj).1;rw[Addr.add_lit,aO]
  match j,hjn,hj with
  |0,_,hj=>simp[aI.cs] at hj;subst hj;exact hd.c0
  |1,_,hj=>simp[aI.cs] at hj;subst hj;exact hd.c1
  |2,_,hj=>simp[aI.cs] at hj;subst hj;exact hd.c2
  |3,_,hj=>simp[aI.cs] at hj;subst hj;exact hd.c3
  |4,_,hj=>simp[aI.cs] at hj;subst hj;exact hd.c4
  |5,_,hj=>simp[aI.cs] at hj;subst hj;exact hd.c5
  |6,_,hj=>simp[aI.cs] at hj;subst hj;exact hd.c6
  |7,_,hj=>simp[aI.cs] at hj;subst hj;exact hd.c7
 ·intro u hu
  simp[aI.cs] at hu;rcases hu with rfl|rfl|rfl|rfl|rfl|rfl|rfl|rfl<;>rfl
 ·intro g cap w' h1 h2 h3 h4
  refine h g _ w' ?_ h2 h3 h4;unfold fD;rw[aC,fM];simpa using h1
theorem yV:(prog.info? 93).map (λi=>(i.zero,i.size,i.bytes))=some (some (.agg #[int i64 0,int i64 0,int i64 0,int i64 0]),4,32):=by kernel_rfl
def bM.cs(k:bM):List Value:=[int i64 k.ay,int i64 k.unit,int i64 k.kind,int i64 k.left]
theorem qB:∀(ks:List bM) (i j:Nat) (k:bM),ks[i]? =some k->j<4->(ks.flatMap bM.cs)[i*4+j]? =k.cs[j]?
 |[],i,j,k,h,_=>by simp at h
 |x::ks,0,j,k,h,hj=>by
  simp at h;subst h;rw[List.flatMap_cons,iV (by simp[bM.cs];omega)];simp
 |x::ks,i+1,j,k,h,hj=>by
  rw[List.flatMap_cons,jy (by simp[bM.cs];omega)];have:(i+1)*4+j-(bM.cs x).length=i*4+j:=by simp[bM.cs];omega
  rw[this];exact qB ks i j k (by simpa using h) hj
def fB(w:World)(base:Nat)(v:Value)(ks:List bM):Prop:=w.ownsRow base 93 4 v ks.length (ks.flatMap bM.cs)
theorem fB.nil(w:World)(base:Nat):fB w base (slice none 0 0) []:=World.ownsRow_nil _ _ _ _
theorem fB.below{ks:List bM}(h:fB w base v ks)(hb:Below w.heap.size w w'):fB w' base v ks:=
 World.ownsRow.kept h (row:=none) ⟨hb.os,hb.tape,hb.output,hb.size,λk hk _=>hb.block k hk⟩ (by cases v.ownBlock<;>simp)
theorem fB.kept{ks:List bM}(h:fB w base v ks)(hg:w.grownBy w' row)(hne:v.ownBlock=none\/v.ownBlock≠row):fB w' base v ks:=World.ownsRow.kept h hg hne
theorem fB.alloc{ks:List bM}(h:fB w base v ks)(o:Obj):fB (w.alloc o) base v ks:=World.ownsRow.alloc h o
theorem fB.block{ks:List bM}(h:fB w base v ks):∀k,v.ownBlock=some k->base<=k/\k<w.heap.size:=World.ownsRow.lt h
theorem fB.mono{ks:List bM}(h:fB w base v ks)(hb:base'<=base):fB w base' v ks:=by
 refine⟨h.1,?_⟩;rcases h.2 with h1|⟨g,cap,cur,h1,h2,h3⟩
 ·exact .inl h1
 ·exact .inr ⟨g,cap,cur,h1,aJ hb h2,h3⟩
theorem fB.l{ks:List bM}(h:fB w base v ks):VF w v ks:=by
 rcases h.2 with⟨hv,h0⟩|⟨g,cap,cur,hv,hb,hg,h1,h2,h3,h4⟩
 ·exact⟨none,0,by rw[hv,h0],by omega,by omega,λhn=>absurd (List.length_eq_zero_iff.1 h0) hn⟩
 ·refine⟨_,cap,hv,h1,by unfold maxLen at h2;omega,λ_=>⟨_,rfl,lt_of_block hg,λi k hi=>?_⟩⟩
  have hil:=(aK.1 hi).1;have h5:w.ownsRow base 93 4 (slice (some ⟨g,0,none⟩) ks.length cap) ks.length (ks.flatMap bM.cs):=by rw[<-hv];exact h
  have hc:∀j u,j<4->k.cs[j]? =some u->w.cell? ⟨g,i*4+j,none⟩=some u:=λj u hj hu=>by
   rw[h5.cellAt (i*4+j) (by omega),qB ks i j k hi hj,hu]
  rw[Addr.add_lit,aO];exact⟨hc 0 _ (by decide) rfl,hc 1 _ (by decide) rfl,hc 2 _ (by decide) rfl,hc 3 _ (by decide) rfl⟩
theorem fB.len{ks:List bM}(h:fB w base v ks):∃a c,v=slice a ks.length c:=by
 obtain⟨a,c,h1,-⟩:=h.l;exact⟨a,c,h1⟩
theorem Fp{Q:Exit->Act->World->Prop}(w:World)(hgd:o.guard=none)(s x:Operand)
  (ho:o.op=.call {callee:=.builtin .append,args:= #[s,x],argTypes:= #[27,27]}) (base:Nat) (v:Value) (ks:List bM) (hs:a.eval s=v) (hown:fB w base v ks)
  (b:Nat) (d:bM) (hx:a.eval x=slice (some ⟨b,0,none⟩) 1 1) (hd:nI w ⟨b,0,none⟩ d) (hl:ks.length<=1000000000) (hbase:base<=w.heap.size)
  (h:∀g cap w',fB w' base (slice (some ⟨g,0,none⟩) (ks.length+1) cap) (ks++[d])->w.grownBy w' v.ownBlock->(v.ownBlock=some g\/g=w.heap.size)->g<w'.heap.size->wpList prog ops Q rest (a.put o.dst (slice (some ⟨g,0,none⟩) (ks.length+1) cap)) w'):
  wpList prog ops Q (o::rest) a w:=by
 obtain⟨i0,hi,hz0,hz1,hz2⟩:=info_parts yV;refine wpList_append_lies w hgd s x 27 ho _ 93 i0 _ 4 32 underlying27 hi hz0 hz1 hz2 rfl (by decide) v _ _ hs hown _ 1 1 d.cs hx rfl ?_ ?_ (by decide) (by unfold maxLen;omega) (by omega) hbase _ rfl ?_
 ·intro j u hj
  have hjn:j<4:=(aK.1 hj).1;rw[Addr.add_lit,aO]
  match j,hjn,hj with
  |0,_,hj=>simp[bM.cs] at hj;subst hj;exact hd.c0
  |1,_,hj=>simp[bM.cs] at hj;subst hj;exact hd.c1
  |2,_,hj=>simp[bM.cs] at hj;subst hj;exact hd.c2
  |3,_,hj=>simp[bM.cs] at hj;subst hj;exact hd.c3
 ·intro u hu
  simp[bM.cs] at hu;rcases hu with rfl|rfl|rfl|rfl<;>rfl
 ·intro g cap w' h1 h2 h3 h4
  refine h g _ w' ?_ h2 h3 h4;unfold fB;rw[aC,fM];simpa using h1
def Wo(w:World)(base:Nat)(v:Value)(W:WV):Prop:=∃u1 u2 u3 u4 u5,v=.agg #[int i64 W.turn,int i64 W.next,int i64 W.wide,int i64 W.high,u1,u2,u3,u4,u5]/\Ow w base u1 W.gs/\Ow w base u2 W.os/\Ow w base u3 W.gold/\fD w base u4 W.us/\fB w base u5 W.qs
theorem Wo.l(h:Wo w base v W):Wl w v W:=by
 obtain⟨u1,u2,u3,u4,u5,h1,h2,h3,h4,h5,h6⟩:=h;exact⟨u1,u2,u3,u4,u5,h1,h2.ro,h3.ro,h4.ro,h5.l,h6.l⟩
theorem Wo.below(h:Wo w base v W)(hb:Below w.heap.size w w'):Wo w' base v W:=by
 obtain⟨u1,u2,u3,u4,u5,h1,h2,h3,h4,h5,h6⟩:=h;exact⟨u1,u2,u3,u4,u5,h1,h2.below hb,h3.below hb,h4.below hb,h5.below hb,h6.below hb⟩
theorem Wo.mono(h:Wo w base v W)(hb:base'<=base):Wo w base' v W:=by
 obtain⟨u1,u2,u3,u4,u5,h1,h2,h3,h4,h5,h6⟩:=h;exact⟨u1,u2,u3,u4,u5,h1,h2.mono hb,h3.mono hb,h4.mono hb,h5.mono hb,h6.mono hb⟩
theorem iR{T:TypeId}{size:Nat}{cs:List Value}(h:w.ownsRow base T size u n cs)(k:Kp z w w')(hz:z<base):w'.ownsRow base T size u n cs:=by
 refine⟨h.1,?_⟩;rcases h.2 with h1|⟨g,cap,cur,h1,h2,h3,h4⟩
 ·exact .inl h1
 ·exact .inr ⟨g,cap,cur,h1,h2,(k.block g (lt_of_block h3) (by omega)).trans h3,h4⟩
theorem Ow.kp{xs:List Int}(h:Ow w base u xs)(k:Kp z w w')(hz:z<base):Ow w' base u xs:=iR h k hz
theorem fD.kp{xs:List aI}(h:fD w base u xs)(k:Kp z w w')(hz:z<base):fD w' base u xs:=iR h k hz
theorem fB.kp{xs:List bM}(h:fB w base u xs)(k:Kp z w w')(hz:z<base):fB w' base u xs:=iR h k hz
theorem Wo.kp(h:Wo w base v W)(k:Kp z w w')(hz:z<base):Wo w' base v W:=by
 obtain⟨u1,u2,u3,u4,u5,h1,h2,h3,h4,h5,h6⟩:=h;exact⟨u1,u2,u3,u4,u5,h1,h2.kp k hz,h3.kp k hz,h4.kp k hz,h5.kp k hz,h6.kp k hz⟩
def fK(u v:Value):Prop:=∀k,u.ownBlock=some k->v.ownBlock≠some k
theorem fK.symm(h:fK u v):fK v u:=λk h1 h2=>h k h2 h1
theorem fK.ne(h:fK u v):u.ownBlock=none\/u.ownBlock≠v.ownBlock:=by
 cases e:u.ownBlock with
 |none=>exact .inl rfl
 |some k=>exact .inr (λh2=>h k e h2.symm)
theorem fK.of(hu:∀k,u.ownBlock=some k->k<n)(hv:∀k,v.ownBlock=some k->n<=k):fK u v:=λk h1 h2=>by have:=hu k h1;have:=hv k h2;omega
def Wi(w:World)(base:Nat)(v:Value)(W:WV):Prop:=∃u1 u2 u3 u4 u5,v=.agg #[int i64 W.turn,int i64 W.next,int i64 W.wide,int i64 W.high,u1,u2,u3,u4,u5]/\(Ow w base u1 W.gs/\Ow w base u2 W.os/\Ow w base u3 W.gold/\fD w base u4 W.us/\fB w base u5 W.qs)/\fK u1 u2/\fK u1 u3/\fK u1 u4/\fK u1 u5/\fK u2 u3/\fK u2 u4/\fK u2 u5/\fK u3 u4/\fK u3 u5/\fK u4 u5
theorem Wi.wo(h:Wi w base v W):Wo w base v W:=by
 obtain⟨u1,u2,u3,u4,u5,h1,⟨h2,h3,h4,h5,h6⟩,-⟩:=h;exact⟨u1,u2,u3,u4,u5,h1,h2,h3,h4,h5,h6⟩
theorem Wi.mono(h:Wi w base v W)(hb:base'<=base):Wi w base' v W:=by
 obtain⟨u1,u2,u3,u4,u5,h1,⟨h2,h3,h4,h5,h6⟩,hd⟩:=h;exact⟨u1,u2,u3,u4,u5,h1,⟨h2.mono hb,h3.mono hb,h4.mono hb,h5.mono hb,h6.mono hb⟩,hd⟩
theorem Wl.kp{a:World}(h:Wl a v W)(hb:Below a.heap.size a w)(k:Kp z w w')(hz:a.heap.size<=z):Wl w' v W:=h.below (k.below hb hb.size hz)
def Wx(w:World)(z:Nat)(c0 c1 c2 c3 c4 c5 c6 c7 c8:Value):Prop:=w.heap[z]? =some (.cells #[c0,c1,c2,c3,c4,c5,c6,c7,c8] 29 (0,0))
theorem Wx.lt(h:Wx w z c0 c1 c2 c3 c4 c5 c6 c7 c8):z<w.heap.size:=lt_of_block h
theorem Wx.cells(h:Wx w z c0 c1 c2 c3 c4 c5 c6 c7 c8):w.cell? ⟨z,0,none⟩=some c0/\w.cell? ⟨z,1,none⟩=some c1/\w.cell? ⟨z,2,none⟩=some c2/\w.cell? ⟨z,3,none⟩=some c3/\w.cell? ⟨z,4,none⟩=some c4/\w.cell? ⟨z,5,none⟩=some c5/\w.cell? ⟨z,6,none⟩=some c6/\w.cell? ⟨z,7,none⟩=some c7/\w.cell? ⟨z,8,none⟩=some c8:=by
 unfold Wx at h;refine⟨?_,?_,?_,?_,?_,?_,?_,?_,?_⟩<;>simp[World.cell?,h]
theorem Wx.thaw(h:Wx w z c0 c1 c2 c3 c4 c5 c6 c7 c8)(i:Nat):w.frozen? ⟨z,i,none⟩=false:=by
 unfold Wx at h;simp[World.frozen?,h]
theorem Wx.cO(h:Wx w z c0 c1 c2 c3 c4 c5 c6 c7 c8):w.frozen? ⟨z,0,none⟩=false/\w.frozen? ⟨z,1,none⟩=false/\w.frozen? ⟨z,2,none⟩=false/\w.frozen? ⟨z,3,none⟩=false/\w.frozen? ⟨z,4,none⟩=false/\w.frozen? ⟨z,5,none⟩=false/\w.frozen? ⟨z,6,none⟩=false/\w.frozen? ⟨z,7,none⟩=false/\w.frozen? ⟨z,8,none⟩=false:=⟨h.thaw 0,h.thaw 1,h.thaw 2,h.thaw 3,h.thaw 4,h.thaw 5,h.thaw 6,h.thaw 7,h.thaw 8⟩
theorem Wx.new(c0 c1 c2 c3 c4 c5 c6 c7 c8:Value)(hz:w.heap.size=z):Wx (w.alloc (.cells #[c0,c1,c2,c3,c4,c5,c6,c7,c8] 29)) z c0 c1 c2 c3 c4 c5 c6 c7 c8:=by
 subst hz;exact heap_alloc_new _ _
theorem Wx.below(h:Wx w z c0 c1 c2 c3 c4 c5 c6 c7 c8)(hb:Below n w w')(hn:z<n):Wx w' z c0 c1 c2 c3 c4 c5 c6 c7 c8:=(hb.block z hn).trans h
theorem Wx.kp{y:Nat}(h:Wx w z c0 c1 c2 c3 c4 c5 c6 c7 c8)(k:Kp y w w')(hn:z≠y):Wx w' z c0 c1 c2 c3 c4 c5 c6 c7 c8:=(k.block z h.lt hn).trans h
theorem Wx.drew(h:Wx w z c0 c1 c2 c3 c4 c5 c6 c7 c8):Wx w.drew z c0 c1 c2 c3 c4 c5 c6 c7 c8:=h
theorem Wx.set0(h:Wx w z c0 c1 c2 c3 c4 c5 c6 c7 c8)(u:Value):Wx (w.setCell ⟨z,0,none⟩ u) z u c1 c2 c3 c4 c5 c6 c7 c8:=by
 exact heap_setCell_same w z 0 _ _ u h
theorem Wx.set1(h:Wx w z c0 c1 c2 c3 c4 c5 c6 c7 c8)(u:Value):Wx (w.setCell ⟨z,1,none⟩ u) z c0 u c2 c3 c4 c5 c6 c7 c8:=by
 exact heap_setCell_same w z 1 _ _ u h
theorem Wx.set2(h:Wx w z c0 c1 c2 c3 c4 c5 c6 c7 c8)(u:Value):Wx (w.setCell ⟨z,2,none⟩ u) z c0 c1 u c3 c4 c5 c6 c7 c8:=by
 exact heap_setCell_same w z 2 _ _ u h
theorem Wx.Ls(h:Wx w z c0 c1 c2 c3 c4 c5 c6 c7 c8)(u:Value):Wx (w.setCell ⟨z,3,none⟩ u) z c0 c1 c2 u c4 c5 c6 c7 c8:=by
 exact heap_setCell_same w z 3 _ _ u h
theorem Wx.Wq(h:Wx w z c0 c1 c2 c3 c4 c5 c6 c7 c8)(u:Value):Wx (w.setCell ⟨z,4,none⟩ u) z c0 c1 c2 c3 u c5 c6 c7 c8:=by
 exact heap_setCell_same w z 4 _ _ u h
theorem Wx.Qp(h:Wx w z c0 c1 c2 c3 c4 c5 c6 c7 c8)(u:Value):Wx (w.setCell ⟨z,5,none⟩ u) z c0 c1 c2 c3 c4 u c6 c7 c8:=by
 exact heap_setCell_same w z 5 _ _ u h
theorem Wx.Qq(h:Wx w z c0 c1 c2 c3 c4 c5 c6 c7 c8)(u:Value):Wx (w.setCell ⟨z,6,none⟩ u) z c0 c1 c2 c3 c4 c5 u c7 c8:=by
 exact heap_setCell_same w z 6 _ _ u h
theorem Wx.Bj(h:Wx w z c0 c1 c2 c3 c4 c5 c6 c7 c8)(u:Value):Wx (w.setCell ⟨z,7,none⟩ u) z c0 c1 c2 c3 c4 c5 c6 u c8:=by
 exact heap_setCell_same w z 7 _ _ u h
theorem Wx.Lu(h:Wx w z c0 c1 c2 c3 c4 c5 c6 c7 c8)(u:Value):Wx (w.setCell ⟨z,8,none⟩ u) z c0 c1 c2 c3 c4 c5 c6 c7 u:=by
 exact heap_setCell_same w z 8 _ _ u h
theorem Wx.put(h:Wx w z c0 c1 c2 c3 c4 c5 c6 c7 c8)(e0 e1 e2 e3 e4 e5 e6 e7 e8:Value):Wx (((((((((w.setCell ⟨z,0,none⟩ e0).setCell ⟨z,1,none⟩ e1).setCell ⟨z,2,none⟩ e2).setCell ⟨z,3,none⟩ e3).setCell ⟨z,4,none⟩ e4).setCell ⟨z,5,none⟩ e5).setCell ⟨z,6,none⟩ e6).setCell ⟨z,7,none⟩ e7).setCell ⟨z,8,none⟩ e8) z e0 e1 e2 e3 e4 e5 e6 e7 e8:=(((((((((h.set0 e0).set1 e1).set2 e2).Ls e3).Wq e4).Qp e5).Qq e6).Bj e7).Lu e8)
theorem dG(w:World)(z:Nat)(e0 e1 e2 e3 e4 e5 e6 e7 e8:Value):Kp z w (((((((((w.setCell ⟨z,0,none⟩ e0).setCell ⟨z,1,none⟩ e1).setCell ⟨z,2,none⟩ e2).setCell ⟨z,3,none⟩ e3).setCell ⟨z,4,none⟩ e4).setCell ⟨z,5,none⟩ e5).setCell ⟨z,6,none⟩ e6).setCell ⟨z,7,none⟩ e7).setCell ⟨z,8,none⟩ e8):=
 ((((((((Kp.set w 0 e0).trans (Kp.set _ 1 e1)).trans (Kp.set _ 2 e2)).trans (Kp.set _ 3 e3)).trans (Kp.set _ 4 e4)).trans (Kp.set _ 5 e5)).trans (Kp.set _ 6 e6)).trans (Kp.set _ 7 e7)).trans (Kp.set _ 8 e8)
theorem Wx.nJ(h:Wx w z c0 c1 c2 c3 c4 c5 c6 c7 c8):Wx (((((((((w.setCell ⟨z,0,none⟩ (int i64 0)).setCell ⟨z,1,none⟩ (int i64 0)).setCell ⟨z,2,none⟩ (int i64 0)).setCell ⟨z,3,none⟩ (int i64 0)).setCell ⟨z,4,none⟩ (slice none 0 0)).setCell ⟨z,5,none⟩ (slice none 0 0)).setCell ⟨z,6,none⟩ (slice none 0 0)).setCell ⟨z,7,none⟩ (slice none 0 0)).setCell ⟨z,8,none⟩ (slice none 0 0)) z (int i64 0) (int i64 0) (int i64 0) (int i64 0) (slice none 0 0) (slice none 0 0) (slice none 0 0) (slice none 0 0) (slice none 0 0):=h.put _ _ _ _ _ _ _ _ _
theorem fH(w:World)(z:Nat):Kp z w (((((((((w.setCell ⟨z,0,none⟩ (int i64 0)).setCell ⟨z,1,none⟩ (int i64 0)).setCell ⟨z,2,none⟩ (int i64 0)).setCell ⟨z,3,none⟩ (int i64 0)).setCell ⟨z,4,none⟩ (slice none 0 0)).setCell ⟨z,5,none⟩ (slice none 0 0)).setCell ⟨z,6,none⟩ (slice none 0 0)).setCell ⟨z,7,none⟩ (slice none 0 0)).setCell ⟨z,8,none⟩ (slice none 0 0)):=dG _ _ _ _ _ _ _ _ _ _ _
theorem uD(w:World)(c0 c1 c2 c3 c4 c5 c6 c7 c8:Value):Hid (Below w.heap.size w ((w.alloc (cells #[c0,c1,c2,c3,c4,c5,c6,c7,c8] 29)).alloc (cells #[int i64 0,int i64 0,int i64 0,int i64 0,slice none 0 0,slice none 0 0,slice none 0 0,slice none 0 0,slice none 0 0] 29)))/\Hid (Wx ((w.alloc (cells #[c0,c1,c2,c3,c4,c5,c6,c7,c8] 29)).alloc (cells #[int i64 0,int i64 0,int i64 0,int i64 0,slice none 0 0,slice none 0 0,slice none 0 0,slice none 0 0,slice none 0 0] 29)) w.heap.size c0 c1 c2 c3 c4 c5 c6 c7 c8)/\Hid (Wx ((w.alloc (cells #[c0,c1,c2,c3,c4,c5,c6,c7,c8] 29)).alloc (cells #[int i64 0,int i64 0,int i64 0,int i64 0,slice none 0 0,slice none 0 0,slice none 0 0,slice none 0 0,slice none 0 0] 29)) (w.heap.size+1) (int i64 0) (int i64 0) (int i64 0) (int i64 0) (slice none 0 0) (slice none 0 0) (slice none 0 0) (slice none 0 0) (slice none 0 0)):=
 ⟨aA.alloc (by simp) _,(Wx.new (w:=w) _ _ _ _ _ _ _ _ _ rfl).below aA (by simp),Wx.new _ _ _ _ _ _ _ _ _ (by simp)⟩
structure aa0(W:WV):Prop where
 g:W.gs.length<=100000000
 o:W.os.length<=100000000
 p:W.gold.length<=100000000
 u:W.us.length<=100000000
 q:W.qs.length<=100000000
namespace Wd
def bV(ks:List KV)(W:WV)(pl kd at_:Int):Int:=
 if 40<=(W.us.length:Int)\/1000000<=W.next then 4
 else if ¬(0<=pl/\pl<(W.gold.length:Int))\/¬(0<=kd/\kd<(ks.length:Int)) then 1
 else if ¬(0<=at_/\at_<(W.gs.length:Int)) then 6
 else match ks[kd.toNat]? with
  |some k=>if open_ W.gs W.us at_ k.f=false then 7 else 0
  |none=>1
theorem pf4(h:40<=(W.us.length:Int)\/1000000<=W.next):bV ks W pl kd at_=4:=by unfold bV;rw[if_pos h]
theorem pf1(h:¬(40<=(W.us.length:Int)\/1000000<=W.next))(h1:¬(0<=pl/\pl<(W.gold.length:Int))\/¬(0<=kd/\kd<(ks.length:Int))):bV ks W pl kd at_=1:=by unfold bV;rw[if_neg h,if_pos h1]
theorem pf6(h:¬(40<=(W.us.length:Int)\/1000000<=W.next))(h1:0<=pl/\pl<(W.gold.length:Int))(h2:0<=kd/\kd<(ks.length:Int))(h3:¬(0<=at_/\at_<(W.gs.length:Int))):bV ks W pl kd at_=6:=by unfold bV;rw[if_neg h,if_neg (by omega),if_pos h3]
theorem pfk(h:¬(40<=(W.us.length:Int)\/1000000<=W.next))(h1:0<=pl/\pl<(W.gold.length:Int))(h2:0<=kd/\kd<(ks.length:Int))(h3:0<=at_/\at_<(W.gs.length:Int))(hk:ks[kd.toNat]? =some k):bV ks W pl kd at_=if open_ W.gs W.us at_ k.f=false then 7 else 0:=by unfold bV;rw[if_neg h,if_neg (by omega),if_neg (by omega),hk]
end Wd
structure bH(ks:List KV)(W:WV):Prop where
 kinds:Kd.bg (ks.map KV.k)=0
 good:∃Wn Hn:Nat,W.wide=Wn/\W.high=Hn/\Fd.Good Wn Hn W.gs W.os
 nums:Wd.b_ W=false
 ul:W.us.length<=40
 units:Wd.dY ks W 0 W.us=0
 ql:W.qs.length<=12
 jobs:Wd.iW ks W W.qs=0
theorem bY(h:Wd.aP ks W=0):bH ks W:=by
 unfold Wd.aP at h;by_cases h0:Wd.ground ks W=0
 ·rw[if_neg (by rw[h0];simp)] at h
  cases h1:Wd.b_ W with
  |true=>rw[h1,if_pos rfl] at h;cases h
  |false=>
   rw[h1,if_neg (by simp)] at h;by_cases h2:40<W.us.length
   ·rw[if_pos h2] at h;cases h
   ·rw[if_neg h2] at h
    by_cases h3:Wd.dY ks W 0 W.us=0
    ·rw[if_neg (by rw[h3];simp)] at h
     by_cases h4:12<W.qs.length
     ·rw[if_pos h4] at h;cases h
     ·rw[if_neg h4] at h
      unfold Wd.ground at h0;by_cases h5:Kd.bg (ks.map KV.k)=0
      ·rw[if_pos h5] at h0
       exact⟨h5,Fd.pF h0,h1,by omega,h3,by omega,h⟩
      ·rw[if_neg h5] at h0;exact absurd h0 h5
    ·rw[if_pos h3] at h;exact absurd h h3
 ·rw[if_pos h0] at h;exact absurd h h0
theorem bH.len(h:bH ks W):aa0 W:=by
 obtain⟨Wn,Hn,-,-,G⟩:=h.good;have h1:=G.pos;have h2:=G.gl;have h3:=G.ol;have h4:=(jY h.nums).2;have h5:=h.ul;have h6:=h.ql;exact⟨by omega,by omega,by omega,by omega,by omega⟩
namespace Wd
def fV(ks:List KV)(W:WV)(pl kd at_:Int):Int:=if aP ks W=0 then bV ks W pl kd at_ else aP ks W
def oC(ks:List KV)(W:WV)(pl kd at_:Int):aI:=⟨W.next,pl,kd,at_,(match ks[kd.toNat]? with|some k=>k.n0|none=>0),0,0,0⟩
def put(ks:List KV)(W:WV)(pl kd at_:Int):WV:={W with next:=W.next+1,us:=W.us++[oC ks W pl kd at_]}
def placed(ks:List KV)(W:WV)(pl kd at_:Int):WV:=if fV ks W pl kd at_=0 then put ks W pl kd at_ else WV.zero
end Wd
theorem uF(h:Wd.fV ks W pl kd at_≠0):Wd.placed ks W pl kd at_=WV.zero:=by unfold Wd.placed;rw[if_neg h]
theorem oD(h:Wd.fV ks W pl kd at_=0):Wd.placed ks W pl kd at_=Wd.put ks W pl kd at_:=by unfold Wd.placed;rw[if_pos h]
theorem oG(w:World)(base:Nat):Wo w base (.agg #[int i64 0,int i64 0,int i64 0,int i64 0,slice none 0 0,slice none 0 0,slice none 0 0,slice none 0 0,slice none 0 0]) WV.zero:=⟨_,_,_,_,_,rfl,Ow.nil _ _,Ow.nil _ _,Ow.nil _ _,fD.nil _ _,fB.nil _ _⟩
theorem Jt(h:Wd.bV ks W pl kd at_=0):¬(40<=(W.us.length:Int)\/1000000<=W.next)/\(0<=pl/\pl<(W.gold.length:Int))/\(0<=at_/\at_<(W.gs.length:Int))/\∃kn k,kd=((kn:Nat):Int)/\kn<ks.length/\ks[kn]? =some k/\Wd.open_ W.gs W.us at_ k.f=true:=by
 unfold Wd.bV at h;split at h
 ·cases h
 ·rename_i h1
  split at h
  ·cases h
  ·rename_i h2
   split at h
   ·cases h
   ·rename_i h3
    split at h
    ·rename_i k hk
     split at h
     ·cases h
     ·rename_i h4
      have hl:=(aK.1 hk).1;exact⟨h1,by omega,by omega,kd.toNat,k,by omega,hl,hk,by simpa using h4⟩
    ·cases h
end
section
variable {W:WV} {a b:Bool} {i:Nat} {ks:List KV} {u:aI}
namespace Wd
theorem jZ{ks:List KV}{W:WV}:∀(l:List aI) (i:Nat),dY ks W i l=0↔∀(j:Nat) (u:aI),l[j]? =some u->bG ks W (i+j) u=0
 |[],i=>by
  constructor
  ·intro _ j u h;simp at h
  ·intro _;rfl
 |x::l,i=>by
  unfold dY;constructor
  ·intro h
   split at h
   ·rename_i h0
    intro j u hj;cases j with
    |zero=>simp at hj;subst hj;exact h0
    |succ j=>
     have:=(jZ l (i+1)).1 h j u (by simpa using hj);rwa[show i+1+j=i+(j+1) by omega] at this
   ·rename_i h0;exact absurd h h0
  ·intro h
   rw[if_pos (show bG ks W i x=0 from h 0 x rfl)];refine(jZ l _).2 λj u hj=>?_
   have:=h (j+1) u (by simpa using hj);rwa[show i+(j+1)=i+1+j by omega] at this
theorem kV{ks:List KV}{W:WV}:∀(l:List bM),iW ks W l=0↔∀j∈l,aY ks W j=0
 |[]=>by
  constructor
  ·intro _ j h;cases h
  ·intro _;rfl
 |x::l=>by
  unfold iW;constructor
  ·intro h
   split at h
   ·rename_i h0
    intro j hj;rcases bP.1 hj with rfl|hj
    ·exact h0
    ·exact(kV l).1 h j hj
   ·rename_i h0;exact absurd h h0
  ·intro h
   rw[if_pos (h x (List.mem_cons_self ..))];exact(kV l).2 λj hj=>h j (List.mem_cons_of_mem _ hj)
theorem abU(h:¬(!a)=true):a=true:=by cases a<;>simp_all
theorem aa1(h:¬(!a|| !b)=true):a=true/\b=true:=by cases a<;>cases b<;>simp_all
theorem abV{c:Bool}(h:¬(!a||(!b|| !c))=true):a=true/\b=true/\c=true:=by cases a<;>cases b<;>cases c<;>simp_all
theorem abW(h:¬(!a||b)=true):a=true/\b=false:=by cases a<;>cases b<;>simp_all
structure Qr(ks:List KV)(W:WV)(i:Nat)(u:aI)(k:KV):Prop where
 id1:1<=u.id
 id2:u.id<=W.next-1
 up:dF W.us i u=false
 p:0<=u.ay/\u.ay<(W.gold.length:Int)
 k0:0<=u.kind/\u.kind<(ks.length:Int)
 kk:ks[u.kind.toNat]? =some k
 life:1<=u.life/\u.life<=k.n0
 load:0<=u.load/\u.load<=k.n7
 task:0<=u.task/\u.task<=2
 at_:0<=u.at_/\u.at_<(W.gs.length:Int)
 goal:0<=u.goal/\u.goal<(W.gs.length:Int)
 opn:open_ W.gs (W.us.take i) u.at_ k.f=true
 rest:u.goal=0\/u.task≠0
theorem xJ:bG ks W i u=0↔∃k,Qr ks W i u k:=by
 constructor
 ·intro h
  unfold bG at h;split at h
  ·cases h
  rename_i h1;split at h
  ·cases h
  rename_i h2;split at h
  ·cases h
  rename_i h3;split at h
  ·cases h
  rename_i k hk;unfold gQ at h;split at h
  ·cases h
  rename_i h4;split at h
  ·cases h
  rename_i h5;split at h
  ·cases h
  rename_i h6;have g1:=of_decide_eq_true (abU h1);have g3:=aa1 h3;have g4:=abV h4;have g5:=aa1 h5;have g6:=abW h6;refine⟨k,⟨g1.1,g1.2,by simpa using h2,of_decide_eq_true g3.1,of_decide_eq_true g3.2,hk,of_decide_eq_true g4.1,of_decide_eq_true g4.2.1,of_decide_eq_true g4.2.2,of_decide_eq_true g5.1,of_decide_eq_true g5.2,g6.1,?_⟩⟩;have g7:=g6.2;simp only[Bool.and_eq_false_iff,bne_eq_false_iff_eq,beq_eq_false_iff_ne] at g7;exact g7
 ·rintro⟨k,h⟩
  unfold bG;rw[if_neg (by simp[h.id1,h.id2]),if_neg (by simp[h.up]),if_neg (by simp[has,h.p.1,h.p.2,h.k0.1,h.k0.2]),h.kk];show gQ W (W.us.take i) u k=0;unfold gQ;rw[if_neg (by simp[h.life.1,h.life.2,h.load.1,h.load.2,h.task.1,h.task.2]),if_neg (by simp[has,h.at_.1,h.at_.2,h.goal.1,h.goal.2]),if_neg];simp only[h.opn,Bool.not_true,Bool.false_or,Bool.and_eq_true,bne_iff_ne,beq_iff_eq,ne_eq,not_and];intro hg ht;rcases h.rest with h1|h1
  ·exact hg h1
  ·exact h1 ht
theorem fZ(hk:Kd.bg (ks.map KV.k)=0)(hf:Fd.fault W.wide W.high W.gs W.os=0)(hn:b_ W=false)(hu:W.us.length<=40)(hus:∀(i:Nat) (u:aI),W.us[i]? =some u->∃k,Qr ks W i u k)(hq:W.qs.length<=12)(Ez:∀j∈W.qs,aY ks W j=0):aP ks W=0:=by
 have h1:ground ks W=0:=by unfold ground;rw[if_pos hk,hf]
 have h2:=(jZ W.us 0).2 λj u hj=>by rw[aO];exact xJ.2 (hus j u hj)
 unfold aP;rw[if_neg (by rw[h1];simp),hn,if_neg (by simp),if_neg (by omega),if_neg (by rw[h2];simp),if_neg (by omega)];exact(kV _).2 Ez
end Wd
theorem bH.fine(h:bH ks W)(hu:W.us[i]? =some u):∃k,Wd.Qr ks W i u k:=by
 have:=(Wd.jZ W.us 0).1 h.units i u hu;rw[aO] at this;exact Wd.xJ.1 this
theorem bH.job(h:bH ks W){j:bM}(hj:j∈W.qs):Wd.aY ks W j=0:=(Wd.kV W.qs).1 h.jobs j hj
theorem bH.zero(h:bH ks W):Wd.aP ks W=0:=by
 obtain⟨Wn,Hn,e1,e2,G⟩:=h.good;exact Wd.fZ h.kinds (by rw[e1,e2];exact Fd.eU G) h.nums h.ul (λi u hu=>h.fine hu) h.ql (λj hj=>h.job hj)
open Go.RowKit
theorem jM:∀{l acc:List Kd.K},Kd.ji acc l=0->∀k∈l,Kd.eu k.nums=0
 |[],_,_,k,hk=>by simp at hk
 |x::l,acc,h,k,hk=>by
  unfold Kd.ji at h;split at h
  ·rename_i h0
   rcases bP.1 hk with rfl|hk
   ·unfold Kd.eG at h0
    split at h0
    ·split at h0
     ·omega
     ·exact h0
    ·omega
   ·exact jM h k hk
  ·rename_i h0
   exact absurd h h0
theorem sJ(h:Kd.bg (ks.map KV.k)=0):ks.length<=8/\∀k∈ks,0<=k.n5/\k.n5<=1000/\0<k.n0/\k.n0<=1000:=by
 unfold Kd.bg at h;split at h
 ·omega
 ·rename_i h8
  refine⟨by simpa using h8,λk hk=>?_⟩;have:=jM h k.k (jg.2 ⟨k,hk,rfl⟩);unfold Kd.eu at this;split at this
  ·omega
  ·rename_i h1
   rw[Bool.not_eq_true,bK] at h1;have a:=h1 k.n0 (by simp[KV.k]);have b:=h1 k.n5 (by simp[KV.k]);simp only[decide_eq_true_eq] at a b;split at this
   ·omega
   ·rename_i h2
    have:(k.k.nums).getD 0 0=k.n0:=rfl;omega
end
namespace Tx
def lines:List UInt8->List (List UInt8)
 |[]=>[]
 |b::r=>if b=10 then[10]::lines r else match lines r with
  |[]=>[[b]]
  |w::ws=>(b::w)::ws
end Tx
section
open Go.RowKit
variable {w w':World} {y:Addr}
structure bU where
 ay:Int
 unit:Int
 what:Int
 arg:Int
def bU.val(k:bU):Value:=.agg #[int i64 k.ay,int i64 k.unit,int i64 k.what,int i64 k.arg]
structure pJ(w:World)(y:Addr)(k:bU):Prop where
 c0:w.cell? y=some (int i64 k.ay)
 c1:w.cell? ⟨y.block,y.off+1,none⟩=some (int i64 k.unit)
 c2:w.cell? ⟨y.block,y.off+2,none⟩=some (int i64 k.what)
 c3:w.cell? ⟨y.block,y.off+3,none⟩=some (int i64 k.arg)
theorem pJ.lt{k:bU}(h:pJ w y k):y.block<w.heap.size:=cell_lt h.c0
theorem pJ.below{k:bU}{B:Nat}(h:pJ w y k)(hb:Below B w w')(hy:y.block<B):pJ w' y k:=
 ⟨by rw[hb.cell (p:=y) hy];exact h.c0,by rw[hb.cell (p:=⟨y.block,y.off+1,none⟩) hy];exact h.c1,by rw[hb.cell (p:=⟨y.block,y.off+2,none⟩) hy];exact h.c2,by rw[hb.cell (p:=⟨y.block,y.off+3,none⟩) hy];exact h.c3⟩
def Bo(w:World)(v:Value)(ks:List bU):Prop:=∃a c,v=slice a ks.length c/\ks.length<=c/\c<=9223372036854775807/\(ks≠[]->∃x,a=some x/\x.block<w.heap.size/\∀(i:Nat) k,ks[i]? =some k->pJ w (x.add (i*4)) k)
theorem Bo.below{v:Value}{ks:List bU}(h:Bo w v ks)(hb:Below w.heap.size w w'):Bo w' v ks:=by
 obtain⟨a,c,h1,h2,h3,h4⟩:=h;refine⟨a,c,h1,h2,h3,λhn=>?_⟩;obtain⟨x,e,hx,hk⟩:=h4 hn;exact⟨x,e,fE hx hb.size,λi k hi=>(hk i k hi).below hb (by rw[add_block];exact hx)⟩
theorem pJ.mk'{z:Nat}(k:bU)(hz:w.heap.size=z):pJ (w.alloc (.cells #[int i64 k.ay,int i64 k.unit,int i64 k.what,int i64 k.arg] 96)) ⟨z,0,none⟩ k:=by
 subst hz;constructor<;>simp
end
namespace Od
open Tx
variable {l:List bU} {o:bU}
def bad(o:bU):Prop:=o.ay<0\/3<o.ay\/o.unit<0\/1000000<o.unit\/o.arg<0\/1000000<o.arg\/o.what<0\/3<o.what\/(o.what=0/\o.arg≠0)
instance (o:bU):Decidable (bad o):=by unfold bad;infer_instance
def fault(o:bU):Int:=if bad o then 1 else 0
theorem rQ(h:bad o):fault o=1:=if_pos h
theorem uG(h:¬bad o):fault o=0:=if_neg h
def faults(l:List bU):Int:=if 60<l.length then 4 else if l.any (λo=>decide (bad o)) then 1 else 0
def YM:List UInt8:=[115,116,111,112]
def Qs:List UInt8:=[109,97,114,99,104]
def Ju:List UInt8:=[103,97,116,104,101,114]
def Qv:List UInt8:=[116,114,97,105,110]
def name(n:Int):List UInt8:=if n=0 then YM else if n=1 then Qs else if n=2 then Ju else Qv
def Qw(l:List UInt8):Option Int:=if l=YM then some 0 else if l=Qs then some 1 else if l=Ju then some 2 else if l=Qv then some 3 else none
def words(o:bU):List (List UInt8):=dig o.ay.toNat::dig o.unit.toNat::name o.what::(if o.what=0 then[] else[dig o.arg.toNat])
def Ws:List (List UInt8)->Option bU
 |[a,b,c]=>match Qw c,whole 7 a,whole 7 b with
  |some n,some x,some y=>if n=0 then some ⟨x,y,0,0⟩ else none
  |_,_,_=>none
 |[a,b,c,d]=>match Qw c,whole 7 a,whole 7 b,whole 7 d with
  |some n,some x,some y,some z=>if n=0 then none else some ⟨x,y,n,z⟩
  |_,_,_,_=>none
 |_=>none
def ZC(l:List UInt8):Option bU:=if l.getLast? =some 10 then Ws (cut 32 l.dropLast) else none
def go(acc:List bU):List (List UInt8)->(Nat×Int) ⊕ List bU
 |[]=>.inr acc
 |l::r=>match ZC l with
  |none=>.inl (acc.length,2)
  |some o=>if acc.length=60 then .inl (acc.length,4) else if fault o=0 then go (acc++[o]) r else .inl (acc.length,fault o)
def parse(s:List UInt8):(Nat×Int) ⊕ List bU:=go [] (lines s)
theorem Bv(h:¬bad o):0<=o.ay/\o.ay<=3/\0<=o.unit/\o.unit<=1000000/\0<=o.arg/\o.arg<=1000000/\0<=o.what/\o.what<=3/\(o.what=0->o.arg=0):=by
 unfold bad at h;omega
theorem jC(h:faults l=0):l.length<=60/\∀o∈l,¬bad o:=by
 unfold faults at h;split at h
 ·omega
 ·split at h
  ·omega
  ·rename_i h1 h2
   rw[Bool.not_eq_true,bK] at h2;exact⟨by omega,λo ho=>by simpa using h2 o ho⟩
theorem xK(h:l.length<=60)(hb:∀o∈l,¬bad o):faults l=0:=by
 unfold faults;rw[if_neg (by omega),if_neg];rw[Bool.not_eq_true,bK];intro o ho;simpa using hb o ho
end Od
section
variable {X Y Z:WV} {a b u v:aI} {i q:Nat} {ks:List KV} {l m us:List aI} {o:bU} {out:List bU}
def pK(o:bU)(u:aI):Bool:=decide (u.id=o.unit/\u.ay=o.ay)
def iT(ks:List KV)(a:Int):Int:=match ks[a.toNat]? with|some k=>k.n5|none=>0
def turnsOf(ks:List KV)(a:Int):Int:=match ks[a.toNat]? with|some k=>k.n6|none=>0
def wQ(ks:List KV)(Y:WV)(k:KV)(o:bU):Bool:=
 if o.what=1 then decide (o.arg<(Y.gs.length:Int)/\0<Fd.onto (Y.gs.getD o.arg.toNat 0) k.f)
 else if o.what=2 then decide (o.arg<(Y.os.length:Int)/\0<Y.os.getD o.arg.toNat 0/\0<k.n7)
 else if o.what=3 then decide (k.t=true/\o.arg<(ks.length:Int)/\iT ks o.arg<=Y.gold.getD o.ay.toNat 0/\Y.qs.length<12)
 else true
def xM(o:bU)(u:aI):aI:={u with task:=o.what,goal:=o.arg}
def iy(ks:List KV)(Y:WV)(o:bU):WV:={Y with gold:=Y.gold.set o.ay.toNat (Y.gold.getD o.ay.toNat 0-iT ks o.arg),qs:=Y.qs++[⟨o.ay,o.unit,o.arg,max (turnsOf ks o.arg) 1⟩]}
def qC(Y:WV)(i:Nat)(u:aI)(o:bU):WV:={Y with us:=Y.us.set i (xM o u)}
def iG(ks:List KV)(Y:WV)(o:bU):Option WV:=
 match Y.us.findIdx? (pK o) with
 |none=>none
 |some i=>match Y.us[i]? with
  |none=>none
  |some u=>match ks[u.kind.toNat]? with
   |none=>none
   |some k=>if wQ ks Y k o=true then some (if o.what=3 then iy ks Y o else qC Y i u o) else none
def gv(ks:List KV)(Y:WV)(out:List bU):Nat->WV×List Int
 |0=>(Y,[])
 |q+1=>match out[q]? with
  |none=>gv ks Y out q
  |some o=>match iG ks (gv ks Y out q).1 o with
   |some Z=>(Z,(gv ks Y out q).2)
   |none=>((gv ks Y out q).1,(gv ks Y out q).2++[(q:Int)])
theorem yX(ho:out[q]? =some o)(h:iG ks (gv ks Y out q).1 o=some Z):gv ks Y out (q+1)=(Z,(gv ks Y out q).2):=by
 rw[gv];simp only[ho,h]
theorem Jv(ho:out[q]? =some o)(h:iG ks (gv ks Y out q).1 o=none):gv ks Y out (q+1)=((gv ks Y out q).1,(gv ks Y out q).2++[(q:Int)]):=by
 rw[gv];simp only[ho,h]
theorem Qx(h:us.any (pK o)=false):us.findIdx? (pK o)=none:=by
 rw[List.findIdx?_eq_none_iff];intro x hx;rw[bK] at h;have:=h x hx;simpa using this
theorem Qy(hu:us[i]? =some u)(hp:pK o u=true)(hn:(us.take i).any (pK o)=false):us.findIdx? (pK o)=some i:=by
 rw[List.findIdx?_eq_some_iff_getElem];obtain⟨hi,e⟩:=aK.1 hu;refine⟨hi,by rw[e];exact hp,λj hj=>?_⟩;rw[bK] at hn;have hjl:j<us.length:=by omega
 have:us[j]∈us.take i:=by
  rw[List.mem_take_iff_getElem];exact⟨j,by omega,rfl⟩
 have:=hn _ this;simpa using this
structure wR(ks:List KV)(Y:WV):Prop where
 good:∃Wn Hn:Nat,Y.wide=Wn/\Y.high=Hn/\Fd.Good Wn Hn Y.gs Y.os
 units:∀u∈Y.us,(∃kn:Nat,∃k,u.kind=kn/\ks[kn]? =some k)/\∃pn:Nat,u.ay=pn/\pn<Y.gold.length
 gold:∀g∈Y.gold,0<=g/\g<=1000000
 kinds:ks.length<=8/\∀k∈ks,0<=k.n5/\k.n5<=1000/\0<=k.n6/\k.n6<=1000
 ul:Y.us.length<=40
 ql:Y.qs.length<=12
 gl:Y.gold.length<=4
theorem sK(h:Kd.bg (ks.map KV.k)=0):∀k∈ks,0<=k.n6/\k.n6<=1000:=by
 intro k hk;unfold Kd.bg at h;split at h
 ·omega
 ·have h2:=jM h k.k (jg.2 ⟨k,hk,rfl⟩)
  unfold Kd.eu at h2;split at h2
  ·omega
  ·rename_i h3
   rw[Bool.not_eq_true,bK] at h3;have:=h3 k.n6 (by simp[KV.k]);simp only[decide_eq_true_eq] at this;omega
theorem Jw(h:Wd.b_ Y=false):(∀g∈Y.gold,0<=g/\g<=1000000)/\Y.gold.length<=4:=by
 unfold Wd.b_ at h;simp only[Bool.or_eq_false_iff] at h;obtain⟨-,-,h3,h4⟩:=h;refine⟨λg hg=>?_,?_⟩
 ·rw[bK] at h4
  have:=h4 g hg;unfold Wd.off at this;simp at this;exact this
 ·simp at h3
  omega
theorem bH.aa2(h:bH ks Y):wR ks Y:=by
 have kr:=sJ h.kinds;have kt:=sK h.kinds;have gi:=Jw h.nums;refine⟨h.good,λu hu=>?_,gi.1,⟨kr.1,λk hk=>⟨(kr.2 k hk).1,(kr.2 k hk).2.1,(kt k hk).1,(kt k hk).2⟩⟩,h.ul,h.ql,gi.2⟩;obtain⟨i,hi⟩:=List.mem_iff_getElem?.1 hu;obtain⟨k,F⟩:=h.fine hi;exact⟨⟨u.kind.toNat,k,by have:=F.k0;omega,F.kk⟩,⟨u.ay.toNat,by have:=F.p;omega,by have:=F.p;omega⟩⟩
theorem wR.sent(h:wR ks Y)(hu:Y.us[i]? =some u)(o:bU):wR ks (qC Y i u o):=by
 refine⟨h.good,λx hx=>?_,h.gold,h.kinds,by simpa[qC] using h.ul,h.ql,h.gl⟩;rcases List.mem_or_eq_of_mem_set hx with hx|rfl
 ·exact h.units x hx
 ·exact h.units u (aT hu)
theorem wR.hire(h:wR ks Y)(hp:iT ks o.arg<=Y.gold.getD o.ay.toNat 0)(hpl:o.ay.toNat<Y.gold.length)(hq:Y.qs.length<12):wR ks (iy ks Y o):=by
 have pr:0<=iT ks o.arg:=by
  unfold iT;split
  ·rename_i k hk
   exact(h.kinds.2 k (aT hk)).1
  ·omega
 refine⟨h.good,λx hx=>?_,λg hg=>?_,h.kinds,h.ul,by simp[iy];omega,by simpa[iy] using h.gl⟩
 ·obtain⟨a,pn,b,c⟩:=h.units x hx
  exact⟨a,pn,b,by simpa[iy] using c⟩
 ·rcases List.mem_or_eq_of_mem_set hg with hg|rfl
  ·exact h.gold g hg
  ·have:Y.gold.getD o.ay.toNat 0∈Y.gold:=by
    rw[dD,aH hpl];exact kG _
   have:=h.gold _ this;omega
theorem lT(h:Kd.bg (ks.map KV.k)=0){k:KV}(hk:k∈ks):1<=k.n0/\0<=k.n7/\0<=k.n4/\k.n4<=4/\0<=k.n1/\k.n1<=1000/\0<=k.n2/\k.n2<=12/\0<=k.n3/\k.n3<=12/\k.n0<=1000/\k.n7<=1000:=by
 unfold Kd.bg at h;split at h
 ·omega
 ·have:=jM h k.k (jg.2 ⟨k,hk,rfl⟩)
  unfold Kd.eu at this;split at this
  ·omega
  ·rename_i h1
   rw[Bool.not_eq_true,bK] at h1;have a:=h1 k.n0 (by simp[KV.k]);have b:=h1 k.n7 (by simp[KV.k]);have c:=h1 k.n4 (by simp[KV.k]);have d:=h1 k.n1 (by simp[KV.k]);have e:=h1 k.n2 (by simp[KV.k]);have f:=h1 k.n3 (by simp[KV.k]);simp only[decide_eq_true_eq] at a b c d e f;split at this
   ·omega
   ·rename_i h2
    have e0:(k.k.nums).getD 0 0=k.n0:=rfl;have e4:(k.k.nums).getD 4 0=k.n4:=rfl;have e2:(k.k.nums).getD 2 0=k.n2:=rfl;have e3:(k.k.nums).getD 3 0=k.n3:=rfl;omega
theorem LC{n:aI}{p:aI->Bool}(h:us.find? p=some u):(us++[n]).find? p=some u:=by
 rw[List.find?_append,h];rfl
theorem LD{W:WV}{pl kd at_:Int}(h:bH ks W)(hp:Wd.bV ks W pl kd at_=0):Wd.aP ks (Wd.put ks W pl kd at_)=0:=by
 obtain⟨h40,hpl,hat,kn,k,rfl,hkl,hkk,hop⟩:=Jt hp;have hnu:Wd.oC ks W pl (kn:Nat) at_=⟨W.next,pl,(kn:Nat),at_,k.n0,0,0,0⟩:=by unfold Wd.oC;rw[bF,hkk]
 have hn1:1<=W.next:=by
  have:=(jY h.nums).1;unfold Wd.off at this;simp at this;omega
 have hk:=lT h.kinds (aT hkk);obtain⟨Wn,Hn,e1,e2,G⟩:=h.good;unfold Wd.put;rw[hnu];refine Wd.fZ h.kinds (by show Fd.fault W.wide W.high W.gs W.os=0;rw[e1,e2];exact Fd.eU G) ?_ ?_ ?_ h.ql ?_
 ·have hn:=h.nums
  unfold Wd.b_ at hn ⊢;simp only[Bool.or_eq_false_iff] at hn ⊢;refine⟨hn.1,?_,hn.2.2⟩;unfold Wd.off;simp;omega
 ·show(W.us++[_]).length<=40
  rw[aC];have:=h40;simp only[dI,aS];omega
 ·intro i u hu
  have hu':(W.us++[(⟨W.next,pl,(kn:Nat),at_,k.n0,0,0,0⟩:aI)])[i]? =some u:=hu;rcases Nat.lt_or_ge i W.us.length with hi|hi
  ·rw[iV hi] at hu'
   obtain⟨k0,f⟩:=h.fine hu';refine⟨k0,⟨f.id1,?_,?_,f.p,f.k0,f.kk,f.life,f.load,f.task,f.at_,f.goal,?_,f.rest⟩⟩
   ·have:=f.id2
    show u.id<=W.next+1-1;omega
   ·have:=f.up
    show Wd.dF (W.us++[_]) i u=false;unfold Wd.dF at this ⊢;cases i with
    |zero=>rfl
    |succ j=>
     simp only at this ⊢;rw[iV (by omega)];exact this
   ·show Wd.open_ W.gs ((W.us++[_]).take i) u.at_ k0.f=true
    rw[List.take_append_of_le_length (by omega)];exact f.opn
  ·rw[jy hi] at hu'
   have hil:i=W.us.length:=by
    rcases Nat.eq_zero_or_pos (i-W.us.length) with h0|h0
    ·omega
    ·rw[List.getElem?_eq_none (by simp;omega)] at hu';cases hu'
   subst hil;rw[Nat.sub_self] at hu';injection hu' with hu'
   subst hu';refine⟨k,⟨hn1,?_,?_,hpl,⟨by simp,by simp;omega⟩,by simpa using hkk,⟨hk.1,Int.le_refl _⟩,⟨Int.le_refl _,hk.2.1⟩,⟨by simp,by simp⟩,hat,⟨by simp,Int.lt_of_le_of_lt hat.1 hat.2⟩,?_,.inl rfl⟩⟩
   ·show W.next<=W.next+1-1
    omega
   ·show Wd.dF (W.us++[_]) W.us.length _=false
    unfold Wd.dF;cases hl:W.us.length with
    |zero=>rfl
    |succ j=>
     simp only;rw[iV (by omega)];cases hx:W.us[j]? with
     |none=>rfl
     |some x=>
      obtain⟨k0,f⟩:=h.fine hx;have:=f.id2;simp;omega
   ·show Wd.open_ W.gs ((W.us++[_]).take W.us.length) at_ k.f=true
    rw[List.take_left];exact hop
 ·intro j hj
  have:=h.job hj;unfold Wd.aY at this ⊢;cases hx:W.us.find? (λu=>u.id==j.unit) with
  |none=>rw[hx] at this;cases this
  |some u=>
   rw[hx] at this;have hm:=LC (n:=(⟨W.next,pl,(kn:Nat),at_,k.n0,0,0,0⟩:aI)) hx;simp only[hm];exact this
theorem BH(h:bH ks X)(ha:X.us[i]? =some a)(hb:X.us[i+1]? =some b):a.id<b.id:=by
 obtain⟨k,f⟩:=h.fine hb;have:=f.up;simp only[Wd.dF,ha,decide_eq_false_iff_not] at this;omega
theorem nS{ks:List KV}{X:WV}(h:bH ks X):∀(d i:Nat) (a b:aI),X.us[i]? =some a->X.us[i+d+1]? =some b->a.id<b.id
 |0,i,a,b,ha,hb=>BH h ha hb
 |d+1,i,a,b,ha,hb=>by
  have hl:i+d+1<X.us.length:=by have:=(aK.1 hb).1;omega
  have h1:=nS h d i a _ ha (aH hl);have h2:=BH h (aH hl) (show X.us[i+d+1+1]? =some b from hb);omega
theorem uH(h:bH ks X){j:Nat}(ha:X.us[i]? =some a)(hb:X.us[j]? =some b)(e:a.id=b.id):i=j:=by
 rcases Nat.lt_trichotomy i j with hl|hl|hl
 ·have:=nS h (j-i-1) i a b ha (by rw[show i+(j-i-1)+1=j by omega];exact hb)
  omega
 ·exact hl
 ·have:=nS h (i-j-1) j b a hb (by rw[show j+(i-j-1)+1=i by omega];exact ha)
  omega
def er3(u:aI):aI:={u with load:=0,task:=0,goal:=0}
theorem Wu(h:l[i]? =some u)(e:er3 v=er3 u):(l.set i v).map er3=l.map er3:=by
 apply List.ext_getElem?;intro j;rw[fG,fG,kJ];split
 ·rename_i ej
  subst ej;split
  ·rw[h];simp[e]
  ·rename_i h2
   rw[List.getElem?_eq_none (by omega)]
 ·rfl
theorem Fq(h:l.map er3=m.map er3)(hu:l[i]? =some u):∃v,m[i]? =some v/\er3 u=er3 v:=by
 have:(l.map er3)[i]? =some (er3 u):=by rw[fG,hu];rfl
 rw[h,fG] at this;cases hv:m[i]? with
 |none=>rw[hv] at this;cases this
 |some v=>
  rw[hv] at this;injection this with this
  exact⟨v,rfl,this.symm⟩
theorem uI(h:er3 u=er3 v):u.id=v.id/\u.ay=v.ay/\u.kind=v.kind/\u.at_=v.at_/\u.life=v.life:=by
 unfold er3 at h;injection h with h1 h2 h3 h4 h5
 exact⟨h1,h2,h3,h4,h5⟩
theorem Qz(h:l.map er3=m.map er3)(i:Nat):(l.take i).map er3=(m.take i).map er3:=by rw[List.map_take,List.map_take,h]
theorem QA(h:l.map er3=m.map er3)(n:Int):(l.find? (λu=>u.id==n)).map er3=(m.find? (λu=>u.id==n)).map er3:=by
 induction l generalizing m with
 |nil=>
  cases m with
  |nil=>rfl
  |cons _ _=>simp at h
 |cons u l ih=>
  cases m with
  |nil=>simp at h
  |cons v m=>
   rw[List.map_cons,List.map_cons] at h;injection h with h1 h2
   have e:=(uI h1).1;rw[List.find?_cons,List.find?_cons,e];cases hh:(v.id==n) with
   |true=>simp[h1]
   |false=>exact ih h2
theorem Wv(e:Z.us.map er3=X.us.map er3)(j:bM):Wd.aY ks Z j=Wd.aY ks X j:=by
 unfold Wd.aY;have h2:=QA e j.unit;cases hz:Z.us.find? (λu=>u.id==j.unit) with
 |none=>
  rw[hz] at h2;cases hx:X.us.find? (λu=>u.id==j.unit) with
  |none=>rfl
  |some v=>rw[hx] at h2;cases h2
 |some u=>
  rw[hz] at h2;cases hx:X.us.find? (λu=>u.id==j.unit) with
  |none=>rw[hx] at h2;cases h2
  |some v=>
   rw[hx] at h2;injection h2 with h2
   obtain⟨-,q2,q3,-⟩:=uI h2;simp only[q2,q3]
theorem xO(h:bH ks X)(k2:Z.next=X.next)(k3:Z.wide=X.wide)(k4:Z.high=X.high)(k5:Z.gs=X.gs)(k8:Z.os=X.os)(k7:Z.gold.length=X.gold.length)(hn:Wd.b_ Z=false)(e:Z.us.map er3=X.us.map er3)
  (hu:∀u∈Z.us,(∀k,ks[u.kind.toNat]? =some k->0<=u.load/\u.load<=k.n7)/\(0<=u.task/\u.task<=2)/\(0<=u.goal/\u.goal<(X.gs.length:Int))/\(u.goal=0\/u.task≠0)) (hq:Z.qs.length<=12) (hj:∀j∈Z.qs,Wd.aY ks X j=0):Wd.aP ks Z=0:=by
 have hl:Z.us.length=X.us.length:=by have:=congrArg List.length e;simpa using this
 refine Wd.fZ h.kinds ?_ hn (by rw[hl];exact h.ul) ?_ hq ?_
 ·obtain⟨Wn,Hn,e1,e2,G⟩:=h.good
  rw[k3,k4,k5,k8,e1,e2];exact Fd.eU G
 ·intro i u hu'
  obtain⟨v,hv,ev⟩:=Fq e hu';obtain⟨q1,q2,q3,q4,q5⟩:=uI ev;obtain⟨k,F⟩:=h.fine hv;obtain⟨l1,l2,l3,l4⟩:=hu u (aT hu');refine⟨k,by rw[q1];exact F.id1,by rw[q1,k2];exact F.id2,?_,by rw[q2,k7];exact F.p,by rw[q3];exact F.k0,by rw[q3];exact F.kk,by rw[q5];exact F.life,l1 k (by rw[q3];exact F.kk),l2,by rw[q4,k5];exact F.at_,by rw[k5];exact l3,?_,l4⟩
  ·have hup:=F.up
   cases i with
   |zero=>rfl
   |succ i=>
    have hil:i<Z.us.length:=by have:=(aK.1 hu').1;omega
    obtain⟨p,hp⟩:∃p,Z.us[i]? =some p:=⟨_,aH hil⟩;obtain⟨p',hp',ep⟩:=Fq e hp;simp only[Wd.dF,hp',decide_eq_false_iff_not] at hup;simp only[Wd.dF,hp,decide_eq_false_iff_not];rw[q1,(uI ep).1];exact hup
  ·have ho:=F.opn
   unfold Wd.open_ at ho ⊢;rw[Bool.and_eq_true] at ho ⊢;refine⟨by rw[q4,k5];exact ho.1,?_⟩;have h1:=ho.2;rw[Bool.not_eq_true',bK] at h1 ⊢;intro p hp;obtain⟨i',hi'⟩:=List.mem_iff_getElem?.1 hp;obtain⟨p',hp',ep⟩:=Fq (Qz e i) hi';rw[(uI ep).2.2.2.1,q4];exact h1 p' (aT hp')
 ·intro j hj'
  rw[Wv e];exact hj j hj'
theorem uJ(h:bH ks X)(hu:u∈X.us):(∀k,ks[u.kind.toNat]? =some k->0<=u.load/\u.load<=k.n7)/\(0<=u.task/\u.task<=2)/\(0<=u.goal/\u.goal<(X.gs.length:Int))/\(u.goal=0\/u.task≠0):=by
 obtain⟨i,hi⟩:=List.mem_iff_getElem?.1 hu;obtain⟨k,F⟩:=h.fine hi;exact⟨λk' hk'=>by have:=F.kk;rw[this] at hk';injection hk' with e;subst e;exact F.load,F.task,F.goal,F.rest⟩
theorem WC(h:bH ks X)(hu:X.us[i]? =some u):X.us.find? (λv=>v.id==u.id)=some u:=by
 obtain⟨hi,e⟩:=aK.1 hu;rw[List.find?_eq_some_iff_getElem];refine⟨by simp,i,hi,e,λj hj=>?_⟩;have hjl:j<X.us.length:=by omega
 simp only[Bool.not_eq_true',beq_eq_false_iff_ne];intro ee;have:=uH h (aH hjl) hu ee;omega
theorem BI(h:bH ks Y)(ho:¬Od.bad o)(hg:iG ks Y o=some Z):Wd.aP ks Z=0:=by
 unfold iG at hg;cases hi:Y.us.findIdx? (pK o) with
 |none=>rw[hi] at hg;cases hg
 |some i=>
  rw[hi] at hg;simp only at hg;cases hu:Y.us[i]? with
  |none=>rw[hu] at hg;cases hg
  |some u=>
   rw[hu] at hg;simp only at hg;cases hk:ks[u.kind.toNat]? with
   |none=>rw[hk] at hg;cases hg
   |some k=>
    rw[hk] at hg;simp only at hg;have hask:pK o u=true:=by
     have h1:=List.findIdx?_eq_some_iff_getElem.1 hi;obtain⟨h2,h3,-⟩:=h1;rw[(aK.1 hu).2] at h3;exact h3
    unfold pK at hask;have YN:=of_decide_eq_true hask;unfold Od.bad at ho;split at hg
    ·rename_i hm
     injection hg with hg
     subst hg;unfold wQ at hm;by_cases h3:o.what=3
     ·rw[if_neg (by omega),if_neg (by omega),if_pos h3] at hm
      obtain⟨m1,m2,m3,m4⟩:=of_decide_eq_true hm;rw[if_pos h3];obtain⟨ka,hka⟩:∃ka,ks[o.arg.toNat]? =some ka:=⟨_,aH (by omega)⟩;have kr:=(sJ h.kinds).2 ka (aT hka);have kt:=sK h.kinds ka (aT hka);have pr:iT ks o.arg=ka.n5:=by unfold iT;rw[hka]
      have tr:turnsOf ks o.arg=ka.n6:=by unfold turnsOf;rw[hka]
      have gi:=Jw h.nums;refine xO h rfl rfl rfl rfl rfl (by simp[iy]) ?_ rfl (λv hv=>uJ h hv) (by simp only[iy,aC,dI,aS];omega) (λj hj=>?_)
      ·have hn:=h.nums
       unfold Wd.b_ at hn ⊢;simp only[iy,jA];simp only[Bool.or_eq_false_iff] at hn ⊢;refine⟨hn.1,hn.2.1,hn.2.2.1,?_⟩;rw[bK];intro g hg;have hb:0<=g/\g<=1000000:=by
        rcases List.mem_or_eq_of_mem_set hg with hg|hg
        ·exact gi.1 g hg
        ·rw[hg,pr]
         rw[pr] at m3;have:Y.gold.getD o.ay.toNat 0<=1000000:=by
          rw[dD];cases hh:Y.gold[o.ay.toNat]? with
          |none=>simp
          |some x=>exact(gi.1 x (aT hh)).2
         omega
       unfold Wd.off;simp;omega
      ·simp only[iy,gJ,List.mem_singleton] at hj
       rcases hj with hj|rfl
       ·exact h.job hj
       ·unfold Wd.aY
        simp only;rw[<-YN.1,WC h hu];simp only[hk];rw[if_neg (by simp[YN.2,m1]),if_neg];unfold Wd.has;simp only[tr,Bool.or_eq_true,Bool.not_eq_true',decide_eq_false_iff_not,not_or,Classical.not_not];exact⟨⟨by omega,by omega⟩,by omega,by omega⟩
     ·rw[if_neg h3]
      refine xO h rfl rfl rfl rfl rfl rfl h.nums (Wu hu rfl) (λv hv=>?_) h.ql (λj hj=>h.job hj);rcases List.mem_or_eq_of_mem_set hv with hv|rfl
      ·exact uJ h hv
      ·obtain⟨l1,-⟩:=uJ h (aT hu)
       have hl:0<Y.gs.length:=by
        obtain⟨Wn,Hn,-,-,G⟩:=h.good;rw[G.gl];exact Nat.mul_pos G.w1 G.h1
       have hol:Y.os.length=Y.gs.length:=by
        obtain⟨Wn,Hn,-,-,G⟩:=h.good;rw[G.gl,G.ol]
       refine⟨l1,⟨by show 0<=o.what;omega,by show o.what<=2;omega⟩,⟨by show 0<=o.arg;omega,?_⟩,?_⟩
       ·show o.arg<(Y.gs.length:Int)
        by_cases h1:o.what=1
        ·rw[if_pos h1] at hm
         exact(of_decide_eq_true hm).1
        ·by_cases h2:o.what=2
         ·rw[if_neg h1,if_pos h2] at hm
          have:=(of_decide_eq_true hm).1;omega
         ·have:o.what=0:=by omega
          have:o.arg=0:=by omega
          omega
       ·show o.arg=0\/o.what≠0
        omega
    ·cases hg
theorem qE{ks:List KV}{Y:WV}(h:bH ks Y){out:List bU}(ho:∀o∈out,¬Od.bad o):∀q,bH ks (gv ks Y out q).1
 |0=>h
 |q+1=>by
  have ih:=qE h ho q;cases hq:out[q]? with
  |none=>rw[gv];simp only[hq];exact ih
  |some o=>
   cases hg:iG ks (gv ks Y out q).1 o with
   |some Z=>rw[yX hq hg];exact bY (BI ih (ho o (aT hq)) hg)
   |none=>rw[Jv hq hg];exact ih
end
namespace Fd
variable {H W a b k:Nat}
def along(n f t k:Int):Int:=(2*f*n+2*k*(t-f)+n)/(2*n)
theorem oH(n f t k:Int):2*f*n+2*k*(t-f)+n=(f*(n-k)+t*k)*2+n:=by
 rw[Int.mul_sub,Int.mul_sub,Int.add_mul,Int.sub_mul,Int.mul_assoc 2 f n,Int.mul_assoc 2 k t,Int.mul_assoc 2 k f,Int.mul_comm k t,Int.mul_comm k f];omega
theorem ZF(lo f t x y:Int)(hx:0<=x)(hy:0<=y)(hf:lo<=f)(ht:lo<=t):lo*(x+y)<=f*x+t*y:=by
 rw[Int.mul_add];have:=Int.mul_le_mul_of_nonneg_right hf hx;have:=Int.mul_le_mul_of_nonneg_right ht hy;omega
theorem ZH(hi f t x y:Int)(hx:0<=x)(hy:0<=y)(hf:f<=hi)(ht:t<=hi):f*x+t*y<=hi*(x+y):=by
 rw[Int.mul_add];have:=Int.mul_le_mul_of_nonneg_right hf hx;have:=Int.mul_le_mul_of_nonneg_right ht hy;omega
theorem qF(lo n f t k:Int)(h0:0<=k)(h1:k<=n)(hn:0<n)(hf:lo<=f)(ht:lo<=t):lo<=along n f t k:=by
 unfold along;rw[oH,Int.le_ediv_iff_mul_le (by omega)];have h:=ZF lo f t (n-k) k (by omega) h0 hf ht;rw[show n-k+k=n by omega] at h;have e:lo*(2*n)=lo*n*2:=by rw[<-Int.mul_assoc,Int.mul_comm lo 2,Int.mul_assoc,Int.mul_comm]
 omega
theorem qG(hi n f t k:Int)(h0:0<=k)(h1:k<=n)(hn:0<n)(hf:f<=hi)(ht:t<=hi):along n f t k<=hi:=by
 unfold along;rw[oH];have h:=ZH hi f t (n-k) k (by omega) h0 hf ht;rw[show n-k+k=n by omega] at h;have e:(hi+1)*(2*n)=hi*n*2+2*n:=by rw[Int.add_mul,<-Int.mul_assoc,Int.mul_comm hi 2,Int.mul_assoc,Int.mul_comm 2 (hi*n)];omega
 have:((f*(n-k)+t*k)*2+n)/(2*n)<hi+1:=by
  rw[Int.ediv_lt_iff_lt_mul (by omega)];omega
 omega
def span(W a b:Nat):Nat:=max (max (a%W-b%W) (b%W-a%W)) (max (a/W-b/W) (b/W-a/W))
def spot(W a b:Nat)(k:Nat):Int:=along (span W a b) (a/W:Nat) (b/W:Nat) k*W+along (span W a b) (a%W:Nat) (b%W:Nat) k
def line(W a b:Nat):List Int:=if span W a b=0 then[(a:Int)] else(List.range (span W a b+1)).map (spot W a b)
theorem WE(hW:0<W)(w2:W<=12)(h2:H<=12)(ha:a<W*H)(hb:b<W*H):span W a b<=11:=by
 have h3:=Nat.div_lt_of_lt_mul ha;have h4:=Nat.div_lt_of_lt_mul hb;have h5:=Nat.mod_lt a hW;have h6:=Nat.mod_lt b hW;unfold span;generalize a/W=x at *;generalize b/W=y at *;generalize a%W=u at *;generalize b%W=v at *;omega
theorem WJ(hW:0<W)(ha:a<W*H)(hb:b<W*H)(hn:0<span W a b)(hk:k<=span W a b):
  ∃r c:Nat,along (span W a b) (a/W:Nat) (b/W:Nat) k=r/\along (span W a b) (a%W:Nat) (b%W:Nat) k=c/\r<H/\c<W/\spot W a b k=((r*W+c:Nat):Int)/\r*W+c<W*H/\(r*W+c)%W=c/\(r*W+c)/W=r:=by
 have h3:=Nat.div_lt_of_lt_mul ha;have h4:=Nat.div_lt_of_lt_mul hb;have h5:=Nat.mod_lt a hW;have h6:=Nat.mod_lt b hW;have n1:(0:Int)<=(a/W:Nat):=Int.natCast_nonneg _;have n2:(0:Int)<=(b/W:Nat):=Int.natCast_nonneg _;have r1:=qF 0 (span W a b) (a/W:Nat) (b/W:Nat) k (by omega) (by omega) (by omega) (by omega) (by omega);have r2:=qG (H-1) (span W a b) (a/W:Nat) (b/W:Nat) k (by omega) (by omega) (by omega) (by omega) (by omega);have c1:=qF 0 (span W a b) (a%W:Nat) (b%W:Nat) k (by omega) (by omega) (by omega) (by omega) (by omega);have c2:=qG (W-1) (span W a b) (a%W:Nat) (b%W:Nat) k (by omega) (by omega) (by omega) (by omega) (by omega);refine⟨(along (span W a b) (a/W:Nat) (b/W:Nat) k).toNat,(along (span W a b) (a%W:Nat) (b%W:Nat) k).toNat,by omega,by omega,by omega,by omega,?_,?_,?_,?_⟩
 ·unfold spot
  rw[Int.natCast_add,Int.natCast_mul,Int.toNat_of_nonneg r1,Int.toNat_of_nonneg c1]
 ·have h:=Nat.mul_le_mul_right W (show(along (span W a b) (a/W:Nat) (b/W:Nat) k).toNat+1<=H by omega)
  rw[Nat.add_mul,Nat.mul_comm H W] at h;omega
 ·rw[Nat.add_comm,Nat.add_mul_mod_self_right,Nat.mod_eq_of_lt (by omega)]
 ·rw[Nat.add_comm,Nat.add_mul_div_right _ _ hW,Nat.div_eq_of_lt (by omega)]
  omega
theorem BM(W a b:Nat):(line W a b).length=span W a b+1:=by
 unfold line;split
 ·rename_i h;rw[h];rfl
 ·simp
theorem QC(hk:k<=span W a b):(line W a b)[k]? =some (if span W a b=0 then(a:Int) else spot W a b k):=by
 unfold line;split
 ·have:k=0:=by omega
  subst this;rfl
 ·simp only[fG]
  rw[List.getElem?_range (by omega)];rfl
end Fd
section
open Go.RowKit
variable {B b base cap g i m n z:Nat} {a:Act} {d vv x:Int} {ds ss xs:List Int} {o:Oper} {ops:Array Oper} {r:Array Value} {u u1 u2 v v4 v5:Value} {us:List Value} {w w':World}
theorem kL(W a c r:Nat)(w:World)(h1:0<W)(h2:W<=12)(h3:a<=144)(hc:a%W=c)(hr:a/W=r):
  Calls prog 226 #[int i64 (W:Nat),int i64 (a:Nat)] w λe w'=>e=.returned (.tuple #[int i64 (c:Nat),int i64 (r:Nat)])/\∃n,w'=w.drewN n:=by
 have hw:¬(W:Int)=0:=by omega
 have e1:(a:Int)%(W:Int)=(c:Nat):=by rw[<-hc];rfl
 have e2:(a:Int)/(W:Int)=(r:Nat):=by rw[<-hr];rfl
 have l1:r<=144:=by rw[<-hr];exact aJ (Nat.div_le_self _ _) h3
 clear hc hr;go_enter func226,ntmps226;go_wp2;go_quiet (fail);go_wp2;go_ret2;exact⟨by show Ending.returned (.tuple #[int i64 ((a:Int)%W),int i64 r])=_;rw[e1],_,rfl⟩
theorem QD(v:Value)(W H:Int)(gs os:List Int)(a F:Int)(fl:Bool)(w:World)(h:Fl w v W H gs os)(hF:Fd.fU (Fd.fault W H gs os) gs.length [a]=F)(h0:F≠0):
  Calls prog 152 #[v,int i64 a,.bool fl] w λe w'=>e=.returned (.tuple #[int i64 0,.iface 85 (int i64 F)])/\Below w.heap.size w w':=by
 have F0:=aj (h);have HF:=aj (hF);have H0:=aj (h0);obtain⟨u1,u2,rfl,⟨a1,c,rfl,c1,c2,ca⟩,⟨b1,d,rfl,d1,d2,cb⟩⟩:=h;clear hF h0 ca cb;go_enter func152,ntmps152;go_wp2_with fail
 refine(tJ _ _ W H gs os _ _ (F0.below (aA.alloc (by simp) _)) (Ro.EX a (by simp))).mono ?_;rintro e w1 ⟨v1,rfl,hv,hb⟩;have B1:=aj ((aA.alloc (by simp) _).trans (hb.mono (by simp;omega)));rw[HF.out] at hv;clear hb;rcases hv with⟨hz,rfl⟩|⟨hz,rfl⟩
 ·exact absurd hz H0
 ·clear hz
  go_wp2;go_ret2;exact⟨rfl,B1⟩
structure Sd(w:World):Prop where
 c0:w.cell? ⟨2,0,none⟩=some (int i64 0)
 c1:w.cell? ⟨2,1,none⟩=some (int i64 (-1))
 c2:w.cell? ⟨2,2,none⟩=some (int i64 (-1))
 c3:w.cell? ⟨2,3,none⟩=some (int i64 0)
 c4:w.cell? ⟨2,4,none⟩=some (int i64 1)
 c5:w.cell? ⟨2,5,none⟩=some (int i64 0)
 c6:w.cell? ⟨2,6,none⟩=some (int i64 0)
 c7:w.cell? ⟨2,7,none⟩=some (int i64 1)
theorem Sd.lt(h:Sd w):2<w.heap.size:=cell_lt h.c0
theorem Sd.below(h:Sd w)(hb:Below w.heap.size w w'):Sd w':=by
 have l:=h.lt;refine⟨?_,?_,?_,?_,?_,?_,?_,?_⟩
 ·rw[hb.cell (p:=⟨2,0,none⟩) l];exact h.c0
 ·rw[hb.cell (p:=⟨2,1,none⟩) l];exact h.c1
 ·rw[hb.cell (p:=⟨2,2,none⟩) l];exact h.c2
 ·rw[hb.cell (p:=⟨2,3,none⟩) l];exact h.c3
 ·rw[hb.cell (p:=⟨2,4,none⟩) l];exact h.c4
 ·rw[hb.cell (p:=⟨2,5,none⟩) l];exact h.c5
 ·rw[hb.cell (p:=⟨2,6,none⟩) l];exact h.c6
 ·rw[hb.cell (p:=⟨2,7,none⟩) l];exact h.c7
namespace Fd
def sc(k:Nat):Int:=if k=1 then -1 else if k=2 then 1 else 0
def sr(k:Nat):Int:=if k=0 then -1 else if k=3 then 1 else 0
def nb(W H p r:Nat):Nat->List Int
 |0=>[]
 |k+1=>nb W H p r k++(if(0<=(p:Int)+sc k/\(p:Int)+sc k<=(W:Int)-1)/\(0<=(r:Int)+sr k/\(r:Int)+sr k<=(H:Int)-1) then[((r:Int)+sr k)*W+(p+sc k)] else[])
theorem ZI(W H p r k:Nat):(nb W H p r k).length<=k:=by
 induction k with
 |zero=>exact aU _
 |succ k ih=>
  simp only[nb,aC];split
  ·simp;omega
  ·simp;omega
theorem WT{W H a p r:Nat}(hp:p<W)(hr:r<H)(e:W*r+p=a):nb W H p r 4=(if 0<r then[(a:Int)-W] else[])++((if 0<p then[(a:Int)-1] else[])++((if p+1<W then[(a:Int)+1] else[])++(if r+1<H then[(a:Int)+W] else[]))):=by
 have e1:(a:Int)=W*r+p:=by rw[<-e];simp
 have e2:((r:Int)+ -1)*W=W*r-W:=by rw[Int.add_mul,Int.mul_comm (r:Int) W];omega
 have e3:((r:Int)+1)*W=W*r+W:=by rw[Int.add_mul,Int.mul_comm (r:Int) W];omega
 have e4:((r:Int)+0)*W=W*r:=by rw[Int.add_zero,Int.mul_comm (r:Int) W]
 simp only[nb,List.nil_append,bT];rw[show sc 0=0 from rfl,show sc 1= -1 from rfl,show sc 2=1 from rfl,show sc 3=0 from rfl,show sr 0= -1 from rfl,show sr 1=0 from rfl,show sr 2=0 from rfl,show sr 3=1 from rfl,e2,e3,e4]
 congr 1
 ·by_cases h:0<r
  ·rw[if_pos (by omega),if_pos h];congr 1;omega
  ·rw[if_neg (by omega),if_neg h]
 ·congr 1
  ·by_cases h:0<p
   ·rw[if_pos (by omega),if_pos h];congr 1;omega
   ·rw[if_neg (by omega),if_neg h]
  ·congr 1
   ·by_cases h:p+1<W
    ·rw[if_pos (by omega),if_pos h];congr 1;omega
    ·rw[if_neg (by omega),if_neg h]
   ·by_cases h:r+1<H
    ·rw[if_pos (by omega),if_pos h];congr 1;omega
    ·rw[if_neg (by omega),if_neg h]
end Fd
theorem aa3(w:World):(Instr.index 303 (.agg #[int i64 0,int i64 (-1),int i64 (-1),int i64 0,int i64 1,int i64 0,int i64 0,int i64 1]) (int i64 0)).run prog w=.ok (.agg #[int i64 0,int i64 (-1)]) w:=by kernel_rfl
theorem aa4(w:World):(Instr.index 303 (.agg #[int i64 0,int i64 (-1),int i64 (-1),int i64 0,int i64 1,int i64 0,int i64 0,int i64 1]) (int i64 1)).run prog w=.ok (.agg #[int i64 (-1),int i64 0]) w:=by kernel_rfl
theorem aa5(w:World):(Instr.index 303 (.agg #[int i64 0,int i64 (-1),int i64 (-1),int i64 0,int i64 1,int i64 0,int i64 0,int i64 1]) (int i64 2)).run prog w=.ok (.agg #[int i64 1,int i64 0]) w:=by kernel_rfl
theorem aa6(w:World):(Instr.index 303 (.agg #[int i64 0,int i64 (-1),int i64 (-1),int i64 0,int i64 1,int i64 0,int i64 0,int i64 1]) (int i64 3)).run prog w=.ok (.agg #[int i64 0,int i64 1]) w:=by kernel_rfl
theorem WU(k:Nat)(hk:k<4)(w:World):(Instr.index 303 (.agg #[int i64 0,int i64 (-1),int i64 (-1),int i64 0,int i64 1,int i64 0,int i64 0,int i64 1]) (int i64 (k:Nat))).run prog w=.ok (.agg #[int i64 (Fd.sc k),int i64 (Fd.sr k)]) w:=by
 have h:k=0\/k=1\/k=2\/k=3:=by omega
 rcases h with rfl|rfl|rfl|rfl
 ·exact aa3 w
 ·exact aa4 w
 ·exact aa5 w
 ·exact aa6 w
theorem B_(v:Value)(W H:Nat)(gs os:List Int)(a:Nat)(w:World)(h:Fl w v W H gs os)(G:Fd.Good W H gs os)(ha:a<W*H)(hs:Sd w):
  Calls prog 237 #[v,int i64 (a:Nat)] w λe w'=>∃u,e=.returned u/\Ow w' w.heap.size u (Fd.near W H a)/\Below w.heap.size w w':=by
 have F0:=aj (h);have S0:=aj (hs);obtain⟨u1,u2,rfl,⟨a1,c,rfl,c1,c2,ca⟩,⟨b1,d,rfl,d1,d2,cb⟩⟩:=h;have gp:=G.pos.2;have W1:0<W:=G.w1;have W2:=G.w2;have H1:0<H:=G.h1;have H2:=G.h2;have A1:a<=144:=by omega
 have r1:=Nat.div_lt_of_lt_mul ha;have p1:=Nat.mod_lt a W1;have Ea:=aj (Nat.div_add_mod a W);have En:Hid (Fd.near W H a=(if 0<a/W then[(a:Int)-W] else[])++((if 0<a%W then[(a:Int)-1] else[])++((if a%W+1<W then[(a:Int)+1] else[])++(if a/W+1<H then[(a:Int)+W] else[])))):=rfl;obtain⟨p,hp⟩:∃c,a%W=c:=⟨_,rfl⟩;obtain⟨r,hr⟩:∃c,a/W=c:=⟨_,rfl⟩;rw[hp,hr] at En Ea;rw[hp] at p1;rw[hr] at r1;have Pa:Hid (a%W=p/\a/W=r):=⟨hp,hr⟩;clear hp hr hs ca cb G ha gp;go_enter func237,ntmps237;go_wp2_with fail
 refine(kL W a p r _ W1 W2 A1 Pa.1 Pa.2).mono ?_;rintro e w3 ⟨rfl,q3,hq3⟩;have B3:Hid (Below w.heap.size w w3):=by rw[hq3];exact _root_.Go.below_drewN aA _
 have X3:Hid (Bf w3 w.heap.size W H (slice a1 gs.length c) (slice b1 os.length d)):=by
  rw[hq3];have h0:=Bf.mk' (w:=w) W H (slice a1 gs.length c) (slice b1 os.length d) rfl;exact h0.below (_root_.Go.below_drewN aB _) h0.lt
 have S3:=aj (S0.below B3);clear hq3;obtain⟨x0,x1,x2,x3⟩:=X3.out;obtain⟨s0,s1,s2,s3,s4,s5,s6,s7⟩:=S3.out;go_wp2_with fail
 have Z3:=aj (X3.lt);clear s0 s1 s2 s3 s4 s5 s6 s7 S3 S0 x0 x1 x2 x3;go_loopw [5,20] (λv i W'=>∃k:Nat,k<=4/\i=int i64 (k:Nat)/\Ow W' (w.heap.size+1) v (Fd.nb W H p r k)/\Bf W' w.heap.size W H (slice a1 gs.length c) (slice b1 os.length d)/\Below w.heap.size w W') (λ_ i _=>4-(intOf i).toNat)
 case atStart=>exact⟨0,aZ _,rfl,Ow.nil _ _,X3,B3⟩
 case round=>
  obtain⟨k,hk,rfl,ho,hx,hb⟩:=hrel;clear X3 B3 Z3;have O:=aj (ho);have X:=aj (hx);have B:=aj (hb);clear ho hx hb;by_cases h0:k=4
  ·subst h0
   have En':Hid (Fd.near W H a=Fd.nb W H p r 4):=by unfold Hid;rw[En.out,Fd.WT p1 r1 Ea.out]
   go_wp2;go_ret;exact⟨_,rfl,by rw[En'.out];exact O.mono (Nat.le_succ _),B⟩
  ·have hk4:k<4:=by omega
   have hi:=WU k hk4;have l1: -1<=Fd.sc k/\Fd.sc k<=1:=by unfold Fd.sc;split<;>(try split)<;>omega
   have l2: -1<=Fd.sr k/\Fd.sr k<=1:=by unfold Fd.sr;split<;>(try split)<;>omega
   have Ek:Hid (Fd.nb W H p r (k+1)=Fd.nb W H p r k++(if(0<=(p:Int)+Fd.sc k/\(p:Int)+Fd.sc k<=(W:Int)-1)/\(0<=(r:Int)+Fd.sr k/\(r:Int)+Fd.sr k<=(H:Int)-1) then[((r:Int)+Fd.sr k)*W+(p+Fd.sc k)] else[])):=rfl;have Ll:=aj (Fd.ZI W H p r k);generalize Fd.sc k=sc at *;generalize Fd.sr k=sr at *;generalize Fd.nb W H p r k=xs at *;obtain⟨l11,l12⟩:=l1;obtain⟨l21,l22⟩:=l2;go_wp2;go_quiet (fail);clear hi;have k5:Below _ wr ((wr.alloc (cells #[int i64 sc,int i64 sr] 302)).drewN nq):=_root_.Go.below_drewN aA _;generalize (wr.alloc _).drewN nq=w5 at *;have O5:=aj (O.below k5);have X5:=aj (X.below k5 X.lt);have B5:=aG B k5;clear k5 O X B;obtain⟨x0,x1,x2,x3⟩:=X5.out;by_cases hc:0<=(p:Int)+sc/\(p:Int)+sc<=(W:Int)-1
   ·by_cases hd:0<=(r:Int)+sr/\(r:Int)+sr<=(H:Int)-1
    ·have ZJ:Hid (Fd.nb W H p r (k+1)=xs++[((r:Int)+sr)*W+(p+sc)]):=by
      have:=Ek.out;rw[if_pos ⟨hc,hd⟩] at this;exact this
     clear Ek;obtain⟨C,hC⟩:∃C:Int,(p:Int)+sc=C:=⟨_,rfl⟩;obtain⟨R,hR⟩:∃R:Int,(r:Int)+sr=R:=⟨_,rfl⟩;rw[hC] at hc ZJ ⊢;rw[hR] at hd ZJ ⊢;obtain⟨hc1,hc2⟩:=hc;obtain⟨hd1,hd2⟩:=hd;have R2:R<=11:=by omega
     have C2:C<=11:=by omega
     clear hC hR l11 l12 l21 l22;have m1:0<=R*(W:Int):=Int.mul_nonneg hd1 (by omega);have m2:R*(W:Int)<=11*12:=Int.mul_le_mul R2 (by omega) (by omega) (by omega);go_wp2_with fail
     refine(iQ _ _ _ _ hc1 hc2).mono ?_;rintro e w' ⟨rfl,rfl⟩;go_wp2_with fail
     refine(iQ _ _ _ _ hd1 hd2).mono ?_;rintro e w' ⟨rfl,rfl⟩;go_wp2_with (at_builtin;refine gG _ rfl _ _ rfl _ _ xs rfl (O5.alloc _) ⟨w'.heap.size,0,none⟩ (R*W+C) rfl (by simp) (by have:=Ll.out;omega) (by have:=X5.lt;simp;omega) ?_);intro g cap w6 o6 g6 a6 l6;have O6:=aj (o6);have hob:∀k,u5.ownBlock=some k->w.heap.size+1<=k:=λk hk=>(O5.block k hk).1
     have b6:=(aB.alloc (by have:=X5.lt;omega) _).grown g6 (by have:=X5.lt;simp;omega) hob;have X6:=aj (X5.below b6 (fC _));have B6:=aj (B5.trans (b6.mono (Nat.le_succ _)));clear o6 g6 a6 l6 hob b6 x0 x1 x2 x3 m1 m2;go_wp2;go_round
     case rel=>exact⟨k+1,by omega,by go_num,by rw[ZJ.out];exact O6,X6,B6⟩
     case measure=>simp[intOf];omega
    ·have ZJ:Hid (Fd.nb W H p r (k+1)=xs):=by
      have:=Ek.out;rw[if_neg (λh=>hd h.2),iK] at this;exact this
     clear Ek;obtain⟨hc1,hc2⟩:=hc;have hd':(r:Int)+sr<0\/(H:Int)-1<(r:Int)+sr:=by omega
     clear hd;go_wp2_with fail
     refine(iQ _ _ _ _ hc1 hc2).mono ?_;rintro e w' ⟨rfl,rfl⟩;go_wp2_with fail
     refine(rP _ _ _ _ hd').mono ?_;rintro e w' ⟨rfl,rfl⟩;go_wp2;go_round
     case rel=>exact⟨k+1,by omega,by go_num,by rw[ZJ.out];exact O5,X5,B5⟩
     case measure=>simp[intOf];omega
   ·have ZJ:Hid (Fd.nb W H p r (k+1)=xs):=by
     have:=Ek.out;rw[if_neg (λh=>hc h.1),iK] at this;exact this
    clear Ek;have hc':(p:Int)+sc<0\/(W:Int)-1<(p:Int)+sc:=by omega
    clear hc;go_wp2_with fail
    refine(rP _ _ _ _ hc').mono ?_;rintro e w' ⟨rfl,rfl⟩;go_wp2;go_round
    case rel=>exact⟨k+1,by omega,by go_num,by rw[ZJ.out];exact O5,X5,B5⟩
    case measure=>simp[intOf];omega
def Bs(w:World)(v:Value)(n:Nat)(nb:Nat->List Int):Prop:=∃x c,v=slice (some x) n c/\n<=c/\c<=9223372036854775807/\∀i,i<n->∃u,w.cell? (x.add i)=some u/\Ro w u (nb i)
theorem Bs.below{nb:Nat->List Int}(h:Bs w v n nb)(hb:Below w.heap.size w w'):Bs w' v n nb:=by
 obtain⟨x,c,h1,h2,h3,h4⟩:=h;refine⟨x,c,h1,h2,h3,λi hi=>?_⟩;obtain⟨u,hu,hr⟩:=h4 i hi;have:=cell_lt hu;exact⟨u,by rw[hb.cell (p:=x.add i) this];exact hu,hr.below hb⟩
def Ld(w:World)(v:Value)(n:Nat)(nb:Nat->List Int)(ss:List Int):Prop:=∃u1 u2,v=.agg #[u1,u2]/\Bs w u1 n nb/\Ro w u2 ss/\ss.length=n
theorem Ld.below{nb:Nat->List Int}(h:Ld w v n nb ss)(hb:Below w.heap.size w w'):Ld w' v n nb ss:=by
 obtain⟨u1,u2,h1,h2,h3,h4⟩:=h;exact⟨u1,u2,h1,h2.below hb,h3.below hb,h4⟩
structure Bl(w:World)(z:Nat)(u1 u2:Value):Prop where
 c0:w.cell? ⟨z,0,none⟩=some u1
 c1:w.cell? ⟨z,1,none⟩=some u2
theorem Bl.lt(h:Bl w z u1 u2):z<w.heap.size:=cell_lt h.c0
theorem Bl.mk'(u1 u2:Value)(hz:w.heap.size=z):Bl (w.alloc (.cells #[u1,u2] 296)) z u1 u2:=by
 subst hz;exact⟨by simp,by simp⟩
theorem Bl.below(h:Bl w z u1 u2)(hb:Below B w w')(hz:z<B):Bl w' z u1 u2:=
 ⟨by rw[hb.cell (p:=⟨z,0,none⟩) hz];exact h.c0,by rw[hb.cell (p:=⟨z,1,none⟩) hz];exact h.c1⟩
theorem Bl.kp(h:Bl w z u1 u2)(hk:Kp b w w')(hz:z≠b):Bl w' z u1 u2:=by
 have e:=hk.block z h.lt hz;exact⟨by rw[World.cell?_of_block (w:=w) (a:=⟨z,0,none⟩) e];exact h.c0,by rw[World.cell?_of_block (w:=w) (a:=⟨z,1,none⟩) e];exact h.c1⟩
theorem LG:(prog.info? 23).map (λi=>(i.zero,i.size,i.bytes))=some (some (slice none 0 0),1,24):=by kernel_rfl
theorem QE{rest:List Oper}{Q:Exit->Act->World->Prop}(w:World)(hgd:o.guard=none)(s x:Operand)
  (ho:o.op=.call {callee:=.builtin .append,args:= #[s,x],argTypes:= #[158,158]}) (base:Nat) (v:Value) (us:List Value) (hs:a.eval s=v) (hown:w.ownsRow base 23 1 v us.length us)
  (ad:Addr) (u:Value) (hx:a.eval x=slice (some ad) 1 1) (hd:w.cell? ad=some u) (hu:u.oneCell'=true) (hl:us.length<=1000000) (hbase:base<=w.heap.size)
  (h:∀g cap w',w'.ownsRow base 23 1 (slice (some ⟨g,0,none⟩) (us.length+1) cap) (us.length+1) (us++[u])->w.grownBy w' v.ownBlock->(v.ownBlock=some g\/g=w.heap.size)->g<w'.heap.size->wpList prog ops Q rest (a.put o.dst (slice (some ⟨g,0,none⟩) (us.length+1) cap)) w'):
  wpList prog ops Q (o::rest) a w:=by
 obtain⟨i0,hi,hz0,hz1,hz2⟩:=info_parts LG;refine wpList_append_lies w hgd s x 158 ho _ 23 i0 _ 1 24 underlying158 hi hz0 hz1 hz2 rfl (by decide) v _ _ hs hown ad 1 1 [u] hx rfl ?_ ?_ (by decide) (by unfold maxLen;omega) (by omega) hbase _ rfl ?_
 ·intro j e hj
  match j,hj with
  |0,hj=>simp at hj;subst hj;exact hd
 ·intro e he
  simp at he;subst he;exact hu
 ·intro g cap w' h1 h2 h3 h4
  exact h g _ w' h1 h2 h3 h4
def Apart(u v:Value):Prop:=u.ownBlock=none\/u.ownBlock≠v.ownBlock
theorem Apart.app(h:Apart u v)(hu:∀k,u.ownBlock=some k->k<z)(hg:v.ownBlock=some g\/g=z):Apart u (slice (some ⟨g,0,none⟩) n cap):=by
 rcases h with h|h
 ·exact .inl h
 ·cases hb:u.ownBlock with
  |none=>exact .inl hb
  |some k=>
   refine .inr ?_;intro e;rw[hb] at e;simp only[Value.ownBlock,Option.some.injEq] at e;rcases hg with hg|hg
   ·exact h (by rw[hg,hb,e])
   ·have:=hu k hb
    omega
theorem Apart.fresh(hu:Ow w' z u xs)(hv:∀k,v.ownBlock=some k->k<z):Apart u v:=by
 cases hb:u.ownBlock with
 |none=>exact .inl hb
 |some k=>
  refine .inr λe=>?_
  have h1:=(hu.block k hb).1;rw[hb] at e;have h2:=hv k e.symm;omega
structure uK(w:World)(base:Nat)(v4 v5:Value)(us:List Value)(nb:Nat->List Int)(ss:List Int):Prop where
 o4:w.ownsRow base 23 1 v4 us.length us
 o5:Ow w base v5 ss
 e45:Apart v5 v4
 e54:Apart v4 v5
 each:∀i u,us[i]? =some u->Ow w base u (nb i)/\Apart u v4/\Apart u v5
theorem uK.below{nb:Nat->List Int}(h:uK w base v4 v5 us nb ss)(hb:Below w.heap.size w w'):uK w' base v4 v5 us nb ss:=
 ⟨World.ownsRow.kept h.o4 (row:=none) ⟨hb.os,hb.tape,hb.output,hb.size,λk hk _=>hb.block k hk⟩ (by cases v4.ownBlock<;>simp),h.o5.below hb,h.e45,h.e54,λi u hu=>⟨(h.each i u hu).1.below hb,(h.each i u hu).2⟩⟩
theorem uK.kp{nb:Nat->List Int}(h:uK w base v4 v5 us nb ss)(hk:Kp z w w')(hz:z<base):uK w' base v4 v5 us nb ss:=by
 have hg:w.grownBy w' (some z):=⟨hk.os,hk.tape,hk.output,hk.size,λk h1 h2=>hk.block k h1 (λe=>h2 (by rw[e]))⟩;have ne:∀{u:Value} {xs:List Int},Ow w base u xs->u.ownBlock=none\/u.ownBlock≠some z:=λ{u} {xs} ho=>by
  cases hb:u.ownBlock with
  |none=>exact .inl rfl
  |some k=>
   have:=(ho.block k hb).1;exact .inr (by simp;omega)
 have ne4:v4.ownBlock=none\/v4.ownBlock≠some z:=by
  cases hb:v4.ownBlock with
  |none=>exact .inl rfl
  |some k=>
   have:=(World.ownsRow.lt h.o4 k hb).1;exact .inr (by simp;omega)
 exact⟨World.ownsRow.kept h.o4 hg ne4,h.o5.kept hg (ne h.o5),h.e45,h.e54,λi u hu=>⟨(h.each i u hu).1.kept hg (ne (h.each i u hu).1),(h.each i u hu).2⟩⟩
theorem uK.start(w:World)(base:Nat)(nb:Nat->List Int):uK w base (slice none 0 0) (slice none 0 0) [] nb []:=
 ⟨World.ownsRow_nil _ _ _ _,Ow.nil _ _,.inl rfl,.inl rfl,λi u hu=>by simp at hu⟩
theorem uK.bs{nb:Nat->List Int}(h:uK w base v4 v5 us nb ss)(hl:us.length=n)(h0:0<n):Bs w v4 n nb:=by
 rcases h.o4.2 with⟨_,e⟩|⟨g,cap,cur,hv,hb,hg,h1,h2,h3,h4⟩
 ·omega
 ·refine⟨⟨g,0,none⟩,cap,by rw[hv,hl],by omega,by unfold maxLen at h2;omega,λi hi=>?_⟩
  obtain⟨u,hu⟩:∃u,us[i]? =some u:=⟨us[i]'(by omega),aH _⟩;refine⟨u,?_,(h.each i u hu).1.ro⟩;rw[Addr.add_lit,aO];simp only[World.cell?,hg];rw[<-h4,eP,if_pos (by omega)] at hu;rw[<-Array.getElem?_toList];simpa using hu
theorem uK.list{nb:Nat->List Int}(h:uK w base v4 v5 us nb ss)(hu:Ow w base u (nb us.length))(a4:Apart u v4)(a5:Apart u v5)
  (ho:w'.ownsRow base 23 1 (slice (some ⟨g,0,none⟩) (us.length+1) cap) (us.length+1) (us++[u])) (hg:w.grownBy w' v4.ownBlock) (hat:v4.ownBlock=some g\/g=w.heap.size):
  uK w' base (slice (some ⟨g,0,none⟩) (us.length+1) cap) v5 (us++[u]) nb ss:=by
 have lt:∀{u:Value} {xs:List Int},Ow w base u xs->∀k,u.ownBlock=some k->k<w.heap.size:=λh k hk=>(h.block k hk).2
 refine⟨by rw[aC];exact ho,h.o5.kept hg h.e45,h.e45.app (lt h.o5) hat,?_,λi e he=>?_⟩
 ·rcases hat with hat|hat
  ·rcases h.e54 with h1|h1
   ·rw[hat] at h1;cases h1
   ·exact .inr (by rw[hat] at h1;exact h1)
  ·refine .inr λe=>?_
   have:=(h.o5.block g (by rw[<-e];rfl)).2;omega
 ·rw[List.getElem?_append] at he
  split at he
  ·have k:=h.each i e he
   exact⟨k.1.kept hg k.2.1,k.2.1.app (lt k.1) hat,k.2.2⟩
  ·rename_i hi
   have hi0:i=us.length:=by
    have:=(aK.1 he).1;simp at this;omega
   subst hi0;simp at he;subst he;exact⟨hu.kept hg a4,a4.app (lt hu) hat,a5⟩
theorem uK.num{nb:Nat->List Int}(h:uK w base v4 v5 us nb ss)
  (ho:Ow w' base (slice (some ⟨g,0,none⟩) (ss.length+1) cap) (ss++[d])) (hg:w.grownBy w' v5.ownBlock) (hat:v5.ownBlock=some g\/g=w.heap.size):
  uK w' base v4 (slice (some ⟨g,0,none⟩) (ss.length+1) cap) us nb (ss++[d]):=by
 have lt:∀{u:Value} {xs:List Int},Ow w base u xs->∀k,u.ownBlock=some k->k<w.heap.size:=λh k hk=>(h.block k hk).2
 have lt4:∀k,v4.ownBlock=some k->k<w.heap.size:=λk hk=>(World.ownsRow.lt h.o4 k hk).2
 refine⟨World.ownsRow.kept h.o4 hg h.e54,ho,?_,h.e54.app lt4 hat,λi e he=>?_⟩
 ·rcases hat with hat|hat
  ·rcases h.e45 with h1|h1
   ·rw[hat] at h1;cases h1
   ·exact .inr (by rw[hat] at h1;exact h1)
  ·refine .inr λe=>?_
   have:=lt4 g (by rw[<-e];rfl);omega
 ·have k:=h.each i e he
  exact⟨k.1.kept hg k.2.2,k.2.1,k.2.2.app (lt k.1) hat⟩
theorem WW(v:Value)(W H:Nat)(gs os:List Int)(fl:Bool)(w:World)(h:Fl w v W H gs os)(G:Fd.Good W H gs os)(hs:Sd w):
  Calls prog 273 #[v,.bool fl] w λe w'=>∃u1 u2 us,e=.returned (.tuple #[u1,u2,.nilIface])/\us.length=W*H/\uK w' (w.heap.size+1) u1 u2 us (Fd.near W H) (gs.map λg=>Fd.onto g fl)/\Below w.heap.size w w':=by
 have F0:=aj (h);have S0:=aj (hs);have G0:=aj (G);obtain⟨u1,u2,rfl,⟨a1,c,rfl,c1,c2,ca⟩,⟨b1,d,rfl,d1,d2,cb⟩⟩:=h;have gl:=G.gl;have gp:=G.pos;obtain⟨x,rfl,xl,hx⟩:=ca (by intro e;rw[e] at gl;simp at gl;omega);have Hx:=aj (dJ hx xl);have gl2:gs.length<=144:=by omega
 have Gl:=aj (gl);clear cb ca hs hx xl G gl gp;go_enter func273,ntmps273;go_wp2_with fail
 refine(check_any _ W H gs os _ (F0.below aA)).mono ?_;rintro e w1 ⟨v1,rfl,hv,hb⟩;have B1:=aj (aA.trans (hb.mono (by simp)));have X1:=aj ((Bf.mk' (w:=w) W H (slice (some x) gs.length c) (slice b1 os.length d) rfl).below hb (by simp));rw[Fd.eU G0.out] at hv;clear hb;rcases hv with⟨hz,rfl⟩|⟨hz,rfl⟩
 ·clear hz
  obtain⟨x0,x1,x2,x3⟩:=X1.out;go_wp2_with fail
  clear x0 x1 x2 x3;go_loopw [4,5,18] (λv4 v5 i W'=>∃(k:Nat) (us:List Value),k<=gs.length/\i=int i64 (k:Nat)/\us.length=k/\uK W' (w.heap.size+1) v4 v5 us (Fd.near W H) ((gs.take k).map λg=>Fd.onto g fl)/\Bf W' w.heap.size W H (slice (some x) gs.length c) (slice b1 os.length d)/\Below w.heap.size w W') (λ_ _ i _=>gs.length-(intOf i).toNat)
  case atStart=>exact⟨0,[],aZ _,rfl,rfl,uK.start _ _ _,X1,B1⟩
  case round=>
   obtain⟨k,us,hk,rfl,hl,hw,hX,hB⟩:=hrel;clear X1 B1;have D:=aj (hw);have X:=aj (hX);have B:=aj (hB);have Hl:=aj (hl);clear hw hX hB hl;by_cases h0:k=gs.length
   ·subst h0
    go_wp2;go_ret3;refine⟨_,_,us,rfl,by rw[Hl.out,Gl.out],?_,B⟩;have:=D.out;rw[List.take_of_length_le aN] at this;exact this
   ·have hkl:k<gs.length:=by omega
    obtain⟨g,hg⟩:∃g,gs[k]? =some g:=⟨_,aH hkl⟩;have cg:wr.cell? (x.add k)=some (int i64 g):=by rw[B.out.cell (p:=x.add k) (by rw[add_block];exact Hx.out.2)];exact Hx.1 k g hg
    have Hg:Hid ((gs.take (k+1)).map (λg=>Fd.onto g fl)=(gs.take k).map (λg=>Fd.onto g fl)++[Fd.onto g fl]):=by
     unfold Hid;rw[dM hkl,kH];rw[aH hkl] at hg;injection hg with hg
     rw[hg];rfl
    have Lk:Hid (((gs.take k).map λg=>Fd.onto g fl).length<=144):=by unfold Hid;simp;omega
    have zs:=aj (X.lt);obtain⟨x0,x1,x2,x3⟩:=X.out;clear hg;go_wp2_with fail
    refine(B_ _ W H gs os k _ (F0.below B) G0 (by rw[<-Gl.out];exact hkl) (S0.below B)).mono ?_;rintro e w2 ⟨u,rfl,hu,hb2⟩;obtain⟨ua,uc,hue⟩:=hu.len;have a4:=Apart.fresh hu (λk hk=>(World.ownsRow.lt D.o4 k hk).2);have a5:=Apart.fresh hu (λk hk=>(D.o5.block k hk).2);have A45:Hid (Apart u u4/\Apart u u5):=⟨a4,a5⟩;have ba:Below _ w2 (w2.alloc (cells #[u] 23)):=aA;have U3:Hid (Ow _ (w.heap.size+1) u _):=(hu.mono zs).below ba;have D3:=aj ((D.below hb2).below ba);have X3:=aj ((X.below hb2 X.lt).below ba (fE X.lt hb2.size));have B3:=aj ((B.trans (hb2.mono B.size)).trans (ba.mono (aJ B.size hb2.size)));have Cd:Hid ((w2.alloc (cells #[u] 23)).cell? ⟨w2.heap.size,0,none⟩=some u):=by unfold Hid;simp
    have S3:Hid (w.heap.size+1<=(w2.alloc _).heap.size):=X3.lt;clear a4 a5 ba hu hb2 D X B zs x0 x1 x2 x3 cg;subst hue;go_wp2_with (at_builtin;refine QE _ rfl _ _ rfl _ _ us rfl D3.o4 _ _ rfl Cd rfl (by rw[Hl.out];omega) S3 ?_);intro g4 cap4 w4 o4 gr4 at4 lt4;have D4:=aj (D3.list (by rw[Hl.out];exact U3) A45.1 A45.2 o4 gr4 (by simpa using at4));have b4:Below (w.heap.size+1) (w2.alloc (cells #[slice ua (Fd.near W H k).length uc] 23)) w4:=aB.grown gr4 S3 (λk hk=>(World.ownsRow.lt D3.o4 k hk).1);have X4:=aj (X3.below b4 (fC _));have B4:=aj (B3.trans (b4.mono (Nat.le_succ _)));clear o4 gr4 at4 lt4 b4 D3 X3 B3 S3 Cd U3 A45;go_wp2_with fail
    refine(AZ g fl _).mono ?_;rintro e w5 ⟨rfl,rfl⟩;obtain⟨s,hs⟩:∃s,Fd.onto g fl=s:=⟨_,rfl⟩;rw[hs] at Hg ⊢;have ba:Below _ w5 (w5.alloc (cells #[int i64 s] 3)):=aA;have D5:=aj (D4.below ba);have X5:=aj (X4.below ba X4.lt);have B5:=aG B4 ba;have Cd:Hid ((w5.alloc (cells #[int i64 s] 3)).cell? ⟨w5.heap.size,0,none⟩=some (int i64 s)):=by unfold Hid;simp
    have S5:Hid (w.heap.size+1<=(w5.alloc _).heap.size):=X5.lt;clear ba D4 X4 B4 hs;generalize (gs.take k).map _=ss at *;go_wp2_with (at_builtin;refine gG _ rfl _ _ rfl _ _ ss rfl D5.o5 _ s rfl Cd (aJ Lk (by omega)) S5 ?_);intro g6 cap6 w6 o6 gr6 at6 lt6;have D6:=aj (D5.num o6 gr6 (by simpa using at6));have b6:Below (w.heap.size+1) (w5.alloc (cells #[int i64 s] 3)) w6:=aB.grown gr6 S5 (λk hk=>(D5.o5.block k hk).1);have X6:=aj (X5.below b6 (fC _));have B6:=aj (B5.trans (b6.mono (Nat.le_succ _)));clear o6 gr6 at6 lt6 b6 D5 X5 B5 S5 Cd;go_wp2;go_round
    case rel=>exact⟨k+1,us++[slice ua _ uc],by omega,by go_num,by simp[Hl.out],by rw[Hg.out];exact D6,X6,B6⟩
    case measure=>simp[intOf];omega
 ·exact absurd rfl hz
theorem Fv:∀args w,(callFunc 274 args).run prog w=.ok (.enter 274 args) w:=by
 intro args w;go_simp
theorem Fz(x:Int)(b n c:Nat)(a:Option Addr)(w:World)(hb:w.cell? ⟨b,0,none⟩=some (slice a n c))(hn:n<=144):
  Calls prog 274 #[int i64 x,.pointer (some ⟨b,0,none⟩)] w λe w'=>e=.returned (.bool (!decide (0<=x/\x<n)))/\w'=w:=by
 by_cases h1:x<0
 ·go_enter func274,ntmps274
  go_wp2;go_ret;exact⟨by rw[decide_eq_false (by omega)];rfl,rfl⟩
 ·by_cases h2:(n:Int)<=x
  ·go_enter func274,ntmps274
   go_wp2;go_ret;exact⟨by rw[decide_eq_false (by omega)];rfl,rfl⟩
  ·go_enter func274,ntmps274
   go_wp2;go_ret;exact⟨rfl,rfl⟩
structure Lw(w:World)(z:Nat)(a b:Value):Prop where
 c0:w.cell? ⟨z,0,none⟩=some a
 c1:w.cell? ⟨z,1,none⟩=some b
 f0:w.frozen? ⟨z,0,none⟩=false
 f1:w.frozen? ⟨z,1,none⟩=false
theorem Lw.mk'{a b:Value}(h:w.heap[z]? =some (.cells #[a,b] 296 (0,0))):Lw w z a b:=
 ⟨by simp[World.cell?,h],by simp[World.cell?,h],by simp[World.frozen?,h],by simp[World.frozen?,h]⟩
theorem look_ok(v u:Value)(W H:Nat)(gs os xs:List Int)(fl:Bool)(w:World)(h:Fl w v W H gs os)(G:Fd.Good W H gs os)(hs:Sd w)(hu:Ro w u xs)(hx:xs.any (λx=> !decide (0<=x/\x<((W*H:Nat):Int)))=false):
  Calls prog 256 #[v,.bool fl,u] w λe w'=>(∃v',e=.returned (.tuple #[v',.nilIface])/\Ld w' v' (W*H) (Fd.near W H) (gs.map λg=>Fd.onto g fl))/\Below w.heap.size w w':=by
 have F0:=aj (h);have S0:=aj (hs);have G0:=aj (G);have U0:=aj (hu);have Hx:=aj (hx);obtain⟨u1,u2,rfl,⟨a1,c,rfl,c1,c2,ca⟩,⟨b1,d,rfl,d1,d2,cb⟩⟩:=h;clear hs hu hx ca cb;have Gp:=aj (G.pos.2);have Gq:Hid (0<W*H):=by have:=G.pos.1;unfold Hid;omega
 have Gl:=aj (G.gl);clear G;go_enter func256,ntmps256;go_wp2_with fail
 have b0:Below w.heap.size w ((w.alloc (cells #[int i64 W,int i64 H,slice a1 gs.length c,slice b1 os.length d] 25)).alloc (cells #[slice none 0 0,slice none 0 0] 296)):=aA.alloc (by simp) _;refine(WW _ W H gs os fl _ (F0.below b0) G0 (S0.below b0)).mono ?_;rintro e w1 ⟨p1,p2,us,rfl,hus,hD,hb⟩;obtain⟨ss,hss⟩:∃ss,(gs.map λg=>Fd.onto g fl)=ss:=⟨_,rfl⟩;have Sl:Hid (ss.length=W*H):=by unfold Hid;rw[<-hss,lG];exact Gl
 have Px:=aj (hss);rw[hss] at hD;clear hss;have B1:=aj (b0.trans (hb.mono (by simp;omega)));have blk:Hid (w1.heap[w.heap.size+1]? =some (.cells #[slice none 0 0,slice none 0 0] 296 (0,0))):=by
  unfold Hid;rw[hb.block (w.heap.size+1) (by simp)];have:=heap_alloc_new (w.alloc (cells #[int i64 W,int i64 H,slice a1 gs.length c,slice b1 os.length d] 25)) (cells #[slice none 0 0,slice none 0 0] 296);simpa using this
 have ba:Below _ w1 (w1.alloc (cells #[p2] 23)):=aA;have Hus:=aj (hus);have L2:Hid (uK (w1.alloc (cells #[p2] 23)) (w.heap.size+1+1+1) p1 p2 us (Fd.near W H) ss):=by
  have:=hD.below ba;unfold Hid;simpa using this
 have hp1:=hD.bs hus (by have:=Gq.out;omega);have hp2:=hD.o5.ro;clear hD hus;have B2:=aG B1 ba;have K2:Hid ((w1.alloc (cells #[p2] 23)).heap[w.heap.size+1]? =some (.cells #[slice none 0 0,slice none 0 0] 296 (0,0))):=by
  unfold Hid;rw[heap_alloc_old w1 _ (lt_of_block blk.out)];exact blk
 have C2:Hid ((w1.alloc (cells #[p2] 23)).cell? ⟨w1.heap.size,0,none⟩=some p2):=by unfold Hid;simp
 obtain⟨x1,e1,abX,-⟩:=hp1;obtain⟨x2,e2,abY,-⟩:=hp2;subst abX;subst abY;clear hb ba b0 blk B1;go_upto_region 2 with fail
 generalize w1.alloc _=w2 at *;have U2:=aj (U0.below B2);have c9:=C2.out;have hc:∀m,∀x∈xs,Calls prog 274 (#[int i64 x]++ #[.pointer (some ⟨w1.heap.size,0,none⟩)]) (w2.drewN m) λe w'=>e=.returned (.bool (!decide (0<=x/\x<((W*H:Nat):Int))))/\∃q,w'=w2.drewN q:=by
  intro m x _;rw[show(#[int i64 x]++ #[Value.pointer (some ⟨w1.heap.size,0,none⟩)]:Array Value)= #[int i64 x,.pointer (some ⟨w1.heap.size,0,none⟩)] from rfl];refine(Fz x _ _ e2 x2 _ ?_ Gp).mono ?_
  ·have:=C2.out
   rw[Sl.out] at this;exact this
  ·rintro e w' ⟨h1,h2⟩
   exact⟨h1,m,h2⟩
 have hh:=AA 274 Fv u #[.pointer (some ⟨w1.heap.size,0,none⟩)] xs (λx=> !decide (0<=x/\x<((W*H:Nat):Int))) w2 U2 hc;rw[Hx.out] at hh;have H3:Hid (Calls _ _ #[u,.func (Fn.func 274) _ _] w2 _):=hh;clear hh hc;go_wp2_with fail
 refine Calls.mono H3 ?_;rintro e w3 ⟨rfl,q,rfl⟩;clear H3;obtain⟨c0,c1,f0,f1⟩:=Lw.mk' (w:=w2.drewN q) K2;have L3:Hid (uK (w2.drewN q) _ _ _ us _ ss):=L2.below (_root_.Go.below_drewN aB _);have B3:Hid (Below _ w (w2.drewN q)):=_root_.Go.below_drewN B2 _;have c9:(w2.drewN q).cell? _=some _:=C2;generalize w2.drewN q=w3 at *;clear B2 L2 K2 C2;go_wp2;refine bodyPost_ret (v:=.tuple #[.agg #[slice (some x1) (W*H) e1,slice x2 ss.length e2],.nilIface]) (by simp[results,results256,go_sem,c0,c1]) rfl ?_;have kk:Kp _ w3 ((w3.setCell ⟨w.heap.size+1,0,none⟩ (slice (some x1) (W*H) e1)).setCell ⟨w.heap.size+1,1,none⟩ (slice x2 ss.length e2)):=(Kp.set _ _ _).trans (Kp.set _ _ _);refine⟨⟨_,rfl,?_⟩,(B3.setCell (Nat.le_succ _) _).setCell (Nat.le_succ _) _⟩;rw[Px.out];have D5:=L3.kp kk (by omega);exact⟨_,_,rfl,D5.bs Hus Gq,D5.o5.ro,Sl⟩
def Qu(w:World)(base:Nat)(v:Value)(xs:List Int):Prop:=∃g off cap cur,v=slice (some ⟨g,off,none⟩) xs.length cap/\base<=g/\w.heap[g]? =some (.cells cur 3 (0,0))/\xs.length<=cap/\cap<=maxLen/\off+cap<=cur.size/\∀(j:Nat) d,xs[j]? =some d->cur[off+j]? =some (int i64 d)
theorem Qu.kept(h:Qu w base v xs)(hk:∀k,base<=k->k<w.heap.size->w'.heap[k]? =w.heap[k]?):Qu w' base v xs:=by
 obtain⟨g,off,cap,cur,h1,h2,h3,h4⟩:=h;exact⟨g,off,cap,cur,h1,h2,by rw[hk g h2 (lt_of_block h3)];exact h3,h4⟩
theorem Qu.below(h:Qu w base v xs)(hb:Below w.heap.size w w'):Qu w' base v xs:=h.kept λk _ hk=>hb.block k hk
theorem Qu.kp(h:Qu w base v xs)(hk:Kp b w w')(hb:b<base):Qu w' base v xs:=h.kept λk h1 h2=>hk.block k h2 (by omega)
theorem Qu.drewN(h:Qu w base v xs)(n:Nat):Qu (w.drewN n) base v xs:=h
theorem Qu.one{w:World}{base z:Nat}(d:Int)(hb:base<=w.heap.size)(hz:w.heap.size=z):Qu (w.alloc (.cells #[int i64 d] 3)) base (slice (some ⟨z,0,none⟩) 1 1) [d]:=by
 subst hz;refine⟨_,0,1,_,rfl,hb,heap_alloc_new w _,aU _,by unfold maxLen;decide,aU _,λj e he=>?_⟩
 match j,he with
 |0,he=>simp at he;subst he;rfl
theorem Qu.first(h:Qu w base v (x::xs)):∃g off cap,v=slice (some ⟨g,off,none⟩) (xs.length+1) cap/\xs.length+1<=cap/\cap<=9223372036854775807/\w.cell? ⟨g,off,none⟩=some (int i64 x):=by
 obtain⟨g,off,cap,cur,h1,h2,h3,h4,h5,h6,h7⟩:=h;refine⟨g,off,cap,h1,h4,by unfold maxLen at h5;omega,?_⟩;have:=h7 0 x rfl;simp only[World.cell?,h3];exact this
theorem Qu.rest(h:Qu w base v (x::xs)):∃v',Qu w base v' xs/\∀W,(Instr.slice 23 v (some (int i64 1)) none none).run prog W=.ok v' W:=by
 obtain⟨g,off,cap,cur,h1,h2,h3,h4,h5,h6,h7⟩:=h;subst h1;obtain⟨i0,hi,hz0,hz1,hz2⟩:=info_parts lS;have hu:prog.underlying 23=some (.slice 3):=underlying23;have he:prog.elem 23=3:=by simp[Program.elem,hu]
 simp only[dI] at h4 h6;have h5':cap<=9223372036854775807:=by unfold maxLen at h5;omega
 by_cases hc:cap=1
 ·subst hc
  have hx:xs=[]:=List.length_eq_zero_iff.1 (by omega);subst hx;refine⟨slice _ 0 0,⟨g,off,0,cur,rfl,h2,h3,aU _,by omega,by omega,λj d hd=>by simp at hd⟩,λW=>?_⟩;refine(run_slice_l W 23 _ 1 1 (by rw[he];exact hu) _ 1 (by decide) (by decide)).trans ?_;rw[he];simp[sizeOf,typeInfo,hi,hz1,sliced]
 ·refine⟨slice _ _ _,⟨g,off+1,cap-1,cur,rfl,h2,h3,by omega,by omega,by omega,λj d hd=>?_⟩,λW=>?_⟩
  ·have:=h7 (j+1) d (by simpa using hd)
   rwa[show off+(j+1)=off+1+j by omega] at this
  ·refine(run_slice_l W 23 _ (xs.length+1) _ (by rw[he];exact hu) _ 1 (by decide) (by omega)).trans ?_
   rw[he];simp[sizeOf,typeInfo,hi,hz1,sliced,hc,Addr.add_lit]
theorem YO{rest:List Oper}{Q:Exit->Act->World->Prop}(w:World)(hgd:o.guard=none)(s x:Operand)
  (ho:o.op=.call {callee:=.builtin .append,args:= #[s,x],argTypes:= #[23,23]}) (base:Nat) (v:Value) (xs:List Int) (hs:a.eval s=v) (hq:Qu w base v xs)
  (ad:Addr) (d:Int) (hx:a.eval x=slice (some ad) 1 1) (hd:w.cell? ad=some (int i64 d)) (hl:xs.length<=1000000) (hbase:base<=w.heap.size)
  (h:∀v' w',Qu w' base v' (xs++[d])->Below base w w'->wpList prog ops Q rest (a.put o.dst v') w'):
  wpList prog ops Q (o::rest) a w:=by
 obtain⟨i0,hi,hz0,hz1,hz2⟩:=info_parts lS;obtain⟨g,off,cap,cur,h1,h2,h3,h4,h5,h6,h7⟩:=hq;subst h1;have hcell:∀k,k<cur.size->w.cell? ⟨g,k,none⟩=cur[k]? :=λk hk=>by simp[World.cell?,h3]
 refine wpList_append_arg w hgd s x 23 ho 3 i0 _ 1 8 underlying23 hi hz0 hz1 hz2 rfl (by decide) g _ _ _ (xs.map (int i64)) hs (by simp) ?_ ad 1 1 [int i64 d] hx rfl ?_ ?_ ?_ (by unfold maxLen;omega) (by omega) ?_ ?_
 ·intro j u hj
  rw[fG] at hj;cases hxj:xs[j]? with
  |none=>rw[hxj] at hj;cases hj
  |some y=>
   rw[hxj] at hj;simp only[Option.map_some,Option.some.injEq] at hj;have hlt:=(aK.1 hxj).1;rw[hcell _ (by omega),h7 j y hxj,hj]
 ·intro j u hj
  match j,hj with
  |0,hj=>simp at hj;subst hj;exact hd
 ·intro u hu
  simp at hu;subst hu;rfl
 ·intro hr j hj
  have hj0:j=0:=by
   have:[int i64 d].length=1:=rfl;omega
  subst hj0;rw[hcell _ (by omega)];refine⟨?_,by simp[World.frozen?,h3]⟩;rw[Array.getElem?_eq_getElem (by omega)];rfl
 ·intro hr
  refine h _ _ ?_ ?_
  ·refine⟨g,off,cap,cur.setIfInBounds (off+xs.length) (int i64 d),by simp,h2,?_,by simpa using hr,h5,by simpa using h6,λj e he=>?_⟩
   ·have:=heap_setCell_same w g (off+xs.length) _ _ (int i64 d) h3
    simpa[World.setCells] using this
   ·rw[List.getElem?_append] at he
    by_cases hj:j<xs.length
    ·rw[if_pos hj] at he
     rw[Array.getElem?_setIfInBounds_ne (by omega)];exact h7 j e he
    ·rw[if_neg hj] at he
     have hj0:j-xs.length=0:=by
      rcases Nat.eq_zero_or_pos (j-xs.length) with h|h
      ·exact h
      ·rw[List.getElem?_eq_none (by simp;omega)] at he;cases he
     rw[hj0] at he;simp at he;subst he;rw[show off+j=off+xs.length by omega,Array.getElem?_setIfInBounds_self_of_lt (by omega)]
  ·simp only[World.setCells,Nat.mul_one]
   exact⟨rfl,rfl,rfl,by simp[World.setCell],λk hk=>Below.heap_setCell _ _ _ _ (by show k≠g;omega)⟩
 ·intro hg v' w' ho' hgr
  refine h _ _ ?_ (aB.grown hgr hbase (λk hk=>by cases hk));rcases ho'.2 with⟨_,h0⟩|⟨g',cap',cur',e1,e2,e3,e4,e5,e6,e7⟩
  ·omega
  ·refine⟨g',0,cap',cur',by rw[e1];simp,by omega,e3,by simpa using e4,e5,by omega,λj e he=>?_⟩
   rw[aO,<-Array.getElem?_toList];have hj:j<xs.length+1:=by
    have:=(aK.1 he).1;simpa using this
   have:(cur'.toList.take ((xs.length+1)*1))[j]? =some (int i64 e):=by
    rw[e7,show xs.map (int i64)++[int i64 d]=(xs++[d]).map (int i64) by simp,fG,he];rfl
   rw[eP,if_pos (by omega)] at this;exact this
def intCells(ds:List Int):List Value:=ds.map λd=>int i64 d
def Bk(w:World)(b:Nat)(ds:List Int)(r:Array Value):Prop:=w.heap[b]? =some (.cells ((intCells ds).toArray++r) 3 (0,0))
theorem Bk.cell(h:Bk w b ds r)(hd:ds[i]? =some d):w.cell? ⟨b,i,none⟩=some (int i64 d):=by
 have hi:=(aK.1 hd).1;unfold Bk at h;simp only[World.cell?,h];simp[intCells,Array.getElem?_append,hi];exact(aK.1 hd).2
theorem Bk.thaw(h:Bk w b ds r)(i:Nat):w.frozen? ⟨b,i,none⟩=false:=by
 unfold Bk at h;simp[World.frozen?,h]
theorem Bk.set(h:Bk w b ds r)(i:Nat)(d:Int)(hi:i<ds.length):Bk (w.setCell ⟨b,i,none⟩ (int i64 d)) b (ds.set i d) r:=by
 unfold Bk at *;rw[heap_setCell_same w b i _ _ _ h];have e:(intCells (ds.set i d)).toArray=(intCells ds).toArray.setIfInBounds i (int i64 d):=by
  simp[intCells,List.map_set]
 rw[e];have hl:i<(intCells ds).toArray.size:=by simpa[intCells] using hi
 rw[Array.setIfInBounds_append_left hl]
theorem Bk.drewN(h:Bk w b ds r)(n:Nat):Bk (w.drewN n) b ds r:=h
theorem Bk.kp(h:Bk w b ds r)(hk:Kp z w w')(hne:b≠z):Bk w' b ds r:=by
 unfold Bk at *;rw[hk.block b (lt_of_block h) hne];exact h
theorem Bk.below(h:Bk w b ds r)(hb:Below w.heap.size w w'):Bk w' b ds r:=by
 unfold Bk at *;rw[hb.block b (lt_of_block h)];exact h
theorem Bk.lt(h:Bk w b ds r):b<w.heap.size:=lt_of_block h
theorem Bk.ro{c:Nat}(h:Bk w b ds r)(h1:ds.length<=c)(h2:c<=9223372036854775807):Ro w (slice (some ⟨b,0,none⟩) ds.length c) ds:=
 ⟨_,c,rfl,h1,h2,λ_=>⟨_,rfl,h.lt,λi d hd=>by rw[Addr.add_lit,aO];exact h.cell hd⟩⟩
theorem Bk.other(h:Bk w b ds r)(hne:b≠g)(i:Nat)(u:Value):Bk (w.setCell ⟨g,i,none⟩ u) b ds r:=by
 unfold Bk at *;rw[Below.heap_setCell _ _ _ _ hne];exact h
theorem Bk.low(h:Bk w b ds r)(hb:Below B w w')(hB:b<B):Bk w' b ds r:=by
 unfold Bk at *;rw[hb.block b hB];exact h
theorem WX(n:Nat)(h:n<=144):n&&& 4294967295=n:=by
 have:=Nat.and_two_pow_sub_one_eq_mod n 32;rw[show 2^32-1=4294967295 from rfl] at this;rw[this];exact Nat.mod_eq_of_lt (by omega)
theorem LH(n:Nat)(w:World)(h:n<=144):
  Calls prog 168 #[.int .u64 1,.int .u64 (n:Nat)] w λe w'=>e=.returned (.tuple #[.int .u64 0,.int .u64 (n:Nat)])/\w'=w:=by
 have e1:bits BinOp.and IntKind.u64 1 4294967295=1:=bits_and_u64_nat 1 4294967295 (by omega) (by omega);have e2:bits BinOp.and IntKind.u64 (n:Int) 4294967295=(n:Int):=by
  have:=bits_and_u64_nat n 4294967295 (by omega) (by omega);rw[WX n h] at this;exact this
 have e3:(n:Int)/4294967296=0:=by omega
 have e4:bits BinOp.and IntKind.u64 0 4294967295=0:=bits_and_u64_nat 0 4294967295 (by omega) (by omega);go_enter func168,ntmps168;go_wp2;go_ret2;exact⟨rfl,rfl⟩
theorem mul_one(n:Nat)(w:World)(h:n<=144):
  Calls prog 132 #[.int .u64 1,.int .u64 (n:Nat)] w λe w'=>e=.returned (.tuple #[.int .u64 0,.int .u64 (n:Nat)])/\w'=w:=by
 go_enter func132,ntmps132;go_wp2_with (go_at_call 168;refine(LH _ _ h).mono ?_;rintro e w' ⟨rfl,rfl⟩);go_ret2;exact⟨rfl,rfl⟩
def jK(vv:Int)(n m:Nat):Array Value:=(List.replicate m (int i64 vv)++List.replicate (n-m) (int i64 0)).toArray
def Rp(vv:Int)(w:World)(b n m:Nat):Prop:=w.heap[b]? =some (.cells (jK vv n m) 3 (0,0))
theorem Rp.bk(h:Rp vv w b n n):Bk w b (List.replicate n vv) #[]:=by
 unfold Rp at h;unfold Bk;rw[h];simp[intCells,jK]
theorem Rp.cell(h:Rp vv w b n m)(hi:i<m):w.cell? ⟨b,i,none⟩=some (int i64 vv):=by
 unfold Rp at h;simp only[World.cell?,h];simp[jK,List.getElem?_append,hi]
theorem Rp.lt(h:Rp vv w b n m):b<w.heap.size:=lt_of_block h
theorem Rp.drewN(h:Rp vv w b n m)(k:Nat):Rp vv (w.drewN k) b n m:=h
theorem LJ:(prog.info? 3).map (·.size)=some 1:=by kernel_rfl
theorem QF(a z:Value)(n m k:Nat)(h:m+k<=n):(List.replicate m a++List.replicate (n-m) z).take m++List.replicate k a++(List.replicate m a++List.replicate (n-m) z).drop (m+k)=List.replicate (m+k) a++List.replicate (n-(m+k)) z:=by
 rw[List.take_left' (by simp),List.drop_append,jB,List.drop_eq_nil_of_le (by simp),List.nil_append,List.drop_replicate,List.replicate_append_replicate]
 congr 2
 omega
theorem Jy(vv:Int)(w:World)(b n m k:Nat)(dLen dCap sLen sCap:Nat)(x:Addr)(h:Rp vv w b n m)(hn:k=Nat.min sLen dLen)(hk:m+k<=n)(hs:∀j,j<k->w.cell? (x.add j)=some (int i64 vv)):
  (Builtin.copy_ #[23,23] 3 #[slice (some ⟨b,m,none⟩) dLen dCap,slice (some x) sLen sCap]).run prog w=.ok (int i64 (k:Nat)) (w.setRow b (jK vv n (m+k)))/\Rp vv (w.setRow b (jK vv n (m+k))) b n (m+k)/\Kp b w (w.setRow b (jK vv n (m+k))):=by
 unfold Rp at h;have r:=run_copy_row (P:=prog) w 23 23 3 3 b m dLen dCap x sLen sCap _ 3 (List.replicate k (int i64 vv)) underlying23 LJ h (by simp[hn]) (λj v hv=>by
  rw[oZ] at hv;split at hv
  ·injection hv with hv
   rw[<-hv];exact hs j (by assumption)
  ·cases hv) (by simp[jK];omega) (λv hv=>by rw[List.eq_of_mem_replicate hv];rfl)
 rw[jB,show(jK vv n m).toList=List.replicate m (int i64 vv)++List.replicate (n-m) (int i64 0) from rfl,QF _ _ n m k hk] at r;exact⟨r,setRow_heap w b _ _ _ _ h,⟨rfl,rfl,rfl,by simp,λi _ hi=>setRow_other w b i _ hi⟩⟩
theorem xP(vv:Int)(u:Value)(n:Nat)(w:World)(hu:Ro w u [vv])(n0:0<n)(n1:n<=144):
  Calls prog 82 #[u,int i64 (n:Nat)] w λe w'=>∃b,e=.returned (slice (some ⟨b,0,none⟩) n n)/\w.heap.size<=b/\Bk w' b (List.replicate n vv) #[]/\Below w.heap.size w w':=by
 obtain⟨a,c,rfl,c1,c2,ca⟩:=hu;obtain⟨x,rfl,xl,hx⟩:=ca (by simp);have cx:Hid (w.cell? (x.add 0)=some (int i64 vv)/\x.block<w.heap.size):=⟨hx 0 _ rfl,xl⟩;clear ca hx xl;simp only[dI,aS,aO] at c1 ⊢;go_enter func82,ntmps82;go_wp2_with fail
 refine(mul_one _ _ n1).mono ?_;rintro e w' ⟨rfl,rfl⟩;have h9:¬(9223372036854775807:Int)<(n:Int):=by omega
 go_wp2_with (at_make;obtain⟨i0,hi,hz0,hz1,hz2⟩:=info_parts lS;refine wpList_make_full _ rfl _ _ 23 rfl _ 3 i0 _ 1 underlying23 hi hz0 hz1 _ _ _ _ n rfl rfl rfl rfl (by rw[hz2];omega) (by unfold maxLen;omega) aN ?_);intro w1 o1 g1;clear hi hz0 hz1 hz2 h9;have P1:Hid (Rp vv w1 w'.heap.size n 0):=by
  rcases o1.2 with⟨h,_⟩|⟨g,cap,cur,hv,hb,hg,h1,h2,h3,h4⟩
  ·cases h
  ·cases hv
   unfold Hid Rp jK;rw[hg]
   congr 1
   have e:cur.toList=List.replicate n (int i64 0):=by
    have:=toList_madeCells_one (int i64 0) n;rw[List.take_of_length_le (by simp;omega)] at h4;rw[h4];exact this
   simp only[List.replicate_zero,List.nil_append,Nat.sub_zero];rw[<-e]
 have B1:=aj (aB.grown g1 aN (λk hk=>by cases hk));clear o1 g1;obtain⟨r2,p2,k2⟩:=Jy vv w1 w'.heap.size n 0 1 n n 1 c x P1 (by show 1=min 1 n;omega) (by omega) (λj hj=>by
  rw[show j=0 by omega,B1.out.cell (p:=x.add 0) (by rw[add_block];exact cx.out.2)];exact cx.1)
 simp only[aO] at r2 p2 k2;generalize w1.setRow _ _=w2 at *;have P2:=aj (p2);have B2:=aj (k2.below B1 B1.size aN);clear p2 k2 P1 B1;go_wp2;clear r2;obtain⟨z,hz⟩:∃z,w'.heap.size=z:=⟨_,rfl⟩;rw[hz] at P2 B2;simp only[hz];have Hz:=aj (hz);clear hz;go_loopw [8] (λi W'=>∃m:Nat,1<=m/\m<=n/\i=int i64 (m:Nat)/\Rp vv W' z n m/\Below z w' W') (λi _=>n-(intOf i).toNat)
 case atStart=>exact⟨1,aU _,n0,rfl,P2,B2⟩
 case round=>
  obtain⟨m,m1,m2,rfl,hp,hb⟩:=hrel;have P:=aj (hp);have B:=aj (hb);clear hp hb P2 B2;by_cases h0:m=n
  ·subst h0
   go_wp2;go_ret;exact⟨z,rfl,by rw[Hz.out];exact aU _,P.bk,by rw[Hz.out];exact B⟩
  ·have hm:m<n:=by omega
   obtain⟨k,hk⟩:∃k,k=Nat.min m (n-m):=⟨_,rfl⟩;have hk':k<=m/\k<=n-m/\0<k:=by
    have:k=min m (n-m):=hk;omega
   have rr:(Builtin.copy_ #[23,23] 3 #[slice (some ⟨z,m,none⟩) (n-m) (n-m),slice (some ⟨z,0,none⟩) m n]).run prog wr.drew=.ok (int i64 (k:Nat)) (wr.drew.setRow z (jK vv n (m+k)))/\_:=
    Jy vv wr.drew z n m k (n-m) (n-m) m n ⟨z,0,none⟩ P hk (by omega) (λj hj=>by
     rw[Addr.add_lit,aO];exact Rp.cell P (by omega))
   obtain⟨r1,p1,q1⟩:=rr;have P1:=aj (p1);have B1:=aj (q1.below B.drew (by have:=P.lt;show z<=wr.heap.size;omega) aN);obtain⟨k1,k2,k3⟩:=hk';clear hk p1 q1;generalize wr.drew.setRow z _=w3 at *;go_wp2;go_region;clear r1;go_wp2;go_round
   case rel=>exact⟨m+k,by omega,by omega,by go_num,P1,B1⟩
   case measure=>simp[intOf];omega
end
end Go.Proofs.YtolfphmdmpehdaaGreatDoor
