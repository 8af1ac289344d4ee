/- slices.stableCmpFunc of at most 60 orders: stab_d. And more. -/
import Derived.Test.YtolfphmdmpehdaaGreatDoorZTopQuiet7
set_option linter.unusedVariables false
set_option linter.unusedSimpArgs false
set_option maxHeartbeats 64000000
set_option maxRecDepth 100000
open Go.Value (int slice)
open Go.IntKind (i64)
namespace Go.Proofs.YtolfphmdmpehdaaGreatDoor
open Go.RowKit Go.Proofs.YtolfphmdmpehdaaGreatDoor.So
theorem Rf(U1 U2 U3 U4:List T)(g cap n:Nat)(rest:List Value)(w:World)(h1:U1.length=20)(h2:U2.length=20)(h3:U3.length=20)(h4:U4.length=0)(hU:(U1++U2++U3++U4).Pairwise (λx y=>x.2<y.2))(hr:Rb w g (fs (U1++U2++U3++U4)) rest)(hn:n=60):
  Calls Tryz.prog 186 #[slice (some ⟨g,0,none⟩) n cap,int i64 (n:Nat),.func (.func 151) #[] #[]] w (gB (U1++U2++U3++U4) g rest w):=by
 have R0:=aj (hr);have HU:=aj (hU);have HL:Hid (U1.length=20/\U2.length=20/\U3.length=20/\U4.length=0/\n<=60):=⟨h1,h2,h3,h4,by omega⟩;have le20:(20:Int)<=(n:Nat):=by omega
 have le40:(40:Int)<=(n:Nat):=by omega
 have le60:(60:Int)<=(n:Nat):=by omega
 have le80:¬(80:Int)<=(n:Nat):=by omega
 have lt20:(20:Int)<(n:Nat):=by omega
 have lt40:(40:Int)<(n:Nat):=by omega
 have lt80:¬(80:Int)<(n:Nat):=by omega
 have lt60:¬(60:Int)<(n:Nat):=by omega
 have HN:=aj (hn);clear hn;clear hr hU h1 h2 h3 h4;go_enter Tryz.func186,Tryz.ntmps186;go_wp2_with fail
 refine wp_loop_rounds 4 ?_;rw[rounds_succ];go_wp2_with fail
 have C:Calls _ _ _ _ _:=dV ([]) U1 (U2++U3++U4) g cap n 0 20 rest w ((List.pairwise_append.1 (List.pairwise_append.1 (List.pairwise_append.1 HU.out).1).1).1) (by have:=R0.out;simpa[fs] using this) (by have q1:=HL.out;have q2:=HN.out;(try simp only[List.length_append,List.length_nil]);omega) (by have:=HL.out;omega) (by have q1:=HL.out;have q2:=HN.out;(try simp only[List.length_append,List.length_nil]);omega) (by have q1:=HL.out;have q2:=HN.out;(try simp only[List.length_append,List.length_nil]);omega);refine Calls.mono C ?_;clear C;rintro er v1 ⟨rfl,S1,hp,hs,hr,hk⟩;have R1:Hid (Rb v1 g (fs (S1++U2++U3++U4)) rest):=by unfold Hid;simpa[fs] using hr
 have P1:Hid (S1.Perm U1/\S1.Pairwise lt):=⟨hp,hs⟩;have K1:=aj (hk);clear hp hs hr hk;go_wp2_with fail
 rw[rounds_succ];go_wp2_with fail
 have C:Calls _ _ _ _ _:=dV (S1) U2 (U3++U4) g cap n 20 40 rest v1 ((List.pairwise_append.1 (List.pairwise_append.1 (List.pairwise_append.1 HU.out).1).1).2.1) (by have:=R1.out;simpa[fs] using this) (by have q1:=HL.out;have q2:=HN.out;have z1:=P1.out.1.length_eq;(try simp only[List.length_append,List.length_nil]);omega) (by have:=HL.out;omega) (by have q1:=HL.out;have q2:=HN.out;have z1:=P1.out.1.length_eq;(try simp only[List.length_append,List.length_nil]);omega) (by have q1:=HL.out;have q2:=HN.out;have z1:=P1.out.1.length_eq;(try simp only[List.length_append,List.length_nil]);omega);refine Calls.mono C ?_;clear C;rintro er v2 ⟨rfl,S2,hp,hs,hr,hk⟩;have R2:Hid (Rb v2 g (fs (S1++S2++U3++U4)) rest):=by unfold Hid;simpa[fs] using hr
 have P2:Hid (S2.Perm U2/\S2.Pairwise lt):=⟨hp,hs⟩;have K2:=aj (K1.out.trans hk);clear hp hs hr hk;go_wp2_with fail
 rw[rounds_succ];go_wp2_with fail
 have C:Calls _ _ _ _ _:=dV (S1++S2) U3 (U4) g cap n 40 60 rest v2 ((List.pairwise_append.1 (List.pairwise_append.1 HU.out).1).2.1) (by have:=R2.out;simpa[fs] using this) (by have q1:=HL.out;have q2:=HN.out;have z1:=P1.out.1.length_eq;have z2:=P2.out.1.length_eq;(try simp only[List.length_append,List.length_nil]);omega) (by have:=HL.out;omega) (by have q1:=HL.out;have q2:=HN.out;have z1:=P1.out.1.length_eq;have z2:=P2.out.1.length_eq;(try simp only[List.length_append,List.length_nil]);omega) (by have q1:=HL.out;have q2:=HN.out;have z1:=P1.out.1.length_eq;have z2:=P2.out.1.length_eq;(try simp only[List.length_append,List.length_nil]);omega);refine Calls.mono C ?_;clear C;rintro er v3 ⟨rfl,S3,hp,hs,hr,hk⟩;have R3:Hid (Rb v3 g (fs (S1++S2++S3++U4)) rest):=by unfold Hid;simpa[fs] using hr
 have P3:Hid (S3.Perm U3/\S3.Pairwise lt):=⟨hp,hs⟩;have K3:=aj (K2.out.trans hk);clear hp hs hr hk;go_wp2_with fail
 rw[rounds_succ];go_wp2_with fail
 have C:Calls _ _ _ _ _:=dV (S1++S2++S3) U4 ([]) g cap n 60 (n:Nat) rest v3 ((List.pairwise_append.1 HU.out).2.1) (by have:=R3.out;simpa[fs] using this) (by have q1:=HL.out;have q2:=HN.out;have z1:=P1.out.1.length_eq;have z2:=P2.out.1.length_eq;have z3:=P3.out.1.length_eq;(try simp only[List.length_append,List.length_nil]);omega) (by have:=HL.out;omega) (by have q1:=HL.out;have q2:=HN.out;have z1:=P1.out.1.length_eq;have z2:=P2.out.1.length_eq;have z3:=P3.out.1.length_eq;(try simp only[List.length_append,List.length_nil]);omega) (by have q1:=HL.out;have q2:=HN.out;have z1:=P1.out.1.length_eq;have z2:=P2.out.1.length_eq;have z3:=P3.out.1.length_eq;(try simp only[List.length_append,List.length_nil]);omega);refine Calls.mono C ?_;clear C;rintro er v4 ⟨rfl,S4,hp,hs,hr,hk⟩;have R4:Hid (Rb v4 g (fs (S1++S2++S3++S4)) rest):=by unfold Hid;simpa[fs] using hr
 have P4:Hid (S4.Perm U4/\S4.Pairwise lt):=⟨hp,hs⟩;have K4:=aj (K3.out.trans hk);clear hp hs hr hk;go_wp2_with fail
 refine wp_loop_rounds 3 ?_;rw[rounds_succ];go_wp2_with fail
 refine wp_loop_rounds 2 ?_;rw[rounds_succ];go_wp2_with fail
 have TG:Hid (∀x∈S1,∀y∈S2,x.2<y.2):=λx hx y hy=>by have h1:=P1.out.1.mem_iff.1 hx;have h2:=P2.out.1.mem_iff.1 hy;have h3:=HU.out;have e:(U1)++(U2)++(U3++U4)=U1++U2++U3++U4:=(by simp);rw[<-e,List.pairwise_append] at h3;exact(List.pairwise_append.1 h3.1).2.2 x h1 y h2
 have C:Calls _ _ _ _ _:=rM ([]) S1 S2 (S3++S4) g cap n 0 20 40 rest v4 (dD (by have q1:=HL.out;have q2:=HN.out;have z0:=P1.out.1.length_eq;have z1:=P2.out.1.length_eq;have z2:=P3.out.1.length_eq;have z3:=P4.out.1.length_eq;(try simp only[List.length_append] at z0 z1 z2 z3);(try simp only[List.length_append,List.length_nil]);omega)) (dD (by have q1:=HL.out;have q2:=HN.out;have z0:=P1.out.1.length_eq;have z1:=P2.out.1.length_eq;have z2:=P3.out.1.length_eq;have z3:=P4.out.1.length_eq;(try simp only[List.length_append] at z0 z1 z2 z3);(try simp only[List.length_append,List.length_nil]);omega)) P1.out.2 P2.out.2 TG.out (by have:=R4.out;simpa[fs] using this) (by have q1:=HL.out;have q2:=HN.out;have z0:=P1.out.1.length_eq;have z1:=P2.out.1.length_eq;have z2:=P3.out.1.length_eq;have z3:=P4.out.1.length_eq;(try simp only[List.length_append] at z0 z1 z2 z3);(try simp only[List.length_append,List.length_nil]);omega) (by have:=HL.out;omega) (by have q1:=HL.out;have q2:=HN.out;have z0:=P1.out.1.length_eq;have z1:=P2.out.1.length_eq;have z2:=P3.out.1.length_eq;have z3:=P4.out.1.length_eq;(try simp only[List.length_append] at z0 z1 z2 z3);(try simp only[List.length_append,List.length_nil]);omega) (by have q1:=HL.out;have q2:=HN.out;have z0:=P1.out.1.length_eq;have z1:=P2.out.1.length_eq;have z2:=P3.out.1.length_eq;have z3:=P4.out.1.length_eq;(try simp only[List.length_append] at z0 z1 z2 z3);(try simp only[List.length_append,List.length_nil]);omega) (by have q1:=HL.out;have q2:=HN.out;have z0:=P1.out.1.length_eq;have z1:=P2.out.1.length_eq;have z2:=P3.out.1.length_eq;have z3:=P4.out.1.length_eq;(try simp only[List.length_append] at z0 z1 z2 z3);(try simp only[List.length_append,List.length_nil]);omega);refine Calls.mono C ?_;clear C;rintro er v5 ⟨rfl,S5,hp,hs,hr,hk⟩;have R5:Hid (Rb v5 g (fs (S5++S3++S4)) rest):=by unfold Hid;simpa[fs] using hr
 have P5:Hid (S5.Perm (U1++U2)/\S5.Pairwise lt):=⟨hp.trans (P1.out.1.append P2.out.1),hs⟩;have K5:=aj (K4.out.trans hk);clear hp hs hr hk TG;go_wp2_with fail
 rw[rounds_succ];go_wp2_with fail
 rw[rounds_succ];go_wp2_with fail
 refine wp_loop_rounds 1 ?_;rw[rounds_succ];go_wp2_with fail
 have TG:Hid (∀x∈S5,∀y∈S3,x.2<y.2):=λx hx y hy=>by have h1:=P5.out.1.mem_iff.1 hx;have h2:=P3.out.1.mem_iff.1 hy;have h3:=HU.out;have e:(U1++U2)++(U3)++(U4)=U1++U2++U3++U4:=(by simp);rw[<-e,List.pairwise_append] at h3;exact(List.pairwise_append.1 h3.1).2.2 x h1 y h2
 have C:Calls _ _ _ _ _:=rM ([]) S5 S3 (S4) g cap n 0 40 (n:Nat) rest v5 (dD (by have q1:=HL.out;have q2:=HN.out;have z0:=P5.out.1.length_eq;have z1:=P3.out.1.length_eq;have z2:=P4.out.1.length_eq;(try simp only[List.length_append] at z0 z1 z2);(try simp only[List.length_append,List.length_nil]);omega)) (dD (by have q1:=HL.out;have q2:=HN.out;have z0:=P5.out.1.length_eq;have z1:=P3.out.1.length_eq;have z2:=P4.out.1.length_eq;(try simp only[List.length_append] at z0 z1 z2);(try simp only[List.length_append,List.length_nil]);omega)) P5.out.2 P3.out.2 TG.out (by have:=R5.out;simpa[fs] using this) (by have q1:=HL.out;have q2:=HN.out;have z0:=P5.out.1.length_eq;have z1:=P3.out.1.length_eq;have z2:=P4.out.1.length_eq;(try simp only[List.length_append] at z0 z1 z2);(try simp only[List.length_append,List.length_nil]);omega) (by have:=HL.out;omega) (by have q1:=HL.out;have q2:=HN.out;have z0:=P5.out.1.length_eq;have z1:=P3.out.1.length_eq;have z2:=P4.out.1.length_eq;(try simp only[List.length_append] at z0 z1 z2);(try simp only[List.length_append,List.length_nil]);omega) (by have q1:=HL.out;have q2:=HN.out;have z0:=P5.out.1.length_eq;have z1:=P3.out.1.length_eq;have z2:=P4.out.1.length_eq;(try simp only[List.length_append] at z0 z1 z2);(try simp only[List.length_append,List.length_nil]);omega) (by have q1:=HL.out;have q2:=HN.out;have z0:=P5.out.1.length_eq;have z1:=P3.out.1.length_eq;have z2:=P4.out.1.length_eq;(try simp only[List.length_append] at z0 z1 z2);(try simp only[List.length_append,List.length_nil]);omega);refine Calls.mono C ?_;clear C;rintro er v6 ⟨rfl,S6,hp,hs,hr,hk⟩;have R6:Hid (Rb v6 g (fs (S6++S4)) rest):=by unfold Hid;simpa[fs] using hr
 have P6:Hid (S6.Perm ((U1++U2)++U3)/\S6.Pairwise lt):=⟨hp.trans (P5.out.1.append P3.out.1),hs⟩;have K6:=aj (K5.out.trans hk);clear hp hs hr hk TG;go_wp2_with fail
 rw[rounds_succ];go_wp2_with fail
 go_wp2;go_end0;have eS4:S4=[]:=List.length_eq_zero_iff.1 (by have q1:=HL.out;have q2:=HN.out;have z:=P4.out.1.length_eq;omega);have eU4:U4=[]:=List.length_eq_zero_iff.1 (by have q1:=HL.out;have q2:=HN.out;omega);refine⟨rfl,S6,?_,P6.out.2,?_,K6.out⟩
 ·have h:=P6.out.1
  simpa[eU4] using h
 ·have h:=R6.out
  rw[eS4] at h;simpa using h
theorem Rh(U:List T)(i:Nat)(h:i<=U.length):∃U1 U2,U=U1++U2/\U1.length=i/\U2.length=U.length-i:=⟨U.take i,U.drop i,(List.take_append_drop _ _).symm,by rw[List.length_take];omega,by rw[List.length_drop]⟩
theorem JG(U:List T)(g cap n:Nat)(rest:List Value)(w:World)(hL:U.length=n)(hn:n<=60)(hU:U.Pairwise (λx y=>x.2<y.2))(hr:Rb w g (fs U) rest):
  Calls Tryz.prog 186 #[slice (some ⟨g,0,none⟩) n cap,int i64 (n:Nat),.func (.func 151) #[] #[]] w (gB U g rest w):=by
 by_cases h20:n<20
 ·exact Q_ U g _ n _ w hL hU hr h20
 obtain⟨U1,V1,rfl,l1,m1⟩:=Rh U 20 (by omega);by_cases h21:n=20
 ·exact Oe U1 V1 g _ n _ w l1 (by omega) hU hr h21
 by_cases h40:n<40
 ·exact Og U1 V1 g _ n _ w l1 (by omega) hU hr ⟨by omega,h40⟩
 obtain⟨U2,V2,rfl,l2,m2⟩:=Rh V1 20 (by omega);rw[<-List.append_assoc] at hU hr ⊢;by_cases h41:n=40
 ·exact Oh U1 U2 V2 g _ n _ w l1 l2 (by omega) hU hr h41
 by_cases h60:n<60
 ·exact Oi U1 U2 V2 g _ n _ w l1 l2 (by omega) hU hr ⟨by omega,h60⟩
 obtain⟨U3,V3,rfl,l3,m3⟩:=Rh V2 20 (by omega);rw[<-List.append_assoc] at hU hr ⊢;exact Rf U1 U2 U3 V3 g _ n _ w l1 l2 l3 (by omega) hU hr (by omega)
theorem yP(U:List T)(g cap n:Nat)(rest:List Value)(w:World)(hL:U.length=n)(hn:n<=60)(hU:U.Pairwise (λx y=>x.2<y.2))(hr:Rb w g (fs U) rest):
  Calls Tryz.prog 150 #[slice (some ⟨g,0,none⟩) n cap,.func (.func 151) #[] #[]] w (gB U g rest w):=by
 have C:=JG U g cap n rest w hL hn hU hr;clear hL hn hU hr;go_enter Tryz.func150,Tryz.ntmps150;go_wp2_with fail
 refine Calls.mono C ?_;rintro e w1 ⟨rfl,h⟩;have H:=aj (h);clear h C;go_wp2;go_end0;exact⟨rfl,H.out⟩
theorem jw.rb{w:World}{base:Nat}{v:Value}{ks:List aK}(h:jw w base v ks):(v=slice none 0 0/\ks=[])\/∃g cap rest,v=slice (some ⟨g,0,none⟩) ks.length cap/\base<=g/\ks.length<=cap/\cap<=maxLen/\ks.length*4+rest.length=cap*4/\Rb w g ks rest:=by
 rcases h.2 with⟨h1,h2⟩|⟨g,cap,cur,h1,h2,h3,h4,h5,h6,h7⟩
 ·exact .inl ⟨h1,List.length_eq_zero_iff.1 h2⟩
 ·refine .inr ⟨g,cap,cur.toList.drop (ks.length*4),h1,h2,h4,h5,?_,?_⟩
  ·have e6:cur.toList.length=cap*4:=by simpa using h6
   rw[List.length_drop,e6];have:ks.length*4<=cap*4:=Nat.mul_le_mul_right _ h4;omega
  ·unfold Rb
   rw[<-h7,List.take_append_drop,Array.toArray_toList];exact h3
theorem Rb.Zu{w:World}{base g cap:Nat}{ks:List aK}{rest:List Value}(h:Rb w g ks rest)(hb:base<=g)(h1:ks.length<=cap)(h2:cap<=maxLen)(h3:ks.length*4+rest.length=cap*4):jw w base (slice (some ⟨g,0,none⟩) ks.length cap) ks:=by
 refine⟨jd ks,.inr ⟨g,cap,_,rfl,hb,h,h1,h2,?_,?_⟩⟩
 ·simp only[List.size_toArray,List.length_append,jd];omega
 ·show(ks.flatMap aK.cs++rest).take (ks.length*4)=_
  rw[List.take_append_of_le_length (by rw[jd];exact Nat.le_refl _),List.take_of_length_le (by rw[jd];exact Nat.le_refl _)]
theorem D_(fv:Value)(w:World):Calls Tryz.prog 229 #[slice none 0 0,int i64 0,int i64 0,fv] w λe w'=>e=.returned (.tuple #[])/\w'=w:=by
 go_enter Tryz.func229,Tryz.ntmps229;go_wp2_with fail
 refine wp_loop_rounds 1 ?_;rw[rounds_succ];go_wp2;go_end0;exact⟨rfl,rfl⟩
theorem JH(fv:Value)(w:World):Calls Tryz.prog 186 #[slice none 0 0,int i64 0,fv] w λe w'=>e=.returned (.tuple #[])/\w'=w:=by
 go_enter Tryz.func186,Tryz.ntmps186;go_wp2_with fail
 refine wp_loop_rounds 1 ?_;rw[rounds_succ];go_wp2_with fail
 refine Calls.mono (D_ fv w) ?_;rintro e w' ⟨rfl,rfl⟩;go_wp2_with fail
 refine wp_loop_rounds 1 ?_;rw[rounds_succ];go_wp2;go_end0;exact⟨rfl,rfl⟩
theorem JJ(fv:Value)(w:World):Calls Tryz.prog 150 #[slice none 0 0,fv] w λe w'=>e=.returned (.tuple #[])/\w'=w:=by
 go_enter Tryz.func150,Tryz.ntmps150;go_wp2_with fail
 refine Calls.mono (JH fv w) ?_;rintro e w' ⟨rfl,rfl⟩;go_wp2;go_end0;exact⟨rfl,rfl⟩
theorem JK(l:List aK)(v:Value)(b1:Nat)(w:World)(hl:l.length<=60)(ho:jw w b1 v (fs (kp l l.length))):
  Calls Tryz.prog 150 #[v,.func (.func 151) #[] #[]] w λe w'=>e=.returned (.tuple #[])/\∃out,aX l out/\jw w' b1 v out/\w.grownBy w' v.ownBlock:=by
 rcases ho.rb with⟨rfl,hn⟩|⟨g,cap,rest,rfl,hb,h1,h2,h3,hr⟩
 ·refine(JJ _ w).mono ?_
  rintro e w' ⟨rfl,rfl⟩;have e0:kp l _=[]:=List.map_eq_nil_iff.1 hn;refine⟨rfl,[],⟨[],by rw[e0],List.Pairwise.nil,rfl⟩,by rw[hn] at ho;exact ho,?_⟩;exact⟨rfl,rfl,rfl,Nat.le_refl _,λ_ _ _=>rfl⟩
 ·have hlen:(fs (kp l l.length)).length=(kp l l.length).length:=by simp[fs]
  rw[hlen] at h1 h3 ⊢;refine(yP _ g _ _ _ w rfl (Nat.le_trans (tV _) hl) (ku _) hr).mono ?_;rintro e w' ⟨rfl,S,hp,hs,hr',hk⟩;have el:(fs S).length=(kp l l.length).length:=by simp[fs,hp.length_eq]
  refine⟨rfl,fs S,⟨S,hp,hs,rfl⟩,?_,⟨hk.os,hk.tape,hk.output,hk.size,λk hk' hn=>hk.block k hk' (λe=>hn (by rw[e];rfl))⟩⟩;have:=hr'.Zu (base:=b1) (cap:=cap) hb (by omega) h2 (by omega);rw[el] at this;exact this
def Zv(ks:List aK)(w1:World)(mb n:Nat)(j kv:Value)(W:World):Prop:=∃q:Nat,q<=ks.length/\j=int i64 (q:Nat)/\jw W w1.heap.size kv (fs (kp ks q))/\Um W mb n (lf ks ks.length)/\Below w1.heap.size w1 W
def Eb(ks:List aK)(w:World)(e:Ending)(w':World):Prop:=∃u r,e=.returned (.tuple #[u,r])/\Er r (Od.faults ks)/\((Od.faults ks≠0/\u=slice none 0 0)\/(Od.faults ks=0/\∃out,aX ks out/\jw w' w.heap.size u out))/\Below w.heap.size w w'
theorem last_any(v:Value)(ks:List aK)(w:World)(h:zU w v ks):Calls Tryz.prog 100 #[v] w (Eb ks w):=by
 have K0:=aj (h);obtain⟨a,c,rfl,c1,c2,-⟩:=h;go_enter Tryz.func100,Tryz.ntmps100;go_wp2_with fail
 refine Calls.mono (yN _ ks w K0.out) ?_;rintro e w0 ⟨u,rfl,hu,b0⟩;obtain⟨F,hF⟩:∃F,Od.faults ks=F:=⟨_,rfl⟩;have HF:=aj (hF);rw[hF] at hu;have B0:=aj (b0);clear hF b0;rcases hu with⟨hF,rfl⟩|⟨hF,rfl⟩
 case inr=>
  have E:=aj (hF);clear hF;go_wp2;go_ret2;exact⟨_,_,rfl,by rw[HF.out];exact Er.no E.out,.inl ⟨by rw[HF.out];exact E.out,rfl⟩,B0.out⟩
 subst hF;have FO:=aj (Od.gW HF.out);go_wp2_with fail
 refine Calls.mono (ug _ ks w0 (K0.out.below B0.out) FO.out.1 FO.out.2) ?_;rintro e w1 ⟨mb,n,rfl,hm,hmb,b1⟩;have M1:=aj (hm);have B1:=aj (B0.out.trans (b1.mono B0.out.size));clear hm hmb b1;go_wp2_with fail
 go_loopw [18,6] (λj kv W=>Zv ks w1 mb n j kv W) (λj _ _=>ks.length-(intOf j).toNat)
 case atStart=>exact⟨0,Nat.zero_le _,rfl,jw.nil _ _,M1.out,Below.refl _ _⟩
 case round=>
  obtain⟨q,hq,rfl,hko,hm,hb⟩:=hrel;have OQ:=aj (hko);have MQ:=aj (hm);have BQ:=aj (hb);clear hko hm hb;by_cases uz:q=ks.length
  ·subst uz
   go_wp2_with fail
   refine Calls.mono (JK ks u6 _ wr FO.out.1 OQ.out) ?_;rintro e w2 ⟨rfl,out,hls,ho,hg⟩;have G2:=aj ((B1.out.trans (BQ.out.mono B1.out.size)).grown hg (by have:=B1.out.size;have:=BQ.out.size;omega) (λk hk=>by have:=(OQ.out.block k hk).1;have:=B1.out.size;omega));have FIN:Hid (∃out,aX ks out/\jw w2 w.heap.size u6 out):=⟨out,hls,ho.mono B1.out.size⟩;clear hls ho hg;go_wp2;go_ret2;exact⟨_,_,rfl,by rw[HF.out];exact Er.nil,.inr ⟨HF.out,FIN.out⟩,G2.out⟩
  ·have hqk:q<ks.length:=by omega
   obtain⟨k,hk⟩:∃k,ks[q]? =some k:=⟨_,List.getElem?_eq_getElem hqk⟩;have HK:=aj (hk);have OK:=Od.uX (FO.out.2 k (List.mem_of_getElem? hk));have WF:Hid ((Lit.int i64 k.aA).wf=true/\(Lit.int i64 k.unit).wf=true):=⟨wf64 (by omega) (by omega),wf64 (by omega) (by omega)⟩;have K1:=K0.out.below (B1.out.trans (BQ.out.mono B1.out.size));obtain⟨a',c',e,-,-,h3⟩:=K1;injection e with e1 e2 e3
   subst e1 e3;obtain⟨x,rfl,hx1,hx⟩:=h3 (by rintro rfl;simp at hqk);have Yc:=hx q k hk;clear hx h3 e2 hk OK;obtain⟨q0,q1,q2,q3⟩:=Yc;go_upto_region 9 with fail
   have BA:Hid (Below _ wr (wr.alloc (Obj.cells #[int i64 k.aA,int i64 k.unit,int i64 k.what,int i64 k.arg] 96))):=(Below.refl _ _).alloc (Nat.le_refl _) _;have XA:=aj (kW.mk' (w:=wr) k rfl);clear q0 q1 q2 q3;obtain⟨z,hz⟩:∃z,wr.heap.size=z:=⟨_,rfl⟩;rw[hz] at XA ⊢;have SZ:=aj (hz);clear hz;generalize wr.alloc _=w2 at *;have B2:=aj (BQ.out.trans (BA.out.mono BQ.out.size));have M2:=aj (MQ.out.below BA.out);have O2:=aj (OQ.out.below BA.out);clear MQ OQ BQ BA;have KL:Hid ((fs (kp ks q)).length<=60):=by have h1:=tV (l:=ks) q;have h2:=FO.out.1;unfold Hid;simp[fs];omega
   by_cases h3:k.what=3
   ·obtain⟨x0,x1,x2,x3⟩:=XA.out
    simp only[Nat.zero_add] at x1 x2 x3;have OA:Hid (jw (w2.alloc (Obj.cells #[int i64 k.aA,int i64 k.unit,int i64 k.what,int i64 k.arg] 96)) _ u6 _):=O2.out.alloc _;have RC:=aj (kW.mk' (w:=w2) k rfl);have BB:Hid (Below _ w2 (w2.alloc (Obj.cells #[int i64 k.aA,int i64 k.unit,int i64 k.what,int i64 k.arg] 96))):=(Below.refl _ _).alloc (Nat.le_refl _) _;have SB:=aj (Nat.le_trans B2.out.size BB.out.size);have h3c:=h3;have NK:=aj (pW HK.out (.inl h3));rw[h3] at OA RC BB SB;go_wp2_with (at_builtin;refine JB _ rfl _ _ rfl _ _ _ rfl OA.out _ k rfl RC.out (by have:=KL.out;omega) SB.out ?_);intro g cap w5 o5 g5 a5 l5;have B5:=aj ((B2.out.trans (BB.out.mono B2.out.size)).grown g5 SB.out (λk hk=>(O2.out.block k hk).1));have M5:=aj ((M2.out.below BB.out).gb g5 (λe=>by have:=(O2.out.block mb e.symm).1;have:=M1.out.lt;omega));have O5:Hid (jw w5 w1.heap.size (slice (some ⟨g,0,none⟩) ((kp ks q).length+1) cap) (fs (kp ks (q+1)))):=by unfold Hid;rw[NK.out];simpa[fs] using o5
    clear o5 g5 a5 l5 x0 x1 x2 x3;go_wp2;go_round
    case rel=>exact⟨q+1,by omega,by go_num,O5.out,M5.out,B5.out⟩
    case measure=>simp[intOf];omega
   ·have h3b:=beq_eq_false_iff_ne.2 h3
    obtain⟨x0,x1,x2,x3⟩:=XA.out;simp only[Nat.zero_add] at x1 x2 x3;go_wp2_with fail
    refine Calls.mono (pY k w2) ?_;rintro e w3 ⟨rfl,b3⟩;have B3:=aj (B2.out.trans (b3.mono B2.out.size));have M3:=aj (M2.out.below b3);have O3:=aj (O2.out.below b3);have X3:=aj (XA.out.below b3 XA.out.lt);have LK:=M3.out.look WF.out.1 WF.out.2;clear b3 x0 x1 x2 x3 B2 M2 O2 XA;by_cases hi:lf ks ks.length k.aA k.unit=(q:Nat)
    ·obtain⟨x0,x1,x2,x3⟩:=X3.out
     simp only[Nat.zero_add] at x1 x2 x3;have OA:Hid (jw (w3.alloc (Obj.cells #[int i64 k.aA,int i64 k.unit,int i64 k.what,int i64 k.arg] 96)) _ u6 _):=O3.out.alloc _;have RC:=aj (kW.mk' (w:=w3) k rfl);have BB:Hid (Below _ w3 (w3.alloc (Obj.cells #[int i64 k.aA,int i64 k.unit,int i64 k.what,int i64 k.arg] 96))):=(Below.refl _ _).alloc (Nat.le_refl _) _;have SB:=aj (Nat.le_trans B3.out.size BB.out.size);have NK:=aj (pW HK.out (.inr hi));rw[hi] at LK;clear hi;go_wp2_with (at_builtin;refine JB _ rfl _ _ rfl _ _ _ rfl OA.out _ k rfl RC.out (by have:=KL.out;omega) SB.out ?_);intro g cap w5 o5 g5 a5 l5;have B5:=aj ((B3.out.trans (BB.out.mono B3.out.size)).grown g5 SB.out (λk hk=>(O3.out.block k hk).1));have M5:=aj ((M3.out.below BB.out).gb g5 (λe=>by have:=(O3.out.block mb e.symm).1;have:=M1.out.lt;omega));have O5:Hid (jw w5 w1.heap.size (slice (some ⟨g,0,none⟩) ((kp ks q).length+1) cap) (fs (kp ks (q+1)))):=by unfold Hid;rw[NK.out];simpa[fs] using o5
     clear o5 g5 a5 l5 x0 x1 x2 x3;go_wp2;go_round
     case rel=>exact⟨q+1,by omega,by go_num,O5.out,M5.out,B5.out⟩
     case measure=>simp[intOf];omega
    ·have hib:=beq_eq_false_iff_ne.2 hi
     have NK:=aj (Pm HK.out (by rintro(h|h);exact h3 h;exact hi h));generalize lf ks _ _ _=lfv at *;go_wp2;go_round
     case rel=>exact⟨q+1,by omega,by go_num,by rw[NK.out];exact O3.out,M3.out,B3.out⟩
     case measure=>simp[intOf];omega
def Ec(ks:List KV)(X:WV)(l:List aK)(w:World)(e:Ending)(w':World):Prop:=∃v ur r,e=.returned (.tuple #[v,ur,r])/\Er r (Od.faults l)/\((Od.faults l≠0/\v=.agg #[int i64 0,int i64 0,int i64 0,int i64 0,slice none 0 0,slice none 0 0,slice none 0 0,slice none 0 0,slice none 0 0]/\ur=slice none 0 0)\/(Od.faults l=0/\∃out,aX l out/\Wo w' w.heap.size v (gv ks X out out.length).1/\Ow w' w.heap.size ur (gv ks X out out.length).2))/\Below w.heap.size w w'
def Zw(ks:List KV)(X:WV)(out:List aK)(b1 z:Nat)(w1:World)(ur j:Value)(V:World):Prop:=∃(q:Nat) (u1 u2 u3 u4 u5:Value),q<=out.length/\j=int i64 (q:Nat)/\(gv ks X out q).2.length<=q/\uD ks (gv ks X out q).1 (gv ks X out q).2 b1 z w1 u1 u2 u3 u4 u5 ur V
theorem JM(vk vw vl:Value)(ks:List KV)(X:WV)(l:List aK)(w:World)(hk:Kl w vk ks)(hw:Wl w vw X)(hl:zU w vl l)(hr:aQ ks X):
  Calls Tryz.prog 57 #[vk,vw,vl] w (Ec ks X l w):=by
 have K:=aj (hk);have H:=aj (hw);have L:=aj (hl);have R:=aj (hr);obtain⟨p1,q1,p2,q2,p3,q3,p4,q4,p5,q5,rfl⟩:=aV hw;obtain⟨pk,qk,rfl,ck1,ck2,kc⟩:=hk;obtain⟨pl,ql,rfl,cl1,cl2,lc⟩:=hl;have kl8:=hr.S_.kinds.1;clear hw kc lc hr;go_enter Tryz.func57,Tryz.ntmps57;go_upto_region 1 with fail
 obtain⟨B0,X0,Z0⟩:=n_ w (int i64 X.turn) (int i64 X.next) (int i64 X.wide) (int i64 X.high) (slice p1 X.gs.length q1) (slice p2 X.os.length q2) (slice p3 X.gold.length q3) (slice p4 X.us.length q4) (slice p5 X.qs.length q5);have S0:Hid (((w.alloc (Obj.cells #[int i64 X.turn,int i64 X.next,int i64 X.wide,int i64 X.high,slice p1 X.gs.length q1,slice p2 X.os.length q2,slice p3 X.gold.length q3,slice p4 X.us.length q4,slice p5 X.qs.length q5] 29)).alloc (Obj.cells #[int i64 0,int i64 0,int i64 0,int i64 0,slice none 0 0,slice none 0 0,slice none 0 0,slice none 0 0,slice none 0 0] 29)).heap.size=w.heap.size+1+1):=by unfold Hid;simp
 generalize ((w.alloc _).alloc _)=w0 at *;obtain⟨z,hz⟩:∃z,w.heap.size=z:=⟨_,rfl⟩;have HZ:=aj (hz);rw[hz] at X0 Z0 S0 ⊢;clear hz;go_wp2_with fail
 refine Calls.mono (last_any _ l w0 (L.out.below B0.out)) ?_;rintro e w1 ⟨ul,rl,rfl,hrl,zQ,b1'⟩;have B1:=aj (B0.out.trans (b1'.mono B0.out.size));have X1:=aj (X0.out.below b1' X0.out.lt);have Z1:=aj (Z0.out.below b1' Z0.out.lt);obtain⟨F,hF⟩:∃F,Od.faults l=F:=⟨_,rfl⟩;have HF:=aj (hF);rw[hF] at hrl zQ;clear hF b1' X0 Z0;rcases hrl with⟨rfl,rfl⟩|⟨hF,rfl⟩
 case inr=>
  have HN:=aj (hF);clear hF zQ;obtain⟨z0,z1,z2,z3,z4,z5,z6,z7,z8⟩:=Z1.out.cells;obtain⟨t0,t1,t2,t3,t4,t5,t6,t7,t8⟩:=Z1.out.bC;have KZ:Hid (Kp (z+1) w1 ((((((((((w1.setCell _ (int i64 0)).setCell _ (int i64 0)).setCell _ (int i64 0)).setCell _ (int i64 0)).setCell _ (slice none 0 0)).setCell _ (slice none 0 0)).setCell _ (slice none 0 0)).setCell _ (slice none 0 0)).setCell _ (slice none 0 0)))):=bP _ _ _ _ _ _ _ _ _ _ _;obtain⟨y0,y1,y2,y3,y4,y5,y6,y7,y8⟩:=(Z1.out.jJ).cells;go_wp2;clear z0 z1 z2 z3 z4 z5 z6 z7 z8 t0 t1 t2 t3 t4 t5 t6 t7 t8;generalize World.setCell _ ⟨_,8,none⟩ _=w9 at *;refine bodyPost_ret (v:=.tuple #[.agg _,slice none 0 0,.iface 85 (int i64 F)]) (by simp[results,Tryz.results57,go_sem,y0,y1,y2,y3,y4,y5,y6,y7,y8]) rfl ⟨_,_,_,rfl,by rw[HF.out];exact Er.no HN.out,.inl ⟨by rw[HF.out];exact HN.out,rfl,rfl⟩,KZ.out.below B1.out B1.out.size (by rw[HZ.out];omega)⟩
 obtain⟨out,hls,ho⟩:∃out,aX l out/\jw w1 w0.heap.size ul out:=by
  rcases zQ with⟨h,-⟩|⟨-,h⟩
  ·exact absurd rfl h
  ·exact h
 have LS:=aj (hls);have OB:Hid (∀o∈out,¬Od.bad o):=λo h=>(Od.gW HF.out).2 o (hls.mem h)
 have OL:=aj (Nat.le_trans hls.len (Od.gW HF.out).1);obtain⟨Yr,clo,rfl⟩:=ho.len;have O1:Hid (jw w1 (z+1+1) (slice Yr out.length clo) out):=by have h:=ho;rw[S0.out] at h;exact h
 clear hls ho zQ;obtain⟨x0,x1,x2,x3,x4,x5,x6,x7,x8⟩:=X1.out.cells;go_wp2_with fail
 refine(gy _ X w1 (H.out.below B1.out) R.out.len).mono ?_;rintro e w2 ⟨cu,rfl,⟨k1,k2,k3,k4,k5,rfl,⟨o1,o2,o3,o4,o5⟩,d12,d13,d14,d15,d23,d24,d25,d34,d35,d45⟩,hb⟩;obtain⟨b1,hb1⟩:∃b,w1.heap.size=b:=⟨_,rfl⟩;have HB1:Hid (w1.heap.size=b1/\z+1<b1):=⟨hb1,by rw[<-hb1];exact Z1.out.lt⟩;rw[hb1] at o1 o2 o3 o4 o5;have X2:=aj (X1.out.below hb X1.out.lt);obtain⟨t0,t1,t2,t3,t4,t5,t6,t7,t8⟩:=X2.out.bC;obtain⟨y0,y1,y2,y3,y4,y5,y6,y7,y8⟩:=X2.out.cells;have KZ:Hid (Kp z w2 ((((((((((w2.setCell _ (int i64 X.turn)).setCell _ (int i64 X.next)).setCell _ (int i64 X.wide)).setCell _ (int i64 X.high)).setCell _ (k1)).setCell _ (k2)).setCell _ (k3)).setCell _ (k4)).setCell _ (k5)))):=bP _ _ _ _ _ _ _ _ _ _ _;have X3:Hid (Wx _ z (int i64 X.turn) (int i64 X.next) (int i64 X.wide) (int i64 X.high) k1 k2 k3 k4 k5):=X2.out.put _ _ _ _ _ _ _ _ _;have G3:Hid (uD ks X [] b1 z w1 k1 k2 k3 k4 k5 (slice none 0 0) ((((((((((w2.setCell ⟨z,0,none⟩ (int i64 X.turn)).setCell ⟨z,1,none⟩ (int i64 X.next)).setCell ⟨z,2,none⟩ (int i64 X.wide)).setCell ⟨z,3,none⟩ (int i64 X.high)).setCell ⟨z,4,none⟩ (k1)).setCell ⟨z,5,none⟩ (k2)).setCell ⟨z,6,none⟩ (k3)).setCell ⟨z,7,none⟩ (k4)).setCell ⟨z,8,none⟩ (k5)))):=by
  have hz1:=HB1.out.2;refine⟨X3.out,o1.kp KZ.out (by omega),o2.kp KZ.out (by omega),o3.kp KZ.out (by omega),o4.kp KZ.out (by omega),o5.kp KZ.out (by omega),Ow.nil _ _,?_,(Kp.of hb).trans KZ.out,R.out.S_⟩;have dn:∀u,dP u (slice none 0 0):=λu k h1 h2=>by cases h2
  simp only[List.pairwise_cons,List.mem_cons,List.not_mem_nil,or_false,forall_eq_or_imp,forall_eq];exact⟨⟨d12,d13,d14,d15,dn _⟩,⟨d23,d24,d25,dn _⟩,⟨d34,d35,dn _⟩,⟨d45,dn _⟩,dn _,by simp,by simp⟩
 obtain⟨kp1,kc1,rfl⟩:=o1.len;obtain⟨kp2,kc2,rfl⟩:=o2.len;obtain⟨kp3,kc3,rfl⟩:=o3.len;obtain⟨kp4,kc4,rfl⟩:=o4.len;obtain⟨kp5,kc5,rfl⟩:=o5.len;clear hb hb1 x0 x1 x2 x3 x4 x5 x6 x7 x8 o1 o2 o3 o4 o5 d12 d13 d14 d15 d23 d24 d25 d34 d35 d45 X1;go_upto_region 5 with fail
 clear t0 t1 t2 t3 t4 t5 t6 t7 t8 y0 y1 y2 y3 y4 y5 y6 y7 y8;generalize World.setCell _ ⟨_,8,none⟩ _=w3 at *;have ZZ:Hid (∀V,Kp z w1 V->Wx V (z+1) (int i64 0) (int i64 0) (int i64 0) (int i64 0) (slice none 0 0) (slice none 0 0) (slice none 0 0) (slice none 0 0) (slice none 0 0)):=λV hV=>Z1.out.kp hV (by omega)
 have OO:Hid (∀V,Kp z w1 V->jw V (z+1+1) (slice Yr out.length clo) out):=λV hV=>fU O1.out hV (by omega)
 have BV:Hid (∀V,Kp z w1 V->Below w.heap.size w V):=λV hV=>hV.below B1.out B1.out.size (by rw[HZ.out];omega)
 have ol:=OL.out;clear KZ X2 X3;go_wp2_with fail
 go_loopw [11,29] (λur j V=>Zw ks X out b1 z w1 ur j V) (λ_ j _=>out.length-(intOf j).toNat)
 case atStart=>exact⟨0,_,_,_,_,_,Nat.zero_le _,rfl,Nat.le_refl _,G3.out⟩
 case round=>
  obtain⟨q,u1,u2,u3,u4,u5,hq,rfl,hrl,hg⟩:=hrel;obtain⟨Y,hY⟩:∃Y,(gv ks X out q).1=Y:=⟨_,rfl⟩;obtain⟨ref,hR⟩:∃r,(gv ks X out q).2=r:=⟨_,rfl⟩;have HY:Hid ((gv ks X out q).1=Y/\(gv ks X out q).2=ref):=⟨hY,hR⟩;rw[hY,hR] at hg;rw[hR] at hrl;have GQ:=aj (hg);have RL:=aj (hrl);clear hY hR;obtain⟨ra,rc,rfl⟩:=hg.r.len;obtain⟨a1,h1,rfl⟩:=hg.o1.len;obtain⟨a2,h2,rfl⟩:=hg.o2.len;obtain⟨a3,h3,rfl⟩:=hg.o3.len;obtain⟨a4,h4,rfl⟩:=hg.o4.len;obtain⟨a5,h5,rfl⟩:=hg.o5.len;clear hg hrl;by_cases hqo:q=out.length
  ·have FIN:Hid ((gv ks X out out.length).1=Y/\(gv ks X out out.length).2=ref):=by rw[<-hqo];exact HY.out
   subst hqo;obtain⟨x0,x1,x2,x3,x4,x5,x6,x7,x8⟩:=GQ.out.x.cells;obtain⟨z0,z1,z2,z3,z4,z5,z6,z7,z8⟩:=(ZZ.out _ GQ.out.k).cells;obtain⟨t0,t1,t2,t3,t4,t5,t6,t7,t8⟩:=(ZZ.out _ GQ.out.k).bC;have KZ:Hid (Kp (z+1) wr ((((((((((wr.setCell _ (int i64 Y.turn)).setCell _ (int i64 Y.next)).setCell _ (int i64 Y.wide)).setCell _ (int i64 Y.high)).setCell _ (slice a1 Y.gs.length h1)).setCell _ (slice a2 Y.os.length h2)).setCell _ (slice a3 Y.gold.length h3)).setCell _ (slice a4 Y.us.length h4)).setCell _ (slice a5 Y.qs.length h5)))):=bP _ _ _ _ _ _ _ _ _ _ _;obtain⟨y0,y1,y2,y3,y4,y5,y6,y7,y8⟩:=((ZZ.out _ GQ.out.k).put (int i64 Y.turn) (int i64 Y.next) (int i64 Y.wide) (int i64 Y.high) (slice a1 Y.gs.length h1) (slice a2 Y.os.length h2) (slice a3 Y.gold.length h3) (slice a4 Y.us.length h4) (slice a5 Y.qs.length h5)).cells;go_wp2;clear x0 x1 x2 x3 x4 x5 x6 x7 x8 z0 z1 z2 z3 z4 z5 z6 z7 z8 t0 t1 t2 t3 t4 t5 t6 t7 t8;generalize World.setCell _ ⟨_,8,none⟩ _=w9 at *;refine bodyPost_ret (v:=.tuple #[.agg #[int i64 Y.turn,int i64 Y.next,int i64 Y.wide,int i64 Y.high,slice a1 Y.gs.length h1,slice a2 Y.os.length h2,slice a3 Y.gold.length h3,slice a4 Y.us.length h4,slice a5 Y.qs.length h5],slice ra ref.length rc,.nilIface]) (by simp[results,Tryz.results57,go_sem,y0,y1,y2,y3,y4,y5,y6,y7,y8]) rfl ⟨_,_,_,rfl,by rw[HF.out];exact Er.nil,.inr ⟨HF.out,out,LS.out,?_,?_⟩,?_⟩
   ·rw[FIN.out.1]
    exact(GQ.out.wo.kp KZ.out HB1.out.2).mono (by have h1:=HB1.out;have h2:=HZ.out;omega)
   ·rw[FIN.out.2]
    exact(GQ.out.r.kp KZ.out HB1.out.2).mono (by have h1:=HB1.out;have h2:=HZ.out;omega)
   ·exact KZ.out.below (BV.out _ GQ.out.k) (BV.out _ GQ.out.k).size (by rw[HZ.out];omega)
  ·have hqk:q<out.length:=by omega
   obtain⟨o,ho⟩:∃o,out[q]? =some o:=⟨_,List.getElem?_eq_getElem hqk⟩;have HO:=aj (ho);have Xo:=aj (OB.out o (List.mem_of_getElem? ho));obtain⟨a',c',e,-,-,hx⟩:=(OO.out _ GQ.out.k).l;injection e with e1 e2 e3
   subst e1 e3;obtain⟨xo,rfl,-,hxo⟩:=hx (by rintro hn;rw[hn] at hqk;simp at hqk);obtain⟨r0,r1,r2,r3⟩:=hxo q o ho;clear hx hxo e2 ho;have hqi:((q:Nat):Int)<(out.length:Nat):=by omega
   go_upto_region 9 with fail
   have BA:Hid (Below _ wr (wr.alloc (Obj.cells #[int i64 o.aA,int i64 o.unit,int i64 o.what,int i64 o.arg] 96))):=(Below.refl _ _).alloc (Nat.le_refl _) _;have OA:=aj (kW.mk' (w:=wr) o rfl);obtain⟨y,hy⟩:∃y,wr.heap.size=y:=⟨_,rfl⟩;have YL:Hid (wr.heap.size=y/\b1<=y):=⟨hy,by rw[<-hy,<-HB1.out.1];exact GQ.out.k.size⟩;rw[hy] at OA ⊢;clear r0 r1 r2 r3 hy;generalize wr.alloc _=w4 at *;have G4:=aj (GQ.out.below BA.out);have yl4:Hid (y<w4.heap.size):=OA.out.lt;clear BA GQ;obtain⟨x0,x1,x2,x3,x4,x5,x6,x7,x8⟩:=G4.out.x.cells;go_wp2_with fail
   refine(oZ 101 (by intro args w;go_simp) _ #[.pointer (some ⟨y,0,none⟩)] Y.us (kM o) w4 G4.out.o4.l (λW hW u hu=>?_)).mono ?_
   ·obtain⟨c0,c1,-,-⟩:=OA.out.below hW yl4.out
    simp only[Nat.zero_add] at c1;exact QO o u y W c0 c1
   rintro e w5 ⟨r,rfl,hfr,b5⟩;have G5:=aj (G4.out.below b5);have O5:=aj (OA.out.below b5 yl4.out);clear b5 x0 x1 x2 x3 x4 x5 x6 x7 x8 G4 OA;have Zx:=kl8;rcases hfr with⟨rfl,hnone⟩|⟨i,u,rfl,hu,hask,hfirst⟩
   ·have GN:Hid (fC ks Y o=none):=by unfold Hid fC;rw[Gw hnone]
    clear hnone;go_upto_region 11 with fail
    go_quiet (fail);have D6:Hid (Below w5.heap.size w5 (w5.drewN nq)):=⟨rfl,rfl,rfl,Nat.le_refl _,λ_ _=>rfl⟩;generalize w5.drewN nq=w6 at *;have G6:=aj (G5.out.below D6.out);have NX:Hid (gv ks X out (q+1)=(Y,ref++[(q:Int)])):=by
     have h9:=zW (ks:=ks) (Y:=X) HO.out (by rw[HY.out.1];exact GN.out);unfold Hid;rw[h9,HY.out.1,HY.out.2]
    have BA:Hid (Below _ w6 (w6.alloc (Obj.cells #[int i64 (q:Nat)] 3))):=(Below.refl _ _).alloc (Nat.le_refl _) _;have GA:=aj (G6.out.below BA.out);have SB:=aj (Nat.le_trans (by have h1:=G6.out.k.size;rw[HB1.out.1] at h1;exact h1) BA.out.size);go_wp2_with (at_builtin;refine gJ _ rfl _ _ rfl b1 _ ref rfl GA.out.r ⟨w6.heap.size,0,none⟩ (q:Int) rfl (by simp) (by have:=RL.out;omega) SB.out ?_);intro g7 c7 w7 o7 gr7 a7 l7;have G7:=aj (GA.out.refuse (by have:=HB1.out.2;omega) HB1.out.1 gr7 o7 (by
     rcases a7 with h|h
     ·exact .inl h.symm
     ·exact .inr ⟨g7,rfl,by rw[h];simp⟩))
    clear o7 gr7 a7 l7;go_wp2;go_round
    case rel=>exact⟨q+1,_,_,_,_,_,by omega,by go_num,by rw[NX.out];have:=RL.out;simp;omega,by rw[NX.out];exact G7.out⟩
    case measure=>simp[intOf];omega
   ·have FI:Hid (Y.us.findIdx? (kM o)=some i/\Y.us[i]? =some u):=⟨Gx hu hask hfirst,hu⟩
    obtain⟨⟨kn,k,hkn,hkk⟩,pn,hpn,hpl⟩:=G5.out.f.units u (List.mem_of_getElem? hu);have hap:=(of_decide_eq_true hask).2;have KU:Hid (u.kind=(kn:Nat)/\ks[kn]? =some k/\o.aA=(pn:Nat)/\pn<Y.gold.length):=⟨hkn,hkk,by rw[<-hap];exact hpn,hpl⟩;have hil:=(List.getElem?_eq_some_iff.1 hu).1;have hkl:=(List.getElem?_eq_some_iff.1 hkk).1;have G1:Hid (fC ks Y o=if qB ks Y k o=true then some (if o.what=3 then eH ks Y o else lF Y i u o) else none):=by
     unfold Hid fC;rw[FI.out.1];simp only[FI.out.2];rw[KU.out.1,Int.toNat_natCast];simp only[KU.out.2.1]
    obtain⟨gu,cap,PI,e4,hgu,hc1,hc2,hc3,hub⟩:∃gu cap rest,slice a4 Y.us.length h4=slice (some ⟨gu,0,none⟩) Y.us.length cap/\b1<=gu/\Y.us.length<=cap/\cap<=maxLen/\Y.us.length*8+rest.length=cap*8/\Ub w5 gu Y.us rest:=by
     rcases G5.out.o4.ub with⟨-,h⟩|⟨gu,cap,rest,h⟩
     ·rw[h] at hil;simp at hil
     ·exact⟨gu,cap,rest,h⟩
    injection e4 with e41 e42 e43
    subst e41 e43;have UG:=aj (fK hgu hc1 hc2 hc3 hub);have UB:Hid (∀V,Below w5.heap.size w5 V->Ub V gu Y.us PI):=λV hV=>hub.below hV hub.lt
    obtain⟨xk,rfl,vH,hxk⟩:∃xk,pk=some xk/\xk.block<w.heap.size/\∀(i:Nat) k,ks[i]? =some k->Kc w (xk.add (i*11)) k:=by
     obtain⟨a',c',e',-,-,hx⟩:=K.out;injection e' with e1' e2' e3'
     subst e1';exact hx (by rintro hn;rw[hn] at hkl;simp at hkl)
    have BW:Hid (∀V,Below w5.heap.size w5 V->Below w.heap.size w V):=λV hV=>(BV.out _ G5.out.k).trans (hV.mono (BV.out _ G5.out.k).size)
    have KX:Hid (∀V,Below w5.heap.size w5 V->∀(j:Nat) kk,ks[j]? =some kk->Kc V (xk.add (j*11)) kk):=λV hV j kk hj=>(hxk j kk hj).below (BW.out V hV) (by rw[add_block];exact vH)
    have C5:Hid (∀V,Below w5.heap.size w5 V->(Wx V z (int i64 Y.turn) (int i64 Y.next) (int i64 Y.wide) (int i64 Y.high) (slice a1 Y.gs.length h1) (slice a2 Y.os.length h2) (slice a3 Y.gold.length h3) (slice (some ⟨gu,0,none⟩) Y.us.length h4) (slice a5 Y.qs.length h5)/\dB V ⟨gu,i*8,none⟩ u/\Kc V (xk.add (kn*11)) k/\kW V ⟨y,0,none⟩ o)):=λV hV=>⟨G5.out.x.below hV G5.out.x.lt,(UB.out V hV).kQ FI.out.2,KX.out V hV kn k KU.out.2.1,O5.out.below hV O5.out.lt⟩
    have SL:((kn:Nat):Int)<(ks.length:Nat):=by omega
    have hii:((i:Nat):Int)<(Y.us.length:Nat):=by omega
    have hi0:¬((i:Nat):Int)<0:=by omega
    have D5:Hid (Below w5.heap.size w5 {w5 with drawn:=w5.drawn+1}):=(Below.refl _ _).drew;clear hu hask hfirst hkk hap hpn hpl hgu hc1 hc2 hc3 hub e42 hxk vH hkn hil hkl;go_upto_region 11 with fail
    refine aH [(true,0),(true,1),(true,2),(true,3),(true,4),(true,5),(true,6),(true,7),(true,8),(true,9),(true,10),(true,11),(true,12),(true,13),(true,14),(false,15)] [(false,16),(false,17)] (λV=>Wx V z (int i64 Y.turn) (int i64 Y.next) (int i64 Y.wide) (int i64 Y.high) (slice a1 Y.gs.length h1) (slice a2 Y.os.length h2) (slice a3 Y.gold.length h3) (slice (some ⟨gu,0,none⟩) Y.us.length h4) (slice a5 Y.qs.length h5)/\dB V ⟨gu,i*8,none⟩ u/\Kc V (xk.add (kn*11)) k/\kW V ⟨y,0,none⟩ o) (by kernel_rfl) (by kernel_rfl) (by kernel_rfl) (by decide+kernel) (by decide+kernel) (C5.out _ D5.out) ?_;generalize ({w5 with drawn:=w5.drawn+1}:World)=w6 at *;refine ay rfl (int i64 (i:Nat)) (by go_simp) (λV hV=>by go_simp) ?_;go_simp;refine ay rfl (.bool false) (by go_simp) (λV hV=>by go_simp) ?_;go_simp;refine ay rfl (.bool false) (by go_simp) (λV hV=>by go_simp) ?_;go_simp;refine ay rfl (slice (some xk) ks.length qk) (by go_simp) (λV hV=>by go_simp) ?_;go_simp;refine ay rfl (.agg #[int i64 Y.turn,int i64 Y.next,int i64 Y.wide,int i64 Y.high,slice a1 Y.gs.length h1,slice a2 Y.os.length h2,slice a3 Y.gold.length h3,slice (some ⟨gu,0,none⟩) Y.us.length h4,slice a5 Y.qs.length h5]) (by go_simp) (λV hV=>by obtain⟨hX,hU,hK,hO⟩:=hV;obtain⟨x0,x1,x2,x3,x4,x5,x6,x7,x8⟩:=hX.cells;obtain⟨y0,y1,y2,y3,y4,y5,y6,y7⟩:=hU;obtain⟨k0,k1,k2,k3,k4,k5,k6,k7,k8,k9,k10⟩:=hK;obtain⟨o0,o1,o2,o3⟩:=hO;simp only[Nat.zero_add] at o1 o2 o3;go_simp) ?_;go_simp;refine ay rfl (slice (some xk) ks.length qk) (by go_simp) (λV hV=>by go_simp) ?_;go_simp;refine ay rfl (.pointer (some ⟨z,7,none⟩)) (by go_simp) (λV hV=>by go_simp) ?_;go_simp;refine ay rfl (slice (some ⟨gu,0,none⟩) Y.us.length h4) (by go_simp) (λV hV=>by obtain⟨hX,hU,hK,hO⟩:=hV;obtain⟨x0,x1,x2,x3,x4,x5,x6,x7,x8⟩:=hX.cells;obtain⟨y0,y1,y2,y3,y4,y5,y6,y7⟩:=hU;obtain⟨k0,k1,k2,k3,k4,k5,k6,k7,k8,k9,k10⟩:=hK;obtain⟨o0,o1,o2,o3⟩:=hO;simp only[Nat.zero_add] at o1 o2 o3;go_simp) ?_;go_simp;refine ay rfl (int i64 (i:Nat)) (by go_simp) (λV hV=>by go_simp) ?_;go_simp;refine ay rfl (.pointer (some ⟨gu,i*8,none⟩)) (by go_simp) (λV hV=>by go_simp) ?_;go_simp;refine ay rfl (.pointer (some ⟨gu,i*8+2,none⟩)) (by go_simp) (λV hV=>by go_simp) ?_;go_simp;refine ay rfl (int i64 (kn:Nat)) (by go_simp) (λV hV=>by obtain⟨hX,hU,hK,hO⟩:=hV;obtain⟨x0,x1,x2,x3,x4,x5,x6,x7,x8⟩:=hX.cells;obtain⟨y0,y1,y2,y3,y4,y5,y6,y7⟩:=hU;obtain⟨k0,k1,k2,k3,k4,k5,k6,k7,k8,k9,k10⟩:=hK;obtain⟨o0,o1,o2,o3⟩:=hO;simp only[Nat.zero_add] at o1 o2 o3;rw[KU.out.1] at y2;go_simp) ?_;go_simp;refine ay rfl (.pointer (some (xk.add (kn*11)))) (by go_simp) (λV hV=>by go_simp) ?_;go_simp;refine ay rfl (.agg #[.string k.b,int i64 k.n0,int i64 k.n1,int i64 k.n2,int i64 k.n3,int i64 k.n4,int i64 k.n5,int i64 k.n6,int i64 k.n7,.bool k.f,.bool k.t]) (by go_simp) (λV hV=>by obtain⟨hX,hU,hK,hO⟩:=hV;obtain⟨x0,x1,x2,x3,x4,x5,x6,x7,x8⟩:=hX.cells;obtain⟨y0,y1,y2,y3,y4,y5,y6,y7⟩:=hU;obtain⟨k0,k1,k2,k3,k4,k5,k6,k7,k8,k9,k10⟩:=hK;obtain⟨o0,o1,o2,o3⟩:=hO;simp only[Nat.zero_add] at o1 o2 o3;go_simp) ?_;go_simp;refine ay rfl (.agg #[int i64 o.aA,int i64 o.unit,int i64 o.what,int i64 o.arg]) (by go_simp) (λV hV=>by obtain⟨hX,hU,hK,hO⟩:=hV;obtain⟨x0,x1,x2,x3,x4,x5,x6,x7,x8⟩:=hX.cells;obtain⟨y0,y1,y2,y3,y4,y5,y6,y7⟩:=hU;obtain⟨k0,k1,k2,k3,k4,k5,k6,k7,k8,k9,k10⟩:=hK;obtain⟨o0,o1,o2,o3⟩:=hO;simp only[Nat.zero_add] at o1 o2 o3;go_simp) ?_;go_simp;refine bF rfl 102 #[slice (some xk) ks.length qk,.agg #[int i64 Y.turn,int i64 Y.next,int i64 Y.wide,int i64 Y.high,slice a1 Y.gs.length h1,slice a2 Y.os.length h2,slice a3 Y.gold.length h3,slice (some ⟨gu,0,none⟩) Y.us.length h4,slice a5 Y.qs.length h5],.agg #[.string k.b,int i64 k.n0,int i64 k.n1,int i64 k.n2,int i64 k.n3,int i64 k.n4,int i64 k.n5,int i64 k.n6,int i64 k.n7,.bool k.f,.bool k.t],.agg #[int i64 o.aA,int i64 o.unit,int i64 o.what,int i64 o.arg]] (by go_simp) (by go_simp) ?_;have GW:=aj (G5.out.below D5.out);refine Calls.mono (maybe_any _ _ ks Y k o w6 (K.out.below (BW.out w6 D5.out)) GW.out.wo.l GW.out.f Xo.out (by rw[KU.out.2.2.1,Int.toNat_natCast];exact KU.out.2.2.2)) ?_;rintro e w7 ⟨rfl,b7⟩;have D7:=aj (D5.out.trans (b7.mono D5.out.size));refine⟨_,rfl,C5.out _ D7.out,?_⟩;obtain⟨mb,hmb⟩:∃b,qB ks Y k o=b:=⟨_,rfl⟩;have MB:=aj (hmb);rw[hmb];clear b7 hmb;go_simp;refine aN rfl (.bool (!mb)) w7 (by go_simp) (by go_simp) trivial ?_;go_simp;refine aN rfl (.bool (!mb)) w7 (by go_simp) (by go_simp) trivial ?_;go_simp;unfold aP;have G7':=aj (G5.out.below D7.out);cases mb with
    |false=>
     have GN:Hid (fC ks Y o=none):=by unfold Hid;rw[G1.out,MB.out];simp
     have NX:Hid (gv ks X out (q+1)=(Y,ref++[(q:Int)])):=by
      have h9:=zW (ks:=ks) (Y:=X) HO.out (by rw[HY.out.1];exact GN.out);unfold Hid;rw[h9,HY.out.1,HY.out.2]
     have BA:Hid (Below _ w7 (w7.alloc (Obj.cells #[int i64 (q:Nat)] 3))):=(Below.refl _ _).alloc (Nat.le_refl _) _;have GA:=aj (G7'.out.below BA.out);have SB:=aj (Nat.le_trans (by have h1:=G7'.out.k.size;rw[HB1.out.1] at h1;exact h1) BA.out.size);go_wp2_with (at_builtin;refine gJ _ rfl _ _ rfl b1 _ ref rfl GA.out.r ⟨w7.heap.size,0,none⟩ (q:Int) rfl (by simp) (by have:=RL.out;omega) SB.out ?_);intro g7 c7 w8 o7 gr7 a7 l7;have G8:=aj (GA.out.refuse (by have:=HB1.out.2;omega) HB1.out.1 gr7 o7 (by
      rcases a7 with h|h
      ·exact .inl h.symm
      ·exact .inr ⟨g7,rfl,by rw[h];simp⟩))
     clear o7 gr7 a7 l7;go_wp2;go_round
     case rel=>exact⟨q+1,_,_,_,_,_,by omega,by go_num,by rw[NX.out];have:=RL.out;simp;omega,by rw[NX.out];exact G8.out⟩
     case measure=>simp[intOf];omega
    |true=>
     have GY:Hid (fC ks Y o=some (if o.what=3 then eH ks Y o else lF Y i u o)):=by unfold Hid;rw[G1.out,MB.out];simp
     obtain⟨c0,c1,c2,c3⟩:=(C5.out _ D7.out).2.2.2;simp only[Nat.zero_add] at c1 c2 c3;by_cases hw3:o.what=3
     ·have Uy:=beq_iff_eq.2 hw3
      have HW3:=aj (hw3);have M3:Hid (k.t=true/\o.arg<(ks.length:Int)/\eY ks o.arg<=Y.gold.getD o.aA.toNat 0/\Y.qs.length<12):=by
       have h9:=MB.out;unfold qB at h9;rw[if_neg (by omega),if_neg (by omega),if_pos hw3] at h9;unfold Hid;exact of_decide_eq_true h9
      have A0:0<=o.arg:=by have h9:=Od.uX Xo.out;omega
      obtain⟨an,han⟩:∃an:Nat,o.arg=an:=⟨o.arg.toNat,by omega⟩;obtain⟨kk,hkk⟩:∃kk,ks[an]? =some kk:=⟨_,List.getElem?_eq_getElem (by have:=M3.out.2.1;omega)⟩;have AK:Hid (o.arg=(an:Nat)/\ks[an]? =some kk):=⟨han,hkk⟩;have Zy:((an:Nat):Int)<(ks.length:Nat):=by have:=M3.out.2.1;omega
      obtain⟨g,Vp⟩:∃g,Y.gold[pn]? =some g:=⟨_,List.getElem?_eq_getElem KU.out.2.2.2⟩;have GP:=aj (Vp);obtain⟨gg,cg,PK,e3,hgg,hd1,hd2,hd3,hbk⟩:∃g cap rest,slice a3 Y.gold.length h3=slice (some ⟨g,0,none⟩) Y.gold.length cap/\b1<=g/\Y.gold.length<=cap/\cap<=maxLen/\Y.gold.length+rest.size=cap/\Bk w7 g Y.gold rest:=by
       rcases G7'.out.o3.bk with⟨-,h⟩|h
       ·have:=KU.out.2.2.2;rw[h] at this;simp at this
       ·exact h
      injection e3 with e31 e32 e33
      subst e31 e33;have GG:=aj (fK hgg hd1 hd2 hd3 hbk);have EG:Hid ((eH ks Y o).gold=Y.gold.set pn (g-kk.n5)):=by
       unfold Hid eH eY;simp only[KU.out.2.2.1,AK.out.1,Int.toNat_natCast,AK.out.2,List.getD_eq_getElem?_getD,GP.out,Option.getD_some]
      have EQ:Hid ((eH ks Y o).qs=Y.qs++[⟨o.aA,o.unit,o.arg,max kk.n6 1⟩]):=by
       unfold Hid eH turnsOf;simp only[AK.out.1,Int.toNat_natCast,AK.out.2]
      have NX:Hid (gv ks X out (q+1)=(eH ks Y o,ref)):=by
       have h9:=sG (ks:=ks) (Y:=X) HO.out (Z:=eH ks Y o) (by rw[HY.out.1,GY.out,if_pos hw3]);unfold Hid;rw[h9,HY.out.2]
      have CE:Hid (∀V,Below w7.heap.size w7 V->(Kc V (xk.add (an*11)) kk/\kW V ⟨y,0,none⟩ o)):=λV hV=>⟨KX.out V (D7.out.trans (hV.mono D7.out.size)) an kk AK.out.2,(C5.out V (D7.out.trans (hV.mono D7.out.size))).2.2.2⟩
      have D8:Hid (Below w7.heap.size w7 {w7 with drawn:=w7.drawn+1}):=(Below.refl _ _).drew;clear hw3 A0 han hkk Vp hgg hd1 hd2 hd3 hbk e32;go_upto_region 14 with fail
      clear c0 c1 c2 c3 Uy;refine aH [(true,0),(true,1),(true,2),(true,3),(true,4),(true,5)] [(false,6)] (λV=>Kc V (xk.add (an*11)) kk/\kW V ⟨y,0,none⟩ o) (by kernel_rfl) (by kernel_rfl) (by kernel_rfl) (by decide+kernel) (by decide+kernel) (CE.out _ D8.out) ?_;generalize ({w7 with drawn:=w7.drawn+1}:World)=w8 at *;refine ay rfl (slice (some xk) ks.length qk) (by go_simp) (λV hV=>by go_simp) ?_;go_simp;refine ay rfl (.pointer (some ⟨y,3,none⟩)) (by go_simp) (λV hV=>by go_simp) ?_;go_simp;refine ay rfl (int i64 (an:Nat)) (by go_simp) (λV hV=>by obtain⟨hK,hO⟩:=hV;obtain⟨o0,o1,o2,o3⟩:=hO;simp only[Nat.zero_add] at o1 o2 o3;rw[AK.out.1] at o3;go_simp) ?_;go_simp;refine ay rfl (.pointer (some (xk.add (an*11)))) (by go_simp) (λV hV=>by go_simp) ?_;go_simp;refine ay rfl (.agg #[.string kk.b,int i64 kk.n0,int i64 kk.n1,int i64 kk.n2,int i64 kk.n3,int i64 kk.n4,int i64 kk.n5,int i64 kk.n6,int i64 kk.n7,.bool kk.f,.bool kk.t]) (by go_simp) (λV hV=>by obtain⟨hK,hO⟩:=hV;obtain⟨k0,k1,k2,k3,k4,k5,k6,k7,k8,k9,k10⟩:=hK;obtain⟨o0,o1,o2,o3⟩:=hO;simp only[Nat.zero_add] at o1 o2 o3;go_simp) ?_;go_simp;refine ay rfl (.agg #[int i64 o.aA,int i64 o.unit,int i64 o.what,int i64 o.arg]) (by go_simp) (λV hV=>by obtain⟨hK,hO⟩:=hV;obtain⟨o0,o1,o2,o3⟩:=hO;simp only[Nat.zero_add] at o1 o2 o3;go_simp) ?_;go_simp;unfold aW;have G8:=aj (G7'.out.below D8.out);have B8:=aj (GG.out.2.2.2.2.below D8.out);have KM:=aj (G8.out.f.kinds.2 kk (List.mem_of_getElem? AK.out.2));refine oI rfl 103 #[.pointer (some ⟨z,0,none⟩),.agg #[.string kk.b,int i64 kk.n0,int i64 kk.n1,int i64 kk.n2,int i64 kk.n3,int i64 kk.n4,int i64 kk.n5,int i64 kk.n6,int i64 kk.n7,.bool kk.f,.bool kk.t],.agg #[int i64 o.aA,int i64 o.unit,int i64 o.what,int i64 o.arg]] (by go_simp) (by go_simp) ?_;refine Calls.mono (Jy z gg Y.gold.length h3 b1 _ _ _ _ _ _ _ Y.gold PK a5 h5 Y.qs kk o pn g w8 G8.out.x B8.out G8.out.o5 KU.out.2.2.1 KU.out.2.2.2 GP.out (G8.out.f.gold g (List.mem_of_getElem? GP.out)) ⟨KM.out.1,KM.out.2.1⟩ KM.out.2.2 G8.out.f.ql (by have:=HB1.out.2;omega) GG.out.1 (by have h1:=G8.out.k.size;rw[HB1.out.1] at h1;exact h1) (λh=>G8.out.qF.2.2.1.2.1 gg rfl h)) ?_;rintro e w9 ⟨rfl,a8',h8',hx,hbk,hj,hf,hn⟩;refine⟨_,rfl,trivial,?_⟩;have G9:=aj (G8.out.hire (pn:=pn) (g:=g) (rest:=PK) (by have:=HB1.out.2;omega) HB1.out.1 GG.out.1 GG.out.2.1 GG.out.2.2.1 GG.out.2.2.2.1 hx (by rw[EG.out];exact hbk) (by rw[EQ.out];exact hj) hf hn (G8.out.f.hire M3.out.2.2.1 (by rw[KU.out.2.2.1,Int.toNat_natCast];exact KU.out.2.2.2) M3.out.2.2.2));clear hx hbk hj hf hn;go_simp;unfold aP;go_wp2;go_round
      case rel=>exact⟨q+1,_,_,_,_,_,by omega,by go_num,by rw[NX.out];have:=RL.out;show ref.length<=q+1;omega,by rw[NX.out];exact G9.out⟩
      case measure=>simp[intOf];omega
     ·have Uy:=beq_eq_false_iff_ne.2 hw3
      have NX:Hid (gv ks X out (q+1)=(lF Y i u o,ref)):=by
       have h9:=sG (ks:=ks) (Y:=X) HO.out (Z:=lF Y i u o) (by rw[HY.out.1,GY.out,if_neg hw3]);unfold Hid;rw[h9,HY.out.2]
      have WH:Hid (o.what=0/\o.arg=0\/o.what=1\/o.what=2):=by have h9:=Od.uX Xo.out;unfold Hid;omega
      have CE:Hid (∀V,Below w7.heap.size w7 V->(Wx V z (int i64 Y.turn) (int i64 Y.next) (int i64 Y.wide) (int i64 Y.high) (slice a1 Y.gs.length h1) (slice a2 Y.os.length h2) (slice a3 Y.gold.length h3) (slice (some ⟨gu,0,none⟩) Y.us.length h4) (slice a5 Y.qs.length h5)/\dB V ⟨gu,i*8,none⟩ u/\Kc V (xk.add (kn*11)) k/\kW V ⟨y,0,none⟩ o)):=λV hV=>C5.out V (D7.out.trans (hV.mono D7.out.size))
      have D8:Hid (Below w7.heap.size w7 {w7 with drawn:=w7.drawn+1}):=(Below.refl _ _).drew;clear hw3;go_upto_region 15 with fail
      clear c0 c1 c2 c3;refine aH [(true,0),(true,1),(true,2),(true,3),(true,4)] [(false,5)] (λV=>Wx V z (int i64 Y.turn) (int i64 Y.next) (int i64 Y.wide) (int i64 Y.high) (slice a1 Y.gs.length h1) (slice a2 Y.os.length h2) (slice a3 Y.gold.length h3) (slice (some ⟨gu,0,none⟩) Y.us.length h4) (slice a5 Y.qs.length h5)/\dB V ⟨gu,i*8,none⟩ u/\Kc V (xk.add (kn*11)) k/\kW V ⟨y,0,none⟩ o) (by kernel_rfl) (by kernel_rfl) (by kernel_rfl) (by decide+kernel) (by decide+kernel) (CE.out _ D8.out) ?_;generalize ({w7 with drawn:=w7.drawn+1}:World)=w8 at *;refine ay rfl (.pointer (some ⟨z,7,none⟩)) (by go_simp) (λV hV=>by go_simp) ?_;go_simp;refine ay rfl (slice (some ⟨gu,0,none⟩) Y.us.length h4) (by go_simp) (λV hV=>by obtain⟨hX,hU,hK,hO⟩:=hV;obtain⟨x0,x1,x2,x3,x4,x5,x6,x7,x8⟩:=hX.cells;obtain⟨y0,y1,y2,y3,y4,y5,y6,y7⟩:=hU;obtain⟨k0,k1,k2,k3,k4,k5,k6,k7,k8,k9,k10⟩:=hK;obtain⟨o0,o1,o2,o3⟩:=hO;simp only[Nat.zero_add] at o1 o2 o3;go_simp) ?_;go_simp;refine ay rfl (int i64 (i:Nat)) (by go_simp) (λV hV=>by go_simp) ?_;go_simp;refine ay rfl (.pointer (some ⟨gu,i*8,none⟩)) (by go_simp) (λV hV=>by go_simp) ?_;go_simp;refine ay rfl (.agg #[int i64 o.aA,int i64 o.unit,int i64 o.what,int i64 o.arg]) (by go_simp) (λV hV=>by obtain⟨hX,hU,hK,hO⟩:=hV;obtain⟨x0,x1,x2,x3,x4,x5,x6,x7,x8⟩:=hX.cells;obtain⟨y0,y1,y2,y3,y4,y5,y6,y7⟩:=hU;obtain⟨k0,k1,k2,k3,k4,k5,k6,k7,k8,k9,k10⟩:=hK;obtain⟨o0,o1,o2,o3⟩:=hO;simp only[Nat.zero_add] at o1 o2 o3;go_simp) ?_;go_simp;unfold aW;have G8:=aj (G7'.out.below D8.out);refine oI rfl 104 #[.pointer (some ⟨gu,i*8,none⟩),.agg #[int i64 o.aA,int i64 o.unit,int i64 o.what,int i64 o.arg]] (by go_simp) (by go_simp) ?_;refine Calls.mono (Jw gu i Y.us PI u o w8 (UB.out _ (D7.out.trans (D8.out.mono D7.out.size))) FI.out.2 WH.out) ?_;rintro e w9 ⟨rfl,hub,hkp⟩;refine⟨_,rfl,trivial,?_⟩;have G9:=aj (G8.out.send (by have:=HB1.out.2;omega) HB1.out.1 FI.out.2 UG.out.1 UG.out.2.1 UG.out.2.2.1 UG.out.2.2.2.1 hub hkp);clear hub hkp;go_simp;unfold aP;go_wp2;go_round
      case rel=>exact⟨q+1,_,_,_,_,_,by omega,by go_num,by rw[NX.out];have:=RL.out;show ref.length<=q+1;omega,by rw[NX.out];exact G9.out⟩
      case measure=>simp[intOf];omega
end Go.Proofs.YtolfphmdmpehdaaGreatDoor
namespace Go.Proofs.YtolfphmdmpehdaaGreatDoor
open Go.RowKit
theorem uh:Maps.Keyed Tryz.prog 3:=Maps.int_keyed Tryz.underlying3
theorem JO{p:Int}(hp:(Lit.int i64 p).wf=true):∃kl,keyOf Tryz.prog 3 (int i64 p)=some kl:=⟨_,Maps.keyOf_int_mk Tryz.underlying3 hp⟩
theorem Oj(w:World):(zeroValue 3).run Tryz.prog w=.ok (int i64 0) w:=by kernel_rfl
theorem PO{n:Int}(h0: -9223372036854775808<=n)(h1:n<=9223372036854775807):(Lit.int i64 n).wf=true:=WalkArith.wf_i64 (by omega)
def Im(w:World)(b n:Nat)(f:Int->Int):Prop:=∃D:DataW Unit,w.ownsMap Tryz.prog 3 (plainElem Tryz.prog 3) b n D/\Maps.IsMap D/\∀p kl,keyOf Tryz.prog 3 (.int .i64 p)=some kl->D.atKey kl (.lit (.int .i64 0))=.lit (.int .i64 (f p))
def yQ(f:Int->Int)(p v:Int):Int->Int:=λp'=>if p'=p then v else f p'
theorem Ol(w:World):Im (w.alloc (.map #[] 0)) w.heap.size 0 (λ_=>0):=
 ⟨.map [],World.ownsMap_made _ _ _ _,Maps.isMap_empty,λp kl _=>Maps.atKey_of_not_has rfl _⟩
theorem Im.lt{w:World}{b n:Nat}{f:Int->Int}(h:Im w b n f):b<w.heap.size:=by
 obtain⟨D,h1,-⟩:=h;exact h1.lt
theorem Im.gb{w w':World}{b n:Nat}{f:Int->Int}{r:Option Nat}(h:Im w b n f)(g:w.grownBy w' r)(hr:some b≠r):Im w' b n f:=by
 obtain⟨D,h1,h2⟩:=h;exact⟨D,h1.kept g hr,h2⟩
theorem Im.below{w w':World}{b n:Nat}{f:Int->Int}(h:Im w b n f)(g:Below w.heap.size w w'):Im w' b n f:=
 h.gb (r:=none) ⟨g.os,g.tape,g.output,g.size,λk hk _=>g.block k hk⟩ (by simp)
theorem Im.put{w:World}{b n:Nat}{f:Int->Int}(h:Im w b n f)(hn:n<maxLen){p v:Int}(hp:(Lit.int i64 p).wf=true)(hv:(Lit.int i64 v).wf=true):
  ∃w',(Instr.mapUpdate 166 (.map (some b)) (int i64 p) (int i64 v)).run Tryz.prog w=.ok () w'/\Im w' b (n+1) (yQ f p v)/\w.grownBy w' (some b):=by
 obtain⟨D,h1,hD,h2⟩:=h;obtain⟨kl,hk⟩:=JO hp;obtain⟨w',r,o,g⟩:=World.ownsMap.update h1 uh Tryz.underlying166 hn hk (plainElem_int Tryz.underlying3 hv);refine⟨w',r,⟨_,o,hD.put _ _,λp' kl' hk'=>?_⟩,g⟩;unfold yQ;by_cases e:kl'=kl
 ·subst e
  have ei:=uh.inj hk hk';simp only[Value.int.injEq,true_and] at ei;rw[if_pos ei.symm];exact Maps.atKey_put_same hD (uh.key hk) _ _
 ·rw[Maps.atKey_put_other e,if_neg,h2 p' kl' hk']
  rintro rfl;exact e (Option.some.inj (hk'.symm.trans hk))
theorem Im.look{w:World}{b n:Nat}{f:Int->Int}(h:Im w b n f){p:Int}(hp:(Lit.int i64 p).wf=true):
  (Instr.lookup 166 (.map (some b)) (int i64 p) false).run Tryz.prog w=.ok (int i64 (f p)) w:=by
 obtain⟨D,h1,hD,h2⟩:=h;obtain⟨kl,hk⟩:=JO hp;obtain⟨c,hr,hat,-⟩:=h1.lookup_int uh Tryz.underlying166 Tryz.underlying3 (Oj w) hk;rw[h2 p kl hk] at hat;injection hat with e
 injection e with _ e
 rw[e];exact hr
theorem vW(j:aO)(bc bm n:Nat)(f:Int->Int)(w:World)(hc:w.cell? ⟨bc,0,none⟩=some (.map (some bm)))(hm:Im w bm n f)(hne:bc≠bm)(hn:n<=1000)(hf:0<=f j.unit/\f j.unit<=1000)(hu:(Lit.int i64 j.unit).wf=true):
  Calls Tryz.prog 105 #[j.val,.pointer (some ⟨bc,0,none⟩)] w λe w'=>∃b:Bool,b=(f j.unit==0)/\e=.returned (.bool b)/\Im w' bm (n+1) (yQ f j.unit (f j.unit+1))/\Fr (λq=>q=bm) w w':=by
 have HC:=aj (hc);have HM:=aj (hm);have WF:Hid ((Lit.int i64 j.unit).wf=true/\(Lit.int i64 (f j.unit+1)).wf=true):=⟨hu,PO (by omega) (by omega)⟩;obtain⟨fu,hfu⟩:∃x,f j.unit=x:=⟨_,rfl⟩;have FU:=aj (hfu);rw[hfu] at hf;clear hc hm hu hfu;unfold aO.val;go_enter Tryz.func105,Tryz.ntmps105;go_upto_region 1 with fail
 have B1:Hid (Below _ w (w.alloc (Obj.cells #[int i64 j.aA,int i64 j.unit,int i64 j.kind,int i64 j.left] 93))):=(Below.refl _ _).alloc (Nat.le_refl _) _;obtain⟨z,hz⟩:∃z,w.heap.size=z:=⟨_,rfl⟩;have X1:=aj (jS.mk' (w:=w) j hz);have ZM:Hid (bm<z/\bc<z):=by unfold Hid;rw[<-hz];exact⟨HM.out.lt,cell_lt HC.out⟩
 rw[hz];clear hz;generalize w.alloc _=w1 at *;have c1:w1.cell? ⟨bc,0,none⟩=some (.map (some bm)):=by rw[B1.out.cell (p:=⟨bc,0,none⟩) (cell_lt HC.out)];exact HC.out
 have m1:=HM.out.below B1.out;have j1:w1.cell? ⟨z,1,none⟩=some _:=X1.out.c1;have l1:=m1.look WF.out.1;rw[FU.out] at l1;obtain⟨w2,u2,o2,g2⟩:=m1.put (by unfold maxLen;omega) WF.out.1 WF.out.2;rw[FU.out] at u2;have M2:=aj (o2);have G2:=aj (g2);have L2:=o2.look WF.out.1;have e2:yQ f j.unit (f j.unit+1) j.unit=fu+1:=by unfold yQ;rw[if_pos rfl,FU.out]
 rw[e2] at L2;have c2:w2.cell? ⟨bc,0,none⟩=some (.map (some bm)):=by
  have:=G2.out.block bc (Nat.lt_trans ZM.out.2 X1.out.lt) (by simp;omega);unfold World.cell? at c1 ⊢;rw[this];exact c1
 have j2:w2.cell? ⟨z,1,none⟩=some (int i64 j.unit):=by
  have:=G2.out.block z X1.out.lt (by simp;have:=ZM.out;omega);unfold World.cell? at j1 ⊢;rw[this];exact j1
 have wf1:IntKind.i64.wrap (fu+1)=fu+1:=by rw[IntKind.wrap_i64];omega
 have FR:Hid (Fr (λq=>q=bm) w w2):=(Fr.below B1.out).trans (Fr.gb G2.out (λk hk=>by injection hk with hk;exact hk.symm));clear m1 o2 g2 e2;by_cases h0:fu=0
 ·subst h0
  simp only[Int.zero_add] at u2 L2 wf1;go_wp2;go_ret;exact⟨true,by rw[FU.out];rfl,rfl,by rw[FU.out] at M2;rw[FU.out];exact M2.out,FR.out⟩
 ·have h1:(fu+1==1)=false:=by rw[beq_eq_false_iff_ne];omega
  have h1':¬fu+1=1:=by omega
  go_wp2;go_ret;exact⟨false,by rw[FU.out];exact(beq_eq_false_iff_ne.2 h0).symm,rfl,by rw[FU.out] at M2;rw[FU.out];exact M2.out,FR.out⟩
theorem yR(vk vw:Value)(ks:List KV)(W:WV)(pl kd at_:Int)(w:World)(hk:Kl w vk ks)(hw:Wl w vw W)(hr:aQ ks W):
  Calls Tryz.prog 83 #[vk,vw,int i64 pl,int i64 kd,int i64 at_] w λe w'=>∃r,e=.returned r/\Er r (Wd.aT ks W pl kd at_)/\Below w.heap.size w w':=by
 have K:=aj (hk);have H:=aj (hw);have R:=aj (hr);obtain⟨u1,u2,u3,u4,u5,rfl,r1,r2,r3,r4,r5⟩:=hw;obtain⟨p1,q1,rfl,-⟩:=r1;obtain⟨p2,q2,rfl,-⟩:=r2;obtain⟨p3,q3,rfl,-⟩:=r3;obtain⟨p4,q4,rfl,-⟩:=r4;obtain⟨p5,q5,rfl,-⟩:=r5;obtain⟨pk,qk,rfl,-,-,kc⟩:=hk;have KC:=aj (kc);have lk:=qN hr.kinds;have lg:=(jU hr.nums).2;have lu:=hr.ul;have lc:W.gs.length<=144:=by
  obtain⟨Wn,Hn,-,-,G⟩:=hr.good;have h1:=G.pos;have h2:=G.gl;omega
 clear hr kc;go_enter Tryz.func83,Tryz.ntmps83;go_upto_region 1 with fail
 have B0:Hid (Below _ w (w.alloc (Obj.cells #[int i64 W.turn,int i64 W.next,int i64 W.wide,int i64 W.high,slice p1 W.gs.length q1,slice p2 W.os.length q2,slice p3 W.gold.length q3,slice p4 W.us.length q4,slice p5 W.qs.length q5] 29))):=(Below.refl _ _).alloc (Nat.le_refl _) _;have X0:Hid (Bw _ w.heap.size W (slice p1 W.gs.length q1) (slice p2 W.os.length q2) (slice p3 W.gold.length q3) (slice p4 W.us.length q4) (slice p5 W.qs.length q5)):=Bw.mk' W _ _ _ _ _ rfl;generalize (w.alloc _)=w0 at *;obtain⟨x0,x1,x2,x3,x4,x5,x6,x7,x8⟩:=X0.out;by_cases h40:(40:Int)<=(W.us.length:Int)
 ·go_wp2
  go_ret;exact⟨_,rfl,by rw[Wd.pf4 (.inl h40)];exact Er.no (by decide),B0.out⟩
 by_cases hnx:(1000000:Int)<=W.next
 ·go_wp2
  go_ret;exact⟨_,rfl,by rw[Wd.pf4 (.inr hnx)];exact Er.no (by decide),B0.out⟩
 have HF:Hid (¬(40<=(W.us.length:Int)\/1000000<=W.next)):=λh=>h.elim h40 hnx
 by_cases h1:0<=pl/\pl<(W.gold.length:Int)
 case neg=>
  have t1:=decide_eq_false h1;have F:Hid (Wd.aT ks W pl kd at_=1):=Wd.pf1 HF.out (.inl h1);clear h1;go_wp2_with fail
  refine(dS _ _ _ _ _ (by omega)).mono ?_;rintro e w1 ⟨rfl,iF⟩;obtain rfl:=iF.symm;rw[t1];clear t1;go_wp2;go_ret;exact⟨_,rfl,by rw[F.out];exact Er.no (by decide),B0.out⟩
 have t1:=decide_eq_true h1;have H1:=aj (h1);clear h1;go_wp2_with fail
 refine(dS _ _ _ _ _ (by omega)).mono ?_;rintro e w1 ⟨rfl,iF⟩;obtain rfl:=iF.symm;rw[t1];clear t1;by_cases h2:0<=kd/\kd<(ks.length:Int)
 case neg=>
  have t1:=decide_eq_false h2;have F:Hid (Wd.aT ks W pl kd at_=1):=Wd.pf1 HF.out (.inr h2);clear h2;go_wp2_with fail
  refine(iH _ _ _ _ _ (by omega)).mono ?_;rintro e w1 ⟨rfl,iF⟩;obtain rfl:=iF.symm;rw[t1];clear t1;go_wp2;go_ret;exact⟨_,rfl,by rw[F.out];exact Er.no (by decide),B0.out⟩
 have t1:=decide_eq_true h2;have H2:=aj (h2);clear h2;go_wp2_with fail
 refine(iH _ _ _ _ _ (by omega)).mono ?_;rintro e w1 ⟨rfl,iF⟩;obtain rfl:=iF.symm;rw[t1];clear t1;by_cases h3:0<=at_/\at_<(W.gs.length:Int)
 case neg=>
  have t1:=decide_eq_false h3;have F:=aj (Wd.pf6 HF.out H1.out H2.out h3);clear h3;go_wp2_with fail
  refine(dS _ _ _ _ _ (by omega)).mono ?_;rintro e w1 ⟨rfl,iF⟩;obtain rfl:=iF.symm;rw[t1];clear t1;go_wp2;go_ret;exact⟨_,rfl,by rw[F.out];exact Er.no (by decide),B0.out⟩
 have t1:=decide_eq_true h3;have H3:=aj (h3);go_wp2_with fail
 refine(dS _ _ _ _ _ (by omega)).mono ?_;rintro e w1 ⟨rfl,iF⟩;obtain rfl:=iF.symm;rw[t1];clear t1;obtain⟨an,ea⟩:∃an:Nat,at_=an:=⟨at_.toNat,by omega⟩;obtain⟨kn,ek⟩:∃kn:Nat,kd=kn:=⟨kd.toNat,by have:=H2.out;omega⟩;subst ea;subst ek;have hkl:kn<ks.length:=by have:=H2.out;omega
 have hki:(kn:Int)<(ks.length:Int):=by omega
 obtain⟨k,hk⟩:∃k,ks[kn]? =some k:=⟨_,List.getElem?_eq_getElem hkl⟩;obtain⟨g,hg0⟩:∃g,W.gs[an]? =some g:=⟨_,List.getElem?_eq_getElem (by omega)⟩;have FK:=aj (Wd.YD HF.out H1.out H2.out H3.out (by simpa using hk));have Qa:=aj (hg0);obtain⟨xk,rfl,hxl,hxc⟩:=KC.out (by intro e;rw[e] at hkl;simp at hkl);have hkc:=aj ((hxc kn k hk).below B0.out (by rw[add_block];exact hxl));have FC:Hid (∀V,Below w0.heap.size w0 V->V.cell? ⟨w.heap.size,2,none⟩=some (int i64 W.wide)/\V.cell? ⟨w.heap.size,3,none⟩=some (int i64 W.high)/\V.cell? ⟨w.heap.size,4,none⟩=some (slice p1 W.gs.length q1)/\V.cell? ⟨w.heap.size,5,none⟩=some (slice p2 W.os.length q2)/\V.cell? ⟨w.heap.size,7,none⟩=some (slice p4 W.us.length q4)/\V.cell? ⟨(xk.add (kn*11)).block,(xk.add (kn*11)).off+9,none⟩=some (.bool k.f)):=λV hV=>by
  obtain⟨-,-,z2,z3,z4,z5,-,z7,-⟩:=X0.out.below hV X0.out.lt;obtain⟨-,-,-,-,-,-,-,-,-,m9,-⟩:=hkc.out.below hV hkc.out.lt;exact⟨z2,z3,z4,z5,z7,m9⟩
 have SN:Hid (∀V,Below w0.heap.size w0 V->Calls Tryz.prog 126 #[.agg #[int i64 W.wide,int i64 W.high,slice p1 W.gs.length q1,slice p2 W.os.length q2],slice p4 W.us.length q4,int i64 (an:Nat),.bool k.f] V λe w'=>e=.returned (.bool (Wd.open_ W.gs W.us (an:Nat) k.f))/\Below w0.heap.size w0 w'):=λV hV=>by
  have BV:=B0.out.trans (hV.mono B0.out.size);obtain⟨r1,r2,-,r4,-⟩:=(H.out.below BV).slices;obtain⟨Wn,Hn,RQ,RU,uT⟩:=R.out.good;rw[RQ,RU];exact(nT _ _ Wn Hn _ _ _ an g _ V ⟨_,_,rfl,r1,r2⟩ uT r4 (by have:=uT.gl;omega) Qa.out).mono λe w' ⟨h1,h2⟩=>⟨h1,hV.trans (h2.mono hV.size)⟩
 have eo:∀args w,(callFunc 126 args).run Tryz.prog w=.ok (.enter 126 args) w:=by intro args w;go_simp
 clear hxc hk hg0 h3 x0 x1 x2 x3 x4 x5 x6 x7 x8;go_upto_region 9 with fail
 refine cO 11 (λV=>Below w0.heap.size w0 V) (by kernel_rfl) (by kernel_rfl) (Below.refl _ _).drew ?_;simp only[List.take_succ_cons,List.take_zero,List.drop_succ_cons,List.drop_zero];refine aB (.pointer (some ⟨w.heap.size,2,none⟩)) (by go_simp) (λV hV=>by go_simp) ?_;go_simp;refine aB (.agg #[int i64 W.wide,int i64 W.high,slice p1 W.gs.length q1,slice p2 W.os.length q2]) (by go_simp) (λV hV=>by obtain⟨f2,f3,f4,f5,-⟩:=FC.out V hV;go_simp) ?_;go_simp;refine aB (.pointer (some ⟨w.heap.size,7,none⟩)) (by go_simp) (λV hV=>by go_simp) ?_;go_simp;refine aB (slice p4 W.us.length q4) (by go_simp) (λV hV=>by obtain⟨-,-,-,-,f7,-⟩:=FC.out V hV;go_simp) ?_;go_simp;refine aB (int i64 (an:Nat)) (by go_simp) (λV hV=>by go_simp) ?_;go_simp;refine aB (slice (some xk) ks.length qk) (by go_simp) (λV hV=>by go_simp) ?_;go_simp;refine aB (int i64 (kn:Nat)) (by go_simp) (λV hV=>by go_simp) ?_;go_simp;refine aB (.pointer (some (xk.add (kn*11)))) (by go_simp) (λV hV=>by go_simp) ?_;go_simp;refine aB (.pointer (some ⟨(xk.add (kn*11)).block,(xk.add (kn*11)).off+9,none⟩)) (by go_simp) (λV hV=>by go_simp) ?_;go_simp;refine aB (.bool k.f) (by go_simp) (λV hV=>by obtain⟨-,-,-,-,-,f10⟩:=FC.out V hV;go_simp) ?_;go_simp;refine dN _ _ _ (by go_simp) (λV hV=>by go_simp) (λV hV=>SN.out V hV) ?_;go_simp;intro V hV;have BV:=aj (B0.out.trans (hV.mono B0.out.size));obtain⟨b9,hb9⟩:∃b,Wd.open_ W.gs W.us (an:Nat) k.f=b:=⟨_,rfl⟩;rw[hb9] at FK ⊢;clear hV FC SN hb9;cases b9 with
 |false=>
  go_wp2;go_ret;exact⟨_,rfl,by rw[FK.out];exact Er.no (by decide),BV.out⟩
 |true=>
  go_wp2;go_ret;exact⟨_,rfl,by rw[FK.out];exact Er.nil,BV.out⟩
theorem m_(vk vw:Value)(ks:List KV)(W:WV)(pl kd at_:Int)(w:World)(hk:Kl w vk ks)(hb:∀k∈ks,k.b.size<=9223372036854775807)(hw:Wl w vw W):
  Calls Tryz.prog 39 #[vk,vw,int i64 pl,int i64 kd,int i64 at_] w λe w'=>∃u r,e=.returned (.tuple #[u,r])/\Er r (Wd.dG ks W pl kd at_)/\Wo w' w.heap.size u (Wd.placed ks W pl kd at_)/\Below w.heap.size w w':=by
 have K:Hid (Kl w vk ks/\∀k∈ks,k.b.size<=9223372036854775807):=⟨hk,hb⟩;have H:=aj (hw);obtain⟨u1,u2,u3,u4,u5,rfl,r1,r2,r3,r4,r5⟩:=hw;obtain⟨p1,q1,rfl,-⟩:=r1;obtain⟨p2,q2,rfl,-⟩:=r2;obtain⟨p3,q3,rfl,-⟩:=r3;obtain⟨p4,q4,rfl,-⟩:=r4;obtain⟨p5,q5,rfl,-⟩:=r5;obtain⟨pk,qk,rfl,-,-,kc⟩:=hk;have KC:=aj (kc);clear hb kc;go_enter Tryz.func39,Tryz.ntmps39;go_upto_region 1 with fail
 have B0:Hid (Below w.heap.size w ((w.alloc (.cells #[int i64 W.turn,int i64 W.next,int i64 W.wide,int i64 W.high,slice p1 W.gs.length q1,slice p2 W.os.length q2,slice p3 W.gold.length q3,slice p4 W.us.length q4,slice p5 W.qs.length q5] 29)).alloc (.cells #[int i64 0,int i64 0,int i64 0,int i64 0,slice none 0 0,slice none 0 0,slice none 0 0,slice none 0 0,slice none 0 0] 29))):=((Below.refl _ _).alloc (Nat.le_refl _) _).alloc (by simp) _;have X0:Hid (Wx ((w.alloc (.cells #[int i64 W.turn,int i64 W.next,int i64 W.wide,int i64 W.high,slice p1 W.gs.length q1,slice p2 W.os.length q2,slice p3 W.gold.length q3,slice p4 W.us.length q4,slice p5 W.qs.length q5] 29)).alloc (.cells #[int i64 0,int i64 0,int i64 0,int i64 0,slice none 0 0,slice none 0 0,slice none 0 0,slice none 0 0,slice none 0 0] 29)) w.heap.size (int i64 W.turn) (int i64 W.next) (int i64 W.wide) (int i64 W.high) (slice p1 W.gs.length q1) (slice p2 W.os.length q2) (slice p3 W.gold.length q3) (slice p4 W.us.length q4) (slice p5 W.qs.length q5)):=(Wx.new (w:=w) _ _ _ _ _ _ _ _ _ rfl).below ((Below.refl _ _).alloc (Nat.le_refl _) _) (by simp);have Z0:Hid (Wx ((w.alloc (.cells #[int i64 W.turn,int i64 W.next,int i64 W.wide,int i64 W.high,slice p1 W.gs.length q1,slice p2 W.os.length q2,slice p3 W.gold.length q3,slice p4 W.us.length q4,slice p5 W.qs.length q5] 29)).alloc (.cells #[int i64 0,int i64 0,int i64 0,int i64 0,slice none 0 0,slice none 0 0,slice none 0 0,slice none 0 0,slice none 0 0] 29)) (w.heap.size+1) (int i64 0) (int i64 0) (int i64 0) (int i64 0) (slice none 0 0) (slice none 0 0) (slice none 0 0) (slice none 0 0) (slice none 0 0)):=Wx.new _ _ _ _ _ _ _ _ _ (by simp);have S0:Hid (w.heap.size+2<=((w.alloc (.cells #[int i64 W.turn,int i64 W.next,int i64 W.wide,int i64 W.high,slice p1 W.gs.length q1,slice p2 W.os.length q2,slice p3 W.gold.length q3,slice p4 W.us.length q4,slice p5 W.qs.length q5] 29)).alloc (.cells #[int i64 0,int i64 0,int i64 0,int i64 0,slice none 0 0,slice none 0 0,slice none 0 0,slice none 0 0,slice none 0 0] 29)).heap.size):=by unfold Hid;simp
 generalize ((w.alloc _).alloc _)=w0 at *;obtain⟨x0,x1,x2,x3,x4,x5,x6,x7,x8⟩:=X0.out.cells;go_wp2_with fail
 refine(dI _ _ ks W w0 (K.out.1.below B0.out) K.out.2 (H.out.below B0.out)).mono ?_;rintro e w1 ⟨r,rfl,hr,hb1⟩;clear x0 x1 x2 x3 x4 x5 x6 x7 x8;have B1:=aj (B0.out.trans (hb1.mono B0.out.size));have X1:=aj (X0.out.below hb1 X0.out.lt);have Z1:=aj (Z0.out.below hb1 Z0.out.lt);have S1:=aj (Nat.le_trans S0.out hb1.size);clear hb1 B0 X0 Z0 S0;rcases hr with⟨hf,rfl⟩|⟨hf,rfl⟩
 case inr=>
  obtain⟨fe,hfe⟩:∃f,Wd.aF ks W=f:=⟨_,rfl⟩;have AQ:Hid (fe≠0):=by rw[<-hfe];exact hf
  have FE:Hid (Wd.dG ks W pl kd at_=fe):=by unfold Hid Wd.dG;rw[if_neg hf];exact hfe
  rw[hfe];clear hf hfe;obtain⟨z0,z1,z2,z3,z4,z5,z6,z7,z8⟩:=Z1.out.cells;obtain⟨t0,t1,t2,t3,t4,t5,t6,t7,t8⟩:=Z1.out.bC;have KZ:=aj (dF w1 (w.heap.size+1));obtain⟨y0,y1,y2,y3,y4,y5,y6,y7,y8⟩:=(Z1.out.jJ).cells;go_wp2;clear z0 z1 z2 z3 z4 z5 z6 z7 z8 t0 t1 t2 t3 t4 t5 t6 t7 t8;generalize World.setCell _ ⟨_,8,none⟩ _=w9 at *;refine bodyPost_ret (v:=.tuple #[.agg #[int i64 0,int i64 0,int i64 0,int i64 0,slice none 0 0,slice none 0 0,slice none 0 0,slice none 0 0,slice none 0 0],.iface 85 (int i64 fe)]) (by simp[results,Tryz.results39,go_sem,y0,y1,y2,y3,y4,y5,y6,y7,y8]) rfl ⟨_,_,rfl,by rw[FE.out];exact Er.no AQ.out,by rw[og (by rw[FE.out];exact AQ.out)];exact jX _ _,KZ.out.below B1.out B1.out.size (by omega)⟩
 have HF:=aj (hf);have PF:Hid (Wd.dG ks W pl kd at_=Wd.aT ks W pl kd at_):=by unfold Hid Wd.dG;rw[if_pos hf]
 have RT:=aj (aY hf);clear hf;obtain⟨x0,x1,x2,x3,x4,x5,x6,x7,x8⟩:=X1.out.cells;go_wp2_with fail
 refine(yR _ _ ks W pl kd _ w1 (K.out.1.below B1.out) (H.out.below B1.out) RT.out).mono ?_;rintro e w2 ⟨r,rfl,hr,hb2⟩;clear x0 x1 x2 x3 x4 x5 x6 x7 x8;have B2:=aj (B1.out.trans (hb2.mono B1.out.size));have X2:=aj (X1.out.below hb2 X1.out.lt);have Z2:=aj (Z1.out.below hb2 Z1.out.lt);have S2:=aj (Nat.le_trans S1.out hb2.size);clear hb2 B1 X1 Z1 S1;rcases hr with⟨hf,rfl⟩|⟨hf,rfl⟩
 case inr=>
  obtain⟨fe,hfe⟩:∃f,Wd.aT ks W pl kd at_=f:=⟨_,rfl⟩;have AQ:Hid (fe≠0):=by rw[<-hfe];exact hf
  have FE:Hid (Wd.dG ks W pl kd at_=fe):=by unfold Hid;rw[PF.out];exact hfe
  rw[hfe];clear hf hfe;obtain⟨z0,z1,z2,z3,z4,z5,z6,z7,z8⟩:=Z2.out.cells;obtain⟨t0,t1,t2,t3,t4,t5,t6,t7,t8⟩:=Z2.out.bC;have KZ:=aj (dF w2 (w.heap.size+1));obtain⟨y0,y1,y2,y3,y4,y5,y6,y7,y8⟩:=(Z2.out.jJ).cells;go_wp2;clear z0 z1 z2 z3 z4 z5 z6 z7 z8 t0 t1 t2 t3 t4 t5 t6 t7 t8;generalize World.setCell _ ⟨_,8,none⟩ _=w9 at *;refine bodyPost_ret (v:=.tuple #[.agg #[int i64 0,int i64 0,int i64 0,int i64 0,slice none 0 0,slice none 0 0,slice none 0 0,slice none 0 0,slice none 0 0],.iface 85 (int i64 fe)]) (by simp[results,Tryz.results39,go_sem,y0,y1,y2,y3,y4,y5,y6,y7,y8]) rfl ⟨_,_,rfl,by rw[FE.out];exact Er.no AQ.out,by rw[og (by rw[FE.out];exact AQ.out)];exact jX _ _,KZ.out.below B2.out B2.out.size (by omega)⟩
 obtain⟨h40,hpl,hat,kn,k,rfl,hkn,hkk,hop⟩:=zT hf;have P0:Hid (Wd.dG ks W pl (kn:Nat) at_=0):=by unfold Hid;rw[PF.out];exact hf
 have NU:Hid (Wd.jV ks W pl (kn:Nat) at_=⟨W.next,pl,(kn:Nat),at_,k.n0,0,0,0⟩):=by unfold Hid Wd.jV;rw[Int.toNat_natCast,hkk]
 have L40:Hid (W.us.length<40):=by unfold Hid;omega
 have hnx:W.next<1000000:=by omega
 have hn1:1<=W.next:=by
  have:=(jU RT.out.nums).1;unfold Wd.off at this;simp at this;omega
 obtain⟨xk,rfl,hxl,hxc⟩:=KC.out (by intro e;rw[e] at hkn;simp at hkn);have HK:Hid (Kc w (xk.add (kn*11)) k/\(xk.add (kn*11)).block<w.heap.size):=⟨hxc kn k hkk,by rw[add_block];exact hxl⟩;have hki:(kn:Int)<(ks.length:Int):=by omega
 clear hf h40 hpl hat hkn hkk hop hxc hxl;obtain⟨x0,x1,x2,x3,x4,x5,x6,x7,x8⟩:=X2.out.cells;go_wp2_with fail
 refine(gy _ W w2 (H.out.below B2.out) RT.out.len).mono ?_;rintro e w3 ⟨u,rfl,ho,hb3⟩;clear x0 x1 x2 x3 x4 x5 x6 x7 x8;have B3:=aj (B2.out.trans (hb3.mono B2.out.size));have X3:=aj (X2.out.below hb3 X2.out.lt);have Z3:=aj (Z2.out.below hb3 Z2.out.lt);have S3:=aj (Nat.le_trans S2.out hb3.size);obtain⟨v1,v2,v3,v4,v5,rfl,⟨o1,o2,o3,o4,o5⟩,-,-,d14,-,-,d24,-,d34,-,d45⟩:=ho.mono S2.out;have O1:=aj (fK o1 o2 o3 o4 o5);have DD:Hid (dP v1 v4/\dP v2 v4/\dP v3 v4/\dP v5 v4):=⟨d14,d24,d34,d45.symm⟩;clear d14 d24 d34 d45;obtain⟨a1,b1,rfl⟩:=o1.len;obtain⟨a2,b2,rfl⟩:=o2.len;obtain⟨a3,b3,rfl⟩:=o3.len;obtain⟨a4,b4,rfl⟩:=o4.len;obtain⟨a5,b5,rfl⟩:=o5.len;clear ho hb3 B2 X2 Z2 S2 o1 o2 o3 o4 o5;obtain⟨x0,x1,x2,x3,x4,x5,x6,x7,x8⟩:=X3.out.cells;obtain⟨t0,t1,t2,t3,t4,t5,t6,t7,t8⟩:=X3.out.bC;have K4:=aj (bP w3 w.heap.size (int i64 W.turn) (int i64 W.next) (int i64 W.wide) (int i64 W.high) (slice a1 W.gs.length b1) (slice a2 W.os.length b2) (slice a3 W.gold.length b3) (slice a4 W.us.length b4) (slice a5 W.qs.length b5));have X4:=aj (X3.out.put (int i64 W.turn) (int i64 W.next) (int i64 W.wide) (int i64 W.high) (slice a1 W.gs.length b1) (slice a2 W.os.length b2) (slice a3 W.gold.length b3) (slice a4 W.us.length b4) (slice a5 W.qs.length b5));go_upto_region 8 with fail
 clear x0 x1 x2 x3 x4 x5 x6 x7 x8 t0 t1 t2 t3 t4 t5 t6 t7 t8;generalize World.setCell _ ⟨_,8,none⟩ _=w4 at *;have B4:=aj (K4.out.below B3.out B3.out.size (Nat.le_refl _));have Z4:=aj (Z3.out.kp K4.out (by omega));have S4:=aj (Nat.le_trans S3.out K4.out.size);have O4:Hid (Ow w4 (w.heap.size+2) (slice a1 W.gs.length b1) W.gs/\Ow w4 (w.heap.size+2) (slice a2 W.os.length b2) W.os/\Ow w4 (w.heap.size+2) (slice a3 W.gold.length b3) W.gold/\dQ w4 (w.heap.size+2) (slice a4 W.us.length b4) W.us/\dK w4 (w.heap.size+2) (slice a5 W.qs.length b5) W.qs):=
  ⟨O1.out.1.kp K4.out (by omega),O1.out.2.1.kp K4.out (by omega),O1.out.2.2.1.kp K4.out (by omega),O1.out.2.2.2.1.kp K4.out (by omega),O1.out.2.2.2.2.kp K4.out (by omega)⟩
 clear K4 B3 X3 Z3 S3 O1;refine aH [(true,0),(true,1),(true,2),(true,3),(true,4),(true,5),(true,6),(true,7),(true,8),(true,9),(true,10),(true,11),(true,12),(false,13),(false,14)] [(false,15),(false,16)] (λV=>V.cell? ⟨w.heap.size,7,none⟩=some (slice a4 W.us.length b4)/\V.cell? ⟨w.heap.size,1,none⟩=some (int i64 W.next)/\V.cell? ⟨(xk.add (kn*11)).block,(xk.add (kn*11)).off+1,none⟩=some (int i64 k.n0)) (by kernel_rfl) (by kernel_rfl) (by kernel_rfl) (by kernel_rfl) (by kernel_rfl) ?_ ?_
 ·obtain⟨-,x1,-,-,-,-,-,x7,-⟩:=X4.out.cells
  exact⟨x7,x1,(HK.out.1.below B4.out HK.out.2).c1⟩
 have X5:Hid (Wx {w4 with drawn:=w4.drawn+1} _ _ _ _ _ _ _ _ _ _):=X4.out;have B5:Hid (Below _ w {w4 with drawn:=w4.drawn+1}):=B4.out.drew;have Z5:Hid (Wx {w4 with drawn:=w4.drawn+1} _ _ _ _ _ _ _ _ _ _):=Z4.out;have S5:Hid (w.heap.size+2<=({w4 with drawn:=w4.drawn+1}:World).heap.size):=S4.out;have D5:Hid (Below w4.heap.size w4 {w4 with drawn:=w4.drawn+1}):=(Below.refl _ _).drew;generalize ({w4 with drawn:=w4.drawn+1}:World)=w5 at *;have O5:Hid (Ow w5 (w.heap.size+2) (slice a1 W.gs.length b1) W.gs/\Ow w5 (w.heap.size+2) (slice a2 W.os.length b2) W.os/\Ow w5 (w.heap.size+2) (slice a3 W.gold.length b3) W.gold/\dQ w5 (w.heap.size+2) (slice a4 W.us.length b4) W.us/\dK w5 (w.heap.size+2) (slice a5 W.qs.length b5) W.qs):=
  ⟨O4.out.1.below D5.out,O4.out.2.1.below D5.out,O4.out.2.2.1.below D5.out,O4.out.2.2.2.1.below D5.out,O4.out.2.2.2.2.below D5.out⟩
 clear X4 B4 Z4 S4 O4 D5;refine ay rfl (.pointer (some ⟨w.heap.size,7,none⟩)) (by go_simp) (λV hV=>by go_simp) ?_;go_simp;refine ay rfl (slice a4 W.us.length b4) (by go_simp) (λV hV=>by obtain⟨f7,f1,fk⟩:=hV;go_simp) ?_;go_simp;refine ay rfl (.pointer (some ⟨w.heap.size,1,none⟩)) (by go_simp) (λV hV=>by go_simp) ?_;go_simp;refine ay rfl (int i64 W.next) (by go_simp) (λV hV=>by obtain⟨f7,f1,fk⟩:=hV;go_simp) ?_;go_simp;refine ay rfl (int i64 pl) (by go_simp) (λV hV=>by go_simp) ?_;go_simp;refine ay rfl (int i64 (kn:Nat)) (by go_simp) (λV hV=>by go_simp) ?_;go_simp;refine ay rfl (int i64 at_) (by go_simp) (λV hV=>by go_simp) ?_;go_simp;refine ay rfl (slice (some xk) ks.length qk) (by go_simp) (λV hV=>by go_simp) ?_;go_simp;refine ay rfl (int i64 (kn:Nat)) (by go_simp) (λV hV=>by go_simp) ?_;go_simp;refine ay rfl (.pointer (some (xk.add (kn*11)))) (by go_simp) (λV hV=>by go_simp) ?_;go_simp;refine ay rfl (.pointer (some ⟨(xk.add (kn*11)).block,(xk.add (kn*11)).off+1,none⟩)) (by go_simp) (λV hV=>by go_simp) ?_;go_simp;refine ay rfl (int i64 k.n0) (by go_simp) (λV hV=>by obtain⟨f7,f1,fk⟩:=hV;go_simp) ?_;go_simp;refine ay rfl (.agg #[int i64 W.next,int i64 pl,int i64 (kn:Nat),int i64 at_,int i64 k.n0,int i64 0,int i64 0,int i64 0]) (by go_simp) (λV hV=>by go_simp) ?_;go_simp;have CL:Hid (∀V,Wx V w.heap.size (int i64 W.turn) (int i64 W.next) (int i64 W.wide) (int i64 W.high) (slice a1 W.gs.length b1) (slice a2 W.os.length b2) (slice a3 W.gold.length b3) (slice a4 W.us.length b4) (slice a5 W.qs.length b5)->Below w.heap.size w V->V.cell? ⟨w.heap.size,7,none⟩=some (slice a4 W.us.length b4)/\V.cell? ⟨w.heap.size,1,none⟩=some (int i64 W.next)/\V.cell? ⟨(xk.add (kn*11)).block,(xk.add (kn*11)).off+1,none⟩=some (int i64 k.n0)):=λV hX hB=>by
  obtain⟨-,x1,-,-,-,-,-,x7,-⟩:=hX.cells;exact⟨x7,x1,(HK.out.1.below hB HK.out.2).c1⟩
 have BA:Hid (Below _ w5 (w5.alloc (.cells #[int i64 W.next,int i64 pl,int i64 (kn:Nat),int i64 at_,int i64 k.n0,int i64 0,int i64 0,int i64 0] 74))):=(Below.refl _ _).alloc (Nat.le_refl _) _;have SA:Hid ((w5.alloc (.cells #[int i64 W.next,int i64 pl,int i64 (kn:Nat),int i64 at_,int i64 k.n0,int i64 0,int i64 0,int i64 0] 74)).heap.size=w5.heap.size+1):=by unfold Hid;simp
 have UA:Hid (dB (w5.alloc (.cells #[.int _ W.next,.int _ pl,.int _ (kn:Nat),.int _ at_,.int _ k.n0,.int _ 0,.int _ 0,.int _ 0] 74)) _ _):=dB.mk' (⟨W.next,pl,(kn:Nat),at_,k.n0,0,0,0⟩:aC) rfl;have OA:Hid (dQ (w5.alloc (.cells #[int i64 W.next,int i64 pl,int i64 (kn:Nat),int i64 at_,int i64 k.n0,int i64 0,int i64 0,int i64 0] 74)) _ _ _):=O5.out.2.2.2.1.alloc _;have XA:=aj (X5.out.below BA.out X5.out.lt);have BB:=aj (B5.out.trans (BA.out.mono B5.out.size));refine dw rfl (slice (some ⟨w5.heap.size,0,none⟩) 1 1) (w5.alloc (.cells #[int i64 W.next,int i64 pl,int i64 (kn:Nat),int i64 at_,int i64 k.n0,int i64 0,int i64 0,int i64 0] 74)) (by go_simp) (by go_simp) (CL.out _ XA.out BB.out) ?_;go_simp;generalize (w5.alloc _)=wa at *;obtain⟨i0,hi,hz0,hz1,hz2⟩:=info_parts zS;obtain⟨g,cap,w6,hr,ho6,hg6,ha6,hl6⟩:=run_append_lies (P:=Tryz.prog) wa 26 26 (w.heap.size+2) 74 i0 _ 8 64 Tryz.underlying26 hi hz0 hz1 hz2 rfl (by decide) (slice a4 W.us.length b4) W.us.length _ OA.out ⟨w5.heap.size,0,none⟩ 1 1 (aC.cs (⟨W.next,pl,(kn:Nat),at_,k.n0,0,0,0⟩:aC)) rfl (λj u hj=>by
  have hd:=UA.out;have hjn:j<8:=(List.getElem?_eq_some_iff.1 hj).1;rw[Addr.add_lit,Nat.zero_add]
  match j,hjn,hj with
  |0,_,hj=>simp[aC.cs] at hj;subst hj;exact hd.c0
  |1,_,hj=>simp[aC.cs] at hj;subst hj;exact hd.c1
  |2,_,hj=>simp[aC.cs] at hj;subst hj;exact hd.c2
  |3,_,hj=>simp[aC.cs] at hj;subst hj;exact hd.c3
  |4,_,hj=>simp[aC.cs] at hj;subst hj;exact hd.c4
  |5,_,hj=>simp[aC.cs] at hj;subst hj;exact hd.c5
  |6,_,hj=>simp[aC.cs] at hj;subst hj;exact hd.c6
  |7,_,hj=>simp[aC.cs] at hj;subst hj;exact hd.c7) (λu hu=>by
  simp[aC.cs] at hu;rcases hu with rfl|rfl|rfl|rfl|rfl|rfl|rfl|rfl<;>rfl) (by decide) (by have:=L40.out;unfold maxLen;omega) (by have:=L40.out;omega) (by have:=S5.out;have:=SA.out;omega) _ rfl
 have ON:Hid (dQ w6 (w.heap.size+2) (slice (some ⟨g,0,none⟩) (W.us.length+1) cap) (W.us++[(⟨W.next,pl,(kn:Nat),at_,k.n0,0,0,0⟩:aC)])):=by
  unfold Hid dQ;rw[List.length_append,List.flatMap_append];simpa using ho6
 have GB:Hid (∀b,((slice a4 W.us.length b4):Value).ownBlock=some b->w.heap.size+2<=b):=λb hb=>(OA.out.block b hb).1
 have BG:=aj ((Below.refl _ _).grown hg6 (by have:=S5.out;have:=SA.out;omega) (λb hb=>GB.out b hb));have X6:=aj (XA.out.below BG.out (by omega));have Z6:=aj ((Z5.out.below BA.out Z5.out.lt).below BG.out (by omega));have B6:=aj (BB.out.trans (BG.out.mono (by omega)));refine dw rfl _ w6 (by go_simp) (f_ _ _ _ _ rfl _ _ (by go_simp) (by go_simp) hr) (CL.out _ X6.out B6.out) ?_;have S6:Hid (w.heap.size+2<=w6.heap.size):=by have:=S5.out;have:=SA.out;have:=BG.out.size;unfold Hid;omega
 have N1:=aj (((O5.out.1).below BA.out).kept hg6 DD.out.1.ne);have N2:=aj (((O5.out.2.1).below BA.out).kept hg6 DD.out.2.1.ne);have N3:=aj (((O5.out.2.2.1).below BA.out).kept hg6 DD.out.2.2.1.ne);have N5:=aj (((O5.out.2.2.2.2).below BA.out).kept hg6 DD.out.2.2.2.ne);clear hr ho6 hg6 ha6 hl6 hi hz0 hz1 hz2 BG GB OA UA XA BB BA X5 Z5 S5 B5 O5 CL SA DD;go_simp;unfold aW;refine aN rfl (.pointer (some ⟨w.heap.size,7,none⟩)) w6 (by go_simp) (by go_simp) trivial ?_;go_simp;have K7:Hid (Kp _ w6 (w6.setCell ⟨w.heap.size,7,none⟩ (slice (some ⟨g,0,none⟩) (W.us.length+1) cap))):=Kp.set _ _ _;have X7:Hid (Wx _ _ _ _ _ _ _ _ _ (slice (some ⟨g,0,none⟩) (W.us.length+1) cap) _):=X6.out.wS _;have t7:=X6.out.thaw 7;obtain⟨-,-,-,-,-,-,-,x7,-⟩:=X6.out.cells;refine g_ rfl (w6.setCell ⟨w.heap.size,7,none⟩ (slice (some ⟨g,0,none⟩) (W.us.length+1) cap)) (by go_simp) (by go_simp) trivial ?_;go_simp;clear t7 x7;generalize (w6.setCell _ _)=w7 at *;have B7:=aj (K7.out.below B6.out B6.out.size (Nat.le_refl _));have Z7:=aj (Z6.out.kp K7.out (by omega));have S7:=aj (Nat.le_trans S6.out K7.out.size);have M:Hid (Ow w7 (w.heap.size+2) (slice a1 W.gs.length b1) W.gs/\Ow w7 (w.heap.size+2) (slice a2 W.os.length b2) W.os/\Ow w7 (w.heap.size+2) (slice a3 W.gold.length b3) W.gold/\dQ w7 (w.heap.size+2) (slice (some ⟨g,0,none⟩) (W.us.length+1) cap) (W.us++[(⟨W.next,pl,(kn:Nat),at_,k.n0,0,0,0⟩:aC)])/\dK w7 (w.heap.size+2) (slice a5 W.qs.length b5) W.qs):=
  ⟨N1.out.kp K7.out (by omega),N2.out.kp K7.out (by omega),N3.out.kp K7.out (by omega),ON.out.kp K7.out (by omega),N5.out.kp K7.out (by omega)⟩
 clear K7 B6 Z6 S6 N1 N2 N3 N5 ON X6;unfold aP;have wn:IntKind.i64.wrap (W.next+1)=W.next+1:=by rw[IntKind.wrap_i64];omega
 have K8:Hid (Kp _ w7 (w7.setCell ⟨w.heap.size,1,none⟩ (int i64 (W.next+1)))):=Kp.set _ _ _;have X8:Hid (Wx _ _ _ (int i64 (W.next+1)) _ _ _ _ _ _ _):=X7.out.set1 _;have t1:=X7.out.thaw 1;obtain⟨-,x1,-,-,-,-,-,-,-⟩:=X7.out.cells;go_upto_region 10 with fail
 clear t1 x1 wn;generalize (w7.setCell _ _)=w8 at *;have B8:=aj (K8.out.below B7.out B7.out.size (Nat.le_refl _));have Z8:=aj (Z7.out.kp K8.out (by omega));have S8:=aj (Nat.le_trans S7.out K8.out.size);have M8:Hid (Ow w8 (w.heap.size+2) (slice a1 W.gs.length b1) W.gs/\Ow w8 (w.heap.size+2) (slice a2 W.os.length b2) W.os/\Ow w8 (w.heap.size+2) (slice a3 W.gold.length b3) W.gold/\dQ w8 (w.heap.size+2) (slice (some ⟨g,0,none⟩) (W.us.length+1) cap) (W.us++[(⟨W.next,pl,(kn:Nat),at_,k.n0,0,0,0⟩:aC)])/\dK w8 (w.heap.size+2) (slice a5 W.qs.length b5) W.qs):=
  ⟨M.out.1.kp K8.out (by omega),M.out.2.1.kp K8.out (by omega),M.out.2.2.1.kp K8.out (by omega),M.out.2.2.2.1.kp K8.out (by omega),M.out.2.2.2.2.kp K8.out (by omega)⟩
 clear K8 B7 Z7 S7 M X7;obtain⟨x0,x1,x2,x3,x4,x5,x6,x7,x8⟩:=X8.out.cells;obtain⟨z0,z1,z2,z3,z4,z5,z6,z7,z8⟩:=Z8.out.cells;obtain⟨t0,t1,t2,t3,t4,t5,t6,t7,t8⟩:=Z8.out.bC;have KZ:=aj (bP w8 (w.heap.size+1) (int i64 W.turn) (int i64 (W.next+1)) (int i64 W.wide) (int i64 W.high) (slice a1 W.gs.length b1) (slice a2 W.os.length b2) (slice a3 W.gold.length b3) (slice (some ⟨g,0,none⟩) (W.us.length+1) cap) (slice a5 W.qs.length b5));obtain⟨y0,y1,y2,y3,y4,y5,y6,y7,y8⟩:=(Z8.out.put (int i64 W.turn) (int i64 (W.next+1)) (int i64 W.wide) (int i64 W.high) (slice a1 W.gs.length b1) (slice a2 W.os.length b2) (slice a3 W.gold.length b3) (slice (some ⟨g,0,none⟩) (W.us.length+1) cap) (slice a5 W.qs.length b5)).cells;go_wp2;clear x0 x1 x2 x3 x4 x5 x6 x7 x8 z0 z1 z2 z3 z4 z5 z6 z7 z8 t0 t1 t2 t3 t4 t5 t6 t7 t8;generalize World.setCell _ ⟨_,8,none⟩ _=w9 at *;refine bodyPost_ret (v:=.tuple #[.agg #[int i64 W.turn,int i64 (W.next+1),int i64 W.wide,int i64 W.high,slice a1 W.gs.length b1,slice a2 W.os.length b2,slice a3 W.gold.length b3,slice (some ⟨g,0,none⟩) (W.us.length+1) cap,slice a5 W.qs.length b5],.nilIface]) (by simp[results,Tryz.results39,go_sem,y0,y1,y2,y3,y4,y5,y6,y7,y8]) rfl ⟨_,_,rfl,by rw[P0.out];exact Er.nil,?_,KZ.out.below B8.out B8.out.size (by omega)⟩;rw[jW P0.out];unfold Wd.put;rw[NU.out];exact⟨_,_,_,_,_,rfl,(M8.out.1.kp KZ.out (by omega)).mono (by omega),(M8.out.2.1.kp KZ.out (by omega)).mono (by omega),(M8.out.2.2.1.kp KZ.out (by omega)).mono (by omega),(M8.out.2.2.2.1.kp KZ.out (by omega)).mono (by omega),(M8.out.2.2.2.2.kp KZ.out (by omega)).mono (by omega)⟩
theorem JQ(vk vw:Value)(ks:List KV)(Y:WV)(j:aO)(w:World)(hk:Kl w vk ks)(hb:∀k∈ks,k.b.size<=9223372036854775807)(hw:Wl w vw Y)(hr:Wd.aF ks Y=0)(hs:Sd w):
  Calls Tryz.prog 106 #[vk,vw,j.val] w λe w'=>∃u r Z,e=.returned (.tuple #[u,r])/\Wo w' w.heap.size u Z/\Below w.heap.size w w'/\((∃c,Comes ks Y j c/\r=.nilIface/\Z=Wd.put ks Y j.aA j.kind c)\/(kP ks Y j/\∃n:Int,n≠0/\r=.iface 85 (int i64 n))):=by
 have K:Hid (Kl w vk ks/\∀k∈ks,k.b.size<=9223372036854775807):=⟨hk,hb⟩;have H:Hid (Wl w vw Y/\Wd.aF ks Y=0/\Sd w):=⟨hw,hr,hs⟩;obtain⟨p1,q1,p2,q2,p3,q3,p4,q4,p5,q5,rfl⟩:=aV hw;obtain⟨pk,qk,rfl,ck1,ck2,kc⟩:=hk;clear hb hw kc hr hs;unfold aO.val;go_enter Tryz.func106,Tryz.ntmps106;go_upto_region 1 with fail
 obtain⟨z,hz⟩:∃z,w.heap.size=z:=⟨_,rfl⟩;have HZ:=aj (hz);have z1:(w.alloc (Obj.cells #[int i64 Y.turn,int i64 Y.next,int i64 Y.wide,int i64 Y.high,slice p1 Y.gs.length q1,slice p2 Y.os.length q2,slice p3 Y.gold.length q3,slice p4 Y.us.length q4,slice p5 Y.qs.length q5] 29)).heap.size=z+1:=by rw[<-hz];simp
 have z2:((w.alloc (Obj.cells #[int i64 Y.turn,int i64 Y.next,int i64 Y.wide,int i64 Y.high,slice p1 Y.gs.length q1,slice p2 Y.os.length q2,slice p3 Y.gold.length q3,slice p4 Y.us.length q4,slice p5 Y.qs.length q5] 29)).alloc (Obj.cells #[int i64 j.aA,int i64 j.unit,int i64 j.kind,int i64 j.left] 93)).heap.size=z+2:=by rw[<-hz];simp
 have X0:Hid (Wx (((w.alloc (Obj.cells #[int i64 Y.turn,int i64 Y.next,int i64 Y.wide,int i64 Y.high,slice p1 Y.gs.length q1,slice p2 Y.os.length q2,slice p3 Y.gold.length q3,slice p4 Y.us.length q4,slice p5 Y.qs.length q5] 29)).alloc (Obj.cells #[int i64 j.aA,int i64 j.unit,int i64 j.kind,int i64 j.left] 93)).alloc (Obj.cells #[int i64 0,int i64 0,int i64 0,int i64 0,slice none 0 0,slice none 0 0,slice none 0 0,slice none 0 0,slice none 0 0] 29)) z (int i64 Y.turn) (int i64 Y.next) (int i64 Y.wide) (int i64 Y.high) (slice p1 Y.gs.length q1) (slice p2 Y.os.length q2) (slice p3 Y.gold.length q3) (slice p4 Y.us.length q4) (slice p5 Y.qs.length q5)):=((Wx.new (w:=w) (int i64 Y.turn) (int i64 Y.next) (int i64 Y.wide) (int i64 Y.high) (slice p1 Y.gs.length q1) (slice p2 Y.os.length q2) (slice p3 Y.gold.length q3) (slice p4 Y.us.length q4) (slice p5 Y.qs.length q5) hz).below ((Below.refl _ _).alloc (Nat.le_refl _) _) (Wx.new (w:=w) (int i64 Y.turn) (int i64 Y.next) (int i64 Y.wide) (int i64 Y.high) (slice p1 Y.gs.length q1) (slice p2 Y.os.length q2) (slice p3 Y.gold.length q3) (slice p4 Y.us.length q4) (slice p5 Y.qs.length q5) hz).lt).below ((Below.refl _ _).alloc (Nat.le_refl _) _) (by rw[z2];omega);have J0:Hid (jS (((w.alloc _).alloc _).alloc (Obj.cells #[int i64 0,int i64 0,int i64 0,int i64 0,slice none 0 0,slice none 0 0,slice none 0 0,slice none 0 0,slice none 0 0] 29)) _ j):=(jS.mk' j z1).below ((Below.refl _ _).alloc (Nat.le_refl _) _) (jS.mk' j z1).lt;have Z0:=aj (Wx.new (w:=((w.alloc (Obj.cells #[int i64 Y.turn,int i64 Y.next,int i64 Y.wide,int i64 Y.high,slice p1 Y.gs.length q1,slice p2 Y.os.length q2,slice p3 Y.gold.length q3,slice p4 Y.us.length q4,slice p5 Y.qs.length q5] 29)).alloc (Obj.cells #[int i64 j.aA,int i64 j.unit,int i64 j.kind,int i64 j.left] 93))) (int i64 0) (int i64 0) (int i64 0) (int i64 0) (slice none 0 0) (slice none 0 0) (slice none 0 0) (slice none 0 0) (slice none 0 0) z2);have B0:Hid (Below w.heap.size w (((w.alloc (Obj.cells #[int i64 Y.turn,int i64 Y.next,int i64 Y.wide,int i64 Y.high,slice p1 Y.gs.length q1,slice p2 Y.os.length q2,slice p3 Y.gold.length q3,slice p4 Y.us.length q4,slice p5 Y.qs.length q5] 29)).alloc (Obj.cells #[int i64 j.aA,int i64 j.unit,int i64 j.kind,int i64 j.left] 93)).alloc (Obj.cells #[int i64 0,int i64 0,int i64 0,int i64 0,slice none 0 0,slice none 0 0,slice none 0 0,slice none 0 0,slice none 0 0] 29))):=(((Below.refl _ _).alloc (Nat.le_refl _) _).alloc (by simp) _).alloc (by simp;omega) _;rw[hz];clear hz z1 z2;generalize (((w.alloc _).alloc _).alloc _)=w0 at *;obtain⟨x0,x1,x2,x3,x4,x5,x6,x7,x8⟩:=X0.out.cells;obtain⟨j0,j1,j2,j3⟩:=J0.out;go_wp2_with fail
 refine(Ib _ _ ks Y _ _ w0 (K.out.1.below B0.out) K.out.2 (H.out.1.below B0.out) (H.out.2.2.below B0.out)).mono ?_;rintro e w1 ⟨c,r,F,rfl,hr,hs,hb⟩;have SS:=aj (hs);have B1:=aj (B0.out.trans (hb.mono B0.out.size));have X1:=aj (X0.out.below hb X0.out.lt);have J1:=aj (J0.out.below hb J0.out.lt);have Z1:=aj (Z0.out.below hb Z0.out.lt);clear hb hs x0 x1 x2 x3 x4 x5 x6 x7 x8 j0 j1 j2 j3 X0 J0 Z0 B0;rcases hr with⟨rfl,rfl⟩|⟨hf,rfl⟩
 case inr=>
  have HF:=aj (hf);clear hf;obtain⟨z0,z1,z2,z3,z4,z5,z6,z7,z8⟩:=Z1.out.cells;obtain⟨t0,t1,t2,t3,t4,t5,t6,t7,t8⟩:=Z1.out.bC;have KZ:=aj (dF w1 (z+2));obtain⟨y0,y1,y2,y3,y4,y5,y6,y7,y8⟩:=(Z1.out.jJ).cells;go_wp2;clear z0 z1 z2 z3 z4 z5 z6 z7 z8 t0 t1 t2 t3 t4 t5 t6 t7 t8;generalize World.setCell _ ⟨_,8,none⟩ _=w2 at *;refine bodyPost_ret (by simp[results,Tryz.results106,go_sem,y0,y1,y2,y3,y4,y5,y6,y7,y8]) rfl ⟨_,_,WV.zero,rfl,jX _ _,?_,.inr ⟨⟨c,F,SS.out,.inl HF.out⟩,F,HF.out,rfl⟩⟩;exact KZ.out.below B1.out B1.out.size (by have:=HZ.out;omega)
 obtain⟨x0,x1,x2,x3,x4,x5,x6,x7,x8⟩:=X1.out.cells;obtain⟨j0,j1,j2,j3⟩:=J1.out;go_wp2_with fail
 refine(m_ _ _ ks Y _ _ c w1 (K.out.1.below B1.out) K.out.2 (H.out.1.below B1.out)).mono ?_;rintro e w2 ⟨u,r,rfl,hr,hu,hb⟩;have PF:Hid (Wd.dG ks Y j.aA j.kind c=Wd.aT ks Y j.aA j.kind c):=by unfold Hid Wd.dG;rw[if_pos H.out.2.1]
 rw[PF.out] at hr;have B2:=aj (B1.out.trans (hb.mono B1.out.size));have X2:=aj (X1.out.below hb X1.out.lt);have J2:=aj (J1.out.below hb J1.out.lt);have Z2:=aj (Z1.out.below hb Z1.out.lt);have U2:=aj (hu);have S1:=aj (Z1.out.lt);obtain⟨Z,hZ⟩:∃Z,Wd.placed ks Y j.aA j.kind c=Z:=⟨_,rfl⟩;have HP:=aj (hZ);rw[hZ] at U2 hu;obtain⟨k1,k2,k3,k4,k5,rfl,o1,o2,o3,o4,o5⟩:=hu;obtain⟨a1,r1,rfl⟩:=o1.len;obtain⟨a2,r2,rfl⟩:=o2.len;obtain⟨a3,r3,rfl⟩:=o3.len;obtain⟨a4,r4,rfl⟩:=o4.len;obtain⟨a5,r5,rfl⟩:=o5.len;have OO:=aj (fK o1 o2 o3 o4 o5);have ND:Hid (((∃c,Comes ks Y j c/\r=.nilIface/\Z=Wd.put ks Y j.aA j.kind c)\/(kP ks Y j/\∃n:Int,n≠0/\r=.iface 85 (int i64 n)))):=by
  unfold Hid;rcases hr with⟨h0,rfl⟩|⟨h0,rfl⟩
  ·exact .inl ⟨c,⟨SS.out,h0⟩,rfl,by rw[<-HP.out,jW (by rw[PF.out];exact h0)]⟩
  ·exact .inr ⟨⟨c,0,SS.out,.inr h0⟩,_,h0,rfl⟩
 clear hb hr hZ o1 o2 o3 o4 o5 x0 x1 x2 x3 x4 x5 x6 x7 x8 j0 j1 j2 j3 X1 J1 Z1 B1 U2 HP PF SS;obtain⟨z0,z1,z2,z3,z4,z5,z6,z7,z8⟩:=Z2.out.cells;obtain⟨t0,t1,t2,t3,t4,t5,t6,t7,t8⟩:=Z2.out.bC;have KZ:=aj (bP w2 (z+2) (int i64 Z.turn) (int i64 Z.next) (int i64 Z.wide) (int i64 Z.high) (slice a1 Z.gs.length r1) (slice a2 Z.os.length r2) (slice a3 Z.gold.length r3) (slice a4 Z.us.length r4) (slice a5 Z.qs.length r5));obtain⟨y0,y1,y2,y3,y4,y5,y6,y7,y8⟩:=(Z2.out.put (int i64 Z.turn) (int i64 Z.next) (int i64 Z.wide) (int i64 Z.high) (slice a1 Z.gs.length r1) (slice a2 Z.os.length r2) (slice a3 Z.gold.length r3) (slice a4 Z.us.length r4) (slice a5 Z.qs.length r5)).cells;go_wp2;clear z0 z1 z2 z3 z4 z5 z6 z7 z8 t0 t1 t2 t3 t4 t5 t6 t7 t8;generalize World.setCell _ ⟨_,8,none⟩ _=w3 at *;have h1:=S1.out;have h2:=HZ.out;refine bodyPost_ret (by simp[results,Tryz.results106,go_sem,y0,y1,y2,y3,y4,y5,y6,y7,y8]) rfl ⟨_,_,Z,rfl,⟨_,_,_,_,_,rfl,(OO.out.1.kp KZ.out (by omega)).mono (by omega),(OO.out.2.1.kp KZ.out (by omega)).mono (by omega),(OO.out.2.2.1.kp KZ.out (by omega)).mono (by omega),(OO.out.2.2.2.1.kp KZ.out (by omega)).mono (by omega),(OO.out.2.2.2.2.kp KZ.out (by omega)).mono (by omega)⟩,?_,ND.out⟩;exact KZ.out.below B2.out B2.out.size (by omega)
theorem Ri{ks:List KV}{X:WV}(h:aQ ks X){j:aO}(hj:j∈X.qs):(1<=j.left/\j.left<=1000)/\1<=j.unit/\j.unit<=1000000:=by
 have hf:=h.job hj;unfold Wd.aJ at hf;split at hf
 ·cases hf
 ·rename_i u hu
  split at hf
  ·cases hf
  ·split at hf
   ·cases hf
   ·split at hf
    ·cases hf
    ·rename_i k hk h1 h2
     simp only[Bool.or_eq_true,Bool.not_eq_true',decide_eq_false_iff_not,not_or,Classical.not_not,Bool.not_eq_false] at h2;refine⟨h2.2,?_⟩;have hm:=List.mem_of_find?_eq_some hu;have he:=List.find?_some hu;simp at he;obtain⟨i,hi⟩:=List.mem_iff_getElem?.1 hm;obtain⟨k',F⟩:=h.fine hi;have h3:=F.id1;have h4:=F.id2;have h5:=h.nums;unfold Wd.aU at h5;simp only[Bool.or_eq_false_iff] at h5;have h6:=h5.2.1;unfold Wd.off at h6;simp at h6;omega
theorem kC(l:List aO)(j:aO):(kN l j).aA=j.aA/\(kN l j).unit=j.unit/\(kN l j).kind=j.kind/\one1 (kN l j)=one1 j:=by
 unfold kN one1;split<;>exact⟨rfl,rfl,rfl,rfl⟩
theorem Ed{ks:List KV}{Y:WV}{l:List aO}{j:aO}{c:Int}(h:Comes ks Y (kN l j) c):Comes ks Y j c:=by
 obtain⟨e1,e2,e3,-⟩:=kC l j;unfold Comes at h ⊢;rw[e1,e2,e3] at h;exact h
theorem yS{ks:List KV}{Y:WV}{l:List aO}{j:aO}(h:kP ks Y (kN l j)):kP ks Y j:=by
 obtain⟨e1,e2,e3,-⟩:=kC l j;unfold kP at h ⊢;rw[e1,e2,e3] at h;exact h
def Ee(ks:List KV)(X:WV)(w w':World)(v ev:Value):Prop:=
 (Wd.aF ks X≠0/\v=.agg #[int i64 0,int i64 0,int i64 0,int i64 0,slice none 0 0,slice none 0 0,slice none 0 0,slice none 0 0,slice none 0 0]/\ev=slice none 0 0)
 \/(Wd.aF ks X=0/\∃Y es qs,Tr ks X X.qs.length Y es qs/\Wo w' w.heap.size v {Y with qs:=qs}/\dY w' w.heap.size ev es)
theorem Ef(vk vw:Value)(ks:List KV)(X:WV)(w:World)(hk:Kl w vk ks)(hb:∀k∈ks,k.b.size<=9223372036854775807)(hw:Wl w vw X)(hs:Sd w):
  Calls Tryz.prog 58 #[vk,vw] w λe w'=>∃v ev r,e=.returned (.tuple #[v,ev,r])/\Er r (Wd.aF ks X)/\Ee ks X w w' v ev/\Below w.heap.size w w':=by
 have K:Hid (Kl w vk ks/\∀k∈ks,k.b.size<=9223372036854775807):=⟨hk,hb⟩;have H:=aj (hw);have SD:=aj (hs);clear hs;obtain⟨p1,q1,p2,q2,p3,q3,p4,q4,p5,q5,rfl⟩:=aV hw;obtain⟨pk,qk,rfl,ck1,ck2,kc⟩:=hk;clear hb hw kc;go_enter Tryz.func58,Tryz.ntmps58;go_upto_region 1 with fail
 have B0:Hid (Below _ w ((w.alloc (Obj.cells #[int i64 X.turn,int i64 X.next,int i64 X.wide,int i64 X.high,slice p1 X.gs.length q1,slice p2 X.os.length q2,slice p3 X.gold.length q3,slice p4 X.us.length q4,slice p5 X.qs.length q5] 29)).alloc (Obj.cells #[int i64 0,int i64 0,int i64 0,int i64 0,slice none 0 0,slice none 0 0,slice none 0 0,slice none 0 0,slice none 0 0] 29))):=((Below.refl _ _).alloc (Nat.le_refl _) _).alloc (by simp) _;have X0:Hid (Wx ((w.alloc _).alloc (Obj.cells #[int i64 0,int i64 0,int i64 0,int i64 0,slice none 0 0,slice none 0 0,slice none 0 0,slice none 0 0,slice none 0 0] 29)) _ _ _ _ _ _ _ _ _ _):=(Wx.new (int i64 X.turn) (int i64 X.next) (int i64 X.wide) (int i64 X.high) (slice p1 X.gs.length q1) (slice p2 X.os.length q2) (slice p3 X.gold.length q3) (slice p4 X.us.length q4) (slice p5 X.qs.length q5) rfl).below ((Below.refl _ _).alloc (Nat.le_refl _) _) (by simp);have Z0:Hid (Wx ((w.alloc (Obj.cells #[int i64 X.turn,int i64 X.next,int i64 X.wide,int i64 X.high,slice p1 X.gs.length q1,slice p2 X.os.length q2,slice p3 X.gold.length q3,slice p4 X.us.length q4,slice p5 X.qs.length q5] 29)).alloc _) (w.heap.size+1) _ _ _ _ _ _ _ _ _):=Wx.new (int i64 0) (int i64 0) (int i64 0) (int i64 0) (slice none 0 0) (slice none 0 0) (slice none 0 0) (slice none 0 0) (slice none 0 0) (by simp);generalize ((w.alloc _).alloc _)=w0 at *;obtain⟨x0,x1,x2,x3,x4,x5,x6,x7,x8⟩:=X0.out.cells;go_wp2_with fail
 refine(dI _ _ ks X w0 (K.out.1.below B0.out) K.out.2 (H.out.below B0.out)).mono ?_;rintro e w1 ⟨r,rfl,hr,hb⟩;obtain⟨fw,hfw⟩:∃f,Wd.aF ks X=f:=⟨_,rfl⟩;have FW:=aj (hfw);rw[hfw] at hr;have B1:=aj (B0.out.trans (hb.mono B0.out.size));have X1:=aj (X0.out.below hb X0.out.lt);have Z1:=aj (Z0.out.below hb Z0.out.lt);clear hb hfw x0 x1 x2 x3 x4 x5 x6 x7 x8 X0 B0 Z0;rcases hr with⟨rfl,rfl⟩|⟨hf,rfl⟩
 case inr=>
  have HF:=aj (hf);clear hf;obtain⟨z0,z1,z2,z3,z4,z5,z6,z7,z8⟩:=Z1.out.cells;obtain⟨t0,t1,t2,t3,t4,t5,t6,t7,t8⟩:=Z1.out.bC;have KZ:=aj (dF w1 (w.heap.size+1));obtain⟨y0,y1,y2,y3,y4,y5,y6,y7,y8⟩:=(Z1.out.jJ).cells;go_wp2;clear z0 z1 z2 z3 z4 z5 z6 z7 z8 t0 t1 t2 t3 t4 t5 t6 t7 t8;generalize World.setCell _ ⟨_,8,none⟩ _=w9 at *;refine bodyPost_ret (v:=.tuple #[.agg _,slice none 0 0,.iface 85 (int i64 fw)]) (by simp[results,Tryz.results58,go_sem,y0,y1,y2,y3,y4,y5,y6,y7,y8]) rfl ⟨_,_,_,rfl,by rw[FW.out];exact Er.no HF.out,.inl ⟨by rw[FW.out];exact HF.out,rfl,rfl⟩,KZ.out.below B1.out B1.out.size (by omega)⟩
 have WR:=aj (aY FW.out);obtain⟨Wn,Hn,e1,e2,G⟩:=WR.out.good;clear e1 e2 G;obtain⟨x0,x1,x2,x3,x4,x5,x6,x7,x8⟩:=X1.out.cells;go_wp2_with fail
 refine(gy _ X w1 (H.out.below B1.out) WR.out.len).mono ?_;rintro e w2 ⟨cu,rfl,⟨k1,k2,k3,k4,k5,rfl,⟨o1,o2,o3,o4,o5⟩,-⟩,hb⟩;obtain⟨a1,r1,rfl⟩:=o1.len;obtain⟨a2,r2,rfl⟩:=o2.len;obtain⟨a3,r3,rfl⟩:=o3.len;obtain⟨a4,r4,rfl⟩:=o4.len;obtain⟨a5,r5,rfl⟩:=o5.len;obtain⟨b1,hb1⟩:∃z,w1.heap.size=z:=⟨_,rfl⟩;rw[hb1] at o1 o2 o3 o4 o5;have BS:Hid (w.heap.size+1<b1/\b1<=w2.heap.size):=⟨by rw[<-hb1];exact Z1.out.lt,by rw[<-hb1];exact hb.size⟩;have X2:=aj (X1.out.below hb X1.out.lt);have Z2:=aj (Z1.out.below hb Z1.out.lt);have B2:=aj (B1.out.trans (hb.mono B1.out.size));have O2:=aj (fK o1 o2 o3 o4 o5)
 skip
 clear hb hb1 x0 x1 x2 x3 x4 x5 x6 x7 x8 o1 o2 o3 o4 o5 X1 Z1 B1;obtain⟨z0,z1,z2,z3,z4,z5,z6,z7,z8⟩:=X2.out.cells;obtain⟨t0,t1,t2,t3,t4,t5,t6,t7,t8⟩:=X2.out.bC;have KZ:=aj (bP w2 w.heap.size (int i64 X.turn) (int i64 X.next) (int i64 X.wide) (int i64 X.high) (slice a1 X.gs.length r1) (slice a2 X.os.length r2) (slice a3 X.gold.length r3) (slice a4 X.us.length r4) (slice a5 X.qs.length r5));have X3:=aj (X2.out.put (int i64 X.turn) (int i64 X.next) (int i64 X.wide) (int i64 X.high) (slice a1 X.gs.length r1) (slice a2 X.os.length r2) (slice a3 X.gold.length r3) (slice a4 X.us.length r4) (slice a5 X.qs.length r5));go_upto_region 5 with fail
 clear z0 z1 z2 z3 z4 z5 z6 z7 z8 t0 t1 t2 t3 t4 t5 t6 t7 t8;generalize World.setCell _ ⟨_,8,none⟩ _=w3 at *;have Z3:=aj (Z2.out.kp KZ.out (by omega));have B3:=aj (KZ.out.below B2.out B2.out.size (Nat.le_refl _));have O3:Hid (Ow w3 b1 (slice a1 X.gs.length r1) X.gs/\Ow w3 b1 (slice a2 X.os.length r2) X.os/\Ow w3 b1 (slice a3 X.gold.length r3) X.gold/\dQ w3 b1 (slice a4 X.us.length r4) X.us/\dK w3 b1 (slice a5 X.qs.length r5) X.qs):=by
  have h:=BS.out.1;exact⟨O2.out.1.kp KZ.out (by omega),O2.out.2.1.kp KZ.out (by omega),O2.out.2.2.1.kp KZ.out (by omega),O2.out.2.2.2.1.kp KZ.out (by omega),O2.out.2.2.2.2.kp KZ.out (by omega)⟩
 obtain⟨b3,hb3⟩:∃z,w3.heap.size=z:=⟨_,rfl⟩;have S3:Hid (b1<=b3/\w3.heap.size=b3):=⟨by rw[<-hb3];exact Nat.le_trans BS.out.2 KZ.out.size,hb3⟩;have L3:Hid (Wl w3 (.agg #[int i64 X.turn,int i64 X.next,int i64 X.wide,int i64 X.high,slice a1 X.gs.length r1,slice a2 X.os.length r2,slice a3 X.gold.length r3,slice a4 X.us.length r4,slice a5 X.qs.length r5]) X):=⟨(slice a1 X.gs.length r1),(slice a2 X.os.length r2),(slice a3 X.gold.length r3),(slice a4 X.us.length r4),(slice a5 X.qs.length r5),rfl,O3.out.1.ro,O3.out.2.1.ro,O3.out.2.2.1.ro,O3.out.2.2.2.1.l,O3.out.2.2.2.2.l⟩;clear hb3 KZ X2 Z2 B2 O2;obtain⟨x0,x1,x2,x3,x4,x5,x6,x7,x8⟩:=X3.out.cells;clear x0 x1 x2 x3 x4 x5 x6 x7 x8;have N3:Hid (w.heap.size+1<b1/\b1<=b3/\w3.heap.size=b3):=⟨BS.out.1,S3.out.1,S3.out.2⟩;have B4:Hid (Below _ w3 ((w3.alloc (Obj.map #[] 0)).alloc (Obj.cells #[.map (some b3)] 166))):=((Below.refl _ _).alloc (Nat.le_refl _) _).alloc (by simp) _;have M5:Hid (Im ((w3.alloc (Obj.map #[] 0)).alloc (Obj.cells #[.map (some b3)] 166)) b3 0 (λu=>((mW (X.qs.take 0) u:Nat):Int))):=by
  have h:=Ol w3;rw[N3.out.2.2] at h;exact h.below ((Below.refl _ _).alloc (Nat.le_refl _) _)
 have C5:Hid (((w3.alloc (Obj.map #[] 0)).alloc (Obj.cells #[.map (some b3)] 166)).cell? ⟨b3+1,0,none⟩=some (.map (some b3))):=by
  unfold Hid;have:=N3.out.2.2;rw[<-this];simp
 have S5:Hid (((w3.alloc (Obj.map #[] 0)).alloc (Obj.cells #[.map (some b3)] 166)).heap.size=b3+2):=by have:=N3.out.2.2;unfold Hid;rw[<-this];simp
 have hb3:=N3.out.2.2;have hmm:=@run_makeMap Tryz.prog;have x8:=(X3.out.below B4.out X3.out.lt).cells.2.2.2.2.2.2.2.2;go_wp2_with fail
 clear hb3 hmm x8;have T5:Hid (∀w5,w5=(w3.alloc (Obj.map #[] 0)).alloc (Obj.cells #[.map (some b3)] 166)->nM X [] [] _ b1 b3 _ w5 _ _ _ _ _ _ _ w5):=λw5 e=>by
  subst e;have h1:=N3.out;refine⟨X3.out.below B4.out X3.out.lt,O3.out.1.below B4.out,O3.out.2.1.below B4.out,O3.out.2.2.1.below B4.out,O3.out.2.2.2.1.below B4.out,O3.out.2.2.2.2.below B4.out,(λk _ h=>by cases h),(λx hx k hk=>.inl ?_),dY.nil _ _,dK.nil _ _,Fr.below (Below.refl _ _),⟨by omega,h1.2.1,by omega,S5.out⟩⟩;simp only[List.mem_cons,List.not_mem_nil,or_false] at hx;rcases hx with rfl|rfl|rfl|rfl|rfl
  ·have:=(O3.out.1.block k hk).2;omega
  ·have:=(O3.out.2.1.block k hk).2;omega
  ·have:=(O3.out.2.2.1.block k hk).2;omega
  ·have:=(O3.out.2.2.2.1.block k hk).2;omega
  ·have:=(O3.out.2.2.2.2.block k hk).2;omega
 have Z5:=aj (Z3.out.below B4.out Z3.out.lt);have B5:=aj (B3.out.trans (B4.out.mono B3.out.size));have J5:Hid (dK ((w3.alloc (Obj.map #[] 0)).alloc (Obj.cells #[.map (some b3)] 166)) b1 (slice a5 X.qs.length r5) X.qs/\∀k,(slice a5 X.qs.length r5).ownBlock=some k->b1<=k/\k<b3):=⟨O3.out.2.2.2.2.below B4.out,λk hk=>by have:=O3.out.2.2.2.2.block k hk;have:=N3.out;omega⟩;obtain⟨w5,hw5⟩:∃w5,((w3.alloc (Obj.map #[] 0)).alloc (Obj.cells #[.map (some b3)] 166))=w5:=⟨_,rfl⟩;have T6:=aj (T5.out w5 hw5.symm);rw[hw5] at M5 C5 S5 Z5 B5 J5 ⊢;clear hw5 T5 B4 X3 Z3 B3 O3 L3;have QN:=aj (WR.out.ql);go_loopw [10,11,31] (λv10 v11 j V=>∃q:Nat,q<=X.qs.length/\j=int i64 (q:Nat)/\∃Y es qs,Tr ks X q Y es qs/\∃u1 u2 u3 u4 u5 ev qv,ev=v10/\qv=v11/\nM Y es qs w.heap.size b1 b3 (b3+2) w5 u1 u2 u3 u4 u5 ev qv V/\Im V b3 q (λu=>((mW (X.qs.take q) u:Nat):Int))) (λ_ _ j _=>X.qs.length-(intOf j).toNat)
 case atStart=>exact⟨0,Nat.zero_le _,rfl,X,[],[],.zero,_,_,_,_,_,_,_,rfl,rfl,T6.out,M5.out⟩
 case round=>
  obtain⟨q,hq,rfl,Y,es,qs,htr,u1,u2,u3,u4,u5,ev,qv,rfl,rfl,hT,hM⟩:=hrel;have TR:=aj (htr);have KP:=aj (htr.keep WR.out);have QL:Hid (qs.length<=12/\es.length<=12):=by have:=KP.out;have:=QN.out;unfold Hid;omega
  have TQ:=aj (hT);have MQ:=aj (hM);clear htr hT hM;have CW:=aj (TQ.out.f.cell C5.out (λh=>by have:=N3.out;simp only at h;omega));have SW:Hid (b3+2<=wr.heap.size):=by have:=TQ.out.f.size;have:=S5.out;unfold Hid;omega
  have ZW:=aj (TQ.out.f.wx Z5.out (λh=>by have:=N3.out;omega));have BW:=aj (B5.out.trans (TQ.out.f.low (by have:=B5.out.size;exact this) (λk hk=>by have:=N3.out;rcases hk with h|h<;>omega)));have JW:=aj (dK.l (TQ.out.f.own J5.out.1 (λk hk h=>by have h1:=J5.out.2 k hk;have h2:=N3.out;rcases h with h|h<;>omega):dK wr b1 (slice a5 X.qs.length r5) X.qs));by_cases hne:q=X.qs.length
  case pos=>
   have TE:Hid (Tr ks X X.qs.length Y es qs):=by rw[<-hne];exact TR.out
   subst hne;obtain⟨g1,c1,rfl⟩:=TQ.out.o1.len;obtain⟨g2,c2,rfl⟩:=TQ.out.o2.len;obtain⟨g3,c3,rfl⟩:=TQ.out.o3.len;obtain⟨g4,c4,rfl⟩:=TQ.out.o4.len;obtain⟨g6,c6,rfl⟩:=TQ.out.o.len;have XS:=TQ.out.x.Gn (slice g6 qs.length c6);have t8:=TQ.out.x.thaw 8;obtain⟨x0,x1,x2,x3,x4,x5,x6,x7,x8⟩:=TQ.out.x.cells;have KS:Hid (Kp _ wr (wr.setCell ⟨w.heap.size,8,none⟩ (slice g6 qs.length c6))):=Kp.set _ _ _;go_upto_region 24 with fail
   clear x0 x1 x2 x3 x4 x5 x6 x7 x8 t8;generalize wr.setCell _ _=ws at *;obtain⟨x0,x1,x2,x3,x4,x5,x6,x7,x8⟩:=XS.cells;have ZS:=aj (ZW.out.kp KS.out (by omega));have BS2:=aj (KS.out.below BW.out BW.out.size (Nat.le_refl _));obtain⟨z0,z1,z2,z3,z4,z5,z6,z7,z8⟩:=ZS.out.cells;obtain⟨t0,t1,t2,t3,t4,t5,t6,t7,t8⟩:=ZS.out.bC;have KZ:=aj (bP ws (w.heap.size+1) (int i64 Y.turn) (int i64 Y.next) (int i64 Y.wide) (int i64 Y.high) (slice g1 Y.gs.length c1) (slice g2 Y.os.length c2) (slice g3 Y.gold.length c3) (slice g4 Y.us.length c4) (slice g6 qs.length c6));obtain⟨y0,y1,y2,y3,y4,y5,y6,y7,y8⟩:=(ZS.out.put (int i64 Y.turn) (int i64 Y.next) (int i64 Y.wide) (int i64 Y.high) (slice g1 Y.gs.length c1) (slice g2 Y.os.length c2) (slice g3 Y.gold.length c3) (slice g4 Y.us.length c4) (slice g6 qs.length c6)).cells;go_wp2;clear x0 x1 x2 x3 x4 x5 x6 x7 x8 z0 z1 z2 z3 z4 z5 z6 z7 z8 t0 t1 t2 t3 t4 t5 t6 t7 t8;generalize World.setCell _ ⟨_,8,none⟩ _=wt at *;have hn:=N3.out;have kp2:∀{T:TypeId} {size:Nat} {u:Value} {n:Nat} {cs:List Value} {base:Nat},b1<=base->wr.ownsRow base T size u n cs->wt.ownsRow base T size u n cs:=λhb h=>(Fr.kp KZ.out rfl).own ((Fr.kp KS.out rfl).own h (λk hk=>by have:=(World.ownsRow.lt h k hk).1;omega)) (λk hk=>by have:=(World.ownsRow.lt h k hk).1;omega)
   refine bodyPost_ret (v:=.tuple #[.agg #[int i64 Y.turn,int i64 Y.next,int i64 Y.wide,int i64 Y.high,slice g1 Y.gs.length c1,slice g2 Y.os.length c2,slice g3 Y.gold.length c3,slice g4 Y.us.length c4,slice g6 qs.length c6],ev,.nilIface]) (by simp[results,Tryz.results58,go_sem,y0,y1,y2,y3,y4,y5,y6,y7,y8]) rfl ⟨_,_,_,rfl,by rw[FW.out];exact Er.nil,.inr ⟨FW.out,Y,es,qs,TE.out,?_,?_⟩,KZ.out.below BS2.out BS2.out.size (by omega)⟩
   ·exact⟨_,_,_,_,_,rfl,Ow.mono (kp2 (Nat.le_refl _) TQ.out.o1) (by omega),Ow.mono (kp2 (Nat.le_refl _) TQ.out.o2) (by omega),Ow.mono (kp2 (Nat.le_refl _) TQ.out.o3) (by omega),dQ.mono (kp2 (Nat.le_refl _) TQ.out.o4) (by omega),dK.mono (kp2 (by omega) TQ.out.o) (by omega)⟩
   ·exact dY.mono (kp2 (by omega) TQ.out.e) (by omega)
  case neg=>
  have uz:q<X.qs.length:=by omega
  have hqi:((q:Nat):Int)<(X.qs.length:Nat):=by omega
  obtain⟨o,ho⟩:∃o,X.qs[q]? =some o:=⟨_,List.getElem?_eq_getElem uz⟩;have HO:=aj (ho);have JI:=aj (Ri WR.out (List.mem_of_getElem? ho));obtain⟨a',c',e',-,-,hy⟩:=JW.out;injection e' with e1 e2 e3
  subst e1 e3;obtain⟨xj,rfl,hxl,hy⟩:=hy (by rintro hn;rw[hn] at uz;simp at uz);obtain⟨j0,j1,j2,j3⟩:=hy q o ho;clear hy hxl ho e2;go_upto_region 12 with fail
  clear j0 j1 j2 j3;have BJ:Hid (Below _ wr (wr.alloc (Obj.cells #[int i64 o.aA,int i64 o.unit,int i64 o.kind,int i64 o.left] 93))):=(Below.refl _ _).alloc (Nat.le_refl _) _;obtain⟨bj,hbj⟩:∃b,wr.heap.size=b:=⟨_,rfl⟩;have JB6:=aj (jS.mk' (w:=wr) o hbj);have TH6:Hid (Jk (wr.alloc (Obj.cells #[int i64 o.aA,int i64 o.unit,int i64 o.kind,int i64 o.left] 93)) bj [o] []):=by
   unfold Hid Jk;rw[<-hbj];exact heap_alloc_new _ _
  have SJ:Hid (b3+2<=bj):=by rw[<-hbj];exact SW.out
  rw[hbj];have HBJ:=aj (hbj);have UN:Hid (∀x∈[u1,u2,u3,u4,u5,ev,qv],∀k,x.ownBlock=some k->k<bj):=by rw[<-hbj];exact TQ.out.under
  clear hbj;generalize wr.alloc _=w6 at *;have T7:=aj (TQ.out.below BJ.out);have M7:=aj (MQ.out.below BJ.out);have C7:Hid (w6.cell? ⟨b3+1,0,none⟩=some (.map (some b3))):=by unfold Hid;rw[BJ.out.cell (p:=⟨b3+1,0,none⟩) (cell_lt CW.out)];exact CW.out
  have CN:Hid (mW (X.qs.take q) o.unit<=q):=by
   unfold Hid mW;exact Nat.le_trans List.countP_le_length (by rw[List.length_take];omega)
  obtain⟨j0,j1,j2,j3⟩:=JB6.out;go_wp2_with fail
  refine(vW o _ b3 q _ w6 C7.out M7.out (by omega) (by have:=QN.out;omega) (by have:=CN.out;have:=QN.out;omega) (PO (by have:=JI.out;omega) (by have:=JI.out;omega))).mono ?_;rintro e w7 ⟨fb,hfb,rfl,hm,hf⟩;have FB:=aj (hfb);have F7:=aj (hf);have T8:=aj (T7.out.map hf);have M8:Hid (Im w7 b3 (q+1) (λu=>((mW (X.qs.take (q+1)) u:Nat):Int))):=by
   have e9:yQ (λu=>((mW (X.qs.take q) u:Nat):Int)) o.unit (((mW (X.qs.take q) o.unit:Nat):Int)+1)=(λu=>((mW (X.qs.take (q+1)) u:Nat):Int)):=by
    funext u
    unfold yQ;rw[Cm HO.out u];by_cases h:u=o.unit
    ·rw[if_pos h,h,if_pos rfl];rfl
    ·rw[if_neg h,if_neg (λe=>h e.symm)];rfl
   rw[e9] at hm;exact hm
  have K8:Hid (Jk w7 bj [o] []):=(F7.out.block bj TH6.out.lt (by have:=SJ.out;omega)).trans TH6.out;clear hfb hm hf j0 j1 j2 j3 T7 M7 C7 JB6;obtain⟨d,hd⟩:∃d,kN (X.qs.take q) o=d:=⟨_,rfl⟩;have HD:=aj (hd);clear hd;go_upto_if 37 with fail
  go_cut [37] (λv37 V=>v37=.bool fb/\Jk V bj [d] []/\nM Y es qs w.heap.size b1 b3 (b3+2) w5 u1 u2 u3 u4 u5 ev qv V/\Im V b3 (q+1) (λu=>((mW (X.qs.take (q+1)) u:Nat):Int)))
  case first=>
   cases fb with
   |false=>
    have ED:Hid (o=d):=by
     unfold Hid;rw[<-HD.out];unfold kN;rw[if_neg];intro h;have:=FB.out;rw[h] at this;simp at this
    go_wp2_with fail
    go_meet
    case rel=>exact⟨rfl,by rw[<-ED.out];exact K8.out,T8.out,M8.out⟩
   |true=>
    have ED:Hid ({o with left:=o.left-1}=d):=by
     unfold Hid;rw[<-HD.out];unfold kN;rw[if_pos];have:=FB.out;have h2:=eq_of_beq this.symm;omega
    obtain⟨j0,j1,j2,j3⟩:=K8.out.RZ (i:=0) (o:=o) rfl;simp only[Nat.zero_mul,Nat.zero_add] at j0 j1 j2 j3;have t3:=K8.out.thaw 3;have wl:IntKind.i64.wrap (o.left-1)=o.left-1:=by have:=JI.out;rw[IntKind.wrap_i64];omega
    have K9:Hid (Jk (w7.setCell ⟨bj,3,none⟩ (int i64 (o.left-1))) bj [d] []):=by
     have h:=K8.out.BI (i:=0) (o:=o) rfl (o.left-1);simp only[Nat.zero_mul,Nat.zero_add,List.set_cons_zero] at h;rw[ED.out] at h;exact h
    have B9:Hid (Kp bj w7 (w7.setCell ⟨bj,3,none⟩ (int i64 (o.left-1)))):=Kp.set _ _ _;go_wp2_with fail
    go_meet
    case rel=>exact⟨rfl,K9.out,T8.out.box B9.out SJ.out UN.out,M8.out.gb (ny B9.out) (by have:=SJ.out;simp;omega)⟩
  case rest=>
   obtain⟨rfl,hK,hT,hM⟩:=hcut;have K9:=aj (hK);have T9:=aj (hT);have M9:=aj (hM);clear hK hT hM K8 T8 M8 F7 TH6;generalize wc=w8 at *;have J9:Hid (jS w8 ⟨bj,0,none⟩ d):=by have h:=K9.out.RZ (i:=0) (o:=d) rfl;simp only[Nat.zero_mul] at h;exact h
   have B9:=aj (B5.out.trans (T9.out.f.low (by have:=B5.out.size;exact this) (λk hk=>by have:=N3.out;rcases hk with h|h<;>omega)));have S9:Hid (b3+2<=w8.heap.size):=by have:=T9.out.f.size;have:=S5.out;unfold Hid;omega
   by_cases hl0:d.left=0
   case neg=>
    have hlb:(d.left==0)=false:=by rw[beq_eq_false_iff_ne];exact hl0
    have HN:Hid (Tr ks X (q+1) Y es (qs++[d])):=by
     have h:=Tr.wait TR.out HO.out (by rw[HD.out];exact hl0);rw[HD.out] at h;exact h
    obtain⟨j0,j1,j2,j3⟩:=J9.out;have BA:Hid (Below _ w8 (w8.alloc (Obj.cells #[int i64 d.aA,int i64 d.unit,int i64 d.kind,int i64 d.left] 93))):=(Below.refl _ _).alloc (Nat.le_refl _) _;have TA:=aj (T9.out.below BA.out);have JA:=aj (jS.mk' (w:=w8) d rfl);have MA:=aj (M9.out.below BA.out);have SA:Hid (b3+2<=(w8.alloc (Obj.cells #[int i64 d.aA,int i64 d.unit,int i64 d.kind,int i64 d.left] 93)).heap.size):=by have h1:=TA.out.f.size;have h2:=TA.out.n;unfold Hid;omega
    go_wp2_with (at_builtin;refine Gi _ rfl _ _ rfl _ _ qs rfl TA.out.o w8.heap.size d rfl JA.out (by have:=QL.out;omega) SA.out ?_);intro g cap wE o8 g8 a8 l8;have TE:=aj (TA.out.left g8 o8 rfl (by simpa using a8));have ME:=aj (MA.out.gb g8 (λh=>by have:=(TA.out.o.block b3 h.symm).1;omega));clear o8 g8 a8 l8 j0 j1 j2 j3;have hq12:=QN.out;go_wp2;go_round
    case rel=>exact⟨q+1,by omega,by go_num,Y,es,_,HN.out,u1,u2,u3,u4,u5,_,_,rfl,rfl,TE.out,ME.out⟩
    case measure=>simp[intOf];omega
   case pos=>
    have DL:=aj (hl0);obtain⟨j0,j1,j2,j3⟩:=J9.out;rw[hl0] at j3;obtain⟨x0,x1,x2,x3,x4,x5,x6,x7,x8⟩:=T9.out.x.cells;clear hl0;go_wp2_with fail
    have CA:=JQ (slice pk ks.length qk) _ ks Y d w8 (K.out.1.below B9.out) K.out.2 T9.out.wl KP.out.1.zero (SD.out.below B9.out);unfold aO.val at CA;rw[DL.out] at CA;refine Calls.mono CA ?_;clear CA;rintro e w9 ⟨u,r,Z,rfl,hu,hb,hc⟩;have T10:=aj (T9.out.below hb);have M10:=aj (M9.out.below hb);have K10:=aj (K9.out.below hb K9.out.lt);have UQ:=aj (T9.out.under);have S10:=aj (hb.size);obtain⟨B,hB⟩:∃B,w8.heap.size=B:=⟨_,rfl⟩;rw[hB] at hu UQ S9 S10;clear hB;obtain⟨k1,k2,k3,k4,k5,rfl,o1,o2,o3,o4,o5⟩:=hu;obtain⟨n1,m1,rfl⟩:=o1.len;obtain⟨n2,m2,rfl⟩:=o2.len;obtain⟨n3,m3,rfl⟩:=o3.len;obtain⟨n4,m4,rfl⟩:=o4.len;obtain⟨n5,m5,rfl⟩:=o5.len;have OZ:=aj (fK o1 o2 o3 o4 o5);clear hb o1 o2 o3 o4 o5 j0 j1 j2 j3 x0 x1 x2 x3 x4 x5 x6 x7 x8 K9 T9 M9 J9;obtain⟨bn,hbn⟩:∃b,w9.heap.size=b:=⟨_,rfl⟩;have BN:Hid (Below _ w9 (w9.alloc (Obj.cells #[int i64 Z.turn,int i64 Z.next,int i64 Z.wide,int i64 Z.high,slice n1 Z.gs.length m1,slice n2 Z.os.length m2,slice n3 Z.gold.length m3,slice n4 Z.us.length m4,slice n5 Z.qs.length m5] 29))):=(Below.refl _ _).alloc (Nat.le_refl _) _;have XN:=aj (Wx.new (w:=w9) (int i64 Z.turn) (int i64 Z.next) (int i64 Z.wide) (int i64 Z.high) (slice n1 Z.gs.length m1) (slice n2 Z.os.length m2) (slice n3 Z.gold.length m3) (slice n4 Z.us.length m4) (slice n5 Z.qs.length m5) hbn);have NB:Hid (B<=bn):=by rw[<-hbn];exact S10.out
    rcases hc with⟨c,hc,rfl,hZ⟩|⟨hc,n,h0,rfl⟩
    case inr=>
     have NC:=aj (yS (l:=X.qs.take q) (by rw[HD.out];exact hc));clear hc h0;go_upto_region 20 with fail
     (try rw[hbn])
     clear hbn;generalize w9.alloc _=wa at *;have T11:=aj (T10.out.below BN.out);have M11:=aj (M10.out.below BN.out);have K11:=aj (K10.out.below BN.out K10.out.lt);obtain⟨f,hf⟩:∃f,one1 o=f:=⟨_,rfl⟩;have HF:Hid (one1 d=f):=by unfold Hid;rw[<-hf,<-HD.out];exact(kC _ _).2.2.2
     have HS:Hid (Tr ks X (q+1) Y es (qs++[f])):=by
      rw[<-hf];exact .stay TR.out HO.out (by rw[HD.out];exact DL.out) NC.out
     clear hf;obtain⟨j0,j1,j2,j3⟩:=K11.out.RZ (i:=0) (o:=d) rfl;simp only[Nat.zero_mul,Nat.zero_add] at j0 j1 j2 j3;have t3:=K11.out.thaw 3;have K12:Hid (Jk (wa.setCell ⟨bj,3,none⟩ (int i64 1)) bj [f] []):=by
      have h:=K11.out.BI (i:=0) (o:=d) rfl 1;simp only[Nat.zero_mul,Nat.zero_add,List.set_cons_zero] at h;have e9:({d with left:=1}:aO)=f:=HF.out;rw[e9] at h;exact h
     have B12:Hid (Kp bj wa (wa.setCell ⟨bj,3,none⟩ (int i64 1))):=Kp.set _ _ _;go_upto_region 21 with fail
     clear j0 j1 j2 j3 t3;generalize wa.setCell _ _=wb at *;have T12:=aj (T11.out.box B12.out SJ.out UN.out);have M12:=aj (M11.out.gb (ny B12.out) (by have:=SJ.out;simp;omega));have J12:Hid (jS wb ⟨bj,0,none⟩ f):=by have h:=K12.out.RZ (i:=0) (o:=f) rfl;simp only[Nat.zero_mul] at h;exact h
     obtain⟨j0,j1,j2,j3⟩:=J12.out;have BA:Hid (Below _ wb (wb.alloc (Obj.cells #[int i64 f.aA,int i64 f.unit,int i64 f.kind,int i64 f.left] 93))):=(Below.refl _ _).alloc (Nat.le_refl _) _;have TA:=aj (T12.out.below BA.out);have JA:=aj (jS.mk' (w:=wb) f rfl);have MA:=aj (M12.out.below BA.out);have SA:Hid (b3+2<=(wb.alloc (Obj.cells #[int i64 f.aA,int i64 f.unit,int i64 f.kind,int i64 f.left] 93)).heap.size):=by have h1:=TA.out.f.size;have h2:=TA.out.n;unfold Hid;omega
     go_wp2_with (at_builtin;refine Gi _ rfl _ _ rfl _ _ qs rfl TA.out.o wb.heap.size f rfl JA.out (by have:=QL.out;omega) SA.out ?_);intro g cap wE o8 g8 a8 l8;have TE:=aj (TA.out.left g8 o8 rfl (by simpa using a8));have ME:=aj (MA.out.gb g8 (λh=>by have:=(TA.out.o.block b3 h.symm).1;omega));clear o8 g8 a8 l8 j0 j1 j2 j3;have hq12:=QN.out;go_wp2;go_round
     case rel=>exact⟨q+1,by omega,by go_num,Y,es,_,HS.out,u1,u2,u3,u4,u5,_,_,rfl,rfl,TE.out,ME.out⟩
     case measure=>simp[intOf];omega
    case inl=>
     have ZE:Hid (Z=Wd.put ks Y o.aA o.kind c):=by
      unfold Hid;obtain⟨e1,e2,e3,-⟩:=kC (X.qs.take q) o;rw[hZ,<-HD.out,e1,e3]
     have CM:Hid (Tr ks X (q+1) Z (es++[⟨6,Y.next,c⟩]) qs):=by
      unfold Hid;rw[ZE.out];exact .come TR.out HO.out (by rw[HD.out];exact DL.out) (Ed (l:=X.qs.take q) (by rw[HD.out];exact hc))
     obtain⟨nu,hnu⟩:∃nu,Wd.jV ks Y o.aA o.kind c=nu:=⟨_,rfl⟩;have ZU:Hid (Z.us=Y.us++[nu]/\nu.id=Y.next/\nu.at_=c):=by
      unfold Hid;rw[ZE.out,<-hnu];exact⟨rfl,rfl,rfl⟩
     obtain⟨m,hm⟩:∃m,Y.us.length=m:=⟨_,rfl⟩;have ZL:Hid (Z.us.length=m+1):=by unfold Hid;rw[ZU.out.1,<-hm];simp
     have ml:m<=40:=by rw[<-hm];exact KP.out.1.ul
     have NU:Hid (Z.us[m]? =some nu):=by unfold Hid;rw[ZU.out.1,<-hm];simp
     clear hc hZ hnu hm;go_upto_region 17 with fail
     (try rw[hbn])
     clear hbn;have UA:=aj (OZ.out.2.2.2.1.below BN.out);generalize w9.alloc _=wa at *;obtain⟨x0,x1,x2,x3,x4,x5,x6,x7,x8⟩:=XN.out.cells;obtain⟨g',c',e',-,-,hy⟩:=UA.out.l;injection e' with e1 e2 e3
     subst e1 e3;obtain⟨xu,rfl,hxl,hy⟩:=hy (by have h9:=ZL.out;rintro hn;rw[hn] at h9;simp at h9);obtain⟨y0,y1,y2,y3,y4,y5,y6,y7⟩:=hy m nu NU.out;have mw:IntKind.i64.wrap (m:Int)=(m:Int):=by rw[IntKind.wrap_i64];omega
     have mz:IntKind.i64.wrap ((Z.us.length:Int)-1)=(m:Int):=by rw[IntKind.wrap_i64,ZL.out];omega
     have ml2:(m:Int)<(Z.us.length:Int):=by rw[ZL.out];omega
     have ml3:m<Z.us.length:=by rw[ZL.out];omega
     clear hy hxl e2;go_upto_region 18 with fail
     clear x0 x1 x2 x3 x4 x5 x6 x7 x8 y0 y1 y2 y3 y4 y5 y6 y7 mw mz ml2 ml3;have BU:Hid (Below _ wa (wa.alloc (Obj.cells #[int i64 nu.id,int i64 nu.aA,int i64 nu.kind,int i64 nu.at_,int i64 nu.life,int i64 nu.load,int i64 nu.task,int i64 nu.goal] 74))):=(Below.refl _ _).alloc (Nat.le_refl _) _;obtain⟨bu,hbu⟩:∃b,wa.heap.size=b:=⟨_,rfl⟩;have XU:=aj (dB.mk' (w:=wa) nu hbu)
     (try rw[hbu])
     clear hbu;generalize wa.alloc _=wb at *;have Rj:=aj (BN.out.trans (BU.out.mono BN.out.size));have T11:=aj (T10.out.below Rj.out);have M11:=aj (M10.out.below Rj.out);have XB:=aj (XN.out.below BU.out XN.out.lt);have OB:=aj (fK (OZ.out.1.below Rj.out) (OZ.out.2.1.below Rj.out) (OZ.out.2.2.1.below Rj.out) (OZ.out.2.2.2.1.below Rj.out) (OZ.out.2.2.2.2.below Rj.out));obtain⟨y0,y1,y2,y3,y4,y5,y6,y7⟩:=XU.out;have y0':wb.cell? ⟨bu,0,none⟩=some (int i64 Y.next):=by rw[<-ZU.out.2.1];exact y0
     have y3':wb.cell? ⟨bu,3,none⟩=some (int i64 c):=by rw[<-ZU.out.2.2];exact y3
     clear y0 y1 y2 y3 y4 y5 y6 y7;have BE:Hid (Below _ wb (wb.alloc (Obj.cells #[int i64 6,int i64 Y.next,int i64 c] 169))):=(Below.refl _ _).alloc (Nat.le_refl _) _;have TE:=aj (T11.out.below BE.out);have RC:Hid (oK (wb.alloc (Obj.cells #[int i64 6,int i64 Y.next,int i64 c] 169)) _ _):=oK.mk' ⟨6,Y.next,c⟩ rfl;have SB:Hid (b3+2<=(wb.alloc (Obj.cells #[int i64 6,int i64 Y.next,int i64 c] 169)).heap.size):=by have h1:=TE.out.f.size;have h2:=TE.out.n;unfold Hid;omega
     have ME:=aj (M11.out.below BE.out);have XE:=aj (XB.out.below BE.out XB.out.lt);have OE:=aj (fK (OB.out.1.below BE.out) (OB.out.2.1.below BE.out) (OB.out.2.2.1.below BE.out) (OB.out.2.2.2.1.below BE.out) (OB.out.2.2.2.2.below BE.out));obtain⟨ea,ec,rfl⟩:=TE.out.e.len;go_upto_region 19 with(at_builtin;refine sV _ rfl _ _ rfl _ _ es rfl TE.out.e wb.heap.size ⟨6,Y.next,c⟩ rfl RC.out (by have:=QL.out;omega) SB.out ?_)
     intro g cap wE o8 g8 a8 l8;have Rk:Hid (∀k,(slice ea _ ec:Value).ownBlock=some k->b3+2<=k/\k<B):=λk hk=>⟨(TE.out.e.block k hk).1,UQ.out _ (by simp) k hk⟩
     have TF:=aj (TE.out.told g8 o8);have MF:=aj (ME.out.gb g8 (λh=>by have:=(Rk.out b3 h.symm).1;omega));have XF:=aj ((Fr.gb (S:=λk=>(slice ea es.length ec:Value).ownBlock=some k) g8 (λk hk=>hk)).wx XE.out (λh=>by have:=Rk.out bn h;have:=NB.out;omega));have OF:Hid (Ow wE B (slice n1 Z.gs.length m1) Z.gs/\Ow wE B (slice n2 Z.os.length m2) Z.os/\Ow wE B (slice n3 Z.gold.length m3) Z.gold/\dQ wE B (slice (some xu) Z.us.length m4) Z.us/\dK wE B (slice n5 Z.qs.length m5) Z.qs):=⟨bK OE.out.1 g8 (λk h1 h2=>by have:=(OE.out.1.block k h1).1;have:=Rk.out k h2;omega),bK OE.out.2.1 g8 (λk h1 h2=>by have:=(OE.out.2.1.block k h1).1;have:=Rk.out k h2;omega),bK OE.out.2.2.1 g8 (λk h1 h2=>by have:=(OE.out.2.2.1.block k h1).1;have:=Rk.out k h2;omega),bK OE.out.2.2.2.1 g8 (λk h1 h2=>by have:=(OE.out.2.2.2.1.block k h1).1;have:=Rk.out k h2;omega),bK OE.out.2.2.2.2 g8 (λk h1 h2=>by have:=(OE.out.2.2.2.2.block k h1).1;have:=Rk.out k h2;omega)⟩;clear o8 g8 a8 l8 y0' y3';obtain⟨x0,x1,x2,x3,x4,x5,x6,x7,x8⟩:=XF.out.cells;obtain⟨z0,z1,z2,z3,z4,z5,z6,z7,z8⟩:=TF.out.x.cells;obtain⟨t0,t1,t2,t3,t4,t5,t6,t7,t8⟩:=TF.out.x.bC;have KZ:=aj (bP wE w.heap.size (int i64 Z.turn) (int i64 Z.next) (int i64 Z.wide) (int i64 Z.high) (slice n1 Z.gs.length m1) (slice n2 Z.os.length m2) (slice n3 Z.gold.length m3) (slice (some xu) Z.us.length m4) (slice n5 Z.qs.length m5));have XZ:=aj (TF.out.x.put (int i64 Z.turn) (int i64 Z.next) (int i64 Z.wide) (int i64 Z.high) (slice n1 Z.gs.length m1) (slice n2 Z.os.length m2) (slice n3 Z.gold.length m3) (slice (some xu) Z.us.length m4) (slice n5 Z.qs.length m5));go_upto_region 22 with fail
     clear x0 x1 x2 x3 x4 x5 x6 x7 x8 z0 z1 z2 z3 z4 z5 z6 z7 z8 t0 t1 t2 t3 t4 t5 t6 t7 t8;generalize World.setCell _ ⟨_,8,none⟩ _=wF at *;have TG:=aj (TF.out.puts S9.out (UQ.out qv (by simp)) KZ.out XZ.out OF.out.1 OF.out.2.1 OF.out.2.2.1 OF.out.2.2.2.1 OF.out.2.2.2.2);have MG:=aj (MF.out.gb (ny KZ.out) (by have:=N3.out;simp;omega));have hq12:=QN.out;go_wp2;go_round
     case rel=>exact⟨q+1,by omega,by go_num,Z,_,_,CM.out,_,_,_,_,_,_,_,rfl,rfl,TG.out,MG.out⟩
     case measure=>simp[intOf];omega
open Go.Proofs.YtolfphmdmpehdaaGreatDoor.So
theorem yT{ks:List KV}{X:WV}{l:List aK}(h:Wd.aF ks X≠0):bg ks X l=Wd.aF ks X:=if_pos h
theorem JR{ks:List KV}{X:WV}{l:List aK}(h:Wd.aF ks X=0)(ht:1000000<=X.turn):bg ks X l=4:=by unfold bg;rw[if_neg (λk=>k h),if_pos ht]
theorem yU{ks:List KV}{X:WV}{l:List aK}(h:Wd.aF ks X=0)(ht:¬1000000<=X.turn):bg ks X l=Od.faults l:=by unfold bg;rw[if_neg (λk=>k h),if_neg ht]
def JU(ks:List KV)(X:WV)(l:List aK)(w w':World)(v ev:Value):Prop:=
 (bg ks X l≠0/\v=.agg #[int i64 0,int i64 0,int i64 0,int i64 0,slice none 0 0,slice none 0 0,slice none 0 0,slice none 0 0,slice none 0 0]/\ev=slice none 0 0)
 \/(bg ks X l=0/\∃Y es,kG ks X l Y es/\Wo w' w.heap.size v Y/\dY w' w.heap.size ev es)
theorem JV(vk vw vl:Value)(ks:List KV)(X:WV)(l:List aK)(w:World)(hk:Kl w vk ks)(hb:∀k∈ks,k.b.size<=9223372036854775807)(hw:Wl w vw X)(hl:zU w vl l)(hs:Sd w):
  Calls Tryz.prog 27 #[vk,vw,vl] w λe w'=>∃v ev r,e=.returned (.tuple #[v,ev,r])/\Er r (bg ks X l)/\JU ks X l w w' v ev/\Below w.heap.size w w':=by
 have K:=aj (eU (hk) (hb));have H:=aj (hw);have SD:=aj (eU (hs) (hl));clear hs hl;obtain⟨p1,q1,p2,q2,p3,q3,p4,q4,p5,q5,rfl⟩:=aV hw;obtain⟨pk,qk,rfl,ck1,ck2,kc⟩:=hk;clear hb hw kc;go_enter Tryz.func27,Tryz.ntmps27;go_upto_region 1 with fail
 obtain⟨B0,X0,Z0⟩:=n_ w (int i64 X.turn) (int i64 X.next) (int i64 X.wide) (int i64 X.high) (slice p1 X.gs.length q1) (slice p2 X.os.length q2) (slice p3 X.gold.length q3) (slice p4 X.us.length q4) (slice p5 X.qs.length q5);generalize ((w.alloc _).alloc _)=w0 at *;obtain⟨x0,x1,x2,x3,x4,x5,x6,x7,x8⟩:=X0.out.cells;go_wp2_with fail
 refine(dI _ _ ks X w0 (K.out.1.below B0.out) K.out.2 (H.out.below B0.out)).mono ?_;rintro e w1 ⟨r,rfl,hr,hb⟩;obtain⟨fw,hfw⟩:∃f,Wd.aF ks X=f:=⟨_,rfl⟩;have FW:=aj (hfw);rw[hfw] at hr;have B1:=aj (B0.out.trans (hb.mono B0.out.size));have X1:=aj (X0.out.below hb X0.out.lt);have Z1:=aj (Z0.out.below hb Z0.out.lt);clear hb hfw x0 x1 x2 x3 x4 x5 x6 x7 x8 X0 B0 Z0;rcases hr with⟨rfl,rfl⟩|⟨hf,rfl⟩
 case inr=>
  have HF:=aj (hf);clear hf;obtain⟨z0,z1,z2,z3,z4,z5,z6,z7,z8⟩:=Z1.out.cells;obtain⟨t0,t1,t2,t3,t4,t5,t6,t7,t8⟩:=Z1.out.bC;have KZ:=aj (dF w1 (w.heap.size+1));obtain⟨y0,y1,y2,y3,y4,y5,y6,y7,y8⟩:=(Z1.out.jJ).cells;go_wp2;clear z0 z1 z2 z3 z4 z5 z6 z7 z8 t0 t1 t2 t3 t4 t5 t6 t7 t8;generalize World.setCell _ _ _=w9 at *;refine bodyPost_ret (v:=.tuple #[.agg _,slice none 0 0,.iface 85 (int i64 fw)]) (by simp[results,Tryz.results27,go_sem,y0,y1,y2,y3,y4,y5,y6,y7,y8]) rfl ⟨_,_,_,rfl,by rw[yT (l:=l) (by rw[FW.out];exact HF.out),FW.out];exact Er.no HF.out,.inl ⟨by rw[yT (l:=l) (by rw[FW.out];exact HF.out),FW.out];exact HF.out,rfl,rfl⟩,KZ.out.below B1.out B1.out.size (by omega)⟩
 have WR:=aj (aY FW.out);obtain⟨x0,x1,x2,x3,x4,x5,x6,x7,x8⟩:=X1.out.cells;by_cases htn:1000000<=X.turn
 case pos=>
  have SF:Hid (bg ks X l=4):=JR FW.out htn;have Zz:=decide_eq_true htn;clear htn;obtain⟨z0,z1,z2,z3,z4,z5,z6,z7,z8⟩:=Z1.out.cells;obtain⟨t0,t1,t2,t3,t4,t5,t6,t7,t8⟩:=Z1.out.bC;have KZ:=aj (dF w1 (w.heap.size+1));obtain⟨y0,y1,y2,y3,y4,y5,y6,y7,y8⟩:=(Z1.out.jJ).cells;go_wp2;clear z0 z1 z2 z3 z4 z5 z6 z7 z8 t0 t1 t2 t3 t4 t5 t6 t7 t8;generalize World.setCell _ _ _=wz at *;refine bodyPost_ret (v:=.tuple #[.agg _,slice none 0 0,.iface 85 (int i64 4)]) (by simp[results,Tryz.results27,go_sem,y0,y1,y2,y3,y4,y5,y6,y7,y8]) rfl ⟨_,_,_,rfl,by rw[SF.out];exact Er.no (by decide),.inl ⟨by rw[SF.out];decide,rfl,rfl⟩,KZ.out.below B1.out B1.out.size (by omega)⟩
 have SF:Hid (bg ks X l=Od.faults l):=yU FW.out htn;have TN:=aj (htn);go_wp2_with fail
 refine(JM _ _ _ ks X l w1 (K.out.1.below B1.out) (H.out.below B1.out) (SD.out.2.below B1.out) WR.out).mono ?_;rintro e w2 ⟨v,ur,r,rfl,hr,hg,hb⟩;have B2:=aj (B1.out.trans (hb.mono B1.out.size));have X2:=aj (X1.out.below hb X1.out.lt);have Z2:=aj (Z1.out.below hb Z1.out.lt);have S1:Hid (w.heap.size+2<=w1.heap.size):=Z1.out.lt;clear hb x0 x1 x2 x3 x4 x5 x6 x7 x8 X1 B1 Z1 htn;obtain⟨fo,hfo⟩:∃f,Od.faults l=f:=⟨_,rfl⟩;have FO:=aj (hfo);rw[hfo] at hr;clear hfo;rcases hr with⟨rfl,rfl⟩|⟨hf,rfl⟩
 case inr=>
  have HF:=aj (hf);rcases hg with⟨-,rfl,rfl⟩|⟨h,-⟩
  case inr=>rw[FO.out] at h;exact absurd h hf
  clear hf;obtain⟨c0,c1,c2,c3,c4,c5,c6,c7,c8⟩:=X2.out.cells;obtain⟨d0,d1,d2,d3,d4,d5,d6,d7,d8⟩:=X2.out.bC;have KB:=aj (dF w2 w.heap.size);go_upto_region 8 with fail
  clear c0 c1 c2 c3 c4 c5 c6 c7 c8 d0 d1 d2 d3 d4 d5 d6 d7 d8;generalize World.setCell _ _ _=w3 at *;have B3:=aj (KB.out.below B2.out B2.out.size (Nat.le_refl _));have Z3:=aj (Z2.out.kp KB.out (by omega));obtain⟨z0,z1,z2,z3,z4,z5,z6,z7,z8⟩:=Z3.out.cells;obtain⟨t0,t1,t2,t3,t4,t5,t6,t7,t8⟩:=Z3.out.bC;have KZ:=aj (dF w3 (w.heap.size+1));obtain⟨y0,y1,y2,y3,y4,y5,y6,y7,y8⟩:=(Z3.out.jJ).cells;go_wp2;clear z0 z1 z2 z3 z4 z5 z6 z7 z8 t0 t1 t2 t3 t4 t5 t6 t7 t8;generalize World.setCell _ _ _=wz at *;refine bodyPost_ret (v:=.tuple #[.agg _,slice none 0 0,.iface 85 (int i64 fo)]) (by simp[results,Tryz.results27,go_sem,y0,y1,y2,y3,y4,y5,y6,y7,y8]) rfl ⟨_,_,_,rfl,by rw[SF.out,FO.out];exact Er.no HF.out,.inl ⟨by rw[SF.out,FO.out];exact HF.out,rfl,rfl⟩,KZ.out.below B3.out B3.out.size (by omega)⟩
 rcases hg with⟨h,-⟩|⟨-,out,hls,ho,-⟩
 case inl=>exact absurd FO.out h
 have LS:=aj (hls);obtain⟨A,hA⟩:∃A,(gv ks X out out.length).1=A:=⟨_,rfl⟩;have HA:=aj (hA);have AR:Hid (aQ ks A):=by
  unfold Hid;rw[<-hA];exact oz WR.out (λo h=>(Od.gW FO.out).2 o (hls.mem h)) _
 rw[hA] at ho;clear hA hls;obtain⟨k1,k2,k3,k4,k5,rfl,o1,o2,o3,o4,o5⟩:=ho;obtain⟨a1,r1,rfl⟩:=o1.len;obtain⟨a2,r2,rfl⟩:=o2.len;obtain⟨a3,r3,rfl⟩:=o3.len;obtain⟨a4,r4,rfl⟩:=o4.len;obtain⟨a5,r5,rfl⟩:=o5.len;have OA:=aj (fK (o1.mono S1.out) (o2.mono S1.out) (o3.mono S1.out) (o4.mono S1.out) (o5.mono S1.out));clear o1 o2 o3 o4 o5;obtain⟨c0,c1,c2,c3,c4,c5,c6,c7,c8⟩:=X2.out.cells;obtain⟨d0,d1,d2,d3,d4,d5,d6,d7,d8⟩:=X2.out.bC;have KB:=aj (bP w2 w.heap.size (int i64 A.turn) (int i64 A.next) (int i64 A.wide) (int i64 A.high) (slice a1 A.gs.length r1) (slice a2 A.os.length r2) (slice a3 A.gold.length r3) (slice a4 A.us.length r4) (slice a5 A.qs.length r5));have XB:=aj (X2.out.put (int i64 A.turn) (int i64 A.next) (int i64 A.wide) (int i64 A.high) (slice a1 A.gs.length r1) (slice a2 A.os.length r2) (slice a3 A.gold.length r3) (slice a4 A.us.length r4) (slice a5 A.qs.length r5));go_upto_region 9 with fail
 clear c0 c1 c2 c3 c4 c5 c6 c7 c8 d0 d1 d2 d3 d4 d5 d6 d7 d8;generalize World.setCell _ _ _=w3 at *;have B3:=aj (KB.out.below B2.out B2.out.size (Nat.le_refl _));have Z3:=aj (Z2.out.kp KB.out (by omega));have O3:=aj (fK (OA.out.1.kp KB.out (by omega)) (OA.out.2.1.kp KB.out (by omega)) (OA.out.2.2.1.kp KB.out (by omega)) (OA.out.2.2.2.1.kp KB.out (by omega)) (OA.out.2.2.2.2.kp KB.out (by omega)));clear KB X2 B2 Z2 OA;obtain⟨bq,hbq⟩:∃b,w3.heap.size=b:=⟨_,rfl⟩;have BF:Hid (Below _ w3 (w3.alloc (Obj.cells #[.func (Fn.func 58) #[] #[],.func (Fn.func 59) #[] #[],.func (Fn.func 60) #[] #[],.func (Fn.func 61) #[] #[]] 111))):=(Below.refl _ _).alloc (Nat.le_refl _) _;have SZ:Hid ((w3.alloc (Obj.cells #[.func (Fn.func 58) #[] #[],.func (Fn.func 59) #[] #[],.func (Fn.func 60) #[] #[],.func (Fn.func 61) #[] #[]] 111)).heap.size=bq+1):=by unfold Hid;rw[<-hbq];simp
 have CF0:Hid ((w3.alloc (Obj.cells #[.func (Fn.func 58) #[] #[],.func (Fn.func 59) #[] #[],.func (Fn.func 60) #[] #[],.func (Fn.func 61) #[] #[]] 111)).cell? ⟨bq,0,none⟩=some (.func (Fn.func 58) #[] #[])/\(w3.alloc (Obj.cells #[.func (Fn.func 58) #[] #[],.func (Fn.func 59) #[] #[],.func (Fn.func 60) #[] #[],.func (Fn.func 61) #[] #[]] 111)).cell? ⟨bq,1,none⟩=some (.func (Fn.func 59) #[] #[])/\(w3.alloc (Obj.cells #[.func (Fn.func 58) #[] #[],.func (Fn.func 59) #[] #[],.func (Fn.func 60) #[] #[],.func (Fn.func 61) #[] #[]] 111)).cell? ⟨bq,2,none⟩=some (.func (Fn.func 60) #[] #[])/\(w3.alloc (Obj.cells #[.func (Fn.func 58) #[] #[],.func (Fn.func 59) #[] #[],.func (Fn.func 60) #[] #[],.func (Fn.func 61) #[] #[]] 111)).cell? ⟨bq,3,none⟩=some (.func (Fn.func 61) #[] #[])):=by
  unfold Hid;rw[<-hbq];simp
 go_wp2_with fail
 (try rw[hbq])
 obtain⟨w5,hw5⟩:∃w5,(w3.alloc (Obj.cells #[.func (Fn.func 58) #[] #[],.func (Fn.func 59) #[] #[],.func (Fn.func 60) #[] #[],.func (Fn.func 61) #[] #[]] 111))=w5:=⟨_,rfl⟩;rw[hw5] at BF SZ CF0 ⊢;clear hw5;have NQ:Hid (w.heap.size+2<=bq):=by have h1:=O3.out;have h2:=Z3.out.lt;unfold Hid;omega
 clear hbq;obtain⟨Wn,Hn,ew,eh,G⟩:=WR.out.good;have WH:Hid (X.wide=(Wn:Nat)/\X.high=(Hn:Nat)/\A.wide=(Wn:Nat)/\A.high=(Hn:Nat)/\A.turn=X.turn):=by
  obtain⟨g1,g2,g3⟩:=tY (ks:=ks) (Y:=X) (out:=out) out.length;rw[HA.out] at g1 g2 g3;exact⟨ew,eh,by rw[g2,ew],by rw[g3,eh],g1⟩
 clear ew eh G;have T5:Hid (DX A [] w.heap.size (w.heap.size+2) (bq+1) w5 (slice a1 A.gs.length r1) (slice a2 A.os.length r2) (slice a3 A.gold.length r3) (slice a4 A.us.length r4) (slice a5 A.qs.length r5) (slice none 0 0) w5):=
  ⟨XB.out.below BF.out XB.out.lt,O3.out.1.below BF.out,O3.out.2.1.below BF.out,O3.out.2.2.1.below BF.out,O3.out.2.2.2.1.below BF.out,O3.out.2.2.2.2.below BF.out,dY.nil _ _,Fr.below (Below.refl _ _),⟨by omega,by have:=NQ.out;omega,SZ.out⟩⟩
 have Z5:=aj (Z3.out.below BF.out Z3.out.lt);have B5:=aj (B3.out.trans (BF.out.mono B3.out.size));clear BF XB O3 Z3 B3;go_loopw [12,44] (λv12 j V=>∃n:Nat,n<=4/\j=int i64 (n:Nat)/\∃Y es,Ph ks Wn Hn A n Y es/\∃u1 u2 u3 u4 u5 ev,ev=v12/\DX Y es w.heap.size (w.heap.size+2) (bq+1) w5 u1 u2 u3 u4 u5 ev V) (λ_ j _=>4-(intOf j).toNat)
 case atStart=>exact⟨0,by omega,rfl,A,[],.zero,_,_,_,_,_,_,rfl,T5.out⟩
 case round=>
 obtain⟨n,hn,rfl,Y,es,hp,u1,u2,u3,u4,u5,ev,rfl,hT⟩:=hrel;have PH:=aj (hp);have KP:=aj (hp.keep AR.out WH.out.2.2.1 WH.out.2.2.2.1);have TQ:=aj (hT);clear hp hT;have CQ:Hid (∀i u,i<4->w5.cell? _=some u->wr.cell? ⟨bq,i,none⟩=some u):=λi u _ h=>TQ.out.f.cell h (λe=>by have:=NQ.out;simp only at e;omega)
 have ZW:=aj (TQ.out.f.wx Z5.out (by omega));have BW:=aj (B5.out.trans (TQ.out.f.low B5.out.size (λk hk=>by omega)));have SW:Hid (bq+1<=wr.heap.size):=by have:=TQ.out.f.size;have:=SZ.out;unfold Hid;omega
 obtain⟨g1,l1,rfl⟩:=TQ.out.o1.len;obtain⟨g2,l2,rfl⟩:=TQ.out.o2.len;obtain⟨g3,l3,rfl⟩:=TQ.out.o3.len;obtain⟨g4,l4,rfl⟩:=TQ.out.o4.len;obtain⟨g5,l5,rfl⟩:=TQ.out.o5.len;by_cases hne:n=4
 case pos=>
  subst hne;obtain⟨x0,x1,x2,x3,x4,x5,x6,x7,x8⟩:=TQ.out.x.cells;have t0:=TQ.out.x.thaw 0;have tb:X.turn<1000000:=by have:=TN.out;omega
  have tb0:0<=X.turn:=by have h9:=WR.out.nums;unfold Wd.aU Wd.off at h9;simp at h9;omega
  have wt:IntKind.i64.wrap (Y.turn+1)=Y.turn+1:=by have h1:=KP.out.2.2.2.1;have h2:=WH.out.2.2.2.2;rw[IntKind.wrap_i64];omega
  have XS:Hid (Wx _ _ (int i64 (Y.turn+1)) _ _ _ _ _ _ _ _):=TQ.out.x.set0 _;have KS:Hid (Kp _ wr (wr.setCell ⟨w.heap.size,0,none⟩ (int i64 (Y.turn+1)))):=Kp.set _ _ _;go_upto_region 20 with fail
  clear x0 x1 x2 x3 x4 x5 x6 x7 x8 t0 wt tb tb0;generalize (wr.setCell _ _)=ws at *;obtain⟨x0,x1,x2,x3,x4,x5,x6,x7,x8⟩:=XS.out.cells;have ZS:=aj (ZW.out.kp KS.out (by omega));have BS2:=aj (KS.out.below BW.out BW.out.size (Nat.le_refl _));obtain⟨z0,z1,z2,z3,z4,z5,z6,z7,z8⟩:=ZS.out.cells;obtain⟨t0,t1,t2,t3,t4,t5,t6,t7,t8⟩:=ZS.out.bC;have KZ:=aj (bP ws (w.heap.size+1) (int i64 (Y.turn+1)) (int i64 Y.next) (int i64 Y.wide) (int i64 Y.high) (slice g1 Y.gs.length l1) (slice g2 Y.os.length l2) (slice g3 Y.gold.length l3) (slice g4 Y.us.length l4) (slice g5 Y.qs.length l5));obtain⟨y0,y1,y2,y3,y4,y5,y6,y7,y8⟩:=(ZS.out.put (int i64 (Y.turn+1)) (int i64 Y.next) (int i64 Y.wide) (int i64 Y.high) (slice g1 Y.gs.length l1) (slice g2 Y.os.length l2) (slice g3 Y.gold.length l3) (slice g4 Y.us.length l4) (slice g5 Y.qs.length l5)).cells;go_wp2;clear x0 x1 x2 x3 x4 x5 x6 x7 x8 z0 z1 z2 z3 z4 z5 z6 z7 z8 t0 t1 t2 t3 t4 t5 t6 t7 t8;generalize World.setCell _ _ _=wt at *;have kp2:∀{T:TypeId} {size:Nat} {u:Value} {n:Nat} {cs:List Value} {base:Nat},w.heap.size+2<=base->wr.ownsRow base T size u n cs->wt.ownsRow base T size u n cs:=λhb h=>(Fr.kp KZ.out rfl).own ((Fr.kp KS.out rfl).own h (λk hk=>by have:=(World.ownsRow.lt h k hk).1;omega)) (λk hk=>by have:=(World.ownsRow.lt h k hk).1;omega)
  have hq:=NQ.out;refine bodyPost_ret (v:=.tuple #[.agg #[int i64 (Y.turn+1),int i64 Y.next,int i64 Y.wide,int i64 Y.high,slice g1 Y.gs.length l1,slice g2 Y.os.length l2,slice g3 Y.gold.length l3,slice g4 Y.us.length l4,slice g5 Y.qs.length l5],ev,.nilIface]) (by simp[results,Tryz.results27,go_sem,y0,y1,y2,y3,y4,y5,y6,y7,y8]) rfl ⟨_,_,_,rfl,by rw[SF.out,FO.out];exact Er.nil,.inr ⟨by rw[SF.out,FO.out],{Y with turn:=Y.turn+1},es,⟨out,Wn,Hn,Y,LS.out,WH.out.1,WH.out.2.1,by rw[HA.out];exact PH.out,rfl⟩,?_,?_⟩,KZ.out.below BS2.out BS2.out.size (by omega)⟩
  ·exact⟨_,_,_,_,_,rfl,Ow.mono (kp2 (Nat.le_refl _) TQ.out.o1) (by omega),Ow.mono (kp2 (Nat.le_refl _) TQ.out.o2) (by omega),Ow.mono (kp2 (Nat.le_refl _) TQ.out.o3) (by omega),dQ.mono (kp2 (Nat.le_refl _) TQ.out.o4) (by omega),dK.mono (kp2 (Nat.le_refl _) TQ.out.o5) (by omega)⟩
  ·exact dY.mono (kp2 (by omega) TQ.out.e) (by omega)
 case neg=>
 have hlt:n<4:=by omega
 have ne:∀{r:Value},Er r 0->r=.nilIface:=λh=>by
  rcases h with⟨-,e⟩|⟨h,-⟩
  ·exact e
  ·exact absurd rfl h
 have cs:=K.out.1.below BW.out;have ds:=SD.out.1.below BW.out;obtain⟨F,cf,eF,hcall⟩:∃F:FuncId,wr.cell? ⟨bq,n,none⟩=some (.func (Fn.func F) #[] #[])/\(∀args w,(callFunc F args).run Tryz.prog w=.ok (.enter F args) w)/\Calls Tryz.prog F #[slice pk ks.length qk,.agg #[int i64 Y.turn,int i64 Y.next,int i64 Y.wide,int i64 Y.high,slice g1 Y.gs.length l1,slice g2 Y.os.length l2,slice g3 Y.gold.length l3,slice g4 Y.us.length l4,slice g5 Y.qs.length l5]] wr λe w7=>∃v ev2,e=.returned (.tuple #[v,ev2,.nilIface])/\(∃Z fs,Ph ks Wn Hn A (n+1) Z (es++fs)/\Wo w7 wr.heap.size v Z/\dY w7 wr.heap.size ev2 fs)/\Below wr.heap.size wr w7:=by
  have k1:=KP.out.2.1;have k2:=KP.out.2.2.1;have hn4:n=0\/n=1\/n=2\/n=3:=by omega
  clear hne hn hlt;rcases hn4 with rfl|rfl|rfl|rfl
  ·refine⟨_,CQ.out 0 _ (by decide) CF0.out.1,λ_ _=>rfl,(Ef _ _ ks Y wr cs K.out.2 TQ.out.wl ds).mono ?_⟩
   rintro e w7 ⟨v,ev2,r,rfl,hr,hd,hb⟩;rw[KP.out.1.zero] at hr;rw[ne hr];rcases hd with⟨h,-⟩|⟨-,T,e1,q1,ht,h1,h2⟩
   ·exact absurd KP.out.1.zero h
   ·have h0:=PH.out
    cases h0;exact⟨v,ev2,rfl,⟨_,e1,.one ht,h1,h2⟩,hb⟩
  ·refine⟨_,CQ.out 1 _ (by decide) CF0.out.2.1,λ_ _=>rfl,(IZ _ _ ks Y wr cs K.out.2 TQ.out.wl ds).mono ?_⟩
   rintro e w7 ⟨v,ev2,r,rfl,hr,hd,hb⟩;rw[KP.out.1.zero] at hr;rw[ne hr];rcases hd with⟨h,-⟩|⟨-,W',H',e1,e2,-,us,evs,hm,-,h1,h2⟩
   ·exact absurd KP.out.1.zero h
   ·obtain rfl:W'=Wn:=by omega
    obtain rfl:H'=Hn:=by omega
    exact⟨v,ev2,rfl,⟨_,evs,.two PH.out hm,h1,h2⟩,hb⟩
  ·refine⟨_,CQ.out 2 _ (by decide) CF0.out.2.2.1,λ_ _=>rfl,(Na _ _ ks Y wr cs K.out.2 TQ.out.wl ds).mono ?_⟩
   rintro e w7 ⟨v,ev2,r,rfl,hr,hd,hb⟩;rw[KP.out.1.zero] at hr;rw[ne hr];rcases hd with⟨h,-⟩|⟨-,W',H',e1,e2,-,h1,h2⟩
   ·exact absurd KP.out.1.zero h
   ·obtain rfl:W'=Wn:=by omega
    obtain rfl:H'=Hn:=by omega
    exact⟨v,ev2,rfl,⟨_,_,.three PH.out,h1,h2⟩,hb⟩
  ·refine⟨_,CQ.out 3 _ (by decide) CF0.out.2.2.2,λ_ _=>rfl,(DI _ _ ks Y wr cs K.out.2 TQ.out.wl).mono ?_⟩
   rintro e w7 ⟨v,ev2,r,rfl,hr,hd,hb⟩;rw[KP.out.1.zero] at hr;rw[ne hr];rcases hd with⟨h,-⟩|⟨-,W',e1,-,-,h1,h2⟩
   ·exact absurd KP.out.1.zero h
   ·obtain rfl:W'=Wn:=by omega
    exact⟨v,ev2,rfl,⟨_,_,.four PH.out,h1,h2⟩,hb⟩
 clear hne hn ne cs ds;have XW:(n:Int)<4:=by omega
 obtain⟨x0,x1,x2,x3,x4,x5,x6,x7,x8⟩:=TQ.out.x.cells;go_wp2_with fail
 clear cf x0 x1 x2 x3 x4 x5 x6 x7 x8;refine hcall.mono ?_;clear hcall;rintro e w7 ⟨v,ev2,rfl,hnx,hb⟩;have NX:=aj (hnx);have T7:=aj (TQ.out.below hb);have S7:=aj (hb.size);clear hb hnx;obtain⟨Z,fs,Xp,ho,hev⟩:=NX.out;have PN:=aj (Xp);have LN:Hid (es.length+fs.length<=1000000):=by have h9:=(Xp.keep AR.out WH.out.2.2.1 WH.out.2.2.2.1).2.2.2.2;rw[List.length_append] at h9;unfold Hid;omega
 obtain⟨v1,v2,v3,v4,v5,rfl,o1,o2,o3,o4,o5⟩:=ho;obtain⟨m1,k1,rfl⟩:=o1.len;obtain⟨m2,k2,rfl⟩:=o2.len;obtain⟨m3,k3,rfl⟩:=o3.len;obtain⟨m4,k4,rfl⟩:=o4.len;obtain⟨m5,k5,rfl⟩:=o5.len;have sb:w.heap.size+2<=wr.heap.size:=by have:=SW.out;have:=NQ.out;omega
 have OZ:=aj (uG (o1.mono sb) (o2.mono sb) (o3.mono sb) (o4.mono sb) (o5.mono sb) (hev.mono sb));clear o1 o2 o3 o4 o5 hev Xp NX sb;obtain⟨bn,hbn⟩:∃b,w7.heap.size=b:=⟨_,rfl⟩;have BN:Hid (Below _ w7 (w7.alloc (Obj.cells #[int i64 Z.turn,int i64 Z.next,int i64 Z.wide,int i64 Z.high,slice m1 Z.gs.length k1,slice m2 Z.os.length k2,slice m3 Z.gold.length k3,slice m4 Z.us.length k4,slice m5 Z.qs.length k5] 29))):=(Below.refl _ _).alloc (Nat.le_refl _) _;have XN:=aj (Wx.new (w:=w7) (int i64 Z.turn) (int i64 Z.next) (int i64 Z.wide) (int i64 Z.high) (slice m1 Z.gs.length k1) (slice m2 Z.os.length k2) (slice m3 Z.gold.length k3) (slice m4 Z.us.length k4) (slice m5 Z.qs.length k5) hbn);have NB:Hid (bq+1<=bn):=by rw[<-hbn];exact Nat.le_trans SW.out S7.out
 go_upto_region 16 with fail
 (try rw[hbn])
 clear hbn;generalize w7.alloc _=w8 at *;have T8:=aj (T7.out.below BN.out);have O8:=aj (uG (OZ.out.1.below BN.out) (OZ.out.2.1.below BN.out) (OZ.out.2.2.1.below BN.out) (OZ.out.2.2.2.1.below BN.out) (OZ.out.2.2.2.2.1.below BN.out) (OZ.out.2.2.2.2.2.below BN.out));obtain⟨x0,x1,x2,x3,x4,x5,x6,x7,x8⟩:=XN.out.cells;obtain⟨z0,z1,z2,z3,z4,z5,z6,z7,z8⟩:=T8.out.x.cells;obtain⟨t0,t1,t2,t3,t4,t5,t6,t7,t8⟩:=T8.out.x.bC;have KZ:=aj (bP w8 w.heap.size (int i64 Z.turn) (int i64 Z.next) (int i64 Z.wide) (int i64 Z.high) (slice m1 Z.gs.length k1) (slice m2 Z.os.length k2) (slice m3 Z.gold.length k3) (slice m4 Z.us.length k4) (slice m5 Z.qs.length k5));have XZ:=aj (T8.out.x.put (int i64 Z.turn) (int i64 Z.next) (int i64 Z.wide) (int i64 Z.high) (slice m1 Z.gs.length k1) (slice m2 Z.os.length k2) (slice m3 Z.gold.length k3) (slice m4 Z.us.length k4) (slice m5 Z.qs.length k5));go_upto_region 17 with fail
 clear x0 x1 x2 x3 x4 x5 x6 x7 x8 z0 z1 z2 z3 z4 z5 z6 z7 z8 t0 t1 t2 t3 t4 t5 t6 t7 t8;generalize World.setCell _ _ _=w9 at *;have T9:=aj (T8.out.puts KZ.out XZ.out O8.out.1 O8.out.2.1 O8.out.2.2.1 O8.out.2.2.2.1 O8.out.2.2.2.2.1);have E9:=aj (dY.l ((Fr.kp (S:=λk=>k=w.heap.size) KZ.out rfl).own O8.out.2.2.2.2.2 (λk hk=>by have:=(O8.out.2.2.2.2.2.block k hk).1;omega):dY w9 (w.heap.size+2) ev2 fs));have S9:Hid (bq+1<=w9.heap.size):=by have h1:=T9.out.f.size;have h2:=SZ.out;unfold Hid;omega
 go_wp2_with (at_builtin;refine MW _ rfl _ _ rfl _ _ es rfl T9.out.e _ fs rfl E9.out LN.out S9.out ?_);intro ev' wE hE hG;have TE:=aj (T9.out.told hG hE);clear hE hG;go_wp2;go_round
 case rel=>exact⟨n+1,by omega,by go_num,Z,es++fs,PN.out,_,_,_,_,_,_,rfl,TE.out⟩
 case measure=>simp[intOf];omega
end Go.Proofs.YtolfphmdmpehdaaGreatDoor
namespace Go.Proofs.YtolfphmdmpehdaaGreatDoor
open Go.RowKit
def JX(w:World)(v:Value)(ls:List (List aK)):Prop:=∃a c,v=slice a ls.length c/\ls.length<=c/\c<=9223372036854775807/\(ls≠[]->∃x,a=some x/\x.block<w.heap.size/\∀(i:Nat) l,ls[i]? =some l->∃u,w.cell? (x.add i)=some u/\zU w u l)
theorem JX.below{w w':World}{v:Value}{ls:List (List aK)}(h:JX w v ls)(hb:Below w.heap.size w w'):JX w' v ls:=by
 obtain⟨a,c,h1,h2,h3,h4⟩:=h;refine⟨a,c,h1,h2,h3,λhn=>?_⟩;obtain⟨x,e,hx,hy⟩:=h4 hn;refine⟨x,e,Nat.lt_of_lt_of_le hx hb.size,λi l hl=>?_⟩;obtain⟨u,c1,c2⟩:=hy i l hl;exact⟨u,by rw[hb.cell (by rw[add_block];exact hx)];exact c1,c2.below hb⟩
open Go.Proofs.YtolfphmdmpehdaaGreatDoor.So
inductive gI (ks:List KV) (X:WV) (ls:List (List aK)):Nat->WV->Prop
 |zero:gI ks X ls 0 X
 |turn {n:Nat} {Y Z:WV} {l:List aK} {es:List bM}:gI ks X ls n Y->ls[n]? =some l->bg ks Y l=0->kG ks Y l Z es->gI ks X ls (n+1) Z
def fJ(ks:List KV)(X:WV)(ls:List (List aK))(F:Int)(w w':World)(v:Value):Prop:=
 (F≠0/\v=.agg #[int i64 0,int i64 0,int i64 0,int i64 0,slice none 0 0,slice none 0 0,slice none 0 0,slice none 0 0,slice none 0 0]/\((Wd.aF ks X≠0/\F=Wd.aF ks X)\/(Wd.aF ks X=0/\200<ls.length/\F=4)\/(Wd.aF ks X=0/\ls.length<=200/\∃n Y l,gI ks X ls n Y/\ls[n]? =some l/\bg ks Y l=F)))
 \/(F=0/\Wd.aF ks X=0/\ls.length<=200/\∃Y,gI ks X ls ls.length Y/\Wo w' w.heap.size v Y)
def Yt(w0:World)(z s k:Nat):Prop:=w0.heap.size<=k/\k<s/\k≠z/\k≠z+1
structure Uz(K:Nat)(cs:Array Value)(ks:List KV)(X:WV)(ls:List (List aK))(w0:World)(z:Nat)(I:Nat->Nat->World->Prop):Prop where
 keep:∀n s W W',I n s W->Fr (λk=>k=z\/k=z+1\/s<=k) W W'->I n s W'
 up:∀n s t W,I n s W->s<=t->I n t W
 shows:∀n s Y v W,Wd.aF ks X=0/\ls.length<=200->gI ks X ls n Y->I n s W->Below w0.heap.size w0 W->z+2<=s/\s<=W.heap.size->Wo W s v Y->Calls Tryz.prog K (#[v]++cs) W λe W'=>e=.returned (.tuple #[])/\I (n+1) W'.heap.size W'/\Fr (Yt w0 z s) W W'
structure Wt(w0:World)(z s:Nat)(Y:WV)(u1 u2 u3 u4 u5:Value)(V:World):Prop where
 x:Wx V z (int i64 Y.turn) (int i64 Y.next) (int i64 Y.wide) (int i64 Y.high) u1 u2 u3 u4 u5
 y:Wx V (z+1) (int i64 0) (int i64 0) (int i64 0) (int i64 0) (slice none 0 0) (slice none 0 0) (slice none 0 0) (slice none 0 0) (slice none 0 0)
 o1:Ow V s u1 Y.gs
 o2:Ow V s u2 Y.os
 o3:Ow V s u3 Y.gold
 o4:dQ V s u4 Y.us
 o5:dK V s u5 Y.qs
 b:Below w0.heap.size w0 V
 n:w0.heap.size<=z/\z+2<=s
section
variable {w0 V V':World} {z s t:Nat} {Y Z:WV} {u1 u2 u3 u4 u5 k1 k2 k3 k4 k5:Value}
theorem Wt.below(h:Wt w0 z s Y u1 u2 u3 u4 u5 V)(hb:Below V.heap.size V V'):Wt w0 z s Y u1 u2 u3 u4 u5 V':=
 ⟨h.x.below hb h.x.lt,h.y.below hb h.y.lt,h.o1.below hb,h.o2.below hb,h.o3.below hb,h.o4.below hb,h.o5.below hb,h.b.trans (hb.mono h.b.size),h.n⟩
theorem Wt.shown(h:Wt w0 z s Y u1 u2 u3 u4 u5 V)(f:Fr (Yt w0 z s) V V'):Wt w0 z s Y u1 u2 u3 u4 u5 V':=
 ⟨f.wx h.x (λe=>e.2.2.1 rfl),f.wx h.y (λe=>e.2.2.2 rfl),f.own h.o1 (λb hb e=>by have:=(h.o1.block b hb).1;have:=e.2.1;omega),f.own h.o2 (λb hb e=>by have:=(h.o2.block b hb).1;have:=e.2.1;omega),f.own h.o3 (λb hb e=>by have:=(h.o3.block b hb).1;have:=e.2.1;omega),f.own h.o4 (λb hb e=>by have:=(h.o4.block b hb).1;have:=e.2.1;omega),f.own h.o5 (λb hb e=>by have:=(h.o5.block b hb).1;have:=e.2.1;omega),h.b.trans (f.low h.b.size (λk hk=>hk.1)),h.n⟩
theorem Wt.wl(h:Wt w0 z s Y u1 u2 u3 u4 u5 V):Wl V (.agg #[int i64 Y.turn,int i64 Y.next,int i64 Y.wide,int i64 Y.high,u1,u2,u3,u4,u5]) Y:=⟨u1,u2,u3,u4,u5,rfl,h.o1.ro,h.o2.ro,h.o3.ro,h.o4.l,h.o5.l⟩
theorem Wt.wo(h:Wt w0 z s Y u1 u2 u3 u4 u5 V):Wo V s (.agg #[int i64 Y.turn,int i64 Y.next,int i64 Y.wide,int i64 Y.high,u1,u2,u3,u4,u5]) Y:=⟨u1,u2,u3,u4,u5,rfl,h.o1,h.o2,h.o3,h.o4,h.o5⟩
theorem JY(hy:Wx V (z+1) (int i64 0) (int i64 0) (int i64 0) (int i64 0) (slice none 0 0) (slice none 0 0) (slice none 0 0) (slice none 0 0) (slice none 0 0))(hb:Below w0.heap.size w0 V)(hn:w0.heap.size<=z/\z+2<=t)(hk:Kp z V V')(hx:Wx V' z (int i64 Z.turn) (int i64 Z.next) (int i64 Z.wide) (int i64 Z.high) k1 k2 k3 k4 k5)
  (p1:Ow V t k1 Z.gs) (p2:Ow V t k2 Z.os) (p3:Ow V t k3 Z.gold) (p4:dQ V t k4 Z.us) (p5:dK V t k5 Z.qs):Wt w0 z t Z k1 k2 k3 k4 k5 V':=
 ⟨hx,hy.kp hk (by omega),fU p1 hk (by omega),fU p2 hk (by omega),fU p3 hk (by omega),fU p4 hk (by omega),fU p5 hk (by omega),hk.below hb hb.size hn.1,hn⟩
end
theorem Eh(K:Nat)(eK:∀args w,(callFunc K args).run Tryz.prog w=.ok (.enter K args) w)(cs:Array Value)(I:Nat->Nat->World->Prop)(vk vw vl:Value)(ks:List KV)(X:WV)(ls:List (List aK))(wa w:World)(hk:Kl wa vk ks)(hb:∀k∈ks,k.b.size<=9223372036854775807)(hw:Wl wa vw X)(hl:JX wa vl ls)(hs:Sd wa)(hB:Below wa.heap.size wa w)(hI:I 0 w.heap.size w)(hS:Uz K cs ks X ls wa w.heap.size I):
  Calls Tryz.prog 40 #[vk,vw,vl,.func (Fn.func K) #[] cs] w λe w'=>∃v r F,e=.returned (.tuple #[v,r])/\Er r F/\fJ ks X ls F w w' v/\Below wa.heap.size wa w'/\(F=0->∃s,I (ls.length+1) s w'):=by
 have KK:=aj (eU hk hb);have H:=aj hw;have SD:=aj (eU hs hl);have SS:=aj hS;have BA:=aj hB;have I0:=aj hI;have NZ:Hid (wa.heap.size<=w.heap.size):=hB.size;obtain⟨pl,ql,rfl,cl1,cl2,-⟩:=hl;clear hs hS hB hI;obtain⟨p1,q1,p2,q2,p3,q3,p4,q4,p5,q5,rfl⟩:=aV hw;obtain⟨pk,qk,rfl,ck1,ck2,kc⟩:=hk;clear hb hw kc;go_enter Tryz.func40,Tryz.ntmps40;go_upto_region 1 with fail
 obtain⟨B0,X0,Z0⟩:=n_ w (int i64 X.turn) (int i64 X.next) (int i64 X.wide) (int i64 X.high) (slice p1 X.gs.length q1) (slice p2 X.os.length q2) (slice p3 X.gold.length q3) (slice p4 X.us.length q4) (slice p5 X.qs.length q5);generalize ((w.alloc _).alloc _)=w0 at *;have BA0:=aj (BA.out.trans (B0.out.mono NZ.out));obtain⟨x0,x1,x2,x3,x4,x5,x6,x7,x8⟩:=X0.out.cells;go_wp2_with fail
 refine(dI _ _ ks X w0 (KK.out.1.below BA0.out) KK.out.2 (H.out.below BA0.out)).mono ?_;rintro e w1 ⟨r,rfl,hr,hb⟩;obtain⟨fw,hfw⟩:∃f,Wd.aF ks X=f:=⟨_,rfl⟩;have FW:=aj hfw;rw[hfw] at hr;have B1:=aj (BA0.out.trans (hb.mono BA0.out.size));have X1:=aj (X0.out.below hb X0.out.lt);have Z1:=aj (Z0.out.below hb Z0.out.lt);have I1:=aj (SS.out.keep _ _ _ _ (SS.out.keep _ _ _ _ I0.out (Fr.below B0.out)) (Fr.below hb));clear hb hfw x0 x1 x2 x3 x4 x5 x6 x7 x8 X0 B0 Z0 BA0 I0;rcases hr with⟨rfl,rfl⟩|⟨hf,rfl⟩
 case inr=>
  have HF:=aj hf;clear hf;obtain⟨z0,z1,z2,z3,z4,z5,z6,z7,z8⟩:=Z1.out.cells;obtain⟨t0,t1,t2,t3,t4,t5,t6,t7,t8⟩:=Z1.out.bC;have KZ:=aj (dF w1 (w.heap.size+1));obtain⟨y0,y1,y2,y3,y4,y5,y6,y7,y8⟩:=(Z1.out.jJ).cells;go_wp2;clear z0 z1 z2 z3 z4 z5 z6 z7 z8 t0 t1 t2 t3 t4 t5 t6 t7 t8;generalize World.setCell _ _ _=w9 at *;refine bodyPost_ret (by simp[results,Tryz.results40,go_sem,y0,y1,y2,y3,y4,y5,y6,y7,y8]) rfl ⟨_,_,fw,rfl,Er.no HF.out,.inl ⟨HF.out,rfl,.inl ⟨by rw[FW.out];exact HF.out,FW.out.symm⟩⟩,KZ.out.below B1.out B1.out.size (by have:=NZ.out;omega),λh=>absurd h HF.out⟩
 have WR:=aj (aY FW.out);obtain⟨x0,x1,x2,x3,x4,x5,x6,x7,x8⟩:=X1.out.cells;by_cases hln:200<ls.length
 case pos=>
  have Xq:(200:Int)<(ls.length:Int):=by omega
  have Lc:=aj hln;clear hln;obtain⟨z0,z1,z2,z3,z4,z5,z6,z7,z8⟩:=Z1.out.cells;obtain⟨t0,t1,t2,t3,t4,t5,t6,t7,t8⟩:=Z1.out.bC;have KZ:=aj (dF w1 (w.heap.size+1));obtain⟨y0,y1,y2,y3,y4,y5,y6,y7,y8⟩:=(Z1.out.jJ).cells;go_wp2;clear z0 z1 z2 z3 z4 z5 z6 z7 z8 t0 t1 t2 t3 t4 t5 t6 t7 t8;generalize World.setCell _ _ _=wz at *;refine bodyPost_ret (by simp[results,Tryz.results40,go_sem,y0,y1,y2,y3,y4,y5,y6,y7,y8]) rfl ⟨_,_,4,rfl,Er.no (by decide),.inl ⟨by decide,rfl,.inr (.inl ⟨FW.out,Lc.out,rfl⟩)⟩,KZ.out.below B1.out B1.out.size (by have:=NZ.out;omega),λh=>absurd h (by decide)⟩
 have Lc:Hid (ls.length<=200):=by unfold Hid;omega
 have Xq:¬(200:Int)<(ls.length:Int):=by omega
 clear hln;go_wp2_with fail
 refine(gy _ X w1 (H.out.below B1.out) WR.out.len).mono ?_;rintro e w2 ⟨cu,rfl,⟨k1,k2,k3,k4,k5,rfl,⟨o1,o2,o3,o4,o5⟩,-⟩,hb⟩;obtain⟨a1,r1,rfl⟩:=o1.len;obtain⟨a2,r2,rfl⟩:=o2.len;obtain⟨a3,r3,rfl⟩:=o3.len;obtain⟨a4,r4,rfl⟩:=o4.len;obtain⟨a5,r5,rfl⟩:=o5.len;have B2:=aj (B1.out.trans (hb.mono B1.out.size));have X2:=aj (X1.out.below hb X1.out.lt);have Z2:=aj (Z1.out.below hb Z1.out.lt);have S1:Hid (w.heap.size+2<=w1.heap.size):=Z1.out.lt;have S2:=aj hb.size;have OA:=aj (fK o1 o2 o3 o4 o5);have I2:=aj (SS.out.keep _ _ _ _ I1.out (Fr.below hb));clear hb x0 x1 x2 x3 x4 x5 x6 x7 x8 X1 B1 Z1 o1 o2 o3 o4 o5 I1;obtain⟨c0,c1,c2,c3,c4,c5,c6,c7,c8⟩:=X2.out.cells;obtain⟨d0,d1,d2,d3,d4,d5,d6,d7,d8⟩:=X2.out.bC;have KB:=aj (bP w2 w.heap.size (int i64 X.turn) (int i64 X.next) (int i64 X.wide) (int i64 X.high) (slice a1 X.gs.length r1) (slice a2 X.os.length r2) (slice a3 X.gold.length r3) (slice a4 X.us.length r4) (slice a5 X.qs.length r5));have XB:=aj (X2.out.put (int i64 X.turn) (int i64 X.next) (int i64 X.wide) (int i64 X.high) (slice a1 X.gs.length r1) (slice a2 X.os.length r2) (slice a3 X.gold.length r3) (slice a4 X.us.length r4) (slice a5 X.qs.length r5));go_upto_region 7 with fail
 clear c0 c1 c2 c3 c4 c5 c6 c7 c8 d0 d1 d2 d3 d4 d5 d6 d7 d8;generalize World.setCell _ _ _=w5 at *;have T5:=aj (JY Z2.out B2.out ⟨NZ.out,S1.out⟩ KB.out XB.out OA.out.1 OA.out.2.1 OA.out.2.2.1 OA.out.2.2.2.1 OA.out.2.2.2.2);have I5:=aj (SS.out.up _ _ _ _ (SS.out.keep _ _ _ _ I2.out (Fr.kp KB.out (.inl rfl))) (by have:=S1.out;omega:w.heap.size<=w1.heap.size));have SV:=aj (Nat.le_trans S2.out KB.out.size);clear KB X2 B2 Z2 OA XB I2;obtain⟨x0,x1,x2,x3,x4,x5,x6,x7,x8⟩:=T5.out.x.cells;go_wp2_with fail
 refine(SS.out.shows 0 _ X _ w5 ⟨FW.out,Lc.out⟩ .zero I5.out T5.out.b ⟨T5.out.n.2,SV.out⟩ T5.out.wo).mono ?_;rintro e w6 ⟨rfl,hi,hf⟩;have T6:=aj (T5.out.shown hf);have I6:=aj hi;clear hi hf x0 x1 x2 x3 x4 x5 x6 x7 x8 T5 I5;go_wp2_with fail
 go_loopw [35] (λj V=>∃n:Nat,n<=ls.length/\j=int i64 (n:Nat)/\∃Y,gI ks X ls n Y/\I (n+1) V.heap.size V/\∃s u1 u2 u3 u4 u5,Wt wa w.heap.size s Y u1 u2 u3 u4 u5 V) (λj _=>ls.length-(intOf j).toNat)
 case atStart=>exact⟨0,Nat.zero_le _,rfl,X,.zero,I6.out,_,_,_,_,_,_,T6.out⟩
 case round=>
 obtain⟨n,hn,rfl,Y,hp,hi,s,u1,u2,u3,u4,u5,hT⟩:=hrel;have PR:=aj hp;have TQ:=aj hT;have IQ:=aj hi;clear hp hT hi T6 I6;obtain⟨g1,l1,rfl⟩:=TQ.out.o1.len;obtain⟨g2,l2,rfl⟩:=TQ.out.o2.len;obtain⟨g3,l3,rfl⟩:=TQ.out.o3.len;obtain⟨g4,l4,rfl⟩:=TQ.out.o4.len;obtain⟨g5,l5,rfl⟩:=TQ.out.o5.len;have SW:Hid (w.heap.size+2<=wr.heap.size):=TQ.out.y.lt;by_cases hne:n=ls.length
 case pos=>
  have PE:Hid (gI ks X ls ls.length Y):=by rw[<-hne];exact PR.out
  subst hne;obtain⟨x0,x1,x2,x3,x4,x5,x6,x7,x8⟩:=TQ.out.x.cells;obtain⟨z0,z1,z2,z3,z4,z5,z6,z7,z8⟩:=TQ.out.y.cells;obtain⟨t0,t1,t2,t3,t4,t5,t6,t7,t8⟩:=TQ.out.y.bC;have KZ:=aj (bP wr (w.heap.size+1) (int i64 Y.turn) (int i64 Y.next) (int i64 Y.wide) (int i64 Y.high) (slice g1 Y.gs.length l1) (slice g2 Y.os.length l2) (slice g3 Y.gold.length l3) (slice g4 Y.us.length l4) (slice g5 Y.qs.length l5));obtain⟨y0,y1,y2,y3,y4,y5,y6,y7,y8⟩:=(TQ.out.y.put (int i64 Y.turn) (int i64 Y.next) (int i64 Y.wide) (int i64 Y.high) (slice g1 Y.gs.length l1) (slice g2 Y.os.length l2) (slice g3 Y.gold.length l3) (slice g4 Y.us.length l4) (slice g5 Y.qs.length l5)).cells;go_wp2;clear x0 x1 x2 x3 x4 x5 x6 x7 x8 z0 z1 z2 z3 z4 z5 z6 z7 z8 t0 t1 t2 t3 t4 t5 t6 t7 t8;generalize World.setCell _ _ _=wt at *;have ZN:=TQ.out.n;have hNZ:=NZ.out;refine bodyPost_ret (v:=.tuple #[.agg #[int i64 Y.turn,int i64 Y.next,int i64 Y.wide,int i64 Y.high,(slice g1 Y.gs.length l1),(slice g2 Y.os.length l2),(slice g3 Y.gold.length l3),(slice g4 Y.us.length l4),(slice g5 Y.qs.length l5)],.nilIface]) (by simp[results,Tryz.results40,go_sem,y0,y1,y2,y3,y4,y5,y6,y7,y8]) rfl ⟨_,_,0,rfl,Er.nil,.inr ⟨rfl,FW.out,Lc.out,Y,PE.out,_,_,_,_,_,rfl,(TQ.out.o1.kp KZ.out (by omega)).mono (by omega),(TQ.out.o2.kp KZ.out (by omega)).mono (by omega),(TQ.out.o3.kp KZ.out (by omega)).mono (by omega),(TQ.out.o4.kp KZ.out (by omega)).mono (by omega),(TQ.out.o5.kp KZ.out (by omega)).mono (by omega)⟩,KZ.out.below TQ.out.b TQ.out.b.size (by omega),λ_=>⟨_,SS.out.keep _ _ _ _ IQ.out (Fr.kp KZ.out (.inr (.inl rfl)))⟩⟩
 case neg=>
 have hnl:n<ls.length:=by omega
 have Rl:(n:Int)<(ls.length:Int):=by omega
 have hl2:=Lc.out;obtain⟨l,hl⟩:∃l,ls[n]? =some l:=⟨_,List.getElem?_eq_getElem hnl⟩;have HL:=aj hl;obtain⟨a',c',e',-,-,hy⟩:=SD.out.2.below TQ.out.b;injection e' with e1 e2 e3
 subst e1 e3;obtain⟨xl,rfl,-,hy⟩:=hy (by rintro hn;rw[hn] at hnl;simp at hnl);obtain⟨vo,cv,Yu⟩:=hy n l hl;have VO:=aj Yu;clear hy hl e2 Yu;obtain⟨x0,x1,x2,x3,x4,x5,x6,x7,x8⟩:=TQ.out.x.cells;go_wp2_with fail
 clear cv x0 x1 x2 x3 x4 x5 x6 x7 x8;refine(JV _ _ vo ks Y l wr (KK.out.1.below TQ.out.b) KK.out.2 TQ.out.wl VO.out (SD.out.1.below TQ.out.b)).mono ?_;rintro e w7 ⟨v,ev2,r,rfl,hr,hd,hb⟩;have T7:=aj (TQ.out.below hb);have I7:=aj (SS.out.keep _ _ _ _ IQ.out (Fr.below hb));have S7:=aj hb.size;clear hb;obtain⟨sf,hsf⟩:∃f,bg ks Y l=f:=⟨_,rfl⟩;have SF:=aj hsf;rw[hsf] at hr;clear hsf;rcases hr with⟨rfl,rfl⟩|⟨hf,rfl⟩
 case inr=>
  have HF:=aj hf;rcases hd with⟨-,rfl,rfl⟩|⟨h,-⟩
  case inr=>rw[SF.out] at h;exact absurd h hf
  clear hf;have BN:Hid (Below _ w7 (w7.alloc (Obj.cells #[int i64 0,int i64 0,int i64 0,int i64 0,slice none 0 0,slice none 0 0,slice none 0 0,slice none 0 0,slice none 0 0] 29))):=(Below.refl _ _).alloc (Nat.le_refl _) _;go_upto_region 13 with fail
  generalize w7.alloc _=w8 at *;have T8:=aj (T7.out.below BN.out);obtain⟨z0,z1,z2,z3,z4,z5,z6,z7,z8⟩:=T8.out.y.cells;obtain⟨t0,t1,t2,t3,t4,t5,t6,t7,t8⟩:=T8.out.y.bC;have KZ:=aj (dF w8 (w.heap.size+1));obtain⟨y0,y1,y2,y3,y4,y5,y6,y7,y8⟩:=(T8.out.y.jJ).cells;go_wp2;clear z0 z1 z2 z3 z4 z5 z6 z7 z8 t0 t1 t2 t3 t4 t5 t6 t7 t8;generalize World.setCell _ _ _=wz at *;refine bodyPost_ret (by simp[results,Tryz.results40,go_sem,y0,y1,y2,y3,y4,y5,y6,y7,y8]) rfl ⟨_,_,sf,rfl,Er.no HF.out,.inl ⟨HF.out,rfl,.inr (.inr ⟨FW.out,Lc.out,n,Y,l,PR.out,HL.out,SF.out⟩)⟩,KZ.out.below T8.out.b T8.out.b.size (by have:=NZ.out;omega),λh=>absurd h HF.out⟩
 rcases hd with⟨h,-⟩|⟨-,Z,es,hsr,ho,-⟩
 case inl=>exact absurd SF.out h
 have PN:Hid (gI ks X ls (n+1) Z):=.turn PR.out HL.out SF.out hsr;obtain⟨v1,v2,v3,v4,v5,rfl,o1,o2,o3,o4,o5⟩:=ho;obtain⟨m1,k1,rfl⟩:=o1.len;obtain⟨m2,k2,rfl⟩:=o2.len;obtain⟨m3,k3,rfl⟩:=o3.len;obtain⟨m4,k4,rfl⟩:=o4.len;obtain⟨m5,k5,rfl⟩:=o5.len;have OZ:=aj (fK o1 o2 o3 o4 o5);clear o1 o2 o3 o4 o5 hsr;obtain⟨bn,hbn⟩:∃b,w7.heap.size=b:=⟨_,rfl⟩;have BN:=aj ((Below.refl w7.heap.size w7).alloc (Nat.le_refl _) (Obj.cells #[int i64 Z.turn,int i64 Z.next,int i64 Z.wide,int i64 Z.high,(slice m1 Z.gs.length k1),(slice m2 Z.os.length k2),(slice m3 Z.gold.length k3),(slice m4 Z.us.length k4),(slice m5 Z.qs.length k5)] 29));have XN:=aj (Wx.new (w:=w7) (int i64 Z.turn) (int i64 Z.next) (int i64 Z.wide) (int i64 Z.high) (slice m1 Z.gs.length k1) (slice m2 Z.os.length k2) (slice m3 Z.gold.length k3) (slice m4 Z.us.length k4) (slice m5 Z.qs.length k5) hbn);go_upto_region 14 with fail
 (try rw[hbn])
 clear hbn;generalize w7.alloc _=w8 at *;have T8:=aj (T7.out.below BN.out);have I8:=aj (SS.out.keep _ _ _ _ I7.out (Fr.below BN.out));have O8:=aj (fK (OZ.out.1.below BN.out) (OZ.out.2.1.below BN.out) (OZ.out.2.2.1.below BN.out) (OZ.out.2.2.2.1.below BN.out) (OZ.out.2.2.2.2.below BN.out));obtain⟨x0,x1,x2,x3,x4,x5,x6,x7,x8⟩:=XN.out.cells;obtain⟨z0,z1,z2,z3,z4,z5,z6,z7,z8⟩:=T8.out.x.cells;obtain⟨t0,t1,t2,t3,t4,t5,t6,t7,t8⟩:=T8.out.x.bC;have KZ:=aj (bP w8 w.heap.size (int i64 Z.turn) (int i64 Z.next) (int i64 Z.wide) (int i64 Z.high) (slice m1 Z.gs.length k1) (slice m2 Z.os.length k2) (slice m3 Z.gold.length k3) (slice m4 Z.us.length k4) (slice m5 Z.qs.length k5));have XZ:=aj (T8.out.x.put (int i64 Z.turn) (int i64 Z.next) (int i64 Z.wide) (int i64 Z.high) (slice m1 Z.gs.length k1) (slice m2 Z.os.length k2) (slice m3 Z.gold.length k3) (slice m4 Z.us.length k4) (slice m5 Z.qs.length k5));go_upto_region 15 with fail
 clear x0 x1 x2 x3 x4 x5 x6 x7 x8 z0 z1 z2 z3 z4 z5 z6 z7 z8 t0 t1 t2 t3 t4 t5 t6 t7 t8;generalize World.setCell _ _ _=w9 at *;have T9:=aj (JY T8.out.y T8.out.b ⟨NZ.out,SW.out⟩ KZ.out XZ.out O8.out.1 O8.out.2.1 O8.out.2.2.1 O8.out.2.2.2.1 O8.out.2.2.2.2);have I9:=aj (SS.out.keep _ _ _ _ I8.out (Fr.kp KZ.out (.inl rfl)));have S9:=aj (Nat.le_trans S7.out (Nat.le_trans BN.out.size KZ.out.size));clear T7 T8 I7 I8 BN XN OZ O8 KZ XZ TQ IQ;obtain⟨x0,x1,x2,x3,x4,x5,x6,x7,x8⟩:=T9.out.x.cells;go_wp2_with fail
 refine(SS.out.shows (n+1) _ Z _ w9 ⟨FW.out,Lc.out⟩ PN.out I9.out T9.out.b ⟨T9.out.n.2,S9.out⟩ T9.out.wo).mono ?_;rintro e w10 ⟨rfl,hi,hf⟩;have TX:=aj (T9.out.shown hf);have IX:=aj hi;clear hi hf x0 x1 x2 x3 x4 x5 x6 x7 x8 T9 I9;go_wp2;go_round
 case rel=>exact⟨n+1,by omega,by go_num,Z,PN.out,IX.out,_,_,_,_,_,_,TX.out⟩
 case measure=>simp[intOf];omega
theorem fJ.shape{ks:List KV}{X:WV}{ls:List (List aK)}{F:Int}{w w':World}{v:Value}(h:fJ ks X ls F w w' v):∃i1 i2 i3 i4 a1 l1 b1 a2 l2 b2 a3 l3 b3 a4 l4 b4 a5 l5 b5,v=.agg #[int i64 i1,int i64 i2,int i64 i3,int i64 i4,slice a1 l1 b1,slice a2 l2 b2,slice a3 l3 b3,slice a4 l4 b4,slice a5 l5 b5]:=by
 rcases h with⟨-,rfl,-⟩|⟨-,-,-,Y,-,u1,u2,u3,u4,u5,rfl,h1,h2,h3,h4,h5⟩
 ·exact⟨_,_,_,_,_,_,_,_,_,_,_,_,_,_,_,_,_,_,_,rfl⟩
 ·obtain⟨p1,q1,rfl⟩:=h1.len
  obtain⟨p2,q2,rfl⟩:=h2.len;obtain⟨p3,q3,rfl⟩:=h3.len;obtain⟨p4,q4,rfl⟩:=h4.len;obtain⟨p5,q5,rfl⟩:=h5.len;exact⟨_,_,_,_,_,_,_,_,_,_,_,_,_,_,_,_,_,_,_,rfl⟩
theorem fJ.kp{ks:List KV}{X:WV}{ls:List (List aK)}{F:Int}{w w0 w' w9:World}{v:Value}{z:Nat}(h:fJ ks X ls F w0 w' v)(k:Kp z w' w9)(hz:z<w0.heap.size)(hw:w.heap.size<=w0.heap.size):fJ ks X ls F w w9 v:=by
 rcases h with h|⟨h1,h2,h3,Y,h4,u1,u2,u3,u4,u5,h5,o1,o2,o3,o4,o5⟩
 ·exact .inl h
 ·exact .inr ⟨h1,h2,h3,Y,h4,u1,u2,u3,u4,u5,h5,(o1.kp k hz).mono hw,(o2.kp k hz).mono hw,(o3.kp k hz).mono hw,(o4.kp k hz).mono hw,(o5.kp k hz).mono hw⟩
theorem Ei(v:Value)(Y:WV)(w:World)(h:Wl w v Y):Calls Tryz.prog 42 #[v] w λe w'=>e=.returned (.tuple #[])/\Below w.heap.size w w':=by
 have B0:=(Below.refl w.heap.size w).alloc (Nat.le_refl _);obtain⟨u1,u2,u3,u4,u5,rfl,-⟩:=h;go_enter Tryz.func42,Tryz.ntmps42;go_wp2;go_end0;exact⟨rfl,B0 _⟩
theorem vX(vk vw vl:Value)(ks:List KV)(X:WV)(ls:List (List aK))(w:World)(hk:Kl w vk ks)(hb:∀k∈ks,k.b.size<=9223372036854775807)(hw:Wl w vw X)(hl:JX w vl ls)(hs:Sd w):
  Calls Tryz.prog 14 #[vk,vw,vl] w λe w'=>∃v r F,e=.returned (.tuple #[v,r])/\Er r F/\fJ ks X ls F w w' v/\Below w.heap.size w w':=by
 have SE:∀V:World,Uz 42 #[] ks X ls V V.heap.size (λ_ _ _=>True):=λV=>⟨λ_ _ _ _ _ _=>trivial,λ_ _ _ _ _ _=>trivial,λ_ _ Y v W _ _ _ _ _ ho=>(Ei v Y W ho.l).mono λe w' ⟨he,hb⟩=>⟨he,trivial,Fr.below hb⟩⟩
 have W:=aj (λ(V:World) (b:Below w.heap.size w V)=>Eh 42 (by intro args w;go_simp) #[] (λ_ _ _=>True) vk vw vl ks X ls V V (hk.below b) hb (hw.below b) (hl.below b) (hs.below b) (Below.refl _ _) trivial (SE V));clear SE;obtain⟨p1,q1,p2,q2,p3,q3,p4,q4,p5,q5,rfl⟩:=aV hw;clear hk hb hw hl hs;go_enter Tryz.func14,Tryz.ntmps14;go_upto_region 1 with fail
 obtain⟨B0,X0,Z0⟩:=n_ w (int i64 X.turn) (int i64 X.next) (int i64 X.wide) (int i64 X.high) (slice p1 X.gs.length q1) (slice p2 X.os.length q2) (slice p3 X.gold.length q3) (slice p4 X.us.length q4) (slice p5 X.qs.length q5);generalize ((w.alloc _).alloc _)=w0 at *;obtain⟨x0,x1,x2,x3,x4,x5,x6,x7,x8⟩:=X0.out.cells;go_wp2_with fail
 refine(W.out w0 B0.out).mono ?_;rintro e w1 ⟨v,r,F,rfl,he,hp,hb,-⟩;obtain⟨i1,i2,i3,i4,a1,l1,b1,a2,l2,b2,a3,l3,b3,a4,l4,b4,a5,l5,b5,rfl⟩:=hp.shape;have Z1:=aj (Z0.out.below hb Z0.out.lt);have H:=aj (iG he hp (B0.out.trans (hb.mono B0.out.size)));clear he hp hb x0 x1 x2 x3 x4 x5 x6 x7 x8 X0;obtain⟨z0,z1,z2,z3,z4,z5,z6,z7,z8⟩:=Z1.out.cells;obtain⟨t0,t1,t2,t3,t4,t5,t6,t7,t8⟩:=Z1.out.bC;have KZ:=aj (bP w1 (w.heap.size+1) (int i64 i1) (int i64 i2) (int i64 i3) (int i64 i4) (slice a1 l1 b1) (slice a2 l2 b2) (slice a3 l3 b3) (slice a4 l4 b4) (slice a5 l5 b5));obtain⟨y0,y1,y2,y3,y4,y5,y6,y7,y8⟩:=(Z1.out.put (int i64 i1) (int i64 i2) (int i64 i3) (int i64 i4) (slice a1 l1 b1) (slice a2 l2 b2) (slice a3 l3 b3) (slice a4 l4 b4) (slice a5 l5 b5)).cells;go_wp2;clear z0 z1 z2 z3 z4 z5 z6 z7 z8 t0 t1 t2 t3 t4 t5 t6 t7 t8;generalize World.setCell _ _ _=w9 at *;refine bodyPost_ret (v:=.tuple #[.agg #[int i64 i1,int i64 i2,int i64 i3,int i64 i4,slice a1 l1 b1,slice a2 l2 b2,slice a3 l3 b3,slice a4 l4 b4,slice a5 l5 b5],r]) (by simp[results,Tryz.results14,go_sem,y0,y1,y2,y3,y4,y5,y6,y7,y8]) rfl ⟨_,_,_,rfl,H.out.1,H.out.2.1.kp KZ.out Z0.out.lt B0.out.size,KZ.out.below H.out.2.2 H.out.2.2.size (by omega)⟩
end Go.Proofs.YtolfphmdmpehdaaGreatDoor
