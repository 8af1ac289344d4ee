/- A region that draws its order, walked along a tree of the orders that may come: reads first, then what makes memory in each order. And more. -/
import Derived.Test.YtojhiiiebnlipaaGreatDoorZTurnParts9
set_option linter.unusedVariables false
set_option maxHeartbeats 4000000
set_option maxRecDepth 100000
namespace Go.Proofs.YtojhiiiebnlipaaGreatDoor
open Go.Value (int slice)
open Go.IntKind (i64)
open Go Go.RowKit
inductive rO where
 |leaf:rO
 |read:Nat->rO->rO
 |one:Nat->rO->rO
 |two:Nat->rO->Nat->rO->rO
 |three:Nat->rO->Nat->rO->Nat->rO->rO
section
variable {P:Program} {ops:Array Oper} {md:Region.Mode} {C:World->Prop} {Q:Exit->Act->World->Prop}
def f_(P:Program)(ops:Array Oper)(C:World->Prop)(K:Act->World->Prop):rO->Act->World->Prop
 | .leaf,a,W=>K a W
 | .read i t,a,W=>∃o v,ops[i]? =some o/\fP P ops C o v a/\f_ P ops C K t (a.put o.dst v) W
 | .one i t,a,W=>∃o,ops[i]? =some o/\dH P ops C o (f_ P ops C K t) a W
 | .two i t j u,a,W=>(∃o,ops[i]? =some o/\dH P ops C o (f_ P ops C K t) a W)/\(∃o,ops[j]? =some o/\dH P ops C o (f_ P ops C K u) a W)
 | .three i t j u k v,a,W=>(∃o,ops[i]? =some o/\dH P ops C o (f_ P ops C K t) a W)/\(∃o,ops[j]? =some o/\dH P ops C o (f_ P ops C K u) a W)/\(∃o,ops[k]? =some o/\dH P ops C o (f_ P ops C K v) a W)
def ug(md:Region.Mode)(ops:Array Oper)(H0:Array Bool):Nat->rO->Array Bool->Bool
 |0,.leaf,listed=>decide (listed=H0)
 |n+1,.read i t,listed=>(Region.ready md ops listed).contains i&&(Region.free md ops listed i&&((waits md ops H0 i||decide (Region.ready md ops (H0.setIfInBounds i false)=[i]))&&ug md ops H0 n t (listed.setIfInBounds i true)))
 |n+1,.one i t,listed=>(Region.ready md ops listed).contains i&&((Region.ready md ops listed).all (λx=>decide (x=i))&&ug md ops H0 n t (listed.setIfInBounds i true))
 |n+1,.two i t j u,listed=>(Region.ready md ops listed).contains i&&((Region.ready md ops listed).contains j&&((Region.ready md ops listed).all (λx=>decide (x=i)||decide (x=j))&&(ug md ops H0 n t (listed.setIfInBounds i true)&&ug md ops H0 n u (listed.setIfInBounds j true))))
 |n+1,.three i t j u k v,listed=>(Region.ready md ops listed).contains i&&((Region.ready md ops listed).contains j&&((Region.ready md ops listed).contains k&&((Region.ready md ops listed).all (λx=>decide (x=i)||(decide (x=j)||decide (x=k)))&&(ug md ops H0 n t (listed.setIfInBounds i true)&&(ug md ops H0 n u (listed.setIfInBounds j true)&&ug md ops H0 n v (listed.setIfInBounds k true))))))
 |_,_,_=>false
theorem dV{K:Act->World->Prop}{H0:Array Bool}(hsel:Region.noSelect ops=true):∀(n:Nat) (t:rO) (listed:Array Bool) (a:Act) (W:World),xB md ops listed->ug md ops H0 n t listed=true->C W->f_ P ops C K t a W->kR P md ops C (λl a W=>l=H0/\K a W) n listed a W
 |0,.leaf,listed,a,W,inv,hB,hC,h=>by
  simp only[ug,decide_eq_true_eq] at hB;exact⟨hB,h⟩
 |n+1,.read i t,listed,a,W,inv,hB,hC,h=>by
  simp only[ug,Bool.and_eq_true,Bool.or_eq_true,decide_eq_true_eq] at hB;obtain⟨hr,hf,hH,hB⟩:=hB;obtain⟨o,v,ho,hy,hk⟩:=h;have hr':i∈Region.ready md ops listed:=by simpa using hr
  exact jy ho (Region.noSelect_spec hsel) hH (λ_ _ _ h=>h.1) n listed a W inv (Region.free_spec ho hf) hr' hy hC (dV hsel n t _ _ _ (inv.set hr') hB hC hk)
 |n+1,.one i t,listed,a,W,inv,hB,hC,h=>by
  simp only[ug,Bool.and_eq_true] at hB;obtain⟨hr,hall,hB⟩:=hB;have hr':i∈Region.ready md ops listed:=by simpa using hr
  obtain⟨o,ho,hs⟩:=h;refine⟨λh=>(by rw[h] at hr';cases hr'),λx hx=>?_⟩;have hx':=List.all_eq_true.1 hall x hx;simp only[decide_eq_true_eq] at hx';subst hx';exact⟨o,ho,hs.mono λa' W' hC' hk=>dV hsel n t _ _ _ (inv.set hr') hB hC' hk⟩
 |n+1,.two i t j u,listed,a,W,inv,hB,hC,h=>by
  simp only[ug,Bool.and_eq_true] at hB;obtain⟨hi,hj,hall,hB1,hB2⟩:=hB;have hi':i∈Region.ready md ops listed:=by simpa using hi
  have hj':j∈Region.ready md ops listed:=by simpa using hj
  obtain⟨⟨o,ho,hs⟩,⟨o2,ho2,hs2⟩⟩:=h;refine⟨λh=>(by rw[h] at hi';cases hi'),λx hx=>?_⟩;have hx':=List.all_eq_true.1 hall x hx;simp only[Bool.or_eq_true,decide_eq_true_eq] at hx';rcases hx' with e|e
  ·subst e;exact⟨o,ho,hs.mono λa' W' hC' hk=>dV hsel n t _ _ _ (inv.set hi') hB1 hC' hk⟩
  ·subst e;exact⟨o2,ho2,hs2.mono λa' W' hC' hk=>dV hsel n u _ _ _ (inv.set hj') hB2 hC' hk⟩
 |n+1,.three i t j u k v,listed,a,W,inv,hB,hC,h=>by
  simp only[ug,Bool.and_eq_true] at hB;obtain⟨hi,hj,hk,hall,hB1,hB2,hB3⟩:=hB;have hi':i∈Region.ready md ops listed:=by simpa using hi
  have hj':j∈Region.ready md ops listed:=by simpa using hj
  have hk':k∈Region.ready md ops listed:=by simpa using hk
  obtain⟨⟨o,ho,hs⟩,⟨o2,ho2,hs2⟩,⟨o3,ho3,hs3⟩⟩:=h;refine⟨λh=>(by rw[h] at hi';cases hi'),λx hx=>?_⟩;have hx':=List.all_eq_true.1 hall x hx;simp only[Bool.or_eq_true,decide_eq_true_eq] at hx';rcases hx' with e|e|e
  ·subst e;exact⟨o,ho,hs.mono λa' W' hC' hk=>dV hsel n t _ _ _ (inv.set hi') hB1 hC' hk⟩
  ·subst e;exact⟨o2,ho2,hs2.mono λa' W' hC' hk=>dV hsel n u _ _ _ (inv.set hj') hB2 hC' hk⟩
  ·subst e;exact⟨o3,ho3,hs3.mono λa' W' hC' hk=>dV hsel n v _ _ _ (inv.set hk') hB3 hC' hk⟩
 |0,.read _ _,_,_,_,_,hB,_,_=>by simp[ug] at hB
 |0,.one _ _,_,_,_,_,hB,_,_=>by simp[ug] at hB
 |0,.two _ _ _ _,_,_,_,_,hB,_,_=>by simp[ug] at hB
 |0,.three _ _ _ _ _ _,_,_,_,_,hB,_,_=>by simp[ug] at hB
 |_+1,.leaf,_,_,_,_,hB,_,_=>by simp[ug] at hB
theorem jT{id:Nat}{a:Act}{w:World}(T:rO)(s t:List (Bool×Nat))(C:World->Prop)(hm:P.follows .mixedOrders=true)(hs:Region.noSelect ops=true)(hl:s.length+t.length=ops.size)
 (hB:ug .any ops (iH ops.size s) s.length T (Array.replicate ops.size false)=true)
 (hT:jw .any ops t (iH ops.size s)=true)
 (hC:C {w with drawn:=w.drawn+1}) (h:f_ P ops C (aH P ops (λ_=>True) Q t) T a {w with drawn:=w.drawn+1}):(Code.region id ops true).wp P Q a w:=by
 refine wp_region_any hm ?_;rw[<-hl];refine gI (g:=t.length) (λlisted a W hh=>?_) _ _ _ _ (dV (H0:=iH ops.size s) hs s.length T _ a _ (λj oj _ hj=>by rw[getD_replicate_false] at hj;cases hj) (by rw[hl];exact hB) hC h);obtain⟨rfl,hk⟩:=hh;exact gG _ _ _ _ (eU hs t _ a W hT trivial hk)
theorem aX{K:Act->World->Prop}{i:Nat}{t:rO}{o:Oper}{a:Act}{W:World}(ho:ops[i]? =some o)(v:Value)(hw:Region.wanted o (yielded ops a.tmps)=true)(hr:∀W,C W->(execOp a.eval o).run P W=.ok (.value v) W)(h:f_ P ops C K t (a.put o.dst v) W):f_ P ops C K (.read i t) a W:=
 ⟨o,v,ho,⟨hw,hr⟩,h⟩
theorem dA{K:Act->World->Prop}{i:Nat}{t:rO}{a:Act}{W:World}(h:∃o,ops[i]? =some o/\dH P ops C o (f_ P ops C K t) a W):f_ P ops C K (.one i t) a W:=h
theorem mZ{K:Act->World->Prop}{i j:Nat}{t u:rO}{a:Act}{W:World}(h:∃o,ops[i]? =some o/\dH P ops C o (f_ P ops C K t) a W)(h2:∃o,ops[j]? =some o/\dH P ops C o (f_ P ops C K u) a W):f_ P ops C K (.two i t j u) a W:=⟨h,h2⟩
theorem JH{K:Act->World->Prop}{i j k:Nat}{t u v:rO}{a:Act}{W:World}(h:∃o,ops[i]? =some o/\dH P ops C o (f_ P ops C K t) a W)(h2:∃o,ops[j]? =some o/\dH P ops C o (f_ P ops C K u) a W)(h3:∃o,ops[k]? =some o/\dH P ops C o (f_ P ops C K v) a W):f_ P ops C K (.three i t j u k v) a W:=⟨h,h2,h3⟩
theorem eH{K:Act->World->Prop}{i:Nat}{o:Oper}{a:Act}{W:World}(ho:ops[i]? =some o)(f:FuncId)(args:Array Value)(hw:Region.wanted o (yielded ops a.tmps)=true)(hr:(execOp a.eval o).run P W=.ok (.enter f args) W)
 (hc:Calls P f args W (λe w'=>∃v,e=.returned v/\C w'/\K (a.put o.dst v) w')):∃o,ops[i]? =some o/\dH P ops C o K a W:=
 ⟨o,ho,hw,.inr (.inr ⟨f,args,hr,hc⟩)⟩
theorem dF{K:Act->World->Prop}{i:Nat}{o:Oper}{a:Act}{W:World}(ho:ops[i]? =some o)(v:Value)(W':World)(hw:Region.wanted o (yielded ops a.tmps)=true)(hr:(execOp a.eval o).run P W=.ok (.value v) W')(hC:C W')(h:K (a.put o.dst v) W'):∃o,ops[i]? =some o/\dH P ops C o K a W:=
 ⟨o,ho,hw,.inl ⟨v,W',hr,hC,h⟩⟩
theorem g_{K:Act->World->Prop}{i:Nat}{o:Oper}{a:Act}{W:World}(ho:ops[i]? =some o)(W':World)(hw:Region.wanted o (yielded ops a.tmps)=true)(hr:(execOp a.eval o).run P W=.ok .skip W')(hC:C W')(h:K (a.put o.dst undef) W'):∃o,ops[i]? =some o/\dH P ops C o K a W:=
 ⟨o,ho,hw,.inr (.inl ⟨W',hr,hC,h⟩)⟩
end
end Go.Proofs.YtojhiiiebnlipaaGreatDoor
namespace Go.Proofs.YtojhiiiebnlipaaGreatDoor
open Go.Value (int slice)
open Go.IntKind (i64)
open Go.RowKit Go.Proofs.YtojhiiiebnlipaaGreatDoor.So
theorem QD{ks:List KV}{X:WV}{ls:List (List aV)}{F:Int}{w w':World}{v r:Value}(hs:jS ks X ls F w w' v)(he:Er r F)(h0:r=.nilIface):Wd.aG ks X=0/\ls.length<=200/\∃Y,bT ks X ls ls.length Y/\Wo w' w.heap.size v Y:=by
 rcases hs with⟨hn,-⟩|⟨-,h1,h2,h3⟩
 ·rcases he with⟨h,-⟩|⟨-,h⟩
  ·exact absurd h hn
  ·rw[h] at h0;cases h0
 ·exact⟨h1,h2,h3⟩
theorem mD{ks:List KV}{X:WV}{ls:List (List aV)}{Y:WV}(hw:Wd.aG ks X=0)(hl:ls.length<=200)(h:bT ks X ls ls.length Y){c:Nat}(hc:c<=ls.length){F:Int}{w w':World}{v r:Value}(hs:jS ks X (ls.take c) F w w' v)(he:Er r F):r=.nilIface/\∃A,bT ks X ls c A/\Wo w' w.heap.size v A:=by
 have hlen:(ls.take c).length=c:=by rw[List.length_take];omega
 rcases hs with⟨hn,-,h1|h1|⟨-,-,n,Z,l,p,hl',hf⟩⟩|⟨rfl,h1,h2,A,h3,h4⟩
 ·exact absurd hw h1.1
 ·have:=h1.2.1;rw[hlen] at this;omega
 ·exact absurd ((vX h hc p hl').symm.trans hf).symm hn
 ·refine⟨lX he,A,?_,h4⟩
  rw[hlen] at h3;exact rJ h3 (λi hi=>by rw[List.getElem?_take,if_pos hi])
theorem Ap{ks:List KV}{X A:WV}{ls:List (List aV)}{Y:WV}(hw:Wd.aG ks X=0)(hl:ls.length<=200)(h:bT ks X ls ls.length Y){c:Nat}(hc:c<=ls.length)(ha:bT ks X ls c A){F:Int}{w w':World}{v r:Value}(hs:jS ks A (ls.drop c) F w w' v)(he:Er r F):r=.nilIface/\Wo w' w.heap.size v Y:=by
 have hlen:(ls.drop c).length=ls.length-c:=by rw[List.length_drop]
 rcases hs with⟨hn,-,h1|h1|⟨-,-,n,Z,l,p,hl',hf⟩⟩|⟨rfl,h1,h2,B,h3,h4⟩
 ·exact absurd (kX hw ha).1 h1.1
 ·have:=h1.2.1;rw[hlen] at this;omega
 ·exact absurd ((yQ h hc ha p hl').symm.trans hf).symm hn
 ·refine⟨lX he,?_⟩
  rw[hlen] at h3;have:=rM ha h3;rw[show c+(ls.length-c)=ls.length by omega] at this;rw[jo h this];exact h4
theorem Aq{ks:List KV}{X:WV}{ls:List (List aV)}{Y:WV}(h:bT ks X ls ls.length Y){l:List aV}(hl:ls[0]? =some l){w w':World}{v ev r:Value}(hs:vW ks X l w w' v ev)(he:Er r (bH ks X l)):r=.nilIface/\∃A,bT ks X ls 1 A/\Wo w' w.heap.size v A:=by
 have h0:0<ls.length:=(List.getElem?_eq_some_iff.1 hl).1;obtain⟨Z,z1,z2⟩:=mX h 0 (by omega);cases z1;obtain⟨l',e,f⟩:=z2 h0;rw[hl] at e;injection e with e
 subst e;rcases hs with⟨hn,-⟩|⟨-,A,es,h1,h2,-⟩
 ·exact absurd f hn
 ·rw[f] at he
  exact⟨lX he,A,.turn .zero hl f h1,h2⟩
theorem JJ:Wd.aG SK S3=0:=by decide+kernel
theorem iV{F:Int}{w w':World}{v r:Value}(hs:jS SK S3 [[],[]] F w w' v)(he:Er r F):r=.nilIface/\∃A,A.turn=2/\Wo w' w.heap.size v A:=by
 rcases hs with⟨hn,-,h1|h1|⟨-,-,n,Z,l,p,hl',hf⟩⟩|⟨rfl,h1,h2,B,h3,h4⟩
 ·exact absurd JJ h1.1
 ·have:=h1.2.1;simp at this
 ·obtain⟨q1,q2⟩:=kX JJ p
  have hn2:n<2:=(List.getElem?_eq_some_iff.1 hl').1;have hl0:l=[]:=by
   match n,hn2,hl' with
   |0,_,h=>simp at h;exact h
   |1,_,h=>simp at h;exact h
  subst hl0;have ht:S3.turn=0:=rfl;rw[ht] at q2;exact absurd ((yP q1 (by omega)).symm.trans hf).symm hn
 ·refine⟨lX he,B,?_,h4⟩
  obtain⟨-,q2⟩:=kX JJ h3;have ht:S3.turn=0:=rfl;rw[ht] at q2;rw[q2];rfl
theorem mF(w:World):mW (w.alloc (Obj.cells #[slice none 0 0,slice none 0 0] 30)) (slice (some ⟨w.heap.size,0,none⟩) 2 2) [[],[]]:=by
 have hn:=heap_alloc_new w (Obj.cells #[slice none 0 0,slice none 0 0] 30);have ol:∀W,wQ W (slice none 0 0) []:=λW=>⟨none,0,rfl,Nat.le_refl _,by omega,λh=>absurd rfl h⟩
 refine⟨_,_,rfl,by decide,by decide,λ_=>⟨⟨w.heap.size,0,none⟩,rfl,by simp,λi l hl=>?_⟩⟩
 match i,hl with
 |0,hl=>simp at hl;subst hl;exact⟨_,by simp only[World.cell?,Addr.add_lit,hn];rfl,ol _⟩
 |1,hl=>simp at hl;subst hl;exact⟨_,by simp only[World.cell?,Addr.add_lit,hn];rfl,ol _⟩
 |i+2,hl=>simp at hl
end Go.Proofs.YtojhiiiebnlipaaGreatDoor
namespace Go.Proofs.YtojhiiiebnlipaaGreatDoor
open Go.Value (int slice)
open Go.IntKind (i64)
open Go.RowKit
theorem qw(u v:Value)(xs ys:List Int)(w:World)(hu:Ro w u xs)(hv:Ro w v ys):
 Calls Tryz.prog 15 #[u,v] w λe w'=>e=.returned (.bool (decide (xs=ys)))/\∃n,w'=w.drewN n:=by
 obtain⟨a,c,rfl,hc1,hc2,ha⟩:=hu;obtain⟨b,d,rfl,hd1,hd2,hb⟩:=hv;have Ha:Hid (Cells w a xs):=ha;have Hb:Hid (Cells w b ys):=hb;clear ha hb;by_cases hl:xs.length=ys.length
 ·have Hl:Hid (xs.length=ys.length):=hl
  rw[<-hl] at hd1 ⊢;clear hl;go_enter Tryz.func15,Tryz.ntmps15;go_wp2_with fail
  go_loopw [5] (λi W=>∃(k q:Nat),k<=xs.length/\i=int i64 (k:Nat)/\xs.take k=ys.take k/\W=w.drewN q) (λi _=>xs.length-(intOf i).toNat)
  case atStart=>exact⟨0,0,Nat.zero_le _,rfl,by simp,rfl⟩
  case round=>
   obtain⟨k,q,hk,rfl,ht,rfl⟩:=hrel;have Ht:Hid (xs.take k=ys.take k):=ht;clear ht;by_cases h0:k=xs.length
   ·subst h0
    go_wp2;go_ret;refine⟨?_,q,rfl⟩;have e:=Ht.out;rw[List.take_of_length_le (Nat.le_refl _),Hl.out,List.take_of_length_le (Nat.le_refl _)] at e;simp[e]
   ·have hkx:k<xs.length:=by omega
    have hky:k<ys.length:=by rw[<-Hl.out];exact hkx
    obtain⟨x,rfl,-,hx⟩:=Ha.out (by intro h;rw[h] at hkx;simp at hkx);obtain⟨y,rfl,-,hy⟩:=Hb.out (by intro h;rw[h] at hky;simp at hky);have cx:=hx k xs[k] (List.getElem?_eq_getElem hkx);have cy:=hy k ys[k] (List.getElem?_eq_getElem hky);have Te:Hid (xs.take (k+1)=ys.take (k+1)↔xs[k]=ys[k]):=by
     unfold Hid;rw[List.take_succ_eq_append_getElem hkx,List.take_succ_eq_append_getElem hky,Ht.out];exact⟨λh=>(List.cons.inj (List.append_cancel_left h)).1,λh=>by rw[h]⟩
    generalize xs[k]=p at *;generalize ys[k]=r at *;clear hx hy;by_cases hpr:p=r
    ·subst hpr
     go_wp2;go_quiet (fail);go_wp2;go_round
     case rel=>exact⟨k+1,q+nq,by omega,by go_num,by first|exact Te.out.2 rfl|exact Te.out.2 trivial,rfl⟩
     case measure=>simp[intOf];omega
    ·go_wp2
     go_quiet (fail);go_wp2;go_ret;refine⟨?_,q+nq,by rw[World.drewN_drewN]⟩;have:xs≠ys:=λh=>hpr (Te.out.1 (by rw[h]))
     simp[this]
 ·go_enter Tryz.func15,Tryz.ntmps15
  go_wp2;go_ret;refine⟨?_,0,rfl⟩;have:xs≠ys:=λh=>hl (by rw[h])
  simp[this]
theorem yU(u v:Value)(W H:Int)(gs os:List Int)(w:World)(hu:Fl w u W H gs os)(hv:Fl w v W H gs os):
 Calls Tryz.prog 46 #[u,v] w λe w'=>e=.returned (.bool true)/\Below w.heap.size w w':=by
 obtain⟨a1,a2,rfl,ha1,ha2⟩:=hu;obtain⟨b1,b2,rfl,hb1,hb2⟩:=hv;have A1:Hid (Ro w a1 gs):=ha1;have A2:Hid (Ro w a2 os):=ha2;have B1:Hid (Ro w b1 gs):=hb1;have B2:Hid (Ro w b2 os):=hb2;clear ha1 ha2 hb1 hb2;go_enter Tryz.func46,Tryz.ntmps46;go_wp2_with fail
 have K0:Below w.heap.size w ((w.alloc (Obj.cells #[int i64 W,int i64 H,a1,a2] 25)).alloc (Obj.cells #[int i64 W,int i64 H,b1,b2] 25)):=((Below.refl _ _).alloc (Nat.le_refl _) _).alloc (by simp) _;have X0:=(Bf.mk' (w:=w) W H a1 a2 rfl).below ((Below.refl _ _).alloc (Nat.le_refl _) (Obj.cells #[int i64 W,int i64 H,b1,b2] 25)) (by simp);have Y0:=Bf.mk' (w:=w.alloc (Obj.cells #[int i64 W,int i64 H,a1,a2] 25)) (z:=w.heap.size+1) W H b1 b2 (by simp);generalize (w.alloc (Obj.cells #[int i64 W,int i64 H,a1,a2] 25)).alloc (Obj.cells #[int i64 W,int i64 H,b1,b2] 25)=w0 at *;refine(qw _ _ gs gs _ (A1.out.below K0) (B1.out.below K0)).mono ?_;rintro e w1 ⟨rfl,q1,hq1⟩;rw[decide_eq_true rfl];have k1:Below w0.heap.size w0 w1:=by rw[hq1];exact _root_.Go.below_drewN (Below.refl _ _) _
 have K1:Below w.heap.size w w1:=K0.trans (k1.mono K0.size);have X1:Hid (Bf w1 w.heap.size W H a1 a2):=X0.below k1 X0.lt;have Y1:Hid (Bf w1 (w.heap.size+1) W H b1 b2):=Y0.below k1 Y0.lt;clear hq1 k1 X0 Y0 K0;obtain⟨x0,x1,x2,x3⟩:=X1.out;obtain⟨y0,y1,y2,y3⟩:=Y1.out;have K1':Hid (Below w.heap.size w w1):=K1;clear K1;go_wp2_with fail
 refine(qw _ _ os os _ (A2.out.below K1'.out) (B2.out.below K1'.out)).mono ?_;rintro e w2 ⟨rfl,q2,hq2⟩;rw[decide_eq_true rfl];have k2:Below w1.heap.size w1 w2:=by rw[hq2];exact _root_.Go.below_drewN (Below.refl _ _) _
 have K2:Hid (Below w.heap.size w w2):=K1'.out.trans (k2.mono K1'.out.size);have X2:Hid (Bf w2 w.heap.size W H a1 a2):=X1.out.below k2 X1.out.lt;have Y2:Hid (Bf w2 (w.heap.size+1) W H b1 b2):=Y1.out.below k2 Y1.out.lt;clear hq2 k2 x0 x1 x2 x3 y0 y1 y2 y3 X1 Y1 K1';obtain⟨x0,x1,x2,x3⟩:=X2.out;obtain⟨y0,y1,y2,y3⟩:=Y2.out;go_wp2;go_ret;exact⟨rfl,K2⟩
theorem Eh(u v:Value)(xs:List Int)(w:World)(hu:Ro w u xs)(hv:Ro w v xs):
 Calls Tryz.prog 15 #[u,v] w λe w'=>e=.returned (.bool true)/\Below w.heap.size w w':=
 (qw u v xs xs w hu hv).mono λe w' ⟨h1,q,h2⟩=>⟨by rw[h1,decide_eq_true rfl],by rw[h2];exact _root_.Go.below_drewN (Below.refl _ _) _⟩
theorem nI(u v:Value)(W:WV)(w:World)(hu:Wl w u W)(hv:Wl w v W):
 Calls Tryz.prog 14 #[u,v] w λe w'=>e=.returned (.bool true)/\Below w.heap.size w w':=by
 obtain⟨u1,u2,u3,u4,u5,rfl,g1,g2,g3,g4,g5⟩:=hu;obtain⟨v1,v2,v3,v4,v5,rfl,k1,k2,k3,k4,k5⟩:=hv;obtain⟨a4,c4,rfl,gl4,gc4,ga4⟩:=g4;obtain⟨b4,d4,rfl,kl4,kc4,ka4⟩:=k4;obtain⟨a5,c5,rfl,gl5,gc5,ga5⟩:=g5;obtain⟨b5,d5,rfl,kl5,kc5,ka5⟩:=k5;have R:Hid (Ro w u1 W.gs/\Ro w u2 W.os/\Ro w u3 W.gold/\Ro w v1 W.gs/\Ro w v2 W.os/\Ro w v3 W.gold):=⟨g1,g2,g3,k1,k2,k3⟩;have GU:Hid (W.us≠[]->∃x,a4=some x/\x.block<w.heap.size/\∀(i:Nat) k,W.us[i]? =some k->dO w (x.add (i*8)) k):=ga4;have KU:Hid (W.us≠[]->∃x,b4=some x/\x.block<w.heap.size/\∀(i:Nat) k,W.us[i]? =some k->dO w (x.add (i*8)) k):=ka4;have GJ:Hid (W.qs≠[]->∃x,a5=some x/\x.block<w.heap.size/\∀(i:Nat) k,W.qs[i]? =some k->jU w (x.add (i*4)) k):=ga5;have KJ:Hid (W.qs≠[]->∃x,b5=some x/\x.block<w.heap.size/\∀(i:Nat) k,W.qs[i]? =some k->jU w (x.add (i*4)) k):=ka5;have zq:W.us.length<=9223372036854775807:=by omega
 have uj:W.qs.length<=9223372036854775807:=by omega
 clear g1 g2 g3 k1 k2 k3 ga4 ka4 ga5 ka5 gl4 gc4 kl4 kc4 gl5 gc5 kl5 kc5;go_enter Tryz.func14,Tryz.ntmps14;go_wp2_with fail
 have K0:Below w.heap.size w ((w.alloc (Obj.cells #[int i64 W.turn,int i64 W.next,int i64 W.wide,int i64 W.high,u1,u2,u3,slice a4 W.us.length c4,slice a5 W.qs.length c5] 29)).alloc (Obj.cells #[int i64 W.turn,int i64 W.next,int i64 W.wide,int i64 W.high,v1,v2,v3,slice b4 W.us.length d4,slice b5 W.qs.length d5] 29)):=((Below.refl _ _).alloc (Nat.le_refl _) _).alloc (by simp) _;have X0:=(Bw.mk' (w:=w) W u1 u2 u3 (slice a4 W.us.length c4) (slice a5 W.qs.length c5) rfl).below ((Below.refl _ _).alloc (Nat.le_refl _) (Obj.cells #[int i64 W.turn,int i64 W.next,int i64 W.wide,int i64 W.high,v1,v2,v3,slice b4 W.us.length d4,slice b5 W.qs.length d5] 29)) (by simp);have Y0:=Bw.mk' (w:=w.alloc (Obj.cells #[int i64 W.turn,int i64 W.next,int i64 W.wide,int i64 W.high,u1,u2,u3,slice a4 W.us.length c4,slice a5 W.qs.length c5] 29)) (z:=w.heap.size+1) W v1 v2 v3 (slice b4 W.us.length d4) (slice b5 W.qs.length d5) (by simp);generalize ((w.alloc (Obj.cells #[int i64 W.turn,int i64 W.next,int i64 W.wide,int i64 W.high,u1,u2,u3,slice a4 W.us.length c4,slice a5 W.qs.length c5] 29)).alloc (Obj.cells #[int i64 W.turn,int i64 W.next,int i64 W.wide,int i64 W.high,v1,v2,v3,slice b4 W.us.length d4,slice b5 W.qs.length d5] 29))=w0 at *;refine(yU _ _ W.wide W.high W.gs W.os w0 ⟨_,_,rfl,R.out.1.below K0,R.out.2.1.below K0⟩ ⟨_,_,rfl,R.out.2.2.2.1.below K0,R.out.2.2.2.2.1.below K0⟩).mono ?_;rintro e w1 ⟨rfl,hb1⟩;have K1:Hid (Below w.heap.size w w1):=K0.trans (hb1.mono K0.size);have X1:Hid (Bw w1 w.heap.size W u1 u2 u3 (slice a4 W.us.length c4) (slice a5 W.qs.length c5)):=X0.below hb1 X0.lt;have Y1:Hid (Bw w1 (w.heap.size+1) W v1 v2 v3 (slice b4 W.us.length d4) (slice b5 W.qs.length d5)):=Y0.below hb1 Y0.lt;clear K0 X0 Y0 hb1;obtain⟨x0,x1,x2,x3,x4,x5,x6,x7,x8⟩:=X1.out;obtain⟨y0,y1,y2,y3,y4,y5,y6,y7,y8⟩:=Y1.out;go_wp2_with fail
 refine(Eh _ _ W.gold w1 (R.out.2.2.1.below K1.out) (R.out.2.2.2.2.2.below K1.out)).mono ?_;rintro e w2 ⟨rfl,hb2⟩;have K2':Hid (Below w.heap.size w w2):=K1.out.trans (hb2.mono K1.out.size);have X2:Hid (Bw w2 w.heap.size W u1 u2 u3 (slice a4 W.us.length c4) (slice a5 W.qs.length c5)):=X1.out.below hb2 X1.out.lt;have Y2:Hid (Bw w2 (w.heap.size+1) W v1 v2 v3 (slice b4 W.us.length d4) (slice b5 W.qs.length d5)):=Y1.out.below hb2 Y1.out.lt;clear hb2 x0 x1 x2 x3 x4 x5 x6 x7 x8 y0 y1 y2 y3 y4 y5 y6 y7 y8 X1 Y1 K1;obtain⟨x0,x1,x2,x3,x4,x5,x6,x7,x8⟩:=X2.out;obtain⟨y0,y1,y2,y3,y4,y5,y6,y7,y8⟩:=Y2.out;go_wp2;clear x0 x1 x2 x3 x4 x5 x6 x7 x8 y0 y1 y2 y3 y4 y5 y6 y7 y8;go_loopw [7] (λi W'=>∃k:Nat,k<=W.us.length/\i=int i64 (k:Nat)/\Bw W' w.heap.size W u1 u2 u3 (slice a4 W.us.length c4) (slice a5 W.qs.length c5)/\Bw W' (w.heap.size+1) W v1 v2 v3 (slice b4 W.us.length d4) (slice b5 W.qs.length d5)/\Below w.heap.size w W') (λi _=>W.us.length-(intOf i).toNat)
 case atStart=>exact⟨0,Nat.zero_le _,rfl,X2.out,Y2.out,K2'.out⟩
 case round=>
  obtain⟨k,hk,rfl,hX,hY,hB⟩:=hrel;have XB:Hid (Bw wr w.heap.size W u1 u2 u3 (slice a4 W.us.length c4) (slice a5 W.qs.length c5)):=hX;have YB:Hid (Bw wr (w.heap.size+1) W v1 v2 v3 (slice b4 W.us.length d4) (slice b5 W.qs.length d5)):=hY;have B:Hid (Below w.heap.size w wr):=hB;clear hX hY hB X2 Y2 K2';by_cases h0:k=W.us.length
  ·subst h0
   have x7:=XB.out.c7;clear hk;go_wp2;clear x7;go_loopw [8] (λi W'=>∃k:Nat,k<=W.qs.length/\i=int i64 (k:Nat)/\Bw W' w.heap.size W u1 u2 u3 (slice a4 W.us.length c4) (slice a5 W.qs.length c5)/\Bw W' (w.heap.size+1) W v1 v2 v3 (slice b4 W.us.length d4) (slice b5 W.qs.length d5)/\Below w.heap.size w W') (λi _=>W.qs.length-(intOf i).toNat)
   case atStart=>exact⟨0,Nat.zero_le _,rfl,XB.out,YB.out,B.out⟩
   case round=>
    obtain⟨k,hk,rfl,hX,hY,hB⟩:=hrel;have XB:Hid (Bw wr w.heap.size W u1 u2 u3 (slice a4 W.us.length c4) (slice a5 W.qs.length c5)):=hX;have YB:Hid (Bw wr (w.heap.size+1) W v1 v2 v3 (slice b4 W.us.length d4) (slice b5 W.qs.length d5)):=hY;have B:Hid (Below w.heap.size w wr):=hB;clear hX hY hB;by_cases h0:k=W.qs.length
    ·subst h0
     have x8:=XB.out.c8;clear hk;go_wp2;go_ret;exact⟨rfl,B.out⟩
    ·have hlt:k<W.qs.length:=by omega
     have VP:((k:Nat):Int)<(W.qs.length:Nat):=by omega
     obtain⟨o,ho⟩:∃o,W.qs[k]? =some o:=⟨_,List.getElem?_eq_getElem hlt⟩;have hne:W.qs≠[]:=by intro e;rw[e] at hlt;simp at hlt
     obtain⟨x,rfl,hx,hxc⟩:=GJ.out hne;obtain⟨y,rfl,hy,TD⟩:=KJ.out hne;obtain⟨q0,q1,q2,q3⟩:=(hxc k o ho).below B.out (by rw[add_block];exact hx);obtain⟨r0,r1,r2,r3⟩:=(TD k o ho).below B.out (by rw[add_block];exact hy);have x8:=XB.out.c8;have y8:=YB.out.c8;clear hxc TD hne ho hx hy;go_wp2;go_quiet (fail);go_wp2;go_round
     case rel=>exact⟨k+1,by omega,by go_num,XB.out.below (_root_.Go.below_drewN (Below.refl _ _) _) XB.out.lt,YB.out.below (_root_.Go.below_drewN (Below.refl _ _) _) YB.out.lt,_root_.Go.below_drewN B.out _⟩
     case measure=>simp[intOf];omega
  ·have hlt:k<W.us.length:=by omega
   have VP:((k:Nat):Int)<(W.us.length:Nat):=by omega
   obtain⟨o,ho⟩:∃o,W.us[k]? =some o:=⟨_,List.getElem?_eq_getElem hlt⟩;have hne:W.us≠[]:=by intro e;rw[e] at hlt;simp at hlt
   obtain⟨x,rfl,hx,hxc⟩:=GU.out hne;obtain⟨y,rfl,hy,TD⟩:=KU.out hne;obtain⟨q0,q1,q2,q3,q4,q5,q6,q7⟩:=(hxc k o ho).below B.out (by rw[add_block];exact hx);obtain⟨r0,r1,r2,r3,r4,r5,r6,r7⟩:=(TD k o ho).below B.out (by rw[add_block];exact hy);have x7:=XB.out.c7;have y7:=YB.out.c7;clear hxc TD hne ho hx hy;go_wp2;go_quiet (fail);go_wp2;go_round
   case rel=>exact⟨k+1,by omega,by go_num,XB.out.below (_root_.Go.below_drewN (Below.refl _ _) _) XB.out.lt,YB.out.below (_root_.Go.below_drewN (Below.refl _ _) _) YB.out.lt,_root_.Go.below_drewN B.out _⟩
   case measure=>simp[intOf];omega
open Go.ChangeAt Go.ChangeShapes Go.WideShapes
theorem JK{H:Type}:∀d:DataW H,1<=Rows.uptoBulk d
 | .lit (.string bytes)=>by simp[Rows.uptoBulk]
 | .lit (.int _ _)=>by simp[Rows.uptoBulk]
 | .lit (.bool _)=>by simp[Rows.uptoBulk]
 | .lit (.float .f32 _)=>by simp[Rows.uptoBulk]
 | .lit (.float .f64 _)=>by simp[Rows.uptoBulk]
 | .lit .nil=>by simp[Rows.uptoBulk]
 | .nil=>by simp[Rows.uptoBulk]
 | .ptr d=>by simp[Rows.uptoBulk]
 | .slice _ _=>by simp[Rows.uptoBulk]
 | .agg _=>by simp[Rows.uptoBulk]
 | .iface _ _=>by simp[Rows.uptoBulk]
 | .map _=>by simp[Rows.uptoBulk]
 | .held _=>by simp[Rows.uptoBulk]
theorem wB{H:Type}:∀ds:List (DataW H),ds.length<=Rows.uptoBulkAll ds
 |[]=>by simp
 |d::ds=>by
  have h1:=JK d;have h2:=wB ds;simp only[Rows.uptoBulkAll,List.length_cons];omega
theorem kY{H:Type}(es sp:List (DataW H)):es.length<=Rows.uptoBulk (.slice es sp):=by
 have:=wB es;simp only[Rows.uptoBulk];omega
theorem in64_of_wf{n:Int}(h:(Lit.int i64 n).wf=true):Wd.In64 n:=by
 unfold Wd.In64;simp only[Lit.wf,Bool.and_eq_true,decide_eq_true_eq] at h;have h1:IntKind.i64.min= -9223372036854775808:=by decide
 have h2:IntKind.i64.max=9223372036854775807:=by decide
 omega
theorem kZ{H:Type}{enc:TypeId×Value->H}{W:World}{base:Nat}{held:Bool}{fuel:Nat}{v:Value}{y:DataW H×List MemPlace}(h:DataW.trod enc Tryz.prog W base (λ_=>true) held fuel 23 [v]=some y):
 ∃zs,Ro W v zs/\(∀n∈zs,Wd.In64 n)/\zs.length<=Rows.uptoBulk y.1:=by
 rcases open_ints Tryz.underlying23 Tryz.underlying3 (by kernel_rfl) h with⟨hcs,rfl⟩|⟨x,l,c,zs,hcs,_,hl,hm,hz,rfl,hcell,hwz⟩
 ·simp at hcs
  subst hcs;exact⟨_,zk.ro (.inl ⟨rfl,rfl,rfl,rfl⟩),by simp,by simp⟩
 ·simp at hcs
  subst hcs;refine⟨_,zk.ro (zs:=zs) (.inr ⟨_,rfl,hl,hm,by simpa using hz,hcell,hwz⟩),λn hn=>in64_of_wf (hwz n (List.mem_of_mem_take hn)),?_⟩;have:=kY (H:=H) (lits .i64 (zs.take l)) (lits .i64 (zs.drop l));simpa[lits] using this
theorem NI:∃f0 f1 f2 f3 f4 f5 f6 f7:Field,Tryz.prog.underlying 60=some (.struct #[f0,f1,f2,f3,f4,f5,f6,f7])/\f0.offset=0/\f0.type=3/\f1.offset=1/\f1.type=3/\f2.offset=2/\f2.type=3/\f3.offset=3/\f3.type=3/\f4.offset=4/\f4.type=3/\f5.offset=5/\f5.type=3/\f6.offset=6/\f6.type=3/\f7.offset=7/\f7.type=3:=⟨_,_,_,_,_,_,_,_,Tryz.underlying60,rfl,rfl,rfl,rfl,rfl,rfl,rfl,rfl,rfl,rfl,rfl,rfl,rfl,rfl,rfl,rfl⟩
theorem Ei{H:Type}{enc:TypeId×Value->H}{W:World}{base:Nat}{held:Bool}{fuel:Nat}{cs:List Value}{y:DataW H×List MemPlace}(h:DataW.trod enc Tryz.prog W base (λ_=>true) held fuel 60 cs=some y):
 ∃k:aB,cs=[int i64 k.id,int i64 k.ay,int i64 k.kind,int i64 k.at_,int i64 k.life,int i64 k.load,int i64 k.task,int i64 k.goal]/\∀n∈Wd.uq k,Wd.In64 n:=by
 obtain⟨f0,f1,f2,f3,f4,f5,f6,f7,he,o0,t0,o1,t1,o2,t2,o3,t3,o4,t4,o5,t5,o6,t6,o7,t7⟩:=NI;obtain⟨xs,m,-,-,hlen,hxl,hf⟩:=DataW.trod_struct he h;have qo:Tryz.prog.cellsOf 3=1:=by kernel_rfl
 have tX:Tryz.prog.cellsOf 60=8:=by kernel_rfl
 rw[tX] at hlen
 match cs,hlen with
 |[v0,v1,v2,v3,v4,v5,v6,v7],_=>
  have hx:xs.length=8:=hxl
  match xs,hx with
  |[x0,x1,x2,x3,x4,x5,x6,x7],_=>
   have g0:=hf 0 f0 rfl;rw[o0,t0,qo] at g0;have g1:=hf 1 f1 rfl;rw[o1,t1,qo] at g1;have g2:=hf 2 f2 rfl;rw[o2,t2,qo] at g2;have g3:=hf 3 f3 rfl;rw[o3,t3,qo] at g3;have g4:=hf 4 f4 rfl;rw[o4,t4,qo] at g4;have g5:=hf 5 f5 rfl;rw[o5,t5,qo] at g5;have g6:=hf 6 f6 rfl;rw[o6,t6,qo] at g6;have g7:=hf 7 f7 rfl;rw[o7,t7,qo] at g7;obtain⟨m0,e0,-,w0⟩:=DataW.trod_int Tryz.underlying3 g0;obtain⟨m1,e1,-,w1⟩:=DataW.trod_int Tryz.underlying3 g1;obtain⟨m2,e2,-,w2⟩:=DataW.trod_int Tryz.underlying3 g2;obtain⟨m3,e3,-,w3⟩:=DataW.trod_int Tryz.underlying3 g3;obtain⟨m4,e4,-,w4⟩:=DataW.trod_int Tryz.underlying3 g4;obtain⟨m5,e5,-,w5⟩:=DataW.trod_int Tryz.underlying3 g5;obtain⟨m6,e6,-,w6⟩:=DataW.trod_int Tryz.underlying3 g6;obtain⟨m7,e7,-,w7⟩:=DataW.trod_int Tryz.underlying3 g7;simp at e0 e1 e2 e3 e4 e5 e6 e7;subst e0 e1 e2 e3 e4 e5 e6 e7;refine⟨⟨m0,m1,m2,m3,m4,m5,m6,m7⟩,rfl,?_⟩;intro n hn;simp only[Wd.uq,List.mem_cons,List.not_mem_nil,or_false] at hn;rcases hn with rfl|rfl|rfl|rfl|rfl|rfl|rfl|rfl
   ·exact in64_of_wf w0
   ·exact in64_of_wf w1
   ·exact in64_of_wf w2
   ·exact in64_of_wf w3
   ·exact in64_of_wf w4
   ·exact in64_of_wf w5
   ·exact in64_of_wf w6
   ·exact in64_of_wf w7
theorem yV{H:Type}{enc:TypeId×Value->H}{W:World}{base:Nat}{held:Bool}{fuel:Nat}{v:Value}{y:DataW H×List MemPlace}(h:DataW.trod enc Tryz.prog W base (λ_=>true) held fuel 26 [v]=some y):
 ∃ks:List aB,jI W v ks/\(∀k∈ks,∀n∈Wd.uq k,Wd.In64 n)/\ks.length<=Rows.uptoBulk y.1:=by
 have tX:Tryz.prog.cellsOf 60=8:=by kernel_rfl
 rcases Go.Deep.open_slice Tryz.underlying26 h with⟨hcs,-⟩|⟨a,len,cap,m,q,D,Pl,hcs,hb,hl,hm,hmm,rfl,hx⟩
 ·simp at hcs
  subst hcs;exact⟨[],⟨none,0,rfl,Nat.le_refl _,by omega,λh=>absurd rfl h⟩,by simp,by simp⟩
 ·simp at hcs
  subst hcs;have hlm:len<=m:=by rw[hmm];simp;exact hl
  have each:∀i,i<len->∃k:aB,dO W (a.add (i*8)) k/\(∀n∈Wd.uq k,Wd.In64 n):=by
   intro i hi;obtain⟨cs',h1,h2⟩:=hx i (by omega);obtain⟨k,rfl,hk⟩:=Ei h2;rw[tX] at h1;obtain⟨-,-,hcell⟩:=World.cells?_some h1;refine⟨k,?_,hk⟩;generalize a.add (i*8)=y at *;exact⟨hcell 0 (by decide),hcell 1 (by decide),hcell 2 (by decide),hcell 3 (by decide),hcell 4 (by decide),hcell 5 (by decide),hcell 6 (by decide),hcell 7 (by decide)⟩
  have inh:Inhabited aB:=⟨⟨0,0,0,0,0,0,0,0⟩⟩;obtain⟨q,hq⟩:=Go.Deep.choose_lt each;refine⟨(List.range len).map q,⟨some a,cap,by simp,by simpa using hl,by unfold maxLen at hm;omega,λhn=>⟨a,rfl,?_,λi k hk=>?_⟩⟩,?_,?_⟩
  ·have h0:0<len:=by
    rcases Nat.eq_zero_or_pos len with h|h
    ·subst h;simp at hn
    ·exact h
   have:=(hq 0 h0).1.lt;rwa[add_block] at this
  ·have hi:i<len:=by
    have:=(List.getElem?_eq_some_iff.1 hk).1;simpa using this
   rw[List.getElem?_map,List.getElem?_range hi] at hk;injection hk with hk
   subst hk;exact(hq i hi).1
  ·intro k hk
   obtain⟨i,hi,rfl⟩:=List.mem_map.1 hk;exact(hq i (List.mem_range.1 hi)).2
  ·have:=kY ((List.range len).map D) ((List.range (m-len)).map λj=>D (len+j))
   simpa using this
theorem NJ:∃f0 f1 f2 f3:Field,Tryz.prog.underlying 87=some (.struct #[f0,f1,f2,f3])/\f0.offset=0/\f0.type=3/\f1.offset=1/\f1.type=3/\f2.offset=2/\f2.type=3/\f3.offset=3/\f3.type=3:=⟨_,_,_,_,Tryz.underlying87,rfl,rfl,rfl,rfl,rfl,rfl,rfl,rfl⟩
theorem Ej{H:Type}{enc:TypeId×Value->H}{W:World}{base:Nat}{held:Bool}{fuel:Nat}{cs:List Value}{y:DataW H×List MemPlace}(h:DataW.trod enc Tryz.prog W base (λ_=>true) held fuel 87 cs=some y):
 ∃k:aW,cs=[int i64 k.ay,int i64 k.unit,int i64 k.kind,int i64 k.left]/\∀n∈Wd.uw k,Wd.In64 n:=by
 obtain⟨f0,f1,f2,f3,he,o0,t0,o1,t1,o2,t2,o3,t3⟩:=NJ;obtain⟨xs,m,-,-,hlen,hxl,hf⟩:=DataW.trod_struct he h;have qo:Tryz.prog.cellsOf 3=1:=by kernel_rfl
 have tX:Tryz.prog.cellsOf 87=4:=by kernel_rfl
 rw[tX] at hlen
 match cs,hlen with
 |[v0,v1,v2,v3],_=>
  have hx:xs.length=4:=hxl
  match xs,hx with
  |[x0,x1,x2,x3],_=>
   have g0:=hf 0 f0 rfl;rw[o0,t0,qo] at g0;have g1:=hf 1 f1 rfl;rw[o1,t1,qo] at g1;have g2:=hf 2 f2 rfl;rw[o2,t2,qo] at g2;have g3:=hf 3 f3 rfl;rw[o3,t3,qo] at g3;obtain⟨m0,e0,-,w0⟩:=DataW.trod_int Tryz.underlying3 g0;obtain⟨m1,e1,-,w1⟩:=DataW.trod_int Tryz.underlying3 g1;obtain⟨m2,e2,-,w2⟩:=DataW.trod_int Tryz.underlying3 g2;obtain⟨m3,e3,-,w3⟩:=DataW.trod_int Tryz.underlying3 g3;simp at e0 e1 e2 e3;subst e0 e1 e2 e3;refine⟨⟨m0,m1,m2,m3⟩,rfl,?_⟩;intro n hn;simp only[Wd.uw,List.mem_cons,List.not_mem_nil,or_false] at hn;rcases hn with rfl|rfl|rfl|rfl
   ·exact in64_of_wf w0
   ·exact in64_of_wf w1
   ·exact in64_of_wf w2
   ·exact in64_of_wf w3
theorem yX{H:Type}{enc:TypeId×Value->H}{W:World}{base:Nat}{held:Bool}{fuel:Nat}{v:Value}{y:DataW H×List MemPlace}(h:DataW.trod enc Tryz.prog W base (λ_=>true) held fuel 27 [v]=some y):
 ∃ks:List aW,JQ W v ks/\(∀k∈ks,∀n∈Wd.uw k,Wd.In64 n)/\ks.length<=Rows.uptoBulk y.1:=by
 have tX:Tryz.prog.cellsOf 87=4:=by kernel_rfl
 rcases Go.Deep.open_slice Tryz.underlying27 h with⟨hcs,-⟩|⟨a,len,cap,m,q,D,Pl,hcs,hb,hl,hm,hmm,rfl,hx⟩
 ·simp at hcs
  subst hcs;exact⟨[],⟨none,0,rfl,Nat.le_refl _,by omega,λh=>absurd rfl h⟩,by simp,by simp⟩
 ·simp at hcs
  subst hcs;have hlm:len<=m:=by rw[hmm];simp;exact hl
  have each:∀i,i<len->∃k:aW,jU W (a.add (i*4)) k/\(∀n∈Wd.uw k,Wd.In64 n):=by
   intro i hi;obtain⟨cs',h1,h2⟩:=hx i (by omega);obtain⟨k,rfl,hk⟩:=Ej h2;rw[tX] at h1;obtain⟨-,-,hcell⟩:=World.cells?_some h1;refine⟨k,?_,hk⟩;generalize a.add (i*4)=y at *;exact⟨hcell 0 (by decide),hcell 1 (by decide),hcell 2 (by decide),hcell 3 (by decide)⟩
  have inh:Inhabited aW:=⟨⟨0,0,0,0⟩⟩;obtain⟨q,hq⟩:=Go.Deep.choose_lt each;refine⟨(List.range len).map q,⟨some a,cap,by simp,by simpa using hl,by unfold maxLen at hm;omega,λhn=>⟨a,rfl,?_,λi k hk=>?_⟩⟩,?_,?_⟩
  ·have h0:0<len:=by
    rcases Nat.eq_zero_or_pos len with h|h
    ·subst h;simp at hn
    ·exact h
   have:=(hq 0 h0).1.lt;rwa[add_block] at this
  ·have hi:i<len:=by
    have:=(List.getElem?_eq_some_iff.1 hk).1;simpa using this
   rw[List.getElem?_map,List.getElem?_range hi] at hk;injection hk with hk
   subst hk;exact(hq i hi).1
  ·intro k hk
   obtain⟨i,hi,rfl⟩:=List.mem_map.1 hk;exact(hq i (List.mem_range.1 hi)).2
  ·have:=kY ((List.range len).map D) ((List.range (m-len)).map λj=>D (len+j))
   simpa using this
theorem yY:∃f0 f1 f2 f3 f4 f5:Field,Tryz.prog.underlying 29=some (.struct #[f0,f1,f2,f3,f4,f5])/\f0.offset=0/\f0.type=3/\f1.offset=1/\f1.type=3/\f2.offset=2/\f2.type=25/\f3.offset=6/\f3.type=23/\f4.offset=7/\f4.type=26/\f5.offset=8/\f5.type=27:=⟨_,_,_,_,_,_,Tryz.underlying29,rfl,rfl,rfl,rfl,rfl,rfl,rfl,rfl,rfl,rfl,rfl,rfl⟩
theorem yZ:∃f0 f1 f2 f3:Field,Tryz.prog.underlying 25=some (.struct #[f0,f1,f2,f3])/\f0.offset=0/\f0.type=3/\f1.offset=1/\f1.type=3/\f2.offset=2/\f2.type=23/\f3.offset=3/\f3.type=23:=⟨_,_,_,_,Tryz.underlying25,rfl,rfl,rfl,rfl,rfl,rfl,rfl,rfl⟩
theorem zf{w:World}{v:Value}{xs:List Int}(h:Ro w v xs):Wd.In64 (xs.length:Int):=by
 obtain⟨a,c,-,h1,h2,-⟩:=h;unfold Wd.In64;omega
theorem uh{H:Type}{enc:TypeId×Value->H}{W:World}{base:Nat}{held:Bool}{fuel:Nat}{cs:List Value}{y:DataW H×List MemPlace}(h:DataW.trod enc Tryz.prog W base (λ_=>true) held fuel 29 cs=some y):
 ∃X:WV,Wl W (.agg cs.toArray) X/\(∀n∈Wd.nums X,Wd.In64 n)/\(Rows.uptoBulk y.1<=1048576->Ew X):=by
 obtain⟨f0,f1,f2,f3,f4,f5,he,o0,t0,o1,t1,o2,t2,o3,t3,o4,t4,o5,t5⟩:=yY;obtain⟨xs,m,-,rfl,hlen,hxl,hf⟩:=DataW.trod_struct he h;have qo:Tryz.prog.cellsOf 3=1:=by kernel_rfl
 have Yz:Tryz.prog.cellsOf 25=4:=by kernel_rfl
 have VQ:Tryz.prog.cellsOf 23=1:=by kernel_rfl
 have YA:Tryz.prog.cellsOf 26=1:=by kernel_rfl
 have YD:Tryz.prog.cellsOf 27=1:=by kernel_rfl
 have tX:Tryz.prog.cellsOf 29=9:=by kernel_rfl
 rw[tX] at hlen
 match cs,hlen with
 |[v0,v1,v2,v3,v4,v5,v6,v7,v8],_=>
  have hx:xs.length=6:=hxl
  match xs,hx with
  |[x0,x1,x2,x3,x4,x5],_=>
   have g0:=hf 0 f0 rfl;rw[o0,t0,qo] at g0;have g1:=hf 1 f1 rfl;rw[o1,t1,qo] at g1;have g2:=hf 2 f2 rfl;rw[o2,t2,Yz] at g2;have g3:=hf 3 f3 rfl;rw[o3,t3,VQ] at g3;have g4:=hf 4 f4 rfl;rw[o4,t4,YA] at g4;have g5:=hf 5 f5 rfl;rw[o5,t5,YD] at g5;obtain⟨m0,e0,-,w0⟩:=DataW.trod_int Tryz.underlying3 g0;obtain⟨m1,e1,-,w1⟩:=DataW.trod_int Tryz.underlying3 g1;obtain⟨r0,r1,r2,r3,he',p0,s0,p1,s1,p2,s2,p3,s3⟩:=yZ;obtain⟨ys,m',-,rfl,hlen',hyl,hg⟩:=DataW.trod_struct he' g2;have hy:ys.length=4:=hyl
   match ys,hy with
   |[y0,y1,y2,y3],_=>
    have k0:=hg 0 r0 rfl;rw[p0,s0,qo] at k0;have k1:=hg 1 r1 rfl;rw[p1,s1,qo] at k1;have k2:=hg 2 r2 rfl;rw[p2,s2,VQ] at k2;have k3:=hg 3 r3 rfl;rw[p3,s3,VQ] at k3;obtain⟨m2,e2,-,w2⟩:=DataW.trod_int Tryz.underlying3 k0;obtain⟨m3,e3,-,w3⟩:=DataW.trod_int Tryz.underlying3 k1;simp at e0 e1 e2 e3;subst e0 e1 e2 e3;obtain⟨gs,hgs,igs,Zf⟩:=kZ k2;obtain⟨os,hos,YE,Zg⟩:=kZ k3;obtain⟨gold,Ot,TI,Xe⟩:=kZ g3;obtain⟨us,hus,YF,Zh⟩:=yV g4;obtain⟨qs,NR,YG,Zi⟩:=yX g5;have lu:Wd.In64 (us.length:Int):=by
     obtain⟨a,c,-,h1,h2,-⟩:=hus;unfold Wd.In64;omega
    have lq:Wd.In64 (qs.length:Int):=by
     obtain⟨a,c,-,h1,h2,-⟩:=NR;unfold Wd.In64;omega
    refine⟨⟨m0,m1,m2,m3,gs,os,gold,us,qs⟩,⟨_,_,_,_,_,rfl,hgs,hos,Ot,hus,NR⟩,?_,?_⟩
    ·intro n hn
     simp only[Wd.nums,List.mem_append,List.mem_cons,List.not_mem_nil,or_false,List.mem_flatMap] at hn;rcases hn with(((((rfl|rfl|rfl|rfl)|(rfl|hn))|(rfl|hn))|(rfl|hn))|(rfl|⟨u,hu,hn⟩))|(rfl|⟨u,hu,hn⟩)
     ·exact in64_of_wf w0
     ·exact in64_of_wf w1
     ·exact in64_of_wf w2
     ·exact in64_of_wf w3
     ·exact zf hgs
     ·exact igs _ hn
     ·exact zf hos
     ·exact YE _ hn
     ·exact zf Ot
     ·exact TI _ hn
     ·exact lu
     ·exact YF u hu n hn
     ·exact lq
     ·exact YG u hu n hn
    ·intro hb
     simp only[Rows.uptoBulk,Rows.uptoBulkAll,List.map_cons,List.map_nil] at hb;exact⟨by simp only;omega,by simp only;omega,by simp only;omega,by simp only;omega,by simp only;omega⟩
theorem JM{H:Type}{enc:TypeId×Value->H}{W:World}{base b0:Nat}{held:Bool}{v:Value}{d:DataW H}{p:List MemPlace}(hv:Value.okWide Tryz.prog W .any b0 29 v)(h:DataW.Trod enc Tryz.prog W base (λ_=>true) held 29 v d p):
 ∃X:WV,Wl W v X/\(∀n∈Wd.nums X,Wd.In64 n)/\(Rows.uptoBulk d<=1048576->Ew X):=by
 obtain⟨cs,rfl,hsz⟩:=okWide_struct Tryz.underlying29 hv;obtain⟨fuel,hf⟩:=h;have:=uh hf;simpa[Value.cells] using this
theorem wC:∃f0 f1 f2 f3 f4 f5 f6 f7 f8 f9 f10:Field,Tryz.prog.underlying 68=some (.struct #[f0,f1,f2,f3,f4,f5,f6,f7,f8,f9,f10])/\
 f0.offset=0/\f0.type=9/\f1.offset=1/\f1.type=3/\f2.offset=2/\f2.type=3/\f3.offset=3/\f3.type=3/\f4.offset=4/\f4.type=3/\f5.offset=5/\f5.type=3/\f6.offset=6/\f6.type=3/\f7.offset=7/\f7.type=3/\f8.offset=8/\f8.type=3/\f9.offset=9/\f9.type=4/\f10.offset=10/\f10.type=4:=⟨_,_,_,_,_,_,_,_,_,_,_,Tryz.underlying68,rfl,rfl,rfl,rfl,rfl,rfl,rfl,rfl,rfl,rfl,rfl,rfl,rfl,rfl,rfl,rfl,rfl,rfl,rfl,rfl,rfl,rfl⟩
theorem Em{H:Type}{enc:TypeId×Value->H}{W:World}{base:Nat}{held:Bool}{fuel:Nat}{cs:List Value}{y:DataW H×List MemPlace}(h:DataW.trod enc Tryz.prog W base (λ_=>true) held fuel 68 cs=some y):
 ∃k:KV,cs=[.string k.b,int i64 k.n0,int i64 k.n1,int i64 k.n2,int i64 k.n3,int i64 k.n4,int i64 k.n5,int i64 k.n6,int i64 k.n7,.bool k.f,.bool k.t]/\k.b.size<=maxLen:=by
 obtain⟨f0,f1,f2,f3,f4,f5,f6,f7,f8,f9,f10,he,o0,t0,o1,t1,o2,t2,o3,t3,o4,t4,o5,t5,o6,t6,o7,t7,o8,t8,o9,t9,o10,t10⟩:=wC;obtain⟨xs,n,-,-,hlen,hxl,hf⟩:=DataW.trod_struct he h;have cs9:Tryz.prog.cellsOf 9=1:=by kernel_rfl
 have cs3:Tryz.prog.cellsOf 3=1:=by kernel_rfl
 have cs4:Tryz.prog.cellsOf 4=1:=by kernel_rfl
 have tX:Tryz.prog.cellsOf 68=11:=by kernel_rfl
 rw[tX] at hlen
 match cs,hlen with
 |[v0,v1,v2,v3,v4,v5,v6,v7,v8,v9,v10],_=>
  have hx11:xs.length=11:=hxl
  match xs,hx11 with
  |[x0,x1,x2,x3,x4,x5,x6,x7,x8,x9,x10],_=>
   have g0:=hf 0 f0 rfl;rw[o0,t0,cs9] at g0;have g1:=hf 1 f1 rfl;rw[o1,t1,cs3] at g1;have g2:=hf 2 f2 rfl;rw[o2,t2,cs3] at g2;have g3:=hf 3 f3 rfl;rw[o3,t3,cs3] at g3;have g4:=hf 4 f4 rfl;rw[o4,t4,cs3] at g4;have g5:=hf 5 f5 rfl;rw[o5,t5,cs3] at g5;have g6:=hf 6 f6 rfl;rw[o6,t6,cs3] at g6;have g7:=hf 7 f7 rfl;rw[o7,t7,cs3] at g7;have g8:=hf 8 f8 rfl;rw[o8,t8,cs3] at g8;have g9:=hf 9 f9 rfl;rw[o9,t9,cs4] at g9;have g10:=hf 10 f10 rfl;rw[o10,t10,cs4] at g10;obtain⟨b,e0,-,hb⟩:=DataW.trod_string Tryz.underlying9 g0;obtain⟨m1,e1,-,-⟩:=DataW.trod_int Tryz.underlying3 g1;obtain⟨m2,e2,-,-⟩:=DataW.trod_int Tryz.underlying3 g2;obtain⟨m3,e3,-,-⟩:=DataW.trod_int Tryz.underlying3 g3;obtain⟨m4,e4,-,-⟩:=DataW.trod_int Tryz.underlying3 g4;obtain⟨m5,e5,-,-⟩:=DataW.trod_int Tryz.underlying3 g5;obtain⟨m6,e6,-,-⟩:=DataW.trod_int Tryz.underlying3 g6;obtain⟨m7,e7,-,-⟩:=DataW.trod_int Tryz.underlying3 g7;obtain⟨m8,e8,-,-⟩:=DataW.trod_int Tryz.underlying3 g8;obtain⟨bf,e9,-⟩:=DataW.trod_bool Tryz.underlying4 g9;obtain⟨bt,e10,-⟩:=DataW.trod_bool Tryz.underlying4 g10;simp at e0 e1 e2 e3 e4 e5 e6 e7 e8 e9 e10;subst e0 e1 e2 e3 e4 e5 e6 e7 e8 e9 e10;exact⟨⟨b,m1,m2,m3,m4,m5,m6,m7,m8,bf,bt⟩,rfl,hb⟩
theorem zh{H:Type}{enc:TypeId×Value->H}{W:World}{base:Nat}{held:Bool}{fuel:Nat}{v:Value}{y:DataW H×List MemPlace}(h:DataW.trod enc Tryz.prog W base (λ_=>true) held fuel 22 [v]=some y):
 ∃ks:List KV,Kl W v ks/\∀k∈ks,k.b.size<=maxLen:=by
 have tX:Tryz.prog.cellsOf 68=11:=by kernel_rfl
 rcases Go.Deep.open_slice Tryz.underlying22 h with⟨hcs,-⟩|⟨a,len,cap,m,n,D,Pl,hcs,hb,hl,hm,hmm,-,hx⟩
 ·simp at hcs
  subst hcs;exact⟨[],⟨none,0,rfl,Nat.le_refl _,by omega,λh=>absurd rfl h⟩,by simp⟩
 ·simp at hcs
  subst hcs;have hlm:len<=m:=by rw[hmm];simp;exact hl
  have each:∀i,i<len->∃k:KV,Kc W (a.add (i*11)) k/\k.b.size<=maxLen:=by
   intro i hi;obtain⟨cs',h1,h2⟩:=hx i (by omega);obtain⟨k,rfl,hk⟩:=Em h2;rw[tX] at h1;obtain⟨-,-,hcell⟩:=World.cells?_some h1;refine⟨k,?_,hk⟩;generalize a.add (i*11)=y at *;exact⟨hcell 0 (by decide),hcell 1 (by decide),hcell 2 (by decide),hcell 3 (by decide),hcell 4 (by decide),hcell 5 (by decide),hcell 6 (by decide),hcell 7 (by decide),hcell 8 (by decide),hcell 9 (by decide),hcell 10 (by decide)⟩
  have inh:Inhabited KV:=⟨⟨ByteArray.empty,0,0,0,0,0,0,0,0,false,false⟩⟩;obtain⟨q,hq⟩:=Go.Deep.choose_lt each;refine⟨(List.range len).map q,⟨some a,cap,by simp,by simpa using hl,by unfold maxLen at hm;omega,λhn=>⟨a,rfl,?_,λi k hk=>?_⟩⟩,?_⟩
  ·have h0:0<len:=by
    rcases Nat.eq_zero_or_pos len with h|h
    ·subst h;simp at hn
    ·exact h
   have:=(hq 0 h0).1.lt;rwa[add_block] at this
  ·have hi:i<len:=by
    have:=(List.getElem?_eq_some_iff.1 hk).1;simpa using this
   rw[List.getElem?_map,List.getElem?_range hi] at hk;injection hk with hk
   subst hk;exact(hq i hi).1
  ·intro k hk
   obtain⟨i,hi,rfl⟩:=List.mem_map.1 hk;exact(hq i (List.mem_range.1 hi)).2
theorem JO{H:Type}{enc:TypeId×Value->H}{W:World}{base b0:Nat}{held:Bool}{v:Value}{d:DataW H}{p:List MemPlace}(hv:Value.okWide Tryz.prog W .any b0 22 v)(h:DataW.Trod enc Tryz.prog W base (λ_=>true) held 22 v d p):
 ∃ks:List KV,Kl W v ks/\∀k∈ks,k.b.size<=maxLen:=by
 obtain⟨a,len,cap,rfl⟩:=okWide_slice Tryz.underlying22 hv;obtain⟨fuel,hf⟩:=h;exact zh hf
end Go.Proofs.YtojhiiiebnlipaaGreatDoor
