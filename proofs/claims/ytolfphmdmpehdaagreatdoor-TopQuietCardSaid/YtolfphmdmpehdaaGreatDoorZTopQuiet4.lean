/- works.take. And more. -/
import Derived.Test.YtolfphmdmpehdaaGreatDoorZTopQuiet3
set_option linter.unusedVariables false
set_option maxHeartbeats 16000000
set_option maxRecDepth 100000
open Go.Value (int slice)
open Go.IntKind (i64)
namespace Go.Proofs.YtolfphmdmpehdaaGreatDoor
open Go.RowKit
def YG(ks:List KV)(Y:WV)(z b1:Nat)(w1:World)(u1 u2 u3 u4 u5 ev j:Value)(V:World):Prop:=∃q:Nat,q<=Y.us.length/\j=int i64 (q:Nat)/\Wx V z (int i64 Y.turn) (int i64 Y.next) (int i64 Y.wide) (int i64 Y.high) u1 u2 u3 u4 u5/\xI ks Y (tk ks Y q).1 (tk ks Y q).2 b1 (z+1) w1 u1 u2 u3 u4 u5 ev V
theorem take_any(vk:Value)(ks:List KV)(Y:WV)(u1 u2 u3 u4 u5:Value)(b1:Nat)(w0 w:World)(hk:Kl w0 vk ks)(hb0:Below w0.heap.size w0 w)(TD:w0.heap.size<=b1)(o1:Ow w b1 u1 Y.gs)(o2:Ow w b1 u2 Y.os)(o3:Ow w b1 u3 Y.gold)(o4:dQ w b1 u4 Y.us)(o5:dK w b1 u5 Y.qs)(hd:[u1,u2,u3,u4,u5].Pairwise dP)(hf:ji ks Y):
  Calls Tryz.prog 108 #[vk,.agg #[int i64 Y.turn,int i64 Y.next,int i64 Y.wide,int i64 Y.high,u1,u2,u3,u4,u5]] w λe w'=>∃ev,e=.returned ev/\xI ks Y (tk ks Y Y.us.length).1 (tk ks Y Y.us.length).2 b1 w.heap.size w u1 u2 u3 u4 u5 ev w':=by
 have KB:Hid (Kl w0 vk ks/\Below w0.heap.size w0 w/\w0.heap.size<=b1):=⟨hk,hb0,TD⟩;obtain⟨pk,qk,rfl,ck1,ck2,kc⟩:=hk;have T0:Hid (xI ks Y Y [] b1 w.heap.size w u1 u2 u3 u4 u5 (slice none 0 0) w):=⟨o1,o2,o3,o4,o5,dY.nil _ _,hd,Fr.below (Below.refl _ _),⟨rfl,rfl,rfl,rfl,rfl,rfl,rfl,rfl,rfl⟩,hf⟩;have LW:Hid (∀x∈[u1,u3,u5],∀k,x.ownBlock=some k->k<w.heap.size):=by
  intro x hx k hk;simp only[List.mem_cons,List.not_mem_nil,or_false] at hx;rcases hx with rfl|rfl|rfl
  ·exact(o1.block k hk).2
  ·exact(o3.block k hk).2
  ·exact(o5.block k hk).2
 have L24:Hid ((∀k,u2.ownBlock=some k->b1<=k/\k<w.heap.size)/\∀k,u4.ownBlock=some k->b1<=k/\k<w.heap.size):=⟨o2.block,o4.block⟩;have ul:=hf.ul;obtain⟨a1,h1,rfl⟩:=o1.len;obtain⟨a2,h2,rfl⟩:=o2.len;obtain⟨a3,h3,rfl⟩:=o3.len;obtain⟨a4,h4,rfl⟩:=o4.len;obtain⟨a5,h5,rfl⟩:=o5.len;clear hb0 TD kc o1 o2 o3 o4 o5 hd hf;go_enter Tryz.func108,Tryz.ntmps108;go_upto_region 2 with fail
 have BA:Hid (Below _ w (w.alloc (Obj.cells #[int i64 Y.turn,int i64 Y.next,int i64 Y.wide,int i64 Y.high,slice a1 Y.gs.length h1,slice a2 Y.os.length h2,slice a3 Y.gold.length h3,slice a4 Y.us.length h4,slice a5 Y.qs.length h5] 29))):=(Below.refl _ _).alloc (Nat.le_refl _) _;obtain⟨z,hz⟩:∃z,w.heap.size=z:=⟨_,rfl⟩;have HZ:=aj (hz);have X1:Hid (Wx _ z (int i64 Y.turn) (int i64 Y.next) (int i64 Y.wide) (int i64 Y.high) (slice a1 Y.gs.length h1) (slice a2 Y.os.length h2) (slice a3 Y.gold.length h3) (slice a4 Y.us.length h4) (slice a5 Y.qs.length h5)):=Wx.new _ _ _ _ _ _ _ _ _ hz;have S1:Hid ((w.alloc (Obj.cells #[int i64 Y.turn,int i64 Y.next,int i64 Y.wide,int i64 Y.high,slice a1 Y.gs.length h1,slice a2 Y.os.length h2,slice a3 Y.gold.length h3,slice a4 Y.us.length h4,slice a5 Y.qs.length h5] 29)).heap.size=z+1):=by unfold Hid;rw[<-hz];simp
 rw[hz];clear hz;generalize w.alloc _=w1 at *;have T1:Hid (xI ks Y Y [] b1 (z+1) w1 (slice a1 Y.gs.length h1) (slice a2 Y.os.length h2) (slice a3 Y.gold.length h3) (slice a4 Y.us.length h4) (slice a5 Y.qs.length h5) (slice none 0 0) w1):=by
  have h:=T0.out.below BA.out;exact⟨h.o1,h.o2,h.o3,h.o4,h.o5,dY.nil _ _,h.d,Fr.below (Below.refl _ _),h.k,h.f⟩
 clear T0;obtain⟨x0,x1,x2,x3,x4,x5,x6,x7,x8⟩:=X1.out.cells;go_wp2_with fail
 clear x0 x1 x2 x3 x4 x5 x6 x7 x8;go_loopw [5,12] (λev j V=>YG ks Y z b1 w1 (slice a1 Y.gs.length h1) (slice a2 Y.os.length h2) (slice a3 Y.gold.length h3) (slice a4 Y.us.length h4) (slice a5 Y.qs.length h5) ev j V) (λ_ j _=>Y.us.length-(intOf j).toNat)
 case atStart=>exact⟨0,Nat.zero_le _,rfl,X1.out,T1.out⟩
 case round=>
  obtain⟨q,hq,rfl,hx,ht⟩:=hrel;obtain⟨Z,hZ⟩:∃Z,(tk ks Y q).1=Z:=⟨_,rfl⟩;obtain⟨es,hE⟩:∃es,(tk ks Y q).2=es:=⟨_,rfl⟩;have HQ:Hid ((tk ks Y q).1=Z/\(tk ks Y q).2=es):=⟨hZ,hE⟩;have EL:Hid (es.length<=40):=by have h9:=sQ (ks:=ks) (Y:=Y) q;rw[hE] at h9;unfold Hid;omega
  rw[hZ,hE] at ht;clear hZ hE;obtain⟨ea,ec,rfl⟩:=ht.e.len;have TQ:=aj (ht);have XQ:=aj (hx);clear hx ht;by_cases TI:q=Y.us.length
  ·have FIN:Hid ((tk ks Y Y.us.length).1=Z/\(tk ks Y Y.us.length).2=es):=by rw[<-TI];exact HQ.out
   subst TI;go_wp2;go_ret;refine⟨_,rfl,?_⟩;rw[FIN.out.1,FIN.out.2];have h:=TQ.out;exact⟨h.o1,h.o2,h.o3,h.o4,h.o5,h.e.mono (by have:=HZ.out;omega),h.d,(Fr.below BA.out).trans h.fr,h.k,h.f⟩
  ·have uz:q<Y.us.length:=by omega
   have hqi:((q:Nat):Int)<(Y.us.length:Nat):=by omega
   have hzl:q<Z.us.length:=by rw[TQ.out.k.2.2.2.2.2.2.2.1];exact uz
   obtain⟨u,hu⟩:∃u,Z.us[q]? =some u:=⟨_,List.getElem?_eq_getElem hzl⟩;obtain⟨⟨kn,k,hkn,hkk,l1,l2,l3⟩,⟨an,han,hal⟩,-⟩:=TQ.out.f.units u (List.mem_of_getElem? hu);obtain⟨x,hx⟩:∃x,Z.os[an]? =some x:=⟨_,List.getElem?_eq_getElem hal⟩;have UU:=aj (fK hu hkn hkk han hx);have OX:=TQ.out.f.sN hx;have VK:((an:Nat):Int)<(Y.os.length:Nat):=by rw[<-TQ.out.k.2.2.2.2.2.2.2.2];omega
   obtain⟨gu,cu,ur,e4,hgu,c1,c2,c3,hub⟩:∃g cap rest,slice a4 Y.us.length h4=slice (some ⟨g,0,none⟩) Y.us.length cap/\b1<=g/\Y.us.length<=cap/\cap<=maxLen/\Y.us.length*8+rest.length=cap*8/\Ub wr g Z.us rest:=by
    rcases TQ.out.o4.ub with⟨-,h⟩|⟨g,cap,rest,h⟩
    ·rw[h] at hzl;simp at hzl
    ·rw[TQ.out.k.2.2.2.2.2.2.2.1] at h;exact⟨g,cap,rest,h⟩
   injection e4 with e41 e42 e43
   subst e41 e43;obtain⟨gs,co,sr,e2,hgs,d1,d2,d3,hbk⟩:∃g cap rest,slice a2 Y.os.length h2=slice (some ⟨g,0,none⟩) Y.os.length cap/\b1<=g/\Y.os.length<=cap/\cap<=maxLen/\Y.os.length+rest.size=cap/\Bk wr g Z.os rest:=by
    rcases TQ.out.o2.bk with⟨-,h⟩|⟨g,cap,rest,h⟩
    ·rw[h] at hal;simp at hal
    ·rw[TQ.out.k.2.2.2.2.2.2.2.2] at h;exact⟨g,cap,rest,h⟩
   injection e2 with e21 e22 e23
   subst e21 e23;have GB:=aj (Oz hgu c1 c2 c3 hgs d1 d2 d3);have UB:Hid (∀V,Below wr.heap.size wr V->Ub V gu Z.us ur):=λV hV=>hub.below hV hub.lt
   have BB:Hid (∀V,Below wr.heap.size wr V->Bk V gs Z.os sr):=λV hV=>hbk.below hV
   have GL:Hid (gu<z/\gs<z/\gu≠gs):=by
    rw[<-HZ.out];refine⟨(L24.out.2 gu rfl).2,(L24.out.1 gs rfl).2,λe=>TQ.out.qF.2.1.2.1 gs rfl (by rw[<-e];rfl)⟩
   have VL:Hid (∀V,Below wr.heap.size wr V->Kl V (slice pk ks.length qk) ks):=λV hV=>by
    have b01:=KB.out.2.1.trans (BA.out.mono KB.out.2.1.size);have OV:=TQ.out.fr.low b01.size (λk hk=>by
     rcases hk with hk|hk
     ·have:=(L24.out.1 k hk).1;have:=KB.out.2.2;omega
     ·have:=(L24.out.2 k hk).1;have:=KB.out.2.2;omega)
    exact KB.out.1.below ((b01.trans OV).trans (hV.mono (b01.trans OV).size))
   have CV:Hid (∀V,Below wr.heap.size wr V->Wx V z (int i64 Y.turn) (int i64 Y.next) (int i64 Y.wide) (int i64 Y.high) (slice a1 Y.gs.length h1) (slice (some ⟨gs,0,none⟩) Y.os.length h2) (slice a3 Y.gold.length h3) (slice (some ⟨gu,0,none⟩) Y.us.length h4) (slice a5 Y.qs.length h5)/\dB V ⟨gu,q*8,none⟩ u):=λV hV=>⟨XQ.out.below hV XQ.out.lt,(UB.out V hV).kQ UU.out.1⟩
   have D5:Hid (Below wr.heap.size wr {wr with drawn:=wr.drawn+1}):=(Below.refl _ _).drew;have xq:=XQ.out;obtain⟨x0,x1,x2,x3,x4,x5,x6,x7,x8⟩:=xq.cells;clear xq hu hkn hkk han hx hal hzl hgu c1 c2 c3 hgs d1 d2 d3 hub hbk e42 e22;go_upto_region 6 with fail
   clear x0 x1 x2 x3 x4 x5 x6 x7 x8;refine aH [(true,0),(true,1),(true,2),(true,3),(true,4),(false,5)] [(false,6)] (λV=>Wx V z _ _ _ _ _ _ _ _ _/\dB V _ u) (by kernel_rfl) (by kernel_rfl) (by kernel_rfl) (by decide+kernel) (by decide+kernel) (CV.out _ D5.out) ?_;generalize ({wr with drawn:=wr.drawn+1}:World)=w6 at *;refine ay rfl (slice pk ks.length qk) (by go_simp) (λV hV=>by go_simp) ?_;go_simp;refine ay rfl (.agg #[int i64 Y.turn,int i64 Y.next,int i64 Y.wide,int i64 Y.high,slice a1 Y.gs.length h1,slice (some ⟨gs,0,none⟩) Y.os.length h2,slice a3 Y.gold.length h3,slice (some ⟨gu,0,none⟩) Y.us.length h4,slice a5 Y.qs.length h5]) (by go_simp) (λV hV=>by obtain⟨hX,hU⟩:=hV;obtain⟨x0,x1,x2,x3,x4,x5,x6,x7,x8⟩:=hX.cells;obtain⟨y0,y1,y2,y3,y4,y5,y6,y7⟩:=hU;go_simp) ?_;go_simp;refine ay rfl (.pointer (some ⟨gu,q*8,none⟩)) (by go_simp) (λV hV=>by go_simp) ?_;go_simp;refine ay rfl (.pointer (some ⟨gu,q*8,none⟩)) (by go_simp) (λV hV=>by obtain⟨hX,hU⟩:=hV;obtain⟨x0,x1,x2,x3,x4,x5,x6,x7,x8⟩:=hX.cells;obtain⟨y0,y1,y2,y3,y4,y5,y6,y7⟩:=hU;go_simp) ?_;go_simp;refine ay rfl (.agg #[int i64 u.id,int i64 u.aA,int i64 u.kind,int i64 u.at_,int i64 u.life,int i64 u.load,int i64 u.task,int i64 u.goal]) (by go_simp) (λV hV=>by obtain⟨hX,hU⟩:=hV;obtain⟨x0,x1,x2,x3,x4,x5,x6,x7,x8⟩:=hX.cells;obtain⟨y0,y1,y2,y3,y4,y5,y6,y7⟩:=hU;go_simp) ?_;go_simp;refine bF rfl 158 #[slice pk ks.length qk,.agg #[int i64 Y.turn,int i64 Y.next,int i64 Y.wide,int i64 Y.high,slice a1 Y.gs.length h1,slice (some ⟨gs,0,none⟩) Y.os.length h2,slice a3 Y.gold.length h3,slice (some ⟨gu,0,none⟩) Y.us.length h4,slice a5 Y.qs.length h5],.agg #[int i64 u.id,int i64 u.aA,int i64 u.kind,int i64 u.at_,int i64 u.life,int i64 u.load,int i64 u.task,int i64 u.goal]] (by go_simp) (by go_simp) ?_;have T6:=aj (TQ.out.below D5.out);refine Calls.mono (CG _ _ ks Z u kn an k x w6 (VL.out _ D5.out) T6.out.wl UU.out.2.1 UU.out.2.2.1 UU.out.2.2.2.1 UU.out.2.2.2.2 l1 (by omega) (by omega) l3 OX) ?_;rintro e w7 ⟨rfl,b7⟩;have D7:=aj (D5.out.trans (b7.mono D5.out.size));refine⟨_,rfl,CV.out _ D7.out,?_⟩;have EY:=oM (ks:=ks) (Y:=Z) UU.out.2.1 UU.out.2.2.1 UU.out.2.2.2.1 UU.out.2.2.2.2;obtain⟨n,hn⟩:∃n,bI ks Z u=n:=⟨_,rfl⟩;have HN:=aj (hn);have nb:n<=10/\(0<n->n<=x/\u.load+n<=k.n7):=by
    rw[hn] at EY;split at EY
    ·omega
    ·omega
   rw[hn];clear b7 hn EY T6;go_simp;refine aN rfl (int i64 n) w7 (by go_simp) (by go_simp) trivial ?_;go_simp;unfold aP;have T7:=aj (TQ.out.below D7.out);have X7:=aj (XQ.out.below D7.out XQ.out.lt);by_cases hp:0<n
   ·have NX:Hid (tk ks Y (q+1)=(fD Z q u n,es++[⟨4,u.id,n⟩])):=by
     have h9:=oL (ks:=ks) (Y:=Y) (q:=q) (u:=u) (by rw[HQ.out.1];exact UU.out.1) (by rw[HQ.out.1,HN.out];exact hp);unfold Hid;rw[h9,HQ.out.1,HQ.out.2,HN.out]
    have U7:=UB.out _ D7.out;have B7:=BB.out _ D7.out;obtain⟨y0,y1,y2,y3,y4,y5,y6,y7⟩:=U7.kQ UU.out.1;have t5:=U7.thaw (q*8+5);have wr1:IntKind.i64.wrap (u.load+n)=u.load+n:=by rw[IntKind.wrap_i64];omega
    have U8:Hid (Ub _ gu (Z.us.set q (jc u (u.load+n))) ur):=U7.Gj UU.out.1 _;have K8:Hid (Kp gu w7 (w7.setCell ⟨gu,q*8+5,none⟩ (int i64 (u.load+n)))):=Kp.set _ _ _;have B8:Hid (Bk (w7.setCell ⟨gu,q*8+5,none⟩ (int i64 (u.load+n))) gs Z.os sr):=B7.other (by have:=GL.out.2.2;omega) _ _;clear U7 B7;go_upto_region 9 with fail
    clear y0 y1 y2 y3 y4 y5 y6 y7 t5 wr1;generalize w7.setCell _ _=w8 at *;have F8:Hid (Fr (λq=>q=gu) w7 w8):=Fr.kp K8.out rfl;have X8:=aj (F8.out.wx X7.out (by have:=GL.out.1;omega));obtain⟨y0,y1,y2,y3,y4,y5,y6,y7⟩:=U8.out.kQ (i:=q) (o:=jc u (u.load+n)) (by rw[List.getElem?_set_self (by have:=(List.getElem?_eq_some_iff.1 UU.out.1).1;exact this)]);have y3':w8.cell? ⟨gu,q*8+3,none⟩=some (int i64 (an:Nat)):=by rw[<-UU.out.2.2.2.1];exact y3
    obtain⟨x0,x1,x2,x3,x4,x5,x6,x7,x8⟩:=X8.out.cells;have co:=B8.out.cell UU.out.2.2.2.2;have ts:=B8.out.thaw an;have wr2:IntKind.i64.wrap (x-n)=x-n:=by rw[IntKind.wrap_i64];omega
    clear y0 y1 y2 y3 y4 y5 y6 y7;go_region;have K9:Hid (Kp gs w8 (w8.setCell ⟨gs,an,none⟩ (int i64 (x-n))).drew):=(Kp.set _ _ _).trans (Kp.of (Below.refl _ _).drew);have B9:Hid (Bk (w8.setCell _ _).drew gs (Z.os.set an (x-n)) sr):=B8.out.set an _ (List.getElem?_eq_some_iff.1 UU.out.2.2.2.2).1;clear x0 x1 x2 x3 x4 x5 x6 x7 x8 y3' co ts wr2;generalize (w8.setCell _ _).drew=w9 at *;have F9:Hid (Fr (λq=>q=gs) w8 w9):=Fr.kp K9.out rfl;have X9:=aj (F9.out.wx X8.out (by have:=GL.out.2.1;omega));have U9:Hid (Ub w9 gu (Z.us.set q (jc u (u.load+n))) ur):=(F9.out.block gu U8.out.lt (by have:=GL.out.2.2;omega)).trans U8.out;have F79:Hid (Fr (λq=>q=gu\/q=gs) w7 w9):=(F8.out.mono (λk hk=>.inl hk)).trans (F9.out.mono (λk hk=>.inr hk));have E9:Hid (dY w9 (z+1) (slice ea es.length ec) es):=F79.out.own T7.out.e (λb hb e=>by have h9:=(T7.out.e.block b hb).1;have h8:=GL.out;omega);obtain⟨y0,y1,y2,y3,y4,y5,y6,y7⟩:=U9.out.kQ (i:=q) (o:=jc u (u.load+n)) (by rw[List.getElem?_set_self (by have:=(List.getElem?_eq_some_iff.1 UU.out.1).1;exact this)]);have y0':w9.cell? _=some (.int _ u.id):=y0;have OA:Hid (dY (w9.alloc (Obj.cells #[int i64 4,int i64 u.id,int i64 n] 169)) _ _ es):=E9.out.alloc _;have RC:Hid (oK (w9.alloc (Obj.cells #[.int _ 4,.int _ u.id,.int _ n] _)) _ _):=oK.mk' ⟨4,u.id,n⟩ rfl;have BE:Hid (Below _ w9 (w9.alloc (Obj.cells #[int i64 4,int i64 u.id,int i64 n] 169))):=(Below.refl _ _).alloc (Nat.le_refl _) _;have SB:Hid (z+1<=(w9.alloc _).heap.size):=Nat.le_trans X9.out.lt BE.out.size;clear y0 y1 y2 y3 y4 y5 y6 y7;go_wp2_with (at_builtin;refine sV _ rfl _ _ rfl (z+1) _ es rfl OA.out w9.heap.size ⟨4,u.id,n⟩ rfl RC.out (by have:=EL.out;omega) SB.out ?_);intro g cap wE o8 g8 a8 l8;have EO:=aj (o8);have FE:=aj ((Fr.below BE.out).trans (Fr.gb g8 (λk hk=>hk)));have FA:Hid (Fr (λq=>q=gu\/q=gs\/(slice ea es.length ec:Value).ownBlock=some q) w7 wE):=(F79.out.mono (λk hk=>by rcases hk with h|h;exact .inl h;exact .inr (.inl h))).trans (FE.out.mono (λk hk=>.inr (.inr hk)));have NE:Hid (∀k,k<=z->¬(slice ea es.length ec:Value).ownBlock=some k):=λk hk e=>by have:=(E9.out.block k e).1;omega
    have UE:Hid (Ub wE gu (Z.us.set q (jc u (u.load+n))) ur):=(FE.out.block gu U9.out.lt (NE.out gu (by have:=GL.out.1;omega))).trans U9.out;have BK:Hid (Bk wE gs (Z.os.set an (x-n)) sr):=(FE.out.block gs B9.out.lt (NE.out gs (by have:=GL.out.2.1;omega))).trans B9.out;have XE:=aj (FE.out.wx X9.out (NE.out z (Nat.le_refl _)));have EW:Hid ((fD Z q u n).os=Z.os.set an (x-n)):=by
     unfold Hid fD;simp only[UU.out.2.2.2.1,Int.toNat_natCast,List.getD_eq_getElem?_getD,UU.out.2.2.2.2,Option.getD_some]
    have TE:Hid (xI ks Y (fD Z q u n) (es++[⟨4,u.id,n⟩]) b1 (z+1) w1 (slice a1 Y.gs.length h1) (slice (some ⟨gs,0,none⟩) Y.os.length h2) (slice a3 Y.gold.length h3) (slice (some ⟨gu,0,none⟩) Y.us.length h4) (slice a5 Y.qs.length h5) (slice (some ⟨g,0,none⟩) (es.length+1) cap) wE):=by
     have h9:=T7.out.take (V':=wE) (i:=q) (u:=u) (ur:=ur) (sr:=sr) (ev':=slice (some ⟨g,0,none⟩) (es.length+1) cap) S1.out (λy hy k hk=>by have:=LW.out y hy k hk;have:=HZ.out;omega) GB.out.1 GB.out.2.1 GB.out.2.2.1 GB.out.2.2.2.1 GB.out.2.2.2.2.1 GB.out.2.2.2.2.2.1 GB.out.2.2.2.2.2.2.1 GB.out.2.2.2.2.2.2.2 UU.out.1 (by rw[HN.out];exact hp) (by rw[HN.out];exact UE.out) (by rw[HN.out,EW.out];exact BK.out) (by rw[HN.out];exact EO.out) FA.out;rw[HN.out] at h9;exact h9
    clear o8 g8 a8 l8 y0';go_wp2;go_round
    case rel=>exact⟨q+1,by omega,by go_num,XE.out,by rw[NX.out];exact TE.out⟩
    case measure=>simp[intOf];omega
   ·have NX:Hid (tk ks Y (q+1)=(Z,es)):=by
     have h9:=vF (ks:=ks) (Y:=Y) (q:=q) (u:=u) (by rw[HQ.out.1];exact UU.out.1) (by rw[HQ.out.1,HN.out];exact hp);unfold Hid;rw[h9,<-HQ.out.1,<-HQ.out.2]
    go_wp2;go_round
    case rel=>exact⟨q+1,by omega,by go_num,X7.out,by rw[NX.out];exact T7.out⟩
    case measure=>simp[intOf];omega
theorem Ij(u:Value)(v:Int)(xs:List Int)(w:World)(hu:Ro w u xs):
  Calls Tryz.prog 238 #[u,int i64 v] w λe w'=>∃r:Int,e=.returned (int i64 r)/\KY (λx=>decide (v=x)) xs r/\w'=w:=by
 obtain⟨a,c,rfl,c1,c2,ca⟩:=hu;have Ca:=aj (ca);clear ca;go_enter Tryz.func238,Tryz.ntmps238;go_wp2;go_loopw [8] (λi W'=>∃k:Nat,k<=xs.length/\i=int i64 (k:Nat)/\(xs.take k).any (λx=>decide (v=x))=false/\W'=w) (λi _=>xs.length-(intOf i).toNat)
 case atStart=>exact⟨0,Nat.zero_le _,rfl,by simp,rfl⟩
 case round=>
  obtain⟨k,hk,rfl,ht,rfl⟩:=hrel;have Ht:=aj (ht);clear ht;by_cases h0:k=xs.length
  ·subst h0
   go_wp2;go_ret;refine⟨_,rfl,.inl ⟨rfl,?_⟩,rfl⟩;have:=Ht.out;rw[List.take_of_length_le (Nat.le_refl _)] at this;exact this
  ·have hkx:k<xs.length:=by omega
   obtain⟨x,rfl,-,hx⟩:=Ca.out (by intro h;rw[h] at hkx;simp at hkx);have cx:=hx k xs[k] (List.getElem?_eq_getElem hkx);have Hs:Hid _:=kY (p:=λx=>decide (v=x)) hkx;have Hm:=aj (List.getElem?_eq_getElem hkx);generalize xs[k]=y at *;clear hx;by_cases hy:v=y
   ·have Hy:=aj (decide_eq_true hy)
    go_wp2;go_ret;exact⟨_,rfl,.inr ⟨k,y,rfl,Hm,Hy,Ht⟩,rfl⟩
   ·have Hy:=aj (decide_eq_false hy)
    go_wp2;go_round
    case rel=>exact⟨k+1,by omega,by go_num,by have:=Hs.out;rw[Ht.out,Hy.out] at this;exact this,trivial⟩
    case measure=>simp[intOf];omega
theorem Ik(u:Value)(v:Int)(xs:List Int)(w:World)(hu:Ro w u xs):
  Calls Tryz.prog 200 #[u,int i64 v] w λe w'=>e=.returned (.bool (xs.any (λx=>decide (v=x))))/\w'=w:=by
 have H:Hid _:=Ij u v xs w hu;obtain⟨a,c,rfl,-⟩:=hu;go_enter Tryz.func200,Tryz.ntmps200;go_wp2_with fail
 refine Calls.mono H.out ?_;rintro e w1 ⟨r,rfl,hr,rfl⟩;have Hr:=aj (hr.has);clear hr;go_wp2;go_ret;exact⟨by show Ending.returned (.bool (decide (0<=r)))=_;rw[Hr.out],rfl⟩
theorem oZ(K:Nat)(eK:∀args w,(callFunc K args).run Tryz.prog w=.ok (.enter K args) w)(u:Value)(cs:Array Value)(ks:List aC)(p:aC->Bool)(w:World)(hu:jF w u ks)
  (hp:∀W,Below w.heap.size w W->∀k∈ks,Calls Tryz.prog K (#[k.val]++cs) W λe w'=>e=.returned (.bool (p k))/\Below W.heap.size W w'):
  Calls Tryz.prog 97 #[u,.func (Fn.func K) #[] cs] w λe w'=>∃r:Int,e=.returned (int i64 r)/\jg p ks r/\Below w.heap.size w w':=by
 obtain⟨a,c,rfl,c1,c2,ca⟩:=hu;have Ca:=aj (ca);have Hp:=aj (hp);clear ca hp;go_enter Tryz.func97,Tryz.ntmps97;go_wp2;go_loopw [8] (λi W'=>∃k:Nat,k<=ks.length/\i=int i64 (k:Nat)/\(ks.take k).any p=false/\Below w.heap.size w W') (λi _=>ks.length-(intOf i).toNat)
 case atStart=>exact⟨0,Nat.zero_le _,rfl,by simp,Below.refl _ _⟩
 case round=>
  obtain⟨k,hk,rfl,ht,hb⟩:=hrel;have Ht:=aj (ht);have B:=aj (hb);clear ht hb;by_cases h0:k=ks.length
  ·subst h0
   go_wp2;go_ret;refine⟨_,rfl,.inl ⟨rfl,?_⟩,B⟩;have:=Ht.out;rw[List.take_of_length_le (Nat.le_refl _)] at this;exact this
  ·have hkx:k<ks.length:=by omega
   obtain⟨x,rfl,hx1,hx⟩:=Ca.out (by intro h;rw[h] at hkx;simp at hkx);obtain⟨y,hy⟩:∃y,ks[k]? =some y:=⟨_,List.getElem?_eq_getElem hkx⟩;have Yc:=(hx k y hy).below B.out (by rw[add_block];exact hx1);obtain⟨q0,q1,q2,q3,q4,q5,q6,q7⟩:=Yc;have hc:=Hp.out wr B.out y (List.mem_of_getElem? hy);have Hs:Hid _:=qK (p:=p) hy;have Hm:=aj (hy);clear hx hx1 hy;cases hy:p y with
   |true=>
    rw[hy] at hc;have Hc:=aj (hc);have Hy:=aj (hy);clear hc hy;go_wp2_with fail
    refine Calls.mono Hc.out ?_;rintro e w1 ⟨rfl,b1⟩;have B1:=aj (B.out.trans (b1.mono B.out.size));clear b1;go_wp2;go_ret;exact⟨_,rfl,.inr ⟨k,y,rfl,Hm,Hy,Ht⟩,B1⟩
   |false=>
    rw[hy] at hc;have Hc:=aj (hc);have Hy:=aj (hy);clear hc hy;go_wp2_with fail
    refine Calls.mono Hc.out ?_;rintro e w1 ⟨rfl,b1⟩;have B1:=aj (B.out.trans (b1.mono B.out.size));clear b1;go_wp2;go_round
    case rel=>exact⟨k+1,by omega,by go_num,by have:=Hs.out;rw[Ht.out,Hy.out] at this;exact this,B1⟩
    case measure=>simp[intOf];omega
theorem Il(K:Nat)(eK:∀args w,(callFunc K args).run Tryz.prog w=.ok (.enter K args) w)(u:Value)(cs:Array Value)(ks:List aC)(p:aC->Bool)(w:World)(hu:jF w u ks)
  (hp:∀W,Below w.heap.size w W->∀k∈ks,Calls Tryz.prog K (#[k.val]++cs) W λe w'=>e=.returned (.bool (p k))/\Below W.heap.size W w'):
  Calls Tryz.prog 129 #[u,.func (Fn.func K) #[] cs] w λe w'=>e=.returned (.bool (ks.any p))/\Below w.heap.size w w':=by
 have H':=aj (oZ K eK u cs ks p w hu hp);clear hp;go_enter Tryz.func129,Tryz.ntmps129;go_wp2_with fail
 refine Calls.mono H'.out ?_;rintro e w1 ⟨r,rfl,hr,q⟩;have Hr:=aj (hr.has);have Q:=aj (q);clear hr q;go_wp2;go_ret;exact⟨by show Ending.returned (.bool (decide (0<=r)))=_;rw[Hr.out],Q⟩
def o_(ks:List KV)(h:aC):Bool:=match ks[h.kind.toNat]? with|some k=>k.t|none=>false
def gQ(ks:List KV)(near:List Int)(u h:aC):Bool:=decide (h.aA=u.aA)&&(o_ ks h&&near.any (λx=>decide (h.at_=x)))
theorem xJ(ks:List KV)(near:List Int)(u h:aC)(kn:Nat)(k:KV)(bu bk bn:Nat)(xk:Addr)(qk:Nat)(vn:Value)(W:World)(hkn:h.kind=kn)(hkk:ks[kn]? =some k)
  (c1:W.cell? ⟨bu,1,none⟩=some (int i64 u.aA)) (c2:W.cell? ⟨bk,0,none⟩=some (slice (some xk) ks.length qk)) (c3:W.cell? ⟨bn,0,none⟩=some vn) (hK:Kc W (xk.add (kn*11)) k) (hn:Ro W vn near):
  Calls Tryz.prog 199 (#[h.val]++ #[.pointer (some ⟨bu,0,none⟩),.pointer (some ⟨bk,0,none⟩),.pointer (some ⟨bn,0,none⟩)]) W λe w'=>e=.returned (.bool (gQ ks near u h))/\Below W.heap.size W w':=by
 have TO:Hid (o_ ks h=k.t):=by unfold Hid o_;rw[hkn,Int.toNat_natCast];simp only[hkk]
 have hkl:=(List.getElem?_eq_some_iff.1 hkk).1;have hki:((kn:Nat):Int)<(ks.length:Nat):=by omega
 have HK:=aj (hkn);have RN:=aj (hn);have CC:=aj (jD c1 c2 c3 hK);obtain⟨na,nc,rfl,-⟩:=hn;clear hkn hkk c1 c2 c3 hK;unfold aC.val;go_enter Tryz.func199,Tryz.ntmps199;go_upto_region 1 with fail
 have BA:Hid (Below _ W (W.alloc (Obj.cells #[int i64 h.id,int i64 h.aA,int i64 h.kind,int i64 h.at_,int i64 h.life,int i64 h.load,int i64 h.task,int i64 h.goal] 74))):=(Below.refl _ _).alloc (Nat.le_refl _) _;have U1:Hid (Ub _ W.heap.size _ []):=oW h rfl;obtain⟨y,hy⟩:∃y,W.heap.size=y:=⟨_,rfl⟩;rw[hy] at U1 ⊢;have HY:=aj (hy);clear hy;generalize W.alloc _=w1 at *;have e1:w1.cell? ⟨bu,1,none⟩=some (int i64 u.aA):=by rw[BA.out.cell (p:=⟨bu,1,none⟩) (cell_lt CC.out.1)];exact CC.out.1
 have e2:w1.cell? ⟨bk,0,none⟩=some (slice (some xk) ks.length qk):=by rw[BA.out.cell (p:=⟨bk,0,none⟩) (cell_lt CC.out.2.1)];exact CC.out.2.1
 have e3:w1.cell? ⟨bn,0,none⟩=some (slice na near.length nc):=by rw[BA.out.cell (p:=⟨bn,0,none⟩) (cell_lt CC.out.2.2.1)];exact CC.out.2.2.1
 have k10:=(CC.out.2.2.2.below BA.out CC.out.2.2.2.lt).c10;obtain⟨y0,y1,y2,y3,y4,y5,y6,y7⟩:=U1.out.kQ (i:=0) (o:=h) rfl;simp only[Nat.zero_mul,Nat.zero_add] at y0 y1 y2 y3 y4 y5 y6 y7;rw[HK.out] at y2;by_cases hp:h.aA=u.aA
 ·have PD:=aj (decide_eq_true hp)
  rw[hp] at y1;clear hp;cases hkt:k.t with
  |false=>
   rw[hkt] at k10;have E:Hid (gQ ks near u h=false):=by unfold Hid gQ;rw[TO.out,hkt];simp
   clear hkt;go_wp2;go_ret;exact⟨by rw[E.out];rfl,BA.out⟩
  |true=>
   rw[hkt] at k10;have E:Hid (gQ ks near u h=near.any (λx=>decide (h.at_=x))):=by unfold Hid gQ;rw[TO.out,hkt,PD.out];simp
   clear hkt;go_wp2_with fail
   refine(Ik _ _ _ w1 (RN.out.below BA.out)).mono ?_;rintro e w2 ⟨rfl,rfl⟩;go_wp2;go_ret;exact⟨by rw[E.out];rfl,BA.out⟩
 ·have E:Hid (gQ ks near u h=false):=by unfold Hid gQ;rw[decide_eq_false hp];simp
  go_wp2;go_ret;exact⟨by rw[E.out];rfl,BA.out⟩
theorem MR(v:Value)(W H:Nat)(gs os:List Int)(a:Nat)(w:World)(h:Fl w v W H gs os)(G:Fd.Good W H gs os)(ha:a<W*H)(hs:Sd w):
  Calls Tryz.prog 198 #[v,int i64 (a:Nat)] w λe w'=>∃u,e=.returned (.tuple #[u,.nilIface])/\Ro w' u (Fd.near W H a)/\Below w.heap.size w w':=by
 have F0:=aj (h);have S0:=aj (hs);have G0:=aj (G);have HF:=aj (qL G ha);obtain⟨u1,u2,rfl,⟨a1,c,rfl,c1,c2,ca⟩,⟨b1,d,rfl,d1,d2,cb⟩⟩:=h;have Ha:=aj (ha);clear hs ca cb G ha;go_enter Tryz.func198,Tryz.ntmps198;go_wp2_with fail
 refine(rY _ _ W H gs os _ _ (F0.out.below (((Below.refl _ _).alloc (Nat.le_refl _) _).alloc (by simp) _)) (Ro.wL a (by simp))).mono ?_;rintro e w1 ⟨v1,rfl,hv,hb⟩;have B1:=aj ((((Below.refl _ _).alloc (Nat.le_refl _) _).alloc (by simp) _).trans (hb.mono (by simp;omega)));have X1:=aj (((Bf.mk' (w:=w) W H (slice a1 gs.length c) (slice b1 os.length d) rfl).below ((Below.refl _ _).alloc (Nat.le_refl _) (Obj.cells #[Value.int IntKind.i64 a] 3)) (by simp)).below hb (by simp;omega));rw[HF.out] at hv;clear hb;rcases hv with⟨hz,rfl⟩|⟨hz,rfl⟩
 ·clear hz
  obtain⟨x0,x1,x2,x3⟩:=X1.out;go_wp2_with fail
  refine(u_ _ W H gs os a _ (F0.out.below B1.out) G0.out Ha.out (S0.out.below B1.out)).mono ?_;rintro e w2 ⟨u,rfl,hu,hb2⟩;have U2:=aj (hu.ro);have B2:=aj (B1.out.trans (hb2.mono B1.out.size));clear hu hb2 x0 x1 x2 x3;go_wp2;go_ret2;exact⟨_,rfl,U2.out,B2⟩
 ·exact absurd rfl hz
def Af(ks:List KV)(Wn Hn an:Nat)(Y:WV)(u:aC):Bool:=Y.us.any (gQ ks (Fd.near Wn Hn an) u)
theorem xK(vk vw:Value)(ks:List KV)(Y:WV)(u:aC)(Wn Hn an:Nat)(w:World)(hk:Kl w vk ks)(hw:Wl w vw Y)(hf:ji ks Y)(e1:Y.wide=(Wn:Nat))(e2:Y.high=(Hn:Nat))(G:Fd.Good Wn Hn Y.gs Y.os)(ha:u.at_=(an:Nat))(hal:an<Wn*Hn)(hs:Sd w):
  Calls Tryz.prog 159 #[vk,vw,u.val] w λe w'=>e=.returned (.bool (Af ks Wn Hn an Y u))/\Below w.heap.size w w':=by
 have K:=aj (hk);have H:=aj (hw);have NN:=aj (Fe e1 e2 G ha hal hs hf);obtain⟨p1,q1,p2,q2,p3,q3,p4,q4,p5,q5,rfl⟩:=aV hw;obtain⟨pk,qk,rfl,ck1,ck2,kc⟩:=hk;clear hw kc hf e1 e2 G ha hal hs;unfold aC.val;go_enter Tryz.func159,Tryz.ntmps159;go_upto_region 1 with fail
 obtain⟨z,hz⟩:∃z,w.heap.size=z:=⟨_,rfl⟩;have BA:Hid (Below _ w (w.alloc (Obj.cells #[slice pk ks.length qk] 22))):=(Below.refl _ _).alloc (Nat.le_refl _) _;have BB:Hid (Below _ _ ((w.alloc (Obj.cells #[slice pk ks.length qk] 22)).alloc (Obj.cells #[int i64 Y.turn,int i64 Y.next,int i64 Y.wide,int i64 Y.high,slice p1 Y.gs.length q1,slice p2 Y.os.length q2,slice p3 Y.gold.length q3,slice p4 Y.us.length q4,slice p5 Y.qs.length q5] 29))):=(Below.refl _ _).alloc (Nat.le_refl _) _;have BC:Hid (Below _ _ (((w.alloc (Obj.cells #[slice pk ks.length qk] 22)).alloc (Obj.cells #[int i64 Y.turn,int i64 Y.next,int i64 Y.wide,int i64 Y.high,slice p1 Y.gs.length q1,slice p2 Y.os.length q2,slice p3 Y.gold.length q3,slice p4 Y.us.length q4,slice p5 Y.qs.length q5] 29)).alloc (Obj.cells #[int i64 u.id,int i64 u.aA,int i64 u.kind,int i64 u.at_,int i64 u.life,int i64 u.load,int i64 u.task,int i64 u.goal] 74))):=(Below.refl _ _).alloc (Nat.le_refl _) _;have B1:=aj ((BA.out.trans (BB.out.mono BA.out.size)).trans (BC.out.mono (Nat.le_trans BA.out.size BB.out.size)));have CK:Hid ((((w.alloc (Obj.cells #[slice pk ks.length qk] 22)).alloc (Obj.cells #[int i64 Y.turn,int i64 Y.next,int i64 Y.wide,int i64 Y.high,slice p1 Y.gs.length q1,slice p2 Y.os.length q2,slice p3 Y.gold.length q3,slice p4 Y.us.length q4,slice p5 Y.qs.length q5] 29)).alloc (Obj.cells #[int i64 u.id,int i64 u.aA,int i64 u.kind,int i64 u.at_,int i64 u.life,int i64 u.load,int i64 u.task,int i64 u.goal] 74)).cell? ⟨z,0,none⟩=some (slice pk ks.length qk)):=by
  rw[<-hz];have c0:(w.alloc (Obj.cells #[slice pk ks.length qk] 22)).cell? ⟨w.heap.size,0,none⟩=some (slice pk ks.length qk):=by simp
  have l0:=cell_lt c0;have c1:((w.alloc (Obj.cells #[slice pk ks.length qk] 22)).alloc (Obj.cells #[int i64 Y.turn,int i64 Y.next,int i64 Y.wide,int i64 Y.high,slice p1 Y.gs.length q1,slice p2 Y.os.length q2,slice p3 Y.gold.length q3,slice p4 Y.us.length q4,slice p5 Y.qs.length q5] 29)).cell? ⟨w.heap.size,0,none⟩=some (slice pk ks.length qk):=by rw[BB.out.cell (p:=⟨w.heap.size,0,none⟩) l0];exact c0
  unfold Hid;rw[BC.out.cell (p:=⟨w.heap.size,0,none⟩) (cell_lt c1)];exact c1
 have X1:Hid (Bw (((w.alloc (Obj.cells #[slice pk ks.length qk] 22)).alloc (Obj.cells #[int i64 Y.turn,int i64 Y.next,int i64 Y.wide,int i64 Y.high,slice p1 Y.gs.length q1,slice p2 Y.os.length q2,slice p3 Y.gold.length q3,slice p4 Y.us.length q4,slice p5 Y.qs.length q5] 29)).alloc (Obj.cells #[int i64 u.id,int i64 u.aA,int i64 u.kind,int i64 u.at_,int i64 u.life,int i64 u.load,int i64 u.task,int i64 u.goal] 74)) (z+1) Y (slice p1 Y.gs.length q1) (slice p2 Y.os.length q2) (slice p3 Y.gold.length q3) (slice p4 Y.us.length q4) (slice p5 Y.qs.length q5)):=(Bw.mk' (w:=(w.alloc (Obj.cells #[slice pk ks.length qk] 22))) Y _ _ _ _ _ (by rw[<-hz];simp)).below BC.out (by rw[<-hz];simp);have U1:Hid (Ub (((w.alloc (Obj.cells #[slice pk ks.length qk] 22)).alloc (Obj.cells #[int i64 Y.turn,int i64 Y.next,int i64 Y.wide,int i64 Y.high,slice p1 Y.gs.length q1,slice p2 Y.os.length q2,slice p3 Y.gold.length q3,slice p4 Y.us.length q4,slice p5 Y.qs.length q5] 29)).alloc (Obj.cells #[int i64 u.id,int i64 u.aA,int i64 u.kind,int i64 u.at_,int i64 u.life,int i64 u.load,int i64 u.task,int i64 u.goal] 74)) (z+2) [u] []):=oW u (by rw[<-hz];simp);rw[hz];clear BA BB BC hz;generalize (((w.alloc _).alloc _).alloc _)=w1 at *;obtain⟨x0,x1,x2,x3,x4,x5,x6,x7,x8⟩:=X1.out;obtain⟨y0,y1,y2,y3,y4,y5,y6,y7⟩:=U1.out.kQ (i:=0) (o:=u) rfl;simp only[Nat.zero_mul,Nat.zero_add] at y0 y1 y2 y3 y4 y5 y6 y7;rw[NN.out.2.2.2.1] at y3;go_wp2_with fail
 refine(MR _ Wn Hn _ _ an w1 ?_ NN.out.2.2.1 NN.out.2.2.2.2.1 (NN.out.2.2.2.2.2.1.below B1.out)).mono ?_
 ·have h:=oJ (H.out.below B1.out)
  rw[<-NN.out.1,<-NN.out.2.1];exact h
 rintro e w2 ⟨vn,rfl,hn,hb⟩;have B2:=aj (B1.out.trans (hb.mono B1.out.size));have CK2:Hid (w2.cell? ⟨z,0,none⟩=some (slice pk ks.length qk)):=by unfold Hid;rw[hb.cell (p:=⟨z,0,none⟩) (cell_lt CK.out)];exact CK.out
 have X2:=aj (X1.out.below hb X1.out.lt);have U2:=aj (U1.out.below hb U1.out.lt);have RN0:=aj (hn);obtain⟨na,nc,rfl,-⟩:=hn;clear hb x0 x1 x2 x3 x4 x5 x6 x7 x8 y0 y1 y2 y3 y4 y5 y6 y7 B1 CK X1 U1;go_upto_region 3 with fail
 have BD:Hid (Below _ w2 (w2.alloc (Obj.cells #[slice na (Fd.near Wn Hn an).length nc] 23))):=(Below.refl _ _).alloc (Nat.le_refl _) _;obtain⟨bn,hbn⟩:∃z,w2.heap.size=z:=⟨_,rfl⟩;have CN:Hid ((w2.alloc (Obj.cells #[slice na (Fd.near Wn Hn an).length nc] 23)).cell? ⟨bn,0,none⟩=some (slice na (Fd.near Wn Hn an).length nc)):=by unfold Hid;rw[<-hbn];simp
 rw[hbn];clear hbn;generalize (w2.alloc _)=w3 at *;have B3:=aj (B2.out.trans (BD.out.mono B2.out.size));have CK3:Hid (w3.cell? ⟨z,0,none⟩=some (slice pk ks.length qk)):=by unfold Hid;rw[BD.out.cell (p:=⟨z,0,none⟩) (cell_lt CK2.out)];exact CK2.out
 have X3:=aj (X2.out.below BD.out X2.out.lt);have U3:=aj (U2.out.below BD.out U2.out.lt);have RN3:=aj (RN0.out.below BD.out);have x7:=X3.out.c7;clear BD B2 CK2 X2 U2 RN0;go_wp2_with fail
 refine(Il _ (by intro args w;go_simp) _ #[.pointer (some ⟨z+2,0,none⟩),.pointer _,.pointer _] _ (gQ ks (Fd.near Wn Hn an) u) w3 (H.out.below B3.out).slices.2.2.2.1 (λW hW h hh=>?_)).mono ?_
 ·obtain⟨⟨kn,k,f1,f2,-⟩,-⟩:=NN.out.2.2.2.2.2.2.units h hh
  obtain⟨xk,hxk,hl,hc⟩:∃x,pk=some x/\x.block<w.heap.size/\∀(i:Nat) k,ks[i]? =some k->Kc w (x.add (i*11)) k:=by
   obtain⟨a',c',e',-,-,hx⟩:=K.out;injection e' with e1' e2' e3'
   subst e1';exact hx (by rintro hn;rw[hn] at f2;simp at f2)
  subst hxk;have bW:=B3.out.trans (hW.mono B3.out.size);obtain⟨-,y1,-⟩:=(U3.out.below hW U3.out.lt).kQ (i:=0) (o:=u) rfl;simp only[Nat.zero_mul,Nat.zero_add] at y1;exact xJ ks _ u h kn k _ z bn xk qk _ W f1 f2 y1 (by rw[hW.cell (p:=⟨z,0,none⟩) (cell_lt CK3.out)];exact CK3.out) (by rw[hW.cell (p:=⟨bn,0,none⟩) (cell_lt CN.out)];exact CN.out) ((hc kn k f2).below bW (by rw[add_block];exact hl)) (RN3.out.below hW)
 rintro e w4 ⟨rfl,hb⟩;have B4:=aj (B3.out.trans (hb.mono B3.out.size));clear hb x7;go_wp2;go_ret;exact⟨rfl,⟨B4.out.os,B4.out.tape,B4.out.output,B4.out.size,B4.out.block⟩⟩
def d_(Y:WV)(i:Nat)(u:aC):WV:={Y with us:=Y.us.set i (jc u 0),gold:=Y.gold.set u.aA.toNat (min (Y.gold.getD u.aA.toNat 0+u.load) 1000000)}
def brings(ks:List KV)(Wn Hn:Nat)(Y:WV)(u:aC):Bool:=decide (0<u.load)&&Af ks Wn Hn u.at_.toNat Y u
def br(ks:List KV)(Wn Hn:Nat)(Y:WV):Nat->WV×List bM
 |0=>(Y,[])
 |q+1=>match (br ks Wn Hn Y q).1.us[q]? with
  |none=>br ks Wn Hn Y q
  |some u=>if brings ks Wn Hn (br ks Wn Hn Y q).1 u=true then(d_ (br ks Wn Hn Y q).1 q u,(br ks Wn Hn Y q).2++[⟨5,u.id,u.load⟩]) else br ks Wn Hn Y q
theorem xM{ks:List KV}{Wn Hn:Nat}{Y:WV}{q:Nat}{u:aC}(hu:(br ks Wn Hn Y q).1.us[q]? =some u)(h:brings ks Wn Hn (br ks Wn Hn Y q).1 u=true):br ks Wn Hn Y (q+1)=(d_ (br ks Wn Hn Y q).1 q u,(br ks Wn Hn Y q).2++[⟨5,u.id,u.load⟩]):=by
 rw[br];simp only[hu];rw[if_pos h]
theorem Ag{ks:List KV}{Wn Hn:Nat}{Y:WV}{q:Nat}{u:aC}(hu:(br ks Wn Hn Y q).1.us[q]? =some u)(h:brings ks Wn Hn (br ks Wn Hn Y q).1 u=false):br ks Wn Hn Y (q+1)=br ks Wn Hn Y q:=by
 rw[br];simp only[hu];rw[if_neg (by rw[h];simp)]
theorem ji.bring{ks:List KV}{Y:WV}(h:ji ks Y){i:Nat}{u:aC}(hu:Y.us[i]? =some u):ji ks (d_ Y i u):=by
 obtain⟨⟨kn,k,e1,e2,l1,l2,l3⟩,⟨an,e3,hal⟩,pn,e4,hpl⟩:=h.units u (List.mem_of_getElem? hu);have hlen:(d_ Y i u).gold.length=Y.gold.length:=by simp[d_]
 refine⟨h.wide,λv hv=>?_,λg hg=>?_,by simpa[d_] using h.ul⟩
 ·rw[hlen]
  rcases List.mem_or_eq_of_mem_set hv with hv|rfl
  ·exact h.units v hv
  ·exact⟨⟨kn,k,e1,e2,by show(0:Int)<=0;omega,by show(0:Int)<=k.n7;omega,l3⟩,⟨an,e3,hal⟩,pn,e4,hpl⟩
 ·rcases List.mem_or_eq_of_mem_set hg with hg|rfl
  ·exact h.gold g hg
  ·have:Y.gold.getD u.aA.toNat 0∈Y.gold:=by
    rw[e4,Int.toNat_natCast,List.getD_eq_getElem?_getD,List.getElem?_eq_getElem hpl];exact List.getElem_mem _
   have:=h.gold _ this;omega
def VN(Y Z:WV):Prop:=Z.turn=Y.turn/\Z.next=Y.next/\Z.wide=Y.wide/\Z.high=Y.high/\Z.gs=Y.gs/\Z.os=Y.os/\Z.qs=Y.qs/\Z.us.length=Y.us.length/\Z.gold.length=Y.gold.length
theorem sW{ks:List KV}{Wn Hn:Nat}{Y:WV}:∀q,(br ks Wn Hn Y q).2.length<=q
 |0=>by simp[br]
 |q+1=>by
  have ih:=sW (ks:=ks) (Wn:=Wn) (Hn:=Hn) (Y:=Y) q;cases hu:(br ks Wn Hn Y q).1.us[q]? with
  |none=>rw[br];simp only[hu];omega
  |some u=>
   cases h:brings ks Wn Hn (br ks Wn Hn Y q).1 u with
   |true=>rw[xM hu h];simp;omega
   |false=>rw[Ag hu h];omega
structure xO(ks:List KV)(Y Z:WV)(es:List bM)(b1 b:Nat)(w:World)(u1 u2 u3 u4 u5 ev:Value)(V:World):Prop where
 o1:Ow V b1 u1 Z.gs
 o2:Ow V b1 u2 Z.os
 o3:Ow V b1 u3 Z.gold
 o4:dQ V b1 u4 Z.us
 o5:dK V b1 u5 Z.qs
 e:dY V b ev es
 d:[u1,u2,u3,u4,u5].Pairwise dP
 fr:Fr (λq=>u3.ownBlock=some q\/u4.ownBlock=some q) w V
 k:VN Y Z
 f:ji ks Z
section
variable {ks:List KV} {Y Z:WV} {es:List bM} {b1 b:Nat} {w:World} {u1 u2 u3 u4 u5 ev:Value} {V V':World}
theorem xO.below(h:xO ks Y Z es b1 b w u1 u2 u3 u4 u5 ev V)(hb:Below V.heap.size V V'):xO ks Y Z es b1 b w u1 u2 u3 u4 u5 ev V':=
 ⟨h.o1.below hb,h.o2.below hb,h.o3.below hb,h.o4.below hb,h.o5.below hb,h.e.below hb,h.d,h.fr.trans (Fr.below hb),h.k,h.f⟩
theorem xO.wl(h:xO ks Y Z es b1 b w u1 u2 u3 u4 u5 ev V):Wl V (.agg #[int i64 Y.turn,int i64 Y.next,int i64 Y.wide,int i64 Y.high,u1,u2,u3,u4,u5]) Z:=by
 obtain⟨a1,a2,a3,a4,-⟩:=h.k;exact⟨u1,u2,u3,u4,u5,by rw[a1,a2,a3,a4],h.o1.ro,h.o2.ro,h.o3.ro,h.o4.l,h.o5.l⟩
theorem xO.qF(h:xO ks Y Z es b1 b w u1 u2 u3 u4 u5 ev V):(dP u1 u2/\dP u1 u3/\dP u1 u4/\dP u1 u5)/\(dP u2 u3/\dP u2 u4/\dP u2 u5)/\(dP u3 u4/\dP u3 u5)/\dP u4 u5:=by
 have:=h.d;simp only[List.pairwise_cons,List.mem_cons,List.not_mem_nil,or_false,forall_eq_or_imp,forall_eq] at this;obtain⟨⟨a1,a2,a3,a4⟩,⟨b1,b2,b3⟩,⟨c1,c2⟩,d1,-⟩:=this;exact⟨⟨a1,a2,a3,a4⟩,⟨b1,b2,b3⟩,⟨c1,c2⟩,d1⟩
theorem xO.bring{gu gg cu cg i:Nat}{ur:List Value}{gr:Array Value}{u:aC}{ev':Value}(h:xO ks Y Z es b1 b w u1 u2 (slice (some ⟨gg,0,none⟩) Y.gold.length cg) (slice (some ⟨gu,0,none⟩) Y.us.length cu) u5 ev V)(hwb:w.heap.size=b)
  (hl:∀x∈[u1,u2,u5],∀k,x.ownBlock=some k->k<b) (hgu:b1<=gu) (c1:Y.us.length<=cu) (c2:cu<=maxLen) (c3:Y.us.length*8+ur.length=cu*8) (hgg:b1<=gg) (d1:Y.gold.length<=cg) (d2:cg<=maxLen) (d3:Y.gold.length+gr.size=cg)
  (hu:Z.us[i]? =some u) (hub:Ub V' gu (d_ Z i u).us ur) (hbk:Bk V' gg (d_ Z i u).gold gr) (he:dY V' b ev' (es++[⟨5,u.id,u.load⟩])) (hf:Fr (λq=>q=gu\/q=gg\/ev.ownBlock=some q) V V'):
  xO ks Y (d_ Z i u) (es++[⟨5,u.id,u.load⟩]) b1 b w u1 u2 (slice (some ⟨gg,0,none⟩) Y.gold.length cg) (slice (some ⟨gu,0,none⟩) Y.us.length cu) u5 ev' V':=by
 obtain⟨⟨d12,d13,d14,d15⟩,⟨d23,d24,d25⟩,⟨d34,d35⟩,d45⟩:=h.qF;have TB:(slice (some ⟨gu,0,none⟩) Y.us.length cu).ownBlock=some gu:=rfl;have Yd:(slice (some ⟨gg,0,none⟩) Y.gold.length cg).ownBlock=some gg:=rfl;have no:∀x∈[u1,u2,u5],dP x (slice (some ⟨gg,0,none⟩) Y.gold.length cg)->dP x (slice (some ⟨gu,0,none⟩) Y.us.length cu)->∀q,x.ownBlock=some q->¬(q=gu\/q=gg\/ev.ownBlock=some q):=λx hx e2 e4 q hq hs=>by
  rcases hs with e|e|e
  ·exact e4 q hq (by rw[TB,e])
  ·exact e2 q hq (by rw[Yd,e])
  ·have h8:=(h.e.block q e).1;have h9:=hl x hx q hq;omega
 have k':VN Y (d_ Z i u):=by
  obtain⟨a1,a2,a3,a4,a5,a6,a7,a8,a9⟩:=h.k;exact⟨a1,a2,a3,a4,a5,a6,a7,by simpa[d_] using a8,by simpa[d_] using a9⟩
 refine⟨hf.own h.o1 (no u1 (by simp) d13 d14),hf.own h.o2 (no u2 (by simp) d23 d24),?_,?_,hf.own h.o5 (no u5 (by simp) d35.symm d45.symm),he,h.d,?_,k',h.f.bring hu⟩
 ·have:=hbk.ow (base:=b1) (cap:=cg) hgg (by rw[k'.2.2.2.2.2.2.2.2];exact d1) d2 (by rw[k'.2.2.2.2.2.2.2.2];exact d3)
  rw[k'.2.2.2.2.2.2.2.2] at this;exact this
 ·have:=hub.Ql (base:=b1) (cap:=cu) hgu (by rw[k'.2.2.2.2.2.2.2.1];exact c1) c2 (by rw[k'.2.2.2.2.2.2.2.1];exact c3)
  rw[k'.2.2.2.2.2.2.2.1] at this;exact this
 ·refine⟨hf.os.trans h.fr.os,hf.tape.trans h.fr.tape,hf.output.trans h.fr.output,Nat.le_trans h.fr.size hf.size,λq hq hn=>(hf.block q (Nat.lt_of_lt_of_le hq h.fr.size) (λe=>?_)).trans (h.fr.block q hq hn)⟩
  rcases e with e|e|e
  ·exact hn (.inr (by rw[TB,e]))
  ·exact hn (.inl (by rw[Yd,e]))
  ·have:=(h.e.block q e).1;omega
end
theorem CJ(n:Nat):madeCells #[int i64 0] n=(intCells (List.replicate n 0)).toArray:=by
 apply Array.ext_getElem?;intro i;unfold madeCells intCells;by_cases h:i<n
 ·simp[h,Nat.mod_one]
 ·simp[h]
theorem Io(n:Nat)(w:World)(h:n<=1000000):∃w',(Instr.makeSlice 23 (int i64 (n:Nat)) (int i64 (n:Nat))).run Tryz.prog w=.ok (slice (some ⟨w.heap.size,0,none⟩) n n) w'/\Bk w' w.heap.size (List.replicate n 0) #[]/\Below w.heap.size w w'/\w'.heap.size=w.heap.size+1:=by
 obtain⟨i0,hi,hz0,hz1,hz2⟩:=info_parts iW;have hr:=run_make (P:=Tryz.prog) w 23 3 i0 (int i64 0) Tryz.underlying23 hi hz0 .i64 .i64 (n:Nat) (n:Nat) (by omega) (Int.le_refl _) (by rw[hz2];omega) (by omega);refine⟨_,hr,?_,(Below.refl _ _).alloc (Nat.le_refl _) _,by simp⟩;unfold Bk;rw[hz1,Int.toNat_natCast,Nat.mul_one,heap_alloc_new];have e:(Value.int _ 0).cells= #[int i64 0]:=rfl;rw[e,CJ,Array.append_empty]
theorem Ip(w:World)(ty:TypeId)(base:Nat)(v:Value)(ks:List bM)(hown:dY w base v ks)(b:Nat)(d:bM)(hd:oK w ⟨b,0,none⟩ d)(hl:ks.length<=1000000)(hbase:base<=w.heap.size):
  ∃g cap w',(Builtin.append_ #[58,58] ty #[v,slice (some ⟨b,0,none⟩) 1 1]).run Tryz.prog w=.ok (slice (some ⟨g,0,none⟩) (ks.length+1) cap) w'/\dY w' base (slice (some ⟨g,0,none⟩) (ks.length+1) cap) (ks++[d])/\w.grownBy w' v.ownBlock/\(v.ownBlock=some g\/g=w.heap.size)/\g<w'.heap.size:=by
 obtain⟨i0,hi,hz0,hz1,hz2⟩:=info_parts sS;obtain⟨g,cap,w6,hr,ho6,hg6,ha6,hl6⟩:=run_append_lies (P:=Tryz.prog) w 58 58 base 169 i0 _ 3 24 Tryz.underlying58 hi hz0 hz1 hz2 rfl (by decide) v ks.length _ hown ⟨b,0,none⟩ 1 1 (bM.cs d) rfl (λj u hj=>by
  have hjn:j<3:=(List.getElem?_eq_some_iff.1 hj).1;rw[Addr.add_lit,Nat.zero_add]
  match j,hjn,hj with
  |0,_,hj=>simp[bM.cs] at hj;subst hj;exact hd.c0
  |1,_,hj=>simp[bM.cs] at hj;subst hj;exact hd.c1
  |2,_,hj=>simp[bM.cs] at hj;subst hj;exact hd.c2) (λu hu=>by
  simp[bM.cs] at hu;rcases hu with rfl|rfl|rfl<;>rfl) (by decide) (by unfold maxLen;omega) (by omega) hbase _ rfl
 refine⟨g,cap,w6,hr,?_,hg6,ha6,hl6⟩;unfold dY;rw[List.length_append,List.flatMap_append];simpa using ho6
def YH(ks:List KV)(Wn Hn:Nat)(Y:WV)(z b1:Nat)(w1:World)(u1 u2 u3 u4 u5 ev j:Value)(V:World):Prop:=∃q:Nat,q<=Y.us.length/\j=int i64 (q:Nat)/\Wx V z (int i64 Y.turn) (int i64 Y.next) (int i64 Y.wide) (int i64 Y.high) u1 u2 u3 u4 u5/\xO ks Y (br ks Wn Hn Y q).1 (br ks Wn Hn Y q).2 b1 (z+1) w1 u1 u2 u3 u4 u5 ev V
theorem CO(vk:Value)(ks:List KV)(Y:WV)(u1 u2 u3 u4 u5:Value)(b1:Nat)(w0 w:World)(hk:Kl w0 vk ks)(hb0:Below w0.heap.size w0 w)(TD:w0.heap.size<=b1)(o1:Ow w b1 u1 Y.gs)(o2:Ow w b1 u2 Y.os)(o3:Ow w b1 u3 Y.gold)(o4:dQ w b1 u4 Y.us)(o5:dK w b1 u5 Y.qs)(hd:[u1,u2,u3,u4,u5].Pairwise dP)(hf:ji ks Y)(Wn Hn:Nat)(e1:Y.wide=(Wn:Nat))(e2:Y.high=(Hn:Nat))(G:Fd.Good Wn Hn Y.gs Y.os)(hs:Sd w0):
  Calls Tryz.prog 109 #[vk,.agg #[int i64 Y.turn,int i64 Y.next,int i64 Y.wide,int i64 Y.high,u1,u2,u3,u4,u5]] w λe w'=>∃ev,e=.returned ev/\xO ks Y (br ks Wn Hn Y Y.us.length).1 (br ks Wn Hn Y Y.us.length).2 b1 w.heap.size w u1 u2 u3 u4 u5 ev w':=by
 have WH:=aj (jD e1 e2 G hs);clear e1 e2 G hs;have KB:Hid (Kl w0 vk ks/\Below w0.heap.size w0 w/\w0.heap.size<=b1):=⟨hk,hb0,TD⟩;obtain⟨pk,qk,rfl,ck1,ck2,kc⟩:=hk;have T0:Hid (xO ks Y Y [] b1 w.heap.size w u1 u2 u3 u4 u5 (slice none 0 0) w):=⟨o1,o2,o3,o4,o5,dY.nil _ _,hd,Fr.below (Below.refl _ _),⟨rfl,rfl,rfl,rfl,rfl,rfl,rfl,rfl,rfl⟩,hf⟩;have LW:Hid (∀x∈[u1,u2,u5],∀k,x.ownBlock=some k->k<w.heap.size):=by
  intro x hx k hk;simp only[List.mem_cons,List.not_mem_nil,or_false] at hx;rcases hx with rfl|rfl|rfl
  ·exact(o1.block k hk).2
  ·exact(o2.block k hk).2
  ·exact(o5.block k hk).2
 have L24:Hid ((∀k,u3.ownBlock=some k->b1<=k/\k<w.heap.size)/\∀k,u4.ownBlock=some k->b1<=k/\k<w.heap.size):=⟨o3.block,o4.block⟩;have ul:=hf.ul;obtain⟨a1,h1,rfl⟩:=o1.len;obtain⟨a2,h2,rfl⟩:=o2.len;obtain⟨a3,h3,rfl⟩:=o3.len;obtain⟨a4,h4,rfl⟩:=o4.len;obtain⟨a5,h5,rfl⟩:=o5.len;clear hb0 TD kc o1 o2 o3 o4 o5 hd hf;go_enter Tryz.func109,Tryz.ntmps109;go_upto_region 2 with fail
 have BA:Hid (Below _ w (w.alloc (Obj.cells #[int i64 Y.turn,int i64 Y.next,int i64 Y.wide,int i64 Y.high,slice a1 Y.gs.length h1,slice a2 Y.os.length h2,slice a3 Y.gold.length h3,slice a4 Y.us.length h4,slice a5 Y.qs.length h5] 29))):=(Below.refl _ _).alloc (Nat.le_refl _) _;obtain⟨z,hz⟩:∃z,w.heap.size=z:=⟨_,rfl⟩;have HZ:=aj (hz);have X1:Hid (Wx _ z (int i64 Y.turn) (int i64 Y.next) (int i64 Y.wide) (int i64 Y.high) (slice a1 Y.gs.length h1) (slice a2 Y.os.length h2) (slice a3 Y.gold.length h3) (slice a4 Y.us.length h4) (slice a5 Y.qs.length h5)):=Wx.new _ _ _ _ _ _ _ _ _ hz;have S1:Hid ((w.alloc (Obj.cells #[int i64 Y.turn,int i64 Y.next,int i64 Y.wide,int i64 Y.high,slice a1 Y.gs.length h1,slice a2 Y.os.length h2,slice a3 Y.gold.length h3,slice a4 Y.us.length h4,slice a5 Y.qs.length h5] 29)).heap.size=z+1):=by unfold Hid;rw[<-hz];simp
 rw[hz];clear hz;generalize w.alloc _=w1 at *;have T1:Hid (xO ks Y Y [] b1 (z+1) w1 (slice a1 Y.gs.length h1) (slice a2 Y.os.length h2) (slice a3 Y.gold.length h3) (slice a4 Y.us.length h4) (slice a5 Y.qs.length h5) (slice none 0 0) w1):=by
  have h:=T0.out.below BA.out;exact⟨h.o1,h.o2,h.o3,h.o4,h.o5,dY.nil _ _,h.d,Fr.below (Below.refl _ _),h.k,h.f⟩
 clear T0;obtain⟨x0,x1,x2,x3,x4,x5,x6,x7,x8⟩:=X1.out.cells;go_wp2_with fail
 clear x0 x1 x2 x3 x4 x5 x6 x7 x8;go_loopw [5,11] (λev j V=>YH ks Wn Hn Y z b1 w1 (slice a1 Y.gs.length h1) (slice a2 Y.os.length h2) (slice a3 Y.gold.length h3) (slice a4 Y.us.length h4) (slice a5 Y.qs.length h5) ev j V) (λ_ j _=>Y.us.length-(intOf j).toNat)
 case atStart=>exact⟨0,Nat.zero_le _,rfl,X1.out,T1.out⟩
 case round=>
  obtain⟨q,hq,rfl,hx,ht⟩:=hrel;obtain⟨Z,hZ⟩:∃Z,(br ks Wn Hn Y q).1=Z:=⟨_,rfl⟩;obtain⟨es,hE⟩:∃es,(br ks Wn Hn Y q).2=es:=⟨_,rfl⟩;have HQ:Hid ((br ks Wn Hn Y q).1=Z/\(br ks Wn Hn Y q).2=es):=⟨hZ,hE⟩;have EL:Hid (es.length<=40):=by have h9:=sW (ks:=ks) (Wn:=Wn) (Hn:=Hn) (Y:=Y) q;rw[hE] at h9;unfold Hid;omega
  rw[hZ,hE] at ht;clear hZ hE;obtain⟨ea,ec,rfl⟩:=ht.e.len;have TQ:=aj (ht);have XQ:=aj (hx);clear hx ht;by_cases TI:q=Y.us.length
  ·have FIN:Hid ((br ks Wn Hn Y Y.us.length).1=Z/\(br ks Wn Hn Y Y.us.length).2=es):=by rw[<-TI];exact HQ.out
   subst TI;go_wp2;go_ret;refine⟨_,rfl,?_⟩;rw[FIN.out.1,FIN.out.2];have h:=TQ.out;exact⟨h.o1,h.o2,h.o3,h.o4,h.o5,h.e.mono (by have:=HZ.out;omega),h.d,(Fr.below BA.out).trans h.fr,h.k,h.f⟩
  ·have uz:q<Y.us.length:=by omega
   have hqi:((q:Nat):Int)<(Y.us.length:Nat):=by omega
   have hzl:q<Z.us.length:=by rw[TQ.out.k.2.2.2.2.2.2.2.1];exact uz
   obtain⟨u,hu⟩:∃u,Z.us[q]? =some u:=⟨_,List.getElem?_eq_getElem hzl⟩;obtain⟨⟨kn,k,hkn,hkk,l1,l2,l3⟩,⟨an,han,hal⟩,pn,hpn,hpl⟩:=TQ.out.f.units u (List.mem_of_getElem? hu);obtain⟨x,hx⟩:∃x,Z.gold[pn]? =some x:=⟨_,List.getElem?_eq_getElem hpl⟩;have UU:Hid (Z.us[q]? =some u/\u.aA=(pn:Nat)/\Z.gold[pn]? =some x/\u.at_=(an:Nat)/\an<Wn*Hn):=⟨hu,hpn,hx,han,by rw[TQ.out.k.2.2.2.2.2.1,WH.out.2.2.1.ol] at hal;exact hal⟩;have OX:=TQ.out.f.gold x (List.mem_of_getElem? hx);have VK:((pn:Nat):Int)<(Y.gold.length:Nat):=by rw[<-TQ.out.k.2.2.2.2.2.2.2.2];omega
   obtain⟨gu,cu,ur,e4,hgu,c1,c2,c3,hub⟩:∃g cap rest,slice a4 Y.us.length h4=slice (some ⟨g,0,none⟩) Y.us.length cap/\b1<=g/\Y.us.length<=cap/\cap<=maxLen/\Y.us.length*8+rest.length=cap*8/\Ub wr g Z.us rest:=by
    rcases TQ.out.o4.ub with⟨-,h⟩|⟨g,cap,rest,h⟩
    ·rw[h] at hzl;simp at hzl
    ·rw[TQ.out.k.2.2.2.2.2.2.2.1] at h;exact⟨g,cap,rest,h⟩
   injection e4 with e41 e42 e43
   subst e41 e43;obtain⟨gs,co,sr,e2,hgs,d1,d2,d3,hbk⟩:∃g cap rest,slice a3 Y.gold.length h3=slice (some ⟨g,0,none⟩) Y.gold.length cap/\b1<=g/\Y.gold.length<=cap/\cap<=maxLen/\Y.gold.length+rest.size=cap/\Bk wr g Z.gold rest:=by
    rcases TQ.out.o3.bk with⟨-,h⟩|⟨g,cap,rest,h⟩
    ·rw[h] at hpl;simp at hpl
    ·rw[TQ.out.k.2.2.2.2.2.2.2.2] at h;exact⟨g,cap,rest,h⟩
   injection e2 with e21 e22 e23
   subst e21 e23;have GB:=aj (Oz hgu c1 c2 c3 hgs d1 d2 d3);have UB:Hid (∀V,Below wr.heap.size wr V->Ub V gu Z.us ur):=λV hV=>hub.below hV hub.lt
   have BB:Hid (∀V,Below wr.heap.size wr V->Bk V gs Z.gold sr):=λV hV=>hbk.below hV
   have GL:Hid (gu<z/\gs<z/\gu≠gs):=by
    rw[<-HZ.out];refine⟨(L24.out.2 gu rfl).2,(L24.out.1 gs rfl).2,λe=>TQ.out.qF.2.2.1.1 gs rfl (by rw[<-e];rfl)⟩
   have VL:Hid (∀V,Below wr.heap.size wr V->Kl V (slice pk ks.length qk) ks):=λV hV=>by
    have b01:=KB.out.2.1.trans (BA.out.mono KB.out.2.1.size);have OV:=TQ.out.fr.low b01.size (λk hk=>by
     rcases hk with hk|hk
     ·have:=(L24.out.1 k hk).1;have:=KB.out.2.2;omega
     ·have:=(L24.out.2 k hk).1;have:=KB.out.2.2;omega)
    exact KB.out.1.below ((b01.trans OV).trans (hV.mono (b01.trans OV).size))
   have SV:Hid (∀V,Below wr.heap.size wr V->Sd V):=λV hV=>by
    have b01:=KB.out.2.1.trans (BA.out.mono KB.out.2.1.size);have OV:=TQ.out.fr.low b01.size (λk hk=>by
     rcases hk with hk|hk
     ·have:=(L24.out.1 k hk).1;have:=KB.out.2.2;omega
     ·have:=(L24.out.2 k hk).1;have:=KB.out.2.2;omega)
    exact WH.out.2.2.2.below ((b01.trans OV).trans (hV.mono (b01.trans OV).size))
   have CV:Hid (∀V,Below wr.heap.size wr V->Wx V z (int i64 Y.turn) (int i64 Y.next) (int i64 Y.wide) (int i64 Y.high) (slice a1 Y.gs.length h1) (slice a2 Y.os.length h2) (slice (some ⟨gs,0,none⟩) Y.gold.length h3) (slice (some ⟨gu,0,none⟩) Y.us.length h4) (slice a5 Y.qs.length h5)/\dB V ⟨gu,q*8,none⟩ u):=λV hV=>⟨XQ.out.below hV XQ.out.lt,(UB.out V hV).kQ UU.out.1⟩
   have D5:Hid (Below wr.heap.size wr {wr with drawn:=wr.drawn+1}):=(Below.refl _ _).drew;have xq:=XQ.out;obtain⟨x0,x1,x2,x3,x4,x5,x6,x7,x8⟩:=xq.cells;obtain⟨y0,y1,y2,y3,y4,y5,y6,y7⟩:=(CV.out _ (Below.refl _ _)).2;clear xq hu hpn hkn hkk han hx hal hzl hgu c1 c2 c3 hgs d1 d2 d3 hub hbk e42 e22 hpl;go_upto_region 6 with fail
   by_cases hld:0<u.load
   case neg=>
    have NX:Hid (br ks Wn Hn Y (q+1)=(Z,es)):=by
     have h9:=Ag (ks:=ks) (Wn:=Wn) (Hn:=Hn) (Y:=Y) (q:=q) (u:=u) (by rw[HQ.out.1];exact UU.out.1) (by unfold brings;rw[decide_eq_false hld];rfl);unfold Hid;rw[h9,<-HQ.out.1,<-HQ.out.2]
    go_quiet (fail);have D6:Hid (Below wr.heap.size wr (wr.drewN nq)):=⟨rfl,rfl,rfl,Nat.le_refl _,λ_ _=>rfl⟩;generalize wr.drewN nq=w6 at *;go_wp2;go_round
    case rel=>exact⟨q+1,by omega,by go_num,XQ.out.below D6.out XQ.out.lt,by rw[NX.out];exact TQ.out.below D6.out⟩
    case measure=>simp[intOf];omega
   clear x0 x1 x2 x3 x4 x5 x6 x7 x8 y0 y1 y2 y3 y4 y5 y6 y7;refine aH [(true,0),(true,1),(true,2),(true,3),(true,4),(true,5),(true,6),(true,7),(true,8),(true,9),(true,10),(false,11)] [(false,12)] (λV=>Wx V z (int i64 Y.turn) (int i64 Y.next) (int i64 Y.wide) (int i64 Y.high) (slice a1 Y.gs.length h1) (slice a2 Y.os.length h2) (slice (some ⟨gs,0,none⟩) Y.gold.length h3) (slice (some ⟨gu,0,none⟩) Y.us.length h4) (slice a5 Y.qs.length h5)/\dB V ⟨gu,q*8,none⟩ u) (by kernel_rfl) (by kernel_rfl) (by kernel_rfl) (by decide+kernel) (by decide+kernel) (CV.out _ D5.out) ?_;generalize ({wr with drawn:=wr.drawn+1}:World)=w6 at *;refine ay rfl (.pointer (some ⟨gu,q*8,none⟩)) (by go_simp) (λV hV=>by go_simp) ?_;go_simp;refine ay rfl (.pointer (some ⟨gu,q*8,none⟩)) (by go_simp) (λV hV=>by obtain⟨hX,hU⟩:=hV;obtain⟨x0,x1,x2,x3,x4,x5,x6,x7,x8⟩:=hX.cells;obtain⟨y0,y1,y2,y3,y4,y5,y6,y7⟩:=hU;go_simp) ?_;go_simp;refine ay rfl (.pointer (some ⟨gu,q*8+5,none⟩)) (by go_simp) (λV hV=>by go_simp) ?_;go_simp;refine ay rfl (int i64 u.load) (by go_simp) (λV hV=>by obtain⟨hX,hU⟩:=hV;obtain⟨x0,x1,x2,x3,x4,x5,x6,x7,x8⟩:=hX.cells;obtain⟨y0,y1,y2,y3,y4,y5,y6,y7⟩:=hU;go_simp) ?_;go_simp;refine ay rfl (.bool true) (by go_simp) (λV hV=>by go_simp) ?_;go_simp;refine ay rfl (.bool true) (by go_simp) (λV hV=>by go_simp) ?_;go_simp;refine ay rfl (slice pk ks.length qk) (by go_simp) (λV hV=>by go_simp) ?_;go_simp;refine ay rfl (.agg #[int i64 Y.turn,int i64 Y.next,int i64 Y.wide,int i64 Y.high,slice a1 Y.gs.length h1,slice a2 Y.os.length h2,slice (some ⟨gs,0,none⟩) Y.gold.length h3,slice (some ⟨gu,0,none⟩) Y.us.length h4,slice a5 Y.qs.length h5]) (by go_simp) (λV hV=>by obtain⟨hX,hU⟩:=hV;obtain⟨x0,x1,x2,x3,x4,x5,x6,x7,x8⟩:=hX.cells;obtain⟨y0,y1,y2,y3,y4,y5,y6,y7⟩:=hU;go_simp) ?_;go_simp;refine ay rfl (.pointer (some ⟨gu,q*8,none⟩)) (by go_simp) (λV hV=>by go_simp) ?_;go_simp;refine ay rfl (.pointer (some ⟨gu,q*8,none⟩)) (by go_simp) (λV hV=>by obtain⟨hX,hU⟩:=hV;obtain⟨x0,x1,x2,x3,x4,x5,x6,x7,x8⟩:=hX.cells;obtain⟨y0,y1,y2,y3,y4,y5,y6,y7⟩:=hU;go_simp) ?_;go_simp;refine ay rfl (.agg #[int i64 u.id,int i64 u.aA,int i64 u.kind,int i64 u.at_,int i64 u.life,int i64 u.load,int i64 u.task,int i64 u.goal]) (by go_simp) (λV hV=>by obtain⟨hX,hU⟩:=hV;obtain⟨x0,x1,x2,x3,x4,x5,x6,x7,x8⟩:=hX.cells;obtain⟨y0,y1,y2,y3,y4,y5,y6,y7⟩:=hU;go_simp) ?_;go_simp;refine bF rfl 159 #[slice pk ks.length qk,.agg #[int i64 Y.turn,int i64 Y.next,int i64 Y.wide,int i64 Y.high,slice a1 Y.gs.length h1,slice a2 Y.os.length h2,slice (some ⟨gs,0,none⟩) Y.gold.length h3,slice (some ⟨gu,0,none⟩) Y.us.length h4,slice a5 Y.qs.length h5],.agg #[int i64 u.id,int i64 u.aA,int i64 u.kind,int i64 u.at_,int i64 u.life,int i64 u.load,int i64 u.task,int i64 u.goal]] (by go_simp) (by go_simp) ?_;have T6:=aj (TQ.out.below D5.out);refine Calls.mono (xK _ _ ks Z u Wn Hn an w6 (VL.out _ D5.out) T6.out.wl T6.out.f (by rw[TQ.out.k.2.2.1];exact WH.out.1) (by rw[TQ.out.k.2.2.2.1];exact WH.out.2.1) (by rw[TQ.out.k.2.2.2.2.1,TQ.out.k.2.2.2.2.2.1];exact WH.out.2.2.1) UU.out.2.2.2.1 UU.out.2.2.2.2 (SV.out _ D5.out)) ?_;rintro e w7 ⟨rfl,b7⟩;have D7:=aj (D5.out.trans (b7.mono D5.out.size));refine⟨_,rfl,CV.out _ D7.out,?_⟩;have BR:Hid (brings ks Wn Hn Z u=Af ks Wn Hn an Z u):=by unfold Hid brings;rw[decide_eq_true hld,UU.out.2.2.2.1,Int.toNat_natCast];rfl
   obtain⟨hh,hhh⟩:∃b,Af ks Wn Hn an Z u=b:=⟨_,rfl⟩;rw[hhh] at BR ⊢;clear b7 hhh T6;go_simp;refine aN rfl (.bool hh) w7 (by go_simp) (by go_simp) trivial ?_;go_simp;unfold aP;have T7:=aj (TQ.out.below D7.out);have X7:=aj (XQ.out.below D7.out XQ.out.lt);cases hh with
   |false=>
    have NX:Hid (br ks Wn Hn Y (q+1)=(Z,es)):=by
     have h9:=Ag (ks:=ks) (Wn:=Wn) (Hn:=Hn) (Y:=Y) (q:=q) (u:=u) (by rw[HQ.out.1];exact UU.out.1) (by rw[HQ.out.1];exact BR.out);unfold Hid;rw[h9,<-HQ.out.1,<-HQ.out.2]
    go_wp2;go_round
    case rel=>exact⟨q+1,by omega,by go_num,X7.out,by rw[NX.out];exact T7.out⟩
    case measure=>simp[intOf];omega
   |true=>
    have NX:Hid (br ks Wn Hn Y (q+1)=(d_ Z q u,es++[⟨5,u.id,u.load⟩])):=by
     have h9:=xM (ks:=ks) (Wn:=Wn) (Hn:=Hn) (Y:=Y) (q:=q) (u:=u) (by rw[HQ.out.1];exact UU.out.1) (by rw[HQ.out.1];exact BR.out);unfold Hid;rw[h9,HQ.out.1,HQ.out.2]
    obtain⟨mg,Ye⟩:∃m,min (x+u.load) 1000000=m:=⟨_,rfl⟩;have HM:=aj (Ye);have wr1:IntKind.i64.wrap (x+u.load)=x+u.load:=by rw[IntKind.wrap_i64];omega
    have C7:Hid (∀V,Below w7.heap.size w7 V->Wx V z (int i64 Y.turn) (int i64 Y.next) (int i64 Y.wide) (int i64 Y.high) (slice a1 Y.gs.length h1) (slice a2 Y.os.length h2) (slice (some ⟨gs,0,none⟩) Y.gold.length h3) (slice (some ⟨gu,0,none⟩) Y.us.length h4) (slice a5 Y.qs.length h5)/\dB V ⟨gu,q*8,none⟩ u/\V.cell? ⟨gs,pn,none⟩=some (int i64 x)):=λV hV=>⟨X7.out.below hV X7.out.lt,(UB.out V (D7.out.trans (hV.mono D7.out.size))).kQ UU.out.1,(BB.out V (D7.out.trans (hV.mono D7.out.size))).cell UU.out.2.2.1⟩
    have D8:Hid (Below w7.heap.size w7 {w7 with drawn:=w7.drawn+1}):=(Below.refl _ _).drew;clear Ye;go_upto_region 7 with fail
    refine aH [(true,0),(true,1),(true,2),(true,3),(true,4),(true,5),(true,6),(true,7),(true,8),(true,9),(true,10),(true,11),(true,12),(true,13),(true,14),(true,15),(true,16),(true,17),(true,18),(true,19),(true,20)] [(false,21)] (λV=>Wx V z _ _ _ _ (slice a1 Y.gs.length h1) (slice a2 Y.os.length h2) (slice (some ⟨gs,0,none⟩) Y.gold.length h3) (slice (some ⟨gu,0,none⟩) Y.us.length h4) (slice a5 Y.qs.length h5)/\dB V ⟨gu,q*8,none⟩ u/\V.cell? ⟨gs,pn,none⟩=some (int i64 x)) (by kernel_rfl) (by kernel_rfl) (by kernel_rfl) (by decide+kernel) (by decide+kernel) (C7.out _ D8.out) ?_;generalize ({w7 with drawn:=w7.drawn+1}:World)=w8 at *;refine ay rfl (.pointer (some ⟨z,6,none⟩)) (by go_simp) (λV hV=>by go_simp) ?_;go_simp;refine ay rfl (slice (some ⟨gs,0,none⟩) Y.gold.length h3) (by go_simp) (λV hV=>by obtain⟨hX,hU,hG⟩:=hV;obtain⟨x0,x1,x2,x3,x4,x5,x6,x7,x8⟩:=hX.cells;obtain⟨y0,y1,y2,y3,y4,y5,y6,y7⟩:=hU;rw[UU.out.2.1] at y1;go_simp) ?_;go_simp;refine ay rfl (.pointer (some ⟨gu,q*8,none⟩)) (by go_simp) (λV hV=>by go_simp) ?_;go_simp;refine ay rfl (.pointer (some ⟨gu,q*8,none⟩)) (by go_simp) (λV hV=>by obtain⟨hX,hU,hG⟩:=hV;obtain⟨x0,x1,x2,x3,x4,x5,x6,x7,x8⟩:=hX.cells;obtain⟨y0,y1,y2,y3,y4,y5,y6,y7⟩:=hU;rw[UU.out.2.1] at y1;go_simp) ?_;go_simp;refine ay rfl (.pointer (some ⟨gu,q*8+1,none⟩)) (by go_simp) (λV hV=>by go_simp) ?_;go_simp;refine ay rfl (int i64 (pn:Nat)) (by go_simp) (λV hV=>by obtain⟨hX,hU,hG⟩:=hV;obtain⟨x0,x1,x2,x3,x4,x5,x6,x7,x8⟩:=hX.cells;obtain⟨y0,y1,y2,y3,y4,y5,y6,y7⟩:=hU;rw[UU.out.2.1] at y1;go_simp) ?_;go_simp;refine ay rfl (.pointer (some ⟨z,6,none⟩)) (by go_simp) (λV hV=>by go_simp) ?_;go_simp;refine ay rfl (slice (some ⟨gs,0,none⟩) Y.gold.length h3) (by go_simp) (λV hV=>by obtain⟨hX,hU,hG⟩:=hV;obtain⟨x0,x1,x2,x3,x4,x5,x6,x7,x8⟩:=hX.cells;obtain⟨y0,y1,y2,y3,y4,y5,y6,y7⟩:=hU;rw[UU.out.2.1] at y1;go_simp) ?_;go_simp;refine ay rfl (.pointer (some ⟨gu,q*8,none⟩)) (by go_simp) (λV hV=>by go_simp) ?_;go_simp;refine ay rfl (.pointer (some ⟨gu,q*8,none⟩)) (by go_simp) (λV hV=>by obtain⟨hX,hU,hG⟩:=hV;obtain⟨x0,x1,x2,x3,x4,x5,x6,x7,x8⟩:=hX.cells;obtain⟨y0,y1,y2,y3,y4,y5,y6,y7⟩:=hU;rw[UU.out.2.1] at y1;go_simp) ?_;go_simp;refine ay rfl (.pointer (some ⟨gu,q*8+1,none⟩)) (by go_simp) (λV hV=>by go_simp) ?_;go_simp;refine ay rfl (int i64 (pn:Nat)) (by go_simp) (λV hV=>by obtain⟨hX,hU,hG⟩:=hV;obtain⟨x0,x1,x2,x3,x4,x5,x6,x7,x8⟩:=hX.cells;obtain⟨y0,y1,y2,y3,y4,y5,y6,y7⟩:=hU;rw[UU.out.2.1] at y1;go_simp) ?_;go_simp;refine ay rfl (.pointer (some ⟨gs,pn,none⟩)) (by go_simp) (λV hV=>by go_simp) ?_;go_simp;refine ay rfl (int i64 x) (by go_simp) (λV hV=>by obtain⟨hX,hU,hG⟩:=hV;obtain⟨x0,x1,x2,x3,x4,x5,x6,x7,x8⟩:=hX.cells;obtain⟨y0,y1,y2,y3,y4,y5,y6,y7⟩:=hU;rw[UU.out.2.1] at y1;go_simp) ?_;go_simp;refine ay rfl (.pointer (some ⟨gu,q*8,none⟩)) (by go_simp) (λV hV=>by go_simp) ?_;go_simp;refine ay rfl (.pointer (some ⟨gu,q*8,none⟩)) (by go_simp) (λV hV=>by obtain⟨hX,hU,hG⟩:=hV;obtain⟨x0,x1,x2,x3,x4,x5,x6,x7,x8⟩:=hX.cells;obtain⟨y0,y1,y2,y3,y4,y5,y6,y7⟩:=hU;rw[UU.out.2.1] at y1;go_simp) ?_;go_simp;refine ay rfl (.pointer (some ⟨gu,q*8+5,none⟩)) (by go_simp) (λV hV=>by go_simp) ?_;go_simp;refine ay rfl (int i64 u.load) (by go_simp) (λV hV=>by obtain⟨hX,hU,hG⟩:=hV;obtain⟨x0,x1,x2,x3,x4,x5,x6,x7,x8⟩:=hX.cells;obtain⟨y0,y1,y2,y3,y4,y5,y6,y7⟩:=hU;rw[UU.out.2.1] at y1;go_simp) ?_;go_simp;refine ay rfl (int i64 (x+u.load)) (by go_simp) (λV hV=>by go_simp) ?_;go_simp;refine ay rfl (int i64 mg) (by go_simp) (λV hV=>by have h9:=HM.out;first|(go_simp;done)|(go_simp;rw[h9])|(simp[h9];go_simp)) ?_;go_simp;refine ay rfl (.pointer (some ⟨gs,pn,none⟩)) (by go_simp) (λV hV=>by go_simp) ?_;go_simp;unfold aW;have D78:=aj (D7.out.trans (D8.out.mono D7.out.size));have X8:=aj (XQ.out.below D78.out XQ.out.lt);have T8:=aj (TQ.out.below D78.out);have B8:=aj (BB.out _ D78.out);have U8:=aj (UB.out _ D78.out);have tz:=B8.out.thaw pn;have cz:=B8.out.cell UU.out.2.2.1;refine g_ rfl (w8.setCell ⟨gs,pn,none⟩ (int i64 mg)) (by go_simp) (by go_simp) trivial ?_;go_simp;unfold aP;have K9:Hid (Kp gs w8 (w8.setCell ⟨gs,pn,none⟩ (int i64 mg))):=Kp.set _ _ _;have B9:Hid (Bk _ gs (Z.gold.set pn mg) sr):=B8.out.set pn _ (List.getElem?_eq_some_iff.1 UU.out.2.2.1).1;clear tz cz C7 wr1;generalize (w8.setCell _ _)=w9 at *;have F9:Hid (Fr (λq=>q=gs) w8 w9):=Fr.kp K9.out rfl;have X9:=aj (F9.out.wx X8.out (by have:=GL.out.2.1;omega));have U9:Hid (Ub w9 gu Z.us ur):=(F9.out.block gu U8.out.lt (by have:=GL.out.2.2;omega)).trans U8.out;have E9:Hid (dY w9 (z+1) (slice ea es.length ec) es):=F9.out.own T8.out.e (λb hb e=>by have h9:=(T8.out.e.block b hb).1;have h8:=GL.out;omega);clear K9 X8 U8 B8;go_upto_region 8 with fail
    have DE:Hid (Below w9.heap.size w9 {w9 with drawn:=w9.drawn+1}):=(Below.refl _ _).drew;have CE:Hid (∀V,Below w9.heap.size w9 V->dB V ⟨gu,q*8,none⟩ u):=λV hV=>(U9.out.below hV U9.out.lt).kQ UU.out.1
    refine aH [(true,0),(true,1),(true,2),(true,3),(true,4),(true,5),(true,6),(true,7),(true,8),(true,9),(false,10),(false,11)] [(false,12)] (λV=>dB V ⟨gu,q*8,none⟩ u) (by kernel_rfl) (by kernel_rfl) (by kernel_rfl) (by decide+kernel) (by decide+kernel) (CE.out _ DE.out) ?_;generalize ({w9 with drawn:=w9.drawn+1}:World)=wa at *;refine ay rfl (slice ea es.length ec) (by go_simp) (λV hV=>by go_simp) ?_;go_simp;refine ay rfl (.pointer (some ⟨gu,q*8,none⟩)) (by go_simp) (λV hV=>by go_simp) ?_;go_simp;refine ay rfl (.pointer (some ⟨gu,q*8,none⟩)) (by go_simp) (λV hV=>by obtain⟨y0,y1,y2,y3,y4,y5,y6,y7⟩:=hV;go_simp) ?_;go_simp;refine ay rfl (.pointer (some ⟨gu,q*8,none⟩)) (by go_simp) (λV hV=>by go_simp) ?_;go_simp;refine ay rfl (int i64 u.id) (by go_simp) (λV hV=>by obtain⟨y0,y1,y2,y3,y4,y5,y6,y7⟩:=hV;go_simp) ?_;go_simp;refine ay rfl (.pointer (some ⟨gu,q*8,none⟩)) (by go_simp) (λV hV=>by go_simp) ?_;go_simp;refine ay rfl (.pointer (some ⟨gu,q*8,none⟩)) (by go_simp) (λV hV=>by obtain⟨y0,y1,y2,y3,y4,y5,y6,y7⟩:=hV;go_simp) ?_;go_simp;refine ay rfl (.pointer (some ⟨gu,q*8+5,none⟩)) (by go_simp) (λV hV=>by go_simp) ?_;go_simp;refine ay rfl (int i64 u.load) (by go_simp) (λV hV=>by obtain⟨y0,y1,y2,y3,y4,y5,y6,y7⟩:=hV;go_simp) ?_;go_simp;refine ay rfl (.agg #[int i64 5,int i64 u.id,int i64 u.load]) (by go_simp) (λV hV=>by go_simp) ?_;go_simp;have BA:Hid (Below _ wa (wa.alloc (Obj.cells #[int i64 5,int i64 u.id,int i64 u.load] 169))):=(Below.refl _ _).alloc (Nat.le_refl _) _;have Vo:=aj (DE.out.trans (BA.out.mono DE.out.size));have RC:Hid (oK (wa.alloc (Obj.cells #[.int _ 5,.int _ u.id,.int _ u.load] _)) _ _):=oK.mk' ⟨5,u.id,u.load⟩ rfl;refine dw rfl (slice (some ⟨wa.heap.size,0,none⟩) 1 1) (wa.alloc (Obj.cells #[int i64 5,int i64 u.id,int i64 u.load] 169)) (by go_simp) (by go_simp) (CE.out _ Vo.out) ?_;go_simp;generalize wa.alloc _=wb at *;have EB:=aj (E9.out.below Vo.out);have SB:Hid (z+1<=wb.heap.size):=Nat.le_trans X9.out.lt Vo.out.size;obtain⟨gg,gc,wE,hr,ho8,hg8,-,-⟩:=Ip wb 58 (z+1) _ es EB.out _ _ RC.out (by have:=EL.out;omega) SB.out;have EO:=aj (ho8);have FE:=aj ((Fr.below Vo.out).trans (Fr.gb hg8 (λk hk=>hk)));have NE:Hid (∀k,k<=z->¬(slice ea es.length ec:Value).ownBlock=some k):=λk hk e=>by have:=(E9.out.block k e).1;omega
    have UE:Hid (Ub wE gu Z.us ur):=(FE.out.block gu U9.out.lt (NE.out gu (by have:=GL.out.1;omega))).trans U9.out;have BK:Hid (Bk wE gs (Z.gold.set pn mg) sr):=(FE.out.block gs B9.out.lt (NE.out gs (by have:=GL.out.2.1;omega))).trans B9.out;have XE:=aj (FE.out.wx X9.out (NE.out z (Nat.le_refl _)));refine dw rfl (slice (some ⟨gg,0,none⟩) (es.length+1) gc) wE (by go_simp) (f_ _ _ _ _ rfl _ _ (by go_simp) (by go_simp) hr) (UE.out.kQ UU.out.1) ?_;clear hr ho8 hg8;go_simp;unfold aW;refine aN rfl (slice (some ⟨gg,0,none⟩) (es.length+1) gc) wE (by go_simp) (by go_simp) trivial ?_;go_simp;unfold aP;obtain⟨y0,y1,y2,y3,y4,y5,y6,y7⟩:=UE.out.kQ UU.out.1;have t5:=UE.out.thaw (q*8+5);have UF:Hid (Ub _ gu (Z.us.set q (jc u 0)) ur):=UE.out.Gj UU.out.1 0;have KF:Hid (Kp gu wE (wE.setCell ⟨gu,q*8+5,none⟩ (int i64 0))):=Kp.set _ _ _;have BF:Hid (Bk (wE.setCell ⟨gu,q*8+5,none⟩ (int i64 0)) gs (Z.gold.set pn mg) sr):=BK.out.other (by have:=GL.out.2.2;omega) _ _;go_upto_region 10 with fail
    clear y0 y1 y2 y3 y4 y5 y6 y7 t5;generalize wE.setCell _ _=wF at *;have FF:Hid (Fr (λq=>q=gu) wE wF):=Fr.kp KF.out rfl;have XF:=aj (FF.out.wx XE.out (by have:=GL.out.1;omega));have EF:Hid (dY wF (z+1) (slice (some ⟨gg,0,none⟩) (es.length+1) gc) (es++[⟨5,u.id,u.load⟩])):=FF.out.own EO.out (λb hb e=>by have h9:=(EO.out.block b hb).1;have h8:=GL.out;omega);have FA:Hid (Fr (λq=>q=gu\/q=gs\/(slice ea es.length ec:Value).ownBlock=some q) w8 wF):=((F9.out.mono (λk hk=>.inr (.inl hk))).trans (FE.out.mono (λk hk=>.inr (.inr hk)))).trans (FF.out.mono (λk hk=>.inl hk));have EW:Hid ((d_ Z q u).gold=Z.gold.set pn mg):=by
     unfold Hid d_;simp only[UU.out.2.1,Int.toNat_natCast,List.getD_eq_getElem?_getD,UU.out.2.2.1,Option.getD_some,HM.out]
    have TE:Hid (xO ks Y (d_ Z q u) (es++[⟨5,u.id,u.load⟩]) b1 (z+1) w1 (slice a1 Y.gs.length h1) (slice a2 Y.os.length h2) (slice (some ⟨gs,0,none⟩) Y.gold.length h3) (slice (some ⟨gu,0,none⟩) Y.us.length h4) (slice a5 Y.qs.length h5) (slice (some ⟨gg,0,none⟩) (es.length+1) gc) wF):=
     T8.out.bring (V':=wF) (i:=q) (u:=u) (ur:=ur) (gr:=sr) (ev':=slice (some ⟨gg,0,none⟩) (es.length+1) gc) S1.out (λy hy k hk=>by have:=LW.out y hy k hk;have:=HZ.out;omega) GB.out.1 GB.out.2.1 GB.out.2.2.1 GB.out.2.2.2.1 GB.out.2.2.2.2.1 GB.out.2.2.2.2.2.1 GB.out.2.2.2.2.2.2.1 GB.out.2.2.2.2.2.2.2 UU.out.1 UF.out (by rw[EW.out];exact BF.out) EF.out FA.out
    go_wp2;go_round
    case rel=>exact⟨q+1,by omega,by go_num,XF.out,by rw[NX.out];exact TE.out⟩
    case measure=>simp[intOf];omega
theorem Iq(ks:List bM):(ks.flatMap bM.cs).length=ks.length*3:=by
 induction ks with
 |nil=>rfl
 |cons x l ih=>rw[List.flatMap_cons,List.length_append,ih,List.length_cons,Nat.succ_mul,Nat.add_comm];rfl
theorem MV{w:World}{y:Addr}{ks:List bM}(hc:∀(i:Nat) k,ks[i]? =some k->oK w (y.add (i*3)) k)(j:Nat)(u:Value)(hj:(ks.flatMap bM.cs)[j]? =some u):w.cell? (y.add j)=some u:=by
 have hjl:j<ks.length*3:=by rw[<-Iq];exact(List.getElem?_eq_some_iff.1 hj).1
 obtain⟨i,r,hr,rfl⟩:∃i r,r<3/\j=i*3+r:=⟨j/3,j%3,Nat.mod_lt _ (by decide),by omega⟩;have hi:i<ks.length:=by omega
 obtain⟨k,hk⟩:∃k,ks[i]? =some k:=⟨_,List.getElem?_eq_getElem hi⟩;rw[sU ks i r k hk hr] at hj;have h:=hc i k hk;rcases Nat.eq_zero_or_pos r with rfl|hr0
 ·simp[bM.cs] at hj
  subst hj;exact h.c0
 ·have ea:y.add (i*3+r)=⟨(y.add (i*3)).block,(y.add (i*3)).off+r,none⟩:=by
   unfold Addr.add;rw[if_neg (by omega)];split<;>simp<;>omega
  rw[ea]
  match r,hr,hr0,hj with
  |1,_,_,hj=>simp[bM.cs] at hj;subst hj;exact h.c1
  |2,_,_,hj=>simp[bM.cs] at hj;subst hj;exact h.c2
theorem Ah(w:World)(ty:TypeId)(base:Nat)(v:Value)(ks:List bM)(hown:dY w base v ks)(u:Value)(ys:List bM)(hu:RY w u ys)(hl:ks.length+ys.length<=1000000)(hbase:base<=w.heap.size):
  ∃v' w',(Builtin.append_ #[58,58] ty #[v,u]).run Tryz.prog w=.ok v' w'/\dY w' base v' (ks++ys)/\w.grownBy w' v.ownBlock:=by
 obtain⟨i0,hi,hz0,hz1,hz2⟩:=info_parts sS;obtain⟨ad,c,rfl,h1,h2,h3⟩:=hu;by_cases hn:ys=[]
 ·subst hn
  exact⟨v,w,fP _ 58 ty _ i0 3 Tryz.underlying58 hi v _ _ hown ad c,by simpa using hown,World.grownBy.refl _ _⟩
 ·obtain⟨y,rfl,hy,hc⟩:=h3 hn
  obtain⟨g,cap,w6,hr,ho6,hg6,-,-⟩:=run_append_lies (P:=Tryz.prog) w 58 58 base 169 i0 _ 3 24 Tryz.underlying58 hi hz0 hz1 hz2 rfl (by decide) v ks.length _ hown y ys.length c (ys.flatMap bM.cs) (Iq ys) (MV hc) (λu hu=>by
   obtain⟨k,-,hk⟩:=List.mem_flatMap.1 hu;simp[bM.cs] at hk;rcases hk with rfl|rfl|rfl<;>rfl) (List.length_pos_iff.2 hn) (by unfold maxLen;omega) (by omega) hbase _ rfl
  refine⟨_,w6,hr,?_,hg6⟩;unfold dY;rw[List.length_append,List.flatMap_append];exact ho6
theorem MW{ops:Array Oper}{rest:List Oper}{o:Oper}{a:Act}{Q:Exit->Act->World->Prop}(w:World)(hgd:o.guard=none)(s x:Operand)
  (ho:o.op=.call {callee:=.builtin .append,args:= #[s,x],argTypes:= #[58,58]}) (base:Nat) (v:Value) (ks:List bM) (hs:a.eval s=v) (hown:dY w base v ks)
  (u:Value) (ys:List bM) (hx:a.eval x=u) (hu:RY w u ys) (hl:ks.length+ys.length<=1000000) (hbase:base<=w.heap.size)
  (h:∀v' w',dY w' base v' (ks++ys)->w.grownBy w' v.ownBlock->wpList Tryz.prog ops Q rest (a.put o.dst v') w'):
  wpList Tryz.prog ops Q (o::rest) a w:=by
 obtain⟨v',w',hr,h1,h2⟩:=Ah w o.type base v ks hown u ys hu hl hbase;refine wpList_plain hgd λK hK=>?_
 unfold Oper.wp;simp[execOp,ho,resolve,invoke,builtin,hs,hx,hr,Result.andThen];exact hK _ _ (h v' w' h1 h2)
theorem fO(ks:List aO):(ks.flatMap aO.cs).length=ks.length*4:=by
 induction ks with
 |nil=>rfl
 |cons x l ih=>rw[List.flatMap_cons,List.length_append,ih,List.length_cons,Nat.succ_mul,Nat.add_comm];rfl
theorem MX{w:World}{y:Addr}{ks:List aO}(hc:∀(i:Nat) k,ks[i]? =some k->jS w (y.add (i*4)) k)(j:Nat)(u:Value)(hj:(ks.flatMap aO.cs)[j]? =some u):w.cell? (y.add j)=some u:=by
 have hjl:j<ks.length*4:=by rw[<-fO];exact(List.getElem?_eq_some_iff.1 hj).1
 obtain⟨i,r,hr,rfl⟩:∃i r,r<4/\j=i*4+r:=⟨j/4,j%4,Nat.mod_lt _ (by decide),by omega⟩;have hi:i<ks.length:=by omega
 obtain⟨k,hk⟩:∃k,ks[i]? =some k:=⟨_,List.getElem?_eq_getElem hi⟩;rw[lD ks i r k hk hr] at hj;have h:=hc i k hk;rcases Nat.eq_zero_or_pos r with rfl|hr0
 ·simp[aO.cs] at hj
  subst hj;exact h.c0
 ·have ea:y.add (i*4+r)=⟨(y.add (i*4)).block,(y.add (i*4)).off+r,none⟩:=by
   unfold Addr.add;rw[if_neg (by omega)];split<;>simp<;>omega
  rw[ea]
  match r,hr,hr0,hj with
  |1,_,_,hj=>simp[aO.cs] at hj;subst hj;exact h.c1
  |2,_,_,hj=>simp[aO.cs] at hj;subst hj;exact h.c2
  |3,_,_,hj=>simp[aO.cs] at hj;subst hj;exact h.c3
theorem MZ{ops:Array Oper}{rest:List Oper}{o:Oper}{a:Act}{Q:Exit->Act->World->Prop}(w:World)(hgd:o.guard=none)(s x:Operand)
  (ho:o.op=.call {callee:=.builtin .append,args:= #[s,x],argTypes:= #[27,27]}) (base:Nat) (v:Value) (ks:List aO) (hs:a.eval s=v) (hown:dK w base v ks)
  (u:Value) (ys:List aO) (hx:a.eval x=u) (hu:KT w u ys) (hl:ks.length+ys.length<=100000000) (hbase:base<=w.heap.size)
  (h:∀v' w',dK w' base v' (ks++ys)->w.grownBy w' v.ownBlock->(v'.ownBlock=v.ownBlock\/v'.ownBlock=some w.heap.size)->wpList Tryz.prog ops Q rest (a.put o.dst v') w'):
  wpList Tryz.prog ops Q (o::rest) a w:=by
 obtain⟨i0,hi,hz0,hz1,hz2⟩:=info_parts sF;obtain⟨ad,c,rfl,h1,h2,h3⟩:=hu;by_cases hn:ys=[]
 ·subst hn
  refine wpList_plain hgd λK hK=>?_
  have hrun:=fP (P:=Tryz.prog) (w:=w) base 27 o.type 93 i0 4 Tryz.underlying27 hi v ks.length _ hown ad c;have hx':a.eval x=slice ad 0 c:=hx;unfold Oper.wp;simp[execOp,ho,resolve,invoke,builtin,hs,hx',hrun,Result.andThen];exact hK _ _ (h v w (by simpa using hown) (World.grownBy.refl _ _) (.inl rfl))
 ·obtain⟨y,rfl,hy,hc⟩:=h3 hn
  refine wpList_append_lies w hgd s x 27 ho _ 93 i0 _ 4 32 Tryz.underlying27 hi hz0 hz1 hz2 rfl (by decide) v _ _ hs hown y _ c _ hx (fO ys) (MX hc) ?_ (List.length_pos_iff.2 hn) (by unfold maxLen;omega) (by omega) hbase _ rfl ?_
  ·intro u hu
   obtain⟨k,-,hk⟩:=List.mem_flatMap.1 hu;simp[aO.cs] at hk;rcases hk with rfl|rfl|rfl|rfl<;>rfl
  ·intro g cap w' k1 k2 k3 _
   refine h _ w' ?_ k2 ?_
   ·unfold dK
    rw[List.length_append,List.flatMap_append];exact k1
   ·rcases k3 with k3|k3
    ·exact .inl k3.symm
    ·exact .inr (by rw[k3];rfl)
theorem kR(v:Value)(xs:List Int)(w:World)(h:Ro w v xs)(hl:xs.length<=100000000):
  Calls Tryz.prog 93 #[v] w λe w'=>∃u,e=.returned u/\Ow w' w.heap.size u xs/\Below w.heap.size w w':=by
 have H:=aj (h);clear h;go_enter Tryz.func93,Tryz.ntmps93;go_wp2_with (at_builtin;refine Le _ rfl _ _ rfl _ _ [] rfl (Ow.nil _ _) _ xs rfl H.out (by simpa using Nat.le_trans hl (by decide)) (Nat.le_refl _) ?_);intro u w1 o1 g1 _;have F:Hid (Ow w1 w.heap.size u xs/\Below w.heap.size w w1):=⟨o1,(Below.refl _ _).grown g1 (Nat.le_refl _) (λk hk=>by cases hk)⟩;clear o1 g1;go_wp2;go_ret;exact⟨_,rfl,F.out.1,F.out.2⟩
theorem CU(v:Value)(xs:List aC)(w:World)(h:jF w v xs)(hl:xs.length<=100000000):
  Calls Tryz.prog 94 #[v] w λe w'=>∃u,e=.returned u/\dQ w' w.heap.size u xs/\Below w.heap.size w w':=by
 have H:=aj (h);clear h;go_enter Tryz.func94,Tryz.ntmps94;go_wp2_with (at_builtin;refine Ad _ rfl _ _ rfl _ _ [] rfl (dQ.nil _ _) _ xs rfl H.out (by simpa using Nat.le_trans hl (by decide)) (Nat.le_refl _) ?_);intro u w1 o1 g1 _;have F:Hid (dQ w1 w.heap.size u xs/\Below w.heap.size w w1):=⟨o1,(Below.refl _ _).grown g1 (Nat.le_refl _) (λk hk=>by cases hk)⟩;clear o1 g1;go_wp2;go_ret;exact⟨_,rfl,F.out.1,F.out.2⟩
theorem CX(v:Value)(xs:List aO)(w:World)(h:KT w v xs)(hl:xs.length<=100000000):
  Calls Tryz.prog 95 #[v] w λe w'=>∃u,e=.returned u/\dK w' w.heap.size u xs/\Below w.heap.size w w':=by
 have H:=aj (h);clear h;go_enter Tryz.func95,Tryz.ntmps95;go_wp2_with (at_builtin;refine MZ _ rfl _ _ rfl _ _ [] rfl (dK.nil _ _) _ xs rfl H.out (by simpa using Nat.le_trans hl (by decide)) (Nat.le_refl _) ?_);intro u w1 o1 g1 _;have F:Hid (dK w1 w.heap.size u xs/\Below w.heap.size w w1):=⟨o1,(Below.refl _ _).grown g1 (Nat.le_refl _) (λk hk=>by cases hk)⟩;clear o1 g1;go_wp2;go_ret;exact⟨_,rfl,F.out.1,F.out.2⟩
theorem gy(v:Value)(W:WV)(w:World)(h:Wl w v W)(hl:SQ W):
  Calls Tryz.prog 49 #[v] w λe w'=>∃u,e=.returned u/\Wi w' w.heap.size u W/\Below w.heap.size w w':=by
 have H:=aj (h);have L:=aj (hl);obtain⟨u1,u2,u3,u4,u5,rfl,-,-,-,-,-⟩:=h;clear hl;go_enter Tryz.func49,Tryz.ntmps49;go_upto_region 1 with fail
 have B0:Hid (Below w.heap.size w ((w.alloc (.cells #[int i64 W.turn,int i64 W.next,int i64 W.wide,int i64 W.high,u1,u2,u3,u4,u5] 29)).alloc (.cells #[int i64 0,int i64 0,int i64 0,int i64 0,slice none 0 0,slice none 0 0,slice none 0 0,slice none 0 0,slice none 0 0] 29))):=((Below.refl _ _).alloc (Nat.le_refl _) _).alloc (by simp) _;have X0:Hid (Wx ((w.alloc (.cells #[int i64 W.turn,int i64 W.next,int i64 W.wide,int i64 W.high,u1,u2,u3,u4,u5] 29)).alloc (.cells #[int i64 0,int i64 0,int i64 0,int i64 0,slice none 0 0,slice none 0 0,slice none 0 0,slice none 0 0,slice none 0 0] 29)) w.heap.size (int i64 W.turn) (int i64 W.next) (int i64 W.wide) (int i64 W.high) u1 u2 u3 u4 u5):=(Wx.new (w:=w) _ _ _ _ _ _ _ _ _ rfl).below ((Below.refl _ _).alloc (Nat.le_refl _) _) (by simp);have Z0:Hid (Wx ((w.alloc (.cells #[int i64 W.turn,int i64 W.next,int i64 W.wide,int i64 W.high,u1,u2,u3,u4,u5] 29)).alloc (.cells #[int i64 0,int i64 0,int i64 0,int i64 0,slice none 0 0,slice none 0 0,slice none 0 0,slice none 0 0,slice none 0 0] 29)) (w.heap.size+1) (int i64 0) (int i64 0) (int i64 0) (int i64 0) (slice none 0 0) (slice none 0 0) (slice none 0 0) (slice none 0 0) (slice none 0 0)):=Wx.new _ _ _ _ _ _ _ _ _ (by simp);have S0:Hid (w.heap.size+2<=((w.alloc (.cells #[int i64 W.turn,int i64 W.next,int i64 W.wide,int i64 W.high,u1,u2,u3,u4,u5] 29)).alloc (.cells #[int i64 0,int i64 0,int i64 0,int i64 0,slice none 0 0,slice none 0 0,slice none 0 0,slice none 0 0,slice none 0 0] 29)).heap.size):=by unfold Hid;simp
 generalize ((w.alloc _).alloc _)=w0 at *;obtain⟨x0,x1,x2,x3,x4,x5,x6,x7,x8⟩:=X0.out.cells;go_wp2_with fail
 refine(kR _ _ w0 ((H.out.below B0.out).slices.1) L.out.g).mono ?_;rintro e a1 ⟨v1,rfl,ho,hb⟩;clear x0 x1 x2 x3 x4 x5 x6 x7 x8;have BA:=aj (B0.out.trans (hb.mono B0.out.size));have SA:=aj (Nat.le_trans S0.out hb.size);have XA:=aj (X0.out.below hb X0.out.lt);have ZA:=aj (Z0.out.below hb Z0.out.lt);have OA:=aj (ho.mono S0.out);obtain⟨p1,q1,rfl⟩:=ho.len;have t:=XA.out.thaw 4;obtain⟨-,-,-,-,x,-,-,-,-⟩:=XA.out.cells;clear hb ho;go_upto_region 2 with fail
 have KW:Hid (Kp _ a1 (a1.setCell ⟨w.heap.size,4,none⟩ (slice p1 W.gs.length q1))):=Kp.set _ _ _;have X1:Hid (Wx _ _ _ _ _ _ (slice p1 W.gs.length q1) u2 u3 u4 u5):=XA.out.LH _;clear t x XA X0 Z0;generalize (a1.setCell _ _)=w1 at *;have B1:=aj (KW.out.below BA.out BA.out.size (Nat.le_refl _));have S1:=aj (Nat.le_trans SA.out KW.out.size);have Z1:=aj (ZA.out.kp KW.out (by omega));have Qm:=aj (OA.out.kp KW.out (by omega));clear BA SA ZA OA KW;obtain⟨x0,x1,x2,x3,x4,x5,x6,x7,x8⟩:=X1.out.cells;go_wp2_with fail
 refine(kR _ _ w1 ((H.out.below B1.out).slices.2.1) L.out.o).mono ?_;rintro e a2 ⟨v2,rfl,ho,hb⟩;clear x0 x1 x2 x3 x4 x5 x6 x7 x8;have BA:=aj (B1.out.trans (hb.mono B1.out.size));have SA:=aj (Nat.le_trans S1.out hb.size);have XA:=aj (X1.out.below hb X1.out.lt);have ZA:=aj (Z1.out.below hb Z1.out.lt);have OA:=aj (ho.mono S1.out);have PA1:=aj (Qm.out.below hb);have VP:=aj (dP.of (λk hk=>(Qm.out.block k hk).2) (λk hk=>(ho.block k hk).1));obtain⟨p2,q2,rfl⟩:=ho.len;have t:=XA.out.thaw 5;obtain⟨-,-,-,-,-,x,-,-,-⟩:=XA.out.cells;clear hb ho Qm;go_upto_region 3 with fail
 have KW:Hid (Kp _ a2 (a2.setCell ⟨w.heap.size,5,none⟩ (slice p2 W.os.length q2))):=Kp.set _ _ _;have X2:Hid (Wx _ _ _ _ _ _ _ (slice p2 W.os.length q2) u3 u4 u5):=XA.out.Gj _;clear t x XA X1 Z1;generalize (a2.setCell _ _)=w2 at *;have B2:=aj (KW.out.below BA.out BA.out.size (Nat.le_refl _));have S2:=aj (Nat.le_trans SA.out KW.out.size);have Z2:=aj (ZA.out.kp KW.out (by omega));have Qn:=aj (OA.out.kp KW.out (by omega));have Qo:=aj (PA1.out.kp KW.out (by omega));clear BA SA ZA OA KW PA1;obtain⟨x0,x1,x2,x3,x4,x5,x6,x7,x8⟩:=X2.out.cells;go_wp2_with fail
 refine(kR _ _ w2 ((H.out.below B2.out).slices.2.2.1) L.out.p).mono ?_;rintro e a3 ⟨v3,rfl,ho,hb⟩;clear x0 x1 x2 x3 x4 x5 x6 x7 x8;have BA:=aj (B2.out.trans (hb.mono B2.out.size));have SA:=aj (Nat.le_trans S2.out hb.size);have XA:=aj (X2.out.below hb X2.out.lt);have ZA:=aj (Z2.out.below hb Z2.out.lt);have OA:=aj (ho.mono S2.out);have PA1:=aj (Qo.out.below hb);have PA2:=aj (Qn.out.below hb);have VQ:=aj (dP.of (λk hk=>(Qo.out.block k hk).2) (λk hk=>(ho.block k hk).1));have VR:=aj (dP.of (λk hk=>(Qn.out.block k hk).2) (λk hk=>(ho.block k hk).1));obtain⟨p3,q3,rfl⟩:=ho.len;have t:=XA.out.thaw 6;obtain⟨-,-,-,-,-,-,x,-,-⟩:=XA.out.cells;clear hb ho Qo Qn;go_upto_region 4 with fail
 have KW:Hid (Kp _ a3 (a3.setCell ⟨w.heap.size,6,none⟩ (slice p3 W.gold.length q3))):=Kp.set _ _ _;have X3:Hid (Wx _ _ _ _ _ _ _ _ (slice p3 W.gold.length q3) u4 u5):=XA.out.Gm _;clear t x XA X2 Z2;generalize (a3.setCell _ _)=w3 at *;have B3:=aj (KW.out.below BA.out BA.out.size (Nat.le_refl _));have S3:=aj (Nat.le_trans SA.out KW.out.size);have Z3:=aj (ZA.out.kp KW.out (by omega));have Qp:=aj (OA.out.kp KW.out (by omega));have Qq:=aj (PA1.out.kp KW.out (by omega));have Qr:=aj (PA2.out.kp KW.out (by omega));clear BA SA ZA OA KW PA1 PA2;obtain⟨x0,x1,x2,x3,x4,x5,x6,x7,x8⟩:=X3.out.cells;go_wp2_with fail
 refine(CU _ _ w3 ((H.out.below B3.out).slices.2.2.2.1) L.out.u).mono ?_;rintro e a4 ⟨v4,rfl,ho,hb⟩;clear x0 x1 x2 x3 x4 x5 x6 x7 x8;have BA:=aj (B3.out.trans (hb.mono B3.out.size));have SA:=aj (Nat.le_trans S3.out hb.size);have XA:=aj (X3.out.below hb X3.out.lt);have ZA:=aj (Z3.out.below hb Z3.out.lt);have OA:=aj (ho.mono S3.out);have PA1:=aj (Qq.out.below hb);have PA2:=aj (Qr.out.below hb);have PA3:=aj (Qp.out.below hb);have VT:=aj (dP.of (λk hk=>(Qq.out.block k hk).2) (λk hk=>(ho.block k hk).1));have VU:=aj (dP.of (λk hk=>(Qr.out.block k hk).2) (λk hk=>(ho.block k hk).1));have VW:=aj (dP.of (λk hk=>(Qp.out.block k hk).2) (λk hk=>(ho.block k hk).1));obtain⟨p4,q4,rfl⟩:=ho.len;have t:=XA.out.thaw 7;obtain⟨-,-,-,-,-,-,-,x,-⟩:=XA.out.cells;clear hb ho Qq Qr Qp;go_upto_region 5 with fail
 have KW:Hid (Kp _ a4 (a4.setCell ⟨w.heap.size,7,none⟩ (slice p4 W.us.length q4))):=Kp.set _ _ _;have X4:Hid (Wx _ _ _ _ _ _ _ _ _ (slice p4 W.us.length q4) u5):=XA.out.wS _;clear t x XA X3 Z3;generalize (a4.setCell _ _)=w4 at *;have B4:=aj (KW.out.below BA.out BA.out.size (Nat.le_refl _));have S4:=aj (Nat.le_trans SA.out KW.out.size);have Z4:=aj (ZA.out.kp KW.out (by omega));have Qs:=aj (OA.out.kp KW.out (by omega));have Qv:=aj (PA1.out.kp KW.out (by omega));have Qw:=aj (PA2.out.kp KW.out (by omega));have Qx:=aj (PA3.out.kp KW.out (by omega));clear BA SA ZA OA KW PA1 PA2 PA3;obtain⟨x0,x1,x2,x3,x4,x5,x6,x7,x8⟩:=X4.out.cells;go_wp2_with fail
 refine(CX _ _ w4 ((H.out.below B4.out).slices.2.2.2.2) L.out.q).mono ?_;rintro e a5 ⟨v5,rfl,ho,hb⟩;clear x0 x1 x2 x3 x4 x5 x6 x7 x8;have BA:=aj (B4.out.trans (hb.mono B4.out.size));have SA:=aj (Nat.le_trans S4.out hb.size);have XA:=aj (X4.out.below hb X4.out.lt);have ZA:=aj (Z4.out.below hb Z4.out.lt);have OA:=aj (ho.mono S4.out);have PA1:=aj (Qv.out.below hb);have PA2:=aj (Qw.out.below hb);have PA3:=aj (Qx.out.below hb);have PA4:=aj (Qs.out.below hb);have VX:=aj (dP.of (λk hk=>(Qv.out.block k hk).2) (λk hk=>(ho.block k hk).1));have VY:=aj (dP.of (λk hk=>(Qw.out.block k hk).2) (λk hk=>(ho.block k hk).1));have VZ:=aj (dP.of (λk hk=>(Qx.out.block k hk).2) (λk hk=>(ho.block k hk).1));have V_:=aj (dP.of (λk hk=>(Qs.out.block k hk).2) (λk hk=>(ho.block k hk).1));obtain⟨p5,q5,rfl⟩:=ho.len;have t:=XA.out.thaw 8;obtain⟨-,-,-,-,-,-,-,-,x⟩:=XA.out.cells;clear hb ho Qv Qw Qx Qs;go_upto_region 6 with fail
 have KW:Hid (Kp _ a5 (a5.setCell ⟨w.heap.size,8,none⟩ (slice p5 W.qs.length q5))):=Kp.set _ _ _;have X5:Hid (Wx _ _ _ _ _ _ _ _ _ _ (slice p5 W.qs.length q5)):=XA.out.Gn _;clear t x XA X4 Z4;generalize (a5.setCell _ _)=w5 at *;have B5:=aj (KW.out.below BA.out BA.out.size (Nat.le_refl _));have S5:=aj (Nat.le_trans SA.out KW.out.size);have Z5:=aj (ZA.out.kp KW.out (by omega));have Wh:=aj (OA.out.kp KW.out (by omega));have Wj:=aj (PA1.out.kp KW.out (by omega));have Wp:=aj (PA2.out.kp KW.out (by omega));have Wq:=aj (PA3.out.kp KW.out (by omega));have Wu:=aj (PA4.out.kp KW.out (by omega));clear BA SA ZA OA KW PA1 PA2 PA3 PA4;obtain⟨x0,x1,x2,x3,x4,x5,x6,x7,x8⟩:=X5.out.cells;obtain⟨z0,z1,z2,z3,z4,z5,z6,z7,z8⟩:=Z5.out.cells;obtain⟨t0,t1,t2,t3,t4,t5,t6,t7,t8⟩:=Z5.out.bC;have KZ:=aj (bP w5 (w.heap.size+1) (int i64 W.turn) (int i64 W.next) (int i64 W.wide) (int i64 W.high) (slice p1 W.gs.length q1) (slice p2 W.os.length q2) (slice p3 W.gold.length q3) (slice p4 W.us.length q4) (slice p5 W.qs.length q5));obtain⟨y0,y1,y2,y3,y4,y5,y6,y7,y8⟩:=(Z5.out.put (int i64 W.turn) (int i64 W.next) (int i64 W.wide) (int i64 W.high) (slice p1 W.gs.length q1) (slice p2 W.os.length q2) (slice p3 W.gold.length q3) (slice p4 W.us.length q4) (slice p5 W.qs.length q5)).cells;go_wp2;clear x0 x1 x2 x3 x4 x5 x6 x7 x8 z0 z1 z2 z3 z4 z5 z6 z7 z8 t0 t1 t2 t3 t4 t5 t6 t7 t8;have s0:=S5.out;generalize World.setCell _ ⟨_,8,none⟩ _=w9 at *;refine bodyPost_ret (by simp[results,Tryz.results49,go_sem,y0,y1,y2,y3,y4,y5,y6,y7,y8]) rfl ⟨_,rfl,⟨_,_,_,_,_,rfl,⟨(Wj.out.kp KZ.out (by omega)).mono (by omega),(Wp.out.kp KZ.out (by omega)).mono (by omega),(Wq.out.kp KZ.out (by omega)).mono (by omega),(Wu.out.kp KZ.out (by omega)).mono (by omega),(Wh.out.kp KZ.out (by omega)).mono (by omega)⟩,VP.out,VQ.out,VT.out,VX.out,VR.out,VU.out,VY.out,VW.out,VZ.out,V_.out⟩,KZ.out.below B5.out B5.out.size (by omega)⟩
theorem dY.kp9{w w':World}{base z:Nat}{v:Value}{ks:List bM}(h:dY w base v ks)(k:Kp z w w')(hz:z<base):dY w' base v ks:=fU h k hz
def Ir(ks:List KV)(Wn Hn:Nat)(X:WV):WV:=(br ks Wn Hn (tk ks X X.us.length).1 (tk ks X X.us.length).1.us.length).1
def vI(ks:List KV)(Wn Hn:Nat)(X:WV):List bM:=(tk ks X X.us.length).2++(br ks Wn Hn (tk ks X X.us.length).1 (tk ks X X.us.length).1.us.length).2
def M_(ks:List KV)(X:WV)(w w':World)(v ev:Value):Prop:=
 (Wd.aF ks X≠0/\v=.agg #[int i64 0,int i64 0,int i64 0,int i64 0,slice none 0 0,slice none 0 0,slice none 0 0,slice none 0 0,slice none 0 0]/\ev=slice none 0 0)
 \/(Wd.aF ks X=0/\∃Wn Hn:Nat,X.wide=(Wn:Nat)/\X.high=(Hn:Nat)/\Fd.Good Wn Hn X.gs X.os/\Wo w' w.heap.size v (Ir ks Wn Hn X)/\dY w' w.heap.size ev (vI ks Wn Hn X))
theorem Na(vk vw:Value)(ks:List KV)(X:WV)(w:World)(hk:Kl w vk ks)(hb:∀k∈ks,k.b.size<=9223372036854775807)(hw:Wl w vw X)(hs:Sd w):
  Calls Tryz.prog 60 #[vk,vw] w λe w'=>∃v ev r,e=.returned (.tuple #[v,ev,r])/\Er r (Wd.aF ks X)/\M_ ks X w w' v ev/\Below w.heap.size w w':=by
 have K:Hid (Kl w vk ks/\∀k∈ks,k.b.size<=9223372036854775807):=⟨hk,hb⟩;have H:=aj (hw);have SD:=aj (hs);clear hs;obtain⟨p1,q1,p2,q2,p3,q3,p4,q4,p5,q5,rfl⟩:=aV hw;obtain⟨pk,qk,rfl,ck1,ck2,kc⟩:=hk;clear hb hw kc;go_enter Tryz.func60,Tryz.ntmps60;go_upto_region 1 with fail
 obtain⟨B0,X0,Z0⟩:=n_ w (int i64 X.turn) (int i64 X.next) (int i64 X.wide) (int i64 X.high) (slice p1 X.gs.length q1) (slice p2 X.os.length q2) (slice p3 X.gold.length q3) (slice p4 X.us.length q4) (slice p5 X.qs.length q5);generalize ((w.alloc _).alloc _)=w0 at *;obtain⟨x0,x1,x2,x3,x4,x5,x6,x7,x8⟩:=X0.out.cells;go_wp2_with fail
 refine(dI _ _ ks X w0 (K.out.1.below B0.out) K.out.2 (H.out.below B0.out)).mono ?_;rintro e w1 ⟨r,rfl,hr,hb⟩;obtain⟨fw,hfw⟩:∃f,Wd.aF ks X=f:=⟨_,rfl⟩;have FW:=aj (hfw);rw[hfw] at hr;have B1:=aj (B0.out.trans (hb.mono B0.out.size));have X1:=aj (X0.out.below hb X0.out.lt);have Z1:=aj (Z0.out.below hb Z0.out.lt);clear hb hfw x0 x1 x2 x3 x4 x5 x6 x7 x8 X0 B0 Z0;rcases hr with⟨rfl,rfl⟩|⟨hf,rfl⟩
 case inr=>
  have HF:=aj (hf);clear hf;obtain⟨z0,z1,z2,z3,z4,z5,z6,z7,z8⟩:=Z1.out.cells;obtain⟨t0,t1,t2,t3,t4,t5,t6,t7,t8⟩:=Z1.out.bC;have KZ:=aj (dF w1 (w.heap.size+1));obtain⟨y0,y1,y2,y3,y4,y5,y6,y7,y8⟩:=(Z1.out.jJ).cells;go_wp2;clear z0 z1 z2 z3 z4 z5 z6 z7 z8 t0 t1 t2 t3 t4 t5 t6 t7 t8;generalize World.setCell _ ⟨_,8,none⟩ _=w9 at *;refine bodyPost_ret (v:=.tuple #[.agg _,slice _ 0 0,.iface 85 (int i64 fw)]) (by simp[results,Tryz.results60,go_sem,y0,y1,y2,y3,y4,y5,y6,y7,y8]) rfl ⟨_,_,_,rfl,by rw[FW.out];exact Er.no HF.out,.inl ⟨by rw[FW.out];exact HF.out,rfl,rfl⟩,KZ.out.below B1.out B1.out.size (by omega)⟩
 have WR:=aj (aY FW.out);obtain⟨Wn,Hn,e1,e2,G⟩:=WR.out.good;have GD:=aj (iG e1 e2 G);clear e1 e2 G;obtain⟨x0,x1,x2,x3,x4,x5,x6,x7,x8⟩:=X1.out.cells;go_wp2_with fail
 refine(gy _ X w1 (H.out.below B1.out) WR.out.len).mono ?_;rintro e w2 ⟨cu,rfl,⟨k1,k2,k3,k4,k5,rfl,⟨o1,o2,o3,o4,o5⟩,d12,d13,d14,d15,d23,d24,d25,d34,d35,d45⟩,hb⟩;obtain⟨a1,r1,rfl⟩:=o1.len;obtain⟨a2,r2,rfl⟩:=o2.len;obtain⟨a3,r3,rfl⟩:=o3.len;obtain⟨a4,r4,rfl⟩:=o4.len;obtain⟨a5,r5,rfl⟩:=o5.len;obtain⟨b1,hb1⟩:∃z,w1.heap.size=z:=⟨_,rfl⟩;rw[hb1] at o1 o2 o3 o4 o5;have BS:Hid (w.heap.size+1<b1/\b1<=w2.heap.size):=⟨by rw[<-hb1];exact Z1.out.lt,by rw[<-hb1];exact hb.size⟩;have X2:=aj (X1.out.below hb X1.out.lt);have Z2:=aj (Z1.out.below hb Z1.out.lt);have B2:=aj (B1.out.trans (hb.mono B1.out.size));have O2:=aj (fK o1 o2 o3 o4 o5);have DD:Hid ([slice a1 X.gs.length r1,slice a2 X.os.length r2,slice a3 X.gold.length r3,slice a4 X.us.length r4,slice a5 X.qs.length r5].Pairwise dP):=by
  unfold Hid;simp only[List.pairwise_cons,List.mem_cons,List.not_mem_nil,or_false,forall_eq_or_imp,forall_eq,List.Pairwise.nil,and_true,false_imp_iff,implies_true];exact⟨⟨d12,d13,d14,d15⟩,⟨d23,d24,d25⟩,⟨d34,d35⟩,d45⟩
 clear hb hb1 x0 x1 x2 x3 x4 x5 x6 x7 x8 o1 o2 o3 o4 o5 d12 d13 d14 d15 d23 d24 d25 d34 d35 d45 X1 Z1 B1;obtain⟨z0,z1,z2,z3,z4,z5,z6,z7,z8⟩:=X2.out.cells;obtain⟨t0,t1,t2,t3,t4,t5,t6,t7,t8⟩:=X2.out.bC;have KZ:=aj (bP w2 w.heap.size (int i64 X.turn) (int i64 X.next) (int i64 X.wide) (int i64 X.high) (slice a1 X.gs.length r1) (slice a2 X.os.length r2) (slice a3 X.gold.length r3) (slice a4 X.us.length r4) (slice a5 X.qs.length r5));have X3:=aj (X2.out.put (int i64 X.turn) (int i64 X.next) (int i64 X.wide) (int i64 X.high) (slice a1 X.gs.length r1) (slice a2 X.os.length r2) (slice a3 X.gold.length r3) (slice a4 X.us.length r4) (slice a5 X.qs.length r5));go_upto_region 5 with fail
 clear z0 z1 z2 z3 z4 z5 z6 z7 z8 t0 t1 t2 t3 t4 t5 t6 t7 t8;generalize World.setCell _ ⟨_,8,none⟩ _=w3 at *;have Z3:=aj (Z2.out.kp KZ.out (by omega));have B3:=aj (KZ.out.below B2.out B2.out.size (Nat.le_refl _));have O3:Hid (Ow w3 b1 (slice a1 X.gs.length r1) X.gs/\Ow w3 b1 (slice a2 X.os.length r2) X.os/\Ow w3 b1 (slice a3 X.gold.length r3) X.gold/\dQ w3 b1 (slice a4 X.us.length r4) X.us/\dK w3 b1 (slice a5 X.qs.length r5) X.qs):=by
  have h:=BS.out.1;exact⟨O2.out.1.kp KZ.out (by omega),O2.out.2.1.kp KZ.out (by omega),O2.out.2.2.1.kp KZ.out (by omega),O2.out.2.2.2.1.kp KZ.out (by omega),O2.out.2.2.2.2.kp KZ.out (by omega)⟩
 obtain⟨b3,hb3⟩:∃z,w3.heap.size=z:=⟨_,rfl⟩;have S3:Hid (b1<=b3/\w3.heap.size=b3):=⟨by rw[<-hb3];exact Nat.le_trans BS.out.2 KZ.out.size,hb3⟩;have L3:Hid (Wl w3 (.agg #[int i64 X.turn,int i64 X.next,int i64 X.wide,int i64 X.high,slice a1 X.gs.length r1,slice a2 X.os.length r2,slice a3 X.gold.length r3,slice a4 X.us.length r4,slice a5 X.qs.length r5]) X):=⟨(slice a1 X.gs.length r1),(slice a2 X.os.length r2),(slice a3 X.gold.length r3),(slice a4 X.us.length r4),(slice a5 X.qs.length r5),rfl,O3.out.1.ro,O3.out.2.1.ro,O3.out.2.2.1.ro,O3.out.2.2.2.1.l,O3.out.2.2.2.2.l⟩;clear hb3 KZ X2 Z2 B2 O2;obtain⟨x0,x1,x2,x3,x4,x5,x6,x7,x8⟩:=X3.out.cells;go_wp2_with fail
 refine(take_any _ ks X _ _ _ _ _ b1 w w3 K.out.1 B3.out (by have:=BS.out.1;omega) O3.out.1 O3.out.2.1 O3.out.2.2.1 O3.out.2.2.2.1 O3.out.2.2.2.2 DD.out WR.out.Tv).mono ?_;rintro e w4 ⟨ev,rfl,ht⟩;obtain⟨Z,hZ⟩:∃Z,(tk ks X X.us.length).1=Z:=⟨_,rfl⟩;obtain⟨es,hE⟩:∃es,(tk ks X X.us.length).2=es:=⟨_,rfl⟩;have HZ:Hid ((tk ks X X.us.length).1=Z/\(tk ks X X.us.length).2=es):=⟨hZ,hE⟩;have EL:Hid (es.length<=40):=by have h9:=sQ (ks:=ks) (Y:=X) X.us.length;rw[hE] at h9;have:=WR.out.ul;unfold Hid;omega
 rw[hZ,hE] at ht;have T4:=aj (ht);clear ht hZ hE;have LB:Hid (w.heap.size+1<b1/\b1<=w3.heap.size):=⟨BS.out.1,by have:=S3.out;omega⟩;have N4:Hid (∀k,k<b1->¬((slice a2 X.os.length r2).ownBlock=some k\/(slice a4 X.us.length r4).ownBlock=some k)):=λk hk h=>by
  rcases h with h|h
  ·have:=(O3.out.2.1.block k h).1;omega
  ·have:=(O3.out.2.2.2.1.block k h).1;omega
 have B34:=aj (T4.out.fr.low LB.out.2 (λk hk=>by
  rcases Nat.lt_or_ge k b1 with h|h
  ·exact absurd hk (N4.out k h)
  ·exact h))
 have B4:=aj (B3.out.trans (B34.out.mono (by have:=LB.out;omega)));have X4:=aj (X3.out.below B34.out (by have:=LB.out;omega));have Z4:=aj (Z3.out.below B34.out (by have:=LB.out;omega));clear x0 x1 x2 x3 x4 x5 x6 x7 x8;go_upto_region 6 with fail
 have D5:Hid (Below w4.heap.size w4 {w4 with drawn:=w4.drawn+1}):=(Below.refl _ _).drew;have CV:Hid (∀V,Below b1 w4 V->Wx V w.heap.size (int i64 X.turn) (int i64 X.next) (int i64 X.wide) (int i64 X.high) (slice a1 X.gs.length r1) (slice a2 X.os.length r2) (slice a3 X.gold.length r3) (slice a4 X.us.length r4) (slice a5 X.qs.length r5)/\Wx V (w.heap.size+1) (int i64 0) (int i64 0) (int i64 0) (int i64 0) (slice none 0 0) (slice none 0 0) (slice none 0 0) (slice none 0 0) (slice none 0 0)):=λV hV=>⟨X4.out.below hV (by have:=LB.out;omega),Z4.out.below hV (by have:=LB.out;omega)⟩
 have S4:=aj (Nat.le_trans LB.out.2 T4.out.fr.size);refine aH [(true,0),(true,1),(true,2),(true,3),(false,4),(false,5)] [(false,6),(false,7),(false,8)] (λV=>Wx V w.heap.size (int i64 X.turn) (int i64 X.next) (int i64 X.wide) (int i64 X.high) (slice a1 X.gs.length r1) (slice a2 X.os.length r2) (slice a3 X.gold.length r3) (slice a4 X.us.length r4) (slice a5 X.qs.length r5)/\Wx V (w.heap.size+1) (int i64 0) (int i64 0) (int i64 0) (int i64 0) (slice none 0 0) (slice none 0 0) (slice none 0 0) (slice none 0 0) (slice none 0 0)) (by kernel_rfl) (by kernel_rfl) (by kernel_rfl) (by decide+kernel) (by decide+kernel) (CV.out _ (D5.out.mono S4.out)) ?_;generalize ({w4 with drawn:=w4.drawn+1}:World)=w5 at *;refine ay rfl (.agg #[int i64 X.turn,int i64 X.next,int i64 X.wide,int i64 X.high,slice a1 X.gs.length r1,slice a2 X.os.length r2,slice a3 X.gold.length r3,slice a4 X.us.length r4,slice a5 X.qs.length r5]) (by go_simp) (λV hV=>by obtain⟨x0,x1,x2,x3,x4,x5,x6,x7,x8⟩:=hV.1.cells;go_simp) ?_;go_simp;refine ay rfl (ev) (by go_simp) (λV hV=>by go_simp) ?_;go_simp;refine ay rfl (slice pk ks.length qk) (by go_simp) (λV hV=>by go_simp) ?_;go_simp;refine ay rfl (.agg #[int i64 X.turn,int i64 X.next,int i64 X.wide,int i64 X.high,slice a1 X.gs.length r1,slice a2 X.os.length r2,slice a3 X.gold.length r3,slice a4 X.us.length r4,slice a5 X.qs.length r5]) (by go_simp) (λV hV=>by obtain⟨x0,x1,x2,x3,x4,x5,x6,x7,x8⟩:=hV.1.cells;go_simp) ?_;go_simp;refine bF rfl 109 #[slice pk ks.length qk,.agg #[int i64 X.turn,int i64 X.next,int i64 X.wide,int i64 X.high,slice a1 X.gs.length r1,slice a2 X.os.length r2,slice a3 X.gold.length r3,slice a4 X.us.length r4,slice a5 X.qs.length r5]] (by go_simp) (by go_simp) ?_;have T5:=aj (T4.out.below D5.out);have B5:=aj (B4.out.trans (D5.out.mono B4.out.size));have G5:Hid (Z.wide=(Wn:Nat)/\Z.high=(Hn:Nat)/\Fd.Good Wn Hn Z.gs Z.os):=by
  obtain⟨W',H',e1,e2,G⟩:=T5.out.f.wide;have k:=T5.out.k;have f1:=GD.out.1;have f2:=GD.out.2.1;rw[k.2.2.1,f1] at e1;rw[k.2.2.2.1,f2] at e2;have g1:Wn=W':=by omega
  have g2:Hn=H':=by omega
  subst g1 g2;exact⟨by rw[k.2.2.1,f1],by rw[k.2.2.2.1,f2],G⟩
 have BA:=CO (slice pk ks.length qk) ks Z (slice a1 X.gs.length r1) (slice a2 X.os.length r2) (slice a3 X.gold.length r3) (slice a4 X.us.length r4) (slice a5 X.qs.length r5) b1 w w5 K.out.1 B5.out (by have:=LB.out;omega) T5.out.o1 T5.out.o2 T5.out.o3 T5.out.o4 T5.out.o5 T5.out.d T5.out.f Wn Hn G5.out.1 G5.out.2.1 G5.out.2.2 SD.out;rw[T5.out.k.1,T5.out.k.2.1,T5.out.k.2.2.1,T5.out.k.2.2.2.1] at BA;refine Calls.mono BA ?_;clear BA;rintro e w6 ⟨ev2,rfl,hb⟩;obtain⟨Q,hQ⟩:∃Q,(br ks Wn Hn Z Z.us.length).1=Q:=⟨_,rfl⟩;obtain⟨fs,hF⟩:∃fs,(br ks Wn Hn Z Z.us.length).2=fs:=⟨_,rfl⟩;have HQ:=aj (eU hQ hF);have FL:Hid (fs.length<=40):=by have h9:=sW (ks:=ks) (Wn:=Wn) (Hn:=Hn) (Y:=Z) Z.us.length;rw[hF] at h9;have:=T5.out.f.ul;unfold Hid;omega
 rw[hQ,hF] at hb;have R6:=aj (hb);clear hb hQ hF;have L34:Hid (∀k,((slice a3 X.gold.length r3).ownBlock=some k\/(slice a4 X.us.length r4).ownBlock=some k)->b1<=k/\k<w3.heap.size):=λk h=>by
  rcases h with h|h
  ·exact O3.out.2.2.1.block k h
  ·exact O3.out.2.2.2.1.block k h
 have B56:=aj (R6.out.fr.low (Nat.le_trans S4.out D5.out.size) (λk hk=>(L34.out k hk).1));have B46:=aj ((D5.out.mono S4.out).trans B56.out);refine⟨_,rfl,CV.out _ B46.out,?_⟩;go_simp;have E6:Hid (dY w6 w3.heap.size ev es):=R6.out.fr.own T5.out.e (λb hb h=>by have h1:=(T5.out.e.block b hb).1;have h2:=(L34.out b h).2;omega);have S6:=aj (Nat.le_trans T4.out.fr.size (Nat.le_trans D5.out.size R6.out.fr.size));obtain⟨v',w7,hr,ho7,hg7⟩:=Ah w6 58 w3.heap.size ev es E6.out ev2 fs R6.out.e.l (by have:=EL.out;have:=FL.out;omega) S6.out;have BG:=aj ((Below.refl _ _).grown hg7 (Nat.le_trans LB.out.2 S6.out) (λk hk=>Nat.le_trans LB.out.2 (E6.out.block k hk).1));have B47:=aj (B46.out.trans BG.out);have E7:=aj (ho7);have N7:Hid (∀x∈[slice a1 X.gs.length r1,slice a2 X.os.length r2,slice a3 X.gold.length r3,slice a4 X.us.length r4,slice a5 X.qs.length r5],∀k,x.ownBlock=some k->¬ev.ownBlock=some k):=λx hx k hk h=>by
  have h1:=(E6.out.block k h).1;simp only[List.mem_cons,List.not_mem_nil,or_false] at hx;rcases hx with rfl|rfl|rfl|rfl|rfl
  ·have:=(O3.out.1.block k hk).2;omega
  ·have:=(O3.out.2.1.block k hk).2;omega
  ·have:=(O3.out.2.2.1.block k hk).2;omega
  ·have:=(O3.out.2.2.2.1.block k hk).2;omega
  ·have:=(O3.out.2.2.2.2.block k hk).2;omega
 have O7:Hid (Ow w7 b1 (slice a1 X.gs.length r1) Q.gs/\Ow w7 b1 (slice a2 X.os.length r2) Q.os/\Ow w7 b1 (slice a3 X.gold.length r3) Q.gold/\dQ w7 b1 (slice a4 X.us.length r4) Q.us/\dK w7 b1 (slice a5 X.qs.length r5) Q.qs):=
  ⟨bK R6.out.o1 hg7 (N7.out _ (by simp)),bK R6.out.o2 hg7 (N7.out _ (by simp)),bK R6.out.o3 hg7 (N7.out _ (by simp)),bK R6.out.o4 hg7 (N7.out _ (by simp)),bK R6.out.o5 hg7 (N7.out _ (by simp))⟩
 refine dw rfl v' w7 (by go_simp) (f_ _ _ _ _ rfl _ _ (by go_simp) (by go_simp) hr) (CV.out _ B47.out) ?_;clear hr ho7 hg7;go_simp;unfold aW;obtain⟨X7,Z7⟩:=CV.out _ B47.out;have B7:=aj (B4.out.trans (B47.out.mono (by have:=LB.out;omega)));obtain⟨z0,z1,z2,z3,z4,z5,z6,z7,z8⟩:=Z7.cells;obtain⟨t0,t1,t2,t3,t4,t5,t6,t7,t8⟩:=Z7.bC;have KZ:=aj (bP w7 (w.heap.size+1) (int i64 X.turn) (int i64 X.next) (int i64 X.wide) (int i64 X.high) (slice a1 X.gs.length r1) (slice a2 X.os.length r2) (slice a3 X.gold.length r3) (slice a4 X.us.length r4) (slice a5 X.qs.length r5));obtain⟨y0,y1,y2,y3,y4,y5,y6,y7,y8⟩:=(Z7.put (int i64 X.turn) (int i64 X.next) (int i64 X.wide) (int i64 X.high) (slice a1 X.gs.length r1) (slice a2 X.os.length r2) (slice a3 X.gold.length r3) (slice a4 X.us.length r4) (slice a5 X.qs.length r5)).cells;refine g_ rfl (((((((((w7.setCell ⟨w.heap.size+1,0,none⟩ (int i64 X.turn)).setCell ⟨w.heap.size+1,1,none⟩ (int i64 X.next)).setCell ⟨w.heap.size+1,2,none⟩ (int i64 X.wide)).setCell ⟨w.heap.size+1,3,none⟩ (int i64 X.high)).setCell ⟨w.heap.size+1,4,none⟩ (slice a1 X.gs.length r1)).setCell ⟨w.heap.size+1,5,none⟩ (slice a2 X.os.length r2)).setCell ⟨w.heap.size+1,6,none⟩ (slice a3 X.gold.length r3)).setCell ⟨w.heap.size+1,7,none⟩ (slice a4 X.us.length r4)).setCell ⟨w.heap.size+1,8,none⟩ (slice a5 X.qs.length r5)) (by go_simp) (by go_simp) trivial ?_;clear z0 z1 z2 z3 z4 z5 z6 z7 z8 t0 t1 t2 t3 t4 t5 t6 t7 t8;generalize World.setCell _ ⟨_,8,none⟩ _=w8 at *;go_simp;refine aN rfl v' w8 (by go_simp) (by go_simp) trivial ?_;go_simp;refine aN rfl .nilIface w8 (by go_simp) (by go_simp) trivial ?_;go_simp;unfold aP;go_wp2;have QK:Hid (Q.turn=X.turn/\Q.next=X.next/\Q.wide=X.wide/\Q.high=X.high):=by
  obtain⟨a1,a2,a3,a4,-⟩:=R6.out.k;obtain⟨c1,c2,c3,c4,-⟩:=T5.out.k;exact⟨by rw[a1,c1],by rw[a2,c2],by rw[a3,c3],by rw[a4,c4]⟩
 refine bodyPost_ret (v:=.tuple #[.agg #[int i64 X.turn,int i64 X.next,int i64 X.wide,int i64 X.high,slice a1 X.gs.length r1,slice a2 X.os.length r2,slice a3 X.gold.length r3,slice a4 X.us.length r4,slice a5 X.qs.length r5],v',.nilIface]) (by simp[results,Tryz.results60,go_sem,y0,y1,y2,y3,y4,y5,y6,y7,y8]) rfl ⟨_,_,_,rfl,by rw[FW.out];exact Er.nil,.inr ⟨FW.out,Wn,Hn,GD.out.1,GD.out.2.1,GD.out.2.2,?_,?_⟩,KZ.out.below B7.out B7.out.size (by omega)⟩
 ·have e:Ir ks Wn Hn X=Q:=by unfold Ir;rw[HZ.out.1,HQ.out.1]
  rw[e];have h:=LB.out;refine⟨_,_,_,_,_,by rw[QK.out.1,QK.out.2.1,QK.out.2.2.1,QK.out.2.2.2],(O7.out.1.kp KZ.out (by omega)).mono (by omega),(O7.out.2.1.kp KZ.out (by omega)).mono (by omega),(O7.out.2.2.1.kp KZ.out (by omega)).mono (by omega),(O7.out.2.2.2.1.kp KZ.out (by omega)).mono (by omega),(O7.out.2.2.2.2.kp KZ.out (by omega)).mono (by omega)⟩
 ·have e:vI ks Wn Hn X=es++fs:=by unfold vI;rw[HZ.out.1,HZ.out.2,HQ.out.2]
  rw[e];have h:=LB.out;exact(E7.out.kp9 KZ.out (by omega)).mono (by omega)
end Go.Proofs.YtolfphmdmpehdaaGreatDoor
namespace Go.Proofs.YtolfphmdmpehdaaGreatDoor
def lM(u:aC):aC:=jc u 0
theorem Ai{l:List aC}{i:Nat}{u:aC}(h:l[i]? =some u)(n:Int):(l.set i (jc u n)).map lM=l.map lM:=by
 apply List.ext_getElem?;intro j;rw[List.getElem?_map,List.getElem?_map,List.getElem?_set];split
 ·rename_i e
  subst e;split
  ·rw[h];rfl
  ·rename_i h2
   rw[List.getElem?_eq_none (by omega)]
 ·rfl
theorem Iu{ks:List KV}{Y:WV}:∀q,(tk ks Y q).1.us.map lM=Y.us.map lM
 |0=>rfl
 |q+1=>by
  have ih:=Iu (ks:=ks) (Y:=Y) q;cases hu:(tk ks Y q).1.us[q]? with
  |none=>rw[tk];simp only[hu];exact ih
  |some u=>
   by_cases h:0<bI ks (tk ks Y q).1 u
   ·rw[oL hu h]
    show((tk ks Y q).1.us.set q (jc u _)).map lM=_;rw[Ai hu,ih]
   ·rw[vF hu h];exact ih
theorem Aj{ks:List KV}{Wn Hn:Nat}{Y:WV}(hf:ji ks Y):∀q,VN Y (br ks Wn Hn Y q).1/\ji ks (br ks Wn Hn Y q).1/\(br ks Wn Hn Y q).1.us.map lM=Y.us.map lM
 |0=>⟨⟨rfl,rfl,rfl,rfl,rfl,rfl,rfl,rfl,rfl⟩,hf,rfl⟩
 |q+1=>by
  obtain⟨ih,i2,i3⟩:=Aj (Wn:=Wn) (Hn:=Hn) hf q;cases hu:(br ks Wn Hn Y q).1.us[q]? with
  |none=>rw[br];simp only[hu];exact⟨ih,i2,i3⟩
  |some u=>
   cases h:brings ks Wn Hn (br ks Wn Hn Y q).1 u with
   |true=>
    rw[xM hu h];obtain⟨a1,a2,a3,a4,a5,a6,a7,a8,a9⟩:=ih;refine⟨⟨a1,a2,a3,a4,a5,a6,a7,by simpa[d_] using a8,by simpa[d_] using a9⟩,i2.bring hu,?_⟩;show((br ks Wn Hn Y q).1.us.set q (jc u 0)).map lM=_;rw[Ai hu,i3]
   |false=>rw[Ag hu h];exact⟨ih,i2,i3⟩
theorem xP{l m:List aC}(h:l.map lM=m.map lM){i:Nat}{u:aC}(hu:l[i]? =some u):∃v,m[i]? =some v/\lM u=lM v:=by
 have:(l.map lM)[i]? =some (lM u):=by rw[List.getElem?_map,hu];rfl
 rw[h,List.getElem?_map] at this;cases hv:m[i]? with
 |none=>rw[hv] at this;cases this
 |some v=>
  rw[hv] at this;injection this with this
  exact⟨v,rfl,this.symm⟩
theorem pz{u v:aC}(h:lM u=lM v):u.id=v.id/\u.aA=v.aA/\u.kind=v.kind/\u.at_=v.at_/\u.life=v.life/\u.task=v.task/\u.goal=v.goal:=by
 unfold lM jc at h;injection h with h1 h2 h3 h4 h5 h6 h7 h8
 exact⟨h1,h2,h3,h4,h5,h7,h8⟩
theorem Iw{l m:List aC}(h:l.map lM=m.map lM)(i:Nat):(l.take i).map lM=(m.take i).map lM:=by rw[List.map_take,List.map_take,h]
theorem Iy{l m:List aC}(h:l.map lM=m.map lM)(n:Int):(l.find? (λu=>u.id==n)).map lM=(m.find? (λu=>u.id==n)).map lM:=by
 induction l generalizing m with
 |nil=>
  cases m with
  |nil=>rfl
  |cons _ _=>simp at h
 |cons u l ih=>
  cases m with
  |nil=>simp at h
  |cons v m=>
   rw[List.map_cons,List.map_cons] at h;injection h with h1 h2
   have e:=(pz h1).1;rw[List.find?_cons,List.find?_cons,e];cases hh:(v.id==n) with
   |true=>simp[h1]
   |false=>exact ih h2
theorem CY{ks:List KV}{X Z:WV}(h:aQ ks X)(f:ji ks Z)(k1:Z.turn=X.turn)(k2:Z.next=X.next)(k3:Z.wide=X.wide)(k4:Z.high=X.high)(k5:Z.gs=X.gs)(k6:Z.qs=X.qs)(k7:Z.gold.length=X.gold.length)(e:Z.us.map lM=X.us.map lM):Wd.aF ks Z=0:=by
 have hl:Z.us.length=X.us.length:=by have:=congrArg List.length e;simpa using this
 refine Wd.dR h.kinds ?_ ?_ (by rw[hl];exact h.ul) ?_ (by rw[k6];exact h.ql) ?_
 ·obtain⟨Wn,Hn,e1,e2,G⟩:=f.wide
  rw[e1,e2];exact Fd.dH G
 ·have hn:=h.nums
  unfold Wd.aU at hn ⊢;rw[k1,k2,k7];simp only[Bool.or_eq_false_iff] at hn ⊢;refine⟨hn.1,hn.2.1,hn.2.2.1,?_⟩;rw[List.any_eq_false];intro g hg;have:=f.gold g hg;unfold Wd.off;simp;omega
 ·intro i u hu
  obtain⟨v,hv,ev⟩:=xP e hu;obtain⟨q1,q2,q3,q4,q5,q6,q7⟩:=pz ev;obtain⟨k,F⟩:=h.fine hv;obtain⟨⟨kn,k',e1,e2,l1,l2,l3⟩,-⟩:=f.units u (List.mem_of_getElem? hu);have ek:k'=k:=by
   have h9:=F.kk;rw[<-q3,e1,Int.toNat_natCast,e2] at h9;injection h9
  subst ek;refine⟨k',by rw[q1];exact F.id1,by rw[q1,k2];exact F.id2,?_,by rw[q2,k7];exact F.p,by rw[q3];exact F.k0,by rw[q3];exact F.kk,by rw[q5];exact F.life,⟨l1,l2⟩,by rw[q6];exact F.task,by rw[q4,k5];exact F.at_,by rw[q7,k5];exact F.goal,?_,by rw[q6,q7];exact F.rest⟩
  ·have hup:=F.up
   cases i with
   |zero=>rfl
   |succ i=>
    have hil:i<Z.us.length:=by have:=(List.getElem?_eq_some_iff.1 hu).1;omega
    obtain⟨p,hp⟩:∃p,Z.us[i]? =some p:=⟨_,List.getElem?_eq_getElem hil⟩;obtain⟨p',hp',ep⟩:=xP e hp;simp only[Wd.bH,hp',decide_eq_false_iff_not] at hup;simp only[Wd.bH,hp,decide_eq_false_iff_not];rw[q1,(pz ep).1];exact hup
  ·have ho:=F.opn
   unfold Wd.open_ at ho ⊢;rw[Bool.and_eq_true] at ho ⊢;refine⟨by rw[q4,k5];exact ho.1,?_⟩;have h1:=ho.2;rw[Bool.not_eq_true',List.any_eq_false] at h1 ⊢;intro p hp;obtain⟨i',hi'⟩:=List.mem_iff_getElem?.1 hp;obtain⟨p',hp',ep⟩:=xP (Iw e i) hi';rw[(pz ep).2.2.2.1,q4];exact h1 p' (List.mem_of_getElem? hp')
 ·intro j hj
  rw[k6] at hj;have h1:=h.job hj;unfold Wd.aJ at h1 ⊢;have h2:=Iy e j.unit;cases hz:Z.us.find? (λu=>u.id==j.unit) with
  |none=>
   rw[hz] at h2;cases hx:X.us.find? (λu=>u.id==j.unit) with
   |none=>rw[hx] at h1;exact h1
   |some v=>rw[hx] at h2;cases h2
  |some u=>
   rw[hz] at h2;cases hx:X.us.find? (λu=>u.id==j.unit) with
   |none=>rw[hx] at h2;cases h2
   |some v=>
    rw[hx] at h2 h1;injection h2 with h2
    obtain⟨-,q2,q3,-⟩:=pz h2;simp only at h1 ⊢;rw[q2,q3];exact h1
theorem Iz{ks:List KV}{Wn Hn:Nat}{X:WV}(h:aQ ks X):let Z:=(tk ks X X.us.length).1;let Q:=(br ks Wn Hn Z Z.us.length).1;Wd.aF ks Q=0/\Q.turn=X.turn/\Q.next=X.next/\Q.wide=X.wide/\Q.high=X.high/\Q.gs=X.gs/\Q.qs=X.qs/\Q.gold.length=X.gold.length/\Q.us.length=X.us.length/\Q.os.length=X.os.length/\Q.us.map lM=X.us.map lM:=by
 intro Z Q;obtain⟨a1,a2,a3,a4,a5,a6,a7,a8,a9⟩:=sO (ks:=ks) (Y:=X) X.us.length;obtain⟨⟨b1,b2,b3,b4,b5,b6,b7,b8,b9⟩,f,e⟩:=Aj (Wn:=Wn) (Hn:=Hn) (Ig h.Tv X.us.length) Z.us.length;have eX:Q.us.map _=X.us.map _:=e.trans (Iu _);have g:Q.gold.length=X.gold.length:=by rw[b9,a6]
 refine⟨CY h f (b1.trans a1) (b2.trans a2) (b3.trans a3) (b4.trans a4) (b5.trans a5) (b7.trans a7) g eX,b1.trans a1,b2.trans a2,b3.trans a3,b4.trans a4,b5.trans a5,b7.trans a7,g,b8.trans a8,by rw[b6];exact a9,eX⟩
open Go.RowKit Wy
theorem Ak(v:Value)(W H:Nat)(gs os:List Int)(a:Nat)(fl:Bool)(w:World)(h:Fl w v W H gs os)(hs:Sd w)(G:Fd.Good W H gs os)(ha:a<W*H):
  Calls Tryz.prog 260 #[v,int i64 (a:Nat),.bool fl] w λe w'=>∃b l,e=.returned (.tuple #[slice (some ⟨b,0,none⟩) (W*H) (W*H),.nilIface])/\w.heap.size<=b/\Ro w' (slice (some ⟨b,0,none⟩) (W*H) (W*H)) l/\(bD (Fd.near W H) (λi _=>(gs.map λg=>Fd.onto g fl).getD i 0) a (W*H) l/\Flat l)/\Below w.heap.size w w':=by
 have F0:=aj (h);have S0:=aj (hs);have G0:=aj (G);have A0:=aj (ha);obtain⟨u1,u2,rfl,⟨a1,c,rfl,c1,c2,ca⟩,⟨b1,d,rfl,d1,d2,cb⟩⟩:=h;obtain⟨ss,hss⟩:∃ss,(gs.map λg=>Fd.onto g fl)=ss:=⟨_,rfl⟩;have Fb:=aj (hss);have E0:Hid (Even (Fd.near W H) (λi _=>ss.getD i 0) (W*H)):=by rw[<-hss];exact qX G.w1 gs fl
 rw[hss];clear ca cb hs G ha hss;go_enter Tryz.func260,Tryz.ntmps260;go_wp2_with fail
 have b0:Below w.heap.size w ((w.alloc (Obj.cells #[int i64 W,int i64 H,slice a1 gs.length c,slice b1 os.length d] 25)).alloc (Obj.cells #[int i64 (a:Nat)] 3)):=((Below.refl _ _).alloc (Nat.le_refl _) _).alloc (by simp) _;refine(look_ok _ _ W H gs os _ fl _ (F0.out.below b0) G0.out (S0.out.below b0) (Ro.wL _ (by simp)) (by have:=A0.out;simp;omega)).mono ?_;rintro e w1 ⟨⟨v1,rfl,hL⟩,hb⟩;rw[Fb.out] at hL;have B1:=aj (b0.trans (hb.mono (by simp;omega)));have L1:=aj (hL);obtain⟨p1,p2,rfl,⟨x1,k1,rfl,-⟩,⟨x2,k2,rfl,-⟩,-⟩:=hL;clear hb b0;go_wp2_with fail
 have b2:Below _ w1 (w1.alloc (Obj.cells #[slice (some x1) (W*H) k1,slice x2 ss.length k2] 296)):=(Below.refl _ _).alloc (Nat.le_refl _) _;refine(oG _ _ a _ ss _ (L1.out.below b2) E0.out A0.out G0.out.pos.2 (Fd.oD W H)).mono ?_;rintro e w2 ⟨b,l,rfl,hbz,hbk,hf,hb⟩;have BZ:=aj (Nat.le_trans (Nat.le_trans B1.out.size b2.size) hbz);have P:Hid (Ro w2 (slice (some ⟨b,0,none⟩) (W*H) (W*H)) l/\(bD (Fd.near W H) (λi _=>ss.getD i 0) a (W*H) l/\Flat l)/\Below w.heap.size w w2):=by
  refine⟨?_,hf,(B1.out.trans (b2.mono B1.out.size)).trans (hb.mono (Nat.le_trans B1.out.size b2.size))⟩;have:=hbk.ro (c:=W*H) (by rw[hf.1.1];exact Nat.le_refl _) (by have:=G0.out.pos.2;omega);rw[hf.1.1] at this;exact this
 clear hbz hbk hf hb b2;go_wp2;go_ret2;exact⟨b,l,rfl,BZ.out,P.out.1,P.out.2.1,P.out.2.2⟩
end Go.Proofs.YtolfphmdmpehdaaGreatDoor
namespace Go.Proofs.YtolfphmdmpehdaaGreatDoor
open Go.RowKit
theorem qG(w:World)(g m n c:Nat)(ks:List aC)(rest:List Value)(hg:Ub w g ks rest)(hn:0<n)(hm:m+n=ks.length):
  ∃w',(∀ty,(Builtin.clear_ #[26] ty #[slice (some ⟨g,m*8,none⟩) n c]).run Tryz.prog w=.ok (.tuple #[]) w')/\Ub w' g (ks.take m++List.replicate n (⟨0,0,0,0,0,0,0,0⟩:aC)) rest/\Below g w w'/\w'.heap.size=w.heap.size/\Kp g w w':=by
 have hzv:∀w,(zeroValue 74).run Tryz.prog w=.ok (.agg #[int i64 0,int i64 0,int i64 0,int i64 0,int i64 0,int i64 0,int i64 0,int i64 0]) w:=λw=>by kernel_rfl
 have hzc:(Builtin.zeroCells (Value.agg #[int i64 0,int i64 0,int i64 0,int i64 0,int i64 0,int i64 0,int i64 0,int i64 0]).cells n).toList=(List.replicate n (⟨0,0,0,0,0,0,0,0⟩:aC)).flatMap aC.cs:=by
  have hz8:(Value.agg #[int i64 0,int i64 0,int i64 0,int i64 0,int i64 0,int i64 0,int i64 0,int i64 0]).cells= #[int i64 0,int i64 0,int i64 0,int i64 0,int i64 0,int i64 0,int i64 0,int i64 0]:=by rfl
  rw[hz8];unfold Builtin.zeroCells;apply List.ext_getElem?;intro i;by_cases hi:i<n*8
  ·have e1:(List.replicate n (⟨0,0,0,0,0,0,0,0⟩:aC))[i/8]? =some ⟨0,0,0,0,0,0,0,0⟩:=by
    rw[List.getElem?_replicate,if_pos (by omega)]
   have e2:=lC _ (i/8) (i%8) _ e1 (Nat.mod_lt _ (by decide));rw[show i/8*8+i%8=i by omega] at e2;rw[e2];have h8:i%8<8:=Nat.mod_lt _ (by decide);simp[aC.cs,hi];generalize i%8=r at *
   match r,h8 with
   |0,_=>rfl
   |1,_=>rfl
   |2,_=>rfl
   |3,_=>rfl
   |4,_=>rfl
   |5,_=>rfl
   |6,_=>rfl
   |7,_=>rfl
  ·rw[List.getElem?_eq_none (by simp;omega),List.getElem?_eq_none (by rw[fM,List.length_replicate];omega)]
 obtain⟨vs,hvs⟩:∃vs,(List.replicate n (⟨0,0,0,0,0,0,0,0⟩:aC)).flatMap aC.cs=vs:=⟨_,rfl⟩;have hvl:vs.length=n*8:=by rw[<-hvs,fM,List.length_replicate]
 have h1c:∀v∈vs,v.oneCell'=true:=by
  intro v hv;rw[<-hvs] at hv;obtain⟨k,-,hk⟩:=List.mem_flatMap.1 hv;simp[aC.cs] at hk;rcases hk with rfl|rfl|rfl|rfl|rfl|rfl|rfl|rfl<;>rfl
 have hst:=run_storeCells_at (P:=Tryz.prog) g (m*8) 74 vs 0 _ w hg (by simp only[List.size_toArray,List.length_append,fM,hvl];omega) h1c;have hml:(ks.take m).length=m:=by rw[List.length_take];omega
 have hL:(ks.flatMap aC.cs++rest).toArray.toList.take (m*8+0)++vs++(ks.flatMap aC.cs++rest).toArray.toList.drop (m*8+0+vs.length)=(ks.take m++List.replicate n (⟨0,0,0,0,0,0,0,0⟩:aC)).flatMap aC.cs++rest:=by
  have e1:(ks.flatMap aC.cs++rest).take (m*8)=(ks.take m).flatMap aC.cs:=by
   conv=>lhs;rw[<-List.take_append_drop m ks,List.flatMap_append,List.append_assoc]
   rw[List.take_left' (by rw[fM,hml])]
  have e2:(ks.flatMap aC.cs++rest).drop (m*8+vs.length)=rest:=by
   rw[List.drop_left' (by rw[fM,hvl];omega)]
  show(ks.flatMap aC.cs++rest).take (m*8)++vs++(ks.flatMap aC.cs++rest).drop (m*8+vs.length)=_;rw[e1,e2,List.flatMap_append,hvs]
 rw[hL] at hst;refine⟨w.setRow g ((ks.take m++List.replicate n (⟨0,0,0,0,0,0,0,0⟩:aC)).flatMap aC.cs++rest).toArray,λty=>?_,?_,?_,?_,?_⟩
 ·obtain⟨n',rfl⟩:∃n',n=n'+1:=⟨n-1,by omega⟩
  simp only[hvs] at hzc;simp[Builtin.clear_,run_underlying Tryz.underlying26,hzv,hzc,hst]
 ·exact setRow_heap w g _ _ _ _ hg
 ·exact⟨rfl,rfl,rfl,by simp,λk hk=>setRow_other _ _ _ _ (by omega)⟩
 ·simp
 ·exact⟨rfl,rfl,rfl,by simp,λk hk hn=>setRow_other _ _ _ _ (by omega)⟩
theorem IC{ks L:List aC}{p:aC->Bool}{i j:Nat}{y:aC}(h:L.take i=(ks.take j).filter (λk=> !p k))(hd:L.drop j=ks.drop j)(hij:i<j)(hl:L.length=ks.length)(hy:ks[j]? =some y)(hp:p y=false):
  (L.set i y).take (i+1)=(ks.take (j+1)).filter (λk=> !p k)/\(L.set i y).drop (j+1)=ks.drop (j+1):=by
 have hj:=(List.getElem?_eq_some_iff.1 hy).1;have hi:i<L.length:=by omega
 constructor
 ·rw[List.take_succ_eq_append_getElem (by simpa using hi),List.take_set_of_le (Nat.le_refl _),List.getElem_set_self,h]
  have:(ks.take (j+1))=ks.take j++[y]:=by
   rw[List.take_succ_eq_append_getElem hj];rw[(List.getElem?_eq_some_iff.1 hy).2]
  rw[this,List.filter_append];simp[hp]
 ·rw[List.drop_set_of_lt (by omega)]
  have h1:L.drop (j+1)=(L.drop j).drop 1:=by rw[List.drop_drop]
  rw[h1,hd,List.drop_drop]
theorem vJ{ks L:List aC}{p:aC->Bool}{i j:Nat}{y:aC}(h:L.take i=(ks.take j).filter (λk=> !p k))(hd:L.drop j=ks.drop j)(hy:ks[j]? =some y)(hp:p y=true):
  L.take i=(ks.take (j+1)).filter (λk=> !p k)/\L.drop (j+1)=ks.drop (j+1):=by
 have hj:=(List.getElem?_eq_some_iff.1 hy).1;constructor
 ·have:(ks.take (j+1))=ks.take j++[y]:=by
   rw[List.take_succ_eq_append_getElem hj];rw[(List.getElem?_eq_some_iff.1 hy).2]
  rw[this,List.filter_append,h];simp[hp]
 ·have h1:L.drop (j+1)=(L.drop j).drop 1:=by rw[List.drop_drop]
  rw[h1,hd,List.drop_drop]
theorem CZ{ks:List aC}{p:aC->Bool}{i:Nat}{x:aC}(hx:ks[i]? =some x)(hp:p x=true)(hn:(ks.take i).any p=false):ks.take i=(ks.take (i+1)).filter (λk=> !p k):=by
 have hi:=(List.getElem?_eq_some_iff.1 hx).1;have:(ks.take (i+1))=ks.take i++[x]:=by
  rw[List.take_succ_eq_append_getElem hi];rw[(List.getElem?_eq_some_iff.1 hx).2]
 rw[this,List.filter_append];have e:(ks.take i).filter (λk=> !p k)=ks.take i:=by
  rw[List.filter_eq_self];intro a ha;have:=List.any_eq_false.1 hn a ha;simpa using this
 rw[e];simp[hp]
theorem xQ{w w1 w':World}{g n c:Nat}(h:Below w.heap.size w w1)(k:Kp g w1 w'):w.grownBy w' (slice (some ⟨g,0,none⟩) n c).ownBlock:=
 ⟨k.os.trans h.os,k.tape.trans h.tape,k.output.trans h.output,Nat.le_trans h.size k.size,λi hi hr=>(k.block i (Nat.lt_of_lt_of_le hi h.size) (λe=>hr (by rw[e];rfl))).trans (h.block i hi)⟩
theorem TJ(wb:World)(g i:Nat)(y:aC):Kp g wb ((((((((wb.setCell ⟨g,i*8,none⟩ (int i64 y.id)).setCell ⟨g,i*8+1,none⟩ (int i64 y.aA)).setCell ⟨g,i*8+2,none⟩ (int i64 y.kind)).setCell ⟨g,i*8+3,none⟩ (int i64 y.at_)).setCell ⟨g,i*8+4,none⟩ (int i64 y.life)).setCell ⟨g,i*8+5,none⟩ (int i64 y.load)).setCell ⟨g,i*8+6,none⟩ (int i64 y.task)).setCell ⟨g,i*8+7,none⟩ (int i64 y.goal)):=
 (((((((Kp.set (z:=g) _ _ _).trans (Kp.set _ _ _)).trans (Kp.set _ _ _)).trans (Kp.set _ _ _)).trans (Kp.set _ _ _)).trans (Kp.set _ _ _)).trans (Kp.set _ _ _)).trans (Kp.set _ _ _)
theorem Ap(K:Nat)(eK:∀args w,(callFunc K args).run Tryz.prog w=.ok (.enter K args) w)(u:Value)(cs:Array Value)(ks:List aC)(p:aC->Bool)(w:World)(base:Nat)(hu:dQ w base u ks)(hbase:base<=w.heap.size)(hl:ks.length<=1000000)
  (hp:∀W,Below base w W->w.grownBy W u.ownBlock->∀k∈ks,Calls Tryz.prog K (#[k.val]++cs) W λe w'=>e=.returned (.bool (p k))/\Below W.heap.size W w'):
  Calls Tryz.prog 51 #[u,.func (Fn.func K) #[] cs] w λe w'=>∃v,e=.returned v/\dQ w' base v (ks.filter (λk=> !p k))/\Below base w w'/\w.grownBy w' u.ownBlock/\v.ownBlock=u.ownBlock:=by
 have H':=aj (oZ K eK u cs ks p w hu.l (λW hW k hk=>hp W (hW.mono hbase) ⟨hW.os,hW.tape,hW.output,hW.size,λk hk _=>hW.block k hk⟩ k hk));have Hp:=aj (hp);have U:=aj (hu);have HB:Hid (base<=w.heap.size/\ks.length<=1000000):=⟨hbase,hl⟩;clear hp hu hbase;go_enter Tryz.func51,Tryz.ntmps51;go_wp2_with fail
 refine Calls.mono H'.out ?_;rintro e w1 ⟨r,rfl,hf,hb⟩;have B1:=aj (hb.mono HB.out.1);have U1:=aj (U.out.below hb);have S1:=aj (hb.size);have G1:=aj (hb);clear hb U H';rcases hf with⟨rfl,hno⟩|⟨i0,x,rfl,hx,hpx,hnx⟩
 ·have NO:Hid (ks.filter (λk=> !p k)=ks):=by
   unfold Hid;rw[List.filter_eq_self];intro a ha;have:=List.any_eq_false.1 hno a ha;simpa using this
  clear hno;go_wp2;go_ret;exact⟨u,rfl,by rw[NO.out];exact U1.out,B1.out,⟨G1.out.os,G1.out.tape,G1.out.output,G1.out.size,λk hk _=>G1.out.block k hk⟩,rfl⟩
 have hi0:=(List.getElem?_eq_some_iff.1 hx).1;rcases U1.out.ub with⟨rfl,h⟩|⟨g,cap,rest,rfl,hbg,hkc,hcm,hcl,hub⟩
 ·rw[h] at hi0;simp at hi0
 have ST:=aj (CZ hx hpx hnx);have GG:=aj (jD hbg hkc hcm hcl);have UB:=aj (hub);have hcm':cap<=9223372036854775807:=by unfold maxLen at hcm;omega
 clear hx hpx hnx hbg hcm hcl hub U1;have hm1:(((i0:Nat):Int)== -1)=false:=by rw[beq_eq_false_iff_ne];omega
 go_wp2;go_loopw [5,6] (λvi vj W=>∃(i j:Nat) (L:List aC),vi=int i64 (i:Nat)/\vj=int i64 (j:Nat)/\i<j/\j<=ks.length/\L.length=ks.length/\L.take i=(ks.take j).filter (λk=> !p k)/\L.drop j=ks.drop j/\Ub W g L rest/\Below base w W/\Kp g w1 W) (λ_ vj _=>ks.length-(intOf vj).toNat)
 case atStart=>exact⟨i0,i0+1,ks,rfl,by go_num,by omega,by omega,rfl,ST.out,rfl,UB.out,B1.out,Kp.refl _ _⟩
 case round=>
  obtain⟨i,j,L,rfl,rfl,hij,hjn,TM,TP,TS,TU,hLb,hLk⟩:=hrel;have LU:=aj (TU);have LB:=aj (hLb);have LK:=aj (hLk);clear hLk;have LL:=aj (iG TM TP TS);clear TU hLb TM TP TS UB B1 ST;by_cases h0:j=ks.length
  ·subst h0
   obtain⟨wc,hcl,Qy,hBc,Wv,hKc⟩:=qG wr g i (ks.length-i) (cap-i) L rest LU.out (by omega) (by rw[LL.out.1];omega);have UC:Hid (Ub wc g (L.take i) ((List.replicate (ks.length-i) (⟨0,0,0,0,0,0,0,0⟩:aC)).flatMap aC.cs++rest)):=by
    unfold Ub at Qy;unfold Hid Ub;rw[<-List.append_assoc,<-List.flatMap_append];exact Qy
   have BC:=aj (LB.out.trans (hBc.mono GG.out.1));have KC:=aj (LK.out.trans hKc);have IL:Hid ((L.take i).length=i):=by unfold Hid;rw[List.length_take,LL.out.1];omega
   clear Qy hBc Wv hKc;go_wp2;go_ret;have h1:=UC.out.Ql (base:=base) (cap:=cap) GG.out.1 (by rw[IL.out];have:=GG.out.2.1;omega) GG.out.2.2.1 (by
    rw[IL.out,List.length_append,fM,List.length_replicate];have:=GG.out.2.2.2;omega)
   rw[IL.out] at h1;refine⟨_,rfl,?_,BC.out,xQ G1.out KC.out,rfl⟩;have h2:=LL.out.2.1;rw[List.take_of_length_le (Nat.le_refl _)] at h2;rw[<-h2];exact h1
  ·have hjl:j<ks.length:=by omega
   have hji:((j:Nat):Int)<(ks.length:Nat):=by omega
   obtain⟨y,hy⟩:∃y,ks[j]? =some y:=⟨_,List.getElem?_eq_getElem hjl⟩;have TV:L[j]? =some y:=by
    have h1:(L.drop j)[0]? =(ks.drop j)[0]? :=by rw[LL.out.2.2]
    rw[List.getElem?_drop,List.getElem?_drop] at h1;rw[Nat.add_zero] at h1;rw[h1];exact hy
   obtain⟨q0,q1,q2,q3,q4,q5,q6,q7⟩:=LU.out.kQ TV;have HY:=aj (hy);have wi:IntKind.i64.wrap ((i:Nat)+1:Int)=((i:Nat):Int)+1:=by rw[IntKind.wrap_i64];omega
   have wj:IntKind.i64.wrap ((j:Nat)+1:Int)=((j:Nat):Int)+1:=by rw[IntKind.wrap_i64];omega
   clear TV hy;go_upto_region 8 with fail
   have BA:Hid (Below _ wr (wr.alloc (Obj.cells #[int i64 y.id,int i64 y.aA,int i64 y.kind,int i64 y.at_,int i64 y.life,int i64 y.load,int i64 y.task,int i64 y.goal] 74))):=(Below.refl _ _).alloc (Nat.le_refl _) _;have XA:Hid (dB _ ⟨wr.heap.size,0,none⟩ y):=dB.mk' y rfl;generalize (wr.alloc _)=wa at *;have UA:=aj (LU.out.below BA.out LU.out.lt);have AB:=aj (LB.out.trans (BA.out.mono (Nat.le_trans HB.out.1 LB.out.size)));have KA:=aj (LK.out.trans (Kp.of BA.out));clear LK;obtain⟨z,hz⟩:∃z,wr.heap.size=z:=⟨_,rfl⟩;rw[hz] at XA ⊢;have ZG:Hid (g<z):=by rw[<-hz];exact LU.out.lt
   clear hz BA LU LB q0 q1 q2 q3 q4 q5 q6 q7;obtain⟨q0,q1,q2,q3,q4,q5,q6,q7⟩:=XA.out;cases hpy:p y with
   |true=>
    have PY:=aj (hpy);have hc:=Hp.out wa AB.out (xQ G1.out KA.out) y (List.mem_of_getElem? HY.out);rw[hpy] at hc;have Hc:=aj (hc);clear hc hpy;go_wp2_with fail
    refine Calls.mono Hc.out ?_;rintro e wb ⟨rfl,hb⟩;have UW:=aj (UA.out.below hb UA.out.lt);have WB:=aj (AB.out.trans (hb.mono (Nat.le_trans HB.out.1 AB.out.size)));have KW:=aj (KA.out.trans (Kp.of hb));clear KA;clear hb q0 q1 q2 q3 q4 q5 q6 q7 UA AB XA Hc;go_wp2;go_round
    case rel=>exact⟨i,j+1,L,rfl,by go_num,by omega,by omega,LL.out.1,(vJ LL.out.2.1 LL.out.2.2 HY.out PY.out).1,(vJ LL.out.2.1 LL.out.2.2 HY.out PY.out).2,UW.out,WB.out,KW.out⟩
    case measure=>simp[intOf];omega
   |false=>
    have PY:=aj (hpy);have hc:=Hp.out wa AB.out (xQ G1.out KA.out) y (List.mem_of_getElem? HY.out);rw[hpy] at hc;have Hc:=aj (hc);clear hc hpy;go_wp2_with fail
    refine Calls.mono Hc.out ?_;rintro e wb ⟨rfl,hb⟩;have UW:=aj (UA.out.below hb UA.out.lt);have WB:=aj (AB.out.trans (hb.mono (Nat.le_trans HB.out.1 AB.out.size)));have KW:=aj (KA.out.trans (Kp.of hb));clear KA;have XB:=aj (XA.out.below hb XA.out.lt);clear hb q0 q1 q2 q3 q4 q5 q6 q7 UA AB XA Hc;have hil:i<L.length:=by rw[LL.out.1];omega
    obtain⟨z0,hz0⟩:∃z0,L[i]? =some z0:=⟨_,List.getElem?_eq_getElem hil⟩;obtain⟨q0,q1,q2,q3,q4,q5,q6,q7⟩:=XB.out;obtain⟨r0,r1,r2,r3,r4,r5,r6,r7⟩:=UW.out.kQ hz0;have f0:=UW.out.thaw (i*8);have f1:=UW.out.thaw (i*8+1);have f2:=UW.out.thaw (i*8+2);have f3:=UW.out.thaw (i*8+3);have f4:=UW.out.thaw (i*8+4);have f5:=UW.out.thaw (i*8+5);have f6:=UW.out.thaw (i*8+6);have f7:=UW.out.thaw (i*8+7);have UP:=aj (UW.out.put hil y);have BP:Hid (Below _ w ((((((((wb.setCell _ _).setCell _ _).setCell _ _).setCell _ _).setCell _ _).setCell _ _).setCell _ _).setCell ⟨g,i*8+7,none⟩ _)):=oN y WB.out GG.out.1;have KP:=aj (KW.out.trans (TJ wb g i y));have DK:=IC LL.out.2.1 LL.out.2.2 hij LL.out.1 HY.out PY.out;have DH:Hid ((L.set i y).length=ks.length/\(L.set i y).take (i+1)=(ks.take (j+1)).filter (λk=> !p k)/\(L.set i y).drop (j+1)=ks.drop (j+1)):=⟨by rw[List.length_set];exact LL.out.1,DK.1,DK.2⟩;clear DK hz0 hil;go_wp2;go_round
    case rel=>exact⟨i+1,j+1,L.set i y,by go_num,by go_num,by omega,by omega,DH.out.1,DH.out.2.1,DH.out.2.2,UP.out,BP.out,KP.out⟩
    case measure=>simp[intOf];omega
theorem del_any(K:Nat)(eK:∀args w,(callFunc K args).run Tryz.prog w=.ok (.enter K args) w)(u:Value)(cs:Array Value)(ks:List aC)(p:aC->Bool)(w:World)(base:Nat)(hu:dQ w base u ks)(hbase:base<=w.heap.size)(hl:ks.length<=1000000)
  (hp:∀W,Below base w W->∀k∈ks,Calls Tryz.prog K (#[k.val]++cs) W λe w'=>e=.returned (.bool (p k))/\Below W.heap.size W w'):
  Calls Tryz.prog 51 #[u,.func (Fn.func K) #[] cs] w λe w'=>∃v,e=.returned v/\dQ w' base v (ks.filter (λk=> !p k))/\Below base w w':=
 (Ap K eK u cs ks p w base hu hbase hl (λW hW _=>hp W hW)).mono λe w' h=>by
  obtain⟨v,h1,h2,h3,-⟩:=h;exact⟨v,h1,h2,h3⟩
def ig(d:aC->Int)(m:aC)(l:List aC):aC:=l.foldl (λm x=>if d x<d m then x else m) m
theorem C_(d:aC->Int)(m y:aC)(l:List aC)(k:Nat)(hy:l[k]? =some y):ig d m (l.take (k+1))=if d y<d (ig d m (l.take k)) then y else ig d m (l.take k):=by
 obtain⟨hi,e⟩:=List.getElem?_eq_some_iff.1 hy;unfold ig;rw[List.take_succ_eq_append_getElem hi,List.foldl_append,e];rfl
theorem lN(d:aC->Int):∀(l:List aC) (m:aC),ig d m l∈m::l
 |[],m=>by simp[ig]
 |x::l,m=>by
  have h:=lN d l (if d x<d m then x else m);show ig d (if d x<d m then x else m) l∈_;rcases List.mem_cons.1 h with h|h
  ·rw[h];split<;>simp
  ·exact List.mem_cons_of_mem _ (List.mem_cons_of_mem _ h)
theorem IE{w:World}{z:Nat}(y:aC)(hz:w.heap.size=z):Ub (w.alloc (Obj.cells #[int i64 y.id,int i64 y.aA,int i64 y.kind,int i64 y.at_,int i64 y.life,int i64 y.load,int i64 y.task,int i64 y.goal] 74)) z [y] []:=by
 subst hz;exact heap_alloc_new _ _
theorem Aq(K:Nat)(eK:∀args w,(callFunc K args).run Tryz.prog w=.ok (.enter K args) w)(u:Value)(cs:Array Value)(x0:aC)(tl:List aC)(d:aC->Int)(c:aC->aC->Int)(w:World)(hu:jF w u (x0::tl))(hl:tl.length<=1000000)
  (hcd:∀a∈x0::tl,∀b∈x0::tl,(c a b<0↔d a<d b))
  (hp:∀W,Below w.heap.size w W->∀a∈x0::tl,∀b∈x0::tl,Calls Tryz.prog K (#[a.val,b.val]++cs) W λe w'=>e=.returned (int i64 (c a b))/\Below W.heap.size W w'):
  Calls Tryz.prog 206 #[u,.func (Fn.func K) #[] cs] w λe w'=>e=.returned (ig d x0 tl).val/\Below w.heap.size w w':=by
 have YI:=aj (hcd);clear hcd;have Hp:=aj (hp);obtain⟨a,cc,rfl,h1,h2,h3⟩:=hu;obtain⟨x,rfl,hx,hxc⟩:=h3 (by simp);have XC:=aj (hxc);have XL:=aj (hx);obtain⟨n,hn⟩:∃n,(x0::tl).length=n:=⟨_,rfl⟩;have HN:Hid (tl.length+1=n):=by rw[<-hn];rfl
 rw[hn] at h1 ⊢;have hn1:1<=n:=by have:=HN.out;omega
 have hn0:¬((n:Nat):Int)<1:=by omega
 have hnp:0<n:=by omega
 clear h3 hxc hx hp hn;go_enter Tryz.func206,Tryz.ntmps206;go_upto_region 1 with fail
 have BZ:Hid (Below _ w (w.alloc (Obj.cells #[int i64 0,int i64 0,int i64 0,int i64 0,int i64 0,int i64 0,int i64 0,int i64 0] 74))):=(Below.refl _ _).alloc (Nat.le_refl _) _;have UZ:Hid (Ub (w.alloc (Obj.cells #[.int _ 0,.int _ 0,.int _ 0,.int _ 0,.int _ 0,.int _ 0,.int _ 0,.int _ 0] 74)) _ _ []):=IE ⟨0,0,0,0,0,0,0,0⟩ rfl;generalize (w.alloc _)=wz at *;have q:=(XC.out 0 x0 rfl).below BZ.out (by rw[add_block];exact XL.out);rw[Nat.zero_mul] at q;have ex:x.add 0=x:=by unfold Addr.add;simp
 rw[ex] at q;obtain⟨q0,q1,q2,q3,q4,q5,q6,q7⟩:=q;go_upto_region 4 with fail
 have BA:Hid (Below _ wz (wz.alloc (Obj.cells #[int i64 x0.id,int i64 x0.aA,int i64 x0.kind,int i64 x0.at_,int i64 x0.life,int i64 x0.load,int i64 x0.task,int i64 x0.goal] 74))):=(Below.refl _ _).alloc (Nat.le_refl _) _;have UA:Hid (Ub _ wz.heap.size _ []):=IE x0 rfl;generalize (wz.alloc _)=wa at *;obtain⟨zb,hzb⟩:∃z,wz.heap.size=z:=⟨_,rfl⟩;rw[hzb] at UA ⊢;have UZ1:=aj (UZ.out.below BA.out UZ.out.lt);have B1:=aj (BZ.out.trans (BA.out.mono BZ.out.size));have ZB:Hid (w.heap.size<zb):=by rw[<-hzb];exact UZ.out.lt
 clear hzb BZ UZ BA q0 q1 q2 q3 q4 q5 q6 q7 ex;go_wp2;go_loopw [6] (λvi W=>∃i k:Nat,i=k+1/\k<=tl.length/\vi=int i64 (i:Nat)/\Ub W zb [ig d x0 (tl.take k)] []/\Ub W w.heap.size [⟨0,0,0,0,0,0,0,0⟩] []/\Below w.heap.size w W) (λvi _=>tl.length+1-(intOf vi).toNat)
 case atStart=>exact⟨1,0,rfl,Nat.zero_le _,rfl,UA.out,UZ1.out,B1.out⟩
 case round=>
  obtain⟨i,k,hik,hk,rfl,hM,hZ,hB⟩:=hrel;have M:=aj (hM);have Z0:=aj (hZ);have B:=aj (hB);clear hM hZ hB UA UZ1 B1;obtain⟨m,hm⟩:∃m,ig d x0 (tl.take k)=m:=⟨_,rfl⟩;have MM:=aj (hm);rw[hm] at M;clear hm;by_cases h0:k=tl.length
  ·have hkn:i=n:=by have:=HN.out;omega
   have hlt:¬(((i:Nat):Int)<(n:Nat)):=by omega
   have MK:Hid (ig d x0 tl=m):=by have:=MM.out;rw[List.take_of_length_le (by omega)] at this;exact this
   clear hkn h0 hik hk;go_upto_region 9 with fail
   obtain⟨q0,q1,q2,q3,q4,q5,q6,q7⟩:=M.out.kQ (i:=0) (o:=m) rfl;obtain⟨r0,r1,r2,r3,r4,r5,r6,r7⟩:=Z0.out.kQ (i:=0) (o:=⟨0,0,0,0,0,0,0,0⟩) rfl;simp only[Nat.zero_mul,Nat.zero_add] at q0 q1 q2 q3 q4 q5 q6 q7 r0 r1 r2 r3 r4 r5 r6 r7;have f0:=Z0.out.thaw 0;have f1:=Z0.out.thaw 1;have f2:=Z0.out.thaw 2;have f3:=Z0.out.thaw 3;have f4:=Z0.out.thaw 4;have f5:=Z0.out.thaw 5;have f6:=Z0.out.thaw 6;have f7:=Z0.out.thaw 7;have UP:Hid (Ub ((((((((wr.setCell ⟨w.heap.size,0,none⟩ (int i64 m.id)).setCell ⟨w.heap.size,1,none⟩ (int i64 m.aA)).setCell ⟨w.heap.size,2,none⟩ (int i64 m.kind)).setCell ⟨w.heap.size,3,none⟩ (int i64 m.at_)).setCell ⟨w.heap.size,4,none⟩ (int i64 m.life)).setCell ⟨w.heap.size,5,none⟩ (int i64 m.load)).setCell ⟨w.heap.size,6,none⟩ (int i64 m.task)).setCell ⟨w.heap.size,7,none⟩ (int i64 m.goal)) w.heap.size [m] []):=by
    unfold Hid;have:=Z0.out.put (i:=0) (by simp) m;simpa using this
   have BP:Hid (Below w.heap.size w ((((((((wr.setCell ⟨w.heap.size,0,none⟩ (int i64 m.id)).setCell ⟨w.heap.size,1,none⟩ (int i64 m.aA)).setCell ⟨w.heap.size,2,none⟩ (int i64 m.kind)).setCell ⟨w.heap.size,3,none⟩ (int i64 m.at_)).setCell ⟨w.heap.size,4,none⟩ (int i64 m.life)).setCell ⟨w.heap.size,5,none⟩ (int i64 m.load)).setCell ⟨w.heap.size,6,none⟩ (int i64 m.task)).setCell ⟨w.heap.size,7,none⟩ (int i64 m.goal))):=by
    unfold Hid;have:=oN (g:=w.heap.size) (i:=0) m B.out (Nat.le_refl _);simpa using this
   go_wp2;clear q0 q1 q2 q3 q4 q5 q6 q7 r0 r1 r2 r3 r4 r5 r6 r7 f0 f1 f2 f3 f4 f5 f6 f7;generalize ((((((((wr.setCell _ _).setCell _ _).setCell _ _).setCell _ _).setCell _ _).setCell _ _).setCell _ _).setCell _ _)=w9 at *;obtain⟨y0,y1,y2,y3,y4,y5,y6,y7⟩:=UP.out.kQ (i:=0) (o:=m) rfl;simp only[Nat.zero_mul,Nat.zero_add] at y0 y1 y2 y3 y4 y5 y6 y7;refine bodyPost_ret (v:=.agg #[int i64 m.id,int i64 m.aA,int i64 m.kind,int i64 m.at_,int i64 m.life,int i64 m.load,int i64 m.task,int i64 m.goal]) (by simp[results,Tryz.results206,go_sem,y0,y1,y2,y3,y4,y5,y6,y7]) rfl ⟨by rw[MK.out];rfl,BP.out⟩
  ·have hlt:((i:Nat):Int)<(n:Nat):=by have:=HN.out;omega
   have hln:i<n:=by omega
   have wi:IntKind.i64.wrap ((i:Nat)+1:Int)=((i:Nat):Int)+1:=by have:=HN.out;rw[IntKind.wrap_i64];omega
   obtain⟨y,hy⟩:∃y,tl[k]? =some y:=⟨_,List.getElem?_eq_getElem (by omega)⟩;have HY:Hid (tl[k]? =some y/\(x0::tl)[i]? =some y/\i=k+1/\k<tl.length):=⟨hy,by rw[hik,List.getElem?_cons_succ];exact hy,hik,by omega⟩;have MI:Hid (m∈x0::tl):=by
    have h:=lN d (tl.take k) x0;rw[MM.out] at h;rcases List.mem_cons.1 h with h|h
    ·rw[h];exact List.mem_cons_self ..
    ·exact List.mem_cons_of_mem _ (List.mem_of_mem_take h)
   have YC:=aj (XC.out i y HY.out.2.1);have CB:Hid (∀V,Below w.heap.size w V->Ub V zb [m] []->dB V (x.add (i*8)) y/\dB V ⟨zb,0,none⟩ m):=λV hb hu=>⟨YC.out.below hb (by rw[add_block];exact XL.out),by have:=hu.kQ (i:=0) (o:=m) rfl;rw[Nat.zero_mul] at this;exact this⟩
   clear hy hik h0 hk;go_upto_region 7 with fail
   refine aH [(true,0),(true,1),(true,2),(true,3),(true,4),(true,5),(false,6)] [(false,7)] (λV=>dB V _ y/\dB V _ m) (by kernel_rfl) (by kernel_rfl) (by kernel_rfl) (by decide+kernel) (by decide+kernel) (CB.out _ B.out.drew (M.out.below ((Below.refl _ _).drew) M.out.lt)) ?_;have M1:Hid (Ub {wr with drawn:=wr.drawn+1} zb _ []):=M.out.below ((Below.refl _ _).drew) M.out.lt;have Z1:Hid (Ub {wr with drawn:=wr.drawn+1} _ _ []):=Z0.out.below ((Below.refl _ _).drew) Z0.out.lt;have B1:Hid (Below _ w {wr with drawn:=wr.drawn+1}):=B.out.drew;generalize ({wr with drawn:=wr.drawn+1}:World)=wd at *;clear M Z0 B;refine ay rfl (.func (Fn.func K) #[] cs) (by go_simp) (λV hV=>by go_simp) ?_;go_simp;refine ay rfl (slice (some x) n cc) (by go_simp) (λV hV=>by go_simp) ?_;go_simp;refine ay rfl (int i64 (i:Nat)) (by go_simp) (λV hV=>by go_simp) ?_;go_simp;refine ay rfl (.pointer (some (x.add (i*8)))) (by go_simp) (λV hV=>by go_simp) ?_;go_simp;refine ay rfl (.agg #[int i64 y.id,int i64 y.aA,int i64 y.kind,int i64 y.at_,int i64 y.life,int i64 y.load,int i64 y.task,int i64 y.goal]) (by go_simp) (λV hV=>by obtain⟨⟨q0,q1,q2,q3,q4,q5,q6,q7⟩,⟨r0,r1,r2,r3,r4,r5,r6,r7⟩⟩:=hV;go_simp) ?_;go_simp;refine ay rfl (.agg #[int i64 m.id,int i64 m.aA,int i64 m.kind,int i64 m.at_,int i64 m.life,int i64 m.load,int i64 m.task,int i64 m.goal]) (by go_simp) (λV hV=>by obtain⟨⟨q0,q1,q2,q3,q4,q5,q6,q7⟩,⟨r0,r1,r2,r3,r4,r5,r6,r7⟩⟩:=hV;go_simp) ?_;go_simp;refine bF rfl K (#[y.val,m.val]++cs) (by go_simp) (by go_simp;rfl) ?_;refine(Hp.out wd B1.out y (List.mem_of_getElem? HY.out.2.1) m MI.out).mono ?_;rintro e w2 ⟨rfl,hb⟩;have M2:=aj (M1.out.below hb M1.out.lt);have Z2:=aj (Z1.out.below hb Z1.out.lt);have B2:=aj (B1.out.trans (hb.mono B1.out.size));refine⟨_,rfl,CB.out _ B2.out M2.out,?_⟩;clear hb M1 Z1 B1;go_simp;obtain⟨t,ht⟩:∃t,c y m=t:=⟨_,rfl⟩;have HT:=aj (ht);have HU:Hid (t<0↔d y<d m):=by rw[<-ht];exact YI.out y (List.mem_of_getElem? HY.out.2.1) m MI.out
   rw[ht];clear ht;refine aN rfl (.bool (decide (t<0))) w2 (by go_simp) (by go_simp) trivial ?_;go_simp;unfold aP;have MN:=C_ d x0 y tl k HY.out.1;rw[MM.out] at MN;by_cases TY:t<0
   ·have MN1:Hid (ig d x0 (tl.take (k+1))=y):=by rw[MN,if_pos (HU.out.1 TY)];rfl
    clear MN;go_upto_region 8 with fail
    obtain⟨q0,q1,q2,q3,q4,q5,q6,q7⟩:=YC.out.below B2.out (by rw[add_block];exact XL.out);obtain⟨r0,r1,r2,r3,r4,r5,r6,r7⟩:=M2.out.kQ (i:=0) (o:=m) rfl;simp only[Nat.zero_mul,Nat.zero_add] at r0 r1 r2 r3 r4 r5 r6 r7;have f0:=M2.out.thaw 0;have f1:=M2.out.thaw 1;have f2:=M2.out.thaw 2;have f3:=M2.out.thaw 3;have f4:=M2.out.thaw 4;have f5:=M2.out.thaw 5;have f6:=M2.out.thaw 6;have f7:=M2.out.thaw 7;have UP:Hid (Ub ((((((((w2.setCell ⟨zb,0,none⟩ (int i64 y.id)).setCell ⟨zb,1,none⟩ (int i64 y.aA)).setCell ⟨zb,2,none⟩ (int i64 y.kind)).setCell ⟨zb,3,none⟩ (int i64 y.at_)).setCell ⟨zb,4,none⟩ (int i64 y.life)).setCell ⟨zb,5,none⟩ (int i64 y.load)).setCell ⟨zb,6,none⟩ (int i64 y.task)).setCell ⟨zb,7,none⟩ (int i64 y.goal)) zb [y] []):=by
     unfold Hid;have:=M2.out.put (i:=0) (by simp) y;simpa using this
    have BZ:Hid (Below zb w2 ((((((((w2.setCell ⟨zb,0,none⟩ (int i64 y.id)).setCell ⟨zb,1,none⟩ (int i64 y.aA)).setCell ⟨zb,2,none⟩ (int i64 y.kind)).setCell ⟨zb,3,none⟩ (int i64 y.at_)).setCell ⟨zb,4,none⟩ (int i64 y.life)).setCell ⟨zb,5,none⟩ (int i64 y.load)).setCell ⟨zb,6,none⟩ (int i64 y.task)).setCell ⟨zb,7,none⟩ (int i64 y.goal))):=by
     unfold Hid;have:=oN (B:=zb) (g:=zb) (i:=0) y (Below.refl zb w2) (Nat.le_refl _);simpa using this
    have ZP:=aj (Z2.out.below BZ.out ZB.out);have BP:=aj (B2.out.trans (BZ.out.mono (Nat.le_of_lt ZB.out)));clear BZ;go_wp2;go_round
    case rel=>exact⟨i+1,k+1,by have:=HY.out.2.2.1;omega,by have:=HY.out.2.2.2;omega,by go_num,by rw[MN1.out];exact UP.out,ZP.out,BP.out⟩
    case measure=>have:=HN.out;simp[intOf];omega
   ·have MN1:Hid (ig d x0 (tl.take (k+1))=m):=by rw[MN,if_neg (λh=>TY (HU.out.2 h))];rfl
    clear MN;go_wp2;go_round
    case rel=>exact⟨i+1,k+1,by have:=HY.out.2.2.1;omega,by have:=HY.out.2.2.2;omega,by go_num,by rw[MN1.out];exact M2.out,Z2.out,B2.out⟩
    case measure=>have:=HN.out;simp[intOf];omega
theorem Nb(K:Nat)(eK:∀args w,(callFunc K args).run Tryz.prog w=.ok (.enter K args) w)(u:Value)(cs:Array Value)(x0:aC)(tl:List aC)(d:aC->Int)(w:World)(hu:jF w u (x0::tl))(hl:tl.length<=1000000)
  (hp:∀W,Below w.heap.size w W->∀a∈x0::tl,∀b∈x0::tl,Calls Tryz.prog K (#[a.val,b.val]++cs) W λe w'=>e=.returned (int i64 (d a-d b))/\Below W.heap.size W w'):
  Calls Tryz.prog 206 #[u,.func (Fn.func K) #[] cs] w λe w'=>e=.returned (ig d x0 tl).val/\Below w.heap.size w w':=
 Aq K eK u cs x0 tl d (λa b=>d a-d b) w hu hl (λa _ b _=>by constructor<;>intro h<;>omega) hp
def jm(ks:List KV)(l:List Int)(pl:Int)(h:aC):Bool:= !(h.aA==pl)||(!((ks[h.kind.toNat]?.map KV.t).getD false)||decide (l.getD h.at_.toNat 0<0))
theorem IG(ks:List KV)(l:List Int)(h:aC)(pl:Int)(bu bk bf:Nat)(uk uf:Value)(w:World)(c1:w.cell? ⟨bu,1,none⟩=some (int i64 pl))(c2:w.cell? ⟨bk,0,none⟩=some uk)(c3:w.cell? ⟨bf,0,none⟩=some uf)(hk:Kl w uk ks)(hf:Ro w uf l)
  (h1:0<=h.kind/\h.kind<(ks.length:Int)) (h2:0<=h.at_/\h.at_<(l.length:Int)):
  Calls Tryz.prog 261 #[h.val,.pointer (some ⟨bu,0,none⟩),.pointer (some ⟨bk,0,none⟩),.pointer (some ⟨bf,0,none⟩)] w λe w'=>e=.returned (.bool (jm ks l pl h))/\Below w.heap.size w w':=by
 obtain⟨kn,hkn⟩:∃n:Nat,h.kind=n:=⟨h.kind.toNat,by omega⟩;obtain⟨an,han⟩:∃n:Nat,h.at_=n:=⟨h.at_.toNat,by omega⟩;have hkl:kn<ks.length:=by omega
 have hal:an<l.length:=by omega
 obtain⟨k,hkk⟩:∃k,ks[kn]? =some k:=⟨_,List.getElem?_eq_getElem hkl⟩;have e1:(ks[h.kind.toNat]?.map KV.t).getD false=k.t:=by rw[hkn,Int.toNat_natCast,hkk];rfl
 have e2:l.getD h.at_.toNat 0=l[an]:=by rw[han,Int.toNat_natCast,List.getD_eq_getElem?_getD,List.getElem?_eq_getElem hal];rfl
 have OT:Hid (jm ks l pl h=(!(h.aA==pl)||(!k.t||decide (l[an]<0)))):=by unfold Hid jm;rw[e1,e2]
 have BU:Hid (bu<w.heap.size/\bk<w.heap.size/\bf<w.heap.size):=⟨cell_lt c1,cell_lt c2,cell_lt c3⟩;have B0:Hid (Below _ w (w.alloc (Obj.cells #[int i64 h.id,int i64 h.aA,int i64 h.kind,int i64 h.at_,int i64 h.life,int i64 h.load,int i64 h.task,int i64 h.goal] 74))):=(Below.refl _ _).alloc (Nat.le_refl _) _;have U0:Hid (dB _ ⟨w.heap.size,0,none⟩ h):=dB.mk' h rfl;have K0:=aj (hk);have F0:=aj (hf);have CC:=aj (iG c1 c2 c3);have HE:Hid (h.kind=(kn:Nat)/\h.at_=(an:Nat)):=⟨hkn,han⟩;clear c1 c2 c3 hk hf e1 e2 hkn han h1 h2;unfold aC.val;go_enter Tryz.func261,Tryz.ntmps261;go_upto_region 1 with fail
 generalize (w.alloc _)=w0 at *;obtain⟨q0,q1,q2,q3,q4,q5,q6,q7⟩:=U0.out;rw[HE.out.1] at q2;rw[HE.out.2] at q3;have c1:w0.cell? ⟨bu,1,none⟩=some (int i64 pl):=by rw[B0.out.cell (p:=⟨bu,1,none⟩) BU.out.1];exact CC.out.1
 have c2:w0.cell? ⟨bk,0,none⟩=some uk:=by rw[B0.out.cell (p:=⟨bk,0,none⟩) BU.out.2.1];exact CC.out.2.1
 have c3:w0.cell? ⟨bf,0,none⟩=some uf:=by rw[B0.out.cell (p:=⟨bf,0,none⟩) BU.out.2.2];exact CC.out.2.2
 obtain⟨ak,dk,rfl,dk1,dk2,hkc⟩:=K0.out.below B0.out;obtain⟨xk,rfl,-,hkc⟩:=hkc (by intro h;rw[h] at hkl;simp at hkl);have kt:=(hkc kn k hkk).c10;obtain⟨af,df,rfl,df1,df2,hfc⟩:=F0.out.below B0.out;obtain⟨xf,rfl,-,hfc⟩:=hfc (by intro h;rw[h] at hal;simp at hal);have cx:=hfc an _ (List.getElem?_eq_getElem hal);clear hkc hfc hkk;by_cases hp:h.aA=pl
 ·have OT1:Hid (jm ks l pl h=(!k.t||decide (l[an]<0))):=by unfold Hid;rw[OT.out,hp];simp
  rw[hp] at q1;cases ht:k.t with
  |true=>
   rw[ht] at kt OT1;by_cases hd:l[an]<0
   ·go_wp2
    go_ret;exact⟨by rw[OT1.out,decide_eq_true hd];rfl,B0.out⟩
   ·go_wp2
    go_ret;exact⟨by rw[OT1.out,decide_eq_false (show ¬l[an]<0 by omega)];rfl,B0.out⟩
  |false=>
   rw[ht] at kt OT1;go_wp2;go_ret;exact⟨by rw[OT1.out];rfl,B0.out⟩
 ·have hp':(h.aA==pl)=false:=by rw[beq_eq_false_iff_ne];exact hp
  have OT1:Hid (jm ks l pl h=true):=by unfold Hid;rw[OT.out,hp'];rfl
  go_wp2;go_ret;exact⟨by rw[OT1.out];first|rfl|simp[hp],B0.out⟩
theorem Dc(l:List Int)(a b:aC)(bf:Nat)(uf:Value)(w:World)(c3:w.cell? ⟨bf,0,none⟩=some uf)(hf:Ro w uf l)(hl:∀x∈l,-1<=x/\x<=1000000)
  (h1:0<=a.at_/\a.at_<(l.length:Int)) (h2:0<=b.at_/\b.at_<(l.length:Int)):
  Calls Tryz.prog 262 #[a.val,b.val,.pointer (some ⟨bf,0,none⟩)] w λe w'=>e=.returned (int i64 (l.getD a.at_.toNat 0-l.getD b.at_.toNat 0))/\Below w.heap.size w w':=by
 obtain⟨an,han⟩:∃n:Nat,a.at_=n:=⟨a.at_.toNat,by omega⟩;obtain⟨bn,hbn⟩:∃n:Nat,b.at_=n:=⟨b.at_.toNat,by omega⟩;have hal:an<l.length:=by omega
 have hbl:bn<l.length:=by omega
 have e1:l.getD a.at_.toNat 0=l[an]:=by rw[han,Int.toNat_natCast,List.getD_eq_getElem?_getD,List.getElem?_eq_getElem hal];rfl
 have e2:l.getD b.at_.toNat 0=l[bn]:=by rw[hbn,Int.toNat_natCast,List.getD_eq_getElem?_getD,List.getElem?_eq_getElem hbl];rfl
 rw[e1,e2];have wd:IntKind.i64.wrap (l[an]-l[bn])=l[an]-l[bn]:=by
  have g1:=hl _ (List.getElem_mem hal);have g2:=hl _ (List.getElem_mem hbl);rw[IntKind.wrap_i64];omega
 have F0:=aj (hf);have CC:Hid (w.cell? ⟨bf,0,none⟩=some uf/\bf<w.heap.size):=⟨c3,cell_lt c3⟩;have B0:Hid (Below w.heap.size w ((w.alloc (Obj.cells #[int i64 a.id,int i64 a.aA,int i64 a.kind,int i64 a.at_,int i64 a.life,int i64 a.load,int i64 a.task,int i64 a.goal] 74)).alloc (Obj.cells #[int i64 b.id,int i64 b.aA,int i64 b.kind,int i64 b.at_,int i64 b.life,int i64 b.load,int i64 b.task,int i64 b.goal] 74))):=((Below.refl _ _).alloc (Nat.le_refl _) _).alloc (by simp) _;have U0:Hid (dB ((w.alloc (Obj.cells #[int i64 a.id,int i64 a.aA,int i64 a.kind,int i64 a.at_,int i64 a.life,int i64 a.load,int i64 a.task,int i64 a.goal] 74)).alloc (Obj.cells #[int i64 b.id,int i64 b.aA,int i64 b.kind,int i64 b.at_,int i64 b.life,int i64 b.load,int i64 b.task,int i64 b.goal] 74)) ⟨w.heap.size,0,none⟩ a):=(dB.mk' a rfl).below ((Below.refl _ _).alloc (Nat.le_refl _) _) (by simp);have V0:Hid (dB ((w.alloc (Obj.cells #[int i64 a.id,int i64 a.aA,int i64 a.kind,int i64 a.at_,int i64 a.life,int i64 a.load,int i64 a.task,int i64 a.goal] 74)).alloc (Obj.cells #[int i64 b.id,int i64 b.aA,int i64 b.kind,int i64 b.at_,int i64 b.life,int i64 b.load,int i64 b.task,int i64 b.goal] 74)) ⟨w.heap.size+1,0,none⟩ b):=dB.mk' b (by simp);have HE:Hid (a.at_=(an:Nat)/\b.at_=(bn:Nat)):=⟨han,hbn⟩;clear c3 hf hl e1 e2 han hbn h1 h2;unfold aC.val;go_enter Tryz.func262,Tryz.ntmps262;go_upto_region 1 with fail
 generalize ((w.alloc _).alloc _)=w0 at *;obtain⟨-,-,-,q3,-,-,-,-⟩:=U0.out;obtain⟨-,-,-,r3,-,-,-,-⟩:=V0.out;simp only[Nat.zero_add] at q3 r3;rw[HE.out.1] at q3;rw[HE.out.2] at r3;have c3:w0.cell? ⟨bf,0,none⟩=some uf:=by rw[B0.out.cell (p:=⟨bf,0,none⟩) CC.out.2];exact CC.out.1
 obtain⟨af,df,rfl,df1,df2,hfc⟩:=F0.out.below B0.out;obtain⟨xf,rfl,-,hfc⟩:=hfc (by intro h;rw[h] at hal;simp at hal);have cx:=hfc an _ (List.getElem?_eq_getElem hal);have cy:=hfc bn _ (List.getElem?_eq_getElem hbl);clear hfc;go_quiet (fail);go_wp2;go_ret;exact⟨rfl,⟨B0.out.os,B0.out.tape,B0.out.output,B0.out.size,B0.out.block⟩⟩
theorem blk0(w:World):(w.alloc (Obj.cells #[] 74)).heap[w.heap.size]? =some (.cells #[] 74 (0,0)):=by
 exact heap_alloc_new _ _
theorem clone_any(u:Value)(ks:List aC)(w:World)(hu:jF w u ks)(hl:ks.length<=1000000):
  Calls Tryz.prog 204 #[u] w λe w'=>∃v,e=.returned v/\dQ w' w.heap.size v ks/\Below w.heap.size w w':=by
 have U:=aj (hu);obtain⟨a,c,rfl,h1,h2,h3⟩:=hu;cases a with
 |none=>
  have hk:ks=[]:=by
   by_cases h:ks=[]
   ·exact h
   ·obtain⟨x,hx,-⟩:=h3 h;cases hx
  subst hk;clear h3;have hq:∀W:World,(binOp .eql 26 (slice none ([]:List aC).length c) (slice none 0 0)).run Tryz.prog W=.ok (.bool true) W:=λW=>Lib.run_eql_slice_nil W _ _ none _ _ _ _ Tryz.underlying26
  simp only[List.length_nil] at hq ⊢;go_enter Tryz.func204,Tryz.ntmps204;go_wp2;go_ret;exact⟨_,rfl,dQ.nil _ _,Below.refl _ _⟩
 |some x=>
  clear h3;have hq:∀W:World,(binOp .eql 26 (slice (some x) ks.length c) (slice none 0 0)).run Tryz.prog W=.ok (.bool false) W:=λW=>Lib.run_eql_slice_nil W _ _ (some x) _ _ _ _ Tryz.underlying26
  go_enter Tryz.func204,Tryz.ntmps204;go_upto_region 3 with fail
  have B0:Hid (Below _ w (w.alloc (Obj.cells #[] 74))):=(Below.refl _ _).alloc (Nat.le_refl _) _;have O0:Hid (dQ (w.alloc (Obj.cells #[] 74)) w.heap.size (slice (some ⟨w.heap.size,0,none⟩) 0 0) []):=⟨rfl,.inr ⟨w.heap.size,0,#[],rfl,Nat.le_refl _,blk0 w,Nat.le_refl _,by unfold maxLen;omega,rfl,rfl⟩⟩;go_wp2_with (at_builtin;refine Ad _ rfl _ _ rfl _ _ [] rfl O0.out _ ks rfl (U.out.below B0.out) (by simp;omega) B0.out.size ?_);intro v w1 o1 g1 _;have F:Hid (dQ w1 w.heap.size v ks/\Below w.heap.size w w1):=⟨o1,B0.out.grown g1 B0.out.size (λk hk=>by cases hk;exact Nat.le_refl _)⟩;clear o1 g1 B0 O0;go_wp2;go_ret;exact⟨_,rfl,F.out.1,F.out.2⟩
open Go
section
variable {P:Program} {ops:Array Oper} {md:Region.Mode} {C:World->Prop} {Q:Exit->Act->World->Prop}
def gU(P:Program)(ops:Array Oper)(C:World->Prop)(K:Act->World->Prop)(A:Nat)(s2:List (Bool×Nat)):List (Bool×Nat)->Act->World->Prop
 |[],a,W=>∃o,ops[A]? =some o/\fZ P ops C o (aW P ops C K s2) a W
 |(true,i)::r,a,W=>∃o v,ops[i]? =some o/\fH P ops C o v a/\gU P ops C K A s2 r (a.put o.dst v) W
 |(false,i)::r,a,W=>(∃o,ops[i]? =some o/\fZ P ops C o (gU P ops C K A s2 r) a W)/\(∃o,ops[A]? =some o/\fZ P ops C o (aW P ops C K ((false,i)::r++s2)) a W)
def kS(md:Region.Mode)(ops:Array Oper)(H0:Array Bool)(A:Nat)(s2:List (Bool×Nat)):List (Bool×Nat)->Array Bool->Bool
 |[],listed=>decide (Region.ready md ops listed=[A])&&headB md ops H0 s2 (listed.setIfInBounds A true)
 |(true,i)::r,listed=>(Region.ready md ops listed).contains i&&(Region.free md ops listed i&&((waits md ops H0 i||decide (Region.ready md ops (H0.setIfInBounds i false)=[i]))&&kS md ops H0 A s2 r (listed.setIfInBounds i true)))
 |(false,i)::r,listed=>(Region.ready md ops listed).contains i&&((Region.ready md ops listed).all (λj=>decide (j=i)||decide (j=A))&&(kS md ops H0 A s2 r (listed.setIfInBounds i true)&&((Region.ready md ops listed).contains A&&headB md ops H0 ((false,i)::r++s2) (listed.setIfInBounds A true))))
theorem gG{K:Act->World->Prop}{H0:Array Bool}{A:Nat}{s2:List (Bool×Nat)}(hsel:Region.noSelect ops=true):∀(s:List (Bool×Nat)) (listed:Array Bool) (a:Act) (W:World),Cj md ops listed->kS md ops H0 A s2 s listed=true->C W->gU P ops C K A s2 s a W->mV P md ops C (λl a W=>l=H0/\K a W) (s.length+s2.length+1) listed a W
 |[],listed,a,W,inv,hB,hC,h=>by
  simp only[kS,Bool.and_eq_true,decide_eq_true_eq] at hB;obtain⟨hr,hH⟩:=hB;have hr':A∈Region.ready md ops listed:=by rw[hr];simp
  obtain⟨o,ho,hs⟩:=h;rw[List.length_nil,Nat.zero_add];refine⟨λh=>(by rw[hr] at h;cases h),λj hj=>?_⟩;rw[hr] at hj;obtain rfl:j=A:=by simpa using hj
  exact⟨o,ho,hs.mono λa' W' hC' hk=>eP hsel s2 _ _ _ (inv.set hr') hH hC' hk⟩
 |(true,i)::r,listed,a,W,inv,hB,hC,h=>by
  simp only[kS,Bool.and_eq_true,Bool.or_eq_true,decide_eq_true_eq] at hB;obtain⟨hr,hf,hH,hB⟩:=hB;obtain⟨o,v,ho,hy,hk⟩:=h;have hr':i∈Region.ready md ops listed:=by simpa using hr
  rw[show((true,i)::r).length+s2.length+1=(r.length+s2.length+1)+1 by rw[List.length_cons];omega];exact lI ho (Region.noSelect_spec hsel) hH (λ_ _ _ h=>h.1) _ _ a W inv (Region.free_spec ho hf) hr' hy hC (gG hsel r _ _ _ (inv.set hr') hB hC hk)
 |(false,i)::r,listed,a,W,inv,hB,hC,h=>by
  simp only[kS,Bool.and_eq_true] at hB;obtain⟨hr,hall,hB1,hA,hB2⟩:=hB;have hr':i∈Region.ready md ops listed:=by simpa using hr
  have hA':A∈Region.ready md ops listed:=by simpa using hA
  obtain⟨⟨o,ho,hs⟩,⟨oA,T_,hsA⟩⟩:=h;rw[show((false,i)::r).length+s2.length+1=(r.length+s2.length+1)+1 by rw[List.length_cons];omega];refine⟨λh=>(by rw[h] at hr';cases hr'),λj hj=>?_⟩;have hj':=List.all_eq_true.1 hall j hj;simp only[Bool.or_eq_true,decide_eq_true_eq] at hj';rcases hj' with rfl|rfl
  ·exact⟨o,ho,hs.mono λa' W' hC' hk=>gG hsel r _ _ _ (inv.set hr') hB1 hC' hk⟩
  ·refine⟨oA,T_,hsA.mono λa' W' hC' hk=>?_⟩
   have:=eP hsel ((false,i)::r++s2) _ _ _ (inv.set hA') hB2 hC' hk;rw[show((false,i)::r++s2).length=r.length+s2.length+1 by simp] at this;exact this
theorem nJ{id:Nat}{a:Act}{w:World}(A:Nat)(s s2 t:List (Bool×Nat))(C:World->Prop)(hm:P.follows .mixedOrders=true)(hs:Region.noSelect ops=true)(hl:s.length+s2.length+1+t.length=ops.size)
  (hB:kS .any ops (lJ ops.size (s++[(false,A)]++s2)) A s2 s (Array.replicate ops.size false)=true)
  (hT:jM .any ops t (lJ ops.size (s++[(false,A)]++s2))=true)
  (hC:C {w with drawn:=w.drawn+1}) (h:gU P ops C (aP P ops (λ_=>True) Q t) A s2 s a {w with drawn:=w.drawn+1}):(Code.region id ops true).wp P Q a w:=by
 refine wp_region_any hm ?_;rw[<-hl];refine h_ (λlisted a W hh=>?_) _ _ _ _ (gG hs s _ a _ (λj oj _ hj=>by rw[getD_replicate_false] at hj;cases hj) (by rw[hl];exact hB) hC h);obtain⟨rfl,hk⟩:=hh;exact gZ _ _ _ _ (fA hs t _ a W hT trivial hk)
theorem bZ{K:Act->World->Prop}{A i:Nat}{s2 r:List (Bool×Nat)}{o:Oper}{a:Act}{W:World}(ho:ops[i]? =some o)(v:Value)(hw:Region.wanted o (yielded ops a.tmps)=true)(hr:∀W,C W->(execOp a.eval o).run P W=.ok (.value v) W)(h:gU P ops C K A s2 r (a.put o.dst v) W):gU P ops C K A s2 ((true,i)::r) a W:=
 ⟨o,v,ho,⟨hw,hr⟩,h⟩
theorem xR{K:Act->World->Prop}{A i:Nat}{s2 r:List (Bool×Nat)}{o oA:Oper}{a:Act}{W:World}(ho:ops[i]? =some o)(f:FuncId)(args:Array Value)(hw:Region.wanted o (yielded ops a.tmps)=true)(hr:(execOp a.eval o).run P W=.ok (.enter f args) W)
  (hc:Calls P f args W (λe w'=>∃v,e=.returned v/\C w'/\gU P ops C K A s2 r (a.put o.dst v) w'))
  (T_:ops[A]? =some oA) (vA:Value) (WA:World) (hwA:Region.wanted oA (yielded ops a.tmps)=true) (WE:(execOp a.eval oA).run P W=.ok (.value vA) WA) (WJ:C WA) (hA:aW P ops C K ((false,i)::r++s2) (a.put oA.dst vA) WA):gU P ops C K A s2 ((false,i)::r) a W:=
 ⟨⟨o,ho,hw,.inr (.inr ⟨f,args,hr,hc⟩)⟩,⟨oA,T_,hwA,.inl ⟨vA,WA,WE,WJ,hA⟩⟩⟩
theorem pF{K:Act->World->Prop}{i:Nat}{r:List (Bool×Nat)}{o:Oper}{a:Act}{W:World}(ho:ops[i]? =some o)(W':World)(hw:Region.wanted o (yielded ops a.tmps)=true)(hr:(execOp a.eval o).run P W=.ok .skip W')(hC:C W')(h:aW P ops C K r (a.put o.dst undef) W'):aW P ops C K ((false,i)::r) a W:=
 ⟨o,ho,hw,.inr (.inl ⟨W',hr,hC,h⟩)⟩
theorem xU{K:Act->World->Prop}{A:Nat}{s2:List (Bool×Nat)}{oA:Oper}{a:Act}{W:World}(T_:ops[A]? =some oA)(vA:Value)(WA:World)(hwA:Region.wanted oA (yielded ops a.tmps)=true)(WE:(execOp a.eval oA).run P W=.ok (.value vA) WA)(WJ:C WA)(hA:aW P ops C K s2 (a.put oA.dst vA) WA):gU P ops C K A s2 [] a W:=
 ⟨oA,T_,hwA,.inl ⟨vA,WA,WE,WJ,hA⟩⟩
end
end Go.Proofs.YtolfphmdmpehdaaGreatDoor
