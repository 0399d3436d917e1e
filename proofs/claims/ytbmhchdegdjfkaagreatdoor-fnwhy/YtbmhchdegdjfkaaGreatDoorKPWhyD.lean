import Derived.Test.YtbmhchdegdjfkaaGreatDoorKXWhy
import Derived.Test.YtbmhchdegdjfkaaGreatDoorKBValid
import Derived.Test.YtbmhchdegdjfkaaGreatDoorKCUses
import Derived.Test.YtbmhchdegdjfkaaGreatDoorKDWhyS
import Derived.Test.YtbmhchdegdjfkaaGreatDoorKXUses
import Derived.Test.YtbmhchdegdjfkaaGreatDoorCards
import Derived.Test.YtbmhchdegdjfkaaGreatDoorTie
import Derived.Test.YtbmhchdegdjfkaaGreatDoorKFLaid
import Derived.Lib.SmallJoins
set_option maxRecDepth 100000
set_option maxHeartbeats 25600000
namespace Go.Proofs.YtbmhchdegdjfkaaGreatDoor
open Go.RowKit Go.Proofs.Tryz
def Gn(Kq:List Qz)(Kj:List KC)(sl:List Q_)(name:KC)(w w':KH)(e:Ending):Prop:=
 ∃(da:KG) (ns:List KC),e= .returned (.slice da ns.length ns.length)/\jG w' w.heap.size w'.heap.size da ns/\mq Kq Kj sl name ns/\K_ w w'
theorem zN(w:KH)(a:KG)(n:Nat)(c:List Qz)(i:KG)(j:Nat)(Kj:List KC)(k:KG)(p:Nat)(b:List Q_)(l:KC)(P:c.length<=1048576)(Q:∀s∈c,s.Fits)(R:Kj.length<=maxLen)(S:Kj.length<=j)(T:∀s∈Kj,s.size<=maxLen)(U:b.length<=1048576)(V:∀r∈b,r.texts.length<=1048576)(W:bY w a c)(X:Strs w i Kj)(Y:bK w k b)(Z:gH w):
  Calls prog 14 #[.agg #[.slice a c.length n],.agg #[.slice i Kj.length j,.slice k b.length p],.string l] w fun e w'=>Gn c Kj b l w w' e:=by
 have d:K_ w ((w.alloc (.cells #[.slice a c.length n] 25)).alloc (.cells #[.slice i Kj.length j,.slice k b.length p] 29)):=(ag _ _).alloc _;go_enter func14,ntmps14
 go_wp2_with fail
 refine (tH _ a n c i j Kj k p b P Q R S T U V (W.kept d) (X.kept d) (Y.kept d) (Z.kept d)).mono ?_;rintro e w1 ⟨q,a0⟩;have m:=d.trans q;rcases a0 with⟨B,rfl⟩|⟨t,C,hA,wz,bb,mb,mx,ts,b0,dc,f,ws,a1,rfl,kz,D,v,b1,x,E,F⟩
 ·have a2:=Kz B;clear B q d;go_wp2
  go_ret
  exact⟨none,[],rfl,.inl rfl,.inr ⟨fun h=>a2.o ⟨h.1,h.2.1,h.good.asc⟩,rfl⟩,m⟩
 have y:=Kz (x.trans (wG t C v E F));have⟨G,H,a3,HW⟩:=jh x D v t;clear C hA kz x E F q d D v t;cases a1
 ·go_wp2
  go_ret
  exact⟨none,[],rfl,.inl rfl,.inr ⟨fun h=>(by have h2:=y.o.2 h;cases h2),rfl⟩,m⟩
 have I:Hid (Qj ts=b):=G.o.1 rfl;have A:Hid (fU c Kj b):=y.o.1 rfl;clear G y;have b2:=H.o.len (kI HW.o);obtain⟨out,J,a4,K⟩:=A.o.why l;have L:=Kz J;have a5:Hid (∀s∈out,s.size<=1048576):=fun s hs=>by have:=(K s hs).2;omega
 clear J K;go_wp2_with fail
 refine (yt H.o a3.o (by omega) l out (by rw[I.o];exact L.o) (by rw[I.o];exact A.o.open) a4).mono ?_;rintro e w2 ⟨⟨da,a6,rfl,M⟩,N⟩;have a7:=Kz M;clear M;go_wp2_with fail
 refine (rD w2 da a6 out (by omega) a5.o a7.o).mono ?_;rintro e w3 ⟨a8,rfl,O,k3⟩;have a9:=Kz O;have KF:=m.trans (N.trans k3);have zz:=(m.trans N).size;clear O;go_wp2
 go_ret
 exact⟨a8,out,rfl,a9.o.mono (by omega) (IZ _),.inl ⟨A.o,L.o⟩,KF⟩
def zM(Kq:List Qz)(Kj:List KC)(sl:List Q_)(name:KC)(w w':KH)(e:Ending):Prop:=
 ∃(da:KG) (ns:List KC),e= .returned (.slice da ns.length ns.length)/\jG w' w.heap.size w'.heap.size da ns/\iA Kq Kj sl name ns/\K_ w w'
theorem x_(w:KH)(a:KG)(n:Nat)(c:List Qz)(i:KG)(j:Nat)(Kj:List KC)(k:KG)(p:Nat)(b:List Q_)(l:KC)(_hnz:l.size<=maxLen)(M:c.length<=1048576)(N:∀s∈c,s.Fits)(O:Kj.length<=maxLen)(P:Kj.length<=j)(Q:∀s∈Kj,s.size<=maxLen)(R:b.length<=1048576)(S:∀r∈b,r.texts.length<=1048576)(T:bY w a c)(U:Strs w i Kj)(V:bK w k b)(W:gH w):
  Calls prog 15 #[.agg #[.slice a c.length n],.agg #[.slice i Kj.length j,.slice k b.length p],.string l] w fun e w'=>zM c Kj b l w w' e:=by
 have f:K_ w ((w.alloc (.cells #[.slice a c.length n] 25)).alloc (.cells #[.slice i Kj.length j,.slice k b.length p] 29)):=(ag _ _).alloc _;go_enter func15,ntmps15
 go_wp2_with fail
 refine (tH _ a n c i j Kj k p b M N O P Q R S (T.kept f) (U.kept f) (V.kept f) (W.kept f)).mono ?_;rintro e w1 ⟨q,X⟩;have m:=f.trans q;rcases X with⟨A,rfl⟩|⟨t,B,Y,wz,bb,mb,mx,C,d,dc,a7,ws,Z,rfl,a0,D,v,a1,x,E,F⟩
 ·have a2:=Kz A;clear A q f;go_wp2
  go_ret
  exact⟨none,[],rfl,.inl rfl,⟨Ja _,.inr ⟨fun h=>a2.o ⟨h.1,h.2.1,h.good.asc⟩,rfl⟩⟩,m⟩
 have y:=Kz (x.trans (wG t B v E F));have⟨G,H,a3,I⟩:=jh x D v t;clear B Y a0 x E F q f D v t;cases Z
 ·go_wp2
  go_ret
  exact⟨none,[],rfl,.inl rfl,⟨Ja _,.inr ⟨fun h=>(by have h2:=y.o.2 h;cases h2),rfl⟩⟩,m⟩
 have J:Hid (Qj C=b):=G.o.1 rfl;have a4:Hid (fU c Kj b):=y.o.1 rfl;clear G y;have a5:=H.o.len (kI I.o);go_wp2_with fail
 refine (FH H.o a3.o (dL I.o) a1 a5 l).mono ?_;rintro e w2 ⟨da,ns,rfl,K,a6,L,k2⟩;have⟨HT,HU⟩:=aD K L;clear K L;go_wp2
 go_ret
 refine⟨da,ns,rfl,HT.o.mono m.size (IZ _),⟨a6,.inl ⟨a4.o, ?_⟩⟩,m.trans k2⟩;have h:=HU.o;have e:C.map (·.r.name)=b.map (·.name):=by rw[<-J.o];simp[Qj]
 rw[e,J.o] at h;exact h
def IM(w:KH)(sl:List Q_)(n:KC)(x b:Act)(u:KH):Prop:=
 ∃(v0 v1 v2 v3 v4 v5 v6 v7 v8 v9:KI) (xb:Nat) (r:Q_) (xa:KG) (xc:Nat) (f:Bool),b= ((((((((((x.put (some 105) v0).put (some 106) v1).put (some 107) v2).put (some 108) v3).put (some 109) v4).put (some 110) v5).put (some 104) v6).put (some 111) v7).put (some 112) v8).put (some 14) v9).put (some 13) (.pointer (some ⟨xb,0,none⟩))/\K_ w u/\eZ u xb r xa xc/\((f=true->Qq sl n=some r)/\(f=false->Qq sl n=none))
structure yD (L:List Qz) (Kj:List KC) (sl:List Q_) (name:KC) (ns:List KC):Prop where
 pos:0<ns.length
 head:ns.getD 0 ByteArray.empty=name
 tells:∀i,i+1<ns.length->∃r,Qq sl (ns.getD i ByteArray.empty)=some r/\r.over=true/\r.fail=true/\r.text=eG++ns.getD (i+1) ByteArray.empty
 near:∀i,i+1<ns.length->∀us,iA L Kj sl (ns.getD (i+1) ByteArray.empty) us->ns.getD i ByteArray.empty∈us
 far:∀i,i+1<ns.length->∀us,iA L Kj sl (ns.getD (ns.length-1) ByteArray.empty) us->ns.getD i ByteArray.empty∈us
 last:Qq sl (ns.getD (ns.length-1) ByteArray.empty)=none\/∃r,Qq sl (ns.getD (ns.length-1) ByteArray.empty)=some r/\r.over=true/\r.fail=true
variable {name : KC} {ns Kj : List KC}
theorem Gy{L:List Qz}{b:List Q_}{r:Q_}(h:mq L Kj b name ns)(m:fU L Kj b)(s:Qq b name=some r)(w:r.over=true)(x:r.fail=true):yD L Kj b name ns:=by
 have l:=m.IX;have e:iN (Kk L) (Qq b) name ns:=by
  rcases h with⟨_,h⟩|⟨h,_⟩
  ·rcases h with⟨c,_⟩|⟨q,c,d,_⟩|⟨q,_,_,_,f⟩
   ·rw[s] at c;cases c
   ·rw[s] at c;cases c;exact Ki ⟨w,x⟩ d
   ·exact f
  ·exact Ki m h
 have t:∀i j,(∃k,gp (gF (Kk L) (Qq b)) (k+1) (ns.getD i ByteArray.empty) (ns.getD j ByteArray.empty))->i+1<ns.length->∀n,iA L Kj b (ns.getD j ByteArray.empty) n->ns.getD i ByteArray.empty∈n:=fun i j y a n A=>by
  rcases A.2 with⟨_,d⟩|⟨d,_⟩
  ·rw[d.2];obtain⟨q,p,_⟩:=e.tells l i a;have f:=bC p;exact⟨Ju.2 ⟨q,f.1,f.2⟩,y⟩
  ·exact Ki m d
 obtain⟨D,v⟩:=e.head;refine⟨by rw[v];simp,by rw[v];rfl,fun i a=>?_,fun i a=>t i (i+1) ?_ a,fun i a=>t i (ns.length-1) ?_ a,e.last⟩
 ·obtain⟨q,c,d,p,f,_⟩:=e.tells l i a;exact⟨q,c,d,p,f⟩
 ·obtain⟨q,_,_,_,_,B⟩:=e.tells l i a;exact⟨0,gp.one B⟩
 ·obtain⟨k,C⟩:∃k,i+ (k+1)+1=ns.length:=⟨ns.length-i-2,by omega⟩;exact⟨k,e.walk l (k+1) i C⟩
theorem pV{L:List Qz}{b:List Q_}(h:mq L Kj b name ns)(c:¬(fU L Kj b/\∃r,Qq b name=some r/\r.over=true/\r.fail=true)):ns=[]:=by
 rcases h with⟨d,h⟩|⟨_,h⟩
 ·rcases h with⟨_,a⟩|⟨q,_,_,a⟩|⟨q,a,e,f,_⟩
  ·exact a
  ·exact a
  ·exact Ki ⟨d,q,a,e,f⟩ c
 ·exact h
theorem yD.size{N:Nat}{L:List Qz}{a:List Q_}(h:yD L Kj a name ns)(b:∀r∈a,mR N r)(j:name.size<=300)(i:Nat)(c:i<ns.length):(ns.getD i ByteArray.empty).size<=300+N:=by
 cases i with
 | zero=>rw[h.head];omega
 | succ i=>
  obtain⟨r,d,_,_,e⟩:=h.tells i c;have f:=(b r (bC d).1).text;rw[e,ByteArray.size_append] at f;omega
theorem Gi(w:KH)(a:KG)(d7:Nat)(bs:List UInt8)(hB:BytesAt w a bs)(j6:bs.length<=d7)(f8:gH w):
  Calls prog 4 #[.slice a bs.length d7] w fun e w'=>e= .returned (.bool true)/\K_ w w':=by
 by_cases n5:(1048576:Int)<(bs.length:Int)
 ·go_enter func4,ntmps4
  go_wp2
  go_ret
  exact⟨rfl,K_.refl _⟩
 go_enter func4,ntmps4
 go_wp2_with fail
 refine (zU _ a d7 bs hB j6 (by omega)).mono ?_;rintro e w1 ⟨N,O,L,q,s,t,x,Kj,k,a8,rfl,f9,hL,g0,hG,hU,g1⟩;obtain⟨W1,b2⟩:=ah ((w1.alloc (.cells #[.slice N L.length O] 25)).alloc (.cells #[.slice q Kj.length s,.slice t k.length x] 29));obtain⟨wb,c8⟩:=ah w1.heap.size;obtain⟨Y,d8⟩:=ah (w1.heap.size+1);have kA:K_ w1 (w1.alloc (.cells #[.slice N L.length O] 25)):=ag _ _;have kB:K_ (w1.alloc (.cells #[.slice N L.length O] 25)) W1:=by rw[b2];exact ag _ _
 have d9:=Kz ((g1.trans kA).trans kB);have j7:W1.heap.size=w1.heap.size+2:=by rw[b2];simp
 have T:Hid (∀u,K_ W1 u->u.cell? ⟨wb,0,none⟩=some (.slice N L.length O)/\u.cell? ⟨Y,0,none⟩=some (.slice q Kj.length s)/\u.cell? ⟨Y,1,none⟩=some (.slice t k.length x)/\wb<u.heap.size/\Y<u.heap.size):=fun u y=>by
  have hz:=y.size;have b3:=X_ (w1.alloc (.cells #[.slice N L.length O] 25)) #[.slice q Kj.length s,.slice t k.length x] 29;rw[<-b2] at b3;simp only[JG] at b3;rw[<-d8] at b3;refine⟨(y.cell (by omega)).trans ((kB.cell (by rw[c8];simp)).trans ?_),(y.cell (by omega)).trans (b3 0 _ rfl),(y.cell (by omega)).trans (b3 1 _ rfl),by omega,by omega⟩;rw[c8];exact X_ w1 _ _ 0 _ rfl
 have b4:=Kz ((hG.kept kA).kept kB).nodes;have p:=Kz ((hU.kept kA).kept kB);have g2:=Kz (f8.kept d9.o);have b5:=Kz (xk (by omega) g0);have b6:Hid (∀e0∈Kj,e0.size<=maxLen):=fun e0 hs=>by have:=hU.rz e0 hs;unfold maxLen;omega
 have b7:Hid (∀r∈k,r.texts.length<=1048576):=fun r hr=>by have:=(hU.sb r hr).texts;omega
 have n6:=hU.rn;have n7:=hU.sn;go_upto_region 4 with fail
 rw[<-b2,<-d8,<-c8];clear b2 c8 d8 g0 hG hU g1 kA kB j7 f8 hB;have e1:Hid (∀b8 nm,ByteArray.size nm<=301->K_ W1 b8->Calls prog 15 #[.agg #[.slice N L.length O],.agg #[.slice q Kj.length s,.slice t k.length x],.string nm] b8 fun e w'=>zM L Kj k nm b8 w' e):=fun b8 nm hz c9=>x_ b8 N O L q s Kj t x k nm (by unfold maxLen;omega) (by omega) b5.o (by unfold maxLen;omega) p.o.rl b6.o (by omega) b7.o (b4.o.kept c9) (p.o.rs.kept c9) (p.o.rr.kept c9) (g2.o.kept c9)
 obtain⟨A,B,C,D,E⟩:=T.o W1 (K_.refl _);go_wp2_with fail
 refine (zN W1 N O L q s Kj t x k a8 (by omega) b5.o (by unfold maxLen;omega) p.o.rl b6.o (by omega) b7.o b4.o p.o.rs p.o.rr g2.o).mono ?_;rintro e w2 ⟨la,m,rfl,g3,e2,k2⟩;have⟨g4,a9⟩:=aD g3.strs e2;have n8:=e2.len;clear g3 e2 A B C D E;obtain⟨A,B,C,D,E⟩:=T.o w2 k2;go_wp2_with fail
 refine (e1.o w2 a8 (by omega) k2).mono ?_;rintro e w3 ⟨ua,us,rfl,g5,e3,k3⟩;have⟨g6,g7⟩:=aD g5.strs e3;have n9:=e3.len;have K3:=k2.trans k3;have g8:=Kz (g4.o.kept k3);clear g5 e3 A B C D E g4;obtain⟨A,B,C,D,E⟩:=T.o w3 K3;go_wp2_with fail
 refine (zG w3 N O L q s Kj t x k a8 (by omega) b5.o (by omega) b6.o (by omega) b7.o (b4.o.kept K3) (p.o.rr.kept K3) (p.o.rs.kept K3)).mono ?_;rintro e w4 ⟨⟨j8,k0,ms,rfl,g9,h1⟩,k4⟩;obtain rfl:=a9.o.one h1;have K4:=K3.trans k4;have e4:=Kz (g8.o.kept k4);have h2:=Kz g9.strs;clear g9 h1 A B C D E;go_wp2_with fail
 refine (uH w4 la j8 _ k0 ms (by omega) e4.o h2.o).mono ?_;rintro e l ⟨rfl,Z⟩;have K5:=K4.trans Z;clear h2;obtain⟨A,B,C,D,E⟩:=T.o l K5;go_wp2_with fail
 refine (yH l N O L q s Kj t x k a8 (by omega) b5.o (by omega) b6.o (by omega) b7.o (b4.o.kept K5) (p.o.rr.kept K5) (p.o.rs.kept K5)).mono ?_;rintro e w6 ⟨⟨k1,k5,vs,rfl,h6,b0⟩,k6⟩;obtain rfl:=g7.o.one b0;have K6:=K5.trans k6;have h7:=Kz (g6.o.kept ((k4.trans Z).trans k6));have h8:=Kz h6;clear h6 b0 A B C D E;go_wp2_with fail
 refine (uH w6 ua k1 _ k5 vs (by omega) h7.o h8.o).mono ?_;rintro e w7 ⟨rfl,k7⟩;have K7:=K6.trans k7;have h9:=Kz (e4.o.kept ((Z.trans k6).trans k7));clear h8 h7 g6 g7 g8 e4 k2 k3 k4 Z k6 k7;obtain⟨A,B,C,D,E⟩:=T.o w7 K7;go_wp2_with fail
 refine (nX w7 q Kj.length s t x k a8 (by omega) (p.o.rr.kept K7)).mono ?_;rintro e w8 ⟨⟨r,f,i,b,rfl,Q,U⟩,k8⟩;obtain⟨W9,b9⟩:=ah (w8.alloc (.cells #[.string r.name,.bool r.over,.bool r.fail,.string r.text,.int .i64 r.at',.int .i64 r.Zq,.slice f r.texts.length i] 40));have k9:K_ w8 W9:=by rw[b9];exact ag _ _
 have H:=X_ w8 #[.string r.name,.bool r.over,.bool r.fail,.string r.text,.int .i64 r.at',.int .i64 r.Zq,.slice f r.texts.length i] 40;rw[<-b9] at H;have x1:=H 1 _ rfl;have x2:=H 2 _ rfl;simp only[JA] at x1 x2;have xz:w8.heap.size<W9.heap.size:=by rw[b9];simp
 obtain⟨o0,e5⟩:=ah w8.heap.size;have K9:=K7.trans (k8.trans k9);have l0:=Kz (h9.o.kept (k8.trans k9));have⟨a5,c0⟩:=aD Q U;clear Q U;go_upto_region 9 with fail
 rw[<-b9,<-e5];rw[<-e5] at x1 x2 xz;clear b9 e5 H k8 k9 A B C D E h9;obtain⟨A,B,C,D,E⟩:=T.o W9 K9;have c1:=Kz K9;go_cut [73] from 56 to 73 (fun l1 V=>∃P:Bool,l1= .bool P/\K_ W9 V/\(P=true->ms=[])/\(P=false->yD L Kj k a8 ms))
 case first=>
  go_wp2_with fail
  refine (jM W9 N O L q s Kj t x k (by omega) b5.o (by omega) b6.o (by omega) b7.o (b4.o.kept c1.o) (p.o.rr.kept c1.o) (p.o.rs.kept c1.o)).mono ?_;rintro e o1 ⟨⟨vb,rfl,hv⟩,a0⟩;have HV:=Kz hv;have y1:=(a0.cell (o:=1) xz).trans x1;have y2:=(a0.cell (o:=2) xz).trans x2;have yz:=I_ xz a0.size;clear hv x1 x2 xz A B C D E;cases vb
  ·go_wp2
   go_meet
   exact⟨true,rfl,a0,fun _=>pV a9.o (fun h=>by have:=HV.o.2 h.1;cases this),fun h=>by cases h⟩
  cases b
  ·go_wp2
   go_meet
   exact⟨true,rfl,a0,fun _=>pV a9.o (fun h=>by obtain⟨_,c2,n,_⟩:=h;rw[c0.o (by first | rfl | trivial)] at n;cases n),fun h=>by cases h⟩
  rcases (show r.over=false\/r.over=true from by cases r.over <;> simp) with W | W
  ·rw[W] at y1;have HO:=Kz W;clear W;go_wp2
   go_meet
   exact⟨true,rfl,a0,fun _=>pV a9.o (fun h=>by obtain⟨_,c2,n,R,_⟩:=h;rw[a5.o (by first | rfl | trivial)] at n;cases n;rw[HO.o] at R;cases R),fun h=>by cases h⟩
  rw[W] at y1;have HO:=Kz W;clear W;rcases (show r.fail=false\/r.fail=true from by cases r.fail <;> simp) with J | J
  ·rw[J] at y2;have HF:=Kz J;clear J;go_wp2
   go_meet
   exact⟨true,rfl,a0,fun _=>pV a9.o (fun h=>by obtain⟨_,c2,n,_,R⟩:=h;rw[a5.o (by first | rfl | trivial)] at n;cases n;rw[HF.o] at R;cases R),fun h=>by cases h⟩
  ·rw[J] at y2;have HF:=Kz J;clear J;go_wp2
   go_meet
   exact⟨false,rfl,a0,(fun h=>by cases h),fun _=>Gy a9.o (HV.o.1 (by first | rfl | trivial)) (a5.o (by first | rfl | trivial)) HO.o HF.o⟩
 case rest=>
  clear x1 x2 xz A B C D E;obtain⟨P,rfl,kc,n,h0⟩:=hcut;have⟨e6,e7⟩:=aD n h0;clear n h0;cases P;rotate_left
  ·have i0:=e6.o rfl;have l2:((ms.length:Int) == 0)=true:=by rw[i0];rfl
   clear i0 e6 e7;go_wp2
   go_ret
   exact⟨rfl,d9.o.trans (c1.o.trans kc)⟩
  have a3:=Kz (e7.o rfl);have e8:=a3.o.pos;obtain⟨m,rfl⟩:=ah ms;have Kc:=c1.o.trans kc;have d0:=Kz (l0.o.kept kc);have l2:((m.length:Int) == 0)=false:=by simp;intro h;rw[h] at e8;simp at e8
  obtain⟨M,X,rfl,l3,i1⟩:=d0.o 0 e8;rw[a3.o.head,JM] at i1;have o2:(0:Int)<(m.length:Int):=by omega
  obtain⟨b1,hm⟩:=ah (m.length-1);obtain⟨last,d1⟩:=ah (m.getD b1 ByteArray.empty);have l4:wc.cell? ⟨M,X+b1,none⟩=some (.string last):=by
   obtain⟨b,o,e,_,hc⟩:=d0.o b1 (by omega);simp only[JI,Kv,and_true] at e;obtain⟨rfl,rfl⟩:=e;rw[d1];exact hc
  have o3:last.size<=301:=by rw[d1];exact a3.o.size p.o.sb f9 b1 (by omega)
  have l5:(m.length:Int)-1= (b1:Int):=by omega
  have l6:(b1:Int)<(m.length:Int):=by omega
  have i2:Hid (last=m.getD (m.length-1) ByteArray.empty):=by show _=_;rw[d1,hm]
  clear hm d1 e6 e7;obtain⟨A,B,C,D,E⟩:=T.o wc Kc;go_wp2_with fail
  refine (e1.o wc last (by omega) Kc).mono ?_;rintro e l7 ⟨oa,os,rfl,i3,e9,i4⟩;have⟨l8,l9⟩:=aD i3.strs e9;have o4:=e9.len;have m0:=Kc.trans i4;have m1:=Kz (d0.o.kept i4);have i5:=Kz m0;clear i3 e9 A B C D E l3 i1 l4 l5 l6;clear d0;obtain⟨j9,o5⟩:=ah (m.length-1);go_wp2
  go_loopg [12] j9 (fun gg m2 wr=>∃j:Nat,m2= .int .i64 (j:Int)/\j+gg=j9/\K_ l7 wr)
  case atStart=>exact⟨0,rfl,by omega,K_.refl _⟩
  case round=>
   obtain⟨j,rfl,hi,kr⟩:=hrel;have d2:=Kz kr;have d3:=i5.o.trans kr;by_cases i6:(j:Int)+1<(m.length:Int)
   ·obtain⟨I,H⟩:=ah (m.getD j ByteArray.empty);obtain⟨a4,hy⟩:=ah (m.getD (j+1) ByteArray.empty);have f0:=Kz (a3.o.tells j (by omega));rw[<-H,<-hy] at f0;have o6:a4.size<=301:=by rw[hy];exact a3.o.size p.o.sb f9 (j+1) (by omega)
    have m3:Hid (I∈os):=by have h:=a3.o.far j (by omega) os (by rw[<-i2.o];exact l9.o);rw[<-H] at h;exact h
    have m4:Hid (∀us,iA L Kj k a4 us->I∈us):=fun us hu=>by have h:=a3.o.near j (by omega) us (by rw[<-hy];exact hu);rw[<-H] at h;exact h
    have i7:Hid (∀u,K_ wr u->u.cell? ⟨M,X+j,none⟩=some (.string I)/\u.cell? ⟨M,X+ (j+1),none⟩=some (.string a4)/\M<u.heap.size):=fun u y=>by
     have hS:=(m1.o.kept d2.o).kept y;obtain⟨b,o,e,hb,hc⟩:=hS j (by omega);obtain⟨b',o',e',o7,m5⟩:=hS (j+1) (by omega);simp only[JI,Kv,and_true] at e e';obtain⟨rfl,rfl⟩:=e;obtain⟨rfl,rfl⟩:=e';exact⟨by rw[H];exact hc,by rw[hy];exact m5,hb⟩
    have S:Hid (∀u,K_ wr u->u.cell? ⟨Y,0,none⟩=some (.slice q Kj.length s)/\u.cell? ⟨Y,1,none⟩=some (.slice t k.length x)/\Y<u.heap.size/\u.cell? ⟨M,X+j,none⟩=some (.string I)/\M<u.heap.size):=fun u y=>by
     obtain⟨_,n,R,_,h3⟩:=T.o u (d3.trans y);obtain⟨h4,_,h5⟩:=i7.o u y;exact⟨n,R,h3,h4,h5⟩
    have o8:(j:Int)<(m.length:Int):=by omega
    have i8:Hid (∀(V:KH) (F:Nat) (r:Q_) (f:KG) (i:Nat) (P:Bool),K_ wr V->eZ V F r f i->((P=true->Qq k I=some r)/\(P=false->Qq k I=none))->∀u,K_ V u->u.cell? ⟨F,1,none⟩=some (.bool true)/\u.cell? ⟨F,2,none⟩=some (.bool true)/\u.cell? ⟨F,3,none⟩=some (.string (⟨#[98,101,108,111,119,32]⟩++a4))/\F<u.heap.size):=fun V F r f i P _ c3 J u y=>by
     obtain⟨c2,n,R,h3,h4⟩:=f0.o;have hr:r=c2:=by
      cases P
      ·rw[J.2 rfl] at n;cases n
      ·rw[J.1 rfl] at n;cases n;rfl
     subst hr;obtain⟨_,f1,f2,f3,_⟩:=(c3.kept y).all;exact⟨by rw[f1,R],by rw[f2,h3],by rw[f3,h4];rfl,(c3.kept y).row.lt⟩
    clear H hy;go_upto_region 18 with fail
    refine rQ (IM wr k I) ?_ ?_
    ·refine bS 11 S.o fun G KD d=>?_
     refine aB 0 d ?_;refine ae 4 d ?_;refine bG 5 9 (fun K c=>?_) (fun K c=>?_)
     ·rw[Kg (by rfl)];go_simp
      go_at_call 18
      refine (nX G q Kj.length s t x k I (by omega) (p.o.rr.kept (d3.trans KD))).mono ?_;rintro e l ⟨⟨r,f,i,b,rfl,Q,U⟩,Z⟩;have KY:=KD.trans Z;have⟨a5,c0⟩:=aD Q U;clear Q U;dsimp only;refine c.out _ _ (fun _=>S.o _ KY) ?_;clear c K d;try simp only[Act.put,upA,upB,upC]
      have d:=S.o _ KY;refine ae 6 d ?_;refine ae 7 d ?_;refine ae 8 d ?_;refine ai 9 (fun K c=>?_);go_simp
      have KA:K_ wr (l.alloc (.cells #[.string ⟨#[]⟩,.bool false,.bool false,.string ⟨#[]⟩,.int .i64 0,.int .i64 0,.slice none 0 0] 40)):=KY.alloc _;have d4:Hid (au (l.alloc (.cells #[.string ⟨#[]⟩,.bool false,.bool false,.string ⟨#[]⟩,.int .i64 0,.int .i64 0,.slice none 0 0] 40)) l.heap.size 40 7):=au.made l _ _;have f4:wr.heap.size<=l.heap.size:=KY.size;refine c.out _ _ (fun _=>S.o _ KA) ?_;clear c K d;try simp only[Act.put,upA,upB,upC]
      have d:=S.o _ KA;have f5:=Kz (all_oneCell_toArray (cs:=r.cells f i) (by simp[Q_.cells,Value.oneCell']));refine ai 10 (fun K c=>?_);refine wp_store_mid 40 _ _ rfl l.heap.size 0 #[.string r.name,.bool r.over,.bool r.fail,.string r.text,.int .i64 r.at',.int .i64 r.Zq,.slice f r.texts.length i] (by rfl) (by rfl) (d4.o.row.there (o:=0) (m:=7) (by omega)) Tryz.nR f5.o ?_;have KS:K_ wr ((l.alloc (.cells #[.string ⟨#[]⟩,.bool false,.bool false,.string ⟨#[]⟩,.int .i64 0,.int .i64 0,.slice none 0 0] 40)).setCells l.heap.size 0 (r.cells f i)):=bT (g:=l.heap.size) f4 (r.cells f i) 0 KA;have f6:Hid (eZ ((l.alloc (.cells #[.string ⟨#[]⟩,.bool false,.bool false,.string ⟨#[]⟩,.int .i64 0,.int .i64 0,.slice none 0 0] 40)).setCells l.heap.size 0 (r.cells f i)) l.heap.size r f i):=eZ.laid d4.o;refine c.out _ _ (fun _=>S.o _ KS) ?_;clear c K d;try simp only[Act.put]
      refine af 11 (fun K c=>?_);go_simp
      refine c.out _ _ (fun h=>Ki rfl h) ?_;clear c K;try simp only[Act.put]
      refine ay ⟨rfl, ?_⟩;refine⟨.agg #[.slice q Kj.length s,.slice t k.length x],.slice (some ⟨M,X,none⟩) m.length m.length,.int .i64 (j:Int),.pointer (some ⟨M,X+j,none⟩),.string I,.tuple #[.agg #[.string r.name,.bool r.over,.bool r.fail,.string r.text,.int .i64 r.at',.int .i64 r.Zq,.slice f r.texts.length i],.bool b],.tuple #[.agg #[.string r.name,.bool r.over,.bool r.fail,.string r.text,.int .i64 r.at',.int .i64 r.Zq,.slice f r.texts.length i],.bool b],.agg #[.string r.name,.bool r.over,.bool r.fail,.string r.text,.int .i64 r.at',.int .i64 r.Zq,.slice f r.texts.length i],.bool b,.bool b,l.heap.size,r,f,i,b, ?_,KS,f6.o,a5.o,c0.o⟩;simp only[Act.put,List.setIfInBounds_toArray,List.set_cons_zero,JS]
     ·rw[Kg (by rfl)];go_simp
      have KA:K_ wr (G.alloc (.cells #[.string ⟨#[]⟩,.bool false,.bool false,.string ⟨#[]⟩,.int .i64 0,.int .i64 0,.slice none 0 0] 40)):=KD.alloc _;have d4:Hid (au (G.alloc (.cells #[.string ⟨#[]⟩,.bool false,.bool false,.string ⟨#[]⟩,.int .i64 0,.int .i64 0,.slice none 0 0] 40)) G.heap.size 40 7):=au.made G _ _;have f4:wr.heap.size<=G.heap.size:=KD.size;refine c.out _ _ (fun _=>S.o _ KA) ?_;clear c K d;try simp only[Act.put,upA,upB,upC]
      have d:=S.o _ KA;refine ai 5 (fun K c=>?_);go_simp
      go_at_call 18
      refine (nX (G.alloc (.cells #[.string ⟨#[]⟩,.bool false,.bool false,.string ⟨#[]⟩,.int .i64 0,.int .i64 0,.slice none 0 0] 40)) q Kj.length s t x k I (by omega) (p.o.rr.kept (d3.trans KA))).mono ?_;rintro e l ⟨⟨r,f,i,b,rfl,Q,U⟩,Z⟩;have KY:=KA.trans Z;have⟨a5,c0⟩:=aD Q U;clear Q U;dsimp only;refine c.out _ _ (fun _=>S.o _ KY) ?_;clear c K d;try simp only[Act.put,upA,upB,upC]
      have d:=S.o _ KY;have i9:=Kz (d4.o.kept Z);refine ae 6 d ?_;refine ae 7 d ?_;refine ae 8 d ?_;have f5:=Kz (all_oneCell_toArray (cs:=r.cells f i) (by simp[Q_.cells,Value.oneCell']));refine ai 10 (fun K c=>?_);refine wp_store_mid 40 _ _ rfl G.heap.size 0 #[.string r.name,.bool r.over,.bool r.fail,.string r.text,.int .i64 r.at',.int .i64 r.Zq,.slice f r.texts.length i] (by rfl) (by rfl) (i9.o.row.there (o:=0) (m:=7) (by omega)) Tryz.nR f5.o ?_;have KS:K_ wr (l.setCells G.heap.size 0 (r.cells f i)):=bT (g:=G.heap.size) f4 (r.cells f i) 0 KY;have f6:Hid (eZ (l.setCells G.heap.size 0 (r.cells f i)) G.heap.size r f i):=eZ.laid i9.o;refine c.out _ _ (fun _=>S.o _ KS) ?_;clear c K d;try simp only[Act.put]
      refine af 11 (fun K c=>?_);go_simp
      refine c.out _ _ (fun h=>Ki rfl h) ?_;clear c K;try simp only[Act.put]
      refine ay ⟨rfl, ?_⟩;refine⟨.agg #[.slice q Kj.length s,.slice t k.length x],.slice (some ⟨M,X,none⟩) m.length m.length,.int .i64 (j:Int),.pointer (some ⟨M,X+j,none⟩),.string I,.tuple #[.agg #[.string r.name,.bool r.over,.bool r.fail,.string r.text,.int .i64 r.at',.int .i64 r.Zq,.slice f r.texts.length i],.bool b],.tuple #[.agg #[.string r.name,.bool r.over,.bool r.fail,.string r.text,.int .i64 r.at',.int .i64 r.Zq,.slice f r.texts.length i],.bool b],.agg #[.string r.name,.bool r.over,.bool r.fail,.string r.text,.int .i64 r.at',.int .i64 r.Zq,.slice f r.texts.length i],.bool b,.bool b,G.heap.size,r,f,i,b, ?_,KS,f6.o,a5.o,c0.o⟩;simp only[Act.put,List.setIfInBounds_toArray,List.set_cons_zero,JS]
    rintro _ V ⟨o9,p0,p1,v3,p2,p3,p4,p5,v8,p6,F,r,f,i,P,rfl,kx,c3,j0⟩;try simp only[Act.put,upA,upB,upC]
    have j1:=d3.trans kx;have j2:Hid (∀u,K_ V u->u.cell? ⟨F,1,none⟩=some (.bool true)/\u.cell? ⟨F,2,none⟩=some (.bool true)/\u.cell? ⟨F,3,none⟩=some (.string (⟨#[98,101,108,111,119,32]⟩++a4))/\F<u.heap.size):=i8.o V F r f i P kx c3 j0;have c4:Hid (∀u,K_ V u->u.cell? ⟨F,1,none⟩=some (.bool true)/\u.cell? ⟨F,2,none⟩=some (.bool true)/\u.cell? ⟨F,3,none⟩=some (.string (⟨#[98,101,108,111,119,32]⟩++a4))/\F<u.heap.size/\u.cell? ⟨M,X+j,none⟩=some (.string I)/\u.cell? ⟨M,X+ (j+1),none⟩=some (.string a4)/\M<u.heap.size/\u.cell? ⟨wb,0,none⟩=some (.slice N L.length O)/\u.cell? ⟨Y,0,none⟩=some (.slice q Kj.length s)/\u.cell? ⟨Y,1,none⟩=some (.slice t k.length x)/\wb<u.heap.size/\Y<u.heap.size):=fun u y=>by
     obtain⟨a1,a2,m6,m7⟩:=j2.o u y;obtain⟨m8,a6,a7⟩:=i7.o u (kx.trans y);obtain⟨f1,f2,f3,m9,n0⟩:=T.o u (j1.trans y);exact⟨a1,a2,m6,m7,m8,a6,a7,f1,f2,f3,m9,n0⟩
    have p7:IntKind.i64.wrap ((j:Int)+1)= (j:Int)+1:=by simp[IntKind.wrap,IntKind.bits,IntKind.signed];omega
    have p8:((j:Int)+1)<(m.length:Int):=i6;have p9:(0:Int)<=(j:Int)+1:=by omega
    have q0:(⟨#[98,101,108,111,119,32]⟩:KC).size=6:=rfl;clear c3 j0 f0 j2 i8;go_upto_region 19 with fail
    refine bS 43 c4.o fun G KD d=>?_
    refine aB 0 d ?_;refine aB 4 d ?_;refine aB 8 d ?_;refine aB 12 d ?_;refine Qk.take 16 [17,18,19,20,21,22,23,24,25,26,27,28,29,30,31,32,33,34,35,36,37,38,39,40,41,42,43] (v:=?_) (by (simp only[Kw,JW,JX];rfl)) (by kernel_rfl) (by kernel_rfl) (by kernel_rfl) (by kernel_rfl) (by exact fun _ _ _ h=>h) (Or.inl ⟨by rfl, ?_⟩) d ?_;rotate_left
    ·intro u hu;try dsimp only at hu
     go_simp
     rw[Kh (by omega)]
    try simp only[Act.put,upA,upB,upC]
    refine aB 17 d ?_;refine aB 21 d ?_;refine ai 25 (fun K c=>?_);go_simp
    go_at_call 9
    refine (CF G oa os.length os I (by omega) (l8.o.kept (d2.o.trans (kx.trans KD)))).mono ?_;rintro e l ⟨c5,c6⟩;rcases c5.cases with⟨rfl,_⟩|⟨rfl,f7⟩;rotate_left
    ·exact Ki m3.o f7
    rw[c6];clear c6 l c5;dsimp only;refine c.out _ _ (fun _=>c4.o _ KD) ?_;clear c K;try simp only[Act.put,upA,upB,upC]
    refine aB 26 d ?_;refine aB 30 d ?_;refine ae 34 d ?_;refine ae 35 d ?_;refine aB 37 d ?_;refine ai 36 (fun K c=>?_);go_simp
    go_at_call 15
    refine (e1.o G a4 (by omega) (j1.trans KD)).mono ?_;rintro e w6 ⟨va,vs,rfl,j3,b0,k6⟩;have n1:=Kz j3.strs;have n2:=Kz (m4.o vs b0);have q1:=b0.len;have d5:=KD.trans k6;clear j3 b0;dsimp only;refine c.out _ _ (fun _=>c4.o _ d5) ?_;clear c K d;try simp only[Act.put,upA,upB,upC]
    have d:=c4.o _ d5;refine ai 41 (fun K c=>?_);go_simp
    go_at_call 9
    refine (CF w6 va vs.length vs I (by omega) (n1.o)).mono ?_;rintro e w7 ⟨c5,c6⟩;rcases c5.cases with⟨rfl,_⟩|⟨rfl,f7⟩;rotate_left
    ·exact Ki n2.o f7
    rw[c6];clear c6 w7 c5;dsimp only;refine c.out _ _ (fun _=>c4.o _ d5) ?_;clear c K;try simp only[Act.put,upA,upB,upC]
    refine ae 42 d ?_;refine af 43 (fun K c=>?_);go_simp
    refine c.out _ _ (fun h=>Ki rfl h) ?_;clear c K;try simp only[Act.put,upA,upB,upC]
    refine ay ?_;go_wp2
    go_roundg (gk-1)
    case measure=>omega
    case rel=>exact⟨j+1,by go_num,by omega,d2.o.trans (kx.trans d5)⟩
   ·have q2:¬(j:Int)+1<(m.length:Int):=i6;have KF:=i5.o.trans d2.o;obtain⟨A,B,C,D,E⟩:=T.o wr KF;go_wp2_with fail
    refine (nX wr q Kj.length s t x k last (by omega) (p.o.rr.kept KF)).mono ?_;rintro e d6 ⟨⟨r,f,i,b,rfl,Q,U⟩,n3⟩;obtain⟨j4,c7⟩:=ah (d6.alloc (.cells #[.string r.name,.bool r.over,.bool r.fail,.string r.text,.int .i64 r.at',.int .i64 r.Zq,.slice f r.texts.length i] 40));have n4:K_ d6 j4:=by rw[c7];exact ag _ _
    have H:=X_ d6 #[.string r.name,.bool r.over,.bool r.fail,.string r.text,.int .i64 r.at',.int .i64 r.Zq,.slice f r.texts.length i] 40;rw[<-c7] at H;have x1:=H 1 _ rfl;have x2:=H 2 _ rfl;simp only[JA] at x1 x2;have xz:d6.heap.size<j4.heap.size:=by rw[c7];simp
    have j5:=Kz (d9.o.trans ((KF.trans n3).trans n4));have HB:Hid (b=true->r.over=true/\r.fail=true):=fun hb=>by
     have h:=a3.o.last;rw[<-i2.o,Q hb] at h;rcases h with h|⟨c2,n,R,h3⟩
     ·cases h
     ·cases n;exact⟨R,h3⟩
    go_upto_region 22 with fail
    rw[<-c7];clear c7 H Q U A B C D E;cases b
    ·go_wp2
     go_ret
     exact⟨rfl,j5.o⟩
    ·obtain⟨W,J⟩:=HB.o (by first | rfl | trivial);rw[W] at x1;rw[J] at x2;clear W J HB;go_wp2
     go_ret
     exact⟨rfl,j5.o⟩
open Go.ChangeShapes Go.WideShapes Go.ChangeAt Go.RowKit Go.Joins Go.ChangeMaps
theorem Tryz.IY :ownKnob prog.godebug=none:=by kernel_rfl
theorem Tryz.Er :laidOutB prog=true:=by kernel_rfl
theorem vF{w:KH}(h:mO w):gH w:=fun W give a b l k c d e f=>BI W give a b l c d e f (h.kept k)
theorem Bv(os:Os)(r:os.Started)(H:Type)(enc:TypeId×KI->H):
  ReturnsInHanded {} Tryz.checked os 4 .any (fun w args=>(Rows.fnWhySpec.pre enc prog f4 [] false w args/\laidMetH prog laid3 w)/\sizedMet enc prog f4 (OpenSpec.ofChange Rows.fnWhySpec) false w args)
   (Rows.fnWhySpec.post enc prog f4 false true false false):=by
 refine returnsInHanded_of_change_and (C:=Tryz.checked) (X:=fun w _=>laidMetH prog laid3 w) (fun _ _ _ s h=>h.of_heap s) Tryz.IY r (by kernel_rfl) func4
  (ChangeSpec.witness_shaped (enc:=enc) (C:=Tryz.checked) (os:=os) (X:=fun w _=>laidMetH prog laid3 w) false (World.doorLaid prog 400 os) #[.slice none 0 0] 8 rfl (World.shaped_of_RefB (by kernel_rfl) (by kernel_rfl)) (by kernel_rfl) (by kernel_rfl) (by kernel_rfl) (EO os _)) ?_
 intro W base args y T U c d _ _ A _;have e:∀(j:Nat) t v,f4.params[j]? =some t->args[j]? =some v->Value.okWide prog W .any base t v:=c;have f:=d;obtain⟨B,V,i,D,rfl,Y,Z⟩:=d;have k:DataW.TrodAll enc prog W 0 (fun _=>true) true f4.params.toList args.toList y B:=i;rw[params4] at k e;obtain⟨l,a0,d0,a1,E,q0,a2,rfl,rfl,m,F⟩:=trodAll_cons k;obtain⟨rfl,rfl,rfl⟩:=trodAll_nil F;obtain rfl:args= #[l]:=by cases args;simp_all
 obtain⟨rfl,rfl⟩:=trodVars_none D;have b:=m;have G:∀x∈E,x.block<W.heap.size:=by obtain⟨I,J⟩:=b;exact DataW.trod_lt I _ _ _ J
 obtain⟨K,L,M,rfl⟩:=okWide_slice underlying22 (e 0 22 l rfl rfl);obtain⟨a3,N⟩:=m;obtain⟨a,n,p,O,P,hl,Q⟩:=Dl N;have R:Value.slice K L M= .slice a n.length p:=by simpa[Value.cells] using O
 rw[R] at b f⊢;clear i c;refine (Gi W a p n P Q (vF (Ay A))).mono fun a4 W' ⟨S,q⟩=>?_
 subst S;exact⟨_,rfl,_,_,_,[],_,[],f,trodAll_mk1 (shut_bool underlying4 _),(trodAll_cons_mk (Below.trod Tryz.Er (by kernel_rfl) (of_decide_eq_true (by kernel_rfl)) b q G) trodAll_mk0),rfl,Below.frame q _,fun h=>by cases h⟩
theorem Ea :Rows.FnWhySaid:=
 OpenClaim.holds_of_wide 4 f4 rfl rfl rfl rfl rfl rfl rfl ⟨rfl,rfl,rfl,rfl,rfl⟩ rfl rfl rfl rfl rfl (by kernel_rfl) func4 (by kernel_rfl)
  (of_decide_eq_true (by kernel_rfl)) (by unfold Func.isWrapper;first | (rw[Kg (by decide+kernel)];kernel_rfl) | (rw[Kh (by decide+kernel)];exact⟨rfl,rfl⟩))
  (fun a b H d _=>Bv a b H d)
theorem whyDCardHolds :Rows.FnWhyCardSaid:=
 Claim7.holds_tied_plain_at .later [] [.data,.data,.data] true Rows.fnWhyCard.stood.harness Rows.fnWhyCard.stood.looks
  Ea (fun _ h=>by cases h) (by kernel_rfl) (fun _ h=>by cases h) fnWhy_row_tie rfl ⟨rfl,rfl⟩ (by kernel_rfl) rfl
  (fun f b c d=>by
   obtain rfl:f=4:=JR ((show prog.funcNamed Rows.fnWhyRow.func=some 4 by kernel_rfl).symm.trans c) |>.symm;obtain rfl:b=f4:=(JR (func4.symm.trans d)).symm;exact⟨by kernel_rfl,fun j t a=>by
    rw[params4] at a;have e:t∈[22]:=by simpa using Array.mem_of_getElem? a
    have i:([22].all fun u=>!prog.wantsStandIn u)=true:=by kernel_rfl
    exact (show prog.wantsStandIn t=false by simpa using List.all_eq_true.1 i t e)⟩)
  (by kernel_rfl)
