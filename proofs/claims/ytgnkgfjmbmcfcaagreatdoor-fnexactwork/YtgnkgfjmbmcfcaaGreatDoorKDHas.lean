import Derived.Test.YtgnkgfjmbmcfcaaGreatDoorKVNeeds
import Derived.Test.YtgnkgfjmbmcfcaaGreatDoorKCResO
import Derived.Test.YtgnkgfjmbmcfcaaGreatDoorKBTask
import Derived.Deep.WholeRow
set_option maxRecDepth 100000
set_option maxHeartbeats 25600000
namespace Go.Proofs.YtgnkgfjmbmcfcaaGreatDoor
open Go.RowKit Go.Proofs.Tryz
structure rD where
 code:Int
 res:List dh
 chain:List Qw
 aY:Int
 cost:Int
theorem kV{w w1:Qy}{v0 v1 v2 v3 v4:QA}{t:TypeId}(k:K_ (w.alloc (.cells #[v0,v1,v2,v3,v4] t)) w1):w1.cell? ⟨w.heap.size,0,none⟩=some v0/\w1.cell? ⟨w.heap.size,1,none⟩=some v1/\w1.cell? ⟨w.heap.size,2,none⟩=some v2/\w1.cell? ⟨w.heap.size,3,none⟩=some v3/\w1.cell? ⟨w.heap.size,4,none⟩=some v4:=by
 have h:=X_ w #[v0,v1,v2,v3,v4] t;have z:w.heap.size<(w.alloc (.cells #[v0,v1,v2,v3,v4] t)).heap.size:=by simp
 exact⟨(k.cell z).trans (h 0 _ rfl),(k.cell z).trans (h 1 _ rfl),(k.cell z).trans (h 2 _ rfl),(k.cell z).trans (h 3 _ rfl),(k.cell z).trans (h 4 _ rfl)⟩
theorem zK(w:Qy)(a h f i:Qx)(cap n e0 p:Nat)(o:rD)(H:o.res.length<=maxLen)(I:o.chain.length<=maxLen)(J:iY w a o.res)(K:iY w h o.res)(L:Strs w f o.chain)(M:Strs w i o.chain):
  Calls prog 35 #[.agg #[.int .i64 o.code,.slice a o.res.length cap,.slice f o.chain.length e0,.int .i64 o.aY,.int .i64 o.cost],.agg #[.int .i64 o.code,.slice h o.res.length n,.slice i o.chain.length p,.int .i64 o.aY,.int .i64 o.cost]] w fun e w'=>e= .returned (.bool true)/\K_ w w':=by
 obtain⟨j,b,c,k,cost⟩:=o;dsimp only at *;obtain⟨d,g⟩:=ag ((w.alloc (.cells #[.int .i64 j,.slice a b.length cap,.slice f c.length e0,.int .i64 k,.int .i64 cost] 31)).alloc (.cells #[.int .i64 j,.slice h b.length n,.slice i c.length p,.int .i64 k,.int .i64 cost] 31));have l:K_ w d:=by rw[g];exact (ak _ _).alloc _
 have D:Hid (∀u,K_ d u->(u.cell? ⟨w.heap.size,0,none⟩=some (.int .i64 j)/\u.cell? ⟨w.heap.size,1,none⟩=some (.slice a b.length cap)/\u.cell? ⟨w.heap.size,2,none⟩=some (.slice f c.length e0)/\u.cell? ⟨w.heap.size,3,none⟩=some (.int .i64 k)/\u.cell? ⟨w.heap.size,4,none⟩=some (.int .i64 cost))/\(u.cell? ⟨w.heap.size+1,0,none⟩=some (.int .i64 j)/\u.cell? ⟨w.heap.size+1,1,none⟩=some (.slice h b.length n)/\u.cell? ⟨w.heap.size+1,2,none⟩=some (.slice i c.length p)/\u.cell? ⟨w.heap.size+1,3,none⟩=some (.int .i64 k)/\u.cell? ⟨w.heap.size+1,4,none⟩=some (.int .i64 cost))):=fun u E=>by
  rw[g] at E;refine⟨kV (w:=w) (t:=31) (K_.trans (ak _ _) E), ?_⟩;have F:=kV (w:=w.alloc (.cells #[.int .i64 j,.slice a b.length cap,.slice f c.length e0,.int .i64 k,.int .i64 cost] 31)) (t:=31) E;rw[PL] at F;exact F
 have O:w.heap.size<d.heap.size:=by rw[g];simp;omega
 have P:w.heap.size+1<d.heap.size:=by rw[g];simp
 go_enter func35,ntmps35
 go_upto_region 1 with fail
 rw[<-g];clear g;obtain⟨⟨q,r,s,v,x⟩,y,z,A,B,C⟩:=D.o _ (K_.refl d);go_wp2_with fail
 refine (zA d a h cap n b H (J.kept l) (K.kept l)).mono ?_;rintro e N ⟨rfl,m⟩;clear q r s v x y z A B C;obtain⟨⟨q,r,s,v,x⟩,y,z,A,B,C⟩:=D.o _ m;go_wp2_with fail
 refine (mJ N f i e0 p c I (L.kept (l.trans m)) (M.kept (l.trans m))).mono ?_;rintro e Q ⟨rfl,G⟩;clear q r s v x y z A B C;obtain⟨⟨q,r,s,v,x⟩,y,z,A,B,C⟩:=D.o _ (m.trans G);go_wp2
 go_ret
 exact⟨rfl,l.trans (m.trans G)⟩
theorem vV(w:Qy)(lo mid hi:Nat)(a f:Qx)(cap e0:Nat)(o:rD)(k:Nat)(z:0<k)(R:k+o.res.length*4+o.chain.length<=4611686018427387904)(A:lo<=mid)(B:mid<=hi)(S:hi<=w.heap.size)(C:fI w lo mid a o.res)(D:cZ w mid hi f o.chain):
  Calls prog 40 #[.agg #[.int .i64 o.code,.slice a o.res.length cap,.slice f o.chain.length e0,.int .i64 o.aY,.int .i64 o.cost],.int .i64 k] w fun e w'=>e= .returned (.int .i64 ((k+o.res.length*4+o.chain.length:Nat):Int))/\fI w' lo mid a (gT o.res k)/\cZ w' mid hi f (fo o.chain (k+o.res.length*4))/\Xj lo hi w w':=by
 obtain⟨n,d,b,p,cost⟩:=o;dsimp only at *;obtain⟨g,c⟩:=ag (w.alloc (.cells #[.int .i64 n,.slice a d.length cap,.slice f b.length e0,.int .i64 p,.int .i64 cost] 31));have i:K_ w g:=by rw[c];exact ak _ _
 obtain⟨E,F,q,G,H⟩:=kV (w:=w) (w1:=g) (v0:= .int .i64 n) (v1:= .slice a d.length cap) (v2:= .slice f b.length e0) (v3:= .int .i64 p) (v4:= .int .i64 cost) (t:=31) (by rw[c];exact K_.refl _);have I:w.heap.size<g.heap.size:=by rw[c];simp
 go_enter func40,ntmps40
 go_wp2_with fail
 rw[<-c];clear c;refine (vY _ lo mid a cap d k z (by omega) (C.same (i.same _ _))).mono ?_;rintro e T ⟨rfl,r,h⟩;have s:=h.same (l2:=w.heap.size) (h2:=w.heap.size+1) (by omega);have J:=(s.cell (o:=2) (OU _) (by omega) I).trans q;obtain⟨m,j⟩:=ag (k+d.length*4);rw[<-j];have K:m+b.length<=4611686018427387904:=by omega
 have L:0<m:=by omega
 have M:=Kz ((D.same (i.same _ _)).same (h.same (l2:=mid) (h2:=hi) (by omega)));have N:=Kz r;have U:=h.size;have v:=Kz j;clear j E F q G H r s;go_wp2_with fail
 refine (kJ _ mid hi f e0 b m L K M.o).mono ?_;rintro e V ⟨rfl,x,y⟩;have O:=Kz x;have P:=Kz (N.o.same (y.same (l2:=lo) (h2:=mid) (by omega)));have KB:=Kz ((((Xj.aj i:Xj lo hi w g).trans (h.mono (OU _) B))).trans (y.mono A (OU _)));obtain⟨W,l⟩:=ag (m+b.length);rw[<-l];have Q:=Kz l;clear l x J;go_wp2
 go_ret
 exact⟨aU (by have:=v.o;have:=Q.o;omega),P.o,by rw[<-v.o];exact O.o,KB.out⟩
theorem vP(w:Qy)(a f:Qx)(cap e0:Nat)(o:rD)(k:Nat)(x:0<k)(L:k+o.res.length*4+o.chain.length<=4611686018427387904)(y:iY w a (gT o.res k))(n:Strs w f (fo o.chain (k+o.res.length*4))):
  Calls prog 42 #[.agg #[.int .i64 o.code,.slice a o.res.length cap,.slice f o.chain.length e0,.int .i64 o.aY,.int .i64 o.cost],.int .i64 k] w fun e w'=>e= .returned (.int .i64 ((k+o.res.length*4+o.chain.length:Nat):Int))/\K_ w w':=by
 obtain⟨p,d,b,q,cost⟩:=o;dsimp only at *;obtain⟨i,c⟩:=ag (w.alloc (.cells #[.int .i64 p,.slice a d.length cap,.slice f b.length e0,.int .i64 q,.int .i64 cost] 31));have j:K_ w i:=by rw[c];exact ak _ _
 obtain⟨z,A,r,B,C⟩:=kV (w:=w) (w1:=i) (v0:= .int .i64 p) (v1:= .slice a d.length cap) (v2:= .slice f b.length e0) (v3:= .int .i64 q) (v4:= .int .i64 cost) (t:=31) (by rw[c];exact K_.refl _);have D:w.heap.size<i.heap.size:=by rw[c];simp
 go_enter func42,ntmps42
 go_wp2_with fail
 rw[<-c];clear c;refine (vU _ a cap d k x (by omega) (y.kept j)).mono ?_;rintro e M ⟨rfl,g⟩;have E:=(g.cell (o:=2) D).trans r;obtain⟨m,h⟩:=ag (k+d.length*4);rw[<-h];have F:m+b.length<=4611686018427387904:=by omega
 have G:0<m:=by omega
 have N:¬((m:Int)<0):=by omega
 have H:=Kz h;have O:=g.size;have s:=j.trans g;have v:=Kz (n.kept s);rw[<-h] at v;clear h z A r B C n j g;go_wp2_with fail
 refine (vR _ f e0 b m G F v.o).mono ?_;rintro e P ⟨rfl,I⟩;obtain⟨J,l⟩:=ag (m+b.length);rw[<-l];have Q:¬((J:Int)<0):=by omega
 have K:=Kz l;clear l E;go_wp2
 go_ret
 exact⟨aU (by have:=H.o;have:=K.o;omega),s.trans I⟩
structure vv where
 code:Int
 slots:List aF
 fw:Int
 out:rD
 chain:List aF
section
variable (code fw oc aY cost : Int) (slots chain : List aF) (res : List dh) (och : List Qw)
theorem rF(w:Qy)(d f g ca:Qx)(j rc k cc:Nat)(l m n p:Qx)(r s t v:Nat)(X:slots.length<=maxLen)(Y:res.length<=maxLen)(Z:och.length<=maxLen)(hc:chain.length<=maxLen)(hS:mR w d slots)(a2:mR w l slots)(hR:iY w f res)(a4:iY w m res)(hF:Strs w g och)(a6:Strs w n och)(hC:mR w ca chain)(a8:mR w p chain):
  Calls prog 10 #[.agg #[.int .i64 code,.slice d slots.length j,.int .i64 fw,.int .i64 oc,.slice f res.length rc,.slice g och.length k,.int .i64 aY,.int .i64 cost,.slice ca chain.length cc],.agg #[.int .i64 code,.slice l slots.length r,.int .i64 fw,.int .i64 oc,.slice m res.length s,.slice n och.length t,.int .i64 aY,.int .i64 cost,.slice p chain.length v]] w fun e w'=>e= .returned (.bool true)/\K_ w w':=by
 obtain⟨h,q⟩:=ag ((w.alloc (.cells #[.int .i64 code,.slice d slots.length j,.int .i64 fw,.int .i64 oc,.slice f res.length rc,.slice g och.length k,.int .i64 aY,.int .i64 cost,.slice ca chain.length cc] 33)).alloc (.cells #[.int .i64 code,.slice l slots.length r,.int .i64 fw,.int .i64 oc,.slice m res.length s,.slice n och.length t,.int .i64 aY,.int .i64 cost,.slice p chain.length v] 33));have a:K_ w h:=by rw[q];exact (ak _ _).alloc _
 have U:w.heap.size<h.heap.size:=by rw[q];simp;omega
 have V:w.heap.size+1<h.heap.size:=by rw[q];simp
 have R:Hid (∀u,K_ h u->(u.cell? ⟨w.heap.size,0,none⟩=some (.int .i64 code)/\u.cell? ⟨w.heap.size,1,none⟩=some (.slice d slots.length j)/\u.cell? ⟨w.heap.size,2,none⟩=some (.int .i64 fw)/\u.cell? ⟨w.heap.size,3,none⟩=some (.int .i64 oc)/\u.cell? ⟨w.heap.size,4,none⟩=some (.slice f res.length rc)/\u.cell? ⟨w.heap.size,5,none⟩=some (.slice g och.length k)/\u.cell? ⟨w.heap.size,6,none⟩=some (.int .i64 aY)/\u.cell? ⟨w.heap.size,7,none⟩=some (.int .i64 cost)/\u.cell? ⟨w.heap.size,8,none⟩=some (.slice ca chain.length cc))/\(u.cell? ⟨w.heap.size+1,0,none⟩=some (.int .i64 code)/\u.cell? ⟨w.heap.size+1,1,none⟩=some (.slice l slots.length r)/\u.cell? ⟨w.heap.size+1,2,none⟩=some (.int .i64 fw)/\u.cell? ⟨w.heap.size+1,3,none⟩=some (.int .i64 oc)/\u.cell? ⟨w.heap.size+1,4,none⟩=some (.slice m res.length s)/\u.cell? ⟨w.heap.size+1,5,none⟩=some (.slice n och.length t)/\u.cell? ⟨w.heap.size+1,6,none⟩=some (.int .i64 aY)/\u.cell? ⟨w.heap.size+1,7,none⟩=some (.int .i64 cost)/\u.cell? ⟨w.heap.size+1,8,none⟩=some (.slice p chain.length v))):=fun u W=>by
  have g1:h.rangeAt w.heap.size 0 [.int .i64 code,.slice d slots.length j,.int .i64 fw,.int .i64 oc,.slice f res.length rc,.slice g och.length k,.int .i64 aY,.int .i64 cost,.slice ca chain.length cc]:=by
   rw[q];have P:=X_ w #[.int .i64 code,.slice d slots.length j,.int .i64 fw,.int .i64 oc,.slice f res.length rc,.slice g och.length k,.int .i64 aY,.int .i64 cost,.slice ca chain.length cc] 33;exact fun b0 b1 hv=>((ak _ _).cell (by simp)).trans (P b0 b1 hv)
  have g2:h.rangeAt (w.heap.size+1) 0 [.int .i64 code,.slice l slots.length r,.int .i64 fw,.int .i64 oc,.slice m res.length s,.slice n och.length t,.int .i64 aY,.int .i64 cost,.slice p chain.length v]:=by
   have P:=X_ (w.alloc (.cells #[.int .i64 code,.slice d slots.length j,.int .i64 fw,.int .i64 oc,.slice f res.length rc,.slice g och.length k,.int .i64 aY,.int .i64 cost,.slice ca chain.length cc] 33)) #[.int .i64 code,.slice l slots.length r,.int .i64 fw,.int .i64 oc,.slice m res.length s,.slice n och.length t,.int .i64 aY,.int .i64 cost,.slice p chain.length v] 33;rw[PL] at P;rw[q];exact P
  have b:=W.range U g1;have c:=W.range V g2;exact⟨⟨b 0 _ rfl,b 1 _ rfl,b 2 _ rfl,b 3 _ rfl,b 4 _ rfl,b 5 _ rfl,b 6 _ rfl,b 7 _ rfl,b 8 _ rfl⟩,c 0 _ rfl,c 1 _ rfl,c 2 _ rfl,c 3 _ rfl,c 4 _ rfl,c 5 _ rfl,c 6 _ rfl,c 7 _ rfl,c 8 _ rfl⟩
 go_enter func10,ntmps10
 go_upto_region 1 with fail
 rw[<-q];clear q;obtain⟨⟨x,y,z,A,B,C,D,E,F⟩,G,H,I,J,K,L,M,N,O⟩:=R.o _ (K_.refl h);go_wp2_with fail
 refine (vI h d l j r slots X (hS.kept a) (a2.kept a)).mono ?_;rintro e S ⟨rfl,i⟩;clear x y z A B C D E F G H I J K L M N O;obtain⟨⟨x,y,z,A,B,C,D,E,F⟩,G,H,I,J,K,L,M,N,O⟩:=R.o _ i;have b7:w.heap.size<S.heap.size:=Nat.lt_of_lt_of_le U i.size;have b8:w.heap.size+1<S.heap.size:=Nat.lt_of_lt_of_le V i.size;have T:=zK S f m g n rc s k t ⟨oc,res,och,aY,cost⟩ Y Z (hR.kept (a.trans i)) (a4.kept (a.trans i)) (hF.kept (a.trans i)) (a6.kept (a.trans i));dsimp only at T;go_wp2_with fail
 refine T.mono ?_;rintro e w2 ⟨rfl,k2⟩;clear x y z A B C D E F G H I J K L M N O T;have Q:=i.trans k2;obtain⟨⟨x,y,z,A,B,C,D,E,F⟩,G,H,I,J,K,L,M,N,O⟩:=R.o _ Q;go_wp2_with fail
 refine (vI w2 ca p cc v chain hc (hC.kept (a.trans Q)) (a8.kept (a.trans Q))).mono ?_;rintro e w3 ⟨rfl,k3⟩;clear x y z A B C D E F G H I J K L M N O;go_wp2
 go_ret
 exact⟨rfl,a.trans (Q.trans k3)⟩
structure kG (w:Qy) (lo m1 m2 m3 hi:Nat) (sa ra fa ca:Qx) (slots:List aF) (res:List dh) (och:List Qw) (chain:List aF):Prop where
 sl:iG w lo m1 sa slots
 rs:fI w m1 m2 ra res
 ch:cZ w m2 m3 fa och
 cn:iG w m3 hi ca chain
 l1:lo<=m1
 l2:m1<=m2
 l3:m2<=m3
 l4:m3<=hi
theorem kG.same{a:List aF}{b:List dh}{c:List Qw}{d:List aF}{w w':Qy}{lo e f g hi:Nat}{i j l ca:Qx}(h:kG w lo e f g hi i j l ca a b c d)(k:Same lo hi w w'):kG w' lo e f g hi i j l ca a b c d:=by
 have m:=h.l1;have n:=h.l2;have p:=h.l3;have q:=h.l4;exact⟨h.sl.same (k.mono (OU _) (by omega)),h.rs.same (k.mono (by omega) (by omega)),h.ch.same (k.mono (by omega) (by omega)),h.cn.same (k.mono (by omega) (OU _)),m,n,p,q⟩
theorem kG.strs{a:List aF}{b:List dh}{c:List Qw}{d:List aF}{w:Qy}{lo i j k hi:Nat}{e f g ca:Qx}(h:kG w lo i j k hi e f g ca a b c d):mR w e a/\iY w f b/\Strs w g c/\mR w ca d:=⟨h.sl.Ac,h.rs.JJ,h.ch.strs,h.cn.Ac⟩
theorem BU(w:Qy)(lo a d b hi:Nat)(f g h ca:Qx)(t rc v cc:Nat)(k:Nat)(Y:0<k)(Z:k+slots.length*3+ (res.length*4+och.length)+chain.length*3<=4611686018427387904)(b7:hi<=w.heap.size)(l:kG w lo a d b hi f g h ca slots res och chain):
  Calls prog 15 #[.agg #[.int .i64 code,.slice f slots.length t,.int .i64 fw,.int .i64 oc,.slice g res.length rc,.slice h och.length v,.int .i64 aY,.int .i64 cost,.slice ca chain.length cc],.int .i64 k] w fun e w'=>e= .returned (.int .i64 ((k+slots.length*3+ (res.length*4+och.length)+chain.length*3:Nat):Int))/\kG w' lo a d b hi f g h ca (fB slots k) (gT res (k+slots.length*3)) (fo och (k+slots.length*3+res.length*4)) (fB chain (k+slots.length*3+ (res.length*4+och.length)))/\Xj lo hi w w':=by
 obtain⟨z,q⟩:=ag (w.alloc (.cells #[.int .i64 code,.slice f slots.length t,.int .i64 fw,.int .i64 oc,.slice g res.length rc,.slice h och.length v,.int .i64 aY,.int .i64 cost,.slice ca chain.length cc] 33));have r:K_ w z:=by rw[q];exact ak _ _
 have c:=X_ w #[.int .i64 code,.slice f slots.length t,.int .i64 fw,.int .i64 oc,.slice g res.length rc,.slice h och.length v,.int .i64 aY,.int .i64 cost,.slice ca chain.length cc] 33;rw[<-q] at c;have m:w.heap.size<z.heap.size:=by rw[q];simp
 obtain⟨E,F,G,H⟩:=And.intro l.l1 (And.intro l.l2 (And.intro l.l3 l.l4));have b1:=c 1 _ rfl;have I:=c 3 _ rfl;have J:=c 4 _ rfl;have K:=c 5 _ rfl;have L:=c 6 _ rfl;have M:=c 7 _ rfl;have N:=c 8 _ rfl;have x:=Kz l;clear c l;go_enter func15,ntmps15
 go_wp2_with fail
 rw[<-q];clear q;refine (qQ _ lo a f t slots k Y (by omega) (x.o.sl.same (r.same _ _))).mono ?_;rintro e O ⟨rfl,P,i⟩;have j:=i.same (l2:=w.heap.size) (h2:=w.heap.size+1) (by omega);have c3:=(j.cell (o:=3) (OU _) (by omega) m).trans I;have c4:=(j.cell (o:=4) (OU _) (by omega) m).trans J;have c5:=(j.cell (o:=5) (OU _) (by omega) m).trans K;have c6:=(j.cell (o:=6) (OU _) (by omega) m).trans L;have c7:=(j.cell (o:=7) (OU _) (by omega) m).trans M;have Q:=(j.cell (o:=8) (OU _) (by omega) m).trans N;obtain⟨n,A⟩:=ag (k+slots.length*3);rw[<-A] at Z⊢;have a0:0<n:=by omega
 have b8:=i.size;have a1:w.heap.size<O.heap.size:=by omega
 have a2:=Kz P;have a3:=Kz ((x.o.rs.same (r.same _ _)).same (i.same (l2:=a) (h2:=d) (by omega)));have a4:=Kz ((x.o.ch.same (r.same _ _)).same (i.same (l2:=d) (h2:=b) (by omega)));have a5:=Kz ((x.o.cn.same (r.same _ _)).same (i.same (l2:=b) (h2:=hi) (by omega)));have a6:=Kz (((Xj.aj r:Xj lo hi w z).trans (i.mono (Nat.le_refl _) (by omega))));have R:=Kz A;have B:=vV O a d b g h rc v ⟨oc,res,och,aY,cost⟩ n a0 (by dsimp only;omega) F G (by omega) a3.o a4.o;dsimp only at B;clear A b1 I J K L M N P j i;go_wp2_with fail
 refine B.mono ?_;rintro e w2 ⟨rfl,S,T,p⟩;have U:=p.same (l2:=w.heap.size) (h2:=w.heap.size+1) (by omega);have d8:=(U.cell (o:=8) (OU _) (by omega) a1).trans Q;obtain⟨y,C⟩:=ag (n+res.length*4+och.length);rw[<-C];have a7:0<y:=by omega
 have a8:y+chain.length*3<=4611686018427387904:=by omega
 have b9:=p.size;have⟨a9,b0⟩:=aD S T;have b2:=Kz (a2.o.same (p.same (l2:=lo) (h2:=a) (by omega)));have b3:=Kz (a5.o.same (p.same (l2:=b) (h2:=hi) (by omega)));have b4:=Kz (a6.o.trans (p.mono E H));have V:=Kz C;clear C B S T c3 c4 c5 c6 c7 Q U p;go_wp2_with fail
 refine (qQ _ b hi ca cc chain y a7 a8 b3.o).mono ?_;rintro e w3 ⟨rfl,W,s⟩;have X:=V.o;have b5:Hid (kG w3 lo a d b hi f g h ca (fB slots k) (gT res n) (fo och (n+res.length*4)) (fB chain (n+ (res.length*4+och.length)))):=by
  refine⟨b2.o.same (s.same (l2:=lo) (h2:=a) (by omega)),a9.o.same (s.same (l2:=a) (h2:=d) (by omega)),b0.o.same (s.same (l2:=d) (h2:=b) (by omega)), ?_,E,F,G,H⟩;rw[<-Nat.add_assoc,<-X];exact W
 have b6:=Kz (b4.o.trans (s.mono (by omega) (OU _)));obtain⟨o,D⟩:=ag (y+chain.length*3);rw[<-D];have HO:=Kz D;clear W s d8 D X;go_wp2
 go_ret
 exact⟨aU (by have:=V.o;have:=HO.o;have:=R.o;omega),by rw[<-R.o];exact b5.o,b6.o⟩
theorem rY(w:Qy)(d f g ca:Qx)(i rc j cc:Nat)(k:Nat)(M:0<k)(N:k+slots.length*3+ (res.length*4+och.length)+chain.length*3<=4611686018427387904)(A:mR w d (fB slots k))(p:iY w f (gT res (k+slots.length*3)))(q:Strs w g (fo och (k+slots.length*3+res.length*4)))(r:mR w ca (fB chain (k+slots.length*3+ (res.length*4+och.length)))):
  Calls prog 16 #[.agg #[.int .i64 code,.slice d slots.length i,.int .i64 fw,.int .i64 oc,.slice f res.length rc,.slice g och.length j,.int .i64 aY,.int .i64 cost,.slice ca chain.length cc],.int .i64 k] w fun e w'=>e= .returned (.int .i64 ((k+slots.length*3+ (res.length*4+och.length)+chain.length*3:Nat):Int))/\K_ w w':=by
 obtain⟨B,h⟩:=ag (w.alloc (.cells #[.int .i64 code,.slice d slots.length i,.int .i64 fw,.int .i64 oc,.slice f res.length rc,.slice g och.length j,.int .i64 aY,.int .i64 cost,.slice ca chain.length cc] 33));have s:K_ w B:=by rw[h];exact ak _ _
 have a:=X_ w #[.int .i64 code,.slice d slots.length i,.int .i64 fw,.int .i64 oc,.slice f res.length rc,.slice g och.length j,.int .i64 aY,.int .i64 cost,.slice ca chain.length cc] 33;rw[<-h] at a;have c:w.heap.size<B.heap.size:=by rw[h];simp
 have O:=a 1 _ rfl;have C:=a 3 _ rfl;have D:=a 4 _ rfl;have E:=a 5 _ rfl;have F:=a 6 _ rfl;have G:=a 7 _ rfl;have H:=a 8 _ rfl;clear a;go_enter func16,ntmps16
 go_wp2_with fail
 rw[<-h];clear h;refine (qO _ d i slots k M (by omega) (A.kept s)).mono ?_;rintro e I ⟨rfl,b⟩;have P:=(b.cell (o:=3) c).trans C;have Q:=(b.cell (o:=4) c).trans D;have R:=(b.cell (o:=5) c).trans E;have S:=(b.cell (o:=6) c).trans F;have T:=(b.cell (o:=7) c).trans G;have J:=(b.cell (o:=8) c).trans H;obtain⟨m,t⟩:=ag (k+slots.length*3);rw[<-t] at N p q r⊢;have U:0<m:=by omega
 have a3:¬((m:Int)<0):=by omega
 have v:=s.trans b;have V:w.heap.size<I.heap.size:=Nat.lt_of_lt_of_le c b.size;have W:=Kz t;have x:=vP I f g rc j ⟨oc,res,och,aY,cost⟩ m U (by dsimp only;omega) (p.kept v) (q.kept v);dsimp only at x;have X:=Kz r;clear t O C D E F G H s b r p q A;go_wp2_with fail
 refine x.mono ?_;rintro e Y ⟨rfl,y⟩;have Z:=(y.cell (o:=8) V).trans J;obtain⟨n,l⟩:=ag (m+res.length*4+och.length);rw[<-l];have a0:0<n:=by omega
 have a4:¬((n:Int)<0):=by omega
 have a1:n+chain.length*3<=4611686018427387904:=by omega
 have HN:=Kz l;have K:=v.trans y;have a2:Hid (mR Y ca (fB chain n)):=by
  have L:=X.o.kept K;rw[<-Nat.add_assoc,<-l] at L;exact L
 clear l x P Q R S T J y;go_wp2_with fail
 refine (qO _ ca cc chain n a0 a1 a2.o).mono ?_;rintro e w3 ⟨rfl,k3⟩;obtain⟨o,z⟩:=ag (n+chain.length*3);rw[<-z];have a5:¬((o:Int)<0):=by omega
 have HO:=Kz z;clear z Z;go_wp2
 go_ret
 exact⟨aU (by have:=HN.o;have:=W.o;have:=HO.o;omega),K.trans k3⟩
end
variable {n : Qw} {k : Nat}
section
variable {W : aZ}
theorem Ku{σ τ :Env}(h:gW (bD W) (doX W) σ τ k){r:Q_}(a:σ n=some r)(b:r.over=true): τ n=some r:=by
 induction h with
 | here s=>exact a
 | step s t i k hi _ ih=>
  refine ih ?_;by_cases e:n=i
  ·subst e;obtain⟨f,c,d⟩:=hi;rw[a] at c;cases c;rw[d.1] at b;cases b
  ·exact jF e a
theorem Fq{σ τ :Env}(h:gW (bD W) (doX W) σ τ k)(b:WfX W σ){r:Q_}(a:σ n=some r):∃q, τ n=some q/\r.Zq<=q.Zq:=by
 induction h generalizing r with
 | here s=>exact⟨r,a,Int.le_refl _⟩
 | step s t i k hi _ ih=>
  have c:=Kt b hi;by_cases e:n=i
  ·subst e;obtain⟨l,d,g⟩:=hi;rw[a] at d;cases d;obtain⟨q,j,m⟩:=ih c (mZ a);have f:=b n r a;refine⟨q,j, ?_⟩;rcases jG g (by rw[f.name];exact f.web) with e | ⟨e1,e,_⟩ <;> omega
  ·exact ih c (jF e a)
theorem Lx{τ :Env}:∀{j:Nat} {σ:Env},WfX W σ->gW (bD W) (doX W) σ τ j->gW (Behind (W:=W) wm τ) (doX W) σ τ j:=by
 intro j
 induction j with
 | zero=>intro σ _ h;cases h;exact .here _
 | succ j ih=>
  intro σ c h;cases h with
  | step _ _ n _ hn hr=>
   have d:=Kt c hn;have i:Behind (W:=W) wm τ σ n:=by
    obtain⟨r,a,f⟩:=hn;have g:=c n r a;obtain⟨q,b,l⟩:=Fq hr d (mZ a);refine⟨⟨r,a,f⟩,r,q,a,b, ?_⟩;rcases jG f (by rw[g.name];exact g.web) with e|⟨e1,e2,e3⟩
    ·exact .inl (by omega)
    ·have k:=Ku hr (mZ a) e3;rw[k] at b;cases b;exact .inr ⟨e1.trans e2.symm,e3,by omega⟩
   exact .step _ _ n _ i (ih d hr)
end
theorem Az{Kq:List Qz}{a:List Qw}{L:List Q_}(f:cu Kq 0)(g:eO a)(b:dU Kq L)(i:WfX (Kk Kq) (Qq (bY Kq a)))(j:gW (bD (Kk Kq)) (doX (Kk Kq)) (Qq (bY Kq a)) (Qq L) k):iN Kq a L:=by
 refine⟨f,g,b.len,k,L,b,Lx i j,fun p l=>?_,rfl⟩;obtain⟨⟨r,c,m⟩,q,s,d,e,n⟩:=l;rw[c] at d;cases d;rw[c] at e;cases e;rcases n with h | ⟨_,h,_⟩
 ·omega
 ·rw[m.1] at h;cases h
theorem MB{W:aZ}{S:aS}{m:Qw}{j:Int}(d:dB S.T)(f:Rdy W S n)(p:Rdy W S m)(h:m≠n):Sp W (doneS W S n j) m↔Sp W S m:=by
 obtain⟨r,a,g⟩:=p;obtain⟨t,i,q⟩:=jQ d f ⟨r,a,g⟩ h;have e:Qq (doN W S.T n) m=some r:=by
  obtain⟨x,k,_⟩:=f;unfold doN;rw[k];simp only;rw[jJ d k];exact jF h a
 rw[e] at i;cases i;constructor
 ·rintro⟨y,b,s,c⟩;have l:Qq (doN W S.T n) m=some y:=b;rw[e] at l;cases l;exact⟨r,a,g,c⟩
 ·rintro⟨y,b,s,c⟩;rw[a] at b;cases b;exact⟨r,e,q,c⟩
structure eu (Kq:List Qz) (wk:Nat) (S:aS):Prop where
 bP:jm (Kk Kq) wk S
 good:dU Kq S.T
 nsp:∀n,Bz S n->¬Sp (Kk Kq) S n
variable {t : Int}
section
variable {Kq : List Qz} {wk : Nat} {S A : aS}
theorem eu.done(l:a_ (Kk Kq))(h:eu Kq wk S){j:Int}(a:Rdy (Kk Kq) S n)(c:¬Bz S n)(p: -1<=j/\j<S.slots.length):eu Kq wk (doneS (Kk Kq) S n j)/\gW (bD (Kk Kq)) (doX (Kk Kq)) (Qq S.T) (Qq (doneS (Kk Kq) S n j).T) 1:=by
 have q:=h.bP.done a c p;refine⟨⟨q, ?_,fun m d=>?_⟩, ?_⟩
 ·show dU Kq (doN (Kk Kq) S.T n);obtain⟨r,b,f⟩:=a;unfold doN;rw[b];exact Lr l h.good (bN b).1 f
 ·have s:m≠n:=fun e=>c (by rw[<-e];exact d)
  obtain⟨k,e,g,i⟩:=d;intro t;exact h.nsp m ⟨k,e,g,i⟩ ((MB h.bP.ok.asc a (by rw[<-i];exact h.bP.rdy k e g) s).1 t)
 ·have v:=a;obtain⟨r,b,f⟩:=a;show gW _ _ _ (Qq (doN (Kk Kq) S.T n)) 1;unfold doN;rw[b];simp only;rw[jJ h.bP.ok.asc b];exact .one v
theorem eu.free(h:eu Kq wk S){e:aX}(a:S.busy[k]? =some (some e)):eu Kq wk {S with busy:=S.busy.set k none}/\Rdy (Kk Kq) {S with busy:=S.busy.set k none} e.name/\¬Bz {S with busy:=S.busy.set k none} e.name:=by
 obtain⟨b,c⟩:=h.bP.free a;refine⟨⟨b,h.good,fun n d=>?_⟩,h.bP.rdy k e a,c⟩;obtain⟨f,g,i,j⟩:=d;rcases iF i with⟨_,x⟩ | ⟨_,x⟩
 ·cases x
 ·exact h.nsp n ⟨f,g,x,j⟩
theorem kH.live(b:a_ (Kk Kq))(h:kH (Kk Kq) t S A):eu Kq wk S->eu Kq wk A/\∃j,gW (bD (Kk Kq)) (doX (Kk Kq)) (Qq S.T) (Qq A.T) j:=by
 induction h with
 | stop=>exact fun a=>⟨a,0,.here _⟩
 | @go S S' k e hk he _ _ ih=>
  intro a;obtain⟨c,d,f⟩:=a.free hk;obtain⟨g,i⟩:=c.done b d f (j:=e.slot) ⟨by omega,by have:=a.bP.slot k e hk;show ((e.slot:Nat):Int)<((S.slots.length:Nat):Int);omega⟩;obtain⟨l,j,m⟩:=ih g;exact⟨l,_,i.trans m⟩
theorem lS.live(b:a_ (Kk Kq))(h:lS (Kk Kq) S A):eu Kq wk S->eu Kq wk A/\∃j,gW (bD (Kk Kq)) (doX (Kk Kq)) (Qq S.T) (Qq A.T) j:=by
 induction h with
 | stop=>exact fun a=>⟨a,0,.here _⟩
 | @go S S' n hn _ ih=>
  intro a;obtain⟨c,d⟩:=a.done b hn.1.ready (fun e=>a.nsp n e hn.1) (a.bP.iV n);obtain⟨f,j,g⟩:=ih c;exact⟨f,_,d.trans g⟩
theorem eu.begin(h:eu Kq wk S)(b:S.busy[k]? =some none)(c:Of (Kk Kq) S n)(d:∀n,¬Sp (Kk Kq) S n):eu Kq wk (f_ (Kk Kq) S t k n):=⟨h.bP.begin b c,h.good,fun m _ f=>d m f⟩
theorem j_.live(h:j_ (Kk Kq) t S A):(∀n,¬Sp (Kk Kq) S n)->eu Kq wk S->eu Kq wk A/\A.T=S.T:=by
 induction h with
 | stop=>exact fun _ a=>⟨a,rfl⟩
 | go hk _ hn _ ih=>exact fun b a=>ih b (a.begin hk hn.1 b)
theorem jb.live(a:a_ (Kk Kq))(h:jb (Kk Kq) t S A)(c:eu Kq wk S):eu Kq wk A/\∃j,gW (bD (Kk Kq)) (doX (Kk Kq)) (Qq S.T) (Qq A.T) j:=by
 obtain⟨n,p,d,b,e⟩:=h;obtain⟨f,q,g⟩:=d.live a c;obtain⟨i,r,k⟩:=b.live a f;obtain⟨l,m⟩:=e.live b.busy.2 i;exact⟨l,_,by rw[m];exact g.trans k⟩
theorem si.live(b:a_ (Kk Kq)){u:Int}(h:si (Kk Kq) t S u A):eu Kq wk S->eu Kq wk A/\∃j,gW (bD (Kk Kq)) (doX (Kk Kq)) (Qq S.T) (Qq A.T) j:=by
 induction h with
 | last h _=>exact fun a=>h.live b a
 | next h _ _ _ ih=>
  intro a;obtain⟨c,g,d⟩:=h.live b a;obtain⟨e,i,f⟩:=ih c;exact⟨e,_,d.trans f⟩
end
theorem lY{Kq:List Qz}{wk:Nat}{T:List Q_}(a:dU Kq T):eu Kq wk (eU T wk):=by
 refine⟨Dl a.asc (fun n r f=>(a.wf n r f).web),a,fun n ⟨k,e,h,_⟩=>?_⟩;have b:(List.replicate wk (none:Option aX))[k]? =some (some e):=h;rw[List.getElem?_replicate] at b
 split at b <;> simp at b
def vT(W:aZ)(σ:Env)(n:Qw):dh:=
 match bE W σ n with
 | some x=>⟨n,true,x.fail,x.text⟩
 | none=>⟨n,false,false,⟨#[]⟩⟩
def yn(σ:Env):Prop:=∀n r,σ n=some r->r.over=false->r.fail=false/\r.text= ⟨#[]⟩
theorem sD{A:fA}{r:Q_}(h:r.fail=false/\r.text= ⟨#[]⟩)(a:(gu A r).1.over=false):(gu A r).1.fail=false/\(gu A r).1.text= ⟨#[]⟩:=by
 unfold gu at a⊢;simp only at a⊢;by_cases b:(stepOf A r.at').fin=true
 ·rw[Qg b] at a;cases a
 ·rw[Qh b];exact h
theorem Gs{W:aZ}{σ:Env}{r:Q_}(h:r.fail=false/\r.text= ⟨#[]⟩)(a:(Xx W σ r).1.over=false):(Xx W σ r).1.fail=false/\(Xx W σ r).1.text= ⟨#[]⟩:=by
 unfold Xx at a⊢;cases f:W r.name with
 | none=>exact h
 | some A=>
  rw[f] at a;simp only at a⊢;by_cases c:r.Zq=0
  ·rw[Qg c] at a⊢;exact sD h a
  ·rw[Qh c] at a⊢;cases g:Yz W σ (stepOf A r.at').asks with
   | none=>exact h
   | some xs=>
    rw[g] at a;simp only at a⊢;by_cases d:r.Zq=20
    ·rw[Qg d] at a;cases a
    ·rw[Qh d] at a⊢;by_cases e:(fq (stepOf A r.at') xs).over=true
     ·rw[Qg e] at a;cases a
     ·rw[Qh e] at a⊢;exact sD (by exact h) a
theorem yn.did{W:aZ}{σ:Env}(h:yn σ){n:Qw}(f:bD W σ n):yn (doX W σ n):=by
 obtain⟨r,c,g⟩:=f;intro m q a d;rw[jw c] at a;by_cases e:m=n
 ·rw[Qg e] at a;cases a;exact Gs (h n r c g.1) d
 ·rw[Qh e] at a;cases b:σ m with
  | some x=>rw[b] at a;cases a;exact h m _ b d
  | none=>
   rw[b] at a;simp only at a
   split at a
   ·cases a;exact⟨rfl,rfl⟩
   ·cases a
theorem iN.OP{Kq:List Qz}{c:List Qw}{b:List Q_}(d:iN Kq c b):yn (Qq b):=by
 obtain⟨_,_,_,j,L,g,e,_,rfl⟩:=d;refine e.keeps (P:=yn) (fun σ m h f=>h.did f.1) (fun m r a i=>?_);rw[lw] at a
 split at a
 ·cases a;exact⟨rfl,rfl⟩
 ·cases a
def bQ(l:List dh):List QA:=(l.map dh.cells).flatten
theorem uG(l:List dh):(bQ l).length=l.length*4:=by
 induction l with
 | nil=>rfl
 | cons c r ih=>simp only[bQ,List.map_cons,List.flatten_cons,PM,PP] at ih⊢;rw[ih];simp[dh.cells];omega
theorem pq(l:List dh)(c:dh):bQ (l++ [c])=bQ l++c.cells:=by simp[bQ]
theorem qW :∀(l:List dh) (i j:Nat),i<l.length->j<4->(bQ l)[i*4+j]? = ((l.getD i dh.zero).cells)[j]?
 | [],_,_,h,_=>aB h
 | c :: r,0,j,_,hj=>by
  have e:bQ (c :: r)=c.cells++bQ r:=rfl;rw[e,Nat.zero_mul,PD,PY (by simpa[dh.cells] using hj)]
  rfl
 | c :: r,i+1,j,h,hj=>by
  have e:bQ (c :: r)=c.cells++bQ r:=rfl;have b:c.cells.length=4:=rfl;rw[e,PZ (by rw[b];omega),b,show (i+1)*4+j-4=i*4+j by omega,qW r i j (by simpa using h) hj]
  rfl
theorem yF{w:Qy}{base:Nat}{t:TypeId}{v:QA}{n:Nat}{l:List dh}(h:w.ownsRow base t 4 v n (bQ l)):∃a cap,v= .slice a l.length cap/\iY w a l:=by
 have d:n=l.length:=by have:=h.1;rw[uG] at this;omega
 subst d;rcases h.2 with⟨rfl,e⟩|⟨g,cap,m,rfl,p,f,q,_,_,_⟩
 ·exact⟨none,0,by rw[e],fun i b=>by omega⟩
 ·refine⟨_,cap,rfl,fun i b=>⟨g,0,rfl,aV f,fun j u c=>?_⟩⟩;have k:j<4:=by have:=(O_.1 c).1;simpa[dh.cells] using this
  have:=h.cells (g:=g) rfl (i*4+j) u (by rw[qW l i j b k];exact c);rw[PQ,PD] at this;rw[PD];exact this
theorem jS.len{E:Qw->Qw->Prop}{names a:List Qw}(h:jS E names a)(b:∀x y,E x y->x∈names):a.length<=names.length:=by
 by_cases e:a=[]
 ·rw[e];exact OW _
 ·obtain⟨t,n,_,c,_,d,_⟩:=h.yes e;have:=c.bound b;omega
def kr(W:aZ)(n:Qw):Int:=match W n with | some A=>A.cost | none=>0
theorem vk{W:aZ}{n:Qw}{A:fA}(h:W n=some A):kr W n=A.cost:=by unfold kr;rw[h]
def gq(l:List Q_):Int:=(l.map fun r=>r.Zq).sum
def ja(W:aZ)(l:List Q_):Int:=(l.map fun r=>r.Zq*kr W r.name).sum
theorem vG(l:List Q_)(r:Q_):gq (l++ [r])=gq l+r.Zq:=by simp[gq]
theorem yR(W:aZ)(l:List Q_)(r:Q_):ja W (l++ [r])=ja W l+r.Zq*kr W r.name:=by simp[ja]
theorem tZ{W:aZ}(a:a_ W)(n:Qw):0<=kr W n/\kr W n<=20:=by
 unfold kr;cases h:W n with
 | none=>exact⟨Int.le_refl _,by decide⟩
 | some A=>have:=(a n A h).1.1;show 0<=A.cost/\A.cost<=20;exact⟨by omega,this.2⟩
theorem Dh :∀{l:List Q_},(∀r∈l,0<=r.Zq/\r.Zq<=20)->0<=gq l/\gq l<=20*(l.length:Int)
 | [],_=>⟨Int.le_refl _,Int.le_refl _⟩
 | r :: l,h=>by
  have b:=Dh (l:=l) (fun x a=>h x (Pn _ a));have c:=h r (Po ..);have e:gq (r :: l)=r.Zq+gq l:=by simp[gq]
  rw[e,PP];omega
theorem Ki{v c:Int}(a:0<=v/\v<=20)(h2:0<=c/\c<=20):0<=v*c/\v*c<=400:=by
 refine⟨Int.mul_nonneg a.1 h2.1, ?_⟩;have b:v*c<=20*c:=Int.mul_le_mul_of_nonneg_right a.2 h2.1;omega
theorem Ia{W:aZ}(a:a_ W):∀{l:List Q_},(∀r∈l,0<=r.Zq/\r.Zq<=20)->0<=ja W l/\ja W l<=400*(l.length:Int)
 | [],_=>⟨Int.le_refl _,Int.le_refl _⟩
 | r :: l,h=>by
  have c:=Ia a (l:=l) (fun x b=>h x (Pn _ b));have d:=Ki (h r (Po ..)) (tZ a r.name);have e:ja W (r :: l)=r.Zq*kr W r.name+ja W l:=by simp[ja]
  rw[e,PP];omega
variable {Kq : List Qz}
theorem Hl(c:a_ (Kk Kq)){l:List Q_}(a:dU Kq l)(f:l.length<=60)(k:Nat):0<=gq (l.take k)/\gq (l.take k)<=1200/\0<=ja (Kk Kq) (l.take k)/\ja (Kk Kq) (l.take k)<=24000:=by
 have h:∀r∈l.take k,0<=r.Zq/\r.Zq<=20:=fun r b=>⟨(a.good r (List.mem_of_mem_take b)).lo,(a.good r (List.mem_of_mem_take b)).hi⟩
 have d:=Dh h;have e:=Ia c h;have g:(l.take k).length<=60:=by rw[Pt];omega
 exact⟨d.1,by omega,e.1,by omega⟩
structure Ha (Kq:List Qz) (Kj:List Qw) (sl:List Q_) (o:rD):Prop where
 res:o.res=Kj.map (vT (Kk Kq) (Qq sl))
 aY:o.aY=gq sl
 cost:o.cost=ja (Kk Kq) sl
 rest:((¬∃r∈o.res,r.over=false)/\o.code=0/\o.chain=[])\/((∃r∈o.res,r.over=false)/\(∃r∈sl,bL (Kk Kq) (Qq sl) r)/\o.code=2/\o.chain=[])\/((∃r∈o.res,r.over=false)/\(¬∃r∈sl,bL (Kk Kq) (Qq sl) r)/\o.code=1/\uP (bC (Kk Kq) (Qq sl)) o.chain)
theorem rD.ext'{o p:rD}(a:o.code=p.code)(b:o.res=p.res)(h2:o.chain=p.chain)(c:o.aY=p.aY)(d:o.cost=p.cost):o=p:=by
 cases o;cases p;simp only at a b h2 c d;rw[a,b,h2,c,d]
variable {Kj : List Qw} {sl : List Q_}
theorem Ha.one{o p:rD}(h:Ha Kq Kj sl o)(k:Ha Kq Kj sl p):p=o:=by
 have j:p.res=o.res:=k.res.trans h.res.symm;have l:=k.rest;rw[j] at l;have m:p.code=o.code/\p.chain=o.chain:=by
  rcases h.rest with⟨a,c,d⟩ | ⟨a,g,c,d⟩ | ⟨a,g,c,d⟩ <;> rcases l with⟨b,e,f⟩ | ⟨b,i,e,f⟩ | ⟨b,i,e,f⟩
  ·exact⟨e.trans c.symm,f.trans d.symm⟩
  ·exact Qi b a
  ·exact Qi b a
  ·exact Qi a b
  ·exact⟨e.trans c.symm,f.trans d.symm⟩
  ·exact Qi g i
  ·exact Qi a b
  ·exact Qi i g
  ·exact⟨e.trans c.symm,f.unique d⟩
 exact rD.ext' m.1 j m.2 (k.aY.trans h.aY.symm) (k.cost.trans h.cost.symm)
def Oe :rD:=⟨9,[],[],0,0⟩
def iE(Kq:List Qz)(Kj:List Qw)(sl:List Q_)(o:rD):Prop:=(o.res.length<=10/\o.chain.length<=60)/\((iN Kq Kj sl/\Ha Kq Kj sl o)\/(¬iN Kq Kj sl/\o=Oe))
theorem iE.one{o p:rD}(h:iE Kq Kj sl o)(k:iE Kq Kj sl p):p=o:=by
 rcases h.2 with⟨c,d⟩|⟨c,d⟩
 ·rcases k.2 with⟨a,b⟩|⟨a,b⟩
  ·exact d.one b
  ·exact Qi c a
 ·rcases k.2 with⟨a,b⟩|⟨a,b⟩
  ·exact Qi a c
  ·rw[d,b]
theorem IU(a:dU Kq sl){n:Qw}(b:n.size<=20):(vT (Kk Kq) (Qq sl) n).text.size<=200:=by
 unfold vT;cases h:bE (Kk Kq) (Qq sl) n with
 | none=>exact OW _
 | some x=>exact w_ a.env b h
theorem iN.Nb(d:iN Kq Kj sl):∀n∈Kj,(∃r∈sl,r.name=n)\/Kk Kq n=none:=by
 obtain⟨_,_,_,j,L,k,f,_,rfl⟩:=d;have h:=f.keeps (P:=fun σ=>∀n∈Kj,(σ n).isSome=true\/Kk Kq n=none) (fun σ m h g n b=>by
  rcases h n b with a|a
  ·refine .inl ?_;obtain⟨r,c,_⟩:=g.1;rw[jw c];by_cases e:n=m
   ·rw[Qg e];rfl
   ·rw[Qh e];cases i:σ n with
    | none=>rw[i] at a;cases a
    | some x=>rfl
  ·exact .inr a) (fun n b=>by
  rw[lw];cases l:Kk Kq n with
  | none=>exact .inr rfl
  | some A=>rw[Qg ⟨dV.2 b,rfl⟩];exact .inl rfl)
 intro n b;rcases h n b with a|a
 ·obtain⟨r,c⟩:=Ps.1 a;exact .inl ⟨r,(bN c).1,(bN c).2⟩
 ·exact .inr a
def Gj :vv:=⟨9,[],0,⟨0,[],[],0,0⟩,[]⟩
def iA(Kq:List Qz)(Kj:List Qw)(k:Int)(p:vv):Prop:=
 (p.slots.length<=3000/\p.out.res.length<=10/\p.out.chain.length<=60/\p.chain.length<=3000)/\
 (((cu Kq 0/\eO Kj/\1<=k/\k<=60)/\p.code=0/\∃T,Hm (Kk Kq) (bY Kq Kj) k.toNat p.slots p.fw T p.chain/\iE Kq Kj T p.out)\/
  (¬(cu Kq 0/\eO Kj/\1<=k/\k<=60)/\p=Gj))
theorem iA.one{k:Int}{p q:vv}(j:iA Kq Kj k p)(g:iA Kq Kj k q):q=p:=by
 rcases j.2 with⟨c,a,T,l,m⟩|⟨c,a⟩
 ·rcases g.2 with⟨_,b,v,n,r⟩|⟨d,_⟩
  ·obtain⟨e,f,s,h⟩:=l.unique n;subst s;have i:=m.one r;obtain⟨w,x,y,z,A⟩:=p;obtain⟨B,C,D,E,F⟩:=q;dsimp only at a b e f h i;rw[a,b,e,f,h,i]
  ·exact Qi c d
 ·rcases g.2 with⟨d,_⟩|⟨_,b⟩
  ·exact Qi d c
  ·rw[a,b]
def Fx(P:vv->Prop)(w w':Qy)(e:Ending):Prop:=
 ∃(p:vv) (sa ra fa ca:Qx) (sc rc fc cc m1 m2 m3:Nat),e= .returned (.agg #[.int .i64 p.code,.slice sa p.slots.length sc,.int .i64 p.fw,.int .i64 p.out.code,.slice ra p.out.res.length rc,.slice fa p.out.chain.length fc,.int .i64 p.out.aY,.int .i64 p.out.cost,.slice ca p.chain.length cc])/\P p/\kG w' w.heap.size m1 m2 m3 w'.heap.size sa ra fa ca p.slots p.out.res p.out.chain p.chain/\K_ w w'
theorem La{α:Type}(f:α->Nat){l:List α}{x:α}(h:x∈l):f x<=(l.map f).sum:=by
 induction l with
 | nil=>cases h
 | cons y r ih=>
  rcases PS.1 h with rfl|h
  ·simp
  ·have:=ih h;simp;omega
variable {n : Nat}
theorem DN{l:List Xq}(h:fU l<=n):l.length<=n/\∀s∈l,s.asks.length<=n/\s.cases.length<=n:=by
 unfold fU at h;refine⟨by omega,fun s b=>?_⟩;have c:=La d_ b;have d:d_ s= (s.asks.length+ (s.asks.map (·.size)).sum)+ (s.cases.length+ (s.cases.map (·.text.size)).sum)+s.give.size:=rfl;omega
variable {w : Qy}
theorem Df{P:Program}{id:Nat}{d:Array Oper}{Q:Exit->Act->Qy->Prop}{a:Act}(J:Act->Act->Qy->Prop)(h:(Code.region id d true).wp P (fun x b u=>x= .normal/\J a b u) a w)(f:∀b u,J a b u->Q .normal b u):(Code.region id d true).wp P Q a w:=
 wp_mono h fun e b u c=>by
  obtain⟨rfl,c⟩:=c;exact f b u c
def kv(n:Nat):QA:= .int .i64 (n:Int)
variable {F : Nat -> QA} {t : TypeId}
theorem gB{b:Nat}(h:w.rowIs b t n F):bZ w b t:=by
 obtain⟨c,d,_⟩:=h;exact⟨c,_,d⟩
theorem fQ{w':Qy}{b:Nat}(h:w.rowIs b t n F)(k:w'.heap[b]? =w.heap[b]?):w'.rowIs b t n F:=by
 obtain⟨c,d,e⟩:=h;exact⟨c,k.trans d,e⟩
theorem eY{b:Nat}(h:w.rowIs b t n F):b<w.heap.size:=by
 obtain⟨d,c,_⟩:=h;exact aV c
theorem Jd{b:Nat}{G:Nat->QA}(h:w.rowIs b t n F)(e:∀p,p<n->G p=F p):w.rowIs b t n G:=by
 obtain⟨c,d,f,g⟩:=h;exact⟨c,d,f,fun p a=>by rw[g p a,e p a]⟩
def uH(w:Qy)(a:Qx)(l:List Nat):Prop:=∀i,i<l.length->∃b o,a=some ⟨b,o,none⟩/\b<w.heap.size/\w.cell? ⟨b,o+i,none⟩=some (.int .i64 ((l.getD i 0:Nat):Int))
theorem uH.kept{w':Qy}{a:Qx}{l:List Nat}(h:uH w a l)(k:K_ w w'):uH w' a l:=fun i c=>by
 obtain⟨d,o,e,b,f⟩:=h i c;exact⟨d,o,e,OV b k.size,(k.cell b).trans f⟩
theorem yt{base:Nat}{v:QA}{l:List Nat}(h:w.ownsRow base t 1 v n (l.map kv))(f:n=l.length):∃a cap,v= .slice a l.length cap/\n<=cap/\uH w a l:=by
 obtain⟨a,cap,rfl⟩:=aG h;refine⟨a,cap,by rw[f], ?_,fun i d=>?_⟩
 ·rcases h.2 with⟨e,c⟩|⟨_,_,_,e,_,_,c,_⟩
  ·simp only[PO] at e;omega
  ·simp only[PO] at e;omega
 ·obtain⟨b,o,c,g,j⟩:=dO h i (by simpa using d);exact⟨b,o,c,g,by have:=j i (kv (l.getD i 0)) (by simp[List.getD,d]);exact this⟩
structure pO (w:Qy) (base n:Nat) (blk:Bool->Nat) (g:Bool->Nat->QA) (L:Bool->Nat->List Nat):Prop where
 row:∀c,w.rowIs (blk c) 56 n (g c)
 ne:blk true≠blk false
 own:∀c p,w.ownsRow base 3 1 (g c p) (L c p).length ((L c p).map kv)
 sep:∀c p c' p',¬(c'=c/\p'=p)->∀x,(g c p).ownBlock=some x->(g c' p').ownBlock≠some x
section
variable {w w1 w' : Qy} {base n : Nat} {blk : Bool -> Nat} {g : Bool -> Nat -> QA} {L : Bool -> Nat -> List Nat}
theorem pO.but{S:Nat->Prop}(h:pO w base n blk g L)(k:But S w w')(d:∀c,¬S (blk c))(h2:∀c p b,(g c p).ownBlock=some b->¬S b):pO w' base n blk g L:=
 ⟨fun c=>fQ (h.row c) (k.block _ (eY (h.row c)) (d c)),h.ne,fun c p=>k.owns (h.own c p) (h2 c p),h.sep⟩
theorem pO.kept(h:pO w base n blk g L)(k:K_ w w'):pO w' base n blk g L:=h.but (S:=fun _=>False) (But.aj k) (fun _=>id) (fun _ _ _ _=>id)
theorem pO.put(h:pO w base n blk g L)(b:Bool)(p:Nat){d:QA}{x:Nat}(v:w1.ownsRow base 3 1 d ((L b p).length+1) ((L b p).map kv++ [kv x]))(D:w.grownBy w1 (g b p).ownBlock)(E:∀y,d.ownBlock=some y->(g b p).ownBlock=some y\/w.heap.size<=y):
  pO (w1.setCell ⟨blk b,p,none⟩ d) base n blk (fun c q=>if c=b/\q=p then d else g c q) (fun c q=>if c=b/\q=p then L b p++ [x] else L c q)/\But (fun y=>(g b p).ownBlock=some y\/y=blk b) w (w1.setCell ⟨blk b,p,none⟩ d):=by
 have s:But (fun y=>(g b p).ownBlock=some y) w w1:=But.aQ D (fun y e=>e);have f:∀c,w1.rowIs (blk c) 56 n (g c):=fun c=>fQ (h.row c) (s.block _ (eY (h.row c)) (fun e=>aA (gB (h.row c)) (Y_ (h.own b p) e) (by decide) rfl))
 have k:But (fun y=>y=blk b) w1 (w1.setCell ⟨blk b,p,none⟩ d):=But.set (S:=fun y=>y=blk b) (But.aj (K_.refl w1)) (p:=⟨blk b,p,none⟩) rfl d;have z:∀c q,¬(c=b/\q=p)->w1.ownsRow base 3 1 (g c q) (L c q).length ((L c q).map kv):=fun c q l=>s.owns (h.own c q) (fun y e a=>h.sep c q b p (fun A=>l ⟨A.1.symm,A.2.symm⟩) y e a)
 refine⟨⟨fun c=>?_,h.ne,fun c q=>?_,fun c q m r l y i=>?_⟩, ?_⟩
 ·by_cases e:c=b
  ·subst e;exact qp (f c) p d (fun q I=>by simp)
  ·refine Jd (fQ (f c) (k.block _ (eY (f c)) (fun a=>?_))) (fun q _=>by simp[e]);have j:=h.ne;cases c <;> cases b <;> first | exact e rfl | exact j a | exact j a.symm
 ·by_cases e:c=b/\q=p
  ·simp only[Qg e,PM,Qm,Qr,List.map_cons,List.map_nil];exact k.owns v (fun y t a=>aA (Y_ v t) (gB (f b)) (by decide) a)
  ·simp only[Qh e];exact k.owns (z c q e) (fun y t a=>aA (Y_ (z c q e) t) (gB (f b)) (by decide) a)
 ·have B:∀c q,¬(c=b/\q=p)->∀y,d.ownBlock=some y->(g c q).ownBlock≠some y:=fun c q F y G C=>by
   rcases E y G with j|j
   ·exact h.sep b p c q F y j C
   ·have:=((h.own c q).lt y C).2;omega
  by_cases e:c=b/\q=p
  ·simp only[Qg e] at i;have a:¬(m=b/\r=p):=fun a=>l ⟨a.1.trans e.1.symm,a.2.trans e.2.symm⟩
   simp only[Qh a];exact B m r a y i
  ·simp only[Qh e] at i;by_cases a:m=b/\r=p
   ·simp only[Qg a];exact fun H=>B c q e y H i
   ·simp only[Qh a];exact h.sep c q m r l y i
 ·exact (s.mono (fun y _ e=>Or.inl e)).trans (k.mono (fun y _ e=>Or.inr e))
end
structure uT (w:Qy) (na:Qx) (nm:List Qw) (nb mb:Nat) (need back:Nat->List Nat):Prop where
 names:Strs w na nm
 nbl:nb<w.heap.size
 mbl:mb<w.heap.size
 fwd:∀p,p<nm.length->∃a c,w.cell? ⟨nb,p,none⟩=some (.slice a (need p).length c)/\uH w a (need p)
 bwd:∀p,p<nm.length->∃a c,w.cell? ⟨mb,p,none⟩=some (.slice a (back p).length c)/\uH w a (back p)
theorem uT.kept{w':Qy}{f:Qx}{g:List Qw}{nb mb:Nat}{i back:Nat->List Nat}(h:uT w f g nb mb i back)(k:K_ w w'):uT w' f g nb mb i back:=
 ⟨h.names.kept k,OV h.nbl k.size,OV h.mbl k.size,fun p b=>by
  obtain⟨a,c,d,e⟩:=h.fwd p b;exact⟨a,c,(k.cell h.nbl).trans d,e.kept k⟩,fun p b=>by
  obtain⟨a,c,d,e⟩:=h.bwd p b;exact⟨a,c,(k.cell h.mbl).trans d,e.kept k⟩⟩
theorem pO.read{base:Nat}{b:Bool->Nat}{g:Bool->Nat->QA}{L:Bool->Nat->List Nat}{f:Qx}{d:List Qw}(h:pO w base d.length b g L)(j:Strs w f d):uT w f d (b true) (b false) (L true) (L false):=by
 have i:∀c p,p<d.length->∃a e,w.cell? ⟨b c,p,none⟩=some (.slice a (L c p).length e)/\uH w a (L c p):=fun c p k=>by
  obtain⟨a,e,l,_,m⟩:=yt (h.own c p) rfl;exact⟨a,e,by rw[(h.row c).cell k,l],m⟩
 exact⟨j,eY (h.row true),eY (h.row false),i true,i false⟩
theorem Fy{l:List Nat}{p q:Nat->Bool}(h:∀x,q x=true->p x=true){s:Nat}(b:s∈l)(d:p s=true)(h2:q s=false):l.countP q+1<=l.countP p:=by
 induction l with
 | nil=>cases b
 | cons a l ih=>
  rw[List.countP_cons,List.countP_cons];rcases PS.1 b with rfl|b
  ·have:=List.countP_mono_left (l:=l) (p:=q) (q:=p) (fun x _=>h x);simp only[d,h2,if_true];simp;omega
  ·have g:=ih b;have e:=h a;cases f:q a
   ·simp;omega
   ·simp[e f];omega
def unseen(A:Nat->Nat):Nat:=(List.range 60).countP (fun p=>A p == 0)
theorem yN{A:Nat->Nat}{s v:Nat}(c:s<60)(d:A s=0)(b:v≠0):unseen (fun r=>if r=s then v else A r)+1<=unseen A:=by
 refine Fy (s:=s) (fun x a=>?_) (List.mem_range.2 c) (by simp[d]) (by simp[b]);by_cases e:x=s
 ·rw[e] at a;simp[b] at a
 ·simpa[e] using a
theorem EN{Q:List Nat}{s:Nat}(c:Q.Nodup)(d:∀p∈Q,p<60)(e:s<60)(f:s∉Q):Q.length<60:=by
 have h:(s :: Q).Nodup:=List.nodup_cons.2 ⟨f,c⟩;have:=List.Nodup.length_le_of_subset (l₂:=List.range 60) h (fun x b=>by
  rcases PS.1 b with rfl|b
  ·exact List.mem_range.2 e
  ·exact List.mem_range.2 (d x b))
 simp at this;omega
def jk(w:Qy)(ab:Nat)(A:Nat->Nat):Prop:=w.rowIs ab 261 60 (fun i=>kv (A i))
theorem jk.put{w:Qy}{a:Nat}{A:Nat->Nat}(h:jk w a A)(i v:Nat):jk (w.setCell ⟨a,i,none⟩ (.int .i64 (v:Int))) a (fun r=>if r=i then v else A r):=
 qp h i _ (fun p _=>by by_cases e:p=i <;> simp[e,kv])
theorem nG.size{w:Qy}{a:Nat}{Q:List Nat}(h:nG w a Q):w.cell? ⟨a,61,none⟩=some (.int .i64 (Q.length:Int)):=by
 obtain⟨V,f,_,_,d,_⟩:=h.ex;rw[d.cell (by omega)]
 rfl
def o_(A:Nat->Nat):Array QA:=((List.range 60).map fun i=>kv (A i)).toArray
structure LD (R:Nat->Nat->Prop) (t:Nat) (A:Nat->Nat) (size:Nat):Prop where
 no:size=0->∀n,¬mf R t n
 yes:size≠0->mf R t size/\∀r n,n+1<=size->(A r=n+1↔Far R t n r)
def MN(R:Nat->Nat->Prop)(t:Nat)(w w':Qy)(e:Ending):Prop:=∃(A:Nat->Nat) (size:Nat),e= .returned (.tuple #[.agg (o_ A),.int .i64 (size:Int)])/\LD R t A size/\size<=60/\K_ w w'
theorem AJ{w:Qy}{c:Nat}{A:Nat->Nat}(h:jk w c A):w.rangeAt c 0 ((List.range 60).map fun i=>kv (A i)):=fun j v a=>by
 rw[List.getElem?_map] at a;by_cases b:j<60
 ·rw[List.getElem?_range b] at a;simp only[Option.map_some,PN] at a;rw[PD,<-a];exact h.cell b
 ·rw[List.getElem?_eq_none (by simpa using b)] at a;cases a
theorem Tryz.rR :(prog.info? 261).map (·.size)=some 60:=by kernel_rfl
theorem sw{P:Program}{e:Func}{R:Ending->Qy->Prop}{a:Act}{w:Qy}{p q:Tmp}{c:TypeId}{b:Nat}(cs:List QA)(d:TypeDesc)(v:QA)(h:e.results= #[.cell p c,.tmp q])
  (f:a.tmps.getD p undef= .pointer (some ⟨b,0,none⟩)) (g:w.rangeAt b 0 cs) (i:P.underlying c=some d) (j:d.isRow=true) (hi:(P.info? c).map (·.size)=some cs.length)
  (k:a.tmps.getD q undef=v) (l:a.defers=[]) (m:R (.returned (.tuple #[.agg cs.toArray,v])) w):bodyPost P e R .ret a w:=by
 refine bodyPost_ret ?_ l m;have n:a.tmps[p]?.getD undef= .pointer (some ⟨b,0,none⟩):=by simpa using f
 have r:a.tmps[q]?.getD undef=v:=by simpa using k
 simp only[results,h];simp[n,r,asAddr,run_loadVar_mid w b 0 c cs d g i j hi]
theorem gN(A:Nat->Nat):(o_ A).size=60:=by simp[o_]
theorem uE(A:Nat->Nat):(o_ A).all (·.oneCell')=true:=by simp[o_,kv,Value.oneCell']
theorem z60 :List.toArray (Value.int .i64 0 :: Value.int .i64 0 :: Value.int .i64 0 :: Value.int .i64 0 :: Value.int .i64 0 :: Value.int .i64 0 :: Value.int .i64 0 :: Value.int .i64 0 :: Value.int .i64 0 :: Value.int .i64 0 :: Value.int .i64 0 :: Value.int .i64 0 :: Value.int .i64 0 :: Value.int .i64 0 :: Value.int .i64 0 :: Value.int .i64 0 :: Value.int .i64 0 :: Value.int .i64 0 :: Value.int .i64 0 :: Value.int .i64 0 :: Value.int .i64 0 :: Value.int .i64 0 :: Value.int .i64 0 :: Value.int .i64 0 :: Value.int .i64 0 :: Value.int .i64 0 :: Value.int .i64 0 :: Value.int .i64 0 :: Value.int .i64 0 :: Value.int .i64 0 :: Value.int .i64 0 :: Value.int .i64 0 :: Value.int .i64 0 :: Value.int .i64 0 :: Value.int .i64 0 :: Value.int .i64 0 :: Value.int .i64 0 :: Value.int .i64 0 :: Value.int .i64 0 :: Value.int .i64 0 :: Value.int .i64 0 :: Value.int .i64 0 :: Value.int .i64 0 :: Value.int .i64 0 :: Value.int .i64 0 :: Value.int .i64 0 :: Value.int .i64 0 :: Value.int .i64 0 :: Value.int .i64 0 :: Value.int .i64 0 :: Value.int .i64 0 :: Value.int .i64 0 :: Value.int .i64 0 :: Value.int .i64 0 :: Value.int .i64 0 :: Value.int .i64 0 :: Value.int .i64 0 :: Value.int .i64 0 :: Value.int .i64 0 :: Value.int .i64 0 :: [])=Array.replicate 60 (Value.int .i64 0):=rfl
theorem z62 :List.toArray (Value.int .i64 0 :: Value.int .i64 0 :: Value.int .i64 0 :: Value.int .i64 0 :: Value.int .i64 0 :: Value.int .i64 0 :: Value.int .i64 0 :: Value.int .i64 0 :: Value.int .i64 0 :: Value.int .i64 0 :: Value.int .i64 0 :: Value.int .i64 0 :: Value.int .i64 0 :: Value.int .i64 0 :: Value.int .i64 0 :: Value.int .i64 0 :: Value.int .i64 0 :: Value.int .i64 0 :: Value.int .i64 0 :: Value.int .i64 0 :: Value.int .i64 0 :: Value.int .i64 0 :: Value.int .i64 0 :: Value.int .i64 0 :: Value.int .i64 0 :: Value.int .i64 0 :: Value.int .i64 0 :: Value.int .i64 0 :: Value.int .i64 0 :: Value.int .i64 0 :: Value.int .i64 0 :: Value.int .i64 0 :: Value.int .i64 0 :: Value.int .i64 0 :: Value.int .i64 0 :: Value.int .i64 0 :: Value.int .i64 0 :: Value.int .i64 0 :: Value.int .i64 0 :: Value.int .i64 0 :: Value.int .i64 0 :: Value.int .i64 0 :: Value.int .i64 0 :: Value.int .i64 0 :: Value.int .i64 0 :: Value.int .i64 0 :: Value.int .i64 0 :: Value.int .i64 0 :: Value.int .i64 0 :: Value.int .i64 0 :: Value.int .i64 0 :: Value.int .i64 0 :: Value.int .i64 0 :: Value.int .i64 0 :: Value.int .i64 0 :: Value.int .i64 0 :: Value.int .i64 0 :: Value.int .i64 0 :: Value.int .i64 0 :: Value.int .i64 0 :: Value.int .i64 0 :: Value.int .i64 0 :: [])=Array.replicate 62 (Value.int .i64 0):=rfl
theorem zL(w:Qy)(P:Qx)(nc:Nat)(a:List Qw)(nb mb:Nat)(c0 back:Nat->List Nat)(E:Qw->Qw->Prop)(c1:Nat)(t:Nat)(ht:t<a.length)(hn:a.length<=60)(hM:c1<=60000000)(hV:uT w P a nb mb c0 back)(hR:Eg E a c1 c0 back):
  Calls prog 188 #[.agg #[.slice P a.length nc,.slice (some ⟨nb,0,none⟩) a.length a.length,.slice (some ⟨mb,0,none⟩) a.length a.length],.int .i64 (t:Int)] w fun e w'=>MN (dz E a) t w w' e:=by
 go_enter func188,ntmps188
 go_upto_region 1 with fail
 rw[z60]
 go_step3
 go_upto_region 4 with fail
 rw[z60,z62];obtain⟨f,I⟩:=ag (w.alloc (.cells #[.slice P a.length nc,.slice (some ⟨nb,0,none⟩) a.length a.length,.slice (some ⟨mb,0,none⟩) a.length a.length] 203));have k1:K_ w f:=by rw[I];exact ak _ _
 have s2:f.cell? ⟨w.heap.size,2,none⟩=some (.slice (some ⟨mb,0,none⟩) a.length a.length):=by rw[I];exact X_ w #[.slice P a.length nc,.slice (some ⟨nb,0,none⟩) a.length a.length,.slice (some ⟨mb,0,none⟩) a.length a.length] 203 2 _ rfl
 have z1:w.heap.size<f.heap.size:=by rw[I];simp
 have c2:w.heap.size+1=f.heap.size:=by rw[I];simp
 obtain⟨d,K⟩:=ag (f.alloc (.cells (Array.replicate 60 (.int .i64 0)) 261));have k2:K_ f d:=by rw[K];exact ak _ _
 have a4:Hid (aL d f.heap.size 261 60):=by have h:=aL.made f (Array.replicate 60 (.int .i64 0)) 261;rw[Array.size_replicate] at h;rw[K];exact h
 have e8:f.heap.size+1=d.heap.size:=by rw[K];simp
 obtain⟨y,L⟩:=ag (d.alloc (.cells (Array.replicate 60 (.int .i64 0)) 261));have k3:K_ d y:=by rw[L];exact ak _ _
 have a3:jk y d.heap.size (fun _=>0):=by
  have h:=World.rowIs_alloc d (Array.replicate 60 (.int .i64 0)) 261 (fun _=>kv 0) (fun i z=>by simp at z;simp[kv,z]);rw[Array.size_replicate] at h;rw[L];exact h
 have e9:d.heap.size+1=y.heap.size:=by rw[L];simp
 obtain⟨B,R⟩:=ag (y.alloc (.cells (Array.replicate 62 (.int .i64 0)) 284));have k4:K_ y B:=by rw[R];exact ak _ _
 have r4:nG B y.heap.size []:=by
  refine⟨fun _=>0,0,by omega,by simp, ?_,fun i z=>aB z⟩;have h:=World.rowIs_alloc y (Array.replicate 62 (.int .i64 0)) 284 (oI (fun _=>0) 0 0) (fun i z=>by simp at z;simp[oI,z]);rw[Array.size_replicate] at h;rw[R];exact h
 rw[<-I,<-K,<-L,<-R];obtain⟨c,c3⟩:=ag d.heap.size;obtain⟨g,c4⟩:=ag y.heap.size;have T:w.heap.size+1=f.heap.size:=c2;have e2:w.heap.size+1+1=c:=by omega
 have e3:w.heap.size+1+1+1=g:=by omega
 rw[e3,e2,T];rw[<-c3] at a3;rw[<-c4] at r4;have M:c≠g:=by omega
 have U:=Kz (ni a3 k4);have f0:=U.out.frozen t;have f1:=U.out.cell (show t<60 by omega);have h7:(t:Int)<60:=by omega
 have K4:=k3.trans k4;have c5:=Kz r4;have V:=Kz (jk.put U.out t 1);have a5:Hid (But (fun b=>b=c\/b=g) B (B.setCell ⟨c,t,none⟩ (.int .i64 (1:Int)))):=But.set (S:=fun b=>b=c\/b=g) (But.aj (K_.refl B)) (p:=⟨c,t,none⟩) (.inl rfl) _;have W:=Kz (k1.trans k2);have f2:=Kz k2;have a6:=Kz (c5.o.block (w':=B.setCell ⟨c,t,none⟩ (.int .i64 (1:Int))) (Below.heap_setCell _ _ _ _ (fun e=>M (Eq.symm e))));have c6:Hid (d.heap.size<=c):=by show d.heap.size<=c;omega
 have X:Hid (d.heap.size<=g):=by show d.heap.size<=g;omega
 have Y:Hid (w.heap.size<d.heap.size/\f.heap.size<d.heap.size/\w.heap.size<f.heap.size):=⟨by omega,by omega,by omega⟩;have f3:=Kz ((f2.o.cell z1).trans s2);obtain⟨Z,a7⟩:=ag f.heap.size;rw[<-a7] at a4 Y⊢;have h8:=Kz a7;clear I K L R T e2 e3 a3 r4 k3 k4 k1 k2 e9 e8 c2 c3 c4 z1 s2 a7;go_upto_region 5 with fail
 have a8:Hid (K_ d (B.setCell ⟨c,t,none⟩ (.int .i64 (1:Int)))):=a5.o.kept K4 (fun b e=>by rcases e with e | e <;> rw[e] <;> first | exact c6.o | exact X.o);generalize f4:B.setCell ⟨c,t,none⟩ (.int .i64 (1:Int))=W5 at V a5 a6 a8⊢;clear f4 f0 f1 a5 c5 U K4;go_wp2_with fail
 refine (Ht W5 g [] t a6.o (by simp)).mono ?_;rintro e w6 ⟨rfl,c7,a9⟩;have c8:Hid (nG w6 g [t]):=c7;have c9:Hid (jk w6 c (fun r=>if r=t then 1 else (fun _=>0) r)):=fQ V.o (a9.block _ (eY V.o) (fun e=>M e));have d0:Hid (K_ d w6):=a9.kept a8.o (fun b e=>by rw[e];exact X.o);have d1:Hid (Bfs (dz E a) t (fun r=>if r=t then 1 else (fun _=>0) r) [t]):=Bfs.start _ t;have d2:Hid (∀r,(fun r=>if r=t then 1 else (fun _=>0) r) r+unseen (fun r=>if r=t then 1 else (fun _=>0) r)<=60):=fun r=>by
  have h1:=yN (A:=fun _=>0) (v:=1) (show t<60 by omega) rfl (by omega);have h2:unseen (fun _=>0)<=60:=by unfold unseen;have:=List.countP_le_length (l:=List.range 60) (p:=fun _=>(0:Nat) == 0);simp
  by_cases e:r=t
  ·simp only[e,if_true];omega
  ·simp only[Qh e];omega
 clear c7 a9 V a6 a8;go_wp2_with fail
 go_step3
 go_wp2
 go_loopg [8] (2*unseen (fun r=>if r=t then 1 else (fun _=>0) r)+1) (fun gg x8 wr=>∃(A:Nat->Nat) (Q:List Nat),x8= .int .i64 0/\Hid (2*unseen A+Q.length=gg)/\Hid (∀r,A r+unseen A<=60)/\Hid (jk wr c A)/\Hid (nG wr g Q)/\Hid (Bfs (dz E a) t A Q)/\Hid (∀p∈Q,p<a.length)/\Hid (K_ d wr))
 case atStart=>exact⟨_,[t],rfl,Kz rfl,d2,c9,c8,d1,Kz (fun p hp=>by rw[Pd] at hp;rw[hp];exact ht),d0⟩
 case round=>
  clear c9 c8 d1 d0 d2;obtain⟨A,Q,rfl,J,x,j,G,HB,C,k⟩:=hrel;have b0:=G.o.size;cases Q with
  | nil=>
   have h9:wr.cell? ⟨g,61,none⟩=some (.int .i64 0):=b0;clear b0;have HD:Hid (LD (dz E a) t A 0):=⟨fun _ f5 D=>HB.o.none f5 D.1 D.2.1,fun h=>Qi rfl h⟩;go_upto_region 17 with fail
   have b1:=a4.o.kept k.o;have N:=Kz (b1.row.there (o:=0) (m:=60) (OU _));have b2:=Kz (AJ j.o);go_wp2_with (first | (refine wpList_load_mid rfl 261 (.tmp 6) rfl c 0 rfl _ _ b2.o underlying261 rfl Tryz.rR ?_) | (refine wpList_store_mid rfl 261 (.tmp 4) (.tmp 49) rfl Z 0 (o_ A) rfl rfl (by rw[gN];exact N.o) (by rw[gN];exact Tryz.rR) (uE A) ?_))
   try rw[Exit.noGoto_ret]
   refine sw ((List.range 60).map fun i=>kv (A i)) _ (.int .i64 ((0:Nat):Int)) results188 rfl (OY wr Z 0 ((List.range 60).map fun i=>kv (A i)) (by rw[Qc,List.length_range];exact N.o)) underlying261 rfl (by rw[Qc,List.length_range];exact Tryz.rR) rfl rfl ⟨A,0,rfl,HD.o,by omega, ?_⟩;exact K_.setCells (Nat.le_of_lt Y.o.2.2) _ _ (W.o.trans k.o)
  | cons p Q=>
   have f6:(0:Int)<((p :: Q).length:Int):=by simp
   have f7:p<a.length:=C.o p (by simp);obtain⟨ba,bc,d3,d4⟩:=hV.bwd p f7;go_wp2_with fail
   refine (Ke wr g Q p G.o).mono ?_;rintro e w1 ⟨rfl,d5,b3⟩;have d6:=Kz d5;have d7:Hid (jk w1 c A):=fQ j.o (b3.block _ (eY j.o) (fun e=>M e));have a0:Hid (K_ d w1):=b3.kept k.o (fun b e=>by rw[e];exact X.o);have n:=Kz HB.o.take;have d8:Hid (∀q∈Q,q<a.length):=fun q O=>C.o q (Pn _ O)
   have d9:Hid (2*unseen A+Q.length<gk):=by have h:=J.o;rw[PP] at h;show 2*unseen A+Q.length<gk;omega
   have f8:=Kz d4;have q2:=(a0.o.cell Y.o.1).trans f3.o;have q3:=((W.o.trans a0.o).cell hV.mbl).trans d3;have i0:(p:Int)<(a.length:Int):=by omega
   have i1:=(hR.len p).2;clear d5 b3 d4 d3 b0 f6 j G HB C k J;go_wp2_with fail
   clear q2 q3;go_loopw [8,26] (fun x8 b4 wr=>∃(i:Nat) (A:Nat->Nat) (Q:List Nat),x8= .int .i64 0/\b4= .int .i64 (i:Int)/\i<=(back p).length/\Hid (2*unseen A+Q.length<gk)/\Hid (∀r,A r+unseen A<=60)/\Hid (jk wr c A)/\Hid (nG wr g Q)/\Hid (ou (dz E a) t p ((back p).take i) A Q)/\Hid (∀q∈Q,q<a.length)/\Hid (K_ d wr)) (fun _ b4 _=>(back p).length-(intOf b4).toNat)
   case atStart=>exact⟨0,A,Q,rfl,rfl,OW _,d9,x,d7,d6,n,d8,a0⟩
   case round=>
    clear d9 x d7 d6 n d8 a0;obtain⟨i,A,Q,rfl,rfl,z,J,x,j,G,n,C,k⟩:=hrel;by_cases a1:i<(back p).length;rotate_left
    ·have f9:Hid (Bfs (dz E a) t A Q):=n.o.ends (fun s D=>by rw[PG (by omega)];exact (hR.bwd s p).2 D);go_wp2
     go_roundg (2*unseen A+Q.length)
     case measure=>exact J.o
     case rel=>exact⟨A,Q,rfl,Kz rfl,x,j,G,f9,C,k⟩
    obtain⟨sb,so,T,i2,g0⟩:=(f8.o.kept (W.o.trans k.o)) i a1;subst T;obtain⟨s,D⟩:=ag ((back p).getD i 0);rw[<-D] at g0;have b5:(back p)[i]=s:=by rw[D];simp[List.getD,a1]
    have HE:Hid (dz E a s p):=(hR.bwd s p).1 (by rw[<-b5];exact Pf a1);have g1:s<a.length:=HE.o.1;have e0:Hid ((back p).take (i+1)= (back p).take i++ [s]):=by show _=_;rw[Pb a1,b5]
    have i3:(i:Int)<((back p).length:Int):=by omega
    have cp:=j.o.cell (show p<60 by omega);have cs:=j.o.cell (show s<60 by omega);unfold kv at cp cs;have i4:(p:Int)<60:=by omega
    have i5:(s:Int)<60:=by omega
    clear D b5;by_cases F:s=t
    ·have g2:((s:Int) == (t:Int))=true:=by simp[F]
     have b6:=Kz (n.o.found (by have h:=HE.o;rw[F] at h;exact h));have e1:=Kz n.o.pos;have HD:Hid (LD (dz E a) t A (A p)):=⟨fun h=>Qi h e1.o,fun _=>⟨⟨by have:=e1.o;omega,b6.o.1,b6.o.2.1⟩,b6.o.2.2⟩⟩;have e4:A p<=60:=by have:=x.o p;omega
     clear F cs;go_upto_region 17 with fail
     have b1:=a4.o.kept k.o;have N:=Kz (b1.row.there (o:=0) (m:=60) (OU _));have b2:=Kz (AJ j.o);go_wp2_with (first | (refine wpList_load_mid rfl 261 (.tmp 6) rfl c 0 rfl _ _ b2.o underlying261 rfl Tryz.rR ?_) | (refine wpList_store_mid rfl 261 (.tmp 4) (.tmp 49) rfl Z 0 (o_ A) rfl rfl (by rw[gN];exact N.o) (by rw[gN];exact Tryz.rR) (uE A) ?_))
     try rw[Exit.noGoto_ret]
     refine sw ((List.range 60).map fun i=>kv (A i)) _ (.int .i64 ((A p:Nat):Int)) results188 rfl (OY wr Z 0 ((List.range 60).map fun i=>kv (A i)) (by rw[Qc,List.length_range];exact N.o)) underlying261 rfl (by rw[Qc,List.length_range];exact Tryz.rR) rfl rfl ⟨A,A p,rfl,HD.o,e4, ?_⟩;exact K_.setCells (Nat.le_of_lt Y.o.2.2) _ _ (W.o.trans k.o)
    have g2:((s:Int) == (t:Int))=false:=by simp;omega
    by_cases H:A s=0;rotate_left
    ·have g3:((A s:Int) == 0)=false:=by simp;omega
     have g4:=Kz (n.o.old H F);clear H F cp;go_wp2
     go_roundw
     case rel=>exact⟨i+1,A,Q,rfl,by go_num,by omega,J,x,j,G,Kz (by rw[e0.o];exact g4.o),C,k⟩
     case measure=>simp[intOf];omega
    have g3:((A s:Int) == 0)=true:=by simp[H]
    have g5:=Kz (n.o.new HE.o H F);have g6:Q.length<60:=EN n.o.nd (fun q O=>OV (C.o q O) hn) (by omega) (fun h=>n.o.q s h H);have e5:=Kz (yN (v:=A p+1) (show s<60 by omega) H (by omega));have e4:A p<=60:=by have:=x.o p;omega
    have fs:=j.o.frozen s;have a2:=Kz (jk.put j.o s (A p+1));have e6:((A p:Int)+1)= ((A p+1:Nat):Int):=by omega
    have b7:Hid (K_ d (wr.setCell ⟨c,s,none⟩ (.int .i64 ((A p+1:Nat):Int)))):=(But.set (S:=fun b=>b=c) (But.aj (K_.refl wr)) (p:=⟨c,s,none⟩) rfl _).kept k.o (fun b e=>by rw[e];exact c6.o);have b8:=Kz (G.o.block (w':=wr.setCell ⟨c,s,none⟩ (.int .i64 ((A p+1:Nat):Int))) (Below.heap_setCell _ _ _ _ (fun e=>M (Eq.symm e))));have i6:Hid (s≠t):=F;have g7:=Kz e6;clear F H e6;go_upto_region 15 with fail
    rw[g7.o];generalize g8:wr.setCell ⟨c,s,none⟩ (.int .i64 ((A p+1:Nat):Int))=w7 at a2 b7 b8⊢;clear g8 fs cp cs;go_wp2_with fail
    refine (Ht w7 g Q s b8.o g6).mono ?_;rintro e w8 ⟨rfl,e7,b9⟩;have g9:=Kz e7;have h0:Hid (jk w8 c (fun r=>if r=s then A p+1 else A r)):=fQ a2.o (b9.block _ (eY a2.o) (fun e=>M e));have h3:Hid (K_ d w8):=b9.kept b7.o (fun b e=>by rw[e];exact X.o);have h4:Hid (2*unseen (fun r=>if r=s then A p+1 else A r)+ (Q++ [s]).length<gk):=by
     have h1:=e5.o;have h2:=J.o;rw[PM];simp only[PP,List.length_nil];show _<_;omega
    have h5:Hid (∀r,(fun r=>if r=s then A p+1 else A r) r+unseen (fun r=>if r=s then A p+1 else A r)<=60):=fun r=>by
     have h1:=e5.o;have h2:=x.o r;have i7:=x.o p;by_cases e:r=s
     ·simp only[e,if_true];omega
     ·simp only[Qh e];omega
    have h6:Hid (∀q∈Q++ [s],q<a.length):=fun q O=>by
     rcases Pe.1 O with h|h
     ·exact C.o q h
     ·rw[Pd] at h;rw[h];exact g1
    clear e7 b9 a2 b7 b8;go_wp2
    go_roundw
    case rel=>exact⟨i+1,_,_,rfl,by go_num,by omega,h4,h5,h0,g9,Kz (by rw[e0.o];exact g5.o),h6,h3⟩
    case measure=>simp[intOf];omega
theorem uy{P:Program}{g:Array Oper}{rest:List Oper}{e:Oper}{a:Act}{f:Qy}{Q:Exit->Act->Qy->Prop}(hgd:e.guard=none)(d:TypeId)(x y:Operand)(i:e.op= .store d x y)(c b:Array QA)(j:a.eval x= .pointer (some ⟨f.heap.size,0,none⟩))(hy:a.eval y= .agg b)(hi:(P.info? d).map (·.size)=some b.size)(k:c.size=b.size)(l:b.all (·.oneCell')=true)
  (h:wpList P g Q rest (a.put e.dst undef) (f.alloc (.cells b d))):wpList P g Q (e :: rest) a (f.alloc (.cells c d)):=
 wpList_plain hgd fun _ n=>by
  unfold Oper.wp execOp;simp only[i,j,hy,Instr.storeAt,Instr.sureAddr,Sem.run_bind,Sem.run_pure,Result.andThen_ok,run_storeVar_new f d c b hi k l];exact n _ _ h
theorem Tryz.LU :(prog.info? 3).map (fun i=>(i.zero,i.size,i.bytes))=some (some (.int .i64 0),1,8):=by kernel_rfl
theorem jk.new(w:Qy)(A:Nat->Nat):jk (w.alloc (.cells (o_ A) 261)) w.heap.size A:=by
 have h:=World.rowIs_alloc w (o_ A) 261 (fun i=>kv (A i)) (fun i c=>by
  rw[gN] at c;simp[o_,c])
 rw[gN] at h;exact h
theorem JS(w:Qy)(a b:Nat)(A:Nat->Nat)(left p:Nat)(c:p<60)(d:jk w a A)(g:w.cell? ⟨b,0,none⟩=some (.int .i64 (left:Int))):
  Calls prog 190 #[.int .i64 (p:Int),.pointer (some ⟨a,0,none⟩),.pointer (some ⟨b,0,none⟩)] w fun e w'=>e= .returned (.bool (((A p:Nat):Int) == (left:Int)))/\K_ w w':=by
 have f:=d.cell c;unfold kv at f;have h:(p:Int)<60:=by omega
 go_enter func190,ntmps190
 go_wp2
 go_region
 go_wp2
 go_ret
 exact⟨rfl,(bB _)⟩
def NS(A:Nat->Nat)(left:Nat)(l:List Nat)(e:Ending):Prop:=∃k,e= .returned (.int .i64 ((k:Nat):Int))/\∃hk:k<l.length,A l[k]=left/\∀j (hj:j<l.length),j<k->A l[j]≠left
theorem zG(w:Qy)(r:Qx)(v:Nat)(l:List Nat)(k d:Nat)(A:Nat->Nat)(left:Nat)(L:l.length<=60000000)(y:∀p∈l,p<60)(z:d<w.heap.size)(B:uH w r l)(C:jk w k A)(D:w.cell? ⟨d,0,none⟩=some (.int .i64 (left:Int)))(E:∃p∈l,A p=left):
  Calls prog 189 #[.slice r l.length v,.func (.func 190) #[] #[.pointer (some ⟨k,0,none⟩),.pointer (some ⟨d,0,none⟩)]] w fun e w'=>NS A left l e/\K_ w w':=by
 go_enter func189,ntmps189
 go_wp2
 go_loopw [8] (fun x wr=>∃i:Nat,i<=l.length/\x= .int .i64 (i:Int)/\Hid (∀j (f:j<l.length),j<i->A l[j]≠left)/\K_ w wr) (fun x _=>l.length-(intOf x).toNat)
 case atStart=>exact⟨0,OW _,rfl,Kz (fun j _ F=>aB F),K_.refl _⟩
 case round=>
  obtain⟨i,M,rfl,m,g⟩:=hrel;by_cases h:i<l.length;rotate_left
  ·exfalso
   obtain⟨p,a,G⟩:=E;obtain⟨j,f,rfl⟩:=Ph a;exact m.o j f (by omega) G
  obtain⟨b,o,H,N,I⟩:=(B.kept g) i h;subst H;obtain⟨p,a⟩:=ag (l.getD i 0);rw[<-a] at I;have n:l[i]=p:=by rw[a];simp[List.getD,h]
  have s:=Kz n;have J:p<60:=y p (by rw[<-n];exact Pf h);have O:(i:Int)<(l.length:Int):=by omega
  clear a n;go_wp2_with fail
  refine (JS wr k d A left p J (ni C g) ((g.cell z).trans D)).mono ?_;rintro e P ⟨rfl,K⟩;have t:=g.trans K;by_cases q:A p=left
  ·have c:(((A p:Nat):Int) == (left:Int))=true:=by simp[q]
   rw[c];clear c;go_wp2
   go_ret
   exact⟨⟨i,rfl,h,by rw[s.o];exact q,m.o⟩,t⟩
  ·have c:(((A p:Nat):Int) == (left:Int))=false:=by simp;omega
   rw[c];clear c;go_wp2
   go_roundw
   case rel=>
    refine⟨i+1,by omega,by go_num,Kz (fun j f Q=>?_),t⟩;rcases Nat.lt_or_ge j i with e | e
    ·exact m.o j f e
    ·have:j=i:=by omega
     subst this;rw[s.o];exact q
   case measure=>simp[intOf];omega
def MC(R:Nat->Nat->Prop)(n t:Nat)(w w':Qy)(e:Ending):Prop:=∃(av:Qx) (cv:Nat) (l:List Nat),e= .returned (.slice av l.length cv)/\uH w' av l/\l.length<=60/\(∀p∈l,p<n)/\(l=[]->∀m,¬mf R t m)/\(l≠[]->∃m,mf R t m/\mh R t m t l/\l.length=m)/\K_ w w'
theorem xD(w:Qy)(m:Qx)(B:Nat)(a:List Qw)(nb mb:Nat)(j back:Nat->List Nat)(E:Qw->Qw->Prop)(a3:Nat)(t:Nat)(ht:t<a.length)(hn:a.length<=60)(hM:a3<=60000000)(W:uT w m a nb mb j back)(n:Eg E a a3 j back):
  Calls prog 166 #[.agg #[.slice m a.length B,.slice (some ⟨nb,0,none⟩) a.length a.length,.slice (some ⟨mb,0,none⟩) a.length a.length],.int .i64 (t:Int)] w fun e w'=>MC (dz E a) a.length t w w' e:=by
 obtain⟨H,C⟩:=ag (w.alloc (.cells #[.slice m a.length B,.slice (some ⟨nb,0,none⟩) a.length a.length,.slice (some ⟨mb,0,none⟩) a.length a.length] 203));have k1:K_ w H:=by rw[C];exact ak _ _
 have s0:H.cell? ⟨w.heap.size,0,none⟩=some (.slice m a.length B):=by rw[C];exact X_ w #[.slice m a.length B,.slice (some ⟨nb,0,none⟩) a.length a.length,.slice (some ⟨mb,0,none⟩) a.length a.length] 203 0 _ rfl
 have s1:H.cell? ⟨w.heap.size,1,none⟩=some (.slice (some ⟨nb,0,none⟩) a.length a.length):=by rw[C];exact X_ w #[.slice m a.length B,.slice (some ⟨nb,0,none⟩) a.length a.length,.slice (some ⟨mb,0,none⟩) a.length a.length] 203 1 _ rfl
 have s2:H.cell? ⟨w.heap.size,2,none⟩=some (.slice (some ⟨mb,0,none⟩) a.length a.length):=by rw[C];exact X_ w #[.slice m a.length B,.slice (some ⟨nb,0,none⟩) a.length a.length,.slice (some ⟨mb,0,none⟩) a.length a.length] 203 2 _ rfl
 have z1:w.heap.size<H.heap.size:=by rw[C];simp
 go_enter func166,ntmps166
 go_upto_region 1 with fail
 rw[<-C];clear C;go_wp2_with fail
 refine (zL H m B a nb mb j back E a3 t ht hn hM (W.kept k1) n).mono ?_;rintro e I ⟨D,size,rfl,hD,i6,X⟩;have⟨HD,b9⟩:=aD hD s1;clear s0 s1 s2 hD;obtain⟨O,J⟩:=ag (o_ D);have HI:Hid ((prog.info? 261).map (·.size)=some O.size):=by rw[J,gN];exact Tryz.rR
 have f0:Hid ((Array.replicate 60 (Value.int .i64 0)).size=O.size):=by show _=_;rw[J,gN];simp
 have f1:Hid (O.all (·.oneCell')=true):=by rw[J];exact uE D
 obtain⟨c,P⟩:=ag (I.alloc (.cells O 261));have Y:K_ I c:=by rw[P];exact ak _ _
 have c0:Hid (jk c I.heap.size D):=by rw[P,J];exact jk.new I D
 rw[<-J];have K:=(k1.trans X).trans Y;have c1:w.heap.size<c.heap.size:=OV z1 (X.trans Y).size;have c2:=Kz (((X.trans Y).cell z1).trans b9.o);obtain⟨ab,c3⟩:=ag I.heap.size;have f2:I.heap.size<c.heap.size:=by rw[P];simp
 have⟨f3,f4⟩:=aD P c3;clear J P c3 b9 Y X k1 z1;go_upto_region 2 with (rw[z60];refine uy rfl 261 (.tmp 5) (.tmp 15) rfl _ O rfl rfl HI.o f0.o f1.o ?_)
 rw[<-f3.o];rw[<-f4.o] at c0 f2⊢;by_cases Q:size=0
 ·have f5:((size:Int) == 0)=true:=by simp[Q]
  have f6:=Kz (HD.o.no Q);clear Q;go_wp2
  go_ret
  exact⟨none,0,[],rfl,fun i hi=>aB hi,OW _,fun p r=>(by cases r),fun _=>f6.o,fun h=>Qi rfl h,K⟩
 have f5:((size:Int) == 0)=false:=by simp;omega
 obtain⟨a4,c4⟩:=HD.o.yes Q;have⟨c5,c7⟩:=aD a4 c4;have i7:1<=size:=a4.1;clear a4 c4 Q;obtain⟨d,R⟩:=ag (c.alloc (.cells #[.int .i64 (t:Int)] 3));have kB:K_ c d:=by rw[R];exact ak _ _
 have Z:Hid (c.heap.size+1=d.heap.size):=by show _=_;rw[R];simp
 have a5:d.ownsRow c.heap.size 3 1 (.slice (some ⟨c.heap.size,0,none⟩) 1 1) [t].length ([t].map kv):=by
  rw[R];exact⟨rfl,.inr ⟨c.heap.size,1,_,rfl,OU _,heap_alloc_new c _,OU _,by unfold maxLen;omega,rfl,rfl⟩⟩
 obtain⟨WC,S⟩:=ag (d.alloc (.cells #[.int .i64 (size:Int)] 3));have kC:K_ d WC:=by rw[S];exact ak _ _
 have a6:Hid (aL WC d.heap.size 3 1):=by rw[S];exact aL.made d #[.int .i64 (size:Int)] 3
 have a7:Hid (WC.cell? ⟨d.heap.size,0,none⟩=some (.int .i64 (size:Int))):=by rw[S];exact X_ d #[.int .i64 (size:Int)] 3 0 _ rfl
 have a8:=Kz (ai a5 kC);have c8:=Kz (kB.trans kC);have⟨d0,d1,f7⟩:=bA R S a5;clear R S a5 kB kC;go_upto_region 6 with fail
 rw[<-d0.o,<-d1.o,Z.o];have L:Hid (c.heap.size<=d.heap.size/\∀f,(Value.slice (some ⟨c.heap.size,0,none⟩) [t].length 1).ownBlock=some f->f≠d.heap.size):=⟨by have:=Z.o;omega,fun f e=>by simp only[Value.ownBlock,PN] at e;have:=Z.o;omega⟩;obtain⟨a0,a9⟩:=ag c.heap.size;obtain⟨g,d2⟩:=ag d.heap.size;rw[<-a9] at a8 L⊢;rw[<-d2] at L a6 a7⊢;have b0:=Kz a9;clear a9 d2 f7 Z d0 d1;go_wp2
 go_loopg [7,8,9] size (fun gg x7 x8 x9 wr=>∃(l:List Nat) (b g:Nat) (s:Qx) (F:Nat),x7= .slice s l.length F/\x8= .int .i64 (b:Int)/\x9= .pointer (some ⟨g,0,none⟩)/\Hid (qJ (dz E a) t size l b gg)/\Hid (∀p∈l,p<a.length)/\Hid (wr.ownsRow a0 3 1 (.slice s l.length F) l.length (l.map kv))/\Hid (aL wr g 3 1)/\Hid (wr.cell? ⟨g,0,none⟩=some (.int .i64 (gg:Int)))/\Hid (a0<=g/\∀f,(Value.slice s l.length F).ownBlock=some f->f≠g)/\Hid (K_ c wr))
 case atStart=>exact⟨[t],t,g,_,1,rfl,rfl,rfl,Kz (qJ.start c5.o),Kz (fun p r=>by rw[Pd] at r;rw[r];exact ht),a8,a6,a7,L,c8⟩
 case round=>
  clear a8 a6 a7 L c8;obtain⟨l,b,g,s,F,rfl,rfl,rfl,v,b1,HO,a1,a2,L,G⟩:=hrel;have cl:=a2.o;have f8:=v.o.pos;have f9:=v.o.len;by_cases b2:gk=1
  ·have i8:¬((1:Int)<(gk:Int)):=by omega
   have g0:Hid (mh (dz E a) t size t l):=by have h:=v.o;rw[b2] at h;exact h.done
   have d3:Hid (l.length=size):=by show l.length=size;omega
   have g1:Hid (l≠[]):=by obtain⟨l0,e⟩:=v.o.last;show l≠[];rw[e];simp
   have g2:Hid (uH wr s l):=by
    obtain⟨i9,c9,e9,_,h9⟩:=yt HO.o rfl;simp only[PO,true_and] at e9;rw[<-e9.1] at h9;exact h9
   clear b2 f9 f8;go_wp2
   go_ret
   exact⟨s,F,l,rfl,g2.o,by have:=d3.o;omega,b1.o,fun e=>Qi e g1.o,fun _=>⟨size,c5.o,g0.o,d3.o⟩,K.trans G.o⟩
  have j0:1<=l.length:=by obtain⟨l0,e⟩:=v.o.last;rw[e];simp
  have j1:(1:Int)<(gk:Int):=by omega
  obtain⟨q,hq⟩:∃q,gk=q+1:=⟨gk-1,by omega⟩;have g3:1<=q:=by omega
  have HQ:=Kz hq;have g4:b<a.length:=b1.o b (by obtain⟨l0,e⟩:=v.o.last;rw[e];simp);obtain⟨da,dc,b3,d4⟩:=W.fwd b g4;have g5:Hid (∃p∈j b,D p=gk):=by
   obtain⟨y,h1,g6⟩:=v.o.more (by omega);exact⟨y,(n.fwd b y).2 h1,by have:=(c7.o y (gk-1) (by omega)).2 g6;omega⟩
  have g7:(j b).length<=60000000:=OX (n.len b).1 hM;have g8:Hid (∀p∈j b,p<60):=fun p r=>by have:=((n.fwd b p).1 r).2.1;omega
  have q1:=(G.o.cell c1).trans c2.o;have q2:=((K.trans G.o).cell W.nbl).trans b3;have j2:(b:Int)<(a.length:Int):=by omega
  have⟨d5,g9⟩:=aD d4 b3;clear hq b2 d4 b3;go_wp2_with fail
  refine (zG wr da dc (j b) ab g D gk g7 g8.o a1.o.lt (d5.o.kept (K.trans G.o)) (ni c0.o G.o) a2.o g5.o).mono ?_;rintro e z ⟨⟨k,rfl,M,d6,d7⟩,T⟩;have U:=Kz (G.o.trans T);obtain⟨x,hx⟩:=ag ((j b)[k]);have h0:Hid (Bt (fun y=>dz E a b y/\Far (dz E a) t q y) x):=by
   have h2:=HQ.o;rw[hx];have d8:∀y,D y=gk↔Far (dz E a) t q y:=fun y=>by rw[h2];exact c7.o y q (by omega)
   exact BX (p:=fun y=>dz E a b y/\Far (dz E a) t q y) (n.asc b) (fun y hy=>(n.fwd b y).2 hy.1) M ⟨(n.fwd b _).1 (Pf M),(d8 _).1 d6⟩ (fun N hj h3 h=>d7 N hj h3 ((d8 _).2 h.2))
  have h4:x<a.length:=by have:=((n.fwd b x).1 (by rw[hx];exact Pf M)).2.1;exact this
  obtain⟨eb,eo,h5,j3,h6⟩:=(d5.o.kept (K.trans U.o)) k M;subst h5;have d9:(j b).getD k 0=x:=by rw[hx];simp[List.getD,M]
  rw[d9] at h6;have j4:(k:Int)<((j b).length:Int):=by omega
  have q1:=(U.o.cell c1).trans c2.o;have q2:=((K.trans U.o).cell W.nbl).trans g9.o;clear hx d9 d6 d7 M cl;have e0:=(T.cell a1.o.lt).trans a2.o;have e1:=Kz (ai HO.o T);have b4:=Kz (a1.o.kept T);obtain⟨ic,h7,h8,i0,i1⟩:=info_parts Tryz.LU;have V:K_ z (z.alloc (.cells #[.int .i64 (x:Int)] 3)):=ak _ _;have b5:=Kz (ai e1.o V);have b6:=Kz (U.o.trans V);have e2:a0<=(z.alloc (.cells #[.int .i64 (x:Int)] 3)).heap.size:=by rw[b0.o];exact b6.o.size
  have e3:Hid (∀N u,([.int .i64 (x:Int)]:List QA)[N]? =some u->(z.alloc (.cells #[.int .i64 (x:Int)] 3)).cell? ((⟨z.heap.size,0,none⟩:Addr).add N)=some u):=fun N u hu=>by rw[PQ];exact X_ z #[.int .i64 (x:Int)] 3 N u hu
  have e4:Hid (∀u∈([.int .i64 (x:Int)]:List QA),u.oneCell'=true):=fun u hu=>by simp only[PS,PT,or_false] at hu;subst hu;rfl
  have e5:=Kz (b4.o.kept V);have e6:=Kz ((V.cell b4.o.lt).trans e0);have j5:l.length<=60:=by omega
  clear e0 T;go_upto_region 11 with (at_builtin;refine wpList_append_own _ rfl (.tmp 42) (.tmp 44) 56 rfl a0 3 ic _ 1 8 underlying56 h7 h8 i0 i1 rfl (by decide) (.slice s l.length F) l.length (l.map kv) rfl b5.o ⟨z.heap.size,0,none⟩ 1 1 [.int .i64 (x:Int)] rfl rfl e3.o e4.o (by unfold maxLen;omega) (by omega) e2 ?_;intro v' A b7 b8 _)
  have KP:Hid (K_ c A):=aC b6.o (by rw[b0.o];exact OU _) b5.o b8;have kg:But (fun f=>(Value.slice s l.length F).ownBlock=some f) (z.alloc (.cells #[.int .i64 (x:Int)] 3)) A:=But.aQ b8 (fun f e=>e);have e7:=e5.o.lt;have c6:A.cell? ⟨g,0,none⟩=some (.int .i64 (gk:Int)):=(kg.cell e7 (fun e=>L.o.2 g e rfl)).trans e6.o;have e8:=Kz b7;obtain⟨i2,i3,rfl⟩:=aG b7;clear b7 b8 kg e7 e5 e6 e3 e4 b5 b6 e2 V b4 e1 HO a1 a2 G U;have i4:Hid (qJ (dz E a) t size l b (q+1)):=by have h:=v.o;rw[HQ.o] at h;exact h
  have i5:Hid ((gk:Int)-1= (q:Int)):=by show _=_;have:=HQ.o;omega
  go_wp2_with fail
  rw[i5.o];have k8:K_ A (A.alloc (.cells #[.int .i64 (q:Int)] 3)):=ak _ _;go_roundg q
  case measure=>have:=HQ.o;omega
  case rel=>
   refine⟨l++ [x],x,A.heap.size,i2,i3,by rw[PM];rfl,rfl,rfl,Kz (i4.o.next g3 h0.o),Kz (fun p r=>?_),Kz ?_,Kz (aL.made A #[.int .i64 (q:Int)] 3),Kz (X_ A #[.int .i64 (q:Int)] 3 0 _ rfl),Kz ⟨?_,fun f e=>?_⟩,Kz (KP.out.trans k8)⟩
   ·rcases Pe.1 r with h|h
    ·exact b1.o p h
    ·rw[Pd] at h;rw[h];exact h4
   ·rw[PM,Qm];exact ai e8.o k8
   ·rw[b0.o];exact KP.out.size
   ·rw[PM] at e;have:=(e8.o.lt f e).2;omega
def Js(R:Nat->Nat->Prop)(n:Nat)(w w':Qy)(e:Ending):Prop:=∃(av:Qx) (cv:Nat) (best:List Nat),e= .returned (.slice av best.length cv)/\uH w' av best/\best.length<=60/\(∀p∈best,p<n)/\jU R n best/\K_ w w'
theorem FB(w:Qy)(d:Qx)(g:Nat)(a:List Qw)(nb mb:Nat)(x back:Nat->List Nat)(E:Qw->Qw->Prop)(M:Nat)(hn:a.length<=60)(hM:M<=60000000)(hV:uT w d a nb mb x back)(hR:Eg E a M x back):
  Calls prog 134 #[.agg #[.slice d a.length g,.slice (some ⟨nb,0,none⟩) a.length a.length,.slice (some ⟨mb,0,none⟩) a.length a.length]] w fun e w'=>Js (dz E a) a.length w w' e:=by
 obtain⟨n,h⟩:=ag (w.alloc (.cells #[.slice d a.length g,.slice (some ⟨nb,0,none⟩) a.length a.length,.slice (some ⟨mb,0,none⟩) a.length a.length] 203));have P:K_ w n:=by rw[h];exact ak _ _
 have Q:Hid (∀u,K_ n u->u.cell? ⟨w.heap.size,0,none⟩=some (.slice d a.length g)/\u.cell? ⟨w.heap.size,1,none⟩=some (.slice (some ⟨nb,0,none⟩) a.length a.length)/\u.cell? ⟨w.heap.size,2,none⟩=some (.slice (some ⟨mb,0,none⟩) a.length a.length)):=fun u y=>by
  have z:w.heap.size<n.heap.size:=by rw[h];simp
  have p:=X_ w #[.slice d a.length g,.slice (some ⟨nb,0,none⟩) a.length a.length,.slice (some ⟨mb,0,none⟩) a.length a.length] 203;rw[<-h] at p;exact⟨(y.cell z).trans (p 0 _ rfl),(y.cell z).trans (p 1 _ rfl),(y.cell z).trans (p 2 _ rfl)⟩
 go_enter func134,ntmps134
 go_upto_region 1 with fail
 rw[<-h];clear h;obtain⟨A,B,C⟩:=Q.o _ (K_.refl _);go_wp2_with fail
 clear A B C;go_loopw [3,9] (fun x3 D wr=>∃(i:Nat) (b:List Nat) (f:Qx) (j:Nat),i<=a.length/\D= .int .i64 (i:Int)/\x3= .slice f b.length j/\b.length<=60/\Hid (uH wr f b)/\Hid (∀R∈b,R<a.length)/\Hid (jU (dz E a) i b)/\K_ n wr) (fun _ D _=>a.length-(intOf D).toNat)
 case atStart=>exact⟨0,[],none,0,OW _,rfl,rfl,OW _,Kz (fun i S=>aB S),Kz (fun R hp=>by cases hp),Kz (jU.start _),K_.refl _⟩
 case round=>
  obtain⟨i,b,f,j,S,rfl,rfl,F,G,H,k,q⟩:=hrel;by_cases a3:i<a.length;rotate_left
  ·have a4:i=a.length:=by omega
   subst a4;go_wp2
   go_ret
   exact⟨f,j,b,rfl,G.o,F,H.o,k.o,P.trans q⟩
  obtain⟨A,B,C⟩:=Q.o _ q;have a9:(i:Int)<(a.length:Int):=by omega
  go_wp2_with fail
  refine (xD wr d g a nb mb x back E M i a3 hn hM (hV.kept (P.trans q)) hR).mono ?_;rintro e w2 ⟨T,U,l,rfl,V,W,X,Y,Z,I⟩;have⟨a0,a1⟩:=aD V X;have a2:=Kz (G.o.kept I);have r:=q.trans I;have⟨a5,a6⟩:=aD Y Z;clear A B C V X Y Z G I;by_cases s:l.length=0
  ·have hg:¬((0:Int)<(l.length:Int)):=by omega
   have J:Hid (jU (dz E a) (i+1) b):=k.o.skip (fun t K=>Qi K (a5.o (Pk.1 s) t));clear s;go_wp2
   go_roundw
   case rel=>exact⟨i+1,b,f,j,by omega,by go_num,rfl,F,a2,H,J,r⟩
   case measure=>simp[intOf];omega
  have hg:(0:Int)<(l.length:Int):=by omega
  have L:=Kz (a6.o (fun e=>s (by rw[e];rfl)));clear s;by_cases c:b.length=0
  ·have a7:((b.length:Int) == 0)=true:=by simp[c]
   have N:Hid (jU (dz E a) (i+1) l):=by
    obtain⟨t,m,O,v⟩:=L.o;exact k.o.take m O v (.inl (Pk.1 c))
   clear c;go_wp2
   go_roundw
   case rel=>exact⟨i+1,l,T,U,by omega,by go_num,rfl,W,a0,a1,N,r⟩
   case measure=>simp[intOf];omega
  have a7:((b.length:Int) == 0)=false:=by simp;exact fun e=>c (by rw[e];rfl)
  by_cases b0:l.length<b.length
  ·have a8:(l.length:Int)<(b.length:Int):=by omega
   have N:Hid (jU (dz E a) (i+1) l):=by
    obtain⟨t,m,O,v⟩:=L.o;exact k.o.take m O v (.inr (by omega))
   clear c;go_wp2
   go_roundw
   case rel=>exact⟨i+1,l,T,U,by omega,by go_num,rfl,W,a0,a1,N,r⟩
   case measure=>simp[intOf];omega
  ·have a8:¬((l.length:Int)<(b.length:Int)):=by omega
   have J:Hid (jU (dz E a) (i+1) b):=k.o.skip (fun t K=>by
    obtain⟨m',m,_,v⟩:=L.o;have:=m.unique K;exact⟨fun e=>c (by rw[e];rfl),by omega⟩)
   clear c;go_wp2
   go_roundw
   case rel=>exact⟨i+1,b,f,j,by omega,by go_num,rfl,F,a2,H,J,r⟩
   case measure=>simp[intOf];omega
theorem sU{a b:Qw}(h:(a.toList == b.toList)=true):a=b:=by
 have c:a.toList=b.toList:=by simpa using h
 rw[ByteArray.toList_eq,ByteArray.toList_eq] at c;cases a;cases b;simp at c;rw[c]
theorem Iz(w:Qy)(a:Qx)(cap:Nat)(l:List Qw)(x:Qw)(s:l.length<=1048576)(n:Strs w a l):
  Calls prog 100 #[.slice a l.length cap,.string x] w fun e w'=>Says e (x∈l)/\w'=w:=by
 go_enter func100,ntmps100
 go_wp2
 go_loopw [5] (fun i wr=>∃k:Nat,k<=l.length/\i= .int .i64 (k:Int)/\Hid (x∉l.take k)/\wr=w) (fun i _=>l.length-(intOf i).toNat)
 case atStart=>exact⟨0,OW _,rfl,Kz (by simp),rfl⟩
 case round=>
  obtain⟨k,t,rfl,g,rfl⟩:=hrel;by_cases c:k<l.length
  ·obtain⟨b,o,p,v,q⟩:=n k c;subst p;obtain⟨y,d⟩:=ag (l.getD k ByteArray.empty);rw[<-d] at q;have j:l[k]=y:=by rw[d];simp[List.getD,c]
   have m:=Kz j;have z:(k:Int)<(l.length:Int):=by omega
   clear d j;cases f:(y.toList == x.toList)
   ·go_wp2
    go_roundw
    case rel=>
     refine⟨k+1,by omega,by go_num,Kz (fun h=>?_),trivial⟩;rw[Pb c,m.o] at h;rcases Pe.1 h with h | h
     ·exact g.o h
     ·rw[Pd] at h;rw[h] at f;simp at f
    case measure=>simp[intOf];omega
   ·go_wp2
    go_ret
    exact⟨Says.yes (by rw[<-sU f,<-m.o];exact Pf c),rfl⟩
  ·have A:¬((k:Int)<(l.length:Int)):=by omega
   have r:Hid (x∉l):=by have h:=g.o;rw[PG (by omega)] at h;exact h
   clear c;go_wp2
   go_ret
   exact⟨Says.no r.o,rfl⟩
