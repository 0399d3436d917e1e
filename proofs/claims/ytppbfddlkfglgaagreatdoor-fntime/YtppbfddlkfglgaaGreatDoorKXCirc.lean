import Derived.Test.YtppbfddlkfglgaaGreatDoorKXWantZ
import Derived.Test.YtppbfddlkfglgaaGreatDoorKBApp
set_option maxRecDepth 100000
set_option maxHeartbeats 25600000
namespace Go.Proofs.YtppbfddlkfglgaaGreatDoor
open Go.RowKit Go.Proofs.Tryz
variable {n:Nat}{w:QX}
theorem yT{base base':Nat}{e:TypeId}{size:Nat}{v:QY}{a:List QY}(h:w.ownsRow base e size v n a)(b:base'<=base):w.ownsRow base' e size v n a:=by
 refine⟨h.1,?_⟩;rcases h.2 with c|⟨g,d,f,i,j,k⟩
 .exact .inl c
 .exact .inr ⟨g,d,f,i,Pz b j,k⟩
def Lx(w w':QX)(v v':QY)(l r:List QV):Prop:=∀B,B<=w.heap.size->w.ownsRow B 9 1 v l.length (l.map Value.string)->w'.ownsRow B 9 1 v' r.length (r.map Value.string)
theorem Jk(w:QX)(b o cap:Nat)(l:List QV)(x:QV)(hl:l.length<=100000)(e4:l.length<=cap)(ha:rC l)(P:Strs w (some ⟨b,o,none⟩) l):
  Calls prog 75 #[.slice (some ⟨b,o,none⟩) l.length cap,.string x] w λe w'=>∃p q c' r,e=.returned (.slice (some ⟨p,q,none⟩) r.length c')/\r.length<=c'/\Mo l x r/\Strs w' (some ⟨p,q,none⟩) r/\Lx w w' (.slice (some ⟨b,o,none⟩) l.length cap) (.slice (some ⟨p,q,none⟩) r.length c') l r/\K_ w w':=by
 have HA:=Kz ha;clear ha;go_enter func75,ntmps75
 go_wp2
 go_loop [5] (λn=>∃k:Nat,k<=l.length/\n=.b k/\Hid (∀y∈l.take k,aQ y x)) λn=>l.length-(intOf n).toNat
 case atStart=>exact⟨0,Py _,rfl,Kz λy R=>by cases R⟩
 case round=>
  obtain⟨k,hk,rfl,S⟩:=hrel;by_cases Q:k<l.length
  .obtain⟨b1,o1,T,hb,hc⟩:=P k Q;cases T;obtain⟨y,R⟩:=aj (l.getD k ByteArray.empty);rw[<-R] at hc;have d8:l[k]=y:=by rw[R];simp[List.getD,Q]
   have HY:=Kz d8;clear R d8;have f4:(k:Int)<(l.length:Int):=A7;cases d9:(Op.bytesLess y.toList x.toList)
   .have a8:=Kz d9;cases e0:(y.toList == x.toList)
    .have a9:=Kz e0;have U:Hid (∀z∈l.drop k,aQ x z):=λz i=>by
      have e1:aQ x y:=by
       rcases dA x y with g|g|g
       .exact g
       .exact QK g.symm (uC a9.o)
       .unfold aQ at g;rw[a8.o] at g;cases g
      rw[QG Q,HY.o] at i;rcases Qr.1 i with rfl|i
      .exact e1
      .obtain⟨e5,hj,rfl⟩:=PN i;rw[List.getElem_drop];have h2:=PM.1 HA.o k (k+1+e5) Q (by simp at hj;omega) A7;rw[HY.o] at h2;exact iG e1 h2
     have b0:Hid (x∉l):=λh=>by
      rw[<-QB k l] at h;rcases PK.1 h with h|h
      .exact aZ x (S.o x h)
      .exact aZ x (U.o x h)
     obtain⟨a,c,j,b2⟩:∃a c,l=a++c/\k=a.length:=⟨l.take k,l.drop k,(QB k l).symm,D7⟩;subst b2;have b3:Hid (Mo l x (a++x :: c)):=by
      have T:l.take a.length=a:=by rw[j];simp
      have e2:l.drop a.length=c:=by rw[j];simp
      refine .inr ⟨b0.o,a.length,hk,by rw[T,e2],S.o,U.o⟩
     have b4:l.length=a.length+c.length:=by rw[j,Qi]
     have b5:Hid (∀W,K_ w W->Strs W (some ⟨b,o,none⟩) a):=λW K n V=>by
      obtain⟨p,q,t,v,A⟩:=(P.kept K) n A7;refine⟨p,q,t,v,?_⟩;rw[A,j];simp[List.getD,Qx V]
     have X:Hid (∀W,K_ w W->Strs W (if cap=a.length then (some ⟨b,o,none⟩:QW) else some ⟨b,o+a.length,none⟩) c):=λW K n V=>by
      obtain⟨p,q,t,v,A⟩:=(P.kept K) (a.length+n) A7;cases t;rw[QJ A7];refine⟨b,o+a.length,rfl,v,?_⟩;rw[Nat.add_assoc,A,j];simp[List.getD,Qy]
     have Y:l.length-a.length=c.length:=A7;have e6:a.length<=cap:=A7;have e7:a.length<=l.length:=A7;have e8:a.length<=100000:=A7;have e9:c.length<=100000:=A7;have b6:=Kz Y;obtain⟨B,C,D,E,F⟩:=bi Tryz.gH;have Z:Hid ((w.alloc (.cells #[] 9)).ownsRow w.heap.size 9 1 (.c w.heap.size 0 0) 0 (([]:List QV).map Value.string)):=Qa w #[] 0 (Pw _) (Py _) rfl;have b7:w.heap.size<=(w.alloc (.cells #[] 9)).heap.size:=A9;have a0:Hid (K_ w (w.alloc (.cells #[] 9))):=ai _ _;clear j b4 Y;go_upto_region 7 with (at_builtin;refine gP rfl (.tmp 34) (.tmp 37) 26 rfl w.heap.size 9 B _ 16 underlying26 C D E F rfl (.c w.heap.size 0 0) 0 (([]:List QV).map Value.string) rfl Z.o (some ⟨b,o,none⟩) cap a rfl (b5.o _ a0.o) D6 A7 b7 ?_;intro v1 w1 s a1 b8;rw[Qb] at s;have b9:=Kz s;have c0:=aL a0.o (Pw _) Z.o a1;obtain⟨c1,c2,rfl⟩:=aG s;clear s a1 b8)
     refine Qk.region C9 (λ_=>True) 8 trivial λm=>?_;have KD:K_ w1 w1.drew:=a_ w1;generalize c3:w1.drew=f at KD⊢;clear c3;refine ae 0 m ?_;refine ae 1 m ?_;refine ae 4 m ?_;refine ae 5 m ?_;refine ae 6 m ?_;generalize hgd:(if cap=a.length then (some ⟨b,o,none⟩:QW) else some ⟨b,o+a.length,none⟩)=c4 at X⊢;clear hgd;refine au 2 λK d=>?_;go_simp
     have K5:K_ f (f.alloc (.cells #[.string x] 9)):=ai _ _;have G:Hid (Strs (f.alloc (.cells #[.string x] 9)) (some ⟨f.heap.size,0,none⟩) [x]):=λc5 hq=>by
      obtain rfl:c5=0:=by simpa using hq
      exact⟨f.heap.size,0,rfl,A9,X_ f #[.string x] 9 0 _ rfl⟩
     refine d.out _ _ (λ_=>trivial) ?_;clear d K m;have H:=KD.trans K5;have I:=Kz (ay b9.o H);obtain⟨eb,a2⟩:=aj f.heap.size;rw[<-a2] at G⊢;generalize c6:f.alloc (.cells #[.string x] 9)=w5 at G H I⊢;clear c6 K5 a2;have a3:=c0.trans H;have c7:=a3.size;try simp only[upP]
     refine aD 3 λK d=>?_;refine fH (.tmp 39) (.tmp 41) 26 rfl w.heap.size 9 B _ 16 underlying26 C D E F rfl (.slice c1 a.length c2) a.length (([]:List QV).map Value.string++a.map Value.string) rfl I.o (some ⟨eb,0,none⟩) 1 [x] rfl G.o I6 D7 c7 ?_;intro v6 w6 J a4 c8;have a5:=Kz J;have L:=aL a3 (Pw _) I.o a4;obtain⟨c9,d0,rfl⟩:=aG J;have d1:=L.size;refine af d (λ_=>trivial) ?_;clear d K J a4 c8;refine aD 7 λK d=>?_;refine fH (.tmp 42) (.tmp 45) 26 rfl w.heap.size 9 B _ 16 underlying26 C D E F rfl (.slice c9 (a.length+[x].length) d0) (a.length+[x].length) ((([]:List QV).map Value.string++a.map Value.string)++[x].map Value.string) rfl a5.o c4 (cap-a.length) c (by rw[<-b6.o];rfl) (X.o _ L) I6 D7 d1 ?_;intro v7 w7 a6 a7 d2;have d3:=Kz a6;have d4:=aL L (Pw _) a5.o a7;refine af d (λ_=>trivial) ?_;clear d K a6 a7 d2;refine au 8 λK d=>?_;go_simp
     refine af d (λh=>QK rfl h) ?_;clear d K;refine aF ?_;go_wp2
     go_ret
     have d5:(a++x :: c).length=a.length+[x].length+c.length:=D7;have M:w7.ownsRow w.heap.size 9 1 v7 (a++x :: c).length ((a++x :: c).map Value.string):=by
      have h:=d3.o;rw[d5];have e:(a++x :: c).map Value.string= ((([]:List QV).map Value.string++a.map Value.string)++[x].map Value.string)++c.map Value.string:=A9;rw[e];exact h
     rcases M.2 with⟨_,h0⟩|⟨g,d6,f0,N,_,_,d7,_,_,_⟩
     .simp at h0
     .obtain⟨f1,f2,O,h9⟩:=dV M;rw[N] at O;simp only[Qm,true_and] at O;rw[<-O.1] at h9;exact⟨g,0,d6,_,by rw[N];rfl,d7,b3.o,h9,λf3 hB _=>by rw[<-N];exact yT M hB,d4⟩
    .have a9:=Kz (iV e0);go_wp2
     go_ret
     exact⟨b,o,cap,l,rfl,e4,.inl ⟨by rw[<-a9.o,<-HY.o];exact PL Q,rfl⟩,P,λ_ _ h=>h,K_.refl _⟩
   .have a8:=Kz d9;go_wp2
    go_round
    case rel=>
     refine⟨k+1,A7,C8,Kz λz i=>?_⟩;rw[PH Q] at i;rcases PK.1 i with i|i
     .exact S.o z i
     .rw[PI,HY.o] at i;rw[i];exact a8.o
    case measure=>simp[intOf];omega
  .have e3:k=l.length:=A7;have U:Hid (∀z∈l.drop k,aQ x z):=λz i=>by rw[e3,List.drop_length] at i;cases i
   have b0:Hid (x∉l):=λh=>by
    rw[<-QB k l] at h;rcases PK.1 h with h|h
    .exact aZ x (S.o x h)
    .exact aZ x (U.o x h)
   obtain⟨a,c,j,b2⟩:∃a c,l=a++c/\k=a.length:=⟨l.take k,l.drop k,(QB k l).symm,D7⟩;subst b2;have b3:Hid (Mo l x (a++x :: c)):=by
    have T:l.take a.length=a:=by rw[j];simp
    have e2:l.drop a.length=c:=by rw[j];simp
    refine .inr ⟨b0.o,a.length,hk,by rw[T,e2],S.o,U.o⟩
   have b4:l.length=a.length+c.length:=by rw[j,Qi]
   have b5:Hid (∀W,K_ w W->Strs W (some ⟨b,o,none⟩) a):=λW K n V=>by
    obtain⟨p,q,t,v,A⟩:=(P.kept K) n A7;refine⟨p,q,t,v,?_⟩;rw[A,j];simp[List.getD,Qx V]
   have X:Hid (∀W,K_ w W->Strs W (if cap=a.length then (some ⟨b,o,none⟩:QW) else some ⟨b,o+a.length,none⟩) c):=λW K n V=>by
    obtain⟨p,q,t,v,A⟩:=(P.kept K) (a.length+n) A7;cases t;rw[QJ A7];refine⟨b,o+a.length,rfl,v,?_⟩;rw[Nat.add_assoc,A,j];simp[List.getD,Qy]
   have Y:l.length-a.length=c.length:=A7;have e6:a.length<=cap:=A7;have e7:a.length<=l.length:=A7;have e8:a.length<=100000:=A7;have e9:c.length<=100000:=A7;have b6:=Kz Y;obtain⟨B,C,D,E,F⟩:=bi Tryz.gH;have Z:Hid ((w.alloc (.cells #[] 9)).ownsRow w.heap.size 9 1 (.c w.heap.size 0 0) 0 (([]:List QV).map Value.string)):=Qa w #[] 0 (Pw _) (Py _) rfl;have b7:w.heap.size<=(w.alloc (.cells #[] 9)).heap.size:=A9;have a0:Hid (K_ w (w.alloc (.cells #[] 9))):=ai _ _;clear j b4 Y e3;go_upto_region 7 with (at_builtin;refine gP rfl (.tmp 34) (.tmp 37) 26 rfl w.heap.size 9 B _ 16 underlying26 C D E F rfl (.c w.heap.size 0 0) 0 (([]:List QV).map Value.string) rfl Z.o (some ⟨b,o,none⟩) cap a rfl (b5.o _ a0.o) D6 A7 b7 ?_;intro v1 w1 s a1 b8;rw[Qb] at s;have b9:=Kz s;have c0:=aL a0.o (Pw _) Z.o a1;obtain⟨c1,c2,rfl⟩:=aG s;clear s a1 b8)
   refine Qk.region C9 (λ_=>True) 8 trivial λm=>?_;have KD:K_ w1 w1.drew:=a_ w1;generalize c3:w1.drew=f at KD⊢;clear c3;refine ae 0 m ?_;refine ae 1 m ?_;refine ae 4 m ?_;refine ae 5 m ?_;refine ae 6 m ?_;generalize hgd:(if cap=a.length then (some ⟨b,o,none⟩:QW) else some ⟨b,o+a.length,none⟩)=c4 at X⊢;clear hgd;refine au 2 λK d=>?_;go_simp
   have K5:K_ f (f.alloc (.cells #[.string x] 9)):=ai _ _;have G:Hid (Strs (f.alloc (.cells #[.string x] 9)) (some ⟨f.heap.size,0,none⟩) [x]):=λc5 hq=>by
    obtain rfl:c5=0:=by simpa using hq
    exact⟨f.heap.size,0,rfl,A9,X_ f #[.string x] 9 0 _ rfl⟩
   refine d.out _ _ (λ_=>trivial) ?_;clear d K m;have H:=KD.trans K5;have I:=Kz (ay b9.o H);obtain⟨eb,a2⟩:=aj f.heap.size;rw[<-a2] at G⊢;generalize c6:f.alloc (.cells #[.string x] 9)=w5 at G H I⊢;clear c6 K5 a2;have a3:=c0.trans H;have c7:=a3.size;try simp only[upP]
   refine aD 3 λK d=>?_;refine fH (.tmp 39) (.tmp 41) 26 rfl w.heap.size 9 B _ 16 underlying26 C D E F rfl (.slice c1 a.length c2) a.length (([]:List QV).map Value.string++a.map Value.string) rfl I.o (some ⟨eb,0,none⟩) 1 [x] rfl G.o I6 D7 c7 ?_;intro v6 w6 J a4 c8;have a5:=Kz J;have L:=aL a3 (Pw _) I.o a4;obtain⟨c9,d0,rfl⟩:=aG J;have d1:=L.size;refine af d (λ_=>trivial) ?_;clear d K J a4 c8;refine aD 7 λK d=>?_;refine fH (.tmp 42) (.tmp 45) 26 rfl w.heap.size 9 B _ 16 underlying26 C D E F rfl (.slice c9 (a.length+[x].length) d0) (a.length+[x].length) ((([]:List QV).map Value.string++a.map Value.string)++[x].map Value.string) rfl a5.o c4 (cap-a.length) c (by rw[<-b6.o];rfl) (X.o _ L) I6 D7 d1 ?_;intro v7 w7 a6 a7 d2;have d3:=Kz a6;have d4:=aL L (Pw _) a5.o a7;refine af d (λ_=>trivial) ?_;clear d K a6 a7 d2;refine au 8 λK d=>?_;go_simp
   refine af d (λh=>QK rfl h) ?_;clear d K;refine aF ?_;go_wp2
   go_ret
   have d5:(a++x :: c).length=a.length+[x].length+c.length:=D7;have M:w7.ownsRow w.heap.size 9 1 v7 (a++x :: c).length ((a++x :: c).map Value.string):=by
    have h:=d3.o;rw[d5];have e:(a++x :: c).map Value.string= ((([]:List QV).map Value.string++a.map Value.string)++[x].map Value.string)++c.map Value.string:=A9;rw[e];exact h
   rcases M.2 with⟨_,h0⟩|⟨g,d6,f0,N,_,_,d7,_,_,_⟩
   .simp at h0
   .obtain⟨f1,f2,O,h9⟩:=dV M;rw[N] at O;simp only[Qm,true_and] at O;rw[<-O.1] at h9;exact⟨g,0,d6,_,by rw[N];rfl,d7,b3.o,h9,λf3 hB _=>by rw[<-N];exact yT M hB,d4⟩
theorem tT.nil{W:bf}{σ:Env}{n:QV}(h:∀s,¬bK W σ n s):tT W σ n []:=⟨List.Pairwise.nil,λs=>⟨λe=>(by cases e),λe=>(h s e).elim⟩⟩
def Ke(Kq:List Qz)(sl:List Q_)(name:QV)(w w':QX)(e:Ending):Prop:=
 ∃(b o c:Nat)(ns:List QV),e=.returned (.slice (some ⟨b,o,none⟩) ns.length c)/\ns.length<=c/\Strs w' (some ⟨b,o,none⟩) ns/\tT (Kk Kq) (Qq sl) name ns/\w'.ownsRow w.heap.size 9 1 (.slice (some ⟨b,o,none⟩) ns.length c) ns.length (ns.map Value.string)
def IK(Kq:List Qz)(sl:List Q_)(name:QV)(w':QX)(e:Ending):Prop:=
 ∃(b o c:Nat)(ns:List QV),e=.returned (.slice (some ⟨b,o,none⟩) ns.length c)/\ns.length<=c/\Strs w' (some ⟨b,o,none⟩) ns/\tT (Kk Kq) (Qq sl) name ns
theorem EC(w:QX)(a:QW)(cap:Nat)(Kq:List Qz)(y:QW)(A rc:Nat)(d:QW)(dc:Nat)(j:List Q_)(name:QV)(f3:Kq.length<=1048576)(d3:j.length<=1048576)(f4:aX (Kk Kq))(hg:fU Kq j)(hN:dS w a Kq)(hS:jD w d j):
  Calls prog 35 #[.agg #[.slice a Kq.length cap],.agg #[.slice y A rc,.slice d j.length dc],.string name] w λe w'=>Ke Kq j name w w' e/\K_ w w':=by
 obtain⟨l,H⟩:=aj ((w.alloc (.cells #[.slice a Kq.length cap] 25)).alloc (.cells #[.slice y A rc,.slice d j.length dc] 68));have kB:K_ w l:=by rw[H];exact (ai _ _).alloc _
 have f5:l.heap.size=w.heap.size+2:=by rw[H];simp
 have L:l.cell? ⟨w.heap.size,0,none⟩=some (.slice a Kq.length cap):=by rw[H,K_.cell (w:=w.alloc (.cells #[.slice a Kq.length cap] 25)) (ai _ _) A9];exact X_ w _ _ 0 _ rfl
 have M:l.cell? ⟨w.heap.size+1,0,none⟩=some (.slice y A rc):=by have:=X_ (w.alloc (.cells #[.slice a Kq.length cap] 25)) #[.slice y A rc,.slice d j.length dc] 68 0 _ rfl;rw[Qh] at this;rw[H];exact this
 have N:l.cell? ⟨w.heap.size+1,1,none⟩=some (.slice d j.length dc):=by have:=X_ (w.alloc (.cells #[.slice a Kq.length cap] 25)) #[.slice y A rc,.slice d j.length dc] 68 1 _ rfl;rw[Qh] at this;rw[H];exact this
 have z0:w.heap.size<l.heap.size:=A7;have z1:w.heap.size+1<l.heap.size:=A7;have D:Hid (∀w',K_ l w'->w'.cell? ⟨w.heap.size,0,none⟩=some (.slice a Kq.length cap)/\w'.cell? ⟨w.heap.size+1,0,none⟩=some (.slice y A rc)/\w'.cell? ⟨w.heap.size+1,1,none⟩=some (.slice d j.length dc)/\w.heap.size<w'.heap.size/\w.heap.size+1<w'.heap.size):=λw' K=>⟨(K.cell z0).trans L,(K.cell z1).trans M,(K.cell z1).trans N,Px z0 K.size,Px z1 K.size⟩
 have W:K_ l (l.alloc (.cells #[] 9)):=ai _ _;have b1:Hid (∀u,K_ (l.alloc (.cells #[] 9)) u->u.ownsRow w.heap.size 9 1 (.c l.heap.size 0 0) 0 (([]:List QV).map Value.string)):=λu k=>ay (yT (Qa l #[] 0 (Pw _) (Py _) rfl) kB.size) k
 have⟨v,f6⟩:=aJ kB hg;clear kB f5 L M N hg;go_enter func35,ntmps35
 go_upto_region 1 with fail
 rw[<-H];clear H;go_upto_region 2 with fail
 obtain⟨WE,d4⟩:=aj (l.alloc (.cells #[] 9));rw[<-d4] at W b1⊢;clear d4;obtain⟨L,M,N,X,Y⟩:=D.o _ W;go_wp2_with fail
 refine (oG WE y A rc d dc j name d3 (hS.kept (v.o.trans W))).mono ?_;rintro e w1 ⟨⟨i3,rfl,hp⟩,k1⟩;have B:=W.trans k1;have a4:=Kz (b1.o _ k1);clear L M N X Y k1 W b1;obtain⟨L,M,N,X,Y⟩:=D.o _ B;rcases hp with⟨k,hk,rfl,O,b2⟩|⟨rfl,O⟩;rotate_left
 .have P:=Kz O;clear O;go_wp2
  go_ret
  exact⟨⟨l.heap.size,0,0,[],rfl,Pw _,(λi I=>by cases I),(tT.nil λs h=>by obtain⟨r,_,Q,_⟩:=h;rw[P.o] at Q;cases Q),a4.o⟩,v.o.trans B⟩
 obtain⟨r,Q⟩:=aj (j.getD k Q_.zero);rw[<-Q] at O b2;obtain⟨rb,ro,xa,xc,e1,f7,Z,_,_⟩:=(hS.kept (v.o.trans B)) k hk;rw[<-Q] at Z;subst e1;have J:=Z 1 _ rfl;have t4:=Z 4 _ rfl;have t5:=Z 5 _ rfl;have i4:(k:Int)<(j.length:Int):=A7;have P:=Kz O;clear O Z Q;by_cases R:r.over=true\/r.Zq=0
 .have b3:=Kz R;have d5:Hid (tT (Kk Kq) (Qq j) name []):=tT.nil λs h=>by
   obtain⟨r',_,C,b,f,_⟩:=h;rw[P.o] at C;cases C;rcases b3.o with x|x
   .rw[b] at x;cases x
   .exact f x
  have a0:r.over=true\/(r.over=false/\r.Zq=0):=by
   rcases R with h|h
   .exact .inl h
   .cases b:r.over
    .exact .inr ⟨rfl,h⟩
    .exact .inl rfl
  clear R;rcases a0 with h|⟨h,f⟩
  .rw[h] at J;go_wp2
   go_ret
   exact⟨⟨l.heap.size,0,0,[],rfl,Pw _,(λi I=>by cases I),d5.o,a4.o⟩,v.o.trans B⟩
  .rw[h] at J;rw[f] at t5;go_wp2
   go_ret
   exact⟨⟨l.heap.size,0,0,[],rfl,Pw _,(λi I=>by cases I),d5.o,a4.o⟩,v.o.trans B⟩
 have ho:r.over=false:=by
  cases b:r.over
  .rfl
  .exact QK (.inl b) R
 have hv:r.Zq≠0:=λe=>R (.inr e)
 have f8:(r.Zq == 0)=false:=by simpa using hv
 obtain⟨i5,S,d6,a5⟩:=(f6.o.good r (bA P.o).1).act;rw[b2] at S;obtain⟨a1,hj,d7,d8,rfl⟩:=iq S;obtain⟨T,hy⟩:=aj (Kq.getD a1 Qz.zero);rw[<-hy] at S a5;dsimp only at a5;obtain⟨nb,nq,cs,e2,f9,a0,na,nc,rfl,b5⟩:=hN a1 hj;subst e2;rw[<-hy] at a0 b5;obtain⟨E,b6⟩:∃E:Nat,r.at'= (E:Int):=⟨r.at'.toNat,A7⟩;have g0:E<T.steps.length:=A7;obtain⟨tb,tq,i6,g1,g2,b7,aa,ca,ac,cc,rfl,b8,_,_⟩:=b5 E g0;subst g1;obtain⟨s,hs⟩:=aj (T.steps.getD E Xq.zero);rw[<-hs] at b7 b8;have n2:=a0 2 _ rfl;have m0:=b7 0 _ rfl;rw[Qp] at m0;have b9:Hid (stepOf ⟨T.cost,T.steps⟩ r.at'=s):=by show _=_;unfold stepOf;rw[b6,hs];rfl
 have i7:s.asks.length<=5:=by have h:=(jU (f4 _ _ S).1 d6 a5).1;rw[b9.o] at h;exact h
 have⟨g3,g4,c0,g5,b3⟩:=fQ d7 d8 S hv ho;have i8:(a1:Int)<(Kq.length:Int):=A7;have i9:(E:Int)<(T.steps.length:Int):=A7;rw[b6] at t4;rw[ho] at J;have KN:=v.o.trans B;have a6:Hid (∀w',K_ w1 w'->w'.cell? ⟨w.heap.size,0,none⟩=some (.slice (some ⟨nb,nq,none⟩) Kq.length cap)/\w'.cell? ⟨w.heap.size+1,1,none⟩=some (.slice (some ⟨rb,ro,none⟩) j.length dc)/\w'.cell? ⟨rb,ro+k*7+4,none⟩=some (.b (E:Int))/\w'.cell? ⟨nb,nq+a1*3+2,none⟩=some (.slice (some ⟨tb,tq,none⟩) T.steps.length nc)/\w'.cell? ⟨tb,tq+E*8,none⟩=some (.slice aa s.asks.length ca)):=λw' K=>⟨(D.o w' (B.trans K)).1,(D.o w' (B.trans K)).2.2.1,(K.cell f7).trans t4,((KN.trans K).cell f9).trans n2,((KN.trans K).cell g2).trans m0⟩
 have g6:=Kz (hN.kept KN);have g7:=Kz b8;clear R S hy a0 b5 b7 b8 hs b6 d6 a5 hv ho d7 d8 n2 m0 b2;go_upto_region 5 with fail
 clear J t4 t5 f8 L M N X Y;refine bG 18 a6.o λwd KD m=>?_
 refine ax 0 m ?_;refine ax 9 m ?_;refine ae 13 m ?_;refine ae 14 m ?_;refine aD 4 λK p=>?_;go_simp
 go_at_call 15
 refine (iY wd (some ⟨nb,nq,none⟩) cap Kq name f3 (g6.o.kept KD)).mono ?_;rintro e w2 ⟨⟨q,rfl,hq⟩,k2⟩;have K2:=KD.trans k2;obtain rfl:q= (a1:Int):=by
  rcases hq with⟨k',_,e',_,b,f⟩|⟨_,b⟩
  .rw[e',oN g3.o g4.o b f]
  .rw[c0.o] at b;cases b
 clear hq;dsimp only;refine af p (λ_=>a6.o _ K2) ?_;clear p K;clear m;have m:=a6.o _ K2;refine ax 5 m ?_;refine ae 15 m ?_;refine ae 16 m ?_;refine ae 17 m ?_;refine au 18 λK p=>?_;go_simp
 refine af p (λh=>QK rfl h) ?_;clear p K;refine aF ?_;clear m;have g8:=B.trans K2;have g9:Hid (∀c3,K_ w2 c3->Strs c3 aa s.asks):=λc3 K=>g7.o.kept (KN.trans (K2.trans K))
 have d9:Hid (Strs w2 (some ⟨l.heap.size,0,none⟩) []):=λi I=>by cases I
 go_wp2
 go_loopg [7,10] s.asks.length λgg x7 h0 wr=>∃(i F o c:Nat)(n:List QV),h0=.b (i:Int)/\i+gg=s.asks.length/\x7=.slice (some ⟨F,o,none⟩) n.length c/\n.length<=c/\n.length<=i/\Hid (rC n)/\Hid (∀z,z∈n↔z∈s.asks.take i/\NM (Qq j) z)/\Hid (Strs wr (some ⟨F,o,none⟩) n)/\Hid (wr.ownsRow w.heap.size 9 1 (.slice (some ⟨F,o,none⟩) n.length c) n.length (n.map Value.string))/\K_ w2 wr
 case atStart=>exact⟨0,l.heap.size,0,0,[],rfl,A7,rfl,Pw _,Pw _,Kz List.Pairwise.nil,Kz λz=>A9,d9,Kz (ay a4.o K2),K_.refl _⟩
 case round=>
  clear d9 a6;obtain⟨i,F,o,c,n,rfl,j0,rfl,a7,j1,a2,a8,e0,e3,Kw⟩:=hrel;have G:=g8.trans Kw;by_cases c5:i<s.asks.length
  .obtain⟨ab,ao,rfl,e4,a9⟩:=(g9.o wr Kw) i c5;obtain⟨a3,hx⟩:=aj (s.asks.getD i ByteArray.empty);rw[<-hx] at a9;have e5:s.asks[i]=a3:=by rw[hx];simp[List.getD,c5]
   have h1:=Kz e5;have j2:(i:Int)<(s.asks.length:Int):=A7;have c6:Hid (∀w',K_ wr w'->w'.cell? ⟨w.heap.size+1,0,none⟩=some (.slice y A rc)/\w'.cell? ⟨w.heap.size+1,1,none⟩=some (.slice (some ⟨rb,ro,none⟩) j.length dc)/\w'.cell? ⟨ab,ao+i,none⟩=some (.string a3)):=λw' K=>⟨(D.o w' (G.trans K)).2.1,(D.o w' (G.trans K)).2.2.1,(K.cell e4).trans a9⟩
   obtain⟨_,c1,c2,X,Y⟩:=D.o wr G;clear hx e5;go_upto_region 9 with fail
   clear c1 c2 a9;refine bG 6 c6.o λwd KD m=>?_
   refine ax 0 m ?_;refine ae 4 m ?_;refine aD 5 λK p=>?_;go_simp
   go_at_call 36
   refine (oG wd y A rc (some ⟨rb,ro,none⟩) dc j a3 d3 (hS.kept (v.o.trans (G.trans KD)))).mono ?_;rintro e w3 ⟨⟨q,rfl,hq⟩,k3⟩;have t:=KD.trans k3;refine af p (λ_=>c6.o _ t) ?_;clear p K m;refine au 6 λK p=>?_;go_simp
   refine af p (λh=>QK rfl h) ?_;clear p K;refine aF ?_;obtain⟨j3,c1,c2,X,Y⟩:=D.o w3 (G.trans t);have a9:=(c6.o _ t).2.2;have j4:ab<w3.heap.size:=Px e4 t.size;have c7:=Kz (e0.o.kept t);have c8:=Kz (ay e3.o t);have h2:Hid (w.heap.size<=w3.heap.size):=(v.o.trans (G.trans t)).size;have e6:∀z,z∈s.asks.take (i+1)↔z∈s.asks.take i\/z=a3:=λz=>by rw[PH c5,h1.o];simp
   have c9:=Kz e6;clear e6 k3;rcases hq with⟨k',h3,rfl,U,_⟩|⟨rfl,U⟩
   .obtain⟨r',C⟩:=aj (j.getD k' Q_.zero);rw[<-C] at U;obtain⟨j5,j6,j7,j8,h5,j9,d0,_,_⟩:=(hS.kept (v.o.trans (G.trans t))) k' h3;cases h5;rw[<-C] at d0;have J:=d0 1 _ rfl;have k0:(k':Int)<(j.length:Int):=A7;have k4:¬((k':Int)<0):=A7;have b0:=Kz U;clear U d0 C;cases V:r'.over
    .rw[V] at J;have d1:=Kz V;clear V;go_wp2_with fail
     refine (Jk w3 F o c n a3 A7 a7 a2.o c7.o).mono ?_;rintro e w4 ⟨b4,o4,c4,r4,rfl,h6,d2,e7,e8,h7⟩;have h8:=Kz (e8 _ h2.o c8.o);obtain⟨e9,f0⟩:=d2.asc a2.o;have k5:r4.length<=n.length+1:=by
      rcases d2 with⟨_,rfl⟩|⟨_,q,hq,rfl,_,_⟩
      .omega
      .simp;omega
     have⟨h9,i0,i1⟩:=dC e9 f0 e7;have K4:=Kw.trans (t.trans h7);clear e9 f0 e7 d2 e8;go_wp2
     go_roundg (gk-1)
     case measure=>omega
     case rel=>exact⟨i+1,b4,o4,c4,r4,C8,A7,rfl,h6,A7,h9,Kz (λz=>by
      rw[i0.o,a8.o,c9.o];constructor
      .rintro (⟨b,f⟩|rfl)
       .exact⟨.inl b,f⟩
       .exact⟨.inr rfl,_,b0.o,d1.o⟩
      .rintro⟨b|rfl,f⟩
       .exact .inl ⟨b,f⟩
       .exact .inr rfl),i1,h8,K4⟩
    .rw[V] at J;have d1:=Kz V;clear V;go_wp2
     go_roundg (gk-1)
     case measure=>omega
     case rel=>exact⟨i+1,F,o,c,n,C8,A7,rfl,a7,A7,a2,Kz (λz=>by
      rw[a8.o,c9.o];constructor
      .rintro⟨b,f⟩;exact⟨.inl b,f⟩
      .rintro⟨b|rfl,f⟩
       .exact⟨b,f⟩
       .obtain⟨q,x,h4⟩:=f;rw[b0.o] at x;cases x;rw[d1.o] at h4;cases h4),c7,c8,Kw.trans t⟩
   .have b0:=Kz U;clear U;go_wp2
    go_roundg (gk-1)
    case measure=>omega
    case rel=>exact⟨i+1,F,o,c,n,C8,A7,rfl,a7,A7,a2,Kz (λz=>by
     rw[a8.o,c9.o];constructor
     .rintro⟨b,f⟩;exact⟨.inl b,f⟩
     .rintro⟨b|rfl,f⟩
      .exact⟨b,f⟩
      .obtain⟨q,x,h4⟩:=f;rw[b0.o] at x;cases x),c7,c8,Kw.trans t⟩
  .have f1:s.asks.take i=s.asks:=Qd A7;have i2:=Kz f1;clear f1;go_wp2
   go_ret
   refine⟨⟨F,o,c,n,rfl,a7,e0.o,⟨a2.o,λz=>?_⟩,e3.o⟩,v.o.trans G⟩;rw[a8.o,i2.o];constructor
   .rintro⟨b,f⟩;exact⟨r,_,P.o,b3.o,g5.o,c0.o,by rw[b9.o];exact b,f⟩
   .rintro⟨r',A',C,_,_,f2,b,f⟩;rw[P.o] at C;cases C;rw[c0.o] at f2;cases f2;rw[b9.o] at b;exact⟨b,f⟩
theorem vT(w:QX)(a:QW)(cap:Nat)(Kq:List Qz)(c:QW)(f rc:Nat)(d:QW)(dc:Nat)(b:List Q_)(name:QV)(h:Kq.length<=1048576)(i:b.length<=1048576)(j:aX (Kk Kq))(k:fU Kq b)(l:dS w a Kq)(m:jD w d b):
  Calls prog 35 #[.agg #[.slice a Kq.length cap],.agg #[.slice c f rc,.slice d b.length dc],.string name] w λe w'=>IK Kq b name w' e/\K_ w w':=
 (EC w a cap Kq c f rc d dc b name h i j k l m).mono λ_e _w' ⟨⟨n,o,p,q,r,s,t,v,_⟩,x⟩=>⟨⟨n,o,p,q,r,s,t,v⟩,x⟩
theorem Tryz.ME :(prog.info? 3).map (λi=>(i.zero,i.size,i.bytes))=some (some (.b 0),1,8):=C9
def runN(sl:List Q_)(p:Nat):QV:=(sl.getD p Q_.zero).name
def gN(w:QX)(fb n:Nat)(V:Nat->Nat):Prop:=w.rowIs fb 3 n λi=>.b (V i:Int)
variable {fb:Nat}{V:Nat -> Nat}
theorem gN.kept{w':QX}(h:gN w fb n V)(k:K_ w w'):gN w' fb n V:=by
 obtain⟨c,a,d⟩:=h;exact⟨c,(k.block fb (aP a)).trans a,d⟩
theorem gN.lt(h:gN w fb n V):fb<w.heap.size:=by obtain⟨c,b,_⟩:=h;exact aP b
theorem gN.put(h:gN w fb n V)(i v:Nat):gN (w.setCell ⟨fb,i,none⟩ (.b (v:Int))) fb n (λp=>if p=i then v else V p):=by
 obtain⟨c,a,b,d⟩:=World.rowIs.set h i (.b (v:Int));refine⟨c,a,b,λp f=>?_⟩;rw[d p f];by_cases e:p=i
 .simp[e]
 .simp[e]
theorem gN.ne(h:gN w fb n V){b o:Nat}{s:QV}(a:w.cell? ⟨b,o,none⟩=some (.string s)):b≠fb:=by
 rintro rfl;by_cases d:o<n
 .rw[World.rowIs.cell h d] at a;cases a
 .obtain⟨c,e,f,_⟩:=h;simp[World.cell?,e] at a;have:=(Qg.1 a).1;omega
theorem gN.strs(h:gN w fb n V){b o:Nat}{l:List QV}(d:Strs w (some ⟨b,o,none⟩) l)(i:Nat)(v:QY):Strs (w.setCell ⟨fb,i,none⟩ v) (some ⟨b,o,none⟩) l:=λq f=>by
 obtain⟨k,m,e,j,a⟩:=d q f;cases e;exact⟨b,o,rfl,by rw[size_setCell];exact j,by rw[Zj (h.ne a)];exact a⟩
def Ou(Kq:List Qz)(sl:List Q_)(goal:QV)(w w':QX)(e:Ending):Prop:=∃fb V,e=.returned (.c fb sl.length sl.length)/\gN w' fb sl.length V/\(∀p,p<sl.length->eO (bK (Kk Kq) (Qq sl)) goal (sl.length+1) (runN sl p) (V p))/\K_ w w'
theorem Ju(w:QX)(a:QW)(cap:Nat)(Kq:List Qz)(E:QW)(F rc:Nat)(d:QW)(dc:Nat)(c:List Q_)(j:QV)(f5:Kq.length<=1048576)(h6:c.length<=1000)(d0:aX (Kk Kq))(hg:fU Kq c)(hN:dS w a Kq)(hS:jD w d c):
  Calls prog 34 #[.agg #[.slice a Kq.length cap],.agg #[.slice E F rc,.slice d c.length dc],.string j] w λe w'=>Ou Kq c j w w' e:=by
 obtain⟨q,Q⟩:=aj ((w.alloc (.cells #[.slice a Kq.length cap] 25)).alloc (.cells #[.slice E F rc,.slice d c.length dc] 68));have kB:K_ w q:=by rw[Q];exact (ai _ _).alloc _
 have f6:q.heap.size=w.heap.size+2:=by rw[Q];simp
 have b0:q.cell? ⟨w.heap.size,0,none⟩=some (.slice a Kq.length cap):=by rw[Q,K_.cell (w:=w.alloc (.cells #[.slice a Kq.length cap] 25)) (ai _ _) A9];exact X_ w _ _ 0 _ rfl
 have s0:q.cell? ⟨w.heap.size+1,0,none⟩=some (.slice E F rc):=by have:=X_ (w.alloc (.cells #[.slice a Kq.length cap] 25)) #[.slice E F rc,.slice d c.length dc] 68 0 _ rfl;rw[Qh] at this;rw[Q];exact this
 have s1:q.cell? ⟨w.heap.size+1,1,none⟩=some (.slice d c.length dc):=by have:=X_ (w.alloc (.cells #[.slice a Kq.length cap] 25)) #[.slice E F rc,.slice d c.length dc] 68 1 _ rfl;rw[Qh] at this;rw[Q];exact this
 have z0:w.heap.size<q.heap.size:=A7;have z1:w.heap.size+1<q.heap.size:=A7;have M:Hid (∀w',K_ q w'->w'.cell? ⟨w.heap.size,0,none⟩=some (.slice a Kq.length cap)/\w'.cell? ⟨w.heap.size+1,0,none⟩=some (.slice E F rc)/\w'.cell? ⟨w.heap.size+1,1,none⟩=some (.slice d c.length dc)/\w.heap.size<w'.heap.size/\w.heap.size+1<w'.heap.size):=λw' K=>⟨(K.cell z0).trans b0,(K.cell z1).trans s0,(K.cell z1).trans s1,Px z0 K.size,Px z1 K.size⟩
 have d1:c.length<=1048576:=A7;have f7:=run_make_row' (P:=prog) 44 3 _ _ underlying44 Tryz.ME rfl .i64 .i64 c.length A7 A7;obtain⟨W0,a8⟩:=aj (q.alloc (.cells (madeCells #[.b 0] c.length) 3));have k0:K_ q W0:=by rw[a8];exact ai _ _
 have b3:Hid (gN W0 q.heap.size c.length λ_=>0):=by
  rw[a8];exact World.rowIs_made q (.b 0) c.length 3
 have⟨a3,d2⟩:=aJ kB hg;clear kB f6 hg;go_enter func34,ntmps34
 go_upto_region 1 with fail
 rw[<-Q];clear Q;go_wp2
 rw[<-a8];clear a8 f7 b0 s0 s1;obtain⟨L,b4⟩:=aj q.heap.size;rw[<-b4] at b3⊢;have d3:q.heap.size<=L:=PY b4.symm;have h7:w.heap.size+1<L:=A7;clear b4;go_loopw [8] (λx8 wr=>∃(n:Nat)(V:Nat->Nat),1<=n/\n<=c.length+1/\x8=.b (n:Int)/\Hid (gN wr L c.length V)/\Hid (∀p,p<c.length->eO (bK (Kk Kq) (Qq c)) j n (runN c p) (V p))/\K_ q wr) λx8 _=>c.length+1-(intOf x8).toNat
 case atStart=>exact⟨1,_,Pw _,A7,rfl,b3,Kz λp _=>eO.start,k0⟩
 case round=>
  clear b3 k0;obtain⟨n,V,d4,h8,rfl,G,N,t⟩:=hrel;obtain⟨c0,c1,c2,y0,y1⟩:=M.o _ t;by_cases h9:n<=c.length;rotate_left
  .have d5:n=c.length+1:=A7;have f8:=Kz d5;have O:¬((n:Int)<=(c.length:Int)):=A7;clear d5;go_wp2
   go_ret
   refine⟨L,V,rfl,G.o,λp r=>?_,a3.o.trans t⟩;rw[<-f8.o];exact N.o p r
  have i0:(n:Int)<=(c.length:Int):=A7;go_upto_region 6 with fail
  go_loopw [9] (λx9 wr=>∃(i:Nat)(V:Nat->Nat),i<=c.length/\x9=.b (i:Int)/\Hid (gN wr L c.length V)/\Hid (∀p,p<c.length->eO (bK (Kk Kq) (Qq c)) j (if p<i then n+1 else n) (runN c p) (V p))/\K_ q wr) λx9 _=>c.length-(intOf x9).toNat
  case atStart=>exact⟨0,V,Py _,rfl,G,Kz (λp r=>by rw[QJ (Nat.not_lt_zero _)];exact N.o p r),t⟩
  case round=>
   clear G N c0 c1 c2 y0 y1 t V;obtain⟨i,V,hi,rfl,G,N,t⟩:=hrel;obtain⟨c0,c1,c2,y0,y1⟩:=M.o _ t;by_cases a4:i<c.length;rotate_left
   .have d6:i=c.length:=A7;have g0:=Kz d6;have i1:¬((i:Int)<(c.length:Int)):=A7;clear d6;go_wp2
    go_roundw
    case rel=>exact⟨n+1,V,A7,A7,C8,G,Kz (λp r=>by have h:=N.o p r;rw[QI (by rw[g0.o];exact r)] at h;exact h),t⟩
    case measure=>simp[intOf];omega
   have i2:(i:Int)<(c.length:Int):=A7;obtain⟨Z,ro,xa,xc,e1,g1,d7,_,_⟩:=(hS.kept (a3.o.trans t)) i a4;subst e1;obtain⟨x,hx⟩:=aj (runN c i);have t0:=d7 0 _ rfl;rw[Qp] at t0;have d8:wr.cell? ⟨Z,ro+i*7,none⟩=some (.string x):=by rw[hx];exact t0
   clear t0 d7;have t0:=d8;clear d8;have f0:=World.rowIs.cell G.o a4;try dsimp only at f0
   have fz:=G.o.lt;have HX:=Kz hx;have a5:Hid (eO (bK (Kk Kq) (Qq c)) j n x (V i)):=by have h:=N.o i a4;rw[QJ (Nat.lt_irrefl _),<-hx] at h;exact h
   clear hx;by_cases a0:V i≠0\/aQ x j
   .have a1:=Kz a0;have d9:Hid (∀p,p<c.length->eO (bK (Kk Kq) (Qq c)) j (if p<i+1 then n+1 else n) (runN c p) (V p)):=λp r=>by
     by_cases e:p=i
     .subst e;rw[QI A7,<-HX.o];exact a5.o.keep a1.o
     .have h:=N.o p r;by_cases R:p<i
      .rw[QI R] at h;rw[QI A7];exact h
      .rw[QJ R] at h;rw[QJ A7];exact h
    have e0:(0:Int)<(V i:Int)\/(¬((0:Int)<(V i:Int))/\Op.bytesLess x.toList j.toList=true):=by
     by_cases g2:V i=0
     .refine .inr ⟨A7,?_⟩;rcases a0 with h|h
      .exact QK g2 h
      .exact h
     .exact .inl A7
    obtain⟨A,hv⟩:=aj (V i);rw[<-hv] at f0 e0;clear a0 hv;rcases e0 with r|⟨r,hb⟩
    .go_wp2
     go_roundw
     case rel=>exact⟨i+1,V,A7,C8,G,d9,t⟩
     case measure=>simp[intOf];omega
    .go_wp2
     go_roundw
     case rel=>exact⟨i+1,V,A7,C8,G,d9,t⟩
     case measure=>simp[intOf];omega
   have b5:V i=0:=by
    by_cases h:V i=0
    .exact h
    .exact QK (.inl h) a0
   have b6:¬aQ x j:=λh=>a0 (.inr h)
   have i3:Op.bytesLess x.toList j.toList=false:=by
    cases h:Op.bytesLess x.toList j.toList
    .rfl
    .exact QK h b6
   rw[b5] at a5 f0;have⟨g3,b7⟩:=aJ b5 b6;clear a0 b5 b6;have b8:Hid (∀w',K_ wr w'->w'.cell? ⟨w.heap.size,0,none⟩=some (.slice a Kq.length cap)/\w'.cell? ⟨w.heap.size+1,0,none⟩=some (.slice E F rc)/\w'.cell? ⟨w.heap.size+1,1,none⟩=some (.slice (some ⟨Z,ro,none⟩) c.length dc)/\w'.cell? ⟨Z,ro+i*7,none⟩=some (.string x)):=λw' K=>⟨(M.o w' (t.trans K)).1,(M.o w' (t.trans K)).2.1,(M.o w' (t.trans K)).2.2.1,(K.cell g1).trans t0⟩
   go_upto_region 9 with fail
   refine bG 9 b8.o λS m b=>?_
   refine ax 0 b ?_;refine ax 4 b ?_;refine aD 8 λK l=>?_;go_simp
   go_at_call 35
   refine (vT S a cap Kq E F rc (some ⟨Z,ro,none⟩) dc c x f5 d1 d0 d2.o (hN.kept (a3.o.trans (t.trans m))) (hS.kept (a3.o.trans (t.trans m)))).mono ?_;rintro e w2 ⟨⟨lb,lo,lc,B,rfl,i4,e2,b9⟩,k2⟩;have K2:=m.trans k2;refine af l (λ_=>b8.o _ K2) ?_;clear l K b;refine au 9 λK l=>?_;go_simp
   refine af l (λh=>QK rfl h) ?_;clear l K;refine aF ?_;have⟨e3,e4⟩:=aJ b9 e2;have e5:=Kz (G.o.kept K2);have e6:=t.trans K2;have i5:=b9.len d0 d2.o.env;have e7:=Kz λp r=>N.o p r;clear b9 e2 f0 fz t0 c0 c1 c2 y0 y1 b8 k2;go_wp2
   go_loopw [11] (λc3 wr=>∃(k A:Nat),k<=B.length/\c3=.b (k:Int)/\Hid (gN wr L c.length λp=>if p=i then A else V p)/\Hid ((A=n/\∃s,Hit (bK (Kk Kq) (Qq c)) j n x s)\/(A=0/\∀s∈B.take k,¬Hit (bK (Kk Kq) (Qq c)) j n x s))/\Hid (Strs wr (some ⟨lb,lo,none⟩) B)/\K_ q wr) λc3 _=>B.length-(intOf c3).toNat
   case atStart=>exact⟨0,0,Py _,rfl,Kz (World.rowIs.congr e5.o λp r=>by by_cases e:p=i;(subst e;simp[g3.o]);simp[e]),Kz (.inr ⟨rfl,λs hs=>by simp at hs⟩),e4,e6⟩
   case round=>
    clear e5 e4 e6;obtain⟨k,A,hk,rfl,H,a2,T,C⟩:=hrel;by_cases U:k<B.length;rotate_left
    .have e8:B.take k=B:=Qd A7;have i6:¬((k:Int)<(B.length:Int)):=A7;have g4:=Kz e8;clear e8;go_wp2
     go_roundw
     case rel=>
      refine⟨i+1,λp=>if p=i then A else V p,A7,C8,H,Kz λp r=>?_,C⟩;by_cases e:p=i
      .subst e;dsimp only;rw[if_pos A7,if_pos rfl,<-HX.o];rcases a2.o with⟨rfl,v⟩|⟨rfl,v⟩
       .exact eO.hit d4 a5.o b7.o v
       .refine eO.miss d4 a5.o b7.o λ⟨I,f⟩=>?_;rw[g4.o] at v;exact v I ((e3.o.2 I).2 f.1) f
      .dsimp only;rw[if_neg e];have h:=e7.o p r;by_cases R:p<i
       .rw[QI R] at h;rw[QI A7];exact h
       .rw[QJ R] at h;rw[QJ A7];exact h
     case measure=>simp[intOf];omega
    obtain⟨i7,i8,e1,g5,c4⟩:=T.o k U;cases e1;obtain⟨s,hs⟩:=aj (B.getD k ByteArray.empty);rw[<-hs] at c4;have c5:B[k]=s:=by rw[hs];simp[List.getD,U]
    have a1:=Kz c5;have c6:Hid (bK (Kk Kq) (Qq c) x s):=(e3.o.2 s).1 (by rw[<-c5];exact PL U);clear hs c5;have i9:(k:Int)<(B.length:Int):=A7;obtain⟨_,c1,c2,y0,y1⟩:=M.o _ C;have W:Hid (∀w',K_ wr w'->w'.cell? ⟨lb,lo+k,none⟩=some (.string s)/\w'.cell? ⟨w.heap.size+1,0,none⟩=some (.slice E F rc)/\w'.cell? ⟨w.heap.size+1,1,none⟩=some (.slice (some ⟨Z,ro,none⟩) c.length dc)/\Hid (gN w' L c.length λp=>if p=i then A else V p)):=λw' K=>⟨(K.cell g5).trans c4,(M.o w' (C.trans K)).2.1,(M.o w' (C.trans K)).2.2.1,Kz (H.o.kept K)⟩
    go_upto_region 13 with fail
    clear c1 c2 y0 y1 c4;by_cases hn:n=1
    .have HN:=Kz hn;have g6:((n:Int) == 1)=true:=by simp[hn]
     have g7:¬((1:Int)<(n:Int)):=A7;clear hn;cases e9:(s.toList == j.toList)
     .have X:Hid (¬Hit (bK (Kk Kq) (Qq c)) j n x s):=λh=>by
       rcases h.2 with⟨_,e⟩|⟨e,_⟩
       .exact uC e9 e
       .have:=HN.o;omega
      refine bG 35 W.o λS m b=>?_
      refine ax 0 b ?_;refine ax 4 b ?_;refine ax 8 b ?_;refine ae 12 b ?_;refine ae 13 b ?_;refine aC 14 b ?_;refine aC 15 b ?_;refine aC 16 b ?_;refine aC 17 b ?_;refine aC 18 b ?_;refine aC 19 b ?_;refine ae 20 b ?_;refine ae 21 b ?_;refine aC 22 b ?_;refine aC 23 b ?_;refine aC 24 b ?_;refine aC 25 b ?_;refine aC 26 b ?_;refine aC 27 b ?_;refine aC 28 b ?_;refine aC 29 b ?_;refine aC 30 b ?_;refine aC 31 b ?_;refine aC 32 b ?_;refine aC 33 b ?_;refine ae 34 b ?_;refine au 35 λK l=>?_;go_simp
      refine af l (λh=>QK rfl h) ?_;clear l K;refine aF ?_;go_wp2
      go_roundw
      case rel=>
       refine⟨k+1,A,A7,C8,Kz (H.o.kept m),Kz ?_,Kz (T.o.kept m),C.trans m⟩;rcases a2.o with h|⟨z,v⟩
       .exact .inl h
       .refine .inr ⟨z,λI f=>?_⟩;rw[PH U,a1.o] at f;rcases PK.1 f with f|f
        .exact v I f
        .rw[PI] at f;rw[f];exact X.o
      case measure=>simp[intOf];omega
     .have c7:Hid (Hit (bK (Kk Kq) (Qq c)) j n x s):=⟨c6.o,.inl ⟨HN.o,iV e9⟩⟩;refine bG 35 W.o λS m b=>?_
      refine ax 0 b ?_;refine ax 4 b ?_;refine ae 8 b ?_;refine ae 9 b ?_;refine ae 10 b ?_;refine aC 11 b ?_;refine aC 12 b ?_;refine aC 13 b ?_;refine aC 14 b ?_;refine aC 15 b ?_;refine aC 16 b ?_;refine aC 17 b ?_;refine aC 18 b ?_;refine aC 19 b ?_;refine aC 20 b ?_;refine aC 21 b ?_;refine aC 22 b ?_;refine aC 23 b ?_;refine aC 24 b ?_;refine aC 25 b ?_;refine aC 26 b ?_;refine aC 27 b ?_;refine aC 28 b ?_;refine aC 29 b ?_;refine aC 30 b ?_;refine aC 31 b ?_;refine aC 32 b ?_;refine aC 33 b ?_;refine aC 34 b ?_;refine au 35 λK l=>?_;go_simp
      refine af l (λh=>absurd rfl h) ?_;clear l K;refine aF ?_;have D:=Kz (H.o.kept m);have c8:=Kz (T.o.kept m);have a6:=World.rowIs.cell D.o a4;have g8:=World.rowIs.frozen D.o i;have fz:=D.o.lt;dsimp only at a6;rw[if_pos rfl] at a6;go_wp2
      go_roundw
      case rel=>
       refine⟨k+1,n,A7,C8,Kz ?_,Kz (.inl ⟨rfl,s,c7.o⟩),Kz (D.o.strs c8.o i _),Below.setCell (C.trans m) (p:=⟨L,i,none⟩) d3 _⟩;exact World.rowIs.congr (D.o.put i n) (λp r=>by by_cases e:p=i<;>simp[e])
      case measure=>simp[intOf];omega
    .have HN:=Kz hn;have g6:((n:Int) == 1)=false:=D7;have g7:(1:Int)<(n:Int):=A7;clear hn;by_cases O:aQ j s
     .have j0:IntKind.i64.wrap ((n:Int)-1)= (n:Int)-1:=I8;have f1:Hid (aQ j s):=O;have f2:Op.bytesLess s.toList j.toList=false:=by
       cases h:Op.bytesLess s.toList j.toList
       .rfl
       .exact QK (show aQ s j from h) (fC O)
      have g9:(s.toList == j.toList)=false:=by
       cases h:(s.toList == j.toList)
       .rfl
       .exact QK O (by rw[iV h];exact aZ _)
      clear O;refine bG 35 W.o λS m b=>?_
      refine ae 0 b ?_;refine ae 1 b ?_;refine ae 2 b ?_;refine aC 3 b ?_;refine aC 4 b ?_;refine aC 5 b ?_;refine aC 6 b ?_;refine aC 7 b ?_;refine aC 8 b ?_;refine ax 9 b ?_;refine ax 13 b ?_;refine ax 17 b ?_;refine ax 21 b ?_;refine ae 25 b ?_;refine ae 26 b ?_;refine ae 27 b ?_;refine ae 31 b ?_;refine ae 32 b ?_;refine aD 28 λK l=>?_;go_simp
      go_at_call 36
      refine (oG S E F rc (some ⟨Z,ro,none⟩) dc c s d1 (hS.kept (a3.o.trans (C.trans m)))).mono ?_;rintro e w3 ⟨⟨Y,rfl,hq⟩,k3⟩;have J:=m.trans k3;obtain⟨y,a9,rfl,h0,c9⟩:∃y:Nat,y<c.length/\Y= (y:Int)/\Qq c s=some (c.getD y Q_.zero)/\(c.getD y Q_.zero).name=s:=by
       rcases hq with⟨y,z,v,h1,h2⟩|⟨_,z⟩
       .exact⟨y,z,v,h1,h2⟩
       .obtain⟨_,_,_,_,_,_,_,j1,hy,_⟩:=c6.o;rw[z] at hy;cases hy
      clear hq;have b1:=World.rowIs.cell (H.o.kept J) a9;dsimp only at b1;have j2:=(H.o.kept J).lt;have j3:(y:Int)<(c.length:Int):=A7;have j4:(0:Int)<=(y:Int):=A7;obtain⟨Y,a7⟩:=aj ((if y=i then A else V y));rw[<-a7] at b1;have HQ:Hid (Y=n-1↔eT (bK (Kk Kq) (Qq c)) j (n-1) s):=by
       show Y=n-1↔_;by_cases e:y=i
       .have h3:s=x:=by rw[HX.o,<-e];exact c9.symm
        rw[a7,QI e,h3];refine⟨λh=>?_,λh=>?_⟩
        .rcases a2.o with⟨z,_⟩|⟨z,_⟩<;>omega
        .have:=(a5.o.2 b7.o).2 (n-1) A7 h;have:=h.1.pos;omega
       .rw[a7,QJ e];have h:=e7.o y a9;have R:runN c y=s:=c9;rw[R] at h;exact h.ask f1.o A7 (by split<;>omega)
      have f3:=Kz a7;clear a7 h0 c9;dsimp only;refine af l (λ_=>W.o _ J) ?_;clear l K;clear b;have b:=W.o _ J;by_cases b2:Y=n-1
      .have h4:((Y:Int) == (n:Int)-1)=true:=D7;have c7:Hid (Hit (bK (Kk Kq) (Qq c)) j n x s):=⟨c6.o,.inr ⟨A7,f1.o,HQ.o.1 b2⟩⟩;clear b2;refine ae 29 b ?_;refine bZ 30 ?_ b ?_ ?_;rotate_left
       .intro u hu;try dsimp only at hu
        have f9:=World.rowIs.cell hu.2.2.2.out a9;try dsimp only at f9
        rw[<-f3.o] at f9;go_simp
        try with_reducible rfl
       try simp only[upP]
       refine ae 33 b ?_;refine ae 34 b ?_;refine au 35 λK l=>?_;go_simp
       refine af l (λh=>absurd rfl h) ?_;clear l K;refine aF ?_;clear b b1;have D:=Kz (H.o.kept J);have c8:=Kz (T.o.kept J);have a6:=World.rowIs.cell D.o a4;have g8:=World.rowIs.frozen D.o i;have fz:=D.o.lt;dsimp only at a6;rw[if_pos rfl] at a6;go_wp2
       go_roundw
       case rel=>
        refine⟨k+1,n,A7,C8,Kz ?_,Kz (.inl ⟨rfl,s,c7.o⟩),Kz (D.o.strs c8.o i _),Below.setCell (C.trans J) (p:=⟨L,i,none⟩) d3 _⟩;exact World.rowIs.congr (D.o.put i n) (λp r=>by by_cases e:p=i<;>simp[e])
       case measure=>simp[intOf];omega
      .have h4:((Y:Int) == (n:Int)-1)=false:=D7;have X:Hid (¬Hit (bK (Kk Kq) (Qq c)) j n x s):=λh=>by
        rcases h.2 with⟨e,_⟩|⟨_,_,e⟩
        .exact HN.o e
        .exact b2 (HQ.o.2 e)
       clear b2;refine ae 29 b ?_;refine bZ 30 ?_ b ?_ ?_;rotate_left
       .intro u hu;try dsimp only at hu
        have f9:=World.rowIs.cell hu.2.2.2.out a9;try dsimp only at f9
        rw[<-f3.o] at f9;go_simp
        try with_reducible rfl
       try simp only[upP]
       refine ae 33 b ?_;refine ae 34 b ?_;refine au 35 λK l=>?_;go_simp
       refine af l (λh=>QK rfl h) ?_;clear l K;refine aF ?_;clear b b1;go_wp2
       go_roundw
       case rel=>
        refine⟨k+1,A,A7,C8,Kz (H.o.kept J),Kz ?_,Kz (T.o.kept J),C.trans J⟩;rcases a2.o with h|⟨z,v⟩
        .exact .inl h
        .refine .inr ⟨z,λI f=>?_⟩;rw[PH U,a1.o] at f;rcases PK.1 f with f|f
         .exact v I f
         .rw[PI] at f;rw[f];exact X.o
       case measure=>simp[intOf];omega
     .have f4:=Kz O;have h5:Op.bytesLess s.toList j.toList=true\/(Op.bytesLess s.toList j.toList=false/\(s.toList == j.toList)=true):=by
       rcases dA s j with h|h|h
       .exact .inl h
       .right
        subst h;exact⟨by cases v:Op.bytesLess s.toList s.toList;rfl;exact QK (show aQ s s from v) (aZ s),A9⟩
       .exact QK h O
      clear O;rcases h5 with f2|⟨f2,g9⟩
      .have X:Hid (¬Hit (bK (Kk Kq) (Qq c)) j n x s):=λh=>by
        rcases h.2 with⟨e,_⟩|⟨_,e,_⟩
        .exact HN.o e
        .exact f4.o e
       refine bG 35 W.o λS m b=>?_
       refine ae 0 b ?_;refine ae 1 b ?_;refine ae 2 b ?_;refine aC 3 b ?_;refine aC 4 b ?_;refine aC 5 b ?_;refine aC 6 b ?_;refine aC 7 b ?_;refine aC 8 b ?_;refine ax 9 b ?_;refine ax 13 b ?_;refine ax 17 b ?_;refine ae 21 b ?_;refine aC 22 b ?_;refine aC 23 b ?_;refine aC 24 b ?_;refine aC 25 b ?_;refine aC 26 b ?_;refine aC 27 b ?_;refine aC 28 b ?_;refine aC 29 b ?_;refine aC 30 b ?_;refine aC 31 b ?_;refine aC 32 b ?_;refine aC 33 b ?_;refine ae 34 b ?_;refine au 35 λK l=>?_;go_simp
       refine af l (λh=>QK rfl h) ?_;clear l K;refine aF ?_;go_wp2
       go_roundw
       case rel=>
        refine⟨k+1,A,A7,C8,Kz (H.o.kept m),Kz ?_,Kz (T.o.kept m),C.trans m⟩;rcases a2.o with h|⟨z,v⟩
        .exact .inl h
        .refine .inr ⟨z,λI f=>?_⟩;rw[PH U,a1.o] at f;rcases PK.1 f with f|f
         .exact v I f
         .rw[PI] at f;rw[f];exact X.o
       case measure=>simp[intOf];omega
      .have X:Hid (¬Hit (bK (Kk Kq) (Qq c)) j n x s):=λh=>by
        rcases h.2 with⟨e,_⟩|⟨_,e,_⟩
        .exact HN.o e
        .exact f4.o e
       refine bG 35 W.o λS m b=>?_
       refine ae 0 b ?_;refine ae 1 b ?_;refine ae 2 b ?_;refine aC 3 b ?_;refine aC 4 b ?_;refine aC 5 b ?_;refine aC 6 b ?_;refine aC 7 b ?_;refine aC 8 b ?_;refine ax 9 b ?_;refine ax 13 b ?_;refine ax 17 b ?_;refine ae 21 b ?_;refine aC 22 b ?_;refine aC 23 b ?_;refine aC 24 b ?_;refine aC 25 b ?_;refine aC 26 b ?_;refine aC 27 b ?_;refine aC 28 b ?_;refine aC 29 b ?_;refine aC 30 b ?_;refine aC 31 b ?_;refine aC 32 b ?_;refine aC 33 b ?_;refine ae 34 b ?_;refine au 35 λK l=>?_;go_simp
       refine af l (λh=>QK rfl h) ?_;clear l K;refine aF ?_;go_wp2
       go_roundw
       case rel=>
        refine⟨k+1,A,A7,C8,Kz (H.o.kept m),Kz ?_,Kz (T.o.kept m),C.trans m⟩;rcases a2.o with h|⟨z,v⟩
        .exact .inl h
        .refine .inr ⟨z,λI f=>?_⟩;rw[PH U,a1.o] at f;rcases PK.1 f with f|f
         .exact v I f
         .rw[PI] at f;rw[f];exact X.o
       case measure=>simp[intOf];omega
theorem lJ{Kq:List Qz}{a:List Q_}(x y:QV)(h:bK (Kk Kq) (Qq a) x y):x∈a.map (·.name):=by
 obtain⟨r,A,f,_⟩:=h;have b:=bA f;rw[<-b.2];exact PX.2 ⟨r,b.1,rfl⟩
theorem DL{a:List Q_}(c:d_ a){i:Nat}(b:i<a.length){x:QV}(d:x=runN a i):∀y∈(a.take i).map (·.name),aQ y x:=λy e=>by
 obtain⟨r,f,rfl⟩:=PX.1 e;obtain⟨j,k,rfl⟩:=List.mem_take_iff_getElem.1 f;have h:j<i:=A7;rw[d,show runN a i=a[i].name by simp[runN,List.getD,b]];exact PM.1 c j i A7 b h
def Nr(Kq:List Qz)(sl:List Q_)(w w':QX)(e:Ending):Prop:=∃av cv ns,e=.returned (.slice av ns.length cv)/\ns.length<=cv/\Strs w' av ns/\jY (bK (Kk Kq) (Qq sl)) (sl.map (·.name)) ns/\K_ w w'
theorem Ct(w:QX)(a:QW)(cap:Nat)(Kq:List Qz)(B:QW)(C rc:Nat)(d:QW)(dc:Nat)(b:List Q_)(d4:Kq.length<=1048576)(f7:b.length<=1000)(b3:aX (Kk Kq))(hg:fU Kq b)(hN:dS w a Kq)(hS:jD w d b):
  Calls prog 16 #[.agg #[.slice a Kq.length cap],.agg #[.slice B C rc,.slice d b.length dc]] w λe w'=>Nr Kq b w w' e:=by
 obtain⟨D,O⟩:=aj ((w.alloc (.cells #[.slice a Kq.length cap] 25)).alloc (.cells #[.slice B C rc,.slice d b.length dc] 68));have kB:K_ w D:=by rw[O];exact (ai _ _).alloc _
 have f8:D.heap.size=w.heap.size+2:=by rw[O];simp
 have b0:D.cell? ⟨w.heap.size,0,none⟩=some (.slice a Kq.length cap):=by rw[O,K_.cell (w:=w.alloc (.cells #[.slice a Kq.length cap] 25)) (ai _ _) A9];exact X_ w _ _ 0 _ rfl
 have s0:D.cell? ⟨w.heap.size+1,0,none⟩=some (.slice B C rc):=by have:=X_ (w.alloc (.cells #[.slice a Kq.length cap] 25)) #[.slice B C rc,.slice d b.length dc] 68 0 _ rfl;rw[Qh] at this;rw[O];exact this
 have s1:D.cell? ⟨w.heap.size+1,1,none⟩=some (.slice d b.length dc):=by have:=X_ (w.alloc (.cells #[.slice a Kq.length cap] 25)) #[.slice B C rc,.slice d b.length dc] 68 1 _ rfl;rw[Qh] at this;rw[O];exact this
 have z0:w.heap.size<D.heap.size:=A7;have z1:w.heap.size+1<D.heap.size:=A7;have V:Hid (∀w',K_ D w'->w'.cell? ⟨w.heap.size,0,none⟩=some (.slice a Kq.length cap)/\w'.cell? ⟨w.heap.size+1,0,none⟩=some (.slice B C rc)/\w'.cell? ⟨w.heap.size+1,1,none⟩=some (.slice d b.length dc)/\w.heap.size<w'.heap.size/\w.heap.size+1<w'.heap.size):=λw' K=>⟨(K.cell z0).trans b0,(K.cell z1).trans s0,(K.cell z1).trans s1,Px z0 K.size,Px z1 K.size⟩
 have d5:b.length<=1048576:=A7;obtain⟨ic,g0,g1,g2,g3⟩:=bi Tryz.gH;obtain⟨W0,b4⟩:=aj (D.alloc (.cells #[] 9));have k0:K_ D W0:=by rw[b4];exact ai _ _
 have⟨P,a5⟩:=aJ kB hg;clear kB f8 hg;go_enter func16,ntmps16
 go_upto_region 1 with fail
 rw[<-O];clear O;go_wp2
 rw[<-b4];clear b4 b0 s0 s1;go_loopw [5,6] (λx5 x6 wr=>∃(i:Nat)(av:QW)(cv:Nat)(m:List QV),i<=b.length/\x6=.b (i:Int)/\x5=.slice av m.length cv/\m.length<=cv/\Hid (Strs wr av m)/\Hid (jY (bK (Kk Kq) (Qq b)) ((b.take i).map (·.name)) m)/\K_ D wr) λ_ x6 _=>b.length-(intOf x6).toNat
 case atStart=>exact⟨0,_,_,[],Py _,rfl,rfl,Py _,Kz λq hq=>QK hq (Nat.not_lt_zero q),Kz (jY.start _),k0⟩
 case round=>
  clear k0;obtain⟨i,av,cv,m,hi,rfl,rfl,d6,HB,HR,W⟩:=hrel;obtain⟨c0,c1,c2,y0,y1⟩:=V.o _ W;by_cases X:i<b.length;rotate_left
  .have d7:i=b.length:=A7;have g4:=Kz d7;have j9:¬((i:Int)<(b.length:Int)):=A7;clear d7;go_wp2
   go_ret
   refine⟨av,cv,m,rfl,d6,HB.o,?_,P.o.trans W⟩;have h:=HR.o;rw[g4.o,Qc] at h;exact h
  have k3:(i:Int)<(b.length:Int):=A7;obtain⟨Y,Z,xa,xc,e1,k6,d8,_,_⟩:=(hS.kept (P.o.trans W)) i X;subst e1;obtain⟨x,hx⟩:=aj (runN b i);have t0:=d8 0 _ rfl;rw[Qp] at t0;have d9:wr.cell? ⟨Y,Z+i*7,none⟩=some (.string x):=by rw[hx];exact t0
  clear t0 d8;have t0:=d9;clear d9;have HX:=Kz hx;clear hx;go_wp2_with fail
  refine (Ju wr a cap Kq B C rc (some ⟨Y,Z,none⟩) dc b x d4 f7 b3 a5.o (hN.kept (P.o.trans W)) (hS.kept (P.o.trans W))).mono ?_;rintro e E ⟨fb,a0,rfl,hF,hV,k2⟩;have⟨HF,HV⟩:=aJ hF hV;have F:=W.trans k2;clear hF hV c0 c1 c2 t0;dsimp only;have b5:Hid ((a0 i≠0->eT (bK (Kk Kq) (Qq b)) x (a0 i) x)/\∀t,eT (bK (Kk Kq) (Qq b)) x t x->a0 i=t):=by
   have h:=HV.o i X;rw[<-HX.o] at h;exact eO.whole (names:=b.map (·.name)) lJ (by rw[QD];exact h) (aZ x)
  have e0:=World.rowIs.cell HF.o X;try dsimp only at e0
  have fz:=HF.o.lt;have g5:=Kz (HB.o.kept k2);have e2:Hid ((b.take (i+1)).map (·.name)= (b.take i).map (·.name)++[x]):=by
   show _=_;rw[PH X,QM,HX.o];simp[runN,List.getD,X]
  have g6:Hid (∀y∈(b.take i).map (·.name),aQ y x):=DL a5.o.asc X HX.o;obtain⟨v,hv⟩:=aj (a0 i);rw[<-hv] at e0 b5;have k7:=Kz hv;clear hv HB k2;by_cases Q:v=0\/(0<m.length/\m.length<=v)
  .have a1:Hid (∀a6,eT (bK (Kk Kq) (Qq b)) x a6 x->m≠[]/\m.length<=a6):=λa6 hn=>by
    have e:=b5.o.2 a6 hn;have hp:=hn.1.pos;rcases Q with h|⟨z,n⟩
    .omega
    .exact⟨λg7=>by rw[g7] at z;simp at z,A7⟩
   have g8:((v:Int) == 0)=true\/(((v:Int) == 0)=false/\(0:Int)<(m.length:Int)/\(m.length:Int)<=(v:Int)):=by
    by_cases h0:v=0
    .exact .inl (by simp[h0])
    .refine .inr ⟨D7,?_⟩;rcases Q with h|⟨z,n⟩
     .exact QK h h0
     .omega
   clear Q;rcases g8 with h0|⟨h0,z,n⟩
   all_goals
    go_wp2
    go_roundw
    case rel=>exact⟨i+1,av,cv,m,A7,C8,rfl,d6,g5,Kz (by rw[e2.o];exact jY.skip HR.o a1.o g6.o),F⟩
    case measure=>simp[intOf];omega
  have g9:v≠0:=λh=>Q (.inl h)
  have b6:=Kz (b5.o.1 g9);have h1:Hid (m=[]\/v<m.length):=by
   by_cases h:m.length=0
   .exact .inl (QO h)
   .refine .inr ?_;have n:¬(0<m.length/\m.length<=v):=λn=>Q (.inr n)
    omega
  have h2:((v:Int) == 0)=false/\(¬((0:Int)<(m.length:Int))\/((0:Int)<(m.length:Int)/\¬((m.length:Int)<=(v:Int)))):=by
   refine⟨D7,?_⟩;have n:¬(0<m.length/\m.length<=v):=λn=>Q (.inr n)
   omega
  have k8:v<=b.length:=by have:=(b6.o).bound (names:=b.map (·.name)) lJ;rwa [QD] at this
  clear Q;obtain⟨W3,a7⟩:=aj (E.alloc (.cells #[.string x] 9));have K3:K_ E W3:=by rw[a7];exact ai _ _
  have h5:Hid (W3.ownsRow E.heap.size 9 1 (.c E.heap.size 1 1) [x].length ([x].map Value.string)):=by
   rw[a7];exact⟨rfl,.inr ⟨E.heap.size,1,_,rfl,Pw _,heap_alloc_new E _,Pw _,D6,rfl,rfl⟩⟩
  obtain⟨h0,h6⟩:=h2;rcases h6 with z|⟨z,n⟩
  all_goals
   go_upto_region 10 with fail
   rw[<-a7];clear a7;go_loopg [10] v λgg b7 wr=>∃(f:List QV)(G:QV)(lv:QW)(I:Nat),b7=.slice lv f.length I/\Hid (pE (bK (Kk Kq) (Qq b)) x v f G gg)/\Hid (wr.ownsRow E.heap.size 9 1 (.slice lv f.length I) f.length (f.map Value.string))/\K_ E wr
   case atStart=>exact⟨[x],x,_,_,rfl,Kz (pE.start b6.o),h5,K3⟩
   case round=>
    obtain⟨f,G,lv,I,rfl,HP,HO,L⟩:=hrel;have e3:=HP.o.len;have e4:=HP.o.pos;by_cases b8:gk=1
    .have k9:¬((f.length:Int)<(v:Int)):=A7;have h7:Hid (mH (bK (Kk Kq) (Qq b)) x v x f):=by have h:=HP.o;rw[b8] at h;exact h.done
     clear b8 e3 e4;obtain⟨a9,c9,R,S⟩:=dV HO.o;simp only[Qm,true_and] at R;rw[<-R.1] at S;have H9:=Kz S;have h8:Hid (f.length<=I):=by
      rcases HO.o.2 with⟨e,h⟩|⟨_,_,_,e,_,_,h,_⟩
      .simp only[Qm] at e;show f.length<=I;omega
      .simp only[Qm] at e;show f.length<=I;omega
     clear R S;go_wp2
     go_roundw
     case rel=>exact⟨i+1,lv,I,f,A7,C8,rfl,h8.o,H9,Kz (by rw[e2.o];exact jY.take HR.o b6.o h7.o h1.o),F.trans L⟩
     case measure=>simp[intOf];omega
    obtain⟨q,hq⟩:∃q,gk=q+1:=⟨gk-1,A7⟩;have e5:1<=q:=A7;have b9:Hid (pE (bK (Kk Kq) (Qq b)) x v f G (q+1)):=by have h:=HP.o;rw[hq] at h;exact h
    have HQ:=Kz hq;have l1:(f.length:Int)<(v:Int):=A7;obtain⟨t,hm⟩:∃t,f.length=t+1:=⟨f.length-1,by have h:=HP.o.last;obtain⟨l0,e⟩:=h;rw[e];simp⟩;have h9:(f.length:Int)-1= (t:Int):=A7;have i0:IntKind.i64.wrap (t:Int)= (t:Int):=I8;have i1:(t:Int)<(f.length:Int):=A7;have c3:f.getD t ByteArray.empty=G:=by
     obtain⟨l0,e⟩:=HP.o.last;have c4:t=l0.length:=by rw[e,Qi] at hm;simp at hm;omega
     rw[e,c4];simp[List.getD]
    obtain⟨a9,c9,R,S⟩:=dV HO.o;simp only[Qm,true_and] at R;rw[<-R.1] at S;obtain⟨lb,lo,e1,e6,c5⟩:=S t A7;rw[c3] at c5;subst e1;have⟨l2,HM⟩:=aJ c3 hm;clear R S hq c3 hm b8 e3 e4;have c6:Hid (∀u,K_ wr u->(u.cell? ⟨w.heap.size,0,none⟩=some (.slice a Kq.length cap)/\u.cell? ⟨w.heap.size+1,0,none⟩=some (.slice B C rc)/\u.cell? ⟨w.heap.size+1,1,none⟩=some (.slice (some ⟨Y,Z,none⟩) b.length dc)/\u.cell? ⟨lb,lo+t,none⟩=some (.string G))):=λu K=>⟨(V.o u (F.trans (L.trans K))).1,(V.o u (F.trans (L.trans K))).2.1,(V.o u (F.trans (L.trans K))).2.2.1,(K.cell e6).trans c5⟩
    go_upto_region 11 with fail
    refine bG 9 c6.o λwd M c=>?_
    refine ax 0 c ?_;refine ax 4 c ?_;refine aD 8 λK r=>?_;go_simp
    go_at_call 35
    refine (vT wd a cap Kq B C rc (some ⟨Y,Z,none⟩) dc b G d4 d5 b3 a5.o (hN.kept (P.o.trans (F.trans (L.trans M)))) (hS.kept (P.o.trans (F.trans (L.trans M))))).mono ?_;rintro e w4 ⟨⟨nb,no,nc,N,rfl,l3,e7,c7⟩,k4⟩;have K4:=M.trans k4;dsimp only;refine af r (λ_=>c6.o _ K4) ?_;clear r K c;refine au 9 λK r=>?_;go_simp
    refine af r (λh=>QK rfl h) ?_;clear r K;refine aF ?_;have⟨a8,i2⟩:=aJ c7 e7;have i3:=Kz (ay HO.o K4);have i4:=Kz (HF.o.kept (L.trans K4));have b1:=L.trans K4;have l4:=c7.len b3 a5.o.env;clear c7 e7 c6 h9 i0 i1 c5 k4 e6;go_wp2
    go_loopw [10,12] (λb7 c8 wr=>∃k:Nat,k<=N.length/\c8=.b (k:Int)/\b7=.slice (some ⟨lb,lo,none⟩) f.length I/\Hid (∀y∈N.take k,¬(bK (Kk Kq) (Qq b) G y/\aQ x y/\eT (bK (Kk Kq) (Qq b)) x q y))/\K_ w4 wr) λ_ c8 _=>N.length-(intOf c8).toNat
    case atStart=>exact⟨0,Py _,rfl,rfl,Kz (λy l=>by simp at l),K_.refl _⟩
    case round=>
     obtain⟨k,hk,rfl,rfl,b2,J⟩:=hrel;by_cases a2:k<N.length;rotate_left
     .exfalso
      obtain⟨y,z,n,h3⟩:=b9.o.more e5;have l:y∈N:=(a8.o.2 y).2 z;refine b2.o y ?_ ⟨z,n,h3⟩;rw[Qd A7];exact l
     obtain⟨l5,l6,e1,i5,d0⟩:=(i2.o.kept J) k a2;cases e1;obtain⟨s,hs⟩:=aj (N.getD k ByteArray.empty);rw[<-hs] at d0;have d1:N[k]=s:=by rw[hs];simp[List.getD,a2]
     have a1:=Kz d1;have e8:Hid (bK (Kk Kq) (Qq b) G s):=(a8.o.2 s).1 (by rw[<-d1];exact PL a2);clear hs d1;have l7:(k:Int)<(N.length:Int):=A7;have a3:Hid (∀u,K_ wr u->(u.cell? ⟨nb,no+k,none⟩=some (.string s)/\u.cell? ⟨w.heap.size+1,0,none⟩=some (.slice B C rc)/\u.cell? ⟨w.heap.size+1,1,none⟩=some (.slice (some ⟨Y,Z,none⟩) b.length dc)/\Hid (gN u fb b.length a0))):=λu K=>⟨(K.cell i5).trans d0,(V.o u (F.trans (b1.trans (J.trans K)))).2.1,(V.o u (F.trans (b1.trans (J.trans K)))).2.2.1,Kz (i4.o.kept (J.trans K))⟩
     go_upto_region 15 with fail
     clear d0;by_cases T:aQ x s;rotate_left
     .have i6:=Kz T;have i7:Op.bytesLess s.toList x.toList=true\/(Op.bytesLess s.toList x.toList=false/\(s.toList == x.toList)=true):=by
       rcases dA s x with h|h|h
       .exact .inl h
       .right
        rw[h];exact⟨by cases n:Op.bytesLess x.toList x.toList;rfl;exact QK (show aQ x x from n) (aZ x),A9⟩
       .exact QK h T
      clear T;rcases i7 with e9|⟨e9,i8⟩
      all_goals
       refine bG 21 a3.o λwd M c=>?_
       refine ax 0 c ?_;refine ae 4 c ?_;refine ae 5 c ?_;refine ae 6 c ?_;refine aC 7 c ?_;refine aC 8 c ?_;refine aC 9 c ?_;refine aC 10 c ?_;refine aC 11 c ?_;refine aC 12 c ?_;refine aC 13 c ?_;refine aC 14 c ?_;refine aC 15 c ?_;refine aC 16 c ?_;refine aC 17 c ?_;refine aC 18 c ?_;refine aC 19 c ?_;refine aC 20 c ?_;refine au 21 λK r=>?_;go_simp
       refine af r (λh=>QK rfl h) ?_;clear r K;refine aF ?_;go_wp2
       go_roundw
       case rel=>exact⟨k+1,A7,C8,rfl,Kz (λy l=>by
        rw[PH a2,a1.o] at l;rcases PK.1 l with l|l
        .exact b2.o y l
        .rw[PI] at l;rw[l];exact λh=>i6.o h.2.1),J.trans M⟩
       case measure=>simp[intOf];omega
     have f0:Hid (aQ x s):=T;have e9:Op.bytesLess s.toList x.toList=false:=by
      cases h:Op.bytesLess s.toList x.toList
      .rfl
      .exact QK (show aQ s x from h) (fC T)
     have i8:(s.toList == x.toList)=false:=by
      cases h:(s.toList == x.toList)
      .rfl
      .exact QK T (by rw[iV h];exact aZ _)
     clear T;have l8:(v:Int)-(f.length:Int)= (q:Int):=by have:=b9.o.len;omega
     have l9:IntKind.i64.wrap (q:Int)= (q:Int):=I8;refine bG 21 a3.o λwd M c=>?_
     refine ax 0 c ?_;refine ax 4 c ?_;refine ax 8 c ?_;refine ae 12 c ?_;refine ax 16 c ?_;refine aD 13 λK r=>?_;go_simp
     go_at_call 36
     refine (oG wd B C rc (some ⟨Y,Z,none⟩) dc b s d5 (hS.kept (P.o.trans (F.trans (b1.trans (J.trans M)))))).mono ?_;rintro e U ⟨⟨q5,rfl,f1⟩,k5⟩;have K5:=M.trans k5;obtain⟨A,d2,rfl,i9,f2⟩:∃A:Nat,A<b.length/\q5= (A:Int)/\Qq b s=some (b.getD A Q_.zero)/\(b.getD A Q_.zero).name=s:=by
      rcases f1 with⟨A,z,n,h3,h4⟩|⟨_,z⟩
      .exact⟨A,z,n,h3,h4⟩
      .obtain⟨_,_,_,_,_,_,_,y,l,_⟩:=e8.o;rw[z] at l;cases l
     clear f1;have m0:(A:Int)<(b.length:Int):=A7;have m1:(0:Int)<=(A:Int):=A7;obtain⟨p,hp⟩:=aj (a0 A);have f3:Hid (p=q↔eT (bK (Kk Kq) (Qq b)) x q s):=by
      show p=q↔_;have h:=HV.o A d2;have c4:runN b A=s:=f2;rw[c4] at h;have n:=eO.whole (names:=b.map (·.name)) lJ (by rw[QD];exact h) (fC f0.o);rw[<-hp] at n;exact⟨λe=>by have h3:=n.1 A7;rw[e] at h3;exact h3,λhf=>n.2 q hf⟩
     have f4:=Kz hp;clear hp i9 f2;dsimp only;refine af r (λ_=>a3.o _ K5) ?_;clear r K;clear c;have c:=a3.o _ K5;by_cases a4:p=q
     .have j0:((p:Int) == (q:Int))=true:=by simp[a4]
      have j1:Hid (m_ (λy=>bK (Kk Kq) (Qq b) G y/\aQ x y/\eT (bK (Kk Kq) (Qq b)) x q y) s):=by
       have h:=DX (p:=λy=>bK (Kk Kq) (Qq b) G y/\aQ x y/\eT (bK (Kk Kq) (Qq b)) x q y) a8.o.1 (λy l=>(a8.o.2 y).2 l.1) a2 (by rw[a1.o];exact⟨e8.o,f0.o,f3.o.1 a4⟩) b2.o;rw[a1.o] at h;exact h
      clear a4;refine ae 14 c ?_;refine bZ 15 ?_ c ?_ ?_;rotate_left
      .intro u H;try dsimp only at H
       have f9:=World.rowIs.cell H.2.2.2.out d2;try dsimp only at f9
       rw[<-f4.o] at f9;go_simp
       try with_reducible rfl
      try simp only[upP]
      refine ae 20 c ?_;refine au 21 λK r=>?_;go_simp
      refine af r (λh=>QK rfl h) ?_;clear r K;refine aF ?_;have m2:=(a3.o _ K5).1;clear a3 c;have k1:K_ U (U.alloc (.cells #[.string s] 9)):=ai _ _;have f5:=Kz (ay i3.o (J.trans (K5.trans k1)));have KK:=Kz (b1.trans (J.trans (K5.trans k1)));have j2:E.heap.size<=(U.alloc (.cells #[.string s] 9)).heap.size:=KK.out.size;have j3:Hid (∀j u,([.string s]:List QY)[j]? =some u->(U.alloc (.cells #[.string s] 9)).cell? ((⟨U.heap.size,0,none⟩:Addr).add j)=some u):=λj u H=>by rw[Qo];exact X_ U #[.string s] 9 j u H
      have j4:Hid (∀u∈([.string s]:List QY),u.oneCell'=true):=λu H=>by simp only[Qr,Qs,or_false] at H;subst H;rfl
      clear k1;go_wp2_with (at_builtin;refine wpList_append_own _ rfl (.tmp 91) (.tmp 96) 26 rfl E.heap.size 9 ic _ 1 16 underlying26 g0 g1 g2 g3 rfl A8 (.slice (some ⟨lb,lo,none⟩) f.length I) f.length (f.map Value.string) rfl f5.o ⟨U.heap.size,0,none⟩ 1 1 [.string s] rfl rfl j3.o j4.o D6 A7 j2 ?_;intro v' w6 d3 f6 _;have KP:=aL KK.out (Pw _) f5.o f6;have j5:=Kz d3;obtain⟨j6,j7,rfl⟩:=aG d3;clear d3 f6)
      go_roundg q
      case measure=>have:=HQ.o;omega
      case rel=>exact⟨f++[s],s,j6,j7,by rw[Qi];rfl,Kz (b9.o.next e5 j1.o),Kz (by rw[QM,Qi];exact j5.o),KP⟩
     .have j0:((p:Int) == (q:Int))=false:=D7;have j8:Hid (¬eT (bK (Kk Kq) (Qq b)) x q s):=λh=>a4 (f3.o.2 h)
      clear a4;refine ae 14 c ?_;refine bZ 15 ?_ c ?_ ?_;rotate_left
      .intro u H;try dsimp only at H
       have f9:=World.rowIs.cell H.2.2.2.out d2;try dsimp only at f9
       rw[<-f4.o] at f9;go_simp
       try with_reducible rfl
      try simp only[upP]
      refine ae 20 c ?_;refine au 21 λK r=>?_;go_simp
      refine af r (λh=>QK rfl h) ?_;clear r K;refine aF ?_;go_wp2
      go_roundw
      case rel=>exact⟨k+1,A7,C8,rfl,Kz (λy l=>by
       rw[PH a2,a1.o] at l;rcases PK.1 l with l|l
       .exact b2.o y l
       .rw[PI] at l;rw[l];exact λh=>j8.o h.2.2),J.trans K5⟩
      case measure=>simp[intOf];omega
