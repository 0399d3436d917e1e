import Derived.Test.YtjbipapbckajnaaGreatDoorKBApp
import Derived.Test.YtjbipapbckajnaaGreatDoorKBPickNo
set_option maxRecDepth 100000
set_option maxHeartbeats 25600000
namespace Go.Proofs.YtjbipapbckajnaaGreatDoor
open Go.RowKit Go.Proofs.Tryz
variable {n : Nat} {w : Pv}
theorem xw{base base':Nat}{e:TypeId}{size:Nat}{v:Pw}{a:List Pw}(h:w.ownsRow base e size v n a)(b:base'<=base):w.ownsRow base' e size v n a:=by
 refine⟨h.1, ?_⟩;rcases h.2 with c|⟨g,d,f,i,j,k⟩
 .exact .inl c
 .exact .inr ⟨g,d,f,i,NT b j,k⟩
def JR(w w':Pv)(v v':Pw)(l r:List Ps):Prop:=∀B,B<=w.heap.size->w.ownsRow B 9 1 v l.length (l.map Value.string)->w'.ownsRow B 9 1 v' r.length (r.map Value.string)
theorem Gz(w:Pv)(b o j:Nat)(l:List Ps)(x:Ps)(hl:l.length<=100000)(e5:l.length<=j)(ha:nD l)(R:Strs w (some ⟨b,o,none⟩) l):
  Calls prog 134 #[.slice (some ⟨b,o,none⟩) l.length j,.string x] w λe w'=>∃q s c' r,e= .returned (.slice (some ⟨q,s,none⟩) r.length c')/\r.length<=c'/\Kt l x r/\Strs w' (some ⟨q,s,none⟩) r/\JR w w' (.slice (some ⟨b,o,none⟩) l.length j) (.slice (some ⟨q,s,none⟩) r.length c') l r/\K_ w w':=by
 have HA:=Kz ha;clear ha;go_enter func134,ntmps134
 go_wp2
 go_loop [5] (λp=>∃k:Nat,k<=l.length/\p= .a k/\Hid (∀y∈l.take k,aR y x)) (λp=>l.length-(intOf p).toNat)
 case atStart=>exact⟨0,NS _,rfl,Kz λy T=>by cases T⟩
 case round=>
  obtain⟨k,hk,rfl,U⟩:=hrel;by_cases S:k<l.length
  .obtain⟨f5,o1,V,hb,hc⟩:=R k S;cases V;obtain⟨y,T⟩:=ai (l.getD k ByteArray.empty);rw[<-T] at hc;have d9:l[k]=y:=by rw[T];simp[List.getD,S]
   have HY:=Kz d9;clear T d9;have f6:(k:Int)<(l.length:Int):=A7;cases e0:(Op.bytesLess y.toList x.toList)
   .have b0:=Kz e0;cases e1:(y.toList == x.toList)
    .have b1:=Kz e1;have X:Hid (∀z∈l.drop k,aR x z):=λz i=>by
      have e3:aR x y:=by
       rcases dJ x y with g|g|g
       .exact g
       .exact Pg g.symm (pO b1.o)
       .unfold aR at g;rw[b0.o] at g;cases g
      rw[Pb S,HY.o] at i;rcases OL.1 i with rfl|i
      .exact e3
      .obtain⟨e6,hj,rfl⟩:=Oc i;rw[List.getElem_drop];have h2:=Ob.1 HA.o k (k+1+e6) S (by simp at hj;omega) A7;rw[HY.o] at h2;exact fe e3 h2
     have b2:Hid (x∉l):=λh=>by
      rw[<-OW k l] at h;rcases N_.1 h with h|h
      .exact aQ x (U.o x h)
      .exact aQ x (X.o x h)
     obtain⟨a,c,m,b3⟩:∃a c,l=a++c/\k=a.length:=⟨l.take k,l.drop k,(OW k l).symm,D6⟩;subst b3;have b4:Hid (Kt l x (a++x :: c)):=by
      have V:l.take a.length=a:=by rw[m];simp
      have e2:l.drop a.length=c:=by rw[m];simp
      refine .inr ⟨b2.o,a.length,hk,by rw[V,e2],U.o,X.o⟩
     have b5:l.length=a.length+c.length:=by rw[m,OD]
     have b6:Hid (∀W,K_ w W->Strs W (some ⟨b,o,none⟩) a):=λW K p Y=>by
      obtain⟨q,s,A,B,C⟩:=(R.kept K) p A7;refine⟨q,s,A,B, ?_⟩;rw[C,m];simp[List.getD,OU Y]
     have Z:Hid (∀W,K_ w W->Strs W (if j=a.length then (some ⟨b,o,none⟩:Pt) else some ⟨b,o+a.length,none⟩) c):=λW K p Y=>by
      obtain⟨q,s,A,B,C⟩:=(R.kept K) (a.length+p) A7;cases A;rw[Pf A7];refine⟨b,o+a.length,rfl,B, ?_⟩;rw[Nat.add_assoc,C,m];simp[List.getD,OV]
     have a0:l.length-a.length=c.length:=A7;have e7:a.length<=j:=A7;have e8:a.length<=l.length:=A7;have e9:a.length<=100000:=A7;have f0:c.length<=100000:=A7;have b7:=Kz a0;obtain⟨D,E,F,G,H⟩:=aY Tryz.eP;have a1:Hid ((w.alloc (.cells #[] 9)).ownsRow w.heap.size 9 1 (.b w.heap.size 0 0) 0 (([]:List Ps).map Value.string)):=Ov w #[] 0 (NQ _) (NS _) rfl;have b8:w.heap.size<=(w.alloc (.cells #[] 9)).heap.size:=A9;have a2:Hid (K_ w (w.alloc (.cells #[] 9))):=ah _ _;clear m b5 a0;go_upto_region 7 with (at_builtin;refine fD rfl (.tmp 34) (.tmp 37) 26 rfl w.heap.size 9 D _ 16 underlying26 E F G H rfl (.b w.heap.size 0 0) 0 (([]:List Ps).map Value.string) rfl a1.o (some ⟨b,o,none⟩) j a rfl (b6.o _ a2.o) D5 A7 b8 ?_;intro v1 t v a3 b9;rw[Ow] at v;have c0:=Kz v;have c1:=aL a2.o (NQ _) a1.o a3;obtain⟨c2,c3,rfl⟩:=ay v;clear v a3 b9)
     refine Qx.region C9 (λ_=>True) 8 trivial (λn=>?_);have KD:K_ t t.drew:=bD t;generalize c4:t.drew=f at KD⊢;clear c4;refine ae 0 n ?_;refine ae 1 n ?_;refine ae 4 n ?_;refine ae 5 n ?_;refine ae 6 n ?_;generalize hgd:(if j=a.length then (some ⟨b,o,none⟩:Pt) else some ⟨b,o+a.length,none⟩)=c5 at Z⊢;clear hgd;refine aj 2 (λK d=>?_);go_simp
     have K5:K_ f (f.alloc (.cells #[.string x] 9)):=ah _ _;have I:Hid (Strs (f.alloc (.cells #[.string x] 9)) (some ⟨f.heap.size,0,none⟩) [x]):=λc6 hq=>by
      obtain rfl:c6=0:=by simpa using hq
      exact⟨f.heap.size,0,rfl,A9,Xz f #[.string x] 9 0 _ rfl⟩
     refine d.out _ _ (λ_=>trivial) ?_;clear d K n;have J:=KD.trans K5;have L:=Kz (ak c0.o J);obtain⟨eb,a4⟩:=ai f.heap.size;rw[<-a4] at I⊢;generalize c7:f.alloc (.cells #[.string x] 9)=w5 at I J L⊢;clear c7 K5 a4;have a5:=c1.trans J;have c8:=a5.size;try simp only[upP]
     refine aF 3 (λK d=>?_);refine dY (.tmp 39) (.tmp 41) 26 rfl w.heap.size 9 D _ 16 underlying26 E F G H rfl (.slice c2 a.length c3) a.length (([]:List Ps).map Value.string++a.map Value.string) rfl L.o (some ⟨eb,0,none⟩) 1 [x] rfl I.o H5 D6 c8 ?_;intro v6 w6 M a6 c9;have a7:=Kz M;have N:=aL a5 (NQ _) L.o a6;obtain⟨d0,d1,rfl⟩:=ay M;have d2:=N.size;refine af d (λ_=>trivial) ?_;clear d K M a6 c9;refine aF 7 (λK d=>?_);refine dY (.tmp 42) (.tmp 45) 26 rfl w.heap.size 9 D _ 16 underlying26 E F G H rfl (.slice d0 (a.length+ [x].length) d1) (a.length+ [x].length) ((([]:List Ps).map Value.string++a.map Value.string)++ [x].map Value.string) rfl a7.o c5 (j-a.length) c (by rw[<-b7.o];rfl) (Z.o _ N) H5 D6 d2 ?_;intro v7 w7 a8 a9 d3;have d4:=Kz a8;have d5:=aL N (NQ _) a7.o a9;refine af d (λ_=>trivial) ?_;clear d K a8 a9 d3;refine aj 8 (λK d=>?_);go_simp
     refine af d (λh=>Pg rfl h) ?_;clear d K;refine aG ?_;go_wp2
     go_ret
     have d6:(a++x :: c).length=a.length+ [x].length+c.length:=D6;have O:w7.ownsRow w.heap.size 9 1 v7 (a++x :: c).length ((a++x :: c).map Value.string):=by
      have h:=d4.o;rw[d6];have e:(a++x :: c).map Value.string= ((([]:List Ps).map Value.string++a.map Value.string)++ [x].map Value.string)++c.map Value.string:=A9;rw[e];exact h
     rcases O.2 with⟨_,h0⟩|⟨g,d7,f1,P,_,_,d8,_,_,_⟩
     .simp at h0
     .obtain⟨f2,f3,Q,h9⟩:=bv O;rw[P] at Q;simp only[OG,true_and] at Q;rw[<-Q.1] at h9;exact⟨g,0,d7,_,by rw[P];rfl,d8,b4.o,h9,λf4 hB _=>by rw[<-P];exact xw O hB,d5⟩
    .have b1:=Kz (gT e1);go_wp2
     go_ret
     exact⟨b,o,j,l,rfl,e5,.inl ⟨by rw[<-b1.o,<-HY.o];exact Oa S,rfl⟩,R,λ_ _ h=>h,K_.refl _⟩
   .have b0:=Kz e0;go_wp2
    go_round
    case rel=>
     refine⟨k+1,A7,C8,Kz λz i=>?_⟩;rw[NY S] at i;rcases N_.1 i with i | i
     .exact U.o z i
     .rw[NZ,HY.o] at i;rw[i];exact b0.o
    case measure=>simp[intOf];omega
  .have e4:k=l.length:=A7;have X:Hid (∀z∈l.drop k,aR x z):=λz i=>by rw[e4,List.drop_length] at i;cases i
   have b2:Hid (x∉l):=λh=>by
    rw[<-OW k l] at h;rcases N_.1 h with h|h
    .exact aQ x (U.o x h)
    .exact aQ x (X.o x h)
   obtain⟨a,c,m,b3⟩:∃a c,l=a++c/\k=a.length:=⟨l.take k,l.drop k,(OW k l).symm,D6⟩;subst b3;have b4:Hid (Kt l x (a++x :: c)):=by
    have V:l.take a.length=a:=by rw[m];simp
    have e2:l.drop a.length=c:=by rw[m];simp
    refine .inr ⟨b2.o,a.length,hk,by rw[V,e2],U.o,X.o⟩
   have b5:l.length=a.length+c.length:=by rw[m,OD]
   have b6:Hid (∀W,K_ w W->Strs W (some ⟨b,o,none⟩) a):=λW K p Y=>by
    obtain⟨q,s,A,B,C⟩:=(R.kept K) p A7;refine⟨q,s,A,B, ?_⟩;rw[C,m];simp[List.getD,OU Y]
   have Z:Hid (∀W,K_ w W->Strs W (if j=a.length then (some ⟨b,o,none⟩:Pt) else some ⟨b,o+a.length,none⟩) c):=λW K p Y=>by
    obtain⟨q,s,A,B,C⟩:=(R.kept K) (a.length+p) A7;cases A;rw[Pf A7];refine⟨b,o+a.length,rfl,B, ?_⟩;rw[Nat.add_assoc,C,m];simp[List.getD,OV]
   have a0:l.length-a.length=c.length:=A7;have e7:a.length<=j:=A7;have e8:a.length<=l.length:=A7;have e9:a.length<=100000:=A7;have f0:c.length<=100000:=A7;have b7:=Kz a0;obtain⟨D,E,F,G,H⟩:=aY Tryz.eP;have a1:Hid ((w.alloc (.cells #[] 9)).ownsRow w.heap.size 9 1 (.b w.heap.size 0 0) 0 (([]:List Ps).map Value.string)):=Ov w #[] 0 (NQ _) (NS _) rfl;have b8:w.heap.size<=(w.alloc (.cells #[] 9)).heap.size:=A9;have a2:Hid (K_ w (w.alloc (.cells #[] 9))):=ah _ _;clear m b5 a0 e4;go_upto_region 7 with (at_builtin;refine fD rfl (.tmp 34) (.tmp 37) 26 rfl w.heap.size 9 D _ 16 underlying26 E F G H rfl (.b w.heap.size 0 0) 0 (([]:List Ps).map Value.string) rfl a1.o (some ⟨b,o,none⟩) j a rfl (b6.o _ a2.o) D5 A7 b8 ?_;intro v1 t v a3 b9;rw[Ow] at v;have c0:=Kz v;have c1:=aL a2.o (NQ _) a1.o a3;obtain⟨c2,c3,rfl⟩:=ay v;clear v a3 b9)
   refine Qx.region C9 (λ_=>True) 8 trivial (λn=>?_);have KD:K_ t t.drew:=bD t;generalize c4:t.drew=f at KD⊢;clear c4;refine ae 0 n ?_;refine ae 1 n ?_;refine ae 4 n ?_;refine ae 5 n ?_;refine ae 6 n ?_;generalize hgd:(if j=a.length then (some ⟨b,o,none⟩:Pt) else some ⟨b,o+a.length,none⟩)=c5 at Z⊢;clear hgd;refine aj 2 (λK d=>?_);go_simp
   have K5:K_ f (f.alloc (.cells #[.string x] 9)):=ah _ _;have I:Hid (Strs (f.alloc (.cells #[.string x] 9)) (some ⟨f.heap.size,0,none⟩) [x]):=λc6 hq=>by
    obtain rfl:c6=0:=by simpa using hq
    exact⟨f.heap.size,0,rfl,A9,Xz f #[.string x] 9 0 _ rfl⟩
   refine d.out _ _ (λ_=>trivial) ?_;clear d K n;have J:=KD.trans K5;have L:=Kz (ak c0.o J);obtain⟨eb,a4⟩:=ai f.heap.size;rw[<-a4] at I⊢;generalize c7:f.alloc (.cells #[.string x] 9)=w5 at I J L⊢;clear c7 K5 a4;have a5:=c1.trans J;have c8:=a5.size;try simp only[upP]
   refine aF 3 (λK d=>?_);refine dY (.tmp 39) (.tmp 41) 26 rfl w.heap.size 9 D _ 16 underlying26 E F G H rfl (.slice c2 a.length c3) a.length (([]:List Ps).map Value.string++a.map Value.string) rfl L.o (some ⟨eb,0,none⟩) 1 [x] rfl I.o H5 D6 c8 ?_;intro v6 w6 M a6 c9;have a7:=Kz M;have N:=aL a5 (NQ _) L.o a6;obtain⟨d0,d1,rfl⟩:=ay M;have d2:=N.size;refine af d (λ_=>trivial) ?_;clear d K M a6 c9;refine aF 7 (λK d=>?_);refine dY (.tmp 42) (.tmp 45) 26 rfl w.heap.size 9 D _ 16 underlying26 E F G H rfl (.slice d0 (a.length+ [x].length) d1) (a.length+ [x].length) ((([]:List Ps).map Value.string++a.map Value.string)++ [x].map Value.string) rfl a7.o c5 (j-a.length) c (by rw[<-b7.o];rfl) (Z.o _ N) H5 D6 d2 ?_;intro v7 w7 a8 a9 d3;have d4:=Kz a8;have d5:=aL N (NQ _) a7.o a9;refine af d (λ_=>trivial) ?_;clear d K a8 a9 d3;refine aj 8 (λK d=>?_);go_simp
   refine af d (λh=>Pg rfl h) ?_;clear d K;refine aG ?_;go_wp2
   go_ret
   have d6:(a++x :: c).length=a.length+ [x].length+c.length:=D6;have O:w7.ownsRow w.heap.size 9 1 v7 (a++x :: c).length ((a++x :: c).map Value.string):=by
    have h:=d4.o;rw[d6];have e:(a++x :: c).map Value.string= ((([]:List Ps).map Value.string++a.map Value.string)++ [x].map Value.string)++c.map Value.string:=A9;rw[e];exact h
   rcases O.2 with⟨_,h0⟩|⟨g,d7,f1,P,_,_,d8,_,_,_⟩
   .simp at h0
   .obtain⟨f2,f3,Q,h9⟩:=bv O;rw[P] at Q;simp only[OG,true_and] at Q;rw[<-Q.1] at h9;exact⟨g,0,d7,_,by rw[P];rfl,d8,b4.o,h9,λf4 hB _=>by rw[<-P];exact xw O hB,d5⟩
theorem oW.nil{W:bR}{σ:Env}{n:Ps}(h:∀s,¬bg W σ n s):oW W σ n []:=⟨List.Pairwise.nil,λs=>⟨λe=>(by cases e),λe=>(h s e).elim⟩⟩
def Jg(Kj:List Qq)(sl:List Qz)(name:Ps)(w w':Pv)(e:Ending):Prop:=
 ∃(b o c:Nat) (ns:List Ps),e= .returned (.slice (some ⟨b,o,none⟩) ns.length c)/\ns.length<=c/\Strs w' (some ⟨b,o,none⟩) ns/\oW (Q_ Kj) (Qj sl) name ns/\w'.ownsRow w.heap.size 9 1 (.slice (some ⟨b,o,none⟩) ns.length c) ns.length (ns.map Value.string)
def Hy(Kj:List Qq)(sl:List Qz)(name:Ps)(w':Pv)(e:Ending):Prop:=
 ∃(b o c:Nat) (ns:List Ps),e= .returned (.slice (some ⟨b,o,none⟩) ns.length c)/\ns.length<=c/\Strs w' (some ⟨b,o,none⟩) ns/\oW (Q_ Kj) (Qj sl) name ns
theorem CE(w:Pv)(a:Pt)(A:Nat)(m:List Qq)(B:Pt)(C D:Nat)(d:Pt)(v:Nat)(j:List Qz)(Z:Ps)(f5:m.length<=1048576)(d3:j.length<=1048576)(f6:aX (Q_ m))(hg:dR m j)(hN:bN w a m)(hS:fw w d j):
  Calls prog 88 #[.agg #[.slice a m.length A],.agg #[.slice B C D,.slice d j.length v],.string Z] w λe w'=>Jg m j Z w w' e/\K_ w w':=by
 obtain⟨l,L⟩:=ai ((w.alloc (.cells #[.slice a m.length A] 25)).alloc (.cells #[.slice B C D,.slice d j.length v] 32));have kB:K_ w l:=by rw[L];exact (ah _ _).alloc _
 have f7:l.heap.size=w.heap.size+2:=by rw[L];simp
 have O:l.cell? ⟨w.heap.size,0,none⟩=some (.slice a m.length A):=by rw[L,K_.cell (w:=w.alloc (.cells #[.slice a m.length A] 25)) (ah _ _) A9];exact Xz w _ _ 0 _ rfl
 have P:l.cell? ⟨w.heap.size+1,0,none⟩=some (.slice B C D):=by have:=Xz (w.alloc (.cells #[.slice a m.length A] 25)) #[.slice B C D,.slice d j.length v] 32 0 _ rfl;rw[OC] at this;rw[L];exact this
 have Q:l.cell? ⟨w.heap.size+1,1,none⟩=some (.slice d j.length v):=by have:=Xz (w.alloc (.cells #[.slice a m.length A] 25)) #[.slice B C D,.slice d j.length v] 32 1 _ rfl;rw[OC] at this;rw[L];exact this
 have z0:w.heap.size<l.heap.size:=A7;have z1:w.heap.size+1<l.heap.size:=A7;have G:Hid (∀w',K_ l w'->J4 w' w.heap.size 0 (.slice a m.length A)/\J4 w' (w.heap.size+1) 0 (.slice B C D)/\J4 w' (w.heap.size+1) 1 (.slice d j.length v)/\w.heap.size<w'.heap.size/\w.heap.size+1<w'.heap.size):=λw' K=>⟨(K.cell z0).trans O,(K.cell z1).trans P,(K.cell z1).trans Q,NR z0 K.size,NR z1 K.size⟩
 have kE:K_ l (l.alloc (.cells #[] 9)):=ah _ _;have b3:Hid (∀u,K_ (l.alloc (.cells #[] 9)) u->u.ownsRow w.heap.size 9 1 (.b l.heap.size 0 0) 0 (([]:List Ps).map Value.string)):=λu k=>ak (xw (Ov l #[] 0 (NQ _) (NS _) rfl) kB.size) k
 have⟨x,f8⟩:=aH kB hg;clear kB f7 O P Q hg;go_enter func88,ntmps88
 go_upto_region 1 with fail
 rw[<-L];clear L;go_upto_region 2 with fail
 obtain⟨WE,d4⟩:=ai (l.alloc (.cells #[] 9));rw[<-d4] at kE b3⊢;clear d4;obtain⟨O,P,Q,y0,y1⟩:=G.o _ kE;go_wp2_with fail
 refine (oq WE B C D d v j Z d3 (hS.kept (x.o.trans kE))).mono ?_;rintro e w1 ⟨⟨i4,rfl,hp⟩,k1⟩;have E:=kE.trans k1;have a6:=Kz (b3.o _ k1);clear O P Q y0 y1 k1 kE b3;obtain⟨O,P,Q,y0,y1⟩:=G.o _ E;rcases hp with⟨k,hk,rfl,R,b5⟩|⟨rfl,R⟩;rotate_left
 .have S:=Kz R;clear R;go_wp2
  go_ret
  exact⟨⟨l.heap.size,0,0,[],rfl,NQ _,(λi M=>by cases M),(oW.nil λs h=>by obtain⟨r,_,T,_⟩:=h;rw[S.o] at T;cases T),a6.o⟩,x.o.trans E⟩
 obtain⟨r,T⟩:=ai (j.getD k Qz.zero);rw[<-T] at R b5;obtain⟨rb,ro,xa,xc,f9,g0,a0,_,_⟩:=(hS.kept (x.o.trans E)) k hk;rw[<-T] at a0;subst f9;have N:=a0 1 _ rfl;have t4:=a0 4 _ rfl;have t5:=a0 5 _ rfl;have i5:(k:Int)<(j.length:Int):=A7;have S:=Kz R;clear R a0 T;by_cases U:r.over=true\/r.Zj=0
 .have b6:=Kz U;have d5:Hid (oW (Q_ m) (Qj j) Z []):=oW.nil λs h=>by
   obtain⟨r',_,F,b,f,_⟩:=h;rw[S.o] at F;cases F;rcases b6.o with y|y
   .rw[b] at y;cases y
   .exact f y
  have a1:r.over=true\/(r.over=false/\r.Zj=0):=by
   rcases U with h|h
   .exact .inl h
   .cases b:r.over
    .exact .inr ⟨rfl,h⟩
    .exact .inl rfl
  clear U;rcases a1 with h|⟨h,f⟩
  .rw[h] at N;go_wp2
   go_ret
   exact⟨⟨l.heap.size,0,0,[],rfl,NQ _,(λi M=>by cases M),d5.o,a6.o⟩,x.o.trans E⟩
  .rw[h] at N;rw[f] at t5;go_wp2
   go_ret
   exact⟨⟨l.heap.size,0,0,[],rfl,NQ _,(λi M=>by cases M),d5.o,a6.o⟩,x.o.trans E⟩
 have ho:r.over=false:=by
  cases b:r.over
  .rfl
  .exact Pg (.inl b) U
 have hv:r.Zj≠0:=λe=>U (.inr e)
 have g1:(r.Zj == 0)=false:=by simpa using hv
 obtain⟨i6,V,d6,a7⟩:=(f8.o.good r (aN S.o).1).act;rw[b5] at V;obtain⟨a2,hj,d7,d8,rfl⟩:=gY V;obtain⟨W,hy⟩:=ai (m.getD a2 Qq.zero);rw[<-hy] at V a7;dsimp only at a7;obtain⟨nb,nq,cs,e2,g2,a1,na,nc,rfl,b7⟩:=hN a2 hj;subst e2;rw[<-hy] at a1 b7;obtain⟨H,b8⟩:∃H:Nat,r.at'= (H:Int):=⟨r.at'.toNat,A7⟩;have g3:H<W.steps.length:=A7;obtain⟨tb,tq,i7,e3,g4,b9,aa,ca,ac,cc,rfl,c0,_,_⟩:=b7 H g3;subst e3;obtain⟨s,hs⟩:=ai (W.steps.getD H Xj.zero);rw[<-hs] at b9 c0;have n2:=a1 2 _ rfl;have m0:=b9 0 _ rfl;rw[OJ] at m0;have c1:Hid (stepOf ⟨W.cost,W.steps⟩ r.at'=s):=by show _=_;unfold stepOf;rw[b8,hs];rfl
 have i8:s.asks.length<=5:=by have h:=(ja (f6 _ _ V).1 d6 a7).1;rw[c1.o] at h;exact h
 have⟨g5,g6,c2,g7,b6⟩:=jH d7 d8 V hv ho;have i9:(a2:Int)<(m.length:Int):=A7;have j0:(H:Int)<(W.steps.length:Int):=A7;rw[b8] at t4;rw[ho] at N;have KN:=x.o.trans E;have a8:Hid (∀w',K_ w1 w'->J4 w' w.heap.size 0 (.slice (some ⟨nb,nq,none⟩) m.length A)/\J4 w' (w.heap.size+1) 1 (.slice (some ⟨rb,ro,none⟩) j.length v)/\J4 w' rb (ro+k*7+4) (.a (H:Int))/\J4 w' nb (nq+a2*3+2) (.slice (some ⟨tb,tq,none⟩) W.steps.length nc)/\J4 w' tb (tq+H*8) (.slice aa s.asks.length ca)):=λw' K=>⟨(G.o w' (E.trans K)).1,(G.o w' (E.trans K)).2.2.1,(K.cell g0).trans t4,((KN.trans K).cell g2).trans n2,((KN.trans K).cell g4).trans m0⟩
 have g8:=Kz (hN.kept KN);have g9:=Kz c0;clear U V hy a1 b7 b9 c0 hs b8 d6 a7 hv ho d7 d8 n2 m0 b5;go_upto_region 5 with fail
 clear N t4 t5 g1 O P Q y0 y1;refine bn 18 a8.o λwd KD n=>?_
 refine ax 0 n ?_;refine ax 9 n ?_;refine ae 13 n ?_;refine ae 14 n ?_;refine aF 4 (λK q=>?_);go_simp
 go_at_call 37
 refine (iA wd (some ⟨nb,nq,none⟩) A m Z f5 (g8.o.kept KD)).mono ?_;rintro e w2 ⟨⟨a3,rfl,hq⟩,k2⟩;have K2:=KD.trans k2;obtain rfl:a3= (a2:Int):=by
  rcases hq with⟨k',_,e',_,b,f⟩|⟨_,b⟩
  .rw[e',nP g5.o g6.o b f]
  .rw[c2.o] at b;cases b
 clear hq;dsimp only;refine af q (λ_=>a8.o _ K2) ?_;clear q K;clear n;have n:=a8.o _ K2;refine ax 5 n ?_;refine ae 15 n ?_;refine ae 16 n ?_;refine ae 17 n ?_;refine aj 18 (λK q=>?_);go_simp
 refine af q (λh=>Pg rfl h) ?_;clear q K;refine aG ?_;clear n;have h0:=E.trans K2;have h1:Hid (∀c3,K_ w2 c3->Strs c3 aa s.asks):=λc3 K=>g9.o.kept (KN.trans (K2.trans K))
 have d9:Hid (Strs w2 (some ⟨l.heap.size,0,none⟩) []):=λi M=>by cases M
 go_wp2
 go_loopg [7,10] s.asks.length (λgg x7 h2 wr=>∃(i I o c:Nat) (p:List Ps),h2= .a (i:Int)/\i+gg=s.asks.length/\x7= .slice (some ⟨I,o,none⟩) p.length c/\p.length<=c/\p.length<=i/\Hid (nD p)/\Hid (∀z,z∈p↔z∈s.asks.take i/\ry (Qj j) z)/\Hid (Strs wr (some ⟨I,o,none⟩) p)/\Hid (wr.ownsRow w.heap.size 9 1 (.slice (some ⟨I,o,none⟩) p.length c) p.length (p.map Value.string))/\K_ w2 wr)
 case atStart=>exact⟨0,l.heap.size,0,0,[],rfl,A7,rfl,NQ _,NQ _,Kz List.Pairwise.nil,Kz (λz=>A9),d9,Kz (ak a6.o K2),K_.refl _⟩
 case round=>
  clear d9 a8;obtain⟨i,I,o,c,p,rfl,j1,rfl,a9,j2,a4,b0,e0,e1,Kw⟩:=hrel;have J:=h0.trans Kw;by_cases c5:i<s.asks.length
  .obtain⟨ab,ao,rfl,e4,b1⟩:=(h1.o wr Kw) i c5;obtain⟨a5,hx⟩:=ai (s.asks.getD i ByteArray.empty);rw[<-hx] at b1;have e5:s.asks[i]=a5:=by rw[hx];simp[List.getD,c5]
   have h3:=Kz e5;have j3:(i:Int)<(s.asks.length:Int):=A7;have c6:Hid (∀w',K_ wr w'->J4 w' (w.heap.size+1) 0 (.slice B C D)/\J4 w' (w.heap.size+1) 1 (.slice (some ⟨rb,ro,none⟩) j.length v)/\J4 w' ab (ao+i) (.string a5)):=λw' K=>⟨(G.o w' (J.trans K)).2.1,(G.o w' (J.trans K)).2.2.1,(K.cell e4).trans b1⟩
   obtain⟨_,e6,e7,y0,y1⟩:=G.o wr J;clear hx e5;go_upto_region 9 with fail
   clear e6 e7 b1;refine bn 6 c6.o λwd KD n=>?_
   refine ax 0 n ?_;refine ae 4 n ?_;refine aF 5 (λK q=>?_);go_simp
   go_at_call 29
   refine (oq wd B C D (some ⟨rb,ro,none⟩) v j a5 d3 (hS.kept (x.o.trans (J.trans KD)))).mono ?_;rintro e w3 ⟨⟨a3,rfl,hq⟩,k3⟩;have t:=KD.trans k3;refine af q (λ_=>c6.o _ t) ?_;clear q K n;refine aj 6 (λK q=>?_);go_simp
   refine af q (λh=>Pg rfl h) ?_;clear q K;refine aG ?_;obtain⟨j4,e6,e7,y0,y1⟩:=G.o w3 (J.trans t);have b1:=(c6.o _ t).2.2;have j5:ab<w3.heap.size:=NR e4 t.size;have c7:=Kz (e0.o.kept t);have c8:=Kz (ak e1.o t);have h5:Hid (w.heap.size<=w3.heap.size):=(x.o.trans (J.trans t)).size;have e8:∀z,z∈s.asks.take (i+1)↔z∈s.asks.take i\/z=a5:=λz=>by rw[NY c5,h3.o];simp
   have c9:=Kz e8;clear e8 k3;rcases hq with⟨k',h6,rfl,X,_⟩|⟨rfl,X⟩
   .obtain⟨r',F⟩:=ai (j.getD k' Qz.zero);rw[<-F] at X;obtain⟨j6,j7,j8,j9,h7,k0,d0,_,_⟩:=(hS.kept (x.o.trans (J.trans t))) k' h6;cases h7;rw[<-F] at d0;have N:=d0 1 _ rfl;have k5:(k':Int)<(j.length:Int):=A7;have k6:¬((k':Int)<0):=A7;have b2:=Kz X;clear X d0 F;cases Y:r'.over
    .rw[Y] at N;have d1:=Kz Y;clear Y;go_wp2_with fail
     refine (Gz w3 I o c p a5 A7 a9 a4.o c7.o).mono ?_;rintro e w4 ⟨b4,o4,c4,r4,rfl,h8,d2,e9,f0,k4⟩;have h9:=Kz (f0 _ h5.o c8.o);obtain⟨f1,f2⟩:=d2.asc a4.o;have k7:r4.length<=p.length+1:=by
      rcases d2 with⟨_,rfl⟩|⟨_,a3,hq,rfl,_,_⟩
      .omega
      .simp;omega
     have⟨i0,i1,i2⟩:=fu f1 f2 e9;have K4:=Kw.trans (t.trans k4);clear f1 f2 e9 d2 f0;go_wp2
     go_roundg (gk-1)
     case measure=>omega
     case rel=>exact⟨i+1,b4,o4,c4,r4,C8,A7,rfl,h8,A7,i0,Kz (λz=>by
      rw[i1.o,b0.o,c9.o];constructor
      .rintro (⟨b,f⟩|rfl)
       .exact⟨.inl b,f⟩
       .exact⟨.inr rfl,_,b2.o,d1.o⟩
      .rintro⟨b|rfl,f⟩
       .exact .inl ⟨b,f⟩
       .exact .inr rfl),i2,h9,K4⟩
    .rw[Y] at N;have d1:=Kz Y;clear Y;go_wp2
     go_roundg (gk-1)
     case measure=>omega
     case rel=>exact⟨i+1,I,o,c,p,C8,A7,rfl,a9,A7,a4,Kz (λz=>by
      rw[b0.o,c9.o];constructor
      .rintro⟨b,f⟩;exact⟨.inl b,f⟩
      .rintro⟨b|rfl,f⟩
       .exact⟨b,f⟩
       .obtain⟨a3,y,h4⟩:=f;rw[b2.o] at y;cases y;rw[d1.o] at h4;cases h4),c7,c8,Kw.trans t⟩
   .have b2:=Kz X;clear X;go_wp2
    go_roundg (gk-1)
    case measure=>omega
    case rel=>exact⟨i+1,I,o,c,p,C8,A7,rfl,a9,A7,a4,Kz (λz=>by
     rw[b0.o,c9.o];constructor
     .rintro⟨b,f⟩;exact⟨.inl b,f⟩
     .rintro⟨b|rfl,f⟩
      .exact⟨b,f⟩
      .obtain⟨a3,y,h4⟩:=f;rw[b2.o] at y;cases y),c7,c8,Kw.trans t⟩
  .have f3:s.asks.take i=s.asks:=Oy A7;have i3:=Kz f3;clear f3;go_wp2
   go_ret
   refine⟨⟨I,o,c,p,rfl,a9,e0.o,⟨a4.o,λz=>?_⟩,e1.o⟩,x.o.trans J⟩;rw[b0.o,i3.o];constructor
   .rintro⟨b,f⟩;exact⟨r,_,S.o,b6.o,g7.o,c2.o,by rw[c1.o];exact b,f⟩
   .rintro⟨r',A',F,_,_,f4,b,f⟩;rw[S.o] at F;cases F;rw[c2.o] at f4;cases f4;rw[c1.o] at b;exact⟨b,f⟩
theorem u_(w:Pv)(a:Pt)(h:Nat)(b:List Qq)(i:Pt)(j k:Nat)(d:Pt)(l:Nat)(c:List Qz)(f:Ps)(m:b.length<=1048576)(n:c.length<=1048576)(p:aX (Q_ b))(q:dR b c)(r:bN w a b)(s:fw w d c):
  Calls prog 88 #[.agg #[.slice a b.length h],.agg #[.slice i j k,.slice d c.length l],.string f] w λe w'=>Hy b c f w' e/\K_ w w':=
 (CE w a h b i j k d l c f m n p q r s).mono λ_e _w' ⟨⟨t,o,v,x,y,z,A,B,_⟩,C⟩=>⟨⟨t,o,v,x,y,z,A,B⟩,C⟩
theorem Tryz.KZ :(prog.info? 3).map (λi=>(i.zero,i.size,i.bytes))=some (some (.a 0),1,8):=C9
def runN(sl:List Qz)(p:Nat):Ps:=(sl.getD p Qz.zero).name
def gF(w:Pv)(fb n:Nat)(V:Nat->Nat):Prop:=w.rowIs fb 3 n (λi=>.a (V i:Int))
variable {fb : Nat} {V : Nat -> Nat}
theorem gF.kept{w':Pv}(h:gF w fb n V)(k:K_ w w'):gF w' fb n V:=by
 obtain⟨c,a,d⟩:=h;exact⟨c,(k.block fb (aO a)).trans a,d⟩
theorem gF.lt(h:gF w fb n V):fb<w.heap.size:=by obtain⟨c,b,_⟩:=h;exact aO b
theorem gF.put(h:gF w fb n V)(i v:Nat):gF (w.setCell ⟨fb,i,none⟩ (.a (v:Int))) fb n (λp=>if p=i then v else V p):=by
 obtain⟨c,a,b,d⟩:=World.rowIs.set h i (.a (v:Int));refine⟨c,a,b,λp f=>?_⟩;rw[d p f];by_cases e:p=i
 .simp[e]
 .simp[e]
theorem gF.ne(h:gF w fb n V){b o:Nat}{s:Ps}(a:w.cell? ⟨b,o,none⟩=some (.string s)):b≠fb:=by
 rintro rfl;by_cases d:o<n
 .rw[World.rowIs.cell h d] at a;cases a
 .obtain⟨c,e,f,_⟩:=h;simp[World.cell?,e] at a;have:=(OB.1 a).1;omega
theorem gF.strs(h:gF w fb n V){b o:Nat}{l:List Ps}(d:Strs w (some ⟨b,o,none⟩) l)(i:Nat)(v:Pw):Strs (w.setCell ⟨fb,i,none⟩ v) (some ⟨b,o,none⟩) l:=λq f=>by
 obtain⟨k,m,e,j,a⟩:=d q f;cases e;exact⟨b,o,rfl,by rw[size_setCell];exact j,by rw[Zk (h.ne a)];exact a⟩
def ME(Kj:List Qq)(sl:List Qz)(goal:Ps)(w w':Pv)(e:Ending):Prop:=∃fb V,e= .returned (.b fb sl.length sl.length)/\gF w' fb sl.length V/\(∀p,p<sl.length->eB (bg (Q_ Kj) (Qj sl)) goal (sl.length+1) (runN sl p) (V p))/\K_ w w'
theorem Ih(w:Pv)(a:Pt)(Q:Nat)(l:List Qq)(G:Pt)(H I:Nat)(d:Pt)(J:Nat)(c:List Qz)(j:Ps)(f8:l.length<=1048576)(i0:c.length<=1000)(d2:aX (Q_ l))(hg:dR l c)(hN:bN w a l)(hS:fw w d c):
  Calls prog 87 #[.agg #[.slice a l.length Q],.agg #[.slice G H I,.slice d c.length J],.string j] w λe w'=>ME l c j w w' e:=by
 obtain⟨t,W⟩:=ai ((w.alloc (.cells #[.slice a l.length Q] 25)).alloc (.cells #[.slice G H I,.slice d c.length J] 32));have kB:K_ w t:=by rw[W];exact (ah _ _).alloc _
 have g0:t.heap.size=w.heap.size+2:=by rw[W];simp
 have d3:t.cell? ⟨w.heap.size,0,none⟩=some (.slice a l.length Q):=by rw[W,K_.cell (w:=w.alloc (.cells #[.slice a l.length Q] 25)) (ah _ _) A9];exact Xz w _ _ 0 _ rfl
 have s0:t.cell? ⟨w.heap.size+1,0,none⟩=some (.slice G H I):=by have:=Xz (w.alloc (.cells #[.slice a l.length Q] 25)) #[.slice G H I,.slice d c.length J] 32 0 _ rfl;rw[OC] at this;rw[W];exact this
 have s1:t.cell? ⟨w.heap.size+1,1,none⟩=some (.slice d c.length J):=by have:=Xz (w.alloc (.cells #[.slice a l.length Q] 25)) #[.slice G H I,.slice d c.length J] 32 1 _ rfl;rw[OC] at this;rw[W];exact this
 have z0:w.heap.size<t.heap.size:=A7;have z1:w.heap.size+1<t.heap.size:=A7;have S:Hid (∀w',K_ t w'->J4 w' w.heap.size 0 (.slice a l.length Q)/\J4 w' (w.heap.size+1) 0 (.slice G H I)/\J4 w' (w.heap.size+1) 1 (.slice d c.length J)/\w.heap.size<w'.heap.size/\w.heap.size+1<w'.heap.size):=λw' K=>⟨(K.cell z0).trans d3,(K.cell z1).trans s0,(K.cell z1).trans s1,NR z0 K.size,NR z1 K.size⟩
 have d4:c.length<=1048576:=A7;have g1:=run_make_row' (P:=prog) 27 3 _ _ underlying27 Tryz.KZ rfl .i64 .i64 c.length A7 A7;obtain⟨W0,b1⟩:=ai (t.alloc (.cells (madeCells #[.a 0] c.length) 3));have k0:K_ t W0:=by rw[b1];exact ah _ _
 have b5:Hid (gF W0 t.heap.size c.length (λ_=>0)):=by
  rw[b1];exact World.rowIs_made t (.a 0) c.length 3
 have⟨a6,d5⟩:=aH kB hg;clear kB g0 hg;go_enter func87,ntmps87
 go_upto_region 1 with fail
 rw[<-W];clear W;go_wp2
 rw[<-b1];clear b1 g1 d3 s0 s1;obtain⟨R,b6⟩:=ai t.heap.size;rw[<-b6] at b5⊢;have d6:t.heap.size<=R:=Ot b6.symm;have i1:w.heap.size+1<R:=A7;clear b6;go_loopw [8] (λx8 wr=>∃(n:Nat) (V:Nat->Nat),1<=n/\n<=c.length+1/\x8= .a (n:Int)/\Hid (gF wr R c.length V)/\Hid (∀p,p<c.length->eB (bg (Q_ l) (Qj c)) j n (runN c p) (V p))/\K_ t wr) (λx8 _=>c.length+1-(intOf x8).toNat)
 case atStart=>exact⟨1,_,NQ _,A7,rfl,b5,Kz (λp _=>eB.start),k0⟩
 case round=>
  clear b5 k0;obtain⟨n,V,d7,i2,rfl,L,T,z⟩:=hrel;obtain⟨b7,c1,c2,y0,y1⟩:=S.o _ z;by_cases i3:n<=c.length;rotate_left
  .have d8:n=c.length+1:=A7;have g2:=Kz d8;have U:¬((n:Int)<=(c.length:Int)):=A7;clear d8;go_wp2
   go_ret
   refine⟨R,V,rfl,L.o,λp y=>?_,a6.o.trans z⟩;rw[<-g2.o];exact T.o p y
  have i4:(n:Int)<=(c.length:Int):=A7;go_upto_region 6 with fail
  go_loopw [9] (λx9 wr=>∃(i:Nat) (V:Nat->Nat),i<=c.length/\x9= .a (i:Int)/\Hid (gF wr R c.length V)/\Hid (∀p,p<c.length->eB (bg (Q_ l) (Qj c)) j (if p<i then n+1 else n) (runN c p) (V p))/\K_ t wr) (λx9 _=>c.length-(intOf x9).toNat)
  case atStart=>exact⟨0,V,NS _,rfl,L,Kz (λp y=>by rw[Pf (Nat.not_lt_zero _)];exact T.o p y),z⟩
  case round=>
   clear L T b7 c1 c2 y0 y1 z V;obtain⟨i,V,hi,rfl,L,T,z⟩:=hrel;obtain⟨b7,c1,c2,y0,y1⟩:=S.o _ z;by_cases a7:i<c.length;rotate_left
   .have d9:i=c.length:=A7;have g3:=Kz d9;have i5:¬((i:Int)<(c.length:Int)):=A7;clear d9;go_wp2
    go_roundw
    case rel=>exact⟨n+1,V,A7,A7,C8,L,Kz (λp y=>by have h:=T.o p y;rw[Pe (by rw[g3.o];exact y)] at h;exact h),z⟩
    case measure=>simp[intOf];omega
   have i6:(i:Int)<(c.length:Int):=A7;obtain⟨rb,ro,xa,xc,e1,g4,e0,_,_⟩:=(hS.kept (a6.o.trans z)) i a7;subst e1;obtain⟨x,hx⟩:=ai (runN c i);have t0:=e0 0 _ rfl;rw[OJ] at t0;have e2:wr.cell? ⟨rb,ro+i*7,none⟩=some (.string x):=by rw[hx];exact t0
   clear t0 e0;have t0:=e2;clear e2;have f0:=World.rowIs.cell L.o a7;try dsimp only at f0
   have fz:=L.o.lt;have HX:=Kz hx;have a8:Hid (eB (bg (Q_ l) (Qj c)) j n x (V i)):=by have h:=T.o i a7;rw[Pf (Nat.lt_irrefl _),<-hx] at h;exact h
   clear hx;by_cases a3:V i≠0\/aR x j
   .have a4:=Kz a3;have e3:Hid (∀p,p<c.length->eB (bg (Q_ l) (Qj c)) j (if p<i+1 then n+1 else n) (runN c p) (V p)):=λp y=>by
     by_cases e:p=i
     .subst e;rw[Pe A7,<-HX.o];exact a8.o.keep a4.o
     .have h:=T.o p y;by_cases X:p<i
      .rw[Pe X] at h;rw[Pe A7];exact h
      .rw[Pf X] at h;rw[Pf A7];exact h
    have e4:(0:Int)<(V i:Int)\/(¬((0:Int)<(V i:Int))/\Op.bytesLess x.toList j.toList=true):=by
     by_cases g5:V i=0
     .refine .inr ⟨A7, ?_⟩;rcases a3 with h|h
      .exact Pg g5 h
      .exact h
     .exact .inl A7
    obtain⟨v,hv⟩:=ai (V i);rw[<-hv] at f0 e4;clear a3 hv;rcases e4 with y|⟨y,hb⟩
    .go_wp2
     go_roundw
     case rel=>exact⟨i+1,V,A7,C8,L,e3,z⟩
     case measure=>simp[intOf];omega
    .go_wp2
     go_roundw
     case rel=>exact⟨i+1,V,A7,C8,L,e3,z⟩
     case measure=>simp[intOf];omega
   have b8:V i=0:=by
    by_cases h:V i=0
    .exact h
    .exact Pg (.inl h) a3
   have b9:¬aR x j:=λh=>a3 (.inr h)
   have i7:Op.bytesLess x.toList j.toList=false:=by
    cases h:Op.bytesLess x.toList j.toList
    .rfl
    .exact Pg h b9
   rw[b8] at a8 f0;have⟨g6,c0⟩:=aH b8 b9;clear a3 b8 b9;have c3:Hid (∀w',K_ wr w'->J4 w' w.heap.size 0 (.slice a l.length Q)/\J4 w' (w.heap.size+1) 0 (.slice G H I)/\J4 w' (w.heap.size+1) 1 (.slice (some ⟨rb,ro,none⟩) c.length J)/\J4 w' rb (ro+i*7) (.string x)):=λw' K=>⟨(S.o w' (z.trans K)).1,(S.o w' (z.trans K)).2.1,(S.o w' (z.trans K)).2.2.1,(K.cell g4).trans t0⟩
   go_upto_region 9 with fail
   refine bn 9 c3.o λY r b=>?_
   refine ax 0 b ?_;refine ax 4 b ?_;refine aF 8 (λK m=>?_);go_simp
   go_at_call 88
   refine (u_ Y a Q l G H I (some ⟨rb,ro,none⟩) J c x f8 d4 d2 d5.o (hN.kept (a6.o.trans (z.trans r))) (hS.kept (a6.o.trans (z.trans r)))).mono ?_;rintro e w2 ⟨⟨lb,lo,lc,D,rfl,i8,e5,c4⟩,k2⟩;have K2:=r.trans k2;refine af m (λ_=>c3.o _ K2) ?_;clear m K b;refine aj 9 (λK m=>?_);go_simp
   refine af m (λh=>Pg rfl h) ?_;clear m K;refine aG ?_;have⟨e6,e7⟩:=aH c4 e5;have e8:=Kz (L.o.kept K2);have e9:=z.trans K2;have i9:=c4.len d2 d5.o.env;have f1:=Kz (λp y=>T.o p y);clear c4 e5 f0 fz t0 b7 c1 c2 y0 y1 c3 k2;go_wp2
   go_loopw [11] (λc5 wr=>∃(k v:Nat),k<=D.length/\c5= .a (k:Int)/\Hid (gF wr R c.length (λp=>if p=i then v else V p))/\Hid ((v=n/\∃s,Hit (bg (Q_ l) (Qj c)) j n x s)\/(v=0/\∀s∈D.take k,¬Hit (bg (Q_ l) (Qj c)) j n x s))/\Hid (Strs wr (some ⟨lb,lo,none⟩) D)/\K_ t wr) (λc5 _=>D.length-(intOf c5).toNat)
   case atStart=>exact⟨0,0,NS _,rfl,Kz (World.rowIs.congr e8.o (λp y=>by by_cases e:p=i;(subst e;simp[g6.o]);simp[e])),Kz (.inr ⟨rfl,λs hs=>by simp at hs⟩),e7,e9⟩
   case round=>
    clear e8 e7 e9;obtain⟨k,v,hk,rfl,M,a5,Z,E⟩:=hrel;by_cases a0:k<D.length;rotate_left
    .have f2:D.take k=D:=Oy A7;have j0:¬((k:Int)<(D.length:Int)):=A7;have g7:=Kz f2;clear f2;go_wp2
     go_roundw
     case rel=>
      refine⟨i+1,λp=>if p=i then v else V p,A7,C8,M,Kz (λp y=>?_),E⟩;by_cases e:p=i
      .subst e;dsimp only;rw[if_pos A7,if_pos rfl,<-HX.o];rcases a5.o with⟨rfl,A⟩|⟨rfl,A⟩
       .exact eB.hit d7 a8.o c0.o A
       .refine eB.miss d7 a8.o c0.o (λ⟨N,f⟩=>?_);rw[g7.o] at A;exact A N ((e6.o.2 N).2 f.1) f
      .dsimp only;rw[if_neg e];have h:=f1.o p y;by_cases X:p<i
       .rw[Pe X] at h;rw[Pe A7];exact h
       .rw[Pf X] at h;rw[Pf A7];exact h
     case measure=>simp[intOf];omega
    obtain⟨j1,j2,e1,g8,c6⟩:=Z.o k a0;cases e1;obtain⟨s,hs⟩:=ai (D.getD k ByteArray.empty);rw[<-hs] at c6;have c7:D[k]=s:=by rw[hs];simp[List.getD,a0]
    have a4:=Kz c7;have c8:Hid (bg (Q_ l) (Qj c) x s):=(e6.o.2 s).1 (by rw[<-c7];exact Oa a0);clear hs c7;have j3:(k:Int)<(D.length:Int):=A7;obtain⟨_,c1,c2,y0,y1⟩:=S.o _ E;have a1:Hid (∀w',K_ wr w'->J4 w' lb (lo+k) (.string s)/\J4 w' (w.heap.size+1) 0 (.slice G H I)/\J4 w' (w.heap.size+1) 1 (.slice (some ⟨rb,ro,none⟩) c.length J)/\Hid (gF w' R c.length (λp=>if p=i then v else V p))):=λw' K=>⟨(K.cell g8).trans c6,(S.o w' (E.trans K)).2.1,(S.o w' (E.trans K)).2.2.1,Kz (M.o.kept K)⟩
    go_upto_region 13 with fail
    clear c1 c2 y0 y1 c6;by_cases hn:n=1
    .have HN:=Kz hn;have g9:((n:Int) == 1)=true:=by simp[hn]
     have h0:¬((1:Int)<(n:Int)):=A7;clear hn;cases f3:(s.toList == j.toList)
     .have a2:Hid (¬Hit (bg (Q_ l) (Qj c)) j n x s):=λh=>by
       rcases h.2 with⟨_,e⟩|⟨e,_⟩
       .exact pO f3 e
       .have:=HN.o;omega
      refine bn 35 a1.o λY r b=>?_
      refine ax 0 b ?_;refine ax 4 b ?_;refine ax 8 b ?_;refine ae 12 b ?_;refine ae 13 b ?_;refine aD 14 b ?_;refine aD 15 b ?_;refine aD 16 b ?_;refine aD 17 b ?_;refine aD 18 b ?_;refine aD 19 b ?_;refine ae 20 b ?_;refine ae 21 b ?_;refine aD 22 b ?_;refine aD 23 b ?_;refine aD 24 b ?_;refine aD 25 b ?_;refine aD 26 b ?_;refine aD 27 b ?_;refine aD 28 b ?_;refine aD 29 b ?_;refine aD 30 b ?_;refine aD 31 b ?_;refine aD 32 b ?_;refine aD 33 b ?_;refine ae 34 b ?_;refine aj 35 (λK m=>?_);go_simp
      refine af m (λh=>Pg rfl h) ?_;clear m K;refine aG ?_;go_wp2
      go_roundw
      case rel=>
       refine⟨k+1,v,A7,C8,Kz (M.o.kept r),Kz ?_,Kz (Z.o.kept r),E.trans r⟩;rcases a5.o with h|⟨C,A⟩
       .exact .inl h
       .refine .inr ⟨C,λN f=>?_⟩;rw[NY a0,a4.o] at f;rcases N_.1 f with f | f
        .exact A N f
        .rw[NZ] at f;rw[f];exact a2.o
      case measure=>simp[intOf];omega
     .have c9:Hid (Hit (bg (Q_ l) (Qj c)) j n x s):=⟨c8.o,.inl ⟨HN.o,gT f3⟩⟩;refine bn 35 a1.o λY r b=>?_
      refine ax 0 b ?_;refine ax 4 b ?_;refine ae 8 b ?_;refine ae 9 b ?_;refine ae 10 b ?_;refine aD 11 b ?_;refine aD 12 b ?_;refine aD 13 b ?_;refine aD 14 b ?_;refine aD 15 b ?_;refine aD 16 b ?_;refine aD 17 b ?_;refine aD 18 b ?_;refine aD 19 b ?_;refine aD 20 b ?_;refine aD 21 b ?_;refine aD 22 b ?_;refine aD 23 b ?_;refine aD 24 b ?_;refine aD 25 b ?_;refine aD 26 b ?_;refine aD 27 b ?_;refine aD 28 b ?_;refine aD 29 b ?_;refine aD 30 b ?_;refine aD 31 b ?_;refine aD 32 b ?_;refine aD 33 b ?_;refine aD 34 b ?_;refine aj 35 (λK m=>?_);go_simp
      refine af m (λh=>absurd rfl h) ?_;clear m K;refine aG ?_;have F:=Kz (M.o.kept r);have d0:=Kz (Z.o.kept r);have a9:=World.rowIs.cell F.o a7;have h1:=World.rowIs.frozen F.o i;have fz:=F.o.lt;dsimp only at a9;rw[if_pos rfl] at a9;go_wp2
      go_roundw
      case rel=>
       refine⟨k+1,n,A7,C8,Kz ?_,Kz (.inl ⟨rfl,s,c9.o⟩),Kz (F.o.strs d0.o i _),Below.setCell (E.trans r) (p:=⟨R,i,none⟩) d6 _⟩;exact World.rowIs.congr (F.o.put i n) (λp y=>by by_cases e:p=i <;> simp[e])
      case measure=>simp[intOf];omega
    .have HN:=Kz hn;have g9:((n:Int) == 1)=false:=D6;have h0:(1:Int)<(n:Int):=A7;clear hn;by_cases U:aR j s
     .have j4:IntKind.i64.wrap ((n:Int)-1)= (n:Int)-1:=I5;have f4:Hid (aR j s):=U;have f5:Op.bytesLess s.toList j.toList=false:=by
       cases h:Op.bytesLess s.toList j.toList
       .rfl
       .exact Pg (show aR s j from h) (dW U)
      have h2:(s.toList == j.toList)=false:=by
       cases h:(s.toList == j.toList)
       .rfl
       .exact Pg U (by rw[gT h];exact aQ _)
      clear U;refine bn 35 a1.o λY r b=>?_
      refine ae 0 b ?_;refine ae 1 b ?_;refine ae 2 b ?_;refine aD 3 b ?_;refine aD 4 b ?_;refine aD 5 b ?_;refine aD 6 b ?_;refine aD 7 b ?_;refine aD 8 b ?_;refine ax 9 b ?_;refine ax 13 b ?_;refine ax 17 b ?_;refine ax 21 b ?_;refine ae 25 b ?_;refine ae 26 b ?_;refine ae 27 b ?_;refine ae 31 b ?_;refine ae 32 b ?_;refine aF 28 (λK m=>?_);go_simp
      go_at_call 29
      refine (oq Y G H I (some ⟨rb,ro,none⟩) J c s d4 (hS.kept (a6.o.trans (E.trans r)))).mono ?_;rintro e w3 ⟨⟨q,rfl,hq⟩,h4⟩;have O:=r.trans h4;obtain⟨B,b2,rfl,h5,d1⟩:∃B:Nat,B<c.length/\q= (B:Int)/\Qj c s=some (c.getD B Qz.zero)/\(c.getD B Qz.zero).name=s:=by
       rcases hq with⟨B,C,A,h3,h6⟩|⟨_,C⟩
       .exact⟨B,C,A,h3,h6⟩
       .obtain⟨_,_,_,_,_,_,_,j5,hy,_⟩:=c8.o;rw[C] at hy;cases hy
      clear hq;have b3:=World.rowIs.cell (M.o.kept O) b2;dsimp only at b3;have j6:=(M.o.kept O).lt;have j7:(B:Int)<(c.length:Int):=A7;have j8:(0:Int)<=(B:Int):=A7;obtain⟨q,b0⟩:=ai ((if B=i then v else V B));rw[<-b0] at b3;have HQ:Hid (q=n-1↔eF (bg (Q_ l) (Qj c)) j (n-1) s):=by
       show q=n-1↔_;by_cases e:B=i
       .have h7:s=x:=by rw[HX.o,<-e];exact d1.symm
        rw[b0,Pe e,h7];refine⟨λh=>?_,λh=>?_⟩
        .rcases a5.o with⟨C,_⟩ | ⟨C,_⟩ <;> omega
        .have:=(a8.o.2 c0.o).2 (n-1) A7 h;have:=h.1.pos;omega
       .rw[b0,Pf e];have h:=f1.o B b2;have X:runN c B=s:=d1;rw[X] at h;exact h.ask f4.o A7 (by split <;> omega)
      have f6:=Kz b0;clear b0 h5 d1;dsimp only;refine af m (λ_=>a1.o _ O) ?_;clear m K;clear b;have b:=a1.o _ O;by_cases b4:q=n-1
      .have h8:((q:Int) == (n:Int)-1)=true:=D6;have c9:Hid (Hit (bg (Q_ l) (Qj c)) j n x s):=⟨c8.o,.inr ⟨A7,f4.o,HQ.o.1 b4⟩⟩;clear b4;refine ae 29 b ?_;refine cB 30 ?_ b ?_ ?_;rotate_left
       .intro u hu;try dsimp only at hu
        have f9:=World.rowIs.cell hu.2.2.2.out b2;try dsimp only at f9
        rw[<-f6.o] at f9;go_simp
        try with_reducible rfl
       try simp only[upP]
       refine ae 33 b ?_;refine ae 34 b ?_;refine aj 35 (λK m=>?_);go_simp
       refine af m (λh=>absurd rfl h) ?_;clear m K;refine aG ?_;clear b b3;have F:=Kz (M.o.kept O);have d0:=Kz (Z.o.kept O);have a9:=World.rowIs.cell F.o a7;have h1:=World.rowIs.frozen F.o i;have fz:=F.o.lt;dsimp only at a9;rw[if_pos rfl] at a9;go_wp2
       go_roundw
       case rel=>
        refine⟨k+1,n,A7,C8,Kz ?_,Kz (.inl ⟨rfl,s,c9.o⟩),Kz (F.o.strs d0.o i _),Below.setCell (E.trans O) (p:=⟨R,i,none⟩) d6 _⟩;exact World.rowIs.congr (F.o.put i n) (λp y=>by by_cases e:p=i <;> simp[e])
       case measure=>simp[intOf];omega
      .have h8:((q:Int) == (n:Int)-1)=false:=D6;have a2:Hid (¬Hit (bg (Q_ l) (Qj c)) j n x s):=λh=>by
        rcases h.2 with⟨e,_⟩|⟨_,_,e⟩
        .exact HN.o e
        .exact b4 (HQ.o.2 e)
       clear b4;refine ae 29 b ?_;refine cB 30 ?_ b ?_ ?_;rotate_left
       .intro u hu;try dsimp only at hu
        have f9:=World.rowIs.cell hu.2.2.2.out b2;try dsimp only at f9
        rw[<-f6.o] at f9;go_simp
        try with_reducible rfl
       try simp only[upP]
       refine ae 33 b ?_;refine ae 34 b ?_;refine aj 35 (λK m=>?_);go_simp
       refine af m (λh=>Pg rfl h) ?_;clear m K;refine aG ?_;clear b b3;go_wp2
       go_roundw
       case rel=>
        refine⟨k+1,v,A7,C8,Kz (M.o.kept O),Kz ?_,Kz (Z.o.kept O),E.trans O⟩;rcases a5.o with h|⟨C,A⟩
        .exact .inl h
        .refine .inr ⟨C,λN f=>?_⟩;rw[NY a0,a4.o] at f;rcases N_.1 f with f | f
         .exact A N f
         .rw[NZ] at f;rw[f];exact a2.o
       case measure=>simp[intOf];omega
     .have f7:=Kz U;have h9:Op.bytesLess s.toList j.toList=true\/(Op.bytesLess s.toList j.toList=false/\(s.toList == j.toList)=true):=by
       rcases dJ s j with h|h|h
       .exact .inl h
       .right
        subst h;exact⟨by cases A:Op.bytesLess s.toList s.toList;rfl;exact Pg (show aR s s from A) (aQ s),A9⟩
       .exact Pg h U
      clear U;rcases h9 with f5|⟨f5,h2⟩
      .have a2:Hid (¬Hit (bg (Q_ l) (Qj c)) j n x s):=λh=>by
        rcases h.2 with⟨e,_⟩|⟨_,e,_⟩
        .exact HN.o e
        .exact f7.o e
       refine bn 35 a1.o λY r b=>?_
       refine ae 0 b ?_;refine ae 1 b ?_;refine ae 2 b ?_;refine aD 3 b ?_;refine aD 4 b ?_;refine aD 5 b ?_;refine aD 6 b ?_;refine aD 7 b ?_;refine aD 8 b ?_;refine ax 9 b ?_;refine ax 13 b ?_;refine ax 17 b ?_;refine ae 21 b ?_;refine aD 22 b ?_;refine aD 23 b ?_;refine aD 24 b ?_;refine aD 25 b ?_;refine aD 26 b ?_;refine aD 27 b ?_;refine aD 28 b ?_;refine aD 29 b ?_;refine aD 30 b ?_;refine aD 31 b ?_;refine aD 32 b ?_;refine aD 33 b ?_;refine ae 34 b ?_;refine aj 35 (λK m=>?_);go_simp
       refine af m (λh=>Pg rfl h) ?_;clear m K;refine aG ?_;go_wp2
       go_roundw
       case rel=>
        refine⟨k+1,v,A7,C8,Kz (M.o.kept r),Kz ?_,Kz (Z.o.kept r),E.trans r⟩;rcases a5.o with h|⟨C,A⟩
        .exact .inl h
        .refine .inr ⟨C,λN f=>?_⟩;rw[NY a0,a4.o] at f;rcases N_.1 f with f | f
         .exact A N f
         .rw[NZ] at f;rw[f];exact a2.o
       case measure=>simp[intOf];omega
      .have a2:Hid (¬Hit (bg (Q_ l) (Qj c)) j n x s):=λh=>by
        rcases h.2 with⟨e,_⟩|⟨_,e,_⟩
        .exact HN.o e
        .exact f7.o e
       refine bn 35 a1.o λY r b=>?_
       refine ae 0 b ?_;refine ae 1 b ?_;refine ae 2 b ?_;refine aD 3 b ?_;refine aD 4 b ?_;refine aD 5 b ?_;refine aD 6 b ?_;refine aD 7 b ?_;refine aD 8 b ?_;refine ax 9 b ?_;refine ax 13 b ?_;refine ax 17 b ?_;refine ae 21 b ?_;refine aD 22 b ?_;refine aD 23 b ?_;refine aD 24 b ?_;refine aD 25 b ?_;refine aD 26 b ?_;refine aD 27 b ?_;refine aD 28 b ?_;refine aD 29 b ?_;refine aD 30 b ?_;refine aD 31 b ?_;refine aD 32 b ?_;refine aD 33 b ?_;refine ae 34 b ?_;refine aj 35 (λK m=>?_);go_simp
       refine af m (λh=>Pg rfl h) ?_;clear m K;refine aG ?_;go_wp2
       go_roundw
       case rel=>
        refine⟨k+1,v,A7,C8,Kz (M.o.kept r),Kz ?_,Kz (Z.o.kept r),E.trans r⟩;rcases a5.o with h|⟨C,A⟩
        .exact .inl h
        .refine .inr ⟨C,λN f=>?_⟩;rw[NY a0,a4.o] at f;rcases N_.1 f with f | f
         .exact A N f
         .rw[NZ] at f;rw[f];exact a2.o
       case measure=>simp[intOf];omega
theorem lG{c:List Qq}{a:List Qz}(x y:Ps)(h:bg (Q_ c) (Qj a) x y):x∈a.map (·.name):=by
 obtain⟨r,A,d,_⟩:=h;have b:=aN d;rw[<-b.2];exact Oq.2 ⟨r,b.1,rfl⟩
theorem CK{a:List Qz}(b:dz a){i:Nat}(hi:i<a.length){x:Ps}(c:x=runN a i):∀y∈(a.take i).map (·.name),aR y x:=λy d=>by
 obtain⟨r,e,rfl⟩:=Oq.1 d;obtain⟨j,h,rfl⟩:=List.mem_take_iff_getElem.1 e;have f:j<i:=A7;rw[c,show runN a i=a[i].name by simp[runN,List.getD,hi]];exact Ob.1 b j i A7 hi f
def Lv(Kj:List Qq)(sl:List Qz)(w w':Pv)(e:Ending):Prop:=∃av cv ns,e= .returned (.slice av ns.length cv)/\ns.length<=cv/\Strs w' av ns/\jJ (bg (Q_ Kj) (Qj sl)) (sl.map (·.name)) ns/\K_ w w'
theorem BH(w:Pv)(a:Pt)(G:Nat)(f:List Qq)(B:Pt)(C D:Nat)(d:Pt)(E:Nat)(b:List Qz)(d4:f.length<=1048576)(f8:b.length<=1000)(b5:aX (Q_ f))(hg:dR f b)(hN:bN w a f)(hS:fw w d b):
  Calls prog 38 #[.agg #[.slice a f.length G],.agg #[.slice B C D,.slice d b.length E]] w λe w'=>Lv f b w w' e:=by
 obtain⟨F,R⟩:=ai ((w.alloc (.cells #[.slice a f.length G] 25)).alloc (.cells #[.slice B C D,.slice d b.length E] 32));have kB:K_ w F:=by rw[R];exact (ah _ _).alloc _
 have g0:F.heap.size=w.heap.size+2:=by rw[R];simp
 have b0:F.cell? ⟨w.heap.size,0,none⟩=some (.slice a f.length G):=by rw[R,K_.cell (w:=w.alloc (.cells #[.slice a f.length G] 25)) (ah _ _) A9];exact Xz w _ _ 0 _ rfl
 have s0:F.cell? ⟨w.heap.size+1,0,none⟩=some (.slice B C D):=by have:=Xz (w.alloc (.cells #[.slice a f.length G] 25)) #[.slice B C D,.slice d b.length E] 32 0 _ rfl;rw[OC] at this;rw[R];exact this
 have s1:F.cell? ⟨w.heap.size+1,1,none⟩=some (.slice d b.length E):=by have:=Xz (w.alloc (.cells #[.slice a f.length G] 25)) #[.slice B C D,.slice d b.length E] 32 1 _ rfl;rw[OC] at this;rw[R];exact this
 have z0:w.heap.size<F.heap.size:=A7;have z1:w.heap.size+1<F.heap.size:=A7;have Y:Hid (∀w',K_ F w'->J4 w' w.heap.size 0 (.slice a f.length G)/\J4 w' (w.heap.size+1) 0 (.slice B C D)/\J4 w' (w.heap.size+1) 1 (.slice d b.length E)/\w.heap.size<w'.heap.size/\w.heap.size+1<w'.heap.size):=λw' K=>⟨(K.cell z0).trans b0,(K.cell z1).trans s0,(K.cell z1).trans s1,NR z0 K.size,NR z1 K.size⟩
 have d5:b.length<=1048576:=A7;obtain⟨ic,g1,g2,g3,g4⟩:=aY Tryz.eP;obtain⟨W0,b6⟩:=ai (F.alloc (.cells #[] 9));have k0:K_ F W0:=by rw[b6];exact ah _ _
 have⟨S,a7⟩:=aH kB hg;clear kB g0 hg;go_enter func38,ntmps38
 go_upto_region 1 with fail
 rw[<-R];clear R;go_wp2
 rw[<-b6];clear b6 b0 s0 s1;go_loopw [5,6] (λx5 x6 wr=>∃(n:Nat) (av:Pt) (cv:Nat) (m:List Ps),n<=b.length/\x6= .a (n:Int)/\x5= .slice av m.length cv/\m.length<=cv/\Hid (Strs wr av m)/\Hid (jJ (bg (Q_ f) (Qj b)) ((b.take n).map (·.name)) m)/\K_ F wr) (λ_ x6 _=>b.length-(intOf x6).toNat)
 case atStart=>exact⟨0,_,_,[],NS _,rfl,rfl,NS _,Kz (λp hq=>Pg hq (Nat.not_lt_zero p)),Kz (jJ.start _),k0⟩
 case round=>
  clear k0;obtain⟨n,av,cv,m,hi,rfl,rfl,d6,HB,HR,Z⟩:=hrel;obtain⟨g5,c1,g6,y0,y1⟩:=Y.o _ Z;by_cases a0:n<b.length;rotate_left
  .have d7:n=b.length:=A7;have g7:=Kz d7;have k7:¬((n:Int)<(b.length:Int)):=A7;clear d7;go_wp2
   go_ret
   refine⟨av,cv,m,rfl,d6,HB.o, ?_,S.o.trans Z⟩;have h:=HR.o;rw[g7.o,Ox] at h;exact h
  have k8:(n:Int)<(b.length:Int):=A7;obtain⟨rb,ro,xa,xc,e1,k9,d8,_,_⟩:=(hS.kept (S.o.trans Z)) n a0;subst e1;obtain⟨x,hx⟩:=ai (runN b n);have t0:=d8 0 _ rfl;rw[OJ] at t0;have d9:wr.cell? ⟨rb,ro+n*7,none⟩=some (.string x):=by rw[hx];exact t0
  clear t0 d8;have t0:=d9;clear d9;have HX:=Kz hx;clear hx;go_wp2_with fail
  refine (Ih wr a G f B C D (some ⟨rb,ro,none⟩) E b x d4 f8 b5 a7.o (hN.kept (S.o.trans Z)) (hS.kept (S.o.trans Z))).mono ?_;rintro e H ⟨fb,a1,rfl,hF,hV,k2⟩;have⟨HF,HV⟩:=aH hF hV;have I:=Z.trans k2;clear hF hV g5 c1 g6 t0;dsimp only;have b7:Hid ((a1 n≠0->eF (bg (Q_ f) (Qj b)) x (a1 n) x)/\∀t,eF (bg (Q_ f) (Qj b)) x t x->a1 n=t):=by
   have h:=HV.o n a0;rw[<-HX.o] at h;exact eB.whole (names:=b.map (·.name)) lG (by rw[OY];exact h) (aQ x)
  have f0:=World.rowIs.cell HF.o a0;try dsimp only at f0
  have fz:=HF.o.lt;have g8:=Kz (HB.o.kept k2);have e2:Hid ((b.take (n+1)).map (·.name)= (b.take n).map (·.name)++ [x]):=by
   show _=_;rw[NY a0,Pi,HX.o];simp[runN,List.getD,a0]
  have g9:Hid (∀y∈(b.take n).map (·.name),aR y x):=CK a7.o.asc a0 HX.o;obtain⟨v,hv⟩:=ai (a1 n);rw[<-hv] at f0 b7;have l1:=Kz hv;clear hv HB k2;by_cases T:v=0\/(0<m.length/\m.length<=v)
  .have a2:Hid (∀a8,eF (bg (Q_ f) (Qj b)) x a8 x->m≠[]/\m.length<=a8):=λa8 hn=>by
    have e:=b7.o.2 a8 hn;have hp:=hn.1.pos;rcases T with h|⟨z,q⟩
    .omega
    .exact⟨λe0=>by rw[e0] at z;simp at z,A7⟩
   have h1:((v:Int) == 0)=true\/(((v:Int) == 0)=false/\(0:Int)<(m.length:Int)/\(m.length:Int)<=(v:Int)):=by
    by_cases h0:v=0
    .exact .inl (by simp[h0])
    .refine .inr ⟨D6, ?_⟩;rcases T with h|⟨z,q⟩
     .exact Pg h h0
     .omega
   clear T;rcases h1 with h0|⟨h0,z,q⟩
   all_goals
    go_wp2
    go_roundw
    case rel=>exact⟨n+1,av,cv,m,A7,C8,rfl,d6,g8,Kz (by rw[e2.o];exact jJ.skip HR.o a2.o g9.o),I⟩
    case measure=>simp[intOf];omega
  have h2:v≠0:=λh=>T (.inl h)
  have b8:=Kz (b7.o.1 h2);have h4:Hid (m=[]\/v<m.length):=by
   by_cases h:m.length=0
   .exact .inl (Pj h)
   .refine .inr ?_;have q:¬(0<m.length/\m.length<=v):=λq=>T (.inr q)
    omega
  have h5:((v:Int) == 0)=false/\(¬((0:Int)<(m.length:Int))\/((0:Int)<(m.length:Int)/\¬((m.length:Int)<=(v:Int)))):=by
   refine⟨D6, ?_⟩;have q:¬(0<m.length/\m.length<=v):=λq=>T (.inr q)
   omega
  have l2:v<=b.length:=by have:=(b8.o).bound (names:=b.map (·.name)) lG;rwa [OY] at this
  clear T;obtain⟨W3,b1⟩:=ai (H.alloc (.cells #[.string x] 9));have K3:K_ H W3:=by rw[b1];exact ah _ _
  have h6:Hid (W3.ownsRow H.heap.size 9 1 (.b H.heap.size 1 1) [x].length ([x].map Value.string)):=by
   rw[b1];exact⟨rfl,.inr ⟨H.heap.size,1,_,rfl,NQ _,heap_alloc_new H _,NQ _,D5,rfl,rfl⟩⟩
  obtain⟨h0,h7⟩:=h5;rcases h7 with z|⟨z,q⟩
  all_goals
   go_upto_region 10 with fail
   rw[<-b1];clear b1;go_loopg [10] v (λgg b9 wr=>∃(i:List Ps) (J:Ps) (lv:Pt) (M:Nat),b9= .slice lv i.length M/\Hid (oH (bg (Q_ f) (Qj b)) x v i J gg)/\Hid (wr.ownsRow H.heap.size 9 1 (.slice lv i.length M) i.length (i.map Value.string))/\K_ H wr)
   case atStart=>exact⟨[x],x,_,_,rfl,Kz (oH.start b8.o),h6,K3⟩
   case round=>
    obtain⟨i,J,lv,M,rfl,HP,HO,O⟩:=hrel;have e3:=HP.o.len;have e4:=HP.o.pos;by_cases c0:gk=1
    .have l3:¬((i.length:Int)<(v:Int)):=A7;have h8:Hid (mE (bg (Q_ f) (Qj b)) x v x i):=by have h:=HP.o;rw[c0] at h;exact h.done
     clear c0 e3 e4;obtain⟨a9,h9,U,V⟩:=bv HO.o;simp only[OG,true_and] at U;rw[<-U.1] at V;have H9:=Kz V;have i0:Hid (i.length<=M):=by
      rcases HO.o.2 with⟨e,h⟩|⟨_,_,_,e,_,_,h,_⟩
      .simp only[OG] at e;show i.length<=M;omega
      .simp only[OG] at e;show i.length<=M;omega
     clear U V;go_wp2
     go_roundw
     case rel=>exact⟨n+1,lv,M,i,A7,C8,rfl,i0.o,H9,Kz (by rw[e2.o];exact jJ.take HR.o b8.o h8.o h4.o),I.trans O⟩
     case measure=>simp[intOf];omega
    obtain⟨p,hq⟩:∃p,gk=p+1:=⟨gk-1,A7⟩;have e5:1<=p:=A7;have c2:Hid (oH (bg (Q_ f) (Qj b)) x v i J (p+1)):=by have h:=HP.o;rw[hq] at h;exact h
    have HQ:=Kz hq;have l4:(i.length:Int)<(v:Int):=A7;obtain⟨t,hm⟩:∃t,i.length=t+1:=⟨i.length-1,by have h:=HP.o.last;obtain⟨l0,e⟩:=h;rw[e];simp⟩;have i1:(i.length:Int)-1= (t:Int):=A7;have i2:IntKind.i64.wrap (t:Int)= (t:Int):=I5;have i3:(t:Int)<(i.length:Int):=A7;have c3:i.getD t ByteArray.empty=J:=by
     obtain⟨l0,e⟩:=HP.o.last;have c4:t=l0.length:=by rw[e,OD] at hm;simp at hm;omega
     rw[e,c4];simp[List.getD]
    obtain⟨a9,h9,U,V⟩:=bv HO.o;simp only[OG,true_and] at U;rw[<-U.1] at V;obtain⟨lb,lo,e1,e6,c6⟩:=V t A7;rw[c3] at c6;subst e1;have⟨l5,HM⟩:=aH c3 hm;clear U V hq c3 hm c0 e3 e4;have c7:Hid (∀u,K_ wr u->(J4 u w.heap.size 0 (.slice a f.length G)/\J4 u (w.heap.size+1) 0 (.slice B C D)/\J4 u (w.heap.size+1) 1 (.slice (some ⟨rb,ro,none⟩) b.length E)/\J4 u lb (lo+t) (.string J))):=λu K=>⟨(Y.o u (I.trans (O.trans K))).1,(Y.o u (I.trans (O.trans K))).2.1,(Y.o u (I.trans (O.trans K))).2.2.1,(K.cell e6).trans c6⟩
    go_upto_region 11 with fail
    refine bn 9 c7.o λwd P c=>?_
    refine ax 0 c ?_;refine ax 4 c ?_;refine aF 8 (λK r=>?_);go_simp
    go_at_call 88
    refine (u_ wd a G f B C D (some ⟨rb,ro,none⟩) E b J d4 d5 b5 a7.o (hN.kept (S.o.trans (I.trans (O.trans P)))) (hS.kept (S.o.trans (I.trans (O.trans P))))).mono ?_;rintro e w4 ⟨⟨nb,no,nc,Q,rfl,l6,e7,c8⟩,k4⟩;have K4:=P.trans k4;dsimp only;refine af r (λ_=>c7.o _ K4) ?_;clear r K c;refine aj 9 (λK r=>?_);go_simp
    refine af r (λh=>Pg rfl h) ?_;clear r K;refine aG ?_;have⟨b2,i4⟩:=aH c8 e7;have i5:=Kz (ak HO.o K4);have i6:=Kz (HF.o.kept (O.trans K4));have b3:=O.trans K4;have l7:=c8.len b5 a7.o.env;clear c8 e7 c7 i1 i2 i3 c6 k4 e6;go_wp2
    go_loopw [10,12] (λb9 c9 wr=>∃k:Nat,k<=Q.length/\c9= .a (k:Int)/\b9= .slice (some ⟨lb,lo,none⟩) i.length M/\Hid (∀y∈Q.take k,¬(bg (Q_ f) (Qj b) J y/\aR x y/\eF (bg (Q_ f) (Qj b)) x p y))/\K_ w4 wr) (λ_ c9 _=>Q.length-(intOf c9).toNat)
    case atStart=>exact⟨0,NS _,rfl,rfl,Kz (λy l=>by simp at l),K_.refl _⟩
    case round=>
     obtain⟨k,hk,rfl,rfl,b4,N⟩:=hrel;by_cases a3:k<Q.length;rotate_left
     .exfalso
      obtain⟨y,z,q,h3⟩:=c2.o.more e5;have l:y∈Q:=(b2.o.2 y).2 z;refine b4.o y ?_ ⟨z,q,h3⟩;rw[Oy A7];exact l
     obtain⟨l8,l9,e1,i7,d0⟩:=(i4.o.kept N) k a3;cases e1;obtain⟨s,hs⟩:=ai (Q.getD k ByteArray.empty);rw[<-hs] at d0;have d1:Q[k]=s:=by rw[hs];simp[List.getD,a3]
     have a2:=Kz d1;have e8:Hid (bg (Q_ f) (Qj b) J s):=(b2.o.2 s).1 (by rw[<-d1];exact Oa a3);clear hs d1;have m0:(k:Int)<(Q.length:Int):=A7;have a4:Hid (∀u,K_ wr u->(J4 u nb (no+k) (.string s)/\J4 u (w.heap.size+1) 0 (.slice B C D)/\J4 u (w.heap.size+1) 1 (.slice (some ⟨rb,ro,none⟩) b.length E)/\Hid (gF u fb b.length a1))):=λu K=>⟨(K.cell i7).trans d0,(Y.o u (I.trans (b3.trans (N.trans K)))).2.1,(Y.o u (I.trans (b3.trans (N.trans K)))).2.2.1,Kz (i6.o.kept (N.trans K))⟩
     go_upto_region 15 with fail
     clear d0;by_cases W:aR x s;rotate_left
     .have i8:=Kz W;have i9:Op.bytesLess s.toList x.toList=true\/(Op.bytesLess s.toList x.toList=false/\(s.toList == x.toList)=true):=by
       rcases dJ s x with h|h|h
       .exact .inl h
       .right
        rw[h];exact⟨by cases q:Op.bytesLess x.toList x.toList;rfl;exact Pg (show aR x x from q) (aQ x),A9⟩
       .exact Pg h W
      clear W;rcases i9 with e9|⟨e9,j0⟩
      all_goals
       refine bn 21 a4.o λwd P c=>?_
       refine ax 0 c ?_;refine ae 4 c ?_;refine ae 5 c ?_;refine ae 6 c ?_;refine aD 7 c ?_;refine aD 8 c ?_;refine aD 9 c ?_;refine aD 10 c ?_;refine aD 11 c ?_;refine aD 12 c ?_;refine aD 13 c ?_;refine aD 14 c ?_;refine aD 15 c ?_;refine aD 16 c ?_;refine aD 17 c ?_;refine aD 18 c ?_;refine aD 19 c ?_;refine aD 20 c ?_;refine aj 21 (λK r=>?_);go_simp
       refine af r (λh=>Pg rfl h) ?_;clear r K;refine aG ?_;go_wp2
       go_roundw
       case rel=>exact⟨k+1,A7,C8,rfl,Kz (λy l=>by
        rw[NY a3,a2.o] at l;rcases N_.1 l with l|l
        .exact b4.o y l
        .rw[NZ] at l;rw[l];exact λh=>i8.o h.2.1),N.trans P⟩
       case measure=>simp[intOf];omega
     have f1:Hid (aR x s):=W;have e9:Op.bytesLess s.toList x.toList=false:=by
      cases h:Op.bytesLess s.toList x.toList
      .rfl
      .exact Pg (show aR s x from h) (dW W)
     have j0:(s.toList == x.toList)=false:=by
      cases h:(s.toList == x.toList)
      .rfl
      .exact Pg W (by rw[gT h];exact aQ _)
     clear W;have m1:(v:Int)-(i.length:Int)= (p:Int):=by have:=c2.o.len;omega
     have m2:IntKind.i64.wrap (p:Int)= (p:Int):=I5;refine bn 21 a4.o λwd P c=>?_
     refine ax 0 c ?_;refine ax 4 c ?_;refine ax 8 c ?_;refine ae 12 c ?_;refine ax 16 c ?_;refine aF 13 (λK r=>?_);go_simp
     go_at_call 29
     refine (oq wd B C D (some ⟨rb,ro,none⟩) E b s d5 (hS.kept (S.o.trans (I.trans (b3.trans (N.trans P)))))).mono ?_;rintro e X ⟨⟨q5,rfl,f2⟩,j1⟩;have K5:=P.trans j1;obtain⟨A,d2,rfl,j2,f3⟩:∃A:Nat,A<b.length/\q5= (A:Int)/\Qj b s=some (b.getD A Qz.zero)/\(b.getD A Qz.zero).name=s:=by
      rcases f2 with⟨A,z,q,h3,j3⟩|⟨_,z⟩
      .exact⟨A,z,q,h3,j3⟩
      .obtain⟨_,_,_,_,_,_,_,y,l,_⟩:=e8.o;rw[z] at l;cases l
     clear f2;have m3:(A:Int)<(b.length:Int):=A7;have m4:(0:Int)<=(A:Int):=A7;obtain⟨a5,hp⟩:=ai (a1 A);have f4:Hid (a5=p↔eF (bg (Q_ f) (Qj b)) x p s):=by
      show a5=p↔_;have h:=HV.o A d2;have c4:runN b A=s:=f3;rw[c4] at h;have q:=eB.whole (names:=b.map (·.name)) lG (by rw[OY];exact h) (dW f1.o);rw[<-hp] at q;exact⟨λe=>by have h3:=q.1 A7;rw[e] at h3;exact h3,λhf=>q.2 p hf⟩
     have f5:=Kz hp;clear hp j2 f3;dsimp only;refine af r (λ_=>a4.o _ K5) ?_;clear r K;clear c;have c:=a4.o _ K5;by_cases a6:a5=p
     .have j4:((a5:Int) == (p:Int))=true:=by simp[a6]
      have j5:Hid (iC (λy=>bg (Q_ f) (Qj b) J y/\aR x y/\eF (bg (Q_ f) (Qj b)) x p y) s):=by
       have h:=Dt (p:=λy=>bg (Q_ f) (Qj b) J y/\aR x y/\eF (bg (Q_ f) (Qj b)) x p y) b2.o.1 (λy l=>(b2.o.2 y).2 l.1) a3 (by rw[a2.o];exact⟨e8.o,f1.o,f4.o.1 a6⟩) b4.o;rw[a2.o] at h;exact h
      clear a6;refine ae 14 c ?_;refine cB 15 ?_ c ?_ ?_;rotate_left
      .intro u L;try dsimp only at L
       have f9:=World.rowIs.cell L.2.2.2.out d2;try dsimp only at f9
       rw[<-f5.o] at f9;go_simp
       try with_reducible rfl
      try simp only[upP]
      refine ae 20 c ?_;refine aj 21 (λK r=>?_);go_simp
      refine af r (λh=>Pg rfl h) ?_;clear r K;refine aG ?_;have c5:=(a4.o _ K5).1;clear a4 c;have k1:K_ X (X.alloc (.cells #[.string s] 9)):=ah _ _;have f6:=Kz (ak i5.o (N.trans (K5.trans k1)));have KK:=Kz (b3.trans (N.trans (K5.trans k1)));have j6:H.heap.size<=(X.alloc (.cells #[.string s] 9)).heap.size:=KK.out.size;have j7:Hid (∀j u,([.string s]:List Pw)[j]? =some u->(X.alloc (.cells #[.string s] 9)).cell? ((⟨X.heap.size,0,none⟩:Addr).add j)=some u):=λj u L=>by rw[OI];exact Xz X #[.string s] 9 j u L
      have j8:Hid (∀u∈([.string s]:List Pw),u.oneCell'=true):=λu L=>by simp only[OL,OM,or_false] at L;subst L;rfl
      clear k1;go_wp2_with (at_builtin;refine wpList_append_own _ rfl (.tmp 91) (.tmp 96) 26 rfl H.heap.size 9 ic _ 1 16 underlying26 g1 g2 g3 g4 rfl A8 (.slice (some ⟨lb,lo,none⟩) i.length M) i.length (i.map Value.string) rfl f6.o ⟨X.heap.size,0,none⟩ 1 1 [.string s] rfl rfl j7.o j8.o D5 A7 j6 ?_;intro v' w6 d3 f7 _;have KP:=aL KK.out (NQ _) f6.o f7;have j9:=Kz d3;obtain⟨k3,k5,rfl⟩:=ay d3;clear d3 f7)
      go_roundg p
      case measure=>have:=HQ.o;omega
      case rel=>exact⟨i++ [s],s,k3,k5,by rw[OD];rfl,Kz (c2.o.next e5 j5.o),Kz (by rw[Pi,OD];exact j9.o),KP⟩
     .have j4:((a5:Int) == (p:Int))=false:=D6;have k6:Hid (¬eF (bg (Q_ f) (Qj b)) x p s):=λh=>a6 (f4.o.2 h)
      clear a6;refine ae 14 c ?_;refine cB 15 ?_ c ?_ ?_;rotate_left
      .intro u L;try dsimp only at L
       have f9:=World.rowIs.cell L.2.2.2.out d2;try dsimp only at f9
       rw[<-f5.o] at f9;go_simp
       try with_reducible rfl
      try simp only[upP]
      refine ae 20 c ?_;refine aj 21 (λK r=>?_);go_simp
      refine af r (λh=>Pg rfl h) ?_;clear r K;refine aG ?_;go_wp2
      go_roundw
      case rel=>exact⟨k+1,A7,C8,rfl,Kz (λy l=>by
       rw[NY a3,a2.o] at l;rcases N_.1 l with l|l
       .exact b4.o y l
       .rw[NZ] at l;rw[l];exact λh=>k6.o h.2.2),N.trans K5⟩
      case measure=>simp[intOf];omega
