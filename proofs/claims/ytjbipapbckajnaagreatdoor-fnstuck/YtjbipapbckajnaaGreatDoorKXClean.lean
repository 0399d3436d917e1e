import Derived.Test.YtjbipapbckajnaaGreatDoorKXAll
import Derived.Test.YtjbipapbckajnaaGreatDoorKCAny
set_option maxRecDepth 100000
set_option maxHeartbeats 25600000
namespace Go.Proofs.YtjbipapbckajnaaGreatDoor
open Go.RowKit Go.Proofs.Tryz
def Df(Kj:List Qq)(Kk:List Ps)(w w':Pv)(e:Ending):Prop:=
 ∃(o:pW) (a f:Pt) (c e0:Nat),e= .returned (.agg #[.a o.code,.slice a o.res.length c,.slice f o.chain.length e0,.a o.dS,.a o.cost])/\gL Kj Kk o/\oO w' a o.res/\Strs w' f o.chain/\K_ w w'
def sZ(l:List fF)(code:Int):Prop:=(code=0/\¬∃r∈l,r.over=false)\/(code=1/\∃r∈l,r.over=false)
theorem sZ.yes{l:List fF}{e:Int}(h:sZ l e)(r:fF)(f:r.over=true):sZ (l++ [r]) e:=by
 rcases h with⟨a,b⟩|⟨a,x,c,b⟩
 .refine .inl ⟨a,λ⟨x,c,d⟩=>?_⟩;rcases N_.1 c with h | h
  .exact b ⟨x,h,d⟩
  .rw[NZ] at h;rw[h,f] at d;cases d
 .exact .inr ⟨a,x,N_.2 (.inl c),b⟩
theorem sZ.no(l:List fF)(r:fF)(a:r.over=false):sZ (l++ [r]) 1:= .inr ⟨rfl,r,N_.2 (.inr (NZ.2 rfl)),a⟩
theorem JI{a:List Qq}(d:aX (Q_ a)){l:List Qz}(b:∀r∈l,r.Good a)(i:l.length<=60)(k:Nat):0<=dX (l.take k)/\dX (l.take k)<=1200/\0<=gy (Q_ a) (l.take k)/\gy (Q_ a) (l.take k)<=24000:=by
 have h:∀r∈l.take k,0<=r.Zj/\r.Zj<=20:=λr c=>⟨(b r (List.mem_of_mem_take c)).lo,(b r (List.mem_of_mem_take c)).hi⟩
 have e:=xX h;have f:=BO d h;have j:(l.take k).length<=60:=E9;exact⟨e.1,A7,f.1,A7⟩
theorem zA(w:Pv)(a:Pt)(G:Nat)(i:List Qq)(ra:Pt)(rc:Nat)(Kk:List Ps)(g3:i.length<=1048576)(l5:∀y∈i,y.Fits)(w4:Kk.length<=1048576)(p7:∀s∈Kk,s.size<=maxLen)
  (hN:bN w a i) (hR:Strs w ra Kk):
  Calls prog 11 #[.agg #[.slice a i.length G],.slice ra Kk.length rc] w λe w'=>Df i Kk w w' e:=by
 obtain⟨W,a5⟩:=ai ((w.alloc (.cells #[.slice a i.length G] 25)).alloc (.cells #[.a 0,J3,J3,.a 0,.a 0] 43));have kB:K_ w W:=by rw[a5];exact (ah _ _).alloc _
 have p8:W.heap.size=w.heap.size+2:=by rw[a5];simp
 have b0:J4 W w.heap.size 0 (.slice a i.length G):=by
  rw[a5];exact (EY (w:=w) (v:= .slice a i.length G) (t:=25) (ah _ _)).1
 have e6:Hid (aB W (w.heap.size+1) 43 5):=by
  have h:=aB.made (w.alloc (.cells #[.slice a i.length G] 25)) #[.a 0,J3,J3,.a 0,.a 0] 43;rw[OC] at h;rw[a5];exact h
 have l6:Hid (nE W (w.heap.size+1)):=by
  have h:=Ib (w:=w.alloc (.cells #[.slice a i.length G] 25)) (k:=0) (m:=0) (n:=0) (a:=none) (f:=none) (c:=0) (e0:=0) (rl:=0) (cl:=0) (t:=43);rw[OC] at h;rw[a5];exact h
 have z0:w.heap.size<W.heap.size:=A7;have z1:w.heap.size+1<W.heap.size:=A7;have c5:Hid (∀w',K_ W w'->J4 w' w.heap.size 0 (.slice a i.length G)/\w.heap.size<w'.heap.size):=λw' K=>⟨(K.cell z0).trans b0,NR z0 K.size⟩
 have g4:Hid (¬(bF i 0/\eX Kk)->∀u,K_ W u->Df i Kk w (u.setCells (w.heap.size+1) 0 [.a 9,J3,J3,.a 0,.a 0]) (.returned (.agg #[.a 9,J3,J3,.a 0,.a 0]))):=λhn u ku=>⟨Al,none,none,0,0,rfl,⟨⟨NS _,NS _⟩,.inr ⟨hn,rfl⟩⟩,(λA X=>by cases X),(λA X=>by cases X),bJ (g:=w.heap.size+1) A7 _ 0 (kB.trans ku)⟩
 have c6:=Kz kB;clear kB p8 b0 z0;go_enter func11,ntmps11
 go_upto_region 1 with fail
 rw[<-a5];clear a5;obtain⟨b0,z0⟩:=c5.o _ (K_.refl _);go_wp2_with fail
 refine (mZ _ a G i D5 l5 (hN.kept c6.o)).mono ?_;rintro e w1 ⟨⟨c,rfl,hc⟩,k1⟩;clear b0 z0;obtain⟨b0,z0⟩:=c5.o _ k1;by_cases b6:c=0;rotate_left
 .have w5:(c != 0)=true:=by simpa using b6
  have p9:Hid (¬bF i 0):=λh=>b6 (hc.unique h)
  have a6:=Kz (e6.o.kept k1);obtain⟨⟨⟨_,g5⟩,g7⟩,⟨⟨_,g8⟩,g9⟩,⟨⟨_,h0⟩,h4⟩,⟨⟨_,h6⟩,h7⟩,⟨_,i0⟩,i1⟩:=a6.o.row.uT;have i2:=a6.o.lt;clear b6 hc;go_wp2_with fail
  have hX:=NU w1 (w.heap.size+1) 0 [.a 9,J3,J3,.a 0,.a 0] (a6.o.row.there (o:=0) (m:=5) (NQ _));exact X_ [.a 9,J3,J3,.a 0,.a 0] _ results11 rfl hX underlying43 rfl Tryz.dH rfl (g4.o (λh=>p9.o h.1) w1 k1)
 subst b6;have c7:=Kz hc;clear hc;go_wp2_with fail
 refine (yZ _ ra rc Kk D5 p7 (hR.kept (c6.o.trans k1))).mono ?_;rintro e w2 ⟨i3,k2⟩;have K2:=k1.trans k2;clear b0 z0;obtain⟨b0,z0⟩:=c5.o _ K2;rcases i3.cases with⟨rfl,c8⟩|⟨rfl,a3⟩;rotate_left
 .have q5:=Kz a3;have a6:=Kz (e6.o.kept K2);obtain⟨⟨⟨_,g5⟩,g7⟩,⟨⟨_,g8⟩,g9⟩,⟨⟨_,h0⟩,h4⟩,⟨⟨_,h6⟩,h7⟩,⟨_,i0⟩,i1⟩:=a6.o.row.uT;have i2:=a6.o.lt;clear a3 i3;go_wp2_with fail
  have hX:=NU w2 (w.heap.size+1) 0 [.a 9,J3,J3,.a 0,.a 0] (a6.o.row.there (o:=0) (m:=5) (NQ _));exact X_ [.a 9,J3,J3,.a 0,.a 0] _ results11 rfl hX underlying43 rfl Tryz.dH rfl (g4.o (λh=>q5.o h.2) w2 K2)
 have HY:=Kz c8;clear c8 i3 g4;obtain⟨rb,ro,rfl,w9,_⟩:=hR 0 (by have:=HY.o.1;omega);have i4:=nV c7.o;have l7:=HY.o.2.1;have e7:=cO c7.o;have i5:=c6.o.trans K2;have q6:Hid (∀l8∈Kk,l8.size<=20):=λl8 hn=>by
  obtain⟨A,X,rfl⟩:=Oc hn;have h:=(HY.o.2.2 A X).1.2.1;simpa[List.getD,X] using h
 go_wp2_with fail
 refine (IW w2 a G i (some ⟨rb,ro,none⟩) rc Kk i4 l5 (GD c7.o) e7 l7 (hN.kept i5) (hR.kept i5)).mono ?_;rintro e w3 ⟨T,L,c9,dc,xs,rfl,x0,hO,hZ⟩;have d0:=Kz hO;have q7:=NT hO.len i4;have K3:=K2.trans hZ.kw;obtain⟨d,a7⟩:=ai w3.heap.size;obtain⟨q,b7⟩:=ai (w3.alloc (.cells #[.a 0,J3,J3,.a 0,.a 0] 43));have kO:K_ w3 q:=by rw[b7];exact ah _ _
 have q8:d<q.heap.size:=by rw[b7,a7];simp
 have i6:Hid (iH q d q 0 J3 0 0):=by
  obtain⟨q0,q1,q2,q3,q4⟩:=ut (w:=w3) (w1:=q) (v0:= .a 0) (v1:= J3) (v2:= J3) (v3:= .a 0) (v4:= .a 0) (t:=43) (by rw[b7];exact K_.refl _);rw[<-a7] at q0 q1 q2 q3 q4;exact⟨But.au (K_.refl _),by rw[b7,a7];exact aB.made w3 _ _,q0,q1,q2,q3,q4⟩
 have l9:=Kz (hZ.kept kO).again;have d1:K_ W q:=K3.trans kO;have q9:w.heap.size+1<w3.heap.size:=NR z1 K3.size;have m0:¬T=d:=by have:=hZ.known.row.lt;omega
 have r0:w2.heap.size<=d:=by rw[a7];exact hZ.kw.size
 have x1:w.heap.size+1<d:=by rw[a7];exact q9
 have HC:Hid (∀u,But (λb=>b=d) q u->J4 u w.heap.size 0 (.slice a i.length G)/\KnZ w2 u u T (.slice c9 L.length dc) a i.length G L c9 dc xs/\K_ w u/\aB u (w.heap.size+1) 43 5/\nE u (w.heap.size+1)/\q.heap.size<=u.heap.size):=λu h=>by
  have x2:=kO.size;refine⟨(h.cell A7 (λ(e:w.heap.size=d)=>A7)).trans (c5.o _ d1).1, ?_,h.kept (c6.o.trans d1) (λb e=>by rw[e];omega),h.row (e6.o.kept d1) (λ(e:w.heap.size+1=d)=>A7),λo s e=>(l6.o.kept z1 d1) o s ((h.cell A7 (λ(e:w.heap.size+1=d)=>A7)).symm.trans e),h.size⟩;refine l9.o.but h (λb e=>by rw[e];exact r0) m0 (λb e (e2:b=d)=>?_) (λb (e:b=d) ht=>aK i6.o.row.type (by rw[e] at ht;exact ht) A8 rfl);have:=(hZ.own.lt b e).2;omega
 obtain⟨R,m2⟩:=ai (oM (Q_ i) (Qj L));have i7:=Kz m2;go_upto_region 5 with fail
 rw[<-b7,<-a7];clear m2 a7 b7 b0 z0 kO d1 l9 c5 hZ hO e6 l6 c6 i5 K2 K3 k1 k2;go_wp2
 go_loopw [7] (λx7 wr=>∃(k:Nat) (l:Pt) (n:Nat) (Y:Int),k<=Kk.length/\x7= .a (k:Int)/\Hid (sZ ((Kk.take k).map R) Y)/\Hid (iH q d wr Y (.slice l k n) 0 0)/\Hid (wr.ownsRow q.heap.size 84 4 (.slice l k n) k (bX ((Kk.take k).map R)))) (λx7 _=>Kk.length-(intOf x7).toNat)
 case atStart=>exact⟨0,none,0,0,NS _,rfl,Kz (.inl ⟨rfl,λ⟨_,h,_⟩=>by cases h⟩),i6,Kz (OO _ _ _ _)⟩
 case round=>
  clear i6;obtain⟨k,l,n,Y,hk,rfl,i8,B,U⟩:=hrel;obtain⟨c0,b1,Kr,e8,f0,i9⟩:=HC.o wr B.o.but;have⟨Z,a0⟩:=aH b1 Kr;clear b1 e8 f0;by_cases d2:k<Kk.length
  .have x3:(k:Int)<(Kk.length:Int):=A7;obtain⟨sb,so,e1,m3,j0⟩:=hR k d2;simp only[OE,Po,and_true] at e1;obtain⟨rfl,rfl⟩:=e1;obtain⟨O,j1⟩:=ai (Kk.getD k ByteArray.empty);rw[<-j1] at j0;have m4:=(a0.o.cell m3).trans j0;have m5:rb<wr.heap.size:=NR m3 a0.o.size;clear j0;have j2:Kk[k]=O:=by rw[j1];simp[List.getD,d2]
   have m6:O∈Kk:=by rw[<-j2];exact Oa d2
   have m7:=Kz j2;have x4:=q6.o O m6;clear j1 j2 m6;go_wp2_with fail
   refine (vJ wr T a G i c9 dc L O g3 A7 A7 Z.o.known (hN.kept a0.o) Z.o.runs).mono ?_;rintro e f1 ⟨⟨fl,tx,ok,rfl,m8,a3⟩,j3⟩;have d3:Hid (R O= ⟨O,ok,fl,tx⟩):=by
    show R O=_;rw[i7.o];unfold oM;rw[m8];cases ok
    .obtain⟨h1,h2⟩:=a3 rfl;rw[h1,h2]
     rfl
    .rfl
   have j4:Hid ((Kk.take (k+1)).map R= (Kk.take k).map R++ [⟨O,ok,fl,tx⟩]):=by
    show _=_;rw[NY d2,Pi,m7.o,<-d3.o]
    rfl
   obtain⟨I,d4⟩:=ai (f1.alloc (.cells #[.bool fl,.string tx] 80));have k4:K_ f1 I:=by rw[d4];exact ah _ _
   obtain⟨pb,f2⟩:=ai (f1.heap.size);have f3:=Iy (w:=f1) (v0:= .bool fl) (v1:= .string tx) (t:=80) (w1:=I) (by rw[d4];exact K_.refl _);rw[<-f2] at f3;have K4:=j3.trans k4;have m9:∀b,(Value.slice l k n).ownBlock=some b->b≠pb:=λb e=>by have h1:=(U.o.lt b e).2;have h2:=j3.size;omega
   have n0:pb<I.heap.size:=by rw[d4,f2];simp
   have j5:=Kz (B.o.kept K4);have n1:=Kz (ak U.o K4);have r1:rb<I.heap.size:=NR m5 K4.size;have x5:q.heap.size<=I.heap.size:=NT i9 K4.size;have r2:d<I.heap.size:=A7;have P:Hid (∀u:Pv,(∀b,b<I.heap.size->¬q.heap.size<=b\/b=pb->u.heap[b]? =I.heap[b]?)->J4 u d 1 (.slice l k n)/\J4 u rb (ro+k) (.string O)/\J4 u pb 0 (.bool fl)/\J4 u pb 1 (.string tx)):=λu M=>by
    exact⟨(Od (w:=I) (M d r2 (.inl A7))).trans j5.o.c1,(Od (w:=I) (M rb r1 (.inl A7))).trans ((K4.cell m5).trans m4),(Od (w:=I) (M pb n0 (.inr rfl))).trans f3.1,(Od (w:=I) (M pb n0 (.inr rfl))).trans f3.2⟩
   obtain⟨ic,b6,r3,r4,r5⟩:=aY Tryz.sI;go_upto_region 9 with fail
   rw[<-d4,<-f2];clear d4 f2 f3 k4 j3 m8 a3 c0 m4 d3 m7;refine Cc 15 P.o (λ_ _ _=>rfl) λN H j=>?_
   refine ax 0 j ?_;refine ax 4 j ?_;refine ax 8 j ?_;refine aj 12 (λK r=>?_);go_simp
   have K5:K_ N (N.alloc (.cells #[.string O,.bool ok,.bool fl,.string tx] 84)):=ah _ _;have f4:=Xz N #[.string O,.bool ok,.bool fl,.string tx] 84;have J:=H.trans K5;have b2:∀b,b<I.heap.size->¬q.heap.size<=b\/b=pb->(N.alloc (.cells #[.string O,.bool ok,.bool fl,.string tx] 84)).heap[b]? =I.heap[b]? :=λb hb _=>J.block b hb
   refine r.out _ _ (λ_=>P.o _ b2) ?_;clear r K j;obtain⟨eb,n2⟩:=ai N.heap.size;rw[<-n2] at f4⊢;generalize r6:N.alloc (.cells #[.string O,.bool ok,.bool fl,.string tx] 84)=w6 at f4 J b2⊢;clear r6 K5 n2;have j6:=Kz (ak n1.o J);have x6:=J.size;try simp only[upP]
   refine aj 13 (λK r=>?_);refine step_append_lies _ rfl (.tmp 40) (.tmp 51) 41 rfl q.heap.size 84 ic _ 4 40 underlying41 b6 r3 r4 r5 rfl A8 (.slice l k n) k (bX ((Kk.take k).map R)) D9 j6.o ⟨eb,0,none⟩ 1 1 [.string O,.bool ok,.bool fl,.string tx] D9 rfl (λr7 u hu=>by rw[OI];exact f4 r7 u hu) (λu hu=>by simp only[OL,OM,or_false] at hu;rcases hu with rfl | rfl | rfl | rfl <;> rfl) A7 D5 A7 A7 _ rfl ?_;intro g6 b8 w8 j7 n3 r8 x8;have j8:∀b,(Value.slice l k n).ownBlock=some b->q.heap.size<=b:=λb e=>(j6.o.lt b e).1
   have f5:But (λb=>(Value.slice l k n).ownBlock=some b) w6 w8:=But.aI n3 (λb e=>e);have j9:∀b,b<I.heap.size->¬q.heap.size<=b\/b=pb->w8.heap[b]? =I.heap[b]? :=λb hb hn=>(f5.block b A7 (λe=>by rcases hn with h | h;exact h (j8 b e);exact m9 b e h)).trans (b2 b hb hn)
   have f6:iH q d w8 Y (.slice l k n) 0 0:=(j5.o.kept J).alike f5 j8 q8;have x9:=f5.size;obtain⟨⟨_,b3⟩,b4⟩:=f6.row.row.at (i:=1) A7;have r9:=f6.row.lt;obtain⟨W8,b5⟩:=ai (w8.setCell ⟨d,1,none⟩ (.b g6 (k+1) b8));have d5:Hid (iH q d W8 Y (.b g6 (k+1) b8) 0 0):=by rw[b5];exact f6.set1 _
   have f7:Hid (W8.ownsRow q.heap.size 84 4 (.b g6 (k+1) b8) (k+1) (bX ((Kk.take (k+1)).map R))):=by
    rw[b5,j4.o,qC];exact (But.set (S:=λb=>b=d) (But.au (K_.refl w8)) (p:=⟨d,1,none⟩) rfl _).owns j7 (λb e e2=>by have:=(j7.lt b e).1;omega)
   refine af r (λ_=>P.o _ j9) ?_;clear r K j7 n3 r8 f6;have j:=P.o _ j9;refine ae 14 j ?_;refine aj 15 (λK r=>?_);go_simp
   rw[<-b5];refine af r (λh=>Pg rfl h) ?_;clear r K j;refine aG ?_;clear b5 b4 b3 j9 m9 j8 f5 f4 b2 j6 j5 n1 P B U H J r9;cases ok
   .have k0:Hid (sZ ((Kk.take (k+1)).map R) 1):=by rw[j4.o];exact sZ.no _ _ rfl
    have n4:=d5.o.c0;obtain⟨⟨_,y0⟩,y1⟩:=d5.o.row.row.at (i:=0) A7;have HF:=Kz (d5.o.set0 1);have HG:Hid ((W8.setCell ⟨d,0,none⟩ (.a 1)).ownsRow q.heap.size 84 4 (.b g6 (k+1) b8) (k+1) (bX ((Kk.take (k+1)).map R))):=(But.set (S:=λb=>b=d) (But.au (K_.refl W8)) (p:=⟨d,0,none⟩) rfl _).owns f7.o (λb e e2=>by have:=(f7.o.lt b e).1;omega);clear d5 f7;go_wp2
    go_roundw
    case rel=>exact⟨k+1,some ⟨g6,0,none⟩,b8,1,A7,C8,k0,HF,HG⟩
    case measure=>simp[intOf];omega
   .have k0:Hid (sZ ((Kk.take (k+1)).map R) Y):=by rw[j4.o];exact i8.o.yes _ rfl
    go_wp2
    go_roundw
    case rel=>exact⟨k+1,some ⟨g6,0,none⟩,b8,Y,A7,C8,k0,d5,f7⟩
    case measure=>simp[intOf];omega
  .have n5:¬((k:Int)<(Kk.length:Int)):=A7;have k3:k=Kk.length:=A7;have n6:Kk.take k=Kk:=by rw[k3];exact Ox
   rw[n6] at i8 U;have k5:=Kz k3;clear d2 k3 n6 hk;have n7:Hid (0=dX (L.take 0)/\0=gy (Q_ i) (L.take 0)):=⟨rfl,rfl⟩;go_wp2
   go_loopw [10] (λk6 wr=>∃(A:Nat) (C z:Int),A<=L.length/\k6= .a (A:Int)/\Hid (C=dX (L.take A)/\z=gy (Q_ i) (L.take A))/\Hid (iH q d wr Y (.slice l k n) C z)/\Hid (wr.ownsRow q.heap.size 84 4 (.slice l k n) k (bX (Kk.map R)))) (λk6 _=>L.length-(intOf k6).toNat)
   case atStart=>exact⟨0,0,0,NS _,rfl,n7,B,U⟩
   case round=>
    clear n7 B U c0 Z a0 Kr i9;obtain⟨A,C,z,X,rfl,HU,B,U⟩:=hrel;obtain⟨c0,b1,Kr,e8,f0,i9⟩:=HC.o wr B.o.but;have⟨Z,d6,n8,a0⟩:=jW b1 e8 f0 Kr;have m1:=b1.known.runs;have zk:=b1.known.row.lt;clear b1 e8 f0 Kr;have s0:=JI e7 d0.o.all q7 A;rw[<-HU.o.1,<-HU.o.2] at s0;by_cases d7:A<L.length
    .have y2:(A:Int)<(L.length:Int):=A7;obtain⟨g,rfl⟩:=uJ Z.o.own A7;obtain⟨ya,yc,f8,_,_,_⟩:=Z.o.pack.at Z.o.own d7;have s1:=(Z.o.own.lt g rfl).2;have s2:¬g=d:=λe=>by
      have h1:=Yz Z.o.own (b:=g) rfl;exact aK h1 B.o.row.type A8 e
     obtain⟨x,hx⟩:=ai (L.getD A Qz.zero);rw[<-hx] at f8;have k7:L[A]=x:=by rw[hx];simp[List.getD,d7]
     have n9:x∈L:=by rw[<-k7];exact Oa d7
     have t0:=f8 0 _ rfl;have t5:=f8 5 _ rfl;rw[OJ] at t0;have f9:=d0.o.all x n9;obtain⟨y3,hA,_⟩:=f9.act;have o0:=uL e7 x.name;have s3:0<=x.Zj/\x.Zj<=20:=⟨f9.lo,f9.hi⟩;have s4:=Mm s3 o0;obtain⟨nk,n5,o1,o2,o4⟩:=gY hA;obtain⟨Q,no,cs,s5,s6,o5,na,y4,e4,_⟩:=hN nk n5;subst s5;have o6:iB (Q_ i) x.name= (i.getD nk Qq.zero).cost:=by rw[pX hA,o4]
     have d8:wr.cell? ⟨Q,no+nk*3+1,none⟩=some (.a (iB (Q_ i) x.name)):=by rw[o6];exact (a0.o.cell s6).trans (o5 1 _ (by rw[e4];rfl))
     obtain⟨V,k8⟩:=ai (iB (Q_ i) x.name);rw[<-k8] at o0 s4 d8;have s7:Hid (∀a4:Int,Ju i x.name a4->a4= (nk:Int)):=λa4 hr=>by
      rcases hr with⟨k2,h1,rfl,h3,s8,h5⟩|⟨_,h2⟩
      .rcases Pd k2 nk with h|h|h
       .exact Pg s8 (o2 _ h)
       .rw[h]
       .exact Pg o1 (h5 _ h)
      .rw[hA] at h2;cases h2
     have y5:IntKind.i64.wrap (C+x.Zj)=C+x.Zj:=gZ A7 A7;have y6:IntKind.i64.wrap (x.Zj*V)=x.Zj*V:=gZ A7 A7;have y7:IntKind.i64.wrap (z+x.Zj*V)=z+x.Zj*V:=gZ A7 A7;have s9:Hid (C+x.Zj=dX (L.take (A+1))/\z+x.Zj*V=gy (Q_ i) (L.take (A+1))):=by
      rw[NY d7,CL,EC,k7,<-HU.o.1,<-HU.o.2,<-k8];exact⟨rfl,rfl⟩
     have o7:=B.o.row.lt;have y8:Q<w3.heap.size:=A7;have P:Hid (∀u:Pv,(∀b,b=w.heap.size\/b=Q\/b=T\/b=g\/b=d->u.heap[b]? =wr.heap[b]?)->J4 u d 3 (.a C)/\J4 u d 4 (.a z)/\J4 u T 1 (.b g L.length dc)/\J4 u g (A*7) (.string x.name)/\J4 u g (A*7+5) (.a x.Zj)/\J4 u w.heap.size 0 (.slice (some ⟨Q,no,none⟩) i.length G)/\J4 u Q (no+nk*3+1) (.a V)):=λu M=>⟨(Od (w:=wr) (M d (.inr (.inr (.inr (.inr rfl)))))).trans B.o.c3,(Od (w:=wr) (M d (.inr (.inr (.inr (.inr rfl)))))).trans B.o.c4,(Od (w:=wr) (M T (.inr (.inr (.inl rfl))))).trans m1,(Od (w:=wr) (M g (.inr (.inr (.inr (.inl rfl)))))).trans t0,(Od (w:=wr) (M g (.inr (.inr (.inr (.inl rfl)))))).trans t5,(Od (w:=wr) (M w.heap.size (.inl rfl))).trans c0,(Od (w:=wr) (M Q (.inr (.inl rfl)))).trans d8⟩
     clear c0 t0 t5 d8 f8 o5 o6 k8 hx k7 n9 f9 hA o4 o1 o2 e4 HU;have o8:w.heap.size<wr.heap.size:=A7;have t1:Q<wr.heap.size:=A7;have y9:d<wr.heap.size:=o7;have t2:Q≠d:=A7;have t3:w.heap.size≠d:=A7;go_upto_region 15 with fail
     clear m1;refine Cc 12 P.o (λ_ _=>rfl) λN H j=>?_
     obtain⟨⟨_,b3⟩,b4⟩:=(B.o.kept H).row.row.at (i:=3) A7;have d9:=(B.o.kept H).row.lt;refine ax 0 j ?_;refine ax 4 j ?_;refine ax 8 j ?_;refine aj 12 (λK r=>?_);go_simp
     refine af r (λh=>Pg rfl h) ?_;clear r K;refine aG ?_;clear b4 b3 d9;obtain⟨W5,b9⟩:=ai (N.setCell ⟨d,3,none⟩ (.a (C+x.Zj)));rw[<-b9];have e3:Hid (iH q d W5 Y (.slice l k n) (C+x.Zj) z):=by rw[b9];exact (B.o.kept H).set3 _
     have t4:Hid (W5.ownsRow q.heap.size 84 4 (.slice l k n) k (bX (Kk.map R))):=by
      rw[b9];have h:=ak U.o H;exact (But.set (S:=λb=>b=d) (But.au (K_.refl N)) (p:=⟨d,3,none⟩) rfl _).owns h (λb e e2=>by have:=(h.lt b e).1;omega)
     have t6:Hid (∀b,b≠d->b<wr.heap.size->W5.heap[b]? =wr.heap[b]?):=λb hb hz=>by rw[b9,Below.heap_setCell _ _ _ _ hb];exact H.block b hz
     have k9:Hid (∀u:Pv,(∀b,b=w.heap.size\/b=Q\/b=T\/b=g\/b=d->u.heap[b]? =W5.heap[b]?)->J4 u d 4 (.a z)/\J4 u T 1 (.b g L.length dc)/\J4 u g (A*7) (.string x.name)/\J4 u g (A*7+5) (.a x.Zj)/\J4 u w.heap.size 0 (.slice (some ⟨Q,no,none⟩) i.length G)/\J4 u Q (no+nk*3+1) (.a V)):=λu M=>by
      have ho:=P.o wr (λ_ _=>rfl);have e5:∀b o,(b=w.heap.size\/b=Q\/b=T\/b=g)->u.cell? ⟨b,o,none⟩=wr.cell? ⟨b,o,none⟩:=λb o hb=>(Od (w:=W5) (M b (by rcases hb with h | h | h | h;exact .inl h;exact .inr (.inl h);exact .inr (.inr (.inl h));exact .inr (.inr (.inr (.inl h)))))).trans (Od (w:=wr) (t6.o b (by rcases hb with h | h | h | h;(rw[h];exact t3);(rw[h];exact t2);(rw[h];exact m0);(rw[h];exact s2)) (by rcases hb with h | h | h | h;(rw[h];exact o8);(rw[h];exact t1);(rw[h];exact zk);(rw[h];exact s1))))
      exact⟨(Od (w:=W5) (M d (.inr (.inr (.inr (.inr rfl)))))).trans e3.o.c4,(e5 _ _ (.inr (.inr (.inl rfl)))).trans ho.2.2.1,(e5 _ _ (.inr (.inr (.inr rfl)))).trans ho.2.2.2.1,(e5 _ _ (.inr (.inr (.inr rfl)))).trans ho.2.2.2.2.1,(e5 _ _ (.inl rfl)).trans ho.2.2.2.2.2.1,(e5 _ _ (.inr (.inl rfl))).trans ho.2.2.2.2.2.2⟩
     have z2:wr.heap.size<=W5.heap.size:=by rw[b9,size_setCell];exact H.size
     clear b9 H B U P j;clear N;go_upto_region 16 with fail
     refine Cc 29 k9.o (λ_ _=>rfl) λN H j=>?_
     refine ax 0 j ?_;refine ax 4 j ?_;refine ax 8 j ?_;refine ax 12 j ?_;refine ax 16 j ?_;refine ae 20 j ?_;refine aF 21 (λK r=>?_);go_simp
     go_at_call 37
     have t7:K_ w N:=(HC.o W5 e3.o.but).2.2.1.trans H;refine (iA N (some ⟨Q,no,none⟩) G i x.name g3 (hN.kept t7)).mono ?_;rintro e w6 ⟨⟨a4,rfl,hr⟩,l0⟩;rw[s7.o a4 hr];have J:=H.trans l0;have b2:∀b,b=w.heap.size\/b=Q\/b=T\/b=g\/b=d->w6.heap[b]? =W5.heap[b]? :=λb hb=>J.block b A7
     have z3:(nk:Int)<(i.length:Int):=A7;clear hr;dsimp only;refine af r (λ_=>k9.o _ b2) ?_;clear r K j;have j:=k9.o _ b2;refine ax 22 j ?_;refine ae 26 j ?_;refine ae 27 j ?_;refine ae 28 j ?_;obtain⟨⟨_,b3⟩,b4⟩:=(e3.o.kept J).row.row.at (i:=4) A7;have d9:=(e3.o.kept J).row.lt;refine aj 29 (λK r=>?_);go_simp
     refine af r (λh=>Pg rfl h) ?_;clear r K;refine aG ?_;have t8:Hid (iH q d (w6.setCell ⟨d,4,none⟩ (.a (z+x.Zj*V))) Y (.slice l k n) (C+x.Zj) (z+x.Zj*V)):=(e3.o.kept J).set4 _;have t9:Hid ((w6.setCell ⟨d,4,none⟩ (.a (z+x.Zj*V))).ownsRow q.heap.size 84 4 (.slice l k n) k (bX (Kk.map R))):=by
      have h:=ak t4.o J;exact (But.set (S:=λb=>b=d) (But.au (K_.refl w6)) (p:=⟨d,4,none⟩) rfl _).owns h (λb e e2=>by have:=(h.lt b e).1;omega)
     clear b4 b3 d9 j;go_wp2
     go_roundw
     case rel=>exact⟨A+1,C+x.Zj,z+x.Zj*V,A7,C8,s9,t8,t9⟩
     case measure=>simp[intOf];omega
    .have z4:¬((A:Int)<(L.length:Int)):=A7;have o9:A=L.length:=A7;have g0:Hid (C=dX L/\z=gy (Q_ i) L):=by have h:=HU.o;rw[o9,Ox] at h;exact h
     have d3:Hid (oO wr l (Kk.map R)):=by
      obtain⟨a9,z5,e9,h9⟩:=yj U.o;simp only[OG] at e9;rw[e9.1];exact h9
     have g1:Hid ((Kk.map R).length=k):=by show _=_;rw[OY];exact k5.o.symm
     have n4:=B.o.c0;have o7:=B.o.row.lt;have a1:=Kz d0.o.sorted;clear d7 o9 HU U X;rcases i8.o with⟨l1,a3⟩|⟨l1,c8⟩
     .subst l1;have v5:=Kz a3;have z6:=B.o.c1;have z7:=B.o.c2;have o3:=B.o.c3;have z8:=B.o.c4;have l2:Hid (gL i Kk ⟨0,Kk.map R,[],C,z⟩):=⟨⟨by rw[g1.o];have:=k5.o;omega,NS _⟩,.inl ⟨c7.o,HY.o,_,a1.o.1,by rw[a1.o.2.1,i7.o],by rw[a1.o.2.2.1];exact g0.o.1,by rw[a1.o.2.2.2];exact g0.o.2,.inl ⟨v5.o,rfl,rfl⟩⟩⟩;clear a3;obtain⟨⟨⟨_,g5⟩,g7⟩,⟨⟨_,g8⟩,g9⟩,⟨⟨_,h0⟩,h4⟩,⟨⟨_,h6⟩,h7⟩,⟨_,i0⟩,i1⟩:=d6.o.row.uT;have i2:=d6.o.lt;go_wp2
      have hX:=NU wr (w.heap.size+1) 0 [.a 0,.slice l k n,J3,.a C,.a z] (d6.o.row.there (o:=0) (m:=5) (NQ _));refine X_ [.a 0,.slice l k n,J3,.a C,.a z] _ results11 rfl hX underlying43 rfl Tryz.dH rfl ⟨_,l,none,n,0, ?_,l2.o, ?_, ?_, ?_⟩
      .show Ending.returned _=Ending.returned _;rw[g1.o];try rfl
      .exact tC (vs:=[.a 0,.slice l k n,J3,.a C,.a z]) d3.o n8.o
      .exact (λA X=>by cases X)
      .exact bJ (g:=w.heap.size+1) A7 [.a 0,.slice l k n,J3,.a C,.a z] 0 a0.o
     .subst l1;have v6:=Kz c8;clear c8;have P:Hid (∀u,K_ wr u->J4 u w.heap.size 0 (.slice a i.length G)/\J4 u T 1 (.slice c9 L.length dc)):=λu K=>⟨(K.cell A7).trans c0,(K.cell zk).trans m1⟩
      have z9:(L.foldl dF []).length<=60:=NT a1.o.1.1.len i4;have o8:w.heap.size<wr.heap.size:=A7;go_upto_region 18 with fail
      clear c0 m1 n4;refine bn 9 P.o λN H j=>?_
      refine ax 0 j ?_;refine ae 4 j ?_;refine ae 5 j ?_;refine aF 6 (λK r=>?_);go_simp
      go_at_call 39
      refine (EO N rb ro rc Kk c9 dc L l7 A7 (λa4 hr=>by have h1:=(d0.o.all a4 hr).tl;have h2:=(d0.o.all a4 hr).hi;omega) (λk=>by have:=yu L k;omega) (hR.kept (a0.o.trans H)) (Z.o.runs.kept H)).mono ?_;rintro e w6 ⟨sa,sc,td,tc,zs,rfl,v7,p0,p1,l0⟩;have J:=H.trans l0;have v8:Hid (fw w6 td (L.foldl dF [])):=by
       obtain⟨_,a8,A0,p2,h8⟩:=df.runs p0 p1 (K_.refl _);simp only[OG,true_and] at p2;rw[<-p2.1] at h8;exact h8.runs
      clear v7 p0 p1;dsimp only;refine af r (λ_=>P.o _ J) ?_;clear r K j;refine aF 7 (λK r=>?_);go_simp
      go_at_call 38
      refine (BH w6 a G i sa Kk.length sc td tc (L.foldl dF []) g3 A7 e7 a1.o.1.1 (hN.kept (a0.o.trans J)) v8.o).mono ?_;rintro e w7 ⟨E,F,D,rfl,d8,p3,l3,v9⟩;have K7:=J.trans v9;dsimp only;refine af r (λ_=>P.o _ K7) ?_;clear r K;have j:=P.o _ K7;refine ae 8 j ?_;obtain⟨⟨_,b3⟩,b4⟩:=(B.o.kept K7).row.row.at (i:=2) A7;have d9:=(B.o.kept K7).row.lt;refine aj 9 (λK r=>?_);go_simp
      refine af r (λh=>Pg rfl h) ?_;clear r K;refine aG ?_;clear j;have a2:=Kz (B.o.kept K7);have l2:Hid (gL i Kk ⟨1,Kk.map R,D,C,z⟩):=⟨⟨by rw[g1.o];have:=k5.o;omega,by
       have h1:=l3.len lG;rw[OY] at h1;show D.length<=60;omega⟩,.inl ⟨c7.o,HY.o,_,a1.o.1,by rw[a1.o.2.1,i7.o],by rw[a1.o.2.2.1];exact g0.o.1,by rw[a1.o.2.2.2];exact g0.o.2,.inr ⟨v6.o,rfl,l3.Nk lG⟩⟩⟩
      have p4:=Kz (DT (g:=d) (o:=2) (v:= .slice E D.length F) p3 a2.o.no);have p5:=Kz (DD (g:=d) (o:=2) (v:= .slice E D.length F) (d3.o.kept K7) a2.o.no);have g2:Hid (aB (w7.setCell ⟨d,2,none⟩ (.slice E D.length F)) (w.heap.size+1) 43 5):=(d6.o.kept K7).block (Below.heap_setCell _ _ _ _ (by show w.heap.size+1≠d;omega));have l4:Hid (nE (w7.setCell ⟨d,2,none⟩ (.slice E D.length F)) (w.heap.size+1)):=λo s e=>n8.o.kept d6.o.lt K7 o s ((Zk A7).symm.trans e)
      have p6:Hid (K_ w (w7.setCell ⟨d,2,none⟩ (.slice E D.length F))):=(a0.o.trans K7).setCell (by show w.heap.size<=d;omega) _;have⟨q0,q1,q3,q4⟩:J4 (w7.setCell ⟨d,2,none⟩ (.slice E D.length F)) d 0 (.a 1)/\J4 (w7.setCell ⟨d,2,none⟩ (.slice E D.length F)) d 1 (.slice l k n)/\J4 (w7.setCell ⟨d,2,none⟩ (.slice E D.length F)) d 3 (.a C)/\J4 (w7.setCell ⟨d,2,none⟩ (.slice E D.length F)) d 4 (.a z):=⟨miss a2.o.c0 A8,miss a2.o.c1 A8,miss a2.o.c3 A8,miss a2.o.c4 A8⟩;have q2:J4 (w7.setCell ⟨d,2,none⟩ (.slice E D.length F)) d 2 (.slice E D.length F):=bu a2.o.row.row A7 _;have w0:d<(w7.setCell ⟨d,2,none⟩ (.slice E D.length F)).heap.size:=by rw[size_setCell];exact a2.o.row.lt
      obtain⟨W8,b5⟩:=ai (w7.setCell ⟨d,2,none⟩ (.slice E D.length F));rw[<-b5] at p4 p5 g2 l4 p6 q0 q1 q2 q3 q4 w0⊢;clear d8 p3 l3 a2 b5 b4 b3 d9;obtain⟨⟨⟨_,g5⟩,g7⟩,⟨⟨_,g8⟩,g9⟩,⟨⟨_,h0⟩,h4⟩,⟨⟨_,h6⟩,h7⟩,⟨_,i0⟩,i1⟩:=g2.o.row.uT;have i2:=g2.o.lt;go_wp2
      have hX:=NU W8 (w.heap.size+1) 0 [.a 1,.slice l k n,.slice E D.length F,.a C,.a z] (g2.o.row.there (o:=0) (m:=5) (NQ _));refine X_ [.a 1,.slice l k n,.slice E D.length F,.a C,.a z] _ results11 rfl hX underlying43 rfl Tryz.dH rfl ⟨_,l,E,n,F, ?_,l2.o, ?_, ?_, ?_⟩
      .show Ending.returned _=Ending.returned _;rw[g1.o];try rfl
      .exact tC (vs:=[.a 1,.slice l k n,.slice E D.length F,.a C,.a z]) p5.o l4.o
      .exact BL (vs:=[.a 1,.slice l k n,.slice E D.length F,.a C,.a z]) p4.o l4.o
      .exact bJ (g:=w.heap.size+1) A7 [.a 1,.slice l k n,.slice E D.length F,.a C,.a z] 0 p6.o
