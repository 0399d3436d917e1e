import Derived.Test.YtppbfddlkfglgaaGreatDoorKXAll
import Derived.Test.YtppbfddlkfglgaaGreatDoorKXToldL
set_option maxRecDepth 100000
set_option maxHeartbeats 25600000
namespace Go.Proofs.YtppbfddlkfglgaaGreatDoor
open Go.RowKit Go.Proofs.Tryz
def EG(Kq:List Qz)(Kj:List QV)(w w':QX)(e:Ending):Prop:=
 ∃(o:Ao)(a f:QW)(c e0:Nat),e=.returned (.agg #[.b o.code,.slice a o.res.length c,.slice f o.chain.length e0,.b o.dZ,.b o.cost])/\yN Kq Kj o/\si w' a o.res/\Strs w' f o.chain/\K_ w w'
def sS(l:List fE)(code:Int):Prop:=(code=0/\¬∃r∈l,r.over=false)\/(code=1/\∃r∈l,r.over=false)
theorem sS.yes{l:List fE}{e:Int}(h:sS l e)(r:fE)(f:r.over=true):sS (l++[r]) e:=by
 rcases h with⟨a,b⟩|⟨a,x,c,b⟩
 .refine .inl ⟨a,λ⟨x,c,d⟩=>?_⟩;rcases PK.1 c with h|h
  .exact b ⟨x,h,d⟩
  .rw[PI] at h;rw[h,f] at d;cases d
 .exact .inr ⟨a,x,PK.2 (.inl c),b⟩
theorem sS.no(l:List fE)(r:fE)(a:r.over=false):sS (l++[r]) 1:=.inr ⟨rfl,r,PK.2 (.inr (PI.2 rfl)),a⟩
theorem Ls{Kq:List Qz}(c:aX (Kk Kq)){l:List Q_}(a:∀r∈l,r.Good Kq)(f:l.length<=60)(k:Nat):0<=dW (l.take k)/\dW (l.take k)<=1200/\0<=bJ (Kk Kq) (l.take k)/\bJ (Kk Kq) (l.take k)<=24000:=by
 have h:∀r∈l.take k,0<=r.Zq/\r.Zq<=20:=λr b=>⟨(a r (List.mem_of_mem_take b)).lo,(a r (List.mem_of_mem_take b)).hi⟩
 have d:=xU h;have e:=wU c h;have i:(l.take k).length<=60:=F3;exact⟨d.1,A7,e.1,A7⟩
theorem Am(w:QX)(a:QW)(cap:Nat)(Kq:List Qz)(ra:QW)(rc:Nat)(Kj:List QV)(g3:Kq.length<=1048576)(l4:∀y∈Kq,y.Fits)(w0:Kj.length<=1048576)(p8:∀s∈Kj,s.size<=maxLen)(hN:dS w a Kq)(hR:Strs w ra Kj):
  Calls prog 5 #[.agg #[.slice a Kq.length cap],.slice ra Kj.length rc] w λe w'=>EG Kq Kj w w' e:=by
 obtain⟨V,a6⟩:=aj ((w.alloc (.cells #[.slice a Kq.length cap] 25)).alloc (.cells #[.b 0,J6,J6,.b 0,.b 0] 31));have kB:K_ w V:=by rw[a6];exact (ai _ _).alloc _
 have p9:V.heap.size=w.heap.size+2:=by rw[a6];simp
 have b0:V.cell? ⟨w.heap.size,0,none⟩=some (.slice a Kq.length cap):=by
  rw[a6];exact (FM (w:=w) (v:=.slice a Kq.length cap) (t:=25) (ai _ _)).1
 have e6:Hid (aH V (w.heap.size+1) 31 5):=by
  have h:=aH.made (w.alloc (.cells #[.slice a Kq.length cap] 25)) #[.b 0,J6,J6,.b 0,.b 0] 31;rw[Qh] at h;rw[a6];exact h
 have l5:Hid (nO V (w.heap.size+1)):=by
  have h:=JN (w:=w.alloc (.cells #[.slice a Kq.length cap] 25)) (k:=0) (m:=0) (n:=0) (a:=none) (f:=none) (c:=0) (e0:=0) (rl:=0) (cl:=0) (t:=31);rw[Qh] at h;rw[a6];exact h
 have z0:w.heap.size<V.heap.size:=A7;have z1:w.heap.size+1<V.heap.size:=A7;have c5:Hid (∀w',K_ V w'->w'.cell? ⟨w.heap.size,0,none⟩=some (.slice a Kq.length cap)/\w.heap.size<w'.heap.size):=λw' K=>⟨(K.cell z0).trans b0,Px z0 K.size⟩
 have g4:Hid (¬(bC Kq 0/\fJ Kj)->∀u,K_ V u->EG Kq Kj w (u.setCells (w.heap.size+1) 0 [.b 9,J6,J6,.b 0,.b 0]) (.returned (.agg #[.b 9,J6,J6,.b 0,.b 0]))):=λhn u ku=>⟨Ko,none,none,0,0,rfl,⟨⟨Py _,Py _⟩,.inr ⟨hn,rfl⟩⟩,(λA W=>by cases W),(λA W=>by cases W),dL (g:=w.heap.size+1) A7 _ 0 (kB.trans ku)⟩
 have c6:=Kz kB;clear kB p9 b0 z0;go_enter func5,ntmps5
 go_upto_region 1 with fail
 rw[<-a6];clear a6;obtain⟨b0,z0⟩:=c5.o _ (K_.refl _);go_wp2_with fail
 refine (nH _ a cap Kq D6 l4 (hN.kept c6.o)).mono ?_;rintro e w1 ⟨⟨c,rfl,hc⟩,k1⟩;clear b0 z0;obtain⟨b0,z0⟩:=c5.o _ k1;by_cases b6:c=0;rotate_left
 .have w4:(c != 0)=true:=by simpa using b6
  have q5:Hid (¬bC Kq 0):=λh=>b6 (hc.unique h)
  have a7:=Kz (e6.o.kept k1);obtain⟨⟨⟨_,g5⟩,g7⟩,⟨⟨_,g8⟩,g9⟩,⟨⟨_,h0⟩,h3⟩,⟨⟨_,h6⟩,h7⟩,⟨_,i0⟩,i1⟩:=a7.o.row.GR;have i2:=a7.o.lt;clear b6 hc;go_wp2_with fail
  have hX:=PD w1 (w.heap.size+1) 0 [.b 9,J6,J6,.b 0,.b 0] (a7.o.row.there (o:=0) (m:=5) (Pw _));exact Zx [.b 9,J6,J6,.b 0,.b 0] _ results5 rfl hX underlying31 rfl Tryz.gT rfl (g4.o (λh=>q5.o h.1) w1 k1)
 subst b6;have c7:=Kz hc;clear hc;go_wp2_with fail
 refine (zR _ ra rc Kj D6 p8 (hR.kept (c6.o.trans k1))).mono ?_;rintro e w2 ⟨i3,k2⟩;have K2:=k1.trans k2;clear b0 z0;obtain⟨b0,z0⟩:=c5.o _ K2;rcases i3.cases with⟨rfl,c8⟩|⟨rfl,a4⟩;rotate_left
 .have q6:=Kz a4;have a7:=Kz (e6.o.kept K2);obtain⟨⟨⟨_,g5⟩,g7⟩,⟨⟨_,g8⟩,g9⟩,⟨⟨_,h0⟩,h3⟩,⟨⟨_,h6⟩,h7⟩,⟨_,i0⟩,i1⟩:=a7.o.row.GR;have i2:=a7.o.lt;clear a4 i3;go_wp2_with fail
  have hX:=PD w2 (w.heap.size+1) 0 [.b 9,J6,J6,.b 0,.b 0] (a7.o.row.there (o:=0) (m:=5) (Pw _));exact Zx [.b 9,J6,J6,.b 0,.b 0] _ results5 rfl hX underlying31 rfl Tryz.gT rfl (g4.o (λh=>q6.o h.2) w2 K2)
 have HY:=Kz c8;clear c8 i3 g4;obtain⟨rb,ro,rfl,w5,_⟩:=hR 0 (by have:=HY.o.1;omega);have i4:=kQ c7.o;have l6:=HY.o.2.1;have e7:=iC c7.o;have i5:=c6.o.trans K2;have q7:Hid (∀l7∈Kj,l7.size<=20):=λl7 hn=>by
  obtain⟨A,W,rfl⟩:=PN hn;have h:=(HY.o.2.2 A W).1.2.1;simpa[List.getD,W] using h
 go_wp2_with fail
 refine (JV w2 a cap Kq (some ⟨rb,ro,none⟩) rc Kj i4 l4 (IG c7.o) e7 l6 (hN.kept i5) (hR.kept i5)).mono ?_;rintro e w3 ⟨Q,L,c9,dc,xs,rfl,w9,hO,hZ⟩;have d0:=Kz hO;have q8:=Pz hO.len i4;have K3:=K2.trans hZ.kw;obtain⟨d,a8⟩:=aj w3.heap.size;obtain⟨q,b7⟩:=aj (w3.alloc (.cells #[.b 0,J6,J6,.b 0,.b 0] 31));have kO:K_ w3 q:=by rw[b7];exact ai _ _
 have q9:d<q.heap.size:=by rw[b7,a8];simp
 have i6:Hid (iK q d q 0 J6 0 0):=by
  obtain⟨q0,q1,q2,q3,q4⟩:=Bp (w:=w3) (w1:=q) (v0:=.b 0) (v1:= J6) (v2:= J6) (v3:=.b 0) (v4:=.b 0) (t:=31) (by rw[b7];exact K_.refl _);rw[<-a8] at q0 q1 q2 q3 q4;exact⟨But.ak (K_.refl _),by rw[b7,a8];exact aH.made w3 _ _,q0,q1,q2,q3,q4⟩
 have l8:=Kz (hZ.kept kO).again;have d1:K_ V q:=K3.trans kO;have r0:w.heap.size+1<w3.heap.size:=Px z1 K3.size;have l9:¬Q=d:=by have:=hZ.known.row.lt;omega
 have r1:w2.heap.size<=d:=by rw[a8];exact hZ.kw.size
 have x0:w.heap.size+1<d:=by rw[a8];exact r0
 have HC:Hid (∀u,But (λb=>b=d) q u->u.cell? ⟨w.heap.size,0,none⟩=some (.slice a Kq.length cap)/\KnZ w2 u u Q (.slice c9 L.length dc) a Kq.length cap L c9 dc xs/\K_ w u/\aH u (w.heap.size+1) 31 5/\nO u (w.heap.size+1)/\q.heap.size<=u.heap.size):=λu h=>by
  have x1:=kO.size;refine⟨(h.cell A7 λ(e:w.heap.size=d)=>A7).trans (c5.o _ d1).1,?_,h.kept (c6.o.trans d1) (λb e=>by rw[e];omega),h.row (e6.o.kept d1) λ(e:w.heap.size+1=d)=>A7,λo s e=>(l5.o.kept z1 d1) o s ((h.cell A7 λ(e:w.heap.size+1=d)=>A7).symm.trans e),h.size⟩;refine l8.o.but h (λb e=>by rw[e];exact r1) l9 (λb e (e2:b=d)=>?_) (λb (e:b=d) ht=>aN i6.o.row.type (by rw[e] at ht;exact ht) A8 rfl);have:=(hZ.own.lt b e).2;omega
 obtain⟨R,m0⟩:=aj (uF (Kk Kq) (Qq L));have i7:=Kz m0;go_upto_region 5 with fail
 rw[<-b7,<-a8];clear m0 a8 b7 b0 z0 kO d1 l8 c5 hZ hO e6 l5 c6 i5 K2 K3 k1 k2;go_wp2
 go_loopw [7] (λx7 wr=>∃(k:Nat)(l:QW)(n:Nat)(X:Int),k<=Kj.length/\x7=.b (k:Int)/\Hid (sS ((Kj.take k).map R) X)/\Hid (iK q d wr X (.slice l k n) 0 0)/\Hid (wr.ownsRow q.heap.size 54 4 (.slice l k n) k (bS ((Kj.take k).map R)))) λx7 _=>Kj.length-(intOf x7).toNat
 case atStart=>exact⟨0,none,0,0,Py _,rfl,Kz (.inl ⟨rfl,λ⟨_,h,_⟩=>by cases h⟩),i6,Kz (Qt _ _ _ _)⟩
 case round=>
  clear i6;obtain⟨k,l,n,X,hk,rfl,i8,B,T⟩:=hrel;obtain⟨c0,b1,Kr,e8,e9,i9⟩:=HC.o wr B.o.but;have⟨Y,Z⟩:=aJ b1 Kr;clear b1 e8 e9;by_cases d2:k<Kj.length
  .have x2:(k:Int)<(Kj.length:Int):=A7;obtain⟨sb,so,e1,m2,j0⟩:=hR k d2;simp only[Ql,QS,and_true] at e1;obtain⟨rfl,rfl⟩:=e1;obtain⟨N,j1⟩:=aj (Kj.getD k ByteArray.empty);rw[<-j1] at j0;have m3:=(Z.o.cell m2).trans j0;have m4:rb<wr.heap.size:=Px m2 Z.o.size;clear j0;have j2:Kj[k]=N:=by rw[j1];simp[List.getD,d2]
   have m5:N∈Kj:=by rw[<-j2];exact PL d2
   have m6:=Kz j2;have x3:=q7.o N m5;clear j1 j2 m5;go_wp2_with fail
   refine (vY wr Q a cap Kq c9 dc L N g3 A7 A7 Y.o.known (hN.kept Z.o) Y.o.runs).mono ?_;rintro e f1 ⟨⟨a0,a1,ok,rfl,m7,a4⟩,j3⟩;have d3:Hid (R N= ⟨N,ok,a0,a1⟩):=by
    show R N=_;rw[i7.o];unfold uF;rw[m7];cases ok
    .obtain⟨h1,h2⟩:=a4 rfl;rw[h1,h2]
     rfl
    .rfl
   have j4:Hid ((Kj.take (k+1)).map R= (Kj.take k).map R++[⟨N,ok,a0,a1⟩]):=by
    show _=_;rw[PH d2,QM,m6.o,<-d3.o]
    rfl
   obtain⟨H,d4⟩:=aj (f1.alloc (.cells #[.bool a0,.string a1] 50));have m8:K_ f1 H:=by rw[d4];exact ai _ _
   obtain⟨pb,f2⟩:=aj (f1.heap.size);have f3:=O_ (w:=f1) (v0:=.bool a0) (v1:=.string a1) (t:=50) (w1:=H) (by rw[d4];exact K_.refl _);rw[<-f2] at f3;have K4:=j3.trans m8;have m9:∀b,(Value.slice l k n).ownBlock=some b->b≠pb:=λb e=>by have h1:=(T.o.lt b e).2;have h2:=j3.size;omega
   have n0:pb<H.heap.size:=by rw[d4,f2];simp
   have j5:=Kz (B.o.kept K4);have n1:=Kz (ay T.o K4);have r2:rb<H.heap.size:=Px m4 K4.size;have x4:q.heap.size<=H.heap.size:=Pz i9 K4.size;have r3:d<H.heap.size:=A7;have O:Hid (∀u:QX,(∀b,b<H.heap.size->¬q.heap.size<=b\/b=pb->u.heap[b]? =H.heap[b]?)->u.cell? ⟨d,1,none⟩=some (.slice l k n)/\u.cell? ⟨rb,ro+k,none⟩=some (.string N)/\u.cell? ⟨pb,0,none⟩=some (.bool a0)/\u.cell? ⟨pb,1,none⟩=some (.string a1)):=λu J=>by
    exact⟨(PO (w:=H) (J d r3 (.inl A7))).trans j5.o.c1,(PO (w:=H) (J rb r2 (.inl A7))).trans ((K4.cell m4).trans m3),(PO (w:=H) (J pb n0 (.inr rfl))).trans f3.1,(PO (w:=H) (J pb n0 (.inr rfl))).trans f3.2⟩
   obtain⟨ic,b6,r4,r5,r6⟩:=bi Tryz.sH;go_upto_region 9 with fail
   rw[<-d4,<-f2];clear d4 f2 f3 m8 j3 m7 a4 c0 m3 d3 m6;refine tN 15 O.o (λ_ _ _=>rfl) λM G i=>?_
   refine ax 0 i ?_;refine ax 4 i ?_;refine ax 8 i ?_;refine au 12 λK r=>?_;go_simp
   have K5:K_ M (M.alloc (.cells #[.string N,.bool ok,.bool a0,.string a1] 54)):=ai _ _;have f4:=X_ M #[.string N,.bool ok,.bool a0,.string a1] 54;have I:=G.trans K5;have b2:∀b,b<H.heap.size->¬q.heap.size<=b\/b=pb->(M.alloc (.cells #[.string N,.bool ok,.bool a0,.string a1] 54)).heap[b]? =H.heap[b]? :=λb hb _=>I.block b hb
   refine r.out _ _ (λ_=>O.o _ b2) ?_;clear r K i;obtain⟨eb,n2⟩:=aj M.heap.size;rw[<-n2] at f4⊢;generalize r7:M.alloc (.cells #[.string N,.bool ok,.bool a0,.string a1] 54)=w6 at f4 I b2⊢;clear r7 K5 n2;have j6:=Kz (ay n1.o I);have x5:=I.size;try simp only[upP]
   refine au 13 λK r=>?_;refine step_append_lies _ rfl (.tmp 40) (.tmp 51) 29 rfl q.heap.size 54 ic _ 4 40 underlying29 b6 r4 r5 r6 rfl A8 (.slice l k n) k (bS ((Kj.take k).map R)) E5 j6.o ⟨eb,0,none⟩ 1 1 [.string N,.bool ok,.bool a0,.string a1] E5 rfl (λj u hu=>by rw[Qo];exact f4 j u hu) (λu hu=>by simp only[Qr,Qs,or_false] at hu;rcases hu with rfl|rfl|rfl|rfl<;>rfl) A7 D6 A7 A7 _ rfl ?_;intro g6 b8 w8 j7 n3 r8 x6;have j8:∀b,(Value.slice l k n).ownBlock=some b->q.heap.size<=b:=λb e=>(j6.o.lt b e).1
   have f5:But (λb=>(Value.slice l k n).ownBlock=some b) w6 w8:=But.aI n3 λb e=>e;have j9:∀b,b<H.heap.size->¬q.heap.size<=b\/b=pb->w8.heap[b]? =H.heap[b]? :=λb hb hn=>(f5.block b A7 λe=>by rcases hn with h|h;exact h (j8 b e);exact m9 b e h).trans (b2 b hb hn)
   have f6:iK q d w8 X (.slice l k n) 0 0:=(j5.o.kept I).alike f5 j8 q9;have x8:=f5.size;obtain⟨⟨_,b3⟩,b4⟩:=f6.row.row.at (i:=1) A7;have r9:=f6.row.lt;obtain⟨W8,b5⟩:=aj (w8.setCell ⟨d,1,none⟩ (.c g6 (k+1) b8));have d5:Hid (iK q d W8 X (.c g6 (k+1) b8) 0 0):=by rw[b5];exact f6.set1 _
   have f7:Hid (W8.ownsRow q.heap.size 54 4 (.c g6 (k+1) b8) (k+1) (bS ((Kj.take (k+1)).map R))):=by
    rw[b5,j4.o,qA];exact (But.set (S:=λb=>b=d) (But.ak (K_.refl w8)) (p:=⟨d,1,none⟩) rfl _).owns j7 (λb e e2=>by have:=(j7.lt b e).1;omega)
   refine af r (λ_=>O.o _ j9) ?_;clear r K j7 n3 r8 f6;have i:=O.o _ j9;refine ae 14 i ?_;refine au 15 λK r=>?_;go_simp
   rw[<-b5];refine af r (λh=>QK rfl h) ?_;clear r K i;refine aF ?_;clear b5 b4 b3 j9 m9 j8 f5 f4 b2 j6 j5 n1 O B T G I r9;cases ok
   .have k0:Hid (sS ((Kj.take (k+1)).map R) 1):=by rw[j4.o];exact sS.no _ _ rfl
    have n4:=d5.o.c0;obtain⟨⟨_,f0⟩,x9⟩:=d5.o.row.row.at (i:=0) A7;have HF:=Kz (d5.o.set0 1);have HG:Hid ((W8.setCell ⟨d,0,none⟩ (.b 1)).ownsRow q.heap.size 54 4 (.c g6 (k+1) b8) (k+1) (bS ((Kj.take (k+1)).map R))):=(But.set (S:=λb=>b=d) (But.ak (K_.refl W8)) (p:=⟨d,0,none⟩) rfl _).owns f7.o (λb e e2=>by have:=(f7.o.lt b e).1;omega);clear d5 f7;go_wp2
    go_roundw
    case rel=>exact⟨k+1,some ⟨g6,0,none⟩,b8,1,A7,C8,k0,HF,HG⟩
    case measure=>simp[intOf];omega
   .have k0:Hid (sS ((Kj.take (k+1)).map R) X):=by rw[j4.o];exact i8.o.yes _ rfl
    go_wp2
    go_roundw
    case rel=>exact⟨k+1,some ⟨g6,0,none⟩,b8,X,A7,C8,k0,d5,f7⟩
    case measure=>simp[intOf];omega
  .have n5:¬((k:Int)<(Kj.length:Int)):=A7;have k3:k=Kj.length:=A7;have n6:Kj.take k=Kj:=by rw[k3];exact Qc
   rw[n6] at i8 T;have k4:=Kz k3;clear d2 k3 n6 hk;have n7:Hid (0=dW (L.take 0)/\0=bJ (Kk Kq) (L.take 0)):=⟨rfl,rfl⟩;go_wp2
   go_loopw [10] (λk5 wr=>∃(A:Nat)(C z:Int),A<=L.length/\k5=.b (A:Int)/\Hid (C=dW (L.take A)/\z=bJ (Kk Kq) (L.take A))/\Hid (iK q d wr X (.slice l k n) C z)/\Hid (wr.ownsRow q.heap.size 54 4 (.slice l k n) k (bS (Kj.map R)))) λk5 _=>L.length-(intOf k5).toNat
   case atStart=>exact⟨0,0,0,Py _,rfl,n7,B,T⟩
   case round=>
    clear n7 B T c0 Y Z Kr i9;obtain⟨A,C,z,W,rfl,HU,B,T⟩:=hrel;obtain⟨c0,b1,Kr,e8,e9,i9⟩:=HC.o wr B.o.but;have⟨Y,d6,n8,Z⟩:=qH b1 e8 e9 Kr;have m1:=b1.known.runs;have zk:=b1.known.row.lt;clear b1 e8 e9 Kr;have s0:=Ls e7 d0.o.all q8 A;rw[<-HU.o.1,<-HU.o.2] at s0;by_cases d7:A<L.length
    .have y0:(A:Int)<(L.length:Int):=A7;obtain⟨g,rfl⟩:=uR Y.o.own A7;obtain⟨ya,yc,f8,_,_,_⟩:=Y.o.pack.at Y.o.own d7;have s1:=(Y.o.own.lt g rfl).2;have s2:¬g=d:=λe=>by
      have h1:=Y_ Y.o.own (b:=g) rfl;exact aN h1 B.o.row.type A8 e
     obtain⟨x,hx⟩:=aj (L.getD A Q_.zero);rw[<-hx] at f8;have k6:L[A]=x:=by rw[hx];simp[List.getD,d7]
     have n9:x∈L:=by rw[<-k6];exact PL d7
     have t0:=f8 0 _ rfl;have t5:=f8 5 _ rfl;rw[Qp] at t0;have f9:=d0.o.all x n9;obtain⟨y1,hA,_⟩:=f9.act;have o0:=lh e7 x.name;have s3:0<=x.Zq/\x.Zq<=20:=⟨f9.lo,f9.hi⟩;have s4:=LY s3 o0;obtain⟨nk,n5,o2,o3,o4⟩:=iq hA;obtain⟨P,no,cs,s5,s6,o5,na,y2,e4,_⟩:=hN nk n5;subst s5;have o6:iE (Kk Kq) x.name= (Kq.getD nk Qz.zero).cost:=by rw[vO hA,o4]
     have d8:wr.cell? ⟨P,no+nk*3+1,none⟩=some (.b (iE (Kk Kq) x.name)):=by rw[o6];exact (Z.o.cell s6).trans (o5 1 _ (by rw[e4];rfl))
     obtain⟨U,k7⟩:=aj (iE (Kk Kq) x.name);rw[<-k7] at o0 s4 d8;have s7:Hid (∀a5:Int,LX Kq x.name a5->a5= (nk:Int)):=λa5 hr=>by
      rcases hr with⟨k2,h1,rfl,y3,h4,h5⟩|⟨_,h2⟩
      .rcases QH k2 nk with h|h|h
       .exact QK h4 (o3 _ h)
       .rw[h]
       .exact QK o2 (h5 _ h)
      .rw[hA] at h2;cases h2
     have y4:IntKind.i64.wrap (C+x.Zq)=C+x.Zq:=df A7 A7;have y5:IntKind.i64.wrap (x.Zq*U)=x.Zq*U:=df A7 A7;have y6:IntKind.i64.wrap (z+x.Zq*U)=z+x.Zq*U:=df A7 A7;have s8:Hid (C+x.Zq=dW (L.take (A+1))/\z+x.Zq*U=bJ (Kk Kq) (L.take (A+1))):=by
      rw[PH d7,vS,xK,k6,<-HU.o.1,<-HU.o.2,<-k7];exact⟨rfl,rfl⟩
     have o7:=B.o.row.lt;have y7:P<w3.heap.size:=A7;have O:Hid (∀u:QX,(∀b,b=w.heap.size\/b=P\/b=Q\/b=g\/b=d->u.heap[b]? =wr.heap[b]?)->u.cell? ⟨d,3,none⟩=some (.b C)/\u.cell? ⟨d,4,none⟩=some (.b z)/\u.cell? ⟨Q,1,none⟩=some (.c g L.length dc)/\u.cell? ⟨g,A*7,none⟩=some (.string x.name)/\u.cell? ⟨g,A*7+5,none⟩=some (.b x.Zq)/\u.cell? ⟨w.heap.size,0,none⟩=some (.slice (some ⟨P,no,none⟩) Kq.length cap)/\u.cell? ⟨P,no+nk*3+1,none⟩=some (.b U)):=λu J=>⟨(PO (w:=wr) (J d (.inr (.inr (.inr (.inr rfl)))))).trans B.o.c3,(PO (w:=wr) (J d (.inr (.inr (.inr (.inr rfl)))))).trans B.o.c4,(PO (w:=wr) (J Q (.inr (.inr (.inl rfl))))).trans m1,(PO (w:=wr) (J g (.inr (.inr (.inr (.inl rfl)))))).trans t0,(PO (w:=wr) (J g (.inr (.inr (.inr (.inl rfl)))))).trans t5,(PO (w:=wr) (J w.heap.size (.inl rfl))).trans c0,(PO (w:=wr) (J P (.inr (.inl rfl)))).trans d8⟩
     clear c0 t0 t5 d8 f8 o5 o6 k7 hx k6 n9 f9 hA o4 o2 o3 e4 HU;have o8:w.heap.size<wr.heap.size:=A7;have s9:P<wr.heap.size:=A7;have y8:d<wr.heap.size:=o7;have t1:P≠d:=A7;have t2:w.heap.size≠d:=A7;go_upto_region 15 with fail
     clear m1;refine tN 12 O.o (λ_ _=>rfl) λM G i=>?_
     obtain⟨⟨_,b3⟩,b4⟩:=(B.o.kept G).row.row.at (i:=3) A7;have d9:=(B.o.kept G).row.lt;refine ax 0 i ?_;refine ax 4 i ?_;refine ax 8 i ?_;refine au 12 λK r=>?_;go_simp
     refine af r (λh=>QK rfl h) ?_;clear r K;refine aF ?_;clear b4 b3 d9;obtain⟨W5,b9⟩:=aj (M.setCell ⟨d,3,none⟩ (.b (C+x.Zq)));rw[<-b9];have e3:Hid (iK q d W5 X (.slice l k n) (C+x.Zq) z):=by rw[b9];exact (B.o.kept G).Po _
     have t3:Hid (W5.ownsRow q.heap.size 54 4 (.slice l k n) k (bS (Kj.map R))):=by
      rw[b9];have h:=ay T.o G;exact (But.set (S:=λb=>b=d) (But.ak (K_.refl M)) (p:=⟨d,3,none⟩) rfl _).owns h (λb e e2=>by have:=(h.lt b e).1;omega)
     have t4:Hid (∀b,b≠d->b<wr.heap.size->W5.heap[b]? =wr.heap[b]?):=λb hb hz=>by rw[b9,Below.heap_setCell _ _ _ _ hb];exact G.block b hz
     have k8:Hid (∀u:QX,(∀b,b=w.heap.size\/b=P\/b=Q\/b=g\/b=d->u.heap[b]? =W5.heap[b]?)->u.cell? ⟨d,4,none⟩=some (.b z)/\u.cell? ⟨Q,1,none⟩=some (.c g L.length dc)/\u.cell? ⟨g,A*7,none⟩=some (.string x.name)/\u.cell? ⟨g,A*7+5,none⟩=some (.b x.Zq)/\u.cell? ⟨w.heap.size,0,none⟩=some (.slice (some ⟨P,no,none⟩) Kq.length cap)/\u.cell? ⟨P,no+nk*3+1,none⟩=some (.b U)):=λu J=>by
      have ho:=O.o wr λ_ _=>rfl;have e5:∀b o,(b=w.heap.size\/b=P\/b=Q\/b=g)->u.cell? ⟨b,o,none⟩=wr.cell? ⟨b,o,none⟩:=λb o hb=>(PO (w:=W5) (J b (by rcases hb with h|h|h|h;exact .inl h;exact .inr (.inl h);exact .inr (.inr (.inl h));exact .inr (.inr (.inr (.inl h)))))).trans (PO (w:=wr) (t4.o b (by rcases hb with h|h|h|h;(rw[h];exact t2);(rw[h];exact t1);(rw[h];exact l9);(rw[h];exact s2)) (by rcases hb with h|h|h|h;(rw[h];exact o8);(rw[h];exact s9);(rw[h];exact zk);(rw[h];exact s1))))
      exact⟨(PO (w:=W5) (J d (.inr (.inr (.inr (.inr rfl)))))).trans e3.o.c4,(e5 _ _ (.inr (.inr (.inl rfl)))).trans ho.2.2.1,(e5 _ _ (.inr (.inr (.inr rfl)))).trans ho.2.2.2.1,(e5 _ _ (.inr (.inr (.inr rfl)))).trans ho.2.2.2.2.1,(e5 _ _ (.inl rfl)).trans ho.2.2.2.2.2.1,(e5 _ _ (.inr (.inl rfl))).trans ho.2.2.2.2.2.2⟩
     have y9:wr.heap.size<=W5.heap.size:=by rw[b9,size_setCell];exact G.size
     clear b9 G B T O i;clear M;go_upto_region 16 with fail
     refine tN 29 k8.o (λ_ _=>rfl) λM G i=>?_
     refine ax 0 i ?_;refine ax 4 i ?_;refine ax 8 i ?_;refine ax 12 i ?_;refine ax 16 i ?_;refine ae 20 i ?_;refine aD 21 λK r=>?_;go_simp
     go_at_call 15
     have t6:K_ w M:=(HC.o W5 e3.o.but).2.2.1.trans G;refine (iY M (some ⟨P,no,none⟩) cap Kq x.name g3 (hN.kept t6)).mono ?_;rintro e w6 ⟨⟨a5,rfl,hr⟩,k9⟩;rw[s7.o a5 hr];have I:=G.trans k9;have b2:∀b,b=w.heap.size\/b=P\/b=Q\/b=g\/b=d->w6.heap[b]? =W5.heap[b]? :=λb hb=>I.block b A7
     have z2:(nk:Int)<(Kq.length:Int):=A7;clear hr;dsimp only;refine af r (λ_=>k8.o _ b2) ?_;clear r K i;have i:=k8.o _ b2;refine ax 22 i ?_;refine ae 26 i ?_;refine ae 27 i ?_;refine ae 28 i ?_;obtain⟨⟨_,b3⟩,b4⟩:=(e3.o.kept I).row.row.at (i:=4) A7;have d9:=(e3.o.kept I).row.lt;refine au 29 λK r=>?_;go_simp
     refine af r (λh=>QK rfl h) ?_;clear r K;refine aF ?_;have t7:Hid (iK q d (w6.setCell ⟨d,4,none⟩ (.b (z+x.Zq*U))) X (.slice l k n) (C+x.Zq) (z+x.Zq*U)):=(e3.o.kept I).Pq _;have t8:Hid ((w6.setCell ⟨d,4,none⟩ (.b (z+x.Zq*U))).ownsRow q.heap.size 54 4 (.slice l k n) k (bS (Kj.map R))):=by
      have h:=ay t3.o I;exact (But.set (S:=λb=>b=d) (But.ak (K_.refl w6)) (p:=⟨d,4,none⟩) rfl _).owns h (λb e e2=>by have:=(h.lt b e).1;omega)
     clear b4 b3 d9 i;go_wp2
     go_roundw
     case rel=>exact⟨A+1,C+x.Zq,z+x.Zq*U,A7,C8,s8,t7,t8⟩
     case measure=>simp[intOf];omega
    .have z3:¬((A:Int)<(L.length:Int)):=A7;have o9:A=L.length:=A7;have g0:Hid (C=dW L/\z=bJ (Kk Kq) L):=by have h:=HU.o;rw[o9,Qc] at h;exact h
     have d3:Hid (si wr l (Kj.map R)):=by
      obtain⟨a9,z4,p0,h9⟩:=xV T.o;simp only[Qm] at p0;rw[p0.1];exact h9
     have g1:Hid ((Kj.map R).length=k):=by show _=_;rw[QD];exact k4.o.symm
     have n4:=B.o.c0;have o7:=B.o.row.lt;have a2:=Kz d0.o.sorted;clear d7 o9 HU T W;rcases i8.o with⟨l0,a4⟩|⟨l0,c8⟩
     .subst l0;have t9:=Kz a4;have o1:=B.o.c1;have z5:=B.o.c2;have z6:=B.o.c3;have z7:=B.o.c4;have l1:Hid (yN Kq Kj ⟨0,Kj.map R,[],C,z⟩):=⟨⟨by rw[g1.o];have:=k4.o;omega,Py _⟩,.inl ⟨c7.o,HY.o,_,a2.o.1,by rw[a2.o.2.1,i7.o],by rw[a2.o.2.2.1];exact g0.o.1,by rw[a2.o.2.2.2];exact g0.o.2,.inl ⟨t9.o,rfl,rfl⟩⟩⟩;clear a4;obtain⟨⟨⟨_,g5⟩,g7⟩,⟨⟨_,g8⟩,g9⟩,⟨⟨_,h0⟩,h3⟩,⟨⟨_,h6⟩,h7⟩,⟨_,i0⟩,i1⟩:=d6.o.row.GR;have i2:=d6.o.lt;go_wp2
      have hX:=PD wr (w.heap.size+1) 0 [.b 0,.slice l k n,J6,.b C,.b z] (d6.o.row.there (o:=0) (m:=5) (Pw _));refine Zx [.b 0,.slice l k n,J6,.b C,.b z] _ results5 rfl hX underlying31 rfl Tryz.gT rfl ⟨_,l,none,n,0,?_,l1.o,?_,?_,?_⟩
      .show Ending.returned _=Ending.returned _;rw[g1.o];try rfl
      .exact tY (vs:=[.b 0,.slice l k n,J6,.b C,.b z]) d3.o n8.o
      .exact (λA W=>by cases W)
      .exact dL (g:=w.heap.size+1) A7 [.b 0,.slice l k n,J6,.b C,.b z] 0 Z.o
     .subst l0;have v5:=Kz c8;clear c8;have O:Hid (∀u,K_ wr u->u.cell? ⟨w.heap.size,0,none⟩=some (.slice a Kq.length cap)/\u.cell? ⟨Q,1,none⟩=some (.slice c9 L.length dc)):=λu K=>⟨(K.cell A7).trans c0,(K.cell zk).trans m1⟩
      have z8:(L.foldl dH []).length<=60:=Pz a2.o.1.1.len i4;have o8:w.heap.size<wr.heap.size:=A7;go_upto_region 18 with fail
      clear c0 m1 n4;refine bG 9 O.o λM G i=>?_
      refine ax 0 i ?_;refine ae 4 i ?_;refine ae 5 i ?_;refine aD 6 λK r=>?_;go_simp
      go_at_call 17
      refine (Gj M rb ro rc Kj c9 dc L l6 A7 (λa5 hr=>by have h1:=(d0.o.all a5 hr).tl;have h2:=(d0.o.all a5 hr).hi;omega) (λk=>by have:=za L k;omega) (hR.kept (Z.o.trans G)) (Y.o.runs.kept G)).mono ?_;rintro e w6 ⟨sa,sc,td,tc,zs,rfl,v6,p1,p2,k9⟩;have I:=G.trans k9;have v7:Hid (jD w6 td (L.foldl dH [])):=by
       obtain⟨_,z9,A0,p3,h8⟩:=dE.runs p1 p2 (K_.refl _);simp only[Qm,true_and] at p3;rw[<-p3.1] at h8;exact h8.runs
      clear v6 p1 p2;dsimp only;refine af r (λ_=>O.o _ I) ?_;clear r K i;refine aD 7 λK r=>?_;go_simp
      go_at_call 16
      refine (Ct w6 a cap Kq sa Kj.length sc td tc (L.foldl dH []) g3 A7 e7 a2.o.1.1 (hN.kept (Z.o.trans I)) v7.o).mono ?_;rintro e w7 ⟨E,F,D,rfl,d8,p4,l2,v8⟩;have K7:=I.trans v8;dsimp only;refine af r (λ_=>O.o _ K7) ?_;clear r K;have i:=O.o _ K7;refine ae 8 i ?_;obtain⟨⟨_,b3⟩,b4⟩:=(B.o.kept K7).row.row.at (i:=2) A7;have d9:=(B.o.kept K7).row.lt;refine au 9 λK r=>?_;go_simp
      refine af r (λh=>QK rfl h) ?_;clear r K;refine aF ?_;clear i;have a3:=Kz (B.o.kept K7);have l1:Hid (yN Kq Kj ⟨1,Kj.map R,D,C,z⟩):=⟨⟨by rw[g1.o];have:=k4.o;omega,by
       have h1:=l2.len lJ;rw[QD] at h1;show D.length<=60;omega⟩,.inl ⟨c7.o,HY.o,_,a2.o.1,by rw[a2.o.2.1,i7.o],by rw[a2.o.2.2.1];exact g0.o.1,by rw[a2.o.2.2.2];exact g0.o.2,.inr ⟨v5.o,rfl,l2.OI lJ⟩⟩⟩
      have p5:=Kz (EN (g:=d) (o:=2) (v:=.slice E D.length F) p4 a3.o.no);have p6:=Kz (Es (g:=d) (o:=2) (v:=.slice E D.length F) (d3.o.kept K7) a3.o.no);have g2:Hid (aH (w7.setCell ⟨d,2,none⟩ (.slice E D.length F)) (w.heap.size+1) 31 5):=(d6.o.kept K7).block (Below.heap_setCell _ _ _ _ (by show w.heap.size+1≠d;omega));have l3:Hid (nO (w7.setCell ⟨d,2,none⟩ (.slice E D.length F)) (w.heap.size+1)):=λo s e=>n8.o.kept d6.o.lt K7 o s ((Zj A7).symm.trans e)
      have p7:Hid (K_ w (w7.setCell ⟨d,2,none⟩ (.slice E D.length F))):=(Z.o.trans K7).setCell (by show w.heap.size<=d;omega) _;have⟨q0,q1,q3,q4⟩:(w7.setCell ⟨d,2,none⟩ (.slice E D.length F)).cell? ⟨d,0,none⟩=some (.b 1)/\(w7.setCell ⟨d,2,none⟩ (.slice E D.length F)).cell? ⟨d,1,none⟩=some (.slice l k n)/\(w7.setCell ⟨d,2,none⟩ (.slice E D.length F)).cell? ⟨d,3,none⟩=some (.b C)/\(w7.setCell ⟨d,2,none⟩ (.slice E D.length F)).cell? ⟨d,4,none⟩=some (.b z):=⟨miss a3.o.c0 A8,miss a3.o.c1 A8,miss a3.o.c3 A8,miss a3.o.c4 A8⟩;have q2:(w7.setCell ⟨d,2,none⟩ (.slice E D.length F)).cell? ⟨d,2,none⟩=some (.slice E D.length F):=bB a3.o.row.row A7 _;have v9:d<(w7.setCell ⟨d,2,none⟩ (.slice E D.length F)).heap.size:=by rw[size_setCell];exact a3.o.row.lt
      obtain⟨W8,b5⟩:=aj (w7.setCell ⟨d,2,none⟩ (.slice E D.length F));rw[<-b5] at p5 p6 g2 l3 p7 q0 q1 q2 q3 q4 v9⊢;clear d8 p4 l2 a3 b5 b4 b3 d9;obtain⟨⟨⟨_,g5⟩,g7⟩,⟨⟨_,g8⟩,g9⟩,⟨⟨_,h0⟩,h3⟩,⟨⟨_,h6⟩,h7⟩,⟨_,i0⟩,i1⟩:=g2.o.row.GR;have i2:=g2.o.lt;go_wp2
      have hX:=PD W8 (w.heap.size+1) 0 [.b 1,.slice l k n,.slice E D.length F,.b C,.b z] (g2.o.row.there (o:=0) (m:=5) (Pw _));refine Zx [.b 1,.slice l k n,.slice E D.length F,.b C,.b z] _ results5 rfl hX underlying31 rfl Tryz.gT rfl ⟨_,l,E,n,F,?_,l1.o,?_,?_,?_⟩
      .show Ending.returned _=Ending.returned _;rw[g1.o];try rfl
      .exact tY (vs:=[.b 1,.slice l k n,.slice E D.length F,.b C,.b z]) p6.o l3.o
      .exact Cc (vs:=[.b 1,.slice l k n,.slice E D.length F,.b C,.b z]) p5.o l3.o
      .exact dL (g:=w.heap.size+1) A7 [.b 1,.slice l k n,.slice E D.length F,.b C,.b z] 0 p7.o
