import Derived.Test.YtlfofiaagibapaaGreatDoorKCAny
import Derived.Test.YtlfofiaagibapaaGreatDoorKCTold
import Derived.Test.YtlfofiaagibapaaGreatDoorCards
import Derived.Test.YtlfofiaagibapaaGreatDoorTie
import Derived.Lib.SmallJoins
set_option maxRecDepth 100000
set_option maxHeartbeats 25600000
namespace Go.Proofs.YtlfofiaagibapaaGreatDoor
open Go.RowKit Go.Proofs.Tryz
def Gn(Kq:List Qz)(Kj:List NL)(w w':NN)(e:Ending):Prop:=((bE Kq 0/\eP Kj)/\Jo Kj (bu Kq Kj) w w' e)\/(¬(bE Kq 0/\eP Kj)/\e=.returned (.agg #[M3,M3])/\K_ w w')
theorem xI(w:NN)(a:NM)(cap:Nat)(Kq:List Qz)(rd:NM)(rc:Nat)(Kj:List NL)(U:Kq.length<=1048576)(V:∀s∈Kq,s.Fits)(W:Kj.length<=1048576)(X:Kj.length<=rc)(Y:∀s∈Kj,s.size<=maxLen)(Z:bQ w a Kq)(D:Strs w rd Kj):Calls prog 20 #[.agg #[.slice a Kq.length cap],.slice rd Kj.length rc] w λe w'=>Gn Kq Kj w w' e:=by
 let⟨c,d⟩:=aj ((w.alloc (.cells #[.slice a Kq.length cap] 25)).alloc (.cells #[M3,M3] 43));have E:K_ w c:=by rw[d];exact (ah _ _).alloc _
 have F:c.heap.size=w.heap.size+2:=by rw[d];simp
 have G:c.cell? ⟨w.heap.size,0,none⟩=some (.slice a Kq.length cap):=by rw[d,K_.cell (w:=w.alloc (.cells #[.slice a Kq.length cap] 25)) (ah _ _) E9];exact X_ w _ _ 0 _ rfl
 have H:Hid (ay c (w.heap.size+1) 43 2):=by
  have x:=ay.made (w.alloc (.cells #[.slice a Kq.length cap] 25)) #[M3,M3] 43;simp only[MZ] at x;rw[d];exact x
 have z0:w.heap.size<c.heap.size:=E5;have⟨f,a0⟩:=aH E F;clear E F;go_enter func20,ntmps20
 go_upto_region 1 with fail
 rw[<-d];clear d;go_wp2_with fail
 refine (xU c a cap Kq rd rc Kj U V F5 X Y (Z.kept f.o) (D.kept f.o)).mono ?_;rintro e w1 ⟨h,a1⟩;rcases a1 with⟨I,rfl⟩|⟨n,J,wz,bb,mb,b,b5,dc,rfl,kz,y,z,K⟩
 .have a2:=Kz I;have p:=Kz (H.o.kept h);let⟨⟨_,x0⟩,f0⟩:=p.o.row.at (i:=0) E5;let⟨⟨_,x1⟩,f1⟩:=p.o.row.at (i:=1) E5;have zr:=p.o.lt;clear I G;go_wp2_with fail
  have A:=Mo w1 (w.heap.size+1) 0 [M3,M3] (p.o.row.there (o:=0) (m:=2) (Mj _));exact Zx [M3,M3] _ results20 rfl A underlying43 rfl Tryz.lH rfl (.inr ⟨a2.o,rfl,aP (g:=w.heap.size+1) E5 [M3,M3] 0 (f.o.trans h)⟩)
 have a3:Hid (Qj b=bu Kq Kj):=Be z.good.asc (gX (bV n) Kj).asc K;have⟨L,M⟩:=aH n J;have a4:=gy n;have b6:=f.o.trans kz;have a5:=y.len a4;have a6:Hid (∀t∈b,t.r.name.size<=1048576/\t.r.text.size<=1048576/\t.r.texts.length<=1048576/\∀B∈t.r.texts,B.size<=1048576):=λt ht=>by
  have j:=z.good.good t.r (Nk ht);let⟨b7,hA,_⟩:=j.act;have x:=(bV L.o _ _ hA).2.2.1;have h2:=j.tl;have h3:=j.hi;have h4:=j.tx;exact⟨E5,E5,E5,λB hx=>by have:=j.ts B hx;omega⟩
 have HB:=Kz y;have a7:Hid (∀s∈Kj,s.size<=1048576):=λs hs=>by
  obtain⟨a8,N,rfl⟩:=MB hs;have a9:=(M.o.2.2 a8 N).1.2.1;simp only[List.getD,Mq N,NC] at a9;omega
 have O:=f.o.trans h;clear y z K n J G;go_wp2_with fail
 refine (jM Kj HB.o W a7.o a5 a6.o (D.kept O)).mono ?_;rintro e q ⟨k,l,b0,rfl,P,Q,b8,b1,R⟩;have⟨b2,b3⟩:=aH P Q;have KF:=O.trans R;have v:=Kz (H.o.kept (h.trans R));let⟨⟨_,x0⟩,f0⟩:=v.o.row.at (i:=0) E5;let⟨⟨_,x1⟩,f1⟩:=v.o.row.at (i:=1) E5;have zr:=v.o.lt;have zw:=h.size;have b9:=a0.o;clear P Q;go_wp2_with fail
 have A:=Mo q (w.heap.size+1) 0 [.slice k Kj.length Kj.length,.slice l (Qj b).length (Qj b).length] (v.o.row.there (o:=0) (m:=2) (Mj _));have S:∀{C T:Nat},w.heap.size+1<C->Same C T q (q.setCells (w.heap.size+1) 0 [.slice k Kj.length Kj.length,.slice l (Qj b).length (Qj b).length]):=λ{C T} c0 b4 hb _ _=>by
  show (((q.setCell ⟨w.heap.size+1,0,none⟩ _).setCell ⟨w.heap.size+1,1,none⟩ _).heap[b4]?)=_;rw[Below.heap_setCell _ _ _ _ F6,Below.heap_setCell _ _ _ _ F6]
 exact Zx [.slice k Kj.length Kj.length,.slice l (Qj b).length (Qj b).length] _ results20 rfl A underlying43 rfl Tryz.lH rfl (.inl ⟨⟨L.o,M.o⟩,by
  rw[<-a3.o];exact⟨k,l,b0,rfl,cB.mono (b2.o.same (S E5)) E5 (Mj _),gM.mono (b3.o.same (S E5)) (Mj _) (by simp only[size_setCell];exact Mj _),E5,by simp only[size_setCell];exact b1,aP (g:=w.heap.size+1) E5 [.slice k Kj.length Kj.length,.slice l (Qj b).length (Qj b).length] 0 KF⟩⟩)
def BZ(Kq:List Qz)(Kj:List NL)(w w':NN)(e:Ending):Prop:=∃(o:mG)(a f:NM)(c e0:Nat),e=.returned (.agg #[.a o.code,.slice a o.res.length c,.slice f o.chain.length e0,.a o.eG,.a o.cost])/\sZ Kq Kj o/\mJ w' a o.res/\Strs w' f o.chain/\K_ w w'
def sj(l:List dS)(code:Int):Prop:=(code=0/\¬∃r∈l,r.over=false)\/(code=1/\∃r∈l,r.over=false)
theorem sj.yes{l:List dS}{e:Int}(h:sj l e)(r:dS)(f:r.over=true):sj (l++[r]) e:=by
 rcases h with⟨a,b⟩|⟨a,x,c,b⟩
 .refine .inl ⟨a,λ⟨x,c,d⟩=>?_⟩;rcases Mv.1 c with h|h
  .exact b ⟨x,h,d⟩
  .rw[Mt] at h;rw[h,f] at d;cases d
 .exact .inr ⟨a,x,Mv.2 (.inl c),b⟩
theorem sj.no(l:List dS)(r:dS)(a:r.over=false):sj (l++[r]) 1:=.inr ⟨rfl,r,Mv.2 (.inr (Mt.2 rfl)),a⟩
theorem Iw{Kq:List Qz}(c:bH (Kk Kq)){l:List Q_}(a:∀r∈l,r.Good Kq)(f:l.length<=60)(k:Nat):0<=dm (l.take k)/\dm (l.take k)<=1200/\0<=fq (Kk Kq) (l.take k)/\fq (Kk Kq) (l.take k)<=24000:=by
 have h:∀r∈l.take k,0<=r.Zq/\r.Zq<=20:=λr b=>⟨(a r (List.mem_of_mem_take b)).lo,(a r (List.mem_of_mem_take b)).hi⟩
 have d:=xu h;have e:=AY c h;have i:(l.take k).length<=60:=H6;exact⟨d.1,E5,e.1,E5⟩
theorem yD(w:NN)(a:NM)(cap:Nat)(Kq:List Qz)(ra:NM)(rc:Nat)(Kj:List NL)(g2:Kq.length<=1048576)(l3:∀y∈Kq,y.Fits)(w4:Kj.length<=1048576)(p9:∀s∈Kj,s.size<=maxLen)(hN:bQ w a Kq)(hR:Strs w ra Kj):Calls prog 15 #[.agg #[.slice a Kq.length cap],.slice ra Kj.length rc] w λe w'=>BZ Kq Kj w w' e:=by
 let⟨V,a6⟩:=aj ((w.alloc (.cells #[.slice a Kq.length cap] 25)).alloc (.cells #[.a 0,M3,M3,.a 0,.a 0] 39));have kB:K_ w V:=by rw[a6];exact (ah _ _).alloc _
 have q5:V.heap.size=w.heap.size+2:=by rw[a6];simp
 have b0:M4 V w.heap.size 0 (.slice a Kq.length cap):=by
  rw[a6];exact (xx (w:=w) (v:=.slice a Kq.length cap) (t:=25) (ah _ _)).1
 have e5:Hid (ay V (w.heap.size+1) 39 5):=by
  have h:=ay.made (w.alloc (.cells #[.slice a Kq.length cap] 25)) #[.a 0,M3,M3,.a 0,.a 0] 39;rw[MZ] at h;rw[a6];exact h
 have l4:Hid (jC V (w.heap.size+1)):=by
  have h:=ui (w:=w.alloc (.cells #[.slice a Kq.length cap] 25)) (k:=0) (m:=0) (n:=0) (a:=none) (f:=none) (c:=0) (e0:=0) (rl:=0) (cl:=0) (t:=39);rw[MZ] at h;rw[a6];exact h
 have z0:w.heap.size<V.heap.size:=E5;have z1:w.heap.size+1<V.heap.size:=E5;have c5:Hid (∀w',K_ V w'->M4 w' w.heap.size 0 (.slice a Kq.length cap)/\w.heap.size<w'.heap.size):=λw' K=>⟨(K.cell z0).trans b0,Mk z0 K.size⟩
 have g3:Hid (¬(bE Kq 0/\eP Kj)->∀u,K_ V u->BZ Kq Kj w (u.setCells (w.heap.size+1) 0 [.a 9,M3,M3,.a 0,.a 0]) (.returned (.agg #[.a 9,M3,M3,.a 0,.a 0]))):=λhn u ku=>⟨BV,none,none,0,0,rfl,⟨⟨Ml _,Ml _⟩,.inr ⟨hn,rfl⟩⟩,(λA W=>by cases W),(λA W=>by cases W),aP (g:=w.heap.size+1) E5 _ 0 (kB.trans ku)⟩
 have c6:=Kz kB;clear kB q5 b0 z0;go_enter func15,ntmps15
 go_upto_region 1 with fail
 rw[<-a6];clear a6;let⟨b0,z0⟩:=c5.o _ (K_.refl _);go_wp2_with fail
 refine (g_ _ a cap Kq F5 l3 (hN.kept c6.o)).mono ?_;rintro e w1 ⟨⟨c,rfl,hc⟩,k1⟩;clear b0 z0;let⟨b0,z0⟩:=c5.o _ k1;by_cases b7:c=0;rotate_left
 .have w5:(c != 0)=true:=by simpa using b7
  have q6:Hid (¬bE Kq 0):=λh=>b7 (hc.unique h)
  have a7:=Kz (e5.o.kept k1);let⟨⟨⟨_,g4⟩,g5⟩,⟨⟨_,g7⟩,g8⟩,⟨⟨_,g9⟩,h0⟩,⟨⟨_,h4⟩,h6⟩,⟨_,h7⟩,i0⟩:=a7.o.row.rR;have i1:=a7.o.lt;clear b7 hc;go_wp2_with fail
  have hX:=Mo w1 (w.heap.size+1) 0 [.a 9,M3,M3,.a 0,.a 0] (a7.o.row.there (o:=0) (m:=5) (Mj _));exact Zx [.a 9,M3,M3,.a 0,.a 0] _ results15 rfl hX underlying39 rfl Tryz.bP rfl (g3.o (λh=>q6.o h.1) w1 k1)
 subst b7;have c7:=Kz hc;clear hc;go_wp2_with fail
 refine (mE _ ra rc Kj F5 p9 (hR.kept (c6.o.trans k1))).mono ?_;rintro e w2 ⟨i2,k2⟩;have K2:=k1.trans k2;clear b0 z0;let⟨b0,z0⟩:=c5.o _ K2;rcases i2.cases with⟨rfl,c8⟩|⟨rfl,a4⟩;rotate_left
 .have q7:=Kz a4;have a7:=Kz (e5.o.kept K2);let⟨⟨⟨_,g4⟩,g5⟩,⟨⟨_,g7⟩,g8⟩,⟨⟨_,g9⟩,h0⟩,⟨⟨_,h4⟩,h6⟩,⟨_,h7⟩,i0⟩:=a7.o.row.rR;have i1:=a7.o.lt;clear a4 i2;go_wp2_with fail
  have hX:=Mo w2 (w.heap.size+1) 0 [.a 9,M3,M3,.a 0,.a 0] (a7.o.row.there (o:=0) (m:=5) (Mj _));exact Zx [.a 9,M3,M3,.a 0,.a 0] _ results15 rfl hX underlying39 rfl Tryz.bP rfl (g3.o (λh=>q7.o h.2) w2 K2)
 have HY:=Kz c8;clear c8 i2 g3;obtain⟨rb,ro,rfl,w9,_⟩:=hR 0 (by have:=HY.o.1;omega);have i3:=gy c7.o;have l5:=HY.o.2.1;have e6:=bV c7.o;have i4:=c6.o.trans K2;have q8:Hid (∀l6∈Kj,l6.size<=20):=λl6 hn=>by
  obtain⟨A,W,rfl⟩:=MB hn;have h:=(HY.o.2.2 A W).1.2.1;simpa[List.getD,W] using h
 go_wp2_with fail
 refine (GL w2 a cap Kq (some ⟨rb,ro,none⟩) rc Kj i3 l3 (jZ c7.o) e6 l5 (hN.kept i4) (hR.kept i4)).mono ?_;rintro e w3 ⟨Q,L,c9,dc,xs,rfl,x0,hO,hZ⟩;have d0:=Kz hO;have q9:=Mm hO.len i3;have K3:=K2.trans hZ.kw;let⟨d,a9⟩:=aj w3.heap.size;let⟨q,b8⟩:=aj (w3.alloc (.cells #[.a 0,M3,M3,.a 0,.a 0] 39));have kO:K_ w3 q:=by rw[b8];exact ah _ _
 have r0:d<q.heap.size:=by rw[b8,a9];simp
 have i5:Hid (fK q d q 0 M3 0 0):=by
  let⟨q0,q1,q2,q3,q4⟩:=mP (w:=w3) (w1:=q) (v0:=.a 0) (v1:= M3) (v2:= M3) (v3:=.a 0) (v4:=.a 0) (t:=39) (by rw[b8];exact K_.refl _);rw[<-a9] at q0 q1 q2 q3 q4;exact⟨But.ax (K_.refl _),by rw[b8,a9];exact ay.made w3 _ _,q0,q1,q2,q3,q4⟩
 have l7:=Kz (hZ.kept kO).again;have d1:=K3.trans kO;have r1:=Mk z1 K3.size;have l8:¬Q=d:=by have:=hZ.known.row.lt;omega
 have r2:w2.heap.size<=d:=by rw[a9];exact hZ.kw.size
 have x1:w.heap.size+1<d:=by rw[a9];exact r1
 have HC:Hid (∀u,But (λb=>b=d) q u->M4 u w.heap.size 0 (.slice a Kq.length cap)/\KnZ w2 u u Q (.slice c9 L.length dc) a Kq.length cap L c9 dc xs/\K_ w u/\ay u (w.heap.size+1) 39 5/\jC u (w.heap.size+1)/\q.heap.size<=u.heap.size):=λu h=>by
  have x2:=kO.size;refine⟨(h.cell E5 λ(e:w.heap.size=d)=>E5).trans (c5.o _ d1).1,?_,h.kept (c6.o.trans d1) (λb e=>by rw[e];omega),h.row (e5.o.kept d1) λ(e:w.heap.size+1=d)=>E5,λo s e=>(l4.o.kept z1 d1) o s ((h.cell E5 λ(e:w.heap.size+1=d)=>E5).symm.trans e),h.size⟩;refine l7.o.but h (λb e=>by rw[e];exact r2) l8 (λb e (e2:b=d)=>?_) (λb (e:b=d) ht=>aU i5.o.row.type (by rw[e] at ht;exact ht) E8 rfl);have:=(hZ.own.lt b e).2;omega
 let⟨R,l9⟩:=aj (pu (Kk Kq) (Qq L));have i6:=Kz l9;go_upto_region 5 with fail
 rw[<-b8,<-a9];clear l9 a9 b8 b0 z0 kO d1 l7 c5 hZ hO e5 l4 c6 i4 K2 K3 k1 k2;go_wp2
 go_loopw [7] (λx7 wr=>∃(k:Nat)(l:NM)(n:Nat)(X:Int),k<=Kj.length/\x7=.a (k:Int)/\Hid (sj ((Kj.take k).map R) X)/\Hid (fK q d wr X (.slice l k n) 0 0)/\Hid (wr.ownsRow q.heap.size 104 4 (.slice l k n) k (bB ((Kj.take k).map R)))) (λx7 _=>Kj.length-(intOf x7).toNat)
 case atStart=>exact⟨0,none,0,0,Ml _,rfl,Kz (.inl ⟨rfl,λ⟨_,h,_⟩=>by cases h⟩),i5,Kz (Nj _ _ _ _)⟩
 case round=>
  clear i5;obtain⟨k,l,n,X,hk,rfl,i7,B,T⟩:=hrel;let⟨b1,b2,Kr,e7,e8,i8⟩:=HC.o wr B.o.but;have⟨Y,Z⟩:=aH b2 Kr;clear b2 e7 e8;by_cases d2:k<Kj.length
  .have x3:(k:Int)<(Kj.length:Int):=E5;let⟨sb,so,m0,m2,i9⟩:=hR k d2;simp only[Na,NI,and_true] at m0;obtain⟨rfl,rfl⟩:=m0;let⟨N,j0⟩:=aj (Kj.getD k ByteArray.empty);rw[<-j0] at i9;have m3:=(Z.o.cell m2).trans i9;have m4:=Mk m2 Z.o.size;clear i9;have j1:Kj[k]=N:=by rw[j0];simp[List.getD,d2]
   have m5:N∈Kj:=by rw[<-j1];exact Mw d2
   have m6:=Kz j1;have x4:=q8.o N m5;clear j0 j1 m5;go_wp2_with fail
   refine (qg wr Q a cap Kq c9 dc L N g2 E5 E5 Y.o.known (hN.kept Z.o) Y.o.runs).mono ?_;rintro e e9 ⟨⟨a0,a1,ok,rfl,m7,a4⟩,j2⟩;have d3:Hid (R N= ⟨N,ok,a0,a1⟩):=by
    show R N=_;rw[i6.o];unfold pu;rw[m7];cases ok
    .obtain⟨h1,h2⟩:=a4 rfl;rw[h1,h2]
     rfl
    .rfl
   have j3:Hid ((Kj.take (k+1)).map R= (Kj.take k).map R++[⟨N,ok,a0,a1⟩]):=by
    show _=_;rw[Ms d2,ND,m6.o,<-d3.o]
    rfl
   let⟨H,d4⟩:=aj (e9.alloc (.cells #[.bool a0,.string a1] 100));have m8:K_ e9 H:=by rw[d4];exact ah _ _
   let⟨pb,f0⟩:=aj (e9.heap.size);have f2:=yN (w:=e9) (v0:=.bool a0) (v1:=.string a1) (t:=100) (w1:=H) (by rw[d4];exact K_.refl _);rw[<-f0] at f2;have K4:=j2.trans m8;have m9:∀b,(Value.slice l k n).ownBlock=some b->b≠pb:=λb e=>by have h1:=(T.o.lt b e).2;have h2:=j2.size;omega
   have n0:pb<H.heap.size:=by rw[d4,f0];simp
   have j4:=Kz (B.o.kept K4);have n1:=Kz (au T.o K4);have r3:=Mk m4 K4.size;have x5:=Mm i8 K4.size;have r4:d<H.heap.size:=E5;have O:Hid (∀u:NN,(∀b,b<H.heap.size->¬q.heap.size<=b\/b=pb->u.heap[b]? =H.heap[b]?)->M4 u d 1 (.slice l k n)/\M4 u rb (ro+k) (.string N)/\M4 u pb 0 (.bool a0)/\M4 u pb 1 (.string a1)):=λu J=>by
    exact⟨(MC (w:=H) (J d r4 (.inl E5))).trans j4.o.c1,(MC (w:=H) (J rb r3 (.inl E5))).trans ((K4.cell m4).trans m3),(MC (w:=H) (J pb n0 (.inr rfl))).trans f2.1,(MC (w:=H) (J pb n0 (.inr rfl))).trans f2.2⟩
   let⟨ic,b7,r5,r6,r7⟩:=aW Tryz.og;go_upto_region 9 with fail
   rw[<-d4,<-f0];clear d4 f0 f2 m8 j2 m7 a4 b1 m3 d3 m6;refine mg 15 O.o (λ_ _ _=>rfl) λM G i=>?_
   refine ak 0 i ?_;refine ak 4 i ?_;refine ak 8 i ?_;refine ai 12 λK r=>?_;go_simp
   have K5:K_ M (M.alloc (.cells #[.string N,.bool ok,.bool a0,.string a1] 104)):=ah _ _;have f3:=X_ M #[.string N,.bool ok,.bool a0,.string a1] 104;have I:=G.trans K5;have b3:∀b,b<H.heap.size->¬q.heap.size<=b\/b=pb->(M.alloc (.cells #[.string N,.bool ok,.bool a0,.string a1] 104)).heap[b]? =H.heap[b]? :=λb hb _=>I.block b hb
   refine r.out _ _ (λ_=>O.o _ b3) ?_;clear r K i;let⟨eb,n2⟩:=aj M.heap.size;rw[<-n2] at f3⊢;generalize r8:M.alloc (.cells #[.string N,.bool ok,.bool a0,.string a1] 104)=w6 at f3 I b3⊢;clear r8 K5 n2;have j5:=Kz (au n1.o I);have x6:=I.size;try simp only[upP]
   refine ai 13 λK r=>?_;refine step_append_lies _ rfl (.tmp 40) (.tmp 51) 37 rfl q.heap.size 104 ic _ 4 40 underlying37 b7 r5 r6 r7 rfl E8 (.slice l k n) k (bB ((Kj.take k).map R)) F9 j5.o ⟨eb,0,none⟩ 1 1 [.string N,.bool ok,.bool a0,.string a1] F9 rfl (λj u hu=>by rw[Nf];exact f3 j u hu) (λu hu=>by simp only[Nh,Ni,or_false] at hu;rcases hu with rfl|rfl|rfl|rfl<;>rfl) E5 F5 E5 E5 _ rfl ?_;intro g6 b9 w8 j6 n3 r9 x8;have j7:∀b,(Value.slice l k n).ownBlock=some b->q.heap.size<=b:=λb e=>(j5.o.lt b e).1
   have f4:But (λb=>(Value.slice l k n).ownBlock=some b) w6 w8:=But.aI n3 λb e=>e;have j8:∀b,b<H.heap.size->¬q.heap.size<=b\/b=pb->w8.heap[b]? =H.heap[b]? :=λb hb hn=>(f4.block b E5 λe=>by rcases hn with h|h;exact h (j7 b e);exact m9 b e h).trans (b3 b hb hn)
   have f5:=(j4.o.kept I).alike f4 j7 r0;have x9:=f4.size;let⟨⟨_,b4⟩,b5⟩:=f5.row.row.at (i:=1) E5;have s0:=f5.row.lt;let⟨W8,b6⟩:=aj (w8.setCell ⟨d,1,none⟩ (.b g6 (k+1) b9));have d5:Hid (fK q d W8 X (.b g6 (k+1) b9) 0 0):=by rw[b6];exact f5.set1 _
   have f6:Hid (W8.ownsRow q.heap.size 104 4 (.b g6 (k+1) b9) (k+1) (bB ((Kj.take (k+1)).map R))):=by
    rw[b6,j3.o,lD];exact (But.set (S:=λb=>b=d) (But.ax (K_.refl w8)) (p:=⟨d,1,none⟩) rfl _).owns j6 (λb e e2=>by have:=(j6.lt b e).1;omega)
   refine af r (λ_=>O.o _ j8) ?_;clear r K j6 n3 r9 f5;have i:=O.o _ j8;refine ae 14 i ?_;refine ai 15 λK r=>?_;go_simp
   rw[<-b6];refine af r (λh=>NB rfl h) ?_;clear r K i;refine aC ?_;clear b6 b5 b4 j8 m9 j7 f4 f3 b3 j5 j4 n1 O B T G I s0;cases ok
   .have j9:Hid (sj ((Kj.take (k+1)).map R) 1):=by rw[j3.o];exact sj.no _ _ rfl
    have n4:=d5.o.c0;let⟨⟨_,y0⟩,f1⟩:=d5.o.row.row.at (i:=0) E5;have HF:=Kz (d5.o.set0 1);have HG:Hid ((W8.setCell ⟨d,0,none⟩ (.a 1)).ownsRow q.heap.size 104 4 (.b g6 (k+1) b9) (k+1) (bB ((Kj.take (k+1)).map R))):=(But.set (S:=λb=>b=d) (But.ax (K_.refl W8)) (p:=⟨d,0,none⟩) rfl _).owns f6.o (λb e e2=>by have:=(f6.o.lt b e).1;omega);clear d5 f6;go_wp2
    go_roundw
    case rel=>exact⟨k+1,some ⟨g6,0,none⟩,b9,1,E5,F3,j9,HF,HG⟩
    case measure=>simp[intOf];omega
   .have j9:Hid (sj ((Kj.take (k+1)).map R) X):=by rw[j3.o];exact i7.o.yes _ rfl
    go_wp2
    go_roundw
    case rel=>exact⟨k+1,some ⟨g6,0,none⟩,b9,X,E5,F3,j9,d5,f6⟩
    case measure=>simp[intOf];omega
  .have n5:¬((k:Int)<(Kj.length:Int)):=E5;have k0:k=Kj.length:=E5;have n6:Kj.take k=Kj:=by rw[k0];exact MS
   rw[n6] at i7 T;have k3:=Kz k0;clear d2 k0 n6 hk;have n7:Hid (0=dm (L.take 0)/\0=fq (Kk Kq) (L.take 0)):=⟨rfl,rfl⟩;go_wp2
   go_loopw [10] (λk4 wr=>∃(A:Nat)(C z:Int),A<=L.length/\k4=.a (A:Int)/\Hid (C=dm (L.take A)/\z=fq (Kk Kq) (L.take A))/\Hid (fK q d wr X (.slice l k n) C z)/\Hid (wr.ownsRow q.heap.size 104 4 (.slice l k n) k (bB (Kj.map R)))) (λk4 _=>L.length-(intOf k4).toNat)
   case atStart=>exact⟨0,0,0,Ml _,rfl,n7,B,T⟩
   case round=>
    clear n7 B T b1 Y Z Kr i8;obtain⟨A,C,z,W,rfl,HU,B,T⟩:=hrel;let⟨b1,b2,Kr,e7,e8,i8⟩:=HC.o wr B.o.but;have⟨Y,d6,n8,Z⟩:=nC b2 e7 e8 Kr;have m1:=b2.known.runs;have zk:=b2.known.row.lt;clear b2 e7 e8 Kr;have s1:=Iw e6 d0.o.all q9 A;rw[<-HU.o.1,<-HU.o.2] at s1;by_cases d7:A<L.length
    .have y1:(A:Int)<(L.length:Int):=E5;obtain⟨g,rfl⟩:=uu Y.o.own E5;let⟨ya,yc,f7,_,_,_⟩:=Y.o.pack.at Y.o.own d7;have s2:=(Y.o.own.lt g rfl).2;have s3:¬g=d:=λe=>by
      have h1:=Y_ Y.o.own (b:=g) rfl;exact aU h1 B.o.row.type E8 e
     let⟨x,hx⟩:=aj (L.getD A Q_.zero);rw[<-hx] at f7;have k5:L[A]=x:=by rw[hx];simp[List.getD,d7]
     have n9:x∈L:=by rw[<-k5];exact Mw d7
     have t0:=f7 0 _ rfl;have t5:=f7 5 _ rfl;rw[Ng] at t0;have f8:=d0.o.all x n9;let⟨y2,hA,_⟩:=f8.act;have o0:=qC e6 x.name;have s4:0<=x.Zq/\x.Zq<=20:=⟨f8.lo,f8.hi⟩;have s5:=EK s4 o0;let⟨nk,n5,o2,o3,o4⟩:=fJ hA;let⟨P,no,cs,e3,s6,o5,na,y3,o6,_⟩:=hN nk n5;subst e3;have o7:iB (Kk Kq) x.name= (Kq.getD nk Qz.zero).cost:=by rw[pF hA,o4]
     have d8:wr.cell? ⟨P,no+nk*3+1,none⟩=some (.a (iB (Kk Kq) x.name)):=by rw[o7];exact (Z.o.cell s6).trans (o5 1 _ (by rw[o6];rfl))
     let⟨U,k6⟩:=aj (iB (Kk Kq) x.name);rw[<-k6] at o0 s5 d8;have s7:Hid (∀a5:Int,Dt Kq x.name a5->a5= (nk:Int)):=λa5 hr=>by
      rcases hr with⟨k2,h1,rfl,h3,s8,h5⟩|⟨_,h2⟩
      .rcases Ny k2 nk with h|h|h
       .exact NB s8 (o3 _ h)
       .rw[h]
       .exact NB o2 (h5 _ h)
      .rw[hA] at h2;cases h2
     have y4:IntKind.i64.wrap (C+x.Zq)=C+x.Zq:=dQ E5 E5;have y5:IntKind.i64.wrap (x.Zq*U)=x.Zq*U:=dQ E5 E5;have y6:IntKind.i64.wrap (z+x.Zq*U)=z+x.Zq*U:=dQ E5 E5;have s9:Hid (C+x.Zq=dm (L.take (A+1))/\z+x.Zq*U=fq (Kk Kq) (L.take (A+1))):=by
      rw[Ms d7,oU,qX,k5,<-HU.o.1,<-HU.o.2,<-k6];exact⟨rfl,rfl⟩
     have o8:=B.o.row.lt;have y7:P<w3.heap.size:=E5;have O:Hid (∀u:NN,(∀b,b=w.heap.size\/b=P\/b=Q\/b=g\/b=d->u.heap[b]? =wr.heap[b]?)->M4 u d 3 (.a C)/\M4 u d 4 (.a z)/\M4 u Q 1 (.b g L.length dc)/\M4 u g (A*7) (.string x.name)/\M4 u g (A*7+5) (.a x.Zq)/\M4 u w.heap.size 0 (.slice (some ⟨P,no,none⟩) Kq.length cap)/\M4 u P (no+nk*3+1) (.a U)):=λu J=>⟨(MC (w:=wr) (J d (.inr (.inr (.inr (.inr rfl)))))).trans B.o.c3,(MC (w:=wr) (J d (.inr (.inr (.inr (.inr rfl)))))).trans B.o.c4,(MC (w:=wr) (J Q (.inr (.inr (.inl rfl))))).trans m1,(MC (w:=wr) (J g (.inr (.inr (.inr (.inl rfl)))))).trans t0,(MC (w:=wr) (J g (.inr (.inr (.inr (.inl rfl)))))).trans t5,(MC (w:=wr) (J w.heap.size (.inl rfl))).trans b1,(MC (w:=wr) (J P (.inr (.inl rfl)))).trans d8⟩
     clear b1 t0 t5 d8 f7 o5 o7 k6 hx k5 n9 f8 hA o4 o2 o3 o6 HU;have o9:w.heap.size<wr.heap.size:=E5;have t1:P<wr.heap.size:=E5;have y8:d<wr.heap.size:=o8;have t2:P≠d:=E5;have t3:w.heap.size≠d:=E5;go_upto_region 15 with fail
     clear m1;refine mg 12 O.o (λ_ _=>rfl) λM G i=>?_
     let⟨⟨_,b4⟩,b5⟩:=(B.o.kept G).row.row.at (i:=3) E5;have d9:=(B.o.kept G).row.lt;refine ak 0 i ?_;refine ak 4 i ?_;refine ak 8 i ?_;refine ai 12 λK r=>?_;go_simp
     refine af r (λh=>NB rfl h) ?_;clear r K;refine aC ?_;clear b5 b4 d9;let⟨W5,c0⟩:=aj (M.setCell ⟨d,3,none⟩ (.a (C+x.Zq)));rw[<-c0];have e1:Hid (fK q d W5 X (.slice l k n) (C+x.Zq) z):=by rw[c0];exact (B.o.kept G).Lx _
     have t4:Hid (W5.ownsRow q.heap.size 104 4 (.slice l k n) k (bB (Kj.map R))):=by
      rw[c0];have h:=au T.o G;exact (But.set (S:=λb=>b=d) (But.ax (K_.refl M)) (p:=⟨d,3,none⟩) rfl _).owns h (λb e e2=>by have:=(h.lt b e).1;omega)
     have t6:Hid (∀b,b≠d->b<wr.heap.size->W5.heap[b]? =wr.heap[b]?):=λb hb hz=>by rw[c0,Below.heap_setCell _ _ _ _ hb];exact G.block b hz
     have k7:Hid (∀u:NN,(∀b,b=w.heap.size\/b=P\/b=Q\/b=g\/b=d->u.heap[b]? =W5.heap[b]?)->M4 u d 4 (.a z)/\M4 u Q 1 (.b g L.length dc)/\M4 u g (A*7) (.string x.name)/\M4 u g (A*7+5) (.a x.Zq)/\M4 u w.heap.size 0 (.slice (some ⟨P,no,none⟩) Kq.length cap)/\M4 u P (no+nk*3+1) (.a U)):=λu J=>by
      have ho:=O.o wr λ_ _=>rfl;have e4:∀b o,(b=w.heap.size\/b=P\/b=Q\/b=g)->u.cell? ⟨b,o,none⟩=wr.cell? ⟨b,o,none⟩:=λb o hb=>(MC (w:=W5) (J b (by rcases hb with h|h|h|h;exact .inl h;exact .inr (.inl h);exact .inr (.inr (.inl h));exact .inr (.inr (.inr (.inl h)))))).trans (MC (w:=wr) (t6.o b (by rcases hb with h|h|h|h;(rw[h];exact t3);(rw[h];exact t2);(rw[h];exact l8);(rw[h];exact s3)) (by rcases hb with h|h|h|h;(rw[h];exact o9);(rw[h];exact t1);(rw[h];exact zk);(rw[h];exact s2))))
      exact⟨(MC (w:=W5) (J d (.inr (.inr (.inr (.inr rfl)))))).trans e1.o.c4,(e4 _ _ (.inr (.inr (.inl rfl)))).trans ho.2.2.1,(e4 _ _ (.inr (.inr (.inr rfl)))).trans ho.2.2.2.1,(e4 _ _ (.inr (.inr (.inr rfl)))).trans ho.2.2.2.2.1,(e4 _ _ (.inl rfl)).trans ho.2.2.2.2.2.1,(e4 _ _ (.inr (.inl rfl))).trans ho.2.2.2.2.2.2⟩
     have y9:wr.heap.size<=W5.heap.size:=by rw[c0,size_setCell];exact G.size
     clear c0 G B T O i;clear M;go_upto_region 16 with fail
     refine mg 29 k7.o (λ_ _=>rfl) λM G i=>?_
     refine ak 0 i ?_;refine ak 4 i ?_;refine ak 8 i ?_;refine ak 12 i ?_;refine ak 16 i ?_;refine ae 20 i ?_;refine aG 21 λK r=>?_;go_simp
     go_at_call 61
     have t7:=(HC.o W5 e1.o.but).2.2.1.trans G;refine (fe M (some ⟨P,no,none⟩) cap Kq x.name g2 (hN.kept t7)).mono ?_;rintro e w6 ⟨⟨a5,rfl,hr⟩,k8⟩;rw[s7.o a5 hr];have I:=G.trans k8;have b3:∀b,b=w.heap.size\/b=P\/b=Q\/b=g\/b=d->w6.heap[b]? =W5.heap[b]? :=λb hb=>I.block b E5
     have z2:(nk:Int)<(Kq.length:Int):=E5;clear hr;dsimp only;refine af r (λ_=>k7.o _ b3) ?_;clear r K i;have i:=k7.o _ b3;refine ak 22 i ?_;refine ae 26 i ?_;refine ae 27 i ?_;refine ae 28 i ?_;let⟨⟨_,b4⟩,b5⟩:=(e1.o.kept I).row.row.at (i:=4) E5;have d9:=(e1.o.kept I).row.lt;refine ai 29 λK r=>?_;go_simp
     refine af r (λh=>NB rfl h) ?_;clear r K;refine aC ?_;have t8:Hid (fK q d (w6.setCell ⟨d,4,none⟩ (.a (z+x.Zq*U))) X (.slice l k n) (C+x.Zq) (z+x.Zq*U)):=(e1.o.kept I).LB _;have t9:Hid ((w6.setCell ⟨d,4,none⟩ (.a (z+x.Zq*U))).ownsRow q.heap.size 104 4 (.slice l k n) k (bB (Kj.map R))):=by
      have h:=au t4.o I;exact (But.set (S:=λb=>b=d) (But.ax (K_.refl w6)) (p:=⟨d,4,none⟩) rfl _).owns h (λb e e2=>by have:=(h.lt b e).1;omega)
     clear b5 b4 d9 i;go_wp2
     go_roundw
     case rel=>exact⟨A+1,C+x.Zq,z+x.Zq*U,E5,F3,s9,t8,t9⟩
     case measure=>simp[intOf];omega
    .have z3:¬((A:Int)<(L.length:Int)):=E5;have p0:A=L.length:=E5;have f9:Hid (C=dm L/\z=fq (Kk Kq) L):=by have h:=HU.o;rw[p0,MS] at h;exact h
     have d3:Hid (mJ wr l (Kj.map R)):=by
      let⟨z4,z5,p1,h9⟩:=rE T.o;simp only[Nb] at p1;rw[p1.1];exact h9
     have g0:Hid ((Kj.map R).length=k):=by show _=_;rw[Nt];exact k3.o.symm
     have n4:=B.o.c0;have o8:=B.o.row.lt;have a2:=Kz d0.o.sorted;clear d7 p0 HU T W;rcases i7.o with⟨k9,a4⟩|⟨k9,c8⟩
     .subst k9;have v5:=Kz a4;have o1:=B.o.c1;have z6:=B.o.c2;have z7:=B.o.c3;have z8:=B.o.c4;have l0:Hid (sZ Kq Kj ⟨0,Kj.map R,[],C,z⟩):=⟨⟨by rw[g0.o];have:=k3.o;omega,Ml _⟩,.inl ⟨c7.o,HY.o,_,a2.o.1,by rw[a2.o.2.1,i6.o],by rw[a2.o.2.2.1];exact f9.o.1,by rw[a2.o.2.2.2];exact f9.o.2,.inl ⟨v5.o,rfl,rfl⟩⟩⟩;clear a4;let⟨⟨⟨_,g4⟩,g5⟩,⟨⟨_,g7⟩,g8⟩,⟨⟨_,g9⟩,h0⟩,⟨⟨_,h4⟩,h6⟩,⟨_,h7⟩,i0⟩:=d6.o.row.rR;have i1:=d6.o.lt;go_wp2
      have hX:=Mo wr (w.heap.size+1) 0 [.a 0,.slice l k n,M3,.a C,.a z] (d6.o.row.there (o:=0) (m:=5) (Mj _));refine Zx [.a 0,.slice l k n,M3,.a C,.a z] _ results15 rfl hX underlying39 rfl Tryz.bP rfl ⟨_,l,none,n,0,?_,l0.o,?_,?_,?_⟩
      .show Ending.returned _=Ending.returned _;rw[g0.o];try rfl
      .exact h_ (vs:=[.a 0,.slice l k n,M3,.a C,.a z]) d3.o n8.o
      .exact (λA W=>by cases W)
      .exact aP (g:=w.heap.size+1) E5 [.a 0,.slice l k n,M3,.a C,.a z] 0 Z.o
     .subst k9;have v6:=Kz c8;clear c8;have O:Hid (∀u,K_ wr u->M4 u w.heap.size 0 (.slice a Kq.length cap)/\M4 u Q 1 (.slice c9 L.length dc)):=λu K=>⟨(K.cell E5).trans b1,(K.cell zk).trans m1⟩
      have z9:=Mm a2.o.1.1.len i3;have o9:w.heap.size<wr.heap.size:=E5;go_upto_region 18 with fail
      clear b1 m1 n4;refine bF 9 O.o λM G i=>?_
      refine ak 0 i ?_;refine ae 4 i ?_;refine ae 5 i ?_;refine aG 6 λK r=>?_;go_simp
      go_at_call 63
      refine (rf M rb ro rc Kj c9 dc L l5 E5 (λa5 hr=>by have h1:=(d0.o.all a5 hr).tl;have h2:=(d0.o.all a5 hr).hi;omega) (λk=>by have:=lh L k;omega) (hR.kept (Z.o.trans G)) (Y.o.runs.kept G)).mono ?_;rintro e w6 ⟨sa,sc,td,tc,zs,rfl,v7,p2,p3,k8⟩;have I:=G.trans k8;have v8:Hid (bN w6 td (L.foldl dh [])):=by
       let⟨_,a8,A0,p4,h8⟩:=bI.runs p2 p3 (K_.refl _);simp only[Nb,true_and] at p4;rw[<-p4.1] at h8;exact h8.runs
      clear v7 p2 p3;dsimp only;refine af r (λ_=>O.o _ I) ?_;clear r K i;refine aG 7 λK r=>?_;go_simp
      go_at_call 62
      refine (sO w6 a cap Kq sa Kj.length sc td tc (L.foldl dh []) g2 E5 e6 a2.o.1.1 (hN.kept (Z.o.trans I)) v8.o).mono ?_;rintro e w7 ⟨E,F,D,rfl,d8,p5,l1,v9⟩;have K7:=I.trans v9;dsimp only;refine af r (λ_=>O.o _ K7) ?_;clear r K;have i:=O.o _ K7;refine ae 8 i ?_;let⟨⟨_,b4⟩,b5⟩:=(B.o.kept K7).row.row.at (i:=2) E5;have d9:=(B.o.kept K7).row.lt;refine ai 9 λK r=>?_;go_simp
      refine af r (λh=>NB rfl h) ?_;clear r K;refine aC ?_;clear i;have a3:=Kz (B.o.kept K7);have l0:Hid (sZ Kq Kj ⟨1,Kj.map R,D,C,z⟩):=⟨⟨by rw[g0.o];have:=k3.o;omega,by
       have h1:=l1.len iH;rw[Nt] at h1;show D.length<=60;omega⟩,.inl ⟨c7.o,HY.o,_,a2.o.1,by rw[a2.o.2.1,i6.o],by rw[a2.o.2.2.1];exact f9.o.1,by rw[a2.o.2.2.2];exact f9.o.2,.inr ⟨v6.o,rfl,l1.Ko iH⟩⟩⟩
      have p6:=Kz (uV (g:=d) (o:=2) (v:=.slice E D.length F) p5 a3.o.no);have p7:=Kz (pO (g:=d) (o:=2) (v:=.slice E D.length F) (d3.o.kept K7) a3.o.no);have g1:Hid (ay (w7.setCell ⟨d,2,none⟩ (.slice E D.length F)) (w.heap.size+1) 39 5):=(d6.o.kept K7).block (Below.heap_setCell _ _ _ _ (by show w.heap.size+1≠d;omega));have l2:Hid (jC (w7.setCell ⟨d,2,none⟩ (.slice E D.length F)) (w.heap.size+1)):=λo s e=>n8.o.kept d6.o.lt K7 o s ((Zj E5).symm.trans e)
      have p8:Hid (K_ w (w7.setCell ⟨d,2,none⟩ (.slice E D.length F))):=(Z.o.trans K7).setCell (by show w.heap.size<=d;omega) _;have⟨q0,q1,q3,q4⟩:M4 (w7.setCell ⟨d,2,none⟩ (.slice E D.length F)) d 0 (.a 1)/\M4 (w7.setCell ⟨d,2,none⟩ (.slice E D.length F)) d 1 (.slice l k n)/\M4 (w7.setCell ⟨d,2,none⟩ (.slice E D.length F)) d 3 (.a C)/\M4 (w7.setCell ⟨d,2,none⟩ (.slice E D.length F)) d 4 (.a z):=⟨miss a3.o.c0 E8,miss a3.o.c1 E8,miss a3.o.c3 E8,miss a3.o.c4 E8⟩;have q2:M4 (w7.setCell ⟨d,2,none⟩ (.slice E D.length F)) d 2 (.slice E D.length F):=aR a3.o.row.row E5 _;have w0:d<(w7.setCell ⟨d,2,none⟩ (.slice E D.length F)).heap.size:=by rw[size_setCell];exact a3.o.row.lt
      let⟨W8,b6⟩:=aj (w7.setCell ⟨d,2,none⟩ (.slice E D.length F));rw[<-b6] at p6 p7 g1 l2 p8 q0 q1 q2 q3 q4 w0⊢;clear d8 p5 l1 a3 b6 b5 b4 d9;let⟨⟨⟨_,g4⟩,g5⟩,⟨⟨_,g7⟩,g8⟩,⟨⟨_,g9⟩,h0⟩,⟨⟨_,h4⟩,h6⟩,⟨_,h7⟩,i0⟩:=g1.o.row.rR;have i1:=g1.o.lt;go_wp2
      have hX:=Mo W8 (w.heap.size+1) 0 [.a 1,.slice l k n,.slice E D.length F,.a C,.a z] (g1.o.row.there (o:=0) (m:=5) (Mj _));refine Zx [.a 1,.slice l k n,.slice E D.length F,.a C,.a z] _ results15 rfl hX underlying39 rfl Tryz.bP rfl ⟨_,l,E,n,F,?_,l0.o,?_,?_,?_⟩
      .show Ending.returned _=Ending.returned _;rw[g0.o];try rfl
      .exact h_ (vs:=[.a 1,.slice l k n,.slice E D.length F,.a C,.a z]) p7.o l2.o
      .exact nS (vs:=[.a 1,.slice l k n,.slice E D.length F,.a C,.a z]) p6.o l2.o
      .exact aP (g:=w.heap.size+1) E5 [.a 1,.slice l k n,.slice E D.length F,.a C,.a z] 0 p8.o
theorem LU{Kq:List Qz}{Kj:List NL}{o:mG}(h:sZ Kq Kj o):((bE Kq 0/\eP Kj)/\(o.code != 9)=true)\/(¬(bE Kq 0/\eP Kj)/\(o.code != 9)=false):=by
 rcases h.2 with⟨a,b,d,c⟩|⟨a,rfl⟩
 .refine .inl ⟨⟨a,b⟩,?_⟩;rcases c.rest with⟨_,e,_⟩|⟨_,e,_⟩<;>rw[e]<;>rfl
 .exact .inr ⟨a,rfl⟩
theorem ze(w:NN)(a:NM)(cap:Nat)(Kq:List Qz)(ra:NM)(rc:Nat)(Kj:List NL)(i:Kq.length<=1048576)(j:∀y∈Kq,y.Fits)(k:Kj.length<=1048576)(l:∀s∈Kj,s.size<=maxLen)(m:bQ w a Kq)(n:Strs w ra Kj):Calls prog 7 #[.agg #[.slice a Kq.length cap],.slice ra Kj.length rc] w λe w'=>Says e (bE Kq 0/\eP Kj)/\K_ w w':=by
 have b:K_ w (w.alloc (.cells #[.slice a Kq.length cap] 25)):=ah _ _;go_enter func7,ntmps7
 go_wp2_with fail
 refine (yD _ a cap Kq ra rc Kj i j k l (m.kept b) (n.kept b)).mono ?_;rintro e d ⟨o,x,y,c,p,rfl,q,_,_,r⟩;have t:(Instr.field 39 (.agg #[.a o.code,.slice x o.res.length c,.slice y o.chain.length p,.a o.eG,.a o.cost]) 0).run prog d=.ok (.a o.code) d:=F4;go_wp2
 go_ret
 refine⟨?_,b.trans r⟩;show Says (.returned (.bool (o.code != 9))) _;rcases LU q with⟨h,f⟩|⟨h,f⟩<;>rw[f]
 .exact Says.yes h
 .exact Says.no h
theorem Am(w:NN)(a:NM)(cap:Nat)(Kq:List Qz)(ra:NM)(rc:Nat)(Kj:List NL)(d:NM)(dc:Nat)(b:List Q_)(O:Kq.length<=1048576)(a2:∀y∈Kq,y.Fits)(a3:Kj.length<=1048576)(a4:∀s∈Kj,s.size<=maxLen)(a5:b.length<=1048576)(a6:∀x∈b,x.texts.length<=1048576)(P:bQ w a Kq)(Q:bN w d b)(R:Strs w ra Kj):Calls prog 27 #[.agg #[.slice a Kq.length cap],.agg #[.slice ra Kj.length rc,.slice d b.length dc]] w λe w'=>EH Kq Kj b w w' e:=by
 let⟨h,l⟩:=aj (((w.alloc (.cells #[.slice a Kq.length cap] 25)).alloc (.cells #[.slice ra Kj.length rc,.slice d b.length dc] 43)).alloc (.cells #[.a 0,M3,M3,.a 0,.a 0] 39));have S:K_ w h:=by rw[l];exact ((ah _ _).alloc _).alloc _
 have a7:h.heap.size=w.heap.size+3:=by rw[l];simp
 have p:M4 h w.heap.size 0 (.slice a Kq.length cap):=by
  rw[l];exact (xx (w:=w) (v:=.slice a Kq.length cap) (t:=25) ((ah _ _).alloc _)).1
 have G:M4 h (w.heap.size+1) 0 (.slice ra Kj.length rc)/\M4 h (w.heap.size+1) 1 (.slice d b.length dc):=by
  have i:=yN (w:=w.alloc (.cells #[.slice a Kq.length cap] 25)) (v0:=.slice ra Kj.length rc) (v1:=.slice d b.length dc) (t:=43) (w1:=h) (by rw[l];exact ah _ _);rw[MZ] at i;exact i
 have T:Hid (ay h (w.heap.size+1+1) 39 5):=by
  have i:=ay.made ((w.alloc (.cells #[.slice a Kq.length cap] 25)).alloc (.cells #[.slice ra Kj.length rc,.slice d b.length dc] 43)) #[.a 0,M3,M3,.a 0,.a 0] 39;rw[MZ,MZ] at i;rw[l];exact i
 have a8:Hid (jC h (w.heap.size+1+1)):=by
  have i:=ui (w:=(w.alloc (.cells #[.slice a Kq.length cap] 25)).alloc (.cells #[.slice ra Kj.length rc,.slice d b.length dc] 43)) (k:=0) (m:=0) (n:=0) (a:=none) (f:=none) (c:=0) (e0:=0) (rl:=0) (cl:=0) (t:=39);rw[MZ,MZ] at i;rw[l];exact i
 have E:w.heap.size<h.heap.size:=E5;have B:w.heap.size+1<h.heap.size:=E5;have z2:w.heap.size+1+1<h.heap.size:=E5;have U:Hid (∀w',K_ h w'->M4 w' w.heap.size 0 (.slice a Kq.length cap)/\M4 w' (w.heap.size+1) 0 (.slice ra Kj.length rc)/\M4 w' (w.heap.size+1) 1 (.slice d b.length dc)/\w.heap.size<w'.heap.size/\w.heap.size+1<w'.heap.size):=λw' K=>⟨(K.cell E).trans p,(K.cell B).trans G.1,(K.cell B).trans G.2,Mk E K.size,Mk B K.size⟩
 have F:=Kz S;clear S a7 p G;go_enter func27,ntmps27
 go_upto_region 1 with fail
 rw[<-l];clear l;let⟨p,H,I,_,_⟩:=U.o _ (K_.refl _);go_wp2_with fail
 refine (kV _ a cap Kq ra rc Kj d dc b O a2 a3 a4 a5 a6 (P.kept F.o) (Q.kept F.o) (R.kept F.o)).mono ?_;rintro e V ⟨⟨bv,rfl,W⟩,C⟩;have X:=Kz W;clear W p H I E B;let⟨p,H,I,E,B⟩:=U.o _ C;have D:=F.o.trans C;cases bv
 .have j:=T.o.kept C;let⟨⟨⟨_,a9⟩,b0⟩,⟨⟨_,b1⟩,b2⟩,⟨⟨_,b3⟩,b4⟩,⟨⟨_,b5⟩,b6⟩,⟨_,b7⟩,b8⟩:=j.row.rR;have b9:=j.lt;have J:=Kz j;clear j;go_wp2_with fail
  have L:=Mo V (w.heap.size+1+1) 0 [.a 9,M3,M3,.a 0,.a 0] (J.o.row.there (o:=0) (m:=5) (Mj _));refine Zx [.a 9,M3,M3,.a 0,.a 0] _ results27 rfl L underlying39 rfl Tryz.bP rfl ⟨BV,none,none,0,0,rfl,⟨⟨Ml _,Ml _⟩,.inr ⟨λi=>(by have:=X.o.2 i;cases this),rfl⟩⟩,(λc0 M=>by cases M),(λc0 M=>by cases M),?_⟩;exact aP (g:=w.heap.size+1+1) E5 [.a 9,M3,M3,.a 0,.a 0] 0 D
 .have c1:=Kz (X.o.1 rfl);go_wp2_with fail
  refine (DV V a cap Kq ra rc Kj d dc b O c1.o (P.kept D) (Q.kept D) (R.kept D)).mono ?_;rintro e w2 ⟨o,q,r,z,A,rfl,Y,Z,a0,N⟩;have⟨HA,c2,c3⟩:=di Y Z a0;have j:=T.o.kept (C.trans N);have a1:=Kz (a8.o.kept z2 (C.trans N));let⟨⟨⟨_,a9⟩,b0⟩,⟨⟨_,b1⟩,b2⟩,⟨⟨_,b3⟩,b4⟩,⟨⟨_,b5⟩,b6⟩,⟨_,b7⟩,b8⟩:=j.row.rR;have b9:=j.lt;have J:=Kz j;clear j Y Z a0 p H I;go_wp2_with fail
  have L:=Mo w2 (w.heap.size+1+1) 0 (o.cells q r z A) (J.o.row.there (o:=0) (m:=5) (Mj _));refine Zx (o.cells q r z A) _ results27 rfl L underlying39 rfl Tryz.bP rfl ⟨o,q,r,z,A,rfl,HA.o,?_,?_,?_⟩
  .exact h_ (vs:=o.cells q r z A) c2.o a1.o
  .exact nS (vs:=o.cells q r z A) c3.o a1.o
  .exact aP (g:=w.heap.size+1+1) E5 (o.cells q r z A) 0 (D.trans N)
def Hw(E:NL->NL->Prop)(w w':NN)(e:Ending):Prop:=∃(da:NM)(ns:List NL),e=.returned (.slice da ns.length ns.length)/\cB w' w.heap.size w'.heap.size da ns/\ns.length<=60/\om E ns/\K_ w w'
theorem uK(w:NN)(t:Nat)(l:NL->Prop)(c:NL->List NL)(all:List NL)(F:∀s,l s->s∈all)(G:all.length<=60)(H:∀s,l s->s.size<=20)(Y:∀s,(c s).length<=1000000)(I:uD w t l c):Calls prog 74 #[.map (some t)] w λe w'=>Hw (λx y=>y∈c x) w w' e:=by
 go_enter func74,ntmps74
 go_wp2_with fail
 refine (CY w t l c all F G H Y I).mono ?_;rintro e d ⟨f,i,a,m,n,Z,a0,back,rfl,v,p,J,L,hM,M⟩;have a1:a.length<=60:=by
  refine Mm (List.Nodup.length_le_of_subset ?_ λx hx=>F x ((p x).1 hx)) G;exact v.imp λ{b2 b3} a2=>dO a2
 have a3:Hid (jb (λx y=>y∈c x) a):=⟨v,λx y N=>(p x).2 (I.sub x λe=>by rw[e] at N;cases N)⟩;have a4:Hid (∀s∈a,s.size<=1048576):=λs hs=>by have:=H s ((p s).1 hs);omega
 have O:=Kz L;let⟨z,j⟩:=aj (d.alloc (.cells #[.slice f a.length i,.b m a.length a.length,.b n a.length a.length] 187));have A:K_ d z:=by rw[j];exact ah _ _
 let⟨B,C⟩:=aj d.heap.size;have q:Hid (∀u,K_ z u->M4 u B 0 (.slice f a.length i)/\M4 u B 1 (.b m a.length a.length)/\M4 u B 2 (.b n a.length a.length)):=λu k=>by
  have D:d.heap.size<z.heap.size:=by rw[j];simp
  have h:=X_ d #[.slice f a.length i,.b m a.length a.length,.b n a.length a.length] 187;rw[<-j] at h;rw[C];exact⟨(k.cell D).trans (h 0 _ rfl),(k.cell D).trans (h 1 _ rfl),(k.cell D).trans (h 2 _ rfl)⟩
 have P:=Kz (J.kept A);have a5:=Kz (M.trans A);have⟨a6,a7⟩:=aH j C;clear v p J L M A j C;go_upto_region 2 with fail
 rw[<-a6.o,<-a7.o];refine bF 4 q.o λwd Q E=>?_
 refine ae 0 E ?_;refine ae 1 E ?_;refine aG 2 λK b=>?_;go_simp
 go_at_call 131
 refine (Dm wd f i a m n a0 back _ Z a1 hM (P.o.kept Q) O.o).mono ?_;rintro e w3 ⟨pa,pc,R,rfl,S,a8,T,U,k3⟩;have r:=Q.trans k3;have⟨a9,b0,b1⟩:=di S U T;clear S U T;dsimp only;refine af b (λ_=>q.o _ r) ?_;clear b K E;refine aG 3 λK b=>?_;go_simp
 go_at_call 130
 refine (Ir w3 f i a _ _ rfl rfl pa pc R b1.o E5 E5 a4.o (P.o.kept r).names a9.o).mono ?_;rintro e w4 ⟨da,rfl,V,W⟩;have K4:=r.trans W;have HT:=Kz V;have X:=Kz (a5.o.trans r);clear V;dsimp only;refine af b (λ_=>q.o _ K4) ?_;clear b K;refine ai 4 λK b=>?_;go_simp
 refine af b (λh=>NB rfl h) ?_;clear b K;refine aC ?_;clear q O;go_wp2
 go_ret
 refine⟨da,R.map (nameOf a),by rw[Nt];rfl,HT.o.mono X.o.size (Mj _),by rw[Nt];exact a8,b0.o.Ko a3.o,X.o.trans W⟩
def Ef(Kq:List Qz)(Kj:List NL)(sl:List Q_)(w w':NN)(e:Ending):Prop:=∃(da:NM)(ns:List NL),e=.returned (.slice da ns.length ns.length)/\cB w' w.heap.size w'.heap.size da ns/\nA Kq Kj sl ns/\K_ w w'
theorem xn(w:NN)(a:NM)(cap:Nat)(Kq:List Qz)(rd:NM)(rc:Nat)(Kj:List NL)(j:NM)(m:Nat)(b:List Q_)(Y:Kq.length<=1048576)(n:∀s∈Kq,s.Fits)(Z:Kj.length<=maxLen)(a0:Kj.length<=rc)(a1:∀s∈Kj,s.size<=maxLen)(a2:b.length<=1048576)(a3:∀r∈b,r.texts.length<=1048576)(hS:bQ w a Kq)(hR:Strs w rd Kj)(hG:bN w j b)(a4:fU w):Calls prog 28 #[.agg #[.slice a Kq.length cap],.agg #[.slice rd Kj.length rc,.slice j b.length m]] w λe w'=>Ef Kq Kj b w w' e:=by
 have c:K_ w ((w.alloc (.cells #[.slice a Kq.length cap] 25)).alloc (.cells #[.slice rd Kj.length rc,.slice j b.length m] 43)):=(ah _ _).alloc _;go_enter func28,ntmps28
 go_wp2_with fail
 refine (kK _ a cap Kq rd rc Kj j m b Y n Z a0 a1 a2 a3 (hS.kept c) (hR.kept c) (hG.kept c) (a4.kept c)).mono ?_;rintro e w1 ⟨p,a5⟩;have q:=c.trans p;rcases a5 with⟨G,rfl⟩|⟨v,H,x,wz,bb,mb,mx,z,d,dc,c2,ws,a6,rfl,kz,I,A,a7,B,J,K⟩
 .have a8:=Kz G;clear G p c;go_wp2
  go_ret
  exact⟨none,[],rfl,.inl rfl,⟨Ml _,.inr ⟨λh=>a8.o ⟨h.1,h.2.1,h.good.asc⟩,rfl⟩⟩,q⟩
 have C:=Kz (B.trans (mV v H A J K));have⟨L,M,D,E⟩:=nC B I A v;clear H x kz B J K p c I A v;cases a6
 .go_wp2
  go_ret
  exact⟨none,[],rfl,.inl rfl,⟨Ml _,.inr ⟨λh=>(by have h2:=C.o.2 h;cases h2),rfl⟩⟩,q⟩
 have N:Hid (Qj z=b):=L.o.1 rfl;have O:Hid (bR Kq Kj b):=C.o.1 rfl;clear L C;have P:=M.o.len (gy E.o);go_wp2_with fail
 refine (zn M.o D.o (bV E.o) a7 P).mono ?_;rintro e Q ⟨R,c3,g,f,rfl,k,l,hM,k2⟩;have b0:Hid ((λS y=>y∈f S)=bG (Kk Kq) (Qq b)):=by
  show _=_
  funext S y
  rw[l.iff,<-N.o,uI D.o (by rw[N.o];exact O.o.asked)];simp
 have T:Hid (∀s,f s≠[]->s∈z.map (·.r.name)):=λs i=>by
  let⟨y,hy⟩:=List.exists_mem_of_ne_nil _ i;let⟨_,t,F,hn,_⟩:=(l.iff s y).1 hy;rw[<-hn];exact MM.2 ⟨t,F,rfl⟩
 have b1:Hid (∀s,f s≠[]->s.size<=20):=λs i=>by
  obtain⟨t,F,rfl⟩:=MM.1 (T.o s i);let⟨c4,x,_⟩:=(D.o.good.good t.r (Nk (f:=λt:Zk=>t.r) F)).act;exact (bV E.o _ _ x).2.2.1
 have b2:Hid (uD Q R (λs=>f s≠[]) f):=by
  let⟨b3,b4,hN,b5,n,hh⟩:=k.map;refine⟨⟨b3,b4,E5,b5,λs i=>?_,hh⟩,λs h=>h⟩;let⟨va,vc,hg⟩:=aF (k.row s);have b6:=k.row s;let⟨a9,c9,e9,b7⟩:=bO b6;exact⟨a9,c9,by rw[n s i,e9],b7⟩
 have b8:Hid (∀s,(f s).length<=1000000):=λs=>by have:=l.len s;omega
 clear k l;go_wp2_with fail
 refine (uK Q R _ f (z.map (·.r.name)) T.o (by rw[Nt];exact P) b1.o b8.o b2.o).mono ?_;rintro e w3 ⟨da,U,rfl,V,b9,W,k3⟩;have c0:=Kz V;have c1:Hid (om (bG (Kk Kq) (Qq b)) U):=by rw[<-b0.o];exact W
 have X:=q.trans k2;have zz:=X.size;clear V W;go_wp2
 go_ret
 exact⟨da,U,rfl,c0.o.mono E5 (Mj _),⟨b9,.inl ⟨O.o,c1.o⟩⟩,X.trans k3⟩
def Eu(P:mG->Prop)(w w':NN)(e:Ending):Prop:=∃(o:mG)(a f:NM)(c e0 mid:Nat),e=.returned (.agg #[.a o.code,.slice a o.res.length c,.slice f o.chain.length e0,.a o.eG,.a o.cost])/\P o/\iA w' w.heap.size mid a o.res/\cB w' mid w'.heap.size f o.chain/\w.heap.size<=mid/\mid<=w'.heap.size/\K_ w w'
theorem jV{w:NN}{lo hi g:Nat}{vs:List NP}{a:NM}{l:List dS}(h:iA w lo hi a l)(c:g<lo\/hi<=g):iA (w.setCells g 0 vs) lo hi a l:=h.same (Same.setCells c vs 0 w)
theorem sK{w:NN}{lo hi g:Nat}{vs:List NP}{a:NM}{l:List NL}(h:cB w lo hi a l)(c:g<lo\/hi<=g):cB (w.setCells g 0 vs) lo hi a l:=h.same (Same.setCells c vs 0 w)
section
variable {G:cZ}{Kq:List Qz}{wz w w':NN}{bb:Nat}{a:NM}{cap:Nat}{rd:NM}{rc:Nat}{mb mx:Nat}{ts:List Zk}{d:NM}{dc:Nat}{f:NL -> NP}{ws:NL -> List Nat}
theorem yx(Kj:List NL)(l:List Q_)(hB:BM G Kq wz w bb a cap rd Kj.length rc mb mx ts d dc f ws)(e9:BS Kq ts ws)(k4:mx<=9000)(L:bR Kq Kj l)(c5:Qj ts=l)(hR:Strs w rd Kj):Calls prog 72 #[.c bb] w λe w'=>Eu (gN Kq Kj l) w w' e:=by
 have⟨y,b4,a6,M,c6⟩:=jh hB e9 L c5 L.good;have b5:=bV L.1;have c7:=y.o.len (gy L.1);have k5:=Mm L.good.len (gy L.1);have c8:=L.2.1.2.1;have f2:Hid (∀A∈Kj,A.size<=20):=λA N=>by
  obtain⟨n,hi,rfl⟩:=MB N;have p:=(L.2.1.2.2 n hi).1.2.1;simpa[List.getD,hi] using p
 have d0:Hid (∀A∈Kj,(∃P∈ts,P.r.name=A)\/Kk Kq A=none):=λA N=>by
  rcases L.Fj A N with⟨r,h1,f3⟩|h1
  .rw[<-c5] at h1;let⟨P,ht,e⟩:=MM.1 h1;exact .inl ⟨P,ht,by rw[e];exact f3⟩
  .exact .inr h1
 have n4:=y.o.row.lt;clear hB e9 L c5;let⟨W0,a7⟩:=aj (w.alloc (.cells #[.a 0,M3,M3,.a 0,.a 0] 39));have k0:K_ w W0:=by rw[a7];exact ah _ _
 have z0:W0.heap.size=w.heap.size+1:=by rw[a7];simp
 have f4:Hid (ay W0 w.heap.size 39 5):=by rw[a7];exact ay.made w _ _
 have k6:=(y.o.kept k0).c2;go_enter func72,ntmps72
 go_upto_region 1 with fail
 rw[<-a7];clear a7;go_wp2_with fail
 refine (yt (y.o.kept k0) (by rw[M.o];exact a6.o.Mh) E5 rd rc Kj E5 (λA N=>⟨by have:=f2.o A N;omega,d0.o A N⟩) (λA N=>by rw[M.o];have:=Fv c6.o (f2.o A N);omega) (hR.kept k0)).mono ?_;rintro e w1 ⟨i,rfl,d1,k1⟩;let⟨a0,d2⟩:=aj (pu (Kk Kq) (Qq l));rw[M.o,<-d2] at d1;let⟨b,a3⟩:=aj w1.heap.size;let⟨v,a4⟩:=aj (w1.alloc (.cells #[.a 0,.slice i Kj.length Kj.length,M3,.a 0,.a 0] 39));have k2:K_ w1 v:=by rw[a4];exact ah _ _
 have f5:Hid (fK v b v 0 (.slice i Kj.length Kj.length) 0 0):=by
  let⟨q0,q1,q2,q3,q4⟩:=mP (w:=w1) (w1:=v) (v0:=.a 0) (v1:=.slice i Kj.length Kj.length) (v2:= M3) (v3:=.a 0) (v4:=.a 0) (t:=39) (by rw[a4];exact K_.refl _);rw[<-a3] at q0 q1 q2 q3 q4;exact⟨But.ax (K_.refl _),by rw[a4,a3];exact ay.made w1 _ _,q0,q1,q2,q3,q4⟩
 have n5:b<v.heap.size:=by rw[a4,a3];simp
 have n6:=k1.size;have n7:w.heap.size+1<=b:=E5;have f6:Hid (iA v W0.heap.size b i (Kj.map a0)):=by rw[a3];exact d1.same (k2.same _ _)
 have d3:=k0.trans (k1.trans k2);have f7:=Kz (f4.o.kept (k1.trans k2));have d4:=Kz d2;have HC:Hid (∀u,But (λj=>j=b) v u->K_ w u/\ay u w.heap.size 39 5/\iA u W0.heap.size b i (Kj.map a0)/\v.heap.size<=u.heap.size):=λu p=>⟨p.kept d3 (λj e=>by rw[e];omega),p.row f7.o λ(e:w.heap.size=b)=>E5,f6.o.same λj h1 f3 _=>p.block j E5 λ(e:j=b)=>E5,p.size⟩
 have c3:=(y.o.kept d3).c3;have n8:bb<v.heap.size:=E5;go_upto_region 2 with fail
 rw[<-a4,<-a3];clear a4 a3 k2 k1 f6 d2 d1 f4 f7 k6 d3;have f8:Hid (0=dm (l.take 0)/\0=fq (Kk Kq) (l.take 0)):=⟨rfl,rfl⟩;have n9:¬b=bb:=E5;go_wp2
 go_loopw [20] (λd5 wr=>∃(n:Nat)(h c:Int),n<=ts.length/\d5=.a (n:Int)/\Hid (h=dm (l.take n)/\c=fq (Kk Kq) (l.take n))/\Hid (fK v b wr 0 (.slice i Kj.length Kj.length) h c)) (λd5 _=>ts.length-(intOf d5).toNat)
 case atStart=>exact⟨0,0,0,Ml _,rfl,f8,f5⟩
 case round=>
  clear f8 f5 c3;obtain⟨n,h,c,hi,rfl,HU,B⟩:=hrel;let⟨Kr,f9,g0,o5⟩:=HC.o wr B.o.but;have⟨g1,d0,g2⟩:=di Kr f9 g0;clear Kr f9 g0;have g3:=Fe b5 c6.o k5 n;rw[<-HU.o.1,<-HU.o.2] at g3;have a8:(Qj ts).length=ts.length:=by simp[Qj]
  by_cases a1:n<ts.length
  .have o6:(n:Int)<(ts.length:Int):=E5;let⟨g,d6,d7⟩:=(y.o.kept g1.o).item a1;have o7:g<w.heap.size:=by
    let⟨g',g4,_⟩:=y.o.item a1;rw[d6] at g4;cases g4;exact (y.o.items.lt g (by rw[d6];rfl)).2
   subst d6;let⟨q,b6⟩:=aj (ts[n]);rw[<-b6] at d7;have b7:q∈ts:=by rw[b6];exact Mw a1
   have hT:=(y.o.kept g1.o).eZ q b7;have a9:=(y.o.eZ q b7).row.lt;have t5:=hT.rng 5 _ rfl;have t7:=hT.rng 7 _ rfl;simp only[MR] at t5 t7;have d8:l[n]'(by rw[<-M.o,a8];exact a1)=q.r:=by
    have p:(Qj ts)[n]'(by rw[a8];exact a1)=q.r:=by rw[b6];simp[Qj]
    rw[<-p]
    congr 1
    exact M.o.symm
   have d9:n<l.length:=by rw[<-M.o,a8];exact a1
   have g5:q.r∈l:=by rw[<-d8];exact Mw d9
   have e0:=c6.o.good q.r g5;have hA:=((y.o).act q b7).1;have e1:iB (Kk Kq) q.r.name=q.cost:=by rw[pF hA]
   have e2:=qC b5 q.r.name;rw[e1] at e2;have g6:0<=q.r.Zq/\q.r.Zq<=20:=⟨e0.lo,e0.hi⟩;have k7:=EK g6 e2;have g7:Hid (h+q.r.Zq=dm (l.take (n+1))/\c+q.r.Zq*q.cost=fq (Kk Kq) (l.take (n+1))):=by
    rw[Ms d9,oU,qX,d8,<-HU.o.1,<-HU.o.2,e1];exact⟨rfl,rfl⟩
   let⟨T,b0⟩:=aj q.tb;let⟨x,b8⟩:=aj q.r.Zq;let⟨Q,b9⟩:=aj q.cost;have k8:wr.cell? ⟨g,n,none⟩=some (.c T):=by rw[b0];exact d7
   rw[<-b0,<-b8] at t5;rw[<-b0,<-b9] at t7;rw[<-b0] at a9;rw[<-b8,<-b9] at g7 k7;rw[<-b8] at g6;rw[<-b9] at e2;have o8:IntKind.i64.wrap (h+x)=h+x:=dQ E5 E5;have o9:IntKind.i64.wrap (x*Q)=x*Q:=dQ E5 E5;have p0:IntKind.i64.wrap (c+x*Q)=c+x*Q:=dQ E5 E5;have g8:=B.o.row.lt;have e3:Hid (∀u:NN,(∀j,j<w.heap.size\/j=b->u.heap[j]? =wr.heap[j]?)->M4 u b 3 (.a h)/\M4 u b 4 (.a c)/\M4 u T 5 (.a x)/\M4 u T 7 (.a Q)):=λu R=>⟨(MC (w:=wr) (R b (.inr rfl))).trans B.o.c3,(MC (w:=wr) (R b (.inr rfl))).trans B.o.c4,(MC (w:=wr) (R T (.inl a9))).trans t5,(MC (w:=wr) (R T (.inl a9))).trans t7⟩
   have p1:g<wr.heap.size:=E5;have p2:¬b=T:=E5;clear d7 hT t5 t7 d8 d9 g5 e0 hA e1 b9 b8 b0 b6 b7;go_upto_region 5 with fail
   refine mg 9 e3.o (λ_ _=>rfl) λwd O C=>?_
   let⟨⟨_,e4⟩,e5⟩:=(B.o.kept O).row.row.at (i:=3) E5;have e6:=(B.o.kept O).row.lt;refine ak 0 C ?_;refine ak 4 C ?_;refine ae 8 C ?_;refine ai 9 λe7 hK=>?_;go_simp
   refine af hK (λp=>NB rfl p) ?_;clear hK e7;refine aC ?_;clear e5 e4 e6;let⟨W5,b1⟩:=aj (wd.setCell ⟨b,3,none⟩ (.a (h+x)));rw[<-b1];have D:Hid (fK v b W5 0 (.slice i Kj.length Kj.length) (h+x) c):=by rw[b1];exact (B.o.kept O).Lx _
   have l0:Hid (∀j,j≠b->j<wr.heap.size->W5.heap[j]? =wr.heap[j]?):=λj hb hz=>by rw[b1,Below.heap_setCell _ _ _ _ hb];exact O.block j hz
   have l1:Hid (∀u:NN,(∀j,j<w.heap.size\/j=b->u.heap[j]? =W5.heap[j]?)->M4 u b 4 (.a c)/\M4 u T 5 (.a x)/\M4 u T 7 (.a Q)):=λu R=>by
    have ho:=e3.o wr λ_ _=>rfl;have g9:∀j o,j<w.heap.size->u.cell? ⟨j,o,none⟩=wr.cell? ⟨j,o,none⟩:=λj o hb=>(MC (w:=W5) (R j (.inl hb))).trans (MC (w:=wr) (l0.o j E5 E5))
    exact⟨(MC (w:=W5) (R b (.inr rfl))).trans D.o.c4,(g9 _ _ a9).trans ho.2.2.1,(g9 _ _ a9).trans ho.2.2.2⟩
   have p3:wr.heap.size<=W5.heap.size:=by rw[b1,size_setCell];exact O.size
   clear b1 O B e3 C k8;clear wd;go_upto_region 6 with fail
   refine mg 15 l1.o (λ_ _=>rfl) λwd O C=>?_
   let⟨⟨_,e4⟩,e5⟩:=(D.o.kept O).row.row.at (i:=4) E5;have e6:=(D.o.kept O).row.lt;refine ak 0 C ?_;refine ak 4 C ?_;refine ak 8 C ?_;refine ae 12 C ?_;refine ae 13 C ?_;refine ae 14 C ?_;refine ai 15 λe7 hK=>?_;go_simp
   refine af hK (λp=>NB rfl p) ?_;clear hK e7;refine aC ?_;have t:Hid (fK v b (wd.setCell ⟨b,4,none⟩ (.a (c+x*Q))) 0 (.slice i Kj.length Kj.length) (h+x) (c+x*Q)):=(D.o.kept O).LB _;clear e5 e4 e6 C;go_wp2
   go_roundw
   case rel=>exact⟨n+1,h+x,c+x*Q,E5,F3,g7,t⟩
   case measure=>simp[intOf];omega
  .have p4:¬((n:Int)<(ts.length:Int)):=E5;have h0:n=l.length:=by rw[<-M.o,a8];omega
   have a5:Hid (h=dm l/\c=fq (Kk Kq) l):=by have p:=HU.o;rw[h0,MS] at p;exact p
   have U:Hid ((Kj.map a0).length=Kj.length):=by show _=_;rw[Nt]
   have o1:=B.o.c1;have g8:=B.o.row.lt;clear a1 h0 HU hi a8 g3;go_wp2_with fail
   have e8:=wN wr i Kj.length (Kj.map a0) (by rw[U.o];omega) g2.o.Mi;rw[U.o] at e8;refine e8.mono ?_;clear e8;rintro e w5 ⟨V,l2⟩;have D:=Kz (B.o.kept l2);let⟨h2,h3,h4,l3⟩:=HC.o w5 D.o.but;have⟨h5,l4,l5⟩:=di h2 h3 h4;clear h2 h3 h4 B d0 g2 o1 g8;have l6:=D.o.row.lt;rcases V.cases with⟨rfl,h6⟩|⟨rfl,h7⟩;rotate_left
   .have l7:=Kz h7;have b2:Hid (gN Kq Kj l ⟨0,Kj.map a0,[],h,c⟩):=⟨⟨by rw[U.o];exact c8,Ml _⟩,.inl ⟨a6.o,⟨by rw[d4.o],a5.o.1,a5.o.2,.inl ⟨l7.o,rfl,rfl⟩⟩⟩⟩;have o0:=D.o.c0;let⟨⟨_,f0⟩,f1⟩:=D.o.row.row.at (i:=0) E5;let⟨E,H⟩:=aj (w5.setCell ⟨b,0,none⟩ (.a 0));have t:Hid (fK v b E 0 (.slice i Kj.length Kj.length) h c):=by rw[H];exact D.o.set0 0
    clear h7 V;go_upto_region 14 with fail
    rw[<-H];clear H f0 f1 o0;have o0:=t.o.c0;have o1:=t.o.c1;have o2:=t.o.c2;have o3:=t.o.c3;have o4:=t.o.c4;let⟨W,X,Y,h8⟩:=HC.o E t.o.but;have⟨a2,I,b3⟩:=di W X Y;have Z:=t.o.row.lt;clear W X Y;let⟨⟨⟨_,h9⟩,i0⟩,⟨⟨_,i1⟩,i2⟩,⟨⟨_,i3⟩,i4⟩,⟨⟨_,i5⟩,i6⟩,⟨_,i7⟩,i8⟩:=I.o.row.rR;have i9:=I.o.lt;have j0:¬b=w.heap.size:=E5;go_wp2
    have hX:=Mo E w.heap.size 0 [.a 0,.slice i Kj.length Kj.length,M3,.a h,.a c] (I.o.row.there (o:=0) (m:=5) (Mj _));refine Zx [.a 0,.slice i Kj.length Kj.length,M3,.a h,.a c] _ results72 rfl hX underlying39 rfl Tryz.bP rfl ⟨_,i,none,Kj.length,0,b,?_,b2.o,?_,?_,E5,?_,?_⟩
    .show Ending.returned _=Ending.returned _;rw[U.o];try rfl
    .exact (jV (vs:=[.a 0,.slice i Kj.length Kj.length,M3,.a h,.a c]) b3.o (.inl E5)).mono E5 (Mj _)
    .exact .inl rfl
    .exact Mm (Nat.le_of_lt Z) (MN (size_setCells w.heap.size [.a 0,.slice i Kj.length Kj.length,M3,.a h,.a c] 0 E).symm)
    .exact aP (Mj _) [.a 0,.slice i Kj.length Kj.length,M3,.a h,.a c] 0 a2.o
   have j1:=Kz h6;clear h6 V;go_wp2_with fail
   refine (Bl (y.o.kept h5.o) b4.o c7).mono ?_;rintro e w6 ⟨V,l8⟩;rw[M.o] at V;have t:=Kz (D.o.kept l8);have Z:=t.o.row.lt;have o0:=t.o.c0;let⟨⟨_,f0⟩,f1⟩:=t.o.row.row.at (i:=0) E5;clear D l6 h5 l4 l5 l3;rcases V.cases with⟨rfl,j2⟩|⟨rfl,j3⟩
   .have l9:=Kz j2;have b2:Hid (gN Kq Kj l ⟨2,Kj.map a0,[],h,c⟩):=⟨⟨by rw[U.o];exact c8,Ml _⟩,.inl ⟨a6.o,⟨by rw[d4.o],a5.o.1,a5.o.2,.inr (.inl ⟨j1.o,l9.o,rfl,rfl⟩)⟩⟩⟩;let⟨E,H⟩:=aj (w6.setCell ⟨b,0,none⟩ (.a 2));have J:Hid (fK v b E 2 (.slice i Kj.length Kj.length) h c):=by rw[H];exact t.o.set0 2
    clear j2 V;go_upto_region 14 with fail
    rw[<-H];clear H f0 f1 o0 Z t;have o0:=J.o.c0;have o1:=J.o.c1;have o2:=J.o.c2;have o3:=J.o.c3;have o4:=J.o.c4;let⟨W,X,Y,h8⟩:=HC.o E J.o.but;have⟨a2,I,b3⟩:=di W X Y;have Z:=J.o.row.lt;clear W X Y;let⟨⟨⟨_,h9⟩,i0⟩,⟨⟨_,i1⟩,i2⟩,⟨⟨_,i3⟩,i4⟩,⟨⟨_,i5⟩,i6⟩,⟨_,i7⟩,i8⟩:=I.o.row.rR;have i9:=I.o.lt;have j0:¬b=w.heap.size:=E5;go_wp2
    have hX:=Mo E w.heap.size 0 [.a 2,.slice i Kj.length Kj.length,M3,.a h,.a c] (I.o.row.there (o:=0) (m:=5) (Mj _));refine Zx [.a 2,.slice i Kj.length Kj.length,M3,.a h,.a c] _ results72 rfl hX underlying39 rfl Tryz.bP rfl ⟨_,i,none,Kj.length,0,b,?_,b2.o,?_,?_,E5,?_,?_⟩
    .show Ending.returned _=Ending.returned _;rw[U.o];try rfl
    .exact (jV (vs:=[.a 2,.slice i Kj.length Kj.length,M3,.a h,.a c]) b3.o (.inl E5)).mono E5 (Mj _)
    .exact .inl rfl
    .exact Mm (Nat.le_of_lt Z) (MN (size_setCells w.heap.size [.a 2,.slice i Kj.length Kj.length,M3,.a h,.a c] 0 E).symm)
    .exact aP (Mj _) [.a 2,.slice i Kj.length Kj.length,M3,.a h,.a c] 0 a2.o
   have m0:=Kz j3;let⟨E,H⟩:=aj (w6.setCell ⟨b,0,none⟩ (.a 1));have J:Hid (fK v b E 1 (.slice i Kj.length Kj.length) h c):=by rw[H];exact t.o.set0 1
   clear j3 V;go_upto_region 9 with fail
   rw[<-H];clear H f0 f1 o0 Z t;have a2:=Kz (HC.o E J.o.but).1;go_wp2_with fail
   refine (zn (y.o.kept a2.o) b4.o b5 k4 c7).mono ?_;rintro e w8 ⟨mo,p5,g,ol,rfl,hO,hI,hM,j4⟩;have m1:Hid ((λj5 c2=>c2∈ol j5)=bG (Kk Kq) (Qq l)):=by
    show _=_
    funext j5 c2
    rw[hI.iff,<-M.o,uI b4.o (by rw[M.o];exact a6.o.asked)];simp
   have j6:Hid (∀s,ol s≠[]->s∈ts.map (·.r.name)):=λs hs=>by
    let⟨c2,hy⟩:=List.exists_mem_of_ne_nil _ hs;let⟨_,P,ht,N,_⟩:=(hI.iff s c2).1 hy;rw[<-N];exact MM.2 ⟨P,ht,rfl⟩
   have m2:Hid (∀s,ol s≠[]->s.size<=20):=λs hs=>by
    obtain⟨P,ht,rfl⟩:=MM.1 (j6.o s hs);let⟨p6,hA,_⟩:=(b4.o.good.good P.r (Nk (f:=λP:Zk=>P.r) ht)).act;exact (b5 _ _ hA).2.2.1
   have m3:Hid (uD w8 mo (λs=>ol s≠[]) ol):=by
    let⟨m4,m5,hN,m6,hf,R⟩:=hO.map;refine⟨⟨m4,m5,E5,m6,λs hs=>?_,R⟩,λs p=>p⟩;have m7:=hO.row s;let⟨m8,c9,m9,n0⟩:=bO m7;exact⟨m8,c9,by rw[hf s hs,m9],n0⟩
   have n1:Hid (∀s,(ol s).length<=1000000):=λs=>by have:=hI.len s;omega
   clear hO hI;go_wp2_with fail
   refine (uK w8 mo _ ol (ts.map (·.r.name)) j6.o (by rw[Nt];exact c7) m2.o n1.o m3.o).mono ?_;rintro e w9 ⟨F,k,rfl,j7,n2,j8,k9⟩;have j9:Hid (om (bG (Kk Kq) (Qq l)) k):=by rw[<-m1.o];exact j8
   have b2:Hid (gN Kq Kj l ⟨1,Kj.map a0,k,h,c⟩):=⟨⟨by rw[U.o];exact c8,n2⟩,.inl ⟨a6.o,⟨by rw[d4.o],a5.o.1,a5.o.2,.inr (.inr ⟨j1.o,m0.o,rfl,j9.o⟩)⟩⟩⟩;have S:=Kz (J.o.kept (j4.trans k9));have p7:=j4.size;have p8:=J.o.row.lt;have k3:=S.o.row.lt;let⟨⟨_,f0⟩,f1⟩:=S.o.row.row.at (i:=2) E5;let⟨z,K⟩:=aj (w9.setCell ⟨b,2,none⟩ (.slice F k.length k.length));have o0:z.cell? ⟨b,0,none⟩=some (.a 1):=by rw[K];exact miss S.o.c0 E8
   have o1:z.cell? ⟨b,1,none⟩=some (.slice i Kj.length Kj.length):=by rw[K];exact miss S.o.c1 E8
   have o2:z.cell? ⟨b,2,none⟩=some (.slice F k.length k.length):=by rw[K];exact aR S.o.row.row E5 _
   have o3:z.cell? ⟨b,3,none⟩=some (.a h):=by rw[K];exact miss S.o.c3 E8
   have o4:z.cell? ⟨b,4,none⟩=some (.a c):=by rw[K];exact miss S.o.c4 E8
   let⟨W,X,Y,h8⟩:=HC.o z (by rw[K];exact S.o.but.set rfl _);have⟨a2,I,b3⟩:=di W X Y;have Z:b<z.heap.size:=by rw[K,size_setCell];exact k3
   have n3:Hid (cB z b z.heap.size F k):=by
    have p:cB z w8.heap.size w9.heap.size F k:=by rw[K];exact j7.same (Same.setCell _ (.inl (by show b<w8.heap.size;omega)) _)
    exact p.mono E5 (by rw[K,size_setCell];exact Mj _)
   clear W X Y j7 j8 j9 S;go_upto_region 14 with fail
   rw[<-K];clear K f0 f1 k3;let⟨⟨⟨_,h9⟩,i0⟩,⟨⟨_,i1⟩,i2⟩,⟨⟨_,i3⟩,i4⟩,⟨⟨_,i5⟩,i6⟩,⟨_,i7⟩,i8⟩:=I.o.row.rR;have i9:=I.o.lt;have j0:¬b=w.heap.size:=E5;go_wp2
   have hX:=Mo z w.heap.size 0 [.a 1,.slice i Kj.length Kj.length,.slice F k.length k.length,.a h,.a c] (I.o.row.there (o:=0) (m:=5) (Mj _));refine Zx [.a 1,.slice i Kj.length Kj.length,.slice F k.length k.length,.a h,.a c] _ results72 rfl hX underlying39 rfl Tryz.bP rfl ⟨_,i,F,Kj.length,k.length,b,?_,b2.o,?_,?_,E5,?_,?_⟩
   .show Ending.returned _=Ending.returned _;rw[U.o];try rfl
   .exact (jV (vs:=[.a 1,.slice i Kj.length Kj.length,.slice F k.length k.length,.a h,.a c]) b3.o (.inl E5)).mono E5 (Mj _)
   .exact (sK (vs:=[.a 1,.slice i Kj.length Kj.length,.slice F k.length k.length,.a h,.a c]) n3.o (.inl E5)).mono (Mj _) (MN (size_setCells w.heap.size [.a 1,.slice i Kj.length Kj.length,.slice F k.length k.length,.a h,.a c] 0 z).symm)
   .exact Mm (Nat.le_of_lt Z) (MN (size_setCells w.heap.size [.a 1,.slice i Kj.length Kj.length,.slice F k.length k.length,.a h,.a c] 0 z).symm)
   .exact aP (Mj _) [.a 1,.slice i Kj.length Kj.length,.slice F k.length k.length,.a h,.a c] 0 a2.o
end
theorem AB(w:NN)(a:NM)(cap:Nat)(Kq:List Qz)(rd:NM)(rc:Nat)(Kj:List NL)(p:NM)(y:Nat)(b:List Q_)(hl:Kq.length<=1048576)(hf:∀s∈Kq,s.Fits)(a7:Kj.length<=maxLen)(a8:Kj.length<=rc)(a9:∀s∈Kj,s.size<=maxLen)(b0:b.length<=1048576)(b1:∀r∈b,r.texts.length<=1048576)(hS:bQ w a Kq)(K:Strs w rd Kj)(hG:bN w p b)(b2:fU w):Calls prog 24 #[.agg #[.slice a Kq.length cap],.agg #[.slice rd Kj.length rc,.slice p b.length y]] w λe w'=>Eu (gN Kq Kj b) w w' e:=by
 let⟨f,q⟩:=aj (((w.alloc (.cells #[.slice a Kq.length cap] 25)).alloc (.cells #[.slice rd Kj.length rc,.slice p b.length y] 43)).alloc (.cells #[.a 0,M3,M3,.a 0,.a 0] 39));have i:K_ w f:=by rw[q];exact ((ah _ _).alloc _).alloc _
 have b3:f.heap.size=w.heap.size+3:=by rw[q];simp
 have b4:M4 f w.heap.size 0 (.slice a Kq.length cap):=by
  rw[q];exact (xx (w:=w) (v:=.slice a Kq.length cap) (t:=25) ((ah _ _).alloc _)).1
 have b5:M4 f (w.heap.size+1) 0 (.slice rd Kj.length rc)/\M4 f (w.heap.size+1) 1 (.slice p b.length y):=by
  have h:=yN (w:=w.alloc (.cells #[.slice a Kq.length cap] 25)) (v0:=.slice rd Kj.length rc) (v1:=.slice p b.length y) (t:=43) (w1:=f) (by rw[q];exact ah _ _);rw[MZ] at h;exact h
 have b6:Hid (ay f (w.heap.size+1+1) 39 5):=by
  have h:=ay.made ((w.alloc (.cells #[.slice a Kq.length cap] 25)).alloc (.cells #[.slice rd Kj.length rc,.slice p b.length y] 43)) #[.a 0,M3,M3,.a 0,.a 0] 39;rw[MZ,MZ] at h;rw[q];exact h
 let⟨s0,s1⟩:=b5;have z0:w.heap.size<f.heap.size:=E5;have z1:w.heap.size+1<f.heap.size:=E5;go_enter func24,ntmps24
 go_upto_region 1 with fail
 rw[<-q];clear q;go_wp2_with fail
 refine (kK _ a cap Kq rd rc Kj p y b hl hf a7 a8 a9 b0 b1 (hS.kept i) (K.kept i) (hG.kept i) (b2.kept i)).mono ?_;rintro e z ⟨x,b7⟩;have L:=i.trans x;have z3:w.heap.size+3<=z.heap.size:=by have:=x.size;omega
 have D:Hid (¬bR Kq Kj b->∀u,K_ f u->Eu (gN Kq Kj b) w (u.setCells (w.heap.size+1+1) 0 [.a 9,M3,M3,.a 0,.a 0]) (.returned (.agg #[.a 9,M3,M3,.a 0,.a 0]))):=λhn u M=>⟨BV,none,none,0,0,w.heap.size,rfl,⟨⟨Ml _,Ml _⟩,.inr ⟨hn,rfl⟩⟩,.inl rfl,.inl rfl,Mj _,by rw[size_setCells];have:=M.size;omega,aP (g:=w.heap.size+1+1) E5 _ 0 (i.trans M)⟩
 have c:=b6.o.kept x;clear b4 s0 s1 z0 z1 b3;rcases b7 with⟨N,rfl⟩|⟨O,P,C,wz,bb,mb,mx,ts,d,dc,c7,ws,b8,rfl,kz,Q,E,b9,F,R,S⟩
 .have G:Hid (¬bR Kq Kj b):=λh=>N ⟨h.1,h.2.1,h.good.asc⟩
  let⟨⟨⟨_,T⟩,U⟩,⟨⟨_,V⟩,W⟩,⟨⟨_,X⟩,Y⟩,⟨⟨_,Z⟩,a0⟩,⟨_,a1⟩,a2⟩:=c.row.rR;have a3:=c.lt;have⟨A,H⟩:=aH c x;clear N x i c;go_wp2_with fail
  have B:=Mo z (w.heap.size+1+1) 0 [.a 9,M3,M3,.a 0,.a 0] (A.o.row.there (o:=0) (m:=5) (Mj _));exact Zx [.a 9,M3,M3,.a 0,.a 0] _ results24 rfl B underlying39 rfl Tryz.bP rfl (D.o G.o z H.o)
 have I:=Kz (F.trans (mV O P E R S));have⟨a4,HB,c0⟩:=di F Q E;clear P C kz F R S Q E O;cases b8
 .have G:Hid (¬bR Kq Kj b):=λh=>(by have h2:=I.o.2 h;cases h2)
  let⟨⟨⟨_,T⟩,U⟩,⟨⟨_,V⟩,W⟩,⟨⟨_,X⟩,Y⟩,⟨⟨_,Z⟩,a0⟩,⟨_,a1⟩,a2⟩:=c.row.rR;have a3:=c.lt;have⟨A,H⟩:=aH c x;clear x i c;go_wp2_with fail
  have B:=Mo z (w.heap.size+1+1) 0 [.a 9,M3,M3,.a 0,.a 0] (A.o.row.there (o:=0) (m:=5) (Mj _));exact Zx [.a 9,M3,M3,.a 0,.a 0] _ results24 rfl B underlying39 rfl Tryz.bP rfl (D.o G.o z H.o)
 have c1:Hid (Qj ts=b):=a4.o.1 rfl;have c2:Hid (bR Kq Kj b):=I.o.1 rfl;have A:=Kz c;clear a4 I D c;go_wp2_with fail
 refine (yx Kj b HB.o c0.o b9 c2.o c1.o (K.kept L)).mono ?_;rintro e J ⟨o,j,k,l,n,c3,rfl,C,a5,a6,m1,m2,k2⟩;have⟨HA,c4,c5⟩:=di C a5 a6;have c:=A.o.kept k2;let⟨⟨⟨_,T⟩,U⟩,⟨⟨_,V⟩,W⟩,⟨⟨_,X⟩,Y⟩,⟨⟨_,Z⟩,a0⟩,⟨_,a1⟩,a2⟩:=c.row.rR;have a3:=c.lt;have c6:=Kz c;clear c C a5 a6;go_wp2_with fail
 have B:=Mo J (w.heap.size+1+1) 0 (o.cells j k l n) (c6.o.row.there (o:=0) (m:=5) (Mj _));refine Zx (o.cells j k l n) _ results24 rfl B underlying39 rfl Tryz.bP rfl ⟨o,j,k,l,n,c3,rfl,HA.o,?_,?_,E5,?_,?_⟩
 .exact (jV (vs:=o.cells j k l n) c4.o (.inl E5)).mono E5 (Mj _)
 .exact (sK (vs:=o.cells j k l n) c5.o (.inl E5)).mono (Mj _) (MN (size_setCells (w.heap.size+1+1) (o.cells j k l n) 0 J).symm)
 .exact Mm m2 (MN (size_setCells (w.heap.size+1+1) (o.cells j k l n) 0 J).symm)
 .exact aP (g:=w.heap.size+1+1) E5 (o.cells j k l n) 0 (L.trans k2)
structure StM (W1 wr:NN)(sb:Nat)(Kj:List NL)(T:List Q_)(ra:NM)(rc:Nat)(ds:NM)(dc:Nat):Prop where
 kw:K_ W1 wr
 lo:W1.heap.size<=sb
 row:ay wr sb 43 2
 c0:wr.cell? ⟨sb,0,none⟩=some (.slice ra Kj.length rc)
 c1:wr.cell? ⟨sb,1,none⟩=some (.slice ds T.length dc)
 rs:Strs wr ra Kj
 rr:bN wr ds T
 rl:Kj.length<=rc
section
variable {W1 wr w':NN}{sb:Nat}{Kj:List NL}{T T':List Q_}{ra ra':NM}{rc rc':Nat}{ds ds':NM}{dc dc':Nat}
theorem StM.kept(h:StM W1 wr sb Kj T ra rc ds dc)(k:K_ wr w'):StM W1 w' sb Kj T ra rc ds dc:=⟨h.kw.trans k,h.lo,h.row.kept k,(k.cell h.row.lt).trans h.c0,(k.cell h.row.lt).trans h.c1,h.rs.kept k,h.rr.kept k,h.rl⟩
theorem StM.set(h:StM W1 wr sb Kj T ra rc ds dc)(c:Strs wr ra' Kj)(d:bN wr ds' T')(f:Kj.length<=rc'):StM W1 (wr.setCells sb 0 [.slice ra' Kj.length rc',.slice ds' T'.length dc']) sb Kj T' ra' rc' ds' dc':=by
 have k:Xj sb (sb+1) wr (wr.setCells sb 0 [.slice ra' Kj.length rc',.slice ds' T'.length dc']):=Xj.sets (Mj _) (MO _) _ 0 (Xj.refl _ _ _);have a:NoS wr sb:=JK h.row h.c0 h.c1 (λ_ e=>by cases e) (λ_ e=>by cases e);have b:=Mo wr sb 0 [.slice ra' Kj.length rc',.slice ds' T'.length dc'] (h.row.row.there (o:=0) (m:=2) (Mj _));exact⟨k.kept h.kw h.lo,h.lo,ay.sets _ _ h.row,b 0 _ rfl,b 1 _ rfl,c.noS a k,d.noS a k,f⟩
end
def Ma(w:NN)(y:Q_)(x b:Act)(u:NN):Prop:=∃(v0 v1 v2 v3 v4 v5 v6 v7 v8 v9:NP)(qb:Nat)(ya:NM)(yc:Nat),b= ((((((((((((x.put (some 135) v0).put (some 136) v1).put (some 137) v2).put (some 138) v3).put (some 139) v4).put (some 140) v5).put (some 141) v6).put (some 142) v7).put (some 134) v8).put (some 143) v9).put (some 144) (.bool true)).put (some 15) (.c qb)).put (some 16) (.bool true)/\K_ w u/\gV u qb y ya yc/\Strs u ya y.texts
abbrev StpA (u:NN)(wb sb:Nat)(na:NM)(nc:Nat)(L:List Qz)(ra:NM)(rc:Nat)(Kj:List NL)(ds:NM)(dc:Nat)(T:List Q_):Prop:=u.cell? ⟨wb,0,none⟩=some (.slice na L.length nc)/\u.cell? ⟨sb,0,none⟩=some (.slice ra Kj.length rc)/\u.cell? ⟨sb,1,none⟩=some (.slice ds T.length dc)/\wb<u.heap.size/\sb<u.heap.size
abbrev LZ (u:NN)(wb sb ob:Nat)(na:NM)(nc:Nat)(L:List Qz)(ra:NM)(rc:Nat)(Kj:List NL)(ds:NM)(dc:Nat)(T:List Q_)(o:mG)(y1 y2:NM)(y3 y4:Nat):Prop:=u.cell? ⟨wb,0,none⟩=some (.slice na L.length nc)/\u.cell? ⟨sb,0,none⟩=some (.slice ra Kj.length rc)/\u.cell? ⟨sb,1,none⟩=some (.slice ds T.length dc)/\wb<u.heap.size/\sb<u.heap.size/\u.cell? ⟨ob,0,none⟩=some (.a o.code)/\u.cell? ⟨ob,1,none⟩=some (.slice y1 o.res.length y3)/\u.cell? ⟨ob,2,none⟩=some (.slice y2 o.chain.length y4)/\u.cell? ⟨ob,3,none⟩=some (.a o.eG)/\u.cell? ⟨ob,4,none⟩=some (.a o.cost)/\ob<u.heap.size
abbrev StpC (u:NN)(sb xb tb to0 j:Nat)(T T2:List Q_)(dc:Nat)(ra2:NM)(Kj:List NL)(ds2:NM)(x:Q_):Prop:=u.cell? ⟨sb,1,none⟩=some (.slice (some ⟨tb,to0,none⟩) T.length dc)/\sb<u.heap.size/\u.cell? ⟨xb,0,none⟩=some (.slice ra2 Kj.length Kj.length)/\u.cell? ⟨xb,1,none⟩=some (.slice ds2 T2.length T2.length)/\xb<u.heap.size/\u.cell? ⟨tb,to0+j*7,none⟩=some (.string x.name)/\tb<u.heap.size
abbrev L_ (u:NN)(sb tb to0 j qb:Nat)(T:List Q_)(dc:Nat)(x y:Q_)(xa:NM)(xc:Nat)(ya:NM)(yc:Nat):Prop:=u.cell? ⟨sb,1,none⟩=some (.slice (some ⟨tb,to0,none⟩) T.length dc)/\sb<u.heap.size/\u.cell? ⟨tb,to0+j*7,none⟩=some (.string x.name)/\u.cell? ⟨tb,to0+j*7+1,none⟩=some (.bool x.over)/\u.cell? ⟨tb,to0+j*7+2,none⟩=some (.bool x.fail)/\u.cell? ⟨tb,to0+j*7+3,none⟩=some (.string x.text)/\u.cell? ⟨tb,to0+j*7+4,none⟩=some (.a x.at')/\u.cell? ⟨tb,to0+j*7+5,none⟩=some (.a x.Zq)/\u.cell? ⟨tb,to0+j*7+6,none⟩=some (.slice xa x.texts.length xc)/\tb<u.heap.size/\u.cell? ⟨qb,0,none⟩=some (.string y.name)/\u.cell? ⟨qb,1,none⟩=some (.bool y.over)/\u.cell? ⟨qb,2,none⟩=some (.bool y.fail)/\u.cell? ⟨qb,3,none⟩=some (.string y.text)/\u.cell? ⟨qb,4,none⟩=some (.a y.at')/\u.cell? ⟨qb,5,none⟩=some (.a y.Zq)/\u.cell? ⟨qb,6,none⟩=some (.slice ya y.texts.length yc)/\qb<u.heap.size
theorem Hl(w:NN)(a:NM)(cap:Nat)(bs:List UInt8)(a2:NM)(p7:Nat)(ms:List UInt8)(hB:BytesAt w a bs)(p8:bs.length<=cap)(l2:BytesAt w a2 ms)(l3:fU w):Calls prog 4 #[.slice a bs.length cap,.slice a2 ms.length p7] w λe w'=>e=.returned (.bool true)/\K_ w w':=by
 by_cases x1:(1048576:Int)<(bs.length:Int)
 .go_enter func4,ntmps4
  go_wp2
  go_ret
  exact⟨rfl,K_.refl _⟩
 by_cases x2:(1048576:Int)<(ms.length:Int)
 .go_enter func4,ntmps4
  go_wp2
  go_ret
  exact⟨rfl,K_.refl _⟩
 go_enter func4,ntmps4
 go_wp2_with fail
 refine (yw _ a cap bs hB p8 E5).mono ?_;rintro e w1 ⟨G,H,L,g,i4,Kj,rfl,hL,l4,hG,p9,x3,l5,hT,l6⟩;let⟨W1,e1⟩:=aj (w1.alloc (.cells #[.slice G L.length H] 25));let⟨wb,i5⟩:=aj w1.heap.size;have kA:K_ w1 W1:=by rw[e1];exact ah _ _
 have d0:=Kz (l6.trans kA);have q0:W1.heap.size=w1.heap.size+1:=by rw[e1];simp
 have HC:Hid (∀u,K_ W1 u->M4 u wb 0 (.slice G L.length H)/\wb<u.heap.size):=λu n=>by
  have hz:=n.size;refine⟨(n.cell E5).trans ?_,E5⟩;rw[e1,i5];exact X_ w1 _ _ 0 _ rfl
 have W:=Kz (hG.kept kA).nodes;have i6:=Kz (hT.strs.kept kA);have d1:=Kz (l3.kept d0.o);have q1:=Kz (l2.kept d0.o);have X:Hid (∀i7∈L,i7.Fits):=λi7 hd=>(l4 i7 hd).fits E5
 have a3:Hid (∀e5∈Kj,e5.size<=maxLen):=λe5 hs=>by have:=l5 e5 hs;unfold maxLen;omega
 go_upto_region 4 with fail
 rw[<-e1,<-i5];clear e1 i5 l4 hG hT l6 kA q0 l3 hB l2 l5;let⟨M,N⟩:=HC.o W1 (K_.refl _);go_wp2_with fail
 refine (xI W1 G H L (some ⟨g,0,none⟩) i4 Kj E5 X.o E5 p9 a3.o W.o i6.o).mono ?_;intro e w2 hE;rcases hE with⟨⟨hc,J⟩,C,B,x4,rfl,l7,l8,_,_,k2⟩|⟨f9,rfl,k2⟩;rotate_left
 .obtain⟨W2,a4⟩:=aj (w2.alloc (.cells #[M3,M3] 43));let⟨I,a7⟩:=aj w2.heap.size;have k3:K_ w2 W2:=by rw[a4];exact ah _ _
  have g2:=X_ w2 #[M3,M3] 43;rw[<-a4,<-a7] at g2;have i8:I<W2.heap.size:=by rw[a4,a7];simp
  have K2:=k2.trans k3;have q2:=Kz f9;go_upto_region 5 with fail
  rw[<-a4,<-a7];clear a4 a7 k2 k3 f9 M N;let⟨l9,m0⟩:=HC.o W2 K2;go_wp2_with fail
  refine (ze W2 G H L (some ⟨g,0,none⟩) i4 Kj E5 X.o E5 a3.o (W.o.kept K2) (i6.o.kept K2)).mono ?_;rintro e w3 ⟨hs,Y⟩;rcases hs.cases with⟨rfl,h⟩|⟨rfl,_⟩
  .exact NB h q2.o
  have x5:=(Y.cell (o:=0) i8).trans (g2 0 _ rfl);have x6:=(Y.cell (o:=1) i8).trans (g2 1 _ rfl);have xz:=Mk i8 Y.size;have K3:=K2.trans Y;clear g2 hs l9 m0;let⟨l9,m0⟩:=HC.o w3 K3;go_wp2_with fail
  refine (lC w3 G H L none 0 [] none 0 [] E5 X.o (by unfold maxLen;simp) (Mj _) (λe5 h=>by cases h) E9 (λe5 h=>by cases h) (W.o.kept K3) (λQ hi=>by simp at hi) (λQ hi=>by simp at hi) (d1.o.kept K3)).mono ?_;rintro e w4 ⟨⟨vb,rfl,b0⟩,k5⟩;obtain rfl:vb=false:=by
   cases vb
   .rfl
   .exact NB (b0.1 rfl).2.1.1 E9
  clear b0;go_wp2
  go_ret
  exact⟨rfl,d0.o.trans (K3.trans k5)⟩
 let⟨W2,a4⟩:=aj (w2.alloc (.cells #[.slice C Kj.length Kj.length,.slice B (bu L Kj).length (bu L Kj).length] 43));let⟨I,a7⟩:=aj w2.heap.size;have k3:K_ w2 W2:=by rw[a4];exact ah _ _
 have i9:Hid (StM W1 W2 I Kj (bu L Kj) C Kj.length B (bu L Kj).length):=by
  have h1:=ay.made w2 #[.slice C Kj.length Kj.length,.slice B (bu L Kj).length (bu L Kj).length] 43;have h2:=X_ w2 #[.slice C Kj.length Kj.length,.slice B (bu L Kj).length (bu L Kj).length] 43;rw[<-a4,<-a7] at h1 h2;exact⟨k2.trans k3,by rw[a7];exact k2.size,h1,h2 0 _ rfl,h2 1 _ rfl,l7.strs.kept k3,l8.runs.kept k3,Mj _⟩
 have R:Hid (mH L Kj (bu L Kj)):=mH.start hc;have⟨j0,m1⟩:=aH hc J;have x7:=gy hc;have K2:=k2.trans k3;let⟨T0,m2⟩:=aj (bu L Kj);rw[<-m2] at i9 R a4⊢;clear m2;go_upto_region 5 with fail
 rw[<-a4,<-a7];clear a4 a7 k2 k3 hc J l7 l8 M N;let⟨M,N⟩:=HC.o W2 K2;go_wp2_with fail
 refine (ze W2 G H L (some ⟨g,0,none⟩) i4 Kj E5 X.o E5 a3.o (W.o.kept K2) (i6.o.kept K2)).mono ?_;rintro e w3 ⟨hs,k3⟩;rcases hs.cases with⟨rfl,_⟩|⟨rfl,h⟩;rotate_left
 .exact NB ⟨j0.o,m1.o⟩ h
 clear hs M N;have m3:=Kz (i9.o.kept k3);clear i9 k3 K2;go_wp2
 go_loopg [8] 60 (λgg x8 wr=>∃(Q:Nat)(T:List Q_)(C:NM)(S:Nat)(B:NM)(v:Nat),x8=.a (Q:Int)/\Q+gg=60/\Hid (mH L Kj T)/\Hid (StM W1 wr I Kj T C S B v))
 case atStart=>exact⟨0,T0,_,_,_,_,rfl,rfl,R,m3⟩
 case round=>
  clear R m3;obtain⟨Q,T,C,S,B,v,rfl,hi,R,k⟩:=hrel;by_cases x9:(Q:Int)<60;rotate_left
  .go_wp2
   go_ret
   exact⟨rfl,d0.o.trans k.o.kw⟩
  have HV:=Kz (R.o.valid j0.o m1.o);have q3:T.length<=60:=by have:=R.o.1.len;omega
  have b1:Hid (∀r∈T,r.texts.length<=1048576):=λr J=>by have h1:=(R.o.1.good r J).tl;have h2:=(R.o.1.good r J).hi;omega
  have HX:Hid (∀u,K_ wr u->StpA u wb I G H L C S Kj B v T):=λu n=>by
   let⟨O,e2⟩:=HC.o u (k.o.kw.trans n);have h:=k.o.kept n;exact⟨O,h.c0,h.c1,e2,h.row.lt⟩
  let⟨M,N,b2,b3,b4⟩:=HX.o wr (K_.refl _);go_wp2_with fail
  refine (kV wr G H L C S Kj B v T E5 X.o E5 a3.o E5 b1.o (W.o.kept (k.o.kw.trans (K_.refl _))) (k.o.rr.kept (K_.refl _)) (k.o.rs.kept (K_.refl _))).mono ?_;rintro e w4 ⟨⟨vb,rfl,b0⟩,Y⟩;obtain rfl:vb=true:=b0.2 HV.o;clear b0 M N b2 b3 b4;let⟨M,N,b2,b3,b4⟩:=HX.o w4 Y;go_wp2_with fail
  refine (lC w4 G H L C S Kj B v T E5 X.o F5 k.o.rl a3.o E5 b1.o (W.o.kept (k.o.kw.trans Y)) (k.o.rs.kept Y) (k.o.rr.kept Y) (d1.o.kept (k.o.kw.trans Y))).mono ?_;rintro e j ⟨⟨vb,rfl,b0⟩,k5⟩;obtain rfl:vb=true:=b0.2 HV.o;have Z:=Y.trans k5;clear b0 Y k5 M N b2 b3 b4;let⟨M,N,b2,b3,b4⟩:=HX.o j Z;go_wp2_with fail
  refine (yR j G H L C S Kj B v T E5 X.o F5 k.o.rl a3.o E5 b1.o (W.o.kept (k.o.kw.trans Z)) (k.o.rs.kept Z) (k.o.rr.kept Z) (d1.o.kept (k.o.kw.trans Z))).mono ?_;rintro e w6 ⟨va,ns,rfl,m4,m5,m6⟩;have g4:Hid (dA (Kk L) (Qq T) T ns):=by
   rcases m5 with⟨_,h⟩|⟨h,_⟩
   .exact h
   .exact NB HV.o h
  have y0:=Mm g4.o.len q3;have m7:=Kz m4.strs;have K6:=Z.trans m6;clear m5 m4 m6 Z M N b2 b3 b4;let⟨M,N,b2,b3,b4⟩:=HX.o w6 K6;go_wp2_with fail
  refine (AB w6 G H L C S Kj B v T E5 X.o F5 k.o.rl a3.o E5 b1.o (W.o.kept (k.o.kw.trans K6)) (k.o.rs.kept K6) (k.o.rr.kept K6) (d1.o.kept (k.o.kw.trans K6))).mono ?_;rintro e w7 ⟨o,y1,y2,y3,y4,y5,rfl,j1,m8,m9,_,_,j2⟩;let⟨W7,e6⟩:=aj (w7.alloc (.cells #[.a o.code,.slice y1 o.res.length y3,.slice y2 o.chain.length y4,.a o.eG,.a o.cost] 39));let⟨ob,g5⟩:=aj w7.heap.size;have k8:K_ w7 W7:=by rw[e6];exact ah _ _
  have c5:=X_ w7 #[.a o.code,.slice y1 o.res.length y3,.slice y2 o.chain.length y4,.a o.eG,.a o.cost] 39;rw[<-e6,<-g5] at c5;have c6:ob<W7.heap.size:=by rw[e6,g5];simp
  have K7:=(K6.trans j2).trans k8;have a0:Hid (∀u,K_ W7 u->LZ u wb I ob G H L C S Kj B v T o y1 y2 y3 y4):=λu n=>by
   let⟨O,e2,e3,e4,e7⟩:=HX.o u (K7.trans n);exact⟨O,e2,e3,e4,e7,(n.cell c6).trans (c5 0 _ rfl),(n.cell c6).trans (c5 1 _ rfl),(n.cell c6).trans (c5 2 _ rfl),(n.cell c6).trans (c5 3 _ rfl),(n.cell c6).trans (c5 4 _ rfl),Mk c6 n.size⟩
  have j3:=Kz j1;have q4:=j1.1;have n0:=Kz (mJ.kept m8.Mi k8);have j4:=Kz (m9.strs.kept k8);have j5:=Kz (m7.o.kept (j2.trans k8));have b8:=Kz K7;go_upto_region 14 with fail
  rw[<-e6,<-g5];clear e6 g5 j2 k8 c5 c6 K6 K7 j1 m8 m9 m7 M N b2 b3 b4;refine bF 13 a0.o λp z d=>?_
  refine ae 0 d ?_;refine ae 1 d ?_;refine ae 2 d ?_;refine aG 3 λK c=>?_;go_simp
  go_at_call 26
  refine (yE p G H L C S Kj B v T E5 X.o E5 a3.o E5 b1.o (W.o.kept (k.o.kw.trans (b8.o.trans z))) (k.o.rr.kept (b8.o.trans z)) (k.o.rs.kept (b8.o.trans z))).mono ?_;rintro e w8 ⟨⟨za,zc,P,rfl,n1,n2⟩,k8⟩;obtain rfl:P=ns:=by
   rcases n2 with⟨_,h⟩|⟨h,_⟩
   .exact h.unique g4.o
   .exact NB HV.o h
  have q5:=Kz n1.strs;have K8:=z.trans k8;clear n1 n2 k8;dsimp only;refine af c (λ_=>a0.o _ K8) ?_;clear c K d;have d:=a0.o _ K8;refine aG 4 λK c=>?_;go_simp
  go_at_call 25
  refine (nU w8 va za _ zc P E5 (j5.o.kept K8) q5.o).mono ?_;rintro e w9 ⟨rfl,k9⟩;have K9:=K8.trans k9;dsimp only;refine af c (λ_=>a0.o _ K9) ?_;clear c K d;have d:=a0.o _ K9;refine ak 5 d ?_;refine ae 9 d ?_;refine aG 10 λK c=>?_;go_simp
  go_at_call 27
  refine (Am w9 G H L C S Kj B v T E5 X.o E5 a3.o E5 b1.o (W.o.kept (k.o.kw.trans (b8.o.trans K9))) (k.o.rr.kept (b8.o.trans K9)) (k.o.rs.kept (b8.o.trans K9))).mono ?_;rintro e q7 ⟨b9,z1,z2,z3,z4,rfl,n3,n4,n5,n6⟩;obtain rfl:=j3.o.one n3;have⟨q8,q9⟩:=aH n4 n5;have d5:=K9.trans n6;clear n3 n4 n5 n6 k9;dsimp only;refine af c (λ_=>a0.o _ d5) ?_;clear c K d;have d:=a0.o _ d5;refine aG 11 λK c=>?_;go_simp
  go_at_call 18
  refine (Bg q7 y1 z1 y2 z2 y3 z3 y4 z4 b9 E5 E5 (n0.o.kept d5) q8.o (j4.o.kept d5) q9.o).mono ?_;rintro e c7 ⟨rfl,n7⟩;have c0:=d5.trans n7;dsimp only;refine af c (λ_=>a0.o _ c0) ?_;clear c K d;have d:=a0.o _ c0;refine ae 12 d ?_;refine ai 13 λK c=>?_;go_simp
  refine af c (λh=>NB rfl h) ?_;clear c K;refine aC ?_;have U:=b8.o.trans c0;clear K8 K9 d5 n7 z d;let⟨M,N,b2,b3,b4,b5,b6,b7,n8,n9,o0⟩:=a0.o _ c0;by_cases e8:P.length=0
  .have g6:P=[]:=NE e8;have r0:((P.length:Int) == 0)=true:=by simp[e8]
   have r1:=Kz (Jl HV.o (by rw[<-g6];exact g4.o) j3.o);clear g6 e8;rcases r1.o with e0|⟨e0,O,hC⟩
   .have g0:(b9.code == 0)=true:=by simp[e0]
    clear e0;go_upto_region 17 with fail
    go_region
    all_goals
     go_wp2
     go_ret
     exact⟨rfl,by repeat (first|exact d0.o.trans (k.o.kw.trans U)|apply K_.drew)⟩
   .have g0:(b9.code == 0)=false:=by rw[e0];rfl
    have g1:(b9.code == 1)=true:=by simp[e0]
    have y6:decide (0<b9.chain.length)=true:=by simp[O]
    have g3:(0:Int)<(b9.chain.length:Int):=E5;have r3:=Kz hC;clear e0 hC;go_upto_region 17 with fail
    have HZ:Hid (∀u,K_ c7 u->LZ u wb I ob G H L C S Kj B v T b9 y1 y2 y3 y4):=λu n=>a0.o u (c0.trans n)
    refine ik 22 HZ.o (aY c7) λd=>?_;have z:=aY c7;generalize j6:c7.drew=p at d z⊢;clear j6 M N b2 b3 b4 b5 b6 b7 n8 n9 o0;refine ak 0 d ?_;refine ak 4 d ?_;refine ak 8 d ?_;refine ak 12 d ?_;refine ae 16 d ?_;refine ae 17 d ?_;refine aG 18 λK c=>?_;go_simp
    go_at_call 28
    refine (xn p G H L C S Kj B v T E5 X.o F5 k.o.rl a3.o E5 b1.o (W.o.kept (k.o.kw.trans (U.trans z))) (k.o.rs.kept (U.trans z)) (k.o.rr.kept (U.trans z)) (d1.o.kept (k.o.kw.trans (U.trans z)))).mono ?_;rintro e d6 ⟨la,lc,rfl,e9,o1,f1⟩;have c1:=z.trans f1;have⟨r4,r5⟩:=aH e9.strs o1;clear e9 o1 f1;obtain rfl:=r3.o.one r5.o;dsimp only;refine af c (λ_=>HZ.o _ c1) ?_;clear c K d;have d:=HZ.o _ c1;refine aG 19 λK c=>?_;go_simp
    go_at_call 25
    refine (nU d6 y2 la y4 _ b9.chain E5 (j4.o.kept (c0.trans c1)) r4.o).mono ?_;rintro e y7 ⟨rfl,d7⟩;have j7:=c1.trans d7;dsimp only;refine af c (λ_=>HZ.o _ j7) ?_;clear c K d;have d:=HZ.o _ j7;refine ae 20 d ?_;refine ae 21 d ?_;refine ai 22 λK c=>?_;go_simp
    refine af c (λh=>NB rfl h) ?_;clear c K;refine aC ?_;go_wp2
    go_ret
    exact⟨rfl,d0.o.trans (k.o.kw.trans (U.trans j7))⟩
  .have r0:((P.length:Int) == 0)=false:=by simpa using e8
   have j8:0<P.length:=E5;clear e8;have o2:=Kz (q1.o.kept (k.o.kw.trans U));go_upto_if 110 with fail
   go_cut [11] from 110 to 115 (λr6 wx=>∃f2:Nat,r6=.a (f2:Int)/\f2<=255/\wx=c7)
   case first=>
    by_cases hm:(Q:Int)<(ms.length:Int)
    .obtain⟨mb,mo,rfl,y8,r7⟩:=o2.o Q E5;let⟨q,hq⟩:=aj ((ms.getD Q 0).toNat);have r8:q<=255:=by rw[hq];have:=(ms.getD Q 0).toNat_lt;omega
     rw[<-hq] at r7;clear hq;go_wp2
     go_meet
     exact⟨q,F3,r8,rfl⟩
    .go_wp2
     go_meet
     exact⟨Q,rfl,E5,rfl⟩
   case rest=>
    obtain⟨f2,rfl,hk,rfl⟩:=hcut;let⟨l,hj⟩:=aj (f2 % P.length);have c2:l<P.length:=by rw[hj];exact Nat.mod_lt _ j8
    have r9:(f2:Int).tmod (P.length:Int)= (l:Int):=by rw[Int.tmod_eq_emod_of_nonneg E5,hj,Int.natCast_emod]
    let⟨nm,j9⟩:=aj (P.getD l ByteArray.empty);have o3:nm∈P:=by rw[j9];simp only[List.getD,Mq c2,NC];exact Mw c2
    let⟨r,o4,o5⟩:=(g4.o.ready R.o.1.asc nm).1 o3;have⟨g7,k0⟩:=aH o4 o5;obtain⟨lb,lo,rfl,o6,o7⟩:=(j5.o.kept c0) l c2;rw[<-j9] at o7;have g6:¬P=[]:=λe=>by rw[e] at j8;simp at j8
    have s0:(l:Int)<(P.length:Int):=E5;clear hj j9 o3 o4 o5;go_wp2_with fail
    refine (Et wc G H L C S Kj B v T nm E5 X.o F5 E5 k.o.rl a3.o E5 b1.o (W.o.kept (k.o.kw.trans U)) (k.o.rs.kept U) (k.o.rr.kept U) (d1.o.kept (k.o.kw.trans U))).mono ?_;intro e d6 hD;rcases hD with⟨_,s,o8,a5,a6,y9,rfl,e9,k1,_,_,f1⟩|⟨f9,_,_⟩;rotate_left
    .exact NB HV.o f9
    obtain rfl:s=doL (Kk L) T r:=by
     rcases o8 with⟨r2,h1,_,k4⟩|⟨h1,_⟩
     .rw[g7.o] at h1;obtain rfl:=Nl h1;exact k4
     .exact NB ⟨r,g7.o,k0.o⟩ h1
    have f3:=Kz (R.o.did j0.o g7.o k0.o);have o9:Hid (∀x∈T,∃y,Qq (doL (Kk L) T r) x.name=some y/\(x.name≠nm->y=x)/\(x.name=nm->y.Zq=x.Zq+1\/(x.Zq=20/\y.Zq=20/\y.over=true/\y.text=iT))):=λx hx=>I_ R.o.1 g7.o k0.o hx
    let⟨s,p0⟩:=aj (doL (Kk L) T r);rw[<-p0] at f3 o9 k1⊢;clear o8 p0;have z0:s.length<=60:=by have:=f3.o.1.len;omega
    let⟨g8,f4⟩:=aj (d6.alloc (.cells #[.slice a5 Kj.length Kj.length,.slice a6 s.length s.length] 43));let⟨xb,g9⟩:=aj d6.heap.size;have d7:K_ d6 g8:=by rw[f4];exact ah _ _
    have h3:=X_ d6 #[.slice a5 Kj.length Kj.length,.slice a6 s.length s.length] 43;rw[<-f4,<-g9] at h3;have h5:xb<g8.heap.size:=by rw[f4,g9];simp
    have c1:=(U.trans f1).trans d7;have HQ:Hid (∀u,K_ g8 u->M4 u I 1 (.slice B T.length v)/\I<u.heap.size/\M4 u xb 0 (.slice a5 Kj.length Kj.length)/\M4 u xb 1 (.slice a6 s.length s.length)/\xb<u.heap.size):=λu n=>by
     let⟨_,_,e3,_,e7⟩:=HX.o u (c1.trans n);exact⟨e3,e7,(n.cell h5).trans (h3 0 _ rfl),(n.cell h5).trans (h3 1 _ rfl),Mk h5 n.size⟩
    have s1:=Kz (e9.strs.kept d7);have k6:=Kz (k1.runs.kept d7);have f5:=Kz c1;have s2:Hid (∀r∈s,r.texts.length<=1048576):=λr J=>by have h1:=(f3.o.1.good r J).tl;have h2:=(f3.o.1.good r J).hi;omega
    go_upto_region 23 with fail
    rw[<-f4,<-g9];clear f4 g9 f1 d7 h3 h5 c1 e9 k1 o6 o7 r9 s0 g6 c2 hk o2 M N b2 b3 b4 b5 b6 b7 n8 n9 o0 a0 n0 j4 j3 j5 b8 c0 U q4;go_wp2
    go_loopg [14] T.length (λgg s3 wx=>∃l:Nat,s3=.a (l:Int)/\l+gg=T.length/\K_ g8 wx)
    case atStart=>exact⟨0,rfl,E5,K_.refl _⟩
    case round=>
     obtain⟨l,rfl,hj,KX⟩:=hrel;let⟨s4,s5,d2,d3,d4⟩:=HQ.o _ KX;by_cases z5:(l:Int)<(T.length:Int)
     .have c2:l<T.length:=E5;obtain⟨D,E,xa,xc,rfl,h7,i0,k7,_⟩:=k.o.rr l c2;let⟨x,hx⟩:=aj (T.getD l Q_.zero);rw[<-hx] at i0 k7;have i1:x∈T:=by rw[hx];simp only[List.getD,Mq c2,NC];exact Mw c2
      let⟨y,l0,p1,p2⟩:=o9.o x i1;have s6:=s2.o y (aZ l0).1;have s7:=(R.o.1.good x i1).lo;have s8:=(R.o.1.good x i1).hi;have gw:IntKind.i64.wrap (x.Zq+1)=x.Zq+1:=G6;have⟨i2,s9,t0,t1,t2⟩:=jh l0 p1 p2 k7 i0;have A:Hid (∀u,K_ wr u->StpC u I xb D E l T s v a5 Kj a6 x):=λu n=>by
       let⟨O,e2,e3,e4,e7⟩:=HQ.o u (KX.trans n);have kk:=f5.o.trans (KX.trans n);have h0:=kk.range h7 i0 0 _ rfl;rw[Ng] at h0;exact⟨O,e2,e3,e4,e7,h0,Mk h7 kk.size⟩
      clear hx i1 l0 p1 p2 k7;go_upto_region 26 with fail
      clear s4 s5 d2 d3 d4;refine uP (Ma wr y) ?_ ?_
      .refine bF 13 A.o λp z d=>?_
       refine ak 0 d ?_;refine ae 4 d ?_;refine ae 5 d ?_;refine ae 6 d ?_;refine fP 7 11 (λK c=>?_) (λK c=>?_)
       .rw[Nz F7];go_simp
        go_at_call 10
        refine (wL p wr a5 Kj.length Kj.length a6 s.length s x.name E5 z (k6.o.kept KX)).mono ?_;rintro e j ⟨⟨y2,f,i,b,rfl,f6,f7⟩,k5⟩;obtain rfl:b=true:=by
         cases b
         .have:=f7 rfl;rw[i2.o] at this;cases this
         .rfl
        let⟨c8,c3⟩:=f6 rfl;rw[i2.o] at c8;obtain rfl:=Option.some.inj c8;have F:=z.trans k5;have c4:=Kz c3;clear f6 f7 c3 c8;dsimp only;refine af c (λ_=>A.o _ F) ?_;clear c K d;have d:=A.o _ F;refine ae 8 d ?_;refine ae 9 d ?_;have d8:=Kz (all_oneCell_toArray (cs:=y.cells f i) (by simp[Q_.cells,Value.oneCell']));refine fP 10 11 (λK c=>?_) (λK c=>?_)
        .rw[Nz F7];go_simp
         refine af c (λ_=>d) ?_;clear c K;refine aG 11 λK c=>?_;go_simp
         have V:K_ wr (j.alloc (.cells #[.string ⟨#[]⟩,.bool false,.bool false,.string ⟨#[]⟩,.a 0,.a 0,M3] 48)):=F.alloc _;have a8:Hid (ay (j.alloc (.cells #[.string ⟨#[]⟩,.bool false,.bool false,.string ⟨#[]⟩,.a 0,.a 0,M3] 48)) j.heap.size 48 7):=ay.made j _ _;have c9:=F.size;refine af c (λ_=>A.o _ V) ?_;clear c K d;have d:=A.o _ V;refine aG 12 λK c=>?_;refine wp_store_mid 48 _ _ rfl j.heap.size 0 #[.string y.name,.bool y.over,.bool y.fail,.string y.text,.a y.at',.a y.Zq,.slice f y.texts.length i] F7 F7 (a8.o.row.there (o:=0) (m:=7) E5) Tryz.jF d8.o ?_;have t:K_ wr ((j.alloc (.cells #[.string ⟨#[]⟩,.bool false,.bool false,.string ⟨#[]⟩,.a 0,.a 0,M3] 48)).setCells j.heap.size 0 (y.cells f i)):=aP (g:=j.heap.size) c9 (y.cells f i) 0 V;have a1:Hid (gV ((j.alloc (.cells #[.string ⟨#[]⟩,.bool false,.bool false,.string ⟨#[]⟩,.a 0,.a 0,M3] 48)).setCells j.heap.size 0 (y.cells f i)) j.heap.size y f i):=gV.laid a8.o;have a9:Hid (Strs ((j.alloc (.cells #[.string ⟨#[]⟩,.bool false,.bool false,.string ⟨#[]⟩,.a 0,.a 0,M3] 48)).setCells j.heap.size 0 (y.cells f i)) f y.texts):=c4.o.kept t;refine af c (λ_=>A.o _ t) ?_;clear c K d;have d:=A.o _ t;refine ai 13 λK c=>?_;go_simp
         refine af c (λh=>NB rfl h) ?_;clear c K;refine aC ⟨rfl,?_⟩;refine⟨.agg #[.slice a5 Kj.length Kj.length,.slice a6 s.length s.length],.pointer (some ⟨I,1,none⟩),.slice (some ⟨D,E,none⟩) T.length v,.a (l:Int),.pointer (some ⟨D,E+l*7,none⟩),.pointer (some ⟨D,E+l*7,none⟩),.string x.name,.tuple #[.agg #[.string y.name,.bool y.over,.bool y.fail,.string y.text,.a y.at',.a y.Zq,.slice f y.texts.length i],.bool true],.tuple #[.agg #[.string y.name,.bool y.over,.bool y.fail,.string y.text,.a y.at',.a y.Zq,.slice f y.texts.length i],.bool true],.agg #[.string y.name,.bool y.over,.bool y.fail,.string y.text,.a y.at',.a y.Zq,.slice f y.texts.length i],j.heap.size,f,i,?_,t,a1.o,a9.o⟩;simp only[Act.put,List.setIfInBounds_toArray,List.set_cons_zero,Nn]
        .rw[Nz F7];go_simp
         have V:K_ wr (j.alloc (.cells #[.string ⟨#[]⟩,.bool false,.bool false,.string ⟨#[]⟩,.a 0,.a 0,M3] 48)):=F.alloc _;have a8:Hid (ay (j.alloc (.cells #[.string ⟨#[]⟩,.bool false,.bool false,.string ⟨#[]⟩,.a 0,.a 0,M3] 48)) j.heap.size 48 7):=ay.made j _ _;have c9:=F.size;refine af c (λ_=>A.o _ V) ?_;clear c K d;have d:=A.o _ V;refine fP 10 12 (λK c=>?_) (λK c=>?_)
         .rw[Nz F7];go_simp
          refine af c (λ_=>d) ?_;clear c K;refine aG 12 λK c=>?_;refine wp_store_mid 48 _ _ rfl j.heap.size 0 #[.string y.name,.bool y.over,.bool y.fail,.string y.text,.a y.at',.a y.Zq,.slice f y.texts.length i] F7 F7 (a8.o.row.there (o:=0) (m:=7) E5) Tryz.jF d8.o ?_;have t:K_ wr ((j.alloc (.cells #[.string ⟨#[]⟩,.bool false,.bool false,.string ⟨#[]⟩,.a 0,.a 0,M3] 48)).setCells j.heap.size 0 (y.cells f i)):=aP (g:=j.heap.size) c9 (y.cells f i) 0 V;have a1:Hid (gV ((j.alloc (.cells #[.string ⟨#[]⟩,.bool false,.bool false,.string ⟨#[]⟩,.a 0,.a 0,M3] 48)).setCells j.heap.size 0 (y.cells f i)) j.heap.size y f i):=gV.laid a8.o;have a9:Hid (Strs ((j.alloc (.cells #[.string ⟨#[]⟩,.bool false,.bool false,.string ⟨#[]⟩,.a 0,.a 0,M3] 48)).setCells j.heap.size 0 (y.cells f i)) f y.texts):=c4.o.kept t;refine af c (λ_=>A.o _ t) ?_;clear c K d;have d:=A.o _ t;refine ai 13 λK c=>?_;go_simp
          refine af c (λh=>NB rfl h) ?_;clear c K;refine aC ⟨rfl,?_⟩;refine⟨.agg #[.slice a5 Kj.length Kj.length,.slice a6 s.length s.length],.pointer (some ⟨I,1,none⟩),.slice (some ⟨D,E,none⟩) T.length v,.a (l:Int),.pointer (some ⟨D,E+l*7,none⟩),.pointer (some ⟨D,E+l*7,none⟩),.string x.name,.tuple #[.agg #[.string y.name,.bool y.over,.bool y.fail,.string y.text,.a y.at',.a y.Zq,.slice f y.texts.length i],.bool true],.tuple #[.agg #[.string y.name,.bool y.over,.bool y.fail,.string y.text,.a y.at',.a y.Zq,.slice f y.texts.length i],.bool true],.agg #[.string y.name,.bool y.over,.bool y.fail,.string y.text,.a y.at',.a y.Zq,.slice f y.texts.length i],j.heap.size,f,i,?_,t,a1.o,a9.o⟩;simp only[Act.put,List.setIfInBounds_toArray,List.set_cons_zero,Nn]
         .rw[Nz F7];refine wp_store_mid 48 _ _ rfl j.heap.size 0 #[.string y.name,.bool y.over,.bool y.fail,.string y.text,.a y.at',.a y.Zq,.slice f y.texts.length i] F7 F7 (a8.o.row.there (o:=0) (m:=7) E5) Tryz.jF d8.o ?_;have t:K_ wr ((j.alloc (.cells #[.string ⟨#[]⟩,.bool false,.bool false,.string ⟨#[]⟩,.a 0,.a 0,M3] 48)).setCells j.heap.size 0 (y.cells f i)):=aP (g:=j.heap.size) c9 (y.cells f i) 0 V;have a1:Hid (gV ((j.alloc (.cells #[.string ⟨#[]⟩,.bool false,.bool false,.string ⟨#[]⟩,.a 0,.a 0,M3] 48)).setCells j.heap.size 0 (y.cells f i)) j.heap.size y f i):=gV.laid a8.o;have a9:Hid (Strs ((j.alloc (.cells #[.string ⟨#[]⟩,.bool false,.bool false,.string ⟨#[]⟩,.a 0,.a 0,M3] 48)).setCells j.heap.size 0 (y.cells f i)) f y.texts):=c4.o.kept t;refine af c (λ_=>A.o _ t) ?_;clear c K d;have d:=A.o _ t;refine aG 10 λK c=>?_;go_simp
          refine af c (λ_=>d) ?_;clear c K;refine ai 13 λK c=>?_;go_simp
          refine af c (λh=>NB rfl h) ?_;clear c K;refine aC ⟨rfl,?_⟩;refine⟨.agg #[.slice a5 Kj.length Kj.length,.slice a6 s.length s.length],.pointer (some ⟨I,1,none⟩),.slice (some ⟨D,E,none⟩) T.length v,.a (l:Int),.pointer (some ⟨D,E+l*7,none⟩),.pointer (some ⟨D,E+l*7,none⟩),.string x.name,.tuple #[.agg #[.string y.name,.bool y.over,.bool y.fail,.string y.text,.a y.at',.a y.Zq,.slice f y.texts.length i],.bool true],.tuple #[.agg #[.string y.name,.bool y.over,.bool y.fail,.string y.text,.a y.at',.a y.Zq,.slice f y.texts.length i],.bool true],.agg #[.string y.name,.bool y.over,.bool y.fail,.string y.text,.a y.at',.a y.Zq,.slice f y.texts.length i],j.heap.size,f,i,?_,t,a1.o,a9.o⟩;simp only[Act.put,List.setIfInBounds_toArray,List.set_cons_zero,Nn]
       .rw[Nz F7];go_simp
        have V:K_ wr (p.alloc (.cells #[.string ⟨#[]⟩,.bool false,.bool false,.string ⟨#[]⟩,.a 0,.a 0,M3] 48)):=z.alloc _;have a8:Hid (ay (p.alloc (.cells #[.string ⟨#[]⟩,.bool false,.bool false,.string ⟨#[]⟩,.a 0,.a 0,M3] 48)) p.heap.size 48 7):=ay.made p _ _;have c9:=z.size;refine af c (λ_=>A.o _ V) ?_;clear c K d;have d:=A.o _ V;refine aG 7 λK c=>?_;go_simp
        go_at_call 10
        refine (wL (p.alloc (.cells #[.string ⟨#[]⟩,.bool false,.bool false,.string ⟨#[]⟩,.a 0,.a 0,M3] 48)) wr a5 Kj.length Kj.length a6 s.length s x.name E5 V (k6.o.kept KX)).mono ?_;rintro e j ⟨⟨y2,f,i,b,rfl,f6,f7⟩,k5⟩;obtain rfl:b=true:=by
         cases b
         .have:=f7 rfl;rw[i2.o] at this;cases this
         .rfl
        let⟨c8,c3⟩:=f6 rfl;rw[i2.o] at c8;obtain rfl:=Option.some.inj c8;have F:=V.trans k5;have c4:=Kz c3;clear f6 f7 c3 c8;dsimp only;refine af c (λ_=>A.o _ F) ?_;clear c K d;have d:=A.o _ F;have i3:=Kz (a8.o.kept k5);refine ae 8 d ?_;refine ae 9 d ?_;have d8:=Kz (all_oneCell_toArray (cs:=y.cells f i) (by simp[Q_.cells,Value.oneCell']));refine fP 10 12 (λK c=>?_) (λK c=>?_)
        .rw[Nz F7];go_simp
         refine af c (λ_=>d) ?_;clear c K;refine aG 12 λK c=>?_;refine wp_store_mid 48 _ _ rfl p.heap.size 0 #[.string y.name,.bool y.over,.bool y.fail,.string y.text,.a y.at',.a y.Zq,.slice f y.texts.length i] F7 F7 (i3.o.row.there (o:=0) (m:=7) E5) Tryz.jF d8.o ?_;have t:K_ wr (j.setCells p.heap.size 0 (y.cells f i)):=aP (g:=p.heap.size) c9 (y.cells f i) 0 F;have a1:Hid (gV (j.setCells p.heap.size 0 (y.cells f i)) p.heap.size y f i):=gV.laid i3.o;have a9:Hid (Strs (j.setCells p.heap.size 0 (y.cells f i)) f y.texts):=c4.o.kept t;refine af c (λ_=>A.o _ t) ?_;clear c K d;have d:=A.o _ t;refine ai 13 λK c=>?_;go_simp
         refine af c (λh=>NB rfl h) ?_;clear c K;refine aC ⟨rfl,?_⟩;refine⟨.agg #[.slice a5 Kj.length Kj.length,.slice a6 s.length s.length],.pointer (some ⟨I,1,none⟩),.slice (some ⟨D,E,none⟩) T.length v,.a (l:Int),.pointer (some ⟨D,E+l*7,none⟩),.pointer (some ⟨D,E+l*7,none⟩),.string x.name,.tuple #[.agg #[.string y.name,.bool y.over,.bool y.fail,.string y.text,.a y.at',.a y.Zq,.slice f y.texts.length i],.bool true],.tuple #[.agg #[.string y.name,.bool y.over,.bool y.fail,.string y.text,.a y.at',.a y.Zq,.slice f y.texts.length i],.bool true],.agg #[.string y.name,.bool y.over,.bool y.fail,.string y.text,.a y.at',.a y.Zq,.slice f y.texts.length i],p.heap.size,f,i,?_,t,a1.o,a9.o⟩;simp only[Act.put,List.setIfInBounds_toArray,List.set_cons_zero,Nn]
        .rw[Nz F7];refine wp_store_mid 48 _ _ rfl p.heap.size 0 #[.string y.name,.bool y.over,.bool y.fail,.string y.text,.a y.at',.a y.Zq,.slice f y.texts.length i] F7 F7 (i3.o.row.there (o:=0) (m:=7) E5) Tryz.jF d8.o ?_;have t:K_ wr (j.setCells p.heap.size 0 (y.cells f i)):=aP (g:=p.heap.size) c9 (y.cells f i) 0 F;have a1:Hid (gV (j.setCells p.heap.size 0 (y.cells f i)) p.heap.size y f i):=gV.laid i3.o;have a9:Hid (Strs (j.setCells p.heap.size 0 (y.cells f i)) f y.texts):=c4.o.kept t;refine af c (λ_=>A.o _ t) ?_;clear c K d;have d:=A.o _ t;refine aG 10 λK c=>?_;go_simp
         refine af c (λ_=>d) ?_;clear c K;refine ai 13 λK c=>?_;go_simp
         refine af c (λh=>NB rfl h) ?_;clear c K;refine aC ⟨rfl,?_⟩;refine⟨.agg #[.slice a5 Kj.length Kj.length,.slice a6 s.length s.length],.pointer (some ⟨I,1,none⟩),.slice (some ⟨D,E,none⟩) T.length v,.a (l:Int),.pointer (some ⟨D,E+l*7,none⟩),.pointer (some ⟨D,E+l*7,none⟩),.string x.name,.tuple #[.agg #[.string y.name,.bool y.over,.bool y.fail,.string y.text,.a y.at',.a y.Zq,.slice f y.texts.length i],.bool true],.tuple #[.agg #[.string y.name,.bool y.over,.bool y.fail,.string y.text,.a y.at',.a y.Zq,.slice f y.texts.length i],.bool true],.agg #[.string y.name,.bool y.over,.bool y.fail,.string y.text,.a y.at',.a y.Zq,.slice f y.texts.length i],p.heap.size,f,i,?_,t,a1.o,a9.o⟩;simp only[Act.put,List.setIfInBounds_toArray,List.set_cons_zero,Nn]
      rintro _ wy ⟨z6,z7,v2,v3,z8,v5,v6,z9,v8,A0,qb,f,i,rfl,ky,p3,c3⟩;try simp only[upP]
      have⟨c4,a1⟩:=aH c3 p3;have F:=KX.trans ky;have f8:Hid (∀u,K_ wy u->L_ u I D E l qb T v x y xa xc f i):=λu n=>by
       let⟨O,e2,_⟩:=HQ.o u (F.trans n);have kk:=f5.o.trans (F.trans n);have J:=kk.range h7 t2.o;have h0:=J 0 _ rfl;rw[Ng] at h0;let⟨t3,t4,t5,t6,t7,t8,q6⟩:=(a1.o.kept n).all;exact⟨O,e2,h0,J 1 _ rfl,J 2 _ rfl,J 3 _ rfl,J 4 _ rfl,J 5 _ rfl,J 6 _ rfl,Mk h7 kk.size,t3,t4,t5,t6,t7,t8,q6,(a1.o.kept n).row.lt⟩
      clear c3 p3 i0;by_cases d9:x.name=nm
      .have t9:(x.name.toList == nm.toList)=true:=by simp[d9]
       have hv:=t0.o d9;clear d9;let⟨h0,h1,h2,k4,h4,v0,h6,p4,h8,h9,v1,p5,v4,v7,v9,l1,w0,w5⟩:=f8.o _ (K_.refl _);go_upto_region 27 with fail
       go_region
       all_goals
        rcases hv with O|⟨e0,O,e2,e3⟩
        .rw[O] at l1;clear O;go_upto_region 29 with fail
         go_region
         all_goals
          go_wp2
          go_roundg (T.length-l-1)
          case measure=>omega
          case rel=>exact⟨l+1,F3,E5,by repeat (first|exact F|apply K_.drew)⟩
        .have g3:(y.text.toList == [115,112,101,110,116])=true:=by rw[e3,ByteArray.toList_eq];rfl
         rw[e0] at p4;rw[O] at l1;rw[e2] at p5;clear e0 O e2 e3 gw s7 s8;go_upto_region 29 with fail
         go_region
         all_goals
          go_wp2
          go_roundg (T.length-l-1)
          case measure=>omega
          case rel=>exact⟨l+1,F3,E5,by repeat (first|exact F|apply K_.drew)⟩
      .have t9:(x.name.toList == nm.toList)=false:=by
        cases h:(x.name.toList == nm.toList)
        .rfl
        .exact NB (Ba h) d9
       obtain rfl:=(s9.o d9).symm;clear d9;go_upto_region 27 with fail
       refine Qk.region F4 (λu=>L_ u I D E l qb T v x x xa xc f i) 21 (f8.o _ (aY wy)) λd=>?_;have z:=aY wy;generalize j6:wy.drew=p at d z⊢;clear j6;refine ak 0 d ?_;refine ak 4 d ?_;refine ak 8 d ?_;refine ak 12 d ?_;refine ae 16 d ?_;refine ae 17 d ?_;refine aG 18 λK c=>?_;go_simp
       go_at_call 30
       refine (Im p x f xa i xc s6 (c4.o.kept z) (t1.o.kept (f5.o.trans (F.trans z)))).mono ?_;rintro e j ⟨rfl,k5⟩;have Z:=z.trans k5;dsimp only;refine af c (λ_=>f8.o _ Z) ?_;clear c K d;have d:=f8.o _ Z;refine ae 19 d ?_;refine ae 20 d ?_;refine ai 21 λK c=>?_;go_simp
       refine af c (λh=>NB rfl h) ?_;clear c K d;refine aC ?_;let⟨h0,h1,h2,k4,h4,v0,h6,p4,h8,h9,v1,p5,v4,v7,v9,l1,w0,w5⟩:=f8.o _ Z;go_upto_region 29 with fail
       go_region
       all_goals
        go_wp2
        go_roundg (T.length-l-1)
        case measure=>omega
        case rel=>exact⟨l+1,F3,E5,by repeat (first|exact F.trans Z|apply K_.drew)⟩
     .have x0:=Kz ((k.o.kept (f5.o.trans KX)).set (s1.o.kept KX) (k6.o.kept KX) (Mj _) (dc':=s.length));have p6:=Kz (k.o.kept (f5.o.trans KX)).row;let⟨⟨_,u0⟩,f0⟩:=p6.o.row.at (i:=0) E8;let⟨⟨_,u1⟩,o6⟩:=p6.o.row.at (i:=1) E8;go_wp2
      go_roundg (60-Q-1)
      case measure=>omega
      case rel=>exact⟨Q+1,s,_,_,_,_,F3,E5,f3,x0⟩
open Go.ChangeShapes Go.WideShapes Go.ChangeAt Go.RowKit Go.Joins Go.ChangeMaps
theorem Tryz.Me :ownKnob prog.godebug=none:=F4
theorem Tryz.zZ :laidOutB prog=true:=F4
theorem yI{w:NN}(h:oF w):fU w:=λW give a b l k c d e f=>Ee W give a b l c d e f (h.kept k)
theorem Cq(os:Os)(F:os.Started)(H:Type)(enc:TypeId×NP->H):ReturnsInHanded {} Tryz.checked os 4 .any (λw args=>(Rows.fnStepsSpec.pre enc prog f4 [] false w args/\laidMetH prog laid3 w)/\sizedMet enc prog f4 (OpenSpec.ofChange Rows.fnStepsSpec) false w args)
   (Rows.fnStepsSpec.post enc prog f4 false true false false):=by
 refine returnsInHanded_of_change_and (C:=Tryz.checked) (X:=λw _=>laidMetH prog laid3 w) (λ_ _ _ G h=>h.of_heap G) Tryz.Me F F4 func4
  (ChangeSpec.witness_shaped (enc:=enc) (C:=Tryz.checked) (os:=os) (X:=λw _=>laidMetH prog laid3 w) false (World.doorLaid prog 400 os) #[M3,M3] 8 rfl (World.shaped_of_RefB F4 F4) F4 F4 F4 (Iq os _)) ?_
 intro W base args I gs a4 k l _ _ J _;have b:∀(j:Nat) t v,f4.params[j]? =some t->args[j]? =some v->Value.okWide prog W .any base t v:=k;have c:=l;obtain⟨K,a5,n,L,rfl,a6,a7⟩:=l;have p:DataW.TrodAll enc prog W 0 (λ_=>true) true f4.params.toList args.toList I K:=n;rw[params4] at p b;obtain⟨q,a8,d0,a9,M,q0,b0,rfl,rfl,r,N⟩:=trodAll_cons p;obtain⟨s,b1,d1,b2,O,q1,rfl,rfl,rfl,y,P⟩:=trodAll_cons N;obtain⟨rfl,rfl,rfl⟩:=trodAll_nil P;obtain rfl:args= #[q,s]:=by cases args;simp_all
 obtain⟨rfl,rfl⟩:=trodVars_none L;have d:=r;have e:=y;have Q:∀x∈M,x.block<W.heap.size:=by let⟨m,f⟩:=d;exact DataW.trod_lt m _ _ _ f
 have R:∀x∈O,x.block<W.heap.size:=by let⟨m,f⟩:=e;exact DataW.trod_lt m _ _ _ f
 obtain⟨S,T,U,rfl⟩:=okWide_slice underlying22 (b 0 22 q rfl rfl);obtain⟨V,Y,Z,rfl⟩:=okWide_slice underlying22 (b 1 22 s rfl rfl);let⟨b3,a0⟩:=r;let⟨b4,a1⟩:=y;let⟨a,z,A,e0,hS,hl,a2⟩:=yZ a0;let⟨B,D,E,e1,a3,_,_⟩:=yZ a1;have e3:Value.slice S T U=.slice a z.length A:=by simpa[Value.cells] using e0
 have e4:Value.slice V Y Z=.slice B D.length E:=by simpa[Value.cells] using e1
 rw[e3] at d c⊢;rw[e4] at e c⊢;clear n k;refine (Hl W a A z B E D hS a2 a3 (yI (BG J))).mono λb5 W' ⟨he,i⟩=>?_
 subst he;exact⟨_,rfl,_,_,_,[],_,[],c,trodAll_mk1 (shut_bool underlying4 _),(trodAll_cons_mk (Below.trod Tryz.zZ F4 (of_decide_eq_true F4) d i Q) (trodAll_cons_mk (Below.trod Tryz.zZ F4 (of_decide_eq_true F4) e i R) trodAll_mk0)),rfl,Below.frame i _,λh=>by cases h⟩
theorem Ea :Rows.FnStepsSaid:=OpenClaim.holds_of_wide 4 f4 rfl rfl rfl rfl rfl rfl rfl ⟨rfl,rfl,rfl,rfl,rfl⟩ rfl rfl rfl rfl rfl F4 func4 F4
  (of_decide_eq_true F4) (by unfold Func.isWrapper;first|(rw[Nz (by decide+kernel)];kernel_rfl)|(rw[NA (by decide+kernel)];exact⟨rfl,rfl⟩))
  λa b H d _=>Cq a b H d
theorem stepsCardHolds :Rows.FnStepsCardSaid:=Claim7.holds_tied_plain_at .later [] [.data,.data,.data] true Rows.fnStepsCard.stood.harness Rows.fnStepsCard.stood.looks
  Ea (λ_ h=>by cases h) F4 (λ_ h=>by cases h) fnSteps_row_tie rfl ⟨rfl,rfl⟩ F4 rfl
  (λf b c d=>by
   obtain rfl:f=4:=Nl ((show prog.funcNamed Rows.fnStepsRow.func=some 4 by kernel_rfl).symm.trans c) |>.symm;obtain rfl:b=f4:=(Nl (func4.symm.trans d)).symm;exact⟨F4,λj t a=>by
    rw[params4] at a;have e:t∈[22,22]:=by simpa using Array.mem_of_getElem? a
    have i:([22,22].all λu=>!prog.wantsStandIn u)=true:=F4;exact (show prog.wantsStandIn t=false by simpa using List.all_eq_true.1 i t e)⟩)
  F4
