import Derived.Test.YtppbfddlkfglgaaGreatDoorKDDrawW
import Derived.Deep.CutBlock
set_option maxRecDepth 100000
set_option maxHeartbeats 25600000
namespace Go.Proofs.YtppbfddlkfglgaaGreatDoor
open Go.RowKit Go.Proofs.Tryz
structure OSt (W wr:QX)(rb:Nat)(a:QW)(cap:Nat)(bs:List UInt8)(p:Nat)(v:QY)(l:List QV):Prop where
 rd:Rd wr rb a cap bs p
 rd0:∃p0,Rd W rb a cap bs p0
 kb:Xj rb (rb+1) W wr
 own:wr.ownsRow W.heap.size 9 1 v l.length (l.map Value.string)
 sz:∀x∈l,x.size<=300
section
variable {W wr w':QX}{rb:Nat}{a:QW}{cap:Nat}{bs:List UInt8}{p p':Nat}{v:QY}{l:List QV}
theorem OSt.drawn(h:OSt W wr rb a cap bs p v l)(c:Rd w' rb a cap bs p')(k:Xj rb (rb+1) wr w'):OSt W w' rb a cap bs p' v l:=
 ⟨c,h.rd0,h.kb.trans k,aY h.own (k.sameKind h.rd) A8,h.sz⟩
theorem OSt.kept(h:OSt W wr rb a cap bs p v l)(k:K_ wr w'):OSt W w' rb a cap bs p v l:=h.drawn (h.rd.kept k) (.ak k)
theorem OSt.push{w1 w2:QX}{d:QY}{x:QV}(h:OSt W wr rb a cap bs p v l)(f:K_ wr w1)(i:w2.ownsRow W.heap.size 9 1 d (l.length+1) (l.map Value.string++[.string x]))(j:w1.grownBy w2 v.ownBlock)(k:x.size<=300):OSt W w2 rb a cap bs p d (l++[x]):=by
 have b:=h.kept f;have e:Below W.heap.size w1 w2:=(Below.refl _ _).grown j b.kb.size λm n=>(b.own.lt m n).1;obtain⟨r,q⟩:=h.rd0;refine⟨b.rd.below q e b.kb.size,h.rd0,b.kb.below e,by simpa using i,λy c=>?_⟩;simp only[PK,PI] at c;rcases c with c|rfl
 .exact h.sz y c
 .exact k
theorem OSt.made{b:Nat}(d:Rd W rb a cap bs b)(h:Rd wr rb a cap bs p)(k:Xj rb (rb+1) W wr):OSt W (wr.alloc (.cells #[] 9)) rb a cap bs p (.c wr.heap.size 0 0) []:=by
 have c:K_ wr (wr.alloc (.cells #[] 9)):=ai _ _;exact⟨h.kept c,⟨b,d⟩,k.gJ c,gX (Qa wr #[] 0 (Pw _) (Py _) rfl) k.size,λx f=>by simp at f⟩
end
section
variable {W wr w':QX}{rb:Nat}{a:QW}{cap:Nat}{bs:List UInt8}{p p':Nat}{v:QY}{l:List QV}
theorem eY.take{w:QX}{t:TypeId}{a:QW}{l:List QV}(h:eY w t a l)(n:Nat):eY w t a (l.take n):=by
 rcases h with rfl|⟨b,c,d,e,f,j⟩
 .exact .inl A9
 .refine .inr ⟨b,c,d,e,f,λi k=>?_⟩;rw[PW] at k;rw[j i A7];simp[List.getD,(A7:i<n)]
end
section
variable {M:Nat}{w wr:QX}{rb ob sb:Nat}{a:QW}{cap:Nat}{bs:List UInt8}{p:Nat}{cost:Int}{v:QY}{L:List Xq}{xs:List QY}{k:Nat}{va vc:QY}{s:Xq}
theorem eX.fin(h:eX M w wr rb ob sb a cap bs p cost v L xs k va vc s)(x:Bool):eX M w (wr.setCell ⟨sb,5,none⟩ (.bool x)) rb ob sb a cap bs p cost v L xs k va vc {s with fin:=x}:=
 h.field (h.st.box.fin x) rfl rfl ⟨h.st.tiny.asks,h.st.tiny.fA,h.st.tiny.on,h.st.tiny.cases,h.st.tiny.dK,h.st.tiny.els,h.st.tiny.fall,h.st.tiny.give⟩
theorem eX.bad(h:eX M w wr rb ob sb a cap bs p cost v L xs k va vc s)(x:Bool):eX M w (wr.setCell ⟨sb,6,none⟩ (.bool x)) rb ob sb a cap bs p cost v L xs k va vc {s with bad:=x}:=
 h.field (h.st.box.bad x) rfl rfl ⟨h.st.tiny.asks,h.st.tiny.fA,h.st.tiny.on,h.st.tiny.cases,h.st.tiny.dK,h.st.tiny.els,h.st.tiny.fall,h.st.tiny.give⟩
theorem eX.give(h:eX M w wr rb ob sb a cap bs p cost v L xs k va vc s)(x:QV)(c:x.size<=300):eX M w (wr.setCell ⟨sb,7,none⟩ (.string x)) rb ob sb a cap bs p cost v L xs k va vc {s with give:=x}:=
 h.field (h.st.box.give x) rfl rfl ⟨h.st.tiny.asks,h.st.tiny.fA,h.st.tiny.on,h.st.tiny.cases,h.st.tiny.dK,h.st.tiny.els,h.st.tiny.fall,c⟩
theorem eX.on(h:eX M w wr rb ob sb a cap bs p cost v L xs k va vc s)(x:Int)(c: -1000<=x/\x<=1000):eX M w (wr.setCell ⟨sb,1,none⟩ (.b x)) rb ob sb a cap bs p cost v L xs k va vc {s with on:=x}:=
 h.field (h.st.box.on x) rfl rfl ⟨h.st.tiny.asks,h.st.tiny.fA,c,h.st.tiny.cases,h.st.tiny.dK,h.st.tiny.els,h.st.tiny.fall,h.st.tiny.give⟩
theorem eX.els(h:eX M w wr rb ob sb a cap bs p cost v L xs k va vc s)(x:Int)(c:In64 x):eX M w (wr.setCell ⟨sb,3,none⟩ (.b x)) rb ob sb a cap bs p cost v L xs k va vc {s with els:=x}:=
 h.field (h.st.box.els x) rfl rfl ⟨h.st.tiny.asks,h.st.tiny.fA,h.st.tiny.on,h.st.tiny.cases,h.st.tiny.dK,c,h.st.tiny.fall,h.st.tiny.give⟩
theorem eX.fall(h:eX M w wr rb ob sb a cap bs p cost v L xs k va vc s)(x:Int)(c: -1000<=x/\x<=1000):eX M w (wr.setCell ⟨sb,4,none⟩ (.b x)) rb ob sb a cap bs p cost v L xs k va vc {s with fall:=x}:=
 h.field (h.st.box.fall x) rfl rfl ⟨h.st.tiny.asks,h.st.tiny.fA,h.st.tiny.on,h.st.tiny.cases,h.st.tiny.dK,h.st.tiny.els,c,h.st.tiny.give⟩
end
variable {cost:Int}{L:List Xq}{bs:List UInt8}{xs:List QY}{cap rb:Nat}{a:QW}{wr:QX}
theorem eX.NB{M:Nat}{w w1 w2:QX}{ob sb:Nat}{p:Nat}{v:QY}{k:Nat}{va vc:QY}{s:Xq}(h:eX M w wr rb ob sb a cap bs p cost v L xs k va vc s)(d:K_ wr w1)(e:w1.grownBy w2 vc.ownBlock):w2.cell? ⟨ob,1,none⟩=some v:=by
 have b:=h.kept d;exact ((b.row.jM (aB.aI b.st.cases e) A8).2 1).trans b.c1
theorem eX.cut{M:Nat}{w:QX}{ob sb:Nat}{p:Nat}{k g b:Nat}{va vc:QY}{s:Xq}(h:eX M w wr rb ob sb a cap bs p cost (.c g L.length b) L xs k va vc s):
  vR M w (wr.setCell ⟨ob,1,none⟩ (.c g k b)) rb ob a cap bs p cost (.c g k b) (L.take k):=by
 have x:=h.kl;have l:=h.row.same (o:=1) (.c g k b);have d:Below w.heap.size wr (wr.setCell ⟨ob,1,none⟩ (.c g k b)):=(Below.refl _ _).setCell h.obl _;obtain⟨y,m⟩:=h.st.rd0;have c:(L.take k).length=k:=F3;rcases h.own.2 with⟨e,_⟩|⟨z,A,n,e,B,q,C,_,D,_⟩
 .simp at e
 simp only[Qm,Ql,QS,and_true,true_and] at e;obtain⟨rfl,rfl⟩:=e;refine⟨h.st.rd.below m d h.st.kb.size,h.st.kb.below d,h.row.set _,(Xk A7 _).trans h.c0,bB h.row.row A7 _,StW.same ⟨some ⟨g,0,none⟩,b,by rw[c],by rw[c];omega,λi f=>?_⟩ l A8 A8 A8,λt r=>h.tiny t (List.mem_of_mem_take r)⟩;rw[c] at f;have j:=(h.oth i A7 A7).1;have v:(L.take k).getD i Xq.zero=L.getD i Xq.zero:=by simp[List.getD,f]
 rw[v];exact⟨g,0,n,_,mh xs i,rfl,q,qQ h.own i,j.step,j.pM⟩
theorem kK.fin{M:Nat}{w:QX}{c:Nat}{p:Nat}{v:QY}(h:kK M w wr rb c a cap bs p cost v L xs):vR M w wr rb c a cap bs p cost v L:=
 ⟨h.rd,h.kb,h.row,h.c0,h.c1,StW.gW h.own h.pack h.pM,h.tiny⟩
theorem eX.act{M:Nat}{w:QX}{ob sb:Nat}{p:Nat}{v:QY}{k:Nat}{va vc:QY}{s:Xq}(h:eX M w wr rb ob sb a cap bs p cost v L xs k va vc s)(c:fw wr w.heap.size xs L):kK M w wr rb ob a cap bs p cost v L xs:=
 ⟨h.st.rd,h.st.rd0,h.obl,h.st.kb,h.row,h.c0,h.c1,h.own,c.packed,h.tiny,c.pM⟩
def OA(M:Nat)(A0 wx:QX)(rb ob sb:Nat)(a:QW)(cap:Nat)(bs:List UInt8)(p:Nat)(v:QY)(L:List Xq)(xs:List QY)(k:Nat):Prop:=
 ∃(cost:Int)(va vc:QY)(s:Xq)(p':Nat),(-1000<=cost/\cost<=1000)/\p<=p'/\p'<=p+4/\eX M A0 wx rb ob sb a cap bs p' cost v L xs k va vc s
theorem JD(mN:Nat)(o2:mN<=900)(w:QX)(rb:Nat)(a:QW)(cap:Nat)(bs:List UInt8)(p:Nat)(cost:Int)(sa:QW)(b5:Nat)(L:List Xq)(hR:Rd w rb a cap bs p)(hp:p<=800000)(J:bs.length<=2000)(hL:L.length<=21)(M: -1000<=cost/\cost<=1000)(f7:∀s∈L,s.TinyN mN)(hS:lT w sa L):
  Calls prog 111 #[.h rb,.agg #[.b cost,.slice sa L.length b5]] w λe w'=>NP (mN+10) w w' rb a cap bs p 10 e:=by
 obtain⟨H,b6⟩:=aj ((w.alloc (.cells #[.b cost,.slice sa L.length b5] 62)).alloc (.cells #[.b 0,J6] 62));have k0:K_ w H:=by rw[b6];exact (ai _ _).alloc _
 have i3:H.heap.size=w.heap.size+2:=by rw[b6];simp
 have d5:Hid (aH H (w.heap.size+1) 62 2):=by
  rw[b6];refine Kz ?_;have:=aH.made (w.alloc (.cells #[.b cost,.slice sa L.length b5] 62)) #[.b 0,J6] 62;simpa using this
 have a0:H.cell? ⟨w.heap.size,0,none⟩=some (.b cost):=by
  rw[b6,K_.cell (w:=w.alloc (.cells #[.b cost,.slice sa L.length b5] 62)) (ai _ _) A9];exact X_ w _ _ 0 _ rfl
 have a1:H.cell? ⟨w.heap.size,1,none⟩=some (.slice sa L.length b5):=by
  rw[b6,K_.cell (w:=w.alloc (.cells #[.b cost,.slice sa L.length b5] 62)) (ai _ _) A9];exact X_ w _ _ 1 _ rfl
 have az:w.heap.size<H.heap.size:=A7;have d6:=Kz hR;have d7:=Kz (hR.kept k0);have o3:=hR.row.lt;have i4:=Kz f7;have i5:Hid (∀s∈L,s.TinyN (mN+10)):=λs hs=>(f7 s hs).mono A7
 clear hR f7;go_enter func111,ntmps111
 go_upto_region 1 with fail
 rw[<-b6];have o4:=Kz i3;clear b6 i3;go_wp2_with fail
 refine (ER _ cost sa b5 L A7 (mN:=mN) A7 i4.o (hS.kept k0)).mono ?_;rintro e w1 ⟨v1,xs,rfl,f8,i6,Y⟩;obtain⟨av,B,rfl⟩:=aG f8;have kk:K_ w1 (w1.alloc (.cells #[.b cost,.slice av L.length B] 62)):=ai _ _;have Z:=Kz (Y.trans kk);have b1:=Kz (ay f8 kk);have d8:=Kz (i6.same (u:=82) (aB.ak kk) A8 A8);have c4:Hid (aH (w1.alloc (.cells #[.b cost,.slice av L.length B] 62)) w1.heap.size 62 2):=aH.made w1 _ _;have c6:Hid ((w1.alloc (.cells #[.b cost,.slice av L.length B] 62)).cell? ⟨w1.heap.size,0,none⟩=some (.b cost)):=X_ w1 _ _ 0 _ rfl;have b2:Hid ((w1.alloc (.cells #[.b cost,.slice av L.length B] 62)).cell? ⟨w1.heap.size,1,none⟩=some (.slice av L.length B)):=X_ w1 _ _ 1 _ rfl;have l7:H.heap.size<=w1.heap.size:=Y.size;clear f8 i6 Y kk;go_upto_region 2 with fail
 obtain⟨W2,i7⟩:=aj (w1.alloc (.cells #[.b cost,.slice av L.length B] 62));rw[<-i7] at Z b1 d8 c4 c6 b2⊢;clear i7;have o1:=b2.o;have oz:=c4.o.lt;by_cases d9:L.length=0
 .have l8:((L.length:Int) == 0)=true:=by simp[d9]
  have O:=Kz (vR.made (d7.o.kept Z.o) (.ak Z.o) c4.o c6.o b2.o b1.o d8.o i5.o);clear d9;have C:=Kz (d5.o.kept Z.o);obtain⟨⟨_,x0⟩,g0⟩:=C.o.row.at (i:=0) A7;obtain⟨⟨_,x1⟩,g1⟩:=C.o.row.at (i:=1) A7;have xz:=C.o.lt;have o0:=c6.o;go_wp2
  have hR:=PD W2 (w.heap.size+1) 0 [.b cost,.slice av L.length B] (C.o.row.there (o:=0) (m:=2) (Pw _));exact Zx [.b cost,.slice av L.length B] _ results111 rfl hR underlying62 rfl Tryz.jl rfl (O.o.ends C.o A7 k0 d6.o rfl (Pw _) A7 A7 M)
 .have l8:((L.length:Int) == 0)=false:=by simpa using d9
  go_wp2_with fail
  refine (aM _ rb a cap bs p _ L.length rfl (d7.o.kept Z.o) A7 A7 J).mono ?_;rintro e U ⟨Q,rfl,hk,i8,f9⟩;have g3:Q<L.length:=A7;have e0:=f9.sameKind (d7.o.kept Z.o);have i9:=Kz i8;have l9:Hid (Xj rb (rb+1) H U):=(Xj.ak Z.o).trans f9;have e1:=c4.o.jM e0 A8;have g4:=Kz e1.1;have o0:=(e1.2 0).trans c6.o;have j0:=(e1.2 1).trans b2.o;have e2:=Kz (aY b1.o e0 A8);have e3:=Kz (d8.o.same e0 A8 A8);have m0:=g4.o.lt;obtain⟨s,c7⟩:=aj (L.getD Q Xq.zero);have j1:=e3.o.each Q g3;rw[<-c7] at j1;obtain⟨aa,ca,ac,cc,g5,g1,g2⟩:=j1;rcases e2.o.2 with⟨_,m1⟩|⟨g,c8,m2,ev,o5,g6,j2,_,c2,_⟩
  .exact QK m1 d9
  simp only[Qm,true_and] at ev;obtain⟨rfl,rfl⟩:=ev;have a8:=qQ e2.o Q;rw[g5] at a8;have c0:=a8 0 _ rfl;have j3:=a8 1 _ rfl;have j4:=a8 2 _ rfl;have j5:=a8 3 _ rfl;have j6:=a8 4 _ rfl;have c5:=a8 5 _ rfl;have j7:=a8 6 _ rfl;have j8:=a8 7 _ rfl;rw[Qp] at c0;simp only[Qb] at c0 j3 j4 j5 j6 c5 j7 j8;have gz:=aP g6;have e5:=Kz (eX.made i9.o d7.o l9.o l7 g4.o o0 j0 e2.o e3.o g3 i5.o c7 g5);have m3:Hid (aH U g 146 (B*8)):=⟨m2,g6,c2⟩;have o6:L.length<=B:=j2;have o7:(Q:Int)<(L.length:Int):=A7;have g7:s.TinyN mN:=i4.o s (by rw[c7];simp[List.getD,g3]);have o8:=g7.asks;have o9:=g7.cases;clear g7;have p0:=Kz c7;clear a8 g6 c2 g1 g2 g5 j2 i8 f9 e0 e1 c7;go_wp2_with fail
  refine (aM _ rb a cap bs (p+1) _ 14 rfl e5.o.st.rd A7 A7 J).mono ?_;rintro e S ⟨u,rfl,y,j9,g8⟩;have n:=Kz (e5.o.drawn j9 g8);have k1:=g8.sameKind e5.o.st.rd;have c9:K_ U (U.alloc (.cells #[.slice aa s.asks.length ca,.b s.on,.slice ac s.cases.length cc,.b s.els,.b s.fall,.bool s.fin,.bool s.bad,.string s.give] 146)):=ai _ _;have k2:=Kz ((e3.o.same (u:=82) (aB.ak c9) A8 A8).same k1 A8 A8);have e6:U.heap.size<S.heap.size:=n.o.st.box.row.lt;clear j9 g8 e5 e3 d8 c0 j3 j4 j5 j6 c5 j7 j8 m3 g4 e2 o0 j0 o1 c6 b2 c4 b1 c9 k1 i9 gz m0 oz
  go_upto_block 0 with fail
  go_cut [8,9,10] from 31 to 198 λ_ _ _ wx=>OA (mN+10) H wx rb w1.heap.size U.heap.size a cap bs (p+2) (.c g L.length B) L xs Q
  case first=>
   have b7:u=0\/u=1\/u=2\/u=3\/u=4\/u=5\/u=6\/u=7\/u=8\/u=9\/u=10\/u=11\/u=12\/u=13:=A7;have y5:=n.o.st.box.c5;have y6:=n.o.st.box.c6;have y3:=n.o.st.box.c3;obtain⟨_,f5⟩:=n.o.st.box.cell (o:=5) A7;obtain⟨_,f6⟩:=n.o.st.box.cell (o:=6) A7;obtain⟨_,f3⟩:=n.o.st.box.cell (o:=3) A7;obtain⟨_,g9⟩:=n.o.st.box.cell (o:=7) A7;clear y;obtain rfl|rfl|rfl|rfl|rfl|rfl|rfl|rfl|rfl|rfl|rfl|rfl|rfl|rfl:=b7
   .have c9:K_ S (S.alloc (.cells #[.b 0,.b 20,.b 21] 3)):=ai _ _;have r:=Kz (n.o.kept c9);go_wp2_with fail
    refine (aM _ rb a cap bs (p+2) _ 3 rfl r.o.st.rd A7 A7 J).mono ?_;rintro e l ⟨q,rfl,hq,k,i⟩;have j:=Kz (r.o.drawn k i);obtain⟨c,x,z,A⟩:=wZ [0,20,21] i n.o.st.rd.row.lt q (by show q<3;omega) A8;obtain⟨⟨_,r0⟩,p1⟩:=j.o.row.row.at (i:=0) A7;have rz:=j.o.row.lt;have lz:S.heap.size<l.heap.size:=Px A9 i.size;have p2:(q:Int)<3:=A7;clear k i r c9;go_wp2
    go_meet
    exact⟨c,_,_,_,p+3,⟨z,A⟩,A7,A7,j.o.cost⟩
   .go_wp2
    go_meet
    exact⟨cost,_,_,_,p+2,M,A7,A7,n.o.fin _⟩
   .go_wp2
    go_meet
    exact⟨cost,_,_,_,p+2,M,A7,A7,n.o.bad _⟩
   .go_wp2_with fail
    refine (aM _ rb a cap bs (p+2) _ 2 rfl n.o.st.rd A7 A7 J).mono ?_;rintro e l ⟨q,rfl,hq,k,i⟩;have j:=Kz (n.o.drawn k i);obtain⟨⟨_,p3⟩,p4⟩:=j.o.st.box.cell (o:=7) A7;have rz:=j.o.st.box.row.lt;clear k i;go_wp2_with fail
    refine (wL _ ⟨#[103]⟩ _ (30+q) (by push_cast;rfl) A7 A8).mono ?_;rintro e w6 ⟨⟨G,rfl,t⟩,rfl⟩;have d0:G.size<=300:=by have d1:(⟨#[103]⟩:QV).size=1:=rfl;rw[d1] at t;omega
    go_wp2
    go_meet
    exact⟨cost,_,_,_,p+3,M,A7,A7,j.o.give _ d0⟩
   .have r:=Kz (n.o.kept (a_ S));have P:=r.o.st.box.c0;go_upto_region 17 with fail
    refine Qk.region C9 (λw'=>w'.cell? ⟨U.heap.size,0,none⟩=some (.slice aa s.asks.length ca)) 14 P λd=>?_;generalize a3:S.drew=V at r d⊢;clear a3 P;refine ae 0 d ?_;refine ae 1 d ?_;refine ae 2 d ?_;refine ae 7 d ?_;refine aD 3 λK b=>?_;go_simp
    go_at_call 10
    refine (aM _ rb a cap bs (p+2) _ 2 rfl r.o.st.rd A7 A7 J).mono ?_;rintro e l ⟨q,rfl,hq,k,i⟩;have j:=Kz (r.o.drawn k i);clear k i;dsimp only;refine af b (λ_=>j.o.st.box.c0) ?_;clear b K;clear d r;have d:=j.o.st.box.c0;have e4:IntKind.i64.wrap (20+(q:Int))=20+(q:Int):=E9;refine bZ 4 (.b (20+(q:Int))) d ?_ ?_
    .intro u y;try dsimp only at y
     go_simp
     try with_reducible rfl
    try simp only[upP]
    refine aD 5 λK b=>?_;go_simp
    go_at_call 110
    refine (wL _ ⟨#[110]⟩ _ (20+q) (by push_cast;rfl) A7 A8).mono ?_;rintro e w6 ⟨⟨G,rfl,t⟩,h0⟩;have d0:G.size<=300:=by have d1:(⟨#[110]⟩:QV).size=1:=rfl;rw[d1] at t;omega
    subst h0;dsimp only;refine af b (λ_=>j.o.st.box.c0) ?_;clear b K;have k3:∀c∈([⟨#[]⟩,⟨#[45]⟩,⟨#[97,44,98]⟩,⟨#[120,32,121]⟩,G,⟨#[97]⟩]:List QV),c.size<=300:=by
     intro c x;simp only[Qr,Qs,or_false] at x;rcases x with rfl|rfl|rfl|rfl|rfl|rfl<;>first|exact d0|decide
    refine iX 6 8 (λK b=>?_) λK b=>?_
    .rw[QI D8];go_simp
     have D:K_ w6 (w6.alloc (.cells #[.string ⟨#[]⟩,.string ⟨#[45]⟩,.string ⟨#[97,44,98]⟩,.string ⟨#[120,32,121]⟩,.string G,.string ⟨#[97]⟩] 9)):=ai _ _;have f:=Kz (j.o.kept D);refine af b (λ_=>f.o.st.box.c0) ?_;clear b K;clear d D;refine aD 8 λK b=>?_;go_simp
     go_at_call 10
     refine (aM _ rb a cap bs (p+3) _ 6 rfl f.o.st.rd A7 A7 J).mono ?_;rintro e wE ⟨N,rfl,k4,k,i⟩;have I:=Kz (f.o.drawn k i);obtain⟨c,x,c2⟩:=CF [⟨#[]⟩,⟨#[45]⟩,⟨#[97,44,98]⟩,⟨#[120,32,121]⟩,G,⟨#[97]⟩] i j.o.st.rd.row.lt N (by show N<6;omega) k3;have lz:w6.heap.size<wE.heap.size:=Nat.lt_of_lt_of_le A9 i.size;clear k i;dsimp only;refine af b (λ_=>I.o.st.box.c0) ?_;clear b K;have b8:(N:Int)<6:=A7;refine au 9 λK b=>?_;go_simp
     refine af b (λ_=>I.o.st.box.c0) ?_;clear b K;refine au 10 λK b=>?_;go_simp
     refine af b (λ_=>I.o.st.box.c0) ?_;clear b K;refine au 11 λK b=>?_;go_simp
     have T:K_ wE (wE.alloc (.cells #[.string c] 9)):=ai _ _;have a9:=Kz (I.o.kept T);have a2:=Kz T;refine af b (λ_=>a9.o.st.box.c0) ?_;clear b K;clear T;obtain⟨ic,a4,z,A,a5⟩:=aV Tryz.gV;refine au 12 λK b=>?_;refine step_append_lies _ rfl (.tmp 65) (.tmp 75) 26 rfl H.heap.size 9 ic _ 1 16 underlying26 a4 z A a5 rfl A8 (.slice aa s.asks.length ca) s.asks.length (s.asks.map Value.string) E5 a9.o.st.asks ⟨wE.heap.size,0,none⟩ 1 1 [.string c] E5 rfl (lS wE c) (lF c) A7 D6 A7 a9.o.st.kb.size _ rfl ?_;intro g2 e7 w8 a6 R W b0;have E:=Kz (I.o.st.vw a2.o R);have h1:=Kz (I.o.qK (x:=c) a2.o a6 R (xu W) A7 c2);have z6:=E.o.row.lt;have y6:=E.o.c0;obtain⟨_,f6⟩:=E.o.cell (o:=0) A7;clear a6 R W b0;refine af b (λ_=>E.o.c0) ?_;clear b K;have d:=E.o.c0;refine ae 13 d ?_;refine au 14 λK b=>?_;go_simp
     refine af b (λh=>QK rfl h) ?_;clear b K;refine aF ?_;go_wp2
     go_meet
     exact⟨cost,_,_,_,p+4,M,A7,A7,h1.o⟩
    .rw[QI D8];go_simp
     go_at_call 10
     refine (aM _ rb a cap bs (p+3) _ 6 rfl j.o.st.rd A7 A7 J).mono ?_;rintro e w7 ⟨N,rfl,k4,k,i⟩;have f:=Kz (j.o.drawn k i);clear k i;dsimp only;refine af b (λ_=>f.o.st.box.c0) ?_;clear b K;clear d;refine aD 6 λK b=>?_;go_simp
     have D:K_ w7 (w7.alloc (.cells #[.string ⟨#[]⟩,.string ⟨#[45]⟩,.string ⟨#[97,44,98]⟩,.string ⟨#[120,32,121]⟩,.string G,.string ⟨#[97]⟩] 9)):=ai _ _;have I:=Kz (f.o.kept D);obtain⟨c,x,c2⟩:=Ej w7 9 [⟨#[]⟩,⟨#[45]⟩,⟨#[97,44,98]⟩,⟨#[120,32,121]⟩,G,⟨#[97]⟩] N (by show N<6;omega) k3;clear D;have b9:(w7.alloc (.cells #[.string ⟨#[]⟩,.string ⟨#[45]⟩,.string ⟨#[97,44,98]⟩,.string ⟨#[120,32,121]⟩,.string G,.string ⟨#[97]⟩] 9)).cell? ⟨w7.heap.size,N,none⟩=some (.string c):=x;have lz:w7.heap.size<(w7.alloc (.cells #[.string ⟨#[]⟩,.string ⟨#[45]⟩,.string ⟨#[97,44,98]⟩,.string ⟨#[120,32,121]⟩,.string G,.string ⟨#[97]⟩] 9)).heap.size:=A9;clear x;refine af b (λ_=>I.o.st.box.c0) ?_;clear b K;generalize c1:w7.alloc (.cells #[.string ⟨#[]⟩,.string ⟨#[45]⟩,.string ⟨#[97,44,98]⟩,.string ⟨#[120,32,121]⟩,.string G,.string ⟨#[97]⟩] 9)=wE at I b9 lz⊢;clear c1;have b8:(N:Int)<6:=A7;refine au 9 λK b=>?_;go_simp
     refine af b (λ_=>I.o.st.box.c0) ?_;clear b K;refine au 10 λK b=>?_;go_simp
     refine af b (λ_=>I.o.st.box.c0) ?_;clear b K;refine au 11 λK b=>?_;go_simp
     have T:K_ wE (wE.alloc (.cells #[.string c] 9)):=ai _ _;have a9:=Kz (I.o.kept T);have a2:=Kz T;refine af b (λ_=>a9.o.st.box.c0) ?_;clear b K;clear T;obtain⟨ic,a4,z,A,a5⟩:=aV Tryz.gV;refine au 12 λK b=>?_;refine step_append_lies _ rfl (.tmp 65) (.tmp 75) 26 rfl H.heap.size 9 ic _ 1 16 underlying26 a4 z A a5 rfl A8 (.slice aa s.asks.length ca) s.asks.length (s.asks.map Value.string) E5 a9.o.st.asks ⟨wE.heap.size,0,none⟩ 1 1 [.string c] E5 rfl (lS wE c) (lF c) A7 D6 A7 a9.o.st.kb.size _ rfl ?_;intro g2 e7 w8 a6 R W b0;have E:=Kz (I.o.st.vw a2.o R);have h1:=Kz (I.o.qK (x:=c) a2.o a6 R (xu W) A7 c2);have z6:=E.o.row.lt;have y6:=E.o.c0;obtain⟨_,f6⟩:=E.o.cell (o:=0) A7;clear a6 R W b0;refine af b (λ_=>E.o.c0) ?_;clear b K;have d:=E.o.c0;refine ae 13 d ?_;refine au 14 λK b=>?_;go_simp
     refine af b (λh=>QK rfl h) ?_;clear b K;refine aF ?_;go_wp2
     go_meet
     exact⟨cost,_,_,_,p+4,M,A7,A7,h1.o⟩
   .have r:=Kz (n.o.kept (a_ S));have P:=r.o.st.box.c0;have p5:s.asks.length<=900:=A7;go_upto_region 19 with fail
    refine Qk.region C9 (λw'=>w'.cell? ⟨U.heap.size,0,none⟩=some (.slice aa s.asks.length ca)) 9 P λd=>?_;generalize a3:S.drew=V at r d⊢;clear a3 P;refine ae 0 d ?_;refine ae 1 d ?_;refine ae 2 d ?_;refine ae 4 d ?_;refine iX 3 5 (λK b=>?_) λK b=>?_
    .rw[QI D8];go_simp
     have D:K_ V (V.alloc (.cells #[.b (-1),.b (s.asks.length:Int),.b 0,.b 1] 3)):=ai _ _;have j:=Kz (r.o.kept D);refine af b (λ_=>j.o.st.box.c0) ?_;clear b K;clear d D;refine aD 5 λK b=>?_;go_simp
     go_at_call 10
     refine (aM _ rb a cap bs (p+2) _ 4 rfl j.o.st.rd A7 A7 J).mono ?_;rintro e l ⟨q,rfl,hq,k,i⟩;have f:=Kz (j.o.drawn k i);obtain⟨c,x,z,A⟩:=wZ [-1,(s.asks.length:Int),0,1] i r.o.st.rd.row.lt q (by show q<4;omega) (λc x=>by simp at x;omega);have lz:V.heap.size<l.heap.size:=Nat.lt_of_lt_of_le A9 i.size;clear k i;dsimp only;refine af b (λ_=>f.o.st.box.c0) ?_;clear b K;have b8:(q:Int)<4:=A7;refine au 6 λK b=>?_;go_simp
     refine af b (λ_=>f.o.st.box.c0) ?_;clear b K;refine au 7 λK b=>?_;go_simp
     refine af b (λ_=>f.o.st.box.c0) ?_;clear b K;have d:=f.o.st.box.c0;refine ae 8 d ?_;obtain⟨_,d2⟩:=f.o.st.box.cell (o:=1) A7;obtain⟨⟨_,r1⟩,_⟩:=f.o.st.box.cell (o:=1) A7;have rz:=f.o.st.box.row.lt;refine au 9 λK b=>?_;go_simp
     refine af b (λh=>QK rfl h) ?_;clear b K;refine aF ?_;go_wp2
     go_meet
     exact⟨cost,_,_,_,p+3,M,A7,A7,f.o.on c ⟨z,A⟩⟩
    .rw[QI D8];go_simp
     go_at_call 10
     refine (aM _ rb a cap bs (p+2) _ 4 rfl r.o.st.rd A7 A7 J).mono ?_;rintro e l ⟨q,rfl,hq,k,i⟩;have j:=Kz (r.o.drawn k i);clear k i;dsimp only;refine af b (λ_=>j.o.st.box.c0) ?_;clear b K;clear d;refine aD 3 λK b=>?_;go_simp
     have D:K_ l (l.alloc (.cells #[.b (-1),.b (s.asks.length:Int),.b 0,.b 1] 3)):=ai _ _;have f:=Kz (j.o.kept D);obtain⟨c,x,z,A⟩:=yZ l 3 [-1,(s.asks.length:Int),0,1] q (by show q<4;omega) (λc x=>by simp at x;omega);clear D;have b9:(l.alloc (.cells #[.b (-1),.b (s.asks.length:Int),.b 0,.b 1] 3)).cell? ⟨l.heap.size,q,none⟩=some (.b c):=x;have lz:l.heap.size<(l.alloc (.cells #[.b (-1),.b (s.asks.length:Int),.b 0,.b 1] 3)).heap.size:=A9;clear x;refine af b (λ_=>f.o.st.box.c0) ?_;clear b K;generalize c1:l.alloc (.cells #[.b (-1),.b (s.asks.length:Int),.b 0,.b 1] 3)=wE at f b9 lz⊢;clear c1;have b8:(q:Int)<4:=A7;refine au 6 λK b=>?_;go_simp
     refine af b (λ_=>f.o.st.box.c0) ?_;clear b K;refine au 7 λK b=>?_;go_simp
     refine af b (λ_=>f.o.st.box.c0) ?_;clear b K;have d:=f.o.st.box.c0;refine ae 8 d ?_;obtain⟨_,d2⟩:=f.o.st.box.cell (o:=1) A7;obtain⟨⟨_,r1⟩,_⟩:=f.o.st.box.cell (o:=1) A7;have rz:=f.o.st.box.row.lt;refine au 9 λK b=>?_;go_simp
     refine af b (λh=>QK rfl h) ?_;clear b K;refine aF ?_;go_wp2
     go_meet
     exact⟨cost,_,_,_,p+3,M,A7,A7,f.o.on c ⟨z,A⟩⟩
   .have r:=Kz (n.o.kept (a_ S));have P:=r.o.c1;have m4:IntKind.i64.wrap ((L.length:Int)-1)= (L.length:Int)-1:=E9;go_upto_region 21 with fail
    refine Qk.region C9 (λw'=>w'.cell? ⟨w1.heap.size,1,none⟩=some (.c g L.length B)) 13 P λd=>?_;generalize a3:S.drew=V at r d⊢;clear a3 P;refine ax 0 d ?_;refine ae 4 d ?_;refine ae 5 d ?_;refine bZ 6 (.b ((L.length:Int)-1)) d ?_ ?_
    .intro u y;try dsimp only at y
     go_simp
     try with_reducible rfl
    try simp only[upP]
    refine ae 8 d ?_;refine iX 7 9 (λK b=>?_) λK b=>?_
    .rw[QI D8];go_simp
     have D:K_ V (V.alloc (.cells #[.b (-1),.b (L.length:Int),.b ((L.length:Int)-1)] 3)):=ai _ _;have j:=Kz (r.o.kept D);refine af b (λ_=>j.o.c1) ?_;clear b K;clear d D;refine aD 9 λK b=>?_;go_simp
     go_at_call 10
     refine (aM _ rb a cap bs (p+2) _ 3 rfl j.o.st.rd A7 A7 J).mono ?_;rintro e l ⟨q,rfl,hq,k,i⟩;have f:=Kz (j.o.drawn k i);obtain⟨c,x,z,A⟩:=wZ [-1,(L.length:Int),(L.length:Int)-1] i r.o.st.rd.row.lt q (by show q<3;omega) (λc x=>by simp at x;omega);have lz:V.heap.size<l.heap.size:=Nat.lt_of_lt_of_le A9 i.size;clear k i;dsimp only;refine af b (λ_=>f.o.c1) ?_;clear b K;have b8:(q:Int)<3:=A7;refine au 10 λK b=>?_;go_simp
     refine af b (λ_=>f.o.c1) ?_;clear b K;refine au 11 λK b=>?_;go_simp
     refine af b (λ_=>f.o.c1) ?_;clear b K;have d:=f.o.c1;refine ae 12 d ?_;obtain⟨_,d2⟩:=f.o.st.box.cell (o:=3) A7;obtain⟨⟨_,r1⟩,_⟩:=f.o.st.box.cell (o:=3) A7;have rz:=f.o.st.box.row.lt;refine au 13 λK b=>?_;go_simp
     refine af b (λh=>QK rfl h) ?_;clear b K;refine aF ?_;go_wp2
     go_meet
     exact⟨cost,_,_,_,p+3,M,A7,A7,f.o.els c (oM ⟨z,A⟩)⟩
    .rw[QI D8];go_simp
     go_at_call 10
     refine (aM _ rb a cap bs (p+2) _ 3 rfl r.o.st.rd A7 A7 J).mono ?_;rintro e l ⟨q,rfl,hq,k,i⟩;have j:=Kz (r.o.drawn k i);clear k i;dsimp only;refine af b (λ_=>j.o.c1) ?_;clear b K;clear d;refine aD 7 λK b=>?_;go_simp
     have D:K_ l (l.alloc (.cells #[.b (-1),.b (L.length:Int),.b ((L.length:Int)-1)] 3)):=ai _ _;have f:=Kz (j.o.kept D);obtain⟨c,x,z,A⟩:=yZ l 3 [-1,(L.length:Int),(L.length:Int)-1] q (by show q<3;omega) (λc x=>by simp at x;omega);clear D;have b9:(l.alloc (.cells #[.b (-1),.b (L.length:Int),.b ((L.length:Int)-1)] 3)).cell? ⟨l.heap.size,q,none⟩=some (.b c):=x;have lz:l.heap.size<(l.alloc (.cells #[.b (-1),.b (L.length:Int),.b ((L.length:Int)-1)] 3)).heap.size:=A9;clear x;refine af b (λ_=>f.o.c1) ?_;clear b K;generalize c1:l.alloc (.cells #[.b (-1),.b (L.length:Int),.b ((L.length:Int)-1)] 3)=wE at f b9 lz⊢;clear c1;have b8:(q:Int)<3:=A7;refine au 10 λK b=>?_;go_simp
     refine af b (λ_=>f.o.c1) ?_;clear b K;refine au 11 λK b=>?_;go_simp
     refine af b (λ_=>f.o.c1) ?_;clear b K;have d:=f.o.c1;refine ae 12 d ?_;obtain⟨_,d2⟩:=f.o.st.box.cell (o:=3) A7;obtain⟨⟨_,r1⟩,_⟩:=f.o.st.box.cell (o:=3) A7;have rz:=f.o.st.box.row.lt;refine au 13 λK b=>?_;go_simp
     refine af b (λh=>QK rfl h) ?_;clear b K;refine aF ?_;go_wp2
     go_meet
     exact⟨cost,_,_,_,p+3,M,A7,A7,f.o.els c (oM ⟨z,A⟩)⟩
   .have r:=Kz (n.o.kept (a_ S));have P:=r.o.c1;have m4:IntKind.i64.wrap ((L.length:Int)-1)= (L.length:Int)-1:=E9;go_upto_region 23 with fail
    refine Qk.region C9 (λw'=>w'.cell? ⟨w1.heap.size,1,none⟩=some (.c g L.length B)) 13 P λd=>?_;generalize a3:S.drew=V at r d⊢;clear a3 P;refine ax 0 d ?_;refine ae 4 d ?_;refine ae 5 d ?_;refine bZ 6 (.b ((L.length:Int)-1)) d ?_ ?_
    .intro u y;try dsimp only at y
     go_simp
     try with_reducible rfl
    try simp only[upP]
    refine ae 8 d ?_;refine iX 7 9 (λK b=>?_) λK b=>?_
    .rw[QI D8];go_simp
     have D:K_ V (V.alloc (.cells #[.b (-2),.b (-1),.b (L.length:Int),.b ((L.length:Int)-1)] 3)):=ai _ _;have j:=Kz (r.o.kept D);refine af b (λ_=>j.o.c1) ?_;clear b K;clear d D;refine aD 9 λK b=>?_;go_simp
     go_at_call 10
     refine (aM _ rb a cap bs (p+2) _ 4 rfl j.o.st.rd A7 A7 J).mono ?_;rintro e l ⟨q,rfl,hq,k,i⟩;have f:=Kz (j.o.drawn k i);obtain⟨c,x,z,A⟩:=wZ [-2, -1,(L.length:Int),(L.length:Int)-1] i r.o.st.rd.row.lt q (by show q<4;omega) (λc x=>by simp at x;omega);have lz:V.heap.size<l.heap.size:=Nat.lt_of_lt_of_le A9 i.size;clear k i;dsimp only;refine af b (λ_=>f.o.c1) ?_;clear b K;have b8:(q:Int)<4:=A7;refine au 10 λK b=>?_;go_simp
     refine af b (λ_=>f.o.c1) ?_;clear b K;refine au 11 λK b=>?_;go_simp
     refine af b (λ_=>f.o.c1) ?_;clear b K;have d:=f.o.c1;refine ae 12 d ?_;obtain⟨_,d2⟩:=f.o.st.box.cell (o:=4) A7;obtain⟨⟨_,r1⟩,_⟩:=f.o.st.box.cell (o:=4) A7;have rz:=f.o.st.box.row.lt;refine au 13 λK b=>?_;go_simp
     refine af b (λh=>QK rfl h) ?_;clear b K;refine aF ?_;go_wp2
     go_meet
     exact⟨cost,_,_,_,p+3,M,A7,A7,f.o.fall c ⟨z,A⟩⟩
    .rw[QI D8];go_simp
     go_at_call 10
     refine (aM _ rb a cap bs (p+2) _ 4 rfl r.o.st.rd A7 A7 J).mono ?_;rintro e l ⟨q,rfl,hq,k,i⟩;have j:=Kz (r.o.drawn k i);clear k i;dsimp only;refine af b (λ_=>j.o.c1) ?_;clear b K;clear d;refine aD 7 λK b=>?_;go_simp
     have D:K_ l (l.alloc (.cells #[.b (-2),.b (-1),.b (L.length:Int),.b ((L.length:Int)-1)] 3)):=ai _ _;have f:=Kz (j.o.kept D);obtain⟨c,x,z,A⟩:=yZ l 3 [-2, -1,(L.length:Int),(L.length:Int)-1] q (by show q<4;omega) (λc x=>by simp at x;omega);clear D;have b9:(l.alloc (.cells #[.b (-2),.b (-1),.b (L.length:Int),.b ((L.length:Int)-1)] 3)).cell? ⟨l.heap.size,q,none⟩=some (.b c):=x;have lz:l.heap.size<(l.alloc (.cells #[.b (-2),.b (-1),.b (L.length:Int),.b ((L.length:Int)-1)] 3)).heap.size:=A9;clear x;refine af b (λ_=>f.o.c1) ?_;clear b K;generalize c1:l.alloc (.cells #[.b (-2),.b (-1),.b (L.length:Int),.b ((L.length:Int)-1)] 3)=wE at f b9 lz⊢;clear c1;have b8:(q:Int)<4:=A7;refine au 10 λK b=>?_;go_simp
     refine af b (λ_=>f.o.c1) ?_;clear b K;refine au 11 λK b=>?_;go_simp
     refine af b (λ_=>f.o.c1) ?_;clear b K;have d:=f.o.c1;refine ae 12 d ?_;obtain⟨_,d2⟩:=f.o.st.box.cell (o:=4) A7;obtain⟨⟨_,r1⟩,_⟩:=f.o.st.box.cell (o:=4) A7;have rz:=f.o.st.box.row.lt;refine au 13 λK b=>?_;go_simp
     refine af b (λh=>QK rfl h) ?_;clear b K;refine aF ?_;go_wp2
     go_meet
     exact⟨cost,_,_,_,p+3,M,A7,A7,f.o.fall c ⟨z,A⟩⟩
   .have r:=Kz (n.o.kept (a_ S));have P:=r.o.st.box.c2;have y1:=r.o.c1;have p6:IntKind.i64.wrap ((L.length:Int)+2)= (L.length:Int)+2:=E9;go_upto_region 25 with fail
    refine Qk.region C9 (λw'=>w'.cell? ⟨U.heap.size,2,none⟩=some (.slice ac s.cases.length cc)/\w'.cell? ⟨w1.heap.size,1,none⟩=some (.c g L.length B)) 17 ⟨P,y1⟩ λd=>?_;generalize a3:S.drew=V at r d⊢;clear a3 P y1;refine ae 0 d ?_;refine ae 1 d ?_;refine ae 2 d ?_;refine ax 6 d ?_;refine bZ 10 (.b ((L.length:Int)+2)) d ?_ ?_
    .intro u y;try dsimp only at y
     go_simp
     try with_reducible rfl
    try simp only[upP]
    refine aD 3 λK b=>?_;go_simp
    go_at_call 10
    refine (aM _ rb a cap bs (p+2) _ 2 rfl r.o.st.rd A7 A7 J).mono ?_;rintro e l ⟨q,rfl,hq,k,i⟩;have j:=Kz (r.o.drawn k i);clear k i;dsimp only;refine af b (λ_=>⟨j.o.st.box.c2,j.o.c1⟩) ?_;clear b K;clear d r;have d:=(show _/\_ from ⟨j.o.st.box.c2,j.o.c1⟩);have e4:IntKind.i64.wrap (200+(q:Int))=200+(q:Int):=E9;refine bZ 4 (.b (200+(q:Int))) d ?_ ?_
    .intro u y;try dsimp only at y
     go_simp
     try with_reducible rfl
    try simp only[upP]
    refine aD 5 λK b=>?_;go_simp
    go_at_call 110
    refine (wL _ ⟨#[116]⟩ _ (200+q) (by push_cast;rfl) A7 A8).mono ?_;rintro e w6 ⟨⟨G,rfl,t⟩,h0⟩;have d0:G.size<=300:=by have d1:(⟨#[116]⟩:QV).size=1:=rfl;rw[d1] at t;omega
    subst h0;dsimp only;refine af b (λ_=>⟨j.o.st.box.c2,j.o.c1⟩) ?_;clear b K;refine aD 11 λK b=>?_;go_simp
    go_at_call 10
    refine (aM _ rb a cap bs (p+3) _ (L.length+2) (by push_cast;rfl) j.o.st.rd A7 A7 J).mono ?_;rintro e w7 ⟨N,rfl,k4,k5,k6⟩;have f:=Kz (j.o.drawn k5 k6);clear k5 k6;dsimp only;refine af b (λ_=>⟨f.o.st.box.c2,f.o.c1⟩) ?_;clear b K;clear d;have d:=(show _/\_ from ⟨f.o.st.box.c2,f.o.c1⟩);have p7:IntKind.i64.wrap ((N:Int)-1)= (N:Int)-1:=E9;refine bZ 12 (.b ((N:Int)-1)) d ?_ ?_
    .intro u y;try dsimp only at y
     go_simp
     try with_reducible rfl
    try simp only[upP]
    refine ae 13 d ?_;refine au 14 λK b=>?_;go_simp
    have T:K_ w7 (w7.alloc (.cells #[.string G,.b ((N:Int)-1)] 187)):=ai _ _;have I:=Kz (f.o.kept T);have a2:=Kz T;refine af b (λ_=>⟨I.o.st.box.c2,I.o.c1⟩) ?_;clear b K;clear d T;obtain⟨ic,a4,z,A,a5⟩:=aV Tryz.qZ;refine au 15 λK b=>?_;refine step_append_lies _ rfl (.tmp 122) (.tmp 135) 144 rfl H.heap.size 187 ic _ 2 24 underlying144 a4 z A a5 rfl A8 (.slice ac s.cases.length cc) s.cases.length (bv s.cases) E5 I.o.st.cases ⟨w7.heap.size,0,none⟩ 1 1 [.string G,.b ((N:Int)-1)] E5 rfl (λX u y=>by rw[Qo];exact X_ w7 #[.string G,.b ((N:Int)-1)] 187 X u (by simpa using y)) (λu y=>by simp at y;rcases y with rfl|rfl<;>rfl) A7 D6 A7 I.o.st.kb.size _ rfl ?_;intro g2 e7 w8 a6 R W b0;have E:=Kz (f.o.st.CV a2.o R);have a9:=Kz (f.o.uj (x:=⟨G,(N:Int)-1⟩) a2.o a6 R (xu W) A7 ⟨d0,by show -1000<=(N:Int)-1;omega,by show (N:Int)-1<=1000;omega⟩);have b2:=Kz (f.o.NB a2.o R);have z6:=E.o.row.lt;have y6:=E.o.c2;obtain⟨_,f6⟩:=E.o.cell (o:=2) A7;clear a6 R W b0;refine af b (λ_=>⟨E.o.c2,b2.o⟩) ?_;clear b K;have d:=(show _/\_ from ⟨E.o.c2,b2.o⟩);refine ae 16 d ?_;refine au 17 λK b=>?_;go_simp
    refine af b (λh=>QK rfl h) ?_;clear b K;refine aF ?_;go_wp2
    go_meet
    exact⟨cost,_,_,_,p+4,M,A7,A7,a9.o⟩
   .go_wp2_with fail
    refine (aM _ rb a cap bs (p+2) _ 2 rfl n.o.st.rd A7 A7 J).mono ?_;rintro e l ⟨q,rfl,hq,k,i⟩;have j:=Kz (n.o.drawn k i);clear k i e6 y5 y6 y3 f5 f6 f3 g9;go_wp2
    go_loopg [] (5+q-s.cases.length) λgg wr=>∃(vc:QY)(v:Xq),gg=5+q-v.cases.length/\eX (mN+10) H wr rb w1.heap.size U.heap.size a cap bs (p+3) cost (.c g L.length B) L xs Q (.slice aa s.asks.length ca) vc v
    case atStart=>exact⟨_,s,rfl,j.o⟩
    case round=>
     clear j;obtain⟨vc,v,k7,hS⟩:=hrel;have F:=Kz hS;clear hS;obtain⟨h2,h3,rfl⟩:=aG F.o.st.cases;have y2:=F.o.st.box.c2;have yz:=F.o.st.box.row.lt;by_cases k8:(v.cases.length:Int)<5+(q:Int)
     .have Y:K_ wr (wr.alloc (.cells #[.string ⟨#[118,48,40,41]⟩,.b 0] 187)):=ai _ _;have Z:=Kz Y;have b1:=Kz (F.o.kept Y).st.cases;have h4:H.heap.size<=(wr.alloc (.cells #[.string ⟨#[118,48,40,41]⟩,.b 0] 187)).heap.size:=(F.o.kept Y).st.kb.size;have h5:Hid (∀X u,([.string ⟨#[118,48,40,41]⟩,.b 0]:List QY)[X]? =some u->(wr.alloc (.cells #[.string ⟨#[118,48,40,41]⟩,.b 0] 187)).cell? ((⟨wr.heap.size,0,none⟩:Addr).add X)=some u):=λX u y=>by rw[Qo];exact X_ wr #[.string ⟨#[118,48,40,41]⟩,.b 0] 187 X u y
      have d3:Hid (∀u∈([.string ⟨#[118,48,40,41]⟩,.b 0]:List QY),u.oneCell'=true):=λu y=>by simp at y;rcases y with rfl|rfl<;>rfl
      obtain⟨ic,a4,z,A,a5⟩:=aV Tryz.qZ;clear Y;go_wp2_with (at_builtin;refine wpList_append_lies _ rfl (.tmp 149) (.tmp 151) 144 rfl H.heap.size 187 ic _ 2 24 underlying144 a4 z A a5 rfl A8 (.slice h2 v.cases.length h3) v.cases.length (bv v.cases) rfl b1.o ⟨wr.heap.size,0,none⟩ 1 1 [.string ⟨#[118,48,40,41]⟩,.b 0] rfl rfl h5.o d3.o A7 D6 A7 h4 _ rfl ?_;intro g2 e7 w2 c3 a7 W b0;have b3:=F.o.st.CV Z.o a7;have y4:=b3.c2;have z2:=b3.row.lt;obtain⟨_,m5⟩:=b3.cell (o:=2) A7;have h6:=Kz c3;have h7:=Kz a7;have e8:=Kz W;clear c3 a7 b3 W b0)
      go_roundg (gk-1)
      case measure=>omega
      case rel=>exact⟨_,{v with cases:=v.cases++[⟨⟨#[118,48,40,41]⟩,0⟩]},by show gk-1=5+q-(v.cases++[_]).length;rw[Qi];show gk-1=5+q-(v.cases.length+1);omega,F.o.uj (x:=⟨⟨#[118,48,40,41]⟩,0⟩) Z.o h6.o h7.o (xu e8.o) A7 ⟨A8,A8,A8⟩⟩
     .go_wp2
      go_meet
      exact⟨cost,_,_,v,p+3,M,A7,A7,F.o⟩
   .go_wp2_with fail
    refine (aM _ rb a cap bs (p+2) _ 2 rfl n.o.st.rd A7 A7 J).mono ?_;rintro e l ⟨q,rfl,hq,k,i⟩;have j:=Kz (n.o.drawn k i);clear k i e6 y5 y6 y3 f5 f6 f3 g9;go_wp2
    go_loopg [10] (5+q-s.asks.length) λgg G wr=>∃(b4:Nat)(va:QY)(v:Xq),G=.b (b4:Int)/\gg=5+q-v.asks.length/\b4+s.asks.length=v.asks.length/\eX (mN+10) H wr rb w1.heap.size U.heap.size a cap bs (p+3) cost (.c g L.length B) L xs Q va (.slice ac s.cases.length cc) v
    case atStart=>exact⟨0,_,s,rfl,rfl,A7,j.o⟩
    case round=>
     clear j;obtain⟨b4,va,v,rfl,k7,hi,hS⟩:=hrel;have⟨F,HI⟩:=aJ hS hi;clear hS hi;obtain⟨e9,f0,rfl⟩:=aG F.o.st.asks;have y2:=F.o.st.box.c0;have yz:=F.o.st.box.row.lt;by_cases k8:(v.asks.length:Int)<5+(q:Int)
     .have m6:b4<10:=by have:=HI.o;omega
      have f1:=Kz (F.o.kept (a_ wr));have P:=f1.o.st.box.c0;go_upto_region 35 with fail
      refine Qk.region C9 (λw'=>w'.cell? ⟨U.heap.size,0,none⟩=some (.slice e9 v.asks.length f0)) 8 P λd=>?_;generalize a3:wr.drew=V at f1 d⊢;clear a3 P;refine ae 0 d ?_;refine ae 1 d ?_;refine ae 2 d ?_;refine aD 3 λK b=>?_;go_simp
      go_at_call 138
      refine (uO _ b4 m6).mono ?_;rintro e f2 ⟨h8,rfl,ht,k9⟩;have d4:=Kz (f1.o.kept k9);clear k9;dsimp only;refine af b (λ_=>d4.o.st.box.c0) ?_;clear b K;clear d f1;have d:=d4.o.st.box.c0;obtain⟨tx,l0⟩:∃tx:QV,(⟨#[109,97,110,121]⟩:QV)++h8=tx:=⟨_,rfl⟩;have m7:tx.size<=300:=by rw[<-l0,ByteArray.size_append];show 4+h8.size<=300;omega
      have f5:¬9223372036854775807<4+h8.size:=A7;refine bZ 4 (.string tx) d ?_ ?_
      .intro u y;try dsimp only at y
       go_simp
       try with_reducible rfl
      try simp only[upP]
      clear l0 f5 ht;refine au 5 λK b=>?_;go_simp
      have T:K_ f2 (f2.alloc (.cells #[.string tx] 9)):=ai _ _;have h9:=Kz (d4.o.kept T);have a2:=Kz T;refine af b (λ_=>h9.o.st.box.c0) ?_;clear b K;clear T d;obtain⟨ic,a4,z,A,a5⟩:=aV Tryz.gV;refine au 6 λK b=>?_;refine step_append_lies _ rfl (.tmp 167) (.tmp 171) 26 rfl H.heap.size 9 ic _ 1 16 underlying26 a4 z A a5 rfl A8 (.slice e9 v.asks.length f0) v.asks.length (v.asks.map Value.string) E5 h9.o.st.asks ⟨f2.heap.size,0,none⟩ 1 1 [.string tx] E5 rfl (lS f2 tx) (lF tx) A7 D6 A7 h9.o.st.kb.size _ rfl ?_;intro g2 e7 w8 a6 R W b0;have E:=Kz (d4.o.st.vw a2.o R);have m8:=Kz (d4.o.qK (x:=tx) a2.o a6 R (xu W) A7 m7);have z6:=E.o.row.lt;have y6:=E.o.c0;obtain⟨_,f6⟩:=E.o.cell (o:=0) A7;clear a6 R W b0;refine af b (λ_=>E.o.c0) ?_;clear b K;have d:=E.o.c0;refine ae 7 d ?_;refine au 8 λK b=>?_;go_simp
      refine af b (λh=>QK rfl h) ?_;clear b K;refine aF ?_;go_wp2
      go_roundg (gk-1)
      case measure=>omega
      case rel=>exact⟨b4+1,_,{v with asks:=v.asks++[tx]},C8,by show gk-1=5+q-(v.asks++[_]).length;rw[Qi];show gk-1=5+q-(v.asks.length+1);omega,by show b4+1+s.asks.length= (v.asks++[_]).length;rw[Qi];have:=HI.o;show b4+1+s.asks.length=v.asks.length+1;omega,m8.o⟩
     .go_wp2
      go_meet
      exact⟨cost,_,_,v,p+3,M,A7,A7,F.o⟩
   .have i0:=Kz (n.o.act k2.o);go_wp2_with fail
    refine (aM _ rb a cap bs (p+2) _ 2 rfl i0.o.rd A7 A7 J).mono ?_;rintro e l ⟨q,rfl,hq,k,i⟩;have e8:=Kz (i0.o.drawn k i);clear k i e6 y5 y6 y3 f5 f6 f3 g9 i0;go_wp2
    go_loopg [] (20+q-L.length) λgg wr=>∃(v':QY)(L':List Xq)(i1:List QY),gg=20+q-L'.length/\L'.length<=21/\kK (mN+10) H wr rb w1.heap.size a cap bs (p+3) cost v' L' i1
    case atStart=>exact⟨_,L,xs,rfl,hL,e8.o⟩
    case round=>
     clear e8;obtain⟨v',L',i1,k7,m9,hS⟩:=hrel;have F:=Kz hS;clear hS;obtain⟨av,c8,rfl⟩:=aG F.o.own;have y1:=F.o.c1;have yz:=F.o.row.lt;by_cases k8:(L'.length:Int)<20+(q:Int)
     .have Y:K_ wr (wr.alloc (.cells #[J6,.b 0,J6,.b 0,.b 0,.bool true,.bool false,.string ⟨#[]⟩] 146)):=ai _ _;have Z:=Kz Y;have b1:=Kz (F.o.kept Y).own;have h4:H.heap.size<=(wr.alloc (.cells #[J6,.b 0,J6,.b 0,.b 0,.bool true,.bool false,.string ⟨#[]⟩] 146)).heap.size:=(F.o.kept Y).kb.size;have h5:Hid (∀X u,([J6,.b 0,J6,.b 0,.b 0,.bool true,.bool false,.string ⟨#[]⟩]:List QY)[X]? =some u->(wr.alloc (.cells #[J6,.b 0,J6,.b 0,.b 0,.bool true,.bool false,.string ⟨#[]⟩] 146)).cell? ((⟨wr.heap.size,0,none⟩:Addr).add X)=some u):=λX u y=>by rw[Qo];exact X_ wr #[J6,.b 0,J6,.b 0,.b 0,.bool true,.bool false,.string ⟨#[]⟩] 146 X u y
      have d3:Hid (∀u∈([J6,.b 0,J6,.b 0,.b 0,.bool true,.bool false,.string ⟨#[]⟩]:List QY),u.oneCell'=true):=jQ ⟨[],0,[],0,0,true,false,⟨#[]⟩⟩ none 0 none 0;obtain⟨ic,a4,z,A,a5⟩:=aV Tryz.lu;clear Y;go_wp2_with (at_builtin;refine wpList_append_own _ rfl (.tmp 185) (.tmp 187) 60 rfl H.heap.size 146 ic _ 8 96 underlying60 a4 z A a5 rfl A8 (.slice av L'.length c8) L'.length i1 rfl b1.o ⟨wr.heap.size,0,none⟩ 1 1 [J6,.b 0,J6,.b 0,.b 0,.bool true,.bool false,.string ⟨#[]⟩] rfl rfl h5.o d3.o D6 A7 h4 ?_;intro p8 w2 c3 a7 _;have b3:=F.o.gB Z.o a7;have z2:=b3.2.lt;obtain⟨⟨_,y2⟩,m5⟩:=b3.2.row.at (i:=1) A7;have h6:=Kz c3;obtain⟨p9,q0,rfl⟩:=aG c3;have h7:=Kz a7;clear c3 a7 b3)
      go_roundg (gk-1)
      case measure=>omega
      case rel=>exact⟨_,L'++[⟨[],0,[],0,0,true,false,⟨#[]⟩⟩],_,by rw[Qi];show gk-1=20+q-(L'.length+1);omega,by rw[Qi];show L'.length+1<=21;omega,F.o.push (s:=⟨[],0,[],0,0,true,false,⟨#[]⟩⟩) (cs:=[J6,.b 0,J6,.b 0,.b 0,.bool true,.bool false,.string ⟨#[]⟩]) Z.o ⟨none,0,none,0,rfl,.inl rfl,.inl rfl,Pw _⟩ ⟨A9,λG t=>by simp at t,⟨F8,F9⟩,A9,λG t=>by simp at t,oM ⟨F8,F9⟩,⟨F8,F9⟩,A8⟩ (kZ (s:=⟨[],0,[],0,0,true,false,⟨#[]⟩⟩) (λ_=>⟨rfl,rfl⟩) λ_=>⟨rfl,rfl⟩) h6.o h7.o⟩
     .have O:=Kz F.o.fin;have C:=Kz (d5.o.but O.o.kb A7);have o0:=O.o.c0;obtain⟨⟨_,x0⟩,g0⟩:=C.o.row.at (i:=0) A7;obtain⟨⟨_,x1⟩,g1⟩:=C.o.row.at (i:=1) A7;have xz:=C.o.lt;go_wp2_with fail
      have hR:=PD wr (w.heap.size+1) 0 [.b cost,.slice av L'.length c8] (C.o.row.there (o:=0) (m:=2) (Pw _));exact Zx [.b cost,.slice av L'.length c8] _ results111 rfl hR underlying62 rfl Tryz.jl rfl (O.o.ends C.o A7 k0 d6.o rfl A7 A7 m9 M)
   .have o1:=n.o.c1;have oz:=n.o.row.lt;obtain⟨_,fo⟩:=n.o.row.row.at (i:=1) A7;have O:=Kz n.o.cut;have C:=Kz (d5.o.but O.o.kb A7);have o0:=O.o.c0;have n0:=O.o.c1;have n1:=O.o.row.lt;obtain⟨⟨_,x0⟩,g0⟩:=C.o.row.at (i:=0) A7;obtain⟨⟨_,x1⟩,g1⟩:=C.o.row.at (i:=1) A7;have xz:=C.o.lt;have q1:(Q:Int)<=(B:Int):=A7;go_wp2_with fail
    have hR:=PD (S.setCell ⟨w1.heap.size,1,none⟩ (.c g Q B)) (w.heap.size+1) 0 [.b cost,.c g Q B] (C.o.row.there (o:=0) (m:=2) (Pw _));exact Zx [.b cost,.c g Q B] _ results111 rfl hR underlying62 rfl Tryz.jl rfl (O.o.ends C.o A7 k0 d6.o rfl A7 A7 F3 M)
   .go_wp2
    go_meet
    exact⟨cost,_,_,_,p+2,M,A7,A7,n.o.els _ (in64_wrap64 _)⟩
  case rest=>
   clear n k2 e6;obtain⟨l1,va,vc,v,p',n2,q2,q3,hX⟩:=hcut;obtain⟨e9,f0,rfl⟩:=aG hX.st.asks;obtain⟨h2,h3,rfl⟩:=aG hX.st.cases;have n:=Kz hX;clear hX;have o1:=n.o.c1;have oz:=n.o.row.lt;have sz:=n.o.st.box.row.lt;obtain⟨cs,b7⟩:=aj (v.cells e9 f0 h2 h3);have f4:cs.length=8:=by rw[b7];rfl
   have l2:cs.toArray.all (·.oneCell')=true:=by rw[b7];exact Xq.one v _ _ _ _
   have l3:wc.rangeAt U.heap.size 0 cs:=by
    rw[b7];have hb:=n.o.st.box;intro X G t;rw[Qb]
    match X,t with
    |0,t=>simp[Xq.cells] at t;subst t;exact hb.c0
    |1,t=>simp[Xq.cells] at t;subst t;exact hb.c1
    |2,t=>simp[Xq.cells] at t;subst t;exact hb.c2
    |3,t=>simp[Xq.cells] at t;subst t;exact hb.c3
    |4,t=>simp[Xq.cells] at t;subst t;exact hb.c4
    |5,t=>simp[Xq.cells] at t;subst t;exact hb.c5
    |6,t=>simp[Xq.cells] at t;subst t;exact hb.c6
    |7,t=>simp[Xq.cells] at t;subst t;exact hb.c7
    |X+8,t=>simp[Xq.cells] at t
   have n3:=Kz l3;have a7:aH wc g 146 (B*8):=by
    rcases n.o.own.2 with⟨e,_⟩|⟨g',c8,n4,e,_,n5,_,_,n6,_⟩
    .simp at e
    .simp only[Qm,Ql,QS,and_true,true_and] at e;obtain⟨rfl,rfl⟩:=e;exact⟨n4,n5,n6⟩
   have gz:=a7.lt;have l4:wc.there g (Q*8) cs.toArray.size:=by simpa[f4] using a7.row.there (o:=Q*8) (m:=8) A7
   have l5:(prog.info? 146).map (·.size)=some cs.toArray.size:=by rw[Tryz.BB];simp[f4]
   have l6:(prog.info? 146).map (·.size)=some cs.length:=by rw[Tryz.BB,f4]
   have⟨n7,n8,n9,d3⟩:=qH l5 l6 l4 l2;have i2:=n.o.store;rw[<-b7] at i2;have O:=Kz i2;have C:=Kz (d5.o.but O.o.kb A7);have o0:=O.o.c0;have n0:=O.o.c1;have n1:=O.o.row.lt;obtain⟨⟨_,x0⟩,g0⟩:=C.o.row.at (i:=0) A7;obtain⟨⟨_,x1⟩,g1⟩:=C.o.row.at (i:=1) A7;have xz:=C.o.lt;clear b7 f4 l2 l3 a7 l4 l5 l6 i2;go_wp2_with (first|(refine wpList_load_mid rfl 146 _ rfl U.heap.size 0 rfl cs _ n3.o underlying146 rfl n8.o ?_)|(refine wpList_store_mid rfl 146 _ _ rfl g (Q*8) cs.toArray rfl rfl n9.o n7.o d3.o ?_;rw[List.toList_toArray]))
   have hR:=PD (wc.setCells g (Q*8) cs) (w.heap.size+1) 0 [.b l1,.c g L.length B] (C.o.row.there (o:=0) (m:=2) (Pw _));refine Zx [.b l1,.c g L.length B] _ results111 rfl hR underlying62 rfl Tryz.jl rfl (O.o.ends C.o A7 k0 d6.o rfl A7 A7 H5 n2)
