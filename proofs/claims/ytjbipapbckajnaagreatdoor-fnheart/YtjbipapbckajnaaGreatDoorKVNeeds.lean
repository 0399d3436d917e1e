import Derived.Test.YtjbipapbckajnaaGreatDoorKXWantZ
set_option maxRecDepth 100000
set_option maxHeartbeats 25600000
namespace Go.Proofs.YtjbipapbckajnaaGreatDoor
open Go.RowKit Go.Proofs.Tryz
variable {Kq : List Qz}
theorem lH(h:bv Kq 0):Kq.length<=60:=by
 rcases h with⟨_,h⟩|⟨_,_,h⟩|⟨_,_,_,h⟩|⟨_,_,_,_,h⟩|⟨h,_⟩
 .cases h
 .cases h
 .cases h
 .cases h
 .omega
theorem CF(h:bv Kq 0){k:Nat}(c:k<Kq.length):je (Kq.getD k Qz.zero).name/\gM ⟨(Kq.getD k Qz.zero).cost,(Kq.getD k Qz.zero).steps⟩:=by
 rcases h with⟨_,h⟩|⟨_,_,h⟩|⟨_,_,_,h⟩|⟨_,_,_,_,h⟩|⟨_,d,_,e,_⟩
 .cases h
 .cases h
 .cases h
 .cases h
 .refine⟨Classical.byContradiction λb=>d ⟨k,c,b⟩,Classical.byContradiction λb=>e ⟨k,c,b⟩⟩
theorem cO(h:bv Kq 0):bg (Kk Kq):=λn A c=>by
 obtain⟨k,d,e,_,rfl⟩:=gp c;obtain⟨a,f⟩:=CF h d;rw[e] at a;exact⟨f,a⟩
theorem pu(h:bv Kq 0):jc Kq:=λy d s e=>by
 obtain⟨k,a,rfl⟩:=Ms d;have b:=(CF h a).2;simp only[List.getD,Mj a,Nw] at b;obtain⟨i,f,rfl⟩:=Ms e;have c:=ib (i:=(i:Int)) b E5 (by show (i:Int)<((Kq[k].steps.length:Nat):Int);omega);have j:stepOf ⟨Kq[k].cost,Kq[k].steps⟩ (i:Int)=Kq[k].steps[i]:=by simp[stepOf,List.getD,f]
 rw[j] at c;exact⟨E5,λx l=>by have:=(c.2 x l).2.1;omega⟩
structure uJ (wr:NI) (xb:Nat) (Kj:List NG) (L:List Q_) (ra:NH) (rc:Nat) (d:NH) (dc:Nat):Prop where
 row:aD wr xb 32 2
 c0:wr.cell? ⟨xb,0,none⟩=some (.slice ra Kj.length rc)
 c1:wr.cell? ⟨xb,1,none⟩=some (.slice d L.length dc)
 rts:Strs wr ra Kj
 rns:cB wr d L
variable {Kj : List NG} {L : List Q_} {xb : Nat} {ra : NH} {w w' : NI}
theorem uJ.kept{b c:Nat}{d:NH}(h:uJ w xb Kj L ra b d c)(k:K_ w w'):uJ w' xb Kj L ra b d c:=
 ⟨h.row.kept k,(k.cell h.row.lt).trans h.c0,(k.cell h.row.lt).trans h.c1,h.rts.kept k,h.rns.kept k⟩
theorem uJ.made{a b:Nat}{d:NH}(c:Strs w ra Kj)(e:cB w d L):uJ (w.alloc (.cells #[.slice ra Kj.length a,.slice d L.length b] 32)) w.heap.size Kj L ra a d b:=
 ⟨aD.made w _ _,X_ w #[.slice ra Kj.length a,.slice d L.length b] 32 0 _ rfl,X_ w #[.slice ra Kj.length a,.slice d L.length b] 32 1 _ rfl,c.kept (ah _ _),e.kept (ah _ _)⟩
theorem uJ.laid{W:NI}{a e:Nat}{d:NH}{k:List NJ}(i:xb<W.heap.size)(l:aD w' xb 32 2)(q:w'.ownsRow W.heap.size 9 1 (.slice ra Kj.length a) Kj.length (Kj.map Value.string))(r:w'.ownsRow W.heap.size 40 7 (.slice d L.length e) L.length k)(s:bD w' (λb=>W.heap.size<=b) k L):uJ (w'.setCells xb 0 [.slice ra Kj.length a,.slice d L.length e]) xb Kj L ra a d e:=by
 have n:=Mi w' xb 0 [.slice ra Kj.length a,.slice d L.length e] (l.row.there (o:=0) (m:=2) (Me _));refine⟨aD.sets _ _ l,n 0 _ rfl,n 1 _ rfl, ?_, ?_⟩
 .have j:=bG (bG q (p:=⟨xb,0,none⟩) i (.slice ra Kj.length a)) (p:=⟨xb,1,none⟩) i (.slice d L.length e);obtain⟨t,v,f,h⟩:=bK j;simp only[MW,true_and] at f;rw[<-f.1] at h;exact h
 .have j:=bG (bG r (p:=⟨xb,0,none⟩) i (.slice ra Kj.length a)) (p:=⟨xb,1,none⟩) i (.slice d L.length e);have w:=(s.set (c:=xb) (p:=0) (λb x=>E5) (.slice ra Kj.length a)).set (c:=xb) (p:=1) (λb x=>E5) (.slice d L.length e);obtain⟨_,t,v,f,h⟩:=bD.runs j w (K_.refl _);simp only[MW,true_and] at f;rw[<-f.1] at h;exact h.runs
theorem g_.but{a:NH}{l:List NG}(h:g_ w xb a l)(k:Xj xb (xb+1) w w'):g_ w' xb a l:=λi d=>by
 obtain⟨b,o,e,c,f,j⟩:=h i d;exact⟨b,o,e,Mf c k.size,f,by rw[Mt (w:=w) (k.block b c E5)];exact j⟩
theorem g_.owned{base:Nat}{t:TypeId}{a:NH}{c:Nat}{l:List NG}(h:w.ownsRow base t 1 (.slice a l.length c) l.length (l.map Value.string))(j:xb<base):g_ w xb a l:=by
 rcases h.2 with⟨e,d⟩|⟨g,k,m,e,n,f,p,_,_,_⟩
 .intro i b;rw[d] at b;exact aO b
 .intro i b;simp only[MW] at e;obtain⟨rfl,_,rfl⟩:=e;refine⟨g,0,rfl,aN f,E5, ?_⟩;have:=h.cells (g:=g) rfl i (.string (l.getD i ByteArray.empty)) (by simp[List.getD,b]);rw[MZ] at this;exact this
theorem Xj.sets{lo hi:Nat}{a:NI}{g:Nat}(b:lo<=g)(h2:g<hi):∀(vs:List NJ) (o:Nat) {u:NI},Xj lo hi a u->Xj lo hi a (u.setCells g o vs)
 | [],_,_,h=>h
 | v :: r,o,_,h=>by rw[World.setCells];exact Xj.sets b h2 r (o+1) (h.setCell (p:=⟨g,o,none⟩) b h2 v)
def dU(Kq:List Qz)(Kj:List NG)(sl:List Q_):Prop:=bv Kq 0/\dR Kj/\sl.length<=Kq.length/\EK Kq Kj sl
structure DT (Kq:List Qz) (Kj:List NG) (sl:List Q_) (L:List Q_) (bb:Bool) (gg:Nat):Prop where
 good:dD Kq L
 led:∃k,a_ (Behind (W:=Kk Kq) bF (Qq sl)) (doX (Kk Kq)) (Qq (bM Kq Kj)) (Qq L) k
 fin:bb=false->AtEnd (Behind (W:=Kk Kq) bF (Qq sl)) (Qq L)
 pot:gg=2*mQ Kq L+ (if bb=true then 1 else 0)
theorem DT.begin(a:bv Kq 0)(Kj:List NG)(b:List Q_):DT Kq Kj b (bM Kq Kj) true (2*mQ Kq (bM Kq Kj)+1):=
 ⟨fZ (cO a) Kj,⟨0,.here _⟩,λh=>(by cases h),rfl⟩
theorem DT.next{c a:List Q_}{d:List NG}{b:Bool}{e:Nat}(f:DT Kq Kj c a true e)(i:bU (Kk Kq) (Qq a) a d)(h:gN Kq (Qq c) (Qq (bM Kq Kj)) d a L d.length b):DT Kq Kj c L b (2*mQ Kq L+ (if b=true then 1 else 0))/\2*mQ Kq L+ (if b=true then 1 else 0)<e:=by
 refine⟨⟨h.good,h.led,λj=>?_,rfl⟩, ?_⟩
 .subst j;exact (h.JA f.good i).2
 .rw[f.pot];cases b with
  | true=>have:=h.yes rfl;simp only[if_true];omega
  | false=>rw[(h.no rfl).1];simp
theorem uS{G σ:Env}{n:NG}(h:G n=none):¬Behind (W:=Kk Kq) bF G σ n:=λc=>by
 obtain⟨_,g,_,a,_⟩:=c.2;rw[h] at a;cases a
theorem qE{G σ:Env}{n:NG}{r g:Q_}(c:σ n=some r)(d:G n=some g)(h:¬bF r g):¬Behind (W:=Kk Kq) bF G σ n:=λe=>by
 obtain⟨i,j,a,b,f⟩:=e.2;rw[c] at a;rw[d] at b;cases a;cases b;exact h f
theorem Cm{l:List Q_}{n:NG}{r:Q_}{j:Nat}{q:Int}(m:df l)(b:j<l.length)(p:l.getD j Q_.zero=r)(d:Qq l n=some r)(h:Ev l n q):q= (j:Int):=by
 rcases h with⟨k,c,s,a,t⟩|⟨_,a⟩
 .rw[s];have e:l.getD k Q_.zero=l.getD j Q_.zero:=by rw[d] at a;rw[<-Ng a,p]
  simp only[List.getD,Mj b,Mj c,Nw] at e;have f:=congrArg Q_.name e;have i:=Mr.1 m;rcases Ns k j with h|h|h
  .exact Nv f (dJ (i k j c b h))
  .rw[h]
  .exact Nv f.symm (dJ (i j k b c h))
 .rw[d] at a;cases a
theorem wB(w:NI)(a:NH)(F:Nat)(f:List Qz)(ra:NH)(P:Nat)(Kj:List NG)(d:NH)(dc:Nat)(l:List Q_)(l4:f.length<=1048576)(d2:∀y∈f,y.Fits)(f7:Kj.length<=1048576)(f8:∀s∈Kj,s.size<=maxLen)(f9:l.length<=1048576)(i7:∀x∈l,x.texts.length<=1048576)
  (hN:bT w a f) (hS:cB w d l) (hR:Strs w ra Kj):
  Calls prog 8 #[.agg #[.slice a f.length F],.agg #[.slice ra Kj.length P,.slice d l.length dc]] w λe w'=>Ku e (dU f Kj l)/\K_ w w':=by
 obtain⟨WB,a6⟩:=aj ((w.alloc (.cells #[.slice a f.length F] 25)).alloc (.cells #[.slice ra Kj.length P,.slice d l.length dc] 32));have kB:K_ w WB:=by rw[a6];exact (ah _ _).alloc _
 have i8:WB.heap.size=w.heap.size+2:=by rw[a6];simp
 have Y:WB.cell? ⟨w.heap.size,0,none⟩=some (.slice a f.length F):=by rw[a6,K_.cell (w:=w.alloc (.cells #[.slice a f.length F] 25)) (ah _ _) E9];exact X_ w _ _ 0 _ rfl
 have Z:WB.cell? ⟨w.heap.size+1,0,none⟩=some (.slice ra Kj.length P):=by have:=X_ (w.alloc (.cells #[.slice a f.length F] 25)) #[.slice ra Kj.length P,.slice d l.length dc] 32 0 _ rfl;rw[MS] at this;rw[a6];exact this
 have Q:WB.cell? ⟨w.heap.size+1,1,none⟩=some (.slice d l.length dc):=by have:=X_ (w.alloc (.cells #[.slice a f.length F] 25)) #[.slice ra Kj.length P,.slice d l.length dc] 32 1 _ rfl;rw[MS] at this;rw[a6];exact this
 have z0:w.heap.size<WB.heap.size:=E5;have R:w.heap.size+1<WB.heap.size:=E5;have HC:Hid (∀w',K_ WB w'->w'.cell? ⟨w.heap.size,0,none⟩=some (.slice a f.length F)/\w'.cell? ⟨w.heap.size+1,0,none⟩=some (.slice ra Kj.length P)/\w'.cell? ⟨w.heap.size+1,1,none⟩=some (.slice d l.length dc)/\w.heap.size<w'.heap.size/\w.heap.size+1<w'.heap.size):=λw' K=>⟨(K.cell z0).trans Y,(K.cell R).trans Z,(K.cell R).trans Q,Mf z0 K.size,Mf R K.size⟩
 have B:=Kz kB;clear kB i8 Y Z Q;go_enter func8,ntmps8
 go_upto_region 1 with fail
 rw[<-a6];clear a6;obtain⟨Y,Z,Q,_,_⟩:=HC.o _ (K_.refl _);go_wp2_with fail
 refine (gW _ a F f F5 d2 (hN.kept B.o)).mono ?_;rintro e w1 ⟨⟨c,rfl,hc⟩,k1⟩;clear Y Z Q z0 R;obtain⟨Y,Z,Q,z0,R⟩:=HC.o _ k1;by_cases d3:c=0;rotate_left
 .have l5:(c != 0)=true:=by simpa using d3
  have i9:Hid (¬bv f 0):=λh=>d3 (hc.unique h)
  clear d3 hc;go_wp2
  go_ret
  exact⟨⟨false,rfl,by simp only[Bool.false_eq_true,false_iff];exact λh=>i9.o h.1⟩,B.o.trans k1⟩
 subst d3;have S:=Kz hc;clear hc;go_wp2_with fail
 refine (lU _ ra P Kj F5 f8 (hR.kept (B.o.trans k1))).mono ?_;rintro e w2 ⟨e0,j0⟩;have K2:=k1.trans j0;clear Y Z Q z0 R;obtain⟨Y,Z,Q,z0,R⟩:=HC.o _ K2;rcases e0.cases with⟨rfl,g0⟩|⟨rfl,g1⟩;rotate_left
 .have j1:=Kz g1;clear g1 e0;go_wp2
  go_ret
  exact⟨⟨false,rfl,by simp only[Bool.false_eq_true,false_iff];exact λh=>j1.o h.2.1⟩,B.o.trans K2⟩
 have HY:=Kz g0;clear g0 e0;by_cases g2:l.length<=f.length;rotate_left
 .have j2:(f.length:Int)<(l.length:Int):=E5;go_wp2
  go_ret
  exact⟨⟨false,rfl,by simp only[Bool.false_eq_true,false_iff];exact λh=>g2 h.2.2.1⟩,B.o.trans K2⟩
 have j2:¬(f.length:Int)<(l.length:Int):=E5;obtain⟨rb,ro,rfl,_,_⟩:=hR 0 (by have:=HY.o.1;omega);have l6:=lH S.o;have g3:=HY.o.2.1;go_wp2_with fail
 refine (Dk w2 a F f rb ro P Kj E5 d2 S.o HY.o f8 (hN.kept (B.o.trans K2)) (hR.kept (B.o.trans K2))).mono ?_;rintro e w3 ⟨N,n,O,p,xs,rfl,g4,g6,g7,g8⟩;have G:=K2.trans g8;have e1:Hid (Strs w3 N Kj/\cB w3 O (bM f Kj)):=by
  obtain⟨a9,l7,g9,h9⟩:=bK g4;simp only[MW,true_and] at g9;rw[<-g9.1] at h9;obtain⟨_,l8,c8,h0,h2⟩:=bD.runs g6 g7 (K_.refl _);simp only[MW,true_and] at h0;rw[<-h0.1] at h2;exact⟨h9,h2.runs⟩
 clear g4 g6 g7 g8;obtain⟨a0,e2⟩:=aj w3.heap.size;have j3:w3.heap.size<=a0:=E5;have h3:=Kz e2;clear Y Z Q z0 R;go_upto_region 4 with fail
 rw[<-e2];clear e2;go_wp2
 go_loopg [6] (2*mQ f (bM f Kj)+1) (λgg x6 wr=>∃(L:List Q_) (bb:Bool) (N:NH) (n:Nat) (O:NH) (p:Nat),x6= .bool bb/\K_ w3 wr/\uJ wr a0 Kj L N n O p/\Hid (DT f Kj l L bb gg))
 case atStart=>exact⟨bM f Kj,true,N,n,O,p,rfl,ah _ _,by rw[h3.o];exact uJ.made e1.o.1 e1.o.2,Kz (DT.begin S.o Kj l)⟩
 case round=>
  clear e1 h3;obtain⟨L,bb,N,n,O,p,rfl,Kr,C,H⟩:=hrel;obtain⟨wO,rfl⟩:=aj wr;obtain⟨gO,rfl⟩:=aj gk;have h4:L.length<=60:=by have:=H.o.good.len;omega
  obtain⟨Y,Z,Q,z0,R⟩:=HC.o _ (G.trans Kr);have m0:=C.c0;have m1:=C.c1;have mz:=C.row.lt;have q:=Kz C;clear C;cases bb
  .go_wp2_with fail
   refine (II wO N (some ⟨rb,ro,none⟩) O d n P p dc Kj Kj L l f7 f7 E5 f9 (λx hx=>by have h1:=(H.o.good.good x hx).tl;have a1:=(H.o.good.good x hx).hi;omega) i7 q.o.rts (hR.kept (B.o.trans (G.trans Kr))) q.o.rns (hS.kept (B.o.trans (G.trans Kr)))).mono ?_;rintro e w5 ⟨⟨b5,rfl,h5⟩,k5⟩;have H5:=Kz h5;clear h5;go_wp2
   go_ret
   refine⟨⟨b5,rfl, ?_⟩,B.o.trans ((G.trans Kr).trans k5)⟩;rw[H5.o];obtain⟨kk,hl⟩:=H.o.led;have h:=Gv H.o.good hl (H.o.fin rfl);exact⟨λ⟨_,e⟩=>⟨S.o,HY.o,g2,h.1 e⟩,λ⟨_,_,_,g⟩=>⟨by trivial,h.2 g⟩⟩
  .go_wp2_with fail
   refine (Gy wO a F f N Kj.length n O p L E5 E5 (pu S.o) (λr hr _ _=>(H.o.good.good r hr).act) (hN.kept (B.o.trans (G.trans Kr))) q.o.rns).mono ?_;rintro e w6 ⟨⟨da,lc,I,rfl,e3,h6⟩,k6⟩;have b2:=Kz e3;have j4:=Kz (g_.owned (xb:=a0) h6 mz);have l9:I.length<=60:=by have:=e3.len;omega
   have h7:=Kz (q.o.kept k6);have K6:=Kr.trans k6;clear e3 h6 Y Z Q z0 R m0 m1 mz q k6;obtain⟨L0,e4⟩:=aj L;have h8:Hid (gN f (Qq l) (Qq (bM f Kj)) I L0 L 0 false):=by rw[e4];exact gN.start H.o.good H.o.led b2.o
   rw[<-e4] at H b2;clear e4 h4;go_wp2
   go_loopg [6,8] I.length (λgg x6 x8 wr=>∃(m:Nat) (b:Bool) (L:List Q_) (N:NH) (n:Nat) (O:NH) (p:Nat),x6= .bool b/\x8= .a (m:Int)/\m+gg=I.length/\Xj a0 (a0+1) w6 wr/\uJ wr a0 Kj L N n O p/\Hid (gN f (Qq l) (Qq (bM f Kj)) I L0 L m b))
   case atStart=>exact⟨0,false,L,N,n,O,p,rfl,rfl,E5,Xj.refl _ _ _,h7.o,h8⟩
   case round=>
    clear h7 h8;obtain⟨m,b,L,N,n,O,p,rfl,rfl,m2,KB,C,a2⟩:=hrel;obtain⟨T,rfl⟩:=aj wr;have h4:L.length<=60:=by have:=a2.o.good.len;omega
    have a3:K_ w3 T:=KB.kept K6 j3;by_cases j5:(m:Int)<(I.length:Int);rotate_left
    .obtain rfl:m=I.length:=E5;obtain⟨h1,a1⟩:=H.o.next b2.o a2.o;have j6:=Kz h1;clear h1;go_wp2
     go_roundg (2*mQ f L+ (if b=true then 1 else 0))
     case measure=>exact a1
     case rel=>exact⟨L,b,N,n,O,p,rfl,a3,C,j6⟩
    have d4:m<I.length:=E5;obtain⟨U,hn⟩:=aj (I.getD m ByteArray.empty);obtain⟨lb,lo,rfl,e5,m3,b3⟩:=j4.o.but KB m d4;rw[<-hn] at b3;obtain⟨pb,po,rfl,_,_⟩:=C.rts 0 (by have:=HY.o.1;omega);have i1:=a2.o.rest m (Me _) d4;rw[<-hn] at i1;obtain⟨r,hr,i2⟩:=i1;obtain⟨j,hj,e6⟩:∃j,j<L.length/\L.getD j Q_.zero=r:=by
     obtain⟨j7,h1,a1⟩:=Ms (aY hr).1;exact⟨j7,h1,by simp only[List.getD,Mj h1,Nw,a1]⟩
    obtain⟨t,v,ta,tc,rfl,a7,D,i3,j8⟩:=C.rns j hj;rw[e6] at D i3;have⟨J,d5,HN,i4⟩:=mM hr i2 hn e6;have m0:=C.c0;have m1:=C.c1;have mz:=C.row.lt;have q:=Kz C;have t0:T.cell? ⟨t,v+j*7,none⟩=some (.string r.name):=D 0 _ rfl;have t1:T.cell? ⟨t,v+j*7+1,none⟩=some (.bool r.over):=D 1 _ rfl;have t2:T.cell? ⟨t,v+j*7+2,none⟩=some (.bool r.fail):=D 2 _ rfl;have t3:T.cell? ⟨t,v+j*7+3,none⟩=some (.string r.text):=D 3 _ rfl;have t4:T.cell? ⟨t,v+j*7+4,none⟩=some (.a r.at'):=D 4 _ rfl;have t5:T.cell? ⟨t,v+j*7+5,none⟩=some (.a r.Zq):=D 5 _ rfl;have t6:T.cell? ⟨t,v+j*7+6,none⟩=some (.slice ta r.texts.length tc):=D 6 _ rfl;have e7:Hid (∀w',K_ T w'->w'.cell? ⟨w.heap.size+1,0,none⟩=some (.slice (some ⟨rb,ro,none⟩) Kj.length P)/\w'.cell? ⟨w.heap.size+1,1,none⟩=some (.slice d l.length dc)/\w'.cell? ⟨lb,lo+m,none⟩=some (.string U)):=λw' K=>⟨(HC.o _ (G.trans (a3.trans K))).2.1,(HC.o _ (G.trans (a3.trans K))).2.2.1,(K.cell e5).trans b3⟩
    have a8:Hid (∀w',K_ T w'->w'.cell? ⟨a0,0,none⟩=some (.slice (some ⟨pb,po,none⟩) Kj.length n)/\w'.cell? ⟨a0,1,none⟩=some (.slice (some ⟨t,v,none⟩) L.length p)/\w'.cell? ⟨lb,lo+m,none⟩=some (.string U)/\w'.cell? ⟨t,v+j*7,none⟩=some (.string r.name)/\w'.cell? ⟨t,v+j*7+1,none⟩=some (.bool r.over)/\w'.cell? ⟨t,v+j*7+2,none⟩=some (.bool r.fail)/\w'.cell? ⟨t,v+j*7+3,none⟩=some (.string r.text)/\w'.cell? ⟨t,v+j*7+4,none⟩=some (.a r.at')/\w'.cell? ⟨t,v+j*7+5,none⟩=some (.a r.Zq)/\w'.cell? ⟨t,v+j*7+6,none⟩=some (.slice ta r.texts.length tc)):=λw' K=>⟨(K.cell mz).trans m0,(K.cell mz).trans m1,(K.cell e5).trans b3,(K.cell a7).trans t0,(K.cell a7).trans t1,(K.cell a7).trans t2,(K.cell a7).trans t3,(K.cell a7).trans t4,(K.cell a7).trans t5,(K.cell a7).trans t6⟩
    have d6:Hid (∀w',K_ T w'->w'.cell? ⟨w.heap.size,0,none⟩=some (.slice a f.length F)/\w'.cell? ⟨a0,0,none⟩=some (.slice (some ⟨pb,po,none⟩) Kj.length n)/\w'.cell? ⟨a0,1,none⟩=some (.slice (some ⟨t,v,none⟩) L.length p)/\w'.cell? ⟨lb,lo+m,none⟩=some (.string U)):=λw' K=>⟨(HC.o _ (G.trans (a3.trans K))).1,(K.cell mz).trans m0,(K.cell mz).trans m1,(K.cell e5).trans b3⟩
    clear hr i2 hn e6 C D i3 j8 t0 t1 t2 t3 t4 t5 t6 m0 m1 b3;have i0:(m:Int)<(I.length:Int):=j5;go_upto_region 11 with fail
    refine bC 6 e7.o λE A k=>?_
    refine au 0 k ?_;refine ae 4 k ?_;refine aG 5 (λK i=>?_);go_simp
    go_at_call 29
    refine (gU E (some ⟨rb,ro,none⟩) Kj.length P d dc l U f9 (hS.kept (B.o.trans (G.trans (a3.trans A))))).mono ?_;rintro e w7 ⟨⟨m4,rfl,i5⟩,i6⟩;have K7:=A.trans i6;have j9:=Kz i5;refine af i (λ_=>e7.o _ K7) ?_;clear i K k i5;refine ai 6 (λK i=>?_);go_simp
    refine af i (λh=>Nv rfl h) ?_;clear i K;refine aF ?_;clear A i6;go_upto_region 12 with fail
    go_cut [10] from 49 to 58 (λk0 wx=>∃gb,k0= .c gb/\K_ w7 wx/\jM wx gb r ta tc)
    case first=>
     refine gY 11 a8.o (K7.drew) (λk=>?_);have A:K_ w7 w7.drew:=aV w7;generalize b4:w7.drew=E at k A⊢;clear b4;refine au 0 k ?_;refine ae 4 k ?_;refine ae 5 k ?_;refine ae 6 k ?_;refine ik 7 10 (λK i=>?_) (λK i=>?_)
     .rw[Nt G5];go_simp
      go_at_call 29
      refine (gU E (some ⟨pb,po,none⟩) Kj.length n (some ⟨t,v,none⟩) p L U E5 (q.o.rns.kept (K7.trans A))).mono ?_;rintro e V ⟨⟨q8,rfl,b6⟩,k8⟩;obtain rfl:=Cm a2.o.good.asc hj i4.o J.o b6;have k2:(j:Int)<(L.length:Int):=E5;have z:=(K7.trans A).trans k8;refine i.out _ _ (λ_=>a8.o _ z) ?_;clear i K k b6;have k:=a8.o _ z;try simp only[upP]
      refine ae 8 k ?_;refine ae 9 k ?_;refine ai 10 (λK i=>?_);go_simp
      have M:K_ V (V.alloc (.cells #[.string ⟨#[]⟩,.bool false,.bool false,.string ⟨#[]⟩,.a 0,.a 0,M0] 40)):=ah _ _;have a4:aD (V.alloc (.cells #[.string ⟨#[]⟩,.bool false,.bool false,.string ⟨#[]⟩,.a 0,.a 0,M0] 40)) V.heap.size 40 7:=aD.made V _ _;have KE:=(A.trans k8).trans M;have nz:=(A.trans k8).size;obtain⟨gb,b7⟩:=aj V.heap.size;refine i.out _ _ (λ_=>a8.o _ (K7.trans KE)) ?_;clear i K;rw[<-b7] at a4 nz⊢;generalize e8:V.alloc (.cells #[.string ⟨#[]⟩,.bool false,.bool false,.string ⟨#[]⟩,.a 0,.a 0,M0] 40)=wE at a4 KE⊢;clear e8 M b7;try simp only[upP]
      obtain⟨⟨⟨_,v0⟩,e9⟩,⟨⟨_,v1⟩,f0⟩,⟨⟨_,v2⟩,k3⟩,⟨⟨_,v3⟩,k4⟩,⟨⟨_,v4⟩,k7⟩,⟨⟨_,v5⟩,f5⟩,⟨_,v6⟩,k9⟩:=a4.row.EC;have vz:=a4.lt;refine ai 11 (λK i=>?_);go_simp
      refine af i (λh=>Nv rfl h) ?_;clear i K;refine aF ?_;go_wp2
      go_meet
      exact⟨gb,rfl,bA (g:=gb) nz [.string r.name,.bool r.over,.bool r.fail,.string r.text,.a r.at',.a r.Zq,.slice ta r.texts.length tc] 0 KE,jM.laid a4⟩
     .rw[Nt G5];go_simp
      have M:K_ E (E.alloc (.cells #[.string ⟨#[]⟩,.bool false,.bool false,.string ⟨#[]⟩,.a 0,.a 0,M0] 40)):=ah _ _;have f1:aD (E.alloc (.cells #[.string ⟨#[]⟩,.bool false,.bool false,.string ⟨#[]⟩,.a 0,.a 0,M0] 40)) E.heap.size 40 7:=aD.made E _ _;have KF:=A.trans M;have nz:=A.size;obtain⟨gb,b7⟩:=aj E.heap.size;refine i.out _ _ (λ_=>a8.o _ (K7.trans KF)) ?_;clear i K;rw[<-b7] at f1 nz⊢;generalize e8:E.alloc (.cells #[.string ⟨#[]⟩,.bool false,.bool false,.string ⟨#[]⟩,.a 0,.a 0,M0] 40)=wF at f1 KF⊢;clear e8 M b7;try simp only[upP]
      refine aG 7 (λK i=>?_);go_simp
      go_at_call 29
      refine (gU wF (some ⟨pb,po,none⟩) Kj.length n (some ⟨t,v,none⟩) p L U E5 (q.o.rns.kept (K7.trans KF))).mono ?_;rintro e V ⟨⟨q8,rfl,b6⟩,k8⟩;obtain rfl:=Cm a2.o.good.asc hj i4.o J.o b6;have k2:(j:Int)<(L.length:Int):=E5;have z:=(K7.trans KF).trans k8;refine i.out _ _ (λ_=>a8.o _ z) ?_;clear i K k b6;have k:=a8.o _ z;try simp only[upP]
      refine ae 8 k ?_;refine ae 9 k ?_;have a4:=f1.kept k8;have KE:=KF.trans k8;obtain⟨⟨⟨_,v0⟩,e9⟩,⟨⟨_,v1⟩,f0⟩,⟨⟨_,v2⟩,k3⟩,⟨⟨_,v3⟩,k4⟩,⟨⟨_,v4⟩,k7⟩,⟨⟨_,v5⟩,f5⟩,⟨_,v6⟩,k9⟩:=a4.row.EC;have vz:=a4.lt;refine ai 11 (λK i=>?_);go_simp
      refine af i (λh=>Nv rfl h) ?_;clear i K;refine aF ?_;go_wp2
      go_meet
      exact⟨gb,rfl,bA (g:=gb) nz [.string r.name,.bool r.over,.bool r.fail,.string r.text,.a r.at',.a r.Zq,.slice ta r.texts.length tc] 0 KE,jM.laid a4⟩
    case rest=>
     obtain⟨gb,rfl,k8,f2⟩:=hcut;obtain⟨V,rfl⟩:=aj wc;have z:=K7.trans k8;obtain⟨_,_,_,_,_,g5,_⟩:=f2.all;have gz:=f2.row.lt;obtain⟨_,Q,_⟩:=e7.o _ z;have R:=(HC.o _ (G.trans (a3.trans z))).2.2.2.2;have d7:Hid (¬Behind (W:=Kk f) bF (Qq l) (Qq L) U->gN f (Qq l) (Qq (bM f Kj)) I L0 L (m+1) b):=λh=>a2.o.skip (by rw[<-HN.o];exact h)
     clear f2 k8;go_upto_region 13 with fail
     rcases j9.o with⟨d8,hq,rfl,b1,_⟩|⟨rfl,b1⟩;rotate_left
     .have b0:=Kz b1;clear b1
      go_quiet (fail)
      go_wp2
      go_roundg (gk-1)
      case measure=>omega
      case rel=>exact⟨m+1,b,L,_,n,_,p,rfl,F3,E5,(KB.trans (Xj.ax z)).drewN nq,q.o.kept (z.drewN nq),Kz (d7.o (uS b0.o))⟩
     obtain⟨g,hg⟩:=aj (l.getD d8 Q_.zero);rw[<-hg] at b1;have b0:=Kz b1;obtain⟨hb,ho,ua,uc,rfl,f3,D,_,_⟩:=hS d8 hq;rw[<-hg] at D;have KW:=B.o.trans (G.trans (a3.trans z));have u1:=(KW.cell f3).trans (D 1 _ rfl);have u5:=(KW.cell f3).trans (D 5 _ rfl);have uz:=Mf f3 KW.size;have m5:¬(d8:Int)<0:=E5;have ql:(d8:Int)<(l.length:Int):=E5;clear b1 D hg;by_cases h1:g.Zq<r.Zq
     .go_quiet (fail)
      go_wp2
      go_roundg (gk-1)
      case measure=>omega
      case rel=>exact⟨m+1,b,L,_,n,_,p,rfl,F3,E5,(KB.trans (Xj.ax z)).drewN nq,q.o.kept (z.drewN nq),Kz (d7.o (qE J.o b0.o (by rintro (h | ⟨h,_⟩) <;> omega)))⟩
     by_cases a1:r.Zq=g.Zq
     .have l0:(r.Zq == g.Zq)=true:=by simp[a1]
      have H2:=Kz a1;clear a1;cases d9:g.over
      .rw[d9] at u1
       go_quiet (fail)
       go_wp2
       go_roundg (gk-1)
       case measure=>omega
       case rel=>exact⟨m+1,b,L,_,n,_,p,rfl,F3,E5,(KB.trans (Xj.ax z)).drewN nq,q.o.kept (z.drewN nq),Kz (d7.o (qE J.o b0.o (by have:=H2.o;rintro (h|⟨_,h,_⟩);omega;rw[d9] at h;cases h)))⟩
      .rw[d9] at u1;by_cases m6:r.Zq<20
       .go_quiet (fail)
        go_wp2
        go_roundg (gk-1)
        case measure=>omega
        case rel=>exact⟨m+1,b,L,_,n,_,p,rfl,F3,E5,(KB.trans (Xj.ax z)).drewN nq,q.o.kept (z.drewN nq),Kz (d7.o (qE J.o b0.o (by have:=H2.o;rintro (h | ⟨_,_,h⟩) <;> omega)))⟩
       .have f4:Hid (Behind (W:=Kk f) bF (Qq l) (Qq L) U):=⟨⟨r,J.o,d5.o⟩,r,g,J.o,b0.o,.inr ⟨H2.o,d9,E5⟩⟩
        go_quiet (fail)
        have M:=z.drewN nq;generalize f6:V.drewN nq=w9 at M⊢;clear f6;go_upto_region 14 with fail
        refine gY 7 d6.o (M.drew) (λk=>?_);have A:K_ w9 w9.drew:=aV w9;generalize b4:w9.drew=E at k A⊢;clear b4;refine au 0 k ?_;refine ae 4 k ?_;refine ae 5 k ?_;refine aG 6 (λK i=>?_);go_simp
        go_at_call 30
        have X:=M.trans A;refine (EU E a F f pb po n Kj (some ⟨t,v,none⟩) p L U r E5 E5 (pu S.o) (cO S.o) d2 g3 a2.o.good J.o d5.o (hN.kept (B.o.trans (G.trans (a3.trans X)))) (q.o.rns.kept X) (q.o.rts.kept X)).mono ?_;rintro e wA ⟨b8,b9,c2,c3,l1,rfl,c4,c5,c6,kA⟩;have KA:=X.trans kA;have zA:=X.size;have c7:=Kz (uJ.laid E5 (q.o.row.kept KA) c4 c5 c6);have c9:Hid (gN f (Qq l) (Qq (bM f Kj)) I L0 (doL (Kk f) L r) (m+1) true):=a2.o.did (cO S.o) (b2.o.nodup H.o.good.asc) d4 (by rw[<-HN.o];exact f4.o) (by rw[<-HN.o];exact J.o);clear c4 c5 c6 kA;obtain⟨d0,d1⟩:=aj (doL (Kk f) L r);rw[<-d1] at c7 c9⊢;clear d1;have a5:=q.o.row.kept KA;obtain⟨⟨_,x0⟩,e9⟩:=a5.row.at (i:=0) E5;obtain⟨⟨_,x1⟩,f0⟩:=a5.row.at (i:=1) E5;have l2:=a5.lt;clear a5;refine af i (λ_=>d6.o _ KA) ?_;clear i K k;refine ai 7 (λK i=>?_);go_simp
        refine af i (λh=>Nv rfl h) ?_;clear i K;refine aF ?_;go_wp2
        go_roundg (gk-1)
        case measure=>omega
        case rel=>exact⟨m+1,true,d0,b8,b9,c2,c3,rfl,F3,E5,Xj.sets (Me _) (MJ _) [.slice b8 Kj.length b9,.slice c2 d0.length c3] 0 (KB.trans (Xj.ax KA)),c7.o,c9⟩
     .have l0:(r.Zq == g.Zq)=false:=by simpa using a1
      have l3:r.Zq<g.Zq:=E5;clear a1;have f4:Hid (Behind (W:=Kk f) bF (Qq l) (Qq L) U):=⟨⟨r,J.o,d5.o⟩,r,g,J.o,b0.o,.inl l3⟩
      go_quiet (fail)
      have M:=z.drewN nq;generalize f6:V.drewN nq=w9 at M⊢;clear f6;go_upto_region 14 with fail
      refine gY 7 d6.o (M.drew) (λk=>?_);have A:K_ w9 w9.drew:=aV w9;generalize b4:w9.drew=E at k A⊢;clear b4;refine au 0 k ?_;refine ae 4 k ?_;refine ae 5 k ?_;refine aG 6 (λK i=>?_);go_simp
      go_at_call 30
      have X:=M.trans A;refine (EU E a F f pb po n Kj (some ⟨t,v,none⟩) p L U r E5 E5 (pu S.o) (cO S.o) d2 g3 a2.o.good J.o d5.o (hN.kept (B.o.trans (G.trans (a3.trans X)))) (q.o.rns.kept X) (q.o.rts.kept X)).mono ?_;rintro e wA ⟨b8,b9,c2,c3,l1,rfl,c4,c5,c6,kA⟩;have KA:=X.trans kA;have zA:=X.size;have c7:=Kz (uJ.laid E5 (q.o.row.kept KA) c4 c5 c6);have c9:Hid (gN f (Qq l) (Qq (bM f Kj)) I L0 (doL (Kk f) L r) (m+1) true):=a2.o.did (cO S.o) (b2.o.nodup H.o.good.asc) d4 (by rw[<-HN.o];exact f4.o) (by rw[<-HN.o];exact J.o);clear c4 c5 c6 kA;obtain⟨d0,d1⟩:=aj (doL (Kk f) L r);rw[<-d1] at c7 c9⊢;clear d1;have a5:=q.o.row.kept KA;obtain⟨⟨_,x0⟩,e9⟩:=a5.row.at (i:=0) E5;obtain⟨⟨_,x1⟩,f0⟩:=a5.row.at (i:=1) E5;have l2:=a5.lt;clear a5;refine af i (λ_=>d6.o _ KA) ?_;clear i K k;refine ai 7 (λK i=>?_);go_simp
      refine af i (λh=>Nv rfl h) ?_;clear i K;refine aF ?_;go_wp2
      go_roundg (gk-1)
      case measure=>omega
      case rel=>exact⟨m+1,true,d0,b8,b9,c2,c3,rfl,F3,E5,Xj.sets (Me _) (MJ _) [.slice b8 Kj.length b9,.slice c2 d0.length c3] 0 (KB.trans (Xj.ax KA)),c7.o,c9⟩
theorem dU.good{a:List Q_}(h:dU Kq Kj a):dD Kq a:=by
 obtain⟨_,_,_,k,L,c,_,_,rfl⟩:=h;exact c
def Ints(w:NI)(a:NH)(l:List Int):Prop:=∀i,i<l.length->∃b o,a=some ⟨b,o,none⟩/\b<w.heap.size/\w.cell? ⟨b,o+i,none⟩=some (.a (l.getD i 0))
theorem Ints.kept{a:NH}{l:List Int}(h:Ints w a l)(k:K_ w w'):Ints w' a l:=λi c=>by
 obtain⟨d,o,e,b,f⟩:=h i c;exact⟨d,o,e,Mf b k.size,(k.cell b).trans f⟩
theorem Tryz.zN :(prog.info? 34).map (·.size)=some 3:=F4
section
variable (W : dA) (σ : Env)
end
theorem C_{b:List Qz}{σ:Env}{n:NG}(f:bg (Kk b))(h:dm b σ)(c:bB (Kk b) σ n):dm b (doX (Kk b) σ n):=by
 obtain⟨r,c,i⟩:=c;intro m q a;rw[dV c] at a;by_cases e:m=n
 .rw[Nt e] at a;cases a;exact⟨by rw[di,e];exact (h n r c).1,dP f h (h n r c).2 i⟩
 .rw[Nu e] at a;cases d:σ m with
  | some x=>
   rw[d] at a;cases a;exact h m _ d
  | none=>
   rw[d] at a;simp only at a
   split at a
   .rename_i h2
    cases a;exact⟨rfl,gL f h2.2⟩
   .cases a
def pW(l:List NG):Prop:=l.Pairwise aR
theorem pW.nodup{l:List NG}(h:pW l):l.Nodup:=h.imp λb=>dJ b
def Jd(l:List NG)(x:NG)(r:List NG):Prop:=(x∈l/\r=l)\/(x∉l/\∃k,k<=l.length/\r=l.take k++x :: l.drop k/\(∀y∈l.take k,aR y x)/\∀y∈l.drop k,aR x y)
theorem Jd.asc{l r:List NG}{x:NG}(h:Jd l x r)(b:pW l):pW r/\∀s,s∈r↔s∈l\/s=x:=by
 rcases h with⟨e,rfl⟩|⟨e,k,n,rfl,f,i⟩
 .exact⟨b,λs=>⟨.inl,λh=>h.elim id (λj=>by rw[j];exact e)⟩⟩
 .have c:pW (l.take k++l.drop k):=by rw[Nk];exact b
  unfold pW at c⊢;rw[MK] at c⊢;refine⟨⟨c.1,NC.2 ⟨i,c.2.1⟩,λa b m d=>?_⟩,λs=>?_⟩
  .rcases Na.1 d with rfl|d
   .exact f a b
   .exact c.2.2 a b m d
  .rw[Mo,Na];constructor
   .rintro (h|h|h)
    .exact .inl (List.mem_of_mem_take h)
    .exact .inr h
    .exact .inl (List.mem_of_mem_drop h)
   .rintro (h|h)
    .rw[<-Nk k l] at h;rcases Mo.1 h with h|h
     .exact .inl h
     .exact .inr (.inr h)
    .exact .inr (.inl h)
section
variable (W : dA) (σ : Env)
def Ko(s:NG):Prop:=∃q,σ s=some q/\q.over=false
def bI(n s:NG):Prop:=∃r A,σ n=some r/\r.over=false/\r.Zq≠0/\W n=some A/\s∈(stepOf A r.at').asks/\Ko σ s
def qW(n:NG)(ns:List NG):Prop:=pW ns/\∀s,s∈ns↔bI W σ n s
def nI :Prop:=∀n r A,σ n=some r->r.over=false->r.Zq≠0->W n=some A->∀s∈(stepOf A r.at').asks,(W s).isSome=true->(σ s).isSome=true
end
theorem uw{A:fJ}{r:Q_}:(dZ A r).2= (stepOf A (dZ A r).1.at').asks:=by
 unfold dZ;simp only
 split <;> rfl
theorem Ey{W:dA}{σ:Env}{r:Q_}{A:fJ}(c:W r.name=some A)(h:aT W σ r)(a:(Xx W σ r).1.over=false):(Xx W σ r).2= (stepOf A (Xx W σ r).1.at').asks:=by
 unfold Xx at a⊢;rw[c] at a⊢;simp only at a⊢;by_cases b:r.Zq=0
 .rw[Nt b];exact uw
 .rw[Nu b] at a⊢;rcases h.2 with i|⟨l,j,d,k⟩
  .exact Nv i b
  .rw[c] at d;cases d;rw[k] at a⊢;simp only at a⊢;by_cases e:r.Zq=20
   .rw[Nt e] at a;cases a
   .rw[Nu e] at a⊢;by_cases f:(eP (stepOf A r.at') j).over=true
    .rw[Nt f] at a;cases a
    .rw[Nu f];exact uw
variable {Kq : List Qz}
theorem nI.did{σ:Env}(p:nI (Kk Kq) σ)(q:dm Kq σ){n:NG}(t:bB (Kk Kq) σ n):nI (Kk Kq) (doX (Kk Kq) σ n):=by
 obtain⟨r,b,v⟩:=t;have w:r.name=n:=(q n r b).1;intro m B A a f h i s j k;rw[dV b] at a;rw[dV b];by_cases e:s=n
 .rw[Nt e];rfl
 rw[Nu e];cases y:σ s with
 | some x=>rfl
 | none=>
  simp only;by_cases c:m=n
  .rw[Nt c] at a;cases a;subst c;have z:eH (Xx (Kk Kq) σ r).2 s=true:=by
    rw[cK,Ey (by rw[w];exact i) v f];exact j
   simp[z,k]
  .rw[Nu c] at a;cases d:σ m with
   | some x=>
    rw[d] at a;cases a;have l:=p m _ A d f h i s j k;rw[y] at l;exact Nv l E9
   | none=>
    rw[d] at a;simp only at a
    split at a
    .cases a;exact Nv rfl h
    .cases a
theorem dU.asked{Kj:List NG}{c:List Q_}(a:dU Kq Kj c):nI (Kk Kq) (Qq c):=by
 have d:=cO a.1;obtain⟨_,_,_,j,L,i,f,_,rfl⟩:=a;have h:=f.keeps (P:=λσ:Env=>dm Kq σ/\nI (Kk Kq) σ) (λσ m h e=>⟨C_ d h.1 e.1,h.2.did h.1 e.1⟩) ⟨(fZ d Kj).env,λn r A b k a=>by
  rw[gP] at b
  split at b
  .cases b;exact Nv rfl a
  .cases b⟩
 exact h.2
theorem BK{σ:Env}(m:dm Kq σ)(x:nI (Kk Kq) σ){n:NG}{r:Q_}(d:σ n=some r)(s:NG):s∈pend (Kk Kq) σ r↔bI (Kk Kq) σ n s:=by
 obtain⟨j,hgd⟩:=m n r d;obtain⟨A,b,_⟩:=hgd.act;rw[j] at b;unfold pend;constructor
 .intro h
  split at h
  .cases h
  .rename_i h0
   rw[j,b] at h;simp only[List.mem_filter] at h;obtain⟨e,a⟩:=h;have f:r.over=false:=by
    cases y:r.over
    .rfl
    .exact Nv (.inl y) h0
   have i:r.Zq≠0:=λz=>h0 (.inr z)
   refine⟨r,A,d,f,i,b,e, ?_⟩;unfold bH at a;cases k:Kk Kq s with
   | none=>rw[k] at a;cases a
   | some B=>
    rw[k] at a;simp only at a;have p:=x n r A d f i b s e (by rw[k];rfl);cases l:σ s with
    | none=>rw[l] at p;cases p
    | some q=>
     rw[l] at a;simp only at a;cases c:q.over
     .exact⟨q,l,c⟩
     .rw[Nt c] at a;cases a
 .rintro⟨F,G,t,f,i,v,e,q,c,C⟩;rw[d] at t;cases t;rw[b] at v;cases v;rw[Nu (by rw[f];simp[i]),j,b];simp only[List.mem_filter];refine⟨e, ?_⟩;obtain⟨D,E⟩:=m s q c;obtain⟨B,w,_⟩:=E.act;rw[D] at w;unfold bH;rw[w,c];simp[C]
theorem qW.len(i:bg (Kk Kq)){σ:Env}(j:dm Kq σ){n:NG}{b:List NG}(h:qW (Kk Kq) σ n b):b.length<=5:=by
 cases d:b with
 | nil=>simp
 | cons x l=>
  obtain⟨r,A,e,_,_,c,_⟩:=(h.2 x).1 (by rw[d];simp);obtain⟨k,hgd⟩:=j n r e;obtain⟨m,a,p,q⟩:=hgd.act;rw[k,c] at a;cases a;have w:=(ib (i n A c).1 p q).1;have:=List.Nodup.length_le_of_subset h.1.nodup (l₂:=(stepOf A r.at').asks) (λs t=>by
   obtain⟨y,m,f,_,_,a,v,_⟩:=(h.2 s).1 t;rw[e] at f;cases f;rw[c] at a;cases a;exact v)
  rw[<-d];omega
structure iR (E:NG->NG->Prop) (nm:List NG):Prop where
 asc:pW nm
 all:∀x y,E x y->x∈nm
def dG(E:NG->NG->Prop)(nm:List NG)(p q:Nat):Prop:=∃(hp:p<nm.length) (hq:q<nm.length),E nm[p] nm[q]
variable {best : List Nat} {n p : Nat}
section
variable {E : NG -> NG -> Prop} {nm : List NG}
theorem iR.less(h:iR E nm){q:Nat}(a:p<nm.length)(b:q<nm.length):aR nm[p] nm[q]↔p<q:=by
 have c:=Mr.1 h.asc;constructor
 .intro d;rcases Ns p q with e|e|e
  .exact e
  .subst e;exact Nv d (aX _)
  .exact Nv d (eQ (c q p b a e))
 .exact c p q a b
theorem iR.inj(h:iR E nm){q:Nat}(b:p<nm.length)(c:q<nm.length)(e:nm[p]=nm[q]):p=q:=by
 rcases Ns p q with g|g|g
 .have:=(h.less b c).2 g;rw[e] at this;exact Nv this (aX _)
 .exact g
 .have:=(h.less c b).2 g;rw[e] at this;exact Nv this (aX _)
theorem iR.place(h:iR E nm){x y:NG}(b:E x y):∃(p:Nat) (hp:p<nm.length),nm[p]=x:=Ms (h.all x y b)
theorem uV{q:Nat}(h:aZ (dG E nm) n p q)(c:p<nm.length):∃b:q<nm.length,aZ E n nm[p] nm[q]:=by
 induction h with
 | here a=>exact⟨c,.here _⟩
 | step h _ ih=>
  obtain⟨_,d,e⟩:=h;obtain⟨b,f⟩:=ih d;exact⟨b,.step e f⟩
theorem iR.back(h:iR E nm):∀{n:Nat} {p q:Nat} (b:p<nm.length) (a:q<nm.length),aZ E n nm[p] nm[q]->aZ (dG E nm) n p q:=by
 intro n
 induction n with
 | zero=>intro p q b a c;rw[h.inj b a c.zero];exact .here q
 | succ n ih=>
  intro p q b a c;obtain⟨i,j,d⟩:=c.first
  have:∃(r:Nat) (f:r<nm.length),nm[r]=i:=by
   cases n with
   | zero=>exact⟨q,a,d.zero.symm⟩
   | succ m=>
    obtain⟨l,k,_⟩:=d.first
    exact h.place k
  obtain⟨r,f,rfl⟩:=this;exact .step ⟨b,f,j⟩ (ih f a d)
theorem iR.far(h:iR E nm){q:Nat}(b:p<nm.length)(e:q<nm.length):Far (dG E nm) q n p↔Far E nm[q] n nm[p]:=by
 constructor
 .intro a;exact⟨(uV a.1 b).2,λm c d=>a.2 m c (h.back b e d)⟩
 .intro a;exact⟨h.back b e a.1,λm c d=>a.2 m c (uV d b).2⟩
def Ae(p:Nat->Prop)(x:Nat):Prop:=p x/\∀y,p y->x<=y
inductive lD (R:Nat->Nat->Prop) (t:Nat):Nat->Nat->List Nat->Prop
 | stop (a:Nat):lD R t 1 a [a]
 | step {n:Nat} {a x:Nat} {l:List Nat} (h:Ae (λy=>R a y/\Far R t n y) x) (r:lD R t n x l):lD R t (n+1) a (a :: l)
def nameOf(nm:List NG)(p:Nat):NG:=nm.getD p ByteArray.empty
theorem tO(a:p<nm.length):nameOf nm p=nm[p]:=by simp[nameOf,List.getD,a]
theorem lD.names(h:iR E nm){t:Nat}(f:t<nm.length){a:Nat}{l:List Nat}(i:lD (dG E nm) t n a l)(b:a<nm.length):yY E nm[t] n nm[a] (l.map (nameOf nm)):=by
 induction i with
 | stop a=>rw[List.map_cons,List.map_nil,tO b];exact .stop _
 | @step n a x l hl r ih=>
  obtain⟨⟨⟨_,c,j⟩,k⟩,p⟩:=hl;rw[List.map_cons,tO b];refine .step ⟨⟨j,(h.far c f).1 k⟩,λy d q=>?_⟩ (ih c);have w:1<=n:=by cases r <;> omega
  obtain⟨m,rfl⟩:∃m,n=m+1:=⟨n-1,E5⟩;obtain⟨z,s,_⟩:=d.2.next;obtain⟨v,e,rfl⟩:=h.place s;have A:=p v ⟨⟨b,e,d.1⟩,(h.far e f).2 d.2⟩;have B:=(h.less e c).1 q;omega
def ll(R:Nat->Nat->Prop)(t n:Nat):Prop:=1<=n/\aZ R n t t/\∀m,1<=m->m<n->¬aZ R m t t
structure jm (R:Nat->Nat->Prop) (k:Nat) (best:List Nat):Prop where
 no:best=[]->∀t,t<k->∀n,¬ll R t n
 yes:best≠[]->∃t n,t<k/\ll R t n/\lD R t n t best/\best.length=n/\(∀h,h<k->∀j,ll R h j->n<=j/\(h<t->n<j))
theorem jm.start(R:Nat->Nat->Prop):jm R 0 []:=⟨λ_ _t a=>aO a,λh=>Nv rfl h⟩
theorem ll.unique{R:Nat->Nat->Prop}{t m:Nat}(h:ll R t n)(g:ll R t m):n=m:=by
 rcases Ns n m with e|e|e
 .exact Nv h.2.1 (g.2.2 n h.1 e)
 .exact e
 .exact Nv g.2.1 (h.2.2 m g.1 e)
theorem jm.skip{R:Nat->Nat->Prop}{k:Nat}(h:jm R k best)(a:∀n,ll R k n->best≠[]/\best.length<=n):jm R (k+1) best:=by
 refine⟨λe t m n b=>?_,λe=>?_⟩
 .by_cases g:t=k
  .subst g;exact (a n b).1 e
  .exact h.no e t E5 n b
 .obtain⟨t,n,p,d,f,i,l⟩:=h.yes e;refine⟨t,n,E5,d,f,i,λq r j c=>?_⟩;by_cases g:q=k
  .subst g;have:=(a j c).2;exact⟨E5,λs=>E5⟩
  .exact l q E5 j c
theorem jm.take{R:Nat->Nat->Prop}{k:Nat}{l:List Nat}(h:jm R k best)(c:ll R k n)(d:lD R k n k l)(f:l.length=n)(a:best=[]\/n<best.length):jm R (k+1) l:=by
 have i:l≠[]:=by cases d <;> simp
 refine⟨λe=>Nv e i,λ_=>⟨k,n,E5,c,d,f,λq p j b=>?_⟩⟩;by_cases g:q=k
 .subst g;have:=c.unique b;exact⟨E5,λr=>E5⟩
 .rcases a with rfl|a
  .exact Nv b (h.no rfl q E5 j)
  .obtain⟨t,s,v,w,x,y,m⟩:=h.yes (by intro e;rw[e] at a;simp at a);have:=(m q E5 j b).1;exact⟨E5,λ_=>E5⟩
theorem jm.Lm(h:iR E nm)(j:jm (dG E nm) nm.length best):yK E (best.map (nameOf nm)):=by
 have l:∀x n,1<=n->aZ E n x x->∃(p:Nat) (a:p<nm.length),nm[p]=x:=λx n f c=>by
  obtain⟨m,rfl⟩:∃m,n=m+1:=⟨n-1,E5⟩;obtain⟨b,j,_⟩:=c.first
  exact h.place j
 have q:∀n p (a:p<nm.length),1<=n->aZ E n nm[p] nm[p]->∃m,m<=n/\ll (dG E nm) p m:=by
  intro n
  induction n using Nat.strongRecOn with
  | ind n ih=>
   intro p a f c;by_cases d:∃m,1<=m/\m<n/\aZ (dG E nm) m p p
   .obtain⟨m,i,e,r⟩:=d;obtain⟨z,G,A⟩:=ih m e p a i (uV r a).2;exact⟨z,E5,A⟩
   .exact⟨n,Me _,f,h.back a a c,λm i e r=>d ⟨m,i,e,r⟩⟩
 by_cases s:best=[]
 .refine .inl ⟨λx n f c=>?_,by rw[s];rfl⟩;obtain⟨p,a,rfl⟩:=l x n f c;obtain⟨m,_,d⟩:=q n p a f c;exact j.no s p a m d
 .obtain⟨B,n,k,d,C,_,t⟩:=j.yes s;refine .inr ⟨n,nm[B],d.1,λx v w c=>?_,⟨(uV d.2.1 k).2,λD y F=>?_⟩,C.names h k k⟩
  .obtain⟨p,a,rfl⟩:=l x v w c;obtain⟨m,i,e⟩:=q v p a w c;have:=(t p a m e).1;omega
  .obtain⟨p,a,rfl⟩:=l D n d.1 y;obtain⟨m,i,e⟩:=q n p a d.1 y;have:=(t p a m e).2 ((h.less a k).1 F);omega
end
section
variable (E : NG -> NG -> Prop) (g : NG)
def dX(b:Nat)(x:NG)(v:Nat):Prop:=(aR x g->v=0)/\(¬aR x g->(v≠0->d_ E g v x/\v<b)/\∀m,m<b->d_ E g m x->v=m)
end
variable {x : NG} {n : Nat}
section
variable {E : NG -> NG -> Prop} {g : NG}
theorem dX.start :dX E g 1 x 0:=⟨λ_=>rfl,λ_=>⟨λh=>Nv rfl h,λm d b=>by have:=b.1.pos;omega⟩⟩
theorem dX.keep{v:Nat}(h:dX E g n x v)(a:v≠0\/aR x g):dX E g (n+1) x v:=by
 refine⟨h.1,λb=>?_⟩;rcases a with a | a
 .obtain⟨d,f⟩:=h.2 b;obtain⟨c,i⟩:=d a;exact⟨λ_=>⟨c,E5⟩,λm _ e=>c.unique e⟩
 .exact Nv a b
def Hit(E:NG->NG->Prop)(g:NG)(n:Nat)(x s:NG):Prop:=E x s/\((n=1/\s=g)\/(1<n/\aR g s/\d_ E g (n-1) s))
theorem EF(h:1<=n)(f:∀m,m<n->¬d_ E g m x):(∃s,Hit E g n x s)↔d_ E g n x:=by
 rcases Nat.lt_or_ge 1 n with d|d
 .obtain⟨q,rfl⟩:∃q,n=q+1:=⟨n-1,E5⟩;rw[d_.succ E5];constructor
  .rintro⟨s,a,⟨b,_⟩|⟨_,b,c⟩⟩
   .omega
   .exact⟨⟨s,a,b,by simpa using c⟩,λm i=>f m E5⟩
  .rintro⟨⟨s,a,b,c⟩,_⟩;exact⟨s,a,.inr ⟨d,b,by simpa using c⟩⟩
 .have:n=1:=E5;subst this;rw[d_.one];constructor
  .rintro⟨s,a,⟨_,rfl⟩|⟨b,_⟩⟩
   .exact a
   .omega
  .intro a;exact⟨g,a,.inl ⟨rfl,rfl⟩⟩
theorem dX.hit(d:1<=n)(h:dX E g n x 0)(c:¬aR x g)(e:∃s,Hit E g n x s):dX E g (n+1) x n:=by
 have f:∀m,m<n->¬d_ E g m x:=λm b a=>by
  have:=(h.2 c).2 m b a;have:=a.1.pos;omega
 have a:=(EF d f).1 e;exact⟨λi=>Nv i c,λ_=>⟨λ_=>⟨a,E5⟩,λm _ b=>a.unique b⟩⟩
theorem dX.miss(d:1<=n)(h:dX E g n x 0)(f:¬aR x g)(i:¬∃s,Hit E g n x s):dX E g (n+1) x 0:=by
 have b:∀m,m<n->¬d_ E g m x:=λm c a=>by
  have:=(h.2 f).2 m c a;have:=a.1.pos;omega
 refine⟨λ_=>rfl,λ_=>⟨λe=>Nv rfl e,λm c a=>?_⟩⟩;rcases Nat.lt_or_ge m n with e | e
 .exact Nv a (b m e)
 .have:m=n:=E5;subst this;exact Nv ((EF d b).2 a) i
theorem dX.ask{b:Nat}{s:NG}{v:Nat}(h:dX E g b s v)(c:aR g s)(d:1<n)(f:n<=b):v=n-1↔d_ E g (n-1) s:=by
 have a:¬aR s g:=eQ c;constructor
 .intro e;have:=((h.2 a).1 E5).1;rw[e] at this;exact this
 .exact (h.2 a).2 (n-1) E5
theorem dX.whole{names:List NG}(d:∀x y,E x y->x∈names){v:Nat}(h:dX E g (names.length+1) x v)(b:¬aR x g):(v≠0->d_ E g v x)/\(∀m,d_ E g m x->v=m):=
 ⟨λe=>((h.2 b).1 e).1,λm c=>(h.2 b).2 m (by have:=c.bound d;omega) c⟩
theorem jo.start(E:NG->NG->Prop):jo E [] []:=⟨λ_ g h=>(by cases h),λh=>Nv rfl h⟩
theorem lN.len{a:NG}{l:List NG}(h:lN E g n a l):l.length=n:=by
 induction h with
 | stop=>rfl
 | step _ _ ih=>simp[ih]
theorem jo.skip{b a:List NG}(h:jo E b a){g:NG}(d:∀n,d_ E g n g->a≠[]/\a.length<=n)(l:∀x∈b,aR x g):jo E (b++ [g]) a:=by
 refine⟨λe x c n f=>?_,λe=>?_⟩
 .rcases Mo.1 c with q|q
  .exact h.no e x q n f
  .rw[Mm] at q;subst q;exact (d n f).1 e
 .obtain⟨t,n,i,m,p,r,s⟩:=h.yes e;refine⟨t,n,Mo.2 (.inl i),m,p,r,λx c j k=>?_⟩;rcases Mo.1 c with q | q
  .exact s x q j k
  .rw[Mm] at q;subst q;have:=(d j k).2;exact⟨E5,λv=>Nv v (eQ (l t i))⟩
theorem jo.take{h c l:List NG}(i:jo E h c){g:NG}(d:d_ E g n g)(j:lN E g n g l)(b:c=[]\/n<c.length):jo E (h++ [g]) l:=by
 have a:=j.len;have p:l≠[]:=λe=>by rw[e] at a;have:=d.1.pos;simp at a;omega
 refine⟨λe=>Nv e p,λ_=>⟨g,n,Mo.2 (.inr E9),d,j,a,λx r k f=>?_⟩⟩;rcases Mo.1 r with q | q
 .rcases b with rfl|b
  .exact Nv f (i.no rfl x q k)
  .obtain⟨t,m,v,w,y,z,s⟩:=i.yes (by intro e;rw[e] at b;simp at b);have:=(s x q k f).1;exact⟨E5,λ_=>E5⟩
 .rw[Mm] at q;subst q;have:=d.unique f;exact⟨E5,λa=>Nv a (aX _)⟩
end
variable {l : List NG}
section
variable {E : NG -> NG -> Prop} {g : NG}
structure nR (E:NG->NG->Prop) (g:NG) (n:Nat) (l:List NG) (a:NG) (q:Nat):Prop where
 len:l.length+q=n+1
 pos:1<=q
 far:d_ E g q a
 last:∃l0,l=l0++ [a]
 rest:∀r,lN E g q a r->lN E g n g (l.dropLast++r)
theorem nR.start{n:Nat}(h:d_ E g n g):nR E g n [g] g n:=
 ⟨F6,h.1.pos,h,⟨[],rfl⟩,λr b=>b⟩
theorem nR.next{n q:Nat}{a x:NG}(h:nR E g n l a (q+1))(f:1<=q)(c:lV (λy=>E a y/\aR g y/\d_ E g q y) x):nR E g n (l++ [x]) x q:=by
 obtain⟨j,d⟩:=h.last;refine⟨by have:=h.len;rw[MU];simp;omega,f,c.1.2.2,⟨l,rfl⟩,λr i=>?_⟩;have e:=h.rest (a :: r) (lN.step c i);rw[List.dropLast_concat];rw[d,List.dropLast_concat] at e;rw[d,List.append_assoc];exact e
theorem nR.done{n:Nat}{a:NG}(h:nR E g n l a 1):lN E g n g l:=by
 obtain⟨e,c⟩:=h.last;have d:=h.rest [a] (lN.stop a);rw[c,List.dropLast_concat] at d;rw[c];exact d
theorem nR.more{n q:Nat}{a:NG}(h:nR E g n l a (q+1))(c:1<=q):∃y,E a y/\aR g y/\d_ E g q y:=((d_.succ c).1 h.far).1
theorem BV{p:NG->Prop}(d:pW l)(e:∀y,p y->y∈l){k:Nat}(f:k<l.length)(h:p l[k])(i:∀y∈l.take k,¬p y):lV p l[k]:=by
 refine⟨h,λy a b=>?_⟩;obtain⟨j,m,rfl⟩:=Ms (e y a);rcases Ns j k with c | rfl | c
 .exact i l[j] (by rw[List.mem_take_iff_getElem];exact⟨j,E5,rfl⟩) a
 .exact aX _ b
 .exact eQ b (Mr.1 d k j f m c)
end
theorem Ej(w:NI)(j:NH)(m:Nat)(a:List Int)(n:Int)(i:Nat)(r:n= (i:Int))(hi:i<=1048576)(y:a.length<=1048576)(_hp64:∀p∈a,In64 p)(s:Ints w j a):
  Calls prog 58 #[.slice j a.length m,.a n] w λe w'=>e= .returned (.a (jh a i))/\K_ w w':=by
 subst r;go_enter func58,ntmps58
 by_cases b:a.length=0
 .have t:((a.length:Int) == 0)=true:=by simpa using b
  have c:Hid (jh a i=0):=by show jh a i=0;unfold jh;rw[Nt (Mw.1 b)]
  clear b;go_wp2
  go_ret
  exact⟨by rw[c.o];rfl,K_.refl _⟩
 obtain⟨d,f⟩:=aj (i % a.length);have v:d<a.length:=by rw[f];exact Nat.mod_lt _ E5
 have z:(i:Int).tmod (a.length:Int)= (d:Int):=by rw[Int.tmod_eq_emod_of_nonneg E5,f,Int.natCast_emod]
 obtain⟨A,B,rfl,C,x⟩:=s d v;obtain⟨q,h⟩:=aj (a.getD d 0);rw[<-h] at x;have t:((a.length:Int) == 0)=false:=by simpa using b
 have D:(d:Int)<(a.length:Int):=E5;have E:¬(a.length:Int)=0:=E5;have k:Hid (jh a i=if q<0 then 0 else q):=by
  show jh a i=if q<0 then 0 else q
  unfold jh;rw[Nu (λe=>b (by rw[e];rfl)),<-f,<-h]
 clear f h b;by_cases l:q<0
 .have c:Hid (jh a i=0):=by show jh a i=0;rw[k.o,Nt l]
  go_wp2
  go_ret
  exact⟨by rw[c.o];rfl,K_.refl _⟩
 .have c:Hid (jh a i=q):=by show jh a i=q;rw[k.o,Nu l]
  go_wp2
  all_goals go_ret
  all_goals first | exact⟨by rw[c.o];rfl,K_.refl _⟩ | exact⟨uX (by rw[c.o];omega),K_.refl _⟩
theorem BC(w:NI)(x y:NG):Calls prog 136 #[.string x,.string y] w λe w'=>e= .returned (.bool (Op.bytesLess x.toList y.toList))/\w'=w:=by
 cases a:Op.bytesLess x.toList y.toList
 all_goals
  go_enter func136,ntmps136
  go_wp2
  go_ret
  exact⟨rfl,rfl⟩
theorem yo(w:NI)(x:NG):Calls prog 137 #[.string x] w λe w'=>e= .returned (.bool false)/\w'=w:=by
 go_enter func137,ntmps137
 go_wp2
 go_ret
 exact⟨rfl,rfl⟩
def qG(l:List NG)(s:NG)(e:Ending):Prop:=∃(k:Nat) (b:Bool),e= .returned (.tuple #[.a (k:Int),.bool b])/\(b=true->k<l.length/\l.getD k ByteArray.empty=s)/\(b=false->s∉l)
theorem qG.mk{l:List NG}{s:NG}{e:Ending}(k:Nat)(b:Bool)(h:e= .returned (.tuple #[.a (k:Int),.bool b]))(c:b=true->k<l.length/\l.getD k ByteArray.empty=s)(h2:b=false->s∉l):qG l s e:=⟨k,b,h,c,h2⟩
theorem BD(w:NI)(a:NH)(Q:Nat)(l:List NG)(s:NG)(W:l.length<=1048576)(D:pW l)(E:Strs w a l):
  Calls prog 90 #[.slice a l.length Q,.string s] w fun e w'=>qG l s e/\w'=w:=by
 have v:Hid (∀p q,p<q->q<l.length->aR (l.getD p ByteArray.empty) (l.getD q ByteArray.empty)):=fun p q n c=>by
  have:=Mr.1 D p q (by omega) c n;simpa[List.getD,c,show p<l.length by omega] using this
 clear D;go_enter func90,ntmps90
 go_wp2
 go_loopw [7,8] (fun x y wr=>∃i j:Nat,x= .int .i64 i/\y= .int .i64 j/\i<=j/\j<=l.length/\Hid (∀t,t<i->aR (l.getD t ByteArray.empty) s)/\Hid (∀t,j<=t->t<l.length->¬aR (l.getD t ByteArray.empty) s)/\wr=w) (fun x y _=>(intOf y).toNat-(intOf x).toNat)
 case atStart=>exact⟨0,l.length,rfl,rfl,Mg _,Me _,Kz (fun t F=>aO F),Kz (fun t n c=>by omega),rfl⟩
 case round=>
  obtain⟨i,j,rfl,rfl,X,R,G,H,rfl⟩:=hrel;by_cases Y:(i:Int)<j
  ·obtain⟨h,I⟩:∃h:Nat,h= (i+j) / 2:=⟨_,rfl⟩;have J:h<l.length:=by omega
   have S:i<=h:=by omega
   have Z:h<j:=by omega
   obtain⟨b,o,rfl,T,r⟩:=E h J;obtain⟨d,f⟩:=aj (l.getD h ByteArray.empty);rw[<-f] at r;have k:=Kz f;clear f;have a0:((i:Int)+ (j:Int)) / 2= (h:Int):=by omega
   have HH:=Kz I;clear I;go_wp2_with fail
   refine (BC _ d s).mono ?_;rintro e U ⟨rfl,rfl⟩;clear r;cases K:Op.bytesLess d.toList s.toList
   ·go_wp2
    go_roundw
    case rel=>
     refine⟨i,h,rfl,by go_num,S,by omega,G,Kz (fun t n c L=>?_),trivial⟩;have M:¬aR (l.getD h ByteArray.empty) s:=fun g=>by rw[<-k.o] at g;unfold aR at g;rw[K] at g;cases g
     rcases Nat.lt_or_ge h t with e|e
     ·exact M (fU (v.o h t e c) L)
     ·have:t=h:=by omega
      subst this;exact M L
    case measure=>simp[intOf];omega
   ·go_wp2
    go_roundw
    case rel=>
     refine⟨h+1,j,by go_num,rfl,by omega,R,Kz (fun t F=>?_),H,trivial⟩;have N:aR (l.getD h ByteArray.empty) s:=by rw[<-k.o];exact K
     rcases Nat.lt_or_ge t h with e|e
     ·exact fU (v.o t h e J) N
     ·have:t=h:=by omega
      subst this;exact N
    case measure=>simp[intOf];omega
  ·have V:i=j:=by omega
   subst V;have O:Hid (s∈l->i<l.length/\l.getD i ByteArray.empty=s):=fun m=>by
    obtain⟨q,z,e⟩:=Ms m;have A:l.getD q ByteArray.empty=s:=by simpa[List.getD,z] using e
    have n:¬q<i:=fun g=>by have:=G.o q g;rw[A] at this;exact aX _ this
    have c:q=i:=by
     rcases Nat.lt_or_ge i q with g|g
     ·have P:=v.o i q g z;rw[A] at P;exact Nv P (H.o i (Me _) (by omega))
     ·omega
    subst c;exact⟨z,A⟩
   by_cases B:i<l.length
   ·obtain⟨b,o,rfl,T,r⟩:=E i B;obtain⟨d,f⟩:=aj (l.getD i ByteArray.empty);rw[<-f] at r;have k:=Kz f;clear f;have a1:(i:Int)<(l.length:Int):=by omega
    cases C:(d.toList == s.toList)
    ·go_wp2_with (first | (go_at_call 137;refine (yo _ _).mono ?_;rintro e U ⟨rfl,rfl⟩))
     go_ret2
     exact⟨qG.mk i false rfl (fun h=>by cases h) (fun _ m=>by
      have c:=(O.o m).2;rw[<-k.o] at c;rw[c] at C;simp at C),rfl⟩
    ·go_wp2
     go_ret2
     exact⟨qG.mk i true rfl (fun _=>⟨B,by rw[<-k.o];exact fA C⟩) (fun h=>by cases h),rfl⟩
   ·go_wp2
    go_ret2
    exact⟨qG.mk i false rfl (fun h=>by cases h) (fun _ m=>B (O.o m).1),rfl⟩
structure gH (E:NG->NG->Prop) (nm:List NG) (k:Nat) (S:List NG) (j M:Nat) (need back:Nat->List Nat):Prop where
 fwd:∀p q,q∈need p↔(p<k/\dG E nm p q)\/(p=k/\∃hq:q<nm.length,nm[q]∈S.take j)
 bwd:∀p q,p∈back q↔(p<k/\dG E nm p q)\/(p=k/\∃hq:q<nm.length,nm[q]∈S.take j)
 asc:∀p,(need p).Pairwise (· <= ·)
 len:∀p,(need p).length<=M/\(back p).length<=M
structure Cz (E:NG->NG->Prop) (nm:List NG) (M:Nat) (need back:Nat->List Nat):Prop where
 fwd:∀p q,q∈need p↔dG E nm p q
 bwd:∀p q,p∈back q↔dG E nm p q
 asc:∀p,(need p).Pairwise (· <= ·)
 len:∀p,(need p).length<=M/\(back p).length<=M
section
variable {E : NG -> NG -> Prop} {nm S : List NG} {k j M : Nat} {need back : Nat -> List Nat}
theorem gH.start(E:NG->NG->Prop)(c S:List NG):gH E c 0 S 0 0 (λ_=>[]) (λ_=>[]):=
 ⟨λp q=>E9,λp q=>E9,λp=>List.Pairwise.nil,λp=>⟨Me _,Me _⟩⟩
theorem gH.enter(h:gH E nm k S 0 M need back)(b:List NG):gH E nm k b 0 M need back:=
 ⟨λp q=>by rw[h.fwd];simp,λp q=>by rw[h.bwd];simp,h.asc,h.len⟩
theorem gH.leave(h:gH E nm k S j M need back)(f:k<nm.length)(i:S.length<=j)(c:∀y,y∈S↔E nm[k] y):gH E nm (k+1) [] 0 M need back:=by
 have d:∀p q,(p<k/\dG E nm p q)\/(p=k/\∃b:q<nm.length,nm[q]∈S.take j)↔(p<k+1/\dG E nm p q)\/(p=k+1/\∃b:q<nm.length,nm[q]∈([]:List NG).take 0):=λp q=>by
  rw[MO i];constructor
  .rintro (⟨l,a⟩|⟨rfl,b,a⟩)
   .exact .inl ⟨E5,a⟩
   .exact .inl ⟨E5,f,b,(c _).1 a⟩
  .rintro (⟨l,m,b,a⟩|⟨_,_,a⟩)
   .by_cases e:p=k
    .subst e;exact .inr ⟨rfl,b,(c _).2 a⟩
    .exact .inl ⟨E5,m,b,a⟩
   .simp at a
 exact⟨λp q=>(h.fwd p q).trans (d p q),λp q=>(h.bwd p q).trans (d p q),h.asc,h.len⟩
theorem gH.skip(h:gH E nm k S j M need back)(e:j<S.length)(f:S[j]∉nm):gH E nm k S (j+1) M need back:=by
 have d:∀q:Nat,(∃a:q<nm.length,nm[q]∈S.take j)↔∃a:q<nm.length,nm[q]∈S.take (j+1):=λq=>by
  rw[Ml e];constructor
  .rintro⟨a,c⟩;exact⟨a,Mo.2 (.inl c)⟩
  .rintro⟨a,c⟩;rcases Mo.1 c with b|b
   .exact⟨a,b⟩
   .rw[Mm] at b;exact Nv (by rw[<-b];exact Mq a) f
 exact⟨λp q=>by rw[h.fwd,d],λp q=>by rw[h.bwd,d],h.asc,h.len⟩
theorem gH.put(m:iR E nm)(h:gH E nm k S j M need back)(n:j<S.length)(v:S.Pairwise λa b=>¬aR b a){q:Nat}(i:q<nm.length)(l:nm[q]=S[j])(C:k<nm.length)(D:∀y∈S,E nm[k] y):
  gH E nm k S (j+1) (M+1) (λp=>if p=k then need k++ [q] else need p) (λp=>if p=q then back q++ [k] else back p):=by
 have s:∀r:Nat,(∃f:r<nm.length,nm[r]∈S.take (j+1))↔(∃f:r<nm.length,nm[r]∈S.take j)\/r=q:=λr=>by
  rw[Ml n];constructor
  .rintro⟨f,d⟩;rcases Mo.1 d with c|c
   .exact .inl ⟨f,c⟩
   .rw[Mm,<-l] at c;exact .inr (m.inj f i c)
  .rintro (⟨f,d⟩|rfl)
   .exact⟨f,Mo.2 (.inl d)⟩
   .exact⟨i,Mo.2 (.inr (by rw[l];simp))⟩
 refine⟨λp r=>?_,λp r=>?_,λp=>?_,λp=>⟨?_, ?_⟩⟩
 .rw[s];by_cases e:p=k
  .subst e;simp only[if_true,Mo,Mm,h.fwd];constructor
   .rintro ((⟨d,c⟩|⟨_,c⟩) | c)
    .exact .inl ⟨d,c⟩
    .exact .inr ⟨trivial,.inl c⟩
    .exact .inr ⟨trivial,.inr c⟩
   .rintro (⟨d,c⟩|⟨_,c|c⟩)
    .exact .inl (.inl ⟨d,c⟩)
    .exact .inl (.inr ⟨trivial,c⟩)
    .exact .inr c
  .show (r∈if p=k then need k++ [q] else need p)↔_;rw[Nu e,h.fwd];simp only[e,false_and,or_false]
 .rw[s];by_cases e:r=q
  .subst e;simp only[if_true,Mo,Mm,h.bwd];constructor
   .rintro ((d|⟨d,c⟩) | d)
    .exact .inl d
    .exact .inr ⟨d,.inl c⟩
    .exact .inr ⟨d,.inr trivial⟩
   .rintro (d|⟨d,c|_⟩)
    .exact .inl (.inl d)
    .exact .inl (.inr ⟨d,c⟩)
    .exact .inr d
  .show (p∈if r=q then back q++ [k] else back r)↔_;rw[Nu e,h.bwd];simp only[e,or_false]
 .by_cases e:p=k
  .subst e;simp only[if_true];rw[MK];refine⟨h.asc p,E9,λa w b t=>?_⟩;rw[Mm] at t;subst t;rcases (h.fwd p a).1 w with⟨d,_⟩ | ⟨_,x,c⟩
   .omega
   .obtain⟨z,F,A⟩:=List.mem_take_iff_getElem.1 c;have B:=Mr.1 v z j E5 n E5;rw[A,<-l,m.less i x] at B;omega
  .simp only[Nu e];exact h.asc p
 .by_cases e:p=k
  .simp only[e,if_true,MU,NB];have:=(h.len k).1;omega
  .simp only[Nu e];have:=(h.len p).1;omega
 .by_cases e:p=q
  .simp only[e,if_true,MU,NB];have:=(h.len q).2;omega
  .simp only[Nu e];have:=(h.len p).2;omega
theorem gH.whole(h:gH E nm nm.length [] 0 M need back):Cz E nm M need back:=by
 have e:∀p q,(p<nm.length/\dG E nm p q)\/(p=nm.length/\∃hq:q<nm.length,nm[q]∈([]:List NG).take 0)↔dG E nm p q:=λp q=>by
  constructor
  .rintro (⟨_,c⟩|⟨_,_,c⟩)
   .exact c
   .simp at c
  .intro c;exact .inl ⟨c.1,c⟩
 exact⟨λp q=>(h.fwd p q).trans (e p q),λp q=>(h.bwd p q).trans (e p q),h.asc,h.len⟩
end
section
variable {R : Nat -> Nat -> Prop} {t : Nat}
structure pY (R:Nat->Nat->Prop) (t n:Nat) (l:List Nat) (a q:Nat):Prop where
 len:l.length+q=n+1
 pos:1<=q
 more:2<=q->∃y,R a y/\Far R t (q-1) y
 last:∃l0,l=l0++ [a]
 rest:∀r,lD R t q a r->lD R t n t (l.dropLast++r)
theorem pY.start{n:Nat}(h:ll R t n):pY R t n [t] t n:=by
 refine⟨F6,h.1,λe=>?_,⟨[],rfl⟩,λr b=>b⟩;obtain⟨m,rfl⟩:∃m,n=m+1:=⟨n-1,E5⟩;obtain⟨y,a,c⟩:=h.2.1.first
 refine⟨y,a,c,λi f d=>h.2.2 (i+1) E5 E5 (.step a d)⟩
theorem pY.next{n q a x:Nat}{l:List Nat}(h:pY R t n l a (q+1))(e:1<=q)(b:Ae (λy=>R a y/\Far R t q y) x):pY R t n (l++ [x]) x q:=by
 obtain⟨i,c⟩:=h.last;refine⟨by have:=h.len;rw[MU];simp;omega,e,λj=>?_,⟨l,rfl⟩,λr f=>?_⟩
 .obtain⟨m,rfl⟩:∃m,q=m+1:=⟨q-1,E5⟩;exact b.1.2.next
 .have d:=h.rest (a :: r) (lD.step b f);rw[List.dropLast_concat];rw[c,List.dropLast_concat] at d;rw[c,List.append_assoc];exact d
theorem pY.done{n a:Nat}{l:List Nat}(h:pY R t n l a 1):lD R t n t l:=by
 obtain⟨e,c⟩:=h.last;have d:=h.rest [a] (lD.stop a);rw[c,List.dropLast_concat] at d;rw[c];exact d
theorem Ay{p:Nat->Prop}{l:List Nat}(d:l.Pairwise (· <= ·))(e:∀y,p y->y∈l){k:Nat}(f:k<l.length)(h:p l[k])(i:∀j (a:j<l.length),j<k->¬p l[j]):Ae p l[k]:=by
 refine⟨h,λy c=>?_⟩;obtain⟨j,a,rfl⟩:=Ms (e y c);rcases Ns j k with b | rfl | b
 .exact Nv c (i j a b)
 .exact Me _
 .exact Mr.1 d k j f a b
end
