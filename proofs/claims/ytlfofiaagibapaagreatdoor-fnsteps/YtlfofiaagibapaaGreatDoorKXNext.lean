import Derived.Test.YtlfofiaagibapaaGreatDoorKWGo6
import Derived.Test.YtlfofiaagibapaaGreatDoorKVTraj
import Derived.Laws.AppendOwnNone
set_option maxRecDepth 100000
set_option maxHeartbeats 25600000
namespace Go.Proofs.YtlfofiaagibapaaGreatDoor
open Go.RowKit Go.Proofs.Tryz
theorem Bf(w:NN)(cost A:Int)(a d:NM)(M d2:Nat)(l:List Xq)(ans:List Xz)(hl:l.length<=maxLen)(hs:∀s∈l,s.Fits)(hS:Steps w a l)(d3:ans.length<=maxLen)(d4:∀c∈ans,c.text.size<=maxLen)(V:fD w d ans)(hF:nZ cost l A)(hE:ans.length= (jK l A).asks.length):Calls prog 110 #[.agg #[.a cost,.slice a l.length M],.a A,.slice d ans.length d2] w λe w'=>(∃g,e=.returned (.agg g.cells.toArray)/\kX cost l A ans g)/\K_ w w':=by
 have⟨B,a5⟩:=aH hF hE;clear hF hE;have d5:=hl;have d6:=d3;unfold maxLen at d5 d6;have W:K_ w ((w.alloc (.cells #[.a cost,.slice a l.length M] 31)).alloc (.cells #[.a 0,.bool false,.a 0,.string ⟨#[]⟩] 168)):=(ah _ _).alloc _;go_enter func110,ntmps110
 go_wp2_with fail
 refine (fM _ cost a M l hl hs (hS.kept W)).mono ?_;rintro e f ⟨a6,F⟩;have C:=W.trans F;have a7:Row f (w.heap.size+1) 4:=Row.kept (by have:=Row.made (w.alloc (.cells #[.a cost,.slice a l.length M] 31)) #[.a 0,.bool false,.a 0,.string ⟨#[]⟩] 168;simpa using this) F;have G:=Kz a7;clear a7;let⟨f6,f7⟩:=F.rules;have d7:=F.size;simp only[MZ] at d7;have x0:w.heap.size<f.heap.size:=E5;have x1:w.heap.size+1<f.heap.size:=E5;rcases a6.cases with⟨rfl,a8⟩|⟨rfl,d8⟩
 .have HV:=Kz a8;clear a8 a6 W F;have p1:=B.o.2.1.1;have p2:=B.o.2.1.2;obtain⟨v,rfl⟩:=Int.eq_ofNat_of_zero_le p1;have X:v<l.length:=E5;obtain⟨b,o,cs,rfl,hb,q,H,I,J,K,rfl,hA,hC,d9⟩:=hS.kept C v X;have a9:=hs (l.getD v Xq.zero) (by simp[List.getD,X]);let⟨s,N⟩:=aj (l.getD v Xq.zero);rw[<-N] at q a9 hA hC d9;have x:Hid (jK l v=s):=by rw[N];show Hid (l.getD (v:Int).toNat Xq.zero=_);rw[Int.toNat_natCast];exact rfl
  have e0:Hid (ll s l.length):=by rw[N];exact HV.o.2.2 v X
  clear N;have c0:=q 0 _ rfl;have c1:=q 1 _ rfl;have e1:=q 2 _ rfl;have e2:=q 3 _ rfl;have e3:=q 4 _ rfl;have c5:=q 5 _ rfl;have c6:=q 6 _ rfl;have c7:=q 7 _ rfl;simp only[Ng] at c0;clear q;have b0:s.fin=false:=by have:=B.o.2.2;rw[x.o] at this;exact this
  rw[b0] at c5;have O:Hid (ans.length=s.asks.length):=by have:=a5.o;rw[x.o] at this;exact this
  have f8:((ans.length:Int) != (s.asks.length:Int))=false:=by have:=O.o;simp;omega
  have D:Hid (nZ cost l v):=B.o;have b2:Hid (Ff s l.length):=e0.o.2 b0;clear B a5;have P:K_ f (f.alloc (.cells #[.slice H s.asks.length I,.a s.on,.slice J s.cases.length K,.a s.els,.a s.fall,.bool false,.bool s.bad,.string s.give] 128)):=ah _ _;have Y:=C.trans P;have e4:=Kz (G.o.kept P);go_wp2_with (go_at_call 111;refine (xw _ _ _ _ E5 E5).mono ?_;rintro e w' ⟨rfl,b3⟩;have e5:=Eq.symm b3;clear b3;subst e5)
  clear c0 c1 e1 e2 e3 c5 c6 c7;go_loop [8] (λi=>∃k:Nat,k<=ans.length/\i=.a k/\mM ans pq k) (λi=>ans.length-(intOf i).toNat)
  case atStart=>exact⟨0,Ml _,rfl,λj r=>aO r⟩
  case round=>
   obtain⟨k,Z,rfl,y⟩:=hrel;have h:=Kz y;clear y;by_cases Q:k<ans.length
   .obtain⟨b1,o1,rfl,e6,z⟩:=V.kept Y k Q;have b4:(ans.getD k Xz.zero).text.size<=maxLen:=d4 _ (by simp[List.getD,Q]);let⟨c,n⟩:=aj (ans.getD k Xz.zero);rw[<-n] at z b4;have t:=Kz n;clear n;unfold maxLen at b4;have d1:=z 1 _ rfl;clear z;by_cases f9:(200:Int)<c.text.size
    .skip
     go_wp2
     have p:=World.rangeAt_alloc (Mo f (w.heap.size+1) 0 b_.none.cells (G.o.there (o:=0) (m:=4) (Mj _))) (.cells #[.slice H s.asks.length I,.a s.on,.slice J s.cases.length K,.a s.els,.a s.fall,.bool false,.bool s.bad,.string s.give] 128);exact Zx b_.none.cells _ results110 rfl p underlying168 rfl Tryz.dV rfl ⟨⟨_,rfl,Or.inr ⟨D.o,by rw[x.o];exact Or.inl ⟨λa0=>a0.2 ⟨k,Q,by unfold pq;rw[<-t.o];omega⟩,rfl⟩⟩⟩,K_.alloc (K_.setCells (g:=w.heap.size+1) E5 b_.none.cells 0 C) _⟩
    .go_wp2
     go_round
     case rel=>
      refine⟨k+1,E5,F3,λj r=>?_⟩;by_cases e:j=k
      .subst e;unfold pq;rw[<-t.o];omega
      .exact h.o j E5
     case measure=>simp[intOf];omega
   .have L:Hid (xG s ans):=⟨O.o,λ⟨i,hi,a0⟩=>h.o i E5 a0⟩;clear h;go_wp2
    go_loop [9] (λi=>∃k:Nat,k<=ans.length/\i=.a k/\mM ans iI k) (λi=>ans.length-(intOf i).toNat)
    case atStart=>exact⟨0,Ml _,rfl,λj r=>aO r⟩
    case round=>
     clear Z Q;obtain⟨k,Z,rfl,y⟩:=hrel;have h:=Kz y;clear y;by_cases a1:k<ans.length
     .obtain⟨b1,o1,rfl,e6,z⟩:=V.kept Y k a1;let⟨c,n⟩:=aj (ans.getD k Xz.zero);rw[<-n] at z;have t:=Kz n;clear n;have d0:=z 0 _ rfl;simp only[Ng] at d0;clear z;cases R:c.fail
      .rw[R] at d0;go_wp2
       go_round
       case rel=>
        refine⟨k+1,E5,F3,λj r=>?_⟩;by_cases e:j=k
        .subst e;unfold iI;rw[<-t.o,R];simp
        .exact h.o j E5
       case measure=>simp[intOf];omega
      .rw[R] at d0;have HP:Hid (iI (ans.getD k Xz.zero)):=by rw[<-t.o];exact R
       cases b5:(s.fall == -1)
       .skip
        go_wp2
        have p:=World.rangeAt_alloc (Mo f (w.heap.size+1) 0 [.a 0,.bool false,.a s.fall,.string ⟨#[]⟩] (G.o.there (o:=0) (m:=4) (Mj _))) (.cells #[.slice H s.asks.length I,.a s.on,.slice J s.cases.length K,.a s.els,.a s.fall,.bool false,.bool s.bad,.string s.give] 128);exact Zx [.a 0,.bool false,.a s.fall,.string ⟨#[]⟩] _ results110 rfl p underlying168 rfl Tryz.dV rfl ⟨⟨⟨0,false,s.fall,⟨#[]⟩⟩,rfl,Or.inr ⟨D.o,by rw[x.o];exact Or.inr ⟨L.o,Or.inl ⟨k,a1,HP.o,h.o,Or.inr ⟨by simpa using b5,rfl⟩⟩⟩⟩⟩,K_.alloc (K_.setCells (g:=w.heap.size+1) E5 [.a 0,.bool false,.a s.fall,.string ⟨#[]⟩] 0 C) _⟩
       .have b6:k<s.asks.length:=by have:=O.o;omega
        obtain⟨g0,o6,rfl,g1,e7⟩:=hA.kept P k b6;have e8:=(b2.o.1.2.2.2.1 k b6).1.2.1;let⟨a2,hv⟩:=aj (s.asks.getD k ByteArray.empty);rw[<-hv] at e7 e8;have e9:=Kz hv;clear hv;go_wp2
        have p:=Mo f (w.heap.size+1) 0 [.a 0,.bool true,.a 0,.string ((⟨#[98,101,108,111,119,32]⟩:NL)++a2)] (G.o.there (o:=0) (m:=4) (Mj _));exact Zx [.a 0,.bool true,.a 0,.string ((⟨#[98,101,108,111,119,32]⟩:NL)++a2)] _ results110 rfl (World.rangeAt_alloc p _) underlying168 rfl Tryz.dV rfl ⟨⟨⟨0,true,0,_⟩,rfl,Or.inr ⟨D.o,by rw[x.o];exact Or.inr ⟨L.o,Or.inl ⟨k,a1,HP.o,h.o,Or.inl ⟨by simpa using b5,by unfold jR;rw[<-e9.o]⟩⟩⟩⟩⟩,K_.alloc (K_.setCells (g:=w.heap.size+1) E5 [.a 0,.bool true,.a 0,.string ((⟨#[98,101,108,111,119,32]⟩:NL)++a2)] 0 C) _⟩
     .have a3:Hid (mM ans iI ans.length):=λj r=>h.o j E5
      clear h;cases S:((ans.length:Int) == 0)
      .have b7:ans.length≠0:=by simp at S;simpa using S
       have b8:=Kz b7;have f0:0<=s.on/\s.on<ans.length:=by have h1:=b2.o.1.2.2.2.2.2.2.2;have h2:=O.o;omega
       let⟨q1,q2⟩:=f0;clear b7;let⟨a4,b9⟩:=aj (mF ans s.on);have T:=Kz b9;clear b9;have f1:s.on.toNat<ans.length:=E5;have f2:=a9.cases;unfold maxLen at f2;go_wp2
       go_loopw [10] (λi wr=>∃k:Nat,k<=s.cases.length/\i=.a k/\K_ (f.alloc (.cells #[.slice H s.asks.length I,.a s.on,.slice J s.cases.length K,.a s.els,.a s.fall,.bool false,.bool s.bad,.string s.give] 128)) wr/\CaseTo s a4 k) (λi _=>s.cases.length-(intOf i).toNat)
       case atStart=>exact⟨0,Ml _,rfl,K_.refl _,λj r=>aO r⟩
       case round=>
        obtain⟨k,Z,rfl,E,y⟩:=hrel;have h:=Kz y;clear y;have k3:=Y.trans E;let⟨g2,g3⟩:=E.rules;have f3:=E.size;simp only[MZ] at f3;have c2:=Kz (e4.o.kept E);have v0:w.heap.size+1<f.heap.size+1:=E5;have v1:f.heap.size<f.heap.size+1:=E5;by_cases c3:k<s.cases.length
        .obtain⟨g4,o3,rfl,g5,U⟩:=(hC.kept P).kept E k c3;let⟨g6,o4,f4,g7,c4⟩:=V.kept k3 s.on.toNat f1;let⟨c,n⟩:=aj (s.cases.getD k bU.zero);rw[<-n] at U;have t:=Kz n;clear n;have f5:=U 0 _ rfl;have g8:=U 1 _ rfl;have d1:=c4 1 _ rfl;simp only[Ng] at f5;have c8:(ans.getD s.on.toNat Xz.zero).text=a4:=by have h1:=T.o;unfold mF at h1;exact h1.symm
         rw[c8] at d1;subst f4;clear U c4 c8;cases c9:(c.text.toList == a4.toList)
         .go_wp2
          go_region
          all_goals
           go_wp2
           go_roundw
           case rel=>
            refine⟨k+1,E5,F3,by repeat (first|apply K_.drew|exact E),λj r=>?_⟩;by_cases e:j=k
            .subst e;unfold tT;rw[<-t.o];exact tu c9
            .exact h.o j E5
           case measure=>simp[intOf];omega
         .go_wp2
          go_region
          all_goals
           go_wp2
           have p:=Mo wr.drew (w.heap.size+1) 0 [.a 0,.bool false,.a c.goto,.string ⟨#[]⟩] (Row.there (Row.kept c2.o (K_.drew (K_.refl _))) (o:=0) (m:=4) (Mj _));exact Zx [.a 0,.bool false,.a c.goto,.string ⟨#[]⟩] _ results110 rfl p underlying168 rfl Tryz.dV rfl ⟨⟨⟨0,false,c.goto,⟨#[]⟩⟩,rfl,Or.inr ⟨D.o,by rw[x.o];exact Or.inr ⟨L.o,Or.inr ⟨a3.o,c.goto,Or.inr ⟨b8.o,Or.inl ⟨k,c3,by unfold tT;rw[<-t.o,<-T.o];exact qh.1 c9,by rw[<-T.o];exact h.o,by unfold DU;rw[<-t.o]⟩⟩,rfl⟩⟩⟩⟩,K_.setCells (g:=w.heap.size+1) E5 [.a 0,.bool false,.a c.goto,.string ⟨#[]⟩] 0 k3.drew⟩
        .skip
         go_wp2
         have p:=Mo wr (w.heap.size+1) 0 [.a 0,.bool false,.a s.els,.string ⟨#[]⟩] (c2.o.there (o:=0) (m:=4) (Mj _));exact Zx [.a 0,.bool false,.a s.els,.string ⟨#[]⟩] _ results110 rfl p underlying168 rfl Tryz.dV rfl ⟨⟨⟨0,false,s.els,⟨#[]⟩⟩,rfl,Or.inr ⟨D.o,by rw[x.o];exact Or.inr ⟨L.o,Or.inr ⟨a3.o,s.els,Or.inr ⟨b8.o,Or.inr ⟨by rw[<-T.o];exact λj r=>h.o j E5,rfl⟩⟩,rfl⟩⟩⟩⟩,K_.setCells (g:=w.heap.size+1) E5 [.a 0,.bool false,.a s.els,.string ⟨#[]⟩] 0 k3⟩
      .skip
       go_wp2
       have p:=World.rangeAt_alloc (Mo f (w.heap.size+1) 0 [.a 0,.bool false,.a s.els,.string ⟨#[]⟩] (G.o.there (o:=0) (m:=4) (Mj _))) (.cells #[.slice H s.asks.length I,.a s.on,.slice J s.cases.length K,.a s.els,.a s.fall,.bool false,.bool s.bad,.string s.give] 128);exact Zx [.a 0,.bool false,.a s.els,.string ⟨#[]⟩] _ results110 rfl p underlying168 rfl Tryz.dV rfl ⟨⟨⟨0,false,s.els,⟨#[]⟩⟩,rfl,Or.inr ⟨D.o,by rw[x.o];exact Or.inr ⟨L.o,Or.inr ⟨a3.o,s.els,Or.inl ⟨by simp at S;simpa using S,rfl⟩,rfl⟩⟩⟩⟩,K_.alloc (K_.setCells (g:=w.heap.size+1) E5 [.a 0,.bool false,.a s.els,.string ⟨#[]⟩] 0 C) _⟩
 .exact NB B.o.1 d8
theorem sM(w:NN)(cost b:Int)(a d:NM)(f h:Nat)(l:List Xq)(ans:List Xz)(j:l.length<=maxLen)(k:∀s∈l,s.Fits)(m:Steps w a l)(n:ans.length<=maxLen)(p:∀c∈ans,c.text.size<=maxLen)(q:fD w d ans):Calls prog 110 #[.agg #[.a cost,.slice a l.length f],.a b,.slice d ans.length h] w λe w'=>(∃g,e=.returned (.agg g.cells.toArray)/\kX cost l b ans g)/\K_ w w':=by
 by_cases i:nZ cost l b/\ans.length= (jK l b).asks.length
 .exact Bf w cost b a d f h l ans j k m n p q i.1 i.2
 .exact CP w cost b a d f h l ans j k m n p q i
theorem Iu(F w:NN)(kW:K_ F w)(a:NM)(R:Nat)(A:List Qz)(ra:NM)(rn rc:Nat)(d:NM)(dc:Nat)(l:List Q_)(r:Q_)(xa:NM)(xc:Nat)(k0:A.length<=1048576)(x1:l.length<=1048576)(k1:jl A)(x2:bH (Kk A))(o4:∀y∈A,y.Fits)(hgd:r.Good A)(o5:dz A (Qq l))(k2:aS (Kk A) (Qq l) r)(hN:bQ F a A)(hS:bN w d l)(hT:Strs F xa r.texts)(hX:xa=none->xc=0):Calls prog 114 #[.agg #[.slice a A.length R],.agg #[.slice ra rn rc,.slice d l.length dc],.agg #[.string r.name,.bool r.over,.bool r.fail,.string r.text,.a r.at',.a r.Zq,.slice xa r.texts.length xc]] w λe w'=>vY F.heap.size (w.heap.size+2) (Kk A) (Qq l) r w' e/\K_ w w':=by
 have k3:=Kz hX;clear hX;obtain⟨B9,hA,i7,e8⟩:=hgd.act;obtain⟨d2,hk,k4,o6,rfl⟩:=fJ hA;obtain⟨y,hy⟩:=aj (A.getD d2 Qz.zero);rw[<-hy] at hA k4 e8;dsimp only at e8;obtain⟨WB,c4⟩:=aj ((((w.alloc (.cells #[.slice a A.length R] 25)).alloc (.cells #[.slice ra rn rc,.slice d l.length dc] 43)).alloc (.cells #[.string r.name,.bool r.over,.bool r.fail,.string r.text,.a r.at',.a r.Zq,.slice xa r.texts.length xc] 48)).alloc (.cells #[.string ⟨#[]⟩,.bool false,.bool false,.string ⟨#[]⟩,.a 0,.a 0,M3] 48));have kB:K_ w WB:=by rw[c4];exact (((ah _ _).alloc _).alloc _).alloc _
 have x3:WB.heap.size=w.heap.size+4:=by rw[c4];simp
 have o7:WB.cell? ⟨w.heap.size,0,none⟩=some (.slice a A.length R):=by rw[c4,K_.cell (w:=w.alloc (.cells #[.slice a A.length R] 25)) (((ah _ _).alloc _).alloc _) E9];exact X_ w _ _ 0 _ rfl
 have x7:WB.cell? ⟨w.heap.size+1,0,none⟩=some (.slice ra rn rc):=by have:=X_ (w.alloc (.cells #[.slice a A.length R] 25)) #[.slice ra rn rc,.slice d l.length dc] 43 0 _ rfl;rw[MZ] at this;rw[c4,K_.cell (w:=(w.alloc (.cells #[.slice a A.length R] 25)).alloc (.cells #[.slice ra rn rc,.slice d l.length dc] 43)) ((ah _ _).alloc _) E9];exact this
 have x8:WB.cell? ⟨w.heap.size+1,1,none⟩=some (.slice d l.length dc):=by have:=X_ (w.alloc (.cells #[.slice a A.length R] 25)) #[.slice ra rn rc,.slice d l.length dc] 43 1 _ rfl;rw[MZ] at this;rw[c4,K_.cell (w:=(w.alloc (.cells #[.slice a A.length R] 25)).alloc (.cells #[.slice ra rn rc,.slice d l.length dc] 43)) ((ah _ _).alloc _) E9];exact this
 have o8:gV WB (w.heap.size+2) r xa xc:=by
  have J:=ay.made ((w.alloc (.cells #[.slice a A.length R] 25)).alloc (.cells #[.slice ra rn rc,.slice d l.length dc] 43)) #[.string r.name,.bool r.over,.bool r.fail,.string r.text,.a r.at',.a r.Zq,.slice xa r.texts.length xc] 48;have h2:=X_ ((w.alloc (.cells #[.slice a A.length R] 25)).alloc (.cells #[.slice ra rn rc,.slice d l.length dc] 43)) #[.string r.name,.bool r.over,.bool r.fail,.string r.text,.a r.at',.a r.Zq,.slice xa r.texts.length xc] 48;simp only[MZ] at J h2;have x9:gV (((w.alloc (.cells #[.slice a A.length R] 25)).alloc (.cells #[.slice ra rn rc,.slice d l.length dc] 43)).alloc (.cells #[.string r.name,.bool r.over,.bool r.fail,.string r.text,.a r.at',.a r.Zq,.slice xa r.texts.length xc] 48)) (w.heap.size+2) r xa xc:=⟨J,h2⟩;rw[c4];exact x9.kept (ah _ _)
 have o9:ay WB (w.heap.size+2+1) 48 7:=by
  have J:=ay.made (((w.alloc (.cells #[.slice a A.length R] 25)).alloc (.cells #[.slice ra rn rc,.slice d l.length dc] 43)).alloc (.cells #[.string r.name,.bool r.over,.bool r.fail,.string r.text,.a r.at',.a r.Zq,.slice xa r.texts.length xc] 48)) #[.string ⟨#[]⟩,.bool false,.bool false,.string ⟨#[]⟩,.a 0,.a 0,M3] 48;simp only[MZ] at J;rw[c4];exact J
 have z0:w.heap.size<WB.heap.size:=E5;have z1:w.heap.size+1<WB.heap.size:=E5;have⟨f8,i8,p2,p3⟩:=nC kB o8 o9 x3;clear kB o8 o9;have p4:=(hN.kept kW).kept f8.o;have i9:=Kz kW;have f9:=kW.trans f8.o;have p5:=kW.size;clear kW;obtain⟨nb,nq,L,d3,k6,Y,na,S,rfl,j0⟩:=hN d2 hk;rw[<-hy] at Y j0;have p6:nb<WB.heap.size:=Mk k6 f9.size;have n1:=(f9.cell k6).trans (Y 1 _ rfl);have n2:=(f9.cell k6).trans (Y 2 _ rfl);subst d3;have⟨k7,p7⟩:=aH p4 j0;have p8:=Kz (Steps.kept j0 f9);have p9:Hid (eY F.heap.size WB (w.heap.size+2) xa r.texts):=eY.old hT f9 (Mj _);obtain⟨r0,_,_,_,_,_,_⟩:=i8.o.all;have rz:=i8.o.row.lt;have⟨HY,b8⟩:=aH hy hA;clear Y j0 p4 hy hA;go_enter func114,ntmps114
 go_upto_region 1 with fail
 rw[<-c4];clear c4;go_cut [8] from 13 to 21 (λy0 wx=>∃T,y0=.c T/\K_ WB wx/\NSt F.heap.size w wx T y.cost na y.steps.length S r xa xc)
 case first=>
  have d4:Hid (∀w',K_ WB w'->w'.cell? ⟨w.heap.size,0,none⟩=some (.slice (some ⟨nb,nq,none⟩) A.length R)/\w'.cell? ⟨w.heap.size+2,0,none⟩=some (.string r.name)/\w'.cell? ⟨nb,nq+d2*3+1,none⟩=some (.a y.cost)/\w'.cell? ⟨nb,nq+d2*3+2,none⟩=some (.slice na y.steps.length S)):=λw' K=>⟨(K.cell z0).trans o7,(K.cell rz).trans r0,(K.cell p6).trans n1,(K.cell p6).trans n2⟩
  have C0:(d2:Int)<(A.length:Int):=E5;refine bF 10 d4.o λwd KD h=>?_
  refine ak 0 h ?_;refine ae 4 h ?_;refine fP 5 9 (λK n=>?_) (λK n=>?_)
  .rw[Nz F7];go_simp
   go_at_call 61
   refine (fe wd (some ⟨nb,nq,none⟩) R A r.name k0 (k7.o.kept KD)).mono ?_;rintro e w2 ⟨⟨k8,rfl,hq⟩,j1⟩;have K2:=KD.trans j1;obtain rfl:k8= (d2:Int):=by
    rcases hq with⟨k',_,e',_,J,h2⟩|⟨_,J⟩
    .rw[e',iR (by rw[<-HY.o];exact k4) o6 J h2]
    .rw[b8.o] at J;cases J
   clear hq;dsimp only;refine af n (λ_=>d4.o _ K2) ?_;clear n K;clear h;have h:=d4.o _ K2;refine ae 6 h ?_;refine ae 7 h ?_;refine ae 8 h ?_;refine ai 9 λK n=>?_;go_simp
   have K3:K_ w2 (w2.alloc (.cells #[.a 0,M3] 31)):=ah _ _;refine af n (λ_=>d4.o _ (K2.trans K3)) ?_;clear n K;have b9:ay (w2.alloc (.cells #[.a 0,M3] 31)) w2.heap.size 31 2:=ay.made w2 _ _;have KE:=K2.trans K3;generalize y1:w2.alloc (.cells #[.a 0,M3] 31)=wE at b9 KE⊢;clear y1 K3;obtain⟨⟨_,U⟩,f0⟩:=b9.row.at (i:=0) E5;obtain⟨⟨_,q0⟩,f1⟩:=b9.row.at (i:=1) E5;have vz:=b9.lt;refine ai 10 λK n=>?_;go_simp
   refine af n (λb4=>NB rfl b4) ?_;clear n K;refine aC ?_;go_wp2
   go_meet
   exact⟨w2.heap.size,rfl,NSt.made f8.o p3.o KE i8.o p2.o p5 p9.o k3.o K2.size b9⟩
  .rw[Nz F7];go_simp
   have K3:K_ wd (wd.alloc (.cells #[.a 0,M3] 31)):=ah _ _;have l0:=KD.trans K3;refine af n (λ_=>d4.o _ l0) ?_;clear n K;refine aG 5 λK n=>?_;go_simp
   go_at_call 61
   refine (fe (wd.alloc (.cells #[.a 0,M3] 31)) (some ⟨nb,nq,none⟩) R A r.name k0 (k7.o.kept l0)).mono ?_;rintro e w2 ⟨⟨k8,rfl,hq⟩,j1⟩;have K2:=l0.trans j1;obtain rfl:k8= (d2:Int):=by
    rcases hq with⟨k',_,e',_,J,h2⟩|⟨_,J⟩
    .rw[e',iR (by rw[<-HY.o];exact k4) o6 J h2]
    .rw[b8.o] at J;cases J
   clear hq;dsimp only;refine af n (λ_=>d4.o _ K2) ?_;clear n K;clear h;have h:=d4.o _ K2;refine ae 6 h ?_;refine ae 7 h ?_;refine ae 8 h ?_;have b9:ay w2 wd.heap.size 31 2:=(ay.made wd #[.a 0,M3] 31).kept j1;obtain⟨⟨_,U⟩,f0⟩:=b9.row.at (i:=0) E5;obtain⟨⟨_,q0⟩,f1⟩:=b9.row.at (i:=1) E5;have vz:=b9.lt;refine ai 10 λK n=>?_;go_simp
   refine af n (λb4=>NB rfl b4) ?_;clear n K;refine aC ?_;go_wp2
   go_meet
   exact⟨wd.heap.size,rfl,NSt.made f8.o p3.o K2 i8.o p2.o p5 p9.o k3.o KD.size b9⟩
 case rest=>
  obtain⟨T,rfl,Kx,q1⟩:=hcut;have d5:=Kz q1;clear q1 r0 rz n1 n2;have lo:=hgd.lo;have q2:=hgd.hi;have tl:=hgd.tl;obtain⟨p,q,t,v,j,x,k⟩:=d5.o.box.all;have z:=d5.o.box.row.lt;go_upto_if 24 with fail
  go_cut [9,10,11] from 24 to 74 (λ_ _ _ wx=>∃(f:Q_)(b1:NM)(b2:Nat),NSt F.heap.size w wx T y.cost na y.steps.length S f b1 b2/\Xx (Kk A) (Qq l) r=ek ⟨y.cost,y.steps⟩ f/\0<=f.at'/\f.at' < y.steps.length/\0<=f.Zq/\f.Zq<20/\f.texts.length<=200/\∀c0∈f.texts,c0.size<=200)
  case first=>
   by_cases hv:r.Zq=0
   .have y2:¬(0:Int)<r.Zq:=E5;have HV:=Kz hv;clear hv;go_wp2
    go_meet
    exact⟨r,xa,xc,d5.o,(by unfold Xx;rw[b8.o];simp[HV.o]),i7,e8,lo,E5,E5,hgd.ts⟩
   .have C1:(0:Int)<r.Zq:=E5;have C2:=q2;obtain⟨G,c7⟩:∃G:Nat,r.at'= (G:Int):=⟨r.at'.toNat,E5⟩;have e9:G<y.steps.length:=E5;have y3:(G:Int)<(y.steps.length:Int):=E5;obtain⟨H,I,y4,rfl,c5,M,Z,ca,ac,cc,rfl,f2,q3,_⟩:=(Steps.kept p8.o Kx) G e9;obtain⟨s,hs⟩:=aj (y.steps.getD G Xq.zero);rw[<-hs] at M f2 q3;have t0:=M 0 _ rfl;have t1:=M 1 _ rfl;have t2:=M 2 _ rfl;have t3:=M 3 _ rfl;have t4:=M 4 _ rfl;have t5:=M 5 _ rfl;have t6:=M 6 _ rfl;have t7:=M 7 _ rfl;rw[Ng] at t0;have g0:s∈y.steps:=by rw[hs];simp[List.getD,e9]
    have f3:y∈A:=by rw[HY.o];simp[List.getD,hk]
    have q4:=(k1 y f3 s g0).1;have y5:=(k1 y f3 s g0).2;have q5:=o4 y f3;have c1:Hid (stepOf ⟨y.cost,y.steps⟩ r.at'=s):=by show _=_;unfold stepOf;rw[c7,hs];rfl
    obtain⟨i,c8⟩:∃i,Hid (Yz (Kk A) (Qq l) s.asks=some i):=by
     rcases k2.2 with e|⟨A',i,J,h2⟩
     .exact NB e hv
     .rw[b8.o] at J;cases J;rw[c1.o] at h2;exact⟨i,h2⟩
    have q6:=(Kx.cell z0).trans o7;have m1:=(Kx.cell z1).trans x7;have q7:=(Kx.cell z1).trans x8;have y6:=Mk z0 Kx.size;have q8:=Mk z1 Kx.size;have p1:=d5.o.a1;have pz:=d5.o.abz;rw[c7] at j;have⟨y7,C3,C4⟩:=di f2 c7 hs;clear M f2 q3 hs c7;have d6:Hid (∀w',K_ wc w'->w'.cell? ⟨w.heap.size,0,none⟩=some (.slice (some ⟨nb,nq,none⟩) A.length R)/\w'.cell? ⟨w.heap.size+1,0,none⟩=some (.slice ra rn rc)/\w'.cell? ⟨w.heap.size+1,1,none⟩=some (.slice d l.length dc)/\w'.cell? ⟨T,1,none⟩=some (.slice (some ⟨H,I,none⟩) y.steps.length S)/\w'.cell? ⟨w.heap.size+2,4,none⟩=some (.a (G:Int))/\w'.cell? ⟨H,I+G*8,none⟩=some (.slice Z s.asks.length ca)/\w'.cell? ⟨H,I+G*8+1,none⟩=some (.a s.on)/\w'.cell? ⟨H,I+G*8+2,none⟩=some (.slice ac s.cases.length cc)/\w'.cell? ⟨H,I+G*8+3,none⟩=some (.a s.els)/\w'.cell? ⟨H,I+G*8+4,none⟩=some (.a s.fall)/\w'.cell? ⟨H,I+G*8+5,none⟩=some (.bool s.fin)/\w'.cell? ⟨H,I+G*8+6,none⟩=some (.bool s.bad)/\w'.cell? ⟨H,I+G*8+7,none⟩=some (.string s.give)):=λw' K=>⟨(K.cell y6).trans q6,(K.cell q8).trans m1,(K.cell q8).trans q7,(K.cell pz).trans p1,(K.cell z).trans j,(K.cell c5).trans t0,(K.cell c5).trans t1,(K.cell c5).trans t2,(K.cell c5).trans t3,(K.cell c5).trans t4,(K.cell c5).trans t5,(K.cell c5).trans t6,(K.cell c5).trans t7⟩
    go_upto_region 3 with fail
    refine ik 14 d6.o (aY wc) λh=>?_;have KD:K_ wc wc.drew:=aY wc;generalize g1:wc.drew=wd at h KD⊢;clear g1 q6 m1 q7 t0 t1 t2 t3 t4 t5 t6 t7 p1 p q t v j x k;refine ae 0 h ?_;refine ae 1 h ?_;refine ak 3 h ?_;refine ae 7 h ?_;refine ae 8 h ?_;refine aG 2 λK n=>?_;go_simp
    go_at_call 107
    refine (oP wd (some ⟨nb,nq,none⟩) A.length R ra rn rc d l.length dc).mono ?_;rintro e y8 ⟨kb,rfl,q9,r1⟩;have K1:=KD.trans r1;have r2:=Kz q9;clear q9 r1;dsimp only;refine af n (λ_=>d6.o _ K1) ?_;clear n K;clear h;refine aG 9 λK n=>?_;go_simp
    go_at_call 109
    refine (pE y8 kb (some ⟨nb,nq,none⟩) R A d dc l s Z ac ca cc k0 x1 q4 y5 r2.o (k7.o.kept (Kx.trans K1)) (hS.kept (f8.o.trans (Kx.trans K1))) (y7.o.kept K1)).mono ?_;rintro e r3 ⟨⟨l1,n3,c3,ok,rfl,r4,r5⟩,r6⟩;have K3:=K1.trans r6;clear r6;obtain rfl:ok=true:=by cases ok with|true=>rfl|false=>rw[r5 rfl] at c8;cases c8.o
    obtain⟨y9,r7,rfl,r8⟩:=r4 rfl;obtain rfl:i=y9:=Option.some.inj (c8.o.symm.trans r7);have l2:=Kz r8;clear r4 r5 r7 r8;dsimp only;refine af n (λ_=>d6.o _ K3) ?_;clear n K;refine ai 10 λK n=>?_;go_simp
    refine af n (λ_=>d6.o _ K3) ?_;clear n K;have h:=d6.o _ K3;refine ae 11 h ?_;refine ae 12 h ?_;refine ai 13 λK n=>?_;go_simp
    refine af n (λ_=>d6.o _ K3) ?_;clear n K;refine ai 14 λK n=>?_;go_simp
    refine af n (λb4=>NB rfl b4) ?_;clear n K;refine aC ?_;have b3:=Kz (d5.o.kept K3);clear h d6 KD K1 r2;by_cases d7:r.Zq=20
    .have z2:(r.Zq == 20)=true:=by simp[d7]
     have z3:=Kz d7;clear d7;obtain⟨p,q,t,v,j,x,k⟩:=b3.o.box.all;have z:=b3.o.box.row.lt;go_upto_region 5 with fail
     clear p q t v j x k z;obtain⟨p,q,t,v,j,x,k⟩:=b3.o.box.all;have z:=b3.o.box.row.lt;obtain⟨_,g2⟩:=b3.o.box.row.row.at (i:=1) E5;go_upto_region 6 with fail
     have g3:Hid (NSt F.heap.size w (r3.setCell ⟨w.heap.size+2,1,none⟩ (.bool true)) T y.cost (some ⟨H,I,none⟩) y.steps.length S ({r with over:=true}) xa xc):=b3.o.put E5 rfl rfl;generalize B:r3.setCell ⟨w.heap.size+2,1,none⟩ (.bool true)=r9 at g3  ⊢;clear B;clear p q t v j x k z;clear g2;obtain⟨p,q,t,v,j,x,k⟩:=g3.o.box.all;have z:=g3.o.box.row.lt;obtain⟨_,g4⟩:=g3.o.box.row.row.at (i:=2) E5;go_upto_region 7 with fail
     have g6:Hid (NSt F.heap.size w (r9.setCell ⟨w.heap.size+2,2,none⟩ (.bool true)) T y.cost (some ⟨H,I,none⟩) y.steps.length S ({r with over:=true,fail:=true}) xa xc):=g3.o.put E5 rfl rfl;generalize B:r9.setCell ⟨w.heap.size+2,2,none⟩ (.bool true)=E at g6  ⊢;clear B;clear p q t v j x k z;clear g4;obtain⟨p,q,t,v,j,x,k⟩:=g6.o.box.all;have z:=g6.o.box.row.lt;obtain⟨_,g7⟩:=g6.o.box.row.row.at (i:=3) E5;go_upto_region 8 with fail
     have O:Hid (NSt F.heap.size w (E.setCell ⟨w.heap.size+2,3,none⟩ (.string ⟨#[115,112,101,110,116]⟩)) T y.cost (some ⟨H,I,none⟩) y.steps.length S ({r with over:=true,fail:=true,text:=iT}) xa xc):=g6.o.put E5 rfl rfl;generalize B:E.setCell ⟨w.heap.size+2,3,none⟩ (.string ⟨#[115,112,101,110,116]⟩)=C at O  ⊢;clear B;clear p q t v j x k z;clear g7;obtain⟨L,Y⟩:=aj (Q_.cells ({r with over:=true,fail:=true,text:=iT}) xa xc);have a3:L.length=7:=by rw[Y];rfl
     have l3:Hid (L.toArray.all (·.oneCell')=true):=by show _=_;rw[Y];exact all_oneCell_toArray (by simp[Q_.cells,Value.oneCell'])
     have l4:Hid (C.rangeAt (w.heap.size+2) 0 L):=by show World.rangeAt _ _ _ _;rw[Y];exact O.o.box.rng
     have z:=O.o.box.row.lt;have l5:Hid ((prog.info? 48).map (·.size)=some L.toArray.size):=by show _=_;rw[Tryz.fG];simp[a3]
     have g8:Hid ((prog.info? 48).map (·.size)=some L.length):=by show _=_;rw[Tryz.fG,a3]
     have h1:=Kz (O.o.kept ((K_.refl C).alloc (.cells #[] 9)));have h3:Hid ((C.alloc (.cells #[] 9)).there (w.heap.size+3) 0 L.toArray.size):=by show World.there _ _ _ _;simpa[a3] using h1.o.res.row.there (o:=0) (m:=7) (Mj _)
     have⟨l6,z4⟩:=aH Y a3;clear Y a3;go_wp2_with (first|(refine wpList_load_mid rfl 48 _ rfl (w.heap.size+2) 0 rfl L _ l4.o underlying48 rfl g8.o ?_)|(refine wpList_store_mid rfl 48 _ _ rfl (w.heap.size+3) 0 L.toArray rfl rfl h3.o l5.o l3.o ?_;rw[List.toList_toArray]))
     have hR:=Mo (C.alloc (.cells #[] 9)) (w.heap.size+3) 0 L (by have:=h3.o;simpa using this);refine bC L _ _ results114 rfl hR underlying48 rfl g8.o rfl rfl ?_;have l7:=l6.o;subst l7;exact h1.o.ends (by unfold Xx;rw[b8.o];simp only;rw[NA hv,c1.o,c8.o];simp[z3.o]) (asks:=[]) (λz5 hi=>by simp at hi) rfl rfl
    .have z2:(r.Zq == 20)=false:=by simpa using d7
     have j2:=(x2 _ _ b8.o).1;obtain⟨s0,l8⟩:=iw j2 i7 e8;rw[c1.o] at s0 l8;have s1:∀l9∈s.asks,l9.size<=20:=λl9 hn=>(l8 l9 hn).2.1
     obtain⟨m0,s2⟩:=nQ o5 s1 c8.o;have C5:i.length<=5:=by rw[m0.1];exact s0
     have HW:Hid (kX y.cost y.steps r.at' i (eT s i)):=.inr ⟨⟨j2,⟨i7,e8⟩,hgd.stp _ b8.o k2.1 hv⟩,by have e:jK y.steps r.at'=s:=c1.o;rw[e];exact jc m0⟩;have⟨m2,C6⟩:=aH s2 j2;clear s2 j2 l8 s1 m0;have s3:i.length<=maxLen:=F5;have s4:∀m3∈i,m3.text.size<=maxLen:=λm3 hc=>by have:=m2.o m3 hc;unfold maxLen;omega
     have p0:=b3.o.a0;have p1:=b3.o.a1;have z6:=b3.o.abz;obtain⟨p,q,t,v,j,x,k⟩:=b3.o.box.all;have z:=b3.o.box.row.lt;go_wp2_with fail
     refine (sM _ y.cost r.at' (some ⟨H,I,none⟩) l1 S c3 y.steps i q5.steps q5.each (Steps.kept p8.o (Kx.trans K3)) s3 s4 l2.o).mono ?_;rintro e E ⟨⟨s5,rfl,hG⟩,k5⟩;have s6:s5=eT s i:=hG.unique HW.o;obtain⟨gc,go,gt,P⟩:=s5;have h4:=Kz s6;have s7:(b_.mk gc go gt P).cells.toArray= #[.a gc,.bool go,.a gt,.string P]:=rfl;rw[s7];clear s7 hG s6;have s8:K_ E (E.alloc (.cells #[.a gc,.bool go,.a gt,.string P] 168)):=ah _ _;have K6:=k5.trans s8;have O:=Kz (b3.o.kept K6);have d3:=X_ E #[.a gc,.bool go,.a gt,.string P] 168 1 _ rfl;have e2:=X_ E #[.a gc,.bool go,.a gt,.string P] 168 2 _ rfl;have Q:=X_ E #[.a gc,.bool go,.a gt,.string P] 168 3 _ rfl;simp only[MR] at d3 e2 Q;have N:E.heap.size<(E.alloc (.cells #[.a gc,.bool go,.a gt,.string P] 168)).heap.size:=E9;have f6:E.heap.size≠w.heap.size+2:=by have:=(b3.o.kept k5).box.row.lt;omega
     have h5:=Kz (l2.o.kept K6);clear p q t v j x k z;clear p0 p1 z6 k5 s8 s3 s4 l2;cases go
     .go_upto_region 16 with fail
      generalize B:E.alloc (.cells #[.a gc,.bool false,.a gt,.string P] 168)=C at O h5 d3 e2 Q N K6⊢;clear B d3 Q K6;have C7:w.heap.size+4<=C.heap.size:=by have:=O.o.abl;have:=O.o.abz;omega
      have m4:=(HW.o.KQ).1;rw[<-h4.o] at m4;have s9:gc=0:=by have h2:=xE s i;rw[<-h4.o] at h2;exact h2
      obtain⟨m5,m6⟩:=m4 s9 rfl;dsimp only at m5 m6;clear m4 s9;have kE:K_ C (C.alloc (.cells #[] 9)):=ah _ _;have j3:Hid ((C.alloc (.cells #[] 9)).ownsRow C.heap.size 9 1 (.b C.heap.size 0 0) 0 (([]:List NL).map Value.string)):=World.ownsRow_made C #[] 0 (Nat.le_refl _) (Nat.zero_le _) rfl;have C8:r.texts.length<=100:=E5;have C9:=rC i;have t8:=O.o.txt;have j4:=Kz kE;obtain⟨ic,j5,m7,m8,m9⟩:=aW Tryz.fA;clear kE;obtain⟨p,q,t,v,j,x,k⟩:=O.o.box.all;have z:=O.o.box.row.lt;obtain⟨_,t9⟩:=O.o.box.row.row.at (i:=6) E5;rcases (show xa=none\/∃ad,xa=some ad from by cases xa with|none=>exact .inl rfl|some d0=>exact .inr ⟨d0,rfl⟩) with rfl|⟨ad,rfl⟩
      .have h0:r.texts=[]:=by
        cases z7:r.texts with
        |nil=>rfl
        |cons c0 ts=>exfalso;obtain⟨b,o,e,_⟩:=t8 0 (by rw[z7];simp);cases e
       have v0:=k3.o rfl;have v1:C.cell? ⟨w.heap.size+2,6,none⟩=some M3:=by rw[k,h0,v0];rfl
       have H0:=Kz h0;clear k h0 v0;have k:=v1;clear v1;go_wp2_with (at_builtin;refine wpList_append_own_none _ rfl (.tmp 64) (.tmp 66) 26 rfl C.heap.size 9 ic 1 underlying26 j5 (.b C.heap.size 0 0) 0 [] rfl j3.o rfl ?_)
       have f7:=j4.o;have j6:=j3;generalize z8:C.alloc (.cells #[] 9)=w8 at f7 j6⊢;clear z8;refine (wY w8 l1 c3 i E5 (h5.o.kept f7)).mono ?_;rintro e w9 ⟨⟨g9,c9,rfl,h6⟩,k9⟩;have h7:=f7.trans k9;have h8:=Kz (au j6.o k9);have n4:Hid (∀W u,((aL i).map Value.string)[W]? =some u->w9.cell? ((⟨g9,0,none⟩:Addr).add W)=some u):=λW u X=>by
        have hj:W<(aL i).length:=by have:=(Mr.1 X).1;simpa using this
        obtain⟨b,o,e,_,hc⟩:=h6 W hj;simp only[Na,NI,and_true] at e;obtain⟨rfl,rfl⟩:=e;rw[Nf,hc];simp[hj] at X;simp[List.getD,hj,X]
       have n5:Hid (∀u∈(aL i).map Value.string,u.oneCell'=true):=λu X=>by obtain⟨d0,_,rfl⟩:=MM.1 X;rfl
       have n6:=h7.size;clear k9 h6;clear p q t v j x k z;clear t9;go_upto_region 17 with (at_builtin;refine wpList_append_own _ rfl (.tmp 67) (.tmp 69) 26 rfl C.heap.size 9 ic _ 1 16 underlying26 j5 m7 m8 m9 rfl E8 (.b C.heap.size 0 0) 0 (([]:List NL).map Value.string) rfl h8.o ⟨g9,0,none⟩ (aL i).length c9 ((aL i).map Value.string) rfl E9 n4.o n5.o F5 E5 n6 ?_;intro v2 a2 d8 h9 _;have d9:=aK h7 (Mj _) h8.o h9;have n7:=Kz d8;obtain⟨a4,a5,rfl⟩:=aF d8;have a8:=Kz (O.o.kept d9);have n8:=a8.o.box.all.2.2.2.2.2.2;have n9:=a8.o.box.row.lt;obtain⟨_,o0⟩:=a8.o.box.row.row.at (i:=6) E5;clear d8 h9)
       have hO:a2.ownsRow C.heap.size 9 1 (.slice a4 ((aL i).length) a5) ((aL i).length) ((([]:List NL)++aL i).map Value.string):=by have b4:=n7.o;simpa using b4
       obtain⟨z9,A0,ev,d1,i0⟩:=eY.owned (n0:=F.heap.size) (c:=w.heap.size+2) hO E5;simp only[Nb] at ev;obtain⟨rfl,a3,rfl⟩:=ev;have b5:Hid (NSt F.heap.size w (a2.setCell ⟨w.heap.size+2,6,none⟩ (.slice a4 ((aL i).length) a5)) T y.cost (some ⟨H,I,none⟩) y.steps.length S {r with texts:=r.texts++aL i} a4 a5):=a8.o.Lv E5 (by simp[Q_.cells,H0.o]) (by rw[show ({r with texts:=r.texts++aL i}:Q_).texts=[]++aL i by simp[H0.o]];exact d1) i0;have o1:(a2.setCell ⟨w.heap.size+2,6,none⟩ (.slice a4 ((aL i).length) a5)).cell? ⟨E.heap.size,2,none⟩=some (.a gt):=by rw[Zj f6,d9.cell N];exact e2
       have o2:E.heap.size<(a2.setCell ⟨w.heap.size+2,6,none⟩ (.slice a4 ((aL i).length) a5)).heap.size:=by rw[size_setCell];exact Mk N d9.size
       generalize B:a2.setCell ⟨w.heap.size+2,6,none⟩ (.slice a4 ((aL i).length) a5)=A1 at b5 o1 o2⊢;clear B n8 n9 o0 hO d1 i0 a3 e2 N;obtain⟨p,q,t,v,j,x,k⟩:=b5.o.box.all;have z:=b5.o.box.row.lt;obtain⟨_,A2⟩:=b5.o.box.row.row.at (i:=4) E5;go_wp2
       go_meet
       refine⟨{r with texts:=r.texts++aL i,at':=gt},a4,a5,b5.o.put E5 rfl rfl,(by unfold Xx;rw[b8.o];simp only;rw[NA hv,c1.o,c8.o];simp only;rw[NA d7,<-h4.o,NA E9]),m5,m6,lo,(by show r.Zq<20;omega),(by show (r.texts++aL i).length<=200;rw[M_];omega),λc0 ht=>?_⟩;rcases Mv.1 ht with ht|ht
       .exact hgd.ts c0 ht
       .obtain⟨d0,hx,rfl⟩:=nR ht;exact m2.o d0 hx
      .have A3:Hid (∀W u,(r.texts.map Value.string)[W]? =some u->(C.alloc (.cells #[] 9)).cell? (ad.add W)=some u):=λW u X=>by
        have hj:W<r.texts.length:=by have:=(Mr.1 X).1;simpa using this
        obtain⟨b,o,e,hb,_,hc⟩:=t8 W hj;simp only[Na] at e;subst e;rw[Nf,j4.o.cell hb,hc];simp[hj] at X;simp[List.getD,hj,X]
       have A4:Hid (∀u∈r.texts.map Value.string,u.oneCell'=true):=λu X=>by obtain⟨d0,_,rfl⟩:=MM.1 X;rfl
       have A5:C.heap.size<=(C.alloc (.cells #[] 9)).heap.size:=j4.o.size;go_wp2_with (at_builtin;refine wpList_append_own _ rfl (.tmp 64) (.tmp 66) 26 rfl C.heap.size 9 ic _ 1 16 underlying26 j5 m7 m8 m9 rfl E8 (.b C.heap.size 0 0) 0 [] rfl j3.o ad r.texts.length xc (r.texts.map Value.string) rfl E9 A3.o A4.o F5 E5 A5 ?_;intro q0 w8 j7 v3 _;rw[MR,List.nil_append] at j7;have f7:=aK j4.o (Mj _) j3.o v3;have j6:=Kz j7;obtain⟨A6,A7,rfl⟩:=aF j7;clear j7 v3)
       refine (wY w8 l1 c3 i E5 (h5.o.kept f7)).mono ?_;rintro e w9 ⟨⟨g9,c9,rfl,h6⟩,k9⟩;have h7:=f7.trans k9;have h8:=Kz (au j6.o k9);have n4:Hid (∀W u,((aL i).map Value.string)[W]? =some u->w9.cell? ((⟨g9,0,none⟩:Addr).add W)=some u):=λW u X=>by
        have hj:W<(aL i).length:=by have:=(Mr.1 X).1;simpa using this
        obtain⟨b,o,e,_,hc⟩:=h6 W hj;simp only[Na,NI,and_true] at e;obtain⟨rfl,rfl⟩:=e;rw[Nf,hc];simp[hj] at X;simp[List.getD,hj,X]
       have n5:Hid (∀u∈(aL i).map Value.string,u.oneCell'=true):=λu X=>by obtain⟨d0,_,rfl⟩:=MM.1 X;rfl
       have n6:=h7.size;clear k9 h6;clear p q t v j x k z;clear t9;go_upto_region 17 with (at_builtin;refine wpList_append_own _ rfl (.tmp 67) (.tmp 69) 26 rfl C.heap.size 9 ic _ 1 16 underlying26 j5 m7 m8 m9 rfl E8 (.slice A6 r.texts.length A7) r.texts.length (r.texts.map Value.string) rfl h8.o ⟨g9,0,none⟩ (aL i).length c9 ((aL i).map Value.string) rfl E9 n4.o n5.o F5 E5 n6 ?_;intro v2 a2 d8 h9 _;have d9:=aK h7 (Mj _) h8.o h9;have n7:=Kz d8;obtain⟨a4,a5,rfl⟩:=aF d8;have a8:=Kz (O.o.kept d9);have n8:=a8.o.box.all.2.2.2.2.2.2;have n9:=a8.o.box.row.lt;obtain⟨_,o0⟩:=a8.o.box.row.row.at (i:=6) E5;clear d8 h9)
       have hO:a2.ownsRow C.heap.size 9 1 (.slice a4 (r.texts.length+(aL i).length) a5) (r.texts.length+(aL i).length) ((r.texts++aL i).map Value.string):=by rw[ND];exact n7.o
       obtain⟨z9,A0,ev,d1,i0⟩:=eY.owned (n0:=F.heap.size) (c:=w.heap.size+2) hO E5;simp only[Nb] at ev;obtain⟨rfl,a3,rfl⟩:=ev;have b5:Hid (NSt F.heap.size w (a2.setCell ⟨w.heap.size+2,6,none⟩ (.slice a4 (r.texts.length+(aL i).length) a5)) T y.cost (some ⟨H,I,none⟩) y.steps.length S {r with texts:=r.texts++aL i} a4 a5):=a8.o.Lv E5 (by simp[Q_.cells]) (d1) i0;have o1:(a2.setCell ⟨w.heap.size+2,6,none⟩ (.slice a4 (r.texts.length+(aL i).length) a5)).cell? ⟨E.heap.size,2,none⟩=some (.a gt):=by rw[Zj f6,d9.cell N];exact e2
       have o2:E.heap.size<(a2.setCell ⟨w.heap.size+2,6,none⟩ (.slice a4 (r.texts.length+(aL i).length) a5)).heap.size:=by rw[size_setCell];exact Mk N d9.size
       generalize B:a2.setCell ⟨w.heap.size+2,6,none⟩ (.slice a4 (r.texts.length+(aL i).length) a5)=A1 at b5 o1 o2⊢;clear B n8 n9 o0 hO d1 i0 a3 e2 N;obtain⟨p,q,t,v,j,x,k⟩:=b5.o.box.all;have z:=b5.o.box.row.lt;obtain⟨_,A2⟩:=b5.o.box.row.row.at (i:=4) E5;go_wp2
       go_meet
       refine⟨{r with texts:=r.texts++aL i,at':=gt},a4,a5,b5.o.put E5 rfl rfl,(by unfold Xx;rw[b8.o];simp only;rw[NA hv,c1.o,c8.o];simp only;rw[NA d7,<-h4.o,NA E9]),m5,m6,lo,(by show r.Zq<20;omega),(by show (r.texts++aL i).length<=200;rw[M_];omega),λc0 ht=>?_⟩;rcases Mv.1 ht with ht|ht
       .exact hgd.ts c0 ht
       .obtain⟨d0,hx,rfl⟩:=nR ht;exact m2.o d0 hx
     .go_upto_region 11 with fail
      generalize B:E.alloc (.cells #[.a gc,.bool true,.a gt,.string P] 168)=C at O h5 d3 e2 Q N K6⊢;clear B d3 e2 h5 K6;obtain⟨p,q,t,v,j,x,k⟩:=O.o.box.all;have z:=O.o.box.row.lt;obtain⟨_,g5⟩:=O.o.box.row.row.at (i:=5) E5;go_upto_region 12 with fail
      have i1:Hid (NSt F.heap.size w (C.setCell ⟨w.heap.size+2,5,none⟩ (.a (r.Zq+1))) T y.cost (some ⟨H,I,none⟩) y.steps.length S ({r with Zq:=r.Zq+1}) xa xc):=O.o.put E5 rfl rfl;have a6:(C.setCell ⟨w.heap.size+2,5,none⟩ (.a (r.Zq+1))).cell? ⟨E.heap.size,3,none⟩=some (.string P):=by rw[Zj f6];exact Q
      have a7:E.heap.size<(C.setCell ⟨w.heap.size+2,5,none⟩ (.a (r.Zq+1))).heap.size:=by rw[size_setCell];exact N
      generalize B:C.setCell ⟨w.heap.size+2,5,none⟩ (.a (r.Zq+1))=w7 at i1 a6 a7⊢;clear B;clear p q t v j x k z;clear g5;clear Q N;have Q:=a6;have N:=a7;clear a6 a7;obtain⟨p,q,t,v,j,x,k⟩:=i1.o.box.all;have z:=i1.o.box.row.lt;obtain⟨_,g2⟩:=i1.o.box.row.row.at (i:=1) E5;go_upto_region 13 with fail
      have i2:Hid (NSt F.heap.size w (w7.setCell ⟨w.heap.size+2,1,none⟩ (.bool true)) T y.cost (some ⟨H,I,none⟩) y.steps.length S ({r with Zq:=r.Zq+1,over:=true}) xa xc):=i1.o.put E5 rfl rfl;have a6:(w7.setCell ⟨w.heap.size+2,1,none⟩ (.bool true)).cell? ⟨E.heap.size,3,none⟩=some (.string P):=by rw[Zj f6];exact Q
      have a7:E.heap.size<(w7.setCell ⟨w.heap.size+2,1,none⟩ (.bool true)).heap.size:=by rw[size_setCell];exact N
      generalize B:w7.setCell ⟨w.heap.size+2,1,none⟩ (.bool true)=w8 at i2 a6 a7⊢;clear B;clear p q t v j x k z;clear g2;clear Q N;have Q:=a6;have N:=a7;clear a6 a7;obtain⟨p,q,t,v,j,x,k⟩:=i2.o.box.all;have z:=i2.o.box.row.lt;obtain⟨_,g4⟩:=i2.o.box.row.row.at (i:=2) E5;go_upto_region 14 with fail
      have i3:Hid (NSt F.heap.size w (w8.setCell ⟨w.heap.size+2,2,none⟩ (.bool true)) T y.cost (some ⟨H,I,none⟩) y.steps.length S ({r with Zq:=r.Zq+1,over:=true,fail:=true}) xa xc):=i2.o.put E5 rfl rfl;have a6:(w8.setCell ⟨w.heap.size+2,2,none⟩ (.bool true)).cell? ⟨E.heap.size,3,none⟩=some (.string P):=by rw[Zj f6];exact Q
      have a7:E.heap.size<(w8.setCell ⟨w.heap.size+2,2,none⟩ (.bool true)).heap.size:=by rw[size_setCell];exact N
      generalize B:w8.setCell ⟨w.heap.size+2,2,none⟩ (.bool true)=w9 at i3 a6 a7⊢;clear B;clear p q t v j x k z;clear g4;clear Q N;have Q:=a6;have N:=a7;clear a6 a7;obtain⟨p,q,t,v,j,x,k⟩:=i3.o.box.all;have z:=i3.o.box.row.lt;obtain⟨_,g7⟩:=i3.o.box.row.row.at (i:=3) E5;go_upto_region 15 with fail
      have a8:Hid (NSt F.heap.size w (w9.setCell ⟨w.heap.size+2,3,none⟩ (.string P)) T y.cost (some ⟨H,I,none⟩) y.steps.length S ({r with Zq:=r.Zq+1,over:=true,fail:=true,text:=P}) xa xc):=i3.o.put E5 rfl rfl;have a6:(w9.setCell ⟨w.heap.size+2,3,none⟩ (.string P)).cell? ⟨E.heap.size,3,none⟩=some (.string P):=by rw[Zj f6];exact Q
      have a7:E.heap.size<(w9.setCell ⟨w.heap.size+2,3,none⟩ (.string P)).heap.size:=by rw[size_setCell];exact N
      generalize B:w9.setCell ⟨w.heap.size+2,3,none⟩ (.string P)=a2 at a8 a6 a7⊢;clear B;clear p q t v j x k z;clear g7;clear Q N;have Q:=a6;have N:=a7;clear a6 a7;obtain⟨L,Y⟩:=aj (Q_.cells ({r with Zq:=r.Zq+1,over:=true,fail:=true,text:=P}) xa xc);have a3:L.length=7:=by rw[Y];rfl
      have l3:Hid (L.toArray.all (·.oneCell')=true):=by show _=_;rw[Y];exact all_oneCell_toArray (by simp[Q_.cells,Value.oneCell'])
      have l4:Hid (a2.rangeAt (w.heap.size+2) 0 L):=by show World.rangeAt _ _ _ _;rw[Y];exact a8.o.box.rng
      have z:=a8.o.box.row.lt;have l5:Hid ((prog.info? 48).map (·.size)=some L.toArray.size):=by show _=_;rw[Tryz.fG];simp[a3]
      have g8:Hid ((prog.info? 48).map (·.size)=some L.length):=by show _=_;rw[Tryz.fG,a3]
      have h1:=Kz (a8.o.kept ((K_.refl a2).alloc (.cells #[] 9)));have h3:Hid ((a2.alloc (.cells #[] 9)).there (w.heap.size+3) 0 L.toArray.size):=by show World.there _ _ _ _;simpa[a3] using h1.o.res.row.there (o:=0) (m:=7) (Mj _)
      have⟨l6,z4⟩:=aH Y a3;clear Y a3;go_wp2_with (first|(refine wpList_load_mid rfl 48 _ rfl (w.heap.size+2) 0 rfl L _ l4.o underlying48 rfl g8.o ?_)|(refine wpList_store_mid rfl 48 _ _ rfl (w.heap.size+3) 0 L.toArray rfl rfl h3.o l5.o l3.o ?_;rw[List.toList_toArray]))
      have hR:=Mo (a2.alloc (.cells #[] 9)) (w.heap.size+3) 0 L (by have:=h3.o;simpa using this);refine bC L _ _ results114 rfl hR underlying48 rfl g8.o rfl rfl ?_;have l7:=l6.o;subst l7;exact h1.o.ends (by unfold Xx;rw[b8.o];simp only;rw[NA hv,c1.o,c8.o];simp only;rw[NA d7,<-h4.o,Nz rfl]) (asks:=[]) (λz5 hi=>by simp at hi) rfl rfl
  case rest=>
   clear p q t v j x k z d5 k2 o5 lo q2 tl i7 e8;obtain⟨f,b1,b2,v4,v8,D0,D1,y2,D2,D3,v9⟩:=hcut;have⟨HM,w0,A8⟩:=di v4 v8 v9;clear v4 v8 v9;obtain⟨wM,rfl⟩:=aj wc;go_upto_region 18 with fail
   obtain⟨p,q,t,v,j,x,k⟩:=HM.o.box.all;have z:=HM.o.box.row.lt;obtain⟨_,g5⟩:=HM.o.box.row.row.at (i:=5) E5;go_upto_region 19 with fail
   have c6:Hid (NSt F.heap.size w (wM.setCell ⟨w.heap.size+2,5,none⟩ (.a (f.Zq+1))) T y.cost na y.steps.length S ({f with Zq:=f.Zq+1}) b1 b2):=HM.o.put E5 rfl rfl;generalize B:wM.setCell ⟨w.heap.size+2,5,none⟩ (.a (f.Zq+1))=D at c6  ⊢;clear B;clear p q t v j x k z;clear g5;obtain⟨G,c7⟩:∃G:Nat,f.at'= (G:Int):=⟨f.at'.toNat,E5⟩;have e9:G<y.steps.length:=E5;have y3:(G:Int)<(y.steps.length:Int):=E5;obtain⟨H,I,y4,rfl,c5,M,Z,ca,ac,cc,rfl,f2,_,_⟩:=(Steps.kept p7.o (i9.o.trans c6.o.kw)) G e9;obtain⟨s,hs⟩:=aj (y.steps.getD G Xq.zero);rw[<-hs] at M f2;have t0:=M 0 _ rfl;have t1:=M 1 _ rfl;have t2:=M 2 _ rfl;have t3:=M 3 _ rfl;have t4:=M 4 _ rfl;have t5:=M 5 _ rfl;have t6:=M 6 _ rfl;have t7:=M 7 _ rfl;rw[Ng] at t0;have w1:Hid (Strs F Z s.asks):=by
    obtain⟨D4,D5,D6,Q,_,w3,D7,D8,D9,E0,rfl,d1,_⟩:=p7.o G e9;simp only[Na,NI,and_true] at Q;obtain⟨rfl,rfl⟩:=Q;rw[<-hs] at w3 d1;have J:=((i9.o.trans c6.o.kw).cell H8).trans (w3 0 _ rfl);rw[Ng,t0] at J;simp only[Na,Nb] at J;obtain⟨rfl,_,_⟩:=J;exact d1
   have c1:Hid (stepOf ⟨y.cost,y.steps⟩ f.at'=s):=by show _=_;unfold stepOf;rw[c7,hs];rfl
   have g0:s∈y.steps:=by rw[hs];simp[List.getD,e9]
   have f3:y∈A:=by rw[HY.o];simp[List.getD,hk]
   have A9:=(o4 y f3).each s g0;have q4:=(k1 y f3 s g0).1;have p1:=c6.o.a1;have pz:=c6.o.abz;obtain⟨p,q,t,v,j,x,k⟩:=c6.o.box.all;have z:=c6.o.box.row.lt;dsimp only at j;rw[c7] at j;clear M f2 hs c7;go_upto_region 20 with fail
   have kS:K_ D (D.alloc (.cells #[.slice Z s.asks.length ca,.a s.on,.slice ac s.cases.length cc,.a s.els,.a s.fall,.bool s.fin,.bool s.bad,.string s.give] 128)):=ah _ _;have a9:=Kz (c6.o.kept kS);have U:=X_ D #[.slice Z s.asks.length ca,.a s.on,.slice ac s.cases.length cc,.a s.els,.a s.fall,.bool s.fin,.bool s.bad,.string s.give] 128 0 _ rfl;have v5:=X_ D #[.slice Z s.asks.length ca,.a s.on,.slice ac s.cases.length cc,.a s.els,.a s.fall,.bool s.fin,.bool s.bad,.string s.give] 128 5 _ rfl;have v6:=X_ D #[.slice Z s.asks.length ca,.a s.on,.slice ac s.cases.length cc,.a s.els,.a s.fall,.bool s.fin,.bool s.bad,.string s.give] 128 6 _ rfl;have v7:=X_ D #[.slice Z s.asks.length ca,.a s.on,.slice ac s.cases.length cc,.a s.els,.a s.fall,.bool s.fin,.bool s.bad,.string s.give] 128 7 _ rfl;simp only[MR] at U v5 v6 v7;have V:D.heap.size<(D.alloc (.cells #[.slice Z s.asks.length ca,.a s.on,.slice ac s.cases.length cc,.a s.els,.a s.fall,.bool s.fin,.bool s.bad,.string s.give] 128)).heap.size:=E9;have e0:D.heap.size≠w.heap.size+2:=E5;have b0:D.heap.size≠w.heap.size+3:=by have:=c6.o.res.lt;omega
   generalize B:D.alloc (.cells #[.slice Z s.asks.length ca,.a s.on,.slice ac s.cases.length cc,.a s.els,.a s.fall,.bool s.fin,.bool s.bad,.string s.give] 128)=wQ at a9 U v5 v6 v7 V⊢;clear B kS t0 t1 t2 t3 t4 t5 t6 t7 p1 pz;clear p q t v j x k z;have e1:=V;have e3:=V;cases j8:s.fin
   .rw[j8] at v5;obtain⟨p,q,t,v,j,x,k⟩:=a9.o.box.all;have c:w.heap.size+2≠w.heap.size+3:=E5;have i4:Hid (∀w',K_ wQ w'->w'.cell? ⟨D.heap.size,0,none⟩=some (.slice Z s.asks.length ca)/\w'.cell? ⟨w.heap.size+2,0,none⟩=some (.string ({f with Zq:=f.Zq+1}).name)/\w'.cell? ⟨w.heap.size+2,1,none⟩=some (.bool ({f with Zq:=f.Zq+1}).over)/\w'.cell? ⟨w.heap.size+2,2,none⟩=some (.bool ({f with Zq:=f.Zq+1}).fail)/\w'.cell? ⟨w.heap.size+2,3,none⟩=some (.string ({f with Zq:=f.Zq+1}).text)/\w'.cell? ⟨w.heap.size+2,4,none⟩=some (.a ({f with Zq:=f.Zq+1}).at')/\w'.cell? ⟨w.heap.size+2,5,none⟩=some (.a ({f with Zq:=f.Zq+1}).Zq)/\w'.cell? ⟨w.heap.size+2,6,none⟩=some (.slice b1 ({f with Zq:=f.Zq+1}).texts.length b2)):=λw' K=>⟨(K.cell V).trans U,(K.cell a9.o.box.row.lt).trans p,(K.cell a9.o.box.row.lt).trans q,(K.cell a9.o.box.row.lt).trans t,(K.cell a9.o.box.row.lt).trans v,(K.cell a9.o.box.row.lt).trans j,(K.cell a9.o.box.row.lt).trans x,(K.cell a9.o.box.row.lt).trans k⟩
    go_upto_region 24 with fail
    refine ik 4 i4.o (aY wQ) λh=>?_;have HL:=Kz (a9.o.kept (aY wQ));generalize g1:wQ.drew=wd at h HL⊢;clear g1 p q t v j x k i4;refine ae 0 h ?_;refine ae 1 h ?_;refine ae 2 h ?_;obtain⟨⟨⟨_,x0⟩,f0⟩,⟨⟨_,B0⟩,f1⟩,⟨⟨_,B1⟩,B2⟩,⟨⟨_,B3⟩,B4⟩,⟨⟨_,x4⟩,f4⟩,⟨⟨_,x5⟩,f5⟩,⟨_,x6⟩,B5⟩:=HL.o.res.row.ED;have xz:=HL.o.res.lt;refine ai 3 λK n=>?_;go_simp
    refine n.out _ _ (λ_=>⟨(by rw[Zj b0,Zj b0,Zj b0,Zj b0,Zj b0,Zj b0,Zj b0];exact h.1),(by rw[Zj c,Zj c,Zj c,Zj c,Zj c,Zj c,Zj c];exact h.2.1),(by rw[Zj c,Zj c,Zj c,Zj c,Zj c,Zj c,Zj c];exact h.2.2.1),(by rw[Zj c,Zj c,Zj c,Zj c,Zj c,Zj c,Zj c];exact h.2.2.2.1),(by rw[Zj c,Zj c,Zj c,Zj c,Zj c,Zj c,Zj c];exact h.2.2.2.2.1),(by rw[Zj c,Zj c,Zj c,Zj c,Zj c,Zj c,Zj c];exact h.2.2.2.2.2.1),(by rw[Zj c,Zj c,Zj c,Zj c,Zj c,Zj c,Zj c];exact h.2.2.2.2.2.2.1),(by rw[Zj c,Zj c,Zj c,Zj c,Zj c,Zj c,Zj c];exact h.2.2.2.2.2.2.2)⟩) ?_;clear n K;try simp only
    refine ai 4 λK n=>?_;go_simp
    refine af n (λb4=>NB rfl b4) ?_;clear n K;refine aC ?_;go_wp2_with fail
    have hR:=Mo wd (w.heap.size+3) 0 (Q_.cells ({f with Zq:=f.Zq+1}) b1 b2) (HL.o.res.row.there (o:=0) (m:=7) (Mj _));refine bC (Q_.cells ({f with Zq:=f.Zq+1}) b1 b2) _ _ results114 rfl hR underlying48 rfl Tryz.fG rfl rfl ?_;exact HL.o.ends (by rw[w0.o];unfold ek;rw[c1.o,j8];rfl) (asks:=s.asks) (eY.old w1.o (i9.o.trans HL.o.kw) (Mj _)) rfl rfl
   .rw[j8] at v5;go_upto_region 21 with fail
    obtain⟨p,q,t,v,j,x,k⟩:=a9.o.box.all;have z:=a9.o.box.row.lt;obtain⟨_,g2⟩:=a9.o.box.row.row.at (i:=1) E5;go_upto_region 22 with fail
    have i5:Hid (NSt F.heap.size w (wQ.setCell ⟨w.heap.size+2,1,none⟩ (.bool true)) T y.cost (some ⟨H,I,none⟩) y.steps.length S ({f with Zq:=f.Zq+1,over:=true}) b1 b2):=a9.o.put E5 rfl rfl;have e4:(wQ.setCell ⟨w.heap.size+2,1,none⟩ (.bool true)).cell? ⟨D.heap.size,6,none⟩=some (.bool s.bad):=by rw[Zj e0];exact v6
    have e5:D.heap.size<(wQ.setCell ⟨w.heap.size+2,1,none⟩ (.bool true)).heap.size:=by rw[size_setCell];exact e1
    have e6:(wQ.setCell ⟨w.heap.size+2,1,none⟩ (.bool true)).cell? ⟨D.heap.size,7,none⟩=some (.string s.give):=by rw[Zj e0];exact v7
    have e7:D.heap.size<(wQ.setCell ⟨w.heap.size+2,1,none⟩ (.bool true)).heap.size:=by rw[size_setCell];exact e3
    have b6:(wQ.setCell ⟨w.heap.size+2,1,none⟩ (.bool true)).cell? ⟨D.heap.size,0,none⟩=some (.slice Z s.asks.length ca):=by rw[Zj e0];exact U
    have b7:D.heap.size<(wQ.setCell ⟨w.heap.size+2,1,none⟩ (.bool true)).heap.size:=by rw[size_setCell];exact V
    generalize B:wQ.setCell ⟨w.heap.size+2,1,none⟩ (.bool true)=wR at i5 e4 e5 e6 e7 b6 b7⊢;clear B;clear p q t v j x k z;clear g2;clear v6 e1;have v6:=e4;have e1:=e5;clear e4 e5;clear v7 e3;have v7:=e6;have e3:=e7;clear e6 e7;clear U V;have U:=b6;have V:=b7;clear b6 b7;obtain⟨p,q,t,v,j,x,k⟩:=i5.o.box.all;have z:=i5.o.box.row.lt;obtain⟨_,g4⟩:=i5.o.box.row.row.at (i:=2) E5;go_upto_region 23 with fail
    have i6:Hid (NSt F.heap.size w (wR.setCell ⟨w.heap.size+2,2,none⟩ (.bool s.bad)) T y.cost (some ⟨H,I,none⟩) y.steps.length S ({f with Zq:=f.Zq+1,over:=true,fail:=s.bad}) b1 b2):=i5.o.put E5 rfl rfl;have e4:(wR.setCell ⟨w.heap.size+2,2,none⟩ (.bool s.bad)).cell? ⟨D.heap.size,6,none⟩=some (.bool s.bad):=by rw[Zj e0];exact v6
    have e5:D.heap.size<(wR.setCell ⟨w.heap.size+2,2,none⟩ (.bool s.bad)).heap.size:=by rw[size_setCell];exact e1
    have e6:(wR.setCell ⟨w.heap.size+2,2,none⟩ (.bool s.bad)).cell? ⟨D.heap.size,7,none⟩=some (.string s.give):=by rw[Zj e0];exact v7
    have e7:D.heap.size<(wR.setCell ⟨w.heap.size+2,2,none⟩ (.bool s.bad)).heap.size:=by rw[size_setCell];exact e3
    have b6:(wR.setCell ⟨w.heap.size+2,2,none⟩ (.bool s.bad)).cell? ⟨D.heap.size,0,none⟩=some (.slice Z s.asks.length ca):=by rw[Zj e0];exact U
    have b7:D.heap.size<(wR.setCell ⟨w.heap.size+2,2,none⟩ (.bool s.bad)).heap.size:=by rw[size_setCell];exact V
    generalize B:wR.setCell ⟨w.heap.size+2,2,none⟩ (.bool s.bad)=wS at i6 e4 e5 e6 e7 b6 b7⊢;clear B;clear p q t v j x k z;clear g4;clear v6 e1;have v6:=e4;have e1:=e5;clear e4 e5;clear v7 e3;have v7:=e6;have e3:=e7;clear e6 e7;clear U V;have U:=b6;have V:=b7;clear b6 b7;obtain⟨p,q,t,v,j,x,k⟩:=i6.o.box.all;have z:=i6.o.box.row.lt;have B6:s.give.size<=maxLen:=A9.give;have B7:f.texts.length<=maxLen:=F5;have w4:∀c0∈f.texts,c0.size<=maxLen:=λc0 ht=>by have:=A8.o c0 ht;unfold maxLen;omega
    go_wp2_with fail
    refine (pX wS s.give b1 b2 f.texts B6 B7 w4 i6.o.txt.strs).mono ?_;rintro e wT ⟨rfl,kT⟩;have j9:=Kz (i6.o.kept kT);have w5:=(kT.cell V).trans U;have w6:=Mk V kT.size;clear U V v6 v7 e1 e3 kT w4;clear p q t v j x k z;have U:=w5;have V:=w6;clear w5 w6;obtain⟨fb,o3⟩:=aj (nL s.give f.texts);rw[<-o3];have B8:=Kz o3;clear o3;obtain⟨p,q,t,v,j,x,k⟩:=j9.o.box.all;have z:=j9.o.box.row.lt;obtain⟨_,g7⟩:=j9.o.box.row.row.at (i:=3) E5;go_upto_region 24 with fail
    have c2:Hid (NSt F.heap.size w (wT.setCell ⟨w.heap.size+2,3,none⟩ (.string fb)) T y.cost (some ⟨H,I,none⟩) y.steps.length S ({f with Zq:=f.Zq+1,over:=true,fail:=s.bad,text:=fb}) b1 b2):=j9.o.put E5 rfl rfl;have b6:(wT.setCell ⟨w.heap.size+2,3,none⟩ (.string fb)).cell? ⟨D.heap.size,0,none⟩=some (.slice Z s.asks.length ca):=by rw[Zj e0];exact U
    have b7:D.heap.size<(wT.setCell ⟨w.heap.size+2,3,none⟩ (.string fb)).heap.size:=by rw[size_setCell];exact V
    generalize B:wT.setCell ⟨w.heap.size+2,3,none⟩ (.string fb)=wU at c2 b6 b7⊢;clear B;clear p q t v j x k z;clear g7;clear U V;have U:=b6;have V:=b7;clear b6 b7;obtain⟨p,q,t,v,j,x,k⟩:=c2.o.box.all;have c:w.heap.size+2≠w.heap.size+3:=E5;have i4:Hid (∀w',K_ wU w'->w'.cell? ⟨D.heap.size,0,none⟩=some (.slice Z s.asks.length ca)/\w'.cell? ⟨w.heap.size+2,0,none⟩=some (.string ({f with Zq:=f.Zq+1,over:=true,fail:=s.bad,text:=fb}).name)/\w'.cell? ⟨w.heap.size+2,1,none⟩=some (.bool ({f with Zq:=f.Zq+1,over:=true,fail:=s.bad,text:=fb}).over)/\w'.cell? ⟨w.heap.size+2,2,none⟩=some (.bool ({f with Zq:=f.Zq+1,over:=true,fail:=s.bad,text:=fb}).fail)/\w'.cell? ⟨w.heap.size+2,3,none⟩=some (.string ({f with Zq:=f.Zq+1,over:=true,fail:=s.bad,text:=fb}).text)/\w'.cell? ⟨w.heap.size+2,4,none⟩=some (.a ({f with Zq:=f.Zq+1,over:=true,fail:=s.bad,text:=fb}).at')/\w'.cell? ⟨w.heap.size+2,5,none⟩=some (.a ({f with Zq:=f.Zq+1,over:=true,fail:=s.bad,text:=fb}).Zq)/\w'.cell? ⟨w.heap.size+2,6,none⟩=some (.slice b1 ({f with Zq:=f.Zq+1,over:=true,fail:=s.bad,text:=fb}).texts.length b2)):=λw' K=>⟨(K.cell V).trans U,(K.cell c2.o.box.row.lt).trans p,(K.cell c2.o.box.row.lt).trans q,(K.cell c2.o.box.row.lt).trans t,(K.cell c2.o.box.row.lt).trans v,(K.cell c2.o.box.row.lt).trans j,(K.cell c2.o.box.row.lt).trans x,(K.cell c2.o.box.row.lt).trans k⟩
    go_upto_region 24 with fail
    refine ik 4 i4.o (aY wU) λh=>?_;have HL:=Kz (c2.o.kept (aY wU));generalize g1:wU.drew=wd at h HL⊢;clear g1 p q t v j x k i4;refine ae 0 h ?_;refine ae 1 h ?_;refine ae 2 h ?_;obtain⟨⟨⟨_,x0⟩,f0⟩,⟨⟨_,B0⟩,f1⟩,⟨⟨_,B1⟩,B2⟩,⟨⟨_,B3⟩,B4⟩,⟨⟨_,x4⟩,f4⟩,⟨⟨_,x5⟩,f5⟩,⟨_,x6⟩,B5⟩:=HL.o.res.row.ED;have xz:=HL.o.res.lt;refine ai 3 λK n=>?_;go_simp
    refine n.out _ _ (λ_=>⟨(by rw[Zj b0,Zj b0,Zj b0,Zj b0,Zj b0,Zj b0,Zj b0];exact h.1),(by rw[Zj c,Zj c,Zj c,Zj c,Zj c,Zj c,Zj c];exact h.2.1),(by rw[Zj c,Zj c,Zj c,Zj c,Zj c,Zj c,Zj c];exact h.2.2.1),(by rw[Zj c,Zj c,Zj c,Zj c,Zj c,Zj c,Zj c];exact h.2.2.2.1),(by rw[Zj c,Zj c,Zj c,Zj c,Zj c,Zj c,Zj c];exact h.2.2.2.2.1),(by rw[Zj c,Zj c,Zj c,Zj c,Zj c,Zj c,Zj c];exact h.2.2.2.2.2.1),(by rw[Zj c,Zj c,Zj c,Zj c,Zj c,Zj c,Zj c];exact h.2.2.2.2.2.2.1),(by rw[Zj c,Zj c,Zj c,Zj c,Zj c,Zj c,Zj c];exact h.2.2.2.2.2.2.2)⟩) ?_;clear n K;try simp only
    refine ai 4 λK n=>?_;go_simp
    refine af n (λb4=>NB rfl b4) ?_;clear n K;refine aC ?_;go_wp2_with fail
    have hR:=Mo wd (w.heap.size+3) 0 (Q_.cells ({f with Zq:=f.Zq+1,over:=true,fail:=s.bad,text:=fb}) b1 b2) (HL.o.res.row.there (o:=0) (m:=7) (Mj _));refine bC (Q_.cells ({f with Zq:=f.Zq+1,over:=true,fail:=s.bad,text:=fb}) b1 b2) _ _ results114 rfl hR underlying48 rfl Tryz.fG rfl rfl ?_;exact HL.o.ends (by rw[w0.o];unfold ek;rw[c1.o,j8,B8.o];rfl) (asks:=s.asks) (eY.old w1.o (i9.o.trans HL.o.kw) (Mj _)) rfl rfl
