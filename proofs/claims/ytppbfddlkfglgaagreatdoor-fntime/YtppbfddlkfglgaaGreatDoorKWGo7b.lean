import Derived.Test.YtppbfddlkfglgaaGreatDoorKVTraj
set_option maxRecDepth 100000
set_option maxHeartbeats 25600000
namespace Go.Proofs.YtppbfddlkfglgaaGreatDoor
open Go.RowKit Go.Proofs.Tryz
theorem EO(w:QX)(cost j:Int)(a d:QW)(cap L:Nat)(l:List Xq)(ans:List Xz)(B:l.length<=maxLen)(C:∀s∈l,s.Fits)(D:Steps w a l)(M:ans.length<=maxLen)(_has:∀c∈ans,c.text.size<=maxLen)(_hD:fI w d ans)(N:Hid (¬(oD cost l j/\ans.length= (lU l j).asks.length))):
  Calls prog 72 #[.agg #[.b cost,.slice a l.length cap],.b j,.slice d ans.length L] w λe w'=>(∃g,e=.returned (.agg g.cells.toArray)/\nu cost l j ans g)/\K_ w w':=by
 have O:=B;have P:=M;unfold maxLen at O P;have r:K_ w ((w.alloc (.cells #[.b cost,.slice a l.length cap] 62)).alloc (.cells #[.b 0,.bool false,.b 0,.string ⟨#[]⟩] 151)):=(ai _ _).alloc _;go_enter func72,ntmps72
 go_wp2_with fail
 refine (gp _ cost a cap l B C (D.kept r)).mono ?_;rintro e w1 ⟨z,k⟩;have p:=r.trans k;have E:Row w1 (w.heap.size+1) 4:=Row.kept (by have:=Row.made (w.alloc (.cells #[.b cost,.slice a l.length cap] 62)) #[.b 0,.bool false,.b 0,.string ⟨#[]⟩] 151;simpa using this) k;have q:=Kz E;clear E;obtain⟨Z,a0⟩:=k.rules;have Q:=k.size;simp only[Qh] at Q;have x0:w.heap.size<w1.heap.size:=A7;have x1:w.heap.size+1<w1.heap.size:=A7;rcases z.cases with⟨rfl,F⟩|⟨rfl,G⟩
 .have t:=Kz F;clear F z r k;by_cases R:0<=j
  .cases H:decide (j<=(l.length:Int)-1)
   .have S:(l.length:Int)-1<j:=by simpa using H
    go_wp2
    have i:=PD w1 (w.heap.size+1) 0 cO.none.cells (q.o.there (o:=0) (m:=4) (Pw _));exact Zx cO.none.cells _ results72 rfl i underlying151 rfl Tryz.ed rfl ⟨⟨_,rfl,Or.inl ⟨λh=>(by have:=h.2.1;omega),rfl⟩⟩,K_.setCells (g:=w.heap.size+1) A7 cO.none.cells 0 p⟩
   .have S:j<=(l.length:Int)-1:=by simpa using H
    obtain⟨n,rfl⟩:=Int.eq_ofNat_of_zero_le R;have A:n<l.length:=A7;obtain⟨b,o,cs,rfl,hb,f,aa,ca,ac,cc,rfl,T,U,V⟩:=D.kept p n A;have W:=C (l.getD n Xq.zero) (by simp[List.getD,A]);obtain⟨s,v⟩:=aj (l.getD n Xq.zero);rw[<-v] at f W T U V;have x:Hid (lU l n=s):=by rw[v];show Hid (l.getD (n:Int).toNat Xq.zero=_);rw[Int.toNat_natCast];exact rfl
    have a1:Hid (lQ s l.length):=by rw[v];exact t.o.2.2 n A
    clear v;have X:=f 0 _ rfl;have c1:=f 1 _ rfl;have c2:=f 2 _ rfl;have c3:=f 3 _ rfl;have c4:=f 4 _ rfl;have I:=f 5 _ rfl;have c6:=f 6 _ rfl;have c7:=f 7 _ rfl;simp only[Qp] at X;clear f;cases y:s.fin
    .rw[y] at I;have J:Hid (oD cost l n):=⟨t.o,⟨A7,A7⟩,by rw[x.o];exact y⟩;have K:ans.length≠s.asks.length:=λh=>N.out ⟨J.o,by rw[x.o];exact h⟩
     have a2:((ans.length:Int) != (s.asks.length:Int))=true:=D7;have Y:=Kz K;clear K;go_wp2
     have i:=PD w1 (w.heap.size+1) 0 cO.none.cells (q.o.there (o:=0) (m:=4) (Pw _));exact Zx cO.none.cells _ results72 rfl i underlying151 rfl Tryz.ed rfl ⟨⟨_,rfl,Or.inr ⟨J.o,Or.inl ⟨λh=>Y.o (by have:=h.1;rw[x.o] at this;exact this),rfl⟩⟩⟩,K_.setCells (g:=w.heap.size+1) A7 cO.none.cells 0 p⟩
    .rw[y] at I;go_wp2
     have i:=PD w1 (w.heap.size+1) 0 cO.none.cells (q.o.there (o:=0) (m:=4) (Pw _));exact Zx cO.none.cells _ results72 rfl i underlying151 rfl Tryz.ed rfl ⟨⟨_,rfl,Or.inl ⟨λh=>(by have:=h.2.2;rw[x.o,y] at this;cases this),rfl⟩⟩,K_.setCells (g:=w.heap.size+1) A7 cO.none.cells 0 p⟩
  .skip
   go_wp2
   have i:=PD w1 (w.heap.size+1) 0 cO.none.cells (q.o.there (o:=0) (m:=4) (Pw _));exact Zx cO.none.cells _ results72 rfl i underlying151 rfl Tryz.ed rfl ⟨⟨_,rfl,Or.inl ⟨λh=>(by have:=h.2.1;omega),rfl⟩⟩,K_.setCells (g:=w.heap.size+1) A7 cO.none.cells 0 p⟩
 .have t:=Kz G;clear G z r k;go_wp2
  have i:=PD w1 (w.heap.size+1) 0 cO.none.cells (q.o.there (o:=0) (m:=4) (Pw _));exact Zx cO.none.cells _ results72 rfl i underlying151 rfl Tryz.ed rfl ⟨⟨_,rfl,Or.inl ⟨λh=>t.o h.1,rfl⟩⟩,K_.setCells (g:=w.heap.size+1) A7 cO.none.cells 0 p⟩
theorem Cx(w:QX)(cost A:Int)(a d:QW)(cap c8:Nat)(l:List Xq)(ans:List Xz)(hl:l.length<=maxLen)(hs:∀s∈l,s.Fits)(hS:Steps w a l)(c9:ans.length<=maxLen)(d0:∀c∈ans,c.text.size<=maxLen)(U:fI w d ans)(hF:oD cost l A)(hE:ans.length= (lU l A).asks.length):
  Calls prog 72 #[.agg #[.b cost,.slice a l.length cap],.b A,.slice d ans.length c8] w λe w'=>(∃g,e=.returned (.agg g.cells.toArray)/\nu cost l A ans g)/\K_ w w':=by
 have⟨B,a4⟩:=aJ hF hE;clear hF hE;have d2:=hl;have d3:=c9;unfold maxLen at d2 d3;have V:K_ w ((w.alloc (.cells #[.b cost,.slice a l.length cap] 62)).alloc (.cells #[.b 0,.bool false,.b 0,.string ⟨#[]⟩] 151)):=(ai _ _).alloc _;go_enter func72,ntmps72
 go_wp2_with fail
 refine (gp _ cost a cap l hl hs (hS.kept V)).mono ?_;rintro e w1 ⟨a5,F⟩;have C:=V.trans F;have a6:Row w1 (w.heap.size+1) 4:=Row.kept (by have:=Row.made (w.alloc (.cells #[.b cost,.slice a l.length cap] 62)) #[.b 0,.bool false,.b 0,.string ⟨#[]⟩] 151;simpa using this) F;have G:=Kz a6;clear a6;obtain⟨f5,f6⟩:=F.rules;have d4:=F.size;simp only[Qh] at d4;have x0:w.heap.size<w1.heap.size:=A7;have x1:w.heap.size+1<w1.heap.size:=A7;rcases a5.cases with⟨rfl,a7⟩|⟨rfl,d5⟩
 .have HV:=Kz a7;clear a7 a5 V F;have p1:0<=A:=B.o.2.1.1;have p2:A<l.length:=B.o.2.1.2;obtain⟨v,rfl⟩:=Int.eq_ofNat_of_zero_le p1;have W:v<l.length:=A7;obtain⟨b,o,cs,rfl,hb,q,H,I,J,K,rfl,hA,hC,d6⟩:=hS.kept C v W;have a8:=hs (l.getD v Xq.zero) (by simp[List.getD,W]);obtain⟨s,M⟩:=aj (l.getD v Xq.zero);rw[<-M] at q a8 hA hC d6;have x:Hid (lU l v=s):=by rw[M];show Hid (l.getD (v:Int).toNat Xq.zero=_);rw[Int.toNat_natCast];exact rfl
  have d7:Hid (lQ s l.length):=by rw[M];exact HV.o.2.2 v W
  clear M;have c0:=q 0 _ rfl;have d8:=q 1 _ rfl;have d9:=q 2 _ rfl;have e0:=q 3 _ rfl;have c4:=q 4 _ rfl;have c5:=q 5 _ rfl;have c6:=q 6 _ rfl;have e1:=q 7 _ rfl;simp only[Qp] at c0;clear q;have a9:s.fin=false:=by have:=B.o.2.2;rw[x.o] at this;exact this
  rw[a9] at c5;have N:Hid (ans.length=s.asks.length):=by have:=a4.o;rw[x.o] at this;exact this
  have f7:((ans.length:Int) != (s.asks.length:Int))=false:=by have:=N.o;simp;omega
  have D:Hid (oD cost l v):=B.o;have b0:Hid (Ie s l.length):=d7.o.2 a9;clear B a4;have O:K_ w1 (w1.alloc (.cells #[.slice H s.asks.length I,.b s.on,.slice J s.cases.length K,.b s.els,.b s.fall,.bool false,.bool s.bad,.string s.give] 146)):=ai _ _;have X:=C.trans O;have e2:=Kz (G.o.kept O);go_wp2_with (go_at_call 29;refine (yD _ _ _ _ A7 A7).mono ?_;rintro e w' ⟨rfl,b1⟩;have e3:=Eq.symm b1;clear b1;subst e3)
  clear c0 d8 d9 e0 c4 c5 c6 e1;go_loop [8] (λi=>∃k:Nat,k<=ans.length/\i=.b k/\nC ans qw k) λi=>ans.length-(intOf i).toNat
  case atStart=>exact⟨0,Py _,rfl,λj r=>aS r⟩
  case round=>
   obtain⟨k,Y,rfl,y⟩:=hrel;have f:=Kz y;clear y;by_cases P:k<ans.length
   .obtain⟨e5,o1,rfl,e6,z⟩:=U.kept X k P;have b2:(ans.getD k Xz.zero).text.size<=maxLen:=d0 _ (by simp[List.getD,P]);obtain⟨c,n⟩:=aj (ans.getD k Xz.zero);rw[<-n] at z b2;have t:=Kz n;clear n;unfold maxLen at b2;have d1:=z 1 _ rfl;clear z;by_cases f8:(200:Int)<c.text.size
    .skip
     go_wp2
     have p:=World.rangeAt_alloc (PD w1 (w.heap.size+1) 0 cO.none.cells (G.o.there (o:=0) (m:=4) (Pw _))) (.cells #[.slice H s.asks.length I,.b s.on,.slice J s.cases.length K,.b s.els,.b s.fall,.bool false,.bool s.bad,.string s.give] 146);exact Zx cO.none.cells _ results72 rfl p underlying151 rfl Tryz.ed rfl ⟨⟨_,rfl,Or.inr ⟨D.o,by rw[x.o];exact Or.inl ⟨λh=>h.2 ⟨k,P,by unfold qw;rw[<-t.o];omega⟩,rfl⟩⟩⟩,K_.alloc (K_.setCells (g:=w.heap.size+1) A7 cO.none.cells 0 C) _⟩
    .go_wp2
     go_round
     case rel=>
      refine⟨k+1,A7,C8,λj r=>?_⟩;by_cases e:j=k
      .subst e;unfold qw;rw[<-t.o];omega
      .exact f.o j A7
     case measure=>simp[intOf];omega
   .have L:Hid (yK s ans):=⟨N.o,λ⟨i,hi,h⟩=>f.o i A7 h⟩;clear f;go_wp2
    go_loop [9] (λi=>∃k:Nat,k<=ans.length/\i=.b k/\nC ans ja k) λi=>ans.length-(intOf i).toNat
    case atStart=>exact⟨0,Py _,rfl,λj r=>aS r⟩
    case round=>
     clear Y P;obtain⟨k,Y,rfl,y⟩:=hrel;have f:=Kz y;clear y;by_cases Z:k<ans.length
     .obtain⟨e5,o1,rfl,e6,z⟩:=U.kept X k Z;obtain⟨c,n⟩:=aj (ans.getD k Xz.zero);rw[<-n] at z;have t:=Kz n;clear n;have a0:=z 0 _ rfl;simp only[Qp] at a0;clear z;cases Q:c.fail
      .rw[Q] at a0;go_wp2
       go_round
       case rel=>
        refine⟨k+1,A7,C8,λj r=>?_⟩;by_cases e:j=k
        .subst e;unfold ja;rw[<-t.o,Q];simp
        .exact f.o j A7
       case measure=>simp[intOf];omega
      .rw[Q] at a0;have HP:Hid (ja (ans.getD k Xz.zero)):=by rw[<-t.o];exact Q
       cases b5:(s.fall == -1)
       .skip
        go_wp2
        have p:=World.rangeAt_alloc (PD w1 (w.heap.size+1) 0 [.b 0,.bool false,.b s.fall,.string ⟨#[]⟩] (G.o.there (o:=0) (m:=4) (Pw _))) (.cells #[.slice H s.asks.length I,.b s.on,.slice J s.cases.length K,.b s.els,.b s.fall,.bool false,.bool s.bad,.string s.give] 146);exact Zx [.b 0,.bool false,.b s.fall,.string ⟨#[]⟩] _ results72 rfl p underlying151 rfl Tryz.ed rfl ⟨⟨⟨0,false,s.fall,⟨#[]⟩⟩,rfl,Or.inr ⟨D.o,by rw[x.o];exact Or.inr ⟨L.o,Or.inl ⟨k,Z,HP.o,f.o,Or.inr ⟨by simpa using b5,rfl⟩⟩⟩⟩⟩,K_.alloc (K_.setCells (g:=w.heap.size+1) A7 [.b 0,.bool false,.b s.fall,.string ⟨#[]⟩] 0 C) _⟩
       .have b3:k<s.asks.length:=by have:=N.o;omega
        obtain⟨b6,o6,rfl,f9,e7⟩:=hA.kept O k b3;have e8:(s.asks.getD k ByteArray.empty).size<=20:=(b0.o.1.2.2.2.1 k b3).1.2.1;obtain⟨a1,hv⟩:=aj (s.asks.getD k ByteArray.empty);rw[<-hv] at e7 e8;have e9:=Kz hv;clear hv;go_wp2
        have p:=PD w1 (w.heap.size+1) 0 [.b 0,.bool true,.b 0,.string ((⟨#[98,101,108,111,119,32]⟩:QV)++a1)] (G.o.there (o:=0) (m:=4) (Pw _));exact Zx [.b 0,.bool true,.b 0,.string ((⟨#[98,101,108,111,119,32]⟩:QV)++a1)] _ results72 rfl (World.rangeAt_alloc p _) underlying151 rfl Tryz.ed rfl ⟨⟨⟨0,true,0,_⟩,rfl,Or.inr ⟨D.o,by rw[x.o];exact Or.inr ⟨L.o,Or.inl ⟨k,Z,HP.o,f.o,Or.inl ⟨by simpa using b5,by unfold kU;rw[<-e9.o]⟩⟩⟩⟩⟩,K_.alloc (K_.setCells (g:=w.heap.size+1) A7 [.b 0,.bool true,.b 0,.string ((⟨#[98,101,108,111,119,32]⟩:QV)++a1)] 0 C) _⟩
     .have a2:Hid (nC ans ja ans.length):=λj r=>f.o j A7
      clear f;cases R:((ans.length:Int) == 0)
      .have b4:ans.length≠0:=by simp at R;simpa using R
       have b7:=Kz b4;have f0:0<=s.on/\s.on<ans.length:=by have h1:=b0.o.1.2.2.2.2.2.2.2;have h2:=N.o;omega
       obtain⟨q1,q2⟩:=f0;clear b4;obtain⟨a3,b8⟩:=aj (ni ans s.on);have S:=Kz b8;clear b8;have f1:s.on.toNat<ans.length:=A7;have f2:=a8.cases;unfold maxLen at f2;go_wp2
       go_loopw [10] (λi wr=>∃k:Nat,k<=s.cases.length/\i=.b k/\K_ (w1.alloc (.cells #[.slice H s.asks.length I,.b s.on,.slice J s.cases.length K,.b s.els,.b s.fall,.bool false,.bool s.bad,.string s.give] 146)) wr/\CaseTo s a3 k) λi _=>s.cases.length-(intOf i).toNat
       case atStart=>exact⟨0,Py _,rfl,K_.refl _,λj r=>aS r⟩
       case round=>
        obtain⟨k,Y,rfl,E,y⟩:=hrel;have f:=Kz y;clear y;have k3:K_ w wr:=X.trans E;obtain⟨g0,g1⟩:=E.rules;have f3:=E.size;simp only[Qh] at f3;have b9:=Kz (e2.o.kept E);have v0:w.heap.size+1<w1.heap.size+1:=A7;have v1:w1.heap.size<w1.heap.size+1:=A7;by_cases c1:k<s.cases.length
        .obtain⟨g2,o3,rfl,g3,T⟩:=(hC.kept O).kept E k c1;obtain⟨g4,o4,e4,g5,c2⟩:=U.kept k3 s.on.toNat f1;obtain⟨c,n⟩:=aj (s.cases.getD k bQ.zero);rw[<-n] at T;have t:=Kz n;clear n;have f4:=T 0 _ rfl;have g6:=T 1 _ rfl;have d1:=c2 1 _ rfl;simp only[Qp] at f4;have c3:(ans.getD s.on.toNat Xz.zero).text=a3:=by have h1:=S.o;unfold ni at h1;exact h1.symm
         rw[c3] at d1;subst e4;clear T c2 c3;cases c7:(c.text.toList == a3.toList)
         .go_wp2
          go_region
          all_goals
           go_wp2
           go_roundw
           case rel=>
            refine⟨k+1,A7,C8,by repeat (first|apply K_.drew|exact E),λj r=>?_⟩;by_cases e:j=k
            .subst e;unfold uK;rw[<-t.o];exact tL c7
            .exact f.o j A7
           case measure=>simp[intOf];omega
         .go_wp2
          go_region
          all_goals
           go_wp2
           have p:=PD wr.drew (w.heap.size+1) 0 [.b 0,.bool false,.b c.goto,.string ⟨#[]⟩] (Row.there (Row.kept b9.o (K_.drew (K_.refl _))) (o:=0) (m:=4) (Pw _));exact Zx [.b 0,.bool false,.b c.goto,.string ⟨#[]⟩] _ results72 rfl p underlying151 rfl Tryz.ed rfl ⟨⟨⟨0,false,c.goto,⟨#[]⟩⟩,rfl,Or.inr ⟨D.o,by rw[x.o];exact Or.inr ⟨L.o,Or.inr ⟨a2.o,c.goto,Or.inr ⟨b7.o,Or.inl ⟨k,c1,by unfold uK;rw[<-t.o,<-S.o];exact pX.1 c7,by rw[<-S.o];exact f.o,by unfold Gn;rw[<-t.o]⟩⟩,rfl⟩⟩⟩⟩,K_.setCells (g:=w.heap.size+1) A7 [.b 0,.bool false,.b c.goto,.string ⟨#[]⟩] 0 k3.drew⟩
        .skip
         go_wp2
         have p:=PD wr (w.heap.size+1) 0 [.b 0,.bool false,.b s.els,.string ⟨#[]⟩] (b9.o.there (o:=0) (m:=4) (Pw _));exact Zx [.b 0,.bool false,.b s.els,.string ⟨#[]⟩] _ results72 rfl p underlying151 rfl Tryz.ed rfl ⟨⟨⟨0,false,s.els,⟨#[]⟩⟩,rfl,Or.inr ⟨D.o,by rw[x.o];exact Or.inr ⟨L.o,Or.inr ⟨a2.o,s.els,Or.inr ⟨b7.o,Or.inr ⟨by rw[<-S.o];exact λj r=>f.o j A7,rfl⟩⟩,rfl⟩⟩⟩⟩,K_.setCells (g:=w.heap.size+1) A7 [.b 0,.bool false,.b s.els,.string ⟨#[]⟩] 0 k3⟩
      .skip
       go_wp2
       have p:=World.rangeAt_alloc (PD w1 (w.heap.size+1) 0 [.b 0,.bool false,.b s.els,.string ⟨#[]⟩] (G.o.there (o:=0) (m:=4) (Pw _))) (.cells #[.slice H s.asks.length I,.b s.on,.slice J s.cases.length K,.b s.els,.b s.fall,.bool false,.bool s.bad,.string s.give] 146);exact Zx [.b 0,.bool false,.b s.els,.string ⟨#[]⟩] _ results72 rfl p underlying151 rfl Tryz.ed rfl ⟨⟨⟨0,false,s.els,⟨#[]⟩⟩,rfl,Or.inr ⟨D.o,by rw[x.o];exact Or.inr ⟨L.o,Or.inr ⟨a2.o,s.els,Or.inl ⟨by simp at R;simpa using R,rfl⟩,rfl⟩⟩⟩⟩,K_.alloc (K_.setCells (g:=w.heap.size+1) A7 [.b 0,.bool false,.b s.els,.string ⟨#[]⟩] 0 C) _⟩
 .exact QK B.o.1 d5
theorem BZ(w:QX)(cost b:Int)(a d:QW)(cap f:Nat)(l:List Xq)(ans:List Xz)(i:l.length<=maxLen)(j:∀s∈l,s.Fits)(k:Steps w a l)(m:ans.length<=maxLen)(n:∀c∈ans,c.text.size<=maxLen)(p:fI w d ans):
  Calls prog 72 #[.agg #[.b cost,.slice a l.length cap],.b b,.slice d ans.length f] w λe w'=>(∃g,e=.returned (.agg g.cells.toArray)/\nu cost l b ans g)/\K_ w w':=by
 by_cases h:oD cost l b/\ans.length= (lU l b).asks.length
 .exact Cx w cost b a d cap f l ans i j k m n p h.1 h.2
 .exact EO w cost b a d cap f l ans i j k m n p h
