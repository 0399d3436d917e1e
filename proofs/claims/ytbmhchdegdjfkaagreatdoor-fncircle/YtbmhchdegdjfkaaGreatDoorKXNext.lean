import Derived.Test.YtbmhchdegdjfkaaGreatDoorKVAppr
set_option maxRecDepth 100000
set_option maxHeartbeats 25600000
namespace Go.Proofs.YtbmhchdegdjfkaaGreatDoor
open Go.RowKit Go.Proofs.Tryz
theorem zu(w:LP)(cost B:Int)(a d:LM)(N d2:Nat)(l:List Xj)(ans:List Xq)(hl:l.length<=maxLen)(hs:∀s∈l,s.Fits)(hS:Steps w a l)
  (d3:ans.length<=maxLen) (d4:∀c∈ans,c.text.size<=maxLen) (W:ed w d ans)
  (hF:mM cost l B) (hE:ans.length= (jQ l B).asks.length):
  Calls prog 80 #[.agg #[.int .i64 cost,.slice a l.length N],.int .i64 B,.slice d ans.length d2] w fun e w'=>(∃g,e= .returned (.agg g.cells.toArray)/\lF cost l B ans g)/\K_ w w':=by
 have⟨C,a5⟩:=aH hF hE;clear hF hE;have d5:=hl;have d6:=d3;unfold maxLen at d5 d6;have X:K_ w ((w.alloc (.cells #[.int .i64 cost,.slice a l.length N] 77)).alloc (.cells #[.int .i64 0,.bool false,.int .i64 0,.string ⟨#[]⟩] 135)):=(ag _ _).alloc _;go_enter func80,ntmps80
 go_wp2_with fail
 refine (eZ _ cost a N l hl hs (hS.kept X)).mono ?_;rintro e w1 ⟨a6,G⟩;have D:=X.trans G;have a7:Row w1 (w.heap.size+1) 4:=Row.kept (by have:=Row.made (w.alloc (.cells #[.int .i64 cost,.slice a l.length N] 77)) #[.int .i64 0,.bool false,.int .i64 0,.string ⟨#[]⟩] 135;simpa using this) G;have H:=Kz a7;clear a7;obtain⟨f6,f7⟩:=G.rules;have d7:=G.size;simp only[KR] at d7;have x0:w.heap.size<w1.heap.size:=by omega
 have x1:w.heap.size+1<w1.heap.size:=by omega
 rcases a6.cases with⟨rfl,a8⟩|⟨rfl,d8⟩
 ·have HV:=Kz a8;clear a8 a6 X G;have p1:0<=B:=C.o.2.1.1;have p2:B<l.length:=C.o.2.1.2;obtain⟨v,rfl⟩:=Int.eq_ofNat_of_zero_le p1;have Y:v<l.length:=by omega
  obtain⟨b,o,cs,rfl,hb,q,I,J,K,L,rfl,hA,hC,d9⟩:=hS.kept D v Y;have a9:=hs (l.getD v Xj.zero) (by simp[List.getD,Y]);obtain⟨s,O⟩:=aj (l.getD v Xj.zero);rw[<-O] at q a9 hA hC d9;have x:Hid (jQ l v=s):=by rw[O];show Hid (l.getD (v:Int).toNat Xj.zero=_);rw[Int.toNat_natCast];exact rfl
  have e0:Hid (ku s l.length):=by rw[O];exact HV.o.2.2 v Y
  clear O;have c0:=q 0 _ rfl;have c1:=q 1 _ rfl;have e1:=q 2 _ rfl;have e2:=q 3 _ rfl;have e3:=q 4 _ rfl;have c5:=q 5 _ rfl;have c6:=q 6 _ rfl;have c7:=q 7 _ rfl;simp only[La] at c0;clear q;have b0:s.fin=false:=by have:=C.o.2.2;rw[x.o] at this;exact this
  rw[b0] at c5;have P:Hid (ans.length=s.asks.length):=by have:=a5.o;rw[x.o] at this;exact this
  have f8:((ans.length:Int) != (s.asks.length:Int))=false:=by have:=P.o;simp;omega
  have E:Hid (mM cost l v):=C.o;have b2:Hid (Dy s l.length):=e0.o.2 b0;clear C a5;have Q:K_ w1 (w1.alloc (.cells #[.slice I s.asks.length J,.int .i64 s.on,.slice K s.cases.length L,.int .i64 s.els,.int .i64 s.fall,.bool false,.bool s.bad,.string s.give] 83)):=ag _ _;have Z:=D.trans Q;have e4:=Kz (H.o.kept Q);go_wp2_with (go_at_call 83;refine (vk _ _ _ _ (by omega) (by omega)).mono ?_;rintro e w' ⟨rfl,b3⟩;have e5:=Eq.symm b3;clear b3;subst e5)
  clear c0 c1 e1 e2 e3 c5 c6 c7;go_loop [8] (fun i=>∃k:Nat,k<=ans.length/\i= .int .i64 k/\lJ ans nN k) (fun i=>ans.length-(intOf i).toNat)
  case atStart=>exact⟨0,JR _,rfl,fun j r=>aT r⟩
  case round=>
   obtain⟨k,a0,rfl,y⟩:=hrel;have f:=Kz y;clear y;by_cases R:k<ans.length
   ·obtain⟨b1,o1,rfl,e6,A⟩:=W.kept Z k R;have b4:(ans.getD k Xq.zero).text.size<=maxLen:=d4 _ (by simp[List.getD,R]);obtain⟨c,n⟩:=aj (ans.getD k Xq.zero);rw[<-n] at A b4;have t:=Kz n;clear n;unfold maxLen at b4;have d1:=A 1 _ rfl;clear A;by_cases f9:(200:Int)<c.text.size
    ·skip
     go_wp2
     have p:=World.rangeAt_alloc (JU w1 (w.heap.size+1) 0 bW.none.cells (H.o.there (o:=0) (m:=4) (JP _))) (.cells #[.slice I s.asks.length J,.int .i64 s.on,.slice K s.cases.length L,.int .i64 s.els,.int .i64 s.fall,.bool false,.bool s.bad,.string s.give] 83);exact X_ bW.none.cells _ results80 rfl p underlying135 rfl Tryz.dJ rfl ⟨⟨_,rfl,Or.inr ⟨E.o,by rw[x.o];exact Or.inl ⟨fun h=>h.2 ⟨k,R,by unfold nN;rw[<-t.o];omega⟩,rfl⟩⟩⟩,K_.alloc (K_.setCells (g:=w.heap.size+1) (by omega) bW.none.cells 0 D) _⟩
    ·go_wp2
     go_round
     case rel=>
      refine⟨k+1,by omega,by go_num,fun j r=>?_⟩;by_cases e:j=k
      ·subst e;unfold nN;rw[<-t.o];omega
      ·exact f.o j (by omega)
     case measure=>simp[intOf];omega
   ·have M:Hid (vG s ans):=⟨P.o,fun ⟨i,hi,h⟩=>f.o i (by omega) h⟩;clear f;go_wp2
    go_loop [9] (fun i=>∃k:Nat,k<=ans.length/\i= .int .i64 k/\lJ ans gQ k) (fun i=>ans.length-(intOf i).toNat)
    case atStart=>exact⟨0,JR _,rfl,fun j r=>aT r⟩
    case round=>
     clear a0 R;obtain⟨k,a0,rfl,y⟩:=hrel;have f:=Kz y;clear y;by_cases a1:k<ans.length
     ·obtain⟨b1,o1,rfl,e6,A⟩:=W.kept Z k a1;obtain⟨c,n⟩:=aj (ans.getD k Xq.zero);rw[<-n] at A;have t:=Kz n;clear n;have d0:=A 0 _ rfl;simp only[La] at d0;clear A;cases S:c.fail
      ·rw[S] at d0;go_wp2
       go_round
       case rel=>
        refine⟨k+1,by omega,by go_num,fun j r=>?_⟩;by_cases e:j=k
        ·subst e;unfold gQ;rw[<-t.o,S];simp
        ·exact f.o j (by omega)
       case measure=>simp[intOf];omega
      ·rw[S] at d0;have HP:Hid (gQ (ans.getD k Xq.zero)):=by rw[<-t.o];exact S
       cases b5:(s.fall == -1)
       ·skip
        go_wp2
        have p:=World.rangeAt_alloc (JU w1 (w.heap.size+1) 0 [.int .i64 0,.bool false,.int .i64 s.fall,.string ⟨#[]⟩] (H.o.there (o:=0) (m:=4) (JP _))) (.cells #[.slice I s.asks.length J,.int .i64 s.on,.slice K s.cases.length L,.int .i64 s.els,.int .i64 s.fall,.bool false,.bool s.bad,.string s.give] 83);exact X_ [.int .i64 0,.bool false,.int .i64 s.fall,.string ⟨#[]⟩] _ results80 rfl p underlying135 rfl Tryz.dJ rfl ⟨⟨⟨0,false,s.fall,⟨#[]⟩⟩,rfl,Or.inr ⟨E.o,by rw[x.o];exact Or.inr ⟨M.o,Or.inl ⟨k,a1,HP.o,f.o,Or.inr ⟨by simpa using b5,rfl⟩⟩⟩⟩⟩,K_.alloc (K_.setCells (g:=w.heap.size+1) (by omega) [.int .i64 0,.bool false,.int .i64 s.fall,.string ⟨#[]⟩] 0 D) _⟩
       ·have b6:k<s.asks.length:=by have:=P.o;omega
        obtain⟨g0,o6,rfl,g1,e7⟩:=hA.kept Q k b6;have e8:(s.asks.getD k ByteArray.empty).size<=20:=(b2.o.1.2.2.2.1 k b6).1.2.1;obtain⟨a2,hv⟩:=aj (s.asks.getD k ByteArray.empty);rw[<-hv] at e7 e8;have e9:=Kz hv;clear hv;go_wp2
        have p:=JU w1 (w.heap.size+1) 0 [.int .i64 0,.bool true,.int .i64 0,.string ((⟨#[98,101,108,111,119,32]⟩:LK)++a2)] (H.o.there (o:=0) (m:=4) (JP _));exact X_ [.int .i64 0,.bool true,.int .i64 0,.string ((⟨#[98,101,108,111,119,32]⟩:LK)++a2)] _ results80 rfl (World.rangeAt_alloc p _) underlying135 rfl Tryz.dJ rfl ⟨⟨⟨0,true,0,_⟩,rfl,Or.inr ⟨E.o,by rw[x.o];exact Or.inr ⟨M.o,Or.inl ⟨k,a1,HP.o,f.o,Or.inl ⟨by simpa using b5,by unfold jq;rw[<-e9.o]⟩⟩⟩⟩⟩,K_.alloc (K_.setCells (g:=w.heap.size+1) (by omega) [.int .i64 0,.bool true,.int .i64 0,.string ((⟨#[98,101,108,111,119,32]⟩:LK)++a2)] 0 D) _⟩
     ·have a3:Hid (lJ ans gQ ans.length):=fun j r=>f.o j (by omega)
      clear f;cases T:((ans.length:Int) == 0)
      ·have b7:ans.length≠0:=by simp at T;simpa using T
       have b8:=Kz b7;have f0:0<=s.on/\s.on<ans.length:=by have h1:=b2.o.1.2.2.2.2.2.2.2;have h2:=P.o;omega
       obtain⟨q1,q2⟩:=f0;clear b7;obtain⟨a4,b9⟩:=aj (lD ans s.on);have U:=Kz b9;clear b9;have f1:s.on.toNat<ans.length:=by omega
       have f2:=a9.cases;unfold maxLen at f2;go_wp2
       go_loopw [10] (fun i wr=>∃k:Nat,k<=s.cases.length/\i= .int .i64 k/\K_ (w1.alloc (.cells #[.slice I s.asks.length J,.int .i64 s.on,.slice K s.cases.length L,.int .i64 s.els,.int .i64 s.fall,.bool false,.bool s.bad,.string s.give] 83)) wr/\CaseTo s a4 k) (fun i _=>s.cases.length-(intOf i).toNat)
       case atStart=>exact⟨0,JR _,rfl,K_.refl _,fun j r=>aT r⟩
       case round=>
        obtain⟨k,a0,rfl,F,y⟩:=hrel;have f:=Kz y;clear y;have k3:K_ w wr:=Z.trans F;obtain⟨g2,g3⟩:=F.rules;have f3:=F.size;simp only[KR] at f3;have c2:=Kz (e4.o.kept F);have v0:w.heap.size+1<w1.heap.size+1:=by omega
        have v1:w1.heap.size<w1.heap.size+1:=by omega
        by_cases c3:k<s.cases.length
        ·obtain⟨g4,o3,rfl,g5,V⟩:=(hC.kept Q).kept F k c3;obtain⟨g6,o4,f4,g7,c4⟩:=W.kept k3 s.on.toNat f1;obtain⟨c,n⟩:=aj (s.cases.getD k bK.zero);rw[<-n] at V;have t:=Kz n;clear n;have f5:=V 0 _ rfl;have g8:=V 1 _ rfl;have d1:=c4 1 _ rfl;simp only[La] at f5;have c8:(ans.getD s.on.toNat Xq.zero).text=a4:=by have h1:=U.o;unfold lD at h1;exact h1.symm
         rw[c8] at d1;subst f4;clear V c4 c8;cases c9:(c.text.toList == a4.toList)
         ·go_wp2
          go_region
          all_goals
           go_wp2
           go_roundw
           case rel=>
            refine⟨k+1,by omega,by go_num,by repeat (first | apply K_.drew | exact F),fun j r=>?_⟩;by_cases e:j=k
            ·subst e;unfold ru;rw[<-t.o];exact qO c9
            ·exact f.o j (by omega)
           case measure=>simp[intOf];omega
         ·go_wp2
          go_region
          all_goals
           go_wp2
           have p:=JU wr.drew (w.heap.size+1) 0 [.int .i64 0,.bool false,.int .i64 c.goto,.string ⟨#[]⟩] (Row.there (Row.kept c2.o (K_.drew (K_.refl _))) (o:=0) (m:=4) (JP _));exact X_ [.int .i64 0,.bool false,.int .i64 c.goto,.string ⟨#[]⟩] _ results80 rfl p underlying135 rfl Tryz.dJ rfl ⟨⟨⟨0,false,c.goto,⟨#[]⟩⟩,rfl,Or.inr ⟨E.o,by rw[x.o];exact Or.inr ⟨M.o,Or.inr ⟨a3.o,c.goto,Or.inr ⟨b8.o,Or.inl ⟨k,c3,by unfold ru;rw[<-t.o,<-U.o];exact oo.1 c9,by rw[<-U.o];exact f.o,by unfold Ck;rw[<-t.o]⟩⟩,rfl⟩⟩⟩⟩,K_.setCells (g:=w.heap.size+1) (by omega) [.int .i64 0,.bool false,.int .i64 c.goto,.string ⟨#[]⟩] 0 k3.drew⟩
        ·skip
         go_wp2
         have p:=JU wr (w.heap.size+1) 0 [.int .i64 0,.bool false,.int .i64 s.els,.string ⟨#[]⟩] (c2.o.there (o:=0) (m:=4) (JP _));exact X_ [.int .i64 0,.bool false,.int .i64 s.els,.string ⟨#[]⟩] _ results80 rfl p underlying135 rfl Tryz.dJ rfl ⟨⟨⟨0,false,s.els,⟨#[]⟩⟩,rfl,Or.inr ⟨E.o,by rw[x.o];exact Or.inr ⟨M.o,Or.inr ⟨a3.o,s.els,Or.inr ⟨b8.o,Or.inr ⟨by rw[<-U.o];exact fun j r=>f.o j (by omega),rfl⟩⟩,rfl⟩⟩⟩⟩,K_.setCells (g:=w.heap.size+1) (by omega) [.int .i64 0,.bool false,.int .i64 s.els,.string ⟨#[]⟩] 0 k3⟩
      ·skip
       go_wp2
       have p:=World.rangeAt_alloc (JU w1 (w.heap.size+1) 0 [.int .i64 0,.bool false,.int .i64 s.els,.string ⟨#[]⟩] (H.o.there (o:=0) (m:=4) (JP _))) (.cells #[.slice I s.asks.length J,.int .i64 s.on,.slice K s.cases.length L,.int .i64 s.els,.int .i64 s.fall,.bool false,.bool s.bad,.string s.give] 83);exact X_ [.int .i64 0,.bool false,.int .i64 s.els,.string ⟨#[]⟩] _ results80 rfl p underlying135 rfl Tryz.dJ rfl ⟨⟨⟨0,false,s.els,⟨#[]⟩⟩,rfl,Or.inr ⟨E.o,by rw[x.o];exact Or.inr ⟨M.o,Or.inr ⟨a3.o,s.els,Or.inl ⟨by simp at T;simpa using T,rfl⟩,rfl⟩⟩⟩⟩,K_.alloc (K_.setCells (g:=w.heap.size+1) (by omega) [.int .i64 0,.bool false,.int .i64 s.els,.string ⟨#[]⟩] 0 D) _⟩
 ·exact Lv C.o.1 d8
theorem yR(w:LP)(cost b:Int)(a d:LM)(f h:Nat)(l:List Xj)(ans:List Xq)(j:l.length<=maxLen)(k:∀s∈l,s.Fits)(m:Steps w a l)
  (n:ans.length<=maxLen) (p:∀c∈ans,c.text.size<=maxLen) (q:ed w d ans):
  Calls prog 80 #[.agg #[.int .i64 cost,.slice a l.length f],.int .i64 b,.slice d ans.length h] w fun e w'=>(∃g,e= .returned (.agg g.cells.toArray)/\lF cost l b ans g)/\K_ w w':=by
 by_cases i:mM cost l b/\ans.length= (jQ l b).asks.length
 ·exact zu w cost b a d f h l ans j k m n p q i.1 i.2
 ·exact Bd w cost b a d f h l ans j k m n p q i
theorem FU(G w:LP)(kW:K_ G w)(a:LM)(S:Nat)(B:List Qq)(ra:LM)(rn rc:Nat)(d:LM)(dc:Nat)(l:List Qz)(r:Qz)(xa:LM)(xc:Nat)(k0:B.length<=1048576)(x3:l.length<=1048576)(k1:jC B)(x4:bT (Q_ B))(o4:∀y∈B,y.Fits)
  (hgd:r.Good B) (o5:f_ B (Qj l)) (k2:bZ (Q_ B) (Qj l) r) (hN:bN G a B) (hS:bD w d l) (hT:Strs G xa r.texts) (hX:xa=none->xc=0):
  Calls prog 88 #[.agg #[.slice a B.length S],.agg #[.slice ra rn rc,.slice d l.length dc],.agg #[.string r.name,.bool r.over,.bool r.fail,.string r.text,.int .i64 r.at',.int .i64 r.Zj,.slice xa r.texts.length xc]] w fun e w'=>uC G.heap.size (w.heap.size+2) (Q_ B) (Qj l) r w' e/\K_ w w':=by
 have k3:=Kz hX;clear hX;obtain⟨C0,hA,i7,e9⟩:=hgd.act;obtain⟨d4,hk,k4,o6,rfl⟩:=gP hA;obtain⟨y,hy⟩:=aj (B.getD d4 Qq.zero);rw[<-hy] at hA k4 e9;dsimp only at e9;obtain⟨WB,c5⟩:=aj ((((w.alloc (.cells #[.slice a B.length S] 25)).alloc (.cells #[.slice ra rn rc,.slice d l.length dc] 29)).alloc (.cells #[.string r.name,.bool r.over,.bool r.fail,.string r.text,.int .i64 r.at',.int .i64 r.Zj,.slice xa r.texts.length xc] 40)).alloc (.cells #[.string ⟨#[]⟩,.bool false,.bool false,.string ⟨#[]⟩,.int .i64 0,.int .i64 0,.slice none 0 0] 40));have kB:K_ w WB:=by rw[c5];exact (((ag _ _).alloc _).alloc _).alloc _
 have x5:WB.heap.size=w.heap.size+4:=by rw[c5];simp
 have o7:WB.cell? ⟨w.heap.size,0,none⟩=some (.slice a B.length S):=by rw[c5,K_.cell (w:=w.alloc (.cells #[.slice a B.length S] 25)) (((ag _ _).alloc _).alloc _) (by simp)];exact Xz w _ _ 0 _ rfl
 have x7:WB.cell? ⟨w.heap.size+1,0,none⟩=some (.slice ra rn rc):=by have:=Xz (w.alloc (.cells #[.slice a B.length S] 25)) #[.slice ra rn rc,.slice d l.length dc] 29 0 _ rfl;rw[KR] at this;rw[c5,K_.cell (w:=(w.alloc (.cells #[.slice a B.length S] 25)).alloc (.cells #[.slice ra rn rc,.slice d l.length dc] 29)) ((ag _ _).alloc _) (by simp)];exact this
 have x8:WB.cell? ⟨w.heap.size+1,1,none⟩=some (.slice d l.length dc):=by have:=Xz (w.alloc (.cells #[.slice a B.length S] 25)) #[.slice ra rn rc,.slice d l.length dc] 29 1 _ rfl;rw[KR] at this;rw[c5,K_.cell (w:=(w.alloc (.cells #[.slice a B.length S] 25)).alloc (.cells #[.slice ra rn rc,.slice d l.length dc] 29)) ((ag _ _).alloc _) (by simp)];exact this
 have o8:iG WB (w.heap.size+2) r xa xc:=by
  have L:=aC.made ((w.alloc (.cells #[.slice a B.length S] 25)).alloc (.cells #[.slice ra rn rc,.slice d l.length dc] 29)) #[.string r.name,.bool r.over,.bool r.fail,.string r.text,.int .i64 r.at',.int .i64 r.Zj,.slice xa r.texts.length xc] 40;have h2:=Xz ((w.alloc (.cells #[.slice a B.length S] 25)).alloc (.cells #[.slice ra rn rc,.slice d l.length dc] 29)) #[.string r.name,.bool r.over,.bool r.fail,.string r.text,.int .i64 r.at',.int .i64 r.Zj,.slice xa r.texts.length xc] 40;simp only[KR] at L h2;have x9:iG (((w.alloc (.cells #[.slice a B.length S] 25)).alloc (.cells #[.slice ra rn rc,.slice d l.length dc] 29)).alloc (.cells #[.string r.name,.bool r.over,.bool r.fail,.string r.text,.int .i64 r.at',.int .i64 r.Zj,.slice xa r.texts.length xc] 40)) (w.heap.size+2) r xa xc:=⟨L,h2⟩;rw[c5];exact x9.kept (ag _ _)
 have o9:aC WB (w.heap.size+2+1) 40 7:=by
  have L:=aC.made (((w.alloc (.cells #[.slice a B.length S] 25)).alloc (.cells #[.slice ra rn rc,.slice d l.length dc] 29)).alloc (.cells #[.string r.name,.bool r.over,.bool r.fail,.string r.text,.int .i64 r.at',.int .i64 r.Zj,.slice xa r.texts.length xc] 40)) #[.string ⟨#[]⟩,.bool false,.bool false,.string ⟨#[]⟩,.int .i64 0,.int .i64 0,.slice none 0 0] 40;simp only[KR] at L;rw[c5];exact L
 have z0:w.heap.size<WB.heap.size:=by omega
 have z1:w.heap.size+1<WB.heap.size:=by omega
 have⟨f8,i8,p2,p3⟩:=lg kB o8 o9 x5;clear kB o8 o9;have p4:=(hN.kept kW).kept f8.o;have i9:=Kz kW;have f9:=kW.trans f8.o;have p5:=kW.size;clear kW;obtain⟨nb,nq,M,d5,k6,Z,na,T,rfl,j0⟩:=hN d4 hk;rw[<-hy] at Z j0;have p6:nb<WB.heap.size:=JQ k6 f9.size;have n1:=(f9.cell k6).trans (Z 1 _ rfl);have n2:=(f9.cell k6).trans (Z 2 _ rfl);subst d5;have⟨k7,p7⟩:=aH p4 j0;have p8:=Kz (Steps.kept j0 f9);have p9:Hid (dV G.heap.size WB (w.heap.size+2) xa r.texts):=dV.old hT f9 (JP _);obtain⟨r0,_,_,_,_,_,_⟩:=i8.o.all;have rz:=i8.o.row.lt;have⟨HY,b9⟩:=aH hy hA;clear Z j0 p4 hy hA;go_enter func88,ntmps88
 go_upto_region 1 with fail
 rw[<-c5];clear c5;go_cut [8] from 13 to 21 (fun y0 wx=>∃U,y0= .pointer (some ⟨U,0,none⟩)/\K_ WB wx/\NSt G.heap.size w wx U y.cost na y.steps.length T r xa xc)
 case first=>
  have d6:Hid (∀w',K_ WB w'->w'.cell? ⟨w.heap.size,0,none⟩=some (.slice (some ⟨nb,nq,none⟩) B.length S)/\w'.cell? ⟨w.heap.size+2,0,none⟩=some (.string r.name)/\w'.cell? ⟨nb,nq+d4*3+1,none⟩=some (.int .i64 y.cost)/\w'.cell? ⟨nb,nq+d4*3+2,none⟩=some (.slice na y.steps.length T)):=fun w' K=>⟨(K.cell z0).trans o7,(K.cell rz).trans r0,(K.cell p6).trans n1,(K.cell p6).trans n2⟩
  have C1:(d4:Int)<(B.length:Int):=by omega
  refine bf 10 d6.o fun wd KD h=>?_
  refine au 0 h ?_;refine af 4 h ?_;refine dx 5 9 (fun K n=>?_) (fun K n=>?_)
  ·rw[Lt (by rfl)];go_simp
   go_at_call 44
   refine (gK wd (some ⟨nb,nq,none⟩) S B r.name k0 (k7.o.kept KD)).mono ?_;rintro e w2 ⟨⟨k8,rfl,hq⟩,j1⟩;have K2:=KD.trans j1;obtain rfl:k8= (d4:Int):=by
    rcases hq with⟨k',_,e',_,L,h2⟩|⟨_,L⟩
    ·rw[e',mi (by rw[<-HY.o];exact k4) o6 L h2]
    ·rw[b9.o] at L;cases L
   clear hq;dsimp only;refine ae n (fun _=>d6.o _ K2) ?_;clear n K;clear h;have h:=d6.o _ K2;refine af 6 h ?_;refine af 7 h ?_;refine af 8 h ?_;refine ah 9 (fun K n=>?_);go_simp
   have K3:K_ w2 (w2.alloc (.cells #[.int .i64 0,.slice none 0 0] 77)):=ag _ _;refine ae n (fun _=>d6.o _ (K2.trans K3)) ?_;clear n K;have c0:aC (w2.alloc (.cells #[.int .i64 0,.slice none 0 0] 77)) w2.heap.size 77 2:=aC.made w2 _ _;have KE:=K2.trans K3;generalize y1:w2.alloc (.cells #[.int .i64 0,.slice none 0 0] 77)=wE at c0 KE⊢;clear y1 K3;obtain⟨⟨_,V⟩,f0⟩:=c0.row.at (i:=0) (by omega);obtain⟨⟨_,q0⟩,f1⟩:=c0.row.at (i:=1) (by omega);have vz:=c0.lt;refine ah 10 (fun K n=>?_);go_simp
   refine ae n (fun b5=>Lv rfl b5) ?_;clear n K;refine aB ?_;go_wp2
   go_meet
   exact⟨w2.heap.size,rfl,NSt.made f8.o p3.o KE i8.o p2.o p5 p9.o k3.o K2.size c0⟩
  ·rw[Lt (by rfl)];go_simp
   have K3:K_ wd (wd.alloc (.cells #[.int .i64 0,.slice none 0 0] 77)):=ag _ _;have l0:=KD.trans K3;refine ae n (fun _=>d6.o _ l0) ?_;clear n K;refine ak 5 (fun K n=>?_);go_simp
   go_at_call 44
   refine (gK (wd.alloc (.cells #[.int .i64 0,.slice none 0 0] 77)) (some ⟨nb,nq,none⟩) S B r.name k0 (k7.o.kept l0)).mono ?_;rintro e w2 ⟨⟨k8,rfl,hq⟩,j1⟩;have K2:=l0.trans j1;obtain rfl:k8= (d4:Int):=by
    rcases hq with⟨k',_,e',_,L,h2⟩|⟨_,L⟩
    ·rw[e',mi (by rw[<-HY.o];exact k4) o6 L h2]
    ·rw[b9.o] at L;cases L
   clear hq;dsimp only;refine ae n (fun _=>d6.o _ K2) ?_;clear n K;clear h;have h:=d6.o _ K2;refine af 6 h ?_;refine af 7 h ?_;refine af 8 h ?_;have c0:aC w2 wd.heap.size 77 2:=(aC.made wd #[.int .i64 0,.slice none 0 0] 77).kept j1;obtain⟨⟨_,V⟩,f0⟩:=c0.row.at (i:=0) (by omega);obtain⟨⟨_,q0⟩,f1⟩:=c0.row.at (i:=1) (by omega);have vz:=c0.lt;refine ah 10 (fun K n=>?_);go_simp
   refine ae n (fun b5=>Lv rfl b5) ?_;clear n K;refine aB ?_;go_wp2
   go_meet
   exact⟨wd.heap.size,rfl,NSt.made f8.o p3.o K2 i8.o p2.o p5 p9.o k3.o KD.size c0⟩
 case rest=>
  obtain⟨U,rfl,Kx,q1⟩:=hcut;have d7:=Kz q1;clear q1 r0 rz n1 n2;have lo:=hgd.lo;have q2:=hgd.hi;have tl:=hgd.tl;obtain⟨p,q,t,v,j,x,k⟩:=d7.o.box.all;have A:=d7.o.box.row.lt;go_upto_if 24 with fail
  go_cut [9,10,11] from 24 to 74 (fun _ _ _ wx=>∃(f:Qz) (b2:LM) (b3:Nat),NSt G.heap.size w wx U y.cost na y.steps.length T f b2 b3/\Y_ (Q_ B) (Qj l) r=gU ⟨y.cost,y.steps⟩ f/\0<=f.at'/\f.at' < y.steps.length/\0<=f.Zj/\f.Zj<20/\f.texts.length<=200/\∀c1∈f.texts,c1.size<=200)
  case first=>
   by_cases hv:r.Zj=0
   ·have y2:¬(0:Int)<r.Zj:=by omega
    have HV:=Kz hv;clear hv;go_wp2
    go_meet
    exact⟨r,xa,xc,d7.o,(by unfold Y_;rw[b9.o];simp[HV.o]),i7,e9,lo,by omega,by omega,hgd.ts⟩
   ·have C2:(0:Int)<r.Zj:=by omega
    have C3:=q2;obtain⟨H,c8⟩:∃H:Nat,r.at'= (H:Int):=⟨r.at'.toNat,by omega⟩;have f2:H<y.steps.length:=by omega
    have y3:(H:Int)<(y.steps.length:Int):=by omega
    obtain⟨I,J,y4,rfl,c6,N,a2,ca,ac,cc,rfl,f3,q3,_⟩:=(Steps.kept p8.o Kx) H f2;obtain⟨s,hs⟩:=aj (y.steps.getD H Xj.zero);rw[<-hs] at N f3 q3;have t0:=N 0 _ rfl;have t1:=N 1 _ rfl;have t2:=N 2 _ rfl;have t3:=N 3 _ rfl;have t4:=N 4 _ rfl;have t5:=N 5 _ rfl;have t6:=N 6 _ rfl;have t7:=N 7 _ rfl;rw[La] at t0;have g0:s∈y.steps:=by rw[hs];simp[List.getD,f2]
    have f5:y∈B:=by rw[HY.o];simp[List.getD,hk]
    have q4:=(k1 y f5 s g0).1;have y5:=(k1 y f5 s g0).2;have q5:=o4 y f5;have c2:Hid (stepOf ⟨y.cost,y.steps⟩ r.at'=s):=by show _=_;unfold stepOf;rw[c8,hs];rfl
    obtain⟨i,d0⟩:∃i,Hid (Yq (Q_ B) (Qj l) s.asks=some i):=by
     rcases k2.2 with e|⟨A',i,L,h2⟩
     ·exact Lv e hv
     ·rw[b9.o] at L;cases L;rw[c2.o] at h2;exact⟨i,h2⟩
    have q6:=(Kx.cell z0).trans o7;have m1:=(Kx.cell z1).trans x7;have q7:=(Kx.cell z1).trans x8;have y6:=JQ z0 Kx.size;have q8:=JQ z1 Kx.size;have p1:=d7.o.a1;have pz:=d7.o.abz;rw[c8] at j;have⟨y7,C4,C5⟩:=dK f3 c8 hs;clear N f3 q3 hs c8;have d8:Hid (∀w',K_ wc w'->w'.cell? ⟨w.heap.size,0,none⟩=some (.slice (some ⟨nb,nq,none⟩) B.length S)/\w'.cell? ⟨w.heap.size+1,0,none⟩=some (.slice ra rn rc)/\w'.cell? ⟨w.heap.size+1,1,none⟩=some (.slice d l.length dc)/\w'.cell? ⟨U,1,none⟩=some (.slice (some ⟨I,J,none⟩) y.steps.length T)/\w'.cell? ⟨w.heap.size+2,4,none⟩=some (.int .i64 (H:Int))/\w'.cell? ⟨I,J+H*8,none⟩=some (.slice a2 s.asks.length ca)/\w'.cell? ⟨I,J+H*8+1,none⟩=some (.int .i64 s.on)/\w'.cell? ⟨I,J+H*8+2,none⟩=some (.slice ac s.cases.length cc)/\w'.cell? ⟨I,J+H*8+3,none⟩=some (.int .i64 s.els)/\w'.cell? ⟨I,J+H*8+4,none⟩=some (.int .i64 s.fall)/\w'.cell? ⟨I,J+H*8+5,none⟩=some (.bool s.fin)/\w'.cell? ⟨I,J+H*8+6,none⟩=some (.bool s.bad)/\w'.cell? ⟨I,J+H*8+7,none⟩=some (.string s.give)):=fun w' K=>⟨(K.cell y6).trans q6,(K.cell q8).trans m1,(K.cell q8).trans q7,(K.cell pz).trans p1,(K.cell A).trans j,(K.cell c6).trans t0,(K.cell c6).trans t1,(K.cell c6).trans t2,(K.cell c6).trans t3,(K.cell c6).trans t4,(K.cell c6).trans t5,(K.cell c6).trans t6,(K.cell c6).trans t7⟩
    go_upto_region 3 with fail
    refine iF 14 d8.o (aL wc) (fun h=>?_);have KD:K_ wc wc.drew:=aL wc;generalize g1:wc.drew=wd at h KD⊢;clear g1 q6 m1 q7 t0 t1 t2 t3 t4 t5 t6 t7 p1 p q t v j x k;refine af 0 h ?_;refine af 1 h ?_;refine au 3 h ?_;refine af 7 h ?_;refine af 8 h ?_;refine ak 2 (fun K n=>?_);go_simp
    go_at_call 77
    refine (sH wd (some ⟨nb,nq,none⟩) B.length S ra rn rc d l.length dc).mono ?_;rintro e w1 ⟨kb,rfl,q9,r1⟩;have K1:=KD.trans r1;have r2:=Kz q9;clear q9 r1;dsimp only;refine ae n (fun _=>d8.o _ K1) ?_;clear n K;clear h;refine ak 9 (fun K n=>?_);go_simp
    go_at_call 79
    refine (sS w1 kb (some ⟨nb,nq,none⟩) S B d dc l s a2 ac ca cc k0 x3 q4 y5 r2.o (k7.o.kept (Kx.trans K1)) (hS.kept (f8.o.trans (Kx.trans K1))) (y7.o.kept K1)).mono ?_;rintro e r3 ⟨⟨l1,n3,c3,ok,rfl,r4,r5⟩,r6⟩;have K3:=K1.trans r6;clear r6;obtain rfl:ok=true:=by cases ok with|true=>rfl|false=>rw[r5 rfl] at d0;cases d0.o
    obtain⟨y8,r7,rfl,r8⟩:=r4 rfl;obtain rfl:i=y8:=Option.some.inj (d0.o.symm.trans r7);have l2:=Kz r8;clear r4 r5 r7 r8;dsimp only;refine ae n (fun _=>d8.o _ K3) ?_;clear n K;refine ah 10 (fun K n=>?_);go_simp
    refine ae n (fun _=>d8.o _ K3) ?_;clear n K;have h:=d8.o _ K3;refine af 11 h ?_;refine af 12 h ?_;refine ah 13 (fun K n=>?_);go_simp
    refine ae n (fun _=>d8.o _ K3) ?_;clear n K;refine ah 14 (fun K n=>?_);go_simp
    refine ae n (fun b5=>Lv rfl b5) ?_;clear n K;refine aB ?_;have b4:=Kz (d7.o.kept K3);clear h d8 KD K1 r2;by_cases d9:r.Zj=20
    ·have y9:(r.Zj == 20)=true:=by simp[d9]
     have z2:=Kz d9;clear d9;obtain⟨p,q,t,v,j,x,k⟩:=b4.o.box.all;have A:=b4.o.box.row.lt;go_upto_region 5 with fail
     clear p q t v j x k A;obtain⟨p,q,t,v,j,x,k⟩:=b4.o.box.all;have A:=b4.o.box.row.lt;obtain⟨_,g2⟩:=b4.o.box.row.row.at (i:=1) (by omega);go_upto_region 6 with fail
     have g3:Hid (NSt G.heap.size w (r3.setCell ⟨w.heap.size+2,1,none⟩ (.bool true)) U y.cost (some ⟨I,J,none⟩) y.steps.length T ({r with over:=true}) xa xc):=b4.o.put (by omega) rfl rfl;generalize C:r3.setCell ⟨w.heap.size+2,1,none⟩ (.bool true)=r9 at g3  ⊢;clear C;clear p q t v j x k A;clear g2;obtain⟨p,q,t,v,j,x,k⟩:=g3.o.box.all;have A:=g3.o.box.row.lt;obtain⟨_,g4⟩:=g3.o.box.row.row.at (i:=2) (by omega);go_upto_region 7 with fail
     have g6:Hid (NSt G.heap.size w (r9.setCell ⟨w.heap.size+2,2,none⟩ (.bool true)) U y.cost (some ⟨I,J,none⟩) y.steps.length T ({r with over:=true,fail:=true}) xa xc):=g3.o.put (by omega) rfl rfl;generalize C:r9.setCell ⟨w.heap.size+2,2,none⟩ (.bool true)=F at g6  ⊢;clear C;clear p q t v j x k A;clear g4;obtain⟨p,q,t,v,j,x,k⟩:=g6.o.box.all;have A:=g6.o.box.row.lt;obtain⟨_,g7⟩:=g6.o.box.row.row.at (i:=3) (by omega);go_upto_region 8 with fail
     have P:Hid (NSt G.heap.size w (F.setCell ⟨w.heap.size+2,3,none⟩ (.string ⟨#[115,112,101,110,116]⟩)) U y.cost (some ⟨I,J,none⟩) y.steps.length T ({r with over:=true,fail:=true,text:=nK}) xa xc):=g6.o.put (by omega) rfl rfl;generalize C:F.setCell ⟨w.heap.size+2,3,none⟩ (.string ⟨#[115,112,101,110,116]⟩)=D at P  ⊢;clear C;clear p q t v j x k A;clear g7;obtain⟨M,Z⟩:=aj (Qz.cells ({r with over:=true,fail:=true,text:=nK}) xa xc);have a4:M.length=7:=by rw[Z];rfl
     have l3:Hid (M.toArray.all (·.oneCell')=true):=by show _=_;rw[Z];exact all_oneCell_toArray (by simp[Qz.cells,Value.oneCell'])
     have l4:Hid (D.rangeAt (w.heap.size+2) 0 M):=by show World.rangeAt _ _ _ _;rw[Z];exact P.o.box.rng
     have A:=P.o.box.row.lt;have l5:Hid ((prog.info? 40).map (·.size)=some M.toArray.size):=by show _=_;rw[Tryz.lW];simp[a4]
     have g8:Hid ((prog.info? 40).map (·.size)=some M.length):=by show _=_;rw[Tryz.lW,a4]
     have h1:=Kz (P.o.kept ((K_.refl D).alloc (.cells #[] 9)));have h3:Hid ((D.alloc (.cells #[] 9)).there (w.heap.size+3) 0 M.toArray.size):=by show World.there _ _ _ _;simpa[a4] using h1.o.res.row.there (o:=0) (m:=7) (JP _)
     have⟨l6,z3⟩:=aH Z a4;clear Z a4;go_wp2_with (first | (refine wpList_load_mid rfl 40 _ rfl (w.heap.size+2) 0 rfl M _ l4.o underlying40 rfl g8.o ?_) | (refine wpList_store_mid rfl 40 _ _ rfl (w.heap.size+3) 0 M.toArray rfl rfl h3.o l5.o l3.o ?_;rw[List.toList_toArray]))
     have hR:=JU (D.alloc (.cells #[] 9)) (w.heap.size+3) 0 M (by have:=h3.o;simpa using this);refine bU M _ _ results88 rfl hR underlying40 rfl g8.o rfl rfl ?_;have l7:=l6.o;subst l7;exact h1.o.ends (by unfold Y_;rw[b9.o];simp only;rw[Lu hv,c2.o,d0.o];simp[z2.o]) (asks:=[]) (fun z4 hi=>by simp at hi) rfl rfl
    ·have y9:(r.Zj == 20)=false:=by simpa using d9
     have j2:=(x4 _ _ b9.o).1;obtain⟨s0,l8⟩:=iV j2 i7 e9;rw[c2.o] at s0 l8;have s1:∀l9∈s.asks,l9.size<=20:=fun l9 hn=>(l8 l9 hn).2.1
     obtain⟨m0,s2⟩:=pX o5 s1 d0.o;have C6:i.length<=5:=by rw[m0.1];exact s0
     have HW:Hid (lF y.cost y.steps r.at' i (eY s i)):= .inr ⟨⟨j2,⟨i7,e9⟩,hgd.stp _ b9.o k2.1 hv⟩,by have e:jQ y.steps r.at'=s:=c2.o;rw[e];exact kD m0⟩;have⟨m2,C7⟩:=aH s2 j2;clear s2 j2 l8 s1 m0;have s3:i.length<=maxLen:=by unfold maxLen;omega
     have s4:∀m3∈i,m3.text.size<=maxLen:=fun m3 hc=>by have:=m2.o m3 hc;unfold maxLen;omega
     have p0:=b4.o.a0;have p1:=b4.o.a1;have z5:=b4.o.abz;obtain⟨p,q,t,v,j,x,k⟩:=b4.o.box.all;have A:=b4.o.box.row.lt;go_wp2_with fail
     refine (yR _ y.cost r.at' (some ⟨I,J,none⟩) l1 T c3 y.steps i q5.steps q5.each (Steps.kept p8.o (Kx.trans K3)) s3 s4 l2.o).mono ?_;rintro e F ⟨⟨s5,rfl,hG⟩,k5⟩;have s6:s5=eY s i:=hG.unique HW.o;obtain⟨gc,go,gt,Q⟩:=s5;have h4:=Kz s6;have s7:(bW.mk gc go gt Q).cells.toArray= #[.int .i64 gc,.bool go,.int .i64 gt,.string Q]:=rfl;rw[s7];clear s7 hG s6;have s8:K_ F (F.alloc (.cells #[.int .i64 gc,.bool go,.int .i64 gt,.string Q] 135)):=ag _ _;have K6:=k5.trans s8;have P:=Kz (b4.o.kept K6);have d5:=Xz F #[.int .i64 gc,.bool go,.int .i64 gt,.string Q] 135 1 _ rfl;have d1:=Xz F #[.int .i64 gc,.bool go,.int .i64 gt,.string Q] 135 2 _ rfl;have R:=Xz F #[.int .i64 gc,.bool go,.int .i64 gt,.string Q] 135 3 _ rfl;simp only[KH] at d5 d1 R;have O:F.heap.size<(F.alloc (.cells #[.int .i64 gc,.bool go,.int .i64 gt,.string Q] 135)).heap.size:=by simp
     have f6:F.heap.size≠w.heap.size+2:=by have:=(b4.o.kept k5).box.row.lt;omega
     have h5:=Kz (l2.o.kept K6);clear p q t v j x k A;clear p0 p1 z5 k5 s8 s3 s4 l2;cases go
     ·go_upto_region 16 with fail
      generalize C:F.alloc (.cells #[.int .i64 gc,.bool false,.int .i64 gt,.string Q] 135)=D at P h5 d5 d1 R O K6⊢;clear C d5 R K6;have C8:w.heap.size+4<=D.heap.size:=by have:=P.o.abl;have:=P.o.abz;omega
      have m4:=(HW.o.JN).1;rw[<-h4.o] at m4;have s9:gc=0:=by have h2:=CJ s i;rw[<-h4.o] at h2;exact h2
      obtain⟨m5,m6⟩:=m4 s9 rfl;dsimp only at m5 m6;clear m4 s9;have kE:K_ D (D.alloc (.cells #[] 9)):=ag _ _;have j3:Hid ((D.alloc (.cells #[] 9)).ownsRow D.heap.size 9 1 (.slice (some ⟨D.heap.size,0,none⟩) 0 0) 0 (([]:List LK).map Value.string)):=World.ownsRow_made D #[] 0 (Nat.le_refl _) (Nat.zero_le _) rfl;have C9:r.texts.length<=100:=by omega
      have D0:=uZ i;have t8:=P.o.txt;have j4:=Kz kE;obtain⟨ic,j5,m7,m8,m9⟩:=aQ Tryz.bY;clear kE;obtain⟨p,q,t,v,j,x,k⟩:=P.o.box.all;have A:=P.o.box.row.lt;obtain⟨_,t9⟩:=P.o.box.row.row.at (i:=6) (by omega);rcases (show xa=none\/∃ad,xa=some ad from by cases xa with|none=>exact .inl rfl|some d2=>exact .inr ⟨d2,rfl⟩) with rfl|⟨ad,rfl⟩
      ·have h0:r.texts=[]:=by
        cases z6:r.texts with
        | nil=>rfl
        | cons c1 ts=>exfalso;obtain⟨b,o,e,_⟩:=t8 0 (by rw[z6];simp);cases e
       have v0:=k3.o rfl;have v1:D.cell? ⟨w.heap.size+2,6,none⟩=some (.slice none 0 0):=by rw[k,h0,v0];rfl
       have H0:=Kz h0;clear k h0 v0;have k:=v1;clear v1;go_wp2_with (at_builtin;refine wpList_append_own_none _ rfl (.tmp 64) (.tmp 66) 26 rfl D.heap.size 9 ic 1 underlying26 j5 (.slice (some ⟨D.heap.size,0,none⟩) 0 0) 0 [] rfl j3.o rfl ?_)
       have f7:=j4.o;have j6:=j3;generalize z7:D.alloc (.cells #[] 9)=w8 at f7 j6⊢;clear z7;refine (Am w8 l1 c3 i (by omega) (h5.o.kept f7)).mono ?_;rintro e w9 ⟨⟨g9,c9,rfl,h6⟩,k9⟩;have h7:=f7.trans k9;have h8:=Kz (ai j6.o k9);have n4:Hid (∀X u,((aM i).map Value.string)[X]? =some u->w9.cell? ((⟨g9,0,none⟩:Addr).add X)=some u):=fun X u Y=>by
        have hj:X<(aM i).length:=by have:=(JW.1 Y).1;simpa using this
        obtain⟨b,o,e,_,hc⟩:=h6 X hj;simp only[KT,LG,and_true] at e;obtain⟨rfl,rfl⟩:=e;rw[KZ,hc];simp[hj] at Y;simp[List.getD,hj,Y]
       have n5:Hid (∀u∈(aM i).map Value.string,u.oneCell'=true):=fun u Y=>by obtain⟨d2,_,rfl⟩:=Ku.1 Y;rfl
       have n6:=h7.size;clear k9 h6;clear p q t v j x k A;clear t9;go_upto_region 17 with (at_builtin;refine wpList_append_own _ rfl (.tmp 67) (.tmp 69) 26 rfl D.heap.size 9 ic _ 1 16 underlying26 j5 m7 m8 m9 rfl (by decide) (.slice (some ⟨D.heap.size,0,none⟩) 0 0) 0 (([]:List LK).map Value.string) rfl h8.o ⟨g9,0,none⟩ (aM i).length c9 ((aM i).map Value.string) rfl (by simp) n4.o n5.o (by unfold maxLen;omega) (by omega) n6 ?_;intro v2 a3 e0 h9 _;have e1:=aG h7 (JP _) h8.o h9;have n7:=Kz e0;obtain⟨a5,a6,rfl⟩:=ax e0;have a9:=Kz (P.o.kept e1);have n8:=a9.o.box.all.2.2.2.2.2.2;have n9:=a9.o.box.row.lt;obtain⟨_,o0⟩:=a9.o.box.row.row.at (i:=6) (by omega);clear e0 h9)
       have hO:a3.ownsRow D.heap.size 9 1 (.slice a5 ((aM i).length) a6) ((aM i).length) ((([]:List LK)++aM i).map Value.string):=by have b5:=n7.o;simpa using b5
       obtain⟨z8,z9,ev,d3,i0⟩:=dV.owned (n0:=G.heap.size) (c:=w.heap.size+2) hO (by omega);simp only[KX] at ev;obtain⟨rfl,a4,rfl⟩:=ev;have b6:Hid (NSt G.heap.size w (a3.setCell ⟨w.heap.size+2,6,none⟩ (.slice a5 ((aM i).length) a6)) U y.cost (some ⟨I,J,none⟩) y.steps.length T {r with texts:=r.texts++aM i} a5 a6):=a9.o.Jp (by omega) (by simp[Qz.cells,H0.o]) (by rw[show ({r with texts:=r.texts++aM i}:Qz).texts=[]++aM i by simp[H0.o]];exact d3) i0;have o1:(a3.setCell ⟨w.heap.size+2,6,none⟩ (.slice a5 ((aM i).length) a6)).cell? ⟨F.heap.size,2,none⟩=some (.int .i64 gt):=by rw[Zk f6,e1.cell O];exact d1
       have o2:F.heap.size<(a3.setCell ⟨w.heap.size+2,6,none⟩ (.slice a5 ((aM i).length) a6)).heap.size:=by rw[size_setCell];exact JQ O e1.size
       generalize C:a3.setCell ⟨w.heap.size+2,6,none⟩ (.slice a5 ((aM i).length) a6)=A0 at b6 o1 o2⊢;clear C n8 n9 o0 hO d3 i0 a4 d1 O;obtain⟨p,q,t,v,j,x,k⟩:=b6.o.box.all;have A:=b6.o.box.row.lt;obtain⟨_,A1⟩:=b6.o.box.row.row.at (i:=4) (by omega);go_wp2
       go_meet
       refine⟨{r with texts:=r.texts++aM i,at':=gt},a5,a6,b6.o.put (by omega) rfl rfl,(by unfold Y_;rw[b9.o];simp only;rw[Lu hv,c2.o,d0.o];simp only;rw[Lu d9,<-h4.o,Lu (by simp)]),m5,m6,lo,(by show r.Zj<20;omega),(by show (r.texts++aM i).length<=200;rw[KS];omega),fun c1 ht=>?_⟩;rcases JZ.1 ht with ht | ht
       ·exact hgd.ts c1 ht
       ·obtain⟨d2,hx,rfl⟩:=pY ht;exact m2.o d2 hx
      ·have A2:Hid (∀X u,(r.texts.map Value.string)[X]? =some u->(D.alloc (.cells #[] 9)).cell? (ad.add X)=some u):=fun X u Y=>by
        have hj:X<r.texts.length:=by have:=(JW.1 Y).1;simpa using this
        obtain⟨b,o,e,hb,_,hc⟩:=t8 X hj;simp only[KT] at e;subst e;rw[KZ,j4.o.cell hb,hc];simp[hj] at Y;simp[List.getD,hj,Y]
       have A3:Hid (∀u∈r.texts.map Value.string,u.oneCell'=true):=fun u Y=>by obtain⟨d2,_,rfl⟩:=Ku.1 Y;rfl
       have A4:D.heap.size<=(D.alloc (.cells #[] 9)).heap.size:=j4.o.size;go_wp2_with (at_builtin;refine wpList_append_own _ rfl (.tmp 64) (.tmp 66) 26 rfl D.heap.size 9 ic _ 1 16 underlying26 j5 m7 m8 m9 rfl (by decide) (.slice (some ⟨D.heap.size,0,none⟩) 0 0) 0 [] rfl j3.o ad r.texts.length xc (r.texts.map Value.string) rfl (by simp) A2.o A3.o (by unfold maxLen;omega) (by omega) A4 ?_;intro q0 w8 j7 v3 _;rw[KH,List.nil_append] at j7;have f7:=aG j4.o (JP _) j3.o v3;have j6:=Kz j7;obtain⟨A5,A6,rfl⟩:=ax j7;clear j7 v3)
       refine (Am w8 l1 c3 i (by omega) (h5.o.kept f7)).mono ?_;rintro e w9 ⟨⟨g9,c9,rfl,h6⟩,k9⟩;have h7:=f7.trans k9;have h8:=Kz (ai j6.o k9);have n4:Hid (∀X u,((aM i).map Value.string)[X]? =some u->w9.cell? ((⟨g9,0,none⟩:Addr).add X)=some u):=fun X u Y=>by
        have hj:X<(aM i).length:=by have:=(JW.1 Y).1;simpa using this
        obtain⟨b,o,e,_,hc⟩:=h6 X hj;simp only[KT,LG,and_true] at e;obtain⟨rfl,rfl⟩:=e;rw[KZ,hc];simp[hj] at Y;simp[List.getD,hj,Y]
       have n5:Hid (∀u∈(aM i).map Value.string,u.oneCell'=true):=fun u Y=>by obtain⟨d2,_,rfl⟩:=Ku.1 Y;rfl
       have n6:=h7.size;clear k9 h6;clear p q t v j x k A;clear t9;go_upto_region 17 with (at_builtin;refine wpList_append_own _ rfl (.tmp 67) (.tmp 69) 26 rfl D.heap.size 9 ic _ 1 16 underlying26 j5 m7 m8 m9 rfl (by decide) (.slice A5 r.texts.length A6) r.texts.length (r.texts.map Value.string) rfl h8.o ⟨g9,0,none⟩ (aM i).length c9 ((aM i).map Value.string) rfl (by simp) n4.o n5.o (by unfold maxLen;omega) (by omega) n6 ?_;intro v2 a3 e0 h9 _;have e1:=aG h7 (JP _) h8.o h9;have n7:=Kz e0;obtain⟨a5,a6,rfl⟩:=ax e0;have a9:=Kz (P.o.kept e1);have n8:=a9.o.box.all.2.2.2.2.2.2;have n9:=a9.o.box.row.lt;obtain⟨_,o0⟩:=a9.o.box.row.row.at (i:=6) (by omega);clear e0 h9)
       have hO:a3.ownsRow D.heap.size 9 1 (.slice a5 (r.texts.length+ (aM i).length) a6) (r.texts.length+ (aM i).length) ((r.texts++aM i).map Value.string):=by rw[LA];exact n7.o
       obtain⟨z8,z9,ev,d3,i0⟩:=dV.owned (n0:=G.heap.size) (c:=w.heap.size+2) hO (by omega);simp only[KX] at ev;obtain⟨rfl,a4,rfl⟩:=ev;have b6:Hid (NSt G.heap.size w (a3.setCell ⟨w.heap.size+2,6,none⟩ (.slice a5 (r.texts.length+ (aM i).length) a6)) U y.cost (some ⟨I,J,none⟩) y.steps.length T {r with texts:=r.texts++aM i} a5 a6):=a9.o.Jp (by omega) (by simp[Qz.cells]) (d3) i0;have o1:(a3.setCell ⟨w.heap.size+2,6,none⟩ (.slice a5 (r.texts.length+ (aM i).length) a6)).cell? ⟨F.heap.size,2,none⟩=some (.int .i64 gt):=by rw[Zk f6,e1.cell O];exact d1
       have o2:F.heap.size<(a3.setCell ⟨w.heap.size+2,6,none⟩ (.slice a5 (r.texts.length+ (aM i).length) a6)).heap.size:=by rw[size_setCell];exact JQ O e1.size
       generalize C:a3.setCell ⟨w.heap.size+2,6,none⟩ (.slice a5 (r.texts.length+ (aM i).length) a6)=A0 at b6 o1 o2⊢;clear C n8 n9 o0 hO d3 i0 a4 d1 O;obtain⟨p,q,t,v,j,x,k⟩:=b6.o.box.all;have A:=b6.o.box.row.lt;obtain⟨_,A1⟩:=b6.o.box.row.row.at (i:=4) (by omega);go_wp2
       go_meet
       refine⟨{r with texts:=r.texts++aM i,at':=gt},a5,a6,b6.o.put (by omega) rfl rfl,(by unfold Y_;rw[b9.o];simp only;rw[Lu hv,c2.o,d0.o];simp only;rw[Lu d9,<-h4.o,Lu (by simp)]),m5,m6,lo,(by show r.Zj<20;omega),(by show (r.texts++aM i).length<=200;rw[KS];omega),fun c1 ht=>?_⟩;rcases JZ.1 ht with ht | ht
       ·exact hgd.ts c1 ht
       ·obtain⟨d2,hx,rfl⟩:=pY ht;exact m2.o d2 hx
     ·go_upto_region 11 with fail
      generalize C:F.alloc (.cells #[.int .i64 gc,.bool true,.int .i64 gt,.string Q] 135)=D at P h5 d5 d1 R O K6⊢;clear C d5 d1 h5 K6;obtain⟨p,q,t,v,j,x,k⟩:=P.o.box.all;have A:=P.o.box.row.lt;obtain⟨_,g5⟩:=P.o.box.row.row.at (i:=5) (by omega);go_upto_region 12 with fail
      have i1:Hid (NSt G.heap.size w (D.setCell ⟨w.heap.size+2,5,none⟩ (.int .i64 (r.Zj+1))) U y.cost (some ⟨I,J,none⟩) y.steps.length T ({r with Zj:=r.Zj+1}) xa xc):=P.o.put (by omega) rfl rfl;have a7:(D.setCell ⟨w.heap.size+2,5,none⟩ (.int .i64 (r.Zj+1))).cell? ⟨F.heap.size,3,none⟩=some (.string Q):=by rw[Zk f6];exact R
      have a8:F.heap.size<(D.setCell ⟨w.heap.size+2,5,none⟩ (.int .i64 (r.Zj+1))).heap.size:=by rw[size_setCell];exact O
      generalize C:D.setCell ⟨w.heap.size+2,5,none⟩ (.int .i64 (r.Zj+1))=w7 at i1 a7 a8⊢;clear C;clear p q t v j x k A;clear g5;clear R O;have R:=a7;have O:=a8;clear a7 a8;obtain⟨p,q,t,v,j,x,k⟩:=i1.o.box.all;have A:=i1.o.box.row.lt;obtain⟨_,g2⟩:=i1.o.box.row.row.at (i:=1) (by omega);go_upto_region 13 with fail
      have i2:Hid (NSt G.heap.size w (w7.setCell ⟨w.heap.size+2,1,none⟩ (.bool true)) U y.cost (some ⟨I,J,none⟩) y.steps.length T ({r with Zj:=r.Zj+1,over:=true}) xa xc):=i1.o.put (by omega) rfl rfl;have a7:(w7.setCell ⟨w.heap.size+2,1,none⟩ (.bool true)).cell? ⟨F.heap.size,3,none⟩=some (.string Q):=by rw[Zk f6];exact R
      have a8:F.heap.size<(w7.setCell ⟨w.heap.size+2,1,none⟩ (.bool true)).heap.size:=by rw[size_setCell];exact O
      generalize C:w7.setCell ⟨w.heap.size+2,1,none⟩ (.bool true)=w8 at i2 a7 a8⊢;clear C;clear p q t v j x k A;clear g2;clear R O;have R:=a7;have O:=a8;clear a7 a8;obtain⟨p,q,t,v,j,x,k⟩:=i2.o.box.all;have A:=i2.o.box.row.lt;obtain⟨_,g4⟩:=i2.o.box.row.row.at (i:=2) (by omega);go_upto_region 14 with fail
      have i3:Hid (NSt G.heap.size w (w8.setCell ⟨w.heap.size+2,2,none⟩ (.bool true)) U y.cost (some ⟨I,J,none⟩) y.steps.length T ({r with Zj:=r.Zj+1,over:=true,fail:=true}) xa xc):=i2.o.put (by omega) rfl rfl;have a7:(w8.setCell ⟨w.heap.size+2,2,none⟩ (.bool true)).cell? ⟨F.heap.size,3,none⟩=some (.string Q):=by rw[Zk f6];exact R
      have a8:F.heap.size<(w8.setCell ⟨w.heap.size+2,2,none⟩ (.bool true)).heap.size:=by rw[size_setCell];exact O
      generalize C:w8.setCell ⟨w.heap.size+2,2,none⟩ (.bool true)=w9 at i3 a7 a8⊢;clear C;clear p q t v j x k A;clear g4;clear R O;have R:=a7;have O:=a8;clear a7 a8;obtain⟨p,q,t,v,j,x,k⟩:=i3.o.box.all;have A:=i3.o.box.row.lt;obtain⟨_,g7⟩:=i3.o.box.row.row.at (i:=3) (by omega);go_upto_region 15 with fail
      have a9:Hid (NSt G.heap.size w (w9.setCell ⟨w.heap.size+2,3,none⟩ (.string Q)) U y.cost (some ⟨I,J,none⟩) y.steps.length T ({r with Zj:=r.Zj+1,over:=true,fail:=true,text:=Q}) xa xc):=i3.o.put (by omega) rfl rfl;have a7:(w9.setCell ⟨w.heap.size+2,3,none⟩ (.string Q)).cell? ⟨F.heap.size,3,none⟩=some (.string Q):=by rw[Zk f6];exact R
      have a8:F.heap.size<(w9.setCell ⟨w.heap.size+2,3,none⟩ (.string Q)).heap.size:=by rw[size_setCell];exact O
      generalize C:w9.setCell ⟨w.heap.size+2,3,none⟩ (.string Q)=a3 at a9 a7 a8⊢;clear C;clear p q t v j x k A;clear g7;clear R O;have R:=a7;have O:=a8;clear a7 a8;obtain⟨M,Z⟩:=aj (Qz.cells ({r with Zj:=r.Zj+1,over:=true,fail:=true,text:=Q}) xa xc);have a4:M.length=7:=by rw[Z];rfl
      have l3:Hid (M.toArray.all (·.oneCell')=true):=by show _=_;rw[Z];exact all_oneCell_toArray (by simp[Qz.cells,Value.oneCell'])
      have l4:Hid (a3.rangeAt (w.heap.size+2) 0 M):=by show World.rangeAt _ _ _ _;rw[Z];exact a9.o.box.rng
      have A:=a9.o.box.row.lt;have l5:Hid ((prog.info? 40).map (·.size)=some M.toArray.size):=by show _=_;rw[Tryz.lW];simp[a4]
      have g8:Hid ((prog.info? 40).map (·.size)=some M.length):=by show _=_;rw[Tryz.lW,a4]
      have h1:=Kz (a9.o.kept ((K_.refl a3).alloc (.cells #[] 9)));have h3:Hid ((a3.alloc (.cells #[] 9)).there (w.heap.size+3) 0 M.toArray.size):=by show World.there _ _ _ _;simpa[a4] using h1.o.res.row.there (o:=0) (m:=7) (JP _)
      have⟨l6,z3⟩:=aH Z a4;clear Z a4;go_wp2_with (first | (refine wpList_load_mid rfl 40 _ rfl (w.heap.size+2) 0 rfl M _ l4.o underlying40 rfl g8.o ?_) | (refine wpList_store_mid rfl 40 _ _ rfl (w.heap.size+3) 0 M.toArray rfl rfl h3.o l5.o l3.o ?_;rw[List.toList_toArray]))
      have hR:=JU (a3.alloc (.cells #[] 9)) (w.heap.size+3) 0 M (by have:=h3.o;simpa using this);refine bU M _ _ results88 rfl hR underlying40 rfl g8.o rfl rfl ?_;have l7:=l6.o;subst l7;exact h1.o.ends (by unfold Y_;rw[b9.o];simp only;rw[Lu hv,c2.o,d0.o];simp only;rw[Lu d9,<-h4.o,Lt rfl]) (asks:=[]) (fun z4 hi=>by simp at hi) rfl rfl
  case rest=>
   clear p q t v j x k A d7 k2 o5 lo q2 tl i7 e9;obtain⟨f,b2,b3,v4,v8,D1,D2,y2,D3,D4,v9⟩:=hcut;have⟨HM,w0,A7⟩:=dK v4 v8 v9;clear v4 v8 v9;obtain⟨wM,rfl⟩:=aj wc;go_upto_region 18 with fail
   obtain⟨p,q,t,v,j,x,k⟩:=HM.o.box.all;have A:=HM.o.box.row.lt;obtain⟨_,g5⟩:=HM.o.box.row.row.at (i:=5) (by omega);go_upto_region 19 with fail
   have c7:Hid (NSt G.heap.size w (wM.setCell ⟨w.heap.size+2,5,none⟩ (.int .i64 (f.Zj+1))) U y.cost na y.steps.length T ({f with Zj:=f.Zj+1}) b2 b3):=HM.o.put (by omega) rfl rfl;generalize C:wM.setCell ⟨w.heap.size+2,5,none⟩ (.int .i64 (f.Zj+1))=E at c7  ⊢;clear C;clear p q t v j x k A;clear g5;obtain⟨H,c8⟩:∃H:Nat,f.at'= (H:Int):=⟨f.at'.toNat,by omega⟩;have f2:H<y.steps.length:=by omega
   have y3:(H:Int)<(y.steps.length:Int):=by omega
   obtain⟨I,J,y4,rfl,c6,N,a2,ca,ac,cc,rfl,f3,_,_⟩:=(Steps.kept p7.o (i9.o.trans c7.o.kw)) H f2;obtain⟨s,hs⟩:=aj (y.steps.getD H Xj.zero);rw[<-hs] at N f3;have t0:=N 0 _ rfl;have t1:=N 1 _ rfl;have t2:=N 2 _ rfl;have t3:=N 3 _ rfl;have t4:=N 4 _ rfl;have t5:=N 5 _ rfl;have t6:=N 6 _ rfl;have t7:=N 7 _ rfl;rw[La] at t0;have w3:Hid (Strs G a2 s.asks):=by
    obtain⟨D5,D6,D7,R,_,w4,D8,D9,E0,E1,rfl,d3,_⟩:=p7.o H f2;simp only[KT,LG,and_true] at R;obtain⟨rfl,rfl⟩:=R;rw[<-hs] at w4 d3;have L:=((i9.o.trans c7.o.kw).cell (by assumption)).trans (w4 0 _ rfl);rw[La,t0] at L;simp only[KT,KX] at L;obtain⟨rfl,_,_⟩:=L;exact d3
   have c2:Hid (stepOf ⟨y.cost,y.steps⟩ f.at'=s):=by show _=_;unfold stepOf;rw[c8,hs];rfl
   have g0:s∈y.steps:=by rw[hs];simp[List.getD,f2]
   have f5:y∈B:=by rw[HY.o];simp[List.getD,hk]
   have A8:=(o4 y f5).each s g0;have q4:=(k1 y f5 s g0).1;have p1:=c7.o.a1;have pz:=c7.o.abz;obtain⟨p,q,t,v,j,x,k⟩:=c7.o.box.all;have A:=c7.o.box.row.lt;dsimp only at j;rw[c8] at j;clear N f3 hs c8;go_upto_region 20 with fail
   have kS:K_ E (E.alloc (.cells #[.slice a2 s.asks.length ca,.int .i64 s.on,.slice ac s.cases.length cc,.int .i64 s.els,.int .i64 s.fall,.bool s.fin,.bool s.bad,.string s.give] 83)):=ag _ _;have b0:=Kz (c7.o.kept kS);have V:=Xz E #[.slice a2 s.asks.length ca,.int .i64 s.on,.slice ac s.cases.length cc,.int .i64 s.els,.int .i64 s.fall,.bool s.fin,.bool s.bad,.string s.give] 83 0 _ rfl;have v5:=Xz E #[.slice a2 s.asks.length ca,.int .i64 s.on,.slice ac s.cases.length cc,.int .i64 s.els,.int .i64 s.fall,.bool s.fin,.bool s.bad,.string s.give] 83 5 _ rfl;have v6:=Xz E #[.slice a2 s.asks.length ca,.int .i64 s.on,.slice ac s.cases.length cc,.int .i64 s.els,.int .i64 s.fall,.bool s.fin,.bool s.bad,.string s.give] 83 6 _ rfl;have v7:=Xz E #[.slice a2 s.asks.length ca,.int .i64 s.on,.slice ac s.cases.length cc,.int .i64 s.els,.int .i64 s.fall,.bool s.fin,.bool s.bad,.string s.give] 83 7 _ rfl;simp only[KH] at V v5 v6 v7;have W:E.heap.size<(E.alloc (.cells #[.slice a2 s.asks.length ca,.int .i64 s.on,.slice ac s.cases.length cc,.int .i64 s.els,.int .i64 s.fall,.bool s.fin,.bool s.bad,.string s.give] 83)).heap.size:=by simp
   have e2:E.heap.size≠w.heap.size+2:=by omega
   have b1:E.heap.size≠w.heap.size+3:=by have:=c7.o.res.lt;omega
   generalize C:E.alloc (.cells #[.slice a2 s.asks.length ca,.int .i64 s.on,.slice ac s.cases.length cc,.int .i64 s.els,.int .i64 s.fall,.bool s.fin,.bool s.bad,.string s.give] 83)=wQ at b0 V v5 v6 v7 W⊢;clear C kS t0 t1 t2 t3 t4 t5 t6 t7 p1 pz;clear p q t v j x k A;have e3:=W;have e4:=W;cases j8:s.fin
   ·rw[j8] at v5;obtain⟨p,q,t,v,j,x,k⟩:=b0.o.box.all;have c:w.heap.size+2≠w.heap.size+3:=by omega
    have i4:Hid (∀w',K_ wQ w'->w'.cell? ⟨E.heap.size,0,none⟩=some (.slice a2 s.asks.length ca)/\w'.cell? ⟨w.heap.size+2,0,none⟩=some (.string ({f with Zj:=f.Zj+1}).name)/\w'.cell? ⟨w.heap.size+2,1,none⟩=some (.bool ({f with Zj:=f.Zj+1}).over)/\w'.cell? ⟨w.heap.size+2,2,none⟩=some (.bool ({f with Zj:=f.Zj+1}).fail)/\w'.cell? ⟨w.heap.size+2,3,none⟩=some (.string ({f with Zj:=f.Zj+1}).text)/\w'.cell? ⟨w.heap.size+2,4,none⟩=some (.int .i64 ({f with Zj:=f.Zj+1}).at')/\w'.cell? ⟨w.heap.size+2,5,none⟩=some (.int .i64 ({f with Zj:=f.Zj+1}).Zj)/\w'.cell? ⟨w.heap.size+2,6,none⟩=some (.slice b2 ({f with Zj:=f.Zj+1}).texts.length b3)):=fun w' K=>⟨(K.cell W).trans V,(K.cell b0.o.box.row.lt).trans p,(K.cell b0.o.box.row.lt).trans q,(K.cell b0.o.box.row.lt).trans t,(K.cell b0.o.box.row.lt).trans v,(K.cell b0.o.box.row.lt).trans j,(K.cell b0.o.box.row.lt).trans x,(K.cell b0.o.box.row.lt).trans k⟩
    go_upto_region 24 with fail
    refine iF 4 i4.o (aL wQ) (fun h=>?_);have HL:=Kz (b0.o.kept (aL wQ));generalize g1:wQ.drew=wd at h HL⊢;clear g1 p q t v j x k i4;refine af 0 h ?_;refine af 1 h ?_;refine af 2 h ?_;obtain⟨⟨⟨_,A9⟩,f0⟩,⟨⟨_,x1⟩,f1⟩,⟨⟨_,x2⟩,B0⟩,⟨⟨_,B1⟩,B2⟩,⟨⟨_,B3⟩,f4⟩,⟨⟨_,B4⟩,B5⟩,⟨_,x6⟩,B6⟩:=HL.o.res.row.Fb;have xz:=HL.o.res.lt;refine ah 3 (fun K n=>?_);go_simp
    refine n.out _ _ (fun _=>⟨(by rw[Zk b1,Zk b1,Zk b1,Zk b1,Zk b1,Zk b1,Zk b1];exact h.1),(by rw[Zk c,Zk c,Zk c,Zk c,Zk c,Zk c,Zk c];exact h.2.1),(by rw[Zk c,Zk c,Zk c,Zk c,Zk c,Zk c,Zk c];exact h.2.2.1),(by rw[Zk c,Zk c,Zk c,Zk c,Zk c,Zk c,Zk c];exact h.2.2.2.1),(by rw[Zk c,Zk c,Zk c,Zk c,Zk c,Zk c,Zk c];exact h.2.2.2.2.1),(by rw[Zk c,Zk c,Zk c,Zk c,Zk c,Zk c,Zk c];exact h.2.2.2.2.2.1),(by rw[Zk c,Zk c,Zk c,Zk c,Zk c,Zk c,Zk c];exact h.2.2.2.2.2.2.1),(by rw[Zk c,Zk c,Zk c,Zk c,Zk c,Zk c,Zk c];exact h.2.2.2.2.2.2.2)⟩) ?_;clear n K;try simp only
    refine ah 4 (fun K n=>?_);go_simp
    refine ae n (fun b5=>Lv rfl b5) ?_;clear n K;refine aB ?_;go_wp2_with fail
    have hR:=JU wd (w.heap.size+3) 0 (Qz.cells ({f with Zj:=f.Zj+1}) b2 b3) (HL.o.res.row.there (o:=0) (m:=7) (JP _));refine bU (Qz.cells ({f with Zj:=f.Zj+1}) b2 b3) _ _ results88 rfl hR underlying40 rfl Tryz.lW rfl rfl ?_;exact HL.o.ends (by rw[w0.o];unfold gU;rw[c2.o,j8];rfl) (asks:=s.asks) (dV.old w3.o (i9.o.trans HL.o.kw) (JP _)) rfl rfl
   ·rw[j8] at v5;go_upto_region 21 with fail
    obtain⟨p,q,t,v,j,x,k⟩:=b0.o.box.all;have A:=b0.o.box.row.lt;obtain⟨_,g2⟩:=b0.o.box.row.row.at (i:=1) (by omega);go_upto_region 22 with fail
    have i5:Hid (NSt G.heap.size w (wQ.setCell ⟨w.heap.size+2,1,none⟩ (.bool true)) U y.cost (some ⟨I,J,none⟩) y.steps.length T ({f with Zj:=f.Zj+1,over:=true}) b2 b3):=b0.o.put (by omega) rfl rfl;have e5:(wQ.setCell ⟨w.heap.size+2,1,none⟩ (.bool true)).cell? ⟨E.heap.size,6,none⟩=some (.bool s.bad):=by rw[Zk e2];exact v6
    have e6:E.heap.size<(wQ.setCell ⟨w.heap.size+2,1,none⟩ (.bool true)).heap.size:=by rw[size_setCell];exact e3
    have e7:(wQ.setCell ⟨w.heap.size+2,1,none⟩ (.bool true)).cell? ⟨E.heap.size,7,none⟩=some (.string s.give):=by rw[Zk e2];exact v7
    have e8:E.heap.size<(wQ.setCell ⟨w.heap.size+2,1,none⟩ (.bool true)).heap.size:=by rw[size_setCell];exact e4
    have b7:(wQ.setCell ⟨w.heap.size+2,1,none⟩ (.bool true)).cell? ⟨E.heap.size,0,none⟩=some (.slice a2 s.asks.length ca):=by rw[Zk e2];exact V
    have b8:E.heap.size<(wQ.setCell ⟨w.heap.size+2,1,none⟩ (.bool true)).heap.size:=by rw[size_setCell];exact W
    generalize C:wQ.setCell ⟨w.heap.size+2,1,none⟩ (.bool true)=wR at i5 e5 e6 e7 e8 b7 b8⊢;clear C;clear p q t v j x k A;clear g2;clear v6 e3;have v6:=e5;have e3:=e6;clear e5 e6;clear v7 e4;have v7:=e7;have e4:=e8;clear e7 e8;clear V W;have V:=b7;have W:=b8;clear b7 b8;obtain⟨p,q,t,v,j,x,k⟩:=i5.o.box.all;have A:=i5.o.box.row.lt;obtain⟨_,g4⟩:=i5.o.box.row.row.at (i:=2) (by omega);go_upto_region 23 with fail
    have i6:Hid (NSt G.heap.size w (wR.setCell ⟨w.heap.size+2,2,none⟩ (.bool s.bad)) U y.cost (some ⟨I,J,none⟩) y.steps.length T ({f with Zj:=f.Zj+1,over:=true,fail:=s.bad}) b2 b3):=i5.o.put (by omega) rfl rfl;have e5:(wR.setCell ⟨w.heap.size+2,2,none⟩ (.bool s.bad)).cell? ⟨E.heap.size,6,none⟩=some (.bool s.bad):=by rw[Zk e2];exact v6
    have e6:E.heap.size<(wR.setCell ⟨w.heap.size+2,2,none⟩ (.bool s.bad)).heap.size:=by rw[size_setCell];exact e3
    have e7:(wR.setCell ⟨w.heap.size+2,2,none⟩ (.bool s.bad)).cell? ⟨E.heap.size,7,none⟩=some (.string s.give):=by rw[Zk e2];exact v7
    have e8:E.heap.size<(wR.setCell ⟨w.heap.size+2,2,none⟩ (.bool s.bad)).heap.size:=by rw[size_setCell];exact e4
    have b7:(wR.setCell ⟨w.heap.size+2,2,none⟩ (.bool s.bad)).cell? ⟨E.heap.size,0,none⟩=some (.slice a2 s.asks.length ca):=by rw[Zk e2];exact V
    have b8:E.heap.size<(wR.setCell ⟨w.heap.size+2,2,none⟩ (.bool s.bad)).heap.size:=by rw[size_setCell];exact W
    generalize C:wR.setCell ⟨w.heap.size+2,2,none⟩ (.bool s.bad)=wS at i6 e5 e6 e7 e8 b7 b8⊢;clear C;clear p q t v j x k A;clear g4;clear v6 e3;have v6:=e5;have e3:=e6;clear e5 e6;clear v7 e4;have v7:=e7;have e4:=e8;clear e7 e8;clear V W;have V:=b7;have W:=b8;clear b7 b8;obtain⟨p,q,t,v,j,x,k⟩:=i6.o.box.all;have A:=i6.o.box.row.lt;have B7:s.give.size<=maxLen:=A8.give;have B8:f.texts.length<=maxLen:=by unfold maxLen;omega
    have w5:∀c1∈f.texts,c1.size<=maxLen:=fun c1 ht=>by have:=A7.o c1 ht;unfold maxLen;omega
    go_wp2_with fail
    refine (vQ wS s.give b2 b3 f.texts B7 B8 w5 i6.o.txt.strs).mono ?_;rintro e wT ⟨rfl,kT⟩;have j9:=Kz (i6.o.kept kT);have w6:=(kT.cell W).trans V;have x0:=JQ W kT.size;clear V W v6 v7 e3 e4 kT w5;clear p q t v j x k A;have V:=w6;have W:=x0;clear w6 x0;obtain⟨fb,o3⟩:=aj (mZ s.give f.texts);rw[<-o3];have B9:=Kz o3;clear o3;obtain⟨p,q,t,v,j,x,k⟩:=j9.o.box.all;have A:=j9.o.box.row.lt;obtain⟨_,g7⟩:=j9.o.box.row.row.at (i:=3) (by omega);go_upto_region 24 with fail
    have c4:Hid (NSt G.heap.size w (wT.setCell ⟨w.heap.size+2,3,none⟩ (.string fb)) U y.cost (some ⟨I,J,none⟩) y.steps.length T ({f with Zj:=f.Zj+1,over:=true,fail:=s.bad,text:=fb}) b2 b3):=j9.o.put (by omega) rfl rfl;have b7:(wT.setCell ⟨w.heap.size+2,3,none⟩ (.string fb)).cell? ⟨E.heap.size,0,none⟩=some (.slice a2 s.asks.length ca):=by rw[Zk e2];exact V
    have b8:E.heap.size<(wT.setCell ⟨w.heap.size+2,3,none⟩ (.string fb)).heap.size:=by rw[size_setCell];exact W
    generalize C:wT.setCell ⟨w.heap.size+2,3,none⟩ (.string fb)=wU at c4 b7 b8⊢;clear C;clear p q t v j x k A;clear g7;clear V W;have V:=b7;have W:=b8;clear b7 b8;obtain⟨p,q,t,v,j,x,k⟩:=c4.o.box.all;have c:w.heap.size+2≠w.heap.size+3:=by omega
    have i4:Hid (∀w',K_ wU w'->w'.cell? ⟨E.heap.size,0,none⟩=some (.slice a2 s.asks.length ca)/\w'.cell? ⟨w.heap.size+2,0,none⟩=some (.string ({f with Zj:=f.Zj+1,over:=true,fail:=s.bad,text:=fb}).name)/\w'.cell? ⟨w.heap.size+2,1,none⟩=some (.bool ({f with Zj:=f.Zj+1,over:=true,fail:=s.bad,text:=fb}).over)/\w'.cell? ⟨w.heap.size+2,2,none⟩=some (.bool ({f with Zj:=f.Zj+1,over:=true,fail:=s.bad,text:=fb}).fail)/\w'.cell? ⟨w.heap.size+2,3,none⟩=some (.string ({f with Zj:=f.Zj+1,over:=true,fail:=s.bad,text:=fb}).text)/\w'.cell? ⟨w.heap.size+2,4,none⟩=some (.int .i64 ({f with Zj:=f.Zj+1,over:=true,fail:=s.bad,text:=fb}).at')/\w'.cell? ⟨w.heap.size+2,5,none⟩=some (.int .i64 ({f with Zj:=f.Zj+1,over:=true,fail:=s.bad,text:=fb}).Zj)/\w'.cell? ⟨w.heap.size+2,6,none⟩=some (.slice b2 ({f with Zj:=f.Zj+1,over:=true,fail:=s.bad,text:=fb}).texts.length b3)):=fun w' K=>⟨(K.cell W).trans V,(K.cell c4.o.box.row.lt).trans p,(K.cell c4.o.box.row.lt).trans q,(K.cell c4.o.box.row.lt).trans t,(K.cell c4.o.box.row.lt).trans v,(K.cell c4.o.box.row.lt).trans j,(K.cell c4.o.box.row.lt).trans x,(K.cell c4.o.box.row.lt).trans k⟩
    go_upto_region 24 with fail
    refine iF 4 i4.o (aL wU) (fun h=>?_);have HL:=Kz (c4.o.kept (aL wU));generalize g1:wU.drew=wd at h HL⊢;clear g1 p q t v j x k i4;refine af 0 h ?_;refine af 1 h ?_;refine af 2 h ?_;obtain⟨⟨⟨_,A9⟩,f0⟩,⟨⟨_,x1⟩,f1⟩,⟨⟨_,x2⟩,B0⟩,⟨⟨_,B1⟩,B2⟩,⟨⟨_,B3⟩,f4⟩,⟨⟨_,B4⟩,B5⟩,⟨_,x6⟩,B6⟩:=HL.o.res.row.Fb;have xz:=HL.o.res.lt;refine ah 3 (fun K n=>?_);go_simp
    refine n.out _ _ (fun _=>⟨(by rw[Zk b1,Zk b1,Zk b1,Zk b1,Zk b1,Zk b1,Zk b1];exact h.1),(by rw[Zk c,Zk c,Zk c,Zk c,Zk c,Zk c,Zk c];exact h.2.1),(by rw[Zk c,Zk c,Zk c,Zk c,Zk c,Zk c,Zk c];exact h.2.2.1),(by rw[Zk c,Zk c,Zk c,Zk c,Zk c,Zk c,Zk c];exact h.2.2.2.1),(by rw[Zk c,Zk c,Zk c,Zk c,Zk c,Zk c,Zk c];exact h.2.2.2.2.1),(by rw[Zk c,Zk c,Zk c,Zk c,Zk c,Zk c,Zk c];exact h.2.2.2.2.2.1),(by rw[Zk c,Zk c,Zk c,Zk c,Zk c,Zk c,Zk c];exact h.2.2.2.2.2.2.1),(by rw[Zk c,Zk c,Zk c,Zk c,Zk c,Zk c,Zk c];exact h.2.2.2.2.2.2.2)⟩) ?_;clear n K;try simp only
    refine ah 4 (fun K n=>?_);go_simp
    refine ae n (fun b5=>Lv rfl b5) ?_;clear n K;refine aB ?_;go_wp2_with fail
    have hR:=JU wd (w.heap.size+3) 0 (Qz.cells ({f with Zj:=f.Zj+1,over:=true,fail:=s.bad,text:=fb}) b2 b3) (HL.o.res.row.there (o:=0) (m:=7) (JP _));refine bU (Qz.cells ({f with Zj:=f.Zj+1,over:=true,fail:=s.bad,text:=fb}) b2 b3) _ _ results88 rfl hR underlying40 rfl Tryz.lW rfl rfl ?_;exact HL.o.ends (by rw[w0.o];unfold gU;rw[c2.o,j8,B9.o];rfl) (asks:=s.asks) (dV.old w3.o (i9.o.trans HL.o.kw) (JP _)) rfl rfl
