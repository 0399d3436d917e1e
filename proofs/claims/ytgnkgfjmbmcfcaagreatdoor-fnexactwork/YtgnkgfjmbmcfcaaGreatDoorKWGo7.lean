import Derived.Test.YtgnkgfjmbmcfcaaGreatDoorKWGo5
import Derived.Test.YtgnkgfjmbmcfcaaGreatDoorKVCirc
set_option maxRecDepth 100000
set_option maxHeartbeats 25600000
namespace Go.Proofs.YtgnkgfjmbmcfcaaGreatDoor
open Go.RowKit Go.Proofs.Tryz
theorem Bq(w:Qy)(cost A:Int)(a d:Qx)(cap c8:Nat)(l:List Xq)(ans:List Xz)(hl:l.length<=maxLen)(hs:∀s∈l,s.Fits)(hS:Steps w a l)
  (c9:ans.length<=maxLen) (d2:∀c∈ans,c.text.size<=maxLen) (U:eP w d ans)
  (hF:oo cost l A) (hE:ans.length= (ll l A).asks.length):
  Calls prog 169 #[.agg #[.int .i64 cost,.slice a l.length cap],.int .i64 A,.slice d ans.length c8] w fun e w'=>(∃g,e= .returned (.agg g.cells.toArray)/\mG cost l A ans g)/\K_ w w':=by
 have⟨B,a4⟩:=aD hF hE;clear hF hE;have d3:=hl;have d4:=c9;unfold maxLen at d3 d4;have V:K_ w ((w.alloc (.cells #[.int .i64 cost,.slice a l.length cap] 88)).alloc (.cells #[.int .i64 0,.bool false,.int .i64 0,.string ⟨#[]⟩] 244)):=(ak _ _).alloc _;go_enter func169,ntmps169
 go_wp2_with fail
 refine (il _ cost a cap l hl hs (hS.kept V)).mono ?_;rintro e f ⟨a5,F⟩;have C:=V.trans F;have a6:Row f (w.heap.size+1) 4:=Row.kept (by have:=Row.made (w.alloc (.cells #[.int .i64 cost,.slice a l.length cap] 88)) #[.int .i64 0,.bool false,.int .i64 0,.string ⟨#[]⟩] 244;simpa using this) F;have G:=Kz a6;clear a6;obtain⟨f6,f7⟩:=F.rules;have d5:=F.size;simp only[PL] at d5;have x0:w.heap.size<f.heap.size:=by omega
 have x1:w.heap.size+1<f.heap.size:=by omega
 rcases a5.cases with⟨rfl,a7⟩|⟨rfl,d6⟩
 ·have HV:=Kz a7;clear a7 a5 V F;have p1:0<=A:=B.o.2.1.1;have p2:A<l.length:=B.o.2.1.2;obtain⟨v,rfl⟩:=Int.eq_ofNat_of_zero_le p1;have W:v<l.length:=by omega
  obtain⟨b,o,cs,rfl,hb,q,H,I,J,K,rfl,hA,hC,d7⟩:=hS.kept C v W;have a8:=hs (l.getD v Xq.zero) (by simp[List.getD,W]);obtain⟨s,M⟩:=ag (l.getD v Xq.zero);rw[<-M] at q a8 hA hC d7;have x:Hid (ll l v=s):=by rw[M];show Hid (l.getD (v:Int).toNat Xq.zero=_);rw[Int.toNat_natCast];exact rfl
  have d8:Hid (lC s l.length):=by rw[M];exact HV.o.2.2 v W
  clear M;have c0:=q 0 _ rfl;have d9:=q 1 _ rfl;have e0:=q 2 _ rfl;have e1:=q 3 _ rfl;have e2:=q 4 _ rfl;have c5:=q 5 _ rfl;have c6:=q 6 _ rfl;have e3:=q 7 _ rfl;simp only[PR] at c0;clear q;have a9:s.fin=false:=by have:=B.o.2.2;rw[x.o] at this;exact this
  rw[a9] at c5;have N:Hid (ans.length=s.asks.length):=by have:=a4.o;rw[x.o] at this;exact this
  have f8:((ans.length:Int) != (s.asks.length:Int))=false:=by have:=N.o;simp;omega
  have D:Hid (oo cost l v):=B.o;have b0:Hid (Ih s l.length):=d8.o.2 a9;clear B a4;have O:K_ f (f.alloc (.cells #[.slice H s.asks.length I,.int .i64 s.on,.slice J s.cases.length K,.int .i64 s.els,.int .i64 s.fall,.bool false,.bool s.bad,.string s.give] 172)):=ak _ _;have X:=C.trans O;have e5:=Kz (G.o.kept O);go_wp2_with (go_at_call 20;refine (rU _ _ _ _ (by omega) (by omega)).mono ?_;rintro e w' ⟨rfl,b2⟩;have e6:=Eq.symm b2;clear b2;subst e6)
  clear c0 d9 e0 e1 e2 c5 c6 e3;go_loop [8] (fun i=>∃k:Nat,k<=ans.length/\i= .int .i64 k/\mO ans p_ k) (fun i=>ans.length-(intOf i).toNat)
  case atStart=>exact⟨0,OW _,rfl,fun j r=>aB r⟩
  case round=>
   obtain⟨k,Y,rfl,y⟩:=hrel;have h:=Kz y;clear y;by_cases P:k<ans.length
   ·obtain⟨b1,o1,rfl,e7,z⟩:=U.kept X k P;have b3:(ans.getD k Xz.zero).text.size<=maxLen:=d2 _ (by simp[List.getD,P]);obtain⟨c,n⟩:=ag (ans.getD k Xz.zero);rw[<-n] at z b3;have t:=Kz n;clear n;unfold maxLen at b3;have d1:=z 1 _ rfl;clear z;by_cases f9:(200:Int)<c.text.size
    ·skip
     go_wp2
     have p:=World.rangeAt_alloc (OY f (w.heap.size+1) 0 bW.none.cells (G.o.there (o:=0) (m:=4) (OU _))) (.cells #[.slice H s.asks.length I,.int .i64 s.on,.slice J s.cases.length K,.int .i64 s.els,.int .i64 s.fall,.bool false,.bool s.bad,.string s.give] 172);exact Zx bW.none.cells _ results169 rfl p underlying244 rfl Tryz.dL rfl ⟨⟨_,rfl,Or.inr ⟨D.o,by rw[x.o];exact Or.inl ⟨fun Z=>Z.2 ⟨k,P,by unfold p_;rw[<-t.o];omega⟩,rfl⟩⟩⟩,K_.alloc (K_.setCells (g:=w.heap.size+1) (by omega) bW.none.cells 0 C) _⟩
    ·go_wp2
     go_round
     case rel=>
      refine⟨k+1,by omega,by go_num,fun j r=>?_⟩;by_cases e:j=k
      ·subst e;unfold p_;rw[<-t.o];omega
      ·exact h.o j (by omega)
     case measure=>simp[intOf];omega
   ·have L:Hid (yB s ans):=⟨N.o,fun ⟨i,hi,Z⟩=>h.o i (by omega) Z⟩;clear h;go_wp2
    go_loop [9] (fun i=>∃k:Nat,k<=ans.length/\i= .int .i64 k/\mO ans iI k) (fun i=>ans.length-(intOf i).toNat)
    case atStart=>exact⟨0,OW _,rfl,fun j r=>aB r⟩
    case round=>
     clear Y P;obtain⟨k,Y,rfl,y⟩:=hrel;have h:=Kz y;clear y;by_cases a0:k<ans.length
     ·obtain⟨b1,o1,rfl,e7,z⟩:=U.kept X k a0;obtain⟨c,n⟩:=ag (ans.getD k Xz.zero);rw[<-n] at z;have t:=Kz n;clear n;have d0:=z 0 _ rfl;simp only[PR] at d0;clear z;cases Q:c.fail
      ·rw[Q] at d0;go_wp2
       go_round
       case rel=>
        refine⟨k+1,by omega,by go_num,fun j r=>?_⟩;by_cases e:j=k
        ·subst e;unfold iI;rw[<-t.o,Q];simp
        ·exact h.o j (by omega)
       case measure=>simp[intOf];omega
      ·rw[Q] at d0;have HP:Hid (iI (ans.getD k Xz.zero)):=by rw[<-t.o];exact Q
       cases b4:(s.fall == -1)
       ·skip
        go_wp2
        have p:=World.rangeAt_alloc (OY f (w.heap.size+1) 0 [.int .i64 0,.bool false,.int .i64 s.fall,.string ⟨#[]⟩] (G.o.there (o:=0) (m:=4) (OU _))) (.cells #[.slice H s.asks.length I,.int .i64 s.on,.slice J s.cases.length K,.int .i64 s.els,.int .i64 s.fall,.bool false,.bool s.bad,.string s.give] 172);exact Zx [.int .i64 0,.bool false,.int .i64 s.fall,.string ⟨#[]⟩] _ results169 rfl p underlying244 rfl Tryz.dL rfl ⟨⟨⟨0,false,s.fall,⟨#[]⟩⟩,rfl,Or.inr ⟨D.o,by rw[x.o];exact Or.inr ⟨L.o,Or.inl ⟨k,a0,HP.o,h.o,Or.inr ⟨by simpa using b4,rfl⟩⟩⟩⟩⟩,K_.alloc (K_.setCells (g:=w.heap.size+1) (by omega) [.int .i64 0,.bool false,.int .i64 s.fall,.string ⟨#[]⟩] 0 C) _⟩
       ·have b5:k<s.asks.length:=by have:=N.o;omega
        obtain⟨b6,o6,rfl,g0,e8⟩:=hA.kept O k b5;have e9:(s.asks.getD k ByteArray.empty).size<=20:=(b0.o.1.2.2.2.1 k b5).1.2.1;obtain⟨a1,hv⟩:=ag (s.asks.getD k ByteArray.empty);rw[<-hv] at e8 e9;have f0:=Kz hv;clear hv;go_wp2
        have p:=OY f (w.heap.size+1) 0 [.int .i64 0,.bool true,.int .i64 0,.string ((⟨#[98,101,108,111,119,32]⟩:Qw)++a1)] (G.o.there (o:=0) (m:=4) (OU _));exact Zx [.int .i64 0,.bool true,.int .i64 0,.string ((⟨#[98,101,108,111,119,32]⟩:Qw)++a1)] _ results169 rfl (World.rangeAt_alloc p _) underlying244 rfl Tryz.dL rfl ⟨⟨⟨0,true,0,_⟩,rfl,Or.inr ⟨D.o,by rw[x.o];exact Or.inr ⟨L.o,Or.inl ⟨k,a0,HP.o,h.o,Or.inl ⟨by simpa using b4,by unfold kK;rw[<-f0.o]⟩⟩⟩⟩⟩,K_.alloc (K_.setCells (g:=w.heap.size+1) (by omega) [.int .i64 0,.bool true,.int .i64 0,.string ((⟨#[98,101,108,111,119,32]⟩:Qw)++a1)] 0 C) _⟩
     ·have a2:Hid (mO ans iI ans.length):=fun j r=>h.o j (by omega)
      clear h;cases R:((ans.length:Int) == 0)
      ·have b7:ans.length≠0:=by simp at R;simpa using R
       have b8:=Kz b7;have f1:0<=s.on/\s.on<ans.length:=by have h1:=b0.o.1.2.2.2.2.2.2.2;have h2:=N.o;omega
       obtain⟨q1,q2⟩:=f1;clear b7;obtain⟨a3,b9⟩:=ag (mM ans s.on);have S:=Kz b9;clear b9;have f2:s.on.toNat<ans.length:=by omega
       have f3:=a8.cases;unfold maxLen at f3;go_wp2
       go_loopw [10] (fun i wr=>∃k:Nat,k<=s.cases.length/\i= .int .i64 k/\K_ (f.alloc (.cells #[.slice H s.asks.length I,.int .i64 s.on,.slice J s.cases.length K,.int .i64 s.els,.int .i64 s.fall,.bool false,.bool s.bad,.string s.give] 172)) wr/\CaseTo s a3 k) (fun i _=>s.cases.length-(intOf i).toNat)
       case atStart=>exact⟨0,OW _,rfl,K_.refl _,fun j r=>aB r⟩
       case round=>
        obtain⟨k,Y,rfl,E,y⟩:=hrel;have h:=Kz y;clear y;have k3:K_ w wr:=X.trans E;obtain⟨g1,g2⟩:=E.rules;have f4:=E.size;simp only[PL] at f4;have c1:=Kz (e5.o.kept E);have v0:w.heap.size+1<f.heap.size+1:=by omega
        have v1:f.heap.size<f.heap.size+1:=by omega
        by_cases c2:k<s.cases.length
        ·obtain⟨g3,o3,rfl,g4,T⟩:=(hC.kept O).kept E k c2;obtain⟨g5,o4,e4,g6,c3⟩:=U.kept k3 s.on.toNat f2;obtain⟨c,n⟩:=ag (s.cases.getD k aT.zero);rw[<-n] at T;have t:=Kz n;clear n;have f5:=T 0 _ rfl;have g7:=T 1 _ rfl;have d1:=c3 1 _ rfl;simp only[PR] at f5;have c4:(ans.getD s.on.toNat Xz.zero).text=a3:=by have h1:=S.o;unfold mM at h1;exact h1.symm
         rw[c4] at d1;subst e4;clear T c3 c4;cases c7:(c.text.toList == a3.toList)
         ·go_wp2
          go_region
          all_goals
           go_wp2
           go_roundw
           case rel=>
            refine⟨k+1,by omega,by go_num,by repeat (first | apply K_.drew | exact E),fun j r=>?_⟩;by_cases e:j=k
            ·subst e;unfold tX;rw[<-t.o];exact sJ c7
            ·exact h.o j (by omega)
           case measure=>simp[intOf];omega
         ·go_wp2
          go_region
          all_goals
           go_wp2
           have p:=OY wr.drew (w.heap.size+1) 0 [.int .i64 0,.bool false,.int .i64 c.goto,.string ⟨#[]⟩] (Row.there (Row.kept c1.o (K_.drew (K_.refl _))) (o:=0) (m:=4) (OU _));exact Zx [.int .i64 0,.bool false,.int .i64 c.goto,.string ⟨#[]⟩] _ results169 rfl p underlying244 rfl Tryz.dL rfl ⟨⟨⟨0,false,c.goto,⟨#[]⟩⟩,rfl,Or.inr ⟨D.o,by rw[x.o];exact Or.inr ⟨L.o,Or.inr ⟨a2.o,c.goto,Or.inr ⟨b8.o,Or.inl ⟨k,c2,by unfold tX;rw[<-t.o,<-S.o];exact pM.1 c7,by rw[<-S.o];exact h.o,by unfold FR;rw[<-t.o]⟩⟩,rfl⟩⟩⟩⟩,K_.setCells (g:=w.heap.size+1) (by omega) [.int .i64 0,.bool false,.int .i64 c.goto,.string ⟨#[]⟩] 0 k3.drew⟩
        ·skip
         go_wp2
         have p:=OY wr (w.heap.size+1) 0 [.int .i64 0,.bool false,.int .i64 s.els,.string ⟨#[]⟩] (c1.o.there (o:=0) (m:=4) (OU _));exact Zx [.int .i64 0,.bool false,.int .i64 s.els,.string ⟨#[]⟩] _ results169 rfl p underlying244 rfl Tryz.dL rfl ⟨⟨⟨0,false,s.els,⟨#[]⟩⟩,rfl,Or.inr ⟨D.o,by rw[x.o];exact Or.inr ⟨L.o,Or.inr ⟨a2.o,s.els,Or.inr ⟨b8.o,Or.inr ⟨by rw[<-S.o];exact fun j r=>h.o j (by omega),rfl⟩⟩,rfl⟩⟩⟩⟩,K_.setCells (g:=w.heap.size+1) (by omega) [.int .i64 0,.bool false,.int .i64 s.els,.string ⟨#[]⟩] 0 k3⟩
      ·skip
       go_wp2
       have p:=World.rangeAt_alloc (OY f (w.heap.size+1) 0 [.int .i64 0,.bool false,.int .i64 s.els,.string ⟨#[]⟩] (G.o.there (o:=0) (m:=4) (OU _))) (.cells #[.slice H s.asks.length I,.int .i64 s.on,.slice J s.cases.length K,.int .i64 s.els,.int .i64 s.fall,.bool false,.bool s.bad,.string s.give] 172);exact Zx [.int .i64 0,.bool false,.int .i64 s.els,.string ⟨#[]⟩] _ results169 rfl p underlying244 rfl Tryz.dL rfl ⟨⟨⟨0,false,s.els,⟨#[]⟩⟩,rfl,Or.inr ⟨D.o,by rw[x.o];exact Or.inr ⟨L.o,Or.inr ⟨a2.o,s.els,Or.inl ⟨by simp at R;simpa using R,rfl⟩,rfl⟩⟩⟩⟩,K_.alloc (K_.setCells (g:=w.heap.size+1) (by omega) [.int .i64 0,.bool false,.int .i64 s.els,.string ⟨#[]⟩] 0 C) _⟩
 ·exact Qi B.o.1 d6
