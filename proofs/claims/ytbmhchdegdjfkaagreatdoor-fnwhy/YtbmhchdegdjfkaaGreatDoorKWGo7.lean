import Derived.Test.YtbmhchdegdjfkaaGreatDoorKWGo5
import Derived.Test.YtbmhchdegdjfkaaGreatDoorKOConcat
set_option maxRecDepth 100000
set_option maxHeartbeats 25600000
namespace Go.Proofs.YtbmhchdegdjfkaaGreatDoor
open Go.RowKit Go.Proofs.Tryz
theorem yB(w:KH)(cost B:Int)(a d:KG)(N d2:Nat)(l:List Xq)(ans:List Xz)(hl:l.length<=maxLen)(hs:∀s∈l,s.Fits)(hS:Steps w a l)
  (d3:ans.length<=maxLen) (d4:∀c∈ans,c.text.size<=maxLen) (W:ed w d ans)
  (hF:mH cost l B) (hE:ans.length= (iE l B).asks.length):
  Calls prog 80 #[.agg #[.int .i64 cost,.slice a l.length N],.int .i64 B,.slice d ans.length d2] w fun e w'=>(∃g,e= .returned (.agg g.cells.toArray)/\jb cost l B ans g)/\K_ w w':=by
 have⟨C,a5⟩:=aD hF hE;clear hF hE;have d5:=hl;have d6:=d3;unfold maxLen at d5 d6;have X:K_ w ((w.alloc (.cells #[.int .i64 cost,.slice a l.length N] 77)).alloc (.cells #[.int .i64 0,.bool false,.int .i64 0,.string ⟨#[]⟩] 135)):=(ag _ _).alloc _;go_enter func80,ntmps80
 go_wp2_with fail
 refine (fq _ cost a N l hl hs (hS.kept X)).mono ?_;rintro e w1 ⟨a6,G⟩;have D:=X.trans G;have a7:Row w1 (w.heap.size+1) 4:=Row.kept (by have:=Row.made (w.alloc (.cells #[.int .i64 cost,.slice a l.length N] 77)) #[.int .i64 0,.bool false,.int .i64 0,.string ⟨#[]⟩] 135;simpa using this) G;have H:=Kz a7;clear a7;obtain⟨f6,f7⟩:=G.rules;have d7:=G.size;simp only[JG] at d7;have x0:w.heap.size<w1.heap.size:=by omega
 have x1:w.heap.size+1<w1.heap.size:=by omega
 rcases a6.cases with⟨rfl,a8⟩|⟨rfl,d8⟩
 ·have HV:=Kz a8;clear a8 a6 X G;have p1:0<=B:=C.o.2.1.1;have p2:B<l.length:=C.o.2.1.2;obtain⟨v,rfl⟩:=Int.eq_ofNat_of_zero_le p1;have Y:v<l.length:=by omega
  obtain⟨b,o,cs,rfl,hb,q,I,J,K,L,rfl,hA,hC,d9⟩:=hS.kept D v Y;have a9:=hs (l.getD v Xq.zero) (by simp[List.getD,Y]);obtain⟨s,O⟩:=ah (l.getD v Xq.zero);rw[<-O] at q a9 hA hC d9;have x:Hid (iE l v=s):=by rw[O];show Hid (l.getD (v:Int).toNat Xq.zero=_);rw[Int.toNat_natCast];exact rfl
  have e0:Hid (jS s l.length):=by rw[O];exact HV.o.2.2 v Y
  clear O;have c0:=q 0 _ rfl;have c1:=q 1 _ rfl;have e1:=q 2 _ rfl;have e2:=q 3 _ rfl;have e3:=q 4 _ rfl;have c5:=q 5 _ rfl;have c6:=q 6 _ rfl;have c7:=q 7 _ rfl;simp only[JM] at c0;clear q;have b0:s.fin=false:=by have:=C.o.2.2;rw[x.o] at this;exact this
  rw[b0] at c5;have P:Hid (ans.length=s.asks.length):=by have:=a5.o;rw[x.o] at this;exact this
  have f8:((ans.length:Int) != (s.asks.length:Int))=false:=by have:=P.o;simp;omega
  have E:Hid (mH cost l v):=C.o;have b2:Hid (CP s l.length):=e0.o.2 b0;clear C a5;have Q:K_ w1 (w1.alloc (.cells #[.slice I s.asks.length J,.int .i64 s.on,.slice K s.cases.length L,.int .i64 s.els,.int .i64 s.fall,.bool false,.bool s.bad,.string s.give] 83)):=ag _ _;have Z:=D.trans Q;have e4:=Kz (H.o.kept Q);go_wp2_with (go_at_call 83;refine (uq _ _ _ _ (by omega) (by omega)).mono ?_;rintro e w' ⟨rfl,b3⟩;have e5:=Eq.symm b3;clear b3;subst e5)
  clear c0 c1 e1 e2 e3 c5 c6 c7;go_loop [8] (fun i=>∃k:Nat,k<=ans.length/\i= .int .i64 k/\lm ans ni k) (fun i=>ans.length-(intOf i).toNat)
  case atStart=>exact⟨0,Ja _,rfl,fun j r=>aP r⟩
  case round=>
   obtain⟨k,a0,rfl,y⟩:=hrel;have f:=Kz y;clear y;by_cases R:k<ans.length
   ·obtain⟨b1,o1,rfl,e6,A⟩:=W.kept Z k R;have b4:(ans.getD k Xz.zero).text.size<=maxLen:=d4 _ (by simp[List.getD,R]);obtain⟨c,n⟩:=ah (ans.getD k Xz.zero);rw[<-n] at A b4;have t:=Kz n;clear n;unfold maxLen at b4;have d1:=A 1 _ rfl;clear A;by_cases f9:(200:Int)<c.text.size
    ·skip
     go_wp2
     have p:=World.rangeAt_alloc (Jc w1 (w.heap.size+1) 0 bN.none.cells (H.o.there (o:=0) (m:=4) (IZ _))) (.cells #[.slice I s.asks.length J,.int .i64 s.on,.slice K s.cases.length L,.int .i64 s.els,.int .i64 s.fall,.bool false,.bool s.bad,.string s.give] 83);exact Zx bN.none.cells _ results80 rfl p underlying135 rfl Tryz.dC rfl ⟨⟨_,rfl,Or.inr ⟨E.o,by rw[x.o];exact Or.inl ⟨fun h=>h.2 ⟨k,R,by unfold ni;rw[<-t.o];omega⟩,rfl⟩⟩⟩,K_.alloc (K_.setCells (g:=w.heap.size+1) (by omega) bN.none.cells 0 D) _⟩
    ·go_wp2
     go_round
     case rel=>
      refine⟨k+1,by omega,by go_num,fun j r=>?_⟩;by_cases e:j=k
      ·subst e;unfold ni;rw[<-t.o];omega
      ·exact f.o j (by omega)
     case measure=>simp[intOf];omega
   ·have M:Hid (uE s ans):=⟨P.o,fun ⟨i,hi,h⟩=>f.o i (by omega) h⟩;clear f;go_wp2
    go_loop [9] (fun i=>∃k:Nat,k<=ans.length/\i= .int .i64 k/\lm ans gP k) (fun i=>ans.length-(intOf i).toNat)
    case atStart=>exact⟨0,Ja _,rfl,fun j r=>aP r⟩
    case round=>
     clear a0 R;obtain⟨k,a0,rfl,y⟩:=hrel;have f:=Kz y;clear y;by_cases a1:k<ans.length
     ·obtain⟨b1,o1,rfl,e6,A⟩:=W.kept Z k a1;obtain⟨c,n⟩:=ah (ans.getD k Xz.zero);rw[<-n] at A;have t:=Kz n;clear n;have d0:=A 0 _ rfl;simp only[JM] at d0;clear A;cases S:c.fail
      ·rw[S] at d0;go_wp2
       go_round
       case rel=>
        refine⟨k+1,by omega,by go_num,fun j r=>?_⟩;by_cases e:j=k
        ·subst e;unfold gP;rw[<-t.o,S];simp
        ·exact f.o j (by omega)
       case measure=>simp[intOf];omega
      ·rw[S] at d0;have HP:Hid (gP (ans.getD k Xz.zero)):=by rw[<-t.o];exact S
       cases b5:(s.fall == -1)
       ·skip
        go_wp2
        have p:=World.rangeAt_alloc (Jc w1 (w.heap.size+1) 0 [.int .i64 0,.bool false,.int .i64 s.fall,.string ⟨#[]⟩] (H.o.there (o:=0) (m:=4) (IZ _))) (.cells #[.slice I s.asks.length J,.int .i64 s.on,.slice K s.cases.length L,.int .i64 s.els,.int .i64 s.fall,.bool false,.bool s.bad,.string s.give] 83);exact Zx [.int .i64 0,.bool false,.int .i64 s.fall,.string ⟨#[]⟩] _ results80 rfl p underlying135 rfl Tryz.dC rfl ⟨⟨⟨0,false,s.fall,⟨#[]⟩⟩,rfl,Or.inr ⟨E.o,by rw[x.o];exact Or.inr ⟨M.o,Or.inl ⟨k,a1,HP.o,f.o,Or.inr ⟨by simpa using b5,rfl⟩⟩⟩⟩⟩,K_.alloc (K_.setCells (g:=w.heap.size+1) (by omega) [.int .i64 0,.bool false,.int .i64 s.fall,.string ⟨#[]⟩] 0 D) _⟩
       ·have b6:k<s.asks.length:=by have:=P.o;omega
        obtain⟨g0,o6,rfl,g1,e7⟩:=hA.kept Q k b6;have e8:(s.asks.getD k ByteArray.empty).size<=20:=(b2.o.1.2.2.2.1 k b6).1.2.1;obtain⟨a2,hv⟩:=ah (s.asks.getD k ByteArray.empty);rw[<-hv] at e7 e8;have e9:=Kz hv;clear hv;go_wp2
        have p:=Jc w1 (w.heap.size+1) 0 [.int .i64 0,.bool true,.int .i64 0,.string ((⟨#[98,101,108,111,119,32]⟩:KC)++a2)] (H.o.there (o:=0) (m:=4) (IZ _));exact Zx [.int .i64 0,.bool true,.int .i64 0,.string ((⟨#[98,101,108,111,119,32]⟩:KC)++a2)] _ results80 rfl (World.rangeAt_alloc p _) underlying135 rfl Tryz.dC rfl ⟨⟨⟨0,true,0,_⟩,rfl,Or.inr ⟨E.o,by rw[x.o];exact Or.inr ⟨M.o,Or.inl ⟨k,a1,HP.o,f.o,Or.inl ⟨by simpa using b5,by unfold ji;rw[<-e9.o]⟩⟩⟩⟩⟩,K_.alloc (K_.setCells (g:=w.heap.size+1) (by omega) [.int .i64 0,.bool true,.int .i64 0,.string ((⟨#[98,101,108,111,119,32]⟩:KC)++a2)] 0 D) _⟩
     ·have a3:Hid (lm ans gP ans.length):=fun j r=>f.o j (by omega)
      clear f;cases T:((ans.length:Int) == 0)
      ·have b7:ans.length≠0:=by simp at T;simpa using T
       have b8:=Kz b7;have f0:0<=s.on/\s.on<ans.length:=by have h1:=b2.o.1.2.2.2.2.2.2.2;have h2:=P.o;omega
       obtain⟨q1,q2⟩:=f0;clear b7;obtain⟨a4,b9⟩:=ah (lg ans s.on);have U:=Kz b9;clear b9;have f1:s.on.toNat<ans.length:=by omega
       have f2:=a9.cases;unfold maxLen at f2;go_wp2
       go_loopw [10] (fun i wr=>∃k:Nat,k<=s.cases.length/\i= .int .i64 k/\K_ (w1.alloc (.cells #[.slice I s.asks.length J,.int .i64 s.on,.slice K s.cases.length L,.int .i64 s.els,.int .i64 s.fall,.bool false,.bool s.bad,.string s.give] 83)) wr/\CaseTo s a4 k) (fun i _=>s.cases.length-(intOf i).toNat)
       case atStart=>exact⟨0,Ja _,rfl,K_.refl _,fun j r=>aP r⟩
       case round=>
        obtain⟨k,a0,rfl,F,y⟩:=hrel;have f:=Kz y;clear y;have k3:K_ w wr:=Z.trans F;obtain⟨g2,g3⟩:=F.rules;have f3:=F.size;simp only[JG] at f3;have c2:=Kz (e4.o.kept F);have v0:w.heap.size+1<w1.heap.size+1:=by omega
        have v1:w1.heap.size<w1.heap.size+1:=by omega
        by_cases c3:k<s.cases.length
        ·obtain⟨g4,o3,rfl,g5,V⟩:=(hC.kept Q).kept F k c3;obtain⟨g6,o4,f4,g7,c4⟩:=W.kept k3 s.on.toNat f1;obtain⟨c,n⟩:=ah (s.cases.getD k bD.zero);rw[<-n] at V;have t:=Kz n;clear n;have f5:=V 0 _ rfl;have g8:=V 1 _ rfl;have d1:=c4 1 _ rfl;simp only[JM] at f5;have c8:(ans.getD s.on.toNat Xz.zero).text=a4:=by have h1:=U.o;unfold lg at h1;exact h1.symm
         rw[c8] at d1;subst f4;clear V c4 c8;cases c9:(c.text.toList == a4.toList)
         ·go_wp2
          go_region
          all_goals
           go_wp2
           go_roundw
           case rel=>
            refine⟨k+1,by omega,by go_num,by repeat (first | apply K_.drew | exact F),fun j r=>?_⟩;by_cases e:j=k
            ·subst e;unfold qD;rw[<-t.o];exact qf c9
            ·exact f.o j (by omega)
           case measure=>simp[intOf];omega
         ·go_wp2
          go_region
          all_goals
           go_wp2
           have p:=Jc wr.drew (w.heap.size+1) 0 [.int .i64 0,.bool false,.int .i64 c.goto,.string ⟨#[]⟩] (Row.there (Row.kept c2.o (K_.drew (K_.refl _))) (o:=0) (m:=4) (IZ _));exact Zx [.int .i64 0,.bool false,.int .i64 c.goto,.string ⟨#[]⟩] _ results80 rfl p underlying135 rfl Tryz.dC rfl ⟨⟨⟨0,false,c.goto,⟨#[]⟩⟩,rfl,Or.inr ⟨E.o,by rw[x.o];exact Or.inr ⟨M.o,Or.inr ⟨a3.o,c.goto,Or.inr ⟨b8.o,Or.inl ⟨k,c3,by unfold qD;rw[<-t.o,<-U.o];exact nP.1 c9,by rw[<-U.o];exact f.o,by unfold Bu;rw[<-t.o]⟩⟩,rfl⟩⟩⟩⟩,K_.setCells (g:=w.heap.size+1) (by omega) [.int .i64 0,.bool false,.int .i64 c.goto,.string ⟨#[]⟩] 0 k3.drew⟩
        ·skip
         go_wp2
         have p:=Jc wr (w.heap.size+1) 0 [.int .i64 0,.bool false,.int .i64 s.els,.string ⟨#[]⟩] (c2.o.there (o:=0) (m:=4) (IZ _));exact Zx [.int .i64 0,.bool false,.int .i64 s.els,.string ⟨#[]⟩] _ results80 rfl p underlying135 rfl Tryz.dC rfl ⟨⟨⟨0,false,s.els,⟨#[]⟩⟩,rfl,Or.inr ⟨E.o,by rw[x.o];exact Or.inr ⟨M.o,Or.inr ⟨a3.o,s.els,Or.inr ⟨b8.o,Or.inr ⟨by rw[<-U.o];exact fun j r=>f.o j (by omega),rfl⟩⟩,rfl⟩⟩⟩⟩,K_.setCells (g:=w.heap.size+1) (by omega) [.int .i64 0,.bool false,.int .i64 s.els,.string ⟨#[]⟩] 0 k3⟩
      ·skip
       go_wp2
       have p:=World.rangeAt_alloc (Jc w1 (w.heap.size+1) 0 [.int .i64 0,.bool false,.int .i64 s.els,.string ⟨#[]⟩] (H.o.there (o:=0) (m:=4) (IZ _))) (.cells #[.slice I s.asks.length J,.int .i64 s.on,.slice K s.cases.length L,.int .i64 s.els,.int .i64 s.fall,.bool false,.bool s.bad,.string s.give] 83);exact Zx [.int .i64 0,.bool false,.int .i64 s.els,.string ⟨#[]⟩] _ results80 rfl p underlying135 rfl Tryz.dC rfl ⟨⟨⟨0,false,s.els,⟨#[]⟩⟩,rfl,Or.inr ⟨E.o,by rw[x.o];exact Or.inr ⟨M.o,Or.inr ⟨a3.o,s.els,Or.inl ⟨by simp at T;simpa using T,rfl⟩,rfl⟩⟩⟩⟩,K_.alloc (K_.setCells (g:=w.heap.size+1) (by omega) [.int .i64 0,.bool false,.int .i64 s.els,.string ⟨#[]⟩] 0 D) _⟩
 ·exact Ki C.o.1 d8
