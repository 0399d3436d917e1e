import Derived.Test.YtbmhchdegdjfkaaGreatDoorKVNeeds
import Derived.RangeFuncWrites
import Derived.RangeFuncCalls
import Derived.Shelf.RegionOpen
import Derived.OwnWalkIn
import Derived.LoopNIn
import Derived.LoopIn
import Derived.Test.YtbmhchdegdjfkaaGreatDoorKBEnd
import Derived.Test.YtbmhchdegdjfkaaGreatDoorKVLead
set_option maxRecDepth 100000
set_option maxHeartbeats 25600000
namespace Go.Proofs.YtbmhchdegdjfkaaGreatDoor
open Go.RowKit Go.Proofs.Tryz
def Ints(w:LP)(a:LM)(l:List Int):Prop:=∀i,i<l.length->∃b o,a=some ⟨b,o,none⟩/\b<w.heap.size/\w.cell? ⟨b,o+i,none⟩=some (.int .i64 (l.getD i 0))
variable {w : LP}
theorem Ints.kept{w':LP}{a:LM}{l:List Int}(h:Ints w a l)(k:K_ w w'):Ints w' a l:=fun i c=>by
 obtain⟨d,o,e,b,f⟩:=h i c;exact⟨d,o,e,JQ b k.size,(k.cell b).trans f⟩
structure oq (wr:LP) (xb:Nat) (Kk:List LK) (T:List Qz) (D:List LK) (ra:LM) (rc:Nat) (d:LM) (dc:Nat) (da:LM) (ac:Nat):Prop where
 row:aC wr xb 49 3
 c0:wr.cell? ⟨xb,0,none⟩=some (.slice ra Kk.length rc)
 c1:wr.cell? ⟨xb,1,none⟩=some (.slice d T.length dc)
 c2:wr.cell? ⟨xb,2,none⟩=some (.slice da D.length ac)
 rts:Strs wr ra Kk
 rns:bD wr d T
 own:wr.ownsRow (xb+1) 9 1 (.slice da D.length ac) D.length (D.map Value.string)
variable {D Kk : List LK} {T : List Qz} {ac dc rc xb : Nat} {d da ra : LM}
theorem oq.kept{w':LP}(h:oq w xb Kk T D ra rc d dc da ac)(k:K_ w w'):oq w' xb Kk T D ra rc d dc da ac:=
 ⟨h.row.kept k,(k.cell h.row.lt).trans h.c0,(k.cell h.row.lt).trans h.c1,(k.cell h.row.lt).trans h.c2,h.rts.kept k,h.rns.kept k,ai h.own k⟩
theorem oq.made(a:Strs w ra Kk)(b:bD w d T):oq (w.alloc (.cells #[.slice ra Kk.length rc,.slice d T.length dc,.slice none 0 0] 49)) w.heap.size Kk T [] ra rc d dc none 0:=
 ⟨aC.made w _ _,Xz w #[.slice ra Kk.length rc,.slice d T.length dc,.slice none 0 0] 49 0 _ rfl,Xz w #[.slice ra Kk.length rc,.slice d T.length dc,.slice none 0 0] 49 1 _ rfl,Xz w #[.slice ra Kk.length rc,.slice d T.length dc,.slice none 0 0] 49 2 _ rfl,a.kept (ag _ _),b.kept (ag _ _),⟨rfl,.inl ⟨rfl,rfl⟩⟩⟩
def JG(Kk:List LK)(T:List Qz)(D:List LK)(w w':LP)(e:Ending):Prop:=
 ∃ra rc d dc xs da ac,e= .returned (.agg #[.slice ra Kk.length rc,.slice d T.length dc,.slice da D.length ac])/\w'.ownsRow w.heap.size 9 1 (.slice ra Kk.length rc) Kk.length (Kk.map Value.string)/\w'.ownsRow w.heap.size 40 7 (.slice d T.length dc) T.length xs/\aW w' (fun b=>w.heap.size<=b) xs T/\w'.ownsRow w.heap.size 9 1 (.slice da D.length ac) D.length (D.map Value.string)/\K_ w w'
def Gp(Kq:List Qq)(Kk:List LK)(picks:List Int)(w w':LP)(e:Ending):Prop:=
 ((bn Kq 0/\eO Kk)/\∃T D,Bq Kq picks (bV Kq Kk) [] T D/\JG Kk T D w w' e)\/(¬(bn Kq 0/\eO Kk)/\e= .returned (.agg #[.slice none 0 0,.slice none 0 0,.slice none 0 0])/\K_ w w')
theorem Tryz.sD :(prog.info? 49).map (·.size)=some 3:=by kernel_rfl
theorem iO{base size g:Nat}{e:TypeId}{v:LQ}{n:Nat}{a:List LQ}(b:g<base):∀(vs:List LQ) (o:Nat) {w:LP},w.ownsRow base e size v n a->(w.setCells g o vs).ownsRow base e size v n a
 | [],_,_,h=>h
 | u :: r,o,_,h=>by rw[World.setCells];exact iO b r (o+1) (aU h (p:=⟨g,o,none⟩) b u)
theorem nO{P:Nat->Prop}{a:List LQ}{l:List Qz}{c:Nat}(d:∀b,P b->b≠c):∀(vs:List LQ) (o:Nat) {w:LP},aW w P a l->aW (w.setCells c o vs) P a l
 | [],_,_,h=>h
 | u :: r,o,_,h=>by rw[World.setCells];exact nO d r (o+1) (h.set d u)
theorem xE{b n:Nat}{t:TypeId}(h:aC w b t n):w.there b 0 n:=h.row.there (o:=0) (m:=n) (by omega)
theorem ES(a d f:LM)(n c m e k l:Nat):(#[Value.slice a n c,Value.slice d m e,Value.slice f k l].all (·.oneCell'))=true:=by simp[Value.oneCell']
theorem yw{W w':LP}{P:Nat->Prop}{a:List LQ}{l:List Qz}{c:Option Nat}(h:aW W P a l)(g:W.grownBy w' c)(f:∀b,P b->some b≠c):aW w' P a l:=by
 refine⟨h.1,fun i j=>?_⟩;obtain⟨k,m,n,p,q,d⟩:=h.2 i j;refine⟨k,m,n,(fun r s=>?_),q,d⟩;obtain⟨b,o,rfl,e,t⟩:=p r s;exact⟨b,o,rfl,JQ e g.size,(Ke (w:=W) (g.block b e (f b (d _ rfl)))).trans t⟩
theorem oq.put{c a:LP}(h:oq c xb Kk T D ra rc d dc da ac)(k:K_ c a)(v0 v1:LQ):
  aC (a.setCells xb 0 [v0,v1]) xb 49 3/\(a.setCells xb 0 [v0,v1]).cell? ⟨xb,0,none⟩=some v0/\(a.setCells xb 0 [v0,v1]).cell? ⟨xb,1,none⟩=some v1/\(a.setCells xb 0 [v0,v1]).cell? ⟨xb,2,none⟩=some (.slice da D.length ac)/\(a.setCells xb 0 [v0,v1]).ownsRow (xb+1) 9 1 (.slice da D.length ac) D.length (D.map Value.string):=by
 have b:=h.kept k;have e:=JU a xb 0 [v0,v1] (b.row.row.there (o:=0) (m:=2) (by omega));refine⟨aC.sets _ _ b.row,e 0 _ rfl,e 1 _ rfl, ?_,iO (Ky _) _ 0 b.own⟩;rw[World.cell?_setCells_out xb [v0,v1] 0 a _ (fun _ _=>.inr (by simp))];exact b.c2
theorem oq.next{c q V x:LP}{e f h:Nat}{a:List Qz}{i j l:LM}{G:List LQ}{C:LK}(y:oq c xb Kk T D ra rc d dc da ac)(k:K_ c q)
 (Y:q.ownsRow c.heap.size 9 1 (.slice i Kk.length e) Kk.length (Kk.map Value.string)) (Z:q.ownsRow c.heap.size 40 7 (.slice j a.length f) a.length G) (hP:aW q (fun b=>c.heap.size<=b) G a)
 (n:K_ (q.setCells xb 0 [.slice i Kk.length e,.slice j a.length f]) V) (A:V.grownBy x (Value.slice da D.length ac).ownBlock) (a0:x.ownsRow (xb+1) 9 1 (.slice l (D.length+1) h) (D.length+1) (D.map Value.string++ [.string C])):
  oq (x.setCell ⟨xb,2,none⟩ (.slice l (D.length+1) h)) xb Kk a (D++ [C]) i e j f l h:=by
 obtain⟨E,p2,p3,_,p5⟩:=y.put k (.slice i Kk.length e) (.slice j a.length f);have B:xb<c.heap.size:=y.row.lt;have H:∀b,c.heap.size<=b->some b≠(Value.slice da D.length ac).ownBlock:=fun b I r=>by
  have:=(y.own.lt b r.symm).2;omega
 have a1:some xb≠(Value.slice da D.length ac).ownBlock:=fun r=>by
  have:=(y.own.lt xb r.symm).1;omega
 have J:=E.kept n;have F:x.heap[xb]? =V.heap[xb]? :=A.block xb J.lt a1;have K:=J.block F;have L:(D++ [C]).length=D.length+1:=by simp
 have M:=ai (iO B [.slice i Kk.length e,.slice j a.length f] 0 Y) n;have N:=ai (iO B [.slice i Kk.length e,.slice j a.length f] 0 Z) n;have a2:=(nO (c:=xb) (fun b I=>by omega) [.slice i Kk.length e,.slice j a.length f] 0 hP).kept n;have O:∀{s t m:Nat} {v:LM} {P:TypeId} {Q:Nat} {R:List LQ},V.ownsRow c.heap.size P Q (.slice v s t) m R->(Value.slice v s t).ownBlock=none\/(Value.slice v s t).ownBlock≠(Value.slice da D.length ac).ownBlock:=fun {s t m v P Q R} hh=>by
  cases r:(Value.slice v s t).ownBlock with
  | none=>exact .inl rfl
  | some b=>exact .inr (H b (hh.lt b r).1)
 have a3:=aU (M.kept A (O M)) (p:=⟨xb,2,none⟩) B (.slice l (D.length+1) h);have a4:=aU (N.kept A (O N)) (p:=⟨xb,2,none⟩) B (.slice l (D.length+1) h);have a5:=(yw a2 A H).set (c:=xb) (p:=2) (fun b I=>by omega) (.slice l (D.length+1) h);have a6:=aU a0 (p:=⟨xb,2,none⟩) (Ky xb) (.slice l (D.length+1) h);refine⟨K.set _, ?_, ?_, ?_, ?_, ?_, ?_⟩
 ·rw[Xx (by omega),Ke (w:=V) F,n.cell E.lt];exact p2
 ·rw[Xx (by omega),Ke (w:=V) F,n.cell E.lt];exact p3
 ·rw[L];exact bG K.row (by omega) _
 ·obtain⟨a7,c9,S,U⟩:=aX a3;simp only[KX,true_and] at S;rw[<-S.1] at U;exact U
 ·obtain⟨_,a8,c8,W,X⟩:=aW.runs a4 a5 (K_.refl _);simp only[KX,true_and] at W;rw[<-W.1] at X;exact X.runs
 ·rw[L,LA];exact a6
theorem oq.grown{a b V c:LP}{v0 v1:LQ}(h:oq a xb Kk T D ra rc d dc da ac)(k:K_ a b)(f:K_ (b.setCells xb 0 [v0,v1]) V)(i:V.grownBy c (Value.slice da D.length ac).ownBlock):aC c xb 49 3:=by
 have e:=(h.put k v0 v1).1.kept f;exact e.block (i.block xb e.lt fun j=>by have:=(h.own.lt xb j.symm).1;omega)
theorem wN(w:LP)(a:LM)(I:Nat)(b:List Qq)(ra:LM)(rc:Nat)(Kk:List LK)(pa:LM)(pc:Nat)(k:List Int)(k5:b.length<=1048576)(b4:∀y∈b,y.Fits)(k7:Kk.length<=1048576)(g3:∀s∈Kk,s.size<=maxLen)(k9:k.length<=1048576)(_hp64:∀p∈k,In64 p)
  (hN:bN w a b) (hR:Strs w ra Kk) (hP:Ints w pa k):
  Calls prog 23 #[.agg #[.slice a b.length I],.slice ra Kk.length rc,.slice pa k.length pc] w fun e w'=>Gp b Kk k w w' e:=by
 obtain⟨WB,b3⟩:=aj ((w.alloc (.cells #[.slice a b.length I] 25)).alloc (.cells #[.slice none 0 0,.slice none 0 0,.slice none 0 0] 49));have kB:K_ w WB:=by rw[b3];exact (ag _ _).alloc _
 have i1:WB.heap.size=w.heap.size+2:=by rw[b3];simp
 have L:WB.cell? ⟨w.heap.size,0,none⟩=some (.slice a b.length I):=by rw[b3,K_.cell (w:=w.alloc (.cells #[.slice a b.length I] 25)) (ag _ _) (by simp)];exact Xz w _ _ 0 _ rfl
 have d6:Hid (aC WB (w.heap.size+1) 49 3):=by
  have h1:=aC.made (w.alloc (.cells #[.slice a b.length I] 25)) #[.slice none 0 0,.slice none 0 0,.slice none 0 0] 49;simp only[KR] at h1;rw[b3];exact h1
 have z0:w.heap.size<WB.heap.size:=by omega
 have HC:Hid (∀w',K_ WB w'->w'.cell? ⟨w.heap.size,0,none⟩=some (.slice a b.length I)/\w.heap.size+1<w'.heap.size):=fun w' R=>⟨(R.cell z0).trans L,by have:=R.size;omega⟩
 have J:=Kz kB;clear kB i1 L z0;go_enter func23,ntmps23
 go_upto_region 1 with fail
 rw[<-b3];clear b3;obtain⟨L,z1⟩:=HC.o _ (K_.refl _);go_wp2_with fail
 refine (fu _ a I b (by unfold maxLen;omega) b4 (hN.kept J.o)).mono ?_;rintro e w1 ⟨⟨c,rfl,hc⟩,k1⟩;clear L z1;obtain⟨L,z1⟩:=HC.o _ k1;by_cases S:c=0;rotate_left
 ·have l0:(c != 0)=true:=by simpa using S
  have i2:Hid (¬bn b 0):=fun h=>S (hc.unique h)
  have Y:=Kz (d6.o.kept k1);obtain⟨⟨_,x0⟩,f0⟩:=Y.o.row.at (i:=0) (by omega);obtain⟨⟨_,x1⟩,f1⟩:=Y.o.row.at (i:=1) (by omega);obtain⟨⟨_,x2⟩,i3⟩:=Y.o.row.at (i:=2) (by omega);clear S hc;go_wp2_with fail
  have b5:=JU w1 (w.heap.size+1) 0 [.slice none 0 0,.slice none 0 0,.slice none 0 0] (Y.o.row.there (o:=0) (m:=3) (JP _));exact X_ [.slice none 0 0,.slice none 0 0,.slice none 0 0] _ results23 rfl b5 underlying49 rfl Tryz.sD rfl (.inr ⟨fun h=>i2.o h.1,rfl,bQ (g:=w.heap.size+1) (by omega) [.slice none 0 0,.slice none 0 0,.slice none 0 0] 0 (J.o.trans k1)⟩)
 subst S;have K:=Kz hc;clear hc;go_wp2_with fail
 refine (iQ _ ra rc Kk (by unfold maxLen;omega) g3 (hR.kept (J.o.trans k1))).mono ?_;rintro e w2 ⟨e4,i4⟩;have K2:=k1.trans i4;clear L z1;obtain⟨L,z1⟩:=HC.o _ K2;rcases e4.cases with⟨rfl,g4⟩|⟨rfl,g5⟩;rotate_left
 ·have i5:=Kz g5;have Y:=Kz (d6.o.kept K2);obtain⟨⟨_,x0⟩,f0⟩:=Y.o.row.at (i:=0) (by omega);obtain⟨⟨_,x1⟩,f1⟩:=Y.o.row.at (i:=1) (by omega);obtain⟨⟨_,x2⟩,i3⟩:=Y.o.row.at (i:=2) (by omega);clear g5 e4;go_wp2_with fail
  have b5:=JU w2 (w.heap.size+1) 0 [.slice none 0 0,.slice none 0 0,.slice none 0 0] (Y.o.row.there (o:=0) (m:=3) (JP _));exact X_ [.slice none 0 0,.slice none 0 0,.slice none 0 0] _ results23 rfl b5 underlying49 rfl Tryz.sD rfl (.inr ⟨fun h=>i5.o h.2,rfl,bQ (g:=w.heap.size+1) (by omega) [.slice none 0 0,.slice none 0 0,.slice none 0 0] 0 (J.o.trans K2)⟩)
 have HY:=Kz g4;clear g4 e4;obtain⟨rb,ro,rfl,_,_⟩:=hR 0 (by have:=HY.o.1;omega);have l1:=gG K.o;have e5:=HY.o.2.1;go_wp2_with fail
 refine (pM w2 a I b rb ro rc Kk (by omega) b4 K.o HY.o g3 (hN.kept (J.o.trans K2)) (hR.kept (J.o.trans K2))).mono ?_;rintro e w3 ⟨xa,V,M,W,xs,rfl,d7,d8,d9,k3⟩;have X:=K2.trans k3;have e6:Hid (Strs w3 xa Kk/\bD w3 M (bV b Kk)):=by
  obtain⟨i6,c9,e9,h9⟩:=aX d7;simp only[KX,true_and] at e9;rw[<-e9.1] at h9;obtain⟨_,l2,c8,g6,h8⟩:=aW.runs d8 d9 (K_.refl _);simp only[KX,true_and] at g6;rw[<-g6.1] at h8;exact⟨h9,h8.runs⟩
 clear d7 d8 d9 k3;obtain⟨j,e7⟩:=aj w3.heap.size;have Z:w3.heap.size<=j:=by omega
 have g7:=Kz e7;clear L z1;go_upto_region 4 with fail
 rw[<-e7];clear e7;go_wp2
 go_loopg [] (lu b (bV b Kk)) (fun gg wr=>∃(T:List Qz) (D:List LK) (xa:LM) (V:Nat) (M:LM) (W:Nat) (n:LM) (q:Nat),K_ w3 wr/\oq wr j Kk T D xa V M W n q/\gg=lu b T/\Hid (BF b k (bV b Kk) T D))
 case atStart=>exact⟨bV b Kk,[],xa,V,M,W,none,0,ag _ _,by rw[g7.o];exact oq.made e6.o.1 e6.o.2,rfl,Kz (BF.start (gX (aZ K.o) Kk))⟩
 case round=>
  clear e6 g7;obtain⟨T,D,xa,V,M,W,n,q,Kr,hX,rfl,a0⟩:=hrel;have l3:T.length<=60:=by have:=a0.o.good.len;omega
  obtain⟨L,z1⟩:=HC.o _ (X.trans Kr);have m0:=hX.c0;have m1:=hX.c1;have m2:=hX.c2;have mz:=hX.row.lt;have HX:=Kz hX;clear hX;go_wp2_with fail
  refine (oM wr a I b xa Kk.length V M W T (by omega) (by omega) (gV K.o) (fun r hr _ _=>(a0.o.good.good r hr).act) (hN.kept (J.o.trans (X.trans Kr))) HX.o.rns).mono ?_;rintro e w6 ⟨⟨la,lc,t,rfl,e8,g8⟩,k6⟩;have g9:=Kz e8;have l4:t.length<=60:=by have:=e8.len;omega
  have i7:Hid (Strs w6 la t):=by
   obtain⟨i6,c9,e9,h9⟩:=aX g8;simp only[KX,true_and] at e9;rw[<-e9.1] at h9;exact h9
  have d:=Kz (HX.o.kept k6);have N:=Kr.trans k6;clear e8 g8 L z1 m0 m1 m2 mz HX k6;obtain⟨L,z1⟩:=HC.o _ (X.trans N);have m0:=d.o.c0;have m1:=d.o.c1;have m2:=d.o.c2;have mz:=d.o.row.lt;by_cases b6:t.length=0
  ·have i8:((t.length:Int) == 0)=true:=by simpa using b6
   have i9:Hid (t=[]):=Kh.1 b6;clear b6;obtain⟨qb,qo,rfl,_,_⟩:=d.o.rts 0 (by have:=HY.o.1;omega);have f2:Hid (∀w',K_ w6 w'->(fun w'=>w'.cell? ⟨j,0,none⟩=some (.slice (some ⟨qb,qo,none⟩) Kk.length V)/\w'.cell? ⟨j,1,none⟩=some (.slice M T.length W)/\w'.cell? ⟨j,2,none⟩=some (.slice n D.length q)) w'):=fun w' R=>⟨(R.cell mz).trans m0,(R.cell mz).trans m1,(R.cell mz).trans m2⟩
   go_upto_region 6 with fail
   refine bf 6 f2.o fun wd KD b2=>?_
   refine af 0 b2 ?_;refine af 1 b2 ?_;refine af 3 b2 ?_;refine af 4 b2 ?_;refine ak 2 (fun R hK=>?_);go_simp
   go_at_call 53
   refine (Em wd qb qo V Kk M W T (by omega) (by omega) a0.o.good.texts (d.o.rts.kept KD) (d.o.rns.kept KD)).mono ?_;rintro e w8 ⟨a1,a2,d3,a3,j0,rfl,d7,d8,d9,k8⟩;have K8:=KD.trans k8;refine hK.out _ _ (fun _=>f2.o _ K8) ?_;clear hK R b2;have b2:=f2.o _ K8;try simp only[upP]
   refine af 5 b2 ?_;have f3:=(d6.o.kept (X.trans N)).kept K8;have zr:=f3.lt;have zd:=KD.size;have zx:=N.size;have zw:=X.size;have zb:=d6.o.lt;have j1:=J.o.trans ((X.trans N).trans K8);have b5:=JU w8 (w.heap.size+1) 0 [.slice a1 Kk.length a2,.slice d3 T.length a3,.slice n D.length q] (xE f3);have j2:=iO (g:=w.heap.size+1) (by omega) [.slice a1 Kk.length a2,.slice d3 T.length a3,.slice n D.length q] 0 d7;have j3:=iO (g:=w.heap.size+1) (by omega) [.slice a1 Kk.length a2,.slice d3 T.length a3,.slice n D.length q] 0 d8;have j4:=nO (c:=w.heap.size+1) (fun j5 h=>by omega) [.slice a1 Kk.length a2,.slice d3 T.length a3,.slice n D.length q] 0 d9;have j6:=iO (g:=w.heap.size+1) (by omega) [.slice a1 Kk.length a2,.slice d3 T.length a3,.slice n D.length q] 0 (ai d.o.own K8);refine ak 6 (fun R hK=>?_);refine wp_store_mid 49 _ _ rfl (w.heap.size+1) 0 #[.slice a1 Kk.length a2,.slice d3 T.length a3,.slice n D.length q] (by rfl) (by rfl) (xE f3) (by kernel_rfl) (ES ..) ?_;refine ae hK (fun h=>Lv rfl h) ?_;clear hK R;refine aB ?_;go_wp2_with fail
   exact X_ [.slice a1 Kk.length a2,.slice d3 T.length a3,.slice n D.length q] _ results23 rfl b5 underlying49 rfl Tryz.sD rfl (.inl ⟨⟨K.o,HY.o⟩,T,D,a0.o.on T D (.stop (by rw[<-i9.o];exact g9.o)),a1,a2,d3,a3,j0,n,q,rfl,bC j2 (by omega),bC j3 (by omega),jB j4 (fun j5 h=>by omega),bC j6 (by omega),bQ (g:=w.heap.size+1) (by omega) [.slice a1 Kk.length a2,.slice d3 T.length a3,.slice n D.length q] 0 j1⟩)
  have h0:0<t.length:=by omega
  have i8:((t.length:Int) == 0)=false:=by simpa using b6
  have f4:=Kz h0;clear b6 h0;obtain⟨qb,qo,rfl,_,_⟩:=d.o.rts 0 (by have:=HY.o.1;omega);have f5:=a0.o.next (aZ K.o) g9.o f4.o;obtain⟨kk,b7⟩:=aj (lK k D.length t.length);have j7:kk<t.length:=by rw[b7];exact qZ _ _ f4.o
  rw[<-b7] at f5;obtain⟨f,e0⟩:=aj (t.getD kk ByteArray.empty);rw[<-e0] at f5;obtain⟨r,hr,h2,h3,h4⟩:=f5;obtain⟨lb,lo,rfl,l5,j8⟩:=i7.o kk j7;rw[<-e0] at j8;obtain⟨p,hp⟩:=aj (um k D.length);have f6:0<=p:=by rw[hp];exact Ba _ _
  have f7:p.tmod (t.length:Int)= (kk:Int):=by rw[Int.tmod_eq_emod_of_nonneg f6,hp,b7,CK]
  have⟨h5,l6,l7,f8,f9⟩:=jb hp b7 e0 hr h2;have⟨g0,g1⟩:=aH h3 h4;have l8:D.length<=1380:=by have h1:=a0.o.fits;have l9:=EU b (bV b Kk);omega
  have j9:(t.length:Int)≠0:=by have:=f4.o;omega
  have m3:¬(t.length:Int)=0:=j9;have m4:(kk:Int)<(t.length:Int):=by omega
  clear hp b7 e0 hr h2 h3 h4;by_cases e1:k.length=0
  ·have k0:¬(0:Int)<(k.length:Int):=by omega
   have a4:p=0:=by have h:=h5.o;unfold um at h;rw[Lt (Kh.1 e1)] at h;exact h
   rw[a4] at f7;have m5:=Kz a4;clear e1 a4 f6;go_upto_region 13 with fail
   go_wp2_with fail
   refine (oJ w6 a I b qb qo V Kk M W T f r (by omega) (by omega) (gV K.o) (aZ K.o) b4 e5 a0.o.good f8.o f9.o (hN.kept (J.o.trans (X.trans N))) d.o.rns d.o.rts).mono ?_;rintro e w7 ⟨v,x,A,B,h6,rfl,a5,a6,a7,l⟩;have a8:=d.o.row.kept l;obtain⟨⟨_,x0⟩,f0⟩:=a8.row.at (i:=0) (by omega);obtain⟨⟨_,x1⟩,f1⟩:=a8.row.at (i:=1) (by omega);have⟨b8,b9,c3⟩:=dK a5 a6 a7;clear a5 a6 a7;go_upto_region 14 with fail
   obtain⟨U,O⟩:=aj ((w7.setCell ⟨j,0,none⟩ (.slice v Kk.length x)).setCell ⟨j,1,none⟩ (.slice A (doL (Q_ b) T r).length B));rw[<-O];obtain⟨u1,_,_,u2,u3⟩:=d.o.put l (.slice v Kk.length x) (.slice A (doL (Q_ b) T r).length B);have C:U=w7.setCells j 0 [.slice v Kk.length x,.slice A (doL (Q_ b) T r).length B]:=by rw[O];rfl
   rw[<-C] at u1 u2 u3;have a9:=Kz C;have KU:K_ w3 U:=by rw[C];exact bQ Z _ 0 (N.trans l)
   have E:K_ U (U.alloc (.cells #[.string f] 9)):=ag _ _;have b0:=Kz E;have b1:=Kz (ai u3 E);have KK:=Kz (KU.trans E);have c4:j+1<=(U.alloc (.cells #[.string f] 9)).heap.size:=by rw[KR];have:=u1.lt;omega
   have c5:Hid (∀F u,([.string f]:List LQ)[F]? =some u->(U.alloc (.cells #[.string f] 9)).cell? ((⟨U.heap.size,0,none⟩:Addr).add F)=some u):=fun F u G=>by rw[KZ];exact Xz U #[.string f] 9 F u G
   have c6:Hid (∀u∈([.string f]:List LQ),u.oneCell'=true):=fun u G=>by simp only[Lb,Lc,or_false] at G;subst G;rfl
   obtain⟨ic,S,c7,d0,d1⟩:=aQ Tryz.bY;have uz:=u1.lt;clear O C u1 u3 E KU x0 x1 f0 f1;go_wp2_with (at_builtin;refine wpList_append_own _ rfl (.tmp 65) (.tmp 67) 26 rfl (j+1) 9 ic _ 1 16 underlying26 S c7 d0 d1 rfl (by decide) (.slice n D.length q) D.length (D.map Value.string) rfl b1.o ⟨U.heap.size,0,none⟩ 1 1 [.string f] rfl rfl c5.o c6.o (by unfold maxLen;omega) (by omega) c4 ?_;intro v' w9 P H _;have KP:=aG KK.out (Nat.le_succ_of_le Z) b1.o H;have HP:=Kz P;have d2:=Kz H;have Q:=d.o.grown l (by rw[<-a9.o];exact b0.o) H;obtain⟨⟨_,y2⟩,g2⟩:=Q.row.at (i:=2) (by omega);have y9:=Q.lt;obtain⟨d4,d5,rfl⟩:=ax P;clear P H Q)
   go_roundg (lu b (doL (Q_ b) T r))
   case measure=>exact g1.o
   case rel=>exact⟨doL (Q_ b) T r,D++ [f],v,x,A,B,d4,d5,Below.setCell KP (p:=⟨j,2,none⟩) Z _,oq.next d.o l b8.o b9.o c3.o (by rw[<-a9.o];exact b0.o) d2.o HP.o,rfl,g0⟩
  obtain⟨ki,e2⟩:=aj (D.length % k.length);have k2:ki<k.length:=by rw[e2];exact Nat.mod_lt _ (by omega)
  have m6:(D.length:Int).tmod (k.length:Int)= (ki:Int):=by rw[Int.tmod_eq_emod_of_nonneg (by omega),e2,Int.natCast_emod]
  obtain⟨pb,po,rfl,m7,k4⟩:=(hP.kept (J.o.trans (X.trans N))) ki k2;obtain⟨e3,hq⟩:=aj (k.getD ki 0);rw[<-hq] at k4;have k0:(0:Int)<(k.length:Int):=by omega
  have m8:(ki:Int)<(k.length:Int):=by omega
  have m9:¬(k.length:Int)=0:=by omega
  have h7:Hid (p=if e3<0 then 0 else e3):=by
   have h:=h5.o;unfold um at h;rw[Lu (fun e=>e1 (by rw[e];rfl)),<-e2,<-hq] at h;exact h
  clear e2 hq e1 f6;by_cases i0:e3<0
  ·have a4:p=0:=by have h:=h7.o;rw[Lt i0] at h;exact h
   rw[a4] at f7;clear a4;go_upto_region 13 with fail
   go_wp2_with fail
   refine (oJ w6 a I b qb qo V Kk M W T f r (by omega) (by omega) (gV K.o) (aZ K.o) b4 e5 a0.o.good f8.o f9.o (hN.kept (J.o.trans (X.trans N))) d.o.rns d.o.rts).mono ?_;rintro e w7 ⟨v,x,A,B,h6,rfl,a5,a6,a7,l⟩;have a8:=d.o.row.kept l;obtain⟨⟨_,x0⟩,f0⟩:=a8.row.at (i:=0) (by omega);obtain⟨⟨_,x1⟩,f1⟩:=a8.row.at (i:=1) (by omega);have⟨b8,b9,c3⟩:=dK a5 a6 a7;clear a5 a6 a7;go_upto_region 14 with fail
   obtain⟨U,O⟩:=aj ((w7.setCell ⟨j,0,none⟩ (.slice v Kk.length x)).setCell ⟨j,1,none⟩ (.slice A (doL (Q_ b) T r).length B));rw[<-O];obtain⟨u1,_,_,u2,u3⟩:=d.o.put l (.slice v Kk.length x) (.slice A (doL (Q_ b) T r).length B);have C:U=w7.setCells j 0 [.slice v Kk.length x,.slice A (doL (Q_ b) T r).length B]:=by rw[O];rfl
   rw[<-C] at u1 u2 u3;have a9:=Kz C;have KU:K_ w3 U:=by rw[C];exact bQ Z _ 0 (N.trans l)
   have E:K_ U (U.alloc (.cells #[.string f] 9)):=ag _ _;have b0:=Kz E;have b1:=Kz (ai u3 E);have KK:=Kz (KU.trans E);have c4:j+1<=(U.alloc (.cells #[.string f] 9)).heap.size:=by rw[KR];have:=u1.lt;omega
   have c5:Hid (∀F u,([.string f]:List LQ)[F]? =some u->(U.alloc (.cells #[.string f] 9)).cell? ((⟨U.heap.size,0,none⟩:Addr).add F)=some u):=fun F u G=>by rw[KZ];exact Xz U #[.string f] 9 F u G
   have c6:Hid (∀u∈([.string f]:List LQ),u.oneCell'=true):=fun u G=>by simp only[Lb,Lc,or_false] at G;subst G;rfl
   obtain⟨ic,S,c7,d0,d1⟩:=aQ Tryz.bY;have uz:=u1.lt;clear O C u1 u3 E KU x0 x1 f0 f1;go_wp2_with (at_builtin;refine wpList_append_own _ rfl (.tmp 65) (.tmp 67) 26 rfl (j+1) 9 ic _ 1 16 underlying26 S c7 d0 d1 rfl (by decide) (.slice n D.length q) D.length (D.map Value.string) rfl b1.o ⟨U.heap.size,0,none⟩ 1 1 [.string f] rfl rfl c5.o c6.o (by unfold maxLen;omega) (by omega) c4 ?_;intro v' w9 P H _;have KP:=aG KK.out (Nat.le_succ_of_le Z) b1.o H;have HP:=Kz P;have d2:=Kz H;have Q:=d.o.grown l (by rw[<-a9.o];exact b0.o) H;obtain⟨⟨_,y2⟩,g2⟩:=Q.row.at (i:=2) (by omega);have y9:=Q.lt;obtain⟨d4,d5,rfl⟩:=ax P;clear P H Q)
   go_roundg (lu b (doL (Q_ b) T r))
   case measure=>exact g1.o
   case rel=>exact⟨doL (Q_ b) T r,D++ [f],v,x,A,B,d4,d5,Below.setCell KP (p:=⟨j,2,none⟩) Z _,oq.next d.o l b8.o b9.o c3.o (by rw[<-a9.o];exact b0.o) d2.o HP.o,rfl,g0⟩
  ·have a4:p=e3:=by have h:=h7.o;rw[Lu i0] at h;exact h
   rw[a4] at f7;clear a4;go_upto_region 13 with fail
   go_wp2_with fail
   refine (oJ w6 a I b qb qo V Kk M W T f r (by omega) (by omega) (gV K.o) (aZ K.o) b4 e5 a0.o.good f8.o f9.o (hN.kept (J.o.trans (X.trans N))) d.o.rns d.o.rts).mono ?_;rintro e w7 ⟨v,x,A,B,h6,rfl,a5,a6,a7,l⟩;have a8:=d.o.row.kept l;obtain⟨⟨_,x0⟩,f0⟩:=a8.row.at (i:=0) (by omega);obtain⟨⟨_,x1⟩,f1⟩:=a8.row.at (i:=1) (by omega);have⟨b8,b9,c3⟩:=dK a5 a6 a7;clear a5 a6 a7;go_upto_region 14 with fail
   obtain⟨U,O⟩:=aj ((w7.setCell ⟨j,0,none⟩ (.slice v Kk.length x)).setCell ⟨j,1,none⟩ (.slice A (doL (Q_ b) T r).length B));rw[<-O];obtain⟨u1,_,_,u2,u3⟩:=d.o.put l (.slice v Kk.length x) (.slice A (doL (Q_ b) T r).length B);have C:U=w7.setCells j 0 [.slice v Kk.length x,.slice A (doL (Q_ b) T r).length B]:=by rw[O];rfl
   rw[<-C] at u1 u2 u3;have a9:=Kz C;have KU:K_ w3 U:=by rw[C];exact bQ Z _ 0 (N.trans l)
   have E:K_ U (U.alloc (.cells #[.string f] 9)):=ag _ _;have b0:=Kz E;have b1:=Kz (ai u3 E);have KK:=Kz (KU.trans E);have c4:j+1<=(U.alloc (.cells #[.string f] 9)).heap.size:=by rw[KR];have:=u1.lt;omega
   have c5:Hid (∀F u,([.string f]:List LQ)[F]? =some u->(U.alloc (.cells #[.string f] 9)).cell? ((⟨U.heap.size,0,none⟩:Addr).add F)=some u):=fun F u G=>by rw[KZ];exact Xz U #[.string f] 9 F u G
   have c6:Hid (∀u∈([.string f]:List LQ),u.oneCell'=true):=fun u G=>by simp only[Lb,Lc,or_false] at G;subst G;rfl
   obtain⟨ic,S,c7,d0,d1⟩:=aQ Tryz.bY;have uz:=u1.lt;clear O C u1 u3 E KU x0 x1 f0 f1;go_wp2_with (at_builtin;refine wpList_append_own _ rfl (.tmp 65) (.tmp 67) 26 rfl (j+1) 9 ic _ 1 16 underlying26 S c7 d0 d1 rfl (by decide) (.slice n D.length q) D.length (D.map Value.string) rfl b1.o ⟨U.heap.size,0,none⟩ 1 1 [.string f] rfl rfl c5.o c6.o (by unfold maxLen;omega) (by omega) c4 ?_;intro v' w9 P H _;have KP:=aG KK.out (Nat.le_succ_of_le Z) b1.o H;have HP:=Kz P;have d2:=Kz H;have Q:=d.o.grown l (by rw[<-a9.o];exact b0.o) H;obtain⟨⟨_,y2⟩,g2⟩:=Q.row.at (i:=2) (by omega);have y9:=Q.lt;obtain⟨d4,d5,rfl⟩:=ax P;clear P H Q)
   go_roundg (lu b (doL (Q_ b) T r))
   case measure=>exact g1.o
   case rel=>exact⟨doL (Q_ b) T r,D++ [f],v,x,A,B,d4,d5,Below.setCell KP (p:=⟨j,2,none⟩) Z _,oq.next d.o l b8.o b9.o c3.o (by rw[<-a9.o];exact b0.o) d2.o HP.o,rfl,g0⟩
def Looks(P:Program)(gf:Nat)(rv:LQ)(encs:Nat->Array LQ)(V N:Nat->LP->Prop)(n:Nat)(ok:LP->Prop):Prop:=
 ∀(l:Nat) (J:Nat->LP->Prop) (Jx:LP->Prop) (W:LP),ok W->
  (∀i W1,i<n->J i W1->(V i W1/\YieldAt Fence.wide 7 P l (encs i) W1 fun e W'=>(e= .returned (.bool true)/\J (i+1) W')\/(e= .returned (.bool false)/\Jx W'))\/(N i W1/\J (i+1) W1))->
  J 0 W->CallsIn Fence.wide 8 P gf #[rv,.func (.yield l) #[] #[]] W fun e W'=>(∃v,e= .returned v)/\(J n W'\/Jx W')
def roundEnd(B:Nat)(I:LP->Prop)(Ix:Code->LP->Prop)(W:LP):Exit->Act->LP->Prop
 | .normal,_,W'=>KeepsFrom B W W'/\I W'
 | .ret,_,W'=>KeepsFrom B W W'/\Ix .ret W'
 | .exit id,_,W'=>KeepsFrom B W W'/\Ix (.exit id) W'
 | .goto t,_,W'=>KeepsFrom B W W'/\Ix (.goto t) W'
 | .panic _,_,_=>False
 | .outgrown,_,_=>False
def Calm(B:Nat)(I:LP->Prop):Prop:=(∀W o,B<=W.heap.size->I W->I (W.alloc o))/\∀(W:LP) (l:Nat) (o o':Obj),B<=l->W.heap[l]? =some o->o.isCells=false->I W->I (W.putObj l o')
theorem BI{P:Program}{g:Operand}{ps:Array Tmp}{assign body:Code}{U:Exit->Act->LP->Prop}{a:Act}{E:Nat}{L:LQ}{M:Nat->Array LQ}{V N:Nat->LP->Prop}{n:Nat}{O:LP->Prop}
 (a7:Looks P E L M V N n O) (hg:a.eval g= .func (.func E) #[L] #[]) (eg:∀args w,(callFunc E args).run P w= .ok (.enter E args) w) (a1:Calm w.heap.size O) (a8:O w) (a9:∀i,(M i).size=ps.size)
 (I:Nat->LP->Prop) (Q:Code->LP->Prop) (H:∀i,Calm w.heap.size (I i)) (R:∀c,Calm w.heap.size (Q c)) (h0:I 0 w) (a₁:Nat->Act)
 (b0:∀(l i:Nat) (W:LP) (K:Act->LP->Prop),K (a₁ i) W->assign.wpIn (Fence.wide.inRound l) 7 P (Exit.then K (fun _ _ _=>False)) {tmps:=(ps.zip (M i)).foldl (fun t (p,v)=>t.setIfInBounds p v) a.tmps,defers:=[]} W)
 (hV:∀i,Calm w.heap.size (V i))
 (b1:∀(i:Nat) (W:LP),i<n->I i W->(V i W/\∀l W',V i W'->I i W'->w.heap.size<=W'.heap.size->body.wpIn (Fence.wide.inRound l) 7 P (roundEnd w.heap.size (I (i+1)) Q W') (a₁ i) W')\/(N i W/\I (i+1) W))
 (b2:∀(D:Nat) (W:LP),w.heap.size<=D->I n W->W.heap[D]? =some (.deferred (some []))->U .normal {a with defers:={target:= .collected D,args:= #[]} :: a.defers} W)
 (b3:∀(D:Nat) (c:Code) (W:LP),w.heap.size<=D->Q c W->W.heap[D]? =some (.deferred (some []))->c.wpIn Fence.wide 9 P U {a with defers:={target:= .collected D,args:= #[]} :: a.defers} W):
  (Code.rangeFunc g ps assign body).wpIn Fence.wide 9 P U a w:=by
 refine wpIn_rangeFunc fun fn b4=>?_
 obtain⟨D,hD⟩:=aj w.heap.size;obtain⟨b,f⟩:∃b:LoopState->Option Code->Loop,b=fun st q=>{state:=st,pending:=q,fn,tmps:=a.tmps,params:=ps,assign,body,defers:=D}:=⟨_,rfl⟩
 have es:∀st q s X,({b st q with state:=s,pending:=X}:Loop)=b s X:=fun st q s X=>by rw[f]
 have b5:∀st q s,({b st q with state:=s}:Loop)=b s q:=fun st q s=>by rw[f]
 obtain⟨h,Y⟩:∃h,(w.alloc (.deferred (some []))).alloc (.loop (b .ready none))=h:=⟨_,rfl⟩;have z1:w.heap.size<=(w.alloc (.deferred (some []))).heap.size:=by rw[KR];omega
 have S:h.heap[D+1]? =some (.loop (b .ready none))/\h.heap[D]? =some (.deferred (some []))/\I 0 h/\O h:=by
  rw[<-Y,hD];refine⟨?_, ?_,(H 0).1 _ _ z1 ((H 0).1 _ _ (JP _) h0),a1.1 _ _ z1 (a1.1 _ _ (JP _) a8)⟩
  ·have:=World.alloc_heap_new (w.alloc (.deferred (some []))) (.loop (b .ready none))
   rwa [KR] at this
  ·exact (Below.heap_alloc _ _ _ (by simp)).trans (World.alloc_heap_new w _)
 refine⟨D+1,[{target:= .collected D,args:= #[]}],h,{target:= .fn (.func E) #[],args:= #[L,.func (.yield (D+1)) #[] #[]]},h,E,#[L,.func (.yield (D+1)) #[] #[]],h, ?_, ?_,fun _ _=>trivial, ?_,fun _=>(by omega), ?_⟩
 ·rw[<-Y,f,hD];exact run_enterLoop_outer _ _ _ _ _
 ·simp only[resolve,hg];simp[go_sem]
 ·simp[invoke,go_sem,eg]
 refine (a7 (D+1) (fun i W=>I i W/\w.heap.size<=W.heap.size/\W.heap[D+1]? =some (.loop (b .ready none))/\W.heap[D]? =some (.deferred (some []))) (fun W=>∃c,Q c W/\W.heap[D+1]? =some (.loop (b .done (some c)))/\W.heap[D]? =some (.deferred (some []))) h S.2.2.2 ?_ ⟨S.2.2.1,by rw[<-Y];simp;omega,S.1,S.2.1⟩).mono ?_
 ·rintro i W J ⟨a2,Z,e,F⟩;have b6:D+1<W.heap.size:=(KQ.1 e).1;rcases b1 i W J a2 with⟨a4,b7⟩|⟨b8,b9⟩
  ·refine .inl ⟨a4, ?_⟩;have hy:=run_yield (P:=P) (args:=M i) e (by rw[f];exact a9 i);rw[f] at hy;refine⟨fn,_,assign,body,hy, ?_⟩;refine roundIn_of_wpIn b4 (b0 _ i W _ ⟨_,run_beginRound e (by rw[f]), ?_⟩);obtain⟨m,G⟩:∃m,W.putObj (D+1) (.loop {b .ready none with state:= .busy})=m:=⟨_,rfl⟩;rw[G];have c0:m.heap[D+1]? =some (.loop (b .busy none)):=by rw[<-G,World.putObj_heap_same b6,b5]
   have c1:m.heap[D]? =some (.deferred (some [])):=by rw[<-G,World.putObj_heap_other (by omega)];exact F
   have a5:w.heap.size<=m.heap.size:=by rw[<-G,World.putObj_size];exact Z
   have c2:I i m:=by rw[<-G];exact (H i).2 _ _ _ _ (by omega) e rfl a2
   have c3:V i m:=by rw[<-G];exact (hV i).2 _ _ _ _ (by omega) e rfl a4
   refine wpIn_mono (b7 _ m c3 c2 a5) ?_;have fin:∀(r:Option Code) (j:LP),KeepsFrom w.heap.size m j->
     ∃d,(Instr.endRound (D+1) r).run P j= .ok (.bool r.isNone) d/\d=j.putObj (D+1) (.loop (b (if r.isNone then .ready else .done) r))/\j.heap[D+1]? =some (.loop (b .busy none))/\d.heap[D+1]? =some (.loop (b (if r.isNone then .ready else .done) r))/\d.heap[D]? =some (.deferred (some []))/\w.heap.size<=d.heap.size:=fun r j hk=>by
    have a0:=hk.same _ _ (by omega) c0 rfl;have c4:=hk.same _ _ (by omega) c1 rfl;refine⟨_,run_endRound (P:=P) r a0,by rw[es],a0, ?_, ?_, ?_⟩
    ·rw[es];exact World.putObj_heap_same (KQ.1 a0).1
    ·rw[World.putObj_heap_other (by omega)];exact c4
    ·rw[World.putObj_size];exact JS a5 hk.size
   intro a6 a3 j k;cases a6 with
   | normal=>
    obtain⟨d,x,y,A,B,C,T⟩:=fin none j k.1;exact⟨_,d,x,.inl ⟨rfl,by rw[y];exact (H _).2 _ _ _ _ (by omega) A rfl k.2,T,B,C⟩⟩
   | ret=>
    obtain⟨d,x,y,A,B,C,T⟩:=fin (some .ret) j k.1;exact⟨_,d,x,.inr ⟨rfl,.ret,by rw[y];exact (R _).2 _ _ _ _ (by omega) A rfl k.2,B,C⟩⟩
   | exit id=>
    obtain⟨d,x,y,A,B,C,T⟩:=fin (some (.exit id)) j k.1;exact⟨_,d,x,.inr ⟨rfl,.exit id,by rw[y];exact (R _).2 _ _ _ _ (by omega) A rfl k.2,B,C⟩⟩
   | goto t=>
    obtain⟨d,x,y,A,B,C,T⟩:=fin (some (.goto t)) j k.1;exact⟨_,d,x,.inr ⟨rfl,.goto t,by rw[y];exact (R _).2 _ _ _ _ (by omega) A rfl k.2,B,C⟩⟩
   | panic ch=>exact k.elim
   | outgrown=>exact k.elim
  ·exact .inr ⟨b8,b9,Z,e,F⟩
 ·rintro a6 W2 ⟨⟨v,rfl⟩,(⟨J,Z,e,F⟩|⟨c,J,e,F⟩)⟩
  ·refine⟨none,_,by have:=run_endLoop (P:=P) e (by rw[f];simp);rw[f] at this;exact this, ?_⟩;exact b2 D _ (by omega) ((H n).2 _ _ _ _ (by omega) e rfl J) (by rw[World.putObj_heap_other (by omega)];exact F)
  ·refine⟨some c,_,by have:=run_endLoop (P:=P) e (by rw[f];simp);rw[f] at this;exact this, ?_⟩;exact b3 D c _ (by omega) ((R c).2 _ _ _ _ (by omega) e rfl J) (by rw[World.putObj_heap_other (by omega)];exact F)
def Gm(P:Program)(gf:Nat)(lb:Array LQ)(encs:Nat->Array LQ)(V N:Nat->LP->Prop)(n:Nat)(ok:LP->Prop):Prop:=
 ∀(l:Nat) (J:Nat->LP->Prop) (Jx:LP->Prop) (W:LP),ok W->
  (∀i W1,i<n->J i W1->(V i W1/\YieldAt Fence.wide 7 P l (encs i) W1 fun e W'=>(e= .returned (.bool true)/\J (i+1) W')\/(e= .returned (.bool false)/\Jx W'))\/(N i W1/\J (i+1) W1))->
  J 0 W->CallsIn Fence.wide 8 P gf (#[.func (.yield l) #[] #[]]++lb) W fun e W'=>(∃v,e= .returned v)/\(J n W'\/Jx W')
theorem Az{P:Program}{g:Operand}{ps:Array Tmp}{assign body:Code}{U:Exit->Act->LP->Prop}{a:Act}{E:Nat}{L:Array LQ}{M:Nat->Array LQ}{V N:Nat->LP->Prop}{n:Nat}{O:LP->Prop}
 (a7:Gm P E L M V N n O) (hg:a.eval g= .func (.func E) #[] L) (eg:∀args w,(callFunc E args).run P w= .ok (.enter E args) w) (a1:Calm w.heap.size O) (a8:O w) (a9:∀i,(M i).size=ps.size)
 (I:Nat->LP->Prop) (Q:Code->LP->Prop) (H:∀i,Calm w.heap.size (I i)) (R:∀c,Calm w.heap.size (Q c)) (h0:I 0 w) (a₁:Nat->Act)
 (b0:∀(l i:Nat) (W:LP) (K:Act->LP->Prop),K (a₁ i) W->assign.wpIn (Fence.wide.inRound l) 7 P (Exit.then K (fun _ _ _=>False)) {tmps:=(ps.zip (M i)).foldl (fun t (p,v)=>t.setIfInBounds p v) a.tmps,defers:=[]} W)
 (hV:∀i,Calm w.heap.size (V i))
 (b1:∀(i:Nat) (W:LP),i<n->I i W->(V i W/\∀l W',V i W'->I i W'->w.heap.size<=W'.heap.size->body.wpIn (Fence.wide.inRound l) 7 P (roundEnd w.heap.size (I (i+1)) Q W') (a₁ i) W')\/(N i W/\I (i+1) W))
 (b2:∀(D:Nat) (W:LP),w.heap.size<=D->I n W->W.heap[D]? =some (.deferred (some []))->U .normal {a with defers:={target:= .collected D,args:= #[]} :: a.defers} W)
 (b3:∀(D:Nat) (c:Code) (W:LP),w.heap.size<=D->Q c W->W.heap[D]? =some (.deferred (some []))->c.wpIn Fence.wide 9 P U {a with defers:={target:= .collected D,args:= #[]} :: a.defers} W):
  (Code.rangeFunc g ps assign body).wpIn Fence.wide 9 P U a w:=by
 refine wpIn_rangeFunc fun fn b4=>?_
 obtain⟨D,hD⟩:=aj w.heap.size;obtain⟨b,f⟩:∃b:LoopState->Option Code->Loop,b=fun st q=>{state:=st,pending:=q,fn,tmps:=a.tmps,params:=ps,assign,body,defers:=D}:=⟨_,rfl⟩
 have es:∀st q s X,({b st q with state:=s,pending:=X}:Loop)=b s X:=fun st q s X=>by rw[f]
 have b5:∀st q s,({b st q with state:=s}:Loop)=b s q:=fun st q s=>by rw[f]
 obtain⟨h,Y⟩:∃h,(w.alloc (.deferred (some []))).alloc (.loop (b .ready none))=h:=⟨_,rfl⟩;have z1:w.heap.size<=(w.alloc (.deferred (some []))).heap.size:=by rw[KR];omega
 have S:h.heap[D+1]? =some (.loop (b .ready none))/\h.heap[D]? =some (.deferred (some []))/\I 0 h/\O h:=by
  rw[<-Y,hD];refine⟨?_, ?_,(H 0).1 _ _ z1 ((H 0).1 _ _ (JP _) h0),a1.1 _ _ z1 (a1.1 _ _ (JP _) a8)⟩
  ·have:=World.alloc_heap_new (w.alloc (.deferred (some []))) (.loop (b .ready none))
   rwa [KR] at this
  ·exact (Below.heap_alloc _ _ _ (by simp)).trans (World.alloc_heap_new w _)
 refine⟨D+1,[{target:= .collected D,args:= #[]}],h,{target:= .fn (.func E) L,args:= #[.func (.yield (D+1)) #[] #[]]},h,E,#[.func (.yield (D+1)) #[] #[]]++L,h, ?_, ?_,fun _ _=>trivial, ?_,fun _=>(by omega), ?_⟩
 ·rw[<-Y,f,hD];exact run_enterLoop_outer _ _ _ _ _
 ·simp only[resolve,hg];simp[go_sem]
 ·simp[invoke,go_sem,eg]
 refine (a7 (D+1) (fun i W=>I i W/\w.heap.size<=W.heap.size/\W.heap[D+1]? =some (.loop (b .ready none))/\W.heap[D]? =some (.deferred (some []))) (fun W=>∃c,Q c W/\W.heap[D+1]? =some (.loop (b .done (some c)))/\W.heap[D]? =some (.deferred (some []))) h S.2.2.2 ?_ ⟨S.2.2.1,by rw[<-Y];simp;omega,S.1,S.2.1⟩).mono ?_
 ·rintro i W J ⟨a2,Z,e,F⟩;have b6:D+1<W.heap.size:=(KQ.1 e).1;rcases b1 i W J a2 with⟨a4,b7⟩|⟨b8,b9⟩
  ·refine .inl ⟨a4, ?_⟩;have hy:=run_yield (P:=P) (args:=M i) e (by rw[f];exact a9 i);rw[f] at hy;refine⟨fn,_,assign,body,hy, ?_⟩;refine roundIn_of_wpIn b4 (b0 _ i W _ ⟨_,run_beginRound e (by rw[f]), ?_⟩);obtain⟨m,G⟩:∃m,W.putObj (D+1) (.loop {b .ready none with state:= .busy})=m:=⟨_,rfl⟩;rw[G];have c0:m.heap[D+1]? =some (.loop (b .busy none)):=by rw[<-G,World.putObj_heap_same b6,b5]
   have c1:m.heap[D]? =some (.deferred (some [])):=by rw[<-G,World.putObj_heap_other (by omega)];exact F
   have a5:w.heap.size<=m.heap.size:=by rw[<-G,World.putObj_size];exact Z
   have c2:I i m:=by rw[<-G];exact (H i).2 _ _ _ _ (by omega) e rfl a2
   have c3:V i m:=by rw[<-G];exact (hV i).2 _ _ _ _ (by omega) e rfl a4
   refine wpIn_mono (b7 _ m c3 c2 a5) ?_;have fin:∀(r:Option Code) (j:LP),KeepsFrom w.heap.size m j->
     ∃d,(Instr.endRound (D+1) r).run P j= .ok (.bool r.isNone) d/\d=j.putObj (D+1) (.loop (b (if r.isNone then .ready else .done) r))/\j.heap[D+1]? =some (.loop (b .busy none))/\d.heap[D+1]? =some (.loop (b (if r.isNone then .ready else .done) r))/\d.heap[D]? =some (.deferred (some []))/\w.heap.size<=d.heap.size:=fun r j hk=>by
    have a0:=hk.same _ _ (by omega) c0 rfl;have c4:=hk.same _ _ (by omega) c1 rfl;refine⟨_,run_endRound (P:=P) r a0,by rw[es],a0, ?_, ?_, ?_⟩
    ·rw[es];exact World.putObj_heap_same (KQ.1 a0).1
    ·rw[World.putObj_heap_other (by omega)];exact c4
    ·rw[World.putObj_size];exact JS a5 hk.size
   intro a6 a3 j k;cases a6 with
   | normal=>
    obtain⟨d,x,y,A,B,C,T⟩:=fin none j k.1;exact⟨_,d,x,.inl ⟨rfl,by rw[y];exact (H _).2 _ _ _ _ (by omega) A rfl k.2,T,B,C⟩⟩
   | ret=>
    obtain⟨d,x,y,A,B,C,T⟩:=fin (some .ret) j k.1;exact⟨_,d,x,.inr ⟨rfl,.ret,by rw[y];exact (R _).2 _ _ _ _ (by omega) A rfl k.2,B,C⟩⟩
   | exit id=>
    obtain⟨d,x,y,A,B,C,T⟩:=fin (some (.exit id)) j k.1;exact⟨_,d,x,.inr ⟨rfl,.exit id,by rw[y];exact (R _).2 _ _ _ _ (by omega) A rfl k.2,B,C⟩⟩
   | goto t=>
    obtain⟨d,x,y,A,B,C,T⟩:=fin (some (.goto t)) j k.1;exact⟨_,d,x,.inr ⟨rfl,.goto t,by rw[y];exact (R _).2 _ _ _ _ (by omega) A rfl k.2,B,C⟩⟩
   | panic ch=>exact k.elim
   | outgrown=>exact k.elim
  ·exact .inr ⟨b8,b9,Z,e,F⟩
 ·rintro a6 W2 ⟨⟨v,rfl⟩,(⟨J,Z,e,F⟩|⟨c,J,e,F⟩)⟩
  ·refine⟨none,_,by have:=run_endLoop (P:=P) e (by rw[f];simp);rw[f] at this;exact this, ?_⟩;exact b2 D _ (by omega) ((H n).2 _ _ _ _ (by omega) e rfl J) (by rw[World.putObj_heap_other (by omega)];exact F)
  ·refine⟨some c,_,by have:=run_endLoop (P:=P) e (by rw[f];simp);rw[f] at this;exact this, ?_⟩;exact b3 D c _ (by omega) ((R c).2 _ _ _ _ (by omega) e rfl J) (by rw[World.putObj_heap_other (by omega)];exact F)
open Go.RowKit Go.Shelf
attribute [local go_sem] Oper.semAt_some
def Dx(d:LM)(tb:Nat->Nat)(i:Nat)(W:LP):Prop:=∃g,d=some ⟨g,0,none⟩/\W.cell? ⟨g,i,none⟩=some (.pointer (some ⟨tb i,0,none⟩))/\W.cell? ⟨tb i,1,none⟩=some (.bool false)/\W.cell? ⟨tb i,9,none⟩=some (.int .i64 0)
def FT(d:LM)(tb:Nat->Nat)(i:Nat)(W:LP):Prop:=∃g,d=some ⟨g,0,none⟩/\W.cell? ⟨g,i,none⟩=some (.pointer (some ⟨tb i,0,none⟩))/\(W.cell? ⟨tb i,1,none⟩=some (.bool true)\/(W.cell? ⟨tb i,1,none⟩=some (.bool false)/\∃op:Nat,op≠0/\W.cell? ⟨tb i,9,none⟩=some (.int .i64 (op:Int))))
theorem Bg(a:Nat)(d:LM)(n j:Nat)(tb:Nat->Nat)(B:n<=1048576):
  Looks prog 103 (.pointer (some ⟨a,0,none⟩)) (fun i=>#[.pointer (some ⟨tb i,0,none⟩)]) (Dx d tb) (FT d tb) n (fun W=>W.cell? ⟨a,3,none⟩=some (.slice d n j)):=by
 intro l J C W D b k;refine callsIn_of_wp func103 rfl trivial ?_ rfl;simp only[ntmps103,List.size_toArray,KY,List.length_nil,Nat.reduceAdd,Nat.reduceSub,Array.replicate_succ,Array.replicate_zero,List.push_toArray,List.append_toArray,List.nil_append,List.cons_append];have m:=Kz b;clear b
 gi_wp2
 gi_loopw [12] (fun x wr=>∃i:Nat,i<=n/\x= .int .i64 i/\J i wr) (fun x _=>n-(intOf x).toNat)
 case atStart=>exact⟨0,JR _,rfl,k⟩
 case round=>
  obtain⟨i,E,rfl,c⟩:=hrel;by_cases p:i<n
  ·rcases m.o i wr p c with⟨⟨g,rfl,q,e,r⟩,F,G,H,I,K,s⟩|⟨⟨g,rfl,q,t⟩,f⟩
   ·gi_wp2
    refine s.mono ?_;rintro L M (⟨rfl,v⟩|⟨rfl,w⟩)
    ·gi_wp2
     go_roundw
     case rel=>exact⟨i+1,by omega,by go_num,v⟩
     case measure=>simp[intOf];omega
    ·gi_wp2
     refine bodyPost_ret (results_none rfl _ _ _) rfl ?_;exact⟨⟨_,rfl⟩,.inr w⟩
   ·rcases t with e|⟨e,y,A,r⟩
    ·gi_wp2
     refine⟨fun _ h=>(by cases h), ?_⟩
     gi_wp2
     go_roundw
     case rel=>exact⟨i+1,by omega,by go_num,f⟩
     case measure=>simp[intOf];omega
    ·have N:((y:Int) == 0)=false:=by simpa using A
     gi_wp2
     refine⟨fun _ h=>(by cases h), ?_⟩
     gi_wp2
     go_roundw
     case rel=>exact⟨i+1,by omega,by go_num,f⟩
     case measure=>simp[intOf];omega
  ·gi_wp2
   go_end0
   have:i=n:=by omega
   subst this;exact⟨⟨_,rfl⟩,.inl c⟩
theorem jZ{w:LP}{b:Nat}{t:TypeId}(h:df w b t){o:Obj}(a:w.heap[b]? =some o):o.isCells=true:=by
 obtain⟨e,f,d⟩:=h;rw[d] at a;cases a
 rfl
theorem df.set{w:LP}{b:Nat}{t:TypeId}(h:df w b t)(p:Addr)(v:LQ):df (w.setCell p v) b t:=by
 obtain⟨d,a,c⟩:=h;by_cases e:b=p.block
 ·subst e;obtain⟨f,i⟩:=KQ.1 c;apply Exists.intro;apply Exists.intro (w:=a);show (w.heap.modify p.block _)[p.block]? =_;rw[Array.getElem?_eq_getElem (by rw[Array.size_modify];exact f),Array.getElem_modify_self,i]
 ·exact⟨d,a,(Below.heap_setCell w p v b e).trans c⟩
structure InB (B:Nat) (Kf Kc:Nat->Prop) (ps:List (Nat×LK)) (W0:LP) (Kq:List Qq) (wz W:LP) (bb:Nat) (a:LM) (cap:Nat) (rd:LM) (rn rc:Nat) (mb mx:Nat) (ts:List Zx) (d:LM) (dc:Nat) (f:LK->LQ) (ws:LK->List Nat):Prop where
 bm:BM ⟨W,fun k=>Kf k\/Kc k,ps,fun _=>False⟩ Kq wz W bb a cap rd rn rc mb mx ts d dc f ws
 same:∀k,Kf k->W.heap[k]? =W0.heap[k]?
 lt:∀k,Kf k\/Kc k->k<B
 mlt:mb<B
 size:B<=W.heap.size
 zlt:wz.heap.size<=B
 GL:∀k,Kc k->wz.heap.size<=k/\∃t,df W k t/\t≠103
section
variable {B : Nat} {Kf Kc : Nat -> Prop} {ps : List (Nat × LK)} {W0 : LP} {Kq : List Qq} {wz W W' : LP} {bb : Nat} {a : LM} {cap : Nat} {rd : LM} {rn rc : Nat} {mb mx : Nat} {ts : List Zx} {d : LM} {dc : Nat} {f : LK -> LQ} {ws : LK -> List Nat}
theorem BM.as{G b:bX}(h:BM G Kq wz W bb a cap rd rn rc mb mx ts d dc f ws)(c:Fen b W bb mb ts f)(e:∀x,(Value.slice d ts.length dc).ownBlock=some x->¬(b.I x/\b.K x)):BM b Kq wz W bb a cap rd rn rc mb mx ts d dc f ws:=
 ⟨h.kw,h.row,h.c0,h.c1,h.c2,h.c3,h.c4,h.c5,h.low,h.items,h.fO,h.act,h.asc,h.tbs,h.sep,h.xB,h.map,h.zK,h.eT,h.xA,h.zH,h.qb,c,e⟩
theorem BM.no{G:bX}(h:BM G Kq wz W bb a cap rd rn rc mb mx ts d dc f ws):BM (bX.no wz) Kq wz W bb a cap rd rn rc mb mx ts d dc f ws:=h.as (Fen.no h.kw.size) (fun _ _ h=>h.1)
theorem BM.block{G:bX}(h:BM G Kq wz W bb a cap rd rn rc mb mx ts d dc f ws){S:Nat->Prop}(k:¬S mb)(c:∀b,S b->∀t,¬df W b t):¬S bb/\¬S mb/\(∀b,(Value.slice d ts.length dc).ownBlock=some b->¬S b)/\(∀s b,(f s).ownBlock=some b->¬S b)/\∀t∈ts,¬S t.tb/\∀x∈t.own,¬S x:=
 ⟨fun e=>c _ e _ h.row.type,k,fun _b i e=>c _ e _ (Yz h.items i),fun s _b i e=>c _ e _ (Yz (h.eT s) i),fun t j=>⟨fun e=>c _ e _ (h.fO t j).row.type,fun _x l e=>c _ e _ ((h.fO t j).dZ l).1⟩⟩
theorem InB.but{S:Nat->Prop}(h:InB B Kf Kc ps W0 Kq wz W bb a cap rd rn rc mb mx ts d dc f ws)(k:But S W W')(l:∀b,S b->wz.heap.size<=b)(c:¬S bb/\¬S mb/\(∀b,(Value.slice d ts.length dc).ownBlock=some b->¬S b)/\(∀s b,(f s).ownBlock=some b->¬S b)/\∀t∈ts,¬S t.tb/\∀x∈t.own,¬S x)(m:∀b,S b->¬Kf b)(n:∀b,S b->Kc b->∀t,df W b t->df W' b t):InB B Kf Kc ps W0 Kq wz W' bb a cap rd rn rc mb mx ts d dc f ws:=by
 have p:=h.bm.no.but k l c.1 c.2.1 c.2.2.1 c.2.2.2.1 c.2.2.2.2 (fun _ _=>id);have i:=h.bm.oth;refine⟨p.as ⟨JP _,fun b c=>JQ (i.lt b c) k.size,fun _ _=>rfl,i.nb,i.nm,i.nt,i.nf,i.has⟩ (fun _ _ h=>h.1),fun b c=>?_,h.lt,h.mlt,JS h.size k.size,h.zlt,fun b c=>?_⟩
 ·exact (k.block b (i.lt b (.inl c)) (fun e=>m b e c)).trans (h.same b c)
 ·obtain⟨q,t,j,r⟩:=h.GL b c;refine⟨q,t, ?_,r⟩;by_cases e:S b
  ·exact n b e c t j
  ·obtain⟨v,w,y⟩:=j;exact⟨v,w,by rw[k.block b (i.lt b (.inr c)) e];exact y⟩
theorem InB.kept(h:InB B Kf Kc ps W0 Kq wz W bb a cap rd rn rc mb mx ts d dc f ws)(k:K_ W W'):InB B Kf Kc ps W0 Kq wz W' bb a cap rd rn rc mb mx ts d dc f ws:=
 h.but (S:=fun _=>False) (But.aF k) (fun _ e=>e.elim) ⟨id,id,fun _ _=>id,fun _ _ _=>id,fun _ _=>⟨id,fun _ _=>id⟩⟩ (fun _ e=>e.elim) (fun _ e=>e.elim)
theorem lI(k:K_ W W')(B:Nat):KeepsFrom B W W':=⟨k.size,fun b _o _ a _=>(k.block b (aO a)).trans a⟩
theorem InB.calm(h:InB B Kf Kc ps W0 Kq wz W bb a cap rd rn rc mb mx ts d dc f ws){l:Nat}{o:Obj}(i:Obj)(j:B<=l)(k:W.heap[l]? =some o)(m:o.isCells=false):InB B Kf Kc ps W0 Kq wz (W.putObj l i) bb a cap rd rn rc mb mx ts d dc f ws:=by
 have n:But (fun b=>b=l) W (W.putObj l i):=⟨rfl,rfl,rfl,by rw[World.putObj_size];exact JP _,fun b _ e=>World.putObj_heap_other e⟩;refine h.but n (fun b e=>by rw[e];exact JS h.zlt j) (h.bm.block (S:=fun b=>b=l) (fun (e:mb=l)=>by have:=h.mlt;omega) (fun b e t p=>?_)) (fun b e c=>?_) (fun b e c=>?_)
 ·have:=jZ p (by rw[e];exact k);rw[m] at this;cases this
 ·have:=h.lt b (.inl c);omega
 ·have:=h.lt b (.inr c);omega
theorem InB.store(i:InB B Kf Kc ps W0 Kq wz W bb a cap rd rn rc mb mx ts d dc f ws){p:Addr}(c:Kc p.block)(m:¬Kf p.block)(v:LQ):InB B Kf Kc ps W0 Kq wz (W.setCell p v) bb a cap rd rn rc mb mx ts d dc f ws:=by
 have n:But (fun b=>b=p.block) W (W.setCell p v):=But.set (S:=fun b=>b=p.block) (But.aF (K_.refl W)) rfl _;have h:=i.bm.oth;obtain⟨q,C,r,s⟩:=i.GL _ c;refine i.but n (fun b e=>by rw[e];exact q) ⟨fun e=>h.nb (by rw[e];exact .inr c),fun e=>h.nm (by rw[e];exact .inr c),fun b j e=>?_,fun t b j e=>h.nf t b j (by rw[e];exact .inr c),fun u k=>⟨fun e=>(h.nt u k).1 (by rw[e];exact .inr c),fun x w e=>(h.nt u k).2 x w (by rw[e];exact .inr c)⟩⟩ (fun b e=>by rw[e];exact m) (fun b e _ u k=>?_)
 ·rw[e] at j;exact bi r (Yz i.bm.items j) s rfl
 ·obtain⟨y,A,l⟩:=k;rw[e] at l⊢;exact df.set ⟨y,A,l⟩ p v
def inG(B:Nat)(Kf Kc:Nat->Prop)(ps:List (Nat×LK))(W:LP):bX:=⟨W,fun k=>(Kf k\/Kc k)\/(B<=k/\∃o,W.heap[k]? =some o/\o.isCells=false),ps,fun _=>False⟩
theorem InB.told(h:InB B Kf Kc ps W0 Kq wz W bb a cap rd rn rc mb mx ts d dc f ws):BM (inG B Kf Kc ps W) Kq wz W bb a cap rd rn rc mb mx ts d dc f ws:=by
 have c:=h.bm.oth;have j:=h.bm.block (S:=fun k=>B<=k/\∃o,W.heap[k]? =some o/\o.isCells=false) (fun e=>by have:=h.mlt;omega) (fun b e t i=>by
  obtain⟨_,o,m,p⟩:=e;have:=jZ i m;rw[p] at this;cases this)
 refine h.bm.as ⟨JP _,fun k n=>?_,fun _ _=>rfl, ?_, ?_,fun t i=>⟨?_,fun x l=>?_⟩,fun s x l=>?_,c.has⟩ (fun _ _ h=>h.1)
 ·rcases n with n|⟨_,o,m,_⟩
  ·exact c.lt k n
  ·exact aO m
 ·rintro (e|e)
  ·exact c.nb e
  ·exact j.1 e
 ·rintro (e|e)
  ·exact c.nm e
  ·exact j.2.1 e
 ·rintro (e|e)
  ·exact (c.nt t i).1 e
  ·exact (j.2.2.2.2 t i).1 e
 ·rintro (e|e)
  ·exact (c.nt t i).2 x l e
  ·exact (j.2.2.2.2 t i).2 x l e
 ·rintro (e|e)
  ·exact c.nf s x l e
  ·exact j.2.2.2.1 s x l e
theorem InB.did(h:InB B Kf Kc ps W0 Kq wz W bb a cap rd rn rc mb mx ts d dc f ws){m:Nat}{n:List Zx}{d':LM}{dc':Nat}{p:LK->LQ}{q:LK->List Nat}(r:BM (inG B Kf Kc ps W) Kq wz W' bb a cap rd rn rc mb m n d' dc' p q):InB B Kf Kc ps W0 Kq wz W' bb a cap rd rn rc mb m n d' dc' p q/\KeepsFrom B W W'/\∀k,Kc k->W'.heap[k]? =W.heap[k]? :=by
 have c:=r.oth;have i:∀k,Kf k\/Kc k->W'.heap[k]? =W.heap[k]? :=fun k b=>c.same k (.inl b)
 refine⟨⟨r.as ⟨JP _,fun k b=>JQ (c.lt k (.inl b)) c.size,fun _ _=>rfl,fun e=>c.nb (.inl e),fun e=>c.nm (.inl e),fun t s=>⟨fun e=>(c.nt t s).1 (.inl e),fun x j e=>(c.nt t s).2 x j (.inl e)⟩,fun v x j e=>c.nf v x j (.inl e),c.has⟩ (fun _ _ h=>h.1),fun k b=>(i k (.inl b)).trans (h.same k b),h.lt,h.mlt,JS h.size c.size,h.zlt,fun k b=>?_⟩,⟨c.size,fun k o w b l=>(c.same k (.inr ⟨w,o,b,l⟩)).trans b⟩,fun k b=>i k (.inr b)⟩;obtain⟨y,t,⟨A,C,l⟩,D⟩:=h.GL k b;exact⟨y,t,⟨A,C,by rw[i k (.inr b)];exact l⟩,D⟩
theorem InB.start(h:BM (bX.no wz) Kq wz W bb a cap rd rn rc mb mx ts d dc f ws)(b:∀k,Kf k\/Kc k->k<W.heap.size/\k≠bb/\k≠mb/\(∀t∈ts,k≠t.tb/\k∉t.own)/\∀s,(f s).ownBlock≠some k)(l:∀k,Kc k->wz.heap.size<=k/\∃t,df W k t/\t≠103)(m:∀p∈ps,∃t∈ts,t.tb=p.1/\t.r.name=p.2):InB W.heap.size Kf Kc ps W Kq wz W bb a cap rd rn rc mb mx ts d dc f ws:=by
 obtain⟨N,D,_,n,_⟩:=h.map;obtain⟨v,w,q,_⟩:=n;exact⟨h.as ⟨JP _,fun k c=>(b k c).1,fun _ _=>rfl,fun e=>(b _ e).2.1 rfl,fun e=>(b _ e).2.2.1 rfl,fun t j=>⟨fun e=>((b _ e).2.2.2.1 t j).1 rfl,fun x i e=>((b _ e).2.2.2.1 t j).2 i⟩,fun s x i e=>(b _ e).2.2.2.2 s i,m⟩ (fun _ _ h=>h.1),fun _ _=>rfl,fun k c=>(b k c).1,aO q,JP _,h.kw.size,l⟩
end
def uI(w:LP)(bb mb:Nat)(ts:List Zx)(f:LK->LQ)(k:Nat):Prop:=k<w.heap.size/\k≠bb/\k≠mb/\(∀t∈ts,k≠t.tb/\k∉t.own)/\∀s,(f s).ownBlock≠some k
theorem Fen.apart{G:bX}{w:LP}{b c:Nat}{d:List Zx}{f:LK->LQ}(h:Fen G w b c d f){k:Nat}(a:G.K k):uI w b c d f k:=
 ⟨JQ (h.lt k a) h.size,fun e=>h.nb (by rw[<-e];exact a),fun e=>h.nm (by rw[<-e];exact a),fun t i=>⟨fun e=>(h.nt t i).1 (by rw[<-e];exact a),fun j=>(h.nt t i).2 k j a⟩,fun s l=>h.nf s k l a⟩
theorem Je{w w1:LP}{v:LQ}{t:TypeId}(k:K_ (w.alloc (.cells #[v] t)) w1):w1.cell? ⟨w.heap.size,0,none⟩=some v/\w1.frozen? ⟨w.heap.size,0,none⟩=false/\df w1 w.heap.size t:=by
 have a:w.heap.size<(w.alloc (.cells #[v] t)).heap.size:=by simp
 exact⟨(k.cell a).trans (by simp),(k.rules.2 _ _ a).trans (by simp),#[v],_,(k.block _ a).trans (World.alloc_heap_new w _)⟩
theorem Ik{w w1:LP}{v0 v1:LQ}{t:TypeId}(k:K_ (w.alloc (.cells #[v0,v1] t)) w1):w1.cell? ⟨w.heap.size,0,none⟩=some v0/\w1.cell? ⟨w.heap.size,1,none⟩=some v1:=by
 have a:w.heap.size<(w.alloc (.cells #[v0,v1] t)).heap.size:=by simp
 constructor
 ·rw[k.cell a];simp
 ·rw[k.cell a];simp
def Cm(ts:List Zx):List LK:=ts.map fun t=>t.r.name
def Gv(ts:List Zx):List (Nat×LK):=ts.map fun t=>(t.tb,t.r.name)
def yY(ts:List Zx)(i:Nat):Nat:=(ts.map fun t=>t.tb).getD i 0
def rV(Kq:List Qq)(ts:List Zx):Nat:=ek (Kq.map (·.name)) (Qj (Qk ts))
theorem xJ :∀(l:List LK) (σ:Env),ek l σ<=23*l.length
 | [],_=>JP _
 | n :: l,σ=>by
  have b:=xJ l σ;have c:kV (σ n)<=23:=by
   unfold kV
   split
   ·exact JP _
   ·split <;> omega
  have e:ek (n :: l) σ=kV (σ n)+ek l σ:=by simp[ek]
  rw[e,KY];omega
section
variable {B : Nat} {G : bX} {Kq : List Qq} {wz W W' : LP} {bb : Nat} {a : LM} {cap : Nat} {rd : LM} {rn rc : Nat} {mb mx : Nat} {ts : List Zx} {d0 d : LM} {dc : Nat} {f : LK -> LQ} {ws : LK -> List Nat}
theorem ko{l c o:Nat}(a:Obj)(h:c≠l):(W.putObj l a).cell? ⟨c,o,none⟩=W.cell? ⟨c,o,none⟩:=Ke (w:=W) (World.putObj_heap_other h)
theorem vJ{l c o:Nat}(a:Obj)(h:c≠l):(W.putObj l a).frozen? ⟨c,o,none⟩=W.frozen? ⟨c,o,none⟩:=World.frozen?_of_block (w:=W) (World.putObj_heap_other h)
theorem BS.can(h:BS Kq ts ws){t:Zx}(b:t∈ts):bZ (Q_ Kq) (Qj (Qk ts)) t.r↔t.r.over=false/\t.op=0:=by
 obtain⟨A,c,_⟩:=(h.good.good t.r (Le b)).act;rw[xK (by rw[c];rfl),h.op t b,Kh]
theorem DT{tb:Nat->Nat}{i:Nat}(_hd:∀g,d0=some ⟨g,0,none⟩->g<B):Calm B (fun W=>Dx d0 tb i W):=by
 have h:∀{W:LP} {c o:Nat} {v:LQ},W.cell? ⟨c,o,none⟩=some v->c<W.heap.size:=fun {W c o v} j=>by
  obtain⟨f,a,_⟩:=cells_of_cell j;exact aO a
 have k:∀{W:LP} {c o l:Nat} {v:LQ} {f:Obj},W.cell? ⟨c,o,none⟩=some v->W.heap[l]? =some f->f.isCells=false->c≠l:=fun {W c o l v f} j a d e=>by
  obtain⟨s,b,r⟩:=cells_of_cell j;simp only at b;rw[e,a] at b;cases b;rw[d] at r;cases r
 constructor
 ·rintro W o t ⟨g,e,a,d,b⟩;have m:=(K_.refl W).alloc o;exact⟨g,e,(m.cell (h a)).trans a,(m.cell (h d)).trans d,(m.cell (h b)).trans b⟩
 ·rintro W l o n w p q ⟨g,e,a,d,b⟩;exact⟨g,e,(ko n (k a p q)).trans a,(ko n (k d p q)).trans d,(ko n (k b p q)).trans b⟩
theorem Ij{v:LQ}{c:Nat}(e:c<B):Calm B (fun W=>W.cell? ⟨c,3,none⟩=some v):=by
 constructor
 ·intro W o f a;obtain⟨h,b,_⟩:=cells_of_cell a;exact (((K_.refl W).alloc o).cell (aO b)).trans a
 ·intro W l o d i j k a;exact (ko d (by omega)).trans a
theorem Fy{tb:Nat->Nat}{i:Nat}(h:Dx d0 tb i W)(k:FT d0 tb i W):False:=by
 obtain⟨g,_,_,c,d⟩:=h;obtain⟨e,_,_,a⟩:=k;rcases a with a|⟨_,f,j,b⟩
 ·rw[c] at a;cases a
 ·rw[d] at b;simp only[KT,Value.int.injEq,true_and] at b;omega
theorem vH(B:Nat):Calm B (fun _=>False):=⟨fun _ _ _ h=>h,fun _ _ _ _ _ _ _ h=>h⟩
theorem BM.far{G:bX}(h:BM G Kq wz W bb a cap rd rn rc mb mx ts d dc f ws){k:Nat}(l:W.heap.size<=k):k≠bb/\k≠mb/\(∀t∈ts,k≠t.tb/\k∉t.own)/\∀s,(f s).ownBlock≠some k:=by
 have m:=h.row.lt;obtain⟨N,D,_,c,_⟩:=h.map;obtain⟨n,p,e,_⟩:=c;have q:=aO e;refine⟨by omega,by omega,fun t b=>⟨?_,fun i=>?_⟩,fun s j=>?_⟩
 ·have:=(h.fO t b).row.lt;omega
 ·have:=((h.fO t b).dZ i).2.2;omega
 ·have:=((h.eT s).lt k j).2;omega
theorem BM.apart{G:bX}(h:BM G Kq wz W bb a cap rd rn rc mb mx ts d dc f ws){k:Nat}(i:d=some ⟨k,0,none⟩):k<W.heap.size/\k≠bb/\k≠mb/\(∀t∈ts,k≠t.tb/\k∉t.own)/\∀s,(f s).ownBlock≠some k:=by
 subst i;have c:(Value.slice (some ⟨k,0,none⟩) ts.length dc).ownBlock=some k:=rfl;have b:=Yz h.items c;obtain⟨N,D,_,j,_⟩:=h.map;refine⟨(h.items.lt k c).2,bi b h.row.type (by decide),gL j b,fun t e=>⟨bi b (h.fO t e).row.type (by decide),fun l=>bi b ((h.fO t e).dZ l).1 (by decide) rfl⟩,fun s m=>h.zH s k m c⟩
theorem BM.item(h:BM G Kq wz W bb a cap rd rn rc mb mx ts d dc f ws){i:Nat}(j:i<ts.length):∃g,d=some ⟨g,0,none⟩/\W.cell? ⟨g,i,none⟩=some (.pointer (some ⟨(ts[i]).tb,0,none⟩)):=by
 have b:=h.items;rcases b.2 with⟨e,_⟩|⟨g,l,m,e,_⟩
 ·exfalso
  simp only[KX] at e;omega
 ·simp only[KX] at e;obtain⟨rfl,_,rfl⟩:=e;refine⟨g,rfl, ?_⟩;have c:=b.cells (g:=g) rfl i (ts[i]).ptr (by simp[j]);have k:((⟨g,0,none⟩:Addr).add i)= ⟨g,i,none⟩:=by simp[Addr.add];omega
  rw[k] at c;exact c
end
variable {w : LP}
theorem sO{P:Program}{id:Nat}{d:Array Oper}{Q:Exit->Act->LP->Prop}{a:Act}(J:Act->Act->LP->Prop)(h:(Code.region id d true).wp P (fun x b u=>x= .normal/\J a b u) a w)(i:∀b u,J a b u->Q .normal b u):(Code.region id d true).wp P Q a w:=
 wp_mono h fun e b u c=>by
  obtain⟨rfl,c⟩:=c;exact i b u c
def ig(n:Nat):LQ:= .int .i64 (n:Int)
variable {n : Nat} {F : Nat -> LQ} {t : TypeId}
theorem eX{b:Nat}(h:w.rowIs b t n F):df w b t:=by
 obtain⟨c,d,_⟩:=h;exact⟨c,_,d⟩
theorem dm{w':LP}{b:Nat}(h:w.rowIs b t n F)(k:w'.heap[b]? =w.heap[b]?):w'.rowIs b t n F:=by
 obtain⟨c,d,e⟩:=h;exact⟨c,k.trans d,e⟩
theorem dC{b:Nat}(h:w.rowIs b t n F):b<w.heap.size:=by
 obtain⟨d,c,_⟩:=h;exact aO c
theorem xS{b:Nat}{G:Nat->LQ}(h:w.rowIs b t n F)(e:∀p,p<n->G p=F p):w.rowIs b t n G:=by
 obtain⟨c,d,f,i⟩:=h;exact⟨c,d,f,fun p a=>by rw[i p a,e p a]⟩
def m_(w:LP)(a:LM)(l:List Nat):Prop:=∀i,i<l.length->∃b o,a=some ⟨b,o,none⟩/\b<w.heap.size/\w.cell? ⟨b,o+i,none⟩=some (.int .i64 ((l.getD i 0:Nat):Int))
theorem m_.kept{w':LP}{a:LM}{l:List Nat}(h:m_ w a l)(k:K_ w w'):m_ w' a l:=fun i c=>by
 obtain⟨d,o,e,b,f⟩:=h i c;exact⟨d,o,e,JQ b k.size,(k.cell b).trans f⟩
theorem mF{base:Nat}{v:LQ}{l:List Nat}(h:w.ownsRow base t 1 v n (l.map ig))(f:n=l.length):∃a b,v= .slice a l.length b/\n<=b/\m_ w a l:=by
 obtain⟨a,b,rfl⟩:=ax h;refine⟨a,b,by rw[f], ?_,fun i d=>?_⟩
 ·rcases h.2 with⟨e,c⟩|⟨_,_,_,e,_,_,c,_⟩
  ·simp only[KX] at e;omega
  ·simp only[KX] at e;omega
 ·obtain⟨j,o,c,k,m⟩:=dP h i (by simpa using d);exact⟨j,o,c,k,by have:=m i (ig (l.getD i 0)) (by simp[List.getD,d]);exact this⟩
structure nD (w:LP) (base n:Nat) (blk:Bool->Nat) (g:Bool->Nat->LQ) (L:Bool->Nat->List Nat):Prop where
 row:∀c,w.rowIs (blk c) 52 n (g c)
 ne:blk true≠blk false
 own:∀c p,w.ownsRow base 3 1 (g c p) (L c p).length ((L c p).map ig)
 sep:∀c p c' p',¬(c'=c/\p'=p)->∀x,(g c p).ownBlock=some x->(g c' p').ownBlock≠some x
section
variable {w w1 w' : LP} {base n : Nat} {blk : Bool -> Nat} {g : Bool -> Nat -> LQ} {L : Bool -> Nat -> List Nat}
theorem nD.but{S:Nat->Prop}(h:nD w base n blk g L)(k:But S w w')(d:∀c,¬S (blk c))(h2:∀c p b,(g c p).ownBlock=some b->¬S b):nD w' base n blk g L:=
 ⟨fun c=>dm (h.row c) (k.block _ (dC (h.row c)) (d c)),h.ne,fun c p=>k.owns (h.own c p) (h2 c p),h.sep⟩
theorem nD.kept(h:nD w base n blk g L)(k:K_ w w'):nD w' base n blk g L:=h.but (S:=fun _=>False) (But.aF k) (fun _=>id) (fun _ _ _ _=>id)
theorem nD.put(h:nD w base n blk g L)(b:Bool)(p:Nat){d:LQ}{x:Nat}(v:w1.ownsRow base 3 1 d ((L b p).length+1) ((L b p).map ig++ [ig x]))(E:w.grownBy w1 (g b p).ownBlock)(F:∀y,d.ownBlock=some y->(g b p).ownBlock=some y\/w.heap.size<=y):
  nD (w1.setCell ⟨blk b,p,none⟩ d) base n blk (fun c q=>if c=b/\q=p then d else g c q) (fun c q=>if c=b/\q=p then L b p++ [x] else L c q)/\But (fun y=>(g b p).ownBlock=some y\/y=blk b) w (w1.setCell ⟨blk b,p,none⟩ d):=by
 have s:But (fun y=>(g b p).ownBlock=some y) w w1:=But.aI E (fun y e=>e);have f:∀c,w1.rowIs (blk c) 52 n (g c):=fun c=>dm (h.row c) (s.block _ (dC (h.row c)) (fun e=>bi (eX (h.row c)) (Yz (h.own b p) e) (by decide) rfl))
 have k:But (fun y=>y=blk b) w1 (w1.setCell ⟨blk b,p,none⟩ d):=But.set (S:=fun y=>y=blk b) (But.aF (K_.refl w1)) (p:=⟨blk b,p,none⟩) rfl d;have A:∀c q,¬(c=b/\q=p)->w1.ownsRow base 3 1 (g c q) (L c q).length ((L c q).map ig):=fun c q l=>s.owns (h.own c q) (fun y e a=>h.sep c q b p (fun B=>l ⟨B.1.symm,B.2.symm⟩) y e a)
 refine⟨⟨fun c=>?_,h.ne,fun c q=>?_,fun c q m r l y i=>?_⟩, ?_⟩
 ·by_cases e:c=b
  ·subst e;exact mE (f c) p d (fun q J=>by simp)
  ·refine xS (dm (f c) (k.block _ (dC (f c)) (fun a=>?_))) (fun q _=>by simp[e]);have j:=h.ne;cases c <;> cases b <;> first | exact e rfl | exact j a | exact j a.symm
 ·by_cases e:c=b/\q=p
  ·simp only[Lt e,KS,LA,LD,List.map_cons,List.map_nil];exact k.owns v (fun y t a=>bi (Yz v t) (eX (f b)) (by decide) a)
  ·simp only[Lu e];exact k.owns (A c q e) (fun y t a=>bi (Yz (A c q e) t) (eX (f b)) (by decide) a)
 ·have C:∀c q,¬(c=b/\q=p)->∀y,d.ownBlock=some y->(g c q).ownBlock≠some y:=fun c q G y H D=>by
   rcases F y H with j|j
   ·exact h.sep b p c q G y j D
   ·have:=((h.own c q).lt y D).2;omega
  by_cases e:c=b/\q=p
  ·simp only[Lt e] at i;have a:¬(m=b/\r=p):=fun a=>l ⟨a.1.trans e.1.symm,a.2.trans e.2.symm⟩
   simp only[Lu a];exact C m r a y i
  ·simp only[Lu e] at i;by_cases a:m=b/\r=p
   ·simp only[Lt a];exact fun I=>C c q e y I i
   ·simp only[Lu a];exact h.sep c q m r l y i
 ·exact (s.mono (fun y _ e=>Or.inl e)).trans (k.mono (fun y _ e=>Or.inr e))
end
structure pq (w:LP) (na:LM) (nm:List LK) (nb mb:Nat) (need back:Nat->List Nat):Prop where
 names:Strs w na nm
 nbl:nb<w.heap.size
 mbl:mb<w.heap.size
 fwd:∀p,p<nm.length->∃a c,w.cell? ⟨nb,p,none⟩=some (.slice a (need p).length c)/\m_ w a (need p)
 bwd:∀p,p<nm.length->∃a c,w.cell? ⟨mb,p,none⟩=some (.slice a (back p).length c)/\m_ w a (back p)
theorem pq.kept{w':LP}{f:LM}{i:List LK}{nb j:Nat}{l back:Nat->List Nat}(h:pq w f i nb j l back)(k:K_ w w'):pq w' f i nb j l back:=
 ⟨h.names.kept k,JQ h.nbl k.size,JQ h.mbl k.size,fun p b=>by
  obtain⟨a,c,d,e⟩:=h.fwd p b;exact⟨a,c,(k.cell h.nbl).trans d,e.kept k⟩,fun p b=>by
  obtain⟨a,c,d,e⟩:=h.bwd p b;exact⟨a,c,(k.cell h.mbl).trans d,e.kept k⟩⟩
theorem nD.read{base:Nat}{blk:Bool->Nat}{g:Bool->Nat->LQ}{L:Bool->Nat->List Nat}{e:LM}{b:List LK}(h:nD w base b.length blk g L)(i:Strs w e b):pq w e b (blk true) (blk false) (L true) (L false):=by
 have f:∀c p,p<b.length->∃a d,w.cell? ⟨blk c,p,none⟩=some (.slice a (L c p).length d)/\m_ w a (L c p):=fun c p j=>by
  obtain⟨a,d,k,_,l⟩:=mF (h.own c p) rfl;exact⟨a,d,by rw[(h.row c).cell j,k],l⟩
 exact⟨i,dC (h.row true),dC (h.row false),f true,f false⟩
theorem vE{l:List Nat}{p q:Nat->Bool}(h:∀x,q x=true->p x=true){s:Nat}(b:s∈l)(c:p s=true)(h2:q s=false):l.countP q+1<=l.countP p:=by
 induction l with
 | nil=>cases b
 | cons a l ih=>
  rw[List.countP_cons,List.countP_cons];rcases Lb.1 b with rfl|b
  ·have:=List.countP_mono_left (l:=l) (p:=q) (q:=p) (fun x _=>h x);simp only[c,h2,if_true];simp;omega
  ·have f:=ih b;have d:=h a;cases e:q a
   ·simp;omega
   ·simp[d e];omega
def unseen(A:Nat->Nat):Nat:=(List.range 60).countP (fun p=>A p == 0)
theorem uk{A:Nat->Nat}{s v:Nat}(c:s<60)(d:A s=0)(b:v≠0):unseen (fun r=>if r=s then v else A r)+1<=unseen A:=by
 refine vE (s:=s) (fun x a=>?_) (List.mem_range.2 c) (by simp[d]) (by simp[b]);by_cases e:x=s
 ·rw[e] at a;simp[b] at a
 ·simpa[e] using a
theorem ut{Q:List Nat}{s:Nat}(c:Q.Nodup)(d:∀p∈Q,p<60)(e:s<60)(f:s∉Q):Q.length<60:=by
 have h:(s :: Q).Nodup:=List.nodup_cons.2 ⟨f,c⟩;have:=List.Nodup.length_le_of_subset (l₂:=List.range 60) h (fun x b=>by
  rcases Lb.1 b with rfl|b
  ·exact List.mem_range.2 e
  ·exact List.mem_range.2 (d x b))
 simp at this;omega
def iJ(w:LP)(ab:Nat)(A:Nat->Nat):Prop:=w.rowIs ab 122 60 (fun i=>ig (A i))
variable {w : LP}
theorem iJ.put{a:Nat}{A:Nat->Nat}(h:iJ w a A)(i v:Nat):iJ (w.setCell ⟨a,i,none⟩ (.int .i64 (v:Int))) a (fun r=>if r=i then v else A r):=
 mE h i _ (fun p _=>by by_cases e:p=i <;> simp[e,ig])
theorem gu.size{a:Nat}{Q:List Nat}(h:gu w a Q):w.cell? ⟨a,61,none⟩=some (.int .i64 (Q.length:Int)):=by
 obtain⟨V,f,_,_,d,_⟩:=h.ex;rw[d.cell (by omega)]
 rfl
def mP(A:Nat->Nat):Array LQ:=((List.range 60).map fun i=>ig (A i)).toArray
structure FX (R:Nat->Nat->Prop) (t:Nat) (A:Nat->Nat) (size:Nat):Prop where
 no:size=0->∀n,¬jm R t n
 yes:size≠0->jm R t size/\∀r n,n+1<=size->(A r=n+1↔Far R t n r)
def Io(R:Nat->Nat->Prop)(t:Nat)(w w':LP)(e:Ending):Prop:=∃(A:Nat->Nat) (size:Nat),e= .returned (.tuple #[.agg (mP A),.int .i64 (size:Int)])/\FX R t A size/\size<=60/\K_ w w'
theorem xO{c:Nat}{A:Nat->Nat}(h:iJ w c A):w.rangeAt c 0 ((List.range 60).map fun i=>ig (A i)):=fun j v a=>by
 rw[List.getElem?_map] at a;by_cases b:j<60
 ·rw[List.getElem?_range b] at a;simp only[Option.map_some,KT] at a;rw[KH,<-a];exact h.cell b
 ·rw[List.getElem?_eq_none (by simpa using b)] at a;cases a
theorem Tryz.ow :(prog.info? 122).map (·.size)=some 60:=by kernel_rfl
theorem qC{P:Program}{e:Func}{R:Ending->LP->Prop}{a:Act}{p q:Tmp}{c:TypeId}{b:Nat}(cs:List LQ)(d:TypeDesc)(v:LQ)(h:e.results= #[.cell p c,.tmp q])
 (i:a.tmps.getD p undef= .pointer (some ⟨b,0,none⟩)) (j:w.rangeAt b 0 cs) (k:P.underlying c=some d) (l:d.isRow=true) (m:(P.info? c).map (·.size)=some cs.length)
 (n:a.tmps.getD q undef=v) (r:a.defers=[]) (s:R (.returned (.tuple #[.agg cs.toArray,v])) w):bodyPost P e R .ret a w:=by
 refine bodyPost_ret ?_ r s;have t:a.tmps[p]?.getD undef= .pointer (some ⟨b,0,none⟩):=by simpa using i
 have x:a.tmps[q]?.getD undef=v:=by simpa using n
 simp only[results,h];simp[t,x,asAddr,run_loadVar_mid w b 0 c cs d j k l m]
theorem eU(A:Nat->Nat):(mP A).size=60:=by simp[mP]
theorem oI(A:Nat->Nat):(mP A).all (·.oneCell')=true:=by simp[mP,ig,Value.oneCell']
theorem z60 :List.toArray (List.replicate 60 (Value.int .i64 0))=Array.replicate 60 (Value.int .i64 0):=rfl
theorem z62 :List.toArray (List.replicate 62 (Value.int .i64 0))=Array.replicate 62 (Value.int .i64 0):=rfl
theorem pg(w:LP)(V:LM)(nc:Nat)(a:List LK)(nb N:Nat)(c3 back:Nat->List Nat)(E:LK->LK->Prop)(M:Nat)(t:Nat)(ht:t<a.length)(hn:a.length<=60)(hM:M<=60000000)(hV:pq w V a nb N c3 back)(hR:vM E a M c3 back):
  Calls prog 72 #[.agg #[.slice V a.length nc,.slice (some ⟨nb,0,none⟩) a.length a.length,.slice (some ⟨N,0,none⟩) a.length a.length],.int .i64 (t:Int)] w fun e w'=>Io (bE E a) t w w' e:=by
 go_enter func72,ntmps72
 go_upto_region 1 with fail
 rw (transparency:= .default) [z60]
 go_step3
 go_upto_region 4 with fail
 rw (transparency:= .default) [z60,z62];obtain⟨f,K⟩:=aj (w.alloc (.cells #[.slice V a.length nc,.slice (some ⟨nb,0,none⟩) a.length a.length,.slice (some ⟨N,0,none⟩) a.length a.length] 68));have k1:K_ w f:=by rw[K];exact ag _ _
 have s2:f.cell? ⟨w.heap.size,2,none⟩=some (.slice (some ⟨N,0,none⟩) a.length a.length):=by rw[K];exact Xz w #[.slice V a.length nc,.slice (some ⟨nb,0,none⟩) a.length a.length,.slice (some ⟨N,0,none⟩) a.length a.length] 68 2 _ rfl
 have z1:w.heap.size<f.heap.size:=by rw[K];simp
 have c4:w.heap.size+1=f.heap.size:=by rw[K];simp
 obtain⟨d,O⟩:=aj (f.alloc (.cells (Array.replicate 60 (.int .i64 0)) 122));have k2:K_ f d:=by rw[O];exact ag _ _
 have a6:Hid (aC d f.heap.size 122 60):=by have h:=aC.made f (Array.replicate 60 (.int .i64 0)) 122;rw[Array.size_replicate] at h;rw[O];exact h
 have f0:f.heap.size+1=d.heap.size:=by rw[O];simp
 obtain⟨B,P⟩:=aj (d.alloc (.cells (Array.replicate 60 (.int .i64 0)) 122));have k3:K_ d B:=by rw[P];exact ag _ _
 have a3:iJ B d.heap.size (fun _=>0):=by
  have h:=World.rowIs_alloc d (Array.replicate 60 (.int .i64 0)) 122 (fun _=>ig 0) (fun i C=>by simp at C;simp[ig,C]);rw[Array.size_replicate] at h;rw[P];exact h
 have f1:d.heap.size+1=B.heap.size:=by rw[P];simp
 obtain⟨D,W⟩:=aj (B.alloc (.cells (Array.replicate 62 (.int .i64 0)) 165));have k4:K_ B D:=by rw[W];exact ag _ _
 have r4:gu D B.heap.size []:=by
  refine⟨fun _=>0,0,by omega,by simp, ?_,fun i C=>aT C⟩;have h:=World.rowIs_alloc B (Array.replicate 62 (.int .i64 0)) 165 (kK (fun _=>0) 0 0) (fun i C=>by simp at C;simp[kK,C]);rw[Array.size_replicate] at h;rw[W];exact h
 rw[<-K,<-O,<-P,<-W];obtain⟨c,c5⟩:=aj d.heap.size;obtain⟨j,c6⟩:=aj B.heap.size;have X:w.heap.size+1=f.heap.size:=c4;have e2:w.heap.size+1+1=c:=by omega
 have c7:w.heap.size+1+1+1=j:=by omega
 rw[c7,e2,X];rw[<-c5] at a3;rw[<-c6] at r4;have R:c≠j:=by omega
 have Y:=Kz (ja a3 k4);have f2:=Y.out.frozen t;have f3:=Y.out.cell (show t<60 by omega);have i0:(t:Int)<60:=by omega
 have K4:=k3.trans k4;have c8:=Kz r4;have Z:=Kz (iJ.put Y.out t 1);have a7:Hid (But (fun b=>b=c\/b=j) D (D.setCell ⟨c,t,none⟩ (.int .i64 (1:Int)))):=But.set (S:=fun b=>b=c\/b=j) (But.aF (K_.refl D)) (p:=⟨c,t,none⟩) (.inl rfl) _;have a0:=Kz (k1.trans k2);have f4:=Kz k2;have a8:=Kz (c8.o.block (w':=D.setCell ⟨c,t,none⟩ (.int .i64 (1:Int))) (Below.heap_setCell _ _ _ _ (fun e=>R (Eq.symm e))));have c9:Hid (d.heap.size<=c):=by show d.heap.size<=c;omega
 have a1:Hid (d.heap.size<=j):=by show d.heap.size<=j;omega
 have HZ:Hid (w.heap.size<d.heap.size/\f.heap.size<d.heap.size/\w.heap.size<f.heap.size):=⟨by omega,by omega,by omega⟩;have f5:=Kz ((f4.o.cell z1).trans s2);obtain⟨b4,a9⟩:=aj f.heap.size;rw[<-a9] at a6 HZ⊢;have i1:=Kz a9;clear K O P W X e2 c7 a3 r4 k3 k4 k1 k2 f1 f0 c4 c5 c6 z1 s2 a9;go_upto_region 5 with fail
 have b0:Hid (K_ d (D.setCell ⟨c,t,none⟩ (.int .i64 (1:Int)))):=a7.o.kept K4 (fun b e=>by rcases e with e | e <;> rw[e] <;> first | exact c9.o | exact a1.o);generalize f6:D.setCell ⟨c,t,none⟩ (.int .i64 (1:Int))=W5 at Z a7 a8 b0⊢;clear f6 f2 f3 a7 c8 Y K4;go_wp2_with fail
 refine (uh W5 j [] t a8.o (by simp)).mono ?_;rintro e w6 ⟨rfl,d0,b1⟩;have d1:Hid (gu w6 j [t]):=d0;have d2:Hid (iJ w6 c (fun r=>if r=t then 1 else (fun _=>0) r)):=dm Z.o (b1.block _ (dC Z.o) (fun e=>R e));have d3:Hid (K_ d w6):=b1.kept b0.o (fun b e=>by rw[e];exact a1.o);have d4:Hid (Bfs (bE E a) t (fun r=>if r=t then 1 else (fun _=>0) r) [t]):=Bfs.start _ t;have d5:Hid (∀r,(fun r=>if r=t then 1 else (fun _=>0) r) r+unseen (fun r=>if r=t then 1 else (fun _=>0) r)<=60):=fun r=>by
  have h1:=uk (A:=fun _=>0) (v:=1) (show t<60 by omega) rfl (by omega);have h2:unseen (fun _=>0)<=60:=by unfold unseen;have:=List.countP_le_length (l:=List.range 60) (p:=fun _=>(0:Nat) == 0);simp
  by_cases e:r=t
  ·simp only[e,if_true];omega
  ·simp only[Lu e];omega
 clear d0 b1 Z a8 b0;go_wp2_with fail
 go_step3
 go_wp2
 go_loopg [8] (2*unseen (fun r=>if r=t then 1 else (fun _=>0) r)+1) (fun gg x8 wr=>∃(A:Nat->Nat) (Q:List Nat),x8= .int .i64 0/\Hid (2*unseen A+Q.length=gg)/\Hid (∀r,A r+unseen A<=60)/\Hid (iJ wr c A)/\Hid (gu wr j Q)/\Hid (Bfs (bE E a) t A Q)/\Hid (∀p∈Q,p<a.length)/\Hid (K_ d wr))
 case atStart=>exact⟨_,[t],rfl,Kz rfl,d5,d2,d1,d4,Kz (fun p hp=>by rw[JY] at hp;rw[hp];exact ht),d3⟩
 case round=>
  clear d2 d1 d4 d3 d5;obtain⟨A,Q,rfl,L,y,k,I,HB,F,n⟩:=hrel;have b2:=I.o.size;cases Q with
  | nil=>
   have i2:wr.cell? ⟨j,61,none⟩=some (.int .i64 0):=b2;clear b2;have HD:Hid (FX (bE E a) t A 0):=⟨fun _ f7 G=>HB.o.none f7 G.1 G.2.1,fun h=>Lv rfl h⟩;go_upto_region 17 with fail
   have b3:=a6.o.kept n.o;have T:=Kz (b3.row.there (o:=0) (m:=60) (JP _));have b5:=Kz (xO k.o);go_wp2_with (first | (refine wpList_load_mid rfl 122 (.tmp 6) rfl c 0 rfl _ _ b5.o underlying122 rfl Tryz.ow ?_) | (refine wpList_store_mid rfl 122 (.tmp 4) (.tmp 49) rfl b4 0 (mP A) rfl rfl (by rw[eU];exact T.o) (by rw[eU];exact Tryz.ow) (oI A) ?_))
   try rw[Exit.noGoto_ret]
   refine qC ((List.range 60).map fun i=>ig (A i)) _ (.int .i64 ((0:Nat):Int)) results72 rfl (JU wr b4 0 ((List.range 60).map fun i=>ig (A i)) (by rw[Lm,List.length_range];exact T.o)) underlying122 rfl (by rw[Lm,List.length_range];exact Tryz.ow) rfl rfl ⟨A,0,rfl,HD.o,by omega, ?_⟩;exact K_.setCells (Nat.le_of_lt HZ.o.2.2) _ _ (a0.o.trans n.o)
  | cons p Q=>
   have f8:(0:Int)<((p :: Q).length:Int):=by simp
   have f9:p<a.length:=F.o p (by simp);obtain⟨ba,bc,d6,d7⟩:=hV.bwd p f9;go_wp2_with fail
   refine (vB wr j Q p I.o).mono ?_;rintro e w1 ⟨rfl,d8,b6⟩;have d9:=Kz d8;have e0:Hid (iJ w1 c A):=dm k.o (b6.block _ (dC k.o) (fun e=>R e));have a2:Hid (K_ d w1):=b6.kept n.o (fun b e=>by rw[e];exact a1.o);have x:=Kz HB.o.take;have e1:Hid (∀q∈Q,q<a.length):=fun q U=>F.o q (Kl _ U)
   have e3:Hid (2*unseen A+Q.length<gk):=by have h:=L.o;rw[KY] at h;show 2*unseen A+Q.length<gk;omega
   have g0:=Kz d7;have q2:=(a2.o.cell HZ.o.1).trans f5.o;have q3:=((a0.o.trans a2.o).cell hV.mbl).trans d6;have i3:(p:Int)<(a.length:Int):=by omega
   have i4:=(hR.len p).2;clear d8 b6 d7 d6 b2 f8 k I HB F n L;go_wp2_with fail
   clear q2 q3;go_loopw [8,26] (fun x8 b7 wr=>∃(i:Nat) (A:Nat->Nat) (Q:List Nat),x8= .int .i64 0/\b7= .int .i64 (i:Int)/\i<=(back p).length/\Hid (2*unseen A+Q.length<gk)/\Hid (∀r,A r+unseen A<=60)/\Hid (iJ wr c A)/\Hid (gu wr j Q)/\Hid (mR (bE E a) t p ((back p).take i) A Q)/\Hid (∀q∈Q,q<a.length)/\Hid (K_ d wr)) (fun _ b7 _=>(back p).length-(intOf b7).toNat)
   case atStart=>exact⟨0,A,Q,rfl,rfl,JR _,e3,y,e0,d9,x,e1,a2⟩
   case round=>
    clear e3 y e0 d9 x e1 a2;obtain⟨i,A,Q,rfl,rfl,C,L,y,k,I,x,F,n⟩:=hrel;by_cases a4:i<(back p).length;rotate_left
    ·have g1:Hid (Bfs (bE E a) t A Q):=x.o.ends (fun s G=>by rw[KJ (by omega)];exact (hR.bwd s p).2 G);go_wp2
     go_roundg (2*unseen A+Q.length)
     case measure=>exact L.o
     case rel=>exact⟨A,Q,rfl,Kz rfl,y,k,I,g1,F,n⟩
    obtain⟨sb,so,X,i5,g2⟩:=(g0.o.kept (a0.o.trans n.o)) i a4;subst X;obtain⟨s,G⟩:=aj ((back p).getD i 0);rw[<-G] at g2;have b8:(back p)[i]=s:=by rw[G];simp[List.getD,a4]
    have HE:Hid (bE E a s p):=(hR.bwd s p).1 (by rw[<-b8];exact J_ a4);have g3:s<a.length:=HE.o.1;have e4:Hid ((back p).take (i+1)= (back p).take i++ [s]):=by show _=_;rw[JX a4,b8]
    have i6:(i:Int)<((back p).length:Int):=by omega
    have cp:=k.o.cell (show p<60 by omega);have cs:=k.o.cell (show s<60 by omega);unfold ig at cp cs;have i7:(p:Int)<60:=by omega
    have i8:(s:Int)<60:=by omega
    clear G b8;by_cases H:s=t
    ·have g4:((s:Int) == (t:Int))=true:=by simp[H]
     have b9:=Kz (x.o.found (by have h:=HE.o;rw[H] at h;exact h));have e5:=Kz x.o.pos;have HD:Hid (FX (bE E a) t A (A p)):=⟨fun h=>Lv h e5.o,fun _=>⟨⟨by have:=e5.o;omega,b9.o.1,b9.o.2.1⟩,b9.o.2.2⟩⟩;have e6:A p<=60:=by have:=y.o p;omega
     clear H cs;go_upto_region 17 with fail
     have b3:=a6.o.kept n.o;have T:=Kz (b3.row.there (o:=0) (m:=60) (JP _));have b5:=Kz (xO k.o);go_wp2_with (first | (refine wpList_load_mid rfl 122 (.tmp 6) rfl c 0 rfl _ _ b5.o underlying122 rfl Tryz.ow ?_) | (refine wpList_store_mid rfl 122 (.tmp 4) (.tmp 49) rfl b4 0 (mP A) rfl rfl (by rw[eU];exact T.o) (by rw[eU];exact Tryz.ow) (oI A) ?_))
     try rw[Exit.noGoto_ret]
     refine qC ((List.range 60).map fun i=>ig (A i)) _ (.int .i64 ((A p:Nat):Int)) results72 rfl (JU wr b4 0 ((List.range 60).map fun i=>ig (A i)) (by rw[Lm,List.length_range];exact T.o)) underlying122 rfl (by rw[Lm,List.length_range];exact Tryz.ow) rfl rfl ⟨A,A p,rfl,HD.o,e6, ?_⟩;exact K_.setCells (Nat.le_of_lt HZ.o.2.2) _ _ (a0.o.trans n.o)
    have g4:((s:Int) == (t:Int))=false:=by simp;omega
    by_cases J:A s=0;rotate_left
    ·have g5:((A s:Int) == 0)=false:=by simp;omega
     have g6:=Kz (x.o.old J H);clear J H cp;go_wp2
     go_roundw
     case rel=>exact⟨i+1,A,Q,rfl,by go_num,by omega,L,y,k,I,Kz (by rw[e4.o];exact g6.o),F,n⟩
     case measure=>simp[intOf];omega
    have g5:((A s:Int) == 0)=true:=by simp[J]
    have g7:=Kz (x.o.new HE.o J H);have g8:Q.length<60:=ut x.o.nd (fun q U=>JQ (F.o q U) hn) (by omega) (fun h=>x.o.q s h J);have e7:=Kz (uk (v:=A p+1) (show s<60 by omega) J (by omega));have e6:A p<=60:=by have:=y.o p;omega
    have fs:=k.o.frozen s;have a5:=Kz (iJ.put k.o s (A p+1));have e8:((A p:Int)+1)= ((A p+1:Nat):Int):=by omega
    have c0:Hid (K_ d (wr.setCell ⟨c,s,none⟩ (.int .i64 ((A p+1:Nat):Int)))):=(But.set (S:=fun b=>b=c) (But.aF (K_.refl wr)) (p:=⟨c,s,none⟩) rfl _).kept n.o (fun b e=>by rw[e];exact c9.o);have c1:=Kz (I.o.block (w':=wr.setCell ⟨c,s,none⟩ (.int .i64 ((A p+1:Nat):Int))) (Below.heap_setCell _ _ _ _ (fun e=>R (Eq.symm e))));have i9:Hid (s≠t):=H;have g9:=Kz e8;clear H J e8;go_upto_region 15 with fail
    rw[g9.o];generalize h0:wr.setCell ⟨c,s,none⟩ (.int .i64 ((A p+1:Nat):Int))=w7 at a5 c0 c1⊢;clear h0 fs cp cs;go_wp2_with fail
    refine (uh w7 j Q s c1.o g8).mono ?_;rintro e w8 ⟨rfl,e9,c2⟩;have h4:=Kz e9;have h5:Hid (iJ w8 c (fun r=>if r=s then A p+1 else A r)):=dm a5.o (c2.block _ (dC a5.o) (fun e=>R e));have h6:Hid (K_ d w8):=c2.kept c0.o (fun b e=>by rw[e];exact a1.o);have h7:Hid (2*unseen (fun r=>if r=s then A p+1 else A r)+ (Q++ [s]).length<gk):=by
     have h1:=e7.o;have h2:=L.o;rw[KS];simp only[KY,List.length_nil];show _<_;omega
    have h8:Hid (∀r,(fun r=>if r=s then A p+1 else A r) r+unseen (fun r=>if r=s then A p+1 else A r)<=60):=fun r=>by
     have h1:=e7.o;have h2:=y.o r;have h3:=y.o p;by_cases e:r=s
     ·simp only[e,if_true];omega
     ·simp only[Lu e];omega
    have h9:Hid (∀q∈Q++ [s],q<a.length):=fun q U=>by
     rcases JZ.1 U with h|h
     ·exact F.o q h
     ·rw[JY] at h;rw[h];exact g3
    clear e9 c2 a5 c0 c1;go_wp2
    go_roundw
    case rel=>exact⟨i+1,_,_,rfl,by go_num,by omega,h7,h8,h5,h4,Kz (by rw[e4.o];exact g7.o),h9,h6⟩
    case measure=>simp[intOf];omega
def jw(S:Nat->Bool):Nat:=(List.range 60).countP (fun p=>!S p)
theorem zP{S:Nat->Bool}{s:Nat}(c:s<60)(d:S s=false):jw (fun r=>if r=s then true else S r)+1<=jw S:=by
 refine vE (s:=s) (fun x a=>?_) (List.mem_range.2 c) (by simp[d]) (by simp);by_cases e:x=s
 ·rw[e] at a;simp at a
 ·simpa[e] using a
def gF(w:LP)(sb:Nat)(S:Nat->Bool):Prop:=w.rowIs sb 168 60 (fun i=>.bool (S i))
theorem gF.put{a:Nat}{S:Nat->Bool}(h:gF w a S)(i:Nat):gF (w.setCell ⟨a,i,none⟩ (.bool true)) a (fun r=>if r=i then true else S r):=
 mE h i _ (fun p _=>by by_cases e:p=i <;> simp[e])
theorem gF.ext{a:Nat}{S T:Nat->Bool}(h:gF w a S)(e:∀p,T p=S p):gF w a T:=xS h (fun p _=>by rw[e p])
theorem zb60 :List.toArray (List.replicate 60 (Value.bool false))=Array.replicate 60 (Value.bool false):=rfl
theorem Tryz.Bw :(prog.info? 3).map (fun i=>(i.zero,i.size,i.bytes))=some (some (.int .i64 0),1,8):=by kernel_rfl
def JI(wr:LP)(rb p:Nat)(Q:List Nat)(bx mb n:Nat)(ba:LM)(bl bc:Nat)(a b:Act)(u:LP):Prop:=
 b= {a with tmps:=((((((a.tmps.setIfInBounds 27 (.pointer (some ⟨bx,2,none⟩))).setIfInBounds 28 (.slice (some ⟨mb,0,none⟩) n n)).setIfInBounds 29 (.int .i64 (p:Int))).setIfInBounds 30 (.pointer (some ⟨mb,p,none⟩))).setIfInBounds 31 (.slice ba bl bc)).setIfInBounds 32 (.int .i64 (bl:Int))).setIfInBounds 33 (.int .i64 0)}/\gu u rb Q/\But (fun b=>b=rb) wr u
def H_(R:Nat->Nat->Prop)(n:Nat)(ps:List Nat)(w w':LP)(e:Ending):Prop:=∃(av:LM) (cv:Nat) (l:List Nat),e= .returned (.slice av l.length cv)/\m_ w' av l/\l.length<=60/\l.Pairwise (· < ·)/\(∀p,p∈l↔p<n/\mJ R ps p)/\K_ w w'
theorem wW(w:LP)(G:LM)(T:Nat)(a:List LK)(nb r:Nat)(e0 back:Nat->List Nat)(E:LK->LK->Prop)(M:Nat)(pa:LM)(pc:Nat)(ps:List Nat)(b5:∀p∈ps,p<a.length)(e2:ps.Nodup)(hn:a.length<=60)(hM:M<=60000000)(hV:pq w G a nb r e0 back)(hR:vM E a M e0 back)(hP:m_ w pa ps):
  Calls prog 73 #[.agg #[.slice G a.length T,.slice (some ⟨nb,0,none⟩) a.length a.length,.slice (some ⟨r,0,none⟩) a.length a.length],.slice pa ps.length pc] w fun e w'=>H_ (bE E a) a.length ps w w' e:=by
 have k6:ps.length<=60:=by
  have:=List.Nodup.length_le_of_subset (l₂:=List.range 60) e2 (fun Y hx=>List.mem_range.2 (JQ (b5 Y hx) hn));simpa using this
 go_enter func73,ntmps73
 go_upto_region 3 with fail
 rw (transparency:= .default) [zb60,z62];obtain⟨c,H⟩:=aj (w.alloc (.cells #[.slice G a.length T,.slice (some ⟨nb,0,none⟩) a.length a.length,.slice (some ⟨r,0,none⟩) a.length a.length] 68));have k1:K_ w c:=by rw[H];exact ag _ _
 have s0:c.cell? ⟨w.heap.size,0,none⟩=some (.slice G a.length T):=by rw[H];exact Xz w #[.slice G a.length T,.slice (some ⟨nb,0,none⟩) a.length a.length,.slice (some ⟨r,0,none⟩) a.length a.length] 68 0 _ rfl
 have s2:c.cell? ⟨w.heap.size,2,none⟩=some (.slice (some ⟨r,0,none⟩) a.length a.length):=by rw[H];exact Xz w #[.slice G a.length T,.slice (some ⟨nb,0,none⟩) a.length a.length,.slice (some ⟨r,0,none⟩) a.length a.length] 68 2 _ rfl
 have z1:w.heap.size<c.heap.size:=by rw[H];simp
 have h0:w.heap.size+1=c.heap.size:=by rw[H];simp
 obtain⟨A,Z⟩:=aj (c.alloc (.cells (Array.replicate 60 (.bool false)) 168));have k2:K_ c A:=by rw[Z];exact ag _ _
 have b6:gF A c.heap.size (fun _=>false):=by
  have h:=World.rowIs_alloc c (Array.replicate 60 (.bool false)) 168 (fun _=>.bool false) (fun i v=>by simp at v;simp[v]);rw[Array.size_replicate] at h;rw[Z];exact h
 have h1:c.heap.size+1=A.heap.size:=by rw[Z];simp
 obtain⟨W3,a8⟩:=aj (A.alloc (.cells (Array.replicate 62 (.int .i64 0)) 165));have k3:K_ A W3:=by rw[a8];exact ag _ _
 have r3:gu W3 A.heap.size []:=by
  refine⟨fun _=>0,0,by omega,by simp, ?_,fun i v=>aT v⟩;have h:=World.rowIs_alloc A (Array.replicate 62 (.int .i64 0)) 165 (kK (fun _=>0) 0 0) (fun i v=>by simp at v;simp[kK,v]);rw[Array.size_replicate] at h;rw[a8];exact h
 rw[<-H,<-Z,<-a8];obtain⟨d,e3⟩:=aj c.heap.size;obtain⟨k,e4⟩:=aj A.heap.size;have e5:w.heap.size+1=d:=by omega
 have e6:w.heap.size+1+1=k:=by omega
 rw[e6,e5];rw[<-e3] at b6;rw[<-e4] at r3;have a0:d≠k:=by omega
 have e7:Hid (c.heap.size<=d):=by show c.heap.size<=d;omega
 have b0:Hid (c.heap.size<=k):=by show c.heap.size<=k;omega
 have e8:Hid (gF W3 d (fun p=>decide (p∈ps.take 0))):=(gF.ext (ja b6 k3) (fun p=>by simp));have e9:Hid (gu W3 k (ps.take 0)):=r3;have f0:=Kz (k2.trans k3);have b1:=Kz k1;have b7:Hid (∀u,K_ c u->u.cell? ⟨w.heap.size,0,none⟩=some (.slice G a.length T)/\u.cell? ⟨w.heap.size,2,none⟩=some (.slice (some ⟨r,0,none⟩) a.length a.length)):=fun u b2=>⟨(b2.cell z1).trans s0,(b2.cell z1).trans s2⟩
 clear H Z a8 e5 e6 b6 r3 k1 k2 k3 h0 h1 e3 e4 s0 s2 z1;go_wp2
 go_loopw [15] (fun Y wr=>∃i:Nat,i<=ps.length/\Y= .int .i64 (i:Int)/\Hid (gF wr d (fun p=>decide (p∈ps.take i)))/\Hid (gu wr k (ps.take i))/\Hid (K_ c wr)) (fun Y _=>ps.length-(intOf Y).toNat)
 case atStart=>exact⟨0,JR _,rfl,e8,e9,f0⟩
 case round=>
  clear e8 e9 f0;obtain⟨i,v,rfl,l,t,m⟩:=hrel;by_cases I:i<ps.length
  ·obtain⟨pb,po,e1,k7,h2⟩:=(hP.kept (b1.o.trans m.o)) i I;subst e1;obtain⟨p,hp⟩:=aj (ps.getD i 0);rw[<-hp] at h2;have b8:ps[i]=p:=by rw[hp];simp[List.getD,I]
   have f1:p<a.length:=b5 p (by rw[<-b8];exact J_ I);have a1:Hid (ps.take (i+1)=ps.take i++ [p]):=by show _=_;rw[JX I,b8]
   have h3:(i:Int)<(ps.length:Int):=by omega
   have k8:(p:Int)<60:=by omega
   have cp:=l.o.cell (show p<60 by omega);have fp:=l.o.frozen p;have x:=Kz (gF.put l.o p);have J:Hid (K_ c (wr.setCell ⟨d,p,none⟩ (.bool true))):=(But.set (S:=fun b=>b=d) (But.aF (K_.refl wr)) (p:=⟨d,p,none⟩) rfl _).kept m.o (fun b e=>by rw[e];exact e7.o);have L:=Kz (t.o.block (w':=wr.setCell ⟨d,p,none⟩ (.bool true)) (Below.heap_setCell _ _ _ _ (fun e=>a0 (Eq.symm e))));have h4:(ps.take i).length<60:=by rw[Kt];omega
   clear hp b8;go_upto_region 7 with fail
   generalize b9:wr.setCell ⟨d,p,none⟩ (.bool true)=w7 at x J L⊢;clear b9 cp fp;go_wp2_with fail
   refine (uh w7 k (ps.take i) p L.o h4).mono ?_;rintro e U ⟨rfl,a2,N⟩;have c0:Hid (gu U k (ps.take (i+1))):=by rw[a1.o];exact a2
   have c1:Hid (gF U d (fun n=>decide (n∈ps.take (i+1)))):=by
    refine gF.ext (dm x.o (N.block _ (dC x.o) (fun e=>a0 e))) (fun n=>?_);rw[a1.o];by_cases e:n=p
    ·simp[e]
    ·simp[e]
   have c2:Hid (K_ c U):=N.kept J.o (fun b e=>by rw[e];exact b0.o);clear a2 N x J L;go_wp2
   go_roundw
   case rel=>exact⟨i+1,by omega,by go_num,c1,c0,c2⟩
   case measure=>simp[intOf];omega
  have c3:i=ps.length:=by omega
  have f2:Hid (uq (bE E a) ps (fun p=>decide (p∈ps)) ps):=uq.start _ e2;have f3:Hid (gF wr d (fun p=>decide (p∈ps))):=by have h:=l.o;rw[c3,KI] at h;exact h
  have O:Hid (gu wr k ps):=by have h:=t.o;rw[c3,KI] at h;exact h
  have h5:¬((i:Int)<(ps.length:Int)):=by omega
  clear l t c3 I;go_wp2_with fail
  clear h5;go_loopg [10] (2*jw (fun p=>decide (p∈ps))+ps.length) (fun gg f4 wr=>∃(S:Nat->Bool) (Q:List Nat),Hid (2*jw S+Q.length=gg)/\Hid (gF wr d S)/\Hid (gu wr k Q)/\Hid (uq (bE E a) ps S Q)/\Hid (∀p∈Q,p<a.length)/\Hid (K_ c wr)/\f4=f4)
  case atStart=>exact⟨_,ps,Kz rfl,f3,O,f2,Kz b5,m,rfl⟩
  case round=>
   clear f3 O f2 m;obtain⟨S,Q,V,l,t,HB,B,m,_⟩:=hrel;have c4:=t.o.size;cases Q with
   | nil=>
    have f5:wr.cell? ⟨k,61,none⟩=some (.int .i64 0):=c4;clear c4;obtain⟨q0,q2⟩:=b7.o _ m.o;have f6:=l;have f7:=Kz (b1.o.trans m.o);obtain⟨b3,f8⟩:=aj wr;rw[<-f8] at f6 f7 q0 q2 f5⊢;clear f8;have h6:Hid (∀p,S p=true↔mJ (bE E a) ps p):=HB.o.whole;go_wp2_with fail
    clear q0 q2 f5;go_loopw [11,49] (fun h7 c5 wr=>∃(i:Nat) (C:LM) (P:Nat),i<=a.length/\c5= .int .i64 (i:Int)/\h7= .slice C ((List.range i).filter S).length P/\Hid (gF wr d S)/\Hid (wr.ownsRow b3.heap.size 3 1 (.slice C ((List.range i).filter S).length P) ((List.range i).filter S).length (((List.range i).filter S).map ig))/\Hid (K_ b3 wr)) (fun _ c5 _=>a.length-(intOf c5).toNat)
    case atStart=>exact⟨0,none,0,JR _,rfl,rfl,f6,Ld _ _ _ _,Kz (K_.refl _)⟩
    case round=>
     obtain⟨i,C,P,v,rfl,rfl,c6,HO,c7⟩:=hrel;obtain⟨y,hl⟩:=aj ((List.range i).filter S);have h8:y.length<=60:=by rw[hl];have:=List.length_filter_le S (List.range i);rw[List.length_range] at this;omega
     rw[<-hl] at HO⊢;have c8:=Kz hl;clear hl;by_cases I:i<a.length;rotate_left
     ·have k9:¬((i:Int)<(a.length:Int)):=by omega
      have h9:Hid (i=a.length):=by show i=a.length;omega
      have i0:Hid (m_ wr C y):=by
       obtain⟨a9,c9,f9,_,g0⟩:=mF HO.o rfl;simp only[KX,true_and] at f9;rw[<-f9.1] at g0;exact g0
      clear I;go_wp2
      go_ret
      refine⟨C,P,y,rfl,i0.o,h8, ?_,fun p=>?_,f7.o.trans c7.o⟩
      ·rw[c8.o];exact List.Pairwise.filter _ List.pairwise_lt_range
      ·rw[c8.o,List.mem_filter,List.mem_range,h9.o,h6.o]
     have h3:(i:Int)<(a.length:Int):=by omega
     have l0:(i:Int)<60:=by omega
     have ci:=c6.o.cell (show i<60 by omega);have b4:Hid ((List.range (i+1)).filter S=if S i=true then y++ [i] else y):=by
      show _=_;rw[List.range_succ,List.filter_append,<-c8.o];cases R:S i <;> simp[R]
     cases W:S i
     ·rw[W] at ci;go_wp2
      go_roundw
      case rel=>exact⟨i+1,C,P,by omega,by go_num,by rw[b4.o,W];rfl,c6,Kz (by rw[b4.o,W];exact HO.o),c7⟩
      case measure=>simp[intOf];omega
     ·rw[W] at ci;obtain⟨ic,i1,i2,i3,i4⟩:=info_parts Tryz.Bw;have ka:K_ wr (wr.alloc (.cells #[.int .i64 (i:Int)] 3)):=ag _ _;have d0:=Kz (ai HO.o ka);have g1:=Kz (c7.o.trans ka);have i5:b3.heap.size<=(wr.alloc (.cells #[.int .i64 (i:Int)] 3)).heap.size:=g1.o.size;have d1:Hid (∀j u,([.int .i64 (i:Int)]:List LQ)[j]? =some u->(wr.alloc (.cells #[.int .i64 (i:Int)] 3)).cell? ((⟨wr.heap.size,0,none⟩:Addr).add j)=some u):=fun j u hu=>by rw[KZ];exact Xz wr #[.int .i64 (i:Int)] 3 j u hu
      have i6:Hid (∀u∈([.int .i64 (i:Int)]:List LQ),u.oneCell'=true):=fun u hu=>by simp only[Lb,Lc,or_false] at hu;subst hu;rfl
      have d2:=Kz (ja c6.o ka);clear ka;go_wp2_with (at_builtin;refine wpList_append_own _ rfl (.tmp 55) (.tmp 57) 52 rfl b3.heap.size 3 ic _ 1 8 underlying52 i1 i2 i3 i4 rfl (by decide) (.slice C y.length P) y.length (y.map ig) rfl d0.o ⟨wr.heap.size,0,none⟩ 1 1 [.int .i64 (i:Int)] rfl rfl d1.o i6.o (by unfold maxLen;omega) (by omega) i5 ?_;intro v' w6 d3 d4 _;have KP:=aG g1.o (JP _) d0.o d4;have i7:Hid (gF w6 d S):=dm d2.o ((But.aI (S:=fun b=>(Value.slice C y.length P).ownBlock=some b) d4 (fun b e=>e)).block _ (dC d2.o) (fun e=>bi (eX d2.o) (Yz d0.o e) (by decide) rfl));have i8:=Kz d3;obtain⟨i9,j0,rfl⟩:=ax d3;clear d3 d4)
      go_roundw
      case rel=>exact⟨i+1,i9,j0,by omega,by go_num,by rw[b4.o,W];simp,i7,Kz (by rw[b4.o,W];simp only[if_true,KS,LA];exact i8.o),Kz KP⟩
      case measure=>simp[intOf];omega
   | cons p Q=>
    have j1:(0:Int)<((p :: Q).length:Int):=by simp
    have f1:p<a.length:=B.o p (by simp);obtain⟨ba,bc,g2,g3⟩:=hV.bwd p f1;obtain⟨q0,q2⟩:=b7.o _ m.o;have j2:Hid (r<w.heap.size):=hV.mbl;have a3:Hid (∀u,But (fun b=>b=k) wr u->u.cell? ⟨w.heap.size,2,none⟩=some (.slice (some ⟨r,0,none⟩) a.length a.length)/\u.cell? ⟨r,p,none⟩=some (.slice ba (back p).length bc)):=fun u b2=>by
     have kk:K_ c u:=b2.kept m.o (fun b e=>by rw[e];exact b0.o);exact⟨(b7.o u kk).2,((b1.o.trans kk).cell j2.o).trans g2⟩
    have l1:(p:Int)<(a.length:Int):=by omega
    have l2:=(hR.len p).2;have j3:=Kz g3;clear g3 g2 q0;go_upto_region 10 with fail
    refine sO (JI wr k p Q w.heap.size r a.length ba (back p).length bc) ?_ ?_
    ·refine iF 5 a3.o (But.aF (aL wr)) (fun q=>?_);have d5:Hid (gu wr.drew k (p :: Q)):=t.o.block (w':=wr.drew) rfl;have d6:Hid (But (fun b=>b=k) wr wr.drew):=But.aF (aL wr);generalize j4:wr.drew=wd at q d5 d6⊢;clear j4;refine af 0 q ?_;refine af 1 q ?_;refine dx 2 6 (fun K f=>?_) (fun K f=>?_)
     ·rw[Lt (by rfl)];go_simp
      go_at_call 116
      refine (vB wd k Q p d5.o).mono ?_;rintro e w1 ⟨rfl,a4,a5⟩;have D:=Kz (But.trans d6.o a5);have O:=Kz a4;clear a4 a5;dsimp only;refine f.out _ _ (fun _=>a3.o _ D.o) ?_;clear f K q;have q:=a3.o _ D.o;try simp only[upP]
      refine af 3 q ?_;refine af 4 q ?_;refine dx 5 6 (fun K f=>?_) (fun K f=>?_)
      ·go_simp
       refine ae f (fun h=>Lv rfl h) ?_;clear f K;refine ah 6 (fun K f=>?_);go_simp
       refine ae f (fun _=>q) ?_;clear f K;refine aB ?_;refine⟨rfl, ?_,O.o,D.o⟩;simp only[List.setIfInBounds_toArray,List.set_cons_zero,Lg]
      ·go_simp
       refine ae f (fun _=>q) ?_;clear f K;refine ah 5 (fun K f=>?_);go_simp
       refine ae f (fun h=>Lv rfl h) ?_;clear f K;refine aB ?_;refine⟨rfl, ?_,O.o,D.o⟩;simp only[List.setIfInBounds_toArray,List.set_cons_zero,Lg]
     ·go_simp
      refine ae f (fun _=>q) ?_;clear f K;refine ak 2 (fun K f=>?_);go_simp
      go_at_call 116
      refine (vB wd k Q p d5.o).mono ?_;rintro e w1 ⟨rfl,a4,a5⟩;have D:=Kz (But.trans d6.o a5);have O:=Kz a4;clear a4 a5;dsimp only;refine f.out _ _ (fun _=>a3.o _ D.o) ?_;clear f K q;have q:=a3.o _ D.o;try simp only[upP]
      refine af 3 q ?_;refine af 4 q ?_;refine ah 5 (fun K f=>?_);go_simp
      refine ae f (fun h=>Lv rfl h) ?_;clear f K;refine aB ?_;refine⟨rfl, ?_,O.o,D.o⟩;simp only[List.setIfInBounds_toArray,List.set_cons_zero,Lg]
    rintro b u ⟨rfl,g4,d7⟩;simp only[List.setIfInBounds_toArray,List.set_cons_zero,Lg];have g5:=Kz g4;have g6:Hid (gF u d S):=dm l.o (d7.block _ (dC l.o) (fun e=>a0 e));have g7:Hid (K_ c u):=d7.kept m.o (fun b e=>by rw[e];exact b0.o);have F:=Kz HB.o.take;have g8:Hid (∀n∈Q,n<a.length):=fun n hq=>B.o n (Kl _ hq)
    have g9:Hid (2*jw S+Q.length<gk):=by have h:=V.o;rw[KY] at h;show 2*jw S+Q.length<gk;omega
    clear g4 d7 c4 j1 l t HB B m V q2;go_wp2
    go_loopw [33] (fun d8 wr=>∃(j:Nat) (S:Nat->Bool) (Q:List Nat),d8= .int .i64 (j:Int)/\j<=(back p).length/\Hid (2*jw S+Q.length<gk)/\Hid (gF wr d S)/\Hid (gu wr k Q)/\Hid (lw (bE E a) ps p ((back p).take j) S Q)/\Hid (∀n∈Q,n<a.length)/\Hid (K_ c wr)) (fun d8 _=>(back p).length-(intOf d8).toNat)
    case atStart=>exact⟨0,S,Q,rfl,JR _,g9,g6,g5,F,g8,g7⟩
    case round=>
     clear g9 g6 g5 F g8 g7;obtain⟨j,S,Q,rfl,hj,V,l,t,F,B,m⟩:=hrel;by_cases a6:j<(back p).length;rotate_left
     ·have l3:¬((j:Int)<((back p).length:Int)):=by omega
      have j5:Hid (uq (bE E a) ps S Q):=F.o.ends (fun s R=>by rw[KJ (by omega)];exact (hR.bwd s p).2 R);clear a6;go_wp2
      go_roundg (2*jw S+Q.length)
      case measure=>exact V.o
      case rel=>exact⟨S,Q,Kz rfl,l,t,j5,B,m,trivial⟩
     obtain⟨xb,xo,e1,l4,j6⟩:=(j3.o.kept (b1.o.trans m.o)) j a6;subst e1;obtain⟨s,R⟩:=aj ((back p).getD j 0);rw[<-R] at j6;have d9:(back p)[j]=s:=by rw[R];simp[List.getD,a6]
     have HE:Hid (bE E a s p):=(hR.bwd s p).1 (by rw[<-d9];exact J_ a6);have j7:s<a.length:=HE.o.1;have a1:Hid ((back p).take (j+1)= (back p).take j++ [s]):=by show _=_;rw[JX a6,d9]
     have l5:(j:Int)<((back p).length:Int):=by omega
     have cs:=l.o.cell (show s<60 by omega);have l6:(s:Int)<60:=by omega
     clear R d9;cases X:S s;rotate_left
     ·rw[X] at cs;have j8:=Kz (F.o.old X);go_wp2
      go_roundw
      case rel=>exact⟨j+1,S,Q,by go_num,by omega,V,l,t,Kz (by rw[a1.o];exact j8.o),B,m⟩
      case measure=>simp[intOf];omega
     rw[X] at cs;have d1:=Kz (F.o.new HE.o X);have j9:Q.length<60:=ut F.o.nd (fun n hq=>JQ (B.o n hq) hn) (show s<60 by omega) (fun h=>by have:=F.o.q s h;rw[X] at this;cases this);have k0:=Kz (zP (show s<60 by omega) X);have fs:=l.o.frozen s;have x:=Kz (gF.put l.o s);have J:Hid (K_ c (wr.setCell ⟨d,s,none⟩ (.bool true))):=(But.set (S:=fun b=>b=d) (But.aF (K_.refl wr)) (p:=⟨d,s,none⟩) rfl _).kept m.o (fun b e=>by rw[e];exact e7.o);have L:=Kz (t.o.block (w':=wr.setCell ⟨d,s,none⟩ (.bool true)) (Below.heap_setCell _ _ _ _ (fun e=>a0 (Eq.symm e))));go_upto_region 15 with fail
     generalize b9:wr.setCell ⟨d,s,none⟩ (.bool true)=w7 at x J L⊢;clear b9 fs cs;go_wp2_with fail
     refine (uh w7 k Q s L.o j9).mono ?_;rintro e U ⟨rfl,a2,N⟩;have c0:=Kz a2;have c1:Hid (gF U d (fun a7=>if a7=s then true else S a7)):=dm x.o (N.block _ (dC x.o) (fun e=>a0 e));have c2:Hid (K_ c U):=N.kept J.o (fun b e=>by rw[e];exact b0.o);have k4:Hid (2*jw (fun a7=>if a7=s then true else S a7)+ (Q++ [s]).length<gk):=by
      have l7:=k0.o;have l8:=V.o;rw[KS];simp only[KY,List.length_nil];show _<_;omega
     have k5:Hid (∀n∈Q++ [s],n<a.length):=fun n hq=>by
      rcases JZ.1 hq with h|h
      ·exact B.o n h
      ·rw[JY] at h;rw[h];exact j7
     clear a2 N x J L;go_wp2
     go_roundw
     case rel=>exact⟨j+1,_,_,by go_num,by omega,k4,c1,c0,Kz (by rw[a1.o];exact d1.o),k5,c2⟩
     case measure=>simp[intOf];omega
