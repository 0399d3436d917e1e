import Derived.Test.YtjbipapbckajnaaGreatDoorKXNext
import Derived.RangeFuncWrites
import Derived.RangeFuncCalls
import Derived.Shelf.RegionOpen
import Derived.OwnWalkIn
import Derived.LoopNIn
import Derived.LoopIn
set_option maxRecDepth 100000
set_option maxHeartbeats 25600000
namespace Go.Proofs.YtjbipapbckajnaaGreatDoor
open Go.RowKit Go.Proofs.Tryz
theorem BQ(w:NI)(a:NH)(g3:Nat)(l:List Q_)(r:Q_)(xa:NH)(xc:Nat)(hl:l.length<=100000)(i5:r.texts.length<=1000)(hr:df l)(P:Nat->Prop)(d6:∀b,w.heap.size<=b->P b)(hS:mX w P a l)(hT:Strs w xa r.texts)(hX:xa=none->xc=0):
  Calls prog 71 #[.slice a l.length g3,.agg #[.string r.name,.bool r.over,.bool r.fail,.string r.text,.a r.at',.a r.Zq,.slice xa r.texts.length xc]] w
   λe w'=>∃v,e= .returned v/\Iu w w' P v (cZ l r)/\K_ w w':=by
 have⟨d7,g4,d8⟩:=dF hX hr d6;clear hX hr d6;obtain⟨d,M⟩:=aj (w.alloc (.cells #[.string r.name,.bool r.over,.bool r.fail,.string r.text,.a r.at',.a r.Zq,.slice xa r.texts.length xc] 40));have kB:K_ w d:=by rw[M];exact ah _ _
 have g5:w.heap.size+1<=d.heap.size:=by rw[M];simp
 have d9:jM d w.heap.size r xa xc:=by
  rw[M];exact⟨aD.made w #[.string r.name,.bool r.over,.bool r.fail,.string r.text,.a r.at',.a r.Zq,.slice xa r.texts.length xc] 40,X_ w _ _⟩
 have⟨a5,G⟩:=aH kB d9;clear kB d9;go_enter func71,ntmps71
 go_upto_region 1 with fail
 rw[<-M];clear M;have a6:Hid (K_ d (d.alloc (.cells #[] 9))):=ah _ _;have a7:Hid ((d.alloc (.cells #[] 9)).ownsRow d.heap.size 9 1 (.b d.heap.size 0 0) 0 (([]:List NG).map Value.string)):=ML d #[] 0 (Me _) (Mg _) rfl;obtain⟨ic,b7,e0,e1,e2⟩:=aU Tryz.eD;go_cut [3] from 8 to 57 (λs3 F=>∃m y,s3= .c w.heap.size/\K_ w F/\jM F w.heap.size r m y/\Strs F m r.texts/\(m=none->y=0)/\(∀z:Addr,m=some z->P z.block))
 case first=>
  obtain⟨q0,q1,q2,q3,q4,q5,q6⟩:=G.o.all;have qz:=G.o.row.lt;obtain⟨_,g6⟩:=G.o.row.row.at (i:=6) E5;rcases (show xa=none\/∃z,xa=some z from by cases xa with|none=>exact .inl rfl|some x=>exact .inr ⟨x,rfl⟩) with rfl|⟨z,rfl⟩
  .have h0:r.texts=[]:=by
    cases g7:r.texts with
    | nil=>rfl
    | cons t ts=>exfalso;obtain⟨b,o,e,_⟩:=hT 0 (by rw[g7];simp);cases e
   have e3:=d7.o rfl;have e4:d.cell? ⟨w.heap.size,6,none⟩=some M0:=by rw[q6,h0,e3];rfl
   have H0:=Kz h0;clear q6 h0 e3;have q6:=e4;clear e4;go_wp2_with (at_builtin;refine wpList_append_own_none _ rfl (.tmp 8) (.tmp 10) 26 rfl d.heap.size 9 ic 1 underlying26 b7 (.b d.heap.size 0 0) 0 [] rfl a7.o rfl ?_)
   go_meet
   exact⟨_,_,rfl,K_.alloc (Below.setCell a5.o (p:=⟨w.heap.size,6,none⟩) (Me _) _) _,(G.o.put (xa':=some ⟨d.heap.size,0,none⟩) (xc':=0) E5 (by simp[Q_.cells,H0.o])).kept (ah _ _),(λa8 hi=>by rw[H0.o] at hi;cases hi),(λe=>by cases e),λz e=>by cases e;exact d8.o _ (by show w.heap.size<=d.heap.size;omega)⟩
  .have g8:Hid (∀p u,(r.texts.map Value.string)[p]? =some u->(d.alloc (.cells #[] 9)).cell? (z.add p)=some u):=λp u q=>by
    have hj:p<r.texts.length:=by have:=(Mk.1 q).1;simpa using this
    obtain⟨b,o,e,i,s⟩:=(hT.kept (a5.o.trans a6.o)) p hj;simp only[MV] at e;subst e;rw[MZ,s];simp[hj] at q;simp[List.getD,hj,q]
   have g9:Hid (∀u∈r.texts.map Value.string,u.oneCell'=true):=λu q=>by obtain⟨x,_,rfl⟩:=MH.1 q;rfl
   have h1:d.heap.size<=(d.alloc (.cells #[] 9)).heap.size:=a6.o.size;go_wp2_with (at_builtin;refine wpList_append_own _ rfl (.tmp 8) (.tmp 10) 26 rfl d.heap.size 9 ic _ 1 16 underlying26 b7 e0 e1 e2 rfl E8 (.b d.heap.size 0 0) 0 [] rfl a7.o z r.texts.length xc (r.texts.map Value.string) rfl E9 g8.o g9.o F5 E5 h1 ?_;intro v1 w8 a9 e5 _;rw[MM,List.nil_append] at a9;have e6:=aK a6.o (Me _) a7.o e5;have h2:=Kz a9;obtain⟨h4,h5,rfl⟩:=ay a9;have b0:=Kz (G.o.kept e6);have i6:=b0.o.all.2.2.2.2.2.2;have i7:=b0.o.row.lt;obtain⟨_,i8⟩:=b0.o.row.row.at (i:=6) E5;clear a9 e5)
   go_meet
   obtain⟨m,y,ev,b1,N,b2⟩:=FD (c:=w.heap.size) (p:=6) (u:= .slice h4 r.texts.length h5) h2.o E5;simp only[MW] at ev;obtain⟨rfl,_,rfl⟩:=ev;exact⟨_,_,rfl,Below.setCell (a5.o.trans e6) (p:=⟨w.heap.size,6,none⟩) (Me _) _,b0.o.put E5 rfl,b1,N,λz e=>d8.o _ (Mh E5 (b2 z e))⟩
 case rest=>
  obtain⟨m,y,rfl,k2,b8,b1,e7,b2⟩:=hcut;obtain⟨f,rfl⟩:=aj wc;obtain⟨b9,c7,c8,N,c9⟩:=aU Tryz.si;have H:=Kz b8;have h6:=Kz (hS.kept k2);have⟨b3,e8,e9,f0⟩:=mM k2 b1 e7 b2;have i9:=b8.row.lt;clear b1 e7 b2 b8 k2 hS hT d7 a5 G a6 a7 b7 e0 e1 e2 g5;go_wp2
  go_loopw [5,6,7] (λout dn a8 wr=>∃k:Nat,k<=l.length/\a8= .a k/\dn= .bool (sW l r k).2/\Kt f wr P out (sW l r k)) (λ_ _ a8 _=>l.length-(intOf a8).toNat)
  case atStart=>
   exact⟨0,Mg _,rfl,rfl,[],ML f #[] 0 (Me _) (Mg _) rfl,bD.nil _ _,ah _ _⟩
  case round=>
   obtain⟨k,hk,rfl,d0,xs,A,B,C⟩:=hrel;have f1:=BB (l:=l) (r:=r) hk;obtain⟨h7,hp⟩:=aj (sW l r k);rw[<-hp] at d0 A B f1;obtain⟨h,j⟩:=h7;dsimp only at d0 A B f1;subst d0;have⟨O,Q,f2⟩:=dF B A hp;clear B A hp;obtain⟨R,S,T,U,V,W,X⟩:=(H.o.kept C).all;have Y:=(H.o.kept C).row.lt;have hz:=C.size;by_cases f3:k<l.length
   .obtain⟨b,o,xa,ca,rfl,i,s,d1,f4,f5⟩:=h6.o k f3;have d2:=Kz (za (r:=r) f3);obtain⟨x,hx⟩:=aj (l.getD k Q_.zero);rw[<-hx,<-f2.o] at d2;rw[<-hx] at s d1;have HC:Hid (∀w',K_ f w'->b<w'.heap.size/\w'.cell? ⟨b,o+k*7,none⟩=some (.string x.name)/\w'.cell? ⟨b,o+k*7+1,none⟩=some (.bool x.over)/\w'.cell? ⟨b,o+k*7+2,none⟩=some (.bool x.fail)/\w'.cell? ⟨b,o+k*7+3,none⟩=some (.string x.text)/\w'.cell? ⟨b,o+k*7+4,none⟩=some (.a x.at')/\w'.cell? ⟨b,o+k*7+5,none⟩=some (.a x.Zq)/\w'.cell? ⟨b,o+k*7+6,none⟩=some (.slice xa x.texts.length ca)):=λw' K=>⟨Mf i K.size,(K.cell i).trans (s 0 _ rfl),(K.cell i).trans (s 1 _ rfl),(K.cell i).trans (s 2 _ rfl),(K.cell i).trans (s 3 _ rfl),(K.cell i).trans (s 4 _ rfl),(K.cell i).trans (s 5 _ rfl),(K.cell i).trans (s 6 _ rfl)⟩
    have⟨h8,h9,i0⟩:=dF d1 f4 f5;clear s d1 f4 f5 hx;obtain⟨i,c0,c1,c2,c3,c4,c5,c6⟩:=HC.o wr C;have j0:(k:Int)<(l.length:Int):=E5;go_upto_region 7 with fail
    go_cut [31] from 14 to 50 (λc F=>c= .bool (!j && !Op.bytesLess x.name.toList r.name.toList)/\∃n,F=wr.drewN n)
    case first=>
     cases j
     .cases b4:Op.bytesLess x.name.toList r.name.toList
      .go_quiet (fail)
       go_wp2
       go_meet
       exact⟨by rw[b4];rfl,nq,rfl⟩
      .go_quiet (fail)
       go_wp2
       go_meet
       exact⟨by rw[b4];rfl,nq,rfl⟩
     .go_quiet (fail)
      go_wp2
      go_meet
      exact⟨rfl,nq,rfl⟩
    case rest=>
     obtain⟨rfl,nq,d3⟩:=hcut;obtain⟨wq,rfl⟩:=aj wc;have Z:K_ f wq:=(by rw[d3];exact C.drewN nq);have b5:Hid (wq.ownsRow f.heap.size 40 7 u5 h.length xs):=(by rw[d3];exact Q.o);clear R S T U V W X Y d3 c0 c1 c2 c3 c4 c5 c6 i;obtain⟨R,S,T,U,V,W,X⟩:=(H.o.kept Z).all;have Y:=(H.o.kept Z).row.lt;have j1:=Z.size;obtain⟨cb,d4⟩:=aj ((!j && !Op.bytesLess x.name.toList r.name.toList));rw[<-d4];have d5:=Kz d4;clear d4;go_upto_if 31 with fail
     go_cut [5,6] from 14 to 50 (λo6 i1 F=>i1= .bool (qB r (h,j) x).2/\Kt f F P o6 (qB r (h,j) x))
     case first=>
      cases cb
      .go_wp2
       go_meet
       have e:qB r (h,j) x= (h,j):=(by unfold qB;rw[if_neg];rintro⟨f6,i2⟩;have h3:=d5.o;dsimp only at f6;rw[f6,i2] at h3;cases h3);rw[e];exact⟨rfl,xs,b5.o,O.o,Z⟩
      .go_wp2_with (at_builtin;refine wpList_append_own _ rfl (.tmp 32) (.tmp 34) 30 rfl f.heap.size 40 b9 _ 7 80 underlying30 c7 c8 N c9 rfl E8 _ h.length _ rfl (ak b5.o G8) ⟨wq.heap.size,0,none⟩ 1 1 (r.cells m y) rfl rfl (λp u q=>(by rw[MZ];exact X_ wq (r.cells m y).toArray 40 p u (by simpa using q))) (Q_.one r m y) F5 E5 F6 ?_;intro v6 a0 D E _;have I:K_ f a0:=aK (Z.trans G8) E5 (ak b5.o G8) E;have a1:=Kz D;clear D E)
       go_meet
       have e:qB r (h,j) x= (h++ [r],true):=(by unfold qB;rw[Nt];have h3:=d5.o;cases j <;> cases b4:Op.bytesLess x.name.toList r.name.toList <;> simp[b4] at h3⊢);rw[e];exact⟨rfl,_,(by rw[MU];exact a1.o),O.o.snoc e8.o e9.o f0.o,I⟩
     case rest=>
      obtain⟨rfl,f7,A,B,J⟩:=hcut;obtain⟨wt,rfl⟩:=aj wc;have f8:(qB r (h,j) x).1.length<=h.length+1:=by unfold qB;split <;> simp
      have a2:Hid (sW l r (k+1)=xU r (qB r (h,j) x) x):=d2.o;obtain⟨i3,hq⟩:=aj (qB r (h,j) x);rw[<-hq] at A B f8 a2⊢;obtain⟨L,qd⟩:=i3;dsimp only at A B f8;dsimp only;have⟨f9,g0⟩:=aH B A;clear B A hq R S T U V W X Y d2 O Q b5 d5;obtain⟨R,S,T,U,V,W,X⟩:=(H.o.kept J).all;have Y:=(H.o.kept J).row.lt;have j2:=J.size;obtain⟨i,c0,c1,c2,c3,c4,c5,c6⟩:=HC.o wt J;clear S T U V W X c1 c2 c3 c4 c5 c6;cases g1:(x.name.toList == r.name.toList)
      .have a3:xU r (L,qd) x= (L++ [x],qd):=by unfold xU;rw[g1];rfl
       have a4:=Kz a3;clear a3;go_upto_region 10 with fail
       go_quiet (fail)
       obtain⟨wv,b6⟩:=aj (wt.drewN nq);rw[<-b6];have KV:K_ f wv:=(by rw[b6];exact J.drewN _);have g2:Hid (wv.ownsRow f.heap.size 40 7 u5 L.length f7):=(by rw[b6];exact g0.o);clear R Y b6 c0 i;obtain⟨i,c0,c1,c2,c3,c4,c5,c6⟩:=HC.o wv KV;have j3:=KV.size;go_wp2_with (at_builtin;refine wpList_append_own _ rfl (.tmp 44) (.tmp 49) 30 rfl f.heap.size 40 b9 _ 7 80 underlying30 c7 c8 N c9 rfl E8 _ L.length _ rfl (ak g2.o G8) ⟨wv.heap.size,0,none⟩ 1 1 (x.cells xa ca) rfl rfl (λp u q=>(by rw[MZ];exact X_ wv (x.cells xa ca).toArray 40 p u (by simpa using q))) (Q_.one x xa ca) F5 E5 F6 ?_;intro v6 a0 D E _;have I:K_ f a0:=aK (KV.trans G8) E5 (ak g2.o G8) E;have a1:=Kz D;clear D E)
       go_roundw
       case rel=>exact⟨k+1,E5,F3,by rw[a2.o,a4.o],by rw[a2.o,a4.o];exact⟨_,(by rw[MU];exact a1.o),f9.o.snoc h8.o h9.o i0.o,I⟩⟩
       case measure=>simp[intOf];omega
      .have a3:xU r (L,qd) x= (L,qd):=by unfold xU;rw[g1];rfl
       have a4:=Kz a3;clear a3;go_upto_region 10 with fail
       go_quiet (fail)
       go_wp2
       go_roundw
       case rel=>exact⟨k+1,E5,F3,by rw[a2.o,a4.o],by rw[a2.o,a4.o];exact⟨f7,g0.o,f9.o,J.drewN _⟩⟩
       case measure=>simp[intOf];omega
   .have i4:k=l.length:=E5;subst i4;have HE:=Kz (JB (r:=r) g4.o);rw[<-f2.o] at HE;cases j
    .go_wp2_with (at_builtin;refine wpList_append_own _ rfl (.tmp 53) (.tmp 55) 30 rfl f.heap.size 40 b9 _ 7 80 underlying30 c7 c8 N c9 rfl E8 _ h.length _ rfl (ak Q.o G8) ⟨wr.heap.size,0,none⟩ 1 1 (r.cells m y) rfl rfl (λp u q=>(by rw[MZ];exact X_ wr (r.cells m y).toArray 40 p u (by simpa using q))) (Q_.one r m y) F5 E5 F6 ?_;intro v6 a0 D E _;have I:K_ f a0:=aK (C.trans G8) E5 (ak Q.o G8) E;have a1:=Kz D;clear D E)
     go_ret
     have e:cZ l r=h++ [r]:=by rw[<-HE.o];rfl
     rw[e];exact⟨v6,rfl,⟨f,_,b3.o,I,(by rw[MU];exact a1.o),O.o.snoc e8.o e9.o f0.o⟩,b3.o.trans I⟩
    .go_wp2
     go_ret
     have e:cZ l r=h:=by rw[<-HE.o];rfl
     rw[e];exact⟨_,rfl,⟨f,xs,b3.o,C,Q.o,O.o⟩,b3.o.trans C⟩
theorem Tryz.qR :(prog.info? 32).map (·.size)=some 2:=F4
variable {xs : List NJ} {w : NI}
theorem bD.set{P:Nat->Prop}{l:List Q_}{c p:Nat}(h:bD w P xs l)(d:∀b,P b->b≠c)(u:NJ):bD (w.setCell ⟨c,p,none⟩ u) P xs l:=by
 refine⟨h.1,λi e=>?_⟩;obtain⟨f,j,k,m,n,a⟩:=h.2 i e;refine⟨f,j,k,(λq r=>?_),n,a⟩;obtain⟨b,o,rfl,s,t⟩:=m q r;exact⟨b,o,rfl,by rw[size_setCell];exact s,by rw[Zj (d b (a _ rfl))];exact t⟩
variable {base n size : Nat} {t : TypeId} {w' : NI}
theorem IY{b m:Nat}{e:TypeId}{v:NJ}(h:w.ownsRow base e size v n xs)(k:Xj b (b+1) w w')(d:aD w b t m)(f:t≠e):w'.ownsRow base e size v n xs:=by
 refine⟨h.1, ?_⟩;rcases h.2 with a|⟨g,i,j,rfl,l,c,rest⟩
 .exact .inl a
 .refine .inr ⟨g,i,j,rfl,l, ?_,rest⟩;have p:g≠b:=by
   rintro rfl;obtain⟨q,a,_⟩:=d;rw[c] at a;simp only[MV,Obj.cells.injEq] at a;exact f a.2.1.symm
  rw[k.block g (aN c) E5];exact c
variable {l : List NG}
theorem bK{v:NJ}(h:w.ownsRow base t 1 v n (l.map Value.string)):∃a b,v= .slice a l.length b/\Strs w a l:=by
 have d:n=l.length:=by have:=h.1;simp at this;omega
 subst d;rcases h.2 with⟨rfl,e⟩|⟨g,b,j,rfl,k,f,m,_,_,_⟩
 .exact⟨none,0,by rw[e],λi c=>E5⟩
 .refine⟨_,b,rfl,λi c=>⟨g,0,rfl,aN f, ?_⟩⟩;have:=h.cells (g:=g) rfl i (.string (l.getD i ByteArray.empty)) (by simp[List.getD,c]);rw[MZ] at this;exact this
structure StX (W1 wr:NI) (sb:Nat) (ra:NH) (n rc:Nat) (d:NH) (t:List Q_) (dc:Nat) (xs:List NJ):Prop where
 kb:Xj sb (sb+1) W1 wr
 row:aD wr sb 32 2
 Kj:wr.cell? ⟨sb,0,none⟩=some (.slice ra n rc)
 runs:wr.cell? ⟨sb,1,none⟩=some (.slice d t.length dc)
 own:wr.ownsRow W1.heap.size 40 7 (.slice d t.length dc) t.length xs
 pack:bD wr (λb=>sb<b) xs t
def zY(Kj:List NG)(T:List Q_)(w w':NI)(e:Ending):Prop:=
 ∃ra rc d dc xs,e= .returned (.agg #[.slice ra Kj.length rc,.slice d T.length dc])/\w'.ownsRow w.heap.size 9 1 (.slice ra Kj.length rc) Kj.length (Kj.map Value.string)/\w'.ownsRow w.heap.size 40 7 (.slice d T.length dc) T.length xs/\bD w' (λb=>w.heap.size<=b) xs T/\K_ w w'
theorem zK :∀(l t:List Q_),df t->df (l.foldl cZ t)
 | [],_,h=>h
 | x :: l,t,h=>zK l (cZ t x) (oG h)
theorem qD(w:NI)(Q S rc:Nat)(Kj:List NG)(a:NH)(d5:Nat)(R:List Q_)(g4:Kj.length<=10)(g5:R.length<=10000)(d6:∀r∈R,r.texts.length<=1000)(d7:∀k,((R.take k).foldl cZ []).length<=10000)(hR:Strs w (some ⟨Q,S,none⟩) Kj)(hS:cB w a R):
  Calls prog 39 #[.slice (some ⟨Q,S,none⟩) Kj.length rc,.slice a R.length d5] w λe w'=>zY Kj (R.foldl cZ []) w w' e:=by
 obtain⟨is,hi,d8,d9,e0⟩:=aU Tryz.eD;obtain⟨h,T⟩:=aj (w.alloc (.cells #[M0,M0] 32));have a0:K_ w h:=by rw[T];exact ah _ _
 have a1:aD h w.heap.size 32 2:=by rw[T];exact aD.made w #[M0,M0] 32
 have g6:w.heap.size+1<=h.heap.size:=a1.lt;have b0:=Kz a1;have U:Hid (K_ h (h.alloc (.cells #[] 9))):=ah _ _;have a2:Hid ((h.alloc (.cells #[] 9)).ownsRow h.heap.size 9 1 (.b h.heap.size 0 0) 0 (([]:List NG).map Value.string)):=ML h #[] 0 (Me _) (Mg _) rfl;have b1:Hid (∀j u,(Kj.map Value.string)[j]? =some u->(h.alloc (.cells #[] 9)).cell? ((⟨Q,S,none⟩:Addr).add j)=some u):=λj u J=>by
  have hj:j<Kj.length:=by have:=(Mk.1 J).1;simpa using this
  obtain⟨b,o,e,x,i⟩:=(hR.kept (a0.trans U.o)) j hj;simp only[MV] at e;rw[e,MZ,i];simp[hj] at J;simp[List.getD,hj,J]
 have b2:Hid (∀u∈Kj.map Value.string,u.oneCell'=true):=λu J=>by obtain⟨g7,_,rfl⟩:=MH.1 J;rfl
 have b3:h.heap.size<=(h.alloc (.cells #[] 9)).heap.size:=U.o.size;clear a1;go_enter func39,ntmps39
 go_upto_region 1 with fail
 rw[<-T];clear T;go_wp2_with (at_builtin;refine wpList_append_own _ rfl (.tmp 7) (.tmp 8) 26 rfl h.heap.size 9 is _ 1 16 underlying26 hi d8 d9 e0 rfl E8 (.b h.heap.size 0 0) 0 [] rfl a2.o ⟨Q,S,none⟩ Kj.length rc (Kj.map Value.string) rfl E9 b1.o b2.o F5 E5 b3 ?_;intro v6 F V b4 _;have X:K_ h F:=aK U.o (Me _) a2.o b4;rw[MM,List.nil_append] at V;obtain⟨n,q,rfl⟩:=ay V;have b5:=Kz V;clear V b4)
 obtain⟨A,K⟩:=aj (F.alloc (.cells #[.slice n Kj.length q,M0] 32));obtain⟨s,C⟩:=aj F.heap.size;have Y:K_ F A:=by rw[K];exact ah _ _
 have a3:Hid (aD A s 32 2):=by rw[K,C];exact aD.made F #[.slice n Kj.length q,M0] 32
 have b6:A.rangeAt s 0 [.slice n Kj.length q,M0]:=by rw[K,C];exact X_ F #[.slice n Kj.length q,M0] 32
 have e1:=Kz b6;have b7:=Kz (b0.o.kept (X.trans Y));have e2:=Kz (ak b5.o Y);have K1:K_ w A:=(a0.trans X).trans Y;have e3:=X.size;have e4:s+1<=A.heap.size:=a3.o.lt;have g8:w.heap.size<s:=E5;rw[<-K,<-C];clear b6 b5 a2 b1 b0 K C b2 b3 U Y X e3 a0;go_loopw [6] (λL wr=>∃(k:Nat) (d:NH) (l:Nat) (xs:List NJ),k<=R.length/\L= .a k/\StX A wr s n Kj.length q d ((R.take k).foldl cZ []) l xs) (λL _=>R.length-(intOf L).toNat)
 case atStart=>
  have i:=e1.o;exact⟨0,none,0,[],Mg _,rfl,⟨Xj.refl _ _ _,a3.o,i 0 _ rfl,i 1 _ rfl,Nc _ _ _ _,bD.nil _ _⟩⟩
 case round=>
  obtain⟨k,d,l,xs,hk,rfl,f⟩:=hrel;have a4:=d7 k;by_cases M:k<R.length
  .have Kr:K_ w wr:=f.kb.kept K1 E5;obtain⟨b,o,D,N,rfl,x,i,a5,b8⟩:=hS.kept Kr k M;obtain⟨t,E⟩:=aj ((R.take k).foldl cZ []);obtain⟨y,Z⟩:=aj (R.getD k Q_.zero);have e5:Hid ((R.take (k+1)).foldl cZ []=cZ t y):=by show _=_;rw[Ml M,List.foldl_append,E,Z];simp[List.getD,M]
   have b9:df t:=by rw[E];exact zK _ _ List.Pairwise.nil
   have e6:y.texts.length<=1000:=by rw[Z];simp only[List.getD,M,Mj,Nw];exact d6 _ (Mq M)
   rw[<-E] at f a4;rw[<-Z] at i a5;have z:=Kz f;have zr:=f.kb.size;have e7:Hid (mX wr (λb=>s<b) d t):=by
    obtain⟨_,a9,g9,ev,G⟩:=bD.runs f.own f.pack (K_.refl _);simp only[MW,true_and] at ev;rw[ev.1];exact G
   have e8:Hid (∀W,K_ wr W->Calls prog 71 #[.slice d t.length l,.agg #[.string y.name,.bool y.over,.bool y.fail,.string y.text,.a y.at',.a y.Zq,.slice D y.texts.length N]] W λe w'=>∃v,e= .returned v/\Iu W w' (λb=>s<b) v (cZ t y)/\K_ W w'):=λW hW=>BQ W d l t y D N E5 e6 b9 (λb=>s<b) (λb x=>by have:=hW.size;omega) (e7.o.kept hW) (a5.kept hW) b8
   have c0:wr.cell? ⟨b,o+k*7+0,none⟩=some (.string y.name):=i 0 _ rfl;have c1:wr.cell? ⟨b,o+k*7+1,none⟩=some (.bool y.over):=i 1 _ rfl;have c2:wr.cell? ⟨b,o+k*7+2,none⟩=some (.bool y.fail):=i 2 _ rfl;have c3:wr.cell? ⟨b,o+k*7+3,none⟩=some (.string y.text):=i 3 _ rfl;have c4:wr.cell? ⟨b,o+k*7+4,none⟩=some (.a y.at'):=i 4 _ rfl;have c5:wr.cell? ⟨b,o+k*7+5,none⟩=some (.a y.Zq):=i 5 _ rfl;have c6:wr.cell? ⟨b,o+k*7+6,none⟩=some (.slice D y.texts.length N):=i 6 _ rfl;rw[M_] at c0;have m1:=f.runs;have C:=f.row.lt;clear i Z E b9 f a5 b8;have h0:(k:Int)<(R.length:Int):=E5;have c7:Hid (∀w',K_ wr w'->(λw'=>w'.cell? ⟨s,1,none⟩=some (.slice d t.length l)/\w'.cell? ⟨b,o+k*7,none⟩=some (.string y.name)/\w'.cell? ⟨b,o+k*7+1,none⟩=some (.bool y.over)/\w'.cell? ⟨b,o+k*7+2,none⟩=some (.bool y.fail)/\w'.cell? ⟨b,o+k*7+3,none⟩=some (.string y.text)/\w'.cell? ⟨b,o+k*7+4,none⟩=some (.a y.at')/\w'.cell? ⟨b,o+k*7+5,none⟩=some (.a y.Zq)/\w'.cell? ⟨b,o+k*7+6,none⟩=some (.slice D y.texts.length N)) w'):=λw' B=>⟨(B.cell C).trans m1,(B.cell x).trans c0,(B.cell x).trans c1,(B.cell x).trans c2,(B.cell x).trans c3,(B.cell x).trans c4,(B.cell x).trans c5,(B.cell x).trans c6⟩
   go_wp2
   refine Qk.region F4 (λw'=>w'.cell? ⟨s,1,none⟩=some (.slice d t.length l)/\w'.cell? ⟨b,o+k*7,none⟩=some (.string y.name)/\w'.cell? ⟨b,o+k*7+1,none⟩=some (.bool y.over)/\w'.cell? ⟨b,o+k*7+2,none⟩=some (.bool y.fail)/\w'.cell? ⟨b,o+k*7+3,none⟩=some (.string y.text)/\w'.cell? ⟨b,o+k*7+4,none⟩=some (.a y.at')/\w'.cell? ⟨b,o+k*7+5,none⟩=some (.a y.Zq)/\w'.cell? ⟨b,o+k*7+6,none⟩=some (.slice D y.texts.length N)) 8 ⟨m1,c0,c1,c2,c3,c4,c5,c6⟩ (λH=>?_);refine au 0 H ?_;refine ae 4 H ?_;refine ae 5 H ?_;refine aG 6 (λa6 O=>?_);go_simp
   go_at_call 71
   refine (e8.o _ F9).mono ?_;rintro e w2 ⟨v2,rfl,e9,f0⟩;have I:K_ wr w2:=K_.trans F9 f0;have z2:=I.size;obtain⟨wy,f1,c8,c9,a7,d0⟩:=e9;have zy:=c8.size;have d1:A.heap.size<=wy.heap.size:=Nat.le_trans zr (Nat.le_trans (Nat.le_of_eq G5) zy);have d2:=dM (base':=A.heap.size) a7 d1;obtain⟨f2,f3,rfl⟩:=ay a7;have f4:=Kz d2;have f5:=Kz (d0.kept c9);have a8:=z.o.row.kept I;obtain⟨⟨_,h1⟩,h2⟩:=a8.row.at (i:=1) E5;have d3:=Kz a8;clear d2 a7 d0 a8 c8 c9 zy d1;dsimp only;refine O.out _ _ (λ_=>c7.o w2 I) ?_;clear O a6 H;have H:=c7.o w2 I;try simp only[upP]
   refine ae 7 H ?_;refine ai 8 (λa6 O=>?_);go_simp
   refine af O (λG=>Nv rfl G) ?_;clear O a6;refine aF ?_;go_wp2
   go_roundw
   case rel=>exact⟨k+1,f2,f3,f1,E5,F3,by rw[e5.o];exact⟨(z.o.kb.trans (Xj.ax I)).setCell (Me _) (MJ _) _,d3.o.set _,by rw[Xk E5,I.cell z.o.row.lt];exact z.o.Kj,aW d3.o.row E5 _,bG (p:=⟨s,1,none⟩) f4.o e4 _,f5.o.set (λb G=>E5) _⟩⟩
   case measure=>simp[intOf];omega
  .have f6:k=R.length:=E5;subst f6;rw[MN] at f a4;obtain⟨t,E⟩:=aj (R.foldl cZ []);rw[<-E] at f a4;have m0:=f.Kj;have m1:=f.runs;have P:=b7.o.block (f.kb.block _ b7.o.lt E5);obtain⟨⟨_,t0⟩,h3⟩:=P.row.at (i:=0) E5;obtain⟨⟨_,t1⟩,h4⟩:=P.row.at (i:=1) E5;have⟨f7,z⟩:=aH P f;have C:=f.row.lt;have h5:=P.lt;clear P f;go_wp2
   have f8:=Mi wr w.heap.size 0 [.slice n Kj.length q,.slice d t.length l] (f7.o.row.there (o:=0) (m:=2) (Me _));have hO:=bG (bG z.o.own (p:=⟨w.heap.size,0,none⟩) (by show w.heap.size<_;omega) (.slice n Kj.length q)) (p:=⟨w.heap.size,1,none⟩) (by show w.heap.size<_;omega) (.slice d t.length l);have f9:=IY e2.o z.o.kb a3.o E8;have g0:=bG (bG f9 (p:=⟨w.heap.size,0,none⟩) (by show w.heap.size<_;omega) (.slice n Kj.length q)) (p:=⟨w.heap.size,1,none⟩) (by show w.heap.size<_;omega) (.slice d t.length l);have d4:=(z.o.pack.set (c:=w.heap.size) (p:=0) (λb G=>E5) (.slice n Kj.length q)).set (c:=w.heap.size) (p:=1) (λb G=>E5) (.slice d t.length l);subst E;refine Zx [.slice n Kj.length q,.slice d (R.foldl cZ []).length l] _ results39 rfl f8 underlying32 rfl Tryz.qR rfl ⟨n,q,d,l,xs,rfl,dM g0 E5,dM hO E5,⟨d4.1,λL hi=>by obtain⟨D,xc,e,g1,g2,g3⟩:=d4.2 L hi;exact⟨D,xc,e,g1,g2,λad e=>by have:=g3 ad e;omega⟩⟩, ?_⟩;exact ((z.o.kb.kept K1 E5).setCell (Me _) _).setCell (Me _) _
def qL(v:NG):List NJ:=[.string v,.bool false,.bool false,.string ⟨#[]⟩,.a 0,.a 0,M0]
theorem vZ(v:NG):∀u∈qL v,u.oneCell'=true:=Q_.one (Q_.fresh v) none 0
theorem zt(r w:NI)(f:Nat)(a9:r.heap.size<=f)(a:NH)(m:Nat)(c:List Qz)(Z:NH)(rc:Nat)(names:List NG)(l:List Q_)(d0:NH)(a0:Nat)(a1:List NJ)(O:c.length<=1048576)(c4:names.length<=100)(c5:l.length<=1000)
  (h:KnX r w f a c.length m l d0 a0 a1) (P:bT r a c) (hR:Strs r Z names):
  Calls prog 67 #[.c f,.slice Z names.length rc] w λe w'=>e= .returned (.tuple #[])/\∃d j t,KnX r w' f a c.length m (bN (Kk c) l names) d j t:=by
 have HK:=Kz h;clear h;go_enter func67,ntmps67
 go_wp2
 go_loopw [4] (λi wr=>∃(k:Nat) (d:NH) (j:Nat) (t:List NJ),k<=names.length/\i= .a k/\KnX r wr f a c.length m (bN (Kk c) l (names.take k)) d j t) (λi _=>names.length-(intOf i).toNat)
 case atStart=>exact⟨0,d0,a0,a1,Mg _,rfl,HK.o⟩
 case round=>
  obtain⟨k,d,j,t,hk,rfl,p⟩:=hrel;by_cases a2:k<names.length
  .obtain⟨q,o,rfl,H,Q⟩:=hR k a2;have C:K_ r wr:=p.kw;obtain⟨R,S⟩:=aj (bN (Kk c) l (names.take k));have I:=xx (Kk c) l a2;rw[<-S] at p I;have c6:R.length<=1100:=by rw[S];have:=mh (Kk c) (names.take k) l;rw[MG] at this;omega
   obtain⟨v,a3⟩:=aj (names.getD k ByteArray.empty);rw[<-a3] at Q I;have T:=Kz I;have J:=(C.cell H).trans Q;have U:=p.known.web;have V:=p.known.runs;have L:=p.known.row.lt;have⟨a4,x⟩:=aH p.runs p;clear S a3 I p HK;have W:q<wr.heap.size:=Mf H C.size;have i0:(k:Int)<(names.length:Int):=E5;by_cases D:(Kk c v).isSome=true
   .have E:Hid (∀w',K_ wr w'->(λw'=>w'.cell? ⟨f,0,none⟩=some (.slice a c.length m)/\w'.cell? ⟨f,1,none⟩=some (.slice d R.length j)/\w'.cell? ⟨q,o+k,none⟩=some (.string v)) w'):=λw' z=>⟨(z.cell L).trans U,(z.cell L).trans V,(z.cell W).trans J⟩
    by_cases M:(Qq R v).isNone=true
    .go_wp2
     go_region_held (λw'=>w'.cell? ⟨f,0,none⟩=some (.slice a c.length m)/\w'.cell? ⟨f,1,none⟩=some (.slice d R.length j)/\w'.cell? ⟨q,o+k,none⟩=some (.string v)) (exact bf E _ F9) ((first | (go_at_call 37;refine (rH _ a m c v O (P.kept (C.trans F9)) D).mono ?_;rintro e A ⟨⟨r1,rfl⟩,F⟩;have n:K_ wr A:=K_.trans F9 F) | (go_at_call 86;refine (Cb _ f a c.length m d j R v E5 (x.o.known.kept (n.trans F9)) (a4.o.kept (n.trans F9)) M).mono ?_;rintro e s ⟨⟨r2,rfl,c7⟩,rfl⟩)))
     all_goals
      have G:=x.o.kept n;have X:=Kz G;have n1:=G.known.runs;have n0:=(n.cell W).trans J;have z2:=G.kw.size;have b0:q<s.heap.size:=Mf H z2;have b1:f<s.heap.size:=G.known.row.lt;have b2:Hid (∀w',K_ s w'->(λw'=>w'.cell? ⟨f,1,none⟩=some (.slice d R.length j)/\w'.cell? ⟨q,o+k,none⟩=some (.string v)) w'):=λw' bl=>⟨(bl.cell b1).trans n1,(bl.cell b0).trans n0⟩
      obtain⟨b3,b4,b5,b6,b7⟩:=aU Tryz.si;clear G;go_wp2
      refine Qk.region F4 (λw'=>w'.cell? ⟨f,1,none⟩=some (.slice d R.length j)/\w'.cell? ⟨q,o+k,none⟩=some (.string v)) 14 ⟨n1,n0⟩ (λb=>?_);refine au 0 b ?_;refine au 4 b ?_;refine ae 8 b ?_;refine ae 9 b ?_;refine ai 10 (λK h=>?_);go_simp
      have N:K_ s (s.alloc (.cells (qL v).toArray 40)).drew:=(ah _ _).drew;refine af h (λ_=>b2.o _ N) ?_;clear h K b;refine ai 11 (λK h=>?_);refine step_append_lies _ rfl (.tmp 34) (.tmp 40) 30 rfl r.heap.size 40 b3 _ 7 80 underlying30 b4 b5 b6 b7 rfl E8 (.slice d R.length j) R.length t F8 (ak X.o.own N) ⟨s.heap.size,0,none⟩ 1 1 (qL v) F8 rfl (λb8 u hu=>by rw[MZ];exact X_ s (qL v).toArray 40 b8 u (by simpa using hu)) (vZ v) E5 F5 E5 F6 _ rfl ?_;intro g6 b9 w8 a5 Y c0 c8;obtain⟨c1,a6⟩:=X.o.grown N Y;have a7:=a6.row;obtain⟨⟨_,c9⟩,d1⟩:=a7.row.at (i:=1) E5;have a8:=(show _/\_ from ⟨a6.runs,(c1.cell H).trans Q⟩);have c2:=Kz (KnX.next (y:=Q_.fresh v) (xa:=none) (xc:=0) X.o a9 N Y a5 (λi hi=>by cases hi) (λ_=>rfl));clear a5 Y c0 a7;refine af h (λ_=>a8) ?_;clear h K;have b:=a8;refine ae 12 b ?_;refine ae 13 b ?_;refine ai 14 (λK h=>?_);go_simp
      refine af h (λB=>Nv rfl B) ?_;clear h K;refine aF ?_;go_wp2
      go_roundw
      case rel=>exact⟨k+1,_,b9,_,E5,F3,by rw[T.o,Nt ⟨D,M⟩];exact c2.o⟩
      case measure=>simp[intOf];omega
    .go_wp2
     go_region_held (λw'=>w'.cell? ⟨f,0,none⟩=some (.slice a c.length m)/\w'.cell? ⟨f,1,none⟩=some (.slice d R.length j)/\w'.cell? ⟨q,o+k,none⟩=some (.string v)) (exact bf E _ F9) ((first | (go_at_call 37;refine (rH _ a m c v O (P.kept (C.trans F9)) D).mono ?_;rintro e A ⟨⟨r1,rfl⟩,F⟩;have n:K_ wr A:=K_.trans F9 F) | (go_at_call 86;refine (B_ _ f a c.length m d j R v E5 (x.o.known.kept (n.trans F9)) (a4.o.kept (n.trans F9)) M).mono ?_;rintro e s ⟨⟨r2,rfl⟩,rfl⟩)))
     all_goals
      go_wp2
      go_roundw
      case rel=>exact⟨k+1,d,j,t,E5,F3,by rw[T.o,Nu (λB=>M B.2)];exact x.o.kept n⟩
      case measure=>simp[intOf];omega
   .have E:Hid (∀w',K_ wr w'->(λw'=>w'.cell? ⟨f,0,none⟩=some (.slice a c.length m)/\w'.cell? ⟨f,1,none⟩=some (.slice d R.length j)/\w'.cell? ⟨q,o+k,none⟩=some (.string v)) w'):=λw' z=>⟨(z.cell L).trans U,(z.cell L).trans V,(z.cell W).trans J⟩
    go_wp2
    refine Qk.region F4 (λw'=>w'.cell? ⟨f,0,none⟩=some (.slice a c.length m)/\w'.cell? ⟨f,1,none⟩=some (.slice d R.length j)/\w'.cell? ⟨q,o+k,none⟩=some (.string v)) 18 ⟨U,V,J⟩ (λb=>?_);refine au 0 b ?_;refine au 4 b ?_;refine aG 8 (λK h=>?_);go_simp
    go_at_call 37
    refine (Bh _ a m c v O (P.kept (C.trans F9)) D).mono ?_;rintro e A ⟨rfl,F⟩;have n:K_ wr A:=K_.trans F9 F;dsimp only;refine h.out _ _ (λ_=>E.o A n) ?_;clear h K b;have b:=E.o A n;try simp only[upP]
    refine ae 9 b ?_;refine ae 10 b ?_;refine aB 11 b ?_;refine aB 12 b ?_;refine aB 13 b ?_;refine aB 14 b ?_;refine aB 15 b ?_;refine aB 16 b ?_;refine aB 17 b ?_;refine ai 18 (λK h=>?_);go_simp
    refine af h (λB=>Nv rfl B) ?_;clear h K;refine aF ?_;go_wp2
    go_roundw
    case rel=>exact⟨k+1,d,j,t,E5,F3,by rw[T.o,Nu (λB=>D B.1)];exact x.o.kept n⟩
    case measure=>simp[intOf];omega
  .have c3:k=names.length:=E5;subst c3;rw[MN] at p;have x:=Kz p;clear p;go_wp2
   go_end0
   exact⟨rfl,_,_,_,x.o⟩
theorem vw{a:NI}{x:NJ}(K:K_ (w.alloc (.cells #[x] t)) a):a.cell? ⟨w.heap.size,0,none⟩=some x:=
 (K.cell E9).trans (X_ w #[x] t 0 _ rfl)
theorem FT{X:NI}{c:Array NJ}(k:K_ (X.alloc (.cells c t)) w'):aD w' X.heap.size t c.size:=(aD.made X c t).kept k
theorem xG{α:Type}(p q:α->Bool)(h:∀x,¬(p x=true/\q x=true)):∀l:List α,(l.filter p).length+ (l.filter q).length<=l.length
 | []=>Me _
 | x :: l=>by
  have e:=xG p q h l;have d:=h x;simp only[List.filter_cons];by_cases b:p x=true
  .have a:¬q x=true:=λa=>d ⟨b,a⟩
   rw[Nt b,Nu a,MX,MX];omega
  .rw[Nu b];by_cases a:q x=true
   .rw[Nt a,MX,MX];omega
   .rw[Nu a,MX];omega
theorem vk(l:List Q_)(r:Q_):(cZ l r).length<=l.length+1:=by
 unfold cZ;rw[MU,MX];have:=xG (λx:Q_=>Op.bytesLess x.name.toList r.name.toList) (λx:Q_=>Op.bytesLess r.name.toList x.name.toList) (λx h=>eQ h.1 h.2) l;omega
theorem y_ :∀(l t:List Q_),(l.foldl cZ t).length<=t.length+l.length
 | [],_=>Me _
 | x :: l,t=>by
  have a:=y_ l (cZ t x);have b:=vk t x;show (l.foldl cZ (cZ t x)).length<=_;rw[MX];omega
theorem kL(R:List Q_)(k:Nat):((R.take k).foldl cZ []).length<=R.length:=by
 have a:=y_ (R.take k) [];have b:(R.take k).length<=R.length:=G9;simp only[List.length_nil] at a;omega
theorem tu(W:dA):∀(bs:List NG) (l:List Q_) (x:Q_),x∈bN W l bs->x∈l\/∃n,x=Q_.fresh n
 | [],_,_,h=>.inl h
 | a :: bs,l,x,h=>by
  rcases tu W bs _ x h with b|b
  .by_cases d:(W a).isSome=true/\(Qq l a).isNone=true
   .rw[Nt d] at b;rcases Mo.1 b with c|c
    .exact .inl c
    .rw[Mm] at c;exact .inr ⟨a,c⟩
   .rw[Nu d] at b;exact .inl b
  .exact .inr b
theorem r_{P Q:Nat->Prop}{l:List Q_}(h:bD w P xs l)(a:∀b,P b->Q b):bD w Q xs l:=
 ⟨h.1,λi c=>by obtain⟨d,f,e,j,k,m⟩:=h.2 i c;exact⟨d,f,e,j,k,λn e=>a _ (m n e)⟩⟩
theorem Dk(w:NI)(a:NH)(d:Nat)(b:List Qz)(l n x:Nat)(Kj:List NG)(hl:b.length<=1048576)(hf:∀s∈b,s.Fits)(hw:bv b 0)(C:dR Kj)(a8:∀s∈Kj,s.size<=maxLen)(M:bT w a b)(D:Strs w (some ⟨l,n,none⟩) Kj):
  Calls prog 27 #[.agg #[.slice a b.length d],.slice (some ⟨l,n,none⟩) Kj.length x] w λe w'=>zY Kj (bM b Kj) w w' e:=by
 have a9:b.length<=maxLen:=F5;have b0:Kj.length<=maxLen:=by have:=C.1;have:=C.2.1;unfold maxLen;omega
 go_enter func27,ntmps27
 go_wp2_with fail
 refine (gW _ a d b a9 hf (M.kept H6)).mono ?_;rintro e y ⟨⟨b1,rfl,N⟩,q⟩;have E:K_ w y:=K_.trans H6 q;have z1:=q.size;simp only[MS] at z1;have O:=vw (w:=w) (K_.trans (ah _ _) q);have F:=FT q;simp only[MS] at F;have z:Hid (aD y (w.heap.size+1) 32 2):=F;obtain⟨⟨_,x0⟩,g0⟩:=z.o.row.at (i:=0) E5;obtain⟨⟨_,x1⟩,g1⟩:=z.o.row.at (i:=1) E5;have b2:b1=0:=N.unique hw;clear F N q;have b3:w.heap.size<y.heap.size:=E5;have c5:w.heap.size+1<y.heap.size:=E5;subst b2;go_wp2_with fail
 refine (lU _ (some ⟨l,n,none⟩) x Kj b0 a8 (D.kept E)).mono ?_;rintro e c ⟨P,r⟩;have q2:=(r.cell (o:=0) b3).trans O;have A:=Kz (z.o.kept r);have G:=E.trans r;have z2:=r.size;obtain⟨⟨_,y0⟩,e0⟩:=A.o.row.at (i:=0) E5;obtain⟨⟨_,y1⟩,e1⟩:=A.o.row.at (i:=1) E5;clear O x0 x1 g0 g1 z E r;rcases P.cases with⟨rfl,Q⟩|⟨rfl,b4⟩
 .have H:=Kz Q;clear Q P;have c6:w.heap.size<c.heap.size:=E5;have b5:Hid (KnX c (c.alloc (.cells #[.slice a b.length d,M0] 86)) c.heap.size a b.length d [] none 0 []):=⟨ah _ _,⟨aD.made c _ _,X_ c #[.slice a b.length d,M0] 86 0 _ rfl,X_ c #[.slice a b.length d,M0] 86 1 _ rfl⟩,Nc _ _ _ _,bD.nil _ _⟩;go_wp2_with fail
  refine (zt c _ c.heap.size (Me _) a d b (some ⟨l,n,none⟩) x Kj [] none 0 [] hl (by have:=H.o.2.1;omega) E9 b5.o (M.kept G) (D.kept G)).mono ?_;rintro e w3 ⟨rfl,b6,dc,xs,t⟩;have I:K_ c w3:=t.kw;have S:=G.trans I;have z3:=I.size;have U:=t.known.runs;have c7:=t.known.row.lt;have V:=Kz t.runs;have W:=Kz (A.o.kept I);obtain⟨R,v⟩:=aj (bN (Kk b) [] Kj);have c8:R.length<=10:=by have:=mh (Kk b) Kj [];have:=H.o.2.1;rw[v];simp at *;omega
  have X:∀Y∈R,Y.texts.length<=1000:=λY Z=>by
   rw[v] at Z;rcases tu _ _ _ _ Z with B|⟨c9,rfl⟩
   .cases B
   .exact Mg _
  have a0:Hid (R.foldl cZ []=bM b Kj):=by show _=_;rw[v];rfl
  rw[<-v] at V U;have b7:=Kz X;clear t y0 y1 e0 e1 A q2 v X;go_wp2_with fail
  refine (qD _ l n x Kj b6 dc R (by have:=H.o.2.1;omega) E5 b7.o (λb8=>by have:=kL R b8;omega) (D.kept S) V.o).mono ?_;rintro e w4 a1;rw[a0.o] at a1;obtain⟨f,h,j,k,b9,rfl,a2,a3,a4,J⟩:=a1;have K4:=S.trans J;have K:=Kz (W.o.kept J);have z4:=J.size;obtain⟨⟨_,t0⟩,d0⟩:=K.o.row.at (i:=0) E5;obtain⟨⟨_,t1⟩,f1⟩:=K.o.row.at (i:=1) E5;have⟨c0,a5,a6⟩:=dF a2 a3 a4;obtain⟨T,L⟩:=aj (bM b Kj);rw[<-L] at a5 a6⊢;have c1:=Kz L;clear a2 a3 a4 W U L a0;go_wp2
  have c2:=Mi w4 (w.heap.size+1) 0 [.slice f Kj.length h,.slice j T.length k] (K.o.row.there (o:=0) (m:=2) (Me _));have hO:=bG (bG a5.o (p:=⟨w.heap.size+1,0,none⟩) F6 (.slice f Kj.length h)) (p:=⟨w.heap.size+1,1,none⟩) F6 (.slice j T.length k);have c3:=bG (bG c0.o (p:=⟨w.heap.size+1,0,none⟩) F6 (.slice f Kj.length h)) (p:=⟨w.heap.size+1,1,none⟩) F6 (.slice j T.length k);have c4:=(a6.o.set (c:=w.heap.size+1) (p:=0) (λa7 B=>E5) (.slice f Kj.length h)).set (c:=w.heap.size+1) (p:=1) (λa7 B=>E5) (.slice j T.length k);obtain rfl:=c1.o;exact Zx [.slice f Kj.length h,.slice j (bM b Kj).length k] _ results27 rfl c2 underlying32 rfl Tryz.qR rfl ⟨f,h,j,k,b9,rfl,dM c3 E5,dM hO E5,r_ c4 (λa7 B=>E5),(K4.setCell E9 _).setCell E9 _⟩
 .exact Nv C b4
def g_(w:NI)(nb:Nat)(a:NH)(l:List NG):Prop:=∀i,i<l.length->∃b o,a=some ⟨b,o,none⟩/\b<w.heap.size/\b≠nb/\w.cell? ⟨b,o+i,none⟩=some (.string (l.getD i ByteArray.empty))
variable {a : NH}
theorem g_.new(h:Strs w a l)(k:K_ w w'):g_ w' w.heap.size a l:=λi c=>by
 obtain⟨d,o,e,b,f⟩:=h i c;exact⟨d,o,e,Mf b k.size,E5,(k.cell b).trans f⟩
variable {nb : Nat}
theorem g_.LY{n0 c:Nat}(h:eX n0 w c a l)(k:n0<=nb)(h2:nb<c+2):g_ w nb a l:=λi d=>by
 obtain⟨b,o,e,f,m,j⟩:=h i d;exact⟨b,o,e,f,E5,j⟩
theorem g_.KC :∀(vs:List NJ) (p:Nat) {w:NI},g_ w nb a l->g_ (w.setCells nb p vs) nb a l
 | [],_,_,h=>h
 | v :: r,p,w,h=>by
  rw[World.setCells];refine g_.KC r (p+1) λi c=>?_
  obtain⟨d,o,e,f,b,j⟩:=h i c;exact⟨d,o,e,by rw[size_setCell];exact f,b,by rw[Zj b];exact j⟩
theorem g_.sets(h:g_ w nb a l)(vs:List NJ)(p:Nat):Strs (w.setCells nb p vs) a l:=λi c=>by
 obtain⟨b,o,e,d,_,f⟩:=g_.KC vs p h i c;exact⟨b,o,e,d,f⟩
variable {b : Nat}
theorem aD.sets :∀(vs:List NJ) (p:Nat) {w:NI},aD w b t n->aD (w.setCells b p vs) b t n
 | [],_,_,h=>h
 | v :: r,p,_,h=>by rw[World.setCells];exact aD.sets r (p+1) (h.set v)
theorem jM.laid(h:aD w nb 40 7){q:Q_}{a:NH}{b:Nat}:jM (w.setCells nb 0 (q.cells a b)) nb q a b:=
 ⟨aD.sets _ _ h,Mi w nb 0 (q.cells a b) (h.row.there (o:=0) (m:=7) (Me _))⟩
variable {W : dA} {σ : Env} {r : Q_}
theorem FQ :(Xx W σ r).2=[]\/∃A,W r.name=some A/\(Xx W σ r).2= (stepOf A (Xx W σ r).1.at').asks:=by
 unfold Xx;cases d:W r.name with
 | none=>exact .inl rfl
 | some A=>
  simp only;by_cases a:r.Zq=0
  .rw[Nt a];refine .inr ⟨A,rfl, ?_⟩;unfold dZ
   split <;> rfl
  .rw[Nu a];cases Yz W σ (stepOf A r.at').asks with
   | none=>exact .inl rfl
   | some xs=>
    simp only;by_cases b:r.Zq=20
    .rw[Nt b];exact .inl rfl
    .rw[Nu b];by_cases c:(eP (stepOf A r.at') xs).over=true
     .rw[Nt c];exact .inl rfl
     .rw[Nu c];refine .inr ⟨A,rfl, ?_⟩;unfold dZ
      split <;> rfl
theorem yj{a:List Qz}(c:bg (Kk a))(f:dm a σ)(h:r.Good a)(i:aT (Kk a) σ r):(Xx (Kk a) σ r).2.length<=5:=by
 rcases FQ (W:=Kk a) (σ:=σ) (r:=r) with e|⟨A,d,e⟩
 .rw[e];exact Mg _
 .obtain⟨l,b,j,k⟩:=(dP c f h i).act;rw[di] at b;rw[d] at b;cases b;rw[e];exact (ib (c _ _ d).1 j k).1
theorem EU(w:NI)(a:NH)(t:Nat)(f:List Qz)(C D F:Nat)(Kj:List NG)(d:NH)(G:Nat)(l:List Q_)(c8:NG)(r:Q_)(m5:f.length<=1000)(m6:l.length<=900)(f5:jc f)(c9:bg (Kk f))(j5:∀y∈f,y.Fits)(j6:Kj.length<=10)
  (a7:dD f l) (hr:Qq l c8=some r) (d0:aT (Kk f) (Qq l) r) (hN:bT w a f) (hS:cB w d l) (hR:Strs w (some ⟨C,D,none⟩) Kj):
  Calls prog 30 #[.agg #[.slice a f.length t],.agg #[.slice (some ⟨C,D,none⟩) Kj.length F,.slice d l.length G],.string c8] w λe w'=>zY Kj (doL (Kk f) l r) w w' e:=by
 obtain⟨k,hk,d1⟩:∃k,k<l.length/\l.getD k Q_.zero=r:=by
  obtain⟨k,H,h2⟩:=Ms (aY hr).1;exact⟨k,H,by simp only[List.getD,Mj H,Nw,h2]⟩
 have d2:=a7.good r (aY hr).1;have d3:=a7.env;have d4:l.length<=1048576:=E5;have d5:f.length<=1048576:=E5;obtain⟨b,o,xa,xc,rfl,X,Q,d6,f6⟩:=hS k hk;rw[d1] at Q d6;have j7:=Kz f6;clear f6;obtain⟨x,Y⟩:=aj (((w.alloc (.cells #[.slice a f.length t] 25)).alloc (.cells #[.slice (some ⟨C,D,none⟩) Kj.length F,.slice (some ⟨b,o,none⟩) l.length G] 32)).alloc (.cells #[M0,M0] 32));have J:K_ w x:=by rw[Y];exact ((ah _ _).alloc _).alloc _
 have j8:x.heap.size=w.heap.size+3:=by rw[Y];simp
 have b0:x.cell? ⟨w.heap.size,0,none⟩=some (.slice a f.length t):=by rw[Y,K_.cell (w:=w.alloc (.cells #[.slice a f.length t] 25)) ((ah _ _).alloc _) E9];exact X_ w _ _ 0 _ rfl
 have R:x.cell? ⟨w.heap.size+1,0,none⟩=some (.slice (some ⟨C,D,none⟩) Kj.length F):=by have:=X_ (w.alloc (.cells #[.slice a f.length t] 25)) #[.slice (some ⟨C,D,none⟩) Kj.length F,.slice (some ⟨b,o,none⟩) l.length G] 32 0 _ rfl;rw[MS] at this;rw[Y,K_.cell (w:=(w.alloc (.cells #[.slice a f.length t] 25)).alloc (.cells #[.slice (some ⟨C,D,none⟩) Kj.length F,.slice (some ⟨b,o,none⟩) l.length G] 32)) (ah _ _) E9];exact this
 have s1:x.cell? ⟨w.heap.size+1,1,none⟩=some (.slice (some ⟨b,o,none⟩) l.length G):=by have:=X_ (w.alloc (.cells #[.slice a f.length t] 25)) #[.slice (some ⟨C,D,none⟩) Kj.length F,.slice (some ⟨b,o,none⟩) l.length G] 32 1 _ rfl;rw[MS] at this;rw[Y,K_.cell (w:=(w.alloc (.cells #[.slice a f.length t] 25)).alloc (.cells #[.slice (some ⟨C,D,none⟩) Kj.length F,.slice (some ⟨b,o,none⟩) l.length G] 32)) (ah _ _) E9];exact this
 have f7:Hid (aD x (w.heap.size+1+1) 32 2):=by
  have H:=aD.made ((w.alloc (.cells #[.slice a f.length t] 25)).alloc (.cells #[.slice (some ⟨C,D,none⟩) Kj.length F,.slice (some ⟨b,o,none⟩) l.length G] 32)) #[M0,M0] 32;simp only[MS] at H;rw[Y];exact H
 have z0:w.heap.size<x.heap.size:=E5;have z1:w.heap.size+1<x.heap.size:=E5;have a2:b<x.heap.size:=Mf X J.size;have t0:x.cell? ⟨b,o+k*7,none⟩=some (.string r.name):=(J.cell X).trans (Q 0 _ rfl);have t1:x.cell? ⟨b,o+k*7+1,none⟩=some (.bool r.over):=(J.cell X).trans (Q 1 _ rfl);have t2:x.cell? ⟨b,o+k*7+2,none⟩=some (.bool r.fail):=(J.cell X).trans (Q 2 _ rfl);have t3:x.cell? ⟨b,o+k*7+3,none⟩=some (.string r.text):=(J.cell X).trans (Q 3 _ rfl);have t4:x.cell? ⟨b,o+k*7+4,none⟩=some (.a r.at'):=(J.cell X).trans (Q 4 _ rfl);have t5:x.cell? ⟨b,o+k*7+5,none⟩=some (.a r.Zq):=(J.cell X).trans (Q 5 _ rfl);have t6:x.cell? ⟨b,o+k*7+6,none⟩=some (.slice xa r.texts.length xc):=(J.cell X).trans (Q 6 _ rfl);have I:Hid (∀w',K_ x w'->w'.cell? ⟨w.heap.size,0,none⟩=some (.slice a f.length t)/\w'.cell? ⟨w.heap.size+1,0,none⟩=some (.slice (some ⟨C,D,none⟩) Kj.length F)/\w'.cell? ⟨w.heap.size+1,1,none⟩=some (.slice (some ⟨b,o,none⟩) l.length G)/\w'.cell? ⟨b,o+k*7,none⟩=some (.string r.name)/\w'.cell? ⟨b,o+k*7+1,none⟩=some (.bool r.over)/\w'.cell? ⟨b,o+k*7+2,none⟩=some (.bool r.fail)/\w'.cell? ⟨b,o+k*7+3,none⟩=some (.string r.text)/\w'.cell? ⟨b,o+k*7+4,none⟩=some (.a r.at')/\w'.cell? ⟨b,o+k*7+5,none⟩=some (.a r.Zq)/\w'.cell? ⟨b,o+k*7+6,none⟩=some (.slice xa r.texts.length xc)):=λw' K=>⟨(K.cell z0).trans b0,(K.cell z1).trans R,(K.cell z1).trans s1,(K.cell a2).trans t0,(K.cell a2).trans t1,(K.cell a2).trans t2,(K.cell a2).trans t3,(K.cell a2).trans t4,(K.cell a2).trans t5,(K.cell a2).trans t6⟩
 have f8:Hid (∀W,K_ x W->Calls prog 68 #[.agg #[.slice a f.length t],.agg #[.slice (some ⟨C,D,none⟩) Kj.length F,.slice (some ⟨b,o,none⟩) l.length G],.agg #[.string r.name,.bool r.over,.bool r.fail,.string r.text,.a r.at',.a r.Zq,.slice xa r.texts.length xc]] W λe w'=>Says e (aT (Kk f) (Qq l) r)/\K_ W w'):=λW K=>zI W a t f (some ⟨C,D,none⟩) Kj.length F (some ⟨b,o,none⟩) G l r xa xc d5 d4 f5 (λ_ _=>d2.act) (hN.kept (J.trans K)) (hS.kept (J.trans K))
 have d7:Hid (∀W,K_ x W->Calls prog 70 #[.agg #[.slice a f.length t],.agg #[.slice (some ⟨C,D,none⟩) Kj.length F,.slice (some ⟨b,o,none⟩) l.length G],.agg #[.string r.name,.bool r.over,.bool r.fail,.string r.text,.a r.at',.a r.Zq,.slice xa r.texts.length xc]] W λe w'=>vI w.heap.size (W.heap.size+2) (Kk f) (Qq l) r w' e/\K_ W w'):=λW K=>Iq w W (J.trans K) a t f (some ⟨C,D,none⟩) Kj.length F (some ⟨b,o,none⟩) G l r xa xc d5 d4 f5 c9 j5 d2 d3 d0 hN (hS.kept (J.trans K)) d6 j7.o
 have⟨b1,HN,HS,j9,e0⟩:=iZ J hN hS hR d0;have⟨f9,g0,k0⟩:=dF d2 hr d1;clear hr d1;clear J j8 Q hN hS hR d0 d6 t0 t1 t2 t3 t4 t5 t6 b0 R s1;go_enter func30,ntmps30
 go_upto_region 1 with fail
 rw[<-Y];clear Y;obtain⟨b0,R,s1,_⟩:=I.o _ (K_.refl _);go_wp2_with fail
 refine (gU _ (some ⟨C,D,none⟩) Kj.length F (some ⟨b,o,none⟩) G l c8 d4 (HS.o.kept b1.o)).mono ?_;rintro e w1 ⟨⟨q1,rfl,g1⟩,K1⟩;obtain rfl:q1= (k:Int):=by
  rcases g1 with⟨a8,hj,e1,H,h2⟩|⟨_,H⟩
  .rw[e1];have e2:l.getD a8 Q_.zero=l.getD k Q_.zero:=by rw[g0.o] at H;rw[<-Ng H,k0.o]
   simp only[List.getD,Mj hj,Mj hk,Nw] at e2;have e3:=congrArg Q_.name e2;have g2:=Mr.1 a7.asc;rcases Ns a8 k with s|s|s
   .exact Nv e3 (dJ (g2 a8 k hj hk s))
   .rw[s]
   .exact Nv e3.symm (dJ (g2 k a8 hk hj s))
  .rw[g0.o] at H;cases H
 clear g1 b0 R s1;have m7:¬(k:Int)<0:=E5;have m8:(k:Int)<(l.length:Int):=E5;go_upto_region 2 with fail
 refine gY 12 I.o (K1.drew) (λj=>?_);have A:K_ w1 w1.drew:=aV w1;generalize e4:w1.drew=L at j A⊢;clear e4;refine au 0 j ?_;refine au 4 j ?_;refine ae 8 j ?_;refine ae 9 j ?_;refine aG 10 (λK h=>?_);go_simp
 go_at_call 68
 refine (f8.o L (K1.trans A)).mono ?_;rintro e w2 ⟨g3,g4⟩;have K2:=(K1.trans A).trans g4;rcases g3.cases with⟨rfl,_⟩|⟨rfl,k1⟩;rotate_left
 .exact Nv e0.o k1
 clear g3 g4;dsimp only;refine h.out _ _ (λ_=>I.o _ K2) ?_;clear h K j A K1;have j:=I.o _ K2;try simp only[upP]
 refine ae 11 j ?_;refine ai 12 (λK h=>?_);go_simp
 refine af h (λs=>Nv rfl s) ?_;clear h K;refine aF ?_;clear j;go_upto_region 4 with fail
 go_cut [8,9] from 29 to 39 (λs8 s9 wx=>∃z q B E Z kc,s8= .c z/\s9= .slice Z (Xx (Kk f) (Qq l) r).2.length kc/\q= (Xx (Kk f) (Qq l) r).1/\K_ x wx/\x.heap.size<=z/\jM wx z q B E/\Strs wx B q.texts/\(B=none->E=0)/\Strs wx Z (Xx (Kk f) (Qq l) r).2)
 case first=>
  refine gY 13 I.o (K2.drew) (λj=>?_);have A:K_ w2 w2.drew:=aV w2;generalize e4:w2.drew=L at j A⊢;clear e4;refine au 0 j ?_;refine ae 4 j ?_;refine ae 5 j ?_;refine ae 6 j ?_;refine ik 7 11 (λK h=>?_) (λK h=>?_)
  .rw[Nt G5];go_simp
   go_at_call 70
   refine (d7.o L (K2.trans A)).mono ?_;rintro e a0 ⟨⟨B,E,Z,kc,rfl,P,a1,M⟩,k3⟩;obtain⟨q,N⟩:=aj ((Xx (Kk f) (Qq l) r).1);obtain⟨asks,O⟩:=aj ((Xx (Kk f) (Qq l) r).2);rw[<-N] at P⊢;rw[<-O] at M⊢;have⟨HQ,HA,b8,a3,e5⟩:=iZ N O P M a1;clear P M a1 N O;dsimp only[Q_.cells];have S:=(K2.trans A).trans k3;refine h.out _ _ (λ_=>I.o _ S) ?_;clear h K j;have j:=I.o _ S;try simp only[upP]
   refine ae 8 j ?_;refine ae 9 j ?_;refine ae 10 j ?_;refine ai 11 (λK h=>?_);go_simp
   have K4:K_ a0 (a0.alloc (.cells #[.string ⟨#[]⟩,.bool false,.bool false,.string ⟨#[]⟩,.a 0,.a 0,M0] 40)):=ah _ _;refine af h (λ_=>I.o _ (S.trans K4)) ?_;clear h K;have T:aD (a0.alloc (.cells #[.string ⟨#[]⟩,.bool false,.bool false,.string ⟨#[]⟩,.a 0,.a 0,M0] 40)) a0.heap.size 40 7:=aD.made a0 _ _;have KE:=S.trans K4;have b2:=Kz (g_.new b8.o.strs K4);have b3:=Kz (g_.new a3.o.strs K4);have U:=S.size;obtain⟨z,a9⟩:=aj a0.heap.size;rw[<-a9] at T b2 b3 U⊢;generalize b4:a0.alloc (.cells #[.string ⟨#[]⟩,.bool false,.bool false,.string ⟨#[]⟩,.a 0,.a 0,M0] 40)=wE at T KE b2 b3⊢;clear b4 K4 a9 b8 a3;obtain⟨⟨⟨_,v0⟩,g6⟩,⟨⟨_,v1⟩,g7⟩,⟨⟨_,v2⟩,k2⟩,⟨⟨_,v3⟩,f3⟩,⟨⟨_,v4⟩,k4⟩,⟨⟨_,v5⟩,k5⟩,⟨_,v6⟩,k6⟩:=T.row.EC;have vz:=T.lt;refine ai 12 (λK h=>?_);go_simp
   refine h.out _ _ ?_ ?_
   .exact λ_=>I.o _ (bA (g:=z) U [.string q.name,.bool q.over,.bool q.fail,.string q.text,.a q.at',.a q.Zq,.slice B q.texts.length E] 0 KE)
   clear h K;try simp only[upP]
   refine ai 13 (λK h=>?_);go_simp
   refine af h (λs=>Nv rfl s) ?_;clear h K;refine aF ?_;go_wp2
   go_meet
   exact⟨z,q,B,E,Z,kc,rfl,by rw[HA.o],HQ.o,bA (g:=z) U [.string q.name,.bool q.over,.bool q.fail,.string q.text,.a q.at',.a q.Zq,.slice B q.texts.length E] 0 KE,U,jM.laid T,b2.o.sets [.string q.name,.bool q.over,.bool q.fail,.string q.text,.a q.at',.a q.Zq,.slice B q.texts.length E] 0,e5.o,by rw[<-HA.o];exact b3.o.sets [.string q.name,.bool q.over,.bool q.fail,.string q.text,.a q.at',.a q.Zq,.slice B q.texts.length E] 0⟩
  .rw[Nt G5];go_simp
   have g8:K_ L (L.alloc (.cells #[.string ⟨#[]⟩,.bool false,.bool false,.string ⟨#[]⟩,.a 0,.a 0,M0] 40)):=ah _ _;have b9:=(K2.trans A).trans g8;have c0:aD (L.alloc (.cells #[.string ⟨#[]⟩,.bool false,.bool false,.string ⟨#[]⟩,.a 0,.a 0,M0] 40)) L.heap.size 40 7:=aD.made L _ _;have U:=(K2.trans A).size;obtain⟨z,a9⟩:=aj L.heap.size;rw[<-a9] at c0 U⊢;generalize b4:L.alloc (.cells #[.string ⟨#[]⟩,.bool false,.bool false,.string ⟨#[]⟩,.a 0,.a 0,M0] 40)=wF at c0 b9⊢;clear b4 g8 a9;refine af h (λ_=>I.o _ b9) ?_;clear h K;refine aG 7 (λK h=>?_);go_simp
   go_at_call 70
   refine (d7.o wF b9).mono ?_;rintro e a0 ⟨⟨B,E,Z,kc,rfl,P,a1,M⟩,k3⟩;obtain⟨q,N⟩:=aj ((Xx (Kk f) (Qq l) r).1);obtain⟨asks,O⟩:=aj ((Xx (Kk f) (Qq l) r).2);rw[<-N] at P⊢;rw[<-O] at M⊢;have⟨HQ,HA,b8,a3,e5⟩:=iZ N O P M a1;clear P M a1 N O;dsimp only[Q_.cells];have S:=b9.trans k3;refine h.out _ _ (λ_=>I.o _ S) ?_;clear h K j;have j:=I.o _ S;try simp only[upP]
   refine ae 8 j ?_;refine ae 9 j ?_;refine ae 10 j ?_;have T:=c0.kept k3;have KE:=S;have m9:=c0.lt;have b2:=Kz (g_.LY (nb:=z) b8.o E5 E5);have b3:=Kz (g_.LY (nb:=z) a3.o E5 E5);obtain⟨⟨⟨_,v0⟩,g6⟩,⟨⟨_,v1⟩,g7⟩,⟨⟨_,v2⟩,k2⟩,⟨⟨_,v3⟩,f3⟩,⟨⟨_,v4⟩,k4⟩,⟨⟨_,v5⟩,k5⟩,⟨_,v6⟩,k6⟩:=T.row.EC;have vz:=T.lt;refine ai 12 (λK h=>?_);go_simp
   refine h.out _ _ ?_ ?_
   .exact λ_=>I.o _ (bA (g:=z) U [.string q.name,.bool q.over,.bool q.fail,.string q.text,.a q.at',.a q.Zq,.slice B q.texts.length E] 0 KE)
   clear h K;try simp only[upP]
   refine ai 13 (λK h=>?_);go_simp
   refine af h (λs=>Nv rfl s) ?_;clear h K;refine aF ?_;go_wp2
   go_meet
   exact⟨z,q,B,E,Z,kc,rfl,by rw[HA.o],HQ.o,bA (g:=z) U [.string q.name,.bool q.over,.bool q.fail,.string q.text,.a q.at',.a q.Zq,.slice B q.texts.length E] 0 KE,U,jM.laid T,b2.o.sets [.string q.name,.bool q.over,.bool q.fail,.string q.text,.a q.at',.a q.Zq,.slice B q.texts.length E] 0,e5.o,by rw[<-HA.o];exact b3.o.sets [.string q.name,.bool q.over,.bool q.fail,.string q.text,.a q.at',.a q.Zq,.slice B q.texts.length E] 0⟩
 case rest=>
  obtain⟨z,q,B,E,Z,kc,rfl,rfl,N,Kx,a9,e6,P,a1,M⟩:=hcut;obtain⟨w4,rfl⟩:=aj wc;have c1:q.Good f:=by rw[N];exact dP c9 d3 f9.o e0.o
  have k7:(Xx (Kk f) (Qq l) r).2.length<=5:=yj c9 d3 f9.o e0.o;obtain⟨asks,O⟩:=aj ((Xx (Kk f) (Qq l) r).2);rw[<-O] at k7 M⊢;have g9:Hid ((bN (Kk f) (cZ l q) asks).foldl cZ []=doL (Kk f) l r):=by show _=_;rw[O,N];rfl
  have h0:q.texts.length<=1000:=by have H:=c1.tl;have h2:=c1.hi;omega
  obtain⟨h1,h4,h5,h6,h7,g5,h8⟩:=e6.all;have gz:=e6.row.lt;have⟨a3,k8⟩:=aH M c1;have h9:Hid (∀W,K_ w4 W->Calls prog 71 #[.slice (some ⟨b,o,none⟩) l.length G,.agg #[.string q.name,.bool q.over,.bool q.fail,.string q.text,.a q.at',.a q.Zq,.slice B q.texts.length E]] W λe w'=>∃v,e= .returned v/\Iu W w' (λ_=>True) v (cZ l q)/\K_ W w'):=λW hW=>BQ W (some ⟨b,o,none⟩) G l q B E E5 h0 a7.asc (λ_=>True) (λ_ _=>trivial) ((HS.o.kept (b1.o.trans (Kx.trans hW))).all) (P.kept hW) a1
  obtain⟨b0,R,s1,_⟩:=I.o _ Kx;have k9:=Mf z0 Kx.size;have l0:=Mf z1 Kx.size;have b5:Hid (∀w',K_ w4 w'->w'.cell? ⟨w.heap.size,0,none⟩=some (.slice a f.length t)/\w'.cell? ⟨w.heap.size+1,1,none⟩=some (.slice (some ⟨b,o,none⟩) l.length G)/\w'.cell? ⟨z,0,none⟩=some (.string q.name)/\w'.cell? ⟨z,1,none⟩=some (.bool q.over)/\w'.cell? ⟨z,2,none⟩=some (.bool q.fail)/\w'.cell? ⟨z,3,none⟩=some (.string q.text)/\w'.cell? ⟨z,4,none⟩=some (.a q.at')/\w'.cell? ⟨z,5,none⟩=some (.a q.Zq)/\w'.cell? ⟨z,6,none⟩=some (.slice B q.texts.length E)):=λw' K=>⟨(K.cell k9).trans b0,(K.cell l0).trans s1,(K.cell gz).trans h1,(K.cell gz).trans h4,(K.cell gz).trans h5,(K.cell gz).trans h6,(K.cell gz).trans h7,(K.cell gz).trans g5,(K.cell gz).trans h8⟩
  clear N O M c1 P a1 e6 h1 h4 h5 h6 h7 g5 h8 b0 R s1 d7 f8;go_upto_region 5 with fail
  refine bC 7 b5.o λL A j=>?_
  refine au 0 j ?_;refine aG 4 (λK h=>?_);go_simp
  go_at_call 71
  refine (h9.o L A).mono ?_;rintro e V ⟨v5,rfl,l1,l2⟩;have K5:=A.trans l2;obtain⟨w6,i0,c2,e7,e8,i1⟩:=l1;obtain⟨av,cv,rfl⟩:=ay e8;have⟨i2,i3⟩:=aH e8 i1;have i4:=Kz (HN.o.kept (b1.o.trans (Kx.trans (A.trans c2))));have i5:=Kz (a3.o.kept (A.trans c2));have i6:=Kz e7;have i7:=Kz (A.trans c2);have n0:=e7.size;clear e8 i1 c2 e7;refine h.out _ _ (λ_=>b5.o _ K5) ?_;clear h K j;have j:=b5.o _ K5;try simp only[upP]
  refine ae 5 j ?_;refine ai 6 (λK h=>?_);go_simp
  have c3:K_ V (V.alloc (.cells #[.slice a f.length t,.slice av (cZ l q).length cv] 86)):=ah _ _;have c4:Hid (KnX w6 (V.alloc (.cells #[.slice a f.length t,.slice av (cZ l q).length cv] 86)) V.heap.size a f.length t (cZ l q) av cv i0):=⟨i6.o.trans c3,⟨aD.made V _ _,X_ V #[.slice a f.length t,.slice av (cZ l q).length cv] 86 0 _ rfl,X_ V #[.slice a f.length t,.slice av (cZ l q).length cv] 86 1 _ rfl⟩,ak i2.o c3,i3.o⟩;have K7:=K5.trans c3;obtain⟨kb,i8⟩:=aj V.heap.size;have l3:w6.heap.size<=kb:=E5;refine h.out _ _ (λ_=>b5.o _ K7) ?_;clear h K j;rw[<-i8] at c4⊢;generalize b4:V.alloc (.cells #[.slice a f.length t,.slice av (cZ l q).length cv] 86)=w7 at c4 K7⊢;clear b4 c3 i8;try simp only[upP]
  refine ai 7 (λK h=>?_);go_simp
  refine af h (λs=>Nv rfl s) ?_;clear h K;refine aF ?_;go_wp2_with fail
  refine (zt w6 w7 kb l3 a t f Z kc asks (cZ l q) av cv i0 d5 E5 (by have:=vk l q;omega) c4.o i4.o i5.o).mono ?_;rintro e w8 ⟨rfl,d8,e9,n1,b6⟩;have i9:K_ w4 w8:=i7.o.trans b6.kw;have m1:=b6.known.runs;have kz:=b6.known.row.lt;have f0:=Kz b6.runs;obtain⟨a4,b7⟩:=aj (bN (Kk f) (cZ l q) asks);have n2:a4.length<=1000:=by have H:=mh (Kk f) asks (cZ l q);have h2:=vk l q;rw[b7];omega
  have j0:Hid (∀c5∈a4,c5.texts.length<=1000):=λc5 hx=>by
   rw[b7] at hx;rcases tu _ _ _ _ hx with s|⟨n,rfl⟩
   .rcases rC.1 s with rfl|⟨H,_⟩
    .exact h0
    .have h2:=(a7.good c5 H).tl;have h3:=(a7.good c5 H).hi;omega
   .exact Mg _
  have j1:Hid (a4.foldl cZ []=doL (Kk f) l r):=by show _=_;rw[b7];exact g9.o
  rw[<-b7] at f0 m1;have K8:=Kx.trans i9;have l4:Hid (∀W,K_ w8 W->Calls prog 39 #[.slice (some ⟨C,D,none⟩) Kj.length F,.slice d8 a4.length e9] W λe w'=>zY Kj (doL (Kk f) l r) W w' e):=λW hW=>by
   have s:=qD W C D F Kj d8 e9 a4 j6 E5 j0.o (λa8=>by have:=kL a4 a8;omega) (j9.o.kept (b1.o.trans (K8.trans hW))) (f0.o.kept hW);rw[j1.o] at s;exact s
  obtain⟨_,R,_⟩:=I.o _ K8;have l5:=Mf z1 K8.size;have j2:Hid (∀w',K_ w8 w'->w'.cell? ⟨w.heap.size+1,0,none⟩=some (.slice (some ⟨C,D,none⟩) Kj.length F)/\w'.cell? ⟨kb,1,none⟩=some (.slice d8 a4.length e9)):=λw' K=>⟨(K.cell l5).trans R,(K.cell kz).trans m1⟩
  have j3:=Kz (f7.o.kept K8);have l6:=b1.o.trans K8;clear b6 b7 f0 j1 j0 g9 m1 R i9 c4 i4 i5 i6 i7 i2 i3 h9 b5 I f7 HN HS a3 k8;go_upto_region 7 with fail
  refine bC 7 j2.o λL A j=>?_
  refine au 0 j ?_;refine ae 4 j ?_;refine ae 5 j ?_;refine aG 6 (λK h=>?_);go_simp
  go_at_call 39
  refine (l4.o L A).mono ?_;rintro e w9 ⟨ra,a5,d9,a6,l7,rfl,j4,f1,f2,l8⟩;obtain⟨c6,f4⟩:=aj (doL (Kk f) l r);rw[<-f4] at f1 f2⊢;have l9:=Kz f4;have K9:=A.trans l8;have z9:=K9.size;have zd:=A.size;have⟨m0,m2,m3⟩:=dF j4 f1 f2;have c7:=Kz (j3.o.kept K9);obtain⟨⟨_,x0⟩,g6⟩:=c7.o.row.at (i:=0) E5;obtain⟨⟨_,x1⟩,g7⟩:=c7.o.row.at (i:=1) E5;have n3:=j3.o.lt;have n4:=c7.o.lt;clear j4 f1 f2 f4;refine af h (λ_=>j2.o _ K9) ?_;clear h K j;refine ai 7 (λK h=>?_);go_simp
  refine af h (λs=>Nv rfl s) ?_;clear h K;refine aF ?_;go_wp2_with fail
  have m4:=Mi w9 (w.heap.size+1+1) 0 [.slice ra Kj.length a5,.slice d9 c6.length a6] (c7.o.row.there (o:=0) (m:=2) (Me _));have hO:=bG (bG m2.o (p:=⟨w.heap.size+1+1,0,none⟩) (by show w.heap.size+1+1<_;omega) (.slice ra Kj.length a5)) (p:=⟨w.heap.size+1+1,1,none⟩) (by show w.heap.size+1+1<_;omega) (.slice d9 c6.length a6);have hT:=bG (bG m0.o (p:=⟨w.heap.size+1+1,0,none⟩) (by show w.heap.size+1+1<_;omega) (.slice ra Kj.length a5)) (p:=⟨w.heap.size+1+1,1,none⟩) (by show w.heap.size+1+1<_;omega) (.slice d9 c6.length a6);have hP:=(m3.o.set (c:=w.heap.size+1+1) (p:=0) (λb s=>E5) (.slice ra Kj.length a5)).set (c:=w.heap.size+1+1) (p:=1) (λb s=>E5) (.slice d9 c6.length a6);obtain rfl:=l9.o;exact Zx [.slice ra Kj.length a5,.slice d9 (doL (Kk f) l r).length a6] _ results30 rfl m4 underlying32 rfl Tryz.qR rfl ⟨ra,a5,d9,a6,l7,rfl,dM hT E5,dM hO E5,r_ hP (λb s=>E5),bA (g:=w.heap.size+1+1) E5 [.slice ra Kj.length a5,.slice d9 (doL (Kk f) l r).length a6] 0 (l6.trans K9)⟩
theorem o_{c:Nat}(h:w.ownsRow base t 1 (.slice a n c) n (l.map Value.string)):eU w t a l/\(a=none->c=0)/\∀b:Addr,a=some b->base<=b.block:=by
 have m:n=l.length:=by have:=h.1;simp at this;omega
 rcases h.2 with⟨e,p⟩|⟨g,q,d,e,f,j,r,_,_,_⟩
 .simp only[MW] at e;obtain⟨rfl,_,rfl⟩:=e;refine⟨.inl (Mw.1 E5),λ_=>rfl,λ_ e=>by cases e⟩
 .simp only[MW] at e;obtain⟨rfl,_,rfl⟩:=e;refine⟨.inr ⟨g,d,_,rfl,j,λi k=>?_⟩,λe=>(by cases e),λb e=>by cases e;exact f⟩;have:=h.cells (g:=g) rfl i (.string (l.getD i ByteArray.empty)) (by simp[List.getD,k]);rw[MZ,MM] at this;exact this
def Looks(P:Program)(gf:Nat)(rv:NJ)(encs:Nat->Array NJ)(V N:Nat->NI->Prop)(n:Nat)(ok:NI->Prop):Prop:=
 ∀(l:Nat) (J:Nat->NI->Prop) (Jx:NI->Prop) (W:NI),ok W->
  (∀i W1,i<n->J i W1->(V i W1/\YieldAt Fence.wide 7 P l (encs i) W1 λe W'=>(e= .returned (.bool true)/\J (i+1) W')\/(e= .returned (.bool false)/\Jx W'))\/(N i W1/\J (i+1) W1))->
  J 0 W->CallsIn Fence.wide 8 P gf #[rv,.func (.yield l) #[] #[]] W λe W'=>(∃v,e= .returned v)/\(J n W'\/Jx W')
def roundEnd(B:Nat)(I:NI->Prop)(Ix:Code->NI->Prop)(W:NI):Exit->Act->NI->Prop
 | .normal,_,W'=>KeepsFrom B W W'/\I W'
 | .ret,_,W'=>KeepsFrom B W W'/\Ix .ret W'
 | .exit id,_,W'=>KeepsFrom B W W'/\Ix (.exit id) W'
 | .goto t,_,W'=>KeepsFrom B W W'/\Ix (.goto t) W'
 | .panic _,_,_=>False
 | .outgrown,_,_=>False
def Calm(B:Nat)(I:NI->Prop):Prop:=(∀W o,B<=W.heap.size->I W->I (W.alloc o))/\∀(W:NI) (l:Nat) (o o':Obj),B<=l->W.heap[l]? =some o->o.isCells=false->I W->I (W.putObj l o')
theorem mU{P:Program}{g:Operand}{ps:Array Tmp}{assign body:Code}{U:Exit->Act->NI->Prop}{a:Act}{E:Nat}{L:NJ}{M:Nat->Array NJ}{V N:Nat->NI->Prop}{O:NI->Prop}
 (a7:Looks P E L M V N n O) (hg:a.eval g= .func (.func E) #[L] #[]) (eg:∀args w,(callFunc E args).run P w= .ok (.enter E args) w) (a1:Calm w.heap.size O) (a8:O w) (a9:∀i,(M i).size=ps.size)
 (I:Nat->NI->Prop) (Q:Code->NI->Prop) (H:∀i,Calm w.heap.size (I i)) (R:∀c,Calm w.heap.size (Q c)) (h0:I 0 w) (a₁:Nat->Act)
 (b0:∀(l i:Nat) (W:NI) (K:Act->NI->Prop),K (a₁ i) W->assign.wpIn (Fence.wide.inRound l) 7 P (Exit.then K (λ_ _ _=>False)) {tmps:=(ps.zip (M i)).foldl (λt (p,v)=>t.setIfInBounds p v) a.tmps,defers:=[]} W)
 (hV:∀i,Calm w.heap.size (V i))
 (b1:∀(i:Nat) (W:NI),i<n->I i W->(V i W/\∀l W',V i W'->I i W'->w.heap.size<=W'.heap.size->body.wpIn (Fence.wide.inRound l) 7 P (roundEnd w.heap.size (I (i+1)) Q W') (a₁ i) W')\/(N i W/\I (i+1) W))
 (b2:∀(D:Nat) (W:NI),w.heap.size<=D->I n W->W.heap[D]? =some (.deferred (some []))->U .normal {a with defers:={target:= .collected D,args:= #[]} :: a.defers} W)
 (b3:∀(D:Nat) (c:Code) (W:NI),w.heap.size<=D->Q c W->W.heap[D]? =some (.deferred (some []))->c.wpIn Fence.wide 9 P U {a with defers:={target:= .collected D,args:= #[]} :: a.defers} W):
  (Code.rangeFunc g ps assign body).wpIn Fence.wide 9 P U a w:=by
 refine wpIn_rangeFunc λfn b4=>?_
 obtain⟨D,hD⟩:=aj w.heap.size;obtain⟨b,f⟩:∃b:LoopState->Option Code->Loop,b=λs q=>{state:=s,pending:=q,fn,tmps:=a.tmps,params:=ps,assign,body,defers:=D}:=⟨_,rfl⟩
 have es:∀s q x X,({b s q with state:=x,pending:=X}:Loop)=b x X:=λs q x X=>by rw[f]
 have b5:∀s q x,({b s q with state:=x}:Loop)=b x q:=λs q x=>by rw[f]
 obtain⟨h,Y⟩:∃h,(w.alloc (.deferred (some []))).alloc (.loop (b .ready none))=h:=⟨_,rfl⟩;have z1:w.heap.size<=(w.alloc (.deferred (some []))).heap.size:=I8;have S:h.heap[D+1]? =some (.loop (b .ready none))/\h.heap[D]? =some (.deferred (some []))/\I 0 h/\O h:=by
  rw[<-Y,hD];refine⟨?_, ?_,(H 0).1 _ _ z1 ((H 0).1 _ _ (Me _) h0),a1.1 _ _ z1 (a1.1 _ _ (Me _) a8)⟩
  .have:=World.alloc_heap_new (w.alloc (.deferred (some []))) (.loop (b .ready none))
   rwa [MS] at this
  .exact (Below.heap_alloc _ _ _ E9).trans (World.alloc_heap_new w _)
 refine⟨D+1,[{target:= .collected D,args:= #[]}],h,{target:= .fn (.func E) #[],args:= #[L,.func (.yield (D+1)) #[] #[]]},h,E,#[L,.func (.yield (D+1)) #[] #[]],h, ?_, ?_,λ_ _=>trivial, ?_,λ_=>E5, ?_⟩
 .rw[<-Y,f,hD];exact run_enterLoop_outer _ _ _ _ _
 .simp only[resolve,hg];simp[go_sem]
 .simp[invoke,go_sem,eg]
 refine (a7 (D+1) (λi W=>I i W/\w.heap.size<=W.heap.size/\W.heap[D+1]? =some (.loop (b .ready none))/\W.heap[D]? =some (.deferred (some []))) (λW=>∃c,Q c W/\W.heap[D+1]? =some (.loop (b .done (some c)))/\W.heap[D]? =some (.deferred (some []))) h S.2.2.2 ?_ ⟨S.2.2.1,by rw[<-Y];simp;omega,S.1,S.2.1⟩).mono ?_
 .rintro i W J ⟨a2,Z,e,F⟩;have b6:D+1<W.heap.size:=(MR.1 e).1;rcases b1 i W J a2 with⟨a4,b7⟩|⟨b8,b9⟩
  .refine .inl ⟨a4, ?_⟩;have hy:=run_yield (P:=P) (args:=M i) e (by rw[f];exact a9 i);rw[f] at hy;refine⟨fn,_,assign,body,hy, ?_⟩;refine roundIn_of_wpIn b4 (b0 _ i W _ ⟨_,run_beginRound e (by rw[f]), ?_⟩);obtain⟨m,G⟩:∃m,W.putObj (D+1) (.loop {b .ready none with state:= .busy})=m:=⟨_,rfl⟩;rw[G];have c0:m.heap[D+1]? =some (.loop (b .busy none)):=by rw[<-G,World.putObj_heap_same b6,b5]
   have c1:m.heap[D]? =some (.deferred (some [])):=by rw[<-G,World.putObj_heap_other E5];exact F
   have a5:w.heap.size<=m.heap.size:=by rw[<-G,World.putObj_size];exact Z
   have c2:I i m:=by rw[<-G];exact (H i).2 _ _ _ _ E5 e rfl a2
   have c3:V i m:=by rw[<-G];exact (hV i).2 _ _ _ _ E5 e rfl a4
   refine wpIn_mono (b7 _ m c3 c2 a5) ?_;have fin:∀(r:Option Code) (j:NI),KeepsFrom w.heap.size m j->
     ∃d,(Instr.endRound (D+1) r).run P j= .ok (.bool r.isNone) d/\d=j.putObj (D+1) (.loop (b (if r.isNone then .ready else .done) r))/\j.heap[D+1]? =some (.loop (b .busy none))/\d.heap[D+1]? =some (.loop (b (if r.isNone then .ready else .done) r))/\d.heap[D]? =some (.deferred (some []))/\w.heap.size<=d.heap.size:=λr j hk=>by
    have a0:=hk.same _ _ E5 c0 rfl;have c4:=hk.same _ _ E5 c1 rfl;refine⟨_,run_endRound (P:=P) r a0,by rw[es],a0, ?_, ?_, ?_⟩
    .rw[es];exact World.putObj_heap_same (MR.1 a0).1
    .rw[World.putObj_heap_other E5];exact c4
    .rw[World.putObj_size];exact Mh a5 hk.size
   intro a6 a3 j k;cases a6 with
   | normal=>
    obtain⟨d,y,z,A,B,C,T⟩:=fin none j k.1;exact⟨_,d,y,.inl ⟨rfl,by rw[z];exact (H _).2 _ _ _ _ E5 A rfl k.2,T,B,C⟩⟩
   | ret=>
    obtain⟨d,y,z,A,B,C,T⟩:=fin (some .ret) j k.1;exact⟨_,d,y,.inr ⟨rfl,.ret,by rw[z];exact (R _).2 _ _ _ _ E5 A rfl k.2,B,C⟩⟩
   | exit id=>
    obtain⟨d,y,z,A,B,C,T⟩:=fin (some (.exit id)) j k.1;exact⟨_,d,y,.inr ⟨rfl,.exit id,by rw[z];exact (R _).2 _ _ _ _ E5 A rfl k.2,B,C⟩⟩
   | goto t=>
    obtain⟨d,y,z,A,B,C,T⟩:=fin (some (.goto t)) j k.1;exact⟨_,d,y,.inr ⟨rfl,.goto t,by rw[z];exact (R _).2 _ _ _ _ E5 A rfl k.2,B,C⟩⟩
   | panic ch=>exact k.elim
   | outgrown=>exact k.elim
  .exact .inr ⟨b8,b9,Z,e,F⟩
 .rintro a6 W2 ⟨⟨v,rfl⟩,(⟨J,Z,e,F⟩|⟨c,J,e,F⟩)⟩
  .refine⟨none,_,by have:=run_endLoop (P:=P) e (by rw[f];simp);rw[f] at this;exact this, ?_⟩;exact b2 D _ E5 ((H n).2 _ _ _ _ E5 e rfl J) (by rw[World.putObj_heap_other E5];exact F)
  .refine⟨some c,_,by have:=run_endLoop (P:=P) e (by rw[f];simp);rw[f] at this;exact this, ?_⟩;exact b3 D c _ E5 ((R c).2 _ _ _ _ E5 e rfl J) (by rw[World.putObj_heap_other E5];exact F)
structure But (S:Nat->Prop) (w w':NI):Prop where
 os:w'.os=w.os
 tape:w'.tape=w.tape
 output:w'.output=w.output
 size:w.heap.size<=w'.heap.size
 block:∀b,b<w.heap.size->¬S b->w'.heap[b]? =w.heap[b]?
section
variable {S : Nat -> Prop} {w w' w'' wz : NI}
theorem But.ax(h:K_ w w'):But S w w':=⟨h.os,h.tape,h.output,h.size,λb c _=>h.block b c⟩
theorem But.aI{row:Option Nat}(h:w.grownBy w' row)(c:∀b,row=some b->S b):But S w w':=⟨h.os,h.tape,h.output,h.size,λb d e=>h.block b d (λf=>e (c b f.symm))⟩
theorem But.trans(h:But S w w')(k:But S w' w''):But S w w'':=⟨k.os.trans h.os,k.tape.trans h.tape,k.output.trans h.output,Mh h.size k.size,λb c d=>(k.block b (Mf c h.size) d).trans (h.block b c d)⟩
theorem But.set(h:But S w w'){p:Addr}(c:S p.block)(v:NJ):But S w (w'.setCell p v):=⟨h.os,h.tape,h.output,by rw[size_setCell];exact h.size,λd e b=>by rw[Below.heap_setCell _ _ _ _ (λf=>b (by rw[f];exact c))];exact h.block d e b⟩
theorem But.mono{a:Nat->Prop}(h:But S w w')(d:∀b,b<w.heap.size->S b->a b):But a w w':=⟨h.os,h.tape,h.output,h.size,λb c e=>h.block b c (λf=>e (d b c f))⟩
theorem But.kept(h:But S w w')(k:K_ wz w)(d:∀b,S b->wz.heap.size<=b):K_ wz w':=
 ⟨h.os.trans k.os,h.tape.trans k.tape,h.output.trans k.output,Mh k.size h.size,λb c=>(h.block b (Mf c k.size) (λe=>by have:=d b e;omega)).trans (k.block b c)⟩
theorem But.cell(h:But S w w'){o:Nat}(c:b<w.heap.size)(d:¬S b):w'.cell? ⟨b,o,none⟩=w.cell? ⟨b,o,none⟩:=Mt (w:=w) (h.block b c d)
theorem But.row(h:But S w w')(a:aD w b t n)(d:¬S b):aD w' b t n:=a.block (h.block b a.lt d)
theorem But.range(h:But S w w'){o:Nat}(c:aD w b t n)(d:¬S b){cs:List NJ}(e:w.rangeAt b o cs):w'.rangeAt b o cs:=λj v i=>(h.cell c.lt d).trans (e j v i)
theorem But.owns(h:But S w w'){e:TypeId}{v:NJ}(a:w.ownsRow base e size v n xs)(d:∀b,v.ownBlock=some b->¬S b):w'.ownsRow base e size v n xs:=by
 refine⟨a.1, ?_⟩;rcases a.2 with f|⟨g,i,j,rfl,k,c,rest⟩
 .exact .inl f
 .exact .inr ⟨g,i,j,rfl,k,by rw[h.block g (aN c) (d g rfl)];exact c,rest⟩
end
def bn(w:NI)(b:Nat)(t:TypeId):Prop:=∃cur fr,w.heap[b]? =some (Obj.cells cur t fr)
theorem aD.type(h:aD w b t n):bn w b t:=let ⟨cur,h1,_⟩:=h;⟨cur,_,h1⟩
theorem Y_{e:TypeId}{v:NJ}(h:w.ownsRow base e size v n xs)(a:v.ownBlock=some b):bn w b e:=by
 rcases h.2 with⟨rfl,_⟩|⟨g,f,c,rfl,_,d,_⟩
 .cases a
 .simp only[Value.ownBlock,MV] at a;subst a;exact⟨c,_,d⟩
theorem aS{c:Nat}{u:TypeId}(h:bn w b t)(k:bn w c u)(d:t≠u):b≠c:=by
 rintro rfl;obtain⟨f,i,e⟩:=h;obtain⟨j,l,a⟩:=k;rw[e] at a;simp only[MV,Obj.cells.injEq] at a;exact d a.2.1
structure Zk where
 tb:Nat
 r:Q_
 cost:Int
 steps:List Xq
 sa:NH
 sc:Nat
 op:Nat
 tv:NJ
 qv:NJ
 qs:List NJ
 bl:NG
def Zk.cells(t:Zk):List NJ:=[.string t.r.name,.bool t.r.over,.bool t.r.fail,.string t.r.text,.a t.r.at',.a t.r.Zq,t.tv,.a t.cost,.slice t.sa t.steps.length t.sc,.a (t.op:Int),t.qv,.string t.bl]
def Zk.ptr(t:Zk):NJ:= .c t.tb
def Zk.own(t:Zk):List Nat:=t.tv.ownBlock.toList++t.qv.ownBlock.toList
def xI(b:Nat):NJ:= .c b
structure kr (base:Nat) (w:NI) (t:Zk):Prop where
 row:aD w t.tb 75 12
 rng:w.rangeAt t.tb 0 t.cells
 txt:w.ownsRow base 9 1 t.tv t.r.texts.length (t.r.texts.map Value.string)
 ask:w.ownsRow base 9 1 t.qv t.qs.length t.qs
 low:base<=t.tb
theorem kr.fq{t:Zk}(h:kr base w t){x:Nat}(a:x∈t.own):bn w x 9/\base<=x/\x<w.heap.size:=by
 unfold Zk.own at a;rcases Mo.1 a with a|a
 .have e:=MP.1 a;exact⟨Y_ h.txt e,h.txt.lt x e⟩
 .have e:=MP.1 a;exact⟨Y_ h.ask e,h.ask.lt x e⟩
variable {S : Nat -> Prop}
theorem kr.but{t:Zk}(h:kr base w t)(k:But S w w')(d:¬S t.tb)(h2:∀x∈t.own,¬S x):kr base w' t:=
 ⟨k.row h.row d,k.range h.row d h.rng,k.owns h.txt (λb c=>h2 b (Mo.2 (.inl (MP.2 c)))),k.owns h.ask (λb c=>h2 b (Mo.2 (.inr (MP.2 c)))),h.low⟩
def asIs(v:NJ):Option (DataW NJ×List MemPlace):=some (.held v,[])
def dH(s:NG):Lit:= .string s.data.toList
def Qj(ts:List Zk):List Q_:=ts.map (·.r)
structure bQ where
 wo:NI
 K:Nat->Prop
 ps:List (Nat×NG)
 I:Nat->Prop
def bQ.no(w:NI):bQ:=⟨w,λ_=>False,[],λ_=>False⟩
structure Fen (G:bQ) (w:NI) (bb mb:Nat) (ts:List Zk) (f:NG->NJ):Prop where
 size:G.wo.heap.size<=w.heap.size
 lt:∀k,G.K k->k<G.wo.heap.size
 same:∀k,G.K k->w.heap[k]? =G.wo.heap[k]?
 nb:¬G.K bb
 nm:¬G.K mb
 nt:∀t∈ts,¬G.K t.tb/\∀x∈t.own,¬G.K x
 nf:∀s x,(f s).ownBlock=some x->¬G.K x
 has:∀p∈G.ps,∃t∈ts,t.tb=p.1/\t.r.name=p.2
variable {mb : Nat}
theorem Fen.but{G:bQ}{c:Nat}{d:List Zk}{f:NG->NJ}(h:Fen G w c mb d f)(k:But S w w')(e:∀b,S b->¬G.K b):Fen G w' c mb d f:=
 ⟨Mh h.size k.size,h.lt,λb a=>(k.block b (Mf (h.lt b a) h.size) (λi=>e b i a)).trans (h.same b a),h.nb,h.nm,h.nt,h.nf,h.has⟩
theorem Fen.far{G:bQ}{a:Nat}{b:List Zk}{f:NG->NJ}(h:Fen G w a mb b f){x:Nat}(d:w.heap.size<=x):¬G.K x:=λc=>by
 have e:=h.lt x c;have i:=h.size;omega
theorem Fen.no{c:Nat}{d:List Zk}{f:NG->NJ}(h:w.heap.size<=w'.heap.size):Fen (bQ.no w) w' c mb d f:=
 ⟨h,λ_ e=>e.elim,λ_ e=>e.elim,id,id,λ_ _=>⟨id,λ_ _=>id⟩,λ_ _ _=>id,λ_ h=>(by cases h)⟩
structure BM (G:bQ) (Kq:List Qz) (wz w:NI) (bb:Nat) (a:NH) (cap:Nat) (rd:NH) (rn rc:Nat) (mb mx:Nat) (ts:List Zk) (d:NH) (dc:Nat) (f:NG->NJ) (ws:NG->List Nat):Prop where
 kw:K_ wz w
 row:aD w bb 123 6
 c0:w.cell? ⟨bb,0,none⟩=some (.slice a Kq.length cap)
 c1:w.cell? ⟨bb,1,none⟩=some (.func (.func 99) #[] #[])
 c2:w.cell? ⟨bb,2,none⟩=some (.slice rd rn rc)
 c3:w.cell? ⟨bb,3,none⟩=some (.slice d ts.length dc)
 c4:w.cell? ⟨bb,4,none⟩=some (.func (.func 55) #[] #[])
 c5:w.cell? ⟨bb,5,none⟩=some (.map (some mb))
 low:wz.heap.size<=bb
 items:w.ownsRow wz.heap.size 70 1 (.slice d ts.length dc) ts.length (ts.map Zk.ptr)
 fu:∀t∈ts,kr wz.heap.size w t
 act:∀t∈ts,Kk Kq t.r.name=some ⟨t.cost,t.steps⟩/\Steps wz t.sa t.steps
 asc:df (Qj ts)
 tbs:(ts.map (·.tb)).Nodup
 sep:ts.Pairwise λt u=>∀x∈t.own,x∉u.own
 yI:∀t∈ts,t.own.Nodup
 map:∃N D,N<=mx/\w.ownsMap prog 9 asIs mb N D/\∀s:NG,s.size<=maxLen->D.atKey (dH s) (.held M0)= .held (f s)
 Bb:wz.heap.size<=mb
 iW:∀s,w.ownsRow wz.heap.size 70 1 (f s) (ws s).length ((ws s).map xI)
 yG:∀s s',s≠s'->∀x,(f s).ownBlock=some x->(f s').ownBlock≠some x
 AZ:∀s x,(f s).ownBlock=some x->(Value.slice d ts.length dc).ownBlock≠some x
 qb:∀t∈ts,t.qs.length<=5*mx
 oth:Fen G w bb mb ts f
 gi:∀x,(Value.slice d ts.length dc).ownBlock=some x->¬(G.I x/\G.K x)
theorem iH{N:Nat}{D:DataW NJ}(h:w.ownsMap prog 9 asIs mb N D)(k:But S w w')(d:¬S mb):w'.ownsMap prog 9 asIs mb N D:=by
 obtain⟨e,f,b,F,i,j⟩:=h;exact⟨e,f,by rw[k.block mb (aN b) d];exact b,F,i,j⟩
theorem iq{N:Nat}{D:DataW NJ}(h:w.ownsMap prog 9 asIs mb N D)(k:bn w b t):b≠mb:=by
 rintro rfl;obtain⟨d,e,c,_⟩:=h;obtain⟨f,i,a⟩:=k;rw[c] at a;cases a
section
variable {G : bQ} {Kq : List Qz} {wz w w' : NI} {bb : Nat} {a : NH} {cap : Nat} {rd : NH} {rn rc : Nat} {mb mx : Nat} {ts : List Zk} {d : NH} {dc : Nat} {f : NG -> NJ} {ws : NG -> List Nat}
theorem BM.but(h:BM G Kq wz w bb a cap rd rn rc mb mx ts d dc f ws)(k:But S w w')(l:∀b,S b->wz.heap.size<=b)(c:¬S bb)(h2:¬S mb)(m:∀b,(Value.slice d ts.length dc).ownBlock=some b->¬S b)(n:∀s b,(f s).ownBlock=some b->¬S b)(j:∀t∈ts,¬S t.tb/\∀x∈t.own,¬S x)(p:∀b,S b->¬G.K b):BM G Kq wz w' bb a cap rd rn rc mb mx ts d dc f ws:=by
 have e:=h.row.lt;refine⟨k.kept h.kw l,k.row h.row c,(k.cell e c).trans h.c0,(k.cell e c).trans h.c1,(k.cell e c).trans h.c2,(k.cell e c).trans h.c3,(k.cell e c).trans h.c4,(k.cell e c).trans h.c5,h.low,k.owns h.items m,λt i=>(h.fu t i).but k (j t i).1 (j t i).2,h.act,h.asc,h.tbs,h.sep,h.yI, ?_,h.Bb,λs=>k.owns (h.iW s) (n s),h.yG,h.AZ,h.qb,h.oth.but k p,h.gi⟩;obtain⟨N,D,q,r,v⟩:=h.map;exact⟨N,D,q,iH r k h2,v⟩
theorem BM.kept(h:BM G Kq wz w bb a cap rd rn rc mb mx ts d dc f ws)(k:K_ w w'):BM G Kq wz w' bb a cap rd rn rc mb mx ts d dc f ws:=
 h.but (S:=λ_=>False) (But.ax k) (λ_ h=>h.elim) id id (λ_ _=>id) (λ_ _ _=>id) (λ_ _=>⟨id,λ_ _=>id⟩) (λ_ h=>h.elim)
theorem BM.more{c:Nat}(h:BM G Kq wz w bb a cap rd rn rc mb mx ts d dc f ws)(e:mx<=c):BM G Kq wz w bb a cap rd rn rc mb c ts d dc f ws:=
 ⟨h.kw,h.row,h.c0,h.c1,h.c2,h.c3,h.c4,h.c5,h.low,h.items,h.fu,h.act,h.asc,h.tbs,h.sep,h.yI,(by obtain⟨N,D,j,k⟩:=h.map;exact⟨N,D,Mh j e,k⟩),h.Bb,h.iW,h.yG,h.AZ,λt m=>Mh (h.qb t m) (Nat.mul_le_mul_left 5 e),h.oth,h.gi⟩
theorem bP{α:Type}{l:List α}{i:Nat}(h:i<l.length):l[i]∈l:=Mq h
theorem ou{t':Zk}{i:Nat}(_hi:i<ts.length):Qj (ts.set i t')= (Qj ts).set i t'.r:=by simp[Qj,List.map_set]
theorem zT{l:List Q_}{i:Nat}{b:Q_}(h:df l)(hi:i<l.length)(c:b.name=l[i].name):df (l.set i b):=by
 unfold df at h⊢;rw[Mr] at h⊢;intro p q d f k;rw[Np] at d f;rw[NF,NF];have:=h p q d f k
 split <;> split
 .omega
 .rename_i e _;subst e;rw[c];exact this
 .rename_i _ e;subst e;rw[c];exact this
 .exact this
theorem BM.turn(h:BM G Kq wz w bb a cap rd rn rc mb mx ts d dc f ws){i:Nat}(hi:i<ts.length)(k:But S w w')(y:∀b,S b->b=ts[i].tb\/b∈ts[i].own){t':Zk}(W:kr wz.heap.size w' t')(D:t'.tb=ts[i].tb)(I:t'.r.name=ts[i].r.name)(J:t'.cost=ts[i].cost)(X:t'.steps=ts[i].steps)(Y:t'.sa=ts[i].sa)(L:∀x∈t'.own,x∈ts[i].own\/w.heap.size<=x)(Z:t'.own.Nodup)(a0:t'.qs.length<=5*mx):BM G Kq wz w' bb a cap rd rn rc mb mx (ts.set i t') d dc f ws:=by
 have z:=h.row.lt;have q:=h.fu ts[i] (bP hi);have s:(ts.set i t').length=ts.length:=Np ..;have M:∀{b:Nat} {u:TypeId},bn w b u->u≠75->u≠9->¬S b:=λl h1 h2 n=>by
  rcases y _ n with e|e
  .exact aS l q.row.type h1 e
  .exact aS l (q.fq e).1 h2 rfl
 have hm:=h.map;obtain⟨a1,a2,hN,N,hf⟩:=hm;have a3:¬S mb:=λn=>by
  rcases y _ n with e|e
  .exact iq N q.row.type e.symm
  .exact iq N (q.fq e).1 rfl
 have t:¬S bb:=M h.row.type E8 E8;have other:∀(j:Nat) (c:j<ts.length),j≠i->¬S ts[j].tb/\∀x∈ts[j].own,¬S x:=λj c p=>by
  have Q:=h.fu ts[j] (bP c);refine⟨λn=>?_,λx m n=>?_⟩
  .rcases y _ n with e|e
   .have R:=Mr.1 h.tbs;rcases Nat.lt_or_gt_of_ne p with v|v
    .have:=R j i (by simpa using c) (by simpa using hi) v;simp at this;exact this e
    .have:=R i j (by simpa using hi) (by simpa using c) v;simp at this;exact this e.symm
   .exact aS Q.row.type (q.fq e).1 E8 rfl
  .rcases y _ n with e|e
   .exact aS (Q.fq m).1 q.row.type E8 e
   .have A:=Mr.1 h.sep;rcases Nat.lt_or_gt_of_ne p with v|v
    .exact A j i c hi v x m e
    .exact A i j hi c v x e m
 have mem:∀u∈ts.set i t',u=t'\/∃(j:Nat) (c:j<ts.length),j≠i/\u=ts[j]:=λu l=>by
  obtain⟨j,c,rfl⟩:=Ms l;rw[s] at c;rw[NF]
  split
  .exact .inl rfl
  .rename_i e;exact .inr ⟨j,c,Ne.symm e,rfl⟩
 have a4:∀b,S b->wz.heap.size<=b:=λb n=>by
  rcases y b n with e|e
  .rw[e];exact q.low
  .exact (q.fq e).2.1
 have a5:∀b,S b->¬G.K b:=λb n=>by
  rcases y b n with e|e
  .rw[e];exact (h.oth.nt _ (bP hi)).1
  .exact (h.oth.nt _ (bP hi)).2 b e
 have a6:Fen G w' bb mb (ts.set i t') f:=by
  have B:=h.oth.but k a5;refine⟨B.size,B.lt,B.same,B.nb,B.nm,λu l=>?_,B.nf,λE C=>?_⟩;rotate_left
  .obtain⟨u,l,T,F⟩:=h.oth.has E C;obtain⟨j,c,rfl⟩:=Ms l;by_cases e:j=i
   .subst e;exact⟨t',List.mem_set c _,by rw[D];exact T,by rw[I];exact F⟩
   .refine⟨ts[j], ?_,T,F⟩;have J:(ts.set i t')[j]'(by rw[s];exact c)=ts[j]:=by rw[NF,Nu (Ne.symm e)]
    rw[<-J];exact Mq _
  rcases mem u l with rfl|⟨j,c,p,rfl⟩
  .refine⟨by rw[D];exact (h.oth.nt _ (bP hi)).1,λx m=>?_⟩;rcases L x m with g | g
   .exact (h.oth.nt _ (bP hi)).2 x g
   .exact h.oth.far g
  .exact h.oth.nt _ (bP c)
 refine⟨k.kept h.kw a4,k.row h.row t,(k.cell z t).trans h.c0,(k.cell z t).trans h.c1,(k.cell z t).trans h.c2,by rw[s];exact (k.cell z t).trans h.c3,(k.cell z t).trans h.c4,(k.cell z t).trans h.c5,h.low, ?_, ?_, ?_, ?_, ?_, ?_, ?_,⟨a1,a2,hN,iH N k a3,hf⟩,h.Bb,λU=>k.owns (h.iW U) (λb e=>M (Y_ (h.iW U) e) E8 E8),h.yG,by rw[s];exact h.AZ,λu l=>by rcases mem u l with rfl | ⟨j,c,p,rfl⟩;exact a0;exact h.qb _ (bP c),a6,by rw[s];exact h.gi⟩
 .have e:(ts.set i t').map Zk.ptr=ts.map Zk.ptr:=by
   rw[List.map_set];have O:t'.ptr= (ts.map Zk.ptr)[i]'(by simpa using hi):=by simp[Zk.ptr,D]
   rw[O,List.set_getElem_self]
  rw[s,e];exact k.owns h.items (λb e=>M (Y_ h.items e) E8 E8)
 .intro u l;rcases mem u l with rfl|⟨j,c,p,rfl⟩
  .exact W
  .exact (h.fu _ (bP c)).but k (other j c p).1 (other j c p).2
 .intro u l;rcases mem u l with rfl|⟨j,c,p,rfl⟩
  .rw[I,J,X,Y];exact h.act _ (bP hi)
  .exact h.act _ (bP c)
 .rw[ou hi];exact zT h.asc (by simpa[Qj] using hi) (by simp[Qj,I])
 .have e:(ts.set i t').map (·.tb)=ts.map (·.tb):=by
   rw[List.map_set];have O:t'.tb= (ts.map (·.tb))[i]'(by simpa using hi):=by simp[D]
   rw[O,List.set_getElem_self]
  rw[e];exact h.tbs
 .rw[Mr];have A:=Mr.1 h.sep;intro E V C H P x m;rw[s] at C H;rw[NF] at m⊢
  split at m
  .rename_i e
   subst e;rw[Nu E5];rcases L x m with g|g
   .exact A i V hi H P x g
   .intro F;have:=((h.fu _ (bP H)).fq F).2.2;omega
  .split
   .rename_i e
    subst e;intro g;rcases L x g with g|g
    .exact A E i C hi P x m g
    .have:=((h.fu _ (bP C)).fq m).2.2;omega
   .exact A E V C H P x m
 .intro u l;rcases mem u l with rfl|⟨j,c,p,rfl⟩
  .exact Z
  .exact h.yI _ (bP c)
end
def zU(W:dA)(r:Q_)(bl:NG):Prop:=
 (bl= ⟨#[]⟩/\(r.over=true->r.fail=true->r.text=iJ\/∃A,W r.name=some A/\(stepOf A r.at').fin=true))\/
 (r.over=true/\r.fail=true/\(∃A,W r.name=some A/\(stepOf A r.at').fin=false/\bl∈(stepOf A r.at').asks)/\r.text= (⟨#[98,101,108,111,119,32]⟩:NG)++bl)
theorem zU.open{b:NG}(h:zU W r b)(c:r.over=false):b= ⟨#[]⟩:=by
 rcases h with h|⟨h,_⟩
 .exact h.1
 .rw[c] at h;cases h
theorem zU.still{a:NG}(c:a= ⟨#[]⟩)(d:r.over=false):zU W r a:= .inl ⟨c,λh=>by rw[d] at h;cases h⟩
def wD(W:dA)(σ:Env)(r:Q_)(qs:List NJ):Prop:=∃L,jO W σ r L/\qs=L.map Value.string
theorem wD.mono{m:NG}{a:List NJ}(h:wD W σ r a)(c:bB W σ m):wD W (doX W σ m) r a:=by
 obtain⟨L,e,f⟩:=h;exact⟨L,e.mono c,f⟩
theorem wD.unit{a:List NJ}(h:wD W σ r a)(c:aT W σ r):wD W σ (Xx W σ r).1 (a++ (Xx W σ r).2.map Value.string):=by
 obtain⟨L,d,e⟩:=h;exact⟨_,d.unit c,by rw[e,Ny]⟩
theorem wD.still{a:List NJ}(b:a=[])(c:r=Q_.fresh r.name):wD W σ r a:=⟨[],by rw[c];exact jO.start _,b⟩
def Zk.bq(t:Zk):NG×List NJ:=(t.bl,t.qs)
structure BS (Kq:List Qz) (ts:List Zk) (ws:NG->List Nat):Prop where
 good:dD Kq (Qj ts)
 op:∀t∈ts,t.op= (pend (Kk Kq) (Qq (Qj ts)) t.r).length
 wt:∀s,∀t∈ts,(t.tb∈ws s↔s∈pend (Kk Kq) (Qq (Qj ts)) t.r)
 wn:∀s,(ws s).Nodup
 ww:∀s b,b∈ws s->∃t∈ts,t.tb=b
 bl:∀t∈ts,zU (Kk Kq) t.r t.bl
 qs:∀t∈ts,wD (Kk Kq) (Qq (Qj ts)) t.r t.qs
def jN(w:NI)(xs:List NJ)(l:List Qz):Prop:=
 xs.length=l.length/\∀i,i<l.length->∃tb cur fr,xs[i]? =some (.c tb)/\w.heap[tb]? =some (Obj.cells cur 75 fr)/\w.cell? ⟨tb,0,none⟩=some (.string (l.getD i Qz.zero).name)
theorem jN.kept{w w':NI}{b:List NJ}{l:List Qz}(h:jN w b l)(k:K_ w w'):jN w' b l:=
 ⟨h.1,λi d=>by
  obtain⟨c,e,f,j,a,m⟩:=h.2 i d;exact⟨c,e,f,j,by rw[k.block c (aN a)];exact a,(k.cell (aN a)).trans m⟩⟩
def sZ(w:NI)(a:NH)(xs:List NJ):Prop:=∀i,i<xs.length->∃b o,a=some ⟨b,o,none⟩/\b<w.heap.size/\∀j u,xs[j]? =some u->w.cell? ⟨b,o+j,none⟩=some u
theorem sZ.kept{w w':NI}{a:NH}{b:List NJ}(h:sZ w a b)(k:K_ w w'):sZ w' a b:=by
 intro i d;obtain⟨f,o,e,c,j⟩:=h i d;exact⟨f,o,e,Mf c k.size,λl u m=>(k.cell c).trans (j l u m)⟩
theorem dY{w:NI}{base n:Nat}{t:TypeId}{a:NH}{c:Nat}{b:List NJ}(h:w.ownsRow base t 1 (.slice a n c) n b):sZ w a b:=by
 have k:b.length=n:=by have:=h.1;omega
 rcases h.2 with⟨e,l⟩|⟨g,m,p,e,q,d,r,_,_,_⟩
 .exact λi f=>E5
 .simp only[MW] at e;obtain⟨rfl,_,rfl⟩:=e;refine λi f=>⟨g,0,rfl,aN d,λs u j=>?_⟩
  have:=h.cells (g:=g) rfl _ _ j;rw[MZ] at this;exact this
theorem vD(w:NI)(tb:Nat)(n:NG)(a:w.cell? ⟨tb,0,none⟩=some (.string n)):
  Calls prog 55 #[.c tb] w λe w'=>e= .returned (.string n)/\w'=w:=by
 go_enter func55,ntmps55
 go_wp2
 go_ret
 exact⟨rfl,rfl⟩
theorem qY(w:NI)(g:Nat)(n:NG)(tb:Nat)(a:NG)(c:g<w.heap.size)(d:tb<w.heap.size)(b:w.cell? ⟨tb,0,none⟩=some (.string n))(f:w.cell? ⟨g,1,none⟩=some (.func (.func 55) #[] #[])):
  Calls prog 195 #[.c tb,.string a,.c g] w λe w'=>e= .returned (.a (jZ n.toList a.toList))/\K_ w w':=by
 go_enter func195,ntmps195
 go_wp2_with fail
 refine (vD _ tb n b).mono ?_;rintro e h ⟨rfl,rfl⟩;go_wp2_with fail
 refine (oV _ n a).mono ?_;rintro e i ⟨rfl,rfl⟩;go_wp2
 go_ret
 exact⟨rfl,K_.refl _⟩
theorem CS(w:NI)(g:Nat)(a:NH)(a1:Nat)(l:List Qz)(c:NG)(hl:l.length<=1048576)(Q:fP l)(C:g<w.heap.size)(R:w.cell? ⟨g,1,none⟩=some (.func (.func 55) #[] #[]))(S:List NJ)(D:jN w S l)(T:sZ w a S):
  Calls prog 194 #[.slice a l.length a1,.string c,.func (.func 195) #[] #[.c g]] w
   λe w'=>Found l c.toList e/\K_ w w':=by
 have U:=Kz Q;clear Q;go_enter func194,ntmps194
 go_wp2
 go_loopw [9,10] (λH I wr=>∃i j:Nat,H= .a i/\I= .a j/\i<=j/\j<=l.length/\(∀t,t<i->Op.bytesLess (nameAt l t) c.toList=true)/\(∀t,j<=t->t<l.length->Op.bytesLess (nameAt l t) c.toList=false)/\K_ w wr) (λH I _=>(intOf I).toNat-(intOf H).toNat)
 case atStart=>exact⟨0,l.length,rfl,rfl,Mg _,Me _,λt V=>aO V,λt h1 W=>E5,K_.refl _⟩
 case round=>
  obtain⟨i,j,rfl,rfl,a7,X,p,q,d⟩:=hrel;have r:=Kz (And.intro p q);clear p q;by_cases a8:(i:Int)<j
  .obtain⟨h,Y⟩:∃h:Nat,h= (i+j) / 2:=⟨_,rfl⟩;have J:h<l.length:=E5;have a2:i<=h:=E5;have a9:h<j:=E5;obtain⟨b,o,rfl,hb,s⟩:=T.kept d h (by rw[D.1];exact J);obtain⟨v,a3,fr,x,y,k⟩:=(D.kept d).2 h J;obtain⟨f,m⟩:=aj (l.getD h Qz.zero);rw[<-m] at k;have K:=Kz m;have L:=s _ _ x;have z:wr.cell? ⟨v,0,none⟩=some (.string f.name):=k;have M:=aN y;clear m s k x y;have b0:((i:Int)+ (j:Int)) / 2= (h:Int):=E5;have HH:=Kz Y;clear Y;have N:g<wr.heap.size:=Mf C d.size;have O:wr.cell? ⟨g,1,none⟩=some (.func (.func 55) #[] #[]):=by rw[d.cell C];exact R
   go_wp2_with fail
   refine (qY _ g f.name v c N M z O).mono ?_;rintro e w1 ⟨rfl,A⟩;have B:nameAt l h=f.name.toList:=by unfold nameAt;rw[<-K.o]
   have E:Hid (jZ f.name.toList c.toList<0↔Op.bytesLess (nameAt l h) c.toList=true):=by rw[B];exact wu
   clear L z B;generalize jZ f.name.toList c.toList=Z at *;have F:=d.trans A;clear d A;by_cases a4:Z<0
   .go_wp2
    go_roundw
    case rel=>
     obtain⟨p,q⟩:=r.o;refine⟨h+1,j,F3,rfl,E5,X,λt V=>?_,q,F⟩;have n:=E.o.1 a4;by_cases e:t=h
     .subst e;exact n
     .exact eY _ _ _ (U.o t h E5 J) n
    case measure=>simp[intOf];omega
   .go_wp2
    go_roundw
    case rel=>
     obtain⟨p,q⟩:=r.o;refine⟨i,h,rfl,F3,a2,E5,p,λt h1 W=>?_,F⟩;have n:Op.bytesLess (nameAt l h) c.toList=false:=by
      cases P:Op.bytesLess (nameAt l h) c.toList
      .rfl
      .have:=E.o.2 P;omega
     by_cases e:t=h
     .subst e;exact n
     .cases P:Op.bytesLess (nameAt l t) c.toList
      .rfl
      .rw[eY _ _ _ (U.o h t E5 W) P] at n;cases n
    case measure=>simp[intOf];omega
  .have a5:i=j:=E5;subst a5;have a0:Hid (Place l c.toList i):=⟨X,r.o.1,r.o.2⟩;clear r;by_cases G:i<l.length
   .obtain⟨b,o,rfl,hb,s⟩:=T.kept d i (by rw[D.1];exact G);obtain⟨v,a3,fr,x,y,k⟩:=(D.kept d).2 i G;obtain⟨f,m⟩:=aj (l.getD i Qz.zero);rw[<-m] at k;have K:=Kz m;have L:=s _ _ x;have z:wr.cell? ⟨v,0,none⟩=some (.string f.name):=k;have M:=aN y;clear m s k x y;have N:g<wr.heap.size:=Mf C d.size;have O:wr.cell? ⟨g,1,none⟩=some (.func (.func 55) #[] #[]):=by rw[d.cell C];exact R
    have a6:(i:Int)<l.length:=E5;go_wp2_with fail
    refine (qY _ g f.name v c N M z O).mono ?_;rintro e w1 ⟨rfl,A⟩;have B:nameAt l i=f.name.toList:=by unfold nameAt;rw[<-K.o]
    have E:Hid (jZ f.name.toList c.toList=0↔nameAt l i=c.toList):=by rw[B];exact tQ
    clear L z B;generalize jZ f.name.toList c.toList=Z at *;have F:=d.trans A;clear d A;go_wp2
    go_ret2
    refine⟨Found.mk i _ rfl a0.o ?_,F⟩;rw[<-E.o];simp[G]
   .have a6:¬(i:Int)<l.length:=E5;go_wp2
    go_ret2
    exact⟨Found.mk i false rfl a0.o (by simp;intro h;exact Nv h G),d⟩
theorem yQ(w:NI)(a:NH)(b:Nat)(l:List Qz)(c:NG)(j:l.length<=1048576)(k:fP l)(d:List NJ)(m:jN w d l)(n:sZ w a d):
  Calls prog 165 #[.agg #[.slice a l.length b,.func (.func 55) #[] #[]],.string c] w
   λe w'=>Found l c.toList e/\K_ w w':=by
 have f:K_ w (w.alloc (.cells #[.slice a l.length b,.func (.func 55) #[] #[]] 121)):=ah _ _;go_enter func165,ntmps165
 go_wp2_with fail
 refine (CS _ w.heap.size a b l c j k E9 E9 d (m.kept f) (n.kept f)).mono ?_;rintro e x ⟨p,q⟩;obtain⟨r,s,rfl,h,i⟩:=p;have⟨t,v⟩:=aH h i;clear h i;go_wp2
 go_ret2
 exact⟨Found.mk r s rfl t.o v.o,f.trans q⟩
def iP(ts:List Zk):List Qz:=ts.map λt=>⟨t.r.name,0,[]⟩
theorem dW(a:List Zk):(iP a).length=a.length:=by simp[iP]
theorem iB{a:List Zk}{i:Nat}(h:i<a.length):((iP a).getD i Qz.zero).name=a[i].r.name:=by simp[iP,List.getD,h]
theorem sD{b:List Zk}(h:df (Qj b)):fP (iP b):=λi j f a=>by
 rw[dW] at a;unfold nameAt;rw[iB E5,iB a];have:=Mr.1 h i j (by simp[Qj];omega) (by simpa[Qj] using a) f;unfold aR at this;simpa[Qj] using this
section
variable {G : bQ} {Kq : List Qz} {wz w w' : NI} {bb : Nat} {a : NH} {cap : Nat} {rd : NH} {rn rc : Nat} {mb mx : Nat} {ts : List Zk} {d : NH} {dc : Nat} {f : NG -> NJ} {ws : NG -> List Nat}
theorem BM.packed(h:BM G Kq wz w bb a cap rd rn rc mb mx ts d dc f ws):jN w (ts.map Zk.ptr) (iP ts):=
 ⟨by simp[iP],λi b=>by
  rw[dW] at b;have c:=h.fu ts[i] (Mq b);obtain⟨e,j,_⟩:=c.row;exact⟨ts[i].tb,e,_,by simp[b,Zk.ptr],j,by rw[iB b];exact c.rng 0 _ rfl⟩⟩
def IW(ts:List Zk)(n:NG)(e:Ending):Prop:=(∃(i:Nat) (hi:i<ts.length),ts[i].r.name=n/\e= .returned ts[i].ptr)\/((∀t∈ts,t.r.name≠n)/\e= .returned (.pointer none))
theorem qg(c:BM G Kq wz w bb a cap rd rn rc mb mx ts d dc f ws)(n:NG)(P:ts.length<=1048576):
  Calls prog 113 #[.c bb,.string n] w λe w'=>IW ts n e/\K_ w w':=by
 have v:=c.c3;have E:=c.c4;have Q:=c.row.lt;have l:=dW ts;have h:=Kz c;clear c;go_enter func113,ntmps113
 go_wp2_with fail
 have m:=yQ w d dc (iP ts) n E5 (sD h.o.asc) (ts.map Zk.ptr) h.o.packed (dY h.o.items);rw[l] at m;refine m.mono ?_;rintro e F ⟨⟨p,H,rfl,x,y⟩,q⟩;have⟨I,z,R⟩:=dF x y l;clear x y m l v E;have j:=h.o.kept q;have v:=j.c3;have S:=j.row.lt;cases H
 .go_wp2
  go_ret
  refine⟨.inr ⟨λT J e=>?_,rfl⟩,q⟩;obtain⟨A,B,rfl⟩:=Ms J;have K:=I.o;have L:¬(p<(iP ts).length/\nameAt (iP ts) p=n.toList):=λM=>by have:=z.o.2 M;cases this
  have s:nameAt (iP ts) A=n.toList:=by unfold nameAt;rw[iB B,e]
  have t:A<(iP ts).length:=by rw[dW];exact B
  have N:=Place.only (sD h.o.asc) K t s;rw[N] at t s;exact L ⟨t,s⟩
 .obtain⟨i,k⟩:=z.o.1 rfl;rw[dW] at i;have C:ts[p].r.name=n:=by unfold nameAt at k;rw[iB i] at k;exact toList_inj.1 k
  obtain⟨b,o,rfl,U,D⟩:=dY j.items p (by simpa using i);have V:F.cell? ⟨b,o+p,none⟩=some ts[p].ptr:=D p _ (by simp[i]);have W:(p:Int)<(ts.length:Int):=E5;have O:=Kz C;clear C D k j;go_wp2
  go_ret
  exact⟨.inl ⟨p,i,O.o,rfl⟩,q⟩
theorem Ei(w:NI)(n:NG)(a:n.size<=1000):
  Calls prog 131 #[.string n] w λe w'=>e= .returned (.agg #[.bool true,.string (wK n)])/\K_ w w':=by
 go_enter func131,ntmps131
 have b:¬9223372036854775807<3+n.size:=E5;go_wp2
 exact Zx [.bool true,.string (wK n)] _ results131 rfl (X_ w #[.bool true,.string (wK n)] 80) underlying80 rfl Tryz.kX rfl ⟨rfl,ah _ _⟩
def Hd(Kq:List Qz)(l:List Q_)(n:NG)(e:Ending):Prop:=
 ∃(f:Bool) (t:NG) (ok:Bool),e= .returned (.tuple #[.agg #[.bool f,.string t],.bool ok])/\bH (Kk Kq) (Qq l) n= (if ok=true then some ⟨f,t⟩ else none)/\(ok=false->∃r,Qq l n=some r/\f=r.fail/\t=r.text)
theorem mg(p:BM G Kq wz w bb a cap rd rn rc mb mx ts d dc f ws)(n:NG)(S:ts.length<=1048576)(T:n.size<=1000)(y:(∃t∈ts,t.r.name=n)\/Kk Kq n=none):
  Calls prog 80 #[.c bb,.string n] w λe w'=>Hd Kq (Qj ts) n e/\K_ w w':=by
 have z:K_ w (w.alloc (.cells #[.bool false,.string ⟨#[]⟩] 80)):=ah _ _;go_enter func80,ntmps80
 go_wp2_with fail
 refine (qg (p.kept z) n S).mono ?_;rintro e q ⟨⟨i,A,B,rfl⟩|⟨L,rfl⟩,s⟩
 .obtain⟨t,b⟩:=aj (ts[i]);have C:=p.fu ts[i] (Mq A);rw[<-b] at C B;have v:=C.rng;have M:w.cell? ⟨t.tb,1,none⟩=some (.bool t.r.over):=v 1 _ rfl;have N:w.cell? ⟨t.tb,2,none⟩=some (.bool t.r.fail):=v 2 _ rfl;have O:w.cell? ⟨t.tb,3,none⟩=some (.string t.r.text):=v 3 _ rfl;have D:=C.row.lt;have E:Hid (∀w',K_ w w'->w'.cell? ⟨t.tb,1,none⟩=some (.bool t.r.over)/\w'.cell? ⟨t.tb,2,none⟩=some (.bool t.r.fail)/\w'.cell? ⟨t.tb,3,none⟩=some (.string t.r.text)):=λw' K=>⟨(K.cell D).trans M,(K.cell D).trans N,(K.cell D).trans O⟩
  have F:=Kz ((aD.made w #[.bool false,.string ⟨#[]⟩] 80).kept s);have c:=(z.trans s);obtain⟨U,V,W⟩:=E.o _ c;have⟨X,Y⟩:=aH B b;have P:ts[i].ptr= .c t.tb:=by rw[<-b];rfl
  rw[P];clear b B M N O v P;go_upto_region 4 with fail
  refine gY 17 E.o (c.drew) (λj=>?_);have H:K_ w q.drew:=c.drew;have k:=Kz (F.o.kept (aV q));generalize Z:q.drew=wd at j H k⊢;clear Z U V W;refine au 0 j ?_;refine au 4 j ?_;refine au 8 j ?_;refine au 12 j ?_;obtain⟨⟨_,x0⟩,f0⟩:=k.o.row.at (i:=0) E8;obtain⟨⟨_,x1⟩,f1⟩:=k.o.row.at (i:=1) E8;have xz:=k.o.lt;refine ai 16 (λK l=>?_);go_simp
  refine l.out _ _ ?_ ?_
  .exact λ_=>E.o _ (bA (g:=w.heap.size) (Me _) [.bool t.r.fail,.string t.r.text] 0 H)
  clear l K;try simp only[upP]
  refine ai 17 (λK l=>?_);go_simp
  refine af l (λh=>Nv rfl h) ?_;clear l K;refine aF ?_;go_wp2_with fail
  have I:=Mi wd w.heap.size 0 [.bool t.r.fail,.string t.r.text] (k.o.row.there (o:=0) (m:=2) (Me _));refine bu [.bool t.r.fail,.string t.r.text] _ (.bool t.r.over) results80 rfl I underlying80 rfl Tryz.kX rfl rfl ?_;refine⟨⟨t.r.fail,t.r.text,t.r.over,rfl, ?_⟩,bA (g:=w.heap.size) (Me _) [.bool t.r.fail,.string t.r.text] 0 H⟩;have Q:=(p.act ts[i] (Mq A)).1;have J:=bJ p.asc (Nf (Mq A):ts[i].r∈Qj ts);rw[<-Y.o,X.o] at Q J;refine⟨by unfold bH;rw[Q,J],λ_=>⟨t.r,J,rfl,rfl⟩⟩
 .have F:=Kz ((aD.made w #[.bool false,.string ⟨#[]⟩] 80).kept s);have c:=(z.trans s);have a0:=Kz L;clear L;go_wp2_with fail
  refine (Ei q n T).mono ?_;rintro e w2 ⟨rfl,R⟩;have x:=Kz (F.o.kept R);obtain⟨⟨_,x0⟩,f0⟩:=x.o.row.at (i:=0) E8;obtain⟨⟨_,x1⟩,f1⟩:=x.o.row.at (i:=1) E8;have xz:=x.o.lt;go_wp2_with fail
  have I:=Mi w2 w.heap.size 0 [.bool true,.string (wK n)] (x.o.row.there (o:=0) (m:=2) (Me _));refine bu [.bool true,.string (wK n)] _ (.bool true) results80 rfl I underlying80 rfl Tryz.kX rfl rfl ?_;refine⟨⟨true,wK n,true,rfl, ?_⟩,bA (g:=w.heap.size) (Me _) [.bool true,.string (wK n)] 0 (c.trans R)⟩;rcases y with⟨t,b,e⟩|y
  .exact Nv e (a0.o t b)
  .exact⟨by unfold bH;rw[y];rfl,λh=>by cases h⟩
theorem nQ(b:BM G Kq wz w bb a cap rd rn rc mb mx ts d dc f ws)(n:NG)(c:ts.length<=1048576)(h:n.size<=1000)(i:(∃t∈ts,t.r.name=n)\/Kk Kq n=none):
  Calls prog 80 #[.c bb,.string n] w λe w'=>EP Kq (Qj ts) n e/\K_ w w':=by
 refine (mg b n c h i).mono ?_;rintro e w' ⟨⟨f,t,j,k,l,_⟩,m⟩;exact⟨⟨f,t,j,k,l⟩,m⟩
end
section
variable {G : bQ} {Kq : List Qz} {wz w w' : NI} {bb : Nat} {a : NH} {cap : Nat} {rd : NH} {rn rc : Nat} {mb mx : Nat} {ts : List Zk} {d : NH} {dc : Nat} {f : NG -> NJ} {ws : NG -> List Nat}
theorem BM.store(j:BM G Kq wz w bb a cap rd rn rc mb mx ts d dc f ws){i:Nat}{t t':Zk}(hi:ts[i]? =some t){o:Nat}{v:NJ}(A:o<12)(e:t'.cells=t.cells.set o v)(k:t'.tb=t.tb)(B:t'.r.name=t.r.name)(C:t'.cost=t.cost)(D:t'.steps=t.steps)(E:t'.sa=t.sa)(q:t'.tv=t.tv)(s:t'.qv=t.qv)(y:t'.qs=t.qs)(F:t'.r.texts=t.r.texts):
  BM G Kq wz (w.setCell ⟨t.tb,o,none⟩ v) bb a cap rd rn rc mb mx (ts.set i t') d dc f ws:=by
 obtain⟨l,rfl⟩:=Mk.1 hi;have b:=j.fu _ (Mq l);have m:But (λc=>c=ts[i].tb) w (w.setCell ⟨ts[i].tb,o,none⟩ v):=But.set (S:=λc=>c=ts[i].tb) (But.ax (K_.refl w)) (p:=⟨ts[i].tb,o,none⟩) rfl v;have ne:∀x∈ts[i].own,x≠ts[i].tb:=λx n=>aS (b.fq n).1 b.row.type E8
 have z:t'.own=ts[i].own:=by unfold Zk.own;rw[q,s]
 refine j.turn l m (λc h=>.inl h) ⟨by rw[k];exact b.row.set v,by rw[k,e];exact mJ b.rng b.row.row A v, ?_, ?_,by rw[k];exact b.low⟩ k B C D E (λx n=>.inl (by rw[<-z];exact n)) (by rw[z];exact j.yI _ (Mq l)) (by rw[y];exact j.qb _ (Mq l))
 .rw[q,F];exact m.owns b.txt (λc h=>ne c (Mo.2 (.inl (MP.2 h))))
 .rw[s,y];exact m.owns b.ask (λc h=>ne c (Mo.2 (.inr (MP.2 h))))
theorem BM.at(h:BM G Kq wz w bb a cap rd rn rc mb mx ts d dc f ws){i:Nat}{t:Zk}(hi:ts[i]? =some t):kr wz.heap.size w t:=h.fu t (Mv hi)
theorem Tryz.KH(w:NI):(zeroValue 118).run prog w= .ok M0 w:=F4
theorem Tryz.keyed :Maps.Keyed prog 9:=Maps.string_keyed underlying9
theorem BM.look(h:BM G Kq wz w bb a cap rd rn rc mb mx ts d dc f ws){s:NG}(c:s.size<=maxLen):(Instr.lookup 117 (.map (some mb)) (.string s) false).run prog w= .ok (f s) w:=by
 obtain⟨N,D,_,i,j⟩:=h.map;obtain⟨v,m,k,b⟩:=i.lookup Tryz.keyed underlying117 (Tryz.KH w) (zd:= .held M0) (zp:=[]) rfl (WideMaps.keyOf_string_mk underlying9 c);have e:=j s c;unfold asIs at b;simp only[MV,Prod.mk.injEq] at b;have l:(DataW.held v:DataW NJ)= .held (f s):=b.1.trans e;cases l;exact k
theorem jR{s b:NG}(h:s≠b):dH s≠dH b:=λe=>h (by
 unfold dH at e;simp only[Lit.string.injEq] at e;exact Ad e)
theorem BM.del(h:BM G Kq wz w bb a cap rd rn rc mb mx ts d dc f ws){s:NG}(y:s.size<=maxLen)(p:TypeId):∃w',(Builtin.delete_ #[117,9] p #[.map (some mb),.string s]).run prog w= .ok (.tuple #[]) w'/\But (λb=>b=mb) w w'/\BM G Kq wz w' bb a cap rd rn rc mb mx ts d dc (λn=>if n=s then M0 else f n) (λn=>if n=s then [] else ws n):=by
 obtain⟨N,J,z,q,A⟩:=h.map;obtain⟨w',B,C,D⟩:=q.drop Tryz.keyed underlying117 (WideMaps.keyOf_string_mk underlying9 y) p;have k:But (λb=>b=mb) w w':=But.aI D.grown (λb e=>(Ng e).symm);refine⟨w',B,k, ?_⟩;have ne:∀{b:Nat} {t:TypeId},bn w b t->¬b=mb:=λE e=>iq q E e
 have l:=h.row.lt;have i:=ne h.row.type;have F:Fen G w' bb mb ts (λn=>if n=s then M0 else f n):=by
  have j:=h.oth.but k (λb e=>by rw[e];exact h.oth.nm);refine⟨j.size,j.lt,j.same,j.nb,j.nm,j.nt,λn x c=>?_,j.has⟩;by_cases e:n=s
  .simp only[Nt e] at c;cases c
  .simp only[Nu e] at c;exact h.oth.nf n x c
 refine⟨k.kept h.kw (λb e=>by rw[e];exact h.Bb),k.row h.row i,(k.cell l i).trans h.c0,(k.cell l i).trans h.c1,(k.cell l i).trans h.c2,(k.cell l i).trans h.c3,(k.cell l i).trans h.c4,(k.cell l i).trans h.c5,h.low,k.owns h.items (λb e=>ne (Y_ h.items e)),λt m=>(h.fu t m).but k (ne (h.fu t m).row.type) (λx c=>ne ((h.fu t m).fq c).1),h.act,h.asc,h.tbs,h.sep,h.yI,⟨N,_,z,C,λn H=>?_⟩,h.Bb,λn=>?_,λn r I x c=>?_,λn x c=>?_,h.qb,F,h.gi⟩
 .by_cases e:n=s
  .rw[Nt e,e];exact Maps.atKey_del_same _
  .rw[Nu e,<-A n H];exact Maps.atKey_del_other (jR e) _
 .by_cases e:n=s
  .simp only[Nt e];exact Nc _ _ _ _
  .simp only[Nu e];exact k.owns (h.iW n) (λb e=>ne (Y_ (h.iW n) e))
 .by_cases e:n=s
  .rw[Nt e] at c;cases c
  .rw[Nu e] at c;by_cases v:r=s
   .rw[Nt v];intro h;cases h
   .rw[Nu v];exact h.yG n r I x c
 .by_cases e:n=s
  .rw[Nt e] at c;cases c
  .rw[Nu e] at c;exact h.AZ n x c
end
def iF(ts:List Zk)(l:List Nat):List Zk:=ts.map λt=>if t.tb∈l then {t with op:=t.op-1} else t
theorem Cr{a:List Zk}{l:List Nat}{i:Nat}(h:i<(iF a l).length)(hi:i<a.length):(iF a l)[i]=if a[i].tb∈l then {a[i] with op:=a[i].op-1} else a[i]:=by simp[iF]
theorem Ca(a:List Zk):iF a []=a:=by simp[iF]
theorem zn{a:List Zk}{l:List Nat}{b j:Nat}{t:Zk}(p:(a.map (·.tb)).Nodup)(q:b∉l)(r:a[j]? =some t)(f:t.tb=b):iF a (l++ [b])= (iF a l).set j {t with op:=t.op-1}/\(iF a l)[j]? =some t:=by
 obtain⟨k,rfl⟩:=Mk.1 r;have s:(iF a l)[j]? =some a[j]:=by
  unfold iF;rw[List.getElem?_map,Mj k];simp only[Option.map_some,MV];rw[Nu (by rw[f];exact q)]
 refine⟨?_,s⟩;apply List.ext_getElem
 .simp[iF]
 .intro i m w;have c:i<a.length:=by simpa[iF] using m
  rw[NF,Cr m c];by_cases d:j=i
  .subst d;rw[Nt rfl,Nt (by rw[f];simp)]
  .rw[Nu d,Cr (by simpa[iF] using c) c];have v:a[i].tb≠b:=by
    rw[<-f];have n:=Mr.1 p;rcases Nat.lt_or_gt_of_ne d with h|h
    .have:=n j i (by simpa using k) (by simpa using c) h;simp at this;exact λd=>this d.symm
    .have:=n i j (by simpa using c) (by simpa using k) h;simpa using this
   by_cases e:a[i].tb∈l
   .rw[Nt e,Nt (Mo.2 (.inl e))]
   .rw[Nu e,Nu (by rw[Mo,Mm];rintro (h|h);exact e h;exact v h)]
open Go.RowKit Go.Shelf
attribute [local go_sem] Oper.semAt_some
def CE(d:NH)(tb:Nat->Nat)(i:Nat)(W:NI):Prop:=∃g,d=some ⟨g,0,none⟩/\W.cell? ⟨g,i,none⟩=some (.c (tb i))/\W.cell? ⟨tb i,1,none⟩=some (.bool false)/\W.cell? ⟨tb i,9,none⟩=some (.a 0)
def EN(d:NH)(tb:Nat->Nat)(i:Nat)(W:NI):Prop:=∃g,d=some ⟨g,0,none⟩/\W.cell? ⟨g,i,none⟩=some (.c (tb i))/\(W.cell? ⟨tb i,1,none⟩=some (.bool true)\/(W.cell? ⟨tb i,1,none⟩=some (.bool false)/\∃op:Nat,op≠0/\W.cell? ⟨tb i,9,none⟩=some (.a (op:Int))))
theorem lM(a:Nat)(d:NH)(n j:Nat)(tb:Nat->Nat)(A:n<=1048576):
  Looks prog 33 (.c a) (λi=>#[.c (tb i)]) (CE d tb) (EN d tb) n (λW=>W.cell? ⟨a,3,none⟩=some (.slice d n j)):=by
 intro l J B W C b k;refine callsIn_of_wp func33 rfl trivial ?_ rfl;simp only[ntmps33,List.size_toArray,MX,List.length_nil,Nat.reduceAdd,Nat.reduceSub,Array.replicate_succ,Array.replicate_zero,List.push_toArray,List.append_toArray,List.nil_append,List.cons_append];have m:=Kz b;clear b
 gi_wp2
 gi_loopw [12] (λx wr=>∃i:Nat,i<=n/\x= .a i/\J i wr) (λx _=>n-(intOf x).toNat)
 case atStart=>exact⟨0,Mg _,rfl,k⟩
 case round=>
  obtain⟨i,D,rfl,c⟩:=hrel;by_cases p:i<n
  .rcases m.o i wr p c with⟨⟨g,rfl,q,e,r⟩,E,F,G,H,I,s⟩|⟨⟨g,rfl,q,t⟩,f⟩
   .gi_wp2
    refine s.mono ?_;rintro K L (⟨rfl,v⟩|⟨rfl,w⟩)
    .gi_wp2
     go_roundw
     case rel=>exact⟨i+1,E5,F3,v⟩
     case measure=>simp[intOf];omega
    .gi_wp2
     refine bodyPost_ret (results_none rfl _ _ _) rfl ?_;exact⟨⟨_,rfl⟩,.inr w⟩
   .rcases t with e|⟨e,y,z,r⟩
    .gi_wp2
     refine⟨λ_ h=>(by cases h), ?_⟩
     gi_wp2
     go_roundw
     case rel=>exact⟨i+1,E5,F3,f⟩
     case measure=>simp[intOf];omega
    .have M:((y:Int) == 0)=false:=by simpa using z
     gi_wp2
     refine⟨λ_ h=>(by cases h), ?_⟩
     gi_wp2
     go_roundw
     case rel=>exact⟨i+1,E5,F3,f⟩
     case measure=>simp[intOf];omega
  .gi_wp2
   go_end0
   have:i=n:=E5;subst this;exact⟨⟨_,rfl⟩,.inl c⟩
theorem gu{w:NI}{b:Nat}{t:TypeId}(h:bn w b t){o:Obj}(a:w.heap[b]? =some o):o.isCells=true:=by
 obtain⟨e,f,d⟩:=h;rw[d] at a;cases a
 rfl
theorem bn.set{w:NI}{b:Nat}{t:TypeId}(h:bn w b t)(p:Addr)(v:NJ):bn (w.setCell p v) b t:=by
 obtain⟨d,a,c⟩:=h;by_cases e:b=p.block
 .subst e;obtain⟨f,i⟩:=MR.1 c;apply Exists.intro;apply Exists.intro (w:=a);show (w.heap.modify p.block _)[p.block]? =_;rw[Array.getElem?_eq_getElem (by rw[Array.size_modify];exact f),Array.getElem_modify_self,i]
 .exact⟨d,a,(Below.heap_setCell w p v b e).trans c⟩
structure InB (B:Nat) (Kf Kc:Nat->Prop) (ps:List (Nat×NG)) (W0:NI) (Kq:List Qz) (wz W:NI) (bb:Nat) (a:NH) (cap:Nat) (rd:NH) (rn rc:Nat) (mb mx:Nat) (ts:List Zk) (d:NH) (dc:Nat) (f:NG->NJ) (ws:NG->List Nat):Prop where
 bm:BM ⟨W,λk=>Kf k\/Kc k,ps,λ_=>False⟩ Kq wz W bb a cap rd rn rc mb mx ts d dc f ws
 same:∀k,Kf k->W.heap[k]? =W0.heap[k]?
 lt:∀k,Kf k\/Kc k->k<B
 mlt:mb<B
 size:B<=W.heap.size
 zlt:wz.heap.size<=B
 Jr:∀k,Kc k->wz.heap.size<=k/\∃t,bn W k t/\t≠70
section
variable {B : Nat} {Kf Kc : Nat -> Prop} {ps : List (Nat × NG)} {W0 : NI} {Kq : List Qz} {wz W W' : NI} {bb : Nat} {a : NH} {cap : Nat} {rd : NH} {rn rc : Nat} {mb mx : Nat} {ts : List Zk} {d : NH} {dc : Nat} {f : NG -> NJ} {ws : NG -> List Nat}
theorem BM.as{G b:bQ}(h:BM G Kq wz W bb a cap rd rn rc mb mx ts d dc f ws)(c:Fen b W bb mb ts f)(e:∀x,(Value.slice d ts.length dc).ownBlock=some x->¬(b.I x/\b.K x)):BM b Kq wz W bb a cap rd rn rc mb mx ts d dc f ws:=
 ⟨h.kw,h.row,h.c0,h.c1,h.c2,h.c3,h.c4,h.c5,h.low,h.items,h.fu,h.act,h.asc,h.tbs,h.sep,h.yI,h.map,h.Bb,h.iW,h.yG,h.AZ,h.qb,c,e⟩
theorem BM.no{G:bQ}(h:BM G Kq wz W bb a cap rd rn rc mb mx ts d dc f ws):BM (bQ.no wz) Kq wz W bb a cap rd rn rc mb mx ts d dc f ws:=h.as (Fen.no h.kw.size) (λ_ _ h=>h.1)
theorem BM.block{G:bQ}(h:BM G Kq wz W bb a cap rd rn rc mb mx ts d dc f ws){S:Nat->Prop}(k:¬S mb)(c:∀b,S b->∀t,¬bn W b t):¬S bb/\¬S mb/\(∀b,(Value.slice d ts.length dc).ownBlock=some b->¬S b)/\(∀s b,(f s).ownBlock=some b->¬S b)/\∀t∈ts,¬S t.tb/\∀x∈t.own,¬S x:=
 ⟨λe=>c _ e _ h.row.type,k,λ_b i e=>c _ e _ (Y_ h.items i),λs _b i e=>c _ e _ (Y_ (h.iW s) i),λt j=>⟨λe=>c _ e _ (h.fu t j).row.type,λ_x l e=>c _ e _ ((h.fu t j).fq l).1⟩⟩
theorem InB.but{S:Nat->Prop}(h:InB B Kf Kc ps W0 Kq wz W bb a cap rd rn rc mb mx ts d dc f ws)(k:But S W W')(l:∀b,S b->wz.heap.size<=b)(c:¬S bb/\¬S mb/\(∀b,(Value.slice d ts.length dc).ownBlock=some b->¬S b)/\(∀s b,(f s).ownBlock=some b->¬S b)/\∀t∈ts,¬S t.tb/\∀x∈t.own,¬S x)(m:∀b,S b->¬Kf b)(n:∀b,S b->Kc b->∀t,bn W b t->bn W' b t):InB B Kf Kc ps W0 Kq wz W' bb a cap rd rn rc mb mx ts d dc f ws:=by
 have p:=h.bm.no.but k l c.1 c.2.1 c.2.2.1 c.2.2.2.1 c.2.2.2.2 (λ_ _=>id);have i:=h.bm.oth;refine⟨p.as ⟨Me _,λb c=>Mf (i.lt b c) k.size,λ_ _=>rfl,i.nb,i.nm,i.nt,i.nf,i.has⟩ (λ_ _ h=>h.1),λb c=>?_,h.lt,h.mlt,Mh h.size k.size,h.zlt,λb c=>?_⟩
 .exact (k.block b (i.lt b (.inl c)) (λe=>m b e c)).trans (h.same b c)
 .obtain⟨q,t,j,r⟩:=h.Jr b c;refine⟨q,t, ?_,r⟩;by_cases e:S b
  .exact n b e c t j
  .obtain⟨v,w,y⟩:=j;exact⟨v,w,by rw[k.block b (i.lt b (.inr c)) e];exact y⟩
theorem InB.kept(h:InB B Kf Kc ps W0 Kq wz W bb a cap rd rn rc mb mx ts d dc f ws)(k:K_ W W'):InB B Kf Kc ps W0 Kq wz W' bb a cap rd rn rc mb mx ts d dc f ws:=
 h.but (S:=λ_=>False) (But.ax k) (λ_ e=>e.elim) ⟨id,id,λ_ _=>id,λ_ _ _=>id,λ_ _=>⟨id,λ_ _=>id⟩⟩ (λ_ e=>e.elim) (λ_ e=>e.elim)
theorem lZ(k:K_ W W')(B:Nat):KeepsFrom B W W':=⟨k.size,λb _o _ a _=>(k.block b (aN a)).trans a⟩
theorem InB.calm(h:InB B Kf Kc ps W0 Kq wz W bb a cap rd rn rc mb mx ts d dc f ws){l:Nat}{o:Obj}(i:Obj)(j:B<=l)(k:W.heap[l]? =some o)(m:o.isCells=false):InB B Kf Kc ps W0 Kq wz (W.putObj l i) bb a cap rd rn rc mb mx ts d dc f ws:=by
 have n:But (λb=>b=l) W (W.putObj l i):=⟨rfl,rfl,rfl,G7,λb _ e=>World.putObj_heap_other e⟩;refine h.but n (λb e=>by rw[e];exact Mh h.zlt j) (h.bm.block (S:=λb=>b=l) (λ(e:mb=l)=>by have:=h.mlt;omega) (λb e t p=>?_)) (λb e c=>?_) (λb e c=>?_)
 .have:=gu p (by rw[e];exact k);rw[m] at this;cases this
 .have:=h.lt b (.inl c);omega
 .have:=h.lt b (.inr c);omega
theorem InB.store(i:InB B Kf Kc ps W0 Kq wz W bb a cap rd rn rc mb mx ts d dc f ws){p:Addr}(c:Kc p.block)(m:¬Kf p.block)(v:NJ):InB B Kf Kc ps W0 Kq wz (W.setCell p v) bb a cap rd rn rc mb mx ts d dc f ws:=by
 have n:But (λb=>b=p.block) W (W.setCell p v):=But.set (S:=λb=>b=p.block) (But.ax (K_.refl W)) rfl _;have h:=i.bm.oth;obtain⟨q,A,r,s⟩:=i.Jr _ c;refine i.but n (λb e=>by rw[e];exact q) ⟨λe=>h.nb (by rw[e];exact .inr c),λe=>h.nm (by rw[e];exact .inr c),λb j e=>?_,λt b j e=>h.nf t b j (by rw[e];exact .inr c),λu k=>⟨λe=>(h.nt u k).1 (by rw[e];exact .inr c),λx w e=>(h.nt u k).2 x w (by rw[e];exact .inr c)⟩⟩ (λb e=>by rw[e];exact m) (λb e _ u k=>?_)
 .rw[e] at j;exact aS r (Y_ i.bm.items j) s rfl
 .obtain⟨y,z,l⟩:=k;rw[e] at l⊢;exact bn.set ⟨y,z,l⟩ p v
def inG(B:Nat)(Kf Kc:Nat->Prop)(ps:List (Nat×NG))(W:NI):bQ:=⟨W,λk=>(Kf k\/Kc k)\/(B<=k/\∃o,W.heap[k]? =some o/\o.isCells=false),ps,λ_=>False⟩
theorem InB.told(h:InB B Kf Kc ps W0 Kq wz W bb a cap rd rn rc mb mx ts d dc f ws):BM (inG B Kf Kc ps W) Kq wz W bb a cap rd rn rc mb mx ts d dc f ws:=by
 have c:=h.bm.oth;have j:=h.bm.block (S:=λk=>B<=k/\∃o,W.heap[k]? =some o/\o.isCells=false) (λe=>by have:=h.mlt;omega) (λb e t i=>by
  obtain⟨_,o,m,p⟩:=e;have:=gu i m;rw[p] at this;cases this)
 refine h.bm.as ⟨Me _,λk n=>?_,λ_ _=>rfl, ?_, ?_,λt i=>⟨?_,λx l=>?_⟩,λs x l=>?_,c.has⟩ (λ_ _ h=>h.1)
 .rcases n with n|⟨_,o,m,_⟩
  .exact c.lt k n
  .exact aN m
 .rintro (e|e)
  .exact c.nb e
  .exact j.1 e
 .rintro (e|e)
  .exact c.nm e
  .exact j.2.1 e
 .rintro (e|e)
  .exact (c.nt t i).1 e
  .exact (j.2.2.2.2 t i).1 e
 .rintro (e|e)
  .exact (c.nt t i).2 x l e
  .exact (j.2.2.2.2 t i).2 x l e
 .rintro (e|e)
  .exact c.nf s x l e
  .exact j.2.2.2.1 s x l e
theorem InB.did(h:InB B Kf Kc ps W0 Kq wz W bb a cap rd rn rc mb mx ts d dc f ws){m:Nat}{n:List Zk}{p:NH}{q:Nat}{r:NG->NJ}{s:NG->List Nat}(v:BM (inG B Kf Kc ps W) Kq wz W' bb a cap rd rn rc mb m n p q r s):InB B Kf Kc ps W0 Kq wz W' bb a cap rd rn rc mb m n p q r s/\KeepsFrom B W W'/\∀k,Kc k->W'.heap[k]? =W.heap[k]? :=by
 have c:=v.oth;have i:∀k,Kf k\/Kc k->W'.heap[k]? =W.heap[k]? :=λk b=>c.same k (.inl b)
 refine⟨⟨v.as ⟨Me _,λk b=>Mf (c.lt k (.inl b)) c.size,λ_ _=>rfl,λe=>c.nb (.inl e),λe=>c.nm (.inl e),λt w=>⟨λe=>(c.nt t w).1 (.inl e),λx j e=>(c.nt t w).2 x j (.inl e)⟩,λy x j e=>c.nf y x j (.inl e),c.has⟩ (λ_ _ h=>h.1),λk b=>(i k (.inl b)).trans (h.same k b),h.lt,h.mlt,Mh h.size c.size,h.zlt,λk b=>?_⟩,⟨c.size,λk o z b l=>(c.same k (.inr ⟨z,o,b,l⟩)).trans b⟩,λk b=>i k (.inr b)⟩;obtain⟨A,t,⟨C,D,l⟩,E⟩:=h.Jr k b;exact⟨A,t,⟨C,D,by rw[i k (.inr b)];exact l⟩,E⟩
theorem InB.start(h:BM (bQ.no wz) Kq wz W bb a cap rd rn rc mb mx ts d dc f ws)(b:∀k,Kf k\/Kc k->k<W.heap.size/\k≠bb/\k≠mb/\(∀t∈ts,k≠t.tb/\k∉t.own)/\∀s,(f s).ownBlock≠some k)(l:∀k,Kc k->wz.heap.size<=k/\∃t,bn W k t/\t≠70)(m:∀p∈ps,∃t∈ts,t.tb=p.1/\t.r.name=p.2):InB W.heap.size Kf Kc ps W Kq wz W bb a cap rd rn rc mb mx ts d dc f ws:=by
 obtain⟨N,D,_,n,_⟩:=h.map;obtain⟨v,w,q,_⟩:=n;exact⟨h.as ⟨Me _,λk c=>(b k c).1,λ_ _=>rfl,λe=>(b _ e).2.1 rfl,λe=>(b _ e).2.2.1 rfl,λt j=>⟨λe=>((b _ e).2.2.2.1 t j).1 rfl,λx i e=>((b _ e).2.2.2.1 t j).2 i⟩,λs x i e=>(b _ e).2.2.2.2 s i,m⟩ (λ_ _ h=>h.1),λ_ _=>rfl,λk c=>(b k c).1,aN q,Me _,h.kw.size,l⟩
end
def vS(w:NI)(bb mb:Nat)(ts:List Zk)(f:NG->NJ)(k:Nat):Prop:=k<w.heap.size/\k≠bb/\k≠mb/\(∀t∈ts,k≠t.tb/\k∉t.own)/\∀s,(f s).ownBlock≠some k
theorem Fen.apart{G:bQ}{w:NI}{b c:Nat}{d:List Zk}{f:NG->NJ}(h:Fen G w b c d f){k:Nat}(a:G.K k):vS w b c d f k:=
 ⟨Mf (h.lt k a) h.size,λe=>h.nb (by rw[<-e];exact a),λe=>h.nm (by rw[<-e];exact a),λt i=>⟨λe=>(h.nt t i).1 (by rw[<-e];exact a),λj=>(h.nt t i).2 k j a⟩,λs l=>h.nf s k l a⟩
theorem Ce{w w1:NI}{v:NJ}{t:TypeId}(k:K_ (w.alloc (.cells #[v] t)) w1):w1.cell? ⟨w.heap.size,0,none⟩=some v/\w1.frozen? ⟨w.heap.size,0,none⟩=false/\bn w1 w.heap.size t:=by
 have a:w.heap.size<(w.alloc (.cells #[v] t)).heap.size:=E9;exact⟨(k.cell a).trans E9,(k.rules.2 _ _ a).trans E9,#[v],_,(k.block _ a).trans (World.alloc_heap_new w _)⟩
theorem Eh{w w1:NI}{v0 v1:NJ}{t:TypeId}(k:K_ (w.alloc (.cells #[v0,v1] t)) w1):w1.cell? ⟨w.heap.size,0,none⟩=some v0/\w1.cell? ⟨w.heap.size,1,none⟩=some v1:=by
 have a:w.heap.size<(w.alloc (.cells #[v0,v1] t)).heap.size:=E9;constructor
 .rw[k.cell a];simp
 .rw[k.cell a];simp
def DN(ts:List Zk):List NG:=ts.map λt=>t.r.name
def Jc(ts:List Zk):List (Nat×NG):=ts.map λt=>(t.tb,t.r.name)
def iX(ts:List Zk)(i:Nat):Nat:=(ts.map λt=>t.tb).getD i 0
def tK(Kq:List Qz)(ts:List Zk):Nat:=b_ (Kq.map (·.name)) (Qq (Qj ts))
theorem yR :∀(l:List NG) (σ:Env),b_ l σ<=23*l.length
 | [],_=>Me _
 | n :: l,σ=>by
  have b:=yR l σ;have c:lJ (σ n)<=23:=by
   unfold lJ
   split
   .exact Me _
   .split <;> omega
  have e:b_ (n :: l) σ=lJ (σ n)+b_ l σ:=by simp[b_]
  rw[e,MX];omega
section
variable {B : Nat} {G : bQ} {Kq : List Qz} {wz W W' : NI} {bb : Nat} {a : NH} {cap : Nat} {rd : NH} {rn rc : Nat} {mb mx : Nat} {ts : List Zk} {d0 d : NH} {dc : Nat} {f : NG -> NJ} {ws : NG -> List Nat}
theorem gG{l c o:Nat}(a:Obj)(h:c≠l):(W.putObj l a).cell? ⟨c,o,none⟩=W.cell? ⟨c,o,none⟩:=Mt (w:=W) (World.putObj_heap_other h)
theorem nE{l c o:Nat}(a:Obj)(h:c≠l):(W.putObj l a).frozen? ⟨c,o,none⟩=W.frozen? ⟨c,o,none⟩:=World.frozen?_of_block (w:=W) (World.putObj_heap_other h)
theorem BS.can(h:BS Kq ts ws){t:Zk}(b:t∈ts):aT (Kk Kq) (Qq (Qj ts)) t.r↔t.r.over=false/\t.op=0:=by
 obtain⟨A,c,_⟩:=(h.good.good t.r (Nf b)).act;rw[yS (by rw[c];rfl),h.op t b,Mw]
theorem pE{tb:Nat->Nat}{i:Nat}(_hd:∀g,d0=some ⟨g,0,none⟩->g<B):Calm B (λW=>CE d0 tb i W):=by
 have cl:∀{W:NI} {c o:Nat} {v:NJ},W.cell? ⟨c,o,none⟩=some v->c<W.heap.size:=λ{W c o v} h=>by
  obtain⟨f,a,_⟩:=cells_of_cell h;exact aN a
 have j:∀{W:NI} {c o l:Nat} {v:NJ} {f:Obj},W.cell? ⟨c,o,none⟩=some v->W.heap[l]? =some f->f.isCells=false->c≠l:=λ{W c o l v f} h a d e=>by
  obtain⟨r,b,q⟩:=cells_of_cell h;simp only at b;rw[e,a] at b;cases b;rw[d] at q;cases q
 constructor
 .rintro W o s ⟨g,e,a,d,b⟩;have k:=(K_.refl W).alloc o;exact⟨g,e,(k.cell (cl a)).trans a,(k.cell (cl d)).trans d,(k.cell (cl b)).trans b⟩
 .rintro W l o m t n p ⟨g,e,a,d,b⟩;exact⟨g,e,(gG m (j a n p)).trans a,(gG m (j d n p)).trans d,(gG m (j b n p)).trans b⟩
theorem vg{v:NJ}{c:Nat}(e:c<B):Calm B (λW=>W.cell? ⟨c,3,none⟩=some v):=by
 constructor
 .intro W o f a;obtain⟨h,b,_⟩:=cells_of_cell a;exact (((K_.refl W).alloc o).cell (aN b)).trans a
 .intro W l o d i j k a;exact (gG d E5).trans a
theorem Hw{tb:Nat->Nat}{i:Nat}(h:CE d0 tb i W)(k:EN d0 tb i W):False:=by
 obtain⟨g,_,_,c,d⟩:=h;obtain⟨e,_,_,a⟩:=k;rcases a with a|⟨_,f,j,b⟩
 .rw[c] at a;cases a
 .rw[d] at b;simp only[MV,Value.int.injEq,true_and] at b;omega
theorem nD(B:Nat):Calm B (λ_=>False):=⟨λ_ _ _ h=>h,λ_ _ _ _ _ _ _ h=>h⟩
theorem BM.far{G:bQ}(h:BM G Kq wz W bb a cap rd rn rc mb mx ts d dc f ws){k:Nat}(l:W.heap.size<=k):k≠bb/\k≠mb/\(∀t∈ts,k≠t.tb/\k∉t.own)/\∀s,(f s).ownBlock≠some k:=by
 have m:=h.row.lt;obtain⟨N,D,_,c,_⟩:=h.map;obtain⟨n,p,e,_⟩:=c;have q:=aN e;refine⟨E5,E5,λt b=>⟨?_,λi=>?_⟩,λs j=>?_⟩
 .have:=(h.fu t b).row.lt;omega
 .have:=((h.fu t b).fq i).2.2;omega
 .have:=((h.iW s).lt k j).2;omega
theorem BM.apart{G:bQ}(h:BM G Kq wz W bb a cap rd rn rc mb mx ts d dc f ws){k:Nat}(i:d=some ⟨k,0,none⟩):k<W.heap.size/\k≠bb/\k≠mb/\(∀t∈ts,k≠t.tb/\k∉t.own)/\∀s,(f s).ownBlock≠some k:=by
 subst i;have c:(Value.slice (some ⟨k,0,none⟩) ts.length dc).ownBlock=some k:=rfl;have b:=Y_ h.items c;obtain⟨N,D,_,j,_⟩:=h.map;refine⟨(h.items.lt k c).2,aS b h.row.type E8,iq j b,λt e=>⟨aS b (h.fu t e).row.type E8,λl=>aS b ((h.fu t e).fq l).1 E8 rfl⟩,λs m=>h.AZ s k m c⟩
theorem BM.item(h:BM G Kq wz W bb a cap rd rn rc mb mx ts d dc f ws){i:Nat}(hi:i<ts.length):∃g,d=some ⟨g,0,none⟩/\W.cell? ⟨g,i,none⟩=some (.c ((ts[i]).tb)):=by
 have b:=h.items;rcases b.2 with⟨e,_⟩|⟨g,k,l,e,_⟩
 .exfalso
  simp only[MW] at e;omega
 .simp only[MW] at e;obtain⟨rfl,_,rfl⟩:=e;refine⟨g,rfl, ?_⟩;have c:=b.cells (g:=g) rfl i (ts[i]).ptr (by simp[hi]);have j:((⟨g,0,none⟩:Addr).add i)= ⟨g,i,none⟩:=by simp[Addr.add];omega
  rw[j] at c;exact c
theorem BM.sees(k:BM G Kq wz W bb a cap rd rn rc mb mx ts d dc f ws)(p:BS Kq ts ws){i:Nat}(hi:i<ts.length):(CE d (iX ts) i W/\aT (Kk Kq) (Qq (Qj ts)) (ts[i]).r)\/(EN d (iX ts) i W/\¬aT (Kk Kq) (Qq (Qj ts)) (ts[i]).r):=by
 obtain⟨g,l,h⟩:=k.item hi;have q:iX ts i= (ts[i]).tb:=by simp[iX,List.getD,hi]
 have m:=k.fu ts[i] (Mq hi);have b:W.cell? ⟨(ts[i]).tb,1,none⟩=some (.bool (ts[i]).r.over):=m.rng 1 _ rfl;have c:W.cell? ⟨(ts[i]).tb,9,none⟩=some (.a ((ts[i]).op:Int)):=m.rng 9 _ rfl;have n:=p.can (Mq hi);rw[<-q] at h b c;by_cases e:aT (Kk Kq) (Qq (Qj ts)) (ts[i]).r
 .obtain⟨s,t⟩:=n.1 e;rw[s] at b;rw[t] at c;exact .inl ⟨⟨g,l,h,b,c⟩,e⟩
 .refine .inr ⟨⟨g,l,h, ?_⟩,e⟩;cases j:(ts[i]).r.over with
  | true=>left;rw[b,j]
  | false=>
   right
   exact⟨by rw[b,j],(ts[i]).op,λv=>e (n.2 ⟨j,v⟩),c⟩
end
theorem EH{b:List Zk}{l:List Nat}{i:Nat}{t:Zk}(h:b[i]? =some t):∃u,(iF b l)[i]? =some u/\u.tb=t.tb/\u.r=t.r:=by
 refine⟨if t.tb∈l then {t with op:=t.op-1} else t,by unfold iF;rw[List.getElem?_map,h];rfl, ?_, ?_⟩
 .by_cases h:t.tb∈l
  .rw[Nt h]
  .rw[Nu h]
 .by_cases h:t.tb∈l
  .rw[Nt h]
  .rw[Nu h]
def Zk.ended(t:Zk)(fl:Bool)(tx:NG):Zk:={t with r:={t.r with over:=true,fail:=fl,text:=tx}}
section
variable {G : bQ} {Kq : List Qz} {wz w w' : NI} {bb : Nat} {a : NH} {cap : Nat} {rd : NH} {rn rc : Nat} {mb mx : Nat} {ts : List Zk} {d : NH} {dc : Nat} {f : NG -> NJ} {ws : NG -> List Nat}
theorem BM.ended(k:BM G Kq wz w bb a cap rd rn rc mb mx ts d dc f ws){i:Nat}{t:Zk}(hi:ts[i]? =some t)(b:Bool)(c:NG):BM G Kq wz (((w.setCell ⟨t.tb,1,none⟩ (.bool true)).setCell ⟨t.tb,2,none⟩ (.bool b)).setCell ⟨t.tb,3,none⟩ (.string c)) bb a cap rd rn rc mb mx (ts.set i (t.ended b c)) d dc f ws:=by
 have e:i<ts.length:=(Mk.1 hi).1;have l:=k.store (t':={t with r:={t.r with over:=true}}) hi (o:=1) (v:= .bool true) E5 rfl rfl rfl rfl rfl rfl rfl rfl rfl rfl;have h:=l.store (t':={t with r:={t.r with over:=true,fail:=b}}) (Nq e) (o:=2) (v:= .bool b) E5 rfl rfl rfl rfl rfl rfl rfl rfl rfl rfl;rw[List.set_set] at h;have j:=h.store (t':=t.ended b c) (Nq e) (o:=3) (v:= .string c) E5 rfl rfl rfl rfl rfl rfl rfl rfl rfl rfl;rw[List.set_set] at j;exact j
theorem mR(hB:BM G Kq wz w bb a cap rd rn rc mb mx ts d dc f ws){i:Nat}{t:Zk}(hi:ts[i]? =some t)(D:Bool)(E:NG)(b8:t.r.name.size<=1000)(b9:(ws t.r.name).length<=1000)(hw:∀b∈ws t.r.name,∃(j:Nat) (u:Zk),(ts.set i (t.ended D E))[j]? =some u/\u.tb=b/\1<=u.op/\u.op<=1000)(b1:(ws t.r.name).Nodup):
  Calls prog 116 #[.c bb,.c t.tb,.bool D,.string E] w λe w'=>e= .returned (.tuple #[])/\BM G Kq wz w' bb a cap rd rn rc mb mx (iF (ts.set i (t.ended D E)) (ws t.r.name)) d dc (λn=>if n=t.r.name then M0 else f n) (λn=>if n=t.r.name then [] else ws n):=by
 obtain⟨x,hm⟩:=aj ((ws t.r.name).length);have R:=hB.at hi;obtain⟨⟨_,x1⟩,f1⟩:=R.row.row.at (i:=1) E5;obtain⟨⟨_,x2⟩,f2⟩:=R.row.row.at (i:=2) E5;obtain⟨⟨_,x3⟩,f3⟩:=R.row.row.at (i:=3) E5;have tz:=R.row.lt;obtain⟨W1,a2⟩:=aj (((w.setCell ⟨t.tb,1,none⟩ (.bool true)).setCell ⟨t.tb,2,none⟩ (.bool D)).setCell ⟨t.tb,3,none⟩ (.string E));have a1:BM G Kq wz W1 bb a cap rd rn rc mb mx (ts.set i (t.ended D E)) d dc f ws:=by
  rw[a2];exact hB.ended hi D E
 obtain⟨va,vc,hf⟩:=ay (a1.iW t.r.name);rw[<-hm] at hf;have b2:i<ts.length:=(Mk.1 hi).1;have a3:(ts.set i (t.ended D E))[i]? =some (t.ended D E):=by rw[Nq b2]
 obtain⟨T1,a4⟩:=aj (ts.set i (t.ended D E));rw[<-a4] at a1 a3 hw⊢;have⟨c0,I,a5,Hf,H⟩:=iZ a4 a1 a3 hf hm;have⟨HW,HN⟩:=aH hw b1;have c1:x<=1000:=E5;have S:Hid (∀w',K_ W1 w'->w'.cell? ⟨bb,5,none⟩=some (.map (some mb))/\w'.cell? ⟨t.tb,0,none⟩=some (.string t.r.name)/\(Instr.lookup 117 (.map (some mb)) (.string t.r.name) false).run prog w'= .ok (.slice va x vc) w'):=λw' K=>⟨(I.o.kept K).c5,((I.o.kept K).at a5.o).rng 0 _ rfl,by rw[<-Hf.o];exact (I.o.kept K).look F5⟩
 clear hB a1 R hi a3 a4 hf hm hw b1 b2;go_enter func116,ntmps116
 go_upto_region 1 with fail
 rw[<-a2];clear a2 x1 x2 x3 f1 f2 f3 tz;refine bC 10 S.o λwd y q=>?_
 refine au 0 q ?_;refine au 4 q ?_;refine ae 8 q ?_;refine ae 9 q ?_;refine ik 10 11 (λK c=>?_) (λK c=>?_)
 .rw[Nt G5];go_simp
  refine af c (λ_=>S.o _ y) ?_;clear c K;refine ai 11 (λK c=>?_);go_simp
  refine af c (λ_=>S.o _ y) ?_;clear c K;refine aF ?_;have T:=Kz (I.o.kept y);clear q;go_wp2
  go_loopw [35] (λJ wr=>∃k:Nat,k<=x/\J= .a k/\BM G Kq wz wr bb a cap rd rn rc mb mx (iF T1 ((ws t.r.name).take k)) d dc f ws) (λJ _=>x-(intOf J).toNat)
  case atStart=>exact⟨0,Mg _,rfl,by rw[List.take_zero,Ca];exact T.o⟩
  case round=>
   clear T y;obtain⟨k,hk,rfl,m⟩:=hrel;by_cases b3:k<x
   .obtain⟨p,z⟩:∃p,(ws t.r.name)[k]? =some p:=⟨_,Mj (by have:=H.o;omega)⟩;have U:p∈ws t.r.name:=Mv z;obtain⟨j,u,V,L,b4,b5⟩:=HW.o p U;have A:(ws t.r.name).take (k+1)= (ws t.r.name).take k++ [p]:=by
     obtain⟨B,C⟩:=Mk.1 z;rw[Ml B,C]
    have W:p∉(ws t.r.name).take k:=λh=>by
     have a6:=HN.o;obtain⟨B,C⟩:=Mk.1 z;obtain⟨a7,hq,e⟩:=Ms h;rw[MG] at hq;rw[MQ] at e;have:=Mr.1 a6 a7 k E5 B E5;exact this (e.trans C.symm)
    obtain⟨M,N⟩:=zn I.o.tbs W V L;rw[<-A] at M;have F:=m.at N;have o9:wr.cell? ⟨u.tb,9,none⟩=some (.a (u.op:Int)):=F.rng 9 _ rfl;have uz:=F.row.lt;obtain⟨_,g9⟩:=F.row.row.at (i:=9) E5;have O:=m.iW t.r.name;rw[Hf.o] at O;obtain⟨b,o,rfl,hb,X⟩:=dY (by have:=O;rw[<-H.o] at this;exact this) k (by simp;have:=H.o;omega);have b6:wr.cell? ⟨b,o+k,none⟩=some (.c u.tb):=by rw[X k (xI p) (by simp[z]),<-L];rfl
    have P:=Kz (m.store (t':={u with op:=u.op-1}) N (o:=9) (v:= .a ((u.op-1:Nat):Int)) E5 rfl rfl rfl rfl rfl rfl rfl rfl rfl rfl);rw[<-M] at P;have Y:((u.op-1:Nat):Int)= (u.op:Int)-1:=E5;rw[Y] at P;have i0:(k:Int)<(x:Int):=E5;clear X O F M N A W U z V L Y m;go_wp2
    go_roundw
    case rel=>exact⟨k+1,E5,F3,P.o⟩
    case measure=>simp[intOf];omega
   .obtain rfl:k=x:=E5;have A:(ws t.r.name).take k=ws t.r.name:=by rw[H.o];exact MN
    rw[A] at m;have Q:=Kz m;clear m A;have a8:=Kz (EH (l:=ws t.r.name) a5.o);have a9:Hid (∀w',K_ wr w'->w'.cell? ⟨bb,5,none⟩=some (.map (some mb))/\w'.cell? ⟨t.tb,0,none⟩=some (.string t.r.name)):=λw' K=>⟨(Q.o.kept K).c5,by obtain⟨u,B,C,h3⟩:=a8.o;have Z:=((Q.o.kept K).at B).rng 0 _ rfl;rw[C,h3] at Z;exact Z⟩
    go_upto_region 6 with fail
    refine bC 9 a9.o λwd y q=>?_
    refine au 0 q ?_;refine au 4 q ?_;refine ae 8 q ?_;obtain⟨w9,b7,_,a0⟩:=(Q.o.kept y).del (s:=t.r.name) F5 0;have b0:=Kz a0;clear a0;refine aG 9 (λK c=>?_);go_simp
    refine af c (λh=>Nv rfl h) ?_;clear c K;refine aF ?_;go_wp2
    go_end0
    exact⟨rfl,b0.o⟩
 .rw[Nt G5];go_simp
  refine af c (λ_=>S.o _ y) ?_;clear c K;refine ai 10 (λK c=>?_);go_simp
  refine af c (λ_=>S.o _ y) ?_;clear c K;refine aF ?_;have T:=Kz (I.o.kept y);clear q;go_wp2
  go_loopw [35] (λJ wr=>∃k:Nat,k<=x/\J= .a k/\BM G Kq wz wr bb a cap rd rn rc mb mx (iF T1 ((ws t.r.name).take k)) d dc f ws) (λJ _=>x-(intOf J).toNat)
  case atStart=>exact⟨0,Mg _,rfl,by rw[List.take_zero,Ca];exact T.o⟩
  case round=>
   clear T y;obtain⟨k,hk,rfl,m⟩:=hrel;by_cases b3:k<x
   .obtain⟨p,z⟩:∃p,(ws t.r.name)[k]? =some p:=⟨_,Mj (by have:=H.o;omega)⟩;have U:p∈ws t.r.name:=Mv z;obtain⟨j,u,V,L,b4,b5⟩:=HW.o p U;have A:(ws t.r.name).take (k+1)= (ws t.r.name).take k++ [p]:=by
     obtain⟨B,C⟩:=Mk.1 z;rw[Ml B,C]
    have W:p∉(ws t.r.name).take k:=λh=>by
     have a6:=HN.o;obtain⟨B,C⟩:=Mk.1 z;obtain⟨a7,hq,e⟩:=Ms h;rw[MG] at hq;rw[MQ] at e;have:=Mr.1 a6 a7 k E5 B E5;exact this (e.trans C.symm)
    obtain⟨M,N⟩:=zn I.o.tbs W V L;rw[<-A] at M;have F:=m.at N;have o9:wr.cell? ⟨u.tb,9,none⟩=some (.a (u.op:Int)):=F.rng 9 _ rfl;have uz:=F.row.lt;obtain⟨_,g9⟩:=F.row.row.at (i:=9) E5;have O:=m.iW t.r.name;rw[Hf.o] at O;obtain⟨b,o,rfl,hb,X⟩:=dY (by have:=O;rw[<-H.o] at this;exact this) k (by simp;have:=H.o;omega);have b6:wr.cell? ⟨b,o+k,none⟩=some (.c u.tb):=by rw[X k (xI p) (by simp[z]),<-L];rfl
    have P:=Kz (m.store (t':={u with op:=u.op-1}) N (o:=9) (v:= .a ((u.op-1:Nat):Int)) E5 rfl rfl rfl rfl rfl rfl rfl rfl rfl rfl);rw[<-M] at P;have Y:((u.op-1:Nat):Int)= (u.op:Int)-1:=E5;rw[Y] at P;have i0:(k:Int)<(x:Int):=E5;clear X O F M N A W U z V L Y m;go_wp2
    go_roundw
    case rel=>exact⟨k+1,E5,F3,P.o⟩
    case measure=>simp[intOf];omega
   .obtain rfl:k=x:=E5;have A:(ws t.r.name).take k=ws t.r.name:=by rw[H.o];exact MN
    rw[A] at m;have Q:=Kz m;clear m A;have a8:=Kz (EH (l:=ws t.r.name) a5.o);have a9:Hid (∀w',K_ wr w'->w'.cell? ⟨bb,5,none⟩=some (.map (some mb))/\w'.cell? ⟨t.tb,0,none⟩=some (.string t.r.name)):=λw' K=>⟨(Q.o.kept K).c5,by obtain⟨u,B,C,h3⟩:=a8.o;have Z:=((Q.o.kept K).at B).rng 0 _ rfl;rw[C,h3] at Z;exact Z⟩
    go_upto_region 6 with fail
    refine bC 9 a9.o λwd y q=>?_
    refine au 0 q ?_;refine au 4 q ?_;refine ae 8 q ?_;obtain⟨w9,b7,_,a0⟩:=(Q.o.kept y).del (s:=t.r.name) F5 0;have b0:=Kz a0;clear a0;refine aG 9 (λK c=>?_);go_simp
    refine af c (λh=>Nv rfl h) ?_;clear c K;refine aF ?_;go_wp2
    go_end0
    exact⟨rfl,b0.o⟩
end
section
variable {P : Program} {ops : Array Oper} {Q : Exit -> Act -> NI -> Prop} {md : Region.Mode} {l m : Nat}
theorem Ef{row:String}{args:Array NJ}{w:NI}{R:NJ->NI->Prop}(h:Rows P row args w R):RowsIn (Fence.wide.inRound l) m P row args w R:=λc a _=>by
 obtain⟨v,b,r,s⟩:=h c a;exact⟨v,b,r,stepsIn_wide.2 s⟩
theorem GX(_hQ:¬LetsOut Q){o:Oper}(f:∀c:Call,o.op≠ .defer c){a:Act}{w:NI}{K:Act->NI->Prop}(h:o.wp P a w K Q):o.wpIn (Fence.wide.inRound l) m P a w K Q:=by
 refine⟨λ_ _=>trivial, ?_⟩;have e:o.semAt (Fence.wide.inRound l).round a.eval=execOp a.eval o:=Oper.semAt_eq _ _ _ f;rw[e];unfold Oper.wp at h;generalize (execOp a.eval o).run P w=r at *;cases r with
 | ok x w'=>
  cases x <;> simp only[Oper.upon,Oper.uponIn] at h⊢ <;>
   first
    | exact h
    | exact⟨λd=>(by cases d),CallsIn.inRound l (callsIn_wide.2 h)⟩
    | exact⟨λd=>(by cases d),Ef h⟩
 | halt x w'=>cases x <;> simp only[Oper.upon,Oper.uponIn] at h⊢ <;> exact h
theorem pO(d:¬LetsOut Q)(e:∀(i:Nat) (o:Oper),ops[i]? =some o->∀c:Call,o.op≠ .defer c):∀(n:Nat) (up:Array Bool) (a:Act) (w:NI),wpAny P md ops Q n up a w->wpAnyIn (Fence.wide.inRound l) m P md ops Q n up a w
 | 0,_,_,_,h=>h
 | n+1,up,a,w,h=>by
  refine⟨h.1,λk j=>?_⟩;have b:=h.2 k j;unfold wpOp at b;unfold wpOpIn;cases f:ops[k]? with
  | none=>
   rw[f] at b;exact pO d e n _ _ _ b
  | some o=>
   rw[f] at b;simp only at b⊢
   split
   .rename_i hw
    rw[Nt hw] at b;rcases b with b|⟨_,b⟩
    .exact Oper.wpIn_mono (λp u g=>pO d e n _ p u g) (GX d (e k o f) b)
    .exact (d b).elim
   .rename_i hw
    rw[Nu hw] at b;exact⟨λ_ _=>trivial,pO d e n _ _ _ b⟩
def Aq(ops:Array Oper):Bool:=ops.all λo=>match o.op with | .defer _=>false | _=>true
theorem Es{b:Array Oper}(h:Aq b=true)(i:Nat)(o:Oper)(d:b[i]? =some o)(c:Call):o.op≠ .defer c:=by
 intro e;unfold Aq at h;rw[Array.all_eq_true] at h;obtain⟨f,rfl⟩:=MR.1 d;have:=h i f;rw[e] at this;cases this
theorem Ai{id:Nat}{a:Act}{w:NI}(b:P.follows .mixedOrders=true)(c:Aq ops=true)(d:¬LetsOut Q)(S:NI->Prop)(z:Nat)(f:S w.drew)
  (h:S w.drew->Qk P .any ops Q S z ops.size (Array.replicate ops.size false) a w.drew):(Code.region id ops true).wpIn (Fence.wide.inRound l) m P Q a w:=
 wpIn_region_any b (pO d (Es c) _ _ _ _ (Qk.any _ _ _ _ (h f)))
end
def IR(P:Program)(gf:Nat)(lb:Array NJ)(encs:Nat->Array NJ)(V N:Nat->NI->Prop)(n:Nat)(ok:NI->Prop):Prop:=
 ∀(l:Nat) (J:Nat->NI->Prop) (Jx:NI->Prop) (W:NI),ok W->
  (∀i W1,i<n->J i W1->(V i W1/\YieldAt Fence.wide 7 P l (encs i) W1 λe W'=>(e= .returned (.bool true)/\J (i+1) W')\/(e= .returned (.bool false)/\Jx W'))\/(N i W1/\J (i+1) W1))->
  J 0 W->CallsIn Fence.wide 8 P gf (#[.func (.yield l) #[] #[]]++lb) W λe W'=>(∃v,e= .returned v)/\(J n W'\/Jx W')
variable {w : NI}
theorem BU{P:Program}{g:Operand}{ps:Array Tmp}{assign body:Code}{U:Exit->Act->NI->Prop}{a:Act}{E:Nat}{L:Array NJ}{M:Nat->Array NJ}{V N:Nat->NI->Prop}{n:Nat}{O:NI->Prop}
 (a7:IR P E L M V N n O) (hg:a.eval g= .func (.func E) #[] L) (eg:∀args w,(callFunc E args).run P w= .ok (.enter E args) w) (a1:Calm w.heap.size O) (a8:O w) (a9:∀i,(M i).size=ps.size)
 (I:Nat->NI->Prop) (Q:Code->NI->Prop) (H:∀i,Calm w.heap.size (I i)) (R:∀c,Calm w.heap.size (Q c)) (h0:I 0 w) (a₁:Nat->Act)
 (b0:∀(l i:Nat) (W:NI) (K:Act->NI->Prop),K (a₁ i) W->assign.wpIn (Fence.wide.inRound l) 7 P (Exit.then K (λ_ _ _=>False)) {tmps:=(ps.zip (M i)).foldl (λt (p,v)=>t.setIfInBounds p v) a.tmps,defers:=[]} W)
 (hV:∀i,Calm w.heap.size (V i))
 (b1:∀(i:Nat) (W:NI),i<n->I i W->(V i W/\∀l W',V i W'->I i W'->w.heap.size<=W'.heap.size->body.wpIn (Fence.wide.inRound l) 7 P (roundEnd w.heap.size (I (i+1)) Q W') (a₁ i) W')\/(N i W/\I (i+1) W))
 (b2:∀(D:Nat) (W:NI),w.heap.size<=D->I n W->W.heap[D]? =some (.deferred (some []))->U .normal {a with defers:={target:= .collected D,args:= #[]} :: a.defers} W)
 (b3:∀(D:Nat) (c:Code) (W:NI),w.heap.size<=D->Q c W->W.heap[D]? =some (.deferred (some []))->c.wpIn Fence.wide 9 P U {a with defers:={target:= .collected D,args:= #[]} :: a.defers} W):
  (Code.rangeFunc g ps assign body).wpIn Fence.wide 9 P U a w:=by
 refine wpIn_rangeFunc λfn b4=>?_
 obtain⟨D,hD⟩:=aj w.heap.size;obtain⟨b,f⟩:∃b:LoopState->Option Code->Loop,b=λs q=>{state:=s,pending:=q,fn,tmps:=a.tmps,params:=ps,assign,body,defers:=D}:=⟨_,rfl⟩
 have es:∀s q x X,({b s q with state:=x,pending:=X}:Loop)=b x X:=λs q x X=>by rw[f]
 have b5:∀s q x,({b s q with state:=x}:Loop)=b x q:=λs q x=>by rw[f]
 obtain⟨h,Y⟩:∃h,(w.alloc (.deferred (some []))).alloc (.loop (b .ready none))=h:=⟨_,rfl⟩;have z1:w.heap.size<=(w.alloc (.deferred (some []))).heap.size:=I8;have S:h.heap[D+1]? =some (.loop (b .ready none))/\h.heap[D]? =some (.deferred (some []))/\I 0 h/\O h:=by
  rw[<-Y,hD];refine⟨?_, ?_,(H 0).1 _ _ z1 ((H 0).1 _ _ (Me _) h0),a1.1 _ _ z1 (a1.1 _ _ (Me _) a8)⟩
  .have:=World.alloc_heap_new (w.alloc (.deferred (some []))) (.loop (b .ready none))
   rwa [MS] at this
  .exact (Below.heap_alloc _ _ _ E9).trans (World.alloc_heap_new w _)
 refine⟨D+1,[{target:= .collected D,args:= #[]}],h,{target:= .fn (.func E) L,args:= #[.func (.yield (D+1)) #[] #[]]},h,E,#[.func (.yield (D+1)) #[] #[]]++L,h, ?_, ?_,λ_ _=>trivial, ?_,λ_=>E5, ?_⟩
 .rw[<-Y,f,hD];exact run_enterLoop_outer _ _ _ _ _
 .simp only[resolve,hg];simp[go_sem]
 .simp[invoke,go_sem,eg]
 refine (a7 (D+1) (λi W=>I i W/\w.heap.size<=W.heap.size/\W.heap[D+1]? =some (.loop (b .ready none))/\W.heap[D]? =some (.deferred (some []))) (λW=>∃c,Q c W/\W.heap[D+1]? =some (.loop (b .done (some c)))/\W.heap[D]? =some (.deferred (some []))) h S.2.2.2 ?_ ⟨S.2.2.1,by rw[<-Y];simp;omega,S.1,S.2.1⟩).mono ?_
 .rintro i W J ⟨a2,Z,e,F⟩;have b6:D+1<W.heap.size:=(MR.1 e).1;rcases b1 i W J a2 with⟨a4,b7⟩|⟨b8,b9⟩
  .refine .inl ⟨a4, ?_⟩;have hy:=run_yield (P:=P) (args:=M i) e (by rw[f];exact a9 i);rw[f] at hy;refine⟨fn,_,assign,body,hy, ?_⟩;refine roundIn_of_wpIn b4 (b0 _ i W _ ⟨_,run_beginRound e (by rw[f]), ?_⟩);obtain⟨m,G⟩:∃m,W.putObj (D+1) (.loop {b .ready none with state:= .busy})=m:=⟨_,rfl⟩;rw[G];have c0:m.heap[D+1]? =some (.loop (b .busy none)):=by rw[<-G,World.putObj_heap_same b6,b5]
   have c1:m.heap[D]? =some (.deferred (some [])):=by rw[<-G,World.putObj_heap_other E5];exact F
   have a5:w.heap.size<=m.heap.size:=by rw[<-G,World.putObj_size];exact Z
   have c2:I i m:=by rw[<-G];exact (H i).2 _ _ _ _ E5 e rfl a2
   have c3:V i m:=by rw[<-G];exact (hV i).2 _ _ _ _ E5 e rfl a4
   refine wpIn_mono (b7 _ m c3 c2 a5) ?_;have fin:∀(r:Option Code) (j:NI),KeepsFrom w.heap.size m j->
     ∃d,(Instr.endRound (D+1) r).run P j= .ok (.bool r.isNone) d/\d=j.putObj (D+1) (.loop (b (if r.isNone then .ready else .done) r))/\j.heap[D+1]? =some (.loop (b .busy none))/\d.heap[D+1]? =some (.loop (b (if r.isNone then .ready else .done) r))/\d.heap[D]? =some (.deferred (some []))/\w.heap.size<=d.heap.size:=λr j hk=>by
    have a0:=hk.same _ _ E5 c0 rfl;have c4:=hk.same _ _ E5 c1 rfl;refine⟨_,run_endRound (P:=P) r a0,by rw[es],a0, ?_, ?_, ?_⟩
    .rw[es];exact World.putObj_heap_same (MR.1 a0).1
    .rw[World.putObj_heap_other E5];exact c4
    .rw[World.putObj_size];exact Mh a5 hk.size
   intro a6 a3 j k;cases a6 with
   | normal=>
    obtain⟨d,y,z,A,B,C,T⟩:=fin none j k.1;exact⟨_,d,y,.inl ⟨rfl,by rw[z];exact (H _).2 _ _ _ _ E5 A rfl k.2,T,B,C⟩⟩
   | ret=>
    obtain⟨d,y,z,A,B,C,T⟩:=fin (some .ret) j k.1;exact⟨_,d,y,.inr ⟨rfl,.ret,by rw[z];exact (R _).2 _ _ _ _ E5 A rfl k.2,B,C⟩⟩
   | exit id=>
    obtain⟨d,y,z,A,B,C,T⟩:=fin (some (.exit id)) j k.1;exact⟨_,d,y,.inr ⟨rfl,.exit id,by rw[z];exact (R _).2 _ _ _ _ E5 A rfl k.2,B,C⟩⟩
   | goto t=>
    obtain⟨d,y,z,A,B,C,T⟩:=fin (some (.goto t)) j k.1;exact⟨_,d,y,.inr ⟨rfl,.goto t,by rw[z];exact (R _).2 _ _ _ _ E5 A rfl k.2,B,C⟩⟩
   | panic ch=>exact k.elim
   | outgrown=>exact k.elim
  .exact .inr ⟨b8,b9,Z,e,F⟩
 .rintro a6 W2 ⟨⟨v,rfl⟩,(⟨J,Z,e,F⟩|⟨c,J,e,F⟩)⟩
  .refine⟨none,_,by have:=run_endLoop (P:=P) e (by rw[f];simp);rw[f] at this;exact this, ?_⟩;exact b2 D _ E5 ((H n).2 _ _ _ _ E5 e rfl J) (by rw[World.putObj_heap_other E5];exact F)
  .refine⟨some c,_,by have:=run_endLoop (P:=P) e (by rw[f];simp);rw[f] at this;exact this, ?_⟩;exact b3 D c _ E5 ((R c).2 _ _ _ _ E5 e rfl J) (by rw[World.putObj_heap_other E5];exact F)
variable {S : Nat -> Prop}
theorem eU.but{w':NI}{t:TypeId}{a:NH}{l:List NG}(h:eU w t a l)(k:But S w w')(i:∀b,S b->¬bn w b t):eU w' t a l:=by
 rcases h with h|⟨b,d,e,j,c,m⟩
 .exact .inl h
 .have n:¬S b:=λp=>i b p ⟨d,e,c⟩
  have f:=(k.block b (aN c) n).trans c;exact .inr ⟨b,d,e,j,f,λq r=>by rw[Mt (w:=w) (f.trans c.symm)];exact m q r⟩
def bZ(w:NI)(xs:List NJ)(l:List Q_):Prop:=xs.length=l.length*7/\∀i,i<l.length->∃xa xc,(xs.drop (i*7)).take 7= (l.getD i Q_.zero).cells xa xc/\eU w 9 xa (l.getD i Q_.zero).texts/\(xa=none->xc=0)
theorem bZ.nil(w:NI):bZ w [] []:=⟨rfl,λi a=>by simp at a⟩
variable {l : List Q_} {xs : List NJ}
theorem bZ.but{w':NI}(h:bZ w xs l)(k:But S w w')(a:∀b,S b->¬bn w b 9):bZ w' xs l:=⟨h.1,λi c=>by obtain⟨d,e,f,j,m⟩:=h.2 i c;exact⟨d,e,f,j.but k a,m⟩⟩
theorem bZ.kept{w':NI}(h:bZ w xs l)(k:K_ w w'):bZ w' xs l:=h.but (S:=λ_=>False) (But.ax k) (λ_ e=>e.elim)
theorem bZ.packed(h:bZ w xs l):bD w (λ_=>True) xs l:=⟨h.1,λi a=>by obtain⟨b,c,d,e,f⟩:=h.2 i a;exact⟨b,c,d,e.strs,f,λ_ _=>trivial⟩⟩
theorem bZ.snoc{r:Q_}{xa:NH}{xc:Nat}(h:bZ w xs l)(e:eU w 9 xa r.texts)(f:xa=none->xc=0):bZ w (xs++r.cells xa xc) (l++ [r]):=by
 refine⟨by simp[h.1,Q_.cells];omega,λi c=>?_⟩;rw[MU] at c;simp only[MX,List.length_nil] at c;by_cases d:i<l.length
 .have a:(l++ [r]).getD i Q_.zero=l.getD i Q_.zero:=by simp[List.getD,Ni d]
  have b:((xs++r.cells xa xc).drop (i*7)).take 7= (xs.drop (i*7)).take 7:=by
   rw[List.drop_append_of_le_length (by rw[h.1];omega),List.take_append_of_le_length (by rw[List.length_drop,h.1];omega)]
  rw[a,b];exact h.2 i d
 .obtain rfl:i=l.length:=E5;have a:(l++ [r]).getD l.length Q_.zero=r:=I9;have b:((xs++r.cells xa xc).drop (l.length*7)).take 7=r.cells xa xc:=by
   rw[<-h.1,List.drop_left]
   rfl
  rw[a,b];exact⟨xa,xc,rfl,e,f⟩
def Hq(w:NI)(S:Nat->Prop)(a:NH)(l:List NG):Prop:=∀i,i<l.length->∃b o,a=some ⟨b,o,none⟩/\b<w.heap.size/\¬S b/\w.cell? ⟨b,o+i,none⟩=some (.string (l.getD i ByteArray.empty))
theorem eU.nst{a:NH}{l:List NG}(h:eU w 9 a l)(f:∀b,S b->¬bn w b 9):Hq w S a l:=λi c=>by
 rcases h with rfl|⟨b,j,k,m,d,n⟩
 .simp at c
 .exact⟨b,0,m,aN d,λe=>f b e ⟨j,k,d⟩,by rw[MM];exact n i c⟩
structure KnZ (wz w wr:NI) (kb:Nat) (v0:NJ) (a:NH) (n cap:Nat) (R:List Q_) (d:NH) (dc:Nat) (xs:List NJ):Prop where
 kw:K_ wz wr
 fr:But (λb=>b=kb\/v0.ownBlock=some b) w wr
 nw:∀b,(Value.slice d R.length dc).ownBlock=some b->v0.ownBlock=some b\/w.heap.size<=b
 known:gQ wr kb a n cap d R.length dc
 own:wr.ownsRow wz.heap.size 40 7 (.slice d R.length dc) R.length xs
 pack:bZ wr xs R
 nl:R.length=0->d=none/\dc=0
section
variable {wz w wr w' : NI} {kb n cap dc : Nat} {v0 : NJ} {a d : NH} {R : List Q_} {xs : List NJ}
theorem KnZ.kept(h:KnZ wz w wr kb v0 a n cap R d dc xs)(k:K_ wr w'):KnZ wz w w' kb v0 a n cap R d dc xs:=
 ⟨h.kw.trans k,h.fr.trans (But.ax k),h.nw,h.known.kept k,ak h.own k,h.pack.kept k,h.nl⟩
theorem KnZ.again(h:KnZ wz w wr kb v0 a n cap R d dc xs):KnZ wz wr wr kb (.slice d R.length dc) a n cap R d dc xs:=
 ⟨h.kw,But.ax (K_.refl _),λ_ e=>.inl e,h.known,h.own,h.pack,h.nl⟩
theorem KnZ.but(h:KnZ wz w wr kb v0 a n cap R d dc xs)(k:But S wr w')(e:∀b,S b->wz.heap.size<=b)(c:¬S kb)(f:∀b,(Value.slice d R.length dc).ownBlock=some b->¬S b)(i:∀b,S b->¬bn wr b 9):KnZ wz w' w' kb (.slice d R.length dc) a n cap R d dc xs:=
 ⟨k.kept h.kw e,But.ax (K_.refl _),λ_ j=>.inl j,⟨k.row h.known.row c,(k.cell h.known.row.lt c).trans h.known.web,(k.cell h.known.row.lt c).trans h.known.runs⟩,k.owns h.own f,h.pack.but k i,h.nl⟩
theorem KnZ.runs(h:KnZ wz w wr kb v0 a n cap R d dc xs):cB wr d R:=by
 obtain⟨_,e,f,b,c⟩:=bD.runs h.own h.pack.packed (K_.refl _);simp only[MW,true_and] at b;rw[b.1];exact c.runs
theorem KnZ.grown{W h:NI}(i:KnZ wz w wr kb v0 a n cap R d dc xs)(l:K_ wr W)(m:W.grownBy h (Value.slice d R.length dc).ownBlock):K_ wz h/\gQ h kb a n cap d R.length dc/\But (λb=>b=kb\/v0.ownBlock=some b) w h:=by
 have j:=i.known.kept l;have p:=ak i.own l;have r:=own_ne j.row p;have c:But (λb=>(Value.slice d R.length dc).ownBlock=some b) W h:=But.aI m (λb k=>k);have e:=c.block kb j.row.lt (λk=>r k.symm);refine⟨aK (i.kw.trans l) (Me _) p m,⟨j.row.block e,(Mt (w:=W) e).trans j.web,(Mt (w:=W) e).trans j.runs⟩, ?_⟩;have f:=i.fr.trans (But.ax l);refine⟨c.os.trans f.os,c.tape.trans f.tape,c.output.trans f.output,Mh f.size c.size,λb e q=>?_⟩;refine (c.block b (Mf e f.size) (λk=>?_)).trans (f.block b e q);rcases i.nw b k with g | g
 .exact q (.inr g)
 .omega
theorem dE{W:NI}{base m:Nat}{v:NJ}{a:List NJ}(h:W.ownsRow base 40 7 v m a):∀b,v.ownBlock=some b->¬bn W b 9:=λ_ e c=>aS (Y_ h e) c E8 rfl
theorem KnZ.next{W c:NI}{f j:Nat}{v:NG}(h:KnZ wz w wr kb v0 a n cap R d dc xs)(r:wz.heap.size<=kb)(k:K_ wr W)(m:W.grownBy c (Value.slice d R.length dc).ownBlock)
  (q:c.ownsRow wz.heap.size 40 7 (.b f (R.length+1) j) (R.length+1) (xs++ (Q_.fresh v).cells none 0)) (s:(Value.slice d R.length dc).ownBlock=some f\/f=W.heap.size):
  KnZ wz w (c.setCell ⟨kb,1,none⟩ (.b f (R.length+1) j)) kb v0 a n cap (R++ [Q_.fresh v]) (some ⟨f,0,none⟩) j (xs++ (Q_.fresh v).cells none 0):=by
 obtain⟨t,i,x⟩:=h.grown k m;have l:(R++ [Q_.fresh v]).length=R.length+1:=E9;have y:=ak h.own k;have z:But (λb=>(Value.slice d R.length dc).ownBlock=some b) W c:=But.aI m (λb e=>e);have A:bZ c xs R:=(h.pack.kept k).but z (dE y);have B:But (λb=>b=kb) c (c.setCell ⟨kb,1,none⟩ (.b f (R.length+1) j)):=But.set (S:=λb=>b=kb) (But.ax (K_.refl _)) (p:=⟨kb,1,none⟩) rfl _;have C:=A.but B (λb e D=>aS i.row.type D E8 e.symm);refine⟨Below.setCell t (p:=⟨kb,1,none⟩) r _,x.set (.inl rfl) _,λb e=>?_,⟨i.row.set _, ?_, ?_⟩, ?_,C.snoc (.inl rfl) (λ_=>rfl),λe=>(by rw[l] at e;omega)⟩
 .simp only[Value.ownBlock,MV] at e;subst e;rcases s with g|g
  .exact h.nw f g
  .refine .inr ?_;rw[g];exact Mh h.fr.size k.size
 .rw[Xk E5];exact i.web
 .rw[l];exact aW i.row.row E5 _
 .rw[l];exact yV q (own_ne i.row q) _
end
theorem pJ(t w:NI)(f:Nat)(b3:t.heap.size<=f)(a:NH)(p:Nat)(h:List Qz)(rd:NH)(rc:Nat)(names:List NG)(l:List Q_)(C:NH)(D:Nat)(a1:List NJ)(P:h.length<=1048576)(c5:names.length<=110)(c6:l.length<=1000)
  (m:KnZ t w w f (.slice C l.length D) a h.length p l C D a1) (Q:bT t a h) (hR:Hq w (λb=>b=f\/(Value.slice C l.length D).ownBlock=some b) rd names):
  Calls prog 67 #[.c f,.slice rd names.length rc] w λe w'=>e= .returned (.tuple #[])/\∃d n x,KnZ t w w' f (.slice C l.length D) a h.length p (bN (Kk h) l names) d n x:=by
 have HK:=Kz m;clear m;go_enter func67,ntmps67
 go_wp2
 go_loopw [4] (λi wr=>∃(k:Nat) (d:NH) (n:Nat) (x:List NJ),k<=names.length/\i= .a k/\KnZ t w wr f (.slice C l.length D) a h.length p (bN (Kk h) l (names.take k)) d n x) (λi _=>names.length-(intOf i).toNat)
 case atStart=>exact⟨0,C,D,a1,Mg _,rfl,HK.o⟩
 case round=>
  obtain⟨k,d,n,x,hk,rfl,q⟩:=hrel;by_cases a2:k<names.length
  .obtain⟨b,o,rfl,I,a3,S⟩:=hR k a2;have a4:=Kz a3;clear a3;have T:K_ t wr:=q.kw;obtain⟨R,U⟩:=aj (bN (Kk h) l (names.take k));have J:=xx (Kk h) l a2;rw[<-U] at q J;have c7:R.length<=1110:=by rw[U];have:=mh (Kk h) (names.take k) l;rw[MG] at this;omega
   obtain⟨v,a5⟩:=aj (names.getD k ByteArray.empty);rw[<-a5] at S J;have V:=Kz J;have L:=(q.fr.cell I a4.o).trans S;have W:b<wr.heap.size:=Mf I q.fr.size;have X:=q.known.web;have Y:=q.known.runs;have M:=q.known.row.lt;have⟨a6,y⟩:=aH q.runs q;clear U a5 J q HK;have i0:(k:Int)<(names.length:Int):=E5;by_cases F:(Kk h v).isSome=true
   .have G:Hid (∀w',K_ wr w'->(λw'=>w'.cell? ⟨f,0,none⟩=some (.slice a h.length p)/\w'.cell? ⟨f,1,none⟩=some (.slice d R.length n)/\w'.cell? ⟨b,o+k,none⟩=some (.string v)) w'):=λw' z=>⟨(z.cell M).trans X,(z.cell M).trans Y,(z.cell W).trans L⟩
    by_cases N:(Qq R v).isNone=true
    .go_wp2
     go_region_held (λw'=>w'.cell? ⟨f,0,none⟩=some (.slice a h.length p)/\w'.cell? ⟨f,1,none⟩=some (.slice d R.length n)/\w'.cell? ⟨b,o+k,none⟩=some (.string v)) (exact bf G _ F9) ((first | (go_at_call 37;refine (rH _ a p h v P (Q.kept (T.trans F9)) F).mono ?_;rintro e A ⟨⟨r1,rfl⟩,H⟩;have r:K_ wr A:=K_.trans F9 H) | (go_at_call 86;refine (Cb _ f a h.length p d n R v E5 (y.o.known.kept (r.trans F9)) (a6.o.kept (r.trans F9)) N).mono ?_;rintro e s ⟨⟨r2,rfl,c8⟩,rfl⟩)))
     all_goals
      have E:=y.o.kept r;have Z:=Kz E;have n1:=E.known.runs;have n0:=(r.cell W).trans L;have z2:=E.kw.size;have b4:b<s.heap.size:=Mf I E.fr.size;have b5:f<s.heap.size:=E.known.row.lt;have b6:Hid (∀w',K_ s w'->(λw'=>w'.cell? ⟨f,1,none⟩=some (.slice d R.length n)/\w'.cell? ⟨b,o+k,none⟩=some (.string v)) w'):=λw' bl=>⟨(bl.cell b5).trans n1,(bl.cell b4).trans n0⟩
      obtain⟨b7,b8,b9,c0,c1⟩:=aU Tryz.si;clear E;go_wp2
      refine Qk.region F4 (λw'=>w'.cell? ⟨f,1,none⟩=some (.slice d R.length n)/\w'.cell? ⟨b,o+k,none⟩=some (.string v)) 14 ⟨n1,n0⟩ (λc=>?_);refine au 0 c ?_;refine au 4 c ?_;refine ae 8 c ?_;refine ae 9 c ?_;refine ai 10 (λK m=>?_);go_simp
      have O:K_ s (s.alloc (.cells (qL v).toArray 40)).drew:=(ah _ _).drew;refine af m (λ_=>b6.o _ O) ?_;clear m K c;refine ai 11 (λK m=>?_);refine step_append_lies _ rfl (.tmp 34) (.tmp 40) 30 rfl t.heap.size 40 b7 _ 7 80 underlying30 b8 b9 c0 c1 rfl E8 (.slice d R.length n) R.length x F8 (ak Z.o.own O) ⟨s.heap.size,0,none⟩ 1 1 (qL v) F8 rfl (λj u hu=>by rw[MZ];exact X_ s (qL v).toArray 40 j u (by simpa using hu)) (vZ v) E5 F5 E5 F6 _ rfl ?_;intro g6 c2 w8 a7 a0 a8 c9;obtain⟨d0,a9,b0⟩:=Z.o.grown O a0;have b1:=a9.row;obtain⟨⟨_,d1⟩,d2⟩:=b1.row.at (i:=1) E5;have b2:=(show _/\_ from ⟨a9.runs,(b0.cell I a4.o).trans S⟩);have c3:=Kz (KnZ.next (v:=v) Z.o b3 O a0 a7 a8);clear a7 a0 a8 b1 b0;refine af m (λ_=>b2) ?_;clear m K;have c:=b2;refine ae 12 c ?_;refine ae 13 c ?_;refine ai 14 (λK m=>?_);go_simp
      refine af m (λB=>Nv rfl B) ?_;clear m K;refine aF ?_;go_wp2
      go_roundw
      case rel=>exact⟨k+1,_,c2,_,E5,F3,by rw[V.o,Nt ⟨F,N⟩];exact c3.o⟩
      case measure=>simp[intOf];omega
    .go_wp2
     go_region_held (λw'=>w'.cell? ⟨f,0,none⟩=some (.slice a h.length p)/\w'.cell? ⟨f,1,none⟩=some (.slice d R.length n)/\w'.cell? ⟨b,o+k,none⟩=some (.string v)) (exact bf G _ F9) ((first | (go_at_call 37;refine (rH _ a p h v P (Q.kept (T.trans F9)) F).mono ?_;rintro e A ⟨⟨r1,rfl⟩,H⟩;have r:K_ wr A:=K_.trans F9 H) | (go_at_call 86;refine (B_ _ f a h.length p d n R v E5 (y.o.known.kept (r.trans F9)) (a6.o.kept (r.trans F9)) N).mono ?_;rintro e s ⟨⟨r2,rfl⟩,rfl⟩)))
     all_goals
      go_wp2
      go_roundw
      case rel=>exact⟨k+1,d,n,x,E5,F3,by rw[V.o,Nu (λB=>N B.2)];exact y.o.kept r⟩
      case measure=>simp[intOf];omega
   .have G:Hid (∀w',K_ wr w'->(λw'=>w'.cell? ⟨f,0,none⟩=some (.slice a h.length p)/\w'.cell? ⟨f,1,none⟩=some (.slice d R.length n)/\w'.cell? ⟨b,o+k,none⟩=some (.string v)) w'):=λw' z=>⟨(z.cell M).trans X,(z.cell M).trans Y,(z.cell W).trans L⟩
    go_wp2
    refine Qk.region F4 (λw'=>w'.cell? ⟨f,0,none⟩=some (.slice a h.length p)/\w'.cell? ⟨f,1,none⟩=some (.slice d R.length n)/\w'.cell? ⟨b,o+k,none⟩=some (.string v)) 18 ⟨X,Y,L⟩ (λc=>?_);refine au 0 c ?_;refine au 4 c ?_;refine aG 8 (λK m=>?_);go_simp
    go_at_call 37
    refine (Bh _ a p h v P (Q.kept (T.trans F9)) F).mono ?_;rintro e A ⟨rfl,H⟩;have r:K_ wr A:=K_.trans F9 H;dsimp only;refine m.out _ _ (λ_=>G.o A r) ?_;clear m K c;have c:=G.o A r;try simp only[upP]
    refine ae 9 c ?_;refine ae 10 c ?_;refine aB 11 c ?_;refine aB 12 c ?_;refine aB 13 c ?_;refine aB 14 c ?_;refine aB 15 c ?_;refine aB 16 c ?_;refine aB 17 c ?_;refine ai 18 (λK m=>?_);go_simp
    refine af m (λB=>Nv rfl B) ?_;clear m K;refine aF ?_;go_wp2
    go_roundw
    case rel=>exact⟨k+1,d,n,x,E5,F3,by rw[V.o,Nu (λB=>F B.1)];exact y.o.kept r⟩
    case measure=>simp[intOf];omega
  .have c4:k=names.length:=E5;subst c4;rw[MN] at q;have y:=Kz q;clear q;go_wp2
   go_end0
   exact⟨rfl,_,_,_,y.o⟩
