import Derived.Test.YtlfofiaagibapaaGreatDoorKVTraj
import Derived.Laws.AppendOwnNone
import Derived.Test.YtlfofiaagibapaaGreatDoorKWGo6
set_option maxRecDepth 100000
set_option maxHeartbeats 25600000
namespace Go.Proofs.YtlfofiaagibapaaGreatDoor
open Go.RowKit Go.Proofs.Tryz
theorem Cg(w:NN)(a:NM)(g3:Nat)(l:List Q_)(r:Q_)(xa:NM)(xc:Nat)(hl:l.length<=100000)(i5:r.texts.length<=1000)(hr:dB l)(P:Nat->Prop)(d6:∀b,w.heap.size<=b->P b)(hS:nK w P a l)(hT:Strs w xa r.texts)(hX:xa=none->xc=0):Calls prog 115 #[.slice a l.length g3,.agg #[.string r.name,.bool r.over,.bool r.fail,.string r.text,.a r.at',.a r.Zq,.slice xa r.texts.length xc]] w
   λe w'=>∃v,e=.returned v/\Iy w w' P v (dh l r)/\K_ w w':=by
 have⟨d7,g4,d8⟩:=di hX hr d6;clear hX hr d6;let⟨d,M⟩:=aj (w.alloc (.cells #[.string r.name,.bool r.over,.bool r.fail,.string r.text,.a r.at',.a r.Zq,.slice xa r.texts.length xc] 48));have kB:K_ w d:=by rw[M];exact ah _ _
 have g5:w.heap.size+1<=d.heap.size:=by rw[M];simp
 have d9:gV d w.heap.size r xa xc:=by
  rw[M];exact⟨ay.made w #[.string r.name,.bool r.over,.bool r.fail,.string r.text,.a r.at',.a r.Zq,.slice xa r.texts.length xc] 48,X_ w _ _⟩
 have⟨a5,G⟩:=aH kB d9;clear kB d9;go_enter func115,ntmps115
 go_upto_region 1 with fail
 rw[<-M];clear M;have a6:Hid (K_ d (d.alloc (.cells #[] 9))):=ah _ _;have a7:Hid ((d.alloc (.cells #[] 9)).ownsRow d.heap.size 9 1 (.b d.heap.size 0 0) 0 (([]:List NL).map Value.string)):=MQ d #[] 0 (Mj _) (Ml _) rfl;let⟨ic,b7,e0,e1,e2⟩:=aW Tryz.fA;go_cut [3] from 8 to 57 (λs3 F=>∃m y,s3=.c w.heap.size/\K_ w F/\gV F w.heap.size r m y/\Strs F m r.texts/\(m=none->y=0)/\(∀z:Addr,m=some z->P z.block))
 case first=>
  let⟨q0,q1,q2,q3,q4,q5,q6⟩:=G.o.all;have qz:=G.o.row.lt;let⟨_,g6⟩:=G.o.row.row.at (i:=6) E5;rcases (show xa=none\/∃z,xa=some z from by cases xa with|none=>exact .inl rfl|some x=>exact .inr ⟨x,rfl⟩) with rfl|⟨z,rfl⟩
  .have h0:r.texts=[]:=by
    cases g7:r.texts with
    |nil=>rfl
    |cons t ts=>exfalso;let⟨b,o,e,_⟩:=hT 0 (by rw[g7];simp);cases e
   have e3:=d7.o rfl;have e4:d.cell? ⟨w.heap.size,6,none⟩=some M3:=by rw[q6,h0,e3];rfl
   have H0:=Kz h0;clear q6 h0 e3;have q6:=e4;clear e4;go_wp2_with (at_builtin;refine wpList_append_own_none _ rfl (.tmp 8) (.tmp 10) 26 rfl d.heap.size 9 ic 1 underlying26 b7 (.b d.heap.size 0 0) 0 [] rfl a7.o rfl ?_)
   go_meet
   exact⟨_,_,rfl,K_.alloc (Below.setCell a5.o (p:=⟨w.heap.size,6,none⟩) (Mj _) _) _,(G.o.put (xa':=some ⟨d.heap.size,0,none⟩) (xc':=0) E5 (by simp[Q_.cells,H0.o])).kept (ah _ _),(λa8 hi=>by rw[H0.o] at hi;cases hi),(λe=>by cases e),λz e=>by cases e;exact d8.o _ (by show w.heap.size<=d.heap.size;omega)⟩
  .have g8:Hid (∀p u,(r.texts.map Value.string)[p]? =some u->(d.alloc (.cells #[] 9)).cell? (z.add p)=some u):=λp u q=>by
    have hj:p<r.texts.length:=by have:=(Mr.1 q).1;simpa using this
    let⟨b,o,e,i,s⟩:=(hT.kept (a5.o.trans a6.o)) p hj;simp only[Na] at e;subst e;rw[Nf,s];simp[hj] at q;simp[List.getD,hj,q]
   have g9:Hid (∀u∈r.texts.map Value.string,u.oneCell'=true):=λu q=>by obtain⟨x,_,rfl⟩:=MM.1 q;rfl
   have h1:=a6.o.size;go_wp2_with (at_builtin;refine wpList_append_own _ rfl (.tmp 8) (.tmp 10) 26 rfl d.heap.size 9 ic _ 1 16 underlying26 b7 e0 e1 e2 rfl E8 (.b d.heap.size 0 0) 0 [] rfl a7.o z r.texts.length xc (r.texts.map Value.string) rfl E9 g8.o g9.o F5 E5 h1 ?_;intro v1 w8 a9 e5 _;rw[MR,List.nil_append] at a9;have e6:=aK a6.o (Mj _) a7.o e5;have h2:=Kz a9;obtain⟨h4,h5,rfl⟩:=aF a9;have b0:=Kz (G.o.kept e6);have i6:=b0.o.all.2.2.2.2.2.2;have i7:=b0.o.row.lt;let⟨_,i8⟩:=b0.o.row.row.at (i:=6) E5;clear a9 e5)
   go_meet
   let⟨m,y,ev,b1,N,b2⟩:=FH (c:=w.heap.size) (p:=6) (u:=.slice h4 r.texts.length h5) h2.o E5;simp only[Nb] at ev;obtain⟨rfl,_,rfl⟩:=ev;exact⟨_,_,rfl,Below.setCell (a5.o.trans e6) (p:=⟨w.heap.size,6,none⟩) (Mj _) _,b0.o.put E5 rfl,b1,N,λz e=>d8.o _ (Mm E5 (b2 z e))⟩
 case rest=>
  obtain⟨m,y,rfl,k2,b8,b1,e7,b2⟩:=hcut;obtain⟨f,rfl⟩:=aj wc;let⟨b9,c7,c8,N,c9⟩:=aW Tryz.tH;have H:=Kz b8;have h6:=Kz (hS.kept k2);have⟨b3,e8,e9,f0⟩:=nC k2 b1 e7 b2;have i9:=b8.row.lt;clear b1 e7 b2 b8 k2 hS hT d7 a5 G a6 a7 b7 e0 e1 e2 g5;go_wp2
  go_loopw [5,6,7] (λout dn a8 wr=>∃k:Nat,k<=l.length/\a8=.a k/\dn=.bool (ug l r k).2/\KJ f wr P out (ug l r k)) (λ_ _ a8 _=>l.length-(intOf a8).toNat)
  case atStart=>
   exact⟨0,Ml _,rfl,rfl,[],MQ f #[] 0 (Mj _) (Ml _) rfl,bI.nil _ _,ah _ _⟩
  case round=>
   obtain⟨k,hk,rfl,d0,xs,A,B,C⟩:=hrel;have f1:=BP (l:=l) (r:=r) hk;let⟨h7,hp⟩:=aj (ug l r k);rw[<-hp] at d0 A B f1;let⟨h,j⟩:=h7;dsimp only at d0 A B f1;subst d0;have⟨O,Q,f2⟩:=di B A hp;clear B A hp;let⟨R,S,T,U,V,W,X⟩:=(H.o.kept C).all;have Y:=(H.o.kept C).row.lt;have hz:=C.size;by_cases f3:k<l.length
   .obtain⟨b,o,xa,ca,rfl,i,s,d1,f4,f5⟩:=h6.o k f3;have d2:=Kz (zI (r:=r) f3);let⟨x,hx⟩:=aj (l.getD k Q_.zero);rw[<-hx,<-f2.o] at d2;rw[<-hx] at s d1;have HC:Hid (∀w',K_ f w'->b<w'.heap.size/\M4 w' b (o+k*7) (.string x.name)/\M4 w' b (o+k*7+1) (.bool x.over)/\M4 w' b (o+k*7+2) (.bool x.fail)/\M4 w' b (o+k*7+3) (.string x.text)/\M4 w' b (o+k*7+4) (.a x.at')/\M4 w' b (o+k*7+5) (.a x.Zq)/\M4 w' b (o+k*7+6) (.slice xa x.texts.length ca)):=λw' K=>⟨Mk i K.size,(K.cell i).trans (s 0 _ rfl),(K.cell i).trans (s 1 _ rfl),(K.cell i).trans (s 2 _ rfl),(K.cell i).trans (s 3 _ rfl),(K.cell i).trans (s 4 _ rfl),(K.cell i).trans (s 5 _ rfl),(K.cell i).trans (s 6 _ rfl)⟩
    have⟨h8,h9,i0⟩:=di d1 f4 f5;clear s d1 f4 f5 hx;let⟨i,c0,c1,c2,c3,c4,c5,c6⟩:=HC.o wr C;have j0:(k:Int)<(l.length:Int):=E5;go_upto_region 7 with fail
    go_cut [31] from 14 to 50 (λc F=>c=.bool (!j && !Op.bytesLess x.name.toList r.name.toList)/\∃n,F=wr.drewN n)
    case first=>
     cases j
     .cases b4:Op.bytesLess x.name.toList r.name.toList
      .go_quiet (fail)
       go_wp2
       go_meet
       exact⟨by rw[b4];rfl,nq,rfl⟩
      .go_quiet (fail)
       go_wp2
       go_meet
       exact⟨by rw[b4];rfl,nq,rfl⟩
     .go_quiet (fail)
      go_wp2
      go_meet
      exact⟨rfl,nq,rfl⟩
    case rest=>
     obtain⟨rfl,nq,d3⟩:=hcut;obtain⟨wq,rfl⟩:=aj wc;have Z:K_ f wq:=(by rw[d3];exact C.drewN nq);have b5:Hid (wq.ownsRow f.heap.size 48 7 u5 h.length xs):=(by rw[d3];exact Q.o);clear R S T U V W X Y d3 c0 c1 c2 c3 c4 c5 c6 i;let⟨R,S,T,U,V,W,X⟩:=(H.o.kept Z).all;have Y:=(H.o.kept Z).row.lt;have j1:=Z.size;let⟨cb,d4⟩:=aj ((!j && !Op.bytesLess x.name.toList r.name.toList));rw[<-d4];have d5:=Kz d4;clear d4;go_upto_if 31 with fail
     go_cut [5,6] from 14 to 50 (λo6 i1 F=>i1=.bool (qY r (h,j) x).2/\KJ f F P o6 (qY r (h,j) x))
     case first=>
      cases cb
      .go_wp2
       go_meet
       have e:qY r (h,j) x= (h,j):=(by unfold qY;rw[if_neg];rintro⟨f6,i2⟩;have h3:=d5.o;dsimp only at f6;rw[f6,i2] at h3;cases h3);rw[e];exact⟨rfl,xs,b5.o,O.o,Z⟩
      .go_wp2_with (at_builtin;refine wpList_append_own _ rfl (.tmp 32) (.tmp 34) 41 rfl f.heap.size 48 b9 _ 7 80 underlying41 c7 c8 N c9 rfl E8 _ h.length _ rfl (au b5.o G8) ⟨wq.heap.size,0,none⟩ 1 1 (r.cells m y) rfl rfl (λp u q=>(by rw[Nf];exact X_ wq (r.cells m y).toArray 48 p u (by simpa using q))) (Q_.one r m y) F5 E5 F6 ?_;intro v6 a0 D E _;have I:K_ f a0:=aK (Z.trans G8) E5 (au b5.o G8) E;have a1:=Kz D;clear D E)
       go_meet
       have e:qY r (h,j) x= (h++[r],true):=(by unfold qY;rw[Nz];have h3:=d5.o;cases j<;>cases b4:Op.bytesLess x.name.toList r.name.toList<;>simp[b4] at h3⊢);rw[e];exact⟨rfl,_,(by rw[M_];exact a1.o),O.o.snoc e8.o e9.o f0.o,I⟩
     case rest=>
      obtain⟨rfl,f7,A,B,J⟩:=hcut;obtain⟨wt,rfl⟩:=aj wc;have f8:(qY r (h,j) x).1.length<=h.length+1:=by unfold qY;split<;>simp
      have a2:Hid (ug l r (k+1)=yn r (qY r (h,j) x) x):=d2.o;let⟨i3,hq⟩:=aj (qY r (h,j) x);rw[<-hq] at A B f8 a2⊢;let⟨L,qd⟩:=i3;dsimp only at A B f8;dsimp only;have⟨f9,g0⟩:=aH B A;clear B A hq R S T U V W X Y d2 O Q b5 d5;let⟨R,S,T,U,V,W,X⟩:=(H.o.kept J).all;have Y:=(H.o.kept J).row.lt;have j2:=J.size;let⟨i,c0,c1,c2,c3,c4,c5,c6⟩:=HC.o wt J;clear S T U V W X c1 c2 c3 c4 c5 c6;cases g1:(x.name.toList == r.name.toList)
      .have a3:yn r (L,qd) x= (L++[x],qd):=by unfold yn;rw[g1];rfl
       have a4:=Kz a3;clear a3;go_upto_region 10 with fail
       go_quiet (fail)
       let⟨wv,b6⟩:=aj (wt.drewN nq);rw[<-b6];have KV:K_ f wv:=(by rw[b6];exact J.drewN _);have g2:Hid (wv.ownsRow f.heap.size 48 7 u5 L.length f7):=(by rw[b6];exact g0.o);clear R Y b6 c0 i;let⟨i,c0,c1,c2,c3,c4,c5,c6⟩:=HC.o wv KV;have j3:=KV.size;go_wp2_with (at_builtin;refine wpList_append_own _ rfl (.tmp 44) (.tmp 49) 41 rfl f.heap.size 48 b9 _ 7 80 underlying41 c7 c8 N c9 rfl E8 _ L.length _ rfl (au g2.o G8) ⟨wv.heap.size,0,none⟩ 1 1 (x.cells xa ca) rfl rfl (λp u q=>(by rw[Nf];exact X_ wv (x.cells xa ca).toArray 48 p u (by simpa using q))) (Q_.one x xa ca) F5 E5 F6 ?_;intro v6 a0 D E _;have I:K_ f a0:=aK (KV.trans G8) E5 (au g2.o G8) E;have a1:=Kz D;clear D E)
       go_roundw
       case rel=>exact⟨k+1,E5,F3,by rw[a2.o,a4.o],by rw[a2.o,a4.o];exact⟨_,(by rw[M_];exact a1.o),f9.o.snoc h8.o h9.o i0.o,I⟩⟩
       case measure=>simp[intOf];omega
      .have a3:yn r (L,qd) x= (L,qd):=by unfold yn;rw[g1];rfl
       have a4:=Kz a3;clear a3;go_upto_region 10 with fail
       go_quiet (fail)
       go_wp2
       go_roundw
       case rel=>exact⟨k+1,E5,F3,by rw[a2.o,a4.o],by rw[a2.o,a4.o];exact⟨f7,g0.o,f9.o,J.drewN _⟩⟩
       case measure=>simp[intOf];omega
   .have i4:k=l.length:=E5;subst i4;have HE:=Kz (JH (r:=r) g4.o);rw[<-f2.o] at HE;cases j
    .go_wp2_with (at_builtin;refine wpList_append_own _ rfl (.tmp 53) (.tmp 55) 41 rfl f.heap.size 48 b9 _ 7 80 underlying41 c7 c8 N c9 rfl E8 _ h.length _ rfl (au Q.o G8) ⟨wr.heap.size,0,none⟩ 1 1 (r.cells m y) rfl rfl (λp u q=>(by rw[Nf];exact X_ wr (r.cells m y).toArray 48 p u (by simpa using q))) (Q_.one r m y) F5 E5 F6 ?_;intro v6 a0 D E _;have I:K_ f a0:=aK (C.trans G8) E5 (au Q.o G8) E;have a1:=Kz D;clear D E)
     go_ret
     have e:dh l r=h++[r]:=by rw[<-HE.o];rfl
     rw[e];exact⟨v6,rfl,⟨f,_,b3.o,I,(by rw[M_];exact a1.o),O.o.snoc e8.o e9.o f0.o⟩,b3.o.trans I⟩
    .go_wp2
     go_ret
     have e:dh l r=h:=by rw[<-HE.o];rfl
     rw[e];exact⟨_,rfl,⟨f,xs,b3.o,C,Q.o,O.o⟩,b3.o.trans C⟩
theorem Tryz.lH :(prog.info? 43).map (·.size)=some 2:=F4
variable {w:NN}
theorem bI.set{P:Nat->Prop}{a:List NP}{l:List Q_}{c p:Nat}(h:bI w P a l)(e:∀b,P b->b≠c)(u:NP):bI (w.setCell ⟨c,p,none⟩ u) P a l:=by
 refine⟨h.1,λi f=>?_⟩;let⟨j,k,m,n,q,d⟩:=h.2 i f;refine⟨j,k,m,(λr s=>?_),q,d⟩;obtain⟨b,o,rfl,t,v⟩:=n r s;exact⟨b,o,rfl,by rw[size_setCell];exact t,by rw[Zj (e b (d _ rfl))];exact v⟩
variable {t:TypeId}
theorem Jc{w':NN}{base size b m n:Nat}{e:TypeId}{v:NP}{d:List NP}(h:w.ownsRow base e size v n d)(k:Xj b (b+1) w w')(f:ay w b t m)(i:t≠e):w'.ownsRow base e size v n d:=by
 refine⟨h.1,?_⟩;rcases h.2 with a|⟨g,j,l,rfl,p,c,rest⟩
 .exact .inl a
 .refine .inr ⟨g,j,l,rfl,p,?_,rest⟩;have q:g≠b:=by
   rintro rfl;let⟨r,a,_⟩:=f;rw[c] at a;simp only[Na,Obj.cells.injEq] at a;exact i a.2.1.symm
  rw[k.block g (aM c) E5];exact c
theorem bO{base:Nat}{v:NP}{n:Nat}{l:List NL}(h:w.ownsRow base t 1 v n (l.map Value.string)):∃a b,v=.slice a l.length b/\Strs w a l:=by
 have d:n=l.length:=by have:=h.1;simp at this;omega
 subst d;rcases h.2 with⟨rfl,e⟩|⟨g,b,j,rfl,k,f,m,_,_,_⟩
 .exact⟨none,0,by rw[e],λi c=>E5⟩
 .refine⟨_,b,rfl,λi c=>⟨g,0,rfl,aM f,?_⟩⟩;have:=h.cells (g:=g) rfl i (.string (l.getD i ByteArray.empty)) (by simp[List.getD,c]);rw[Nf] at this;exact this
structure StX (W1 wr:NN)(sb:Nat)(ra:NM)(n rc:Nat)(d:NM)(t:List Q_)(dc:Nat)(xs:List NP):Prop where
 kb:Xj sb (sb+1) W1 wr
 row:ay wr sb 43 2
 Kj:wr.cell? ⟨sb,0,none⟩=some (.slice ra n rc)
 runs:wr.cell? ⟨sb,1,none⟩=some (.slice d t.length dc)
 own:wr.ownsRow W1.heap.size 48 7 (.slice d t.length dc) t.length xs
 pack:bI wr (λb=>sb<b) xs t
def Ai(Kj:List NL)(T:List Q_)(w w':NN)(e:Ending):Prop:=∃ra rc d dc xs,e=.returned (.agg #[.slice ra Kj.length rc,.slice d T.length dc])/\w'.ownsRow w.heap.size 9 1 (.slice ra Kj.length rc) Kj.length (Kj.map Value.string)/\w'.ownsRow w.heap.size 48 7 (.slice d T.length dc) T.length xs/\bI w' (λb=>w.heap.size<=b) xs T/\K_ w w'
theorem zX :∀(l t:List Q_),dB t->dB (l.foldl dh t)
 |[],_,h=>h
 |x :: l,t,h=>zX l (dh t x) (pJ h)
theorem rf(w:NN)(Q S rc:Nat)(Kj:List NL)(a:NM)(d5:Nat)(R:List Q_)(g4:Kj.length<=10)(g5:R.length<=10000)(d6:∀r∈R,r.texts.length<=1000)(d7:∀k,((R.take k).foldl dh []).length<=10000)(hR:Strs w (some ⟨Q,S,none⟩) Kj)(hS:bN w a R):Calls prog 63 #[.slice (some ⟨Q,S,none⟩) Kj.length rc,.slice a R.length d5] w λe w'=>Ai Kj (R.foldl dh []) w w' e:=by
 obtain⟨is,hi,d8,d9,e0⟩:=aW Tryz.fA;obtain⟨h,T⟩:=aj (w.alloc (.cells #[M3,M3] 43));have a0:K_ w h:=by rw[T];exact ah _ _
 have a1:ay h w.heap.size 43 2:=by rw[T];exact ay.made w #[M3,M3] 43
 have g6:=a1.lt;have b0:=Kz a1;have U:Hid (K_ h (h.alloc (.cells #[] 9))):=ah _ _;have a2:Hid ((h.alloc (.cells #[] 9)).ownsRow h.heap.size 9 1 (.b h.heap.size 0 0) 0 (([]:List NL).map Value.string)):=MQ h #[] 0 (Mj _) (Ml _) rfl;have b1:Hid (∀j u,(Kj.map Value.string)[j]? =some u->(h.alloc (.cells #[] 9)).cell? ((⟨Q,S,none⟩:Addr).add j)=some u):=λj u J=>by
  have hj:j<Kj.length:=by have:=(Mr.1 J).1;simpa using this
  obtain⟨b,o,e,x,i⟩:=(hR.kept (a0.trans U.o)) j hj;simp only[Na] at e;rw[e,Nf,i];simp[hj] at J;simp[List.getD,hj,J]
 have b2:Hid (∀u∈Kj.map Value.string,u.oneCell'=true):=λu J=>by obtain⟨g7,_,rfl⟩:=MM.1 J;rfl
 have b3:=U.o.size;clear a1;go_enter func63,ntmps63
 go_upto_region 1 with fail
 rw[<-T];clear T;go_wp2_with (at_builtin;refine wpList_append_own _ rfl (.tmp 7) (.tmp 8) 26 rfl h.heap.size 9 is _ 1 16 underlying26 hi d8 d9 e0 rfl E8 (.b h.heap.size 0 0) 0 [] rfl a2.o ⟨Q,S,none⟩ Kj.length rc (Kj.map Value.string) rfl E9 b1.o b2.o F5 E5 b3 ?_;intro v6 F V b4 _;have X:K_ h F:=aK U.o (Mj _) a2.o b4;rw[MR,List.nil_append] at V;obtain⟨n,q,rfl⟩:=aF V;have b5:=Kz V;clear V b4)
 obtain⟨A,K⟩:=aj (F.alloc (.cells #[.slice n Kj.length q,M3] 43));obtain⟨s,C⟩:=aj F.heap.size;have Y:K_ F A:=by rw[K];exact ah _ _
 have a3:Hid (ay A s 43 2):=by rw[K,C];exact ay.made F #[.slice n Kj.length q,M3] 43
 have b6:A.rangeAt s 0 [.slice n Kj.length q,M3]:=by rw[K,C];exact X_ F #[.slice n Kj.length q,M3] 43
 have e1:=Kz b6;have b7:=Kz (b0.o.kept (X.trans Y));have e2:=Kz (au b5.o Y);have K1:=(a0.trans X).trans Y;have e3:=X.size;have e4:=a3.o.lt;have g8:w.heap.size<s:=E5;rw[<-K,<-C];clear b6 b5 a2 b1 b0 K C b2 b3 U Y X e3 a0;go_loopw [6] (λL wr=>∃(k:Nat)(d:NM)(l:Nat)(xs:List NP),k<=R.length/\L=.a k/\StX A wr s n Kj.length q d ((R.take k).foldl dh []) l xs) (λL _=>R.length-(intOf L).toNat)
 case atStart=>
  have i:=e1.o;exact⟨0,none,0,[],Ml _,rfl,⟨Xj.refl _ _ _,a3.o,i 0 _ rfl,i 1 _ rfl,Nj _ _ _ _,bI.nil _ _⟩⟩
 case round=>
  obtain⟨k,d,l,xs,hk,rfl,f⟩:=hrel;have a4:=d7 k;by_cases M:k<R.length
  .have Kr:K_ w wr:=f.kb.kept K1 E5;obtain⟨b,o,D,N,rfl,x,i,a5,b8⟩:=hS.kept Kr k M;obtain⟨t,E⟩:=aj ((R.take k).foldl dh []);obtain⟨y,Z⟩:=aj (R.getD k Q_.zero);have e5:Hid ((R.take (k+1)).foldl dh []=dh t y):=by show _=_;rw[Ms M,List.foldl_append,E,Z];simp[List.getD,M]
   have b9:dB t:=by rw[E];exact zX _ _ List.Pairwise.nil
   have e6:y.texts.length<=1000:=by rw[Z];simp only[List.getD,M,Mq,NC];exact d6 _ (Mw M)
   rw[<-E] at f a4;rw[<-Z] at i a5;have z:=Kz f;have zr:=f.kb.size;have e7:Hid (nK wr (λb=>s<b) d t):=by
    obtain⟨_,a9,g9,ev,G⟩:=bI.runs f.own f.pack (K_.refl _);simp only[Nb,true_and] at ev;rw[ev.1];exact G
   have e8:Hid (∀W,K_ wr W->Calls prog 115 #[.slice d t.length l,.agg #[.string y.name,.bool y.over,.bool y.fail,.string y.text,.a y.at',.a y.Zq,.slice D y.texts.length N]] W λe w'=>∃v,e=.returned v/\Iy W w' (λb=>s<b) v (dh t y)/\K_ W w'):=λW hW=>Cg W d l t y D N E5 e6 b9 (λb=>s<b) (λb x=>by have:=hW.size;omega) (e7.o.kept hW) (a5.kept hW) b8
   have c0:M4 wr b (o+k*7+0) (.string y.name):=i 0 _ rfl;have c1:M4 wr b (o+k*7+1) (.bool y.over):=i 1 _ rfl;have c2:M4 wr b (o+k*7+2) (.bool y.fail):=i 2 _ rfl;have c3:M4 wr b (o+k*7+3) (.string y.text):=i 3 _ rfl;have c4:M4 wr b (o+k*7+4) (.a y.at'):=i 4 _ rfl;have c5:M4 wr b (o+k*7+5) (.a y.Zq):=i 5 _ rfl;have c6:M4 wr b (o+k*7+6) (.slice D y.texts.length N):=i 6 _ rfl;rw[Ng] at c0;have m1:=f.runs;have C:=f.row.lt;clear i Z E b9 f a5 b8;have h0:(k:Int)<(R.length:Int):=E5;have c7:Hid (∀w',K_ wr w'->(λw'=>M4 w' s 1 (.slice d t.length l)/\M4 w' b (o+k*7) (.string y.name)/\M4 w' b (o+k*7+1) (.bool y.over)/\M4 w' b (o+k*7+2) (.bool y.fail)/\M4 w' b (o+k*7+3) (.string y.text)/\M4 w' b (o+k*7+4) (.a y.at')/\M4 w' b (o+k*7+5) (.a y.Zq)/\M4 w' b (o+k*7+6) (.slice D y.texts.length N)) w'):=λw' B=>⟨(B.cell C).trans m1,(B.cell x).trans c0,(B.cell x).trans c1,(B.cell x).trans c2,(B.cell x).trans c3,(B.cell x).trans c4,(B.cell x).trans c5,(B.cell x).trans c6⟩
   go_wp2
   refine Qk.region F4 (λw'=>M4 w' s 1 (.slice d t.length l)/\M4 w' b (o+k*7) (.string y.name)/\M4 w' b (o+k*7+1) (.bool y.over)/\M4 w' b (o+k*7+2) (.bool y.fail)/\M4 w' b (o+k*7+3) (.string y.text)/\M4 w' b (o+k*7+4) (.a y.at')/\M4 w' b (o+k*7+5) (.a y.Zq)/\M4 w' b (o+k*7+6) (.slice D y.texts.length N)) 8 ⟨m1,c0,c1,c2,c3,c4,c5,c6⟩ λH=>?_;refine ak 0 H ?_;refine ae 4 H ?_;refine ae 5 H ?_;refine aG 6 λa6 O=>?_;go_simp
   go_at_call 115
   refine (e8.o _ G5).mono ?_;rintro e w2 ⟨v2,rfl,e9,f0⟩;have I:K_ wr w2:=K_.trans G5 f0;have z2:=I.size;obtain⟨wy,f1,c8,c9,a7,d0⟩:=e9;have zy:=c8.size;have d1:A.heap.size<=wy.heap.size:=Nat.le_trans zr (Nat.le_trans (Nat.le_of_eq F7) zy);have d2:=dN (base':=A.heap.size) a7 d1;obtain⟨f2,f3,rfl⟩:=aF a7;have f4:=Kz d2;have f5:=Kz (d0.kept c9);have a8:=z.o.row.kept I;obtain⟨⟨_,h1⟩,h2⟩:=a8.row.at (i:=1) E5;have d3:=Kz a8;clear d2 a7 d0 a8 c8 c9 zy d1;dsimp only;refine O.out _ _ (λ_=>c7.o w2 I) ?_;clear O a6 H;have H:=c7.o w2 I;try simp only[upP]
   refine ae 7 H ?_;refine ai 8 λa6 O=>?_;go_simp
   refine af O (λG=>NB rfl G) ?_;clear O a6;refine aC ?_;go_wp2
   go_roundw
   case rel=>exact⟨k+1,f2,f3,f1,E5,F3,by rw[e5.o];exact⟨(z.o.kb.trans (Xj.ax I)).setCell (Mj _) (MO _) _,d3.o.set _,by rw[Xk E5,I.cell z.o.row.lt];exact z.o.Kj,aR d3.o.row E5 _,bM (p:=⟨s,1,none⟩) f4.o e4 _,f5.o.set (λb G=>E5) _⟩⟩
   case measure=>simp[intOf];omega
  .have f6:k=R.length:=E5;subst f6;rw[MS] at f a4;obtain⟨t,E⟩:=aj (R.foldl dh []);rw[<-E] at f a4;have m0:=f.Kj;have m1:=f.runs;have P:=b7.o.block (f.kb.block _ b7.o.lt E5);obtain⟨⟨_,t0⟩,h3⟩:=P.row.at (i:=0) E5;obtain⟨⟨_,t1⟩,h4⟩:=P.row.at (i:=1) E5;have⟨f7,z⟩:=aH P f;have C:=f.row.lt;have h5:=P.lt;clear P f;go_wp2
   have f8:=Mo wr w.heap.size 0 [.slice n Kj.length q,.slice d t.length l] (f7.o.row.there (o:=0) (m:=2) (Mj _));have hO:=bM (bM z.o.own (p:=⟨w.heap.size,0,none⟩) (by show w.heap.size<_;omega) (.slice n Kj.length q)) (p:=⟨w.heap.size,1,none⟩) (by show w.heap.size<_;omega) (.slice d t.length l);have f9:=Jc e2.o z.o.kb a3.o E8;have g0:=bM (bM f9 (p:=⟨w.heap.size,0,none⟩) (by show w.heap.size<_;omega) (.slice n Kj.length q)) (p:=⟨w.heap.size,1,none⟩) (by show w.heap.size<_;omega) (.slice d t.length l);have d4:=(z.o.pack.set (c:=w.heap.size) (p:=0) (λb G=>E5) (.slice n Kj.length q)).set (c:=w.heap.size) (p:=1) (λb G=>E5) (.slice d t.length l);subst E;refine Zx [.slice n Kj.length q,.slice d (R.foldl dh []).length l] _ results63 rfl f8 underlying43 rfl Tryz.lH rfl ⟨n,q,d,l,xs,rfl,dN g0 E5,dN hO E5,⟨d4.1,λL hi=>by obtain⟨D,xc,e,g1,g2,g3⟩:=d4.2 L hi;exact⟨D,xc,e,g1,g2,λad e=>by have:=g3 ad e;omega⟩⟩,?_⟩;exact ((z.o.kb.kept K1 E5).setCell (Mj _) _).setCell (Mj _) _
def rG(v:NL):List NP:=[.string v,.bool false,.bool false,.string ⟨#[]⟩,.a 0,.a 0,M3]
theorem wX(v:NL):∀u∈rG v,u.oneCell'=true:=Q_.one (Q_.fresh v) none 0
theorem zP(r w:NN)(f:Nat)(a9:r.heap.size<=f)(a:NM)(m:Nat)(c:List Qz)(Z:NM)(rc:Nat)(names:List NL)(l:List Q_)(d0:NM)(a0:Nat)(a1:List NP)(O:c.length<=1048576)(c4:names.length<=100)(c5:l.length<=1000)(h:KnX r w f a c.length m l d0 a0 a1)(P:bQ r a c)(hR:Strs r Z names):Calls prog 112 #[.c f,.slice Z names.length rc] w λe w'=>e=.returned (.tuple #[])/\∃d j t,KnX r w' f a c.length m (bT (Kk c) l names) d j t:=by
 have HK:=Kz h;clear h;go_enter func112,ntmps112
 go_wp2
 go_loopw [4] (λi wr=>∃(k:Nat)(d:NM)(j:Nat)(t:List NP),k<=names.length/\i=.a k/\KnX r wr f a c.length m (bT (Kk c) l (names.take k)) d j t) (λi _=>names.length-(intOf i).toNat)
 case atStart=>exact⟨0,d0,a0,a1,Ml _,rfl,HK.o⟩
 case round=>
  obtain⟨k,d,j,t,hk,rfl,p⟩:=hrel;by_cases a2:k<names.length
  .obtain⟨q,o,rfl,H,Q⟩:=hR k a2;have C:=p.kw;let⟨R,S⟩:=aj (bT (Kk c) l (names.take k));have I:=xO (Kk c) l a2;rw[<-S] at p I;have c6:R.length<=1100:=by rw[S];have:=mQ (Kk c) (names.take k) l;rw[ML] at this;omega
   let⟨v,a3⟩:=aj (names.getD k ByteArray.empty);rw[<-a3] at Q I;have T:=Kz I;have J:=(C.cell H).trans Q;have U:=p.known.web;have V:=p.known.runs;have L:=p.known.row.lt;have⟨a4,x⟩:=aH p.runs p;clear S a3 I p HK;have W:=Mk H C.size;have i0:(k:Int)<(names.length:Int):=E5;by_cases D:(Kk c v).isSome=true
   .have E:Hid (∀w',K_ wr w'->(λw'=>M4 w' f 0 (.slice a c.length m)/\M4 w' f 1 (.slice d R.length j)/\M4 w' q (o+k) (.string v)) w'):=λw' z=>⟨(z.cell L).trans U,(z.cell L).trans V,(z.cell W).trans J⟩
    by_cases M:(Qq R v).isNone=true
    .go_wp2
     go_region_held (λw'=>M4 w' f 0 (.slice a c.length m)/\M4 w' f 1 (.slice d R.length j)/\M4 w' q (o+k) (.string v)) (exact bg E _ G5) ((first|(go_at_call 61;refine (sG _ a m c v O (P.kept (C.trans G5)) D).mono ?_;rintro e A ⟨⟨r1,rfl⟩,F⟩;have n:K_ wr A:=K_.trans G5 F)|(go_at_call 116;refine (Cs _ f a c.length m d j R v E5 (x.o.known.kept (n.trans G5)) (a4.o.kept (n.trans G5)) M).mono ?_;rintro e s ⟨⟨r2,rfl,c7⟩,rfl⟩)))
     all_goals
      have G:=x.o.kept n;have X:=Kz G;have n1:=G.known.runs;have n0:=(n.cell W).trans J;have z2:=G.kw.size;have b0:=Mk H z2;have b1:=G.known.row.lt;have b2:Hid (∀w',K_ s w'->(λw'=>M4 w' f 1 (.slice d R.length j)/\M4 w' q (o+k) (.string v)) w'):=λw' bl=>⟨(bl.cell b1).trans n1,(bl.cell b0).trans n0⟩
      let⟨b3,b4,b5,b6,b7⟩:=aW Tryz.tH;clear G;go_wp2
      refine Qk.region F4 (λw'=>M4 w' f 1 (.slice d R.length j)/\M4 w' q (o+k) (.string v)) 14 ⟨n1,n0⟩ λb=>?_;refine ak 0 b ?_;refine ak 4 b ?_;refine ae 8 b ?_;refine ae 9 b ?_;refine ai 10 λK h=>?_;go_simp
      have N:K_ s (s.alloc (.cells (rG v).toArray 48)).drew:=(ah _ _).drew;refine af h (λ_=>b2.o _ N) ?_;clear h K b;refine ai 11 λK h=>?_;refine step_append_lies _ rfl (.tmp 34) (.tmp 40) 41 rfl r.heap.size 48 b3 _ 7 80 underlying41 b4 b5 b6 b7 rfl E8 (.slice d R.length j) R.length t F9 (au X.o.own N) ⟨s.heap.size,0,none⟩ 1 1 (rG v) F9 rfl (λb8 u hu=>by rw[Nf];exact X_ s (rG v).toArray 48 b8 u (by simpa using hu)) (wX v) E5 F5 E5 F6 _ rfl ?_;intro g6 b9 w8 a5 Y c0 c8;let⟨c1,a6⟩:=X.o.grown N Y;have a7:=a6.row;let⟨⟨_,c9⟩,d1⟩:=a7.row.at (i:=1) E5;have a8:=(show _/\_ from ⟨a6.runs,(c1.cell H).trans Q⟩);have c2:=Kz (KnX.next (y:=Q_.fresh v) (xa:=none) (xc:=0) X.o a9 N Y a5 (λi hi=>by cases hi) λ_=>rfl);clear a5 Y c0 a7;refine af h (λ_=>a8) ?_;clear h K;have b:=a8;refine ae 12 b ?_;refine ae 13 b ?_;refine ai 14 λK h=>?_;go_simp
      refine af h (λB=>NB rfl B) ?_;clear h K;refine aC ?_;go_wp2
      go_roundw
      case rel=>exact⟨k+1,_,b9,_,E5,F3,by rw[T.o,Nz ⟨D,M⟩];exact c2.o⟩
      case measure=>simp[intOf];omega
    .go_wp2
     go_region_held (λw'=>M4 w' f 0 (.slice a c.length m)/\M4 w' f 1 (.slice d R.length j)/\M4 w' q (o+k) (.string v)) (exact bg E _ G5) ((first|(go_at_call 61;refine (sG _ a m c v O (P.kept (C.trans G5)) D).mono ?_;rintro e A ⟨⟨r1,rfl⟩,F⟩;have n:K_ wr A:=K_.trans G5 F)|(go_at_call 116;refine (Co _ f a c.length m d j R v E5 (x.o.known.kept (n.trans G5)) (a4.o.kept (n.trans G5)) M).mono ?_;rintro e s ⟨⟨r2,rfl⟩,rfl⟩)))
     all_goals
      go_wp2
      go_roundw
      case rel=>exact⟨k+1,d,j,t,E5,F3,by rw[T.o,NA λB=>M B.2];exact x.o.kept n⟩
      case measure=>simp[intOf];omega
   .have E:Hid (∀w',K_ wr w'->(λw'=>M4 w' f 0 (.slice a c.length m)/\M4 w' f 1 (.slice d R.length j)/\M4 w' q (o+k) (.string v)) w'):=λw' z=>⟨(z.cell L).trans U,(z.cell L).trans V,(z.cell W).trans J⟩
    go_wp2
    refine Qk.region F4 (λw'=>M4 w' f 0 (.slice a c.length m)/\M4 w' f 1 (.slice d R.length j)/\M4 w' q (o+k) (.string v)) 18 ⟨U,V,J⟩ λb=>?_;refine ak 0 b ?_;refine ak 4 b ?_;refine aG 8 λK h=>?_;go_simp
    go_at_call 61
    refine (Bu _ a m c v O (P.kept (C.trans G5)) D).mono ?_;rintro e A ⟨rfl,F⟩;have n:K_ wr A:=K_.trans G5 F;dsimp only;refine h.out _ _ (λ_=>E.o A n) ?_;clear h K b;have b:=E.o A n;try simp only[upP]
    refine ae 9 b ?_;refine ae 10 b ?_;refine aB 11 b ?_;refine aB 12 b ?_;refine aB 13 b ?_;refine aB 14 b ?_;refine aB 15 b ?_;refine aB 16 b ?_;refine aB 17 b ?_;refine ai 18 λK h=>?_;go_simp
    refine af h (λB=>NB rfl B) ?_;clear h K;refine aC ?_;go_wp2
    go_roundw
    case rel=>exact⟨k+1,d,j,t,E5,F3,by rw[T.o,NA λB=>D B.1];exact x.o.kept n⟩
    case measure=>simp[intOf];omega
  .have c3:k=names.length:=E5;subst c3;rw[MS] at p;have x:=Kz p;clear p;go_wp2
   go_end0
   exact⟨rfl,_,_,_,x.o⟩
theorem vP{a:NN}{x:NP}(K:K_ (w.alloc (.cells #[x] t)) a):a.cell? ⟨w.heap.size,0,none⟩=some x:=(K.cell E9).trans (X_ w #[x] t 0 _ rfl)
theorem FV{X w':NN}{c:Array NP}(k:K_ (X.alloc (.cells c t)) w'):ay w' X.heap.size t c.size:=(ay.made X c t).kept k
theorem xV{α:Type}(p q:α->Bool)(h:∀x,¬(p x=true/\q x=true)):∀l:List α,(l.filter p).length+(l.filter q).length<=l.length
 |[]=>Mj _
 |x :: l=>by
  have e:=xV p q h l;have d:=h x;simp only[List.filter_cons];by_cases b:p x=true
  .have a:¬q x=true:=λa=>d ⟨b,a⟩
   rw[Nz b,NA a,Nc,Nc];omega
  .rw[NA b];by_cases a:q x=true
   .rw[Nz a,Nc,Nc];omega
   .rw[NA a,Nc];omega
theorem vN(l:List Q_)(r:Q_):(dh l r).length<=l.length+1:=by
 unfold dh;rw[M_,Nc];have:=xV (λx:Q_=>Op.bytesLess x.name.toList r.name.toList) (λx:Q_=>Op.bytesLess r.name.toList x.name.toList) (λx h=>eU h.1 h.2) l;omega
theorem zH :∀(l t:List Q_),(l.foldl dh t).length<=t.length+l.length
 |[],_=>Mj _
 |x :: l,t=>by
  have a:=zH l (dh t x);have b:=vN t x;show (l.foldl dh (dh t x)).length<=_;rw[Nc];omega
theorem lh(R:List Q_)(k:Nat):((R.take k).foldl dh []).length<=R.length:=by
 have a:=zH (R.take k) [];have b:(R.take k).length<=R.length:=H6;simp only[List.length_nil] at a;omega
theorem uj(W:dC):∀(bs:List NL)(l:List Q_)(x:Q_),x∈bT W l bs->x∈l\/∃n,x=Q_.fresh n
 |[],_,_,h=>.inl h
 |a :: bs,l,x,h=>by
  rcases uj W bs _ x h with b|b
  .by_cases d:(W a).isSome=true/\(Qq l a).isNone=true
   .rw[Nz d] at b;rcases Mv.1 b with c|c
    .exact .inl c
    .rw[Mt] at c;exact .inr ⟨a,c⟩
   .rw[NA d] at b;exact .inl b
  .exact .inr b
theorem tF{P Q:Nat->Prop}{a:List NP}{l:List Q_}(h:bI w P a l)(c:∀b,P b->Q b):bI w Q a l:=⟨h.1,λi d=>by let⟨f,j,e,k,m,n⟩:=h.2 i d;exact⟨f,j,e,k,m,λp e=>c _ (n p e)⟩⟩
theorem Dr(w:NN)(a:NM)(d:Nat)(b:List Qz)(l n x:Nat)(Kj:List NL)(hl:b.length<=1048576)(hf:∀s∈b,s.Fits)(hw:bE b 0)(C:eP Kj)(a8:∀s∈Kj,s.size<=maxLen)(M:bQ w a b)(D:Strs w (some ⟨l,n,none⟩) Kj):Calls prog 55 #[.agg #[.slice a b.length d],.slice (some ⟨l,n,none⟩) Kj.length x] w λe w'=>Ai Kj (bu b Kj) w w' e:=by
 have a9:b.length<=maxLen:=F5;have b0:Kj.length<=maxLen:=by have:=C.1;have:=C.2.1;unfold maxLen;omega
 go_enter func55,ntmps55
 go_wp2_with fail
 refine (g_ _ a d b a9 hf (M.kept G9)).mono ?_;rintro e y ⟨⟨b1,rfl,N⟩,q⟩;have E:K_ w y:=K_.trans G9 q;have z1:=q.size;simp only[MZ] at z1;have O:=vP (w:=w) (K_.trans (ah _ _) q);have F:=FV q;simp only[MZ] at F;have z:Hid (ay y (w.heap.size+1) 43 2):=F;obtain⟨⟨_,x0⟩,g0⟩:=z.o.row.at (i:=0) E5;obtain⟨⟨_,x1⟩,g1⟩:=z.o.row.at (i:=1) E5;have b2:=N.unique hw;clear F N q;have b3:w.heap.size<y.heap.size:=E5;have c5:w.heap.size+1<y.heap.size:=E5;subst b2;go_wp2_with fail
 refine (mE _ (some ⟨l,n,none⟩) x Kj b0 a8 (D.kept E)).mono ?_;rintro e c ⟨P,r⟩;have q2:=(r.cell (o:=0) b3).trans O;have A:=Kz (z.o.kept r);have G:=E.trans r;have z2:=r.size;obtain⟨⟨_,y0⟩,e0⟩:=A.o.row.at (i:=0) E5;obtain⟨⟨_,y1⟩,e1⟩:=A.o.row.at (i:=1) E5;clear O x0 x1 g0 g1 z E r;rcases P.cases with⟨rfl,Q⟩|⟨rfl,b4⟩
 .have H:=Kz Q;clear Q P;have c6:w.heap.size<c.heap.size:=E5;have b5:Hid (KnX c (c.alloc (.cells #[.slice a b.length d,M3] 106)) c.heap.size a b.length d [] none 0 []):=⟨ah _ _,⟨ay.made c _ _,X_ c #[.slice a b.length d,M3] 106 0 _ rfl,X_ c #[.slice a b.length d,M3] 106 1 _ rfl⟩,Nj _ _ _ _,bI.nil _ _⟩;go_wp2_with fail
  refine (zP c _ c.heap.size (Mj _) a d b (some ⟨l,n,none⟩) x Kj [] none 0 [] hl (by have:=H.o.2.1;omega) E9 b5.o (M.kept G) (D.kept G)).mono ?_;rintro e w3 ⟨rfl,b6,dc,xs,t⟩;have I:=t.kw;have S:=G.trans I;have z3:=I.size;have U:=t.known.runs;have c7:=t.known.row.lt;have V:=Kz t.runs;have W:=Kz (A.o.kept I);obtain⟨R,v⟩:=aj (bT (Kk b) [] Kj);have c8:R.length<=10:=by have:=mQ (Kk b) Kj [];have:=H.o.2.1;rw[v];simp at *;omega
  have X:∀Y∈R,Y.texts.length<=1000:=λY Z=>by
   rw[v] at Z;rcases uj _ _ _ _ Z with B|⟨c9,rfl⟩
   .cases B
   .exact Ml _
  have a0:Hid (R.foldl dh []=bu b Kj):=by show _=_;rw[v];rfl
  rw[<-v] at V U;have b7:=Kz X;clear t y0 y1 e0 e1 A q2 v X;go_wp2_with fail
  refine (rf _ l n x Kj b6 dc R (by have:=H.o.2.1;omega) E5 b7.o (λb8=>by have:=lh R b8;omega) (D.kept S) V.o).mono ?_;rintro e w4 a1;rw[a0.o] at a1;obtain⟨f,h,j,k,b9,rfl,a2,a3,a4,J⟩:=a1;have K4:=S.trans J;have K:=Kz (W.o.kept J);have z4:=J.size;obtain⟨⟨_,t0⟩,d0⟩:=K.o.row.at (i:=0) E5;obtain⟨⟨_,t1⟩,f1⟩:=K.o.row.at (i:=1) E5;have⟨c0,a5,a6⟩:=di a2 a3 a4;obtain⟨T,L⟩:=aj (bu b Kj);rw[<-L] at a5 a6⊢;have c1:=Kz L;clear a2 a3 a4 W U L a0;go_wp2
  have c2:=Mo w4 (w.heap.size+1) 0 [.slice f Kj.length h,.slice j T.length k] (K.o.row.there (o:=0) (m:=2) (Mj _));have hO:=bM (bM a5.o (p:=⟨w.heap.size+1,0,none⟩) F6 (.slice f Kj.length h)) (p:=⟨w.heap.size+1,1,none⟩) F6 (.slice j T.length k);have c3:=bM (bM c0.o (p:=⟨w.heap.size+1,0,none⟩) F6 (.slice f Kj.length h)) (p:=⟨w.heap.size+1,1,none⟩) F6 (.slice j T.length k);have c4:=(a6.o.set (c:=w.heap.size+1) (p:=0) (λa7 B=>E5) (.slice f Kj.length h)).set (c:=w.heap.size+1) (p:=1) (λa7 B=>E5) (.slice j T.length k);obtain rfl:=c1.o;exact Zx [.slice f Kj.length h,.slice j (bu b Kj).length k] _ results55 rfl c2 underlying43 rfl Tryz.lH rfl ⟨f,h,j,k,b9,rfl,dN c3 E5,dN hO E5,tF c4 λa7 B=>E5,(K4.setCell E9 _).setCell E9 _⟩
 .exact NB C b4
