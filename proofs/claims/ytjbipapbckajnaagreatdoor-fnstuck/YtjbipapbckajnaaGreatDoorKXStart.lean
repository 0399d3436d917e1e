import Derived.Test.YtjbipapbckajnaaGreatDoorKVAppr
import Derived.Laws.AppendOwnNone
import Derived.Test.YtjbipapbckajnaaGreatDoorKWGo7
set_option maxRecDepth 100000
set_option maxHeartbeats 25600000
namespace Go.Proofs.YtjbipapbckajnaaGreatDoor
open Go.RowKit Go.Proofs.Tryz
theorem JM(w:Pv)(a:Pt)(g3:Nat)(l:List Qz)(r:Qz)(i:Pt)(H:Nat)(hl:l.length<=100000)(i4:r.texts.length<=1000)(hr:dz l)(P:Nat->Prop)(d6:∀b,w.heap.size<=b->P b)(hS:pE w P a l)(hT:Strs w i r.texts)(hX:i=none->H=0):
  Calls prog 71 #[.slice a l.length g3,.agg #[.string r.name,.bool r.over,.bool r.fail,.string r.text,.a r.at',.a r.Zj,.slice i r.texts.length H]] w
   λe w'=>∃v,e= .returned v/\Mq w w' P v (dF l r)/\K_ w w':=by
 have⟨d7,g4,d8⟩:=fu hX hr d6;clear hX hr d6;obtain⟨d,O⟩:=ai (w.alloc (.cells #[.string r.name,.bool r.over,.bool r.fail,.string r.text,.a r.at',.a r.Zj,.slice i r.texts.length H] 40));have kB:K_ w d:=by rw[O];exact ah _ _
 have g5:w.heap.size+1<=d.heap.size:=by rw[O];simp
 have d9:vS d w.heap.size r i H:=by
  rw[O];exact⟨aB.made w #[.string r.name,.bool r.over,.bool r.fail,.string r.text,.a r.at',.a r.Zj,.slice i r.texts.length H] 40,Xz w _ _⟩
 have⟨a5,I⟩:=aH kB d9;clear kB d9;go_enter func71,ntmps71
 go_upto_region 1 with fail
 rw[<-O];clear O;have a6:Hid (K_ d (d.alloc (.cells #[] 9))):=ah _ _;have a7:Hid ((d.alloc (.cells #[] 9)).ownsRow d.heap.size 9 1 (.b d.heap.size 0 0) 0 (([]:List Ps).map Value.string)):=Ov d #[] 0 (NQ _) (NS _) rfl;obtain⟨ic,b7,e0,e1,e2⟩:=aY Tryz.eP;go_cut [3] from 8 to 57 (λs3 G=>∃p z,s3= .c w.heap.size/\K_ w G/\vS G w.heap.size r p z/\Strs G p r.texts/\(p=none->z=0)/\(∀A:Addr,p=some A->P A.block))
 case first=>
  obtain⟨q0,q1,q2,q3,q4,q5,q6⟩:=I.o.all;have qz:=I.o.row.lt;obtain⟨_,i5⟩:=I.o.row.row.at (i:=6) A7;rcases (show i=none\/∃A,i=some A from by cases i with|none=>exact .inl rfl|some x=>exact .inr ⟨x,rfl⟩) with rfl|⟨A,rfl⟩
  .have h0:r.texts=[]:=by
    cases g6:r.texts with
    | nil=>rfl
    | cons t ts=>exfalso;obtain⟨b,o,e,_⟩:=hT 0 (by rw[g6];simp);cases e
   have e3:=d7.o rfl;have e4:d.cell? ⟨w.heap.size,6,none⟩=some J3:=by rw[q6,h0,e3];rfl
   have H0:=Kz h0;clear q6 h0 e3;have q6:=e4;clear e4;go_wp2_with (at_builtin;refine wpList_append_own_none _ rfl (.tmp 8) (.tmp 10) 26 rfl d.heap.size 9 ic 1 underlying26 b7 (.b d.heap.size 0 0) 0 [] rfl a7.o rfl ?_)
   go_meet
   exact⟨_,_,rfl,K_.alloc (Below.setCell a5.o (p:=⟨w.heap.size,6,none⟩) (NQ _) _) _,(I.o.put (xa':=some ⟨d.heap.size,0,none⟩) (xc':=0) A7 (by simp[Qz.cells,H0.o])).kept (ah _ _),(λa8 hi=>by rw[H0.o] at hi;cases hi),(λe=>by cases e),λA e=>by cases e;exact d8.o _ (by show w.heap.size<=d.heap.size;omega)⟩
  .have g7:Hid (∀q u,(r.texts.map Value.string)[q]? =some u->(d.alloc (.cells #[] 9)).cell? (A.add q)=some u):=λq u s=>by
    have hj:q<r.texts.length:=by have:=(NW.1 s).1;simpa using this
    obtain⟨b,o,e,j,y⟩:=(hT.kept (a5.o.trans a6.o)) q hj;simp only[OE] at e;subst e;rw[OI,y];simp[hj] at s;simp[List.getD,hj,s]
   have g8:Hid (∀u∈r.texts.map Value.string,u.oneCell'=true):=λu s=>by obtain⟨x,_,rfl⟩:=Oq.1 s;rfl
   have g9:d.heap.size<=(d.alloc (.cells #[] 9)).heap.size:=a6.o.size;go_wp2_with (at_builtin;refine wpList_append_own _ rfl (.tmp 8) (.tmp 10) 26 rfl d.heap.size 9 ic _ 1 16 underlying26 b7 e0 e1 e2 rfl A8 (.b d.heap.size 0 0) 0 [] rfl a7.o A r.texts.length H (r.texts.map Value.string) rfl A9 g7.o g8.o D5 A7 g9 ?_;intro v1 w8 a9 e5 _;rw[Ow,List.nil_append] at a9;have e6:=aL a6.o (NQ _) a7.o e5;have h1:=Kz a9;obtain⟨h4,h5,rfl⟩:=ay a9;have b0:=Kz (I.o.kept e6);have i6:=b0.o.all.2.2.2.2.2.2;have i7:=b0.o.row.lt;obtain⟨_,i8⟩:=b0.o.row.row.at (i:=6) A7;clear a9 e5)
   go_meet
   obtain⟨p,z,ev,b1,Q,b2⟩:=GK (c:=w.heap.size) (p:=6) (u:= .slice h4 r.texts.length h5) h1.o A7;simp only[OG] at ev;obtain⟨rfl,_,rfl⟩:=ev;exact⟨_,_,rfl,Below.setCell (a5.o.trans e6) (p:=⟨w.heap.size,6,none⟩) (NQ _) _,b0.o.put A7 rfl,b1,Q,λA e=>d8.o _ (NT A7 (b2 A e))⟩
 case rest=>
  obtain⟨p,z,rfl,k2,b8,b1,e7,b2⟩:=hcut;obtain⟨f,rfl⟩:=ai wc;obtain⟨b9,c7,c8,Q,c9⟩:=aY Tryz.yP;have J:=Kz b8;have h6:=Kz (hS.kept k2);have⟨b3,e8,e9,f0⟩:=jW k2 b1 e7 b2;have i9:=b8.row.lt;clear b1 e7 b2 b8 k2 hS hT d7 a5 I a6 a7 b7 e0 e1 e2 g5;go_wp2
  go_loopw [5,6,7] (λout dn a8 wr=>∃k:Nat,k<=l.length/\a8= .a k/\dn= .bool (uC l r k).2/\Mr f wr P out (uC l r k)) (λ_ _ a8 _=>l.length-(intOf a8).toNat)
  case atStart=>
   exact⟨0,NS _,rfl,rfl,[],Ov f #[] 0 (NQ _) (NS _) rfl,df.nil _ _,ah _ _⟩
  case round=>
   obtain⟨k,hk,rfl,d0,xs,B,C,D⟩:=hrel;have f1:=CY (l:=l) (r:=r) hk;obtain⟨h7,hp⟩:=ai (uC l r k);rw[<-hp] at d0 B C f1;obtain⟨h,m⟩:=h7;dsimp only at d0 B C f1;subst d0;have⟨R,S,f2⟩:=fu C B hp;clear C B hp;obtain⟨T,U,V,W,X,Y,Z⟩:=(J.o.kept D).all;have a0:=(J.o.kept D).row.lt;have hz:=D.size;by_cases f3:k<l.length
   .obtain⟨b,o,i,ca,rfl,j,y,d1,f4,f5⟩:=h6.o k f3;have d2:=Kz (Ap (r:=r) f3);obtain⟨x,hx⟩:=ai (l.getD k Qz.zero);rw[<-hx,<-f2.o] at d2;rw[<-hx] at y d1;have HC:Hid (∀w',K_ f w'->b<w'.heap.size/\J4 w' b (o+k*7) (.string x.name)/\J4 w' b (o+k*7+1) (.bool x.over)/\J4 w' b (o+k*7+2) (.bool x.fail)/\J4 w' b (o+k*7+3) (.string x.text)/\J4 w' b (o+k*7+4) (.a x.at')/\J4 w' b (o+k*7+5) (.a x.Zj)/\J4 w' b (o+k*7+6) (.slice i x.texts.length ca)):=λw' K=>⟨NR j K.size,(K.cell j).trans (y 0 _ rfl),(K.cell j).trans (y 1 _ rfl),(K.cell j).trans (y 2 _ rfl),(K.cell j).trans (y 3 _ rfl),(K.cell j).trans (y 4 _ rfl),(K.cell j).trans (y 5 _ rfl),(K.cell j).trans (y 6 _ rfl)⟩
    have⟨h8,h9,i0⟩:=fu d1 f4 f5;clear y d1 f4 f5 hx;obtain⟨j,c0,c1,c2,c3,c4,c5,c6⟩:=HC.o wr D;have j0:(k:Int)<(l.length:Int):=A7;go_upto_region 7 with fail
    go_cut [31] from 14 to 50 (λc G=>c= .bool (!m && !Op.bytesLess x.name.toList r.name.toList)/\∃n,G=wr.drewN n)
    case first=>
     cases m
     .cases b4:Op.bytesLess x.name.toList r.name.toList
      .go_quiet (fail)
       go_wp2
       go_meet
       exact⟨by rw[b4];rfl,nq,rfl⟩
      .go_quiet (fail)
       go_wp2
       go_meet
       exact⟨by rw[b4];rfl,nq,rfl⟩
     .go_quiet (fail)
      go_wp2
      go_meet
      exact⟨rfl,nq,rfl⟩
    case rest=>
     obtain⟨rfl,nq,d3⟩:=hcut;obtain⟨wq,rfl⟩:=ai wc;have KQ:K_ f wq:=(by rw[d3];exact D.drewN nq);have b5:Hid (wq.ownsRow f.heap.size 40 7 u5 h.length xs):=(by rw[d3];exact S.o);clear T U V W X Y Z a0 d3 c0 c1 c2 c3 c4 c5 c6 j;obtain⟨T,U,V,W,X,Y,Z⟩:=(J.o.kept KQ).all;have a0:=(J.o.kept KQ).row.lt;have j1:=KQ.size;obtain⟨cb,d4⟩:=ai ((!m && !Op.bytesLess x.name.toList r.name.toList));rw[<-d4];have d5:=Kz d4;clear d4;go_upto_if 31 with fail
     go_cut [5,6] from 14 to 50 (λo6 i1 G=>i1= .bool (rU r (h,m) x).2/\Mr f G P o6 (rU r (h,m) x))
     case first=>
      cases cb
      .go_wp2
       go_meet
       have e:rU r (h,m) x= (h,m):=(by unfold rU;rw[if_neg];rintro⟨f6,h2⟩;have h3:=d5.o;dsimp only at f6;rw[f6,h2] at h3;cases h3);rw[e];exact⟨rfl,xs,b5.o,R.o,KQ⟩
      .go_wp2_with (at_builtin;refine wpList_append_own _ rfl (.tmp 32) (.tmp 34) 30 rfl f.heap.size 40 b9 _ 7 80 underlying30 c7 c8 Q c9 rfl A8 _ h.length _ rfl (ak b5.o F3) ⟨wq.heap.size,0,none⟩ 1 1 (r.cells p z) rfl rfl (λq u s=>(by rw[OI];exact Xz wq (r.cells p z).toArray 40 q u (by simpa using s))) (Qz.one r p z) D5 A7 D6 ?_;intro v6 w6 E F _;have L:K_ f w6:=aL (KQ.trans F3) A7 (ak b5.o F3) F;have a1:=Kz E;clear E F)
       go_meet
       have e:rU r (h,m) x= (h++ [r],true):=(by unfold rU;rw[Pe];have h3:=d5.o;cases m <;> cases b4:Op.bytesLess x.name.toList r.name.toList <;> simp[b4] at h3⊢);rw[e];exact⟨rfl,_,(by rw[OD];exact a1.o),R.o.snoc e8.o e9.o f0.o,L⟩
     case rest=>
      obtain⟨rfl,f7,B,C,M⟩:=hcut;obtain⟨wt,rfl⟩:=ai wc;have f8:(rU r (h,m) x).1.length<=h.length+1:=by unfold rU;split <;> simp
      have a2:Hid (uC l r (k+1)=ze r (rU r (h,m) x) x):=d2.o;obtain⟨i2,hq⟩:=ai (rU r (h,m) x);rw[<-hq] at B C f8 a2⊢;obtain⟨N,qd⟩:=i2;dsimp only at B C f8;dsimp only;have⟨f9,g0⟩:=aH C B;clear C B hq T U V W X Y Z a0 d2 R S b5 d5;obtain⟨T,U,V,W,X,Y,Z⟩:=(J.o.kept M).all;have a0:=(J.o.kept M).row.lt;have j2:=M.size;obtain⟨j,c0,c1,c2,c3,c4,c5,c6⟩:=HC.o wt M;clear U V W X Y Z c1 c2 c3 c4 c5 c6;cases g1:(x.name.toList == r.name.toList)
      .have a3:ze r (N,qd) x= (N++ [x],qd):=by unfold ze;rw[g1];rfl
       have a4:=Kz a3;clear a3;go_upto_region 10 with fail
       go_quiet (fail)
       obtain⟨wv,b6⟩:=ai (wt.drewN nq);rw[<-b6];have KV:K_ f wv:=(by rw[b6];exact M.drewN _);have g2:Hid (wv.ownsRow f.heap.size 40 7 u5 N.length f7):=(by rw[b6];exact g0.o);clear T a0 b6 c0 j;obtain⟨j,c0,c1,c2,c3,c4,c5,c6⟩:=HC.o wv KV;have j3:=KV.size;go_wp2_with (at_builtin;refine wpList_append_own _ rfl (.tmp 44) (.tmp 49) 30 rfl f.heap.size 40 b9 _ 7 80 underlying30 c7 c8 Q c9 rfl A8 _ N.length _ rfl (ak g2.o F3) ⟨wv.heap.size,0,none⟩ 1 1 (x.cells i ca) rfl rfl (λq u s=>(by rw[OI];exact Xz wv (x.cells i ca).toArray 40 q u (by simpa using s))) (Qz.one x i ca) D5 A7 D6 ?_;intro v6 w6 E F _;have L:K_ f w6:=aL (KV.trans F3) A7 (ak g2.o F3) F;have a1:=Kz E;clear E F)
       go_roundw
       case rel=>exact⟨k+1,A7,C8,by rw[a2.o,a4.o],by rw[a2.o,a4.o];exact⟨_,(by rw[OD];exact a1.o),f9.o.snoc h8.o h9.o i0.o,L⟩⟩
       case measure=>simp[intOf];omega
      .have a3:ze r (N,qd) x= (N,qd):=by unfold ze;rw[g1];rfl
       have a4:=Kz a3;clear a3;go_upto_region 10 with fail
       go_quiet (fail)
       go_wp2
       go_roundw
       case rel=>exact⟨k+1,A7,C8,by rw[a2.o,a4.o],by rw[a2.o,a4.o];exact⟨f7,g0.o,f9.o,M.drewN _⟩⟩
       case measure=>simp[intOf];omega
   .have i3:k=l.length:=A7;subst i3;have HE:=Kz (Li (r:=r) g4.o);rw[<-f2.o] at HE;cases m
    .go_wp2_with (at_builtin;refine wpList_append_own _ rfl (.tmp 53) (.tmp 55) 30 rfl f.heap.size 40 b9 _ 7 80 underlying30 c7 c8 Q c9 rfl A8 _ h.length _ rfl (ak S.o F3) ⟨wr.heap.size,0,none⟩ 1 1 (r.cells p z) rfl rfl (λq u s=>(by rw[OI];exact Xz wr (r.cells p z).toArray 40 q u (by simpa using s))) (Qz.one r p z) D5 A7 D6 ?_;intro v6 w6 E F _;have L:K_ f w6:=aL (D.trans F3) A7 (ak S.o F3) F;have a1:=Kz E;clear E F)
     go_ret
     have e:dF l r=h++ [r]:=by rw[<-HE.o];rfl
     rw[e];exact⟨v6,rfl,⟨f,_,b3.o,L,(by rw[OD];exact a1.o),R.o.snoc e8.o e9.o f0.o⟩,b3.o.trans L⟩
    .go_wp2
     go_ret
     have e:dF l r=h:=by rw[<-HE.o];rfl
     rw[e];exact⟨_,rfl,⟨f,xs,b3.o,D,S.o,R.o⟩,b3.o.trans D⟩
theorem Tryz.FK :(prog.info? 32).map (·.size)=some 2:=C9
theorem df.set{w:Pv}{P:Nat->Prop}{a:List Pw}{l:List Qz}{c p:Nat}(h:df w P a l)(e:∀b,P b->b≠c)(u:Pw):df (w.setCell ⟨c,p,none⟩ u) P a l:=by
 refine⟨h.1,λi f=>?_⟩;obtain⟨j,k,m,n,q,d⟩:=h.2 i f;refine⟨j,k,m,(λr s=>?_),q,d⟩;obtain⟨b,o,rfl,t,v⟩:=n r s;exact⟨b,o,rfl,by rw[size_setCell];exact t,by rw[Zk (e b (d _ rfl))];exact v⟩
theorem Kh{w w':Pv}{base size b m n:Nat}{e t:TypeId}{v:Pw}{d:List Pw}(h:w.ownsRow base e size v n d)(k:Xk b (b+1) w w')(f:aB w b t m)(i:t≠e):w'.ownsRow base e size v n d:=by
 refine⟨h.1, ?_⟩;rcases h.2 with a|⟨g,j,l,rfl,p,c,rest⟩
 .exact .inl a
 .refine .inr ⟨g,j,l,rfl,p, ?_,rest⟩;have q:g≠b:=by
   rintro rfl;obtain⟨r,a,_⟩:=f;rw[c] at a;simp only[OE,Obj.cells.injEq] at a;exact i a.2.1.symm
  rw[k.block g (aO c) A7];exact c
theorem bv{w:Pv}{base:Nat}{t:TypeId}{v:Pw}{n:Nat}{l:List Ps}(h:w.ownsRow base t 1 v n (l.map Value.string)):∃a b,v= .slice a l.length b/\Strs w a l:=by
 have d:n=l.length:=by have:=h.1;simp at this;omega
 subst d;rcases h.2 with⟨rfl,e⟩|⟨g,b,j,rfl,k,f,m,_,_,_⟩
 .exact⟨none,0,by rw[e],λi c=>A7⟩
 .refine⟨_,b,rfl,λi c=>⟨g,0,rfl,aO f, ?_⟩⟩;have:=h.cells (g:=g) rfl i (.string (l.getD i ByteArray.empty)) (by simp[List.getD,c]);rw[OI] at this;exact this
structure StX (W1 wr:Pv) (sb:Nat) (ra:Pt) (n rc:Nat) (d:Pt) (t:List Qz) (dc:Nat) (xs:List Pw):Prop where
 kb:Xk sb (sb+1) W1 wr
 row:aB wr sb 32 2
 Kk:wr.cell? ⟨sb,0,none⟩=some (.slice ra n rc)
 runs:wr.cell? ⟨sb,1,none⟩=some (.slice d t.length dc)
 own:wr.ownsRow W1.heap.size 40 7 (.slice d t.length dc) t.length xs
 pack:df wr (λb=>sb<b) xs t
def MI(Kk:List Ps)(T:List Qz)(w w':Pv)(e:Ending):Prop:=
 ∃ra rc d dc xs,e= .returned (.agg #[.slice ra Kk.length rc,.slice d T.length dc])/\w'.ownsRow w.heap.size 9 1 (.slice ra Kk.length rc) Kk.length (Kk.map Value.string)/\w'.ownsRow w.heap.size 40 7 (.slice d T.length dc) T.length xs/\df w' (λb=>w.heap.size<=b) xs T/\K_ w w'
theorem AU :∀(l t:List Qz),dz t->dz (l.foldl dF t)
 | [],_,h=>h
 | x :: l,t,h=>AU l (dF t x) (lC h)
theorem EO(w:Pv)(Q S rc:Nat)(Kk:List Ps)(a:Pt)(d5:Nat)(R:List Qz)(g4:Kk.length<=10)(g5:R.length<=10000)(d6:∀r∈R,r.texts.length<=1000)(d7:∀k,((R.take k).foldl dF []).length<=10000)(hR:Strs w (some ⟨Q,S,none⟩) Kk)(hS:fw w a R):
  Calls prog 39 #[.slice (some ⟨Q,S,none⟩) Kk.length rc,.slice a R.length d5] w λe w'=>MI Kk (R.foldl dF []) w w' e:=by
 obtain⟨is,hi,d8,d9,e0⟩:=aY Tryz.eP;obtain⟨h,T⟩:=ai (w.alloc (.cells #[J3,J3] 32));have a0:K_ w h:=by rw[T];exact ah _ _
 have a1:aB h w.heap.size 32 2:=by rw[T];exact aB.made w #[J3,J3] 32
 have g6:w.heap.size+1<=h.heap.size:=a1.lt;have b0:=Kz a1;have U:Hid (K_ h (h.alloc (.cells #[] 9))):=ah _ _;have a2:Hid ((h.alloc (.cells #[] 9)).ownsRow h.heap.size 9 1 (.b h.heap.size 0 0) 0 (([]:List Ps).map Value.string)):=Ov h #[] 0 (NQ _) (NS _) rfl;have b1:Hid (∀j u,(Kk.map Value.string)[j]? =some u->(h.alloc (.cells #[] 9)).cell? ((⟨Q,S,none⟩:Addr).add j)=some u):=λj u J=>by
  have hj:j<Kk.length:=by have:=(NW.1 J).1;simpa using this
  obtain⟨b,o,e,x,i⟩:=(hR.kept (a0.trans U.o)) j hj;simp only[OE] at e;rw[e,OI,i];simp[hj] at J;simp[List.getD,hj,J]
 have b2:Hid (∀u∈Kk.map Value.string,u.oneCell'=true):=λu J=>by obtain⟨g7,_,rfl⟩:=Oq.1 J;rfl
 have b3:h.heap.size<=(h.alloc (.cells #[] 9)).heap.size:=U.o.size;clear a1;go_enter func39,ntmps39
 go_upto_region 1 with fail
 rw[<-T];clear T;go_wp2_with (at_builtin;refine wpList_append_own _ rfl (.tmp 7) (.tmp 8) 26 rfl h.heap.size 9 is _ 1 16 underlying26 hi d8 d9 e0 rfl A8 (.b h.heap.size 0 0) 0 [] rfl a2.o ⟨Q,S,none⟩ Kk.length rc (Kk.map Value.string) rfl A9 b1.o b2.o D5 A7 b3 ?_;intro v6 F V b4 _;have X:K_ h F:=aL U.o (NQ _) a2.o b4;rw[Ow,List.nil_append] at V;obtain⟨n,q,rfl⟩:=ay V;have b5:=Kz V;clear V b4)
 obtain⟨A,K⟩:=ai (F.alloc (.cells #[.slice n Kk.length q,J3] 32));obtain⟨s,C⟩:=ai F.heap.size;have Y:K_ F A:=by rw[K];exact ah _ _
 have a3:Hid (aB A s 32 2):=by rw[K,C];exact aB.made F #[.slice n Kk.length q,J3] 32
 have b6:A.rangeAt s 0 [.slice n Kk.length q,J3]:=by rw[K,C];exact Xz F #[.slice n Kk.length q,J3] 32
 have e1:=Kz b6;have b7:=Kz (b0.o.kept (X.trans Y));have e2:=Kz (ak b5.o Y);have K1:K_ w A:=(a0.trans X).trans Y;have e3:=X.size;have e4:s+1<=A.heap.size:=a3.o.lt;have g8:w.heap.size<s:=A7;rw[<-K,<-C];clear b6 b5 a2 b1 b0 K C b2 b3 U Y X e3 a0;go_loopw [6] (λL wr=>∃(k:Nat) (d:Pt) (l:Nat) (xs:List Pw),k<=R.length/\L= .a k/\StX A wr s n Kk.length q d ((R.take k).foldl dF []) l xs) (λL _=>R.length-(intOf L).toNat)
 case atStart=>
  have i:=e1.o;exact⟨0,none,0,[],NS _,rfl,⟨Xk.refl _ _ _,a3.o,i 0 _ rfl,i 1 _ rfl,OO _ _ _ _,df.nil _ _⟩⟩
 case round=>
  obtain⟨k,d,l,xs,hk,rfl,f⟩:=hrel;have a4:=d7 k;by_cases M:k<R.length
  .have Kr:K_ w wr:=f.kb.kept K1 A7;obtain⟨b,o,D,N,rfl,x,i,a5,b8⟩:=hS.kept Kr k M;obtain⟨t,E⟩:=ai ((R.take k).foldl dF []);obtain⟨y,Z⟩:=ai (R.getD k Qz.zero);have e5:Hid ((R.take (k+1)).foldl dF []=dF t y):=by show _=_;rw[NY M,List.foldl_append,E,Z];simp[List.getD,M]
   have b9:dz t:=by rw[E];exact AU _ _ List.Pairwise.nil
   have e6:y.texts.length<=1000:=by rw[Z];simp only[List.getD,M,NV,Ph];exact d6 _ (Oa M)
   rw[<-E] at f a4;rw[<-Z] at i a5;have z:=Kz f;have zr:=f.kb.size;have e7:Hid (pE wr (λb=>s<b) d t):=by
    obtain⟨_,a9,g9,ev,G⟩:=df.runs f.own f.pack (K_.refl _);simp only[OG,true_and] at ev;rw[ev.1];exact G
   have e8:Hid (∀W,K_ wr W->Calls prog 71 #[.slice d t.length l,.agg #[.string y.name,.bool y.over,.bool y.fail,.string y.text,.a y.at',.a y.Zj,.slice D y.texts.length N]] W λe w'=>∃v,e= .returned v/\Mq W w' (λb=>s<b) v (dF t y)/\K_ W w'):=λW hW=>JM W d l t y D N A7 e6 b9 (λb=>s<b) (λb x=>by have:=hW.size;omega) (e7.o.kept hW) (a5.kept hW) b8
   have c0:J4 wr b (o+k*7+0) (.string y.name):=i 0 _ rfl;have c1:J4 wr b (o+k*7+1) (.bool y.over):=i 1 _ rfl;have c2:J4 wr b (o+k*7+2) (.bool y.fail):=i 2 _ rfl;have c3:J4 wr b (o+k*7+3) (.string y.text):=i 3 _ rfl;have c4:J4 wr b (o+k*7+4) (.a y.at'):=i 4 _ rfl;have c5:J4 wr b (o+k*7+5) (.a y.Zj):=i 5 _ rfl;have c6:J4 wr b (o+k*7+6) (.slice D y.texts.length N):=i 6 _ rfl;rw[OJ] at c0;have m1:=f.runs;have C:=f.row.lt;clear i Z E b9 f a5 b8;have h0:(k:Int)<(R.length:Int):=A7;have c7:Hid (∀w',K_ wr w'->(λw'=>J4 w' s 1 (.slice d t.length l)/\J4 w' b (o+k*7) (.string y.name)/\J4 w' b (o+k*7+1) (.bool y.over)/\J4 w' b (o+k*7+2) (.bool y.fail)/\J4 w' b (o+k*7+3) (.string y.text)/\J4 w' b (o+k*7+4) (.a y.at')/\J4 w' b (o+k*7+5) (.a y.Zj)/\J4 w' b (o+k*7+6) (.slice D y.texts.length N)) w'):=λw' B=>⟨(B.cell C).trans m1,(B.cell x).trans c0,(B.cell x).trans c1,(B.cell x).trans c2,(B.cell x).trans c3,(B.cell x).trans c4,(B.cell x).trans c5,(B.cell x).trans c6⟩
   go_wp2
   refine Qx.region C9 (λw'=>J4 w' s 1 (.slice d t.length l)/\J4 w' b (o+k*7) (.string y.name)/\J4 w' b (o+k*7+1) (.bool y.over)/\J4 w' b (o+k*7+2) (.bool y.fail)/\J4 w' b (o+k*7+3) (.string y.text)/\J4 w' b (o+k*7+4) (.a y.at')/\J4 w' b (o+k*7+5) (.a y.Zj)/\J4 w' b (o+k*7+6) (.slice D y.texts.length N)) 8 ⟨m1,c0,c1,c2,c3,c4,c5,c6⟩ (λH=>?_);refine ax 0 H ?_;refine ae 4 H ?_;refine ae 5 H ?_;refine aF 6 (λa6 O=>?_);go_simp
   go_at_call 71
   refine (e8.o _ E5).mono ?_;rintro e w2 ⟨v2,rfl,e9,f0⟩;have I:K_ wr w2:=K_.trans E5 f0;have z2:=I.size;obtain⟨wy,f1,c8,c9,a7,d0⟩:=e9;have zy:=c8.size;have d1:A.heap.size<=wy.heap.size:=Nat.le_trans zr (Nat.le_trans (Nat.le_of_eq D8) zy);have d2:=gQ (base':=A.heap.size) a7 d1;obtain⟨f2,f3,rfl⟩:=ay a7;have f4:=Kz d2;have f5:=Kz (d0.kept c9);have a8:=z.o.row.kept I;obtain⟨⟨_,h1⟩,h2⟩:=a8.row.at (i:=1) A7;have d3:=Kz a8;clear d2 a7 d0 a8 c8 c9 zy d1;dsimp only;refine O.out _ _ (λ_=>c7.o w2 I) ?_;clear O a6 H;have H:=c7.o w2 I;try simp only[upP]
   refine ae 7 H ?_;refine aj 8 (λa6 O=>?_);go_simp
   refine af O (λG=>Pg rfl G) ?_;clear O a6;refine aG ?_;go_wp2
   go_roundw
   case rel=>exact⟨k+1,f2,f3,f1,A7,C8,by rw[e5.o];exact⟨(z.o.kb.trans (Xk.au I)).setCell (NQ _) (Nat.lt_succ_self _) _,d3.o.set _,by rw[Xx A7,I.cell z.o.row.lt];exact z.o.Kk,bu d3.o.row A7 _,eG (p:=⟨s,1,none⟩) f4.o e4 _,f5.o.set (λb G=>A7) _⟩⟩
   case measure=>simp[intOf];omega
  .have f6:k=R.length:=A7;subst f6;rw[Ox] at f a4;obtain⟨t,E⟩:=ai (R.foldl dF []);rw[<-E] at f a4;have m0:=f.Kk;have m1:=f.runs;have P:=b7.o.block (f.kb.block _ b7.o.lt A7);obtain⟨⟨_,t0⟩,h3⟩:=P.row.at (i:=0) A7;obtain⟨⟨_,t1⟩,h4⟩:=P.row.at (i:=1) A7;have⟨f7,z⟩:=aH P f;have C:=f.row.lt;have h5:=P.lt;clear P f;go_wp2
   have f8:=NU wr w.heap.size 0 [.slice n Kk.length q,.slice d t.length l] (f7.o.row.there (o:=0) (m:=2) (NQ _));have hO:=eG (eG z.o.own (p:=⟨w.heap.size,0,none⟩) (by show w.heap.size<_;omega) (.slice n Kk.length q)) (p:=⟨w.heap.size,1,none⟩) (by show w.heap.size<_;omega) (.slice d t.length l);have f9:=Kh e2.o z.o.kb a3.o A8;have g0:=eG (eG f9 (p:=⟨w.heap.size,0,none⟩) (by show w.heap.size<_;omega) (.slice n Kk.length q)) (p:=⟨w.heap.size,1,none⟩) (by show w.heap.size<_;omega) (.slice d t.length l);have d4:=(z.o.pack.set (c:=w.heap.size) (p:=0) (λb G=>A7) (.slice n Kk.length q)).set (c:=w.heap.size) (p:=1) (λb G=>A7) (.slice d t.length l);subst E;refine X_ [.slice n Kk.length q,.slice d (R.foldl dF []).length l] _ results39 rfl f8 underlying32 rfl Tryz.FK rfl ⟨n,q,d,l,xs,rfl,gQ g0 A7,gQ hO A7,⟨d4.1,λL hi=>by obtain⟨D,xc,e,g1,g2,g3⟩:=d4.2 L hi;exact⟨D,xc,e,g1,g2,λad e=>by have:=g3 ad e;omega⟩⟩, ?_⟩;exact ((z.o.kb.kept K1 A7).setCell (NQ _) _).setCell (NQ _) _
def BR(v:Ps):List Pw:=[.string v,.bool false,.bool false,.string ⟨#[]⟩,.a 0,.a 0,J3]
theorem EI(v:Ps):∀u∈BR v,u.oneCell'=true:=Qz.one (Qz.fresh v) none 0
theorem Cn{w a:Pv}{x:Pw}{t:TypeId}(K:K_ (w.alloc (.cells #[x] t)) a):a.cell? ⟨w.heap.size,0,none⟩=some x:=
 (K.cell A9).trans (Xz w #[x] t 0 _ rfl)
theorem yK{α:Type}(p q:α->Bool)(h:∀x,¬(p x=true/\q x=true)):∀l:List α,(l.filter p).length+ (l.filter q).length<=l.length
 | []=>NQ _
 | x :: l=>by
  have e:=yK p q h l;have d:=h x;simp only[List.filter_cons];by_cases b:p x=true
  .have a:¬q x=true:=λa=>d ⟨b,a⟩
   rw[Pe b,Pf a,OH,OH];omega
  .rw[Pf b];by_cases a:q x=true
   .rw[Pe a,OH,OH];omega
   .rw[Pf a,OH];omega
theorem Jd(l:List Qz)(r:Qz):(dF l r).length<=l.length+1:=by
 unfold dF;rw[OD,OH];have:=yK (λx:Qz=>Op.bytesLess x.name.toList r.name.toList) (λx:Qz=>Op.bytesLess r.name.toList x.name.toList) (λx h=>dW h.1 h.2) l;omega
theorem Ao :∀(l t:List Qz),(l.foldl dF t).length<=t.length+l.length
 | [],_=>NQ _
 | x :: l,t=>by
  have a:=Ao l (dF t x);have b:=Jd t x;show (l.foldl dF (dF t x)).length<=_;rw[OH];omega
theorem yu(R:List Qz)(k:Nat):((R.take k).foldl dF []).length<=R.length:=by
 have a:=Ao (R.take k) [];have b:(R.take k).length<=R.length:=E9;simp only[List.length_nil] at a;omega
