import Derived.Test.YtbmhchdegdjfkaaGreatDoorKXSame3
import Derived.Test.YtbmhchdegdjfkaaGreatDoorKWCheck5
import Derived.Test.YtbmhchdegdjfkaaGreatDoorKXNext
set_option maxRecDepth 100000
set_option maxHeartbeats 25600000
namespace Go.Proofs.YtbmhchdegdjfkaaGreatDoor
open Go.RowKit Go.Proofs.Tryz
theorem Tryz.bH :(prog.info? 29).map (·.size)=some 2:=by kernel_rfl
variable {l : List Qz} {xs : List LQ} {P : Nat -> Prop} {w : LP}
theorem aW.set{c p:Nat}(h:aW w P xs l)(d:∀b,P b->b≠c)(u:LQ):aW (w.setCell ⟨c,p,none⟩ u) P xs l:=by
 refine⟨h.1,fun i e=>?_⟩;obtain⟨f,j,k,m,n,a⟩:=h.2 i e;refine⟨f,j,k,(fun q r=>?_),n,a⟩;obtain⟨b,o,rfl,s,t⟩:=m q r;exact⟨b,o,rfl,by rw[size_setCell];exact s,by rw[Zk (d b (a _ rfl))];exact t⟩
variable {base n sb size : Nat} {t : TypeId} {v : LQ} {w' : LP}
theorem Be{m:Nat}{e:TypeId}(h:w.ownsRow base e size v n xs)(k:Xk sb (sb+1) w w')(c:aC w sb t m)(d:t≠e):w'.ownsRow base e size v n xs:=by
 refine⟨h.1, ?_⟩;rcases h.2 with a|⟨g,f,i,rfl,j,b,rest⟩
 ·exact .inl a
 ·refine .inr ⟨g,f,i,rfl,j, ?_,rest⟩;have l:g≠sb:=by
   rintro rfl;obtain⟨p,a,_⟩:=c;rw[b] at a;simp only[KT,Obj.cells.injEq] at a;exact d a.2.1.symm
  rw[k.block g (aO b) (by omega)];exact b
theorem aX{l:List LK}(h:w.ownsRow base t 1 v n (l.map Value.string)):∃a b,v= .slice a l.length b/\Strs w a l:=by
 have d:n=l.length:=by have:=h.1;simp at this;omega
 subst d;rcases h.2 with⟨rfl,e⟩|⟨g,b,j,rfl,k,f,m,_,_,_⟩
 ·exact⟨none,0,by rw[e],fun i c=>by omega⟩
 ·refine⟨_,b,rfl,fun i c=>⟨g,0,rfl,aO f, ?_⟩⟩;have:=h.cells (g:=g) rfl i (.string (l.getD i ByteArray.empty)) (by simp[List.getD,c]);rw[KZ] at this;exact this
structure StX (W1 wr:LP) (sb:Nat) (ra:LM) (n rc:Nat) (d:LM) (t:List Qz) (dc:Nat) (xs:List LQ):Prop where
 kb:Xk sb (sb+1) W1 wr
 row:aC wr sb 29 2
 Kk:wr.cell? ⟨sb,0,none⟩=some (.slice ra n rc)
 runs:wr.cell? ⟨sb,1,none⟩=some (.slice d t.length dc)
 own:wr.ownsRow W1.heap.size 40 7 (.slice d t.length dc) t.length xs
 pack:aW wr (fun b=>sb<b) xs t
def pK(Kk:List LK)(T:List Qz)(w w':LP)(e:Ending):Prop:=
 ∃ra rc d dc xs,e= .returned (.agg #[.slice ra Kk.length rc,.slice d T.length dc])/\w'.ownsRow w.heap.size 9 1 (.slice ra Kk.length rc) Kk.length (Kk.map Value.string)/\w'.ownsRow w.heap.size 40 7 (.slice d T.length dc) T.length xs/\aW w' (fun b=>w.heap.size<=b) xs T/\K_ w w'
theorem yl :∀(l t:List Qz),cO t->cO (l.foldl dF t)
 | [],_,h=>h
 | x :: l,t,h=>yl l (dF t x) (nR h)
theorem uS(w:LP)(S T rc:Nat)(Kk:List LK)(a:LM)(d4:Nat)(R:List Qz)(g3:Kk.length<=10)(g4:R.length<=10000)(d5:∀r∈R,r.texts.length<=1000)(d6:∀k,((R.take k).foldl dF []).length<=10000)(hR:Strs w (some ⟨S,T,none⟩) Kk)(hS:bD w a R):
  Calls prog 86 #[.slice (some ⟨S,T,none⟩) Kk.length rc,.slice a R.length d4] w fun e w'=>pK Kk (R.foldl dF []) w w' e:=by
 obtain⟨is,hi,d7,d8,d9⟩:=aQ Tryz.bY;obtain⟨h,U⟩:=aj (w.alloc (.cells #[.slice none 0 0,.slice none 0 0] 29));have a0:K_ w h:=by rw[U];exact ag _ _
 have a1:aC h w.heap.size 29 2:=by rw[U];exact aC.made w #[.slice none 0 0,.slice none 0 0] 29
 have g5:w.heap.size+1<=h.heap.size:=a1.lt;have a9:=Kz a1;have V:Hid (K_ h (h.alloc (.cells #[] 9))):=ag _ _;have a2:Hid ((h.alloc (.cells #[] 9)).ownsRow h.heap.size 9 1 (.slice (some ⟨h.heap.size,0,none⟩) 0 0) 0 (([]:List LK).map Value.string)):=KG h #[] 0 (JP _) (JR _) rfl;have b0:Hid (∀J u,(Kk.map Value.string)[J]? =some u->(h.alloc (.cells #[] 9)).cell? ((⟨S,T,none⟩:Addr).add J)=some u):=fun J u K=>by
  have hj:J<Kk.length:=by have:=(JW.1 K).1;simpa using this
  obtain⟨b,o,e,s,i⟩:=(hR.kept (a0.trans V.o)) J hj;simp only[KT] at e;rw[e,KZ,i];simp[hj] at K;simp[List.getD,hj,K]
 have b1:Hid (∀u∈Kk.map Value.string,u.oneCell'=true):=fun u K=>by obtain⟨g6,_,rfl⟩:=Ku.1 K;rfl
 have b2:h.heap.size<=(h.alloc (.cells #[] 9)).heap.size:=V.o.size;clear a1;go_enter func86,ntmps86
 go_upto_region 1 with fail
 rw[<-U];clear U;go_wp2_with (at_builtin;refine wpList_append_own _ rfl (.tmp 7) (.tmp 8) 26 rfl h.heap.size 9 is _ 1 16 underlying26 hi d7 d8 d9 rfl (by decide) (.slice (some ⟨h.heap.size,0,none⟩) 0 0) 0 [] rfl a2.o ⟨S,T,none⟩ Kk.length rc (Kk.map Value.string) rfl (by simp) b0.o b1.o (by unfold maxLen;omega) (by omega) b2 ?_;intro v6 F X b3 _;have Y:K_ h F:=aG V.o (JP _) a2.o b3;rw[KH,List.nil_append] at X;obtain⟨l,n,rfl⟩:=ax X;have b4:=Kz X;clear X b3)
 obtain⟨A,L⟩:=aj (F.alloc (.cells #[.slice l Kk.length n,.slice none 0 0] 29));obtain⟨q,C⟩:=aj F.heap.size;have Z:K_ F A:=by rw[L];exact ag _ _
 have a3:Hid (aC A q 29 2):=by rw[L,C];exact aC.made F #[.slice l Kk.length n,.slice none 0 0] 29
 have b5:A.rangeAt q 0 [.slice l Kk.length n,.slice none 0 0]:=by rw[L,C];exact Xz F #[.slice l Kk.length n,.slice none 0 0] 29
 have e0:=Kz b5;have b6:=Kz (a9.o.kept (Y.trans Z));have e1:=Kz (ai b4.o Z);have K1:K_ w A:=(a0.trans Y).trans Z;have e2:=Y.size;have e3:q+1<=A.heap.size:=a3.o.lt;have g7:w.heap.size<q:=by omega
 rw[<-L,<-C];clear b5 b4 a2 b0 a9 L C b1 b2 V Z Y e2 a0;go_loopw [6] (fun M wr=>∃(k:Nat) (d:LM) (j:Nat) (xs:List LQ),k<=R.length/\M= .int .i64 k/\StX A wr q l Kk.length n d ((R.take k).foldl dF []) j xs) (fun M _=>R.length-(intOf M).toNat)
 case atStart=>
  have i:=e0.o;exact⟨0,none,0,[],JR _,rfl,⟨Xk.refl _ _ _,a3.o,i 0 _ rfl,i 1 _ rfl,Ld _ _ _ _,aW.nil _ _⟩⟩
 case round=>
  obtain⟨k,d,j,xs,hk,rfl,f⟩:=hrel;have a4:=d6 k;by_cases N:k<R.length
  ·have Kr:K_ w wr:=f.kb.kept K1 (by omega);obtain⟨b,o,D,O,rfl,s,i,a5,b7⟩:=hS.kept Kr k N;obtain⟨t,E⟩:=aj ((R.take k).foldl dF []);obtain⟨y,hy⟩:=aj (R.getD k Qz.zero);have e4:Hid ((R.take (k+1)).foldl dF []=dF t y):=by show _=_;rw[JX N,List.foldl_append,E,hy];simp[List.getD,N]
   have b8:cO t:=by rw[E];exact yl _ _ List.Pairwise.nil
   have e5:y.texts.length<=1000:=by rw[hy];simp only[List.getD,N,JV,Lx];exact d5 _ (J_ N)
   rw[<-E] at f a4;rw[<-hy] at i a5;have x:=Kz f;have zr:=f.kb.size;have e6:Hid (mh wr (fun b=>q<b) d t):=by
    obtain⟨_,g8,g9,ev,G⟩:=aW.runs f.own f.pack (K_.refl _);simp only[KX,true_and] at ev;rw[ev.1];exact G
   have e7:Hid (∀W,K_ wr W->Calls prog 89 #[.slice d t.length j,.agg #[.string y.name,.bool y.over,.bool y.fail,.string y.text,.int .i64 y.at',.int .i64 y.Zj,.slice D y.texts.length O]] W fun e w'=>∃v,e= .returned v/\FV W w' (fun b=>q<b) v (dF t y)/\K_ W w'):=fun W hW=>Aw W d j t y D O (by omega) e5 b8 (fun b=>q<b) (fun b s=>by have:=hW.size;omega) (e6.o.kept hW) (a5.kept hW) b7
   have c0:wr.cell? ⟨b,o+k*7+0,none⟩=some (.string y.name):=i 0 _ rfl;have b9:wr.cell? ⟨b,o+k*7+1,none⟩=some (.bool y.over):=i 1 _ rfl;have c1:wr.cell? ⟨b,o+k*7+2,none⟩=some (.bool y.fail):=i 2 _ rfl;have c2:wr.cell? ⟨b,o+k*7+3,none⟩=some (.string y.text):=i 3 _ rfl;have c3:wr.cell? ⟨b,o+k*7+4,none⟩=some (.int .i64 y.at'):=i 4 _ rfl;have c5:wr.cell? ⟨b,o+k*7+5,none⟩=some (.int .i64 y.Zj):=i 5 _ rfl;have c4:wr.cell? ⟨b,o+k*7+6,none⟩=some (.slice D y.texts.length O):=i 6 _ rfl;rw[La] at c0;have m1:=f.runs;have C:=f.row.lt;clear i hy E b8 f a5 b7;have h0:(k:Int)<(R.length:Int):=by omega
   have c6:Hid (∀w',K_ wr w'->(fun w'=>w'.cell? ⟨q,1,none⟩=some (.slice d t.length j)/\w'.cell? ⟨b,o+k*7,none⟩=some (.string y.name)/\w'.cell? ⟨b,o+k*7+1,none⟩=some (.bool y.over)/\w'.cell? ⟨b,o+k*7+2,none⟩=some (.bool y.fail)/\w'.cell? ⟨b,o+k*7+3,none⟩=some (.string y.text)/\w'.cell? ⟨b,o+k*7+4,none⟩=some (.int .i64 y.at')/\w'.cell? ⟨b,o+k*7+5,none⟩=some (.int .i64 y.Zj)/\w'.cell? ⟨b,o+k*7+6,none⟩=some (.slice D y.texts.length O)) w'):=fun w' B=>⟨(B.cell C).trans m1,(B.cell s).trans c0,(B.cell s).trans b9,(B.cell s).trans c1,(B.cell s).trans c2,(B.cell s).trans c3,(B.cell s).trans c5,(B.cell s).trans c4⟩
   go_wp2
   refine Qx.region (by kernel_rfl) (fun w'=>w'.cell? ⟨q,1,none⟩=some (.slice d t.length j)/\w'.cell? ⟨b,o+k*7,none⟩=some (.string y.name)/\w'.cell? ⟨b,o+k*7+1,none⟩=some (.bool y.over)/\w'.cell? ⟨b,o+k*7+2,none⟩=some (.bool y.fail)/\w'.cell? ⟨b,o+k*7+3,none⟩=some (.string y.text)/\w'.cell? ⟨b,o+k*7+4,none⟩=some (.int .i64 y.at')/\w'.cell? ⟨b,o+k*7+5,none⟩=some (.int .i64 y.Zj)/\w'.cell? ⟨b,o+k*7+6,none⟩=some (.slice D y.texts.length O)) 8 ⟨m1,c0,b9,c1,c2,c3,c5,c4⟩ (fun H=>?_);refine au 0 H ?_;refine af 4 H ?_;refine af 5 H ?_;refine ak 6 (fun a6 P=>?_);go_simp
   go_at_call 89
   refine (e7.o _ (by repeat (first | (with_reducible exact K_.refl _) | (with_reducible assumption) | apply K_.drew))).mono ?_;rintro e w2 ⟨v2,rfl,e8,e9⟩;have I:K_ wr w2:=K_.trans (by repeat (first | (with_reducible exact K_.refl _) | (with_reducible assumption) | apply K_.drew)) e9;have z2:=I.size;obtain⟨wy,f0,c7,c8,a7,c9⟩:=e8;have zy:=c7.size;have d0:A.heap.size<=wy.heap.size:=Nat.le_trans zr (Nat.le_trans (Nat.le_of_eq (by rfl)) zy);have d1:=bC (base':=A.heap.size) a7 d0;obtain⟨f1,f2,rfl⟩:=ax a7;have f3:=Kz d1;have f4:=Kz (c9.kept c8);have a8:=x.o.row.kept I;obtain⟨⟨_,h1⟩,h2⟩:=a8.row.at (i:=1) (by omega);have d2:=Kz a8;clear d1 a7 c9 a8 c7 c8 zy d0;dsimp only;refine P.out _ _ (fun _=>c6.o w2 I) ?_;clear P a6 H;have H:=c6.o w2 I;try simp only[upP]
   refine af 7 H ?_;refine ah 8 (fun a6 P=>?_);go_simp
   refine ae P (fun G=>Lv rfl G) ?_;clear P a6;refine aB ?_;go_wp2
   go_roundw
   case rel=>exact⟨k+1,f1,f2,f0,by omega,by go_num,by rw[e4.o];exact⟨(x.o.kb.trans (Xk.aF I)).setCell (JP _) (Ky _) _,d2.o.set _,by rw[Xx (by omega),I.cell x.o.row.lt];exact x.o.Kk,bG d2.o.row (by omega) _,aU (p:=⟨q,1,none⟩) f3.o e3 _,f4.o.set (fun b G=>by omega) _⟩⟩
   case measure=>simp[intOf];omega
  ·have f5:k=R.length:=by omega
   subst f5;rw[KI] at f a4;obtain⟨t,E⟩:=aj (R.foldl dF []);rw[<-E] at f a4;have m0:=f.Kk;have m1:=f.runs;have Q:=b6.o.block (f.kb.block _ b6.o.lt (by omega));obtain⟨⟨_,t0⟩,h3⟩:=Q.row.at (i:=0) (by omega);obtain⟨⟨_,t1⟩,h4⟩:=Q.row.at (i:=1) (by omega);have⟨f6,x⟩:=aH Q f;have C:=f.row.lt;have h5:=Q.lt;clear Q f;go_wp2
   have f7:=JU wr w.heap.size 0 [.slice l Kk.length n,.slice d t.length j] (f6.o.row.there (o:=0) (m:=2) (JP _));have hO:=aU (aU x.o.own (p:=⟨w.heap.size,0,none⟩) (by show w.heap.size<_;omega) (.slice l Kk.length n)) (p:=⟨w.heap.size,1,none⟩) (by show w.heap.size<_;omega) (.slice d t.length j);have f8:=Be e1.o x.o.kb a3.o (by decide);have f9:=aU (aU f8 (p:=⟨w.heap.size,0,none⟩) (by show w.heap.size<_;omega) (.slice l Kk.length n)) (p:=⟨w.heap.size,1,none⟩) (by show w.heap.size<_;omega) (.slice d t.length j);have d3:=(x.o.pack.set (c:=w.heap.size) (p:=0) (fun b G=>by omega) (.slice l Kk.length n)).set (c:=w.heap.size) (p:=1) (fun b G=>by omega) (.slice d t.length j);subst E;refine X_ [.slice l Kk.length n,.slice d (R.foldl dF []).length j] _ results86 rfl f7 underlying29 rfl Tryz.bH rfl ⟨l,n,d,j,xs,rfl,bC f9 (by omega),bC hO (by omega),⟨d3.1,fun M hi=>by obtain⟨D,xc,e,g0,g1,g2⟩:=d3.2 M hi;exact⟨D,xc,e,g0,g1,fun ad e=>by have:=g2 ad e;omega⟩⟩, ?_⟩;exact ((x.o.kb.kept K1 (by omega)).setCell (JP _) _).setCell (JP _) _
theorem qf{a:LP}{x:LQ}(K:K_ (w.alloc (.cells #[x] t)) a):a.cell? ⟨w.heap.size,0,none⟩=some x:=
 (K.cell (by simp)).trans (Xz w #[x] t 0 _ rfl)
theorem xN{X:LP}{c:Array LQ}(k:K_ (X.alloc (.cells c t)) w'):aC w' X.heap.size t c.size:=(aC.made X c t).kept k
theorem vW{α:Type}(p q:α->Bool)(h:∀x,¬(p x=true/\q x=true)):∀l:List α,(l.filter p).length+ (l.filter q).length<=l.length
 | []=>JP _
 | x :: l=>by
  have e:=vW p q h l;have d:=h x;simp only[List.filter_cons];by_cases b:p x=true
  ·have a:¬q x=true:=fun a=>d ⟨b,a⟩
   rw[Lt b,Lu a,KY,KY];omega
  ·rw[Lu b];by_cases a:q x=true
   ·rw[Lt a,KY,KY];omega
   ·rw[Lu a,KY];omega
theorem ui(l:List Qz)(r:Qz):(dF l r).length<=l.length+1:=by
 unfold dF;rw[KS,KY];have:=vW (fun x:Qz=>Op.bytesLess x.name.toList r.name.toList) (fun x:Qz=>Op.bytesLess r.name.toList x.name.toList) (fun x h=>dH h.1 h.2) l;omega
theorem xP :∀(l t:List Qz),(l.foldl dF t).length<=t.length+l.length
 | [],_=>JP _
 | x :: l,t=>by
  have a:=xP l (dF t x);have b:=ui t x;show (l.foldl dF (dF t x)).length<=_;rw[KY];omega
theorem nW(R:List Qz)(k:Nat):((R.take k).foldl dF []).length<=R.length:=by
 have b:=xP (R.take k) [];have c:(R.take k).length<=R.length:=by rw[Kt];omega
 simp only[List.length_nil] at b;omega
theorem rP(W:fQ):∀(bs:List LK) (l:List Qz) (x:Qz),x∈fw W l bs->x∈l\/∃n,x=Qz.fresh n
 | [],_,_,h=>.inl h
 | a :: bs,l,x,h=>by
  rcases rP W bs _ x h with b|b
  ·by_cases d:(W a).isSome=true/\(Qj l a).isNone=true
   ·rw[Lt d] at b;rcases JZ.1 b with c|c
    ·exact .inl c
    ·rw[JY] at c;exact .inr ⟨a,c⟩
   ·rw[Lu d] at b;exact .inl b
  ·exact .inr b
theorem jB{Q:Nat->Prop}(h:aW w P xs l)(a:∀b,P b->Q b):aW w Q xs l:=
 ⟨h.1,fun i c=>by obtain⟨d,f,e,j,k,m⟩:=h.2 i c;exact⟨d,f,e,j,k,fun n e=>a _ (m n e)⟩⟩
theorem pM(w:LP)(a:LM)(c:Nat)(b:List Qq)(k l v:Nat)(Kk:List LK)(hl:b.length<=1048576)(hf:∀s∈b,s.Fits)(hw:bn b 0)(B:eO Kk)(a7:∀s∈Kk,s.size<=maxLen)(L:bN w a b)(C:Strs w (some ⟨k,l,none⟩) Kk):
  Calls prog 48 #[.agg #[.slice a b.length c],.slice (some ⟨k,l,none⟩) Kk.length v] w fun e w'=>pK Kk (bV b Kk) w w' e:=by
 have a8:b.length<=maxLen:=by unfold maxLen;omega
 have a9:Kk.length<=maxLen:=by have:=B.1;have:=B.2.1;unfold maxLen;omega
 go_enter func48,ntmps48
 go_wp2_with fail
 refine (fu _ a c b a8 hf (L.kept (by repeat (first | apply K_.alloc | exact K_.refl _)))).mono ?_;rintro e w1 ⟨⟨b0,rfl,M⟩,n⟩;have D:K_ w w1:=K_.trans (by repeat (first | apply K_.alloc | exact K_.refl _)) n;have z1:=n.size;simp only[KR] at z1;have N:=qf (w:=w) (K_.trans (ag _ _) n);have E:=xN n;simp only[KR] at E;have x:Hid (aC w1 (w.heap.size+1) 29 2):=E;obtain⟨⟨_,x0⟩,g0⟩:=x.o.row.at (i:=0) (by omega);obtain⟨⟨_,x1⟩,g1⟩:=x.o.row.at (i:=1) (by omega);have b1:b0=0:=M.unique hw;clear E M n;have b2:w.heap.size<w1.heap.size:=by omega
 have c4:w.heap.size+1<w1.heap.size:=by omega
 subst b1;go_wp2_with fail
 refine (iQ _ (some ⟨k,l,none⟩) v Kk a9 a7 (C.kept D)).mono ?_;rintro e w2 ⟨O,q⟩;have q2:=(q.cell (o:=0) b2).trans N;have y:=Kz (x.o.kept q);have F:=D.trans q;have z2:=q.size;obtain⟨⟨_,y0⟩,e0⟩:=y.o.row.at (i:=0) (by omega);obtain⟨⟨_,y1⟩,e1⟩:=y.o.row.at (i:=1) (by omega);clear N x0 x1 g0 g1 x D q;rcases O.cases with⟨rfl,P⟩|⟨rfl,b3⟩
 ·have G:=Kz P;clear P O;have c5:w.heap.size<w2.heap.size:=by omega
  have b4:Hid (KnX w2 (w2.alloc (.cells #[.slice a b.length c,.slice none 0 0] 140)) w2.heap.size a b.length c [] none 0 []):=⟨ag _ _,⟨aC.made w2 _ _,Xz w2 #[.slice a b.length c,.slice none 0 0] 140 0 _ rfl,Xz w2 #[.slice a b.length c,.slice none 0 0] 140 1 _ rfl⟩,Ld _ _ _ _,aW.nil _ _⟩;go_wp2_with fail
  refine (xW w2 _ w2.heap.size (JP _) a c b (some ⟨k,l,none⟩) v Kk [] none 0 [] hl (by have:=G.o.2.1;omega) (by simp) b4.o (L.kept F) (C.kept F)).mono ?_;rintro e w3 ⟨rfl,b5,dc,xs,r⟩;have H:K_ w2 w3:=r.kw;have Q:=F.trans H;have z3:=H.size;have S:=r.known.runs;have c6:=r.known.row.lt;have U:=Kz r.runs;have V:=Kz (y.o.kept H);obtain⟨R,t⟩:=aj (fw (Q_ b) [] Kk);have c7:R.length<=10:=by have:=oF (Q_ b) Kk [];have:=G.o.2.1;rw[t];simp at *;omega
  have W:∀X∈R,X.texts.length<=1000:=fun X Y=>by
   rw[t] at Y;rcases rP _ _ _ _ Y with A|⟨c8,rfl⟩
   ·cases A
   ·exact JR _
  have Z:Hid (R.foldl dF []=bV b Kk):=by show _=_;rw[t];rfl
  rw[<-t] at U S;have b6:=Kz W;clear r y0 y1 e0 e1 y q2 t W;go_wp2_with fail
  refine (uS _ k l v Kk b5 dc R (by have:=G.o.2.1;omega) (by omega) b6.o (fun b7=>by have:=nW R b7;omega) (C.kept Q) U.o).mono ?_;rintro e w4 a0;rw[Z.o] at a0;obtain⟨d,f,h,j,b8,rfl,a1,a2,a3,I⟩:=a0;have K4:=Q.trans I;have J:=Kz (V.o.kept I);have z4:=I.size;obtain⟨⟨_,t0⟩,f0⟩:=J.o.row.at (i:=0) (by omega);obtain⟨⟨_,t1⟩,f1⟩:=J.o.row.at (i:=1) (by omega);have⟨b9,a4,a5⟩:=dK a1 a2 a3;obtain⟨T,K⟩:=aj (bV b Kk);rw[<-K] at a4 a5⊢;have c0:=Kz K;clear a1 a2 a3 V S K Z;go_wp2
  have c1:=JU w4 (w.heap.size+1) 0 [.slice d Kk.length f,.slice h T.length j] (J.o.row.there (o:=0) (m:=2) (JP _));have hO:=aU (aU a4.o (p:=⟨w.heap.size+1,0,none⟩) (by simp;omega) (.slice d Kk.length f)) (p:=⟨w.heap.size+1,1,none⟩) (by simp;omega) (.slice h T.length j);have c2:=aU (aU b9.o (p:=⟨w.heap.size+1,0,none⟩) (by simp;omega) (.slice d Kk.length f)) (p:=⟨w.heap.size+1,1,none⟩) (by simp;omega) (.slice h T.length j);have c3:=(a5.o.set (c:=w.heap.size+1) (p:=0) (fun a6 A=>by omega) (.slice d Kk.length f)).set (c:=w.heap.size+1) (p:=1) (fun a6 A=>by omega) (.slice h T.length j);obtain rfl:=c0.o;exact X_ [.slice d Kk.length f,.slice h (bV b Kk).length j] _ results48 rfl c1 underlying29 rfl Tryz.bH rfl ⟨d,f,h,j,b8,rfl,bC c2 (by omega),bC hO (by omega),jB c3 (fun a6 A=>by omega),(K4.setCell (by simp) _).setCell (by simp) _⟩
 ·exact Lv B b3
def gD(w:LP)(nb:Nat)(a:LM)(l:List LK):Prop:=∀i,i<l.length->∃b o,a=some ⟨b,o,none⟩/\b<w.heap.size/\b≠nb/\w.cell? ⟨b,o+i,none⟩=some (.string (l.getD i ByteArray.empty))
variable {a : LM}
theorem gD.new{l:List LK}(h:Strs w a l)(k:K_ w w'):gD w' w.heap.size a l:=fun i c=>by
 obtain⟨d,o,e,b,f⟩:=h i c;exact⟨d,o,e,JQ b k.size,by omega,(k.cell b).trans f⟩
variable {nb : Nat}
theorem gD.JK{n0 c:Nat}{l:List LK}(h:dV n0 w c a l)(k:n0<=nb)(h2:nb<c+2):gD w nb a l:=fun i d=>by
 obtain⟨b,o,e,f,m,j⟩:=h i d;exact⟨b,o,e,f,by omega,j⟩
theorem gD.IM{l:List LK}:∀(vs:List LQ) (p:Nat) {w:LP},gD w nb a l->gD (w.setCells nb p vs) nb a l
 | [],_,_,h=>h
 | v :: r,p,w,h=>by
  rw[World.setCells];refine gD.IM r (p+1) fun i c=>?_
  obtain⟨d,o,e,f,b,j⟩:=h i c;exact⟨d,o,e,by rw[size_setCell];exact f,b,by rw[Zk b];exact j⟩
theorem gD.sets{l:List LK}(h:gD w nb a l)(b:List LQ)(p:Nat):Strs (w.setCells nb p b) a l:=fun i c=>by
 obtain⟨d,o,e,f,_,j⟩:=gD.IM b p h i c;exact⟨d,o,e,f,j⟩
variable {b : Nat}
theorem aC.sets :∀(vs:List LQ) (p:Nat) {w:LP},aC w b t n->aC (w.setCells b p vs) b t n
 | [],_,_,h=>h
 | v :: r,p,_,h=>by rw[World.setCells];exact aC.sets r (p+1) (h.set v)
theorem iG.laid(h:aC w nb 40 7){q:Qz}{a:LM}{b:Nat}:iG (w.setCells nb 0 (q.cells a b)) nb q a b:=
 ⟨aC.sets _ _ h,JU w nb 0 (q.cells a b) (h.row.there (o:=0) (m:=7) (JP _))⟩
variable {W : fQ} {σ : Env} {r : Qz}
theorem El :(Y_ W σ r).2=[]\/∃A,W r.name=some A/\(Y_ W σ r).2= (stepOf A (Y_ W σ r).1.at').asks:=by
 unfold Y_;cases d:W r.name with
 | none=>exact .inl rfl
 | some A=>
  simp only;by_cases a:r.Zj=0
  ·rw[Lt a];refine .inr ⟨A,rfl, ?_⟩;unfold gU
   split <;> rfl
  ·rw[Lu a];cases Yq W σ (stepOf A r.at').asks with
   | none=>exact .inl rfl
   | some xs=>
    simp only;by_cases b:r.Zj=20
    ·rw[Lt b];exact .inl rfl
    ·rw[Lu b];by_cases c:(eY (stepOf A r.at') xs).over=true
     ·rw[Lt c];exact .inl rfl
     ·rw[Lu c];refine .inr ⟨A,rfl, ?_⟩;unfold gU
      split <;> rfl
theorem wX{a:List Qq}(c:bT (Q_ a))(f:f_ a σ)(h:r.Good a)(i:bZ (Q_ a) σ r):(Y_ (Q_ a) σ r).2.length<=5:=by
 rcases El (W:=Q_ a) (σ:=σ) (r:=r) with e|⟨A,d,e⟩
 ·rw[e];exact JR _
 ·obtain⟨l,b,j,k⟩:=(fG c f h i).act;rw[eG] at b;rw[d] at b;cases b;rw[e];exact (iV (c _ _ d).1 j k).1
theorem oJ(w:LP)(a:LM)(t:Nat)(f:List Qq)(D E G:Nat)(Kk:List LK)(d:LM)(H:Nat)(l:List Qz)(c8:LK)(r:Qz)(m5:f.length<=1000)(m6:l.length<=900)(f4:jC f)(c9:bT (Q_ f))(j4:∀y∈f,y.Fits)(j5:Kk.length<=10)
  (a7:dB f l) (hr:Qj l c8=some r) (d0:bZ (Q_ f) (Qj l) r) (hN:bN w a f) (hS:bD w d l) (hR:Strs w (some ⟨D,E,none⟩) Kk):
  Calls prog 50 #[.agg #[.slice a f.length t],.agg #[.slice (some ⟨D,E,none⟩) Kk.length G,.slice d l.length H],.string c8] w fun e w'=>pK Kk (doL (Q_ f) l r) w w' e:=by
 obtain⟨k,hk,d1⟩:∃k,k<l.length/\l.getD k Qz.zero=r:=by
  obtain⟨k,I,h2⟩:=Kb (bF hr).1;exact⟨k,I,by simp only[List.getD,JV I,Lx,h2]⟩
 have d2:=a7.good r (bF hr).1;have d3:=a7.env;have d4:l.length<=1048576:=by omega
 have d5:f.length<=1048576:=by omega
 obtain⟨b,o,xa,xc,rfl,Y,R,d6,f5⟩:=hS k hk;rw[d1] at R d6;have j6:=Kz f5;clear f5;obtain⟨x,Z⟩:=aj (((w.alloc (.cells #[.slice a f.length t] 25)).alloc (.cells #[.slice (some ⟨D,E,none⟩) Kk.length G,.slice (some ⟨b,o,none⟩) l.length H] 29)).alloc (.cells #[.slice none 0 0,.slice none 0 0] 29));have L:K_ w x:=by rw[Z];exact ((ag _ _).alloc _).alloc _
 have j7:x.heap.size=w.heap.size+3:=by rw[Z];simp
 have b0:x.cell? ⟨w.heap.size,0,none⟩=some (.slice a f.length t):=by rw[Z,K_.cell (w:=w.alloc (.cells #[.slice a f.length t] 25)) ((ag _ _).alloc _) (by simp)];exact Xz w _ _ 0 _ rfl
 have S:x.cell? ⟨w.heap.size+1,0,none⟩=some (.slice (some ⟨D,E,none⟩) Kk.length G):=by have:=Xz (w.alloc (.cells #[.slice a f.length t] 25)) #[.slice (some ⟨D,E,none⟩) Kk.length G,.slice (some ⟨b,o,none⟩) l.length H] 29 0 _ rfl;rw[KR] at this;rw[Z,K_.cell (w:=(w.alloc (.cells #[.slice a f.length t] 25)).alloc (.cells #[.slice (some ⟨D,E,none⟩) Kk.length G,.slice (some ⟨b,o,none⟩) l.length H] 29)) (ag _ _) (by simp)];exact this
 have s1:x.cell? ⟨w.heap.size+1,1,none⟩=some (.slice (some ⟨b,o,none⟩) l.length H):=by have:=Xz (w.alloc (.cells #[.slice a f.length t] 25)) #[.slice (some ⟨D,E,none⟩) Kk.length G,.slice (some ⟨b,o,none⟩) l.length H] 29 1 _ rfl;rw[KR] at this;rw[Z,K_.cell (w:=(w.alloc (.cells #[.slice a f.length t] 25)).alloc (.cells #[.slice (some ⟨D,E,none⟩) Kk.length G,.slice (some ⟨b,o,none⟩) l.length H] 29)) (ag _ _) (by simp)];exact this
 have f6:Hid (aC x (w.heap.size+1+1) 29 2):=by
  have I:=aC.made ((w.alloc (.cells #[.slice a f.length t] 25)).alloc (.cells #[.slice (some ⟨D,E,none⟩) Kk.length G,.slice (some ⟨b,o,none⟩) l.length H] 29)) #[.slice none 0 0,.slice none 0 0] 29;simp only[KR] at I;rw[Z];exact I
 have z0:w.heap.size<x.heap.size:=by omega
 have z1:w.heap.size+1<x.heap.size:=by omega
 have a2:b<x.heap.size:=JQ Y L.size;have t0:x.cell? ⟨b,o+k*7,none⟩=some (.string r.name):=(L.cell Y).trans (R 0 _ rfl);have t1:x.cell? ⟨b,o+k*7+1,none⟩=some (.bool r.over):=(L.cell Y).trans (R 1 _ rfl);have t2:x.cell? ⟨b,o+k*7+2,none⟩=some (.bool r.fail):=(L.cell Y).trans (R 2 _ rfl);have t3:x.cell? ⟨b,o+k*7+3,none⟩=some (.string r.text):=(L.cell Y).trans (R 3 _ rfl);have t4:x.cell? ⟨b,o+k*7+4,none⟩=some (.int .i64 r.at'):=(L.cell Y).trans (R 4 _ rfl);have t5:x.cell? ⟨b,o+k*7+5,none⟩=some (.int .i64 r.Zj):=(L.cell Y).trans (R 5 _ rfl);have t6:x.cell? ⟨b,o+k*7+6,none⟩=some (.slice xa r.texts.length xc):=(L.cell Y).trans (R 6 _ rfl);have J:Hid (∀w',K_ x w'->w'.cell? ⟨w.heap.size,0,none⟩=some (.slice a f.length t)/\w'.cell? ⟨w.heap.size+1,0,none⟩=some (.slice (some ⟨D,E,none⟩) Kk.length G)/\w'.cell? ⟨w.heap.size+1,1,none⟩=some (.slice (some ⟨b,o,none⟩) l.length H)/\w'.cell? ⟨b,o+k*7,none⟩=some (.string r.name)/\w'.cell? ⟨b,o+k*7+1,none⟩=some (.bool r.over)/\w'.cell? ⟨b,o+k*7+2,none⟩=some (.bool r.fail)/\w'.cell? ⟨b,o+k*7+3,none⟩=some (.string r.text)/\w'.cell? ⟨b,o+k*7+4,none⟩=some (.int .i64 r.at')/\w'.cell? ⟨b,o+k*7+5,none⟩=some (.int .i64 r.Zj)/\w'.cell? ⟨b,o+k*7+6,none⟩=some (.slice xa r.texts.length xc)):=fun w' K=>⟨(K.cell z0).trans b0,(K.cell z1).trans S,(K.cell z1).trans s1,(K.cell a2).trans t0,(K.cell a2).trans t1,(K.cell a2).trans t2,(K.cell a2).trans t3,(K.cell a2).trans t4,(K.cell a2).trans t5,(K.cell a2).trans t6⟩
 have f7:Hid (∀W,K_ x W->Calls prog 87 #[.agg #[.slice a f.length t],.agg #[.slice (some ⟨D,E,none⟩) Kk.length G,.slice (some ⟨b,o,none⟩) l.length H],.agg #[.string r.name,.bool r.over,.bool r.fail,.string r.text,.int .i64 r.at',.int .i64 r.Zj,.slice xa r.texts.length xc]] W fun e w'=>Says e (bZ (Q_ f) (Qj l) r)/\K_ W w'):=fun W K=>yh W a t f (some ⟨D,E,none⟩) Kk.length G (some ⟨b,o,none⟩) H l r xa xc d5 d4 f4 (fun _ _=>d2.act) (hN.kept (L.trans K)) (hS.kept (L.trans K))
 have d7:Hid (∀W,K_ x W->Calls prog 88 #[.agg #[.slice a f.length t],.agg #[.slice (some ⟨D,E,none⟩) Kk.length G,.slice (some ⟨b,o,none⟩) l.length H],.agg #[.string r.name,.bool r.over,.bool r.fail,.string r.text,.int .i64 r.at',.int .i64 r.Zj,.slice xa r.texts.length xc]] W fun e w'=>uC w.heap.size (W.heap.size+2) (Q_ f) (Qj l) r w' e/\K_ W w'):=fun W K=>FU w W (L.trans K) a t f (some ⟨D,E,none⟩) Kk.length G (some ⟨b,o,none⟩) H l r xa xc d5 d4 f4 c9 j4 d2 d3 d0 hN (hS.kept (L.trans K)) d6 j6.o
 have⟨b1,HN,HS,j8,e0⟩:=jb L hN hS hR d0;have⟨f8,f9,j9⟩:=dK d2 hr d1;clear hr d1;clear L j7 R hN hS hR d0 d6 t0 t1 t2 t3 t4 t5 t6 b0 S s1;go_enter func50,ntmps50
 go_upto_region 1 with fail
 rw[<-Z];clear Z;obtain⟨b0,S,s1,_⟩:=J.o _ (K_.refl _);go_wp2_with fail
 refine (fZ _ (some ⟨D,E,none⟩) Kk.length G (some ⟨b,o,none⟩) H l c8 d4 (HS.o.kept b1.o)).mono ?_;rintro e w1 ⟨⟨q1,rfl,g0⟩,K1⟩;obtain rfl:q1= (k:Int):=by
  rcases g0 with⟨a8,hj,e1,I,h2⟩|⟨_,I⟩
  ·rw[e1];have e2:l.getD a8 Qz.zero=l.getD k Qz.zero:=by rw[f9.o] at I;rw[<-Lf I,j9.o]
   simp only[List.getD,JV hj,JV hk,Lx] at e2;have g1:=congrArg Qz.name e2;have g2:=Ka.1 a7.asc;rcases Ls a8 k with s|s|s
   ·exact Lv g1 (dA (g2 a8 k hj hk s))
   ·rw[s]
   ·exact Lv g1.symm (dA (g2 k a8 hk hj s))
  ·rw[f9.o] at I;cases I
 clear g0 b0 S s1;have m7:¬(k:Int)<0:=by omega
 have m8:(k:Int)<(l.length:Int):=by omega
 go_upto_region 2 with fail
 refine iF 12 J.o (K1.drew) (fun j=>?_);have B:K_ w1 w1.drew:=aL w1;generalize e3:w1.drew=M at j B⊢;clear e3;refine au 0 j ?_;refine au 4 j ?_;refine af 8 j ?_;refine af 9 j ?_;refine ak 10 (fun K h=>?_);go_simp
 go_at_call 87
 refine (f7.o M (K1.trans B)).mono ?_;rintro e w2 ⟨g3,k2⟩;have K2:=(K1.trans B).trans k2;rcases g3.cases with⟨rfl,_⟩|⟨rfl,k0⟩;rotate_left
 ·exact Lv e0.o k0
 clear g3 k2;dsimp only;refine h.out _ _ (fun _=>J.o _ K2) ?_;clear h K j B K1;have j:=J.o _ K2;try simp only[upP]
 refine af 11 j ?_;refine ah 12 (fun K h=>?_);go_simp
 refine ae h (fun s=>Lv rfl s) ?_;clear h K;refine aB ?_;clear j;go_upto_region 4 with fail
 go_cut [8,9] from 29 to 39 (fun s8 s9 wx=>∃A q C F a0 kc,s8= .pointer (some ⟨A,0,none⟩)/\s9= .slice a0 (Y_ (Q_ f) (Qj l) r).2.length kc/\q= (Y_ (Q_ f) (Qj l) r).1/\K_ x wx/\x.heap.size<=A/\iG wx A q C F/\Strs wx C q.texts/\(C=none->F=0)/\Strs wx a0 (Y_ (Q_ f) (Qj l) r).2)
 case first=>
  refine iF 13 J.o (K2.drew) (fun j=>?_);have B:K_ w2 w2.drew:=aL w2;generalize e3:w2.drew=M at j B⊢;clear e3;refine au 0 j ?_;refine af 4 j ?_;refine af 5 j ?_;refine af 6 j ?_;refine dx 7 11 (fun K h=>?_) (fun K h=>?_)
  ·rw[Lt (by rfl)];go_simp
   go_at_call 88
   refine (d7.o M (K2.trans B)).mono ?_;rintro e w3 ⟨⟨C,F,a0,kc,rfl,Q,a1,N⟩,k3⟩;obtain⟨q,O⟩:=aj ((Y_ (Q_ f) (Qj l) r).1);obtain⟨asks,P⟩:=aj ((Y_ (Q_ f) (Qj l) r).2);rw[<-O] at Q⊢;rw[<-P] at N⊢;have⟨HQ,HA,b8,a3,e4⟩:=jb O P Q N a1;clear Q N a1 O P;dsimp only[Qz.cells];have T:=(K2.trans B).trans k3;refine h.out _ _ (fun _=>J.o _ T) ?_;clear h K j;have j:=J.o _ T;try simp only[upP]
   refine af 8 j ?_;refine af 9 j ?_;refine af 10 j ?_;refine ah 11 (fun K h=>?_);go_simp
   have K4:K_ w3 (w3.alloc (.cells #[.string ⟨#[]⟩,.bool false,.bool false,.string ⟨#[]⟩,.int .i64 0,.int .i64 0,.slice none 0 0] 40)):=ag _ _;refine ae h (fun _=>J.o _ (T.trans K4)) ?_;clear h K;have U:aC (w3.alloc (.cells #[.string ⟨#[]⟩,.bool false,.bool false,.string ⟨#[]⟩,.int .i64 0,.int .i64 0,.slice none 0 0] 40)) w3.heap.size 40 7:=aC.made w3 _ _;have KE:=T.trans K4;have b2:=Kz (gD.new b8.o.strs K4);have b3:=Kz (gD.new a3.o.strs K4);have V:=T.size;obtain⟨A,a9⟩:=aj w3.heap.size;rw[<-a9] at U b2 b3 V⊢;generalize b4:w3.alloc (.cells #[.string ⟨#[]⟩,.bool false,.bool false,.string ⟨#[]⟩,.int .i64 0,.int .i64 0,.slice none 0 0] 40)=wE at U KE b2 b3⊢;clear b4 K4 a9 b8 a3;obtain⟨⟨⟨_,v0⟩,g5⟩,⟨⟨_,v1⟩,g7⟩,⟨⟨_,v2⟩,f2⟩,⟨⟨_,v3⟩,k1⟩,⟨⟨_,v4⟩,k4⟩,⟨⟨_,v5⟩,k5⟩,⟨_,v6⟩,k6⟩:=U.row.Fb;have vz:=U.lt;refine ah 12 (fun K h=>?_);go_simp
   refine h.out _ _ ?_ ?_
   ·exact fun _=>J.o _ (bQ (g:=A) V [.string q.name,.bool q.over,.bool q.fail,.string q.text,.int .i64 q.at',.int .i64 q.Zj,.slice C q.texts.length F] 0 KE)
   clear h K;try simp only[upP]
   refine ah 13 (fun K h=>?_);go_simp
   refine ae h (fun s=>Lv rfl s) ?_;clear h K;refine aB ?_;go_wp2
   go_meet
   exact⟨A,q,C,F,a0,kc,rfl,by rw[HA.o],HQ.o,bQ (g:=A) V [.string q.name,.bool q.over,.bool q.fail,.string q.text,.int .i64 q.at',.int .i64 q.Zj,.slice C q.texts.length F] 0 KE,V,iG.laid U,b2.o.sets [.string q.name,.bool q.over,.bool q.fail,.string q.text,.int .i64 q.at',.int .i64 q.Zj,.slice C q.texts.length F] 0,e4.o,by rw[<-HA.o];exact b3.o.sets [.string q.name,.bool q.over,.bool q.fail,.string q.text,.int .i64 q.at',.int .i64 q.Zj,.slice C q.texts.length F] 0⟩
  ·rw[Lt (by rfl)];go_simp
   have g8:K_ M (M.alloc (.cells #[.string ⟨#[]⟩,.bool false,.bool false,.string ⟨#[]⟩,.int .i64 0,.int .i64 0,.slice none 0 0] 40)):=ag _ _;have b9:=(K2.trans B).trans g8;have c0:aC (M.alloc (.cells #[.string ⟨#[]⟩,.bool false,.bool false,.string ⟨#[]⟩,.int .i64 0,.int .i64 0,.slice none 0 0] 40)) M.heap.size 40 7:=aC.made M _ _;have V:=(K2.trans B).size;obtain⟨A,a9⟩:=aj M.heap.size;rw[<-a9] at c0 V⊢;generalize b4:M.alloc (.cells #[.string ⟨#[]⟩,.bool false,.bool false,.string ⟨#[]⟩,.int .i64 0,.int .i64 0,.slice none 0 0] 40)=wF at c0 b9⊢;clear b4 g8 a9;refine ae h (fun _=>J.o _ b9) ?_;clear h K;refine ak 7 (fun K h=>?_);go_simp
   go_at_call 88
   refine (d7.o wF b9).mono ?_;rintro e w3 ⟨⟨C,F,a0,kc,rfl,Q,a1,N⟩,k3⟩;obtain⟨q,O⟩:=aj ((Y_ (Q_ f) (Qj l) r).1);obtain⟨asks,P⟩:=aj ((Y_ (Q_ f) (Qj l) r).2);rw[<-O] at Q⊢;rw[<-P] at N⊢;have⟨HQ,HA,b8,a3,e4⟩:=jb O P Q N a1;clear Q N a1 O P;dsimp only[Qz.cells];have T:=b9.trans k3;refine h.out _ _ (fun _=>J.o _ T) ?_;clear h K j;have j:=J.o _ T;try simp only[upP]
   refine af 8 j ?_;refine af 9 j ?_;refine af 10 j ?_;have U:=c0.kept k3;have KE:=T;have m9:=c0.lt;have b2:=Kz (gD.JK (nb:=A) b8.o (by omega) (by omega));have b3:=Kz (gD.JK (nb:=A) a3.o (by omega) (by omega));obtain⟨⟨⟨_,v0⟩,g5⟩,⟨⟨_,v1⟩,g7⟩,⟨⟨_,v2⟩,f2⟩,⟨⟨_,v3⟩,k1⟩,⟨⟨_,v4⟩,k4⟩,⟨⟨_,v5⟩,k5⟩,⟨_,v6⟩,k6⟩:=U.row.Fb;have vz:=U.lt;refine ah 12 (fun K h=>?_);go_simp
   refine h.out _ _ ?_ ?_
   ·exact fun _=>J.o _ (bQ (g:=A) V [.string q.name,.bool q.over,.bool q.fail,.string q.text,.int .i64 q.at',.int .i64 q.Zj,.slice C q.texts.length F] 0 KE)
   clear h K;try simp only[upP]
   refine ah 13 (fun K h=>?_);go_simp
   refine ae h (fun s=>Lv rfl s) ?_;clear h K;refine aB ?_;go_wp2
   go_meet
   exact⟨A,q,C,F,a0,kc,rfl,by rw[HA.o],HQ.o,bQ (g:=A) V [.string q.name,.bool q.over,.bool q.fail,.string q.text,.int .i64 q.at',.int .i64 q.Zj,.slice C q.texts.length F] 0 KE,V,iG.laid U,b2.o.sets [.string q.name,.bool q.over,.bool q.fail,.string q.text,.int .i64 q.at',.int .i64 q.Zj,.slice C q.texts.length F] 0,e4.o,by rw[<-HA.o];exact b3.o.sets [.string q.name,.bool q.over,.bool q.fail,.string q.text,.int .i64 q.at',.int .i64 q.Zj,.slice C q.texts.length F] 0⟩
 case rest=>
  obtain⟨A,q,C,F,a0,kc,rfl,rfl,O,Kx,a9,e5,Q,a1,N⟩:=hcut;obtain⟨w4,rfl⟩:=aj wc;have c1:q.Good f:=by rw[O];exact fG c9 d3 f8.o e0.o
  have k7:(Y_ (Q_ f) (Qj l) r).2.length<=5:=wX c9 d3 f8.o e0.o;obtain⟨asks,P⟩:=aj ((Y_ (Q_ f) (Qj l) r).2);rw[<-P] at k7 N⊢;have g9:Hid ((fw (Q_ f) (dF l q) asks).foldl dF []=doL (Q_ f) l r):=by show _=_;rw[P,O];rfl
  have h0:q.texts.length<=1000:=by have I:=c1.tl;have h2:=c1.hi;omega
  obtain⟨h1,h4,h5,h6,g4,h7,g6⟩:=e5.all;have gz:=e5.row.lt;have⟨a3,k8⟩:=aH N c1;have h8:Hid (∀W,K_ w4 W->Calls prog 89 #[.slice (some ⟨b,o,none⟩) l.length H,.agg #[.string q.name,.bool q.over,.bool q.fail,.string q.text,.int .i64 q.at',.int .i64 q.Zj,.slice C q.texts.length F]] W fun e w'=>∃v,e= .returned v/\FV W w' (fun _=>True) v (dF l q)/\K_ W w'):=fun W hW=>Aw W (some ⟨b,o,none⟩) H l q C F (by omega) h0 a7.asc (fun _=>True) (fun _ _=>trivial) ((HS.o.kept (b1.o.trans (Kx.trans hW))).all) (Q.kept hW) a1
  obtain⟨b0,S,s1,_⟩:=J.o _ Kx;have l0:=JQ z0 Kx.size;have l1:=JQ z1 Kx.size;have b5:Hid (∀w',K_ w4 w'->w'.cell? ⟨w.heap.size,0,none⟩=some (.slice a f.length t)/\w'.cell? ⟨w.heap.size+1,1,none⟩=some (.slice (some ⟨b,o,none⟩) l.length H)/\w'.cell? ⟨A,0,none⟩=some (.string q.name)/\w'.cell? ⟨A,1,none⟩=some (.bool q.over)/\w'.cell? ⟨A,2,none⟩=some (.bool q.fail)/\w'.cell? ⟨A,3,none⟩=some (.string q.text)/\w'.cell? ⟨A,4,none⟩=some (.int .i64 q.at')/\w'.cell? ⟨A,5,none⟩=some (.int .i64 q.Zj)/\w'.cell? ⟨A,6,none⟩=some (.slice C q.texts.length F)):=fun w' K=>⟨(K.cell l0).trans b0,(K.cell l1).trans s1,(K.cell gz).trans h1,(K.cell gz).trans h4,(K.cell gz).trans h5,(K.cell gz).trans h6,(K.cell gz).trans g4,(K.cell gz).trans h7,(K.cell gz).trans g6⟩
  clear O P N c1 Q a1 e5 h1 h4 h5 h6 g4 h7 g6 b0 S s1 d7 f7;go_upto_region 5 with fail
  refine bf 7 b5.o fun M B j=>?_
  refine au 0 j ?_;refine ak 4 (fun K h=>?_);go_simp
  go_at_call 89
  refine (h8.o M B).mono ?_;rintro e X ⟨v5,rfl,l2,l3⟩;have K5:=B.trans l3;obtain⟨w6,h9,c2,e6,e7,i0⟩:=l2;obtain⟨av,cv,rfl⟩:=ax e7;have⟨i1,i2⟩:=aH e7 i0;have i3:=Kz (HN.o.kept (b1.o.trans (Kx.trans (B.trans c2))));have i4:=Kz (a3.o.kept (B.trans c2));have i5:=Kz e6;have i6:=Kz (B.trans c2);have n0:=e6.size;clear e7 i0 c2 e6;refine h.out _ _ (fun _=>b5.o _ K5) ?_;clear h K j;have j:=b5.o _ K5;try simp only[upP]
  refine af 5 j ?_;refine ah 6 (fun K h=>?_);go_simp
  have c3:K_ X (X.alloc (.cells #[.slice a f.length t,.slice av (dF l q).length cv] 140)):=ag _ _;have c4:Hid (KnX w6 (X.alloc (.cells #[.slice a f.length t,.slice av (dF l q).length cv] 140)) X.heap.size a f.length t (dF l q) av cv h9):=⟨i5.o.trans c3,⟨aC.made X _ _,Xz X #[.slice a f.length t,.slice av (dF l q).length cv] 140 0 _ rfl,Xz X #[.slice a f.length t,.slice av (dF l q).length cv] 140 1 _ rfl⟩,ai i1.o c3,i2.o⟩;have K7:=K5.trans c3;obtain⟨kb,i7⟩:=aj X.heap.size;have l4:w6.heap.size<=kb:=by omega
  refine h.out _ _ (fun _=>b5.o _ K7) ?_;clear h K j;rw[<-i7] at c4⊢;generalize b4:X.alloc (.cells #[.slice a f.length t,.slice av (dF l q).length cv] 140)=w7 at c4 K7⊢;clear b4 c3 i7;try simp only[upP]
  refine ah 7 (fun K h=>?_);go_simp
  refine ae h (fun s=>Lv rfl s) ?_;clear h K;refine aB ?_;go_wp2_with fail
  refine (xW w6 w7 kb l4 a t f a0 kc asks (dF l q) av cv h9 d5 (by omega) (by have:=ui l q;omega) c4.o i3.o i4.o).mono ?_;rintro e w8 ⟨rfl,d8,e8,n1,b6⟩;have i8:K_ w4 w8:=i6.o.trans b6.kw;have m1:=b6.known.runs;have kz:=b6.known.row.lt;have e9:=Kz b6.runs;obtain⟨a4,b7⟩:=aj (fw (Q_ f) (dF l q) asks);have n2:a4.length<=1000:=by have I:=oF (Q_ f) asks (dF l q);have h2:=ui l q;rw[b7];omega
  have i9:Hid (∀c5∈a4,c5.texts.length<=1000):=fun c5 hx=>by
   rw[b7] at hx;rcases rP _ _ _ _ hx with s|⟨n,rfl⟩
   ·rcases qA.1 s with rfl|⟨I,_⟩
    ·exact h0
    ·have h2:=(a7.good c5 I).tl;have h3:=(a7.good c5 I).hi;omega
   ·exact JR _
  have j0:Hid (a4.foldl dF []=doL (Q_ f) l r):=by show _=_;rw[b7];exact g9.o
  rw[<-b7] at e9 m1;have K8:=Kx.trans i8;have l5:Hid (∀W,K_ w8 W->Calls prog 86 #[.slice (some ⟨D,E,none⟩) Kk.length G,.slice d8 a4.length e8] W fun e w'=>pK Kk (doL (Q_ f) l r) W w' e):=fun W hW=>by
   have s:=uS W D E G Kk d8 e8 a4 j5 (by omega) i9.o (fun a8=>by have:=nW a4 a8;omega) (j8.o.kept (b1.o.trans (K8.trans hW))) (e9.o.kept hW);rw[j0.o] at s;exact s
  obtain⟨_,S,_⟩:=J.o _ K8;have l6:=JQ z1 K8.size;have j1:Hid (∀w',K_ w8 w'->w'.cell? ⟨w.heap.size+1,0,none⟩=some (.slice (some ⟨D,E,none⟩) Kk.length G)/\w'.cell? ⟨kb,1,none⟩=some (.slice d8 a4.length e8)):=fun w' K=>⟨(K.cell l6).trans S,(K.cell kz).trans m1⟩
  have j2:=Kz (f6.o.kept K8);have l7:=b1.o.trans K8;clear b6 b7 e9 j0 i9 g9 m1 S i8 c4 i3 i4 i5 i6 i1 i2 h8 b5 J f6 HN HS a3 k8;go_upto_region 7 with fail
  refine bf 7 j1.o fun M B j=>?_
  refine au 0 j ?_;refine af 4 j ?_;refine af 5 j ?_;refine ak 6 (fun K h=>?_);go_simp
  go_at_call 86
  refine (l5.o M B).mono ?_;rintro e w9 ⟨ra,a5,d9,a6,l8,rfl,j3,f0,f1,k9⟩;obtain⟨c6,f3⟩:=aj (doL (Q_ f) l r);rw[<-f3] at f0 f1⊢;have l9:=Kz f3;have K9:=B.trans k9;have z9:=K9.size;have zd:=B.size;have⟨m0,m2,m3⟩:=dK j3 f0 f1;have c7:=Kz (j2.o.kept K9);obtain⟨⟨_,x0⟩,g5⟩:=c7.o.row.at (i:=0) (by omega);obtain⟨⟨_,x1⟩,g7⟩:=c7.o.row.at (i:=1) (by omega);have n3:=j2.o.lt;have n4:=c7.o.lt;clear j3 f0 f1 f3;refine ae h (fun _=>j1.o _ K9) ?_;clear h K j;refine ah 7 (fun K h=>?_);go_simp
  refine ae h (fun s=>Lv rfl s) ?_;clear h K;refine aB ?_;go_wp2_with fail
  have m4:=JU w9 (w.heap.size+1+1) 0 [.slice ra Kk.length a5,.slice d9 c6.length a6] (c7.o.row.there (o:=0) (m:=2) (JP _));have hO:=aU (aU m2.o (p:=⟨w.heap.size+1+1,0,none⟩) (by show w.heap.size+1+1<_;omega) (.slice ra Kk.length a5)) (p:=⟨w.heap.size+1+1,1,none⟩) (by show w.heap.size+1+1<_;omega) (.slice d9 c6.length a6);have hT:=aU (aU m0.o (p:=⟨w.heap.size+1+1,0,none⟩) (by show w.heap.size+1+1<_;omega) (.slice ra Kk.length a5)) (p:=⟨w.heap.size+1+1,1,none⟩) (by show w.heap.size+1+1<_;omega) (.slice d9 c6.length a6);have hP:=(m3.o.set (c:=w.heap.size+1+1) (p:=0) (fun b s=>by omega) (.slice ra Kk.length a5)).set (c:=w.heap.size+1+1) (p:=1) (fun b s=>by omega) (.slice d9 c6.length a6);obtain rfl:=l9.o;exact X_ [.slice ra Kk.length a5,.slice d9 (doL (Q_ f) l r).length a6] _ results50 rfl m4 underlying29 rfl Tryz.bH rfl ⟨ra,a5,d9,a6,l8,rfl,bC hT (by omega),bC hO (by omega),jB hP (fun b s=>by omega),bQ (g:=w.heap.size+1+1) (by omega) [.slice ra Kk.length a5,.slice d9 (doL (Q_ f) l r).length a6] 0 (l7.trans K9)⟩
def bL(w:LP)(P:Nat->Prop)(xs:List LQ)(l:List Qz):Prop:=xs.length=l.length*7/\∀i,i<l.length->∃xa xc,(xs.drop (i*7)).take 7= (l.getD i Qz.zero).cells xa xc/\fA w 9 xa (l.getD i Qz.zero).texts/\(xa=none->xc=0)/\(∀ad:Addr,xa=some ad->P ad.block)/\w.ownsRow 0 9 1 (.slice xa (l.getD i Qz.zero).texts.length xc) (l.getD i Qz.zero).texts.length ((l.getD i Qz.zero).texts.map Value.string)
theorem bL.nil(w:LP)(P:Nat->Prop):bL w P [] []:=⟨rfl,fun i a=>by simp at a⟩
theorem bL.same{u:TypeId}(h:bL w P xs l)(k:ay u w w')(a:9≠u):bL w' P xs l:=⟨h.1,fun i b=>by obtain⟨c,d,e,f,j,m,n⟩:=h.2 i b;exact⟨c,d,e,f.same k a,j,m,aJ n k a⟩⟩
theorem bL.kept(h:bL w P xs l)(k:K_ w w'):bL w' P xs l:=h.same (u:=40) (ay.aF k) (by decide)
theorem bL.plain(h:bL w P xs l):aW w P xs l:=⟨h.1,fun i a=>by obtain⟨b,c,d,e,f,j,_⟩:=h.2 i a;exact⟨b,c,d,e.strs,f,j⟩⟩
variable {xa : LM}
theorem bL.snoc{xc:Nat}(h:bL w P xs l)(e:fA w 9 xa r.texts)(f:xa=none->xc=0)(j:∀ad:Addr,xa=some ad->P ad.block)(k:w.ownsRow 0 9 1 (.slice xa r.texts.length xc) r.texts.length (r.texts.map Value.string)):bL w P (xs++r.cells xa xc) (l++ [r]):=by
 refine⟨by simp[h.1,Qz.cells];omega,fun i c=>?_⟩;rw[KS] at c;simp only[KY,List.length_nil] at c;by_cases d:i<l.length
 ·have a:(l++ [r]).getD i Qz.zero=l.getD i Qz.zero:=by simp[List.getD,Lh d]
  have b:((xs++r.cells xa xc).drop (i*7)).take 7= (xs.drop (i*7)).take 7:=by
   rw[List.drop_append_of_le_length (by rw[h.1];omega),List.take_append_of_le_length (by rw[List.length_drop,h.1];omega)]
  rw[a,b];exact h.2 i d
 ·obtain rfl:i=l.length:=by omega
  have a:(l++ [r]).getD l.length Qz.zero=r:=by simp[List.getD]
  have b:((xs++r.cells xa xc).drop (l.length*7)).take 7=r.cells xa xc:=by
   rw[<-h.1,List.drop_left]
   rfl
  rw[a,b];exact⟨xa,xc,rfl,e,f,j,k⟩
theorem bL.weak{Q:Nat->Prop}(h:bL w P xs l)(a:∀b,P b->Q b):bL w Q xs l:=
 ⟨h.1,fun i c=>by obtain⟨d,f,e,j,k,m,n⟩:=h.2 i c;exact⟨d,f,e,j,k,fun p e=>a _ (m p e),n⟩⟩
def Cu(xs:List LQ):Prop:=∀i j (a b:Addr) n c m e,i<j->xs[i*7+6]? =some (.slice (some a) n c)->xs[j*7+6]? =some (.slice (some b) m e)->a.block<b.block
def Jc(xs:List LQ)(z:Nat):Prop:=∀i (a:Addr) n c,xs[i*7+6]? =some (.slice (some a) n c)->a.block<z
variable {i : Nat}
theorem zh{xc t:Nat}{u:LQ}(b:xs.length=t*7)(h:(xs++r.cells xa xc)[i*7+6]? =some u):(i<t/\xs[i*7+6]? =some u)\/(i=t/\u= .slice xa r.texts.length xc):=by
 by_cases d:i<t
 ·rw[Lh (by omega)] at h;exact .inl ⟨d,h⟩
 ·have c:=(JW.1 h).1;rw[KS,b] at c;simp only[Qz.cells,KY,List.length_nil] at c;obtain rfl:i=t:=by omega
  rw[Li (by omega),b,Nat.add_sub_cancel_left] at h;exact .inr ⟨rfl,by simpa[Qz.cells] using h.symm⟩
def Ja(Kk:List LK)(T:List Qz)(w w':LP)(e:Ending):Prop:=
 ∃ra rc d dc xs z,e= .returned (.agg #[.slice ra Kk.length rc,.slice d T.length dc])/\w'.ownsRow w.heap.size 9 1 (.slice ra Kk.length rc) Kk.length (Kk.map Value.string)/\w'.ownsRow w.heap.size 40 7 (.slice d T.length dc) T.length xs/\bL w' (fun b=>z<=b) xs T/\w.heap.size<=z/\(∀g,(Value.slice ra Kk.length rc).ownBlock=some g->g<z)/\Cu xs/\K_ w w'
theorem lh{c:Nat}{l:List LK}(h:w.ownsRow base t 1 (.slice a n c) n (l.map Value.string)):fA w t a l/\(a=none->c=0)/\∀b:Addr,a=some b->base<=b.block:=by
 have m:n=l.length:=by have:=h.1;simp at this;omega
 rcases h.2 with⟨e,p⟩|⟨g,q,d,e,f,j,r,_,_,_⟩
 ·simp only[KX] at e;obtain⟨rfl,_,rfl⟩:=e;refine⟨.inl (Kh.1 (by omega)),fun _=>rfl,fun _ e=>by cases e⟩
 ·simp only[KX] at e;obtain⟨rfl,_,rfl⟩:=e;refine⟨.inr ⟨g,d,_,rfl,j,fun i k=>?_⟩,fun e=>(by cases e),fun b e=>by cases e;exact f⟩;have:=h.cells (g:=g) rfl i (.string (l.getD i ByteArray.empty)) (by simp[List.getD,k]);rw[KZ,KH] at this;exact this
theorem wV(w:LP)(p:Addr)(v:LQ)(t:TypeId):((w.setCell p v).alloc (.cells #[] t)).ownsRow 0 t 1 (.slice (some ⟨w.heap.size,0,none⟩) 0 0) 0 []:=by
 have h:=KG (base:=0) (e:=t) (size:=1) (w.setCell p v) #[] 0 (JR _) (JR _) rfl
 rwa [size_setCell] at h
structure CpX (W1 wr:LP) (sb:Nat) (ra:LM) (n rc:Nat) (d:LM) (t:List Qz) (dc:Nat) (xs:List LQ):Prop where
 kb:Xk sb (sb+1) W1 wr
 row:aC wr sb 29 2
 Kk:wr.cell? ⟨sb,0,none⟩=some (.slice ra n rc)
 runs:wr.cell? ⟨sb,1,none⟩=some (.slice d t.length dc)
 own:wr.ownsRow W1.heap.size 40 7 (.slice d t.length dc) t.length xs
 pack:bL wr (fun b=>sb<b) xs t
 ap:Cu xs
 bd:Jc xs wr.heap.size
theorem CpX.kept{b wr:LP}{c e:Nat}{f d:LM}{t:List Qz}(h:CpX b wr sb f n c d t e xs)(k:K_ wr w'):CpX b w' sb f n c d t e xs:=
 ⟨h.kb.trans (Xk.aF k),h.row.kept k,(k.cell h.row.lt).trans h.Kk,(k.cell h.row.lt).trans h.runs,ai h.own k,h.pack.kept k,h.ap,fun i a n j l=>JQ (h.bd i a n j l) k.size⟩
theorem IE(b:aC w sb 29 2)(h:w.ownsRow base 40 7 v n xs):some sb≠v.ownBlock:=by
 rcases h.2 with⟨rfl,_⟩|⟨g,d,f,rfl,_,c,_⟩
 ·intro e;cases e
 ·intro e;simp only[Value.ownBlock,KT] at e;subst e;obtain⟨i,a,_⟩:=b;rw[c] at a;simp only[KT,Obj.cells.injEq] at a;exact Lv a.2.1 (by decide)
theorem CpX.next{j wr W k:LP}{A B q:Nat}{C d r:LM}{t:List Qz}{y:Qz}{xc:Nat}(h:CpX j wr sb C n A d t B xs)(I:sb<j.heap.size)(D:K_ wr W)(b:W.grownBy k (Value.slice d t.length B).ownBlock)
 (J:k.ownsRow j.heap.size 40 7 (.slice r (t.length+1) q) (t.length+1) (xs++y.cells xa xc)) (K:fA W 9 xa y.texts) (L:xa=none->xc=0) (M:∀ad:Addr,xa=some ad->sb<ad.block) (E:W.ownsRow 0 9 1 (.slice xa y.texts.length xc) y.texts.length (y.texts.map Value.string)) (N:∀ad:Addr,xa=some ad->wr.heap.size<=ad.block):
  CpX j (k.setCell ⟨sb,1,none⟩ (.slice r (t.length+1) q)) sb C n A r (t++ [y]) q (xs++y.cells xa xc):=by
 have a:=h.kept D;have F:k.heap[sb]? =W.heap[sb]? :=b.block sb a.row.lt (IE a.row a.own);have G:(t++ [y]).length=t.length+1:=by simp
 have s:=a.row.block F;have v:=(ay.aI a.own b);refine⟨?_,s.set _, ?_, ?_, ?_, ?_,fun l O i f n m P e Q x R=>?_,fun l i n m x=>?_⟩
 ·refine Xk.setCell ⟨b.os.trans a.kb.os,b.tape.trans a.kb.tape,b.output.trans a.kb.output,JS a.kb.size b.size,fun f H S=>(b.block f (JQ H a.kb.size) (fun e=>?_)).trans (a.kb.block f H S)⟩ (JP _) (Ky _) _;have:=(a.own.lt f e.symm).1;omega
 ·rw[Xx (by omega),Ke (w:=W) F];exact a.Kk
 ·rw[G];exact bG s.row (by omega) _
 ·rw[G];exact aU J I _
 ·exact ((a.pack.same v (by decide)).snoc (K.same v (by decide)) L M (aJ E v (by decide))).same (s.same (o:=1) _) (by decide)
 ·rcases zh h.pack.1 R with⟨_,p⟩ | ⟨rfl,p⟩ <;> rcases zh h.pack.1 x with⟨_,c⟩ | ⟨T,c⟩
  ·exact h.ap l O i f n m P e Q c p
  ·omega
  ·simp only[KX] at p;have:=N f p.1.symm;have:=h.bd l i n m c;omega
  ·omega
 ·rw[size_setCell];rcases zh h.pack.1 x with⟨_,c⟩|⟨_,c⟩
  ·have:=h.bd l i n m c;have:=D.size;have:=b.size;omega
  ·simp only[KX] at c;have U:=(E.lt i.block (by rw[<-c.1];rfl)).2;have:=b.size;omega
theorem rW(w:LP)(C D J:Nat)(Kk:List LK)(a:LM)(K:Nat)(R:List Qz)(i6:Kk.length<=1000)(i7:R.length<=10000)(f6:∀r∈R,r.texts.length<=1000)(hR:Strs w (some ⟨C,D,none⟩) Kk)(hS:bD w a R):
  Calls prog 53 #[.agg #[.slice (some ⟨C,D,none⟩) Kk.length J,.slice a R.length K]] w fun e w'=>Ja Kk R w w' e:=by
 obtain⟨is,hi,c6,c7,c8⟩:=aQ Tryz.bY;obtain⟨f7,f8,f9,g0,g1⟩:=aQ Tryz.ou;obtain⟨d,L⟩:=aj ((w.alloc (.cells #[.slice (some ⟨C,D,none⟩) Kk.length J,.slice a R.length K] 29)).alloc (.cells #[.slice none 0 0,.slice none 0 0] 29));have b2:K_ w d:=by rw[L];exact (ag _ _).alloc _
 have c9:aC d (w.heap.size+1) 29 2:=by
  have U:=aC.made (w.alloc (.cells #[.slice (some ⟨C,D,none⟩) Kk.length J,.slice a R.length K] 29)) #[.slice none 0 0,.slice none 0 0] 29;simp only[KR] at U;rw[L];exact U
 have c0:d.cell? ⟨w.heap.size,0,none⟩=some (.slice (some ⟨C,D,none⟩) Kk.length J):=by rw[L,K_.cell (w:=w.alloc (.cells #[.slice (some ⟨C,D,none⟩) Kk.length J,.slice a R.length K] 29)) (ag _ _) (by simp)];exact Xz w _ _ 0 _ rfl
 have c1:d.cell? ⟨w.heap.size,1,none⟩=some (.slice a R.length K):=by rw[L,K_.cell (w:=w.alloc (.cells #[.slice (some ⟨C,D,none⟩) Kk.length J,.slice a R.length K] 29)) (ag _ _) (by simp)];exact Xz w _ _ 1 _ rfl
 have i8:w.heap.size+2<=d.heap.size:=by rw[L];simp
 have z0:w.heap.size<d.heap.size:=by omega
 have HC:Hid (∀w',K_ d w'->w'.cell? ⟨w.heap.size,1,none⟩=some (.slice a R.length K)):=fun w' g2=>(g2.cell (by omega)).trans c1
 have d0:=Kz c9;have E:Hid (K_ d (d.alloc (.cells #[] 9))):=ag _ _;have b3:Hid ((d.alloc (.cells #[] 9)).ownsRow d.heap.size 9 1 (.slice (some ⟨d.heap.size,0,none⟩) 0 0) 0 (([]:List LK).map Value.string)):=KG d #[] 0 (JP _) (JR _) rfl;have d1:Hid (∀j u,(Kk.map Value.string)[j]? =some u->(d.alloc (.cells #[] 9)).cell? ((⟨C,D,none⟩:Addr).add j)=some u):=fun j u n=>by
  have M:j<Kk.length:=by have:=(JW.1 n).1;simpa using this
  obtain⟨b,o,e,hb,h⟩:=(hR.kept (b2.trans E.o)) j M;simp only[KT] at e;rw[e,KZ,h];simp[M] at n;simp[List.getD,M,n]
 have a1:Hid (∀u∈Kk.map Value.string,u.oneCell'=true):=fun u n=>by obtain⟨b4,_,rfl⟩:=Ku.1 n;rfl
 have a2:d.heap.size<=(d.alloc (.cells #[] 9)).heap.size:=E.o.size;clear c9;go_enter func53,ntmps53
 go_upto_region 1 with fail
 rw[<-L];clear L;go_wp2_with (at_builtin;refine wpList_append_own _ rfl (.tmp 6) (.tmp 8) 26 rfl d.heap.size 9 is _ 1 16 underlying26 hi c6 c7 c8 rfl (by decide) (.slice (some ⟨d.heap.size,0,none⟩) 0 0) 0 [] rfl b3.o ⟨C,D,none⟩ Kk.length J (Kk.map Value.string) rfl (by simp) d1.o a1.o (by unfold maxLen;omega) (by omega) a2 ?_;intro v6 S a3 d2 _;have a4:K_ d S:=aG E.o (JP _) b3.o d2;rw[KH,List.nil_append] at a3;obtain⟨q,s,rfl⟩:=ax a3;have b5:=Kz a3;clear a3 d2)
 obtain⟨A,V⟩:=aj (S.alloc (.cells #[.slice q Kk.length s,.slice none 0 0] 29));obtain⟨x,T⟩:=aj S.heap.size;have a5:K_ S A:=by rw[V];exact ag _ _
 have b6:Hid (aC A x 29 2):=by rw[V,T];exact aC.made S #[.slice q Kk.length s,.slice none 0 0] 29
 have d3:A.rangeAt x 0 [.slice q Kk.length s,.slice none 0 0]:=by rw[V,T];exact Xz S #[.slice q Kk.length s,.slice none 0 0] 29
 have g3:=Kz d3;have d4:=Kz (d0.o.kept (a4.trans a5));have g4:=Kz (ai b5.o a5);have d5:K_ d A:=a4.trans a5;have K1:K_ w A:=b2.trans d5;have g5:=a4.size;have i9:x+1<=A.heap.size:=b6.o.lt;have j0:w.heap.size+1<x:=by omega
 have a6:d.heap.size<=x:=by omega
 have d6:Hid (∀g,(Value.slice q Kk.length s).ownBlock=some g->g<x):=fun g e=>by rw[T];exact (b5.o.lt g e).2
 rw[<-V,<-T];clear d3 b5 b3 d1 d0 V T a1 a2 E a5 a4 g5 b2 c0 c1;go_loopw [4] (fun i wr=>∃(k:Nat) (G:LM) (H:Nat) (xs:List LQ),k<=R.length/\i= .int .i64 k/\CpX A wr x q Kk.length s G (R.take k) H xs) (fun i _=>R.length-(intOf i).toNat)
 case atStart=>
  have h:=g3.o;exact⟨0,none,0,[],JR _,rfl,⟨Xk.refl _ _ _,b6.o,h 0 _ rfl,h 1 _ rfl,Ld _ _ _ _,bL.nil _ _,(fun i j a b g7 c j1 e _ W=>by simp at W),fun i a g7 c W=>by simp at W⟩⟩
 case round=>
  obtain⟨k,G,H,xs,hk,rfl,t⟩:=hrel;have d7:K_ d wr:=t.kb.kept d5 a6;have s1:=HC.o wr d7;have j2:w.heap.size<wr.heap.size:=by have:=d7.size;omega
  by_cases X:k<R.length
  ·have Kr:K_ w wr:=t.kb.kept K1 (by omega);obtain⟨b,o,N,Y,rfl,hb,h,b7,d8⟩:=hS.kept Kr k X;obtain⟨y,hy⟩:=aj (R.getD k Qz.zero);have d9:Hid (R.take (k+1)=R.take k++ [y]):=by show _=_;rw[JX X,hy];simp[List.getD,X]
   have j3:y.texts.length<=1000:=by rw[hy];simp only[List.getD,X,JV,Lx];exact f6 _ (J_ X)
   obtain⟨a7,ht⟩:=aj (R.take k);have e0:a7.length=k:=by rw[ht,Kt];omega
   rw[<-ht] at t d9;rw[<-hy] at h b7;have d6:=Kz e0;have j4:a7.length<=10000:=by omega
   have F:=Kz t;have q0:wr.cell? ⟨b,o+k*7,none⟩=some (.string y.name):=h 0 _ rfl;have q1:wr.cell? ⟨b,o+k*7+1,none⟩=some (.bool y.over):=h 1 _ rfl;have q2:wr.cell? ⟨b,o+k*7+2,none⟩=some (.bool y.fail):=h 2 _ rfl;have q3:wr.cell? ⟨b,o+k*7+3,none⟩=some (.string y.text):=h 3 _ rfl;have q4:wr.cell? ⟨b,o+k*7+4,none⟩=some (.int .i64 y.at'):=h 4 _ rfl;have q5:wr.cell? ⟨b,o+k*7+5,none⟩=some (.int .i64 y.Zj):=h 5 _ rfl;have O:wr.cell? ⟨b,o+k*7+6,none⟩=some (.slice N y.texts.length Y):=h 6 _ rfl;have⟨e1,g8⟩:=aH b7 d8;have i0:(k:Int)<(R.length:Int):=by omega
   clear h hy ht e0 t b7 d8;obtain⟨f,a8⟩:=aj (wr.alloc (.cells #[.string y.name,.bool y.over,.bool y.fail,.string y.text,.int .i64 y.at',.int .i64 y.Zj,.slice N y.texts.length Y] 40));have K2:K_ wr f:=by rw[a8];exact ag _ _
   have P:Hid (iG f wr.heap.size y N Y):=by rw[a8];exact⟨aC.made wr #[.string y.name,.bool y.over,.bool y.fail,.string y.text,.int .i64 y.at',.int .i64 y.Zj,.slice N y.texts.length Y] 40,Xz wr _ _⟩
   go_upto_region 6 with fail
   rw[<-a8];clear a8;obtain⟨B,e2⟩:=aj wr.heap.size;have j5:A.heap.size<=B:=by have:=F.o.kb.size;omega
   have e3:wr.heap.size<=B:=by omega
   rw[<-e2] at P⊢;clear e2;have E:Hid (K_ f (f.alloc (.cells #[] 9))):=ag _ _;have a9:Hid ((f.alloc (.cells #[] 9)).ownsRow f.heap.size 9 1 (.slice (some ⟨f.heap.size,0,none⟩) 0 0) 0 (([]:List LK).map Value.string)):=KG f #[] 0 (JP _) (JR _) rfl;go_cut [5] from 23 to 27 (fun s5 wx=>∃l v,s5= .pointer (some ⟨B,0,none⟩)/\K_ wr wx/\iG wx B y l v/\fA wx 9 l y.texts/\(l=none->v=0)/\(∀m:Addr,l=some m->B<m.block)/\wx.ownsRow 0 9 1 (.slice l y.texts.length v) y.texts.length (y.texts.map Value.string))
   case first=>
    clear q0 q1 q2 q3 q4 q5 O;obtain⟨q0,q1,q2,q3,q4,q5,O⟩:=P.o.all;have Z:=P.o.row.lt;obtain⟨_,g6⟩:=P.o.row.row.at (i:=6) (by omega);rcases (show N=none\/∃m,N=some m from by cases N with|none=>exact .inl rfl|some b4=>exact .inr ⟨b4,rfl⟩) with rfl|⟨m,rfl⟩
    ·have h0:y.texts=[]:=by
      cases g9:y.texts with
      | nil=>rfl
      | cons a7 ts=>exfalso;obtain⟨b,o,e,_⟩:=e1.o 0 (by rw[g9];simp);cases e
     have e4:=g8.o rfl;have e5:f.cell? ⟨B,6,none⟩=some (.slice none 0 0):=by rw[O,h0,e4];rfl
     have H0:=Kz h0;clear O h0 e4;have O:=e5;clear e5;go_wp2_with (at_builtin;refine wpList_append_own_none _ rfl (.tmp 23) (.tmp 25) 26 rfl f.heap.size 9 is 1 underlying26 hi (.slice (some ⟨f.heap.size,0,none⟩) 0 0) 0 [] rfl a9.o rfl ?_)
     go_meet
     exact⟨_,_,rfl,K_.alloc (Below.setCell K2 (p:=⟨B,6,none⟩) e3 _) _,(P.o.put (xa':=some ⟨f.heap.size,0,none⟩) (xc':=0) (by omega) (by simp[Qz.cells,H0.o])).kept (ag _ _),.inl H0.o,(fun e=>by cases e),(fun m e=>by cases e;exact Z),(by rw[H0.o];exact wV f _ _ _)⟩
    ·have h1:Hid (∀j u,(y.texts.map Value.string)[j]? =some u->(f.alloc (.cells #[] 9)).cell? (m.add j)=some u):=fun j u n=>by
      have M:j<y.texts.length:=by have:=(JW.1 n).1;simpa using this
      obtain⟨b,o,e,hb,h⟩:=(e1.o.kept (K2.trans E.o)) j M;simp only[KT] at e;subst e;rw[KZ,h];simp[M] at n;simp[List.getD,M,n]
     have a1:Hid (∀u∈y.texts.map Value.string,u.oneCell'=true):=fun u n=>by obtain⟨b4,_,rfl⟩:=Ku.1 n;rfl
     have a2:f.heap.size<=(f.alloc (.cells #[] 9)).heap.size:=E.o.size;go_wp2_with (at_builtin;refine wpList_append_own _ rfl (.tmp 23) (.tmp 25) 26 rfl f.heap.size 9 is _ 1 16 underlying26 hi c6 c7 c8 rfl (by decide) (.slice (some ⟨f.heap.size,0,none⟩) 0 0) 0 [] rfl a9.o m y.texts.length Y (y.texts.map Value.string) rfl (by simp) h1.o a1.o (by unfold maxLen;omega) (by omega) a2 ?_;intro v1 w8 b0 e6 _;rw[KH,List.nil_append] at b0;have e7:=aG E.o (JP _) a9.o e6;have e8:=Kz b0;obtain⟨e9,f1,rfl⟩:=ax b0;have b1:=Kz (P.o.kept e7);have j6:=b1.o.all.2.2.2.2.2.2;have j7:=b1.o.row.lt;obtain⟨_,j8⟩:=b1.o.row.row.at (i:=6) (by omega);clear b0 e6)
     go_meet
     obtain⟨U,h2,h3⟩:=lh (aU e8.o (p:=⟨B,6,none⟩) Z (.slice e9 y.texts.length f1));exact⟨_,_,rfl,Below.setCell (K2.trans e7) (p:=⟨B,6,none⟩) e3 _,b1.o.put (by omega) rfl,U,h2,(fun m e=>JQ Z (h3 m e)),bC (aU e8.o (p:=⟨B,6,none⟩) Z (.slice e9 y.texts.length f1)) (JR _)⟩
   case rest=>
    obtain⟨l,v,rfl,k2,b8,a6,h4,f2,f3⟩:=hcut;have h5:=Kz f3;clear f3;obtain⟨w2,rfl⟩:=aj wc;clear q0 q1 q2 q3 q4 q5 O hb a9 E P s1;obtain⟨q0,q1,q2,q3,q4,q5,O⟩:=b8.all;have Z:=b8.row.lt;have Q:=F.o.kept k2;have m1:=Q.runs;have mz:=Q.row.lt;obtain⟨⟨_,y1⟩,j9⟩:=Q.row.row.at (i:=1) (by omega);have b9:=Kz Q;have I:K_ w2 (w2.alloc (.cells #[.string y.name,.bool y.over,.bool y.fail,.string y.text,.int .i64 y.at',.int .i64 y.Zj,.slice l y.texts.length v] 40)):=ag _ _;have h6:A.heap.size<=(w2.alloc (.cells #[.string y.name,.bool y.over,.bool y.fail,.string y.text,.int .i64 y.at',.int .i64 y.Zj,.slice l y.texts.length v] 40)).heap.size:=JS Q.kb.size I.size;have f4:=Kz (ai Q.own I);have h7:=Kz (a6.same (u:=40) (ay.aF I) (by decide));have h8:Hid (∀j u,(y.cells l v)[j]? =some u->(w2.alloc (.cells #[.string y.name,.bool y.over,.bool y.fail,.string y.text,.int .i64 y.at',.int .i64 y.Zj,.slice l y.texts.length v] 40)).cell? ((⟨w2.heap.size,0,none⟩:Addr).add j)=some u):=fun j u n=>by rw[KZ];exact Xz w2 (y.cells l v).toArray 40 j u (by simpa using n)
    clear Q a6 b8;go_wp2_with (at_builtin;refine wpList_append_own _ rfl (.tmp 29) (.tmp 31) 27 rfl A.heap.size 40 f7 _ 7 80 underlying27 f8 f9 g0 g1 rfl (by decide) _ a7.length _ rfl f4.o ⟨w2.heap.size,0,none⟩ 1 1 (y.cells l v) rfl rfl h8.o (Qz.one y l v) (by unfold maxLen;omega) (by omega) h6 ?_;intro v6 w9 c2 c3 _;obtain⟨av,cv,rfl⟩:=ax c2;have h9:=Kz (F.o.next (by omega) (k2.trans I) c3 c2 h7.o h4 (fun m e=>by have:=f2 m e;omega) (aJ (u:=40) h5.o (ay.aF I) (by decide)) (fun m e=>by have U:=f2 m e;omega));have f5:w9.heap[x]? = (w2.alloc (.cells #[.string y.name,.bool y.over,.bool y.fail,.string y.text,.int .i64 y.at',.int .i64 y.Zj,.slice l y.texts.length v] 40)).heap[x]? :=c3.block x (b9.o.kept I).row.lt (IE (b9.o.kept I).row f4.o);have c4:=(b9.o.kept I).row.block f5;obtain⟨⟨_,u1⟩,k0⟩:=c4.row.at (i:=1) (by omega);have u9:=c4.lt;clear c2 c3 f5 c4)
    go_roundw
    case rel=>exact⟨k+1,av,cv,xs++y.cells l v,by omega,by go_num,by rw[d9.o];exact h9.o⟩
    case measure=>simp[intOf];omega
  ·have i1:k=R.length:=by omega
   subst i1;rw[KI] at t;have k1:=t.Kk;have m1:=t.runs;have a0:=d4.o.block (t.kb.block _ d4.o.lt (by omega));obtain⟨⟨_,t0⟩,f0⟩:=a0.row.at (i:=0) (by omega);obtain⟨⟨_,t1⟩,k3⟩:=a0.row.at (i:=1) (by omega);have⟨c5,F⟩:=aH a0 t;have T:=t.row.lt;have k4:=a0.lt;have zk:=t.kb.size;clear a0 t;go_wp2
   have i2:=JU wr (w.heap.size+1) 0 [.slice q Kk.length s,.slice G R.length H] (c5.o.row.there (o:=0) (m:=2) (JP _));have hO:=aU (aU F.o.own (p:=⟨w.heap.size+1,0,none⟩) (by show w.heap.size+1<_;omega) (.slice q Kk.length s)) (p:=⟨w.heap.size+1,1,none⟩) (by show w.heap.size+1<_;omega) (.slice G R.length H);have i3:=Be g4.o F.o.kb b6.o (by decide);have i4:=aU (aU i3 (p:=⟨w.heap.size+1,0,none⟩) (by show w.heap.size+1<_;omega) (.slice q Kk.length s)) (p:=⟨w.heap.size+1,1,none⟩) (by show w.heap.size+1<_;omega) (.slice G R.length H);have i5:=(F.o.pack.same (c5.o.same (o:=0) (.slice q Kk.length s)) (by decide)).same ((c5.o.set (o:=0) (.slice q Kk.length s)).same (o:=1) (.slice G R.length H)) (by decide);refine X_ [.slice q Kk.length s,.slice G R.length H] _ results53 rfl i2 underlying29 rfl Tryz.bH rfl ⟨q,s,G,H,xs,x,rfl,bC i4 (by omega),bC hO (by omega),i5.weak (fun b W=>Nat.le_of_lt W),by omega,d6.o,F.o.ap, ?_⟩;exact ((F.o.kb.kept K1 (by omega)).setCell (by show w.heap.size<=w.heap.size+1;omega) _).setCell (by show w.heap.size<=w.heap.size+1;omega) _
theorem Em(w:LP)(d f c:Nat)(Kk:List LK)(a:LM)(h:Nat)(R:List Qz)(i:Kk.length<=1000)(j:R.length<=10000)(k:∀r∈R,r.texts.length<=1000)(l:Strs w (some ⟨d,f,none⟩) Kk)(m:bD w a R):
  Calls prog 53 #[.agg #[.slice (some ⟨d,f,none⟩) Kk.length c,.slice a R.length h]] w fun e w'=>pK Kk R w w' e:=
 (rW w d f c Kk a h R i j k l m).mono fun _ _ ⟨n,c,p,q,s,_,t,v,x,y,A,_,_,B⟩=>⟨n,c,p,q,s,t,v,x,jB y.plain (fun _ C=>JS A C),B⟩
structure But (S:Nat->Prop) (w w':LP):Prop where
 os:w'.os=w.os
 tape:w'.tape=w.tape
 output:w'.output=w.output
 size:w.heap.size<=w'.heap.size
 block:∀b,b<w.heap.size->¬S b->w'.heap[b]? =w.heap[b]?
section
variable {S : Nat -> Prop} {w w' w'' wz : LP}
theorem But.aF(h:K_ w w'):But S w w':=⟨h.os,h.tape,h.output,h.size,fun b c _=>h.block b c⟩
theorem But.aI{row:Option Nat}(h:w.grownBy w' row)(c:∀b,row=some b->S b):But S w w':=⟨h.os,h.tape,h.output,h.size,fun b d e=>h.block b d (fun f=>e (c b f.symm))⟩
theorem But.trans(h:But S w w')(k:But S w' w''):But S w w'':=⟨k.os.trans h.os,k.tape.trans h.tape,k.output.trans h.output,JS h.size k.size,fun b c d=>(k.block b (JQ c h.size) d).trans (h.block b c d)⟩
theorem But.set(h:But S w w'){p:Addr}(c:S p.block)(v:LQ):But S w (w'.setCell p v):=⟨h.os,h.tape,h.output,by rw[size_setCell];exact h.size,fun d e b=>by rw[Below.heap_setCell _ _ _ _ (fun f=>b (by rw[f];exact c))];exact h.block d e b⟩
theorem But.mono{a:Nat->Prop}(h:But S w w')(d:∀b,b<w.heap.size->S b->a b):But a w w':=⟨h.os,h.tape,h.output,h.size,fun b c e=>h.block b c (fun f=>e (d b c f))⟩
theorem But.kept(h:But S w w')(k:K_ wz w)(d:∀b,S b->wz.heap.size<=b):K_ wz w':=
 ⟨h.os.trans k.os,h.tape.trans k.tape,h.output.trans k.output,JS k.size h.size,fun b c=>(h.block b (JQ c k.size) (fun e=>by have:=d b e;omega)).trans (k.block b c)⟩
theorem But.cell(h:But S w w'){o:Nat}(c:b<w.heap.size)(d:¬S b):w'.cell? ⟨b,o,none⟩=w.cell? ⟨b,o,none⟩:=Ke (w:=w) (h.block b c d)
theorem But.row(h:But S w w')(a:aC w b t n)(d:¬S b):aC w' b t n:=a.block (h.block b a.lt d)
theorem But.range(h:But S w w'){o:Nat}(c:aC w b t n)(d:¬S b){cs:List LQ}(e:w.rangeAt b o cs):w'.rangeAt b o cs:=fun j v i=>(h.cell c.lt d).trans (e j v i)
theorem But.owns(h:But S w w'){e:TypeId}(a:w.ownsRow base e size v n xs)(d:∀b,v.ownBlock=some b->¬S b):w'.ownsRow base e size v n xs:=by
 refine⟨a.1, ?_⟩;rcases a.2 with f|⟨g,i,j,rfl,k,c,rest⟩
 ·exact .inl f
 ·exact .inr ⟨g,i,j,rfl,k,by rw[h.block g (aO c) (d g rfl)];exact c,rest⟩
end
def df(w:LP)(b:Nat)(t:TypeId):Prop:=∃cur fr,w.heap[b]? =some (Obj.cells cur t fr)
theorem aC.type(h:aC w b t n):df w b t:=let ⟨cur,h1,_⟩:=h;⟨cur,_,h1⟩
theorem Yz{e:TypeId}(h:w.ownsRow base e size v n xs)(a:v.ownBlock=some b):df w b e:=by
 rcases h.2 with⟨rfl,_⟩|⟨g,f,c,rfl,_,d,_⟩
 ·cases a
 ·simp only[Value.ownBlock,KT] at a;subst a;exact⟨c,_,d⟩
theorem bi{c:Nat}{u:TypeId}(h:df w b t)(k:df w c u)(d:t≠u):b≠c:=by
 rintro rfl;obtain⟨f,i,e⟩:=h;obtain⟨j,l,a⟩:=k;rw[e] at a;simp only[KT,Obj.cells.injEq] at a;exact d a.2.1
structure Zx where
 tb:Nat
 r:Qz
 cost:Int
 steps:List Xj
 sa:LM
 sc:Nat
 op:Nat
 tv:LQ
 qv:LQ
 qs:List LQ
 bl:LK
def Zx.cells(t:Zx):List LQ:=[.string t.r.name,.bool t.r.over,.bool t.r.fail,.string t.r.text,.int .i64 t.r.at',.int .i64 t.r.Zj,t.tv,.int .i64 t.cost,.slice t.sa t.steps.length t.sc,.int .i64 (t.op:Int),t.qv,.string t.bl]
def Zx.ptr(t:Zx):LQ:= .pointer (some ⟨t.tb,0,none⟩)
def Zx.own(t:Zx):List Nat:=t.tv.ownBlock.toList++t.qv.ownBlock.toList
def vY(b:Nat):LQ:= .pointer (some ⟨b,0,none⟩)
structure jR (base:Nat) (w:LP) (t:Zx):Prop where
 row:aC w t.tb 115 12
 rng:w.rangeAt t.tb 0 t.cells
 txt:w.ownsRow base 9 1 t.tv t.r.texts.length (t.r.texts.map Value.string)
 ask:w.ownsRow base 9 1 t.qv t.qs.length t.qs
 low:base<=t.tb
theorem jR.dZ{t:Zx}(h:jR base w t){x:Nat}(a:x∈t.own):df w x 9/\base<=x/\x<w.heap.size:=by
 unfold Zx.own at a;rcases JZ.1 a with a|a
 ·have e:=KL.1 a;exact⟨Yz h.txt e,h.txt.lt x e⟩
 ·have e:=KL.1 a;exact⟨Yz h.ask e,h.ask.lt x e⟩
variable {S : Nat -> Prop}
theorem jR.but{t:Zx}(h:jR base w t)(k:But S w w')(d:¬S t.tb)(h2:∀x∈t.own,¬S x):jR base w' t:=
 ⟨k.row h.row d,k.range h.row d h.rng,k.owns h.txt (fun b c=>h2 b (JZ.2 (.inl (KL.2 c)))),k.owns h.ask (fun b c=>h2 b (JZ.2 (.inr (KL.2 c)))),h.low⟩
def asIs(v:LQ):Option (DataW LQ×List MemPlace):=some (.held v,[])
def dw(s:LK):Lit:= .string s.data.toList
def Qk(ts:List Zx):List Qz:=ts.map (·.r)
structure bX where
 wo:LP
 K:Nat->Prop
 ps:List (Nat×LK)
 I:Nat->Prop
def bX.no(w:LP):bX:=⟨w,fun _=>False,[],fun _=>False⟩
structure Fen (G:bX) (w:LP) (bb mb:Nat) (ts:List Zx) (f:LK->LQ):Prop where
 size:G.wo.heap.size<=w.heap.size
 lt:∀k,G.K k->k<G.wo.heap.size
 same:∀k,G.K k->w.heap[k]? =G.wo.heap[k]?
 nb:¬G.K bb
 nm:¬G.K mb
 nt:∀t∈ts,¬G.K t.tb/\∀x∈t.own,¬G.K x
 nf:∀s x,(f s).ownBlock=some x->¬G.K x
 has:∀p∈G.ps,∃t∈ts,t.tb=p.1/\t.r.name=p.2
variable {mb : Nat}
theorem Fen.but{G:bX}{c:Nat}{d:List Zx}{f:LK->LQ}(h:Fen G w c mb d f)(k:But S w w')(e:∀b,S b->¬G.K b):Fen G w' c mb d f:=
 ⟨JS h.size k.size,h.lt,fun b a=>(k.block b (JQ (h.lt b a) h.size) (fun i=>e b i a)).trans (h.same b a),h.nb,h.nm,h.nt,h.nf,h.has⟩
theorem Fen.far{G:bX}{a:Nat}{b:List Zx}{f:LK->LQ}(h:Fen G w a mb b f){x:Nat}(d:w.heap.size<=x):¬G.K x:=fun c=>by
 have e:=h.lt x c;have i:=h.size;omega
theorem Fen.no{c:Nat}{d:List Zx}{f:LK->LQ}(h:w.heap.size<=w'.heap.size):Fen (bX.no w) w' c mb d f:=
 ⟨h,fun _ e=>e.elim,fun _ e=>e.elim,id,id,fun _ _=>⟨id,fun _ _=>id⟩,fun _ _ _=>id,fun _ h=>(by cases h)⟩
structure BM (G:bX) (Kq:List Qq) (wz w:LP) (bb:Nat) (a:LM) (cap:Nat) (rd:LM) (rn rc:Nat) (mb mx:Nat) (ts:List Zx) (d:LM) (dc:Nat) (f:LK->LQ) (ws:LK->List Nat):Prop where
 kw:K_ wz w
 row:aC w bb 112 6
 c0:w.cell? ⟨bb,0,none⟩=some (.slice a Kq.length cap)
 c1:w.cell? ⟨bb,1,none⟩=some (.func (.func 133) #[] #[])
 c2:w.cell? ⟨bb,2,none⟩=some (.slice rd rn rc)
 c3:w.cell? ⟨bb,3,none⟩=some (.slice d ts.length dc)
 c4:w.cell? ⟨bb,4,none⟩=some (.func (.func 101) #[] #[])
 c5:w.cell? ⟨bb,5,none⟩=some (.map (some mb))
 low:wz.heap.size<=bb
 items:w.ownsRow wz.heap.size 103 1 (.slice d ts.length dc) ts.length (ts.map Zx.ptr)
 fO:∀t∈ts,jR wz.heap.size w t
 act:∀t∈ts,Q_ Kq t.r.name=some ⟨t.cost,t.steps⟩/\Steps wz t.sa t.steps
 asc:cO (Qk ts)
 tbs:(ts.map (·.tb)).Nodup
 sep:ts.Pairwise fun t u=>∀x∈t.own,x∉u.own
 xB:∀t∈ts,t.own.Nodup
 map:∃N D,N<=mx/\w.ownsMap prog 9 asIs mb N D/\∀s:LK,s.size<=maxLen->D.atKey (dw s) (.held (.slice none 0 0))= .held (f s)
 zK:wz.heap.size<=mb
 eT:∀s,w.ownsRow wz.heap.size 103 1 (f s) (ws s).length ((ws s).map vY)
 xA:∀s s',s≠s'->∀x,(f s).ownBlock=some x->(f s').ownBlock≠some x
 zH:∀s x,(f s).ownBlock=some x->(Value.slice d ts.length dc).ownBlock≠some x
 qb:∀t∈ts,t.qs.length<=5*mx
 oth:Fen G w bb mb ts f
 gi:∀x,(Value.slice d ts.length dc).ownBlock=some x->¬(G.I x/\G.K x)
theorem il{N:Nat}{D:DataW LQ}(h:w.ownsMap prog 9 asIs mb N D)(k:But S w w')(d:¬S mb):w'.ownsMap prog 9 asIs mb N D:=by
 obtain⟨e,f,b,F,i,j⟩:=h;exact⟨e,f,by rw[k.block mb (aO b) d];exact b,F,i,j⟩
theorem gL{N:Nat}{D:DataW LQ}(h:w.ownsMap prog 9 asIs mb N D)(k:df w b t):b≠mb:=by
 rintro rfl;obtain⟨d,e,c,_⟩:=h;obtain⟨f,i,a⟩:=k;rw[c] at a;cases a
section
variable {G : bX} {Kq : List Qq} {wz w w' : LP} {bb : Nat} {a : LM} {cap : Nat} {rd : LM} {rn rc : Nat} {mb mx : Nat} {ts : List Zx} {d : LM} {dc : Nat} {f : LK -> LQ} {ws : LK -> List Nat}
theorem BM.but(h:BM G Kq wz w bb a cap rd rn rc mb mx ts d dc f ws)(k:But S w w')(l:∀b,S b->wz.heap.size<=b)(c:¬S bb)(h2:¬S mb)(m:∀b,(Value.slice d ts.length dc).ownBlock=some b->¬S b)(n:∀s b,(f s).ownBlock=some b->¬S b)(j:∀t∈ts,¬S t.tb/\∀x∈t.own,¬S x)(p:∀b,S b->¬G.K b):BM G Kq wz w' bb a cap rd rn rc mb mx ts d dc f ws:=by
 have e:=h.row.lt;refine⟨k.kept h.kw l,k.row h.row c,(k.cell e c).trans h.c0,(k.cell e c).trans h.c1,(k.cell e c).trans h.c2,(k.cell e c).trans h.c3,(k.cell e c).trans h.c4,(k.cell e c).trans h.c5,h.low,k.owns h.items m,fun t i=>(h.fO t i).but k (j t i).1 (j t i).2,h.act,h.asc,h.tbs,h.sep,h.xB, ?_,h.zK,fun s=>k.owns (h.eT s) (n s),h.xA,h.zH,h.qb,h.oth.but k p,h.gi⟩;obtain⟨N,D,q,r,v⟩:=h.map;exact⟨N,D,q,il r k h2,v⟩
theorem BM.kept(h:BM G Kq wz w bb a cap rd rn rc mb mx ts d dc f ws)(k:K_ w w'):BM G Kq wz w' bb a cap rd rn rc mb mx ts d dc f ws:=
 h.but (S:=fun _=>False) (But.aF k) (fun _ h=>h.elim) id id (fun _ _=>id) (fun _ _ _=>id) (fun _ _=>⟨id,fun _ _=>id⟩) (fun _ h=>h.elim)
theorem BM.more{c:Nat}(h:BM G Kq wz w bb a cap rd rn rc mb mx ts d dc f ws)(e:mx<=c):BM G Kq wz w bb a cap rd rn rc mb c ts d dc f ws:=
 ⟨h.kw,h.row,h.c0,h.c1,h.c2,h.c3,h.c4,h.c5,h.low,h.items,h.fO,h.act,h.asc,h.tbs,h.sep,h.xB,(by obtain⟨N,D,j,k⟩:=h.map;exact⟨N,D,JS j e,k⟩),h.zK,h.eT,h.xA,h.zH,fun t m=>JS (h.qb t m) (Nat.mul_le_mul_left 5 e),h.oth,h.gi⟩
theorem bM{α:Type}{l:List α}(h:i<l.length):l[i]∈l:=J_ h
theorem nL{t':Zx}(_hi:i<ts.length):Qk (ts.set i t')= (Qk ts).set i t'.r:=by simp[Qk,List.map_set]
theorem yB{r':Qz}(h:cO l)(k:i<l.length)(b:r'.name=l[i].name):cO (l.set i r'):=by
 unfold cO at h⊢;rw[Ka] at h⊢;intro p q c d j;rw[Lp] at c d;rw[LJ,LJ];have:=h p q c d j
 split <;> split
 ·omega
 ·rename_i e _;subst e;rw[b];exact this
 ·rename_i _ e;subst e;rw[b];exact this
 ·exact this
theorem BM.turn(h:BM G Kq wz w bb a cap rd rn rc mb mx ts d dc f ws)(l:i<ts.length)(k:But S w w')(A:∀b,S b->b=ts[i].tb\/b∈ts[i].own){t':Zx}(Z:jR wz.heap.size w' t')(F:t'.tb=ts[i].tb)(L:t'.r.name=ts[i].r.name)(M:t'.cost=ts[i].cost)(e4:t'.steps=ts[i].steps)(e5:t'.sa=ts[i].sa)(N:∀x∈t'.own,x∈ts[i].own\/w.heap.size<=x)(hn:t'.own.Nodup)(a0:t'.qs.length<=5*mx):BM G Kq wz w' bb a cap rd rn rc mb mx (ts.set i t') d dc f ws:=by
 have B:=h.row.lt;have s:=h.fO ts[i] (bM l);have t:(ts.set i t').length=ts.length:=Lp ..;have O:∀{b:Nat} {u:TypeId},df w b u->u≠115->u≠9->¬S b:=fun m h1 h2 p=>by
  rcases A _ p with e|e
  ·exact bi m s.row.type h1 e
  ·exact bi m (s.dZ e).1 h2 rfl
 have hm:=h.map;obtain⟨a1,a2,hN,P,hf⟩:=hm;have a3:¬S mb:=fun p=>by
  rcases A _ p with e|e
  ·exact gL P s.row.type e.symm
  ·exact gL P (s.dZ e).1 rfl
 have v:¬S bb:=O h.row.type (by decide) (by decide);have T:∀(j:Nat) (c:j<ts.length),j≠i->¬S ts[j].tb/\∀x∈ts[j].own,¬S x:=fun j c q=>by
  have U:=h.fO ts[j] (bM c);refine⟨fun p=>?_,fun x n p=>?_⟩
  ·rcases A _ p with e|e
   ·have V:=Ka.1 h.tbs;rcases Nat.lt_or_gt_of_ne q with y|y
    ·have:=V j i (by simpa using c) (by simpa using l) y;simp at this;exact this e
    ·have:=V i j (by simpa using l) (by simpa using c) y;simp at this;exact this e.symm
   ·exact bi U.row.type (s.dZ e).1 (by decide) rfl
  ·rcases A _ p with e|e
   ·exact bi (U.dZ n).1 s.row.type (by decide) e
   ·have C:=Ka.1 h.sep;rcases Nat.lt_or_gt_of_ne q with y|y
    ·exact C j i c l y x n e
    ·exact C i j l c y x e n
 have mem:∀u∈ts.set i t',u=t'\/∃(j:Nat) (c:j<ts.length),j≠i/\u=ts[j]:=fun u m=>by
  obtain⟨j,c,rfl⟩:=Kb m;rw[t] at c;rw[LJ]
  split
  ·exact .inl rfl
  ·rename_i e;exact .inr ⟨j,c,Ne.symm e,rfl⟩
 have a4:∀b,S b->wz.heap.size<=b:=fun b p=>by
  rcases A b p with e|e
  ·rw[e];exact s.low
  ·exact (s.dZ e).2.1
 have a5:∀b,S b->¬G.K b:=fun b p=>by
  rcases A b p with e|e
  ·rw[e];exact (h.oth.nt _ (bM l)).1
  ·exact (h.oth.nt _ (bM l)).2 b e
 have a6:Fen G w' bb mb (ts.set i t') f:=by
  have D:=h.oth.but k a5;refine⟨D.size,D.lt,D.same,D.nb,D.nm,fun u m=>?_,D.nf,fun H E=>?_⟩;rotate_left
  ·obtain⟨u,m,W,I⟩:=h.oth.has H E;obtain⟨j,c,rfl⟩:=Kb m;by_cases e:j=i
   ·subst e;exact⟨t',List.mem_set c _,by rw[F];exact W,by rw[L];exact I⟩
   ·refine⟨ts[j], ?_,W,I⟩;have M:(ts.set i t')[j]'(by rw[t];exact c)=ts[j]:=by rw[LJ,Lu (Ne.symm e)]
    rw[<-M];exact J_ _
  rcases mem u m with rfl|⟨j,c,q,rfl⟩
  ·refine⟨by rw[F];exact (h.oth.nt _ (bM l)).1,fun x n=>?_⟩;rcases N x n with g | g
   ·exact (h.oth.nt _ (bM l)).2 x g
   ·exact h.oth.far g
  ·exact h.oth.nt _ (bM c)
 refine⟨k.kept h.kw a4,k.row h.row v,(k.cell B v).trans h.c0,(k.cell B v).trans h.c1,(k.cell B v).trans h.c2,by rw[t];exact (k.cell B v).trans h.c3,(k.cell B v).trans h.c4,(k.cell B v).trans h.c5,h.low, ?_, ?_, ?_, ?_, ?_, ?_, ?_,⟨a1,a2,hN,il P k a3,hf⟩,h.zK,fun X=>k.owns (h.eT X) (fun b e=>O (Yz (h.eT X) e) (by decide) (by decide)),h.xA,by rw[t];exact h.zH,fun u m=>by rcases mem u m with rfl | ⟨j,c,q,rfl⟩;exact a0;exact h.qb _ (bM c),a6,by rw[t];exact h.gi⟩
 ·have e:(ts.set i t').map Zx.ptr=ts.map Zx.ptr:=by
   rw[List.map_set];have Q:t'.ptr= (ts.map Zx.ptr)[i]'(by simpa using l):=by simp[Zx.ptr,F]
   rw[Q,List.set_getElem_self]
  rw[t,e];exact k.owns h.items (fun b e=>O (Yz h.items e) (by decide) (by decide))
 ·intro u m;rcases mem u m with rfl|⟨j,c,q,rfl⟩
  ·exact Z
  ·exact (h.fO _ (bM c)).but k (T j c q).1 (T j c q).2
 ·intro u m;rcases mem u m with rfl|⟨j,c,q,rfl⟩
  ·rw[L,M,e4,e5];exact h.act _ (bM l)
  ·exact h.act _ (bM c)
 ·rw[nL l];exact yB h.asc (by simpa[Qk] using l) (by simp[Qk,L])
 ·have e:(ts.set i t').map (·.tb)=ts.map (·.tb):=by
   rw[List.map_set];have Q:t'.tb= (ts.map (·.tb))[i]'(by simpa using l):=by simp[F]
   rw[Q,List.set_getElem_self]
  rw[e];exact h.tbs
 ·rw[Ka];have C:=Ka.1 h.sep;intro H Y E J R x n;rw[t] at E J;rw[LJ] at n⊢
  split at n
  ·rename_i e
   subst e;rw[Lu (by omega)];rcases N x n with g|g
   ·exact C i Y l J R x g
   ·intro I;have:=((h.fO _ (bM J)).dZ I).2.2;omega
  ·split
   ·rename_i e
    subst e;intro g;rcases N x g with g|g
    ·exact C H i E l R x n g
    ·have:=((h.fO _ (bM E)).dZ n).2.2;omega
   ·exact C H Y E J R x n
 ·intro u m;rcases mem u m with rfl|⟨j,c,q,rfl⟩
  ·exact hn
  ·exact h.xB _ (bM c)
end
def yC(W:fQ)(r:Qz)(bl:LK):Prop:=
 (bl= ⟨#[]⟩/\(r.over=true->r.fail=true->r.text=nK\/∃A,W r.name=some A/\(stepOf A r.at').fin=true))\/
 (r.over=true/\r.fail=true/\(∃A,W r.name=some A/\(stepOf A r.at').fin=false/\bl∈(stepOf A r.at').asks)/\r.text= (⟨#[98,101,108,111,119,32]⟩:LK)++bl)
theorem yC.open{b:LK}(h:yC W r b)(c:r.over=false):b= ⟨#[]⟩:=by
 rcases h with h|⟨h,_⟩
 ·exact h.1
 ·rw[c] at h;cases h
theorem yC.still{a:LK}(c:a= ⟨#[]⟩)(d:r.over=false):yC W r a:= .inl ⟨c,fun h=>by rw[d] at h;cases h⟩
def uV(W:fQ)(σ:Env)(r:Qz)(qs:List LQ):Prop:=∃L,xw W σ r L/\qs=L.map Value.string
theorem uV.mono{m:LK}{a:List LQ}(h:uV W σ r a)(c:eD W σ m):uV W (doX W σ m) r a:=by
 obtain⟨L,e,f⟩:=h;exact⟨L,e.mono c,f⟩
theorem uV.unit{a:List LQ}(h:uV W σ r a)(c:bZ W σ r):uV W σ (Y_ W σ r).1 (a++ (Y_ W σ r).2.map Value.string):=by
 obtain⟨L,d,e⟩:=h;exact⟨_,d.unit c,by rw[e,LA]⟩
theorem uV.still{a:List LQ}(b:a=[])(c:r=Qz.fresh r.name):uV W σ r a:=⟨[],by rw[c];exact xw.start _,b⟩
def Zx.bq(t:Zx):LK×List LQ:=(t.bl,t.qs)
structure BS (Kq:List Qq) (ts:List Zx) (ws:LK->List Nat):Prop where
 good:dB Kq (Qk ts)
 op:∀t∈ts,t.op= (pend (Q_ Kq) (Qj (Qk ts)) t.r).length
 wt:∀s,∀t∈ts,(t.tb∈ws s↔s∈pend (Q_ Kq) (Qj (Qk ts)) t.r)
 wn:∀s,(ws s).Nodup
 ww:∀s b,b∈ws s->∃t∈ts,t.tb=b
 bl:∀t∈ts,yC (Q_ Kq) t.r t.bl
 qs:∀t∈ts,uV (Q_ Kq) (Qj (Qk ts)) t.r t.qs
def jA(w:LP)(xs:List LQ)(l:List Qq):Prop:=
 xs.length=l.length/\∀i,i<l.length->∃tb cur fr,xs[i]? =some (.pointer (some ⟨tb,0,none⟩))/\w.heap[tb]? =some (Obj.cells cur 115 fr)/\w.cell? ⟨tb,0,none⟩=some (.string (l.getD i Qq.zero).name)
theorem jA.kept{w w':LP}{b:List LQ}{l:List Qq}(h:jA w b l)(k:K_ w w'):jA w' b l:=
 ⟨h.1,fun i d=>by
  obtain⟨c,e,f,j,a,m⟩:=h.2 i d;exact⟨c,e,f,j,by rw[k.block c (aO a)];exact a,(k.cell (aO a)).trans m⟩⟩
def rM(w:LP)(a:LM)(xs:List LQ):Prop:=∀i,i<xs.length->∃b o,a=some ⟨b,o,none⟩/\b<w.heap.size/\∀j u,xs[j]? =some u->w.cell? ⟨b,o+j,none⟩=some u
theorem rM.kept{w w':LP}{a:LM}{b:List LQ}(h:rM w a b)(k:K_ w w'):rM w' a b:=by
 intro i d;obtain⟨f,o,e,c,j⟩:=h i d;exact⟨f,o,e,JQ c k.size,fun l u m=>(k.cell c).trans (j l u m)⟩
theorem dP{w:LP}{base n:Nat}{t:TypeId}{a:LM}{c:Nat}{b:List LQ}(h:w.ownsRow base t 1 (.slice a n c) n b):rM w a b:=by
 have k:b.length=n:=by have:=h.1;omega
 rcases h.2 with⟨e,l⟩|⟨g,m,p,e,q,d,r,_,_,_⟩
 ·exact fun i f=>by omega
 ·simp only[KX] at e;obtain⟨rfl,_,rfl⟩:=e;refine fun i f=>⟨g,0,rfl,aO d,fun s u j=>?_⟩
  have:=h.cells (g:=g) rfl _ _ j;rw[KZ] at this;exact this
theorem uo(w:LP)(tb:Nat)(n:LK)(a:w.cell? ⟨tb,0,none⟩=some (.string n)):
  Calls prog 101 #[.pointer (some ⟨tb,0,none⟩)] w fun e w'=>e= .returned (.string n)/\w'=w:=by
 go_enter func101,ntmps101
 go_wp2
 go_ret
 exact⟨rfl,rfl⟩
theorem qh(w:LP)(g:Nat)(n:LK)(tb:Nat)(a:LK)(c:g<w.heap.size)(d:tb<w.heap.size)(b:w.cell? ⟨tb,0,none⟩=some (.string n))(f:w.cell? ⟨g,1,none⟩=some (.func (.func 101) #[] #[])):
  Calls prog 158 #[.pointer (some ⟨tb,0,none⟩),.string a,.pointer (some ⟨g,0,none⟩)] w fun e w'=>e= .returned (.int .i64 (jM n.toList a.toList))/\K_ w w':=by
 go_enter func158,ntmps158
 go_wp2_with fail
 refine (uo _ tb n b).mono ?_;rintro e w1 ⟨rfl,rfl⟩;go_wp2_with fail
 refine (om _ n a).mono ?_;rintro e w2 ⟨rfl,rfl⟩;go_wp2
 go_ret
 exact⟨rfl,K_.refl _⟩
theorem Bu(w:LP)(g:Nat)(a:LM)(a2:Nat)(l:List Qq)(c:LK)(hl:l.length<=1048576)(R:fE l)(D:g<w.heap.size)(S:w.cell? ⟨g,1,none⟩=some (.func (.func 101) #[] #[]))(T:List LQ)(E:jA w T l)(U:rM w a T):
  Calls prog 157 #[.slice a l.length a2,.string c,.func (.func 158) #[] #[.pointer (some ⟨g,0,none⟩)]] w
   fun e w'=>Found l c.toList e/\K_ w w':=by
 have V:=Kz R;clear R;go_enter func157,ntmps157
 go_wp2
 go_loopw [9,10] (fun I J wr=>∃i j:Nat,I= .int .i64 i/\J= .int .i64 j/\i<=j/\j<=l.length/\(∀t,t<i->Op.bytesLess (nameAt l t) c.toList=true)/\(∀t,j<=t->t<l.length->Op.bytesLess (nameAt l t) c.toList=false)/\K_ w wr) (fun I J _=>(intOf J).toNat-(intOf I).toNat)
 case atStart=>exact⟨0,l.length,rfl,rfl,JR _,JP _,fun t W=>aT W,fun t h1 X=>by omega,K_.refl _⟩
 case round=>
  obtain⟨i,j,rfl,rfl,a8,Y,p,q,d⟩:=hrel;have r:=Kz (And.intro p q);clear p q;by_cases a9:(i:Int)<j
  ·obtain⟨h,Z⟩:∃h:Nat,h= (i+j) / 2:=⟨_,rfl⟩;have K:h<l.length:=by omega
   have a3:i<=h:=by omega
   have b0:h<j:=by omega
   obtain⟨b,o,rfl,hb,s⟩:=U.kept d h (by rw[E.1];exact K);obtain⟨v,a4,fr,x,y,k⟩:=(E.kept d).2 h K;obtain⟨f,m⟩:=aj (l.getD h Qq.zero);rw[<-m] at k;have L:=Kz m;have M:=s _ _ x;have A:wr.cell? ⟨v,0,none⟩=some (.string f.name):=k;have N:=aO y;clear m s k x y;have b1:((i:Int)+ (j:Int)) / 2= (h:Int):=by omega
   have HH:=Kz Z;clear Z;have O:g<wr.heap.size:=JQ D d.size;have P:wr.cell? ⟨g,1,none⟩=some (.func (.func 101) #[] #[]):=by rw[d.cell D];exact S
   go_wp2_with fail
   refine (qh _ g f.name v c O N A P).mono ?_;rintro e w1 ⟨rfl,B⟩;have C:nameAt l h=f.name.toList:=by unfold nameAt;rw[<-L.o]
   have F:Hid (jM f.name.toList c.toList<0↔Op.bytesLess (nameAt l h) c.toList=true):=by rw[C];exact uT
   clear M A C;generalize jM f.name.toList c.toList=a0 at *;have G:=d.trans B;clear d B;by_cases a5:a0<0
   ·go_wp2
    go_roundw
    case rel=>
     obtain⟨p,q⟩:=r.o;refine⟨h+1,j,by go_num,rfl,by omega,Y,fun t W=>?_,q,G⟩;have n:=F.o.1 a5;by_cases e:t=h
     ·subst e;exact n
     ·exact dX _ _ _ (V.o t h (by omega) K) n
    case measure=>simp[intOf];omega
   ·go_wp2
    go_roundw
    case rel=>
     obtain⟨p,q⟩:=r.o;refine⟨i,h,rfl,by go_num,a3,by omega,p,fun t h1 X=>?_,G⟩;have n:Op.bytesLess (nameAt l h) c.toList=false:=by
      cases Q:Op.bytesLess (nameAt l h) c.toList
      ·rfl
      ·have:=F.o.2 Q;omega
     by_cases e:t=h
     ·subst e;exact n
     ·cases Q:Op.bytesLess (nameAt l t) c.toList
      ·rfl
      ·rw[dX _ _ _ (V.o h t (by omega) X) Q] at n;cases n
    case measure=>simp[intOf];omega
  ·have a6:i=j:=by omega
   subst a6;have a1:Hid (Place l c.toList i):=⟨Y,r.o.1,r.o.2⟩;clear r;by_cases H:i<l.length
   ·obtain⟨b,o,rfl,hb,s⟩:=U.kept d i (by rw[E.1];exact H);obtain⟨v,a4,fr,x,y,k⟩:=(E.kept d).2 i H;obtain⟨f,m⟩:=aj (l.getD i Qq.zero);rw[<-m] at k;have L:=Kz m;have M:=s _ _ x;have A:wr.cell? ⟨v,0,none⟩=some (.string f.name):=k;have N:=aO y;clear m s k x y;have O:g<wr.heap.size:=JQ D d.size;have P:wr.cell? ⟨g,1,none⟩=some (.func (.func 101) #[] #[]):=by rw[d.cell D];exact S
    have a7:(i:Int)<l.length:=by omega
    go_wp2_with fail
    refine (qh _ g f.name v c O N A P).mono ?_;rintro e w1 ⟨rfl,B⟩;have C:nameAt l i=f.name.toList:=by unfold nameAt;rw[<-L.o]
    have F:Hid (jM f.name.toList c.toList=0↔nameAt l i=c.toList):=by rw[C];exact rY
    clear M A C;generalize jM f.name.toList c.toList=a0 at *;have G:=d.trans B;clear d B;go_wp2
    go_ret2
    refine⟨Found.mk i _ rfl a1.o ?_,G⟩;rw[<-F.o];simp[H]
   ·have a7:¬(i:Int)<l.length:=by omega
    go_wp2
    go_ret2
    exact⟨Found.mk i false rfl a1.o (by simp;intro h;exact Lv h H),d⟩
theorem xI(w:LP)(a:LM)(b:Nat)(l:List Qq)(c:LK)(j:l.length<=1048576)(k:fE l)(d:List LQ)(m:jA w d l)(n:rM w a d):
  Calls prog 117 #[.agg #[.slice a l.length b,.func (.func 101) #[] #[]],.string c] w
   fun e w'=>Found l c.toList e/\K_ w w':=by
 have f:K_ w (w.alloc (.cells #[.slice a l.length b,.func (.func 101) #[] #[]] 106)):=ag _ _;go_enter func117,ntmps117
 go_wp2_with fail
 refine (Bu _ w.heap.size a b l c j k (by simp) (by simp) d (m.kept f) (n.kept f)).mono ?_;rintro e w1 ⟨p,q⟩;obtain⟨r,s,rfl,h,i⟩:=p;have⟨t,v⟩:=aH h i;clear h i;go_wp2
 go_ret2
 exact⟨Found.mk r s rfl t.o v.o,f.trans q⟩
def iD(ts:List Zx):List Qq:=ts.map fun t=>⟨t.r.name,0,[]⟩
theorem dN(a:List Zx):(iD a).length=a.length:=by simp[iD]
theorem gW{a:List Zx}{i:Nat}(h:i<a.length):((iD a).getD i Qq.zero).name=a[i].r.name:=by simp[iD,List.getD,h]
theorem qW{b:List Zx}(h:cO (Qk b)):fE (iD b):=fun i j f a=>by
 rw[dN] at a;unfold nameAt;rw[gW (by omega),gW a];have:=Ka.1 h i j (by simp[Qk];omega) (by simpa[Qk] using a) f;unfold aP at this;simpa[Qk] using this
section
variable {G : bX} {Kq : List Qq} {wz w w' : LP} {bb : Nat} {a : LM} {cap : Nat} {rd : LM} {rn rc : Nat} {mb mx : Nat} {ts : List Zx} {d : LM} {dc : Nat} {f : LK -> LQ} {ws : LK -> List Nat}
theorem BM.packed(h:BM G Kq wz w bb a cap rd rn rc mb mx ts d dc f ws):jA w (ts.map Zx.ptr) (iD ts):=
 ⟨by simp[iD],fun i b=>by
  rw[dN] at b;have c:=h.fO ts[i] (J_ b);obtain⟨e,j,_⟩:=c.row;exact⟨ts[i].tb,e,_,by simp[b,Zx.ptr],j,by rw[gW b];exact c.rng 0 _ rfl⟩⟩
def Gq(ts:List Zx)(n:LK)(e:Ending):Prop:=(∃(i:Nat) (hi:i<ts.length),ts[i].r.name=n/\e= .returned ts[i].ptr)\/((∀t∈ts,t.r.name≠n)/\e= .returned (.pointer none))
theorem oZ(c:BM G Kq wz w bb a cap rd rn rc mb mx ts d dc f ws)(n:LK)(P:ts.length<=1048576):
  Calls prog 74 #[.pointer (some ⟨bb,0,none⟩),.string n] w fun e w'=>Gq ts n e/\K_ w w':=by
 have v:=c.c3;have F:=c.c4;have Q:=c.row.lt;have l:=dN ts;have h:=Kz c;clear c;go_enter func74,ntmps74
 go_wp2_with fail
 have m:=xI w d dc (iD ts) n (by omega) (qW h.o.asc) (ts.map Zx.ptr) h.o.packed (dP h.o.items);rw[l] at m;refine m.mono ?_;rintro e w1 ⟨⟨p,H,rfl,x,y⟩,q⟩;have⟨I,A,R⟩:=dK x y l;clear x y m l v F;have j:=h.o.kept q;have v:=j.c3;have S:=j.row.lt;cases H
 ·go_wp2
  go_ret
  refine⟨.inr ⟨fun T J e=>?_,rfl⟩,q⟩;obtain⟨B,C,rfl⟩:=Kb J;have K:=I.o;have L:¬(p<(iD ts).length/\nameAt (iD ts) p=n.toList):=fun M=>by have:=A.o.2 M;cases this
  have s:nameAt (iD ts) B=n.toList:=by unfold nameAt;rw[gW C,e]
  have t:B<(iD ts).length:=by rw[dN];exact C
  have N:=Place.only (qW h.o.asc) K t s;rw[N] at t s;exact L ⟨t,s⟩
 ·obtain⟨i,k⟩:=A.o.1 rfl;rw[dN] at i;have D:ts[p].r.name=n:=by unfold nameAt at k;rw[gW i] at k;exact toList_inj.1 k
  obtain⟨b,o,rfl,U,E⟩:=dP j.items p (by simpa using i);have V:w1.cell? ⟨b,o+p,none⟩=some ts[p].ptr:=E p _ (by simp[i]);have W:(p:Int)<(ts.length:Int):=by omega
  have O:=Kz D;clear D E k j;go_wp2
  go_ret
  exact⟨.inl ⟨p,i,O.o,rfl⟩,q⟩
theorem CL(w:LP)(n:LK)(a:n.size<=1000):
  Calls prog 183 #[.string n] w fun e w'=>e= .returned (.agg #[.bool true,.string (uY n)])/\K_ w w':=by
 go_enter func183,ntmps183
 have b:¬9223372036854775807<3+n.size:=by omega
 go_wp2
 exact X_ [.bool true,.string (uY n)] _ results183 rfl (Xz w #[.bool true,.string (uY n)] 173) underlying173 rfl Tryz.kH rfl ⟨rfl,ag _ _⟩
def Fp(Kq:List Qq)(l:List Qz)(n:LK)(e:Ending):Prop:=
 ∃(f:Bool) (t:LK) (ok:Bool),e= .returned (.tuple #[.agg #[.bool f,.string t],.bool ok])/\bP (Q_ Kq) (Qj l) n= (if ok=true then some ⟨f,t⟩ else none)/\(ok=false->∃r,Qj l n=some r/\f=r.fail/\t=r.text)
theorem qY(p:BM G Kq wz w bb a cap rd rn rc mb mx ts d dc f ws)(n:LK)(S:ts.length<=1048576)(T:n.size<=1000)(x:(∃t∈ts,t.r.name=n)\/Q_ Kq n=none):
  Calls prog 166 #[.pointer (some ⟨bb,0,none⟩),.string n] w fun e w'=>Fp Kq (Qk ts) n e/\K_ w w':=by
 have y:K_ w (w.alloc (.cells #[.bool false,.string ⟨#[]⟩] 173)):=ag _ _;go_enter func166,ntmps166
 go_wp2_with fail
 refine (oZ (p.kept y) n S).mono ?_;rintro e w1 ⟨⟨i,A,B,rfl⟩|⟨L,rfl⟩,q⟩
 ·obtain⟨t,b⟩:=aj (ts[i]);have C:=p.fO ts[i] (J_ A);rw[<-b] at C B;have s:=C.rng;have M:w.cell? ⟨t.tb,1,none⟩=some (.bool t.r.over):=s 1 _ rfl;have N:w.cell? ⟨t.tb,2,none⟩=some (.bool t.r.fail):=s 2 _ rfl;have O:w.cell? ⟨t.tb,3,none⟩=some (.string t.r.text):=s 3 _ rfl;have D:=C.row.lt;have E:Hid (∀w',K_ w w'->w'.cell? ⟨t.tb,1,none⟩=some (.bool t.r.over)/\w'.cell? ⟨t.tb,2,none⟩=some (.bool t.r.fail)/\w'.cell? ⟨t.tb,3,none⟩=some (.string t.r.text)):=fun w' K=>⟨(K.cell D).trans M,(K.cell D).trans N,(K.cell D).trans O⟩
  have F:=Kz ((aC.made w #[.bool false,.string ⟨#[]⟩] 173).kept q);have c:=(y.trans q);obtain⟨U,V,W⟩:=E.o _ c;have⟨X,Y⟩:=aH B b;have P:ts[i].ptr= .pointer (some ⟨t.tb,0,none⟩):=by rw[<-b];rfl
  rw[P];clear b B M N O s P;go_upto_region 4 with fail
  refine iF 17 E.o (c.drew) (fun j=>?_);have H:K_ w w1.drew:=c.drew;have k:=Kz (F.o.kept (aL w1));generalize Z:w1.drew=wd at j H k⊢;clear Z U V W;refine au 0 j ?_;refine au 4 j ?_;refine au 8 j ?_;refine au 12 j ?_;obtain⟨⟨_,x0⟩,f0⟩:=k.o.row.at (i:=0) (by decide);obtain⟨⟨_,x1⟩,f1⟩:=k.o.row.at (i:=1) (by decide);have xz:=k.o.lt;refine ah 16 (fun K l=>?_);go_simp
  refine l.out _ _ ?_ ?_
  ·exact fun _=>E.o _ (bQ (g:=w.heap.size) (JP _) [.bool t.r.fail,.string t.r.text] 0 H)
  clear l K;try simp only[upP]
  refine ah 17 (fun K l=>?_);go_simp
  refine ae l (fun h=>Lv rfl h) ?_;clear l K;refine aB ?_;go_wp2_with fail
  have I:=JU wd w.heap.size 0 [.bool t.r.fail,.string t.r.text] (k.o.row.there (o:=0) (m:=2) (JP _));refine bU [.bool t.r.fail,.string t.r.text] _ (.bool t.r.over) results166 rfl I underlying173 rfl Tryz.kH rfl rfl ?_;refine⟨⟨t.r.fail,t.r.text,t.r.over,rfl, ?_⟩,bQ (g:=w.heap.size) (JP _) [.bool t.r.fail,.string t.r.text] 0 H⟩;have Q:=(p.act ts[i] (J_ A)).1;have J:=bI p.asc (Le (J_ A):ts[i].r∈Qk ts);rw[<-Y.o,X.o] at Q J;refine⟨by unfold bP;rw[Q,J],fun _=>⟨t.r,J,rfl,rfl⟩⟩
 ·have F:=Kz ((aC.made w #[.bool false,.string ⟨#[]⟩] 173).kept q);have c:=(y.trans q);have a0:=Kz L;clear L;go_wp2_with fail
  refine (CL w1 n T).mono ?_;rintro e w2 ⟨rfl,R⟩;have v:=Kz (F.o.kept R);obtain⟨⟨_,x0⟩,f0⟩:=v.o.row.at (i:=0) (by decide);obtain⟨⟨_,x1⟩,f1⟩:=v.o.row.at (i:=1) (by decide);have xz:=v.o.lt;go_wp2_with fail
  have I:=JU w2 w.heap.size 0 [.bool true,.string (uY n)] (v.o.row.there (o:=0) (m:=2) (JP _));refine bU [.bool true,.string (uY n)] _ (.bool true) results166 rfl I underlying173 rfl Tryz.kH rfl rfl ?_;refine⟨⟨true,uY n,true,rfl, ?_⟩,bQ (g:=w.heap.size) (JP _) [.bool true,.string (uY n)] 0 (c.trans R)⟩;rcases x with⟨t,b,e⟩|x
  ·exact Lv e (a0.o t b)
  ·exact⟨by unfold bP;rw[x];rfl,fun h=>by cases h⟩
theorem mU(b:BM G Kq wz w bb a cap rd rn rc mb mx ts d dc f ws)(n:LK)(c:ts.length<=1048576)(h:n.size<=1000)(i:(∃t∈ts,t.r.name=n)\/Q_ Kq n=none):
  Calls prog 166 #[.pointer (some ⟨bb,0,none⟩),.string n] w fun e w'=>Dm Kq (Qk ts) n e/\K_ w w':=by
 refine (qY b n c h i).mono ?_;rintro e w' ⟨⟨f,t,j,k,l,_⟩,m⟩;exact⟨⟨f,t,j,k,l⟩,m⟩
end
