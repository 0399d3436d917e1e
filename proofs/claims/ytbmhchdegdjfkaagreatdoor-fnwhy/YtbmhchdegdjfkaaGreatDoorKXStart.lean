import Derived.Test.YtbmhchdegdjfkaaGreatDoorKXPut
import Derived.Test.YtbmhchdegdjfkaaGreatDoorKXWant
import Derived.Test.YtbmhchdegdjfkaaGreatDoorKWCheck5
set_option maxRecDepth 100000
set_option maxHeartbeats 25600000
namespace Go.Proofs.YtbmhchdegdjfkaaGreatDoor
open Go.RowKit Go.Proofs.Tryz
theorem Tryz.bB :(prog.info? 29).map (·.size)=some 2:=by kernel_rfl
variable {w : KH}
theorem aZ.set{P:Nat->Prop}{a:List KI}{l:List Q_}{c p:Nat}(h:aZ w P a l)(e:∀b,P b->b≠c)(u:KI):aZ (w.setCell ⟨c,p,none⟩ u) P a l:=by
 refine⟨h.1,fun i f=>?_⟩;obtain⟨j,k,m,n,q,d⟩:=h.2 i f;refine⟨j,k,m,(fun r s=>?_),q,d⟩;obtain⟨b,o,rfl,t,v⟩:=n r s;exact⟨b,o,rfl,by rw[size_setCell];exact t,by rw[Zj (e b (d _ rfl))];exact v⟩
variable {t : TypeId}
theorem Aj{w':KH}{base size b m n:Nat}{e:TypeId}{v:KI}{d:List KI}(h:w.ownsRow base e size v n d)(k:Xj b (b+1) w w')(f:au w b t m)(i:t≠e):w'.ownsRow base e size v n d:=by
 refine⟨h.1, ?_⟩;rcases h.2 with a|⟨g,j,l,rfl,p,c,rest⟩
 ·exact .inl a
 ·refine .inr ⟨g,j,l,rfl,p, ?_,rest⟩;have q:g≠b:=by
   rintro rfl;obtain⟨r,a,_⟩:=f;rw[c] at a;simp only[JI,Obj.cells.injEq] at a;exact i a.2.1.symm
  rw[k.block g (aN c) (by omega)];exact c
theorem bi{base:Nat}{v:KI}{n:Nat}{l:List KC}(h:w.ownsRow base t 1 v n (l.map Value.string)):∃a b,v= .slice a l.length b/\Strs w a l:=by
 have d:n=l.length:=by have:=h.1;simp at this;omega
 subst d;rcases h.2 with⟨rfl,e⟩|⟨g,b,j,rfl,k,f,m,_,_,_⟩
 ·exact⟨none,0,by rw[e],fun i c=>by omega⟩
 ·refine⟨_,b,rfl,fun i c=>⟨g,0,rfl,aN f, ?_⟩⟩;have:=h.cells (g:=g) rfl i (.string (l.getD i ByteArray.empty)) (by simp[List.getD,c]);rw[JL] at this;exact this
structure StX (W1 wr:KH) (sb:Nat) (ra:KG) (n rc:Nat) (d:KG) (t:List Q_) (dc:Nat) (xs:List KI):Prop where
 kb:Xj sb (sb+1) W1 wr
 row:au wr sb 29 2
 Kj:wr.cell? ⟨sb,0,none⟩=some (.slice ra n rc)
 runs:wr.cell? ⟨sb,1,none⟩=some (.slice d t.length dc)
 own:wr.ownsRow W1.heap.size 40 7 (.slice d t.length dc) t.length xs
 pack:aZ wr (fun b=>sb<b) xs t
def qF(Kj:List KC)(T:List Q_)(w w':KH)(e:Ending):Prop:=
 ∃ra rc d dc xs,e= .returned (.agg #[.slice ra Kj.length rc,.slice d T.length dc])/\w'.ownsRow w.heap.size 9 1 (.slice ra Kj.length rc) Kj.length (Kj.map Value.string)/\w'.ownsRow w.heap.size 40 7 (.slice d T.length dc) T.length xs/\aZ w' (fun b=>w.heap.size<=b) xs T/\K_ w w'
theorem xw :∀(l t:List Q_),cZ t->cZ (l.foldl dz t)
 | [],_,h=>h
 | x :: l,t,h=>xw l (dz t x) (ny h)
theorem uh(w:KH)(S T rc:Nat)(Kj:List KC)(a:KG)(d4:Nat)(R:List Q_)(g3:Kj.length<=10)(g4:R.length<=10000)(d5:∀r∈R,r.texts.length<=1000)(d6:∀k,((R.take k).foldl dz []).length<=10000)(hR:Strs w (some ⟨S,T,none⟩) Kj)(hS:bK w a R):
  Calls prog 86 #[.slice (some ⟨S,T,none⟩) Kj.length rc,.slice a R.length d4] w fun e w'=>qF Kj (R.foldl dz []) w w' e:=by
 obtain⟨is,hi,d7,d8,d9⟩:=aO Tryz.dh;obtain⟨h,U⟩:=ah (w.alloc (.cells #[.slice none 0 0,.slice none 0 0] 29));have a0:K_ w h:=by rw[U];exact ag _ _
 have a1:au h w.heap.size 29 2:=by rw[U];exact au.made w #[.slice none 0 0,.slice none 0 0] 29
 have g5:w.heap.size+1<=h.heap.size:=a1.lt;have a9:=Kz a1;have V:Hid (K_ h (h.alloc (.cells #[] 9))):=ag _ _;have a2:Hid ((h.alloc (.cells #[] 9)).ownsRow h.heap.size 9 1 (.slice (some ⟨h.heap.size,0,none⟩) 0 0) 0 (([]:List KC).map Value.string)):=Jz h #[] 0 (IZ _) (Ja _) rfl;have b0:Hid (∀J u,(Kj.map Value.string)[J]? =some u->(h.alloc (.cells #[] 9)).cell? ((⟨S,T,none⟩:Addr).add J)=some u):=fun J u K=>by
  have hj:J<Kj.length:=by have:=(Je.1 K).1;simpa using this
  obtain⟨b,o,e,s,i⟩:=(hR.kept (a0.trans V.o)) J hj;simp only[JI] at e;rw[e,JL,i];simp[hj] at K;simp[List.getD,hj,K]
 have b1:Hid (∀u∈Kj.map Value.string,u.oneCell'=true):=fun u K=>by obtain⟨g6,_,rfl⟩:=Ju.1 K;rfl
 have b2:h.heap.size<=(h.alloc (.cells #[] 9)).heap.size:=V.o.size;clear a1;go_enter func86,ntmps86
 go_upto_region 1 with fail
 rw[<-U];clear U;go_wp2_with (at_builtin;refine wpList_append_own _ rfl (.tmp 7) (.tmp 8) 26 rfl h.heap.size 9 is _ 1 16 underlying26 hi d7 d8 d9 rfl (by decide) (.slice (some ⟨h.heap.size,0,none⟩) 0 0) 0 [] rfl a2.o ⟨S,T,none⟩ Kj.length rc (Kj.map Value.string) rfl (by simp) b0.o b1.o (by unfold maxLen;omega) (by omega) b2 ?_;intro v6 F X b3 _;have Y:K_ h F:=aF V.o (IZ _) a2.o b3;rw[JA,List.nil_append] at X;obtain⟨l,n,rfl⟩:=ax X;have b4:=Kz X;clear X b3)
 obtain⟨A,L⟩:=ah (F.alloc (.cells #[.slice l Kj.length n,.slice none 0 0] 29));obtain⟨q,C⟩:=ah F.heap.size;have Z:K_ F A:=by rw[L];exact ag _ _
 have a3:Hid (au A q 29 2):=by rw[L,C];exact au.made F #[.slice l Kj.length n,.slice none 0 0] 29
 have b5:A.rangeAt q 0 [.slice l Kj.length n,.slice none 0 0]:=by rw[L,C];exact X_ F #[.slice l Kj.length n,.slice none 0 0] 29
 have e0:=Kz b5;have b6:=Kz (a9.o.kept (Y.trans Z));have e1:=Kz (aj b4.o Z);have K1:K_ w A:=(a0.trans Y).trans Z;have e2:=Y.size;have e3:q+1<=A.heap.size:=a3.o.lt;have g7:w.heap.size<q:=by omega
 rw[<-L,<-C];clear b5 b4 a2 b0 a9 L C b1 b2 V Z Y e2 a0;go_loopw [6] (fun M wr=>∃(k:Nat) (d:KG) (j:Nat) (xs:List KI),k<=R.length/\M= .int .i64 k/\StX A wr q l Kj.length n d ((R.take k).foldl dz []) j xs) (fun M _=>R.length-(intOf M).toNat)
 case atStart=>
  have i:=e0.o;exact⟨0,none,0,[],Ja _,rfl,⟨Xj.refl _ _ _,a3.o,i 0 _ rfl,i 1 _ rfl,JP _ _ _ _,aZ.nil _ _⟩⟩
 case round=>
  obtain⟨k,d,j,xs,hk,rfl,f⟩:=hrel;have a4:=d6 k;by_cases N:k<R.length
  ·have Kr:K_ w wr:=f.kb.kept K1 (by omega);obtain⟨b,o,D,O,rfl,s,i,a5,b7⟩:=hS.kept Kr k N;obtain⟨t,E⟩:=ah ((R.take k).foldl dz []);obtain⟨y,hy⟩:=ah (R.getD k Q_.zero);have e4:Hid ((R.take (k+1)).foldl dz []=dz t y):=by show _=_;rw[Jf N,List.foldl_append,E,hy];simp[List.getD,N]
   have b8:cZ t:=by rw[E];exact xw _ _ List.Pairwise.nil
   have e5:y.texts.length<=1000:=by rw[hy];simp only[List.getD,N,Jd,Kl];exact d5 _ (Ji N)
   rw[<-E] at f a4;rw[<-hy] at i a5;have x:=Kz f;have zr:=f.kb.size;have e6:Hid (lW wr (fun b=>q<b) d t):=by
    obtain⟨_,g8,g9,ev,G⟩:=aZ.runs f.own f.pack (K_.refl _);simp only[JJ,true_and] at ev;rw[ev.1];exact G
   have e7:Hid (∀W,K_ wr W->Calls prog 89 #[.slice d t.length j,.agg #[.string y.name,.bool y.over,.bool y.fail,.string y.text,.int .i64 y.at',.int .i64 y.Zq,.slice D y.texts.length O]] W fun e w'=>∃v,e= .returned v/\ER W w' (fun b=>q<b) v (dz t y)/\K_ W w'):=fun W hW=>zL W d j t y D O (by omega) e5 b8 (fun b=>q<b) (fun b s=>by have:=hW.size;omega) (e6.o.kept hW) (a5.kept hW) b7
   have c0:wr.cell? ⟨b,o+k*7+0,none⟩=some (.string y.name):=i 0 _ rfl;have b9:wr.cell? ⟨b,o+k*7+1,none⟩=some (.bool y.over):=i 1 _ rfl;have c1:wr.cell? ⟨b,o+k*7+2,none⟩=some (.bool y.fail):=i 2 _ rfl;have c2:wr.cell? ⟨b,o+k*7+3,none⟩=some (.string y.text):=i 3 _ rfl;have c3:wr.cell? ⟨b,o+k*7+4,none⟩=some (.int .i64 y.at'):=i 4 _ rfl;have c5:wr.cell? ⟨b,o+k*7+5,none⟩=some (.int .i64 y.Zq):=i 5 _ rfl;have c4:wr.cell? ⟨b,o+k*7+6,none⟩=some (.slice D y.texts.length O):=i 6 _ rfl;rw[JM] at c0;have m1:=f.runs;have C:=f.row.lt;clear i hy E b8 f a5 b7;have h0:(k:Int)<(R.length:Int):=by omega
   have c6:Hid (∀w',K_ wr w'->(fun w'=>w'.cell? ⟨q,1,none⟩=some (.slice d t.length j)/\w'.cell? ⟨b,o+k*7,none⟩=some (.string y.name)/\w'.cell? ⟨b,o+k*7+1,none⟩=some (.bool y.over)/\w'.cell? ⟨b,o+k*7+2,none⟩=some (.bool y.fail)/\w'.cell? ⟨b,o+k*7+3,none⟩=some (.string y.text)/\w'.cell? ⟨b,o+k*7+4,none⟩=some (.int .i64 y.at')/\w'.cell? ⟨b,o+k*7+5,none⟩=some (.int .i64 y.Zq)/\w'.cell? ⟨b,o+k*7+6,none⟩=some (.slice D y.texts.length O)) w'):=fun w' B=>⟨(B.cell C).trans m1,(B.cell s).trans c0,(B.cell s).trans b9,(B.cell s).trans c1,(B.cell s).trans c2,(B.cell s).trans c3,(B.cell s).trans c5,(B.cell s).trans c4⟩
   go_wp2
   refine Qk.region (by kernel_rfl) (fun w'=>w'.cell? ⟨q,1,none⟩=some (.slice d t.length j)/\w'.cell? ⟨b,o+k*7,none⟩=some (.string y.name)/\w'.cell? ⟨b,o+k*7+1,none⟩=some (.bool y.over)/\w'.cell? ⟨b,o+k*7+2,none⟩=some (.bool y.fail)/\w'.cell? ⟨b,o+k*7+3,none⟩=some (.string y.text)/\w'.cell? ⟨b,o+k*7+4,none⟩=some (.int .i64 y.at')/\w'.cell? ⟨b,o+k*7+5,none⟩=some (.int .i64 y.Zq)/\w'.cell? ⟨b,o+k*7+6,none⟩=some (.slice D y.texts.length O)) 8 ⟨m1,c0,b9,c1,c2,c3,c5,c4⟩ (fun H=>?_);refine aB 0 H ?_;refine ae 4 H ?_;refine ae 5 H ?_;refine ai 6 (fun a6 P=>?_);go_simp
   go_at_call 89
   refine (e7.o _ (by repeat (first | (with_reducible exact K_.refl _) | (with_reducible assumption) | apply K_.drew))).mono ?_;rintro e w2 ⟨v2,rfl,e8,e9⟩;have I:K_ wr w2:=K_.trans (by repeat (first | (with_reducible exact K_.refl _) | (with_reducible assumption) | apply K_.drew)) e9;have z2:=I.size;obtain⟨wy,f0,c7,c8,a7,c9⟩:=e8;have zy:=c7.size;have d0:A.heap.size<=wy.heap.size:=Nat.le_trans zr (Nat.le_trans (Nat.le_of_eq (by rfl)) zy);have d1:=bJ (base':=A.heap.size) a7 d0;obtain⟨f1,f2,rfl⟩:=ax a7;have f3:=Kz d1;have f4:=Kz (c9.kept c8);have a8:=x.o.row.kept I;obtain⟨⟨_,h1⟩,h2⟩:=a8.row.at (i:=1) (by omega);have d2:=Kz a8;clear d1 a7 c9 a8 c7 c8 zy d0;dsimp only;refine P.out _ _ (fun _=>c6.o w2 I) ?_;clear P a6 H;have H:=c6.o w2 I;try simp only[Act.put,upA,upB,upC]
   refine ae 7 H ?_;refine af 8 (fun a6 P=>?_);go_simp
   refine P.out _ _ (fun G=>Ki rfl G) ?_;clear P a6;try simp only[Act.put,upA,upB,upC]
   refine ay ?_;go_wp2
   go_roundw
   case rel=>exact⟨k+1,f1,f2,f0,by omega,by go_num,by rw[e4.o];exact⟨(x.o.kb.trans (Xj.aC I)).setCell (IZ _) (Jw _) _,d2.o.set _,by rw[Xk (by omega),I.cell x.o.row.lt];exact x.o.Kj,aS d2.o.row (by omega) _,aR (p:=⟨q,1,none⟩) f3.o e3 _,f4.o.set (fun b G=>by omega) _⟩⟩
   case measure=>simp[intOf];omega
  ·have f5:k=R.length:=by omega
   subst f5;rw[JB] at f a4;obtain⟨t,E⟩:=ah (R.foldl dz []);rw[<-E] at f a4;have m0:=f.Kj;have m1:=f.runs;have Q:=b6.o.block (f.kb.block _ b6.o.lt (by omega));obtain⟨⟨_,t0⟩,h3⟩:=Q.row.at (i:=0) (by omega);obtain⟨⟨_,t1⟩,h4⟩:=Q.row.at (i:=1) (by omega);have⟨f6,x⟩:=aD Q f;have C:=f.row.lt;have h5:=Q.lt;clear Q f;go_wp2
   have f7:=Jc wr w.heap.size 0 [.slice l Kj.length n,.slice d t.length j] (f6.o.row.there (o:=0) (m:=2) (IZ _));have hO:=aR (aR x.o.own (p:=⟨w.heap.size,0,none⟩) (by show w.heap.size<_;omega) (.slice l Kj.length n)) (p:=⟨w.heap.size,1,none⟩) (by show w.heap.size<_;omega) (.slice d t.length j);have f8:=Aj e1.o x.o.kb a3.o (by decide);have f9:=aR (aR f8 (p:=⟨w.heap.size,0,none⟩) (by show w.heap.size<_;omega) (.slice l Kj.length n)) (p:=⟨w.heap.size,1,none⟩) (by show w.heap.size<_;omega) (.slice d t.length j);have d3:=(x.o.pack.set (c:=w.heap.size) (p:=0) (fun b G=>by omega) (.slice l Kj.length n)).set (c:=w.heap.size) (p:=1) (fun b G=>by omega) (.slice d t.length j);subst E;refine Zx [.slice l Kj.length n,.slice d (R.foldl dz []).length j] _ results86 rfl f7 underlying29 rfl Tryz.bB rfl ⟨l,n,d,j,xs,rfl,bJ f9 (by omega),bJ hO (by omega),⟨d3.1,fun M hi=>by obtain⟨D,xc,e,g0,g1,g2⟩:=d3.2 M hi;exact⟨D,xc,e,g0,g1,fun ad e=>by have:=g2 ad e;omega⟩⟩, ?_⟩;exact ((x.o.kb.kept K1 (by omega)).setCell (IZ _) _).setCell (IZ _) _
theorem oV{a:KH}{x:KI}(K:K_ (w.alloc (.cells #[x] t)) a):a.cell? ⟨w.heap.size,0,none⟩=some x:=
 (K.cell (by simp)).trans (X_ w #[x] t 0 _ rfl)
theorem wh{X w':KH}{c:Array KI}(k:K_ (X.alloc (.cells c t)) w'):au w' X.heap.size t c.size:=(au.made X c t).kept k
theorem uR{α:Type}(p q:α->Bool)(h:∀x,¬(p x=true/\q x=true)):∀l:List α,(l.filter p).length+ (l.filter q).length<=l.length
 | []=>IZ _
 | x :: l=>by
  have f:=uR p q h l;have e:=h x;simp only[List.filter_cons];by_cases b:p x=true
  ·have a:¬q x=true:=fun a=>e ⟨b,a⟩
   rw[Kg b,Kh a,JK,JK];omega
  ·rw[Kh b];by_cases a:q x=true
   ·rw[Kg a,JK,JK];omega
   ·rw[Kh a,JK];omega
theorem sN(l:List Q_)(r:Q_):(dz l r).length<=l.length+1:=by
 unfold dz;rw[JH,JK];have:=uR (fun x:Q_=>Op.bytesLess x.name.toList r.name.toList) (fun x:Q_=>Op.bytesLess r.name.toList x.name.toList) (fun x h=>iR h.1 h.2) l;omega
theorem wu :∀(l t:List Q_),(l.foldl dz t).length<=t.length+l.length
 | [],_=>IZ _
 | x :: l,t=>by
  have a:=wu l (dz t x);have b:=sN t x;show (l.foldl dz (dz t x)).length<=_;rw[JK];omega
theorem nH(R:List Q_)(k:Nat):((R.take k).foldl dz []).length<=R.length:=by
 have b:=wu (R.take k) [];have c:(R.take k).length<=R.length:=by rw[Jt];omega
 simp only[List.length_nil] at b;omega
theorem qO(W:dQ):∀(bs:List KC) (l:List Q_) (x:Q_),x∈fB W l bs->x∈l\/∃n,x=Q_.fresh n
 | [],_,_,h=>.inl h
 | a :: bs,l,x,h=>by
  rcases qO W bs _ x h with b|b
  ·by_cases d:(W a).isSome=true/\(Qq l a).isNone=true
   ·rw[Kg d] at b;rcases Jh.1 b with c|c
    ·exact .inl c
    ·rw[Jg] at c;exact .inr ⟨a,c⟩
   ·rw[Kh d] at b;exact .inl b
  ·exact .inr b
theorem qh{P Q:Nat->Prop}{a:List KI}{l:List Q_}(h:aZ w P a l)(c:∀b,P b->Q b):aZ w Q a l:=
 ⟨h.1,fun i d=>by obtain⟨f,j,e,k,m,n⟩:=h.2 i d;exact⟨f,j,e,k,m,fun p e=>c _ (n p e)⟩⟩
theorem tL(w:KH)(a:KG)(c:Nat)(b:List Qz)(k l v:Nat)(Kj:List KC)(hl:b.length<=1048576)(hf:∀s∈b,s.Fits)(hw:bu b 0)(B:fV Kj)(a7:∀s∈Kj,s.size<=maxLen)(L:bY w a b)(C:Strs w (some ⟨k,l,none⟩) Kj):
  Calls prog 48 #[.agg #[.slice a b.length c],.slice (some ⟨k,l,none⟩) Kj.length v] w fun e w'=>qF Kj (b_ b Kj) w w' e:=by
 have a8:b.length<=maxLen:=by unfold maxLen;omega
 have a9:Kj.length<=maxLen:=by have:=B.1;have:=B.2.1;unfold maxLen;omega
 go_enter func48,ntmps48
 go_wp2_with fail
 refine (gy _ a c b a8 hf (L.kept (by repeat (first | apply K_.alloc | exact K_.refl _)))).mono ?_;rintro e w1 ⟨⟨b0,rfl,M⟩,n⟩;have D:K_ w w1:=K_.trans (by repeat (first | apply K_.alloc | exact K_.refl _)) n;have z1:=n.size;simp only[JG] at z1;have N:=oV (w:=w) (K_.trans (ag _ _) n);have E:=wh n;simp only[JG] at E;have x:Hid (au w1 (w.heap.size+1) 29 2):=E;obtain⟨⟨_,x0⟩,g0⟩:=x.o.row.at (i:=0) (by omega);obtain⟨⟨_,x1⟩,g1⟩:=x.o.row.at (i:=1) (by omega);have b1:b0=0:=M.unique hw;clear E M n;have b2:w.heap.size<w1.heap.size:=by omega
 have c4:w.heap.size+1<w1.heap.size:=by omega
 subst b1;go_wp2_with fail
 refine (kX _ (some ⟨k,l,none⟩) v Kj a9 a7 (C.kept D)).mono ?_;rintro e w2 ⟨O,q⟩;have q2:=(q.cell (o:=0) b2).trans N;have y:=Kz (x.o.kept q);have F:=D.trans q;have z2:=q.size;obtain⟨⟨_,y0⟩,e0⟩:=y.o.row.at (i:=0) (by omega);obtain⟨⟨_,y1⟩,e1⟩:=y.o.row.at (i:=1) (by omega);clear N x0 x1 g0 g1 x D q;rcases O.cases with⟨rfl,P⟩|⟨rfl,b3⟩
 ·have G:=Kz P;clear P O;have c5:w.heap.size<w2.heap.size:=by omega
  have b4:Hid (KnX w2 (w2.alloc (.cells #[.slice a b.length c,.slice none 0 0] 140)) w2.heap.size a b.length c [] none 0 []):=⟨ag _ _,⟨au.made w2 _ _,X_ w2 #[.slice a b.length c,.slice none 0 0] 140 0 _ rfl,X_ w2 #[.slice a b.length c,.slice none 0 0] 140 1 _ rfl⟩,JP _ _ _ _,aZ.nil _ _⟩;go_wp2_with fail
  refine (wY w2 _ w2.heap.size (IZ _) a c b (some ⟨k,l,none⟩) v Kj [] none 0 [] hl (by have:=G.o.2.1;omega) (by simp) b4.o (L.kept F) (C.kept F)).mono ?_;rintro e w3 ⟨rfl,b5,dc,xs,r⟩;have H:K_ w2 w3:=r.kw;have Q:=F.trans H;have z3:=H.size;have S:=r.known.runs;have c6:=r.known.row.lt;have U:=Kz r.runs;have V:=Kz (y.o.kept H);obtain⟨R,t⟩:=ah (fB (Kk b) [] Kj);have c7:R.length<=10:=by have:=nU (Kk b) Kj [];have:=G.o.2.1;rw[t];simp at *;omega
  have W:∀X∈R,X.texts.length<=1000:=fun X Y=>by
   rw[t] at Y;rcases qO _ _ _ _ Y with A|⟨c8,rfl⟩
   ·cases A
   ·exact Ja _
  have Z:Hid (R.foldl dz []=b_ b Kj):=by show _=_;rw[t];rfl
  rw[<-t] at U S;have b6:=Kz W;clear r y0 y1 e0 e1 y q2 t W;go_wp2_with fail
  refine (uh _ k l v Kj b5 dc R (by have:=G.o.2.1;omega) (by omega) b6.o (fun b7=>by have:=nH R b7;omega) (C.kept Q) U.o).mono ?_;rintro e w4 a0;rw[Z.o] at a0;obtain⟨d,f,h,j,b8,rfl,a1,a2,a3,I⟩:=a0;have K4:=Q.trans I;have J:=Kz (V.o.kept I);have z4:=I.size;obtain⟨⟨_,t0⟩,f0⟩:=J.o.row.at (i:=0) (by omega);obtain⟨⟨_,t1⟩,f1⟩:=J.o.row.at (i:=1) (by omega);have⟨b9,a4,a5⟩:=eB a1 a2 a3;obtain⟨T,K⟩:=ah (b_ b Kj);rw[<-K] at a4 a5⊢;have c0:=Kz K;clear a1 a2 a3 V S K Z;go_wp2
  have c1:=Jc w4 (w.heap.size+1) 0 [.slice d Kj.length f,.slice h T.length j] (J.o.row.there (o:=0) (m:=2) (IZ _));have hO:=aR (aR a4.o (p:=⟨w.heap.size+1,0,none⟩) (by simp;omega) (.slice d Kj.length f)) (p:=⟨w.heap.size+1,1,none⟩) (by simp;omega) (.slice h T.length j);have c2:=aR (aR b9.o (p:=⟨w.heap.size+1,0,none⟩) (by simp;omega) (.slice d Kj.length f)) (p:=⟨w.heap.size+1,1,none⟩) (by simp;omega) (.slice h T.length j);have c3:=(a5.o.set (c:=w.heap.size+1) (p:=0) (fun a6 A=>by omega) (.slice d Kj.length f)).set (c:=w.heap.size+1) (p:=1) (fun a6 A=>by omega) (.slice h T.length j);obtain rfl:=c0.o;exact Zx [.slice d Kj.length f,.slice h (b_ b Kj).length j] _ results48 rfl c1 underlying29 rfl Tryz.bB rfl ⟨d,f,h,j,b8,rfl,bJ c2 (by omega),bJ hO (by omega),qh c3 (fun a6 A=>by omega),(K4.setCell (by simp) _).setCell (by simp) _⟩
 ·exact Ki B b3
