import Derived.Test.YtlfofiaagibapaaGreatDoorKBEnd
set_option maxRecDepth 100000
set_option maxHeartbeats 25600000
namespace Go.Proofs.YtlfofiaagibapaaGreatDoor
open Go.RowKit Go.Proofs.Tryz
def NoS(w:NN)(g:Nat):Prop:=∀o s,w.cell? ⟨g,o,none⟩≠some (.string s)
theorem JK{w:NN}{g:Nat}{t:TypeId}{x y:NP}(b:ay w g t 2)(c:w.cell? ⟨g,0,none⟩=some x)(d:w.cell? ⟨g,1,none⟩=some y)(f:∀s,x≠ .string s)(h:∀s,y≠ .string s):NoS w g:=by
 intro o s e;let⟨i,j,k⟩:=b;have a:w.cell? ⟨g,o,none⟩=i[o]? :=by simp[World.cell?,j]
 match o,e,a with
 |0,e,_=>exact f s (by rw[c] at e;exact Nl e)
 |1,e,_=>exact h s (by rw[d] at e;exact Nl e)
 |o+2,e,a=>rw[a,Array.getElem?_eq_none E5] at e;cases e
section
variable {w w':NN}{g:Nat}
theorem Strs.noS{a:NM}{l:List NL}(h:Strs w a l)(f:NoS w g)(k:Xj g (g+1) w w'):Strs w' a l:=by
 intro i j;let⟨b,o,e,c,d⟩:=h i j;have m:b≠g:=λe=>f _ _ (by rw[<-e];exact d)
 exact⟨b,o,e,Mk c k.size,by rw[k.cell c E5];exact d⟩
theorem bN.noS{a:NM}{l:List Q_}(h:bN w a l)(c:NoS w g)(k:Xj g (g+1) w w'):bN w' a l:=by
 intro i j;let⟨b,o,m,n,e,d,f,p,q⟩:=h i j;have t:b≠g:=λe=>c _ _ (by rw[<-e];exact f 0 _ rfl)
 exact⟨b,o,m,n,e,Mk d k.size,λr u s=>by rw[k.cell d E5];exact f r u s,p.noS c k,q⟩
end
variable {w:NN}
theorem Ez{lo hi:Nat}{a:NM}{l:List NL}(h:cB w lo hi a l):a=none->l.length=0:=λe=>by
 rcases h with rfl|⟨c,b,_⟩
 .rfl
 .rw[e] at b;cases b
theorem Da(w:NN)(r:Q_)(xa:NM)(xc:Nat)(R:r.name.size<=1048576)(S:r.text.size<=1048576)(T:r.texts.length<=1048576)(U:∀s∈r.texts,s.size<=1048576)(V:Strs w xa r.texts):Calls prog 105 #[.agg #[.string r.name,.bool r.over,.bool r.fail,.string r.text,.a r.at',.a r.Zq,.slice xa r.texts.length xc]] w λe w'=>∃x,e=.returned (.agg (r.cells x r.texts.length).toArray)/\cB w' w.heap.size w'.heap.size x r.texts/\K_ w w':=by
 go_enter func105,ntmps105
 go_wp2_with fail
 refine (mU _ r.name R).mono ?_;rintro e j ⟨rfl,k⟩;have D:K_ w j:=K_.trans ((ah _ _).alloc _) k;have W:=k.size;simp only[MZ] at W;have E:=ay.kept (ay.made w #[.string r.name,.bool r.over,.bool r.fail,.string r.text,.a r.at',.a r.Zq,.slice xa r.texts.length xc] 48) (K_.trans (ah _ _) k);have h:j.rangeAt w.heap.size 0 [.string r.name,.bool r.over,.bool r.fail,.string r.text,.a r.at',.a r.Zq,.slice xa r.texts.length xc]:=λX Y Z=>by
  rw[(K_.trans (ah _ _) k:K_ (w.alloc (.cells #[.string r.name,.bool r.over,.bool r.fail,.string r.text,.a r.at',.a r.Zq,.slice xa r.texts.length xc] 48)) j).cell E9];exact X_ w #[.string r.name,.bool r.over,.bool r.fail,.string r.text,.a r.at',.a r.Zq,.slice xa r.texts.length xc] 48 X Y Z
 have F:ay j (w.heap.size+1) 48 7:=by
  have G:=ay.kept (ay.made (w.alloc (.cells #[.string r.name,.bool r.over,.bool r.fail,.string r.text,.a r.at',.a r.Zq,.slice xa r.texts.length xc] 48)) #[.string ⟨#[]⟩,.bool false,.bool false,.string ⟨#[]⟩,.a 0,.a 0,M3] 48) k;rw[MZ] at G;exact G
 have l:Hid (ay j w.heap.size 48 7):=E;have H:Hid (ay j (w.heap.size+1) 48 7):=F;have p:=h 1 _ rfl;have q:=h 2 _ rfl;have I:=h 3 _ rfl;have t:=h 4 _ rfl;have v:=h 5 _ rfl;have y:=h 6 _ rfl;simp only[MR] at p q I t v y;let⟨⟨_,x0⟩,g0⟩:=l.o.row.at (i:=0) E5;clear E h F k;go_wp2_with fail
 refine (mU _ r.text S).mono ?_;rintro e f ⟨rfl,b⟩;have z:=(l.o.set (o:=0) (.string r.name)).kept b;have a:=(l.o.set (o:=0) (.string r.name)).lt;have J:f.cell? ⟨w.heap.size,0,none⟩=some (.string r.name):=by rw[b.cell a];exact aR l.o.row E5 _
 have K:f.cell? ⟨w.heap.size,1,none⟩=some (.bool r.over):=by rw[b.cell a,Xk E5];exact p
 have L:f.cell? ⟨w.heap.size,2,none⟩=some (.bool r.fail):=by rw[b.cell a,Xk E5];exact q
 have M:f.cell? ⟨w.heap.size,4,none⟩=some (.a r.at'):=by rw[b.cell a,Xk E5];exact t
 have N:f.cell? ⟨w.heap.size,5,none⟩=some (.a r.Zq):=by rw[b.cell a,Xk E5];exact v
 have q6:f.cell? ⟨w.heap.size,6,none⟩=some (.slice xa r.texts.length xc):=by rw[b.cell a,Xk E5];exact y
 have O:ay f (w.heap.size+1) 48 7:=(H.o.block (Below.heap_setCell _ _ _ _ E9)).kept b;have A:K_ w f:=K_.trans (D.setCell (Mj _) _) b;have z2:=b.size;rw[size_setCell] at z2;have⟨n,P⟩:=aH z O;let⟨⟨_,x3⟩,g3⟩:=z.row.at (i:=3) E5;clear p q I t v y x0 g0 z O a l H D b;go_wp2_with fail
 refine (lN _ xa xc r.texts T U (V.kept (A.setCell (Mj _) _))).mono ?_;rintro e d ⟨x,rfl,B,c⟩;have a:=(n.o.set (o:=3) (.string r.text)).lt;have p0:d.cell? ⟨w.heap.size,0,none⟩=some (.string r.name):=by rw[c.cell a,Xk E5];exact J
 have p1:d.cell? ⟨w.heap.size,1,none⟩=some (.bool r.over):=by rw[c.cell a,Xk E5];exact K
 have p2:d.cell? ⟨w.heap.size,2,none⟩=some (.bool r.fail):=by rw[c.cell a,Xk E5];exact L
 have p3:d.cell? ⟨w.heap.size,3,none⟩=some (.string r.text):=by rw[c.cell a];exact aR n.o.row E5 _
 have p4:d.cell? ⟨w.heap.size,4,none⟩=some (.a r.at'):=by rw[c.cell a,Xk E5];exact M
 have p5:d.cell? ⟨w.heap.size,5,none⟩=some (.a r.Zq):=by rw[c.cell a,Xk E5];exact N
 have Q:=(n.o.set (o:=3) (.string r.text)).kept c;have C:ay d (w.heap.size+1) 48 7:=(P.o.block (Below.heap_setCell _ _ _ _ E9)).kept c;have K3:K_ w d:=K_.trans (A.setCell (Mj _) _) c;have z3:=c.size;rw[size_setCell] at z3 B;have⟨a8,HX⟩:=aH C B;let⟨⟨_,x6⟩,g6⟩:=Q.row.at (i:=6) E5;let⟨⟨⟨_,b0⟩,f0⟩,⟨⟨_,b1⟩,f1⟩,⟨⟨_,b2⟩,f2⟩,⟨⟨_,b3⟩,f3⟩,⟨⟨_,b4⟩,f4⟩,⟨⟨_,b5⟩,f5⟩,⟨_,b6⟩,f6⟩:=C.row.ED;clear J K L M N q6 x3 g3 Q C a n P A c B;go_wp2
 have hX:Row (d.setCell ⟨w.heap.size,6,none⟩ (.slice x r.texts.length r.texts.length)) (w.heap.size+1) 7:=(a8.o.block (Below.heap_setCell _ _ _ _ E9)).row;have hR:=Mo _ (w.heap.size+1) 0 (r.cells x r.texts.length) (hX.there (o:=0) (m:=7) (Mj _));refine Zx (r.cells x r.texts.length) _ results105 rfl hR underlying48 rfl Tryz.De rfl ⟨x,rfl,cB.mono (lo:=f.heap.size) (hi:=d.heap.size) ?_ E5 E9,?_⟩
 .repeat (first|(refine cB.setCell ?_ F8 _)|exact HX.o)
 .repeat (first|(refine K_.setCell ?_ F8 _)|exact K3)
theorem AQ(w:NN)(a:NM)(cap:Nat)(l:List Q_)(hl:l.length<=1048576)(r:∀s∈l,s.name.size<=1048576/\s.text.size<=1048576/\s.texts.length<=1048576/\∀t∈s.texts,t.size<=1048576)(W:bN w a l):Calls prog 104 #[.slice a l.length cap,.func (.func 105) #[] #[]] w λe w'=>∃a',e=.returned (.slice a' l.length l.length)/\gM w' w.heap.size w'.heap.size a' l/\K_ w w':=by
 by_cases F:l.length=0
 .have X:l=[]:=NE F;subst X;go_enter func104,ntmps104
  go_wp2
  go_ret
  exact⟨none,rfl,.inl rfl,K_.refl _⟩
 .have Y:=qP (P:=prog) 41 48 _ _ _ underlying41 Tryz.Dc .i64 .i64 l.length E5 E5;have Z:((l.length:Int) == 0)=false:=by simpa using F
  go_enter func104,ntmps104
  go_wp2
  clear Y Z;have C:=Row.made w (madeCells #[.string ⟨#[]⟩,.bool false,.bool false,.string ⟨#[]⟩,.a 0,.a 0,M3] (l.length*7)) 48;rw[size_madeCells] at C;have G:K_ w (w.alloc (.cells (madeCells #[.string ⟨#[]⟩,.bool false,.bool false,.string ⟨#[]⟩,.a 0,.a 0,M3] (l.length*7)) 48)):=ah _ _;go_loopw [16] (λi wr=>∃k:Nat,k<=l.length/\i=.a k/\K_ w wr/\Row wr w.heap.size (l.length*7)/\∃c:Nat->Nat,w.heap.size<c 0/\c k<=wr.heap.size/\(∀i j,i<=j->c i<=c j)/\∀j,j<k->jH wr w.heap.size j (c j) (c (j+1)) (l.getD j Q_.zero)) (λi _=>l.length-(intOf i).toNat)
  case atStart=>exact⟨0,Ml _,rfl,G,C,λ_=>w.heap.size+1,MO _,E9,λ_ _ _=>Mj _,λj v=>aO v⟩
  case round=>
   obtain⟨k,hk,rfl,x,n,c,y,H,h,D⟩:=hrel;have I:=Kz h;clear h;clear C G;by_cases J:k<l.length
   .obtain⟨b,o,a0,cx,rfl,hb,d,K,_⟩:=W.kept x k J;have L:=r (l.getD k Q_.zero) (by simp[List.getD,J]);have M:=Kz D;clear D;generalize r:l.getD k Q_.zero=s at *;have a1:=Kz r;clear r;have N:=d 0 _ rfl;have c1:=d 1 _ rfl;have c2:=d 2 _ rfl;have c3:=d 3 _ rfl;have c4:=d 4 _ rfl;have c5:=d 5 _ rfl;have c6:=d 6 _ rfl;simp only[Ng] at N;have z:=Kz L;clear d L;go_wp2_with fail
    refine (Da _ s a0 cx z.o.1 z.o.2.1 z.o.2.2.1 z.o.2.2.2 (K.kept (by repeat (first|(refine K_.setCell ?_ E9 _)|apply K_.alloc|exact K_.refl _)))).mono ?_;rintro e f ⟨O,rfl,Q,R⟩;have p:K_ wr f:=K_.trans (by repeat (first|(refine K_.setCell ?_ E9 _)|apply K_.alloc|exact K_.refl _)) R;have a9:=p.size;have S:cB f wr.heap.size f.heap.size O s.texts:=Q.mono E9 (Mj _);have b0:=n.lt;have a2:=x.trans p;have E:=n.kept p;generalize A:s.cells O s.texts.length=q;have B:q.length=7:=by rw[<-A];rfl
    have a3:q.toArray.all (·.oneCell')=true:=by rw[<-A,List.all_toArray,List.all_eq_true];exact Q_.one s _ _
    have T:f.there w.heap.size (k*7) q.toArray.size:=by simpa[B] using E.there (o:=k*7) (m:=7) E5
    have U:(prog.info? 48).map (·.size)=some q.toArray.size:=by rw[Tryz.De];simp[B]
    have⟨a4,a5,a6⟩:=di A B U;clear A B U;have HR:Hid (Row f w.heap.size (l.length*7)):=E;have V:=Kz S;have a7:Hid (∀j,j<k->jH f w.heap.size j (c j) (c (j+1)) (l.getD j Q_.zero)):=λj v=>(M.o j v).kept p n.lt
    clear M N c1 c2 c3 c4 c5 c6 x p n E K R Q S;go_wp2_with (refine wpList_store_mid rfl 48 _ _ rfl w.heap.size (k*7) q.toArray rfl rfl T (bg a6) a3 ?_)
    go_roundw
    case rel=>
     have h:=I.o;refine⟨k+1,E5,F3,K_.setCells (Mj _) _ _ a2,Row.setCells _ _ HR.o,cutAt c k f.heap.size,by rw[kR (Ml _)];exact y,by rw[pV E5,size_setCells];exact Mj _,Dj h E5,λj v=>?_⟩;by_cases e:j=k
     .subst e;rw[bg a1,kR (Mj _),pV E5];have a8:w.heap.size<c j:=Mk y (h 0 j (Ml _));exact⟨_,_,by rw[a4.o];exact Mo _ _ _ _ (by simpa using T),(V.o.mono H (Mj _)).same (Same.setCells (.inl a8) _ _ _),Ez V.o⟩
     .rw[kR E5,kR E5];exact (a7.o j E5).setCells (Mk y (h 0 j (Ml _))) (by rw[a5.o];omega)
    case measure=>simp[intOf];omega
   .go_wp2
    go_ret
    have:k=l.length:=E5;subst this;exact⟨_,rfl,.inr ⟨w.heap.size,c,rfl,Mj _,y,H,n,I.o,D⟩,x⟩
structure mG where
 code:Int
 res:List dS
 chain:List NL
 eG:Int
 cost:Int
theorem mP{w1:NN}{v0 v1 v2 v3 v4:NP}{t:TypeId}(k:K_ (w.alloc (.cells #[v0,v1,v2,v3,v4] t)) w1):w1.cell? ⟨w.heap.size,0,none⟩=some v0/\w1.cell? ⟨w.heap.size,1,none⟩=some v1/\w1.cell? ⟨w.heap.size,2,none⟩=some v2/\w1.cell? ⟨w.heap.size,3,none⟩=some v3/\w1.cell? ⟨w.heap.size,4,none⟩=some v4:=by
 have h:=X_ w #[v0,v1,v2,v3,v4] t;have z:w.heap.size<(w.alloc (.cells #[v0,v1,v2,v3,v4] t)).heap.size:=E9;exact⟨(k.cell z).trans (h 0 _ rfl),(k.cell z).trans (h 1 _ rfl),(k.cell z).trans (h 2 _ rfl),(k.cell z).trans (h 3 _ rfl),(k.cell z).trans (h 4 _ rfl)⟩
theorem Bg(w:NN)(a q f j:NM)(cap I e0 r:Nat)(o:mG)(Y:o.res.length<=1048576)(Q:o.chain.length<=1048576)(R:mJ w a o.res)(S:mJ w q o.res)(T:Strs w f o.chain)(U:Strs w j o.chain):Calls prog 18 #[.agg #[.a o.code,.slice a o.res.length cap,.slice f o.chain.length e0,.a o.eG,.a o.cost],.agg #[.a o.code,.slice q o.res.length I,.slice j o.chain.length r,.a o.eG,.a o.cost]] w λe w'=>e=.returned (.bool true)/\K_ w w':=by
 let⟨l,c,d,m,cost⟩:=o;dsimp only at *;let⟨n,s⟩:=aj ((w.alloc (.cells #[.a l,.slice a c.length cap,.slice f d.length e0,.a m,.a cost] 39)).alloc (.cells #[.a l,.slice q c.length I,.slice j d.length r,.a m,.a cost] 39));have p:K_ w n:=by rw[s];exact (ah _ _).alloc _
 have J:Hid (∀u,K_ n u->(M4 u w.heap.size 0 (.a l)/\M4 u w.heap.size 1 (.slice a c.length cap)/\M4 u w.heap.size 2 (.slice f d.length e0)/\M4 u w.heap.size 3 (.a m)/\M4 u w.heap.size 4 (.a cost))/\(M4 u (w.heap.size+1) 0 (.a l)/\M4 u (w.heap.size+1) 1 (.slice q c.length I)/\M4 u (w.heap.size+1) 2 (.slice j d.length r)/\M4 u (w.heap.size+1) 3 (.a m)/\M4 u (w.heap.size+1) 4 (.a cost))/\w.heap.size<u.heap.size/\w.heap.size+1<u.heap.size):=λu k=>by
  have N:=k.size;rw[s] at k N;simp only[MZ] at N;refine⟨mP (w:=w) (t:=39) (K_.trans (ah _ _) k),?_,E5,E5⟩;have O:=mP (w:=w.alloc (.cells #[.a l,.slice a c.length cap,.slice f d.length e0,.a m,.a cost] 39)) (t:=39) k;rw[MZ] at O;exact O
 go_enter func18,ntmps18
 go_upto_region 1 with fail
 rw[<-s];clear s;let⟨⟨v,x,y,z,A⟩,⟨B,C,D,E,F⟩,G,H⟩:=J.o _ (K_.refl n);go_wp2_with fail
 refine (nU n f j e0 r d Q (T.kept p) (U.kept p)).mono ?_;rintro e Z ⟨rfl,L⟩;clear v x y z A B C D E F G H;let⟨⟨v,x,y,z,A⟩,⟨B,C,D,E,F⟩,G,H⟩:=J.o _ L;go_wp2
 clear v x y z A B C D E F G H;go_loopw [5] (λM wr=>∃k:Nat,k<=c.length/\M=.a (k:Int)/\K_ n wr) (λM _=>c.length-(intOf M).toNat)
 case atStart=>exact⟨0,Ml _,rfl,L⟩
 case round=>
  clear L;obtain⟨k,a0,rfl,K⟩:=hrel;let⟨⟨v,x,y,z,A⟩,⟨B,C,D,E,F⟩,G,H⟩:=J.o _ K;by_cases P:k<c.length
  .have V:(k:Int)<(c.length:Int):=E5;obtain⟨b,o,rfl,hb,h⟩:=(R.kept (p.trans K)) k P;obtain⟨b',o',rfl,a1,i⟩:=(S.kept (p.trans K)) k P;generalize c.getD k dS.zero=a2 at h i;have W:=h 0 _ rfl;have c1:=h 1 _ rfl;have c2:=h 2 _ rfl;have c3:=h 3 _ rfl;have X:=i 0 _ rfl;have d1:=i 1 _ rfl;have d2:=i 2 _ rfl;have d3:=i 3 _ rfl;rw[Ng] at W X;clear h i;go_wp2
   go_region
   all_goals
    go_wp2
    go_roundw
    case rel=>exact⟨k+1,E5,F3,L8⟩
    case measure=>simp[intOf];omega
  .have V:¬(k:Int)<(c.length:Int):=E5;go_wp2
   go_ret
   exact⟨rfl,p.trans K⟩
variable {S:Nat -> Prop}
theorem eX.but{w':NN}{t:TypeId}{a:NM}{l:List NL}(h:eX w t a l)(k:But S w w')(i:∀b,S b->¬bA w b t):eX w' t a l:=by
 rcases h with h|⟨b,d,e,j,c,m⟩
 .exact .inl h
 .have n:¬S b:=λp=>i b p ⟨d,e,c⟩
  have f:=(k.block b (aM c) n).trans c;exact .inr ⟨b,d,e,j,f,λq r=>by rw[MC (w:=w) (f.trans c.symm)];exact m q r⟩
def cO(w:NN)(xs:List NP)(l:List Q_):Prop:=xs.length=l.length*7/\∀i,i<l.length->∃xa xc,(xs.drop (i*7)).take 7= (l.getD i Q_.zero).cells xa xc/\eX w 9 xa (l.getD i Q_.zero).texts/\(xa=none->xc=0)
theorem cO.nil(w:NN):cO w [] []:=⟨rfl,λi a=>by simp at a⟩
variable {l:List Q_}{xs:List NP}
theorem cO.but{w':NN}(h:cO w xs l)(k:But S w w')(a:∀b,S b->¬bA w b 9):cO w' xs l:=⟨h.1,λi c=>by let⟨d,e,f,j,m⟩:=h.2 i c;exact⟨d,e,f,j.but k a,m⟩⟩
theorem cO.kept{w':NN}(h:cO w xs l)(k:K_ w w'):cO w' xs l:=h.but (S:=λ_=>False) (But.ax k) (λ_ e=>e.elim)
theorem cO.packed(h:cO w xs l):bI w (λ_=>True) xs l:=⟨h.1,λi a=>by let⟨b,c,d,e,f⟩:=h.2 i a;exact⟨b,c,d,e.strs,f,λ_ _=>trivial⟩⟩
theorem cO.snoc{r:Q_}{xa:NM}{xc:Nat}(h:cO w xs l)(e:eX w 9 xa r.texts)(f:xa=none->xc=0):cO w (xs++r.cells xa xc) (l++[r]):=by
 refine⟨by simp[h.1,Q_.cells];omega,λi c=>?_⟩;rw[M_] at c;simp only[Nc,List.length_nil] at c;by_cases d:i<l.length
 .have a:(l++[r]).getD i Q_.zero=l.getD i Q_.zero:=by simp[List.getD,Np d]
  have b:((xs++r.cells xa xc).drop (i*7)).take 7= (xs.drop (i*7)).take 7:=by
   rw[List.drop_append_of_le_length (by rw[h.1];omega),List.take_append_of_le_length (by rw[List.length_drop,h.1];omega)]
  rw[a,b];exact h.2 i d
 .obtain rfl:i=l.length:=E5;have a:(l++[r]).getD l.length Q_.zero=r:=I8;have b:((xs++r.cells xa xc).drop (l.length*7)).take 7=r.cells xa xc:=by
   rw[<-h.1,List.drop_left]
   rfl
  rw[a,b];exact⟨xa,xc,rfl,e,f⟩
def Hq(w:NN)(S:Nat->Prop)(a:NM)(l:List NL):Prop:=∀i,i<l.length->∃b o,a=some ⟨b,o,none⟩/\b<w.heap.size/\¬S b/\w.cell? ⟨b,o+i,none⟩=some (.string (l.getD i ByteArray.empty))
theorem eX.nst{a:NM}{l:List NL}(h:eX w 9 a l)(f:∀b,S b->¬bA w b 9):Hq w S a l:=λi c=>by
 rcases h with rfl|⟨b,j,k,m,d,n⟩
 .simp at c
 .exact⟨b,0,m,aM d,λe=>f b e ⟨j,k,d⟩,by rw[MR];exact n i c⟩
structure KnZ (wz w wr:NN)(kb:Nat)(v0:NP)(a:NM)(n cap:Nat)(R:List Q_)(d:NM)(dc:Nat)(xs:List NP):Prop where
 kw:K_ wz wr
 fr:But (λb=>b=kb\/v0.ownBlock=some b) w wr
 nw:∀b,(Value.slice d R.length dc).ownBlock=some b->v0.ownBlock=some b\/w.heap.size<=b
 known:gL wr kb a n cap d R.length dc
 own:wr.ownsRow wz.heap.size 48 7 (.slice d R.length dc) R.length xs
 pack:cO wr xs R
 nl:R.length=0->d=none/\dc=0
section
variable {wz w wr w':NN}{kb n cap dc:Nat}{v0:NP}{a d:NM}{R:List Q_}{xs:List NP}
theorem KnZ.kept(h:KnZ wz w wr kb v0 a n cap R d dc xs)(k:K_ wr w'):KnZ wz w w' kb v0 a n cap R d dc xs:=⟨h.kw.trans k,h.fr.trans (But.ax k),h.nw,h.known.kept k,au h.own k,h.pack.kept k,h.nl⟩
theorem KnZ.again(h:KnZ wz w wr kb v0 a n cap R d dc xs):KnZ wz wr wr kb (.slice d R.length dc) a n cap R d dc xs:=⟨h.kw,But.ax (K_.refl _),λ_ e=>.inl e,h.known,h.own,h.pack,h.nl⟩
theorem KnZ.but(h:KnZ wz w wr kb v0 a n cap R d dc xs)(k:But S wr w')(e:∀b,S b->wz.heap.size<=b)(c:¬S kb)(f:∀b,(Value.slice d R.length dc).ownBlock=some b->¬S b)(i:∀b,S b->¬bA wr b 9):KnZ wz w' w' kb (.slice d R.length dc) a n cap R d dc xs:=⟨k.kept h.kw e,But.ax (K_.refl _),λ_ j=>.inl j,⟨k.row h.known.row c,(k.cell h.known.row.lt c).trans h.known.web,(k.cell h.known.row.lt c).trans h.known.runs⟩,k.owns h.own f,h.pack.but k i,h.nl⟩
theorem KnZ.runs(h:KnZ wz w wr kb v0 a n cap R d dc xs):bN wr d R:=by
 let⟨_,e,f,b,c⟩:=bI.runs h.own h.pack.packed (K_.refl _);simp only[Nb,true_and] at b;rw[b.1];exact c.runs
theorem KnZ.grown{W h:NN}(i:KnZ wz w wr kb v0 a n cap R d dc xs)(l:K_ wr W)(m:W.grownBy h (Value.slice d R.length dc).ownBlock):K_ wz h/\gL h kb a n cap d R.length dc/\But (λb=>b=kb\/v0.ownBlock=some b) w h:=by
 have j:=i.known.kept l;have p:=au i.own l;have r:=own_ne j.row p;have c:But (λb=>(Value.slice d R.length dc).ownBlock=some b) W h:=But.aI m λb k=>k;have e:=c.block kb j.row.lt λk=>r k.symm;refine⟨aK (i.kw.trans l) (Mj _) p m,⟨j.row.block e,(MC (w:=W) e).trans j.web,(MC (w:=W) e).trans j.runs⟩,?_⟩;have f:=i.fr.trans (But.ax l);refine⟨c.os.trans f.os,c.tape.trans f.tape,c.output.trans f.output,Mm f.size c.size,λb e q=>?_⟩;refine (c.block b (Mk e f.size) λk=>?_).trans (f.block b e q);rcases i.nw b k with g|g
 .exact q (.inr g)
 .omega
theorem dJ{W:NN}{base m:Nat}{v:NP}{a:List NP}(h:W.ownsRow base 48 7 v m a):∀b,v.ownBlock=some b->¬bA W b 9:=λ_ e c=>aU (Y_ h e) c E8 rfl
theorem KnZ.next{W c:NN}{f j:Nat}{v:NL}(h:KnZ wz w wr kb v0 a n cap R d dc xs)(r:wz.heap.size<=kb)(k:K_ wr W)(m:W.grownBy c (Value.slice d R.length dc).ownBlock)(q:c.ownsRow wz.heap.size 48 7 (.b f (R.length+1) j) (R.length+1) (xs++(Q_.fresh v).cells none 0))(s:(Value.slice d R.length dc).ownBlock=some f\/f=W.heap.size):KnZ wz w (c.setCell ⟨kb,1,none⟩ (.b f (R.length+1) j)) kb v0 a n cap (R++[Q_.fresh v]) (some ⟨f,0,none⟩) j (xs++(Q_.fresh v).cells none 0):=by
 let⟨t,i,x⟩:=h.grown k m;have l:(R++[Q_.fresh v]).length=R.length+1:=E9;have y:=au h.own k;have z:But (λb=>(Value.slice d R.length dc).ownBlock=some b) W c:=But.aI m λb e=>e;have A:=(h.pack.kept k).but z (dJ y);have B:But (λb=>b=kb) c (c.setCell ⟨kb,1,none⟩ (.b f (R.length+1) j)):=But.set (S:=λb=>b=kb) (But.ax (K_.refl _)) (p:=⟨kb,1,none⟩) rfl _;have C:=A.but B λb e D=>aU i.row.type D E8 e.symm;refine⟨Below.setCell t (p:=⟨kb,1,none⟩) r _,x.set (.inl rfl) _,λb e=>?_,⟨i.row.set _,?_,?_⟩,?_,C.snoc (.inl rfl) λ_=>rfl,λe=>(by rw[l] at e;omega)⟩
 .simp only[Value.ownBlock,Na] at e;subst e;rcases s with g|g
  .exact h.nw f g
  .refine .inr ?_;rw[g];exact Mm h.fr.size k.size
 .rw[Xk E5];exact i.web
 .rw[l];exact aR i.row.row E5 _
 .rw[l];exact zD q (own_ne i.row q) _
end
theorem qA(wz w:NN)(kb:Nat)(a8:wz.heap.size<=kb)(a:NM)(cap:Nat)(Kq:List Qz)(U:NM)(rc:Nat)(names:List NL)(l:List Q_)(r:NM)(s:Nat)(V:List NP)(G:Kq.length<=1048576)(c1:names.length<=110)(c2:l.length<=1000)(f:KnZ wz w w kb (.slice r l.length s) a Kq.length cap l r s V)(H:bQ wz a Kq)(hR:Hq w (λb=>b=kb\/(Value.slice r l.length s).ownBlock=some b) U names):Calls prog 112 #[.c kb,.slice U names.length rc] w λe w'=>e=.returned (.tuple #[])/\∃d dc xs,KnZ wz w w' kb (.slice r l.length s) a Kq.length cap (bT (Kk Kq) l names) d dc xs:=by
 have W:=Kz f;clear f;go_enter func112,ntmps112
 go_wp2
 go_loopw [4] (λI wr=>∃(k:Nat)(d:NM)(dc:Nat)(xs:List NP),k<=names.length/\I=.a k/\KnZ wz w wr kb (.slice r l.length s) a Kq.length cap (bT (Kk Kq) l (names.take k)) d dc xs) (λI _=>names.length-(intOf I).toNat)
 case atStart=>exact⟨0,r,s,V,Ml _,rfl,W.o⟩
 case round=>
  obtain⟨k,d,dc,xs,hk,rfl,i⟩:=hrel;by_cases X:k<names.length
  .obtain⟨b,o,rfl,A,Y,J⟩:=hR k X;have Z:=Kz Y;clear Y;have L:=i.kw;let⟨R,M⟩:=aj (bT (Kk Kq) l (names.take k));have B:=xO (Kk Kq) l X;rw[<-M] at i B;have c3:R.length<=1110:=by rw[M];have:=mQ (Kk Kq) (names.take k) l;rw[ML] at this;omega
   let⟨v,a0⟩:=aj (names.getD k ByteArray.empty);rw[<-a0] at J B;have N:=Kz B;have C:=(i.fr.cell A Z.o).trans J;have O:=Mk A i.fr.size;have P:=i.known.web;have Q:=i.known.runs;have D:=i.known.row.lt;have⟨a1,n⟩:=aH i.runs i;clear M a0 B i W;have i0:(k:Int)<(names.length:Int):=E5;by_cases x:(Kk Kq v).isSome=true
   .have y:Hid (∀w',K_ wr w'->(λw'=>M4 w' kb 0 (.slice a Kq.length cap)/\M4 w' kb 1 (.slice d R.length dc)/\M4 w' b (o+k) (.string v)) w'):=λw' p=>⟨(p.cell D).trans P,(p.cell D).trans Q,(p.cell O).trans C⟩
    by_cases E:(Qq R v).isNone=true
    .go_wp2
     go_region_held (λw'=>M4 w' kb 0 (.slice a Kq.length cap)/\M4 w' kb 1 (.slice d R.length dc)/\M4 w' b (o+k) (.string v)) (exact bg y _ G5) ((first|(go_at_call 61;refine (sG _ a cap Kq v G (H.kept (L.trans G5)) x).mono ?_;rintro e q ⟨⟨r1,rfl⟩,z⟩;have j:K_ wr q:=K_.trans G5 z)|(go_at_call 116;refine (Cs _ kb a Kq.length cap d dc R v E5 (n.o.known.kept (j.trans G5)) (a1.o.kept (j.trans G5)) E).mono ?_;rintro e m ⟨⟨r2,rfl,c4⟩,rfl⟩)))
     all_goals
      have t:=n.o.kept j;have S:=Kz t;have n1:=t.known.runs;have n0:=(j.cell O).trans C;have z2:=t.kw.size;have a9:=Mk A t.fr.size;have b0:=t.known.row.lt;have b1:Hid (∀w',K_ m w'->(λw'=>M4 w' kb 1 (.slice d R.length dc)/\M4 w' b (o+k) (.string v)) w'):=λw' bl=>⟨(bl.cell b0).trans n1,(bl.cell a9).trans n0⟩
      let⟨b2,b3,b4,b5,b6⟩:=aW Tryz.tH;clear t;go_wp2
      refine Qk.region F4 (λw'=>M4 w' kb 1 (.slice d R.length dc)/\M4 w' b (o+k) (.string v)) 14 ⟨n1,n0⟩ λc=>?_;refine ak 0 c ?_;refine ak 4 c ?_;refine ae 8 c ?_;refine ae 9 c ?_;refine ai 10 λK f=>?_;go_simp
      have F:K_ m (m.alloc (.cells (rG v).toArray 48)).drew:=(ah _ _).drew;refine af f (λ_=>b1.o _ F) ?_;clear f K c;refine ai 11 λK f=>?_;refine step_append_lies _ rfl (.tmp 34) (.tmp 40) 41 rfl wz.heap.size 48 b2 _ 7 80 underlying41 b3 b4 b5 b6 rfl E8 (.slice d R.length dc) R.length xs F9 (au S.o.own F) ⟨m.heap.size,0,none⟩ 1 1 (rG v) F9 rfl (λb7 u hu=>by rw[Nf];exact X_ m (rG v).toArray 48 b7 u (by simpa using hu)) (wX v) E5 F5 E5 F6 _ rfl ?_;intro g6 b8 w8 a2 T a3 c5;let⟨c6,a4,a5⟩:=S.o.grown F T;have a6:=a4.row;let⟨⟨_,c7⟩,c8⟩:=a6.row.at (i:=1) E5;have a7:=(show _/\_ from ⟨a4.runs,(a5.cell A Z.o).trans J⟩);have b9:=Kz (KnZ.next (v:=v) S.o a8 F T a2 a3);clear a2 T a3 a6 a5;refine af f (λ_=>a7) ?_;clear f K;have c:=a7;refine ae 12 c ?_;refine ae 13 c ?_;refine ai 14 λK f=>?_;go_simp
      refine af f (λh=>NB rfl h) ?_;clear f K;refine aC ?_;go_wp2
      go_roundw
      case rel=>exact⟨k+1,_,b8,_,E5,F3,by rw[N.o,Nz ⟨x,E⟩];exact b9.o⟩
      case measure=>simp[intOf];omega
    .go_wp2
     go_region_held (λw'=>M4 w' kb 0 (.slice a Kq.length cap)/\M4 w' kb 1 (.slice d R.length dc)/\M4 w' b (o+k) (.string v)) (exact bg y _ G5) ((first|(go_at_call 61;refine (sG _ a cap Kq v G (H.kept (L.trans G5)) x).mono ?_;rintro e q ⟨⟨r1,rfl⟩,z⟩;have j:K_ wr q:=K_.trans G5 z)|(go_at_call 116;refine (Co _ kb a Kq.length cap d dc R v E5 (n.o.known.kept (j.trans G5)) (a1.o.kept (j.trans G5)) E).mono ?_;rintro e m ⟨⟨r2,rfl⟩,rfl⟩)))
     all_goals
      go_wp2
      go_roundw
      case rel=>exact⟨k+1,d,dc,xs,E5,F3,by rw[N.o,NA λh=>E h.2];exact n.o.kept j⟩
      case measure=>simp[intOf];omega
   .have y:Hid (∀w',K_ wr w'->(λw'=>M4 w' kb 0 (.slice a Kq.length cap)/\M4 w' kb 1 (.slice d R.length dc)/\M4 w' b (o+k) (.string v)) w'):=λw' p=>⟨(p.cell D).trans P,(p.cell D).trans Q,(p.cell O).trans C⟩
    go_wp2
    refine Qk.region F4 (λw'=>M4 w' kb 0 (.slice a Kq.length cap)/\M4 w' kb 1 (.slice d R.length dc)/\M4 w' b (o+k) (.string v)) 18 ⟨P,Q,C⟩ λc=>?_;refine ak 0 c ?_;refine ak 4 c ?_;refine aG 8 λK f=>?_;go_simp
    go_at_call 61
    refine (Bu _ a cap Kq v G (H.kept (L.trans G5)) x).mono ?_;rintro e q ⟨rfl,z⟩;have j:K_ wr q:=K_.trans G5 z;dsimp only;refine f.out _ _ (λ_=>y.o q j) ?_;clear f K c;have c:=y.o q j;try simp only[upP]
    refine ae 9 c ?_;refine ae 10 c ?_;refine aB 11 c ?_;refine aB 12 c ?_;refine aB 13 c ?_;refine aB 14 c ?_;refine aB 15 c ?_;refine aB 16 c ?_;refine aB 17 c ?_;refine ai 18 λK f=>?_;go_simp
    refine af f (λh=>NB rfl h) ?_;clear f K;refine aC ?_;go_wp2
    go_roundw
    case rel=>exact⟨k+1,d,dc,xs,E5,F3,by rw[N.o,NA λh=>x h.1];exact n.o.kept j⟩
    case measure=>simp[intOf];omega
  .have c0:k=names.length:=E5;subst c0;rw[MS] at i;have n:=Kz i;clear i;go_wp2
   go_end0
   exact⟨rfl,_,_,_,n.o⟩
def pu(W:dC)(σ:Env)(n:NL):dS:=match bD W σ n with
 |some x=>⟨n,true,x.fail,x.text⟩
 |none=>⟨n,false,false,⟨#[]⟩⟩
theorem GJ{W:dC}{σ:Env}{n:NL}:(pu W σ n).over= (bD W σ n).isSome:=by
 unfold pu;cases bD W σ n<;>rfl
def xM(σ:Env):Prop:=∀n r,σ n=some r->r.over=false->r.fail=false/\r.text= ⟨#[]⟩
theorem rW{A:fO}{r:Q_}(h:r.fail=false/\r.text= ⟨#[]⟩)(a:(ek A r).1.over=false):(ek A r).1.fail=false/\(ek A r).1.text= ⟨#[]⟩:=by
 unfold ek at a⊢;simp only at a⊢;by_cases b:(stepOf A r.at').fin=true
 .rw[Nz b] at a;cases a
 .rw[NA b];exact h
theorem Em{W:dC}{σ:Env}{r:Q_}(h:r.fail=false/\r.text= ⟨#[]⟩)(a:(Xx W σ r).1.over=false):(Xx W σ r).1.fail=false/\(Xx W σ r).1.text= ⟨#[]⟩:=by
 unfold Xx at a⊢;cases e:W r.name with
 |none=>exact h
 |some A=>
  rw[e] at a;simp only at a⊢;by_cases b:r.Zq=0
  .rw[Nz b] at a⊢;exact rW h a
  .rw[NA b] at a⊢;cases f:Yz W σ (stepOf A r.at').asks with
   |none=>exact h
   |some xs=>
    rw[f] at a;simp only at a⊢;by_cases c:r.Zq=20
    .rw[Nz c] at a;cases a
    .rw[NA c] at a⊢;by_cases d:(eT (stepOf A r.at') xs).over=true
     .rw[Nz d] at a;cases a
     .rw[NA d] at a⊢;exact rW (by exact h) a
theorem xM.did{W:dC}{σ:Env}(h:xM σ){n:NL}(f:bn W σ n):xM (doX W σ n):=by
 let⟨r,c,i⟩:=f;intro m q a d;rw[dY c] at a;by_cases e:m=n
 .rw[Nz e] at a;cases a;exact Em (h n r c i.1) d
 .rw[NA e] at a;cases b:σ m with
  |some x=>rw[b] at a;cases a;exact h m _ b d
  |none=>
   rw[b] at a;simp only at a
   split at a
   .cases a;exact⟨rfl,rfl⟩
   .cases a
theorem bR.Mh{Kq:List Qz}{Kj:List NL}{sl:List Q_}(b:bR Kq Kj sl):xM (Qq sl):=by
 obtain⟨_,_,_,j,L,e,c,_,rfl⟩:=b;refine c.keeps (P:=xM) (λσ m h d=>h.did d.1) λm r a f=>?_;rw[iF] at a
 split at a
 .cases a;exact⟨rfl,rfl⟩
 .cases a
def bB(l:List dS):List NP:=(l.map dS.cells).flatten
theorem um(l:List dS):(bB l).length=l.length*4:=by
 induction l with
 |nil=>rfl
 |cons c r ih=>simp only[bB,List.map_cons,List.flatten_cons,M_,Nc] at ih⊢;rw[ih];simp[dS.cells];omega
theorem lD(l:List dS)(c:dS):bB (l++[c])=bB l++c.cells:=by simp[bB]
theorem qL :∀(l:List dS)(i j:Nat),i<l.length->j<4->(bB l)[i*4+j]? = ((l.getD i dS.zero).cells)[j]?
 |[],_,_,h,_=>aO h
 |c :: r,0,j,_,hj=>by
  have e:bB (c :: r)=c.cells++bB r:=rfl;rw[e,Nat.zero_mul,MR,Np (by simpa[dS.cells] using hj)]
  rfl
 |c :: r,i+1,j,h,hj=>by
  have e:bB (c :: r)=c.cells++bB r:=rfl;have b:c.cells.length=4:=rfl;rw[e,Nq (by rw[b];omega),b,show (i+1)*4+j-4=i*4+j by omega,qL r i j (by simpa using h) hj]
  rfl
theorem rE{w:NN}{base:Nat}{t:TypeId}{v:NP}{n:Nat}{l:List dS}(h:w.ownsRow base t 4 v n (bB l)):∃a cap,v=.slice a l.length cap/\mJ w a l:=by
 have d:n=l.length:=by have:=h.1;rw[um] at this;omega
 subst d;rcases h.2 with⟨rfl,e⟩|⟨g,cap,m,rfl,p,f,q,_,_,_⟩
 .exact⟨none,0,by rw[e],λi b=>E5⟩
 .refine⟨_,cap,rfl,λi b=>⟨g,0,rfl,aM f,λj u c=>?_⟩⟩;have k:j<4:=by have:=(Mr.1 c).1;simpa[dS.cells] using this
  have:=h.cells (g:=g) rfl (i*4+j) u (by rw[qL l i j b k];exact c);rw[Nf,MR] at this;rw[MR];exact this
section
variable (W:dC) (σ:Env)
end
theorem Di{Kq:List Qz}{σ:Env}{n:NL}(d:bH (Kk Kq))(h:dz Kq σ)(b:bn (Kk Kq) σ n):dz Kq (doX (Kk Kq) σ n):=by
 let⟨r,b,f⟩:=b;intro m q a;rw[dY b] at a;by_cases e:m=n
 .rw[Nz e] at a;cases a;exact⟨by rw[dx,e];exact (h n r b).1,dU d h (h n r b).2 f⟩
 .rw[NA e] at a;cases c:σ m with
  |some x=>
   rw[c] at a;cases a;exact h m _ c
  |none=>
   rw[c] at a;simp only at a
   split at a
   .rename_i h2
    cases a;exact⟨rfl,gP d h2.2⟩
   .cases a
def qJ(l:List NL):Prop:=l.Pairwise aQ
theorem qJ.nodup{l:List NL}(h:qJ l):l.Nodup:=h.imp λb=>dO b
def Jk(l:List NL)(x:NL)(r:List NL):Prop:=(x∈l/\r=l)\/(x∉l/\∃k,k<=l.length/\r=l.take k++x :: l.drop k/\(∀y∈l.take k,aQ y x)/\∀y∈l.drop k,aQ x y)
theorem Jk.asc{l r:List NL}{x:NL}(h:Jk l x r)(b:qJ l):qJ r/\∀s,s∈r↔s∈l\/s=x:=by
 rcases h with⟨e,rfl⟩|⟨e,k,n,rfl,f,i⟩
 .exact⟨b,λs=>⟨.inl,λh=>h.elim id λj=>by rw[j];exact e⟩⟩
 .have c:qJ (l.take k++l.drop k):=by rw[Nr];exact b
  unfold qJ at c⊢;rw[MP] at c⊢;refine⟨⟨c.1,NH.2 ⟨i,c.2.1⟩,λa b m d=>?_⟩,λs=>?_⟩
  .rcases Nh.1 d with rfl|d
   .exact f a b
   .exact c.2.2 a b m d
  .rw[Mv,Nh];constructor
   .rintro (h|h|h)
    .exact .inl (List.mem_of_mem_take h)
    .exact .inr h
    .exact .inl (List.mem_of_mem_drop h)
   .rintro (h|h)
    .rw[<-Nr k l] at h;rcases Mv.1 h with h|h
     .exact .inl h
     .exact .inr (.inr h)
    .exact .inr (.inl h)
section
variable (W:dC) (σ:Env)
def sI(s:NL):Prop:=∃q,σ s=some q/\q.over=false
def bG(n s:NL):Prop:=∃r A,σ n=some r/\r.over=false/\r.Zq≠0/\W n=some A/\s∈(stepOf A r.at').asks/\sI σ s
def rV(n:NL)(ns:List NL):Prop:=qJ ns/\∀s,s∈ns↔bG W σ n s
def nX :Prop:=∀n r A,σ n=some r->r.over=false->r.Zq≠0->W n=some A->∀s∈(stepOf A r.at').asks,(W s).isSome=true->(σ s).isSome=true
end
theorem uZ{A:fO}{r:Q_}:(ek A r).2= (stepOf A (ek A r).1.at').asks:=by
 unfold ek;simp only
 split<;>rfl
theorem EA{W:dC}{σ:Env}{r:Q_}{A:fO}(c:W r.name=some A)(h:aS W σ r)(a:(Xx W σ r).1.over=false):(Xx W σ r).2= (stepOf A (Xx W σ r).1.at').asks:=by
 unfold Xx at a⊢;rw[c] at a⊢;simp only at a⊢;by_cases b:r.Zq=0
 .rw[Nz b];exact uZ
 .rw[NA b] at a⊢;rcases h.2 with i|⟨l,j,d,k⟩
  .exact NB i b
  .rw[c] at d;cases d;rw[k] at a⊢;simp only at a⊢;by_cases e:r.Zq=20
   .rw[Nz e] at a;cases a
   .rw[NA e] at a⊢;by_cases f:(eT (stepOf A r.at') j).over=true
    .rw[Nz f] at a;cases a
    .rw[NA f];exact uZ
variable {Kq:List Qz}
theorem nX.did{σ:Env}(p:nX (Kk Kq) σ)(q:dz Kq σ){n:NL}(t:bn (Kk Kq) σ n):nX (Kk Kq) (doX (Kk Kq) σ n):=by
 let⟨r,b,v⟩:=t;have w:=(q n r b).1;intro m B A a f h i s j k;rw[dY b] at a;rw[dY b];by_cases e:s=n
 .rw[Nz e];rfl
 rw[NA e];cases y:σ s with
 |some x=>rfl
 |none=>
  simp only;by_cases c:m=n
  .rw[Nz c] at a;cases a;subst c;have z:eO (Xx (Kk Kq) σ r).2 s=true:=by
    rw[df,EA (by rw[w];exact i) v f];exact j
   simp[z,k]
  .rw[NA c] at a;cases d:σ m with
   |some x=>
    rw[d] at a;cases a;have l:=p m _ A d f h i s j k;rw[y] at l;exact NB l E9
   |none=>
    rw[d] at a;simp only at a
    split at a
    .cases a;exact NB rfl h
    .cases a
theorem bR.asked{Kj:List NL}{sl:List Q_}(a:bR Kq Kj sl):nX (Kk Kq) (Qq sl):=by
 have c:=bV a.1;obtain⟨_,_,_,j,L,f,e,_,rfl⟩:=a;have h:=e.keeps (P:=λσ:Env=>dz Kq σ/\nX (Kk Kq) σ) (λσ m h d=>⟨Di c h.1 d.1,h.2.did h.1 d.1⟩) ⟨(gX c Kj).env,λn r A b i a=>by
  rw[iF] at b
  split at b
  .cases b;exact NB rfl a
  .cases b⟩
 exact h.2
theorem Ca{σ:Env}(m:dz Kq σ)(x:nX (Kk Kq) σ){n:NL}{r:Q_}(d:σ n=some r)(s:NL):s∈pend (Kk Kq) σ r↔bG (Kk Kq) σ n s:=by
 let⟨j,hgd⟩:=m n r d;let⟨A,b,_⟩:=hgd.act;rw[j] at b;unfold pend;constructor
 .intro h
  split at h
  .cases h
  .rename_i h0
   rw[j,b] at h;simp only[List.mem_filter] at h;let⟨e,a⟩:=h;have f:r.over=false:=by
    cases y:r.over
    .rfl
    .exact NB (.inl y) h0
   have i:r.Zq≠0:=λz=>h0 (.inr z)
   refine⟨r,A,d,f,i,b,e,?_⟩;unfold bD at a;cases k:Kk Kq s with
   |none=>rw[k] at a;cases a
   |some B=>
    rw[k] at a;simp only at a;have p:=x n r A d f i b s e (by rw[k];rfl);cases l:σ s with
    |none=>rw[l] at p;cases p
    |some q=>
     rw[l] at a;simp only at a;cases c:q.over
     .exact⟨q,l,c⟩
     .rw[Nz c] at a;cases a
 .rintro⟨F,G,t,f,i,v,e,q,c,C⟩;rw[d] at t;cases t;rw[b] at v;cases v;rw[NA (by rw[f];simp[i]),j,b];simp only[List.mem_filter];refine⟨e,?_⟩;let⟨D,E⟩:=m s q c;let⟨B,w,_⟩:=E.act;rw[D] at w;unfold bD;rw[w,c];simp[C]
theorem rV.len(i:bH (Kk Kq)){σ:Env}(j:dz Kq σ){n:NL}{b:List NL}(h:rV (Kk Kq) σ n b):b.length<=5:=by
 cases d:b with
 |nil=>simp
 |cons x l=>
  let⟨r,A,e,_,_,c,_⟩:=(h.2 x).1 (by rw[d];simp);let⟨k,hgd⟩:=j n r e;let⟨m,a,p,q⟩:=hgd.act;rw[k,c] at a;cases a;have w:=(iw (i n A c).1 p q).1;have:=List.Nodup.length_le_of_subset h.1.nodup (l₂:=(stepOf A r.at').asks) (λs t=>by
   let⟨y,m,f,_,_,a,v,_⟩:=(h.2 s).1 t;rw[e] at f;cases f;rw[c] at a;cases a;exact v)
  rw[<-d];omega
structure jb (E:NL->NL->Prop)(nm:List NL):Prop where
 asc:qJ nm
 all:∀x y,E x y->x∈nm
def dK(E:NL->NL->Prop)(nm:List NL)(p q:Nat):Prop:=∃(hp:p<nm.length)(hq:q<nm.length),E nm[p] nm[q]
variable {best:List Nat}{n p:Nat}
section
variable {E:NL -> NL -> Prop}{nm:List NL}
theorem jb.less(h:jb E nm){q:Nat}(a:p<nm.length)(b:q<nm.length):aQ nm[p] nm[q]↔p<q:=by
 have c:=Mx.1 h.asc;constructor
 .intro d;rcases Ny p q with e|e|e
  .exact e
  .subst e;exact NB d (a_ _)
  .exact NB d (eU (c q p b a e))
 .exact c p q a b
theorem jb.inj(h:jb E nm){q:Nat}(b:p<nm.length)(c:q<nm.length)(e:nm[p]=nm[q]):p=q:=by
 rcases Ny p q with g|g|g
 .have:=(h.less b c).2 g;rw[e] at this;exact NB this (a_ _)
 .exact g
 .have:=(h.less c b).2 g;rw[e] at this;exact NB this (a_ _)
theorem jb.place(h:jb E nm){x y:NL}(b:E x y):∃(p:Nat)(hp:p<nm.length),nm[p]=x:=MB (h.all x y b)
theorem vF{q:Nat}(h:aX (dK E nm) n p q)(c:p<nm.length):∃b:q<nm.length,aX E n nm[p] nm[q]:=by
 induction h with
 |here a=>exact⟨c,.here _⟩
 |step h _ ih=>
  let⟨_,d,e⟩:=h;let⟨b,f⟩:=ih d;exact⟨b,.step e f⟩
theorem jb.back(h:jb E nm):∀{n:Nat}{p q:Nat}(b:p<nm.length)(a:q<nm.length),aX E n nm[p] nm[q]->aX (dK E nm) n p q:=by
 intro n
 induction n with
 |zero=>intro p q b a c;rw[h.inj b a c.zero];exact .here q
 |succ n ih=>
  intro p q b a c;let⟨i,j,d⟩:=c.first
  have:∃(r:Nat)(f:r<nm.length),nm[r]=i:=by
   cases n with
   |zero=>exact⟨q,a,d.zero.symm⟩
   |succ m=>
    let⟨l,k,_⟩:=d.first
    exact h.place k
  obtain⟨r,f,rfl⟩:=this;exact .step ⟨b,f,j⟩ (ih f a d)
theorem jb.far(h:jb E nm){q:Nat}(b:p<nm.length)(e:q<nm.length):Far (dK E nm) q n p↔Far E nm[q] n nm[p]:=by
 constructor
 .intro a;exact⟨(vF a.1 b).2,λm c d=>a.2 m c (h.back b e d)⟩
 .intro a;exact⟨h.back b e a.1,λm c d=>a.2 m c (vF d b).2⟩
def Ar(p:Nat->Prop)(x:Nat):Prop:=p x/\∀y,p y->x<=y
inductive lW (R:Nat->Nat->Prop)(t:Nat):Nat->Nat->List Nat->Prop
 |stop (a:Nat):lW R t 1 a [a]
 |step {n:Nat} {a x:Nat} {l:List Nat} (h:Ar (λy=>R a y/\Far R t n y) x) (r:lW R t n x l):lW R t (n+1) a (a :: l)
def nameOf(nm:List NL)(p:Nat):NL:=nm.getD p ByteArray.empty
theorem uy(a:p<nm.length):nameOf nm p=nm[p]:=by simp[nameOf,List.getD,a]
theorem lW.names(h:jb E nm){t:Nat}(f:t<nm.length){a:Nat}{l:List Nat}(i:lW (dK E nm) t n a l)(b:a<nm.length):mR E nm[t] n nm[a] (l.map (nameOf nm)):=by
 induction i with
 |stop a=>rw[List.map_cons,List.map_nil,uy b];exact .stop _
 |@step n a x l hl r ih=>
  let⟨⟨⟨_,c,j⟩,k⟩,p⟩:=hl;rw[List.map_cons,uy b];refine .step ⟨⟨j,(h.far c f).1 k⟩,λy d q=>?_⟩ (ih c);have w:1<=n:=by cases r<;>omega
  obtain⟨m,rfl⟩:∃m,n=m+1:=⟨n-1,E5⟩;let⟨z,s,_⟩:=d.2.next;obtain⟨v,e,rfl⟩:=h.place s;have A:=p v ⟨⟨b,e,d.1⟩,(h.far e f).2 d.2⟩;have B:=(h.less e c).1 q;omega
def lM(R:Nat->Nat->Prop)(t n:Nat):Prop:=1<=n/\aX R n t t/\∀m,1<=m->m<n->¬aX R m t t
structure jA (R:Nat->Nat->Prop)(k:Nat)(best:List Nat):Prop where
 no:best=[]->∀t,t<k->∀n,¬lM R t n
 yes:best≠[]->∃t n,t<k/\lM R t n/\lW R t n t best/\best.length=n/\(∀h,h<k->∀j,lM R h j->n<=j/\(h<t->n<j))
theorem jA.start(R:Nat->Nat->Prop):jA R 0 []:=⟨λ_ _t a=>aO a,λh=>NB rfl h⟩
theorem lM.unique{R:Nat->Nat->Prop}{t m:Nat}(h:lM R t n)(g:lM R t m):n=m:=by
 rcases Ny n m with e|e|e
 .exact NB h.2.1 (g.2.2 n h.1 e)
 .exact e
 .exact NB g.2.1 (h.2.2 m g.1 e)
theorem jA.skip{R:Nat->Nat->Prop}{k:Nat}(h:jA R k best)(a:∀n,lM R k n->best≠[]/\best.length<=n):jA R (k+1) best:=by
 refine⟨λe t m n b=>?_,λe=>?_⟩
 .by_cases g:t=k
  .subst g;exact (a n b).1 e
  .exact h.no e t E5 n b
 .obtain⟨t,n,p,d,f,i,l⟩:=h.yes e;refine⟨t,n,E5,d,f,i,λq r j c=>?_⟩;by_cases g:q=k
  .subst g;have:=(a j c).2;exact⟨E5,λs=>E5⟩
  .exact l q E5 j c
theorem jA.take{R:Nat->Nat->Prop}{k:Nat}{l:List Nat}(h:jA R k best)(c:lM R k n)(d:lW R k n k l)(f:l.length=n)(a:best=[]\/n<best.length):jA R (k+1) l:=by
 have i:l≠[]:=by cases d<;>simp
 refine⟨λe=>NB e i,λ_=>⟨k,n,E5,c,d,f,λq p j b=>?_⟩⟩;by_cases g:q=k
 .subst g;have:=c.unique b;exact⟨E5,λr=>E5⟩
 .rcases a with rfl|a
  .exact NB b (h.no rfl q E5 j)
  .obtain⟨t,s,v,w,x,y,m⟩:=h.yes (by intro e;rw[e] at a;simp at a);have:=(m q E5 j b).1;exact⟨E5,λ_=>E5⟩
theorem jA.Ko(h:jb E nm)(j:jA (dK E nm) nm.length best):om E (best.map (nameOf nm)):=by
 have l:∀x n,1<=n->aX E n x x->∃(p:Nat)(a:p<nm.length),nm[p]=x:=λx n f c=>by
  obtain⟨m,rfl⟩:∃m,n=m+1:=⟨n-1,E5⟩;let⟨b,j,_⟩:=c.first
  exact h.place j
 have q:∀n p (a:p<nm.length),1<=n->aX E n nm[p] nm[p]->∃m,m<=n/\lM (dK E nm) p m:=by
  intro n
  induction n using Nat.strongRecOn with
  |ind n ih=>
   intro p a f c;by_cases d:∃m,1<=m/\m<n/\aX (dK E nm) m p p
   .obtain⟨m,i,e,r⟩:=d;let⟨z,G,A⟩:=ih m e p a i (vF r a).2;exact⟨z,E5,A⟩
   .exact⟨n,Mj _,f,h.back a a c,λm i e r=>d ⟨m,i,e,r⟩⟩
 by_cases s:best=[]
 .refine .inl ⟨λx n f c=>?_,by rw[s];rfl⟩;obtain⟨p,a,rfl⟩:=l x n f c;let⟨m,_,d⟩:=q n p a f c;exact j.no s p a m d
 .obtain⟨B,n,k,d,C,_,t⟩:=j.yes s;refine .inr ⟨n,nm[B],d.1,λx v w c=>?_,⟨(vF d.2.1 k).2,λD y F=>?_⟩,C.names h k k⟩
  .obtain⟨p,a,rfl⟩:=l x v w c;let⟨m,i,e⟩:=q v p a w c;have:=(t p a m e).1;omega
  .obtain⟨p,a,rfl⟩:=l D n d.1 y;let⟨m,i,e⟩:=q n p a d.1 y;have:=(t p a m e).2 ((h.less a k).1 F);omega
end
section
variable (E:NL -> NL -> Prop) (g:NL)
def d_(b:Nat)(x:NL)(v:Nat):Prop:=(aQ x g->v=0)/\(¬aQ x g->(v≠0->eB E g v x/\v<b)/\∀m,m<b->eB E g m x->v=m)
end
variable {x:NL}{n:Nat}
section
variable {E:NL -> NL -> Prop}{g:NL}
theorem d_.start :d_ E g 1 x 0:=⟨λ_=>rfl,λ_=>⟨λh=>NB rfl h,λm d b=>by have:=b.1.pos;omega⟩⟩
theorem d_.keep{v:Nat}(h:d_ E g n x v)(a:v≠0\/aQ x g):d_ E g (n+1) x v:=by
 refine⟨h.1,λb=>?_⟩;rcases a with a|a
 .obtain⟨d,f⟩:=h.2 b;let⟨c,i⟩:=d a;exact⟨λ_=>⟨c,E5⟩,λm _ e=>c.unique e⟩
 .exact NB a b
def Hit(E:NL->NL->Prop)(g:NL)(n:Nat)(x s:NL):Prop:=E x s/\((n=1/\s=g)\/(1<n/\aQ g s/\eB E g (n-1) s))
theorem EG(h:1<=n)(f:∀m,m<n->¬eB E g m x):(∃s,Hit E g n x s)↔eB E g n x:=by
 rcases Nat.lt_or_ge 1 n with d|d
 .obtain⟨q,rfl⟩:∃q,n=q+1:=⟨n-1,E5⟩;rw[eB.succ E5];constructor
  .rintro⟨s,a,⟨b,_⟩|⟨_,b,c⟩⟩
   .omega
   .exact⟨⟨s,a,b,by simpa using c⟩,λm i=>f m E5⟩
  .rintro⟨⟨s,a,b,c⟩,_⟩;exact⟨s,a,.inr ⟨d,b,by simpa using c⟩⟩
 .have:n=1:=E5;subst this;rw[eB.one];constructor
  .rintro⟨s,a,⟨_,rfl⟩|⟨b,_⟩⟩
   .exact a
   .omega
  .intro a;exact⟨g,a,.inl ⟨rfl,rfl⟩⟩
theorem d_.hit(d:1<=n)(h:d_ E g n x 0)(c:¬aQ x g)(e:∃s,Hit E g n x s):d_ E g (n+1) x n:=by
 have f:∀m,m<n->¬eB E g m x:=λm b a=>by
  have:=(h.2 c).2 m b a;have:=a.1.pos;omega
 have a:=(EG d f).1 e;exact⟨λi=>NB i c,λ_=>⟨λ_=>⟨a,E5⟩,λm _ b=>a.unique b⟩⟩
theorem d_.miss(d:1<=n)(h:d_ E g n x 0)(f:¬aQ x g)(i:¬∃s,Hit E g n x s):d_ E g (n+1) x 0:=by
 have b:∀m,m<n->¬eB E g m x:=λm c a=>by
  have:=(h.2 f).2 m c a;have:=a.1.pos;omega
 refine⟨λ_=>rfl,λ_=>⟨λe=>NB rfl e,λm c a=>?_⟩⟩;rcases Nat.lt_or_ge m n with e|e
 .exact NB a (b m e)
 .have:m=n:=E5;subst this;exact NB ((EG d b).2 a) i
theorem d_.ask{b:Nat}{s:NL}{v:Nat}(h:d_ E g b s v)(c:aQ g s)(d:1<n)(f:n<=b):v=n-1↔eB E g (n-1) s:=by
 have a:=eU c;constructor
 .intro e;have:=((h.2 a).1 E5).1;rw[e] at this;exact this
 .exact (h.2 a).2 (n-1) E5
theorem d_.whole{names:List NL}(d:∀x y,E x y->x∈names){v:Nat}(h:d_ E g (names.length+1) x v)(b:¬aQ x g):(v≠0->eB E g v x)/\(∀m,eB E g m x->v=m):=⟨λe=>((h.2 b).1 e).1,λm c=>(h.2 b).2 m (by have:=c.bound d;omega) c⟩
theorem jB.start(E:NL->NL->Prop):jB E [] []:=⟨λ_ g h=>(by cases h),λh=>NB rfl h⟩
theorem mh.len{a:NL}{l:List NL}(h:mh E g n a l):l.length=n:=by
 induction h with
 |stop=>rfl
 |step _ _ ih=>simp[ih]
theorem jB.skip{a best:List NL}(h:jB E a best){g:NL}(c:∀n,eB E g n g->best≠[]/\best.length<=n)(j:∀x∈a,aQ x g):jB E (a++[g]) best:=by
 refine⟨λe x b n d=>?_,λe=>?_⟩
 .rcases Mv.1 b with q|q
  .exact h.no e x q n d
  .rw[Mt] at q;subst q;exact (c n d).1 e
 .obtain⟨t,n,f,l,m,p,r⟩:=h.yes e;refine⟨t,n,Mv.2 (.inl f),l,m,p,λx b k i=>?_⟩;rcases Mv.1 b with q|q
  .exact r x q k i
  .rw[Mt] at q;subst q;have:=(c k i).2;exact⟨E5,λs=>NB s (eU (j t f))⟩
theorem jB.take{f best l:List NL}(h:jB E f best){g:NL}(c:eB E g n g)(i:mh E g n g l)(b:best=[]\/n<best.length):jB E (f++[g]) l:=by
 have a:=i.len;have j:l≠[]:=λe=>by rw[e] at a;have:=c.1.pos;simp at a;omega
 refine⟨λe=>NB e j,λ_=>⟨g,n,Mv.2 (.inr E9),c,i,a,λx p k d=>?_⟩⟩;rcases Mv.1 p with q|q
 .rcases b with rfl|b
  .exact NB d (h.no rfl x q k)
  .obtain⟨t,m,s,v,w,y,r⟩:=h.yes (by intro e;rw[e] at b;simp at b);have:=(r x q k d).1;exact⟨E5,λ_=>E5⟩
 .rw[Mt] at q;subst q;have:=c.unique d;exact⟨E5,λa=>NB a (a_ _)⟩
end
variable {l:List NL}
section
variable {E:NL -> NL -> Prop}{g:NL}
structure oD (E:NL->NL->Prop)(g:NL)(n:Nat)(l:List NL)(a:NL)(q:Nat):Prop where
 len:l.length+q=n+1
 pos:1<=q
 far:eB E g q a
 last:∃l0,l=l0++[a]
 rest:∀r,mh E g q a r->mh E g n g (l.dropLast++r)
theorem oD.start{n:Nat}(h:eB E g n g):oD E g n [g] g n:=⟨F6,h.1.pos,h,⟨[],rfl⟩,λr b=>b⟩
theorem oD.next{n q:Nat}{a x:NL}(h:oD E g n l a (q+1))(f:1<=q)(c:iD (λy=>E a y/\aQ g y/\eB E g q y) x):oD E g n (l++[x]) x q:=by
 let⟨j,d⟩:=h.last;refine⟨by have:=h.len;rw[M_];simp;omega,f,c.1.2.2,⟨l,rfl⟩,λr i=>?_⟩;have e:=h.rest (a :: r) (mh.step c i);rw[List.dropLast_concat];rw[d,List.dropLast_concat] at e;rw[d,List.append_assoc];exact e
theorem oD.done{n:Nat}{a:NL}(h:oD E g n l a 1):mh E g n g l:=by
 let⟨e,c⟩:=h.last;have d:=h.rest [a] (mh.stop a);rw[c,List.dropLast_concat] at d;rw[c];exact d
theorem oD.more{n q:Nat}{a:NL}(h:oD E g n l a (q+1))(c:1<=q):∃y,E a y/\aQ g y/\eB E g q y:=((eB.succ c).1 h.far).1
theorem Ck{p:NL->Prop}(d:qJ l)(e:∀y,p y->y∈l){k:Nat}(f:k<l.length)(h:p l[k])(i:∀y∈l.take k,¬p y):iD p l[k]:=by
 refine⟨h,λy a b=>?_⟩;obtain⟨j,m,rfl⟩:=MB (e y a);rcases Ny j k with c|rfl|c
 .exact i l[j] (by rw[List.mem_take_iff_getElem];exact⟨j,E5,rfl⟩) a
 .exact a_ _ b
 .exact eU b (Mx.1 d k j f m c)
end
def nA(Kq:List Qz)(Kj:List NL)(sl:List Q_)(ns:List NL):Prop:=ns.length<=60/\((bR Kq Kj sl/\om (bG (Kk Kq) (Qq sl)) ns)\/(¬bR Kq Kj sl/\ns=[]))
variable {Kj:List NL}{Kq:List Qz}{sl:List Q_}
theorem nA.one{e f:List NL}(h:nA Kq Kj sl e)(k:nA Kq Kj sl f):f=e:=by
 rcases h.2 with⟨c,d⟩|⟨c,d⟩
 .rcases k.2 with⟨a,b⟩|⟨a,b⟩
  .exact b.unique d
  .exact NB c a
 .rcases k.2 with⟨a,b⟩|⟨a,b⟩
  .exact NB a c
  .rw[d,b]
theorem jB.len{E:NL->NL->Prop}{names best:List NL}(h:jB E names best)(a:∀x y,E x y->x∈names):best.length<=names.length:=by
 by_cases e:best=[]
 .rw[e];exact Ml _
 .obtain⟨t,n,_,b,_,c,_⟩:=h.yes e;have:=b.bound a;omega
def iB(W:dC)(n:NL):Int:=match W n with|some A=>A.cost|none=>0
theorem pF{W:dC}{n:NL}{A:fO}(h:W n=some A):iB W n=A.cost:=by unfold iB;rw[h]
def dm(l:List Q_):Int:=(l.map λr=>r.Zq).sum
def fq(W:dC)(l:List Q_):Int:=(l.map λr=>r.Zq*iB W r.name).sum
theorem oU(l:List Q_)(r:Q_):dm (l++[r])=dm l+r.Zq:=by simp[dm]
theorem qX(W:dC)(l:List Q_)(r:Q_):fq W (l++[r])=fq W l+r.Zq*iB W r.name:=by simp[fq]
theorem qC{W:dC}(a:bH W)(n:NL):0<=iB W n/\iB W n<=20:=by
 unfold iB;cases h:W n with
 |none=>exact⟨Int.le_refl _,E8⟩
 |some A=>have:=(a n A h).1.1;show 0<=A.cost/\A.cost<=20;exact⟨E5,this.2⟩
theorem xu :∀{l:List Q_},(∀r∈l,0<=r.Zq/\r.Zq<=20)->0<=dm l/\dm l<=20*(l.length:Int)
 |[],_=>⟨Int.le_refl _,Int.le_refl _⟩
 |r :: l,h=>by
  have b:=xu (l:=l) λx a=>h x (MH _ a);have c:=h r (List.mem_cons_self ..);have e:dm (r :: l)=r.Zq+dm l:=by simp[dm]
  rw[e,Nc];omega
theorem EK{v c:Int}(a:0<=v/\v<=20)(h2:0<=c/\c<=20):0<=v*c/\v*c<=400:=by
 refine⟨Int.mul_nonneg a.1 h2.1,?_⟩;have b:=Int.mul_le_mul_of_nonneg_right a.2 h2.1;omega
theorem AY{W:dC}(a:bH W):∀{l:List Q_},(∀r∈l,0<=r.Zq/\r.Zq<=20)->0<=fq W l/\fq W l<=400*(l.length:Int)
 |[],_=>⟨Int.le_refl _,Int.le_refl _⟩
 |r :: l,h=>by
  have c:=AY a (l:=l) λx b=>h x (MH _ b);have d:=EK (h r (List.mem_cons_self ..)) (qC a r.name);have e:fq W (r :: l)=r.Zq*iB W r.name+fq W l:=by simp[fq]
  rw[e,Nc];omega
theorem Fe(c:bH (Kk Kq)){l:List Q_}(a:dW Kq l)(f:l.length<=60)(k:Nat):0<=dm (l.take k)/\dm (l.take k)<=1200/\0<=fq (Kk Kq) (l.take k)/\fq (Kk Kq) (l.take k)<=24000:=by
 have h:∀r∈l.take k,0<=r.Zq/\r.Zq<=20:=λr b=>⟨(a.good r (List.mem_of_mem_take b)).lo,(a.good r (List.mem_of_mem_take b)).hi⟩
 have d:=xu h;have e:=AY c h;have i:(l.take k).length<=60:=H6;exact⟨d.1,E5,e.1,E5⟩
structure EL (Kq:List Qz)(Kj:List NL)(sl:List Q_)(o:mG):Prop where
 res:o.res=Kj.map (pu (Kk Kq) (Qq sl))
 eG:o.eG=dm sl
 cost:o.cost=fq (Kk Kq) sl
 rest:((¬∃r∈o.res,r.over=false)/\o.code=0/\o.chain=[])\/((∃r∈o.res,r.over=false)/\(∃r∈sl,aS (Kk Kq) (Qq sl) r)/\o.code=2/\o.chain=[])\/((∃r∈o.res,r.over=false)/\(¬∃r∈sl,aS (Kk Kq) (Qq sl) r)/\o.code=1/\om (bG (Kk Kq) (Qq sl)) o.chain)
theorem mG.ext'{o p:mG}(a:o.code=p.code)(b:o.res=p.res)(h2:o.chain=p.chain)(c:o.eG=p.eG)(d:o.cost=p.cost):o=p:=by
 cases o;cases p;simp only at a b h2 c d;rw[a,b,h2,c,d]
theorem EL.one{o p:mG}(h:EL Kq Kj sl o)(k:EL Kq Kj sl p):p=o:=by
 have l:=k.res.trans h.res.symm;have m:=k.rest;rw[l] at m;have n:p.code=o.code/\p.chain=o.chain:=by
  rcases h.rest with⟨a,c,d⟩|⟨a,i,c,d⟩|⟨a,i,c,d⟩<;>rcases m with⟨b,e,f⟩|⟨b,j,e,f⟩|⟨b,j,e,f⟩
  .exact⟨e.trans c.symm,f.trans d.symm⟩
  .exact NB b a
  .exact NB b a
  .exact NB a b
  .exact⟨e.trans c.symm,f.trans d.symm⟩
  .exact NB i j
  .exact NB a b
  .exact NB j i
  .exact⟨e.trans c.symm,f.unique d⟩
 exact mG.ext' n.1 l n.2 (k.eG.trans h.eG.symm) (k.cost.trans h.cost.symm)
def BV :mG:=⟨9,[],[],0,0⟩
def gN(Kq:List Qz)(Kj:List NL)(sl:List Q_)(o:mG):Prop:=(o.res.length<=10/\o.chain.length<=60)/\((bR Kq Kj sl/\EL Kq Kj sl o)\/(¬bR Kq Kj sl/\o=BV))
theorem gN.one{o p:mG}(h:gN Kq Kj sl o)(k:gN Kq Kj sl p):p=o:=by
 rcases h.2 with⟨c,d⟩|⟨c,d⟩
 .rcases k.2 with⟨a,b⟩|⟨a,b⟩
  .exact d.one b
  .exact NB c a
 .rcases k.2 with⟨a,b⟩|⟨a,b⟩
  .exact NB a c
  .rw[d,b]
theorem Fv(a:dW Kq sl){n:NL}(b:n.size<=20):(pu (Kk Kq) (Qq sl) n).text.size<=200:=by
 unfold pu;cases h:bD (Kk Kq) (Qq sl) n with
 |none=>exact Ml _
 |some x=>exact wV a.env b h
theorem bR.Fj(d:bR Kq Kj sl):∀n∈Kj,(∃r∈sl,r.name=n)\/Kk Kq n=none:=by
 obtain⟨_,_,_,j,L,l,f,_,rfl⟩:=d;have h:=f.keeps (P:=λσ=>∀n∈Kj,(σ n).isSome=true\/Kk Kq n=none) (λσ m h i n b=>by
  rcases h n b with a|a
  .refine .inl ?_;let⟨r,c,_⟩:=i.1;rw[dY c];by_cases e:n=m
   .rw[Nz e];rfl
   .rw[NA e];cases k:σ n with
    |none=>rw[k] at a;cases a
    |some x=>rfl
  .exact .inr a) (λn b=>by
  rw[iF];cases p:Kk Kq n with
  |none=>exact .inr rfl
  |some A=>rw[Nz ⟨df.2 b,rfl⟩];exact .inl rfl)
 intro n b;rcases h n b with a|a
 .obtain⟨r,c⟩:=MK.1 a;exact .inl ⟨r,(aZ c).1,(aZ c).2⟩
 .exact .inr a
section
variable {E:NL -> NL -> Prop}{x:NL}{out more list:List NL}
end
theorem jX.one{W:dC}{σ:Env}{r:Q_}{L e:List NL}(f:(W r.name).isSome=true)(v:jX W σ r L)(w:jX W σ r e):L=e:=by
 let⟨x,c,h⟩:=v;let⟨m,b,k⟩:=w;have l:∀{i j:Nat}{A B:List NL},aJ W σ r.name i= (r,A)->aJ W σ r.name j= (r,B)->(∀q,q<i->aS W σ (aJ W σ r.name q).1)->(∀q,q<j->aS W σ (aJ W σ r.name q).1)->¬i<j:=λ{i j A B} y n z p C=>by
  have d:=(p i C).1;have s:=fH f z d;rw[y] at d s;have t:=fH f p (by rw[n];exact d);rw[n] at t;simp only at s t;omega
 have:x=m:=by
  have a:=l c b h k;have D:=l b c k h;omega
 subst this;rw[c] at b;exact (Prod.mk.inj b).2
def vD(W:dC)(σ:Env):Prop:=∀n r,σ n=some r->r.name=n/\∃L,jX W σ r L
theorem vD.did{W:dC}{σ:Env}{n:NL}(j:vD W σ)(b:bn W σ n):vD W (doX W σ n):=by
 let⟨r,d,l⟩:=b;have b:bn W σ n:=⟨r,d,l⟩;intro m q a;rw[dY d] at a;by_cases e:m=n
 .rw[Nz e] at a;cases a;let⟨f,L,h⟩:=j n r d;exact⟨by rw[dx,f,e],_,(h.unit l).mono b⟩
 .rw[NA e] at a;cases i:σ m with
  |some x=>
   rw[i] at a;simp only[Na] at a;subst a;let⟨f,L,h⟩:=j m x i;exact⟨f,L,h.mono b⟩
  |none=>
   rw[i] at a;simp only at a
   split at a
   .cases a;exact⟨rfl,_,jX.start m⟩
   .cases a
section
variable {E:NL -> NL -> Prop}{names done asks out:List NL}{name x:NL}{l0 k:Nat}{b:Bool}
end
structure ClT (W:dC)(σ:Env):Prop where
 Jv:vD W σ
 web:∀n r,σ n=some r->(W n).isSome=true
 cl:∀n r L,σ n=some r->jX W σ r L->∀m∈L,(W m).isSome=true->(σ m).isSome=true
variable {W:dC}{n:NL}{σ:Env}
theorem xQ{m:NL}(a:bn W σ n)(h:(σ m).isSome=true):(doX W σ n m).isSome=true:=by
 let⟨r,b,_⟩:=a;rw[dY b];by_cases e:m=n
 .rw[Nz e];rfl
 .rw[NA e];let⟨x,c⟩:=MK.1 h;rw[c];rfl
theorem ClT.did(h:ClT W σ)(b:bn W σ n):ClT W (doX W σ n):=by
 have v:=h.Jv.did b;let⟨r,c,w⟩:=b;have b:bn W σ n:=⟨r,c,w⟩;have z:∀m q,doX W σ n m=some q->(W m).isSome=true:=λm q a=>by
  rw[dY c] at a;by_cases f:m=n
  .rw[f];exact h.web n r c
  .rw[NA f] at a;cases d:σ m with
   |some x=>exact h.web m x d
   |none=>
    rw[d] at a;simp only at a
    split at a
    .next g=>exact g.2
    .cases a
 refine⟨v,z,λm q L a l y e p=>?_⟩;have s:=(v m q a).1;have t:=z m q a;have D:=a;rw[dY c] at a;by_cases f:m=n
 .rw[Nz f] at a;cases a;let⟨B,k,i⟩:=h.Jv n r c;have C:=(i.unit w).mono b;have j:=jX.one (by rw[s];exact t) l C;rw[j] at e;rcases Mv.1 e with g|g
  .exact xQ b (h.cl n r k c i y g p)
  .rw[dY c];by_cases A:y=n
   .rw[Nz A];rfl
   .rw[NA A];cases E:σ y with
    |some x=>rfl
    |none=>simp only;rw[Nz ⟨df.2 g,p⟩];rfl
 .rw[NA f] at a;cases d:σ m with
  |some x=>
   rw[d] at a;simp only[Na] at a;subst a;let⟨B,k,i⟩:=h.Jv m x d;have j:=jX.one (by rw[s];exact t) l (i.mono b);rw[j] at e;exact xQ b (h.cl m x k d i y e p)
  |none=>
   rw[d] at a;simp only at a
   split at a
   .cases a;have j:=jX.one (by rw[s];exact t) l (jX.start m);rw[j] at e;cases e
   .cases a
variable {Kq:List Qz}
theorem ClT.start(Kj:List NL):ClT (Kk Kq) (Qq (bu Kq Kj)):=by
 have d:∀n r,Qq (bu Kq Kj) n=some r->r=Q_.fresh n/\(Kk Kq n).isSome=true:=λn r b=>by
  rw[iF] at b
  split at b
  .next g=>cases b;exact⟨rfl,g.2⟩
  .cases b
 refine⟨λn r b=>?_,λn r b=>(d n r b).2,λn r L b f y e _=>?_⟩
 .obtain⟨rfl,_⟩:=d n r b;exact⟨rfl,_,jX.start n⟩
 .obtain⟨rfl,h⟩:=d n r b;have i:=jX.one (by exact h) f (jX.start n);rw[i] at e;cases e
variable {τ:Env}{k:Nat}
theorem ClT.led(h:ClT W σ)(b:bf (bn W) (doX W) σ τ k):ClT W τ :=b.keeps (P:=ClT W) (λ_ _ g c=>g.did c) h
theorem wm :∀{m:Nat},k<=m->∀y∈(aJ W σ n k).2,y∈(aJ W σ n m).2
 |0,h,y,hy=>by
  obtain rfl:k=0:=E5;exact hy
 |m+1,h,y,hy=>by
  by_cases e:k=m+1
  .subst e;exact hy
  .unfold aJ;exact Mv.2 (.inl (wm (m:=m) E5 y hy))
def Cv(W:dC)(σ:Env)(n:NL)(k:Nat):Env:=λm=>if m=n then some (aJ W σ n k).1 else match σ m with
 |some x=>some x
 |none=>if eO (aJ W σ n k).2 m=true/\(W m).isSome=true then some (Q_.fresh m) else none
theorem zF :∀(j:Nat){σ:Env}{k0:Nat},σ n=some (aJ W σ n k0).1->(∀i,i<k0+j->aS W σ (aJ W σ n i).1)->(∀y∈(aJ W σ n k0).2,(W y).isSome=true->(σ y).isSome=true)->bf (bn W) (doX W) σ (Cv W σ n (k0+j)) j
 |0,σ,k0,h,_,hcl=>by
  have e:Cv W σ n (k0+0)=σ:=by
   funext m
   unfold Cv;rw[Ng];by_cases e:m=n
   .rw[Nz e,e,h]
   .rw[NA e];cases d:σ m with
    |some x=>rfl
    |none=>
     simp only;rw[NA];rintro⟨q,r⟩;have:=hcl m (df.1 q) r;rw[d] at this;cases this
  rw[e];exact .here σ
 |j+1,σ,k0,h,hg,hcl=>by
  have s:=hg k0 E5;have b:bn W σ n:=⟨_,h,s⟩;have c:∀{i:Nat},i<=k0+(j+1)->aJ W (doX W σ n) n i=aJ W σ n i:=λ{i} t=>jE b (λv B=>hg v E5)
  have w:doX W σ n n=some (aJ W (doX W σ n) n (k0+1)).1:=by
   rw[je h,c E5]
   rfl
  have z:=zF j (σ:=doX W σ n) (k0:=k0+1) w (λi t=>by rw[c E5];exact (hg i E5).mono b) (λy f l=>by
   rw[c E5] at f;have A:y∈(aJ W σ n k0).2++(Xx W σ (aJ W σ n k0).1).2:=f;rcases Mv.1 A with g|g
   .exact xQ b (hcl y g l)
   .rw[dY h];by_cases p:y=n
    .rw[Nz p];rfl
    .rw[NA p];cases C:σ y with
     |some x=>rfl
     |none=>simp only;rw[Nz ⟨df.2 g,l⟩];rfl)
  have e:Cv W (doX W σ n) n (k0+1+j)=Cv W σ n (k0+(j+1)):=by
   funext m
   unfold Cv;rw[show k0+1+j=k0+(j+1) by omega,c E5];by_cases a:m=n
   .rw[Nz a,Nz a]
   .rw[NA a,NA a,dY h,NA a];cases d:σ m with
    |some x=>rfl
    |none=>
     simp only;by_cases g:eO (Xx W σ (aJ W σ n k0).1).2 m=true/\(W m).isSome=true
     .rw[Nz g];simp only;rw[Nz];refine⟨df.2 (wm (k:=k0+1) E5 m ?_),g.2⟩;exact Mv.2 (.inr (df.1 g.1))
     .rw[NA g]
  rw[<-e];exact .step σ _ n j b z
def oq(W:dC)(σ τ :Env):Prop:=∀n,bD W σ n=bD W τ n
theorem oq.answers(h:oq W σ τ):∀l,Yz W σ l=Yz W τ l
 |[]=>rfl
 |a :: l=>by unfold Yz;rw[h a,oq.answers h l]
theorem oq.can(h:oq W σ τ)(r:Q_):aS W σ r↔aS W τ r:=by unfold aS;simp only[h.answers]
theorem oq.next(h:oq W σ τ)(r:Q_):Xx W σ r=Xx W τ r:=by unfold Xx;simp only[h.answers]
theorem oq.again(h:oq W σ τ)(n:NL):∀k,aJ W σ n k=aJ W τ n k
 |0=>rfl
 |k+1=>by unfold aJ;rw[oq.again h n k,h.next]
theorem Gd{j:Nat}(c:bf (bn W) (doX W) σ τ j):(∀i,i<k->aS W σ (aJ W σ n i).1)->(∀i,i<=k->aJ W τ n i=aJ W σ n i)/\∀i,i<k->aS W τ (aJ W τ n i).1:=by
 induction c with
 |here s=>exact λh=>⟨λ_ _=>rfl,h⟩
 |step s t m j hr _ ih=>
  intro h;have b:∀{i:Nat},i<=k->aJ W (doX W s m) n i=aJ W s n i:=λ{i} a=>jE hr (λq f=>h q E5)
  let⟨d,e⟩:=ih (λi a=>by rw[b E5];exact (h i a).mono hr);exact⟨λi a=>(d i a).trans (b a),e⟩
theorem JR{j:Nat}(names:List NL)(e:bf (bn W) (doX W) σ τ j):WfX W σ->(∀n,(W n).isSome=true->n∈names)->dD names τ +j<=dD names σ:=by
 induction e with
 |here s=>exact λ_ _=>Mj _
 |step s t m j hr _ ih=>
  intro a b;have f:=ih (A_ a hr) b;let⟨r,d,_⟩:=hr;have h:=(m_ a ⟨r,d,H8⟩ names).2 (b m (a m r d).web);omega
def LV(Kq:List Qz)(Kj:List NL)(sl:List Q_):Prop:=dW Kq sl/\(∃k,bf (bn (Kk Kq)) (doX (Kk Kq)) (Qq (bu Kq Kj)) (Qq sl) k)/\AtEnd (bn (Kk Kq)) (Qq sl)
structure KY (Kq:List Qz)(Kj:List NL)(sl:List Q_)(o:mG):Prop where
 fin:LV Kq Kj sl
 res:o.res=Kj.map (pu (Kk Kq) (Qq sl))
 eG:o.eG=dm sl
 cost:o.cost=fq (Kk Kq) sl
 rest:((¬∃r∈o.res,r.over=false)/\o.code=0/\o.chain=[])\/((∃r∈o.res,r.over=false)/\o.code=1/\om (bG (Kk Kq) (Qq sl)) o.chain)
def sZ(Kq:List Qz)(Kj:List NL)(o:mG):Prop:=(o.res.length<=10/\o.chain.length<=60)/\((bE Kq 0/\eP Kj/\∃sl,KY Kq Kj sl o)\/(¬(bE Kq 0/\eP Kj)/\o=BV))
theorem bf.zero{α ι :Type}{ready:α-> ι ->Prop}{step:α-> ι ->α}{s t:α}(h:bf ready step s t k)(c:k=0):t=s:=by
 cases h with
 |here=>rfl
 |step=>omega
theorem lg(A B:List Q_)(m:NL):Qq (A++B) m=match Qq A m with|some r=>some r|none=>Qq B m:=by
 unfold Qq;rw[List.find?_append];cases A.find? λr=>decide (r.name=m)<;>rfl
variable {l:List Q_}
theorem sw :Qq l n=none↔n∉l.map (·.name):=by
 unfold Qq;rw[List.find?_eq_none];constructor
 .intro h b;let⟨r,a,e⟩:=MM.1 b;exact h r a (by simpa using e)
 .intro h r a e;exact h (MM.2 ⟨r,a,by simpa using e⟩)
theorem pY(h:(l.map (·.name)).Nodup):∀x∈l,∀y∈l,x.name=y.name->x=y:=by
 intro x d y f e;obtain⟨i,a,rfl⟩:=MB d;obtain⟨j,b,rfl⟩:=MB f;have c:=Mx.1 h;have:i=j:=by
  rcases Ny i j with g|g|g
  .exact NB (by rw[List.getElem_map,List.getElem_map];exact e) (c i j (by simpa using a) (by simpa using b) g)
  .exact g
  .exact NB (by rw[List.getElem_map,List.getElem_map];exact e.symm) (c j i (by simpa using b) (by simpa using a) g)
 subst this
 rfl
theorem gG(h:(l.map (·.name)).Nodup){r:Q_}(b:r∈l):Qq l r.name=some r:=(qx (pY h)).2 ⟨b,rfl⟩
variable {i:Nat}
theorem j_(hi:i<l.length):l.getD i Q_.zero∈l:=by simp[List.getD,hi]
theorem rF{r:Q_}(hi:i<l.length)(a:r.name= (l.getD i Q_.zero).name):(l.set i r).map (·.name)=l.map (·.name):=by
 rw[List.map_set];have:(l.map (·.name))[i]'(by simpa using hi)=r.name:=by simp[a,List.getD,hi]
 rw[<-this,List.set_getElem_self]
theorem Hd(h:(l.map (·.name)).Nodup){r:Q_}(hi:i<l.length)(a:r.name= (l.getD i Q_.zero).name)(m:NL):Qq (l.set i r) m=if m=r.name then some r else Qq l m:=by
 have b:((l.set i r).map (·.name)).Nodup:=by rw[rF hi a];exact h
 by_cases e:m=r.name
 .rw[Nz e,e];exact gG b (List.mem_iff_getElem.2 ⟨i,by simpa using hi,E9⟩)
 .rw[NA e];cases c:Qq l m with
  |none=>rw[sw,rF hi a];exact sw.1 c
  |some x=>
   let⟨j,d⟩:=aZ c;refine (qx (pY b)).2 ⟨?_,d⟩;obtain⟨k,f,rfl⟩:=MB j;refine List.mem_iff_getElem.2 ⟨k,by simpa using f,?_⟩;rw[List.getElem_set_ne];rintro rfl;exact e (by rw[<-d,a];simp[List.getD,f])
theorem nO(W:dC):∀(bs:List NL)(l:List Q_),(l.map (·.name)).Nodup->∃G,bT W l bs=l++G/\(∀g∈G,g=Q_.fresh g.name/\(W g.name).isSome=true)/\((bT W l bs).map (·.name)).Nodup
 |[],l,h=>⟨[],by unfold bT;simp,λg a=>(by cases a),by unfold bT;exact h⟩
 |b :: bs,l,h=>by
  unfold bT;by_cases c:(W b).isSome=true/\(Qq l b).isNone=true
  .have i:b∉l.map (·.name):=sw.1 (by simpa using c.2);have j:((l++[Q_.fresh b]).map (·.name)).Nodup:=by
    rw[ND,List.map_cons,List.map_nil];exact List.nodup_append.2 ⟨h,E9,λx d y f e=>by rw[Mt] at f;rw[e,f] at d;exact i d⟩
   let⟨G,k,m,n⟩:=nO W bs (l++[Q_.fresh b]) j;rw[Nz c];refine⟨Q_.fresh b :: G,by rw[k];simp,λg a=>?_,n⟩;rcases Nh.1 a with e|e
   .rw[e];exact⟨rfl,c.1⟩
   .exact m g e
  .rw[NA c];exact nO W bs l h
variable {L:List Q_}
theorem Hm{F:List Q_}(h:∀r∈F,r=Q_.fresh r.name):oq W (Qq (L++F)) (Qq L):=λn=>by
 unfold bD;cases W n with
 |none=>rfl
 |some A=>
  simp only;rw[lg];cases e:Qq L n with
  |some r=>rfl
  |none=>
   simp only;cases d:Qq F n with
   |none=>rfl
   |some r=>
    have:r.over=false:=by rw[h r (aZ d).1];rfl
    simp only;rw[this]
    rfl
structure lJ (Kq:List Qz)(L R nx:List Q_)(i:Nat)(b:Bool):Prop where
 len:nx.length=L.length
 pre:∃F,R=L++F/\∀r∈F,r=Q_.fresh r.name/\(Kk Kq r.name).isSome=true
 dif:(R.map (·.name)).Nodup
 nam:nx.map (·.name)=L.map (·.name)
 nxt:∀j,j<i->j<L.length->∃k,nx.getD j Q_.zero= (aJ (Kk Kq) (Qq L) (L.getD j Q_.zero).name k).1/\(∀m,m<k->aS (Kk Kq) (Qq L) (aJ (Kk Kq) (Qq L) (L.getD j Q_.zero).name m).1)/\¬aS (Kk Kq) (Qq L) (nx.getD j Q_.zero)
 oth:∀j,i<=j->nx.getD j Q_.zero=L.getD j Q_.zero
 led:∃k,bf (bn (Kk Kq)) (doX (Kk Kq)) (Qq L) (Qq (nx++R.drop L.length)) k
 yes:b=true->∃j,j<L.length/\nx.getD j Q_.zero≠L.getD j Q_.zero
 no:b=false->∀j,j<i->j<L.length->(nx.getD j Q_.zero).Zq= (L.getD j Q_.zero).Zq/\(nx.getD j Q_.zero).over= (L.getD j Q_.zero).over
theorem lJ.start(h:(L.map (·.name)).Nodup):lJ Kq L L L 0 false:=⟨rfl,⟨[],E9,λr c=>(by cases c)⟩,h,rfl,λj b=>aO b,λ_ _=>rfl,⟨0,by rw[List.drop_length,List.append_nil];exact .here _⟩,λh=>(by cases h),λ_ j b=>aO b⟩
variable {R nx:List Q_}
theorem lJ.nd{b:Bool}(h:lJ Kq L R nx i b):((nx++R.drop L.length).map (·.name)).Nodup/\(L.map (·.name)).Nodup:=by
 let⟨F,d,_⟩:=h.pre;have c:=h.dif;rw[d,ND] at c;refine⟨?_,(List.nodup_append.1 c).1⟩;rw[d,List.drop_left,ND,h.nam];exact c
theorem lJ.ans{b:Bool}(h:lJ Kq L R nx i b):oq (Kk Kq) (Qq R) (Qq L):=by
 let⟨F,c,d⟩:=h.pre;rw[c];exact Hm λr f=>(d r f).1
theorem lJ.next{b O:Bool}(h:lJ Kq L R nx i b)(P:ClT (Kk Kq) (Qq L))(hi:i<L.length)(s:n= (L.getD i Q_.zero).name)(C:∀j,j<k->aS (Kk Kq) (Qq R) (aJ (Kk Kq) (Qq R) n j).1)(h2:¬aS (Kk Kq) (Qq R) (aJ (Kk Kq) (Qq R) n k).1)(t:O= (b || decide ((aJ (Kk Kq) (Qq R) n k).1.Zq≠(L.getD i Q_.zero).Zq) || decide ((aJ (Kk Kq) (Qq R) n k).1.over≠(L.getD i Q_.zero).over))):lJ Kq L (bT (Kk Kq) R (aJ (Kk Kq) (Qq R) n k).2) (nx.set i (aJ (Kk Kq) (Qq R) n k).1) (i+1) O:=by
 have v:=h.nd;have Q:=h.ans;simp only[Q.again n,Q.can] at C h2 t⊢;let⟨F,w,hf⟩:=h.pre;let⟨f,l⟩:=aj ((aJ (Kk Kq) (Qq L) n k).1);let⟨D,S⟩:=aj ((aJ (Kk Kq) (Qq L) n k).2);rw[<-l] at h2 t⊢;rw[<-S];have T:f.name=n:=by rw[l];exact lL k
 let⟨G,E,g2,g3⟩:=nO (Kk Kq) D R h.dif;have y:i<nx.length:=by rw[h.len];exact hi
 have H:(nx.getD i Q_.zero)=L.getD i Q_.zero:=h.oth i (Mj _);have U:f.name= (nx.getD i Q_.zero).name:=by rw[T,s,H]
 have a2:(nx.map (·.name)).Nodup:=by rw[h.nam];exact v.2
 have c:∀j,(nx.set i f).getD j Q_.zero=if j=i then f else nx.getD j Q_.zero:=λj=>by
  by_cases e:j=i
  .subst e;rw[Nz rfl];simp[List.getD,y]
  .rw[NA e];simp[List.getD,MI (Ne.symm e)]
 refine⟨by rw[Nu];exact h.len,⟨F++G,by rw[E,w,List.append_assoc],λV hr=>?_⟩,g3,by rw[rF y U];exact h.nam,λj d I=>?_,λj d=>?_,?_,λJ=>?_,λp j d I=>?_⟩
 .rcases Mv.1 hr with e|e
  .exact hf V e
  .exact g2 V e
 .rw[c];by_cases e:j=i
  .subst e;rw[Nz rfl,<-s];exact⟨k,l,C,h2⟩
  .rw[NA e];exact h.nxt j E5 I
 .rw[c,NA E5];exact h.oth j E5
 .obtain⟨k1,z⟩:=h.led;have X:=P.led z;let⟨q,K⟩:=Gd (n:=n) (k:=k) z C;have a3:R.drop L.length=F:=by rw[w,List.drop_left]
  have a4:(bT (Kk Kq) R D).drop L.length=F++G:=by rw[E,w,List.append_assoc,List.drop_left]
  rw[a3] at z X q K v;rw[a4];let⟨τ,hτ⟩:=aj (Qq (nx++F));have a5:L.getD i Q_.zero∈nx++F:=Mv.2 (.inl (by rw[<-H];exact j_ y));have Y:Qq (nx++F) n=some (L.getD i Q_.zero):=by rw[s];exact gG v.1 a5
  -- where the run stands
  have a6:Qq L n=some (L.getD i Q_.zero):=by rw[s];exact gG v.2 (j_ hi)
  let⟨M,L0,a,A,Z⟩:=P.Jv n _ a6;rw[M] at A Z;have N:a<=k:=by
   rcases Nat.lt_or_ge k a with g|g
   .exact NB (by rw[l];exact Z k g) h2
   .exact g
  have a7:=X.cl n _ L0 Y (by
   refine⟨a,?_,λj d=>?_⟩
   .rw[M,q a N];exact A
   .rw[M];exact K j E5)
  have a0:=zF (W:=Kk Kq) (n:=n) (k-a) (σ:=Qq (nx++F)) (k0:=a) (by rw[q a N,A];exact Y) (λj d=>K j E5) (λa8 B r=>a7 a8 (by rw[q a N,A] at B;exact B) r);rw[show a+(k-a)=k by omega] at a0;have a9:Qq (nx.set i f++(F++G))=Cv (Kk Kq) (Qq (nx++F)) n k:=by
   funext m
   unfold Cv;rw[q k (Mj _),<-l,<-S,lg,Hd a2 y U,T];by_cases e:m=n
   .rw[Nz e,Nz e]
   .rw[NA e,NA e,lg nx F];cases hx:Qq nx m with
    |some x=>rfl
    |none=>
     simp only;rw[lg F G];cases B:Qq F m with
     |some x=>rfl
     |none=>
      simp only;have b0:Qq L m=none:=by rw[sw,<-h.nam];exact sw.1 hx
      have r:=mZ (Kk Kq) D R m;rw[E,lg,w,lg,b0] at r;simp only[B] at r;exact r
  rw[a9];exact⟨_,z.trans a0⟩
 .rw[t] at J;simp only[Bool.or_eq_true,NF] at J;rcases J with (g|g)|g
  .obtain⟨j,d,a1⟩:=h.yes g;have:j≠i:=λe=>a1 (by rw[e];exact H)
   exact⟨j,d,by rw[c,NA this];exact a1⟩
  .exact⟨i,hi,by rw[c,Nz rfl];exact λe=>g (by rw[e])⟩
  .exact⟨i,hi,by rw[c,Nz rfl];exact λe=>g (by rw[e])⟩
 .rw[t] at p;simp only[Bool.or_eq_false_iff,decide_eq_false_iff_not,Decidable.not_not] at p;rw[c];by_cases e:j=i
  .rw[Nz e,e];exact⟨p.1.2,p.2⟩
  .rw[NA e];exact h.no p.1.1 j E5 I
theorem lJ.still(h:lJ Kq L R nx L.length false)(e:ClT (Kk Kq) (Qq L))(D:R.length=L.length):nx++R.drop L.length=L/\AtEnd (bn (Kk Kq)) (Qq L):=by
 have f:∀j,j<L.length->nx.getD j Q_.zero=L.getD j Q_.zero/\¬aS (Kk Kq) (Qq L) (L.getD j Q_.zero):=λj a=>by
  let⟨k,b,i,l⟩:=h.nxt j a a;let⟨v,w⟩:=h.no rfl j a a;have m:=gG h.nd.2 (j_ a);let⟨_,E,c,n,p⟩:=e.Jv _ _ m;have q:=e.web _ _ m;have F:c<=k:=by
   rcases Nat.lt_or_ge k c with g|g
   .exact NB (by rw[b];exact p k g) l
   .exact g
  rcases Nat.lt_or_ge c k with g|g
  .exfalso
   have d:=(i c g).1;have r:=fH q p d;rw[n] at d r;have x:(aJ (Kk Kq) (Qq L) (L.getD j Q_.zero).name k).1.over=false:=by rw[<-b,w];exact d
   have y:=fH q i x;rw[<-b,v] at y;simp only at r;omega
  .obtain rfl:c=k:=E5;rw[n] at b;have s:nx.getD j Q_.zero=L.getD j Q_.zero:=b;exact⟨s,by rw[<-s];exact l⟩
 have z:nx=L:=by
  apply List.ext_getElem h.len;intro j A t;have:=(f j t).1;simpa[List.getD,A,t] using this
 refine⟨?_,λG ⟨H,B,C⟩=>?_⟩
 .rw[z,List.drop_of_length_le E5,List.append_nil]
 .obtain⟨j,a,rfl⟩:=MB (aZ B).1;exact (f j a).2 (by simpa[List.getD,a] using C)
theorem lJ.moved{b:Bool}(h:lJ Kq L R nx i b)(q:WfX (Kk Kq) (Qq L))(c:b=true\/L.length<R.length):dD (Kq.map (·.name)) (Qq (nx++R.drop L.length))<dD (Kq.map (·.name)) (Qq L):=by
 let⟨r,f⟩:=h.led;have y:=JR (Kq.map (·.name)) f q λz s=>l_ s;rcases Nat.eq_zero_or_pos r with k|k
 .exfalso
  subst k;have l:Qq (nx++R.drop L.length)=Qq L:=f.zero rfl;rcases c with g|g
  .obtain⟨j,d,t⟩:=h.yes g;have m:j<nx.length:=by rw[h.len];exact d
   have a:=gG h.nd.1 (Mv.2 (.inl (j_ m)));have v:=gG h.nd.2 (j_ d);have w:(nx.getD j Q_.zero).name= (L.getD j Q_.zero).name:=by
    have:=congrArg (λx=>x[j]?) h.nam;simpa[List.getD,m,d] using this
   rw[l,w,v] at a;exact t (by simpa using a.symm)
  .obtain⟨F,e,_⟩:=h.pre;have n:0<F.length:=by rw[e,M_] at g;omega
   have c:F[0]∈nx++R.drop L.length:=by rw[e,List.drop_left];exact Mv.2 (.inr (Mw n))
   have a:=gG h.nd.1 c;rw[l] at a;have p:=h.dif;rw[e,ND] at p;exact (List.nodup_append.1 p).2.2 _ (MM.2 ⟨_,(aZ a).1,(aZ a).2⟩) _ (MM.2 ⟨F[0],Mw n,rfl⟩) rfl
 .omega
structure mY (Kq:List Qz)(Kj:List NL)(L:List Q_)(ag:Bool)(gg:Nat):Prop where
 nd:(L.map (·.name)).Nodup
 good:dz Kq (Qq L)
 led:∃k,bf (bn (Kk Kq)) (doX (Kk Kq)) (Qq (bu Kq Kj)) (Qq L) k
 fin:ag=false->AtEnd (bn (Kk Kq)) (Qq L)
 gg:gg=if ag=true then dD (Kq.map (·.name)) (Qq L)+1 else 0
section
variable {Kq:List Qz}{Kj:List NL}{L R nx:List Q_}{ag b:Bool}{gg:Nat}
theorem mY.cl(h:mY Kq Kj L ag gg):ClT (Kk Kq) (Qq L):=by
 let⟨k,b⟩:=h.led;exact (ClT.start Kj).led b
theorem mY.wf(h:mY Kq Kj L ag gg):WfX (Kk Kq) (Qq L):=λn r d=>by
 let⟨f,e⟩:=h.good n r d;refine⟨f,h.cl.web n r d,e.lo,e.hi⟩
theorem mY.all(h:mY Kq Kj L ag gg):∀r∈L,r.Good Kq:=λr b=>(h.good r.name r (gG h.nd b)).2
theorem mY.len(h:mY Kq Kj L ag gg):L.length<=Kq.length:=by
 have c:∀n∈L.map (·.name),n∈Kq.map (·.name):=λn d=>by
  obtain⟨r,e,rfl⟩:=MM.1 d;exact l_ (h.cl.web _ _ (gG h.nd e))
 have:=List.Nodup.length_le_of_subset h.nd c;simpa using this
theorem IC{Kq:List Qz}(f:bH (Kk Kq))(h:bf (bn (Kk Kq)) (doX (Kk Kq)) σ τ k)(i:dz Kq σ):dz Kq τ :=h.keeps (P:=dz Kq) (λs n g b=>by
  let⟨r,b,j⟩:=b;intro m q a;rw[dY b] at a;by_cases e:m=n
  .rw[Nz e] at a;cases a;exact⟨by rw[dx,(g n r b).1,e],dU f g (g n r b).2 j⟩
  .rw[NA e] at a;cases d:s m with
   |some x=>rw[d] at a;cases a;exact g m _ d
   |none=>
    rw[d] at a;simp only at a
    split at a
    .next c=>cases a;exact⟨rfl,gP f c.2⟩
    .cases a) i
theorem zu(Kq:List Qz)(Kj:List NL):Qq (bT (Kk Kq) [] Kj)=Qq (bu Kq Kj):=by
 funext n
 rw[iF,mZ]
 rfl
theorem mY.start{Kq:List Qz}(a:bH (Kk Kq))(Kj:List NL):mY Kq Kj (bT (Kk Kq) [] Kj) true (dD (Kq.map (·.name)) (Qq (bT (Kk Kq) [] Kj))+1):=by
 let⟨G,_,_,b⟩:=nO (Kk Kq) Kj [] List.nodup_nil;refine⟨b,?_,⟨0,?_⟩,λh=>(by cases h),by rw[Nz rfl]⟩
 .rw[zu];exact (gX a Kj).env
 .rw[zu];exact .here _
theorem mY.next(l:bH (Kk Kq))(h:mY Kq Kj L true gg)(a:lJ Kq L R nx L.length b){c:Bool}(e:c= (b || decide (L.length<R.length))):mY Kq Kj (nx++R.drop L.length) c (if c=true then dD (Kq.map (·.name)) (Qq (nx++R.drop L.length))+1 else 0)/\(if c=true then dD (Kq.map (·.name)) (Qq (nx++R.drop L.length))+1 else 0)<gg:=by
 let⟨v,m⟩:=h.led;let⟨w,i⟩:=a.led;have n:=a.pre;refine⟨⟨a.nd.1,IC l i h.good,⟨_,m.trans i⟩,λp=>?_,rfl⟩,?_⟩
 .rw[p] at e;have d:=e.symm;simp only[Bool.or_eq_false_iff,decide_eq_false_iff_not] at d;let⟨F,q,_⟩:=n;have r:R.length=L.length:=by
   have:L.length<=R.length:=by rw[q,M_];omega
   omega
  have j:=a;rw[d.1] at j;let⟨s,t⟩:=j.still h.cl r;rw[s];exact t
 .have k:=h.gg;rw[Nz rfl] at k;rw[k];by_cases f:c=true
  .rw[Nz f];rw[f] at e;have:=a.moved h.wf (by
    have d:=e.symm;simp only[Bool.or_eq_true,NF] at d;exact d)
   omega
  .rw[NA f];omega
end
theorem Dx{a:List Q_}(h:l.Perm a):dm l=dm a:=by
 unfold dm
 induction h with
 |nil=>rfl
 |cons x _ ih=>simp only[List.map_cons,List.sum_cons,ih]
 |swap x y l=>simp only[List.map_cons,List.sum_cons];omega
 |trans _ _ i1 i2=>rw[i1,i2]
theorem Gx(W:dC){a:List Q_}(h:l.Perm a):fq W l=fq W a:=by
 unfold fq
 induction h with
 |nil=>rfl
 |cons x _ ih=>simp only[List.map_cons,List.sum_cons,ih]
 |swap x y l=>simp only[List.map_cons,List.sum_cons];omega
 |trans _ _ i1 i2=>rw[i1,i2]
theorem mY.sorted{Kj:List NL}{gg:Nat}(h:mY Kq Kj L false gg):LV Kq Kj (L.foldl dh [])/\Qq (L.foldl dh [])=Qq L/\dm (L.foldl dh [])=dm L/\fq (Kk Kq) (L.foldl dh [])=fq (Kk Kq) L:=by
 let⟨f,m⟩:=jY L [] List.Pairwise.nil (pY h.nd);have c:Qq (L.foldl dh [])=Qq L:=by
  funext n
  rw[m];cases Qq L n<;>rfl
 have k:∀r,r∈L.foldl dh []↔r∈L:=λr=>by
  constructor
  .intro d;have e:=bJ f d;rw[c] at e;exact (aZ e).1
  .intro d;have e:=gG h.nd d;rw[<-c] at e;exact (aZ e).1
 have p:L.Nodup:=List.Pairwise.of_map (·.name) (λa b i j=>i (by rw[j])) h.nd;have q:(L.foldl dh []).Nodup:=List.Pairwise.imp (R:=λx y:Q_=>aQ x.name y.name) (S:=λx y=>x≠y) (λ{a b} i (j:a=b)=>dO i (congrArg Q_.name j)) f;have l:=(List.perm_ext_iff_of_nodup q p).2 k;refine⟨⟨⟨f,λr d=>h.all r ((k r).1 d)⟩,?_,?_⟩,c,Dx l,Gx _ l⟩
 .rw[c];exact h.led
 .rw[c];exact h.fin rfl
section
variable {W:dC}{σ τ:Env}
theorem KM{k:Nat}(h:bf (bn W) (doX W) σ τ k):bf (Behind (W:=W) (λr _=>r.over=false) λn=>some (Q_.fresh n)) (doX W) σ τ k:=h.wide λ_ _ a=>⟨a,by let⟨r,c,d⟩:=a;exact⟨r,_,c,rfl,d.1⟩⟩
theorem LJ{τ :Env}:∀{j:Nat}{σ:Env},WfX W σ->bf (bn W) (doX W) σ τ j->bf (Behind (W:=W) bL τ) (doX W) σ τ j:=by
 intro j
 induction j with
 |zero=>intro σ _ h;cases h;exact .here _
 |succ j ih=>
  intro σ b h;cases h with
  |step _ _ n _ hn hr=>
   have c:=A_ b hn;refine .step _ _ n _ ⟨hn,?_⟩ (ih c hr);let⟨r,a,i⟩:=hn;let⟨g,d,l⟩:=rU (KM hr) c (je a);have f:=b n r a;refine⟨r,g,a,d,?_⟩;rcases fI i (by rw[f.name];exact f.web) with e|⟨e1,e,eo⟩
   .exact .inl E5
   .have k:=uQ (KM hr) (je a) (λ_ _ e=>by rw[eo] at e;cases e);obtain rfl:=Nl (d.symm.trans k);exact .inr ⟨E5,eo,E5⟩
theorem DJ{r:Q_}(h:aS W σ r)(c:(W r.name).isSome=true):(Xx W σ r).1.Zq=r.Zq+1\/(r.Zq=20/\(Xx W σ r).1= {r with over:=true,fail:=true,text:=iT}):=by
 by_cases a:r.Zq=20
 .rcases h.2 with b|⟨f,i,b,d⟩
  .omega
  .exact .inr ⟨a,by unfold Xx;simp[b,d,a]⟩
 .rcases fI h c with e|⟨e,_⟩
  .exact .inl e
  .exact NB e a
end
theorem CK{Kq:List Qz}{Kj:List NL}{sl:List Q_}{k:Nat}(a:bE Kq 0)(e:eP Kj)(b:dW Kq sl)(f:bf (bn (Kk Kq)) (doX (Kk Kq)) (Qq (bu Kq Kj)) (Qq sl) k):bR Kq Kj sl:=by
 refine⟨a,e,b.len,k,sl,b,LJ (gX (bV a) Kj).wf f,?_,rfl⟩;rintro n ⟨⟨r,i,j⟩,m,g,c,d,l⟩;rw[i] at c d;obtain rfl:=Nl c;obtain rfl:=Nl d;rcases l with h|⟨_,h,_⟩
 .omega
 .rw[j.1] at h;cases h
theorem GA{Kq:List Qz}{T:List Q_}(b:dW Kq T)(h:dA (Kk Kq) (Qq T) T []):AtEnd (bn (Kk Kq)) (Qq T):=λn e=>by
 have:=(h.ready b.asc n).2 e;cases this
def OnC(E:NL->NL->Prop)(c:NL):Prop:=∃n,aX E (n+1) c c
def IK(E:NL->NL->Prop)(x:NL):Prop:=∃c n,aX E n x c/\OnC E c
section
variable {E:NL -> NL -> Prop}{done reach out:List NL}{x:NL}
end
theorem BQ(w:NN)(x y:NL):Calls prog 191 #[.string x,.string y] w λe w'=>e=.returned (.bool (Op.bytesLess x.toList y.toList))/\w'=w:=by
 cases a:Op.bytesLess x.toList y.toList
 all_goals
  go_enter func191,ntmps191
  go_wp2
  go_ret
  exact⟨rfl,rfl⟩
theorem yJ(w:NN)(x:NL):Calls prog 192 #[.string x] w λe w'=>e=.returned (.bool false)/\w'=w:=by
 go_enter func192,ntmps192
 go_wp2
 go_ret
 exact⟨rfl,rfl⟩
def ry(l:List NL)(s:NL)(e:Ending):Prop:=∃(k:Nat)(b:Bool),e=.returned (.tuple #[.a (k:Int),.bool b])/\(b=true->k<l.length/\l.getD k ByteArray.empty=s)/\(b=false->s∉l)
theorem ry.mk{l:List NL}{s:NL}{e:Ending}(k:Nat)(b:Bool)(h:e=.returned (.tuple #[.a (k:Int),.bool b]))(c:b=true->k<l.length/\l.getD k ByteArray.empty=s)(h2:b=false->s∉l):ry l s e:=⟨k,b,h,c,h2⟩
theorem BR(w:NN)(a:NM)(cap:Nat)(l:List NL)(s:NL)(V:l.length<=1048576)(D:qJ l)(E:Strs w a l):Calls prog 170 #[.slice a l.length cap,.string s] w λe w'=>ry l s e/\w'=w:=by
 have v:Hid (∀p q,p<q->q<l.length->aQ (l.getD p ByteArray.empty) (l.getD q ByteArray.empty)):=λp q n c=>by
  have:=Mx.1 D p q E5 c n;simpa[List.getD,c,show p<l.length by omega] using this
 clear D;go_enter func170,ntmps170
 go_wp2
 go_loopw [7,8] (λx y wr=>∃i j:Nat,x=.a i/\y=.a j/\i<=j/\j<=l.length/\Hid (∀t,t<i->aQ (l.getD t ByteArray.empty) s)/\Hid (∀t,j<=t->t<l.length->¬aQ (l.getD t ByteArray.empty) s)/\wr=w) (λx y _=>(intOf y).toNat-(intOf x).toNat)
 case atStart=>exact⟨0,l.length,rfl,rfl,Ml _,Mj _,Kz λt F=>aO F,Kz λt n c=>E5,rfl⟩
 case round=>
  obtain⟨i,j,rfl,rfl,W,Q,G,H,rfl⟩:=hrel;by_cases X:(i:Int)<j
  .obtain⟨h,I⟩:∃h:Nat,h= (i+j) / 2:=⟨_,rfl⟩;have J:h<l.length:=E5;have R:i<=h:=E5;have Y:h<j:=E5;obtain⟨b,o,rfl,S,r⟩:=E h J;let⟨d,f⟩:=aj (l.getD h ByteArray.empty);rw[<-f] at r;have k:=Kz f;clear f;have Z:((i:Int)+(j:Int)) / 2= (h:Int):=E5;have HH:=Kz I;clear I;go_wp2_with fail
   refine (BQ _ d s).mono ?_;rintro e T ⟨rfl,rfl⟩;clear r;cases K:Op.bytesLess d.toList s.toList
   .go_wp2
    go_roundw
    case rel=>
     refine⟨i,h,rfl,F3,R,E5,G,Kz λt n c L=>?_,trivial⟩;have M:¬aQ (l.getD h ByteArray.empty) s:=λg=>by rw[<-k.o] at g;unfold aQ at g;rw[K] at g;cases g
     rcases Nat.lt_or_ge h t with e|e
     .exact M (gm (v.o h t e c) L)
     .have:t=h:=E5;subst this;exact M L
    case measure=>simp[intOf];omega
   .go_wp2
    go_roundw
    case rel=>
     refine⟨h+1,j,F3,rfl,E5,Q,Kz λt F=>?_,H,trivial⟩;have N:aQ (l.getD h ByteArray.empty) s:=by rw[<-k.o];exact K
     rcases Nat.lt_or_ge t h with e|e
     .exact gm (v.o t h e J) N
     .have:t=h:=E5;subst this;exact N
    case measure=>simp[intOf];omega
  .have U:i=j:=E5;subst U;have O:Hid (s∈l->i<l.length/\l.getD i ByteArray.empty=s):=λm=>by
    let⟨q,z,e⟩:=MB m;have A:l.getD q ByteArray.empty=s:=by simpa[List.getD,z] using e
    have n:¬q<i:=λg=>by have:=G.o q g;rw[A] at this;exact a_ _ this
    have c:q=i:=by
     rcases Nat.lt_or_ge i q with g|g
     .have P:=v.o i q g z;rw[A] at P;exact NB P (H.o i (Mj _) E5)
     .omega
    subst c;exact⟨z,A⟩
   by_cases B:i<l.length
   .obtain⟨b,o,rfl,S,r⟩:=E i B;let⟨d,f⟩:=aj (l.getD i ByteArray.empty);rw[<-f] at r;have k:=Kz f;clear f;have a0:(i:Int)<(l.length:Int):=E5;cases C:(d.toList == s.toList)
    .go_wp2_with (first|(go_at_call 192;refine (yJ _ _).mono ?_;rintro e T ⟨rfl,rfl⟩))
     go_ret2
     exact⟨ry.mk i false rfl (λh=>by cases h) (λ_ m=>by
      have c:=(O.o m).2;rw[<-k.o] at c;rw[c] at C;simp at C),rfl⟩
    .go_wp2
     go_ret2
     exact⟨ry.mk i true rfl (λ_=>⟨B,by rw[<-k.o];exact fC C⟩) (λh=>by cases h),rfl⟩
   .go_wp2
    go_ret2
    exact⟨ry.mk i false rfl (λh=>by cases h) λ_ m=>B (O.o m).1,rfl⟩
structure gH (E:NL->NL->Prop)(nm:List NL)(k:Nat)(S:List NL)(j M:Nat)(need back:Nat->List Nat):Prop where
 fwd:∀p q,q∈need p↔(p<k/\dK E nm p q)\/(p=k/\∃hq:q<nm.length,nm[q]∈S.take j)
 bwd:∀p q,p∈back q↔(p<k/\dK E nm p q)\/(p=k/\∃hq:q<nm.length,nm[q]∈S.take j)
 asc:∀p,(need p).Pairwise (· <= ·)
 len:∀p,(need p).length<=M/\(back p).length<=M
structure CR (E:NL->NL->Prop)(nm:List NL)(M:Nat)(need back:Nat->List Nat):Prop where
 fwd:∀p q,q∈need p↔dK E nm p q
 bwd:∀p q,p∈back q↔dK E nm p q
 asc:∀p,(need p).Pairwise (· <= ·)
 len:∀p,(need p).length<=M/\(back p).length<=M
section
variable {E:NL -> NL -> Prop}{nm S:List NL}{k j M:Nat}{need back:Nat -> List Nat}
theorem gH.start(E:NL->NL->Prop)(nm S:List NL):gH E nm 0 S 0 0 (λ_=>[]) (λ_=>[]):=⟨λp q=>E9,λp q=>E9,λp=>List.Pairwise.nil,λp=>⟨Mj _,Mj _⟩⟩
theorem gH.enter(h:gH E nm k S 0 M need back)(b:List NL):gH E nm k b 0 M need back:=⟨λp q=>by rw[h.fwd];simp,λp q=>by rw[h.bwd];simp,h.asc,h.len⟩
theorem gH.leave(h:gH E nm k S j M need back)(f:k<nm.length)(i:S.length<=j)(c:∀y,y∈S↔E nm[k] y):gH E nm (k+1) [] 0 M need back:=by
 have d:∀p q,(p<k/\dK E nm p q)\/(p=k/\∃b:q<nm.length,nm[q]∈S.take j)↔(p<k+1/\dK E nm p q)\/(p=k+1/\∃b:q<nm.length,nm[q]∈([]:List NL).take 0):=λp q=>by
  rw[MU i];constructor
  .rintro (⟨l,a⟩|⟨rfl,b,a⟩)
   .exact .inl ⟨E5,a⟩
   .exact .inl ⟨E5,f,b,(c _).1 a⟩
  .rintro (⟨l,m,b,a⟩|⟨_,_,a⟩)
   .by_cases e:p=k
    .subst e;exact .inr ⟨rfl,b,(c _).2 a⟩
    .exact .inl ⟨E5,m,b,a⟩
   .simp at a
 exact⟨λp q=>(h.fwd p q).trans (d p q),λp q=>(h.bwd p q).trans (d p q),h.asc,h.len⟩
theorem gH.skip(h:gH E nm k S j M need back)(e:j<S.length)(f:S[j]∉nm):gH E nm k S (j+1) M need back:=by
 have d:∀q:Nat,(∃a:q<nm.length,nm[q]∈S.take j)↔∃a:q<nm.length,nm[q]∈S.take (j+1):=λq=>by
  rw[Ms e];constructor
  .rintro⟨a,c⟩;exact⟨a,Mv.2 (.inl c)⟩
  .rintro⟨a,c⟩;rcases Mv.1 c with b|b
   .exact⟨a,b⟩
   .rw[Mt] at b;exact NB (by rw[<-b];exact Mw a) f
 exact⟨λp q=>by rw[h.fwd,d],λp q=>by rw[h.bwd,d],h.asc,h.len⟩
theorem gH.put(m:jb E nm)(h:gH E nm k S j M need back)(n:j<S.length)(v:S.Pairwise λa b=>¬aQ b a){q:Nat}(i:q<nm.length)(l:nm[q]=S[j])(C:k<nm.length)(D:∀y∈S,E nm[k] y):gH E nm k S (j+1) (M+1) (λp=>if p=k then need k++[q] else need p) (λp=>if p=q then back q++[k] else back p):=by
 have s:∀r:Nat,(∃f:r<nm.length,nm[r]∈S.take (j+1))↔(∃f:r<nm.length,nm[r]∈S.take j)\/r=q:=λr=>by
  rw[Ms n];constructor
  .rintro⟨f,d⟩;rcases Mv.1 d with c|c
   .exact .inl ⟨f,c⟩
   .rw[Mt,<-l] at c;exact .inr (m.inj f i c)
  .rintro (⟨f,d⟩|rfl)
   .exact⟨f,Mv.2 (.inl d)⟩
   .exact⟨i,Mv.2 (.inr (by rw[l];simp))⟩
 refine⟨λp r=>?_,λp r=>?_,λp=>?_,λp=>⟨?_,?_⟩⟩
 .rw[s];by_cases e:p=k
  .subst e;simp only[if_true,Mv,Mt,h.fwd];constructor
   .rintro ((⟨d,c⟩|⟨_,c⟩)|c)
    .exact .inl ⟨d,c⟩
    .exact .inr ⟨trivial,.inl c⟩
    .exact .inr ⟨trivial,.inr c⟩
   .rintro (⟨d,c⟩|⟨_,c|c⟩)
    .exact .inl (.inl ⟨d,c⟩)
    .exact .inl (.inr ⟨trivial,c⟩)
    .exact .inr c
  .show (r∈if p=k then need k++[q] else need p)↔_;rw[NA e,h.fwd];simp only[e,false_and,or_false]
 .rw[s];by_cases e:r=q
  .subst e;simp only[if_true,Mv,Mt,h.bwd];constructor
   .rintro ((d|⟨d,c⟩)|d)
    .exact .inl d
    .exact .inr ⟨d,.inl c⟩
    .exact .inr ⟨d,.inr trivial⟩
   .rintro (d|⟨d,c|_⟩)
    .exact .inl (.inl d)
    .exact .inl (.inr ⟨d,c⟩)
    .exact .inr d
  .show (p∈if r=q then back q++[k] else back r)↔_;rw[NA e,h.bwd];simp only[e,or_false]
 .by_cases e:p=k
  .subst e;simp only[if_true];rw[MP];refine⟨h.asc p,E9,λa w b t=>?_⟩;rw[Mt] at t;subst t;rcases (h.fwd p a).1 w with⟨d,_⟩|⟨_,x,c⟩
   .omega
   .obtain⟨z,F,A⟩:=List.mem_take_iff_getElem.1 c;have B:=Mx.1 v z j E5 n E5;rw[A,<-l,m.less i x] at B;omega
  .simp only[NA e];exact h.asc p
 .by_cases e:p=k
  .simp only[e,if_true,M_,NG];have:=(h.len k).1;omega
  .simp only[NA e];have:=(h.len p).1;omega
 .by_cases e:p=q
  .simp only[e,if_true,M_,NG];have:=(h.len q).2;omega
  .simp only[NA e];have:=(h.len p).2;omega
theorem gH.whole(h:gH E nm nm.length [] 0 M need back):CR E nm M need back:=by
 have e:∀p q,(p<nm.length/\dK E nm p q)\/(p=nm.length/\∃hq:q<nm.length,nm[q]∈([]:List NL).take 0)↔dK E nm p q:=λp q=>by
  constructor
  .rintro (⟨_,c⟩|⟨_,_,c⟩)
   .exact c
   .simp at c
  .intro c;exact .inl ⟨c.1,c⟩
 exact⟨λp q=>(h.fwd p q).trans (e p q),λp q=>(h.bwd p q).trans (e p q),h.asc,h.len⟩
end
section
variable {R:Nat -> Nat -> Prop}{t:Nat}
structure qK (R:Nat->Nat->Prop)(t n:Nat)(l:List Nat)(a q:Nat):Prop where
 len:l.length+q=n+1
 pos:1<=q
 more:2<=q->∃y,R a y/\Far R t (q-1) y
 last:∃l0,l=l0++[a]
 rest:∀r,lW R t q a r->lW R t n t (l.dropLast++r)
theorem qK.start{n:Nat}(h:lM R t n):qK R t n [t] t n:=by
 refine⟨F6,h.1,λe=>?_,⟨[],rfl⟩,λr b=>b⟩;obtain⟨m,rfl⟩:∃m,n=m+1:=⟨n-1,E5⟩;let⟨y,a,c⟩:=h.2.1.first
 refine⟨y,a,c,λi f d=>h.2.2 (i+1) E5 E5 (.step a d)⟩
theorem qK.next{n q a x:Nat}{l:List Nat}(h:qK R t n l a (q+1))(e:1<=q)(b:Ar (λy=>R a y/\Far R t q y) x):qK R t n (l++[x]) x q:=by
 let⟨i,c⟩:=h.last;refine⟨by have:=h.len;rw[M_];simp;omega,e,λj=>?_,⟨l,rfl⟩,λr f=>?_⟩
 .obtain⟨m,rfl⟩:∃m,q=m+1:=⟨q-1,E5⟩;exact b.1.2.next
 .have d:=h.rest (a :: r) (lW.step b f);rw[List.dropLast_concat];rw[c,List.dropLast_concat] at d;rw[c,List.append_assoc];exact d
theorem qK.done{n a:Nat}{l:List Nat}(h:qK R t n l a 1):lW R t n t l:=by
 let⟨e,c⟩:=h.last;have d:=h.rest [a] (lW.stop a);rw[c,List.dropLast_concat] at d;rw[c];exact d
theorem AV{p:Nat->Prop}{l:List Nat}(d:l.Pairwise (· <= ·))(e:∀y,p y->y∈l){k:Nat}(f:k<l.length)(h:p l[k])(i:∀j (a:j<l.length),j<k->¬p l[j]):Ar p l[k]:=by
 refine⟨h,λy c=>?_⟩;obtain⟨j,a,rfl⟩:=MB (e y c);rcases Ny j k with b|rfl|b
 .exact NB c (i j a b)
 .exact Mj _
 .exact Mx.1 d k j f a b
end
