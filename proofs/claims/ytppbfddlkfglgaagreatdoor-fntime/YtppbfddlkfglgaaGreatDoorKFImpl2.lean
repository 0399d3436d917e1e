import Derived.Test.YtppbfddlkfglgaaGreatDoorKShelfS
import Derived.Test.YtppbfddlkfglgaaGreatDoorKOFind2
import Derived.Deep.RegionHeldLaw
import Derived.Test.YtppbfddlkfglgaaGreatDoorKDDrawW
import Derived.Test.YtppbfddlkfglgaaGreatDoorKWGo7b
set_option maxRecDepth 100000
set_option maxHeartbeats 25600000
namespace Go.Proofs.YtppbfddlkfglgaaGreatDoor
open Go.RowKit Go.Proofs.Tryz
theorem Nf{a b:QV}(h:(a.toList == b.toList)=true):a=b:=by
 have c:a.toList=b.toList:=by simpa using h
 rw[ByteArray.toList_eq,ByteArray.toList_eq] at c;cases a;cases b;simp at c;rw[c]
theorem uI(w:QX)(a:QW)(cap:Nat)(l:List QV)(x:QV)(t:l.length<=1048576)(p:Strs w a l):
  Calls prog 69 #[.slice a l.length cap,.string x] w λe w'=>Says e (x∈l)/\w'=w:=by
 go_enter func69,ntmps69
 go_wp2
 go_loopw [5] (λi wr=>∃k:Nat,k<=l.length/\i=.b (k:Int)/\Hid (x∉l.take k)/\wr=w) λi _=>l.length-(intOf i).toNat
 case atStart=>exact⟨0,Py _,rfl,Kz A9,rfl⟩
 case round=>
  obtain⟨k,v,rfl,j,rfl⟩:=hrel;by_cases c:k<l.length
  .obtain⟨b,o,q,z,r⟩:=p k c;subst q;obtain⟨y,d⟩:=aj (l.getD k ByteArray.empty);rw[<-d] at r;have m:l[k]=y:=by rw[d];simp[List.getD,c]
   have n:=Kz m;have A:(k:Int)<(l.length:Int):=A7;clear d m;cases f:(y.toList == x.toList)
   .go_wp2
    go_roundw
    case rel=>
     refine⟨k+1,A7,C8,Kz λh=>?_,trivial⟩;rw[PH c,n.o] at h;rcases PK.1 h with h|h
     .exact j.o h
     .rw[PI] at h;rw[h] at f;simp at f
    case measure=>simp[intOf];omega
   .go_wp2
    go_ret
    exact⟨Says.yes (by rw[<-Nf f,<-n.o];exact PL c),rfl⟩
  .have B:¬((k:Int)<(l.length:Int)):=A7;have s:Hid (x∉l):=by have h:=j.o;rw[Qd A7] at h;exact h
   clear c;go_wp2
   go_ret
   exact⟨Says.no s.o,rfl⟩
theorem qL(w:QX)(s:QV)(b:s.size<=1048576):Calls prog 98 #[.string s] w λe w'=>e=.returned (.string s)/\K_ w w':=by
 go_enter func98,ntmps98
 go_wp2_with fail
 refine (Tryz.stringslite_Clone s _ A7).mono ?_;rintro e w1 ⟨rfl,a⟩;go_wp2
 go_ret
 exact⟨rfl,a⟩
theorem Ec(w:QX)(a:QW)(cap:Nat)(l:List QV)(L:l.length<=1048576)(A:∀s∈l,s.size<=1048576)(B:Strs w a l):
  Calls prog 134 #[.slice a l.length cap,.func (.func 98) #[] #[]] w λe w'=>∃a',e=.returned (.slice a' l.length l.length)/\iM w' w.heap.size w'.heap.size a' l/\K_ w w':=by
 by_cases r:l.length=0
 .have C:l=[]:=QO r;subst C;go_enter func134,ntmps134
  go_wp2
  go_ret
  exact⟨none,rfl,.inl rfl,K_.refl _⟩
 .have D:=run_make_row' (P:=prog) 26 9 _ _ underlying26 Tryz.Iy rfl .i64 .i64 l.length A7 A7;have E:((l.length:Int) == 0)=false:=by simpa using r
  go_enter func134,ntmps134
  go_wp2
  clear D E;have t:Row (w.alloc (.cells (madeCells #[.string ByteArray.empty] l.length) 9)) w.heap.size l.length:=⟨_,_,World.rowIs_made w (.string ByteArray.empty) l.length 9⟩;have v:K_ w (w.alloc (.cells (madeCells #[.string ByteArray.empty] l.length) 9)):=Below.alloc (Below.refl _ _) (Pw _) _;go_loopw [16] (λi wr=>∃k:Nat,k<=l.length/\i=.b k/\K_ w wr/\Row wr w.heap.size l.length/\∀j,j<k->wr.cell? ⟨w.heap.size,j,none⟩=some (.string (l.getD j ByteArray.empty))) λi _=>l.length-(intOf i).toNat
  case atStart=>exact⟨0,Py _,rfl,v,t,λj d=>aS d⟩
  case round=>
   obtain⟨k,M,rfl,f,c,x⟩:=hrel;clear t v;have m:=Kz x;by_cases n:k<l.length
   .obtain⟨b,o,rfl,N,y⟩:=B.kept f k n;have z:=A (l.getD k ByteArray.empty) (by simp[List.getD,n]);obtain⟨s,p⟩:=aj (l.getD k ByteArray.empty);rw[<-p] at y z;have F:=Kz p;clear p x;have G:=c.lt;go_wp2_with fail
    refine (qL _ s z).mono ?_;rintro e w1 ⟨rfl,h⟩;have q:=c.kept h;have H:=Kz q;have I:Hid (∀j,j<k->w1.cell? ⟨w.heap.size,j,none⟩=some (.string (l.getD j ByteArray.empty))):=λj d=>by rw[h.cell G];exact m.o j d
    obtain⟨⟨old,J⟩,O⟩:=q.at n;have K:=f.trans h;clear m c q f h y;go_wp2
    go_roundw
    case rel=>
     refine⟨k+1,A7,C8,K.setCell (Pw _) _,H.o.set _ rfl _,λj d=>?_⟩;by_cases e:j=k
     .subst e;rw[QC _ _ _ J,F.o]
     .rw[PU _ _ _ _ D9];exact I.o j A7
    case measure=>simp[intOf];omega
   .have:k=l.length:=A7;subst this;go_wp2
    go_ret
    exact⟨_,rfl,.inr ⟨w.heap.size,rfl,Pw _,c.lt,c,m.o⟩,f⟩
variable {w:QX}
theorem dY{P:Program}{e:Func}{R:Ending->QX->Prop}{a:Act}{p q:Tmp}{c:TypeId}{b:Nat}(cs:List QY)(d:TypeDesc)(v:QY)(h:e.results= #[.cell p c,.tmp q])(f:a.tmps.getD p undef=.h b)(i:w.rangeAt b 0 cs)(j:P.underlying c=some d)(k:d.isRow=true)(l:(P.info? c).map (·.size)=some cs.length)(m:a.tmps.getD q undef=v)(n:a.defers=[])(r:R (.returned (.tuple #[.agg cs.toArray,v])) w):bodyPost P e R .ret a w:=by
 refine bodyPost_ret ?_ n r;have s:a.tmps[p]?.getD undef=.h b:=by simpa using f
 have t:a.tmps[q]?.getD undef=v:=by simpa using m
 simp only[results,h];simp[s,t,asAddr,run_loadVar_mid w b 0 c cs d i j k l]
def Ld(l:List Qz)(p:Nat):List Qz:=l.take p++l.drop (p+1)
def bV(key:List UInt8)(d:Qz):Bool:= !(d.name.toList == key)
theorem ut(f:Qz->Bool)(l:List Qz)(k:Nat)(h:k<l.length):(l.take (k+1)).filter f= (l.take k).filter f++(if f (l.getD k Qz.zero)=true then [l.getD k Qz.zero] else []):=by
 rw[PH h,List.filter_append]
 congr 1
 have e:l.getD k Qz.zero=l[k]:=by simp[List.getD,h]
 rw[e];by_cases b:f l[k]=true
 .simp[b]
 .simp[b]
theorem nK(d:Qz)(a:QW)(c:Nat):∀u∈([.string d.name,.b d.cost,.slice a d.steps.length c]:List QY),u.oneCell'=true:=by
 intro u b;simp only[Qr,Qs,or_false] at b;rcases b with rfl|rfl|rfl<;>rfl
variable {mN:Nat}
theorem Bl(w:QX)(cost:Int)(a:QW)(cap:Nat)(l:List Xq)(h:mN<=1000)(m:l.length<=21)(i:∀s∈l,s.TinyN mN)(j:lT w a l):
  Calls prog 140 #[.agg #[.b cost,.slice a l.length cap]] w λe w'=>∃b c,e=.returned (.agg #[.b cost,.slice b l.length c])/\dI w' (.slice b l.length c) l/\K_ w w':=by
 refine (ER w cost a cap l A7 h i j).mono ?_;rintro e w' ⟨v,p,rfl,d,f,k⟩;obtain⟨b,c,rfl⟩:=aG d;exact⟨b,c,rfl,(StW.gW d f.packed f.pM).g,k⟩
structure GH (w wr w6:QX)(a0:QW)(n cap:Nat):Prop where
 kept:K_ w w6
 size:w.heap.size+3<=w6.heap.size
 arg:w6.cell? ⟨w.heap.size,0,none⟩=some (.slice a0 n cap)
 res:aH w6 (w.heap.size+1) 25 1
 out:aH w6 (w.heap.size+2) 25 1
 below:Below (w.heap.size+3) wr w6
variable {xs:List QY}{cap cv m n:Nat}{av:QW}{w6 wr:QX}
theorem GH.of{W:QX}{c:QW}(f:K_ w wr)(h:w.heap.size+3<=wr.heap.size)(b:K_ wr W)(i:wr.cell? ⟨w.heap.size,0,none⟩=some (.slice c n cap))(j:aH wr (w.heap.size+1) 25 1)(k:aH wr (w.heap.size+2) 25 1)(d:W.ownsRow (w.heap.size+3) 64 3 (.slice av m cv) m xs)(e:W.grownBy w6 (Value.slice av m cv).ownBlock):GH w wr w6 c n cap:=by
 have q:=b.size;have a:Below (w.heap.size+3) wr w6:=(Below.mono b A7).trans (Below.grown (Below.refl _ _) e A7 λg l=>(d.lt g l).1);refine⟨aL (f.trans b) A7 d e,Pz h a.size,?_,j.block (a.block _ A7),k.block (a.block _ A7),a⟩;rw[Below.cell a (p:=⟨w.heap.size,0,none⟩) D9];exact i
variable {l:List Qz}{d:Qz}
theorem FV{W w2:QX}{base a:Nat}{b:QW}(e:K_ wr W)(f:K_ w2 W)(h:dG wr xs l)(i:dI w2 (.slice b d.steps.length a) d.steps)(j:W.ownsRow base 64 3 (.slice av m cv) m xs)(k:W.grownBy w6 (Value.slice av m cv).ownBlock):dG w6 (xs++[.string d.name,.b d.cost,.slice b d.steps.length a]) (l++[d]):=by
 have c:aB 64 W w6:=aB.aI j k;exact (h.same ((aB.ak e).trans c) A8 A8 A8).snoc (i.same ((aB.ak f).trans c) A8 A8 A8)
theorem tZ(w:QX)(r:QW)(cap:Nat)(l:List Qz)(key:QV)(b6:mN<=1000)(hl:l.length<=1000)(hs:∀d∈l,d.TinyN mN)(hS:uB w r l):
  Calls prog 109 #[.agg #[.slice r l.length cap],.string key] w λe w'=>∃a c xs base,e=.returned (.agg #[.slice a (l.filter (bV key.toList)).length c])/\w.heap.size<=base/\w'.ownsRow base 64 3 (.slice a (l.filter (bV key.toList)).length c) (l.filter (bV key.toList)).length xs/\dG w' xs (l.filter (bV key.toList))/\K_ w w':=by
 go_enter func109,ntmps109
 go_wp2
 have Y:K_ w (((w.alloc (.cells #[.slice r l.length cap] 25)).alloc (.cells #[J6] 25)).alloc (.cells #[J6] 25)):=((ai _ _).alloc _).alloc _;go_loopw [6] (λJ wr=>∃(k m:Nat)(b:QW)(f:Nat)(xs:List QY),k<=l.length/\J=.b k/\K_ w wr/\w.heap.size+3<=wr.heap.size/\wr.cell? ⟨w.heap.size,0,none⟩=some (.slice r l.length cap)/\aH wr (w.heap.size+1) 25 1/\aH wr (w.heap.size+2) 25 1/\
   wr.cell? ⟨w.heap.size+2,0,none⟩=some (.slice b m f)/\m= ((l.take k).filter (bV key.toList)).length/\wr.ownsRow (w.heap.size+3) 64 3 (.slice b m f) m xs/\dG wr xs ((l.take k).filter (bV key.toList))) λJ _=>l.length-(intOf J).toNat
 case atStart=>
  have E:=X_ ((w.alloc (.cells #[.slice r l.length cap] 25)).alloc (.cells #[J6] 25)) #[J6] 25;simp only[Qh] at E;refine⟨0,0,none,0,[],Py _,rfl,Y,?_,?_,?_,?_,E 0 _ rfl,rfl,Qt _ _ _ _,dG.nil _⟩
  .simp only[Qh];omega
  .rw[K_.cell (w:=w.alloc (.cells #[.slice r l.length cap] 25)) ((ai _ _).alloc _) A9];exact X_ w _ _ 0 _ rfl
  .exact aH.kept (by have:=aH.made (w.alloc (.cells #[.slice r l.length cap] 25)) #[J6] 25;simpa using this) (ai _ _)
  .have:=aH.made ((w.alloc (.cells #[.slice r l.length cap] 25)).alloc (.cells #[J6] 25)) #[J6] 25;simpa using this
 case round=>
  clear Y;obtain⟨k,m,b,f,xs,hk,rfl,t,Z,F,a0,a1,L,M,a2,hP⟩:=hrel;have d4:w.heap.size<wr.heap.size:=A7;have⟨x,a3,G,H,I⟩:=fQ a0 a1 a2 hP M;have d5:m<=l.length:=by rw[M];exact Pz (List.length_filter_le _ _) F3
  clear a0 a1 a2 hP M;by_cases N:k<l.length
  .obtain⟨B,h,O,P,b7,a4,a5,a6⟩:=hS k N;have y:=t.range a4 a5;have a7:=a6.kept t;subst b7;have d6:B<wr.heap.size:=Px a4 t.size;clear a5 a6;have Q:=hs (l.getD k Qz.zero) (by simp[List.getD,N]);have R:=ut (bV key.toList) l k N;obtain⟨d,a8⟩:=aj (l.getD k Qz.zero);rw[<-a8] at y a7 Q R;have a9:=Kz R;have S:=y 0 _ rfl;have c1:=y 1 _ rfl;have c2:=y 2 _ rfl;rw[Qp] at S;clear y a8 R;cases b0:(d.name.toList == key.toList)
   .have z:Hid (∀w',Below (w.heap.size+3) wr w'->w'.cell? ⟨w.heap.size+2,0,none⟩=some (.slice b m f)/\w'.cell? ⟨w.heap.size,0,none⟩=some (.slice (some ⟨B,h,none⟩) l.length cap)/\w'.cell? ⟨B,h+k*3,none⟩=some (.string d.name)/\w'.cell? ⟨B,h+k*3+1,none⟩=some (.b d.cost)/\w'.cell? ⟨B,h+k*3+2,none⟩=some (.slice O d.steps.length P)):=λw' A=>⟨(Below.cell A (p:=⟨w.heap.size+2,0,none⟩) A9).trans L,(Below.cell A (p:=⟨w.heap.size,0,none⟩) D9).trans F,(Below.cell A (p:=⟨B,h+k*3,none⟩) D9).trans S,(Below.cell A (p:=⟨B,h+k*3+1,none⟩) D9).trans c1,(Below.cell A (p:=⟨B,h+k*3+2,none⟩) D9).trans c2⟩
    have d7:w.heap.size+2<wr.heap.size:=A7;obtain⟨b8,b9,c0,c3,c4⟩:=info_parts Tryz.nW;go_wp2
    refine Qk.region C9 (λw'=>w'.cell? ⟨w.heap.size+2,0,none⟩=some (.slice b m f)/\w'.cell? ⟨w.heap.size,0,none⟩=some (.slice (some ⟨B,h,none⟩) l.length cap)/\w'.cell? ⟨B,h+k*3,none⟩=some (.string d.name)/\w'.cell? ⟨B,h+k*3+1,none⟩=some (.b d.cost)/\w'.cell? ⟨B,h+k*3+2,none⟩=some (.slice O d.steps.length P)) 19 ⟨L,F,S,c1,c2⟩ λi=>?_;refine ax 0 i ?_;refine ax 4 i ?_;refine ax 8 i ?_;refine ae 12 i ?_;refine ae 13 i ?_;refine aD 14 λK n=>?_;go_simp
    go_at_call 140
    refine (Bl _ d.cost O P d.steps b6 Q.steps Q.each (a7.kept G8)).mono ?_;rintro e q ⟨C,D,rfl,b1,k2⟩;have T:K_ wr q:=K_.trans G8 k2;have b2:Below (w.heap.size+3) wr q:=Below.mono T A7;have d8:=T.size;have d9:w.heap.size+2<q.heap.size:=A7;have c5:=Kz b1;clear b1 k2;dsimp only;refine n.out _ _ (λ_=>z.o q b2) ?_;clear n K i;have i:=z.o q b2;try simp only[upP]
    refine ae 15 i ?_;refine au 16 λK n=>?_;go_simp
    have v:K_ wr (q.alloc (.cells #[.string d.name,.b d.cost,.slice C d.steps.length D] 64)):=T.alloc _;refine af n (λ_=>z.o _ (Below.mono v A7)) ?_;clear n K i;refine au 17 λK n=>?_;refine step_append_lies _ rfl (.tmp 24) (.tmp 39) 23 rfl (w.heap.size+3) 64 b8 _ 3 48 underlying23 b9 c0 c3 c4 rfl A8 (.slice b m f) m xs E5 (ay G.o v) ⟨q.heap.size,0,none⟩ 1 1 [.string d.name,.b d.cost,.slice C d.steps.length D] E5 rfl (λj u hu=>by rw[Qo];exact X_ q #[.string d.name,.b d.cost,.slice C d.steps.length D] 64 j u (by simpa using hu)) (nK d C D) A7 D6 A7 D7 _ rfl ?_;intro g c6 w6 b3 U c7 e0;have b4:K_ q (q.alloc (.cells #[.string d.name,.b d.cost,.slice C d.steps.length D] 64)):=ai _ _;have V:=ay G.o v;have W:=Kz (GH.of t Z v F x.o a3.o V U);have c8:=Kz (FV v b4 H.o c5.o V U);have c9:=Kz b3;have b5:Below (w.heap.size+3) wr w6:=W.o.below;have X:=W.o.out.row.at (i:=0) A7;have e1:=X.2;obtain⟨vo,e2⟩:=X.1;clear X v b4 V b3 U c7;refine af n (λ_=>z.o _ b5) ?_;clear n K;have i:=z.o _ b5;refine ae 18 i ?_;refine au 19 λK n=>?_;go_simp
    refine af n (λd0=>QK rfl d0) ?_;clear n K;refine aF ?_;go_wp2
    go_roundw
    case rel=>
     have s:=W.o;have ef:(l.take (k+1)).filter (bV key.toList)= (l.take k).filter (bV key.toList)++[d]:=by rw[a9.o,QI (by simp[bV,b0])]
     refine⟨k+1,m+1,_,c6,_,A7,C8,s.kept.setCell D9 _,by rw[size_setCell];exact s.size,?_,s.res.block (Below.heap_setCell _ _ _ _ A9),s.out.set _,bB s.out.row A7 _,by rw[ef,Qi,<-I.o];rfl,eQ c9.o A9 _,?_⟩
     .rw[PU _ _ _ _ A9];exact s.arg
     .rw[ef];exact c8.o.same (s.out.same _) A8 A8 A8
    case measure=>simp[intOf];omega
   .go_wp2
    go_roundw
    case rel=>
     have e:(l.take (k+1)).filter (bV key.toList)= (l.take k).filter (bV key.toList):=by rw[a9.o,QJ (by simp[bV,b0])];simp
     exact⟨k+1,m,b,f,xs,A7,C8,t,Z,F,x.o,a3.o,L,by rw[e];exact I.o,G.o,by rw[e];exact H.o⟩
    case measure=>simp[intOf];omega
  .have d1:k=l.length:=A7;subst d1;rw[Qc] at H I;obtain⟨⟨_,x0⟩,g0⟩:=x.o.row.at (i:=0) A7;go_wp2
   have hR:=PD wr (w.heap.size+1) 0 [.slice b m f] (x.o.row.there (o:=0) (m:=1) (Pw _));have E:=eQ G.o (p:=⟨w.heap.size+1,0,none⟩) A9 (.slice b m f);have d2:=H.o.same (x.o.same (o:=0) (.slice b m f)) A8 A8 A8;have d3:=I.o;subst d3;exact Zx [.slice b _ f] _ results109 rfl hR underlying25 rfl Tryz.mW rfl ⟨b,f,xs,w.heap.size+3,rfl,A7,E,d2,t.setCell A9 _⟩
theorem BV{a:QX}{x:QY}{t:TypeId}(K:K_ (w.alloc (.cells #[x] t)) a):a.cell? ⟨w.heap.size,0,none⟩=some x:=by
 rw[K.cell A9];simp
theorem Ah(h:bC l 0):il l:=by
 have a:¬je l:=by
  rcases h with⟨_,e⟩|⟨_,_,e⟩|⟨_,_,_,e⟩|⟨_,_,_,_,e⟩|⟨_,_,b,_,_⟩
  .omega
  .omega
  .omega
  .omega
  .exact b
 refine Dv λi c=>?_
 cases d:Op.bytesLess (nameAt l i) (nameAt l (i+1))
 .exact QK ⟨i,c,d⟩ a
 .rfl
variable {p:Nat}
theorem Gb(b:il l){j:Nat}(d:p<l.length)(f:j<l.length)(e:nameAt l j=nameAt l p):j=p:=by
 by_cases h:j=p
 .exact h
 .rcases Nat.lt_or_gt_of_ne h with a|a
  .have:=b j p a d;rw[e,dB] at this;cases this
  .have:=b p j a f;rw[e,dB] at this;cases this
variable {key:List UInt8}
theorem Gp(k:il l)(a:p<l.length)(e:nameAt l p=key):l.filter (bV key)=Ld l p:=by
 have h:∀j (b:j<l.length),j≠p->bV key l[j]=true:=λj b m=>by
  have c:nameAt l j=l[j].name.toList:=by unfold nameAt;simp[List.getD,b]
  simp only[bV,Bool.not_eq_true',beq_eq_false_iff_ne];intro n;exact m (Gb k a b (by rw[c,n,e]))
 have q:bV key l[p]=false:=by
  have c:nameAt l p=l[p].name.toList:=by unfold nameAt;simp[List.getD,a]
  simp[bV,<-c,e]
 have r:l=l.take p++(l[p] :: l.drop (p+1)):=by
  rw[<-QG a,QB]
 have s:(l.take p).filter (bV key)=l.take p:=List.filter_eq_self.2 λt d=>by
  obtain⟨i,f,rfl⟩:=PN d;rw[PW] at f;rw[Qf];exact h i A7 A7
 have v:(l.drop (p+1)).filter (bV key)=l.drop (p+1):=List.filter_eq_self.2 λt d=>by
  obtain⟨i,f,rfl⟩:=PN d;rw[List.length_drop] at f;rw[List.getElem_drop];exact h _ A7 A7
 unfold Ld
 conv=>lhs;rw[r]
 rw[List.filter_append,List.filter_cons_of_neg (by rw[q];simp),s,v]
def kL(key:List UInt8)(d:Qz):Bool:=Op.bytesLess d.name.toList key
def lw(key:List UInt8)(d:Qz):Bool:=Op.bytesLess key d.name.toList
def mI(l:List Qz)(d:Qz):List Qz:=l.filter (kL d.name.toList)++d :: l.filter (lw d.name.toList)
theorem zh{x y:List UInt8}(h:Op.bytesLess x y=true):Op.bytesLess y x=false:=by
 cases c:Op.bytesLess y x
 .rfl
 .have:=dX _ _ _ h c;rw[dB] at this;cases this
theorem iZ{j:Nat}(h:j<l.length):nameAt l j=l[j].name.toList:=by unfold nameAt;simp[List.getD,h]
theorem Place.less(h:Place l key p):l.filter (kL key)=l.take p:=by
 have c:(l.take p).filter (kL key)=l.take p:=List.filter_eq_self.2 λd a=>by
  obtain⟨i,b,rfl⟩:=PN a;rw[PW] at b;rw[Qf];have:=h.before i A7;rw[iZ A7] at this;exact this
 have e:(l.drop p).filter (kL key)=[]:=List.filter_eq_nil_iff.2 λd a=>by
  obtain⟨i,b,rfl⟩:=PN a;rw[List.length_drop] at b;rw[List.getElem_drop];have:=h.behind (p+i) A7 A7;rw[iZ A7] at this;simp[kL,this]
 conv=>lhs;rw[<-QB p l]
 rw[List.filter_append,c,e,List.append_nil]
theorem Place.ahead(h:Place l key p):(l.take p).filter (lw key)=[]:=List.filter_eq_nil_iff.2 λe b=>by
 obtain⟨i,d,rfl⟩:=PN b;rw[PW] at d;rw[Qf];have:=h.before i A7;rw[iZ A7] at this;simp[lw,zh this]
theorem Place.more(_:il l)(h:Place l key p)(c:∀j,j<l.length->nameAt l j≠key):l.filter (lw key)=l.drop p:=by
 have d:(l.drop p).filter (lw key)=l.drop p:=List.filter_eq_self.2 λk e=>by
  obtain⟨i,f,rfl⟩:=PN e;rw[List.length_drop] at f;rw[List.getElem_drop];have a:=h.behind (p+i) A7 A7;have b:=c (p+i) A7;rw[iZ A7] at a b;exact oI _ _ a b
 conv=>lhs;rw[<-QB p l]
 rw[List.filter_append,h.ahead,d,List.nil_append]
theorem Place.NF(c:il l)(h:Place l key p)(b:p<l.length)(e:nameAt l p=key):l.filter (lw key)=l.drop (p+1):=by
 have f:(l.drop (p+1)).filter (lw key)=l.drop (p+1):=List.filter_eq_self.2 λd j=>by
  obtain⟨i,k,rfl⟩:=PN j;rw[List.length_drop] at k;rw[List.getElem_drop];have a:=c p (p+1+i) A7 A7;rw[e,iZ A7] at a;exact a
 have a:l.drop p=l[p] :: l.drop (p+1):=QG b;have m:lw key l[p]=false:=by
  rw[iZ b] at e;simp[lw,e,dB]
 conv=>lhs;rw[<-QB p l]
 rw[List.filter_append,h.ahead,a,List.filter_cons_of_neg (by rw[m];simp),f,List.nil_append]
theorem Mg(key:List UInt8)(m:il l):∃p,Place l key p:=by
 have:∀n,n<=l.length->∃p,p<=n/\(∀j,j<p->Op.bytesLess (nameAt l j) key=true)/\∀j,p<=j->j<n->Op.bytesLess (nameAt l j) key=false:=by
  intro n
  induction n with
  |zero=>exact λ_=>⟨0,Pw _,λj b=>aS b,λj _ b=>aS b⟩
  |succ n ih=>
   intro r;obtain⟨p,s,e,i⟩:=ih A7;by_cases f:p=n
   .subst f;cases c:Op.bytesLess (nameAt l p) key
    .refine⟨p,A7,e,λj a d=>?_⟩;obtain rfl:j=p:=A7;exact c
    .refine⟨p+1,Pw _,λj b=>?_,λj a d=>A7⟩;by_cases f:j=p
     .rw[f];exact c
     .exact e j A7
   .refine⟨p,A7,e,λj a d=>?_⟩;by_cases q:j=n
    .subst q;cases c:Op.bytesLess (nameAt l j) key
     .rfl
     .have h:=m p j A7 A7;have k:=i p (Pw _) A7;rw[dX _ _ _ h c] at k;cases k
    .exact i j a A7
 obtain⟨p,a,d,h⟩:=this l.length (Pw _);exact⟨p,a,d,h⟩
theorem oH(key:List UInt8)(a:il l):l.filter (bV key)=l.filter (kL key)++l.filter (lw key):=by
 obtain⟨p,b⟩:=Mg key a;by_cases h:p<l.length/\nameAt l p=key
 .rw[Gp a h.1 h.2,b.less,b.NF a h.1 h.2]
  rfl
 .have c:∀j,j<l.length->nameAt l j≠key:=λj f e=>by
   have:=b.only a f e;subst this;exact h ⟨f,e⟩
  rw[b.less,b.more a c,QB];refine List.filter_eq_self.2 λd m=>?_
  obtain⟨i,k,rfl⟩:=PN m;have:=c i k;rw[iZ k] at this;simpa[bV] using this
def qj(l:List Qz)(d:Qz):Nat:=(l.filter (kL d.name.toList)).length
theorem sP(a:il l):(mI l d).length= (l.filter (bV d.name.toList)).length+1:=by
 rw[oH _ a];simp[mI];omega
theorem JJ(a:il l):qj l d<=(l.filter (bV d.name.toList)).length:=by
 rw[oH _ a];simp[qj]
theorem KR(l:List Qz)(d:Qz):(mI l d).getD (qj l d) Qz.zero=d:=by simp[mI,qj,List.getD]
theorem Jn{x:Qz}(h:x∈mI l d):x=d\/x∈l:=by
 simp only[mI,PK,Qr,List.mem_filter] at h;rcases h with h|h|h
 .exact .inr h.1
 .exact .inl h
 .exact .inr h.1
theorem I_(h:m<l.length):l.take (m+1)=l.take m++[l.getD m Qz.zero]:=by
 rw[PH h];simp[List.getD,h]
def DF(l:List Qz)(d:Qz)(c:Int)(r:List Qz):Prop:=
 (¬bC l 0/\c=1/\r=[])\/(bC l 0/\(¬jR d.name\/¬iF ⟨d.cost,d.steps⟩)/\c=2/\r=[])\/(bC l 0/\jR d.name/\iF ⟨d.cost,d.steps⟩/\60<(mI l d).length/\c=3/\r=[])\/
 (bC l 0/\jR d.name/\iF ⟨d.cost,d.steps⟩/\(mI l d).length<=60/\c=0/\r=mI l d)
theorem DF.mem{r:List Qz}{c:Int}(h:DF l d c r){x:Qz}(a:x∈r):x=d\/x∈l:=by
 rcases h with⟨_,_,rfl⟩|⟨_,_,_,rfl⟩|⟨_,_,_,_,_,rfl⟩|⟨_,_,_,_,_,rfl⟩
 .cases a
 .cases a
 .cases a
 .exact Jn a
theorem DF.len{r:List Qz}{c:Int}(h:DF l d c r):r.length<=60:=by
 rcases h with⟨_,_,rfl⟩|⟨_,_,_,rfl⟩|⟨_,_,_,_,_,rfl⟩|⟨h,_,_,b,_,rfl⟩
 .simp
 .simp
 .simp
 .exact b
def mF(l:List Qz)(d:Qz)(w w':QX)(e:Ending):Prop:=
 ∃a cap c r xs base,e=.returned (.tuple #[.agg #[.slice a r.length cap],.b c])/\DF l d c r/\w.heap.size<=base/\w'.ownsRow base 64 3 (.slice a r.length cap) r.length xs/\dG w' xs r/\K_ w w'
theorem mF.none{w':QX}{e:Ending}(c:Int)(a:e=.returned (.tuple #[.agg #[J6],.b c]))(h:DF l d c [])(k:K_ w w'):mF l d w w' e:=⟨Option.none,0,c,[],[],_,a,h,Pw _,Qt _ _ _ _,dG.nil _,k⟩
theorem aB.uh{t:TypeId}{w':QX}{b:Nat}(h:Xj b (b+1) w w')(d:aH w b t n):aB t w w':=by
 intro x i u j f a;rw[h.block x (aP a) ?_]
 .exact a
 .obtain⟨k,c,_⟩:=d;by_cases e:x=b
  .subst e;rw[a] at c;simp only[Ql,Obj.cells.injEq] at c;exact QK c.2.1 f
  .omega
theorem Fg(f:il l)(k:Nat)(e:k<(l.filter (bV d.name.toList)).length):
  (k<qj l d->Op.bytesLess ((l.filter (bV d.name.toList)).getD k Qz.zero).name.toList d.name.toList=true/\(mI l d).getD k Qz.zero= (l.filter (bV d.name.toList)).getD k Qz.zero)/\
  (qj l d<=k->(Op.bytesLess ((l.filter (bV d.name.toList)).getD k Qz.zero).name.toList d.name.toList=false/\(((l.filter (bV d.name.toList)).getD k Qz.zero).name.toList == d.name.toList)=false)/\(mI l d).getD (k+1) Qz.zero= (l.filter (bV d.name.toList)).getD k Qz.zero):=by
 rw[oH _ f] at e⊢;unfold mI qj;rw[Qi] at e;constructor
 .intro h;have a:(l.filter (kL d.name.toList)++l.filter (lw d.name.toList)).getD k Qz.zero= (l.filter (kL d.name.toList))[k]:=by simp[List.getD,Qx h,h]
  rw[a];refine⟨?_,by simp[List.getD,Qx h,h]⟩;have:=PL h;exact (List.mem_filter.1 this).2
 .intro h;have b:k-(l.filter (kL d.name.toList)).length<(l.filter (lw d.name.toList)).length:=A7;have a:(l.filter (kL d.name.toList)++l.filter (lw d.name.toList)).getD k Qz.zero= (l.filter (lw d.name.toList))[k-(l.filter (kL d.name.toList)).length]:=by simp[List.getD,Qy h,b]
  rw[a];have c:Op.bytesLess d.name.toList (l.filter (lw d.name.toList))[k-(l.filter (kL d.name.toList)).length].name.toList=true:=(List.mem_filter.1 (PL b)).2;refine⟨⟨zh c,?_⟩,?_⟩
  .rw[beq_eq_false_iff_ne];intro i;rw[i,dB] at c;cases c
  have j:k+1-(l.filter (kL d.name.toList)).length= (k-(l.filter (kL d.name.toList)).length)+1:=A7;simp[List.getD,Qy (show (l.filter (kL d.name.toList)).length<=k+1 by omega),j,b]
def Na(l:List Qz)(d:Qz):List Qz:=l.filter (bV d.name.toList)
theorem dG.at{base:Nat}{h:QW}{q:Nat}(d:w.ownsRow base 64 3 (.slice h n q) n xs)(i:dG w xs l){k:Nat}(r:k<l.length):
  ∃g f fr a c,h=some ⟨g,0,none⟩/\w.heap[g]? =some (Obj.cells f 64 fr)/\w.cell? ⟨g,k*3,none⟩=some (.string (l.getD k Qz.zero).name)/\w.cell? ⟨g,k*3+1,none⟩=some (.b (l.getD k Qz.zero).cost)/\
   w.cell? ⟨g,k*3+2,none⟩=some (.slice a (l.getD k Qz.zero).steps.length c)/\dI w (.slice a (l.getD k Qz.zero).steps.length c) (l.getD k Qz.zero).steps:=by
 have v:n=l.length:=by have x:=d.1;have y:=i.1;omega
 rcases d.2 with⟨_,z⟩|⟨g,A,f,e,B,s,C,_,_,_⟩
 .omega
 .simp only[Qm] at e;obtain⟨rfl,_,rfl⟩:=e;obtain⟨D,e,m⟩:=i.2 k r;obtain⟨a,c,rfl⟩:=m.slice;have b:∀j u,((xs.drop (k*3)).take 3)[j]? =some u->j<3->w.cell? ⟨g,k*3+j,none⟩=some u:=λj u p t=>by
   rw[List.getElem?_take,QI t,List.getElem?_drop] at p;have:=d.cells (g:=g) rfl _ _ p;rw[Qo,Qb] at this;exact this
  rw[e] at b;exact⟨g,f,_,a,c,rfl,s,b 0 _ rfl A8,b 1 _ rfl A8,b 2 _ rfl A8,m⟩
structure jC (wc wr:QX)(outb:Nat)(T:List Qz)(m:Nat)(av:QW)(cv:Nat)(xs:List QY):Prop where
 kb:Xj outb (outb+1) wc wr
 row:aH wr outb 25 1
 cell:wr.cell? ⟨outb,0,none⟩=some (.slice av m cv)
 own:wr.ownsRow wc.heap.size 64 3 (.slice av m cv) m xs
 pack:dG wc xs (T.take m)
variable {T:List Qz}{outb:Nat}{wc:QX}
theorem jC.grown{W:QX}(h:jC wc wr outb T m av cv xs)(a:K_ wr W)(c:W.grownBy w6 (Value.slice av m cv).ownBlock):Below wc.heap.size wr w6:=
 have e:=h.kb.size;have f:=a.size
 (Below.mono a A7).trans (Below.grown (Below.refl _ _) c A7 λg d=>((ay h.own a).lt g d).1)
theorem jC.next{W:QX}{a:Nat}{b:QW}{x:Qz}{c:QW}{d:Nat}(h:jC wc wr outb T m av cv xs)(e:outb<wc.heap.size)(j:K_ wr W)(k:W.grownBy w6 (Value.slice av m cv).ownBlock)(l:w6.ownsRow wc.heap.size 64 3 (.slice b (m+1) a) (m+1) (xs++[.string x.name,.b x.cost,.slice c x.steps.length d]))(n:m<T.length)(p:T.getD m Qz.zero=x)(q:dI wc (.slice c x.steps.length d) x.steps):
  jC wc (w6.setCell ⟨outb,0,none⟩ (.slice b (m+1) a)) outb T (m+1) b a (xs++[.string x.name,.b x.cost,.slice c x.steps.length d]):=by
 have f:=h.grown j k;have i:aH w6 outb 25 1:=h.row.block (f.block outb e);refine⟨(h.kb.below f).setCell (Pw _) (PZ _) _,i.set _,bB i.row A7 _,eQ l e _,?_⟩;rw[I_ n,p];exact h.pack.snoc q
theorem jC.drewN(h:jC wc wr outb T m av cv xs)(n:Nat):jC wc (wr.drewN n) outb T m av cv xs:=
 ⟨⟨h.kb.os,h.kb.tape,h.kb.output,h.kb.size,h.kb.block⟩,h.row,h.cell,h.own,h.pack⟩
theorem jC.fin{b:QX}{a:Nat}(h:jC wc b outb T n av cv xs)(j:aH wc outb 25 1)(c:aH wc a 25 1)(x:a≠outb)(K:K_ w wc)(k:w.heap.size<=a)(h2:w.heap.size<=outb)(q:T.length=n)(e:T=mI l d)(c1:bC l 0)(r:jR d.name)(c3:iF ⟨d.cost,d.steps⟩)(s:n<=60):
  (b.setCell ⟨a,0,none⟩ (.slice av n cv)).rangeAt a 0 [.slice av n cv]/\mF l d w (b.setCell ⟨a,0,none⟩ (.slice av n cv)) (.returned (.tuple #[.agg #[.slice av n cv],.b 0])):=by
 have f:aH b a 25 1:=c.block (h.kb.block a c.lt A7);have t:=eQ h.own (p:=⟨a,0,none⟩) c.lt (.slice av n cv);have i:=h.pack;rw[Qd A7] at i;have v:=(i.same (aB.uh h.kb j) A8 A8 A8).same (f.same (o:=0) (.slice av n cv)) A8 A8 A8;refine⟨PD b a 0 [.slice av n cv] (f.row.there (o:=0) (m:=1) (Pw _)),?_⟩;subst q;exact⟨av,cv,0,T,xs,wc.heap.size,rfl,.inr (.inr (.inr ⟨c1,r,c3,e ▸ s,rfl,e⟩)),K.size,t,v,(h.kb.kept K h2).setCell k _⟩
structure Pf (W6 Wl:QX)(d:Qz)(oneb:Nat)(a2:QW)(ca2:Nat):Prop where
 kept:K_ W6 Wl
 ge:W6.heap.size<=oneb
 lt:oneb<Wl.heap.size
 name:Wl.cell? ⟨oneb,0,none⟩=some (.string d.name)
 cost:Wl.cell? ⟨oneb,1,none⟩=some (.b d.cost)
 steps:Wl.cell? ⟨oneb,2,none⟩=some (.slice a2 d.steps.length ca2)
 one:dI Wl (.slice a2 d.steps.length ca2) d.steps
def OU(W6:QX)(d:Qz)(s8:QY)(Wl:QX):Prop:=∃oneb a2 ca2,s8=.h oneb/\Pf W6 Wl d oneb a2 ca2
theorem Mk(w:QX)(a0:QW)(cap:Nat)(l:List Qz)(d:Qz)(aA:QW)(ca:Nat)(d2:mN<=1000)(hl:l.length<=1000)(hs:∀d∈l,d.TinyN mN)(e8:d.TinyN mN)(hS:uB w a0 l)(hN:dS w a0 l)(hA:lT w aA d.steps)(j0:Steps w aA d.steps):
  Calls prog 159 #[.agg #[.slice a0 l.length cap],.agg #[.string d.name,.b d.cost,.slice aA d.steps.length ca]] w λe w'=>mF l d w w' e:=by
 have j1:l.length<=maxLen:=D6;have hf:∀e9∈l,e9.Fits:=λe9 j2=>(hs e9 j2).fits d2
 have f0:=e8.fits d2;go_enter func159,ntmps159
 go_wp2_with fail
 refine (nH _ a0 cap l j1 hf (hN.kept F5)).mono ?_;rintro e w1 ⟨⟨c,rfl,hc⟩,k1⟩;have K1:K_ w w1:=K_.trans F5 k1;have z1:=k1.size;simp only[Qh] at z1;have q0:=BV (w:=w) (K_.trans ((ai _ _).alloc _) k1);have nn:=JK (w:=w.alloc (.cells #[.slice a0 l.length cap] 25)) (K_.trans (ai _ _) k1);simp only[Qh] at nn;obtain⟨n0,n1,n2⟩:=nn;have f1:aH w1 (w.heap.size+2) 25 1:=aH.kept (by have:=aH.made ((w.alloc (.cells #[.slice a0 l.length cap] 25)).alloc (.cells #[.string d.name,.b d.cost,.slice aA d.steps.length ca] 64)) #[J6] 25;simpa using this) k1;obtain⟨⟨_,x0⟩,j3⟩:=f1.row.at (i:=0) A7;have⟨d3,HC⟩:=aJ f1 hc;clear f1 hc k1;by_cases f2:c=0
 .subst f2;have j4:w.heap.size<w1.heap.size:=A7;have f3:w.heap.size+1<w1.heap.size:=A7;have l6:w.heap.size+2<w1.heap.size:=A7;go_wp2_with fail
  refine (oq _ d.name f0.name).mono ?_;rintro e w2 ⟨a9,rfl⟩;rcases a9.cases with⟨rfl,c0⟩|⟨rfl,c1⟩
  .have HY:=Kz c0;clear c0 a9;go_wp2_with fail
   refine (gp _ d.cost aA ca d.steps f0.steps f0.each (j0.kept K1)).mono ?_;rintro e w3 ⟨a9,k3⟩;have q3:=(k3.cell (o:=0) j4).trans q0;have p0:=(k3.cell (o:=0) f3).trans n0;have p1:=(k3.cell (o:=1) f3).trans n1;have p2:=(k3.cell (o:=2) f3).trans n2;have d4:=Kz (d3.o.kept k3);have K3:=K1.trans k3;have z3:=k3.size;obtain⟨⟨_,y0⟩,j5⟩:=d4.o.row.at (i:=0) A7;clear q0 n0 n1 n2 x0 j3 d3 K1 k3;rcases a9.cases with⟨rfl,c0⟩|⟨rfl,c1⟩
   .have HM:=Kz c0;clear c0 a9;have j6:w.heap.size<w3.heap.size:=A7;have f4:w.heap.size+1<w3.heap.size:=A7;have l7:w.heap.size+2<w3.heap.size:=A7;have d5:=Kz (Ah HC.o);go_wp2_with fail
    refine (tZ _ a0 cap l d.name d2 hl hs (hS.kept K3)).mono ?_;rintro e a ⟨b0,C,l8,l9,rfl,m0,f5,f6,k4⟩;obtain⟨old,d6⟩:=aj (Na l d);rw[show l.filter (bV d.name.toList)=old from d6.symm] at f5 f6⊢;have m1:old.length<=l.length:=by rw[d6];exact List.length_filter_le _ _
    have⟨h0,h1,h3⟩:=dC d6 f5 f6;have K4:=K3.trans k4;have q4:=(k4.cell (o:=0) j6).trans q3;have r0:=(k4.cell (o:=0) f4).trans p0;have r1:=(k4.cell (o:=1) f4).trans p1;have r2:=(k4.cell (o:=2) f4).trans p2;have d7:=Kz (d4.o.kept k4);have z4:=k4.size;obtain⟨⟨_,v0⟩,u0⟩:=d7.o.row.at (i:=0) A7;clear d6 f5 f6 q3 p0 p1 p2 y0 j5 d4 K3 k4;have m2:w.heap.size<a.heap.size:=A7;have d8:w.heap.size+1<a.heap.size:=A7;have m3:w.heap.size+2<a.heap.size:=A7;by_cases m4:60<=old.length
    .have j7:(60:Int)<=(old.length:Int):=A7;go_wp2
     have j8:=PD a (w.heap.size+2) 0 [J6] (d7.o.row.there (o:=0) (m:=1) (Pw _));have j9:((a.setCell ⟨w.heap.size+2,0,none⟩ J6).alloc (.cells #[.slice b0 old.length C] 25)).rangeAt (w.heap.size+2) 0 [J6]:=K_.range (ai _ _) (by rw[size_setCell];omega) j8;refine dY [J6] _ (.b 3) results159 rfl j9 underlying25 rfl Tryz.mW rfl rfl (mF.none 3 rfl (.inr (.inr (.inl ⟨HC.o,HY.o,HM.o,?_,rfl,rfl⟩))) ?_)
     .rw[sP d5.out,show l.filter (bV d.name.toList)=old from h0.o.symm];omega
     .exact (K4.setCell D9 _).alloc _
    .have j7:¬(60:Int)<=(old.length:Int):=A7;have r:Hid (∀w',K_ ((a.alloc (.cells #[.slice b0 old.length C] 25)).alloc (.cells #[J6] 25)) w'->(λw'=>w'.cell? ⟨w.heap.size+1,0,none⟩=some (.string d.name)/\w'.cell? ⟨w.heap.size+1,1,none⟩=some (.b d.cost)/\w'.cell? ⟨w.heap.size+1,2,none⟩=some (.slice aA d.steps.length ca)) w'):=λw' kk=>by
      have k5:K_ a w':=K_.trans ((ai _ _).alloc _) kk;exact⟨(k5.cell d8).trans r0,(k5.cell d8).trans r1,(k5.cell d8).trans r2⟩
     have KA:K_ w ((a.alloc (.cells #[.slice b0 old.length C] 25)).alloc (.cells #[J6] 25)):=(K4.alloc _).alloc _;go_upto_region 9 with fail
     go_cut [8] from 36 to 41 λs8 wx=>OU ((a.alloc (.cells #[.slice b0 old.length C] 25)).alloc (.cells #[J6] 25)) d s8 wx
     case first=>
      go_region_held (λw'=>w'.cell? ⟨w.heap.size+1,0,none⟩=some (.string d.name)/\w'.cell? ⟨w.heap.size+1,1,none⟩=some (.b d.cost)/\w'.cell? ⟨w.heap.size+1,2,none⟩=some (.slice aA d.steps.length ca)) (exact bE r _ (by repeat (first|(refine K_.setCell ?_ D9 _)|(with_reducible exact K_.refl _)|(with_reducible assumption)|apply K_.drew|apply K_.alloc))) ((go_at_call 140;refine (Bl _ d.cost aA ca d.steps d2 e8.steps e8.each (hA.kept (KA.trans F6))).mono ?_;rintro e w7 ⟨s,v,rfl,h4,h5⟩;have k7:K_ ((a.alloc (.cells #[.slice b0 old.length C] 25)).alloc (.cells #[J6] 25)) w7:=K_.trans F6 h5;have h6:=Kz h4;clear h4;(first|(have b8:=Db (t:=64) (c:= #[.string ⟨#[]⟩,.b 0,J6]) h5;simp only[Qh] at b8;have c2:=Kz b8;obtain⟨⟨_,t0⟩,U⟩:=b8.row.at (i:=0) A8;obtain⟨⟨_,t1⟩,V⟩:=b8.row.at (i:=1) A8;obtain⟨⟨_,t2⟩,m5⟩:=b8.row.at (i:=2) A8;clear b8)|skip)))
      .go_wp2
       go_meet
       refine⟨w7.heap.size,s,v,rfl,k7.alloc _,k7.size,A9,A9,A9,A9,?_⟩;exact h6.o.same (u:=64) (.ak (ai _ _)) A8 A8 A8
      .go_wp2
       go_meet
       have y:=PD w7 (a.heap.size+1+1) 0 [.string d.name,.b d.cost,.slice s d.steps.length v] (c2.o.row.there (o:=0) (m:=3) (Pw _));refine⟨a.heap.size+1+1,s,v,rfl,((k7.setCell A9 _).setCell A9 _).setCell A9 _,A9,by simp only[size_setCell];exact c2.o.lt,y 0 _ rfl,y 1 _ rfl,y 2 _ rfl,?_⟩;exact h6.o.same (((c2.o.same _).trans ((c2.o.set _).same _)).trans (((c2.o.set _).set _).same _)) A8 A8 A8
     case rest=>
      obtain⟨k0,s,v,rfl,a2⟩:=hcut;have c3:K_ a wc:=K_.trans ((ai _ _).alloc _) a2.kept;have zc:=a2.kept.size;have zo:=a2.ge;simp only[Qh] at zc zo;have co:=BV (w:=a) (K_.trans (ai _ _) a2.kept);have cu:=BV (w:=a.alloc (.cells #[.slice b0 old.length C] 25)) a2.kept;simp only[Qh] at cu;have cn:=(c3.cell (o:=0) d8).trans r0;have f7:=Dz (X:=a.alloc (.cells #[.slice b0 old.length C] 25)) a2.kept;simp only[Qh] at f7;have b1:Hid (aH wc (a.heap.size+1) 25 1):=f7;have d9:=Kz (d7.o.kept c3);have k2:=Kz (ay h1.o c3);have k6:=Kz (h3.o.same (aB.ak (t:=64) c3) A8 A8 A8);have F:=Kz a2;obtain⟨a3,hT⟩:=aj (mI l d);obtain⟨W,e0⟩:=aj (qj l d);have e2:l.filter (bV d.name.toList)=old:=h0.o.symm;have b2:Hid (a3.length=old.length+1):=by rw[hT,<-e2];exact sP d5.out
      have m6:W<=old.length:=by rw[e0,<-e2];exact JJ d5.out
      have h7:Hid (a3.getD W Qz.zero=d):=by rw[hT,e0];exact KR l d
      have k8:Hid (∀k,k<old.length->(k<W->Op.bytesLess (old.getD k Qz.zero).name.toList d.name.toList=true/\a3.getD k Qz.zero=old.getD k Qz.zero)/\(W<=k->(Op.bytesLess (old.getD k Qz.zero).name.toList d.name.toList=false/\((old.getD k Qz.zero).name.toList == d.name.toList)=false)/\a3.getD (k+1) Qz.zero=old.getD k Qz.zero)):=by
       rw[hT,e0,<-e2];exact λk hk=>Fg d5.out k hk
      have HT:=Kz hT;clear hT e0 e2 a2 f7 h1 h3 d7 v0 u0 q4 r KA;have K5:=K4.trans c3;go_wp2
      go_loopw [9,10] (λdn f8 wr=>∃(k e3:Nat)(I:QW)(J:Nat)(O:List QY),k<=old.length/\f8=.b k/\((dn=.bool true/\W<k/\e3=k+1)\/(dn=.bool false/\k<=W/\e3=k))/\jC wc wr (a.heap.size+1) a3 e3 I J O) λ_ f8 _=>old.length-(intOf f8).toNat
      case atStart=>exact⟨0,0,none,0,[],Py _,rfl,.inr ⟨rfl,Py _,rfl⟩,Xj.refl _ _ _,b1.o,cu,Qt _ _ _ _,dG.nil _⟩
      case round=>
       obtain⟨k,e3,I,J,O,hk,rfl,h8,a4⟩:=hrel;have k9:=Kz (aB.uh a4.kb b1.o);have zr:=a4.kb.size;have f9:=a4.kb.same (l2:=0) (h2:=a.heap.size+1) A7;have e4:=a4.kb.same (l2:=a.heap.size+1+1) (h2:=wc.heap.size) A7;have eo:=(f9.cell (o:=0) (Py _) (A7:a.heap.size<a.heap.size+1) A7).trans co;have en:=(f9.cell (o:=0) (Py _) (A7:w.heap.size+1<a.heap.size+1) A7).trans cn;have e1:=(e4.cell (o:=0) zo F.o.lt F.o.lt).trans F.o.name;have g0:=(e4.cell (o:=1) zo F.o.lt F.o.lt).trans F.o.cost;have g1:=(e4.cell (o:=2) zo F.o.lt F.o.lt).trans F.o.steps;have ol:=F.o.lt;have eu:=a4.cell;obtain⟨⟨_,l0⟩,g2⟩:=a4.row.row.at (i:=0) A7;have D:=Kz a4;clear a4 f9 e4 l0;have g3:a.heap.size+1<wr.heap.size:=A7;have g4:a.heap.size<wr.heap.size:=A7;have m7:k0<wr.heap.size:=A7;have m8:w.heap.size+1<wr.heap.size:=A7;by_cases h9:k<old.length
       .obtain⟨g,e5,fr,i,j,rfl,n,E,G,H,g5⟩:=dG.at k2.o k6.o h9;have g6:=k9.out g e5 _ fr A8 n;have m9:=aP g6;have HG:=Kz (k8.o k h9);obtain⟨x,hx⟩:=aj (old.getD k Qz.zero);rw[<-hx] at E G H g5 HG;have Y:=Kz (And.intro E (And.intro G H));have D0:Hid (wr.cell? ⟨g,k*3,none⟩=some (.string x.name)):=by show _=_;rw[PO (g6.trans n.symm)];exact E
        have d0:=D0.out;have n3:(k:Int)<(old.length:Int):=A7;have g7:=Kz g5;clear hx g5 E G H g6;rcases h8 with⟨rfl,g8,hm⟩|⟨rfl,g8,g9⟩
        .subst hm;have c4:=Kz (HG.o.2 A7).2;go_wp2
         go_quiet (fail)
         obtain⟨b,L⟩:=aj (wr.drewN nq);rw[<-L];have m:jC wc b (a.heap.size+1) a3 (k+1) I J O:=by rw[L];exact D.o.drewN nq
         clear L eo en e1 g0 g1 eu g2 d0;have a5:=aB.uh m.kb b1.o;have z:=a5 g e5 _ fr A8 n;have a6:=m.kb.same (l2:=0) (h2:=a.heap.size+1) A7;have U:=(a6.cell (o:=0) (Py _) (A7:a.heap.size<a.heap.size+1) A7).trans co;have E:b.cell? ⟨g,k*3,none⟩=some (.string x.name):=by rw[PO (z.trans n.symm)];exact Y.out.1
         have G:b.cell? ⟨g,k*3+1,none⟩=some (.b x.cost):=by rw[PO (z.trans n.symm)];exact Y.out.2.1
         have H:b.cell? ⟨g,k*3+2,none⟩=some (.slice i x.steps.length j):=by rw[PO (z.trans n.symm)];exact Y.out.2.2
         have V:=m.cell;have zq:=m.kb.size;have A:=Kz m;have gl:=aP n;have g3:a.heap.size+1<b.heap.size:=A7;have g4:a.heap.size<b.heap.size:=A7;have i0:g<b.heap.size:=A7;have r:Hid (∀w',Below wc.heap.size b w'->(λw'=>w'.cell? ⟨a.heap.size+1,0,none⟩=some (.slice I (k+1) J)/\w'.cell? ⟨a.heap.size,0,none⟩=some (.c g old.length C)/\w'.cell? ⟨g,k*3,none⟩=some (.string x.name)/\w'.cell? ⟨g,k*3+1,none⟩=some (.b x.cost)/\w'.cell? ⟨g,k*3+2,none⟩=some (.slice i x.steps.length j)) w'):=λw' q=>⟨(Below.cell q (p:=⟨a.heap.size+1,0,none⟩) D9).trans V,(Below.cell q (p:=⟨a.heap.size,0,none⟩) D9).trans U,(Below.cell q (p:=⟨g,k*3,none⟩) D9).trans E,(Below.cell q (p:=⟨g,k*3+1,none⟩) D9).trans G,(Below.cell q (p:=⟨g,k*3+2,none⟩) D9).trans H⟩
         clear m a5 z a6;obtain⟨P,Q,R,S,T⟩:=info_parts Tryz.nW;go_wp2
         refine Qk.region C9 (λw'=>w'.cell? ⟨a.heap.size+1,0,none⟩=some (.slice I (k+1) J)/\w'.cell? ⟨a.heap.size,0,none⟩=some (.c g old.length C)/\w'.cell? ⟨g,k*3,none⟩=some (.string x.name)/\w'.cell? ⟨g,k*3+1,none⟩=some (.b x.cost)/\w'.cell? ⟨g,k*3+2,none⟩=some (.slice i x.steps.length j)) 10 ⟨V,U,E,G,H⟩ λh=>?_;refine ax 0 h ?_;refine ae 4 h ?_;refine ae 5 h ?_;refine ae 6 h ?_;refine au 7 λK f=>?_;go_simp
         have B:K_ b (b.alloc (.cells #[.string x.name,.b x.cost,.slice i x.steps.length j] 64)).drew:=(ai _ _).drew;refine af f (λ_=>r.o _ (Below.mono B A7)) ?_;clear f K h;refine au 8 λK f=>?_;refine step_append_lies _ rfl (.tmp 69) (.tmp 75) 23 rfl wc.heap.size 64 P _ 3 48 underlying23 Q R S T rfl A8 (.slice I (k+1) J) (k+1) O E5 (ay A.o.own B) ⟨b.heap.size,0,none⟩ 1 1 [.string x.name,.b x.cost,.slice i x.steps.length j] E5 rfl (λZ u a1=>by rw[Qo];exact X_ b #[.string x.name,.b x.cost,.slice i x.steps.length j] 64 Z u (by simpa using a1)) (nK x i j) A7 D6 A7 D7 _ rfl ?_;intro i1 c5 w8 a7 M c6 i2;have N:=A.o.grown B M;have a8:aH w8 (a.heap.size+1) 25 1:=A.o.row.block (N.block _ A7);obtain⟨⟨_,i3⟩,i4⟩:=a8.row.at (i:=0) A7;have⟨c7,c8⟩:=aJ a7 M;clear a7 M c6 a8;refine af f (λ_=>r.o _ N) ?_;clear f K;have h:=r.o _ N;refine ae 9 h ?_;refine au 10 λK f=>?_;go_simp
         refine af f (λb3=>QK rfl b3) ?_;clear f K;refine aF ?_;go_wp2
         go_roundw
         case rel=>exact⟨k+1,k+1+1,_,c5,_,A7,C8,.inl ⟨rfl,A7,A7⟩,jC.next A.o A7 B c8.o c7.o (by have:=b2.o;omega) c4.o g7.o⟩
         case measure=>simp[intOf];omega
        .have hm:=g9.symm;subst hm;by_cases i5:k<W
         .have l1:=(HG.o.1 i5).1;have c4:=Kz (HG.o.1 i5).2;go_wp2
          go_quiet (fail)
          obtain⟨b,L⟩:=aj (wr.drewN nq);rw[<-L];have m:jC wc b (a.heap.size+1) a3 (k) I J O:=by rw[L];exact D.o.drewN nq
          clear L eo en e1 g0 g1 eu g2 d0;have a5:=aB.uh m.kb b1.o;have z:=a5 g e5 _ fr A8 n;have a6:=m.kb.same (l2:=0) (h2:=a.heap.size+1) A7;have U:=(a6.cell (o:=0) (Py _) (A7:a.heap.size<a.heap.size+1) A7).trans co;have E:b.cell? ⟨g,k*3,none⟩=some (.string x.name):=by rw[PO (z.trans n.symm)];exact Y.out.1
          have G:b.cell? ⟨g,k*3+1,none⟩=some (.b x.cost):=by rw[PO (z.trans n.symm)];exact Y.out.2.1
          have H:b.cell? ⟨g,k*3+2,none⟩=some (.slice i x.steps.length j):=by rw[PO (z.trans n.symm)];exact Y.out.2.2
          have V:=m.cell;have zq:=m.kb.size;have A:=Kz m;have gl:=aP n;have g3:a.heap.size+1<b.heap.size:=A7;have g4:a.heap.size<b.heap.size:=A7;have i0:g<b.heap.size:=A7;have r:Hid (∀w',Below wc.heap.size b w'->(λw'=>w'.cell? ⟨a.heap.size+1,0,none⟩=some (.slice I (k) J)/\w'.cell? ⟨a.heap.size,0,none⟩=some (.c g old.length C)/\w'.cell? ⟨g,k*3,none⟩=some (.string x.name)/\w'.cell? ⟨g,k*3+1,none⟩=some (.b x.cost)/\w'.cell? ⟨g,k*3+2,none⟩=some (.slice i x.steps.length j)) w'):=λw' q=>⟨(Below.cell q (p:=⟨a.heap.size+1,0,none⟩) D9).trans V,(Below.cell q (p:=⟨a.heap.size,0,none⟩) D9).trans U,(Below.cell q (p:=⟨g,k*3,none⟩) D9).trans E,(Below.cell q (p:=⟨g,k*3+1,none⟩) D9).trans G,(Below.cell q (p:=⟨g,k*3+2,none⟩) D9).trans H⟩
          clear m a5 z a6;obtain⟨P,Q,R,S,T⟩:=info_parts Tryz.nW;go_wp2
          refine Qk.region C9 (λw'=>w'.cell? ⟨a.heap.size+1,0,none⟩=some (.slice I (k) J)/\w'.cell? ⟨a.heap.size,0,none⟩=some (.c g old.length C)/\w'.cell? ⟨g,k*3,none⟩=some (.string x.name)/\w'.cell? ⟨g,k*3+1,none⟩=some (.b x.cost)/\w'.cell? ⟨g,k*3+2,none⟩=some (.slice i x.steps.length j)) 10 ⟨V,U,E,G,H⟩ λh=>?_;refine ax 0 h ?_;refine ae 4 h ?_;refine ae 5 h ?_;refine ae 6 h ?_;refine au 7 λK f=>?_;go_simp
          have B:K_ b (b.alloc (.cells #[.string x.name,.b x.cost,.slice i x.steps.length j] 64)).drew:=(ai _ _).drew;refine af f (λ_=>r.o _ (Below.mono B A7)) ?_;clear f K h;refine au 8 λK f=>?_;refine step_append_lies _ rfl (.tmp 69) (.tmp 75) 23 rfl wc.heap.size 64 P _ 3 48 underlying23 Q R S T rfl A8 (.slice I (k) J) (k) O E5 (ay A.o.own B) ⟨b.heap.size,0,none⟩ 1 1 [.string x.name,.b x.cost,.slice i x.steps.length j] E5 rfl (λZ u a1=>by rw[Qo];exact X_ b #[.string x.name,.b x.cost,.slice i x.steps.length j] 64 Z u (by simpa using a1)) (nK x i j) A7 D6 A7 D7 _ rfl ?_;intro i1 c5 w8 a7 M c6 i2;have N:=A.o.grown B M;have a8:aH w8 (a.heap.size+1) 25 1:=A.o.row.block (N.block _ A7);obtain⟨⟨_,i3⟩,i4⟩:=a8.row.at (i:=0) A7;have⟨c7,c8⟩:=aJ a7 M;clear a7 M c6 a8;refine af f (λ_=>r.o _ N) ?_;clear f K;have h:=r.o _ N;refine ae 9 h ?_;refine au 10 λK f=>?_;go_simp
          refine af f (λb3=>QK rfl b3) ?_;clear f K;refine aF ?_;go_wp2
          go_roundw
          case rel=>exact⟨k+1,k+1,_,c5,_,A7,C8,.inr ⟨rfl,A7,A7⟩,jC.next A.o A7 B c8.o c7.o (by have:=b2.o;omega) c4.o g7.o⟩
          case measure=>simp[intOf];omega
         .obtain⟨l1,n4⟩:=(HG.o.2 A7).1;have c4:=Kz (HG.o.2 A7).2;go_wp2
          go_quiet (fail)
          obtain⟨P,Q,R,S,T⟩:=info_parts Tryz.nW;go_wp2_with (at_builtin;refine wpList_append_own _ rfl (.tmp 63) (.tmp 65) 23 rfl wc.heap.size 64 P _ 3 48 underlying23 Q R S T rfl A8 _ k O rfl (ay D.o.own F4) ⟨wr.heap.size,0,none⟩ 1 1 [.string d.name,.b d.cost,.slice s d.steps.length v] rfl rfl (λZ u a1=>(by rw[Qo];exact X_ wr #[.string d.name,.b d.cost,.slice s d.steps.length v] 64 Z u (by simpa using a1))) (nK d s v) D6 A7 D7 ?_;intro v6 w6 b4 b5 _;obtain⟨b6,b7,rfl⟩:=aG b4;have b9:K_ wr ((wr.drewN nq).alloc (.cells #[.string d.name,.b d.cost,.slice s d.steps.length v] 64)):=((K_.refl _).drewN nq).alloc _;have c9:=D.o.grown b9 b5;have d1:aH w6 (a.heap.size+1) 25 1:=D.o.row.block (c9.block _ A7);obtain⟨⟨_,i6⟩,i7⟩:=d1.row.at (i:=0) A7;have e6:=Kz (jC.next D.o A7 b9 b5 b4 (by have:=b2.o;omega) (by have:=h7.o;rw[show k=W by omega];exact this) F.o.one);clear b4 b5 d1)
          obtain⟨b,L⟩:=aj (w6.setCell ⟨a.heap.size+1,0,none⟩ (.slice b6 (k+1) b7));rw[<-L];have m:jC wc b (a.heap.size+1) a3 (k+1) b6 b7 (O++[.string d.name,.b d.cost,.slice s d.steps.length v]):=by rw[L];exact e6.o
          clear L eo en e1 g0 g1 eu g2 d0 i7 i6 c9 b9 e6;clear P Q R S T;have a5:=aB.uh m.kb b1.o;have z:=a5 g e5 _ fr A8 n;have a6:=m.kb.same (l2:=0) (h2:=a.heap.size+1) A7;have U:=(a6.cell (o:=0) (Py _) (A7:a.heap.size<a.heap.size+1) A7).trans co;have E:b.cell? ⟨g,k*3,none⟩=some (.string x.name):=by rw[PO (z.trans n.symm)];exact Y.out.1
          have G:b.cell? ⟨g,k*3+1,none⟩=some (.b x.cost):=by rw[PO (z.trans n.symm)];exact Y.out.2.1
          have H:b.cell? ⟨g,k*3+2,none⟩=some (.slice i x.steps.length j):=by rw[PO (z.trans n.symm)];exact Y.out.2.2
          have V:=m.cell;have zq:=m.kb.size;have A:=Kz m;have gl:=aP n;have g3:a.heap.size+1<b.heap.size:=A7;have g4:a.heap.size<b.heap.size:=A7;have i0:g<b.heap.size:=A7;have r:Hid (∀w',Below wc.heap.size b w'->(λw'=>w'.cell? ⟨a.heap.size+1,0,none⟩=some (.slice b6 (k+1) b7)/\w'.cell? ⟨a.heap.size,0,none⟩=some (.c g old.length C)/\w'.cell? ⟨g,k*3,none⟩=some (.string x.name)/\w'.cell? ⟨g,k*3+1,none⟩=some (.b x.cost)/\w'.cell? ⟨g,k*3+2,none⟩=some (.slice i x.steps.length j)) w'):=λw' q=>⟨(Below.cell q (p:=⟨a.heap.size+1,0,none⟩) D9).trans V,(Below.cell q (p:=⟨a.heap.size,0,none⟩) D9).trans U,(Below.cell q (p:=⟨g,k*3,none⟩) D9).trans E,(Below.cell q (p:=⟨g,k*3+1,none⟩) D9).trans G,(Below.cell q (p:=⟨g,k*3+2,none⟩) D9).trans H⟩
          clear m a5 z a6;obtain⟨P,Q,R,S,T⟩:=info_parts Tryz.nW;go_wp2
          refine Qk.region C9 (λw'=>w'.cell? ⟨a.heap.size+1,0,none⟩=some (.slice b6 (k+1) b7)/\w'.cell? ⟨a.heap.size,0,none⟩=some (.c g old.length C)/\w'.cell? ⟨g,k*3,none⟩=some (.string x.name)/\w'.cell? ⟨g,k*3+1,none⟩=some (.b x.cost)/\w'.cell? ⟨g,k*3+2,none⟩=some (.slice i x.steps.length j)) 10 ⟨V,U,E,G,H⟩ λh=>?_;refine ax 0 h ?_;refine ae 4 h ?_;refine ae 5 h ?_;refine ae 6 h ?_;refine au 7 λK f=>?_;go_simp
          have B:K_ b (b.alloc (.cells #[.string x.name,.b x.cost,.slice i x.steps.length j] 64)).drew:=(ai _ _).drew;refine af f (λ_=>r.o _ (Below.mono B A7)) ?_;clear f K h;refine au 8 λK f=>?_;refine step_append_lies _ rfl (.tmp 69) (.tmp 75) 23 rfl wc.heap.size 64 P _ 3 48 underlying23 Q R S T rfl A8 (.slice b6 (k+1) b7) (k+1) (O++[.string d.name,.b d.cost,.slice s d.steps.length v]) E5 (ay A.o.own B) ⟨b.heap.size,0,none⟩ 1 1 [.string x.name,.b x.cost,.slice i x.steps.length j] E5 rfl (λZ u a1=>by rw[Qo];exact X_ b #[.string x.name,.b x.cost,.slice i x.steps.length j] 64 Z u (by simpa using a1)) (nK x i j) A7 D6 A7 D7 _ rfl ?_;intro i1 c5 w8 a7 M c6 i2;have N:=A.o.grown B M;have a8:aH w8 (a.heap.size+1) 25 1:=A.o.row.block (N.block _ A7);obtain⟨⟨_,i3⟩,i4⟩:=a8.row.at (i:=0) A7;have⟨c7,c8⟩:=aJ a7 M;clear a7 M c6 a8;refine af f (λ_=>r.o _ N) ?_;clear f K;have h:=r.o _ N;refine ae 9 h ?_;refine au 10 λK f=>?_;go_simp
          refine af f (λb3=>QK rfl b3) ?_;clear f K;refine aF ?_;go_wp2
          go_roundw
          case rel=>exact⟨k+1,k+1+1,_,c5,_,A7,C8,.inl ⟨rfl,A7,A7⟩,jC.next A.o A7 B c8.o c7.o (by have:=b2.o;omega) c4.o g7.o⟩
          case measure=>simp[intOf];omega
       .have l3:k=old.length:=A7;subst l3;rcases h8 with⟨rfl,g8,hm⟩|⟨rfl,g8,g9⟩
        .subst hm;obtain⟨y,e7⟩:=D.o.fin b1.o d9.o A7 K5 A7 A7 b2.o HT.o HC.o HY.o HM.o A7;have i8:=d9.o.block (D.o.kb.block _ A7 A7);obtain⟨⟨_,t0⟩,t1⟩:=i8.row.at (i:=0) A7;have⟨l4,l5⟩:=aJ y e7;clear i8 y e7;go_wp2
         exact dY [.slice I (old.length+1) J] _ (.b 0) results159 rfl l4.o underlying25 rfl Tryz.mW rfl rfl l5.o
        .have hm:=g9.symm;subst hm;obtain⟨P,Q,R,S,T⟩:=info_parts Tryz.nW;have n5:w.heap.size+2<wr.heap.size:=A7;go_wp2_with (at_builtin;refine wpList_append_own _ rfl (.tmp 81) (.tmp 83) 23 rfl wc.heap.size 64 P _ 3 48 underlying23 Q R S T rfl A8 _ old.length O rfl (ay D.o.own F4) ⟨wr.heap.size,0,none⟩ 1 1 [.string d.name,.b d.cost,.slice s d.steps.length v] rfl rfl (λZ u a1=>(by rw[Qo];exact X_ wr #[.string d.name,.b d.cost,.slice s d.steps.length v] 64 Z u (by simpa using a1))) (nK d s v) D6 A7 D7 ?_;intro v6 w6 b4 b5 _;obtain⟨b6,b7,rfl⟩:=aG b4;have b9:K_ wr (wr.alloc (.cells #[.string d.name,.b d.cost,.slice s d.steps.length v] 64)):=ai _ _;have c9:=D.o.grown b9 b5;have d1:aH w6 (a.heap.size+1) 25 1:=D.o.row.block (c9.block _ A7);obtain⟨⟨_,i6⟩,i7⟩:=d1.row.at (i:=0) A7;have i9:aH w6 (w.heap.size+2) 25 1:=(d9.o.block (D.o.kb.block _ A7 A7)).block (c9.block _ A7);obtain⟨⟨_,n6⟩,n7⟩:=i9.row.at (i:=0) A7;have e6:=Kz (jC.next D.o A7 b9 b5 b4 (by have:=b2.o;omega) (by have:=h7.o;rw[show old.length=W by omega];exact this) F.o.one);clear b4 b5 d1 i9)
         obtain⟨y,e7⟩:=e6.o.fin b1.o d9.o A7 K5 A7 A7 b2.o HT.o HC.o HY.o HM.o A7;exact dY [.slice b6 (old.length+1) b7] _ (.b 0) results159 rfl y underlying25 rfl Tryz.mW rfl rfl e7
   .have HM:=Kz c1;clear c1 a9;go_wp2
    have y:=PD w3 (w.heap.size+2) 0 [J6] (d4.o.row.there (o:=0) (m:=1) (Pw _));refine dY [J6] _ (.b 2) results159 rfl y underlying25 rfl Tryz.mW rfl rfl (mF.none 2 rfl (.inr (.inl ⟨HC.o,.inr HM.o,rfl,rfl⟩)) ?_)
    repeat (first|(refine K_.setCell ?_ D9 _)|exact K3)
  .have HY:=Kz c1;clear c1 a9;go_wp2
   have y:=PD w2 (w.heap.size+2) 0 [J6] (d3.o.row.there (o:=0) (m:=1) (Pw _));refine dY [J6] _ (.b 2) results159 rfl y underlying25 rfl Tryz.mW rfl rfl (mF.none 2 rfl (.inr (.inl ⟨HC.o,.inl HY.o,rfl,rfl⟩)) ?_)
   repeat (first|(refine K_.setCell ?_ D9 _)|exact K1)
 .have n8:(c == 0)=false:=by simpa using f2
  go_wp2
  have y:=PD w1 (w.heap.size+2) 0 [J6] (d3.o.row.there (o:=0) (m:=1) (Pw _));refine dY [J6] _ (.b 1) results159 rfl y underlying25 rfl Tryz.mW rfl rfl (mF.none 1 rfl (.inl ⟨λb3=>f2 (HC.o.unique b3),rfl,rfl⟩) ?_)
  repeat (first|(refine K_.setCell ?_ D9 _)|exact K1)
theorem bM.at{a:QW}(h:bM w (.slice a n cap) l){k:Nat}(f:k<l.length):
  ∃B oB b c,a=some ⟨B,oB,none⟩/\B<w.heap.size/\w.rangeAt B (oB+k*3) ((l.getD k Qz.zero).cells b c)/\lT w b (l.getD k Qz.zero).steps/\Steps w b (l.getD k Qz.zero).steps:=by
 obtain⟨r,s,e,t,v,g⟩:=h;simp only[Qm] at e;obtain⟨rfl,rfl,rfl⟩:=e;obtain⟨i,o,x,y,u,j,m,p,d⟩:=g k f;obtain⟨b,c,rfl,_,q⟩:=d.GJ;exact⟨i,o,b,c,j,aP m,p,q,d.steps⟩
def AB(mN:Nat)(w w':QX)(e:Ending):Prop:=
 ∃(v:QY)(r:List Qz),e=.returned (.agg #[v])/\r.length<=60/\(∀d∈r,d.TinyN mN)/\bM w' v r/\K_ w w'/\mR w.heap.size v r
def M_(mN:Nat)(wr:QX)(s5 s6:QY)(wx:QX):Prop:=
 ∃(xb:Nat)(v:QY)(c:Int)(r:List Qz),s5=.h xb/\s6=.b c/\K_ wr wx/\xb<wx.heap.size/\wx.cell? ⟨xb,0,none⟩=some v/\bM wx v r/\r.length<=60/\(∀d∈r,d.TinyN mN)/\mR wr.heap.size v r
theorem DF.tiny{r:List Qz}{c:Int}(h:DF l d c r)(e:∀d∈l,d.TinyN mN)(f:d.TinyN mN):∀x∈r,x.TinyN mN:=λx a=>by
 rcases h.mem a with rfl|a
 .exact f
 .exact e x a
theorem vQ(w:QX)(b:QW)(cap:Nat)(l:List Qz)(c0:mN<=1000)(hl:l.length<=1000)(hs:∀d∈l,d.TinyN mN)(hG:bM w (.slice b l.length cap) l):
  Calls prog 136 #[.agg #[.slice b l.length cap]] w λe w'=>AB mN w w' e:=by
 go_enter func136,ntmps136
 go_wp2
 have X:K_ w (((w.alloc (.cells #[.slice b l.length cap] 25)).alloc (.cells #[J6] 25)).alloc (.cells #[J6] 25)):=((ai _ _).alloc _).alloc _;go_loopw [4] (λG wr=>∃(k:Nat)(z:QY)(r:List Qz),k<=l.length/\G=.b k/\K_ w wr/\wr.cell? ⟨w.heap.size,0,none⟩=some (.slice b l.length cap)/\aH wr (w.heap.size+1) 25 1/\aH wr (w.heap.size+2) 25 1/\
   wr.cell? ⟨w.heap.size+2,0,none⟩=some z/\bM wr z r/\r.length<=60/\(∀d∈r,d.TinyN mN)/\mR w.heap.size z r) λG _=>l.length-(intOf G).toNat
 case atStart=>
  have Y:=X_ ((w.alloc (.cells #[.slice b l.length cap] 25)).alloc (.cells #[J6] 25)) #[J6] 25;simp only[Qh] at Y;refine⟨0,J6,[],Py _,rfl,X,?_,?_,?_,Y 0 _ rfl,bM.nil _,A9,(λd hd=>by simp at hd),(λh0=>by simp at h0)⟩
  .rw[K_.cell (w:=w.alloc (.cells #[.slice b l.length cap] 25)) ((ai _ _).alloc _) A9];exact X_ w _ _ 0 _ rfl
  .exact aH.kept (by have:=aH.made (w.alloc (.cells #[.slice b l.length cap] 25)) #[J6] 25;simpa using this) (ai _ _)
  .have:=aH.made ((w.alloc (.cells #[.slice b l.length cap] 25)).alloc (.cells #[J6] 25)) #[J6] 25;simpa using this
 case round=>
  clear X;obtain⟨k,z,r,hk,rfl,c,H,Z,I,J,a0,a1,a2,a3⟩:=hrel;obtain⟨f,rfl⟩:=aj wr;have K:=I.lt;have⟨j,a4,i,s⟩:=qH Z I a0 a2;clear Z I a0 a2;by_cases a5:k<l.length
  .have c3:(k:Int)<(l.length:Int):=A7;obtain⟨B,h,M,N,c4,a6,a7,O,P⟩:=hG.at a5;subst c4;obtain⟨n,p,rfl,d8,d9⟩:=i.o.slice;have v:=c.range a6 a7;have Q:B<f.heap.size:=Px a6 c.size;have A:=hs (l.getD k Qz.zero) (by simp[List.getD,a5]);obtain⟨d,a8⟩:=aj (l.getD k Qz.zero);rw[<-a8] at v O P A;have R:=v 0 _ rfl;have c1:=v 1 _ rfl;have c2:=v 2 _ rfl;rw[Qp] at R;have c5:=Kz (O.kept c);have c6:=Kz (P.kept c);clear v a8 a7 O P;have a9:Hid (∀w',K_ f w'->(λw'=>w'.cell? ⟨w.heap.size+2,0,none⟩=some (.slice n r.length p)/\w'.cell? ⟨w.heap.size,0,none⟩=some (.slice (some ⟨B,h,none⟩) l.length cap)/\w'.cell? ⟨B,h+k*3,none⟩=some (.string d.name)/\w'.cell? ⟨B,h+k*3+1,none⟩=some (.b d.cost)/\w'.cell? ⟨B,h+k*3+2,none⟩=some (.slice M d.steps.length N)) w'):=λw' x=>⟨(x.cell K).trans J,(x.cell A7).trans H,(x.cell Q).trans R,(x.cell Q).trans c1,(x.cell Q).trans c2⟩
   go_upto_region 5 with fail
   go_cut [5,6] from 15 to 24 λs5 s6 wx=>M_ mN f s5 s6 wx
   case first=>
    go_region_held (λw'=>w'.cell? ⟨w.heap.size+2,0,none⟩=some (.slice n r.length p)/\w'.cell? ⟨w.heap.size,0,none⟩=some (.slice (some ⟨B,h,none⟩) l.length cap)/\w'.cell? ⟨B,h+k*3,none⟩=some (.string d.name)/\w'.cell? ⟨B,h+k*3+1,none⟩=some (.b d.cost)/\w'.cell? ⟨B,h+k*3+2,none⟩=some (.slice M d.steps.length N)) (exact bE a9 _ (by repeat (first|(refine K_.setCell ?_ D9 _)|(with_reducible exact K_.refl _)|(with_reducible assumption)|apply K_.drew|apply K_.alloc))) ((go_at_call 159;refine (Mk _ n p r d M N c0 A7 s.o A (i.o.MM.kept F6) (i.o.nodes.kept F6) (c5.o.kept F6) (c6.o.kept F6)).mono ?_;rintro e S ⟨c8,c9,q,C,e0,d0,rfl,b0,b1,T,b2,b3⟩;have a:K_ f S:=K_.trans F6 b3;have b4:=Kz (bM.gW T b2);have b5:f.heap.size<=d0:=Pz (K_.size F6) b1;have b6:=Kz ((mR.gW (L:=C) T).mono b5);have D:=Kz b0;clear b0 T b2 b1 b5;(first|(have E:=Db (t:=25) (c:= #[J6]) b3;(try simp only[Qh] at E);have U:=Kz E;obtain⟨⟨_,t0⟩,f0⟩:=E.row.at (i:=0) A8;clear E)|skip)))
    .go_wp2
     go_meet
     exact⟨_,_,q,C,rfl,rfl,a.alloc _,A9,A9,b4.o.kept (ai _ _),D.o.len,D.o.tiny s.o A,b6.o⟩
    .go_wp2
     go_meet
     have V:=PD S f.heap.size 0 [.slice c8 C.length c9] (U.o.row.there (o:=0) (m:=1) (Pw _));exact⟨_,_,q,C,rfl,rfl,a.setCell A9 _,by rw[size_setCell];exact U.o.lt,V 0 _ rfl,b4.o.same (U.o.same (o:=0) _) A8 A8 A8 A8,D.o.len,D.o.tiny s.o A,b6.o⟩
   case rest=>
    obtain⟨xb,v7,q,r7,rfl,rfl,a,zx,x0,W,d1,b7,d2⟩:=hcut;obtain⟨S,rfl⟩:=aj wc;have z7:=Px K a.size;have o7:=(a.cell (o:=0) K).trans J;have p7:=(a.cell (o:=0) (A7:w.heap.size<f.heap.size)).trans H;obtain⟨e1,c7,rfl,_,_⟩:=W.slice;have⟨d3,d4⟩:=aJ W b7;have b8:=Kz (j.o.kept a);have y:=Kz (a4.o.kept a);have d5:=Kz (i.o.kept a);have b9:=c.trans a;have d6:=c.size;obtain⟨⟨_,u0⟩,g0⟩:=y.o.row.at (i:=0) A7;clear W b7 a9 R c1 c2 J H j a4 i a c;by_cases F:q=0
    .have d7:(q == 0)=true:=by simp[F]
     clear F;go_wp2
     go_roundw
     case rel=>
      refine⟨k+1,_,r7,A7,C8,b9.setCell D9 _,?_,b8.o.block (Below.heap_setCell _ _ _ _ A9),y.o.set _,bB y.o.row A7 _,d3.o.same (y.o.same (o:=0) _) A8 A8 A8 A8,d1,d4.o,d2.mono d6⟩;rw[PU _ _ _ _ A9];exact p7
     case measure=>simp[intOf];omega
    .have d7:(q == 0)=false:=by simpa using F
     clear F;go_wp2
     go_roundw
     case rel=>exact⟨k+1,_,r,A7,C8,b9,p7,b8.o,y.o,o7,d5.o,a1,s.o,a3⟩
     case measure=>simp[intOf];omega
  .have c3:¬(k:Int)<(l.length:Int):=A7;obtain⟨⟨_,x0⟩,g0⟩:=j.o.row.at (i:=0) A7;have z1:=j.o.lt;obtain⟨n,p,rfl,_,_⟩:=i.o.slice;go_wp2
   have V:=PD f (w.heap.size+1) 0 [.slice n r.length p] (j.o.row.there (o:=0) (m:=1) (Pw _));exact Zx [.slice n r.length p] _ results136 rfl V underlying25 rfl Tryz.mW rfl ⟨_,r,rfl,a1,s.o,i.o.same (j.o.same (o:=0) _) A8 A8 A8 A8,c.setCell A9 _,a3⟩
theorem gK.sorted{M:Nat}{m j:QX}{f B:Nat}{a:QW}{k:List UInt8}{i t:Nat}{v:QY}{L:List Qz}{e:Ending}(h:gK M m j f B a cap k i v L xs)(C:AB M j w6 e){b:Nat}(D:aH j b 25 1)(E:w.heap.size<=b)(k0:K_ w m){F:Nat}(G:Rd w f a cap k F)(H:p<=i)(h2:i<=p+t):∃c vn d,e=.returned (.agg #[.slice c vn d])/\aH w6 b 25 1/\jI M 60 w (w6.setCell ⟨b,0,none⟩ (.slice c vn d)) f a cap k p t e:=by
 obtain⟨P,r,n,I,J,q,l,K⟩:=C;obtain⟨c,d,rfl,_,_⟩:=q.slice;have s:=D.kept l;have N:=s.same (o:=0) (.slice c r.length d);have x:Below w.heap.size w6 (w6.setCell ⟨b,0,none⟩ (.slice c r.length d)):=(Below.refl _ _).setCell (p:=⟨b,0,none⟩) E _;have y:Xj f (f+1) w w6:=Xj.gJ ⟨h.kb.os.trans k0.os,h.kb.tape.trans k0.tape,h.kb.output.trans k0.output,Pz k0.size h.kb.size,λz A O=>(h.kb.block z (Px A k0.size) O).trans (k0.block z A)⟩ l;exact⟨c,r.length,d,n,s,_,r,i,n,H,h2,I,J,q.same N A8 A8 A8 A8,(h.rd.kept l).below G x y.size,y.below x,K.mono (Pz k0.size h.kb.size)⟩
def bU(g:QV):Xq:=⟨[],0,[],0,0,true,false,g⟩
theorem jr{g:QV}(a:g.size<=300):(bU g).TinyN m:=⟨Py _,(λx b=>by simp[bU] at b),J2,Py _,(λe c=>by simp[bU] at c),by show (-9223372036854775808:Int)<=0/\(0:Int)<=9223372036854775807;decide,J2,a⟩
theorem uV(w:QX)(g:QV):mU w 9 187 ((bU g).cells none 0 none 0) (bU g):=⟨none,0,none,0,rfl,.inl rfl,.inl rfl,Pw _⟩
theorem qg(g:QV):lV ((bU g).cells none 0 none 0):=kZ (λ_=>⟨rfl,rfl⟩) λ_=>⟨rfl,rfl⟩
theorem Ho(w:QX)(c:Array QY):∀j u,c.toList[j]? =some u->(w.alloc (.cells c 146)).cell? ((⟨w.heap.size,0,none⟩:Addr).add j)=some u:=λj u a=>by
 rw[Qo];exact X_ w c 146 j u a
theorem kK.g{c d:Nat}{a:QW}{e:List UInt8}{cost:Int}{v:QY}{L:List Xq}(h:kK mN w wr c d a cap e p cost v L xs):dI wr v L:=(StW.gW h.own h.pack h.pM).g
theorem MW(w:QX)(s:QV)(d:s.size<=maxLen):
  Calls prog 168 #[.string s] w λe w'=>e=.returned (.int .u64 (sumOf s.data.toList))/\K_ w w':=by
 unfold maxLen at d;obtain⟨l,C,f,h,a⟩:=Ba w s;go_enter func168,ntmps168
 go_wp2
 clear h;go_loopw [3,9] (λx i wr=>∃k:Nat,k<=s.size/\i=.b k/\x=.int .u64 ((s.data.toList.take k).foldl eB 14695981039346656037)/\wr= (w.alloc (.cells C 5 f)).drew) λ_ i _=>s.size-(intOf i).toNat
 case atStart=>exact⟨0,Py _,rfl,rfl,rfl⟩
 case round=>
  obtain⟨k,m,rfl,rfl,rfl⟩:=hrel;by_cases b:k<s.size
  .have n:=a k b;have c:k<s.data.toList.length:=by simpa using b
   have j:Hid ((s.data.toList.take (k+1)).foldl eB 14695981039346656037=eB ((s.data.toList.take k).foldl eB 14695981039346656037) s[k]):=by
    have e:=tO s.data.toList k c;rw[List.getD_eq_getElem?_getD,PE c,QL] at e;exact e
   generalize (s.data.toList.take k).foldl eB 14695981039346656037=v at *;clear a;go_wp2
   go_roundw
   case rel=>exact⟨k+1,A7,C8,by rw[j.o];rw[Bo];rfl,by first|rfl|trivial⟩
   case measure=>simp[intOf];omega
  .go_wp2
   go_ret
   have:k=s.data.toList.length:=D7;subst this;rw[Qc];exact⟨rfl,(ai _ _).drew⟩
theorem Ol(u:Nat)(h:u<18446744073709551616):bits BinOp.and IntKind.u64 (u:Int) 15= ((u % 16:Nat):Int):=by
 have e:=bits_and_u64_nat u 15 h A7;rw[show ((15:Nat):Int)=15 from rfl] at e;rw[e,show (15:Nat)=2 ^ 4-1 from rfl,Nat.and_two_pow_sub_one_eq_mod]
theorem Kv{j v:Nat}(h:v<18446744073709551616)(a:16<=v / 16 ^ j):j+1<=15:=by
 have c:16 ^ (j+1)<=v:=by
  rw[Nat.pow_succ];have:=Nat.div_mul_le_self v (16 ^ j);have:=Nat.mul_le_mul_right (16 ^ j) a;rw[Nat.mul_comm] at this;omega
 apply Decidable.byContradiction;intro d;have e:16 ^ 16<=16 ^ (j+1):=Nat.pow_le_pow_right A7 A7;have f:(16:Nat) ^ 16=18446744073709551616:=A8;omega
theorem Row.at0{b i:Nat}(h:Row w b n)(c:i<n):(∃v,w.cell? ⟨b,i,none⟩=some v)/\w.frozen? ⟨b,i,none⟩=false:=by
 obtain⟨t,f,h⟩:=h;exact⟨⟨_,h.cell c⟩,h.frozen i⟩
theorem NU(n:Nat)(h:n<16)(b:n<(⟨#[48,49,50,51,52,53,54,55,56,57,97,98,99,100,101,102,103,104,105,106,107,108,109,110,111,112,113,114,115,116,117,118,119,120,121,122]⟩:QV).size):
  (⟨#[48,49,50,51,52,53,54,55,56,57,97,98,99,100,101,102,103,104,105,106,107,108,109,110,111,112,113,114,115,116,117,118,119,120,121,122]⟩:QV)[n]=pQ n:=by
 have:∀m:Fin 16,(⟨#[48,49,50,51,52,53,54,55,56,57,97,98,99,100,101,102,103,104,105,106,107,108,109,110,111,112,113,114,115,116,117,118,119,120,121,122]⟩:QV)[m.val]'(Px m.isLt A8)=pQ m.val:=by decide+kernel
 exact this ⟨n,h⟩
def Written(w:QX)(B v j:Nat):Prop:=∀t,t<j->w.cell? ⟨B,64-t,none⟩=some (.int .u8 ((pQ (v / 16 ^ t % 16)).toNat:Int))
theorem Written.set{B v j:Nat}{old:QY}(h:Written w B v j)(e:p+1+j=65)(a:w.cell? ⟨B,p,none⟩=some old){d:UInt8}(b:d=pQ (v / 16 ^ j % 16)):Written (w.setCell ⟨B,p,none⟩ (.int .u8 (d.toNat:Int))) B v (j+1):=by
 intro t f;by_cases c:t=j
 .subst c;have:64-t=p:=A7;rw[this,QC _ _ _ a,b]
 .rw[PU _ _ _ _ D9];exact h t A7
theorem Tryz.OH :∃zs:Array QY,zs.size=65/\∀W,(zeroValue 291).run prog W=.ok (.agg zs) W:=⟨Array.replicate 65 (.int .u8 0),A9,λW=>C9⟩
theorem Tryz.MC :prog.arrayLen 291=65:=C9
theorem Tryz.OJ :prog.underlying 291=some (.array (prog.arrayLen 291) (prog.elem 291)):=C9
theorem Tryz.Ny :prog.elem 291=5:=C9
theorem Pg(W:QX)(B p:Nat)(d:p<=64):(Instr.sliceAt 291 (.h B) (some (.b (p:Int))) none none).run prog W=.ok (.slice (some ⟨B,p,none⟩) (65-p) (65-p)) W:=by
 rw[run_sliceAt_array_l W 291 ⟨B,0,none⟩ Tryz.OJ .i64 p A7 (by rw[Tryz.MC];omega),Tryz.Ny,Tryz.MC,Tryz.sizeOf5];have b:¬(65:Nat)=p:=A7;simp[Result.andThen,slicedAt,Addr.add,b];intro h;exact h.symm
theorem OZ(W:QX)(B v j p:Nat)(f:p+1+j=65)(h:Written W B v (j+1)):(convert 22 9 (.slice (some ⟨B,p,none⟩) (65-p) (65-p))).run prog W=.ok (.string ⟨(kJ (j+1) v).toArray⟩) W:=by
 have b:(kJ (j+1) v).length=65-p:=by rw[jc];omega
 have e:=run_convert_bytes_back (P:=prog) W 22 9 5 ⟨B,p,none⟩ (65-p) (kJ (j+1) v) underlying22 underlying5 underlying9 (λi k=>by
  have a:=h (j-i) A7;have c:64-(j-i)=p+i:=A7;rw[c] at a;have d:(⟨B,p,none⟩:Addr).add i= ⟨B,p+i,none⟩:=by simp[Addr.add]
  rw[EQ,Nat.add_sub_cancel,d];exact a)
 rw[b] at e;exact e
theorem zF(w:QX)(v:Nat)(m:v<18446744073709551616)(D:o_ w):
  Calls prog 210 #[J6,.int .u64 v,.b 16,.bool false,.bool false] w λe w'=>(∃(n:Nat)(b:QV),e=.returned (.tuple #[J6,.string b])/\b.data.toList=kJ n v/\1<=n/\n<=16/\v<16 ^ n)/\K_ w w':=by
 obtain⟨a,h,N⟩:=Tryz.OH;have O:¬a= #[]:=λe=>by rw[e] at h;simp at h
 go_enter func210,ntmps210
 go_wp2_with (first|(go_at_call 218;refine (OT _ (D.kept F5)).mono ?_;rintro e w1 ⟨rfl,rfl⟩)|go_in)
 have q:Row (w.alloc (.cells a 291)) w.heap.size 65:=by have:=Row.made w a 291;rw[h] at this;exact this
 have r:K_ w (w.alloc (.cells a 291)):=ai _ _;go_loopw [1,13] (λu E wr=>∃j:Nat,j<=15/\u=.int .u64 ((v / 16 ^ j:Nat):Int)/\(∃p:Nat,p+1+j=65/\E=.b ((p:Int)+1))/\K_ w wr/\Row wr w.heap.size 65/\Written wr w.heap.size v j) λu _ _=>(intOf u).toNat
 case atStart=>exact⟨0,A7,A9,⟨64,A7,rfl⟩,r,q,λP F=>aS F⟩
 case round=>
  obtain⟨j,Q,rfl,⟨p,i,rfl⟩,s,k,t⟩:=hrel;clear q r;obtain⟨c,R⟩:=k.at0 (i:=p) A7;obtain⟨old,c⟩:=c;have⟨G,x⟩:=aJ k t;clear k t;have H:v / 16 ^ j<18446744073709551616:=Nat.lt_of_le_of_lt (Nat.div_le_self _ _) m;have y:v / 16 ^ j / 16=v / 16 ^ (j+1):=by rw[Nat.div_div_eq_div_mul,Nat.pow_succ]
  have I:=Kz y;clear y;have l:Hid (16<=v / 16 ^ j->j+1<=15):=Kv m;have J:Hid (v / 16 ^ j<16->v<16 ^ (j+1)):=λK=>by
   have:=Nat.lt_mul_of_div_lt K (Nat.pow_pos A7);rw[Nat.pow_succ,Nat.mul_comm];exact this
  generalize z:v / 16 ^ j=u at *;have A:=Kz z;clear z;have S:=Ol u H;have L:u % 16<16:=Nat.mod_lt _ A7;by_cases T:(16:Int)<=u
  .go_wp2
   go_roundw
   case rel=>
    refine⟨j+1,l.o A7,by rw[<-I.o];simp,⟨p-1,by have:=l.o A7;omega,by congr 1;have:=l.o A7;omega⟩,K_.setCell s (Pw _) _,Row.set G.o _ rfl _,?_⟩;exact Written.set x.o i c (by rw[NU _ L,A.o])
   case measure=>simp[intOf];omega
  .have f:u<16:=A7;have hcut:∀W,(Instr.sliceAt 291 (.h w.heap.size) (some (.b (p:Int))) none none).run prog W=.ok (.slice (some ⟨w.heap.size,p,none⟩) (65-p) (65-p)) W:=λW=>Pg W _ _ A7
   have B:=λW=>OZ W w.heap.size v j p i
   have C:=λM=>Kz (Written.set x.o i c (d:=(⟨#[48,49,50,51,52,53,54,55,56,57,97,98,99,100,101,102,103,104,105,106,107,108,109,110,111,112,113,114,115,116,117,118,119,120,121,122]⟩:QV)[u]'M) (by rw[NU _ f,A.o,Nat.mod_eq_of_lt f]))
   have U:=B _ (C (Px f A8)).out;clear B C;go_wp2
   go_ret2
   exact⟨⟨j+1,_,rfl,rfl,A7,A7,J.o f⟩,K_.setCell s (Pw _) _⟩
theorem zK(w:QX)(v:Nat)(d:v<18446744073709551616)(f:o_ w):
  Calls prog 196 #[.int .u64 v,.b 16] w λe w'=>(∃(n:Nat)(b:QV),e=.returned (.string b)/\b.data.toList=kJ n v/\1<=n/\n<=16/\v<16 ^ n)/\K_ w w':=by
 go_enter func196,ntmps196
 go_wp2_with fail
 refine (zF _ v d f).mono ?_;rintro e w1 ⟨⟨n,b,rfl,a,h,i,c⟩,j⟩;have⟨k,l⟩:=aJ a c;clear a c;go_wp2
 go_ret
 exact⟨⟨n,b,rfl,k.o,h,i,l.o⟩,j⟩
theorem yx(w:QX)(v:Nat)(d:v<18446744073709551616)(f:o_ w):
  Calls prog 179 #[.int .u64 v,.b 16] w λe w'=>(∃(n:Nat)(b:QV),e=.returned (.string b)/\b.data.toList=kJ n v/\1<=n/\n<=16/\v<16 ^ n)/\K_ w w':=by
 go_enter func179,ntmps179
 go_wp2_with fail
 refine (zK _ v d f).mono ?_;rintro e w1 ⟨⟨n,b,rfl,a,h,i,c⟩,j⟩;have⟨k,l⟩:=aJ a c;clear a c;go_wp2
 go_ret
 exact⟨⟨n,b,rfl,k.o,h,i,l.o⟩,j⟩
theorem Ff(w:QX)(v:Nat)(d:v<18446744073709551616)(f:o_ w):
  Calls prog 167 #[.int .u64 v,.b 16] w λe w'=>(∃b:QV,e=.returned (.string b)/\b.data.toList=kJ 16 v)/\K_ w w':=by
 go_enter func167,ntmps167
 go_wp2_with fail
 refine (yx _ v d f).mono ?_;rintro e w1 ⟨⟨n,b,rfl,a,q,r,c⟩,h⟩;have s:b.size=n:=by have:=congrArg List.length a;rw[jc] at this;simpa using this
 have⟨i,j⟩:=aJ a c;clear a c;obtain⟨m,k⟩:∃m:Nat,m+n=16:=⟨16-n,A7⟩;have t:(16:Int)-(n:Int)= (m:Int):=A7;have x:(⟨#[48]⟩:QV).data.toList=[48]:=rfl;have l:(⟨#[48]⟩:QV).size*m<=140737488355328:=by rw[show (⟨#[48]⟩:QV).size=1 from rfl];omega
 have y:(m:Int)<=9223372036854775807:=A7;go_wp2_with fail
 refine (Tryz.strings_Repeat ⟨#[48]⟩ m _ A7 l).mono ?_;rintro e z ⟨rfl,p⟩;have A:(⟨(Lib.repeatL [48] m).toArray⟩:QV).size<=16:=by show (Lib.repeatL [48] m).toArray.size<=16;rw[List.size_toArray,Lib.repeatL_length];simp;omega
 go_wp2
 go_ret
 refine⟨⟨_,rfl,?_⟩,K_.trans h p⟩;rw[gG,i.o,<-k,DJ n v j.o m]
 congr 1
 have:=Lib.repeatL_replicate 48 1 m;simpa using this
def JO(s:QV):Prop:=200<s.size
theorem sU(w:QX)(s:QV):Calls prog 165 #[.string s] w λe w'=>Says e (JO s)/\w'=w:=by
 by_cases h:(200:Int)<s.size
 .have b:decide ((200:Int)<s.size)=true:=by simpa using h
  go_enter func165,ntmps165
  go_wp2
  go_ret
  exact⟨Says.congr (p:=True) (Says.yes trivial) ⟨λ_=>by unfold JO;omega,λ_=>trivial⟩,rfl⟩
 .have b:decide ((200:Int)<s.size)=false:=by simpa using h
  go_enter func165,ntmps165
  go_wp2
  go_ret
  exact⟨Says.congr (p:=False) (Says.no id) ⟨False.elim,λg=>by unfold JO at g;omega⟩,rfl⟩
def ED(l:List QV):Prop:=∃i,i<l.length/\JO (l.getD i ByteArray.empty)
theorem Ae(w:QX)(a:QW)(cap:Nat)(l:List QV)(v:l.length<=maxLen)(x:Strs w a l):
  Calls prog 175 #[.slice a l.length cap,.func (.func 165) #[] #[]] w λe w'=>(∃r,e=.returned (.b r)/\(0<=r↔ED l))/\w'=w:=by
 unfold maxLen at v;go_enter func175,ntmps175
 go_wp2
 go_loop [8] (λi=>∃k:Nat,k<=l.length/\i=.b k/\∀j,j<k->¬JO (l.getD j ByteArray.empty)) λi=>l.length-(intOf i).toNat
 case atStart=>exact⟨0,Py _,rfl,λj h=>aS h⟩
 case round=>
  obtain⟨k,B,rfl,m⟩:=hrel;have n:=Kz m;clear m;by_cases p:k<l.length
  .obtain⟨b,o,rfl,C,y⟩:=x k p;obtain⟨c,d⟩:=aj (l.getD k ByteArray.empty);rw[<-d] at y;have q:=Kz d;clear d;go_wp2_with fail
   refine (sU _ c).mono ?_;rintro e w1 ⟨f,rfl⟩;rcases f.cases with⟨rfl,s⟩|⟨rfl,t⟩
   .have z:=Kz s;clear s f;go_wp2
    go_ret
    exact⟨⟨k,rfl,⟨λ_=>⟨k,p,by rw[<-q.o];exact z.o⟩,λ_=>A7⟩⟩,rfl⟩
   .have A:=Kz t;clear t f;go_wp2
    go_round
    case rel=>
     refine⟨k+1,A7,C8,λj h=>?_⟩;by_cases e:j=k
     .subst e;rw[<-q.o];exact A.o
     .exact n.o j A7
    case measure=>simp[intOf];omega
  .go_wp2
   go_ret
   exact⟨⟨-1,rfl,⟨λD=>A7,λ⟨i,E,e⟩=>QK e (n.o i A7)⟩⟩,rfl⟩
theorem uy(w:QX)(a:QW)(cap:Nat)(l:List QV)(h:l.length<=maxLen)(i:Strs w a l):
  Calls prog 164 #[.slice a l.length cap,.func (.func 165) #[] #[]] w λe w'=>Says e (ED l)/\w'=w:=by
 go_enter func164,ntmps164
 go_wp2_with fail
 refine (Ae _ a cap l h i).mono ?_;rintro e w1 ⟨⟨r,rfl,d⟩,rfl⟩;have f:=Kz d;clear d;by_cases c:0<=r
 .have j:decide (0<=r)=true:=by simpa using c
  go_wp2
  go_ret
  exact⟨Says.congr (p:=True) (Says.yes trivial) ⟨λ_=>f.o.1 c,λ_=>trivial⟩,rfl⟩
 .have j:decide (0<=r)=false:=by simpa using c
  go_wp2
  go_ret
  exact⟨Says.congr (p:=False) (Says.no id) ⟨False.elim,λk=>by have:=f.o.2 k;omega⟩,rfl⟩
theorem Kt(w:QX)(a:QW)(cap:Nat)(l:List QV)(f:l.length<=cap)(s:l.length<=100)(h:(Lib.join (texts l) [44]).length<=140737488355328)(c:Strs w a l):
  Calls prog 166 #[.slice a l.length cap,.string ⟨#[44]⟩] w λe w'=>(∃b:QV,e=.returned (.string b)/\b.data.toList=Lib.join (texts l) [44])/\K_ w w':=by
 by_cases i:l.length=0
 .have j:l=[]:=QO i;subst j;refine (Tryz.strings_Join_none a cap ⟨#[44]⟩ w).mono ?_;rintro e w' ⟨rfl,rfl⟩;exact⟨⟨_,rfl,rfl⟩,K_.refl _⟩
 .obtain⟨b,o,rfl,k,_⟩:=c 0 A7;refine (Tryz.strings_Join b o cap l ⟨#[44]⟩ w (λm x n=>?_) k A7 f h).mono ?_
  .obtain⟨d,p⟩:=PG.1 n;obtain⟨t,v,e,_,q⟩:=c m d;simp only[Ql,QS,and_true] at e;obtain⟨rfl,rfl⟩:=e;rw[q];simp[List.getD,d,p]
  .rintro e w' ⟨rfl,r⟩;exact⟨⟨_,rfl,rfl⟩,r⟩
theorem FP(w:QX)(give:QV)(a:QW)(cap:Nat)(l:List QV)(E:give.size<=maxLen)(s:l.length<=maxLen)(t:Strs w a l)(F:l.length<=cap)(G:o_ w):
  Calls prog 148 #[.string give,.slice a l.length cap] w λe w'=>e=.returned (.string (pJ give l))/\K_ w w':=by
 have H:=s;unfold maxLen at E s;by_cases x:(30:Int)<give.size
 .have m:decide ((30:Int)<give.size)=true:=by simpa using x
  go_enter func148,ntmps148
  go_wp2
  go_ret
  exact⟨mE (lm (.inl A7)).symm,K_.refl _⟩
 .have m:decide ((30:Int)<give.size)=false:=by simpa using x
  by_cases y:(100:Int)<l.length
  .have n:decide ((100:Int)<l.length)=true:=by simpa using y
   go_enter func148,ntmps148
   go_wp2
   go_ret
   exact⟨mE (lm (.inr (.inl A7))).symm,K_.refl _⟩
  .have n:decide ((100:Int)<l.length)=false:=by simpa using y
   go_enter func148,ntmps148
   go_wp2_with fail
   refine (uy _ a cap l H t).mono ?_;rintro e w1 ⟨b,rfl⟩;rcases b.cases with⟨rfl,f⟩|⟨rfl,h⟩
   .have i:=Kz f;clear f b m n;go_wp2
    go_ret
    obtain⟨j,d,I⟩:=i.o;exact⟨mE (lm (.inr (.inr ⟨j,d,I⟩))).symm,K_.refl _⟩
   .have p:Hid (qR give l):=⟨A7,A7,λj d=>by
     apply Decidable.byContradiction;intro R;exact h ⟨j,d,by unfold JO;omega⟩⟩
    clear h b m n;have J:(Lib.join (texts l) [44]).length<=100*201:=by
     have:=Nu (texts l) 200 (λS z=>by
      simp only[texts,PX] at z;obtain⟨T,K,rfl⟩:=z;obtain⟨j,d,rfl⟩:=PN K;have:=p.o.2.2 j d;simpa[List.getD,d] using this)
     rw[kW] at this;omega
    go_wp2_with fail
    refine (Kt _ a cap l F A7 A7 t).mono ?_;rintro e U ⟨⟨k,rfl,q⟩,A⟩;have W:k.size<=20100:=by have:=congrArg List.length q;simp at this;omega
    have B:Hid ((give++ ⟨#[40]⟩++k++ ⟨#[41]⟩).data.toList=kV give.data.toList (texts l)):=by
     show _=_;rw[gG,gG,gG,q];simp[kV]
    clear q J;have X:(give++ ⟨#[40]⟩++k++ ⟨#[41]⟩:QV).size<=30000:=by
     have L:(⟨#[40]⟩:QV).size=1:=rfl;have M:(⟨#[41]⟩:QV).size=1:=rfl;simp only[ByteArray.size_append,L,M];omega
    go_wp2_with fail
    generalize (give++ ⟨#[40]⟩++k++ ⟨#[41]⟩:QV)=c at *;refine (sU _ c).mono ?_;rintro e Y ⟨b,rfl⟩;rcases b.cases with⟨rfl,f⟩|⟨rfl,h⟩
    .have i:Hid (200<c.size):=f;clear f b;go_wp2_with fail
     refine (MW _ c D6).mono ?_;rintro e Z ⟨rfl,N⟩;have C:=K_.trans A N;have a0:=sN c.data.toList;have D:Hid (pJ give l= ⟨(35 :: kJ 16 (sumOf c.data.toList).toNat).toArray⟩):=Bw p.o B.o i.o;generalize sumOf c.data.toList=V at *;obtain⟨v,rfl⟩:∃v:Nat,V=v:=⟨V.toNat,A7⟩;rw[Int.toNat_natCast] at D;go_wp2_with fail
     refine (Ff _ v A7 (G.kept C)).mono ?_;rintro e w5 ⟨⟨O,rfl,r⟩,P⟩;have a1:O.size=16:=by have:=congrArg List.length r;rw[jc] at this;simpa using this
     have Q:=Kz r;clear r;go_wp2
     go_ret
     exact⟨mE (by rw[D.o];apply BF;rw[gG,Q.o];rfl),K_.trans C P⟩
    .have i:Hid (¬200<c.size):=h;clear h b;go_wp2
     go_ret
     exact⟨mE (zi p.o B.o (by have:=i.o;omega)).symm,A⟩
