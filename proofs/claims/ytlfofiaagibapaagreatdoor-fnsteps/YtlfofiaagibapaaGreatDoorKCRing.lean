import Derived.Test.YtlfofiaagibapaaGreatDoorKBEnd
set_option maxRecDepth 100000
set_option maxHeartbeats 25600000
namespace Go.Proofs.YtlfofiaagibapaaGreatDoor
open Go.RowKit Go.Proofs.Tryz
variable {mN:Nat}
theorem zS(w:NN)(cost:Int)(a:NM)(cap:Nat)(l:List Xq)(h:mN<=1000)(m:l.length<=21)(i:∀s∈l,s.TinyN mN)(j:kL w a l):Calls prog 67 #[.agg #[.a cost,.slice a l.length cap]] w λe w'=>∃b c,e=.returned (.agg #[.a cost,.slice b l.length c])/\dE w' (.slice b l.length c) l/\K_ w w':=by
 refine (CW w cost a cap l E5 h i j).mono ?_;rintro e w' ⟨v,p,rfl,d,f,k⟩;obtain⟨b,c,rfl⟩:=aF d;exact⟨b,c,rfl,(StW.gK d f.packed f.oJ).g,k⟩
structure Es (w wr w6:NN)(a0:NM)(n cap:Nat):Prop where
 kept:K_ w w6
 size:w.heap.size+3<=w6.heap.size
 arg:w6.cell? ⟨w.heap.size,0,none⟩=some (.slice a0 n cap)
 res:ay w6 (w.heap.size+1) 25 1
 out:ay w6 (w.heap.size+2) 25 1
 below:Below (w.heap.size+3) wr w6
variable {xs:List NP}{cap cv m n:Nat}{av:NM}{w w6 wr:NN}
theorem Es.of{W:NN}{c:NM}(f:K_ w wr)(h:w.heap.size+3<=wr.heap.size)(b:K_ wr W)(i:wr.cell? ⟨w.heap.size,0,none⟩=some (.slice c n cap))(j:ay wr (w.heap.size+1) 25 1)(k:ay wr (w.heap.size+2) 25 1)(d:W.ownsRow (w.heap.size+3) 33 3 (.slice av m cv) m xs)(e:W.grownBy w6 (Value.slice av m cv).ownBlock):Es w wr w6 c n cap:=by
 have q:=b.size;have a:Below (w.heap.size+3) wr w6:=(Below.mono b E5).trans (Below.grown (Below.refl _ _) e E5 λg l=>(d.lt g l).1);refine⟨aK (f.trans b) E5 d e,Mm h a.size,?_,j.block (a.block _ E5),k.block (a.block _ E5),a⟩;rw[Below.cell a (p:=⟨w.heap.size,0,none⟩) F8];exact i
variable {l:List Qz}{ca:Nat}{d:Qz}
theorem Eo{W w2:NN}{base:Nat}{a:NM}(c:K_ wr W)(e:K_ w2 W)(f:dF wr xs l)(h:dE w2 (.slice a d.steps.length ca) d.steps)(i:W.ownsRow base 33 3 (.slice av m cv) m xs)(j:W.grownBy w6 (Value.slice av m cv).ownBlock):dF w6 (xs++[.string d.name,.a d.cost,.slice a d.steps.length ca]) (l++[d]):=by
 have b:=aD.aI i j;exact (f.same ((aD.ax c).trans b) E8 E8 E8).snoc (h.same ((aD.ax e).trans b) E8 E8 E8)
theorem sJ(w:NN)(r:NM)(cap:Nat)(l:List Qz)(b:NL)(b6:mN<=1000)(hl:l.length<=1000)(hs:∀d∈l,d.TinyN mN)(hS:tZ w r l):Calls prog 66 #[.agg #[.slice r l.length cap],.string b] w λe w'=>∃a c xs base,e=.returned (.agg #[.slice a (l.filter (bY b.toList)).length c])/\w.heap.size<=base/\w'.ownsRow base 33 3 (.slice a (l.filter (bY b.toList)).length c) (l.filter (bY b.toList)).length xs/\dF w' xs (l.filter (bY b.toList))/\K_ w w':=by
 go_enter func66,ntmps66
 go_wp2
 have Y:K_ w (((w.alloc (.cells #[.slice r l.length cap] 25)).alloc (.cells #[M3] 25)).alloc (.cells #[M3] 25)):=((ah _ _).alloc _).alloc _;go_loopw [6] (λJ wr=>∃(k m:Nat)(f:NM)(h:Nat)(xs:List NP),k<=l.length/\J=.a k/\K_ w wr/\w.heap.size+3<=wr.heap.size/\wr.cell? ⟨w.heap.size,0,none⟩=some (.slice r l.length cap)/\ay wr (w.heap.size+1) 25 1/\ay wr (w.heap.size+2) 25 1/\
   wr.cell? ⟨w.heap.size+2,0,none⟩=some (.slice f m h)/\m= ((l.take k).filter (bY b.toList)).length/\wr.ownsRow (w.heap.size+3) 33 3 (.slice f m h) m xs/\dF wr xs ((l.take k).filter (bY b.toList))) λJ _=>l.length-(intOf J).toNat
 case atStart=>
  have E:=X_ ((w.alloc (.cells #[.slice r l.length cap] 25)).alloc (.cells #[M3] 25)) #[M3] 25;simp only[MZ] at E;refine⟨0,0,none,0,[],Ml _,rfl,Y,?_,?_,?_,?_,E 0 _ rfl,rfl,Nj _ _ _ _,dF.nil _⟩
  .simp only[MZ];omega
  .rw[K_.cell (w:=w.alloc (.cells #[.slice r l.length cap] 25)) ((ah _ _).alloc _) E9];exact X_ w _ _ 0 _ rfl
  .exact ay.kept (by have:=ay.made (w.alloc (.cells #[.slice r l.length cap] 25)) #[M3] 25;simpa using this) (ah _ _)
  .have:=ay.made ((w.alloc (.cells #[.slice r l.length cap] 25)).alloc (.cells #[M3] 25)) #[M3] 25;simpa using this
 case round=>
  clear Y;obtain⟨k,m,f,h,xs,hk,rfl,t,Z,F,a0,a1,L,M,a2,hP⟩:=hrel;have d5:w.heap.size<wr.heap.size:=E5;have⟨x,a3,G,H,I⟩:=jh a0 a1 a2 hP M;have d6:m<=l.length:=by rw[M];exact Mm (List.length_filter_le _ _) H6
  clear a0 a1 a2 hP M;by_cases N:k<l.length
  .obtain⟨B,i,O,P,b7,a4,a5,a6⟩:=hS k N;have y:=t.range a4 a5;have a7:=a6.kept t;subst b7;have d7:=Mk a4 t.size;have Q:=hs (l.getD k Qz.zero) (by simp[List.getD,N]);have R:=uC (bY b.toList) l k N;let⟨d,a8⟩:=aj (l.getD k Qz.zero);rw[<-a8] at y a7 Q R;have a9:=Kz R;have S:=y 0 _ rfl;have c1:=y 1 _ rfl;have c2:=y 2 _ rfl;rw[Ng] at S;clear a8;cases b0:(d.name.toList == b.toList)
   .have z:Hid (∀w',Below (w.heap.size+3) wr w'->w'.cell? ⟨w.heap.size+2,0,none⟩=some (.slice f m h)/\w'.cell? ⟨w.heap.size,0,none⟩=some (.slice (some ⟨B,i,none⟩) l.length cap)/\w'.cell? ⟨B,i+k*3,none⟩=some (.string d.name)/\w'.cell? ⟨B,i+k*3+1,none⟩=some (.a d.cost)/\w'.cell? ⟨B,i+k*3+2,none⟩=some (.slice O d.steps.length P)):=λw' A=>⟨(Below.cell A (p:=⟨w.heap.size+2,0,none⟩) E9).trans L,(Below.cell A (p:=⟨w.heap.size,0,none⟩) F8).trans F,(Below.cell A (p:=⟨B,i+k*3,none⟩) F8).trans S,(Below.cell A (p:=⟨B,i+k*3+1,none⟩) F8).trans c1,(Below.cell A (p:=⟨B,i+k*3+2,none⟩) F8).trans c2⟩
    have d8:w.heap.size+2<wr.heap.size:=E5;let⟨b8,b9,c0,c3,c4⟩:=info_parts Tryz.nE;go_wp2
    refine Qk.region F4 (λw'=>w'.cell? ⟨w.heap.size+2,0,none⟩=some (.slice f m h)/\w'.cell? ⟨w.heap.size,0,none⟩=some (.slice (some ⟨B,i,none⟩) l.length cap)/\w'.cell? ⟨B,i+k*3,none⟩=some (.string d.name)/\w'.cell? ⟨B,i+k*3+1,none⟩=some (.a d.cost)/\w'.cell? ⟨B,i+k*3+2,none⟩=some (.slice O d.steps.length P)) 19 ⟨L,F,S,c1,c2⟩ λj=>?_;refine ak 0 j ?_;refine ak 4 j ?_;refine ak 8 j ?_;refine ae 12 j ?_;refine ae 13 j ?_;refine aG 14 λK n=>?_;go_simp
    go_at_call 67
    refine (zS _ d.cost O P d.steps b6 Q.steps Q.each (a7.kept I6)).mono ?_;rintro e q ⟨C,D,rfl,b1,k2⟩;have T:K_ wr q:=K_.trans I6 k2;have b2:Below (w.heap.size+3) wr q:=Below.mono T E5;have d9:=T.size;have e0:w.heap.size+2<q.heap.size:=E5;have c5:=Kz b1;dsimp only;refine n.out _ _ (λ_=>z.o q b2) ?_;have j:=z.o q b2;try simp only[upP]
    refine ae 15 j ?_;refine ai 16 λK n=>?_;go_simp
    have v:K_ wr (q.alloc (.cells #[.string d.name,.a d.cost,.slice C d.steps.length D] 33)):=T.alloc _;refine af n (λ_=>z.o _ (Below.mono v E5)) ?_;refine ai 17 λK n=>?_;refine step_append_lies _ rfl (.tmp 24) (.tmp 39) 23 rfl (w.heap.size+3) 33 b8 _ 3 48 underlying23 b9 c0 c3 c4 rfl E8 (.slice f m h) m xs F9 (au G.o v) ⟨q.heap.size,0,none⟩ 1 1 [.string d.name,.a d.cost,.slice C d.steps.length D] F9 rfl (λc6 u hu=>by rw[Nf];exact X_ q #[.string d.name,.a d.cost,.slice C d.steps.length D] 33 c6 u (by simpa using hu)) (ny d C D) E5 F5 E5 F6 _ rfl ?_;intro g c7 w6 b3 U c8 e1;have b4:K_ q (q.alloc (.cells #[.string d.name,.a d.cost,.slice C d.steps.length D] 33)):=ah _ _;have V:=au G.o v;have W:=Kz (Es.of t Z v F x.o a3.o V U);have c9:=Kz (Eo v b4 H.o c5.o V U);have d0:=Kz b3;have b5:=W.o.below;have X:=W.o.out.row.at (i:=0) E5;have e2:=X.2;let⟨vo,e3⟩:=X.1;clear X v b4 V b3 U c8;refine af n (λ_=>z.o _ b5) ?_;have j:=z.o _ b5;refine ae 18 j ?_;refine ai 19 λK n=>?_;go_simp
    refine af n (λd1=>NB rfl d1) ?_;refine aC ?_;go_wp2
    go_roundw
    case rel=>
     have s:=W.o;have ef:(l.take (k+1)).filter (bY b.toList)= (l.take k).filter (bY b.toList)++[d]:=by rw[a9.o,Nz (by simp[bY,b0])]
     refine⟨k+1,m+1,_,c7,_,E5,F3,s.kept.setCell F8 _,by rw[size_setCell];exact s.size,?_,s.res.block (Below.heap_setCell _ _ _ _ E9),s.out.set _,aR s.out.row E5 _,by rw[ef,M_,<-I.o];rfl,bM d0.o E9 _,?_⟩
     .rw[MJ _ _ _ _ E9];exact s.arg
     .rw[ef];exact c9.o.same (s.out.same _) E8 E8 E8
    case measure=>simp[intOf];omega
   .go_wp2
    go_roundw
    case rel=>
     have e:(l.take (k+1)).filter (bY b.toList)= (l.take k).filter (bY b.toList):=by rw[a9.o,NA (by simp[bY,b0])];simp
     exact⟨k+1,m,f,h,xs,E5,F3,t,Z,F,x.o,a3.o,L,by rw[e];exact I.o,G.o,by rw[e];exact H.o⟩
    case measure=>simp[intOf];omega
  .have d2:k=l.length:=E5;subst d2;rw[MS] at H I;let⟨⟨_,x0⟩,g0⟩:=x.o.row.at (i:=0) E5;go_wp2
   have hR:=Mo wr (w.heap.size+1) 0 [.slice f m h] (x.o.row.there (o:=0) (m:=1) (Mj _));have E:=bM G.o (p:=⟨w.heap.size+1,0,none⟩) E9 (.slice f m h);have d3:=H.o.same (x.o.same (o:=0) (.slice f m h)) E8 E8 E8;have d4:=I.o;subst d4;exact Zx [.slice f _ h] _ results66 rfl hR underlying25 rfl Tryz.mD rfl ⟨f,h,xs,w.heap.size+3,rfl,E5,E,d3,t.setCell E9 _⟩
def lY(l:List Qz)(d:Qz)(w w':NN)(e:Ending):Prop:=∃a cap c r xs base,e=.returned (.tuple #[.agg #[.slice a r.length cap],.a c])/\Bt l d c r/\w.heap.size<=base/\w'.ownsRow base 33 3 (.slice a r.length cap) r.length xs/\dF w' xs r/\K_ w w'
variable {w':NN}
theorem lY.none{e:Ending}(c:Int)(a:e=.returned (.tuple #[.agg #[M3],.a c]))(h:Bt l d c [])(k:K_ w w'):lY l d w w' e:=⟨Option.none,0,c,[],[],_,a,h,Mj _,Nj _ _ _ _,dF.nil _,k⟩
theorem aD.tJ{t:TypeId}{b:Nat}(h:Xj b (b+1) w w')(d:ay w b t n):aD t w w':=by
 intro x i u j f a;rw[h.block x (aM a) ?_]
 .exact a
 .obtain⟨k,c,_⟩:=d;by_cases e:x=b
  .subst e;rw[a] at c;simp only[Na,Obj.cells.injEq] at c;exact NB c.2.1 f
  .omega
theorem Ed(f:f_ l)(k:Nat)(e:k<(l.filter (bY d.name.toList)).length):(k<p_ l d->Op.bytesLess ((l.filter (bY d.name.toList)).getD k Qz.zero).name.toList d.name.toList=true/\(lS l d).getD k Qz.zero= (l.filter (bY d.name.toList)).getD k Qz.zero)/\
  (p_ l d<=k->(Op.bytesLess ((l.filter (bY d.name.toList)).getD k Qz.zero).name.toList d.name.toList=false/\(((l.filter (bY d.name.toList)).getD k Qz.zero).name.toList == d.name.toList)=false)/\(lS l d).getD (k+1) Qz.zero= (l.filter (bY d.name.toList)).getD k Qz.zero):=by
 rw[nM _ f] at e⊢;unfold lS p_;rw[M_] at e;constructor
 .intro h;have a:(l.filter (jQ d.name.toList)++l.filter (kI d.name.toList)).getD k Qz.zero= (l.filter (jQ d.name.toList))[k]:=by simp[List.getD,Np h,h]
  rw[a];refine⟨?_,by simp[List.getD,Np h,h]⟩;have:=Mw h;exact (List.mem_filter.1 this).2
 .intro h;have b:k-(l.filter (jQ d.name.toList)).length<(l.filter (kI d.name.toList)).length:=E5;have a:(l.filter (jQ d.name.toList)++l.filter (kI d.name.toList)).getD k Qz.zero= (l.filter (kI d.name.toList))[k-(l.filter (jQ d.name.toList)).length]:=by simp[List.getD,Nq h,b]
  rw[a];have c:Op.bytesLess d.name.toList (l.filter (kI d.name.toList))[k-(l.filter (jQ d.name.toList)).length].name.toList=true:=(List.mem_filter.1 (Mw b)).2;refine⟨⟨xK c,?_⟩,?_⟩
  .rw[beq_eq_false_iff_ne];intro i;rw[i,dP] at c;cases c
  have j:k+1-(l.filter (jQ d.name.toList)).length= (k-(l.filter (jQ d.name.toList)).length)+1:=E5;simp[List.getD,Nq (show (l.filter (jQ d.name.toList)).length<=k+1 by omega),j,b]
def JY(l:List Qz)(d:Qz):List Qz:=l.filter (bY d.name.toList)
theorem dF.at{base:Nat}{h:NM}{q:Nat}(d:w.ownsRow base 33 3 (.slice h n q) n xs)(i:dF w xs l){k:Nat}(r:k<l.length):∃g f fr a c,h=some ⟨g,0,none⟩/\w.heap[g]? =some (Obj.cells f 33 fr)/\w.cell? ⟨g,k*3,none⟩=some (.string (l.getD k Qz.zero).name)/\w.cell? ⟨g,k*3+1,none⟩=some (.a (l.getD k Qz.zero).cost)/\
   w.cell? ⟨g,k*3+2,none⟩=some (.slice a (l.getD k Qz.zero).steps.length c)/\dE w (.slice a (l.getD k Qz.zero).steps.length c) (l.getD k Qz.zero).steps:=by
 have v:n=l.length:=by have x:=d.1;have y:=i.1;omega
 rcases d.2 with⟨_,z⟩|⟨g,A,f,e,B,s,C,_,_,_⟩
 .omega
 .simp only[Nb] at e;obtain⟨rfl,_,rfl⟩:=e;let⟨D,e,m⟩:=i.2 k r;obtain⟨a,c,rfl⟩:=m.slice;have b:∀j u,((xs.drop (k*3)).take 3)[j]? =some u->j<3->M4 w g (k*3+j) u:=λj u p t=>by
   rw[List.getElem?_take,Nz t,List.getElem?_drop] at p;have:=d.cells (g:=g) rfl _ _ p;rw[Nf,MR] at this;exact this
  rw[e] at b;exact⟨g,f,_,a,c,rfl,s,b 0 _ rfl E8,b 1 _ rfl E8,b 2 _ rfl E8,m⟩
structure iW (wc wr:NN)(outb:Nat)(T:List Qz)(m:Nat)(av:NM)(cv:Nat)(xs:List NP):Prop where
 kb:Xj outb (outb+1) wc wr
 row:ay wr outb 25 1
 cell:wr.cell? ⟨outb,0,none⟩=some (.slice av m cv)
 own:wr.ownsRow wc.heap.size 33 3 (.slice av m cv) m xs
 pack:dF wc xs (T.take m)
variable {T:List Qz}{outb:Nat}{wc:NN}
theorem iW.grown{W:NN}(h:iW wc wr outb T m av cv xs)(a:K_ wr W)(c:W.grownBy w6 (Value.slice av m cv).ownBlock):Below wc.heap.size wr w6:=have e:=h.kb.size;have f:=a.size
 (Below.mono a E5).trans (Below.grown (Below.refl _ _) c E5 λg d=>((au h.own a).lt g d).1)
theorem iW.next{W:NN}{a:Nat}{b:NM}{x:Qz}{c:NM}{d:Nat}(h:iW wc wr outb T m av cv xs)(e:outb<wc.heap.size)(j:K_ wr W)(k:W.grownBy w6 (Value.slice av m cv).ownBlock)(l:w6.ownsRow wc.heap.size 33 3 (.slice b (m+1) a) (m+1) (xs++[.string x.name,.a x.cost,.slice c x.steps.length d]))(n:m<T.length)(p:T.getD m Qz.zero=x)(q:dE wc (.slice c x.steps.length d) x.steps):iW wc (w6.setCell ⟨outb,0,none⟩ (.slice b (m+1) a)) outb T (m+1) b a (xs++[.string x.name,.a x.cost,.slice c x.steps.length d]):=by
 have f:=h.grown j k;have i:=h.row.block (f.block outb e);refine⟨(h.kb.below f).setCell (Mj _) (MO _) _,i.set _,aR i.row E5 _,bM l e _,?_⟩;rw[Fz n,p];exact h.pack.snoc q
theorem iW.drewN(h:iW wc wr outb T m av cv xs)(n:Nat):iW wc (wr.drewN n) outb T m av cv xs:=⟨⟨h.kb.os,h.kb.tape,h.kb.output,h.kb.size,h.kb.block⟩,h.row,h.cell,h.own,h.pack⟩
theorem iW.fin{b:NN}{a:Nat}(h:iW wc b outb T n av cv xs)(j:ay wc outb 25 1)(c:ay wc a 25 1)(x:a≠outb)(K:K_ w wc)(k:w.heap.size<=a)(h2:w.heap.size<=outb)(q:T.length=n)(e:T=lS l d)(c1:bE l 0)(r:jo d.name)(c3:gQ ⟨d.cost,d.steps⟩)(s:n<=60):(b.setCell ⟨a,0,none⟩ (.slice av n cv)).rangeAt a 0 [.slice av n cv]/\lY l d w (b.setCell ⟨a,0,none⟩ (.slice av n cv)) (.returned (.tuple #[.agg #[.slice av n cv],.a 0])):=by
 have f:ay b a 25 1:=c.block (h.kb.block a c.lt E5);have t:=bM h.own (p:=⟨a,0,none⟩) c.lt (.slice av n cv);have i:=h.pack;rw[MU E5] at i;have v:=(i.same (aD.tJ h.kb j) E8 E8 E8).same (f.same (o:=0) (.slice av n cv)) E8 E8 E8;refine⟨Mo b a 0 [.slice av n cv] (f.row.there (o:=0) (m:=1) (Mj _)),?_⟩;subst q;exact⟨av,cv,0,T,xs,wc.heap.size,rfl,.inr (.inr (.inr ⟨c1,r,c3,e ▸ s,rfl,e⟩)),K.size,t,v,(h.kb.kept K h2).setCell k _⟩
structure LH (W6 Wl:NN)(d:Qz)(oneb:Nat)(a2:NM)(ca2:Nat):Prop where
 kept:K_ W6 Wl
 ge:W6.heap.size<=oneb
 lt:oneb<Wl.heap.size
 name:Wl.cell? ⟨oneb,0,none⟩=some (.string d.name)
 cost:Wl.cell? ⟨oneb,1,none⟩=some (.a d.cost)
 steps:Wl.cell? ⟨oneb,2,none⟩=some (.slice a2 d.steps.length ca2)
 one:dE Wl (.slice a2 d.steps.length ca2) d.steps
def Md(W6:NN)(d:Qz)(s8:NP)(Wl:NN):Prop:=∃oneb a2 ca2,s8=.c oneb/\LH W6 Wl d oneb a2 ca2
theorem Jb(w:NN)(a0:NM)(cap:Nat)(l:List Qz)(d:Qz)(aA:NM)(ca:Nat)(d2:mN<=1000)(hl:l.length<=1000)(hs:∀d∈l,d.TinyN mN)(e8:d.TinyN mN)(hS:tZ w a0 l)(hN:bQ w a0 l)(hA:kL w aA d.steps)(j0:Steps w aA d.steps):Calls prog 16 #[.agg #[.slice a0 l.length cap],.agg #[.string d.name,.a d.cost,.slice aA d.steps.length ca]] w λe w'=>lY l d w w' e:=by
 have j1:l.length<=maxLen:=F5;have hf:∀e9∈l,e9.Fits:=λe9 j2=>(hs e9 j2).fits d2
 have f0:=e8.fits d2;go_enter func16,ntmps16
 go_wp2_with fail
 refine (g_ _ a0 cap l j1 hf (hN.kept G9)).mono ?_;rintro e w1 ⟨⟨c,rfl,hc⟩,k1⟩;have K1:K_ w w1:=K_.trans G9 k1;have z1:=k1.size;simp only[MZ] at z1;have q0:=Ak (w:=w) (K_.trans ((ah _ _).alloc _) k1);have nn:=FW (w:=w.alloc (.cells #[.slice a0 l.length cap] 25)) (K_.trans (ah _ _) k1);simp only[MZ] at nn;obtain⟨n0,n1,n2⟩:=nn;have f1:ay w1 (w.heap.size+2) 25 1:=ay.kept (by have:=ay.made ((w.alloc (.cells #[.slice a0 l.length cap] 25)).alloc (.cells #[.string d.name,.a d.cost,.slice aA d.steps.length ca] 33)) #[M3] 25;simpa using this) k1;obtain⟨⟨_,x0⟩,j3⟩:=f1.row.at (i:=0) E5;have⟨d3,HC⟩:=aH f1 hc;clear f1 hc k1;by_cases f2:c=0
 .subst f2;have j4:w.heap.size<w1.heap.size:=E5;have f3:w.heap.size+1<w1.heap.size:=E5;have l6:w.heap.size+2<w1.heap.size:=E5;go_wp2_with fail
  refine (nN _ d.name f0.name).mono ?_;rintro e w2 ⟨a9,rfl⟩;rcases a9.cases with⟨rfl,c0⟩|⟨rfl,c1⟩
  .have HY:=Kz c0;clear c0 a9;go_wp2_with fail
   refine (fM _ d.cost aA ca d.steps f0.steps f0.each (j0.kept K1)).mono ?_;rintro e w3 ⟨a9,k3⟩;have q3:=(k3.cell (o:=0) j4).trans q0;have p0:=(k3.cell (o:=0) f3).trans n0;have p1:=(k3.cell (o:=1) f3).trans n1;have p2:=(k3.cell (o:=2) f3).trans n2;have d4:=Kz (d3.o.kept k3);have K3:=K1.trans k3;have z3:=k3.size;obtain⟨⟨_,y0⟩,j5⟩:=d4.o.row.at (i:=0) E5;clear q0 n0 n1 n2 x0 j3 d3 K1 k3;rcases a9.cases with⟨rfl,c0⟩|⟨rfl,c1⟩
   .have HM:=Kz c0;clear c0 a9;have j6:w.heap.size<w3.heap.size:=E5;have f4:w.heap.size+1<w3.heap.size:=E5;have l7:w.heap.size+2<w3.heap.size:=E5;have d5:=Kz (yg HC.o);go_wp2_with fail
    refine (sJ _ a0 cap l d.name d2 hl hs (hS.kept K3)).mono ?_;rintro e a ⟨b0,C,l8,l9,rfl,m0,f5,f6,k4⟩;obtain⟨old,d6⟩:=aj (JY l d);rw[show l.filter (bY d.name.toList)=old from d6.symm] at f5 f6⊢;have m1:old.length<=l.length:=by rw[d6];exact List.length_filter_le _ _
    have⟨h0,h1,h3⟩:=di d6 f5 f6;have K4:=K3.trans k4;have q4:=(k4.cell (o:=0) j6).trans q3;have r0:=(k4.cell (o:=0) f4).trans p0;have r1:=(k4.cell (o:=1) f4).trans p1;have r2:=(k4.cell (o:=2) f4).trans p2;have d7:=Kz (d4.o.kept k4);have z4:=k4.size;obtain⟨⟨_,v0⟩,u0⟩:=d7.o.row.at (i:=0) E5;clear d6 f5 f6 q3 p0 p1 p2 y0 j5 d4 K3 k4;have m2:w.heap.size<a.heap.size:=E5;have d8:w.heap.size+1<a.heap.size:=E5;have m3:w.heap.size+2<a.heap.size:=E5;by_cases m4:60<=old.length
    .have j7:(60:Int)<=(old.length:Int):=E5;go_wp2
     have j8:=Mo a (w.heap.size+2) 0 [M3] (d7.o.row.there (o:=0) (m:=1) (Mj _));have j9:((a.setCell ⟨w.heap.size+2,0,none⟩ M3).alloc (.cells #[.slice b0 old.length C] 25)).rangeAt (w.heap.size+2) 0 [M3]:=K_.range (ah _ _) (by rw[size_setCell];omega) j8;refine bZ [M3] _ (.a 3) results16 rfl j9 underlying25 rfl Tryz.mD rfl rfl (lY.none 3 rfl (.inr (.inr (.inl ⟨HC.o,HY.o,HM.o,?_,rfl,rfl⟩))) ?_)
     .rw[rZ d5.out,show l.filter (bY d.name.toList)=old from h0.o.symm];omega
     .exact (K4.setCell F8 _).alloc _
    .have j7:¬(60:Int)<=(old.length:Int):=E5;have r:Hid (∀w',K_ ((a.alloc (.cells #[.slice b0 old.length C] 25)).alloc (.cells #[M3] 25)) w'->(λw'=>M4 w' (w.heap.size+1) 0 (.string d.name)/\M4 w' (w.heap.size+1) 1 (.a d.cost)/\M4 w' (w.heap.size+1) 2 (.slice aA d.steps.length ca)) w'):=λw' kk=>by
      have k5:K_ a w':=K_.trans ((ah _ _).alloc _) kk;exact⟨(k5.cell d8).trans r0,(k5.cell d8).trans r1,(k5.cell d8).trans r2⟩
     have KA:K_ w ((a.alloc (.cells #[.slice b0 old.length C] 25)).alloc (.cells #[M3] 25)):=(K4.alloc _).alloc _;go_upto_region 9 with fail
     go_cut [8] from 36 to 41 (λs8 wx=>Md ((a.alloc (.cells #[.slice b0 old.length C] 25)).alloc (.cells #[M3] 25)) d s8 wx)
     case first=>
      go_region_held (λw'=>M4 w' (w.heap.size+1) 0 (.string d.name)/\M4 w' (w.heap.size+1) 1 (.a d.cost)/\M4 w' (w.heap.size+1) 2 (.slice aA d.steps.length ca)) (exact bg r _ (by repeat (first|(refine K_.setCell ?_ F8 _)|(with_reducible exact K_.refl _)|(with_reducible assumption)|apply K_.drew|apply K_.alloc))) ((go_at_call 67;refine (zS _ d.cost aA ca d.steps d2 e8.steps e8.each (hA.kept (KA.trans H7))).mono ?_;rintro e w7 ⟨s,v,rfl,h4,h5⟩;have k7:K_ ((a.alloc (.cells #[.slice b0 old.length C] 25)).alloc (.cells #[M3] 25)) w7:=K_.trans H7 h5;have h6:=Kz h4;clear h4;(first|(have b8:=Bw (t:=33) (c:= #[.string ⟨#[]⟩,.a 0,M3]) h5;simp only[MZ] at b8;have c2:=Kz b8;obtain⟨⟨_,t0⟩,U⟩:=b8.row.at (i:=0) E8;obtain⟨⟨_,t1⟩,V⟩:=b8.row.at (i:=1) E8;obtain⟨⟨_,t2⟩,m5⟩:=b8.row.at (i:=2) E8;clear b8)|skip)))
      .go_wp2
       go_meet
       refine⟨w7.heap.size,s,v,rfl,k7.alloc _,k7.size,E9,E9,E9,E9,?_⟩;exact h6.o.same (u:=33) (.ax (ah _ _)) E8 E8 E8
      .go_wp2
       go_meet
       have y:=Mo w7 (a.heap.size+1+1) 0 [.string d.name,.a d.cost,.slice s d.steps.length v] (c2.o.row.there (o:=0) (m:=3) (Mj _));refine⟨a.heap.size+1+1,s,v,rfl,((k7.setCell E9 _).setCell E9 _).setCell E9 _,E9,by simp only[size_setCell];exact c2.o.lt,y 0 _ rfl,y 1 _ rfl,y 2 _ rfl,?_⟩;exact h6.o.same (((c2.o.same _).trans ((c2.o.set _).same _)).trans (((c2.o.set _).set _).same _)) E8 E8 E8
     case rest=>
      obtain⟨k0,s,v,rfl,a2⟩:=hcut;have c3:K_ a wc:=K_.trans ((ah _ _).alloc _) a2.kept;have zc:=a2.kept.size;have zo:=a2.ge;simp only[MZ] at zc zo;have co:=Ak (w:=a) (K_.trans (ah _ _) a2.kept);have cu:=Ak (w:=a.alloc (.cells #[.slice b0 old.length C] 25)) a2.kept;simp only[MZ] at cu;have cn:=(c3.cell (o:=0) d8).trans r0;have f7:=Br (X:=a.alloc (.cells #[.slice b0 old.length C] 25)) a2.kept;simp only[MZ] at f7;have b1:Hid (ay wc (a.heap.size+1) 25 1):=f7;have d9:=Kz (d7.o.kept c3);have k2:=Kz (au h1.o c3);have k6:=Kz (h3.o.same (aD.ax (t:=33) c3) E8 E8 E8);have F:=Kz a2;obtain⟨a3,hT⟩:=aj (lS l d);obtain⟨W,e0⟩:=aj (p_ l d);have e2:=h0.o.symm;have b2:Hid (a3.length=old.length+1):=by rw[hT,<-e2];exact rZ d5.out
      have m6:W<=old.length:=by rw[e0,<-e2];exact FU d5.out
      have h7:Hid (a3.getD W Qz.zero=d):=by rw[hT,e0];exact Ie l d
      have k8:Hid (∀k,k<old.length->(k<W->Op.bytesLess (old.getD k Qz.zero).name.toList d.name.toList=true/\a3.getD k Qz.zero=old.getD k Qz.zero)/\(W<=k->(Op.bytesLess (old.getD k Qz.zero).name.toList d.name.toList=false/\((old.getD k Qz.zero).name.toList == d.name.toList)=false)/\a3.getD (k+1) Qz.zero=old.getD k Qz.zero)):=by
       rw[hT,e0,<-e2];exact λk hk=>Ed d5.out k hk
      have HT:=Kz hT;clear hT e0 e2 a2 f7 h1 h3 d7 v0 u0 q4 r KA;have K5:=K4.trans c3;go_wp2
      go_loopw [9,10] (λdn f8 wr=>∃(k e3:Nat)(I:NM)(J:Nat)(O:List NP),k<=old.length/\f8=.a k/\((dn=.bool true/\W<k/\e3=k+1)\/(dn=.bool false/\k<=W/\e3=k))/\iW wc wr (a.heap.size+1) a3 e3 I J O) (λ_ f8 _=>old.length-(intOf f8).toNat)
      case atStart=>exact⟨0,0,none,0,[],Ml _,rfl,.inr ⟨rfl,Ml _,rfl⟩,Xj.refl _ _ _,b1.o,cu,Nj _ _ _ _,dF.nil _⟩
      case round=>
       obtain⟨k,e3,I,J,O,hk,rfl,h8,a4⟩:=hrel;have k9:=Kz (aD.tJ a4.kb b1.o);have zr:=a4.kb.size;have f9:=a4.kb.same (l2:=0) (h2:=a.heap.size+1) E5;have e4:=a4.kb.same (l2:=a.heap.size+1+1) (h2:=wc.heap.size) E5;have eo:=(f9.cell (o:=0) (Ml _) (E5:a.heap.size<a.heap.size+1) E5).trans co;have en:=(f9.cell (o:=0) (Ml _) (E5:w.heap.size+1<a.heap.size+1) E5).trans cn;have e1:=(e4.cell (o:=0) zo F.o.lt F.o.lt).trans F.o.name;have g0:=(e4.cell (o:=1) zo F.o.lt F.o.lt).trans F.o.cost;have g1:=(e4.cell (o:=2) zo F.o.lt F.o.lt).trans F.o.steps;have ol:=F.o.lt;have eu:=a4.cell;obtain⟨⟨_,l0⟩,g2⟩:=a4.row.row.at (i:=0) E5;have D:=Kz a4;clear a4 f9 e4 l0;have g3:a.heap.size+1<wr.heap.size:=E5;have g4:a.heap.size<wr.heap.size:=E5;have m7:k0<wr.heap.size:=E5;have m8:w.heap.size+1<wr.heap.size:=E5;by_cases h9:k<old.length
       .obtain⟨g,e5,fr,i,j,rfl,n,E,G,H,g5⟩:=dF.at k2.o k6.o h9;have g6:=k9.out g e5 _ fr E8 n;have m9:=aM g6;have HG:=Kz (k8.o k h9);obtain⟨x,hx⟩:=aj (old.getD k Qz.zero);rw[<-hx] at E G H g5 HG;have Y:=Kz (And.intro E (And.intro G H));have D0:Hid (M4 wr g (k*3) (.string x.name)):=by show _=_;rw[MC (g6.trans n.symm)];exact E
        have d0:=D0.out;have n3:(k:Int)<(old.length:Int):=E5;have g7:=Kz g5;clear hx g5 E G H g6;rcases h8 with⟨rfl,g8,hm⟩|⟨rfl,g8,g9⟩
        .subst hm;have c4:=Kz (HG.o.2 E5).2;go_wp2
         go_quiet (fail)
         obtain⟨b,L⟩:=aj (wr.drewN nq);rw[<-L];have m:iW wc b (a.heap.size+1) a3 (k+1) I J O:=by rw[L];exact D.o.drewN nq
         clear L eo en e1 g0 g1 eu g2 d0;have a5:=aD.tJ m.kb b1.o;have z:=a5 g e5 _ fr E8 n;have a6:=m.kb.same (l2:=0) (h2:=a.heap.size+1) E5;have U:=(a6.cell (o:=0) (Ml _) (E5:a.heap.size<a.heap.size+1) E5).trans co;have E:b.cell? ⟨g,k*3,none⟩=some (.string x.name):=by rw[MC (z.trans n.symm)];exact Y.out.1
         have G:b.cell? ⟨g,k*3+1,none⟩=some (.a x.cost):=by rw[MC (z.trans n.symm)];exact Y.out.2.1
         have H:b.cell? ⟨g,k*3+2,none⟩=some (.slice i x.steps.length j):=by rw[MC (z.trans n.symm)];exact Y.out.2.2
         have V:=m.cell;have zq:=m.kb.size;have A:=Kz m;have gl:=aM n;have g3:a.heap.size+1<b.heap.size:=E5;have g4:a.heap.size<b.heap.size:=E5;have i0:g<b.heap.size:=E5;have r:Hid (∀w',Below wc.heap.size b w'->(λw'=>M4 w' (a.heap.size+1) 0 (.slice I (k+1) J)/\M4 w' a.heap.size 0 (.b g old.length C)/\M4 w' g (k*3) (.string x.name)/\M4 w' g (k*3+1) (.a x.cost)/\M4 w' g (k*3+2) (.slice i x.steps.length j)) w'):=λw' q=>⟨(Below.cell q (p:=⟨a.heap.size+1,0,none⟩) F8).trans V,(Below.cell q (p:=⟨a.heap.size,0,none⟩) F8).trans U,(Below.cell q (p:=⟨g,k*3,none⟩) F8).trans E,(Below.cell q (p:=⟨g,k*3+1,none⟩) F8).trans G,(Below.cell q (p:=⟨g,k*3+2,none⟩) F8).trans H⟩
         clear m a5 z a6;obtain⟨P,Q,R,S,T⟩:=info_parts Tryz.nE;go_wp2
         refine Qk.region F4 (λw'=>M4 w' (a.heap.size+1) 0 (.slice I (k+1) J)/\M4 w' a.heap.size 0 (.b g old.length C)/\M4 w' g (k*3) (.string x.name)/\M4 w' g (k*3+1) (.a x.cost)/\M4 w' g (k*3+2) (.slice i x.steps.length j)) 10 ⟨V,U,E,G,H⟩ λh=>?_;refine ak 0 h ?_;refine ae 4 h ?_;refine ae 5 h ?_;refine ae 6 h ?_;refine ai 7 λK f=>?_;go_simp
         have B:K_ b (b.alloc (.cells #[.string x.name,.a x.cost,.slice i x.steps.length j] 33)).drew:=(ah _ _).drew;refine af f (λ_=>r.o _ (Below.mono B E5)) ?_;clear f K h;refine ai 8 λK f=>?_;refine step_append_lies _ rfl (.tmp 69) (.tmp 75) 23 rfl wc.heap.size 33 P _ 3 48 underlying23 Q R S T rfl E8 (.slice I (k+1) J) (k+1) O F9 (au A.o.own B) ⟨b.heap.size,0,none⟩ 1 1 [.string x.name,.a x.cost,.slice i x.steps.length j] F9 rfl (λZ u a1=>by rw[Nf];exact X_ b #[.string x.name,.a x.cost,.slice i x.steps.length j] 33 Z u (by simpa using a1)) (ny x i j) E5 F5 E5 F6 _ rfl ?_;intro i1 c5 w8 a7 M c6 i2;have N:=A.o.grown B M;have a8:ay w8 (a.heap.size+1) 25 1:=A.o.row.block (N.block _ E5);obtain⟨⟨_,i3⟩,i4⟩:=a8.row.at (i:=0) E5;have⟨c7,c8⟩:=aH a7 M;clear a7 M c6 a8;refine af f (λ_=>r.o _ N) ?_;clear f K;have h:=r.o _ N;refine ae 9 h ?_;refine ai 10 λK f=>?_;go_simp
         refine af f (λb3=>NB rfl b3) ?_;clear f K;refine aC ?_;go_wp2
         go_roundw
         case rel=>exact⟨k+1,k+1+1,_,c5,_,E5,F3,.inl ⟨rfl,E5,E5⟩,iW.next A.o E5 B c8.o c7.o (by have:=b2.o;omega) c4.o g7.o⟩
         case measure=>simp[intOf];omega
        .have hm:=g9.symm;subst hm;by_cases i5:k<W
         .have l1:=(HG.o.1 i5).1;have c4:=Kz (HG.o.1 i5).2;go_wp2
          go_quiet (fail)
          obtain⟨b,L⟩:=aj (wr.drewN nq);rw[<-L];have m:iW wc b (a.heap.size+1) a3 (k) I J O:=by rw[L];exact D.o.drewN nq
          clear L eo en e1 g0 g1 eu g2 d0;have a5:=aD.tJ m.kb b1.o;have z:=a5 g e5 _ fr E8 n;have a6:=m.kb.same (l2:=0) (h2:=a.heap.size+1) E5;have U:=(a6.cell (o:=0) (Ml _) (E5:a.heap.size<a.heap.size+1) E5).trans co;have E:b.cell? ⟨g,k*3,none⟩=some (.string x.name):=by rw[MC (z.trans n.symm)];exact Y.out.1
          have G:b.cell? ⟨g,k*3+1,none⟩=some (.a x.cost):=by rw[MC (z.trans n.symm)];exact Y.out.2.1
          have H:b.cell? ⟨g,k*3+2,none⟩=some (.slice i x.steps.length j):=by rw[MC (z.trans n.symm)];exact Y.out.2.2
          have V:=m.cell;have zq:=m.kb.size;have A:=Kz m;have gl:=aM n;have g3:a.heap.size+1<b.heap.size:=E5;have g4:a.heap.size<b.heap.size:=E5;have i0:g<b.heap.size:=E5;have r:Hid (∀w',Below wc.heap.size b w'->(λw'=>M4 w' (a.heap.size+1) 0 (.slice I (k) J)/\M4 w' a.heap.size 0 (.b g old.length C)/\M4 w' g (k*3) (.string x.name)/\M4 w' g (k*3+1) (.a x.cost)/\M4 w' g (k*3+2) (.slice i x.steps.length j)) w'):=λw' q=>⟨(Below.cell q (p:=⟨a.heap.size+1,0,none⟩) F8).trans V,(Below.cell q (p:=⟨a.heap.size,0,none⟩) F8).trans U,(Below.cell q (p:=⟨g,k*3,none⟩) F8).trans E,(Below.cell q (p:=⟨g,k*3+1,none⟩) F8).trans G,(Below.cell q (p:=⟨g,k*3+2,none⟩) F8).trans H⟩
          clear m a5 z a6;obtain⟨P,Q,R,S,T⟩:=info_parts Tryz.nE;go_wp2
          refine Qk.region F4 (λw'=>M4 w' (a.heap.size+1) 0 (.slice I (k) J)/\M4 w' a.heap.size 0 (.b g old.length C)/\M4 w' g (k*3) (.string x.name)/\M4 w' g (k*3+1) (.a x.cost)/\M4 w' g (k*3+2) (.slice i x.steps.length j)) 10 ⟨V,U,E,G,H⟩ λh=>?_;refine ak 0 h ?_;refine ae 4 h ?_;refine ae 5 h ?_;refine ae 6 h ?_;refine ai 7 λK f=>?_;go_simp
          have B:K_ b (b.alloc (.cells #[.string x.name,.a x.cost,.slice i x.steps.length j] 33)).drew:=(ah _ _).drew;refine af f (λ_=>r.o _ (Below.mono B E5)) ?_;clear f K h;refine ai 8 λK f=>?_;refine step_append_lies _ rfl (.tmp 69) (.tmp 75) 23 rfl wc.heap.size 33 P _ 3 48 underlying23 Q R S T rfl E8 (.slice I (k) J) (k) O F9 (au A.o.own B) ⟨b.heap.size,0,none⟩ 1 1 [.string x.name,.a x.cost,.slice i x.steps.length j] F9 rfl (λZ u a1=>by rw[Nf];exact X_ b #[.string x.name,.a x.cost,.slice i x.steps.length j] 33 Z u (by simpa using a1)) (ny x i j) E5 F5 E5 F6 _ rfl ?_;intro i1 c5 w8 a7 M c6 i2;have N:=A.o.grown B M;have a8:ay w8 (a.heap.size+1) 25 1:=A.o.row.block (N.block _ E5);obtain⟨⟨_,i3⟩,i4⟩:=a8.row.at (i:=0) E5;have⟨c7,c8⟩:=aH a7 M;clear a7 M c6 a8;refine af f (λ_=>r.o _ N) ?_;clear f K;have h:=r.o _ N;refine ae 9 h ?_;refine ai 10 λK f=>?_;go_simp
          refine af f (λb3=>NB rfl b3) ?_;clear f K;refine aC ?_;go_wp2
          go_roundw
          case rel=>exact⟨k+1,k+1,_,c5,_,E5,F3,.inr ⟨rfl,E5,E5⟩,iW.next A.o E5 B c8.o c7.o (by have:=b2.o;omega) c4.o g7.o⟩
          case measure=>simp[intOf];omega
         .obtain⟨l1,n4⟩:=(HG.o.2 E5).1;have c4:=Kz (HG.o.2 E5).2;go_wp2
          go_quiet (fail)
          obtain⟨P,Q,R,S,T⟩:=info_parts Tryz.nE;go_wp2_with (at_builtin;refine wpList_append_own _ rfl (.tmp 63) (.tmp 65) 23 rfl wc.heap.size 33 P _ 3 48 underlying23 Q R S T rfl E8 _ k O rfl (au D.o.own G8) ⟨wr.heap.size,0,none⟩ 1 1 [.string d.name,.a d.cost,.slice s d.steps.length v] rfl rfl (λZ u a1=>(by rw[Nf];exact X_ wr #[.string d.name,.a d.cost,.slice s d.steps.length v] 33 Z u (by simpa using a1))) (ny d s v) F5 E5 F6 ?_;intro v6 w6 b4 b5 _;obtain⟨b6,b7,rfl⟩:=aF b4;have b9:K_ wr ((wr.drewN nq).alloc (.cells #[.string d.name,.a d.cost,.slice s d.steps.length v] 33)):=((K_.refl _).drewN nq).alloc _;have c9:=D.o.grown b9 b5;have d1:ay w6 (a.heap.size+1) 25 1:=D.o.row.block (c9.block _ E5);obtain⟨⟨_,i6⟩,i7⟩:=d1.row.at (i:=0) E5;have e6:=Kz (iW.next D.o E5 b9 b5 b4 (by have:=b2.o;omega) (by have:=h7.o;rw[show k=W by omega];exact this) F.o.one);clear b4 b5 d1)
          obtain⟨b,L⟩:=aj (w6.setCell ⟨a.heap.size+1,0,none⟩ (.slice b6 (k+1) b7));rw[<-L];have m:iW wc b (a.heap.size+1) a3 (k+1) b6 b7 (O++[.string d.name,.a d.cost,.slice s d.steps.length v]):=by rw[L];exact e6.o
          clear L eo en e1 g0 g1 eu g2 d0 i7 i6 c9 b9 e6;clear P Q R S T;have a5:=aD.tJ m.kb b1.o;have z:=a5 g e5 _ fr E8 n;have a6:=m.kb.same (l2:=0) (h2:=a.heap.size+1) E5;have U:=(a6.cell (o:=0) (Ml _) (E5:a.heap.size<a.heap.size+1) E5).trans co;have E:b.cell? ⟨g,k*3,none⟩=some (.string x.name):=by rw[MC (z.trans n.symm)];exact Y.out.1
          have G:b.cell? ⟨g,k*3+1,none⟩=some (.a x.cost):=by rw[MC (z.trans n.symm)];exact Y.out.2.1
          have H:b.cell? ⟨g,k*3+2,none⟩=some (.slice i x.steps.length j):=by rw[MC (z.trans n.symm)];exact Y.out.2.2
          have V:=m.cell;have zq:=m.kb.size;have A:=Kz m;have gl:=aM n;have g3:a.heap.size+1<b.heap.size:=E5;have g4:a.heap.size<b.heap.size:=E5;have i0:g<b.heap.size:=E5;have r:Hid (∀w',Below wc.heap.size b w'->(λw'=>M4 w' (a.heap.size+1) 0 (.slice b6 (k+1) b7)/\M4 w' a.heap.size 0 (.b g old.length C)/\M4 w' g (k*3) (.string x.name)/\M4 w' g (k*3+1) (.a x.cost)/\M4 w' g (k*3+2) (.slice i x.steps.length j)) w'):=λw' q=>⟨(Below.cell q (p:=⟨a.heap.size+1,0,none⟩) F8).trans V,(Below.cell q (p:=⟨a.heap.size,0,none⟩) F8).trans U,(Below.cell q (p:=⟨g,k*3,none⟩) F8).trans E,(Below.cell q (p:=⟨g,k*3+1,none⟩) F8).trans G,(Below.cell q (p:=⟨g,k*3+2,none⟩) F8).trans H⟩
          clear m a5 z a6;obtain⟨P,Q,R,S,T⟩:=info_parts Tryz.nE;go_wp2
          refine Qk.region F4 (λw'=>M4 w' (a.heap.size+1) 0 (.slice b6 (k+1) b7)/\M4 w' a.heap.size 0 (.b g old.length C)/\M4 w' g (k*3) (.string x.name)/\M4 w' g (k*3+1) (.a x.cost)/\M4 w' g (k*3+2) (.slice i x.steps.length j)) 10 ⟨V,U,E,G,H⟩ λh=>?_;refine ak 0 h ?_;refine ae 4 h ?_;refine ae 5 h ?_;refine ae 6 h ?_;refine ai 7 λK f=>?_;go_simp
          have B:K_ b (b.alloc (.cells #[.string x.name,.a x.cost,.slice i x.steps.length j] 33)).drew:=(ah _ _).drew;refine af f (λ_=>r.o _ (Below.mono B E5)) ?_;clear f K h;refine ai 8 λK f=>?_;refine step_append_lies _ rfl (.tmp 69) (.tmp 75) 23 rfl wc.heap.size 33 P _ 3 48 underlying23 Q R S T rfl E8 (.slice b6 (k+1) b7) (k+1) (O++[.string d.name,.a d.cost,.slice s d.steps.length v]) F9 (au A.o.own B) ⟨b.heap.size,0,none⟩ 1 1 [.string x.name,.a x.cost,.slice i x.steps.length j] F9 rfl (λZ u a1=>by rw[Nf];exact X_ b #[.string x.name,.a x.cost,.slice i x.steps.length j] 33 Z u (by simpa using a1)) (ny x i j) E5 F5 E5 F6 _ rfl ?_;intro i1 c5 w8 a7 M c6 i2;have N:=A.o.grown B M;have a8:ay w8 (a.heap.size+1) 25 1:=A.o.row.block (N.block _ E5);obtain⟨⟨_,i3⟩,i4⟩:=a8.row.at (i:=0) E5;have⟨c7,c8⟩:=aH a7 M;clear a7 M c6 a8;refine af f (λ_=>r.o _ N) ?_;clear f K;have h:=r.o _ N;refine ae 9 h ?_;refine ai 10 λK f=>?_;go_simp
          refine af f (λb3=>NB rfl b3) ?_;clear f K;refine aC ?_;go_wp2
          go_roundw
          case rel=>exact⟨k+1,k+1+1,_,c5,_,E5,F3,.inl ⟨rfl,E5,E5⟩,iW.next A.o E5 B c8.o c7.o (by have:=b2.o;omega) c4.o g7.o⟩
          case measure=>simp[intOf];omega
       .have l3:k=old.length:=E5;subst l3;rcases h8 with⟨rfl,g8,hm⟩|⟨rfl,g8,g9⟩
        .subst hm;obtain⟨y,e7⟩:=D.o.fin b1.o d9.o E5 K5 E5 E5 b2.o HT.o HC.o HY.o HM.o E5;have i8:=d9.o.block (D.o.kb.block _ E5 E5);obtain⟨⟨_,t0⟩,t1⟩:=i8.row.at (i:=0) E5;have⟨l4,l5⟩:=aH y e7;clear i8 y e7;go_wp2
         exact bZ [.slice I (old.length+1) J] _ (.a 0) results16 rfl l4.o underlying25 rfl Tryz.mD rfl rfl l5.o
        .have hm:=g9.symm;subst hm;obtain⟨P,Q,R,S,T⟩:=info_parts Tryz.nE;have n5:w.heap.size+2<wr.heap.size:=E5;go_wp2_with (at_builtin;refine wpList_append_own _ rfl (.tmp 81) (.tmp 83) 23 rfl wc.heap.size 33 P _ 3 48 underlying23 Q R S T rfl E8 _ old.length O rfl (au D.o.own G8) ⟨wr.heap.size,0,none⟩ 1 1 [.string d.name,.a d.cost,.slice s d.steps.length v] rfl rfl (λZ u a1=>(by rw[Nf];exact X_ wr #[.string d.name,.a d.cost,.slice s d.steps.length v] 33 Z u (by simpa using a1))) (ny d s v) F5 E5 F6 ?_;intro v6 w6 b4 b5 _;obtain⟨b6,b7,rfl⟩:=aF b4;have b9:K_ wr (wr.alloc (.cells #[.string d.name,.a d.cost,.slice s d.steps.length v] 33)):=ah _ _;have c9:=D.o.grown b9 b5;have d1:ay w6 (a.heap.size+1) 25 1:=D.o.row.block (c9.block _ E5);obtain⟨⟨_,i6⟩,i7⟩:=d1.row.at (i:=0) E5;have i9:ay w6 (w.heap.size+2) 25 1:=(d9.o.block (D.o.kb.block _ E5 E5)).block (c9.block _ E5);obtain⟨⟨_,n6⟩,n7⟩:=i9.row.at (i:=0) E5;have e6:=Kz (iW.next D.o E5 b9 b5 b4 (by have:=b2.o;omega) (by have:=h7.o;rw[show old.length=W by omega];exact this) F.o.one);clear b4 b5 d1 i9)
         obtain⟨y,e7⟩:=e6.o.fin b1.o d9.o E5 K5 E5 E5 b2.o HT.o HC.o HY.o HM.o E5;exact bZ [.slice b6 (old.length+1) b7] _ (.a 0) results16 rfl y underlying25 rfl Tryz.mD rfl rfl e7
   .have HM:=Kz c1;clear c1 a9;go_wp2
    have y:=Mo w3 (w.heap.size+2) 0 [M3] (d4.o.row.there (o:=0) (m:=1) (Mj _));refine bZ [M3] _ (.a 2) results16 rfl y underlying25 rfl Tryz.mD rfl rfl (lY.none 2 rfl (.inr (.inl ⟨HC.o,.inr HM.o,rfl,rfl⟩)) ?_)
    repeat (first|(refine K_.setCell ?_ F8 _)|exact K3)
  .have HY:=Kz c1;clear c1 a9;go_wp2
   have y:=Mo w2 (w.heap.size+2) 0 [M3] (d3.o.row.there (o:=0) (m:=1) (Mj _));refine bZ [M3] _ (.a 2) results16 rfl y underlying25 rfl Tryz.mD rfl rfl (lY.none 2 rfl (.inr (.inl ⟨HC.o,.inl HY.o,rfl,rfl⟩)) ?_)
   repeat (first|(refine K_.setCell ?_ F8 _)|exact K1)
 .have n8:(c == 0)=false:=by simpa using f2
  go_wp2
  have y:=Mo w1 (w.heap.size+2) 0 [M3] (d3.o.row.there (o:=0) (m:=1) (Mj _));refine bZ [M3] _ (.a 1) results16 rfl y underlying25 rfl Tryz.mD rfl rfl (lY.none 1 rfl (.inl ⟨λb3=>f2 (HC.o.unique b3),rfl,rfl⟩) ?_)
  repeat (first|(refine K_.setCell ?_ F8 _)|exact K1)
variable {a:NM}
theorem bS.at(h:bS w (.slice a n cap) l){k:Nat}(f:k<l.length):∃B oB b c,a=some ⟨B,oB,none⟩/\B<w.heap.size/\w.rangeAt B (oB+k*3) ((l.getD k Qz.zero).cells b c)/\kL w b (l.getD k Qz.zero).steps/\Steps w b (l.getD k Qz.zero).steps:=by
 let⟨r,s,e,t,v,g⟩:=h;simp only[Nb] at e;obtain⟨rfl,rfl,rfl⟩:=e;let⟨i,o,x,y,u,j,m,p,d⟩:=g k f;obtain⟨b,c,rfl,_,q⟩:=d.EC;exact⟨i,o,b,c,j,aM m,p,q,d.steps⟩
def zJ(mN:Nat)(w w':NN)(e:Ending):Prop:=∃(v:NP)(r:List Qz),e=.returned (.agg #[v])/\r.length<=60/\(∀d∈r,d.TinyN mN)/\bS w' v r/\K_ w w'/\lQ w.heap.size v r
def JW(mN:Nat)(wr:NN)(s5 s6:NP)(wx:NN):Prop:=∃(xb:Nat)(v:NP)(c:Int)(r:List Qz),s5=.c xb/\s6=.a c/\K_ wr wx/\xb<wx.heap.size/\wx.cell? ⟨xb,0,none⟩=some v/\bS wx v r/\r.length<=60/\(∀d∈r,d.TinyN mN)/\lQ wr.heap.size v r
theorem Bt.tiny{r:List Qz}{c:Int}(h:Bt l d c r)(e:∀d∈l,d.TinyN mN)(f:d.TinyN mN):∀x∈r,x.TinyN mN:=λx a=>by
 rcases h.mem a with rfl|a
 .exact f
 .exact e x a
theorem uW(w:NN)(b:NM)(cap:Nat)(l:List Qz)(c0:mN<=1000)(hl:l.length<=1000)(hs:∀d∈l,d.TinyN mN)(hG:bS w (.slice b l.length cap) l):Calls prog 178 #[.agg #[.slice b l.length cap]] w λe w'=>zJ mN w w' e:=by
 go_enter func178,ntmps178
 go_wp2
 have X:K_ w (((w.alloc (.cells #[.slice b l.length cap] 25)).alloc (.cells #[M3] 25)).alloc (.cells #[M3] 25)):=((ah _ _).alloc _).alloc _;go_loopw [4] (λG wr=>∃(k:Nat)(z:NP)(r:List Qz),k<=l.length/\G=.a k/\K_ w wr/\wr.cell? ⟨w.heap.size,0,none⟩=some (.slice b l.length cap)/\ay wr (w.heap.size+1) 25 1/\ay wr (w.heap.size+2) 25 1/\
   wr.cell? ⟨w.heap.size+2,0,none⟩=some z/\bS wr z r/\r.length<=60/\(∀d∈r,d.TinyN mN)/\lQ w.heap.size z r) λG _=>l.length-(intOf G).toNat
 case atStart=>
  have Y:=X_ ((w.alloc (.cells #[.slice b l.length cap] 25)).alloc (.cells #[M3] 25)) #[M3] 25;simp only[MZ] at Y;refine⟨0,M3,[],Ml _,rfl,X,?_,?_,?_,Y 0 _ rfl,bS.nil _,E9,(λd hd=>by simp at hd),(λh0=>by simp at h0)⟩
  .rw[K_.cell (w:=w.alloc (.cells #[.slice b l.length cap] 25)) ((ah _ _).alloc _) E9];exact X_ w _ _ 0 _ rfl
  .exact ay.kept (by have:=ay.made (w.alloc (.cells #[.slice b l.length cap] 25)) #[M3] 25;simpa using this) (ah _ _)
  .have:=ay.made ((w.alloc (.cells #[.slice b l.length cap] 25)).alloc (.cells #[M3] 25)) #[M3] 25;simpa using this
 case round=>
  clear X;obtain⟨k,z,r,hk,rfl,c,H,Z,I,J,a0,a1,a2,a3⟩:=hrel;obtain⟨f,rfl⟩:=aj wr;have K:=I.lt;have⟨j,a4,i,s⟩:=nC Z I a0 a2;by_cases a5:k<l.length
  .have c3:(k:Int)<(l.length:Int):=E5;let⟨B,h,M,N,c4,a6,a7,O,P⟩:=hG.at a5;subst c4;obtain⟨n,p,rfl,d8,d9⟩:=i.o.slice;have v:=c.range a6 a7;have Q:=Mk a6 c.size;have A:=hs (l.getD k Qz.zero) (by simp[List.getD,a5]);let⟨d,a8⟩:=aj (l.getD k Qz.zero);rw[<-a8] at v O P A;have R:=v 0 _ rfl;have c1:=v 1 _ rfl;have c2:=v 2 _ rfl;rw[Ng] at R;have c5:=Kz (O.kept c);have c6:=Kz (P.kept c);clear a8;have a9:Hid (∀w',K_ f w'->(λw'=>w'.cell? ⟨w.heap.size+2,0,none⟩=some (.slice n r.length p)/\w'.cell? ⟨w.heap.size,0,none⟩=some (.slice (some ⟨B,h,none⟩) l.length cap)/\w'.cell? ⟨B,h+k*3,none⟩=some (.string d.name)/\w'.cell? ⟨B,h+k*3+1,none⟩=some (.a d.cost)/\w'.cell? ⟨B,h+k*3+2,none⟩=some (.slice M d.steps.length N)) w'):=λw' x=>⟨(x.cell K).trans J,(x.cell E5).trans H,(x.cell Q).trans R,(x.cell Q).trans c1,(x.cell Q).trans c2⟩
   go_upto_region 5 with fail
   go_cut [5,6] from 15 to 24 (λs5 s6 wx=>JW mN f s5 s6 wx)
   case first=>
    go_region_held (λw'=>w'.cell? ⟨w.heap.size+2,0,none⟩=some (.slice n r.length p)/\w'.cell? ⟨w.heap.size,0,none⟩=some (.slice (some ⟨B,h,none⟩) l.length cap)/\w'.cell? ⟨B,h+k*3,none⟩=some (.string d.name)/\w'.cell? ⟨B,h+k*3+1,none⟩=some (.a d.cost)/\w'.cell? ⟨B,h+k*3+2,none⟩=some (.slice M d.steps.length N)) (exact bg a9 _ (by repeat (first|(refine K_.setCell ?_ F8 _)|(with_reducible exact K_.refl _)|(with_reducible assumption)|apply K_.drew|apply K_.alloc))) ((go_at_call 16;refine (Jb _ n p r d M N c0 E5 s.o A (i.o.JE.kept H7) (i.o.nodes.kept H7) (c5.o.kept H7) (c6.o.kept H7)).mono ?_;rintro e S ⟨c8,c9,q,C,e0,d0,rfl,b0,b1,T,b2,b3⟩;have a:K_ f S:=K_.trans H7 b3;have b4:=Kz (bS.gK T b2);have b5:f.heap.size<=d0:=Mm (K_.size H7) b1;have b6:=Kz ((lQ.gK (L:=C) T).mono b5);have D:=Kz b0;(first|(have E:=Bw (t:=25) (c:= #[M3]) b3;(try simp only[MZ] at E);have U:=Kz E;let⟨⟨_,t0⟩,f0⟩:=E.row.at (i:=0) E8;clear E)|skip)))
    .go_wp2
     go_meet
     exact⟨_,_,q,C,rfl,rfl,a.alloc _,E9,E9,b4.o.kept (ah _ _),D.o.len,D.o.tiny s.o A,b6.o⟩
    .go_wp2
     go_meet
     have V:=Mo S f.heap.size 0 [.slice c8 C.length c9] (U.o.row.there (o:=0) (m:=1) (Mj _));exact⟨_,_,q,C,rfl,rfl,a.setCell E9 _,by rw[size_setCell];exact U.o.lt,V 0 _ rfl,b4.o.same (U.o.same (o:=0) _) E8 E8 E8 E8,D.o.len,D.o.tiny s.o A,b6.o⟩
   case rest=>
    obtain⟨xb,v7,q,r7,rfl,rfl,a,zx,x0,W,d1,b7,d2⟩:=hcut;obtain⟨S,rfl⟩:=aj wc;have z7:=Mk K a.size;have o7:=(a.cell (o:=0) K).trans J;have p7:=(a.cell (o:=0) (E5:w.heap.size<f.heap.size)).trans H;obtain⟨e1,c7,rfl,_,_⟩:=W.slice;have⟨d3,d4⟩:=aH W b7;have b8:=Kz (j.o.kept a);have y:=Kz (a4.o.kept a);have d5:=Kz (i.o.kept a);have b9:=c.trans a;have d6:=c.size;let⟨⟨_,u0⟩,g0⟩:=y.o.row.at (i:=0) E5;clear W b7 a9 R c1 c2 J H j a4 i a c;by_cases F:q=0
    .have d7:(q == 0)=true:=by simp[F]
     clear F;go_wp2
     go_roundw
     case rel=>
      refine⟨k+1,_,r7,E5,F3,b9.setCell F8 _,?_,b8.o.block (Below.heap_setCell _ _ _ _ E9),y.o.set _,aR y.o.row E5 _,d3.o.same (y.o.same (o:=0) _) E8 E8 E8 E8,d1,d4.o,d2.mono d6⟩;rw[MJ _ _ _ _ E9];exact p7
     case measure=>simp[intOf];omega
    .have d7:(q == 0)=false:=by simpa using F
     clear F;go_wp2
     go_roundw
     case rel=>exact⟨k+1,_,r,E5,F3,b9,p7,b8.o,y.o,o7,d5.o,a1,s.o,a3⟩
     case measure=>simp[intOf];omega
  .have c3:¬(k:Int)<(l.length:Int):=E5;let⟨⟨_,x0⟩,g0⟩:=j.o.row.at (i:=0) E5;have z1:=j.o.lt;obtain⟨n,p,rfl,_,_⟩:=i.o.slice;go_wp2
   have V:=Mo f (w.heap.size+1) 0 [.slice n r.length p] (j.o.row.there (o:=0) (m:=1) (Mj _));exact Zx [.slice n r.length p] _ results178 rfl V underlying25 rfl Tryz.mD rfl ⟨_,r,rfl,a1,s.o,i.o.same (j.o.same (o:=0) _) E8 E8 E8 E8,c.setCell E9 _,a3⟩
variable {L:List Qz}{bs:List UInt8}{p rb:Nat}{v:NP}
theorem fZ.sorted{M:Nat}{k f:NN}{y:Nat}{p' t:Nat}{e:Ending}(h:fZ M k f rb y a cap bs p' v L xs)(z:zJ M f w6 e){b:Nat}(A:ay f b 25 1)(B:w.heap.size<=b)(k0:K_ w k){C:Nat}(D:Rd w rb a cap bs C)(E:p<=p')(h2:p'<=p+t):∃c vn d,e=.returned (.agg #[.slice c vn d])/\ay w6 b 25 1/\jd M 60 w (w6.setCell ⟨b,0,none⟩ (.slice c vn d)) rb a cap bs p t e:=by
 let⟨K,r,l,F,G,m,j,H⟩:=z;obtain⟨c,d,rfl,_,_⟩:=m.slice;have n:=A.kept j;have I:=n.same (o:=0) (.slice c r.length d);have q:Below w.heap.size w6 (w6.setCell ⟨b,0,none⟩ (.slice c r.length d)):=(Below.refl _ _).setCell (p:=⟨b,0,none⟩) B _;have s:Xj rb (rb+1) w w6:=Xj.fV ⟨h.kb.os.trans k0.os,h.kb.tape.trans k0.tape,h.kb.output.trans k0.output,Mm k0.size h.kb.size,λi x J=>(h.kb.block i (Mk x k0.size) J).trans (k0.block i x)⟩ j;exact⟨c,r.length,d,l,n,_,r,p',l,E,h2,F,G,m.same I E8 E8 E8 E8,(h.rd.kept j).below D q s.size,s.below q,H.mono (Mm k0.size h.kb.size)⟩
def bX(g:NL):Xq:=⟨[],0,[],0,0,true,false,g⟩
theorem iX{g:NL}(a:g.size<=300):(bX g).TinyN m:=⟨Ml _,(λx b=>by simp[bX] at b),J9,Ml _,(λe c=>by simp[bX] at c),by show (-9223372036854775808:Int)<=0/\(0:Int)<=9223372036854775807;decide,J9,a⟩
theorem tX(w:NN)(g:NL):lU w 9 131 ((bX g).cells none 0 none 0) (bX g):=⟨none,0,none,0,rfl,.inl rfl,.inl rfl,Mj _⟩
theorem pK(g:NL):kQ ((bX g).cells none 0 none 0):=kD (λ_=>⟨rfl,rfl⟩) (λ_=>⟨rfl,rfl⟩)
theorem ET(w:NN)(c:Array NP):∀j u,c.toList[j]? =some u->(w.alloc (.cells c 128)).cell? ((⟨w.heap.size,0,none⟩:Addr).add j)=some u:=λj u a=>by
 rw[Nf];exact X_ w c 128 j u a
theorem jO.g{c:Nat}{cost:Int}{L:List Xq}(h:jO mN w wr rb c a cap bs p cost v L xs):dE wr v L:=(StW.gK h.own h.pack h.oJ).g
def Kh(M N:Nat)(A0 wx:NN)(rb wb res:Nat)(a:NM)(cap:Nat)(bs:List UInt8)(p t:Nat):Prop:=∃(va:NM)(vc:Nat)(L:List Qz)(p':Nat),p<=p'/\p'<=p+t/\L.length<=N/\ay wx res 25 1/\jk M A0 wx rb wb a cap bs p' (.slice va L.length vc) L
theorem FD{P:Program}(w:NN)(t u v:TypeId)(c:P.underlying t=some (.slice u))(d:P.underlying u=some (.int .u8))(e:P.underlying v=some .string)(x y:Int):(convert t v (.b w.heap.size 2 2)).run P (w.alloc (.cells #[.int .u8 x,.int .u8 y] u))=.ok (.string (strOfNums [x,y])) (w.alloc (.cells #[.int .u8 x,.int .u8 y] u)):=run_convert_bytes_arg (P:=P) _ t u c d w.heap.size 0 2 2 [x,y] rfl (λi a=>by
  match i,a with
  |0,_=>rw[World.cell?_alloc_mark];rfl
  |1,_=>rw[World.cell?_alloc_mark];rfl
  |i+2,a=>exact NB a E5) v e
theorem Aa(w:NN):dE (w.alloc (.cells #[M3,.a 0,M3,.a 0,.a 0,.bool true,.bool false,.string ⟨#[]⟩] 128)) (.b w.heap.size 1 1) [bX ⟨#[]⟩]:=by
 have a:=X_ w #[M3,.a 0,M3,.a 0,.a 0,.bool true,.bool false,.string ⟨#[]⟩] 128;refine⟨_,1,rfl,Mj _,λi c=>?_⟩;obtain rfl:i=0:=by simpa using c
 exact⟨w.heap.size,0,_,_,(bX ⟨#[]⟩).cells none 0 none 0,rfl,heap_alloc_new w _,a,(tX _ _).g,pK _⟩
theorem J_(x:Int)(a:NM)(n c:Nat):(#[.a x,.slice a n c]:Array NP).all (·.oneCell')=true:=J3
theorem EI(s:NL)(x:Int)(a:NM)(n c:Nat):(#[.string s,.a x,.slice a n c]:Array NP).all (·.oneCell')=true:=J3
theorem DK(mN:Nat)(k7:mN<=900)(w:NN)(rb:Nat)(a:NM)(cap:Nat)(bs:List UInt8)(p:Nat)(a3:NM)(a4:Nat)(l:List Qz)(Z:Rd w rb a cap bs p)(hp:p<=700000)(a5:bs.length<=2000)(hl:l.length<=200)(h0:∀d∈l,d.TinyN mN)(hG:bS w (.slice a3 l.length a4) l):Calls prog 38 #[.c rb,.agg #[.slice a3 l.length a4]] w λe w'=>jd (mN+10) (l.length+62) w w' rb a cap bs p 20 e:=by
 let⟨S,b4⟩:=aj ((w.alloc (.cells #[.slice a3 l.length a4] 25)).alloc (.cells #[M3] 25));have k0:K_ w S:=by rw[b4];exact (ah _ _).alloc _
 have h4:S.heap.size=w.heap.size+2:=by rw[b4];simp
 have h5:Hid (ay S (w.heap.size+1) 25 1):=by
  rw[b4];have:=ay.made (w.alloc (.cells #[.slice a3 l.length a4] 25)) #[M3] 25;rw[MZ] at this;exact this
 have p3:=Z.row.lt;have h6:=Kz Z;have h7:=Kz (Z.kept k0);have k8:=Kz (hG.kept k0);go_enter func38,ntmps38
 go_upto_region 1 with fail
 rw[<-b4];have k9:=Kz h4;have l0:S.cell? ⟨w.heap.size,0,none⟩=some (.slice a3 l.length a4):=by
  rw[b4,K_.cell (w:=w.alloc (.cells #[.slice a3 l.length a4] 25)) (ah _ _) E9];exact X_ w _ _ 0 _ rfl
 have bz:w.heap.size<S.heap.size:=E5;clear b4;go_wp2_with fail
 refine (sJ _ a3 a4 l ⟨#[]⟩ (mN:=mN) E5 E5 h0 k8.o.JE).mono ?_;rintro e A ⟨av,q,xs,base,rfl,h8,hO,hP,k1⟩;let⟨L,hL⟩:=aj (l.filter (bY (⟨#[]⟩:NL).toList));rw[<-hL] at hO hP⊢;have p4:L.length<=200:=by rw[hL];exact Mm (List.length_filter_le _ _) hl
 have p5:L.length<=l.length:=by rw[hL];exact List.length_filter_le _ _
 have h9:∀d∈L,d.TinyN mN:=λd r=>h0 d (by rw[hL] at r;exact (List.mem_filter.1 r).1)
 have kw:K_ A (A.alloc (.cells #[.slice av L.length q] 25)):=ah _ _;have a0:Hid (fZ mN S (A.alloc (.cells #[.slice av L.length q] 25)) rb A.heap.size a cap bs p (.slice av L.length q) L xs):=
  ⟨(h7.o.kept k1).kept kw,⟨p,h7.o⟩,k1.size,.ax (k1.trans kw),ay.made A _ _,X_ A _ _ 0 _ rfl,dN (au hO kw) h8,hP.same (u:=25) (.ax kw) E8 E8 E8,h9⟩
 have a6:=Kz ((h5.o.kept k1).kept kw);have i0:w.heap.size+1≠A.heap.size:=by have:=(h5.o.kept k1).lt;omega
 clear hL hO hP h9 k1 kw l0 bz h8;go_upto_region 2 with fail
 let⟨w2,i1⟩:=aj (A.alloc (.cells #[.slice av L.length q] 25));rw[<-i1] at a0 a6⊢;clear i1;have y0:=a0.o.c0;have zb:=a0.o.row.lt;by_cases d1:L.length=0
 .have i2:((L.length:Int) == 0)=true:=by simp[d1]
  clear d1;let⟨⟨_,x0⟩,g0⟩:=a6.o.row.at (i:=0) E5;have xz:=a6.o.lt;go_wp2
  have Z:=Mo w2 (w.heap.size+1) 0 [.slice av L.length q] (a6.o.row.there (o:=0) (m:=1) (Mj _));exact Zx [.slice av L.length q] _ results38 rfl Z underlying25 rfl Tryz.gZ rfl ((a0.o.fin.mono (n:=mN+10) E5).ends a6.o E5 k0 h6.o rfl (Mj _) E5 E5)
 have i2:((L.length:Int) == 0)=false:=by simpa using d1
 have a7:0<L.length:=E5;let⟨g,gc,I,c2,F,p7⟩:=a0.o.Km a7;simp only[Nb,true_and] at I;obtain⟨rfl,rfl⟩:=I;go_wp2_with fail
 refine (oQ _ rb a cap bs p L.length a0.o.rd E5 E5 a5).mono ?_;rintro e w3 ⟨k,rfl,hk,i3,e8⟩;have e9:=Kz (a0.o.drawn i3 e8);have i4:=Kz (a6.o.but e8 E5);have T:k<L.length:=E5;clear i3 e8 a0 a6 y0 zb i2;go_wp2_with fail
 refine (aN _ rb a cap bs (p+1) _ 5 rfl e9.o.rd E5 E5 a5).mono ?_;rintro e i ⟨s,rfl,p8,i5,f0⟩;have j:=Kz (e9.o.drawn i5 f0);have X:=Kz (i4.o.but f0 E5);have a8:Hid (ay i g 33 (q*3)):=by
  let⟨g',c',I,_,F,_⟩:=j.o.Km a7;simp only[Nb,true_and,Na,NI,and_true] at I;obtain⟨rfl,rfl⟩:=I;exact F
 go_upto_block 0 with fail
 go_cut [7,8,9] from 24 to 115 (λ_ _ _ wx=>Kh (mN+10) (l.length+62) S wx rb A.heap.size (w.heap.size+1) a cap bs p 20)
 case rest=>
  let⟨va,vc,D,p',h1,h2,h3,b0,hF⟩:=hcut;obtain⟨wE,rfl⟩:=aj wc;have⟨HF,c3⟩:=aH hF b0;have p9:=hF.c0;have oz:=hF.row.lt;let⟨⟨_,x0⟩,g0⟩:=b0.row.at (i:=0) E5;have xz:=b0.lt;go_wp2
  have Z:=Mo wE (w.heap.size+1) 0 [.slice va D.length vc] (c3.o.row.there (o:=0) (m:=1) (Mj _));exact Zx [.slice va D.length vc] _ results38 rfl Z underlying25 rfl Tryz.gZ rfl (HF.o.ends c3.o E5 k0 h6.o rfl h1 h2 h3)
 case first=>
  have y4:=j.o.c0;have d2:=j.o.row.lt;have f1:=a8.o.lt;have b5:k*3+3<=q*3:=E5;have q0:w.heap.size+1≠g:=by have:=k9.o;omega
  have q2:(k:Int)<(L.length:Int):=E5;by_cases U:s=0
  .have d3:((s:Int) == 0)=true:=by simp[U]
   clear U;go_upto_region 10 with fail
   have t:=Kz (j.o.kept (aY i));have a1:=Kz (X.o.kept (aY i));refine Qk.region F4 (λ(v:NN)=>v.cell? ⟨A.heap.size,0,none⟩=some (.b g L.length q)) 14 t.o.c0 λh=>?_;generalize l1:i.drew=wd at h t a1⊢;clear l1 y4 d2 f1 j X a8;refine ak 0 h ?_;refine ae 8 h ?_;refine aG 4 λK b=>?_;go_simp
   go_at_call 35
   refine (aN _ rb a cap bs (p+2) _ 2 rfl t.o.rd E5 E5 a5).mono ?_;rintro e B ⟨b1,rfl,hq,J,x⟩;have V:=Kz (t.o.drawn J x);have b6:=Kz (a1.o.but x E5);dsimp only;refine b.out _ _ (λ_=>V.o.c0) ?_;clear b K h J x t a1;have h:=V.o.c0;try simp only[upP]
   have ew:IntKind.i64.wrap (20+(b1:Int))=20+(b1:Int):=G6;refine cK 5 (.a (20+(b1:Int))) h ?_ ?_
   .intro u hu;try dsimp only at hu
    go_simp
    try with_reducible rfl
   try simp only[upP]
   refine aG 6 λK b=>?_;go_simp
   go_at_call 82
   refine (vG _ ⟨#[110]⟩ _ (20+b1) (by push_cast;rfl) E5 E8).mono ?_;rintro e w6 ⟨⟨M,rfl,hx⟩,l2⟩;have l3:M.size<=300:=by have c4:(⟨#[110]⟩:NL).size=1:=rfl;rw[c4] at hx;omega
   subst l2;dsimp only;refine af b (λ_=>V.o.c0) ?_;have i6:∀c∈([⟨#[]⟩,⟨#[45]⟩,⟨#[97,44,98]⟩,⟨#[97]⟩,M]:List NL),c.size<=300:=by
    intro c hc;simp only[Nh,Ni,or_false] at hc;rcases hc with rfl|rfl|rfl|rfl|rfl<;>first|exact l3|decide
   clear ew;refine fP 7 9 (λK b=>?_) (λK b=>?_)
   .rw[Nz F7];go_simp
    have K3:K_ w6 (w6.alloc (.cells #[.string ⟨#[]⟩,.string ⟨#[45]⟩,.string ⟨#[97,44,98]⟩,.string ⟨#[97]⟩,.string M] 9)):=ah _ _;have b7:=Kz (V.o.kept K3);have b8:=Kz (b6.o.kept K3);refine af b (λ_=>b7.o.c0) ?_;refine aG 9 λK b=>?_;go_simp
    go_at_call 35
    refine (aN _ rb a cap bs (p+3) _ 5 rfl b7.o.rd E5 E5 a5).mono ?_;rintro e wE ⟨y,rfl,f2,J,x⟩;have C:=Kz (b7.o.drawn J x);have d4:=Kz (b8.o.but x E5);let⟨c,hc,f3⟩:=Af [⟨#[]⟩,⟨#[45]⟩,⟨#[97,44,98]⟩,⟨#[97]⟩,M] x V.o.rd.row.lt y (by show y<5;omega) i6;have lz:w6.heap.size<wE.heap.size:=Nat.lt_of_lt_of_le E9 x.size;dsimp only;refine af b (λ_=>C.o.c0) ?_;have l4:(y:Int)<5:=E5;refine ai 10 λK b=>?_;go_simp
    refine af b (λ_=>C.o.c0) ?_;refine ai 11 λK b=>?_;go_simp
    refine af b (λ_=>C.o.c0) ?_;have h:=C.o.c0;refine ae 12 h ?_;refine ae 13 h ?_;have f:ay wE g 33 (q*3):=by
     let⟨g',c',I,_,F,_⟩:=C.o.Km a7;simp only[Nb,true_and,Na,NI,and_true] at I;obtain⟨rfl,rfl⟩:=I;exact F
    have zg:=f.lt;let⟨⟨_,u0⟩,l5⟩:=f.row.at (i:=k*3) E5;have HF:=Kz ((C.o.fin.mono (n:=mN+10) E5).Fu c2 T f b5 f3);have b2:=Kz (d4.o.ji (f.same (o:=k*3) (.string c)) E8).1;refine ai 14 λK b=>?_;go_simp
    refine af b (λY=>NB rfl Y) ?_;refine aC ?_;go_wp2
    go_meet
    exact⟨some ⟨g,0,none⟩,q,L.set k ⟨c,(L.getD k Qz.zero).cost,(L.getD k Qz.zero).steps⟩,p+4,E5,E5,by rw[Nu];omega,b2.o,by rw[Nu];exact HF.o⟩
   .rw[Nz F7];go_simp
    go_at_call 35
    refine (aN _ rb a cap bs (p+3) _ 5 rfl V.o.rd E5 E5 a5).mono ?_;rintro e N ⟨y,rfl,f2,J,x⟩;have b7:=Kz (V.o.drawn J x);have b8:=Kz (b6.o.but x E5);dsimp only;refine af b (λ_=>b7.o.c0) ?_;refine aG 7 λK b=>?_;go_simp
    have K3:K_ N (N.alloc (.cells #[.string ⟨#[]⟩,.string ⟨#[45]⟩,.string ⟨#[97,44,98]⟩,.string ⟨#[97]⟩,.string M] 9)):=ah _ _;have C:=Kz (b7.o.kept K3);have d4:=Kz (b8.o.kept K3);let⟨c,hc,f3⟩:=BU N 9 [⟨#[]⟩,⟨#[45]⟩,⟨#[97,44,98]⟩,⟨#[97]⟩,M] y (by show y<5;omega) i6;have lz:N.heap.size<(N.alloc (.cells #[.string ⟨#[]⟩,.string ⟨#[45]⟩,.string ⟨#[97,44,98]⟩,.string ⟨#[97]⟩,.string M] 9)).heap.size:=E9;have l6:(N.alloc (.cells #[.string ⟨#[]⟩,.string ⟨#[45]⟩,.string ⟨#[97,44,98]⟩,.string ⟨#[97]⟩,.string M] 9)).cell? ⟨N.heap.size,y,none⟩=some (.string c):=hc;refine b.out _ _ (λ_=>C.o.c0) ?_;generalize l7:N.alloc (.cells #[.string ⟨#[]⟩,.string ⟨#[45]⟩,.string ⟨#[97,44,98]⟩,.string ⟨#[97]⟩,.string M] 9)=wE at C d4 lz l6⊢;clear l7;try simp only[upP]
    have l4:(y:Int)<5:=E5;refine ai 10 λK b=>?_;go_simp
    refine af b (λ_=>C.o.c0) ?_;refine ai 11 λK b=>?_;go_simp
    refine af b (λ_=>C.o.c0) ?_;have h:=C.o.c0;refine ae 12 h ?_;refine ae 13 h ?_;have f:ay wE g 33 (q*3):=by
     let⟨g',c',I,_,F,_⟩:=C.o.Km a7;simp only[Nb,true_and,Na,NI,and_true] at I;obtain⟨rfl,rfl⟩:=I;exact F
    have zg:=f.lt;let⟨⟨_,u0⟩,l5⟩:=f.row.at (i:=k*3) E5;have HF:=Kz ((C.o.fin.mono (n:=mN+10) E5).Fu c2 T f b5 f3);have b2:=Kz (d4.o.ji (f.same (o:=k*3) (.string c)) E8).1;refine ai 14 λK b=>?_;go_simp
    refine af b (λY=>NB rfl Y) ?_;refine aC ?_;go_wp2
    go_meet
    exact⟨some ⟨g,0,none⟩,q,L.set k ⟨c,(L.getD k Qz.zero).cost,(L.getD k Qz.zero).steps⟩,p+4,E5,E5,by rw[Nu];omega,b2.o,by rw[Nu];exact HF.o⟩
  by_cases h1:s=1
  .have d3:((s:Int) == 0)=false:=by simpa using U
   have c4:((s:Int) == 1)=true:=by simp[h1]
   clear U h1;let⟨G,O,f,z⟩:=j.o.web.cells T;let⟨d,r⟩:=aj (L.getD k Qz.zero);have Q:=j.o.tiny d (by rw[r];simp[List.getD,T]);rw[<-r] at f z;have E:=f 1 _ rfl;have n2:=f 2 _ rfl;have c5:=Kz z;have l8:Hid (kL i G d.steps):=by
    let⟨a9,c9,i7,_,hS⟩:=z.EC;simp only[Nb,true_and] at i7;obtain⟨rfl,rfl⟩:=i7;exact hS
   have⟨HD,b3⟩:=aH r Q;clear r;go_upto_region 12 with fail
   refine Qk.region F4 (λ(v:NN)=>v.cell? ⟨A.heap.size,0,none⟩=some (.b g L.length q)/\v.cell? ⟨g,k*3+1,none⟩=some (.a d.cost)/\v.cell? ⟨g,k*3+2,none⟩=some (.slice G d.steps.length O)) 13 ⟨y4,E,n2⟩ λh=>?_;refine ak 0 h ?_;refine ak 4 h ?_;refine ae 8 h ?_;refine ae 9 h ?_;refine aG 10 λK b=>?_;go_simp
   go_at_call 37
   refine (FB mN k7 _ rb a cap bs (p+2) d.cost G O d.steps ((j.o.kept (aY i)).rd) E5 a5 b3.o.steps b3.o.cost b3.o.each (l8.o.kept (aY i))).mono ?_;rintro e w6 ⟨cost,u,LS,p6,rfl,q3,q4,l9,m0,m1,i8,i9,d5⟩;have V:=Kz ((j.o.kept (aY i)).drawn i9 d5);have b6:=Kz ((X.o.kept (aY i)).but d5 E5);have j0:=Kz i8.g;obtain⟨ua,uc,rfl⟩:=j0.o.slice;have c6:=d5.sameKind (j.o.kept (aY i)).rd;have f:=a8.o.kept (aY i);have d6:=f.ji c6 E8;have j1:(λ(v:NN)=>v.cell? ⟨A.heap.size,0,none⟩=some (.b g L.length q)/\v.cell? ⟨g,k*3+1,none⟩=some (.a d.cost)/\v.cell? ⟨g,k*3+2,none⟩=some (.slice G d.steps.length O)) w6:=⟨V.o.c0,(d6.2 _).trans E,(d6.2 _).trans n2⟩;have f4:=Kz d6.1;dsimp only;refine b.out _ _ (λ_=>j1) ?_;clear b K h i8 i9 d5 c6 f d6;have h:=j1;try simp only[upP]
   refine ae 11 h ?_;refine ae 12 h ?_;have HF:=Kz ((V.o.fin.mono (n:=mN+10) E5).GR c2 T f4.o b5 j0.o m0 l9 m1);have b2:=Kz (b6.o.ji (f4.o.setCells [.a cost,.slice ua LS.length uc] (k*3+1)).2 E8).1;refine aG 13 λK b=>?_;refine wp_store_mid 31 _ _ rfl g (k*3+1) #[.a cost,.slice ua LS.length uc] F7 F7 (f4.o.row.there F6) F4 (J_ ..) ?_;refine af b (λY=>NB rfl Y) ?_;refine aC ?_;go_wp2
   go_meet
   exact⟨some ⟨g,0,none⟩,q,L.set k ⟨(L.getD k Qz.zero).name,cost,LS⟩,p6,E5,E5,by rw[Nu];omega,b2.o,by rw[Nu];exact HF.o⟩
  by_cases h2:s=2
  .have d3:((s:Int) == 0)=false:=by simpa using U
   have c4:((s:Int) == 1)=false:=by rw[beq_eq_false_iff_ne];omega
   have e2:((s:Int) == 2)=true:=by simp[h2]
   clear U h1 h2;go_wp2_with fail
   refine (aN _ rb a cap bs (p+2) _ 2 rfl j.o.rd E5 E5 a5).mono ?_;rintro e B ⟨b1,rfl,hq,J,x⟩;have t:=Kz (j.o.drawn J x);have a1:=Kz (X.o.but x E5);clear J x j X a8 y4 d2 f1;obtain⟨E,q5⟩:∃E:Nat,E=60+b1:=⟨_,rfl⟩;go_wp2
   go_loopg [8] (E-L.length) (λgq M wr=>∃(a2:Nat)(v:NP)(D:List Qz)(ys:List NP),M=.a (a2:Int)/\a2+gq<=61/\E<=D.length+gq/\(gq=0\/D.length+gq=E)/\D.length<=l.length+61/\ay wr (w.heap.size+1) 25 1/\fZ mN S wr rb A.heap.size a cap bs (p+3) v D ys)
   case atStart=>exact⟨0,_,L,xs,rfl,E5,E5,E5,E5,a1.o,t.o⟩
   case round=>
    clear t a1;obtain⟨a2,v,D,ys,rfl,hi,hn,m2,m3,b0,hS⟩:=hrel;obtain⟨wO,rfl⟩:=aj wr;have⟨HO,c3⟩:=aH hS b0;obtain⟨va,vc,rfl⟩:=aF hS.own;have y0:=hS.c0;have zb:=hS.row.lt;by_cases m4:(D.length:Int)<60+(b1:Int)
    .have q6:0<gk:=E5;let⟨d7,f5⟩:=aj (D.length);have q7:d7<=61:=E5;have HN:=Kz f5;rw[<-f5] at y0 m4 hn m2 m3;let⟨q1,m5⟩:=aj (a2 / 26);let⟨y,f2⟩:=aj (a2 % 26);have et:(a2:Int).tdiv 26= (q1:Int):=by rw[Int.tdiv_eq_ediv_of_nonneg E5];omega
     have er:(a2:Int).tmod 26= (y:Int):=by rw[Int.tmod_eq_emod_of_nonneg E5];omega
     have q8:q1<=2:=E5;have q9:y<=25:=E5;clear m5 f2 f5;have m6:=Kz (FD (P:=prog) wO 22 5 9 underlying22 underlying5 underlying9 (97+(q1:Int)) (97+(y:Int)));let⟨bz,f7⟩:=aj (strOfNums [97+(q1:Int),97+(y:Int)]);have m7:bz.size=2:=by rw[f7];rfl
     obtain⟨R,j2⟩:∃R:NL,(⟨#[122,122]⟩:NL)++bz=R:=⟨_,rfl⟩;have j3:R.size<=300:=by rw[<-j2,ByteArray.size_append,m7];decide
     have b5:=m6.o;rw[<-f7] at b5;have f6:¬9223372036854775807<2+bz.size:=E5;have r0:¬9223372036854775807<4:=E5;let⟨H,c7⟩:=aj (wO.alloc (.cells #[.int .u8 (97+(q1:Int)),.int .u8 (97+(y:Int))] 5));have j4:K_ wO H:=by rw[c7];exact ah _ _
     have f8:Hid (dE (H.alloc (.cells #[M3,.a 0,M3,.a 0,.a 0,.bool true,.bool false,.string ⟨#[]⟩] 128)) (.b H.heap.size 1 1) [bX ⟨#[]⟩]):=Aa H;have f9:K_ H (H.alloc (.cells #[M3,.a 0,M3,.a 0,.a 0,.bool true,.bool false,.string ⟨#[]⟩] 128)):=ah _ _;let⟨W2,d8⟩:=aj (H.alloc (.cells #[M3,.a 0,M3,.a 0,.a 0,.bool true,.bool false,.string ⟨#[]⟩] 128));rw[<-d8] at f8 f9;have d9:K_ W2 (W2.alloc (.cells #[.string R,.a 1,.b H.heap.size 1 1] 33)):=ah _ _;let⟨W3,g1⟩:=aj (W2.alloc (.cells #[.string R,.a 1,.b H.heap.size 1 1] 33));have g2:=nT W2 R 1 (.b H.heap.size 1 1);rw[<-g1] at d9 g2;have e0:=Kz ((j4.trans f9).trans d9);have j5:=Kz (HO.o.kept e0.o);have g3:=j5.o.own;rw[<-HN.o] at g3;have⟨j6,m8,m9⟩:=di g3 j5.o.kb.size g2;have n1:=Kz (f8.o.same (u:=25) (.ax d9) E8 E8 E8);have HD:Hid (Qz.TinyN mN ⟨R,1,[bX ⟨#[]⟩]⟩):=⟨j3,⟨by show (-1000:Int)<=1;decide,by show (1:Int)<=1000;decide⟩,by show 1<=21;omega,λr1 hy=>by simp only[Mt] at hy;subst hy;exact iX (show (0:Nat)<=300 by omega)⟩;let⟨g4,g5,g6,g7,g8⟩:=aT Tryz.nD;have HE:Hid (((wO.alloc (.cells #[.int .u8 (97+(q1:Int)),.int .u8 (97+(y:Int))] 5)).alloc (.cells #[M3,.a 0,M3,.a 0,.a 0,.bool true,.bool false,.string ⟨#[]⟩] 128)).alloc (.cells #[.string ((⟨#[122,122]⟩:NL)++strOfNums [97+(q1:Int),97+(y:Int)]),.a 1,.b (wO.heap.size+1) 1 1] 33)=W3):=by
      show _=_;rw[g1,d8,c7,<-j2,f7];simp only[MZ]
     have j7:wO.heap.size+1=H.heap.size:=by rw[c7];simp
     have j8:wO.heap.size+1+1=W2.heap.size:=by rw[d8,c7];simp
     have⟨r2,n3⟩:=aH j7 j8;clear c7 d8 g1 j4 f9 d9 g2 g3 j7 j8 j3 f8;go_wp2_with (at_builtin;rw[HE.o];refine wpList_append_lies _ rfl (.tmp 85) (.tmp 101) 23 rfl S.heap.size 33 g4 _ 3 48 underlying23 g5 g6 g7 g8 rfl E8 (.slice va d7 vc) d7 ys rfl j6.o ⟨W2.heap.size,0,none⟩ 1 1 [.string R,.a 1,.b H.heap.size 1 1] (by rw[<-n3.o];rfl) rfl m9.o (n_ _ _ _ _ _) E5 F5 E5 m8.o _ rfl ?_;intro r3 c9 w9 j9 F _ _;have W:=HO.o.fQ e0.o (by rw[<-HN.o];exact F);have r4:=W.1;have z9:=W.2.lt;have n4:=(W.2.row.at (i:=0) E5).2;have n5:=Kz (HO.o.push (d:=⟨R,1,[bX ⟨#[]⟩]⟩) e0.o n1.o HD.o (by rw[<-HN.o];exact j9) (by rw[<-HN.o];exact F));have n6:Hid (ay w9 (w.heap.size+1) 25 1):=((c3.o.kept e0.o).ji (aD.aI j6.o F) E8).1;clear W j9 F)
     go_roundg (gk-1)
     case rel=>
      have hP:=n5.o;have k2:(D++[⟨R,1,[bX ⟨#[]⟩]⟩]:List Qz).length=d7+1:=by rw[M_,HN.o];rfl
      exact⟨a2+1,_,D++[⟨R,1,[bX ⟨#[]⟩]⟩],_,F3,E5,E5,E5,E5,n6.o.block (Below.heap_setCell _ _ _ _ (by simpa using i0)),hP⟩
     case measure=>omega
    .go_wp2
     go_meet
     exact⟨va,vc,D,p+3,E5,E5,E5,c3.o,HO.o.fin.mono E5⟩
  by_cases h3:s=3
  .have d3:((s:Int) == 0)=false:=by simpa using U
   have c4:((s:Int) == 1)=false:=by rw[beq_eq_false_iff_ne];omega
   have e2:((s:Int) == 2)=false:=by rw[beq_eq_false_iff_ne];omega
   have e3:((s:Int) == 3)=true:=by simp[h3]
   clear U h1 h2 h3;let⟨G,O,f,z⟩:=j.o.web.cells T;let⟨d,r⟩:=aj (L.getD k Qz.zero);have Q:=j.o.tiny d (by rw[r];simp[List.getD,T]);rw[<-r] at f z;have n0:=f 0 _ rfl;have E:=f 1 _ rfl;have n2:=f 2 _ rfl;rw[Ng] at n0;have⟨c5,b3⟩:=aH z Q;clear r;let⟨g4,g5,g6,g7,g8⟩:=aT Tryz.nD;go_upto_region 20 with fail
   refine Qk.region F4 (λ(v:NN)=>v.cell? ⟨A.heap.size,0,none⟩=some (.b g L.length q)) 10 y4 λh=>?_;refine ak 0 h ?_;refine ae 4 h ?_;refine ae 5 h ?_;refine ai 6 λK b=>?_;go_simp
   refine af b (λ_=>y4) ?_;refine ai 7 λK b=>?_;go_simp
   have KW:K_ i (i.drew.alloc (.cells #[.string d.name,.a d.cost,.slice G d.steps.length O] 33)):=(aY i).alloc _;refine af b (λ_=>(KW.cell d2).trans y4) ?_;refine ai 8 λK b=>?_;have t:=Kz (j.o.kept KW);refine step_append_lies _ rfl (.tmp 107) (.tmp 113) 23 rfl S.heap.size 33 g4 _ 3 48 underlying23 g5 g6 g7 g8 rfl E8 (.b g L.length q) L.length xs F9 t.o.own ⟨i.heap.size,0,none⟩ 1 1 [.string d.name,.a d.cost,.slice G d.steps.length O] F9 rfl (nT _ _ _ _) (n_ _ _ _ _ _) E5 F5 E5 t.o.kb.size _ rfl ?_;intro n7 n8 w6 k3 e1 n9 r5;have W:=j.o.fQ KW e1;have y6:=W.1;have r6:=W.2.lt;have n4:=(W.2.row.at (i:=0) E5).2;let⟨vo,r7⟩:=(W.2.row.at (i:=0) E5).1;have o0:=Kz (j.o.push (d:=d) KW (c5.o.same (u:=25) (.ax KW) E8 E8 E8) b3.o k3 e1);have c6:=aD.aI t.o.own e1;have b6:Hid (ay w6 (w.heap.size+1) 25 1):=((X.o.kept KW).ji c6 E8).1;clear W k3 e1 n9 c6 KW;refine af b (λ_=>y6) ?_;have h:=y6;refine ae 9 h ?_;refine ai 10 λK b=>?_;go_simp
   refine af b (λY=>NB rfl Y) ?_;refine aC ?_;go_wp2
   go_meet
   have hF:=o0.o.fin.mono (n:=mN+10) E5;have k2:(L++[d]).length=L.length+1:=E9;exact⟨some ⟨n7,0,none⟩,n8,L++[d],p+2,E5,E5,E5,b6.o.block (Below.heap_setCell _ _ _ _ (by simpa using i0)),by rw[k2];exact hF⟩
  have d3:((s:Int) == 0)=false:=by simpa using U
  have c4:((s:Int) == 1)=false:=by rw[beq_eq_false_iff_ne];omega
  have e2:((s:Int) == 2)=false:=by rw[beq_eq_false_iff_ne];omega
  have e3:((s:Int) == 3)=false:=by rw[beq_eq_false_iff_ne];omega
  clear U h1 h2 h3;let⟨G,O,f,z⟩:=j.o.web.cells a7;let⟨d,r⟩:=aj (L.getD 0 Qz.zero);have Q:=j.o.tiny d (by rw[r];simp[List.getD,a7]);rw[<-r,Nat.zero_mul] at f;rw[<-r] at z;have n0:=f 0 _ rfl;have E:=f 1 _ rfl;have n2:=f 2 _ rfl;simp only[MR] at n0 E n2;have⟨c5,b3⟩:=aH z Q;have r8:(0:Int)<(L.length:Int):=E5;clear r;go_upto_region 7 with fail
  let⟨B,c8⟩:=aj (i.alloc (.cells #[.string d.name,.a d.cost,.slice G d.steps.length O] 33));have K5:K_ i B:=by rw[c8];exact ah _ _
  have hx:=X_ i #[.string d.name,.a d.cost,.slice G d.steps.length O] 33;rw[<-c8] at hx;have x0:=hx 0 _ rfl;have x1:=hx 1 _ rfl;have x2:=hx 2 _ rfl;simp only[MR] at x0 x1 x2;have xz:i.heap.size<B.heap.size:=by rw[c8];simp
  rw[<-c8];have t:=Kz (j.o.kept K5);have a1:=Kz (X.o.kept K5);have e4:=Kz (a8.o.kept K5);have o1:=Kz (c5.o.same (u:=25) (.ax K5) E8 E8 E8);have o2:g≠i.heap.size:=E5;clear c8 K5 hx y4 d2 f1 j X a8 c5 n0 E n2;have y5:=t.o.c0;have r9:=t.o.row.lt;have s0:=e4.o.lt;let⟨b9,c1,f,z⟩:=t.o.web.cells T;let⟨n,r⟩:=aj (L.getD k Qz.zero);have Q:=t.o.tiny n (by rw[r];simp[List.getD,T]);rw[<-r] at f z;have n0:=f 0 _ rfl;have E:=f 1 _ rfl;have n2:=f 2 _ rfl;rw[Ng] at n0;have⟨o3,o4⟩:=aH z Q;clear r;have KD:=aY B;have e5:=Kz (((t.o.kept KD).fin.mono (n:=mN+10) E5).setNode (k:=0) (d:=n) c2 a7 (e4.o.kept KD) E5 (o3.o.same (u:=25) (.ax KD) E8 E8 E8) (o4.o.mono E5));have e6:=(e4.o.kept KD).setCells [.string n.name,.a n.cost,.slice b9 n.steps.length c1] (0*3);have d0:=Kz e6.1;have b8:=Kz ((a1.o.kept KD).ji e6.2 E8).1;have k4:=Kz ((o1.o.same (u:=25) (.ax KD) E8 E8 E8).same e6.2 E8 E8 E8);have e7:∀o v,B.cell? ⟨i.heap.size,o,none⟩=some v->(B.drew.setCells g (0*3) [.string n.name,.a n.cost,.slice b9 n.steps.length c1]).cell? ⟨i.heap.size,o,none⟩=some v:=λo v hv=>(MG (zK (w:=B.drew) (q:=o) hv) _ _ _ (.inl λe=>o2 (by simpa using e.symm))) 0 _ rfl
  have o5:=e7 _ _ x0;have o6:=e7 _ _ x1;have o7:=e7 _ _ x2;have o8:i.heap.size<(B.drew.setCells g (0*3) [.string n.name,.a n.cost,.slice b9 n.steps.length c1]).heap.size:=by rw[size_setCells];exact xz
  clear e6 e7 KD;refine Qk.region F4 (λ(v:NN)=>v.cell? ⟨A.heap.size,0,none⟩=some (.b g L.length q)) 8 y5 λh=>?_;refine ak 0 h ?_;refine ae 4 h ?_;refine ae 5 h ?_;refine ai 6 λK b=>?_;go_simp
  refine af b (λ_=>y5) ?_;refine ae 7 h ?_;refine aG 8 λK b=>?_;refine wp_store_mid 33 _ _ rfl g (0*3) #[.string n.name,.a n.cost,.slice b9 n.steps.length c1] F7 F7 ((e4.o.kept (aY B)).row.there F6) F4 (EI ..) ?_;refine af b (λY=>NB rfl Y) ?_;refine aC ?_;let⟨N,g9⟩:=aj (B.drew.setCells g (0*3) [.string n.name,.a n.cost,.slice b9 n.steps.length c1]);rw[<-g9] at e5 d0 b8 k4 o5 o6 o7 o8;have k5:=g9.symm;rw[k5];clear g9;have s1:=e5.o.c0;have s2:=e5.o.row.lt;have s3:=d0.o.lt;have o9:k<(L.set 0 n).length:=by rw[Nu];exact T
  have p0:=Kz (e5.o.setNode (k:=k) (d:=d) c2 o9 d0.o b5 k4.o (b3.o.mono E5));have b2:=Kz (b8.o.ji (d0.o.setCells [.string d.name,.a d.cost,.slice G d.steps.length O] (k*3)).2 E8).1;have p1:Hid (N.there g (k*3) 3):=d0.o.row.there E5;have k6:(prog.info? 33).map (·.size)=some 3:=F4;have p2:=Kz k6;go_wp2_with (refine wpList_store_mid rfl 33 _ _ rfl g (k*3) #[.string d.name,.a d.cost,.slice G d.steps.length O] rfl rfl p1.o p2.o (EI ..) ?_)
  go_meet
  exact⟨some ⟨g,0,none⟩,q,(L.set 0 n).set k d,p+2,E5,E5,by rw[Nu,Nu];omega,b2.o,by rw[Nu,Nu];exact p0.o⟩
structure jL (wO wr:NN)(rb sb:Nat)(a:NM)(cap:Nat)(bs:List UInt8)(p:Nat)(aa:NM)(ca:Nat)(s:Xq):Prop where
 rd:Rd wr rb a cap bs p
 kb:Xj rb (rb+1) wO wr
 sbl:wO.heap.size<=sb
 box:dG wr sb (.slice aa s.asks.length ca) M3 s
 asks:ou wr aa s.asks
 room:s.asks.length<=ca
 nil:aa=none->s.asks.length=0/\ca=0
 cases:s.cases=[]
 tiny:s.TinyN 20
variable {sb:Nat}{aa:NM}{s:Xq}{wO:NN}
theorem jL.kept(h:jL wO wr rb sb a cap bs p aa ca s)(k:K_ wr w'):jL wO w' rb sb a cap bs p aa ca s:=⟨h.rd.kept k,h.kb.fV k,h.sbl,h.box.kept k,h.asks.same (u:=25) (.ax k) E8,h.room,h.nil,h.cases,h.tiny⟩
theorem jL.drawn{p':Nat}(h:jL wO wr rb sb a cap bs p aa ca s)(d:rb<wO.heap.size)(c:Rd w' rb a cap bs p')(k:Xj rb (rb+1) wr w'):jL wO w' rb sb a cap bs p' aa ca s:=by
 have e:=h.sbl;exact⟨c,h.kb.trans k,h.sbl,h.box.block (k.block sb h.box.row.lt E5),h.asks.same (k.sameKind h.rd) E8,h.room,h.nil,h.cases,h.tiny⟩
theorem jL.steps(h:jL wO wr rb sb a cap bs p aa ca s):dE (wr.alloc (.cells #[.slice aa s.asks.length ca,.a s.on,M3,.a s.els,.a s.fall,.bool s.fin,.bool s.bad,.string s.give,M3,.a 0,M3,.a 0,.a 0,.bool true,.bool false,.string ⟨#[114]⟩] 128)) (.b wr.heap.size 2 2) [s,bX ⟨#[114]⟩]:=by
 have k:K_ wr (wr.alloc (.cells #[.slice aa s.asks.length ca,.a s.on,M3,.a s.els,.a s.fall,.bool s.fin,.bool s.bad,.string s.give,M3,.a 0,M3,.a 0,.a 0,.bool true,.bool false,.string ⟨#[114]⟩] 128)):=ah _ _;have d:=X_ wr #[.slice aa s.asks.length ca,.a s.on,M3,.a s.els,.a s.fall,.bool s.fin,.bool s.bad,.string s.give,M3,.a 0,M3,.a 0,.a 0,.bool true,.bool false,.string ⟨#[114]⟩] 128;have e:s.cases.length=0:=by rw[h.cases];rfl
 refine⟨_,2,rfl,Mj _,λi f=>?_⟩
 match i,f with
 |0,_=>
  refine⟨wr.heap.size,0,_,_,s.cells aa ca none 0,rfl,heap_alloc_new wr _,λj u b=>?_,⟨aa,ca,none,0,rfl,h.asks.same (u:=25) (.ax k) E8,.inl h.cases,h.room⟩,kD h.nil λ_=>⟨e,rfl⟩⟩;have c:j<8:=by have:=(Mr.1 b).1;simpa[Xq.cells] using this
  refine d j u ?_;rw[<-b];unfold Xq.cells;rw[e]
  match j,c with
  |0,_|1,_|2,_|3,_|4,_|5,_|6,_|7,_=>rfl
 |1,_=>
  refine⟨wr.heap.size,0,_,_,(bX ⟨#[114]⟩).cells none 0 none 0,rfl,heap_alloc_new wr _,λj u b=>?_,(tX _ _).g,pK _⟩;have c:j<8:=by have:=(Mr.1 b).1;simpa[Xq.cells] using this
  have:=d (8+j) u;rw[<-Nat.add_assoc] at this;refine this ?_;rw[<-b]
  match j,c with
  |0,_|1,_|2,_|3,_|4,_|5,_|6,_|7,_=>rfl
theorem Ac{α:Type}{p:α->Prop}{x y z:α}(h:x∈[y,z])(c:p y)(d:p z):p x:=by
 simp only[Nh,Ni,or_false] at h;rcases h with rfl|rfl
 .exact c
 .exact d
theorem dG.ring(w:NN)(b:NP)(l:List NL):dG (w.alloc (.cells #[b,.a 0,M3,.a 1,.a (-1),.bool false,.bool false,.string ⟨#[]⟩] 128)) w.heap.size b M3 ⟨l,0,[],1, -1,false,false,⟨#[]⟩⟩:=by
 have e:=X_ w #[b,.a 0,M3,.a 1,.a (-1),.bool false,.bool false,.string ⟨#[]⟩] 128;have a:∀j v,(#[b,.a 0,M3,.a 1,.a (-1),.bool false,.bool false,.string ⟨#[]⟩]:Array NP).toList[j]? =some v->M4 (w.alloc (.cells #[b,.a 0,M3,.a 1,.a (-1),.bool false,.bool false,.string ⟨#[]⟩] 128)) w.heap.size j v:=λj v f=>by
  have:=e j v f;rw[MR] at this;exact this
 exact⟨ay.made w _ _,a 0 _ rfl,a 1 _ rfl,a 2 _ rfl,a 3 _ rfl,a 4 _ rfl,a 5 _ rfl,a 6 _ rfl,a 7 _ rfl⟩
theorem Gq{w2:NN}(b:Rd wO rb a cap bs p)(k:K_ wO w2){x:NL}(h:x.size<=300):SSt wO ((w2.alloc (.cells #[.string x] 9)).alloc (.cells #[.b w2.heap.size 1 1,.a 0,M3,.a 1,.a (-1),.bool false,.bool false,.string ⟨#[]⟩] 128)) rb (w2.heap.size+1) a cap bs p (.b w2.heap.size 1 1) M3 ⟨[x],0,[],1, -1,false,false,⟨#[]⟩⟩:=by
 have i:K_ w2 (w2.alloc (.cells #[.string x] 9)):=ah _ _;have c:K_ (w2.alloc (.cells #[.string x] 9)) ((w2.alloc (.cells #[.string x] 9)).alloc (.cells #[.b w2.heap.size 1 1,.a 0,M3,.a 1,.a (-1),.bool false,.bool false,.string ⟨#[]⟩] 128)):=ah _ _;have K:=(k.trans i).trans c;have m:=k.size;have e:=dG.ring (w2.alloc (.cells #[.string x] 9)) (.b w2.heap.size 1 1) [x];rw[MZ] at e;have j:(w2.alloc (.cells #[.string x] 9)).ownsRow wO.heap.size 9 1 (.b w2.heap.size 1 1) 1 [.string x]:=⟨rfl,.inr ⟨w2.heap.size,1,_,rfl,k.size,heap_alloc_new w2 _,Mj _,F5,rfl,rfl⟩⟩;exact⟨b.kept K,⟨p,b⟩,E5,.ax K,e,au j c,Nj _ _ _ _,⟨by show 1<=20;omega,(λy f=>by simp at f;subst f;exact h),J9,Ml _,(λq l=>by simp at l),by show (-9223372036854775808:Int)<=1/\(1:Int)<=9223372036854775807;decide,by show (-1000:Int)<= -1/\(-1:Int)<=1000;decide,by show (0:Nat)<=300;omega⟩⟩
theorem gD.ring(h:SSt wO wr rb sb a cap bs p (.slice aa n ca) M3 s)(c:s.cases=[]):n=s.asks.length/\jL wO wr rb sb a cap bs p aa ca s:=by
 let⟨i,j,b,d,e⟩:=dw h.asks;simp only[Nb] at b;obtain⟨rfl,rfl,rfl⟩:=b;exact⟨rfl,h.rd,h.kb,h.sbl,h.box,e.g,d,λf=>by subst f;exact iV h.asks,c,h.tiny⟩
theorem gD.tail{g c:Nat}(h:SSt wO wr rb sb a cap bs p (.b g s.asks.length c) M3 s)(r:s.cases=[])(f:1<=s.asks.length)(i:aa=some ⟨g,0,none⟩/\c=1\/aa=some ⟨g,1,none⟩)(E:m+1=s.asks.length):jL wO (wr.setCell ⟨sb,0,none⟩ (.slice aa m (c-1))) rb sb a cap bs p aa (c-1) {s with asks:=s.asks.drop 1}:=by
 let⟨F,G,j,H,d⟩:=dw h.asks;simp only[Nb,true_and] at j;obtain⟨rfl,rfl⟩:=j;have k:Below wO.heap.size wr (wr.setCell ⟨sb,0,none⟩ (.slice aa m (c-1))):=(Below.refl _ _).setCell h.sbl _;let⟨I,t⟩:=h.rd0;have l:(s.asks.drop 1).length=m:=J8;have v:=h.box.asks (.slice aa m (c-1)) (s.asks.drop 1);rcases d with d|⟨b,J,K,n,w,x⟩
 .rw[d] at f;simp at f
 simp only[Na,NI,and_true] at n;subst n;have y:ou wr aa (s.asks.drop 1):=ou.tail (b:=g) (o:=0) w (λz A=>by rw[MR];exact x z A) (λB=>by
  rcases i with⟨_,e⟩|e
  .exact NB (NE (by rw[l];omega)) B
  .rw[MR];exact e)
 refine⟨h.rd.below t k h.kb.size,h.kb.below k,h.sbl,by show dG _ sb (.slice aa (s.asks.drop 1).length (c-1)) _ _;rw[l];exact v,y.same (h.box.row.same _) E8,by show (s.asks.drop 1).length<=c-1;omega,λe=>?_,r,⟨by show (s.asks.drop 1).length<=20;have:=h.tiny.asks;omega,λC D=>h.tiny.eQ C (List.mem_of_mem_drop D),h.tiny.on,h.tiny.cases,h.tiny.dH,h.tiny.els,h.tiny.fall,h.tiny.give⟩⟩;rcases i with⟨q,_⟩|q<;>(rw[q] at e;cases e)
theorem Ip :qD 137 400 20 60 700000:=by
 intro w p a r x b0 hR hp a9;have k0:K_ w (w.alloc (.cells #[M3] 25)):=ah _ _;have g0:Hid (Rd (w.alloc (.cells #[M3] 25)) p a r x b0):=hR.kept k0;have l8:=hR.row.lt;have b1:Hid (ay ((w.alloc (.cells #[M3] 25)).alloc (.cells #[M3] 25)) w.heap.size 25 1):=(ay.made w _ _).kept (ah _ _);have e2:=fZ.made (mN:=20) g0.o g0.o (Xj.refl _ _ _);rw[MZ] at e2;have⟨e4,i7⟩:=aH e2 hR;go_enter func137,ntmps137
 go_wp2_with fail
 refine (aN _ p a r x b0 _ 9 rfl e4.o.rd E5 E5 a9).mono ?_;rintro J w1 ⟨v1,rfl,l9,g3,e5⟩;have g4:=Kz (e4.o.drawn g3 e5);have g5:=Kz (b1.o.but e5 E5);obtain⟨n1,i8⟩:∃n1:Nat,n1=3+v1:=⟨_,rfl⟩;go_wp2
 go_loopg [5] n1 (λg H wr=>∃(k:Nat)(p':Nat)(v:NP)(a0:List Qz)(xs:List NP),H=.a (k:Int)/\k+g=n1/\a0.length=k/\b0<=p'/\p'<=b0+1+12*k/\ay wr w.heap.size 25 1/\fZ 20 (w.alloc (.cells #[M3] 25)) wr p (w.heap.size+1) a r x p' v a0 xs)
 case atStart=>exact⟨0,b0+1,_,[],[],rfl,E5,rfl,E5,E5,g5.o,g4.o⟩
 case round=>
  clear g4 g5;obtain⟨k,p7,v,a0,xs,rfl,hk,hL,m0,m1,g6,F⟩:=hrel;obtain⟨wO,rfl⟩:=aj wr;have⟨HO,j,b1⟩:=di F hL g6;obtain⟨av,cv,rfl⟩:=aF F.own;by_cases m2:(k:Int)<3+(v1:Int)
  .obtain⟨qm,e6⟩:∃qm:Nat,qm= (k+1) % n1:=⟨_,rfl⟩;have i9:((k:Int)+1).tmod (3+(v1:Int))= (qm:Int):=by rw[Int.tmod_eq_emod_of_nonneg E5,e6,i8];push_cast;rfl
   have m3:qm<n1:=by rw[e6];exact Nat.mod_lt _ E5
   have j0:((3+(v1:Int)) == 0)=false:=by rw[beq_eq_false_iff_ne];omega
   clear e6;go_wp2_with fail
   refine (jD _ qm _ F3 E5).mono ?_;rintro J b ⟨G,rfl,m4,k2⟩;have d3:=Kz (Gq HO.o.rd k2 (x:=G) E5);have m5:=k2.size;let⟨wS,e7⟩:=aj ((b.alloc (.cells #[.string G] 9)).alloc (.cells #[.b b.heap.size 1 1,.a 0,M3,.a 1,.a (-1),.bool false,.bool false,.string ⟨#[]⟩] 128));rw[<-e7] at d3;go_upto_region 7 with fail
   rw[<-e7];clear e7;go_wp2_with fail
   refine (aN _ p a r x p7 _ 3 rfl d3.o.rd E5 E5 a9).mono ?_;rintro J w3 ⟨v3,rfl,j1,g7,g8⟩;have d4:=Kz (d3.o.drawn g7 g8);go_upto_if 26 with fail
   go_cut [6,7] from 26 to 42 (λs6 _ wx=>∃(g b3:Nat)(s:Xq)(p':Nat),s6=.c (b.heap.size+1)/\p7<=p'/\p'<=p7+2/\1<=s.asks.length/\s.asks.length<=2/\s.cases=[]/\SSt wO wx p (b.heap.size+1) a r x p' (.b g s.asks.length b3) M3 s)
   case first=>
    by_cases h3:v3=0
    .have e3:((v3:Int) == 0)=true:=by simp[h3]
     clear h3;go_wp2_with fail
     refine (aN _ p a r x (p7+1) _ n1 E5 d4.o.rd E5 E5 a9).mono ?_;rintro J w4 ⟨v4,rfl,m6,g9,h0⟩;have L:=Kz (d4.o.drawn g9 h0);go_wp2_with fail
     refine (jD _ v4 _ rfl E5).mono ?_;rintro J w5 ⟨H,rfl,hx,h1⟩;have a1:=Kz (L.o.kept h1);have y0:=a1.o.box.c0;have yz:=a1.o.box.row.lt;let⟨_,e8⟩:=a1.o.box.cell (o:=0) E5;have j2:=a1.o.asks.cells (g:=b.heap.size) rfl 0 _ rfl;have m7:b.heap.size<w5.heap.size:=E5;rw[Nf,Ng] at j2;cases j3:(H.toList == G.toList)
     .have m8:=j3;let⟨ia,j4,j5,j6,j7⟩:=aT Tryz.gJ;have d5:Hid (K_ w5 (w5.alloc (.cells #[.string H] 9))):=ah _ _;have j8:=Kz (a1.o.kept d5.o).asks;have j9:=(a1.o.kept d5.o).kb.size;go_wp2_with (at_builtin;refine wpList_append_lies _ rfl (.tmp 38) (.tmp 40) 26 rfl wO.heap.size 9 ia _ 1 16 underlying26 j4 j5 j6 j7 rfl E8 (.b b.heap.size 1 1) 1 [.string G] rfl j8.o ⟨w5.heap.size,0,none⟩ 1 1 [.string H] rfl rfl (lu w5 H) (kM H) E5 F5 E5 j9 _ rfl ?_;intro g c6 w6 h4 e9 _ _;have d6:=a1.o.uG d5.o e9;have y2:=d6.c0;have z2:=d6.row.lt;let⟨_,f2⟩:=d6.cell (o:=0) E5;have k1:=Kz h4;have k3:=Kz e9;clear h4 e9 d6)
      go_meet
      exact⟨g,c6,⟨[G,H],0,[],1, -1,false,false,⟨#[]⟩⟩,p7+2,rfl,E5,E5,by show 1<= [G,H].length;simp,by show [G,H].length<=2;simp,rfl,a1.o.qj (x:=H) d5.o k1.o k3.o (by show 1+1<=20;omega) E5⟩
     .go_wp2
      go_meet
      exact⟨b.heap.size,1,⟨[G],0,[],1, -1,false,false,⟨#[]⟩⟩,p7+2,rfl,E5,E5,by show 1<= [G].length;simp,by show [G].length<=2;simp,rfl,a1.o⟩
    .have e3:((v3:Int) == 0)=false:=by simpa using h3
     clear h3;go_wp2
     go_meet
     exact⟨b.heap.size,1,⟨[G],0,[],1, -1,false,false,⟨#[]⟩⟩,p7+1,rfl,E5,E5,by show 1<= [G].length;simp,by show [G].length<=2;simp,rfl,d4.o⟩
   case rest=>
    obtain⟨g,b3,s0,M,rfl,m9,n0,k4,k5,h6,F⟩:=hcut;have⟨HT,b4⟩:=aH F h6;go_wp2_with fail
    refine (aN _ p a r x M _ 6 rfl HT.o.rd E5 E5 a9).mono ?_;rintro J w5 ⟨v5,rfl,k6,h7,h8⟩;have L:=Kz (HT.o.drawn h7 h8);obtain⟨b2,hm⟩:∃b2,b2+1=s0.asks.length:=⟨s0.asks.length-1,E5⟩;have y0:=L.o.box.c0;have yz:=L.o.box.row.lt;let⟨_,e8⟩:=L.o.box.cell (o:=0) E5;rw[<-hm] at y0;have HM:=Kz hm;have k7:b2<=1:=E5;have k8:b2+1<=b3:=by have:=(L.o.ring b4.o).2.room;omega
    clear hm k4 k5;go_upto_if 45 with fail
    go_cut [6] from 43 to 49 (λs6 wx=>∃(N:NM)(O:Nat)(s:Xq),s6=.c (b.heap.size+1)/\jL wO wx p (b.heap.size+1) a r x (M+1) N O s)
    case first=>
     by_cases h5:v5=0
     .have k9:((v5:Int) == 0)=true:=by simp[h5]
      clear h5;have i1:(1:Int)<=(b2:Int)+1:=E5;have i2:(1:Int)<=(b3:Int):=E5;by_cases l0:b3=1
      .subst l0;obtain rfl:b2=0:=E5;go_wp2
       go_meet
       exact⟨_,_,_,rfl,L.o.tail b4.o (by have:=HM.o;omega) (.inl ⟨rfl,rfl⟩) HM.o⟩
      .go_wp2
       go_meet
       exact⟨_,_,_,rfl,L.o.tail b4.o (by have:=HM.o;omega) (.inr rfl) HM.o⟩
     .have k9:((v5:Int) == 0)=false:=by simpa using h5
      clear h5;go_wp2
      go_meet
      exact⟨_,_,s0,rfl,(L.o.ring b4.o).2⟩
    case rest=>
     clear L b4 y0 yz e8 HM k7 k8 k6;obtain⟨N,O,s,rfl,F⟩:=hcut;obtain⟨wA,rfl⟩:=aj wc;have HT:=Kz F;have d7:=Kz (HO.o.drawn F.rd F.kb);have d8:w.heap.size<p\/p+1<=w.heap.size:=E5;have f0:=HO.o.rd.row.lt;have h9:=Kz (b1.o.but F.kb d8);have y5:=d7.o.c0;rw[j.o] at y5;have l1:=d7.o.row.lt;have n2:=F.sbl;let⟨f1,f3,f4,f5,f6⟩:=aT Tryz.nD;have n:Hid (∀(v:NN)(p' q':Nat),fZ 20 (w.alloc (.cells #[M3] 25)) v p (w.heap.size+1) a r x p' (.slice av a0.length cv) a0 xs->jL wO v p (b.heap.size+1) a r x q' N O s->(λ(v:NN)=>M4 v (w.heap.size+1) 0 (.slice av k cv)/\M4 v (b.heap.size+1) 0 (.slice N s.asks.length O)/\M4 v (b.heap.size+1) 1 (.a s.on)/\M4 v (b.heap.size+1) 2 M3/\M4 v (b.heap.size+1) 3 (.a s.els)/\M4 v (b.heap.size+1) 4 (.a s.fall)/\M4 v (b.heap.size+1) 5 (.bool s.fin)/\M4 v (b.heap.size+1) 6 (.bool s.bad)/\M4 v (b.heap.size+1) 7 (.string s.give)) v):=λv p' q' l2 h2=>⟨by rw[<-j.o];exact l2.c0,h2.box.c0,h2.box.c1,h2.box.c2,h2.box.c3,h2.box.c4,h2.box.c5,h2.box.c6,h2.box.c7⟩
     have KD:=aY wA;have d9:=Kz (d7.o.kept KD);have b5:=Kz (HT.o.kept KD);have f7:=Kz (h9.o.kept KD);go_upto_region 13 with fail
     refine Qk.region F4 (λ(v:NN)=>M4 v (w.heap.size+1) 0 (.slice av k cv)/\M4 v (b.heap.size+1) 0 (.slice N s.asks.length O)/\M4 v (b.heap.size+1) 1 (.a s.on)/\M4 v (b.heap.size+1) 2 M3/\M4 v (b.heap.size+1) 3 (.a s.els)/\M4 v (b.heap.size+1) 4 (.a s.fall)/\M4 v (b.heap.size+1) 5 (.bool s.fin)/\M4 v (b.heap.size+1) 6 (.bool s.bad)/\M4 v (b.heap.size+1) 7 (.string s.give)) 15 (n.o _ _ _ d9.o b5.o) λe=>?_;generalize l3:wA.drew=wd at e d9 b5 f7⊢;clear l3 KD d7 HT h9 y5 l1;refine ae 0 e ?_;refine ae 1 e ?_;refine ae 2 e ?_;refine ae 4 e ?_;refine ae 7 e ?_;refine ae 8 e ?_;refine fP 3 9 (λK c=>?_) (λK c=>?_)
     .rw[Nz F7];go_simp
      go_at_call 34
      refine (jD _ k _ rfl E5).mono ?_;rintro J wl ⟨m,rfl,l4,kl⟩;have P:=Kz (d9.o.kept kl);have a2:=Kz (b5.o.kept kl);have e0:=Kz (f7.o.kept kl)
      skip
      dsimp only;refine c.out _ _ (λ_=>n.o _ _ _ P.o a2.o) ?_;have e:=n.o _ _ _ P.o a2.o;try simp only[upP]
      refine fP 5 9 (λK c=>?_) (λK c=>?_)
      .rw[Nz F7];go_simp
       go_at_call 35
       refine (aN _ p a r x (M+1) _ 4 rfl P.o.rd E5 E5 a9).mono ?_;rintro J Q ⟨f,rfl,i0,R,y⟩;have z:=Kz (P.o.drawn R y);have I:=Kz (a2.o.drawn f0 R y);have b6:=Kz (e0.o.but y d8)
       skip
       dsimp only;refine c.out _ _ (λ_=>n.o _ _ _ z.o I.o) ?_;have e:=n.o _ _ _ z.o I.o;try simp only[upP]
       have ew:IntKind.i64.wrap (1+(f:Int))=1+(f:Int):=G6;refine cK 6 (.a (1+(f:Int))) e ?_ ?_
       .intro u hu;try dsimp only at hu
        go_simp
        try with_reducible rfl
       try simp only[upP]
       clear ew;refine ai 9 λK c=>?_;go_simp
       let⟨S,T⟩:=aj Q.heap.size;let⟨wb,B⟩:=aj (Q.alloc (.cells #[.slice N s.asks.length O,.a s.on,M3,.a s.els,.a s.fall,.bool s.fin,.bool s.bad,.string s.give,M3,.a 0,M3,.a 0,.a 0,.bool true,.bool false,.string ⟨#[114]⟩] 128));have C:K_ Q wb:=by rw[B];exact ah _ _
       have U:=I.o.steps;rw[<-B,<-T] at U;have b7:=Kz U;have A:=Kz (z.o.kept C);have V:=Kz (I.o.kept C);have b8:=Kz (b6.o.kept C);rw[<-B,<-T];refine c.out _ _ (λ_=>n.o _ _ _ A.o V.o) ?_;clear c K e U B T C;have e:=n.o _ _ _ A.o V.o;try simp only[upP]
       refine ae 10 e ?_;refine ae 11 e ?_;refine ai 12 λK c=>?_;go_simp
       have l:K_ wb (wb.alloc (.cells #[.string m,.a (1+(f:Int)),.b S 2 2] 33)):=ah _ _;have W:=Kz (A.o.kept l);have X:=Kz (V.o.kept l);refine af c (λ_=>n.o _ _ _ W.o X.o) ?_;refine ai 13 λK c=>?_;have D:=W.o.own;rw[j.o] at D;have b9:=W.o.kb.size;have c8:Hid (Qz.TinyN 20 ⟨m,1+(f:Int),[s,bX ⟨#[114]⟩]⟩):=⟨by show m.size<=300;omega,by show -1000<=1+(f:Int)/\1+(f:Int)<=1000;omega,by show 2<=21;omega,λa3 hy=>Ac (p:=λa3=>a3.TinyN 20) hy X.o.tiny (iX (g:=⟨#[114]⟩) (show (1:Nat)<=300 by omega))⟩;refine step_append_lies _ rfl (.tmp 51) (.tmp 62) 23 rfl (w.alloc (.cells #[M3] 25)).heap.size 33 f1 _ 3 48 underlying23 f3 f4 f5 f6 rfl E8 (.slice av k cv) k xs F9 D ⟨wb.heap.size,0,none⟩ 1 1 [.string m,.a (1+(f:Int)),.b S 2 2] F9 rfl (nT _ _ _ _) (n_ _ _ _ _ _) E5 F5 E5 b9 _ rfl ?_;intro g a4 Y a5 E c9 i3;have q:=A.o.fQ l (by rw[j.o];exact E);have y6:=q.1;rw[j.o] at y6;have i4:=q.2.lt;have i5:=(q.2.row.at (i:=0) E5).2;let⟨vo,i6⟩:=(q.2.row.at (i:=0) E5).1;have a6:=b7.o.same (u:=25) (.ax l) E8 E8 E8;have d0:Hid (fZ 20 (w.alloc (.cells #[M3] 25)) (Y.setCell ⟨w.heap.size+1,0,none⟩ (.b g (k+1) a4)) p (w.heap.size+1) a r x (M+2) (.b g (k+1) a4) (a0++[⟨m,1+(f:Int),[s,bX ⟨#[114]⟩]⟩]) (xs++[.string m,.a (1+(f:Int)),.b S 2 2])):=
        A.o.push (d:=⟨m,1+(f:Int),[s,bX ⟨#[114]⟩]⟩) l a6 c8.o (by rw[j.o];exact a5) (by rw[j.o];exact E)
       have Z:=aD.aI D E;have d1:Hid (ay Y w.heap.size 25 1):=by
        let⟨a7,g1,g2⟩:=b8.o.kept l;exact⟨a7,Z _ a7 _ _ E8 g1,g2⟩
       have h:=X.o.box.same Z E8;have a8:(λ(v:NN)=>M4 v (w.heap.size+1) 0 (.slice av k cv)/\M4 v (b.heap.size+1) 0 (.slice N s.asks.length O)/\M4 v (b.heap.size+1) 1 (.a s.on)/\M4 v (b.heap.size+1) 2 M3/\M4 v (b.heap.size+1) 3 (.a s.els)/\M4 v (b.heap.size+1) 4 (.a s.fall)/\M4 v (b.heap.size+1) 5 (.bool s.fin)/\M4 v (b.heap.size+1) 6 (.bool s.bad)/\M4 v (b.heap.size+1) 7 (.string s.give)) Y:=⟨y6,h.c0,h.c1,h.c2,h.c3,h.c4,h.c5,h.c6,h.c7⟩;clear q D a5 E c9 Z l a6 h;refine af c (λ_=>a8) ?_;have e:=a8;refine ae 14 e ?_;refine ai 15 λK c=>?_;go_simp
       refine af c (λd2=>NB rfl d2) ?_;refine aC ?_;go_wp2
       go_roundg (gk-1)
       case rel=>exact⟨k+1,M+2,_,_,_,F3,E5,by rw[M_,j.o];rfl,E5,E5,d1.o.block (Below.heap_setCell _ _ _ _ E9),d0.o⟩
       case measure=>omega
      .go_simp
       let⟨S,T⟩:=aj wl.heap.size;let⟨wb,B⟩:=aj (wl.alloc (.cells #[.slice N s.asks.length O,.a s.on,M3,.a s.els,.a s.fall,.bool s.fin,.bool s.bad,.string s.give,M3,.a 0,M3,.a 0,.a 0,.bool true,.bool false,.string ⟨#[114]⟩] 128));have C:K_ wl wb:=by rw[B];exact ah _ _
       have U:=a2.o.steps;rw[<-B,<-T] at U;have b7:=Kz U;have A:=Kz (P.o.kept C);have V:=Kz (a2.o.kept C);have b8:=Kz (e0.o.kept C);rw[<-B,<-T];refine c.out _ _ (λ_=>n.o _ _ _ A.o V.o) ?_;clear c K e U B T C;have e:=n.o _ _ _ A.o V.o;try simp only[upP]
       refine aG 5 λK c=>?_;go_simp
       go_at_call 35
       refine (aN _ p a r x (M+1) _ 4 rfl A.o.rd E5 E5 a9).mono ?_;rintro J Q ⟨f,rfl,i0,R,y⟩;have z:=Kz (A.o.drawn R y);have I:=Kz (V.o.drawn f0 R y);have b6:=Kz (b8.o.but y d8);have f8:=Kz (b7.o.same (y.sameKind A.o.rd) E8 E8 E8);dsimp only;refine c.out _ _ (λ_=>n.o _ _ _ z.o I.o) ?_;have e:=n.o _ _ _ z.o I.o;try simp only[upP]
       have ew:IntKind.i64.wrap (1+(f:Int))=1+(f:Int):=G6;refine cK 6 (.a (1+(f:Int))) e ?_ ?_
       .intro u hu;try dsimp only at hu
        go_simp
        try with_reducible rfl
       try simp only[upP]
       clear ew;refine ae 10 e ?_;refine ae 11 e ?_;refine ai 12 λK c=>?_;go_simp
       have l:K_ Q (Q.alloc (.cells #[.string m,.a (1+(f:Int)),.b S 2 2] 33)):=ah _ _;have W:=Kz (z.o.kept l);have X:=Kz (I.o.kept l);refine af c (λ_=>n.o _ _ _ W.o X.o) ?_;refine ai 13 λK c=>?_;have D:=W.o.own;rw[j.o] at D;have b9:=W.o.kb.size;have c8:Hid (Qz.TinyN 20 ⟨m,1+(f:Int),[s,bX ⟨#[114]⟩]⟩):=⟨by show m.size<=300;omega,by show -1000<=1+(f:Int)/\1+(f:Int)<=1000;omega,by show 2<=21;omega,λa3 hy=>Ac (p:=λa3=>a3.TinyN 20) hy X.o.tiny (iX (g:=⟨#[114]⟩) (show (1:Nat)<=300 by omega))⟩;refine step_append_lies _ rfl (.tmp 51) (.tmp 62) 23 rfl (w.alloc (.cells #[M3] 25)).heap.size 33 f1 _ 3 48 underlying23 f3 f4 f5 f6 rfl E8 (.slice av k cv) k xs F9 D ⟨Q.heap.size,0,none⟩ 1 1 [.string m,.a (1+(f:Int)),.b S 2 2] F9 rfl (nT _ _ _ _) (n_ _ _ _ _ _) E5 F5 E5 b9 _ rfl ?_;intro g a4 Y a5 E c9 i3;have q:=z.o.fQ l (by rw[j.o];exact E);have y6:=q.1;rw[j.o] at y6;have i4:=q.2.lt;have i5:=(q.2.row.at (i:=0) E5).2;let⟨vo,i6⟩:=(q.2.row.at (i:=0) E5).1;have a6:=f8.o.same (u:=25) (.ax l) E8 E8 E8;have d0:Hid (fZ 20 (w.alloc (.cells #[M3] 25)) (Y.setCell ⟨w.heap.size+1,0,none⟩ (.b g (k+1) a4)) p (w.heap.size+1) a r x (M+2) (.b g (k+1) a4) (a0++[⟨m,1+(f:Int),[s,bX ⟨#[114]⟩]⟩]) (xs++[.string m,.a (1+(f:Int)),.b S 2 2])):=
        z.o.push (d:=⟨m,1+(f:Int),[s,bX ⟨#[114]⟩]⟩) l a6 c8.o (by rw[j.o];exact a5) (by rw[j.o];exact E)
       have Z:=aD.aI D E;have d1:Hid (ay Y w.heap.size 25 1):=by
        let⟨a7,g1,g2⟩:=b6.o.kept l;exact⟨a7,Z _ a7 _ _ E8 g1,g2⟩
       have h:=X.o.box.same Z E8;have a8:(λ(v:NN)=>M4 v (w.heap.size+1) 0 (.slice av k cv)/\M4 v (b.heap.size+1) 0 (.slice N s.asks.length O)/\M4 v (b.heap.size+1) 1 (.a s.on)/\M4 v (b.heap.size+1) 2 M3/\M4 v (b.heap.size+1) 3 (.a s.els)/\M4 v (b.heap.size+1) 4 (.a s.fall)/\M4 v (b.heap.size+1) 5 (.bool s.fin)/\M4 v (b.heap.size+1) 6 (.bool s.bad)/\M4 v (b.heap.size+1) 7 (.string s.give)) Y:=⟨y6,h.c0,h.c1,h.c2,h.c3,h.c4,h.c5,h.c6,h.c7⟩;clear q D a5 E c9 Z l a6 h;refine af c (λ_=>a8) ?_;have e:=a8;refine ae 14 e ?_;refine ai 15 λK c=>?_;go_simp
       refine af c (λd2=>NB rfl d2) ?_;refine aC ?_;go_wp2
       go_roundg (gk-1)
       case rel=>exact⟨k+1,M+2,_,_,_,F3,E5,by rw[M_,j.o];rfl,E5,E5,d1.o.block (Below.heap_setCell _ _ _ _ E9),d0.o⟩
       case measure=>omega
     .go_simp
      let⟨S,T⟩:=aj wd.heap.size;let⟨wb,B⟩:=aj (wd.alloc (.cells #[.slice N s.asks.length O,.a s.on,M3,.a s.els,.a s.fall,.bool s.fin,.bool s.bad,.string s.give,M3,.a 0,M3,.a 0,.a 0,.bool true,.bool false,.string ⟨#[114]⟩] 128));have C:K_ wd wb:=by rw[B];exact ah _ _
      have U:=b5.o.steps;rw[<-B,<-T] at U;have b7:=Kz U;have A:=Kz (d9.o.kept C);have V:=Kz (b5.o.kept C);have b8:=Kz (f7.o.kept C);rw[<-B,<-T];refine c.out _ _ (λ_=>n.o _ _ _ A.o V.o) ?_;clear c K e U B T C;have e:=n.o _ _ _ A.o V.o;try simp only[upP]
      refine aG 3 λK c=>?_;go_simp
      go_at_call 34
      refine (jD _ k _ rfl E5).mono ?_;rintro J wl ⟨m,rfl,l4,kl⟩;have P:=Kz (A.o.kept kl);have a2:=Kz (V.o.kept kl);have e0:=Kz (b8.o.kept kl);have l5:=Kz (b7.o.same (u:=25) (.ax kl) E8 E8 E8);dsimp only;refine c.out _ _ (λ_=>n.o _ _ _ P.o a2.o) ?_;have e:=n.o _ _ _ P.o a2.o;try simp only[upP]
      refine aG 5 λK c=>?_;go_simp
      go_at_call 35
      refine (aN _ p a r x (M+1) _ 4 rfl P.o.rd E5 E5 a9).mono ?_;rintro J Q ⟨f,rfl,i0,R,y⟩;have z:=Kz (P.o.drawn R y);have I:=Kz (a2.o.drawn f0 R y);have b6:=Kz (e0.o.but y d8);have f8:=Kz (l5.o.same (y.sameKind P.o.rd) E8 E8 E8);dsimp only;refine c.out _ _ (λ_=>n.o _ _ _ z.o I.o) ?_;have e:=n.o _ _ _ z.o I.o;try simp only[upP]
      have ew:IntKind.i64.wrap (1+(f:Int))=1+(f:Int):=G6;refine cK 6 (.a (1+(f:Int))) e ?_ ?_
      .intro u hu;try dsimp only at hu
       go_simp
       try with_reducible rfl
      try simp only[upP]
      clear ew;refine ae 10 e ?_;refine ae 11 e ?_;refine ai 12 λK c=>?_;go_simp
      have l:K_ Q (Q.alloc (.cells #[.string m,.a (1+(f:Int)),.b S 2 2] 33)):=ah _ _;have W:=Kz (z.o.kept l);have X:=Kz (I.o.kept l);refine af c (λ_=>n.o _ _ _ W.o X.o) ?_;refine ai 13 λK c=>?_;have D:=W.o.own;rw[j.o] at D;have b9:=W.o.kb.size;have c8:Hid (Qz.TinyN 20 ⟨m,1+(f:Int),[s,bX ⟨#[114]⟩]⟩):=⟨by show m.size<=300;omega,by show -1000<=1+(f:Int)/\1+(f:Int)<=1000;omega,by show 2<=21;omega,λa3 hy=>Ac (p:=λa3=>a3.TinyN 20) hy X.o.tiny (iX (g:=⟨#[114]⟩) (show (1:Nat)<=300 by omega))⟩;refine step_append_lies _ rfl (.tmp 51) (.tmp 62) 23 rfl (w.alloc (.cells #[M3] 25)).heap.size 33 f1 _ 3 48 underlying23 f3 f4 f5 f6 rfl E8 (.slice av k cv) k xs F9 D ⟨Q.heap.size,0,none⟩ 1 1 [.string m,.a (1+(f:Int)),.b S 2 2] F9 rfl (nT _ _ _ _) (n_ _ _ _ _ _) E5 F5 E5 b9 _ rfl ?_;intro g a4 Y a5 E c9 i3;have q:=z.o.fQ l (by rw[j.o];exact E);have y6:=q.1;rw[j.o] at y6;have i4:=q.2.lt;have i5:=(q.2.row.at (i:=0) E5).2;let⟨vo,i6⟩:=(q.2.row.at (i:=0) E5).1;have a6:=f8.o.same (u:=25) (.ax l) E8 E8 E8;have d0:Hid (fZ 20 (w.alloc (.cells #[M3] 25)) (Y.setCell ⟨w.heap.size+1,0,none⟩ (.b g (k+1) a4)) p (w.heap.size+1) a r x (M+2) (.b g (k+1) a4) (a0++[⟨m,1+(f:Int),[s,bX ⟨#[114]⟩]⟩]) (xs++[.string m,.a (1+(f:Int)),.b S 2 2])):=
       z.o.push (d:=⟨m,1+(f:Int),[s,bX ⟨#[114]⟩]⟩) l a6 c8.o (by rw[j.o];exact a5) (by rw[j.o];exact E)
      have Z:=aD.aI D E;have d1:Hid (ay Y w.heap.size 25 1):=by
       let⟨a7,g1,g2⟩:=b6.o.kept l;exact⟨a7,Z _ a7 _ _ E8 g1,g2⟩
      have h:=X.o.box.same Z E8;have a8:(λ(v:NN)=>M4 v (w.heap.size+1) 0 (.slice av k cv)/\M4 v (b.heap.size+1) 0 (.slice N s.asks.length O)/\M4 v (b.heap.size+1) 1 (.a s.on)/\M4 v (b.heap.size+1) 2 M3/\M4 v (b.heap.size+1) 3 (.a s.els)/\M4 v (b.heap.size+1) 4 (.a s.fall)/\M4 v (b.heap.size+1) 5 (.bool s.fin)/\M4 v (b.heap.size+1) 6 (.bool s.bad)/\M4 v (b.heap.size+1) 7 (.string s.give)) Y:=⟨y6,h.c0,h.c1,h.c2,h.c3,h.c4,h.c5,h.c6,h.c7⟩;clear q D a5 E c9 Z l a6 h;refine af c (λ_=>a8) ?_;have e:=a8;refine ae 14 e ?_;refine ai 15 λK c=>?_;go_simp
      refine af c (λd2=>NB rfl d2) ?_;refine aC ?_;go_wp2
      go_roundg (gk-1)
      case rel=>exact⟨k+1,M+2,_,_,_,F3,E5,by rw[M_,j.o];rfl,E5,E5,d1.o.block (Below.heap_setCell _ _ _ _ E9),d0.o⟩
      case measure=>omega
  .have y0:=HO.o.c0;rw[j.o] at y0;have zb:=HO.o.row.lt;have hG:=HO.o.web;rw[j.o] at hG;have f9:=uW wO av cv a0 (mN:=20) E5 (by have:=j.o;omega) HO.o.tiny (by rw[j.o];exact hG);rw[j.o] at f9;have l6:=Kz f9;go_wp2_with fail
   refine l6.o.mono ?_;intro J w6 hs;obtain⟨va,vn,vc,rfl,e1,hD⟩:=HO.o.sorted (p:=b0) (t:=400) hs b1.o (Mj _) k0 i7.o E5 E5;have⟨HD,l7⟩:=aH hD e1;have z6:=e1.lt;let⟨⟨_,u0⟩,e8⟩:=e1.row.at (i:=0) E5;go_wp2
   have hR:=Mo w6 w.heap.size 0 [.slice va vn vc] (l7.o.row.there (o:=0) (m:=1) (Mj _));exact Zx [.slice va vn vc] _ results137 rfl hR underlying25 rfl Tryz.gZ rfl HD.o
theorem H_ :qD 138 400 20 60 700000:=by
 intro w l a C D H T hp Z;have k0:K_ w (w.alloc (.cells #[M3] 25)):=ah _ _;have d5:Hid (Rd (w.alloc (.cells #[M3] 25)) l a C D H):=T.kept k0;have j5:=T.row.lt;have Q:Hid (ay ((w.alloc (.cells #[M3] 25)).alloc (.cells #[M3] 25)) w.heap.size 25 1):=(ay.made w _ _).kept (ah _ _);have b7:=fZ.made (mN:=20) d5.o d5.o (Xj.refl _ _ _);rw[MZ] at b7;have⟨b8,g6⟩:=aH b7 T;clear T b7;go_enter func138,ntmps138
 go_wp2_with fail
 refine (aN _ l a C D H _ 14 rfl b8.o.rd E5 E5 Z).mono ?_;rintro e w1 ⟨v1,rfl,j6,d6,b9⟩;have d7:=Kz (b8.o.drawn d6 b9);have d8:=Kz (Q.o.but b9 E5);obtain⟨n1,j7⟩:∃n1:Nat,n1=12+v1:=⟨_,rfl⟩;clear d6 b9 b8 Q;go_wp2
 go_loopg [5] n1 (λg x wr=>∃(k:Nat)(p':Nat)(v:NP)(a0:List Qz)(xs:List NP),x=.a (k:Int)/\k+g=n1/\a0.length=k/\H<=p'/\p'<=H+1+12*k/\ay wr w.heap.size 25 1/\fZ 20 (w.alloc (.cells #[M3] 25)) wr l (w.heap.size+1) a C D p' v a0 xs)
 case atStart=>exact⟨0,H+1,_,[],[],rfl,E5,rfl,E5,E5,d8.o,d7.o⟩
 case round=>
  clear d7 d8;obtain⟨k,p7,v,a0,xs,rfl,hk,hL,j8,j9,d9,f⟩:=hrel;obtain⟨wO,rfl⟩:=aj wr;obtain⟨gO,rfl⟩:=aj gk;have⟨I,n,Q⟩:=di f hL d9;obtain⟨av,cv,rfl⟩:=aF f.own;clear f hL d9;by_cases k1:(k:Int)<12+(v1:Int)
  .go_wp2_with fail
   refine (aN _ l a C D p7 _ 9 rfl I.o.rd E5 E5 Z).mono ?_;rintro e J ⟨j,rfl,k2,e0,e1⟩;have c3:=Kz (ASt.made I.o.rd e0 e1 (1+(j:Int)));clear e0 e1;go_wp2_with fail
   refine (aN _ l a C D (p7+1) _ 3 rfl c3.o.rd E5 E5 Z).mono ?_;rintro e w3 ⟨a2,rfl,hq,e2,e3⟩;have e4:=Kz (c3.o.drawn e2 e3);clear e2 e3 c3;go_wp2
   go_loopg [7] a2 (λg x wr=>∃(p':Nat)(v:NP)(c:List Xq)(ys:List NP),x=.a (g:Int)/\g<=a2/\H<=p'/\p'+5*g<=p7+2+5*a2/\c.length+g<=a2/\ASt wO wr l J.heap.size a C D p' (1+(j:Int)) v c ys)
   case atStart=>exact⟨p7+2,_,[],[],rfl,Mj _,E5,E5,E9,e4.o⟩
   case round=>
    clear e4;obtain⟨p8,vs,c,ys,rfl,k3,k4,k5,k7,f⟩:=hrel;obtain⟨K,rfl⟩:=aj wr;obtain⟨gI,rfl⟩:=aj gk;have L:=Kz f;obtain⟨sv,sc,rfl⟩:=aF f.own;have a1:=f.c1;have az:=f.row.lt;clear f;by_cases g7:(0:Int)<(gI:Int)
    .have g8:c.length<=3:=E5;have c4:=Kz (SSt.made L.o.rd (els:=(c.length:Int)+1) (fall:= -1) E5 E5);go_wp2_with fail
     refine (aN _ l a C D p8 _ 4 rfl c4.o.rd E5 E5 Z).mono ?_;rintro e w4 ⟨q2,rfl,k8,e5,e6⟩;have e7:=Kz (c4.o.drawn e5 e6);clear e5 e6 c4;go_wp2
     go_loopg [9] (1+q2) (λg x wr=>∃(va:NP)(s:Xq)(p':Nat),x=.a (g:Int)/\g<=1+q2/\H<=p'/\p'+g<=p8+2+q2/\s.asks.length+g<=4/\s.cases=[]/\SSt K wr l K.heap.size a C D p' va M3 s)
     case atStart=>exact⟨_,_,p8+1,F3,Mj _,E5,E5,by show 0+(1+q2)<=4;omega,rfl,e7.o⟩
     case round=>
      clear e7;obtain⟨va,s,p9,rfl,k9,l0,l1,l2,e8,f⟩:=hrel;have⟨M,f0⟩:=aH f e8;clear f e8;go_upto_region 12 with fail
      go_cut [43] from 38 to 43 (λg9 wx=>∃b:Bool,g9=.bool b/\wx=wr/\(b=true->0<gk/\0<k))
      case first=>
       by_cases l3:(0:Int)<(gk:Int)
       .by_cases h2:(0:Int)<(k:Int)
        .go_wp2
         go_meet
         exact⟨_,rfl,rfl,λ_=>⟨E5,E5⟩⟩
        .go_wp2
         go_meet
         exact⟨_,rfl,rfl,λa3=>by simp at a3;omega⟩
       .go_wp2
        go_meet
        exact⟨false,rfl,rfl,λa3=>by cases a3⟩
      case rest=>
       obtain⟨b,rfl,rfl,hb⟩:=hcut;have HB:=Kz hb;clear hb;cases b
       .obtain⟨wJ,rfl⟩:=aj wc;have U:=Kz (L.o.drawn M.o.rd M.o.kb);obtain⟨aa,ca,a5,a6,rfl,f1,hT⟩:=M.o.cells;have p:=Kz M.o;rw[f1] at p;have HT:=Kz hT;clear hT f1 M;have c0:=p.o.box.c0;have c1:=p.o.box.c1;have c2:=p.o.box.c2;have l4:=p.o.box.c3;have l5:=p.o.box.c4;have c5:=p.o.box.c5;have l6:=p.o.box.c6;have l7:=p.o.box.c7;have cz:=p.o.box.row.lt;have b1:=U.o.c1;have bz:=U.o.row.lt;have h:Hid (K_ wJ (wJ.alloc (.cells #[.slice aa s.asks.length ca,.a s.on,.slice a5 s.cases.length a6,.a s.els,.a s.fall,.bool s.fin,.bool s.bad,.string s.give] 128))):=ah _ _;have V:=Kz (U.o.kept h.o).own;have a7:=Kz (U.o.kept h.o).kb.size;have a8:=Kz (ET wJ #[.slice aa s.asks.length ca,.a s.on,.slice a5 s.cases.length a6,.a s.els,.a s.fall,.bool s.fin,.bool s.bad,.string s.give]);obtain⟨ic,c6,c7,c8,d0⟩:=aT Tryz.kH;go_wp2_with (at_builtin;refine wpList_append_own _ rfl (.tmp 62) (.tmp 64) 29 rfl wO.heap.size 128 ic _ 8 96 underlying29 c6 c7 c8 d0 rfl E8 (.slice sv c.length sc) c.length ys rfl V.o ⟨wJ.heap.size,0,none⟩ 1 1 (s.cells aa ca a5 a6) rfl rfl a8.o (jm s aa ca a5 a6) F5 E5 a7.o ?_;intro v' w5 r y _;have q:=U.o.fQ h.o y;have z2:=q.2.lt;obtain⟨⟨_,y2⟩,f2⟩:=q.2.row.at (i:=1) E5;have W:=Kz r;obtain⟨N,O,rfl⟩:=aF r;have X:=Kz y;clear r y q)
        go_roundg (gI-1)
        case measure=>omega
        case rel=>exact⟨p9,_,c++[s],_,F3,E5,E5,E5,by rw[M_];show c.length+1+(gI-1)<=a2;omega,U.o.push h.o HT.o p.o.tiny (p.o.oJ rfl rfl) W.o X.o⟩
       .obtain⟨l8,l9⟩:=HB.o rfl;obtain⟨wJ,rfl⟩:=aj wc;go_wp2_with fail
        refine (oQ _ l a C D p9 k M.o.rd E5 E5 Z).mono ?_;rintro e w5 ⟨v5,rfl,m0,f3,f4⟩;have f5:=Kz (M.o.drawn f3 f4);clear f3 f4 M;go_wp2_with fail
        refine (jD _ v5 _ rfl E5).mono ?_;rintro e G ⟨x,rfl,hx,k6⟩;have z:=Kz (f5.o.kept k6);clear k6 f5;obtain⟨d1,f6,rfl⟩:=aF z.o.asks;have y0:=z.o.box.c0;have yz:=z.o.box.row.lt;obtain⟨_,h0⟩:=z.o.box.cell (o:=0) E5;have m1:s.asks.length<=20:=z.o.tiny.asks;have h1:Hid (Strs G d1 s.asks):=by
         obtain⟨a9,c9,e9,_,hT⟩:=dw z.o.asks;simp only[Nb] at e9;obtain⟨rfl,_,rfl⟩:=e9;exact hT.strs
        go_wp2_with fail
        refine (uE _ d1 f6 s.asks x E5 h1.o).mono ?_;rintro e w7 ⟨⟨r7,rfl,_⟩,rfl⟩;cases r7
        .obtain⟨ia,h3,h4,h5,h6⟩:=aT Tryz.gJ;have h:Hid (K_ w7 (w7.alloc (.cells #[.string x] 9))):=ah _ _;have V:=Kz (z.o.kept h.o).asks;have h7:K.heap.size<=(w7.alloc (.cells #[.string x] 9)).heap.size:=(z.o.kept h.o).kb.size;go_wp2_with (at_builtin;refine wpList_append_own _ rfl (.tmp 56) (.tmp 58) 26 rfl K.heap.size 9 ia _ 1 16 underlying26 h3 h4 h5 h6 rfl E8 (.slice d1 s.asks.length f6) s.asks.length (s.asks.map Value.string) rfl V.o ⟨w7.heap.size,0,none⟩ 1 1 [.string x] rfl rfl (lu w7 x) (kM x) F5 E5 h7 ?_;intro v' w8 r y _;have q:=z.o.uG h.o y;have y2:=q.c0;have z2:=q.row.lt;obtain⟨_,f2⟩:=q.cell (o:=0) E5;have W:=Kz r;obtain⟨m2,m3,rfl⟩:=aF r;have X:=Kz y;clear r y q)
         .rename_i hfz
          rw[f2] at hfz;cases hfz
         go_roundg (gk-1)
         case measure=>omega
         case rel=>exact⟨_,{s with asks:=s.asks++[x]},p9+1,F3,E5,E5,E5,by show (s.asks++[x]).length+(gk-1)<=4;rw[M_];show s.asks.length+1+(gk-1)<=4;omega,f0.o,z.o.qj h.o W.o X.o E5 E5⟩
        .go_wp2
         go_roundg (gk-1)
         case measure=>omega
         case rel=>exact⟨_,s,p9+1,F3,E5,E5,E5,E5,f0.o,z.o⟩
    .have m4:¬(0:Int)<(gI:Int):=g7;have g8:c.length<=3:=E5;obtain⟨ic,c6,c7,c8,d0⟩:=aT Tryz.kH;have h:Hid (K_ K (K.alloc (.cells #[M3,.a 0,M3,.a 0,.a 0,.bool true,.bool false,.string ⟨#[119]⟩] 128))):=ah _ _;have V:=Kz (L.o.kept h.o).own;have a7:=Kz (L.o.kept h.o).kb.size;have a8:=Kz (ET K #[M3,.a 0,M3,.a 0,.a 0,.bool true,.bool false,.string ⟨#[119]⟩]);have h8:=Kz L.o;go_upto_region 19 with (at_builtin;refine wpList_append_own _ rfl (.tmp 68) (.tmp 70) 29 rfl wO.heap.size 128 ic _ 8 96 underlying29 c6 c7 c8 d0 rfl E8 (.slice sv c.length sc) c.length ys rfl V.o ⟨K.heap.size,0,none⟩ 1 1 ((bX ⟨#[119]⟩).cells none 0 none 0) rfl rfl a8.o (jm (bX ⟨#[119]⟩) none 0 none 0) F5 E5 a7.o ?_;intro v' w5 r y _;have q:=L.o.fQ h.o y;have z2:=q.2.lt;obtain⟨⟨_,y2⟩,f2⟩:=q.2.row.at (i:=1) E5;have W:=Kz r;obtain⟨N,O,rfl⟩:=aF r;have X:=Kz y;clear r y q)
     have A:=L.o.push h.o (tX _ ⟨#[119]⟩) (iX (show (1:Nat)<=300 by omega)) (pK _) W.o X.o;have b0:(c++[bX ⟨#[119]⟩]).length=c.length+1:=E9;obtain⟨LT,f7⟩:=aj (c++[bX ⟨#[119]⟩]);rw[<-f7] at A b0;obtain⟨P,f8⟩:=aj (c.length+1);rw[<-f8] at A b0⊢;obtain⟨wA,f9⟩:=aj (w5.setCell ⟨J.heap.size,1,none⟩ (.slice N P O));rw[<-f9] at A⊢;have⟨d2,h9⟩:=aH A b0;have m5:P<=4:=E5;have Y:=Kz (I.o.drawn A.rd A.kb);have i0:w.heap.size<l\/l+1<=w.heap.size:=E5;have i1:=Kz (Q.o.but A.kb i0);have q0:=A.c0;have q1:=A.c1;have qz:=A.row.lt;have y5:=Y.o.c0;rw[n.o] at y5;have i2:=Y.o.row.lt;have m6:w.heap.size≠w.heap.size+1:=E5;clear f7 f8 b0 f9 A W X V a8 a7 h L h8 a1 az z2 y2 f2 Q;obtain⟨i3,i4,i5,i6,i7⟩:=aT Tryz.nD;have b2:Hid (∀v:NN,K_ wA v->(λ(v:NN)=>v.cell? ⟨w.heap.size+1,0,none⟩=some (.slice av k cv)/\v.cell? ⟨J.heap.size,0,none⟩=some (.a (1+(j:Int)))/\v.cell? ⟨J.heap.size,1,none⟩=some (.slice N P O)) v):=λv kk=>⟨(kk.cell i2).trans y5,(kk.cell qz).trans q0,(kk.cell qz).trans q1⟩
     refine Qk.region F4 (λ(v:NN)=>v.cell? ⟨w.heap.size+1,0,none⟩=some (.slice av k cv)/\v.cell? ⟨J.heap.size,0,none⟩=some (.a (1+(j:Int)))/\v.cell? ⟨J.heap.size,1,none⟩=some (.slice N P O)) 9 ⟨y5,q0,q1⟩ λE=>?_;refine ae 0 E ?_;refine ae 1 E ?_;refine ae 2 E ?_;refine ae 4 E ?_;refine aG 3 λR B=>?_;go_simp
     go_at_call 34
     refine (jD _ k _ rfl E5).mono ?_;rintro e G ⟨S,rfl,m7,k6⟩;have K6:K_ wA G:=(aY _).trans k6;dsimp only;refine B.out _ _ (λ_=>b2.o G K6) ?_;clear B R E k6;have E:=b2.o G K6;try simp only[upP]
     refine ae 5 E ?_;refine ai 6 λR B=>?_;go_simp
     have F:K_ wA (G.alloc (.cells #[.string S,.a (1+(j:Int)),.slice N P O] 33)):=K6.alloc _;refine af B (λ_=>b2.o _ F) ?_;clear B R E;refine ai 7 λR B=>?_;have b3:=(Y.o.kept F).own;rw[n.o] at b3;have i8:=(Y.o.kept F).kb.size;have i9:Hid (Qz.TinyN 20 ⟨S,1+(j:Int),LT⟩):=⟨by show S.size<=300;omega,by show -1000<=1+(j:Int)/\1+(j:Int)<=1000;omega,by show LT.length<=21;have:=h9.o;omega,d2.o.tiny⟩;refine step_append_lies _ rfl (.tmp 74) (.tmp 79) 23 rfl (w.alloc (.cells #[M3] 25)).heap.size 33 i3 _ 3 48 underlying23 i4 i5 i6 i7 rfl E8 (.slice av k cv) k xs F9 b3 ⟨G.heap.size,0,none⟩ 1 1 [.string S,.a (1+(j:Int)),.slice N P O] F9 rfl (nT _ _ _ _) (n_ _ _ _ _ _) E5 F5 E5 i8 _ rfl ?_;intro g g0 w8 g2 b4 j0 m8;have a4:=Y.o.fQ F (by rw[n.o];exact b4);have y6:=a4.1;rw[n.o] at y6;have m9:=a4.2.lt;have n0:=(a4.2.row.at (i:=0) E5).2;obtain⟨vo,n2⟩:=(a4.2.row.at (i:=0) E5).1;have g3:=d2.o.g.same (u:=25) (.ax F) E8 E8 E8;have j1:Hid (fZ 20 (w.alloc (.cells #[M3] 25)) (w8.setCell ⟨w.heap.size+1,0,none⟩ (.b g (k+1) g0)) l (w.heap.size+1) a C D p8 (.b g (k+1) g0) (a0++[⟨S,1+(j:Int),LT⟩]) (xs++[.string S,.a (1+(j:Int)),.slice N P O])):=
      Y.o.push (d:=⟨S,1+(j:Int),LT⟩) F g3 i9.o (by rw[n.o];exact g2) (by rw[n.o];exact b4)
     have d3:=aD.aI b3 b4;have j2:Hid (ay w8 w.heap.size 25 1):=by
      obtain⟨b5,g1,g4⟩:=i1.o.kept F;exact⟨b5,d3 _ b5 _ _ E8 g1,g4⟩
     have g5:(λ(v:NN)=>v.cell? ⟨w.heap.size+1,0,none⟩=some (.slice av k cv)/\v.cell? ⟨J.heap.size,0,none⟩=some (.a (1+(j:Int)))/\v.cell? ⟨J.heap.size,1,none⟩=some (.slice N P O)) w8:=by
      obtain⟨b5,g1,g4⟩:=d2.o.row.kept F;have hb:=d3 _ b5 _ _ E8 g1;have f:=b2.o _ F;exact⟨y6,by rw[MC (hb.trans g1.symm)];exact f.2.1,by rw[MC (hb.trans g1.symm)];exact f.2.2⟩
     clear a4 b3 g2 b4 j0 d3 F g3;refine af B (λ_=>g5) ?_;clear B R;have E:=g5;refine ae 8 E ?_;refine ai 9 λR B=>?_;go_simp
     refine af B (λa3=>NB rfl a3) ?_;clear B R;refine aC ?_;go_wp2
     go_roundg (gO-1)
     case rel=>exact⟨k+1,p8,_,_,_,F3,E5,by rw[M_,n.o];rfl,E5,E5,j2.o.block (Below.heap_setCell _ _ _ _ E9),j1.o⟩
     case measure=>omega
  .have y0:=I.o.c0;rw[n.o] at y0;have zb:=I.o.row.lt;have hG:=I.o.web;rw[n.o] at hG;have d4:=uW wO av cv a0 (mN:=20) E5 (by have:=n.o;omega) I.o.tiny (by rw[n.o];exact hG);rw[n.o] at d4;have⟨j3,n3⟩:=aH d4 Q.o;clear hG d4;go_wp2_with fail
   refine j3.o.mono ?_;intro e G hs;obtain⟨va,vn,vc,rfl,b6,hD⟩:=I.o.sorted (p:=H) (t:=400) hs Q.o (Mj _) k0 g6.o E5 E5;have⟨HD,j4⟩:=aH hD b6;have z6:=b6.lt;obtain⟨⟨_,u0⟩,h0⟩:=b6.row.at (i:=0) E5;clear hD b6 hs;go_wp2
   have T:=Mo G w.heap.size 0 [.slice va vn vc] (j4.o.row.there (o:=0) (m:=1) (Mj _));exact Zx [.slice va vn vc] _ results138 rfl T underlying25 rfl Tryz.gZ rfl HD.o
theorem jk.rbl{b:Nat}(h:jk m w wr rb b a cap bs p v L):rb<w.heap.size:=let ⟨_,h0⟩:=h.rd0;h0.row.lt
theorem jk.drawn{c:Nat}{p':Nat}(h:jk m w wr rb c a cap bs p v L)(d:Rd w' rb a cap bs p')(k:Xj rb (rb+1) wr w'):jk m w w' rb c a cap bs p' v L:=by
 have e:=k.sameKind h.rd;have:=h.rbl;have:=h.wbl;exact⟨d,h.rd0,h.wbl,h.kb.trans k,h.row.but k E5,(k.cell h.row.lt E5).trans h.c0,h.web.same e E8 E8 E8 E8,h.tiny,h.fr⟩
theorem jd.mono{M M' N N':Nat}{t:Nat}{e:Ending}(h:jd M N w w' rb a cap bs p t e)(b:M<=M')(n:N<=N'):jd M' N' w w' rb a cap bs p t e:=by
 let⟨v,L,c,d,f,i,q,j,k⟩:=h;exact⟨v,L,c,d,f,i,E5,λl m=>(j l m).mono b,k⟩
theorem jk.made{M:Nat}{b w1:NN}{f h:Nat}(j:Rd b rb a cap bs f)(k:Rd w1 rb a cap bs h)(i:Xj rb (rb+1) b w1)(l:bS w1 v L)(m:∀d∈L,d.TinyN M)(n:lQ b.heap.size v L):jk M b (w1.alloc (.cells #[v] 25)) rb w1.heap.size a cap bs h v L:=have c:K_ w1 (w1.alloc (.cells #[v] 25)):=ah _ _
 ⟨k.kept c,⟨f,j⟩,i.size,i.fV c,ay.made w1 _ _,X_ w1 _ _ 0 _ rfl,l.kept c,m,n⟩
theorem Jf :qD 32 1200 30 200 500000:=by
 intro w e a f h q b X r;have s:K_ w (w.alloc (.cells #[M3] 25)):=ah _ _;have A:Hid (Rd (w.alloc (.cells #[M3] 25)) e a f h q):=b.kept s;have B:Hid (ay (w.alloc (.cells #[M3] 25)) w.heap.size 25 1):=ay.made w _ _;have Y:=b.row.lt;have C:=Kz b;go_enter func32,ntmps32
 go_wp2_with fail
 refine (GN (Kz Ip) (Kz H_) _ e a f h q A.o E5 r).mono ?_;rintro D O ⟨P,L,E,rfl,Z,a0,hl,F,t,G,v,Q⟩;obtain⟨j,k,rfl,_,_⟩:=t.slice;have x:=Kz (jk.made A.o G v t F Q);have H:=Kz ((B.o.but v E5).kept ((K_.refl O).alloc (.cells #[.slice j L.length k] 25)));go_wp2_with fail
 refine (aN _ e a f h E _ 24 rfl x.o.rd E5 E5 r).mono ?_;rintro D R ⟨y,rfl,a1,I,z⟩;have c:=Kz (x.o.drawn I z);have d:=Kz (H.o.but z E5);have y2:=c.o.c0;have z2:=c.o.row.lt;by_cases l:y=0
 .have S:((y:Int) == 0)=true:=by simp[l]
  clear l;go_wp2_with fail
  refine (DK 20 E5 _ e a f h (E+1) j k L c.o.rd E5 r E5 c.o.tiny c.o.web).mono ?_;intro D T J;obtain⟨P,rfl,p,⟨K,un,M,rfl⟩,N⟩:=(J.mono (M':=30) (N':=200) E5 E5).via (p:=q) (t':=1200) c.o.kb s E5 E5 C.o (Mj _) d.o E5;have⟨U,V⟩:=aH N p;have z3:=p.lt;let⟨⟨_,u0⟩,W⟩:=p.row.at (i:=0) E5;go_wp2
  have b:=Mo T w.heap.size 0 [.slice K un M] (V.o.row.there (o:=0) (m:=1) (Mj _));exact Zx [.slice K un M] _ results32 rfl b underlying25 rfl Tryz.gZ rfl U.o
 .have S:((y:Int) == 0)=false:=by simpa using l
  clear l;let⟨⟨_,u0⟩,W⟩:=d.o.row.at (i:=0) E5;have zr:=d.o.lt;go_wp2
  have b:=Mo R w.heap.size 0 [.slice j L.length k] (d.o.row.there (o:=0) (m:=1) (Mj _));exact Zx [.slice j L.length k] _ results32 rfl b underlying25 rfl Tryz.gZ rfl ((c.o.mono (n:=30) E5).ends d.o (Mj _) s C.o rfl E5 E5 E5)
theorem Cy{l:List Q_}{n:NL}{r:Q_}{j:Nat}{q:Int}(m:dB l)(b:j<l.length)(p:l.getD j Q_.zero=r)(d:Qq l n=some r)(h:Ex l n q):q= (j:Int):=by
 rcases h with⟨k,c,s,a,t⟩|⟨_,a⟩
 .rw[s];have e:l.getD k Q_.zero=l.getD j Q_.zero:=by rw[d] at a;rw[<-Nl a,p]
  simp only[List.getD,Mq b,Mq c,NC] at e;have f:=congrArg Q_.name e;have i:=Mx.1 m;rcases Ny k j with h|h|h
  .exact NB f (dO (i k j c b h))
  .rw[h]
  .exact NB f.symm (dO (i j k b c h))
 .rw[d] at a;cases a
theorem kV(w:NN)(a:NM)(cap:Nat)(f:List Qz)(ra:NM)(O:Nat)(Kj:List NL)(d:NM)(dc:Nat)(l:List Q_)(l3:f.length<=1048576)(d1:∀y∈f,y.Fits)(f6:Kj.length<=1048576)(f7:∀s∈Kj,s.size<=maxLen)(f8:l.length<=1048576)(i4:∀x∈l,x.texts.length<=1048576)(hN:bQ w a f)(hS:bN w d l)(hR:Strs w ra Kj):Calls prog 22 #[.agg #[.slice a f.length cap],.agg #[.slice ra Kj.length O,.slice d l.length dc]] w λe w'=>Jd e (bR f Kj l)/\K_ w w':=by
 let⟨WB,a5⟩:=aj ((w.alloc (.cells #[.slice a f.length cap] 25)).alloc (.cells #[.slice ra Kj.length O,.slice d l.length dc] 43));have kB:K_ w WB:=by rw[a5];exact (ah _ _).alloc _
 have i5:WB.heap.size=w.heap.size+2:=by rw[a5];simp
 have X:WB.cell? ⟨w.heap.size,0,none⟩=some (.slice a f.length cap):=by rw[a5,K_.cell (w:=w.alloc (.cells #[.slice a f.length cap] 25)) (ah _ _) E9];exact X_ w _ _ 0 _ rfl
 have Y:WB.cell? ⟨w.heap.size+1,0,none⟩=some (.slice ra Kj.length O):=by have:=X_ (w.alloc (.cells #[.slice a f.length cap] 25)) #[.slice ra Kj.length O,.slice d l.length dc] 43 0 _ rfl;rw[MZ] at this;rw[a5];exact this
 have P:WB.cell? ⟨w.heap.size+1,1,none⟩=some (.slice d l.length dc):=by have:=X_ (w.alloc (.cells #[.slice a f.length cap] 25)) #[.slice ra Kj.length O,.slice d l.length dc] 43 1 _ rfl;rw[MZ] at this;rw[a5];exact this
 have z0:w.heap.size<WB.heap.size:=E5;have Q:w.heap.size+1<WB.heap.size:=E5;have HC:Hid (∀w',K_ WB w'->M4 w' w.heap.size 0 (.slice a f.length cap)/\M4 w' (w.heap.size+1) 0 (.slice ra Kj.length O)/\M4 w' (w.heap.size+1) 1 (.slice d l.length dc)/\w.heap.size<w'.heap.size/\w.heap.size+1<w'.heap.size):=λw' K=>⟨(K.cell z0).trans X,(K.cell Q).trans Y,(K.cell Q).trans P,Mk z0 K.size,Mk Q K.size⟩
 have B:=Kz kB;go_enter func22,ntmps22
 go_upto_region 1 with fail
 rw[<-a5];clear a5;let⟨X,Y,P,_,_⟩:=HC.o _ (K_.refl _);go_wp2_with fail
 refine (g_ _ a cap f F5 d1 (hN.kept B.o)).mono ?_;rintro e w1 ⟨⟨c,rfl,hc⟩,k1⟩;let⟨X,Y,P,z0,Q⟩:=HC.o _ k1;by_cases d2:c=0;rotate_left
 .have l4:(c != 0)=true:=by simpa using d2
  have i6:Hid (¬bE f 0):=λh=>d2 (hc.unique h)
  clear d2 hc;go_wp2
  go_ret
  exact⟨⟨false,rfl,by simp only[Bool.false_eq_true,false_iff];exact λh=>i6.o h.1⟩,B.o.trans k1⟩
 subst d2;have R:=Kz hc;go_wp2_with fail
 refine (mE _ ra O Kj F5 f7 (hR.kept (B.o.trans k1))).mono ?_;rintro e w2 ⟨d9,i7⟩;have K2:=k1.trans i7;let⟨X,Y,P,z0,Q⟩:=HC.o _ K2;rcases d9.cases with⟨rfl,f9⟩|⟨rfl,g0⟩;rotate_left
 .have i8:=Kz g0;go_wp2
  go_ret
  exact⟨⟨false,rfl,by simp only[Bool.false_eq_true,false_iff];exact λh=>i8.o h.2.1⟩,B.o.trans K2⟩
 have HY:=Kz f9;by_cases g1:l.length<=f.length;rotate_left
 .have i9:(f.length:Int)<(l.length:Int):=E5;go_wp2
  go_ret
  exact⟨⟨false,rfl,by simp only[Bool.false_eq_true,false_iff];exact λh=>g1 h.2.2.1⟩,B.o.trans K2⟩
 have i9:¬(f.length:Int)<(l.length:Int):=E5;obtain⟨rb,ro,rfl,_,_⟩:=hR 0 (by have:=HY.o.1;omega);have l5:=gy R.o;have g2:=HY.o.2.1;go_wp2_with fail
 refine (Dr w2 a cap f rb ro O Kj E5 d1 R.o HY.o f7 (hN.kept (B.o.trans K2)) (hR.kept (B.o.trans K2))).mono ?_;rintro e w3 ⟨M,n,N,p,xs,rfl,g3,g4,g6,k3⟩;have F:=K2.trans k3;have e0:Hid (Strs w3 M Kj/\bN w3 N (bu f Kj)):=by
  let⟨a9,c9,g7,h9⟩:=bO g3;simp only[Nb,true_and] at g7;rw[<-g7.1] at h9;let⟨_,a8,l6,g8,h8⟩:=bI.runs g4 g6 (K_.refl _);simp only[Nb,true_and] at g8;rw[<-g8.1] at h8;exact⟨h9,h8.runs⟩
 clear g3 g4 g6 k3;let⟨Z,e1⟩:=aj w3.heap.size;have j0:w3.heap.size<=Z:=E5;have g9:=Kz e1;go_upto_region 4 with fail
 rw[<-e1];clear e1;go_wp2
 go_loopg [6] (2*vM f (bu f Kj)+1) (λgg x6 wr=>∃(L:List Q_)(bb:Bool)(M:NM)(n:Nat)(N:NM)(p:Nat),x6=.bool bb/\K_ w3 wr/\ve wr Z Kj L M n N p/\Hid (DX f Kj l L bb gg))
 case atStart=>exact⟨bu f Kj,true,M,n,N,p,rfl,ah _ _,by rw[g9.o];exact ve.made e0.o.1 e0.o.2,Kz (DX.begin R.o Kj l)⟩
 case round=>
  clear e0 g9;obtain⟨L,bb,M,n,N,p,rfl,Kr,C,G⟩:=hrel;obtain⟨wO,rfl⟩:=aj wr;obtain⟨gO,rfl⟩:=aj gk;have h0:L.length<=60:=by have:=G.o.good.len;omega
  let⟨X,Y,P,z0,Q⟩:=HC.o _ (F.trans Kr);have m0:=C.c0;have m1:=C.c1;have mz:=C.row.lt;have q:=Kz C;cases bb
  .go_wp2_with fail
   refine (IM wO M (some ⟨rb,ro,none⟩) N d n O p dc Kj Kj L l f6 f6 E5 f8 (λx hx=>by have h1:=(G.o.good.good x hx).tl;have a0:=(G.o.good.good x hx).hi;omega) i4 q.o.rts (hR.kept (B.o.trans (F.trans Kr))) q.o.rns (hS.kept (B.o.trans (F.trans Kr)))).mono ?_;rintro e w5 ⟨⟨j1,rfl,h2⟩,j2⟩;have H5:=Kz h2;go_wp2
   go_ret
   refine⟨⟨j1,rfl,?_⟩,B.o.trans ((F.trans Kr).trans j2)⟩;rw[H5.o];let⟨kk,hl⟩:=G.o.led;have h:=Gz G.o.good hl (G.o.fin rfl);exact⟨λ⟨_,e⟩=>⟨R.o,HY.o,g1,h.1 e⟩,λ⟨_,_,_,g⟩=>⟨by trivial,h.2 g⟩⟩
  .go_wp2_with fail
   refine (uw wO a cap f M Kj.length n N p L E5 E5 (jZ R.o) (λr hr _ _=>(G.o.good.good r hr).act) (hN.kept (B.o.trans (F.trans Kr))) q.o.rns).mono ?_;rintro e w6 ⟨⟨da,lc,H,rfl,e2,h3⟩,k6⟩;have b2:=Kz e2;have j3:=Kz (il.owned (xb:=Z) h3 mz);have l7:H.length<=60:=by have:=e2.len;omega
   have h4:=Kz (q.o.kept k6);have K6:=Kr.trans k6;clear e2 h3 X Y P z0 Q m0 m1 mz q k6;let⟨L0,e3⟩:=aj L;have h5:Hid (gT f (Qq l) (Qq (bu f Kj)) H L0 L 0 false):=by rw[e3];exact gT.start G.o.good G.o.led b2.o
   rw[<-e3] at G b2;clear e3;go_wp2
   go_loopg [6,8] H.length (λgg x6 x8 wr=>∃(m:Nat)(b:Bool)(L:List Q_)(M:NM)(n:Nat)(N:NM)(p:Nat),x6=.bool b/\x8=.a (m:Int)/\m+gg=H.length/\Xj Z (Z+1) w6 wr/\ve wr Z Kj L M n N p/\Hid (gT f (Qq l) (Qq (bu f Kj)) H L0 L m b))
   case atStart=>exact⟨0,false,L,M,n,N,p,rfl,rfl,E5,Xj.refl _ _ _,h4.o,h5⟩
   case round=>
    clear h4 h5;obtain⟨m,b,L,M,n,N,p,rfl,rfl,l8,KB,C,a1⟩:=hrel;obtain⟨S,rfl⟩:=aj wr;have h0:L.length<=60:=by have:=a1.o.good.len;omega
    have a2:=KB.kept K6 j0;by_cases j4:(m:Int)<(H.length:Int);rotate_left
    .obtain rfl:m=H.length:=E5;let⟨h1,a0⟩:=G.o.next b2.o a1.o;have j5:=Kz h1;go_wp2
     go_roundg (2*vM f L+(if b=true then 1 else 0))
     case measure=>exact a0
     case rel=>exact⟨L,b,M,n,N,p,rfl,a2,C,j5⟩
    have d3:m<H.length:=E5;let⟨T,hn⟩:=aj (H.getD m ByteArray.empty);obtain⟨lb,lo,rfl,e4,l9,b3⟩:=j3.o.but KB m d3;rw[<-hn] at b3;obtain⟨pb,po,rfl,_,_⟩:=C.rts 0 (by have:=HY.o.1;omega);have h6:=a1.o.rest m (Mj _) d3;rw[<-hn] at h6;let⟨r,hr,h7⟩:=h6;obtain⟨j,hj,e5⟩:∃j,j<L.length/\L.getD j Q_.zero=r:=by
     let⟨j6,h1,a0⟩:=MB (aZ hr).1;exact⟨j6,h1,by simp only[List.getD,Mq h1,NC,a0]⟩
    obtain⟨t,v,ta,tc,rfl,a6,D,i0,j7⟩:=C.rns j hj;rw[e5] at D i0;have⟨I,d4,HN,i1⟩:=nC hr h7 hn e5;have m0:=C.c0;have m1:=C.c1;have mz:=C.row.lt;have q:=Kz C;have t0:M4 S t (v+j*7) (.string r.name):=D 0 _ rfl;have t1:M4 S t (v+j*7+1) (.bool r.over):=D 1 _ rfl;have t2:M4 S t (v+j*7+2) (.bool r.fail):=D 2 _ rfl;have t3:M4 S t (v+j*7+3) (.string r.text):=D 3 _ rfl;have t4:M4 S t (v+j*7+4) (.a r.at'):=D 4 _ rfl;have t5:M4 S t (v+j*7+5) (.a r.Zq):=D 5 _ rfl;have t6:M4 S t (v+j*7+6) (.slice ta r.texts.length tc):=D 6 _ rfl;have e6:Hid (∀w',K_ S w'->M4 w' (w.heap.size+1) 0 (.slice (some ⟨rb,ro,none⟩) Kj.length O)/\M4 w' (w.heap.size+1) 1 (.slice d l.length dc)/\M4 w' lb (lo+m) (.string T)):=λw' K=>⟨(HC.o _ (F.trans (a2.trans K))).2.1,(HC.o _ (F.trans (a2.trans K))).2.2.1,(K.cell e4).trans b3⟩
    have a7:Hid (∀w',K_ S w'->M4 w' Z 0 (.slice (some ⟨pb,po,none⟩) Kj.length n)/\M4 w' Z 1 (.slice (some ⟨t,v,none⟩) L.length p)/\M4 w' lb (lo+m) (.string T)/\M4 w' t (v+j*7) (.string r.name)/\M4 w' t (v+j*7+1) (.bool r.over)/\M4 w' t (v+j*7+2) (.bool r.fail)/\M4 w' t (v+j*7+3) (.string r.text)/\M4 w' t (v+j*7+4) (.a r.at')/\M4 w' t (v+j*7+5) (.a r.Zq)/\M4 w' t (v+j*7+6) (.slice ta r.texts.length tc)):=λw' K=>⟨(K.cell mz).trans m0,(K.cell mz).trans m1,(K.cell e4).trans b3,(K.cell a6).trans t0,(K.cell a6).trans t1,(K.cell a6).trans t2,(K.cell a6).trans t3,(K.cell a6).trans t4,(K.cell a6).trans t5,(K.cell a6).trans t6⟩
    have d5:Hid (∀w',K_ S w'->M4 w' w.heap.size 0 (.slice a f.length cap)/\M4 w' Z 0 (.slice (some ⟨pb,po,none⟩) Kj.length n)/\M4 w' Z 1 (.slice (some ⟨t,v,none⟩) L.length p)/\M4 w' lb (lo+m) (.string T)):=λw' K=>⟨(HC.o _ (F.trans (a2.trans K))).1,(K.cell mz).trans m0,(K.cell mz).trans m1,(K.cell e4).trans b3⟩
    clear hr h7 hn e5 C D i0 j7 t0 t1 t2 t3 t4 t5 t6 m0 m1 b3;have m2:(m:Int)<(H.length:Int):=j4;go_upto_region 11 with fail
    refine bF 6 e6.o λE A k=>?_
    refine ak 0 k ?_;refine ae 4 k ?_;refine aG 5 λK i=>?_;go_simp
    go_at_call 69
    refine (gY E (some ⟨rb,ro,none⟩) Kj.length O d dc l T f8 (hS.kept (B.o.trans (F.trans (a2.trans A))))).mono ?_;rintro e w7 ⟨⟨q7,rfl,i2⟩,i3⟩;have K7:=A.trans i3;have j8:=Kz i2;refine af i (λ_=>e6.o _ K7) ?_;refine ai 6 λK i=>?_;go_simp
    refine af i (λh=>NB rfl h) ?_;refine aC ?_;go_upto_region 12 with fail
    go_cut [10] from 49 to 58 (λj9 wx=>∃gb,j9=.c gb/\K_ w7 wx/\gV wx gb r ta tc)
    case first=>
     refine ik 11 a7.o (K7.drew) λk=>?_;have A:=aY w7;generalize b4:w7.drew=E at k A⊢;clear b4;refine ak 0 k ?_;refine ae 4 k ?_;refine ae 5 k ?_;refine ae 6 k ?_;refine fP 7 10 (λK i=>?_) (λK i=>?_)
     .rw[Nz F7];go_simp
      go_at_call 69
      refine (gY E (some ⟨pb,po,none⟩) Kj.length n (some ⟨t,v,none⟩) p L T E5 (q.o.rns.kept (K7.trans A))).mono ?_;rintro e U ⟨⟨q8,rfl,b5⟩,k8⟩;obtain rfl:=Cy a1.o.good.asc hj i1.o I.o b5;have k0:(j:Int)<(L.length:Int):=E5;have z:=(K7.trans A).trans k8;refine i.out _ _ (λ_=>a7.o _ z) ?_;have k:=a7.o _ z;try simp only[upP]
      refine ae 8 k ?_;refine ae 9 k ?_;refine ai 10 λK i=>?_;go_simp
      have J:K_ U (U.alloc (.cells #[.string ⟨#[]⟩,.bool false,.bool false,.string ⟨#[]⟩,.a 0,.a 0,M3] 48)):=ah _ _;have a3:ay (U.alloc (.cells #[.string ⟨#[]⟩,.bool false,.bool false,.string ⟨#[]⟩,.a 0,.a 0,M3] 48)) U.heap.size 48 7:=ay.made U _ _;have KE:=(A.trans k8).trans J;have nz:=(A.trans k8).size;let⟨gb,b6⟩:=aj U.heap.size;refine i.out _ _ (λ_=>a7.o _ (K7.trans KE)) ?_;rw[<-b6] at a3 nz⊢;generalize e7:U.alloc (.cells #[.string ⟨#[]⟩,.bool false,.bool false,.string ⟨#[]⟩,.a 0,.a 0,M3] 48)=wE at a3 KE⊢;clear e7 b6;try simp only[upP]
      let⟨⟨⟨_,v0⟩,e8⟩,⟨⟨_,v1⟩,e9⟩,⟨⟨_,v2⟩,k2⟩,⟨⟨_,v3⟩,k4⟩,⟨⟨_,v4⟩,f4⟩,⟨⟨_,v5⟩,k5⟩,⟨_,v6⟩,k7⟩:=a3.row.ED;have vz:=a3.lt;refine ai 11 λK i=>?_;go_simp
      refine af i (λh=>NB rfl h) ?_;refine aC ?_;go_wp2
      go_meet
      exact⟨gb,rfl,aP (g:=gb) nz [.string r.name,.bool r.over,.bool r.fail,.string r.text,.a r.at',.a r.Zq,.slice ta r.texts.length tc] 0 KE,gV.laid a3⟩
     .rw[Nz F7];go_simp
      have J:K_ E (E.alloc (.cells #[.string ⟨#[]⟩,.bool false,.bool false,.string ⟨#[]⟩,.a 0,.a 0,M3] 48)):=ah _ _;have f0:ay (E.alloc (.cells #[.string ⟨#[]⟩,.bool false,.bool false,.string ⟨#[]⟩,.a 0,.a 0,M3] 48)) E.heap.size 48 7:=ay.made E _ _;have KF:=A.trans J;have nz:=A.size;let⟨gb,b6⟩:=aj E.heap.size;refine i.out _ _ (λ_=>a7.o _ (K7.trans KF)) ?_;rw[<-b6] at f0 nz⊢;generalize e7:E.alloc (.cells #[.string ⟨#[]⟩,.bool false,.bool false,.string ⟨#[]⟩,.a 0,.a 0,M3] 48)=wF at f0 KF⊢;clear e7 b6;try simp only[upP]
      refine aG 7 λK i=>?_;go_simp
      go_at_call 69
      refine (gY wF (some ⟨pb,po,none⟩) Kj.length n (some ⟨t,v,none⟩) p L T E5 (q.o.rns.kept (K7.trans KF))).mono ?_;rintro e U ⟨⟨q8,rfl,b5⟩,k8⟩;obtain rfl:=Cy a1.o.good.asc hj i1.o I.o b5;have k0:(j:Int)<(L.length:Int):=E5;have z:=(K7.trans KF).trans k8;refine i.out _ _ (λ_=>a7.o _ z) ?_;have k:=a7.o _ z;try simp only[upP]
      refine ae 8 k ?_;refine ae 9 k ?_;have a3:=f0.kept k8;have KE:=KF.trans k8;let⟨⟨⟨_,v0⟩,e8⟩,⟨⟨_,v1⟩,e9⟩,⟨⟨_,v2⟩,k2⟩,⟨⟨_,v3⟩,k4⟩,⟨⟨_,v4⟩,f4⟩,⟨⟨_,v5⟩,k5⟩,⟨_,v6⟩,k7⟩:=a3.row.ED;have vz:=a3.lt;refine ai 11 λK i=>?_;go_simp
      refine af i (λh=>NB rfl h) ?_;refine aC ?_;go_wp2
      go_meet
      exact⟨gb,rfl,aP (g:=gb) nz [.string r.name,.bool r.over,.bool r.fail,.string r.text,.a r.at',.a r.Zq,.slice ta r.texts.length tc] 0 KE,gV.laid a3⟩
    case rest=>
     obtain⟨gb,rfl,k8,f1⟩:=hcut;obtain⟨U,rfl⟩:=aj wc;have z:=K7.trans k8;let⟨_,_,_,_,_,g5,_⟩:=f1.all;have gz:=f1.row.lt;let⟨_,P,_⟩:=e6.o _ z;have Q:=(HC.o _ (F.trans (a2.trans z))).2.2.2.2;have d6:Hid (¬Behind (W:=Kk f) bL (Qq l) (Qq L) T->gT f (Qq l) (Qq (bu f Kj)) H L0 L (m+1) b):=λh=>a1.o.skip (by rw[<-HN.o];exact h)
     clear f1 k8;go_upto_region 13 with fail
     rcases j8.o with⟨d7,hq,rfl,b1,_⟩|⟨rfl,b1⟩;rotate_left
     .have b0:=Kz b1;clear b1
      go_quiet (fail)
      go_wp2
      go_roundg (gk-1)
      case measure=>omega
      case rel=>exact⟨m+1,b,L,_,n,_,p,rfl,F3,E5,(KB.trans (Xj.ax z)).drewN nq,q.o.kept (z.drewN nq),Kz (d6.o (vC b0.o))⟩
     let⟨g,hg⟩:=aj (l.getD d7 Q_.zero);rw[<-hg] at b1;have b0:=Kz b1;obtain⟨hb,ho,ua,uc,rfl,f2,D,_,_⟩:=hS d7 hq;rw[<-hg] at D;have KW:=B.o.trans (F.trans (a2.trans z));have u1:=(KW.cell f2).trans (D 1 _ rfl);have u5:=(KW.cell f2).trans (D 5 _ rfl);have uz:=Mk f2 KW.size;have m3:¬(d7:Int)<0:=E5;have ql:(d7:Int)<(l.length:Int):=E5;clear hg;by_cases h1:g.Zq<r.Zq
     .go_quiet (fail)
      go_wp2
      go_roundg (gk-1)
      case measure=>omega
      case rel=>exact⟨m+1,b,L,_,n,_,p,rfl,F3,E5,(KB.trans (Xj.ax z)).drewN nq,q.o.kept (z.drewN nq),Kz (d6.o (rq I.o b0.o (by rintro (h|⟨h,_⟩)<;>omega)))⟩
     by_cases a0:r.Zq=g.Zq
     .have k9:(r.Zq == g.Zq)=true:=by simp[a0]
      have H2:=Kz a0;cases d8:g.over
      .rw[d8] at u1
       go_quiet (fail)
       go_wp2
       go_roundg (gk-1)
       case measure=>omega
       case rel=>exact⟨m+1,b,L,_,n,_,p,rfl,F3,E5,(KB.trans (Xj.ax z)).drewN nq,q.o.kept (z.drewN nq),Kz (d6.o (rq I.o b0.o (by have:=H2.o;rintro (h|⟨_,h,_⟩);omega;rw[d8] at h;cases h)))⟩
      .rw[d8] at u1;by_cases m4:r.Zq<20
       .go_quiet (fail)
        go_wp2
        go_roundg (gk-1)
        case measure=>omega
        case rel=>exact⟨m+1,b,L,_,n,_,p,rfl,F3,E5,(KB.trans (Xj.ax z)).drewN nq,q.o.kept (z.drewN nq),Kz (d6.o (rq I.o b0.o (by have:=H2.o;rintro (h|⟨_,_,h⟩)<;>omega)))⟩
       .have f3:Hid (Behind (W:=Kk f) bL (Qq l) (Qq L) T):=⟨⟨r,I.o,d4.o⟩,r,g,I.o,b0.o,.inr ⟨H2.o,d8,E5⟩⟩
        go_quiet (fail)
        have J:=z.drewN nq;generalize f5:U.drewN nq=w9 at J⊢;clear f5;go_upto_region 14 with fail
        refine ik 7 d5.o (J.drew) λk=>?_;have A:=aY w9;generalize b4:w9.drew=E at k A⊢;clear b4;refine ak 0 k ?_;refine ae 4 k ?_;refine ae 5 k ?_;refine aG 6 λK i=>?_;go_simp
        go_at_call 58
        have V:=J.trans A;refine (EX E a cap f pb po n Kj (some ⟨t,v,none⟩) p L T r E5 E5 (jZ R.o) (bV R.o) d1 g2 a1.o.good I.o d4.o (hN.kept (B.o.trans (F.trans (a2.trans V)))) (q.o.rns.kept V) (q.o.rts.kept V)).mono ?_;rintro e wA ⟨b7,b8,b9,c2,l0,rfl,c3,c4,c5,kA⟩;have KA:=V.trans kA;have zA:=V.size;have c6:=Kz (ve.laid E5 (q.o.row.kept KA) c3 c4 c5);have c7:Hid (gT f (Qq l) (Qq (bu f Kj)) H L0 (doL (Kk f) L r) (m+1) true):=a1.o.did (bV R.o) (b2.o.nodup G.o.good.asc) d3 (by rw[<-HN.o];exact f3.o) (by rw[<-HN.o];exact I.o);let⟨c8,d0⟩:=aj (doL (Kk f) L r);rw[<-d0] at c6 c7⊢;clear d0;have a4:=q.o.row.kept KA;let⟨⟨_,x0⟩,e8⟩:=a4.row.at (i:=0) E5;let⟨⟨_,x1⟩,e9⟩:=a4.row.at (i:=1) E5;have l1:=a4.lt;refine af i (λ_=>d5.o _ KA) ?_;refine ai 7 λK i=>?_;go_simp
        refine af i (λh=>NB rfl h) ?_;refine aC ?_;go_wp2
        go_roundg (gk-1)
        case measure=>omega
        case rel=>exact⟨m+1,true,c8,b7,b8,b9,c2,rfl,F3,E5,Xj.sets (Mj _) (MO _) [.slice b7 Kj.length b8,.slice b9 c8.length c2] 0 (KB.trans (Xj.ax KA)),c6.o,c7⟩
     .have k9:(r.Zq == g.Zq)=false:=by simpa using a0
      have l2:r.Zq<g.Zq:=E5;have f3:Hid (Behind (W:=Kk f) bL (Qq l) (Qq L) T):=⟨⟨r,I.o,d4.o⟩,r,g,I.o,b0.o,.inl l2⟩
      go_quiet (fail)
      have J:=z.drewN nq;generalize f5:U.drewN nq=w9 at J⊢;clear f5;go_upto_region 14 with fail
      refine ik 7 d5.o (J.drew) λk=>?_;have A:=aY w9;generalize b4:w9.drew=E at k A⊢;clear b4;refine ak 0 k ?_;refine ae 4 k ?_;refine ae 5 k ?_;refine aG 6 λK i=>?_;go_simp
      go_at_call 58
      have V:=J.trans A;refine (EX E a cap f pb po n Kj (some ⟨t,v,none⟩) p L T r E5 E5 (jZ R.o) (bV R.o) d1 g2 a1.o.good I.o d4.o (hN.kept (B.o.trans (F.trans (a2.trans V)))) (q.o.rns.kept V) (q.o.rts.kept V)).mono ?_;rintro e wA ⟨b7,b8,b9,c2,l0,rfl,c3,c4,c5,kA⟩;have KA:=V.trans kA;have zA:=V.size;have c6:=Kz (ve.laid E5 (q.o.row.kept KA) c3 c4 c5);have c7:Hid (gT f (Qq l) (Qq (bu f Kj)) H L0 (doL (Kk f) L r) (m+1) true):=a1.o.did (bV R.o) (b2.o.nodup G.o.good.asc) d3 (by rw[<-HN.o];exact f3.o) (by rw[<-HN.o];exact I.o);let⟨c8,d0⟩:=aj (doL (Kk f) L r);rw[<-d0] at c6 c7⊢;clear d0;have a4:=q.o.row.kept KA;let⟨⟨_,x0⟩,e8⟩:=a4.row.at (i:=0) E5;let⟨⟨_,x1⟩,e9⟩:=a4.row.at (i:=1) E5;have l1:=a4.lt;refine af i (λ_=>d5.o _ KA) ?_;refine ai 7 λK i=>?_;go_simp
      refine af i (λh=>NB rfl h) ?_;refine aC ?_;go_wp2
      go_roundg (gk-1)
      case measure=>omega
      case rel=>exact⟨m+1,true,c8,b7,b8,b9,c2,rfl,F3,E5,Xj.sets (Mj _) (MO _) [.slice b7 Kj.length b8,.slice b9 c8.length c2] 0 (KB.trans (Xj.ax KA)),c6.o,c7⟩
theorem bR.good{a:List Qz}{Kj:List NL}{b:List Q_}(h:bR a Kj b):dW a b:=by
 obtain⟨_,_,_,k,L,d,_,_,rfl⟩:=h;exact d
def IG(Kq:List Qz)(Kj:List NL)(sl:List Q_)(w':NN)(e:Ending):Prop:=∃(da:NM)(c:Nat)(ns:List NL),e=.returned (.slice da ns.length c)/\eX w' 9 da ns/\((bR Kq Kj sl/\dA (Kk Kq) (Qq sl) sl ns)\/(¬bR Kq Kj sl/\ns=[]))
theorem yE(w:NN)(a:NM)(cap:Nat)(b:List Qz)(f:NM)(h:Nat)(Kj:List NL)(d:NM)(i:Nat)(c:List Q_)(A:b.length<=1048576)(O:∀y∈b,y.Fits)(P:Kj.length<=1048576)(Q:∀s∈Kj,s.size<=maxLen)(B:c.length<=1048576)(R:∀x∈c,x.texts.length<=1048576)(C:bQ w a b)(D:bN w d c)(S:Strs w f Kj):Calls prog 26 #[.agg #[.slice a b.length cap],.agg #[.slice f Kj.length h,.slice d c.length i]] w λe w'=>IG b Kj c w' e/\K_ w w':=by
 let⟨j,k⟩:=aj ((w.alloc (.cells #[.slice a b.length cap] 25)).alloc (.cells #[.slice f Kj.length h,.slice d c.length i] 43));have E:K_ w j:=by rw[k];exact (ah _ _).alloc _
 have T:j.heap.size=w.heap.size+2:=by rw[k];simp
 have m:j.cell? ⟨w.heap.size,0,none⟩=some (.slice a b.length cap):=by rw[k,K_.cell (w:=w.alloc (.cells #[.slice a b.length cap] 25)) (ah _ _) E9];exact X_ w _ _ 0 _ rfl
 have n:j.cell? ⟨w.heap.size+1,0,none⟩=some (.slice f Kj.length h):=by have:=X_ (w.alloc (.cells #[.slice a b.length cap] 25)) #[.slice f Kj.length h,.slice d c.length i] 43 0 _ rfl;rw[MZ] at this;rw[k];exact this
 have p:j.cell? ⟨w.heap.size+1,1,none⟩=some (.slice d c.length i):=by have:=X_ (w.alloc (.cells #[.slice a b.length cap] 25)) #[.slice f Kj.length h,.slice d c.length i] 43 1 _ rfl;rw[MZ] at this;rw[k];exact this
 have v:w.heap.size<j.heap.size:=E5;have q:w.heap.size+1<j.heap.size:=E5;have F:Hid (∀w',K_ j w'->M4 w' w.heap.size 0 (.slice a b.length cap)/\M4 w' (w.heap.size+1) 0 (.slice f Kj.length h)/\M4 w' (w.heap.size+1) 1 (.slice d c.length i)/\w.heap.size<w'.heap.size/\w.heap.size+1<w'.heap.size):=λw' K=>⟨(K.cell v).trans m,(K.cell q).trans n,(K.cell q).trans p,Mk v K.size,Mk q K.size⟩
 have l:=Kz E;go_enter func26,ntmps26
 go_upto_region 1 with fail
 rw[<-k];clear k;let⟨m,n,p,_,_⟩:=F.o _ (K_.refl _);go_wp2_with fail
 refine (kV _ a cap b f h Kj d i c A O P Q B R (C.kept l.o) (D.kept l.o) (S.kept l.o)).mono ?_;rintro e G ⟨⟨U,rfl,H⟩,t⟩;have I:=Kz H;clear H m n p v q;let⟨m,n,p,v,q⟩:=F.o _ t;cases U
 .go_wp2
  go_ret
  exact⟨⟨some ⟨G.heap.size,0,none⟩,0,[],rfl,.inl rfl,.inr ⟨λV=>(by have:=I.o.2 V;cases this),rfl⟩⟩,(l.o.trans t).alloc _⟩
 .have z:=I.o.1 rfl;have J:=Kz z;have L:=z.good;have a2:=gy z.1;have a3:=L.len;go_wp2_with fail
  refine (uw G a cap b f Kj.length h d i c A B (jZ J.o.1) (λr W _ _=>(L.good r W).act) (C.kept (l.o.trans t)) (D.kept (l.o.trans t))).mono ?_;rintro e w2 ⟨⟨X,Y,Z,rfl,M,N⟩,k2⟩;have⟨a0,a1⟩:=aH M N;go_wp2
  go_ret
  exact⟨⟨X,Y,Z,rfl,(mi a1.o).1,.inl ⟨J.o,a0.o⟩⟩,l.o.trans (t.trans k2)⟩
def IV(Kq:List Qz)(sl:List Q_)(name:NL)(T:List Q_):Prop:=(∃r,Qq sl name=some r/\aS (Kk Kq) (Qq sl) r/\T=doL (Kk Kq) sl r)\/(¬bn (Kk Kq) (Qq sl) name/\T=sl)
theorem oh{P:Program}{e:Func}{R:Ending->NN->Prop}{a:Act}{p t:Tmp}{c:TypeId}{b:Nat}(cs:List NP)(v:NP)(d:TypeDesc)(h:e.results= #[.cell p c,.tmp t])(f:a.tmps.getD p undef=.c b)(i:w.rangeAt b 0 cs)(j:P.underlying c=some d)(k:d.isRow=true)(hi:(P.info? c).map (·.size)=some cs.length)(l:a.tmps.getD t undef=v)(m:a.defers=[])(n:R (.returned (.tuple #[.agg cs.toArray,v])) w):bodyPost P e R .ret a w:=by
 refine bodyPost_ret ?_ m n;have q:a.tmps[p]?.getD undef=.c b:=by simpa using f
 have r:a.tmps[t]?.getD undef=v:=by simpa using l
 simp only[results,h];simp[q,r,asAddr,run_loadVar_mid w b 0 c cs d i j k hi]
def IJ(w w':NN)(e:Ending):Prop:=∃(na:NM)(nc:Nat)(L:List Qz)(g c:Nat)(Kj:List NL),e=.returned (.tuple #[.agg #[.slice na L.length nc],.b g Kj.length c])/\L.length<=200/\(∀d∈L,d.TinyN 30)/\bS w' (.slice na L.length nc) L/\Kj.length<=c/\Kj.length<=12/\(∀x∈Kj,x.size<=300)/\eX w' 9 (some ⟨g,0,none⟩) Kj/\K_ w w'
theorem yA(w:NN)(a:NM)(cap:Nat)(bs:List UInt8)(H:BytesAt w a bs)(I:bs.length<=cap)(J:bs.length<=100000000):Calls prog 5 #[.slice a bs.length cap] w λe w'=>IJ w w' e:=by
 have s:K_ w (w.alloc (.cells #[M3] 25)):=ah _ _;have M:=Kz (ay.made w #[M3] 25);have N:=Kz (H.kept s);have O:=Kz s;go_enter func5,ntmps5
 go_wp2_with fail
 refine (Ht _ a cap bs N.o I J).mono ?_;rintro e X ⟨i,rfl,Y,t,v⟩;let⟨x,y⟩:=aj (bs.take 2000);have P:x.length<=2000:=by rw[y,ML];omega
 rw[<-y] at t;rw[MZ] at Y;have Z:=Kz t;have a0:=Kz (O.o.trans v);have Q:=Kz (M.o.kept v)
 
 clear t v y N O M I J;go_wp2_with fail
 refine (Jf X i a cap x 0 Z.o E5 P).mono ?_;rintro e j ⟨b9,L,p1,rfl,c0,c1,hl,z,A,B,C,a1⟩;obtain⟨b,c,rfl,_,_⟩:=A.slice;let⟨d,l⟩:=aj (j.alloc (.cells #[.slice b L.length c] 25));let⟨n,D⟩:=aj j.heap.size;have p:K_ j d:=by rw[l];exact ah _ _
 have a2:=B.row.lt;have a3:d.heap.size=j.heap.size+1:=by rw[l];simp
 have E:Hid (∀u,Xj i (i+1) d u->u.cell? ⟨n,0,none⟩=some (.slice b L.length c)/\n<u.heap.size):=λu R=>by
  have hz:=R.size;refine⟨(MC (w:=d) (a:=⟨n,0,none⟩) (R.block n E5 E5)).trans ?_,E5⟩;rw[l,D];exact X_ j _ _ 0 _ rfl
 have S:=Kz (B.kept p);have T:=Kz (A.kept p);have a4:=Kz ((C.kept a0.o E5).trans p);have a5:=Kz ((Q.o.but C E5).kept p);have a6:Hid (∀F∈L,F.name.size<=300):=λF hd=>(z F hd).name
 have a7:=Kz z;have a8:n≠w.heap.size:=E5;go_upto_region 3 with fail
 rw[<-l,<-D];clear l D a3 p B A C a1 z Q a2;refine ik 5 E.o (.ax (aY d)) λf=>?_;have r:=aY d;generalize a9:d.drew=wd at f r⊢;clear a9;refine ae 0 f ?_;refine ae 1 f ?_;refine ae 2 f ?_;refine aG 3 λK h=>?_;go_simp
 go_at_call 33
 refine (FR wd i a cap x p1 b c L (S.o.kept r) E5 P (T.o.kept r) E5 a6.o).mono ?_;rintro e k ⟨g,b0,Kj,p3,rfl,b1,b2,b3,U,_,_,b4,V⟩;have q:=(Xj.ax r).trans V;have b5:=Kz (T.o.same (q.sameKind S.o) E8 E8 E8 E8);have G:=Kz (a5.o.but q E5);have b6:=Kz (q.kept a4.o E5);have b7:=Kz U;dsimp only;refine af h (λ_=>E.o _ q) ?_;have f:=E.o _ q;refine aG 4 λK h=>?_;refine wp_store_mid 25 _ _ rfl w.heap.size 0 #[.slice b L.length c] F7 F7 (G.o.row.there (o:=0) (m:=1) (Nat.le_refl _)) F4 J3 ?_;refine af h (λ_=>⟨by rw[World.setCells,World.setCells,Zj a8];exact f.1,by rw[World.setCells,World.setCells,size_setCell];exact f.2⟩) ?_;refine ai 5 λK h=>?_;go_simp
 refine af h (λb8=>NB rfl b8) ?_;refine aC ?_;go_wp2
 have hR:=Mo k w.heap.size 0 [.slice b L.length c] (G.o.row.there (o:=0) (m:=1) (Mj _));have W:aD 25 k (k.setCells w.heap.size 0 [.slice b L.length c]):=G.o.same _;have kf:K_ w (k.setCells w.heap.size 0 [.slice b L.length c]):=(Xj.sets (Mj w.heap.size) (MO _) [.slice b L.length c] 0 (Xj.refl _ _ k)).kept b6.o (Mj _);exact oh [.slice b L.length c] _ _ results5 rfl hR underlying25 rfl Tryz.gZ rfl rfl ⟨b,c,L,g,b0,Kj,rfl,hl,a7.o,b5.o.same W E8 E8 E8 E8,b1,b2,b3,b7.o.same W E8,kf⟩
section
variable {W wr w':NN}{rb:Nat}{a:NM}{cap:Nat}{bs:List UInt8}{p p':Nat}{v:NP}{l:List Int}
end
theorem yw(w:NN)(a:NM)(cap:Nat)(bs:List UInt8)(r:BytesAt w a bs)(s:bs.length<=cap)(t:bs.length<=100000000):Calls prog 19 #[.slice a bs.length cap] w λe w'=>IJ w w' e:=by
 have j:K_ w (w.alloc (.cells #[M3] 25)):=ah _ _;have v:=Kz (ay.made w #[M3] 25);go_enter func19,ntmps19
 go_wp2_with fail
 refine (yA _ a cap bs (r.kept j) s t).mono ?_;rintro e f ⟨b,c,L,g,x,Kj,rfl,y,k,l,z,A,B,n,p⟩;have h:=Kz (v.o.kept p);have⟨C,D,E⟩:=di l n k;let⟨⟨_,u0⟩,H⟩:=h.o.row.at (i:=0) E8;have I:=h.o.lt;go_wp2
 have F:=Mo f w.heap.size 0 [.slice b L.length c] (h.o.row.there (o:=0) (m:=1) (Mj _));have q:aD 25 f (f.setCells w.heap.size 0 [.slice b L.length c]):=h.o.same _;have G:K_ w (f.setCells w.heap.size 0 [.slice b L.length c]):=(Xj.sets (Mj w.heap.size) (MO _) [.slice b L.length c] 0 (Xj.refl _ _ f)).kept (j.trans p) (Mj _);exact oh [.slice b L.length c] _ _ results19 rfl F underlying25 rfl Tryz.gZ rfl rfl ⟨b,c,L,g,x,Kj,rfl,y,E.o,C.o.same q E8 E8 E8 E8,z,A,B,D.o.same q E8,G⟩
def oo(V:Nat->Nat)(f n i:Nat):NP:=.a ((if i<60 then V i else if i=60 then f else n:Nat):Int)
structure mW (w:NN)(rb:Nat)(Q:List Nat):Prop where
 ex:∃V f,f<60/\Q.length<=60/\w.rowIs rb 272 62 (oo V f Q.length)/\∀i,i<Q.length->V ((f+i) % 60)=Q.getD i 0
theorem mW.block{w w':NN}{rb:Nat}{Q:List Nat}(h:mW w rb Q)(k:w'.heap[rb]? =w.heap[rb]?):mW w' rb Q:=by
 let⟨V,f,a,b,⟨c,d,e⟩,i⟩:=h;exact⟨V,f,a,b,⟨c,k.trans d,e⟩,i⟩
theorem qB{w:NN}{b n:Nat}{t:TypeId}{F G:Nat->NP}(h:w.rowIs b t n F)(i:Nat)(v:NP)(c:∀p,p<n->G p=if p=i then v else F p):(w.setCell ⟨b,i,none⟩ v).rowIs b t n G:=by
 let⟨d,e,f,j⟩:=World.rowIs.set h i v;refine⟨d,e,f,λp a=>?_⟩;rw[j p a,c p a]
theorem ng{w w':NN}{b n:Nat}{t:TypeId}{F:Nat->NP}(h:w.rowIs b t n F)(k:K_ w w'):w'.rowIs b t n F:=by
 let⟨e,c,f⟩:=h;exact⟨e,(k.block b (aM c)).trans c,f⟩
theorem Fa(w:NN)(rb:Nat)(Q:List Nat)(p:Nat)(v:mW w rb Q)(E:Q.length<60):Calls prog 217 #[.c rb,.a (p:Int)] w λe w'=>e=.returned (.tuple #[])/\mW w' rb (Q++[p])/\But (λb=>b=rb) w w':=by
 let⟨V,f,F,hn,a,x⟩:=v.ex;let⟨n,q⟩:=aj Q.length;rw[<-q] at a E;let⟨k,y⟩:=aj ((f+n) % 60);have H:k<60:=E5;have I:w.cell? ⟨rb,60,none⟩=some (.a (f:Int)):=by rw[a.cell E5];rfl
 have z:w.cell? ⟨rb,61,none⟩=some (.a (n:Int)):=by rw[a.cell E5];rfl
 have J:((f:Int)+(n:Int)).tmod 60= (k:Int):=by rw[Int.tmod_eq_emod_of_nonneg E5];omega
 have r:=λi=>a.frozen i
 have K:=r k;have A:=r 61;have a0:(k:Int)<60:=E5;have L:=a.cell (show k<62 by omega);have s:=qB a k (.a (p:Int)) (G:=oo (λi=>if i=k then p else V i) f n) (λi d=>by
  unfold oo;by_cases e:i=k
  .subst e;simp[H]
  .simp[e])
 let⟨c,h⟩:=aj (w.setCell ⟨rb,k,none⟩ (.a (p:Int)));rw[<-h] at s;have B:But (λb=>b=rb) w c:=by rw[h];exact But.set (S:=λb=>b=rb) (But.ax (K_.refl w)) (p:=⟨rb,k,none⟩) rfl _
 have⟨M,N⟩:=aH s B;have O:Hid (∀i,i<Q.length->V ((f+i) % 60)=Q.getD i 0):=x;have P:Hid (k= (f+n) % 60):=y;have t:Hid (n=Q.length):=q;clear a r s B x y q v;go_enter func217,ntmps217
 go_wp2
 go_region
 rw[<-h];have j:=aY c;generalize R:c.drew=T at j⊢;clear h R I z K A L J;have l:=ng M.o j;have z:T.cell? ⟨rb,61,none⟩=some (.a (n:Int)):=by rw[l.cell E5];rfl
 have A:=l.frozen 61;have U:=Kz l;have W:=Kz (N.o.trans (But.ax j));go_wp2
 go_end0
 refine⟨rfl,⟨λi=>if i=k then p else V i,f,F,by rw[M_];simp;have:=t.o;omega,?_,λi d=>?_⟩,But.set (S:=λb=>b=rb) W.o (p:=⟨rb,61,none⟩) rfl _⟩
 .rw[M_];refine qB U.o 61 _ λi d=>?_;unfold oo;have m:=t.o;by_cases e:i=61
  .subst e;simp[m]
  .have X:¬i<60->i=60:=E5;by_cases C:i<60
   .simp[C,e]
   .simp[X C]
 .rw[M_] at d;have m:=t.o;have Y:=P.o;by_cases e:i=Q.length
  .subst e;simp only[<-m,<-Y,if_true,List.getD];rw[m];simp
  .have D:i<Q.length:=by simp at d;omega
   have Z:(f+i) % 60≠k:=E5;simp only[NA Z,O.o i D,List.getD,Np D]
theorem IU(w:NN)(rb:Nat)(Q:List Nat)(p:Nat)(v:mW w rb (p :: Q)):Calls prog 218 #[.c rb] w λe w'=>e=.returned (.a (p:Int))/\mW w' rb Q/\But (λb=>b=rb) w w':=by
 let⟨V,f,x,I,a,m⟩:=v.ex;let⟨n,h⟩:=aj Q.length;have y:V f=p:=by have:=m 0 E9;simpa[Nat.mod_eq_of_lt x] using this
 rw[Nc,<-h] at a;rw[Nc,<-h] at I;have W:(f:Int)<60:=E5;have z:Hid (∀u,w.rowIs rb 272 62 (oo V f (n+1))->K_ w u->u.cell? ⟨rb,60,none⟩=some (.a (f:Int))/\u.cell? ⟨rb,f,none⟩=some (.a (p:Int))):=λu a k=>by
  have A:=ng a k;refine⟨by rw[A.cell E5];rfl,?_⟩;rw[A.cell E5];unfold oo;rw[Nz x,y]
 let⟨q,B⟩:=z.o w a (K_.refl w);have C:=Kz a;have J:Hid (∀i,i<Q.length->V ((f+(i+1)) % 60)=Q.getD i 0):=λi j=>by have:=m (i+1) F6;simpa using this
 have D:Hid (n=Q.length):=h;clear a m h v y z;go_enter func218,ntmps218
 go_wp2
 go_region
 have r:=aY w;generalize K:w.drew=s at r⊢;clear K;have l:=ng C.o r;have q:s.cell? ⟨rb,60,none⟩=some (.a (f:Int)):=by rw[l.cell E5];rfl
 let⟨k,E⟩:=aj ((f+1) % 60);have L:((f:Int)+1).tmod 60= (k:Int):=by rw[Int.tmod_eq_emod_of_nonneg E5];omega
 have M:=l.frozen 60;have⟨N,F⟩:=aH l E;clear E;go_upto_region 3 with fail
 have c:=qB N.o 60 (.a (k:Int)) (G:=oo V k (n+1)) (λi j=>by
  unfold oo;by_cases e:i=60
  .subst e;simp
  .by_cases d:i<60
   .simp[d,e]
   .simp[d,e])
 have t:But (λb=>b=rb) w (s.setCell ⟨rb,60,none⟩ (.a (k:Int))):=But.set (S:=λb=>b=rb) (But.ax r) (p:=⟨rb,60,none⟩) rfl _;generalize O:s.setCell ⟨rb,60,none⟩ (.a (k:Int))=P at c t⊢;clear O;have B:P.cell? ⟨rb,61,none⟩=some (.a ((n+1:Nat):Int)):=by rw[c.cell E5];rfl
 have X:=c.frozen 61;have Y:((n+1:Nat):Int)-1= (n:Int):=E5;have H:=qB c 61 (.a (n:Int)) (G:=oo V k n) (λi j=>by
  unfold oo;by_cases e:i=61
  .subst e;simp
  .have R:¬i<60->i=60:=E5;by_cases d:i<60
   .simp[d,e]
   .simp[R d])
 have T:=Kz H;have U:=Kz (But.set (S:=λb=>b=rb) t (p:=⟨rb,61,none⟩) rfl (.a (n:Int)));go_wp2
 go_ret
 refine⟨rfl,⟨V,k,?_,?_,?_,λi j=>?_⟩,U.o⟩
 .rw[F.o];omega
 .have:=D.o;omega
 .rw[<-D.o];exact T.o
 .rw[<-J.o i j];have:=F.o
  congr 1
  omega
