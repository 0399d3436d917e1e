import Derived.Test.YtlfofiaagibapaaGreatDoorKBEnd
set_option maxRecDepth 100000
set_option maxHeartbeats 25600000
namespace Go.Proofs.YtlfofiaagibapaaGreatDoor
open Go.RowKit Go.Proofs.Tryz
theorem Tryz.xZ :(prog.info? 116).map (λi=>(i.zero,i.size,i.bytes))=some (some (.pointer none),1,8):=F4
theorem Gf(w:NN)(n:Nat)(p:n<=3145728):Calls prog 216 #[M3,.a n] w λe w'=>∃v,e=.returned v/\w'.ownsRow w.heap.size 116 1 v 0 []/\K_ w w':=by
 by_cases b:n=0
 .subst b;go_enter func216,ntmps216
  go_wp2
  go_ret
  exact⟨_,rfl,Nj _ _ _ _,K_.refl _⟩
 .obtain⟨c,d,f,h,i⟩:=info_parts Tryz.xZ;have a:=λj=>Lib.run_append_nil_zeros (P:=prog) w 151 3 j 116 c _ .i64 .i64 underlying151 Tryz.LD d f n E5 (by rw[h];omega) E5 (by rw[i];omega)
  have q:=grownCap_ge w n 0 116;have k:=grownCap_le_maxLen w n 0 116 F5;have l:=Kz a;clear a;have r:(0:Int)<(n:Int):=E5;go_enter func216,ntmps216
  go_wp2_with (at_builtin;refine Lib.wpList_append_run _ rfl (.tmp 20) (.tmp 21) _ _ rfl _ _ rfl rfl _ _ (l.o _) ?_)
  go_ret
  refine⟨_,rfl,World.ownsRow.drew (MQ w _ _ (Mj _) k ?_),(ah _ _).drew⟩;simp only[Array.size_append,size_zeroCells];have m:(#[Value.pointer none]:Array NP).size=1:=rfl;rw[m,<-Nat.add_mul]
  congr 1
  omega
def ES(w:NN)(b:Nat)(LL:List (List NP))(P:Nat->NM)(C:Nat->Nat):Prop:=b<w.heap.size/\∀i,i<LL.length->w.cell? ⟨b,i,none⟩=some (.slice (P i) (LL.getD i []).length (C i))/\((P i=none/\C i=0/\LL.getD i []=[])\/∃p1 p2,P i=some ⟨p1,p2,none⟩/\∀j u,(LL.getD i [])[j]? =some u->w.cell? ⟨p1,p2+j,none⟩=some u)
theorem ES.kept{w w':NN}{b:Nat}{a:List (List NP)}{P:Nat->NM}{C:Nat->Nat}(h:ES w b a P C)(k:K_ w w'):ES w' b a P C:=⟨Mk h.1 k.size,λi c=>⟨by rw[k.cell h.1];exact (h.2 i c).1,by
  rcases (h.2 i c).2 with g|⟨e,f,l,g⟩
  .exact .inl g
  .exact .inr ⟨e,f,l,λj u d=>by rw[k.cell (World.block_lt_of_cell? _ _ (g j u d))];exact g j u d⟩⟩⟩
theorem Ep(a:List (List NP))(k:Nat)(h:k<a.length):(a.take (k+1)).flatten= (a.take k).flatten++a.getD k []:=by
 rw[Ms h,List.flatten_append];simp[List.getD,h]
theorem GM(a:List (List NP))(k:Nat):(a.take k).flatten.length=sumTo List.length a k:=by
 unfold sumTo;rw[List.length_flatten]
theorem Cn(w:NN)(b cap:Nat)(a:List (List NP))(P:Nat->NM)(C:Nat->Nat)(hm:a.length<=3)(S:(a.map List.length).sum<=3145728)(T:∀l∈a,∀u∈l,u.oneCell'=true)(p:ES w b a P C):Calls prog 186 #[.b b a.length cap] w λe w'=>∃v,e=.returned v/\w'.ownsRow w.heap.size 116 1 v a.flatten.length a.flatten/\K_ w w':=by
 go_enter func186,ntmps186
 go_wp2
 go_loop [3,11] (λz i=>∃k:Nat,k<=a.length/\i=.a k/\z=.a (sumTo List.length a k:Nat)) (λ_ i=>a.length-(intOf i).toNat)
 case atStart=>exact⟨0,Ml _,rfl,by rw[Dp];rfl⟩
 case round=>
  obtain⟨k,U,rfl,rfl⟩:=hrel;by_cases f:k<a.length
  .have h:=(p.2 k f).1;have G:Hid (sumTo List.length a (k+1)=sumTo List.length a k+(a.getD k []).length):=DT _ a _ k f;have V:=sumTo_le List.length a (k+1);have a8:sumTo List.length a k+(a.getD k []).length<=3145728:=by have:=G.o;omega
   generalize sumTo List.length a k=H at *;generalize (a.getD k []).length=y at *;generalize P k=pk at *;clear V;go_wp2
   go_round
   case rel=>exact⟨k+1,E5,F3,by rw[G.o];go_num⟩
   case measure=>simp[intOf];omega
  .have A:k=a.length:=E5;subst A;have W:sumTo List.length a a.length<=3145728:=by rw[FO];exact S
   generalize sumTo List.length a a.length=H at *;go_wp2_with fail
   refine (Gf _ H W).mono ?_;rintro e w1 ⟨v1,rfl,c,X⟩;go_wp2
   go_loopw [6,27] (λz i wr=>∃(k:Nat),k<=a.length/\i=.a k/\wr.ownsRow w.heap.size 116 1 z (a.take k).flatten.length (a.take k).flatten/\K_ w wr) (λ_ i _=>a.length-(intOf i).toNat)
   case atStart=>exact⟨0,Ml _,rfl,by simpa using c,X⟩
   case round=>
    obtain⟨k,U,rfl,c,d⟩:=hrel;by_cases f:k<a.length
    .have h:=((p.kept d).2 k f).1;have a9:=(p.kept d).1;have I:=((p.kept d).2 k f).2;have n:=Ep a k f;have q:=GM a (k+1);have Y:=sumTo_le List.length a (k+1);rw[n,M_] at q;have B:=T (a.getD k []) (by simp[List.getD,f]);let⟨y,J⟩:=aj (a.getD k []);let⟨r,K⟩:=aj ((a.take k).flatten);rw[<-J] at h I q n B;rw[<-K] at c q n;have b0:r.length+y.length<=3145728:=E5;have⟨s,j⟩:=aH n c;have Z:=d.size;clear q Y n J K;rcases I with⟨D,a0,L⟩|⟨M,N,D,O⟩
     .rw[D,a0,L] at h;rw[L,List.append_nil] at s;rcases c.2 with⟨E,h0⟩|⟨g,cp,b1,E,b2,Q,b3,_,_,_⟩
      .subst E;simp only[List.length_nil] at h;clear c;go_wp2
       go_roundw
       case rel=>exact⟨k+1,E5,F3,by rw[s.o];exact j.o,d⟩
       case measure=>simp[intOf];omega
      .subst E;simp only[List.length_nil] at h;have b4:(r.length:Int)<=(cp:Int):=E5;have b5:=aM Q;clear c Q;go_wp2
       go_roundw
       case rel=>exact⟨k+1,E5,F3,by rw[s.o];exact j.o,d⟩
       case measure=>simp[intOf];omega
     .rw[D] at h;have R:∀t u,y[t]? =some u->wr.cell? ((⟨M,N,none⟩:Addr).add t)=some u:=λt u hu=>by
       rw[Nf];exact O t u hu
      let⟨i0,hi,a1,a2,a3⟩:=info_parts Tryz.xZ;have⟨a4,a5⟩:=aH R B;let⟨m,F⟩:=aj y.length;rw[<-F] at h;have x:=Kz F;clear R B O c F;go_wp2_with (at_builtin;refine wpList_append_own _ rfl (.tmp 31) (.tmp 32) 151 rfl w.heap.size 116 i0 _ 1 8 underlying151 hi a1 a2 a3 rfl E8 _ r.length r rfl j.o ⟨M,N,none⟩ m (C k) y rfl (by have:=x.o;omega) a4.o a5.o (by have:=x.o;unfold maxLen;omega) (by have:=x.o;omega) Z ?_;intro v' w2 a6 a7 _)
      go_roundw
      case rel=>exact⟨k+1,E5,F3,by rw[s.o,M_,<-x.o];exact a6,aK d (Mj _) j.o a7⟩
      case measure=>simp[intOf];omega
    .have A:k=a.length:=E5;subst A;rw[MS] at c;have j:=Kz c;clear c;go_wp2
     go_ret
     exact⟨_,rfl,j.o,d⟩
theorem Tryz.qi :(prog.info? 154).map (·.size)=some 2:=F4
def EM(w:NN)(A:NM)(c:Nat)(ys:List NP):Prop:=(A=none/\c=0/\ys=[])\/∃p1 p2,A=some ⟨p1,p2,none⟩/\∀j u,ys[j]? =some u->w.cell? ⟨p1,p2+j,none⟩=some u
theorem nP{w2:NN}{xs:List NP}{p n c1 c3 tb:Nat}{A1 A3:NM}(B:xs.length=n)(r:n<=1000)(E:p<=n)(C:∀u∈xs,u.oneCell'=true)(F:EM w2 A1 c1 (xs.take p))(G:EM w2 A3 c3 (xs.drop p)){m:Nat}(K:m=n+1):Calls prog 186 #[.b (w2.heap.size+1) 3 3] ((w2.alloc (.cells #[.c tb] 116)).alloc (.cells #[.slice A1 p c1,.b w2.heap.size 1 1,.slice A3 (n-p) c3] 151)).drew
   λe w'=>∃b d base,e=.returned (.slice b m d)/\w2.heap.size<=base/\w'.ownsRow base 116 1 (.slice b m d) m (xs.take p++ .c tb :: xs.drop p)/\K_ w2 w':=by
 have f:K_ w2 ((w2.alloc (.cells #[.c tb] 116)).alloc (.cells #[.slice A1 p c1,.b w2.heap.size 1 1,.slice A3 (n-p) c3] 151)).drew:=((ah _ _).alloc _).drew;have H:=vP (w:=w2) (x:=.c tb) (t:=116) (((K_.refl _).alloc (.cells #[.slice A1 p c1,.b w2.heap.size 1 1,.slice A3 (n-p) c3] 151)).drew);have D:∀{A c h},EM w2 A c h->∀W,K_ w2 W->(A=none/\c=0/\h=[])\/∃k l,A=some ⟨k,l,none⟩/\∀j u,h[j]? =some u->W.cell? ⟨k,l+j,none⟩=some u:=by
  intro A c h s W y;rcases s with s|⟨k,l,e,g⟩
  .exact .inl s
  .exact .inr ⟨k,l,e,λj u a=>by rw[y.cell (World.block_lt_of_cell? _ _ (g j u a))];exact g j u a⟩
 have I:([xs.take p,[.c tb],xs.drop p]:List (List NP)).flatten=xs.take p++ .c tb :: xs.drop p:=E9;refine (Cn _ (w2.heap.size+1) 3 [xs.take p,[.c tb],xs.drop p] (λi=>if i=0 then A1 else if i=1 then some ⟨w2.heap.size,0,none⟩ else A3) (λi=>if i=0 then c1 else if i=1 then 1 else c3) E9 (by simp[List.length_take,List.length_drop];omega) ?_ ⟨?_,λi z=>?_⟩).mono ?_
 .intro L r u a;simp only[Nh,Ni,or_false] at r;rcases r with rfl|rfl|rfl
  .exact C u (List.mem_of_mem_take a)
  .simp at a;subst a;rfl
  .exact C u (List.mem_of_mem_drop a)
 .show w2.heap.size+1<((w2.alloc _).alloc _).heap.size;simp
 .match i,z with
  |0,_=>exact⟨by simp[List.length_take,Nat.min_eq_left (B ▸ E)],D F _ f⟩
  |1,_=>exact⟨E9,.inr ⟨w2.heap.size,0,rfl,λj u a=>by
    match j,a with
    |0,a=>simp at a;subst a;exact H
    |j+1,a=>simp at a⟩⟩
  |2,_=>exact⟨by simp[List.length_drop,B],D G _ f⟩
  |i+3,z=>exfalso;simp at z;omega
 .rintro e w' ⟨v,rfl,q,y⟩;rw[I] at q;have J:(xs.take p++ .c tb :: xs.drop p).length=m:=by rw[M_,Nc,ML,List.length_drop];omega
  rw[J] at q;obtain⟨b,d,rfl⟩:=aF q;exact⟨b,d,_,rfl,f.size,q,f.trans y⟩
def Ia(l:List Qz)(n:NL)(tb:Nat)(xs:List NP)(w w':NN)(e:Ending):Prop:=∃(m:Nat)(a:NM)(cap base p:Nat),m=l.length+1/\e=.returned (.agg #[.slice a m cap,.func (.func 100) #[] #[]])/\w.heap.size<=base/\w'.ownsRow base 116 1 (.slice a m cap) m (xs.take p++ .c tb :: xs.drop p)/\Place l n.toList p/\K_ w w'
theorem wC{w a:NN}{x y:NP}{t:TypeId}(K:K_ (w.alloc (.cells #[x,y] t)) a):a.cell? ⟨w.heap.size,0,none⟩=some x/\a.cell? ⟨w.heap.size,1,none⟩=some y:=⟨(K.cell E9).trans (X_ w #[x,y] t 0 _ rfl),(K.cell E9).trans (X_ w #[x,y] t 1 _ rfl)⟩
theorem jW.one{w:NN}{xs:List NP}{l:List Qz}(h:jW w xs l):∀u∈xs,u.oneCell'=true:=by
 intro u d;obtain⟨i,b,rfl⟩:=MB d;let⟨f,_,_,e,_⟩:=h.2 i (by rw[<-h.1];exact b);rw[Mq b] at e;rw[Nl e]
 rfl
abbrev xD (w:NN)(a:NM)(n cap:Nat):NN:=(w.alloc (.cells #[.slice a n cap,.func (.func 100) #[] #[]] 154)).alloc (.cells #[M3,.nilFunc] 154)
theorem FJ(w:NN)(a:NM)(cap:Nat)(l:List Qz)(d:Qz)(xs:List NP)(a1 tb:Nat)(hl:l.length<=100)(hr:f_ l)(a2:∀j,j<l.length->nameAt l j≠d.name.toList)(M:w.ownsRow a1 116 1 (.slice a l.length cap) l.length xs)(W:jW w xs l)(a3:tb<w.heap.size)(a4:w.cell? ⟨tb,0,none⟩=some (.string d.name)):Calls prog 162 #[.agg #[.slice a l.length cap,.func (.func 100) #[] #[]],.c tb] w λe w'=>Ia l d.name tb xs w w' e:=by
 have X:=ed M;have N:xs.length=l.length:=by have:=M.1;omega
 have E:K_ w (xD w a l.length cap):=(ah _ _).alloc _;have Y:Hid (∀w',K_ (xD w a l.length cap) w'->(λw'=>M4 w' w.heap.size 0 (.slice a l.length cap)/\M4 w' w.heap.size 1 (.func (.func 100) #[] #[])) w'):=λw' k=>wC (w:=w) (K_.trans (ah _ _) k)
 have a5:Hid (Row (xD w a l.length cap) (w.heap.size+1) 2):=by have:=Row.made (w.alloc (.cells #[.slice a l.length cap,.func (.func 100) #[] #[]] 154)) #[M3,.nilFunc] 154;show Row _ _ _;simpa using this
 go_enter func162,ntmps162
 go_wp2
 go_region_held (λw'=>M4 w' w.heap.size 0 (.slice a l.length cap)/\M4 w' w.heap.size 1 (.func (.func 100) #[] #[])) (exact bg Y _ G5) ((first|(go_at_call 100;refine (vS _ tb d.name ((K_.cell (E.trans G5) a3).trans a4)).mono ?_;rintro e w1 ⟨rfl,rfl⟩)|(go_at_call 185;refine (zi _ a cap l d.name E5 hr xs (W.kept (E.trans G5)) (X.kept (E.trans G5))).mono ?_;rintro e r ⟨a6,Z⟩;obtain⟨p,f,rfl,hp,hf⟩:=a6;have F:K_ (xD w a l.length cap) r:=K_.trans G5 Z;have G:=Kz hp;have HF:=Kz hf;clear hp hf Z)))
 all_goals
  have a7:f=false:=by
   cases f
   .rfl
   .have:=HF.o.1 rfl;exact NB this.2 (a2 p this.1)
  subst a7;have z2:=F.size;simp only[xD,MZ] at z2;have H:=E.trans F;have O:=Y.o r F;have I:=a5.o.kept F;let⟨⟨_,x0⟩,g0⟩:=I.at (i:=0) E5;let⟨⟨_,x1⟩,g1⟩:=I.at (i:=1) E5;have P:=Kz I;have Q:=G.o.le;clear I;let⟨m,v⟩:=aj (l.length+1);have R:=Kz v;have S:Hid (∀w',Xj (w.heap.size+1) (w.heap.size+2) r w'->(λw'=>M4 w' w.heap.size 0 (.slice a l.length cap)/\M4 w' w.heap.size 1 (.func (.func 100) #[] #[])) w'):=λw' k=>
   have ks:=k.same (l2:=w.heap.size) (h2:=w.heap.size+1) E5
   ⟨(ks.cell (Mj _) E5 E5).trans O.1,(ks.cell (Mj _) E5 E5).trans O.2⟩
  let⟨s1,s2⟩:=O;have x:=W.one;have J:=X.kept H;have u0:w.heap.size<r.heap.size:=E5;have u2:w.heap.size+1<r.heap.size:=E5;rcases M.2 with⟨y,h0⟩|⟨g,cp,b1,y,_,hg,b2,_,_,_⟩
  .simp only[Nb] at y;let⟨T,_,U⟩:=y;subst T U;have a8:p=0:=E5;subst a8;have V:xs=[]:=NE E5;have n:=nP (w2:=r) (c1:=0) (c3:=0) (tb:=tb) (A1:=none) (A3:=none) N E5 Q x (.inl ⟨rfl,rfl,by rw[V];rfl⟩) (.inl ⟨rfl,rfl,by rw[V];rfl⟩) v;obtain rfl:l=[]:=NE h0;simp only[List.length_nil,Nat.zero_sub] at n s1;have z:=Kz n;clear n V x J v;go_wp2
   go_region_held (λw'=>M4 w' w.heap.size 0 M3/\M4 w' w.heap.size 1 (.func (.func 100) #[] #[])) (exact bg S _ (by repeat (first|exact Xj.refl _ _ _|exact Xj.ax H8|apply Xj.drew|(refine Xj.setCell ?_ E9 E9 _)|apply Xj.alloc))) ((go_at_call 186;refine (bg z).mono ?_;rintro e s ⟨b,c,base,rfl,a0,t,k⟩;have q:=Kz (P.o.kept k);let⟨⟨_,y0⟩,e0⟩:=q.o.at (i:=0) E5;let⟨⟨_,y1⟩,e1⟩:=q.o.at (i:=1) E5;have A:=Kz t;clear t))
   all_goals
    go_wp2
    have B:=Mo s (w.heap.size+1) 0 [.slice b m c,.func (.func 100) #[] #[]] (q.o.there (o:=0) (m:=2) (Mj _));have C:K_ w ((s.setCell ⟨w.heap.size+1,0,none⟩ (.slice b m c)).setCell ⟨w.heap.size+1,1,none⟩ (.func (.func 100) #[] #[])):=((H.trans k).setCell E9 _).setCell E9 _;have D:=bM (bM A.o (p:=⟨w.heap.size+1,0,none⟩) F8 (.slice b m c)) (p:=⟨w.heap.size+1,1,none⟩) F8 (.func (.func 100) #[] #[]);exact Zx [.slice b m c,.func (.func 100) #[] #[]] _ results162 rfl B underlying154 rfl Tryz.qi rfl ⟨m,b,c,base,_,R.o,rfl,E5,D,G.o,C⟩
  .simp only[Nb] at y;let⟨T,_,U⟩:=y;subst T U;have K:∀j u,xs[j]? =some u->M4 r g (0+j) u:=λj u h=>by
    let⟨b',o',e',_,a9⟩:=J j (Mr.1 h).1;simp only[Na,NI,and_true] at e';obtain⟨rfl,rfl⟩:=e';exact a9 j u h
   have L:EM r (some ⟨g,0,none⟩) cap (xs.take p):=.inr ⟨g,0,rfl,λj u h=>K j u (by rw[List.getElem?_take] at h;split at h;exact h;cases h)⟩;have i1:(p:Int)<=(cap:Int):=E5;have i2:(p:Int)<=(l.length:Int):=E5;by_cases b0:cap=p
   .have b3:l.length=p:=E5;have n:=nP (w2:=r) (c1:=p) (c3:=0) (tb:=tb) (A1:=some ⟨g,0,none⟩) (A3:=some ⟨g,0,none⟩) N E5 Q x (b0 ▸ L) (.inr ⟨g,0,rfl,λj u h=>by rw[List.drop_eq_nil_of_le E5] at h;simp at h⟩) v;rw[show l.length-p=0 by omega] at n;have z:=Kz n;clear n x J K L v;go_wp2
    go_region_held (λw'=>M4 w' w.heap.size 0 (.b g l.length cap)/\M4 w' w.heap.size 1 (.func (.func 100) #[] #[])) (exact bg S _ (by repeat (first|exact Xj.refl _ _ _|exact Xj.ax H8|apply Xj.drew|(refine Xj.setCell ?_ E9 E9 _)|apply Xj.alloc))) ((go_at_call 186;refine (bg z).mono ?_;rintro e s ⟨b,c,base,rfl,a0,t,k⟩;have q:=Kz (P.o.kept k);let⟨⟨_,y0⟩,e0⟩:=q.o.at (i:=0) E5;let⟨⟨_,y1⟩,e1⟩:=q.o.at (i:=1) E5;have A:=Kz t;clear t))
    all_goals
     go_wp2
     have B:=Mo s (w.heap.size+1) 0 [.slice b m c,.func (.func 100) #[] #[]] (q.o.there (o:=0) (m:=2) (Mj _));have C:K_ w ((s.setCell ⟨w.heap.size+1,0,none⟩ (.slice b m c)).setCell ⟨w.heap.size+1,1,none⟩ (.func (.func 100) #[] #[])):=((H.trans k).setCell E9 _).setCell E9 _;have D:=bM (bM A.o (p:=⟨w.heap.size+1,0,none⟩) F8 (.slice b m c)) (p:=⟨w.heap.size+1,1,none⟩) F8 (.func (.func 100) #[] #[]);exact Zx [.slice b m c,.func (.func 100) #[] #[]] _ results162 rfl B underlying154 rfl Tryz.qi rfl ⟨m,b,c,base,_,R.o,rfl,E5,D,G.o,C⟩
   .have n:=nP (w2:=r) (c1:=cap) (c3:=cap-p) (tb:=tb) (A1:=some ⟨g,0,none⟩) (A3:=some ⟨g,0+p*1,none⟩) N E5 Q x L (.inr ⟨g,0+p*1,rfl,λj u h=>by rw[List.getElem?_drop] at h;have:=K _ u h;rw[show 0+p*1+j=0+(p+j) by omega];exact this⟩) v;simp only[Nat.mul_one,MR] at n;have z:=Kz n;clear n x J K L v;go_wp2
    go_region_held (λw'=>M4 w' w.heap.size 0 (.b g l.length cap)/\M4 w' w.heap.size 1 (.func (.func 100) #[] #[])) (exact bg S _ (by repeat (first|exact Xj.refl _ _ _|exact Xj.ax H8|apply Xj.drew|(refine Xj.setCell ?_ E9 E9 _)|apply Xj.alloc))) ((go_at_call 186;refine (bg z).mono ?_;rintro e s ⟨b,c,base,rfl,a0,t,k⟩;have q:=Kz (P.o.kept k);let⟨⟨_,y0⟩,e0⟩:=q.o.at (i:=0) E5;let⟨⟨_,y1⟩,e1⟩:=q.o.at (i:=1) E5;have A:=Kz t;clear t))
    all_goals
     go_wp2
     have B:=Mo s (w.heap.size+1) 0 [.slice b m c,.func (.func 100) #[] #[]] (q.o.there (o:=0) (m:=2) (Mj _));have C:K_ w ((s.setCell ⟨w.heap.size+1,0,none⟩ (.slice b m c)).setCell ⟨w.heap.size+1,1,none⟩ (.func (.func 100) #[] #[])):=((H.trans k).setCell E9 _).setCell E9 _;have D:=bM (bM A.o (p:=⟨w.heap.size+1,0,none⟩) F8 (.slice b m c)) (p:=⟨w.heap.size+1,1,none⟩) F8 (.func (.func 100) #[] #[]);exact Zx [.slice b m c,.func (.func 100) #[] #[]] _ results162 rfl B underlying154 rfl Tryz.qi rfl ⟨m,b,c,base,_,R.o,rfl,E5,D,G.o,C⟩
def Zk.fresh(nb:Nat)(n:NL)(cost:Int)(steps:List Xq)(sa:NM)(sc:Nat):Zk:=⟨nb,Q_.fresh n,cost,steps,sa,sc,0,M3,M3,[],⟨#[]⟩⟩
def Ih(Kq:List Qz)(ts:List Zk)(n:NL)(ts':List Zk):Prop:=(ts'=ts/\(Kk Kq n=none\/∃t∈ts,t.r.name=n))\/(∃p new,ts'=ts.take p++new :: ts.drop p/\new.r=Q_.fresh n/\(new.op=0/\new.bq= (⟨#[]⟩,[]))/\(∀t∈ts,t.r.name≠n)/\(Kk Kq n).isSome=true)
theorem Ey{l:List Q_}{p:Nat}{r:Q_}(h:dB l)(e:∀x∈l.take p,aQ x.name r.name)(h2:∀x∈l.drop p,aQ r.name x.name):dB (l.take p++r :: l.drop p):=by
 have a:dB (l.take p++l.drop p):=by rw[Nr];exact h
 unfold dB at a⊢;rw[MP] at a⊢;refine⟨a.1,NH.2 ⟨h2,a.2.1⟩,λx c y b=>?_⟩;rcases Nh.1 b with rfl|b
 .exact e x c
 .exact a.2.2 x c y b
section
variable {G:cZ}{Kq:List Qz}{wz w w':NN}{bb:Nat}{a:NM}{cap:Nat}{rd:NM}{rn rc:Nat}{mb mx:Nat}{ts:List Zk}{d:NM}{dc:Nat}{f:NL -> NP}{ws:NL -> List Nat}
theorem BM.insert(h:BM G Kq wz w bb a cap rd rn rc mb mx ts d dc f ws){l:NN}{n:NL}{new:Zk}(k:K_ w l)(L:kN wz.heap.size l new)(M:new.r.name=n)(T:Kk Kq n=some ⟨new.cost,new.steps⟩)(U:Steps wz new.sa new.steps)(V:∀t∈ts,t.r.name≠n)(W:w.heap.size<=new.tb)(H:new.own=[])(X:new.qs=[]){z:NM}{A base m q:Nat}(P:w.heap.size<=base)(hm:m=ts.length+1)(I:l.ownsRow base 116 1 (.slice z m A) m ((ts.map Zk.ptr).take q++ .c new.tb :: (ts.map Zk.ptr).drop q))(N:Place (iZ ts) n.toList q):BM G Kq wz ((l.setCell ⟨bb,3,none⟩ (.slice z m A)).setCell ⟨bb,4,none⟩ (.func (.func 100) #[] #[])) bb a cap rd rn rc mb mx (ts.take q++new :: ts.drop q) z A f ws:=by
 have j:=h.kept k;have zb:=h.row.lt;have v:But (λb=>b=bb) l ((l.setCell ⟨bb,3,none⟩ (.slice z m A)).setCell ⟨bb,4,none⟩ (.func (.func 100) #[] #[])):=But.set (S:=λb=>b=bb) (But.set (S:=λb=>b=bb) (But.ax (K_.refl l)) (p:=⟨bb,3,none⟩) rfl _) (p:=⟨bb,4,none⟩) rfl _;have J:(ts.take q++new :: ts.drop q).length=m:=by have:=N.le;rw[dZ] at this;simp[List.length_take,List.length_drop];omega
 have B:∀u,u∈ts.take q++new :: ts.drop q↔u=new\/u∈ts:=λu=>by
  rw[Mv,Nh];constructor
  .rintro (h|h|h)
   .exact .inr (List.mem_of_mem_take h)
   .exact .inl h
   .exact .inr (List.mem_of_mem_drop h)
  .rintro (h|h)
   .exact .inr (.inl h)
   .rw[<-Nr q ts] at h;rcases Mv.1 h with h|h
    .exact .inl h
    .exact .inr (.inr h)
 have C:∀{b:Nat}{t:TypeId},bA l b t->t≠156->¬b=bb:=λc Y i=>aU c j.row.type Y i
 let⟨Z,a0,hN,Q,hf⟩:=j.map;have nm:¬mb=bb:=λi=>iC Q j.row.type i.symm
 have eZ:∀u∈ts.take q++new :: ts.drop q,kN wz.heap.size ((l.setCell ⟨bb,3,none⟩ (.slice z m A)).setCell ⟨bb,4,none⟩ (.func (.func 100) #[] #[])) u:=λu c=>by
  rcases (B u).1 c with rfl|c
  .exact L.but v (C L.row.type E8) (λx e=>C (L.fB e).1 E8)
  .have y:=j.eZ u c;exact y.but v (C y.row.type E8) λx e=>C (y.fB e).1 E8
 have a1:Fen G ((l.setCell ⟨bb,3,none⟩ (.slice z m A)).setCell ⟨bb,4,none⟩ (.func (.func 100) #[] #[])) bb mb (ts.take q++new :: ts.drop q) f:=by
  have D:=j.oth.but v (λb i=>by rw[i];exact h.oth.nb);refine⟨D.size,D.lt,D.same,D.nb,D.nm,λu c=>?_,D.nf,λa2 hp=>by let⟨u,c,g⟩:=h.oth.has a2 hp;exact⟨u,(B u).2 (.inr c),g⟩⟩;rcases (B u).1 c with rfl|c
  .exact⟨h.oth.far W,λx e=>by rw[H] at e;cases e⟩
  .exact h.oth.nt u c
 refine⟨v.kept j.kw (λb i=>by rw[i];exact h.low),(j.row.set _).set _,?_,?_,?_,?_,aR (j.row.set _).row E5 _,?_,h.low,?_,eZ,?_,?_,?_,?_,?_,⟨Z,a0,hN,iQ Q v nm,hf⟩,h.Bq,λK=>v.owns (j.jf K) λb i=>C (Y_ (j.jf K) i) E8,h.yU,λK x e i=>?_,λu c=>by rcases (B u).1 c with rfl|c;rw[X];exact Ml _;exact h.qb u c,a1,λx e a3=>h.oth.far (Mm P (I.lt x (by rw[J] at e;exact e)).1) a3.2⟩
 .rw[Xk E5,Xk E5];exact j.c0
 .rw[Xk E5,Xk E5];exact j.c1
 .rw[Xk E5,Xk E5];exact j.c2
 .rw[Xk E5,J];exact aR j.row.row E5 _
 .rw[Xk E5,Xk E5];exact j.c5
 .rw[J];have i:(ts.take q++new :: ts.drop q).map Zk.ptr= (ts.map Zk.ptr).take q++ .c new.tb :: (ts.map Zk.ptr).drop q:=by simp[List.map_take,List.map_drop,Zk.ptr]
  rw[i];exact v.owns (dN I (Mm h.kw.size P)) λb i=>C (Y_ I i) E8
 .intro u c;rcases (B u).1 c with rfl|c
  .rw[M];exact⟨T,U⟩
  .exact h.act u c
 .have i:Qj (ts.take q++new :: ts.drop q)= (Qj ts).take q++new.r :: (Qj ts).drop q:=by simp[Qj,List.map_take,List.map_drop]
  rw[i];refine Ey h.asc (λx e=>?_) (λx e=>?_)
  .obtain⟨s,E,rfl⟩:=MB e;rw[ML] at E;rw[MW];have F:s<ts.length:=by simp[Qj] at E;omega
   have:=N.before s E5;unfold nameAt at this;rw[iK F] at this;rw[M];simpa[Qj,aQ] using this
  .obtain⟨s,E,rfl⟩:=MB e;rw[List.length_drop] at E;rw[List.getElem_drop];have F:q+s<ts.length:=by simp[Qj] at E;omega
   have:=N.behind (q+s) E5 (by rw[dZ];exact F);unfold nameAt at this;rw[iK F] at this;rw[M];have e2:(Qj ts)[q+s]=ts[q+s].r:=by simp[Qj]
   rw[e2];rcases dR n ts[q+s].r.name with g|g|g
   .exact g
   .exact NB g.symm (V _ (Mw F))
   .unfold aQ at g;rw[this] at g;cases g
 .have i:(ts.take q++new :: ts.drop q).map (·.tb)= (ts.map (·.tb)).take q++new.tb :: (ts.map (·.tb)).drop q:=by simp[List.map_take,List.map_drop]
  rw[i];have R:∀x∈ts.map (·.tb),x<new.tb:=λx e=>by
   obtain⟨t,y,rfl⟩:=MM.1 e;have:=(h.eZ t y).row.lt;omega
  have p:((ts.map (·.tb)).take q++(ts.map (·.tb)).drop q).Nodup:=by rw[Nr];exact h.tbs
  rw[List.nodup_append] at p⊢;refine⟨p.1,List.nodup_cons.2 ⟨λe=>?_,p.2.1⟩,λx e a4 O=>?_⟩
  .have:=R _ (List.mem_of_mem_drop e);omega
  .rcases Nh.1 O with rfl|O
   .have:=R _ (List.mem_of_mem_take e);omega
   .exact p.2.2 x e a4 O
 .have p:(ts.take q++ts.drop q).Pairwise λt u=>∀x∈t.own,x∉u.own:=by rw[Nr];exact h.sep
  rw[MP] at p⊢;refine⟨p.1,NH.2 ⟨λu _ x e=>(by rw[H] at e;cases e),p.2.1⟩,λt y u c x e=>?_⟩;rcases Nh.1 c with rfl|c
  .rw[H];simp
  .exact p.2.2 t y u c x e
 .intro u c;rcases (B u).1 c with rfl|c
  .rw[H];exact List.nodup_nil
  .exact h.yX u c
 .have h1:=((h.jf K).lt x e).2;rw[J] at i;have h2:=(I.lt x i).1;omega
theorem uX(x:BM G Kq wz w bb a cap rd rn rc mb mx ts d dc f ws)(n:NL)(hl:ts.length<=90)(a7:Kq.length<=1048576)(L:f_ Kq)(W:bQ wz a Kq):Calls prog 101 #[.c bb,.string n] w λe w'=>e=.returned (.tuple #[])/\∃ts' d' dc',BM G Kq wz w' bb a cap rd rn rc mb mx ts' d' dc' f ws/\Ih Kq ts n ts':=by
 have b0:=x.c0;have b1:=x.c1;have zk:=x.row.lt;have s:=Kz x;clear x;go_enter func101,ntmps101
 go_wp2_with fail
 refine (Ib _ a cap Kq n a7 L (W.kept s.o.kw)).mono ?_;rintro e w1 ⟨⟨p,fd,rfl,X,Y⟩,z⟩;have⟨Z,M⟩:=aH X Y;have b9:=(s.o.kept z).row.lt;clear X Y b0 b1;cases fd
 .go_wp2_with fail
  refine bodyPost_ret (results_none rfl _ _ _) rfl ?_;refine⟨rfl,ts,d,dc,s.o.kept z,.inl ⟨rfl,.inl (zh λj m e=>?_)⟩⟩;have A:nameAt Kq j=n.toList:=by unfold nameAt;rw[e]
  have e2:=Place.only L Z.o m A;rw[e2] at m A;have:=M.o.2 ⟨m,A⟩;cases this
 have a0:=(M.o.1 rfl).1;have N:Hid (Kk Kq n=some ⟨(Kq.getD p Qz.zero).cost,(Kq.getD p Qz.zero).steps⟩):=AZ a0 (toList_inj.1 (M.o.1 rfl).2) (λj m e=>by
  have A:nameAt Kq j=n.toList:=by unfold nameAt;rw[e]
  have:=Place.only L Z.o E5 A;omega)
 go_wp2_with fail
 refine (qN (s.o.kept z) n E5).mono ?_;rintro e B ⟨⟨O,hi,a9,rfl⟩|⟨a1,rfl⟩,k2⟩
 .have a2:ts[O].ptr=.c (ts[O].tb):=rfl;rw[a2];clear a2;go_wp2_with fail
  refine bodyPost_ret (results_none rfl _ _ _) rfl ?_;exact⟨rfl,ts,d,dc,s.o.kept (z.trans k2),.inl ⟨rfl,.inr ⟨ts[O],Mw hi,a9⟩⟩⟩
 have b2:=z.trans k2;have k:=s.o.kept b2;obtain⟨b,o,cs,rfl,P,F,c,h,rfl,Q⟩:=W p a0;let⟨y,hy⟩:=aj (Kq.getD p Qz.zero);rw[<-hy] at F Q N;have hb:=Mk P k.kw.size;have c1:M4 B b (o+p*3+1) (.a y.cost):=(k.kw.cell P).trans (F 1 _ rfl);have c2:M4 B b (o+p*3+2) (.slice c y.steps.length h):=(k.kw.cell P).trans (F 2 _ rfl);have m0:=k.c0;have m3:=k.c3;have m4:=k.c4;have R:=k.row.lt;have⟨t,T,HA⟩:=di k a1 Q;have H:Hid (∀w',K_ B w'->M4 w' bb 0 (.slice (some ⟨b,o,none⟩) Kq.length cap)/\M4 w' bb 3 (.slice d ts.length dc)/\M4 w' bb 4 (.func (.func 100) #[] #[])/\M4 w' b (o+p*3+1) (.a y.cost)/\M4 w' b (o+p*3+2) (.slice c y.steps.length h)):=λw' C=>⟨(C.cell R).trans m0,(C.cell R).trans m3,(C.cell R).trans m4,(C.cell hb).trans c1,(C.cell hb).trans c2⟩
 have c5:(p:Int)<(Kq.length:Int):=E5;clear F Q hy k a1 c1 c2 m0 m3 m4;go_upto_region 2 with fail
 refine bF 21 H.o λi KD l=>?_
 refine ak 0 l ?_;refine ak 4 l ?_;refine ak 8 l ?_;refine ak 12 l ?_;refine ae 16 l ?_;refine ai 17 λK q=>?_;go_simp
 have K3:K_ i (i.alloc (.cells #[.string n,.bool false,.bool false,.string ⟨#[]⟩,.a 0,.a 0,M3,.a y.cost,.slice c y.steps.length h,.a 0,M3,.string ⟨#[]⟩] 118)):=ah _ _;have D:ay (i.alloc (.cells #[.string n,.bool false,.bool false,.string ⟨#[]⟩,.a 0,.a 0,M3,.a y.cost,.slice c y.steps.length h,.a 0,M3,.string ⟨#[]⟩] 118)) i.heap.size 118 12:=ay.made i _ _;have E:(i.alloc (.cells #[.string n,.bool false,.bool false,.string ⟨#[]⟩,.a 0,.a 0,M3,.a y.cost,.slice c y.steps.length h,.a 0,M3,.string ⟨#[]⟩] 118)).rangeAt i.heap.size 0 [.string n,.bool false,.bool false,.string ⟨#[]⟩,.a 0,.a 0,M3,.a y.cost,.slice c y.steps.length h,.a 0,M3,.string ⟨#[]⟩]:=X_ i _ _;have v:=KD.trans K3;refine q.out _ _ (λ_=>H.o _ v) ?_;clear q K l;have zd:=KD.size;let⟨r,a3⟩:=aj i.heap.size;have b3:B.heap.size<=r:=E5;rw[<-a3] at D E⊢;generalize b4:i.alloc (.cells #[.string n,.bool false,.bool false,.string ⟨#[]⟩,.a 0,.a 0,M3,.a y.cost,.slice c y.steps.length h,.a 0,M3,.string ⟨#[]⟩] 118)=U at D E v⊢;clear b4 K3 a3;have a4:M4 U r 0 (.string n):=E 0 _ rfl;have V:=Kz (FJ U d dc (iZ ts) ⟨n,0,[]⟩ (ts.map Zk.ptr) wz.heap.size r (by rw[dZ];omega) (tN t.o.asc) (λj m e=>by rw[dZ] at m;unfold nameAt at e;rw[iK m] at e;exact T.o _ (Mw m) (toList_inj.1 e)) (by rw[dZ];exact (t.o.kept v).items) (t.o.kept v).packed D.lt a4);rw[dZ] at V;have a5:Hid (kN wz.heap.size U (Zk.fresh r n y.cost y.steps c h)):=⟨D,E,Nj _ _ _ _,Nj _ _ _ _,by have:=t.o.kw.size;show wz.heap.size<=r;omega⟩;clear a4 E D;try simp only[upP]
 refine aG 18 λK q=>?_;go_simp
 go_at_call 162
 refine V.o.mono ?_;rintro e w8 ⟨c6,a8,b5,base,b6,hm,rfl,b7,a6,hq,k8⟩;have I:=v.trans k8;have J:=t.o.kept I;let⟨⟨_,x3⟩,f3⟩:=J.row.row.at (i:=3) E5;let⟨⟨_,x4⟩,f4⟩:=J.row.row.at (i:=4) E5;have c7:=J.row.lt;have HI:=Kz (t.o.insert (n:=n) (new:=Zk.fresh r n y.cost y.steps c h) I (a5.o.but (S:=λ_=>False) (But.ax k8) id λ_ _=>id) rfl N.o HA.o T.o b3 rfl rfl (by have h1:=v.size;exact Mm h1 b7) (by rw[<-dZ ts];exact hm) a6 hq);clear a6 J hq hm V a5;refine q.out _ _ (λ_=>H.o _ I) ?_;clear q K;have l:=H.o _ I;try simp only[upP]
 refine ae 19 l ?_;refine ae 20 l ?_;refine ai 21 λK q=>?_;go_simp
 refine af q (λb8=>NB rfl b8) ?_;clear q K;refine aC ?_;go_wp2
 go_end0
 exact⟨rfl,_,a8,b5,HI.o,.inr ⟨b6,Zk.fresh r n y.cost y.steps c h,rfl,rfl,⟨rfl,rfl⟩,T.o,by rw[N.o];rfl⟩⟩
end
section
variable {P:Program}{w:NN}
theorem vB(base:Nat)(t b e:TypeId)(i:TypeInfo)(size:Nat)(a:P.underlying t=some (.slice e))(hi:P.info? e=some i)(v:NP)(n:Nat)(xs:List NP)(d:w.ownsRow base e size v n xs)(x:NM)(c:Nat):(Builtin.append_ #[t,t] b #[v,.slice x 0 c]).run P w=.ok v w:=by
 rcases d.2 with⟨rfl,rfl⟩|⟨g,h,j,rfl,_,_,f,_⟩
 .cases x<;>simp[Builtin.append_,run_underlying a,sizeOf,typeInfo,hi,Builtin.lenOf,Builtin.firstCells,loadCells,loadCellsFrom]
 .cases x<;>simp[Builtin.append_,run_underlying a,sizeOf,typeInfo,hi,Builtin.lenOf,Builtin.firstCells,f,storeCells,loadCells,loadCellsFrom]
theorem fw{o:Oper}{a:Act}{K:Act->NN->Prop}{Q:Exit->Act->NN->Prop}(s x:Operand)(t:TypeId)(q:o.op=.call {callee:=.builtin .append,args:= #[s,x],argTypes:= #[t,t]})(base:Nat)(e:TypeId)(i:TypeInfo)(z:NP)(f:Nat)(r:P.underlying t=some (.slice e))(hi:P.info? e=some i)(F:i.zero=some z)(G:i.size=1)(H:i.bytes=f)(I:z.cells.size=1)(v:NP)(n:Nat)(xs:List NP)(y:a.eval s=v)(h:w.ownsRow base e 1 v n xs)(j:NM)(c:Nat)(l:List NL)(k:a.eval x=.slice j l.length c)(A:Strs w j l)(J:n+l.length<=maxLen)(L:(n+l.length)*f<=140737488355328)(M:base<=w.heap.size)(B:∀v' w',w'.ownsRow base e 1 v' (n+l.length) (xs++l.map Value.string)->w.grownBy w' v.ownBlock->(∀g,v'.ownBlock=some g->v.ownBlock=some g\/w.heap.size<=g)->K (a.put o.dst v') w'):o.wp P a w K Q:=by
 by_cases C:l.length=0
 .have N:=MF.1 C;rw[C] at k;refine Go.Lib.wp_append_run w s x t t q v _ y k v w (vB base t o.type e i 1 r hi v n xs h j c) (B v w ?_ ⟨rfl,rfl,rfl,Mj _,λ_ _ _=>rfl⟩ λg e=>.inl e);rw[N];simpa using h
 .obtain⟨O,R,D,V,_⟩:=A 0 E5;refine wp_append_lies w s x t q base e i z 1 f r hi F G H I E8 v n xs y h ⟨O,R,none⟩ l.length c (l.map Value.string) (by rw[k,D]) E9 (λE u b=>?_) (λu b=>by obtain⟨x,_,rfl⟩:=MM.1 b;rfl) E5 J L M w.heap.size rfl (λg W w' S T d X=>B _ w' S T λY e=>?_)
  .have m:E<l.length:=by have:=(Mr.1 b).1;simpa using this
   let⟨Z,q',p,_,U⟩:=A E m;rw[D] at p;simp only[Na,NI,and_true] at p;obtain⟨rfl,rfl⟩:=p;rw[Nf,U];simp[m] at b;simp[List.getD,m,b]
  .simp only[Value.ownBlock,Na] at e;subst e;rcases d with d|d
   .exact .inl d
   .exact .inr (MN d.symm)
theorem gB{h:Array Oper}{rest:List Oper}{o:Oper}{a:Act}{Q:Exit->Act->NN->Prop}(hgd:o.guard=none)(s x:Operand)(t:TypeId)(j:o.op=.call {callee:=.builtin .append,args:= #[s,x],argTypes:= #[t,t]})(base:Nat)(e:TypeId)(i:TypeInfo)(z:NP)(d:Nat)(k:P.underlying t=some (.slice e))(hi:P.info? e=some i)(m:i.zero=some z)(p:i.size=1)(q:i.bytes=d)(r:z.cells.size=1)(v:NP)(n:Nat)(xs:List NP)(y:a.eval s=v)(A:w.ownsRow base e 1 v n xs)(f:NM)(c:Nat)(l:List NL)(B:a.eval x=.slice f l.length c)(C:Strs w f l)(D:n+l.length<=maxLen)(E:(n+l.length)*d<=140737488355328)(F:base<=w.heap.size)(G:∀b w',w'.ownsRow base e 1 b (n+l.length) (xs++l.map Value.string)->w.grownBy w' v.ownBlock->(∀g,b.ownBlock=some g->v.ownBlock=some g\/w.heap.size<=g)->wpList P h Q rest (a.put o.dst b) w'):wpList P h Q (o :: rest) a w:=wpList_plain hgd λ_ H=>fw s x t j base e i z d k hi m p q r v n xs y A f c l B C D E F λb w' I J K=>H _ _ (G b w' I J K)
end
section
variable {G:cZ}{Kq:List Qz}{wz w w':NN}{bb:Nat}{a:NM}{cap:Nat}{rd:NM}{rn rc:Nat}{mb mx:Nat}{ts:List Zk}{d:NM}{dc:Nat}{f:NL -> NP}{ws:NL -> List Nat}
theorem BM.asked(m:BM G Kq wz w bb a cap rd rn rc mb mx ts d dc f ws){i:Nat}{t:Zk}(hi:ts[i]? =some t){w1:NN}{c:NP}{l:List NP}(y:w1.ownsRow wz.heap.size 9 1 c (t.qs.length+l.length) (t.qs++l))(q:w.grownBy w1 t.qv.ownBlock)(z:∀g,c.ownBlock=some g->t.qv.ownBlock=some g\/w.heap.size<=g)(Q:l.length<=5):BM G Kq wz (w1.setCell ⟨t.tb,10,none⟩ c) bb a cap rd rn rc mb (mx+1) (ts.set i {t with qv:=c,qs:=t.qs++l}) d dc f ws:=by
 obtain⟨n,rfl⟩:=Mr.1 hi;have j:=m.eZ _ (Mw n);have k:=m.yX _ (Mw n);have F:But (λb=>b=ts[i].tb\/b∈ts[i].own) w w1:=But.aI q λb e=>.inr (Mv.2 (.inr (MV.2 e)));have H:But (λb=>b=ts[i].tb\/b∈ts[i].own) w (w1.setCell ⟨ts[i].tb,10,none⟩ c):=But.set F (p:=⟨ts[i].tb,10,none⟩) (.inl rfl) c;have I:∀b,ts[i].qv.ownBlock=some b->ts[i].tb≠b:=λb e=>aU j.row.type (Y_ j.ask e) E8
 have A:w1.heap[ts[i].tb]? =w.heap[ts[i].tb]? :=q.block _ j.row.lt λe=>I _ e.symm rfl;have s:=j.row.block A;have J:w1.rangeAt ts[i].tb 0 ts[i].cells:=λK u v=>(MC (w:=w) A).trans (j.rng K u v)
 have B:∀{b:Nat},bA w1 b 9->b≠ts[i].tb:=λv=>aU v s.type E8
 have C:But (λb=>b=ts[i].tb) w1 (w1.setCell ⟨ts[i].tb,10,none⟩ c):=But.set (S:=λb=>b=ts[i].tb) (But.ax (K_.refl w1)) (p:=⟨ts[i].tb,10,none⟩) rfl c;have D:w1.ownsRow wz.heap.size 9 1 ts[i].tv ts[i].r.texts.length (ts[i].r.texts.map Value.string):=(But.aI (S:=λb=>ts[i].qv.ownBlock=some b) q λb e=>e).owns j.txt (λb e L=>by
  have M:=MV.2 e;have N:=MV.2 L;unfold Zk.own at k;exact (List.nodup_append.1 k).2.2 b M b N rfl)
 refine (m.more (Nat.le_succ mx)).turn n H (λb O=>O) ⟨s.set c,nu J s.row E5 c,C.owns D λb e=>B (Y_ D e),?_,j.low⟩ rfl rfl rfl rfl rfl (λx h=>?_) ?_ (by have:=m.qb _ (Mw n);show (ts[i].qs++l).length<=5*(mx+1);rw[M_];omega)
 .have e:({ts[i] with qv:=c,qs:=ts[i].qs++l}:Zk).qs.length=ts[i].qs.length+l.length:=E9;rw[e];exact C.owns y (λb e=>B (Y_ y e))
 .unfold Zk.own at h⊢;rcases Mv.1 h with h|h
  .exact .inl (Mv.2 (.inl h))
  .rcases z x (MV.1 h) with e|e
   .exact .inl (Mv.2 (.inr (MV.2 e)))
   .exact .inr e
 .unfold Zk.own at k⊢;rw[List.nodup_append] at k⊢;refine⟨k.1,?_,λx h E P=>?_⟩
  .show (c.ownBlock.toList).Nodup;cases c.ownBlock<;>simp
  .rcases z E (MV.1 P) with e|e
   .exact k.2.2 x h E (MV.2 e)
   .have:=(j.txt.lt x (MV.1 h)).2;omega
end
variable {tb:Nat}
section
variable {G:cZ}{Kq:List Qz}{wz w w':NN}{bb:Nat}{a:NM}{cap:Nat}{rd:NM}{rn rc:Nat}{mb mx:Nat}{ts:List Zk}{d:NM}{dc:Nat}{f:NL -> NP}{ws:NL -> List Nat}
theorem BM.rQ(h:BM G Kq wz w bb a cap rd rn rc mb mx ts d dc f ws){s:NL}(i:s.size<=maxLen){w1:NN}(k:w.grownBy w1 (f s).ownBlock):(Instr.lookup 150 (.map (some mb)) (.string s) false).run prog w1=.ok (f s) w1:=by
 let⟨N,D,_,j,l⟩:=h.map;have m:w1.ownsMap prog 9 asIs mb N D:=iQ (S:=λb=>(f s).ownBlock=some b) j (But.aI k λb e=>e) λe=>iC j (Y_ (h.jf s) e) rfl;let⟨v,q,n,c⟩:=m.lookup Tryz.keyed underlying150 (Tryz.KR w1) (zd:=.held M3) (zp:=[]) rfl (WideMaps.keyOf_string_mk underlying9 i);have e:=l s i;unfold asIs at c;simp only[Na,Prod.mk.injEq] at c;have p:=c.1.trans e;cases p;exact n
theorem BM.wait(h:BM G Kq wz w bb a cap rd rn rc mb mx ts d dc f ws){s:NL}(L:s.size<=maxLen){w1:NN}{r:NP}(H:w1.ownsRow wz.heap.size 116 1 r ((ws s).length+1) ((ws s).map xX++[xX tb]))(M:w.grownBy w1 (f s).ownBlock)(A:∀g,r.ownBlock=some g->(f s).ownBlock=some g\/w.heap.size<=g)(W:mx<=1000000):∃w2,(Instr.mapUpdate 150 (.map (some mb)) (.string s) r).run prog w1=.ok () w2/\BM G Kq wz w2 bb a cap rd rn rc mb (mx+1) ts d dc (λn=>if n=s then r else f n) (λn=>if n=s then ws s++[tb] else ws n):=by
 let⟨N,O,X,v,P⟩:=h.map;have I:But (λb=>(f s).ownBlock=some b) w w1:=But.aI M λb e=>e;have J:=iQ v I λe=>iC v (Y_ (h.jf s) e) rfl;let⟨w2,Q,R,K⟩:=J.update Tryz.keyed underlying150 F5 (WideMaps.keyOf_string_mk underlying9 L) (d:=.held r) (ps:=[]) rfl;refine⟨w2,Q,?_⟩;have j:But (λb=>(f s).ownBlock=some b\/b=mb) w w2:=(I.mono λb _ e=>.inl e).trans (But.aI K λb e=>.inr (Nl e).symm);have S:But (λb=>b=mb) w1 w2:=But.aI K λb e=>(Nl e).symm;have ne:∀{b:Nat}{t:TypeId},bA w b t->t≠116->¬((f s).ownBlock=some b\/b=mb):=λB E e=>by
  rcases e with e|e
  .exact aU B (Y_ (h.jf s) e) E rfl
  .exact iC v B e
 have T:∀{b:Nat}{t:TypeId},bA w1 b t->¬b=mb:=λB e=>iC J B e
 have y:=h.row.lt;have m:=ne h.row.type E8;have U:Maps.IsMap O:=by obtain⟨Y,Z,_,_,_,rfl⟩:=v;exact⟨_,rfl⟩
 have V:Fen G w2 bb mb ts (λn=>if n=s then r else f n):=by
  have p:=h.oth.but j (λb e=>by
   rcases e with e|e
   .exact h.oth.nf s b e
   .rw[e];exact h.oth.nm)
  refine⟨p.size,p.lt,p.same,p.nb,p.nm,p.nt,λn x c=>?_,p.has⟩;by_cases e:n=s
  .simp only[Nz e] at c;rcases A x c with g|g
   .exact h.oth.nf s x g
   .exact h.oth.far g
  .simp only[NA e] at c;exact h.oth.nf n x c
 refine⟨j.kept h.kw λb e=>?_,j.row h.row m,(j.cell y m).trans h.c0,(j.cell y m).trans h.c1,(j.cell y m).trans h.c2,(j.cell y m).trans h.c3,(j.cell y m).trans h.c4,(j.cell y m).trans h.c5,h.low,j.owns h.items λb e i=>?_,λt z=>(h.eZ t z).but j (ne (h.eZ t z).row.type E8) λx c=>ne ((h.eZ t z).fB c).1 E8,h.act,h.asc,h.tbs,h.sep,h.yX,⟨N+1,_,E5,R,λn E=>?_⟩,h.Bq,λn=>?_,λn C F x c q=>?_,λn x c e=>?_,λt z=>Mm (h.qb t z) E5,V,h.gi⟩
 .rcases e with e|e
  .exact ((h.jf s).lt b e).1
  .rw[e];exact h.Bq
 .rcases i with i|i
  .exact h.Bn s b i e
  .exact iC v (Y_ h.items e) i
 .by_cases e:n=s
  .rw[Nz e,e];exact Maps.atKey_put_same (k:=dL s) U (by show WideAt.IsKeyLit (.string _);exact trivial) _ _
  .rw[NA e,<-P n E];exact Maps.atKey_put_other (ko e) _ _
 .by_cases e:n=s
  .simp only[Nz e];have D:(ws s++[tb]).length= (ws s).length+1:=E9;have i:(ws s++[tb]).map xX= (ws s).map xX++[xX tb]:=E9;rw[D,i];exact S.owns H (λb e=>T (Y_ H e))
  .simp only[NA e];refine j.owns (h.jf n) λb D i=>?_;rcases i with i|i
   .exact h.yU n s e b D i
   .exact iC v (Y_ (h.jf n) D) i
 .by_cases e:n=s
  .rw[Nz e] at c;rw[NA λl=>F (e.trans l.symm)] at q;rcases A x c with g|g
   .exact h.yU s C (λl=>F (e.trans l)) x g q
   .have:=((h.jf C).lt x q).2;omega
  .rw[NA e] at c;by_cases l:C=s
   .rw[Nz l] at q;rcases A x q with g|g
    .exact h.yU n s e x c g
    .have:=((h.jf n).lt x c).2;omega
   .rw[NA l] at q;exact h.yU n C F x c q
 .by_cases l:n=s
  .rw[Nz l] at c;rcases A x c with g|g
   .exact h.Bn s x g e
   .have:=(h.items.lt x e).2;omega
  .rw[NA l] at c;exact h.Bn n x c e
end
def kP(Kq:List Qz)(ts:List Zk)(l:List NL):List NL:=l.filter λa=>(bD (Kk Kq) (Qq (Qj ts)) a).isNone
structure pU (Kq:List Qz)(ts0:List Zk)(ws0:NL->List Nat)(tb:Nat)(L1 L2:List NL)(ts:List Zk)(ws:NL->List Nat):Prop where
 env:∀n,Qq (Qj ts) n=match Qq (Qj ts0) n with|some x=>some x|none=>if eO L1 n=true/\(Kk Kq n).isSome=true then some (Q_.fresh n) else none
 me:∃t0∈ts0,∃t∈ts,t0.tb=tb/\t.tb=tb/\t.r=t0.r/\t.op=t0.op+(kP Kq ts0 L2).length/\t.bq=t0.bq
 other:∀t∈ts,t.tb≠tb->(∃t0∈ts0,t0.tb=t.tb/\t0.r=t.r/\t0.op=t.op/\t0.bq=t.bq)\/(t.r=Q_.fresh t.r.name/\(t.op=0/\t.bq= (⟨#[]⟩,[]))/\Qq (Qj ts0) t.r.name=none)
 old:∀t0∈ts0,∃t∈ts,t.tb=t0.tb/\t.r=t0.r
 wt:∀s,ws s=if eO (kP Kq ts0 L2) s=true then ws0 s++[tb] else ws0 s
variable {ws0:NL -> List Nat}{Kq:List Qz}{ts0:List Zk}
theorem pU.start{t:Zk}(h:t∈ts0):pU Kq ts0 ws0 t.tb [] [] ts0 ws0:=⟨λn=>by cases Qq (Qj ts0) n<;>simp[eO],⟨t,h,t,h,rfl,rfl,rfl,rfl,rfl⟩,λu a _=>.inl ⟨u,a,rfl,rfl,rfl,rfl⟩,λu a=>⟨u,a,rfl,rfl⟩,λs=>by simp[kP,eO]⟩
variable {n:NL}{ts:List Zk}
theorem ja :Qq (Qj ts) n=none↔∀t∈ts,t.r.name≠n:=by
 unfold Qq;rw[List.find?_eq_none];simp[Qj]
variable {ws:NL -> List Nat}{L1 L2:List NL}
theorem pU.want{ts':List Zk}(h:pU Kq ts0 ws0 tb L1 L2 ts ws)(L:dB (Qj ts))(s:dB (Qj ts'))(v:(ts'.map (·.tb)).Nodup)(f:Ih Kq ts n ts'):pU Kq ts0 ws0 tb (L1++[n]) L2 ts' ws:=by
 have i:∀m,eO (L1++[n]) m=true↔eO L1 m=true\/m=n:=λm=>by simp[df]
 rcases f with⟨rfl,f⟩|⟨p,new,rfl,k,y,z,A⟩
 .refine⟨λm=>?_,h.me,h.other,h.old,h.wt⟩;rw[h.env m];cases l:Qq (Qj ts0) m with
  |some x=>rfl
  |none=>
   simp only;by_cases e:m=n
   .subst e;rcases f with f|⟨t,B,e⟩
    .rw[NA (by rw[f];simp),NA (by rw[f];simp)]
    .by_cases a:eO L1 m=true/\(Kk Kq m).isSome=true
     .rw[Nz a,Nz ⟨(i m).2 (.inl a.1),a.2⟩]
     .have:=h.env m;rw[l] at this;simp only at this;rw[NA a] at this;exact NB e (ja.1 this t B)
   .by_cases a:eO L1 m=true/\(Kk Kq m).isSome=true
    .rw[Nz a,Nz ⟨(i m).2 (.inl a.1),a.2⟩]
    .rw[NA a,NA];rintro⟨c,d⟩;rcases (i m).1 c with g|g
     .exact a ⟨g,d⟩
     .exact e g
 .have j:∀u,u∈ts.take p++new :: ts.drop p↔u=new\/u∈ts:=λu=>by
   rw[Mv,Nh];constructor
   .rintro (h|h|h)
    .exact .inr (List.mem_of_mem_take h)
    .exact .inl h
    .exact .inr (List.mem_of_mem_drop h)
   .rintro (h|h)
    .exact .inr (.inl h)
    .rw[<-Nr p ts] at h;rcases Mv.1 h with h|h
     .exact .inl h
     .exact .inr (.inr h)
  have C:=ja.2 z;have w:Qq (Qj ts0) n=none:=by
   have:=h.env n;rw[C] at this;cases l:Qq (Qj ts0) n with
   |none=>rfl
   |some x=>rw[l] at this;cases this
  have D:∀m,Qq (Qj (ts.take p++new :: ts.drop p)) m=if m=n then some (Q_.fresh n) else Qq (Qj ts) m:=λm=>by
   by_cases e:m=n
   .rw[Nz e,e];have:=bJ s (r:=new.r) (Nk ((j new).2 (.inl rfl)));rw[k] at this;exact this
   .rw[NA e];cases c:Qq (Qj ts) m with
    |some x=>
     let⟨E,F⟩:=aZ c;obtain⟨u,b,rfl⟩:=MM.1 E;have:=bJ s (r:=u.r) (Nk ((j u).2 (.inr b)));rw[F] at this;exact this
    |none=>
     rw[ja] at c⊢;intro u b;rcases (j u).1 b with rfl|b
     .rw[k];exact λG=>e G.symm
     .exact c u b
  have M:∀u∈ts,u.tb≠new.tb:=λu b e=>by
   have H:(ts.take p++new :: ts.drop p).map (·.tb)= (ts.take p).map (·.tb)++new.tb :: (ts.drop p).map (·.tb):=E9;rw[H] at v;have d:=List.nodup_append.1 v;rw[<-Nr p ts] at b;rcases Mv.1 b with b|b
   .exact d.2.2 _ (Nk b) _ E9 e
   .exact (List.nodup_cons.1 d.2.1).1 (by rw[<-e];exact Nk b)
  refine⟨λm=>?_,?_,λu b I=>?_,λq J=>?_,h.wt⟩
  .rw[D m];by_cases e:m=n
   .rw[Nz e,e,w];simp only;rw[Nz ⟨(i n).2 (.inr rfl),A⟩]
   .rw[NA e,h.env m];cases l:Qq (Qj ts0) m with
    |some x=>rfl
    |none=>
     simp only;by_cases a:eO L1 m=true/\(Kk Kq m).isSome=true
     .rw[Nz a,Nz ⟨(i m).2 (.inl a.1),a.2⟩]
     .rw[NA a,NA];rintro⟨c,d⟩;rcases (i m).1 c with g|g
      .exact a ⟨g,d⟩
      .exact e g
  .obtain⟨q,c,t,d,K⟩:=h.me;exact⟨q,c,t,(j t).2 (.inr d),K⟩
  .rcases (j u).1 b with rfl|b
   .exact .inr ⟨by rw[k];rfl,y,by rw[k];exact w⟩
   .exact h.other u b I
  .obtain⟨t,c,d⟩:=h.old q J;exact⟨t,(j t).2 (.inr c),d⟩
theorem pU.ans(h:pU Kq ts0 ws0 tb L1 L2 ts ws)(n:NL):bD (Kk Kq) (Qq (Qj ts)) n=bD (Kk Kq) (Qq (Qj ts0)) n:=by
 unfold bD;cases b:Kk Kq n with
 |none=>rfl
 |some A=>
  simp only;rw[h.env n];cases c:Qq (Qj ts0) n with
  |some x=>rfl
  |none=>
   simp only
   split
   .rename_i r hr
    split at hr
    .cases hr;rfl
    .cases hr
   .rfl
theorem pU.skip(h:pU Kq ts0 ws0 tb L1 L2 ts ws)(b:(bD (Kk Kq) (Qq (Qj ts0)) n).isSome=true):pU Kq ts0 ws0 tb L1 (L2++[n]) ts ws:=by
 have e:kP Kq ts0 (L2++[n])=kP Kq ts0 L2:=by
  unfold kP;rw[List.filter_append];cases d:bD (Kk Kq) (Qq (Qj ts0)) n with
  |none=>rw[d] at b;cases b
  |some x=>simp[d]
 exact⟨h.env,by rw[e];exact h.me,h.other,h.old,by rw[e];exact h.wt⟩
theorem pU.wait(h:pU Kq ts0 ws0 tb L1 L2 ts ws)(D:bD (Kk Kq) (Qq (Qj ts0)) n=none)(E:n∉L2){i:Nat}{t t':Zk}(hi:ts[i]? =some t)(l:t.tb=tb)(A:(ts.map (·.tb)).Nodup)(x:t'.tb=tb)(y:t'.r=t.r)(F:t'.op=t.op+1)(e0:t'.bq=t.bq):pU Kq ts0 ws0 tb L1 (L2++[n]) (ts.set i t') (λm=>if m=n then ws n++[tb] else ws m):=by
 obtain⟨c,rfl⟩:=Mr.1 hi;have e:kP Kq ts0 (L2++[n])=kP Kq ts0 L2++[n]:=by
  unfold kP;rw[List.filter_append];simp[D]
 have G:n∉kP Kq ts0 L2:=λh=>E (List.mem_filter.1 h).1
 have H:Qj (ts.set i t')=Qj ts:=by
  rw[pg c,y];have e0:ts[i].r= (Qj ts)[i]'(by simpa[Qj] using c):=by simp[Qj]
  rw[e0,List.set_getElem_self]
 have mem:∀u∈ts.set i t',u=t'\/(u∈ts/\u.tb≠tb):=λu a=>by
  obtain⟨j,b,rfl⟩:=MB a;rw[Nu] at b;rw[NK]
  split
  .exact .inl rfl
  .rename_i f
   refine .inr ⟨Mw b,λe=>?_⟩;have p:=Mx.1 A;rcases Nat.lt_or_gt_of_ne f with g|g
   .have:=p i j (by simpa using c) (by simpa using b) g;simp at this;exact this (l.trans e.symm)
   .have:=p j i (by simpa using b) (by simpa using c) g;simp at this;exact this (e.trans l.symm)
 have one:∀u∈ts,u.tb=tb->u=ts[i]:=λu a e=>by
  obtain⟨j,b,rfl⟩:=MB a;by_cases B:i=j
  .subst B;rfl
  .have p:=Mx.1 A;rcases Nat.lt_or_gt_of_ne B with g|g
   .have:=p i j (by simpa using c) (by simpa using b) g;simp at this;exact NB (l.trans e.symm) this
   .have:=p j i (by simpa using b) (by simpa using c) g;simp at this;exact NB (e.trans l.symm) this
 have C:t'∈ts.set i t':=List.mem_iff_getElem.2 ⟨i,by rw[Nu];exact c,E9⟩;have keep:∀u∈ts,u.tb≠tb->u∈ts.set i t':=λu a f=>by
  obtain⟨j,b,rfl⟩:=MB a;refine List.mem_iff_getElem.2 ⟨j,by rw[Nu];exact b,?_⟩;rw[NK,NA λe=>f (by subst e;exact l)]
 refine⟨by rw[H];exact h.env,?_,λu a f=>?_,λz I=>?_,λs=>?_⟩
 .obtain⟨z,q,t,v,w,J,k,K,L⟩:=h.me;have:=one t v J;subst this;exact⟨z,q,t',C,w,x,by rw[y,k],by rw[F,K,e];simp;omega,e0.trans L⟩
 .rcases mem u a with rfl|⟨a,_⟩
  .exact NB x f
  .exact h.other u a f
 .obtain⟨t,q,v,w⟩:=h.old z I;by_cases d:t.tb=tb
  .have:=one t q d;subst this;exact⟨t',C,by rw[x,<-d,v],by rw[y,w]⟩
  .exact⟨t,keep t q d,v,w⟩
 .rw[e];by_cases d:s=n
  .subst d;rw[Nz rfl,Nz (df.2 E9),h.wt s,NA λg=>G (df.1 g)]
  .rw[NA d,h.wt s];by_cases k:eO (kP Kq ts0 L2) s=true
   .rw[Nz k,Nz (df.2 (Mv.2 (.inl (df.1 k))))]
   .rw[NA k,NA (λg=>by
     rcases Mv.1 (df.1 g) with g|g
     .exact k (df.2 g)
     .exact d (Mt.1 g))]
section
variable {G:cZ}{Kq:List Qz}{wz w w':NN}{bb:Nat}{a:NM}{cap:Nat}{rd:NM}{rn rc:Nat}{mb mx:Nat}{ts:List Zk}{d:NM}{dc:Nat}{f:NL -> NP}{ws:NL -> List Nat}
theorem BM.len(h:BM G Kq wz w bb a cap rd rn rc mb mx ts d dc f ws)(j:Kq.length<=60):ts.length<=60:=by
 have b:=List.Nodup.length_le_of_subset (zQ h.asc) (l₂:=Kq.map (·.name)) (λn c=>by
  obtain⟨r,e,rfl⟩:=MM.1 c;obtain⟨t,i,rfl⟩:=MM.1 e;exact l_ (by rw[(h.act t i).1];rfl))
 simp[Qj] at b;omega
def KZ(G:cZ)(Kq:List Qz)(wz:NN)(bb:Nat)(a:NM)(cap:Nat)(rd:NM)(rn rc mb mx:Nat)(ts0:List Zk)(ws0:NL->List Nat)(i:Nat)(t:Zk)(asks:List NL)(w':NN):Prop:=∃(ts0' ts:List Zk)(d:NM)(dc:Nat)(f:NL->NP)(ws:NL->List Nat),(ts0'.map λt=>(t.tb,t.r,t.op,t.bq))= ((ts0.set i {t with qs:=t.qs++asks.map Value.string}).map λt=>(t.tb,t.r,t.op,t.bq))/\BM G Kq wz w' bb a cap rd rn rc mb (mx+6) ts d dc f ws/\pU Kq ts0' ws0 t.tb asks asks ts ws
theorem Ap(F:BM G Kq wz w bb a cap rd rn rc mb mx ts d dc f ws){i:Nat}{t:Zk}(hi:ts[i]? =some t)(aa:NM)(ca:Nat)(asks:List NL)(f2:asks.length<=5)(f3:∀x∈asks,x.size<=20)(f4:asks.Nodup)(hA:Strs wz aa asks)(j4:mx<=100000)(c3:Kq.length<=60)(f5:f_ Kq)(hN:bQ wz a Kq)(_hww:∀s b,b∈ws s->∃t∈ts,t.tb=b)(f6:∀s,(ws s).length<=1000)(f7:t.op<=1000):Calls prog 136 #[.c bb,.c t.tb,.slice aa asks.length ca] w λe w'=>e=.returned (.tuple #[])/\KZ G Kq wz bb a cap rd rn rc mb mx ts ws i t asks w':=by
 let⟨is,f8,f9,g0,g3⟩:=aW Tryz.fA;let⟨ip,g4,g5,g6,g7⟩:=aW Tryz.xZ;have R:=F.at hi;have g8:w.cell? ⟨t.tb,10,none⟩=some t.qv:=R.rng 10 _ rfl;have tz:=R.row.lt;have g9:=F.qb t (ME hi);have c4:=F.kw.size;have⟨HB,HI,H⟩:=di F hi R;clear F hi R;go_enter func136,ntmps136
 go_wp2_with (at_builtin;refine gB rfl (.tmp 14) (.tmp 15) 26 rfl wz.heap.size 9 is _ 16 underlying26 f8 f9 g0 g3 rfl t.qv t.qs.length t.qs rfl H.o.ask aa ca asks rfl (hA.kept HB.o.kw) F5 E5 c4 ?_;intro v1 w1 a4 a5 c6;obtain⟨a6,a7,rfl⟩:=aF a4;have c7:w1.heap[t.tb]? =w.heap[t.tb]? :=a5.block _ tz λe=>aU H.o.row.type (Y_ H.o.ask e.symm) E8 rfl;have a8:=H.o.row.block c7;let⟨⟨_,h0⟩,h3⟩:=a8.row.at (i:=10) E5;have h4:=a8.lt;have I:=Kz (HB.o.asked HI.o (l:=asks.map Value.string) (by rw[Nt];exact a4) a5 c6 (by simpa using f2));clear a4 a5 c6 c7 a8)
 let⟨D,a9⟩:=aj asks.length;let⟨A,S⟩:=aj (ts.set i {t with qv:=.slice a6 (t.qs.length+asks.length) a7,qs:=t.qs++asks.map Value.string});rw[<-S] at I;have h5:Hid ((A.map λt=>(t.tb,t.r,t.op,t.bq))= ((ts.set i {t with qs:=t.qs++asks.map Value.string}).map λt=>(t.tb,t.r,t.op,t.bq))):=by
  show _=_;rw[S,List.map_set,List.map_set]
  rfl
 have h6:Hid (A.map (·.tb)).Nodup:=I.o.tbs;have T:Hid (∃u∈A,u.tb=t.tb/\u.op=t.op):=by
  obtain⟨hl,rfl⟩:=Mr.1 HI.o;exact⟨{ts[i] with qv:=.slice a6 (ts[i].qs.length+asks.length) a7,qs:=ts[i].qs++asks.map Value.string},by rw[S];exact List.mem_iff_getElem.2 ⟨i,by rw[Nu];exact hl,by rw[List.getElem_set_self]⟩,rfl,rfl⟩
 let⟨W1,c8⟩:=aj (w1.setCell ⟨t.tb,10,none⟩ (.slice a6 (t.qs.length+asks.length) a7));rw[<-c8] at I⊢;let⟨tb,b0⟩:=aj t.tb;rw[<-b0] at T⊢;have h7:=Kz b0;have h8:t.op<=1000:=f7;let⟨h9,c9⟩:=aj t.op;rw[<-c9] at T h8;have b1:=Kz a9;rw[<-a9];have j5:D<=5:=E5;clear c8 S b0 h0 h3 h4 g8 tz H HI HB g9 c4 c9 a9;go_wp2
 go_loopw [21] (λx wr=>∃(k:Nat)(U:List Zk)(d2:NM)(b2:Nat)(E:NL->NP)(p:NL->List Nat),k<=D/\x=.a k/\BM G Kq wz wr bb a cap rd rn rc mb (mx+1+k) U d2 b2 E p/\pU Kq A ws tb (asks.take k) (asks.take k) U p) (λx _=>D-(intOf x).toNat)
 case atStart=>
  let⟨u,c,V,_⟩:=T.o;exact⟨0,A,d,dc,f,ws,Ml _,rfl,I.o,by rw[<-V];exact pU.start c⟩
 case round=>
  clear I;obtain⟨k,U,d2,b2,E,p,hk,rfl,J,W⟩:=hrel;by_cases j6:k<D;rotate_left
  .obtain rfl:k=D:=E5;have X:asks.take k=asks:=by rw[b1.o];exact MS
   rw[X] at W;go_wp2
   go_end0
   exact⟨rfl,A,U,d2,b2,E,p,h5.o,J.more E5,by rw[<-h7.o];exact W⟩
  obtain⟨n,L⟩:∃n,asks[k]? =some n:=⟨_,Mq (by have:=b1.o;omega)⟩;have i0:=ME L;have j7:=f3 n i0;have X:asks.take (k+1)=asks.take k++[n]:=by
   let⟨h1,h2⟩:=Mr.1 L;rw[Ms h1,h2]
  have d0:n∉asks.take k:=λh=>by
   let⟨h1,h2⟩:=Mr.1 L;let⟨q,hq,e⟩:=MB h;rw[ML] at hq;rw[MW] at e;exact Mx.1 f4 q k E5 h1 E5 (e.trans h2.symm)
  obtain⟨b,o,rfl,i1,d1⟩:=hA k (by have:=b1.o;omega);have i2:wr.cell? ⟨b,o+k,none⟩=some (.string n):=by
   rw[J.kw.cell i1,d1];simp[List.getD,L]
  have j8:=J.len c3;have j9:(k:Int)<(D:Int):=E5;have⟨d4,i3,d5,i4⟩:=nC X d0 J W;clear L X d0 d1 J W;go_wp2_with fail
  refine (uX d5.o n E5 E5 f5 hN).mono ?_;rintro e w3 ⟨rfl,M,d3,b3,N,b4⟩;have k0:=N.len c3;have O:=Kz (i4.o.want d5.o.asc N.asc N.tbs b4);have i5:Hid ((∃t∈M,t.r.name=n)\/Kk Kq n=none):=by
   rcases b4 with⟨rfl,h|h⟩|⟨k1,new,rfl,hr,_⟩
   .exact .inr h
   .exact .inl h
   .exact .inl ⟨new,Mv.2 (.inr E9),by rw[hr];rfl⟩
  have d6:=Kz N;clear N b4 i2;go_wp2_with fail
  refine (oC d6.o n E5 E5 i5.o).mono ?_;rintro e w4 ⟨⟨fa,tx,ok,rfl,b5⟩,k4⟩;rw[O.o.ans n] at b5;have d7:=Kz b5;have b6:=Kz (d6.o.kept k4);clear b5;cases ok;rotate_left
  .go_wp2
   go_roundw
   case rel=>exact⟨k+1,M,d3,b3,E,p,E5,F3,(b6.o.more E5).kept (ah _ _),by rw[d4.o];exact O.o.skip (by rw[d7.o];rfl)⟩
   case measure=>simp[intOf];omega
  let⟨va,vc,hf⟩:=aF (b6.o.jf n);obtain⟨j,m,d8,d9,k2⟩:∃(j:Nat)(m:Zk),M[j]? =some m/\m.tb=tb/\m.op<=2000:=by
   let⟨t0,i6,m,i7,V,i8,k3,k5⟩:=O.o.me;obtain⟨j,hj,rfl⟩:=MB i7;refine⟨j,M[j],Mq hj,i8,?_⟩;let⟨u,c,g1,g2⟩:=T.o;have k6:(kP Kq A (asks.take k)).length<=5:=Mm (List.length_filter_le _ _) H6;have k7:t0.op=h9:=by
    rw[<-g2];have e0:=h6.o;obtain⟨Y,e1,rfl⟩:=MB i6;obtain⟨Z,e2,rfl⟩:=MB c;have:Y=Z:=by
     rcases Ny Y Z with g|g|g
     .have:=Mx.1 e0 Y Z (by simpa using e1) (by simpa using e2) g;simp at this;exact NB (V.trans g1.symm) this
     .exact g
     .have:=Mx.1 e0 Z Y (by simpa using e2) (by simpa using e1) g;simp at this;exact NB (g1.trans V.symm) this
    subst this
    rfl
   omega
  have k8:(p n).length<=1001:=by
   rw[O.o.wt n];have:=f6 n
   split
   .rw[M_];simp;omega
   .omega
  have⟨a0,b7,B⟩:=di hf d8 d9;clear hf d8 d9;let⟨W4,b8⟩:=aj (w4.alloc (.cells #[.bool fa,.string tx] 100));have a1:Hid (BM G Kq wz W4 bb a cap rd rn rc mb (mx+1+k) M d3 b3 E p):=by rw[b8];exact b6.o.kept (ah _ _)
  have e3:Hid (∀w',K_ W4 w'->w'.cell? ⟨bb,5,none⟩=some (.map (some mb))/\(Instr.lookup 150 (.map (some mb)) (.string n) false).run prog w'=.ok (.slice va (p n).length vc) w'):=λw' K=>⟨(a1.o.kept K).c5,by rw[<-a0.o];exact (a1.o.kept K).look F5⟩
  go_upto_region 7 with fail
  rw[<-b8];clear b8 k4;refine bF 14 e3.o λC KD a2=>?_
  refine ak 0 a2 ?_;refine ak 4 a2 ?_;refine ak 8 a2 ?_;refine ai 12 λK z=>?_;go_simp
  have K5:K_ C (C.alloc (.cells #[.c tb] 116)):=ah _ _;have b9:(C.alloc (.cells #[.c tb] 116)).cell? ⟨C.heap.size,0,none⟩=some (.c tb):=X_ C #[.c tb] 116 0 _ rfl;have c0:=KD.trans K5;refine z.out _ _ (λ_=>e3.o _ c0) ?_;clear z K a2;have y:=Kz (a1.o.kept c0);let⟨eb,e4⟩:=aj C.heap.size;rw[<-e4] at b9⊢;generalize i9:C.alloc (.cells #[.c tb] 116)=w6 at b9 c0 y⊢;clear i9 K5 e4;have c1:=y.o.jf n;rw[a0.o] at c1;have j0:=Kz c1;have j1:=y.o.kw.size;clear c1;try simp only[upP]
  refine ai 13 λK z=>?_;refine step_append_lies _ rfl (.tmp 46) (.tmp 48) 151 rfl wz.heap.size 116 ip _ 1 8 underlying151 g4 g5 g6 g7 rfl E8 (.slice va (p n).length vc) (p n).length ((p n).map xX) rfl j0.o ⟨eb,0,none⟩ 1 1 [xX tb] rfl rfl (λj u c=>?_) (λu c=>?_) E8 F5 E5 j1 w6.heap.size rfl ?_
  .match j,c with
   |0,c=>simp at c;subst c;rw[Nf];exact b9
   |j+1,c=>simp at c
  .simp at c;subst c;rfl
  intro g gc P e5 Q c2 k9;rw[<-a0.o] at Q c2;let⟨w8,l0,e6⟩:=y.o.wait (s:=n) (tb:=tb) F5 e5 Q (λx e=>by simp only[Value.ownBlock,Na] at e;subst e;rcases c2 with h|h;exact .inl h;exact .inr (MN h.symm)) E5;have e7:=Kz e6;have e8:But (λb=>(E n).ownBlock=some b) w6 P:=But.aI Q λb e=>e;have j2:Hid (P.cell? ⟨bb,5,none⟩=some (.map (some mb))/\(Instr.lookup 150 (.map (some mb)) (.string n) false).run prog P=.ok (.slice va (p n).length vc) P):=by
   have w':=P;exact⟨(e8.cell y.o.row.lt λe=>aU y.o.row.type (Y_ (y.o.jf n) e) E8 rfl).trans y.o.c5,by have h:=y.o.rQ (s:=n) F5 Q;rw[a0.o] at h;exact h⟩
  refine af z (λ_=>j2.o) ?_;clear z K e6 e5 Q c2 e8;refine ai 14 λK z=>?_;go_simp
  refine af z (λh=>NB rfl h) ?_;clear z K;refine aC ?_;have a3:=e7.o.at b7.o;have o9:w8.cell? ⟨tb,9,none⟩=some (.a (m.op:Int)):=by rw[<-B.o];exact a3.rng 9 _ rfl
  have uz:tb<w8.heap.size:=by rw[<-B.o];exact a3.row.lt
  let⟨_,j3⟩:=a3.row.row.at (i:=9) E5;rw[B.o] at j3;have e9:=Kz (e7.o.store (t':={m with op:=m.op+1}) b7.o (o:=9) (v:=.a ((m.op+1:Nat):Int)) E5 rfl rfl rfl rfl rfl rfl rfl rfl rfl rfl);have f0:((m.op+1:Nat):Int)= (m.op:Int)+1:=E5;rw[f0,B.o] at e9;have f1:=Kz (O.o.wait (n:=n) (by rw[d7.o];rfl) i3.o b7.o B.o a1.o.tbs (t':={m with op:=m.op+1}) B.o rfl rfl rfl);rw[B.o] at f1;clear a3 f0;go_wp2
  go_roundw
  case rel=>exact⟨k+1,_,d3,b3,_,_,E5,F3,e9.o,by rw[d4.o];exact f1.o⟩
  case measure=>simp[intOf];omega
end
def Ld(xs:List Xz)(w':NN)(e:Ending):Prop:=∃(a:NM)(c:Nat),e=.returned (.slice a (aL xs).length c)/\Strs w' a (aL xs)
theorem yQ(w:NN)(d:NM)(dc:Nat)(xs:List Xz)(a5:xs.length<=1000)(M:fD w d xs):Calls prog 150 #[.slice d xs.length dc] w λe w'=>Ld xs w' e/\K_ w w':=by
 let⟨N,O,P,Q,R⟩:=aW Tryz.fA;go_enter func150,ntmps150
 go_wp2
 go_loopg [3,8] xs.length (λS T U wr=>∃(i:Nat)(c:NM)(f:Nat),T=.slice c (aL (xs.take i)).length f/\U=.a (i:Int)/\i+S=xs.length/\(aL (xs.take i)).length<=i/\K_ w wr/\Hid (wr.ownsRow w.heap.size 9 1 (.slice c (aL (xs.take i)).length f) (aL (xs.take i)).length ((aL (xs.take i)).map Value.string)))
 case atStart=>exact⟨0,none,0,rfl,rfl,E5,Mj _,K_.refl _,Nj _ _ _ _⟩
 case round=>
  obtain⟨i,c,f,rfl,rfl,hi,V,p,q⟩:=hrel;by_cases a6:(i:Int)<(xs.length:Int)
  .have r:i<xs.length:=E5;obtain⟨b,o,rfl,hb,k⟩:=(M.kept p) i r;let⟨x,s⟩:=aj (xs.getD i Xz.zero);rw[<-s] at k;have W:=k 0 _ rfl;have t1:=k 1 _ rfl;rw[Ng] at W;have C:Hid (xs.take (i+1)=xs.take i++[x]):=by show _=_;rw[Ms r,s];simp[List.getD,r]
   let⟨h,t⟩:=aj (aL (xs.take i));rw[<-t] at V q⊢;have D:=Kz t;clear k s t;let⟨a,j⟩:=aj (wr.alloc (.cells #[.bool x.fail,.string x.text] 100));have E:K_ wr a:=by rw[j];exact ah _ _
   have v:a.cell? ⟨wr.heap.size,0,none⟩=some (.bool x.fail):=by rw[j];exact X_ wr #[.bool x.fail,.string x.text] 100 0 _ rfl
   have X:a.cell? ⟨wr.heap.size,1,none⟩=some (.string x.text):=by rw[j];exact X_ wr #[.bool x.fail,.string x.text] 100 1 _ rfl
   have Y:wr.heap.size<a.heap.size:=by rw[j];simp
   go_upto_region 5 with fail
   rw[<-j];clear j;let⟨fb,F⟩:=aj wr.heap.size;rw[<-F] at v X Y⊢;clear F;have G:=Kz (au q.o E);have H:=p.trans E;cases l:x.fail
   .rw[l] at v;have y:K_ a (a.alloc (.cells #[.string x.text] 9)):=ah _ _;have I:=Kz (au G.o y);have J:=Kz (H.trans y);have Z:=J.out.size;have a0:Hid (∀m u,([.string x.text]:List NP)[m]? =some u->(a.alloc (.cells #[.string x.text] 9)).cell? ((⟨a.heap.size,0,none⟩:Addr).add m)=some u):=λm u n=>by rw[Nf];exact X_ a #[.string x.text] 9 m u n
    have a1:Hid (∀u∈([.string x.text]:List NP),u.oneCell'=true):=λu n=>by simp only[Nh,Ni,or_false] at n;subst n;rfl
    clear y;go_wp2_with (at_builtin;refine wpList_append_own _ rfl (.tmp 15) (.tmp 18) 26 rfl w.heap.size 9 N _ 1 16 underlying26 O P Q R rfl E8 (.slice c h.length f) h.length (h.map Value.string) rfl I.o ⟨a.heap.size,0,none⟩ 1 1 [.string x.text] rfl rfl a0.o a1.o F5 E5 Z ?_;intro v' w6 z K _;have KP:=aK J.out (Mj _) I.o K;have HP:=Kz z;obtain⟨a2,a3,rfl⟩:=aF z;clear z K)
    go_roundg (gk-1)
    case measure=>omega
    case rel=>
     have e:aL (xs.take (i+1))=h++[x.text]:=by rw[C.o,ma,<-D.o,l];rfl
     exact⟨i+1,a2,a3,by rw[e,M_];rfl,F3,E5,by rw[e,M_];show h.length+1<=i+1;omega,KP,Kz (by rw[e,ND,M_];exact HP.o)⟩
   .rw[l] at v;go_wp2
    go_roundg (gk-1)
    case measure=>omega
    case rel=>
     have e:aL (xs.take (i+1))=h:=by rw[C.o,ma,<-D.o,l];simp
     exact⟨i+1,c,f,by rw[e],F3,E5,by rw[e];omega,H,Kz (by rw[e];exact G.o)⟩
  .have a4:i=xs.length:=E5;let⟨a9,c9,A,B⟩:=bO q.o;simp only[Nb,true_and] at A;rw[<-A.1] at B;have L:=Kz B;clear B A;go_wp2
   go_ret
   rw[a4,MS] at L;exact⟨⟨c,f,rfl,L.o⟩,p⟩
section
variable {G:cZ}{Kq:List Qz}{wz w w':NN}{bb:Nat}{a:NM}{cap:Nat}{rd:NM}{rn rc:Nat}{mb mx:Nat}{ts:List Zk}{d:NM}{dc:Nat}{f:NL -> NP}{ws:NL -> List Nat}
theorem BM.texts(m:BM G Kq wz w bb a cap rd rn rc mb mx ts d dc f ws){i:Nat}{t:Zk}(hi:ts[i]? =some t){w1:NN}{c:NP}{l:List NL}(y:w1.ownsRow wz.heap.size 9 1 c (t.r.texts.length+l.length) (t.r.texts.map Value.string++l.map Value.string))(q:w.grownBy w1 t.tv.ownBlock)(z:∀g,c.ownBlock=some g->t.tv.ownBlock=some g\/w.heap.size<=g):BM G Kq wz (w1.setCell ⟨t.tb,6,none⟩ c) bb a cap rd rn rc mb mx (ts.set i {t with tv:=c,r:={t.r with texts:=t.r.texts++l}}) d dc f ws:=by
 obtain⟨n,rfl⟩:=Mr.1 hi;have h:=m.eZ _ (Mw n);have k:=m.yX _ (Mw n);have H:But (λb=>b=ts[i].tb\/b∈ts[i].own) w w1:=But.aI q λb e=>.inr (Mv.2 (.inl (MV.2 e)));have I:But (λb=>b=ts[i].tb\/b∈ts[i].own) w (w1.setCell ⟨ts[i].tb,6,none⟩ c):=But.set H (p:=⟨ts[i].tb,6,none⟩) (.inl rfl) c;have A:w1.heap[ts[i].tb]? =w.heap[ts[i].tb]? :=q.block _ h.row.lt λe=>aU h.row.type (Y_ h.txt e.symm) E8 rfl;have s:=h.row.block A;have J:w1.rangeAt ts[i].tb 0 ts[i].cells:=λK u v=>(MC (w:=w) A).trans (h.rng K u v)
 have B:∀{b:Nat},bA w1 b 9->b≠ts[i].tb:=λv=>aU v s.type E8
 have C:But (λb=>b=ts[i].tb) w1 (w1.setCell ⟨ts[i].tb,6,none⟩ c):=But.set (S:=λb=>b=ts[i].tb) (But.ax (K_.refl w1)) (p:=⟨ts[i].tb,6,none⟩) rfl c;have D:w1.ownsRow wz.heap.size 9 1 ts[i].qv ts[i].qs.length ts[i].qs:=(But.aI (S:=λb=>ts[i].tv.ownBlock=some b) q λb e=>e).owns h.ask (λb e L=>by
  have M:=MV.2 L;have N:=MV.2 e;unfold Zk.own at k;exact (List.nodup_append.1 k).2.2 b M b N rfl)
 refine m.turn n I (λb O=>O) ⟨s.set c,nu J s.row E5 c,?_,C.owns D λb e=>B (Y_ D e),h.low⟩ rfl rfl rfl rfl rfl (λx j=>?_) ?_ (by have:=m.qb ts[i] (Mw n);exact this)
 .show World.ownsRow _ _ _ _ c (ts[i].r.texts++l).length ((ts[i].r.texts++l).map Value.string);rw[M_,ND];exact C.owns y (λb e=>B (Y_ y e))
 .unfold Zk.own at j⊢;rcases Mv.1 j with j|j
  .rcases z x (MV.1 j) with e|e
   .exact .inl (Mv.2 (.inl (MV.2 e)))
   .exact .inr e
  .exact .inl (Mv.2 (.inr j))
 .unfold Zk.own at k⊢;rw[List.nodup_append] at k⊢;refine⟨?_,k.2.1,λx j E F=>?_⟩
  .show (c.ownBlock.toList).Nodup;cases c.ownBlock<;>simp
  .rcases z x (MV.1 j) with e|e
   .exact k.2.2 x (MV.2 e) E F
   .have:=(h.ask.lt E (MV.1 F)).2;omega
end
theorem vR{W:dC}{σ:Env}:∀{l:List NL}{xs:List Xz},Yz W σ l=some xs->xs.length=l.length/\∀k,k<l.length->bD W σ (l.getD k ByteArray.empty)=some (xs.getD k Xz.zero)
 |[],xs,h=>by
  unfold Yz at h;cases h;exact⟨rfl,λk a=>aO a⟩
 |n :: l,xs,h=>by
  unfold Yz at h;cases b:bD W σ n with
  |none=>rw[b] at h;cases h
  |some x=>
   rw[b] at h;simp only at h;cases c:Yz W σ l with
   |none=>rw[c] at h;cases h
   |some ys=>
    rw[c] at h;simp only[Na] at h;subst h;let⟨d,e⟩:=vR c;refine⟨by simp[d],λk a=>?_⟩;cases k with
    |zero=>simpa using b
    |succ k=>simpa using e k (by simpa using a)
section
variable {G:cZ}{Kq:List Qz}{wz w w':NN}{bb:Nat}{a:NM}{cap:Nat}{rd:NM}{rn rc:Nat}{mb mx:Nat}{ts:List Zk}{d:NM}{dc:Nat}{f:NL -> NP}{ws:NL -> List Nat}
def Kl(G:cZ)(Kq:List Qz)(wz:NN)(bb:Nat)(a:NM)(cap:Nat)(rd:NM)(rn rc mb mx:Nat)(ts:List Zk)(d:NM)(dc:Nat)(f:NL->NP)(ws:NL->List Nat)(i:Nat)(t:Zk)(g:b_)(xs:List Xz)(w':NN)(e:Ending):Prop:=(g.over=true/\e=.returned (.bool false)/\∃bl,(bl∈(stepOf ⟨t.cost,t.steps⟩ t.r.at').asks/\g.text= (⟨#[98,101,108,111,119,32]⟩:NL)++bl)/\BM G Kq wz w' bb a cap rd rn rc mb mx (iO (ts.set i (({t with bl:=bl}:Zk).ended true g.text)) (ws t.r.name)) d dc (λn=>if n=t.r.name then M3 else f n) λn=>if n=t.r.name then [] else ws n)\/
 (g.over=false/\e=.returned (.bool true)/\∃tv',BM G Kq wz w' bb a cap rd rn rc mb mx (ts.set i {t with tv:=tv',r:={t.r with at':=g.at',texts:=t.r.texts++aL xs}}) d dc f ws)
theorem yB(C:BM G Kq wz w bb a cap rd rn rc mb mx ts d dc f ws){i:Nat}{t:Zk}(hi:ts[i]? =some t)(s:Xq)(hs:s=stepOf ⟨t.cost,t.steps⟩ t.r.at')(p6:0<=t.r.at')(h1:t.r.at' < t.steps.length)(e8:s.fin=false)(xs:List Xz)(i9:Yz (Kk Kq) (Qq (Qj ts)) s.asks=some xs)(f2:∀x∈xs,x.text.size<=200)(f5:Followed s xs (eT s xs))(hF:s.Fits)(p7:s.asks.length<=5)(f7:∀x∈s.asks,x.size<=20)(j0:s.asks.length≠0->0<=s.on/\s.on<s.asks.length)(j1:Kq.length<=60)(p8:t.r.texts.length<=1000)(j2:t.r.name.size<=1000)(j3:(ws t.r.name).length<=1000)(hw:∀b∈ws t.r.name,∃(j:Nat)(u:Zk),j≠i/\ts[j]? =some u/\u.tb=b/\1<=u.op/\u.op<=1000)(j4:(ws t.r.name).Nodup):Calls prog 134 #[.c bb,.c t.tb] w λe w'=>Kl G Kq wz bb a cap rd rn rc mb mx ts d dc f ws i t (eT s xs) xs w' e:=by
 let⟨ia,j5,j6,j7,j8⟩:=aW Tryz.Dg;let⟨is,j9,k0,k1,k2⟩:=aW Tryz.fA;obtain⟨h,b5⟩:∃h:Nat,t.r.at'= (h:Int):=⟨t.r.at'.toNat,E5⟩;have k3:h<t.steps.length:=E5;have hT:=C.at hi;have f8:=C.act t (ME hi);obtain⟨y,z,cs,f9,R,L,H,F,M,N,rfl,b6,b7,_⟩:=f8.2 h k3;have g0:t.steps.getD h Xq.zero=s:=by rw[hs];unfold stepOf;rw[b5];rfl
 rw[g0] at L b6 b7;have b8:M4 w t.tb 8 (.slice t.sa t.steps.length t.sc):=hT.rng 8 _ rfl;have b9:M4 w t.tb 4 (.a t.r.at'):=hT.rng 4 _ rfl;rw[f9] at b8;rw[b5] at b9;have tz:=hT.row.lt;have X:=Mk R C.kw.size;have t0:M4 w y (z+h*8) (.slice H s.asks.length F):=(C.kw.cell R).trans (L 0 _ rfl);have t1:M4 w y (z+h*8+1) (.a s.on):=(C.kw.cell R).trans (L 1 _ rfl);have t2:M4 w y (z+h*8+2) (.slice M s.cases.length N):=(C.kw.cell R).trans (L 2 _ rfl);have t3:M4 w y (z+h*8+3) (.a s.els):=(C.kw.cell R).trans (L 3 _ rfl);have t4:M4 w y (z+h*8+4) (.a s.fall):=(C.kw.cell R).trans (L 4 _ rfl);have t5:w.cell? ⟨y,z+h*8+5,none⟩=some (.bool false):=by rw[<-e8];exact (C.kw.cell R).trans (L 5 _ rfl)
 have t6:M4 w y (z+h*8+6) (.bool s.bad):=(C.kw.cell R).trans (L 6 _ rfl);have t7:M4 w y (z+h*8+7) (.string s.give):=(C.kw.cell R).trans (L 7 _ rfl);have g1:Hid (∀w',K_ w w'->M4 w' t.tb 8 (.slice (some ⟨y,z,none⟩) t.steps.length t.sc)/\M4 w' t.tb 4 (.a (h:Int))/\M4 w' y (z+h*8) (.slice H s.asks.length F)/\M4 w' y (z+h*8+1) (.a s.on)/\M4 w' y (z+h*8+2) (.slice M s.cases.length N)/\M4 w' y (z+h*8+3) (.a s.els)/\M4 w' y (z+h*8+4) (.a s.fall)/\M4 w' y (z+h*8+5) (.bool false)/\M4 w' y (z+h*8+6) (.bool s.bad)/\M4 w' y (z+h*8+7) (.string s.give)):=λw' K=>⟨(K.cell tz).trans b8,(K.cell tz).trans b9,(K.cell X).trans t0,(K.cell X).trans t1,(K.cell X).trans t2,(K.cell X).trans t3,(K.cell X).trans t4,(K.cell X).trans t5,(K.cell X).trans t6,(K.cell X).trans t7⟩
 let⟨p9,g2⟩:=vR i9;have⟨k7,HB,HI,c1,k9⟩:=jh g2 C hi b6 b7;have⟨l0,HW,l1⟩:=di f5 hw hs;have q0:=C.kw.size;have q1:(h:Int)<(t.steps.length:Int):=E5;have q2:=C.len j1;clear C hi hT f8 f9 L b6 b7 g0 b8 b9 t0 t1 t2 t3 t4 t5 t6 t7 g2 f5 hw b5 hs;go_enter func134,ntmps134
 go_upto_region 1 with fail
 refine bF 13 g1.o λI S n=>?_
 refine ak 0 n ?_;refine ak 4 n ?_;refine ak 8 n ?_;refine ai 12 λK v=>?_;go_simp
 have K2:K_ I (I.alloc (.cells #[M3,.a 0,M3,.a 0,.a 0,.bool false,.bool false,.string ⟨#[]⟩] 128)):=ah _ _;have E:ay (I.alloc (.cells #[M3,.a 0,M3,.a 0,.a 0,.bool false,.bool false,.string ⟨#[]⟩] 128)) I.heap.size 128 8:=ay.made I _ _;have KE:=S.trans K2;have nz:=S.size;let⟨q,g3⟩:=aj I.heap.size;refine v.out _ _ (λ_=>g1.o _ KE) ?_;clear v K n;rw[<-g3] at E nz⊢;generalize l2:I.alloc (.cells #[M3,.a 0,M3,.a 0,.a 0,.bool false,.bool false,.string ⟨#[]⟩] 128)=wE at E KE⊢;clear l2 K2 g3;try simp only[upP]
 let⟨⟨_,v0⟩,f0⟩:=E.row.at (i:=0) E5;let⟨⟨_,v1⟩,f1⟩:=E.row.at (i:=1) E5;let⟨⟨_,v2⟩,l3⟩:=E.row.at (i:=2) E5;let⟨⟨_,v3⟩,f3⟩:=E.row.at (i:=3) E5;let⟨⟨_,v4⟩,f4⟩:=E.row.at (i:=4) E5;let⟨⟨_,v5⟩,l4⟩:=E.row.at (i:=5) E5;let⟨⟨_,v6⟩,f6⟩:=E.row.at (i:=6) E5;let⟨⟨_,v7⟩,l5⟩:=E.row.at (i:=7) E5;have vz:=E.lt;refine ai 13 λK v=>?_;go_simp
 refine af v (λJ=>NB rfl J) ?_;clear v K;refine aC ?_;have O:=Kz (Mo wE q 0 [.slice H s.asks.length F,.a s.on,.slice M s.cases.length N,.a s.els,.a s.fall,.bool false,.bool s.bad,.string s.give] (E.row.there (o:=0) (m:=8) (Mj _)));have Y:=Kz (aP (g:=q) nz [.slice H s.asks.length F,.a s.on,.slice M s.cases.length N,.a s.els,.a s.fall,.bool false,.bool s.bad,.string s.give] 0 KE);have g4:=Kz (ay.sets [.slice H s.asks.length F,.a s.on,.slice M s.cases.length N,.a s.els,.a s.fall,.bool false,.bool s.bad,.string s.give] 0 E);let⟨T,c2⟩:=aj (wE.setCells q 0 [.slice H s.asks.length F,.a s.on,.slice M s.cases.length N,.a s.els,.a s.fall,.bool false,.bool s.bad,.string s.give]);rw[<-c2] at O Y g4;go_upto_region 2 with fail
 have g5:((((((((wE.setCell ⟨q,0,none⟩ (.slice H s.asks.length F)).setCell ⟨q,1,none⟩ (.a s.on)).setCell ⟨q,2,none⟩ (.slice M s.cases.length N)).setCell ⟨q,3,none⟩ (.a s.els)).setCell ⟨q,4,none⟩ (.a s.fall)).setCell ⟨q,5,none⟩ (.bool false)).setCell ⟨q,6,none⟩ (.bool s.bad)).setCell ⟨q,7,none⟩ (.string s.give))=T:=by rw[c2];rfl
 rw[g5];clear g5 c2 v0 v1 v2 v3 v4 v5 v6 v7 f0 f1 l3 f3 f4 l4 f6 l5 vz E KE nz S;have c3:=Kz (HB.o.kept Y.o);have l6:M4 T q 0 (.slice H s.asks.length F):=O.o 0 _ rfl;have U:=g4.o.lt;have g6:Hid (∀w',K_ T w'->M4 w' q 0 (.slice H s.asks.length F)/\M4 w' q 1 (.a s.on)/\M4 w' q 2 (.slice M s.cases.length N)/\M4 w' q 3 (.a s.els)/\M4 w' q 4 (.a s.fall)/\M4 w' q 5 (.bool false)/\M4 w' q 6 (.bool s.bad)/\M4 w' q 7 (.string s.give)):=λw' K=>⟨(K.cell U).trans (O.o 0 _ rfl),(K.cell U).trans (O.o 1 _ rfl),(K.cell U).trans (O.o 2 _ rfl),(K.cell U).trans (O.o 3 _ rfl),(K.cell U).trans (O.o 4 _ rfl),(K.cell U).trans (O.o 5 _ rfl),(K.cell U).trans (O.o 6 _ rfl),(K.cell U).trans (O.o 7 _ rfl)⟩
 go_wp2
 go_loopg [6,27] s.asks.length (λgg x6 l7 wr=>∃(k:Nat)(V:NM)(cv:Nat),x6=.slice V k cv/\l7=.a (k:Int)/\k+gg=s.asks.length/\K_ T wr/\Hid (wr.ownsRow T.heap.size 100 2 (.slice V k cv) k (dI (xs.take k))))
 case atStart=>exact⟨0,none,0,rfl,rfl,E5,K_.refl _,Nj _ _ _ _⟩
 case round=>
  obtain⟨k,V,cv,rfl,rfl,q3,Kr,HO⟩:=hrel;by_cases q4:(k:Int)<(s.asks.length:Int)
  .have a8:k<s.asks.length:=E5;let⟨a1,Z⟩:=aj (s.asks.getD k ByteArray.empty);let⟨x,hx⟩:=aj (xs.getD k Xz.zero);have a0:=k7.o k a8;rw[<-Z,<-hx] at a0;obtain⟨b,o,rfl,c4,a2⟩:=c1.o k a8;rw[<-Z] at a2;have l8:=HB.o.kw.trans (Y.o.trans Kr);have c0:=(l8.cell c4).trans a2;have q5:a1.size<=20:=by rw[Z];simp only[List.getD,Mq a8,NC];exact f7 _ (Mw a8)
   have l9:Hid (xs.take (k+1)=xs.take k++[x]):=by
    show _=_;rw[Ms E5,hx];simp[List.getD,(E5:k<xs.length)]
   have c5:Hid ((∃t∈ts,t.r.name=a1)\/Kk Kq a1=none):=by
    cases hA:Kk Kq a1 with
    |none=>exact .inr rfl
    |some A=>
     refine .inl ?_;unfold bD at a0;rw[hA] at a0;simp only at a0;cases he:Qq (Qj ts) a1 with
     |none=>rw[he] at a0;cases a0
     |some r=>
      let⟨h1,h2⟩:=aZ he;obtain⟨u,hu,rfl⟩:=MM.1 h1;exact⟨u,hu,h2⟩
   have m0:=Kz a0;clear Z hx a0 a2;go_wp2_with fail
   refine (oC (c3.o.kept Kr) a1 E5 E5 c5.o).mono ?_;rintro e w4 ⟨⟨fa,tx,ok,rfl,a6⟩,k4⟩;rw[m0.o] at a6;cases ok
   .simp at a6
   simp only[if_true,Na] at a6;have K4:=Kr.trans k4;have m1:=Kz (au HO.o k4);have HX:Hid (x= ⟨fa,tx⟩):=a6;clear a6 c0;let⟨W5,b0⟩:=aj ((w4.alloc (.cells #[.bool fa,.string tx] 100)).alloc (.cells #[.bool fa,.string tx] 100));have K5:K_ w4 W5:=by rw[b0];exact (ah _ _).alloc _
   have g7:=Kz (au m1.o K5);have KK:=Kz (K4.trans K5);have m2:=KK.out.size;have m3:Hid (∀j u,([.bool fa,.string tx]:List NP)[j]? =some u->W5.cell? ((⟨w4.heap.size+1,0,none⟩:Addr).add j)=some u):=λj u hu=>by
    rw[Nf,b0];have:=X_ (w4.alloc (.cells #[.bool fa,.string tx] 100)) #[.bool fa,.string tx] 100 j u hu;rw[MZ] at this;exact this
   have m4:Hid (∀u∈([.bool fa,.string tx]:List NP),u.oneCell'=true):=λu hu=>by simp only[Nh,Ni,or_false] at hu;rcases hu with rfl|rfl<;>rfl
   have q6:k<=5:=E5;have m5:=Kz b0;clear b0;go_wp2_with (at_builtin;rw[<-m5.o];refine wpList_append_own _ rfl (.tmp 37) (.tmp 39) 164 rfl T.heap.size 100 ia _ 2 24 underlying164 j5 j6 j7 j8 rfl E8 (.slice V k cv) k (dI (xs.take k)) rfl g7.o ⟨w4.heap.size+1,0,none⟩ 1 1 [.bool fa,.string tx] rfl rfl m3.o m4.o F5 E5 m2 ?_;intro v' D c6 g8 _;have KP:=aK KK.out (Mj _) g7.o g8;have HP:=Kz c6;obtain⟨m6,m7,rfl⟩:=aF c6;clear c6 g8)
   go_roundg (gk-1)
   case measure=>omega
   case rel=>exact⟨k+1,m6,m7,rfl,F3,E5,KP,Kz (by rw[l9.o,pR,HX.o];exact HP.o)⟩
  .have g9:xs.length=k:=E5;have b1:=Kz g9;have hO:=HO.o;rw[MU E5] at hO;let⟨a9,m8,e9,_,a7⟩:=jJ hO;simp only[Nb] at e9;obtain⟨rfl,m9,rfl⟩:=e9;clear m9;have⟨q7,h0⟩:=aH a7 a7.answers;let⟨u0,u1,u2,u3,u4,u5,u6,u7⟩:=g6.o wr Kr;have q8:=Mk U Kr.size;clear hO a7 l6 g9;go_wp2_with fail
   refine (wW wr s H M F N).mono ?_;rintro e w5 ⟨rfl,k5⟩;have K5:=Kr.trans k5;clear u0 u1 u2 u3 u4 u5 u6 u7;go_wp2_with fail
   have c7:=Dv w5 s e8 H M V F N cv xs hF (c1.o.kept (HB.o.kw.trans (Y.o.trans K5))) (k9.o.kept (HB.o.kw.trans (Y.o.trans K5))) F5 (λc hc=>by have:=f2 c hc;unfold maxLen;omega) (h0.o.kept k5) j0 (λB hq=>by simp only[List.getD,List.getElem?_eq_getElem hq,Option.getD_some];exact f7 _ (List.getElem_mem hq));rw[b1.o] at c7;refine c7.mono ?_;rintro e D ⟨⟨g,rfl,c8⟩,k6⟩;have h4:=l0.o.unique c8;have⟨h5,n0⟩:=aH h4 c8;dsimp only[b_.cells];have K6:=K5.trans k6;clear c7 c8 h4;let⟨W,a3⟩:=aj (D.alloc (.cells #[.a g.code,.bool g.over,.a g.at',.string g.text] 168));have h6:K_ D W:=by rw[a3];exact ah _ _
   have p1:W.cell? ⟨D.heap.size,1,none⟩=some (.bool g.over):=by rw[a3];exact X_ D #[.a g.code,.bool g.over,.a g.at',.string g.text] 168 1 _ rfl
   have p2:W.cell? ⟨D.heap.size,2,none⟩=some (.a g.at'):=by rw[a3];exact X_ D #[.a g.code,.bool g.over,.a g.at',.string g.text] 168 2 _ rfl
   have p3:W.cell? ⟨D.heap.size,3,none⟩=some (.string g.text):=by rw[a3];exact X_ D #[.a g.code,.bool g.over,.a g.at',.string g.text] 168 3 _ rfl
   have h7:D.heap.size<W.heap.size:=by rw[a3];simp
   go_upto_region 10 with fail
   rw[<-a3];clear a3;have K7:=K6.trans h6;have h8:=(k5.trans k6).trans h6;have c5:=h0;have n1:Hid (∀(c9:NP)(b:Nat),b<T.heap.size->fD (W.setCell ⟨b,4,none⟩ c9) V xs):=λc9 b hb=>by
    have h1:=au HO.o h8;rw[MU (by have:=b1.o;omega)] at h1;let⟨a9,m8,e9,_,a7⟩:=jJ (bM h1 (p:=⟨b,4,none⟩) hb c9);simp only[Nb] at e9;rw[e9.1];exact a7.answers
   cases P:g.over
   .rw[P] at p1;have d0:=c3.o.kept K7;have d1:=d0.at HI.o;let⟨⟨_,x4⟩,f4⟩:=d1.row.row.at (i:=4) E5;have n2:=d1.row.lt;have b2:=Kz (d0.store (t':={t with r:={t.r with at':=g.at'}}) HI.o (o:=4) (v:=.a g.at') E5 rfl rfl rfl rfl rfl rfl rfl rfl rfl rfl);clear d0 d1;go_upto_region 15 with fail
    let⟨w8,d2⟩:=aj (W.setCell ⟨t.tb,4,none⟩ (.a g.at'));have n3:=Mk tz Y.o.size;have n4:Hid (fD w8 V xs):=by rw[d2];exact n1.o _ _ n3
    rw[<-d2] at b2⊢;clear d2 x4 f4 n2 p1 p2 p3;have d3:=(Mr.1 HI.o).1;have b3:Hid ((ts.set i {t with r:={t.r with at':=g.at'}})[i]? =some {t with r:={t.r with at':=g.at'}}):=Nv d3;have n5:=Kz (b2.o.at b3.o);let⟨ta,tc,n6⟩:=aF n5.o.txt;have q9:=Kz n6;have h9:Hid (∀w',K_ w8 w'->M4 w' t.tb 6 (t.tv)):=λw' K=>((b2.o.kept K).at b3.o).rng 6 _ rfl
    refine bF 12 h9.o λI S n=>?_
    refine ak 0 n ?_;refine ae 4 n ?_;refine ae 5 n ?_;refine ae 6 n ?_;refine aG 7 λK v=>?_;go_simp
    go_at_call 150
    have d4:=yQ I V cv xs E5 (n4.o.kept S);rw[b1.o] at d4;refine d4.mono ?_;rintro e w9 ⟨⟨ga,gc,rfl,i0⟩,n7⟩;have K9:=S.trans n7;have a4:=Kz (b2.o.kept K9);have a5:=Kz (a4.o.at b3.o);have n8:=Kz i0;have d5:=a4.o.kw.size;have r0:(aL xs).length<=5:=by have:=List.length_filter_le (λx:Xz=>!x.fail) xs;unfold aL;rw[Nt];omega
    refine af v (λ_=>h9.o _ K9) ?_;clear v K n d4 i0;refine aG 8 λK v=>?_;refine fw (.tmp 73) (.tmp 75) 26 rfl wz.heap.size 9 is _ 16 underlying26 j9 k0 k1 k2 rfl t.tv t.r.texts.length (t.r.texts.map Value.string) rfl a5.o.txt ga gc (aL xs) rfl n8.o F5 E5 d5 ?_;intro v' wA d6 d7 i1;obtain⟨va,vc,rfl⟩:=aF d6;have n9:=Kz (a4.o.texts (l:=aL xs) b3.o d6 d7 i1);have d8:wA.heap[t.tb]? =w9.heap[t.tb]? :=d7.block _ a5.o.row.lt λe=>aU a5.o.row.type (Y_ a5.o.txt e.symm) E8 rfl;have d9:=a5.o.row.block d8;have i2:Hid (M4 wA t.tb 6 t.tv):=(MC (w:=w9) d8).trans (a5.o.rng 6 _ rfl);let⟨⟨_,x6⟩,f6⟩:=d9.row.at (i:=6) E5;have r1:=d9.lt;refine v.out _ _ (λ_=>i2.o) ?_;clear v K d6 d7 i1 d8 d9;have n:=i2.o;try simp only[upP]
    refine ae 9 n ?_;refine ae 10 n ?_;refine ae 11 n ?_;refine ai 12 λK v=>?_;go_simp
    refine af v (λJ=>NB rfl J) ?_;clear v K n;refine aC ?_;have e0:=n9.o;rw[List.set_set] at e0;have o0:=Kz e0;clear e0;go_wp2
    go_ret
    rw[h5.o];exact .inr ⟨P,rfl,.slice va (t.r.texts.length+(aL xs).length) vc,o0.o⟩
   .rw[P] at p1;obtain⟨B,o1,e1,i3,i4⟩:∃B,B<xs.length/\iI (xs.getD B Xz.zero)/\mM xs iI B/\g.text=jR s B:=by
     rcases n0.o with⟨_,e⟩|⟨_,⟨B,h1,h2,h3,⟨_,e⟩|⟨_,e⟩⟩|⟨_,r,_,e⟩⟩
     .rw[e] at P;cases P
     .exact⟨B,h1,h2,h3,by rw[e]⟩
     .rw[e] at P;cases P
     .rw[e] at P;cases P
    have e2:B<s.asks.length:=E5;obtain⟨b,o,rfl,c4,a2⟩:=c1.o B e2;let⟨Q,b4⟩:=aj (s.asks.getD B ByteArray.empty);rw[<-b4] at a2;have o2:Hid (Q∈(stepOf ⟨t.cost,t.steps⟩ t.r.at').asks/\g.text= (⟨#[98,101,108,111,119,32]⟩:NL)++Q):=by
     refine⟨?_,by rw[i4,b4];rfl⟩;rw[<-l1.o,b4];simp only[List.getD,Mq e2,NC];exact Mw e2
    have e3:Hid (∀w',K_ W w'->M4 w' q 0 (.slice (some ⟨b,o,none⟩) s.asks.length F)/\M4 w' b (o+B) (.string Q)):=λw' K=>⟨(g6.o w' (K7.trans K)).1,((HB.o.kw.trans (Y.o.trans (K7.trans K))).cell c4).trans a2⟩
    have o3:Hid (∀r,Ab xs iI r->r= (B:Int)):=λr hr=>by
     rcases hr with⟨j,hj,rfl,hp,Z⟩|⟨_,Z⟩
     .rcases Ny j B with J|J|J
      .exact NB hp (i3 j J)
      .rw[J]
      .exact NB e1 (Z B J)
     .exact NB e1 (Z B o1)
    have r2:(B:Int)<(s.asks.length:Int):=E5;clear a2 b4 e1 i3 i4;go_upto_region 11 with fail
    refine bF 9 e3.o λI S n=>?_
    refine ak 0 n ?_;refine aG 4 λK v=>?_;go_simp
    go_at_call 172
    have e4:=zR I V cv xs F5 (λc hc=>by have:=f2 c hc;unfold maxLen;omega) (c5.o.kept (h8.trans S));rw[b1.o] at e4;refine e4.mono ?_;rintro e w8 ⟨⟨r8,rfl,i5⟩,k8⟩;obtain rfl:=o3.o r8 i5;have K8:=S.trans k8;refine v.out _ _ (λ_=>e3.o _ K8) ?_;clear v K n i5 e4;have n:=e3.o _ K8;try simp only[upP]
    refine ak 5 n ?_;have e5:=c3.o.kept (K7.trans K8);have e6:=e5.at HI.o;let⟨⟨_,o4⟩,o5⟩:=e6.row.row.at (i:=11) E5;have o6:=e6.row.lt;have a4:=Kz (e5.store (t':={t with bl:=Q}) HI.o (o:=11) (v:=.string Q) E5 rfl rfl rfl rfl rfl rfl rfl rfl rfl rfl);have p3:=(K8.cell (b:=D.heap.size) (o:=3) h7).trans p3;have i6:=Mk h7 K8.size;have o7:D.heap.size≠t.tb:=by have:=(HB.o.at HI.o).row.lt;have r3:=(Y.o.trans K6).size;omega
    clear e5 e6;refine ai 9 λK v=>?_;go_simp
    refine af v (λJ=>NB rfl J) ?_;clear v K n;refine aC ?_;have d3:=(Mr.1 HI.o).1;have o8:(w8.setCell ⟨t.tb,11,none⟩ (.string Q)).cell? ⟨D.heap.size,3,none⟩=some (.string g.text):=by rw[Zj o7];exact p3
    have d5:D.heap.size<(w8.setCell ⟨t.tb,11,none⟩ (.string Q)).heap.size:=by rw[size_setCell];exact i6
    let⟨w9,i7⟩:=aj (w8.setCell ⟨t.tb,11,none⟩ (.string Q));rw[<-i7] at a4 o8 d5⊢;clear i7 p3 o4 o5 o6 i6;go_wp2_with fail
    refine (nH a4.o (i:=i) (t:={t with bl:=Q}) (Nv d3) true g.text j2 j3 (λb hb=>?_) j4).mono ?_
    .obtain⟨j,u,i8,o9,h3,p0,p4⟩:=HW.o b hb;exact⟨j,u,by rw[MI (Ne.symm i8),MI (Ne.symm i8)];exact o9,h3,p0,p4⟩
    rintro e wF ⟨rfl,e7⟩;rw[List.set_set] at e7;have p5:=Kz e7;clear e7;go_wp2
    go_ret
    rw[h5.o];exact .inl ⟨P,rfl,Q,o2.o,p5.o⟩
end
variable {ts:List Zk}{i:Nat}{t:Zk}
theorem vE{t':Zk}(hi:ts[i]? =some t)(d:(ts.map (·.tb)).Nodup):∀u∈ts.set i t',u=t'\/(u∈ts/\u.tb≠t.tb):=λu f=>by
 obtain⟨b,rfl⟩:=Mr.1 hi;obtain⟨j,a,rfl⟩:=MB f;rw[Nu] at a;rw[NK]
 split
 .exact .inl rfl
 .rename_i hne
  refine .inr ⟨Mw a,λe=>?_⟩;have c:=Mx.1 d;rcases Nat.lt_or_gt_of_ne hne with g|g
  .have:=c i j (by simpa using b) (by simpa using a) g;simp at this;exact this e.symm
  .have:=c j i (by simpa using a) (by simpa using b) g;simp at this;exact this e
theorem Bi{t':Zk}(hi:ts[i]? =some t):t'∈ts.set i t'/\∀u∈ts,u.tb≠t.tb->u∈ts.set i t':=by
 obtain⟨a,rfl⟩:=Mr.1 hi;refine⟨List.mem_iff_getElem.2 ⟨i,by rw[Nu];exact a,E9⟩,λu b c=>?_⟩;obtain⟨j,e,rfl⟩:=MB b;refine List.mem_iff_getElem.2 ⟨j,by rw[Nu];exact e,?_⟩;rw[NK,NA λf=>c (by subst f;rfl)]
variable {l:List Nat}
theorem BB{u:Zk}:u∈iO ts l↔∃v∈ts,u=if v.tb∈l then {v with op:=v.op-1} else v:=by
 unfold iO;rw[MM];constructor
 .rintro⟨v,a,b⟩;exact⟨v,a,b.symm⟩
 .rintro⟨v,a,b⟩;exact⟨v,a,b.symm⟩
theorem Ll{v:Zk}:(if v.tb∈l then {v with op:=v.op-1} else v:Zk).bl=v.bl:=by
 by_cases h:v.tb∈l
 .rw[Nz h]
 .rw[NA h]
theorem La{v:Zk}:(if v.tb∈l then {v with op:=v.op-1} else v:Zk).qs=v.qs:=by
 by_cases h:v.tb∈l
 .rw[Nz h]
 .rw[NA h]
theorem jy{v:Zk}:(if v.tb∈l then {v with op:=v.op-1} else v:Zk).tb=v.tb/\(if v.tb∈l then {v with op:=v.op-1} else v:Zk).r=v.r:=by
 by_cases h:v.tb∈l
 .rw[Nz h];exact⟨rfl,rfl⟩
 .rw[NA h];exact⟨rfl,rfl⟩
theorem Jm(ts:List Zk)(l:List Nat):Qj (iO ts l)=Qj ts:=by
 unfold Qj iO;rw[List.map_map]
 congr 1
 funext v
 exact jy.2
theorem AA{l:List Q_}{r a:Q_}(q:dB l)(hi:l[i]? =some r)(c:a.name=r.name)(m:NL):Qq (l.set i a) m=if m=r.name then some a else Qq l m:=by
 obtain⟨k,rfl⟩:=Mr.1 hi;have n:=Ad q k c;have s:a∈l.set i a:=List.mem_iff_getElem.2 ⟨i,by rw[Nu];exact k,E9⟩;by_cases e:m=l[i].name
 .rw[Nz e];have:=bJ n s;rw[c,<-e] at this;exact this
 .rw[NA e];cases h:Qq l m with
  |some x=>
   let⟨t,p⟩:=aZ h;obtain⟨j,b,rfl⟩:=MB t;have v:i≠j:=λd=>e (by subst d;exact p.symm)
   have f:l[j]∈l.set i a:=List.mem_iff_getElem.2 ⟨j,by rw[Nu];exact b,by rw[NK,NA v]⟩;have:=bJ n f;rw[p] at this;exact this
  |none=>
   unfold Qq at h⊢;rw[List.find?_eq_none] at h⊢;intro x f;obtain⟨j,b,rfl⟩:=MB f;rw[Nu] at b;rw[NK]
   split
   .rw[c];simpa using λd=>e d.symm
   .exact h _ (Mw b)
theorem yj{l:List NL}{n:NL}(h:l.Nodup):(l.filter λa=>!decide (a=n)).length=if eO l n=true then l.length-1 else l.length:=by
 induction l with
 |nil=>simp[eO]
 |cons x l b=>
  rw[List.nodup_cons] at h;have b:=b h.2;by_cases e:x=n
  .subst e;have c:¬eO l x=true:=λg=>h.1 (df.1 g)
   rw[NA c] at b;rw[Nz (df.2 E9)];simp[b]
  .have d:eO (x :: l) n=eO l n:=by simp[eO,e]
   rw[d];simp only[List.filter_cons,e,decide_false,Bool.not_false,if_true,Nc];rw[b];by_cases g:eO l n=true
   .rw[Nz g,Nz g];have:0<l.length:=List.length_pos_of_mem (df.1 g);omega
   .rw[NA g,NA g]
variable {ws:NL -> List Nat}{Kq:List Qz}
theorem BS.self(h:BS Kq ts ws)(a:t∈ts)(c:aS (Kk Kq) (Qq (Qj ts)) t.r):t.op=0/\pend (Kk Kq) (Qq (Qj ts)) t.r=[]/\∀s,t.tb∉ws s:=by
 have d:=h.good.good t.r (Nk a);let⟨A,e,_⟩:=d.act;have b:=((zt (by rw[e];rfl)).1 c).2;refine⟨by rw[h.op t a,b];rfl,b,λs f=>?_⟩;have:=(h.wt s t a).1 f;rw[b] at this;cases this
theorem BS.ended(D:bH (Kk Kq))(h:BS Kq ts ws)(M:(ts.map (·.tb)).Nodup){t':Zk}(hi:ts[i]? =some t)(f:aS (Kk Kq) (Qq (Qj ts)) t.r)(j:t'.r= (Xx (Kk Kq) (Qq (Qj ts)) t.r).1)(E:t'.r.over=true)(F:(Xx (Kk Kq) (Qq (Qj ts)) t.r).2=[])(G:t'.tb=t.tb)(N:t'.op=t.op)(O:Ae (Kk Kq) t'.r t'.bl)(P:t'.qs=t.qs):BS Kq (iO (ts.set i t') (ws t.r.name)) (λn=>if n=t.r.name then [] else ws n)/\Qq (Qj (iO (ts.set i t') (ws t.r.name)))=doX (Kk Kq) (Qq (Qj ts)) t.r.name:=by
 have l:=ME hi;let⟨Q,Y,w⟩:=h.self l f;have y:(Qj ts)[i]? =some t.r:=by unfold Qj;rw[List.getElem?_map,hi];rfl
 have R:=(Mr.1 hi).1;have H:t'.r.name=t.r.name:=by rw[j,dx]
 have I:Qj (iO (ts.set i t') (ws t.r.name))= (Qj ts).set i t'.r:=by rw[Jm,pg R]
 have p:=bJ h.good.asc (Nk l);have z:Qq (Qj (iO (ts.set i t') (ws t.r.name)))=doX (Kk Kq) (Qq (Qj ts)) t.r.name:=by
  funext m
  rw[I,AA h.good.asc y H,dY p,j];by_cases e:m=t.r.name
  .rw[Nz e,Nz e]
  .rw[NA e,NA e];cases Qq (Qj ts) m with
   |some x=>rfl
   |none=>
    simp only;rw[NA (by rw[F];simp[eO])]
 have J:=h.good.good t.r (Nk l);have S:(Kk Kq t.r.name).isSome=true:=by let⟨T,A,_⟩:=J.act;rw[A];rfl
 have K:∀x:Q_,pend (Kk Kq) (Qq (Qj (iO (ts.set i t') (ws t.r.name)))) x= (pend (Kk Kq) (Qq (Qj ts)) x).filter (λa=>!decide (a=t.r.name)):=λx=>by
  rw[z,EO p f.1 S,<-j,Nz E]
 have L:∀σ,pend (Kk Kq) σ t'.r=[]:=λσ=>by unfold pend;rw[Nz (.inl E)]
 have U:∀u∈ts,(pend (Kk Kq) (Qq (Qj ts)) u.r).Nodup:=λu d=>by
  let⟨T,A,V,B⟩:=(h.good.good u.r (Nk d)).act;exact Dn D A V B
 have k:∀u∈iO (ts.set i t') (ws t.r.name),u=t'\/∃v∈ts,v.tb≠t.tb/\u=if v.tb∈ws t.r.name then {v with op:=v.op-1} else v:=λu d=>by
  obtain⟨v,c,rfl⟩:=BB.1 d;rcases vE hi M v c with rfl|⟨B,C⟩
  .left
   rw[NA (by rw[G];exact w _)]
  .exact .inr ⟨v,B,C,rfl⟩
 refine⟨⟨⟨by rw[I];exact Ad h.good.asc (Mr.1 y).1 (H.trans (congrArg Q_.name (Mr.1 y).2).symm),λx W=>?_⟩,λu d=>?_,λs u d=>?_,λs=>?_,λs b q=>?_,λu d=>?_,λu d=>?_⟩,z⟩
 rotate_right
 .rw[z];rcases k u d with rfl|⟨v,c,_,rfl⟩
  .have:=(h.qs t l).unit f;rw[F,List.map_nil,List.append_nil,<-j,<-P] at this;exact this.mono ⟨t.r,p,f⟩
  .rw[jy.2,La];exact (h.qs v c).mono ⟨t.r,p,f⟩
 rotate_right
 .rcases k u d with rfl|⟨v,c,_,rfl⟩
  .exact O
  .rw[jy.2,Ll];exact h.bl v c
 .obtain⟨u,d,rfl⟩:=MM.1 W;rcases k u d with rfl|⟨v,c,_,rfl⟩
  .rw[j];exact dU D h.good.env J f
  .rw[jy.2];exact h.good.good v.r (Nk c)
 .rcases k u d with rfl|⟨v,c,X,rfl⟩
  .rw[L,N,Q];rfl
  .rw[jy.2,K,yj (U v c)];by_cases g:v.tb∈ws t.r.name
   .rw[Nz g,Nz (df.2 ((h.wt _ v c).1 g))];show v.op-1=_;rw[h.op v c]
   .rw[NA g,NA λC=>g ((h.wt _ v c).2 (df.1 C))];exact h.op v c
 .rcases k u d with rfl|⟨v,c,X,rfl⟩
  .rw[L];simp only[Ni,iff_false];intro g
   split at g
   .cases g
   .rw[G] at g;exact w _ g
  .rw[jy.1,jy.2,K,List.mem_filter];by_cases e:s=t.r.name
   .simp[e]
   .simp only[e,if_false];rw[h.wt s v c];simp
 .by_cases e:s=t.r.name
  .rw[Nz e];exact List.nodup_nil
  .rw[NA e];exact h.wn s
 .split at q
  .cases q
  .obtain⟨v,c,e⟩:=h.ww s b q;by_cases g:v.tb=t.tb
   .exact NB q (by rw[<-e,g];exact w s)
   .exact⟨_,BB.2 ⟨v,(Bi hi).2 v c g,rfl⟩,by rw[jy.1];exact e⟩
theorem ru(d:(ts.map (·.tb)).Nodup){u v:Zk}(f:u∈ts)(h:v∈ts)(e:u.tb=v.tb):u=v:=by
 obtain⟨i,a,rfl⟩:=MB f;obtain⟨j,b,rfl⟩:=MB h;have c:=Mx.1 d;rcases Ny i j with g|g|g
 .have:=c i j (by simpa using a) (by simpa using b) g;simp at this;exact NB e this
 .subst g;rfl
 .have:=c j i (by simpa using b) (by simpa using a) g;simp at this;exact NB e.symm this
variable {ts':List Zk}
theorem FY(h:(ts'.map λt=>(t.tb,t.r,t.op,t.bq))= (ts.map λt=>(t.tb,t.r,t.op,t.bq))):(∀u∈ts',∃v∈ts,v.tb=u.tb/\v.r=u.r/\v.op=u.op/\v.bq=u.bq)/\(∀v∈ts,∃u∈ts',u.tb=v.tb/\u.r=v.r/\u.op=v.op/\u.bq=v.bq):=by
 constructor
 .intro u b;have:(u.tb,u.r,u.op,u.bq)∈ts'.map λt=>(t.tb,t.r,t.op,t.bq):=MM.2 ⟨u,b,rfl⟩
  rw[h] at this;let⟨v,c,e⟩:=MM.1 this;simp only[Prod.mk.injEq] at e;exact⟨v,c,e.1,e.2.1,e.2.2.1,e.2.2.2⟩
 .intro v c;have:(v.tb,v.r,v.op,v.bq)∈ts.map λt=>(t.tb,t.r,t.op,t.bq):=MM.2 ⟨v,c,rfl⟩
  rw[<-h] at this;let⟨u,b,e⟩:=MM.1 this;simp only[Prod.mk.injEq] at e;exact⟨u,b,e.1,e.2.1,e.2.2.1,e.2.2.2⟩
theorem DD(h:(ts'.map λt=>(t.tb,t.r,t.op,t.bq))= (ts.map λt=>(t.tb,t.r,t.op,t.bq))):Qj ts'=Qj ts:=by
 have:=congrArg (List.map λp:Nat×Q_×Nat×NL×List NP=>p.2.1) h;rw[List.map_map,List.map_map] at this;exact this
theorem BS.asked(a0:bH (Kk Kq)){ts0:List Zk}{Q:NL->List Nat}(l:BS Kq ts ws)(R:(ts.map (·.tb)).Nodup){t1:Zk}(hi:ts[i]? =some t)(x:aS (Kk Kq) (Qq (Qj ts)) t.r)(F:t1.r= (Xx (Kk Kq) (Qq (Qj ts)) t.r).1)(S:t1.r.over=false)(hv:t1.r.Zq≠0)(a1:t1.tb=t.tb)(T:t1.op=t.op/\t1.bl=t.bl/\t1.qs=t.qs++(Xx (Kk Kq) (Qq (Qj ts)) t.r).2.map Value.string)(a2:(ts0.map λt=>(t.tb,t.r,t.op,t.bq))= ((ts.set i t1).map λt=>(t.tb,t.r,t.op,t.bq)))(a3:dB (Qj ts'))(C:(ts'.map (·.tb)).Nodup){A:fO}(hA:Kk Kq t.r.name=some A)(a8:(Xx (Kk Kq) (Qq (Qj ts)) t.r).2= (stepOf A t1.r.at').asks)(n:pU Kq ts0 ws t.tb (Xx (Kk Kq) (Qq (Qj ts)) t.r).2 (Xx (Kk Kq) (Qq (Qj ts)) t.r).2 ts' Q):BS Kq ts' Q/\Qq (Qj ts')=doX (Kk Kq) (Qq (Qj ts)) t.r.name:=by
 have G:=ME hi;let⟨h1,h2,U⟩:=l.self G x;have a9:(Qj ts)[i]? =some t.r:=by unfold Qj;rw[List.getElem?_map,hi];rfl
 have b0:=(Mr.1 hi).1;have a4:t1.r.name=t.r.name:=by rw[F,dx]
 have b1:Qj ts0= (Qj ts).set i t1.r:=by rw[DD a2,pg b0]
 have M:=bJ l.good.asc (Nk G);have a5:∀p,Qq (Qj ts0) p=if p=t.r.name then some t1.r else Qq (Qj ts) p:=λp=>by rw[b1];exact AA l.good.asc a9 a4 p
 have V:Qq (Qj ts')=doX (Kk Kq) (Qq (Qj ts)) t.r.name:=by
  funext p
  rw[n.env p,a5,dY M,F];by_cases e:p=t.r.name
  .rw[Nz e,Nz e]
  .rw[NA e,NA e];cases Qq (Qj ts) p<;>rfl
 have hg:=l.good.good t.r (Nk G);have hw:(Kk Kq t.r.name).isSome=true:=by rw[hA];rfl
 have a6:∀H:Q_,pend (Kk Kq) (Qq (Qj ts')) H=pend (Kk Kq) (Qq (Qj ts)) H:=λH=>by
  rw[V,EO M x.1 hw,<-F,NA (by rw[S];simp)]
 have a7:pend (Kk Kq) (Qq (Qj ts')) t1.r=kP Kq ts0 (Xx (Kk Kq) (Qq (Qj ts)) t.r).2:=by
  unfold pend kP;rw[NA (by rw[S];simp[hv]),a4,hA];simp only;rw[a8]
  congr 1
  funext a
  rw[n.ans a]
 let⟨t0,b2,N,D,e1,z,e3,e4,e5⟩:=n.me;let⟨W,b3⟩:=FY a2;have q:N.r=t1.r/\t0.op=0/\N.bl=t.bl/\N.qs=t1.qs:=by
  let⟨v,d,h,c,m,O⟩:=W t0 b2;rcases vE hi R v d with rfl|⟨_,g4⟩
  .exact⟨by rw[e3,<-c],by rw[<-m,T.1,h1],(congrArg Prod.fst (e5.trans O.symm)).trans T.2.1,congrArg Prod.snd (e5.trans O.symm)⟩
  .exact NB (h.trans e1) g4
 have old:∀u∈ts',u.tb≠t.tb->(∃v∈ts,v.tb=u.tb/\v.r=u.r/\v.op=u.op/\v.bq=u.bq)\/(u.r=Q_.fresh u.r.name/\(u.op=0/\u.bq= (⟨#[]⟩,[]))/\Qq (Qj ts) u.r.name=none):=λu j P=>by
  rcases n.other u j P with⟨u0,I,h,c,m,O⟩|⟨h,c,m⟩
  .obtain⟨v,d,E,J,X,k5⟩:=W u0 I;rcases vE hi R v d with rfl|⟨k4,_⟩
   .exact NB (h.symm.trans (E.symm.trans a1)) P
   .exact .inl ⟨v,k4,E.trans h,J.trans c,X.trans m,k5.trans O⟩
  .refine .inr ⟨h,c,?_⟩;rw[a5] at m
   split at m
   .cases m
   .exact m
 have keep:∀v∈ts,v.tb≠t.tb->∃u∈ts',u.tb=v.tb/\u.r=v.r:=λv d P=>by
  let⟨u0,I,h,c,_⟩:=b3 v ((Bi hi).2 v d P);let⟨u,j,E,J⟩:=n.old u0 I;exact⟨u,j,E.trans h,J.trans c⟩
 have Y:∀s b,b∈Q s↔b∈ws s\/(eO (kP Kq ts0 (Xx (Kk Kq) (Qq (Qj ts)) t.r).2) s=true/\b=t.tb):=λs b=>by
  rw[n.wt s]
  split
  .rename_i g;simp[g]
  .rename_i g;simp[g]
 refine⟨⟨⟨a3,λH K=>?_⟩,λu j=>?_,λs u j=>?_,λs=>?_,λs b hb=>?_,λu j=>?_,λu j=>?_⟩,V⟩
 rotate_right
 .rw[V];by_cases g:u.tb=t.tb
  .have:=ru C j D (g.trans z.symm);rw[this,q.1,q.2.2.2,F,T.2.2];exact ((l.qs t G).unit x).mono ⟨t.r,M,x⟩
  .rcases old u j g with⟨v,d,_,c,_,m⟩|⟨h,c,_⟩
   .rw[<-c,<-show v.qs=u.qs from congrArg Prod.snd m];exact (l.qs v d).mono ⟨t.r,M,x⟩
   .exact xh.still (congrArg Prod.snd c.2) h
 rotate_right
 .by_cases g:u.tb=t.tb
  .have:=ru C j D (g.trans z.symm);rw[this,q.1,q.2.2.1];exact Ae.still ((l.bl t G).open x.1) S
  .rcases old u j g with⟨v,d,_,c,_,m⟩|⟨h,c,_⟩
   .rw[<-c,<-show v.bl=u.bl from congrArg Prod.fst m];exact l.bl v d
   .exact Ae.still (congrArg Prod.fst c.2) (by rw[h];rfl)
 .obtain⟨u,j,rfl⟩:=MM.1 K;by_cases g:u.tb=t.tb
  .have:=ru C j D (g.trans z.symm);rw[this,q.1,F];exact dU a0 l.good.env hg x
  .rcases old u j g with⟨v,d,_,c,_⟩|⟨h,_,_⟩
   .rw[<-c];exact l.good.good v.r (Nk d)
   .have b4:(Kk Kq u.r.name).isSome=true:=by
     have w:=bJ a3 K;rw[n.env] at w;rcases n.other u j g with⟨u0,I,E,J,_⟩|⟨_,_,X⟩
     .obtain⟨v,d,B,L,_⟩:=W u0 I;rcases vE hi R v d with rfl|⟨m4,_⟩
      .exact NB (E.symm.trans (B.symm.trans a1)) g
      .obtain⟨b5,hB,_⟩:=(l.good.good v.r (Nk m4)).act;rw[<-J,<-L,hB];rfl
     .rw[X] at w;simp only at w
      split at w
      .rename_i h6;exact h6.2
      .cases w
    rw[h];exact gP a0 b4
 .by_cases g:u.tb=t.tb
  .have:=ru C j D (g.trans z.symm);rw[this,q.1,a7,e4,q.2.1,MR]
  .rw[a6];rcases old u j g with⟨v,d,_,c,m,_⟩|⟨h,c,_⟩
   .rw[<-c,<-m];exact l.op v d
   .rw[h,c.1,nI];rfl
 .by_cases g:u.tb=t.tb
  .have:=ru C j D (g.trans z.symm);rw[this,q.1,a7,Y,z,df];exact⟨λk=>by rcases k with k|k;exact NB k (U s);exact k.1,λk=>.inr ⟨k,rfl⟩⟩
  .rw[a6,Y];rcases old u j g with⟨v,d,h,c,m⟩|⟨h,c,m⟩
   .rw[<-h,<-c,<-l.wt s v d];exact⟨λk=>by rcases k with k|⟨_,k⟩;exact k;exact NB (h.symm.trans k) g,.inl⟩
   .rw[h,nI];simp only[Ni,iff_false];rintro (k|⟨_,k⟩)
    .obtain⟨v,d,B⟩:=l.ww s u.tb k;let⟨u2,Z,L,m3⟩:=keep v d λe=>g (B.symm.trans e);have:=ru C j Z (B.symm.trans L.symm);have w:=bJ l.good.asc (Nk (f:=λt:Zk=>t.r) d);rw[<-m3,<-this,m] at w;cases w
    .exact g k
 .rw[n.wt s]
  split
  .rw[List.nodup_append];exact⟨l.wn s,E9,λH K y hy e=>by rw[Mt] at hy;rw[e,hy] at K;exact U s K⟩
  .exact l.wn s
 .rcases (Y s b).1 hb with k|⟨_,k⟩
  .obtain⟨v,d,B⟩:=l.ww s b k;by_cases g:v.tb=t.tb
   .exact NB k (by rw[<-B,g];exact U s)
   .obtain⟨u2,Z,L,_⟩:=keep v d g;exact⟨u2,Z,L.trans B⟩
  .exact⟨N,D,z.trans k.symm⟩
def fU(wz:NN):Prop:=∀(W:NN)(give:NL)(a:NM)(cap:Nat)(l:List NL),K_ wz W->give.size<=maxLen->l.length<=maxLen->Strs W a l->l.length<=cap->Calls prog 135 #[.string give,.slice a l.length cap] W λe w'=>e=.returned (.string (nL give l))/\K_ W w'
theorem FP(w:NN)(tb:Nat)(v:Int)(a:w.cell? ⟨tb,5,none⟩=some (.a v)):Calls prog 132 #[.c tb] w λe w'=>Says e (v=20)/\w'=w:=by
 go_enter func132,ntmps132
 go_wp2
 go_ret
 exact⟨by simp[Says],rfl⟩
theorem qO{W:dC}{σ:Env}{r:Q_}{A:fO}(h:aS W σ r)(c:W r.name=some A)(d:r.Zq≠0):∃xs,Yz W σ (stepOf A r.at').asks=some xs:=by
 rcases h.2 with h|⟨f,xs,b,e⟩
 .exact NB h d
 .rw[c] at b;cases b;exact⟨xs,e⟩
variable {Kq:List Qz}{ts:List Zk}
theorem BS.Lu{ws:NL->List Nat}(h:BS Kq ts ws)(s:NL):(ws s).length<=ts.length:=by
 have b:=List.Nodup.length_le_of_subset (h.wn s) (l₂:=ts.map (·.tb)) (λc d=>by
  let⟨t,f,e⟩:=h.ww s c d;exact MM.2 ⟨t,f,e⟩)
 simpa using b
variable {t:Zk}
theorem BS.waiters(m:bH (Kk Kq)){ws:NL->List Nat}(h:BS Kq ts ws)(_hn:(ts.map (·.tb)).Nodup){i:Nat}(hi:ts[i]? =some t)(n:aS (Kk Kq) (Qq (Qj ts)) t.r):∀b∈ws t.r.name,∃(j:Nat)(u:Zk),j≠i/\ts[j]? =some u/\u.tb=b/\1<=u.op/\u.op<=1000:=λb d=>by
 let⟨u,c,e⟩:=h.ww _ b d;let⟨_,_,p⟩:=h.self (ME hi) n;obtain⟨j,f,rfl⟩:=MB c;have q:=(h.wt t.r.name ts[j] c).1 (by rw[e];exact d);have k:=h.op ts[j] c;refine⟨j,ts[j],λs=>?_,Mq f,e,?_,?_⟩
 .subst s;rw[Mq f] at hi;cases hi;exact p _ (by rw[e];exact d)
 .rw[k];exact List.length_pos_of_mem q
 .rw[k];let⟨A,l,v,w⟩:=(h.good.good ts[j].r (Nk c)).act;have x:=(iw (m _ _ l).1 v w).1;unfold pend
  split
  .exact Ml _
  .rw[l];simp only;have:=List.length_filter_le (λa=>(bD (Kk Kq) (Qq (Qj ts)) a).isNone) (stepOf A ts[j].r.at').asks;omega
structure uT (Kq:List Qz)(σ:Env)(t t2:Zk):Prop where
 nx:Xx (Kk Kq) σ t.r= (if (stepOf ⟨t.cost,t.steps⟩ t2.r.at').fin=true then {t2.r with over:=true,fail:=(stepOf ⟨t.cost,t.steps⟩ t2.r.at').bad,text:=nL (stepOf ⟨t.cost,t.steps⟩ t2.r.at').give t2.r.texts} else t2.r,(stepOf ⟨t.cost,t.steps⟩ t2.r.at').asks)
 lo:0<=t2.r.at'
 hi:t2.r.at' < t.steps.length
 ov:t2.r.over=false
 vi:t2.r.Zq≠0
 nm:t2.r.name=t.r.name
theorem uT.first{σ:Env}{t1:Zk}(a:t1= {t with r:={t.r with Zq:=t.r.Zq+1}})(b:t.r.Zq=0)(c:Kk Kq t.r.name=some ⟨t.cost,t.steps⟩)(d:aS (Kk Kq) σ t.r)(e:0<=t.r.at')(f:t.r.at' < t.steps.length):uT Kq σ t t1:=by
 subst a;refine⟨?_,e,f,d.1,by show t.r.Zq+1≠0;omega,rfl⟩;unfold Xx;rw[c];simp only;rw[Nz b]
 rfl
variable {xs:List Xz}
theorem Gr{σ:Env}(a:Kk Kq t.r.name=some ⟨t.cost,t.steps⟩)(b:t.r.Zq≠0)(e:t.r.Zq<20)(c:Yz (Kk Kq) σ (stepOf ⟨t.cost,t.steps⟩ t.r.at').asks=some xs)(d:(eT (stepOf ⟨t.cost,t.steps⟩ t.r.at') xs).over=true):Xx (Kk Kq) σ t.r= ({t.r with Zq:=t.r.Zq+1,over:=true,fail:=true,text:=(eT (stepOf ⟨t.cost,t.steps⟩ t.r.at') xs).text},[]):=by
 unfold Xx;rw[a];simp only;rw[NA b,c];simp only;rw[NA E5,Nz d]
theorem uT.gone{a:Zk}(i:bH (Kk Kq))(j:dW Kq (Qj ts))(hgd:t.r.Good Kq)(b:Kk Kq t.r.name=some ⟨t.cost,t.steps⟩)(c:aS (Kk Kq) (Qq (Qj ts)) t.r)(k:t.r.Zq≠0)(q:t.r.Zq<20)(l:Yz (Kk Kq) (Qq (Qj ts)) (stepOf ⟨t.cost,t.steps⟩ t.r.at').asks=some xs)(m:(eT (stepOf ⟨t.cost,t.steps⟩ t.r.at') xs).over=false)(h2:a.r= {t.r with Zq:=t.r.Zq+1,at':=(eT (stepOf ⟨t.cost,t.steps⟩ t.r.at') xs).at',texts:=t.r.texts++aL xs}):uT Kq (Qq (Qj ts)) t a:=by
 have d:Xx (Kk Kq) (Qq (Qj ts)) t.r= (if (stepOf ⟨t.cost,t.steps⟩ a.r.at').fin=true then {a.r with over:=true,fail:=(stepOf ⟨t.cost,t.steps⟩ a.r.at').bad,text:=nL (stepOf ⟨t.cost,t.steps⟩ a.r.at').give a.r.texts} else a.r,(stepOf ⟨t.cost,t.steps⟩ a.r.at').asks):=by
  unfold Xx;rw[b];simp only;rw[NA k,l];simp only;rw[NA E5,NA (by rw[m];simp),h2]
  rfl
 have n:=(dU i j.env hgd c).act;let⟨s,e,f,h⟩:=n;rw[dx,b] at e;cases e;have p:(Xx (Kk Kq) (Qq (Qj ts)) t.r).1.at'=a.r.at':=by rw[d];simp only;split<;>rfl
 rw[p] at f h;exact⟨d,f,h,by rw[h2];exact c.1,by rw[h2];show t.r.Zq+1≠0;have:=hgd.lo;omega,by rw[h2]⟩
theorem oG{W:dC}{σ b:Env}(h:∀a,bD W b a=bD W σ a):∀l,Yz W b l=Yz W σ l
 |[]=>rfl
 |a :: l=>by unfold Yz;rw[h a,oG h l]
theorem yK{i:Nat}{t1:Zk}(a:dB (Qj ts))(hi:ts[i]? =some t)(_ho:t.r.over=false)(b:t1= {t with r:={t.r with Zq:=t.r.Zq+1}}){l:List NL}:Yz (Kk Kq) (Qq (Qj (ts.set i t1))) l=Yz (Kk Kq) (Qq (Qj ts)) l:=by
 refine oG (λn=>?_) l;have d:=(Mr.1 hi).1;have c:(Qj ts)[i]? =some t.r:=by unfold Qj;rw[List.getElem?_map,hi];rfl
 unfold bD;cases Kk Kq n with
 |none=>rfl
 |some A=>
  simp only;rw[pg d,AA a c (by rw[b])];by_cases e:n=t.r.name
  .rw[Nz e,e,bJ a (ME c),b]
  .rw[NA e]
variable {s:Xq}
theorem DZ(f:bH (Kk Kq))(v:∀y∈Kq,y.Fits)(a:Kk Kq t.r.name=some ⟨t.cost,t.steps⟩)(hgd:t.r.Good Kq)(w:aS (Kk Kq) (Qq (Qj ts)) t.r)(z:dW Kq (Qj ts))(A:t.r.Zq≠0)(b:s=stepOf ⟨t.cost,t.steps⟩ t.r.at')(c:Yz (Kk Kq) (Qq (Qj ts)) s.asks=some xs):s.Fits/\s.fin=false/\s.asks.length<=5/\(∀x∈s.asks,x.size<=20)/\(s.asks.length≠0->0<=s.on/\s.on<s.asks.length)/\xG s xs/\∀x∈xs,x.text.size<=200:=by
 let⟨J,i,B,d⟩:=hgd.act;rw[a] at i;cases i;have j:s.fin=false:=by rw[b];exact hgd.stp _ a w.1 A
 let⟨k,l⟩:=iw (f _ _ a).1 B d;rw[<-b] at k l;have m:∀x∈s.asks,x.size<=20:=λx c=>(l x c).2.1
 let⟨C,D⟩:=nQ z.env m c;have E:=(f _ _ a).1.2.2 t.r.at'.toNat (by dsimp only at d⊢;omega);have F:ll s t.steps.length:=by rw[b];exact E
 have G:=(F.2 j).1.2.2.2.2.2.2.2;refine⟨?_,j,k,m,λK=>?_,C,D⟩
 .obtain⟨H,n,_,_,e⟩:=fJ a;simp only[fO.mk.injEq] at e;have I:=v _ (Mw n);have p:s∈(Kq.getD H Qz.zero).steps:=by
   rw[b,<-e.2];unfold stepOf;dsimp only at d⊢;have q:t.r.at'.toNat<t.steps.length:=E5;simp only[List.getD,Mq q,NC];exact Mw q
  simp only[List.getD,Mq n,NC] at p;exact I.each s p
 .rcases G with h|h
  .rw[h];omega
  .exact h
theorem step_ok{x:Int}(a:bH (Kk Kq))(b:Kk Kq t.r.name=some ⟨t.cost,t.steps⟩)(d:0<=x)(e:x<t.steps.length)(c:s=stepOf ⟨t.cost,t.steps⟩ x):ll s t.steps.length:=by
 rw[c];exact (a _ _ b).1.2.2 x.toNat (by dsimp only;omega)
theorem yG{x:Int}(a:bH (Kk Kq))(b:Kk Kq t.r.name=some ⟨t.cost,t.steps⟩)(c:0<=x)(d:x<t.steps.length)(e:s=stepOf ⟨t.cost,t.steps⟩ x)(f:s.fin=true):s.asks=[]:=MF.1 ((step_ok a b c d e).1 f).1
theorem vk{x:Int}(c:bH (Kk Kq))(d:Kk Kq t.r.name=some ⟨t.cost,t.steps⟩)(e:0<=x)(f:x<t.steps.length)(i:s=stepOf ⟨t.cost,t.steps⟩ x):s.asks.Nodup:=by
 have h:=step_ok c d e f i;cases a:s.fin with
 |true=>rw[MF.1 (h.1 a).1];exact List.nodup_nil
 |false=>
  have j:=(h.2 a).1.2.2.2.1;rw[List.Nodup,Mx];intro k l m b n p;have:=(j l b).2 k n;simp only[List.getD,Mq m,Mq b,NC] at this;exact this p
theorem FE{x:Int}(d:∀y∈Kq,y.Fits)(f:Kk Kq t.r.name=some ⟨t.cost,t.steps⟩)(j:0<=x)(l:x<t.steps.length)(h:s=stepOf ⟨t.cost,t.steps⟩ x):s.give.size<=maxLen:=by
 let⟨k,a,_,_,e⟩:=fJ f;simp only[fO.mk.injEq] at e;have i:=d _ (Mw a);have b:s∈(Kq.getD k Qz.zero).steps:=by
  rw[h,<-e.2];unfold stepOf;dsimp only;have c:x.toNat<t.steps.length:=E5;simp only[List.getD,Mq c,NC];exact Mw c
 simp only[List.getD,Mq a,NC] at b;exact (i.each s b).give
theorem Gb{a:Zk}(c:bH (Kk Kq))(d:dW Kq (Qj ts))(hgd:t.r.Good Kq)(e:aS (Kk Kq) (Qq (Qj ts)) t.r)(h:uT Kq (Qq (Qj ts)) t a):a.r.texts.length<=1000:=by
 have b:=dU c d.env hgd e;have f:(Xx (Kk Kq) (Qq (Qj ts)) t.r).1.texts=a.r.texts:=by rw[h.nx];simp only;split<;>rfl
 have i:=b.tl;have j:=b.hi;rw[f] at i;omega
def LF(G:cZ)(Kq:List Qz)(wz:NN)(bb:Nat)(a:NM)(cap:Nat)(rd:NM)(rn rc mb mx:Nat)(ts:List Zk)(d:NM)(dc:Nat)(f:NL->NP)(ws:NL->List Nat)(i:Nat)(t:Zk)(b:Bool)(w':NN):Prop:=(b=true/\∃ts' f' ws',BM G Kq wz w' bb a cap rd rn rc mb mx ts' d dc f' ws'/\BS Kq ts' ws'/\Qq (Qj ts')=doX (Kk Kq) (Qq (Qj ts)) t.r.name)\/
 (b=false/\∃t2,BM G Kq wz w' bb a cap rd rn rc mb mx (ts.set i t2) d dc f ws/\t2.tb=t.tb/\(t2.op=t.op/\t2.bl=t.bl/\t2.qs=t.qs)/\t2.cost=t.cost/\t2.steps=t.steps/\uT Kq (Qq (Qj ts)) t t2)
section
variable {G:cZ}{Kq:List Qz}{wz w w':NN}{bb:Nat}{a:NM}{cap:Nat}{rd:NM}{rn rc:Nat}{mb mx:Nat}{ts:List Zk}{d:NM}{dc:Nat}{f:NL -> NP}{ws:NL -> List Nat}
theorem uJ(hB:BM G Kq wz w bb a cap rd rn rc mb mx ts d dc f ws)(hS:BS Kq ts ws){i:Nat}(hi:ts[i]? =some t)(hc:aS (Kk Kq) (Qq (Qj ts)) t.r)(E:bH (Kk Kq))(e7:∀y∈Kq,y.Fits)(c2:Kq.length<=60)(j1:f_ Kq)(hN:bQ wz a Kq)(m1:mx<=90000)(j2:fU wz):Calls prog 76 #[.c bb,.c t.tb] w λe w'=>e=.returned (.tuple #[])/\∃ts' d' dc' f' a1,BM G Kq wz w' bb a cap rd rn rc mb (mx+6) ts' d' dc' f' a1/\BS Kq ts' a1/\Qq (Qj ts')=doX (Kk Kq) (Qq (Qj ts)) t.r.name:=by
 have ht:t∈ts:=List.mem_of_getElem? hi;obtain⟨m2,j3,m3⟩:=hS.self ht hc;have hgd:=hS.good.good t.r (List.mem_map_of_mem ht);have hA:=(hB.act t ht).1;obtain⟨A',e8,e9,c3⟩:=hgd.act;rw[hA] at e8;cases e8;dsimp only at c3;have hT:=hB.at hi;have c5:w.cell? ⟨t.tb,5,none⟩=some (.a t.r.Zq):=hT.rng 5 _ rfl;have tz:=hT.row.lt;obtain⟨_,f0⟩:=hT.row.row.at (i:=5) E5;have lo:=hgd.lo;have m4:=hgd.hi;have m5:=hB.len c2;have f1:i<ts.length:=(List.getElem?_eq_some_iff.1 hi).1;have c4:=Kz (hS.waiters E hB.tbs hi hc);have m6:=hS.Lu t.r.name;have c6:t.r.name.size<=1000:=by have:=(E _ _ hA).2.2.1;omega
 have⟨HB,q,F,A,x⟩:=jh hB hS hi hc hA;have HG:=Kz hgd;clear hB hS hi hc hA hT hgd j3;go_enter func76,ntmps76
 go_wp2_with fail
 refine (FP w t.tb t.r.Zq c5).mono ?_;rintro e w0 ⟨c7,f2⟩;rw[f2];clear f2 w0;rcases c7.cases with⟨rfl,a9⟩|⟨rfl,a9⟩
 .have b7:=Kz a9;clear a9 c7;go_wp2_with fail
  refine (nH HB.o F.o true iT c6 E5 (λb N=>?_) (q.o.wn _)).mono ?_
  .obtain⟨b0,u,W,b1,h3,h4,h5⟩:=c4.o b N;exact⟨b0,u,by rw[MI (Ne.symm W)];exact b1,h3,h4,h5⟩
  rintro e wF ⟨rfl,a2⟩;have d0:=Kz a2;clear a2;go_wp2_with fail
  refine bodyPost_ret (results_none rfl _ _ _) rfl ?_;obtain⟨xs,X⟩:=qO A.o x.o (by have:=b7.o;omega);have n:Xx (Kk Kq) (Qq (Qj ts)) t.r= ({t.r with over:=true,fail:=true,text:=iT},[]):=by
   unfold Xx;rw[x.o];simp only;rw[NA (by have:=b7.o;omega),X];simp only;rw[Nz b7.o]
  obtain⟨q1,q2⟩:=q.o.ended E HB.o.tbs (t':=t.ended true iT) F.o A.o (by rw[n];rfl) rfl (by rw[n]) rfl rfl (.inl ⟨(q.o.bl t (ME F.o)).open A.o.1,λ_ _=>.inl rfl⟩) rfl;exact⟨rfl,_,d,dc,_,_,d0.o.more E5,q1,q2⟩
 .have b7:=Kz a9;have f3:t.r.Zq<20:=E5;clear a9 c7;obtain⟨O,b8⟩:∃O:Zk,O= {t with r:={t.r with Zq:=t.r.Zq+1}}:=⟨_,rfl⟩;obtain⟨W1,d1⟩:=aj (w.setCell ⟨t.tb,5,none⟩ (.a (t.r.Zq+1)));have d2:Hid (BM G Kq wz W1 bb a cap rd rn rc mb mx (ts.set i O) d dc f ws):=by rw[d1,b8];exact HB.o.store F.o E5 rfl rfl rfl rfl rfl rfl rfl rfl rfl rfl
  have f4:Hid ((ts.set i O)[i]? =some O):=Nv f1;go_upto_region 3 with fail
  rw[<-d1];clear d1;have j4:W1.cell? ⟨t.tb,5,none⟩=some (.a (t.r.Zq+1)):=by have h:=(d2.o.at f4.o).rng 5 _ rfl;rw[b8] at h;exact h
  have k:=Kz b8;clear b8;go_cut [30] from 19 to 29 (λj5 wx=>∃b:Bool,j5=.bool b/\LF G Kq wz bb a cap rd rn rc mb mx ts d dc f ws i t b wx)
  case first=>
   by_cases a3:t.r.Zq=0
   .have j6:¬(1:Int)<t.r.Zq+1:=E5;have j7:=Kz a3;clear a3;go_wp2
    go_meet
    exact⟨false,rfl,.inr ⟨rfl,O,d2.o,by rw[k.o],by rw[k.o];exact⟨rfl,rfl,rfl⟩,by rw[k.o],by rw[k.o],uT.first k.o j7.o x.o A.o e9 c3⟩⟩
   .have j6:(1:Int)<t.r.Zq+1:=E5;have d3:=Kz a3;obtain⟨xs,X⟩:=qO A.o x.o a3;obtain⟨s,H⟩:=aj (stepOf ⟨t.cost,t.steps⟩ t.r.at');rw[<-H] at X;obtain⟨hF,P,b2,f5,f7,f8,f9⟩:=DZ E e7 x.o HG.o A.o q.o.good a3 H X;have g0:Yz (Kk Kq) (Qq (Qj (ts.set i O))) s.asks=some xs:=by rw[yK q.o.good.asc F.o A.o.1 k.o];exact X
    have j8:t.r.texts.length<=1000:=by have:=HG.o.tl;omega
    have⟨g1,a4⟩:=aH X H;have g3:=Kz (yB d2.o (t:=O) f4.o s (by rw[k.o];exact H) (by rw[k.o];exact e9) (by rw[k.o];exact c3) P xs g0 f9 (jc f8) hF b2 f5 f7 c2 (by rw[k.o];exact j8) (by rw[k.o];exact c6) (by rw[k.o];show (ws t.r.name).length<=1000;omega) (λb N=>by
     rw[k.o] at N;obtain⟨b0,u,W,b1,h3,h4,h5⟩:=c4.o b N;exact⟨b0,u,W,by rw[MI (Ne.symm W)];exact b1,h3,h4,h5⟩) (by rw[k.o];exact q.o.wn _))
    have j9:Hid (O.tb=t.tb):=by rw[k.o];rfl
    rw[j9.o] at g3;clear a3 X H hF P b2 f5 f7 f8 f9 g0;go_wp2_with fail
    refine g3.o.mono ?_;rintro e B (⟨b3,rfl,bl,g4,b4⟩|⟨b3,rfl,m7,b4⟩)
    .have g5:=Kz g4;clear g4;have⟨d4,d5⟩:=aH b4 b3;clear b4 b3;go_wp2
     go_meet
     have b5:=d4.o;rw[k.o,List.set_set] at b5;have n:=Gr x.o d3.o f3 (by rw[<-a4.o];exact g1.o) (by rw[<-a4.o];exact d5.o);obtain⟨q1,q2⟩:=q.o.ended E HB.o.tbs (t':=(({t with bl:=bl,r:={t.r with Zq:=t.r.Zq+1}}:Zk).ended true (eT s xs).text)) F.o A.o (by rw[n,a4.o];rfl) rfl (by rw[n]) rfl rfl (.inr ⟨rfl,rfl,⟨⟨t.cost,t.steps⟩,x.o,HG.o.stp _ x.o A.o.1 d3.o,by have h:=g5.o.1;rw[k.o] at h;exact h⟩,g5.o.2⟩) rfl;exact⟨true,rfl,.inl ⟨rfl,_,_,_,b5,q1,q2⟩⟩
    .have d4:=Kz b4;have d5:=Kz b3;clear b4 b3;go_wp2
     go_meet
     have b5:=d4.o;rw[k.o,List.set_set] at b5;exact⟨false,rfl,.inr ⟨rfl,_,b5,rfl,⟨rfl,rfl,rfl⟩,rfl,rfl,uT.gone E q.o.good HG.o x.o A.o d3.o f3 (by rw[<-a4.o];exact g1.o) (by rw[<-a4.o];exact d5.o) (by rw[<-a4.o])⟩⟩
  case rest=>
   obtain⟨b,rfl,hm⟩:=hcut;obtain⟨B,rfl⟩:=aj wc;rcases hm with⟨rfl,ts',f',a1,g6,g7,g8⟩|⟨rfl,c,D,e1,g9,k0,d6,Q⟩
   .have k1:=Kz g6;have⟨k2,k3⟩:=aH g7 g8;clear g6 g7 g8;go_wp2_with fail
    refine bodyPost_ret (results_none rfl _ _ _) rfl ?_;exact⟨rfl,ts',d,dc,f',a1,k1.o.more E5,k2.o,k3.o⟩
   have b9:(ts.set i c)[i]? =some c:=Nv f1;have c0:=D.at b9;have h0:=D.act c (ME b9);obtain⟨j,d7⟩:∃j:Nat,c.r.at'= (j:Int):=⟨c.r.at'.toNat,by have:=Q.lo;omega⟩;have k4:j<c.steps.length:=by have:=Q.hi;rw[d6];omega
   obtain⟨l,p,cs,h1,R,L,S,T,Y,Z,rfl,d8,h2,_⟩:=h0.2 j k4;obtain⟨s,H⟩:=aj (stepOf ⟨t.cost,t.steps⟩ c.r.at');have h6:c.steps.getD j Xq.zero=s:=by rw[H,d6];unfold stepOf;rw[d7];rfl
   rw[h6] at L d8 h2;have c8:B.cell? ⟨t.tb,8,none⟩=some (.slice c.sa c.steps.length c.sc):=by rw[<-e1];exact c0.rng 8 _ rfl
   have d9:B.cell? ⟨t.tb,4,none⟩=some (.a c.r.at'):=by rw[<-e1];exact c0.rng 4 _ rfl
   rw[h1] at c8;rw[d7] at d9;have h7:t.tb<B.heap.size:=by rw[<-e1];exact c0.row.lt
   have V:l<B.heap.size:=Mk R D.kw.size;have y0:B.cell? ⟨l,p+j*8,none⟩=some (.slice S s.asks.length T):=(D.kw.cell R).trans (L 0 _ rfl);have y1:B.cell? ⟨l,p+j*8+1,none⟩=some (.a s.on):=(D.kw.cell R).trans (L 1 _ rfl);have y2:B.cell? ⟨l,p+j*8+2,none⟩=some (.slice Y s.cases.length Z):=(D.kw.cell R).trans (L 2 _ rfl);have y3:B.cell? ⟨l,p+j*8+3,none⟩=some (.a s.els):=(D.kw.cell R).trans (L 3 _ rfl);have y4:B.cell? ⟨l,p+j*8+4,none⟩=some (.a s.fall):=(D.kw.cell R).trans (L 4 _ rfl);have y5:B.cell? ⟨l,p+j*8+5,none⟩=some (.bool s.fin):=(D.kw.cell R).trans (L 5 _ rfl);have y6:B.cell? ⟨l,p+j*8+6,none⟩=some (.bool s.bad):=(D.kw.cell R).trans (L 6 _ rfl);have y7:B.cell? ⟨l,p+j*8+7,none⟩=some (.string s.give):=(D.kw.cell R).trans (L 7 _ rfl);have h8:Hid (∀w',K_ B w'->w'.cell? ⟨t.tb,8,none⟩=some (.slice (some ⟨l,p,none⟩) c.steps.length c.sc)/\w'.cell? ⟨t.tb,4,none⟩=some (.a (j:Int))/\w'.cell? ⟨l,p+j*8,none⟩=some (.slice S s.asks.length T)/\w'.cell? ⟨l,p+j*8+1,none⟩=some (.a s.on)/\w'.cell? ⟨l,p+j*8+2,none⟩=some (.slice Y s.cases.length Z)/\w'.cell? ⟨l,p+j*8+3,none⟩=some (.a s.els)/\w'.cell? ⟨l,p+j*8+4,none⟩=some (.a s.fall)/\w'.cell? ⟨l,p+j*8+5,none⟩=some (.bool s.fin)/\w'.cell? ⟨l,p+j*8+6,none⟩=some (.bool s.bad)/\w'.cell? ⟨l,p+j*8+7,none⟩=some (.string s.give)):=λw' K=>⟨(K.cell h7).trans c8,(K.cell h7).trans d9,(K.cell V).trans y0,(K.cell V).trans y1,(K.cell V).trans y2,(K.cell V).trans y3,(K.cell V).trans y4,(K.cell V).trans y5,(K.cell V).trans y6,(K.cell V).trans y7⟩
   have⟨i0,a5,k5,M,a6⟩:=jh D b9 d8 Q H;have⟨a0,E2⟩:=aH e1 g9;have m8:(j:Int)<(c.steps.length:Int):=E5;obtain⟨i1,g2⟩:=iw (E _ _ x.o).1 Q.lo (by exact Q.hi);rw[<-H] at i1 g2;have k6:s.give.size<=maxLen:=FE e7 x.o Q.lo Q.hi H;have m9:c.r.texts.length<=1000:=Gb E q.o.good HG.o A.o Q;clear D b9 c0 h0 h1 L d8 h2 h6 c8 d9 y0 y1 y2 y3 y4 y5 y6 y7 Q d7 H e1 g9 k0 d6 j4;go_upto_region 4 with fail
   refine bF 13 h8.o λU KD I=>?_
   refine ak 0 I ?_;refine ak 4 I ?_;refine ak 8 I ?_;refine ai 12 λK J=>?_;go_simp
   have K2:K_ U (U.alloc (.cells #[M3,.a 0,M3,.a 0,.a 0,.bool false,.bool false,.string ⟨#[]⟩] 128)):=ah _ _;have C:ay (U.alloc (.cells #[M3,.a 0,M3,.a 0,.a 0,.bool false,.bool false,.string ⟨#[]⟩] 128)) U.heap.size 128 8:=ay.made U _ _;have KE:=KD.trans K2;have nz:=KD.size;obtain⟨z,i2⟩:=aj U.heap.size;refine J.out _ _ (λ_=>h8.o _ KE) ?_;clear J K I;rw[<-i2] at C nz⊢;generalize k7:U.alloc (.cells #[M3,.a 0,M3,.a 0,.a 0,.bool false,.bool false,.string ⟨#[]⟩] 128)=wE at C KE⊢;clear k7 K2 i2;try simp only[upP]
   obtain⟨⟨_,v0⟩,k8⟩:=C.row.at (i:=0) E5;obtain⟨⟨_,v1⟩,k9⟩:=C.row.at (i:=1) E5;obtain⟨⟨_,v2⟩,l0⟩:=C.row.at (i:=2) E5;obtain⟨⟨_,v3⟩,l1⟩:=C.row.at (i:=3) E5;obtain⟨⟨_,v4⟩,l2⟩:=C.row.at (i:=4) E5;obtain⟨⟨_,v5⟩,f0⟩:=C.row.at (i:=5) E5;obtain⟨⟨_,v6⟩,f6⟩:=C.row.at (i:=6) E5;obtain⟨⟨_,v7⟩,l3⟩:=C.row.at (i:=7) E5;have vz:=C.lt;refine ai 13 λK J=>?_;go_simp
   refine af J (λh=>NB rfl h) ?_;clear J K;refine aC ?_;have b6:=Kz (Mo wE z 0 [.slice S s.asks.length T,.a s.on,.slice Y s.cases.length Z,.a s.els,.a s.fall,.bool s.fin,.bool s.bad,.string s.give] (C.row.there (o:=0) (m:=8) (Mj _)));have e0:=Kz (aP (g:=z) nz [.slice S s.asks.length T,.a s.on,.slice Y s.cases.length Z,.a s.els,.a s.fall,.bool s.fin,.bool s.bad,.string s.give] 0 KE);have i3:=Kz (ay.sets [.slice S s.asks.length T,.a s.on,.slice Y s.cases.length Z,.a s.els,.a s.fall,.bool s.fin,.bool s.bad,.string s.give] 0 C);obtain⟨w5,e2⟩:=aj (wE.setCells z 0 [.slice S s.asks.length T,.a s.on,.slice Y s.cases.length Z,.a s.els,.a s.fall,.bool s.fin,.bool s.bad,.string s.give]);rw[<-e2] at b6 e0 i3;go_upto_region 5 with fail
   have i4:((((((((wE.setCell ⟨z,0,none⟩ (.slice S s.asks.length T)).setCell ⟨z,1,none⟩ (.a s.on)).setCell ⟨z,2,none⟩ (.slice Y s.cases.length Z)).setCell ⟨z,3,none⟩ (.a s.els)).setCell ⟨z,4,none⟩ (.a s.fall)).setCell ⟨z,5,none⟩ (.bool s.fin)).setCell ⟨z,6,none⟩ (.bool s.bad)).setCell ⟨z,7,none⟩ (.string s.give))=w5:=by rw[e2];rfl
   rw[i4];clear i4 e2 v0 v1 v2 v3 v4 v5 v6 v7 k8 k9 l0 l1 l2 f0 f6 l3 vz C KE nz KD;have a7:=Kz (i0.o.kept e0.o);have q5:w5.cell? ⟨z,5,none⟩=some (.bool s.fin):=b6.o 5 _ rfl;have gz:=i3.o.lt;cases P:s.fin
   .rw[P] at q5;have q0:w5.cell? ⟨z,0,none⟩=some (.slice S s.asks.length T):=b6.o 0 _ rfl;have i5:=Kz (Ap a7.o a5.o S T s.asks i1 (λl4 hx=>(g2 l4 hx).2.1) (vk E x.o M.o.lo M.o.hi a6.o) k5.o E5 c2 j1 hN (λs' b N=>?_) (λs'=>by have:=q.o.Lu s';omega) (by rw[E2.out.1];omega));rotate_left
    .obtain⟨v,hv,e⟩:=q.o.ww s' b N;by_cases g:v.tb=t.tb
     .exact⟨c,(Bi F.o).1,by rw[a0.out,<-g,e]⟩
     .exact⟨v,(Bi F.o).2 v hv g,e⟩
    rw[a0.out] at i5;go_wp2_with fail
    refine i5.o.mono ?_;rintro e w6 ⟨rfl,l5,ts',d',dc',f',a1,b2,i6,i7⟩;have⟨e3,l6,l7⟩:=di i6 i7 b2;clear i6 i7 b2;go_wp2
    go_end0
    have n:=M.o.nx;rw[<-a6.o,P] at n;simp only[Bool.false_eq_true,if_false] at n;obtain⟨z1,z2⟩:=q.o.asked E HB.o.tbs (ts0:=l5) (t1:={c with qs:=c.qs++s.asks.map Value.string}) F.o A.o (by show c.r=_;rw[n]) M.o.ov M.o.vi a0.out ⟨E2.out.1,E2.out.2.1,by show c.qs++_=_;rw[n,E2.out.2.2]⟩ (by have h:=l7.o;rw[List.set_set] at h;exact h) e3.o.asc e3.o.tbs x.o (by show _= (stepOf _ c.r.at').asks;rw[n,a6.o]) (by have h:=l6.o;rw[a0.out] at h;rw[n];exact h);exact⟨rfl,ts',d',dc',f',a1,e3.o,z1,z2⟩
   .rw[P] at q5;have i8:Hid (∀w',K_ w5 w'->w'.cell? ⟨z,6,none⟩=some (.bool s.bad)/\w'.cell? ⟨z,7,none⟩=some (.string s.give)/\w'.cell? ⟨t.tb,6,none⟩=some (c.tv)):=λw' K=>⟨(K.cell gz).trans (b6.o 6 _ rfl),(K.cell gz).trans (b6.o 7 _ rfl),by rw[<-a0.out];exact ((a7.o.kept K).at a5.o).rng 6 _ rfl⟩
    obtain⟨ta,tc,c1⟩:=aF (a7.o.at a5.o).txt;have l8:=Kz c1;have i9:Hid (c.r.texts.length<=tc/\∀e4,K_ w5 e4->Strs e4 ta c.r.texts):=by
     refine⟨?_,λe4 K=>?_⟩
     .have j0:=(a7.o.at a5.o).txt;rw[c1] at j0;rcases j0.2 with⟨e,n0⟩|⟨g,cp,n1,e,_,_,n2,_⟩
      .omega
      .simp only[Nb] at e;omega
     .obtain⟨n3,c9,e5,h9⟩:=bO ((a7.o.kept K).at a5.o).txt;rw[c1] at e5;simp only[Nb] at e5;rw[e5.1];exact h9
    clear c1;go_upto_region 6 with fail
    refine bF 12 i8.o λU KD I=>?_
    refine ak 0 I ?_;refine ak 4 I ?_;refine ae 8 I ?_;refine ae 9 I ?_;refine ae 10 I ?_;refine aG 11 λK J=>?_;go_simp
    go_at_call 135
    rw[l8.o];refine (j2 U s.give ta tc c.r.texts (i0.o.kw.trans (e0.o.trans KD)) k6 F5 (i9.o.2 _ KD) i9.o.1).mono ?_;rintro e w6 ⟨rfl,l9⟩;have K6:=KD.trans l9;refine af J (λ_=>i8.o _ K6) ?_;clear J K I;refine aG 12 λK J=>?_;go_simp
    go_at_call 133
    have a8:=M.o.nm;have e6:=nH (a7.o.kept K6) a5.o s.bad (nL s.give c.r.texts) (by rw[a8];exact c6) (by rw[a8];omega) (λb N=>by
     rw[a8] at N;obtain⟨b0,u,W,b1,h3,h4,h5⟩:=c4.o b N;exact⟨b0,u,by rw[MI (Ne.symm W),MI (Ne.symm W)];exact b1,h3,h4,h5⟩) (by rw[a8];exact q.o.wn _)
    rw[a0.out,a8] at e6;refine e6.mono ?_;rintro e wF ⟨rfl,a2⟩;rw[List.set_set] at a2;have d0:=Kz a2;clear a2 e6 a8;refine af J (λh=>NB rfl h) ?_;clear J K;refine aC ?_;go_wp2_with fail
    refine bodyPost_ret (results_none rfl _ _ _) rfl ?_;have n:=M.o.nx;rw[<-a6.o,P] at n;simp only[if_true] at n;have m0:s.asks=[]:=yG E x.o M.o.lo M.o.hi a6.o P;obtain⟨z1,z2⟩:=q.o.ended E HB.o.tbs (t':=c.ended s.bad (nL s.give c.r.texts)) F.o A.o (by rw[n];rfl) rfl (by rw[n];exact m0) a0.out E2.out.1 (.inl ⟨E2.out.2.1.trans ((q.o.bl t (ME F.o)).open A.o.1),λ_ _=>.inr ⟨⟨t.cost,t.steps⟩,by show Kk Kq c.r.name=_;rw[M.o.nm];exact x.o,by show (stepOf ⟨t.cost,t.steps⟩ c.r.at').fin=true;rw[<-a6.o];exact P⟩⟩) E2.out.2.2;exact⟨rfl,_,d,dc,_,_,d0.o.more E5,z1,z2⟩
end
theorem rD{l:List Qz}(h:bE l 0):f_ l:=by
 have a:¬iM l:=by
  rcases h with⟨_,e⟩|⟨_,_,e⟩|⟨_,_,_,e⟩|⟨_,_,_,_,e⟩|⟨_,_,b,_,_⟩
  .omega
  .omega
  .omega
  .omega
  .exact b
 refine CQ λi c=>?_
 cases d:Op.bytesLess (nameAt l i) (nameAt l (i+1))
 .exact NB ⟨i,c,d⟩ a
 .rfl
structure Ag (Kq:List Qz)(L:List NL)(ts:List Zk):Prop where
 env:∀n,Qq (Qj ts) n=if eO L n=true/\(Kk Kq n).isSome=true then some (Q_.fresh n) else none
 fr:∀t∈ts,t.r=Q_.fresh t.r.name/\t.op=0/\t.bq= (⟨#[]⟩,[])
theorem Ag.nil(Kq:List Qz):Ag Kq [] []:=⟨λn=>by rw[NA (by simp[eO])];rfl,λt h=>by cases h⟩
variable {Kq:List Qz}
theorem Ag.want{L:List NL}{ts ts':List Zk}{n:NL}(h:Ag Kq L ts)(B:dB (Qj ts))(l:dB (Qj ts'))(d:Ih Kq ts n ts'):Ag Kq (L++[n]) ts':=by
 have e:∀m,eO (L++[n]) m=true↔eO L m=true\/m=n:=λm=>by simp[df]
 rcases d with⟨rfl,d⟩|⟨p,new,rfl,k,q,C,s⟩
 .refine⟨λm=>?_,h.fr⟩;rw[h.env m];by_cases a:eO L m=true/\(Kk Kq m).isSome=true
  .rw[Nz a,Nz ⟨(e m).2 (.inl a.1),a.2⟩]
  .rw[NA a,NA];rintro⟨c,f⟩;rcases (e m).1 c with g|g
   .exact a ⟨g,f⟩
   .subst g;rcases d with d|⟨t,v,i⟩
    .rw[d] at f;cases f
    .have:=h.env m;rw[NA a] at this;exact ja.1 this t v i
 .have j:∀u,u∈ts.take p++new :: ts.drop p↔u=new\/u∈ts:=λu=>by
   rw[Mv,Nh];constructor
   .rintro (h|h|h)
    .exact .inr (List.mem_of_mem_take h)
    .exact .inl h
    .exact .inr (List.mem_of_mem_drop h)
   .rintro (h|h)
    .exact .inr (.inl h)
    .rw[<-Nr p ts] at h;rcases Mv.1 h with h|h
     .exact .inl h
     .exact .inr (.inr h)
  refine⟨λm=>?_,λu b=>?_⟩
  .by_cases i:m=n
   .subst i;rw[Nz ⟨(e m).2 (.inr rfl),s⟩];have:=bJ l (r:=new.r) (Nk ((j new).2 (.inl rfl)));rw[k] at this;exact this
   .have w:Qq (Qj (ts.take p++new :: ts.drop p)) m=Qq (Qj ts) m:=by
     cases c:Qq (Qj ts) m with
     |some x=>
      let⟨y,z⟩:=aZ c;obtain⟨u,b,rfl⟩:=MM.1 y;have:=bJ l (r:=u.r) (Nk ((j u).2 (.inr b)));rw[z] at this;exact this
     |none=>
      rw[ja] at c⊢;intro u b;rcases (j u).1 b with rfl|b
      .rw[k];exact λA=>i A.symm
      .exact c u b
    rw[w,h.env m];by_cases a:eO L m=true/\(Kk Kq m).isSome=true
    .rw[Nz a,Nz ⟨(e m).2 (.inl a.1),a.2⟩]
    .rw[NA a,NA];rintro⟨c,f⟩;rcases (e m).1 c with g|g
     .exact a ⟨g,f⟩
     .exact i g
  .rcases (j u).1 b with rfl|b
   .exact⟨by rw[k];rfl,q⟩
   .exact h.fr u b
theorem Ag.done{Kj:List NL}{ts:List Zk}(h:Ag Kq Kj ts)(i:bH (Kk Kq))(f:dB (Qj ts)):BS Kq ts (λ_=>[])/\Qq (Qj ts)=Qq (bu Kq Kj):=by
 refine⟨⟨⟨f,λr j=>?_⟩,λt b=>?_,λs t b=>?_,λ_=>List.nodup_nil,λs p l=>(by cases l),λt b=>Ae.still (congrArg Prod.fst (h.fr t b).2.2) (by rw[(h.fr t b).1];rfl),λt b=>xh.still (congrArg Prod.snd (h.fr t b).2.2) (h.fr t b).1⟩,?_⟩
 .have d:=bJ f j;rw[h.env] at d
  split at d
  .rename_i e
   have m:=Nl d;rw[<-m];exact gP i e.2
  .cases d
 .obtain⟨d,e⟩:=h.fr t b;rw[d,nI,e.1]
  rfl
 .obtain⟨d,_⟩:=h.fr t b;rw[d,nI];simp
 .funext n
  rw[h.env n,iF]
theorem BM.begun{b:NN}{a:NM}{cap:Nat}{rd:NM}{rn rc:Nat}(d:ay ((b.alloc (.map #[] 0)).alloc (.cells #[.slice a Kq.length cap,.func (.func 89) #[] #[],.slice rd rn rc,M3,.func (.func 100) #[] #[],.map (some b.heap.size)] 156)) (b.heap.size+1) 156 6)(c:((b.alloc (.map #[] 0)).alloc (.cells #[.slice a Kq.length cap,.func (.func 89) #[] #[],.slice rd rn rc,M3,.func (.func 100) #[] #[],.map (some b.heap.size)] 156)).rangeAt (b.heap.size+1) 0 [.slice a Kq.length cap,.func (.func 89) #[] #[],.slice rd rn rc,M3,.func (.func 100) #[] #[],.map (some b.heap.size)]):BM (cZ.no b) Kq b ((b.alloc (.map #[] 0)).alloc (.cells #[.slice a Kq.length cap,.func (.func 89) #[] #[],.slice rd rn rc,M3,.func (.func 100) #[] #[],.map (some b.heap.size)] 156)) (b.heap.size+1) a cap rd rn rc b.heap.size 0 [] none 0 (λ_=>.slice none 0 0) (λ_=>[]):=⟨(ah _ _).alloc _,d,c 0 _ rfl,c 1 _ rfl,c 2 _ rfl,c 3 _ rfl,c 4 _ rfl,c 5 _ rfl,Nat.le_succ _,Nj _ _ _ _,λt h=>(by cases h),λt h=>(by cases h),List.Pairwise.nil,List.nodup_nil,List.Pairwise.nil,λt h=>(by cases h),⟨0,.map [],Mj _,(World.ownsMap_made b prog 9 asIs).alloc _,λs _=>rfl⟩,Mj _,λs=>Nj _ _ _ _,λs e _ x h=>(by cases h),λs x h=>(by cases h),λt h=>(by cases h),Fen.no (by simp only[MZ];omega),λ_ h=>(by cases h)⟩
def Lr(Kq:List Qz)(Kj:List NL)(a:NM)(cap:Nat)(rd:NM)(rc:Nat)(w w':NN)(e:Ending):Prop:=K_ w w'/\((¬(bE Kq 0/\eP Kj)/\e=.returned (.tuple #[.pointer none,.bool false]))\/
  (bE Kq 0/\eP Kj/\∃wz bb mb ts d dc,e=.returned (.tuple #[.c bb,.bool true])/\K_ w wz/\BM (cZ.no wz) Kq wz w' bb a cap rd Kj.length rc mb 0 ts d dc (λ_=>.slice none 0 0) (λ_=>[])/\BS Kq ts (λ_=>[])/\Qq (Qj ts)=Qq (bu Kq Kj)))
theorem xU(w:NN)(a:NM)(cap:Nat)(Kq:List Qz)(rd:NM)(rc:Nat)(Kj:List NL)(T:Kq.length<=1048576)(U:∀s∈Kq,s.Fits)(V:Kj.length<=maxLen)(W:Kj.length<=rc)(X:∀s∈Kj,s.size<=maxLen)(K:bQ w a Kq)(L:Strs w rd Kj):Calls prog 45 #[.agg #[.slice a Kq.length cap],.slice rd Kj.length rc] w λe w'=>Lr Kq Kj a cap rd rc w w' e:=by
 have Y:Kq.length<=maxLen:=F5;go_enter func45,ntmps45
 go_wp2_with fail
 refine (uB JU _ a cap Kq Y U (K.kept G9)).mono ?_;rintro e M ⟨⟨c,rfl,f⟩,l⟩;have m:K_ w M:=K_.trans (ah _ _) l;have Z:=l.size;simp only[MZ] at Z;have N:=vP (w:=w) l;have h:=Kz f;clear f l;have a0:w.heap.size<M.heap.size:=E5;by_cases x:c=0
 .subst x;go_wp2_with fail
  refine (wu _ rd rc Kj V W X (L.kept m)).mono ?_;rintro e w2 ⟨y,n⟩;have q2:=(n.cell (o:=0) a0).trans N;have z:=m.trans n;have z2:=n.size;clear N m n;have b2:w.heap.size<w2.heap.size:=E5;rcases y.cases with⟨rfl,O⟩|⟨rfl,P⟩
  .have p:=Kz O;clear O y;go_wp2_with fail
   refine (xP _ a Kq.length cap).mono ?_;rintro e b ⟨rfl,A⟩;have i:=z.trans A;have z3:=A.size;clear q2 A z;have a1:(Instr.makeMap 150 none).run prog b=.ok (.map (some b.heap.size)) (b.alloc (.map #[] 0)):=rfl;go_wp2
   clear a1;have Q:K_ w ((b.alloc (.map #[] 0)).alloc (.cells #[.slice a Kq.length cap,.func (.func 89) #[] #[],.slice rd Kj.length rc,M3,.func (.func 100) #[] #[],.map (some b.heap.size)] 156)):=(i.alloc _).alloc _;have q:=X_ (b.alloc (.map #[] 0)) #[.slice a Kq.length cap,.func (.func 89) #[] #[],.slice rd Kj.length rc,M3,.func (.func 100) #[] #[],.map (some b.heap.size)] 156;simp only[MZ] at q;have B:=ay.made (b.alloc (.map #[] 0)) #[.slice a Kq.length cap,.func (.func 89) #[] #[],.slice rd Kj.length rc,M3,.func (.func 100) #[] #[],.map (some b.heap.size)] 156;simp only[MZ] at B;have R:=BM.begun B q;have⟨a2,b3⟩:=aH R Q;clear q B R Q;have a3:=gy h.o;go_loopw [29] (λC wr=>∃(k:Nat)(r:List Zk)(D:NM)(E:Nat),k<=Kj.length/\C=.a k/\BM (cZ.no b) Kq b wr (b.heap.size+1) a cap rd Kj.length rc b.heap.size 0 r D E (λ_=>.slice none 0 0) (λ_=>[])/\Ag Kq (Kj.take k) r) (λC _=>Kj.length-(intOf C).toNat)
   case atStart=>exact⟨0,[],none,0,Ml _,rfl,a2.o,Ag.nil Kq⟩
   case round=>
    obtain⟨k,r,D,E,hk,rfl,d,j⟩:=hrel;have b4:=d.len a3;have b5:=p.o.2.1;by_cases F:k<Kj.length
    .obtain⟨a4,o,rfl,hb,f⟩:=L k F;obtain⟨G,H⟩:=aj (Kj.getD k ByteArray.empty);rw[<-H] at f;have b6:=((i.trans d.kw).cell hb).trans f;have a5:Hid (Kj.take (k+1)=Kj.take k++[G]):=by show _=_;rw[Ms F,H];simp[List.getD,F]
     have HW:=Kz (uX d G E5 T (rD h.o) (K.kept i));have⟨a6,t⟩:=aH d.asc j;have i0:(k:Int)<(Kj.length:Int):=E5;clear H d j f;go_wp2_with fail
     refine (bg HW).mono ?_;rintro e w5 ⟨rfl,a7,d5,a8,I,S⟩;have a9:=Kz I;have b0:=Kz (t.o.want a6.o I.asc S);clear I S;go_wp2
     go_roundw
     case rel=>exact⟨k+1,a7,d5,a8,E5,F3,a9.o,by rw[a5.out];exact b0.o⟩
     case measure=>simp[intOf];omega
    .have b1:k=Kj.length:=E5;subst b1;rw[MS] at j;have⟨v,t⟩:=aH d j;clear d j;go_wp2
     go_ret2
     exact⟨i.trans v.o.kw,.inr ⟨h.o,p.o,b,_,_,r,D,E,rfl,i,v.o,(t.o.done (bV h.o) v.o.asc).1,(t.o.done (bV h.o) v.o.asc).2⟩⟩
  .have p:=Kz P;clear P y;go_wp2
   go_ret2
   exact⟨z,.inl ⟨λJ=>p.o J.2,rfl⟩⟩
 .have q:(c == 0)=false:=by simpa using x
  go_wp2
  go_ret2
  exact⟨m,.inl ⟨λJ=>x (h.o.unique J.1),rfl⟩⟩
theorem jw(w:NN)(a b c d f h i:NP)(s:NL)(j:a=.string s):Calls prog 120 #[.agg #[a,b,c,d,f,h,i]] w λe w'=>e=.returned (.string s)/\K_ w w':=by
 subst j;go_enter func120,ntmps120
 go_wp2
 go_ret
 exact⟨rfl,ah _ _⟩
def IQ(l:List Q_)(k:Nat):Prop:=∀j,j+1<k->aQ (l.getD j Q_.zero).name (l.getD (j+1) Q_.zero).name
variable {l:List Q_}
theorem Cf(h:IQ l l.length):dB l:=by
 have c:∀i j,i<j->j<l.length->aQ (l.getD i Q_.zero).name (l.getD j Q_.zero).name:=by
  intro i j b
  induction j with
  |zero=>intro _;omega
  |succ j ih=>
   intro a;by_cases d:i=j
   .subst d;exact h i a
   .exact gm (ih E5 E5) (h j a)
 unfold dB;rw[Mx];intro i j e a b;have:=c i j b a;simpa[List.getD,e,a] using this
theorem Cw(h:dB l):IQ l l.length:=λj b=>by
 have:=Mx.1 h j (j+1) E5 b E5;simpa[List.getD,b,(E5:j<l.length)] using this
theorem CL(w:NN)(a:NM)(cap:Nat)(l:List Q_)(hl:l.length<=1048576)(M:bN w a l):Calls prog 121 #[.agg #[.slice a l.length cap,.func (.func 120) #[] #[]]] w λe w'=>Says e (dB l)/\K_ w w':=by
 have B:K_ w (w.alloc (.cells #[.slice a l.length cap,.func (.func 120) #[] #[]] 180)):=ah _ _;go_enter func121,ntmps121
 go_wp2
 go_loopw [3] (λC wr=>∃n:Nat,1<=n/\n<=l.length+1/\C=.a n/\K_ (w.alloc (.cells #[.slice a l.length cap,.func (.func 120) #[] #[]] 180)) wr/\IQ l n) (λC _=>l.length+2-(intOf C).toNat)
 case atStart=>exact⟨1,E5,E5,rfl,K_.refl _,λp D=>NB D E5⟩
 case round=>
  obtain⟨n,a1,a2,rfl,k,N⟩:=hrel;have O:=Kz N;clear N;have W:=k.size;simp only[MZ] at W;have P:w.heap.size<wr.heap.size:=E5;let⟨X,Y⟩:=wC k;by_cases Z:n<l.length
  .have Q:K_ w wr:=B.trans k;obtain⟨b,o,t,v,rfl,h,i,_,_⟩:=M.kept Q (n-1) E5;let⟨b',o',z,A,R,a3,j,_,_⟩:=M.kept Q n Z;simp only[Na,NI,and_true] at R;obtain⟨rfl,rfl⟩:=R;let⟨x,E⟩:=aj ((l.getD (n-1) Q_.zero));let⟨y,F⟩:=aj ((l.getD n Q_.zero));rw[<-E] at i;rw[<-F] at j;have S:Hid (l.getD (n-1) Q_.zero=x):=E.symm;have T:Hid (l.getD (n-1+1) Q_.zero=y):=by rw[F,show n-1+1=n by omega];exact rfl
   clear E F;have c0:M4 wr b (o+(n-1)*7) (.string x.name):=i 0 _ rfl;have c1:M4 wr b (o+(n-1)*7+1) (.bool x.over):=i 1 _ rfl;have c2:M4 wr b (o+(n-1)*7+2) (.bool x.fail):=i 2 _ rfl;have c3:M4 wr b (o+(n-1)*7+3) (.string x.text):=i 3 _ rfl;have c4:M4 wr b (o+(n-1)*7+4) (.a x.at'):=i 4 _ rfl;have c5:M4 wr b (o+(n-1)*7+5) (.a x.Zq):=i 5 _ rfl;have c6:M4 wr b (o+(n-1)*7+6) (.slice t x.texts.length v):=i 6 _ rfl;have d0:M4 wr b (o+n*7) (.string y.name):=j 0 _ rfl;have d1:M4 wr b (o+n*7+1) (.bool y.over):=j 1 _ rfl;have d2:M4 wr b (o+n*7+2) (.bool y.fail):=j 2 _ rfl;have d3:M4 wr b (o+n*7+3) (.string y.text):=j 3 _ rfl;have d4:M4 wr b (o+n*7+4) (.a y.at'):=j 4 _ rfl;have d5:M4 wr b (o+n*7+5) (.a y.Zq):=j 5 _ rfl;have d6:M4 wr b (o+n*7+6) (.slice z y.texts.length A):=j 6 _ rfl;clear i j;have i0:(0:Int)<=(n:Int)-1:=E5;have i1:(n:Int)-1<(l.length:Int):=E5;have i2:(n:Int)<(l.length:Int):=E5;have i5:(1:Int)<=(n:Int):=E5;have i6:(n:Int)<=(l.length:Int):=E5;have i7:n<=l.length:=E5;have i3:((n:Int)-1).toNat=n-1:=E5;have i4:IntKind.i64.wrap ((n:Int)-1)= (n:Int)-1:=dQ E5 E5;have U:∀w',K_ wr w'->(λw'=>M4 w' b (o+(n-1)*7) (.string x.name)/\M4 w' b (o+(n-1)*7+1) (.bool x.over)/\M4 w' b (o+(n-1)*7+2) (.bool x.fail)/\M4 w' b (o+(n-1)*7+3) (.string x.text)/\M4 w' b (o+(n-1)*7+4) (.a x.at')/\M4 w' b (o+(n-1)*7+5) (.a x.Zq)/\M4 w' b (o+(n-1)*7+6) (.slice t x.texts.length v)/\M4 w' b (o+n*7) (.string y.name)/\M4 w' b (o+n*7+1) (.bool y.over)/\M4 w' b (o+n*7+2) (.bool y.fail)/\M4 w' b (o+n*7+3) (.string y.text)/\M4 w' b (o+n*7+4) (.a y.at')/\M4 w' b (o+n*7+5) (.a y.Zq)/\M4 w' b (o+n*7+6) (.slice z y.texts.length A)/\M4 w' w.heap.size 0 (.slice (some ⟨b,o,none⟩) l.length cap)/\M4 w' w.heap.size 1 (.func (.func 120) #[] #[])) w':=λw' c=>⟨(K_.cell c h).trans c0,(K_.cell c h).trans c1,(K_.cell c h).trans c2,(K_.cell c h).trans c3,(K_.cell c h).trans c4,(K_.cell c h).trans c5,(K_.cell c h).trans c6,(K_.cell c h).trans d0,(K_.cell c h).trans d1,(K_.cell c h).trans d2,(K_.cell c h).trans d3,(K_.cell c h).trans d4,(K_.cell c h).trans d5,(K_.cell c h).trans d6,(K_.cell c P).trans X,(K_.cell c P).trans Y⟩
   have m:=Kz U;clear U;cases V:Op.bytesLess x.name.toList y.name.toList
   .have a0:True:=trivial;go_upto_region 4 with fail
    refine Qk.region F4 (λw'=>M4 w' b (o+(n-1)*7) (.string x.name)/\M4 w' b (o+(n-1)*7+1) (.bool x.over)/\M4 w' b (o+(n-1)*7+2) (.bool x.fail)/\M4 w' b (o+(n-1)*7+3) (.string x.text)/\M4 w' b (o+(n-1)*7+4) (.a x.at')/\M4 w' b (o+(n-1)*7+5) (.a x.Zq)/\M4 w' b (o+(n-1)*7+6) (.slice t x.texts.length v)/\M4 w' b (o+n*7) (.string y.name)/\M4 w' b (o+n*7+1) (.bool y.over)/\M4 w' b (o+n*7+2) (.bool y.fail)/\M4 w' b (o+n*7+3) (.string y.text)/\M4 w' b (o+n*7+4) (.a y.at')/\M4 w' b (o+n*7+5) (.a y.Zq)/\M4 w' b (o+n*7+6) (.slice z y.texts.length A)/\M4 w' w.heap.size 0 (.slice (some ⟨b,o,none⟩) l.length cap)/\M4 w' w.heap.size 1 (.func (.func 120) #[] #[])) 17 (m.o _ (aY wr)) λd=>?_;have q:=aY wr;generalize G:wr.drew=wd at d q⊢;clear G;refine ak 0 d ?_;refine ak 4 d ?_;refine ak 9 d ?_;refine ae 13 d ?_;refine ae 14 d ?_;refine ae 15 d ?_;refine aG 8 λK f=>?_;go_simp
    go_at_call 120
    refine (jw _ _ _ _ _ _ _ _ _ rfl).mono ?_;rintro e w1 ⟨rfl,H⟩;have r:=q.trans H;refine af f (λ_=>m.o _ r) ?_;clear f K d;refine aG 16 λK f=>?_;go_simp
    go_at_call 120
    refine (jw _ _ _ _ _ _ _ _ _ rfl).mono ?_;rintro e w2 ⟨rfl,I⟩;have c:=r.trans I;refine af f (λ_=>m.o _ c) ?_;clear f K;refine ai 17 λK f=>?_;go_simp
    refine af f (λs=>absurd rfl s) ?_;clear f K;refine aC ?_;try dsimp only
    have J:=k.trans c;go_wp2
    go_ret
    exact⟨Says.no λs=>(by have L:=Cw s (n-1) E5;unfold aQ at L;rw[S.o,T.o,V] at L;cases L),B.trans J⟩
   .have a0:True:=trivial;go_upto_region 4 with fail
    refine Qk.region F4 (λw'=>M4 w' b (o+(n-1)*7) (.string x.name)/\M4 w' b (o+(n-1)*7+1) (.bool x.over)/\M4 w' b (o+(n-1)*7+2) (.bool x.fail)/\M4 w' b (o+(n-1)*7+3) (.string x.text)/\M4 w' b (o+(n-1)*7+4) (.a x.at')/\M4 w' b (o+(n-1)*7+5) (.a x.Zq)/\M4 w' b (o+(n-1)*7+6) (.slice t x.texts.length v)/\M4 w' b (o+n*7) (.string y.name)/\M4 w' b (o+n*7+1) (.bool y.over)/\M4 w' b (o+n*7+2) (.bool y.fail)/\M4 w' b (o+n*7+3) (.string y.text)/\M4 w' b (o+n*7+4) (.a y.at')/\M4 w' b (o+n*7+5) (.a y.Zq)/\M4 w' b (o+n*7+6) (.slice z y.texts.length A)/\M4 w' w.heap.size 0 (.slice (some ⟨b,o,none⟩) l.length cap)/\M4 w' w.heap.size 1 (.func (.func 120) #[] #[])) 17 (m.o _ (aY wr)) λd=>?_;have q:=aY wr;generalize G:wr.drew=wd at d q⊢;clear G;refine ak 0 d ?_;refine ak 4 d ?_;refine ak 9 d ?_;refine ae 13 d ?_;refine ae 14 d ?_;refine ae 15 d ?_;refine aG 8 λK f=>?_;go_simp
    go_at_call 120
    refine (jw _ _ _ _ _ _ _ _ _ rfl).mono ?_;rintro e w1 ⟨rfl,H⟩;have r:=q.trans H;refine af f (λ_=>m.o _ r) ?_;clear f K d;refine aG 16 λK f=>?_;go_simp
    go_at_call 120
    refine (jw _ _ _ _ _ _ _ _ _ rfl).mono ?_;rintro e w2 ⟨rfl,I⟩;have c:=r.trans I;refine af f (λ_=>m.o _ c) ?_;clear f K;refine ai 17 λK f=>?_;go_simp
    refine af f (λs=>absurd rfl s) ?_;clear f K;refine aC ?_;try dsimp only
    have J:=k.trans c;go_wp2
    go_roundw
    case rel=>
     refine⟨n+1,E5,E5,F3,J,λp D=>?_⟩;by_cases e:p=n-1
     .subst e;unfold aQ;rw[S.o,T.o,V]
     .exact O.o p E5
    case measure=>simp[intOf];omega
  .go_wp2
   go_ret
   exact⟨Says.yes (Cf λp D=>O.o p E5),B.trans k⟩
def Eh(r:List Q_)(l:List Qz):Prop:=r.length=l.length/\∀i,i<l.length->nameAt l i= (r.getD i Q_.zero).name.toList
theorem sV(w:NN)(g:Nat)(x:Q_)(xa:NM)(xc:Nat)(a:NL)(d:g<w.heap.size)(f:w.cell? ⟨g,1,none⟩=some (.func (.func 120) #[] #[])):Calls prog 188 #[.agg #[.string x.name,.bool x.over,.bool x.fail,.string x.text,.a x.at',.a x.Zq,.slice xa x.texts.length xc],.string a,.c g] w λe w'=>e=.returned (.a (kJ x.name.toList a.toList))/\K_ w w':=by
 have b:K_ w (w.alloc (.cells #[.string x.name,.bool x.over,.bool x.fail,.string x.text,.a x.at',.a x.Zq,.slice xa x.texts.length xc] 48)):=ah _ _;have h:¬g=w.heap.size:=E5;go_enter func188,ntmps188
 go_wp2_with fail
 refine (jw _ _ _ _ _ _ _ _ _ rfl).mono ?_;rintro e i ⟨rfl,c⟩;go_wp2_with fail
 refine (qf _ x.name a).mono ?_;rintro e j ⟨rfl,rfl⟩;go_wp2
 go_ret
 exact⟨rfl,b.trans c⟩
theorem BC(w:NN)(g:Nat)(a:NM)(cap:Nat)(l:List Qz)(d:NL)(hl:l.length<=1048576)(S:f_ l)(A:g<w.heap.size)(T:w.cell? ⟨g,1,none⟩=some (.func (.func 120) #[] #[]))(r:List Q_)(B:Eh r l)(U:bN w a r):Calls prog 187 #[.slice a l.length cap,.string d,.func (.func 188) #[] #[.c g]] w
   λe w'=>Found l d.toList e/\K_ w w':=by
 have V:=Kz S;clear S;go_enter func187,ntmps187
 go_wp2
 go_loopw [9,10] (λx F wr=>∃i j:Nat,x=.a i/\F=.a j/\i<=j/\j<=l.length/\(∀t,t<i->Op.bytesLess (nameAt l t) d.toList=true)/\(∀t,j<=t->t<l.length->Op.bytesLess (nameAt l t) d.toList=false)/\K_ w wr) (λx F _=>(intOf F).toNat-(intOf x).toNat)
 case atStart=>exact⟨0,l.length,rfl,rfl,Ml _,Mj _,λt W=>aO W,λt h1 X=>E5,K_.refl _⟩
 case round=>
  obtain⟨i,j,rfl,rfl,a6,Y,n,p,f⟩:=hrel;have q:=Kz (And.intro n p);clear n p;by_cases a7:(i:Int)<j
  .obtain⟨h,Z⟩:∃h:Nat,h= (i+j) / 2:=⟨_,rfl⟩;have G:h<l.length:=E5;have a2:i<=h:=E5;have a8:h<j:=E5;obtain⟨b,o,s,v,rfl,hb,c,_,_⟩:=U.kept f h (by rw[B.1];exact G);let⟨x,k⟩:=aj (r.getD h Q_.zero);rw[<-k] at c;have H:Hid (nameAt l h=x.name.toList):=by rw[k];exact B.2 h G
   have I:M4 wr b (o+h*7) (.string x.name):=c 0 _ rfl;have J:M4 wr b (o+h*7+1) (.bool x.over):=c 1 _ rfl;have K:M4 wr b (o+h*7+2) (.bool x.fail):=c 2 _ rfl;have L:M4 wr b (o+h*7+3) (.string x.text):=c 3 _ rfl;have M:M4 wr b (o+h*7+4) (.a x.at'):=c 4 _ rfl;have N:M4 wr b (o+h*7+5) (.a x.Zq):=c 5 _ rfl;have O:M4 wr b (o+h*7+6) (.slice s x.texts.length v):=c 6 _ rfl;clear k c;have a9:((i:Int)+(j:Int)) / 2= (h:Int):=E5;have HH:=Kz Z;clear Z;have P:=Mk A f.size;have Q:wr.cell? ⟨g,1,none⟩=some (.func (.func 120) #[] #[]):=by rw[f.cell A];exact T
   go_wp2_with fail
   refine (sV _ g x s v d P Q).mono ?_;rintro e w1 ⟨rfl,y⟩;have z:=H.o;have C:Hid (kJ x.name.toList d.toList<0↔Op.bytesLess (nameAt l h) d.toList=true):=by rw[z];exact xe
   clear I J K L M N O z;generalize kJ x.name.toList d.toList=a0 at *;have D:=f.trans y;clear f y;by_cases a3:a0<0
   .go_wp2
    go_roundw
    case rel=>
     let⟨n,p⟩:=q.o;refine⟨h+1,j,F3,rfl,E5,Y,λt W=>?_,p,D⟩;have m:=C.o.1 a3;by_cases e:t=h
     .subst e;exact m
     .exact fu _ _ _ (V.o t h E5 G) m
    case measure=>simp[intOf];omega
   .go_wp2
    go_roundw
    case rel=>
     let⟨n,p⟩:=q.o;refine⟨i,h,rfl,F3,a2,E5,n,λt h1 X=>?_,D⟩;have m:Op.bytesLess (nameAt l h) d.toList=false:=by
      cases R:Op.bytesLess (nameAt l h) d.toList
      .rfl
      .have:=C.o.2 R;omega
     by_cases e:t=h
     .subst e;exact m
     .cases R:Op.bytesLess (nameAt l t) d.toList
      .rfl
      .rw[fu _ _ _ (V.o h t E5 X) R] at m;cases m
    case measure=>simp[intOf];omega
  .have a4:i=j:=E5;subst a4;have a1:Hid (Place l d.toList i):=⟨Y,q.o.1,q.o.2⟩;clear q;by_cases E:i<l.length
   .obtain⟨b,o,s,v,rfl,hb,c,_,_⟩:=U.kept f i (by rw[B.1];exact E);let⟨x,k⟩:=aj (r.getD i Q_.zero);rw[<-k] at c;have H:Hid (nameAt l i=x.name.toList):=by rw[k];exact B.2 i E
    have I:M4 wr b (o+i*7) (.string x.name):=c 0 _ rfl;have J:M4 wr b (o+i*7+1) (.bool x.over):=c 1 _ rfl;have K:M4 wr b (o+i*7+2) (.bool x.fail):=c 2 _ rfl;have L:M4 wr b (o+i*7+3) (.string x.text):=c 3 _ rfl;have M:M4 wr b (o+i*7+4) (.a x.at'):=c 4 _ rfl;have N:M4 wr b (o+i*7+5) (.a x.Zq):=c 5 _ rfl;have O:M4 wr b (o+i*7+6) (.slice s x.texts.length v):=c 6 _ rfl;clear k c;have P:=Mk A f.size;have Q:wr.cell? ⟨g,1,none⟩=some (.func (.func 120) #[] #[]):=by rw[f.cell A];exact T
    have a5:(i:Int)<l.length:=E5;go_wp2_with fail
    refine (sV _ g x s v d P Q).mono ?_;rintro e w1 ⟨rfl,y⟩;have z:=H.o;have C:Hid (kJ x.name.toList d.toList=0↔nameAt l i=d.toList):=by rw[z];exact uA
    clear I J K L M N O z;generalize kJ x.name.toList d.toList=a0 at *;have D:=f.trans y;clear f y;go_wp2
    go_ret2
    refine⟨Found.mk i _ rfl a1.o ?_,D⟩;rw[<-C.o];simp[E]
   .have a5:¬(i:Int)<l.length:=E5;go_wp2
    go_ret2
    exact⟨Found.mk i false rfl a1.o (by simp;intro h;exact NB h E),f⟩
theorem Gj(w:NN)(a:NM)(cap:Nat)(l:List Qz)(b:NL)(h:l.length<=1048576)(i:f_ l)(r:List Q_)(j:Eh r l)(k:bN w a r):Calls prog 165 #[.agg #[.slice a l.length cap,.func (.func 120) #[] #[]],.string b] w
   λe w'=>Found l b.toList e/\K_ w w':=by
 have c:K_ w (w.alloc (.cells #[.slice a l.length cap,.func (.func 120) #[] #[]] 180)):=ah _ _;go_enter func165,ntmps165
 go_wp2_with fail
 refine (BC _ w.heap.size a cap l b h i E9 E9 r j (k.kept c)).mono ?_;rintro e v ⟨m,n⟩;obtain⟨p,q,rfl,d,f⟩:=m;have⟨s,t⟩:=aH d f;clear d f;go_wp2
 go_ret2
 exact⟨Found.mk p q rfl s.o t.o,c.trans n⟩
def jP(l:List Q_):List Qz:=l.map λx=>⟨x.name,0,[]⟩
theorem ib(l:List Q_):Eh l (jP l):=by
 refine⟨by simp[jP],λi b=>?_⟩;have c:i<l.length:=by simpa[jP] using b
 simp[nameAt,jP,List.getD,c]
theorem sN(h:dB l):f_ (jP l):=by
 intro i j f c;have d:j<l.length:=by simpa[jP] using c
 rw[(ib l).2 i E5,(ib l).2 j c];have:=Mx.1 h i j E5 d f;simpa[List.getD,d,(E5:i<l.length),aQ] using this
def KI(l:List Q_)(n:NL)(e:Ending):Prop:=∃(p:Nat)(f:Bool),e=.returned (.tuple #[.a p,.bool f])/\p<=l.length/\(if f then p<l.length/\Qq l n=some (l.getD p Q_.zero) else Qq l n=none)
theorem BJ{p:Nat}(h:p<l.length):l.getD p Q_.zero∈l:=by
 rw[List.getD_eq_getElem?_getD,Mq h];exact Mw h
theorem FK(j:dB l){n:NL}{e:Ending}(h:Found (jP l) n.toList e):KI l n e:=by
 obtain⟨p,m,rfl,⟨q,v,s⟩,c⟩:=h;have w:=(ib l).1.symm;rw[w] at q s c;have t:∀i,i<l.length->nameAt (jP l) i= (l.getD i Q_.zero).name.toList:=λi D=>(ib l).2 i E5
 refine⟨p,m,rfl,q,?_⟩;cases m with
 |true=>
  let⟨a,b⟩:=c.1 rfl;rw[t p a] at b;refine⟨a,?_⟩;rw[<-toList_inj.1 b];exact bJ j (BJ a)
 |false=>
  cases x:Qq l n with
  |none=>rfl
  |some r=>
   exfalso
   let⟨y,z⟩:=aZ x;let⟨k,d,A⟩:=MB y;have B:(l.getD k Q_.zero)=r:=by simp[List.getD,d,A]
   have f:nameAt (jP l) k=n.toList:=by rw[t k d,B,z]
   have C:p<=k:=by
    rcases Nat.lt_or_ge k p with h|h
    .have:=v k h;rw[f,dP] at this;cases this
    .exact h
   rcases Nat.lt_or_eq_of_le C with h|h
   .have a:=s p (Mj _) E5;have b:=sN j p k h E5;rw[f,a] at b;cases b
   .subst h;have:=c.2 ⟨d,f⟩;cases this
theorem FI(w:NN)(a:NM)(cap:Nat)(l:List Q_)(n:NL)(i:l.length<=1048576)(b:dB l)(d:bN w a l):Calls prog 165 #[.agg #[.slice a l.length cap,.func (.func 120) #[] #[]],.string n] w
   λe w'=>KI l n e/\K_ w w':=by
 have f:=(ib l).1.symm;have h:=Gj w a cap (jP l) n E5 (sN b) l (ib l) d;rw[f] at h;exact h.mono λe w' c=>⟨FK b c.1,c.2⟩
theorem Bv{P Q:Prop}[Decidable P](h:P↔Q):Says (.returned (.bool (decide P))) Q:=by
 by_cases a:P
 .rw[decide_eq_true a];exact Says.yes (h.1 a)
 .rw[decide_eq_false a];exact Says.no λc=>a (h.2 c)
theorem Er(w:NN)(tb:Nat)(r x:Q_)(xa:NM)(xc:Nat)(c:tb<w.heap.size)(d:w.cell? ⟨tb,5,none⟩=some (.a r.Zq)):Calls prog 166 #[.c tb,.agg #[.string x.name,.bool x.over,.bool x.fail,.string x.text,.a x.at',.a x.Zq,.slice xa x.texts.length xc]] w
   λe w'=>Says e (dM r x)/\K_ w w':=by
 have a:K_ w (w.alloc (.cells #[.string x.name,.bool x.over,.bool x.fail,.string x.text,.a x.at',.a x.Zq,.slice xa x.texts.length xc] 48)):=ah _ _;have f:¬tb=w.heap.size:=E5;unfold dM;cases b:x.over
 .rw[b] at a;go_enter func166,ntmps166
  go_wp2
  go_region
  all_goals
   go_wp2
   go_ret
   exact⟨Bv E9,a.drew⟩
 .rw[b] at a;go_enter func166,ntmps166
  go_wp2
  go_region
  all_goals
   go_wp2
   go_ret
   exact⟨Says.yes (Or.inl trivial),a.drew⟩
theorem vO(w:NN)(a r:NM)(c A:Nat)(l b:List NL)(L:l.length<=1048576)(_hl':b.length<=1048576)(B:Strs w a l)(C:Strs w r b):Calls prog 167 #[.slice a l.length c,.slice r b.length A] w λe w'=>e=.returned (.bool (decide (l=b)))/\K_ w w':=by
 go_enter func167,ntmps167
 by_cases i:l.length=b.length
 .have D:((l.length:Int) != (b.length:Int))=false:=by simp[i]
  have E:(l.length:Int)= (b.length:Int):=E5;go_wp2
  go_loopw [13] (λm wr=>∃k:Nat,k<=l.length/\m=.a k/\Hid (∀j,j<k->l.getD j ByteArray.empty=b.getD j ByteArray.empty)/\K_ w wr) (λm _=>l.length-(intOf m).toNat)
  case atStart=>exact⟨0,Ml _,rfl,Kz λj n=>aO n,K_.refl _⟩
  case round=>
   obtain⟨k,M,rfl,s,d⟩:=hrel;by_cases F:k<l.length
   .obtain⟨N,o,rfl,O,G⟩:=B.kept d k F;obtain⟨P,Q,rfl,R,H⟩:=C.kept d k E5;have S:(k:Int)<(l.length:Int):=E5;have T:(k:Int)<(b.length:Int):=E5;let⟨x,p⟩:=aj (l.getD k ByteArray.empty);let⟨y,q⟩:=aj (b.getD k ByteArray.empty);rw[<-p] at G;rw[<-q] at H;have⟨t,v⟩:=aH p q;clear p q;cases f:(x.toList == y.toList)
    .have I:(x.toList != y.toList)=true:=by rw[bne,f];rfl
     go_upto_region 6 with fail
     go_quiet (fail)
     go_wp2
     go_ret
     have h:¬l=b:=λe=>by
      have z:=jN f;rw[t.o,v.o,e] at z;exact z rfl
     exact⟨by rw[decide_eq_false h];rfl,d.drewN _⟩
    .have I:(x.toList != y.toList)=false:=by rw[bne,f];rfl
     go_upto_region 6 with fail
     go_quiet (fail)
     go_wp2
     go_roundw
     case rel=>
      refine⟨k+1,E5,F3,Kz λj n=>?_,d.drewN _⟩;by_cases e:j=k
      .rw[e,<-t.o,<-v.o];exact fC f
      .exact s.o j E5
     case measure=>simp[intOf];omega
   .go_wp2
    go_ret
    have J:l=b:=qW i λj n=>s.o j E5
    exact⟨by rw[decide_eq_true J];rfl,d⟩
 .have D:((l.length:Int) != (b.length:Int))=true:=F6;have E:¬(l.length:Int)= (b.length:Int):=E5;have h:¬l=b:=λe=>i (by rw[e])
  have K:=Kz h;clear h;go_wp2
  go_ret
  exact⟨by rw[decide_eq_false K.o];rfl,K_.refl _⟩
theorem Ah(w:NN)(tb:Nat)(r q:Q_)(z xa:NM)(I xc:Nat)(J:tb<w.heap.size)(A:w.rangeAt tb 0 (r.cells z I))(hl:r.texts.length<=1048576)(a0:q.texts.length<=1048576)(S:Strs w z r.texts)(T:Strs w xa q.texts):Calls prog 124 #[.c tb,.agg #[.string q.name,.bool q.over,.bool q.fail,.string q.text,.a q.at',.a q.Zq,.slice xa q.texts.length xc]] w
   λe w'=>Says e (r=q)/\K_ w w':=by
 let⟨L,B,C,M,D,E,N⟩:=r;let⟨i,b,c,j,d,f,k⟩:=q;dsimp only at hl a0 S T⊢;have s:K_ w (w.alloc (.cells #[.string i,.bool b,.bool c,.string j,.a d,.a f,.slice xa k.length xc] 48)):=ah _ _;have a6:¬tb=w.heap.size:=E5;have t:tb<(w.alloc (.cells #[.string i,.bool b,.bool c,.string j,.a d,.a f,.slice xa k.length xc] 48)).heap.size:=F6;have v:w.heap.size<(w.alloc (.cells #[.string i,.bool b,.bool c,.string j,.a d,.a f,.slice xa k.length xc] 48)).heap.size:=E9;have c0:M4 (w.alloc (.cells #[.string i,.bool b,.bool c,.string j,.a d,.a f,.slice xa k.length xc] 48)) tb 0 (.string L):=(s.cell J).trans (by have h:=A 0 _ rfl;simpa using h);have d0:M4 (w.alloc (.cells #[.string i,.bool b,.bool c,.string j,.a d,.a f,.slice xa k.length xc] 48)) w.heap.size 0 (.string i):=X_ w #[.string i,.bool b,.bool c,.string j,.a d,.a f,.slice xa k.length xc] 48 0 _ rfl;have c1:M4 (w.alloc (.cells #[.string i,.bool b,.bool c,.string j,.a d,.a f,.slice xa k.length xc] 48)) tb 1 (.bool B):=(s.cell J).trans (by have h:=A 1 _ rfl;simpa using h);have d1:M4 (w.alloc (.cells #[.string i,.bool b,.bool c,.string j,.a d,.a f,.slice xa k.length xc] 48)) w.heap.size 1 (.bool b):=X_ w #[.string i,.bool b,.bool c,.string j,.a d,.a f,.slice xa k.length xc] 48 1 _ rfl;have c2:M4 (w.alloc (.cells #[.string i,.bool b,.bool c,.string j,.a d,.a f,.slice xa k.length xc] 48)) tb 2 (.bool C):=(s.cell J).trans (by have h:=A 2 _ rfl;simpa using h);have d2:M4 (w.alloc (.cells #[.string i,.bool b,.bool c,.string j,.a d,.a f,.slice xa k.length xc] 48)) w.heap.size 2 (.bool c):=X_ w #[.string i,.bool b,.bool c,.string j,.a d,.a f,.slice xa k.length xc] 48 2 _ rfl;have c3:M4 (w.alloc (.cells #[.string i,.bool b,.bool c,.string j,.a d,.a f,.slice xa k.length xc] 48)) tb 3 (.string M):=(s.cell J).trans (by have h:=A 3 _ rfl;simpa using h);have d3:M4 (w.alloc (.cells #[.string i,.bool b,.bool c,.string j,.a d,.a f,.slice xa k.length xc] 48)) w.heap.size 3 (.string j):=X_ w #[.string i,.bool b,.bool c,.string j,.a d,.a f,.slice xa k.length xc] 48 3 _ rfl;have c4:M4 (w.alloc (.cells #[.string i,.bool b,.bool c,.string j,.a d,.a f,.slice xa k.length xc] 48)) tb 4 (.a D):=(s.cell J).trans (by have h:=A 4 _ rfl;simpa using h);have d4:M4 (w.alloc (.cells #[.string i,.bool b,.bool c,.string j,.a d,.a f,.slice xa k.length xc] 48)) w.heap.size 4 (.a d):=X_ w #[.string i,.bool b,.bool c,.string j,.a d,.a f,.slice xa k.length xc] 48 4 _ rfl;have c5:M4 (w.alloc (.cells #[.string i,.bool b,.bool c,.string j,.a d,.a f,.slice xa k.length xc] 48)) tb 5 (.a E):=(s.cell J).trans (by have h:=A 5 _ rfl;simpa using h);have d5:M4 (w.alloc (.cells #[.string i,.bool b,.bool c,.string j,.a d,.a f,.slice xa k.length xc] 48)) w.heap.size 5 (.a f):=X_ w #[.string i,.bool b,.bool c,.string j,.a d,.a f,.slice xa k.length xc] 48 5 _ rfl;have c6:M4 (w.alloc (.cells #[.string i,.bool b,.bool c,.string j,.a d,.a f,.slice xa k.length xc] 48)) tb 6 (.slice z N.length I):=(s.cell J).trans (by have h:=A 6 _ rfl;simpa using h);have d6:M4 (w.alloc (.cells #[.string i,.bool b,.bool c,.string j,.a d,.a f,.slice xa k.length xc] 48)) w.heap.size 6 (.slice xa k.length xc):=X_ w #[.string i,.bool b,.bool c,.string j,.a d,.a f,.slice xa k.length xc] 48 6 _ rfl;clear A;go_enter func124,ntmps124
 go_upto_region 1 with fail
 generalize hW:(w.alloc (.cells #[.string i,.bool b,.bool c,.string j,.a d,.a f,.slice xa k.length xc] 48))=a4 at *;clear hW;go_cut [5] from 7 to 34 (λs5 U=>K_ a4 U/\s5=.bool (decide (B=b/\C=c/\M=j)))
 case first=>
  by_cases m:B=b
  .have V:(B == b)=true:=by simp[m]
   by_cases p:C=c
   .have W:(C == c)=true:=by simp[p]
    have⟨F,K⟩:=aH m p;clear m p;cases h3:(M.toList == j.toList)
    .go_region
     all_goals
      go_wp2
      go_meet
      exact⟨(aY _),by rw[decide_eq_false λh=>jN h3 (by rw[h.2.2])]⟩
    .go_region
     all_goals
      go_wp2
      go_meet
      exact⟨(aY _),by rw[decide_eq_true ⟨F.o,K.o,fC h3⟩]⟩
   .have W:(C == c)=false:=by simp[p]
    have⟨F,K⟩:=aH m p;clear m p;go_region
    all_goals
     go_wp2
     go_meet
     exact⟨(aY _),by rw[decide_eq_false λh=>K.o h.2.1]⟩
  .have V:(B == b)=false:=by simp[m]
   have F:=Kz m;clear m;go_region
   all_goals
    go_wp2
    go_meet
    exact⟨(aY _),by rw[decide_eq_false λh=>F.o h.1]⟩
 case rest=>
  obtain⟨a,rfl⟩:=hcut;generalize hE:decide (B=b/\C=c/\M=j)=sE;have HE:=Kz hE;clear hE;obtain⟨n,rfl⟩:=aj wc;have t0:=(a.cell t).trans c0;have x0:=(a.cell v).trans d0;have t1:=(a.cell t).trans c1;have x1:=(a.cell v).trans d1;have t2:=(a.cell t).trans c2;have x2:=(a.cell v).trans d2;have t3:=(a.cell t).trans c3;have x3:=(a.cell v).trans d3;have t4:=(a.cell t).trans c4;have x4:=(a.cell v).trans d4;have t5:=(a.cell t).trans c5;have x5:=(a.cell v).trans d5;have t6:=(a.cell t).trans c6;have x6:=(a.cell v).trans d6;clear c0 c1 c2 c3 c4 c5 c6 d0 d1 d2 d3 d4 d5 d6;have K1:=s.trans a;have x:=Mk t a.size;have y:=Mk v a.size;clear a t v s;go_upto_region 2 with fail
  go_cut [6] from 35 to 52 (λs6 U=>K_ n U/\s6=.bool (decide (D=d/\E=f)))
  case first=>
   by_cases m:D=d
   .have V:(D == d)=true:=by simp[m]
    have F:=Kz m;clear m;by_cases p:E=f
    .have W:(E == f)=true:=by simp[p]
     have K:=Kz p;clear p;go_region
     all_goals
      go_wp2
      go_meet
      exact⟨(aY _),by rw[decide_eq_true ⟨F.o,K.o⟩]⟩
    .have W:(E == f)=false:=by simp[p]
     have K:=Kz p;clear p;go_region
     all_goals
      go_wp2
      go_meet
      exact⟨(aY _),by rw[decide_eq_false λh=>K.o h.2]⟩
   .have V:(D == d)=false:=by simp[m]
    have F:=Kz m;clear m;go_region
    all_goals
     go_wp2
     go_meet
     exact⟨(aY _),by rw[decide_eq_false λh=>F.o h.1]⟩
  case rest=>
   obtain⟨a,rfl⟩:=hcut;obtain⟨l,rfl⟩:=aj wc;generalize hP:decide (D=d/\E=f)=sP;have HP:=Kz hP;clear hP;have u0:=(a.cell x).trans t0;have y0:=(a.cell y).trans x0;have u1:=(a.cell x).trans t1;have y1:=(a.cell y).trans x1;have u2:=(a.cell x).trans t2;have y2:=(a.cell y).trans x2;have u3:=(a.cell x).trans t3;have y3:=(a.cell y).trans x3;have u4:=(a.cell x).trans t4;have y4:=(a.cell y).trans x4;have u5:=(a.cell x).trans t5;have y5:=(a.cell y).trans x5;have u6:=(a.cell x).trans t6;have y6:=(a.cell y).trans x6;have O:=K1.trans a;have a1:=Mk x a.size;have a2:=Mk y a.size;clear a x y K1 t0 t1 t2 t3 t4 t5 t6 x0 x1 x2 x3 x4 x5 x6;have hT:=S.kept O;have hX:=T.kept O;clear S T;go_upto_region 3 with fail
   cases h0:(L.toList == i.toList)
   .go_region
    all_goals
     go_wp2
     go_ret
     exact⟨Says.no (by simp[jN h0]),O.drew⟩
   .have E0:=Kz (fC h0);cases sE
    .have Q:=of_decide_eq_false HE.o;have X:=Kz Q;clear Q;go_region
     all_goals
      go_wp2
      go_ret
      exact⟨Says.no (λh=>NB (by first|exact⟨h.2.1,h.2.2.1,h.2.2.2.1⟩|(rw[Q_.mk.injEq] at h;exact⟨h.2.1,h.2.2.1,h.2.2.2.1⟩)) X.o),O.drew⟩
    .cases sP
     .have Q:=of_decide_eq_false HP.o;have X:=Kz Q;clear Q;go_region
      all_goals
       go_wp2
       go_ret
       exact⟨Says.no (λh=>NB (by first|exact⟨h.2.2.2.2.1,h.2.2.2.2.2.1⟩|(rw[Q_.mk.injEq] at h;exact⟨h.2.2.2.2.1,h.2.2.2.2.2.1⟩)) X.o),O.drew⟩
     .have a7:True:=trivial;have a3:∀w',K_ l w'->(λw'=>M4 w' tb 0 (.string L)/\M4 w' w.heap.size 0 (.string i)/\M4 w' tb 6 (.slice z N.length I)/\M4 w' w.heap.size 6 (.slice xa k.length xc)) w':=λw' a=>⟨(a.cell a1).trans u0,(a.cell a2).trans y0,(a.cell a1).trans u6,(a.cell a2).trans y6⟩
      have Y:=Kz a3;clear a3;refine Qk.region F4 (λw'=>M4 w' tb 0 (.string L)/\M4 w' w.heap.size 0 (.string i)/\M4 w' tb 6 (.slice z N.length I)/\M4 w' w.heap.size 6 (.slice xa k.length xc)) 24 (Y.o _ (aY l)) λG=>?_;have P:=aY l;generalize a5:l.drew=wd at G P⊢;clear a5;refine ak 0 G ?_;refine ak 4 G ?_;refine ak 8 G ?_;refine ak 12 G ?_;refine ak 16 G ?_;refine ae 20 G ?_;refine ae 21 G ?_;refine aG 22 λR H=>?_;go_simp
      go_at_call 167
      refine (vO _ z xa I xc N k hl a0 (hT.kept P) (hX.kept P)).mono ?_;rintro e w1 ⟨rfl,Z⟩;refine af H (λ_=>Y.o _ (P.trans Z)) ?_;clear H R;refine ai 23 λR H=>?_;go_simp
      refine af H (λ_=>Y.o _ (P.trans Z)) ?_;clear H R;refine ai 24 λR H=>?_;go_simp
      refine af H (λh=>NB rfl h) ?_;clear H R;refine aC ?_;go_wp2
      go_ret
      have m:=of_decide_eq_true HE.o;have p:=of_decide_eq_true HP.o;exact⟨Bv (by simp[E0.out,m.1,m.2.1,m.2.2,p.1,p.2]),(O.trans P).trans Z⟩
