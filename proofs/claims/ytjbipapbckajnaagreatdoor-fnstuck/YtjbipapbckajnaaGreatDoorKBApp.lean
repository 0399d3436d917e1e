import Derived.Test.YtjbipapbckajnaaGreatDoorKCLead
set_option maxRecDepth 100000
set_option maxHeartbeats 25600000
namespace Go.Proofs.YtjbipapbckajnaaGreatDoor
open Go.RowKit Go.Proofs.Tryz
theorem Tryz.yQ :(prog.info? 70).map (λi=>(i.zero,i.size,i.bytes))=some (some (.pointer none),1,8):=C9
theorem Ia(w:Pv)(n:Nat)(p:n<=3145728):
  Calls prog 196 #[J3,.a n] w λe w'=>∃v,e= .returned v/\w'.ownsRow w.heap.size 70 1 v 0 []/\K_ w w':=by
 by_cases b:n=0
 .subst b;go_enter func196,ntmps196
  go_wp2
  go_ret
  exact⟨_,rfl,OO _ _ _ _,K_.refl _⟩
 .obtain⟨c,d,f,h,i⟩:=info_parts Tryz.yQ;have a:=λj=>Lib.run_append_nil_zeros (P:=prog) w 118 3 j 70 c _ .i64 .i64 underlying118 Tryz.Nq d f n A7 (by rw[h];omega) A7 (by rw[i];omega)
  have q:=grownCap_ge w n 0 70;have k:=grownCap_le_maxLen w n 0 70 D5;have l:=Kz a;clear a;have r:(0:Int)<(n:Int):=A7;go_enter func196,ntmps196
  go_wp2_with (at_builtin;refine Lib.wpList_append_run _ rfl (.tmp 20) (.tmp 21) _ _ rfl _ _ rfl rfl _ _ (l.o _) ?_)
  go_ret
  refine⟨_,rfl,World.ownsRow.drew (Ov w _ _ (NQ _) k ?_),(ah _ _).drew⟩;simp only[Array.size_append,size_zeroCells];have m:(#[Value.pointer none]:Array Pw).size=1:=rfl;rw[m,<-Nat.add_mul]
  congr 1
  omega
def FY(w:Pv)(b:Nat)(LL:List (List Pw))(P:Nat->Pt)(C:Nat->Nat):Prop:=
 b<w.heap.size/\∀i,i<LL.length->w.cell? ⟨b,i,none⟩=some (.slice (P i) (LL.getD i []).length (C i))/\((P i=none/\C i=0/\LL.getD i []=[])\/∃p1 p2,P i=some ⟨p1,p2,none⟩/\∀j u,(LL.getD i [])[j]? =some u->w.cell? ⟨p1,p2+j,none⟩=some u)
theorem FY.kept{w w':Pv}{b:Nat}{a:List (List Pw)}{P:Nat->Pt}{C:Nat->Nat}(h:FY w b a P C)(k:K_ w w'):FY w' b a P C:=
 ⟨NR h.1 k.size,λi c=>⟨by rw[k.cell h.1];exact (h.2 i c).1,by
  rcases (h.2 i c).2 with g|⟨e,f,l,g⟩
  .exact .inl g
  .exact .inr ⟨e,f,l,λj u d=>by rw[k.cell (World.block_lt_of_cell? _ _ (g j u d))];exact g j u d⟩⟩⟩
theorem Fv(a:List (List Pw))(k:Nat)(h:k<a.length):(a.take (k+1)).flatten= (a.take k).flatten++a.getD k []:=by
 rw[NY h,List.flatten_append];simp[List.getD,h]
theorem IX(a:List (List Pw))(k:Nat):(a.take k).flatten.length=sumTo List.length a k:=by
 unfold sumTo;rw[List.length_flatten]
theorem Dw(w:Pv)(b cap:Nat)(a:List (List Pw))(P:Nat->Pt)(C:Nat->Nat)(hm:a.length<=3)(S:(a.map List.length).sum<=3145728)(T:∀l∈a,∀u∈l,u.oneCell'=true)(p:FY w b a P C):
  Calls prog 166 #[.b b a.length cap] w λe w'=>∃v,e= .returned v/\w'.ownsRow w.heap.size 70 1 v a.flatten.length a.flatten/\K_ w w':=by
 go_enter func166,ntmps166
 go_wp2
 go_loop [3,11] (λz i=>∃k:Nat,k<=a.length/\i= .a k/\z= .a (sumTo List.length a k:Nat)) (λ_ i=>a.length-(intOf i).toNat)
 case atStart=>exact⟨0,NS _,rfl,by rw[Ez];rfl⟩
 case round=>
  obtain⟨k,U,rfl,rfl⟩:=hrel;by_cases f:k<a.length
  .have h:=(p.2 k f).1;have G:Hid (sumTo List.length a (k+1)=sumTo List.length a k+ (a.getD k []).length):=ER _ a _ k f;have V:=sumTo_le List.length a (k+1);have a8:sumTo List.length a k+ (a.getD k []).length<=3145728:=by have:=G.o;omega
   generalize sumTo List.length a k=H at *;generalize (a.getD k []).length=y at *;generalize P k=pk at *;clear V;go_wp2
   go_round
   case rel=>exact⟨k+1,A7,C8,by rw[G.o];go_num⟩
   case measure=>simp[intOf];omega
  .have A:k=a.length:=A7;subst A;have W:sumTo List.length a a.length<=3145728:=by rw[GR];exact S
   generalize sumTo List.length a a.length=H at *;go_wp2_with fail
   refine (Ia _ H W).mono ?_;rintro e w1 ⟨v1,rfl,c,X⟩;go_wp2
   go_loopw [6,27] (λz i wr=>∃(k:Nat),k<=a.length/\i= .a k/\wr.ownsRow w.heap.size 70 1 z (a.take k).flatten.length (a.take k).flatten/\K_ w wr) (λ_ i _=>a.length-(intOf i).toNat)
   case atStart=>exact⟨0,NS _,rfl,by simpa using c,X⟩
   case round=>
    obtain⟨k,U,rfl,c,d⟩:=hrel;by_cases f:k<a.length
    .have h:=((p.kept d).2 k f).1;have a9:=(p.kept d).1;have I:=((p.kept d).2 k f).2;have n:=Fv a k f;have q:=IX a (k+1);have Y:=sumTo_le List.length a (k+1);rw[n,OD] at q;have B:=T (a.getD k []) (by simp[List.getD,f]);obtain⟨y,J⟩:=ai (a.getD k []);obtain⟨r,K⟩:=ai ((a.take k).flatten);rw[<-J] at h I q n B;rw[<-K] at c q n;have b0:r.length+y.length<=3145728:=A7;have⟨s,j⟩:=aH n c;have Z:=d.size;clear q Y n J K;rcases I with⟨D,a0,L⟩|⟨M,N,D,O⟩
     .rw[D,a0,L] at h;rw[L,List.append_nil] at s;rcases c.2 with⟨E,h0⟩|⟨g,cp,b1,E,b2,Q,b3,_,_,_⟩
      .subst E;simp only[List.length_nil] at h;clear c;go_wp2
       go_roundw
       case rel=>exact⟨k+1,A7,C8,by rw[s.o];exact j.o,d⟩
       case measure=>simp[intOf];omega
      .subst E;simp only[List.length_nil] at h;have b4:(r.length:Int)<=(cp:Int):=A7;have b5:=aO Q;clear c Q;go_wp2
       go_roundw
       case rel=>exact⟨k+1,A7,C8,by rw[s.o];exact j.o,d⟩
       case measure=>simp[intOf];omega
     .rw[D] at h;have R:∀t u,y[t]? =some u->wr.cell? ((⟨M,N,none⟩:Addr).add t)=some u:=λt u hu=>by
       rw[OI];exact O t u hu
      obtain⟨i0,hi,a1,a2,a3⟩:=info_parts Tryz.yQ;have⟨a4,a5⟩:=aH R B;obtain⟨m,F⟩:=ai y.length;rw[<-F] at h;have x:=Kz F;clear R B O c F;go_wp2_with (at_builtin;refine wpList_append_own _ rfl (.tmp 31) (.tmp 32) 118 rfl w.heap.size 70 i0 _ 1 8 underlying118 hi a1 a2 a3 rfl A8 _ r.length r rfl j.o ⟨M,N,none⟩ m (C k) y rfl (by have:=x.o;omega) a4.o a5.o (by have:=x.o;unfold maxLen;omega) (by have:=x.o;omega) Z ?_;intro v' w2 a6 a7 _)
      go_roundw
      case rel=>exact⟨k+1,A7,C8,by rw[s.o,OD,<-x.o];exact a6,aL d (NQ _) j.o a7⟩
      case measure=>simp[intOf];omega
    .have A:k=a.length:=A7;subst A;rw[Ox] at c;have j:=Kz c;clear c;go_wp2
     go_ret
     exact⟨_,rfl,j.o,d⟩
theorem Tryz.qG :(prog.info? 121).map (·.size)=some 2:=C9
def FR(w:Pv)(A:Pt)(c:Nat)(ys:List Pw):Prop:=(A=none/\c=0/\ys=[])\/∃p1 p2,A=some ⟨p1,p2,none⟩/\∀j u,ys[j]? =some u->w.cell? ⟨p1,p2+j,none⟩=some u
theorem nT{w2:Pv}{a:List Pw}{p n c1 c3 tb:Nat}{A1 A3:Pt}(C:a.length=n)(s:n<=1000)(F:p<=n)(D:∀u∈a,u.oneCell'=true)(G:FR w2 A1 c1 (a.take p))(H:FR w2 A3 c3 (a.drop p)){m:Nat}(L:m=n+1):
  Calls prog 166 #[.b (w2.heap.size+1) 3 3] ((w2.alloc (.cells #[.c tb] 70)).alloc (.cells #[.slice A1 p c1,.b w2.heap.size 1 1,.slice A3 (n-p) c3] 118)).drew
   λe w'=>∃d f base,e= .returned (.slice d m f)/\w2.heap.size<=base/\w'.ownsRow base 70 1 (.slice d m f) m (a.take p++ .c tb :: a.drop p)/\K_ w2 w':=by
 have h:K_ w2 ((w2.alloc (.cells #[.c tb] 70)).alloc (.cells #[.slice A1 p c1,.b w2.heap.size 1 1,.slice A3 (n-p) c3] 118)).drew:=((ah _ _).alloc _).drew;have I:=Cn (w:=w2) (x:= .c tb) (t:=70) (((K_.refl _).alloc (.cells #[.slice A1 p c1,.b w2.heap.size 1 1,.slice A3 (n-p) c3] 118)).drew);have E:∀{A c k},FR w2 A c k->∀W,K_ w2 W->(A=none/\c=0/\k=[])\/∃l q,A=some ⟨l,q,none⟩/\∀j u,k[j]? =some u->W.cell? ⟨l,q+j,none⟩=some u:=by
  intro A c k y W z;rcases y with y|⟨l,q,e,g⟩
  .exact .inl y
  .exact .inr ⟨l,q,e,λj u b=>by rw[z.cell (World.block_lt_of_cell? _ _ (g j u b))];exact g j u b⟩
 have J:([a.take p,[.c tb],a.drop p]:List (List Pw)).flatten=a.take p++ .c tb :: a.drop p:=A9;refine (Dw _ (w2.heap.size+1) 3 [a.take p,[.c tb],a.drop p] (λi=>if i=0 then A1 else if i=1 then some ⟨w2.heap.size,0,none⟩ else A3) (λi=>if i=0 then c1 else if i=1 then 1 else c3) A9 (by simp[List.length_take,List.length_drop];omega) ?_ ⟨?_,λi B=>?_⟩).mono ?_
 .intro M s u b;simp only[OL,OM,or_false] at s;rcases s with rfl|rfl|rfl
  .exact D u (List.mem_of_mem_take b)
  .simp at b;subst b;rfl
  .exact D u (List.mem_of_mem_drop b)
 .show w2.heap.size+1<((w2.alloc _).alloc _).heap.size;simp
 .match i,B with
  | 0,_=>exact⟨by simp[List.length_take,Nat.min_eq_left (C ▸ F)],E G _ h⟩
  | 1,_=>exact⟨A9,.inr ⟨w2.heap.size,0,rfl,λj u b=>by
    match j,b with
    | 0,b=>simp at b;subst b;exact I
    | j+1,b=>simp at b⟩⟩
  | 2,_=>exact⟨by simp[List.length_drop,C],E H _ h⟩
  | i+3,B=>exfalso;simp at B;omega
 .rintro e w' ⟨v,rfl,r,z⟩;rw[J] at r;have K:(a.take p++ .c tb :: a.drop p).length=m:=by rw[OD,OH,Oo,List.length_drop];omega
  rw[K] at r;obtain⟨d,f,rfl⟩:=ay r;exact⟨d,f,_,rfl,h.size,r,h.trans z⟩
def Js(l:List Qq)(n:Ps)(tb:Nat)(xs:List Pw)(w w':Pv)(e:Ending):Prop:=
 ∃(m:Nat) (a:Pt) (cap base p:Nat),m=l.length+1/\e= .returned (.agg #[.slice a m cap,.func (.func 55) #[] #[]])/\w.heap.size<=base/\w'.ownsRow base 70 1 (.slice a m cap) m (xs.take p++ .c tb :: xs.drop p)/\Place l n.toList p/\K_ w w'
theorem xx{w b:Pv}{x y:Pw}{t:TypeId}(K:K_ (w.alloc (.cells #[x,y] t)) b):b.cell? ⟨w.heap.size,0,none⟩=some x/\b.cell? ⟨w.heap.size,1,none⟩=some y:=
 ⟨(K.cell A9).trans (Xz w #[x,y] t 0 _ rfl),(K.cell A9).trans (Xz w #[x,y] t 1 _ rfl)⟩
theorem kD.one{w:Pv}{a:List Pw}{l:List Qq}(h:kD w a l):∀u∈a,u.oneCell'=true:=by
 intro u c;obtain⟨i,b,rfl⟩:=Oc c;obtain⟨d,_,_,e,_⟩:=h.2 i (by rw[<-h.1];exact b);rw[NV b] at e;rw[OQ e]
 rfl
abbrev yo (w:Pv) (a:Pt) (n cap:Nat):Pv:=(w.alloc (.cells #[.slice a n cap,.func (.func 55) #[] #[]] 121)).alloc (.cells #[J3,.nilFunc] 121)
theorem GM(w:Pv)(a:Pt)(cap:Nat)(l:List Qq)(d:Qq)(s:List Pw)(a2 tb:Nat)(hl:l.length<=100)(hr:dI l)(a3:∀j,j<l.length->nameAt l j≠d.name.toList)(N:w.ownsRow a2 70 1 (.slice a l.length cap) l.length s)(X:kD w s l)(a4:tb<w.heap.size)(a5:w.cell? ⟨tb,0,none⟩=some (.string d.name)):
  Calls prog 114 #[.agg #[.slice a l.length cap,.func (.func 55) #[] #[]],.c tb] w λe w'=>Js l d.name tb s w w' e:=by
 have Y:=eD N;have O:s.length=l.length:=by have:=N.1;omega
 have F:K_ w (yo w a l.length cap):=(ah _ _).alloc _;have Z:Hid (∀w',K_ (yo w a l.length cap) w'->(λw'=>J4 w' w.heap.size 0 (.slice a l.length cap)/\J4 w' w.heap.size 1 (.func (.func 55) #[] #[])) w'):=λw' k=>xx (w:=w) (K_.trans (ah _ _) k)
 have a6:Hid (Row (yo w a l.length cap) (w.heap.size+1) 2):=by have:=Row.made (w.alloc (.cells #[.slice a l.length cap,.func (.func 55) #[] #[]] 121)) #[J3,.nilFunc] 121;show Row _ _ _;simpa using this
 go_enter func114,ntmps114
 go_wp2
 go_region_held (λw'=>J4 w' w.heap.size 0 (.slice a l.length cap)/\J4 w' w.heap.size 1 (.func (.func 55) #[] #[])) (exact bC Z _ E5) ((first | (go_at_call 55;refine (wV _ tb d.name ((K_.cell (F.trans E5) a4).trans a5)).mono ?_;rintro e w1 ⟨rfl,rfl⟩) | (go_at_call 165;refine (Ac _ a cap l d.name A7 hr s (X.kept (F.trans E5)) (Y.kept (F.trans E5))).mono ?_;rintro e r ⟨a7,a0⟩;obtain⟨p,f,rfl,hp,hf⟩:=a7;have G:K_ (yo w a l.length cap) r:=K_.trans E5 a0;have H:=Kz hp;have HF:=Kz hf;clear hp hf a0)))
 all_goals
  have a8:f=false:=by
   cases f
   .rfl
   .have:=HF.o.1 rfl;exact Pg this.2 (a3 p this.1)
  subst a8;have z2:=G.size;simp only[yo,OC] at z2;have I:=F.trans G;have P:=Z.o r G;have J:=a6.o.kept G;obtain⟨⟨_,x0⟩,g0⟩:=J.at (i:=0) A7;obtain⟨⟨_,x1⟩,g1⟩:=J.at (i:=1) A7;have Q:=Kz J;have R:=H.o.le;clear J;obtain⟨m,x⟩:=ai (l.length+1);have S:=Kz x;have T:Hid (∀w',Xk (w.heap.size+1) (w.heap.size+2) r w'->(λw'=>J4 w' w.heap.size 0 (.slice a l.length cap)/\J4 w' w.heap.size 1 (.func (.func 55) #[] #[])) w'):=λw' k=>
   have ks:=k.same (l2:=w.heap.size) (h2:=w.heap.size+1) A7
   ⟨(ks.cell (NQ _) A7 A7).trans P.1,(ks.cell (NQ _) A7 A7).trans P.2⟩
  obtain⟨s1,s2⟩:=P;have y:=X.one;have K:=Y.kept I;have u0:w.heap.size<r.heap.size:=A7;have u2:w.heap.size+1<r.heap.size:=A7;rcases N.2 with⟨z,h0⟩|⟨g,cp,b2,z,_,hg,b3,_,_,_⟩
  .simp only[OG] at z;obtain⟨U,_,V⟩:=z;subst U V;have a9:p=0:=A7;subst a9;have W:s=[]:=Pj A7;have n:=nT (w2:=r) (c1:=0) (c3:=0) (tb:=tb) (A1:=none) (A3:=none) O A7 R y (.inl ⟨rfl,rfl,by rw[W];rfl⟩) (.inl ⟨rfl,rfl,by rw[W];rfl⟩) x;obtain rfl:l=[]:=Pj h0;simp only[List.length_nil,Nat.zero_sub] at n s1;have A:=Kz n;clear n W y K x;go_wp2
   go_region_held (λw'=>J4 w' w.heap.size 0 J3/\J4 w' w.heap.size 1 (.func (.func 55) #[] #[])) (exact bC T _ (by repeat (first | exact Xk.refl _ _ _ | exact Xk.au G6 | apply Xk.drew | (refine Xk.setCell ?_ A9 A9 _) | apply Xk.alloc))) ((go_at_call 166;refine (bC A).mono ?_;rintro e t ⟨b,c,base,rfl,a1,v,k⟩;have q:=Kz (Q.o.kept k);obtain⟨⟨_,y0⟩,e0⟩:=q.o.at (i:=0) A7;obtain⟨⟨_,y1⟩,e1⟩:=q.o.at (i:=1) A7;have B:=Kz v;clear v))
   all_goals
    go_wp2
    have C:=NU t (w.heap.size+1) 0 [.slice b m c,.func (.func 55) #[] #[]] (q.o.there (o:=0) (m:=2) (NQ _));have D:K_ w ((t.setCell ⟨w.heap.size+1,0,none⟩ (.slice b m c)).setCell ⟨w.heap.size+1,1,none⟩ (.func (.func 55) #[] #[])):=((I.trans k).setCell A9 _).setCell A9 _;have E:=eG (eG B.o (p:=⟨w.heap.size+1,0,none⟩) D7 (.slice b m c)) (p:=⟨w.heap.size+1,1,none⟩) D7 (.func (.func 55) #[] #[]);exact X_ [.slice b m c,.func (.func 55) #[] #[]] _ results114 rfl C underlying121 rfl Tryz.qG rfl ⟨m,b,c,base,_,S.o,rfl,A7,E,H.o,D⟩
  .simp only[OG] at z;obtain⟨U,_,V⟩:=z;subst U V;have L:∀j u,s[j]? =some u->J4 r g (0+j) u:=λj u h=>by
    obtain⟨b',o',e',_,b0⟩:=K j (NW.1 h).1;simp only[OE,Po,and_true] at e';obtain⟨rfl,rfl⟩:=e';exact b0 j u h
   have M:FR r (some ⟨g,0,none⟩) cap (s.take p):= .inr ⟨g,0,rfl,λj u h=>L j u (by rw[List.getElem?_take] at h;split at h;exact h;cases h)⟩;have i1:(p:Int)<=(cap:Int):=A7;have i2:(p:Int)<=(l.length:Int):=A7;by_cases b1:cap=p
   .have b4:l.length=p:=A7;have n:=nT (w2:=r) (c1:=p) (c3:=0) (tb:=tb) (A1:=some ⟨g,0,none⟩) (A3:=some ⟨g,0,none⟩) O A7 R y (b1 ▸ M) (.inr ⟨g,0,rfl,λj u h=>by rw[List.drop_eq_nil_of_le A7] at h;simp at h⟩) x;rw[show l.length-p=0 by omega] at n;have A:=Kz n;clear n y K L M x;go_wp2
    go_region_held (λw'=>J4 w' w.heap.size 0 (.b g l.length cap)/\J4 w' w.heap.size 1 (.func (.func 55) #[] #[])) (exact bC T _ (by repeat (first | exact Xk.refl _ _ _ | exact Xk.au G6 | apply Xk.drew | (refine Xk.setCell ?_ A9 A9 _) | apply Xk.alloc))) ((go_at_call 166;refine (bC A).mono ?_;rintro e t ⟨b,c,base,rfl,a1,v,k⟩;have q:=Kz (Q.o.kept k);obtain⟨⟨_,y0⟩,e0⟩:=q.o.at (i:=0) A7;obtain⟨⟨_,y1⟩,e1⟩:=q.o.at (i:=1) A7;have B:=Kz v;clear v))
    all_goals
     go_wp2
     have C:=NU t (w.heap.size+1) 0 [.slice b m c,.func (.func 55) #[] #[]] (q.o.there (o:=0) (m:=2) (NQ _));have D:K_ w ((t.setCell ⟨w.heap.size+1,0,none⟩ (.slice b m c)).setCell ⟨w.heap.size+1,1,none⟩ (.func (.func 55) #[] #[])):=((I.trans k).setCell A9 _).setCell A9 _;have E:=eG (eG B.o (p:=⟨w.heap.size+1,0,none⟩) D7 (.slice b m c)) (p:=⟨w.heap.size+1,1,none⟩) D7 (.func (.func 55) #[] #[]);exact X_ [.slice b m c,.func (.func 55) #[] #[]] _ results114 rfl C underlying121 rfl Tryz.qG rfl ⟨m,b,c,base,_,S.o,rfl,A7,E,H.o,D⟩
   .have n:=nT (w2:=r) (c1:=cap) (c3:=cap-p) (tb:=tb) (A1:=some ⟨g,0,none⟩) (A3:=some ⟨g,0+p*1,none⟩) O A7 R y M (.inr ⟨g,0+p*1,rfl,λj u h=>by rw[List.getElem?_drop] at h;have:=L _ u h;rw[show 0+p*1+j=0+ (p+j) by omega];exact this⟩) x;simp only[Nat.mul_one,Ow] at n;have A:=Kz n;clear n y K L M x;go_wp2
    go_region_held (λw'=>J4 w' w.heap.size 0 (.b g l.length cap)/\J4 w' w.heap.size 1 (.func (.func 55) #[] #[])) (exact bC T _ (by repeat (first | exact Xk.refl _ _ _ | exact Xk.au G6 | apply Xk.drew | (refine Xk.setCell ?_ A9 A9 _) | apply Xk.alloc))) ((go_at_call 166;refine (bC A).mono ?_;rintro e t ⟨b,c,base,rfl,a1,v,k⟩;have q:=Kz (Q.o.kept k);obtain⟨⟨_,y0⟩,e0⟩:=q.o.at (i:=0) A7;obtain⟨⟨_,y1⟩,e1⟩:=q.o.at (i:=1) A7;have B:=Kz v;clear v))
    all_goals
     go_wp2
     have C:=NU t (w.heap.size+1) 0 [.slice b m c,.func (.func 55) #[] #[]] (q.o.there (o:=0) (m:=2) (NQ _));have D:K_ w ((t.setCell ⟨w.heap.size+1,0,none⟩ (.slice b m c)).setCell ⟨w.heap.size+1,1,none⟩ (.func (.func 55) #[] #[])):=((I.trans k).setCell A9 _).setCell A9 _;have E:=eG (eG B.o (p:=⟨w.heap.size+1,0,none⟩) D7 (.slice b m c)) (p:=⟨w.heap.size+1,1,none⟩) D7 (.func (.func 55) #[] #[]);exact X_ [.slice b m c,.func (.func 55) #[] #[]] _ results114 rfl C underlying121 rfl Tryz.qG rfl ⟨m,b,c,base,_,S.o,rfl,A7,E,H.o,D⟩
def Zx.fresh(nb:Nat)(n:Ps)(cost:Int)(steps:List Xj)(sa:Pt)(sc:Nat):Zx:=⟨nb,Qz.fresh n,cost,steps,sa,sc,0,J3,J3,[],⟨#[]⟩⟩
def Jz(Kj:List Qq)(ts:List Zx)(n:Ps)(ts':List Zx):Prop:=
 (ts'=ts/\(Q_ Kj n=none\/∃t∈ts,t.r.name=n))\/(∃p new,ts'=ts.take p++new :: ts.drop p/\new.r=Qz.fresh n/\(new.op=0/\new.bq= (⟨#[]⟩,[]))/\(∀t∈ts,t.r.name≠n)/\(Q_ Kj n).isSome=true)
theorem FE{l:List Qz}{p:Nat}{r:Qz}(h:dz l)(e:∀x∈l.take p,aR x.name r.name)(h2:∀x∈l.drop p,aR r.name x.name):dz (l.take p++r :: l.drop p):=by
 have a:dz (l.take p++l.drop p):=by rw[OW];exact h
 unfold dz at a⊢;rw[Ou] at a⊢;refine⟨a.1,Pn.2 ⟨h2,a.2.1⟩,λx c y b=>?_⟩;rcases OL.1 b with rfl | b
 .exact e x c
 .exact a.2.2 x c y b
section
variable {G : bV} {Kj : List Qq} {wz w w' : Pv} {bb : Nat} {a : Pt} {cap : Nat} {rd : Pt} {rn rc : Nat} {mb mx : Nat} {ts : List Zx} {d : Pt} {dc : Nat} {f : Ps -> Pw} {ws : Ps -> List Nat}
theorem BM.insert(h:BM G Kj wz w bb a cap rd rn rc mb mx ts d dc f ws){l:Pv}{n:Ps}{new:Zx}(k:K_ w l)(L:kZ wz.heap.size l new)(M:new.r.name=n)(T:Q_ Kj n=some ⟨new.cost,new.steps⟩)(U:Steps wz new.sa new.steps)(V:∀t∈ts,t.r.name≠n)(W:w.heap.size<=new.tb)(H:new.own=[])(X:new.qs=[]){z:Pt}{A base m q:Nat}(P:w.heap.size<=base)(hm:m=ts.length+1)(I:l.ownsRow base 70 1 (.slice z m A) m ((ts.map Zx.ptr).take q++ .c new.tb :: (ts.map Zx.ptr).drop q))(N:Place (iX ts) n.toList q):
  BM G Kj wz ((l.setCell ⟨bb,3,none⟩ (.slice z m A)).setCell ⟨bb,4,none⟩ (.func (.func 55) #[] #[])) bb a cap rd rn rc mb mx (ts.take q++new :: ts.drop q) z A f ws:=by
 have j:=h.kept k;have zb:=h.row.lt;have v:But (λb=>b=bb) l ((l.setCell ⟨bb,3,none⟩ (.slice z m A)).setCell ⟨bb,4,none⟩ (.func (.func 55) #[] #[])):=But.set (S:=λb=>b=bb) (But.set (S:=λb=>b=bb) (But.au (K_.refl l)) (p:=⟨bb,3,none⟩) rfl _) (p:=⟨bb,4,none⟩) rfl _;have J:(ts.take q++new :: ts.drop q).length=m:=by have:=N.le;rw[ek] at this;simp[List.length_take,List.length_drop];omega
 have B:∀u,u∈ts.take q++new :: ts.drop q↔u=new\/u∈ts:=λu=>by
  rw[N_,OL];constructor
  .rintro (h|h|h)
   .exact .inr (List.mem_of_mem_take h)
   .exact .inl h
   .exact .inr (List.mem_of_mem_drop h)
  .rintro (h|h)
   .exact .inr (.inl h)
   .rw[<-OW q ts] at h;rcases N_.1 h with h|h
    .exact .inl h
    .exact .inr (.inr h)
 have C:∀{b:Nat} {t:TypeId},bf l b t->t≠123->¬b=bb:=λc Y i=>aK c j.row.type Y i
 obtain⟨Z,a0,hN,Q,hf⟩:=j.map;have nm:¬mb=bb:=λi=>gV Q j.row.type i.symm
 have fE:∀u∈ts.take q++new :: ts.drop q,kZ wz.heap.size ((l.setCell ⟨bb,3,none⟩ (.slice z m A)).setCell ⟨bb,4,none⟩ (.func (.func 55) #[] #[])) u:=λu c=>by
  rcases (B u).1 c with rfl|c
  .exact L.but v (C L.row.type A8) (λx e=>C (L.bH e).1 A8)
  .have y:=j.fE u c;exact y.but v (C y.row.type A8) (λx e=>C (y.bH e).1 A8)
 have a1:Fen G ((l.setCell ⟨bb,3,none⟩ (.slice z m A)).setCell ⟨bb,4,none⟩ (.func (.func 55) #[] #[])) bb mb (ts.take q++new :: ts.drop q) f:=by
  have D:=j.oth.but v (λb i=>by rw[i];exact h.oth.nb);refine⟨D.size,D.lt,D.same,D.nb,D.nm,λu c=>?_,D.nf,λa2 hp=>by obtain⟨u,c,g⟩:=h.oth.has a2 hp;exact⟨u,(B u).2 (.inr c),g⟩⟩;rcases (B u).1 c with rfl | c
  .exact⟨h.oth.far W,λx e=>by rw[H] at e;cases e⟩
  .exact h.oth.nt u c
 refine⟨v.kept j.kw (λb i=>by rw[i];exact h.low),(j.row.set _).set _, ?_, ?_, ?_, ?_,bu (j.row.set _).row A7 _, ?_,h.low, ?_,fE, ?_, ?_, ?_, ?_, ?_,⟨Z,a0,hN,dN Q v nm,hf⟩,h.Ci,λK=>v.owns (j.jg K) (λb i=>C (Yz (j.jg K) i) A8),h.zU,λK x e i=>?_,λu c=>by rcases (B u).1 c with rfl | c;rw[X];exact NS _;exact h.qb u c,a1,λx e a3=>h.oth.far (NT P (I.lt x (by rw[J] at e;exact e)).1) a3.2⟩
 .rw[Xx A7,Xx A7];exact j.c0
 .rw[Xx A7,Xx A7];exact j.c1
 .rw[Xx A7,Xx A7];exact j.c2
 .rw[Xx A7,J];exact bu j.row.row A7 _
 .rw[Xx A7,Xx A7];exact j.c5
 .rw[J];have i:(ts.take q++new :: ts.drop q).map Zx.ptr= (ts.map Zx.ptr).take q++ .c new.tb :: (ts.map Zx.ptr).drop q:=by simp[List.map_take,List.map_drop,Zx.ptr]
  rw[i];exact v.owns (gQ I (NT h.kw.size P)) (λb i=>C (Yz I i) A8)
 .intro u c;rcases (B u).1 c with rfl|c
  .rw[M];exact⟨T,U⟩
  .exact h.act u c
 .have i:Qk (ts.take q++new :: ts.drop q)= (Qk ts).take q++new.r :: (Qk ts).drop q:=by simp[Qk,List.map_take,List.map_drop]
  rw[i];refine FE h.asc (λx e=>?_) (λx e=>?_)
  .obtain⟨s,E,rfl⟩:=Oc e;rw[Oo] at E;rw[OA];have F:s<ts.length:=by simp[Qk] at E;omega
   have:=N.before s A7;unfold nameAt at this;rw[iJ F] at this;rw[M];simpa[Qk,aR] using this
  .obtain⟨s,E,rfl⟩:=Oc e;rw[List.length_drop] at E;rw[List.getElem_drop];have F:q+s<ts.length:=by simp[Qk] at E;omega
   have:=N.behind (q+s) A7 (by rw[ek];exact F);unfold nameAt at this;rw[iJ F] at this;rw[M];have e2:(Qk ts)[q+s]=ts[q+s].r:=by simp[Qk]
   rw[e2];rcases dJ n ts[q+s].r.name with g|g|g
   .exact g
   .exact Pg g.symm (V _ (Oa F))
   .unfold aR at g;rw[this] at g;cases g
 .have i:(ts.take q++new :: ts.drop q).map (·.tb)= (ts.map (·.tb)).take q++new.tb :: (ts.map (·.tb)).drop q:=by simp[List.map_take,List.map_drop]
  rw[i];have R:∀x∈ts.map (·.tb),x<new.tb:=λx e=>by
   obtain⟨t,y,rfl⟩:=Oq.1 e;have:=(h.fE t y).row.lt;omega
  have p:((ts.map (·.tb)).take q++ (ts.map (·.tb)).drop q).Nodup:=by rw[OW];exact h.tbs
  rw[List.nodup_append] at p⊢;refine⟨p.1,List.nodup_cons.2 ⟨λe=>?_,p.2.1⟩,λx e a4 O=>?_⟩
  .have:=R _ (List.mem_of_mem_drop e);omega
  .rcases OL.1 O with rfl|O
   .have:=R _ (List.mem_of_mem_take e);omega
   .exact p.2.2 x e a4 O
 .have p:(ts.take q++ts.drop q).Pairwise λt u=>∀x∈t.own,x∉u.own:=by rw[OW];exact h.sep
  rw[Ou] at p⊢;refine⟨p.1,Pn.2 ⟨λu _ x e=>(by rw[H] at e;cases e),p.2.1⟩,λt y u c x e=>?_⟩;rcases OL.1 c with rfl | c
  .rw[H];simp
  .exact p.2.2 t y u c x e
 .intro u c;rcases (B u).1 c with rfl|c
  .rw[H];exact List.nodup_nil
  .exact h.zW u c
 .have h1:=((h.jg K).lt x e).2;rw[J] at i;have h2:=(I.lt x i).1;omega
theorem vH(x:BM G Kj wz w bb a cap rd rn rc mb mx ts d dc f ws)(n:Ps)(hl:ts.length<=90)(a7:Kj.length<=1048576)(L:dI Kj)(W:bN wz a Kj):
  Calls prog 56 #[.c bb,.string n] w λe w'=>e= .returned (.tuple #[])/\∃ts' d' dc',BM G Kj wz w' bb a cap rd rn rc mb mx ts' d' dc' f ws/\Jz Kj ts n ts':=by
 have b0:=x.c0;have b1:=x.c1;have zk:=x.row.lt;have s:=Kz x;clear x;go_enter func56,ntmps56
 go_wp2_with fail
 refine (sV _ a cap Kj n a7 L (W.kept s.o.kw)).mono ?_;rintro e w1 ⟨⟨p,fd,rfl,X,Y⟩,z⟩;have⟨Z,M⟩:=aH X Y;have b9:=(s.o.kept z).row.lt;clear X Y b0 b1;cases fd
 .go_wp2_with fail
  refine bodyPost_ret (results_none rfl _ _ _) rfl ?_;refine⟨rfl,ts,d,dc,s.o.kept z,.inl ⟨rfl,.inl (mX λj m e=>?_)⟩⟩;have A:nameAt Kj j=n.toList:=by unfold nameAt;rw[e]
  have e2:=Place.only L Z.o m A;rw[e2] at m A;have:=M.o.2 ⟨m,A⟩;cases this
 have a0:=(M.o.1 rfl).1;have N:Hid (Q_ Kj n=some ⟨(Kj.getD p Qq.zero).cost,(Kj.getD p Qq.zero).steps⟩):=qQ a0 (toList_inj.1 (M.o.1 rfl).2) (λj m e=>by
  have A:nameAt Kj j=n.toList:=by unfold nameAt;rw[e]
  have:=Place.only L Z.o A7 A;omega)
 go_wp2_with fail
 refine (ru (s.o.kept z) n A7).mono ?_;rintro e B ⟨⟨O,hi,a9,rfl⟩|⟨a1,rfl⟩,k2⟩
 .have a2:ts[O].ptr= .c (ts[O].tb):=rfl;rw[a2];clear a2;go_wp2_with fail
  refine bodyPost_ret (results_none rfl _ _ _) rfl ?_;exact⟨rfl,ts,d,dc,s.o.kept (z.trans k2),.inl ⟨rfl,.inr ⟨ts[O],Oa hi,a9⟩⟩⟩
 have b2:=z.trans k2;have k:=s.o.kept b2;obtain⟨b,o,cs,rfl,P,F,c,h,rfl,Q⟩:=W p a0;obtain⟨y,hy⟩:=ai (Kj.getD p Qq.zero);rw[<-hy] at F Q N;have hb:b<B.heap.size:=NR P k.kw.size;have c1:J4 B b (o+p*3+1) (.a y.cost):=(k.kw.cell P).trans (F 1 _ rfl);have c2:J4 B b (o+p*3+2) (.slice c y.steps.length h):=(k.kw.cell P).trans (F 2 _ rfl);have m0:=k.c0;have m3:=k.c3;have m4:=k.c4;have R:=k.row.lt;have⟨t,T,HA⟩:=fu k a1 Q;have H:Hid (∀w',K_ B w'->J4 w' bb 0 (.slice (some ⟨b,o,none⟩) Kj.length cap)/\J4 w' bb 3 (.slice d ts.length dc)/\J4 w' bb 4 (.func (.func 55) #[] #[])/\J4 w' b (o+p*3+1) (.a y.cost)/\J4 w' b (o+p*3+2) (.slice c y.steps.length h)):=λw' C=>⟨(C.cell R).trans m0,(C.cell R).trans m3,(C.cell R).trans m4,(C.cell hb).trans c1,(C.cell hb).trans c2⟩
 have c5:(p:Int)<(Kj.length:Int):=A7;clear F Q hy k a1 c1 c2 m0 m3 m4;go_upto_region 2 with fail
 refine bn 21 H.o λi KD l=>?_
 refine ax 0 l ?_;refine ax 4 l ?_;refine ax 8 l ?_;refine ax 12 l ?_;refine ae 16 l ?_;refine aj 17 (λK q=>?_);go_simp
 have K3:K_ i (i.alloc (.cells #[.string n,.bool false,.bool false,.string ⟨#[]⟩,.a 0,.a 0,J3,.a y.cost,.slice c y.steps.length h,.a 0,J3,.string ⟨#[]⟩] 75)):=ah _ _;have D:aB (i.alloc (.cells #[.string n,.bool false,.bool false,.string ⟨#[]⟩,.a 0,.a 0,J3,.a y.cost,.slice c y.steps.length h,.a 0,J3,.string ⟨#[]⟩] 75)) i.heap.size 75 12:=aB.made i _ _;have E:(i.alloc (.cells #[.string n,.bool false,.bool false,.string ⟨#[]⟩,.a 0,.a 0,J3,.a y.cost,.slice c y.steps.length h,.a 0,J3,.string ⟨#[]⟩] 75)).rangeAt i.heap.size 0 [.string n,.bool false,.bool false,.string ⟨#[]⟩,.a 0,.a 0,J3,.a y.cost,.slice c y.steps.length h,.a 0,J3,.string ⟨#[]⟩]:=Xz i _ _;have v:=KD.trans K3;refine q.out _ _ (λ_=>H.o _ v) ?_;clear q K l;have zd:=KD.size;obtain⟨r,a3⟩:=ai i.heap.size;have b3:B.heap.size<=r:=A7;rw[<-a3] at D E⊢;generalize b4:i.alloc (.cells #[.string n,.bool false,.bool false,.string ⟨#[]⟩,.a 0,.a 0,J3,.a y.cost,.slice c y.steps.length h,.a 0,J3,.string ⟨#[]⟩] 75)=U at D E v⊢;clear b4 K3 a3;have a4:J4 U r 0 (.string n):=E 0 _ rfl;have V:=Kz (GM U d dc (iX ts) ⟨n,0,[]⟩ (ts.map Zx.ptr) wz.heap.size r (by rw[ek];omega) (uj t.o.asc) (λj m e=>by rw[ek] at m;unfold nameAt at e;rw[iJ m] at e;exact T.o _ (Oa m) (toList_inj.1 e)) (by rw[ek];exact (t.o.kept v).items) (t.o.kept v).packed D.lt a4);rw[ek] at V;have a5:Hid (kZ wz.heap.size U (Zx.fresh r n y.cost y.steps c h)):=⟨D,E,OO _ _ _ _,OO _ _ _ _,by have:=t.o.kw.size;show wz.heap.size<=r;omega⟩;clear a4 E D;try simp only[upP]
 refine aF 18 (λK q=>?_);go_simp
 go_at_call 114
 refine V.o.mono ?_;rintro e w8 ⟨c6,a8,b5,base,b6,hm,rfl,b7,a6,hq,k8⟩;have I:=v.trans k8;have J:=t.o.kept I;obtain⟨⟨_,x3⟩,f3⟩:=J.row.row.at (i:=3) A7;obtain⟨⟨_,x4⟩,f4⟩:=J.row.row.at (i:=4) A7;have c7:=J.row.lt;have HI:=Kz (t.o.insert (n:=n) (new:=Zx.fresh r n y.cost y.steps c h) I (a5.o.but (S:=λ_=>False) (But.au k8) id (λ_ _=>id)) rfl N.o HA.o T.o b3 rfl rfl (by have h1:=v.size;exact NT h1 b7) (by rw[<-ek ts];exact hm) a6 hq);clear a6 J hq hm V a5;refine q.out _ _ (λ_=>H.o _ I) ?_;clear q K;have l:=H.o _ I;try simp only[upP]
 refine ae 19 l ?_;refine ae 20 l ?_;refine aj 21 (λK q=>?_);go_simp
 refine af q (λb8=>Pg rfl b8) ?_;clear q K;refine aG ?_;go_wp2
 go_end0
 exact⟨rfl,_,a8,b5,HI.o,.inr ⟨b6,Zx.fresh r n y.cost y.steps c h,rfl,rfl,⟨rfl,rfl⟩,T.o,by rw[N.o];rfl⟩⟩
end
section
variable {P : Program} {w : Pv}
theorem vU(base:Nat)(t b e:TypeId)(i:TypeInfo)(size:Nat)(a:P.underlying t=some (.slice e))(hi:P.info? e=some i)
  (v:Pw) (n:Nat) (d:List Pw) (f:w.ownsRow base e size v n d) (x:Pt) (c:Nat):
  (Builtin.append_ #[t,t] b #[v,.slice x 0 c]).run P w= .ok v w:=by
 rcases f.2 with⟨rfl,rfl⟩|⟨g,j,k,rfl,_,_,h,_⟩
 .cases x <;> simp[Builtin.append_,run_underlying a,sizeOf,typeInfo,hi,Builtin.lenOf,Builtin.firstCells,loadCells,loadCellsFrom]
 .cases x <;> simp[Builtin.append_,run_underlying a,sizeOf,typeInfo,hi,Builtin.lenOf,Builtin.firstCells,h,storeCells,loadCells,loadCellsFrom]
theorem dY{o:Oper}{a:Act}{K:Act->Pv->Prop}{Q:Exit->Act->Pv->Prop}(s x:Operand)(t:TypeId)
  (y:o.op= .call {callee:= .builtin .append,args:= #[s,x],argTypes:= #[t,t]})
  (base:Nat) (e:TypeId) (i:TypeInfo) (z:Pw) (j:Nat) (A:P.underlying t=some (.slice e)) (hi:P.info? e=some i) (G:i.zero=some z)
  (H:i.size=1) (I:i.bytes=j) (J:z.cells.size=1)
  (v:Pw) (n:Nat) (f:List Pw) (B:a.eval s=v) (k:w.ownsRow base e 1 v n f)
  (m:Pt) (c:Nat) (l:List Ps) (p:a.eval x= .slice m l.length c) (C:Strs w m l)
  (L:n+l.length<=maxLen) (M:(n+l.length)*j<=140737488355328) (N:base<=w.heap.size)
  (h:∀v' w',w'.ownsRow base e 1 v' (n+l.length) (f++l.map Value.string)->w.grownBy w' v.ownBlock->(∀g,v'.ownBlock=some g->v.ownBlock=some g\/w.heap.size<=g)->K (a.put o.dst v') w'):o.wp P a w K Q:=by
 by_cases D:l.length=0
 .have O:=Og.1 D;rw[D] at p;refine Go.Lib.wp_append_run w s x t t y v _ B p v w (vU base t o.type e i 1 A hi v n f k m c) (h v w ?_ ⟨rfl,rfl,rfl,NQ _,λ_ _ _=>rfl⟩ (λg e=>.inl e));rw[O];simpa using k
 .obtain⟨R,S,E,W,_⟩:=C 0 A7;refine wp_append_lies w s x t y base e i z 1 j A hi G H I J A8 v n f B k ⟨R,S,none⟩ l.length c (l.map Value.string) (by rw[p,E]) A9 (λF u b=>?_) (λu b=>by obtain⟨x,_,rfl⟩:=Oq.1 b;rfl) A7 L M N w.heap.size rfl (λg X w' T U d Y=>h _ w' T U (λZ e=>?_))
  .have q:F<l.length:=by have:=(NW.1 b).1;simpa using this
   obtain⟨b',q',r,_,V⟩:=C F q;rw[E] at r;simp only[OE,Po,and_true] at r;obtain⟨rfl,rfl⟩:=r;rw[OI,V];simp[q] at b;simp[List.getD,q,b]
  .simp only[Value.ownBlock,OE] at e;subst e;rcases d with d|d
   .exact .inl d
   .exact .inr (Ot d.symm)
theorem fD{j:Array Oper}{rest:List Oper}{o:Oper}{a:Act}{Q:Exit->Act->Pv->Prop}(hgd:o.guard=none)(s x:Operand)(t:TypeId)
  (k:o.op= .call {callee:= .builtin .append,args:= #[s,x],argTypes:= #[t,t]})
  (base:Nat) (e:TypeId) (i:TypeInfo) (z:Pw) (d:Nat) (m:P.underlying t=some (.slice e)) (hi:P.info? e=some i) (p:i.zero=some z)
  (q:i.size=1) (r:i.bytes=d) (y:z.cells.size=1)
  (v:Pw) (n:Nat) (f:List Pw) (A:a.eval s=v) (B:w.ownsRow base e 1 v n f)
  (h:Pt) (c:Nat) (l:List Ps) (C:a.eval x= .slice h l.length c) (D:Strs w h l)
  (E:n+l.length<=maxLen) (F:(n+l.length)*d<=140737488355328) (G:base<=w.heap.size)
  (H:∀b w',w'.ownsRow base e 1 b (n+l.length) (f++l.map Value.string)->w.grownBy w' v.ownBlock->(∀g,b.ownBlock=some g->v.ownBlock=some g\/w.heap.size<=g)->wpList P j Q rest (a.put o.dst b) w'):wpList P j Q (o :: rest) a w:=
 wpList_plain hgd λ_ I=>dY s x t k base e i z d m hi p q r y v n f A B h c l C D E F G λb w' J K L=>I _ _ (H b w' J K L)
end
section
variable {G : bV} {Kj : List Qq} {wz w w' : Pv} {bb : Nat} {a : Pt} {cap : Nat} {rd : Pt} {rn rc : Nat} {mb mx : Nat} {ts : List Zx} {d : Pt} {dc : Nat} {f : Ps -> Pw} {ws : Ps -> List Nat}
theorem BM.asked(m:BM G Kj wz w bb a cap rd rn rc mb mx ts d dc f ws){i:Nat}{t:Zx}(hi:ts[i]? =some t){w1:Pv}{c:Pw}{l:List Pw}(y:w1.ownsRow wz.heap.size 9 1 c (t.qs.length+l.length) (t.qs++l))(q:w.grownBy w1 t.qv.ownBlock)(z:∀g,c.ownBlock=some g->t.qv.ownBlock=some g\/w.heap.size<=g)(Q:l.length<=5):
  BM G Kj wz (w1.setCell ⟨t.tb,10,none⟩ c) bb a cap rd rn rc mb (mx+1) (ts.set i {t with qv:=c,qs:=t.qs++l}) d dc f ws:=by
 obtain⟨n,rfl⟩:=NW.1 hi;have j:=m.fE _ (Oa n);have k:=m.zW _ (Oa n);have F:But (λb=>b=ts[i].tb\/b∈ts[i].own) w w1:=But.aI q (λb e=>.inr (N_.2 (.inr (Oz.2 e))));have H:But (λb=>b=ts[i].tb\/b∈ts[i].own) w (w1.setCell ⟨ts[i].tb,10,none⟩ c):=But.set F (p:=⟨ts[i].tb,10,none⟩) (.inl rfl) c;have I:∀b,ts[i].qv.ownBlock=some b->ts[i].tb≠b:=λb e=>aK j.row.type (Yz j.ask e) A8
 have A:w1.heap[ts[i].tb]? =w.heap[ts[i].tb]? :=q.block _ j.row.lt (λe=>I _ e.symm rfl);have s:aB w1 ts[i].tb 75 12:=j.row.block A;have J:w1.rangeAt ts[i].tb 0 ts[i].cells:=λK u v=>(Od (w:=w) A).trans (j.rng K u v)
 have B:∀{b:Nat},bf w1 b 9->b≠ts[i].tb:=λv=>aK v s.type A8
 have C:But (λb=>b=ts[i].tb) w1 (w1.setCell ⟨ts[i].tb,10,none⟩ c):=But.set (S:=λb=>b=ts[i].tb) (But.au (K_.refl w1)) (p:=⟨ts[i].tb,10,none⟩) rfl c;have D:w1.ownsRow wz.heap.size 9 1 ts[i].tv ts[i].r.texts.length (ts[i].r.texts.map Value.string):=(But.aI (S:=λb=>ts[i].qv.ownBlock=some b) q (λb e=>e)).owns j.txt (λb e L=>by
  have M:b∈ts[i].tv.ownBlock.toList:=Oz.2 e;have N:b∈ts[i].qv.ownBlock.toList:=Oz.2 L;unfold Zx.own at k;exact (List.nodup_append.1 k).2.2 b M b N rfl)
 refine (m.more (Nat.le_succ mx)).turn n H (λb O=>O) ⟨s.set c,nG J s.row A7 c,C.owns D (λb e=>B (Yz D e)), ?_,j.low⟩ rfl rfl rfl rfl rfl (λx h=>?_) ?_ (by have:=m.qb _ (Oa n);show (ts[i].qs++l).length<=5*(mx+1);rw[OD];omega)
 .have e:({ts[i] with qv:=c,qs:=ts[i].qs++l}:Zx).qs.length=ts[i].qs.length+l.length:=A9;rw[e];exact C.owns y (λb e=>B (Yz y e))
 .unfold Zx.own at h⊢;rcases N_.1 h with h|h
  .exact .inl (N_.2 (.inl h))
  .rcases z x (Oz.1 h) with e|e
   .exact .inl (N_.2 (.inr (Oz.2 e)))
   .exact .inr e
 .unfold Zx.own at k⊢;rw[List.nodup_append] at k⊢;refine⟨k.1, ?_,λx h E P=>?_⟩
  .show (c.ownBlock.toList).Nodup;cases c.ownBlock <;> simp
  .rcases z E (Oz.1 P) with e|e
   .exact k.2.2 x h E (Oz.2 e)
   .have:=(j.txt.lt x (Oz.1 h)).2;omega
end
