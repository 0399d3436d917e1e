import Derived.Test.YtjbipapbckajnaaGreatDoorKXWantZ
set_option maxRecDepth 100000
set_option maxHeartbeats 25600000
namespace Go.Proofs.YtjbipapbckajnaaGreatDoor
open Go.RowKit Go.Proofs.Tryz
theorem Tryz.xK :(prog.info? 70).map (λi=>(i.zero,i.size,i.bytes))=some (some (.pointer none),1,8):=F4
theorem Gb(w:NI)(n:Nat)(p:n<=3145728):
  Calls prog 196 #[M0,.a n] w λe w'=>∃v,e= .returned v/\w'.ownsRow w.heap.size 70 1 v 0 []/\K_ w w':=by
 by_cases b:n=0
 .subst b;go_enter func196,ntmps196
  go_wp2
  go_ret
  exact⟨_,rfl,Nc _ _ _ _,K_.refl _⟩
 .obtain⟨c,d,f,h,i⟩:=info_parts Tryz.xK;have a:=λj=>Lib.run_append_nil_zeros (P:=prog) w 118 3 j 70 c _ .i64 .i64 underlying118 Tryz.Lt d f n E5 (by rw[h];omega) E5 (by rw[i];omega)
  have q:=grownCap_ge w n 0 70;have k:=grownCap_le_maxLen w n 0 70 F5;have l:=Kz a;clear a;have r:(0:Int)<(n:Int):=E5;go_enter func196,ntmps196
  go_wp2_with (at_builtin;refine Lib.wpList_append_run _ rfl (.tmp 20) (.tmp 21) _ _ rfl _ _ rfl rfl _ _ (l.o _) ?_)
  go_ret
  refine⟨_,rfl,World.ownsRow.drew (ML w _ _ (Me _) k ?_),(ah _ _).drew⟩;simp only[Array.size_append,size_zeroCells];have m:(#[Value.pointer none]:Array NJ).size=1:=rfl;rw[m,<-Nat.add_mul]
  congr 1
  omega
def EQ(w:NI)(b:Nat)(LL:List (List NJ))(P:Nat->NH)(C:Nat->Nat):Prop:=
 b<w.heap.size/\∀i,i<LL.length->w.cell? ⟨b,i,none⟩=some (.slice (P i) (LL.getD i []).length (C i))/\((P i=none/\C i=0/\LL.getD i []=[])\/∃p1 p2,P i=some ⟨p1,p2,none⟩/\∀j u,(LL.getD i [])[j]? =some u->w.cell? ⟨p1,p2+j,none⟩=some u)
theorem EQ.kept{w w':NI}{b:Nat}{a:List (List NJ)}{P:Nat->NH}{C:Nat->Nat}(h:EQ w b a P C)(k:K_ w w'):EQ w' b a P C:=
 ⟨Mf h.1 k.size,λi c=>⟨by rw[k.cell h.1];exact (h.2 i c).1,by
  rcases (h.2 i c).2 with g|⟨e,f,l,g⟩
  .exact .inl g
  .exact .inr ⟨e,f,l,λj u d=>by rw[k.cell (World.block_lt_of_cell? _ _ (g j u d))];exact g j u d⟩⟩⟩
theorem En(a:List (List NJ))(k:Nat)(h:k<a.length):(a.take (k+1)).flatten= (a.take k).flatten++a.getD k []:=by
 rw[Ml h,List.flatten_append];simp[List.getD,h]
theorem GK(a:List (List NJ))(k:Nat):(a.take k).flatten.length=sumTo List.length a k:=by
 unfold sumTo;rw[List.length_flatten]
theorem BZ(w:NI)(b S:Nat)(a:List (List NJ))(P:Nat->NH)(C:Nat->Nat)(hm:a.length<=3)(T:(a.map List.length).sum<=3145728)(U:∀l∈a,∀u∈l,u.oneCell'=true)(p:EQ w b a P C):
  Calls prog 166 #[.b b a.length S] w λe w'=>∃v,e= .returned v/\w'.ownsRow w.heap.size 70 1 v a.flatten.length a.flatten/\K_ w w':=by
 go_enter func166,ntmps166
 go_wp2
 go_loop [3,11] (λz i=>∃k:Nat,k<=a.length/\i= .a k/\z= .a (sumTo List.length a k:Nat)) (λ_ i=>a.length-(intOf i).toNat)
 case atStart=>exact⟨0,Mg _,rfl,by rw[Di];rfl⟩
 case round=>
  obtain⟨k,V,rfl,rfl⟩:=hrel;by_cases f:k<a.length
  .have h:=(p.2 k f).1;have G:Hid (sumTo List.length a (k+1)=sumTo List.length a k+ (a.getD k []).length):=DK _ a _ k f;have W:=sumTo_le List.length a (k+1);have a8:sumTo List.length a k+ (a.getD k []).length<=3145728:=by have:=G.o;omega
   generalize sumTo List.length a k=H at *;generalize (a.getD k []).length=y at *;generalize P k=pk at *;clear W;go_wp2
   go_round
   case rel=>exact⟨k+1,E5,F3,by rw[G.o];go_num⟩
   case measure=>simp[intOf];omega
  .have A:k=a.length:=E5;subst A;have X:sumTo List.length a a.length<=3145728:=by rw[FM];exact T
   generalize sumTo List.length a a.length=H at *;go_wp2_with fail
   refine (Gb _ H X).mono ?_;rintro e w1 ⟨v1,rfl,c,Y⟩;go_wp2
   go_loopw [6,27] (λz i wr=>∃(k:Nat),k<=a.length/\i= .a k/\wr.ownsRow w.heap.size 70 1 z (a.take k).flatten.length (a.take k).flatten/\K_ w wr) (λ_ i _=>a.length-(intOf i).toNat)
   case atStart=>exact⟨0,Mg _,rfl,by simpa using c,Y⟩
   case round=>
    obtain⟨k,V,rfl,c,d⟩:=hrel;by_cases f:k<a.length
    .have h:=((p.kept d).2 k f).1;have a9:=(p.kept d).1;have I:=((p.kept d).2 k f).2;have n:=En a k f;have q:=GK a (k+1);have Z:=sumTo_le List.length a (k+1);rw[n,MU] at q;have B:=U (a.getD k []) (by simp[List.getD,f]);obtain⟨y,J⟩:=aj (a.getD k []);obtain⟨r,K⟩:=aj ((a.take k).flatten);rw[<-J] at h I q n B;rw[<-K] at c q n;have b0:r.length+y.length<=3145728:=E5;have⟨s,j⟩:=aH n c;have a0:=d.size;clear q Z n J K;rcases I with⟨D,e2,L⟩|⟨M,N,D,O⟩
     .rw[D,e2,L] at h;rw[L,List.append_nil] at s;rcases c.2 with⟨E,h0⟩|⟨g,cp,b1,E,b2,Q,b3,_,_,_⟩
      .subst E;simp only[List.length_nil] at h;clear c;go_wp2
       go_roundw
       case rel=>exact⟨k+1,E5,F3,by rw[s.o];exact j.o,d⟩
       case measure=>simp[intOf];omega
      .subst E;simp only[List.length_nil] at h;have b4:(r.length:Int)<=(cp:Int):=E5;have b5:=aN Q;clear c Q;go_wp2
       go_roundw
       case rel=>exact⟨k+1,E5,F3,by rw[s.o];exact j.o,d⟩
       case measure=>simp[intOf];omega
     .rw[D] at h;have R:∀t u,y[t]? =some u->wr.cell? ((⟨M,N,none⟩:Addr).add t)=some u:=λt u hu=>by
       rw[MZ];exact O t u hu
      obtain⟨i0,hi,a1,a2,a3⟩:=info_parts Tryz.xK;have⟨a4,a5⟩:=aH R B;obtain⟨m,F⟩:=aj y.length;rw[<-F] at h;have x:=Kz F;clear R B O c F;go_wp2_with (at_builtin;refine wpList_append_own _ rfl (.tmp 31) (.tmp 32) 118 rfl w.heap.size 70 i0 _ 1 8 underlying118 hi a1 a2 a3 rfl E8 _ r.length r rfl j.o ⟨M,N,none⟩ m (C k) y rfl (by have:=x.o;omega) a4.o a5.o (by have:=x.o;unfold maxLen;omega) (by have:=x.o;omega) a0 ?_;intro v' w2 a6 a7 _)
      go_roundw
      case rel=>exact⟨k+1,E5,F3,by rw[s.o,MU,<-x.o];exact a6,aK d (Me _) j.o a7⟩
      case measure=>simp[intOf];omega
    .have A:k=a.length:=E5;subst A;rw[MN] at c;have j:=Kz c;clear c;go_wp2
     go_ret
     exact⟨_,rfl,j.o,d⟩
theorem Tryz.pg :(prog.info? 121).map (·.size)=some 2:=F4
def EJ(w:NI)(A:NH)(c:Nat)(ys:List NJ):Prop:=(A=none/\c=0/\ys=[])\/∃p1 p2,A=some ⟨p1,p2,none⟩/\∀j u,ys[j]? =some u->w.cell? ⟨p1,p2+j,none⟩=some u
theorem ni{w2:NI}{a:List NJ}{p n c1 c3 tb:Nat}{A1 A3:NH}(C:a.length=n)(s:n<=1000)(F:p<=n)(D:∀u∈a,u.oneCell'=true)(G:EJ w2 A1 c1 (a.take p))(H:EJ w2 A3 c3 (a.drop p)){m:Nat}(L:m=n+1):
  Calls prog 166 #[.b (w2.heap.size+1) 3 3] ((w2.alloc (.cells #[.c tb] 70)).alloc (.cells #[.slice A1 p c1,.b w2.heap.size 1 1,.slice A3 (n-p) c3] 118)).drew
   λe w'=>∃d f base,e= .returned (.slice d m f)/\w2.heap.size<=base/\w'.ownsRow base 70 1 (.slice d m f) m (a.take p++ .c tb :: a.drop p)/\K_ w2 w':=by
 have h:K_ w2 ((w2.alloc (.cells #[.c tb] 70)).alloc (.cells #[.slice A1 p c1,.b w2.heap.size 1 1,.slice A3 (n-p) c3] 118)).drew:=((ah _ _).alloc _).drew;have I:=vw (w:=w2) (x:= .c tb) (t:=70) (((K_.refl _).alloc (.cells #[.slice A1 p c1,.b w2.heap.size 1 1,.slice A3 (n-p) c3] 118)).drew);have E:∀{A c k},EJ w2 A c k->∀W,K_ w2 W->(A=none/\c=0/\k=[])\/∃l q,A=some ⟨l,q,none⟩/\∀j u,k[j]? =some u->W.cell? ⟨l,q+j,none⟩=some u:=by
  intro A c k y W z;rcases y with y|⟨l,q,e,g⟩
  .exact .inl y
  .exact .inr ⟨l,q,e,λj u b=>by rw[z.cell (World.block_lt_of_cell? _ _ (g j u b))];exact g j u b⟩
 have J:([a.take p,[.c tb],a.drop p]:List (List NJ)).flatten=a.take p++ .c tb :: a.drop p:=E9;refine (BZ _ (w2.heap.size+1) 3 [a.take p,[.c tb],a.drop p] (λi=>if i=0 then A1 else if i=1 then some ⟨w2.heap.size,0,none⟩ else A3) (λi=>if i=0 then c1 else if i=1 then 1 else c3) E9 (by simp[List.length_take,List.length_drop];omega) ?_ ⟨?_,λi B=>?_⟩).mono ?_
 .intro M s u b;simp only[Na,Nb,or_false] at s;rcases s with rfl|rfl|rfl
  .exact D u (List.mem_of_mem_take b)
  .simp at b;subst b;rfl
  .exact D u (List.mem_of_mem_drop b)
 .show w2.heap.size+1<((w2.alloc _).alloc _).heap.size;simp
 .match i,B with
  | 0,_=>exact⟨by simp[List.length_take,Nat.min_eq_left (C ▸ F)],E G _ h⟩
  | 1,_=>exact⟨E9,.inr ⟨w2.heap.size,0,rfl,λj u b=>by
    match j,b with
    | 0,b=>simp at b;subst b;exact I
    | j+1,b=>simp at b⟩⟩
  | 2,_=>exact⟨by simp[List.length_drop,C],E H _ h⟩
  | i+3,B=>exfalso;simp at B;omega
 .rintro e w' ⟨v,rfl,r,z⟩;rw[J] at r;have K:(a.take p++ .c tb :: a.drop p).length=m:=by rw[MU,MX,MG,List.length_drop];omega
  rw[K] at r;obtain⟨d,f,rfl⟩:=ay r;exact⟨d,f,_,rfl,h.size,r,h.trans z⟩
def H_(l:List Qz)(n:NG)(tb:Nat)(xs:List NJ)(w w':NI)(e:Ending):Prop:=
 ∃(m:Nat) (a:NH) (cap base p:Nat),m=l.length+1/\e= .returned (.agg #[.slice a m cap,.func (.func 55) #[] #[]])/\w.heap.size<=base/\w'.ownsRow base 70 1 (.slice a m cap) m (xs.take p++ .c tb :: xs.drop p)/\Place l n.toList p/\K_ w w'
theorem vQ{w a:NI}{x y:NJ}{t:TypeId}(K:K_ (w.alloc (.cells #[x,y] t)) a):a.cell? ⟨w.heap.size,0,none⟩=some x/\a.cell? ⟨w.heap.size,1,none⟩=some y:=
 ⟨(K.cell E9).trans (X_ w #[x,y] t 0 _ rfl),(K.cell E9).trans (X_ w #[x,y] t 1 _ rfl)⟩
theorem jN.one{w:NI}{a:List NJ}{l:List Qz}(h:jN w a l):∀u∈a,u.oneCell'=true:=by
 intro u c;obtain⟨i,b,rfl⟩:=Ms c;obtain⟨d,_,_,e,_⟩:=h.2 i (by rw[<-h.1];exact b);rw[Mj b] at e;rw[Ng e]
 rfl
abbrev w_ (w:NI) (a:NH) (n cap:Nat):NI:=(w.alloc (.cells #[.slice a n cap,.func (.func 55) #[] #[]] 121)).alloc (.cells #[M0,.nilFunc] 121)
theorem FH(w:NI)(a:NH)(b:Nat)(l:List Qz)(d:Qz)(s:List NJ)(a3 tb:Nat)(hl:l.length<=100)(hr:fP l)(a4:∀j,j<l.length->nameAt l j≠d.name.toList)(N:w.ownsRow a3 70 1 (.slice a l.length b) l.length s)(X:jN w s l)(a5:tb<w.heap.size)(a6:w.cell? ⟨tb,0,none⟩=some (.string d.name)):
  Calls prog 114 #[.agg #[.slice a l.length b,.func (.func 55) #[] #[]],.pointer (some ⟨tb,0,none⟩)] w fun e w'=>H_ l d.name tb s w w' e:=by
 have Y:=dY N;have O:s.length=l.length:=by have:=N.1;omega
 have F:K_ w (w_ w a l.length b):=(ah _ _).alloc _;have Z:Hid (∀w',K_ (w_ w a l.length b) w'->(fun w'=>w'.cell? ⟨w.heap.size,0,none⟩=some (.slice a l.length b)/\w'.cell? ⟨w.heap.size,1,none⟩=some (.func (.func 55) #[] #[])) w'):=fun w' k=>vQ (w:=w) (K_.trans (ah _ _) k)
 have a7:Hid (Row (w_ w a l.length b) (w.heap.size+1) 2):=by have:=Row.made (w.alloc (.cells #[.slice a l.length b,.func (.func 55) #[] #[]] 121)) #[.slice none 0 0,.nilFunc] 121;show Row _ _ _;simpa using this
 go_enter func114,ntmps114
 go_wp2
 go_region_held (fun w'=>w'.cell? ⟨w.heap.size,0,none⟩=some (.slice a l.length b)/\w'.cell? ⟨w.heap.size,1,none⟩=some (.func (.func 55) #[] #[])) (exact bf Z _ (by repeat (first | (with_reducible exact K_.refl _) | (with_reducible assumption) | apply K_.drew))) ((first | (go_at_call 55;refine (vD _ tb d.name ((K_.cell (F.trans (by repeat (first | (with_reducible exact K_.refl _) | (with_reducible assumption) | apply K_.drew))) a5).trans a6)).mono ?_;rintro e w1 ⟨rfl,rfl⟩) | (go_at_call 165;refine (yQ _ a b l d.name (by omega) hr s (X.kept (F.trans (by repeat (first | (with_reducible exact K_.refl _) | (with_reducible assumption) | apply K_.drew)))) (Y.kept (F.trans (by repeat (first | (with_reducible exact K_.refl _) | (with_reducible assumption) | apply K_.drew))))).mono ?_;rintro e r ⟨a8,a0⟩;obtain⟨p,a1,rfl,hp,hf⟩:=a8;have G:K_ (w_ w a l.length b) r:=K_.trans (by repeat (first | (with_reducible exact K_.refl _) | (with_reducible assumption) | apply K_.drew)) a0;have H:=Kz hp;have HF:=Kz hf;clear hp hf a0)))
 all_goals
  have a9:a1=false:=by
   cases a1
   ·rfl
   ·have:=HF.o.1 rfl;exact Nv this.2 (a4 p this.1)
  subst a9;have z2:=G.size;simp only[w_,MS] at z2;have I:=F.trans G;have P:=Z.o r G;have J:=a7.o.kept G;obtain⟨⟨_,x0⟩,g0⟩:=J.at (i:=0) (by omega);obtain⟨⟨_,x1⟩,g1⟩:=J.at (i:=1) (by omega);have Q:=Kz J;have R:=H.o.le;clear J;obtain⟨m,x⟩:=aj (l.length+1);have S:=Kz x;have T:Hid (∀w',Xj (w.heap.size+1) (w.heap.size+2) r w'->(fun w'=>w'.cell? ⟨w.heap.size,0,none⟩=some (.slice a l.length b)/\w'.cell? ⟨w.heap.size,1,none⟩=some (.func (.func 55) #[] #[])) w'):=fun w' k=>
   have ks:=k.same (l2:=w.heap.size) (h2:=w.heap.size+1) (by omega)
   ⟨(ks.cell (Me _) (by omega) (by omega)).trans P.1,(ks.cell (Me _) (by omega) (by omega)).trans P.2⟩
  obtain⟨s1,s2⟩:=P;have y:=X.one;have K:=Y.kept I;have u0:w.heap.size<r.heap.size:=by omega
  have u2:w.heap.size+1<r.heap.size:=by omega
  rcases N.2 with⟨z,h0⟩|⟨g,cp,b3,z,_,hg,b4,_,_,_⟩
  ·simp only[MW] at z;obtain⟨U,_,V⟩:=z;subst U V;have b0:p=0:=by omega
   subst b0;have W:s=[]:=Nz (by omega);have n:=ni (w2:=r) (c1:=0) (c3:=0) (tb:=tb) (A1:=none) (A3:=none) O (by omega) R y (.inl ⟨rfl,rfl,by rw[W];rfl⟩) (.inl ⟨rfl,rfl,by rw[W];rfl⟩) x;obtain rfl:l=[]:=Nz h0;simp only[List.length_nil,Nat.zero_sub] at n s1;have A:=Kz n;clear n W y K x;go_wp2
   go_region_held (fun w'=>w'.cell? ⟨w.heap.size,0,none⟩=some (.slice none 0 0)/\w'.cell? ⟨w.heap.size,1,none⟩=some (.func (.func 55) #[] #[])) (exact bf T _ (by repeat (first | exact Xj.refl _ _ _ | exact Xj.ax (by assumption) | apply Xj.drew | (refine Xj.setCell ?_ (by simp) (by simp) _) | apply Xj.alloc))) ((go_at_call 166;refine (bf A).mono ?_;rintro e t ⟨c,f,base,rfl,a2,v,k⟩;have q:=Kz (Q.o.kept k);obtain⟨⟨_,y0⟩,e0⟩:=q.o.at (i:=0) (by omega);obtain⟨⟨_,y1⟩,e1⟩:=q.o.at (i:=1) (by omega);have B:=Kz v;clear v))
   all_goals
    go_wp2
    have C:=Mi t (w.heap.size+1) 0 [.slice c m f,.func (.func 55) #[] #[]] (q.o.there (o:=0) (m:=2) (Me _));have D:K_ w ((t.setCell ⟨w.heap.size+1,0,none⟩ (.slice c m f)).setCell ⟨w.heap.size+1,1,none⟩ (.func (.func 55) #[] #[])):=((I.trans k).setCell (by simp) _).setCell (by simp) _;have E:=bG (bG B.o (p:=⟨w.heap.size+1,0,none⟩) (by simp <;> omega) (.slice c m f)) (p:=⟨w.heap.size+1,1,none⟩) (by simp <;> omega) (.func (.func 55) #[] #[]);exact Zx [.slice c m f,.func (.func 55) #[] #[]] _ results114 rfl C underlying121 rfl Tryz.pg rfl ⟨m,c,f,base,_,S.o,rfl,by omega,E,H.o,D⟩
  ·simp only[MW] at z;obtain⟨U,_,V⟩:=z;subst U V;have L:∀j u,s[j]? =some u->r.cell? ⟨g,0+j,none⟩=some u:=fun j u h=>by
    obtain⟨b',o',e',_,b1⟩:=K j (Mk.1 h).1;simp only[MV,ND,and_true] at e';obtain⟨rfl,rfl⟩:=e';exact b1 j u h
   have M:EJ r (some ⟨g,0,none⟩) b (s.take p):= .inr ⟨g,0,rfl,fun j u h=>L j u (by rw[List.getElem?_take] at h;split at h;exact h;cases h)⟩;have i1:(p:Int)<=(b:Int):=by omega
   have i2:(p:Int)<=(l.length:Int):=by omega
   by_cases b2:b=p
   ·have b5:l.length=p:=by omega
    have n:=ni (w2:=r) (c1:=p) (c3:=0) (tb:=tb) (A1:=some ⟨g,0,none⟩) (A3:=some ⟨g,0,none⟩) O (by omega) R y (b2 ▸ M) (.inr ⟨g,0,rfl,fun j u h=>by rw[List.drop_eq_nil_of_le (by omega)] at h;simp at h⟩) x;rw[show l.length-p=0 by omega] at n;have A:=Kz n;clear n y K L M x;go_wp2
    go_region_held (fun w'=>w'.cell? ⟨w.heap.size,0,none⟩=some (.slice (some ⟨g,0,none⟩) l.length b)/\w'.cell? ⟨w.heap.size,1,none⟩=some (.func (.func 55) #[] #[])) (exact bf T _ (by repeat (first | exact Xj.refl _ _ _ | exact Xj.ax (by assumption) | apply Xj.drew | (refine Xj.setCell ?_ (by simp) (by simp) _) | apply Xj.alloc))) ((go_at_call 166;refine (bf A).mono ?_;rintro e t ⟨c,f,base,rfl,a2,v,k⟩;have q:=Kz (Q.o.kept k);obtain⟨⟨_,y0⟩,e0⟩:=q.o.at (i:=0) (by omega);obtain⟨⟨_,y1⟩,e1⟩:=q.o.at (i:=1) (by omega);have B:=Kz v;clear v))
    all_goals
     go_wp2
     have C:=Mi t (w.heap.size+1) 0 [.slice c m f,.func (.func 55) #[] #[]] (q.o.there (o:=0) (m:=2) (Me _));have D:K_ w ((t.setCell ⟨w.heap.size+1,0,none⟩ (.slice c m f)).setCell ⟨w.heap.size+1,1,none⟩ (.func (.func 55) #[] #[])):=((I.trans k).setCell (by simp) _).setCell (by simp) _;have E:=bG (bG B.o (p:=⟨w.heap.size+1,0,none⟩) (by simp <;> omega) (.slice c m f)) (p:=⟨w.heap.size+1,1,none⟩) (by simp <;> omega) (.func (.func 55) #[] #[]);exact Zx [.slice c m f,.func (.func 55) #[] #[]] _ results114 rfl C underlying121 rfl Tryz.pg rfl ⟨m,c,f,base,_,S.o,rfl,by omega,E,H.o,D⟩
   ·have n:=ni (w2:=r) (c1:=b) (c3:=b-p) (tb:=tb) (A1:=some ⟨g,0,none⟩) (A3:=some ⟨g,0+p*1,none⟩) O (by omega) R y M (.inr ⟨g,0+p*1,rfl,fun j u h=>by rw[List.getElem?_drop] at h;have:=L _ u h;rw[show 0+p*1+j=0+ (p+j) by omega];exact this⟩) x;simp only[Nat.mul_one,MM] at n;have A:=Kz n;clear n y K L M x;go_wp2
    go_region_held (fun w'=>w'.cell? ⟨w.heap.size,0,none⟩=some (.slice (some ⟨g,0,none⟩) l.length b)/\w'.cell? ⟨w.heap.size,1,none⟩=some (.func (.func 55) #[] #[])) (exact bf T _ (by repeat (first | exact Xj.refl _ _ _ | exact Xj.ax (by assumption) | apply Xj.drew | (refine Xj.setCell ?_ (by simp) (by simp) _) | apply Xj.alloc))) ((go_at_call 166;refine (bf A).mono ?_;rintro e t ⟨c,f,base,rfl,a2,v,k⟩;have q:=Kz (Q.o.kept k);obtain⟨⟨_,y0⟩,e0⟩:=q.o.at (i:=0) (by omega);obtain⟨⟨_,y1⟩,e1⟩:=q.o.at (i:=1) (by omega);have B:=Kz v;clear v))
    all_goals
     go_wp2
     have C:=Mi t (w.heap.size+1) 0 [.slice c m f,.func (.func 55) #[] #[]] (q.o.there (o:=0) (m:=2) (Me _));have D:K_ w ((t.setCell ⟨w.heap.size+1,0,none⟩ (.slice c m f)).setCell ⟨w.heap.size+1,1,none⟩ (.func (.func 55) #[] #[])):=((I.trans k).setCell (by simp) _).setCell (by simp) _;have E:=bG (bG B.o (p:=⟨w.heap.size+1,0,none⟩) (by simp <;> omega) (.slice c m f)) (p:=⟨w.heap.size+1,1,none⟩) (by simp <;> omega) (.func (.func 55) #[] #[]);exact Zx [.slice c m f,.func (.func 55) #[] #[]] _ results114 rfl C underlying121 rfl Tryz.pg rfl ⟨m,c,f,base,_,S.o,rfl,by omega,E,H.o,D⟩
def Zk.fresh(nb:Nat)(n:NG)(cost:Int)(steps:List Xq)(sa:NH)(sc:Nat):Zk:=⟨nb,Q_.fresh n,cost,steps,sa,sc,0,M0,M0,[],⟨#[]⟩⟩
def Ii(Kq:List Qz)(ts:List Zk)(n:NG)(ts':List Zk):Prop:=
 (ts'=ts/\(Kk Kq n=none\/∃t∈ts,t.r.name=n))\/(∃p new,ts'=ts.take p++new :: ts.drop p/\new.r=Q_.fresh n/\(new.op=0/\new.bq= (⟨#[]⟩,[]))/\(∀t∈ts,t.r.name≠n)/\(Kk Kq n).isSome=true)
theorem Ew{l:List Q_}{p:Nat}{r:Q_}(h:df l)(e:∀x∈l.take p,aR x.name r.name)(h2:∀x∈l.drop p,aR r.name x.name):df (l.take p++r :: l.drop p):=by
 have a:df (l.take p++l.drop p):=by rw[Nk];exact h
 unfold df at a⊢;rw[MK] at a⊢;refine⟨a.1,NC.2 ⟨h2,a.2.1⟩,λx c y b=>?_⟩;rcases Na.1 b with rfl | b
 .exact e x c
 .exact a.2.2 x c y b
section
variable {G : bQ} {Kq : List Qz} {wz w w' : NI} {bb : Nat} {a : NH} {cap : Nat} {rd : NH} {rn rc : Nat} {mb mx : Nat} {ts : List Zk} {d : NH} {dc : Nat} {f : NG -> NJ} {ws : NG -> List Nat}
theorem BM.insert(h:BM G Kq wz w bb a cap rd rn rc mb mx ts d dc f ws){l:NI}{n:NG}{new:Zk}(k:K_ w l)(L:kr wz.heap.size l new)(M:new.r.name=n)(T:Kk Kq n=some ⟨new.cost,new.steps⟩)(U:Steps wz new.sa new.steps)(V:∀t∈ts,t.r.name≠n)(W:w.heap.size<=new.tb)(H:new.own=[])(X:new.qs=[]){z:NH}{A base m q:Nat}(P:w.heap.size<=base)(hm:m=ts.length+1)(I:l.ownsRow base 70 1 (.slice z m A) m ((ts.map Zk.ptr).take q++ .c new.tb :: (ts.map Zk.ptr).drop q))(N:Place (iP ts) n.toList q):
  BM G Kq wz ((l.setCell ⟨bb,3,none⟩ (.slice z m A)).setCell ⟨bb,4,none⟩ (.func (.func 55) #[] #[])) bb a cap rd rn rc mb mx (ts.take q++new :: ts.drop q) z A f ws:=by
 have j:=h.kept k;have zb:=h.row.lt;have v:But (λb=>b=bb) l ((l.setCell ⟨bb,3,none⟩ (.slice z m A)).setCell ⟨bb,4,none⟩ (.func (.func 55) #[] #[])):=But.set (S:=λb=>b=bb) (But.set (S:=λb=>b=bb) (But.ax (K_.refl l)) (p:=⟨bb,3,none⟩) rfl _) (p:=⟨bb,4,none⟩) rfl _;have J:(ts.take q++new :: ts.drop q).length=m:=by have:=N.le;rw[dW] at this;simp[List.length_take,List.length_drop];omega
 have B:∀u,u∈ts.take q++new :: ts.drop q↔u=new\/u∈ts:=λu=>by
  rw[Mo,Na];constructor
  .rintro (h|h|h)
   .exact .inr (List.mem_of_mem_take h)
   .exact .inl h
   .exact .inr (List.mem_of_mem_drop h)
  .rintro (h|h)
   .exact .inr (.inl h)
   .rw[<-Nk q ts] at h;rcases Mo.1 h with h|h
    .exact .inl h
    .exact .inr (.inr h)
 have C:∀{b:Nat} {t:TypeId},bn l b t->t≠123->¬b=bb:=λc Y i=>aS c j.row.type Y i
 obtain⟨Z,a0,hN,Q,hf⟩:=j.map;have nm:¬mb=bb:=λi=>iq Q j.row.type i.symm
 have fu:∀u∈ts.take q++new :: ts.drop q,kr wz.heap.size ((l.setCell ⟨bb,3,none⟩ (.slice z m A)).setCell ⟨bb,4,none⟩ (.func (.func 55) #[] #[])) u:=λu c=>by
  rcases (B u).1 c with rfl|c
  .exact L.but v (C L.row.type E8) (λx e=>C (L.fq e).1 E8)
  .have y:=j.fu u c;exact y.but v (C y.row.type E8) (λx e=>C (y.fq e).1 E8)
 have a1:Fen G ((l.setCell ⟨bb,3,none⟩ (.slice z m A)).setCell ⟨bb,4,none⟩ (.func (.func 55) #[] #[])) bb mb (ts.take q++new :: ts.drop q) f:=by
  have D:=j.oth.but v (λb i=>by rw[i];exact h.oth.nb);refine⟨D.size,D.lt,D.same,D.nb,D.nm,λu c=>?_,D.nf,λa2 hp=>by obtain⟨u,c,g⟩:=h.oth.has a2 hp;exact⟨u,(B u).2 (.inr c),g⟩⟩;rcases (B u).1 c with rfl | c
  .exact⟨h.oth.far W,λx e=>by rw[H] at e;cases e⟩
  .exact h.oth.nt u c
 refine⟨v.kept j.kw (λb i=>by rw[i];exact h.low),(j.row.set _).set _, ?_, ?_, ?_, ?_,aW (j.row.set _).row E5 _, ?_,h.low, ?_,fu, ?_, ?_, ?_, ?_, ?_,⟨Z,a0,hN,iH Q v nm,hf⟩,h.Bb,λK=>v.owns (j.iW K) (λb i=>C (Y_ (j.iW K) i) E8),h.yG,λK x e i=>?_,λu c=>by rcases (B u).1 c with rfl | c;rw[X];exact Mg _;exact h.qb u c,a1,λx e a3=>h.oth.far (Mh P (I.lt x (by rw[J] at e;exact e)).1) a3.2⟩
 .rw[Xk E5,Xk E5];exact j.c0
 .rw[Xk E5,Xk E5];exact j.c1
 .rw[Xk E5,Xk E5];exact j.c2
 .rw[Xk E5,J];exact aW j.row.row E5 _
 .rw[Xk E5,Xk E5];exact j.c5
 .rw[J];have i:(ts.take q++new :: ts.drop q).map Zk.ptr= (ts.map Zk.ptr).take q++ .c new.tb :: (ts.map Zk.ptr).drop q:=by simp[List.map_take,List.map_drop,Zk.ptr]
  rw[i];exact v.owns (dM I (Mh h.kw.size P)) (λb i=>C (Y_ I i) E8)
 .intro u c;rcases (B u).1 c with rfl|c
  .rw[M];exact⟨T,U⟩
  .exact h.act u c
 .have i:Qj (ts.take q++new :: ts.drop q)= (Qj ts).take q++new.r :: (Qj ts).drop q:=by simp[Qj,List.map_take,List.map_drop]
  rw[i];refine Ew h.asc (λx e=>?_) (λx e=>?_)
  .obtain⟨s,E,rfl⟩:=Ms e;rw[MG] at E;rw[MQ];have F:s<ts.length:=by simp[Qj] at E;omega
   have:=N.before s E5;unfold nameAt at this;rw[iB F] at this;rw[M];simpa[Qj,aR] using this
  .obtain⟨s,E,rfl⟩:=Ms e;rw[List.length_drop] at E;rw[List.getElem_drop];have F:q+s<ts.length:=by simp[Qj] at E;omega
   have:=N.behind (q+s) E5 (by rw[dW];exact F);unfold nameAt at this;rw[iB F] at this;rw[M];have e2:(Qj ts)[q+s]=ts[q+s].r:=by simp[Qj]
   rw[e2];rcases eT n ts[q+s].r.name with g|g|g
   .exact g
   .exact Nv g.symm (V _ (Mq F))
   .unfold aR at g;rw[this] at g;cases g
 .have i:(ts.take q++new :: ts.drop q).map (·.tb)= (ts.map (·.tb)).take q++new.tb :: (ts.map (·.tb)).drop q:=by simp[List.map_take,List.map_drop]
  rw[i];have R:∀x∈ts.map (·.tb),x<new.tb:=λx e=>by
   obtain⟨t,y,rfl⟩:=MH.1 e;have:=(h.fu t y).row.lt;omega
  have p:((ts.map (·.tb)).take q++ (ts.map (·.tb)).drop q).Nodup:=by rw[Nk];exact h.tbs
  rw[List.nodup_append] at p⊢;refine⟨p.1,List.nodup_cons.2 ⟨λe=>?_,p.2.1⟩,λx e a4 O=>?_⟩
  .have:=R _ (List.mem_of_mem_drop e);omega
  .rcases Na.1 O with rfl|O
   .have:=R _ (List.mem_of_mem_take e);omega
   .exact p.2.2 x e a4 O
 .have p:(ts.take q++ts.drop q).Pairwise λt u=>∀x∈t.own,x∉u.own:=by rw[Nk];exact h.sep
  rw[MK] at p⊢;refine⟨p.1,NC.2 ⟨λu _ x e=>(by rw[H] at e;cases e),p.2.1⟩,λt y u c x e=>?_⟩;rcases Na.1 c with rfl | c
  .rw[H];simp
  .exact p.2.2 t y u c x e
 .intro u c;rcases (B u).1 c with rfl|c
  .rw[H];exact List.nodup_nil
  .exact h.yI u c
 .have h1:=((h.iW K).lt x e).2;rw[J] at i;have h2:=(I.lt x i).1;omega
theorem uE(x:BM G Kq wz w bb a cap rd rn rc mb mx ts d dc f ws)(n:NG)(hl:ts.length<=90)(a7:Kq.length<=1048576)(L:fP Kq)(W:bT wz a Kq):
  Calls prog 56 #[.c bb,.string n] w λe w'=>e= .returned (.tuple #[])/\∃ts' d' dc',BM G Kq wz w' bb a cap rd rn rc mb mx ts' d' dc' f ws/\Ii Kq ts n ts':=by
 have b0:=x.c0;have b1:=x.c1;have zk:=x.row.lt;have s:=Kz x;clear x;go_enter func56,ntmps56
 go_wp2_with fail
 refine (Ib _ a cap Kq n a7 L (W.kept s.o.kw)).mono ?_;rintro e w1 ⟨⟨p,fd,rfl,X,Y⟩,z⟩;have⟨Z,M⟩:=aH X Y;have b9:=(s.o.kept z).row.lt;clear X Y b0 b1;cases fd
 .go_wp2_with fail
  refine bodyPost_ret (results_none rfl _ _ _) rfl ?_;refine⟨rfl,ts,d,dc,s.o.kept z,.inl ⟨rfl,.inl (yO λj m e=>?_)⟩⟩;have A:nameAt Kq j=n.toList:=by unfold nameAt;rw[e]
  have e2:=Place.only L Z.o m A;rw[e2] at m A;have:=M.o.2 ⟨m,A⟩;cases this
 have a0:=(M.o.1 rfl).1;have N:Hid (Kk Kq n=some ⟨(Kq.getD p Qz.zero).cost,(Kq.getD p Qz.zero).steps⟩):=AC a0 (toList_inj.1 (M.o.1 rfl).2) (λj m e=>by
  have A:nameAt Kq j=n.toList:=by unfold nameAt;rw[e]
  have:=Place.only L Z.o E5 A;omega)
 go_wp2_with fail
 refine (qg (s.o.kept z) n E5).mono ?_;rintro e B ⟨⟨O,hi,a9,rfl⟩|⟨a1,rfl⟩,k2⟩
 .have a2:ts[O].ptr= .c (ts[O].tb):=rfl;rw[a2];clear a2;go_wp2_with fail
  refine bodyPost_ret (results_none rfl _ _ _) rfl ?_;exact⟨rfl,ts,d,dc,s.o.kept (z.trans k2),.inl ⟨rfl,.inr ⟨ts[O],Mq hi,a9⟩⟩⟩
 have b2:=z.trans k2;have k:=s.o.kept b2;obtain⟨b,o,cs,rfl,P,F,c,h,rfl,Q⟩:=W p a0;obtain⟨y,hy⟩:=aj (Kq.getD p Qz.zero);rw[<-hy] at F Q N;have hb:b<B.heap.size:=Mf P k.kw.size;have c1:B.cell? ⟨b,o+p*3+1,none⟩=some (.a y.cost):=(k.kw.cell P).trans (F 1 _ rfl);have c2:B.cell? ⟨b,o+p*3+2,none⟩=some (.slice c y.steps.length h):=(k.kw.cell P).trans (F 2 _ rfl);have m0:=k.c0;have m3:=k.c3;have m4:=k.c4;have R:=k.row.lt;have⟨t,T,HA⟩:=dF k a1 Q;have H:Hid (∀w',K_ B w'->w'.cell? ⟨bb,0,none⟩=some (.slice (some ⟨b,o,none⟩) Kq.length cap)/\w'.cell? ⟨bb,3,none⟩=some (.slice d ts.length dc)/\w'.cell? ⟨bb,4,none⟩=some (.func (.func 55) #[] #[])/\w'.cell? ⟨b,o+p*3+1,none⟩=some (.a y.cost)/\w'.cell? ⟨b,o+p*3+2,none⟩=some (.slice c y.steps.length h)):=λw' C=>⟨(C.cell R).trans m0,(C.cell R).trans m3,(C.cell R).trans m4,(C.cell hb).trans c1,(C.cell hb).trans c2⟩
 have c5:(p:Int)<(Kq.length:Int):=E5;clear F Q hy k a1 c1 c2 m0 m3 m4;go_upto_region 2 with fail
 refine bC 21 H.o λi KD l=>?_
 refine au 0 l ?_;refine au 4 l ?_;refine au 8 l ?_;refine au 12 l ?_;refine ae 16 l ?_;refine ai 17 (λK q=>?_);go_simp
 have K3:K_ i (i.alloc (.cells #[.string n,.bool false,.bool false,.string ⟨#[]⟩,.a 0,.a 0,M0,.a y.cost,.slice c y.steps.length h,.a 0,M0,.string ⟨#[]⟩] 75)):=ah _ _;have D:aD (i.alloc (.cells #[.string n,.bool false,.bool false,.string ⟨#[]⟩,.a 0,.a 0,M0,.a y.cost,.slice c y.steps.length h,.a 0,M0,.string ⟨#[]⟩] 75)) i.heap.size 75 12:=aD.made i _ _;have E:(i.alloc (.cells #[.string n,.bool false,.bool false,.string ⟨#[]⟩,.a 0,.a 0,M0,.a y.cost,.slice c y.steps.length h,.a 0,M0,.string ⟨#[]⟩] 75)).rangeAt i.heap.size 0 [.string n,.bool false,.bool false,.string ⟨#[]⟩,.a 0,.a 0,M0,.a y.cost,.slice c y.steps.length h,.a 0,M0,.string ⟨#[]⟩]:=X_ i _ _;have v:=KD.trans K3;refine q.out _ _ (λ_=>H.o _ v) ?_;clear q K l;have zd:=KD.size;obtain⟨r,a3⟩:=aj i.heap.size;have b3:B.heap.size<=r:=E5;rw[<-a3] at D E⊢;generalize b4:i.alloc (.cells #[.string n,.bool false,.bool false,.string ⟨#[]⟩,.a 0,.a 0,M0,.a y.cost,.slice c y.steps.length h,.a 0,M0,.string ⟨#[]⟩] 75)=U at D E v⊢;clear b4 K3 a3;have a4:U.cell? ⟨r,0,none⟩=some (.string n):=E 0 _ rfl;have V:=Kz (FH U d dc (iP ts) ⟨n,0,[]⟩ (ts.map Zk.ptr) wz.heap.size r (by rw[dW];omega) (sD t.o.asc) (λj m e=>by rw[dW] at m;unfold nameAt at e;rw[iB m] at e;exact T.o _ (Mq m) (toList_inj.1 e)) (by rw[dW];exact (t.o.kept v).items) (t.o.kept v).packed D.lt a4);rw[dW] at V;have a5:Hid (kr wz.heap.size U (Zk.fresh r n y.cost y.steps c h)):=⟨D,E,Nc _ _ _ _,Nc _ _ _ _,by have:=t.o.kw.size;show wz.heap.size<=r;omega⟩;clear a4 E D;try simp only[upP]
 refine aG 18 (λK q=>?_);go_simp
 go_at_call 114
 refine V.o.mono ?_;rintro e w8 ⟨c6,a8,b5,base,b6,hm,rfl,b7,a6,hq,k8⟩;have I:=v.trans k8;have J:=t.o.kept I;obtain⟨⟨_,x3⟩,f3⟩:=J.row.row.at (i:=3) E5;obtain⟨⟨_,x4⟩,f4⟩:=J.row.row.at (i:=4) E5;have c7:=J.row.lt;have HI:=Kz (t.o.insert (n:=n) (new:=Zk.fresh r n y.cost y.steps c h) I (a5.o.but (S:=λ_=>False) (But.ax k8) id (λ_ _=>id)) rfl N.o HA.o T.o b3 rfl rfl (by have h1:=v.size;exact Mh h1 b7) (by rw[<-dW ts];exact hm) a6 hq);clear a6 J hq hm V a5;refine q.out _ _ (λ_=>H.o _ I) ?_;clear q K;have l:=H.o _ I;try simp only[upP]
 refine ae 19 l ?_;refine ae 20 l ?_;refine ai 21 (λK q=>?_);go_simp
 refine af q (λb8=>Nv rfl b8) ?_;clear q K;refine aF ?_;go_wp2
 go_end0
 exact⟨rfl,_,a8,b5,HI.o,.inr ⟨b6,Zk.fresh r n y.cost y.steps c h,rfl,rfl,⟨rfl,rfl⟩,T.o,by rw[N.o];rfl⟩⟩
end
section
variable {P : Program} {w : NI}
theorem uQ(base:Nat)(t b e:TypeId)(i:TypeInfo)(size:Nat)(a:P.underlying t=some (.slice e))(hi:P.info? e=some i)
  (v:NJ) (n:Nat) (d:List NJ) (f:w.ownsRow base e size v n d) (x:NH) (c:Nat):
  (Builtin.append_ #[t,t] b #[v,.slice x 0 c]).run P w= .ok v w:=by
 rcases f.2 with⟨rfl,rfl⟩|⟨g,j,k,rfl,_,_,h,_⟩
 .cases x <;> simp[Builtin.append_,run_underlying a,sizeOf,typeInfo,hi,Builtin.lenOf,Builtin.firstCells,loadCells,loadCellsFrom]
 .cases x <;> simp[Builtin.append_,run_underlying a,sizeOf,typeInfo,hi,Builtin.lenOf,Builtin.firstCells,h,storeCells,loadCells,loadCellsFrom]
theorem fe{o:Oper}{a:Act}{K:Act->NI->Prop}{Q:Exit->Act->NI->Prop}(s x:Operand)(t:TypeId)
  (y:o.op= .call {callee:= .builtin .append,args:= #[s,x],argTypes:= #[t,t]})
  (base:Nat) (e:TypeId) (i:TypeInfo) (z:NJ) (j:Nat) (A:P.underlying t=some (.slice e)) (hi:P.info? e=some i) (G:i.zero=some z)
  (H:i.size=1) (I:i.bytes=j) (J:z.cells.size=1)
  (v:NJ) (n:Nat) (f:List NJ) (B:a.eval s=v) (k:w.ownsRow base e 1 v n f)
  (m:NH) (c:Nat) (l:List NG) (p:a.eval x= .slice m l.length c) (C:Strs w m l)
  (L:n+l.length<=maxLen) (M:(n+l.length)*j<=140737488355328) (N:base<=w.heap.size)
  (h:∀v' w',w'.ownsRow base e 1 v' (n+l.length) (f++l.map Value.string)->w.grownBy w' v.ownBlock->(∀g,v'.ownBlock=some g->v.ownBlock=some g\/w.heap.size<=g)->K (a.put o.dst v') w'):o.wp P a w K Q:=by
 by_cases D:l.length=0
 .have O:=Mw.1 D;rw[D] at p;refine Go.Lib.wp_append_run w s x t t y v _ B p v w (uQ base t o.type e i 1 A hi v n f k m c) (h v w ?_ ⟨rfl,rfl,rfl,Me _,λ_ _ _=>rfl⟩ (λg e=>.inl e));rw[O];simpa using k
 .obtain⟨R,S,E,W,_⟩:=C 0 E5;refine wp_append_lies w s x t y base e i z 1 j A hi G H I J E8 v n f B k ⟨R,S,none⟩ l.length c (l.map Value.string) (by rw[p,E]) E9 (λF u b=>?_) (λu b=>by obtain⟨x,_,rfl⟩:=MH.1 b;rfl) E5 L M N w.heap.size rfl (λg X w' T U d Y=>h _ w' T U (λZ e=>?_))
  .have q:F<l.length:=by have:=(Mk.1 b).1;simpa using this
   obtain⟨b',q',r,_,V⟩:=C F q;rw[E] at r;simp only[MV,ND,and_true] at r;obtain⟨rfl,rfl⟩:=r;rw[MZ,V];simp[q] at b;simp[List.getD,q,b]
  .simp only[Value.ownBlock,MV] at e;subst e;rcases d with d|d
   .exact .inl d
   .exact .inr (MI d.symm)
theorem eZ{j:Array Oper}{rest:List Oper}{o:Oper}{a:Act}{Q:Exit->Act->NI->Prop}(hgd:o.guard=none)(s x:Operand)(t:TypeId)
  (k:o.op= .call {callee:= .builtin .append,args:= #[s,x],argTypes:= #[t,t]})
  (base:Nat) (e:TypeId) (i:TypeInfo) (z:NJ) (d:Nat) (m:P.underlying t=some (.slice e)) (hi:P.info? e=some i) (p:i.zero=some z)
  (q:i.size=1) (r:i.bytes=d) (y:z.cells.size=1)
  (v:NJ) (n:Nat) (f:List NJ) (A:a.eval s=v) (B:w.ownsRow base e 1 v n f)
  (h:NH) (c:Nat) (l:List NG) (C:a.eval x= .slice h l.length c) (D:Strs w h l)
  (E:n+l.length<=maxLen) (F:(n+l.length)*d<=140737488355328) (G:base<=w.heap.size)
  (H:∀b w',w'.ownsRow base e 1 b (n+l.length) (f++l.map Value.string)->w.grownBy w' v.ownBlock->(∀g,b.ownBlock=some g->v.ownBlock=some g\/w.heap.size<=g)->wpList P j Q rest (a.put o.dst b) w'):wpList P j Q (o :: rest) a w:=
 wpList_plain hgd λ_ I=>fe s x t k base e i z d m hi p q r y v n f A B h c l C D E F G λb w' J K L=>I _ _ (H b w' J K L)
end
section
variable {G : bQ} {Kq : List Qz} {wz w w' : NI} {bb : Nat} {a : NH} {cap : Nat} {rd : NH} {rn rc : Nat} {mb mx : Nat} {ts : List Zk} {d : NH} {dc : Nat} {f : NG -> NJ} {ws : NG -> List Nat}
theorem BM.asked(m:BM G Kq wz w bb a cap rd rn rc mb mx ts d dc f ws){i:Nat}{t:Zk}(hi:ts[i]? =some t){w1:NI}{c:NJ}{l:List NJ}(y:w1.ownsRow wz.heap.size 9 1 c (t.qs.length+l.length) (t.qs++l))(q:w.grownBy w1 t.qv.ownBlock)(z:∀g,c.ownBlock=some g->t.qv.ownBlock=some g\/w.heap.size<=g)(Q:l.length<=5):
  BM G Kq wz (w1.setCell ⟨t.tb,10,none⟩ c) bb a cap rd rn rc mb (mx+1) (ts.set i {t with qv:=c,qs:=t.qs++l}) d dc f ws:=by
 obtain⟨n,rfl⟩:=Mk.1 hi;have j:=m.fu _ (Mq n);have k:=m.yI _ (Mq n);have F:But (λb=>b=ts[i].tb\/b∈ts[i].own) w w1:=But.aI q (λb e=>.inr (Mo.2 (.inr (MP.2 e))));have H:But (λb=>b=ts[i].tb\/b∈ts[i].own) w (w1.setCell ⟨ts[i].tb,10,none⟩ c):=But.set F (p:=⟨ts[i].tb,10,none⟩) (.inl rfl) c;have I:∀b,ts[i].qv.ownBlock=some b->ts[i].tb≠b:=λb e=>aS j.row.type (Y_ j.ask e) E8
 have A:w1.heap[ts[i].tb]? =w.heap[ts[i].tb]? :=q.block _ j.row.lt (λe=>I _ e.symm rfl);have s:aD w1 ts[i].tb 75 12:=j.row.block A;have J:w1.rangeAt ts[i].tb 0 ts[i].cells:=λK u v=>(Mt (w:=w) A).trans (j.rng K u v)
 have B:∀{b:Nat},bn w1 b 9->b≠ts[i].tb:=λv=>aS v s.type E8
 have C:But (λb=>b=ts[i].tb) w1 (w1.setCell ⟨ts[i].tb,10,none⟩ c):=But.set (S:=λb=>b=ts[i].tb) (But.ax (K_.refl w1)) (p:=⟨ts[i].tb,10,none⟩) rfl c;have D:w1.ownsRow wz.heap.size 9 1 ts[i].tv ts[i].r.texts.length (ts[i].r.texts.map Value.string):=(But.aI (S:=λb=>ts[i].qv.ownBlock=some b) q (λb e=>e)).owns j.txt (λb e L=>by
  have M:b∈ts[i].tv.ownBlock.toList:=MP.2 e;have N:b∈ts[i].qv.ownBlock.toList:=MP.2 L;unfold Zk.own at k;exact (List.nodup_append.1 k).2.2 b M b N rfl)
 refine (m.more (Nat.le_succ mx)).turn n H (λb O=>O) ⟨s.set c,mJ J s.row E5 c,C.owns D (λb e=>B (Y_ D e)), ?_,j.low⟩ rfl rfl rfl rfl rfl (λx h=>?_) ?_ (by have:=m.qb _ (Mq n);show (ts[i].qs++l).length<=5*(mx+1);rw[MU];omega)
 .have e:({ts[i] with qv:=c,qs:=ts[i].qs++l}:Zk).qs.length=ts[i].qs.length+l.length:=E9;rw[e];exact C.owns y (λb e=>B (Y_ y e))
 .unfold Zk.own at h⊢;rcases Mo.1 h with h|h
  .exact .inl (Mo.2 (.inl h))
  .rcases z x (MP.1 h) with e|e
   .exact .inl (Mo.2 (.inr (MP.2 e)))
   .exact .inr e
 .unfold Zk.own at k⊢;rw[List.nodup_append] at k⊢;refine⟨k.1, ?_,λx h E P=>?_⟩
  .show (c.ownBlock.toList).Nodup;cases c.ownBlock <;> simp
  .rcases z E (MP.1 P) with e|e
   .exact k.2.2 x h E (MP.2 e)
   .have:=(j.txt.lt x (MP.1 h)).2;omega
end
