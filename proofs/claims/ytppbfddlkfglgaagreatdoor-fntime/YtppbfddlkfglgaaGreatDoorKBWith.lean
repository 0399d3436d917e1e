import Derived.Test.YtppbfddlkfglgaaGreatDoorKBTask
set_option maxRecDepth 100000
set_option maxHeartbeats 25600000
namespace Go.Proofs.YtppbfddlkfglgaaGreatDoor
open Go.RowKit Go.Proofs.Tryz
theorem Tryz.zD :(prog.info? 123).map (λi=>(i.zero,i.size,i.bytes))=some (some (.pointer none),1,8):=C9
theorem Jr(w:QX)(n:Nat)(p:n<=3145728):
  Calls prog 145 #[J6,.b n] w λe w'=>∃v,e=.returned v/\w'.ownsRow w.heap.size 123 1 v 0 []/\K_ w w':=by
 by_cases b:n=0
 .subst b;go_enter func145,ntmps145
  go_wp2
  go_ret
  exact⟨_,rfl,Qt _ _ _ _,K_.refl _⟩
 .obtain⟨c,d,f,h,i⟩:=info_parts Tryz.zD;have a:=λj=>Lib.run_append_nil_zeros (P:=prog) w 101 3 j 123 c _ .i64 .i64 underlying101 Tryz.OM d f n A7 (by rw[h];omega) A7 (by rw[i];omega)
  have q:=grownCap_ge w n 0 123;have k:=grownCap_le_maxLen w n 0 123 D6;have l:=Kz a;clear a;have r:(0:Int)<(n:Int):=A7;go_enter func145,ntmps145
  go_wp2_with (at_builtin;refine Lib.wpList_append_run _ rfl (.tmp 20) (.tmp 21) _ _ rfl _ _ rfl rfl _ _ (l.o _) ?_)
  go_ret
  refine⟨_,rfl,World.ownsRow.drew (Qa w _ _ (Pw _) k ?_),(ai _ _).drew⟩;simp only[Array.size_append,size_zeroCells];have m:(#[Value.pointer none]:Array QY).size=1:=rfl;rw[m,<-Nat.add_mul]
  congr 1
  omega
def Hy(w:QX)(b:Nat)(LL:List (List QY))(P:Nat->QW)(C:Nat->Nat):Prop:=
 b<w.heap.size/\∀i,i<LL.length->w.cell? ⟨b,i,none⟩=some (.slice (P i) (LL.getD i []).length (C i))/\((P i=none/\C i=0/\LL.getD i []=[])\/∃p1 p2,P i=some ⟨p1,p2,none⟩/\∀j u,(LL.getD i [])[j]? =some u->w.cell? ⟨p1,p2+j,none⟩=some u)
theorem Hy.kept{w w':QX}{b:Nat}{a:List (List QY)}{P:Nat->QW}{C:Nat->Nat}(h:Hy w b a P C)(k:K_ w w'):Hy w' b a P C:=
 ⟨Px h.1 k.size,λi c=>⟨by rw[k.cell h.1];exact (h.2 i c).1,by
  rcases (h.2 i c).2 with g|⟨e,f,l,g⟩
  .exact .inl g
  .exact .inr ⟨e,f,l,λj u d=>by rw[k.cell (World.block_lt_of_cell? _ _ (g j u d))];exact g j u d⟩⟩⟩
theorem FW(a:List (List QY))(k:Nat)(h:k<a.length):(a.take (k+1)).flatten= (a.take k).flatten++a.getD k []:=by
 rw[PH h,List.flatten_append];simp[List.getD,h]
theorem IV(a:List (List QY))(k:Nat):(a.take k).flatten.length=sumTo List.length a k:=by
 unfold sumTo;rw[List.length_flatten]
theorem DY(w:QX)(b cap:Nat)(a:List (List QY))(P:Nat->QW)(C:Nat->Nat)(hm:a.length<=3)(S:(a.map List.length).sum<=3145728)(T:∀l∈a,∀u∈l,u.oneCell'=true)(p:Hy w b a P C):
  Calls prog 119 #[.c b a.length cap] w λe w'=>∃v,e=.returned v/\w'.ownsRow w.heap.size 123 1 v a.flatten.length a.flatten/\K_ w w':=by
 go_enter func119,ntmps119
 go_wp2
 go_loop [3,11] (λz i=>∃k:Nat,k<=a.length/\i=.b k/\z=.b (sumTo List.length a k:Nat)) λ_ i=>a.length-(intOf i).toNat
 case atStart=>exact⟨0,Py _,rfl,by rw[E_];rfl⟩
 case round=>
  obtain⟨k,U,rfl,rfl⟩:=hrel;by_cases f:k<a.length
  .have h:=(p.2 k f).1;have G:Hid (sumTo List.length a (k+1)=sumTo List.length a k+(a.getD k []).length):=FJ _ a _ k f;have V:=sumTo_le List.length a (k+1);have a8:sumTo List.length a k+(a.getD k []).length<=3145728:=by have:=G.o;omega
   generalize sumTo List.length a k=H at *;generalize (a.getD k []).length=y at *;generalize P k=pk at *;clear V;go_wp2
   go_round
   case rel=>exact⟨k+1,A7,C8,by rw[G.o];go_num⟩
   case measure=>simp[intOf];omega
  .have A:k=a.length:=A7;subst A;have W:sumTo List.length a a.length<=3145728:=by rw[JG];exact S
   generalize sumTo List.length a a.length=H at *;go_wp2_with fail
   refine (Jr _ H W).mono ?_;rintro e w1 ⟨v1,rfl,c,X⟩;go_wp2
   go_loopw [6,27] (λz i wr=>∃(k:Nat),k<=a.length/\i=.b k/\wr.ownsRow w.heap.size 123 1 z (a.take k).flatten.length (a.take k).flatten/\K_ w wr) λ_ i _=>a.length-(intOf i).toNat
   case atStart=>exact⟨0,Py _,rfl,by simpa using c,X⟩
   case round=>
    obtain⟨k,U,rfl,c,d⟩:=hrel;by_cases f:k<a.length
    .have h:=((p.kept d).2 k f).1;have a9:=(p.kept d).1;have I:=((p.kept d).2 k f).2;have n:=FW a k f;have q:=IV a (k+1);have Y:=sumTo_le List.length a (k+1);rw[n,Qi] at q;have B:=T (a.getD k []) (by simp[List.getD,f]);obtain⟨y,J⟩:=aj (a.getD k []);obtain⟨r,K⟩:=aj ((a.take k).flatten);rw[<-J] at h I q n B;rw[<-K] at c q n;have b0:r.length+y.length<=3145728:=A7;have⟨s,j⟩:=aJ n c;have Z:=d.size;clear q Y n J K;rcases I with⟨D,a0,L⟩|⟨M,N,D,O⟩
     .rw[D,a0,L] at h;rw[L,List.append_nil] at s;rcases c.2 with⟨E,h0⟩|⟨g,cp,b1,E,b2,Q,b3,_,_,_⟩
      .subst E;simp only[List.length_nil] at h;clear c;go_wp2
       go_roundw
       case rel=>exact⟨k+1,A7,C8,by rw[s.o];exact j.o,d⟩
       case measure=>simp[intOf];omega
      .subst E;simp only[List.length_nil] at h;have b4:(r.length:Int)<=(cp:Int):=A7;have b5:=aP Q;clear c Q;go_wp2
       go_roundw
       case rel=>exact⟨k+1,A7,C8,by rw[s.o];exact j.o,d⟩
       case measure=>simp[intOf];omega
     .rw[D] at h;have R:∀t u,y[t]? =some u->wr.cell? ((⟨M,N,none⟩:Addr).add t)=some u:=λt u hu=>by
       rw[Qo];exact O t u hu
      obtain⟨i0,hi,a1,a2,a3⟩:=info_parts Tryz.zD;have⟨a4,a5⟩:=aJ R B;obtain⟨m,F⟩:=aj y.length;rw[<-F] at h;have x:=Kz F;clear R B O c F;go_wp2_with (at_builtin;refine wpList_append_own _ rfl (.tmp 31) (.tmp 32) 101 rfl w.heap.size 123 i0 _ 1 8 underlying101 hi a1 a2 a3 rfl A8 _ r.length r rfl j.o ⟨M,N,none⟩ m (C k) y rfl (by have:=x.o;omega) a4.o a5.o (by have:=x.o;unfold maxLen;omega) (by have:=x.o;omega) Z ?_;intro v' w2 a6 a7 _)
      go_roundw
      case rel=>exact⟨k+1,A7,C8,by rw[s.o,Qi,<-x.o];exact a6,aL d (Pw _) j.o a7⟩
      case measure=>simp[intOf];omega
    .have A:k=a.length:=A7;subst A;rw[Qc] at c;have j:=Kz c;clear c;go_wp2
     go_ret
     exact⟨_,rfl,j.o,d⟩
theorem Tryz.qJ :(prog.info? 104).map (·.size)=some 2:=C9
def Ij(w:QX)(A:QW)(c:Nat)(ys:List QY):Prop:=(A=none/\c=0/\ys=[])\/∃p1 p2,A=some ⟨p1,p2,none⟩/\∀j u,ys[j]? =some u->w.cell? ⟨p1,p2+j,none⟩=some u
theorem n_{w2:QX}{a:List QY}{p n c1 c3 tb:Nat}{A1 A3:QW}(C:a.length=n)(s:n<=1000)(E:p<=n)(D:∀u∈a,u.oneCell'=true)(F:Ij w2 A1 c1 (a.take p))(G:Ij w2 A3 c3 (a.drop p)){m:Nat}(K:m=n+1):
  Calls prog 119 #[.c (w2.heap.size+1) 3 3] ((w2.alloc (.cells #[.h tb] 123)).alloc (.cells #[.slice A1 p c1,.c w2.heap.size 1 1,.slice A3 (n-p) c3] 101)).drew
   λe w'=>∃d f base,e=.returned (.slice d m f)/\w2.heap.size<=base/\w'.ownsRow base 123 1 (.slice d m f) m (a.take p++ .h tb :: a.drop p)/\K_ w2 w':=by
 have h:K_ w2 ((w2.alloc (.cells #[.h tb] 123)).alloc (.cells #[.slice A1 p c1,.c w2.heap.size 1 1,.slice A3 (n-p) c3] 101)).drew:=((ai _ _).alloc _).drew;have H:=DC (w:=w2) (x:=.h tb) (t:=123) (((K_.refl _).alloc (.cells #[.slice A1 p c1,.c w2.heap.size 1 1,.slice A3 (n-p) c3] 101)).drew);have part:∀{A c k},Ij w2 A c k->∀W,K_ w2 W->(A=none/\c=0/\k=[])\/∃l q,A=some ⟨l,q,none⟩/\∀j u,k[j]? =some u->W.cell? ⟨l,q+j,none⟩=some u:=by
  intro A c k y W z;rcases y with y|⟨l,q,e,g⟩
  .exact .inl y
  .exact .inr ⟨l,q,e,λj u b=>by rw[z.cell (World.block_lt_of_cell? _ _ (g j u b))];exact g j u b⟩
 have I:([a.take p,[.h tb],a.drop p]:List (List QY)).flatten=a.take p++ .h tb :: a.drop p:=A9;refine (DY _ (w2.heap.size+1) 3 [a.take p,[.h tb],a.drop p] (λi=>if i=0 then A1 else if i=1 then some ⟨w2.heap.size,0,none⟩ else A3) (λi=>if i=0 then c1 else if i=1 then 1 else c3) A9 (by simp[List.length_take,List.length_drop];omega) ?_ ⟨?_,λi B=>?_⟩).mono ?_
 .intro L s u b;simp only[Qr,Qs,or_false] at s;rcases s with rfl|rfl|rfl
  .exact D u (List.mem_of_mem_take b)
  .simp at b;subst b;rfl
  .exact D u (List.mem_of_mem_drop b)
 .show w2.heap.size+1<((w2.alloc _).alloc _).heap.size;simp
 .match i,B with
  |0,_=>exact⟨by simp[List.length_take,Nat.min_eq_left (C ▸ E)],part F _ h⟩
  |1,_=>exact⟨A9,.inr ⟨w2.heap.size,0,rfl,λj u b=>by
    match j,b with
    |0,b=>simp at b;subst b;exact H
    |j+1,b=>simp at b⟩⟩
  |2,_=>exact⟨by simp[List.length_drop,C],part G _ h⟩
  |i+3,B=>exfalso;simp at B;omega
 .rintro e w' ⟨v,rfl,r,z⟩;rw[I] at r;have J:(a.take p++ .h tb :: a.drop p).length=m:=by rw[Qi,Qn,PW,List.length_drop];omega
  rw[J] at r;obtain⟨d,f,rfl⟩:=aG r;exact⟨d,f,_,rfl,h.size,r,h.trans z⟩
def KO(l:List Qz)(n:QV)(tb:Nat)(xs:List QY)(w w':QX)(e:Ending):Prop:=
 ∃(m:Nat)(a:QW)(cap base p:Nat),m=l.length+1/\e=.returned (.agg #[.slice a m cap,.func (.func 41) #[] #[]])/\w.heap.size<=base/\w'.ownsRow base 123 1 (.slice a m cap) m (xs.take p++ .h tb :: xs.drop p)/\Place l n.toList p/\K_ w w'
theorem Gt{w b:QX}{x y:QY}{t:TypeId}(K:K_ (w.alloc (.cells #[x,y] t)) b):b.cell? ⟨w.heap.size,0,none⟩=some x/\b.cell? ⟨w.heap.size,1,none⟩=some y:=
 ⟨(K.cell A9).trans (X_ w #[x,y] t 0 _ rfl),(K.cell A9).trans (X_ w #[x,y] t 1 _ rfl)⟩
theorem kP.one{w:QX}{a:List QY}{l:List Qz}(h:kP w a l):∀u∈a,u.oneCell'=true:=by
 intro u c;obtain⟨i,b,rfl⟩:=PN c;obtain⟨d,_,_,e,_⟩:=h.2 i (by rw[<-h.1];exact b);rw[PE b] at e;rw[Qv e]
 rfl
abbrev y_ (w:QX)(a:QW)(n cap:Nat):QX:=(w.alloc (.cells #[.slice a n cap,.func (.func 41) #[] #[]] 104)).alloc (.cells #[J6,.nilFunc] 104)
theorem JE(w:QX)(a:QW)(cap:Nat)(l:List Qz)(d:Qz)(s:List QY)(a2 tb:Nat)(hl:l.length<=100)(hr:il l)(a3:∀j,j<l.length->nameAt l j≠d.name.toList)(N:w.ownsRow a2 123 1 (.slice a l.length cap) l.length s)(X:kP w s l)(a4:tb<w.heap.size)(a5:w.cell? ⟨tb,0,none⟩=some (.string d.name)):
  Calls prog 85 #[.agg #[.slice a l.length cap,.func (.func 41) #[] #[]],.h tb] w λe w'=>KO l d.name tb s w w' e:=by
 have Y:=eP N;have O:s.length=l.length:=by have:=N.1;omega
 have F:K_ w (y_ w a l.length cap):=(ai _ _).alloc _;have Z:Hid (∀w',K_ (y_ w a l.length cap) w'->(λw'=>w'.cell? ⟨w.heap.size,0,none⟩=some (.slice a l.length cap)/\w'.cell? ⟨w.heap.size,1,none⟩=some (.func (.func 41) #[] #[])) w'):=λw' k=>Gt (w:=w) (K_.trans (ai _ _) k)
 have a6:Hid (Row (y_ w a l.length cap) (w.heap.size+1) 2):=by have:=Row.made (w.alloc (.cells #[.slice a l.length cap,.func (.func 41) #[] #[]] 104)) #[J6,.nilFunc] 104;show Row _ _ _;simpa using this
 go_enter func85,ntmps85
 go_wp2
 go_region_held (λw'=>w'.cell? ⟨w.heap.size,0,none⟩=some (.slice a l.length cap)/\w'.cell? ⟨w.heap.size,1,none⟩=some (.func (.func 41) #[] #[])) (exact bE Z _ E8) ((first|(go_at_call 41;refine (ym _ tb d.name ((K_.cell (F.trans E8) a4).trans a5)).mono ?_;rintro e w1 ⟨rfl,rfl⟩)|(go_at_call 118;refine (AP _ a cap l d.name A7 hr s (X.kept (F.trans E8)) (Y.kept (F.trans E8))).mono ?_;rintro e r ⟨a7,a0⟩;obtain⟨p,f,rfl,hp,hf⟩:=a7;have G:K_ (y_ w a l.length cap) r:=K_.trans E8 a0;have H:=Kz hp;have HF:=Kz hf;clear hp hf a0)))
 all_goals
  have a8:f=false:=by
   cases f
   .rfl
   .have:=HF.o.1 rfl;exact QK this.2 (a3 p this.1)
  subst a8;have z2:=G.size;simp only[y_,Qh] at z2;have I:=F.trans G;have P:=Z.o r G;have J:=a6.o.kept G;obtain⟨⟨_,x0⟩,g0⟩:=J.at (i:=0) A7;obtain⟨⟨_,x1⟩,g1⟩:=J.at (i:=1) A7;have Q:=Kz J;have R:=H.o.le;clear J;obtain⟨m,x⟩:=aj (l.length+1);have S:=Kz x;have T:Hid (∀w',Xj (w.heap.size+1) (w.heap.size+2) r w'->(λw'=>w'.cell? ⟨w.heap.size,0,none⟩=some (.slice a l.length cap)/\w'.cell? ⟨w.heap.size,1,none⟩=some (.func (.func 41) #[] #[])) w'):=λw' k=>
   have ks:=k.same (l2:=w.heap.size) (h2:=w.heap.size+1) A7
   ⟨(ks.cell (Pw _) A7 A7).trans P.1,(ks.cell (Pw _) A7 A7).trans P.2⟩
  obtain⟨s1,s2⟩:=P;have y:=X.one;have K:=Y.kept I;have u0:w.heap.size<r.heap.size:=A7;have u2:w.heap.size+1<r.heap.size:=A7;rcases N.2 with⟨z,h0⟩|⟨g,cp,b2,z,_,hg,b3,_,_,_⟩
  .simp only[Qm] at z;obtain⟨U,_,V⟩:=z;subst U V;have a9:p=0:=A7;subst a9;have W:s=[]:=QO A7;have n:=n_ (w2:=r) (c1:=0) (c3:=0) (tb:=tb) (A1:=none) (A3:=none) O A7 R y (.inl ⟨rfl,rfl,by rw[W];rfl⟩) (.inl ⟨rfl,rfl,by rw[W];rfl⟩) x;obtain rfl:l=[]:=QO h0;simp only[List.length_nil,Nat.zero_sub] at n s1;have A:=Kz n;clear n W y K x;go_wp2
   go_region_held (λw'=>w'.cell? ⟨w.heap.size,0,none⟩=some J6/\w'.cell? ⟨w.heap.size,1,none⟩=some (.func (.func 41) #[] #[])) (exact bE T _ (by repeat (first|exact Xj.refl _ _ _|exact Xj.ak G7|apply Xj.drew|(refine Xj.setCell ?_ A9 A9 _)|apply Xj.alloc))) ((go_at_call 119;refine (bE A).mono ?_;rintro e t ⟨b,c,base,rfl,a1,v,k⟩;have q:=Kz (Q.o.kept k);obtain⟨⟨_,y0⟩,e0⟩:=q.o.at (i:=0) A7;obtain⟨⟨_,y1⟩,e1⟩:=q.o.at (i:=1) A7;have B:=Kz v;clear v))
   all_goals
    go_wp2
    have C:=PD t (w.heap.size+1) 0 [.slice b m c,.func (.func 41) #[] #[]] (q.o.there (o:=0) (m:=2) (Pw _));have D:K_ w ((t.setCell ⟨w.heap.size+1,0,none⟩ (.slice b m c)).setCell ⟨w.heap.size+1,1,none⟩ (.func (.func 41) #[] #[])):=((I.trans k).setCell A9 _).setCell A9 _;have E:=eQ (eQ B.o (p:=⟨w.heap.size+1,0,none⟩) D9 (.slice b m c)) (p:=⟨w.heap.size+1,1,none⟩) D9 (.func (.func 41) #[] #[]);exact Zx [.slice b m c,.func (.func 41) #[] #[]] _ results85 rfl C underlying104 rfl Tryz.qJ rfl ⟨m,b,c,base,_,S.o,rfl,A7,E,H.o,D⟩
  .simp only[Qm] at z;obtain⟨U,_,V⟩:=z;subst U V;have L:∀j u,s[j]? =some u->r.cell? ⟨g,0+j,none⟩=some u:=λj u h=>by
    obtain⟨b',o',e',_,b0⟩:=K j (PG.1 h).1;simp only[Ql,QS,and_true] at e';obtain⟨rfl,rfl⟩:=e';exact b0 j u h
   have M:Ij r (some ⟨g,0,none⟩) cap (s.take p):=.inr ⟨g,0,rfl,λj u h=>L j u (by rw[List.getElem?_take] at h;split at h;exact h;cases h)⟩;have i1:(p:Int)<=(cap:Int):=A7;have i2:(p:Int)<=(l.length:Int):=A7;by_cases b1:cap=p
   .have b4:l.length=p:=A7;have n:=n_ (w2:=r) (c1:=p) (c3:=0) (tb:=tb) (A1:=some ⟨g,0,none⟩) (A3:=some ⟨g,0,none⟩) O A7 R y (b1 ▸ M) (.inr ⟨g,0,rfl,λj u h=>by rw[List.drop_eq_nil_of_le A7] at h;simp at h⟩) x;rw[show l.length-p=0 by omega] at n;have A:=Kz n;clear n y K L M x;go_wp2
    go_region_held (λw'=>w'.cell? ⟨w.heap.size,0,none⟩=some (.c g l.length cap)/\w'.cell? ⟨w.heap.size,1,none⟩=some (.func (.func 41) #[] #[])) (exact bE T _ (by repeat (first|exact Xj.refl _ _ _|exact Xj.ak G7|apply Xj.drew|(refine Xj.setCell ?_ A9 A9 _)|apply Xj.alloc))) ((go_at_call 119;refine (bE A).mono ?_;rintro e t ⟨b,c,base,rfl,a1,v,k⟩;have q:=Kz (Q.o.kept k);obtain⟨⟨_,y0⟩,e0⟩:=q.o.at (i:=0) A7;obtain⟨⟨_,y1⟩,e1⟩:=q.o.at (i:=1) A7;have B:=Kz v;clear v))
    all_goals
     go_wp2
     have C:=PD t (w.heap.size+1) 0 [.slice b m c,.func (.func 41) #[] #[]] (q.o.there (o:=0) (m:=2) (Pw _));have D:K_ w ((t.setCell ⟨w.heap.size+1,0,none⟩ (.slice b m c)).setCell ⟨w.heap.size+1,1,none⟩ (.func (.func 41) #[] #[])):=((I.trans k).setCell A9 _).setCell A9 _;have E:=eQ (eQ B.o (p:=⟨w.heap.size+1,0,none⟩) D9 (.slice b m c)) (p:=⟨w.heap.size+1,1,none⟩) D9 (.func (.func 41) #[] #[]);exact Zx [.slice b m c,.func (.func 41) #[] #[]] _ results85 rfl C underlying104 rfl Tryz.qJ rfl ⟨m,b,c,base,_,S.o,rfl,A7,E,H.o,D⟩
   .have n:=n_ (w2:=r) (c1:=cap) (c3:=cap-p) (tb:=tb) (A1:=some ⟨g,0,none⟩) (A3:=some ⟨g,0+p*1,none⟩) O A7 R y M (.inr ⟨g,0+p*1,rfl,λj u h=>by rw[List.getElem?_drop] at h;have:=L _ u h;rw[show 0+p*1+j=0+(p+j) by omega];exact this⟩) x;simp only[Nat.mul_one,Qb] at n;have A:=Kz n;clear n y K L M x;go_wp2
    go_region_held (λw'=>w'.cell? ⟨w.heap.size,0,none⟩=some (.c g l.length cap)/\w'.cell? ⟨w.heap.size,1,none⟩=some (.func (.func 41) #[] #[])) (exact bE T _ (by repeat (first|exact Xj.refl _ _ _|exact Xj.ak G7|apply Xj.drew|(refine Xj.setCell ?_ A9 A9 _)|apply Xj.alloc))) ((go_at_call 119;refine (bE A).mono ?_;rintro e t ⟨b,c,base,rfl,a1,v,k⟩;have q:=Kz (Q.o.kept k);obtain⟨⟨_,y0⟩,e0⟩:=q.o.at (i:=0) A7;obtain⟨⟨_,y1⟩,e1⟩:=q.o.at (i:=1) A7;have B:=Kz v;clear v))
    all_goals
     go_wp2
     have C:=PD t (w.heap.size+1) 0 [.slice b m c,.func (.func 41) #[] #[]] (q.o.there (o:=0) (m:=2) (Pw _));have D:K_ w ((t.setCell ⟨w.heap.size+1,0,none⟩ (.slice b m c)).setCell ⟨w.heap.size+1,1,none⟩ (.func (.func 41) #[] #[])):=((I.trans k).setCell A9 _).setCell A9 _;have E:=eQ (eQ B.o (p:=⟨w.heap.size+1,0,none⟩) D9 (.slice b m c)) (p:=⟨w.heap.size+1,1,none⟩) D9 (.func (.func 41) #[] #[]);exact Zx [.slice b m c,.func (.func 41) #[] #[]] _ results85 rfl C underlying104 rfl Tryz.qJ rfl ⟨m,b,c,base,_,S.o,rfl,A7,E,H.o,D⟩
