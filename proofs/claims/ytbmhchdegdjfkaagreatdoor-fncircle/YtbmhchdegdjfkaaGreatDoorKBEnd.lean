import Derived.Test.YtbmhchdegdjfkaaGreatDoorKBTask
set_option maxRecDepth 100000
set_option maxHeartbeats 25600000
namespace Go.Proofs.YtbmhchdegdjfkaaGreatDoor
open Go.RowKit Go.Proofs.Tryz
theorem Tryz.v_ :(prog.info? 103).map (fun i=>(i.zero,i.size,i.bytes))=some (some (.pointer none),1,8):=by kernel_rfl
theorem Ez(w:LP)(n:Nat)(p:n<=3145728):
  Calls prog 182 #[.slice none 0 0,.int .i64 n] w fun e w'=>∃v,e= .returned v/\w'.ownsRow w.heap.size 103 1 v 0 []/\K_ w w':=by
 by_cases b:n=0
 ·subst b;go_enter func182,ntmps182
  go_wp2
  go_ret
  exact⟨_,rfl,Ld _ _ _ _,K_.refl _⟩
 ·obtain⟨c,d,f,h,i⟩:=info_parts Tryz.v_;have a:=fun j=>Lib.run_append_nil_zeros (P:=prog) w 102 3 j 103 c _ .i64 .i64 underlying102 Tryz.Ju d f n (by omega) (by rw[h];omega) (by omega) (by rw[i];omega)
  have q:=grownCap_ge w n 0 103;have k:=grownCap_le_maxLen w n 0 103 (by unfold maxLen;omega);have l:=Kz a;clear a;have r:(0:Int)<(n:Int):=by omega
  go_enter func182,ntmps182
  go_wp2_with (at_builtin;refine Lib.wpList_append_run _ rfl (.tmp 20) (.tmp 21) _ _ rfl _ _ rfl rfl _ _ (l.o _) ?_)
  go_ret
  refine⟨_,rfl,World.ownsRow.drew (KG w _ _ (JP _) k ?_),(ag _ _).drew⟩;simp only[Array.size_append,size_zeroCells];have m:(#[Value.pointer none]:Array LQ).size=1:=rfl;rw[m,<-Nat.add_mul]
  congr 1
  omega
def Dn(w:LP)(b:Nat)(LL:List (List LQ))(P:Nat->LM)(C:Nat->Nat):Prop:=
 b<w.heap.size/\∀i,i<LL.length->w.cell? ⟨b,i,none⟩=some (.slice (P i) (LL.getD i []).length (C i))/\((P i=none/\C i=0/\LL.getD i []=[])\/∃p1 p2,P i=some ⟨p1,p2,none⟩/\∀j u,(LL.getD i [])[j]? =some u->w.cell? ⟨p1,p2+j,none⟩=some u)
theorem Dn.kept{w w':LP}{b:Nat}{a:List (List LQ)}{P:Nat->LM}{C:Nat->Nat}(h:Dn w b a P C)(k:K_ w w'):Dn w' b a P C:=
 ⟨JQ h.1 k.size,fun i c=>⟨by rw[k.cell h.1];exact (h.2 i c).1,by
  rcases (h.2 i c).2 with g|⟨e,f,l,g⟩
  ·exact .inl g
  ·exact .inr ⟨e,f,l,fun j u d=>by rw[k.cell (World.block_lt_of_cell? _ _ (g j u d))];exact g j u d⟩⟩⟩
theorem CQ(a:List (List LQ))(k:Nat)(h:k<a.length):(a.take (k+1)).flatten= (a.take k).flatten++a.getD k []:=by
 rw[JX h,List.flatten_append];simp[List.getD,h]
theorem EW(a:List (List LQ))(k:Nat):(a.take k).flatten.length=sumTo List.length a k:=by
 unfold sumTo;rw[List.length_flatten]
theorem AC(w:LP)(b S:Nat)(a:List (List LQ))(P:Nat->LM)(C:Nat->Nat)(hm:a.length<=3)(T:(a.map List.length).sum<=3145728)(U:∀l∈a,∀u∈l,u.oneCell'=true)(p:Dn w b a P C):
  Calls prog 165 #[.slice (some ⟨b,0,none⟩) a.length S] w fun e w'=>∃v,e= .returned v/\w'.ownsRow w.heap.size 103 1 v a.flatten.length a.flatten/\K_ w w':=by
 go_enter func165,ntmps165
 go_wp2
 go_loop [3,11] (fun A i=>∃k:Nat,k<=a.length/\i= .int .i64 k/\A= .int .i64 (sumTo List.length a k:Nat)) (fun _ i=>a.length-(intOf i).toNat)
 case atStart=>exact⟨0,JR _,rfl,by rw[BK];rfl⟩
 case round=>
  obtain⟨k,V,rfl,rfl⟩:=hrel;by_cases f:k<a.length
  ·have h:=(p.2 k f).1;have H:Hid (sumTo List.length a (k+1)=sumTo List.length a k+ (a.getD k []).length):=Cj _ a _ k f;have W:=sumTo_le List.length a (k+1);have a8:sumTo List.length a k+ (a.getD k []).length<=3145728:=by have:=H.o;omega
   generalize sumTo List.length a k=z at *;generalize (a.getD k []).length=y at *;generalize P k=pk at *;clear W;go_wp2
   go_round
   case rel=>exact⟨k+1,by omega,by go_num,by rw[H.o];go_num⟩
   case measure=>simp[intOf];omega
  ·have B:k=a.length:=by omega
   subst B;have X:sumTo List.length a a.length<=3145728:=by rw[Ef];exact T
   generalize sumTo List.length a a.length=z at *;go_wp2_with fail
   refine (Ez _ z X).mono ?_;rintro e w1 ⟨v1,rfl,c,Y⟩;go_wp2
   go_loopw [6,27] (fun A i wr=>∃(k:Nat),k<=a.length/\i= .int .i64 k/\wr.ownsRow w.heap.size 103 1 A (a.take k).flatten.length (a.take k).flatten/\K_ w wr) (fun _ i _=>a.length-(intOf i).toNat)
   case atStart=>exact⟨0,JR _,rfl,by simpa using c,Y⟩
   case round=>
    obtain⟨k,V,rfl,c,d⟩:=hrel;by_cases f:k<a.length
    ·have h:=((p.kept d).2 k f).1;have a9:=(p.kept d).1;have I:=((p.kept d).2 k f).2;have n:=CQ a k f;have q:=EW a (k+1);have Z:=sumTo_le List.length a (k+1);rw[n,KS] at q;have D:=U (a.getD k []) (by simp[List.getD,f]);obtain⟨y,J⟩:=aj (a.getD k []);obtain⟨r,K⟩:=aj ((a.take k).flatten);rw[<-J] at h I q n D;rw[<-K] at c q n;have b0:r.length+y.length<=3145728:=by omega
     have⟨s,j⟩:=aH n c;have a0:=d.size;clear q Z n J K;rcases I with⟨E,e2,L⟩|⟨M,N,E,O⟩
     ·rw[E,e2,L] at h;rw[L,List.append_nil] at s;rcases c.2 with⟨F,h0⟩|⟨g,cp,b1,F,b2,Q,b3,_,_,_⟩
      ·subst F;simp only[List.length_nil] at h;clear c;go_wp2
       go_roundw
       case rel=>exact⟨k+1,by omega,by go_num,by rw[s.o];exact j.o,d⟩
       case measure=>simp[intOf];omega
      ·subst F;simp only[List.length_nil] at h;have b4:(r.length:Int)<=(cp:Int):=by omega
       have b5:=aO Q;clear c Q;go_wp2
       go_roundw
       case rel=>exact⟨k+1,by omega,by go_num,by rw[s.o];exact j.o,d⟩
       case measure=>simp[intOf];omega
     ·rw[E] at h;have R:∀t u,y[t]? =some u->wr.cell? ((⟨M,N,none⟩:Addr).add t)=some u:=fun t u hu=>by
       rw[KZ];exact O t u hu
      obtain⟨i0,hi,a1,a2,a3⟩:=info_parts Tryz.v_;have⟨a4,a5⟩:=aH R D;obtain⟨m,G⟩:=aj y.length;rw[<-G] at h;have x:=Kz G;clear R D O c G;go_wp2_with (at_builtin;refine wpList_append_own _ rfl (.tmp 31) (.tmp 32) 102 rfl w.heap.size 103 i0 _ 1 8 underlying102 hi a1 a2 a3 rfl (by decide) _ r.length r rfl j.o ⟨M,N,none⟩ m (C k) y rfl (by have:=x.o;omega) a4.o a5.o (by have:=x.o;unfold maxLen;omega) (by have:=x.o;omega) a0 ?_;intro v' w2 a6 a7 _)
      go_roundw
      case rel=>exact⟨k+1,by omega,by go_num,by rw[s.o,KS,<-x.o];exact a6,aG d (JP _) j.o a7⟩
      case measure=>simp[intOf];omega
    ·have B:k=a.length:=by omega
     subst B;rw[KI] at c;have j:=Kz c;clear c;go_wp2
     go_ret
     exact⟨_,rfl,j.o,d⟩
theorem Tryz.oC :(prog.info? 106).map (·.size)=some 2:=by kernel_rfl
def Dj(w:LP)(A:LM)(c:Nat)(ys:List LQ):Prop:=(A=none/\c=0/\ys=[])\/∃p1 p2,A=some ⟨p1,p2,none⟩/\∀j u,ys[j]? =some u->w.cell? ⟨p1,p2+j,none⟩=some u
theorem mD{w2:LP}{a:List LQ}{p n c1 c3 tb:Nat}{A1 A3:LM}(D:a.length=n)(s:n<=1000)(G:p<=n)(E:∀u∈a,u.oneCell'=true)(H:Dj w2 A1 c1 (a.take p))(I:Dj w2 A3 c3 (a.drop p)){m:Nat}(M:m=n+1):
  Calls prog 165 #[.slice (some ⟨w2.heap.size+1,0,none⟩) 3 3] ((w2.alloc (.cells #[.pointer (some ⟨tb,0,none⟩)] 103)).alloc (.cells #[.slice A1 p c1,.slice (some ⟨w2.heap.size,0,none⟩) 1 1,.slice A3 (n-p) c3] 102)).drew
   fun e w'=>∃d f base,e= .returned (.slice d m f)/\w2.heap.size<=base/\w'.ownsRow base 103 1 (.slice d m f) m (a.take p++ .pointer (some ⟨tb,0,none⟩) :: a.drop p)/\K_ w2 w':=by
 have h:K_ w2 ((w2.alloc (.cells #[.pointer (some ⟨tb,0,none⟩)] 103)).alloc (.cells #[.slice A1 p c1,.slice (some ⟨w2.heap.size,0,none⟩) 1 1,.slice A3 (n-p) c3] 102)).drew:=((ag _ _).alloc _).drew;have J:=qf (w:=w2) (x:= .pointer (some ⟨tb,0,none⟩)) (t:=103) (((K_.refl _).alloc (.cells #[.slice A1 p c1,.slice (some ⟨w2.heap.size,0,none⟩) 1 1,.slice A3 (n-p) c3] 102)).drew);have F:∀{A c k},Dj w2 A c k->∀W,K_ w2 W->(A=none/\c=0/\k=[])\/∃l q,A=some ⟨l,q,none⟩/\∀j u,k[j]? =some u->W.cell? ⟨l,q+j,none⟩=some u:=by
  intro A c k y W B;rcases y with y|⟨l,q,e,g⟩
  ·exact .inl y
  ·exact .inr ⟨l,q,e,fun j u b=>by rw[B.cell (World.block_lt_of_cell? _ _ (g j u b))];exact g j u b⟩
 have K:([a.take p,[.pointer (some ⟨tb,0,none⟩)],a.drop p]:List (List LQ)).flatten=a.take p++ .pointer (some ⟨tb,0,none⟩) :: a.drop p:=by simp
 refine (AC _ (w2.heap.size+1) 3 [a.take p,[.pointer (some ⟨tb,0,none⟩)],a.drop p] (fun i=>if i=0 then A1 else if i=1 then some ⟨w2.heap.size,0,none⟩ else A3) (fun i=>if i=0 then c1 else if i=1 then 1 else c3) (by simp) (by simp[List.length_take,List.length_drop];omega) ?_ ⟨?_,fun i C=>?_⟩).mono ?_
 ·intro N s u b;simp only[Lb,Lc,or_false] at s;rcases s with rfl|rfl|rfl
  ·exact E u (List.mem_of_mem_take b)
  ·simp at b;subst b;rfl
  ·exact E u (List.mem_of_mem_drop b)
 ·show w2.heap.size+1<((w2.alloc _).alloc _).heap.size;simp
 ·match i,C with
  | 0,_=>exact⟨by simp[List.length_take,Nat.min_eq_left (D ▸ G)],F H _ h⟩
  | 1,_=>exact⟨by simp,.inr ⟨w2.heap.size,0,rfl,fun j u b=>by
    match j,b with
    | 0,b=>simp at b;subst b;exact J
    | j+1,b=>simp at b⟩⟩
  | 2,_=>exact⟨by simp[List.length_drop,D],F I _ h⟩
  | i+3,C=>exfalso;simp at C;omega
 ·rintro e w' ⟨v,rfl,r,B⟩;rw[K] at r;have L:(a.take p++ .pointer (some ⟨tb,0,none⟩) :: a.drop p).length=m:=by rw[KS,KY,Kt,List.length_drop];omega
  rw[L] at r;obtain⟨d,f,rfl⟩:=ax r;exact⟨d,f,_,rfl,h.size,r,h.trans B⟩
def FB(l:List Qq)(n:LK)(tb:Nat)(xs:List LQ)(w w':LP)(e:Ending):Prop:=
 ∃(m:Nat) (a:LM) (cap base p:Nat),m=l.length+1/\e= .returned (.agg #[.slice a m cap,.func (.func 101) #[] #[]])/\w.heap.size<=base/\w'.ownsRow base 103 1 (.slice a m cap) m (xs.take p++ .pointer (some ⟨tb,0,none⟩) :: xs.drop p)/\Place l n.toList p/\K_ w w'
theorem uH{w a:LP}{x y:LQ}{t:TypeId}(K:K_ (w.alloc (.cells #[x,y] t)) a):a.cell? ⟨w.heap.size,0,none⟩=some x/\a.cell? ⟨w.heap.size,1,none⟩=some y:=
 ⟨(K.cell (by simp)).trans (Xz w #[x,y] t 0 _ rfl),(K.cell (by simp)).trans (Xz w #[x,y] t 1 _ rfl)⟩
theorem jA.one{w:LP}{a:List LQ}{l:List Qq}(h:jA w a l):∀u∈a,u.oneCell'=true:=by
 intro u c;obtain⟨i,b,rfl⟩:=Kb c;obtain⟨d,_,_,e,_⟩:=h.2 i (by rw[<-h.1];exact b);rw[JV b] at e;rw[Lf e]
 rfl
abbrev vF (w:LP) (a:LM) (n cap:Nat):LP:=(w.alloc (.cells #[.slice a n cap,.func (.func 101) #[] #[]] 106)).alloc (.cells #[.slice none 0 0,.nilFunc] 106)
theorem Ea(w:LP)(a:LM)(b:Nat)(l:List Qq)(d:Qq)(r:List LQ)(a3 tb:Nat)(hl:l.length<=100)(hr:fE l)(a4:∀j,j<l.length->nameAt l j≠d.name.toList)(N:w.ownsRow a3 103 1 (.slice a l.length b) l.length r)(X:jA w r l)(a5:tb<w.heap.size)(a6:w.cell? ⟨tb,0,none⟩=some (.string d.name)):
  Calls prog 135 #[.agg #[.slice a l.length b,.func (.func 101) #[] #[]],.pointer (some ⟨tb,0,none⟩)] w fun e w'=>FB l d.name tb r w w' e:=by
 have Y:=dP N;have O:r.length=l.length:=by have:=N.1;omega
 have F:K_ w (vF w a l.length b):=(ag _ _).alloc _;have Z:Hid (∀w',K_ (vF w a l.length b) w'->(fun w'=>w'.cell? ⟨w.heap.size,0,none⟩=some (.slice a l.length b)/\w'.cell? ⟨w.heap.size,1,none⟩=some (.func (.func 101) #[] #[])) w'):=fun w' k=>uH (w:=w) (K_.trans (ag _ _) k)
 have a7:Hid (Row (vF w a l.length b) (w.heap.size+1) 2):=by have:=Row.made (w.alloc (.cells #[.slice a l.length b,.func (.func 101) #[] #[]] 106)) #[.slice none 0 0,.nilFunc] 106;show Row _ _ _;simpa using this
 go_enter func135,ntmps135
 go_wp2
 go_region_held (fun w'=>w'.cell? ⟨w.heap.size,0,none⟩=some (.slice a l.length b)/\w'.cell? ⟨w.heap.size,1,none⟩=some (.func (.func 101) #[] #[])) (exact a_ Z _ (by repeat (first | (with_reducible exact K_.refl _) | (with_reducible assumption) | apply K_.drew))) ((first | (go_at_call 101;refine (uo _ tb d.name ((K_.cell (F.trans (by repeat (first | (with_reducible exact K_.refl _) | (with_reducible assumption) | apply K_.drew))) a5).trans a6)).mono ?_;rintro e w1 ⟨rfl,rfl⟩) | (go_at_call 117;refine (xI _ a b l d.name (by omega) hr r (X.kept (F.trans (by repeat (first | (with_reducible exact K_.refl _) | (with_reducible assumption) | apply K_.drew)))) (Y.kept (F.trans (by repeat (first | (with_reducible exact K_.refl _) | (with_reducible assumption) | apply K_.drew))))).mono ?_;rintro e w2 ⟨a8,a0⟩;obtain⟨p,a1,rfl,hp,hf⟩:=a8;have G:K_ (vF w a l.length b) w2:=K_.trans (by repeat (first | (with_reducible exact K_.refl _) | (with_reducible assumption) | apply K_.drew)) a0;have H:=Kz hp;have HF:=Kz hf;clear hp hf a0)))
 all_goals
  have a9:a1=false:=by
   cases a1
   ·rfl
   ·have:=HF.o.1 rfl;exact Lv this.2 (a4 p this.1)
  subst a9;have z2:=G.size;simp only[vF,KR] at z2;have I:=F.trans G;have P:=Z.o w2 G;have J:=a7.o.kept G;obtain⟨⟨_,x0⟩,g0⟩:=J.at (i:=0) (by omega);obtain⟨⟨_,x1⟩,g1⟩:=J.at (i:=1) (by omega);have Q:=Kz J;have R:=H.o.le;clear J;obtain⟨m,v⟩:=aj (l.length+1);have S:=Kz v;have T:Hid (∀w',Xk (w.heap.size+1) (w.heap.size+2) w2 w'->(fun w'=>w'.cell? ⟨w.heap.size,0,none⟩=some (.slice a l.length b)/\w'.cell? ⟨w.heap.size,1,none⟩=some (.func (.func 101) #[] #[])) w'):=fun w' k=>
   have ks:=k.same (l2:=w.heap.size) (h2:=w.heap.size+1) (by omega)
   ⟨(ks.cell (JP _) (by omega) (by omega)).trans P.1,(ks.cell (JP _) (by omega) (by omega)).trans P.2⟩
  obtain⟨s1,s2⟩:=P;have x:=X.one;have K:=Y.kept I;have u0:w.heap.size<w2.heap.size:=by omega
  have u2:w.heap.size+1<w2.heap.size:=by omega
  rcases N.2 with⟨y,h0⟩|⟨g,cp,b3,y,_,hg,b4,_,_,_⟩
  ·simp only[KX] at y;obtain⟨U,_,V⟩:=y;subst U V;have b0:p=0:=by omega
   subst b0;have W:r=[]:=LB (by omega);have n:=mD (w2:=w2) (c1:=0) (c3:=0) (tb:=tb) (A1:=none) (A3:=none) O (by omega) R x (.inl ⟨rfl,rfl,by rw[W];rfl⟩) (.inl ⟨rfl,rfl,by rw[W];rfl⟩) v;obtain rfl:l=[]:=LB h0;simp only[List.length_nil,Nat.zero_sub] at n s1;have A:=Kz n;clear n W x K v;go_wp2
   go_region_held (fun w'=>w'.cell? ⟨w.heap.size,0,none⟩=some (.slice none 0 0)/\w'.cell? ⟨w.heap.size,1,none⟩=some (.func (.func 101) #[] #[])) (exact a_ T _ (by repeat (first | exact Xk.refl _ _ _ | exact Xk.aF (by assumption) | apply Xk.drew | (refine Xk.setCell ?_ (by simp) (by simp) _) | apply Xk.alloc))) ((go_at_call 165;refine (a_ A).mono ?_;rintro e s ⟨c,f,base,rfl,a2,t,k⟩;have q:=Kz (Q.o.kept k);obtain⟨⟨_,y0⟩,e0⟩:=q.o.at (i:=0) (by omega);obtain⟨⟨_,y1⟩,e1⟩:=q.o.at (i:=1) (by omega);have B:=Kz t;clear t))
   all_goals
    go_wp2
    have C:=JU s (w.heap.size+1) 0 [.slice c m f,.func (.func 101) #[] #[]] (q.o.there (o:=0) (m:=2) (JP _));have D:K_ w ((s.setCell ⟨w.heap.size+1,0,none⟩ (.slice c m f)).setCell ⟨w.heap.size+1,1,none⟩ (.func (.func 101) #[] #[])):=((I.trans k).setCell (by simp) _).setCell (by simp) _;have E:=aU (aU B.o (p:=⟨w.heap.size+1,0,none⟩) (by simp <;> omega) (.slice c m f)) (p:=⟨w.heap.size+1,1,none⟩) (by simp <;> omega) (.func (.func 101) #[] #[]);exact X_ [.slice c m f,.func (.func 101) #[] #[]] _ results135 rfl C underlying106 rfl Tryz.oC rfl ⟨m,c,f,base,_,S.o,rfl,by omega,E,H.o,D⟩
  ·simp only[KX] at y;obtain⟨U,_,V⟩:=y;subst U V;have L:∀j u,r[j]? =some u->w2.cell? ⟨g,0+j,none⟩=some u:=fun j u h=>by
    obtain⟨b',o',e',_,b1⟩:=K j (JW.1 h).1;simp only[KT,LG,and_true] at e';obtain⟨rfl,rfl⟩:=e';exact b1 j u h
   have M:Dj w2 (some ⟨g,0,none⟩) b (r.take p):= .inr ⟨g,0,rfl,fun j u h=>L j u (by rw[List.getElem?_take] at h;split at h;exact h;cases h)⟩;have i1:(p:Int)<=(b:Int):=by omega
   have i2:(p:Int)<=(l.length:Int):=by omega
   by_cases b2:b=p
   ·have b5:l.length=p:=by omega
    have n:=mD (w2:=w2) (c1:=p) (c3:=0) (tb:=tb) (A1:=some ⟨g,0,none⟩) (A3:=some ⟨g,0,none⟩) O (by omega) R x (b2 ▸ M) (.inr ⟨g,0,rfl,fun j u h=>by rw[List.drop_eq_nil_of_le (by omega)] at h;simp at h⟩) v;rw[show l.length-p=0 by omega] at n;have A:=Kz n;clear n x K L M v;go_wp2
    go_region_held (fun w'=>w'.cell? ⟨w.heap.size,0,none⟩=some (.slice (some ⟨g,0,none⟩) l.length b)/\w'.cell? ⟨w.heap.size,1,none⟩=some (.func (.func 101) #[] #[])) (exact a_ T _ (by repeat (first | exact Xk.refl _ _ _ | exact Xk.aF (by assumption) | apply Xk.drew | (refine Xk.setCell ?_ (by simp) (by simp) _) | apply Xk.alloc))) ((go_at_call 165;refine (a_ A).mono ?_;rintro e s ⟨c,f,base,rfl,a2,t,k⟩;have q:=Kz (Q.o.kept k);obtain⟨⟨_,y0⟩,e0⟩:=q.o.at (i:=0) (by omega);obtain⟨⟨_,y1⟩,e1⟩:=q.o.at (i:=1) (by omega);have B:=Kz t;clear t))
    all_goals
     go_wp2
     have C:=JU s (w.heap.size+1) 0 [.slice c m f,.func (.func 101) #[] #[]] (q.o.there (o:=0) (m:=2) (JP _));have D:K_ w ((s.setCell ⟨w.heap.size+1,0,none⟩ (.slice c m f)).setCell ⟨w.heap.size+1,1,none⟩ (.func (.func 101) #[] #[])):=((I.trans k).setCell (by simp) _).setCell (by simp) _;have E:=aU (aU B.o (p:=⟨w.heap.size+1,0,none⟩) (by simp <;> omega) (.slice c m f)) (p:=⟨w.heap.size+1,1,none⟩) (by simp <;> omega) (.func (.func 101) #[] #[]);exact X_ [.slice c m f,.func (.func 101) #[] #[]] _ results135 rfl C underlying106 rfl Tryz.oC rfl ⟨m,c,f,base,_,S.o,rfl,by omega,E,H.o,D⟩
   ·have n:=mD (w2:=w2) (c1:=b) (c3:=b-p) (tb:=tb) (A1:=some ⟨g,0,none⟩) (A3:=some ⟨g,0+p*1,none⟩) O (by omega) R x M (.inr ⟨g,0+p*1,rfl,fun j u h=>by rw[List.getElem?_drop] at h;have:=L _ u h;rw[show 0+p*1+j=0+ (p+j) by omega];exact this⟩) v;simp only[Nat.mul_one,KH] at n;have A:=Kz n;clear n x K L M v;go_wp2
    go_region_held (fun w'=>w'.cell? ⟨w.heap.size,0,none⟩=some (.slice (some ⟨g,0,none⟩) l.length b)/\w'.cell? ⟨w.heap.size,1,none⟩=some (.func (.func 101) #[] #[])) (exact a_ T _ (by repeat (first | exact Xk.refl _ _ _ | exact Xk.aF (by assumption) | apply Xk.drew | (refine Xk.setCell ?_ (by simp) (by simp) _) | apply Xk.alloc))) ((go_at_call 165;refine (a_ A).mono ?_;rintro e s ⟨c,f,base,rfl,a2,t,k⟩;have q:=Kz (Q.o.kept k);obtain⟨⟨_,y0⟩,e0⟩:=q.o.at (i:=0) (by omega);obtain⟨⟨_,y1⟩,e1⟩:=q.o.at (i:=1) (by omega);have B:=Kz t;clear t))
    all_goals
     go_wp2
     have C:=JU s (w.heap.size+1) 0 [.slice c m f,.func (.func 101) #[] #[]] (q.o.there (o:=0) (m:=2) (JP _));have D:K_ w ((s.setCell ⟨w.heap.size+1,0,none⟩ (.slice c m f)).setCell ⟨w.heap.size+1,1,none⟩ (.func (.func 101) #[] #[])):=((I.trans k).setCell (by simp) _).setCell (by simp) _;have E:=aU (aU B.o (p:=⟨w.heap.size+1,0,none⟩) (by simp <;> omega) (.slice c m f)) (p:=⟨w.heap.size+1,1,none⟩) (by simp <;> omega) (.func (.func 101) #[] #[]);exact X_ [.slice c m f,.func (.func 101) #[] #[]] _ results135 rfl C underlying106 rfl Tryz.oC rfl ⟨m,c,f,base,_,S.o,rfl,by omega,E,H.o,D⟩
section
variable {G : bX} {Kq : List Qq} {wz w w' : LP} {bb : Nat} {a : LM} {cap : Nat} {rd : LM} {rn rc : Nat} {mb mx : Nat} {ts : List Zx} {d : LM} {dc : Nat} {f : LK -> LQ} {ws : LK -> List Nat}
theorem BM.store(j:BM G Kq wz w bb a cap rd rn rc mb mx ts d dc f ws){i:Nat}{t t':Zx}(B:ts[i]? =some t){o:Nat}{v:LQ}(C:o<12)(e:t'.cells=t.cells.set o v)(k:t'.tb=t.tb)(D:t'.r.name=t.r.name)(E:t'.cost=t.cost)(F:t'.steps=t.steps)(H:t'.sa=t.sa)(q:t'.tv=t.tv)(s:t'.qv=t.qv)(y:t'.qs=t.qs)(I:t'.r.texts=t.r.texts):
  BM G Kq wz (w.setCell ⟨t.tb,o,none⟩ v) bb a cap rd rn rc mb mx (ts.set i t') d dc f ws:=by
 obtain⟨l,rfl⟩:=JW.1 B;have b:=j.fO _ (J_ l);have m:But (fun c=>c=ts[i].tb) w (w.setCell ⟨ts[i].tb,o,none⟩ v):=But.set (S:=fun c=>c=ts[i].tb) (But.aF (K_.refl w)) (p:=⟨ts[i].tb,o,none⟩) rfl v;have ne:∀x∈ts[i].own,x≠ts[i].tb:=fun x n=>bi (b.dZ n).1 b.row.type (by decide)
 have A:t'.own=ts[i].own:=by unfold Zx.own;rw[q,s]
 refine j.turn l m (fun c h=>.inl h) ⟨by rw[k];exact b.row.set v,by rw[k,e];exact oL b.rng b.row.row C v, ?_, ?_,by rw[k];exact b.low⟩ k D E F H (fun x n=>.inl (by rw[<-A];exact n)) (by rw[A];exact j.xB _ (J_ l)) (by rw[y];exact j.qb _ (J_ l))
 ·rw[q,I];exact m.owns b.txt (fun c h=>ne c (JZ.2 (.inl (KL.2 h))))
 ·rw[s,y];exact m.owns b.ask (fun c h=>ne c (JZ.2 (.inr (KL.2 h))))
theorem BM.at(h:BM G Kq wz w bb a cap rd rn rc mb mx ts d dc f ws){i:Nat}{t:Zx}(c:ts[i]? =some t):jR wz.heap.size w t:=h.fO t (Kg c)
theorem Tryz.IP(w:LP):(zeroValue 102).run prog w= .ok (.slice none 0 0) w:=by kernel_rfl
theorem Tryz.keyed :Maps.Keyed prog 9:=Maps.string_keyed underlying9
theorem BM.look(h:BM G Kq wz w bb a cap rd rn rc mb mx ts d dc f ws){s:LK}(c:s.size<=maxLen):(Instr.lookup 110 (.map (some mb)) (.string s) false).run prog w= .ok (f s) w:=by
 obtain⟨N,D,_,i,j⟩:=h.map;obtain⟨v,m,k,b⟩:=i.lookup Tryz.keyed underlying110 (Tryz.IP w) (zd:= .held (.slice none 0 0)) (zp:=[]) rfl (WideMaps.keyOf_string_mk underlying9 c);have e:=j s c;unfold asIs at b;simp only[KT,Prod.mk.injEq] at b;have l:(DataW.held v:DataW LQ)= .held (f s):=b.1.trans e;cases l;exact k
theorem jD{s b:LK}(h:s≠b):dw s≠dw b:=fun e=>h (by
 unfold dw at e;simp only[Lit.string.injEq] at e;exact yK e)
theorem BM.del(h:BM G Kq wz w bb a cap rd rn rc mb mx ts d dc f ws){s:LK}(y:s.size<=maxLen)(p:TypeId):∃w',(Builtin.delete_ #[110,9] p #[.map (some mb),.string s]).run prog w= .ok (.tuple #[]) w'/\But (fun b=>b=mb) w w'/\BM G Kq wz w' bb a cap rd rn rc mb mx ts d dc (fun n=>if n=s then .slice none 0 0 else f n) (fun n=>if n=s then [] else ws n):=by
 obtain⟨N,K,A,q,B⟩:=h.map;obtain⟨w',C,D,E⟩:=q.drop Tryz.keyed underlying110 (WideMaps.keyOf_string_mk underlying9 y) p;have k:But (fun b=>b=mb) w w':=But.aI E.grown (fun b e=>(Lf e).symm);refine⟨w',C,k, ?_⟩;have ne:∀{b:Nat} {t:TypeId},df w b t->¬b=mb:=fun F e=>gL q F e
 have l:=h.row.lt;have i:=ne h.row.type;have H:Fen G w' bb mb ts (fun n=>if n=s then .slice none 0 0 else f n):=by
  have j:=h.oth.but k (fun b e=>by rw[e];exact h.oth.nm);refine⟨j.size,j.lt,j.same,j.nb,j.nm,j.nt,fun n x c=>?_,j.has⟩;by_cases e:n=s
  ·simp only[Lt e] at c;cases c
  ·simp only[Lu e] at c;exact h.oth.nf n x c
 refine⟨k.kept h.kw (fun b e=>by rw[e];exact h.zK),k.row h.row i,(k.cell l i).trans h.c0,(k.cell l i).trans h.c1,(k.cell l i).trans h.c2,(k.cell l i).trans h.c3,(k.cell l i).trans h.c4,(k.cell l i).trans h.c5,h.low,k.owns h.items (fun b e=>ne (Yz h.items e)),fun t m=>(h.fO t m).but k (ne (h.fO t m).row.type) (fun x c=>ne ((h.fO t m).dZ c).1),h.act,h.asc,h.tbs,h.sep,h.xB,⟨N,_,A,D,fun n I=>?_⟩,h.zK,fun n=>?_,fun n r J x c=>?_,fun n x c=>?_,h.qb,H,h.gi⟩
 ·by_cases e:n=s
  ·rw[Lt e,e];exact Maps.atKey_del_same _
  ·rw[Lu e,<-B n I];exact Maps.atKey_del_other (jD e) _
 ·by_cases e:n=s
  ·simp only[Lt e];exact Ld _ _ _ _
  ·simp only[Lu e];exact k.owns (h.eT n) (fun b e=>ne (Yz (h.eT n) e))
 ·by_cases e:n=s
  ·rw[Lt e] at c;cases c
  ·rw[Lu e] at c;by_cases v:r=s
   ·rw[Lt v];intro h;cases h
   ·rw[Lu v];exact h.xA n r J x c
 ·by_cases e:n=s
  ·rw[Lt e] at c;cases c
  ·rw[Lu e] at c;exact h.zH n x c
end
def h_(ts:List Zx)(l:List Nat):List Zx:=ts.map fun t=>if t.tb∈l then {t with op:=t.op-1} else t
theorem AZ{a:List Zx}{l:List Nat}{i:Nat}(h:i<(h_ a l).length)(c:i<a.length):(h_ a l)[i]=if a[i].tb∈l then {a[i] with op:=a[i].op-1} else a[i]:=by simp[h_]
theorem AJ(a:List Zx):h_ a []=a:=by simp[h_]
theorem xV{a:List Zx}{l:List Nat}{b j:Nat}{t:Zx}(p:(a.map (·.tb)).Nodup)(q:b∉l)(r:a[j]? =some t)(f:t.tb=b):h_ a (l++ [b])= (h_ a l).set j {t with op:=t.op-1}/\(h_ a l)[j]? =some t:=by
 obtain⟨k,rfl⟩:=JW.1 r;have s:(h_ a l)[j]? =some a[j]:=by
  unfold h_;rw[List.getElem?_map,JV k];simp only[Option.map_some,KT];rw[Lu (by rw[f];exact q)]
 refine⟨?_,s⟩;apply List.ext_getElem
 ·simp[h_]
 ·intro i m w;have c:i<a.length:=by simpa[h_] using m
  rw[LJ,AZ m c];by_cases d:j=i
  ·subst d;rw[Lt rfl,Lt (by rw[f];simp)]
  ·rw[Lu d,AZ (by simpa[h_] using c) c];have v:a[i].tb≠b:=by
    rw[<-f];have n:=Ka.1 p;rcases Nat.lt_or_gt_of_ne d with h|h
    ·have:=n j i (by simpa using k) (by simpa using c) h;simp at this;exact fun d=>this d.symm
    ·have:=n i j (by simpa using c) (by simpa using k) h;simpa using this
   by_cases e:a[i].tb∈l
   ·rw[Lt e,Lt (JZ.2 (.inl e))]
   ·rw[Lu e,Lu (by rw[JZ,JY];rintro (h|h);exact e h;exact v h)]
def Zx.fresh(nb:Nat)(n:LK)(cost:Int)(steps:List Xj)(sa:LM)(sc:Nat):Zx:=⟨nb,Qz.fresh n,cost,steps,sa,sc,0,.slice none 0 0,.slice none 0 0,[],⟨#[]⟩⟩
def FL(Kq:List Qq)(ts:List Zx)(n:LK)(ts':List Zx):Prop:=
 (ts'=ts/\(Q_ Kq n=none\/∃t∈ts,t.r.name=n))\/(∃p new,ts'=ts.take p++new :: ts.drop p/\new.r=Qz.fresh n/\(new.op=0/\new.bq= (⟨#[]⟩,[]))/\(∀t∈ts,t.r.name≠n)/\(Q_ Kq n).isSome=true)
theorem CY{l:List Qz}{p:Nat}{r:Qz}(h:cO l)(e:∀x∈l.take p,aP x.name r.name)(h2:∀x∈l.drop p,aP r.name x.name):cO (l.take p++r :: l.drop p):=by
 have a:cO (l.take p++l.drop p):=by rw[Lj];exact h
 unfold cO at a⊢;rw[KC] at a⊢;refine⟨a.1,LF.2 ⟨h2,a.2.1⟩,fun x c y b=>?_⟩;rcases Lb.1 b with rfl | b
 ·exact e x c
 ·exact a.2.2 x c y b
section
variable {G : bX} {Kq : List Qq} {wz w w' : LP} {bb : Nat} {a : LM} {cap : Nat} {rd : LM} {rn rc : Nat} {mb mx : Nat} {ts : List Zx} {d : LM} {dc : Nat} {f : LK -> LQ} {ws : LK -> List Nat}
theorem BM.insert(h:BM G Kq wz w bb a cap rd rn rc mb mx ts d dc f ws){l:LP}{n:LK}{new:Zx}(k:K_ w l)(M:jR wz.heap.size l new)(N:new.r.name=n)(U:Q_ Kq n=some ⟨new.cost,new.steps⟩)(V:Steps wz new.sa new.steps)(W:∀t∈ts,t.r.name≠n)(X:w.heap.size<=new.tb)(I:new.own=[])(Y:new.qs=[]){A:LM}{B base m q:Nat}(Q:w.heap.size<=base)(hm:m=ts.length+1)(J:l.ownsRow base 103 1 (.slice A m B) m ((ts.map Zx.ptr).take q++ .pointer (some ⟨new.tb,0,none⟩) :: (ts.map Zx.ptr).drop q))(O:Place (iD ts) n.toList q):
  BM G Kq wz ((l.setCell ⟨bb,3,none⟩ (.slice A m B)).setCell ⟨bb,4,none⟩ (.func (.func 101) #[] #[])) bb a cap rd rn rc mb mx (ts.take q++new :: ts.drop q) A B f ws:=by
 have j:=h.kept k;have zb:=h.row.lt;have v:But (fun b=>b=bb) l ((l.setCell ⟨bb,3,none⟩ (.slice A m B)).setCell ⟨bb,4,none⟩ (.func (.func 101) #[] #[])):=But.set (S:=fun b=>b=bb) (But.set (S:=fun b=>b=bb) (But.aF (K_.refl l)) (p:=⟨bb,3,none⟩) rfl _) (p:=⟨bb,4,none⟩) rfl _;have K:(ts.take q++new :: ts.drop q).length=m:=by have:=O.le;rw[dN] at this;simp[List.length_take,List.length_drop];omega
 have C:∀u,u∈ts.take q++new :: ts.drop q↔u=new\/u∈ts:=fun u=>by
  rw[JZ,Lb];constructor
  ·rintro (h|h|h)
   ·exact .inr (List.mem_of_mem_take h)
   ·exact .inl h
   ·exact .inr (List.mem_of_mem_drop h)
  ·rintro (h|h)
   ·exact .inr (.inl h)
   ·rw[<-Lj q ts] at h;rcases JZ.1 h with h|h
    ·exact .inl h
    ·exact .inr (.inr h)
 have D:∀{b:Nat} {t:TypeId},df l b t->t≠112->¬b=bb:=fun c Z i=>bi c j.row.type Z i
 obtain⟨a0,a1,hN,R,hf⟩:=j.map;have nm:¬mb=bb:=fun i=>gL R j.row.type i.symm
 have fO:∀u∈ts.take q++new :: ts.drop q,jR wz.heap.size ((l.setCell ⟨bb,3,none⟩ (.slice A m B)).setCell ⟨bb,4,none⟩ (.func (.func 101) #[] #[])) u:=fun u c=>by
  rcases (C u).1 c with rfl|c
  ·exact M.but v (D M.row.type (by decide)) (fun x e=>D (M.dZ e).1 (by decide))
  ·have y:=j.fO u c;exact y.but v (D y.row.type (by decide)) (fun x e=>D (y.dZ e).1 (by decide))
 have a2:Fen G ((l.setCell ⟨bb,3,none⟩ (.slice A m B)).setCell ⟨bb,4,none⟩ (.func (.func 101) #[] #[])) bb mb (ts.take q++new :: ts.drop q) f:=by
  have E:=j.oth.but v (fun b i=>by rw[i];exact h.oth.nb);refine⟨E.size,E.lt,E.same,E.nb,E.nm,fun u c=>?_,E.nf,fun a3 hp=>by obtain⟨u,c,g⟩:=h.oth.has a3 hp;exact⟨u,(C u).2 (.inr c),g⟩⟩;rcases (C u).1 c with rfl | c
  ·exact⟨h.oth.far X,fun x e=>by rw[I] at e;cases e⟩
  ·exact h.oth.nt u c
 refine⟨v.kept j.kw (fun b i=>by rw[i];exact h.low),(j.row.set _).set _, ?_, ?_, ?_, ?_,bG (j.row.set _).row (by omega) _, ?_,h.low, ?_,fO, ?_, ?_, ?_, ?_, ?_,⟨a0,a1,hN,il R v nm,hf⟩,h.zK,fun L=>v.owns (j.eT L) (fun b i=>D (Yz (j.eT L) i) (by decide)),h.xA,fun L x e i=>?_,fun u c=>by rcases (C u).1 c with rfl | c;rw[Y];exact JR _;exact h.qb u c,a2,fun x e a4=>h.oth.far (JS Q (J.lt x (by rw[K] at e;exact e)).1) a4.2⟩
 ·rw[Xx (by omega),Xx (by omega)];exact j.c0
 ·rw[Xx (by omega),Xx (by omega)];exact j.c1
 ·rw[Xx (by omega),Xx (by omega)];exact j.c2
 ·rw[Xx (by omega),K];exact bG j.row.row (by omega) _
 ·rw[Xx (by omega),Xx (by omega)];exact j.c5
 ·rw[K];have i:(ts.take q++new :: ts.drop q).map Zx.ptr= (ts.map Zx.ptr).take q++ .pointer (some ⟨new.tb,0,none⟩) :: (ts.map Zx.ptr).drop q:=by simp[List.map_take,List.map_drop,Zx.ptr]
  rw[i];exact v.owns (bC J (JS h.kw.size Q)) (fun b i=>D (Yz J i) (by decide))
 ·intro u c;rcases (C u).1 c with rfl|c
  ·rw[N];exact⟨U,V⟩
  ·exact h.act u c
 ·have i:Qk (ts.take q++new :: ts.drop q)= (Qk ts).take q++new.r :: (Qk ts).drop q:=by simp[Qk,List.map_take,List.map_drop]
  rw[i];refine CY h.asc (fun x e=>?_) (fun x e=>?_)
  ·obtain⟨s,F,rfl⟩:=Kb e;rw[Kt] at F;rw[KM];have H:s<ts.length:=by simp[Qk] at F;omega
   have:=O.before s (by omega);unfold nameAt at this;rw[gW H] at this;rw[N];simpa[Qk,aP] using this
  ·obtain⟨s,F,rfl⟩:=Kb e;rw[List.length_drop] at F;rw[List.getElem_drop];have H:q+s<ts.length:=by simp[Qk] at F;omega
   have:=O.behind (q+s) (by omega) (by rw[dN];exact H);unfold nameAt at this;rw[gW H] at this;rw[N];have e2:(Qk ts)[q+s]=ts[q+s].r:=by simp[Qk]
   rw[e2];rcases dI n ts[q+s].r.name with g|g|g
   ·exact g
   ·exact Lv g.symm (W _ (J_ H))
   ·unfold aP at g;rw[this] at g;cases g
 ·have i:(ts.take q++new :: ts.drop q).map (·.tb)= (ts.map (·.tb)).take q++new.tb :: (ts.map (·.tb)).drop q:=by simp[List.map_take,List.map_drop]
  rw[i];have T:∀x∈ts.map (·.tb),x<new.tb:=fun x e=>by
   obtain⟨t,y,rfl⟩:=Ku.1 e;have:=(h.fO t y).row.lt;omega
  have p:((ts.map (·.tb)).take q++ (ts.map (·.tb)).drop q).Nodup:=by rw[Lj];exact h.tbs
  rw[List.nodup_append] at p⊢;refine⟨p.1,List.nodup_cons.2 ⟨fun e=>?_,p.2.1⟩,fun x e a5 P=>?_⟩
  ·have:=T _ (List.mem_of_mem_drop e);omega
  ·rcases Lb.1 P with rfl|P
   ·have:=T _ (List.mem_of_mem_take e);omega
   ·exact p.2.2 x e a5 P
 ·have p:(ts.take q++ts.drop q).Pairwise fun t u=>∀x∈t.own,x∉u.own:=by rw[Lj];exact h.sep
  rw[KC] at p⊢;refine⟨p.1,LF.2 ⟨fun u _ x e=>(by rw[I] at e;cases e),p.2.1⟩,fun t y u c x e=>?_⟩;rcases Lb.1 c with rfl | c
  ·rw[I];simp
  ·exact p.2.2 t y u c x e
 ·intro u c;rcases (C u).1 c with rfl|c
  ·rw[I];exact List.nodup_nil
  ·exact h.xB u c
 ·have h1:=((h.eT L).lt x e).2;rw[K] at i;have h2:=(J.lt x i).1;omega
theorem tu(x:BM G Kq wz w bb a cap rd rn rc mb mx ts d dc f ws)(n:LK)(hl:ts.length<=90)(a7:Kq.length<=1048576)(L:fE Kq)(W:bN wz a Kq):
  Calls prog 102 #[.pointer (some ⟨bb,0,none⟩),.string n] w fun e w'=>e= .returned (.tuple #[])/\∃ts' d' dc',BM G Kq wz w' bb a cap rd rn rc mb mx ts' d' dc' f ws/\FL Kq ts n ts':=by
 have b0:=x.c0;have b1:=x.c1;have zk:=x.row.lt;have s:=Kz x;clear x;go_enter func102,ntmps102
 go_wp2_with fail
 refine (FD _ a cap Kq n a7 L (W.kept s.o.kw)).mono ?_;rintro e w1 ⟨⟨p,fd,rfl,X,Y⟩,A⟩;have⟨Z,M⟩:=aH X Y;have b9:=(s.o.kept A).row.lt;clear X Y b0 b1;cases fd
 ·go_wp2_with fail
  refine bodyPost_ret (results_none rfl _ _ _) rfl ?_;refine⟨rfl,ts,d,dc,s.o.kept A,.inl ⟨rfl,.inl (xH fun j m e=>?_)⟩⟩;have B:nameAt Kq j=n.toList:=by unfold nameAt;rw[e]
  have e2:=Place.only L Z.o m B;rw[e2] at m B;have:=M.o.2 ⟨m,B⟩;cases this
 have a0:=(M.o.1 rfl).1;have N:Hid (Q_ Kq n=some ⟨(Kq.getD p Qq.zero).cost,(Kq.getD p Qq.zero).steps⟩):=zf a0 (toList_inj.1 (M.o.1 rfl).2) (fun j m e=>by
  have B:nameAt Kq j=n.toList:=by unfold nameAt;rw[e]
  have:=Place.only L Z.o (by omega) B;omega)
 go_wp2_with fail
 refine (oZ (s.o.kept A) n (by omega)).mono ?_;rintro e w2 ⟨⟨O,hi,a9,rfl⟩|⟨a1,rfl⟩,k2⟩
 ·have a2:ts[O].ptr= .pointer (some ⟨ts[O].tb,0,none⟩):=rfl;rw[a2];clear a2;go_wp2_with fail
  refine bodyPost_ret (results_none rfl _ _ _) rfl ?_;exact⟨rfl,ts,d,dc,s.o.kept (A.trans k2),.inl ⟨rfl,.inr ⟨ts[O],J_ hi,a9⟩⟩⟩
 have b2:=A.trans k2;have k:=s.o.kept b2;obtain⟨b,o,cs,rfl,P,F,c,h,rfl,Q⟩:=W p a0;obtain⟨y,hy⟩:=aj (Kq.getD p Qq.zero);rw[<-hy] at F Q N;have hb:b<w2.heap.size:=JQ P k.kw.size;have c1:w2.cell? ⟨b,o+p*3+1,none⟩=some (.int .i64 y.cost):=(k.kw.cell P).trans (F 1 _ rfl);have c2:w2.cell? ⟨b,o+p*3+2,none⟩=some (.slice c y.steps.length h):=(k.kw.cell P).trans (F 2 _ rfl);have m0:=k.c0;have m3:=k.c3;have m4:=k.c4;have R:=k.row.lt;have⟨t,T,HA⟩:=dK k a1 Q;have H:Hid (∀w',K_ w2 w'->w'.cell? ⟨bb,0,none⟩=some (.slice (some ⟨b,o,none⟩) Kq.length cap)/\w'.cell? ⟨bb,3,none⟩=some (.slice d ts.length dc)/\w'.cell? ⟨bb,4,none⟩=some (.func (.func 101) #[] #[])/\w'.cell? ⟨b,o+p*3+1,none⟩=some (.int .i64 y.cost)/\w'.cell? ⟨b,o+p*3+2,none⟩=some (.slice c y.steps.length h)):=fun w' C=>⟨(C.cell R).trans m0,(C.cell R).trans m3,(C.cell R).trans m4,(C.cell hb).trans c1,(C.cell hb).trans c2⟩
 have c5:(p:Int)<(Kq.length:Int):=by omega
 clear F Q hy k a1 c1 c2 m0 m3 m4;go_upto_region 2 with fail
 refine bf 21 H.o fun i KD l=>?_
 refine au 0 l ?_;refine au 4 l ?_;refine au 8 l ?_;refine au 12 l ?_;refine af 16 l ?_;refine ah 17 (fun K q=>?_);go_simp
 have K3:K_ i (i.alloc (.cells #[.string n,.bool false,.bool false,.string ⟨#[]⟩,.int .i64 0,.int .i64 0,.slice none 0 0,.int .i64 y.cost,.slice c y.steps.length h,.int .i64 0,.slice none 0 0,.string ⟨#[]⟩] 115)):=ag _ _;have D:aC (i.alloc (.cells #[.string n,.bool false,.bool false,.string ⟨#[]⟩,.int .i64 0,.int .i64 0,.slice none 0 0,.int .i64 y.cost,.slice c y.steps.length h,.int .i64 0,.slice none 0 0,.string ⟨#[]⟩] 115)) i.heap.size 115 12:=aC.made i _ _;have E:(i.alloc (.cells #[.string n,.bool false,.bool false,.string ⟨#[]⟩,.int .i64 0,.int .i64 0,.slice none 0 0,.int .i64 y.cost,.slice c y.steps.length h,.int .i64 0,.slice none 0 0,.string ⟨#[]⟩] 115)).rangeAt i.heap.size 0 [.string n,.bool false,.bool false,.string ⟨#[]⟩,.int .i64 0,.int .i64 0,.slice none 0 0,.int .i64 y.cost,.slice c y.steps.length h,.int .i64 0,.slice none 0 0,.string ⟨#[]⟩]:=Xz i _ _;have v:=KD.trans K3;refine q.out _ _ (fun _=>H.o _ v) ?_;clear q K l;have zd:=KD.size;obtain⟨r,a3⟩:=aj i.heap.size;have b3:w2.heap.size<=r:=by omega
 rw[<-a3] at D E⊢;generalize b4:i.alloc (.cells #[.string n,.bool false,.bool false,.string ⟨#[]⟩,.int .i64 0,.int .i64 0,.slice none 0 0,.int .i64 y.cost,.slice c y.steps.length h,.int .i64 0,.slice none 0 0,.string ⟨#[]⟩] 115)=U at D E v⊢;clear b4 K3 a3;have a4:U.cell? ⟨r,0,none⟩=some (.string n):=E 0 _ rfl;have V:=Kz (Ea U d dc (iD ts) ⟨n,0,[]⟩ (ts.map Zx.ptr) wz.heap.size r (by rw[dN];omega) (qW t.o.asc) (fun j m e=>by rw[dN] at m;unfold nameAt at e;rw[gW m] at e;exact T.o _ (J_ m) (toList_inj.1 e)) (by rw[dN];exact (t.o.kept v).items) (t.o.kept v).packed D.lt a4);rw[dN] at V;have a5:Hid (jR wz.heap.size U (Zx.fresh r n y.cost y.steps c h)):=⟨D,E,Ld _ _ _ _,Ld _ _ _ _,by have:=t.o.kw.size;show wz.heap.size<=r;omega⟩;clear a4 E D;try simp only[upP]
 refine ak 18 (fun K q=>?_);go_simp
 go_at_call 135
 refine V.o.mono ?_;rintro e w8 ⟨c6,a8,b5,base,b6,hm,rfl,b7,a6,hq,k8⟩;have I:=v.trans k8;have J:=t.o.kept I;obtain⟨⟨_,x3⟩,f3⟩:=J.row.row.at (i:=3) (by omega);obtain⟨⟨_,x4⟩,f4⟩:=J.row.row.at (i:=4) (by omega);have c7:=J.row.lt;have HI:=Kz (t.o.insert (n:=n) (new:=Zx.fresh r n y.cost y.steps c h) I (a5.o.but (S:=fun _=>False) (But.aF k8) id (fun _ _=>id)) rfl N.o HA.o T.o b3 rfl rfl (by have h1:=v.size;exact JS h1 b7) (by rw[<-dN ts];exact hm) a6 hq);clear a6 J hq hm V a5;refine q.out _ _ (fun _=>H.o _ I) ?_;clear q K;have l:=H.o _ I;try simp only[upP]
 refine af 19 l ?_;refine af 20 l ?_;refine ah 21 (fun K q=>?_);go_simp
 refine ae q (fun b8=>Lv rfl b8) ?_;clear q K;refine aB ?_;go_wp2
 go_end0
 exact⟨rfl,_,a8,b5,HI.o,.inr ⟨b6,Zx.fresh r n y.cost y.steps c h,rfl,rfl,⟨rfl,rfl⟩,T.o,by rw[N.o];rfl⟩⟩
end
section
variable {P : Program} {w : LP}
theorem tQ(base:Nat)(t d e:TypeId)(i:TypeInfo)(size:Nat)(a:P.underlying t=some (.slice e))(b:P.info? e=some i)
  (v:LQ) (n:Nat) (f:List LQ) (h:w.ownsRow base e size v n f) (x:LM) (c:Nat):
  (Builtin.append_ #[t,t] d #[v,.slice x 0 c]).run P w= .ok v w:=by
 rcases h.2 with⟨rfl,rfl⟩|⟨g,k,l,rfl,_,_,j,_⟩
 ·cases x <;> simp[Builtin.append_,run_underlying a,sizeOf,typeInfo,b,Builtin.lenOf,Builtin.firstCells,loadCells,loadCellsFrom]
 ·cases x <;> simp[Builtin.append_,run_underlying a,sizeOf,typeInfo,b,Builtin.lenOf,Builtin.firstCells,j,storeCells,loadCells,loadCellsFrom]
theorem fB{o:Oper}{a:Act}{K:Act->LP->Prop}{Q:Exit->Act->LP->Prop}(s x:Operand)(t:TypeId)
  (r:o.op= .call {callee:= .builtin .append,args:= #[s,x],argTypes:= #[t,t]})
  (base:Nat) (e:TypeId) (i:TypeInfo) (z:LQ) (h:Nat) (y:P.underlying t=some (.slice e)) (A:P.info? e=some i) (H:i.zero=some z)
  (I:i.size=1) (J:i.bytes=h) (L:z.cells.size=1)
  (v:LQ) (n:Nat) (f:List LQ) (B:a.eval s=v) (j:w.ownsRow base e 1 v n f)
  (k:LM) (c:Nat) (l:List LK) (m:a.eval x= .slice k l.length c) (C:Strs w k l)
  (M:n+l.length<=maxLen) (N:(n+l.length)*h<=140737488355328) (O:base<=w.heap.size)
  (D:∀v' w',w'.ownsRow base e 1 v' (n+l.length) (f++l.map Value.string)->w.grownBy w' v.ownBlock->(∀g,v'.ownBlock=some g->v.ownBlock=some g\/w.heap.size<=g)->K (a.put o.dst v') w'):o.wp P a w K Q:=by
 by_cases E:l.length=0
 ·have R:=Kh.1 E;rw[E] at m;refine Go.Lib.wp_append_run w s x t t r v _ B m v w (tQ base t o.type e i 1 y A v n f j k c) (D v w ?_ ⟨rfl,rfl,rfl,JP _,fun _ _ _=>rfl⟩ (fun g e=>.inl e));rw[R];simpa using j
 ·obtain⟨S,T,F,X,_⟩:=C 0 (by omega);refine wp_append_lies w s x t r base e i z 1 h y A H I J L (by decide) v n f B j ⟨S,T,none⟩ l.length c (l.map Value.string) (by rw[m,F]) (by simp) (fun G u b=>?_) (fun u b=>by obtain⟨x,_,rfl⟩:=Ku.1 b;rfl) (by omega) M N O w.heap.size rfl (fun g Y w' U V d Z=>D _ w' U V (fun g' e=>?_))
  ·have p:G<l.length:=by have:=(JW.1 b).1;simpa using this
   obtain⟨b',q',q,_,W⟩:=C G p;rw[F] at q;simp only[KT,LG,and_true] at q;obtain⟨rfl,rfl⟩:=q;rw[KZ,W];simp[p] at b;simp[List.getD,p,b]
  ·simp only[Value.ownBlock,KT] at e;subst e;rcases d with d|d
   ·exact .inl d
   ·exact .inr (Kv d.symm)
theorem fI{j:Array Oper}{rest:List Oper}{o:Oper}{a:Act}{Q:Exit->Act->LP->Prop}(hgd:o.guard=none)(s x:Operand)(t:TypeId)
  (m:o.op= .call {callee:= .builtin .append,args:= #[s,x],argTypes:= #[t,t]})
  (base:Nat) (e:TypeId) (i:TypeInfo) (z:LQ) (d:Nat) (p:P.underlying t=some (.slice e)) (q:P.info? e=some i) (r:i.zero=some z)
  (y:i.size=1) (A:i.bytes=d) (B:z.cells.size=1)
  (v:LQ) (n:Nat) (f:List LQ) (C:a.eval s=v) (D:w.ownsRow base e 1 v n f)
  (h:LM) (c:Nat) (l:List LK) (E:a.eval x= .slice h l.length c) (F:Strs w h l)
  (G:n+l.length<=maxLen) (H:(n+l.length)*d<=140737488355328) (I:base<=w.heap.size)
  (J:∀b w',w'.ownsRow base e 1 b (n+l.length) (f++l.map Value.string)->w.grownBy w' v.ownBlock->(∀g,b.ownBlock=some g->v.ownBlock=some g\/w.heap.size<=g)->wpList P j Q rest (a.put o.dst b) w'):wpList P j Q (o :: rest) a w:=
 wpList_plain hgd fun _ K=>fB s x t m base e i z d p q r y A B v n f C D h c l E F G H I fun b w' L M N=>K _ _ (J b w' L M N)
end
section
variable {G : bX} {Kq : List Qq} {wz w w' : LP} {bb : Nat} {a : LM} {cap : Nat} {rd : LM} {rn rc : Nat} {mb mx : Nat} {ts : List Zx} {d : LM} {dc : Nat} {f : LK -> LQ} {ws : LK -> List Nat}
theorem BM.asked(m:BM G Kq wz w bb a cap rd rn rc mb mx ts d dc f ws){i:Nat}{t:Zx}(H:ts[i]? =some t){w1:LP}{c:LQ}{l:List LQ}(y:w1.ownsRow wz.heap.size 9 1 c (t.qs.length+l.length) (t.qs++l))(q:w.grownBy w1 t.qv.ownBlock)(A:∀g,c.ownBlock=some g->t.qv.ownBlock=some g\/w.heap.size<=g)(T:l.length<=5):
  BM G Kq wz (w1.setCell ⟨t.tb,10,none⟩ c) bb a cap rd rn rc mb (mx+1) (ts.set i {t with qv:=c,qs:=t.qs++l}) d dc f ws:=by
 obtain⟨n,rfl⟩:=JW.1 H;have j:=m.fO _ (J_ n);have k:=m.xB _ (J_ n);have I:But (fun b=>b=ts[i].tb\/b∈ts[i].own) w w1:=But.aI q (fun b e=>.inr (JZ.2 (.inr (KL.2 e))));have J:But (fun b=>b=ts[i].tb\/b∈ts[i].own) w (w1.setCell ⟨ts[i].tb,10,none⟩ c):=But.set I (p:=⟨ts[i].tb,10,none⟩) (.inl rfl) c;have K:∀b,ts[i].qv.ownBlock=some b->ts[i].tb≠b:=fun b e=>bi j.row.type (Yz j.ask e) (by decide)
 have B:w1.heap[ts[i].tb]? =w.heap[ts[i].tb]? :=q.block _ j.row.lt (fun e=>K _ e.symm rfl);have s:aC w1 ts[i].tb 115 12:=j.row.block B;have L:w1.rangeAt ts[i].tb 0 ts[i].cells:=fun M u v=>(Ke (w:=w) B).trans (j.rng M u v)
 have C:∀{b:Nat},df w1 b 9->b≠ts[i].tb:=fun v=>bi v s.type (by decide)
 have D:But (fun b=>b=ts[i].tb) w1 (w1.setCell ⟨ts[i].tb,10,none⟩ c):=But.set (S:=fun b=>b=ts[i].tb) (But.aF (K_.refl w1)) (p:=⟨ts[i].tb,10,none⟩) rfl c;have E:w1.ownsRow wz.heap.size 9 1 ts[i].tv ts[i].r.texts.length (ts[i].r.texts.map Value.string):=(But.aI (S:=fun b=>ts[i].qv.ownBlock=some b) q (fun b e=>e)).owns j.txt (fun b e N=>by
  have O:b∈ts[i].tv.ownBlock.toList:=KL.2 e;have P:b∈ts[i].qv.ownBlock.toList:=KL.2 N;unfold Zx.own at k;exact (List.nodup_append.1 k).2.2 b O b P rfl)
 refine (m.more (Nat.le_succ mx)).turn n J (fun b Q=>Q) ⟨s.set c,oL L s.row (by omega) c,D.owns E (fun b e=>C (Yz E e)), ?_,j.low⟩ rfl rfl rfl rfl rfl (fun x h=>?_) ?_ (by have:=m.qb _ (J_ n);show (ts[i].qs++l).length<=5*(mx+1);rw[KS];omega)
 ·have e:({ts[i] with qv:=c,qs:=ts[i].qs++l}:Zx).qs.length=ts[i].qs.length+l.length:=by simp
  rw[e];exact D.owns y (fun b e=>C (Yz y e))
 ·unfold Zx.own at h⊢;rcases JZ.1 h with h|h
  ·exact .inl (JZ.2 (.inl h))
  ·rcases A x (KL.1 h) with e|e
   ·exact .inl (JZ.2 (.inr (KL.2 e)))
   ·exact .inr e
 ·unfold Zx.own at k⊢;rw[List.nodup_append] at k⊢;refine⟨k.1, ?_,fun x h F R=>?_⟩
  ·show (c.ownBlock.toList).Nodup;cases c.ownBlock <;> simp
  ·rcases A F (KL.1 R) with e|e
   ·exact k.2.2 x h F (KL.2 e)
   ·have:=(j.txt.lt x (KL.1 h)).2;omega
end
theorem Dh{b:List Zx}{l:List Nat}{i:Nat}{t:Zx}(h:b[i]? =some t):∃u,(h_ b l)[i]? =some u/\u.tb=t.tb/\u.r=t.r:=by
 refine⟨if t.tb∈l then {t with op:=t.op-1} else t,by unfold h_;rw[List.getElem?_map,h];rfl, ?_, ?_⟩
 ·by_cases h:t.tb∈l
  ·rw[Lt h]
  ·rw[Lu h]
 ·by_cases h:t.tb∈l
  ·rw[Lt h]
  ·rw[Lu h]
def Zx.ended(t:Zx)(fl:Bool)(tx:LK):Zx:={t with r:={t.r with over:=true,fail:=fl,text:=tx}}
section
variable {G : bX} {Kq : List Qq} {wz w w' : LP} {bb : Nat} {a : LM} {cap : Nat} {rd : LM} {rn rc : Nat} {mb mx : Nat} {ts : List Zx} {d : LM} {dc : Nat} {f : LK -> LQ} {ws : LK -> List Nat}
theorem BM.ended(l:BM G Kq wz w bb a cap rd rn rc mb mx ts d dc f ws){i:Nat}{t:Zx}(e:ts[i]? =some t)(b:Bool)(c:LK):BM G Kq wz (((w.setCell ⟨t.tb,1,none⟩ (.bool true)).setCell ⟨t.tb,2,none⟩ (.bool b)).setCell ⟨t.tb,3,none⟩ (.string c)) bb a cap rd rn rc mb mx (ts.set i (t.ended b c)) d dc f ws:=by
 have h:i<ts.length:=(JW.1 e).1;have m:=l.store (t':={t with r:={t.r with over:=true}}) e (o:=1) (v:= .bool true) (by omega) rfl rfl rfl rfl rfl rfl rfl rfl rfl rfl;have j:=m.store (t':={t with r:={t.r with over:=true,fail:=b}}) (Lr h) (o:=2) (v:= .bool b) (by omega) rfl rfl rfl rfl rfl rfl rfl rfl rfl rfl;rw[List.set_set] at j;have k:=j.store (t':=t.ended b c) (Lr h) (o:=3) (v:= .string c) (by omega) rfl rfl rfl rfl rfl rfl rfl rfl rfl rfl;rw[List.set_set] at k;exact k
theorem l_(hB:BM G Kq wz w bb a cap rd rn rc mb mx ts d dc f ws){i:Nat}{t:Zx}(hi:ts[i]? =some t)(E:Bool)(F:LK)(b8:t.r.name.size<=1000)(b9:(ws t.r.name).length<=1000)(hw:∀b∈ws t.r.name,∃(j:Nat) (u:Zx),(ts.set i (t.ended E F))[j]? =some u/\u.tb=b/\1<=u.op/\u.op<=1000)(b1:(ws t.r.name).Nodup):
  Calls prog 140 #[.pointer (some ⟨bb,0,none⟩),.pointer (some ⟨t.tb,0,none⟩),.bool E,.string F] w fun e w'=>e= .returned (.tuple #[])/\BM G Kq wz w' bb a cap rd rn rc mb mx (h_ (ts.set i (t.ended E F)) (ws t.r.name)) d dc (fun n=>if n=t.r.name then .slice none 0 0 else f n) (fun n=>if n=t.r.name then [] else ws n):=by
 obtain⟨x,hm⟩:=aj ((ws t.r.name).length);have S:=hB.at hi;obtain⟨⟨_,x1⟩,f1⟩:=S.row.row.at (i:=1) (by omega);obtain⟨⟨_,x2⟩,f2⟩:=S.row.row.at (i:=2) (by omega);obtain⟨⟨_,x3⟩,f3⟩:=S.row.row.at (i:=3) (by omega);have tz:=S.row.lt;obtain⟨W1,a2⟩:=aj (((w.setCell ⟨t.tb,1,none⟩ (.bool true)).setCell ⟨t.tb,2,none⟩ (.bool E)).setCell ⟨t.tb,3,none⟩ (.string F));have a1:BM G Kq wz W1 bb a cap rd rn rc mb mx (ts.set i (t.ended E F)) d dc f ws:=by
  rw[a2];exact hB.ended hi E F
 obtain⟨va,vc,hf⟩:=ax (a1.eT t.r.name);rw[<-hm] at hf;have b2:i<ts.length:=(JW.1 hi).1;have a3:(ts.set i (t.ended E F))[i]? =some (t.ended E F):=by rw[Lr b2]
 obtain⟨T1,a4⟩:=aj (ts.set i (t.ended E F));rw[<-a4] at a1 a3 hw⊢;have⟨c0,J,a5,Hf,I⟩:=jb a4 a1 a3 hf hm;have⟨HW,HN⟩:=aH hw b1;have c1:x<=1000:=by omega
 have T:Hid (∀w',K_ W1 w'->w'.cell? ⟨bb,5,none⟩=some (.map (some mb))/\w'.cell? ⟨t.tb,0,none⟩=some (.string t.r.name)/\(Instr.lookup 110 (.map (some mb)) (.string t.r.name) false).run prog w'= .ok (.slice va x vc) w'):=fun w' K=>⟨(J.o.kept K).c5,((J.o.kept K).at a5.o).rng 0 _ rfl,by rw[<-Hf.o];exact (J.o.kept K).look (by unfold maxLen;omega)⟩
 clear hB a1 S hi a3 a4 hf hm hw b1 b2;go_enter func140,ntmps140
 go_upto_region 1 with fail
 rw[<-a2];clear a2 x1 x2 x3 f1 f2 f3 tz;refine bf 10 T.o fun wd y q=>?_
 refine au 0 q ?_;refine au 4 q ?_;refine af 8 q ?_;refine af 9 q ?_;refine dx 10 11 (fun K c=>?_) (fun K c=>?_)
 ·rw[Lt (by rfl)];go_simp
  refine ae c (fun _=>T.o _ y) ?_;clear c K;refine ah 11 (fun K c=>?_);go_simp
  refine ae c (fun _=>T.o _ y) ?_;clear c K;refine aB ?_;have U:=Kz (J.o.kept y);clear q;go_wp2
  go_loopw [35] (fun L wr=>∃k:Nat,k<=x/\L= .int .i64 k/\BM G Kq wz wr bb a cap rd rn rc mb mx (h_ T1 ((ws t.r.name).take k)) d dc f ws) (fun L _=>x-(intOf L).toNat)
  case atStart=>exact⟨0,JR _,rfl,by rw[List.take_zero,AJ];exact U.o⟩
  case round=>
   clear U y;obtain⟨k,hk,rfl,m⟩:=hrel;by_cases b3:k<x
   ·obtain⟨p,A⟩:∃p,(ws t.r.name)[k]? =some p:=⟨_,JV (by have:=I.o;omega)⟩;have V:p∈ws t.r.name:=Kg A;obtain⟨j,u,W,M,b4,b5⟩:=HW.o p V;have B:(ws t.r.name).take (k+1)= (ws t.r.name).take k++ [p]:=by
     obtain⟨C,D⟩:=JW.1 A;rw[JX C,D]
    have X:p∉(ws t.r.name).take k:=fun h=>by
     have a6:=HN.o;obtain⟨C,D⟩:=JW.1 A;obtain⟨a7,hq,e⟩:=Kb h;rw[Kt] at hq;rw[KM] at e;have:=Ka.1 a6 a7 k (by omega) C (by omega);exact this (e.trans D.symm)
    obtain⟨N,O⟩:=xV J.o.tbs X W M;rw[<-B] at N;have H:=m.at O;have o9:wr.cell? ⟨u.tb,9,none⟩=some (.int .i64 (u.op:Int)):=H.rng 9 _ rfl;have uz:=H.row.lt;obtain⟨_,g9⟩:=H.row.row.at (i:=9) (by omega);have P:=m.eT t.r.name;rw[Hf.o] at P;obtain⟨b,o,rfl,hb,Y⟩:=dP (by have:=P;rw[<-I.o] at this;exact this) k (by simp;have:=I.o;omega);have b6:wr.cell? ⟨b,o+k,none⟩=some (.pointer (some ⟨u.tb,0,none⟩)):=by rw[Y k (vY p) (by simp[A]),<-M];rfl
    have Q:=Kz (m.store (t':={u with op:=u.op-1}) O (o:=9) (v:= .int .i64 ((u.op-1:Nat):Int)) (by omega) rfl rfl rfl rfl rfl rfl rfl rfl rfl rfl);rw[<-N] at Q;have Z:((u.op-1:Nat):Int)= (u.op:Int)-1:=by omega
    rw[Z] at Q;have i0:(k:Int)<(x:Int):=by omega
    clear Y P H N O B X V A W M Z m;go_wp2
    go_roundw
    case rel=>exact⟨k+1,by omega,by go_num,Q.o⟩
    case measure=>simp[intOf];omega
   ·obtain rfl:k=x:=by omega
    have B:(ws t.r.name).take k=ws t.r.name:=by rw[I.o];exact KI
    rw[B] at m;have R:=Kz m;clear m B;have a8:=Kz (Dh (l:=ws t.r.name) a5.o);have a9:Hid (∀w',K_ wr w'->w'.cell? ⟨bb,5,none⟩=some (.map (some mb))/\w'.cell? ⟨t.tb,0,none⟩=some (.string t.r.name)):=fun w' K=>⟨(R.o.kept K).c5,by obtain⟨u,C,D,h3⟩:=a8.o;have h4:=((R.o.kept K).at C).rng 0 _ rfl;rw[D,h3] at h4;exact h4⟩
    go_upto_region 6 with fail
    refine bf 9 a9.o fun wd y q=>?_
    refine au 0 q ?_;refine au 4 q ?_;refine af 8 q ?_;obtain⟨w9,b7,_,a0⟩:=(R.o.kept y).del (s:=t.r.name) (by unfold maxLen;omega) 0;have b0:=Kz a0;clear a0;refine ak 9 (fun K c=>?_);go_simp
    refine ae c (fun h=>Lv rfl h) ?_;clear c K;refine aB ?_;go_wp2
    go_end0
    exact⟨rfl,b0.o⟩
 ·rw[Lt (by rfl)];go_simp
  refine ae c (fun _=>T.o _ y) ?_;clear c K;refine ah 10 (fun K c=>?_);go_simp
  refine ae c (fun _=>T.o _ y) ?_;clear c K;refine aB ?_;have U:=Kz (J.o.kept y);clear q;go_wp2
  go_loopw [35] (fun L wr=>∃k:Nat,k<=x/\L= .int .i64 k/\BM G Kq wz wr bb a cap rd rn rc mb mx (h_ T1 ((ws t.r.name).take k)) d dc f ws) (fun L _=>x-(intOf L).toNat)
  case atStart=>exact⟨0,JR _,rfl,by rw[List.take_zero,AJ];exact U.o⟩
  case round=>
   clear U y;obtain⟨k,hk,rfl,m⟩:=hrel;by_cases b3:k<x
   ·obtain⟨p,A⟩:∃p,(ws t.r.name)[k]? =some p:=⟨_,JV (by have:=I.o;omega)⟩;have V:p∈ws t.r.name:=Kg A;obtain⟨j,u,W,M,b4,b5⟩:=HW.o p V;have B:(ws t.r.name).take (k+1)= (ws t.r.name).take k++ [p]:=by
     obtain⟨C,D⟩:=JW.1 A;rw[JX C,D]
    have X:p∉(ws t.r.name).take k:=fun h=>by
     have a6:=HN.o;obtain⟨C,D⟩:=JW.1 A;obtain⟨a7,hq,e⟩:=Kb h;rw[Kt] at hq;rw[KM] at e;have:=Ka.1 a6 a7 k (by omega) C (by omega);exact this (e.trans D.symm)
    obtain⟨N,O⟩:=xV J.o.tbs X W M;rw[<-B] at N;have H:=m.at O;have o9:wr.cell? ⟨u.tb,9,none⟩=some (.int .i64 (u.op:Int)):=H.rng 9 _ rfl;have uz:=H.row.lt;obtain⟨_,g9⟩:=H.row.row.at (i:=9) (by omega);have P:=m.eT t.r.name;rw[Hf.o] at P;obtain⟨b,o,rfl,hb,Y⟩:=dP (by have:=P;rw[<-I.o] at this;exact this) k (by simp;have:=I.o;omega);have b6:wr.cell? ⟨b,o+k,none⟩=some (.pointer (some ⟨u.tb,0,none⟩)):=by rw[Y k (vY p) (by simp[A]),<-M];rfl
    have Q:=Kz (m.store (t':={u with op:=u.op-1}) O (o:=9) (v:= .int .i64 ((u.op-1:Nat):Int)) (by omega) rfl rfl rfl rfl rfl rfl rfl rfl rfl rfl);rw[<-N] at Q;have Z:((u.op-1:Nat):Int)= (u.op:Int)-1:=by omega
    rw[Z] at Q;have i0:(k:Int)<(x:Int):=by omega
    clear Y P H N O B X V A W M Z m;go_wp2
    go_roundw
    case rel=>exact⟨k+1,by omega,by go_num,Q.o⟩
    case measure=>simp[intOf];omega
   ·obtain rfl:k=x:=by omega
    have B:(ws t.r.name).take k=ws t.r.name:=by rw[I.o];exact KI
    rw[B] at m;have R:=Kz m;clear m B;have a8:=Kz (Dh (l:=ws t.r.name) a5.o);have a9:Hid (∀w',K_ wr w'->w'.cell? ⟨bb,5,none⟩=some (.map (some mb))/\w'.cell? ⟨t.tb,0,none⟩=some (.string t.r.name)):=fun w' K=>⟨(R.o.kept K).c5,by obtain⟨u,C,D,h3⟩:=a8.o;have h4:=((R.o.kept K).at C).rng 0 _ rfl;rw[D,h3] at h4;exact h4⟩
    go_upto_region 6 with fail
    refine bf 9 a9.o fun wd y q=>?_
    refine au 0 q ?_;refine au 4 q ?_;refine af 8 q ?_;obtain⟨w9,b7,_,a0⟩:=(R.o.kept y).del (s:=t.r.name) (by unfold maxLen;omega) 0;have b0:=Kz a0;clear a0;refine ak 9 (fun K c=>?_);go_simp
    refine ae c (fun h=>Lv rfl h) ?_;clear c K;refine aB ?_;go_wp2
    go_end0
    exact⟨rfl,b0.o⟩
end
