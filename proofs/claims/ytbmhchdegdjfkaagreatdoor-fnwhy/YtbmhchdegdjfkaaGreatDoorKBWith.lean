import Derived.Test.YtbmhchdegdjfkaaGreatDoorKBTask
set_option maxRecDepth 100000
set_option maxHeartbeats 25600000
namespace Go.Proofs.YtbmhchdegdjfkaaGreatDoor
open Go.RowKit Go.Proofs.Tryz
theorem Tryz.uT :(prog.info? 103).map (fun i=>(i.zero,i.size,i.bytes))=some (some (.pointer none),1,8):=by kernel_rfl
theorem DJ(w:KH)(n:Nat)(p:n<=3145728):
  Calls prog 182 #[.slice none 0 0,.int .i64 n] w fun e w'=>∃v,e= .returned v/\w'.ownsRow w.heap.size 103 1 v 0 []/\K_ w w':=by
 by_cases b:n=0
 ·subst b;go_enter func182,ntmps182
  go_wp2
  go_ret
  exact⟨_,rfl,JP _ _ _ _,K_.refl _⟩
 ·obtain⟨c,d,f,h,i⟩:=info_parts Tryz.uT;have a:=fun j=>Lib.run_append_nil_zeros (P:=prog) w 102 3 j 103 c _ .i64 .i64 underlying102 Tryz.Iy d f n (by omega) (by rw[h];omega) (by omega) (by rw[i];omega)
  have q:=grownCap_ge w n 0 103;have k:=grownCap_le_maxLen w n 0 103 (by unfold maxLen;omega);have l:=Kz a;clear a;have r:(0:Int)<(n:Int):=by omega
  go_enter func182,ntmps182
  go_wp2_with (at_builtin;refine Lib.wpList_append_run _ rfl (.tmp 20) (.tmp 21) _ _ rfl _ _ rfl rfl _ _ (l.o _) ?_)
  go_ret
  refine⟨_,rfl,World.ownsRow.drew (Jz w _ _ (IZ _) k ?_),(ag _ _).drew⟩;simp only[Array.size_append,size_zeroCells];have m:(#[Value.pointer none]:Array KI).size=1:=rfl;rw[m,<-Nat.add_mul]
  congr 1
  omega
def Cw(w:KH)(b:Nat)(LL:List (List KI))(P:Nat->KG)(C:Nat->Nat):Prop:=
 b<w.heap.size/\∀i,i<LL.length->w.cell? ⟨b,i,none⟩=some (.slice (P i) (LL.getD i []).length (C i))/\((P i=none/\C i=0/\LL.getD i []=[])\/∃p1 p2,P i=some ⟨p1,p2,none⟩/\∀j u,(LL.getD i [])[j]? =some u->w.cell? ⟨p1,p2+j,none⟩=some u)
theorem Cw.kept{w w':KH}{b:Nat}{a:List (List KI)}{P:Nat->KG}{C:Nat->Nat}(h:Cw w b a P C)(k:K_ w w'):Cw w' b a P C:=
 ⟨I_ h.1 k.size,fun i c=>⟨by rw[k.cell h.1];exact (h.2 i c).1,by
  rcases (h.2 i c).2 with g|⟨e,f,l,g⟩
  ·exact .inl g
  ·exact .inr ⟨e,f,l,fun j u d=>by rw[k.cell (World.block_lt_of_cell? _ _ (g j u d))];exact g j u d⟩⟩⟩
theorem BX(a:List (List KI))(k:Nat)(h:k<a.length):(a.take (k+1)).flatten= (a.take k).flatten++a.getD k []:=by
 rw[Jf h,List.flatten_append];simp[List.getD,h]
theorem El(a:List (List KI))(k:Nat):(a.take k).flatten.length=sumTo List.length a k:=by
 unfold sumTo;rw[List.length_flatten]
theorem zS(w:KH)(b S:Nat)(a:List (List KI))(P:Nat->KG)(C:Nat->Nat)(hm:a.length<=3)(T:(a.map List.length).sum<=3145728)(U:∀l∈a,∀u∈l,u.oneCell'=true)(p:Cw w b a P C):
  Calls prog 165 #[.slice (some ⟨b,0,none⟩) a.length S] w fun e w'=>∃v,e= .returned v/\w'.ownsRow w.heap.size 103 1 v a.flatten.length a.flatten/\K_ w w':=by
 go_enter func165,ntmps165
 go_wp2
 go_loop [3,11] (fun A i=>∃k:Nat,k<=a.length/\i= .int .i64 k/\A= .int .i64 (sumTo List.length a k:Nat)) (fun _ i=>a.length-(intOf i).toNat)
 case atStart=>exact⟨0,Ja _,rfl,by rw[AY];rfl⟩
 case round=>
  obtain⟨k,V,rfl,rfl⟩:=hrel;by_cases f:k<a.length
  ·have h:=(p.2 k f).1;have H:Hid (sumTo List.length a (k+1)=sumTo List.length a k+ (a.getD k []).length):=Bt _ a _ k f;have W:=sumTo_le List.length a (k+1);have a8:sumTo List.length a k+ (a.getD k []).length<=3145728:=by have:=H.o;omega
   generalize sumTo List.length a k=z at *;generalize (a.getD k []).length=y at *;generalize P k=pk at *;clear W;go_wp2
   go_round
   case rel=>exact⟨k+1,by omega,by go_num,by rw[H.o];go_num⟩
   case measure=>simp[intOf];omega
  ·have B:k=a.length:=by omega
   subst B;have X:sumTo List.length a a.length<=3145728:=by rw[Dn];exact T
   generalize sumTo List.length a a.length=z at *;go_wp2_with fail
   refine (DJ _ z X).mono ?_;rintro e w1 ⟨v1,rfl,c,Y⟩;go_wp2
   go_loopw [6,27] (fun A i wr=>∃(k:Nat),k<=a.length/\i= .int .i64 k/\wr.ownsRow w.heap.size 103 1 A (a.take k).flatten.length (a.take k).flatten/\K_ w wr) (fun _ i _=>a.length-(intOf i).toNat)
   case atStart=>exact⟨0,Ja _,rfl,by simpa using c,Y⟩
   case round=>
    obtain⟨k,V,rfl,c,d⟩:=hrel;by_cases f:k<a.length
    ·have h:=((p.kept d).2 k f).1;have a9:=(p.kept d).1;have I:=((p.kept d).2 k f).2;have n:=BX a k f;have q:=El a (k+1);have Z:=sumTo_le List.length a (k+1);rw[n,JH] at q;have D:=U (a.getD k []) (by simp[List.getD,f]);obtain⟨y,J⟩:=ah (a.getD k []);obtain⟨r,K⟩:=ah ((a.take k).flatten);rw[<-J] at h I q n D;rw[<-K] at c q n;have b0:r.length+y.length<=3145728:=by omega
     have⟨s,j⟩:=aD n c;have a0:=d.size;clear q Z n J K;rcases I with⟨E,e2,L⟩|⟨M,N,E,O⟩
     ·rw[E,e2,L] at h;rw[L,List.append_nil] at s;rcases c.2 with⟨F,h0⟩|⟨g,cp,b1,F,b2,Q,b3,_,_,_⟩
      ·subst F;simp only[List.length_nil] at h;clear c;go_wp2
       go_roundw
       case rel=>exact⟨k+1,by omega,by go_num,by rw[s.o];exact j.o,d⟩
       case measure=>simp[intOf];omega
      ·subst F;simp only[List.length_nil] at h;have b4:(r.length:Int)<=(cp:Int):=by omega
       have b5:=aN Q;clear c Q;go_wp2
       go_roundw
       case rel=>exact⟨k+1,by omega,by go_num,by rw[s.o];exact j.o,d⟩
       case measure=>simp[intOf];omega
     ·rw[E] at h;have R:∀t u,y[t]? =some u->wr.cell? ((⟨M,N,none⟩:Addr).add t)=some u:=fun t u hu=>by
       rw[JL];exact O t u hu
      obtain⟨i0,hi,a1,a2,a3⟩:=info_parts Tryz.uT;have⟨a4,a5⟩:=aD R D;obtain⟨m,G⟩:=ah y.length;rw[<-G] at h;have x:=Kz G;clear R D O c G;go_wp2_with (at_builtin;refine wpList_append_own _ rfl (.tmp 31) (.tmp 32) 102 rfl w.heap.size 103 i0 _ 1 8 underlying102 hi a1 a2 a3 rfl (by decide) _ r.length r rfl j.o ⟨M,N,none⟩ m (C k) y rfl (by have:=x.o;omega) a4.o a5.o (by have:=x.o;unfold maxLen;omega) (by have:=x.o;omega) a0 ?_;intro v' w2 a6 a7 _)
      go_roundw
      case rel=>exact⟨k+1,by omega,by go_num,by rw[s.o,JH,<-x.o];exact a6,aF d (IZ _) j.o a7⟩
      case measure=>simp[intOf];omega
    ·have B:k=a.length:=by omega
     subst B;rw[JB] at c;have j:=Kz c;clear c;go_wp2
     go_ret
     exact⟨_,rfl,j.o,d⟩
theorem Tryz.nS :(prog.info? 106).map (·.size)=some 2:=by kernel_rfl
def Cr(w:KH)(A:KG)(c:Nat)(ys:List KI):Prop:=(A=none/\c=0/\ys=[])\/∃p1 p2,A=some ⟨p1,p2,none⟩/\∀j u,ys[j]? =some u->w.cell? ⟨p1,p2+j,none⟩=some u
theorem l_{w2:KH}{a:List KI}{p n c1 c3 tb:Nat}{A1 A3:KG}(D:a.length=n)(s:n<=1000)(G:p<=n)(E:∀u∈a,u.oneCell'=true)(H:Cr w2 A1 c1 (a.take p))(I:Cr w2 A3 c3 (a.drop p)){m:Nat}(M:m=n+1):
  Calls prog 165 #[.slice (some ⟨w2.heap.size+1,0,none⟩) 3 3] ((w2.alloc (.cells #[.pointer (some ⟨tb,0,none⟩)] 103)).alloc (.cells #[.slice A1 p c1,.slice (some ⟨w2.heap.size,0,none⟩) 1 1,.slice A3 (n-p) c3] 102)).drew
   fun e w'=>∃d f base,e= .returned (.slice d m f)/\w2.heap.size<=base/\w'.ownsRow base 103 1 (.slice d m f) m (a.take p++ .pointer (some ⟨tb,0,none⟩) :: a.drop p)/\K_ w2 w':=by
 have h:K_ w2 ((w2.alloc (.cells #[.pointer (some ⟨tb,0,none⟩)] 103)).alloc (.cells #[.slice A1 p c1,.slice (some ⟨w2.heap.size,0,none⟩) 1 1,.slice A3 (n-p) c3] 102)).drew:=((ag _ _).alloc _).drew;have J:=oV (w:=w2) (x:= .pointer (some ⟨tb,0,none⟩)) (t:=103) (((K_.refl _).alloc (.cells #[.slice A1 p c1,.slice (some ⟨w2.heap.size,0,none⟩) 1 1,.slice A3 (n-p) c3] 102)).drew);have F:∀{A c k},Cr w2 A c k->∀W,K_ w2 W->(A=none/\c=0/\k=[])\/∃l q,A=some ⟨l,q,none⟩/\∀j u,k[j]? =some u->W.cell? ⟨l,q+j,none⟩=some u:=by
  intro A c k y W B;rcases y with y|⟨l,q,e,g⟩
  ·exact .inl y
  ·exact .inr ⟨l,q,e,fun j u b=>by rw[B.cell (World.block_lt_of_cell? _ _ (g j u b))];exact g j u b⟩
 have K:([a.take p,[.pointer (some ⟨tb,0,none⟩)],a.drop p]:List (List KI)).flatten=a.take p++ .pointer (some ⟨tb,0,none⟩) :: a.drop p:=by simp
 refine (zS _ (w2.heap.size+1) 3 [a.take p,[.pointer (some ⟨tb,0,none⟩)],a.drop p] (fun i=>if i=0 then A1 else if i=1 then some ⟨w2.heap.size,0,none⟩ else A3) (fun i=>if i=0 then c1 else if i=1 then 1 else c3) (by simp) (by simp[List.length_take,List.length_drop];omega) ?_ ⟨?_,fun i C=>?_⟩).mono ?_
 ·intro N s u b;simp only[JN,JO,or_false] at s;rcases s with rfl|rfl|rfl
  ·exact E u (List.mem_of_mem_take b)
  ·simp at b;subst b;rfl
  ·exact E u (List.mem_of_mem_drop b)
 ·show w2.heap.size+1<((w2.alloc _).alloc _).heap.size;simp
 ·match i,C with
  | 0,_=>exact⟨by simp[List.length_take,Nat.min_eq_left (D ▸ G)],F H _ h⟩
  | 1,_=>exact⟨by simp,.inr ⟨w2.heap.size,0,rfl,fun j u b=>by
    match j,b with
    | 0,b=>simp at b;subst b;exact J
    | j+1,b=>simp at b⟩⟩
  | 2,_=>exact⟨by simp[List.length_drop,D],F I _ h⟩
  | i+3,C=>exfalso;simp at C;omega
 ·rintro e w' ⟨v,rfl,r,B⟩;rw[K] at r;have L:(a.take p++ .pointer (some ⟨tb,0,none⟩) :: a.drop p).length=m:=by rw[JH,JK,Jt,List.length_drop];omega
  rw[L] at r;obtain⟨d,f,rfl⟩:=ax r;exact⟨d,f,_,rfl,h.size,r,h.trans B⟩
def EE(l:List Qz)(n:KC)(tb:Nat)(xs:List KI)(w w':KH)(e:Ending):Prop:=
 ∃(m:Nat) (a:KG) (cap base p:Nat),m=l.length+1/\e= .returned (.agg #[.slice a m cap,.func (.func 101) #[] #[]])/\w.heap.size<=base/\w'.ownsRow base 103 1 (.slice a m cap) m (xs.take p++ .pointer (some ⟨tb,0,none⟩) :: xs.drop p)/\Place l n.toList p/\K_ w w'
theorem tQ{w a:KH}{x y:KI}{t:TypeId}(K:K_ (w.alloc (.cells #[x,y] t)) a):a.cell? ⟨w.heap.size,0,none⟩=some x/\a.cell? ⟨w.heap.size,1,none⟩=some y:=
 ⟨(K.cell (by simp)).trans (X_ w #[x,y] t 0 _ rfl),(K.cell (by simp)).trans (X_ w #[x,y] t 1 _ rfl)⟩
theorem jq.one{w:KH}{a:List KI}{l:List Qz}(h:jq w a l):∀u∈a,u.oneCell'=true:=by
 intro u c;obtain⟨i,b,rfl⟩:=Jk c;obtain⟨d,_,_,e,_⟩:=h.2 i (by rw[<-h.1];exact b);rw[Jd b] at e;rw[JR e]
 rfl
abbrev uB (w:KH) (a:KG) (n cap:Nat):KH:=(w.alloc (.cells #[.slice a n cap,.func (.func 101) #[] #[]] 106)).alloc (.cells #[.slice none 0 0,.nilFunc] 106)
theorem Di(w:KH)(a:KG)(b:Nat)(l:List Qz)(d:Qz)(r:List KI)(a3 tb:Nat)(hl:l.length<=100)(hr:fG l)(a4:∀j,j<l.length->nameAt l j≠d.name.toList)(N:w.ownsRow a3 103 1 (.slice a l.length b) l.length r)(X:jq w r l)(a5:tb<w.heap.size)(a6:w.cell? ⟨tb,0,none⟩=some (.string d.name)):
  Calls prog 135 #[.agg #[.slice a l.length b,.func (.func 101) #[] #[]],.pointer (some ⟨tb,0,none⟩)] w fun e w'=>EE l d.name tb r w w' e:=by
 have Y:=eH N;have O:r.length=l.length:=by have:=N.1;omega
 have F:K_ w (uB w a l.length b):=(ag _ _).alloc _;have Z:Hid (∀w',K_ (uB w a l.length b) w'->(fun w'=>w'.cell? ⟨w.heap.size,0,none⟩=some (.slice a l.length b)/\w'.cell? ⟨w.heap.size,1,none⟩=some (.func (.func 101) #[] #[])) w'):=fun w' k=>tQ (w:=w) (K_.trans (ag _ _) k)
 have a7:Hid (Row (uB w a l.length b) (w.heap.size+1) 2):=by have:=Row.made (w.alloc (.cells #[.slice a l.length b,.func (.func 101) #[] #[]] 106)) #[.slice none 0 0,.nilFunc] 106;show Row _ _ _;simpa using this
 go_enter func135,ntmps135
 go_wp2
 go_region_held (fun w'=>w'.cell? ⟨w.heap.size,0,none⟩=some (.slice a l.length b)/\w'.cell? ⟨w.heap.size,1,none⟩=some (.func (.func 101) #[] #[])) (exact aW Z _ (by repeat (first | (with_reducible exact K_.refl _) | (with_reducible assumption) | apply K_.drew))) ((first | (go_at_call 101;refine (sS _ tb d.name ((K_.cell (F.trans (by repeat (first | (with_reducible exact K_.refl _) | (with_reducible assumption) | apply K_.drew))) a5).trans a6)).mono ?_;rintro e w1 ⟨rfl,rfl⟩) | (go_at_call 117;refine (vW _ a b l d.name (by omega) hr r (X.kept (F.trans (by repeat (first | (with_reducible exact K_.refl _) | (with_reducible assumption) | apply K_.drew)))) (Y.kept (F.trans (by repeat (first | (with_reducible exact K_.refl _) | (with_reducible assumption) | apply K_.drew))))).mono ?_;rintro e w2 ⟨a8,a0⟩;obtain⟨p,a1,rfl,hp,hf⟩:=a8;have G:K_ (uB w a l.length b) w2:=K_.trans (by repeat (first | (with_reducible exact K_.refl _) | (with_reducible assumption) | apply K_.drew)) a0;have H:=Kz hp;have HF:=Kz hf;clear hp hf a0)))
 all_goals
  have a9:a1=false:=by
   cases a1
   ·rfl
   ·have:=HF.o.1 rfl;exact Ki this.2 (a4 p this.1)
  subst a9;have z2:=G.size;simp only[uB,JG] at z2;have I:=F.trans G;have P:=Z.o w2 G;have J:=a7.o.kept G;obtain⟨⟨_,x0⟩,g0⟩:=J.at (i:=0) (by omega);obtain⟨⟨_,x1⟩,g1⟩:=J.at (i:=1) (by omega);have Q:=Kz J;have R:=H.o.le;clear J;obtain⟨m,v⟩:=ah (l.length+1);have S:=Kz v;have T:Hid (∀w',Xj (w.heap.size+1) (w.heap.size+2) w2 w'->(fun w'=>w'.cell? ⟨w.heap.size,0,none⟩=some (.slice a l.length b)/\w'.cell? ⟨w.heap.size,1,none⟩=some (.func (.func 101) #[] #[])) w'):=fun w' k=>
   have ks:=k.same (l2:=w.heap.size) (h2:=w.heap.size+1) (by omega)
   ⟨(ks.cell (IZ _) (by omega) (by omega)).trans P.1,(ks.cell (IZ _) (by omega) (by omega)).trans P.2⟩
  obtain⟨s1,s2⟩:=P;have x:=X.one;have K:=Y.kept I;have u0:w.heap.size<w2.heap.size:=by omega
  have u2:w.heap.size+1<w2.heap.size:=by omega
  rcases N.2 with⟨y,h0⟩|⟨g,cp,b3,y,_,hg,b4,_,_,_⟩
  ·simp only[JJ] at y;obtain⟨U,_,V⟩:=y;subst U V;have b0:p=0:=by omega
   subst b0;have W:r=[]:=Kn (by omega);have n:=l_ (w2:=w2) (c1:=0) (c3:=0) (tb:=tb) (A1:=none) (A3:=none) O (by omega) R x (.inl ⟨rfl,rfl,by rw[W];rfl⟩) (.inl ⟨rfl,rfl,by rw[W];rfl⟩) v;obtain rfl:l=[]:=Kn h0;simp only[List.length_nil,Nat.zero_sub] at n s1;have A:=Kz n;clear n W x K v;go_wp2
   go_region_held (fun w'=>w'.cell? ⟨w.heap.size,0,none⟩=some (.slice none 0 0)/\w'.cell? ⟨w.heap.size,1,none⟩=some (.func (.func 101) #[] #[])) (exact aW T _ (by repeat (first | exact Xj.refl _ _ _ | exact Xj.aC (by assumption) | apply Xj.drew | (refine Xj.setCell ?_ (by simp) (by simp) _) | apply Xj.alloc))) ((go_at_call 165;refine (aW A).mono ?_;rintro e s ⟨c,f,base,rfl,a2,t,k⟩;have q:=Kz (Q.o.kept k);obtain⟨⟨_,y0⟩,e0⟩:=q.o.at (i:=0) (by omega);obtain⟨⟨_,y1⟩,e1⟩:=q.o.at (i:=1) (by omega);have B:=Kz t;clear t))
   all_goals
    go_wp2
    have C:=Jc s (w.heap.size+1) 0 [.slice c m f,.func (.func 101) #[] #[]] (q.o.there (o:=0) (m:=2) (IZ _));have D:K_ w ((s.setCell ⟨w.heap.size+1,0,none⟩ (.slice c m f)).setCell ⟨w.heap.size+1,1,none⟩ (.func (.func 101) #[] #[])):=((I.trans k).setCell (by simp) _).setCell (by simp) _;have E:=aR (aR B.o (p:=⟨w.heap.size+1,0,none⟩) (by simp <;> omega) (.slice c m f)) (p:=⟨w.heap.size+1,1,none⟩) (by simp <;> omega) (.func (.func 101) #[] #[]);exact Zx [.slice c m f,.func (.func 101) #[] #[]] _ results135 rfl C underlying106 rfl Tryz.nS rfl ⟨m,c,f,base,_,S.o,rfl,by omega,E,H.o,D⟩
  ·simp only[JJ] at y;obtain⟨U,_,V⟩:=y;subst U V;have L:∀j u,r[j]? =some u->w2.cell? ⟨g,0+j,none⟩=some u:=fun j u h=>by
    obtain⟨b',o',e',_,b1⟩:=K j (Je.1 h).1;simp only[JI,Kv,and_true] at e';obtain⟨rfl,rfl⟩:=e';exact b1 j u h
   have M:Cr w2 (some ⟨g,0,none⟩) b (r.take p):= .inr ⟨g,0,rfl,fun j u h=>L j u (by rw[List.getElem?_take] at h;split at h;exact h;cases h)⟩;have i1:(p:Int)<=(b:Int):=by omega
   have i2:(p:Int)<=(l.length:Int):=by omega
   by_cases b2:b=p
   ·have b5:l.length=p:=by omega
    have n:=l_ (w2:=w2) (c1:=p) (c3:=0) (tb:=tb) (A1:=some ⟨g,0,none⟩) (A3:=some ⟨g,0,none⟩) O (by omega) R x (b2 ▸ M) (.inr ⟨g,0,rfl,fun j u h=>by rw[List.drop_eq_nil_of_le (by omega)] at h;simp at h⟩) v;rw[show l.length-p=0 by omega] at n;have A:=Kz n;clear n x K L M v;go_wp2
    go_region_held (fun w'=>w'.cell? ⟨w.heap.size,0,none⟩=some (.slice (some ⟨g,0,none⟩) l.length b)/\w'.cell? ⟨w.heap.size,1,none⟩=some (.func (.func 101) #[] #[])) (exact aW T _ (by repeat (first | exact Xj.refl _ _ _ | exact Xj.aC (by assumption) | apply Xj.drew | (refine Xj.setCell ?_ (by simp) (by simp) _) | apply Xj.alloc))) ((go_at_call 165;refine (aW A).mono ?_;rintro e s ⟨c,f,base,rfl,a2,t,k⟩;have q:=Kz (Q.o.kept k);obtain⟨⟨_,y0⟩,e0⟩:=q.o.at (i:=0) (by omega);obtain⟨⟨_,y1⟩,e1⟩:=q.o.at (i:=1) (by omega);have B:=Kz t;clear t))
    all_goals
     go_wp2
     have C:=Jc s (w.heap.size+1) 0 [.slice c m f,.func (.func 101) #[] #[]] (q.o.there (o:=0) (m:=2) (IZ _));have D:K_ w ((s.setCell ⟨w.heap.size+1,0,none⟩ (.slice c m f)).setCell ⟨w.heap.size+1,1,none⟩ (.func (.func 101) #[] #[])):=((I.trans k).setCell (by simp) _).setCell (by simp) _;have E:=aR (aR B.o (p:=⟨w.heap.size+1,0,none⟩) (by simp <;> omega) (.slice c m f)) (p:=⟨w.heap.size+1,1,none⟩) (by simp <;> omega) (.func (.func 101) #[] #[]);exact Zx [.slice c m f,.func (.func 101) #[] #[]] _ results135 rfl C underlying106 rfl Tryz.nS rfl ⟨m,c,f,base,_,S.o,rfl,by omega,E,H.o,D⟩
   ·have n:=l_ (w2:=w2) (c1:=b) (c3:=b-p) (tb:=tb) (A1:=some ⟨g,0,none⟩) (A3:=some ⟨g,0+p*1,none⟩) O (by omega) R x M (.inr ⟨g,0+p*1,rfl,fun j u h=>by rw[List.getElem?_drop] at h;have:=L _ u h;rw[show 0+p*1+j=0+ (p+j) by omega];exact this⟩) v;simp only[Nat.mul_one,JA] at n;have A:=Kz n;clear n x K L M v;go_wp2
    go_region_held (fun w'=>w'.cell? ⟨w.heap.size,0,none⟩=some (.slice (some ⟨g,0,none⟩) l.length b)/\w'.cell? ⟨w.heap.size,1,none⟩=some (.func (.func 101) #[] #[])) (exact aW T _ (by repeat (first | exact Xj.refl _ _ _ | exact Xj.aC (by assumption) | apply Xj.drew | (refine Xj.setCell ?_ (by simp) (by simp) _) | apply Xj.alloc))) ((go_at_call 165;refine (aW A).mono ?_;rintro e s ⟨c,f,base,rfl,a2,t,k⟩;have q:=Kz (Q.o.kept k);obtain⟨⟨_,y0⟩,e0⟩:=q.o.at (i:=0) (by omega);obtain⟨⟨_,y1⟩,e1⟩:=q.o.at (i:=1) (by omega);have B:=Kz t;clear t))
    all_goals
     go_wp2
     have C:=Jc s (w.heap.size+1) 0 [.slice c m f,.func (.func 101) #[] #[]] (q.o.there (o:=0) (m:=2) (IZ _));have D:K_ w ((s.setCell ⟨w.heap.size+1,0,none⟩ (.slice c m f)).setCell ⟨w.heap.size+1,1,none⟩ (.func (.func 101) #[] #[])):=((I.trans k).setCell (by simp) _).setCell (by simp) _;have E:=aR (aR B.o (p:=⟨w.heap.size+1,0,none⟩) (by simp <;> omega) (.slice c m f)) (p:=⟨w.heap.size+1,1,none⟩) (by simp <;> omega) (.func (.func 101) #[] #[]);exact Zx [.slice c m f,.func (.func 101) #[] #[]] _ results135 rfl C underlying106 rfl Tryz.nS rfl ⟨m,c,f,base,_,S.o,rfl,by omega,E,H.o,D⟩
