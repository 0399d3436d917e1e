import Derived.Test.YtgnkgfjmbmcfcaaGreatDoorKBTask
set_option maxRecDepth 100000
set_option maxHeartbeats 25600000
namespace Go.Proofs.YtgnkgfjmbmcfcaaGreatDoor
open Go.RowKit Go.Proofs.Tryz
theorem Tryz.yZ :(prog.info? 145).map (fun i=>(i.zero,i.size,i.bytes))=some (some (.pointer none),1,8):=by kernel_rfl
theorem IR(w:Qy)(n:Nat)(m:n<=3145728):
  Calls prog 177 #[.slice none 0 0,.int .i64 n] w fun e w'=>∃v,e= .returned v/\w'.ownsRow w.heap.size 145 1 v 0 []/\K_ w w':=by
 by_cases b:n=0
 ·subst b;go_enter func177,ntmps177
  go_wp2
  go_ret
  exact⟨_,rfl,PU _ _ _ _,K_.refl _⟩
 ·obtain⟨c,d,f,g,h⟩:=info_parts Tryz.yZ;have a:=fun i=>Lib.run_append_nil_zeros (P:=prog) w 123 3 i 145 c _ .i64 .i64 underlying123 Tryz.NT d f n (by omega) (by rw[g];omega) (by omega) (by rw[h];omega)
  have p:=grownCap_ge w n 0 145;have j:=grownCap_le_maxLen w n 0 145 (by unfold maxLen;omega);have k:=Kz a;clear a;have q:(0:Int)<(n:Int):=by omega
  go_enter func177,ntmps177
  go_wp2_with (at_builtin;refine Lib.wpList_append_run _ rfl (.tmp 20) (.tmp 21) _ _ rfl _ _ rfl rfl _ _ (k.o _) ?_)
  go_ret
  refine⟨_,rfl,World.ownsRow.drew (Pz w _ _ (OU _) j ?_),(ak _ _).drew⟩;simp only[Array.size_append,size_zeroCells];have l:(#[Value.pointer none]:Array QA).size=1:=rfl;rw[l,<-Nat.add_mul]
  congr 1
  omega
def He(w:Qy)(b:Nat)(LL:List (List QA))(P:Nat->Qx)(C:Nat->Nat):Prop:=
 b<w.heap.size/\∀i,i<LL.length->w.cell? ⟨b,i,none⟩=some (.slice (P i) (LL.getD i []).length (C i))/\((P i=none/\C i=0/\LL.getD i []=[])\/∃p1 p2,P i=some ⟨p1,p2,none⟩/\∀j u,(LL.getD i [])[j]? =some u->w.cell? ⟨p1,p2+j,none⟩=some u)
theorem He.kept{w w':Qy}{b:Nat}{a:List (List QA)}{P:Nat->Qx}{C:Nat->Nat}(h:He w b a P C)(k:K_ w w'):He w' b a P C:=
 ⟨OV h.1 k.size,fun i c=>⟨by rw[k.cell h.1];exact (h.2 i c).1,by
  rcases (h.2 i c).2 with g|⟨f,l,e,g⟩
  ·exact .inl g
  ·exact .inr ⟨f,l,e,fun j u d=>by rw[k.cell (World.block_lt_of_cell? _ _ (g j u d))];exact g j u d⟩⟩⟩
theorem EU(a:List (List QA))(k:Nat)(h:k<a.length):(a.take (k+1)).flatten= (a.take k).flatten++a.getD k []:=by
 rw[Pb h,List.flatten_append];simp[List.getD,h]
theorem Iw(a:List (List QA))(k:Nat):(a.take k).flatten.length=sumTo List.length a k:=by
 unfold sumTo;rw[List.length_flatten]
theorem Dt(w:Qy)(b cap:Nat)(a:List (List QA))(P:Nat->Qx)(C:Nat->Nat)(hm:a.length<=3)(R:(a.map List.length).sum<=3145728)(S:∀l∈a,∀u∈l,u.oneCell'=true)(n:He w b a P C):
  Calls prog 150 #[.slice (some ⟨b,0,none⟩) a.length cap] w fun e w'=>∃v,e= .returned v/\w'.ownsRow w.heap.size 145 1 v a.flatten.length a.flatten/\K_ w w':=by
 go_enter func150,ntmps150
 go_wp2
 go_loop [3,11] (fun x i=>∃k:Nat,k<=a.length/\i= .int .i64 k/\x= .int .i64 (sumTo List.length a k:Nat)) (fun _ i=>a.length-(intOf i).toNat)
 case atStart=>exact⟨0,OW _,rfl,by rw[eD];rfl⟩
 case round=>
  obtain⟨k,T,rfl,rfl⟩:=hrel;by_cases f:k<a.length
  ·have h:=(n.2 k f).1;have F:Hid (sumTo List.length a (k+1)=sumTo List.length a k+ (a.getD k []).length):=iK _ a _ k f;have U:=sumTo_le List.length a (k+1);have a9:sumTo List.length a k+ (a.getD k []).length<=3145728:=by have:=F.o;omega
   generalize sumTo List.length a k=G at *;generalize (a.getD k []).length=y at *;generalize P k=pk at *;clear U;go_wp2
   go_round
   case rel=>exact⟨k+1,by omega,by go_num,by rw[F.o];go_num⟩
   case measure=>simp[intOf];omega
  ·have z:k=a.length:=by omega
   subst z;have V:sumTo List.length a a.length<=3145728:=by rw[jD];exact R
   generalize sumTo List.length a a.length=G at *;go_wp2_with fail
   refine (IR _ G V).mono ?_;rintro e w1 ⟨v1,rfl,c,W⟩;go_wp2
   go_loopw [6,27] (fun x i wr=>∃(k:Nat),k<=a.length/\i= .int .i64 k/\wr.ownsRow w.heap.size 145 1 x (a.take k).flatten.length (a.take k).flatten/\K_ w wr) (fun _ i _=>a.length-(intOf i).toNat)
   case atStart=>exact⟨0,OW _,rfl,by simpa using c,W⟩
   case round=>
    obtain⟨k,T,rfl,c,d⟩:=hrel;by_cases f:k<a.length
    ·have h:=((n.kept d).2 k f).1;have b0:=(n.kept d).1;have H:=((n.kept d).2 k f).2;have m:=EU a k f;have p:=Iw a (k+1);have X:=sumTo_le List.length a (k+1);rw[m,PM] at p;have A:=S (a.getD k []) (by simp[List.getD,f]);obtain⟨y,I⟩:=ag (a.getD k []);obtain⟨q,J⟩:=ag ((a.take k).flatten);rw[<-I] at h H p m A;rw[<-J] at c p m;have b1:q.length+y.length<=3145728:=by omega
     have⟨r,j⟩:=aD m c;have Y:=d.size;clear p X m I J;rcases H with⟨B,Z,K⟩|⟨L,M,B,N⟩
     ·rw[B,Z,K] at h;rw[K,List.append_nil] at r;rcases c.2 with⟨D,h0⟩|⟨g,a0,b2,D,b3,O,b4,_,_,_⟩
      ·subst D;simp only[List.length_nil] at h;clear c;go_wp2
       go_roundw
       case rel=>exact⟨k+1,by omega,by go_num,by rw[r.o];exact j.o,d⟩
       case measure=>simp[intOf];omega
      ·subst D;simp only[List.length_nil] at h;have b5:(q.length:Int)<=(a0:Int):=by omega
       have b6:=aV O;clear c O;go_wp2
       go_roundw
       case rel=>exact⟨k+1,by omega,by go_num,by rw[r.o];exact j.o,d⟩
       case measure=>simp[intOf];omega
     ·rw[B] at h;have Q:∀s u,y[s]? =some u->wr.cell? ((⟨L,M,none⟩:Addr).add s)=some u:=fun s u hu=>by
       rw[PQ];exact N s u hu
      obtain⟨i0,hi,a1,a2,a3⟩:=info_parts Tryz.yZ;have⟨a4,a5⟩:=aD Q A;obtain⟨a6,E⟩:=ag y.length;rw[<-E] at h;have t:=Kz E;clear Q A N c E;go_wp2_with (at_builtin;refine wpList_append_own _ rfl (.tmp 31) (.tmp 32) 123 rfl w.heap.size 145 i0 _ 1 8 underlying123 hi a1 a2 a3 rfl (by decide) _ q.length q rfl j.o ⟨L,M,none⟩ a6 (C k) y rfl (by have:=t.o;omega) a4.o a5.o (by have:=t.o;unfold maxLen;omega) (by have:=t.o;omega) Y ?_;intro v' w2 a7 a8 _)
      go_roundw
      case rel=>exact⟨k+1,by omega,by go_num,by rw[r.o,PM,<-t.o];exact a7,aC d (OU _) j.o a8⟩
      case measure=>simp[intOf];omega
    ·have z:k=a.length:=by omega
     subst z;rw[PE] at c;have j:=Kz c;clear c;go_wp2
     go_ret
     exact⟨_,rfl,j.o,d⟩
theorem Tryz.qh :(prog.info? 126).map (·.size)=some 2:=by kernel_rfl
def GX(w:Qy)(A:Qx)(c:Nat)(ys:List QA):Prop:=(A=none/\c=0/\ys=[])\/∃p1 p2,A=some ⟨p1,p2,none⟩/\∀j u,ys[j]? =some u->w.cell? ⟨p1,p2+j,none⟩=some u
theorem nW{w2:Qy}{a:List QA}{p n c1 c3 tb:Nat}{A1 A3:Qx}(B:a.length=n)(r:n<=1000)(F:p<=n)(C:∀u∈a,u.oneCell'=true)(G:GX w2 A1 c1 (a.take p))(H:GX w2 A3 c3 (a.drop p)){m:Nat}(L:m=n+1):
  Calls prog 150 #[.slice (some ⟨w2.heap.size+1,0,none⟩) 3 3] ((w2.alloc (.cells #[.pointer (some ⟨tb,0,none⟩)] 145)).alloc (.cells #[.slice A1 p c1,.slice (some ⟨w2.heap.size,0,none⟩) 1 1,.slice A3 (n-p) c3] 123)).drew
   fun e w'=>∃d f base,e= .returned (.slice d m f)/\w2.heap.size<=base/\w'.ownsRow base 145 1 (.slice d m f) m (a.take p++ .pointer (some ⟨tb,0,none⟩) :: a.drop p)/\K_ w2 w':=by
 have g:K_ w2 ((w2.alloc (.cells #[.pointer (some ⟨tb,0,none⟩)] 145)).alloc (.cells #[.slice A1 p c1,.slice (some ⟨w2.heap.size,0,none⟩) 1 1,.slice A3 (n-p) c3] 123)).drew:=((ak _ _).alloc _).drew;have I:=yc (w:=w2) (x:= .pointer (some ⟨tb,0,none⟩)) (t:=145) (((K_.refl _).alloc (.cells #[.slice A1 p c1,.slice (some ⟨w2.heap.size,0,none⟩) 1 1,.slice A3 (n-p) c3] 123)).drew);have D:∀{A c h},GX w2 A c h->∀W,K_ w2 W->(A=none/\c=0/\h=[])\/∃k l,A=some ⟨k,l,none⟩/\∀j u,h[j]? =some u->W.cell? ⟨k,l+j,none⟩=some u:=by
  intro A c h s W y;rcases s with s|⟨k,l,e,E⟩
  ·exact .inl s
  ·exact .inr ⟨k,l,e,fun j u b=>by rw[y.cell (World.block_lt_of_cell? _ _ (E j u b))];exact E j u b⟩
 have J:([a.take p,[.pointer (some ⟨tb,0,none⟩)],a.drop p]:List (List QA)).flatten=a.take p++ .pointer (some ⟨tb,0,none⟩) :: a.drop p:=by simp
 refine (Dt _ (w2.heap.size+1) 3 [a.take p,[.pointer (some ⟨tb,0,none⟩)],a.drop p] (fun i=>if i=0 then A1 else if i=1 then some ⟨w2.heap.size,0,none⟩ else A3) (fun i=>if i=0 then c1 else if i=1 then 1 else c3) (by simp) (by simp[List.length_take,List.length_drop];omega) ?_ ⟨?_,fun i z=>?_⟩).mono ?_
 ·intro M r u b;simp only[PS,PT,or_false] at r;rcases r with rfl|rfl|rfl
  ·exact C u (List.mem_of_mem_take b)
  ·simp at b;subst b;rfl
  ·exact C u (List.mem_of_mem_drop b)
 ·show w2.heap.size+1<((w2.alloc _).alloc _).heap.size;simp
 ·match i,z with
  | 0,_=>exact⟨by simp[List.length_take,Nat.min_eq_left (B ▸ F)],D G _ g⟩
  | 1,_=>exact⟨by simp,.inr ⟨w2.heap.size,0,rfl,fun j u b=>by
    match j,b with
    | 0,b=>simp at b;subst b;exact I
    | j+1,b=>simp at b⟩⟩
  | 2,_=>exact⟨by simp[List.length_drop,B],D H _ g⟩
  | i+3,z=>exfalso;simp at z;omega
 ·rintro e w' ⟨v,rfl,q,y⟩;rw[J] at q;have K:(a.take p++ .pointer (some ⟨tb,0,none⟩) :: a.drop p).length=m:=by rw[PM,PP,Pt,List.length_drop];omega
  rw[K] at q;obtain⟨d,f,rfl⟩:=aG q;exact⟨d,f,_,rfl,g.size,q,g.trans y⟩
def Lg(l:List Qz)(n:Qw)(tb:Nat)(xs:List QA)(w w':Qy)(e:Ending):Prop:=
 ∃(m:Nat) (a:Qx) (cap base p:Nat),m=l.length+1/\e= .returned (.agg #[.slice a m cap,.func (.func 63) #[] #[]])/\w.heap.size<=base/\w'.ownsRow base 145 1 (.slice a m cap) m (xs.take p++ .pointer (some ⟨tb,0,none⟩) :: xs.drop p)/\Place l n.toList p/\K_ w w'
theorem EQ{w a:Qy}{x y:QA}{t:TypeId}(K:K_ (w.alloc (.cells #[x,y] t)) a):a.cell? ⟨w.heap.size,0,none⟩=some x/\a.cell? ⟨w.heap.size,1,none⟩=some y:=
 ⟨(K.cell (by simp)).trans (X_ w #[x,y] t 0 _ rfl),(K.cell (by simp)).trans (X_ w #[x,y] t 1 _ rfl)⟩
theorem kL.one{w:Qy}{a:List QA}{l:List Qz}(h:kL w a l):∀u∈a,u.oneCell'=true:=by
 intro u c;obtain⟨i,b,rfl⟩:=Ph c;obtain⟨d,_,_,e,_⟩:=h.2 i (by rw[<-h.1];exact b);rw[OZ b] at e;rw[PW e]
 rfl
abbrev xq (w:Qy) (a:Qx) (n cap:Nat):Qy:=(w.alloc (.cells #[.slice a n cap,.func (.func 63) #[] #[]] 126)).alloc (.cells #[.slice none 0 0,.nilFunc] 126)
theorem JF(w:Qy)(a:Qx)(cap:Nat)(l:List Qz)(d:Qz)(s:List QA)(a3 tb:Nat)(hl:l.length<=100)(hr:mV l)(a4:∀j,j<l.length->nameAt l j≠d.name.toList)(O:w.ownsRow a3 145 1 (.slice a l.length cap) l.length s)(Y:kL w s l)(a5:tb<w.heap.size)(a6:w.cell? ⟨tb,0,none⟩=some (.string d.name)):
  Calls prog 114 #[.agg #[.slice a l.length cap,.func (.func 63) #[] #[]],.pointer (some ⟨tb,0,none⟩)] w fun e w'=>Lg l d.name tb s w w' e:=by
 have Z:=dO O;have P:s.length=l.length:=by have:=O.1;omega
 have G:K_ w (xq w a l.length cap):=(ak _ _).alloc _;have a0:Hid (∀w',K_ (xq w a l.length cap) w'->(fun w'=>w'.cell? ⟨w.heap.size,0,none⟩=some (.slice a l.length cap)/\w'.cell? ⟨w.heap.size,1,none⟩=some (.func (.func 63) #[] #[])) w'):=fun w' k=>EQ (w:=w) (K_.trans (ak _ _) k)
 have a7:Hid (Row (xq w a l.length cap) (w.heap.size+1) 2):=by have:=Row.made (w.alloc (.cells #[.slice a l.length cap,.func (.func 63) #[] #[]] 126)) #[.slice none 0 0,.nilFunc] 126;show Row _ _ _;simpa using this
 go_enter func114,ntmps114
 go_wp2
 go_region_held (fun w'=>w'.cell? ⟨w.heap.size,0,none⟩=some (.slice a l.length cap)/\w'.cell? ⟨w.heap.size,1,none⟩=some (.func (.func 63) #[] #[])) (exact aP a0 _ (by repeat (first | (with_reducible exact K_.refl _) | (with_reducible assumption) | apply K_.drew))) ((first | (go_at_call 63;refine (yX _ tb d.name ((K_.cell (G.trans (by repeat (first | (with_reducible exact K_.refl _) | (with_reducible assumption) | apply K_.drew))) a5).trans a6)).mono ?_;rintro e w1 ⟨rfl,rfl⟩) | (go_at_call 149;refine (Aj _ a cap l d.name (by omega) hr s (Y.kept (G.trans (by repeat (first | (with_reducible exact K_.refl _) | (with_reducible assumption) | apply K_.drew)))) (Z.kept (G.trans (by repeat (first | (with_reducible exact K_.refl _) | (with_reducible assumption) | apply K_.drew))))).mono ?_;rintro e r ⟨a8,a1⟩;obtain⟨p,f,rfl,hp,hf⟩:=a8;have H:K_ (xq w a l.length cap) r:=K_.trans (by repeat (first | (with_reducible exact K_.refl _) | (with_reducible assumption) | apply K_.drew)) a1;have I:=Kz hp;have HF:=Kz hf;clear hp hf a1)))
 all_goals
  have a9:f=false:=by
   cases f
   ·rfl
   ·have:=HF.o.1 rfl;exact Qi this.2 (a4 p this.1)
  subst a9;have z2:=H.size;simp only[xq,PL] at z2;have J:=G.trans H;have Q:=a0.o r H;have K:=a7.o.kept H;obtain⟨⟨_,x0⟩,g0⟩:=K.at (i:=0) (by omega);obtain⟨⟨_,x1⟩,g1⟩:=K.at (i:=1) (by omega);have R:=Kz K;have S:=I.o.le;clear K;obtain⟨m,x⟩:=ag (l.length+1);have T:=Kz x;have U:Hid (∀w',Xj (w.heap.size+1) (w.heap.size+2) r w'->(fun w'=>w'.cell? ⟨w.heap.size,0,none⟩=some (.slice a l.length cap)/\w'.cell? ⟨w.heap.size,1,none⟩=some (.func (.func 63) #[] #[])) w'):=fun w' k=>
   have ks:=k.same (l2:=w.heap.size) (h2:=w.heap.size+1) (by omega)
   ⟨(ks.cell (OU _) (by omega) (by omega)).trans Q.1,(ks.cell (OU _) (by omega) (by omega)).trans Q.2⟩
  obtain⟨s1,s2⟩:=Q;have y:=Y.one;have L:=Z.kept J;have u0:w.heap.size<r.heap.size:=by omega
  have u2:w.heap.size+1<r.heap.size:=by omega
  rcases O.2 with⟨z,h0⟩|⟨g,cp,b3,z,_,hg,b4,_,_,_⟩
  ·simp only[PO] at z;obtain⟨V,_,W⟩:=z;subst V W;have b0:p=0:=by omega
   subst b0;have X:s=[]:=Qo (by omega);have n:=nW (w2:=r) (c1:=0) (c3:=0) (tb:=tb) (A1:=none) (A3:=none) P (by omega) S y (.inl ⟨rfl,rfl,by rw[X];rfl⟩) (.inl ⟨rfl,rfl,by rw[X];rfl⟩) x;obtain rfl:l=[]:=Qo h0;simp only[List.length_nil,Nat.zero_sub] at n s1;have A:=Kz n;clear n X y L x;go_wp2
   go_region_held (fun w'=>w'.cell? ⟨w.heap.size,0,none⟩=some (.slice none 0 0)/\w'.cell? ⟨w.heap.size,1,none⟩=some (.func (.func 63) #[] #[])) (exact aP U _ (by repeat (first | exact Xj.refl _ _ _ | exact Xj.aj (by assumption) | apply Xj.drew | (refine Xj.setCell ?_ (by simp) (by simp) _) | apply Xj.alloc))) ((go_at_call 150;refine (aP A).mono ?_;rintro e t ⟨b,c,B,rfl,a2,v,k⟩;have q:=Kz (R.o.kept k);obtain⟨⟨_,y0⟩,e0⟩:=q.o.at (i:=0) (by omega);obtain⟨⟨_,y1⟩,e1⟩:=q.o.at (i:=1) (by omega);have C:=Kz v;clear v))
   all_goals
    go_wp2
    have D:=OY t (w.heap.size+1) 0 [.slice b m c,.func (.func 63) #[] #[]] (q.o.there (o:=0) (m:=2) (OU _));have E:K_ w ((t.setCell ⟨w.heap.size+1,0,none⟩ (.slice b m c)).setCell ⟨w.heap.size+1,1,none⟩ (.func (.func 63) #[] #[])):=((J.trans k).setCell (by simp) _).setCell (by simp) _;have F:=bV (bV C.o (p:=⟨w.heap.size+1,0,none⟩) (by simp <;> omega) (.slice b m c)) (p:=⟨w.heap.size+1,1,none⟩) (by simp <;> omega) (.func (.func 63) #[] #[]);exact Zx [.slice b m c,.func (.func 63) #[] #[]] _ results114 rfl D underlying126 rfl Tryz.qh rfl ⟨m,b,c,B,_,T.o,rfl,by omega,F,I.o,E⟩
  ·simp only[PO] at z;obtain⟨V,_,W⟩:=z;subst V W;have M:∀j u,s[j]? =some u->r.cell? ⟨g,0+j,none⟩=some u:=fun j u h=>by
    obtain⟨b',o',e',_,b1⟩:=L j (O_.1 h).1;simp only[PN,Qt,and_true] at e';obtain⟨rfl,rfl⟩:=e';exact b1 j u h
   have N:GX r (some ⟨g,0,none⟩) cap (s.take p):= .inr ⟨g,0,rfl,fun j u h=>M j u (by rw[List.getElem?_take] at h;split at h;exact h;cases h)⟩;have i1:(p:Int)<=(cap:Int):=by omega
   have i2:(p:Int)<=(l.length:Int):=by omega
   by_cases b2:cap=p
   ·have b5:l.length=p:=by omega
    have n:=nW (w2:=r) (c1:=p) (c3:=0) (tb:=tb) (A1:=some ⟨g,0,none⟩) (A3:=some ⟨g,0,none⟩) P (by omega) S y (b2 ▸ N) (.inr ⟨g,0,rfl,fun j u h=>by rw[List.drop_eq_nil_of_le (by omega)] at h;simp at h⟩) x;rw[show l.length-p=0 by omega] at n;have A:=Kz n;clear n y L M N x;go_wp2
    go_region_held (fun w'=>w'.cell? ⟨w.heap.size,0,none⟩=some (.slice (some ⟨g,0,none⟩) l.length cap)/\w'.cell? ⟨w.heap.size,1,none⟩=some (.func (.func 63) #[] #[])) (exact aP U _ (by repeat (first | exact Xj.refl _ _ _ | exact Xj.aj (by assumption) | apply Xj.drew | (refine Xj.setCell ?_ (by simp) (by simp) _) | apply Xj.alloc))) ((go_at_call 150;refine (aP A).mono ?_;rintro e t ⟨b,c,B,rfl,a2,v,k⟩;have q:=Kz (R.o.kept k);obtain⟨⟨_,y0⟩,e0⟩:=q.o.at (i:=0) (by omega);obtain⟨⟨_,y1⟩,e1⟩:=q.o.at (i:=1) (by omega);have C:=Kz v;clear v))
    all_goals
     go_wp2
     have D:=OY t (w.heap.size+1) 0 [.slice b m c,.func (.func 63) #[] #[]] (q.o.there (o:=0) (m:=2) (OU _));have E:K_ w ((t.setCell ⟨w.heap.size+1,0,none⟩ (.slice b m c)).setCell ⟨w.heap.size+1,1,none⟩ (.func (.func 63) #[] #[])):=((J.trans k).setCell (by simp) _).setCell (by simp) _;have F:=bV (bV C.o (p:=⟨w.heap.size+1,0,none⟩) (by simp <;> omega) (.slice b m c)) (p:=⟨w.heap.size+1,1,none⟩) (by simp <;> omega) (.func (.func 63) #[] #[]);exact Zx [.slice b m c,.func (.func 63) #[] #[]] _ results114 rfl D underlying126 rfl Tryz.qh rfl ⟨m,b,c,B,_,T.o,rfl,by omega,F,I.o,E⟩
   ·have n:=nW (w2:=r) (c1:=cap) (c3:=cap-p) (tb:=tb) (A1:=some ⟨g,0,none⟩) (A3:=some ⟨g,0+p*1,none⟩) P (by omega) S y N (.inr ⟨g,0+p*1,rfl,fun j u h=>by rw[List.getElem?_drop] at h;have:=M _ u h;rw[show 0+p*1+j=0+ (p+j) by omega];exact this⟩) x;simp only[Nat.mul_one,PD] at n;have A:=Kz n;clear n y L M N x;go_wp2
    go_region_held (fun w'=>w'.cell? ⟨w.heap.size,0,none⟩=some (.slice (some ⟨g,0,none⟩) l.length cap)/\w'.cell? ⟨w.heap.size,1,none⟩=some (.func (.func 63) #[] #[])) (exact aP U _ (by repeat (first | exact Xj.refl _ _ _ | exact Xj.aj (by assumption) | apply Xj.drew | (refine Xj.setCell ?_ (by simp) (by simp) _) | apply Xj.alloc))) ((go_at_call 150;refine (aP A).mono ?_;rintro e t ⟨b,c,B,rfl,a2,v,k⟩;have q:=Kz (R.o.kept k);obtain⟨⟨_,y0⟩,e0⟩:=q.o.at (i:=0) (by omega);obtain⟨⟨_,y1⟩,e1⟩:=q.o.at (i:=1) (by omega);have C:=Kz v;clear v))
    all_goals
     go_wp2
     have D:=OY t (w.heap.size+1) 0 [.slice b m c,.func (.func 63) #[] #[]] (q.o.there (o:=0) (m:=2) (OU _));have E:K_ w ((t.setCell ⟨w.heap.size+1,0,none⟩ (.slice b m c)).setCell ⟨w.heap.size+1,1,none⟩ (.func (.func 63) #[] #[])):=((J.trans k).setCell (by simp) _).setCell (by simp) _;have F:=bV (bV C.o (p:=⟨w.heap.size+1,0,none⟩) (by simp <;> omega) (.slice b m c)) (p:=⟨w.heap.size+1,1,none⟩) (by simp <;> omega) (.func (.func 63) #[] #[]);exact Zx [.slice b m c,.func (.func 63) #[] #[]] _ results114 rfl D underlying126 rfl Tryz.qh rfl ⟨m,b,c,B,_,T.o,rfl,by omega,F,I.o,E⟩
