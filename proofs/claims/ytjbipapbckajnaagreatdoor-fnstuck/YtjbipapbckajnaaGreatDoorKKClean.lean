import Derived.Test.YtjbipapbckajnaaGreatDoorKLFind
import Derived.Test.YtjbipapbckajnaaGreatDoorKCAny
import Derived.Deep.WholeRow
set_option maxRecDepth 100000
set_option maxHeartbeats 25600000
namespace Go.Proofs.YtjbipapbckajnaaGreatDoor
open Go.RowKit Go.Proofs.Tryz
def lq(Kj:List Qq)(Kk:List Ps)(sl:List Qz)(ns:List Ps):Prop:=ns.length<=60/\((fK Kj Kk sl/\rR (bg (Q_ Kj) (Qj sl)) (sl.map (·.name)) ns)\/(¬fK Kj Kk sl/\ns=[]))
theorem lq.len{Kj:List Qq}{Kk:List Ps}{sl:List Qz}{a:List Ps}(h:lq Kj Kk sl a):a.length<=60:=h.1
section
variable {E : Ps -> Ps -> Prop}
theorem ng.all{g:Ps}{n:Nat}{a:Ps}{l:List Ps}(h:ng E g n a l):aV E n a g->l.length=n/\1<=n/\(∀i,i<n->aV E (n-i) (l.getD i ByteArray.empty) g)/\(∀i,i+1<n->E (l.getD i ByteArray.empty) (l.getD (i+1) ByteArray.empty))/\l.getD 0 ByteArray.empty=a:=by
 induction h with
 | stop a=>
  intro b;exact⟨rfl,NQ _,λi c=>(by obtain rfl:i=0:=A7;exact b),λi c=>A7,rfl⟩
 | @step n a x l h r ih=>
  intro b;obtain⟨d,m,f,j,k⟩:=ih h.1.2.1;refine⟨by rw[OH,d],A7,λi c=>?_,λi c=>?_,rfl⟩
  .cases i with
   | zero=>exact b
   | succ i=>
    have:=f i A7;have e:n+1-(i+1)=n-i:=A7;rw[e];exact this
  .cases i with
   | zero=>
    have e:(a :: l).getD 1 ByteArray.empty=l.getD 0 ByteArray.empty:=rfl;rw[Ow,e,k];exact h.1.1
   | succ i=>exact j i A7
structure Lt (E:Ps->Ps->Prop) (l:List Ps):Prop where
 next:∀i,i<l.length->E (l.getD i ByteArray.empty) (l.getD ((i+1) % l.length) ByteArray.empty)
 diff:∀i j,j<i->i<l.length->l.getD j ByteArray.empty≠l.getD i ByteArray.empty
 least:∀i,i<l.length->¬aR (l.getD i ByteArray.empty) (l.getD 0 ByteArray.empty)
 on:∀i,i<l.length->OnC E (l.getD i ByteArray.empty)
theorem xD{l:List Ps}(t:ou E l):Lt E l/\(l=[]->∀x,¬OnC E x):=by
 rcases t with⟨h,rfl⟩|⟨m,H,h,v,n,w⟩
 .exact⟨⟨λi a=>by simp at a,λi j _ a=>by simp at a,λi a=>by simp at a,λi a=>by simp at a⟩,λ_ x y=>by obtain⟨z,A⟩:=y;exact h x (z+1) A7 A⟩
 .obtain⟨d,_,p,q,f⟩:=w.all n.1;have r:∀k j,j+k<m->aV E k (l.getD j ByteArray.empty) (l.getD (j+k) ByteArray.empty):=λk=>by
   induction k with
   | zero=>intro j _;exact .here _
   | succ k ih=>
    intro j B;have:=(ih j A7).trans (aV.one (q (j+k) A7));exact this
  have round:∀i,i<m->aV E m (l.getD i ByteArray.empty) (l.getD i ByteArray.empty):=λi a=>by
   have c:=r i 0 A7;rw[Ow,f] at c;have:=(p i a).trans c;have e:m-i+i=m:=A7;rw[e] at this;exact this
  refine⟨⟨λi a=>?_,λi j B a e=>?_,λi a=>?_,λi a=>⟨m-1, ?_⟩⟩,λe=>?_⟩
  .by_cases s:i+1<m
   .rw[d,Nat.mod_eq_of_lt s];exact q i s
   .have C:i+1=m:=A7;rw[d,C,Nat.mod_self,f];have:=p i A7;have e:m-i=1:=A7;rw[e] at this;obtain⟨b,D,F⟩:=this.first
    rw[<-F.zero];exact D
  .have c:=r (i-j) j A7;have G:j+ (i-j)=i:=A7;rw[G,<-e] at c;have:=v _ (i-j) A7 c;omega
  .rw[f];exact n.2 _ (round i A7)
  .have:=round i A7;have e:m-1+1=m:=A7;rw[e];exact this
  .rw[e] at d;simp at d;omega
end
structure LW (L:List Qq) (Kk:List Ps) (sl:List Qz) (c:List Ps):Prop where
 wait:∀i,i<c.length->∀ns,mY L Kk sl (c.getD i ByteArray.empty) ns->c.getD ((i+1) % c.length) ByteArray.empty∈ns
 diff:∀i,i<c.length->c.getD i ByteArray.empty∉c.take i
 least:∀i,i<c.length->¬aR (c.getD i ByteArray.empty) (c.getD 0 ByteArray.empty)
 run:∀i,i<c.length->∃r∈sl,r.name=c.getD i ByteArray.empty
section
variable {L : List Qq} {Kk : List Ps} {sl : List Qz} {c ss : List Ps}
theorem DK(h:uK L Kk sl c):LW L Kk sl c:=by
 rcases h.2 with⟨e,f⟩|⟨e,rfl⟩
 .obtain⟨d,_⟩:=xD f;refine⟨λi a p b=>?_,λi a k=>?_,d.least,λi a=>?_⟩
  .rcases b with⟨_,b⟩|⟨b,_⟩
   .rw[b.2];exact d.next i a
   .exact Pg e b
  .obtain⟨j,l,m⟩:=Oc k;rw[Oo] at l;refine d.diff i j A7 a ?_;rw[<-m];simp[List.getD,(A7:j<c.length)]
  .obtain⟨r,A,n,_⟩:=d.next i a;exact⟨r,aN n⟩
 .exact⟨λi a=>by simp at a,λi a=>by simp at a,λi a=>by simp at a,λi a=>by simp at a⟩
theorem Fa(h:uK L Kk sl c)(k:lq L Kk sl ss):(∀i,i<c.length->c.getD i ByteArray.empty∈ss)/\(c=[]↔ss=[]):=by
 have p:=(DK h).run;rcases h.2 with⟨b,q⟩ | ⟨b,rfl⟩ <;> rcases k.2 with⟨d,f⟩ | ⟨d,rfl⟩
 .obtain⟨r,t⟩:=xD q;have j:∀i,i<c.length->c.getD i ByteArray.empty∈ss:=λi a=>by
   rw[f.2];obtain⟨v,l⟩:=p i a;exact⟨Oq.2 ⟨v,l.1,l.2⟩,_,0,.here _,r.on i a⟩
  refine⟨j,λe=>?_,λe=>?_⟩
  .cases w:ss with
   | nil=>rfl
   | cons s m=>
    obtain⟨_,x,n,_,y⟩:=(f.2 s).1 (by rw[w];simp);exact Pg y (t e x)
  .cases z:c with
   | nil=>rfl
   | cons x m=>
    have:=j 0 (by rw[z];simp);rw[e] at this;cases this
 .exact Pg b d
 .exact Pg d b
 .exact⟨λi a=>by simp at a,Iff.rfl⟩
end
variable {x : Ps}
theorem Gx{E:Ps->Ps->Prop}{names:List Ps}(h:∀x∈names,∃y,y∈names/\E x y)(a:x∈names):BF E x:=by
 classical
 obtain⟨f,b⟩:∃f:Ps->Ps,∀x∈names,f x∈names/\E x (f x):=⟨λx=>if h':x∈names then Classical.choose (h x h') else x,λx a=>by
  have:=Classical.choose_spec (h x a);simp only[dif_pos a];exact this⟩
 obtain⟨s,c,d⟩:∃s:Nat->Ps,s 0=x/\∀k,s (k+1)=f (s k):=⟨λk=>Nat.rec x (λ_ y=>f y) k,rfl,λ_=>rfl⟩;have l:∀k,s k∈names:=λk=>by
  induction k with
  | zero=>rw[c];exact a
  | succ k ih=>rw[d];exact (b _ ih).1
 have n:∀m k,aV E m (s k) (s (k+m)):=λm=>by
  induction m with
  | zero=>intro k;exact .here _
  | succ m ih=>
   intro k;have r:=ih (k+1);have e:k+ (m+1)=k+1+m:=A7;rw[e];exact .step (by rw[d];exact (b _ (l k)).2) r
 have t:∃i j,i<j/\s i=s j:=Classical.byContradiction λv=>by
  have w:((List.range (names.length+1)).map s).Nodup:=by
   rw[List.Nodup,List.pairwise_map];exact List.pairwise_lt_range.imp λz e=>v ⟨_,_,z,e⟩
  have:=List.Nodup.length_le_of_subset w (l₂:=names) (λy A=>by
   obtain⟨j,_,rfl⟩:=Oq.1 A;exact l j)
  simp at this;omega
 obtain⟨i,j,D,e⟩:=t;have p:=n (j-i) i;have B:i+ (j-i)=j:=A7;rw[B,<-e] at p;have q:=n i 0;rw[Ow,c] at q;have C:j-i-1+1=j-i:=A7;exact⟨s i,i,q,j-i-1,by rw[C];exact p⟩
def uX(T:List Qz):List Ps:=(T.filter λr=>!r.over).map (·.name)
theorem CQ{W:bR}{σ:Env}:∀{l:List Ps},Yq W σ l=none->∃y∈l,aP W σ y=none
 | [],h=>by cases h
 | a :: l,h=>by
  unfold Yq at h;cases c:aP W σ a with
  | none=>exact⟨a,A9,c⟩
  | some x=>
   cases d:Yq W σ l with
   | none=>obtain⟨y,e,f⟩:=CQ d;exact⟨y,by simp[e],f⟩
   | some ys=>simp[c,d] at h
section
variable {L : List Qq} {Kk ro ss : List Ps} {T : List Qz} {o : pW}
theorem kL(d:dz T):x∈uX T↔ry (Qj T) x:=by
 unfold uX ry;simp only[Oq,List.mem_filter,Bool.not_eq_true'];constructor
 .rintro⟨r,⟨a,c⟩,rfl⟩;exact⟨r,bE d a,c⟩
 .rintro⟨r,a,c⟩;exact⟨r,⟨(aN a).1,c⟩,(aN a).2⟩
theorem Ik(e:fK L Kk T)(n:AtEnd (bi (Q_ L)) (Qj T))(p:ry (Qj T) x):∃y,ry (Qj T) y/\bg (Q_ L) (Qj T) x y:=by
 obtain⟨r,b,c⟩:=p;have s:=(aN b).2;obtain⟨A,d,_⟩:=(e.good.good r (aN b).1).act;have f:¬aZ (Q_ L) (Qj T) r:=λt=>n x ⟨r,b,t⟩
 have i:r.Zj≠0:=λv=>f ⟨c,.inl v⟩
 have w:Yq (Q_ L) (Qj T) (stepOf A r.at').asks=none:=by
  cases h:Yq (Q_ L) (Qj T) (stepOf A r.at').asks with
  | none=>rfl
  | some xs=>exact Pg ⟨c,.inr ⟨A,xs,d,h⟩⟩ f
 obtain⟨y,j,a⟩:=CQ w;rw[s] at d;have z:(Q_ L y).isSome=true:=by
  unfold aP at a;cases h:Q_ L y with
  | none=>rw[h] at a;cases a
  | some B=>rfl
 have k:=e.asked x r A b c i d y j z;have l:ry (Qj T) y:=by
  cases h:Qj T y with
  | none=>rw[h] at k;cases k
  | some q=>
   refine⟨q,h, ?_⟩;cases C:q.over with
   | false=>rfl
   | true=>
    unfold aP at a;cases m:Q_ L y with
    | none=>rw[m] at a;cases a
    | some B=>rw[m,h] at a;simp[C] at a
 exact⟨y,l,r,A,b,c,i,d,j,l⟩
theorem FD{W:bR}{σ:Env}(h:BF (bg W σ) x):ry σ x:=by
 obtain⟨e,n,a,m,b⟩:=h;have:∃y,bg W σ x y:=by
  cases a with
  | here=>cases b with | step h _=>exact⟨_,h⟩
  | step h _=>exact⟨_,h⟩
 obtain⟨y,r,A,c,d,_⟩:=this;exact⟨r,c,d⟩
theorem Aq(a:fK L Kk T)(b:AtEnd (bi (Q_ L)) (Qj T))(c:ry (Qj T) x):BF (bg (Q_ L) (Qj T)) x:=
 Gx (names:=uX T) (λy d=>by
  obtain⟨z,f,h⟩:=Ik a b ((kL a.good.asc).1 d);exact⟨z,(kL a.good.asc).2 f,h⟩) ((kL a.good.asc).2 c)
theorem Hl(a:fK L Kk T)(e:AtEnd (bi (Q_ L)) (Qj T)):rR (bg (Q_ L) (Qj T)) (T.map (·.name)) (uX T):=by
 refine⟨?_,λs=>⟨λh=>?_,λh=>(kL a.good.asc).2 (FD h.2)⟩⟩
 .unfold nD uX;rw[List.pairwise_map];exact List.Pairwise.filter _ a.good.asc
 .have c:=(kL a.good.asc).1 h;refine⟨?_,Aq a e c⟩;obtain⟨r,d,_⟩:=c;exact Oq.2 ⟨r,(aN d).1,(aN d).2⟩
structure Fy (L:List Qq) (ro:List Ps) (T:List Qz) (o:pW) (ss:List Ps):Prop where
 one:∀r∈T,r.over=false->r.name∈ss
 len:(T.filter λr=>!r.over).length=ss.length
 code:(o.code == 1)=decide (0<o.chain.length)
 inn:∀i,i<o.chain.length->o.chain.getD i ByteArray.empty∈ss
 wait:∀i,i<o.chain.length->∀ns,mY L ro T (o.chain.getD i ByteArray.empty) ns->o.chain.getD ((i+1) % o.chain.length) ByteArray.empty∈ns
 run:∀i,i<o.chain.length->∃r∈T,r.name=o.chain.getD i ByteArray.empty
theorem Hm(a:fK L Kk T)(j:Dv L Kk T)(m:lq L Kk T ss)(n:gL L Kk o):Fy L Kk T o ss:=by
 rcases m.2 with⟨_,k⟩|⟨k,_⟩;rotate_left
 .exact Pg a k
 obtain rfl:=k.unique (Hl a j.2.2);rcases n.2 with⟨_,_,c,d⟩|⟨d,_⟩;rotate_left
 .exact Pg ⟨a.1,a.2.1⟩ d
 have v:=j.one d.fin;subst v;have one:∀r∈c,r.over=false->r.name∈uX c:=λr i h=>(kL a.good.asc).2 ⟨r,bE a.good.asc i,h⟩
 have len:(c.filter λr=>!r.over).length= (uX c).length:=by unfold uX;rw[OY]
 rcases d.rest with⟨_,l,f⟩|⟨⟨x,p,b⟩,l,f⟩
 .refine⟨one,len,by rw[l,f];rfl, ?_, ?_, ?_⟩ <;> rw[f] <;> intro F w <;> simp at w
 .have q:uK L Kk c o.chain:=⟨n.1.2,.inl ⟨a,f⟩⟩;have s:=DK q;refine⟨one,len, ?_,(Fa q m).1,s.wait,s.run⟩;rw[l];have y:o.chain≠[]:=λe=>by
   rw[d.res] at p;obtain⟨t,z,rfl⟩:=Oq.1 p;rw[IU] at b;have A:ry (Qj c) t:=by
    rcases a.Mh t z with⟨r,i,rfl⟩|h
    .refine⟨r,bE a.good.asc i, ?_⟩;unfold aP at b;rw[bE a.good.asc i] at b;cases h:Q_ L r.name with
     | none=>rw[h] at b;cases b
     | some B=>
      rw[h] at b;cases C:r.over with
      | false=>rfl
      | true=>simp[C] at b
    .unfold aP at b;rw[h] at b;cases b
   obtain⟨D,_,_,E⟩:=Aq a j.2.2 A;exact (xD f).2 e D E
  have:0<o.chain.length:=List.length_pos_iff.2 y;simp[this]
theorem KH(c:¬(bF L 0/\eX Kk))(d:lq L [] [] ss)(e:gL L Kk o):Fy L [] [] o ss:=by
 rcases d.2 with⟨b,_⟩|⟨_,rfl⟩
 .exact Pg b.2.1.1 A9
 rcases e.2 with⟨b,f,_⟩|⟨_,rfl⟩
 .exact Pg ⟨b,f⟩ c
 .exact⟨λr h=>by (cases h),rfl,rfl,λi a=>by (simp[Al] at a),λi a=>by (simp[Al] at a),λi a=>by (simp[Al] at a)⟩
end
def Ij(Kj:List Qq)(Kk:List Ps)(sl:List Qz)(name:Ps)(w w':Pv)(e:Ending):Prop:=
 ∃(da:Pt) (ns:List Ps),e= .returned (.slice da ns.length ns.length)/\bW w' w.heap.size w'.heap.size da ns/\mY Kj Kk sl name ns/\K_ w w'
theorem vF{Kj:List Qq}{ts:List Zx}{ws:Ps->List Nat}(b:BS Kj ts ws)(h:iw (Q_ Kj) (Qj (Qk ts)))(n s:Ps):Bv ts ws n s↔bg (Q_ Kj) (Qj (Qk ts)) n s:=by
 constructor
 .rintro⟨t,c,rfl,j⟩;have k:=bE b.good.asc (OP (f:=λt:Zx=>t.r) c);exact (Di b.good.env h k s).1 ((b.wt s t c).1 j)
 .intro i;obtain⟨r,e⟩:∃r,Qj (Qk ts) n=some r:=by obtain⟨r,_,e,_⟩:=i;exact⟨r,e⟩
  obtain⟨l,m⟩:=aN e;obtain⟨t,c,rfl⟩:=Oq.1 l;exact⟨t,c,m,(b.wt s t c).2 ((Di b.good.env h e s).2 i)⟩
theorem yR(w:Pv)(a:Pt)(cap:Nat)(Kj:List Qq)(rd:Pt)(rc:Nat)(Kk:List Ps)(j:Pt)(x:Nat)(sl:List Qz)(b:Ps)(a3:b.size<=maxLen)(hl:Kj.length<=1048576)(hf:∀s∈Kj,s.Fits)(a4:Kk.length<=maxLen)(a5:Kk.length<=rc)(a6:∀s∈Kk,s.size<=maxLen)(a7:sl.length<=1048576)(a8:∀r∈sl,r.texts.length<=1048576)(hS:bN w a Kj)(hR:Strs w rd Kk)(hG:fw w j sl)(a9:dA w):
  Calls prog 15 #[.agg #[.slice a Kj.length cap],.agg #[.slice rd Kk.length rc,.slice j sl.length x],.string b] w λe w'=>Ij Kj Kk sl b w w' e:=by
 have c:K_ w ((w.alloc (.cells #[.slice a Kj.length cap] 25)).alloc (.cells #[.slice rd Kk.length rc,.slice j sl.length x] 32)):=(ah _ _).alloc _;go_enter func15,ntmps15
 go_wp2_with fail
 refine (xk _ a cap Kj rd rc Kk j x sl hl hf a4 a5 a6 a7 a8 (hS.kept c) (hR.kept c) (hG.kept c) (a9.kept c)).mono ?_;rintro e w1 ⟨y,b0⟩;have z:=c.trans y;rcases b0 with⟨O,rfl⟩|⟨A,P,hA,wz,bb,mb,mx,ts,c3,dc,c4,ws,b1,rfl,kz,Q,B,b2,C,R,S⟩
 .have b3:=Kz O;clear O y c;go_wp2
  go_ret
  exact⟨none,[],rfl,.inl rfl,.inr ⟨λi=>b3.o ⟨i.1,i.2.1,i.good.asc⟩,rfl⟩,z⟩
 have D:=Kz (C.trans (Au A P B R S));have⟨T,U,V,k⟩:=jW C Q B A;clear P hA kz C R S y c Q B A;cases b1
 .go_wp2
  go_ret
  exact⟨none,[],rfl,.inl rfl,.inr ⟨λi=>(by have E:=D.o.2 i;cases E),rfl⟩,z⟩
 have W:Hid (Qk ts=sl):=T.o.1 rfl;have l:Hid (fK Kj Kk sl):=D.o.1 rfl;clear T D;have b4:=U.o.len (nV k.o);go_wp2_with fail
 refine (Ae U.o V.o (cO k.o) b2 b4).mono ?_;rintro e h ⟨mo,c5,g,ol,rfl,m,F,hM,k2⟩;have G:=m.look a3;obtain⟨n,p,H⟩:=ay (m.row b);rw[H] at G;have I:=m.row b;rw[H] at I;obtain⟨b5,c9,d,f⟩:=bv I;simp only[OG,true_and] at d;rw[<-d.1] at f;have b6:=F.len b;have⟨X,Y⟩:=aH F f;obtain⟨L,J⟩:=ai (ol b);rw[<-J] at G Y b6;have HL:=Kz J;clear m H I f d F J;go_wp2_with fail
 refine (xP h n L.length p).mono ?_;rintro e q ⟨rfl,t⟩;have Z:K_ h q:=by rw[t];exact ah _ _
 have a0:q.cell? ⟨h.heap.size,0,none⟩=some (.slice n L.length p):=by rw[t];exact Xz h #[.slice n L.length p] 26 0 _ rfl
 have a1:h.heap.size<q.heap.size:=by rw[t];simp
 clear t G;go_wp2_with fail
 refine (xG q h.heap.size n p L A7 a1 a0 (Y.o.kept Z)).mono ?_;rintro e w4 ⟨c6,v,rfl,K,M,k4⟩;obtain⟨b7,b8,rfl⟩:=ay K;obtain⟨b5,c9,d,f⟩:=bv K;simp only[OG,true_and] at d;rw[<-d.1] at f;have N:Hid (oW (Q_ Kj) (Qj sl) b v):=by
  rw[HL.o] at M;obtain⟨h1,E⟩:=M.asc (X.o.nd b);refine⟨h1,λs=>?_⟩;rw[E,X.o.iff,<-W.o];rw[vF V.o (by rw[W.o];exact l.o.asked)];simp
 have c7:=N.o.len (cO k.o) l.o.good.env;have b9:Hid (∀s∈v,s.size<=1048576):=λs hs=>by
  have:=((N.o.2 s).1 hs).size (cO k.o) l.o.good.env;omega
 have c0:=Kz f;clear K M f d a0 a1;go_wp2_with fail
 refine (jC w4 b7 b8 v A7 b9.o c0.o).mono ?_;rintro e w5 ⟨c1,rfl,a2,k5⟩;have c2:=Kz a2;have K4:=z.trans (k2.trans (Z.trans k4));have KF:=K4.trans k5;have zz:=K4.size;clear a2;go_wp2
 go_ret
 exact⟨c1,v,rfl,c2.o.mono A7 (NQ _),.inl ⟨l.o,N.o⟩,KF⟩
theorem m_{P:Program}{h:Array Oper}{rest:List Oper}{e:Oper}{a:Act}{f:Pv}{Q:Exit->Act->Pv->Prop}(hgd:e.guard=none)(d:TypeId)(x y:Operand)(k:e.op= .store d x y)(c b:Array Pw)(l:a.eval x= .c f.heap.size)(m:a.eval y= .agg b)(hi:(P.info? d).map (·.size)=some b.size)(n:c.size=b.size)(p:b.all (·.oneCell')=true)
  (q:wpList P h Q rest (a.put e.dst undef) (f.alloc (.cells b d))):wpList P h Q (e :: rest) a (f.alloc (.cells c d)):=
 wpList_plain hgd λ_ r=>by
  unfold Oper.wp execOp;simp only[k,l,m,Instr.storeAt,Instr.sureAddr,Sem.run_bind,Sem.run_pure,Result.andThen_ok,run_storeVar_new f d c b hi n p];exact r _ _ q
theorem Tryz.KT :(prog.info? 3).map (λi=>(i.zero,i.size,i.bytes))=some (some (.a 0),1,8):=C9
theorem jh.new(w:Pv)(A:Nat->Nat):jh (w.alloc (.cells (ow A) 157)) w.heap.size A:=by
 have h:=World.rowIs_alloc w (ow A) 157 (λi=>iP (A i)) (λi c=>by
  rw[fT] at c;simp[ow,c])
 rw[fT] at h;exact h
theorem JB(w:Pv)(a b:Nat)(A:Nat->Nat)(left p:Nat)(c:p<60)(d:jh w a A)(h:w.cell? ⟨b,0,none⟩=some (.a (left:Int))):
  Calls prog 203 #[.a (p:Int),.c a,.c b] w λe w'=>e= .returned (.bool (((A p:Nat):Int) == (left:Int)))/\K_ w w':=by
 have f:=d.cell c;unfold iP at f;have i:(p:Int)<60:=A7;go_enter func203,ntmps203
 go_wp2
 go_region
 go_wp2
 go_ret
 exact⟨rfl,(bD _)⟩
def MR(A:Nat->Nat)(left:Nat)(l:List Nat)(e:Ending):Prop:=∃k,e= .returned (.a ((k:Nat):Int))/\∃hk:k<l.length,A l[k]=left/\∀j (hj:j<l.length),j<k->A l[j]≠left
theorem y_(w:Pv)(s:Pt)(y:Nat)(l:List Nat)(m d:Nat)(A:Nat->Nat)(left:Nat)(M:l.length<=60000000)(z:∀p∈l,p<60)(B:d<w.heap.size)(C:oL w s l)(D:jh w m A)(E:w.cell? ⟨d,0,none⟩=some (.a (left:Int)))(F:∃p∈l,A p=left):
  Calls prog 202 #[.slice s l.length y,.func (.func 203) #[] #[.c m,.c d]] w λe w'=>MR A left l e/\K_ w w':=by
 go_enter func202,ntmps202
 go_wp2
 go_loopw [8] (λx wr=>∃i:Nat,i<=l.length/\x= .a (i:Int)/\Hid (∀j (f:j<l.length),j<i->A l[j]≠left)/\K_ w wr) (λx _=>l.length-(intOf x).toNat)
 case atStart=>exact⟨0,NS _,rfl,Kz (λj _ G=>aT G),K_.refl _⟩
 case round=>
  obtain⟨i,N,rfl,n,h⟩:=hrel;by_cases k:i<l.length;rotate_left
  .exfalso
   obtain⟨p,a,H⟩:=F;obtain⟨j,f,rfl⟩:=Oc a;exact n.o j f A7 H
  obtain⟨b,o,I,O,J⟩:=(C.kept h) i k;subst I;obtain⟨p,a⟩:=ai (l.getD i 0);rw[<-a] at J;have q:l[i]=p:=by rw[a];simp[List.getD,k]
  have t:=Kz q;have K:p<60:=z p (by rw[<-q];exact Oa k);have P:(i:Int)<(l.length:Int):=A7;clear a q;go_wp2_with fail
  refine (JB wr m d A left p K (jG D h) ((h.cell B).trans E)).mono ?_;rintro e Q ⟨rfl,L⟩;have v:=h.trans L;by_cases r:A p=left
  .have c:(((A p:Nat):Int) == (left:Int))=true:=by simp[r]
   rw[c];clear c;go_wp2
   go_ret
   exact⟨⟨i,rfl,k,by rw[t.o];exact r,n.o⟩,v⟩
  .have c:(((A p:Nat):Int) == (left:Int))=false:=D6;rw[c];clear c;go_wp2
   go_roundw
   case rel=>
    refine⟨i+1,A7,C8,Kz (λj f R=>?_),v⟩;rcases Nat.lt_or_ge j i with e | e
    .exact n.o j f e
    .have:j=i:=A7;subst this;rw[t.o];exact r
   case measure=>simp[intOf];omega
def LU(R:Nat->Nat->Prop)(n t:Nat)(w w':Pv)(e:Ending):Prop:=∃(av:Pt) (cv:Nat) (l:List Nat),e= .returned (.slice av l.length cv)/\oL w' av l/\l.length<=60/\(∀p∈l,p<n)/\(l=[]->∀m,¬jU R t m)/\(l≠[]->∃m,jU R t m/\ma R t m t l/\l.length=m)/\K_ w w'
theorem yM(w:Pv)(n:Pt)(D:Nat)(a:List Ps)(r mb:Nat)(m back:Nat->List Nat)(E:Ps->Ps->Prop)(a4:Nat)(t:Nat)(ht:t<a.length)(hn:a.length<=60)(hM:a4<=60000000)(X:rG w n a r mb m back)(s:yA E a a4 m back):
  Calls prog 175 #[.agg #[.slice n a.length D,.b r a.length a.length,.b mb a.length a.length],.a (t:Int)] w λe w'=>LU (bL E a) a.length t w w' e:=by
 obtain⟨J,F⟩:=ai (w.alloc (.cells #[.slice n a.length D,.b r a.length a.length,.b mb a.length a.length] 93));have k1:K_ w J:=by rw[F];exact ah _ _
 have s0:J.cell? ⟨w.heap.size,0,none⟩=some (.slice n a.length D):=by rw[F];exact Xz w #[.slice n a.length D,.b r a.length a.length,.b mb a.length a.length] 93 0 _ rfl
 have s1:J.cell? ⟨w.heap.size,1,none⟩=some (.b r a.length a.length):=by rw[F];exact Xz w #[.slice n a.length D,.b r a.length a.length,.b mb a.length a.length] 93 1 _ rfl
 have s2:J.cell? ⟨w.heap.size,2,none⟩=some (.b mb a.length a.length):=by rw[F];exact Xz w #[.slice n a.length D,.b r a.length a.length,.b mb a.length a.length] 93 2 _ rfl
 have z1:w.heap.size<J.heap.size:=by rw[F];simp
 go_enter func175,ntmps175
 go_upto_region 1 with fail
 rw[<-F];clear F;go_wp2_with fail
 refine (rD J n D a r mb m back E a4 t ht hn hM (X.kept k1) s).mono ?_;rintro e K ⟨G,size,rfl,hD,i7,Y⟩;have⟨HD,c1⟩:=aH hD s1;clear s0 s1 s2 hD;obtain⟨P,L⟩:=ai (ow G);have HI:Hid ((prog.info? 157).map (·.size)=some P.size):=by rw[L,fT];exact Tryz.qF
 have f2:Hid ((Array.replicate 60 (Value.int .i64 0)).size=P.size):=by show _=_;rw[L,fT];simp
 have f3:Hid (P.all (·.oneCell')=true):=by rw[L];exact qM G
 obtain⟨c,Q⟩:=ai (K.alloc (.cells P 157));have Z:K_ K c:=by rw[Q];exact ah _ _
 have c2:Hid (jh c K.heap.size G):=by rw[Q,L];exact jh.new K G
 rw[<-L];have M:=(k1.trans Y).trans Z;have c3:w.heap.size<c.heap.size:=NR z1 (Y.trans Z).size;have c4:=Kz (((Y.trans Z).cell z1).trans c1.o);obtain⟨ab,c5⟩:=ai K.heap.size;have f4:K.heap.size<c.heap.size:=by rw[Q];simp
 have⟨f5,f6⟩:=aH Q c5;clear L Q c5 c1 Z Y k1 z1;go_upto_region 2 with (rw (transparency:= .default) [z60];refine m_ rfl 157 (.tmp 5) (.tmp 15) rfl _ P rfl rfl HI.o f2.o f3.o ?_)
 rw[<-f5.o];rw[<-f6.o] at c2 f4⊢;by_cases R:size=0
 .have f7:((size:Int) == 0)=true:=by simp[R]
  have f8:=Kz (HD.o.no R);clear R;go_wp2
  go_ret
  exact⟨none,0,[],rfl,λi hi=>aT hi,NS _,λp v=>(by cases v),λ_=>f8.o,λh=>Pg rfl h,M⟩
 have f7:((size:Int) == 0)=false:=D6;obtain⟨a5,c6⟩:=HD.o.yes R;have⟨c7,c8⟩:=aH a5 c6;have i8:1<=size:=a5.1;clear a5 c6 R;obtain⟨d,S⟩:=ai (c.alloc (.cells #[.a (t:Int)] 3));have kB:K_ c d:=by rw[S];exact ah _ _
 have a0:Hid (c.heap.size+1=d.heap.size):=by show _=_;rw[S];simp
 have a6:d.ownsRow c.heap.size 3 1 (.b c.heap.size 1 1) [t].length ([t].map iP):=by
  rw[S];exact⟨rfl,.inr ⟨c.heap.size,1,_,rfl,NQ _,heap_alloc_new c _,NQ _,D5,rfl,rfl⟩⟩
 obtain⟨WC,T⟩:=ai (d.alloc (.cells #[.a (size:Int)] 3));have kC:K_ d WC:=by rw[T];exact ah _ _
 have a7:Hid (aB WC d.heap.size 3 1):=by rw[T];exact aB.made d #[.a (size:Int)] 3
 have a8:Hid (J4 WC d.heap.size 0 (.a (size:Int))):=by rw[T];exact Xz d #[.a (size:Int)] 3 0 _ rfl
 have b0:=Kz (ak a6 kC);have d0:=Kz (kB.trans kC);have⟨d1,d2,f9⟩:=fu S T a6;clear S T a6 kB kC;go_upto_region 6 with fail
 rw[<-d1.o,<-d2.o,a0.o];have N:Hid (c.heap.size<=d.heap.size/\∀f,(Value.slice (some ⟨c.heap.size,0,none⟩) [t].length 1).ownBlock=some f->f≠d.heap.size):=⟨by have:=a0.o;omega,λf e=>by simp only[Value.ownBlock,OE] at e;have:=a0.o;omega⟩;obtain⟨oa,b1⟩:=ai c.heap.size;obtain⟨k,d3⟩:=ai d.heap.size;rw[<-b1] at b0 N⊢;rw[<-d3] at N a7 a8⊢;have b2:=Kz b1;clear b1 d3 f9 a0 d1 d2;go_wp2
 go_loopg [7,8,9] size (λgg x7 x8 x9 wr=>∃(l:List Nat) (b k:Nat) (z:Pt) (H:Nat),x7= .slice z l.length H/\x8= .a (b:Int)/\x9= .c k/\Hid (qZ (bL E a) t size l b gg)/\Hid (∀p∈l,p<a.length)/\Hid (wr.ownsRow oa 3 1 (.slice z l.length H) l.length (l.map iP))/\Hid (aB wr k 3 1)/\Hid (J4 wr k 0 (.a (gg:Int)))/\Hid (oa<=k/\∀f,(Value.slice z l.length H).ownBlock=some f->f≠k)/\Hid (K_ c wr))
 case atStart=>exact⟨[t],t,k,_,1,rfl,rfl,rfl,Kz (qZ.start c7.o),Kz (λp v=>by rw[NZ] at v;rw[v];exact ht),b0,a7,a8,N,d0⟩
 case round=>
  clear b0 a7 a8 N d0;obtain⟨l,b,k,z,H,rfl,rfl,rfl,A,b3,HO,a1,a2,N,I⟩:=hrel;have cl:=a2.o;have g0:=A.o.pos;have g1:=A.o.len;by_cases b4:gk=1
  .have i9:¬((1:Int)<(gk:Int)):=A7;have g2:Hid (ma (bL E a) t size t l):=by have h:=A.o;rw[b4] at h;exact h.done
   have d4:Hid (l.length=size):=by show l.length=size;omega
   have g3:Hid (l≠[]):=by obtain⟨l0,e⟩:=A.o.last;show l≠[];rw[e];simp
   have g4:Hid (oL wr z l):=by
    obtain⟨a9,c9,e9,_,h9⟩:=nW HO.o rfl;simp only[OG,true_and] at e9;rw[<-e9.1] at h9;exact h9
   clear b4 g1 g0;go_wp2
   go_ret
   exact⟨z,H,l,rfl,g4.o,by have:=d4.o;omega,b3.o,λe=>Pg e g3.o,λ_=>⟨size,c7.o,g2.o,d4.o⟩,M.trans I.o⟩
  have j0:1<=l.length:=by obtain⟨l0,e⟩:=A.o.last;rw[e];simp
  have j1:(1:Int)<(gk:Int):=A7;obtain⟨q,hq⟩:∃q,gk=q+1:=⟨gk-1,A7⟩;have g5:1<=q:=A7;have HQ:=Kz hq;have g6:b<a.length:=b3.o b (by obtain⟨l0,e⟩:=A.o.last;rw[e];simp);obtain⟨da,dc,b5,d5⟩:=X.fwd b g6;have g7:Hid (∃p∈m b,G p=gk):=by
   obtain⟨y,h1,h2⟩:=A.o.more A7;exact⟨y,(s.fwd b y).2 h1,by have:=(c8.o y (gk-1) A7).2 h2;omega⟩
  have g8:(m b).length<=60000000:=NT (s.len b).1 hM;have g9:Hid (∀p∈m b,p<60):=λp v=>by have:=((s.fwd b p).1 v).2.1;omega
  have q1:=(I.o.cell c3).trans c4.o;have q2:=((M.trans I.o).cell X.nbl).trans b5;have j2:(b:Int)<(a.length:Int):=A7;have⟨d6,h0⟩:=aH d5 b5;clear hq b4 d5 b5;go_wp2_with fail
  refine (y_ wr da dc (m b) ab k G gk g8 g9.o a1.o.lt (d6.o.kept (M.trans I.o)) (jG c2.o I.o) a2.o g7.o).mono ?_;rintro e B ⟨⟨a3,rfl,O,d7,d8⟩,U⟩;have V:=Kz (I.o.trans U);obtain⟨x,hx⟩:=ai ((m b)[a3]);have h3:Hid (Bt (λy=>bL E a b y/\Far (bL E a) t q y) x):=by
   have h4:=HQ.o;rw[hx];have d9:∀y,G y=gk↔Far (bL E a) t q y:=λy=>by rw[h4];exact c8.o y q A7
   exact BK (p:=λy=>bL E a b y/\Far (bL E a) t q y) (s.asc b) (λy hy=>(s.fwd b y).2 hy.1) O ⟨(s.fwd b _).1 (Oa O),(d9 _).1 d7⟩ (λj hj h5 h=>d8 j hj h5 ((d9 _).2 h.2))
  have h6:x<a.length:=by have:=((s.fwd b x).1 (by rw[hx];exact Oa O)).2.1;exact this
  obtain⟨eb,eo,e1,j3,h7⟩:=(d6.o.kept (M.trans V.o)) a3 O;subst e1;have e0:(m b).getD a3 0=x:=by rw[hx];simp[List.getD,O]
  rw[e0] at h7;have j4:(a3:Int)<((m b).length:Int):=A7;have q1:=(V.o.cell c3).trans c4.o;have q2:=((M.trans V.o).cell X.nbl).trans h0.o;clear hx e0 d7 d8 O cl;have e2:=(U.cell a1.o.lt).trans a2.o;have e3:=Kz (ak HO.o U);have b6:=Kz (a1.o.kept U);obtain⟨ic,h8,i0,i1,i2⟩:=info_parts Tryz.KT;have W:K_ B (B.alloc (.cells #[.a (x:Int)] 3)):=ah _ _;have b7:=Kz (ak e3.o W);have b8:=Kz (V.o.trans W);have e4:oa<=(B.alloc (.cells #[.a (x:Int)] 3)).heap.size:=by rw[b2.o];exact b8.o.size
  have e5:Hid (∀j u,([.a (x:Int)]:List Pw)[j]? =some u->(B.alloc (.cells #[.a (x:Int)] 3)).cell? ((⟨B.heap.size,0,none⟩:Addr).add j)=some u):=λj u hu=>by rw[OI];exact Xz B #[.a (x:Int)] 3 j u hu
  have e6:Hid (∀u∈([.a (x:Int)]:List Pw),u.oneCell'=true):=λu hu=>by simp only[OL,OM,or_false] at hu;subst hu;rfl
  have e7:=Kz (b6.o.kept W);have e8:=Kz ((W.cell b6.o.lt).trans e2);have j5:l.length<=60:=A7;clear e2 U;go_upto_region 11 with (at_builtin;refine wpList_append_own _ rfl (.tmp 42) (.tmp 44) 27 rfl oa 3 ic _ 1 8 underlying27 h8 i0 i1 i2 rfl A8 (.slice z l.length H) l.length (l.map iP) rfl b7.o ⟨B.heap.size,0,none⟩ 1 1 [.a (x:Int)] rfl rfl e5.o e6.o D5 A7 e4 ?_;intro v' C b9 c0 _)
  have KP:Hid (K_ c C):=aL b8.o (by rw[b2.o];exact NQ _) b7.o c0;have kg:But (λf=>(Value.slice z l.length H).ownBlock=some f) (B.alloc (.cells #[.a (x:Int)] 3)) C:=But.aI c0 (λf e=>e);have f0:=e7.o.lt;have j6:J4 C k 0 (.a (gk:Int)):=(kg.cell f0 (λe=>N.o.2 k e rfl)).trans e8.o;have f1:=Kz b9;obtain⟨i3,i4,rfl⟩:=ay b9;clear b9 c0 kg f0 e7 e8 e5 e6 b7 b8 e4 W b6 e3 HO a1 a2 I V;have i5:Hid (qZ (bL E a) t size l b (q+1)):=by have h:=A.o;rw[HQ.o] at h;exact h
  have i6:Hid ((gk:Int)-1= (q:Int)):=by show _=_;have:=HQ.o;omega
  go_wp2_with fail
  rw[i6.o];have k8:K_ C (C.alloc (.cells #[.a (q:Int)] 3)):=ah _ _;go_roundg q
  case measure=>have:=HQ.o;omega
  case rel=>
   refine⟨l++ [x],x,C.heap.size,i3,i4,by rw[OD];rfl,rfl,rfl,Kz (i5.o.next g5 h3.o),Kz (λp v=>?_),Kz ?_,Kz (aB.made C #[.a (q:Int)] 3),Kz (Xz C #[.a (q:Int)] 3 0 _ rfl),Kz ⟨?_,λf e=>?_⟩,Kz (KP.out.trans k8)⟩
   .rcases N_.1 v with h|h
    .exact b3.o p h
    .rw[NZ] at h;rw[h];exact h6
   .rw[OD,Pi];exact ak f1.o k8
   .rw[b2.o];exact KP.out.size
   .rw[OD] at e;have:=(f1.o.lt f e).2;omega
def uO(R:Nat->Nat->Prop)(q:Nat):Prop:=∃m,jU R q m
def JC(R:Nat->Nat->Prop)(n:Nat)(w w':Pv)(e:Ending):Prop:=∃(av:Pt) (cv:Nat) (l cs:List Nat),e= .returned (.slice av l.length cv)/\oL w' av l/\l.length<=60/\l.Pairwise (· < ·)/\(∀q,q∈cs↔q<n/\uO R q)/\(∀p,p∈l↔p<n/\og R cs p)/\K_ w w'
theorem IJ(w:Pv)(h:Pt)(m:Nat)(a:List Ps)(j mb:Nat)(x back:Nat->List Nat)(E:Ps->Ps->Prop)(M:Nat)(T:a.length<=60)(U:M<=60000000)(V:rG w h a j mb x back)(W:yA E a M x back):
  Calls prog 43 #[.agg #[.slice h a.length m,.b j a.length a.length,.b mb a.length a.length]] w λe w'=>JC (bL E a) a.length w w' e:=by
 obtain⟨k,r⟩:=ai (w.alloc (.cells #[.slice h a.length m,.b j a.length a.length,.b mb a.length a.length] 93));have I:K_ w k:=by rw[r];exact ah _ _
 have X:Hid (∀u,K_ k u->J4 u w.heap.size 0 (.slice h a.length m)/\J4 u w.heap.size 1 (.b j a.length a.length)/\J4 u w.heap.size 2 (.b mb a.length a.length)):=λu J=>by
  have K:w.heap.size<k.heap.size:=by rw[r];simp
  have y:=Xz w #[.slice h a.length m,.b j a.length a.length,.b mb a.length a.length] 93;rw[<-r] at y;exact⟨(J.cell K).trans (y 0 _ rfl),(J.cell K).trans (y 1 _ rfl),(J.cell K).trans (y 2 _ rfl)⟩
 go_enter func43,ntmps43
 go_upto_region 1 with fail
 rw[<-r];clear r;obtain⟨z,A,B⟩:=X.o _ (K_.refl _);go_wp2_with fail
 clear z A B;go_loopw [3,10] (λx3 L wr=>∃(i:Nat) (c:List Nat) (l:Pt) (n:Nat),i<=a.length/\L= .a (i:Int)/\x3= .slice l c.length n/\c.length<=i/\Hid (wr.ownsRow k.heap.size 3 1 (.slice l c.length n) c.length (c.map iP))/\Hid (c.Nodup)/\Hid (∀q,q∈c↔q<i/\uO (bL E a) q)/\K_ k wr) (λ_ L _=>a.length-(intOf L).toNat)
 case atStart=>exact⟨0,[],none,0,NS _,rfl,rfl,NS _,OO _ _ _ _,Kz List.nodup_nil,Kz (λq=>A9),K_.refl _⟩
 case round=>
  obtain⟨i,c,l,n,hi,rfl,rfl,d3,N,O,C,s⟩:=hrel;obtain⟨z,A,B⟩:=X.o _ s;by_cases Y:i<a.length;rotate_left
  .have d4:¬((i:Int)<(a.length:Int)):=A7;have b1:Hid (i=a.length):=by show i=a.length;omega
   have b2:Hid (oL wr l c):=by
    obtain⟨a9,d5,Z,_,a0⟩:=nW N.o rfl;simp only[OG,true_and] at Z;rw[<-Z.1] at a0;exact a0
   have p:Hid (∀q,q∈c↔q<a.length/\uO (bL E a) q):=λq=>by rw[C.o,b1.o]
   clear Y;go_wp2_with fail
   refine (zu wr h m a j mb x back E M l n c (λb3 hp=>((p.o b3).1 hp).1) O.o T U (V.kept (I.trans s)) W b2.o).mono ?_;rintro e w2 ⟨la,lc,b4,rfl,a1,b5,a2,a3,D⟩;have⟨b6,b7,b8⟩:=fu a1 a2 a3;clear a1 a2 a3 z A B;go_wp2
   go_ret
   exact⟨la,lc,b4,c,rfl,b6.o,b5,b7.o,p.o,b8.o,I.trans (s.trans D)⟩
  have d6:(i:Int)<(a.length:Int):=A7;go_wp2_with fail
  refine (rD wr h m a j mb x back E M i Y T U (V.kept (I.trans s)) W).mono ?_;rintro e w2 ⟨a4,size,rfl,hD,d7,D⟩;have HD:=Kz hD;obtain⟨t,v⟩:=ai (ow a4);have HI:Hid ((prog.info? 157).map (·.size)=some t.size):=by rw[v,fT];exact Tryz.qF
  have b9:Hid ((Array.replicate 60 (Value.int .i64 0)).size=t.size):=by show _=_;rw[v,fT];simp
  have c0:Hid (t.all (·.oneCell')=true):=by rw[v];exact qM a4
  obtain⟨d,P⟩:=ai (w2.alloc (.cells t 157));have kA:K_ wr d:=by rw[P];exact D.trans (ah _ _)
  rw[<-v];have c1:=Kz P;have a5:=Kz (ak N.o kA);have KA:=s.trans kA;clear v P hD z A B D N;go_upto_region 6 with (rw (transparency:= .default) [z60];refine m_ rfl 157 (.tmp 5) (.tmp 17) rfl _ t rfl rfl HI.o b9.o c0.o ?_)
  rw[<-c1.o];by_cases F:size=0
  .have d8:¬((0:Int)<(size:Int)):=A7;have p:Hid (∀q,q∈c↔q<i+1/\uO (bL E a) q):=λq=>by
    rw[C.o];constructor
    .rintro⟨Q,f⟩;exact⟨A7,f⟩
    .rintro⟨Q,a6,f⟩;by_cases e:q=i
     .subst e;exact Pg f (HD.o.no F a6)
     .exact⟨A7,a6,f⟩
   clear F;go_wp2
   go_roundw
   case rel=>exact⟨i+1,c,l,n,A7,C8,rfl,A7,a5,O,p,KA⟩
   case measure=>simp[intOf];omega
  have d9:(0:Int)<(size:Int):=A7;have p:Hid (∀q,q∈c++ [i]↔q<i+1/\uO (bL E a) q):=λq=>by
   rw[N_,NZ,C.o];constructor
   .rintro (⟨Q,f⟩|rfl)
    .exact⟨A7,f⟩
    .exact⟨A7,size,(HD.o.yes F).1⟩
   .rintro⟨Q,f⟩;by_cases e:q=i
    .exact .inr e
    .exact .inl ⟨A7,f⟩
  have c2:Hid ((c++ [i]).Nodup):=by
   show (c++ [i]).Nodup;rw[List.nodup_append];exact⟨O.o,A9,λe0 ha b hb e=>by rw[NZ] at hb;rw[e,hb] at ha;have:=((C.o i).1 ha).1;omega⟩
  clear F;obtain⟨ic,c3,c4,c5,c6⟩:=info_parts Tryz.Ep;have R:K_ d (d.alloc (.cells #[.a (i:Int)] 3)):=ah _ _;have a7:=Kz (ak a5.o R);have a8:=Kz (KA.trans R);have c7:k.heap.size<=(d.alloc (.cells #[.a (i:Int)] 3)).heap.size:=a8.o.size;have c8:Hid (∀G u,([.a (i:Int)]:List Pw)[G]? =some u->(d.alloc (.cells #[.a (i:Int)] 3)).cell? ((⟨d.heap.size,0,none⟩:Addr).add G)=some u):=λG u H=>by rw[OI];exact Xz d #[.a (i:Int)] 3 G u H
  have c9:Hid (∀u∈([.a (i:Int)]:List Pw),u.oneCell'=true):=λu H=>by simp only[OL,OM,or_false] at H;subst H;rfl
  clear R;go_wp2_with (at_builtin;refine wpList_append_own _ rfl (.tmp 21) (.tmp 23) 27 rfl k.heap.size 3 ic _ 1 8 underlying27 c3 c4 c5 c6 rfl A8 (.slice l c.length n) c.length (c.map iP) rfl a7.o ⟨d.heap.size,0,none⟩ 1 1 [.a (i:Int)] rfl rfl c8.o c9.o D5 A7 c7 ?_;intro v' w6 S b0 _;have KP:=aL a8.o (NQ _) a7.o b0;have d0:=Kz S;obtain⟨d1,d2,rfl⟩:=ay S;clear S b0)
  go_roundw
  case rel=>exact⟨i+1,c++ [i],d1,d2,A7,C8,by rw[OD];rfl,H8,Kz (by rw[OD,Pi];exact d0.o),c2,p,KP⟩
  case measure=>simp[intOf];omega
theorem B_{R:Nat->Nat->Prop}{t:Nat}:∀n,1<=n->aV R n t t->∃m,jU R t m:=by
 intro n
 induction n using Nat.strongRecOn with
 | ind n ih=>
  intro e f;by_cases d:∃m,1<=m/\m<n/\aV R m t t
  .obtain⟨m,a,b,c⟩:=d;exact ih m b a c
  .exact⟨n,e,f,λm a b c=>d ⟨m,a,b,c⟩⟩
theorem De{E:Ps->Ps->Prop}{a names:List Ps}(e:ig E a)(v:∀s∈a,s∈names){l cs:List Nat}(r:∀q,q∈cs↔q<a.length/\uO (bL E a) q)(h:∀p,p∈l↔p<a.length/\og (bL E a) cs p)(w:l.Pairwise (· < ·)):rR E names (l.map (nameOf a)):=by
 refine⟨?_,λs=>?_⟩
 .unfold nD;rw[List.pairwise_map];exact w.imp_of_mem λ{p q} b c x=>by
   have d:=((h p).1 b).1;have i:=((h q).1 c).1;rw[jv d,jv i];exact (e.less d i).2 x
 .rw[Oq];constructor
  .rintro⟨p,b,rfl⟩;obtain⟨d,j,y,n,f⟩:=(h p).1 b;obtain⟨i,m,H,z,_⟩:=(r j).1 y;rw[jv d];obtain⟨A,B⟩:=qK f d;obtain⟨I,C⟩:=qK z A;obtain⟨k,rfl⟩:∃k,m=k+1:=⟨m-1,A7⟩;exact⟨v _ (Oa d),a[j],n,B,k,C⟩
  .rintro⟨_,j,n,f,m,t⟩;obtain⟨J,D,_⟩:=t.first
   obtain⟨q,c,rfl⟩:=e.place D;have F:∃(p:Nat) (b:p<a.length),a[p]=s:=by
    cases n with
    | zero=>exact⟨q,c,f.zero.symm⟩
    | succ n=>
     obtain⟨K,G,_⟩:=f.first
     exact e.place G
   obtain⟨p,b,rfl⟩:=F;refine⟨p,(h p).2 ⟨b,q,(r q).2 ⟨c,B_ (m+1) A7 (e.back c c t)⟩,n,e.back b c f⟩,jv b⟩
def IB(Kj:List Qq)(Kk:List Ps)(sl:List Qz)(w w':Pv)(e:Ending):Prop:=
 ∃(da:Pt) (ns:List Ps),e= .returned (.slice da ns.length ns.length)/\bW w' w.heap.size w'.heap.size da ns/\lq Kj Kk sl ns/\K_ w w'
theorem zS(w:Pv)(a:Pt)(cap:Nat)(Kj:List Qq)(rd:Pt)(rc:Nat)(Kk:List Ps)(z:Pt)(I:Nat)(sl:List Qz)(hl:Kj.length<=1048576)(J:∀s∈Kj,s.Fits)(c4:Kk.length<=maxLen)(c5:Kk.length<=rc)(c6:∀s∈Kk,s.size<=maxLen)(c7:sl.length<=1048576)(c8:∀r∈sl,r.texts.length<=1048576)(hS:bN w a Kj)(A:Strs w rd Kk)(hG:fw w z sl)(d0:dA w):
  Calls prog 12 #[.agg #[.slice a Kj.length cap],.agg #[.slice rd Kk.length rc,.slice z sl.length I]] w λe w'=>IB Kj Kk sl w w' e:=by
 have j:K_ w ((w.alloc (.cells #[.slice a Kj.length cap] 25)).alloc (.cells #[.slice rd Kk.length rc,.slice z sl.length I] 32)):=(ah _ _).alloc _;go_enter func12,ntmps12
 go_wp2_with fail
 refine (xk _ a cap Kj rd rc Kk z I sl hl J c4 c5 c6 c7 c8 (hS.kept j) (A.kept j) (hG.kept j) (d0.kept j)).mono ?_;rintro e w1 ⟨L,d1⟩;have M:=j.trans L;rcases d1 with⟨a6,rfl⟩|⟨N,a7,O,wz,bb,k,mx,P,d,dc,f7,ws,a8,rfl,kz,hB,Q,d2,R,b0,b1⟩
 .have d3:=Kz a6;clear a6 L j;go_wp2
  go_ret
  exact⟨none,[],rfl,.inl rfl,⟨NS _,.inr ⟨λh=>d3.o ⟨h.1,h.2.1,h.good.asc⟩,rfl⟩⟩,M⟩
 have S:=Kz (R.trans (Au N a7 Q b0 b1));have⟨b2,HB,T,U⟩:=jW R hB Q N;clear a7 O kz R b0 b1 L j hB Q N;cases a8
 .go_wp2
  go_ret
  exact⟨none,[],rfl,.inl rfl,⟨NS _,.inr ⟨λh=>(by have h2:=S.o.2 h;cases h2),rfl⟩⟩,M⟩
 have V:Hid (Qk P=sl):=b2.o.1 rfl;have b3:Hid (fK Kj Kk sl):=S.o.1 rfl;clear b2 S;have W:=HB.o.len (nV U.o);go_wp2_with fail
 refine (Ae HB.o T.o (cO U.o) d2 W).mono ?_;rintro e w2 ⟨mo,b4,g,c,rfl,B,C,hM,k2⟩;have d4:Hid ((λx y=>y∈c x)=bg (Q_ Kj) (Qj sl)):=by
  show _=_
  funext x y
  rw[C.iff,<-V.o,vF T.o (by rw[V.o];exact b3.o.asked)];simp
 have D:Hid (∀s,c s≠[]->s∈P.map (·.r.name)):=λs f=>by
  obtain⟨y,hy⟩:=List.exists_mem_of_ne_nil _ f;obtain⟨_,t,l,hn,_⟩:=(C.iff s y).1 hy;rw[<-hn];exact Oq.2 ⟨t,l,rfl⟩
 have b5:Hid (∀s,c s≠[]->s.size<=20):=λs f=>by
  obtain⟨t,l,rfl⟩:=Oq.1 (D.o s f);obtain⟨f8,O,_⟩:=(T.o.good.good t.r (OP (f:=λt:Zx=>t.r) l)).act;exact (cO U.o _ _ O).2.2.1
 have d5:Hid (sG w2 mo (λs=>c s≠[]) c):=by
  obtain⟨d6,d7,hN,d8,J,hh⟩:=B.map;refine⟨⟨d6,d7,A7,d8,λs f=>?_,hh⟩,λs h=>h⟩;obtain⟨va,vc,hg⟩:=ay (B.row s);have d9:=B.row s;obtain⟨a9,c9,e9,e0⟩:=bv d9;exact⟨a9,c9,by rw[J s f,e9],e0⟩
 have e1:Hid (∀s,(c s).length<=1000000):=λs=>by have:=C.len s;omega
 clear B C;go_wp2_with fail
 refine (vI w2 mo _ c (P.map (·.r.name)) D.o (by rw[OY];exact W) b5.o e1.o d5.o).mono ?_;rintro e m ⟨n,p,b,E,k,b4,e2,back,rfl,X,q,hV,A,e3,b6⟩;have e4:b.length<=60:=by
  refine NT (List.Nodup.length_le_of_subset ?_ (λx hx=>D.o x ((q x).1 hx))) (by rw[OY];exact W);exact X.imp λ{a a8} e5=>dU e5
 have e6:Hid (ig (λx y=>y∈c x) b):=⟨X,λx y b7=>(q x).2 (λe=>by rw[e] at b7;cases b7)⟩;have e7:Hid (∀s∈b,s.size<=1048576):=λs f=>by have:=b5.o s ((q s).1 f);omega
 have HR:=Kz A;have e8:Hid (∀s∈b,s∈sl.map (·.name)):=λs f=>by
  have h:=D.o s ((q s).1 f);rw[<-V.o];obtain⟨t,l,rfl⟩:=Oq.1 h;exact Oq.2 ⟨t.r,OP (f:=λt:Zx=>t.r) l,rfl⟩
 obtain⟨Y,v⟩:=ai (m.alloc (.cells #[.slice n b.length p,.b E b.length b.length,.b k b.length b.length] 93));have Z:K_ m Y:=by rw[v];exact ah _ _
 obtain⟨a0,a1⟩:=ai m.heap.size;have F:Hid (∀u,K_ Y u->J4 u a0 0 (.slice n b.length p)/\J4 u a0 1 (.b E b.length b.length)/\J4 u a0 2 (.b k b.length b.length)):=λu a2=>by
  have z1:m.heap.size<Y.heap.size:=by rw[v];simp
  have h:=Xz m #[.slice n b.length p,.b E b.length b.length,.b k b.length b.length] 93;rw[<-v] at h;rw[a1];exact⟨(a2.cell z1).trans (h 0 _ rfl),(a2.cell z1).trans (h 1 _ rfl),(a2.cell z1).trans (h 2 _ rfl)⟩
 have b8:=Kz (hV.kept Z);have f0:=Kz (b6.trans Z);have⟨f1,f2⟩:=aH v a1;clear X q hV A b6 Z v a1;go_upto_region 5 with fail
 rw[<-f1.o,<-f2.o];refine bn 4 F.o λwd KD a3=>?_
 refine ae 0 a3 ?_;refine ae 1 a3 ?_;refine aF 2 (λK i=>?_);go_simp
 go_at_call 43
 refine (IJ wd n p b E k e2 back _ b4 e4 e3 (b8.o.kept KD) HR.o).mono ?_;rintro e w3 ⟨pa,pc,G,cs,rfl,b9,f3,c0,c1,a4,k3⟩;have H:=KD.trans k3;have f4:=Kz b9;have f5:Hid (rR (λx y=>y∈c x) (sl.map (·.name)) (G.map (nameOf b))):=De e6.o e8.o c1 a4 c0;have f6:Hid (∀a5∈G,a5<b.length):=λa5 hp=>((a4 a5).1 hp).1
 clear b9 a4 c0 c1;dsimp only;refine af i (λ_=>F.o _ H) ?_;clear i K a3;refine aF 3 (λK i=>?_);go_simp
 go_at_call 42
 refine (Dg w3 n p b _ _ rfl rfl pa pc G f6.o A7 A7 e7.o (b8.o.kept H).names f4.o).mono ?_;rintro e w4 ⟨da,rfl,hT,k4⟩;have K4:=H.trans k4;have HT:=Kz hT;have c2:=Kz (f0.o.trans H);clear hT;dsimp only;refine af i (λ_=>F.o _ K4) ?_;clear i K;refine aj 4 (λK i=>?_);go_simp
 refine af i (λh=>Pg rfl h) ?_;clear i K;refine aG ?_;clear F HR;go_wp2
 go_ret
 have c3:=M.trans k2;refine⟨da,G.map (nameOf b),by rw[OY];rfl,HT.o.mono (NT c3.size c2.o.size) (NQ _),⟨by rw[OY];exact f3,.inl ⟨b3.o,by rw[<-d4.o];exact f5.o⟩⟩,c3.trans (c2.o.trans k4)⟩
section
variable {Kj : List Qq} {wz w : Pv} {cb : Nat} {a : Pt} {cap mr mt mx : Nat} {cl : Ps -> Option fB} {f : Ps -> Pw} {kf : Ps -> Prop} {un co : Int} {sl : List Qz}
theorem zP(t:CM Kj wz w cb a cap mr mt mx cl f kf un co)(v:CS Kj wz cl f kf un co sl)(F:Kj.length<=1048576)(G:dI Kj)(H:bN wz a Kj)(qa:Pt)(qc:Nat)(l:List Ps)(T:l.length<=1048576)(I:∀x∈l,x.size<=1000)(J:Strs wz qa l):
  Calls prog 178 #[.slice qa l.length qc,.func (.func 154) #[.c cb] #[]] w λe w'=>(∃i:Int,e= .returned (.a i)/\(0<=i↔∃n∈l,aP (Q_ Kj) (Qj sl) n=none))/\K_ w w':=by
 have⟨y,K⟩:=aH t v;clear t v;go_enter func178,ntmps178
 go_wp2
 go_loopw [8] (λi wr=>∃k:Nat,k<=l.length/\i= .a (k:Int)/\Hid (∀r∈l.take k,aP (Q_ Kj) (Qj sl) r≠none)/\K_ w wr) (λi _=>l.length-(intOf i).toNat)
 case atStart=>exact⟨0,NS _,rfl,Kz (λr d=>by simp at d),K_.refl _⟩
 case round=>
  obtain⟨k,U,rfl,z,j⟩:=hrel;by_cases c:k<l.length
  .have L:=y.o.kw.trans j;obtain⟨b,o,rfl,M,m⟩:=J k c;obtain⟨n,p⟩:=ai (l.getD k ByteArray.empty);rw[<-p] at m;have q:l[k]=n:=by rw[p];simp[List.getD,c]
   have A:=Kz q;have N:_=some (Value.string n):=(L.cell M).trans m;have O:n.size<=1000:=by rw[<-q];exact I _ (Oa c)
   have V:(k:Int)<(l.length:Int):=A7;clear m p q;go_wp2_with fail
   refine (nI (y.o.kept j) K.o F G H n O).mono ?_;rintro e W ⟨⟨r,rfl,d⟩,P⟩;have B:=j.trans P;have C:=Kz d;clear N d;cases D:r
   .have Q:Hid (∀r∈l.take (k+1),aP (Q_ Kj) (Qj sl) r≠none):=λx E=>by
     rw[NY c,A.o] at E;rcases N_.1 E with h|h
     .exact z.o x h
     .rw[NZ] at h;rw[h];exact λs=>by have:=C.o.2 s;rw[D] at this;cases this
    go_wp2
    go_roundw
    case rel=>exact⟨k+1,A7,C8,Q,B⟩
    case measure=>simp[intOf];omega
   .go_wp2
    go_ret
    exact⟨⟨_,rfl,λ_=>⟨n,by rw[<-A.o];exact Oa c,C.o.1 D⟩,λ_=>A7⟩,B⟩
  .have X:¬((k:Int)<(l.length:Int)):=A7;have R:Hid (∀r∈l,aP (Q_ Kj) (Qj sl) r≠none):=by have h:=z.o;rw[Oy A7] at h;exact h
   clear c;go_wp2
   go_ret
   exact⟨⟨_,rfl,λh=>A7,λ⟨r,S,s⟩=>Pg s (R.o r S)⟩,j⟩
theorem wN(d:CM Kj wz w cb a cap mr mt mx cl f kf un co)(h:CS Kj wz cl f kf un co sl)(k:Kj.length<=1048576)(m:dI Kj)(p:bN wz a Kj)(qa:Pt)(qc:Nat)(l:List Ps)(q:l.length<=1048576)(r:∀x∈l,x.size<=1000)(s:Strs wz qa l):
  Calls prog 153 #[.slice qa l.length qc,.func (.func 154) #[.c cb] #[]] w λe w'=>Says e (∃n∈l,aP (Q_ Kj) (Qj sl) n=none)/\K_ w w':=by
 have⟨t,v⟩:=aH d h;clear d h;go_enter func153,ntmps153
 go_wp2_with fail
 refine (zP t.o v.o k m p qa qc l q r s).mono ?_;rintro e A ⟨⟨y,rfl,b⟩,i⟩;cases j:decide ((0:Int)<=y)
 .have c:Hid (¬∃n∈l,aP (Q_ Kj) (Qj sl) n=none):=λz=>by have:=b.2 z;simp[this] at j
  clear b;go_wp2
  go_ret
  exact⟨Says.no c.o,i⟩
 .have c:=Kz (b.1 (by simpa using j));clear b;go_wp2
  go_ret
  exact⟨Says.yes c.o,i⟩
end
def mM(g:Qz->Int)(l:List Qz):Int:=(l.map g).sum
theorem kN(g:Qz->Int)(x:Qz)(l:List Qz):mM g (x :: l)=g x+mM g l:=by simp[mM]
theorem CP(g:Qz->Int)(l l':List Qz):mM g (l++l')=mM g l+mM g l':=by simp[mM]
theorem AP(g:Qz->Int)(n:Ps):∀l:List Qz,mM g (l.filter λx=>Op.bytesLess x.name.toList n.toList)+mM g (l.filter λx=>Op.bytesLess n.toList x.name.toList)+mM g (l.filter λx=>decide (x.name=n))=mM g l
 | []=>rfl
 | x :: l=>by
  have d:=AP g n l;rw[kN];rcases dJ x.name n with h|h|h
  .have a:Op.bytesLess n.toList x.name.toList=false:=by
    cases e:Op.bytesLess n.toList x.name.toList with
    | false=>rfl
    | true=>exact Pg (fe h e) (aQ _)
   have b:decide (x.name=n)=false:=by simpa using dU h
   rw[List.filter_cons_of_pos (by exact h),List.filter_cons_of_neg (by rw[a];simp),List.filter_cons_of_neg (by rw[b];simp),kN];omega
  .have c:Op.bytesLess x.name.toList n.toList=false:=by
    cases e:Op.bytesLess x.name.toList n.toList with
    | false=>rfl
    | true=>rw[h] at e;exact Pg e (aQ _)
   have a:Op.bytesLess n.toList x.name.toList=false:=by
    cases e:Op.bytesLess n.toList x.name.toList with
    | false=>rfl
    | true=>rw[h] at e;exact Pg e (aQ _)
   rw[List.filter_cons_of_neg (by rw[c];simp),List.filter_cons_of_neg (by rw[a];simp),List.filter_cons_of_pos (by simpa using h),kN];omega
  .have c:Op.bytesLess x.name.toList n.toList=false:=by
    cases e:Op.bytesLess x.name.toList n.toList with
    | false=>rfl
    | true=>exact Pg (fe h e) (aQ _)
   have b:decide (x.name=n)=false:=by simpa using (dU h).symm
   rw[List.filter_cons_of_neg (by rw[c];simp),List.filter_cons_of_pos (by exact h),List.filter_cons_of_neg (by rw[b];simp),kN];omega
theorem KI(g:Qz->Int)(n:Ps):∀{l:List Qz},dz l->mM g (l.filter λx=>decide (x.name=n))=match Qj l n with | some r=>g r | none=>0
 | [],_=>rfl
 | x :: l,h=>by
  have b:=Pn.1 h;by_cases e:x.name=n
  .have d:l.filter (λx=>decide (x.name=n))=[]:=by
    rw[List.filter_eq_nil_iff];intro y f i;have c:=b.1 y f;rw[e,<-(by simpa using i:y.name=n)] at c;exact Pg c (aQ _)
   have a:Qj (x :: l) n=some x:=by unfold Qj;rw[List.find?_cons_of_pos (by simpa using e)]
   rw[List.filter_cons_of_pos (by simpa using e),d,a,kN];simp[mM]
  .have a:Qj (x :: l) n=Qj l n:=by unfold Qj;rw[List.find?_cons_of_neg (by simpa using e)]
   rw[List.filter_cons_of_neg (by simpa using e),a];exact KI g n b.2
theorem v_(g:Qz->Int){l:List Qz}{r:Qz}(h:dz l):mM g (dF l r)=mM g l-(match Qj l r.name with | some r0=>g r0 | none=>0)+g r:=by
 have b:=AP g r.name l;rw[KI g r.name h] at b;unfold dF;rw[CP,kN];omega
theorem qL(l:List Qz):dX l=mM (λr=>r.Zj) l:=rfl
theorem tT(W:bR)(l:List Qz):gy W l=mM (λr=>r.Zj*iB W r.name) l:=rfl
theorem vw{Kj:List Qq}{σ:Env}{r:Qz}(hgd:r.Good Kj)(h:aZ (Q_ Kj) σ r):(Y_ (Q_ Kj) σ r).1.Zj≠0/\0<=(Y_ (Q_ Kj) σ r).1.Zj-r.Zj/\(Y_ (Q_ Kj) σ r).1.Zj-r.Zj<=1:=by
 obtain⟨A,b,_,_⟩:=hgd.act;have k:=hgd.lo;have c:∀a:Qz,(bK A a).1.Zj=a.Zj+1:=λa=>by unfold bK;simp only;split <;> rfl
 unfold Y_;rw[b];simp only
 split
 .rw[c];omega
 .rename_i hv
  split
  .next e=>
   exfalso
   rcases h.2 with j|⟨l,m,d,f⟩
   .exact hv j
   .rw[b] at d;cases d;rw[e] at f;cases f
  .split
   .simp only;omega
   .split
    .simp only;omega
    .rw[c];simp only;omega
section
variable {Kj : List Qq} {wz : Pv} {cl : Ps -> Option fB} {f : Ps -> Pw} {kf : Ps -> Prop} {un co : Int} {sl : List Qz}
theorem CS.want(h:CS Kj wz cl f kf un co sl)(k:aX (Q_ Kj)){n:Ps}(l:(Q_ Kj n).isSome=true)(d:cl n=none){t:fB}(c:t.r=Qz.fresh n):CS Kj wz (λm=>if m=n then some t else cl m) f kf un co (dF sl (Qz.fresh n)):=by
 have i:Qj sl n=none:=by rw[h.env n,d];rfl
 refine⟨⟨lC h.good.asc,λr b=>?_⟩,λm=>?_,λs=>?_,λs=>?_, ?_, ?_, ?_⟩
 .rcases pI.1 b with rfl|⟨a,_⟩
  .exact gD k l
  .exact h.good.good r a
 .rw[ik h.good.asc];by_cases e:m=n
  .rw[Pe e,Pe (by exact e),<-c];rfl
  .rw[Pf e,Pf (by exact e)];exact h.env m
 .by_cases e:s=n
  .rw[Pe e,e];have a:=h.turn n;rw[d] at a;have j:gB (Q_ Kj) t.r=[]:=by unfold gB;rw[Pe (.inl (by rw[c];rfl))]
   refine⟨0,none,0, ?_, ?_⟩
   .rw[j,c];exact a
   .rw[j];exact vZ wz
  .rw[Pf e];exact h.turn s
 .rw[h.key s];by_cases e:s=n
  .rw[Pe e,e,d];constructor
   .rintro⟨_,a,_⟩;cases a
   .rintro⟨v,a,p⟩;cases a;exact Pg (by rw[c];rfl) p
  .rw[Pf e]
 .rw[h.dS,qL,qL,v_ _ h.good.asc];show mM _ sl=mM _ sl-(match Qj sl n with | some r0=>r0.Zj | none=>0)+0;rw[i];simp
 .rw[h.cost,tT,tT,v_ _ h.good.asc];show mM _ sl=mM _ sl-(match Qj sl n with | some r0=>r0.Zj*iB (Q_ Kj) r0.name | none=>0)+0*iB (Q_ Kj) n;rw[i];simp
 .intro m r b q;rw[ik h.good.asc] at b
  split at b
  .cases b;exact⟨rfl,rfl⟩
  .exact h.opn m r b q
theorem CS.done(h:CS Kj wz cl f kf un co sl)(l:aX (Q_ Kj)){n:Ps}{t:fB}(v:cl n=some t)(w:Q_ Kj n=some ⟨t.cost,t.steps⟩)(d:aZ (Q_ Kj) (Qj sl) t.r){a:Qz}(c:a= (Y_ (Q_ Kj) (Qj sl) t.r).1){tv':Pw}{qa:Pt}{qc:Nat}(p:Strs wz qa (Y_ (Q_ Kj) (Qj sl) t.r).2):
  CS Kj wz (λm=>if m=n then some {t with r:=a,tv:=tv'} else cl m) (λm=>if m=n then fJ (a.Zj-t.r.Zj) qa (Y_ (Q_ Kj) (Qj sl) t.r).2.length qc a.over a.fail a.text else f m) (λm=>m=n\/kf m) (un+ (a.Zj-t.r.Zj)) (co+ (a.Zj-t.r.Zj)*t.cost) (dF sl a):=by
 have i:Qj sl n=some t.r:=by rw[h.env n,v];rfl
 obtain⟨x,q⟩:=aN i;have hgd:=h.good.good t.r x;have y:a.Good Kj:=by rw[c];exact dm l h.good.env hgd d
 have j:a.name=n:=by rw[c,bP];exact q
 have z:(Y_ (Q_ Kj) (Qj sl) t.r).2=gB (Q_ Kj) a:=by rw[c];exact xS l h.good hgd d
 have A:iB (Q_ Kj) n=t.cost:=pX w;refine⟨⟨lC h.good.asc,λr b=>?_⟩,λm=>?_,λs=>?_,λs=>?_, ?_, ?_, ?_⟩
 .rcases pI.1 b with rfl|⟨B,_⟩
  .exact y
  .exact h.good.good r B
 .rw[ik h.good.asc,j];by_cases e:m=n
  .rw[Pe e,Pe e];rfl
  .rw[Pf e,Pf e];exact h.env m
 .by_cases e:s=n
  .rw[Pe e,Pe e];rw[z] at p⊢;exact⟨_,qa,qc,rfl,p⟩
  .rw[Pf e,Pf e];exact h.turn s
 .by_cases e:s=n
  .rw[Pe e];exact⟨λ_=>⟨_,rfl,by show a.Zj≠0;rw[c];exact (vw hgd d).1⟩,λ_=>.inl e⟩
  .rw[Pf e];have C:(s=n\/kf s)↔kf s:=⟨λh=>h.resolve_left e,.inr⟩;rw[C];exact h.key s
 .rw[h.dS,qL,qL,v_ _ h.good.asc,j,i];simp only;omega
 .rw[h.cost,tT,tT,v_ _ h.good.asc,j,i];simp only;rw[q,A,Int.sub_mul];omega
 .intro m r b k;rw[ik h.good.asc,j] at b
  split at b
  .cases b;rw[c] at k⊢;exact Fj (h.opn n t.r i d.1) k
  .exact h.opn m r b k
end
variable {Kj : List Qq} {r : Qz}
theorem qy{A:eY}(a:Q_ Kj r.name=some A)(b:r.over=false)(c:r.Zj≠0):gB (Q_ Kj) r= (stepOf A r.at').asks:=by
 unfold gB;rw[Pf (by rw[b];simp[c]),a]
theorem pV(c:aX (Q_ Kj))(d:r.Good Kj):(gB (Q_ Kj) r).length<=5/\∀x∈gB (Q_ Kj) r,x.size<=20:=by
 obtain⟨A,b,e,f⟩:=d.act;unfold gB
 split
 .exact⟨A9,λx a=>by cases a⟩
 .rw[b];obtain⟨h,i⟩:=ja (c _ _ b).1 e f;exact⟨h,λx a=>(i x a).2.1⟩
variable {W : bR} {σ : Env}
theorem vv :∀{l:List Ps},(¬∃n∈l,aP W σ n=none)->∃xs,Yq W σ l=some xs
 | [],_=>⟨[],rfl⟩
 | a :: l,h=>by
  obtain⟨c,d⟩:=vv (l:=l) (λ⟨n,e,f⟩=>h ⟨n,Oi _ e,f⟩);cases b:aP W σ a with
  | none=>exact Pg ⟨a,List.mem_cons_self,b⟩ h
  | some x=>exact⟨x :: c,by unfold Yq;rw[b,d]⟩
theorem xW :∀{l:List Ps} {xs:List Xq},Yq W σ l=some xs->¬∃n∈l,aP W σ n=none
 | [],_,_,h=>by obtain⟨n,b,_⟩:=h;cases b
 | a :: l,xs,h,hn=>by
  unfold Yq at h;cases c:aP W σ a with
  | none=>rw[c] at h;cases h
  | some x=>
   rw[c] at h;simp only at h;cases e:Yq W σ l with
   | none=>rw[e] at h;cases h
   | some ys=>
    obtain⟨n,b,d⟩:=hn;rcases OL.1 b with rfl|b
    .rw[c] at d;cases d
    .exact xW e ⟨n,b,d⟩
theorem Nc{asks:List Ps}(f:r.Good Kj)(c:r.over=false)(h:asks=gB (Q_ Kj) r)(i:¬∃n∈asks,aP (Q_ Kj) σ n=none):aZ (Q_ Kj) σ r/\∃a,Yq (Q_ Kj) σ asks=some a:=by
 obtain⟨a,b⟩:=vv i;refine⟨⟨c, ?_⟩,a,b⟩;by_cases d:r.Zj=0
 .exact .inl d
 .obtain⟨A,e,_,_⟩:=f.act;rw[h,qy e c d] at b;exact .inr ⟨A,a,e,b⟩
theorem not_can(h:r.Good Kj)(a:∃n∈gB (Q_ Kj) r,aP (Q_ Kj) σ n=none)(d:aZ (Q_ Kj) σ r):False:=by
 by_cases b:r.Zj=0
 .obtain⟨n,c,_⟩:=a;unfold gB at c;rw[Pe (.inl b)] at c;cases c
 .obtain⟨A,e,_,_⟩:=h.act;rcases d.2 with i|⟨l,m,f,j⟩
  .exact b i
  .rw[e] at f;cases f;rw[qy e d.1 b] at a;exact xW j a
def iF(W:bR)(σ1:Env)(bs:List Ps)(σ:Env):Prop:=∀m,σ m=match σ1 m with
 | some x=>some x
 | none=>if dM bs m=true/\(W m).isSome=true then some (Qz.fresh m) else none
theorem iF.start(W:bR)(σ:Env):iF W σ [] σ:=λm=>by
 cases σ m with
 | some x=>rfl
 | none=>simp[dM]
theorem qN{l:List Ps}{x m:Ps}:dM (l++ [x]) m=true↔dM l m=true\/m=x:=by
 rw[bT,bT,N_,NZ]
theorem iF.no{e:Env}{d:List Ps}{x:Ps}(j:iF W e d σ)(a:W x=none\/(σ x).isSome=true):iF W e (d++ [x]) σ:=λm=>by
 have c:=j m;cases h:e m with
 | some y=>rw[h] at c;exact c
 | none=>
  rw[h] at c;simp only at c⊢;rw[c];by_cases i:m=x
  .subst i;rcases a with a|a
   .rw[Pf (by rw[a];simp),Pf (by rw[a];simp)]
   .rw[c] at a
    split at a
    .next g=>rw[Pe g,Pe ⟨qN.2 (.inl g.1),g.2⟩]
    .cases a
  .have k:(dM (d++ [x]) m=true/\(W m).isSome=true)↔(dM d m=true/\(W m).isSome=true):=by
    rw[qN];constructor
    .rintro⟨g|g,f⟩
     .exact⟨g,f⟩
     .exact Pg g i
    .rintro⟨g,f⟩;exact⟨.inl g,f⟩
   simp only[k]
theorem iF.new{a f:Env}{b:List Ps}{x:Ps}(i:iF W a b σ)(j:(W x).isSome=true)(k:σ x=none)(l:∀m,f m=if m=x then some (Qz.fresh x) else σ m):iF W a (b++ [x]) f:=λm=>by
 have c:=i m;rw[l m];by_cases e:m=x
 .subst e;rw[Pe rfl];rw[k] at c;cases h:a m with
  | some y=>rw[h] at c;cases c
  | none=>
   simp only;rw[Pe ⟨qN.2 (.inr rfl),j⟩]
 .rw[Pf e,c];cases h:a m with
  | some y=>rfl
  | none=>
   have n:(dM (b++ [x]) m=true/\(W m).isSome=true)↔(dM b m=true/\(W m).isSome=true):=by
    rw[qN];constructor
    .rintro⟨g|g,d⟩
     .exact⟨g,d⟩
     .exact Pg g e
    .rintro⟨g,d⟩;exact⟨.inl g,d⟩
   simp only[n]
theorem IQ{sl b:List Qz}{n:Ps}{a:Qz}(c:Qj sl n=some r)(f:dz sl)(d:a= (Y_ W (Qj sl) r).1)(h:iF W (Qj (dF sl a)) (Y_ W (Qj sl) r).2 (Qj b)):Qj b=doX W (Qj sl) n:=by
 funext m
 have i:a.name=n:=by rw[d,bP];exact (aN c).2
 rw[h m,ed c,ik f,i];by_cases e:m=n
 .rw[Pe e,Pe e,d]
 .rw[Pf e,Pf e];cases Qj sl m <;> rfl
section
variable {Kj : List Qq} {wz w : Pv} {cb : Nat} {a : Pt} {cap mr mt mx : Nat} {cl : Ps -> Option fB} {f : Ps -> Pw} {kf : Ps -> Prop} {un co : Int} {sl : List Qz}
theorem CM.far(h:CM Kj wz w cb a cap mr mt mx cl f kf un co){b:Nat}(k:w.heap.size<=b):¬CMS cb mr mt cl b:=by
 obtain⟨l,m,p,⟨q,r,c,_⟩,_⟩:=h.runs;obtain⟨s,v,x,⟨y,z,d,_⟩,_⟩:=h.turns;rintro (e|e|e|⟨n,t,i,j⟩)
 .have:=h.row.lt;omega
 .have:=aO c;omega
 .have:=aO d;omega
 .have:=((h.clo n t i).2.2.2.bH j).2.2;omega
theorem Jt(a:CS Kj wz cl f kf un co sl)(c:aX (Q_ Kj))(d:Kj.length<=60):0<=un/\un<=1200/\0<=co/\co<=24000:=by
 have e:sl.length<=60:=NT a.good.len d;have h:=Mc c a.good e sl.length;rw[Ox] at h;rw[a.dS,a.cost];exact h
def Lu(Kj:List Qq)(wz w:Pv)(cb:Nat)(a:Pt)(cap mr mt mx:Nat)(cl:Ps->Option fB)(sl:List Qz)(n:Ps)(t:fB)(w':Pv)(e:Ending):Prop:=
 (¬aZ (Q_ Kj) (Qj sl) t.r/\e= .returned (.bool false)/\K_ w w')\/
 (aZ (Q_ Kj) (Qj sl) t.r/\e= .returned (.bool true)/\∃cl' f' kf' un' co' sl',CM Kj wz w' cb a cap mr mt (mx+6) cl' f' kf' un' co'/\CS Kj wz cl' f' kf' un' co' sl'/\iW cb mr mt cl cl' w w'/\Qj sl'=doX (Q_ Kj) (Qj sl) n)
theorem zH(J:CM Kj wz w cb a cap mr mt mx cl f kf un co)(hS:CS Kj wz cl f kf un co sl)(s:aX (Q_ Kj))(i2:∀y∈Kj,y.Fits)(i3:Kj.length<=60)(b3:dI Kj)(hN:bN wz a Kj)(i4:dA wz)(n:Ps)(t:fB)(ht:cl n=some t)(n7:mx<=900000):
  Calls prog 103 #[.c cb,.string n] w λe w'=>Lu Kj wz w cb a cap mr mt mx cl sl n t w' e:=by
 obtain⟨ia,i5,i6,i7,i8⟩:=aY Tryz.yO;have a2:=J.clo n t ht;have c8:Qj sl n=some t.r:=by rw[hS.env n,ht];rfl
 obtain⟨f2,_⟩:=aN c8;have hgd:=hS.good.good t.r f2;have n8:n.size<=20:=(s n _ a2.2.1).2.2.1;obtain⟨asks,b4⟩:=ai (gB (Q_ Kj) t.r);obtain⟨i9,c9⟩:=pV s hgd;rw[<-b4] at i9 c9;have f3:=hS.turn n;rw[ht] at f3;obtain⟨u,qa,qc,d0,hQ⟩:=f3;rw[<-b4] at d0 hQ;have Q:=J.MB (s:=n) D5;rw[d0] at Q;unfold fJ at Q;have j0:=J.c3;have zk:=J.row.lt;obtain⟨W1,a3⟩:=ai (w.alloc (.cells #[.a u,.slice qa asks.length qc,.bool t.r.over,.bool t.r.fail,.string t.r.text] 207));have k1:K_ w W1:=by rw[a3];exact ah _ _
 have b5:=Xz w #[.a u,.slice qa asks.length qc,.bool t.r.over,.bool t.r.fail,.string t.r.text] 207;rw[<-a3] at b5;have l1:J4 W1 w.heap.size 1 (.slice qa asks.length qc):=b5 1 _ rfl;have l2:J4 W1 w.heap.size 2 (.bool t.r.over):=b5 2 _ rfl;have lz:w.heap.size<W1.heap.size:=by rw[a3];simp
 have⟨HC,z⟩:=aH J hS;have j1:=Kz (J.kept k1);have⟨HQ,A,f4,R,d1⟩:=jH hQ ht c8 hgd b4;have b6:=Kz a2;have f5:Hid (Q_ Kj t.r.name=some ⟨t.cost,t.steps⟩):=by rw[a2.1];exact a2.2.1
 clear J hS d0 hQ ht c8 f2 hgd b4 a2 b5;go_enter func103,ntmps103
 go_upto_region 2 with fail
 rw[<-a3];clear a3 Q j0 zk;cases S:t.r.over
 .rw[S] at l2;have a4:=Kz S;clear S;go_wp2_with fail
  refine (wN j1.o z.o A7 b3 hN qa qc asks A7 (λT F=>by have:=c9 T F;omega) HQ.o).mono ?_;rintro e w2 ⟨⟨r2,rfl,f6⟩,k2⟩;have K2:=k1.trans k2;have L1:=(k2.cell lz).trans l1;have n9:=NR lz k2.size;have f7:=Kz f6;clear l1 l2 f6 lz;cases r2
  .have b7:aZ (Q_ Kj) (Qj sl) t.r/\∃x,Yq (Q_ Kj) (Qj sl) asks=some x:=Nc R.o a4.o d1.o (λh=>by have:=f7.o.2 h;cases this);obtain⟨b7,x,d2⟩:=b7;have U:=Kz b7;obtain⟨o0,f8⟩:=rQ d2;have⟨j2,j3⟩:=aH d2 f8;have d3:=Kz (HC.o.kept K2);clear b7 d2 f8;go_wp2
   go_loopg [6,32] asks.length (λgg x6 j4 wr=>∃(k:Nat) (av:Pt) (cv:Nat),x6= .slice av k cv/\j4= .a (k:Int)/\k+gg=asks.length/\K_ w2 wr/\Hid (wr.ownsRow w2.heap.size 80 2 (.slice av k cv) k (bO (x.take k))))
   case atStart=>exact⟨0,none,0,rfl,rfl,A7,K_.refl _,OO _ _ _ _⟩
   case round=>
    obtain⟨k,av,cv,rfl,rfl,o1,V,HO⟩:=hrel;by_cases j5:(k:Int)<(asks.length:Int)
    .have b8:k<asks.length:=A7;obtain⟨m,G⟩:=ai (asks.getD k ByteArray.empty);obtain⟨T,F⟩:=ai (x.getD k Xq.zero);have d4:=j3.o k b8;rw[<-G,<-F] at d4;obtain⟨b,o,rfl,d5,L⟩:=HQ.o k b8;rw[<-G] at L;have j6:=d3.o.kw.trans V;have c0:J4 wr b (o+k) (.string m):=(j6.cell d5).trans L;have j7:m.size<=20:=by rw[G];simp only[List.getD,NV b8,Ph];exact c9 _ (Oa b8)
     have d6:Hid (x.take (k+1)=x.take k++ [T]):=by
      show _=_;rw[NY A7,F];simp[List.getD,(A7:k<x.length)]
     have j8:=Kz d4;clear G F d4 L;go_wp2_with fail
     refine (jP (d3.o.kept V) z.o A7 b3 hN m A7).mono ?_;rintro e w4 ⟨⟨H,I,ok,rfl,a5,_⟩,k4⟩;rw[j8.o] at a5;cases ok
     .simp at a5
     simp only[if_true,OE] at a5;have K4:=V.trans k4;have j9:=Kz (ak HO.o k4);have HX:Hid (T= ⟨H,I⟩):=a5;clear a5 c0;obtain⟨W5,b9⟩:=ai ((w4.alloc (.cells #[.bool H,.string I] 80)).alloc (.cells #[.bool H,.string I] 80));have K5:K_ w4 W5:=by rw[b9];exact (ah _ _).alloc _
     have f9:=Kz (ak j9.o K5);have KK:=Kz (K4.trans K5);have k0:w2.heap.size<=W5.heap.size:=KK.out.size;have k3:Hid (∀j u,([.bool H,.string I]:List Pw)[j]? =some u->W5.cell? ((⟨w4.heap.size+1,0,none⟩:Addr).add j)=some u):=λj u hu=>by
      rw[OI,b9];have:=Xz (w4.alloc (.cells #[.bool H,.string I] 80)) #[.bool H,.string I] 80 j u hu;rw[OC] at this;exact this
     have k5:Hid (∀u∈([.bool H,.string I]:List Pw),u.oneCell'=true):=λu hu=>by simp only[OL,OM,or_false] at hu;rcases hu with rfl | rfl <;> rfl
     have o2:k<=5:=A7;have k6:=Kz b9;clear b9;go_wp2_with (at_builtin;rw[<-k6.o];refine wpList_append_own _ rfl (.tmp 42) (.tmp 44) 181 rfl w2.heap.size 80 ia _ 2 24 underlying181 i5 i6 i7 i8 rfl A8 (.slice av k cv) k (bO (x.take k)) rfl f9.o ⟨w4.heap.size+1,0,none⟩ 1 1 [.bool H,.string I] rfl rfl k3.o k5.o D5 A7 k0 ?_;intro v' l d7 g0 _;have KP:=aL KK.out (NQ _) f9.o g0;have HP:=Kz d7;obtain⟨k8,k9,rfl⟩:=ay d7;clear d7 g0)
     go_roundg (gk-1)
     case measure=>omega
     case rel=>exact⟨k+1,k8,k9,rfl,C8,A7,KP,Kz (by rw[d6.o,lF,HX.o];exact HP.o)⟩
    .have d8:x.length=k:=A7;have l0:=Kz d8;have hO:=HO.o;rw[Oy A7,<-d8] at hO;have l3:=Kz hO;have W:=Kz (d3.o.kept V);have Q:=W.o.Mw (s:=n) D5;have e0:fnC cl n= .func (.func 146) #[] #[.c t.vb,.c t.ab,.c t.tb,.c t.xb]:=by unfold fnC;rw[A.o];rfl
     rw[e0] at Q;have l4:=W.o.c2;have zk:=W.o.row.lt;clear hO d8 e0 L1;go_wp2_with fail
     have d9:=Ma s i2 z.o.good wz wr i4 W.o.kw ((W.o.clo n t A.o).2.2.2) f5.o b6.o.2.2.1 R.o U.o (z.o.opn n t.r f4.o a4.o) w2.heap.size av cv x l3.o (λX=>by rw[<-qy f5.o a4.o X,<-d1.o];exact j2.o);rw[l0.o] at d9;refine d9.mono ?_;rintro e l ⟨Y,B,C,rfl,c1,e1,e2,e3⟩;obtain⟨c,Z⟩:=ai ((Y_ (Q_ Kj) (Qj sl) t.r).1);obtain⟨d,a6⟩:=ai ((Y_ (Q_ Kj) (Qj sl) t.r).2);obtain⟨i,a7⟩:=ai (c.Zj-t.r.Zj);rw[<-Z] at e1⊢;rw[<-a6] at c1⊢;rw[<-a7];dsimp only[fJ];have e4:=vw R.o U.o;rw[<-Z,<-a7] at e4;have g1:=Kz (z.o.done s A.o b6.o.2.1 U.o Z (tv':=Y) (qa:=B) (qc:=C) (by rw[<-a6];exact c1));rw[<-a6,<-a7] at g1;have g2:c.name=t.r.name:=by rw[Z,bP]
     have g3:=Kz (W.o.called A.o g2 e1 e2 e3);have l5:Hid (iW cb mr mt cl (λm=>if m=n then some {t with r:=c,tv:=Y} else cl m) w l):=by
      refine⟨(But.au (K2.trans V)).trans (e2.mono (λb _ D=>.inr (.inr (.inr ⟨n,t,A.o,D⟩)))),λb D=>?_⟩;rcases D with D | D | D | ⟨m,v,X,F⟩
      .exact .inl (.inl D)
      .exact .inl (.inr (.inl D))
      .exact .inl (.inr (.inr (.inl D)))
      .simp only at X
       split at X
       .cases X;rcases dx.1 F with q|q|q|q
        .exact .inl (.inr (.inr (.inr ⟨n,t,A.o,dx.2 (.inl q)⟩)))
        .exact .inl (.inr (.inr (.inr ⟨n,t,A.o,dx.2 (.inr (.inl q))⟩)))
        .exact .inl (.inr (.inr (.inr ⟨n,t,A.o,dx.2 (.inr (.inr (.inl q)))⟩)))
        .rcases e3 b q with q|q
         .exact .inl (.inr (.inr (.inr ⟨n,t,A.o,dx.2 (.inr (.inr (.inr q)))⟩)))
         .exact .inr (NT (K2.trans V).size q)
       .exact .inl (.inr (.inr (.inr ⟨m,v,X,F⟩)))
     have⟨l6,l7,g4,o3⟩:=jW c1 Z a6 a7;obtain⟨E,a0⟩:=ai (l.alloc (.cells #[.a i,.slice B d.length C,.bool c.over,.bool c.fail,.string c.text] 207));have k7:K_ l E:=by rw[a0];exact ah _ _
     have M:=Xz l #[.a i,.slice B d.length C,.bool c.over,.bool c.fail,.string c.text] 207;rw[<-a0] at M;have N:l.heap.size<E.heap.size:=by rw[a0];simp
     have g5:=Kz (g3.o.kept k7);have e5:Hid (¬CMS cb mr mt (λm=>if m=n then some {t with r:=c,tv:=Y} else cl m) l.heap.size):=g3.o.far (NQ _);have e6:Hid (∀v,K_ E v->J4 v cb 3 (.map (some mt))/\J4 v l.heap.size 0 (.a i)/\J4 v l.heap.size 1 (.slice B d.length C)/\J4 v l.heap.size 2 (.bool c.over)/\J4 v l.heap.size 3 (.bool c.fail)/\J4 v l.heap.size 4 (.string c.text)):=λv K=>⟨((g5.o.kept K).c3),(K.cell N).trans (M 0 _ rfl),(K.cell N).trans (M 1 _ rfl),(K.cell N).trans (M 2 _ rfl),(K.cell N).trans (M 3 _ rfl),(K.cell N).trans (M 4 _ rfl)⟩
     have c4:=Kz N;have l8:Hid (aB E l.heap.size 207 5):=by rw[a0];exact aB.made l _ _
     clear d9 c1 e1 e2 e3 Z a6 a7 g2 M Q l4 zk N;go_upto_region 12 with fail
     rw[<-a0];clear a0;obtain⟨p,g6⟩:=ai l.heap.size;rw[<-g6] at e6 c4 e5 l8⊢;clear g6;refine Qx.region C9 (λv=>J4 v cb 3 (.map (some mt))/\J4 v p 0 (.a i)/\J4 v p 1 (.slice B d.length C)/\J4 v p 2 (.bool c.over)/\J4 v p 3 (.bool c.fail)/\J4 v p 4 (.string c.text)) 6 (e6.o _ (bD E)) (λa8=>?_);have O:K_ E E.drew:=bD E;generalize l9:E.drew=wd at a8 O⊢;clear l9;refine ax 0 a8 ?_;refine ae 4 a8 ?_;refine ae 5 a8 ?_;obtain⟨w8,m0,g7,g8⟩:=(g5.o.kept O).putT (s:=n) D5 (.agg #[.a i,.slice B d.length C,.bool c.over,.bool c.fail,.string c.text]) A7;have⟨m1,c5⟩:=aH g7 g8;clear g7 g8;refine aj 6 (λK hK=>?_);go_simp
     refine af hK (λh=>Pg rfl h) ?_;clear hK K a8;refine aG ?_;have g9:p<w8.heap.size:=NR c4.o (NT O.size c5.o.size);have h0:¬p=mt:=λe=>e5.o (.inr (.inr (.inl e)))
     obtain⟨_,h1,h2,_,_,_⟩:=e6.o _ O;have e0:J4 w8 p 0 (.a i):=(c5.o.cell (Nat.lt_of_lt_of_le c4.o O.size) h0).trans h1;have E1:Hid (J4 w8 p 1 (.slice B d.length C)):=(c5.o.cell (Nat.lt_of_lt_of_le c4.o O.size) h0).trans h2;have m2:Hid (iW cb mr mt cl (λm=>if m=n then some {t with r:=c,tv:=Y} else cl m) w w8):=l5.out.trans ((iW.kept (k7.trans O)).trans ⟨c5.o.mono (λb _ e=>.inr (.inr (.inl e))),λ_ h=>.inl h⟩);have h3:=Jt z.o s i3;have c6:=uL s n;rw[pX b6.o.2.1] at c6;dsimp only at c6;clear h1 h2 m0;go_wp2_with fail
     refine (xY m1.o A7 b3 hN n _ b6.o.2.1 i e4.2.1 e4.2.2 c6.1 c6.2 ⟨h3.1,A7⟩ ⟨h3.2.2.1,A7⟩).mono ?_;rintro e w9 ⟨rfl,h4,c7⟩;have m3:=Kz (m2.out.trans c7);have m4:=Kz h4;have m5:J4 w9 p 1 (.slice B d.length C):=(c7.but.cell g9 e5.o).trans E1.out;have o4:p<w9.heap.size:=NR g9 c7.but.size;clear h4 c7 e0;go_wp2_with fail
     have h5:d.length<=5/\∀T∈d,T.size<=20:=by
      rw[g4.o,xS s z.o.good R.o U.o];exact pV s (dm s z.o.good.env R.o U.o)
     obtain⟨h5,m6⟩:=h5;clear m5;obtain⟨P,e7⟩:∃P:Ps->Pw,P=λm=>if m=n then .agg #[.a i,.slice B d.length C,.bool c.over,.bool c.fail,.string c.text] else f m:=⟨_,rfl⟩
     have m7:Hid (CM Kj wz w9 cb a cap mr mt (mx+1) (λm=>if m=n then some {t with r:=c,tv:=Y} else cl m) P (λm=>m=n\/kf m) (un+i) (co+i*t.cost)):=by rw[e7];exact m4.o
     have m8:Hid (CS Kj wz (λm=>if m=n then some {t with r:=c,tv:=Y} else cl m) P (λm=>m=n\/kf m) (un+i) (co+i*t.cost) (dF sl c)):=by rw[e7];exact g1.o
     clear e7;go_loopw [69] (λe8 wv=>∃(j:Nat) (a9:Ps->Option fB) (b0:List Qz),j<=d.length/\e8= .a (j:Int)/\Hid (CM Kj wz wv cb a cap mr mt (mx+1+j) a9 P (λm=>m=n\/kf m) (un+i) (co+i*t.cost))/\Hid (CS Kj wz a9 P (λm=>m=n\/kf m) (un+i) (co+i*t.cost) b0)/\Hid (iW cb mr mt cl a9 w wv)/\Hid (iF (Q_ Kj) (Qj (dF sl c)) (d.take j) (Qj b0))) (λe8 _=>d.length-(intOf e8).toNat)
     case atStart=>exact⟨0,_,_,NS _,rfl,m7,m8,m3,Kz (iF.start _ _)⟩
     case round=>
      obtain⟨j,a9,b0,hj,rfl,e9,a1,h6,f0⟩:=hrel;by_cases j5:(j:Int)<(d.length:Int)
      .have b1:j<d.length:=A7;obtain⟨m,G⟩:=ai (d.getD j ByteArray.empty);obtain⟨b,o,rfl,d5,L⟩:=l6.o j b1;rw[<-G] at L;have f1:d[j]=m:=by rw[G];simp[List.getD,b1]
       have d6:Hid (d.take (j+1)=d.take j++ [m]):=by show _=_;rw[NY b1,f1]
       have c0:_=some (Value.string m):=(e9.o.kw.cell d5).trans L;have j7:m.size<=20:=by rw[<-f1];exact m6 _ (Oa b1)
       clear L G f1;go_wp2_with fail
       refine (rE e9.o A7 b3 hN m A7 A7).mono ?_;rintro e wn ⟨rfl,h7,h8,h9,i0⟩;have m9:=Kz h8;have n0:=Kz (h6.o.trans h9);have n1:Hid (∃b2,CS Kj wz h7 P (λm=>m=n\/kf m) (un+i) (co+i*t.cost) b2/\iF (Q_ Kj) (Qj (dF sl c)) (d.take (j+1)) (Qj b2)):=by
        show∃b2,_;rw[d6.o];rcases i0 with⟨rfl,hw⟩|⟨hA,i1,tn,n2,rfl⟩
        .exact⟨b0,a1.o,f0.o.no (hw.imp id (λh=>by rw[a1.o.env m];simpa using h))⟩
        .exact⟨_,a1.o.want s hA i1 n2,f0.o.new hA (by rw[a1.o.env m,i1];rfl) (λn3=>ik (r:=Qz.fresh m) a1.o.good.asc n3)⟩
       clear h8 h9 i0 c0;go_wp2
       go_roundw
       case rel=>
        obtain⟨b2,n4,n5⟩:=n1.o;exact⟨j+1,h7,b2,A7,C8,m9,n4,n0,n5⟩
       case measure=>simp[intOf];omega
      .have n6:j=d.length:=A7;have b1:j<=5:=A7;go_wp2
       go_ret
       refine .inr ⟨U.o,rfl,a9,_,_,_,_,b0,e9.o.more A7,a1.o,h6.o, ?_⟩;have hW:=f0.o;rw[n6,Ox] at hW;exact IQ f4.o z.o.good.asc l7.o (by rw[<-g4.o];exact hW)
  .go_wp2
   go_ret
   exact .inl ⟨λhc=>not_can R.o (by rw[<-d1.o];exact f7.o.1 (by trivial)) hc,rfl,K2⟩
 .rw[S] at l2;have a4:=Kz S;clear S;go_wp2
  go_ret
  exact .inl ⟨λhc=>(by have:=hc.1;rw[a4.o] at this;cases this),rfl,k1⟩
end
def CX(Kj:List Qq)(wz w:Pv)(cb:Nat)(a:Pt)(cap mr mt:Nat)(sl0:List Qz)(mx:Nat)(cl:Ps->Option fB)(sl:List Qz):Prop:=
 ∃f kf un co,CM Kj wz w cb a cap mr mt mx cl f kf un co/\CS Kj wz cl f kf un co sl/\(∃k,bB (bi (Q_ Kj)) (doX (Q_ Kj)) (Qj sl0) (Qj sl) k)/\mx+6*jX Kj sl<=9000
variable {Kj : List Qq} {sl : List Qz}
theorem CX.kept{wz w w':Pv}{cb:Nat}{a:Pt}{cap mr mt mx:Nat}{b:List Qz}{cl:Ps->Option fB}(h:CX Kj wz w cb a cap mr mt b mx cl sl)(k:K_ w w'):CX Kj wz w' cb a cap mr mt b mx cl sl:=by
 obtain⟨f,c,un,d,e,i⟩:=h;exact⟨f,c,un,d,e.kept k,i⟩
structure oQ (Kj:List Qq) (slr sl:List Qz) (did:List Ps) (b:Bool):Prop where
 no:b=false->Qj sl=Qj slr/\∀s∈did,¬bi (Q_ Kj) (Qj slr) s
 yes:b=true->jX Kj sl<jX Kj slr
 le:jX Kj sl<=jX Kj slr
 there:∀s,(Qj slr s).isSome=true->(Qj sl s).isSome=true
theorem oQ.start(Kj:List Qq)(b:List Qz):oQ Kj b b [] false:=⟨λ_=>⟨rfl,λs c=>(by cases c)⟩,λh=>(by cases h),NQ _,λ_ h=>h⟩
theorem oQ.skip{a:List Qz}{did:List Ps}{b:Bool}(h:oQ Kj a sl did b){s:Ps}(d:¬bi (Q_ Kj) (Qj sl) s):oQ Kj a sl (did++ [s]) b:=by
 refine⟨λe=>?_,h.yes,h.le,h.there⟩;obtain⟨c,f⟩:=h.no e;refine⟨c,λx i=>?_⟩;rcases N_.1 i with g | g
 .exact f x g
 .rw[NZ] at g;rw[g,<-c];exact d
theorem oQ.did{d a:List Qz}{l l':List Ps}{b:Bool}(h:oQ Kj d sl l b)(e:dR Kj sl){s:Ps}(f:bi (Q_ Kj) (Qj sl) s)(i:Qj a=doX (Q_ Kj) (Qj sl) s):oQ Kj d a l' true/\jX Kj a<jX Kj sl:=by
 have c:jX Kj a<jX Kj sl:=by
  obtain⟨r,j,k⟩:=f;unfold jX;rw[i];exact (kK e.wf ⟨r,j,k⟩ _).2 (jA (e.wf s r j).web)
 exact⟨⟨λh=>(by cases h),λ_=>NR c h.le,Nat.le_of_lt (NR c h.le),λx m=>by rw[i];exact qB f (h.there x m)⟩,c⟩
def AllC(Kj:List Qq)(wz:Pv)(cb:Nat)(a:Pt)(cap mr mt:Nat)(sl0:List Qz)(w':Pv):Prop:=∃mx cl sl,CX Kj wz w' cb a cap mr mt sl0 mx cl sl/\AtEnd (bi (Q_ Kj)) (Qj sl)
theorem Bf{wz w:Pv}{cb:Nat}{a:Pt}{cap mr mt mx:Nat}{cl:Ps->Option fB}(hX:CX Kj wz w cb a cap mr mt sl mx cl sl)(c4:aX (Q_ Kj))(c5:∀y∈Kj,y.Fits)(a0:Kj.length<=60)(c6:dI Kj)(hN:bN wz a Kj)(c7:dA wz):
  Calls prog 48 #[.c cb] w λe w'=>e= .returned (.tuple #[])/\AllC Kj wz cb a cap mr mt sl w':=by
 have HX:=Kz hX;clear hX;go_enter func48,ntmps48
 go_wp2
 go_loopg [2] (2*jX Kj sl+1) (λgg F wr=>∃(b:Bool) (r:Nat) (d:Ps->Option fB) (f:List Qz),F= .bool b/\Hid (CX Kj wz wr cb a cap mr mt sl r d f)/\Hid (gg=2*jX Kj f+ (if b=true then 1 else 0))/\Hid (b=false->AtEnd (bi (Q_ Kj)) (Qj f)))
 case atStart=>exact⟨true,mx,cl,sl,rfl,HX,Kz rfl,Kz (λG=>by cases G)⟩
 case round=>
  obtain⟨b,r,d,f,rfl,H,HG,HE⟩:=hrel;cases b
  .go_wp2_with fail
   refine bodyPost_end (results_none rfl _ _ _) rfl ?_;exact⟨rfl,r,d,f,H.o,HE.o (by trivial)⟩
  have c8:=H.o;obtain⟨fr,kr,f8,f9,n,a1,c9,d0⟩:=c8;obtain⟨d1,d2,d3,v,hf,a2⟩:=n.runs;have d4:=v.size_le;have a3:=Kz (callsIn_wide.1 (Tryz.zV (some mr) wr));have a4:=Kz (callsIn_wide.1 (Tryz.lS mr d1 d2 asIs wr v D5 A7));have d5:=n.c2;have zk:=n.row.lt;have⟨HM,a5,d6,a6⟩:=jW v a2 n a1;clear n a1 c9 d0 v hf a2 d4 d3;go_wp2_with fail
  refine a3.o.mono ?_;rintro e w1 ⟨rfl,a7⟩;rw[a7];clear a7 w1;go_wp2_with fail
  refine a4.o.mono ?_;rintro e z ⟨g0,ss,rfl,hp,p,d7,m⟩;obtain⟨c,a8,a9,b0,b1⟩:=xQ HM.o hp;rw[<-a9,<-a8] at p;have k2:K_ wr z:=K_.trans (ah _ _) m;obtain⟨na,nc,q,d8⟩:=bv p;subst q;have I:Hid (∀s,s∈c↔(Qj f s).isSome=true):=λs=>by
   rw[b1 s,a5.o s,a6.o.env s];cases d s <;> simp
  have g1:c.length<=60:=by
   refine NT (List.Nodup.length_le_of_subset (l₂:=Kj.map (·.name)) ?_ (λx J=>?_)) (by rw[OY];exact a0)
   .exact b0.imp λ{a b} d9=>dU d9
   .obtain⟨A,i⟩:=Om.1 ((I.o x).1 J);exact jA (a6.o.good.wf x A i).web
  have e0:=Kz p;have e1:Hid (∀b,(Value.slice na c.length nc).ownBlock=some b->¬CMS cb mr mt d b):=λb m=>d6.o.far (by
   have:=(p.lt b m).1;rw[OC] at this;omega)
  have e2:=Kz (H.o.kept k2);have e3:Hid (iW cb mr mt d d z z):=iW.kept (K_.refl _);clear hp p d7 m a8 a9 b1 d8 b0 a3 a4 a5 HM d5 zk;go_wp2
  go_loopw [2,13] (λF K wq=>∃(k:Nat) (b:Bool) (j:Nat) (l:Ps->Option fB) (h:List Qz),k<=c.length/\F= .bool b/\K= .a (k:Int)/\Hid (CX Kj wz wq cb a cap mr mt sl j l h)/\Hid (iW cb mr mt d l z wq)/\Hid (oQ Kj f h (c.take k) b)) (λ_ K _=>c.length-(intOf K).toNat)
  case atStart=>exact⟨0,false,r,d,f,NS _,rfl,rfl,e2,e3,Kz (oQ.start _ _)⟩
  case round=>
   obtain⟨k,b,j,l,h,hk,rfl,rfl,L,M,B⟩:=hrel;by_cases g2:(k:Int)<(c.length:Int)
   .have C:k<c.length:=A7;obtain⟨s,N⟩:=ai (c.getD k ByteArray.empty);have O:c[k]=s:=by rw[N];simp[List.getD,C]
    have e4:Hid (c.take (k+1)=c.take k++ [s]):=by show _=_;rw[NY C,O]
    obtain⟨fq,kq,g3,g4,b2,P,b3,b4⟩:=L.o;have b5:=M.o.but.owns e0.o e1.o;obtain⟨g5,g6,q,Q⟩:=bv b5;simp only[OG,true_and] at q;rw[<-q.1] at Q;obtain⟨b',o,rfl,g7,R⟩:=Q k C;rw[<-N] at R;have D:=B.o.there s ((I.o s).1 (by rw[<-O];exact Oa C));rw[P.env s] at D;obtain⟨t,ht⟩:∃t,l s=some t:=by
     cases G:l s with
     | none=>rw[G] at D;cases D
     | some t=>exact⟨t,rfl⟩
    have⟨S,e5,E,e6,e7⟩:=jH ht b2 P b3 b4;have g8:j<=9000:=A7;clear N O b2 P b3 b4 b5 q Q D ht;go_wp2_with fail
    refine (zH e5.o E.o c4 c5 a0 c6 hN c7 s t S.o A7).mono ?_;rintro e wn (⟨e8,rfl,kn⟩|⟨b6,rfl,b7,fn,e9,f0,f1,b8,b9,c0,c1,T⟩)
    .have U:=Kz (L.o.kept kn);have V:=Kz (M.o.trans (iW.kept kn));have W:Hid (oQ Kj f h (c.take (k+1)) b):=by
      rw[e4.o];exact B.o.skip (λ⟨A,i,X⟩=>e8 (by
       rw[E.o.env s,S.o] at i;cases i;exact X))
     clear R;go_wp2
     go_roundw
     case rel=>exact⟨k+1,b,j,l,h,A7,rfl,C8,U,V,W⟩
     case measure=>simp[intOf];omega
    .have Y:bi (Q_ Kj) (Qj h) s:=⟨t.r,by rw[E.o.env s,S.o];rfl,b6⟩;obtain⟨c3,f2⟩:=B.o.did (l':=c.take (k+1)) E.o.good Y T;have W:=Kz c3;have U:Hid (CX Kj wz wn cb a cap mr mt sl (j+6) b7 b8):=by
      obtain⟨f3,hj⟩:=e6.o;refine⟨fn,e9,f0,f1,b9,c0,⟨f3+1, ?_⟩, ?_⟩
      .rw[T];exact hj.trans (.step _ _ s 0 Y (.here _))
      .have:=e7.o;omega
     have V:=Kz (M.o.trans c1);clear R b9 c0 c1 T c3 Y b6 f2;go_wp2
     go_roundw
     case rel=>exact⟨k+1,true,j+6,b7,b8,A7,rfl,C8,U,V,W⟩
     case measure=>simp[intOf];omega
   .have f4:k=c.length:=A7;have Z:=B.o;rw[f4,Ox] at Z;have HP:=Kz Z;clear Z;go_wp2
    go_roundg (2*jX Kj h+ (if b=true then 1 else 0))
    case measure=>
     have f5:=HG.o;have h2:=HP.o;rw[Pe (by trivial)] at f5;cases b
     .have:=h2.le;simp;omega
     .have:=h2.yes rfl;simp;omega
    case rel=>
     refine⟨b,j,l,h,rfl,L,Kz rfl,Kz (λm=>?_)⟩;obtain⟨f6,f7⟩:=HP.o.no m;rw[f6];intro x J;obtain⟨A,i,X⟩:=J;exact f7 x ((I.o x).2 (by rw[i];rfl)) ⟨A,i,X⟩
section
variable {Kj : List Qq} {wz w : Pv} {cb : Nat} {a : Pt} {cap mr mt mx : Nat} {cl : Ps -> Option fB} {f : Ps -> Pw} {kf : Ps -> Prop} {un co : Int} {sl : List Qz}
theorem mW(L:CM Kj wz w cb a cap mr mt mx cl f kf un co)(C:CS Kj wz cl f kf un co sl)(a4:Kj.length<=1048576)(a5:dI Kj)(hN:bN wz a Kj)(M:Pt)(a6:Nat)(Kk:List Ps)(c5:Kk.length<=1000)(N:∀n∈Kk,n.size<=1000/\((cl n).isSome=true\/Q_ Kj n=none))(D:∀n∈Kk,(oM (Q_ Kj) (Qj sl) n).text.size<=1048576)(O:Strs w M Kk):
  Calls prog 79 #[.slice M Kk.length a6,.func (.func 104) #[.c cb] #[]] w λe w'=>∃a',e= .returned (.slice a' Kk.length Kk.length)/\gU w' w.heap.size w'.heap.size a' (Kk.map (oM (Q_ Kj) (Qj sl)))/\K_ w w':=by
 obtain⟨R,E⟩:=ai (oM (Q_ Kj) (Qj sl));rw[<-E] at D⊢;have⟨P,HB,Q,a7,F⟩:=jH E L C C.opn N;have⟨a8,HR⟩:=aH D O;clear E L C N D O;go_enter func79,ntmps79
 go_wp2
 go_loopw [5,12] (λx5 G wr=>∃(k:Nat) (j:Pt) (m:Nat),k<=Kk.length/\G= .a (k:Int)/\x5= .slice j k m/\Hid (wr.ownsRow w.heap.size 84 4 (.slice j k m) k (bX ((Kk.take k).map R)))/\K_ w wr) (λ_ G _=>Kk.length-(intOf G).toNat)
 case atStart=>exact⟨0,none,0,NS _,rfl,rfl,Kz (OO _ _ _ _),K_.refl _⟩
 case round=>
  obtain⟨k,j,m,hk,rfl,rfl,S,l⟩:=hrel;by_cases p:k<Kk.length;rotate_left
  .have c6:¬((k:Int)<(Kk.length:Int)):=A7;have v:k=Kk.length:=A7;have a9:Hid (oO wr j (Kk.map R)):=by
    have q:=S.o;rw[v,Ox] at q;obtain⟨c7,c8,T,h9⟩:=yj q;simp only[OG] at T;rw[T.1];exact h9
   have U:(Kk.map R).length=k:=by rw[OY];exact v.symm
   have⟨b0,b1⟩:=aH U v;clear p v U;go_wp2_with fail
   have s:=CV wr j m (Kk.map R) (by rw[OY];omega) (λc9 s=>by
    obtain⟨n,V,rfl⟩:=Oq.1 s;have x:=(F.o n V).1;refine⟨?_,a8.o n V⟩;have:(R n).name=n:=by rw[P.o];unfold oM;cases aP (Q_ Kj) (Qj sl) n <;> rfl
    rw[this];omega) a9.o
   rw[b0.o] at s;refine s.mono ?_;rintro e w2 ⟨b2,rfl,W,k2⟩;have HI:=Kz W;clear W s;go_wp2
   go_ret
   exact⟨b2,by rw[b1.o];rfl,HI.o.mono l.size (NQ _),l.trans k2⟩
  have d0:(k:Int)<(Kk.length:Int):=A7;obtain⟨sb,so,e1,b3,X⟩:=(HR.o.kept l) k p;subst e1;obtain⟨b,H⟩:=ai (Kk.getD k ByteArray.empty);rw[<-H] at X;have I:Kk[k]=b:=by rw[H];simp[List.getD,p]
  have Y:b∈Kk:=by rw[<-I];exact Oa p
  have⟨b4,Z⟩:=aH I Y;clear H I Y;go_wp2_with fail
  refine (jP (HB.o.kept l) Q.o a4 a5 hN b (F.o b Z.o).1).mono ?_;rintro e h ⟨⟨c,d,i,rfl,t,a0⟩,y⟩;have b5:Hid (R b= ⟨b,i,c,d⟩):=by rw[P.o];exact KR a7.o t (λq=>by
   rcases (F.o b Z.o).2 with x|x
   .obtain⟨a1,ht⟩:=Om.1 x;have J:=Q.o.env b;rw[ht] at J;exact⟨a1.r,J,a0 q a1.r J⟩
   .unfold aP at t;rw[x,q] at t;cases t)
  have z:K_ h ((h.alloc (.cells #[.bool c,.string d] 80)).alloc (.cells #[.string b,.bool i,.bool c,.string d] 84)):=(ah _ _).alloc _;have r0:=Xz h #[.bool c,.string d] 80 0 _ rfl;have r1:=Xz h #[.bool c,.string d] 80 1 _ rfl;simp only[Ow] at r0 r1;have a2:=Kz (ak S.o (y.trans z));have b6:w.heap.size<=((h.alloc (.cells #[.bool c,.string d] 80)).alloc (.cells #[.string b,.bool i,.bool c,.string d] 84)).heap.size:=(l.trans (y.trans z)).size;have b7:Hid (∀A u,([.string b,.bool i,.bool c,.string d]:List Pw)[A]? =some u->((h.alloc (.cells #[.bool c,.string d] 80)).alloc (.cells #[.string b,.bool i,.bool c,.string d] 84)).cell? ((⟨h.heap.size+1,0,none⟩:Addr).add A)=some u):=λA u B=>by have:=Xz (h.alloc (.cells #[.bool c,.string d] 80)) #[.string b,.bool i,.bool c,.string d] 84 A u B;rw[OC] at this;rw[OI];exact this
  have b8:Hid (∀u∈([.string b,.bool i,.bool c,.string d]:List Pw),u.oneCell'=true):=λu B=>by simp only[OL,OM,or_false] at B;rcases B with rfl | rfl | rfl | rfl <;> rfl
  have KK:=Kz (l.trans (y.trans z));obtain⟨ic,b9,c0,c1,c2⟩:=aY Tryz.sI;clear y z t a0 X b3;go_wp2_with (at_builtin;refine wpList_append_own _ rfl (.tmp 22) (.tmp 30) 41 rfl w.heap.size 84 ic _ 4 40 underlying41 b9 c0 c1 c2 rfl A8 (.slice j k m) k (bX ((Kk.take k).map R)) rfl a2.o ⟨h.heap.size+1,0,none⟩ 1 1 [.string b,.bool i,.bool c,.string d] rfl rfl b7.o b8.o D5 A7 b6 ?_;intro v' w6 K a3 _;have KP:=aL KK.out (NQ _) a2.o a3;have HP:=Kz K;obtain⟨c3,c4,rfl⟩:=ay K;clear K a3)
  go_roundw
  case rel=>
   refine⟨k+1,c3,c4,A7,C8,rfl,Kz ?_,KP⟩;rw[NY p,Pi,List.map_cons,List.map_nil,b4.o,b5.o,qC];exact HP.o
  case measure=>simp[intOf];omega
end
def qY(W:bR)(σ:Env)(l:List Ps):List Ps:=l.filter λx=>(aP W σ x).isNone
def l_(W:bR)(σ:Env)(s:Ps):List Ps:=match σ s with
 | some r=>qY W σ (gB W r)
 | none=>[]
theorem xR(W:bR)(σ:Env)(l:List Ps)(x:Ps):qY W σ (l++ [x])=if aP W σ x=none then qY W σ l++ [x] else qY W σ l:=by
 unfold qY;rw[List.filter_append];cases h:aP W σ x <;> simp[h]
structure L_ (W:bR) (σ:Env) (P:Ps->Prop) (ol:Ps->List Ps):Prop where
 yes:∀n,P n->ol n=l_ W σ n
 no:∀n,¬P n->ol n=[]
structure vW (W:bR) (σ:Env) (P:Ps->Prop) (s:Ps) (l:List Ps) (ol:Ps->List Ps):Prop where
 here:ol s=qY W σ l
 yes:∀n,n≠s->P n->ol n=l_ W σ n
 no:∀n,n≠s->¬P n->ol n=[]
variable {s : Ps} {ol : Ps -> List Ps} {P : Ps -> Prop}
theorem L_.enter{W:bR}{σ:Env}(h:L_ W σ P ol)(c:¬P s):vW W σ P s [] ol:=⟨h.no s c,λn _=>h.yes n,λn _=>h.no n⟩
theorem vW.leave{W:bR}{σ:Env}{Q:Ps->Prop}{l:List Ps}(h:vW W σ P s l ol)(c:qY W σ l=l_ W σ s)(b:∀n,Q n↔P n\/n=s):L_ W σ Q ol:=by
 refine⟨λn a=>?_,λn a=>?_⟩
 .by_cases e:n=s
  .rw[e,h.here,c]
  .exact h.yes n e (((b n).1 a).resolve_right e)
 .by_cases e:n=s
  .exact Pg ((b n).2 (.inr e)) a
  .exact h.no n e (λd=>a ((b n).2 (.inl d)))
theorem vW.put{W:bR}{σ:Env}{x:Ps}{l:List Ps}(h:vW W σ P s l ol)(d:aP W σ x=none):vW W σ P s (l++ [x]) (λn=>if n=s then ol s++ [x] else ol n):=by
 refine⟨?_,λn e c=>?_,λn e c=>?_⟩
 .rw[Pe rfl,xR,Pe d,h.here]
 .rw[Pf e];exact h.yes n e c
 .rw[Pf e];exact h.no n e c
theorem vW.skip{W:bR}{σ:Env}{x:Ps}{l:List Ps}(h:vW W σ P s l ol)(b:¬aP W σ x=none):vW W σ P s (l++ [x]) ol:=⟨by rw[xR,Pf b];exact h.here,h.yes,h.no⟩
def MF(W:bR)(σ:Env)(w w':Pv)(e:Ending):Prop:=
 ∃mo M g ol,e= .returned (.map (some mo))/\jr w' w.heap.size mo M g ol/\(∀n,ol n=l_ W σ n)/\M<=600000/\K_ w w'
section
variable {Kj : List Qq} {wz w : Pv} {cb : Nat} {a : Pt} {cap mr mt mx : Nat} {cl : Ps -> Option fB} {f : Ps -> Pw} {kf : Ps -> Prop} {un co : Int} {sl : List Qz}
theorem oZ(C:CM Kj wz w cb a cap mr mt mx cl f kf un co)(hS:CS Kj wz cl f kf un co sl)(f0:aX (Q_ Kj))(h9:Kj.length<=60)(f1:dI Kj)(f2:bN wz a Kj)(i0:mx<=9000):
  Calls prog 105 #[.c cb] w λe w'=>MF (Q_ Kj) (Qj sl) w w' e:=by
 obtain⟨ic,c4,f3,f4,f5⟩:=aY Tryz.eP;obtain⟨P,D,hN,Q,hf,E⟩:=C.turns;have i1:=Q.size_le;obtain⟨m,F⟩:=ai (w.alloc (.map #[] 0));have G:K_ w m:=by rw[F];exact ah _ _
 have c5:Hid (jr m w.heap.size w.heap.size 0 (λ_=>.slice none 0 0) (λ_=>[])):=by rw[F];exact jr.made (NQ _)
 have zM:m.heap.size=w.heap.size+1:=by rw[F];simp
 have HM:=Kz (dN (S:=λ_=>False) Q (But.au G) id);have c3:J4 m cb 3 (.map (some mt)):=(C.kept G).c3;have bz:cb<m.heap.size:=(C.kept G).row.lt;have i2:mt<w.heap.size:=Q.lt;have⟨HC,p,HF,c6⟩:=jW C hS hf E;clear C hS Q hf E;have f6:(Instr.makeMap 95 none).run prog w= .ok (.map (some w.heap.size)) (w.alloc (.map #[] 0)):=rfl;go_enter func105,ntmps105
 go_upto_region 2 with fail
 clear f6;rw[<-F];clear F;go_wp2_with (first | (at_range;refine wpList_range_own _ rfl _ 103 rfl 9 207 Tryz.keyed underlying103 asIs mt P D rfl HM.o ?_;intro w0 a5 a6 c7))
 go_frame
 obtain⟨l,c8⟩:=ai m.heap.size;rw[<-c8] at a5 c7⊢;have K0:K_ w w0:=(But.aI (S:=λ_=>False) a6 (λb e=>by cases e)).kept G (λb e=>e.elim);have c9:K_ m w0:=(But.aI (S:=λ_=>False) a6 (λb e=>by cases e)).kept (K_.refl _) (λb e=>e.elim);have R:=Kz (c5.o.kept c9);obtain⟨B,T⟩:=ai w.heap.size;have R:Hid (jr w0 w.heap.size B 0 (λ_=>.slice none 0 0) (λ_=>[])):=by rw[T];exact R
 have i3:B<l:=A7;have i4:w.heap.size<l:=A7;rw[<-T];have d0:Hid (w.heap.size<=B):=Ot T.symm;clear T c5 c9 a6 c7 c3 c8 zM G HM;go_loopw [4] (λ_ wr=>∃(left:Lit->Bool) (U M:Nat) (g:Ps->Pw) (c:Ps->List Ps),wr.ranges prog 9 asIs mt l P D left U/\M+60*U<=600000/\Hid (jr wr w.heap.size B M g c)/\Hid (L_ (Q_ Kj) (Qj sl) (λs=>Maps.has D (a_ s)=true/\left (a_ s)=false) c)/\K_ w wr) (λ_ wr=>wr.rangeLeft mt l)
 case atStart=>exact⟨_,_,0,_,_,a5,A7,R,Kz ⟨λs h=>(by have i:=h.1;have d:=h.2;rw[i] at d;cases d),λ_ _=>rfl⟩,K0⟩
 case round=>
  clear R K0 a5;obtain⟨left,U,M,g,c,V,i5,q,W,Kr⟩:=hrel;go_wp2_with (first | (at_next;refine wpList_next_ranges (α:=Ps) (β:=Pw) _ rfl _ rfl 9 Tryz.keyed asIs Value.string id (λi6 kl hk=>by obtain⟨x,H,_⟩:=Maps.keyOf_str underlying9 hk;exact⟨_,H⟩) (λf7 f8 v=>⟨f7,rfl⟩) mt l P D left U rfl V ?_ ?_))
  .intro c4 f9;go_wp2
   go_ret
   refine⟨B,M,g,c,rfl,q.o,λn=>?_,A7,Kr⟩;by_cases y:Maps.has D (a_ n)=true
   .exact W.o.yes n ⟨y,f9 _⟩
   .rw[W.o.no n (λh=>y h.1)];have i:¬kf n:=λh=>y ((c6.o n).2 h)
    unfold l_;cases he:Qj sl n with
    | none=>rfl
    | some r=>
     have d:=p.o.env n;rw[he] at d;have h3:r.Zj=0:=by
      refine Decidable.byContradiction λv=>i ((p.o.key n).2 ?_)
      cases hc:cl n with
      | none=>rw[hc] at d;cases d
      | some t=>rw[hc] at d;cases d;exact⟨t,rfl,v⟩
     have g0:gB (Q_ Kj) r=[]:=by unfold gB;rw[Pe (.inl h3)]
     show []=qY _ _ (gB (Q_ Kj) r);rw[g0]
     rfl
  .intro s g1 kl yd yp z X E a7 v a8 d1 d2 a9 g2 b0;have I:s.size<=maxLen/\kl=a_ s:=by
    obtain⟨x',Y,e2,g3⟩:=Maps.keyOf_str underlying9 E;unfold encStr at Y;injection Y with Y;subst Y;exact⟨by show x'.toArray.size<=maxLen;simpa using g3,by rw[e2];unfold a_;simp⟩
   obtain⟨I,rfl⟩:=I;have b1:g1=f s:=by
    have i:=a8 (.held rP);rw[HF.o s I] at i;unfold asIs at v;simp only[OE,Prod.mk.injEq] at v;rw[<-v.1] at i;injection i with i;exact i.symm
   have y:Maps.has D (a_ s)=true:=Maps.has_true_of_atKey a8;obtain⟨t,ht,g4⟩:=(p.o.key s).1 ((c6.o s).1 y);have d3:=p.o.turn s;rw[ht] at d3;obtain⟨u,qa,qc,Z,hQ⟩:=d3;obtain⟨asks,J⟩:=ai (gB (Q_ Kj) t.r);rw[<-J] at Z hQ;have b2:Qj sl s=some t.r:=by rw[p.o.env s,ht];rfl
   have d4:Hid (qY (Q_ Kj) (Qj sl) asks=l_ (Q_ Kj) (Qj sl) s):=by unfold l_;rw[b2,J];exact rfl
   obtain⟨g5,d5⟩:=pV f0 (p.o.good.good t.r (aN b2).1);rw[<-J] at g5 d5;have g6:Hid (t.r.over=true->asks=[]):=λho=>by rw[J];unfold gB;rw[Pe (.inr ho)]
   rw[b1,Z] at b0;unfold fJ at b0;have K1:K_ w z:=(But.aI (S:=λb=>b=l) a9 (λb e=>(OQ e).symm)).kept Kr (λb e=>by rw[e];omega);have d6:=Kz (q.o.but (But.aI (S:=λb=>b=l) a9 (λb e=>(OQ e).symm)) A7 (λa0 b e e2=>by rw[e2] at e;exact mq V (Yz (q.o.row a0) e)));have⟨i7,g7,HQ⟩:=fu a7 y hQ;have b3:=Kz (W.o.enter (s:=s) (λh=>by have d:=h.2;rw[a7] at d;cases d));rw[b1,Z];unfold fJ;obtain⟨W2,K⟩:=ai (z.alloc (.cells #[.a u,.slice qa asks.length qc,.bool t.r.over,.bool t.r.fail,.string t.r.text] 207));have k2:K_ z W2:=by rw[K];exact ah _ _
   have a1:=Xz z #[.a u,.slice qa asks.length qc,.bool t.r.over,.bool t.r.fail,.string t.r.text] 207;rw[<-K] at a1;have l1:J4 W2 z.heap.size 1 (.slice qa asks.length qc):=a1 1 _ rfl;have l2:J4 W2 z.heap.size 2 (.bool t.r.over):=a1 2 _ rfl;have lz:z.heap.size<W2.heap.size:=by rw[K];simp
   have b4:=Kz (d6.o.kept k2);have a2:=jq (S:=λ_=>False) d1 (But.au k2) id id;have K2:=K1.trans k2;clear Z b1 a7 y v a8 E a9 g2 q d6 hQ ht g4 J b2 a1;go_upto_region 5 with fail
   rw[<-K];clear K b0;have d7:Hid (∀n,((Maps.has D (a_ n)=true/\(left (a_ n) && !(a_ n).sameKey (a_ s))=false)↔(Maps.has D (a_ n)=true/\left (a_ n)=false)\/n=s)):=λa0=>by
    constructor
    .rintro⟨i,d⟩;by_cases e:a0=s
     .exact .inr e
     .refine .inl ⟨i, ?_⟩;have h3:(a_ a0).sameKey (a_ s)=false:=Maps.sameKey_ne (gm e);rw[h3] at d;simpa using d
    .rintro (⟨i,d⟩|rfl)
     .exact⟨i,by rw[d];rfl⟩
     .exact⟨g7.o,by rw[Ct.2 rfl];simp⟩
   cases L:t.r.over
   .rw[L] at l2;clear L;go_wp2_with fail
    clear l1 l2;go_loopw [24] (λxi wq=>∃(k M:Nat) (g:Ps->Pw) (c:Ps->List Ps),k<=asks.length/\xi= .a (k:Int)/\wq.ranges prog 9 asIs mt l P D (λd8=>left d8 && !d8.sameKey (a_ s)) X/\M+ (asks.length-k)+60*X<=600000/\Hid (jr wq w.heap.size B M g c)/\Hid (vW (Q_ Kj) (Qj sl) (λs=>Maps.has D (a_ s)=true/\left (a_ s)=false) s (asks.take k) c)/\K_ w wq) (λxi _=>asks.length-(intOf xi).toNat)
    case atStart=>exact⟨0,M,g,c,NS _,rfl,a2,A7,b4,b3,K2⟩
    case round=>
     clear b4 b3 K1 K2 k2 W a2 d1;obtain⟨k,M,g,c,hk,rfl,b5,i8,q,HJ,Kq⟩:=hrel;by_cases i9:(k:Int)<(asks.length:Int)
     .have a3:k<asks.length:=A7;obtain⟨x,H⟩:=ai (asks.getD k ByteArray.empty);obtain⟨b,o,rfl,g8,b6⟩:=HQ.o k a3;rw[<-H] at b6;have b7:asks[k]=x:=by rw[H];simp[List.getD,a3]
      have d9:Hid (asks.take (k+1)=asks.take k++ [x]):=by show _=_;rw[NY a3,b7]
      have j0:x.size<=20:=by rw[<-b7];exact d5 _ (Oa a3)
      have cx:_=some (Value.string x):=((HC.o.kw.trans Kq).cell g8).trans b6;clear b6 H b7;go_wp2_with fail
      refine (nI (HC.o.kept Kq) p.o A7 f1 f2 x A7).mono ?_;rintro e A ⟨⟨r5,rfl,e0⟩,k5⟩;have K5:=Kq.trans k5;have e1:=Kz e0;have a4:=Kz (q.o.kept k5);have e3:=jq (S:=λ_=>False) b5 (But.au k5) id id;clear e0 cx;cases r5
      .have b8:Hid (vW (Q_ Kj) (Qj sl) (λs=>Maps.has D (a_ s)=true/\left (a_ s)=false) s (asks.take (k+1)) c):=by
        rw[d9.o];exact HJ.o.skip (λh=>by have:=e1.o.2 h;cases this)
       go_wp2
       go_roundw
       case rel=>exact⟨k+1,M,g,c,A7,C8,e3,A7,a4,b8,K5⟩
       case measure=>simp[intOf];omega
      .have b8:Hid (vW (Q_ Kj) (Qj sl) (λs=>Maps.has D (a_ s)=true/\left (a_ s)=false) s (asks.take (k+1)) (λn=>if n=s then c s++ [x] else c n)):=by
        rw[d9.o];exact HJ.o.put (e1.o.1 (by trivial))
       obtain⟨va,vc,hg⟩:=ay (a4.o.row s);have Hg:=Kz hg;have j1:(c s).length<=5:=by
        rw[HJ.o.here];unfold qY;exact NT (List.length_filter_le _ _) E9
       have e4:=a4.o.look I;rw[hg] at e4;have N:K_ A (A.alloc (.cells #[.string x] 9)):=ah _ _;have O:=Kz (a4.o.kept N);have b9:=O.o.row s;rw[hg] at b9;have g9:=Kz b9;have h0:w.heap.size<=(A.alloc (.cells #[.string x] 9)).heap.size:=(K5.trans N).size;have h1:Hid (∀j u,([.string x]:List Pw)[j]? =some u->(A.alloc (.cells #[.string x] 9)).cell? ((⟨A.heap.size,0,none⟩:Addr).add j)=some u):=λj u hu=>by rw[OI];exact Xz A #[.string x] 9 j u hu
       have h2:Hid (∀u∈([.string x]:List Pw),u.oneCell'=true):=λu hu=>by simp only[OL,OM,or_false] at hu;subst hu;rfl
       have h4:M<=1000000:=A7;have c0:=jq (S:=λ_=>False) e3 (But.au N) id id;have K6:=K5.trans N;clear hg b9 N;go_wp2_with (at_builtin;refine wpList_append_lies _ rfl (.tmp 35) (.tmp 37) 26 rfl w.heap.size 9 ic _ 1 16 underlying26 c4 f3 f4 f5 rfl A8 (.slice va (c s).length vc) (c s).length ((c s).map Value.string) rfl g9.o ⟨A.heap.size,0,none⟩ 1 1 [.string x] rfl rfl h1.o h2.o A7 D5 A7 h0 _ rfl ?_;intro gb gc w7 e5 c1 c2 j2;rw[<-Hg.o] at c1 c2;obtain⟨w8,j3,e6,e7⟩:=O.o.put (s:=s) (x:=x) I e5 c1 (λf8 e=>(by simp only[Value.ownBlock,OE] at e;subst e;rcases c2 with h | h;exact .inl h;exact .inr (Ot h.symm))) h4;have h5:=Kz e6;have e8:=Kz e7;clear e4 e6 e7 e5 c1 c2)
       have K8:K_ w w8:=e8.o.kept K6 (λb e=>by
        rcases e with e|e
        .exact ((O.o.row s).lt b e).1
        .rw[e];exact d0.o)
       have h6:=jq c0 e8.o (λe=>by
        rcases e with e|e
        .exact xO c0 (Yz (O.o.row s) e)
        .have:=d0.o;omega) (λe=>by
        rcases e with e|e
        .exact mq c0 (Yz (O.o.row s) e)
        .omega)
       go_wp2
       go_roundw
       case rel=>exact⟨k+1,M+1,_,_,A7,C8,h6,A7,h5,b8,K8⟩
       case measure=>simp[intOf];omega
     .have h7:k=asks.length:=A7;go_wp2
      go_roundw
      case rel=>
       refine⟨_,X,M,g,c,b5,A7,q,Kz (HJ.o.leave (by rw[h7,Ox];exact d4.o) d7.o),Kq⟩
      case measure=>rw[b5.left_eq,V.left_eq];exact d2
   .rw[L] at l2;have e9:=g6.o L;have h8:=Kz e9;clear L e9;go_wp2
    go_roundw
    case rel=>
     refine⟨_,X,M,g,c,a2,A7,b4,Kz (b3.o.leave (by rw[<-h8.o];exact d4.o) d7.o),K2⟩
    case measure=>rw[a2.left_eq,V.left_eq];exact d2
end
def Ir(R:Nat->Nat->Prop)(n:Nat)(w w':Pv)(e:Ending):Prop:=∃(av:Pt) (cv:Nat) (best:List Nat),e= .returned (.slice av best.length cv)/\oL w' av best/\best.length<=60/\(∀p∈best,p<n)/\jF R n best/\K_ w w'
theorem Ex(w:Pv)(d:Pt)(j:Nat)(a:List Ps)(f mb:Nat)(z back:Nat->List Nat)(E:Ps->Ps->Prop)(M:Nat)(hn:a.length<=60)(hM:M<=60000000)(hV:rG w d a f mb z back)(hR:yA E a M z back):
  Calls prog 133 #[.agg #[.slice d a.length j,.b f a.length a.length,.b mb a.length a.length]] w λe w'=>Ir (bL E a) a.length w w' e:=by
 obtain⟨q,k⟩:=ai (w.alloc (.cells #[.slice d a.length j,.b f a.length a.length,.b mb a.length a.length] 93));have R:K_ w q:=by rw[k];exact ah _ _
 have S:Hid (∀u,K_ q u->J4 u w.heap.size 0 (.slice d a.length j)/\J4 u w.heap.size 1 (.b f a.length a.length)/\J4 u w.heap.size 2 (.b mb a.length a.length)):=λu A=>by
  have B:w.heap.size<q.heap.size:=by rw[k];simp
  have r:=Xz w #[.slice d a.length j,.b f a.length a.length,.b mb a.length a.length] 93;rw[<-k] at r;exact⟨(A.cell B).trans (r 0 _ rfl),(A.cell B).trans (r 1 _ rfl),(A.cell B).trans (r 2 _ rfl)⟩
 go_enter func133,ntmps133
 go_upto_region 1 with fail
 rw[<-k];clear k;obtain⟨C,D,F⟩:=S.o _ (K_.refl _);go_wp2_with fail
 clear C D F;go_loopw [3,9] (λx3 G wr=>∃(i:Nat) (b:List Nat) (h:Pt) (m:Nat),i<=a.length/\G= .a (i:Int)/\x3= .slice h b.length m/\b.length<=60/\Hid (oL wr h b)/\Hid (∀T∈b,T<a.length)/\Hid (jF (bL E a) i b)/\K_ q wr) (λ_ G _=>a.length-(intOf G).toNat)
 case atStart=>exact⟨0,[],none,0,NS _,rfl,rfl,NS _,Kz (λi U=>aT U),Kz (λT hp=>by cases hp),Kz (jF.start _),K_.refl _⟩
 case round=>
  obtain⟨i,b,h,m,U,rfl,rfl,H,I,J,n,s⟩:=hrel;by_cases a5:i<a.length;rotate_left
  .have a6:i=a.length:=A7;subst a6;go_wp2
   go_ret
   exact⟨h,m,b,rfl,I.o,H,J.o,n.o,R.trans s⟩
  obtain⟨C,D,F⟩:=S.o _ s;have b1:(i:Int)<(a.length:Int):=A7;go_wp2_with fail
  refine (yM wr d j a f mb z back E M i a5 hn hM (hV.kept (R.trans s)) hR).mono ?_;rintro e w2 ⟨V,W,l,rfl,X,Y,Z,a0,a1,K⟩;have⟨a2,a3⟩:=aH X Z;have a4:=Kz (I.o.kept K);have t:=s.trans K;have⟨a7,a8⟩:=aH a0 a1;clear C D F X Z a0 a1 I K;by_cases v:l.length=0
  .have hg:¬((0:Int)<(l.length:Int)):=A7;have L:Hid (jF (bL E a) (i+1) b):=n.o.skip (λx N=>Pg N (a7.o (Og.1 v) x));clear v;go_wp2
   go_roundw
   case rel=>exact⟨i+1,b,h,m,A7,C8,rfl,H,a4,J,L,t⟩
   case measure=>simp[intOf];omega
  have hg:(0:Int)<(l.length:Int):=A7;have O:=Kz (a8.o (λe=>v (by rw[e];rfl)));clear v;by_cases c:b.length=0
  .have a9:((b.length:Int) == 0)=true:=by simp[c]
   have P:Hid (jF (bL E a) (i+1) l):=by
    obtain⟨x,p,Q,y⟩:=O.o;exact n.o.take p Q y (.inl (Og.1 c))
   clear c;go_wp2
   go_roundw
   case rel=>exact⟨i+1,l,V,W,A7,C8,rfl,Y,a2,a3,P,t⟩
   case measure=>simp[intOf];omega
  have a9:((b.length:Int) == 0)=false:=by simp;exact λe=>c (by rw[e];rfl)
  by_cases b2:l.length<b.length
  .have b0:(l.length:Int)<(b.length:Int):=A7;have P:Hid (jF (bL E a) (i+1) l):=by
    obtain⟨x,p,Q,y⟩:=O.o;exact n.o.take p Q y (.inr A7)
   clear c;go_wp2
   go_roundw
   case rel=>exact⟨i+1,l,V,W,A7,C8,rfl,Y,a2,a3,P,t⟩
   case measure=>simp[intOf];omega
  .have b0:¬((l.length:Int)<(b.length:Int)):=A7;have L:Hid (jF (bL E a) (i+1) b):=n.o.skip (λx N=>by
    obtain⟨m',p,_,y⟩:=O.o;have:=p.unique N;exact⟨λe=>c (by rw[e];rfl),A7⟩)
   clear c;go_wp2
   go_roundw
   case rel=>exact⟨i+1,b,h,m,A7,C8,rfl,H,a4,J,L,t⟩
   case measure=>simp[intOf];omega
def Jp(E:Ps->Ps->Prop)(w w':Pv)(e:Ending):Prop:=
 ∃(da:Pt) (ns:List Ps),e= .returned (.slice da ns.length ns.length)/\bW w' w.heap.size w'.heap.size da ns/\ns.length<=60/\ou E ns/\K_ w w'
theorem uW(w:Pv)(q:Nat)(j:Ps->Prop)(ol:Ps->List Ps)(all:List Ps)(E:∀s,j s->s∈all)(F:all.length<=60)(G:∀s,j s->s.size<=20)(X:∀s,(ol s).length<=1000000)(H:sG w q j ol):
  Calls prog 84 #[.map (some q)] w λe w'=>Jp (λx y=>y∈ol x) w w' e:=by
 go_enter func84,ntmps84
 go_wp2_with fail
 refine (vI w q j ol all E F G X H).mono ?_;rintro e c ⟨d,f,a,k,l,Y,Z,back,rfl,r,m,I,J,hM,L⟩;have a0:a.length<=60:=by
  refine NT (List.Nodup.length_le_of_subset ?_ (λx hx=>E x ((m x).1 hx))) F;exact r.imp λ{b1 b2} a1=>dU a1
 have a2:Hid (ig (λx y=>y∈ol x) a):=⟨r,λx y M=>(m x).2 (H.sub x (λe=>by rw[e] at M;cases M))⟩;have a3:Hid (∀s∈a,s.size<=1048576):=λs hs=>by have:=G s ((m s).1 hs);omega
 have N:=Kz J;obtain⟨t,i⟩:=ai (c.alloc (.cells #[.slice d a.length f,.b k a.length a.length,.b l a.length a.length] 93));have v:K_ c t:=by rw[i];exact ah _ _
 obtain⟨z,A⟩:=ai c.heap.size;have n:Hid (∀u,K_ t u->J4 u z 0 (.slice d a.length f)/\J4 u z 1 (.b k a.length a.length)/\J4 u z 2 (.b l a.length a.length)):=λu B=>by
  have C:c.heap.size<t.heap.size:=by rw[i];simp
  have h:=Xz c #[.slice d a.length f,.b k a.length a.length,.b l a.length a.length] 93;rw[<-i] at h;rw[A];exact⟨(B.cell C).trans (h 0 _ rfl),(B.cell C).trans (h 1 _ rfl),(B.cell C).trans (h 2 _ rfl)⟩
 have O:=Kz (I.kept v);have a4:=Kz (L.trans v);have⟨a5,a6⟩:=aH i A;clear r m I J L v i A;go_upto_region 2 with fail
 rw[<-a5.o,<-a6.o];refine bn 4 n.o λwd P D=>?_
 refine ae 0 D ?_;refine ae 1 D ?_;refine aF 2 (λK b=>?_);go_simp
 go_at_call 133
 refine (Ex wd d f a k l Z back _ Y a0 hM (O.o.kept P) N.o).mono ?_;rintro e w3 ⟨pa,pc,Q,rfl,R,a7,S,T,k3⟩;have p:=P.trans k3;have⟨a8,a9,b0⟩:=fu R T S;clear R T S;dsimp only;refine af b (λ_=>n.o _ p) ?_;clear b K D;refine aF 3 (λK b=>?_);go_simp
 go_at_call 42
 refine (Dg w3 d f a _ _ rfl rfl pa pc Q b0.o A7 A7 a3.o (O.o.kept p).names a8.o).mono ?_;rintro e w4 ⟨da,rfl,U,V⟩;have K4:=p.trans V;have HT:=Kz U;have W:=Kz (a4.o.trans p);clear U;dsimp only;refine af b (λ_=>n.o _ K4) ?_;clear b K;refine aj 4 (λK b=>?_);go_simp
 refine af b (λh=>Pg rfl h) ?_;clear b K;refine aG ?_;clear n N;go_wp2
 go_ret
 refine⟨da,Q.map (nameOf a),by rw[OY];rfl,HT.o.mono W.o.size (NQ _),by rw[OY];exact a7,a9.o.Nk a2.o,W.o.trans V⟩
def Fz(P:pW->Prop)(w w':Pv)(e:Ending):Prop:=
 ∃(o:pW) (a f:Pt) (c e0 mid:Nat),e= .returned (.agg #[.a o.code,.slice a o.res.length c,.slice f o.chain.length e0,.a o.dS,.a o.cost])/\P o/\gU w' w.heap.size mid a o.res/\bW w' mid w'.heap.size f o.chain/\w.heap.size<=mid/\mid<=w'.heap.size/\K_ w w'
theorem iZ{w:Pv}{lo hi g:Nat}{vs:List Pw}{a:Pt}{l:List fF}(h:gU w lo hi a l)(c:g<lo\/hi<=g):gU (w.setCells g 0 vs) lo hi a l:=h.same (Same.setCells c vs 0 w)
theorem nU{w:Pv}{lo hi g:Nat}{vs:List Pw}{a:Pt}{l:List Ps}(h:bW w lo hi a l)(c:g<lo\/hi<=g):bW (w.setCells g 0 vs) lo hi a l:=h.same (Same.setCells c vs 0 w)
section
variable {G : bV} {Kj : List Qq} {wz w w' : Pv} {bb : Nat} {a : Pt} {cap : Nat} {rd : Pt} {rc : Nat} {mb mx : Nat} {ts : List Zx} {d : Pt} {dc : Nat} {f : Ps -> Pw} {ws : Ps -> List Nat}
end
theorem FZ(c:Int)(a:Pt)(rl rc:Nat)(b:Pt)(d dc:Nat)(u v:Int):(#[Value.int .i64 c,Value.slice a rl rc,Value.slice b d dc,Value.int .i64 u,Value.int .i64 v].all (·.oneCell'))=true:=G5
theorem zX{Kj:List Qq}{sl:List Qz}(m:dR Kj sl)(s:iw (Q_ Kj) (Qj sl)){x y:Ps}:y∈l_ (Q_ Kj) (Qj sl) x↔bg (Q_ Kj) (Qj sl) x y:=by
 constructor
 .intro h;unfold l_ at h;cases a:Qj sl x with
  | none=>rw[a] at h;cases h
  | some r=>
   rw[a] at h;obtain⟨b,t⟩:=List.mem_filter.1 h;have j:=(aN a).2;have n:¬(r.Zj=0\/r.over=true):=λk=>by unfold gB at b;rw[Pe k] at b;cases b
   obtain⟨A,d,_,_⟩:=(m.good r (aN a).1).act;have f:r.over=false:=by cases v:r.over;rfl;exact Pg (.inr v) n
   have i:r.Zj≠0:=λk=>n (.inl k)
   rw[qy d f i] at b;rw[j] at d;refine⟨r,A,a,f,i,d,b, ?_⟩;have c:aP (Q_ Kj) (Qj sl) y=none:=by simpa using t
   unfold aP at c;cases l:Q_ Kj y with
   | none=>rw[l] at c;cases c
   | some B=>
    rw[l] at c;obtain⟨q,e⟩:=Om.1 (s x r A a f i d y b (by rw[l];rfl));rw[e] at c;refine⟨q,e, ?_⟩;cases w:q.over
    .rfl
    .simp only at c;rw[w] at c;simp at c
 .rintro⟨r,A,a,f,i,d,b,q,e,z⟩;unfold l_;rw[a];have j:=(aN a).2;refine List.mem_filter.2 ⟨?_, ?_⟩
  .rw[qy (by rw[j];exact d) f i];exact b
  .obtain⟨B,p,_,_⟩:=(m.good q (aN e).1).act;rw[(aN e).2] at p;unfold aP;rw[p,e];simp[z]
def CW(Kj:List Qq)(Kk:List Ps)(sl:List Qz)(o:pW):Prop:=(o.res.length<=10/\o.chain.length<=60)/\o.res=Kk.map (oM (Q_ Kj) (Qj sl))/\o.dS=dX sl/\o.cost=gy (Q_ Kj) sl/\(((¬∃r∈o.res,r.over=false)/\o.code=0/\o.chain=[])\/((∃r∈o.res,r.over=false)/\o.code=1/\ou (bg (Q_ Kj) (Qj sl)) o.chain))
section
variable {Kj : List Qq} {wz w : Pv} {cb : Nat} {a : Pt} {cap mr mt mx : Nat} {cl : Ps -> Option fB} {f : Ps -> Pw} {kf : Ps -> Prop} {un co : Int} {sl : List Qz}
theorem uw(hC:CM Kj wz w cb a cap mr mt mx cl f kf un co)(hS:CS Kj wz cl f kf un co sl)(b4:aX (Q_ Kj))(e0:Kj.length<=60)(d6:dI Kj)(hN:bN wz a Kj)(i0:mx<=9000)(i1:iw (Q_ Kj) (Qj sl))(rd:Pt)(rc:Nat)(Kk:List Ps)(d7:Kk.length<=10)(i2:∀n∈Kk,n.size<=20)(i3:∀n∈Kk,(cl n).isSome=true\/Q_ Kj n=none)(hR:Strs w rd Kk):
  Calls prog 49 #[.c cb,.slice rd Kk.length rc] w λe w'=>Fz (CW Kj Kk sl) w w' e:=by
 have⟨HC,G,d8,i4,i5⟩:=jH hC hS i2 i3 i1;have i6:sl.length<=60:=NT hS.good.len e0;obtain⟨W0,b5⟩:=ai (w.alloc (.cells #[.a 0,J3,J3,.a 0,.a 0] 43));have k0:K_ w W0:=by rw[b5];exact ah _ _
 have z0:W0.heap.size=w.heap.size+1:=by rw[b5];simp
 have i7:=Kz z0;have i8:Hid (aB W0 w.heap.size 43 5):=by rw[b5];exact aB.made w _ _
 have i9:=Kz (hC.kept k0);have a4:Hid (∀d9,K_ W0 d9->J4 d9 cb 4 (.a un)/\J4 d9 cb 5 (.a co)):=λd9 K=>⟨(i9.o.kept K).c4,(i9.o.kept K).c5⟩
 have a3:Hid (un=dX sl/\co=gy (Q_ Kj) sl):=⟨hS.dS,hS.cost⟩;clear hC hS i2 i3 i1 z0;go_enter func49,ntmps49
 go_upto_region 1 with fail
 rw[<-b5];clear b5;refine bn 14 a4.o λwd KD H=>?_
 refine ae 0 H ?_;refine ae 1 H ?_;refine ae 2 H ?_;refine ax 4 H ?_;refine ax 8 H ?_;refine iy 3 13 (λK x=>?_) (λK x=>?_)
 .rw[Pe D8];go_simp
  go_at_call 79
  refine (mW (HC.o.kept (k0.trans KD)) G.o A7 d6 hN rd rc Kk A7 (λn U=>⟨by have:=d8.o n U;omega,i4.o n U⟩) (λn U=>by have:=zY G.o.good (d8.o n U);omega) (hR.kept (k0.trans KD))).mono ?_;rintro e M ⟨c,rfl,b6,k1⟩;have I:=KD.trans k1;refine x.out _ _ (λ_=>a4.o _ I) ?_;clear x K H;have H:=a4.o _ I;try simp only[upP]
  refine ae 12 H ?_;refine aj 13 (λK x=>?_);go_simp
  obtain⟨b,J⟩:=ai M.heap.size;obtain⟨L,C⟩:=ai (M.alloc (.cells #[.a 0,J3,J3,.a 0,.a 0] 43));have kE:K_ M L:=by rw[C];exact ah _ _
  have b7:Hid (aB L b 43 5):=by rw[C,J];exact aB.made M _ _
  have zE:L.heap.size=b+1:=by rw[C,J];simp
  rw[<-C,<-J];refine af x (λ_=>a4.o _ (I.trans kE)) ?_;clear x K H;have V:=b7;refine aF 14 (λK x=>?_);refine wp_store_mid 43 _ _ rfl b 0 #[.a 0,.slice c Kk.length Kk.length,J3,.a un,.a co] D8 D8 V.o.there C9 (FZ ..) ?_;refine af x (λh=>Pg rfl h) ?_;clear x K;refine aG ?_;obtain⟨j,D⟩:=ai (L.setCells b 0 [.a 0,.slice c Kk.length Kk.length,J3,.a un,.a co]);have W:Hid (iH j b j 0 (.slice c Kk.length Kk.length) un co):=by
   have E:=NU L b 0 [.a 0,.slice c Kk.length Kk.length,J3,.a un,.a co] (V.o.row.there (o:=0) (m:=5) (NQ _));rw[<-D] at E;exact⟨But.au (K_.refl _),by rw[D];exact aB.sets _ 0 V.o,E 0 _ rfl,E 1 _ rfl,E 2 _ rfl,E 3 _ rfl,E 4 _ rfl⟩
  have X:But (λk=>k=b) L j:=by rw[D];exact gP (S:=λk=>k=b) (.inl rfl) _ 0 (But.au (K_.refl _))
  obtain⟨Y,b8⟩:=ai wd.heap.size;obtain⟨Z,b9⟩:=ai M.heap.size;have e1:=KD.size;have e2:=k1.size;have e3:=i7.o;have e4:j.heap.size=L.heap.size:=by rw[D,size_setCells]
  have j0:b<Y\/Z<=b:= .inr A7;have c6:K_ w j:=X.kept ((k0.trans I).trans kE) (λk e=>by rw[e];omega);have e5:Hid (aB j w.heap.size 43 5):=X.row (i8.o.kept (I.trans kE)) (λ(e:w.heap.size=b)=>A7);have a5:Hid (gU j Y Z c (Kk.map (oM (Q_ Kj) (Qj sl)))):=by
   rw[b8,b9];exact (b6.same (kE.same _ _)).same (λk h1 h2 _=>X.block k A7 (λ(e:k=b)=>A7))
  have j1:Z<=j.heap.size:=A7;have j2:w.heap.size+1<=Y:=A7;have j3:w.heap.size+1<=b:=A7;clear b6 b8 b9 J C zE b7 V kE k1 I KD e4 e1 e2 e3;obtain⟨R,a6⟩:=ai (oM (Q_ Kj) (Qj sl));rw[<-a6] at a5;have F:Hid ((Kk.map R).length=Kk.length):=by show _=_;rw[OY]
  have a0:Hid (∀u,But (λk=>k=b) j u->K_ w u/\aB u w.heap.size 43 5/\gU u Y Z c (Kk.map R)/\j.heap.size<=u.heap.size):=λu h=>⟨h.kept c6 (λk e=>by rw[e];omega),h.row e5.o (λ(e:w.heap.size=b)=>A7),a5.o.same (λk h1 h2 _=>h.block k A7 (λ(e:k=b)=>A7)),h.size⟩
  have c7:=Kz a6;have j4:w.heap.size<=j.heap.size:=c6.size;have j5:b<j.heap.size:=W.o.row.lt;have o1:=W.o.c1;have e6:=W.o.row.lt;rw[<-D];clear a6 D X;go_wp2_with fail
  have a7:=pK j c Kk.length (Kk.map R) (by rw[F.o];omega) a5.o.Nn;rw[F.o] at a7;refine a7.mono ?_;clear a7;rintro e w5 ⟨a8,k5⟩;have t:=Kz (W.o.kept k5);have e7:=t.o.row.lt;clear o1 e6;rcases a8.cases with⟨rfl,c8⟩|⟨rfl,c9⟩;rotate_left
  .have e8:=Kz c9;have a9:Hid (CW Kj Kk sl ⟨0,Kk.map R,[],un,co⟩):=⟨⟨by rw[F.o];exact d7,NS _⟩,by rw[c7.o],a3.o.1,a3.o.2,.inl ⟨e8.o,rfl,rfl⟩⟩;have o0:=t.o.c0;have o1:=t.o.c1;have o2:=t.o.c2;have o3:=t.o.c3;have o4:=t.o.c4;obtain⟨N,O,P,b0⟩:=a0.o w5 t.o.but;have⟨Q,z,b1⟩:=fu N O P;clear N O P c9 a8;obtain⟨⟨⟨_,e9⟩,f2⟩,⟨⟨_,f3⟩,f4⟩,⟨⟨_,f5⟩,f6⟩,⟨⟨_,f7⟩,f8⟩,⟨_,f9⟩,g0⟩:=z.o.row.uT;have g1:=z.o.lt;have g2:¬b=w.heap.size:=A7;go_wp2
   have hX:=NU w5 w.heap.size 0 [.a 0,.slice c Kk.length Kk.length,J3,.a un,.a co] (z.o.row.there (o:=0) (m:=5) (NQ _));refine X_ [.a 0,.slice c Kk.length Kk.length,J3,.a un,.a co] _ results49 rfl hX underlying43 rfl Tryz.dH rfl ⟨_,c,none,Kk.length,0,j.heap.size, ?_,a9.o, ?_, ?_,A7, ?_, ?_⟩
   .show Ending.returned _=Ending.returned _;rw[F.o];try rfl
   .exact (iZ (vs:=[.a 0,.slice c Kk.length Kk.length,J3,.a un,.a co]) b1.o (.inl A7)).mono A7 A7
   .exact .inl rfl
   .exact NT b0 (Ot (size_setCells w.heap.size [.a 0,.slice c Kk.length Kk.length,J3,.a un,.a co] 0 w5).symm)
   .exact bJ (NQ _) [.a 0,.slice c Kk.length Kk.length,J3,.a un,.a co] 0 Q.o
  have g3:=Kz c8;obtain⟨⟨_,f0⟩,f1⟩:=t.o.row.row.at (i:=0) A7;have o0:=t.o.c0;obtain⟨W6,b2⟩:=ai (w5.setCell ⟨b,0,none⟩ (.a 1));have a1:Hid (iH j b W6 1 (.slice c Kk.length Kk.length) un co):=by rw[b2];exact t.o.set0 1
  have Q:=Kz (a0.o W6 a1.o.but).1;clear c8 a8;go_upto_region 4 with fail
  rw[<-b2];clear b2 f0 f1 o0 e7;go_wp2_with fail
  refine (oZ (HC.o.kept Q.o) G.o b4 e0 d6 hN i0).mono ?_;rintro e w8 ⟨mo,j6,g,B,rfl,hO,a2,hM,k8⟩;have g4:Hid ((λb3 d0=>d0∈B b3)=bg (Q_ Kj) (Qj sl)):=by
   show _=_
   funext b3 d0
   rw[a2 b3];exact propext (zX G.o.good i5.o)
  have d1:Hid (∀s,B s≠[]->s∈sl.map (·.name)):=λs y=>by
   rw[a2 s] at y;unfold l_ at y;cases T:Qj sl s with
   | none=>rw[T] at y;exact Pg rfl y
   | some r=>exact Oq.2 ⟨r,(aN T).1,(aN T).2⟩
  have g5:Hid (∀s,B s≠[]->s.size<=20):=λs y=>by
   obtain⟨r,hr,rfl⟩:=Oq.1 (d1.o s y);obtain⟨A,hA,_⟩:=(G.o.good.good r hr).act;exact (b4 _ _ hA).2.2.1
  have g6:Hid (sG w8 mo (λs=>B s≠[]) B):=by
   obtain⟨g7,g8,hN,g9,hf,hh⟩:=hO.map;refine⟨⟨g7,g8,A7,g9,λs y=>?_,hh⟩,λs h=>h⟩;have h0:=hO.row s;obtain⟨h3,h4,h5,h6⟩:=bv h0;exact⟨h3,h4,by rw[hf s y,h5],h6⟩
  have h7:Hid (∀s,(B s).length<=1000000):=λs=>by
   rw[a2 s];unfold l_;cases T:Qj sl s with
   | none=>exact NS _
   | some r=>
    refine NT (List.length_filter_le _ _) ?_;have:=(pV b4 (G.o.good.good r (aN T).1)).1;omega
  clear hO a2;go_wp2_with fail
  refine (uW w8 mo _ B (sl.map (·.name)) d1.o (by rw[OY];exact i6) g5.o h7.o g6.o).mono ?_;rintro e w9 ⟨p,d,rfl,d2,h8,d3,k9⟩;have d4:Hid (ou (bg (Q_ Kj) (Qj sl)) d):=by rw[<-g4.o];exact d3
  have a9:Hid (CW Kj Kk sl ⟨1,Kk.map R,d,un,co⟩):=⟨⟨by rw[F.o];exact d7,h8⟩,by rw[c7.o],a3.o.1,a3.o.2,.inr ⟨g3.o,rfl,d4.o⟩⟩;have v:=Kz (a1.o.kept (k8.trans k9));have j7:=k8.size;have j8:=a1.o.row.lt;have d5:=v.o.row.lt;obtain⟨⟨_,f0⟩,f1⟩:=v.o.row.row.at (i:=2) A7;obtain⟨l,q⟩:=ai (w9.setCell ⟨b,2,none⟩ (.slice p d.length d.length));have o0:l.cell? ⟨b,0,none⟩=some (.a 1):=by rw[q];exact miss v.o.c0 A8
  have o1:l.cell? ⟨b,1,none⟩=some (.slice c Kk.length Kk.length):=by rw[q];exact miss v.o.c1 A8
  have o2:l.cell? ⟨b,2,none⟩=some (.slice p d.length d.length):=by rw[q];exact bu v.o.row.row A7 _
  have o3:l.cell? ⟨b,3,none⟩=some (.a un):=by rw[q];exact miss v.o.c3 A8
  have o4:l.cell? ⟨b,4,none⟩=some (.a co):=by rw[q];exact miss v.o.c4 A8
  have j9:=(a0.o W6 a1.o.but).2.2.2;obtain⟨N,O,P,b0⟩:=a0.o l (by rw[q];exact v.o.but.set rfl _);have⟨Q,z,b1⟩:=fu N O P;have k2:b<l.heap.size:=by rw[q,size_setCell];exact d5
  have h9:Hid (bW l j.heap.size l.heap.size p d):=by
   have h:bW l w8.heap.size w9.heap.size p d:=by rw[q];exact d2.same (Same.setCell _ (.inl (by show b<w8.heap.size;omega)) _)
   exact h.mono A7 (by rw[q,size_setCell];exact NQ _)
  clear N O P d2 d3 d4 v;go_upto_region 5 with fail
  rw[<-q];clear q f0 f1 d5;obtain⟨⟨⟨_,e9⟩,f2⟩,⟨⟨_,f3⟩,f4⟩,⟨⟨_,f5⟩,f6⟩,⟨⟨_,f7⟩,f8⟩,⟨_,f9⟩,g0⟩:=z.o.row.uT;have g1:=z.o.lt;have g2:¬b=w.heap.size:=A7;go_wp2
  have hX:=NU l w.heap.size 0 [.a 1,.slice c Kk.length Kk.length,.slice p d.length d.length,.a un,.a co] (z.o.row.there (o:=0) (m:=5) (NQ _));refine X_ [.a 1,.slice c Kk.length Kk.length,.slice p d.length d.length,.a un,.a co] _ results49 rfl hX underlying43 rfl Tryz.dH rfl ⟨_,c,p,Kk.length,d.length,j.heap.size, ?_,a9.o, ?_, ?_,A7, ?_, ?_⟩
  .show Ending.returned _=Ending.returned _;rw[F.o];try rfl
  .exact (iZ (vs:=[.a 1,.slice c Kk.length Kk.length,.slice p d.length d.length,.a un,.a co]) b1.o (.inl A7)).mono A7 A7
  .exact (nU (vs:=[.a 1,.slice c Kk.length Kk.length,.slice p d.length d.length,.a un,.a co]) h9.o (.inl A7)).mono (NQ _) (Ot (size_setCells w.heap.size [.a 1,.slice c Kk.length Kk.length,.slice p d.length d.length,.a un,.a co] 0 l).symm)
  .exact NT b0 (Ot (size_setCells w.heap.size [.a 1,.slice c Kk.length Kk.length,.slice p d.length d.length,.a un,.a co] 0 l).symm)
  .exact bJ (NQ _) [.a 1,.slice c Kk.length Kk.length,.slice p d.length d.length,.a un,.a co] 0 Q.o
 .go_simp
  obtain⟨b,J⟩:=ai wd.heap.size;obtain⟨L,C⟩:=ai (wd.alloc (.cells #[.a 0,J3,J3,.a 0,.a 0] 43));have kE:K_ wd L:=by rw[C];exact ah _ _
  have b7:Hid (aB L b 43 5):=by rw[C,J];exact aB.made wd _ _
  have zE:L.heap.size=b+1:=by rw[C,J];simp
  rw[<-C,<-J];have I:=KD.trans kE;have⟨k3,k4,k6⟩:=fu C J zE;refine af x (λ_=>a4.o _ I) ?_;clear x K H C J zE;refine aF 3 (λK x=>?_);go_simp
  go_at_call 79
  refine (mW (HC.o.kept (k0.trans I)) G.o A7 d6 hN rd rc Kk A7 (λn U=>⟨by have:=d8.o n U;omega,i4.o n U⟩) (λn U=>by have:=zY G.o.good (d8.o n U);omega) (hR.kept (k0.trans I))).mono ?_;rintro e M ⟨c,rfl,b6,k1⟩;have K2:=I.trans k1;refine x.out _ _ (λ_=>a4.o _ K2) ?_;clear x K;have H:=a4.o _ K2;try simp only[upP]
  refine ae 12 H ?_;have V:=Kz (b7.o.kept k1);refine aF 14 (λK x=>?_);refine wp_store_mid 43 _ _ rfl b 0 #[.a 0,.slice c Kk.length Kk.length,J3,.a un,.a co] D8 D8 V.o.there C9 (FZ ..) ?_;refine af x (λh=>Pg rfl h) ?_;clear x K;refine aG ?_;obtain⟨j,D⟩:=ai (M.setCells b 0 [.a 0,.slice c Kk.length Kk.length,J3,.a un,.a co]);have W:Hid (iH j b j 0 (.slice c Kk.length Kk.length) un co):=by
   have E:=NU M b 0 [.a 0,.slice c Kk.length Kk.length,J3,.a un,.a co] (V.o.row.there (o:=0) (m:=5) (NQ _));rw[<-D] at E;exact⟨But.au (K_.refl _),by rw[D];exact aB.sets _ 0 V.o,E 0 _ rfl,E 1 _ rfl,E 2 _ rfl,E 3 _ rfl,E 4 _ rfl⟩
  have X:But (λk=>k=b) M j:=by rw[D];exact gP (S:=λk=>k=b) (.inl rfl) _ 0 (But.au (K_.refl _))
  have C:=k3.o;have J:=k4.o;have zE:=k6.o;obtain⟨Y,b8⟩:=ai L.heap.size;obtain⟨Z,b9⟩:=ai M.heap.size;have e1:=KD.size;have e2:=k1.size;have e3:=i7.o;have e4:j.heap.size=M.heap.size:=by rw[D,size_setCells]
  have j0:b<Y\/Z<=b:= .inl A7;have c6:K_ w j:=X.kept (k0.trans K2) (λk e=>by rw[e];omega);have e5:Hid (aB j w.heap.size 43 5):=X.row (i8.o.kept K2) (λ(e:w.heap.size=b)=>A7);have a5:Hid (gU j Y Z c (Kk.map (oM (Q_ Kj) (Qj sl)))):=by
   rw[b8,b9];exact b6.same (λk h1 h2 _=>X.block k A7 (λ(e:k=b)=>A7))
  have j1:Z<=j.heap.size:=A7;have j2:w.heap.size+1<=Y:=A7;have j3:w.heap.size+1<=b:=A7;clear b6 b8 b9 J C zE b7 V kE k1 I K2 KD e4 e1 e2 e3;obtain⟨R,a6⟩:=ai (oM (Q_ Kj) (Qj sl));rw[<-a6] at a5;have F:Hid ((Kk.map R).length=Kk.length):=by show _=_;rw[OY]
  have a0:Hid (∀u,But (λk=>k=b) j u->K_ w u/\aB u w.heap.size 43 5/\gU u Y Z c (Kk.map R)/\j.heap.size<=u.heap.size):=λu h=>⟨h.kept c6 (λk e=>by rw[e];omega),h.row e5.o (λ(e:w.heap.size=b)=>A7),a5.o.same (λk h1 h2 _=>h.block k A7 (λ(e:k=b)=>A7)),h.size⟩
  have c7:=Kz a6;have j4:w.heap.size<=j.heap.size:=c6.size;have j5:b<j.heap.size:=W.o.row.lt;have o1:=W.o.c1;have e6:=W.o.row.lt;rw[<-D];clear a6 D X;go_wp2_with fail
  have a7:=pK j c Kk.length (Kk.map R) (by rw[F.o];omega) a5.o.Nn;rw[F.o] at a7;refine a7.mono ?_;clear a7;rintro e w5 ⟨a8,k5⟩;have t:=Kz (W.o.kept k5);have e7:=t.o.row.lt;clear o1 e6;rcases a8.cases with⟨rfl,c8⟩|⟨rfl,c9⟩;rotate_left
  .have e8:=Kz c9;have a9:Hid (CW Kj Kk sl ⟨0,Kk.map R,[],un,co⟩):=⟨⟨by rw[F.o];exact d7,NS _⟩,by rw[c7.o],a3.o.1,a3.o.2,.inl ⟨e8.o,rfl,rfl⟩⟩;have o0:=t.o.c0;have o1:=t.o.c1;have o2:=t.o.c2;have o3:=t.o.c3;have o4:=t.o.c4;obtain⟨N,O,P,b0⟩:=a0.o w5 t.o.but;have⟨Q,z,b1⟩:=fu N O P;clear N O P c9 a8;obtain⟨⟨⟨_,e9⟩,f2⟩,⟨⟨_,f3⟩,f4⟩,⟨⟨_,f5⟩,f6⟩,⟨⟨_,f7⟩,f8⟩,⟨_,f9⟩,g0⟩:=z.o.row.uT;have g1:=z.o.lt;have g2:¬b=w.heap.size:=A7;go_wp2
   have hX:=NU w5 w.heap.size 0 [.a 0,.slice c Kk.length Kk.length,J3,.a un,.a co] (z.o.row.there (o:=0) (m:=5) (NQ _));refine X_ [.a 0,.slice c Kk.length Kk.length,J3,.a un,.a co] _ results49 rfl hX underlying43 rfl Tryz.dH rfl ⟨_,c,none,Kk.length,0,j.heap.size, ?_,a9.o, ?_, ?_,A7, ?_, ?_⟩
   .show Ending.returned _=Ending.returned _;rw[F.o];try rfl
   .exact (iZ (vs:=[.a 0,.slice c Kk.length Kk.length,J3,.a un,.a co]) b1.o (.inl A7)).mono A7 A7
   .exact .inl rfl
   .exact NT b0 (Ot (size_setCells w.heap.size [.a 0,.slice c Kk.length Kk.length,J3,.a un,.a co] 0 w5).symm)
   .exact bJ (NQ _) [.a 0,.slice c Kk.length Kk.length,J3,.a un,.a co] 0 Q.o
  have g3:=Kz c8;obtain⟨⟨_,f0⟩,f1⟩:=t.o.row.row.at (i:=0) A7;have o0:=t.o.c0;obtain⟨W6,b2⟩:=ai (w5.setCell ⟨b,0,none⟩ (.a 1));have a1:Hid (iH j b W6 1 (.slice c Kk.length Kk.length) un co):=by rw[b2];exact t.o.set0 1
  have Q:=Kz (a0.o W6 a1.o.but).1;clear c8 a8;go_upto_region 4 with fail
  rw[<-b2];clear b2 f0 f1 o0 e7;go_wp2_with fail
  refine (oZ (HC.o.kept Q.o) G.o b4 e0 d6 hN i0).mono ?_;rintro e w8 ⟨mo,j6,g,B,rfl,hO,a2,hM,k8⟩;have g4:Hid ((λb3 d0=>d0∈B b3)=bg (Q_ Kj) (Qj sl)):=by
   show _=_
   funext b3 d0
   rw[a2 b3];exact propext (zX G.o.good i5.o)
  have d1:Hid (∀s,B s≠[]->s∈sl.map (·.name)):=λs y=>by
   rw[a2 s] at y;unfold l_ at y;cases T:Qj sl s with
   | none=>rw[T] at y;exact Pg rfl y
   | some r=>exact Oq.2 ⟨r,(aN T).1,(aN T).2⟩
  have g5:Hid (∀s,B s≠[]->s.size<=20):=λs y=>by
   obtain⟨r,hr,rfl⟩:=Oq.1 (d1.o s y);obtain⟨A,hA,_⟩:=(G.o.good.good r hr).act;exact (b4 _ _ hA).2.2.1
  have g6:Hid (sG w8 mo (λs=>B s≠[]) B):=by
   obtain⟨g7,g8,hN,g9,hf,hh⟩:=hO.map;refine⟨⟨g7,g8,A7,g9,λs y=>?_,hh⟩,λs h=>h⟩;have h0:=hO.row s;obtain⟨h3,h4,h5,h6⟩:=bv h0;exact⟨h3,h4,by rw[hf s y,h5],h6⟩
  have h7:Hid (∀s,(B s).length<=1000000):=λs=>by
   rw[a2 s];unfold l_;cases T:Qj sl s with
   | none=>exact NS _
   | some r=>
    refine NT (List.length_filter_le _ _) ?_;have:=(pV b4 (G.o.good.good r (aN T).1)).1;omega
  clear hO a2;go_wp2_with fail
  refine (uW w8 mo _ B (sl.map (·.name)) d1.o (by rw[OY];exact i6) g5.o h7.o g6.o).mono ?_;rintro e w9 ⟨p,d,rfl,d2,h8,d3,k9⟩;have d4:Hid (ou (bg (Q_ Kj) (Qj sl)) d):=by rw[<-g4.o];exact d3
  have a9:Hid (CW Kj Kk sl ⟨1,Kk.map R,d,un,co⟩):=⟨⟨by rw[F.o];exact d7,h8⟩,by rw[c7.o],a3.o.1,a3.o.2,.inr ⟨g3.o,rfl,d4.o⟩⟩;have v:=Kz (a1.o.kept (k8.trans k9));have j7:=k8.size;have j8:=a1.o.row.lt;have d5:=v.o.row.lt;obtain⟨⟨_,f0⟩,f1⟩:=v.o.row.row.at (i:=2) A7;obtain⟨l,q⟩:=ai (w9.setCell ⟨b,2,none⟩ (.slice p d.length d.length));have o0:l.cell? ⟨b,0,none⟩=some (.a 1):=by rw[q];exact miss v.o.c0 A8
  have o1:l.cell? ⟨b,1,none⟩=some (.slice c Kk.length Kk.length):=by rw[q];exact miss v.o.c1 A8
  have o2:l.cell? ⟨b,2,none⟩=some (.slice p d.length d.length):=by rw[q];exact bu v.o.row.row A7 _
  have o3:l.cell? ⟨b,3,none⟩=some (.a un):=by rw[q];exact miss v.o.c3 A8
  have o4:l.cell? ⟨b,4,none⟩=some (.a co):=by rw[q];exact miss v.o.c4 A8
  have j9:=(a0.o W6 a1.o.but).2.2.2;obtain⟨N,O,P,b0⟩:=a0.o l (by rw[q];exact v.o.but.set rfl _);have⟨Q,z,b1⟩:=fu N O P;have k2:b<l.heap.size:=by rw[q,size_setCell];exact d5
  have h9:Hid (bW l j.heap.size l.heap.size p d):=by
   have h:bW l w8.heap.size w9.heap.size p d:=by rw[q];exact d2.same (Same.setCell _ (.inl (by show b<w8.heap.size;omega)) _)
   exact h.mono A7 (by rw[q,size_setCell];exact NQ _)
  clear N O P d2 d3 d4 v;go_upto_region 5 with fail
  rw[<-q];clear q f0 f1 d5;obtain⟨⟨⟨_,e9⟩,f2⟩,⟨⟨_,f3⟩,f4⟩,⟨⟨_,f5⟩,f6⟩,⟨⟨_,f7⟩,f8⟩,⟨_,f9⟩,g0⟩:=z.o.row.uT;have g1:=z.o.lt;have g2:¬b=w.heap.size:=A7;go_wp2
  have hX:=NU l w.heap.size 0 [.a 1,.slice c Kk.length Kk.length,.slice p d.length d.length,.a un,.a co] (z.o.row.there (o:=0) (m:=5) (NQ _));refine X_ [.a 1,.slice c Kk.length Kk.length,.slice p d.length d.length,.a un,.a co] _ results49 rfl hX underlying43 rfl Tryz.dH rfl ⟨_,c,p,Kk.length,d.length,j.heap.size, ?_,a9.o, ?_, ?_,A7, ?_, ?_⟩
  .show Ending.returned _=Ending.returned _;rw[F.o];try rfl
  .exact (iZ (vs:=[.a 1,.slice c Kk.length Kk.length,.slice p d.length d.length,.a un,.a co]) b1.o (.inl A7)).mono A7 A7
  .exact (nU (vs:=[.a 1,.slice c Kk.length Kk.length,.slice p d.length d.length,.a un,.a co]) h9.o (.inl A7)).mono (NQ _) (Ot (size_setCells w.heap.size [.a 1,.slice c Kk.length Kk.length,.slice p d.length d.length,.a un,.a co] 0 l).symm)
  .exact NT b0 (Ot (size_setCells w.heap.size [.a 1,.slice c Kk.length Kk.length,.slice p d.length d.length,.a un,.a co] 0 l).symm)
  .exact bJ (NQ _) [.a 1,.slice c Kk.length Kk.length,.slice p d.length d.length,.a un,.a co] 0 Q.o
end
theorem CM.begun{Kj:List Qq}{b f:Pv}{a:Pt}{cap:Nat}(d:f= ((b.alloc (.map #[] 0)).alloc (.map #[] 0)).alloc (.cells #[.slice a Kj.length cap,.func (.func 99) #[] #[],.map (some b.heap.size),.map (some (b.heap.size+1)),.a 0,.a 0] 105)):
  CM Kj b f (b.heap.size+1+1) a cap b.heap.size (b.heap.size+1) 0 (λ_=>none) (λ_=>rP) (λ_=>False) 0 0:=by
 have k:K_ b f:=by rw[d];exact ((ah _ _).alloc _).alloc _
 have i:aB f (b.heap.size+1+1) 105 6:=by
  have h:=aB.made ((b.alloc (.map #[] 0)).alloc (.map #[] 0)) #[.slice a Kj.length cap,.func (.func 99) #[] #[],.map (some b.heap.size),.map (some (b.heap.size+1)),.a 0,.a 0] 105;rw[OC,OC] at h;rw[d];exact h
 have c:=Xz ((b.alloc (.map #[] 0)).alloc (.map #[] 0)) #[.slice a Kj.length cap,.func (.func 99) #[] #[],.map (some b.heap.size),.map (some (b.heap.size+1)),.a 0,.a 0] 105;rw[OC,OC,<-d] at c;refine⟨k,i,c 0 _ rfl,c 1 _ rfl,c 2 _ rfl,c 3 _ rfl,c 4 _ rfl,c 5 _ rfl,A7,λn t e=>(by cases e),λn m t u e=>(by cases e),⟨0,.map [],NQ _, ?_,λs _=>rfl,λs=>by simp[Maps.has]⟩,NQ _,⟨0,.map [],NQ _, ?_,λs _=>rfl,λs=>by simp[Maps.has]⟩,Nat.le_succ _,A7⟩
 .rw[d];exact ((World.ownsMap_made b prog 9 asIs).alloc _).alloc _
 .rw[d];have h:=(World.ownsMap_made (b.alloc (.map #[] 0)) prog 9 asIs).alloc (.cells #[.slice a Kj.length cap,.func (.func 99) #[] #[],.map (some b.heap.size),.map (some (b.heap.size+1)),.a 0,.a 0] 105);rw[OC] at h;exact h
theorem CS.begun(Kj:List Qq)(b:Pv):CS Kj b (λ_=>none) (λ_=>rP) (λ_=>False) 0 0 []:=
 ⟨⟨List.Pairwise.nil,λr h=>(by cases h)⟩,λn=>rfl,λs=>rfl,λs=>⟨λh=>h.elim,λ⟨t,h,_⟩=>(by cases h)⟩,rfl,rfl,λn r h=>(by cases h)⟩
theorem Jk{W:bR}{σ τ :Env}{k:Nat}(a:bB (bi W) (doX W) σ τ k){n:Ps}(h:(σ n).isSome=true):(τ n).isSome=true:=a.keeps (P:=λσ:Env=>(σ n).isSome=true) (λ_ _ g c=>qB c g) h
theorem II{Kj:List Qq}(b:aX (Q_ Kj)){Kk:List Ps}{τ :Env}{k:Nat}(d:bB (bi (Q_ Kj)) (doX (Q_ Kj)) (Qj (eT Kj Kk)) τ k):iw (Q_ Kj) τ :=by
 have h:=d.keeps (P:=λσ:Env=>dw Kj σ/\iw (Q_ Kj) σ) (λσ m h c=>⟨wL b h.1 c,h.2.did h.1 c⟩) ⟨(fH b Kk).env,λn r A a f e=>by
  rw[fQ] at a
  split at a
  .cases a;exact Pg rfl e
  .cases a⟩
 exact h.2
theorem za(w:Pv)(a:Pt)(cap:Nat)(Kj:List Qq)(rd:Pt)(rc:Nat)(Kk:List Ps)(hl:Kj.length<=1048576)(hf:∀s∈Kj,s.Fits)(e0:Kk.length<=maxLen)(e1:Kk.length<=rc)(e2:∀s∈Kk,s.size<=maxLen)(hS:bN w a Kj)(W:Strs w rd Kk)(e3:dA w):
  Calls prog 13 #[.agg #[.slice a Kj.length cap],.slice rd Kk.length rc] w λe w'=>Fz (gL Kj Kk) w w' e:=by
 obtain⟨C,D⟩:=ai ((w.alloc (.cells #[.slice a Kj.length cap] 25)).alloc (.cells #[.a 0,J3,J3,.a 0,.a 0] 43));have E:K_ w C:=by rw[D];exact (ah _ _).alloc _
 have b6:C.heap.size=w.heap.size+2:=by rw[D];simp
 have b0:J4 C w.heap.size 0 (.slice a Kj.length cap):=by
  rw[D];exact (EY (w:=w) (v:= .slice a Kj.length cap) (t:=25) (ah _ _)).1
 have X:Hid (aB C (w.heap.size+1) 43 5):=by
  have h:=aB.made (w.alloc (.cells #[.slice a Kj.length cap] 25)) #[.a 0,J3,J3,.a 0,.a 0] 43;rw[OC] at h;rw[D];exact h
 have Y:w.heap.size<C.heap.size:=A7;have e4:=Kz b6;have e5:Kj.length<=maxLen:=D5;have Z:Hid (¬(bF Kj 0/\eX Kk)->∀u,K_ C u->Fz (gL Kj Kk) w (u.setCells (w.heap.size+1) 0 [.a 9,J3,J3,.a 0,.a 0]) (.returned (.agg #[.a 9,J3,J3,.a 0,.a 0]))):=λF u ku=>⟨Al,none,none,0,0,w.heap.size,rfl,⟨⟨NS _,NS _⟩,.inr ⟨F,rfl⟩⟩,.inl rfl,.inl rfl,NQ _,by rw[size_setCells];have:=ku.size;omega,bJ (g:=w.heap.size+1) A7 _ 0 (E.trans ku)⟩
 clear b6;go_enter func13,ntmps13
 go_upto_region 1 with fail
 rw[<-D];clear D;go_wp2_with fail
 refine (nJ FT _ a cap Kj e5 hf (hS.kept E)).mono ?_;rintro e w1 ⟨⟨c,rfl,hc⟩,l⟩;have K1:=E.trans l;have q0:=(l.cell (o:=0) Y).trans b0;have a0:=NR Y l.size;have G:=Kz hc;clear hc b0 Y;by_cases a1:c=0;rotate_left
 .have a2:Hid (¬(bF Kj 0/\eX Kk)):=λh=>a1 (G.o.unique h.1)
  have d:=X.o.kept l;obtain⟨⟨⟨_,b7⟩,b8⟩,⟨⟨_,b9⟩,c0⟩,⟨⟨_,c1⟩,c2⟩,⟨⟨_,c3⟩,c4⟩,⟨_,c5⟩,c6⟩:=d.row.uT;have c7:=d.lt;have⟨a3,e6⟩:=aH d l;have a4:(c == 0)=false:=by simpa using a1
  clear l E d;go_wp2
  have H:=NU w1 (w.heap.size+1) 0 [.a 9,J3,J3,.a 0,.a 0] (a3.o.row.there (o:=0) (m:=5) (NQ _));exact X_ [.a 9,J3,J3,.a 0,.a 0] _ results13 rfl H underlying43 rfl Tryz.dH rfl (Z.o a2.o w1 e6.o)
 subst a1;go_wp2_with fail
 refine (pu _ rd rc Kk e0 e1 e2 (W.kept K1)).mono ?_;rintro e w2 ⟨a5,I⟩;have q2:=(I.cell (o:=0) a0).trans q0;have K2:=K1.trans I;have z2:=NR a0 I.size;have a6:=Kz (l.trans I);clear q0 I a0 l;rcases a5.cases with⟨rfl,a7⟩|⟨rfl,J⟩;rotate_left
 .have a2:Hid (¬(bF Kj 0/\eX Kk)):=λh=>J h.2
  have d:=X.o.kept a6.o;obtain⟨⟨⟨_,b7⟩,b8⟩,⟨⟨_,b9⟩,c0⟩,⟨⟨_,c1⟩,c2⟩,⟨⟨_,c3⟩,c4⟩,⟨_,c5⟩,c6⟩:=d.row.uT;have c7:=d.lt;have a3:=Kz d;clear E d J a5;go_wp2_with fail
  have H:=NU w2 (w.heap.size+1) 0 [.a 9,J3,J3,.a 0,.a 0] (a3.o.row.there (o:=0) (m:=5) (NQ _));exact X_ [.a 9,J3,J3,.a 0,.a 0] _ results13 rfl H underlying43 rfl Tryz.dH rfl (Z.o a2.o w2 a6.o)
 have HY:=Kz a7;have c8:=nV G.o;have K:=cO G.o;have a8:=nY G.o;have e7:Kk.length<=10:=a7.2.1;clear a7 a5 Z;go_wp2_with fail
 refine (sD _ a Kj.length cap).mono ?_;rintro e b ⟨rfl,k3⟩;have P:=K2.trans k3;have e8:=Kz (a6.o.trans k3);clear q2 z2;have e9:(Instr.makeMap 102 none).run prog b= .ok (.map (some b.heap.size)) (b.alloc (.map #[] 0)):=rfl;have f0:(Instr.makeMap 103 none).run prog (b.alloc (.map #[] 0))= .ok (.map (some (b.heap.size+1))) ((b.alloc (.map #[] 0)).alloc (.map #[] 0)):=by
  have h:(Instr.makeMap 103 none).run prog (b.alloc (.map #[] 0))= .ok (.map (some (b.alloc (.map #[] 0)).heap.size)) ((b.alloc (.map #[] 0)).alloc (.map #[] 0)):=rfl;rw[OC] at h;exact h
 obtain⟨W4,a9⟩:=ai (((b.alloc (.map #[] 0)).alloc (.map #[] 0)).alloc (.cells #[.slice a Kj.length cap,.func (.func 99) #[] #[],.map (some b.heap.size),.map (some (b.heap.size+1)),.a 0,.a 0] 105));have L:=Kz (CM.begun a9);go_upto_region 4 with fail
 rw[<-a9];clear e9 f0 a9;obtain⟨cb,a4⟩:=ai (b.heap.size+1+1);obtain⟨mt,c9⟩:=ai (b.heap.size+1);obtain⟨mr,d0⟩:=ai b.heap.size;rw[<-a4] at L⊢;have L:Hid (CM Kj b W4 cb a cap mr mt 0 (λ_=>none) (λ_=>rP) (λ_=>False) 0 0):=by rw[c9,d0];exact L.o
 clear a4 c9 d0;have b1:=Kz (hS.kept P);have f1:=Kz (W.kept P);go_wp2
 go_loopw [24] (λb2 wr=>∃(k:Nat) (cl:Ps->Option fB) (p:List Qz),k<=Kk.length/\b2= .a (k:Int)/\Hid (CM Kj b wr cb a cap mr mt k cl (λ_=>rP) (λ_=>False) 0 0)/\Hid (CS Kj b cl (λ_=>rP) (λ_=>False) 0 0 p)/\Hid (iF (Q_ Kj) (Qj []) (Kk.take k) (Qj p))) (λb2 _=>Kk.length-(intOf b2).toNat)
 case atStart=>exact⟨0,_,[],NS _,rfl,L,Kz (CS.begun Kj b),Kz (iF.start _ _)⟩
 case round=>
  clear L;obtain⟨k,cl,p,hk,rfl,b3,B,Q⟩:=hrel;by_cases h6:(k:Int)<(Kk.length:Int)
  .have R:k<Kk.length:=A7;obtain⟨m,S⟩:=ai (Kk.getD k ByteArray.empty);obtain⟨h7,o,rfl,f2,b4⟩:=f1.o k R;rw[<-S] at b4;have d1:Kk[k]=m:=by rw[S];simp[List.getD,R]
   have f3:Hid (Kk.take (k+1)=Kk.take k++ [m]):=by show _=_;rw[NY R,d1]
   have f4:_=some (Value.string m):=(b3.o.kw.cell f2).trans b4;have h8:m.size<=20:=by
    have h:=(HY.o.2.2 k R).1.2.1;rw[<-S] at h;exact h
   clear b4 S d1;go_wp2_with fail
   refine (rE b3.o A7 a8 b1.o m A7 A7).mono ?_;rintro e wn ⟨rfl,d2,d3,f6,d4⟩;have f7:=Kz d3;have f8:Hid (∃M,CS Kj b d2 (λ_=>rP) (λ_=>False) 0 0 M/\iF (Q_ Kj) (Qj []) (Kk.take (k+1)) (Qj M)):=by
    show∃M,_;rw[f3.o];rcases d4 with⟨rfl,hw⟩|⟨f,J,tn,f9,rfl⟩
    .exact⟨p,B.o,Q.o.no (hw.imp id (λh=>by rw[B.o.env m];simpa using h))⟩
    .exact⟨_,B.o.want K f J f9,Q.o.new f (by rw[B.o.env m,J];rfl) (λs=>ik (r:=Qz.fresh m) B.o.good.asc s)⟩
   clear d3 f6 d4 f4;go_wp2
   go_roundw
   case rel=>
    obtain⟨M,T,N⟩:=f8.o;exact⟨k+1,d2,M,A7,C8,f7,T,N⟩
   case measure=>simp[intOf];omega
  .have g0:k=Kk.length:=A7;have g1:Hid (p=eT Kj Kk):=by
    refine yF B.o.good.asc (fH K Kk).asc ?_
    funext m
    have h:=Q.o m;rw[g0,Ox] at h;rw[h,fQ]
    rfl
   have HX:Hid (CX Kj b wr cb a cap mr mt p k cl p):=⟨_,_,_,_,b3.o,B.o,⟨0,.here _⟩,by have:=AQ Kj p;omega⟩;clear Q;go_wp2_with fail
   refine (Bf HX.o K hf c8 a8 b1.o (e3.kept P)).mono ?_;rintro e w5 ⟨rfl,g2,g3,b5,⟨f5,h9,i0,i1,U,V,d5,g4⟩,d6⟩;have O:=d5;rw[g1.o] at O;have g5:Hid (iw (Q_ Kj) (Qj b5)):=by
    obtain⟨j,hj⟩:=O;exact II K hj
   have g6:Hid (∀n∈Kk,(g3 n).isSome=true\/Q_ Kj n=none):=λn F=>by
    cases f:Q_ Kj n with
    | none=>exact .inr rfl
    | some A=>
     obtain⟨j,hj⟩:=O;have T:(Qj (eT Kj Kk) n).isSome=true:=by
      rw[fQ,Pe ⟨bT.2 F,by rw[f];rfl⟩]
      rfl
     have N:=Jk hj T;rw[V.env n] at N;exact .inl (by simpa using N)
   have g7:Hid (∀n∈Kk,n.size<=20):=λn F=>by
    obtain⟨i,hi,rfl⟩:=Oc F;have h:=(HY.o.2.2 i hi).1.2.1;simpa[List.getD,hi] using h
   have g8:Hid (Dv Kj Kk b5):=⟨V.good,O,d6⟩;have⟨g9,h0⟩:=aH U V;have h1:g2<=9000:=A7;have K5:=P.trans U.kw;have d7:=Kz (e8.o.trans U.kw);clear d5 O g4 d6 U V;go_wp2_with fail
   refine (uw g9.o h0.o K c8 a8 b1.o h1 g5.o rd rc Kk e7 g7.o g6.o (W.kept K5)).mono ?_;rintro e w6 ⟨o,q,x,y,z,h2,rfl,f,d8,d9,m1,m2,k6⟩;have HA:Hid (gL Kj Kk o):=⟨f.1,.inl ⟨G.o,HY.o,b5,⟨g8.o,f.2.1,f.2.2.1,f.2.2.2.1,f.2.2.2.2⟩⟩⟩;have⟨h3,h4⟩:=aH d8 d9;have d:=X.o.kept (d7.o.trans k6);obtain⟨⟨⟨_,b7⟩,b8⟩,⟨⟨_,b9⟩,c0⟩,⟨⟨_,c1⟩,c2⟩,⟨⟨_,c3⟩,c4⟩,⟨_,c5⟩,c6⟩:=d.row.uT;have c7:=d.lt;have h5:=Kz d;have i2:w.heap.size+2<=w5.heap.size:=by have T:=e4.o;have N:=d7.o.size;omega
   clear d f d8 d9;go_wp2_with fail
   have H:=NU w6 (w.heap.size+1) 0 (o.cells q x y z) (h5.o.row.there (o:=0) (m:=5) (NQ _));refine X_ (o.cells q x y z) _ results13 rfl H underlying43 rfl Tryz.dH rfl ⟨o,q,x,y,z,h2,rfl,HA.o, ?_, ?_,A7, ?_, ?_⟩
   .exact (iZ (vs:=o.cells q x y z) h3.o (.inl A7)).mono A7 (NQ _)
   .exact (nU (vs:=o.cells q x y z) h4.o (.inl A7)).mono (NQ _) (Ot (size_setCells (w.heap.size+1) (o.cells q x y z) 0 w6).symm)
   .exact NT m2 (Ot (size_setCells (w.heap.size+1) (o.cells q x y z) 0 w6).symm)
   .exact bJ (g:=w.heap.size+1) A7 (o.cells q x y z) 0 (K5.trans k6)
