import Derived.Test.YtjbipapbckajnaaGreatDoorKVBfs
import Derived.Test.YtjbipapbckajnaaGreatDoorProg
import Derived.WalkSpells
import Derived.WalkLawsBesides
import Derived.BigQuiet
import Derived.Deep.RegionHeld
set_option maxRecDepth 100000
set_option maxHeartbeats 25600000
namespace Go.Proofs.YtjbipapbckajnaaGreatDoor
open Go.RowKit Go.Proofs.Tryz
structure Rd (w:Pv) (rb:Nat) (a:Pt) (cap:Nat) (bs:List UInt8) (p:Nat):Prop where
 row:aB w rb 114 2
 c0:w.cell? ⟨rb,0,none⟩=some (.slice a bs.length cap)
 c1:w.cell? ⟨rb,1,none⟩=some (.a (p:Int))
 bytes:∀i,i<bs.length->∃b o,a=some ⟨b,o,none⟩/\b≠rb/\b<w.heap.size/\w.cell? ⟨b,o+i,none⟩=some (.int .u8 ((bs.getD i 0).toNat:Int))
theorem Rd.drewN{w:Pv}{rb:Nat}{a:Pt}{cap:Nat}{bs:List UInt8}{p:Nat}(h:Rd w rb a cap bs p)(k:Nat):Rd (w.drewN k) rb a cap bs p:=
 ⟨h.row.block rfl,h.c0,h.c1,h.bytes⟩
theorem Ns(a:Nat)(h:a<1099511627776):bits .xor .i64 (a:Int) ((a:Int) / 64)= ((a ^^^ a / 64:Nat):Int)/\a ^^^ a / 64<1099511627776:=by
 have b:a ^^^ a / 64<2 ^ 40:=Nat.xor_lt_two_pow A7 A7;have d:((a:Int) / 64)= ((a / 64:Nat):Int):=A7;have c:(BitVec.ofInt 64 (a:Int)).toNat=a:=by
  rw[BitVec.ofInt_natCast,BitVec.toNat_ofNat];exact Nat.mod_eq_of_lt A7
 have e:(BitVec.ofInt 64 ((a / 64:Nat):Int)).toNat=a / 64:=by
  rw[BitVec.ofInt_natCast,BitVec.toNat_ofNat];exact Nat.mod_eq_of_lt A7
 refine⟨?_,A7⟩;rw[d];show IntKind.i64.wrap ((BitVec.ofInt 64 (a:Int) ^^^ BitVec.ofInt 64 ((a / 64:Nat):Int)).toNat:Int)=_;rw[BitVec.toNat_xor,c,e];obtain⟨z,f⟩:=ai (a ^^^ a / 64);rw[<-f] at b⊢;simp[IntKind.wrap,IntKind.bits,IntKind.signed];omega
def KM(w w':Pv)(rb:Nat)(a:Pt)(cap:Nat)(bs:List UInt8)(p n:Nat)(e:Ending):Prop:=
 ∃v:Nat,e= .returned (.a (v:Int))/\v<=n-1/\Rd w' rb a cap bs (p+1)/\Xk rb (rb+1) w w'
theorem pq(w:Pv)(rb:Nat)(a:Pt)(cap:Nat)(bs:List UInt8)(p n:Nat)(b:Rd w rb a cap bs p)(S:p<=1000000)(T:n<=100000)(U:bs.length<=2000):
  Calls prog 19 #[.c rb,.a (n:Int)] w λe w'=>KM w w' rb a cap bs p n e:=by
 have H:=b.c0;have V:=b.c1;have W:=b.row.lt;obtain⟨_,Y⟩:=b.row.row.at (i:=1) A7;have x:Rd (w.setCell ⟨rb,1,none⟩ (.a ((p:Int)+1))) rb a cap bs (p+1):=by
  refine⟨b.row.set _,by rw[Xx A7];exact H,by rw[bu b.row.row A7];rfl,λI J=>?_⟩;obtain⟨k,o,e,h,l,m⟩:=b.bytes I J;exact⟨k,o,e,h,by rw[size_setCell];exact l,by rw[Ol _ _ _ _ (λe=>h (congrArg Addr.block e).symm)];exact m⟩
 have c:=Kz x;have i:Xk rb (rb+1) w (w.setCell ⟨rb,1,none⟩ (.a ((p:Int)+1))):=(Xk.refl _ _ _).setCell A9 A9 _;clear x;by_cases a0:(n:Int)<1
 .go_enter func19,ntmps19
  go_wp2
  go_ret
  exact⟨0,rfl,NS _,c.o,i⟩
 .by_cases z:bs.length=0
  .have K:((bs.length:Int) == 0)=true:=by simp[z]
   go_enter func19,ntmps19
   go_wp2
   go_ret
   exact⟨0,rfl,NS _,c.o,i⟩
  .have K:((bs.length:Int) == 0)=false:=by simpa using z
   by_cases hk:(p:Int)<bs.length
   .obtain⟨k,o,rfl,h,l,m⟩:=c.o.bytes p A7;obtain⟨y,A⟩:=ai (bs.getD p 0);rw[<-A] at m;have a1:=y.toNat_lt;clear A;go_enter func19,ntmps19
    go_wp2
    go_ret
    refine⟨y.toNat % n, ?_, ?_,c.o,i⟩
    .simp
    .have:=Nat.mod_lt y.toNat (A7:0<n);omega
   .obtain⟨d,q⟩:=ai (p % bs.length);obtain⟨f,r⟩:=ai ((p*7+3) % bs.length);obtain⟨j,s⟩:=ai (p / bs.length);have L:d<bs.length:=by rw[q];exact Nat.mod_lt _ A7
    have M:f<bs.length:=by rw[r];exact Nat.mod_lt _ A7
    have a2:j<=p:=by rw[s];exact Nat.div_le_self _ _
    have e1:(p:Int) % (bs.length:Int)= (d:Int):=by rw[q];omega
    have e2:((p:Int)*7+3) % (bs.length:Int)= (f:Int):=by rw[r];push_cast;rfl
    have e3:(p:Int) / (bs.length:Int)= (j:Int):=by rw[s];push_cast;rfl
    obtain⟨k,o,rfl,h,l,N⟩:=c.o.bytes d L;obtain⟨b',o',B,_,_,O⟩:=c.o.bytes f M;simp only[OE,Po,and_true] at B;obtain⟨rfl,rfl⟩:=B;obtain⟨t,C⟩:∃y,y=bs.getD d 0:=⟨_,rfl⟩;obtain⟨v,D⟩:∃y,y=bs.getD f 0:=⟨_,rfl⟩;rw[<-C] at N;rw[<-D] at O;have a3:=t.toNat_lt;have a4:=v.toNat_lt;clear q r s C D;have i1:(d:Int)<(bs.length:Int):=A7;have i2:(f:Int)<(bs.length:Int):=A7;go_enter func19,ntmps19
    go_wp2
    go_quiet (fail)
    obtain⟨X,E⟩:∃X:Nat,X=t.toNat*131+v.toNat*1117+p*29+j*53:=⟨_,rfl⟩;have F:(t.toNat:Int)*131+ (v.toNat:Int)*1117+ (p:Int)*29+ (j:Int)*53= (X:Int):=by rw[E];push_cast;rfl
    rw[F];have P:X<1099511627776:=A7;obtain⟨Q,R⟩:=Ns X P;obtain⟨Z,G⟩:=ai (X ^^^ X / 64);rw[<-G] at Q R;clear G E F;go_wp2
    go_ret
    refine⟨Z % n, ?_, ?_,c.o.drewN nq,i.drewN nq⟩
    .simp
    .have:=Nat.mod_lt Z (A7:0<n);omega
def BytesAt(w:Pv)(a:Pt)(bs:List UInt8):Prop:=
 ∀i,i<bs.length->∃b o,a=some ⟨b,o,none⟩/\b<w.heap.size/\w.cell? ⟨b,o+i,none⟩=some (.int .u8 ((bs.getD i 0).toNat:Int))
theorem BytesAt.take{w:Pv}{a:Pt}{bs:List UInt8}(h:BytesAt w a bs)(n:Nat):BytesAt w a (bs.take n):=by
 intro i c;obtain⟨b,o,e,d,f⟩:=h i (by simp at c;omega);refine⟨b,o,e,d, ?_⟩;rw[f];have j:i<n:=by simp at c;omega
 simp[List.getD_eq_getElem?_getD,j]
theorem Rd.made{w:Pv}{a:Pt}{bs:List UInt8}(cap:Nat)(h:BytesAt w a bs):
  Rd (w.alloc (.cells #[.slice a bs.length cap,.a 0] 114)) w.heap.size a cap bs 0:=by
 refine⟨aB.made w _ _, ?_, ?_,λi c=>?_⟩
 .rw[World.cell?_alloc_mark];rfl
 .rw[World.cell?_alloc_mark];rfl
 .obtain⟨d,o,e,b,f⟩:=h i c;exact⟨d,o,e,A7,NR b (ah w _).size,by rw[(ah w _).cell b];exact f⟩
def Ng(w w':Pv)(a:Pt)(cap:Nat)(bs:List UInt8)(e:Ending):Prop:=
 ∃rb,e= .returned (.c rb)/\w.heap.size<=rb/\Rd w' rb a cap (bs.take 2000) 0/\K_ w w'
theorem Cu(w:Pv)(a:Pt)(cap:Nat)(bs:List UInt8)(d:BytesAt w a bs)(f:bs.length<=cap)(h:bs.length<=100000000):
  Calls prog 17 #[.slice a bs.length cap] w λe w'=>Ng w w' a cap bs e:=by
 by_cases i:(2000:Int)<bs.length
 .go_enter func17,ntmps17
  go_wp2
  go_ret
  have c:(bs.take 2000).length=2000:=D6;have b:=Rd.made cap (d.take 2000);rw[c] at b;exact⟨w.heap.size,rfl,NQ _,b,ah w _⟩
 .go_enter func17,ntmps17
  go_wp2
  go_ret
  have c:bs.take 2000=bs:=Oy A7;have b:=Rd.made cap d;exact⟨w.heap.size,rfl,NQ _,by rw[c];exact b,ah w _⟩
variable {a : Act} {up : Array Bool} {id n : Nat} {oi : Oper} {w : Pv}
section
variable {P : Program} {ops : Array Oper} {Q : Exit -> Act -> Pv -> Prop} {md : Region.Mode} {S : Pv -> Prop} {z : Nat}
def Qx(P:Program)(md:Region.Mode)(ops:Array Oper)(Q:Exit->Act->Pv->Prop)(S:Pv->Prop)(z:Nat):Nat->Array Bool->Act->Pv->Prop
 | 0,up,a,w=>Region.ready md ops up=[]/\Q .normal a w
 | n+1,up,a,w=>(Region.ready md ops up=[]->Q .normal a w)/\∀k∈Region.ready md ops up,wpOp P ops Q k (λb u=>(k≠z->S u)/\Qx P md ops Q S z n (up.setIfInBounds k true) b u) a w
theorem Qx.any :∀(n:Nat) (up:Array Bool) (a:Act) (w:Pv),Qx P md ops Q S z n up a w->wpAny P md ops Q n up a w
 | 0,_,_,_,h=>h
 | n+1,_,_,_,h=>⟨h.1,λk c=>wpOp_mono (λb u g=>Qx.any n _ b u g.2) (h.2 k c)⟩
theorem Qx.region(b:P.follows .mixedOrders=true)(S:Pv->Prop)(z:Nat)(c:S w.drew)
 (h:S w.drew->Qx P .any ops Q S z ops.size (Array.replicate ops.size false) a w.drew):(Code.region id ops true).wp P Q a w:=
 wp_region_any b (Qx.any _ _ _ _ (h c))
def rM(md:Region.Mode)(ops:Array Oper)(i:Nat)(D:List Nat):Bool:=
 D.all λd=>match ops[d]? with
  | some o=>o.after.toList.any λe=>Region.binds md e && (e.on == i || D.contains e.on)
  | none=>false
theorem Km{i:Nat}{D:List Nat}(j:rM md ops i D=true)(hi:up.getD i true=false)(l:∀d∈D,up.getD d true=false){k:Nat}
 (m:k∈Region.ready md ops up):k∉D:=by
 intro n;obtain⟨_,o,p,q⟩:=mem_ready.1 m;have c:=List.all_eq_true.1 j k n;simp only[p,List.any_eq_true,Array.mem_toList_iff,Bool.and_eq_true,Bool.or_eq_true,beq_iff_eq,List.contains_iff_mem] at c;obtain⟨e,r,s,t⟩:=c;have a:=q e r s;have f:up.getD e.on true=false:=by
  rcases t with h|h
  .rw[h];exact hi
  .exact l _ h
 rcases Nat.lt_or_ge e.on up.size with b|b
 .simp[b] at a f;rw[f] at a;cases a
 .simp[Array.getElem?_eq_none b] at a
theorem Qx.take'{i:Nat}{v:Pw}(hi:ops[i]? =some oi)(y:Region.noSelect ops=true)(K:∀c a w,Q (.panic c) (a.put oi.dst v) w->Q (.panic c) a w)
 {D:List Nat} (L:z∈D) (M:rM md ops i D=true):
  ∀(n:Nat) (up:Array Bool) (a:Act) (w:Pv),(∀j b,ops[j]? =some b->j≠i->up.getD j true=false->(∀e∈b.after,Region.binds md e=true->e.on≠i)->oi.apart ops b=true)->
   (∀d∈D,up.getD d true=false)->i∈Region.ready md ops up->YieldsIf P ops S oi v a->S w->
   Qx P md ops Q S z n (up.setIfInBounds i true) (a.put oi.dst v) w->Qx P md ops Q S z (n+1) up a w:=by
 intro n
 induction n with
 | zero=>
  intro up a w _ _ f q k H;refine⟨λh=>(by rw[h] at f;cases f),λj l=>?_⟩;by_cases e:j=i
  .exact e ▸ q.wpOp hi k ⟨λ_=>k,H⟩
  .have:=ready_mono l e;rw[H.1] at this;cases this
 | succ n ih=>
  intro up a w A B f q k H;refine⟨λh=>(by rw[h] at f;cases f),λj l=>?_⟩;by_cases e:j=i
  .exact e ▸ q.wpOp hi k ⟨λ_=>k,H⟩
  .have r:=(mem_ready.1 f).1;have C:=Km M r B l;have N:j≠z:=λh=>C (h ▸ L)
   obtain⟨E,b,s,O⟩:=mem_ready.1 l;have R:∀e∈b.after,Region.binds md e=true->e.on≠i:=λe T U V=>by
    have m:=O e T U;rw[V] at m;rcases Nat.lt_or_ge i up.size with t|t
    .simp[t] at r m;rw[r] at m;cases m
    .simp[Array.getElem?_eq_none t] at m
   have W:=wpOp_putIf s (A j b s e E R) (λx p=>Region.noSelect_spec y i oi x p hi) (λx p=>Region.noSelect_spec y j b x p s) K q (H.2 j (ready_mono l e));refine wpOp_mono (λp u g=>⟨g.2.1,ih (up.setIfInBounds j true) p u (λF X Y Z G a0=>A F X Y Z ?_ a0) (λd I=>?_) (ready_mono f (Ne.symm e)) g.1 (g.2.1 N) ?_⟩) W
   .by_cases J:j=F
    .exact J ▸ E
    .rw[getD_set_ne true J] at G;exact G
   .rw[getD_set_ne true (λh:j=d=>C (h ▸ I))];exact B d I
   .rw[Array.setIfInBounds_comm _ _ e];exact g.2.2
theorem Qx.take(i:Nat)(D:List Nat){v:Pw}(hi:ops[i]? =some oi)(f:Region.noSelect ops=true)
 (h:Region.free md ops up i=true) (j:(Region.ready md ops up).contains i=true) (b:(D.contains z && rM md ops i D && D.all λd=>!up.getD d true)=true)
 (k:∀c a w,Q (.panic c) (a.put oi.dst v) w->Q (.panic c) a w) (l:YieldsIf P ops S oi v a) (m:S w)
 (p:Qx P md ops Q S z n (up.setIfInBounds i true) (a.put oi.dst v) w):Qx P md ops Q S z (n+1) up a w:=by
 simp only[Bool.and_eq_true,List.contains_iff_mem,List.all_eq_true,Bool.not_eq_true'] at b;exact Qx.take' hi f k b.1.1 b.1.2 n up a w (Region.free_spec hi h) b.2 (by simpa using j) l m p
theorem Qx.next(i:Nat){o:Oper}(d:Region.ready md ops up=[i])(h:ops[i]? =some o)
 (j:∀K:Act->Pv->Prop,Shut (∀b u,(i≠z->S u)->Qx P md ops Q S z n (up.setIfInBounds i true) b u->K b u)->if Region.wanted o (yielded ops a.tmps)=true then Oper.wp P o a w K Q else K (a.put o.dst undef) w):
  Qx P md ops Q S z (n+1) up a w:=by
 refine⟨λe=>(by rw[d] at e;cases e),λk f=>?_⟩;rw[d] at f;obtain rfl:k=i:=by simpa using f
 exact wpOp_step h (λK l=>j K (λb u m p=>l b u ⟨m,p⟩))
theorem Qx.two(i j:Nat){e:Oper}(k:Region.ready md ops up=[i,j])(m:ops[i]? =some oi)(p:ops[j]? =some e)
 (d:∀K:Act->Pv->Prop,Shut (∀b u,(i≠z->S u)->Qx P md ops Q S z n (up.setIfInBounds i true) b u->K b u)->if Region.wanted oi (yielded ops a.tmps)=true then Oper.wp P oi a w K Q else K (a.put oi.dst undef) w)
 (h2:∀K:Act->Pv->Prop,Shut (∀b u,(j≠z->S u)->Qx P md ops Q S z n (up.setIfInBounds j true) b u->K b u)->if Region.wanted e (yielded ops a.tmps)=true then Oper.wp P e a w K Q else K (a.put e.dst undef) w):
  Qx P md ops Q S z (n+1) up a w:=by
 refine⟨λl=>(by rw[k] at l;cases l),λq f=>?_⟩;rw[k] at f;simp only[OL,OM,or_false] at f;rcases f with rfl | rfl
 .exact wpOp_step m (λK h=>d K (λb u d h2=>h b u ⟨d,h2⟩))
 .exact wpOp_step p (λK h=>h2 K (λb u d h2=>h b u ⟨d,h2⟩))
theorem Qx.done(b:Region.ready md ops up=[])(h:Q .normal a w):Qx P md ops Q S z n up a w:=by
 cases n with
 | zero=>exact⟨b,h⟩
 | succ n=>exact⟨λ_=>h,by rw[b];simp⟩
theorem upP :(∀(a:Act) (v:Pw),a.put none v=a)/\(∀(a:Act) (d:Tmp) (v:Pw),a.put (some d) v= {a with tmps:=a.tmps.setIfInBounds d v})/\(∀(l:List Pw) (i:Nat) (a:Pw),l.toArray.setIfInBounds i a= (l.set i a).toArray)/\(∀(x:Pw) (l:List Pw) (a:Pw),(x :: l).set 0 a=a :: l)/\∀(x:Pw) (l:List Pw) (i:Nat) (a:Pw),(x :: l).set (i+1) a=x :: l.set i a:=⟨λ_ _=>rfl,λ_ _ _=>rfl,λ_ _ _=>List.setIfInBounds_toArray ..,λ_ _ _=>rfl,λ_ _ _ _=>rfl⟩
def Zq(md:Region.Mode)(ops:Array Oper)(i:Nat):List Nat:=
 (List.range ops.size).foldl (λD d=>match ops[d]? with
  | some o=>if (o.after.toList.any λe=>Region.binds md e && (e.on == i || D.contains e.on))=true then D++ [d] else D
  | none=>D) []
theorem ae(i:Nat){v:Pw}{b:Act}(e:S w)
 (h:Qx P md ops Q S z n (up.setIfInBounds i true) b w) (hi:ops[i]? =some oi:=by (simp only[List.getElem?_toArray];rfl)) (f:∀u,S u->(execOp a.eval oi).run P u= .ok (.value v) u:=by (intro u hu;(try dsimp only at hu);go_simp;(try with_reducible rfl)))
 (j:a.put oi.dst v=b:=by (first | (simp only[upP];exact rfl) | simp only[upP] | exact rfl)) (k:Region.noSelect ops=true:=by kernel_rfl)
 (l:Region.free md ops up i=true:=by kernel_rfl) (m:(Region.ready md ops up).contains i=true:=by kernel_rfl) (p:((Zq md ops i).contains z && rM md ops i (Zq md ops i) && (Zq md ops i).all λd=>!up.getD d true)=true:=by kernel_rfl)
 (q:∀c a w,Q (.panic c) (a.put oi.dst v) w->Q (.panic c) a w:=by (first | exact λ_ _ _ h=>h | exact λ_ _ _ h=>nomatch h.1)) (r:Region.wanted oi (yielded ops a.tmps)=true:=by rfl):Qx P md ops Q S z (n+1) up a w:=
 Qx.take i _ hi k l m p q (Or.inl ⟨r,f⟩) e (by rw[j];exact h)
theorem aD(i:Nat){b:Act}(e:S w)
 (h:Qx P md ops Q S z n (up.setIfInBounds i true) b w) (hi:ops[i]? =some oi:=by (simp only[Pp];rfl))
 (f:a.put oi.dst undef=b:=by (first | (simp only[upP];exact rfl) | simp only[upP] | exact rfl)) (j:Region.noSelect ops=true:=by kernel_rfl)
 (k:Region.free md ops up i=true:=by kernel_rfl) (l:(Region.ready md ops up).contains i=true:=by kernel_rfl) (m:((Zq md ops i).contains z && rM md ops i (Zq md ops i) && (Zq md ops i).all λd=>!up.getD d true)=true:=by kernel_rfl)
 (p:∀c a w,Q (.panic c) (a.put oi.dst undef) w->Q (.panic c) a w:=by (first | exact λ_ _ _ h=>h | exact λ_ _ _ h=>nomatch h.1)) (q:Region.wanted oi (yielded ops a.tmps)=false:=by rfl):Qx P md ops Q S z (n+1) up a w:=
 Qx.take i _ hi j k l m p (Or.inr ⟨q,rfl⟩) e (by rw[f];exact h)
theorem aj(i:Nat){o:Oper} 
 (h:∀K:Act->Pv->Prop,Shut (∀b u,(i≠z->S u)->Qx P md ops Q S z n (up.setIfInBounds i true) b u->K b u)->if Region.wanted o (yielded ops a.tmps)=true then Oper.wp P o a w K Q else K (a.put o.dst undef) w)
 (d:Region.ready md ops up=[i]:=by kernel_rfl) (e:ops[i]? =some o:=by (simp only[Pp];rfl)):Qx P md ops Q S z (n+1) up a w:=Qx.next i d e h
theorem aF(i:Nat){o:Oper} 
 (h:∀K:Act->Pv->Prop,Shut (∀b u,(i≠z->S u)->Qx P md ops Q S z n (up.setIfInBounds i true) b u->K b u)->Oper.wp P o a w K Q)
 (c:Region.ready md ops up=[i]:=by kernel_rfl) (d:ops[i]? =some o:=by (simp only[Pp];rfl)) (e:Region.wanted o (yielded ops a.tmps)=true:=by rfl):Qx P md ops Q S z (n+1) up a w:=Qx.next i c d λK f=>by rw[Pe e];exact h K f
theorem iy(i j:Nat){c:Oper} 
 (d:∀K:Act->Pv->Prop,Shut (∀b u,(i≠z->S u)->Qx P md ops Q S z n (up.setIfInBounds i true) b u->K b u)->if Region.wanted oi (yielded ops a.tmps)=true then Oper.wp P oi a w K Q else K (a.put oi.dst undef) w)
 (h2:∀K:Act->Pv->Prop,Shut (∀b u,(j≠z->S u)->Qx P md ops Q S z n (up.setIfInBounds j true) b u->K b u)->if Region.wanted c (yielded ops a.tmps)=true then Oper.wp P c a w K Q else K (a.put c.dst undef) w)
 (e:Region.ready md ops up=[i,j]:=by kernel_rfl) (f:ops[i]? =some oi:=by (simp only[Pp];rfl)) (h:ops[j]? =some c:=by (simp only[Pp];rfl)):Qx P md ops Q S z (n+1) up a w:=Qx.two i j e f h d h2
theorem bn(z:Nat)(b:∀u,K_ w u->S u)(h:∀wd,K_ w wd->S wd->Qx P .any ops Q S z ops.size (Array.replicate ops.size false) a wd)(d:P.follows .mixedOrders=true:=by kernel_rfl):(Code.region id ops true).wp P Q a w:=
 Qx.region d S z (b _ (bD w)) λe=>h _ (bD w) e
theorem Cc(z:Nat){R:Pv->Prop}(b:∀u,R u->S u)(c:R w.drew)(h:∀wd,K_ w wd->S wd->Qx P .any ops Q S z ops.size (Array.replicate ops.size false) a wd)(e:P.follows .mixedOrders=true:=by kernel_rfl):(Code.region id ops true).wp P Q a w:=
 Qx.region e S z (b _ c) λf=>h _ (bD w) f
theorem wG(z:Nat){R:Pv->Prop}(b:∀u,R u->S u)(c:R w.drew)(h:S w.drew->Qx P .any ops Q S z ops.size (Array.replicate ops.size false) a w.drew)(e:P.follows .mixedOrders=true:=by kernel_rfl):(Code.region id ops true).wp P Q a w:=
 Qx.region e S z (b _ c) h
theorem af{i:Nat}{K:Act->Pv->Prop}(a:Shut (∀b u,(i≠z->S u)->Qx P md ops Q S z n up b u->K b u)){b c:Act}{u:Pv}(d:i≠z->S u)(h:Qx P md ops Q S z n up c u)(e:b=c:=by (first | (simp only[upP];exact rfl) | simp only[upP] | exact rfl)):K b u:=by rw[e];exact a.out _ _ d h
theorem cB(i:Nat)(v:Pw){b:Act}(e:S w)(f:∀u,S u->(execOp a.eval oi).run P u= .ok (.value v) u)
 (h:Qx P md ops Q S z n (up.setIfInBounds i true) b w) (hi:ops[i]? =some oi:=by (simp only[Pp];rfl)) 
 (j:a.put oi.dst v=b:=by (first | (simp only[upP];exact rfl) | simp only[upP] | exact rfl)) (k:Region.noSelect ops=true:=by kernel_rfl)
 (l:Region.free md ops up i=true:=by kernel_rfl) (m:(Region.ready md ops up).contains i=true:=by kernel_rfl) (p:((Zq md ops i).contains z && rM md ops i (Zq md ops i) && (Zq md ops i).all λd=>!up.getD d true)=true:=by kernel_rfl)
 (q:∀c a w,Q (.panic c) (a.put oi.dst v) w->Q (.panic c) a w:=by (first | exact λ_ _ _ h=>h | exact λ_ _ _ h=>nomatch h.1)) (r:Region.wanted oi (yielded ops a.tmps)=true:=by rfl):Qx P md ops Q S z (n+1) up a w:=
 Qx.take i _ hi k l m p q (Or.inl ⟨r,f⟩) e (by rw[j];exact h)
theorem aG(h:Q .normal a w)(c:Region.ready md ops up=[]:=by kernel_rfl):Qx P md ops Q S z n up a w:=Qx.done c h
theorem ax(i:Nat){v0 v1 v2 v3:Pw}{b e f j:Oper}{k l m r:Act}(p:S w)
 (h:Qx P md ops Q S z n ((((up.setIfInBounds i true).setIfInBounds (i+1) true).setIfInBounds (i+2) true).setIfInBounds (i+3) true) r w)
 (s:ops[i]? =some b:=by (simp only[List.getElem?_toArray];rfl)) (t:Region.wanted b (yielded ops a.tmps)=true:=by rfl) (v:∀u,S u->(execOp a.eval b).run P u= .ok (.value v0) u:=by (intro u hu;(try dsimp only at hu);go_simp;(try with_reducible rfl))) (x:a.put b.dst v0=k:=by (first | (simp only[upP];exact rfl) | simp only[upP] | exact rfl))
 (y:Region.free md ops up i=true:=by kernel_rfl) (A:(Region.ready md ops up).contains i=true:=by kernel_rfl) (B:((Zq md ops i).contains z && rM md ops i (Zq md ops i) && (Zq md ops i).all λd=>!up.getD d true)=true:=by kernel_rfl) (C:∀c a w,Q (.panic c) (a.put b.dst v0) w->Q (.panic c) a w:=by (first | exact λ_ _ _ h=>h | exact λ_ _ _ h=>nomatch h.1))
 (D:ops[i+1]? =some e:=by (simp only[List.getElem?_toArray];rfl)) (E:Region.wanted e (yielded ops k.tmps)=true:=by rfl) (F:∀u,S u->(execOp k.eval e).run P u= .ok (.value v1) u:=by (intro u hu;(try dsimp only at hu);go_simp;(try with_reducible rfl))) (G:k.put e.dst v1=l:=by (first | (simp only[upP];exact rfl) | simp only[upP] | exact rfl))
 (H:Region.free md ops (up.setIfInBounds i true) (i+1)=true:=by kernel_rfl) (I:(Region.ready md ops (up.setIfInBounds i true)).contains (i+1)=true:=by kernel_rfl) (J:((Zq md ops (i+1)).contains z && rM md ops (i+1) (Zq md ops (i+1)) && (Zq md ops (i+1)).all λd=>!(up.setIfInBounds i true).getD d true)=true:=by kernel_rfl) (K:∀c a w,Q (.panic c) (a.put e.dst v1) w->Q (.panic c) a w:=by (first | exact λ_ _ _ h=>h | exact λ_ _ _ h=>nomatch h.1))
 (L:ops[i+2]? =some f:=by (simp only[List.getElem?_toArray];rfl)) (M:Region.wanted f (yielded ops l.tmps)=true:=by rfl) (N:∀u,S u->(execOp l.eval f).run P u= .ok (.value v2) u:=by (intro u hu;(try dsimp only at hu);go_simp;(try with_reducible rfl))) (O:l.put f.dst v2=m:=by (first | (simp only[upP];exact rfl) | simp only[upP] | exact rfl))
 (R:Region.free md ops ((up.setIfInBounds i true).setIfInBounds (i+1) true) (i+2)=true:=by kernel_rfl) (T:(Region.ready md ops ((up.setIfInBounds i true).setIfInBounds (i+1) true)).contains (i+2)=true:=by kernel_rfl) (U:((Zq md ops (i+2)).contains z && rM md ops (i+2) (Zq md ops (i+2)) && (Zq md ops (i+2)).all λd=>!((up.setIfInBounds i true).setIfInBounds (i+1) true).getD d true)=true:=by kernel_rfl) (V:∀c a w,Q (.panic c) (a.put f.dst v2) w->Q (.panic c) a w:=by (first | exact λ_ _ _ h=>h | exact λ_ _ _ h=>nomatch h.1))
 (W:ops[i+3]? =some j:=by (simp only[List.getElem?_toArray];rfl)) (X:Region.wanted j (yielded ops m.tmps)=true:=by rfl) (Y:∀u,S u->(execOp m.eval j).run P u= .ok (.value v3) u:=by (intro u hu;(try dsimp only at hu);go_simp;(try with_reducible rfl))) (Z:m.put j.dst v3=r:=by (first | (simp only[upP];exact rfl) | simp only[upP] | exact rfl))
 (a0:Region.free md ops (((up.setIfInBounds i true).setIfInBounds (i+1) true).setIfInBounds (i+2) true) (i+3)=true:=by kernel_rfl) (a1:(Region.ready md ops (((up.setIfInBounds i true).setIfInBounds (i+1) true).setIfInBounds (i+2) true)).contains (i+3)=true:=by kernel_rfl) (a2:((Zq md ops (i+3)).contains z && rM md ops (i+3) (Zq md ops (i+3)) && (Zq md ops (i+3)).all λd=>!(((up.setIfInBounds i true).setIfInBounds (i+1) true).setIfInBounds (i+2) true).getD d true)=true:=by kernel_rfl) (a3:∀c a w,Q (.panic c) (a.put j.dst v3) w->Q (.panic c) a w:=by (first | exact λ_ _ _ h=>h | exact λ_ _ _ h=>nomatch h.1))
 (q:Region.noSelect ops=true:=by kernel_rfl):Qx P md ops Q S z (n+4) up a w:=
 Qx.take i _ s q y A B C (Or.inl ⟨t,v⟩) p (by rw[x];exact (Qx.take (i+1) _ D q H I J K (Or.inl ⟨E,F⟩) p (by rw[G];exact (Qx.take (i+2) _ L q R T U V (Or.inl ⟨M,N⟩) p (by rw[O];exact (Qx.take (i+3) _ W q a0 a1 a2 a3 (Or.inl ⟨X,Y⟩) p (by rw[Z];exact h)))))))
end
def CU(w w':Pv)(e:Ending):Prop:=
 ∃s:Ps,e= .returned (.string s)/\s.size<=2/\K_ w w'
def lm(i:Nat):Ps:=⟨#[UInt8.ofNat (97+i)]⟩
theorem Fg{i j:Nat}(hi:i<26)(e:j<26)(h:lm i=lm j):i=j:=by
 have b:UInt8.ofNat (97+i)=UInt8.ofNat (97+j):=by
  have:=congrArg (λx:Ps=>x.data.toList) h;simpa[lm] using this
 have d:=congrArg UInt8.toNat b;simp only[UInt8.toNat_ofNat'] at d;omega
theorem Hq :∀q,q<26->((⟨#[97,98,99,100,101,102,103,104,105,106,107,108,109,110,111,112,113,114,115,116,117,118,119,120,121,122]⟩:Ps).extract q 26).extract 0 1=lm q:=A8
theorem xn(w:Pv)(i:Nat)(hi:i<=100000):
  Calls prog 111 #[.a (i:Int)] w λe w'=>∃s:Ps,e= .returned (.string s)/\s.size<=2/\(i<26->s=lm i)/\K_ w w':=by
 obtain⟨q,n⟩:=ai (i % 26);obtain⟨d,p⟩:∃q,q=i / 26 % 3:=⟨_,rfl⟩;obtain⟨j,r⟩:=ai (i / 26);have C:(i:Int).tmod 26= (q:Int):=by rw[Int.tmod_eq_emod_of_nonneg A7];omega
 have D:(i:Int).tdiv 26= (j:Int):=by rw[Int.tdiv_eq_ediv_of_nonneg A7];omega
 have E:(j:Int).tmod 3= (d:Int):=by rw[Int.tmod_eq_emod_of_nonneg A7];omega
 have t:q<26:=A7;have F:d<3:=A7;have G:IntKind.i64.wrap (j:Int)= (j:Int):=E8;have v:Hid (i<26->d=0/\q=i):=λk=>A7
 clear n p r;obtain⟨b,H,x,l⟩:∃b:Ps,(∀w:Pv,(Instr.slice 9 (.string ⟨#[97,98,99,100,101,102,103,104,105,106,107,108,109,110,111,112,113,114,115,116,117,118,119,120,121,122]⟩) (some (.a (q:Int))) none none).run prog w= .ok (.string b) w)/\(1:Int)<=b.size/\b= (⟨#[97,98,99,100,101,102,103,104,105,106,107,108,109,110,111,112,113,114,115,116,117,118,119,120,121,122]⟩:Ps).extract q 26:=
  ⟨_,λw=>run_slice_string_l w 9 ⟨#[97,98,99,100,101,102,103,104,105,106,107,108,109,110,111,112,113,114,115,116,117,118,119,120,121,122]⟩ underlying9 .i64 (q:Int) A7 (by show (q:Int)<=((26:Nat):Int);omega),by
   rw[ByteArray.size_extract];show (1:Int)<=((min 26 26-(q:Int).toNat:Nat):Int);omega,rfl⟩
 obtain⟨h,I,y,m⟩:∃h:Ps,(∀w:Pv,(Instr.slice 9 (.string b) none (some (.a 1)) none).run prog w= .ok (.string h) w)/\h.size=1/\h=b.extract 0 1:=
  ⟨_,λw=>run_slice_string_h w 9 b underlying9 .i64 1 A7 x,by
   rw[ByteArray.size_extract];show min 1 b.size-0=1;omega,rfl⟩
 have z:Hid (h=lm q):=by rw[m,l];exact Hq q t
 clear l m;go_enter func111,ntmps111
 go_wp2
 refine Qx.region C9 (λw'=>K_ w w') 11 (bD w) (λf=>?_);refine ae 0 f ?_;refine cB 1 (.a (q:Int)) f ?_ ?_
 .intro u c;try dsimp only at c
  go_simp
  try with_reducible rfl
 try simp only[upP]
 refine cB 2 (.string b) f ?_ ?_
 .intro u c;try dsimp only at c
  go_simp
  try with_reducible rfl
 try simp only[upP]
 refine cB 3 (.string h) f ?_ ?_
 .intro u c;try dsimp only at c
  go_simp
  try with_reducible rfl
 try simp only[upP]
 refine ae 5 f ?_;refine cB 6 (.a (j:Int)) f ?_ ?_
 .intro u c;try dsimp only at c
  go_simp
  try with_reducible rfl
 try simp only[upP]
 refine cB 7 (.a (d:Int)) f ?_ ?_
 .intro u c;try dsimp only at c
  go_simp
  try with_reducible rfl
 try simp only[upP]
 refine aF 4 (λK a=>?_);go_simp
 refine af a (λ_=>H6) ?_;clear a K;have A:d=0\/d=1\/d=2:=A7;obtain rfl|rfl|rfl:=A
 all_goals
  refine aF 8 (λK a=>?_);go_simp
  refine af a (λ_=>H6) ?_;clear a K;refine aF 9 (λK a=>?_);go_simp
  refine af a (λ_=>H6) ?_;clear a K;refine aF 10 (λK a=>?_);go_simp
  refine af a (λ_=>H6) ?_;clear a K;refine aj 11 (λK a=>?_);go_simp
  refine af a (λk=>Pg rfl k) ?_;clear a K;refine aG ?_;go_wp2
  go_ret
  exact⟨_,rfl,by rw[ByteArray.size_append,y];decide,λk=>(by
   obtain⟨J,B⟩:=v.o k
   first
    | (exfalso;omega)
    | (rw[z.o,B];exact ByteArray.ext (by simp[lm]))),(ah w _).drew⟩
theorem nC(w:Pv)(i:Nat)(hi:i<=100000):
  Calls prog 111 #[.a (i:Int)] w λe w'=>CU w w' e:=
 (xn w i hi).mono λ_ _ ⟨s,b,c,_,d⟩=>⟨s,b,c,d⟩
variable {bs : List UInt8} {cap p rb : Nat} {a : Pt} {w w' : Pv}
theorem Rd.kept(h:Rd w rb a cap bs p)(k:K_ w w'):Rd w' rb a cap bs p:=by
 refine⟨h.row.kept k,by rw[k.cell h.row.lt];exact h.c0,by rw[k.cell h.row.lt];exact h.c1,λi d=>?_⟩;obtain⟨b,o,e,f,c,j⟩:=h.bytes i d;exact⟨b,o,e,f,NR c k.size,by rw[k.cell c];exact j⟩
def Ml(w w':Pv)(rb:Nat)(a:Pt)(cap:Nat)(bs:List UInt8)(p t m:Nat)(e:Ending):Prop:=
 ∃(s:Ps) (p':Nat),e= .returned (.string s)/\s.size<=m/\p<=p'/\p'<=p+t/\Rd w' rb a cap bs p'/\Xk rb (rb+1) w w'
theorem aM(w:Pv)(rb:Nat)(a:Pt)(cap:Nat)(bs:List UInt8)(p:Nat)(m:Int)(n:Nat)(b:m= (n:Int))(c:Rd w rb a cap bs p)(d:p<=1000000)(f:n<=100000)(h:bs.length<=2000):
  Calls prog 19 #[.c rb,.a m] w λe w'=>KM w w' rb a cap bs p n e:=by
 rw[b];exact pq w rb a cap bs p n c d f h
theorem Xk.gp{lo hi:Nat}{a b c:Pv}(h:Xk lo hi a b)(k:K_ b c):Xk lo hi a c:=h.trans (.au k)
theorem LC(w:Pv)(rb:Nat)(a:Pt)(cap:Nat)(bs:List UInt8)(p i n:Nat)(y:Rd w rb a cap bs p)(O:p<=900000)(hi:i<=100000)(z:n<=100000)(A:bs.length<=2000):
  Calls prog 190 #[.c rb,.a (i:Int),.a (n:Int)] w λe w'=>Ml w w' rb a cap bs p 2 4 e:=by
 go_enter func190,ntmps190
 go_wp2_with fail
 refine (aM _ rb a cap bs p _ 12 rfl y A7 A7 A).mono ?_;rintro e J ⟨v,rfl,l,B,C⟩;have⟨D,E⟩:=aH B C;clear B C y;by_cases k:v=0
 .have K:((v:Int) == 0)=true:=by simp[k]
  clear l;go_wp2
  go_ret
  exact⟨_,p+1,rfl,A8,A7,A7,D.o,E.o⟩
 .have K:((v:Int) == 0)=false:=by simpa using k
  have F:∀m:Nat,m<=100000->Calls prog 19 #[.c rb,.a (m:Int)] J λe w'=>∃q:Nat,e= .returned (.a (q:Int))/\q<=100000/\Rd w' rb a cap bs (p+2)/\Xk rb (rb+1) w w':=by
   intro m L;refine (pq _ rb a cap bs (p+1) m D.o A7 L A).mono ?_;rintro e r ⟨q,rfl,f,b,c⟩;exact⟨q,rfl,A7,b,E.o.trans c⟩
  have t:=Kz F;clear F;by_cases x:v=1
  .have M:((v:Int) == 1)=true:=by simp[x]
   clear l k x;go_wp2_with fail
   refine (t.o n z).mono ?_;rintro e r ⟨q,rfl,f,b,c⟩;have⟨h,j⟩:=aH b c;clear b c;go_wp2_with fail
   refine (nC _ q f).mono ?_;rintro e G ⟨s,rfl,H,d⟩;go_wp2
   go_ret
   exact⟨s,p+2,rfl,A7,A7,A7,h.o.kept d,j.o.gp d⟩
  .have M:((v:Int) == 1)=false:=D6;clear l k x;by_cases I:i=0
   .have N:((i:Int) == 0)=true:=by simp[I]
    go_wp2_with fail
    refine (t.o n z).mono ?_;rintro e r ⟨q,rfl,f,b,c⟩;have⟨h,j⟩:=aH b c;clear b c;go_wp2_with fail
    refine (nC _ q f).mono ?_;rintro e G ⟨s,rfl,H,d⟩;go_wp2
    go_ret
    exact⟨s,p+2,rfl,A7,A7,A7,h.o.kept d,j.o.gp d⟩
   .have N:((i:Int) == 0)=false:=by simpa using I
    go_wp2_with fail
    refine (t.o i hi).mono ?_;rintro e r ⟨q,rfl,f,b,c⟩;have⟨h,j⟩:=aH b c;clear b c;go_wp2_with fail
    refine (nC _ q f).mono ?_;rintro e G ⟨s,rfl,H,d⟩;go_wp2
    go_ret
    exact⟨s,p+2,rfl,A7,A7,A7,h.o.kept d,j.o.gp d⟩
theorem Dz(w:Pv)(s:Ps)(n:Nat)(x:n<=1000)(z:s.size<=100):
  Calls prog 163 #[.string s,.a (n:Int)] w λe w'=>(∃t:Ps,e= .returned (.string t)/\t.size<=n*s.size)/\w'=w:=by
 obtain⟨B,c⟩:=ai (n*s.size);have F:B<=100000:=by rw[c];exact NT (Nat.mul_le_mul x z) A7
 rw[<-c];have l:=Kz c;clear c;go_enter func163,ntmps163
 go_wp2
 go_loop [0,1,5] (λA y C=>∃(a o:Ps) (m:Nat),A= .string a/\y= .a (m:Int)/\C= .string o/\m<=n/\o.size+m*a.size<=B/\(m=0\/a.size<=B)) (λ_ y _=>(intOf y).toNat)
 case atStart=>
  refine⟨s,_,n,rfl,rfl,rfl,NQ _, ?_, ?_⟩
  .have:=l.o;show 0+n*s.size<=B;omega
  .by_cases f:n=0
   .exact .inl f
   .refine .inr ?_;rw[l.o];exact Nat.le_mul_of_pos_left _ A7
 case round=>
  obtain⟨a,o,m,rfl,rfl,rfl,G,h,i⟩:=hrel;by_cases p:m=0
  .have D:¬(0:Int)<(m:Int):=A7;have r:o.size<=B:=A7;clear h i;go_wp2
   go_ret
   exact⟨⟨o,rfl,r⟩,rfl⟩
  .have D:(0:Int)<(m:Int):=A7;have H:a.size<=B:=A7;have r:o.size<=B:=A7;obtain⟨q,v⟩:=ai (m / 2);have I:(m:Int) / 2= (q:Int):=A7;have J:q<m:=A7;have d:q=0\/(a++a).size<=B:=by
    rw[ByteArray.size_append];by_cases f:q=0
    .exact .inl f
    .have:2*a.size<=m*a.size:=Nat.mul_le_mul_right _ A7;omega
   by_cases K:m % 2=1
   .have E:(m:Int) % 2=1:=A7;have b:(o++a).size+q*(a++a).size<=B:=by
     rw[ByteArray.size_append,ByteArray.size_append];have:m*a.size=q*(a.size+a.size)+a.size:=by
      rw[show m=q+q+1 by omega,Nat.add_mul,Nat.add_mul,Nat.mul_add];omega
     omega
    have⟨j,k⟩:=aH b d;clear b d h i v p;go_wp2
    go_round
    case rel=>exact⟨a++a,o++a,q,rfl,C8,rfl,A7,j.o,k.o⟩
    case measure=>simp[intOf];omega
   .have E:(m:Int) % 2=0:=A7;have b:o.size+q*(a++a).size<=B:=by
     rw[ByteArray.size_append];have:m*a.size=q*(a.size+a.size):=by
      rw[show m=q+q by omega,Nat.add_mul,Nat.mul_add]
     omega
    have⟨j,k⟩:=aH b d;clear b d h i v p;go_wp2
    go_round
    case rel=>exact⟨a++a,o,q,rfl,C8,rfl,A7,j.o,k.o⟩
    case measure=>simp[intOf];omega
def MN(w w':Pv)(m:Nat)(e:Ending):Prop:=∃s:Ps,e= .returned (.string s)/\s.size<=m/\K_ w w'
theorem uE(w:Pv)(n:Nat)(b:n<10):Calls prog 191 #[.a (n:Int)] w λe w'=>MN w w' 1 e:=by
 have c:(n:Int)<10:=A7;have d:(convert 22 9 (.b w.heap.size 1 1)).run prog (w.alloc (.cells #[.int .u8 (48+ (n:Int))] 5))= .ok (.string (strOfNums [48+ (n:Int)])) (w.alloc (.cells #[.int .u8 (48+ (n:Int))] 5)):=
  run_convert_bytes_arg (P:=prog) _ 22 5 underlying22 underlying5 w.heap.size 0 1 1 [48+ (n:Int)] rfl (λi f=>by
   obtain rfl:i=0:=A7;rw[World.cell?_alloc_mark];rfl) 9 underlying9
 go_enter func191,ntmps191
 go_wp2
 go_ret
 exact⟨_,rfl,by rw[strOfNums_size];exact NQ 1,ah w _⟩
theorem JX(w:Pv)(rb:Nat)(a:Pt)(cap:Nat)(bs:List UInt8)(p:Nat)(C:Rd w rb a cap bs p)(R:p<=900000)(D:bs.length<=2000):
  Calls prog 192 #[.c rb] w λe w'=>Ml w w' rb a cap bs p 2 31 e:=by
 go_enter func192,ntmps192
 go_wp2_with fail
 refine (aM _ rb a cap bs p _ 10 rfl C A7 A7 D).mono ?_;rintro e J ⟨v,rfl,d,E,F⟩;have⟨r,s⟩:=aH E F;clear E F C;have G:∀(m:Int) (n:Nat),m= (n:Int)->n<=100000->Calls prog 19 #[.c rb,.a m] J λe w'=>∃q:Nat,e= .returned (.a (q:Int))/\q<=n-1/\Rd w' rb a cap bs (p+2)/\Xk rb (rb+1) w w':=by
  intro m n t K;refine (aM _ rb a cap bs (p+1) m n t r.o A7 K D).mono ?_;rintro e x ⟨q,rfl,y,b,c⟩;exact⟨q,rfl,A7,b,s.o.trans c⟩
 have z:=Kz G;clear G;by_cases f:v=0
 .have L:((v:Int) == 0)=true:=by simp[f]
  clear d;go_wp2
  go_ret
  exact⟨_,p+1,rfl,A8,A7,A7,r.o,s.o⟩
 have L:((v:Int) == 0)=false:=by simpa using f
 by_cases k:v=1
 .have M:((v:Int) == 1)=true:=by simp[k]
  clear d;go_wp2
  go_ret
  exact⟨_,p+1,rfl,A8,A7,A7,r.o,s.o⟩
 have M:((v:Int) == 1)=false:=D6;by_cases l:v=3
 .have N:((v:Int) == 3)=true:=by simp[l]
  clear d f k l;go_wp2_with fail
  refine (z.o _ 6 rfl A7).mono ?_;rintro e x ⟨q,rfl,y,b,c⟩;have⟨h,i⟩:=aH b c;clear b c;go_wp2_with fail
  refine (nC _ q A7).mono ?_;rintro e H ⟨A,rfl,O,j⟩;go_wp2
  go_ret
  exact⟨_,p+2,rfl,by rw[ByteArray.size_append];show 6+A.size<=31;omega,A7,A7,h.o.kept j,i.o.gp j⟩
 have N:((v:Int) == 3)=false:=D6;by_cases B:v=2
 .have P:((v:Int) == 2)=true:=by simp[B]
  clear d f k B l;go_wp2_with fail
  refine (z.o _ 2 rfl A7).mono ?_;rintro e x ⟨q,rfl,y,b,c⟩;have⟨h,i⟩:=aH b c;clear b c;obtain⟨m,t⟩:∃m:Nat,m=30-q:=⟨_,rfl⟩;have S:30-(q:Int)= (m:Int):=A7;have T:m<=30:=A7;clear t;go_wp2_with fail
  refine (Dz _ ⟨#[103]⟩ m A7 A8).mono ?_;rintro e H ⟨⟨Q,rfl,I⟩,rfl⟩;have U:Q.size<=30:=by
   have:(⟨#[103]⟩:Ps).size=1:=rfl;rw[this] at I;omega
  clear I;go_wp2
  go_ret
  exact⟨_,p+2,rfl,A7,A7,A7,h.o,i.o⟩
 have P:((v:Int) == 2)=false:=D6;clear d f k B l;go_wp2_with fail
 refine (z.o _ 3 rfl A7).mono ?_;rintro e x ⟨q,rfl,y,b,c⟩;have⟨h,i⟩:=aH b c;clear b c;go_wp2_with fail
 refine (uE _ q A7).mono ?_;rintro e H ⟨A,rfl,O,j⟩;go_wp2
 go_ret
 exact⟨_,p+2,rfl,by rw[ByteArray.size_append];show 1+A.size<=31;omega,A7,A7,h.o.kept j,i.o.gp j⟩
theorem Tryz.gM :(prog.info? 9).map (λi=>(i.zero,i.size,i.bytes))=some (some (.string ByteArray.empty),1,16):=C9
theorem Tryz.qW :(prog.info? 231).map (λi=>(i.zero,i.size,i.bytes))=some (some (.agg #[.string ByteArray.empty,.a 0]),2,24):=C9
theorem Tryz.kR :(prog.info? 176).map (λi=>(i.zero,i.size,i.bytes))=some (some (.agg #[J3,.a 0,J3,.a 0,.a 0,.bool false,.bool false,.string ByteArray.empty]),8,96):=C9
theorem Tryz.iM :(prog.info? 73).map (·.size)=some 2:=C9
theorem aS{P:Program}{e:TypeId}{z:Pw}{size b:Nat}(h:(P.info? e).map (λi=>(i.zero,i.size,i.bytes))=some (some z,size,b)):∃i,P.info? e=some i/\i.zero=some z/\i.size=size/\i.bytes=b:=by
 obtain⟨i,d,a⟩:=Option.map_eq_some_iff.1 h;simp only[Prod.mk.injEq] at a;exact⟨i,d,a.1,a.2.1,a.2.2⟩
theorem xJ(l:List Ps):∀u∈l.map Value.string,u.oneCell'=true:=by
 intro u a;obtain⟨x,_,rfl⟩:=Oq.1 a
 rfl
variable {base n : Nat} {t : TypeId} {v : Pw}
theorem di{l:List Ps}(h:w.ownsRow base t 1 v n (l.map Value.string)):∃a cap,v= .slice a l.length cap/\l.length<=cap/\fA w t a l:=by
 have c:n=l.length:=by have:=h.1;simp at this;omega
 subst c;rcases h.2 with⟨rfl,b⟩|⟨g,cap,d,rfl,k,e,f,_,_,_⟩
 .exact⟨none,0,by rw[b],A7,.inl (Pj b)⟩
 .refine⟨_,cap,rfl,f,.inr ⟨g,d,_,rfl,e,λi j=>?_⟩⟩;have:=h.cells (g:=g) rfl i (.string (l.getD i ByteArray.empty)) (by simp[List.getD,j]);rw[OI,Ow] at this;exact this
def bA(l:List bS):List Pw:=(l.map bS.cells).flatten
theorem iO(l:List bS):(bA l).length=l.length*2:=by
 induction l with
 | nil=>rfl
 | cons c r ih=>simp only[bA,List.map_cons,List.flatten_cons,OD,OH] at ih⊢;rw[ih];simp[bS.cells];omega
theorem vR(l:List bS)(c:bS):bA (l++ [c])=bA l++c.cells:=by simp[bA]
theorem xH(l:List bS):∀u∈bA l,u.oneCell'=true:=by
 intro u a;simp only[bA,List.mem_flatten,Oq] at a;obtain⟨_,⟨c,_,rfl⟩,a⟩:=a;simp only[bS.cells,OL,OM,or_false] at a;rcases a with rfl | rfl <;> rfl
theorem lJ :∀(l:List bS) (i j:Nat),i<l.length->j<2->(bA l)[i*2+j]? = ((l.getD i bS.zero).cells)[j]?
 | [],_,_,h,_=>aT h
 | c :: r,0,j,_,hj=>by
  have e:bA (c :: r)=c.cells++bA r:=rfl;rw[e,Nat.zero_mul,Ow,OU (by simpa[bS.cells] using hj)]
  rfl
 | c :: r,i+1,j,h,hj=>by
  have e:bA (c :: r)=c.cells++bA r:=rfl;have b:c.cells.length=2:=rfl;rw[e,OV (by rw[b];omega),b,show (i+1)*2+j-2=i*2+j by omega,lJ r i j (by simpa using h) hj]
  rfl
theorem lX{l:List bS}(h:w.ownsRow base t 2 v n (bA l)):∃a cap,v= .slice a l.length cap/\qp w t a l:=by
 have d:n=l.length:=by have:=h.1;rw[iO] at this;omega
 subst d;rcases h.2 with⟨rfl,b⟩|⟨g,cap,e,rfl,p,f,q,_,_,_⟩
 .exact⟨none,0,by rw[b],.inl (Pj b)⟩
 .refine⟨_,cap,rfl,.inr ⟨g,e,_,rfl,f,λi k j u c=>?_⟩⟩;have m:j<2:=by have:=(NW.1 c).1;simpa[bS.cells] using this
  have:=h.cells (g:=g) rfl (i*2+j) u (by rw[lJ l i j k m];exact c);rw[OI,Ow] at this;exact this
theorem jm(s:Xj)(a:Pt)(b:Nat)(c:Pt)(d:Nat):∀u∈s.cells a b c d,u.oneCell'=true:=by
 intro u e;have:=Xj.one s a b c d;rw[Array.all_eq_true_iff_forall_mem] at this;exact this u (by simpa using e)
theorem Xk.sameKind(h:Xk rb (rb+1) w w')(d:Rd w rb a cap bs p):aC 114 w w':=by
 intro c i u j e b;obtain⟨k,f,_⟩:=d.row;have l:c≠rb:=by
  rintro rfl;rw[f] at b;simp only[OE,Obj.cells.injEq] at b;exact e b.2.1.symm
 rw[h.block c (aO b) A7];exact b
theorem Xk.cell{lo hi:Nat}(h:Xk lo hi w w'){b o:Nat}(c:b<w.heap.size)(d:b<lo\/hi<=b):w'.cell? ⟨b,o,none⟩=w.cell? ⟨b,o,none⟩:=Od (w:=w) (h.block b c d)
theorem aB.but{lo hi b:Nat}(h:aB w b t n)(k:Xk lo hi w w')(c:b<lo\/hi<=b):aB w' b t n:=h.block (k.block b h.lt c)
variable {x : Int}
theorem n_(h: -1000<=x/\x<=1000):In64 x:=by unfold In64;omega
def bS.Tiny(c:bS):Prop:=c.text.size<=300/\ -1000<=c.goto/\c.goto<=1000
structure Xj.TinyN (m:Nat) (s:Xj):Prop where
 asks:s.asks.length<=m
 eZ:∀x∈s.asks,x.size<=300
 on: -1000<=s.on/\s.on<=1000
 cases:s.cases.length<=m
 dG:∀c∈s.cases,c.Tiny
 els:In64 s.els
 fall: -1000<=s.fall/\s.fall<=1000
 give:s.give.size<=300
variable {s : Xj}
theorem Xj.TinyN.fits{m:Nat}(h:s.TinyN m)(d:m<=1000):s.Fits:=by
 have:=h.asks;have:=h.cases;have:=h.on;have:=h.fall;have:=h.give;refine⟨?_,λx b=>?_, ?_, ?_,λc a=>⟨?_, ?_⟩, ?_, ?_, ?_⟩
 all_goals first | exact h.els | (unfold maxLen;omega) | (unfold In64;omega) | skip
 .have:=h.eZ x b;unfold maxLen;omega
 .have:=(h.dG c a).1;unfold maxLen;omega
 .have:=(h.dG c a).2;unfold In64;omega
abbrev Xj.Tiny (s:Xj):Prop:=Xj.TinyN 20 s
theorem Xj.TinyN.mono{m:Nat}(h:s.TinyN m)(b:m<=n):s.TinyN n:=⟨NT h.asks b,h.eZ,h.on,NT h.cases b,h.dG,h.els,h.fall,h.give⟩
structure dD (w:Pv) (sb:Nat) (va vc:Pw) (s:Xj):Prop where
 row:aB w sb 176 8
 c0:w.cell? ⟨sb,0,none⟩=some va
 c1:w.cell? ⟨sb,1,none⟩=some (.a s.on)
 c2:w.cell? ⟨sb,2,none⟩=some vc
 c3:w.cell? ⟨sb,3,none⟩=some (.a s.els)
 c4:w.cell? ⟨sb,4,none⟩=some (.a s.fall)
 c5:w.cell? ⟨sb,5,none⟩=some (.bool s.fin)
 c6:w.cell? ⟨sb,6,none⟩=some (.bool s.bad)
 c7:w.cell? ⟨sb,7,none⟩=some (.string s.give)
variable {sb : Nat} {va vc : Pw}
theorem dD.block(h:dD w sb va vc s)(k:w'.heap[sb]? =w.heap[sb]?):dD w' sb va vc s:=by
 have b:∀o,w'.cell? ⟨sb,o,none⟩=w.cell? ⟨sb,o,none⟩:=λo=>Od (w:=w) k
 exact⟨h.row.block k,(b _).trans h.c0,(b _).trans h.c1,(b _).trans h.c2,(b _).trans h.c3,(b _).trans h.c4,(b _).trans h.c5,(b _).trans h.c6,(b _).trans h.c7⟩
theorem dD.kept(h:dD w sb va vc s)(k:K_ w w'):dD w' sb va vc s:=h.block (k.block sb h.row.lt)
theorem dD.cell(h:dD w sb va vc s){o:Nat}(b:o<8):(∃v,w.cell? ⟨sb,o,none⟩=some v)/\w.frozen? ⟨sb,o,none⟩=false:=h.row.row.at b
theorem dD.made(w:Pv)(els fall:Int):dD (w.alloc (.cells #[J3,.a 0,J3,.a els,.a fall,.bool false,.bool false,.string ⟨#[]⟩] 176)) w.heap.size J3 J3 ⟨[],0,[],els,fall,false,false,⟨#[]⟩⟩:=by
 have d:=Xz w #[J3,.a 0,J3,.a els,.a fall,.bool false,.bool false,.string ⟨#[]⟩] 176;have a:∀j v,(#[J3,.a 0,J3,.a els,.a fall,.bool false,.bool false,.string ⟨#[]⟩]:Array Pw).toList[j]? =some v->J4 (w.alloc (.cells #[J3,.a 0,J3,.a els,.a fall,.bool false,.bool false,.string ⟨#[]⟩] 176)) w.heap.size j v:=λj v e=>by
  have:=d j v e;rw[Ow] at this;exact this
 exact⟨aB.made w _ _,a 0 _ rfl,a 1 _ rfl,a 2 _ rfl,a 3 _ rfl,a 4 _ rfl,a 5 _ rfl,a 6 _ rfl,a 7 _ rfl⟩
theorem dD.on(h:dD w sb va vc s)(x:Int):dD (w.setCell ⟨sb,1,none⟩ (.a x)) sb va vc {s with on:=x}:=
 ⟨h.row.set _,(Xx A7 _).trans h.c0,bu h.row.row A7 _,(Xx A7 _).trans h.c2,(Xx A7 _).trans h.c3,(Xx A7 _).trans h.c4,(Xx A7 _).trans h.c5,(Xx A7 _).trans h.c6,(Xx A7 _).trans h.c7⟩
theorem dD.els(h:dD w sb va vc s)(x:Int):dD (w.setCell ⟨sb,3,none⟩ (.a x)) sb va vc {s with els:=x}:=
 ⟨h.row.set _,(Xx A7 _).trans h.c0,(Xx A7 _).trans h.c1,(Xx A7 _).trans h.c2,bu h.row.row A7 _,(Xx A7 _).trans h.c4,(Xx A7 _).trans h.c5,(Xx A7 _).trans h.c6,(Xx A7 _).trans h.c7⟩
theorem dD.fall(h:dD w sb va vc s)(x:Int):dD (w.setCell ⟨sb,4,none⟩ (.a x)) sb va vc {s with fall:=x}:=
 ⟨h.row.set _,(Xx A7 _).trans h.c0,(Xx A7 _).trans h.c1,(Xx A7 _).trans h.c2,(Xx A7 _).trans h.c3,bu h.row.row A7 _,(Xx A7 _).trans h.c5,(Xx A7 _).trans h.c6,(Xx A7 _).trans h.c7⟩
theorem dD.fin(h:dD w sb va vc s)(x:Bool):dD (w.setCell ⟨sb,5,none⟩ (.bool x)) sb va vc {s with fin:=x}:=
 ⟨h.row.set _,(Xx A7 _).trans h.c0,(Xx A7 _).trans h.c1,(Xx A7 _).trans h.c2,(Xx A7 _).trans h.c3,(Xx A7 _).trans h.c4,bu h.row.row A7 _,(Xx A7 _).trans h.c6,(Xx A7 _).trans h.c7⟩
theorem dD.bad(h:dD w sb va vc s)(x:Bool):dD (w.setCell ⟨sb,6,none⟩ (.bool x)) sb va vc {s with bad:=x}:=
 ⟨h.row.set _,(Xx A7 _).trans h.c0,(Xx A7 _).trans h.c1,(Xx A7 _).trans h.c2,(Xx A7 _).trans h.c3,(Xx A7 _).trans h.c4,(Xx A7 _).trans h.c5,bu h.row.row A7 _,(Xx A7 _).trans h.c7⟩
theorem dD.give(h:dD w sb va vc s)(x:Ps):dD (w.setCell ⟨sb,7,none⟩ (.string x)) sb va vc {s with give:=x}:=
 ⟨h.row.set _,(Xx A7 _).trans h.c0,(Xx A7 _).trans h.c1,(Xx A7 _).trans h.c2,(Xx A7 _).trans h.c3,(Xx A7 _).trans h.c4,(Xx A7 _).trans h.c5,(Xx A7 _).trans h.c6,bu h.row.row A7 _⟩
theorem dD.asks(h:dD w sb va vc s)(v:Pw)(l:List Ps):dD (w.setCell ⟨sb,0,none⟩ v) sb v vc {s with asks:=l}:=
 ⟨h.row.set _,bu h.row.row A7 _,(Xx A7 _).trans h.c1,(Xx A7 _).trans h.c2,(Xx A7 _).trans h.c3,(Xx A7 _).trans h.c4,(Xx A7 _).trans h.c5,(Xx A7 _).trans h.c6,(Xx A7 _).trans h.c7⟩
theorem dD.cases(h:dD w sb va vc s)(v:Pw)(l:List bS):dD (w.setCell ⟨sb,2,none⟩ v) sb va v {s with cases:=l}:=
 ⟨h.row.set _,(Xx A7 _).trans h.c0,(Xx A7 _).trans h.c1,bu h.row.row A7 _,(Xx A7 _).trans h.c3,(Xx A7 _).trans h.c4,(Xx A7 _).trans h.c5,(Xx A7 _).trans h.c6,(Xx A7 _).trans h.c7⟩
theorem dD.same(h:dD w sb va vc s)(k:aC t w w')(c:176≠t):dD w' sb va vc s:=by
 obtain⟨d,b,_⟩:=h.row;exact h.block ((k sb d _ _ c b).trans b.symm)
structure gG (m:Nat) (W wr:Pv) (rb sb:Nat) (a:Pt) (cap:Nat) (bs:List UInt8) (p:Nat) (va vc:Pw) (s:Xj):Prop where
 rd:Rd wr rb a cap bs p
 rd0:∃p0,Rd W rb a cap bs p0
 sbl:W.heap.size<=sb
 kb:Xk rb (rb+1) W wr
 box:dD wr sb va vc s
 asks:wr.ownsRow W.heap.size 9 1 va s.asks.length (s.asks.map Value.string)
 cases:wr.ownsRow W.heap.size 231 2 vc s.cases.length (bA s.cases)
 tiny:s.TinyN m
variable {mN : Nat} {W wr : Pv}
theorem gG.rbl(h:gG mN W wr rb sb a cap bs p va vc s):rb<W.heap.size:=let ⟨_,h0⟩:=h.rd0;h0.row.lt
theorem gG.drawn{c:Nat}(h:gG mN W wr rb sb a cap bs p va vc s)(e:Rd w' rb a cap bs c)(k:Xk rb (rb+1) wr w'):gG mN W w' rb sb a cap bs c va vc s:=by
 have d:=k.sameKind h.rd;have:=h.rbl;have:=h.sbl;exact⟨e,h.rd0,h.sbl,h.kb.trans k,h.box.block (k.block sb h.box.row.lt A7),aU h.asks d A8,aU h.cases d A8,h.tiny⟩
theorem gG.kept(h:gG mN W wr rb sb a cap bs p va vc s)(k:K_ wr w'):gG mN W w' rb sb a cap bs p va vc s:=h.drawn (h.rd.kept k) (.au k)
theorem Rd.below{n:Nat}(h:Rd w rb a cap bs p)(i:Rd W rb a cap bs n)(k:Below W.heap.size w w')(_hz:W.heap.size<=w.heap.size):Rd w' rb a cap bs p:=by
 have c:∀b o,b<W.heap.size->w'.cell? ⟨b,o,none⟩=w.cell? ⟨b,o,none⟩:=λb o d=>Od (w:=w) (k.block b d)
 have e:=i.row.lt;have s:=k.size;refine⟨h.row.block (k.block _ e),(c _ _ e).trans h.c0,(c _ _ e).trans h.c1,λj l=>?_⟩;obtain⟨b,o,m,q,_,r⟩:=h.bytes j l;obtain⟨t,v,f,_,d,_⟩:=i.bytes j l;rw[m] at f;simp only[OE,Po,and_true] at f;obtain⟨rfl,rfl⟩:=f;exact⟨b,o,m,q,A7,by rw[c _ _ d];exact r⟩
theorem gG.field{b:Xj}(h:gG mN W wr rb sb a cap bs p va vc s){o:Nat}(e:dD (wr.setCell ⟨sb,o,none⟩ v) sb va vc b)(f:b.asks=s.asks)(i:b.cases=s.cases)(j:b.TinyN mN):gG mN W (wr.setCell ⟨sb,o,none⟩ v) rb sb a cap bs p va vc b:=by
 have c:=h.box.row.same (o:=o) v;have d:Below W.heap.size wr (wr.setCell ⟨sb,o,none⟩ v):=(Below.refl _ _).setCell h.sbl v;obtain⟨l,k⟩:=h.rd0;exact⟨h.rd.below k d h.kb.size,h.rd0,h.sbl,h.kb.below d,e,by rw[f];exact aU h.asks c A8,by rw[i];exact aU h.cases c A8,j⟩
theorem gG.on(h:gG mN W wr rb sb a cap bs p va vc s)(c: -1000<=x/\x<=1000):gG mN W (wr.setCell ⟨sb,1,none⟩ (.a x)) rb sb a cap bs p va vc {s with on:=x}:=
 h.field (h.box.on x) rfl rfl ⟨h.tiny.asks,h.tiny.eZ,c,h.tiny.cases,h.tiny.dG,h.tiny.els,h.tiny.fall,h.tiny.give⟩
theorem gG.els(h:gG mN W wr rb sb a cap bs p va vc s)(c: -1000<=x/\x<=1000):gG mN W (wr.setCell ⟨sb,3,none⟩ (.a x)) rb sb a cap bs p va vc {s with els:=x}:=
 h.field (h.box.els x) rfl rfl ⟨h.tiny.asks,h.tiny.eZ,h.tiny.on,h.tiny.cases,h.tiny.dG,n_ c,h.tiny.fall,h.tiny.give⟩
theorem gG.fall(h:gG mN W wr rb sb a cap bs p va vc s)(c: -1000<=x/\x<=1000):gG mN W (wr.setCell ⟨sb,4,none⟩ (.a x)) rb sb a cap bs p va vc {s with fall:=x}:=
 h.field (h.box.fall x) rfl rfl ⟨h.tiny.asks,h.tiny.eZ,h.tiny.on,h.tiny.cases,h.tiny.dG,h.tiny.els,c,h.tiny.give⟩
variable {w1 w2 : Pv}
theorem gG.uS(h:gG mN W wr rb sb a cap bs p va vc s)(c:K_ wr w1)(d:w1.grownBy w2 va.ownBlock):dD w2 sb va vc s:=
 (h.kept c).box.same (aC.aI (h.kept c).asks d) A8
theorem gG.Ch(h:gG mN W wr rb sb a cap bs p va vc s)(c:K_ wr w1)(d:w1.grownBy w2 vc.ownBlock):dD w2 sb va vc s:=
 (h.kept c).box.same (aC.aI (h.kept c).cases d) A8
theorem gG.qI{c:Pw}{x:Ps}(h:gG mN W wr rb sb a cap bs p va vc s)(l:K_ wr w1)
 (m:w2.ownsRow W.heap.size 9 1 c (s.asks.length+1) (s.asks.map Value.string++ [.string x])) (f:w1.grownBy w2 va.ownBlock) (n:s.asks.length+1<=mN) (q:x.size<=300):gG mN W (w2.setCell ⟨sb,0,none⟩ c) rb sb a cap bs p c vc {s with asks:=s.asks++ [x]}:=by
 have b:=h.kept l;have d:aC 9 w1 w2:=aC.aI b.asks f;have i:=b.box.same d A8;have j:=i.row.same (o:=0) c;have k:Below W.heap.size w1 (w2.setCell ⟨sb,0,none⟩ c):=((Below.refl _ _).grown f b.kb.size (λr d=>(b.asks.lt r d).1)).setCell h.sbl c;obtain⟨v,t⟩:=h.rd0;refine⟨b.rd.below t k b.kb.size,h.rd0,h.sbl,b.kb.below k,i.asks c _, ?_,aU (aU b.cases d A8) j A8, ?_⟩
 .have:=aU m j A8;simpa using this
 .refine⟨by simpa using n,λy e=>?_,h.tiny.on,h.tiny.cases,h.tiny.dG,h.tiny.els,h.tiny.fall,h.tiny.give⟩;simp only[N_,NZ] at e;rcases e with e | rfl
  .exact h.tiny.eZ y e
  .exact q
theorem gG.uh{c:Pw}{x:bS}(h:gG mN W wr rb sb a cap bs p va vc s)(l:K_ wr w1)
 (m:w2.ownsRow W.heap.size 231 2 c (s.cases.length+1) (bA s.cases++x.cells)) (f:w1.grownBy w2 vc.ownBlock) (n:s.cases.length+1<=mN) (q:x.Tiny):gG mN W (w2.setCell ⟨sb,2,none⟩ c) rb sb a cap bs p va c {s with cases:=s.cases++ [x]}:=by
 have b:=h.kept l;have d:aC 231 w1 w2:=aC.aI b.cases f;have i:=b.box.same d A8;have j:=i.row.same (o:=2) c;have k:Below W.heap.size w1 (w2.setCell ⟨sb,2,none⟩ c):=((Below.refl _ _).grown f b.kb.size (λr d=>(b.cases.lt r d).1)).setCell h.sbl c;obtain⟨v,t⟩:=h.rd0;refine⟨b.rd.below t k b.kb.size,h.rd0,h.sbl,b.kb.below k,i.cases c _,aU (aU b.asks d A8) j A8, ?_, ?_⟩
 .have:=aU m j A8;rw[<-vR] at this;simpa using this
 .refine⟨h.tiny.asks,h.tiny.eZ,h.tiny.on,by simpa using n,λy e=>?_,h.tiny.els,h.tiny.fall,h.tiny.give⟩;simp only[N_,NZ] at e;rcases e with e | rfl
  .exact h.tiny.dG y e
  .exact q
def lh(cs:List Pw):Prop:=∀n c,Value.slice none n c∈cs->n=0/\c=0
variable {xs : List Pw}
theorem lh.append{cs:List Pw}(h:lh xs)(k:lh cs):lh (xs++cs):=λn c e=>by
 rcases N_.1 e with a|a
 .exact h n c a
 .exact k n c a
theorem iR{size:Nat}{e:TypeId}{c m:Nat}(h:w.ownsRow base e size (.slice none n c) m xs):n=0/\c=0:=by
 rcases h.2 with⟨e,_⟩|⟨g,b,d,e,_⟩
 .simp only[OG,true_and] at e;exact e
 .simp at e
theorem kM{a b:Pt}{c d:Nat}(h:a=none->s.asks.length=0/\c=0)(h2:b=none->s.cases.length=0/\d=0):lh (s.cells a c b d):=by
 intro n i f;simp only[Xj.cells,OL,OM,or_false,OG,reduceCtorEq,false_or,or_self] at f;rcases f with⟨e,rfl,rfl⟩|⟨e,rfl,rfl⟩
 .exact h e.symm
 .exact h2 e.symm
theorem gG.oP{b c:Pt}{d m f:Nat}(h:gG mN W wr rb sb a cap bs p (.slice b n d) (.slice c m f) s)(i:n=s.asks.length)(j:m=s.cases.length):lh (s.cells b d c f):=by
 subst i j;exact kM (λe=>by subst e;exact iR h.asks) (λe=>by subst e;exact iR h.cases)
theorem gG.cells(h:gG mN W wr rb sb a cap bs p va vc s):∃b c d e,va= .slice b s.asks.length c/\vc= .slice d s.cases.length e/\lY wr 9 231 (s.cells b c d e) s:=by
 obtain⟨b,c,f,i,j⟩:=di h.asks;obtain⟨d,e,k,l⟩:=lX h.cases;exact⟨b,c,d,e,f,k,b,c,d,e,rfl,j,l,i⟩
abbrev SSt (W wr:Pv) (rb sb:Nat) (a:Pt) (cap:Nat) (bs:List UInt8) (p:Nat) (va vc:Pw) (s:Xj):Prop:=gG 20 W wr rb sb a cap bs p va vc s
structure jR (m:Nat) (w wr:Pv) (rb ab:Nat) (a:Pt) (cap:Nat) (bs:List UInt8) (p:Nat) (cost:Int) (v:Pw) (L:List Xj) (xs:List Pw):Prop where
 rd:Rd wr rb a cap bs p
 rd0:∃p0,Rd w rb a cap bs p0
 abl:w.heap.size<=ab
 kb:Xk rb (rb+1) w wr
 row:aB wr ab 73 2
 c0:wr.cell? ⟨ab,0,none⟩=some (.a cost)
 c1:wr.cell? ⟨ab,1,none⟩=some v
 own:wr.ownsRow w.heap.size 176 8 v L.length xs
 pack:fG wr 9 231 xs L
 tiny:∀s∈L,s.TinyN m
 oP:lh xs
variable {L : List Xj} {ab : Nat}
theorem jR.rbl{cost:Int}(h:jR mN w wr rb ab a cap bs p cost v L xs):rb<w.heap.size:=let ⟨_,h0⟩:=h.rd0;h0.row.lt
theorem jR.drawn{c:Nat}{cost:Int}(h:jR mN w wr rb ab a cap bs p cost v L xs)(f:Rd w' rb a cap bs c)(k:Xk rb (rb+1) wr w'):jR mN w w' rb ab a cap bs c cost v L xs:=by
 have d:=k.sameKind h.rd;have:=h.rbl;have:=h.abl;have e:∀o,w'.cell? ⟨ab,o,none⟩=wr.cell? ⟨ab,o,none⟩:=λo=>k.cell h.row.lt A7
 exact⟨f,h.rd0,h.abl,h.kb.trans k,h.row.but k A7,(e _).trans h.c0,(e _).trans h.c1,aU h.own d A8,h.pack.same d A8 A8,h.tiny,h.oP⟩
theorem jR.kept{cost:Int}(h:jR mN w wr rb ab a cap bs p cost v L xs)(k:K_ wr w'):jR mN w w' rb ab a cap bs p cost v L xs:=h.drawn (h.rd.kept k) (.au k)
theorem fG.push{ts a:TypeId}{cs:List Pw}{l:List Xj}(h:fG w ts a xs l)(c:lY w ts a cs s):fG w ts a (xs++cs) (l++ [s]):=by
 have d:(l++ [s]).take l.length=l:=A9;have e:(l++ [s]).take (l.length+1)=l++ [s]:=by rw[Oy];simp
 have:=fG.snoc (k:=l.length) (l:=l++ [s]) A9 (by rw[d];exact h) (cs:=cs) (by simpa[List.getD] using c);rw[e] at this;exact this
theorem jR.fZ{cost:Int}(h:jR mN w wr rb ab a cap bs p cost v L xs)(f:K_ wr w1)(i:w1.grownBy w2 v.ownBlock):w2.cell? ⟨ab,1,none⟩=some v/\aB w2 ab 73 2:=by
 have b:=h.kept f;have j:aC 176 w1 w2:=aC.aI b.own i;obtain⟨c,d,k⟩:=b.row;have e:=j ab c _ _ A8 d;exact⟨by rw[Od (w:=w1) (e.trans d.symm)];exact b.c1,c,e,k⟩
theorem jR.push{cost:Int}{c:Pw}{cs:List Pw}(h:jR mN w wr rb ab a cap bs p cost v L xs)(k:K_ wr w1)(q:lY wr 9 231 cs s)(r:s.TinyN mN)(t:lh cs)
 (x:w2.ownsRow w.heap.size 176 8 c (L.length+1) (xs++cs)) (l:w1.grownBy w2 v.ownBlock):jR mN w (w2.setCell ⟨ab,1,none⟩ c) rb ab a cap bs p cost c (L++ [s]) (xs++cs):=by
 have b:=h.kept k;have d:aC 176 w1 w2:=aC.aI b.own l;have j:aB w2 ab 73 2:=by
  obtain⟨e,f,y⟩:=b.row;exact⟨e,d ab e _ _ A8 f,y⟩
 have z:w2.cell? ⟨ab,0,none⟩=some (.a cost):=by
  obtain⟨e,f,_⟩:=b.row;rw[Od (w:=w1) ((d ab e _ _ A8 f).trans f.symm)];exact b.c0
 have m:=j.same (o:=1) c;have n:Below w.heap.size w1 (w2.setCell ⟨ab,1,none⟩ c):=((Below.refl _ _).grown l b.kb.size (λA d=>(b.own.lt A d).1)).setCell h.abl c;obtain⟨D,B⟩:=h.rd0;refine⟨b.rd.below B n b.kb.size,h.rd0,h.abl,b.kb.below n,j.set _,(Xx A7 _).trans z,bu j.row A7 _, ?_, ?_,λC i=>?_,h.oP.append t⟩
 .have:=aU x m A8;simpa using this
 .exact ((b.pack.push (q.same (u:=114) (aC.au k) A8 A8)).same d A8 A8).same m A8 A8
 .simp only[N_,NZ] at i;rcases i with i|rfl
  .exact h.tiny C i
  .exact r
theorem jR.cost{cost:Int}(h:jR mN w wr rb ab a cap bs p cost v L xs):jR mN w (wr.setCell ⟨ab,0,none⟩ (.a x)) rb ab a cap bs p x v L xs:=by
 have c:=h.row.same (o:=0) (.a x);have d:Below w.heap.size wr (wr.setCell ⟨ab,0,none⟩ (.a x)):=(Below.refl _ _).setCell h.abl _;obtain⟨f,e⟩:=h.rd0;exact⟨h.rd.below e d h.kb.size,h.rd0,h.abl,h.kb.below d,h.row.set _,bu h.row.row A7 _,(Xx A7 _).trans h.c1,aU h.own c A8,(h.pack.same c A8 A8),h.tiny,h.oP⟩
abbrev ASt (w wr:Pv) (rb ab:Nat) (a:Pt) (cap:Nat) (bs:List UInt8) (p:Nat) (cost:Int) (v:Pw) (L:List Xj) (xs:List Pw):Prop:=jR 20 w wr rb ab a cap bs p cost v L xs
def og{α:Type}(R:α->α->Prop)(src:List α)(p:α):Prop:=∃c∈src,∃n,aV R n p c
structure wW (R:Nat->Nat->Prop) (src:List Nat) (S:Nat->Bool) (Q:List Nat):Prop where
 sub:∀p,S p=true->og R src p
 src:∀c∈src,S c=true
 q:∀p∈Q,S p=true
 nd:Q.Nodup
 don:∀p,S p=true->p∉Q->∀r,R r p->S r=true
structure mI (R:Nat->Nat->Prop) (src:List Nat) (p:Nat) (L:List Nat) (S:Nat->Bool) (Q:List Nat):Prop where
 sub:∀p,S p=true->og R src p
 src:∀c∈src,S c=true
 q:∀p∈Q,S p=true
 nd:Q.Nodup
 don:∀r,S r=true->r∉Q->r≠p->∀s,R s r->S s=true
 cur:∀s∈L,S s=true
 pos:S p=true
 out:p∉Q
variable {Q : List Nat} {S : Nat -> Bool}
section
variable {R : Nat -> Nat -> Prop} {src : List Nat}
theorem wW.start(R:Nat->Nat->Prop){src:List Nat}(h:src.Nodup):wW R src (λp=>decide (p∈src)) src:=
 ⟨λp a=>⟨p,by simpa using a,0,.here p⟩,λe c=>by simpa using c,λp a=>by simpa using a,h,λp a d=>Pg (by simpa using a) d⟩
theorem wW.take{p:Nat}(h:wW R src S (p :: Q)):mI R src p [] S Q:=by
 have b:=List.nodup_cons.1 h.nd;refine⟨h.sub,h.src,λr a=>h.q r (Oi _ a),b.2,λr a c d=>h.don r a ?_,λs f=>(by cases f),h.q p A9,b.1⟩;intro i;rcases OL.1 i with e | e
 .exact d e
 .exact c e
theorem mI.old{p s:Nat}{L:List Nat}(h:mI R src p L S Q)(a:S s=true):mI R src p (L++ [s]) S Q:=
 ⟨h.sub,h.src,h.q,h.nd,h.don,λr b=>by
  rcases N_.1 b with e|e
  .exact h.cur r e
  .rw[NZ] at e;rw[e];exact a,h.pos,h.out⟩
theorem mI.new{p s:Nat}{L:List Nat}(h:mI R src p L S Q)(m:R s p)(i:S s=false):mI R src p (L++ [s]) (λr=>if r=s then true else S r) (Q++ [s]):=by
 have n:p≠s:=λe=>by have:=h.pos;rw[e,i] at this;cases this
 have t:s∉Q:=λe=>by have:=h.q s e;rw[i] at this;cases this
 have d:∀r,S r=true->(if r=s then true else S r)=true:=λr b=>by split <;> simp[b]
 refine⟨λr b=>?_,λc f=>d c (h.src c f),λr b=>?_, ?_,λr b j v x w=>?_,λr b=>?_,d p h.pos, ?_⟩
 .by_cases e:r=s
  .subst e;obtain⟨c,f,y,z⟩:=h.sub p h.pos;exact⟨c,f,y+1,.step m z⟩
  .rw[Pf e] at b;exact h.sub r b
 .rcases N_.1 b with g|g
  .exact d r (h.q r g)
  .rw[NZ] at g;simp[g]
 .rw[List.nodup_append];exact⟨h.nd,A9,λa k B l e=>by rw[NZ] at l;rw[e,l] at k;exact t k⟩
 .have A:r≠s:=λe=>j (by rw[e];simp)
  rw[Pf A] at b;exact d x (h.don r b (λg=>j (N_.2 (.inl g))) v x w)
 .rcases N_.1 b with g|g
  .exact d r (h.cur r g)
  .rw[NZ] at g;simp[g]
 .intro g;rcases N_.1 g with g|g
  .exact h.out g
  .exact n (NZ.1 g)
theorem mI.ends{p:Nat}{L:List Nat}(h:mI R src p L S Q)(b:∀s,R s p->s∈L):wW R src S Q:=
 ⟨h.sub,h.src,h.q,h.nd,λr c d s a=>by
  by_cases e:r=p
  .rw[e] at a;exact h.cur s (b s a)
  .exact h.don r c d e s a⟩
theorem wW.whole(h:wW R src S [])(p:Nat):S p=true↔og R src p:=by
 refine⟨h.sub p, ?_⟩;rintro⟨c,d,n,a⟩
 induction n generalizing p with
 | zero=>rw[a.zero];exact h.src c d
 | succ n ih=>
  obtain⟨b,e,f⟩:=a.first
  exact h.don b (ih b f) A9 p e
end
