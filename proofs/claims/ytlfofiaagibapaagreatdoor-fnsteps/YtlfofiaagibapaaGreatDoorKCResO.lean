import Derived.Deep.RegionHeld
import Derived.Test.YtlfofiaagibapaaGreatDoorKWImpl3
import Derived.Test.YtlfofiaagibapaaGreatDoorKWGo4
import Derived.Test.YtlfofiaagibapaaGreatDoorKShelfS
set_option maxRecDepth 100000
set_option maxHeartbeats 25600000
namespace Go.Proofs.YtlfofiaagibapaaGreatDoor
open Go.RowKit Go.Proofs.Tryz
structure Rd (w:NN)(rb:Nat)(a:NM)(cap:Nat)(bs:List UInt8)(p:Nat):Prop where
 row:ay w rb 125 2
 c0:w.cell? ⟨rb,0,none⟩=some (.slice a bs.length cap)
 c1:w.cell? ⟨rb,1,none⟩=some (.a (p:Int))
 bytes:∀i,i<bs.length->∃b o,a=some ⟨b,o,none⟩/\b≠rb/\b<w.heap.size/\w.cell? ⟨b,o+i,none⟩=some (.int .u8 ((bs.getD i 0).toNat:Int))
theorem Rd.drewN{w:NN}{rb:Nat}{a:NM}{cap:Nat}{bs:List UInt8}{p:Nat}(h:Rd w rb a cap bs p)(k:Nat):Rd (w.drewN k) rb a cap bs p:=⟨h.row.block rfl,h.c0,h.c1,h.bytes⟩
theorem LG(a:Nat)(h:a<1099511627776):bits .xor .i64 (a:Int) ((a:Int) / 64)= ((a ^^^ a / 64:Nat):Int)/\a ^^^ a / 64<1099511627776:=by
 have b:a ^^^ a / 64<2 ^ 40:=Nat.xor_lt_two_pow E5 E5;have d:((a:Int) / 64)= ((a / 64:Nat):Int):=E5;have c:(BitVec.ofInt 64 (a:Int)).toNat=a:=by
  rw[BitVec.ofInt_natCast,BitVec.toNat_ofNat];exact Nat.mod_eq_of_lt E5
 have e:(BitVec.ofInt 64 ((a / 64:Nat):Int)).toNat=a / 64:=by
  rw[BitVec.ofInt_natCast,BitVec.toNat_ofNat];exact Nat.mod_eq_of_lt E5
 refine⟨?_,E5⟩;rw[d];show IntKind.i64.wrap ((BitVec.ofInt 64 (a:Int) ^^^ BitVec.ofInt 64 ((a / 64:Nat):Int)).toNat:Int)=_;rw[BitVec.toNat_xor,c,e];let⟨z,f⟩:=aj (a ^^^ a / 64);rw[<-f] at b⊢;simp[IntKind.wrap,IntKind.bits,IntKind.signed];omega
def Jr(w w':NN)(rb:Nat)(a:NM)(cap:Nat)(bs:List UInt8)(p n:Nat)(e:Ending):Prop:=∃v:Nat,e=.returned (.a (v:Int))/\v<=n-1/\Rd w' rb a cap bs (p+1)/\Xj rb (rb+1) w w'
theorem oQ(w:NN)(rb:Nat)(a:NM)(cap:Nat)(bs:List UInt8)(p n:Nat)(b:Rd w rb a cap bs p)(S:p<=1000000)(T:n<=100000)(U:bs.length<=2000):Calls prog 35 #[.c rb,.a (n:Int)] w λe w'=>Jr w w' rb a cap bs p n e:=by
 have H:=b.c0;have V:=b.c1;have W:=b.row.lt;let⟨_,Y⟩:=b.row.row.at (i:=1) E5;have x:Rd (w.setCell ⟨rb,1,none⟩ (.a ((p:Int)+1))) rb a cap bs (p+1):=by
  refine⟨b.row.set _,by rw[Xk E5];exact H,by rw[aR b.row.row E5];rfl,λI J=>?_⟩;let⟨k,o,e,h,l,m⟩:=b.bytes I J;exact⟨k,o,e,h,by rw[size_setCell];exact l,by rw[MJ _ _ _ _ λe=>h (congrArg Addr.block e).symm];exact m⟩
 have c:=Kz x;have i:Xj rb (rb+1) w (w.setCell ⟨rb,1,none⟩ (.a ((p:Int)+1))):=(Xj.refl _ _ _).setCell E9 E9 _;clear x;by_cases a0:(n:Int)<1
 .go_enter func35,ntmps35
  go_wp2
  go_ret
  exact⟨0,rfl,Ml _,c.o,i⟩
 .by_cases z:bs.length=0
  .have K:((bs.length:Int) == 0)=true:=by simp[z]
   go_enter func35,ntmps35
   go_wp2
   go_ret
   exact⟨0,rfl,Ml _,c.o,i⟩
  .have K:((bs.length:Int) == 0)=false:=by simpa using z
   by_cases hk:(p:Int)<bs.length
   .obtain⟨k,o,rfl,h,l,m⟩:=c.o.bytes p E5;let⟨y,A⟩:=aj (bs.getD p 0);rw[<-A] at m;have a1:=y.toNat_lt;clear A;go_enter func35,ntmps35
    go_wp2
    go_ret
    refine⟨y.toNat % n,?_,?_,c.o,i⟩
    .simp
    .have:=Nat.mod_lt y.toNat (E5:0<n);omega
   .obtain⟨d,q⟩:=aj (p % bs.length);let⟨f,r⟩:=aj ((p*7+3) % bs.length);let⟨j,s⟩:=aj (p / bs.length);have L:d<bs.length:=by rw[q];exact Nat.mod_lt _ E5
    have M:f<bs.length:=by rw[r];exact Nat.mod_lt _ E5
    have a2:j<=p:=by rw[s];exact Nat.div_le_self _ _
    have e1:(p:Int) % (bs.length:Int)= (d:Int):=by rw[q];omega
    have e2:((p:Int)*7+3) % (bs.length:Int)= (f:Int):=by rw[r];push_cast;rfl
    have e3:(p:Int) / (bs.length:Int)= (j:Int):=by rw[s];push_cast;rfl
    obtain⟨k,o,rfl,h,l,N⟩:=c.o.bytes d L;let⟨b',o',B,_,_,O⟩:=c.o.bytes f M;simp only[Na,NI,and_true] at B;obtain⟨rfl,rfl⟩:=B;obtain⟨t,C⟩:∃y,y=bs.getD d 0:=⟨_,rfl⟩;obtain⟨v,D⟩:∃y,y=bs.getD f 0:=⟨_,rfl⟩;rw[<-C] at N;rw[<-D] at O;have a3:=t.toNat_lt;have a4:=v.toNat_lt;clear q r s C D;have i1:(d:Int)<(bs.length:Int):=E5;have i2:(f:Int)<(bs.length:Int):=E5;go_enter func35,ntmps35
    go_wp2
    go_quiet (fail)
    obtain⟨X,E⟩:∃X:Nat,X=t.toNat*131+v.toNat*1117+p*29+j*53:=⟨_,rfl⟩;have F:(t.toNat:Int)*131+(v.toNat:Int)*1117+(p:Int)*29+(j:Int)*53= (X:Int):=by rw[E];push_cast;rfl
    rw[F];have P:X<1099511627776:=E5;let⟨Q,R⟩:=LG X P;let⟨Z,G⟩:=aj (X ^^^ X / 64);rw[<-G] at Q R;clear G E F;go_wp2
    go_ret
    refine⟨Z % n,?_,?_,c.o.drewN nq,i.drewN nq⟩
    .simp
    .have:=Nat.mod_lt Z (E5:0<n);omega
def BytesAt(w:NN)(a:NM)(bs:List UInt8):Prop:=∀i,i<bs.length->∃b o,a=some ⟨b,o,none⟩/\b<w.heap.size/\w.cell? ⟨b,o+i,none⟩=some (.int .u8 ((bs.getD i 0).toNat:Int))
theorem BytesAt.take{w:NN}{a:NM}{bs:List UInt8}(h:BytesAt w a bs)(n:Nat):BytesAt w a (bs.take n):=by
 intro i c;let⟨b,o,e,d,f⟩:=h i (by simp at c;omega);refine⟨b,o,e,d,?_⟩;rw[f];have j:i<n:=by simp at c;omega
 simp[List.getD_eq_getElem?_getD,j]
theorem Rd.made{w:NN}{a:NM}{bs:List UInt8}(cap:Nat)(h:BytesAt w a bs):Rd (w.alloc (.cells #[.slice a bs.length cap,.a 0] 125)) w.heap.size a cap bs 0:=by
 refine⟨ay.made w _ _,?_,?_,λi c=>?_⟩
 .rw[World.cell?_alloc_mark];rfl
 .rw[World.cell?_alloc_mark];rfl
 .obtain⟨d,o,e,b,f⟩:=h i c;exact⟨d,o,e,E5,Mk b (ah w _).size,by rw[(ah w _).cell b];exact f⟩
def Lt(w w':NN)(a:NM)(cap:Nat)(bs:List UInt8)(e:Ending):Prop:=∃rb,e=.returned (.c rb)/\w.heap.size<=rb/\Rd w' rb a cap (bs.take 2000) 0/\K_ w w'
theorem Ht(w:NN)(a:NM)(cap:Nat)(bs:List UInt8)(d:BytesAt w a bs)(f:bs.length<=cap)(h:bs.length<=100000000):Calls prog 31 #[.slice a bs.length cap] w λe w'=>Lt w w' a cap bs e:=by
 by_cases i:(2000:Int)<bs.length
 .go_enter func31,ntmps31
  go_wp2
  go_ret
  have c:(bs.take 2000).length=2000:=F6;have b:=Rd.made cap (d.take 2000);rw[c] at b;exact⟨w.heap.size,rfl,Mj _,b,ah w _⟩
 .go_enter func31,ntmps31
  go_wp2
  go_ret
  have c:bs.take 2000=bs:=MU E5;have b:=Rd.made cap d;exact⟨w.heap.size,rfl,Mj _,by rw[c];exact b,ah w _⟩
variable {a:Act}{up:Array Bool}{id n:Nat}{oi:Oper}{w:NN}
section
variable {P:Program}{ops:Array Oper}{Q:Exit -> Act -> NN -> Prop}{md:Region.Mode}{S:NN -> Prop}{z:Nat}
def Qk(P:Program)(md:Region.Mode)(ops:Array Oper)(Q:Exit->Act->NN->Prop)(S:NN->Prop)(z:Nat):Nat->Array Bool->Act->NN->Prop
 |0,up,a,w=>Region.ready md ops up=[]/\Q .normal a w
 |n+1,up,a,w=>(Region.ready md ops up=[]->Q .normal a w)/\∀k∈Region.ready md ops up,wpOp P ops Q k (λb u=>(k≠z->S u)/\Qk P md ops Q S z n (up.setIfInBounds k true) b u) a w
theorem Qk.any :∀(n:Nat)(up:Array Bool)(a:Act)(w:NN),Qk P md ops Q S z n up a w->wpAny P md ops Q n up a w
 |0,_,_,_,h=>h
 |n+1,_,_,_,h=>⟨h.1,λk c=>wpOp_mono (λb u g=>Qk.any n _ b u g.2) (h.2 k c)⟩
theorem Qk.region(b:P.follows .mixedOrders=true)(S:NN->Prop)(z:Nat)(c:S w.drew)(h:S w.drew->Qk P .any ops Q S z ops.size (Array.replicate ops.size false) a w.drew):(Code.region id ops true).wp P Q a w:=wp_region_any b (Qk.any _ _ _ _ (h c))
def qV(md:Region.Mode)(ops:Array Oper)(i:Nat)(D:List Nat):Bool:=D.all λd=>match ops[d]? with
  |some o=>o.after.toList.any λe=>Region.binds md e && (e.on == i || D.contains e.on)
  |none=>false
theorem Jg{i:Nat}{D:List Nat}(j:qV md ops i D=true)(hi:up.getD i true=false)(l:∀d∈D,up.getD d true=false){k:Nat}(m:k∈Region.ready md ops up):k∉D:=by
 intro n;let⟨_,o,p,q⟩:=mem_ready.1 m;have c:=List.all_eq_true.1 j k n;simp only[p,List.any_eq_true,Array.mem_toList_iff,Bool.and_eq_true,Bool.or_eq_true,beq_iff_eq,List.contains_iff_mem] at c;let⟨e,r,s,t⟩:=c;have a:=q e r s;have f:up.getD e.on true=false:=by
  rcases t with h|h
  .rw[h];exact hi
  .exact l _ h
 rcases Nat.lt_or_ge e.on up.size with b|b
 .simp[b] at a f;rw[f] at a;cases a
 .simp[Array.getElem?_eq_none b] at a
theorem Qk.take'{i:Nat}{v:NP}(hi:ops[i]? =some oi)(y:Region.noSelect ops=true)(K:∀c a w,Q (.panic c) (a.put oi.dst v) w->Q (.panic c) a w){D:List Nat}(L:z∈D)(M:qV md ops i D=true):∀(n:Nat)(up:Array Bool)(a:Act)(w:NN),(∀j b,ops[j]? =some b->j≠i->up.getD j true=false->(∀e∈b.after,Region.binds md e=true->e.on≠i)->oi.apart ops b=true)->
   (∀d∈D,up.getD d true=false)->i∈Region.ready md ops up->YieldsIf P ops S oi v a->S w->
   Qk P md ops Q S z n (up.setIfInBounds i true) (a.put oi.dst v) w->Qk P md ops Q S z (n+1) up a w:=by
 intro n
 induction n with
 |zero=>
  intro up a w _ _ f q k H;refine⟨λh=>(by rw[h] at f;cases f),λj l=>?_⟩;by_cases e:j=i
  .exact e ▸ q.wpOp hi k ⟨λ_=>k,H⟩
  .have:=ready_mono l e;rw[H.1] at this;cases this
 |succ n ih=>
  intro up a w A B f q k H;refine⟨λh=>(by rw[h] at f;cases f),λj l=>?_⟩;by_cases e:j=i
  .exact e ▸ q.wpOp hi k ⟨λ_=>k,H⟩
  .have r:=(mem_ready.1 f).1;have C:=Jg M r B l;have N:j≠z:=λh=>C (h ▸ L)
   let⟨E,b,s,O⟩:=mem_ready.1 l;have R:∀e∈b.after,Region.binds md e=true->e.on≠i:=λe T U V=>by
    have m:=O e T U;rw[V] at m;rcases Nat.lt_or_ge i up.size with t|t
    .simp[t] at r m;rw[r] at m;cases m
    .simp[Array.getElem?_eq_none t] at m
   have W:=wpOp_putIf s (A j b s e E R) (λx p=>Region.noSelect_spec y i oi x p hi) (λx p=>Region.noSelect_spec y j b x p s) K q (H.2 j (ready_mono l e));refine wpOp_mono (λp u g=>⟨g.2.1,ih (up.setIfInBounds j true) p u (λF X Y Z G a0=>A F X Y Z ?_ a0) (λd I=>?_) (ready_mono f (Ne.symm e)) g.1 (g.2.1 N) ?_⟩) W
   .by_cases J:j=F
    .exact J ▸ E
    .rw[getD_set_ne true J] at G;exact G
   .rw[getD_set_ne true λh:j=d=>C (h ▸ I)];exact B d I
   .rw[Array.setIfInBounds_comm _ _ e];exact g.2.2
theorem Qk.take(i:Nat)(D:List Nat){v:NP}(hi:ops[i]? =some oi)(f:Region.noSelect ops=true)(h:Region.free md ops up i=true)(j:(Region.ready md ops up).contains i=true)(b:(D.contains z && qV md ops i D && D.all λd=>!up.getD d true)=true)(k:∀c a w,Q (.panic c) (a.put oi.dst v) w->Q (.panic c) a w)(l:YieldsIf P ops S oi v a)(m:S w)(p:Qk P md ops Q S z n (up.setIfInBounds i true) (a.put oi.dst v) w):Qk P md ops Q S z (n+1) up a w:=by
 simp only[Bool.and_eq_true,List.contains_iff_mem,List.all_eq_true,Bool.not_eq_true'] at b;exact Qk.take' hi f k b.1.1 b.1.2 n up a w (Region.free_spec hi h) b.2 (by simpa using j) l m p
theorem Qk.next(i:Nat){o:Oper}(d:Region.ready md ops up=[i])(h:ops[i]? =some o)(j:∀K:Act->NN->Prop,Shut (∀b u,(i≠z->S u)->Qk P md ops Q S z n (up.setIfInBounds i true) b u->K b u)->if Region.wanted o (yielded ops a.tmps)=true then Oper.wp P o a w K Q else K (a.put o.dst undef) w):Qk P md ops Q S z (n+1) up a w:=by
 refine⟨λe=>(by rw[d] at e;cases e),λk f=>?_⟩;rw[d] at f;obtain rfl:k=i:=by simpa using f
 exact wpOp_step h λK l=>j K λb u m p=>l b u ⟨m,p⟩
theorem Qk.two(i j:Nat){e:Oper}(k:Region.ready md ops up=[i,j])(m:ops[i]? =some oi)(p:ops[j]? =some e)(d:∀K:Act->NN->Prop,Shut (∀b u,(i≠z->S u)->Qk P md ops Q S z n (up.setIfInBounds i true) b u->K b u)->if Region.wanted oi (yielded ops a.tmps)=true then Oper.wp P oi a w K Q else K (a.put oi.dst undef) w)(h2:∀K:Act->NN->Prop,Shut (∀b u,(j≠z->S u)->Qk P md ops Q S z n (up.setIfInBounds j true) b u->K b u)->if Region.wanted e (yielded ops a.tmps)=true then Oper.wp P e a w K Q else K (a.put e.dst undef) w):Qk P md ops Q S z (n+1) up a w:=by
 refine⟨λl=>(by rw[k] at l;cases l),λq f=>?_⟩;rw[k] at f;simp only[Nh,Ni,or_false] at f;rcases f with rfl|rfl
 .exact wpOp_step m (λK h=>d K λb u d h2=>h b u ⟨d,h2⟩)
 .exact wpOp_step p λK h=>h2 K λb u d h2=>h b u ⟨d,h2⟩
theorem Qk.done(b:Region.ready md ops up=[])(h:Q .normal a w):Qk P md ops Q S z n up a w:=by
 cases n with
 |zero=>exact⟨b,h⟩
 |succ n=>exact⟨λ_=>h,by rw[b];simp⟩
theorem upP :(∀(a:Act)(v:NP),a.put none v=a)/\(∀(a:Act)(d:Tmp)(v:NP),a.put (some d) v= {a with tmps:=a.tmps.setIfInBounds d v})/\(∀(l:List NP)(i:Nat)(a:NP),l.toArray.setIfInBounds i a= (l.set i a).toArray)/\(∀(x:NP)(l:List NP)(a:NP),(x :: l).set 0 a=a :: l)/\∀(x:NP)(l:List NP)(i:Nat)(a:NP),(x :: l).set (i+1) a=x :: l.set i a:=⟨λ_ _=>rfl,λ_ _ _=>rfl,λ_ _ _=>List.setIfInBounds_toArray ..,λ_ _ _=>rfl,λ_ _ _ _=>rfl⟩
def Zz(md:Region.Mode)(ops:Array Oper)(i:Nat):List Nat:=(List.range ops.size).foldl (λD d=>match ops[d]? with
  |some o=>if (o.after.toList.any λe=>Region.binds md e && (e.on == i || D.contains e.on))=true then D++[d] else D
  |none=>D) []
theorem ae(i:Nat){v:NP}{b:Act}(e:S w)(h:Qk P md ops Q S z n (up.setIfInBounds i true) b w)(hi:ops[i]? =some oi:=by (simp only[List.getElem?_toArray];rfl))(f:∀u,S u->(execOp a.eval oi).run P u=.ok (.value v) u:=by (intro u hu;(try dsimp only at hu);go_simp;(try with_reducible rfl)))(j:a.put oi.dst v=b:=by (first|(simp only[upP];exact rfl)|simp only[upP]|exact rfl))(k:Region.noSelect ops=true:=by kernel_rfl)(l:Region.free md ops up i=true:=by kernel_rfl)(m:(Region.ready md ops up).contains i=true:=by kernel_rfl)(p:((Zz md ops i).contains z && qV md ops i (Zz md ops i) && (Zz md ops i).all λd=>!up.getD d true)=true:=by kernel_rfl)(q:∀c a w,Q (.panic c) (a.put oi.dst v) w->Q (.panic c) a w:=by (first|exact λ_ _ _ h=>h|exact λ_ _ _ h=>nomatch h.1))(r:Region.wanted oi (yielded ops a.tmps)=true:=by rfl):Qk P md ops Q S z (n+1) up a w:=
 Qk.take i _ hi k l m p q (Or.inl ⟨r,f⟩) e (by rw[j];exact h)
theorem aB(i:Nat){b:Act}(e:S w)(h:Qk P md ops Q S z n (up.setIfInBounds i true) b w)(hi:ops[i]? =some oi:=by (simp only[NJ];rfl))(f:a.put oi.dst undef=b:=by (first|(simp only[upP];exact rfl)|simp only[upP]|exact rfl))(j:Region.noSelect ops=true:=by kernel_rfl)(k:Region.free md ops up i=true:=by kernel_rfl)(l:(Region.ready md ops up).contains i=true:=by kernel_rfl)(m:((Zz md ops i).contains z && qV md ops i (Zz md ops i) && (Zz md ops i).all λd=>!up.getD d true)=true:=by kernel_rfl)(p:∀c a w,Q (.panic c) (a.put oi.dst undef) w->Q (.panic c) a w:=by (first|exact λ_ _ _ h=>h|exact λ_ _ _ h=>nomatch h.1))(q:Region.wanted oi (yielded ops a.tmps)=false:=by rfl):Qk P md ops Q S z (n+1) up a w:=
 Qk.take i _ hi j k l m p (Or.inr ⟨q,rfl⟩) e (by rw[f];exact h)
theorem ai(i:Nat){o:Oper}(h:∀K:Act->NN->Prop,Shut (∀b u,(i≠z->S u)->Qk P md ops Q S z n (up.setIfInBounds i true) b u->K b u)->if Region.wanted o (yielded ops a.tmps)=true then Oper.wp P o a w K Q else K (a.put o.dst undef) w)(d:Region.ready md ops up=[i]:=by kernel_rfl)(e:ops[i]? =some o:=by (simp only[NJ];rfl)):Qk P md ops Q S z (n+1) up a w:=Qk.next i d e h
theorem aG(i:Nat){o:Oper}(h:∀K:Act->NN->Prop,Shut (∀b u,(i≠z->S u)->Qk P md ops Q S z n (up.setIfInBounds i true) b u->K b u)->Oper.wp P o a w K Q)(c:Region.ready md ops up=[i]:=by kernel_rfl)(d:ops[i]? =some o:=by (simp only[NJ];rfl))(e:Region.wanted o (yielded ops a.tmps)=true:=by rfl):Qk P md ops Q S z (n+1) up a w:=Qk.next i c d λK f=>by rw[Nz e];exact h K f
theorem fP(i j:Nat){c:Oper}(d:∀K:Act->NN->Prop,Shut (∀b u,(i≠z->S u)->Qk P md ops Q S z n (up.setIfInBounds i true) b u->K b u)->if Region.wanted oi (yielded ops a.tmps)=true then Oper.wp P oi a w K Q else K (a.put oi.dst undef) w)(h2:∀K:Act->NN->Prop,Shut (∀b u,(j≠z->S u)->Qk P md ops Q S z n (up.setIfInBounds j true) b u->K b u)->if Region.wanted c (yielded ops a.tmps)=true then Oper.wp P c a w K Q else K (a.put c.dst undef) w)(e:Region.ready md ops up=[i,j]:=by kernel_rfl)(f:ops[i]? =some oi:=by (simp only[NJ];rfl))(h:ops[j]? =some c:=by (simp only[NJ];rfl)):Qk P md ops Q S z (n+1) up a w:=Qk.two i j e f h d h2
theorem bF(z:Nat)(b:∀u,K_ w u->S u)(h:∀wd,K_ w wd->S wd->Qk P .any ops Q S z ops.size (Array.replicate ops.size false) a wd)(d:P.follows .mixedOrders=true:=by kernel_rfl):(Code.region id ops true).wp P Q a w:=
 Qk.region d S z (b _ (aY w)) λe=>h _ (aY w) e
theorem mg(z:Nat){R:NN->Prop}(b:∀u,R u->S u)(c:R w.drew)(h:∀wd,K_ w wd->S wd->Qk P .any ops Q S z ops.size (Array.replicate ops.size false) a wd)(e:P.follows .mixedOrders=true:=by kernel_rfl):(Code.region id ops true).wp P Q a w:=
 Qk.region e S z (b _ c) λf=>h _ (aY w) f
theorem ik(z:Nat){R:NN->Prop}(b:∀u,R u->S u)(c:R w.drew)(h:S w.drew->Qk P .any ops Q S z ops.size (Array.replicate ops.size false) a w.drew)(e:P.follows .mixedOrders=true:=by kernel_rfl):(Code.region id ops true).wp P Q a w:=
 Qk.region e S z (b _ c) h
theorem af{i:Nat}{K:Act->NN->Prop}(a:Shut (∀b u,(i≠z->S u)->Qk P md ops Q S z n up b u->K b u)){b c:Act}{u:NN}(d:i≠z->S u)(h:Qk P md ops Q S z n up c u)(e:b=c:=by (first|(simp only[upP];exact rfl)|simp only[upP]|exact rfl)):K b u:=by rw[e];exact a.out _ _ d h
theorem cK(i:Nat)(v:NP){b:Act}(e:S w)(f:∀u,S u->(execOp a.eval oi).run P u=.ok (.value v) u)(h:Qk P md ops Q S z n (up.setIfInBounds i true) b w)(hi:ops[i]? =some oi:=by (simp only[NJ];rfl))(j:a.put oi.dst v=b:=by (first|(simp only[upP];exact rfl)|simp only[upP]|exact rfl))(k:Region.noSelect ops=true:=by kernel_rfl)(l:Region.free md ops up i=true:=by kernel_rfl)(m:(Region.ready md ops up).contains i=true:=by kernel_rfl)(p:((Zz md ops i).contains z && qV md ops i (Zz md ops i) && (Zz md ops i).all λd=>!up.getD d true)=true:=by kernel_rfl)(q:∀c a w,Q (.panic c) (a.put oi.dst v) w->Q (.panic c) a w:=by (first|exact λ_ _ _ h=>h|exact λ_ _ _ h=>nomatch h.1))(r:Region.wanted oi (yielded ops a.tmps)=true:=by rfl):Qk P md ops Q S z (n+1) up a w:=
 Qk.take i _ hi k l m p q (Or.inl ⟨r,f⟩) e (by rw[j];exact h)
theorem aC(h:Q .normal a w)(c:Region.ready md ops up=[]:=by kernel_rfl):Qk P md ops Q S z n up a w:=Qk.done c h
theorem ak(i:Nat){v0 v1 v2 v3:NP}{b e f j:Oper}{k l m r:Act}(p:S w)(h:Qk P md ops Q S z n ((((up.setIfInBounds i true).setIfInBounds (i+1) true).setIfInBounds (i+2) true).setIfInBounds (i+3) true) r w)(s:ops[i]? =some b:=by (simp only[List.getElem?_toArray];rfl))(t:Region.wanted b (yielded ops a.tmps)=true:=by rfl)(v:∀u,S u->(execOp a.eval b).run P u=.ok (.value v0) u:=by (intro u hu;(try dsimp only at hu);go_simp;(try with_reducible rfl)))(x:a.put b.dst v0=k:=by (first|(simp only[upP];exact rfl)|simp only[upP]|exact rfl))(y:Region.free md ops up i=true:=by kernel_rfl)(A:(Region.ready md ops up).contains i=true:=by kernel_rfl)(B:((Zz md ops i).contains z && qV md ops i (Zz md ops i) && (Zz md ops i).all λd=>!up.getD d true)=true:=by kernel_rfl)(C:∀c a w,Q (.panic c) (a.put b.dst v0) w->Q (.panic c) a w:=by (first|exact λ_ _ _ h=>h|exact λ_ _ _ h=>nomatch h.1))(D:ops[i+1]? =some e:=by (simp only[List.getElem?_toArray];rfl))(E:Region.wanted e (yielded ops k.tmps)=true:=by rfl)(F:∀u,S u->(execOp k.eval e).run P u=.ok (.value v1) u:=by (intro u hu;(try dsimp only at hu);go_simp;(try with_reducible rfl)))(G:k.put e.dst v1=l:=by (first|(simp only[upP];exact rfl)|simp only[upP]|exact rfl))(H:Region.free md ops (up.setIfInBounds i true) (i+1)=true:=by kernel_rfl)(I:(Region.ready md ops (up.setIfInBounds i true)).contains (i+1)=true:=by kernel_rfl)(J:((Zz md ops (i+1)).contains z && qV md ops (i+1) (Zz md ops (i+1)) && (Zz md ops (i+1)).all λd=>!(up.setIfInBounds i true).getD d true)=true:=by kernel_rfl)(K:∀c a w,Q (.panic c) (a.put e.dst v1) w->Q (.panic c) a w:=by (first|exact λ_ _ _ h=>h|exact λ_ _ _ h=>nomatch h.1))(L:ops[i+2]? =some f:=by (simp only[List.getElem?_toArray];rfl))(M:Region.wanted f (yielded ops l.tmps)=true:=by rfl)(N:∀u,S u->(execOp l.eval f).run P u=.ok (.value v2) u:=by (intro u hu;(try dsimp only at hu);go_simp;(try with_reducible rfl)))(O:l.put f.dst v2=m:=by (first|(simp only[upP];exact rfl)|simp only[upP]|exact rfl))(R:Region.free md ops ((up.setIfInBounds i true).setIfInBounds (i+1) true) (i+2)=true:=by kernel_rfl)(T:(Region.ready md ops ((up.setIfInBounds i true).setIfInBounds (i+1) true)).contains (i+2)=true:=by kernel_rfl)(U:((Zz md ops (i+2)).contains z && qV md ops (i+2) (Zz md ops (i+2)) && (Zz md ops (i+2)).all λd=>!((up.setIfInBounds i true).setIfInBounds (i+1) true).getD d true)=true:=by kernel_rfl)(V:∀c a w,Q (.panic c) (a.put f.dst v2) w->Q (.panic c) a w:=by (first|exact λ_ _ _ h=>h|exact λ_ _ _ h=>nomatch h.1))(W:ops[i+3]? =some j:=by (simp only[List.getElem?_toArray];rfl))(X:Region.wanted j (yielded ops m.tmps)=true:=by rfl)(Y:∀u,S u->(execOp m.eval j).run P u=.ok (.value v3) u:=by (intro u hu;(try dsimp only at hu);go_simp;(try with_reducible rfl)))(Z:m.put j.dst v3=r:=by (first|(simp only[upP];exact rfl)|simp only[upP]|exact rfl))(a0:Region.free md ops (((up.setIfInBounds i true).setIfInBounds (i+1) true).setIfInBounds (i+2) true) (i+3)=true:=by kernel_rfl)(a1:(Region.ready md ops (((up.setIfInBounds i true).setIfInBounds (i+1) true).setIfInBounds (i+2) true)).contains (i+3)=true:=by kernel_rfl)(a2:((Zz md ops (i+3)).contains z && qV md ops (i+3) (Zz md ops (i+3)) && (Zz md ops (i+3)).all λd=>!(((up.setIfInBounds i true).setIfInBounds (i+1) true).setIfInBounds (i+2) true).getD d true)=true:=by kernel_rfl)(a3:∀c a w,Q (.panic c) (a.put j.dst v3) w->Q (.panic c) a w:=by (first|exact λ_ _ _ h=>h|exact λ_ _ _ h=>nomatch h.1))(q:Region.noSelect ops=true:=by kernel_rfl):Qk P md ops Q S z (n+4) up a w:=
 Qk.take i _ s q y A B C (Or.inl ⟨t,v⟩) p (by rw[x];exact (Qk.take (i+1) _ D q H I J K (Or.inl ⟨E,F⟩) p (by rw[G];exact (Qk.take (i+2) _ L q R T U V (Or.inl ⟨M,N⟩) p (by rw[O];exact (Qk.take (i+3) _ W q a0 a1 a2 a3 (Or.inl ⟨X,Y⟩) p (by rw[Z];exact h)))))))
end
def BN(w w':NN)(e:Ending):Prop:=∃s:NL,e=.returned (.string s)/\s.size<=2/\K_ w w'
def kU(i:Nat):NL:=⟨#[UInt8.ofNat (97+i)]⟩
theorem Ej{i j:Nat}(hi:i<26)(e:j<26)(h:kU i=kU j):i=j:=by
 have b:UInt8.ofNat (97+i)=UInt8.ofNat (97+j):=by
  have:=congrArg (λx:NL=>x.data.toList) h;simpa[kU] using this
 have d:=congrArg UInt8.toNat b;simp only[UInt8.toNat_ofNat'] at d;omega
theorem F_ :∀q,q<26->((⟨#[97,98,99,100,101,102,103,104,105,106,107,108,109,110,111,112,113,114,115,116,117,118,119,120,121,122]⟩:NL).extract q 26).extract 0 1=kU q:=E8
theorem v_(w:NN)(i:Nat)(hi:i<=100000):Calls prog 34 #[.a (i:Int)] w λe w'=>∃s:NL,e=.returned (.string s)/\s.size<=2/\(i<26->s=kU i)/\K_ w w':=by
 let⟨q,n⟩:=aj (i % 26);obtain⟨d,p⟩:∃q,q=i / 26 % 3:=⟨_,rfl⟩;let⟨j,r⟩:=aj (i / 26);have C:(i:Int).tmod 26= (q:Int):=by rw[Int.tmod_eq_emod_of_nonneg E5];omega
 have D:(i:Int).tdiv 26= (j:Int):=by rw[Int.tdiv_eq_ediv_of_nonneg E5];omega
 have E:(j:Int).tmod 3= (d:Int):=by rw[Int.tmod_eq_emod_of_nonneg E5];omega
 have t:q<26:=E5;have F:d<3:=E5;have G:IntKind.i64.wrap (j:Int)= (j:Int):=G6;have v:Hid (i<26->d=0/\q=i):=λk=>E5
 clear n p r;obtain⟨b,H,x,l⟩:∃b:NL,(∀w:NN,(Instr.slice 9 (.string ⟨#[97,98,99,100,101,102,103,104,105,106,107,108,109,110,111,112,113,114,115,116,117,118,119,120,121,122]⟩) (some (.a (q:Int))) none none).run prog w=.ok (.string b) w)/\(1:Int)<=b.size/\b= (⟨#[97,98,99,100,101,102,103,104,105,106,107,108,109,110,111,112,113,114,115,116,117,118,119,120,121,122]⟩:NL).extract q 26:=
  ⟨_,λw=>run_slice_string_l w 9 ⟨#[97,98,99,100,101,102,103,104,105,106,107,108,109,110,111,112,113,114,115,116,117,118,119,120,121,122]⟩ underlying9 .i64 (q:Int) E5 (by show (q:Int)<=((26:Nat):Int);omega),by
   rw[ByteArray.size_extract];show (1:Int)<=((min 26 26-(q:Int).toNat:Nat):Int);omega,rfl⟩
 obtain⟨h,I,y,m⟩:∃h:NL,(∀w:NN,(Instr.slice 9 (.string b) none (some (.a 1)) none).run prog w=.ok (.string h) w)/\h.size=1/\h=b.extract 0 1:=
  ⟨_,λw=>run_slice_string_h w 9 b underlying9 .i64 1 E5 x,by
   rw[ByteArray.size_extract];show min 1 b.size-0=1;omega,rfl⟩
 have z:Hid (h=kU q):=by rw[m,l];exact F_ q t
 clear l m;go_enter func34,ntmps34
 go_wp2
 refine Qk.region F4 (λw'=>K_ w w') 11 (aY w) λf=>?_;refine ae 0 f ?_;refine cK 1 (.a (q:Int)) f ?_ ?_
 .intro u c;try dsimp only at c
  go_simp
  try with_reducible rfl
 try simp only[upP]
 refine cK 2 (.string b) f ?_ ?_
 .intro u c;try dsimp only at c
  go_simp
  try with_reducible rfl
 try simp only[upP]
 refine cK 3 (.string h) f ?_ ?_
 .intro u c;try dsimp only at c
  go_simp
  try with_reducible rfl
 try simp only[upP]
 refine ae 5 f ?_;refine cK 6 (.a (j:Int)) f ?_ ?_
 .intro u c;try dsimp only at c
  go_simp
  try with_reducible rfl
 try simp only[upP]
 refine cK 7 (.a (d:Int)) f ?_ ?_
 .intro u c;try dsimp only at c
  go_simp
  try with_reducible rfl
 try simp only[upP]
 refine aG 4 λK a=>?_;go_simp
 refine af a (λ_=>I9) ?_;clear a K;have A:d=0\/d=1\/d=2:=E5;obtain rfl|rfl|rfl:=A
 all_goals
  refine aG 8 λK a=>?_;go_simp
  refine af a (λ_=>I9) ?_;clear a K;refine aG 9 λK a=>?_;go_simp
  refine af a (λ_=>I9) ?_;clear a K;refine aG 10 λK a=>?_;go_simp
  refine af a (λ_=>I9) ?_;clear a K;refine ai 11 λK a=>?_;go_simp
  refine af a (λk=>NB rfl k) ?_;clear a K;refine aC ?_;go_wp2
  go_ret
  exact⟨_,rfl,by rw[ByteArray.size_append,y];decide,λk=>(by
   let⟨J,B⟩:=v.o k
   first
    |(exfalso;omega)
    |(rw[z.o,B];exact ByteArray.ext (by simp[kU]))),(ah w _).drew⟩
theorem ni(w:NN)(i:Nat)(hi:i<=100000):Calls prog 34 #[.a (i:Int)] w λe w'=>BN w w' e:=(v_ w i hi).mono λ_ _ ⟨s,b,c,_,d⟩=>⟨s,b,c,d⟩
variable {bs:List UInt8}{cap p rb:Nat}{a:NM}{w w':NN}
theorem Rd.kept(h:Rd w rb a cap bs p)(k:K_ w w'):Rd w' rb a cap bs p:=by
 refine⟨h.row.kept k,by rw[k.cell h.row.lt];exact h.c0,by rw[k.cell h.row.lt];exact h.c1,λi d=>?_⟩;let⟨b,o,e,f,c,j⟩:=h.bytes i d;exact⟨b,o,e,f,Mk c k.size,by rw[k.cell c];exact j⟩
def KH(w w':NN)(rb:Nat)(a:NM)(cap:Nat)(bs:List UInt8)(p t m:Nat)(e:Ending):Prop:=∃(s:NL)(p':Nat),e=.returned (.string s)/\s.size<=m/\p<=p'/\p'<=p+t/\Rd w' rb a cap bs p'/\Xj rb (rb+1) w w'
theorem aN(w:NN)(rb:Nat)(a:NM)(cap:Nat)(bs:List UInt8)(p:Nat)(m:Int)(n:Nat)(b:m= (n:Int))(c:Rd w rb a cap bs p)(d:p<=1000000)(f:n<=100000)(h:bs.length<=2000):Calls prog 35 #[.c rb,.a m] w λe w'=>Jr w w' rb a cap bs p n e:=by
 rw[b];exact oQ w rb a cap bs p n c d f h
variable {hi lo:Nat}
theorem Xj.fV{a b c:NN}(h:Xj lo hi a b)(k:K_ b c):Xj lo hi a c:=h.trans (.ax k)
theorem JS(w:NN)(rb:Nat)(a:NM)(cap:Nat)(bs:List UInt8)(p i n:Nat)(y:Rd w rb a cap bs p)(O:p<=900000)(hi:i<=100000)(z:n<=100000)(A:bs.length<=2000):Calls prog 78 #[.c rb,.a (i:Int),.a (n:Int)] w λe w'=>KH w w' rb a cap bs p 2 4 e:=by
 go_enter func78,ntmps78
 go_wp2_with fail
 refine (aN _ rb a cap bs p _ 12 rfl y E5 E5 A).mono ?_;rintro e J ⟨v,rfl,l,B,C⟩;have⟨D,E⟩:=aH B C;clear B C y;by_cases k:v=0
 .have K:((v:Int) == 0)=true:=by simp[k]
  clear l;go_wp2
  go_ret
  exact⟨_,p+1,rfl,E8,E5,E5,D.o,E.o⟩
 .have K:((v:Int) == 0)=false:=by simpa using k
  have F:∀m:Nat,m<=100000->Calls prog 35 #[.c rb,.a (m:Int)] J λe w'=>∃q:Nat,e=.returned (.a (q:Int))/\q<=100000/\Rd w' rb a cap bs (p+2)/\Xj rb (rb+1) w w':=by
   intro m L;refine (oQ _ rb a cap bs (p+1) m D.o E5 L A).mono ?_;rintro e r ⟨q,rfl,f,b,c⟩;exact⟨q,rfl,E5,b,E.o.trans c⟩
  have t:=Kz F;clear F;by_cases x:v=1
  .have M:((v:Int) == 1)=true:=by simp[x]
   clear l k x;go_wp2_with fail
   refine (t.o n z).mono ?_;rintro e r ⟨q,rfl,f,b,c⟩;have⟨h,j⟩:=aH b c;clear b c;go_wp2_with fail
   refine (ni _ q f).mono ?_;rintro e G ⟨s,rfl,H,d⟩;go_wp2
   go_ret
   exact⟨s,p+2,rfl,E5,E5,E5,h.o.kept d,j.o.fV d⟩
  .have M:((v:Int) == 1)=false:=F6;clear l k x;by_cases I:i=0
   .have N:((i:Int) == 0)=true:=by simp[I]
    go_wp2_with fail
    refine (t.o n z).mono ?_;rintro e r ⟨q,rfl,f,b,c⟩;have⟨h,j⟩:=aH b c;clear b c;go_wp2_with fail
    refine (ni _ q f).mono ?_;rintro e G ⟨s,rfl,H,d⟩;go_wp2
    go_ret
    exact⟨s,p+2,rfl,E5,E5,E5,h.o.kept d,j.o.fV d⟩
   .have N:((i:Int) == 0)=false:=by simpa using I
    go_wp2_with fail
    refine (t.o i hi).mono ?_;rintro e r ⟨q,rfl,f,b,c⟩;have⟨h,j⟩:=aH b c;clear b c;go_wp2_with fail
    refine (ni _ q f).mono ?_;rintro e G ⟨s,rfl,H,d⟩;go_wp2
    go_ret
    exact⟨s,p+2,rfl,E5,E5,E5,h.o.kept d,j.o.fV d⟩
theorem Cu(w:NN)(s:NL)(n:Nat)(x:n<=1000)(z:s.size<=100):Calls prog 82 #[.string s,.a (n:Int)] w λe w'=>(∃t:NL,e=.returned (.string t)/\t.size<=n*s.size)/\w'=w:=by
 let⟨B,c⟩:=aj (n*s.size);have F:B<=100000:=by rw[c];exact Mm (Nat.mul_le_mul x z) E5
 rw[<-c];have l:=Kz c;clear c;go_enter func82,ntmps82
 go_wp2
 go_loop [0,1,5] (λA y C=>∃(a o:NL)(m:Nat),A=.string a/\y=.a (m:Int)/\C=.string o/\m<=n/\o.size+m*a.size<=B/\(m=0\/a.size<=B)) (λ_ y _=>(intOf y).toNat)
 case atStart=>
  refine⟨s,_,n,rfl,rfl,rfl,Mj _,?_,?_⟩
  .have:=l.o;show 0+n*s.size<=B;omega
  .by_cases f:n=0
   .exact .inl f
   .refine .inr ?_;rw[l.o];exact Nat.le_mul_of_pos_left _ E5
 case round=>
  obtain⟨a,o,m,rfl,rfl,rfl,G,h,i⟩:=hrel;by_cases p:m=0
  .have D:¬(0:Int)<(m:Int):=E5;have r:o.size<=B:=E5;clear h i;go_wp2
   go_ret
   exact⟨⟨o,rfl,r⟩,rfl⟩
  .have D:(0:Int)<(m:Int):=E5;have H:a.size<=B:=E5;have r:o.size<=B:=E5;let⟨q,v⟩:=aj (m / 2);have I:(m:Int) / 2= (q:Int):=E5;have J:q<m:=E5;have d:q=0\/(a++a).size<=B:=by
    rw[ByteArray.size_append];by_cases f:q=0
    .exact .inl f
    .have:2*a.size<=m*a.size:=Nat.mul_le_mul_right _ E5;omega
   by_cases K:m % 2=1
   .have E:(m:Int) % 2=1:=E5;have b:(o++a).size+q*(a++a).size<=B:=by
     rw[ByteArray.size_append,ByteArray.size_append];have:m*a.size=q*(a.size+a.size)+a.size:=by
      rw[show m=q+q+1 by omega,Nat.add_mul,Nat.add_mul,Nat.mul_add];omega
     omega
    have⟨j,k⟩:=aH b d;clear b d h i v p;go_wp2
    go_round
    case rel=>exact⟨a++a,o++a,q,rfl,F3,rfl,E5,j.o,k.o⟩
    case measure=>simp[intOf];omega
   .have E:(m:Int) % 2=0:=E5;have b:o.size+q*(a++a).size<=B:=by
     rw[ByteArray.size_append];have:m*a.size=q*(a.size+a.size):=by
      rw[show m=q+q by omega,Nat.add_mul,Nat.mul_add]
     omega
    have⟨j,k⟩:=aH b d;clear b d h i v p;go_wp2
    go_round
    case rel=>exact⟨a++a,o,q,rfl,F3,rfl,E5,j.o,k.o⟩
    case measure=>simp[intOf];omega
def Lg(w w':NN)(m:Nat)(e:Ending):Prop:=∃s:NL,e=.returned (.string s)/\s.size<=m/\K_ w w'
theorem uk(w:NN)(n:Nat)(b:n<10):Calls prog 80 #[.a (n:Int)] w λe w'=>Lg w w' 1 e:=by
 have c:(n:Int)<10:=E5;have d:(convert 22 9 (.b w.heap.size 1 1)).run prog (w.alloc (.cells #[.int .u8 (48+(n:Int))] 5))=.ok (.string (strOfNums [48+(n:Int)])) (w.alloc (.cells #[.int .u8 (48+(n:Int))] 5)):=
  run_convert_bytes_arg (P:=prog) _ 22 5 underlying22 underlying5 w.heap.size 0 1 1 [48+(n:Int)] rfl (λi f=>by
   obtain rfl:i=0:=E5;rw[World.cell?_alloc_mark];rfl) 9 underlying9
 go_enter func80,ntmps80
 go_wp2
 go_ret
 exact⟨_,rfl,by rw[strOfNums_size];exact Mj 1,ah w _⟩
theorem IW(w:NN)(rb:Nat)(a:NM)(cap:Nat)(bs:List UInt8)(p:Nat)(C:Rd w rb a cap bs p)(R:p<=900000)(D:bs.length<=2000):Calls prog 81 #[.c rb] w λe w'=>KH w w' rb a cap bs p 2 31 e:=by
 go_enter func81,ntmps81
 go_wp2_with fail
 refine (aN _ rb a cap bs p _ 10 rfl C E5 E5 D).mono ?_;rintro e J ⟨v,rfl,d,E,F⟩;have⟨r,s⟩:=aH E F;clear E F C;have G:∀(m:Int)(n:Nat),m= (n:Int)->n<=100000->Calls prog 35 #[.c rb,.a m] J λe w'=>∃q:Nat,e=.returned (.a (q:Int))/\q<=n-1/\Rd w' rb a cap bs (p+2)/\Xj rb (rb+1) w w':=by
  intro m n t K;refine (aN _ rb a cap bs (p+1) m n t r.o E5 K D).mono ?_;rintro e x ⟨q,rfl,y,b,c⟩;exact⟨q,rfl,E5,b,s.o.trans c⟩
 have z:=Kz G;clear G;by_cases f:v=0
 .have L:((v:Int) == 0)=true:=by simp[f]
  clear d;go_wp2
  go_ret
  exact⟨_,p+1,rfl,E8,E5,E5,r.o,s.o⟩
 have L:((v:Int) == 0)=false:=by simpa using f
 by_cases k:v=1
 .have M:((v:Int) == 1)=true:=by simp[k]
  clear d;go_wp2
  go_ret
  exact⟨_,p+1,rfl,E8,E5,E5,r.o,s.o⟩
 have M:((v:Int) == 1)=false:=F6;by_cases l:v=3
 .have N:((v:Int) == 3)=true:=by simp[l]
  clear d f k l;go_wp2_with fail
  refine (z.o _ 6 rfl E5).mono ?_;rintro e x ⟨q,rfl,y,b,c⟩;have⟨h,i⟩:=aH b c;clear b c;go_wp2_with fail
  refine (ni _ q E5).mono ?_;rintro e H ⟨A,rfl,O,j⟩;go_wp2
  go_ret
  exact⟨_,p+2,rfl,by rw[ByteArray.size_append];show 6+A.size<=31;omega,E5,E5,h.o.kept j,i.o.fV j⟩
 have N:((v:Int) == 3)=false:=F6;by_cases B:v=2
 .have P:((v:Int) == 2)=true:=by simp[B]
  clear d f k B l;go_wp2_with fail
  refine (z.o _ 2 rfl E5).mono ?_;rintro e x ⟨q,rfl,y,b,c⟩;have⟨h,i⟩:=aH b c;clear b c;obtain⟨m,t⟩:∃m:Nat,m=30-q:=⟨_,rfl⟩;have S:30-(q:Int)= (m:Int):=E5;have T:m<=30:=E5;clear t;go_wp2_with fail
  refine (Cu _ ⟨#[103]⟩ m E5 E8).mono ?_;rintro e H ⟨⟨Q,rfl,I⟩,rfl⟩;have U:Q.size<=30:=by
   have:(⟨#[103]⟩:NL).size=1:=rfl;rw[this] at I;omega
  clear I;go_wp2
  go_ret
  exact⟨_,p+2,rfl,E5,E5,E5,h.o,i.o⟩
 have P:((v:Int) == 2)=false:=F6;clear d f k B l;go_wp2_with fail
 refine (z.o _ 3 rfl E5).mono ?_;rintro e x ⟨q,rfl,y,b,c⟩;have⟨h,i⟩:=aH b c;clear b c;go_wp2_with fail
 refine (uk _ q E5).mono ?_;rintro e H ⟨A,rfl,O,j⟩;go_wp2
 go_ret
 exact⟨_,p+2,rfl,by rw[ByteArray.size_append];show 1+A.size<=31;omega,E5,E5,h.o.kept j,i.o.fV j⟩
theorem Tryz.gJ :(prog.info? 9).map (λi=>(i.zero,i.size,i.bytes))=some (some (.string ByteArray.empty),1,16):=F4
theorem Tryz.qH :(prog.info? 131).map (λi=>(i.zero,i.size,i.bytes))=some (some (.agg #[.string ByteArray.empty,.a 0]),2,24):=F4
theorem Tryz.kH :(prog.info? 128).map (λi=>(i.zero,i.size,i.bytes))=some (some (.agg #[M3,.a 0,M3,.a 0,.a 0,.bool false,.bool false,.string ByteArray.empty]),8,96):=F4
theorem Tryz.iN :(prog.info? 31).map (·.size)=some 2:=F4
theorem aT{P:Program}{e:TypeId}{z:NP}{size b:Nat}(h:(P.info? e).map (λi=>(i.zero,i.size,i.bytes))=some (some z,size,b)):∃i,P.info? e=some i/\i.zero=some z/\i.size=size/\i.bytes=b:=by
 let⟨i,d,a⟩:=Option.map_eq_some_iff.1 h;simp only[Prod.mk.injEq] at a;exact⟨i,d,a.1,a.2.1,a.2.2⟩
theorem w_(l:List NL):∀u∈l.map Value.string,u.oneCell'=true:=by
 intro u a;obtain⟨x,_,rfl⟩:=MM.1 a
 rfl
variable {l:List NL}{base n:Nat}{t:TypeId}{v:NP}
theorem dw(h:w.ownsRow base t 1 v n (l.map Value.string)):∃a cap,v=.slice a l.length cap/\l.length<=cap/\eX w t a l:=by
 have c:n=l.length:=by have:=h.1;simp at this;omega
 subst c;rcases h.2 with⟨rfl,b⟩|⟨g,cap,d,rfl,k,e,f,_,_,_⟩
 .exact⟨none,0,by rw[b],E5,.inl (NE b)⟩
 .refine⟨_,cap,rfl,f,.inr ⟨g,d,_,rfl,e,λi j=>?_⟩⟩;have:=h.cells (g:=g) rfl i (.string (l.getD i ByteArray.empty)) (by simp[List.getD,j]);rw[Nf,MR] at this;exact this
def bi(l:List bU):List NP:=(l.map bU.cells).flatten
theorem iP(l:List bU):(bi l).length=l.length*2:=by
 induction l with
 |nil=>rfl
 |cons c r ih=>simp only[bi,List.map_cons,List.flatten_cons,M_,Nc] at ih⊢;rw[ih];simp[bU.cells];omega
theorem vv(l:List bU)(c:bU):bi (l++[c])=bi l++c.cells:=by simp[bi]
theorem wZ(l:List bU):∀u∈bi l,u.oneCell'=true:=by
 intro u a;simp only[bi,List.mem_flatten,MM] at a;obtain⟨_,⟨c,_,rfl⟩,a⟩:=a;simp only[bU.cells,Nh,Ni,or_false] at a;rcases a with rfl|rfl<;>rfl
theorem lq :∀(l:List bU)(i j:Nat),i<l.length->j<2->(bi l)[i*2+j]? = ((l.getD i bU.zero).cells)[j]?
 |[],_,_,h,_=>aO h
 |c :: r,0,j,_,hj=>by
  have e:bi (c :: r)=c.cells++bi r:=rfl;rw[e,Nat.zero_mul,MR,Np (by simpa[bU.cells] using hj)]
  rfl
 |c :: r,i+1,j,h,hj=>by
  have e:bi (c :: r)=c.cells++bi r:=rfl;have b:c.cells.length=2:=rfl;rw[e,Nq (by rw[b];omega),b,show (i+1)*2+j-2=i*2+j by omega,lq r i j (by simpa using h) hj]
  rfl
theorem lT{l:List bU}(h:w.ownsRow base t 2 v n (bi l)):∃a cap,v=.slice a l.length cap/\pW w t a l:=by
 have d:n=l.length:=by have:=h.1;rw[iP] at this;omega
 subst d;rcases h.2 with⟨rfl,b⟩|⟨g,cap,e,rfl,p,f,q,_,_,_⟩
 .exact⟨none,0,by rw[b],.inl (NE b)⟩
 .refine⟨_,cap,rfl,.inr ⟨g,e,_,rfl,f,λi k j u c=>?_⟩⟩;have m:j<2:=by have:=(Mr.1 c).1;simpa[bU.cells] using this
  have:=h.cells (g:=g) rfl (i*2+j) u (by rw[lq l i j k m];exact c);rw[Nf,MR] at this;exact this
theorem jm(s:Xq)(a:NM)(b:Nat)(c:NM)(d:Nat):∀u∈s.cells a b c d,u.oneCell'=true:=by
 intro u e;have:=Xq.one s a b c d;rw[Array.all_eq_true_iff_forall_mem] at this;exact this u (by simpa using e)
theorem Xj.sameKind(h:Xj rb (rb+1) w w')(d:Rd w rb a cap bs p):aD 125 w w':=by
 intro c i u j e b;let⟨k,f,_⟩:=d.row;have l:c≠rb:=by
  rintro rfl;rw[f] at b;simp only[Na,Obj.cells.injEq] at b;exact e b.2.1.symm
 rw[h.block c (aM b) E5];exact b
theorem Xj.cell(h:Xj lo hi w w'){b o:Nat}(c:b<w.heap.size)(d:b<lo\/hi<=b):w'.cell? ⟨b,o,none⟩=w.cell? ⟨b,o,none⟩:=MC (w:=w) (h.block b c d)
theorem ay.but{b:Nat}(h:ay w b t n)(k:Xj lo hi w w')(c:b<lo\/hi<=b):ay w' b t n:=h.block (k.block b h.lt c)
variable {x:Int}
theorem nV(h: -1000<=x/\x<=1000):In64 x:=by unfold In64;omega
def bU.Tiny(c:bU):Prop:=c.text.size<=300/\ -1000<=c.goto/\c.goto<=1000
structure Xq.TinyN (m:Nat)(s:Xq):Prop where
 asks:s.asks.length<=m
 eQ:∀x∈s.asks,x.size<=300
 on: -1000<=s.on/\s.on<=1000
 cases:s.cases.length<=m
 dH:∀c∈s.cases,c.Tiny
 els:In64 s.els
 fall: -1000<=s.fall/\s.fall<=1000
 give:s.give.size<=300
variable {s:Xq}
theorem Xq.TinyN.fits{m:Nat}(h:s.TinyN m)(d:m<=1000):s.Fits:=by
 have:=h.asks;have:=h.cases;have:=h.on;have:=h.fall;have:=h.give;refine⟨?_,λx b=>?_,?_,?_,λc a=>⟨?_,?_⟩,?_,?_,?_⟩
 all_goals first|exact h.els|(unfold maxLen;omega)|(unfold In64;omega)|skip
 .have:=h.eQ x b;unfold maxLen;omega
 .have:=(h.dH c a).1;unfold maxLen;omega
 .have:=(h.dH c a).2;unfold In64;omega
abbrev Xq.Tiny (s:Xq):Prop:=Xq.TinyN 20 s
theorem Xq.TinyN.mono{m:Nat}(h:s.TinyN m)(b:m<=n):s.TinyN n:=⟨Mm h.asks b,h.eQ,h.on,Mm h.cases b,h.dH,h.els,h.fall,h.give⟩
structure dG (w:NN)(sb:Nat)(va vc:NP)(s:Xq):Prop where
 row:ay w sb 128 8
 c0:w.cell? ⟨sb,0,none⟩=some va
 c1:w.cell? ⟨sb,1,none⟩=some (.a s.on)
 c2:w.cell? ⟨sb,2,none⟩=some vc
 c3:w.cell? ⟨sb,3,none⟩=some (.a s.els)
 c4:w.cell? ⟨sb,4,none⟩=some (.a s.fall)
 c5:w.cell? ⟨sb,5,none⟩=some (.bool s.fin)
 c6:w.cell? ⟨sb,6,none⟩=some (.bool s.bad)
 c7:w.cell? ⟨sb,7,none⟩=some (.string s.give)
variable {sb:Nat}{va vc:NP}
theorem dG.block(h:dG w sb va vc s)(k:w'.heap[sb]? =w.heap[sb]?):dG w' sb va vc s:=by
 have b:∀o,w'.cell? ⟨sb,o,none⟩=w.cell? ⟨sb,o,none⟩:=λo=>MC (w:=w) k
 exact⟨h.row.block k,(b _).trans h.c0,(b _).trans h.c1,(b _).trans h.c2,(b _).trans h.c3,(b _).trans h.c4,(b _).trans h.c5,(b _).trans h.c6,(b _).trans h.c7⟩
theorem dG.kept(h:dG w sb va vc s)(k:K_ w w'):dG w' sb va vc s:=h.block (k.block sb h.row.lt)
theorem dG.cell(h:dG w sb va vc s){o:Nat}(b:o<8):(∃v,w.cell? ⟨sb,o,none⟩=some v)/\w.frozen? ⟨sb,o,none⟩=false:=h.row.row.at b
theorem dG.made(w:NN)(els fall:Int):dG (w.alloc (.cells #[M3,.a 0,M3,.a els,.a fall,.bool false,.bool false,.string ⟨#[]⟩] 128)) w.heap.size M3 M3 ⟨[],0,[],els,fall,false,false,⟨#[]⟩⟩:=by
 have d:=X_ w #[M3,.a 0,M3,.a els,.a fall,.bool false,.bool false,.string ⟨#[]⟩] 128;have a:∀j v,(#[M3,.a 0,M3,.a els,.a fall,.bool false,.bool false,.string ⟨#[]⟩]:Array NP).toList[j]? =some v->M4 (w.alloc (.cells #[M3,.a 0,M3,.a els,.a fall,.bool false,.bool false,.string ⟨#[]⟩] 128)) w.heap.size j v:=λj v e=>by
  have:=d j v e;rw[MR] at this;exact this
 exact⟨ay.made w _ _,a 0 _ rfl,a 1 _ rfl,a 2 _ rfl,a 3 _ rfl,a 4 _ rfl,a 5 _ rfl,a 6 _ rfl,a 7 _ rfl⟩
theorem dG.on(h:dG w sb va vc s)(x:Int):dG (w.setCell ⟨sb,1,none⟩ (.a x)) sb va vc {s with on:=x}:=⟨h.row.set _,(Xk E5 _).trans h.c0,aR h.row.row E5 _,(Xk E5 _).trans h.c2,(Xk E5 _).trans h.c3,(Xk E5 _).trans h.c4,(Xk E5 _).trans h.c5,(Xk E5 _).trans h.c6,(Xk E5 _).trans h.c7⟩
theorem dG.els(h:dG w sb va vc s)(x:Int):dG (w.setCell ⟨sb,3,none⟩ (.a x)) sb va vc {s with els:=x}:=⟨h.row.set _,(Xk E5 _).trans h.c0,(Xk E5 _).trans h.c1,(Xk E5 _).trans h.c2,aR h.row.row E5 _,(Xk E5 _).trans h.c4,(Xk E5 _).trans h.c5,(Xk E5 _).trans h.c6,(Xk E5 _).trans h.c7⟩
theorem dG.fall(h:dG w sb va vc s)(x:Int):dG (w.setCell ⟨sb,4,none⟩ (.a x)) sb va vc {s with fall:=x}:=⟨h.row.set _,(Xk E5 _).trans h.c0,(Xk E5 _).trans h.c1,(Xk E5 _).trans h.c2,(Xk E5 _).trans h.c3,aR h.row.row E5 _,(Xk E5 _).trans h.c5,(Xk E5 _).trans h.c6,(Xk E5 _).trans h.c7⟩
theorem dG.fin(h:dG w sb va vc s)(x:Bool):dG (w.setCell ⟨sb,5,none⟩ (.bool x)) sb va vc {s with fin:=x}:=⟨h.row.set _,(Xk E5 _).trans h.c0,(Xk E5 _).trans h.c1,(Xk E5 _).trans h.c2,(Xk E5 _).trans h.c3,(Xk E5 _).trans h.c4,aR h.row.row E5 _,(Xk E5 _).trans h.c6,(Xk E5 _).trans h.c7⟩
theorem dG.bad(h:dG w sb va vc s)(x:Bool):dG (w.setCell ⟨sb,6,none⟩ (.bool x)) sb va vc {s with bad:=x}:=⟨h.row.set _,(Xk E5 _).trans h.c0,(Xk E5 _).trans h.c1,(Xk E5 _).trans h.c2,(Xk E5 _).trans h.c3,(Xk E5 _).trans h.c4,(Xk E5 _).trans h.c5,aR h.row.row E5 _,(Xk E5 _).trans h.c7⟩
theorem dG.give(h:dG w sb va vc s)(x:NL):dG (w.setCell ⟨sb,7,none⟩ (.string x)) sb va vc {s with give:=x}:=⟨h.row.set _,(Xk E5 _).trans h.c0,(Xk E5 _).trans h.c1,(Xk E5 _).trans h.c2,(Xk E5 _).trans h.c3,(Xk E5 _).trans h.c4,(Xk E5 _).trans h.c5,(Xk E5 _).trans h.c6,aR h.row.row E5 _⟩
theorem dG.asks(h:dG w sb va vc s)(v:NP)(l:List NL):dG (w.setCell ⟨sb,0,none⟩ v) sb v vc {s with asks:=l}:=⟨h.row.set _,aR h.row.row E5 _,(Xk E5 _).trans h.c1,(Xk E5 _).trans h.c2,(Xk E5 _).trans h.c3,(Xk E5 _).trans h.c4,(Xk E5 _).trans h.c5,(Xk E5 _).trans h.c6,(Xk E5 _).trans h.c7⟩
theorem dG.cases(h:dG w sb va vc s)(v:NP)(l:List bU):dG (w.setCell ⟨sb,2,none⟩ v) sb va v {s with cases:=l}:=⟨h.row.set _,(Xk E5 _).trans h.c0,(Xk E5 _).trans h.c1,aR h.row.row E5 _,(Xk E5 _).trans h.c3,(Xk E5 _).trans h.c4,(Xk E5 _).trans h.c5,(Xk E5 _).trans h.c6,(Xk E5 _).trans h.c7⟩
theorem dG.same(h:dG w sb va vc s)(k:aD t w w')(c:128≠t):dG w' sb va vc s:=by
 let⟨d,b,_⟩:=h.row;exact h.block ((k sb d _ _ c b).trans b.symm)
structure gD (m:Nat)(W wr:NN)(rb sb:Nat)(a:NM)(cap:Nat)(bs:List UInt8)(p:Nat)(va vc:NP)(s:Xq):Prop where
 rd:Rd wr rb a cap bs p
 rd0:∃p0,Rd W rb a cap bs p0
 sbl:W.heap.size<=sb
 kb:Xj rb (rb+1) W wr
 box:dG wr sb va vc s
 asks:wr.ownsRow W.heap.size 9 1 va s.asks.length (s.asks.map Value.string)
 cases:wr.ownsRow W.heap.size 131 2 vc s.cases.length (bi s.cases)
 tiny:s.TinyN m
variable {mN:Nat}{W wr:NN}
theorem gD.rbl(h:gD mN W wr rb sb a cap bs p va vc s):rb<W.heap.size:=let ⟨_,h0⟩:=h.rd0;h0.row.lt
theorem gD.drawn{c:Nat}(h:gD mN W wr rb sb a cap bs p va vc s)(e:Rd w' rb a cap bs c)(k:Xj rb (rb+1) wr w'):gD mN W w' rb sb a cap bs c va vc s:=by
 have d:=k.sameKind h.rd;have:=h.rbl;have:=h.sbl;exact⟨e,h.rd0,h.sbl,h.kb.trans k,h.box.block (k.block sb h.box.row.lt E5),aV h.asks d E8,aV h.cases d E8,h.tiny⟩
theorem gD.kept(h:gD mN W wr rb sb a cap bs p va vc s)(k:K_ wr w'):gD mN W w' rb sb a cap bs p va vc s:=h.drawn (h.rd.kept k) (.ax k)
theorem Rd.below{n:Nat}(h:Rd w rb a cap bs p)(i:Rd W rb a cap bs n)(k:Below W.heap.size w w')(_hz:W.heap.size<=w.heap.size):Rd w' rb a cap bs p:=by
 have c:∀b o,b<W.heap.size->w'.cell? ⟨b,o,none⟩=w.cell? ⟨b,o,none⟩:=λb o d=>MC (w:=w) (k.block b d)
 have e:=i.row.lt;have s:=k.size;refine⟨h.row.block (k.block _ e),(c _ _ e).trans h.c0,(c _ _ e).trans h.c1,λj l=>?_⟩;let⟨b,o,m,q,_,r⟩:=h.bytes j l;let⟨t,v,f,_,d,_⟩:=i.bytes j l;rw[m] at f;simp only[Na,NI,and_true] at f;obtain⟨rfl,rfl⟩:=f;exact⟨b,o,m,q,E5,by rw[c _ _ d];exact r⟩
theorem gD.field{b:Xq}(h:gD mN W wr rb sb a cap bs p va vc s){o:Nat}(e:dG (wr.setCell ⟨sb,o,none⟩ v) sb va vc b)(f:b.asks=s.asks)(i:b.cases=s.cases)(j:b.TinyN mN):gD mN W (wr.setCell ⟨sb,o,none⟩ v) rb sb a cap bs p va vc b:=by
 have c:=h.box.row.same (o:=o) v;have d:Below W.heap.size wr (wr.setCell ⟨sb,o,none⟩ v):=(Below.refl _ _).setCell h.sbl v;let⟨l,k⟩:=h.rd0;exact⟨h.rd.below k d h.kb.size,h.rd0,h.sbl,h.kb.below d,e,by rw[f];exact aV h.asks c E8,by rw[i];exact aV h.cases c E8,j⟩
theorem gD.on(h:gD mN W wr rb sb a cap bs p va vc s)(c: -1000<=x/\x<=1000):gD mN W (wr.setCell ⟨sb,1,none⟩ (.a x)) rb sb a cap bs p va vc {s with on:=x}:=h.field (h.box.on x) rfl rfl ⟨h.tiny.asks,h.tiny.eQ,c,h.tiny.cases,h.tiny.dH,h.tiny.els,h.tiny.fall,h.tiny.give⟩
theorem gD.els(h:gD mN W wr rb sb a cap bs p va vc s)(c: -1000<=x/\x<=1000):gD mN W (wr.setCell ⟨sb,3,none⟩ (.a x)) rb sb a cap bs p va vc {s with els:=x}:=h.field (h.box.els x) rfl rfl ⟨h.tiny.asks,h.tiny.eQ,h.tiny.on,h.tiny.cases,h.tiny.dH,nV c,h.tiny.fall,h.tiny.give⟩
theorem gD.fall(h:gD mN W wr rb sb a cap bs p va vc s)(c: -1000<=x/\x<=1000):gD mN W (wr.setCell ⟨sb,4,none⟩ (.a x)) rb sb a cap bs p va vc {s with fall:=x}:=h.field (h.box.fall x) rfl rfl ⟨h.tiny.asks,h.tiny.eQ,h.tiny.on,h.tiny.cases,h.tiny.dH,h.tiny.els,c,h.tiny.give⟩
variable {w1 w2:NN}
theorem gD.uG(h:gD mN W wr rb sb a cap bs p va vc s)(c:K_ wr w1)(d:w1.grownBy w2 va.ownBlock):dG w2 sb va vc s:=(h.kept c).box.same (aD.aI (h.kept c).asks d) E8
theorem gD.Bo(h:gD mN W wr rb sb a cap bs p va vc s)(c:K_ wr w1)(d:w1.grownBy w2 vc.ownBlock):dG w2 sb va vc s:=(h.kept c).box.same (aD.aI (h.kept c).cases d) E8
theorem gD.qj{c:NP}{x:NL}(h:gD mN W wr rb sb a cap bs p va vc s)(l:K_ wr w1)(m:w2.ownsRow W.heap.size 9 1 c (s.asks.length+1) (s.asks.map Value.string++[.string x]))(f:w1.grownBy w2 va.ownBlock)(n:s.asks.length+1<=mN)(q:x.size<=300):gD mN W (w2.setCell ⟨sb,0,none⟩ c) rb sb a cap bs p c vc {s with asks:=s.asks++[x]}:=by
 have b:=h.kept l;have d:=aD.aI b.asks f;have i:=b.box.same d E8;have j:=i.row.same (o:=0) c;have k:Below W.heap.size w1 (w2.setCell ⟨sb,0,none⟩ c):=((Below.refl _ _).grown f b.kb.size λr d=>(b.asks.lt r d).1).setCell h.sbl c;let⟨v,t⟩:=h.rd0;refine⟨b.rd.below t k b.kb.size,h.rd0,h.sbl,b.kb.below k,i.asks c _,?_,aV (aV b.cases d E8) j E8,?_⟩
 .have:=aV m j E8;simpa using this
 .refine⟨by simpa using n,λy e=>?_,h.tiny.on,h.tiny.cases,h.tiny.dH,h.tiny.els,h.tiny.fall,h.tiny.give⟩;simp only[Mv,Mt] at e;rcases e with e|rfl
  .exact h.tiny.eQ y e
  .exact q
theorem gD.tK{c:NP}{x:bU}(h:gD mN W wr rb sb a cap bs p va vc s)(l:K_ wr w1)(m:w2.ownsRow W.heap.size 131 2 c (s.cases.length+1) (bi s.cases++x.cells))(f:w1.grownBy w2 vc.ownBlock)(n:s.cases.length+1<=mN)(q:x.Tiny):gD mN W (w2.setCell ⟨sb,2,none⟩ c) rb sb a cap bs p va c {s with cases:=s.cases++[x]}:=by
 have b:=h.kept l;have d:=aD.aI b.cases f;have i:=b.box.same d E8;have j:=i.row.same (o:=2) c;have k:Below W.heap.size w1 (w2.setCell ⟨sb,2,none⟩ c):=((Below.refl _ _).grown f b.kb.size λr d=>(b.cases.lt r d).1).setCell h.sbl c;let⟨v,t⟩:=h.rd0;refine⟨b.rd.below t k b.kb.size,h.rd0,h.sbl,b.kb.below k,i.cases c _,aV (aV b.asks d E8) j E8,?_,?_⟩
 .have:=aV m j E8;rw[<-vv] at this;simpa using this
 .refine⟨h.tiny.asks,h.tiny.eQ,h.tiny.on,by simpa using n,λy e=>?_,h.tiny.els,h.tiny.fall,h.tiny.give⟩;simp only[Mv,Mt] at e;rcases e with e|rfl
  .exact h.tiny.dH y e
  .exact q
def kQ(cs:List NP):Prop:=∀n c,Value.slice none n c∈cs->n=0/\c=0
variable {xs:List NP}
theorem kQ.append{cs:List NP}(h:kQ xs)(k:kQ cs):kQ (xs++cs):=λn c e=>by
 rcases Mv.1 e with a|a
 .exact h n c a
 .exact k n c a
theorem iV{size:Nat}{e:TypeId}{c m:Nat}(h:w.ownsRow base e size (.slice none n c) m xs):n=0/\c=0:=by
 rcases h.2 with⟨e,_⟩|⟨g,b,d,e,_⟩
 .simp only[Nb,true_and] at e;exact e
 .simp at e
theorem kD{a b:NM}{c d:Nat}(h:a=none->s.asks.length=0/\c=0)(h2:b=none->s.cases.length=0/\d=0):kQ (s.cells a c b d):=by
 intro n i f;simp only[Xq.cells,Nh,Ni,or_false,Nb,reduceCtorEq,false_or,or_self] at f;rcases f with⟨e,rfl,rfl⟩|⟨e,rfl,rfl⟩
 .exact h e.symm
 .exact h2 e.symm
theorem gD.oJ{b c:NM}{d m f:Nat}(h:gD mN W wr rb sb a cap bs p (.slice b n d) (.slice c m f) s)(i:n=s.asks.length)(j:m=s.cases.length):kQ (s.cells b d c f):=by
 subst i j;exact kD (λe=>by subst e;exact iV h.asks) (λe=>by subst e;exact iV h.cases)
theorem gD.cells(h:gD mN W wr rb sb a cap bs p va vc s):∃b c d e,va=.slice b s.asks.length c/\vc=.slice d s.cases.length e/\lU wr 9 131 (s.cells b c d e) s:=by
 let⟨b,c,f,i,j⟩:=dw h.asks;let⟨d,e,k,l⟩:=lT h.cases;exact⟨b,c,d,e,f,k,b,c,d,e,rfl,j,l,i⟩
abbrev SSt (W wr:NN)(rb sb:Nat)(a:NM)(cap:Nat)(bs:List UInt8)(p:Nat)(va vc:NP)(s:Xq):Prop:=gD 20 W wr rb sb a cap bs p va vc s
structure jO (m:Nat)(w wr:NN)(rb ab:Nat)(a:NM)(cap:Nat)(bs:List UInt8)(p:Nat)(cost:Int)(v:NP)(L:List Xq)(xs:List NP):Prop where
 rd:Rd wr rb a cap bs p
 rd0:∃p0,Rd w rb a cap bs p0
 abl:w.heap.size<=ab
 kb:Xj rb (rb+1) w wr
 row:ay wr ab 31 2
 c0:wr.cell? ⟨ab,0,none⟩=some (.a cost)
 c1:wr.cell? ⟨ab,1,none⟩=some v
 own:wr.ownsRow w.heap.size 128 8 v L.length xs
 pack:fE wr 9 131 xs L
 tiny:∀s∈L,s.TinyN m
 oJ:kQ xs
variable {L:List Xq}{ab:Nat}
theorem jO.rbl{cost:Int}(h:jO mN w wr rb ab a cap bs p cost v L xs):rb<w.heap.size:=let ⟨_,h0⟩:=h.rd0;h0.row.lt
theorem jO.drawn{c:Nat}{cost:Int}(h:jO mN w wr rb ab a cap bs p cost v L xs)(f:Rd w' rb a cap bs c)(k:Xj rb (rb+1) wr w'):jO mN w w' rb ab a cap bs c cost v L xs:=by
 have d:=k.sameKind h.rd;have:=h.rbl;have:=h.abl;have e:∀o,w'.cell? ⟨ab,o,none⟩=wr.cell? ⟨ab,o,none⟩:=λo=>k.cell h.row.lt E5
 exact⟨f,h.rd0,h.abl,h.kb.trans k,h.row.but k E5,(e _).trans h.c0,(e _).trans h.c1,aV h.own d E8,h.pack.same d E8 E8,h.tiny,h.oJ⟩
theorem jO.kept{cost:Int}(h:jO mN w wr rb ab a cap bs p cost v L xs)(k:K_ wr w'):jO mN w w' rb ab a cap bs p cost v L xs:=h.drawn (h.rd.kept k) (.ax k)
theorem fE.push{a b:TypeId}{cs:List NP}{l:List Xq}(h:fE w a b xs l)(d:lU w a b cs s):fE w a b (xs++cs) (l++[s]):=by
 have e:(l++[s]).take l.length=l:=E9;have f:(l++[s]).take (l.length+1)=l++[s]:=by rw[MU];simp
 have:=fE.snoc (k:=l.length) (l:=l++[s]) E9 (by rw[e];exact h) (cs:=cs) (by simpa[List.getD] using d);rw[f] at this;exact this
theorem jO.fQ{cost:Int}(h:jO mN w wr rb ab a cap bs p cost v L xs)(f:K_ wr w1)(i:w1.grownBy w2 v.ownBlock):w2.cell? ⟨ab,1,none⟩=some v/\ay w2 ab 31 2:=by
 have b:=h.kept f;have j:=aD.aI b.own i;let⟨c,d,k⟩:=b.row;have e:=j ab c _ _ E8 d;exact⟨by rw[MC (w:=w1) (e.trans d.symm)];exact b.c1,c,e,k⟩
theorem jO.push{cost:Int}{c:NP}{cs:List NP}(h:jO mN w wr rb ab a cap bs p cost v L xs)(k:K_ wr w1)(q:lU wr 9 131 cs s)(r:s.TinyN mN)(t:kQ cs)(x:w2.ownsRow w.heap.size 128 8 c (L.length+1) (xs++cs))(l:w1.grownBy w2 v.ownBlock):jO mN w (w2.setCell ⟨ab,1,none⟩ c) rb ab a cap bs p cost c (L++[s]) (xs++cs):=by
 have b:=h.kept k;have d:=aD.aI b.own l;have j:ay w2 ab 31 2:=by
  let⟨e,f,y⟩:=b.row;exact⟨e,d ab e _ _ E8 f,y⟩
 have z:w2.cell? ⟨ab,0,none⟩=some (.a cost):=by
  let⟨e,f,_⟩:=b.row;rw[MC (w:=w1) ((d ab e _ _ E8 f).trans f.symm)];exact b.c0
 have m:=j.same (o:=1) c;have n:Below w.heap.size w1 (w2.setCell ⟨ab,1,none⟩ c):=((Below.refl _ _).grown l b.kb.size λA d=>(b.own.lt A d).1).setCell h.abl c;let⟨D,B⟩:=h.rd0;refine⟨b.rd.below B n b.kb.size,h.rd0,h.abl,b.kb.below n,j.set _,(Xk E5 _).trans z,aR j.row E5 _,?_,?_,λC i=>?_,h.oJ.append t⟩
 .have:=aV x m E8;simpa using this
 .exact ((b.pack.push (q.same (u:=125) (aD.ax k) E8 E8)).same d E8 E8).same m E8 E8
 .simp only[Mv,Mt] at i;rcases i with i|rfl
  .exact h.tiny C i
  .exact r
theorem jO.cost{cost:Int}(h:jO mN w wr rb ab a cap bs p cost v L xs):jO mN w (wr.setCell ⟨ab,0,none⟩ (.a x)) rb ab a cap bs p x v L xs:=by
 have c:=h.row.same (o:=0) (.a x);have d:Below w.heap.size wr (wr.setCell ⟨ab,0,none⟩ (.a x)):=(Below.refl _ _).setCell h.abl _;let⟨f,e⟩:=h.rd0;exact⟨h.rd.below e d h.kb.size,h.rd0,h.abl,h.kb.below d,h.row.set _,aR h.row.row E5 _,(Xk E5 _).trans h.c1,aV h.own c E8,(h.pack.same c E8 E8),h.tiny,h.oJ⟩
abbrev ASt (w wr:NN)(rb ab:Nat)(a:NM)(cap:Nat)(bs:List UInt8)(p:Nat)(cost:Int)(v:NP)(L:List Xq)(xs:List NP):Prop:=jO 20 w wr rb ab a cap bs p cost v L xs
theorem cB.setCell(h:cB w lo hi a l){p:Addr}(c:p.block<lo)(v:NP):cB (w.setCell p v) lo hi a l:=h.same (Same.setCell _ (.inl c) _)
theorem Same.setCells{g:Nat}(a:g<lo\/hi<=g):∀(vs:List NP)(o:Nat)(w:NN),Same lo hi w (w.setCells g o vs)
 |[],_,_=>λ_ _ _ _=>rfl
 |v :: r,o,w=>by
  rw[World.setCells];intro b c d e;have f:=Same.setCells a r (o+1) (w.setCell ⟨g,o,none⟩ v) b c d (by rw[size_setCell];exact e);exact f.trans (Same.setCell w (p:=⟨g,o,none⟩) a v b c d e)
def cutAt(c:Nat->Nat)(k z t:Nat):Nat:=if t<=k then c t else z
theorem kR{c:Nat->Nat}{k z t:Nat}(h:t<=k):cutAt c k z t=c t:=by simp[cutAt,h]
theorem pV{c:Nat->Nat}{k z t:Nat}(h:k<t):cutAt c k z t=z:=by simp[cutAt];omega
theorem Dj{c:Nat->Nat}{k z:Nat}(h:∀i j,i<=j->c i<=c j)(d:c k<=z):∀i j,i<=j->cutAt c k z i<=cutAt c k z j:=by
 intro i j e;by_cases a:i<=k
 .by_cases f:j<=k
  .rw[kR a,kR f];exact h i j e
  .rw[kR a,pV E5];exact Mm (h i k a) d
 .rw[pV E5,pV E5];exact Mj _
theorem mU(w:NN)(s:NL)(b:s.size<=1048576):Calls prog 49 #[.string s] w λe w'=>e=.returned (.string s)/\K_ w w':=by
 go_enter func49,ntmps49
 go_wp2_with fail
 refine (Tryz.stringslite_Clone s _ E5).mono ?_;rintro e c ⟨rfl,a⟩;go_wp2
 go_ret
 exact⟨rfl,a⟩
theorem lN(w:NN)(a:NM)(cap:Nat)(l:List NL)(M:l.length<=1048576)(A:∀s∈l,s.size<=1048576)(B:Strs w a l):Calls prog 48 #[.slice a l.length cap,.func (.func 49) #[] #[]] w λe w'=>∃a',e=.returned (.slice a' l.length l.length)/\cB w' w.heap.size w'.heap.size a' l/\K_ w w':=by
 by_cases r:l.length=0
 .have C:l=[]:=NE r;subst C;go_enter func48,ntmps48
  go_wp2
  go_ret
  exact⟨none,rfl,.inl rfl,K_.refl _⟩
 .have D:=run_make_row' (P:=prog) 26 9 _ _ underlying26 Tryz.Bp rfl .i64 .i64 l.length E5 E5;have E:((l.length:Int) == 0)=false:=by simpa using r
  go_enter func48,ntmps48
  go_wp2
  clear D E;have t:Row (w.alloc (.cells (madeCells #[.string ByteArray.empty] l.length) 9)) w.heap.size l.length:=⟨_,_,World.rowIs_made w (.string ByteArray.empty) l.length 9⟩;have v:K_ w (w.alloc (.cells (madeCells #[.string ByteArray.empty] l.length) 9)):=Below.alloc (Below.refl _ _) (Mj _) _;go_loopw [16] (λi wr=>∃k:Nat,k<=l.length/\i=.a k/\K_ w wr/\Row wr w.heap.size l.length/\∀j,j<k->wr.cell? ⟨w.heap.size,j,none⟩=some (.string (l.getD j ByteArray.empty))) (λi _=>l.length-(intOf i).toNat)
  case atStart=>exact⟨0,Ml _,rfl,v,t,λj d=>aO d⟩
  case round=>
   obtain⟨k,N,rfl,f,c,x⟩:=hrel;clear t v;have m:=Kz x;by_cases n:k<l.length
   .obtain⟨b,o,rfl,O,y⟩:=B.kept f k n;have z:=A (l.getD k ByteArray.empty) (by simp[List.getD,n]);let⟨s,p⟩:=aj (l.getD k ByteArray.empty);rw[<-p] at y z;have F:=Kz p;clear p x;have G:=c.lt;go_wp2_with fail
    refine (mU _ s z).mono ?_;rintro e H ⟨rfl,h⟩;have q:=c.kept h;have I:=Kz q;have J:Hid (∀j,j<k->H.cell? ⟨w.heap.size,j,none⟩=some (.string (l.getD j ByteArray.empty))):=λj d=>by rw[h.cell G];exact m.o j d
    let⟨⟨old,K⟩,Q⟩:=q.at n;have L:=f.trans h;clear m c q f h y;go_wp2
    go_roundw
    case rel=>
     refine⟨k+1,E5,F3,L.setCell (Mj _) _,I.o.set _ rfl _,λj d=>?_⟩;by_cases e:j=k
     .subst e;rw[Ns _ _ _ K,F.o]
     .rw[MJ _ _ _ _ F8];exact J.o j E5
    case measure=>simp[intOf];omega
   .have:k=l.length:=E5;subst this;go_wp2
    go_ret
    exact⟨_,rfl,.inr ⟨w.heap.size,rfl,Mj _,c.lt,c,m.o⟩,f⟩
def Lj :List UInt8:=[48,49,50,51,52,53,54,55,56,57,97,98,99,100,101,102]
def oM(n:Nat):UInt8:=Lj.getD n 0
def jI :Nat->Nat->List UInt8
 |0,_=>[]
 |k+1,v=>oM (v / 16 ^ k % 16) :: jI k v
theorem iL :∀k v,(jI k v).length=k
 |0,_=>rfl
 |k+1,v=>by simp[jI,iL k v]
theorem CV :∀(k v i:Nat)(h:i<(jI k v).length),(jI k v)[i]=oM (v / 16 ^ (k-1-i) % 16)
 |0,_,_,h=>aO h
 |k+1,v,0,_=>by simp[jI]
 |k+1,v,i+1,h=>by
  have a:i<(jI k v).length:=by simpa[jI] using h
  have e:k+1-1-(i+1)=k-1-i:=E5;rw[e,<-CV k v i a];simp[jI]
theorem Bz(j v:Nat)(h:v<16 ^ j):∀m,jI (m+j) v=List.replicate m 48++jI j v
 |0=>E9
 |m+1=>by
  have e:m+1+j= (m+j)+1:=E5;rw[e,jI,Bz j v h m];have c:v / 16 ^ (m+j)=0:=by
   apply Nat.div_eq_of_lt;exact Mk h (Nat.pow_le_pow_right E5 E5)
  rw[c]
  rfl
def dX(v:Int)(b:UInt8):Int:=IntKind.u64.wrap (bits BinOp.xor IntKind.u64 v (b.toNat:Int)*1099511628211)
def sumOf(l:List UInt8):Int:=l.foldl dX 14695981039346656037
theorem zW(b:UInt8):IntKind.u64.wrap (b.toNat:Int)= (b.toNat:Int):=by
 have:=b.toNat_lt;rw[IntKind.wrap_u64];omega
theorem xq(v:Int)(b:UInt8):0<=dX v b/\dX v b<18446744073709551616:=by
 unfold dX;rw[IntKind.wrap_u64];omega
theorem oW :∀(l:List UInt8)(v:Int),0<=v/\v<18446744073709551616->0<=l.foldl dX v/\l.foldl dX v<18446744073709551616
 |[],_,h=>h
 |b :: r,v,_=>oW r _ (xq v b)
theorem sS(l:List UInt8):0<=sumOf l/\sumOf l<18446744073709551616:=oW l _ E5
theorem tC(l:List UInt8)(k:Nat)(h:k<l.length):(l.take (k+1)).foldl dX 14695981039346656037=dX ((l.take k).foldl dX 14695981039346656037) (l.getD k 0):=by
 rw[Ms h,List.foldl_append];simp[List.getD,h]
def jS(give:List UInt8)(ts:List (List UInt8)):List UInt8:=give++40 :: (Lib.join ts [44]++[41])
def mX(give:List UInt8)(ts:List (List UInt8)):List UInt8:=if 30<give.length\/100<ts.length\/(∃t∈ts,200<t.length) then []
 else if (jS give ts).length<=200 then jS give ts
 else 35 :: jI 16 (sumOf (jS give ts)).toNat
theorem Ka(a:List (List UInt8))(n:Nat)(h:∀t∈a,t.length<=n):(Lib.join a [44]).length<=a.length*(n+1):=by
 cases a with
 |nil=>simp[Lib.join_nil]
 |cons x r=>
  rw[Lib.join_cons,M_,Lib.joinTail_length];have e:=h x E9;have f:Lib.lens r<=r.length*n:=by
   have:∀(q:List (List UInt8)),(∀t∈q,t.length<=n)->Lib.lens q<=q.length*n:=by
    intro q
    induction q with
    |nil=>intro _;simp[Lib.lens]
    |cons y q ih=>
     intro c;have i:=c y E9;have d:=ih (λt b=>c t (by simp[b]));simp only[Lib.lens,List.map_cons,List.sum_cons,Nc,Nat.succ_mul] at d⊢;omega
   exact this r (λt b=>h t (by simp[b]))
  simp only[Nc,List.length_nil,MR,Nat.one_mul];have:(r.length+1)*(n+1)=r.length*n+r.length+n+1:=by rw[Nat.add_mul,Nat.mul_add];omega
  omega
theorem pM(a:List (List UInt8))(k:Nat)(h:k<a.length):Lib.join (a.take (k+1)) [44]=Lib.join (a.take k) [44]++((if 0<k then [44] else [])++a.getD k []):=by
 cases a with
 |nil=>simp at h
 |cons x r=>
  cases k with
  |zero=>simp[Lib.join_one,Lib.join_nil]
  |succ k=>
   have c:k<r.length:=by simpa using h
   rw[List.take_succ_cons,List.take_succ_cons,Lib.join_cons,Lib.join_cons,Lib.joinTail_take_succ [44] r k (r.getD k []) (by simp[List.getD,c])];simp[List.append_assoc]
def texts(l:List NL):List (List UInt8):=l.map (·.data.toList)
def nL(give:NL)(l:List NL):NL:=⟨(mX give.data.toList (texts l)).toArray⟩
theorem jT(l:List NL):(texts l).length=l.length:=by simp[texts]
theorem xR(l:List NL)(k:Nat)(h:k<l.length):(texts l).getD k []= (l.getD k ByteArray.empty).data.toList:=by simp[texts,List.getD,h]
theorem kF{give:NL}(h:30<give.size\/100<l.length\/∃i,i<l.length/\200<(l.getD i ByteArray.empty).size):nL give l=ByteArray.empty:=by
 unfold nL mX;rw[Nz]
 .rfl
 .rcases h with h|h|⟨i,b,c⟩
  .left;simpa using h
  .right;left;simpa[texts] using h
  .right;right
   refine⟨(l.getD i ByteArray.empty).data.toList,?_,by simpa using c⟩;simp[texts,List.getD,b];exact⟨_,Mw b,rfl⟩
def qw(give:NL)(l:List NL):Prop:=give.size<=30/\l.length<=100/\∀i,i<l.length->(l.getD i ByteArray.empty).size<=200
theorem qw.not{give:NL}(h:qw give l):¬(30<give.data.toList.length\/100<(texts l).length\/(∃t∈texts l,200<t.length)):=by
 rintro (g|g|⟨t,b,g⟩)
 .have:=h.1;simp at g;omega
 .have:=h.2.1;simp[texts] at g;omega
 .simp only[texts,MM] at b;obtain⟨x,d,rfl⟩:=b;obtain⟨i,c,rfl⟩:=MB d;have:=h.2.2 i c;simp[List.getD,c] at this g;omega
variable {b:NL}
theorem xN{give:NL}(h:qw give l)(a:b.data.toList=jS give.data.toList (texts l))(d:b.size<=200):nL give l=b:=by
 unfold nL mX;rw[NA h.not,Nz (by rw[<-a];simpa using d),<-a]
theorem zU{give:NL}(h:qw give l)(a:b.data.toList=jS give.data.toList (texts l))(d:200<b.size):nL give l= ⟨(35 :: jI 16 (sumOf b.data.toList).toNat).toArray⟩:=by
 unfold nL mX;rw[NA h.not,NA (by rw[<-a];simp;omega),<-a]
theorem Aq{a:NL}(h:a.data.toList=b.data.toList):a=b:=by
 cases a;cases b;simp at h;simp[h]
theorem fT(a b:NL):(a++b).data.toList=a.data.toList++b.data.toList:=by simp[ByteArray.data_append]
theorem lX{a:NL}(h:a=b):Ending.returned (.string a)=.returned (.string b):=by rw[h]
theorem JL(n:Nat)(h:n<16):(((⟨#[48,49,50,51,52,53,54,55,56,57,97,98,99,100,101,102]⟩:NL).extract n 16).extract 0 1).data.toList=[oM n]:=by
 have:∀m:Fin 16,(((⟨#[48,49,50,51,52,53,54,55,56,57,97,98,99,100,101,102]⟩:NL).extract m.val 16).extract 0 1).data.toList=[oM m.val]:=by decide+kernel
 exact this ⟨n,h⟩
structure Q_ where
 name:NL
 over:Bool
 fail:Bool
 text:NL
 at':Int
 Zq:Int
 texts:List NL
def eO(l:List NL)(m:NL):Bool:=l.any λx=>decide (x=m)
theorem df{l:List NL}{m:NL}:eO l m=true↔m∈l:=by simp[eO]
def Q_.fresh(n:NL):Q_:=⟨n,false,false,⟨#[]⟩,0,0,[]⟩
def xm(n:NL):NL:=(⟨#[110,111,32]⟩:NL)++n
def iT :NL:=⟨#[115,112,101,110,116]⟩
abbrev Env :=NL->Option Q_
abbrev dC :=NL->Option fO
variable {n:NL}{σ:Env}{r:Q_}
section
variable (W:dC)
def bD(σ:Env)(n:NL):Option Xz:=match W n with
 |none=>some ⟨true,xm n⟩
 |some _=>match σ n with
  |some r=>if r.over=true then some ⟨r.fail,r.text⟩ else none
  |none=>none
def Yz(σ:Env):List NL->Option (List Xz)
 |[]=>some []
 |a :: l=>match bD W σ a with
  |none=>none
  |some x=>match Yz σ l with
   |none=>none
   |some y=>some (x :: y)
def stepOf(a:fO)(i:Int):Xq:=a.steps.getD i.toNat Xq.zero
def aL(xs:List Xz):List NL:=(xs.filter λx=>!x.fail).map (·.text)
def oK :List Xz->Nat->Option Nat
 |[],_=>none
 |x :: l,i=>if x.fail=true then some i else oK l (i+1)
def pG(t:NL)(els:Int):List bU->Int
 |[]=>els
 |c :: l=>if c.text=t then c.goto else pG t els l
def eT(s:Xq)(xs:List Xz):b_:=match oK xs 0 with
 |some i=>if s.fall= -1 then ⟨0,true,0,jR s i⟩ else ⟨0,false,s.fall,⟨#[]⟩⟩
 |none=>⟨0,false,if xs.length=0 then s.els else pG (mF xs s.on) s.els s.cases,⟨#[]⟩⟩
def ek(a:fO)(r:Q_):Q_×List NL:=(if (stepOf a r.at').fin=true then {r with Zq:=r.Zq+1,over:=true,fail:=(stepOf a r.at').bad,text:=nL (stepOf a r.at').give r.texts} else {r with Zq:=r.Zq+1},(stepOf a r.at').asks)
def Xx(σ:Env)(r:Q_):Q_×List NL:=match W r.name with
 |none=>(r,[])
 |some a=>
  if r.Zq=0 then ek a r else
  match Yz W σ (stepOf a r.at').asks with
  |none=>(r,[])
  |some xs=>
   if r.Zq=20 then ({r with over:=true,fail:=true,text:=iT},[]) else
   if (eT (stepOf a r.at') xs).over=true then ({r with Zq:=r.Zq+1,over:=true,fail:=true,text:=(eT (stepOf a r.at') xs).text},[]) else
   ek a {r with texts:=r.texts++aL xs,at':=(eT (stepOf a r.at') xs).at'}
def aS(σ:Env)(r:Q_):Prop:=r.over=false/\(r.Zq=0\/∃a xs,W r.name=some a/\Yz W σ (stepOf a r.at').asks=some xs)
def bn(σ:Env)(n:NL):Prop:=∃r,σ n=some r/\aS W σ r
def doX(σ:Env)(n:NL):Env:=match σ n with
 |none=>σ
 |some r=>λm=>if m=n then some (Xx W σ r).1 else
  match σ m with
  |some x=>some x
  |none=>if eO (Xx W σ r).2 m=true/\(W m).isSome=true then some (Q_.fresh m) else none
variable {W}
theorem dY(h:σ n=some r)(k:NL):doX W σ n k=if k=n then some (Xx W σ r).1 else match σ k with|some x=>some x|none=>if eO (Xx W σ r).2 k=true/\(W k).isSome=true then some (Q_.fresh k) else none:=by
 unfold doX;rw[h]
theorem kv{m:NL}(h:m≠n){x:Q_}(a:σ m=some x):doX W σ n m=some x:=by
 unfold doX;cases c:σ n with
 |none=>simpa using a
 |some r=>simp[h,a]
theorem je(h:σ n=some r):doX W σ n n=some (Xx W σ r).1:=by
 unfold doX;simp[h]
theorem Ec{a:NL}{x:Xz}(f:bn W σ n)(h:bD W σ a=some x):bD W (doX W σ n) a=some x:=by
 unfold bD at h⊢;cases c:W a with
 |none=>simpa[c] using h
 |some act=>
  simp only[c] at h⊢;cases b:σ a with
  |none=>simp[b] at h
  |some r=>
   simp only[b] at h;by_cases e:a=n
   .subst e;let⟨j,d,i⟩:=f;rw[b] at d;cases d;rw[NA (by rw[i.1];simp)] at h;cases h
   .rw[kv e b];exact h
theorem kY(d:bn W σ n):∀{l:List NL}{xs:List Xz},Yz W σ l=some xs->Yz W (doX W σ n) l=some xs
 |[],_,h=>h
 |a :: l,xs,h=>by
  unfold Yz at h⊢;cases b:bD W σ a with
  |none=>simp[b] at h
  |some x=>
   simp only[b] at h;cases c:Yz W σ l with
   |none=>simp[c] at h
   |some y=>
    simp only[c] at h;rw[Ec d b,kY d c];exact h
theorem aS.mono(b:bn W σ n)(h:aS W σ r):aS W (doX W σ n) r:=⟨h.1,h.2.imp id λ⟨a,d,e,f⟩=>⟨a,d,e,kY b f⟩⟩
theorem oV(e:bn W σ n)(h:aS W σ r):Xx W (doX W σ n) r=Xx W σ r:=by
 unfold Xx;cases f:W r.name with
 |none=>rfl
 |some a=>
  simp only;by_cases c:r.Zq=0
  .simp[c]
  .rcases h.2 with b|⟨i,j,b,d⟩
   .exact NB b c
   .rw[f] at b;cases b;simp only[c,if_false];rw[kY e d,d]
theorem sW :pQ (bn W) (doX W):=by
 intro σ n m b c f;obtain⟨r,d,l⟩:=c;obtain⟨q,e,h⟩:=f;have c:bn W σ n:=⟨r,d,l⟩;have f:bn W σ m:=⟨q,e,h⟩;have p:doX W σ n m=some q:=kv (Ne.symm b) e;have t:doX W σ m n=some r:=kv b d;refine⟨⟨q,p,h.mono c⟩,?_⟩;have v:Xx W (doX W σ n) q=Xx W σ q:=oV c h;have w:Xx W (doX W σ m) r=Xx W σ r:=oV f l
 funext k
 have L:doX W (doX W σ n) m k=if k=m then some (Xx W σ q).1 else match doX W σ n k with|some x=>some x|none=>if eO (Xx W σ q).2 k=true/\(W k).isSome=true then some (Q_.fresh k) else none:=by
  rw[dY p,v]
 have R:doX W (doX W σ m) n k=if k=n then some (Xx W σ r).1 else match doX W σ m k with|some x=>some x|none=>if eO (Xx W σ r).2 k=true/\(W k).isSome=true then some (Q_.fresh k) else none:=by
  rw[dY t,w]
 rw[L,R];by_cases i:k=m
 .subst i;rw[Nz rfl,NA (Ne.symm b),je e]
 .by_cases j:k=n
  .subst j;rw[NA b,Nz rfl,je d]
  .rw[NA i,NA j];have y:doX W σ n k=match σ k with|some x=>some x|none=>if eO (Xx W σ r).2 k=true/\(W k).isSome=true then some (Q_.fresh k) else none:=by
    rw[dY d,NA j]
   have z:doX W σ m k=match σ k with|some x=>some x|none=>if eO (Xx W σ q).2 k=true/\(W k).isSome=true then some (Q_.fresh k) else none:=by
    rw[dY e,NA i]
   rw[y,z];cases A:σ k with
   |some x=>rfl
   |none=>
    simp only;by_cases s:eO (Xx W σ r).2 k=true/\(W k).isSome=true
    .rw[Nz s];by_cases a:eO (Xx W σ q).2 k=true/\(W k).isSome=true
     .rw[Nz a]
     .rw[NA a]
    .rw[NA s];by_cases a:eO (Xx W σ q).2 k=true/\(W k).isSome=true
     .rw[Nz a]
     .rw[NA a]
def Behind(p:Q_->Q_->Prop)(G:Env)(σ:Env)(n:NL):Prop:=bn W σ n/\∃r g,σ n=some r/\G n=some g/\p r g
theorem iy(p:Q_->Q_->Prop)(G:Env):pQ (Behind (W:=W) p G) (doX W):=by
 intro σ n m a c b;let⟨d,e⟩:=sW σ n m a c.1 b.1;let⟨q,g,f,h,i⟩:=b.2;exact⟨⟨d,q,g,kv (Ne.symm a) f,h,i⟩,e⟩
theorem fI(i:aS W σ r)(d:(W r.name).isSome=true):((Xx W σ r).1.Zq=r.Zq+1)\/(r.Zq=20/\(Xx W σ r).1.Zq=20/\(Xx W σ r).1.over=true):=by
 unfold Xx;cases e:W r.name with
 |none=>rw[e] at d;cases d
 |some a=>
  simp only;by_cases b:r.Zq=0
  .left
   simp only[b,if_true];unfold ek
   split<;>simp[b]
  .rcases i.2 with c|⟨l,j,c,k⟩
   .exact NB c b
   .rw[e] at c;cases c;simp only[b,if_false,k];by_cases f:r.Zq=20
    .right
     simp[f]
    .left
     simp only[f,if_false];by_cases h:(eT (stepOf a r.at') j).over=true
     .simp[h]
     .simp only[h];unfold ek;simp only[Bool.false_eq_true,if_false]
      split<;>simp
theorem dx :(Xx W σ r).1.name=r.name:=by
 unfold Xx ek
 repeat' split
 all_goals rfl
end
variable {n:NL}{G σ:Env}
section
variable {W:dC}
structure Q_.Ok (W:dC)(n:NL)(r:Q_):Prop where
 name:r.name=n
 web:(W n).isSome=true
 lo:0<=r.Zq
 hi:r.Zq<=20
def WfX(W:dC)(σ:Env):Prop:=∀n r,σ n=some r->r.Ok W n
theorem FC{r:Q_}(h:r.Ok W n)(c:aS W σ r):(Xx W σ r).1.Ok W n:=by
 have d:=fI c (by rw[h.name];exact h.web);refine⟨by rw[dx];exact h.name,h.web,?_,?_⟩
 .have:=h.lo;rcases d with e|⟨_,e,_⟩<;>omega
 .rcases d with e|⟨_,e,_⟩
  .have:=h.hi;by_cases f:r.Zq=20
   .exfalso
    have k:(Xx W σ r).1.Zq=r.Zq:=by
     unfold Xx;cases i:W r.name with
     |none=>rfl
     |some a=>
      simp only;rw[NA E5];rcases c.2 with b|⟨l,m,b,j⟩
      .omega
      .rw[i] at b;cases b;simp[j,f]
    omega
   .omega
  .omega
theorem A_(h:WfX W σ)(d:bn W σ n):WfX W (doX W σ n):=by
 intro m x a;let⟨r,c,f⟩:=d;rw[dY c] at a;by_cases e:m=n
 .rw[Nz e] at a;cases a;rw[e];exact FC (h n r c) f
 .rw[NA e] at a;cases b:σ m with
  |some y=>
   rw[b] at a;simp only[Na] at a;subst a;exact h m y b
  |none=>
   rw[b] at a;simp only at a
   split at a
   .rename_i hc2
    cases a;exact⟨rfl,hc2.2,Int.le_refl _,by show (0:Int)<=20;omega⟩
   .cases a
def bL(r g:Q_):Prop:=r.Zq<g.Zq\/(r.Zq=g.Zq/\g.over=true/\20<=r.Zq)
def dM(r g:Q_):Prop:=g.over=true\/r.Zq<g.Zq
theorem zT{r g:Q_}(h:bL r g):dM r g:=by
 rcases h with h|⟨_,h,_⟩
 .exact .inr h
 .exact .inl h
theorem uQ{p:Q_->Q_->Prop}{τ :Env}{k:Nat}(h:bf (Behind (W:=W) p G) (doX W) σ τ k){r:Q_}(a:σ n=some r)(c:∀g,G n=some g->¬p r g): τ n=some r:=by
 induction h with
 |here s=>exact a
 |step s t i k hi _ ih=>
  refine ih ?_;by_cases e:n=i
  .subst e;let⟨j,g,b,d,f⟩:=hi.2;rw[a] at b;cases b;exact NB f (c g d)
  .exact kv e a
theorem rU{p:Q_->Q_->Prop}{τ :Env}{k:Nat}(h:bf (Behind (W:=W) p G) (doX W) σ τ k)(b:WfX W σ){r:Q_}(a:σ n=some r):∃q, τ n=some q/\r.Zq<=q.Zq:=by
 induction h generalizing r with
 |here s=>exact⟨r,a,Int.le_refl _⟩
 |step s t i k hi _ ih=>
  have c:=A_ b hi.1;by_cases e:n=i
  .subst e;let⟨m,d,j⟩:=hi.1;rw[a] at d;cases d;let⟨q,l,v⟩:=ih c (je a);have f:=b n r a;refine⟨q,l,?_⟩;rcases fI j (by rw[f.name];exact f.web) with e|⟨e1,e,_⟩<;>omega
  .exact ih c (kv e a)
theorem bf.rest{α ι :Type}{ready:α-> ι ->Prop}{step:α-> ι ->α}(d:pQ ready step):∀{j k:Nat}{s t u:α},bf ready step s t j->bf ready step s u k->AtEnd ready u->∃m,bf ready step t u m:=by
 intro j
 induction j with
 |zero=>intro k s t u h g _;cases h;exact⟨k,g⟩
 |succ j ih=>
  intro k s t u h g c;cases h with
  |step _ _ i _ hi hr=>
   let⟨m,_,e⟩:=g.first d c hi
   exact ih hr e c
theorem DI{e a:Env}{k:Nat}(t:bf (Behind (W:=W) bL G) (doX W) e a k)(v:AtEnd (Behind (W:=W) bL G) a)(w:a=G):∀{j:Nat} {σ τ :Env} {i:Nat},bf (Behind (W:=W) bL G) (doX W) e σ i->bf (Behind (W:=W) dM G) (doX W) σ τ j->bf (Behind (W:=W) bL G) (doX W) σ τ j:=by
 intro j
 induction j with
 |zero=>intro σ τ i _ h;cases h;exact .here _
 |succ j ih=>
  intro σ τ i f h;cases h with
  |step _ _ n _ hn hr=>
   have l:Behind (W:=W) bL G σ n:=by
    let⟨m,r,g,b,c,x⟩:=hn;refine⟨m,r,g,b,c,?_⟩;by_cases d:bL r g
    .exact d
    .exfalso
     let⟨A,y⟩:=bf.rest (iy bL G) f t v;have p:=uQ y b (λB q=>by rw[c] at q;cases q;exact d);rw[w,c] at p;cases p;let⟨C,s,z⟩:=m;rw[b] at s;cases s;rcases x with h|h
     .rw[z.1] at h;cases h
     .exact d (.inl h)
   exact .step _ _ n _ l (ih (f.snoc l) hr)
theorem vV{τ :Env}(p: τ =G):∀{j:Nat}{σ:Env},WfX W σ->bf (Behind (W:=W) dM G) (doX W) σ τ j->bf (Behind (W:=W) bL G) (doX W) σ τ j:=by
 intro j
 induction j with
 |zero=>intro σ _ h;cases h;exact .here _
 |succ j ih=>
  intro σ c h;cases h with
  |step _ _ n _ hn hr=>
   have d:=A_ c hn.1;have q:Behind (W:=W) bL G σ n:=by
    let⟨f,r,g,b,i,s⟩:=hn;refine⟨f,r,g,b,i,?_⟩;by_cases a:bL r g
    .exact a
    .exfalso
     let⟨w,k,t⟩:=f;rw[b] at k;cases k;let⟨x,l,y⟩:=rU hr d (je b);rw[p,i] at l;cases l;have m:=c n r b;rcases s with h|h
     .rcases fI t (by rw[m.name];exact m.web) with e|⟨e1,e,_⟩
      .exact a (.inl E5)
      .by_cases v:r.Zq=g.Zq
       .exact a (.inr ⟨v,h,E5⟩)
       .exact a (.inl E5)
     .exact a (.inl h)
   exact .step _ _ n _ q (ih d hr)
theorem GG{e a c:Env}{k j:Nat}(n:WfX W e)(f:bf (Behind (W:=W) bL G) (doX W) e a k)(h:AtEnd (Behind (W:=W) bL G) a)(i:bf (Behind (W:=W) dM G) (doX W) e c j)(p:AtEnd (Behind (W:=W) dM G) c):(a=G↔c=G)/\(a=G->c=a):=by
 have l:AtEnd (Behind (W:=W) bL G) c:=λq m=>p q ⟨m.1,by let⟨r,g,d,s,t⟩:=m.2;exact⟨r,g,d,s,zT t⟩⟩
 have d:a=G->c=a:=λb=>(f.unique (iy _ _) h (DI f h b (.here _) i) l).symm
 refine⟨⟨λb=>(d b).trans b,λb=>?_⟩,d⟩;have:=f.unique (iy _ _) h (vV b n i) l;rw[this];exact b
def oH :Option Q_->Nat
 |none=>23
 |some r=>if r.over=true then 0 else 22-r.Zq.toNat
def dD(Kq:List NL)(σ:Env):Nat:=(Kq.map λn=>oH (σ n)).sum
theorem Jn{m:NL}(d:WfX W σ)(f:bn W σ n):oH (doX W σ n m)<=oH (σ m)/\(m=n->oH (doX W σ n m)<oH (σ m)):=by
 let⟨r,a,c⟩:=f;have b:=d n r a;by_cases e:m=n
 .subst e;have:oH (doX W σ m m)<oH (σ m):=by
   rw[je a,a];have j:=b.lo;have k:=b.hi;show (if (Xx W σ r).1.over=true then 0 else 22-(Xx W σ r).1.Zq.toNat)<(if r.over=true then 0 else 22-r.Zq.toNat);have h:(if r.over=true then 0 else 22-r.Zq.toNat)=22-r.Zq.toNat:=by rw[c.1];rfl
   rw[h];rcases fI c (by rw[b.name];exact b.web) with e|⟨e1,e,eo⟩
   .split
    .omega
    .rw[e];omega
   .rw[Nz eo];omega
  exact⟨Nat.le_of_lt this,λ_=>this⟩
 .refine⟨?_,λi=>NB i e⟩;rw[dY a,NA e];cases l:σ m with
  |some x=>exact Mj _
  |none=>
   simp only
   split
   .show 22-0<=23;omega
   .exact Mj _
theorem m_(a:WfX W σ)(b:bn W σ n):∀(Kq:List NL),dD Kq (doX W σ n)<=dD Kq σ/\(n∈Kq->dD Kq (doX W σ n)<dD Kq σ)
 |[]=>⟨Mj _,λh=>by cases h⟩
 |m :: l=>by
  let⟨i,c⟩:=m_ a b l;let⟨j,d⟩:=Jn (m:=m) a b;have e:dD (m :: l) (doX W σ n)=oH (doX W σ n m)+dD l (doX W σ n):=by simp[dD]
  have f:dD (m :: l) σ=oH (σ m)+dD l σ:=by simp[dD]
  rw[e,f];refine⟨E5,λh=>?_⟩;rcases Nh.1 h with h|h
  .have:=d h.symm;omega
  .have:=c h;omega
end
theorem toList_inj{a b:NL}:a.toList=b.toList↔a=b:=by
 refine⟨λh=>Aq ?_,λh=>by rw[h]⟩;rw[ByteArray.toList_eq,ByteArray.toList_eq] at h;exact h
theorem jN{a b:NL}(h:(a.toList == b.toList)=false):a≠b:=λe=>by rw[e] at h;simp at h
theorem fC{a b:NL}(h:(a.toList == b.toList)=true):a=b:=toList_inj.1 (by simpa using h)
def Q_.zero :Q_:=Q_.fresh ByteArray.empty
def Q_.cells(r:Q_)(xa:NM)(xc:Nat):List NP:=[.string r.name,.bool r.over,.bool r.fail,.string r.text,.a r.at',.a r.Zq,.slice xa r.texts.length xc]
theorem Q_.one(r:Q_)(x:NM)(c:Nat):∀u∈r.cells x c,u.oneCell'=true:=by
 intro u a;simp only[Q_.cells,Nh,Ni,or_false] at a;rcases a with rfl|rfl|rfl|rfl|rfl|rfl|rfl<;>rfl
def bN(w:NN)(a:NM)(l:List Q_):Prop:=∀i,i<l.length->∃b o xa xc,a=some ⟨b,o,none⟩/\b<w.heap.size/\w.rangeAt b (o+i*7) ((l.getD i Q_.zero).cells xa xc)/\Strs w xa (l.getD i Q_.zero).texts/\(xa=none->xc=0)
variable {w:NN}
theorem bN.kept{w':NN}{a:NM}{l:List Q_}(h:bN w a l)(k:K_ w w'):bN w' a l:=by
 intro i c;let⟨d,o,e,f,j,b,m,n,p⟩:=h i c;exact⟨d,o,e,f,j,Mk b k.size,k.range b m,n.kept k,p⟩
def Qq(l:List Q_):Env:=λn=>l.find? λr=>decide (r.name=n)
variable {n:NL}
theorem vT{l:List Q_}(h:∀j,j<l.length->(l.getD j Q_.zero).name≠n):Qq l n=none:=by
 unfold Qq;rw[List.find?_eq_none];intro r c;let⟨j,a,e⟩:=MB c;have:=h j a;simp only[List.getD,Mq a,e,NC] at this;simpa using this
theorem Aw :∀{l:List Q_}{k:Nat},k<l.length->(l.getD k Q_.zero).name=n->(∀j,j<k->(l.getD j Q_.zero).name≠n)->Qq l n=some (l.getD k Q_.zero)
 |[],_,hk,_,_=>aO hk
 |r :: l,0,_,h,_=>by
  have a:r.name=n:=h;simp[Qq,List.find?,a,List.getD]
 |r :: l,k+1,hk,h,hj=>by
  have b:r.name≠n:=hj 0 E5;have e:Qq (r :: l) n=Qq l n:=by simp[Qq,List.find?,b]
  rw[e,Aw (k:=k) (by simpa using hk) h λj d=>hj (j+1) E5]
  rfl
def Ex(l:List Q_)(n:NL)(r:Int):Prop:=(∃k:Nat,k<l.length/\r= (k:Int)/\Qq l n=some (l.getD k Q_.zero)/\(l.getD k Q_.zero).name=n)\/(r= -1/\Qq l n=none)
def Kk(Kq:List Qz):dC:=λn=>(Kq.find? λd=>decide (d.name=n)).map λd=>⟨d.cost,d.steps⟩
theorem zh{l:List Qz}(h:∀j,j<l.length->(l.getD j Qz.zero).name≠n):Kk l n=none:=by
 unfold Kk;rw[Option.map_eq_none_iff,List.find?_eq_none];intro r c;let⟨j,a,e⟩:=MB c;have:=h j a;simp only[List.getD,Mq a,e,NC] at this;simpa using this
theorem AZ :∀{l:List Qz}{k:Nat},k<l.length->(l.getD k Qz.zero).name=n->(∀j,j<k->(l.getD j Qz.zero).name≠n)->Kk l n=some ⟨(l.getD k Qz.zero).cost,(l.getD k Qz.zero).steps⟩
 |[],_,hk,_,_=>aO hk
 |r :: l,0,_,h,_=>by
  have a:r.name=n:=h;simp[Kk,List.find?,a,List.getD]
 |r :: l,k+1,hk,h,hj=>by
  have b:r.name≠n:=hj 0 E5;have e:Kk (r :: l) n=Kk l n:=by simp[Kk,List.find?,b]
  rw[e,AZ (k:=k) (by simpa using hk) h λj d=>hj (j+1) E5]
  rfl
def Dt(l:List Qz)(n:NL)(r:Int):Prop:=(∃k:Nat,k<l.length/\r= (k:Int)/\Kk l n=some ⟨(l.getD k Qz.zero).cost,(l.getD k Qz.zero).steps⟩/\(l.getD k Qz.zero).name=n/\∀j,j<k->(l.getD j Qz.zero).name≠n)\/(r= -1/\Kk l n=none)
theorem fJ{A:fO}:∀{l:List Qz},Kk l n=some A->∃k,k<l.length/\(l.getD k Qz.zero).name=n/\(∀j,j<k->(l.getD j Qz.zero).name≠n)/\A= ⟨(l.getD k Qz.zero).cost,(l.getD k Qz.zero).steps⟩
 |[],h=>by simp[Kk] at h
 |d :: l,h=>by
  by_cases e:d.name=n
  .refine⟨0,E9,e,λj a=>aO a,?_⟩;simp[Kk,e] at h;exact h.symm
  .have b:Kk (d :: l) n=Kk l n:=by simp[Kk,List.find?,e]
   rw[b] at h;let⟨k,c,f,i,m⟩:=fJ h;refine⟨k+1,by simpa using c,f,λj a=>?_,m⟩;cases j with
   |zero=>exact e
   |succ j=>exact i j E5
theorem iR{l:List Qz}{k a:Nat}(h:(l.getD k Qz.zero).name=n)(b:∀j,j<k->(l.getD j Qz.zero).name≠n)(g:(l.getD a Qz.zero).name=n)(c:∀j,j<a->(l.getD j Qz.zero).name≠n):k=a:=by
 rcases Ny k a with e|e|e
 .exact NB h (c k e)
 .exact e
 .exact NB g (b a e)
def ER(Kq:List Qz)(l:List Q_)(n:NL)(e:Ending):Prop:=∃(f:Bool)(t:NL)(ok:Bool),e=.returned (.tuple #[.agg #[.bool f,.string t],.bool ok])/\bD (Kk Kq) (Qq l) n=if ok=true then some ⟨f,t⟩ else none
structure gL (w:NN)(kb:Nat)(a:NM)(n cap:Nat)(d:NM)(m dc:Nat):Prop where
 row:ay w kb 106 2
 web:w.cell? ⟨kb,0,none⟩=some (.slice a n cap)
 runs:w.cell? ⟨kb,1,none⟩=some (.slice d m dc)
theorem gL.kept{w':NN}{c n cap m e:Nat}{a d:NM}(h:gL w c a n cap d m e)(k:K_ w w'):gL w' c a n cap d m e:=⟨h.row.kept k,(k.cell h.row.lt).trans h.web,(k.cell h.row.lt).trans h.runs⟩
theorem fe(w:NN)(a:NM)(cap:Nat)(l:List Qz)(c:NL)(z:l.length<=1048576)(t:bQ w a l):Calls prog 61 #[.agg #[.slice a l.length cap],.string c] w λe w'=>(∃r,e=.returned (.a r)/\Dt l c r)/\K_ w w':=by
 have f:K_ w (w.alloc (.cells #[.slice a l.length cap] 25)):=ah _ _;go_enter func61,ntmps61
 go_wp2
 go_loop [5] (λi=>∃k:Nat,k<=l.length/\i=.a k/\Hid (∀j,j<k->(l.getD j Qz.zero).name≠c)) (λi=>l.length-(intOf i).toNat)
 case atStart=>exact⟨0,Ml _,rfl,Kz λj h=>aO h⟩
 case round=>
  obtain⟨k,A,rfl,d⟩:=hrel;by_cases m:k<l.length
  .obtain⟨b,o,B,rfl,C,n,D,E,rfl,v⟩:=(t.kept f) k m;let⟨x,p⟩:=aj (l.getD k Qz.zero);rw[<-p] at n;have y:=n 0 _ rfl;rw[Ng] at y;have q:=Kz p;clear n p v;cases s:(x.name.toList == c.toList)
   .go_wp2
    go_round
    case rel=>
     refine⟨k+1,E5,F3,Kz λj h=>?_⟩;by_cases e:j=k
     .rw[e,<-q.o];exact jN s
     .exact d.o j E5
    case measure=>simp[intOf];omega
   .go_wp2
    go_ret
    exact⟨⟨k,rfl,.inl ⟨k,m,rfl,AZ m (by rw[<-q.o];exact fC s) d.o,(by rw[<-q.o];exact fC s),d.o⟩⟩,f⟩
  .go_wp2
   go_ret
   exact⟨⟨-1,rfl,.inr ⟨rfl,zh λj h=>d.o j E5⟩⟩,f⟩
theorem GY(w:NN)(v:Nat)(a:NM)(n cap:Nat)(d:NM)(y:Nat)(l:List Q_)(c:NL)(C:l.length<=1048576)(x:gL w v a n cap d l.length y)(z:bN w d l):Calls prog 116 #[.c v,.string c] w λe w'=>(∃r,e=.returned (.a r)/\Ex l c r)/\w'=w:=by
 have D:=x.runs;have E:=x.row.lt;go_enter func116,ntmps116
 go_wp2
 go_loop [5] (λi=>∃k:Nat,k<=l.length/\i=.a k/\Hid (∀j,j<k->(l.getD j Q_.zero).name≠c)) (λi=>l.length-(intOf i).toNat)
 case atStart=>exact⟨0,Ml _,rfl,Kz λj f=>aO f⟩
 case round=>
  obtain⟨k,F,rfl,h⟩:=hrel;by_cases m:k<l.length
  .obtain⟨b,o,G,H,rfl,I,p,_,_⟩:=z k m;let⟨A,q⟩:=aj (l.getD k Q_.zero);rw[<-q] at p;have B:=p 0 _ rfl;rw[Ng] at B;have s:=Kz q;clear p q;cases t:(A.name.toList == c.toList)
   .go_wp2
    go_round
    case rel=>
     refine⟨k+1,E5,F3,Kz λj f=>?_⟩;by_cases e:j=k
     .rw[e,<-s.o];exact jN t
     .exact h.o j E5
    case measure=>simp[intOf];omega
   .go_wp2
    go_ret
    exact⟨⟨k,rfl,.inl ⟨k,m,rfl,Aw m (by rw[<-s.o];exact fC t) h.o,by rw[<-s.o];exact fC t⟩⟩,rfl⟩
  .go_wp2
   go_ret
   exact⟨⟨-1,rfl,.inr ⟨rfl,vT λj f=>h.o j E5⟩⟩,rfl⟩
theorem gY(w:NN)(t:NM)(v x:Nat)(d:NM)(y:Nat)(l:List Q_)(a:NL)(C:l.length<=1048576)(z:bN w d l):Calls prog 69 #[.agg #[.slice t v x,.slice d l.length y],.string a] w λe w'=>(∃r,e=.returned (.a r)/\Ex l a r)/\K_ w w':=by
 have c:K_ w (w.alloc (.cells #[.slice t v x,.slice d l.length y] 43)):=ah _ _;go_enter func69,ntmps69
 go_wp2
 go_loop [5] (λi=>∃k:Nat,k<=l.length/\i=.a k/\Hid (∀j,j<k->(l.getD j Q_.zero).name≠a)) (λi=>l.length-(intOf i).toNat)
 case atStart=>exact⟨0,Ml _,rfl,Kz λj f=>aO f⟩
 case round=>
  obtain⟨k,D,rfl,h⟩:=hrel;by_cases m:k<l.length
  .obtain⟨b,o,E,F,rfl,G,n,_,_⟩:=(z.kept c) k m;let⟨A,p⟩:=aj (l.getD k Q_.zero);rw[<-p] at n;have B:=n 0 _ rfl;rw[Ng] at B;have q:=Kz p;clear n p;cases s:(A.name.toList == a.toList)
   .go_wp2
    go_round
    case rel=>
     refine⟨k+1,E5,F3,Kz λj f=>?_⟩;by_cases e:j=k
     .rw[e,<-q.o];exact jN s
     .exact h.o j E5
    case measure=>simp[intOf];omega
   .go_wp2
    go_ret
    exact⟨⟨k,rfl,.inl ⟨k,m,rfl,Aw m (by rw[<-q.o];exact fC s) h.o,by rw[<-q.o];exact fC s⟩⟩,c⟩
  .go_wp2
   go_ret
   exact⟨⟨-1,rfl,.inr ⟨rfl,vT λj f=>h.o j E5⟩⟩,c⟩
theorem Tryz.lG :(prog.info? 100).map (·.size)=some 2:=F4
theorem bC{P:Program}{e:Func}{R:Ending->NN->Prop}{a:Act}{p q:Tmp}{c:TypeId}{b:Nat}(cs:List NP)(d:TypeDesc)(v:NP)(h:e.results= #[.cell p c,.tmp q])(f:a.tmps.getD p undef=.c b)(i:w.rangeAt b 0 cs)(j:P.underlying c=some d)(k:d.isRow=true)(hi:(P.info? c).map (·.size)=some cs.length)(l:a.tmps.getD q undef=v)(m:a.defers=[])(n:R (.returned (.tuple #[.agg cs.toArray,v])) w):bodyPost P e R .ret a w:=by
 refine bodyPost_ret ?_ m n;have r:a.tmps[p]?.getD undef=.c b:=by simpa using f
 have s:a.tmps[q]?.getD undef=v:=by simpa using l
 simp only[results,h];simp[r,s,asAddr,run_loadVar_mid w b 0 c cs d i j k hi]
theorem K_.mq{w1:NN}(k:K_ w w1){i:Nat}(v:NP):K_ w (w1.setCell ⟨w.heap.size,i,none⟩ v):=Below.setCell k (p:=⟨w.heap.size,i,none⟩) (Mj _) v
theorem Zj{b c o p:Nat}(h:b≠c){v:NP}:(w.setCell ⟨c,p,none⟩ v).cell? ⟨b,o,none⟩=w.cell? ⟨b,o,none⟩:=MJ _ _ _ _ (λe=>h (congrArg Addr.block e).symm)
def Ic(Kq:List Qz)(l:List Q_)(n:NL)(e:Ending):Prop:=∃(f:Bool)(t:NL)(ok:Bool),e=.returned (.tuple #[.agg #[.bool f,.string t],.bool ok])/\bD (Kk Kq) (Qq l) n= (if ok=true then some ⟨f,t⟩ else none)/\(ok=false->f=false/\t= ⟨#[]⟩)
theorem qg(w:NN)(x:Nat)(a:NM)(cap:Nat)(s:List Qz)(d:NM)(G:Nat)(l:List Q_)(n:NL)(Z:s.length<=1048576)(a0:l.length<=1048576)(hn:n.size<=1000)(c:gL w x a s.length cap d l.length G)(hN:bQ w a s)(M:bN w d l):Calls prog 60 #[.c x,.string n] w λe w'=>Ic s l n e/\K_ w w':=by
 have f:K_ w (w.alloc (.cells #[.bool false,.string ⟨#[]⟩] 100)):=ah _ _;have a9:=c.row.lt;have q0:=(c.kept f).web;have H:=(c.kept f).row.lt;go_enter func60,ntmps60
 go_wp2_with fail
 refine (fe _ a cap s n Z (hN.kept f)).mono ?_;rintro e b ⟨⟨b0,rfl,hr⟩,k⟩;have p:Hid (ay b w.heap.size 100 2):=(ay.made w #[.bool false,.string ⟨#[]⟩] 100).kept k;let⟨⟨_,N⟩,O⟩:=p.o.row.at (i:=0) E5;let⟨⟨_,P⟩,Q⟩:=p.o.row.at (i:=1) E5;have R:=p.o.lt;clear q0 H;rcases hr with⟨a1,hk,rfl,z,_⟩|⟨rfl,z⟩
 .have b1:¬(a1:Int)<0:=E5;have I:=(c.kept f).kept k;have B:=(M.kept f).kept k;have A:=Kz z;clear z;go_wp2_with fail
  refine (GY b x a s.length cap d G l n a0 I B).mono ?_;rintro e w2 ⟨⟨r2,rfl,a2⟩,S⟩;rw[S];clear S w2;rcases a2 with⟨q,T,rfl,t,_⟩|⟨rfl,t⟩
  .have b2:¬(q:Int)<0:=E5;have b3:(q:Int)<(l.length:Int):=E5;let⟨y,J⟩:=aj (l.getD q Q_.zero);rw[<-J] at t;obtain⟨C,o,_,_,rfl,b4,_⟩:=M q T;let⟨b5,o1,xa,xc,U,hb,v,_,_⟩:=B q T;simp only[Na,NI,and_true] at U;obtain⟨rfl,rfl⟩:=U;rw[<-J] at v;have V:=v 1 _ rfl;have c2:=v 2 _ rfl;have c3:=v 3 _ rfl;have H:=I.runs;have qz:=I.row.lt;have⟨D,HC⟩:=aH t v;clear J v t B;cases E:y.over
   .rw[E] at V;go_wp2_with fail
    have r:=Mo b w.heap.size 0 [.bool false,.string ⟨#[]⟩] (p.o.row.there (o:=0) (m:=2) (Mj _));refine bC [.bool false,.string ⟨#[]⟩] _ (.bool false) results60 rfl r underlying100 rfl Tryz.lG rfl rfl ?_;exact⟨⟨false,⟨#[]⟩,false,rfl,by unfold bD;rw[A.o,D.o];simp[E],λ_=>⟨rfl,rfl⟩⟩,((f.trans k).mq _).mq _⟩
   .rw[E] at V;go_upto_region 6 with fail
    refine Qk.region F4 (λw'=>w'.cell? ⟨x,1,none⟩=some (.slice (some ⟨C,o,none⟩) l.length G)/\w'.cell? ⟨C,o+q*7+2,none⟩=some (.bool y.fail)/\w'.cell? ⟨C,o+q*7+3,none⟩=some (.string y.text)) 18 ⟨H,c2,c3⟩ λj=>?_;have a3:b.drew.cell? ⟨w.heap.size,0,none⟩=some _:=N;have a4:b.drew.cell? ⟨w.heap.size,1,none⟩=some _:=P;have a5:b.drew.frozen? ⟨w.heap.size,0,none⟩=false:=O;have a6:b.drew.frozen? ⟨w.heap.size,1,none⟩=false:=Q;have a7:w.heap.size<b.drew.heap.size:=R;have K:K_ b b.drew:=aY _;have W:=Kz (p.o.kept K);have X:=k.trans K;generalize a8:b.drew=wd at j a3 a4 a5 a6 a7 W X⊢;clear a8 K N P O Q R;refine ak 0 j ?_;refine ak 4 j ?_;refine ak 8 j ?_;refine ak 12 j ?_;refine ae 16 j ?_;have Y:x≠w.heap.size:=E5;have F:C≠w.heap.size:=E5;refine ai 17 λL c=>?_;go_simp
    refine af c (λ_=>⟨by rw[Zj Y,Zj Y];exact j.1,by rw[Zj F,Zj F];exact j.2.1,by rw[Zj F,Zj F];exact j.2.2⟩) ?_;clear c L;refine ai 18 λL c=>?_;go_simp
    refine af c (λh=>NB rfl h) ?_;clear c L;refine aC ?_;go_wp2_with fail
    have r:=Mo wd w.heap.size 0 [.bool y.fail,.string y.text] (W.o.row.there (o:=0) (m:=2) (Mj _));refine bC [.bool y.fail,.string y.text] _ (.bool true) results60 rfl r underlying100 rfl Tryz.lG rfl rfl ?_;exact⟨⟨y.fail,y.text,true,rfl,by unfold bD;rw[A.o,D.o];simp[E],λh=>by cases h⟩,((f.trans X).mq _).mq _⟩
  .have D:=Kz t;clear t B;go_wp2_with fail
   have r:=Mo b w.heap.size 0 [.bool false,.string ⟨#[]⟩] (p.o.row.there (o:=0) (m:=2) (Mj _));refine bC [.bool false,.string ⟨#[]⟩] _ (.bool false) results60 rfl r underlying100 rfl Tryz.lG rfl rfl ?_;exact⟨⟨false,⟨#[]⟩,false,rfl,by unfold bD;rw[A.o,D.o];rfl,λ_=>⟨rfl,rfl⟩⟩,((f.trans k).mq _).mq _⟩
 .have A:=Kz z;clear z;have f3:¬9223372036854775807<3+n.size:=E5;go_wp2_with fail
  have r:=Mo b w.heap.size 0 [.bool true,.string ((⟨#[110,111,32]⟩:NL)++n)] (p.o.row.there (o:=0) (m:=2) (Mj _));refine bC [.bool true,.string ((⟨#[110,111,32]⟩:NL)++n)] _ (.bool true) results60 rfl r underlying100 rfl Tryz.lG rfl rfl ?_;exact⟨⟨true,xm n,true,rfl,by unfold bD;rw[A.o];rfl,λh=>by cases h⟩,((f.trans k).mq _).mq _⟩
theorem Dh(w:NN)(c:Nat)(a:NM)(cap:Nat)(b:List Qz)(d:NM)(f:Nat)(l:List Q_)(n:NL)(h:b.length<=1048576)(i:l.length<=1048576)(j:n.size<=1000)(k:gL w c a b.length cap d l.length f)(m:bQ w a b)(p:bN w d l):Calls prog 60 #[.c c,.string n] w λe w'=>ER b l n e/\K_ w w':=by
 refine (qg w c a cap b d f l n h i j k m p).mono ?_;rintro e w' ⟨⟨q,t,r,s,v,_⟩,x⟩;exact⟨⟨q,t,r,s,v⟩,x⟩
def aQ(a b:NL):Prop:=Op.bytesLess a.toList b.toList=true
theorem a_(a:NL):¬aQ a a:=λh=>by unfold aQ at h;rw[dP] at h;cases h
theorem gm{a b c:NL}(h:aQ a b)(g:aQ b c):aQ a c:=fu _ _ _ h g
theorem eU{a b:NL}(h:aQ a b):¬aQ b a:=λg=>a_ a (gm h g)
theorem dO{a b:NL}(h:aQ a b):a≠b:=λe=>by rw[e] at h;exact a_ b h
theorem dR(a b:NL):aQ a b\/a=b\/aQ b a:=by
 unfold aQ;cases h:Op.bytesLess a.toList b.toList with
 |true=>exact .inl rfl
 |false=>
  by_cases e:a=b
  .exact .inr (.inl e)
  .exact .inr (.inr (qZ _ _ h λc=>e (toList_inj.1 c)))
def dB(l:List Q_):Prop:=l.Pairwise λx y=>aQ x.name y.name
variable {l:List Q_}{r:Q_}
theorem aZ{n:NL}(h:Qq l n=some r):r∈l/\r.name=n:=by
 unfold Qq at h;exact⟨List.mem_of_find?_eq_some h,by simpa using List.find?_some h⟩
theorem bJ(h:dB l)(a:r∈l):Qq l r.name=some r:=by
 induction l with
 |nil=>cases a
 |cons x l ih=>
  rw[dB,NH] at h;rcases Nh.1 a with rfl|a
  .simp[Qq]
  .have c:x.name≠r.name:=dO (h.1 r a);have e:Qq (x :: l) r.name=Qq l r.name:=by simp[Qq,List.find?,c]
   rw[e];exact ih h.2 a
theorem E_ :∀{l l':List Q_},dB l->dB l'->(∀r,r∈l↔r∈l')->l=l'
 |[],[],_,_,_=>rfl
 |[],y :: ys,_,_,h=>by have:=(h y).2 E9;cases this
 |x :: xs,[],_,_,h=>by have:=(h x).1 E9;cases this
 |x :: xs,y :: ys,hl,hl',h=>by
  rw[dB,NH] at hl hl';have c:x=y:=by
   rcases Nh.1 ((h x).1 E9) with e|d
   .exact e
   .rcases Nh.1 ((h y).2 E9) with e|f
    .exact e.symm
    .exact NB (hl.1 y f) (eU (hl'.1 x d))
  subst c;rw[E_ hl.2 hl'.2 λr=>?_];constructor
  .intro a;rcases Nh.1 ((h r).1 (MH _ a)) with rfl|b
   .exact NB (hl.1 r a) (a_ _)
   .exact b
  .intro a;rcases Nh.1 ((h r).2 (MH _ a)) with rfl|b
   .exact NB (hl'.1 r a) (a_ _)
   .exact b
theorem Be{a:List Q_}(h:dB l)(d:dB a)(e:Qq l=Qq a):l=a:=by
 refine E_ h d λr=>⟨λb=>?_,λb=>?_⟩
 .have:=bJ h b;rw[e] at this;exact (aZ this).1
 .have:=bJ d b;rw[<-e] at this;exact (aZ this).1
theorem qx(d:∀x∈l,∀y∈l,x.name=y.name->x=y){n:NL}:Qq l n=some r↔r∈l/\r.name=n:=by
 refine⟨aZ,λ⟨b,c⟩=>?_⟩;cases h:Qq l n with
 |none=>
  unfold Qq at h;rw[List.find?_eq_none] at h;exact NB (by simpa using c) (h r b)
 |some x=>
  let⟨e,f⟩:=aZ h;rw[d x e r b (f.trans c.symm)]
theorem rY(h:dB l):∀x∈l,∀y∈l,x.name=y.name->x=y:=λx c y d e=>by
 have b:=bJ h c;have f:=bJ h d;rw[e,f] at b;exact (Nl b).symm
def dh(l:List Q_)(r:Q_):List Q_:=(l.filter λx=>Op.bytesLess x.name.toList r.name.toList)++r :: l.filter λx=>Op.bytesLess r.name.toList x.name.toList
theorem pJ(h:dB l):dB (dh l r):=by
 unfold dh;rw[dB,MP];refine⟨h.filter _,?_,λx e y a=>?_⟩
 .rw[NH];exact⟨λy a=>(List.mem_filter.1 a).2,h.filter _⟩
 .have c:aQ x.name r.name:=(List.mem_filter.1 e).2;rcases Nh.1 a with rfl|a
  .exact c
  .exact gm c (List.mem_filter.1 a).2
theorem su{x:Q_}:x∈dh l r↔x=r\/(x∈l/\x.name≠r.name):=by
 unfold dh;rw[Mv,Nh,List.mem_filter,List.mem_filter];constructor
 .rintro (⟨a,b⟩|h|⟨a,b⟩)
  .exact .inr ⟨a,dO b⟩
  .exact .inl h
  .exact .inr ⟨a,Ne.symm (dO b)⟩
 .rintro (h|⟨a,b⟩)
  .exact .inr (.inl h)
  .rcases dR x.name r.name with c|c|c
   .exact .inl ⟨a,c⟩
   .exact NB c b
   .exact .inr (.inr ⟨a,c⟩)
theorem wG(h:dB l)(n:NL):Qq (dh l r) n=if n=r.name then some r else Qq l n:=by
 have c:=rY (pJ (r:=r) h);by_cases e:n=r.name
 .rw[Nz e];exact (qx c).2 ⟨(su).2 (.inl rfl),e.symm⟩
 .rw[NA e];cases d:Qq l n with
  |some x=>
   let⟨b,a⟩:=aZ d;exact (qx c).2 ⟨(su).2 (.inr ⟨b,λf=>e (a.symm.trans f)⟩),a⟩
  |none=>
   cases i:Qq (dh l r) n with
   |none=>rfl
   |some x=>
    let⟨b,a⟩:=aZ i;rcases (su).1 b with rfl|⟨j,_⟩
    .exact NB a.symm e
    .have:=(qx (rY h)).2 ⟨j,a⟩;rw[d] at this;cases this
theorem jY :∀(l t:List Q_),dB t->(∀x∈l,∀y∈l,x.name=y.name->x=y)->dB (l.foldl dh t)/\∀n,Qq (l.foldl dh t) n=match Qq l n with|some r=>some r|none=>Qq t n
 |[],t,h,_=>⟨h,λn=>rfl⟩
 |x :: l,t,h,hd=>by
  let⟨c,d⟩:=jY l (dh t x) (pJ h) λa f i j=>hd a (MH _ f) i (MH _ j);refine⟨c,λn=>?_⟩;show Qq (l.foldl dh (dh t x)) n=_;rw[d n];by_cases e:x.name=n
  .have b:Qq (x :: l) n=some x:=by simp[Qq,e]
   rw[b];cases k:Qq l n with
   |some r=>
    let⟨m,p⟩:=aZ k;simp only;rw[hd r (MH _ m) x E9 (p.trans e.symm)]
   |none=>
    simp only;rw[wG h,Nz e.symm]
  .have b:Qq (x :: l) n=Qq l n:=by simp[Qq,List.find?,e]
   rw[b];cases Qq l n with
   |some r=>rfl
   |none=>
    simp only;rw[wG h,NA (Ne.symm e)]
def qY(r:Q_)(p:List Q_×Bool)(x:Q_):List Q_×Bool:=if p.2=false/\Op.bytesLess x.name.toList r.name.toList=false then (p.1++[r],true) else p
def yn(r:Q_)(p:List Q_×Bool)(x:Q_):List Q_×Bool:=if (x.name.toList == r.name.toList)=true then p else (p.1++[x],p.2)
def tO(r:Q_)(p:List Q_×Bool)(x:Q_):List Q_×Bool:=yn r (qY r p x) x
def ug(l:List Q_)(r:Q_)(k:Nat):List Q_×Bool:=(l.take k).foldl (tO r) ([],false)
theorem FL(l:List Q_)(r:Q_):ug l r 0= ([],false):=rfl
theorem zI{k:Nat}(h:k<l.length):ug l r (k+1)=tO r (ug l r k) (l.getD k Q_.zero):=by
 unfold ug;rw[Ms h,List.foldl_append];simp[List.getD,h]
theorem Ig(r:Q_)(p:List Q_×Bool)(x:Q_):(tO r p x).1.length+(if (tO r p x).2=true then 0 else 1)<=p.1.length+(if p.2=true then 0 else 1)+1:=by
 unfold tO yn qY;let⟨o,d⟩:=p;cases d<;>cases Op.bytesLess x.name.toList r.name.toList<;>cases (x.name.toList == r.name.toList)<;>simp<;>omega
theorem BP{l:List Q_}{r:Q_}:∀{k:Nat},k<=l.length->(ug l r k).1.length+(if (ug l r k).2=true then 0 else 1)<=k+1
 |0,_=>by rw[FL];simp
 |k+1,h=>by
  have a:=BP (l:=l) (r:=r) (k:=k) E5;have b:=Ig r (ug l r k) (l.getD k Q_.zero);rw[zI E5];omega
def Aj(r:Q_)(p:List Q_×Bool):List Q_:=if p.2=true then p.1 else p.1++[r]
theorem CJ(r:Q_):∀(l acc:List Q_),l.foldl (tO r) (acc,true)= (acc++l.filter λx=>!(x.name.toList == r.name.toList),true)
 |[],acc=>E9
 |x :: l,acc=>by
  rw[List.foldl_cons];have e:tO r (acc,true) x= (acc++(if (x.name.toList == r.name.toList)=true then [] else [x]),true):=by
   unfold tO yn qY;cases (x.name.toList == r.name.toList)<;>simp
  rw[e,CJ r l];cases h:(x.name.toList == r.name.toList)<;>simp[h]
theorem BL(r:Q_):∀(l acc:List Q_),dB l->Aj r (l.foldl (tO r) (acc,false))=acc++dh l r
 |[],acc,_=>by simp[Aj,dh]
 |x :: l,acc,i=>by
  have j:=i;rw[dB,NH] at j;rw[List.foldl_cons];cases e:Op.bytesLess x.name.toList r.name.toList with
  |true=>
   have n:(x.name.toList == r.name.toList)=false:=by
    rw[beq_eq_false_iff_ne];intro f;exact dO (a:=x.name) (b:=r.name) e (toList_inj.1 f)
   have p:Op.bytesLess r.name.toList x.name.toList=false:=by
    cases k:Op.bytesLess r.name.toList x.name.toList with
    |false=>rfl
    |true=>exact NB k (eU (a:=x.name) (b:=r.name) e)
   have f:tO r (acc,false) x= (acc++[x],false):=by simp[tO,yn,qY,e,n]
   rw[f,BL r l _ j.2];simp[dh,e,p]
  |false=>
   have m:∀y∈x :: l,Op.bytesLess y.name.toList r.name.toList=false:=by
    intro y h;rcases Nh.1 h with rfl|h
    .exact e
    .cases k:Op.bytesLess y.name.toList r.name.toList with
     |false=>rfl
     |true=>
      have:=gm (j.1 y h) (show aQ y.name r.name from k);unfold aQ at this;rw[e] at this;cases this
   have q:(x :: l).filter (λy=>Op.bytesLess y.name.toList r.name.toList)=[]:=by
    rw[List.filter_eq_nil_iff];intro y h;rw[m y h];simp
   have s:(x :: l).filter (λy=>Op.bytesLess r.name.toList y.name.toList)= (x :: l).filter (λy=>!(y.name.toList == r.name.toList)):=by
    refine List.filter_congr λy h=>?_
    rcases dR r.name y.name with d|d|d
    .have t:(y.name.toList == r.name.toList)=false:=by
      rw[beq_eq_false_iff_ne];intro f;exact dO d (toList_inj.1 f).symm
     unfold aQ at d;rw[d,t]
     rfl
    .rw[d,dP];simp
    .unfold aQ at d;rw[m y h] at d;cases d
   have f:tO r (acc,false) x= (acc++[r]++(if (x.name.toList == r.name.toList)=true then [] else [x]),true):=by
    unfold tO yn qY;cases (x.name.toList == r.name.toList)<;>simp[e]
   rw[f,CJ];unfold Aj dh;rw[q,s];cases i:(x.name.toList == r.name.toList)<;>simp[i]
theorem JH(h:dB l):Aj r (ug l r l.length)=dh l r:=by
 unfold ug;rw[MS,BL r l [] h,List.nil_append]
theorem pX(w:NN)(give:NL)(a:NM)(cap:Nat)(l:List NL)(I:give.size<=maxLen)(J:l.length<=maxLen)(A:∀s∈l,s.size<=maxLen)(K:Strs w a l):Calls prog 164 #[.string give,.slice a l.length cap] w λe w'=>e=.returned (.string (nL give l))/\K_ w w':=by
 unfold maxLen at I J A;by_cases Y:(give.size:Int)<=30
 .by_cases Z:(l.length:Int)<=100
  .go_enter func164,ntmps164
   go_wp2
   go_loop [5,6] (λx i=>∃(k:Nat)(b:NL),k<=l.length/\i=.a k/\x=.string b/\b.data.toList=give.data.toList++40 :: Lib.join ((texts l).take k) [44]/\(∀j,j<k->(l.getD j ByteArray.empty).size<=200)/\b.size<=31+k*201) (λ_ i=>l.length-(intOf i).toNat)
   case atStart=>exact⟨0,_,Ml _,rfl,rfl,by rw[fT];simp[Lib.join_nil],λj p=>aO p,by have e:(⟨#[40]⟩:NL).size=1:=rfl;rw[ByteArray.size_append,e];omega⟩
   case round=>
    obtain⟨k,b,hk,rfl,rfl,q,p,B⟩:=hrel;have⟨f,y⟩:=aH q p;clear q p;by_cases h:k<l.length
    .obtain⟨g,o,rfl,a0,hc⟩:=K k h;have a1:=A (l.getD k ByteArray.empty) (by simp[List.getD,h]);generalize C:l.getD k ByteArray.empty=L at *;have r:=Kz C;clear C;by_cases h3:(L.size:Int)<=200
     .by_cases h4:(0:Int)<k
      .go_wp2
       go_round
       case rel=>
        have t:=pM (texts l) k (by rw[jT];exact h);rw[xR l k h,r.o,Nz E5] at t;refine⟨k+1,_,E5,F3,rfl,?_,λj p=>?_,?_⟩
        .rw[t];simp only[fT,f.o];simp
        .by_cases e:j=k
         .subst e;rw[r.o];omega
         .exact y.o j E5
        .simp only[ByteArray.size_append];have:(⟨#[44]⟩:NL).size=1:=rfl;omega
       case measure=>simp[intOf];omega
      .go_wp2
       go_round
       case rel=>
        have t:=pM (texts l) k (by rw[jT];exact h);rw[xR l k h,r.o,NA E5] at t;refine⟨k+1,_,E5,F3,rfl,?_,λj p=>?_,?_⟩
        .rw[t];simp only[fT,f.o];simp
        .by_cases e:j=k
         .subst e;rw[r.o];omega
         .exact y.o j E5
        .simp only[ByteArray.size_append];have:(⟨#[44]⟩:NL).size=1:=rfl;omega
       case measure=>simp[intOf];omega
     .go_wp2
      go_ret
      exact⟨lX (kF (.inr (.inr ⟨k,h,by rw[r.o];omega⟩))).symm,K_.refl _⟩
    .have M:k=l.length:=E5;have D:Hid ((b++ ⟨#[41]⟩).data.toList=jS give.data.toList (texts l)):=by
      show _=_;rw[fT,f.o,M,<-jT,MS];simp[jS]
     have E:Hid (qw give l):=⟨E5,E5,λi hi=>y.o i E5⟩;have N:(b++ ⟨#[41]⟩:NL).size=b.size+1:=by rw[ByteArray.size_append];rfl
     by_cases O:(b.size:Int)+1<=200
     .go_wp2
      go_ret
      exact⟨lX (xN E.o D.o E5).symm,K_.refl _⟩
     .go_wp2
      have a2:(b++ ⟨#[41]⟩:NL).size<=100000:=E5;have P:200<(b++ ⟨#[41]⟩:NL).size:=E5;clear N O B f;generalize (b++ ⟨#[41]⟩:NL)=c at *;go_loop [7,8] (λv i=>∃k:Nat,k<=c.size/\i=.a k/\v=.int .u64 ((c.data.toList.take k).foldl dX 14695981039346656037)) (λ_ i=>c.size-(intOf i).toNat)
      case atStart=>exact⟨0,Ml _,rfl,rfl⟩
      case round=>
       obtain⟨m,hm,rfl,rfl⟩:=hrel;by_cases Q:m<c.size
       .have F:m<c.data.toList.length:=by simpa using Q
        have R:Hid ((c.data.toList.take (m+1)).foldl dX 14695981039346656037=dX ((c.data.toList.take m).foldl dX 14695981039346656037) c[m]):=by
         have e:=tC c.data.toList m F;rw[List.getD_eq_getElem?_getD,Mq F,NC] at e;exact e
        generalize (c.data.toList.take m).foldl dX 14695981039346656037=v at *;go_wp2
        go_round
        case rel=>exact⟨m+1,E5,F3,by rw[R.o];rw[zW];rfl⟩
        case measure=>simp[intOf];omega
       .have S:m=c.data.toList.length:=F6;subst S;rw[MS];have T:=sS c.data.toList;have z:Hid (nL give l= ⟨(35 :: jI 16 (sumOf c.data.toList).toNat).toArray⟩):=zU E.o D.o P;unfold sumOf at T z;generalize List.foldl dX 14695981039346656037 c.data.toList=V at *;obtain⟨v,rfl⟩:∃v:Nat,V=v:=⟨V.toNat,E5⟩;rw[Int.toNat_natCast] at z;go_wp2
        go_loop [7,9,10] (λx d i=>∃(k:Nat)(b:NL),k<=16/\i=.a k/\x=.int .u64 ((v / 16 ^ k:Nat):Int)/\d=.string b/\b.data.toList=jI k v) (λ_ _ i=>16-(intOf i).toNat)
        case atStart=>exact⟨0,ByteArray.empty,Ml _,rfl,E9,rfl,rfl⟩
        case round=>
         obtain⟨n,b,hn,rfl,rfl,rfl,q⟩:=hrel;have f:=Kz q;clear q;have B:b.size<=16:=by have:=congrArg List.length f.o;rw[iL] at this;simp at this;omega
         by_cases a3:(n:Int)<16
         .have U:(v / 16 ^ n) % 16<16:=Nat.mod_lt _ E5;have G:v / 16 ^ n / 16=v / 16 ^ (n+1):=by rw[Nat.div_div_eq_div_mul,Nat.pow_succ]
          have W:=Kz G;clear G;have a4:v / 16 ^ n<18446744073709551616:=Nat.lt_of_le_of_lt (Nat.div_le_self _ _) E5;generalize H:v / 16 ^ n=u at *;have X:=Kz H;clear H;go_wp2
          go_round
          case rel=>
           refine⟨n+1,_,E5,F3,by rw[<-W.o];simp,rfl,?_⟩;rw[fT,JL _ U,f.o,jI,X.o]
           rfl
          case measure=>simp[intOf];omega
         .go_wp2
          go_ret
          obtain rfl:n=16:=E5;exact⟨lX (by rw[z.o];apply Aq;rw[fT,f.o];rfl),K_.refl _⟩
  .go_enter func164,ntmps164
   go_wp2
   go_ret
   exact⟨by rw[kF E5];rfl,K_.refl _⟩
 .go_enter func164,ntmps164
  go_wp2
  go_ret
  exact⟨by rw[kF E5];rfl,K_.refl _⟩
structure dS where
 name:NL
 over:Bool
 fail:Bool
 text:NL
def dS.zero :dS:=⟨⟨#[]⟩,false,false,⟨#[]⟩⟩
def dS.cells(r:dS):List NP:=[.string r.name,.bool r.over,.bool r.fail,.string r.text]
def mJ(w:NN)(a:NM)(l:List dS):Prop:=∀i,i<l.length->∃b o,a=some ⟨b,o,none⟩/\b<w.heap.size/\w.rangeAt b (o+i*4) (l.getD i dS.zero).cells
variable {l:List dS}{a:NM}
theorem mJ.kept{w w':NN}(h:mJ w a l)(k:K_ w w'):mJ w' a l:=by
 intro i c;let⟨d,o,e,b,f⟩:=h i c;exact⟨d,o,e,Mk b k.size,k.range b f⟩
def iA(w:NN)(lo hi:Nat)(a:NM)(l:List dS):Prop:=l=[]\/∃b,a=some ⟨b,0,none⟩/\lo<=b/\b<hi/\Row w b (l.length*4)/\∀i,i<l.length->w.rangeAt b (i*4) (l.getD i dS.zero).cells
theorem iA.same{w w':NN}{lo hi:Nat}(h:iA w lo hi a l)(k:Same lo hi w w'):iA w' lo hi a l:=by
 rcases h with h|⟨b,f,c,d,e,i⟩
 .exact .inl h
 .exact .inr ⟨b,f,c,d,k.row c d e,λj hi=>k.range c d e.lt (i j hi)⟩
theorem iA.mono{w:NN}{lo hi c d:Nat}(h:iA w lo hi a l)(j:c<=lo)(h2:hi<=d):iA w c d a l:=by
 rcases h with h|⟨b,e,k,m,f,i⟩
 .exact .inl h
 .exact .inr ⟨b,e,E5,E5,f,i⟩
theorem iA.Mi{w:NN}{lo hi:Nat}(h:iA w lo hi a l):mJ w a l:=by
 rcases h with rfl|⟨b,c,f,j,d,e⟩
 .intro i hi;simp at hi
 .intro i hi;exact⟨b,0,c,d.lt,by rw[MR];exact e i hi⟩
section
variable (E:NL -> NL -> Prop)
inductive RW (g:NL):Nat->NL->Prop
 |one {a:NL} (h:E a g):RW g 1 a
 |step {n:Nat} {a b:NL} (h:E a b) (hb:aQ g b) (r:RW g n b):RW g (n+1) a
def eB(g:NL)(n:Nat)(a:NL):Prop:=RW E g n a/\∀m,m<n->¬RW E g m a
def iD(p:NL->Prop)(x:NL):Prop:=p x/\∀y,p y->¬aQ y x
inductive mh (g:NL):Nat->NL->List NL->Prop
 |stop (a:NL):mh g 1 a [a]
 |step {n:Nat} {a x:NL} {l:List NL} (h:iD (λy=>E a y/\aQ g y/\eB E g n y) x) (r:mh g n x l):mh g (n+1) a (a :: l)
inductive mR (g:NL):Nat->NL->List NL->Prop
 |stop (a:NL):mR g 1 a [a]
 |step {n:Nat} {a x:NL} {l:List NL} (h:iD (λy=>E a y/\Far E g n y) x) (r:mR g n x l):mR g (n+1) a (a :: l)
def om(l:List NL):Prop:=((∀x n,1<=n->¬aX E n x x)/\l=[])\/∃m t,1<=m/\(∀x n,1<=n->aX E n x x->m<=n)/\iD (λx=>aX E m x x) t/\mR E t m t l
end
variable {a g:NL}{n:Nat}
section
variable {E:NL -> NL -> Prop}
theorem iD.unique{p q:NL->Prop}(b:∀x,p x↔q x){x y:NL}(h:iD p x)(k:iD q y):x=y:=by
 rcases dR x y with e|e|e
 .exact NB e (k.2 x ((b x).1 h.1))
 .exact e
 .exact NB e (h.2 y ((b y).2 k.1))
theorem iD.iff{p q:NL->Prop}(a:∀x,p x↔q x){x:NL}(h:iD p x):iD q x:=⟨(a x).1 h.1,λy d=>h.2 y ((a y).2 d)⟩
theorem RW.pos(h:RW E g n a):1<=n:=by cases h<;>omega
theorem RW.walk(h:RW E g n a):aX E n a g:=by
 induction h with
 |one h=>exact aX.one h
 |step h _ _ ih=>exact .step h ih
theorem RW.far :∀{n:Nat}{a:NL},RW E g n a->∃m,m<=n/\eB E g m a:=by
 intro n
 induction n using Nat.strongRecOn with
 |ind n ih=>
  intro a h;by_cases d:∃m,m<n/\RW E g m a
  .obtain⟨m,b,c⟩:=d;let⟨q,f,e⟩:=ih m b c;exact⟨q,E5,e⟩
  .exact⟨n,Mj _,h,λm b c=>d ⟨m,b,c⟩⟩
theorem eB.unique{m:Nat}(h:eB E g n a)(k:eB E g m a):n=m:=by
 rcases Ny n m with e|e|e
 .exact NB h.1 (k.2 n e)
 .exact e
 .exact NB k.1 (h.2 m e)
theorem eB.one :eB E g 1 a↔E a g:=by
 constructor
 .intro h;generalize e:(1:Nat)=n at h;have c:=h.1;cases c with
  |one h=>exact h
  |step _ _ r=>have:=r.pos;omega
 .intro h;exact⟨.one h,λm i d=>by have:=d.pos;omega⟩
theorem eB.succ(t:1<=n):eB E g (n+1) a↔(∃b,E a b/\aQ g b/\eB E g n b)/\∀m,m<=n->¬eB E g m a:=by
 constructor
 .intro h;refine⟨?_,λm i j=>h.2 m E5 j.1⟩;have c:=h.1;generalize v:n+1=w at c;cases c with
  |one h=>omega
  |@step q _ b c hb r=>
   have k:q=n:=E5;subst k;let⟨m,f,d⟩:=r.far;rcases Nat.lt_or_ge m q with e|e
   .exact NB (RW.step c hb d.1) (h.2 (m+1) E5)
   .have:m=q:=E5;subst this;exact⟨b,c,hb,d⟩
 .rintro⟨⟨b,c,f,d⟩,l⟩;refine⟨.step c f d.1,λm i p=>?_⟩;let⟨q,x,s⟩:=p.far;exact l q E5 s
theorem eB.levels :∀{n:Nat}{a:NL},eB E g n a->∃l:List NL,l.length=n/\(∀x∈l,∃y,E x y)/\(∀i (hi:i<l.length),eB E g (i+1) l[i]):=by
 intro n
 induction n with
 |zero=>intro a h;have:=h.1.pos;omega
 |succ n ih=>
  intro a h;have d:∃y,E a y:=by
   have e:=h.1;cases e with
   |one h=>exact⟨_,h⟩
   |step h _ _=>exact⟨_,h⟩
  by_cases k:n=0
  .subst k;exact⟨[a],rfl,λx c=>by rw[Mt] at c;rw[c];exact d,λi hi=>by
    simp at hi;subst hi;exact h⟩
  .obtain⟨⟨b,e,_,m⟩,_⟩:=(eB.succ E5).1 h;let⟨l,f,p,q⟩:=ih m;refine⟨l++[a],by simp[f],λx c=>?_,λi hi=>?_⟩
   .rcases Mv.1 c with g|g
    .exact p x g
    .rw[Mt] at g;rw[g];exact d
   .by_cases j:i<l.length
    .rw[List.getElem_append_left j];exact q i j
    .have:i=l.length:=by simp at hi;omega
     subst this;simp only[List.getElem_append_right (Mj _),Nat.sub_self,List.getElem_cons_zero];rw[f];exact h
theorem eB.bound(h:eB E g n a){names:List NL}(d:∀x y,E x y->x∈names):n<=names.length:=by
 let⟨r,e,f,b⟩:=h.levels;rw[<-e];refine List.Nodup.length_le_of_subset ?_ (λx i=>by let⟨y,j⟩:=f x i;exact d x y j);rw[List.Nodup,Mx];intro k l m p s q;have c:=b k m;rw[q] at c;have:=c.unique (b l p);omega
theorem vU{m:Nat}{t:NL}(f:∀x n,1<=n->aX E n x x->m<=n)(h:∀x,aX E m x x->¬aQ x t):∀{q j:Nat}{a:NL},j+q=m->aX E j t a->aX E q a t->1<=q->RW E t q a:=by
 intro q
 induction q with
 |zero=>intro j a _ _ _ r;omega
 |succ q ih=>
  intro j a s i k _;let⟨y,b,c⟩:=k.first
  by_cases l:q=0
  .subst l;have:=c.zero;subst this;exact .one b
  .have d:aX E (j+1) t y:=i.trans (aX.one b);have p:aX E m y y:=by
    have:=c.trans d;rw[show q+(j+1)=m by omega] at this;exact this
   refine .step b ?_ (ih E5 d c E5);rcases dR t y with e|e|e
   .exact e
   .subst e;have:=f t (j+1) E5 d;omega
   .exact NB e (h y p)
theorem Jh{m:Nat}{t:NL}(d:∀x n,1<=n->aX E n x x->m<=n)(i:∀x,aX E m x x->¬aQ x t){j q:Nat}(z:j+(q+1)=m)(k:aX E j t a)(p:1<=q)(y:NL):(E a y/\aQ t y/\eB E t q y)↔(E a y/\Far E t q y):=by
 constructor
 .rintro⟨b,c,r⟩;refine⟨b,r.1.walk,λn l f=>?_⟩;have s:=f.trans (k.trans (aX.one b));have:=d y (n+(j+1)) E5 s;omega
 .rintro⟨b,c⟩;have h:=k.trans (aX.one b);have v:aX E m y y:=by
   have:=c.1.trans h;rw[show q+(j+1)=m by omega] at this;exact this
  have w:=vU d i E5 h c.1 p;refine⟨b,?_,w,λn l f=>c.2 n l f.walk⟩;rcases dR t y with e|e|e
  .exact e
  .subst e;have:=d t (j+1) E5 h;omega
  .exact NB e (i y v)
theorem FX{m:Nat}{t:NL}(d:∀x n,1<=n->aX E n x x->m<=n)(e:∀x,aX E m x x->¬aQ x t){q:Nat}{l:List NL}(h:mh E t q a l):∀{j:Nat},j+q=m->aX E j t a->mR E t q a l:=by
 induction h with
 |stop a=>intro j _ _;exact .stop a
 |@step n a x l h r ih=>
  intro j f b;have i:1<=n:=by cases r<;>omega
  have c:=h.iff (Jh d e f b i);exact .step c (ih (j:=j+1) E5 (b.trans (aX.one c.1.1)))
theorem mR.unique{l m:List NL}(h:mR E g n a l)(k:mR E g n a m):l=m:=by
 induction h generalizing m with
 |stop a=>
  generalize d:(1:Nat)=n at k;cases k with
  |stop=>rfl
  |step _ r=>have:1<=_:=(show∀{q x l},mR E g q x l->1<=q from λc=>by cases c<;>omega) r;omega
 |@step n a x l h r ih=>
  generalize d:n+1=f at k;cases k with
  |stop=>have:1<=n:=(show∀{q x l},mR E g q x l->1<=q from λc=>by cases c<;>omega) r;omega
  |@step q _ y l' h' r'=>
   have e:q=n:=E5;subst e;have:=iD.unique (λ_=>Iff.rfl) h h';subst this;rw[ih r']
theorem om.unique{l m:List NL}(h:om E l)(k:om E m):l=m:=by
 rcases h with⟨a,rfl⟩|⟨b,t,i,a,c,n⟩<;>rcases k with⟨d,rfl⟩|⟨e,u,j,d,f,p⟩
 .rfl
 .exact NB f.1 (a u e j)
 .exact NB c.1 (d t b i)
 .have q:b=e:=by
   have s:=a u e j f.1;have v:=d t b i c.1;omega
  subst q;have r:=iD.unique (λ_=>Iff.rfl) c f;subst r;exact n.unique p
structure jB (E:NL->NL->Prop)(gs:List NL)(best:List NL):Prop where
 no:best=[]->∀g∈gs,∀n,¬eB E g n g
 yes:best≠[]->∃g n,g∈gs/\eB E g n g/\mh E g n g best/\best.length=n/\(∀h∈gs,∀k,eB E h k h->n<=k/\(aQ h g->n<k))
theorem jB.Ko{C D:List NL}(h:jB E C D)(S:∀x y,E x y->x∈C):om E D:=by
 by_cases I:∀x n,1<=n->¬aX E n x x
 .refine .inl ⟨I,?_⟩;by_cases p:D=[]
  .exact p
  .obtain⟨g,n,_,q,_⟩:=h.yes p;exact NB q.1.walk (I g n q.1.pos)
 .obtain⟨m,N,T,A⟩:∃m,1<=m/\(∃x,aX E m x x)/\∀x n,1<=n->aX E n x x->m<=n:=by
   have U:∃n,∃x,1<=n/\aX E n x x:=by
    by_cases F:∃n,∃x,1<=n/\aX E n x x
    .exact F
    .exact NB (λx n i c=>F ⟨n,x,i,c⟩) I
   have:∀n,(∃x,1<=n/\aX E n x x)->∃m,1<=m/\(∃x,aX E m x x)/\∀x n,1<=n->aX E n x x->m<=n:=by
    intro n
    induction n using Nat.strongRecOn with
    |ind n ih=>
     rintro⟨x,i,c⟩;by_cases O:∃k,k<n/\∃x,1<=k/\aX E k x x
     .obtain⟨k,d,J⟩:=O;exact ih k d J
     .exact⟨n,i,⟨x,c⟩,λy k d J=>by
       rcases Nat.lt_or_ge k n with e|e
       .exact NB ⟨k,e,y,d,J⟩ O
       .exact e⟩
   let⟨n,G⟩:=U;exact this n G
  have B:∀x,aX E m x x->x∈C:=λx H=>by
   obtain⟨P,rfl⟩:∃P,m=P+1:=⟨m-1,E5⟩;let⟨b,p,_⟩:=H.first
   exact S x b p
  obtain⟨t,f⟩:∃t,iD (λx=>aX E m x x) t:=by
   let⟨x,H⟩:=T;have V:∀(l:List NL)(r:NL->Prop),(∃y∈l,r y)->∃t∈l,r t/\∀y∈l,r y->¬aQ y t:=by
    intro l r
    induction l with
    |nil=>rintro⟨y,s,_⟩;cases s
    |cons z l ih=>
     rintro⟨y,s,Q⟩;by_cases v:∃y∈l,r y
     .obtain⟨t,i,c,d⟩:=ih v;by_cases K:r z/\aQ z t
      .refine⟨z,E9,K.1,λu a w=>?_⟩;rcases Nh.1 a with rfl|a
       .exact a_ u
       .exact λL=>d u a w (gm L K.2)
      .refine⟨t,MH _ i,c,λu a w=>?_⟩;rcases Nh.1 a with rfl|a
       .exact λL=>K ⟨w,L⟩
       .exact d u a w
     .have:y=z:=by
       rcases Nh.1 s with e|e
       .exact e
       .exact NB ⟨y,e,Q⟩ v
      subst this;refine⟨y,E9,Q,λu a w=>?_⟩;rcases Nh.1 a with rfl|a
      .exact a_ u
      .exact NB ⟨u,a,w⟩ v
   let⟨t,i,c,d⟩:=V C (λx=>aX E m x x) ⟨x,B x H,H⟩;exact⟨t,c,λy s=>d y (B y s) s⟩
  have M:eB E t m t:=⟨vU A f.2 (j:=0) E5 (.here t) f.1 N,λn G R=>by
   have:=A t n R.pos R.walk;omega⟩
  have p:D≠[]:=λe=>h.no e t (B t f.1) m M
  let⟨g,n,X,q,F,_,v⟩:=h.yes p;have G:n=m:=by
   have i:=(v t (B t f.1) m M).1;have c:=A g n q.1.pos q.1.walk;omega
  subst G;have W:g=t:=by
   rcases dR g t with e|e|e
   .exact NB e (f.2 g q.1.walk)
   .exact e
   .have:=(v t (B t f.1) n M).2 e;omega
  subst W;exact .inr ⟨n,g,N,A,f,FX A f.2 F (j:=0) E5 (.here g)⟩
end
section
variable {R:Nat -> Nat -> Prop}{src:List Nat}
end
theorem Tryz.x_ :(prog.info? 104).map (·.size)=some 4:=F4
theorem Tryz.og :(prog.info? 104).map (λi=>(i.zero,i.size,i.bytes))=some (some (.agg #[.string ByteArray.empty,.bool false,.bool false,.string ByteArray.empty]),4,40):=F4
theorem dS.one(r:dS):(#[.string r.name,.bool r.over,.bool r.fail,.string r.text]:Array NP).all (·.oneCell')=true:=all_oneCell_toArray (cs:=[.string r.name,.bool r.over,.bool r.fail,.string r.text]) J3
theorem xS(w:NN)(r:dS)(z:r.name.size<=1048576)(A:r.text.size<=1048576):Calls prog 158 #[.agg #[.string r.name,.bool r.over,.bool r.fail,.string r.text]] w λe w'=>e=.returned (.agg #[.string r.name,.bool r.over,.bool r.fail,.string r.text])/\K_ w w':=by
 go_enter func158,ntmps158
 go_wp2_with fail
 refine (mU _ r.name z).mono ?_;rintro e a ⟨rfl,b⟩;have j:Row a w.heap.size 4:=Row.kept (Row.alloc (by have:=Row.made w #[.string r.name,.bool r.over,.bool r.fail,.string r.text] 104;simpa using this) _) b;have B:a.cell? ⟨w.heap.size,0,none⟩=some (.string r.name):=by rw[b.cell F8];simp
 have q:a.cell? ⟨w.heap.size,1,none⟩=some (.bool r.over):=by rw[b.cell F8];simp
 have s:a.cell? ⟨w.heap.size,2,none⟩=some (.bool r.fail):=by rw[b.cell F8];simp
 have t:a.cell? ⟨w.heap.size,3,none⟩=some (.string r.text):=by rw[b.cell F8];simp
 have v:Row a (w.heap.size+1) 4:=Row.kept (by have:=Row.made (w.alloc (.cells #[.string r.name,.bool r.over,.bool r.fail,.string r.text] 104)) #[.string ⟨#[]⟩,.bool false,.bool false,.string ⟨#[]⟩] 104;simpa using this) b;have x:K_ w a:=K_.trans G9 b;have C:=(j.at (i:=0) E5).2;have D:=j.lt;have⟨l,y⟩:=aH j v;have k:=Kz (And.intro q (And.intro s t));clear b v j q s;go_wp2_with fail
 have n:Row (a.setCell ⟨w.heap.size,0,none⟩ (.string r.name)) w.heap.size 4:=l.o.set _ rfl _;refine (mU _ r.text A).mono ?_;rintro e d ⟨rfl,c⟩;have f:=n.lt;have p:=n.kept c;have I:d.cell? ⟨w.heap.size,0,none⟩=some (.string r.name):=by rw[c.cell f];exact aR l.o E5 _
 have J:d.cell? ⟨w.heap.size,1,none⟩=some (.bool r.over):=by rw[c.cell f,Xk E5];exact k.o.1
 have K:d.cell? ⟨w.heap.size,2,none⟩=some (.bool r.fail):=by rw[c.cell f,Xk E5];exact k.o.2.1
 have L:d.cell? ⟨w.heap.size,3,none⟩=some (.string r.text):=by rw[c.cell f,Xk E5];exact k.o.2.2
 have h:Hid (Row d (w.heap.size+1) 4):=(y.o.set _ rfl _).kept c;have E:Hid (K_ w d):=K_.trans (K_.setCell x E9 _) c;have M:=(p.at (i:=3) E5).2;have N:=p.lt;let⟨⟨O,P⟩,Q⟩:=h.o.at (i:=0) E5;let⟨⟨R,S⟩,T⟩:=h.o.at (i:=1) E5;let⟨⟨U,V⟩,W⟩:=h.o.at (i:=2) E5;let⟨⟨X,Y⟩,Z⟩:=h.o.at (i:=3) E5;clear c n f B t D C l y k x p;go_wp2
 have F:Row (d.setCell ⟨w.heap.size,3,none⟩ (.string r.text)) (w.heap.size+1) 4:=Row.set h.o _ rfl _;have G:=Mo _ (w.heap.size+1) 0 r.cells (F.there (o:=0) (m:=4) (Mj _));refine Zx r.cells _ results158 rfl G underlying104 rfl Tryz.x_ rfl ⟨rfl,?_⟩;have H:=E.o
 repeat (first|(refine K_.setCell ?_ F8 _)|exact H)
theorem BO(w:NN)(a:NM)(cap:Nat)(l:List dS)(W:l.length<=1048576)(G:∀c∈l,c.name.size<=1048576/\c.text.size<=1048576)(H:mJ w a l):Calls prog 157 #[.slice a l.length cap,.func (.func 158) #[] #[]] w λe w'=>∃a',e=.returned (.slice a' l.length l.length)/\iA w' w.heap.size w'.heap.size a' l/\K_ w w':=by
 by_cases A:l.length=0
 .have I:l=[]:=NE A;subst I;go_enter func157,ntmps157
  go_wp2
  go_ret
  exact⟨none,rfl,.inl rfl,K_.refl _⟩
 .have J:=qP (P:=prog) 37 104 _ _ _ underlying37 Tryz.og .i64 .i64 l.length E5 E5;have K:((l.length:Int) == 0)=false:=by simpa using A
  go_enter func157,ntmps157
  go_wp2
  clear J K;have s:=Row.made w (madeCells #[.string ByteArray.empty,.bool false,.bool false,.string ByteArray.empty] (l.length*4)) 104;rw[size_madeCells] at s;have B:K_ w (w.alloc (.cells (madeCells #[.string ByteArray.empty,.bool false,.bool false,.string ByteArray.empty] (l.length*4)) 104)):=ah _ _;go_loopw [16] (λt wr=>∃k:Nat,k<=l.length/\t=.a k/\K_ w wr/\Row wr w.heap.size (l.length*4)/\∀j,j<k->wr.rangeAt w.heap.size (j*4) (l.getD j dS.zero).cells) (λt _=>l.length-(intOf t).toNat)
  case atStart=>exact⟨0,Ml _,rfl,B,s,λj h=>aO h⟩
  case round=>
   obtain⟨k,X,rfl,i,f,v⟩:=hrel;clear s B;by_cases C:k<l.length
   .obtain⟨b,o,rfl,Y,d⟩:=H.kept i k C;have n:=G (l.getD k dS.zero) (by simp[List.getD,C]);have D:=Kz v;clear v;let⟨c,x⟩:=aj (l.getD k dS.zero);rw[<-x] at d n;have L:=Kz x;clear x;have E:=d 0 _ rfl;have M:=d 1 _ rfl;have N:=d 2 _ rfl;have O:=d 3 _ rfl;simp only[Ng] at E;clear d;have Q:=f.lt;go_wp2_with fail
    refine (xS _ c n.1 n.2).mono ?_;rintro e p ⟨rfl,F⟩;have q:K_ wr p:=K_.trans (by repeat (first|(refine K_.setCell ?_ E9 _)|apply K_.alloc|exact K_.refl _)) F;have R:=i.trans q;have y:=f.kept q;have z:=y.there (o:=k*4) (m:=4) E5;have⟨S,T⟩:=aH z y;have U:Hid (∀j,j<k->p.rangeAt w.heap.size (j*4) (l.getD j dS.zero).cells):=λj h=>q.range Q (D.o j h)
    clear D E M N O i F q f y;go_wp2_with (refine wpList_store_mid ?hgd 104 (.tmp 26) (.tmp 25) (by with_reducible rfl) w.heap.size (k*4) #[.string c.name,.bool c.over,.bool c.fail,.string c.text] ?hx ?hy ?ht ?hi ?h1 ?_)
    case hgd=>rfl
    case hx=>rfl
    case hy=>rfl
    case ht=>exact z
    case hi=>exact Tryz.x_
    case h1=>exact dS.one c
    generalize r:World.setCells p w.heap.size (k*4) (Array.toList #[.string c.name,.bool c.over,.bool c.fail,.string c.text])=Z;have V:=Kz r;clear r z n;go_wp2
    go_roundw
    case rel=>
     have r:=V.o;subst r;refine⟨k+1,E5,F3,K_.setCells (Mj _) c.cells (k*4) R,Row.setCells c.cells (k*4) T.o,λj h=>?_⟩;by_cases e:j=k
     .subst e;rw[<-L.o];exact Mo p w.heap.size (j*4) c.cells S.o
     .exact MG (U.o j E5) w.heap.size (k*4) c.cells (by simp[dS.cells];omega)
    case measure=>simp[intOf];omega
   .go_wp2
    go_ret
    have:k=l.length:=E5;subst this;exact⟨_,rfl,.inr ⟨w.heap.size,rfl,Mj _,f.lt,f,v⟩,i⟩
theorem C_(w:NN)(r:dS):Calls prog 98 #[.agg #[.string r.name,.bool r.over,.bool r.fail,.string r.text]] w λe w'=>e=.returned (.bool (!r.over))/\K_ w w':=by
 go_enter func98,ntmps98
 go_wp2
 go_ret
 exact⟨rfl,ah _ _⟩
theorem yS(w:NN)(a:NM)(cap:Nat)(l:List dS)(H:l.length<=1048576)(y:mJ w a l):Calls prog 160 #[.slice a l.length cap,.func (.func 98) #[] #[]] w λe w'=>(∃i:Int,e=.returned (.a i)/\(0<=i↔∃r∈l,r.over=false))/\K_ w w':=by
 go_enter func160,ntmps160
 go_wp2
 go_loopw [8] (λi wr=>∃k:Nat,k<=l.length/\i=.a (k:Int)/\Hid (∀r∈l.take k,r.over=true)/\K_ w wr) (λi _=>l.length-(intOf i).toNat)
 case atStart=>exact⟨0,Ml _,rfl,Kz (λr j=>by simp at j),K_.refl _⟩
 case round=>
  obtain⟨k,I,rfl,p,m⟩:=hrel;by_cases f:k<l.length
  .obtain⟨b,o,rfl,J,d⟩:=y.kept m k f;let⟨c,n⟩:=aj (l.getD k dS.zero);rw[<-n] at d;have q:l[k]=c:=by rw[n];simp[List.getD,f]
   have s:=Kz q;have t:=d 0 _ rfl;have z:=d 1 _ rfl;have A:=d 2 _ rfl;have B:=d 3 _ rfl;simp only[Ng] at t;have K:(k:Int)<(l.length:Int):=E5;clear d n q;go_wp2_with fail
   refine (C_ _ c).mono ?_;rintro e L ⟨rfl,C⟩;have v:=m.trans C;clear t z A B;cases x:c.over
   .go_wp2
    go_ret
    exact⟨⟨_,rfl,λ_=>⟨c,by rw[<-s.o];exact Mw f,x⟩,λ_=>E5⟩,v⟩
   .have D:Hid (∀r∈l.take (k+1),r.over=true):=λr j=>by
     rw[Ms f,s.o] at j;rcases Mv.1 j with h|h
     .exact p.o r h
     .rw[Mt] at h;rw[h];exact x
    go_wp2
    go_roundw
    case rel=>exact⟨k+1,E5,F3,D,v⟩
    case measure=>simp[intOf];omega
  .have M:¬((k:Int)<(l.length:Int)):=E5;have E:Hid (∀r∈l,r.over=true):=by have h:=p.o;rw[MU E5] at h;exact h
   clear f;go_wp2
   go_ret
   exact⟨⟨_,rfl,λh=>E5,λ⟨r,F,G⟩=>by have:=E.o r F;rw[G] at this;cases this⟩,m⟩
theorem wN(w:NN)(a:NM)(cap:Nat)(l:List dS)(h:l.length<=1048576)(i:mJ w a l):Calls prog 97 #[.slice a l.length cap,.func (.func 98) #[] #[]] w λe w'=>Says e (∃r∈l,r.over=false)/\K_ w w':=by
 go_enter func97,ntmps97
 go_wp2_with fail
 refine (yS w a cap l h i).mono ?_;rintro e m ⟨⟨j,rfl,b⟩,d⟩;cases f:decide ((0:Int)<=j)
 .have c:Hid (¬∃r∈l,r.over=false):=λk=>by have:=b.2 k;simp[this] at f
  clear b;go_wp2
  go_ret
  exact⟨Says.no c.o,d⟩
 .have c:=Kz (b.1 (by simpa using f));clear b;go_wp2
  go_ret
  exact⟨Says.yes c.o,d⟩
