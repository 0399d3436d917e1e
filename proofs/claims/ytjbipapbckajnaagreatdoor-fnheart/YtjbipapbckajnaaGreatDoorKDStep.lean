import Derived.Test.YtjbipapbckajnaaGreatDoorKVBfs
import Derived.Test.YtjbipapbckajnaaGreatDoorProg
import Derived.WalkSpells
import Derived.WalkLawsBesides
import Derived.BigQuiet
import Derived.Deep.RegionHeld
set_option maxRecDepth 100000
set_option maxHeartbeats 25600000
namespace Go.Proofs.YtjbipapbckajnaaGreatDoor
open Go.RowKit Go.Proofs.Tryz
structure Rd (w:NI) (rb:Nat) (a:NH) (cap:Nat) (bs:List UInt8) (p:Nat):Prop where
 row:aD w rb 114 2
 c0:w.cell? ⟨rb,0,none⟩=some (.slice a bs.length cap)
 c1:w.cell? ⟨rb,1,none⟩=some (.a (p:Int))
 bytes:∀i,i<bs.length->∃b o,a=some ⟨b,o,none⟩/\b≠rb/\b<w.heap.size/\w.cell? ⟨b,o+i,none⟩=some (.int .u8 ((bs.getD i 0).toNat:Int))
theorem Rd.drewN{w:NI}{c:Nat}{a:NH}{d:Nat}{e:List UInt8}{p:Nat}(h:Rd w c a d e p)(k:Nat):Rd (w.drewN k) c a d e p:=
 ⟨h.row.block rfl,h.c0,h.c1,h.bytes⟩
theorem Lv(a:Nat)(h:a<1099511627776):bits .xor .i64 (a:Int) ((a:Int) / 64)= ((a ^^^ a / 64:Nat):Int)/\a ^^^ a / 64<1099511627776:=by
 have b:a ^^^ a / 64<2 ^ 40:=Nat.xor_lt_two_pow E5 E5;have d:((a:Int) / 64)= ((a / 64:Nat):Int):=E5;have c:(BitVec.ofInt 64 (a:Int)).toNat=a:=by
  rw[BitVec.ofInt_natCast,BitVec.toNat_ofNat];exact Nat.mod_eq_of_lt E5
 have e:(BitVec.ofInt 64 ((a / 64:Nat):Int)).toNat=a / 64:=by
  rw[BitVec.ofInt_natCast,BitVec.toNat_ofNat];exact Nat.mod_eq_of_lt E5
 refine⟨?_,E5⟩;rw[d];show IntKind.i64.wrap ((BitVec.ofInt 64 (a:Int) ^^^ BitVec.ofInt 64 ((a / 64:Nat):Int)).toNat:Int)=_;rw[BitVec.toNat_xor,c,e];obtain⟨z,f⟩:=aj (a ^^^ a / 64);rw[<-f] at b⊢;simp[IntKind.wrap,IntKind.bits,IntKind.signed];omega
def Jj(w w':NI)(rb:Nat)(a:NH)(cap:Nat)(bs:List UInt8)(p n:Nat)(e:Ending):Prop:=
 ∃v:Nat,e= .returned (.a (v:Int))/\v<=n-1/\Rd w' rb a cap bs (p+1)/\Xj rb (rb+1) w w'
theorem og(w:NI)(c:Nat)(a:NH)(q:Nat)(b:List UInt8)(p n:Nat)(d:Rd w c a q b p)(V:p<=1000000)(W:n<=100000)(Y:b.length<=2000):
  Calls prog 19 #[.c c,.a (n:Int)] w λe w'=>Jj w w' c a q b p n e:=by
 have L:=d.c0;have c1:=d.c1;have zb:=d.row.lt;obtain⟨_,f1⟩:=d.row.row.at (i:=1) E5;have C:Rd (w.setCell ⟨c,1,none⟩ (.a ((p:Int)+1))) c a q b (p+1):=by
  refine⟨d.row.set _,by rw[Xk E5];exact L,by rw[aW d.row.row E5];rfl,λi M=>?_⟩;obtain⟨r,o,e,k,s,t⟩:=d.bytes i M;exact⟨r,o,e,k,by rw[size_setCell];exact s,by rw[ME _ _ _ _ (λe=>k (congrArg Addr.block e).symm)];exact t⟩
 have f:=Kz C;have l:Xj c (c+1) w (w.setCell ⟨c,1,none⟩ (.a ((p:Int)+1))):=(Xj.refl _ _ _).setCell E9 E9 _;clear C;by_cases a0:(n:Int)<1
 .go_enter func19,ntmps19
  go_wp2
  go_ret
  exact⟨0,rfl,Mg _,f.o,l⟩
 .by_cases D:b.length=0
  .have N:((b.length:Int) == 0)=true:=by simp[D]
   go_enter func19,ntmps19
   go_wp2
   go_ret
   exact⟨0,rfl,Mg _,f.o,l⟩
  .have N:((b.length:Int) == 0)=false:=by simpa using D
   by_cases hk:(p:Int)<b.length
   .obtain⟨r,o,rfl,k,s,t⟩:=f.o.bytes p E5;obtain⟨y,E⟩:=aj (b.getD p 0);rw[<-E] at t;have a1:=y.toNat_lt;clear E;go_enter func19,ntmps19
    go_wp2
    go_ret
    refine⟨y.toNat % n, ?_, ?_,f.o,l⟩
    .simp
    .have:=Nat.mod_lt y.toNat (E5:0<n);omega
   .obtain⟨h,v⟩:=aj (p % b.length);obtain⟨j,x⟩:=aj ((p*7+3) % b.length);obtain⟨m,z⟩:=aj (p / b.length);have O:h<b.length:=by rw[v];exact Nat.mod_lt _ E5
    have P:j<b.length:=by rw[x];exact Nat.mod_lt _ E5
    have a2:m<=p:=by rw[z];exact Nat.div_le_self _ _
    have e1:(p:Int) % (b.length:Int)= (h:Int):=by rw[v];omega
    have e2:((p:Int)*7+3) % (b.length:Int)= (j:Int):=by rw[x];push_cast;rfl
    have e3:(p:Int) / (b.length:Int)= (m:Int):=by rw[z];push_cast;rfl
    obtain⟨r,o,rfl,k,s,Q⟩:=f.o.bytes h O;obtain⟨b',o',F,_,_,R⟩:=f.o.bytes j P;simp only[MV,ND,and_true] at F;obtain⟨rfl,rfl⟩:=F;obtain⟨A,G⟩:∃y,y=b.getD h 0:=⟨_,rfl⟩;obtain⟨B,H⟩:∃y,y=b.getD j 0:=⟨_,rfl⟩;rw[<-G] at Q;rw[<-H] at R;have a3:=A.toNat_lt;have a4:=B.toNat_lt;clear v x z G H;have i1:(h:Int)<(b.length:Int):=E5;have i2:(j:Int)<(b.length:Int):=E5;go_enter func19,ntmps19
    go_wp2
    go_quiet (fail)
    obtain⟨X,I⟩:∃X:Nat,X=A.toNat*131+B.toNat*1117+p*29+m*53:=⟨_,rfl⟩;have J:(A.toNat:Int)*131+ (B.toNat:Int)*1117+ (p:Int)*29+ (m:Int)*53= (X:Int):=by rw[I];push_cast;rfl
    rw[J];have S:X<1099511627776:=E5;obtain⟨T,U⟩:=Lv X S;obtain⟨Z,K⟩:=aj (X ^^^ X / 64);rw[<-K] at T U;clear K I J;go_wp2
    go_ret
    refine⟨Z % n, ?_, ?_,f.o.drewN nq,l.drewN nq⟩
    .simp
    .have:=Nat.mod_lt Z (E5:0<n);omega
def BytesAt(w:NI)(a:NH)(bs:List UInt8):Prop:=
 ∀i,i<bs.length->∃b o,a=some ⟨b,o,none⟩/\b<w.heap.size/\w.cell? ⟨b,o+i,none⟩=some (.int .u8 ((bs.getD i 0).toNat:Int))
theorem BytesAt.take{w:NI}{a:NH}{b:List UInt8}(h:BytesAt w a b)(n:Nat):BytesAt w a (b.take n):=by
 intro i c;obtain⟨d,o,e,f,j⟩:=h i (by simp at c;omega);refine⟨d,o,e,f, ?_⟩;rw[j];have k:i<n:=by simp at c;omega
 simp[List.getD_eq_getElem?_getD,k]
theorem Rd.made{w:NI}{a:NH}{b:List UInt8}(c:Nat)(h:BytesAt w a b):
  Rd (w.alloc (.cells #[.slice a b.length c,.a 0] 114)) w.heap.size a c b 0:=by
 refine⟨aD.made w _ _, ?_, ?_,λi f=>?_⟩
 .rw[World.cell?_alloc_mark];rfl
 .rw[World.cell?_alloc_mark];rfl
 .obtain⟨j,o,e,d,k⟩:=h i f;exact⟨j,o,e,E5,Mf d (ah w _).size,by rw[(ah w _).cell d];exact k⟩
def Lj(w w':NI)(a:NH)(cap:Nat)(bs:List UInt8)(e:Ending):Prop:=
 ∃rb,e= .returned (.c rb)/\w.heap.size<=rb/\Rd w' rb a cap (bs.take 2000) 0/\K_ w w'
theorem Bg(w:NI)(a:NH)(c:Nat)(b:List UInt8)(h:BytesAt w a b)(i:b.length<=c)(j:b.length<=100000000):
  Calls prog 17 #[.slice a b.length c] w λe w'=>Lj w w' a c b e:=by
 by_cases k:(2000:Int)<b.length
 .go_enter func17,ntmps17
  go_wp2
  go_ret
  have f:(b.take 2000).length=2000:=F6;have d:=Rd.made c (h.take 2000);rw[f] at d;exact⟨w.heap.size,rfl,Me _,d,ah w _⟩
 .go_enter func17,ntmps17
  go_wp2
  go_ret
  have f:b.take 2000=b:=MO E5;have d:=Rd.made c h;exact⟨w.heap.size,rfl,Me _,by rw[f];exact d,ah w _⟩
variable {a : Act} {up : Array Bool} {id n : Nat} {oi : Oper} {w : NI}
section
variable {P : Program} {ops : Array Oper} {Q : Exit -> Act -> NI -> Prop} {md : Region.Mode} {S : NI -> Prop} {z : Nat}
def Qk(P:Program)(md:Region.Mode)(ops:Array Oper)(Q:Exit->Act->NI->Prop)(S:NI->Prop)(z:Nat):Nat->Array Bool->Act->NI->Prop
 | 0,up,a,w=>Region.ready md ops up=[]/\Q .normal a w
 | n+1,up,a,w=>(Region.ready md ops up=[]->Q .normal a w)/\∀k∈Region.ready md ops up,wpOp P ops Q k (λb u=>(k≠z->S u)/\Qk P md ops Q S z n (up.setIfInBounds k true) b u) a w
theorem Qk.any :∀(n:Nat) (up:Array Bool) (a:Act) (w:NI),Qk P md ops Q S z n up a w->wpAny P md ops Q n up a w
 | 0,_,_,_,h=>h
 | n+1,_,_,_,h=>⟨h.1,λk c=>wpOp_mono (λb u g=>Qk.any n _ b u g.2) (h.2 k c)⟩
theorem Qk.region(b:P.follows .mixedOrders=true)(S:NI->Prop)(z:Nat)(d:S w.drew)
 (h:S w.drew->Qk P .any ops Q S z ops.size (Array.replicate ops.size false) a w.drew):(Code.region id ops true).wp P Q a w:=
 wp_region_any b (Qk.any _ _ _ _ (h d))
def qy(md:Region.Mode)(ops:Array Oper)(i:Nat)(D:List Nat):Bool:=
 D.all λd=>match ops[d]? with
  | some o=>o.after.toList.any λe=>Region.binds md e && (e.on == i || D.contains e.on)
  | none=>false
theorem Ja{i:Nat}{D:List Nat}(j:qy md ops i D=true)(hi:up.getD i true=false)(l:∀d∈D,up.getD d true=false){k:Nat}
 (m:k∈Region.ready md ops up):k∉D:=by
 intro n;obtain⟨_,o,p,q⟩:=mem_ready.1 m;have c:=List.all_eq_true.1 j k n;simp only[p,List.any_eq_true,Array.mem_toList_iff,Bool.and_eq_true,Bool.or_eq_true,beq_iff_eq,List.contains_iff_mem] at c;obtain⟨e,r,s,t⟩:=c;have a:=q e r s;have f:up.getD e.on true=false:=by
  rcases t with h|h
  .rw[h];exact hi
  .exact l _ h
 rcases Nat.lt_or_ge e.on up.size with b|b
 .simp[b] at a f;rw[f] at a;cases a
 .simp[Array.getElem?_eq_none b] at a
theorem Qk.take'{i:Nat}{v:NJ}(hi:ops[i]? =some oi)(A:Region.noSelect ops=true)(L:∀c a w,Q (.panic c) (a.put oi.dst v) w->Q (.panic c) a w)
 {D:List Nat} (M:z∈D) (N:qy md ops i D=true):
  ∀(n:Nat) (b:Array Bool) (a:Act) (w:NI),(∀j f,ops[j]? =some f->j≠i->b.getD j true=false->(∀e∈f.after,Region.binds md e=true->e.on≠i)->oi.apart ops f=true)->
   (∀d∈D,b.getD d true=false)->i∈Region.ready md ops b->YieldsIf P ops S oi v a->S w->
   Qk P md ops Q S z n (b.setIfInBounds i true) (a.put oi.dst v) w->Qk P md ops Q S z (n+1) b a w:=by
 intro n
 induction n with
 | zero=>
  intro b a w _ _ h r l H;refine⟨λk=>(by rw[k] at h;cases h),λj m=>?_⟩;by_cases e:j=i
  .exact e ▸ r.wpOp hi l ⟨λ_=>l,H⟩
  .have:=ready_mono m e;rw[H.1] at this;cases this
 | succ n ih=>
  intro b a w B C h r l H;refine⟨λk=>(by rw[k] at h;cases h),λj m=>?_⟩;by_cases e:j=i
  .exact e ▸ r.wpOp hi l ⟨λ_=>l,H⟩
  .have s:=(mem_ready.1 h).1;have E:=Ja N s C m;have O:j≠z:=λk=>E (k ▸ M)
   obtain⟨F,f,t,R⟩:=mem_ready.1 m;have T:∀e∈f.after,Region.binds md e=true->e.on≠i:=λe U V W=>by
    have p:=R e U V;rw[W] at p;rcases Nat.lt_or_ge i b.size with x|x
    .simp[x] at s p;rw[s] at p;cases p
    .simp[Array.getElem?_eq_none x] at p
   have X:=wpOp_putIf t (B j f t e F T) (λy q=>Region.noSelect_spec A i oi y q hi) (λy q=>Region.noSelect_spec A j f y q t) L r (H.2 j (ready_mono m e));refine wpOp_mono (λq u g=>⟨g.2.1,ih (b.setIfInBounds j true) q u (λG Y Z a0 I a1=>B G Y Z a0 ?_ a1) (λd J=>?_) (ready_mono h (Ne.symm e)) g.1 (g.2.1 O) ?_⟩) X
   .by_cases K:j=G
    .exact K ▸ F
    .rw[getD_set_ne true K] at I;exact I
   .rw[getD_set_ne true (λk:j=d=>E (k ▸ J))];exact C d J
   .rw[Array.setIfInBounds_comm _ _ e];exact g.2.2
theorem Qk.take(i:Nat)(D:List Nat){v:NJ}(hi:ops[i]? =some oi)(f:Region.noSelect ops=true)
 (h:Region.free md ops up i=true) (j:(Region.ready md ops up).contains i=true) (b:(D.contains z && qy md ops i D && D.all λd=>!up.getD d true)=true)
 (k:∀c a w,Q (.panic c) (a.put oi.dst v) w->Q (.panic c) a w) (l:YieldsIf P ops S oi v a) (m:S w)
 (p:Qk P md ops Q S z n (up.setIfInBounds i true) (a.put oi.dst v) w):Qk P md ops Q S z (n+1) up a w:=by
 simp only[Bool.and_eq_true,List.contains_iff_mem,List.all_eq_true,Bool.not_eq_true'] at b;exact Qk.take' hi f k b.1.1 b.1.2 n up a w (Region.free_spec hi h) b.2 (by simpa using j) l m p
theorem Qk.next(i:Nat){o:Oper}(d:Region.ready md ops up=[i])(h:ops[i]? =some o)
 (j:∀K:Act->NI->Prop,Shut (∀b u,(i≠z->S u)->Qk P md ops Q S z n (up.setIfInBounds i true) b u->K b u)->if Region.wanted o (yielded ops a.tmps)=true then Oper.wp P o a w K Q else K (a.put o.dst undef) w):
  Qk P md ops Q S z (n+1) up a w:=by
 refine⟨λe=>(by rw[d] at e;cases e),λk f=>?_⟩;rw[d] at f;obtain rfl:k=i:=by simpa using f
 exact wpOp_step h (λK l=>j K (λb u m p=>l b u ⟨m,p⟩))
theorem Qk.two(i j:Nat){e:Oper}(k:Region.ready md ops up=[i,j])(m:ops[i]? =some oi)(p:ops[j]? =some e)
 (d:∀K:Act->NI->Prop,Shut (∀b u,(i≠z->S u)->Qk P md ops Q S z n (up.setIfInBounds i true) b u->K b u)->if Region.wanted oi (yielded ops a.tmps)=true then Oper.wp P oi a w K Q else K (a.put oi.dst undef) w)
 (h2:∀K:Act->NI->Prop,Shut (∀b u,(j≠z->S u)->Qk P md ops Q S z n (up.setIfInBounds j true) b u->K b u)->if Region.wanted e (yielded ops a.tmps)=true then Oper.wp P e a w K Q else K (a.put e.dst undef) w):
  Qk P md ops Q S z (n+1) up a w:=by
 refine⟨λl=>(by rw[k] at l;cases l),λq f=>?_⟩;rw[k] at f;simp only[Na,Nb,or_false] at f;rcases f with rfl | rfl
 .exact wpOp_step m (λK h=>d K (λb u d h2=>h b u ⟨d,h2⟩))
 .exact wpOp_step p (λK h=>h2 K (λb u d h2=>h b u ⟨d,h2⟩))
theorem Qk.done(b:Region.ready md ops up=[])(h:Q .normal a w):Qk P md ops Q S z n up a w:=by
 cases n with
 | zero=>exact⟨b,h⟩
 | succ n=>exact⟨λ_=>h,by rw[b];simp⟩
theorem upP :(∀(a:Act) (v:NJ),a.put none v=a)/\(∀(a:Act) (d:Tmp) (v:NJ),a.put (some d) v= {a with tmps:=a.tmps.setIfInBounds d v})/\(∀(l:List NJ) (i:Nat) (a:NJ),l.toArray.setIfInBounds i a= (l.set i a).toArray)/\(∀(x:NJ) (l:List NJ) (a:NJ),(x :: l).set 0 a=a :: l)/\∀(x:NJ) (l:List NJ) (i:Nat) (a:NJ),(x :: l).set (i+1) a=x :: l.set i a:=⟨λ_ _=>rfl,λ_ _ _=>rfl,λ_ _ _=>List.setIfInBounds_toArray ..,λ_ _ _=>rfl,λ_ _ _ _=>rfl⟩
def Zz(md:Region.Mode)(ops:Array Oper)(i:Nat):List Nat:=
 (List.range ops.size).foldl (λD d=>match ops[d]? with
  | some o=>if (o.after.toList.any λe=>Region.binds md e && (e.on == i || D.contains e.on))=true then D++ [d] else D
  | none=>D) []
theorem ae(i:Nat){v:NJ}{b:Act}(e:S w)
 (h:Qk P md ops Q S z n (up.setIfInBounds i true) b w) (hi:ops[i]? =some oi:=by (simp only[List.getElem?_toArray];rfl)) (f:∀u,S u->(execOp a.eval oi).run P u= .ok (.value v) u:=by (intro u hu;(try dsimp only at hu);go_simp;(try with_reducible rfl)))
 (j:a.put oi.dst v=b:=by (first | (simp only[upP];exact rfl) | simp only[upP] | exact rfl)) (k:Region.noSelect ops=true:=by kernel_rfl)
 (l:Region.free md ops up i=true:=by kernel_rfl) (m:(Region.ready md ops up).contains i=true:=by kernel_rfl) (p:((Zz md ops i).contains z && qy md ops i (Zz md ops i) && (Zz md ops i).all λd=>!up.getD d true)=true:=by kernel_rfl)
 (q:∀c a w,Q (.panic c) (a.put oi.dst v) w->Q (.panic c) a w:=by (first | exact λ_ _ _ h=>h | exact λ_ _ _ h=>nomatch h.1)) (r:Region.wanted oi (yielded ops a.tmps)=true:=by rfl):Qk P md ops Q S z (n+1) up a w:=
 Qk.take i _ hi k l m p q (Or.inl ⟨r,f⟩) e (by rw[j];exact h)
theorem aB(i:Nat){b:Act}(e:S w)
 (h:Qk P md ops Q S z n (up.setIfInBounds i true) b w) (hi:ops[i]? =some oi:=by (simp only[NE];rfl))
 (f:a.put oi.dst undef=b:=by (first | (simp only[upP];exact rfl) | simp only[upP] | exact rfl)) (j:Region.noSelect ops=true:=by kernel_rfl)
 (k:Region.free md ops up i=true:=by kernel_rfl) (l:(Region.ready md ops up).contains i=true:=by kernel_rfl) (m:((Zz md ops i).contains z && qy md ops i (Zz md ops i) && (Zz md ops i).all λd=>!up.getD d true)=true:=by kernel_rfl)
 (p:∀c a w,Q (.panic c) (a.put oi.dst undef) w->Q (.panic c) a w:=by (first | exact λ_ _ _ h=>h | exact λ_ _ _ h=>nomatch h.1)) (q:Region.wanted oi (yielded ops a.tmps)=false:=by rfl):Qk P md ops Q S z (n+1) up a w:=
 Qk.take i _ hi j k l m p (Or.inr ⟨q,rfl⟩) e (by rw[f];exact h)
theorem ai(i:Nat){o:Oper} 
 (h:∀K:Act->NI->Prop,Shut (∀b u,(i≠z->S u)->Qk P md ops Q S z n (up.setIfInBounds i true) b u->K b u)->if Region.wanted o (yielded ops a.tmps)=true then Oper.wp P o a w K Q else K (a.put o.dst undef) w)
 (d:Region.ready md ops up=[i]:=by kernel_rfl) (e:ops[i]? =some o:=by (simp only[NE];rfl)):Qk P md ops Q S z (n+1) up a w:=Qk.next i d e h
theorem aG(i:Nat){o:Oper} 
 (h:∀K:Act->NI->Prop,Shut (∀b u,(i≠z->S u)->Qk P md ops Q S z n (up.setIfInBounds i true) b u->K b u)->Oper.wp P o a w K Q)
 (c:Region.ready md ops up=[i]:=by kernel_rfl) (d:ops[i]? =some o:=by (simp only[NE];rfl)) (e:Region.wanted o (yielded ops a.tmps)=true:=by rfl):Qk P md ops Q S z (n+1) up a w:=Qk.next i c d λK f=>by rw[Nt e];exact h K f
theorem ik(i j:Nat){c:Oper} 
 (d:∀K:Act->NI->Prop,Shut (∀b u,(i≠z->S u)->Qk P md ops Q S z n (up.setIfInBounds i true) b u->K b u)->if Region.wanted oi (yielded ops a.tmps)=true then Oper.wp P oi a w K Q else K (a.put oi.dst undef) w)
 (h2:∀K:Act->NI->Prop,Shut (∀b u,(j≠z->S u)->Qk P md ops Q S z n (up.setIfInBounds j true) b u->K b u)->if Region.wanted c (yielded ops a.tmps)=true then Oper.wp P c a w K Q else K (a.put c.dst undef) w)
 (e:Region.ready md ops up=[i,j]:=by kernel_rfl) (f:ops[i]? =some oi:=by (simp only[NE];rfl)) (h:ops[j]? =some c:=by (simp only[NE];rfl)):Qk P md ops Q S z (n+1) up a w:=Qk.two i j e f h d h2
theorem bC(z:Nat)(c:∀u,K_ w u->S u)(h:∀wd,K_ w wd->S wd->Qk P .any ops Q S z ops.size (Array.replicate ops.size false) a wd)(e:P.follows .mixedOrders=true:=by kernel_rfl):(Code.region id ops true).wp P Q a w:=
 Qk.region e S z (c _ (aV w)) λf=>h _ (aV w) f
theorem rY(z:Nat){R:NI->Prop}(b:∀u,R u->S u)(c:R w.drew)(h:∀wd,K_ w wd->S wd->Qk P .any ops Q S z ops.size (Array.replicate ops.size false) a wd)(d:P.follows .mixedOrders=true:=by kernel_rfl):(Code.region id ops true).wp P Q a w:=
 Qk.region d S z (b _ c) λe=>h _ (aV w) e
theorem gY(z:Nat){R:NI->Prop}(c:∀u,R u->S u)(d:R w.drew)(h:S w.drew->Qk P .any ops Q S z ops.size (Array.replicate ops.size false) a w.drew)(f:P.follows .mixedOrders=true:=by kernel_rfl):(Code.region id ops true).wp P Q a w:=
 Qk.region f S z (c _ d) h
theorem af{i:Nat}{K:Act->NI->Prop}(a:Shut (∀b u,(i≠z->S u)->Qk P md ops Q S z n up b u->K b u)){b c:Act}{u:NI}(d:i≠z->S u)(h:Qk P md ops Q S z n up c u)(e:b=c:=by (first | (simp only[upP];exact rfl) | simp only[upP] | exact rfl)):K b u:=by rw[e];exact a.out _ _ d h
theorem bY(i:Nat)(v:NJ){b:Act}(e:S w)(f:∀u,S u->(execOp a.eval oi).run P u= .ok (.value v) u)
 (h:Qk P md ops Q S z n (up.setIfInBounds i true) b w) (hi:ops[i]? =some oi:=by (simp only[NE];rfl)) 
 (j:a.put oi.dst v=b:=by (first | (simp only[upP];exact rfl) | simp only[upP] | exact rfl)) (k:Region.noSelect ops=true:=by kernel_rfl)
 (l:Region.free md ops up i=true:=by kernel_rfl) (m:(Region.ready md ops up).contains i=true:=by kernel_rfl) (p:((Zz md ops i).contains z && qy md ops i (Zz md ops i) && (Zz md ops i).all λd=>!up.getD d true)=true:=by kernel_rfl)
 (q:∀c a w,Q (.panic c) (a.put oi.dst v) w->Q (.panic c) a w:=by (first | exact λ_ _ _ h=>h | exact λ_ _ _ h=>nomatch h.1)) (r:Region.wanted oi (yielded ops a.tmps)=true:=by rfl):Qk P md ops Q S z (n+1) up a w:=
 Qk.take i _ hi k l m p q (Or.inl ⟨r,f⟩) e (by rw[j];exact h)
theorem aF(h:Q .normal a w)(c:Region.ready md ops up=[]:=by kernel_rfl):Qk P md ops Q S z n up a w:=Qk.done c h
theorem au(i:Nat){v0 v1 v2 v3:NJ}{b e f j:Oper}{k l m r:Act}(p:S w)
 (h:Qk P md ops Q S z n ((((up.setIfInBounds i true).setIfInBounds (i+1) true).setIfInBounds (i+2) true).setIfInBounds (i+3) true) r w)
 (s:ops[i]? =some b:=by (simp only[List.getElem?_toArray];rfl)) (t:Region.wanted b (yielded ops a.tmps)=true:=by rfl) (v:∀u,S u->(execOp a.eval b).run P u= .ok (.value v0) u:=by (intro u hu;(try dsimp only at hu);go_simp;(try with_reducible rfl))) (x:a.put b.dst v0=k:=by (first | (simp only[upP];exact rfl) | simp only[upP] | exact rfl))
 (y:Region.free md ops up i=true:=by kernel_rfl) (A:(Region.ready md ops up).contains i=true:=by kernel_rfl) (B:((Zz md ops i).contains z && qy md ops i (Zz md ops i) && (Zz md ops i).all λd=>!up.getD d true)=true:=by kernel_rfl) (C:∀c a w,Q (.panic c) (a.put b.dst v0) w->Q (.panic c) a w:=by (first | exact λ_ _ _ h=>h | exact λ_ _ _ h=>nomatch h.1))
 (D:ops[i+1]? =some e:=by (simp only[List.getElem?_toArray];rfl)) (E:Region.wanted e (yielded ops k.tmps)=true:=by rfl) (F:∀u,S u->(execOp k.eval e).run P u= .ok (.value v1) u:=by (intro u hu;(try dsimp only at hu);go_simp;(try with_reducible rfl))) (G:k.put e.dst v1=l:=by (first | (simp only[upP];exact rfl) | simp only[upP] | exact rfl))
 (H:Region.free md ops (up.setIfInBounds i true) (i+1)=true:=by kernel_rfl) (I:(Region.ready md ops (up.setIfInBounds i true)).contains (i+1)=true:=by kernel_rfl) (J:((Zz md ops (i+1)).contains z && qy md ops (i+1) (Zz md ops (i+1)) && (Zz md ops (i+1)).all λd=>!(up.setIfInBounds i true).getD d true)=true:=by kernel_rfl) (K:∀c a w,Q (.panic c) (a.put e.dst v1) w->Q (.panic c) a w:=by (first | exact λ_ _ _ h=>h | exact λ_ _ _ h=>nomatch h.1))
 (L:ops[i+2]? =some f:=by (simp only[List.getElem?_toArray];rfl)) (M:Region.wanted f (yielded ops l.tmps)=true:=by rfl) (N:∀u,S u->(execOp l.eval f).run P u= .ok (.value v2) u:=by (intro u hu;(try dsimp only at hu);go_simp;(try with_reducible rfl))) (O:l.put f.dst v2=m:=by (first | (simp only[upP];exact rfl) | simp only[upP] | exact rfl))
 (R:Region.free md ops ((up.setIfInBounds i true).setIfInBounds (i+1) true) (i+2)=true:=by kernel_rfl) (T:(Region.ready md ops ((up.setIfInBounds i true).setIfInBounds (i+1) true)).contains (i+2)=true:=by kernel_rfl) (U:((Zz md ops (i+2)).contains z && qy md ops (i+2) (Zz md ops (i+2)) && (Zz md ops (i+2)).all λd=>!((up.setIfInBounds i true).setIfInBounds (i+1) true).getD d true)=true:=by kernel_rfl) (V:∀c a w,Q (.panic c) (a.put f.dst v2) w->Q (.panic c) a w:=by (first | exact λ_ _ _ h=>h | exact λ_ _ _ h=>nomatch h.1))
 (W:ops[i+3]? =some j:=by (simp only[List.getElem?_toArray];rfl)) (X:Region.wanted j (yielded ops m.tmps)=true:=by rfl) (Y:∀u,S u->(execOp m.eval j).run P u= .ok (.value v3) u:=by (intro u hu;(try dsimp only at hu);go_simp;(try with_reducible rfl))) (Z:m.put j.dst v3=r:=by (first | (simp only[upP];exact rfl) | simp only[upP] | exact rfl))
 (a0:Region.free md ops (((up.setIfInBounds i true).setIfInBounds (i+1) true).setIfInBounds (i+2) true) (i+3)=true:=by kernel_rfl) (a1:(Region.ready md ops (((up.setIfInBounds i true).setIfInBounds (i+1) true).setIfInBounds (i+2) true)).contains (i+3)=true:=by kernel_rfl) (a2:((Zz md ops (i+3)).contains z && qy md ops (i+3) (Zz md ops (i+3)) && (Zz md ops (i+3)).all λd=>!(((up.setIfInBounds i true).setIfInBounds (i+1) true).setIfInBounds (i+2) true).getD d true)=true:=by kernel_rfl) (a3:∀c a w,Q (.panic c) (a.put j.dst v3) w->Q (.panic c) a w:=by (first | exact λ_ _ _ h=>h | exact λ_ _ _ h=>nomatch h.1))
 (q:Region.noSelect ops=true:=by kernel_rfl):Qk P md ops Q S z (n+4) up a w:=
 Qk.take i _ s q y A B C (Or.inl ⟨t,v⟩) p (by rw[x];exact (Qk.take (i+1) _ D q H I J K (Or.inl ⟨E,F⟩) p (by rw[G];exact (Qk.take (i+2) _ L q R T U V (Or.inl ⟨M,N⟩) p (by rw[O];exact (Qk.take (i+3) _ W q a0 a1 a2 a3 (Or.inl ⟨X,Y⟩) p (by rw[Z];exact h)))))))
end
def Bz(w w':NI)(e:Ending):Prop:=
 ∃s:NG,e= .returned (.string s)/\s.size<=2/\K_ w w'
def kG(i:Nat):NG:=⟨#[UInt8.ofNat (97+i)]⟩
theorem Ee{i j:Nat}(hi:i<26)(e:j<26)(h:kG i=kG j):i=j:=by
 have b:UInt8.ofNat (97+i)=UInt8.ofNat (97+j):=by
  have:=congrArg (λx:NG=>x.data.toList) h;simpa[kG] using this
 have d:=congrArg UInt8.toNat b;simp only[UInt8.toNat_ofNat'] at d;omega
theorem FX :∀q,q<26->((⟨#[97,98,99,100,101,102,103,104,105,106,107,108,109,110,111,112,113,114,115,116,117,118,119,120,121,122]⟩:NG).extract q 26).extract 0 1=kG q:=E8
theorem vL(w:NI)(i:Nat)(hi:i<=100000):
  Calls prog 111 #[.a (i:Int)] w λe w'=>∃s:NG,e= .returned (.string s)/\s.size<=2/\(i<26->s=kG i)/\K_ w w':=by
 obtain⟨q,n⟩:=aj (i % 26);obtain⟨d,p⟩:∃q,q=i / 26 % 3:=⟨_,rfl⟩;obtain⟨j,r⟩:=aj (i / 26);have C:(i:Int).tmod 26= (q:Int):=by rw[Int.tmod_eq_emod_of_nonneg E5];omega
 have D:(i:Int).tdiv 26= (j:Int):=by rw[Int.tdiv_eq_ediv_of_nonneg E5];omega
 have E:(j:Int).tmod 3= (d:Int):=by rw[Int.tmod_eq_emod_of_nonneg E5];omega
 have t:q<26:=E5;have F:d<3:=E5;have G:IntKind.i64.wrap (j:Int)= (j:Int):=G6;have v:Hid (i<26->d=0/\q=i):=λk=>E5
 clear n p r;obtain⟨b,H,x,l⟩:∃b:NG,(∀w:NI,(Instr.slice 9 (.string ⟨#[97,98,99,100,101,102,103,104,105,106,107,108,109,110,111,112,113,114,115,116,117,118,119,120,121,122]⟩) (some (.a (q:Int))) none none).run prog w= .ok (.string b) w)/\(1:Int)<=b.size/\b= (⟨#[97,98,99,100,101,102,103,104,105,106,107,108,109,110,111,112,113,114,115,116,117,118,119,120,121,122]⟩:NG).extract q 26:=
  ⟨_,λw=>run_slice_string_l w 9 ⟨#[97,98,99,100,101,102,103,104,105,106,107,108,109,110,111,112,113,114,115,116,117,118,119,120,121,122]⟩ underlying9 .i64 (q:Int) E5 (by show (q:Int)<=((26:Nat):Int);omega),by
   rw[ByteArray.size_extract];show (1:Int)<=((min 26 26-(q:Int).toNat:Nat):Int);omega,rfl⟩
 obtain⟨h,I,y,m⟩:∃h:NG,(∀w:NI,(Instr.slice 9 (.string b) none (some (.a 1)) none).run prog w= .ok (.string h) w)/\h.size=1/\h=b.extract 0 1:=
  ⟨_,λw=>run_slice_string_h w 9 b underlying9 .i64 1 E5 x,by
   rw[ByteArray.size_extract];show min 1 b.size-0=1;omega,rfl⟩
 have z:Hid (h=kG q):=by rw[m,l];exact FX q t
 clear l m;go_enter func111,ntmps111
 go_wp2
 refine Qk.region F4 (λw'=>K_ w w') 11 (aV w) (λf=>?_);refine ae 0 f ?_;refine bY 1 (.a (q:Int)) f ?_ ?_
 .intro u c;try dsimp only at c
  go_simp
  try with_reducible rfl
 try simp only[upP]
 refine bY 2 (.string b) f ?_ ?_
 .intro u c;try dsimp only at c
  go_simp
  try with_reducible rfl
 try simp only[upP]
 refine bY 3 (.string h) f ?_ ?_
 .intro u c;try dsimp only at c
  go_simp
  try with_reducible rfl
 try simp only[upP]
 refine ae 5 f ?_;refine bY 6 (.a (j:Int)) f ?_ ?_
 .intro u c;try dsimp only at c
  go_simp
  try with_reducible rfl
 try simp only[upP]
 refine bY 7 (.a (d:Int)) f ?_ ?_
 .intro u c;try dsimp only at c
  go_simp
  try with_reducible rfl
 try simp only[upP]
 refine aG 4 (λK a=>?_);go_simp
 refine af a (λ_=>J3) ?_;clear a K;have A:d=0\/d=1\/d=2:=E5;obtain rfl|rfl|rfl:=A
 all_goals
  refine aG 8 (λK a=>?_);go_simp
  refine af a (λ_=>J3) ?_;clear a K;refine aG 9 (λK a=>?_);go_simp
  refine af a (λ_=>J3) ?_;clear a K;refine aG 10 (λK a=>?_);go_simp
  refine af a (λ_=>J3) ?_;clear a K;refine ai 11 (λK a=>?_);go_simp
  refine af a (λk=>Nv rfl k) ?_;clear a K;refine aF ?_;go_wp2
  go_ret
  exact⟨_,rfl,by rw[ByteArray.size_append,y];decide,λk=>(by
   obtain⟨J,B⟩:=v.o k
   first
    | (exfalso;omega)
    | (rw[z.o,B];exact ByteArray.ext (by simp[kG]))),(ah w _).drew⟩
theorem mH(w:NI)(i:Nat)(hi:i<=100000):
  Calls prog 111 #[.a (i:Int)] w λe w'=>Bz w w' e:=
 (vL w i hi).mono λ_ _ ⟨s,b,c,_,d⟩=>⟨s,b,c,d⟩
variable {bs : List UInt8} {cap p rb : Nat} {a : NH} {w w' : NI}
theorem Rd.kept(h:Rd w rb a cap bs p)(k:K_ w w'):Rd w' rb a cap bs p:=by
 refine⟨h.row.kept k,by rw[k.cell h.row.lt];exact h.c0,by rw[k.cell h.row.lt];exact h.c1,λi d=>?_⟩;obtain⟨b,o,e,f,c,j⟩:=h.bytes i d;exact⟨b,o,e,f,Mf c k.size,by rw[k.cell c];exact j⟩
def Km(w w':NI)(rb:Nat)(a:NH)(cap:Nat)(bs:List UInt8)(p t m:Nat)(e:Ending):Prop:=
 ∃(s:NG) (p':Nat),e= .returned (.string s)/\s.size<=m/\p<=p'/\p'<=p+t/\Rd w' rb a cap bs p'/\Xj rb (rb+1) w w'
theorem aM(w:NI)(b:Nat)(a:NH)(d:Nat)(c:List UInt8)(p:Nat)(m:Int)(n:Nat)(f:m= (n:Int))(h:Rd w b a d c p)(i:p<=1000000)(j:n<=100000)(k:c.length<=2000):
  Calls prog 19 #[.c b,.a m] w λe w'=>Jj w w' b a d c p n e:=by
 rw[f];exact og w b a d c p n h i j k
theorem Xj.fQ{lo hi:Nat}{a b c:NI}(h:Xj lo hi a b)(k:K_ b c):Xj lo hi a c:=h.trans (.ax k)
theorem JK(w:NI)(d:Nat)(a:NH)(k:Nat)(h:List UInt8)(p i n:Nat)(B:Rd w d a k h p)(R:p<=900000)(hi:i<=100000)(C:n<=100000)(D:h.length<=2000):
  Calls prog 190 #[.c d,.a (i:Int),.a (n:Int)] w λe w'=>Km w w' d a k h p 2 4 e:=by
 go_enter func190,ntmps190
 go_wp2_with fail
 refine (aM _ d a k h p _ 12 rfl B E5 E5 D).mono ?_;rintro e M ⟨v,rfl,x,E,F⟩;have⟨G,H⟩:=aH E F;clear E F B;by_cases r:v=0
 .have N:((v:Int) == 0)=true:=by simp[r]
  clear x;go_wp2
  go_ret
  exact⟨_,p+1,rfl,E8,E5,E5,G.o,H.o⟩
 .have N:((v:Int) == 0)=false:=by simpa using r
  have I:∀t:Nat,t<=100000->Calls prog 19 #[.c d,.a (t:Int)] M λe w'=>∃q:Nat,e= .returned (.a (q:Int))/\q<=100000/\Rd w' d a k h (p+2)/\Xj d (d+1) w w':=by
   intro t O;refine (og _ d a k h (p+1) t G.o E5 O D).mono ?_;rintro e y ⟨q,rfl,j,b,c⟩;exact⟨q,rfl,E5,b,H.o.trans c⟩
  have z:=Kz I;clear I;by_cases A:v=1
  .have P:((v:Int) == 1)=true:=by simp[A]
   clear x r A;go_wp2_with fail
   refine (z.o n C).mono ?_;rintro e y ⟨q,rfl,j,b,c⟩;have⟨l,m⟩:=aH b c;clear b c;go_wp2_with fail
   refine (mH _ q j).mono ?_;rintro e J ⟨s,rfl,K,f⟩;go_wp2
   go_ret
   exact⟨s,p+2,rfl,E5,E5,E5,l.o.kept f,m.o.fQ f⟩
  .have P:((v:Int) == 1)=false:=F6;clear x r A;by_cases L:i=0
   .have Q:((i:Int) == 0)=true:=by simp[L]
    go_wp2_with fail
    refine (z.o n C).mono ?_;rintro e y ⟨q,rfl,j,b,c⟩;have⟨l,m⟩:=aH b c;clear b c;go_wp2_with fail
    refine (mH _ q j).mono ?_;rintro e J ⟨s,rfl,K,f⟩;go_wp2
    go_ret
    exact⟨s,p+2,rfl,E5,E5,E5,l.o.kept f,m.o.fQ f⟩
   .have Q:((i:Int) == 0)=false:=by simpa using L
    go_wp2_with fail
    refine (z.o i hi).mono ?_;rintro e y ⟨q,rfl,j,b,c⟩;have⟨l,m⟩:=aH b c;clear b c;go_wp2_with fail
    refine (mH _ q j).mono ?_;rintro e J ⟨s,rfl,K,f⟩;go_wp2
    go_ret
    exact⟨s,p+2,rfl,E5,E5,E5,l.o.kept f,m.o.fQ f⟩
theorem Cf(w:NI)(s:NG)(n:Nat)(x:n<=1000)(z:s.size<=100):
  Calls prog 163 #[.string s,.int .i64 (n:Int)] w fun e w'=>(∃t:NG,e= .returned (.string t)/\t.size<=n*s.size)/\w'=w:=by
 obtain⟨B,c⟩:=aj (n*s.size);have F:B<=100000:=by rw[c];exact Mh (Nat.mul_le_mul x z) (by omega)
 rw[<-c];have l:=Kz c;clear c;go_enter func163,ntmps163
 go_wp2
 go_loop [0,1,5] (fun A y C=>∃(a o:NG) (m:Nat),A= .string a/\y= .int .i64 (m:Int)/\C= .string o/\m<=n/\o.size+m*a.size<=B/\(m=0\/a.size<=B)) (fun _ y _=>(intOf y).toNat)
 case atStart=>
  refine⟨s,_,n,rfl,rfl,rfl,Me _, ?_, ?_⟩
  ·have:=l.o;show 0+n*s.size<=B;omega
  ·by_cases f:n=0
   ·exact .inl f
   ·refine .inr ?_;rw[l.o];exact Nat.le_mul_of_pos_left _ (by omega)
 case round=>
  obtain⟨a,o,m,rfl,rfl,rfl,G,h,i⟩:=hrel;by_cases p:m=0
  ·have D:¬(0:Int)<(m:Int):=by omega
   have r:o.size<=B:=by omega
   clear h i;go_wp2
   go_ret
   exact⟨⟨o,rfl,r⟩,rfl⟩
  ·have D:(0:Int)<(m:Int):=by omega
   have H:a.size<=B:=by omega
   have r:o.size<=B:=by omega
   obtain⟨q,v⟩:=aj (m / 2);have I:(m:Int) / 2= (q:Int):=by omega
   have J:q<m:=by omega
   have d:q=0\/(a++a).size<=B:=by
    rw[ByteArray.size_append];by_cases f:q=0
    ·exact .inl f
    ·have:2*a.size<=m*a.size:=Nat.mul_le_mul_right _ (by omega);omega
   by_cases K:m % 2=1
   ·have E:(m:Int) % 2=1:=by omega
    have b:(o++a).size+q*(a++a).size<=B:=by
     rw[ByteArray.size_append,ByteArray.size_append];have:m*a.size=q*(a.size+a.size)+a.size:=by
      rw[show m=q+q+1 by omega,Nat.add_mul,Nat.add_mul,Nat.mul_add];omega
     omega
    have⟨j,k⟩:=aH b d;clear b d h i v p;go_wp2
    go_round
    case rel=>exact⟨a++a,o++a,q,rfl,by go_num,rfl,by omega,j.o,k.o⟩
    case measure=>simp[intOf];omega
   ·have E:(m:Int) % 2=0:=by omega
    have b:o.size+q*(a++a).size<=B:=by
     rw[ByteArray.size_append];have:m*a.size=q*(a.size+a.size):=by
      rw[show m=q+q by omega,Nat.add_mul,Nat.mul_add]
     omega
    have⟨j,k⟩:=aH b d;clear b d h i v p;go_wp2
    go_round
    case rel=>exact⟨a++a,o,q,rfl,by go_num,rfl,by omega,j.o,k.o⟩
    case measure=>simp[intOf];omega
def KX(w w':NI)(m:Nat)(e:Ending):Prop:=∃s:NG,e= .returned (.string s)/\s.size<=m/\K_ w w'
theorem tC(w:NI)(n:Nat)(b:n<10):Calls prog 191 #[.a (n:Int)] w λe w'=>KX w w' 1 e:=by
 have c:(n:Int)<10:=E5;have d:(convert 22 9 (.b w.heap.size 1 1)).run prog (w.alloc (.cells #[.int .u8 (48+ (n:Int))] 5))= .ok (.string (strOfNums [48+ (n:Int)])) (w.alloc (.cells #[.int .u8 (48+ (n:Int))] 5)):=
  run_convert_bytes_arg (P:=prog) _ 22 5 underlying22 underlying5 w.heap.size 0 1 1 [48+ (n:Int)] rfl (λi f=>by
   obtain rfl:i=0:=E5;rw[World.cell?_alloc_mark];rfl) 9 underlying9
 go_enter func191,ntmps191
 go_wp2
 go_ret
 exact⟨_,rfl,by rw[strOfNums_size];exact Me 1,ah w _⟩
theorem IP(w:NI)(d:Nat)(a:NH)(h:Nat)(f:List UInt8)(p:Nat)(F:Rd w d a h f p)(U:p<=900000)(G:f.length<=2000):
  Calls prog 192 #[.c d] w λe w'=>Km w w' d a h f p 2 31 e:=by
 go_enter func192,ntmps192
 go_wp2_with fail
 refine (aM _ d a h f p _ 10 rfl F E5 E5 G).mono ?_;rintro e M ⟨v,rfl,i,H,I⟩;have⟨x,y⟩:=aH H I;clear H I F;have J:∀(m:Int) (n:Nat),m= (n:Int)->n<=100000->Calls prog 19 #[.c d,.a m] M λe w'=>∃q:Nat,e= .returned (.a (q:Int))/\q<=n-1/\Rd w' d a h f (p+2)/\Xj d (d+1) w w':=by
  intro m n z N;refine (aM _ d a h f (p+1) m n z x.o E5 N G).mono ?_;rintro e A ⟨q,rfl,B,b,c⟩;exact⟨q,rfl,E5,b,y.o.trans c⟩
 have C:=Kz J;clear J;by_cases j:v=0
 .have O:((v:Int) == 0)=true:=by simp[j]
  clear i;go_wp2
  go_ret
  exact⟨_,p+1,rfl,E8,E5,E5,x.o,y.o⟩
 have O:((v:Int) == 0)=false:=by simpa using j
 by_cases s:v=1
 .have P:((v:Int) == 1)=true:=by simp[s]
  clear i;go_wp2
  go_ret
  exact⟨_,p+1,rfl,E8,E5,E5,x.o,y.o⟩
 have P:((v:Int) == 1)=false:=F6;by_cases t:v=3
 .have Q:((v:Int) == 3)=true:=by simp[t]
  clear i j s t;go_wp2_with fail
  refine (C.o _ 6 rfl E5).mono ?_;rintro e A ⟨q,rfl,B,b,c⟩;have⟨k,l⟩:=aH b c;clear b c;go_wp2_with fail
  refine (mH _ q E5).mono ?_;rintro e K ⟨D,rfl,R,r⟩;go_wp2
  go_ret
  exact⟨_,p+2,rfl,by rw[ByteArray.size_append];show 6+D.size<=31;omega,E5,E5,k.o.kept r,l.o.fQ r⟩
 have Q:((v:Int) == 3)=false:=F6;by_cases E:v=2
 .have S:((v:Int) == 2)=true:=by simp[E]
  clear i j s E t;go_wp2_with fail
  refine (C.o _ 2 rfl E5).mono ?_;rintro e A ⟨q,rfl,B,b,c⟩;have⟨k,l⟩:=aH b c;clear b c;obtain⟨m,z⟩:∃m:Nat,m=30-q:=⟨_,rfl⟩;have V:30-(q:Int)= (m:Int):=E5;have W:m<=30:=E5;clear z;go_wp2_with fail
  refine (Cf _ ⟨#[103]⟩ m E5 E8).mono ?_;rintro e K ⟨⟨T,rfl,L⟩,rfl⟩;have X:T.size<=30:=by
   have:(⟨#[103]⟩:NG).size=1:=rfl;rw[this] at L;omega
  clear L;go_wp2
  go_ret
  exact⟨_,p+2,rfl,E5,E5,E5,k.o,l.o⟩
 have S:((v:Int) == 2)=false:=F6;clear i j s E t;go_wp2_with fail
 refine (C.o _ 3 rfl E5).mono ?_;rintro e A ⟨q,rfl,B,b,c⟩;have⟨k,l⟩:=aH b c;clear b c;go_wp2_with fail
 refine (tC _ q E5).mono ?_;rintro e K ⟨D,rfl,R,r⟩;go_wp2
 go_ret
 exact⟨_,p+2,rfl,by rw[ByteArray.size_append];show 1+D.size<=31;omega,E5,E5,k.o.kept r,l.o.fQ r⟩
theorem Tryz.gJ :(prog.info? 9).map (λi=>(i.zero,i.size,i.bytes))=some (some (.string ByteArray.empty),1,16):=F4
theorem Tryz.pU :(prog.info? 231).map (λi=>(i.zero,i.size,i.bytes))=some (some (.agg #[.string ByteArray.empty,.a 0]),2,24):=F4
theorem Tryz.jX :(prog.info? 176).map (λi=>(i.zero,i.size,i.bytes))=some (some (.agg #[M0,.a 0,M0,.a 0,.a 0,.bool false,.bool false,.string ByteArray.empty]),8,96):=F4
theorem Tryz.iE :(prog.info? 73).map (·.size)=some 2:=F4
theorem aP{P:Program}{e:TypeId}{z:NJ}{size c:Nat}(h:(P.info? e).map (λi=>(i.zero,i.size,i.bytes))=some (some z,size,c)):∃i,P.info? e=some i/\i.zero=some z/\i.size=size/\i.bytes=c:=by
 obtain⟨i,f,a⟩:=Option.map_eq_some_iff.1 h;simp only[Prod.mk.injEq] at a;exact⟨i,f,a.1,a.2.1,a.2.2⟩
theorem wm(l:List NG):∀u∈l.map Value.string,u.oneCell'=true:=by
 intro u a;obtain⟨x,_,rfl⟩:=MH.1 a
 rfl
variable {base n : Nat} {t : TypeId} {v : NJ}
theorem dh{l:List NG}(h:w.ownsRow base t 1 v n (l.map Value.string)):∃a b,v= .slice a l.length b/\l.length<=b/\eU w t a l:=by
 have d:n=l.length:=by have:=h.1;simp at this;omega
 subst d;rcases h.2 with⟨rfl,c⟩|⟨g,b,e,rfl,m,f,j,_,_,_⟩
 .exact⟨none,0,by rw[c],E5,.inl (Nz c)⟩
 .refine⟨_,b,rfl,j,.inr ⟨g,e,_,rfl,f,λi k=>?_⟩⟩;have:=h.cells (g:=g) rfl i (.string (l.getD i ByteArray.empty)) (by simp[List.getD,k]);rw[MZ,MM] at this;exact this
def bi(l:List bO):List NJ:=(l.map bO.cells).flatten
theorem iG(l:List bO):(bi l).length=l.length*2:=by
 induction l with
 | nil=>rfl
 | cons c r ih=>simp only[bi,List.map_cons,List.flatten_cons,MU,MX] at ih⊢;rw[ih];simp[bO.cells];omega
theorem uO(l:List bO)(c:bO):bi (l++ [c])=bi l++c.cells:=by simp[bi]
theorem wh(l:List bO):∀u∈bi l,u.oneCell'=true:=by
 intro u a;simp only[bi,List.mem_flatten,MH] at a;obtain⟨_,⟨c,_,rfl⟩,a⟩:=a;simp only[bO.cells,Na,Nb,or_false] at a;rcases a with rfl | rfl <;> rfl
theorem kQ :∀(l:List bO) (i j:Nat),i<l.length->j<2->(bi l)[i*2+j]? = ((l.getD i bO.zero).cells)[j]?
 | [],_,_,h,_=>aO h
 | c :: r,0,j,_,hj=>by
  have e:bi (c :: r)=c.cells++bi r:=rfl;rw[e,Nat.zero_mul,MM,Ni (by simpa[bO.cells] using hj)]
  rfl
 | c :: r,i+1,j,h,hj=>by
  have e:bi (c :: r)=c.cells++bi r:=rfl;have b:c.cells.length=2:=rfl;rw[e,Nj (by rw[b];omega),b,show (i+1)*2+j-2=i*2+j by omega,kQ r i j (by simpa using h) hj]
  rfl
theorem lu{l:List bO}(h:w.ownsRow base t 2 v n (bi l)):∃a b,v= .slice a l.length b/\oN w t a l:=by
 have e:n=l.length:=by have:=h.1;rw[iG] at this;omega
 subst e;rcases h.2 with⟨rfl,c⟩|⟨g,b,f,rfl,q,k,r,_,_,_⟩
 .exact⟨none,0,by rw[c],.inl (Nz c)⟩
 .refine⟨_,b,rfl,.inr ⟨g,f,_,rfl,k,λi m j u d=>?_⟩⟩;have p:j<2:=by have:=(Mk.1 d).1;simpa[bO.cells] using this
  have:=h.cells (g:=g) rfl (i*2+j) u (by rw[kQ l i j m p];exact d);rw[MZ,MM] at this;exact this
theorem jd(s:Xq)(a:NH)(b:Nat)(c:NH)(d:Nat):∀u∈s.cells a b c d,u.oneCell'=true:=by
 intro u e;have:=Xq.one s a b c d;rw[Array.all_eq_true_iff_forall_mem] at this;exact this u (by simpa using e)
theorem Xj.sameKind(h:Xj rb (rb+1) w w')(d:Rd w rb a cap bs p):aC 114 w w':=by
 intro c i u j e b;obtain⟨k,f,_⟩:=d.row;have l:c≠rb:=by
  rintro rfl;rw[f] at b;simp only[MV,Obj.cells.injEq] at b;exact e b.2.1.symm
 rw[h.block c (aN b) E5];exact b
theorem Xj.cell{lo hi:Nat}(h:Xj lo hi w w'){b o:Nat}(c:b<w.heap.size)(d:b<lo\/hi<=b):w'.cell? ⟨b,o,none⟩=w.cell? ⟨b,o,none⟩:=Mt (w:=w) (h.block b c d)
theorem aD.but{lo hi b:Nat}(h:aD w b t n)(k:Xj lo hi w w')(c:b<lo\/hi<=b):aD w' b t n:=h.block (k.block b h.lt c)
variable {x : Int}
theorem nG(h: -1000<=x/\x<=1000):In64 x:=by unfold In64;omega
def bO.Tiny(c:bO):Prop:=c.text.size<=300/\ -1000<=c.goto/\c.goto<=1000
structure Xq.TinyN (m:Nat) (s:Xq):Prop where
 asks:s.asks.length<=m
 eO:∀x∈s.asks,x.size<=300
 on: -1000<=s.on/\s.on<=1000
 cases:s.cases.length<=m
 dB:∀c∈s.cases,c.Tiny
 els:In64 s.els
 fall: -1000<=s.fall/\s.fall<=1000
 give:s.give.size<=300
variable {s : Xq}
theorem Xq.TinyN.fits{m:Nat}(h:s.TinyN m)(d:m<=1000):s.Fits:=by
 have:=h.asks;have:=h.cases;have:=h.on;have:=h.fall;have:=h.give;refine⟨?_,λx b=>?_, ?_, ?_,λc a=>⟨?_, ?_⟩, ?_, ?_, ?_⟩
 all_goals first | exact h.els | (unfold maxLen;omega) | (unfold In64;omega) | skip
 .have:=h.eO x b;unfold maxLen;omega
 .have:=(h.dB c a).1;unfold maxLen;omega
 .have:=(h.dB c a).2;unfold In64;omega
abbrev Xq.Tiny (s:Xq):Prop:=Xq.TinyN 20 s
theorem Xq.TinyN.mono{m:Nat}(h:s.TinyN m)(b:m<=n):s.TinyN n:=⟨Mh h.asks b,h.eO,h.on,Mh h.cases b,h.dB,h.els,h.fall,h.give⟩
structure dz (w:NI) (sb:Nat) (va vc:NJ) (s:Xq):Prop where
 row:aD w sb 176 8
 c0:w.cell? ⟨sb,0,none⟩=some va
 c1:w.cell? ⟨sb,1,none⟩=some (.a s.on)
 c2:w.cell? ⟨sb,2,none⟩=some vc
 c3:w.cell? ⟨sb,3,none⟩=some (.a s.els)
 c4:w.cell? ⟨sb,4,none⟩=some (.a s.fall)
 c5:w.cell? ⟨sb,5,none⟩=some (.bool s.fin)
 c6:w.cell? ⟨sb,6,none⟩=some (.bool s.bad)
 c7:w.cell? ⟨sb,7,none⟩=some (.string s.give)
variable {sb : Nat} {va vc : NJ}
theorem dz.block(h:dz w sb va vc s)(k:w'.heap[sb]? =w.heap[sb]?):dz w' sb va vc s:=by
 have b:∀o,w'.cell? ⟨sb,o,none⟩=w.cell? ⟨sb,o,none⟩:=λo=>Mt (w:=w) k
 exact⟨h.row.block k,(b _).trans h.c0,(b _).trans h.c1,(b _).trans h.c2,(b _).trans h.c3,(b _).trans h.c4,(b _).trans h.c5,(b _).trans h.c6,(b _).trans h.c7⟩
theorem dz.kept(h:dz w sb va vc s)(k:K_ w w'):dz w' sb va vc s:=h.block (k.block sb h.row.lt)
theorem dz.cell(h:dz w sb va vc s){o:Nat}(b:o<8):(∃v,w.cell? ⟨sb,o,none⟩=some v)/\w.frozen? ⟨sb,o,none⟩=false:=h.row.row.at b
theorem dz.made(w:NI)(els fall:Int):dz (w.alloc (.cells #[M0,.a 0,M0,.a els,.a fall,.bool false,.bool false,.string ⟨#[]⟩] 176)) w.heap.size M0 M0 ⟨[],0,[],els,fall,false,false,⟨#[]⟩⟩:=by
 have d:=X_ w #[M0,.a 0,M0,.a els,.a fall,.bool false,.bool false,.string ⟨#[]⟩] 176;have a:∀j v,(#[M0,.a 0,M0,.a els,.a fall,.bool false,.bool false,.string ⟨#[]⟩]:Array NJ).toList[j]? =some v->(w.alloc (.cells #[M0,.a 0,M0,.a els,.a fall,.bool false,.bool false,.string ⟨#[]⟩] 176)).cell? ⟨w.heap.size,j,none⟩=some v:=λj v e=>by
  have:=d j v e;rw[MM] at this;exact this
 exact⟨aD.made w _ _,a 0 _ rfl,a 1 _ rfl,a 2 _ rfl,a 3 _ rfl,a 4 _ rfl,a 5 _ rfl,a 6 _ rfl,a 7 _ rfl⟩
theorem dz.on(h:dz w sb va vc s)(x:Int):dz (w.setCell ⟨sb,1,none⟩ (.a x)) sb va vc {s with on:=x}:=
 ⟨h.row.set _,(Xk E5 _).trans h.c0,aW h.row.row E5 _,(Xk E5 _).trans h.c2,(Xk E5 _).trans h.c3,(Xk E5 _).trans h.c4,(Xk E5 _).trans h.c5,(Xk E5 _).trans h.c6,(Xk E5 _).trans h.c7⟩
theorem dz.els(h:dz w sb va vc s)(x:Int):dz (w.setCell ⟨sb,3,none⟩ (.a x)) sb va vc {s with els:=x}:=
 ⟨h.row.set _,(Xk E5 _).trans h.c0,(Xk E5 _).trans h.c1,(Xk E5 _).trans h.c2,aW h.row.row E5 _,(Xk E5 _).trans h.c4,(Xk E5 _).trans h.c5,(Xk E5 _).trans h.c6,(Xk E5 _).trans h.c7⟩
theorem dz.fall(h:dz w sb va vc s)(x:Int):dz (w.setCell ⟨sb,4,none⟩ (.a x)) sb va vc {s with fall:=x}:=
 ⟨h.row.set _,(Xk E5 _).trans h.c0,(Xk E5 _).trans h.c1,(Xk E5 _).trans h.c2,(Xk E5 _).trans h.c3,aW h.row.row E5 _,(Xk E5 _).trans h.c5,(Xk E5 _).trans h.c6,(Xk E5 _).trans h.c7⟩
theorem dz.fin(h:dz w sb va vc s)(x:Bool):dz (w.setCell ⟨sb,5,none⟩ (.bool x)) sb va vc {s with fin:=x}:=
 ⟨h.row.set _,(Xk E5 _).trans h.c0,(Xk E5 _).trans h.c1,(Xk E5 _).trans h.c2,(Xk E5 _).trans h.c3,(Xk E5 _).trans h.c4,aW h.row.row E5 _,(Xk E5 _).trans h.c6,(Xk E5 _).trans h.c7⟩
theorem dz.bad(h:dz w sb va vc s)(x:Bool):dz (w.setCell ⟨sb,6,none⟩ (.bool x)) sb va vc {s with bad:=x}:=
 ⟨h.row.set _,(Xk E5 _).trans h.c0,(Xk E5 _).trans h.c1,(Xk E5 _).trans h.c2,(Xk E5 _).trans h.c3,(Xk E5 _).trans h.c4,(Xk E5 _).trans h.c5,aW h.row.row E5 _,(Xk E5 _).trans h.c7⟩
theorem dz.give(h:dz w sb va vc s)(x:NG):dz (w.setCell ⟨sb,7,none⟩ (.string x)) sb va vc {s with give:=x}:=
 ⟨h.row.set _,(Xk E5 _).trans h.c0,(Xk E5 _).trans h.c1,(Xk E5 _).trans h.c2,(Xk E5 _).trans h.c3,(Xk E5 _).trans h.c4,(Xk E5 _).trans h.c5,(Xk E5 _).trans h.c6,aW h.row.row E5 _⟩
theorem dz.asks(h:dz w sb va vc s)(v:NJ)(l:List NG):dz (w.setCell ⟨sb,0,none⟩ v) sb v vc {s with asks:=l}:=
 ⟨h.row.set _,aW h.row.row E5 _,(Xk E5 _).trans h.c1,(Xk E5 _).trans h.c2,(Xk E5 _).trans h.c3,(Xk E5 _).trans h.c4,(Xk E5 _).trans h.c5,(Xk E5 _).trans h.c6,(Xk E5 _).trans h.c7⟩
theorem dz.cases(h:dz w sb va vc s)(v:NJ)(l:List bO):dz (w.setCell ⟨sb,2,none⟩ v) sb va v {s with cases:=l}:=
 ⟨h.row.set _,(Xk E5 _).trans h.c0,(Xk E5 _).trans h.c1,aW h.row.row E5 _,(Xk E5 _).trans h.c3,(Xk E5 _).trans h.c4,(Xk E5 _).trans h.c5,(Xk E5 _).trans h.c6,(Xk E5 _).trans h.c7⟩
theorem dz.same(h:dz w sb va vc s)(k:aC t w w')(c:176≠t):dz w' sb va vc s:=by
 obtain⟨d,b,_⟩:=h.row;exact h.block ((k sb d _ _ c b).trans b.symm)
structure gy (m:Nat) (W wr:NI) (rb sb:Nat) (a:NH) (cap:Nat) (bs:List UInt8) (p:Nat) (va vc:NJ) (s:Xq):Prop where
 rd:Rd wr rb a cap bs p
 rd0:∃p0,Rd W rb a cap bs p0
 sbl:W.heap.size<=sb
 kb:Xj rb (rb+1) W wr
 box:dz wr sb va vc s
 asks:wr.ownsRow W.heap.size 9 1 va s.asks.length (s.asks.map Value.string)
 cases:wr.ownsRow W.heap.size 231 2 vc s.cases.length (bi s.cases)
 tiny:s.TinyN m
variable {mN : Nat} {W wr : NI}
theorem gy.rbl(h:gy mN W wr rb sb a cap bs p va vc s):rb<W.heap.size:=let ⟨_,h0⟩:=h.rd0;h0.row.lt
theorem gy.drawn{c:Nat}(h:gy mN W wr rb sb a cap bs p va vc s)(e:Rd w' rb a cap bs c)(k:Xj rb (rb+1) wr w'):gy mN W w' rb sb a cap bs c va vc s:=by
 have d:=k.sameKind h.rd;have:=h.rbl;have:=h.sbl;exact⟨e,h.rd0,h.sbl,h.kb.trans k,h.box.block (k.block sb h.box.row.lt E5),aQ h.asks d E8,aQ h.cases d E8,h.tiny⟩
theorem gy.kept(h:gy mN W wr rb sb a cap bs p va vc s)(k:K_ wr w'):gy mN W w' rb sb a cap bs p va vc s:=h.drawn (h.rd.kept k) (.ax k)
theorem Rd.below{n:Nat}(h:Rd w rb a cap bs p)(i:Rd W rb a cap bs n)(k:Below W.heap.size w w')(_hz:W.heap.size<=w.heap.size):Rd w' rb a cap bs p:=by
 have c:∀b o,b<W.heap.size->w'.cell? ⟨b,o,none⟩=w.cell? ⟨b,o,none⟩:=λb o d=>Mt (w:=w) (k.block b d)
 have e:=i.row.lt;have s:=k.size;refine⟨h.row.block (k.block _ e),(c _ _ e).trans h.c0,(c _ _ e).trans h.c1,λj l=>?_⟩;obtain⟨b,o,m,q,_,r⟩:=h.bytes j l;obtain⟨t,v,f,_,d,_⟩:=i.bytes j l;rw[m] at f;simp only[MV,ND,and_true] at f;obtain⟨rfl,rfl⟩:=f;exact⟨b,o,m,q,E5,by rw[c _ _ d];exact r⟩
theorem gy.field{b:Xq}(h:gy mN W wr rb sb a cap bs p va vc s){o:Nat}(e:dz (wr.setCell ⟨sb,o,none⟩ v) sb va vc b)(f:b.asks=s.asks)(i:b.cases=s.cases)(j:b.TinyN mN):gy mN W (wr.setCell ⟨sb,o,none⟩ v) rb sb a cap bs p va vc b:=by
 have c:=h.box.row.same (o:=o) v;have d:Below W.heap.size wr (wr.setCell ⟨sb,o,none⟩ v):=(Below.refl _ _).setCell h.sbl v;obtain⟨l,k⟩:=h.rd0;exact⟨h.rd.below k d h.kb.size,h.rd0,h.sbl,h.kb.below d,e,by rw[f];exact aQ h.asks c E8,by rw[i];exact aQ h.cases c E8,j⟩
theorem gy.on(h:gy mN W wr rb sb a cap bs p va vc s)(c: -1000<=x/\x<=1000):gy mN W (wr.setCell ⟨sb,1,none⟩ (.a x)) rb sb a cap bs p va vc {s with on:=x}:=
 h.field (h.box.on x) rfl rfl ⟨h.tiny.asks,h.tiny.eO,c,h.tiny.cases,h.tiny.dB,h.tiny.els,h.tiny.fall,h.tiny.give⟩
theorem gy.els(h:gy mN W wr rb sb a cap bs p va vc s)(c: -1000<=x/\x<=1000):gy mN W (wr.setCell ⟨sb,3,none⟩ (.a x)) rb sb a cap bs p va vc {s with els:=x}:=
 h.field (h.box.els x) rfl rfl ⟨h.tiny.asks,h.tiny.eO,h.tiny.on,h.tiny.cases,h.tiny.dB,nG c,h.tiny.fall,h.tiny.give⟩
theorem gy.fall(h:gy mN W wr rb sb a cap bs p va vc s)(c: -1000<=x/\x<=1000):gy mN W (wr.setCell ⟨sb,4,none⟩ (.a x)) rb sb a cap bs p va vc {s with fall:=x}:=
 h.field (h.box.fall x) rfl rfl ⟨h.tiny.asks,h.tiny.eO,h.tiny.on,h.tiny.cases,h.tiny.dB,h.tiny.els,c,h.tiny.give⟩
variable {w1 w2 : NI}
theorem gy.t_(h:gy mN W wr rb sb a cap bs p va vc s)(c:K_ wr w1)(d:w1.grownBy w2 va.ownBlock):dz w2 sb va vc s:=
 (h.kept c).box.same (aC.aI (h.kept c).asks d) E8
theorem gy.A_(h:gy mN W wr rb sb a cap bs p va vc s)(c:K_ wr w1)(d:w1.grownBy w2 vc.ownBlock):dz w2 sb va vc s:=
 (h.kept c).box.same (aC.aI (h.kept c).cases d) E8
theorem gy.pq{c:NJ}{x:NG}(h:gy mN W wr rb sb a cap bs p va vc s)(l:K_ wr w1)
 (m:w2.ownsRow W.heap.size 9 1 c (s.asks.length+1) (s.asks.map Value.string++ [.string x])) (f:w1.grownBy w2 va.ownBlock) (n:s.asks.length+1<=mN) (q:x.size<=300):gy mN W (w2.setCell ⟨sb,0,none⟩ c) rb sb a cap bs p c vc {s with asks:=s.asks++ [x]}:=by
 have b:=h.kept l;have d:aC 9 w1 w2:=aC.aI b.asks f;have i:=b.box.same d E8;have j:=i.row.same (o:=0) c;have k:Below W.heap.size w1 (w2.setCell ⟨sb,0,none⟩ c):=((Below.refl _ _).grown f b.kb.size (λr d=>(b.asks.lt r d).1)).setCell h.sbl c;obtain⟨v,t⟩:=h.rd0;refine⟨b.rd.below t k b.kb.size,h.rd0,h.sbl,b.kb.below k,i.asks c _, ?_,aQ (aQ b.cases d E8) j E8, ?_⟩
 .have:=aQ m j E8;simpa using this
 .refine⟨by simpa using n,λy e=>?_,h.tiny.on,h.tiny.cases,h.tiny.dB,h.tiny.els,h.tiny.fall,h.tiny.give⟩;simp only[Mo,Mm] at e;rcases e with e | rfl
  .exact h.tiny.eO y e
  .exact q
theorem gy.su{c:NJ}{x:bO}(h:gy mN W wr rb sb a cap bs p va vc s)(l:K_ wr w1)
 (m:w2.ownsRow W.heap.size 231 2 c (s.cases.length+1) (bi s.cases++x.cells)) (f:w1.grownBy w2 vc.ownBlock) (n:s.cases.length+1<=mN) (q:x.Tiny):gy mN W (w2.setCell ⟨sb,2,none⟩ c) rb sb a cap bs p va c {s with cases:=s.cases++ [x]}:=by
 have b:=h.kept l;have d:aC 231 w1 w2:=aC.aI b.cases f;have i:=b.box.same d E8;have j:=i.row.same (o:=2) c;have k:Below W.heap.size w1 (w2.setCell ⟨sb,2,none⟩ c):=((Below.refl _ _).grown f b.kb.size (λr d=>(b.cases.lt r d).1)).setCell h.sbl c;obtain⟨v,t⟩:=h.rd0;refine⟨b.rd.below t k b.kb.size,h.rd0,h.sbl,b.kb.below k,i.cases c _,aQ (aQ b.asks d E8) j E8, ?_, ?_⟩
 .have:=aQ m j E8;rw[<-uO] at this;simpa using this
 .refine⟨h.tiny.asks,h.tiny.eO,h.tiny.on,by simpa using n,λy e=>?_,h.tiny.els,h.tiny.fall,h.tiny.give⟩;simp only[Mo,Mm] at e;rcases e with e | rfl
  .exact h.tiny.dB y e
  .exact q
def ky(cs:List NJ):Prop:=∀n c,Value.slice none n c∈cs->n=0/\c=0
variable {xs : List NJ}
theorem ky.append{cs:List NJ}(h:ky xs)(k:ky cs):ky (xs++cs):=λn c e=>by
 rcases Mo.1 e with a|a
 .exact h n c a
 .exact k n c a
theorem iL{size:Nat}{e:TypeId}{c m:Nat}(h:w.ownsRow base e size (.slice none n c) m xs):n=0/\c=0:=by
 rcases h.2 with⟨e,_⟩|⟨g,b,d,e,_⟩
 .simp only[MW,true_and] at e;exact e
 .simp at e
theorem jU{a b:NH}{c d:Nat}(h:a=none->s.asks.length=0/\c=0)(h2:b=none->s.cases.length=0/\d=0):ky (s.cells a c b d):=by
 intro n i f;simp only[Xq.cells,Na,Nb,or_false,MW,reduceCtorEq,false_or,or_self] at f;rcases f with⟨e,rfl,rfl⟩|⟨e,rfl,rfl⟩
 .exact h e.symm
 .exact h2 e.symm
theorem gy.nV{b c:NH}{d m f:Nat}(h:gy mN W wr rb sb a cap bs p (.slice b n d) (.slice c m f) s)(i:n=s.asks.length)(j:m=s.cases.length):ky (s.cells b d c f):=by
 subst i j;exact jU (λe=>by subst e;exact iL h.asks) (λe=>by subst e;exact iL h.cases)
theorem gy.cells(h:gy mN W wr rb sb a cap bs p va vc s):∃b c d e,va= .slice b s.asks.length c/\vc= .slice d s.cases.length e/\lw wr 9 231 (s.cells b c d e) s:=by
 obtain⟨b,c,f,i,j⟩:=dh h.asks;obtain⟨d,e,k,l⟩:=lu h.cases;exact⟨b,c,d,e,f,k,b,c,d,e,rfl,j,l,i⟩
abbrev SSt (W wr:NI) (rb sb:Nat) (a:NH) (cap:Nat) (bs:List UInt8) (p:Nat) (va vc:NJ) (s:Xq):Prop:=gy 20 W wr rb sb a cap bs p va vc s
structure jE (m:Nat) (w wr:NI) (rb ab:Nat) (a:NH) (cap:Nat) (bs:List UInt8) (p:Nat) (cost:Int) (v:NJ) (L:List Xq) (xs:List NJ):Prop where
 rd:Rd wr rb a cap bs p
 rd0:∃p0,Rd w rb a cap bs p0
 abl:w.heap.size<=ab
 kb:Xj rb (rb+1) w wr
 row:aD wr ab 73 2
 c0:wr.cell? ⟨ab,0,none⟩=some (.a cost)
 c1:wr.cell? ⟨ab,1,none⟩=some v
 own:wr.ownsRow w.heap.size 176 8 v L.length xs
 pack:fB wr 9 231 xs L
 tiny:∀s∈L,s.TinyN m
 nV:ky xs
variable {L : List Xq} {ab : Nat}
theorem jE.rbl{cost:Int}(h:jE mN w wr rb ab a cap bs p cost v L xs):rb<w.heap.size:=let ⟨_,h0⟩:=h.rd0;h0.row.lt
theorem jE.drawn{c:Nat}{cost:Int}(h:jE mN w wr rb ab a cap bs p cost v L xs)(f:Rd w' rb a cap bs c)(k:Xj rb (rb+1) wr w'):jE mN w w' rb ab a cap bs c cost v L xs:=by
 have d:=k.sameKind h.rd;have:=h.rbl;have:=h.abl;have e:∀o,w'.cell? ⟨ab,o,none⟩=wr.cell? ⟨ab,o,none⟩:=λo=>k.cell h.row.lt E5
 exact⟨f,h.rd0,h.abl,h.kb.trans k,h.row.but k E5,(e _).trans h.c0,(e _).trans h.c1,aQ h.own d E8,h.pack.same d E8 E8,h.tiny,h.nV⟩
theorem jE.kept{cost:Int}(h:jE mN w wr rb ab a cap bs p cost v L xs)(k:K_ wr w'):jE mN w w' rb ab a cap bs p cost v L xs:=h.drawn (h.rd.kept k) (.ax k)
theorem fB.push{a b:TypeId}{cs:List NJ}{l:List Xq}(h:fB w a b xs l)(d:lw w a b cs s):fB w a b (xs++cs) (l++ [s]):=by
 have e:(l++ [s]).take l.length=l:=E9;have f:(l++ [s]).take (l.length+1)=l++ [s]:=by rw[MO];simp
 have:=fB.snoc (k:=l.length) (l:=l++ [s]) E9 (by rw[e];exact h) (cs:=cs) (by simpa[List.getD] using d);rw[f] at this;exact this
theorem jE.fK{cost:Int}(h:jE mN w wr rb ab a cap bs p cost v L xs)(f:K_ wr w1)(i:w1.grownBy w2 v.ownBlock):w2.cell? ⟨ab,1,none⟩=some v/\aD w2 ab 73 2:=by
 have b:=h.kept f;have j:aC 176 w1 w2:=aC.aI b.own i;obtain⟨c,d,k⟩:=b.row;have e:=j ab c _ _ E8 d;exact⟨by rw[Mt (w:=w1) (e.trans d.symm)];exact b.c1,c,e,k⟩
theorem jE.push{cost:Int}{c:NJ}{cs:List NJ}(h:jE mN w wr rb ab a cap bs p cost v L xs)(k:K_ wr w1)(q:lw wr 9 231 cs s)(r:s.TinyN mN)(t:ky cs)
 (x:w2.ownsRow w.heap.size 176 8 c (L.length+1) (xs++cs)) (l:w1.grownBy w2 v.ownBlock):jE mN w (w2.setCell ⟨ab,1,none⟩ c) rb ab a cap bs p cost c (L++ [s]) (xs++cs):=by
 have b:=h.kept k;have d:aC 176 w1 w2:=aC.aI b.own l;have j:aD w2 ab 73 2:=by
  obtain⟨e,f,y⟩:=b.row;exact⟨e,d ab e _ _ E8 f,y⟩
 have z:w2.cell? ⟨ab,0,none⟩=some (.a cost):=by
  obtain⟨e,f,_⟩:=b.row;rw[Mt (w:=w1) ((d ab e _ _ E8 f).trans f.symm)];exact b.c0
 have m:=j.same (o:=1) c;have n:Below w.heap.size w1 (w2.setCell ⟨ab,1,none⟩ c):=((Below.refl _ _).grown l b.kb.size (λA d=>(b.own.lt A d).1)).setCell h.abl c;obtain⟨D,B⟩:=h.rd0;refine⟨b.rd.below B n b.kb.size,h.rd0,h.abl,b.kb.below n,j.set _,(Xk E5 _).trans z,aW j.row E5 _, ?_, ?_,λC i=>?_,h.nV.append t⟩
 .have:=aQ x m E8;simpa using this
 .exact ((b.pack.push (q.same (u:=114) (aC.ax k) E8 E8)).same d E8 E8).same m E8 E8
 .simp only[Mo,Mm] at i;rcases i with i|rfl
  .exact h.tiny C i
  .exact r
theorem jE.cost{cost:Int}(h:jE mN w wr rb ab a cap bs p cost v L xs):jE mN w (wr.setCell ⟨ab,0,none⟩ (.a x)) rb ab a cap bs p x v L xs:=by
 have c:=h.row.same (o:=0) (.a x);have d:Below w.heap.size wr (wr.setCell ⟨ab,0,none⟩ (.a x)):=(Below.refl _ _).setCell h.abl _;obtain⟨f,e⟩:=h.rd0;exact⟨h.rd.below e d h.kb.size,h.rd0,h.abl,h.kb.below d,h.row.set _,aW h.row.row E5 _,(Xk E5 _).trans h.c1,aQ h.own c E8,(h.pack.same c E8 E8),h.tiny,h.nV⟩
abbrev ASt (w wr:NI) (rb ab:Nat) (a:NH) (cap:Nat) (bs:List UInt8) (p:Nat) (cost:Int) (v:NJ) (L:List Xq) (xs:List NJ):Prop:=jE 20 w wr rb ab a cap bs p cost v L xs
