import Derived.RangeFuncWrites
import Derived.RangeFuncCalls
import Derived.Test.YtlfofiaagibapaaGreatDoorKBSame
import Derived.Test.YtlfofiaagibapaaGreatDoorKVNeeds
import Derived.Test.YtlfofiaagibapaaGreatDoorKCRing
set_option maxRecDepth 100000
set_option maxHeartbeats 25600000
namespace Go.Proofs.YtlfofiaagibapaaGreatDoor
open Go.RowKit Go.Proofs.Tryz
def Looks(P:Program)(gf:Nat)(rv:NP)(encs:Nat->Array NP)(V N:Nat->NN->Prop)(n:Nat)(ok:NN->Prop):Prop:=∀(l:Nat)(J:Nat->NN->Prop)(Jx:NN->Prop)(W:NN),ok W->
  (∀i W1,i<n->J i W1->(V i W1/\YieldAt Fence.wide 7 P l (encs i) W1 λe W'=>(e=.returned (.bool true)/\J (i+1) W')\/(e=.returned (.bool false)/\Jx W'))\/(N i W1/\J (i+1) W1))->
  J 0 W->CallsIn Fence.wide 8 P gf #[rv,.func (.yield l) #[] #[]] W λe W'=>(∃v,e=.returned v)/\(J n W'\/Jx W')
def roundEnd(B:Nat)(I:NN->Prop)(Ix:Code->NN->Prop)(W:NN):Exit->Act->NN->Prop
 |.normal,_,W'=>KeepsFrom B W W'/\I W'
 |.ret,_,W'=>KeepsFrom B W W'/\Ix .ret W'
 |.exit id,_,W'=>KeepsFrom B W W'/\Ix (.exit id) W'
 |.goto t,_,W'=>KeepsFrom B W W'/\Ix (.goto t) W'
 |.panic _,_,_=>False
 |.outgrown,_,_=>False
def Calm(B:Nat)(I:NN->Prop):Prop:=(∀W o,B<=W.heap.size->I W->I (W.alloc o))/\∀(W:NN)(l:Nat)(o o':Obj),B<=l->W.heap[l]? =some o->o.isCells=false->I W->I (W.putObj l o')
theorem nW{P:Program}{g:Operand}{ps:Array Tmp}{assign body:Code}{Q:Exit->Act->NN->Prop}{a:Act}{w:NN}{E:Nat}{L:NP}{M:Nat->Array NP}{V N:Nat->NN->Prop}{n:Nat}{O:NN->Prop}(a7:Looks P E L M V N n O)(hg:a.eval g=.func (.func E) #[L] #[])(eg:∀args w,(callFunc E args).run P w=.ok (.enter E args) w)(a1:Calm w.heap.size O)(a8:O w)(a9:∀i,(M i).size=ps.size)(I:Nat->NN->Prop)(R:Code->NN->Prop)(H:∀i,Calm w.heap.size (I i))(S:∀c,Calm w.heap.size (R c))(h0:I 0 w)(a₁:Nat->Act)(b0:∀(l i:Nat)(W:NN)(K:Act->NN->Prop),K (a₁ i) W->assign.wpIn (Fence.wide.inRound l) 7 P (Exit.then K λ_ _ _=>False) {tmps:=(ps.zip (M i)).foldl (λt (p,v)=>t.setIfInBounds p v) a.tmps,defers:=[]} W)(hV:∀i,Calm w.heap.size (V i))(b1:∀(i:Nat)(W:NN),i<n->I i W->(V i W/\∀l W',V i W'->I i W'->w.heap.size<=W'.heap.size->body.wpIn (Fence.wide.inRound l) 7 P (roundEnd w.heap.size (I (i+1)) R W') (a₁ i) W')\/(N i W/\I (i+1) W))(b2:∀(D:Nat)(W:NN),w.heap.size<=D->I n W->W.heap[D]? =some (.deferred (some []))->Q .normal {a with defers:={target:=.collected D,args:= #[]} :: a.defers} W)(b3:∀(D:Nat)(c:Code)(W:NN),w.heap.size<=D->R c W->W.heap[D]? =some (.deferred (some []))->c.wpIn Fence.wide 9 P Q {a with defers:={target:=.collected D,args:= #[]} :: a.defers} W):(Code.rangeFunc g ps assign body).wpIn Fence.wide 9 P Q a w:=by
 refine wpIn_rangeFunc λfn b4=>?_
 let⟨D,hD⟩:=aj w.heap.size;obtain⟨b,f⟩:∃b:LoopState->Option Code->Loop,b=λs q=>{state:=s,pending:=q,fn,tmps:=a.tmps,params:=ps,assign,body,defers:=D}:=⟨_,rfl⟩
 have es:∀s q x X,({b s q with state:=x,pending:=X}:Loop)=b x X:=λs q x X=>by rw[f]
 have b5:∀s q x,({b s q with state:=x}:Loop)=b x q:=λs q x=>by rw[f]
 obtain⟨h,Y⟩:∃h,(w.alloc (.deferred (some []))).alloc (.loop (b .ready none))=h:=⟨_,rfl⟩;have z1:w.heap.size<=(w.alloc (.deferred (some []))).heap.size:=by rw[MZ];omega
 have T:h.heap[D+1]? =some (.loop (b .ready none))/\h.heap[D]? =some (.deferred (some []))/\I 0 h/\O h:=by
  rw[<-Y,hD];refine⟨?_,?_,(H 0).1 _ _ z1 ((H 0).1 _ _ (Mj _) h0),a1.1 _ _ z1 (a1.1 _ _ (Mj _) a8)⟩
  .have:=World.alloc_heap_new (w.alloc (.deferred (some []))) (.loop (b .ready none))
   rwa [MZ] at this
  .exact (Below.heap_alloc _ _ _ E9).trans (World.alloc_heap_new w _)
 refine⟨D+1,[{target:=.collected D,args:= #[]}],h,{target:=.fn (.func E) #[],args:= #[L,.func (.yield (D+1)) #[] #[]]},h,E,#[L,.func (.yield (D+1)) #[] #[]],h,?_,?_,λ_ _=>trivial,?_,λ_=>E5,?_⟩
 .rw[<-Y,f,hD];exact run_enterLoop_outer _ _ _ _ _
 .simp only[resolve,hg];simp[go_sem]
 .simp[invoke,go_sem,eg]
 refine (a7 (D+1) (λi W=>I i W/\w.heap.size<=W.heap.size/\W.heap[D+1]? =some (.loop (b .ready none))/\W.heap[D]? =some (.deferred (some []))) (λW=>∃c,R c W/\W.heap[D+1]? =some (.loop (b .done (some c)))/\W.heap[D]? =some (.deferred (some []))) h T.2.2.2 ?_ ⟨T.2.2.1,by rw[<-Y];simp;omega,T.1,T.2.1⟩).mono ?_
 .rintro i W J ⟨a2,Z,e,F⟩;have b6:=(MX.1 e).1;rcases b1 i W J a2 with⟨a4,b7⟩|⟨b8,b9⟩
  .refine .inl ⟨a4,?_⟩;have hy:=run_yield (P:=P) (args:=M i) e (by rw[f];exact a9 i);rw[f] at hy;refine⟨fn,_,assign,body,hy,?_⟩;refine roundIn_of_wpIn b4 (b0 _ i W _ ⟨_,run_beginRound e (by rw[f]),?_⟩);obtain⟨m,G⟩:∃m,W.putObj (D+1) (.loop {b .ready none with state:=.busy})=m:=⟨_,rfl⟩;rw[G];have c0:m.heap[D+1]? =some (.loop (b .busy none)):=by rw[<-G,World.putObj_heap_same b6,b5]
   have c1:m.heap[D]? =some (.deferred (some [])):=by rw[<-G,World.putObj_heap_other E5];exact F
   have a5:w.heap.size<=m.heap.size:=by rw[<-G,World.putObj_size];exact Z
   have c2:I i m:=by rw[<-G];exact (H i).2 _ _ _ _ E5 e rfl a2
   have c3:V i m:=by rw[<-G];exact (hV i).2 _ _ _ _ E5 e rfl a4
   refine wpIn_mono (b7 _ m c3 c2 a5) ?_;have fin:∀(r:Option Code)(j:NN),KeepsFrom w.heap.size m j->
     ∃d,(Instr.endRound (D+1) r).run P j=.ok (.bool r.isNone) d/\d=j.putObj (D+1) (.loop (b (if r.isNone then .ready else .done) r))/\j.heap[D+1]? =some (.loop (b .busy none))/\d.heap[D+1]? =some (.loop (b (if r.isNone then .ready else .done) r))/\d.heap[D]? =some (.deferred (some []))/\w.heap.size<=d.heap.size:=λr j hk=>by
    have a0:=hk.same _ _ E5 c0 rfl;have c4:=hk.same _ _ E5 c1 rfl;refine⟨_,run_endRound (P:=P) r a0,by rw[es],a0,?_,?_,?_⟩
    .rw[es];exact World.putObj_heap_same (MX.1 a0).1
    .rw[World.putObj_heap_other E5];exact c4
    .rw[World.putObj_size];exact Mm a5 hk.size
   intro a6 a3 j k;cases a6 with
   |normal=>
    let⟨d,y,z,A,B,C,U⟩:=fin none j k.1;exact⟨_,d,y,.inl ⟨rfl,by rw[z];exact (H _).2 _ _ _ _ E5 A rfl k.2,U,B,C⟩⟩
   |ret=>
    let⟨d,y,z,A,B,C,U⟩:=fin (some .ret) j k.1;exact⟨_,d,y,.inr ⟨rfl,.ret,by rw[z];exact (S _).2 _ _ _ _ E5 A rfl k.2,B,C⟩⟩
   |exit id=>
    let⟨d,y,z,A,B,C,U⟩:=fin (some (.exit id)) j k.1;exact⟨_,d,y,.inr ⟨rfl,.exit id,by rw[z];exact (S _).2 _ _ _ _ E5 A rfl k.2,B,C⟩⟩
   |goto t=>
    let⟨d,y,z,A,B,C,U⟩:=fin (some (.goto t)) j k.1;exact⟨_,d,y,.inr ⟨rfl,.goto t,by rw[z];exact (S _).2 _ _ _ _ E5 A rfl k.2,B,C⟩⟩
   |panic ch=>exact k.elim
   |outgrown=>exact k.elim
  .exact .inr ⟨b8,b9,Z,e,F⟩
 .rintro a6 W2 ⟨⟨v,rfl⟩,(⟨J,Z,e,F⟩|⟨c,J,e,F⟩)⟩
  .refine⟨none,_,by have:=run_endLoop (P:=P) e (by rw[f];simp);rw[f] at this;exact this,?_⟩;exact b2 D _ E5 ((H n).2 _ _ _ _ E5 e rfl J) (by rw[World.putObj_heap_other E5];exact F)
  .refine⟨some c,_,by have:=run_endLoop (P:=P) e (by rw[f];simp);rw[f] at this;exact this,?_⟩;exact b3 D c _ E5 ((S c).2 _ _ _ _ E5 e rfl J) (by rw[World.putObj_heap_other E5];exact F)
open Go.RowKit Go.Shelf
attribute [local go_sem] Oper.semAt_some
def CS(d:NM)(tb:Nat->Nat)(i:Nat)(W:NN):Prop:=∃g,d=some ⟨g,0,none⟩/\W.cell? ⟨g,i,none⟩=some (.c (tb i))/\W.cell? ⟨tb i,1,none⟩=some (.bool false)/\W.cell? ⟨tb i,9,none⟩=some (.a 0)
def EP(d:NM)(tb:Nat->Nat)(i:Nat)(W:NN):Prop:=∃g,d=some ⟨g,0,none⟩/\W.cell? ⟨g,i,none⟩=some (.c (tb i))/\(W.cell? ⟨tb i,1,none⟩=some (.bool true)\/(W.cell? ⟨tb i,1,none⟩=some (.bool false)/\∃op:Nat,op≠0/\W.cell? ⟨tb i,9,none⟩=some (.a (op:Int))))
theorem mf(bb:Nat)(d:NM)(n dc:Nat)(tb:Nat->Nat)(w:n<=1048576):Looks prog 71 (.c bb) (λi=>#[.c (tb i)]) (CS d tb) (EP d tb) n (λW=>W.cell? ⟨bb,3,none⟩=some (.slice d n dc)):=by
 intro y J z W A a f;refine callsIn_of_wp func71 rfl trivial ?_ rfl;simp only[ntmps71,List.size_toArray,Nc,List.length_nil,Nat.reduceAdd,Nat.reduceSub,Array.replicate_succ,Array.replicate_zero,List.push_toArray,List.append_toArray,List.nil_append,List.cons_append];have j:=Kz a;clear a
 gi_wp2
 gi_loopw [12] (λx wr=>∃i:Nat,i<=n/\x=.a i/\J i wr) (λx _=>n-(intOf x).toNat)
 case atStart=>exact⟨0,Ml _,rfl,f⟩
 case round=>
  obtain⟨i,B,rfl,b⟩:=hrel;by_cases k:i<n
  .rcases j.o i wr k b with⟨⟨g,rfl,l,c,m⟩,C,D,E,F,G,p⟩|⟨⟨g,rfl,l,q⟩,e⟩
   .gi_wp2
    refine p.mono ?_;rintro H I (⟨rfl,r⟩|⟨rfl,s⟩)
    .gi_wp2
     go_roundw
     case rel=>exact⟨i+1,E5,F3,r⟩
     case measure=>simp[intOf];omega
    .gi_wp2
     refine bodyPost_ret (results_none rfl _ _ _) rfl ?_;exact⟨⟨_,rfl⟩,.inr s⟩
   .rcases q with c|⟨c,t,v,m⟩
    .gi_wp2
     refine⟨λ_ h=>(by cases h),?_⟩
     gi_wp2
     go_roundw
     case rel=>exact⟨i+1,E5,F3,e⟩
     case measure=>simp[intOf];omega
    .have K:((t:Int) == 0)=false:=by simpa using v
     gi_wp2
     refine⟨λ_ h=>(by cases h),?_⟩
     gi_wp2
     go_roundw
     case rel=>exact⟨i+1,E5,F3,e⟩
     case measure=>simp[intOf];omega
  .gi_wp2
   go_end0
   have:i=n:=E5;subst this;exact⟨⟨_,rfl⟩,.inl b⟩
theorem iG{w:NN}{b:Nat}{t:TypeId}(h:bA w b t){o:Obj}(a:w.heap[b]? =some o):o.isCells=true:=by
 let⟨e,f,d⟩:=h;rw[d] at a;cases a
 rfl
theorem bA.set{w:NN}{b:Nat}{t:TypeId}(h:bA w b t)(p:Addr)(v:NP):bA (w.setCell p v) b t:=by
 let⟨d,a,c⟩:=h;by_cases e:b=p.block
 .subst e;let⟨f,i⟩:=MX.1 c;apply Exists.intro;apply Exists.intro (w:=a);show (w.heap.modify p.block _)[p.block]? =_;rw[Array.getElem?_eq_getElem (by rw[Array.size_modify];exact f),Array.getElem_modify_self,i]
 .exact⟨d,a,(Below.heap_setCell w p v b e).trans c⟩
structure InB (B:Nat)(Kf Kc:Nat->Prop)(ps:List (Nat×NL))(W0:NN)(Kq:List Qz)(wz W:NN)(bb:Nat)(a:NM)(cap:Nat)(rd:NM)(rn rc:Nat)(mb mx:Nat)(ts:List Zk)(d:NM)(dc:Nat)(f:NL->NP)(ws:NL->List Nat):Prop where
 bm:BM ⟨W,λk=>Kf k\/Kc k,ps,λ_=>False⟩ Kq wz W bb a cap rd rn rc mb mx ts d dc f ws
 same:∀k,Kf k->W.heap[k]? =W0.heap[k]?
 lt:∀k,Kf k\/Kc k->k<B
 mlt:mb<B
 size:B<=W.heap.size
 zlt:wz.heap.size<=B
 JA:∀k,Kc k->wz.heap.size<=k/\∃t,bA W k t/\t≠116
section
variable {B:Nat}{Kf Kc:Nat -> Prop}{ps:List (Nat × NL)}{W0:NN}{Kq:List Qz}{wz W W':NN}{bb:Nat}{a:NM}{cap:Nat}{rd:NM}{rn rc:Nat}{mb mx:Nat}{ts:List Zk}{d:NM}{dc:Nat}{f:NL -> NP}{ws:NL -> List Nat}
theorem BM.as{G b:cZ}(h:BM G Kq wz W bb a cap rd rn rc mb mx ts d dc f ws)(c:Fen b W bb mb ts f)(e:∀x,(Value.slice d ts.length dc).ownBlock=some x->¬(b.I x/\b.K x)):BM b Kq wz W bb a cap rd rn rc mb mx ts d dc f ws:=⟨h.kw,h.row,h.c0,h.c1,h.c2,h.c3,h.c4,h.c5,h.low,h.items,h.eZ,h.act,h.asc,h.tbs,h.sep,h.yX,h.map,h.Bq,h.jf,h.yU,h.Bn,h.qb,c,e⟩
theorem BM.no{G:cZ}(h:BM G Kq wz W bb a cap rd rn rc mb mx ts d dc f ws):BM (cZ.no wz) Kq wz W bb a cap rd rn rc mb mx ts d dc f ws:=h.as (Fen.no h.kw.size) (λ_ _ h=>h.1)
theorem BM.block{G:cZ}(h:BM G Kq wz W bb a cap rd rn rc mb mx ts d dc f ws){S:Nat->Prop}(k:¬S mb)(c:∀b,S b->∀t,¬bA W b t):¬S bb/\¬S mb/\(∀b,(Value.slice d ts.length dc).ownBlock=some b->¬S b)/\(∀s b,(f s).ownBlock=some b->¬S b)/\∀t∈ts,¬S t.tb/\∀x∈t.own,¬S x:=⟨λe=>c _ e _ h.row.type,k,λ_b i e=>c _ e _ (Y_ h.items i),λs _b i e=>c _ e _ (Y_ (h.jf s) i),λt j=>⟨λe=>c _ e _ (h.eZ t j).row.type,λ_x l e=>c _ e _ ((h.eZ t j).fB l).1⟩⟩
theorem InB.but{S:Nat->Prop}(h:InB B Kf Kc ps W0 Kq wz W bb a cap rd rn rc mb mx ts d dc f ws)(k:But S W W')(l:∀b,S b->wz.heap.size<=b)(c:¬S bb/\¬S mb/\(∀b,(Value.slice d ts.length dc).ownBlock=some b->¬S b)/\(∀s b,(f s).ownBlock=some b->¬S b)/\∀t∈ts,¬S t.tb/\∀x∈t.own,¬S x)(m:∀b,S b->¬Kf b)(n:∀b,S b->Kc b->∀t,bA W b t->bA W' b t):InB B Kf Kc ps W0 Kq wz W' bb a cap rd rn rc mb mx ts d dc f ws:=by
 have p:=h.bm.no.but k l c.1 c.2.1 c.2.2.1 c.2.2.2.1 c.2.2.2.2 λ_ _=>id;have i:=h.bm.oth;refine⟨p.as ⟨Mj _,λb c=>Mk (i.lt b c) k.size,λ_ _=>rfl,i.nb,i.nm,i.nt,i.nf,i.has⟩ λ_ _ h=>h.1,λb c=>?_,h.lt,h.mlt,Mm h.size k.size,h.zlt,λb c=>?_⟩
 .exact (k.block b (i.lt b (.inl c)) λe=>m b e c).trans (h.same b c)
 .obtain⟨q,t,j,r⟩:=h.JA b c;refine⟨q,t,?_,r⟩;by_cases e:S b
  .exact n b e c t j
  .obtain⟨v,w,y⟩:=j;exact⟨v,w,by rw[k.block b (i.lt b (.inr c)) e];exact y⟩
theorem InB.kept(h:InB B Kf Kc ps W0 Kq wz W bb a cap rd rn rc mb mx ts d dc f ws)(k:K_ W W'):InB B Kf Kc ps W0 Kq wz W' bb a cap rd rn rc mb mx ts d dc f ws:=h.but (S:=λ_=>False) (But.ax k) (λ_ e=>e.elim) ⟨id,id,λ_ _=>id,λ_ _ _=>id,λ_ _=>⟨id,λ_ _=>id⟩⟩ (λ_ e=>e.elim) λ_ e=>e.elim
theorem iq(k:K_ W W')(B:Nat):KeepsFrom B W W':=⟨k.size,λb _o _ a _=>(k.block b (aM a)).trans a⟩
theorem InB.calm(h:InB B Kf Kc ps W0 Kq wz W bb a cap rd rn rc mb mx ts d dc f ws){l:Nat}{o:Obj}(i:Obj)(j:B<=l)(k:W.heap[l]? =some o)(m:o.isCells=false):InB B Kf Kc ps W0 Kq wz (W.putObj l i) bb a cap rd rn rc mb mx ts d dc f ws:=by
 have n:But (λb=>b=l) W (W.putObj l i):=⟨rfl,rfl,rfl,G7,λb _ e=>World.putObj_heap_other e⟩;refine h.but n (λb e=>by rw[e];exact Mm h.zlt j) (h.bm.block (S:=λb=>b=l) (λ(e:mb=l)=>by have:=h.mlt;omega) λb e t p=>?_) (λb e c=>?_) (λb e c=>?_)
 .have:=iG p (by rw[e];exact k);rw[m] at this;cases this
 .have:=h.lt b (.inl c);omega
 .have:=h.lt b (.inr c);omega
theorem InB.store(i:InB B Kf Kc ps W0 Kq wz W bb a cap rd rn rc mb mx ts d dc f ws){p:Addr}(c:Kc p.block)(m:¬Kf p.block)(v:NP):InB B Kf Kc ps W0 Kq wz (W.setCell p v) bb a cap rd rn rc mb mx ts d dc f ws:=by
 have n:But (λb=>b=p.block) W (W.setCell p v):=But.set (S:=λb=>b=p.block) (But.ax (K_.refl W)) rfl _;have h:=i.bm.oth;let⟨q,A,r,s⟩:=i.JA _ c;refine i.but n (λb e=>by rw[e];exact q) ⟨λe=>h.nb (by rw[e];exact .inr c),λe=>h.nm (by rw[e];exact .inr c),λb j e=>?_,λt b j e=>h.nf t b j (by rw[e];exact .inr c),λu k=>⟨λe=>(h.nt u k).1 (by rw[e];exact .inr c),λx w e=>(h.nt u k).2 x w (by rw[e];exact .inr c)⟩⟩ (λb e=>by rw[e];exact m) (λb e _ u k=>?_)
 .rw[e] at j;exact aU r (Y_ i.bm.items j) s rfl
 .obtain⟨y,z,l⟩:=k;rw[e] at l⊢;exact bA.set ⟨y,z,l⟩ p v
def inG(B:Nat)(Kf Kc:Nat->Prop)(ps:List (Nat×NL))(W:NN):cZ:=⟨W,λk=>(Kf k\/Kc k)\/(B<=k/\∃o,W.heap[k]? =some o/\o.isCells=false),ps,λ_=>False⟩
theorem InB.told(h:InB B Kf Kc ps W0 Kq wz W bb a cap rd rn rc mb mx ts d dc f ws):BM (inG B Kf Kc ps W) Kq wz W bb a cap rd rn rc mb mx ts d dc f ws:=by
 have c:=h.bm.oth;have j:=h.bm.block (S:=λk=>B<=k/\∃o,W.heap[k]? =some o/\o.isCells=false) (λe=>by have:=h.mlt;omega) (λb e t i=>by
  let⟨_,o,m,p⟩:=e;have:=iG i m;rw[p] at this;cases this)
 refine h.bm.as ⟨Mj _,λk n=>?_,λ_ _=>rfl,?_,?_,λt i=>⟨?_,λx l=>?_⟩,λs x l=>?_,c.has⟩ (λ_ _ h=>h.1)
 .rcases n with n|⟨_,o,m,_⟩
  .exact c.lt k n
  .exact aM m
 .rintro (e|e)
  .exact c.nb e
  .exact j.1 e
 .rintro (e|e)
  .exact c.nm e
  .exact j.2.1 e
 .rintro (e|e)
  .exact (c.nt t i).1 e
  .exact (j.2.2.2.2 t i).1 e
 .rintro (e|e)
  .exact (c.nt t i).2 x l e
  .exact (j.2.2.2.2 t i).2 x l e
 .rintro (e|e)
  .exact c.nf s x l e
  .exact j.2.2.2.1 s x l e
theorem InB.did(h:InB B Kf Kc ps W0 Kq wz W bb a cap rd rn rc mb mx ts d dc f ws){m:Nat}{n:List Zk}{p:NM}{dc':Nat}{q:NL->NP}{r:NL->List Nat}(s:BM (inG B Kf Kc ps W) Kq wz W' bb a cap rd rn rc mb m n p dc' q r):InB B Kf Kc ps W0 Kq wz W' bb a cap rd rn rc mb m n p dc' q r/\KeepsFrom B W W'/\∀k,Kc k->W'.heap[k]? =W.heap[k]? :=by
 have c:=s.oth;have i:∀k,Kf k\/Kc k->W'.heap[k]? =W.heap[k]? :=λk b=>c.same k (.inl b)
 refine⟨⟨s.as ⟨Mj _,λk b=>Mk (c.lt k (.inl b)) c.size,λ_ _=>rfl,λe=>c.nb (.inl e),λe=>c.nm (.inl e),λt v=>⟨λe=>(c.nt t v).1 (.inl e),λx j e=>(c.nt t v).2 x j (.inl e)⟩,λw x j e=>c.nf w x j (.inl e),c.has⟩ λ_ _ h=>h.1,λk b=>(i k (.inl b)).trans (h.same k b),h.lt,h.mlt,Mm h.size c.size,h.zlt,λk b=>?_⟩,⟨c.size,λk o y b l=>(c.same k (.inr ⟨y,o,b,l⟩)).trans b⟩,λk b=>i k (.inr b)⟩;let⟨z,t,⟨A,C,l⟩,D⟩:=h.JA k b;exact⟨z,t,⟨A,C,by rw[i k (.inr b)];exact l⟩,D⟩
theorem InB.start(h:BM (cZ.no wz) Kq wz W bb a cap rd rn rc mb mx ts d dc f ws)(b:∀k,Kf k\/Kc k->k<W.heap.size/\k≠bb/\k≠mb/\(∀t∈ts,k≠t.tb/\k∉t.own)/\∀s,(f s).ownBlock≠some k)(l:∀k,Kc k->wz.heap.size<=k/\∃t,bA W k t/\t≠116)(m:∀p∈ps,∃t∈ts,t.tb=p.1/\t.r.name=p.2):InB W.heap.size Kf Kc ps W Kq wz W bb a cap rd rn rc mb mx ts d dc f ws:=by
 let⟨N,D,_,n,_⟩:=h.map;let⟨v,w,q,_⟩:=n;exact⟨h.as ⟨Mj _,λk c=>(b k c).1,λ_ _=>rfl,λe=>(b _ e).2.1 rfl,λe=>(b _ e).2.2.1 rfl,λt j=>⟨λe=>((b _ e).2.2.2.1 t j).1 rfl,λx i e=>((b _ e).2.2.2.1 t j).2 i⟩,λs x i e=>(b _ e).2.2.2.2 s i,m⟩ λ_ _ h=>h.1,λ_ _=>rfl,λk c=>(b k c).1,aM q,Mj _,h.kw.size,l⟩
end
def wD(w:NN)(bb mb:Nat)(ts:List Zk)(f:NL->NP)(k:Nat):Prop:=k<w.heap.size/\k≠bb/\k≠mb/\(∀t∈ts,k≠t.tb/\k∉t.own)/\∀s,(f s).ownBlock≠some k
theorem Fen.apart{G:cZ}{w:NN}{bb mb:Nat}{ts:List Zk}{f:NL->NP}(h:Fen G w bb mb ts f){k:Nat}(a:G.K k):wD w bb mb ts f k:=⟨Mk (h.lt k a) h.size,λe=>h.nb (by rw[<-e];exact a),λe=>h.nm (by rw[<-e];exact a),λt b=>⟨λe=>(h.nt t b).1 (by rw[<-e];exact a),λc=>(h.nt t b).2 k c a⟩,λs d=>h.nf s k d a⟩
theorem xx{w w1:NN}{v:NP}{t:TypeId}(k:K_ (w.alloc (.cells #[v] t)) w1):w1.cell? ⟨w.heap.size,0,none⟩=some v/\w1.frozen? ⟨w.heap.size,0,none⟩=false/\bA w1 w.heap.size t:=by
 have a:w.heap.size<(w.alloc (.cells #[v] t)).heap.size:=E9;exact⟨(k.cell a).trans E9,(k.rules.2 _ _ a).trans E9,#[v],_,(k.block _ a).trans (World.alloc_heap_new w _)⟩
theorem yN{w w1:NN}{v0 v1:NP}{t:TypeId}(k:K_ (w.alloc (.cells #[v0,v1] t)) w1):w1.cell? ⟨w.heap.size,0,none⟩=some v0/\w1.cell? ⟨w.heap.size,1,none⟩=some v1:=by
 have a:w.heap.size<(w.alloc (.cells #[v0,v1] t)).heap.size:=E9;constructor
 .rw[k.cell a];simp
 .rw[k.cell a];simp
def DW(ts:List Zk):List NL:=ts.map λt=>t.r.name
def Jj(ts:List Zk):List (Nat×NL):=ts.map λt=>(t.tb,t.r.name)
def ig(ts:List Zk)(i:Nat):Nat:=(ts.map λt=>t.tb).getD i 0
def uq(Kq:List Qz)(ts:List Zk):Nat:=dD (Kq.map (·.name)) (Qq (Qj ts))
theorem zm :∀(l:List NL)(σ:Env),dD l σ<=23*l.length
 |[],_=>Mj _
 |n :: l,σ=>by
  have b:=zm l σ;have c:oH (σ n)<=23:=by
   unfold oH
   split
   .exact Mj _
   .split<;>omega
  have e:dD (n :: l) σ=oH (σ n)+dD l σ:=by simp[dD]
  rw[e,Nc];omega
section
variable {B:Nat}{G:cZ}{Kq:List Qz}{wz W W':NN}{bb:Nat}{a:NM}{cap:Nat}{rd:NM}{rn rc:Nat}{mb mx:Nat}{ts:List Zk}{d0 d:NM}{dc:Nat}{f:NL -> NP}{ws:NL -> List Nat}
theorem gU{l c o:Nat}(a:Obj)(h:c≠l):(W.putObj l a).cell? ⟨c,o,none⟩=W.cell? ⟨c,o,none⟩:=MC (w:=W) (World.putObj_heap_other h)
theorem rJ{l c o:Nat}(a:Obj)(h:c≠l):(W.putObj l a).frozen? ⟨c,o,none⟩=W.frozen? ⟨c,o,none⟩:=World.frozen?_of_block (w:=W) (World.putObj_heap_other h)
theorem BS.can(h:BS Kq ts ws){t:Zk}(b:t∈ts):aS (Kk Kq) (Qq (Qj ts)) t.r↔t.r.over=false/\t.op=0:=by
 let⟨A,c,_⟩:=(h.good.good t.r (Nk b)).act;rw[zt (by rw[c];rfl),h.op t b,MF]
theorem qp{tb:Nat->Nat}{i:Nat}(_hd:∀g,d0=some ⟨g,0,none⟩->g<B):Calm B (λW=>CS d0 tb i W):=by
 have cl:∀{W:NN}{c o:Nat}{v:NP},M4 W c o v->c<W.heap.size:=λ{W c o v} h=>by
  let⟨f,a,_⟩:=cells_of_cell h;exact aM a
 have j:∀{W:NN}{c o l:Nat}{v:NP}{f:Obj},M4 W c o v->W.heap[l]? =some f->f.isCells=false->c≠l:=λ{W c o l v f} h a d e=>by
  let⟨r,b,q⟩:=cells_of_cell h;simp only at b;rw[e,a] at b;cases b;rw[d] at q;cases q
 constructor
 .rintro W o s ⟨g,e,a,d,b⟩;have k:=(K_.refl W).alloc o;exact⟨g,e,(k.cell (cl a)).trans a,(k.cell (cl d)).trans d,(k.cell (cl b)).trans b⟩
 .rintro W l o m t n p ⟨g,e,a,d,b⟩;exact⟨g,e,(gU m (j a n p)).trans a,(gU m (j d n p)).trans d,(gU m (j b n p)).trans b⟩
theorem vL{v:NP}{c:Nat}(e:c<B):Calm B (λW=>W.cell? ⟨c,3,none⟩=some v):=by
 constructor
 .intro W o f a;let⟨h,b,_⟩:=cells_of_cell a;exact (((K_.refl W).alloc o).cell (aM b)).trans a
 .intro W l o d i j k a;exact (gU d E5).trans a
theorem Hy{tb:Nat->Nat}{i:Nat}(h:CS d0 tb i W)(k:EP d0 tb i W):False:=by
 let⟨g,_,_,c,d⟩:=h;let⟨e,_,_,a⟩:=k;rcases a with a|⟨_,f,j,b⟩
 .rw[c] at a;cases a
 .rw[d] at b;simp only[Na,Value.int.injEq,true_and] at b;omega
theorem rH(B:Nat):Calm B (λ_=>False):=⟨λ_ _ _ h=>h,λ_ _ _ _ _ _ _ h=>h⟩
theorem BM.far{G:cZ}(h:BM G Kq wz W bb a cap rd rn rc mb mx ts d dc f ws){k:Nat}(l:W.heap.size<=k):k≠bb/\k≠mb/\(∀t∈ts,k≠t.tb/\k∉t.own)/\∀s,(f s).ownBlock≠some k:=by
 have m:=h.row.lt;let⟨N,D,_,c,_⟩:=h.map;let⟨n,p,e,_⟩:=c;have q:=aM e;refine⟨E5,E5,λt b=>⟨?_,λi=>?_⟩,λs j=>?_⟩
 .have:=(h.eZ t b).row.lt;omega
 .have:=((h.eZ t b).fB i).2.2;omega
 .have:=((h.jf s).lt k j).2;omega
theorem BM.apart{G:cZ}(h:BM G Kq wz W bb a cap rd rn rc mb mx ts d dc f ws){k:Nat}(i:d=some ⟨k,0,none⟩):k<W.heap.size/\k≠bb/\k≠mb/\(∀t∈ts,k≠t.tb/\k∉t.own)/\∀s,(f s).ownBlock≠some k:=by
 subst i;have c:(Value.slice (some ⟨k,0,none⟩) ts.length dc).ownBlock=some k:=rfl;have b:=Y_ h.items c;let⟨N,D,_,j,_⟩:=h.map;refine⟨(h.items.lt k c).2,aU b h.row.type E8,iC j b,λt e=>⟨aU b (h.eZ t e).row.type E8,λl=>aU b ((h.eZ t e).fB l).1 E8 rfl⟩,λs m=>h.Bn s k m c⟩
theorem BM.item(h:BM G Kq wz W bb a cap rd rn rc mb mx ts d dc f ws){i:Nat}(hi:i<ts.length):∃g,d=some ⟨g,0,none⟩/\W.cell? ⟨g,i,none⟩=some (.c ((ts[i]).tb)):=by
 have b:=h.items;rcases b.2 with⟨e,_⟩|⟨g,k,l,e,_⟩
 .exfalso
  simp only[Nb] at e;omega
 .simp only[Nb] at e;obtain⟨rfl,_,rfl⟩:=e;refine⟨g,rfl,?_⟩;have c:=b.cells (g:=g) rfl i (ts[i]).ptr (by simp[hi]);have j:((⟨g,0,none⟩:Addr).add i)= ⟨g,i,none⟩:=by simp[Addr.add];omega
  rw[j] at c;exact c
theorem BM.sees(k:BM G Kq wz W bb a cap rd rn rc mb mx ts d dc f ws)(p:BS Kq ts ws){i:Nat}(hi:i<ts.length):(CS d (ig ts) i W/\aS (Kk Kq) (Qq (Qj ts)) (ts[i]).r)\/(EP d (ig ts) i W/\¬aS (Kk Kq) (Qq (Qj ts)) (ts[i]).r):=by
 let⟨g,l,h⟩:=k.item hi;have q:ig ts i= (ts[i]).tb:=by simp[ig,List.getD,hi]
 have m:=k.eZ ts[i] (Mw hi);have b:M4 W ((ts[i]).tb) 1 (.bool (ts[i]).r.over):=m.rng 1 _ rfl;have c:M4 W ((ts[i]).tb) 9 (.a ((ts[i]).op:Int)):=m.rng 9 _ rfl;have n:=p.can (Mw hi);rw[<-q] at h b c;by_cases e:aS (Kk Kq) (Qq (Qj ts)) (ts[i]).r
 .obtain⟨s,t⟩:=n.1 e;rw[s] at b;rw[t] at c;exact .inl ⟨⟨g,l,h,b,c⟩,e⟩
 .refine .inr ⟨⟨g,l,h,?_⟩,e⟩;cases j:(ts[i]).r.over with
  |true=>left;rw[b,j]
  |false=>
   right
   exact⟨by rw[b,j],(ts[i]).op,λv=>e (n.2 ⟨j,v⟩),c⟩
end
section
variable {B:Nat}{Kf Kc:Nat -> Prop}{W0:NN}{Kq:List Qz}{wz W W':NN}{bb:Nat}{a:NM}{cap:Nat}{rd:NM}{rn rc:Nat}{mb mx:Nat}{ts0 ts:List Zk}{d0 d:NM}{dc:Nat}{f:NL -> NP}{ws:NL -> List Nat}
theorem InB.eZ(h:InB B Kf Kc (Jj ts0) W0 Kq wz W bb a cap rd rn rc mb mx ts d dc f ws){i:Nat}(hi:i<ts0.length):∃(j:Nat)(t:Zk),ts[j]? =some t/\t.tb=ig ts0 i/\t.r.name= (DW ts0).getD i ByteArray.empty:=by
 let⟨t,b,c,e⟩:=h.bm.oth.has (ts0[i].tb,ts0[i].r.name) (MM.2 ⟨ts0[i],Mw hi,rfl⟩);let⟨j,k⟩:=List.getElem?_of_mem b;exact⟨j,t,k,by rw[c];simp[ig,List.getD,hi],by rw[e];simp[DW,List.getD,hi]⟩
theorem InB.row(h:InB B Kf Kc (Jj ts0) W0 Kq wz W bb a cap rd rn rc mb mx ts d dc f ws){base j:Nat}(b:W0.ownsRow base 116 1 (.slice d0 ts0.length j) ts0.length (ts0.map Zk.ptr))(k:∀g,d0=some ⟨g,0,none⟩->Kf g){i:Nat}(hi:i<ts0.length):∃g,d0=some ⟨g,0,none⟩/\W.cell? ⟨g,i,none⟩=some (.c (ig ts0 i)):=by
 rcases b.2 with⟨e,_⟩|⟨g,n,p,e,_⟩
 .exfalso
  simp only[Nb] at e;omega
 .simp only[Nb] at e;obtain⟨rfl,_,rfl⟩:=e;refine⟨g,rfl,?_⟩;have c:=b.cells (g:=g) rfl i (ts0[i]).ptr (by simp[hi]);have l:W.cell? ⟨g,i,none⟩=W0.cell? ⟨g,i,none⟩:=MC (w:=W0) (h.same g (k g rfl));rw[l];have m:((⟨g,0,none⟩:Addr).add i)= ⟨g,i,none⟩:=by simp[Addr.add];omega
  rw[m] at c;rw[c];simp[Zk.ptr,ig,List.getD,hi]
theorem InB.sees(h:InB B Kf Kc (Jj ts0) W0 Kq wz W bb a cap rd rn rc mb mx ts d dc f ws)(s:BS Kq ts ws){base v:Nat}(w:W0.ownsRow base 116 1 (.slice d0 ts0.length v) ts0.length (ts0.map Zk.ptr))(x:∀g,d0=some ⟨g,0,none⟩->Kf g){i:Nat}(hi:i<ts0.length):(CS d0 (ig ts0) i W/\bn (Kk Kq) (Qq (Qj ts)) ((DW ts0).getD i ByteArray.empty))\/(EP d0 (ig ts0) i W/\¬bn (Kk Kq) (Qq (Qj ts)) ((DW ts0).getD i ByteArray.empty)):=by
 let⟨g,e,n⟩:=h.row w x hi;let⟨G,t,y,z,A⟩:=h.eZ hi;have k:=ME y;have p:=h.bm.eZ t k;have b:M4 W t.tb 1 (.bool t.r.over):=p.rng 1 _ rfl;have c:M4 W t.tb 9 (.a (t.op:Int)):=p.rng 9 _ rfl;have l:=bJ h.bm.asc (Nk k);rw[z] at b c;rw[A] at l;have q:=s.can k;by_cases j:aS (Kk Kq) (Qq (Qj ts)) t.r
 .obtain⟨C,D⟩:=q.1 j;rw[C] at b;rw[D] at c;exact .inl ⟨⟨g,e,n,b,c⟩,⟨t.r,l,j⟩⟩
 .refine .inr ⟨⟨g,e,n,?_⟩,λ⟨H,r,E⟩=>?_⟩
  .cases m:t.r.over with
   |true=>left;rw[b,m]
   |false=>
    right
    refine⟨by rw[b,m],t.op,λF=>j (q.2 ⟨m,F⟩),c⟩
  .rw[l] at r;cases r;exact j E
def ApI(B:Nat)(Kf Kc:Nat->Prop)(W0:NN)(Kq:List Qz)(wz:NN)(bb:Nat)(a:NM)(cap:Nat)(rd:NM)(rn rc:Nat)(mb:Nat)(ts0:List Zk)(Gl σ0:Env)(c:Nat)(i:Nat)(W:NN):Prop:=∃(mx:Nat)(ts:List Zk)(d:NM)(dc:Nat)(f:NL->NP)(ws:NL->List Nat)(b:Bool),
  InB B Kf Kc (Jj ts0) W0 Kq wz W bb a cap rd rn rc mb mx ts d dc f ws/\BS Kq ts ws/\oI Kq Gl σ0 (Qq (Qj ts0)) (DW ts0) (Qq (Qj ts)) i b/\mx+6*uq Kq ts<=9000/\W.cell? ⟨c,0,none⟩=some (.bool b)/\W.frozen? ⟨c,0,none⟩=false
theorem ApI.calm{x y:Env}{c i:Nat}(w:Kc c):Calm B (ApI B Kf Kc W0 Kq wz bb a cap rd rn rc mb ts0 x y c i):=by
 constructor
 .rintro W o D ⟨e,f,h,j,k,l,b,d,n,p,q,r,s⟩;have t:=d.bm.oth.lt c (.inr w);exact⟨e,f,h,j,k,l,b,d.kept ((K_.refl W).alloc o),n,p,q,(((K_.refl W).alloc o).cell t).trans r,(((K_.refl W).alloc o).rules.2 c 0 t).trans s⟩
 .rintro W E o v z A C ⟨e,f,h,j,k,l,b,d,n,p,q,r,s⟩;have t:=d.lt c (.inr w);exact⟨e,f,h,j,k,l,b,d.calm v z A C,n,p,q,(gU v E5).trans r,(rJ v E5).trans s⟩
end
section
variable {G:cZ}{Kq:List Qz}{wz w w':NN}{bb:Nat}{a:NM}{cap:Nat}{rd:NM}{rn rc:Nat}{mb mx:Nat}{ts:List Zk}{d:NM}{dc:Nat}{f:NL -> NP}{ws:NL -> List Nat}
theorem IR{l a:List Q_}(c:l.length=a.length)(h:∀j,j<l.length->l.getD j Q_.zero=a.getD j Q_.zero):l=a:=by
 refine List.ext_getElem c λi b f=>?_
 have:=h i b;simpa[List.getD,b,f] using this
theorem xL(I:BM G Kq wz w bb a cap rd rn rc mb mx ts d dc f ws)(b3:ts.length<=1048576)(Y:∀t∈ts,t.r.texts.length<=1048576)(J:NM)(Z:Nat)(sl:List Q_)(_hsl:sl.length<=1048576)(a0:∀r∈sl,r.texts.length<=1048576)(hR:bN w J sl):Calls prog 123 #[.slice d ts.length dc,.slice J sl.length Z,.func (.func 124) #[] #[]] w λe w'=>Says e (Qj ts=sl)/\K_ w w':=by
 have K:=Kz I;clear I;have L:(Qj ts).length=ts.length:=by simp[Qj]
 have x:=Kz L;clear L;go_enter func123,ntmps123
 by_cases i:ts.length=sl.length
 .have a1:((ts.length:Int) != (sl.length:Int))=false:=by simp[i]
  have p:=Kz i;clear i;go_wp2
  go_loopw [17] (λy wr=>∃k:Nat,k<=ts.length/\y=.a k/\Hid (∀j,j<k->(Qj ts).getD j Q_.zero=sl.getD j Q_.zero)/\K_ w wr) (λy _=>ts.length-(intOf y).toNat)
  case atStart=>exact⟨0,Ml _,rfl,Kz λj z=>aO z,K_.refl _⟩
  case round=>
   obtain⟨k,hk,rfl,M,l⟩:=hrel;by_cases q:k<ts.length
   .obtain⟨g,a2,a3⟩:=(K.o.kept l).item q;obtain⟨b,o,xa,xc,a4,hb,c,A,_⟩:=hR.kept l k (by have:=p.o;omega);subst a2;subst a4;have i0:(k:Int)<(ts.length:Int):=E5;have i1:(k:Int)<(sl.length:Int):=by have:=p.o;omega
    have h:=(K.o.kept l).eZ ts[k] (Mw q);have B:(Qj ts).getD k Q_.zero= (ts[k]).r:=by simp[Qj,List.getD,q]
    have N:=a0 (sl.getD k Q_.zero) (BJ (by have:=p.o;omega));have O:=Y ts[k] (Mw q);obtain⟨a5,C⟩:=aj (sl.getD k Q_.zero);obtain⟨t,P⟩:=aj (ts[k]);rw[<-C] at c N A;rw[<-P] at h a3 B O;have⟨Q,R⟩:=aH C B;obtain⟨m,s,D⟩:=aF h.txt;obtain⟨a6,b4,v,E⟩:=bO h.txt;have S:a6=m:=by rw[D] at v;simp only[Nb] at v;exact v.1.symm
    rw[S] at E;have T:wr.rangeAt t.tb 0 (t.r.cells m s):=λj a7 U=>h.rng j a7 (by
     have e0:t.cells=t.r.cells m s++[.a t.cost,.slice t.sa t.steps.length t.sc,.a (t.op:Int),t.qv,.string t.bl]:=by
      unfold Zk.cells Q_.cells;rw[D]
      rfl
     rw[e0];have a8:=(Mr.1 U).1;rw[Np a8];exact U)
    have a9:=h.row.lt;have⟨b0,b1,b2⟩:=di T E A;clear C P B D v S h E A T;have V:=c 0 _ rfl;have c1:=c 1 _ rfl;have c2:=c 2 _ rfl;have c3:=c 3 _ rfl;have c4:=c 4 _ rfl;have c5:=c 5 _ rfl;have c6:=c 6 _ rfl;simp only[Ng] at V;clear c;go_wp2_with fail
    refine (Ah _ t.tb t.r a5 m xa s xc F8 (K_.range (ah wr _) a9 b0.o) O N (b1.o.kept (ah wr _)) (b2.o.kept (ah wr _))).mono ?_;rintro e w1 ⟨F,W⟩;have X:K_ w w1:=l.trans (K_.trans (ah wr _) W);clear W V c1 c2 c3 c4 c5 c6;rcases F.cases with⟨rfl,n⟩|⟨rfl,n⟩
    .have H:=Kz n;clear n F;go_wp2
     go_roundw
     case rel=>
      refine⟨k+1,E5,F3,Kz λj z=>?_,X⟩;by_cases e:j=k
      .rw[e,R.o,<-Q.o];exact H.o
      .exact M.o j E5
     case measure=>simp[intOf];omega
    .have H:=Kz n;clear n F;go_wp2
     go_ret
     refine⟨Says.no λe=>H.o ?_,X⟩;rw[<-R.o,Q.o,e]
   .go_wp2
    go_ret
    exact⟨Says.yes (IR (by rw[x.o];exact p.o) λj z=>M.o j (by have:=x.o;omega)),l⟩
 .have a1:((ts.length:Int) != (sl.length:Int))=true:=F6;have HN:=Kz i;clear i;go_wp2
  go_ret
  exact⟨Says.no λe=>HN.o (by rw[<-x.o,e]),K_.refl _⟩
end
attribute [local go_sem] Oper.semAt_some
section
variable {Kq:List Qz}{wz w w':NN}{bb:Nat}{a:NM}{cap:Nat}{rd:NM}{rn rc:Nat}{mb mx:Nat}{ts:List Zk}{d:NM}{dc:Nat}{f:NL -> NP}{ws:NL -> List Nat}
def LQ(Kx:Nat->Prop)(Kq:List Qz)(wz w:NN)(bb:Nat)(a:NM)(cap:Nat)(rd:NM)(rn rc:Nat)(mb:Nat)(Gl σ0:Env)(ts0:List Zk)(e:Ending)(w':NN):Prop:=∃(mx:Nat)(ts:List Zk)(d:NM)(dc:Nat)(f:NL->NP)(ws:NL->List Nat)(b:Bool),e=.returned (.bool b)/\BM (cZ.no wz) Kq wz w' bb a cap rd rn rc mb mx ts d dc f ws/\BS Kq ts ws/\mx+6*uq Kq ts<=9000/\(∃k,bf (Behind (W:=Kk Kq) dM Gl) (doX (Kk Kq)) σ0 (Qq (Qj ts)) k)/\(b=false->AtEnd (Behind (W:=Kk Kq) dM Gl) (Qq (Qj ts)))/\(b=true->uq Kq ts<uq Kq ts0)/\∀k,Kx k->w'.heap[k]? =w.heap[k]?/\wD w' bb mb ts f k
theorem Bd(hB:BM (cZ.no wz) Kq wz w bb a cap rd rn rc mb mx ts d dc f ws)(hS:BS Kq ts ws)(e9:bH (Kk Kq))(f0:∀y∈Kq,y.Fits)(c4:Kq.length<=60)(f1:f_ Kq)(hN:bQ wz a Kq)(f3:fU wz)(n:NM)(r:Nat)(sl:List Q_)(f4:sl.length<=1048576)(hA:dB sl)(hR:bN wz n sl)(σ0:Env)(f5:∃k,bf (Behind (W:=Kk Kq) dM (Qq sl)) (doX (Kk Kq)) σ0 (Qq (Qj ts)) k)(f6:mx+6*uq Kq ts<=9000)(Kx:Nat->Prop)(a9:∀k,Kx k->wD w bb mb ts f k):Calls prog 122 #[.c bb,.agg #[.slice n sl.length r,.func (.func 120) #[] #[]]] w λe w'=>LQ Kx Kq wz w bb a cap rd rn rc mb (Qq sl) σ0 ts e w':=by
 have⟨E,HS⟩:=aH hB hS;refine (callsIn_wide (n:=9)).1 ?_;refine callsIn_of_wp_marks func122 rfl trivial ?_ rfl;simp only[ntmps122,List.size_toArray,Nc,List.length_nil,Nat.reduceAdd,Nat.reduceSub,Array.replicate_succ,Array.replicate_zero,List.push_toArray,List.append_toArray,List.nil_append,List.cons_append]
 gi_wp2
 obtain⟨c,L⟩:∃c,((w.alloc (.cells #[.c bb] 88)).alloc (.cells #[.slice n sl.length r,.func (.func 120) #[] #[]] 180)).alloc (.cells #[.bool false] 4)=c:=⟨_,rfl⟩;rw[L];have K0:K_ w c:=by rw[<-L];exact ((ah _ _).alloc _).alloc _
 have z0:c.heap.size=w.heap.size+1+1+1:=by rw[<-L];simp
 have q0:=(xx (w:=w) (v:=.c bb) (t:=88) (w1:=c) (by rw[<-L];exact (ah _ _).alloc _)).1;have c5:=yN (w:=w.alloc (.cells #[.c bb] 88)) (v0:=.slice n sl.length r) (v1:=.func (.func 120) #[] #[]) (t:=180) (w1:=c) (by rw[<-L];exact ah _ _);have c6:=xx (w:=(w.alloc (.cells #[.c bb] 88)).alloc (.cells #[.slice n sl.length r,.func (.func 120) #[] #[]] 180)) (v:=.bool false) (t:=4) (w1:=c) (by rw[<-L];exact K_.refl _);simp only[MZ] at c5 c6;let⟨q1,q2⟩:=c5;let⟨q3,q4,q5⟩:=c6;have X:=E.o.kept K0;have i0:=E.o.len c4;have i1:=E.o.kw.size;obtain⟨x,Y⟩:∃x:Nat->Prop,x=λk=>k=w.heap.size\/k=w.heap.size+1\/d=some ⟨k,0,none⟩\/Kx k:=⟨_,rfl⟩
 obtain⟨Kc,b0⟩:∃Kc:Nat->Prop,Kc=λk=>k=w.heap.size+1+1:=⟨_,rfl⟩
 have f7:x w.heap.size:=by rw[Y];exact .inl rfl
 have c7:x (w.heap.size+1):=by rw[Y];exact .inr (.inl rfl)
 have c8:∀g,d=some ⟨g,0,none⟩->x g:=λg e=>by rw[Y];exact .inr (.inr (.inl e))
 have c9:∀k,Kx k->x k:=λk e=>by rw[Y];exact .inr (.inr (.inr e))
 have a4:Kc (w.heap.size+1+1):=by rw[b0]
 have f8:¬x (w.heap.size+1+1):=by
  rw[Y];rintro (e|e|e|e)
  .omega
  .omega
  .have:=(E.o.apart e).1;omega
  .have:=(a9 _ e).1;omega
 have d0:Hid (InB c.heap.size x Kc (Jj ts) c Kq wz c bb a cap rd rn rc mb mx ts d dc f ws):=InB.start X (λk z=>by
   have far:w.heap.size<=k->k<c.heap.size->k<c.heap.size/\k≠bb/\k≠mb/\(∀t∈ts,k≠t.tb/\k∉t.own)/\∀s,(f s).ownBlock≠some k:=λj l=>⟨l,E.o.far j⟩
   rw[Y,b0] at z;rcases z with (e|e|e|e)|e
   .exact far E5 E5
   .exact far E5 E5
   .exact X.apart e
   .have j:=a9 k e;exact⟨by have:=j.1;omega,j.2⟩
   .exact far E5 E5)
  (λk z=>by rw[b0] at z;rw[z];exact⟨E5,_,q5,E8⟩)
  (λp M=>by obtain⟨t,N,rfl⟩:=MM.1 M;exact⟨t,N,rfl,rfl⟩)
 have b1:=X.items;have i2:=E.o.row.lt;have d1:=X.c3;have f9:=Kz X;refine nW (mf bb d ts.length dc (ig ts) E5) rfl (enters_of func71 F4 rfl) (vL E5) d1 (λ_=>rfl)
  (ApI c.heap.size x Kc c Kq wz bb a cap rd rn rc mb ts (Qq sl) σ0 (w.heap.size+1+1))
  (λ_ _=>False) (λi=>ApI.calm a4) (λ_=>rH _) ⟨mx,ts,d,dc,f,ws,false,d0.o,HS.o,oI.start f5,f6,q3,q4⟩
  (λi=>{tmps:= #[.c bb,.agg #[.slice n sl.length r,.func (.func 120) #[] #[]],.c w.heap.size,.c (w.heap.size+1),.bool false,.c (w.heap.size+1+1),.c (ig ts i),undef,undef,.c bb,.func (.func 71) #[.c bb] #[],.c (ig ts i),undef,undef,undef,undef,undef,undef,undef,undef,undef,undef,undef,undef,undef,undef,undef,undef,undef,undef,undef,undef,undef,undef,undef,undef],defers:=[]})
  ?assign (λi=>qp λg e=>by have:=(E.o.apart e).1;omega) ?step ?done ?stop
 case assign=>
  intro a5 i W i3 hK
  gi_wp2
  exact hK
 case stop=>
  intro g0 i4 W _ O _;exact O.elim
 case done=>
  rintro g0 W hD ⟨A,m,P,Q,R,S,F,h,q,G,H,Z,a0⟩ d3;have I:=Kz (h.calm (.deferred none) hD d3 rfl);have⟨a1,T⟩:=aH q G;clear h q G
  gi_wp2
  refine⟨E9,.inl ⟨_,_,rfl,run_takeDeferred d3,?_⟩⟩;refine⟨_,results_tmp rfl _ _ _,A,m,P,Q,R,S,F,rfl,I.o.bm.no,a1.o,H,T.o.led,λe=>?_,λe=>?_,λk z=>⟨(I.o.same k (c9 k z)).trans (K0.block k (a9 k z).1),I.o.bm.oth.apart (.inl (c9 k z))⟩⟩
  .subst e;have U:=T.o;have g1:ts.length= (DW ts).length:=by simp[DW]
   rw[g1] at U;refine U.JG λi5 b2 J=>?_;let⟨g2,g3⟩:=aZ J;obtain⟨t,N,rfl⟩:=MM.1 g2;exact MM.2 ⟨t,N,g3⟩
  .exact T.o.yes e
 case step=>
  rintro i W hi ⟨A,m,P,Q,R,S,F,h,q,G,H,Z,a0⟩;rcases h.sees q b1 c8 hi with⟨hv,J⟩|⟨hn,J⟩;rotate_left
  .exact .inr ⟨hn,A,m,P,Q,R,S,F,h,q,G.skip λO=>J O.1,H,Z,a0⟩
  refine .inl ⟨hv,?_⟩;clear J hv a0 Z H G q h F S R Q P m A;rintro a5 W hv ⟨A,m,P,Q,R,S,F,h,q,G,H,Z,a0⟩ hz;rcases h.sees q b1 c8 hi with⟨_,J⟩|⟨hn,_⟩;rotate_left
  .exact (Hy hv hn).elim
  let⟨i6,t,hj,e1,e2⟩:=h.eZ hi;have N:=ME hj;have hT:=h.bm.eZ t N;have g4:=hT.row.lt;have b3:=bJ h.bm.asc (Nk N);have d4:aS (Kk Kq) (Qq (Qj m)) t.r:=by
   let⟨b2,j,l⟩:=J;rw[<-e2,b3] at j;cases j;exact l
  have t0:M4 W t.tb 0 (.string t.r.name):=hT.rng 0 _ rfl;have t5:M4 W t.tb 5 (.a t.r.Zq):=hT.rng 5 _ rfl;rw[<-e1];have p0:M4 W w.heap.size 0 (.c bb):=(MC (w:=c) (h.same _ f7)).trans q0;have p1:M4 W (w.heap.size+1) 0 (.slice n sl.length r):=(MC (w:=c) (h.same _ c7)).trans q1;have p2:M4 W (w.heap.size+1) 1 (.func (.func 120) #[] #[]):=(MC (w:=c) (h.same _ c7)).trans q2;have⟨I,a1,T,HJ,d5⟩:=jh h q G hj d4;have⟨a6,d6⟩:=aH b3 e2;have d7:=hR.kept h.bm.kw;clear h q G hj d4 b3 e2 hT N J hv q0 q1 q2 q3 q4 q5 b1 d0 E HS f9 d1 L e1;have hd:1<=7:=E5;have i7:prog.follows .mixedOrders=true:=F4
  gi_wp2
  rename_i Q1 K1 hK1
  have d8:∀(w2:NN)(p:Nat)(B:Bool),K_ W w2->p<=sl.length->(if B then p<sl.length/\Qq sl t.r.name=some (sl.getD p Q_.zero) else Qq sl t.r.name=none)->K1 {tmps:= #[.c bb,.agg #[.slice n sl.length r,.func (.func 120) #[] #[]],.c w.heap.size,.c (w.heap.size+1),.bool false,.c (w.heap.size+1+1),.c t.tb,.a (p:Int),.bool B,.c bb,.func (.func 71) #[.c bb] #[],.c t.tb,.tuple #[.a (p:Int),.bool B],.agg #[.slice n sl.length r,.func (.func 120) #[] #[]],.c t.tb,.c t.tb,.c t.tb,.c t.tb,.string t.r.name,.tuple #[.a (p:Int),.bool B],.a (p:Int),.bool B,undef,undef,undef,undef,undef,undef,undef,undef,undef,undef,undef,undef,undef,undef],defers:=[]} w2:=by
   intro w2 p B C M V;apply hK1;have y1:w.heap.size<W.heap.size:=E5;have y2:w.heap.size+1<W.heap.size:=E5;have y3:w.heap.size+1+1<W.heap.size:=E5;have r0:=(C.cell (o:=0) y1).trans p0;have r1:=(C.cell (o:=0) y2).trans p1;have r2:=(C.cell (o:=1) y2).trans p2;have r5:=(C.cell (o:=5) g4).trans t5;have s2:=C.size;have g5:t.tb<w2.heap.size:=E5;have⟨a2,HP,b4,b5,Hz⟩:=jh C M Z a0 z0;clear p0 p1 p2 t0 t5 C M Z a0 hK1 z0;cases B with
   |false=>
    have b6:=Kz V;clear V
    gi_wp2
    refine⟨trivial,?_⟩
    gi_wp2
    refine⟨iq a2.o _,A,m,P,Q,R,S,F,I.o.kept a2.o,a1.o,T.o.skip λO=>?_,H,(a2.o.cell y3).trans b4.o,(a2.o.rules.2 _ _ y3).trans b5.o⟩;let⟨_,b2,g,_,l,_⟩:=O;rw[<-d6.o] at l;have U:=b6.o;simp only[Bool.false_eq_true,if_false] at U;rw[U] at l;cases l
   |true=>
    simp only[if_true] at V;let⟨g6,d9⟩:=V;let⟨b,o,xa,xc,g7,i8,K,i9,_⟩:=(d7.kept a2.o) p g6;subst g7;generalize sl.getD p Q_.zero=e0 at *;have e3:=Kz d9;have c0:=K 0 _ rfl;have c1:=K 1 _ rfl;have c2:=K 2 _ rfl;have c3:=K 3 _ rfl;have g8:=K 4 _ rfl;have g9:=K 5 _ rfl;have h0:=K 6 _ rfl;simp only[Ng] at c0;clear K d9
    gi_wp2_with fail
    refine⟨trivial,(CallsIn.inRound a5 (callsIn_wide.2 (Er w2 t.tb t.r e0 xa xc g5 r5))).mono ?_⟩;rintro e w3 ⟨b7,k3⟩;have D:=Kz (a2.o.trans k3);have v0:=(k3.cell (o:=0) E5).trans r0;clear c0 c1 c2 c3 g8 g9 h0 r0 r1 r2 r5;rcases b7.cases with⟨rfl,a3⟩|⟨rfl,a3⟩
    .have a7:Hid (Behind (W:=Kk Kq) dM (Qq sl) (Qq (Qj m)) t.r.name):=⟨⟨t.r,a6.o,d5.o⟩,t.r,e0,a6.o,e3.o,a3⟩;clear a3 b7
     gi_wp2_with fail
     refine⟨trivial,(CallsIn.inRound a5 (callsIn_wide.2 (uJ (I.o.kept D.o).told a1.o HJ.o d5.o e9 f0 c4 f1 hN E5 f3))).mono ?_⟩;rintro e w4 ⟨rfl,e4,d2,h1,f2,h2,e5,e6,b8⟩;let⟨e7,e8,a8⟩:=(I.o.kept D.o).did e5;have hw:=a1.o.good.wf;have h3:=(m_ hw a7.o.1 (Kq.map (·.name))).2 (l_ (hw _ _ a6.o).web);have h4:A+6+6*uq Kq e4<=9000:=by
      unfold uq at H⊢;rw[b8];omega
     have b9:=T.o.did hw a7.o;rw[<-b8] at b9;have u0:M4 w4 (w.heap.size+1+1) 0 (.bool F):=(MC (w:=w3) (a8 _ a4)).trans ((D.o.cell y3).trans b4.o);have u1:w4.frozen? ⟨w.heap.size+1+1,0,none⟩=false:=(World.frozen?_of_block (w:=w3) (a8 _ a4)).trans ((D.o.rules.2 _ _ y3).trans b5.o);have⟨h5,h6,h7,h8,j0⟩:=jh e7 e6 b9 e8 a8;clear e5 b8 e7 e6 b9 e8 a8 h3 v0 k3
     gi_wp2
     refine⟨((iq D.o _).trans h8.o).trans ((KeepsOthers.setCell _ _ _).from _),A+6,e4,d2,h1,f2,h2,true,h5.o.store (p:=⟨w.heap.size+1+1,0,none⟩) a4 f8 _,h6.o,h7.o,h4,Ns _ _ _ u0,?_⟩;rw[World.frozen?_setCell];exact u1
    .have a7:=Kz a3;clear a3 b7 k3
     gi_wp2
     refine⟨iq D.o _,A,m,P,Q,R,S,F,I.o.kept D.o,a1.o,T.o.skip λO=>?_,H,(D.o.cell y3).trans b4.o,(D.o.rules.2 _ _ y3).trans b5.o⟩;let⟨_,b2,g,j,l,U⟩:=O;rw[<-d6.o] at j l;rw[a6.o] at j;rw[e3.o] at l;cases j;cases l;exact a7.o U
  have h9:=Kz d8;clear d8
  gi_region_with_o (refine⟨trivial,?_⟩;gi_at_call 165;refine (CallsIn.inRound a5 (callsIn_wide.2 (FI _ n r sl t.r.name f4 hA (d7.kept (aY W))))).mono ?_;rintro e w2 ⟨⟨p,B,rfl,M,V⟩,C⟩;have HP:=Kz M;have b6:=Kz V;clear M V)
  all_goals exact h9.o _ p B ((K_.refl W).drew.trans C) HP.o b6.o
end
theorem GH{e:Ending}{P:Prop}(h:Says e P):∃b:Bool,e=.returned (.bool b)/\(b=true↔P):=by
 rcases h.cases with⟨rfl,a⟩|⟨rfl,a⟩
 .exact⟨true,rfl,by simp[a]⟩
 .exact⟨false,rfl,by simp[a]⟩
theorem fU.kept{w wz:NN}(h:fU w)(k:K_ w wz):fU wz:=λW give a b l c d e f i=>h W give a b l (k.trans c) d e f i
def ResB(Kq:List Qz)(Kj:List NL)(sl:List Q_)(a:NM)(cap:Nat)(rd:NM)(rc:Nat)(w w':NN)(e:Ending):Prop:=K_ w w'/\((¬(bE Kq 0/\eP Kj/\dB sl)/\e=.returned (.tuple #[.pointer none,.bool false]))\/
  (bE Kq 0/\eP Kj/\dB sl/\∃(wz:NN)(bb mb mx:Nat)(ts:List Zk)(d:NM)(dc:Nat)(f:NL->NP)(ws:NL->List Nat)(b:Bool),e=.returned (.tuple #[.c bb,.bool b])/\K_ w wz/\BM (cZ.no wz) Kq wz w' bb a cap rd Kj.length rc mb mx ts d dc f ws/\BS Kq ts ws/\mx<=9000/\(b=true↔Qj ts=sl)/\
   (∃k,bf (Behind (W:=Kk Kq) dM (Qq sl)) (doX (Kk Kq)) (Qq (bu Kq Kj)) (Qq (Qj ts)) k)/\AtEnd (Behind (W:=Kk Kq) dM (Qq sl)) (Qq (Qj ts))))
theorem kK(w:NN)(a:NM)(cap:Nat)(Kq:List Qz)(rd:NM)(rc:Nat)(Kj:List NL)(b:NM)(c:Nat)(sl:List Q_)(hl:Kq.length<=1048576)(hf:∀s∈Kq,s.Fits)(c2:Kj.length<=maxLen)(c3:Kj.length<=rc)(c4:∀s∈Kj,s.size<=maxLen)(P:sl.length<=1048576)(c5:∀r∈sl,r.texts.length<=1048576)(hS:bQ w a Kq)(hR:Strs w rd Kj)(Q:bN w b sl)(c6:fU w):Calls prog 68 #[.agg #[.slice a Kq.length cap],.agg #[.slice rd Kj.length rc,.slice b sl.length c]] w λe w'=>ResB Kq Kj sl a cap rd rc w w' e:=by
 go_enter func68,ntmps68
 go_wp2_with fail
 have p:K_ w ((w.alloc (.cells #[.slice a Kq.length cap] 25)).alloc (.cells #[.slice rd Kj.length rc,.slice b sl.length c] 43)):=(ah _ _).alloc _;refine (xU _ a cap Kq rd rc Kj hl hf c2 c3 c4 (hS.kept p) (hR.kept p)).mono ?_;rintro e q ⟨A,c7⟩;have R:=p.trans A;have c8:=A.size;simp only[MZ] at c8;have q1:=yN (w:=w.alloc (.cells #[.slice a Kq.length cap] 25)) A;simp only[MZ] at q1;let⟨p0,p1⟩:=q1;have c9:w.heap.size+1<q.heap.size:=E5;rcases c7 with⟨a4,rfl⟩|⟨hW,a5,B,l,C,t,d0,dc,rfl,D,S,a6,a7⟩
 .have T:=Kz a4;go_wp2
  go_ret2
  exact⟨R.alloc _,.inl ⟨λm=>T.o ⟨m.1,m.2.1⟩,rfl⟩⟩
 have⟨E,d1,U,d3,d4⟩:=jh hW a5 S a6 a7;have v:=p.trans D;have V:=yN (w:=w.alloc (.cells #[.slice a Kq.length cap] 25)) D;simp only[MZ] at V;have sz:=V.2;have d5:w.heap.size+1<B.heap.size:=by have:=D.size;simp only[MZ] at this;omega
 clear V;have f4:=S.row.lt;clear hW a5 S a6 a7 p A D;go_wp2_with fail
 refine (CL _ b c sl P (Q.kept (R.alloc _))).mono ?_;rintro e F ⟨n,x⟩;have K2:K_ w F:=(R.alloc _).trans x;have a8:K_ q F:=K_.trans (ah _ _) x;have a9:=x.size;simp only[MZ] at a9;have q2:=yN (w:=q) x;let⟨g0,g1⟩:=q2;rcases n.cases with⟨rfl,y⟩|⟨rfl,y⟩;rotate_left
 .have T:=Kz y;go_wp2
  go_ret2
  exact⟨K2,.inl ⟨λm=>T.o m.2.2,rfl⟩⟩
 have f5:=(a8.cell (o:=1) c9).trans p1;have b0:=gy E.o;have f6:uq Kq t<=1380:=by
  have:=zm (Kq.map (·.name)) (Qq (Qj t));rw[Nt] at this;unfold uq;omega
 have HA:=Kz y;have d6:=Kz (U.o.kept a8);have b1:Hid (wD F l C t (λ_=>.slice none 0 0) q.heap.size):=⟨E5,U.o.far (Mj _)⟩;clear y n U p0 p1 x;let⟨d,G⟩:=aj q.heap.size;rw[<-G] at g0 g1 a9 b1;have f7:d<F.heap.size:=E5;go_wp2_with fail
 rw[<-G];have f8:=Kz G;clear G;go_loopg [28] (uq Kq t) (λgg f9 wr=>∃(X:Nat)(i:List Zk)(d2:NM)(b2:Nat)(Y:NL->NP)(Z:NL->List Nat),M4 wr d 0 (.slice b sl.length c)/\M4 wr d 1 (.func (.func 120) #[] #[])/\Hid (wD wr l C i Y d)/\Hid (BM (cZ.no B) Kq B wr l a cap rd Kj.length rc C X i d2 b2 Y Z)/\Hid (BS Kq i Z)/\X+6*uq Kq i<=9000/\gg=uq Kq i/\Hid (∃H,bf (Behind (W:=Kk Kq) dM (Qq sl)) (doX (Kk Kq)) (Qq (bu Kq Kj)) (Qq (Qj i)) H))
 case atStart=>exact⟨0,t,d0,dc,_,_,g0,g1,b1,d6,d3,E5,rfl,Kz ⟨0,by rw[d4.o];exact .here _⟩⟩
 case round=>
  obtain⟨X,i,d2,b2,Y,Z,v0,v1,d7,d8,d9,e0,rfl,e1⟩:=hrel;obtain⟨wO,rfl⟩:=aj wr;go_wp2_with fail
  refine (Bd d8.o d9.o (bV E.o) hf b0 (rD E.o) (hS.kept v) (c6.kept v) b c sl P HA.o (Q.kept v) (Qq (bu Kq Kj)) e1.o e0 (λH=>H=d) λH hk=>by rw[hk];exact d7.o).mono ?_;rintro e f ⟨b3,z,I,J,f3,b4,e2,rfl,j,b5,e3,b6,b7,a0,L⟩;let⟨a1,L⟩:=L d rfl;have u0:=(MC (w:=wO) (a:=⟨d,0,none⟩) a1).trans v0;have u1:=(MC (w:=wO) (a:=⟨d,1,none⟩) a1).trans v1;have K3:=v.trans j.kw;have⟨M,N,b8,e4,e5⟩:=jh j b5 b6 b7 L;have e6:=j.c3;have e7:=j.row.lt;have g2:=j.kw.size;have s3:=(j.kw.cell (o:=1) d5).trans sz;have e8:w.heap.size+1<f.heap.size:=E5;clear j b5 b6 b7 L a1;cases e2;rotate_left
  .have e9:=a0 rfl;go_wp2
   go_roundg (uq Kq z)
   case measure=>exact e9
   case rel=>exact⟨b3,z,I,J,f3,b4,u0,u1,e5,M,N,e3,rfl,b8⟩
  .clear a0;have g3:=M.o.len b0;go_upto_region 6 with fail
   have b9:∀w',K_ f w'->(λw'=>M4 w' l 3 (.slice I z.length J)/\M4 w' (w.heap.size+1) 1 (.slice b sl.length c)) w':=λw' kk=>⟨(kk.cell e7).trans e6,(kk.cell e8).trans s3⟩
   have a2:=Kz b9;refine Qk.region F4 (λw'=>M4 w' l 3 (.slice I z.length J)/\M4 w' (w.heap.size+1) 1 (.slice b sl.length c)) 10 (a2.o _ (aY f)) λa3=>?_;have k:=aY f;generalize f0:f.drew=wd at a3 k⊢;clear f0;refine ak 0 a3 ?_;refine ak 4 a3 ?_;refine aG 8 λK h=>?_;go_simp
   go_at_call 123
   refine (xL (M.o.kept k) E5 (λc0 ht=>by have g4:=(N.o.good.good c0.r (Nk ht)).tl;have h2:=(N.o.good.good c0.r (Nk ht)).hi;omega) b c sl P c5 ((Q.kept K3).kept k)).mono ?_;rintro e w4 ⟨n,O⟩;obtain⟨f1,rfl,c1⟩:=GH n;have f2:=Kz c1;refine af h (λ_=>a2.o _ (k.trans O)) ?_;refine ai 9 λK h=>?_;go_simp
   refine af h (λ_=>a2.o _ (k.trans O)) ?_;refine ai 10 λK h=>?_;go_simp
   refine af h (λm=>NB rfl m) ?_;refine aC ?_;go_wp2
   go_ret2
   refine⟨(K3.trans k).trans O,.inr ⟨E.o,d1.o,HA.o,B,l,C,b3,z,I,J,f3,b4,f1,rfl,v,M.o.kept (k.trans O),N.o,E5,f2.o,b8.o,e4.o (by trivial)⟩⟩
theorem EN.good{Kq:List Qz}{Kj:List NL}{sl:List Q_}(h:EN Kq Kj sl):dW Kq sl:=by
 obtain⟨k,L,b,_,_,rfl⟩:=h;exact b
theorem mV{Kq:List Qz}{Kj:List NL}{sl:List Q_}{ts:List Zk}{ws:NL->List Nat}(d:bE Kq 0)(j:eP Kj)(b:BS Kq ts ws)(l:∃k,bf (Behind (W:=Kk Kq) dM (Qq sl)) (doX (Kk Kq)) (Qq (bu Kq Kj)) (Qq (Qj ts)) k)(c:AtEnd (Behind (W:=Kk Kq) dM (Qq sl)) (Qq (Qj ts))):Qj ts=sl↔bR Kq Kj sl:=by
 have f:=(gX (bV d) Kj).wf;let⟨k,h⟩:=l;constructor
 .intro e;refine⟨d,j,by rw[<-e];exact b.good.len,k,sl,by rw[<-e];exact b.good,?_,?_,rfl⟩
  .have a:=vV (W:=Kk Kq) (τ :=Qq (Qj ts)) (G:=Qq sl) (by rw[e]) f h;rw[e] at a;exact a
  .rw[e] at c;exact λn i=>c n ⟨i.1,by let⟨r,g,a,m,p⟩:=i.2;exact⟨r,g,a,m,zT p⟩⟩
 .rintro⟨_,_,_,v,L,q,s,t,rfl⟩;exact Be b.good.asc q.asc ((GG f s t h c).2 rfl)
theorem lC(w:NN)(a:NM)(cap:Nat)(Kq:List Qz)(rd:NM)(rc:Nat)(Kj:List NL)(c:NM)(d:Nat)(sl:List Q_)(t:Kq.length<=1048576)(v:∀s∈Kq,s.Fits)(x:Kj.length<=maxLen)(y:Kj.length<=rc)(z:∀s∈Kj,s.size<=maxLen)(A:sl.length<=1048576)(B:∀r∈sl,r.texts.length<=1048576)(C:bQ w a Kq)(D:Strs w rd Kj)(E:bN w c sl)(F:fU w):Calls prog 21 #[.agg #[.slice a Kq.length cap],.agg #[.slice rd Kj.length rc,.slice c sl.length d]] w λe w'=>Jd e (bR Kq Kj sl)/\K_ w w':=by
 have b:K_ w ((w.alloc (.cells #[.slice a Kq.length cap] 25)).alloc (.cells #[.slice rd Kj.length rc,.slice c sl.length d] 43)):=(ah _ _).alloc _;go_enter func21,ntmps21
 go_wp2_with fail
 refine (kK _ a cap Kq rd rc Kj c d sl t v x y z A B (C.kept b) (D.kept b) (E.kept b) (F.kept b)).mono ?_;rintro e N ⟨f,G⟩;have i:=b.trans f;rcases G with⟨j,rfl⟩|⟨k,l,H,O,P,Q,R,S,T,U,V,W,I,rfl,J,K,m,X,n,p,q⟩
 .have L:=Kz j;go_wp2
  go_ret
  exact⟨⟨false,rfl,by simp only[Bool.false_eq_true,false_iff];exact λh=>L.o ⟨h.1,h.2.1,h.2.2.2.good.asc⟩⟩,i⟩
 .have M:=Kz (n.trans (mV k l m p q));clear k l H J K m n p q f b;go_wp2
  go_ret
  exact⟨⟨I,rfl,M.o⟩,i⟩
section
variable {P:Program}{ops:Array Oper}{Q:Exit -> Act -> NN -> Prop}{md:Region.Mode}{l m:Nat}
theorem El{row:String}{args:Array NP}{w:NN}{R:NP->NN->Prop}(h:Rows P row args w R):RowsIn (Fence.wide.inRound l) m P row args w R:=λc a _=>by
 let⟨v,b,r,s⟩:=h c a;exact⟨v,b,r,stepsIn_wide.2 s⟩
theorem GV(_hQ:¬LetsOut Q){o:Oper}(f:∀c:Call,o.op≠ .defer c){a:Act}{w:NN}{K:Act->NN->Prop}(h:o.wp P a w K Q):o.wpIn (Fence.wide.inRound l) m P a w K Q:=by
 refine⟨λ_ _=>trivial,?_⟩;have e:o.semAt (Fence.wide.inRound l).round a.eval=execOp a.eval o:=Oper.semAt_eq _ _ _ f;rw[e];unfold Oper.wp at h;generalize (execOp a.eval o).run P w=r at *;cases r with
 |ok x w'=>
  cases x<;>simp only[Oper.upon,Oper.uponIn] at h⊢ <;>
   first
    |exact h
    |exact⟨λd=>(by cases d),CallsIn.inRound l (callsIn_wide.2 h)⟩
    |exact⟨λd=>(by cases d),El h⟩
 |halt x w'=>cases x<;>simp only[Oper.upon,Oper.uponIn] at h⊢<;>exact h
theorem qE(d:¬LetsOut Q)(e:∀(i:Nat)(o:Oper),ops[i]? =some o->∀c:Call,o.op≠ .defer c):∀(n:Nat)(up:Array Bool)(a:Act)(w:NN),wpAny P md ops Q n up a w->wpAnyIn (Fence.wide.inRound l) m P md ops Q n up a w
 |0,_,_,_,h=>h
 |n+1,up,a,w,h=>by
  refine⟨h.1,λk j=>?_⟩;have b:=h.2 k j;unfold wpOp at b;unfold wpOpIn;cases f:ops[k]? with
  |none=>
   rw[f] at b;exact qE d e n _ _ _ b
  |some o=>
   rw[f] at b;simp only at b⊢
   split
   .rename_i hw
    rw[Nz hw] at b;rcases b with b|⟨_,b⟩
    .exact Oper.wpIn_mono (λp u g=>qE d e n _ p u g) (GV d (e k o f) b)
    .exact (d b).elim
   .rename_i hw
    rw[NA hw] at b;exact⟨λ_ _=>trivial,qE d e n _ _ _ b⟩
def AP(ops:Array Oper):Bool:=ops.all λo=>match o.op with|.defer _=>false|_=>true
theorem Ev{ops:Array Oper}(h:AP ops=true)(i:Nat)(o:Oper)(a:ops[i]? =some o)(c:Call):o.op≠ .defer c:=by
 intro e;unfold AP at h;rw[Array.all_eq_true] at h;obtain⟨b,rfl⟩:=MX.1 a;have:=h i b;rw[e] at this;cases this
theorem Az{id:Nat}{a:Act}{w:NN}(b:P.follows .mixedOrders=true)(c:AP ops=true)(d:¬LetsOut Q)(S:NN->Prop)(z:Nat)(f:S w.drew)(h:S w.drew->Qk P .any ops Q S z ops.size (Array.replicate ops.size false) a w.drew):(Code.region id ops true).wpIn (Fence.wide.inRound l) m P Q a w:=wpIn_region_any b (qE d (Ev c) _ _ _ _ (Qk.any _ _ _ _ (h f)))
end
variable {n:Nat}{w:NN}
theorem wB{base base':Nat}{e:TypeId}{size:Nat}{v:NP}{a:List NP}(h:w.ownsRow base e size v n a)(b:base'<=base):w.ownsRow base' e size v n a:=by
 refine⟨h.1,?_⟩;rcases h.2 with c|⟨g,d,f,i,j,k⟩
 .exact .inl c
 .exact .inr ⟨g,d,f,i,Mm b j,k⟩
def IL(w w':NN)(v v':NP)(l r:List NL):Prop:=∀B,B<=w.heap.size->w.ownsRow B 9 1 v l.length (l.map Value.string)->w'.ownsRow B 9 1 v' r.length (r.map Value.string)
theorem Fy(w:NN)(b o cap:Nat)(l:List NL)(x:NL)(hl:l.length<=100000)(e5:l.length<=cap)(ha:qJ l)(Q:Strs w (some ⟨b,o,none⟩) l):Calls prog 52 #[.slice (some ⟨b,o,none⟩) l.length cap,.string x] w λe w'=>∃p q c' r,e=.returned (.slice (some ⟨p,q,none⟩) r.length c')/\r.length<=c'/\Jk l x r/\Strs w' (some ⟨p,q,none⟩) r/\IL w w' (.slice (some ⟨b,o,none⟩) l.length cap) (.slice (some ⟨p,q,none⟩) r.length c') l r/\K_ w w':=by
 have HA:=Kz ha;clear ha;go_enter func52,ntmps52
 go_wp2
 go_loop [5] (λn=>∃k:Nat,k<=l.length/\n=.a k/\Hid (∀v∈l.take k,aQ v x)) (λn=>l.length-(intOf n).toNat)
 case atStart=>exact⟨0,Ml _,rfl,Kz λv S=>by cases S⟩
 case round=>
  obtain⟨k,hk,rfl,T⟩:=hrel;by_cases R:k<l.length
  .obtain⟨b1,o1,U,hb,hc⟩:=Q k R;cases U;obtain⟨v,S⟩:=aj (l.getD k ByteArray.empty);rw[<-S] at hc;have d9:l[k]=v:=by rw[S];simp[List.getD,R]
   have HY:=Kz d9;clear S d9;have f5:(k:Int)<(l.length:Int):=E5;cases e0:(Op.bytesLess v.toList x.toList)
   .have a9:=Kz e0;cases e1:(v.toList == x.toList)
    .have b0:=Kz e1;have V:Hid (∀y∈l.drop k,aQ x y):=λy i=>by
      have e3:aQ x v:=by
       rcases dR x v with g|g|g
       .exact g
       .exact NB g.symm (jN b0.o)
       .unfold aQ at g;rw[a9.o] at g;cases g
      rw[Nw R,HY.o] at i;rcases Nh.1 i with rfl|i
      .exact e3
      .obtain⟨e6,hj,rfl⟩:=MB i;rw[List.getElem_drop];have h2:=Mx.1 HA.o k (k+1+e6) R (by simp at hj;omega) E5;rw[HY.o] at h2;exact gm e3 h2
     have b2:Hid (x∉l):=λh=>by
      rw[<-Nr k l] at h;rcases Mv.1 h with h|h
      .exact a_ x (T.o x h)
      .exact a_ x (V.o x h)
     obtain⟨a,c,j,b3⟩:∃a c,l=a++c/\k=a.length:=⟨l.take k,l.drop k,(Nr k l).symm,F6⟩;subst b3;have b4:Hid (Jk l x (a++x :: c)):=by
      have U:l.take a.length=a:=by rw[j];simp
      have e2:l.drop a.length=c:=by rw[j];simp
      refine .inr ⟨b2.o,a.length,hk,by rw[U,e2],T.o,V.o⟩
     have b5:l.length=a.length+c.length:=by rw[j,M_]
     have b6:Hid (∀W,K_ w W->Strs W (some ⟨b,o,none⟩) a):=λW K n X=>by
      obtain⟨p,q,z,A,B⟩:=(Q.kept K) n E5;refine⟨p,q,z,A,?_⟩;rw[B,j];simp[List.getD,Np X]
     have Y:Hid (∀W,K_ w W->Strs W (if cap=a.length then (some ⟨b,o,none⟩:NM) else some ⟨b,o+a.length,none⟩) c):=λW K n X=>by
      obtain⟨p,q,z,A,B⟩:=(Q.kept K) (a.length+n) E5;cases z;rw[NA E5];refine⟨b,o+a.length,rfl,A,?_⟩;rw[Nat.add_assoc,B,j];simp[List.getD,Nq]
     have Z:l.length-a.length=c.length:=E5;have e7:a.length<=cap:=E5;have e8:a.length<=l.length:=E5;have e9:a.length<=100000:=E5;have f0:c.length<=100000:=E5;have b7:=Kz Z;obtain⟨C,D,E,F,G⟩:=aW Tryz.fA;have a0:Hid ((w.alloc (.cells #[] 9)).ownsRow w.heap.size 9 1 (.b w.heap.size 0 0) 0 (([]:List NL).map Value.string)):=MQ w #[] 0 (Mj _) (Ml _) rfl;have b8:w.heap.size<=(w.alloc (.cells #[] 9)).heap.size:=E9;have a1:Hid (K_ w (w.alloc (.cells #[] 9))):=ah _ _;clear j b5 Z;go_upto_region 7 with (at_builtin;refine gB rfl (.tmp 34) (.tmp 37) 26 rfl w.heap.size 9 C _ 16 underlying26 D E F G rfl (.b w.heap.size 0 0) 0 (([]:List NL).map Value.string) rfl a0.o (some ⟨b,o,none⟩) cap a rfl (b6.o _ a1.o) F5 E5 b8 ?_;intro v1 s t a2 b9;rw[MR] at t;have c0:=Kz t;have c1:=aK a1.o (Mj _) a0.o a2;obtain⟨c2,c3,rfl⟩:=aF t;clear t a2 b9)
     refine Qk.region F4 (λ_=>True) 8 trivial λm=>?_;have KD:=aY s;generalize c4:s.drew=f at KD⊢;clear c4;refine ae 0 m ?_;refine ae 1 m ?_;refine ae 4 m ?_;refine ae 5 m ?_;refine ae 6 m ?_;generalize hgd:(if cap=a.length then (some ⟨b,o,none⟩:NM) else some ⟨b,o+a.length,none⟩)=c5 at Y⊢;clear hgd;refine ai 2 λK d=>?_;go_simp
     have K5:K_ f (f.alloc (.cells #[.string x] 9)):=ah _ _;have H:Hid (Strs (f.alloc (.cells #[.string x] 9)) (some ⟨f.heap.size,0,none⟩) [x]):=λc6 hq=>by
      obtain rfl:c6=0:=by simpa using hq
      exact⟨f.heap.size,0,rfl,E9,X_ f #[.string x] 9 0 _ rfl⟩
     refine d.out _ _ (λ_=>trivial) ?_;clear d K m;have I:=KD.trans K5;have J:=Kz (au c0.o I);obtain⟨eb,a3⟩:=aj f.heap.size;rw[<-a3] at H⊢;generalize c7:f.alloc (.cells #[.string x] 9)=w5 at H I J⊢;clear c7 K5 a3;have a4:=c1.trans I;have c8:=a4.size;try simp only[upP]
     refine aG 3 λK d=>?_;refine fw (.tmp 39) (.tmp 41) 26 rfl w.heap.size 9 C _ 16 underlying26 D E F G rfl (.slice c2 a.length c3) a.length (([]:List NL).map Value.string++a.map Value.string) rfl J.o (some ⟨eb,0,none⟩) 1 [x] rfl H.o J4 F6 c8 ?_;intro v6 w6 L a5 c9;have a6:=Kz L;have M:=aK a4 (Mj _) J.o a5;obtain⟨d0,d1,rfl⟩:=aF L;have d2:=M.size;refine af d (λ_=>trivial) ?_;clear d K L a5 c9;refine aG 7 λK d=>?_;refine fw (.tmp 42) (.tmp 45) 26 rfl w.heap.size 9 C _ 16 underlying26 D E F G rfl (.slice d0 (a.length+[x].length) d1) (a.length+[x].length) ((([]:List NL).map Value.string++a.map Value.string)++[x].map Value.string) rfl a6.o c5 (cap-a.length) c (by rw[<-b7.o];rfl) (Y.o _ M) J4 F6 d2 ?_;intro v7 w7 a7 a8 d3;have d4:=Kz a7;have d5:=aK M (Mj _) a6.o a8;refine af d (λ_=>trivial) ?_;clear d K a7 a8 d3;refine ai 8 λK d=>?_;go_simp
     refine af d (λh=>NB rfl h) ?_;clear d K;refine aC ?_;go_wp2
     go_ret
     have d6:(a++x :: c).length=a.length+[x].length+c.length:=F6;have N:w7.ownsRow w.heap.size 9 1 v7 (a++x :: c).length ((a++x :: c).map Value.string):=by
      have h:=d4.o;rw[d6];have e:(a++x :: c).map Value.string= ((([]:List NL).map Value.string++a.map Value.string)++[x].map Value.string)++c.map Value.string:=E9;rw[e];exact h
     rcases N.2 with⟨_,h0⟩|⟨g,d7,f1,O,_,_,d8,_,_,_⟩
     .simp at h0
     .obtain⟨f2,f3,P,h9⟩:=bO N;rw[O] at P;simp only[Nb,true_and] at P;rw[<-P.1] at h9;exact⟨g,0,d7,_,by rw[O];rfl,d8,b4.o,h9,λf4 hB _=>by rw[<-O];exact wB N hB,d5⟩
    .have b0:=Kz (fC e1);go_wp2
     go_ret
     exact⟨b,o,cap,l,rfl,e5,.inl ⟨by rw[<-b0.o,<-HY.o];exact Mw R,rfl⟩,Q,λ_ _ h=>h,K_.refl _⟩
   .have a9:=Kz e0;go_wp2
    go_round
    case rel=>
     refine⟨k+1,E5,F3,Kz λy i=>?_⟩;rw[Ms R] at i;rcases Mv.1 i with i|i
     .exact T.o y i
     .rw[Mt,HY.o] at i;rw[i];exact a9.o
    case measure=>simp[intOf];omega
  .have e4:k=l.length:=E5;have V:Hid (∀y∈l.drop k,aQ x y):=λy i=>by rw[e4,List.drop_length] at i;cases i
   have b2:Hid (x∉l):=λh=>by
    rw[<-Nr k l] at h;rcases Mv.1 h with h|h
    .exact a_ x (T.o x h)
    .exact a_ x (V.o x h)
   obtain⟨a,c,j,b3⟩:∃a c,l=a++c/\k=a.length:=⟨l.take k,l.drop k,(Nr k l).symm,F6⟩;subst b3;have b4:Hid (Jk l x (a++x :: c)):=by
    have U:l.take a.length=a:=by rw[j];simp
    have e2:l.drop a.length=c:=by rw[j];simp
    refine .inr ⟨b2.o,a.length,hk,by rw[U,e2],T.o,V.o⟩
   have b5:l.length=a.length+c.length:=by rw[j,M_]
   have b6:Hid (∀W,K_ w W->Strs W (some ⟨b,o,none⟩) a):=λW K n X=>by
    obtain⟨p,q,z,A,B⟩:=(Q.kept K) n E5;refine⟨p,q,z,A,?_⟩;rw[B,j];simp[List.getD,Np X]
   have Y:Hid (∀W,K_ w W->Strs W (if cap=a.length then (some ⟨b,o,none⟩:NM) else some ⟨b,o+a.length,none⟩) c):=λW K n X=>by
    obtain⟨p,q,z,A,B⟩:=(Q.kept K) (a.length+n) E5;cases z;rw[NA E5];refine⟨b,o+a.length,rfl,A,?_⟩;rw[Nat.add_assoc,B,j];simp[List.getD,Nq]
   have Z:l.length-a.length=c.length:=E5;have e7:a.length<=cap:=E5;have e8:a.length<=l.length:=E5;have e9:a.length<=100000:=E5;have f0:c.length<=100000:=E5;have b7:=Kz Z;obtain⟨C,D,E,F,G⟩:=aW Tryz.fA;have a0:Hid ((w.alloc (.cells #[] 9)).ownsRow w.heap.size 9 1 (.b w.heap.size 0 0) 0 (([]:List NL).map Value.string)):=MQ w #[] 0 (Mj _) (Ml _) rfl;have b8:w.heap.size<=(w.alloc (.cells #[] 9)).heap.size:=E9;have a1:Hid (K_ w (w.alloc (.cells #[] 9))):=ah _ _;clear j b5 Z e4;go_upto_region 7 with (at_builtin;refine gB rfl (.tmp 34) (.tmp 37) 26 rfl w.heap.size 9 C _ 16 underlying26 D E F G rfl (.b w.heap.size 0 0) 0 (([]:List NL).map Value.string) rfl a0.o (some ⟨b,o,none⟩) cap a rfl (b6.o _ a1.o) F5 E5 b8 ?_;intro v1 s t a2 b9;rw[MR] at t;have c0:=Kz t;have c1:=aK a1.o (Mj _) a0.o a2;obtain⟨c2,c3,rfl⟩:=aF t;clear t a2 b9)
   refine Qk.region F4 (λ_=>True) 8 trivial λm=>?_;have KD:=aY s;generalize c4:s.drew=f at KD⊢;clear c4;refine ae 0 m ?_;refine ae 1 m ?_;refine ae 4 m ?_;refine ae 5 m ?_;refine ae 6 m ?_;generalize hgd:(if cap=a.length then (some ⟨b,o,none⟩:NM) else some ⟨b,o+a.length,none⟩)=c5 at Y⊢;clear hgd;refine ai 2 λK d=>?_;go_simp
   have K5:K_ f (f.alloc (.cells #[.string x] 9)):=ah _ _;have H:Hid (Strs (f.alloc (.cells #[.string x] 9)) (some ⟨f.heap.size,0,none⟩) [x]):=λc6 hq=>by
    obtain rfl:c6=0:=by simpa using hq
    exact⟨f.heap.size,0,rfl,E9,X_ f #[.string x] 9 0 _ rfl⟩
   refine d.out _ _ (λ_=>trivial) ?_;clear d K m;have I:=KD.trans K5;have J:=Kz (au c0.o I);obtain⟨eb,a3⟩:=aj f.heap.size;rw[<-a3] at H⊢;generalize c7:f.alloc (.cells #[.string x] 9)=w5 at H I J⊢;clear c7 K5 a3;have a4:=c1.trans I;have c8:=a4.size;try simp only[upP]
   refine aG 3 λK d=>?_;refine fw (.tmp 39) (.tmp 41) 26 rfl w.heap.size 9 C _ 16 underlying26 D E F G rfl (.slice c2 a.length c3) a.length (([]:List NL).map Value.string++a.map Value.string) rfl J.o (some ⟨eb,0,none⟩) 1 [x] rfl H.o J4 F6 c8 ?_;intro v6 w6 L a5 c9;have a6:=Kz L;have M:=aK a4 (Mj _) J.o a5;obtain⟨d0,d1,rfl⟩:=aF L;have d2:=M.size;refine af d (λ_=>trivial) ?_;clear d K L a5 c9;refine aG 7 λK d=>?_;refine fw (.tmp 42) (.tmp 45) 26 rfl w.heap.size 9 C _ 16 underlying26 D E F G rfl (.slice d0 (a.length+[x].length) d1) (a.length+[x].length) ((([]:List NL).map Value.string++a.map Value.string)++[x].map Value.string) rfl a6.o c5 (cap-a.length) c (by rw[<-b7.o];rfl) (Y.o _ M) J4 F6 d2 ?_;intro v7 w7 a7 a8 d3;have d4:=Kz a7;have d5:=aK M (Mj _) a6.o a8;refine af d (λ_=>trivial) ?_;clear d K a7 a8 d3;refine ai 8 λK d=>?_;go_simp
   refine af d (λh=>NB rfl h) ?_;clear d K;refine aC ?_;go_wp2
   go_ret
   have d6:(a++x :: c).length=a.length+[x].length+c.length:=F6;have N:w7.ownsRow w.heap.size 9 1 v7 (a++x :: c).length ((a++x :: c).map Value.string):=by
    have h:=d4.o;rw[d6];have e:(a++x :: c).map Value.string= ((([]:List NL).map Value.string++a.map Value.string)++[x].map Value.string)++c.map Value.string:=E9;rw[e];exact h
   rcases N.2 with⟨_,h0⟩|⟨g,d7,f1,O,_,_,d8,_,_,_⟩
   .simp at h0
   .obtain⟨f2,f3,P,h9⟩:=bO N;rw[O] at P;simp only[Nb,true_and] at P;rw[<-P.1] at h9;exact⟨g,0,d7,_,by rw[O];rfl,d8,b4.o,h9,λf4 hB _=>by rw[<-O];exact wB N hB,d5⟩
theorem rV.nil{W:dC}{σ:Env}{n:NL}(h:∀s,¬bG W σ n s):rV W σ n []:=⟨List.Pairwise.nil,λs=>⟨λe=>(by cases e),λe=>(h s e).elim⟩⟩
def GZ(Kq:List Qz)(sl:List Q_)(name:NL)(w w':NN)(e:Ending):Prop:=∃(b o c:Nat)(ns:List NL),e=.returned (.slice (some ⟨b,o,none⟩) ns.length c)/\ns.length<=c/\Strs w' (some ⟨b,o,none⟩) ns/\rV (Kk Kq) (Qq sl) name ns/\w'.ownsRow w.heap.size 9 1 (.slice (some ⟨b,o,none⟩) ns.length c) ns.length (ns.map Value.string)
def FM(Kq:List Qz)(sl:List Q_)(name:NL)(w':NN)(e:Ending):Prop:=∃(b o c:Nat)(ns:List NL),e=.returned (.slice (some ⟨b,o,none⟩) ns.length c)/\ns.length<=c/\Strs w' (some ⟨b,o,none⟩) ns/\rV (Kk Kq) (Qq sl) name ns
theorem BD(w:NN)(a:NM)(cap:Nat)(Kq:List Qz)(y:NM)(rn rc:Nat)(d:NM)(dc:Nat)(sl:List Q_)(V:NL)(f2:Kq.length<=1048576)(d1:sl.length<=1048576)(f3:bH (Kk Kq))(hg:dW Kq sl)(hN:bQ w a Kq)(hS:bN w d sl):Calls prog 118 #[.agg #[.slice a Kq.length cap],.agg #[.slice y rn rc,.slice d sl.length dc],.string V] w λe w'=>GZ Kq sl V w w' e/\K_ w w':=by
 let⟨l,G⟩:=aj ((w.alloc (.cells #[.slice a Kq.length cap] 25)).alloc (.cells #[.slice y rn rc,.slice d sl.length dc] 43));have kB:K_ w l:=by rw[G];exact (ah _ _).alloc _
 have f4:l.heap.size=w.heap.size+2:=by rw[G];simp
 have J:l.cell? ⟨w.heap.size,0,none⟩=some (.slice a Kq.length cap):=by rw[G,K_.cell (w:=w.alloc (.cells #[.slice a Kq.length cap] 25)) (ah _ _) E9];exact X_ w _ _ 0 _ rfl
 have L:l.cell? ⟨w.heap.size+1,0,none⟩=some (.slice y rn rc):=by have:=X_ (w.alloc (.cells #[.slice a Kq.length cap] 25)) #[.slice y rn rc,.slice d sl.length dc] 43 0 _ rfl;rw[MZ] at this;rw[G];exact this
 have M:l.cell? ⟨w.heap.size+1,1,none⟩=some (.slice d sl.length dc):=by have:=X_ (w.alloc (.cells #[.slice a Kq.length cap] 25)) #[.slice y rn rc,.slice d sl.length dc] 43 1 _ rfl;rw[MZ] at this;rw[G];exact this
 have z0:w.heap.size<l.heap.size:=E5;have z1:w.heap.size+1<l.heap.size:=E5;have C:Hid (∀w',K_ l w'->M4 w' w.heap.size 0 (.slice a Kq.length cap)/\M4 w' (w.heap.size+1) 0 (.slice y rn rc)/\M4 w' (w.heap.size+1) 1 (.slice d sl.length dc)/\w.heap.size<w'.heap.size/\w.heap.size+1<w'.heap.size):=λw' K=>⟨(K.cell z0).trans J,(K.cell z1).trans L,(K.cell z1).trans M,Mk z0 K.size,Mk z1 K.size⟩
 have W:K_ l (l.alloc (.cells #[] 9)):=ah _ _;have b1:Hid (∀u,K_ (l.alloc (.cells #[] 9)) u->u.ownsRow w.heap.size 9 1 (.b l.heap.size 0 0) 0 (([]:List NL).map Value.string)):=λu k=>au (wB (MQ l #[] 0 (Mj _) (Ml _) rfl) kB.size) k
 have⟨v,f5⟩:=aH kB hg;clear kB f4 J L M hg;go_enter func118,ntmps118
 go_upto_region 1 with fail
 rw[<-G];clear G;go_upto_region 2 with fail
 let⟨WE,d2⟩:=aj (l.alloc (.cells #[] 9));rw[<-d2] at W b1⊢;clear d2;let⟨J,L,M,X,Y⟩:=C.o _ W;go_wp2_with fail
 refine (gY WE y rn rc d dc sl V d1 (hS.kept (v.o.trans W))).mono ?_;rintro e w1 ⟨⟨p,rfl,hp⟩,k1⟩;have A:=W.trans k1;have a4:=Kz (b1.o _ k1);clear J L M X Y k1 W b1;let⟨J,L,M,X,Y⟩:=C.o _ A;rcases hp with⟨k,hk,rfl,N,b2⟩|⟨rfl,N⟩;rotate_left
 .have O:=Kz N;go_wp2
  go_ret
  exact⟨⟨l.heap.size,0,0,[],rfl,Mj _,(λi H=>by cases H),(rV.nil λs h=>by let⟨r,_,P,_⟩:=h;rw[O.o] at P;cases P),a4.o⟩,v.o.trans A⟩
 let⟨r,P⟩:=aj (sl.getD k Q_.zero);rw[<-P] at N b2;let⟨rb,ro,xa,xc,e1,f6,Z,_,_⟩:=(hS.kept (v.o.trans A)) k hk;rw[<-P] at Z;subst e1;have I:=Z 1 _ rfl;have t4:=Z 4 _ rfl;have t5:=Z 5 _ rfl;have i4:(k:Int)<(sl.length:Int):=E5;have O:=Kz N;clear P;by_cases Q:r.over=true\/r.Zq=0
 .have b3:=Kz Q;have d3:Hid (rV (Kk Kq) (Qq sl) V []):=rV.nil λs h=>by
   let⟨r',_,B,b,f,_⟩:=h;rw[O.o] at B;cases B;rcases b3.o with x|x
   .rw[b] at x;cases x
   .exact f x
  have a0:r.over=true\/(r.over=false/\r.Zq=0):=by
   rcases Q with h|h
   .exact .inl h
   .cases b:r.over
    .exact .inr ⟨rfl,h⟩
    .exact .inl rfl
  clear Q;rcases a0 with h|⟨h,f⟩
  .rw[h] at I;go_wp2
   go_ret
   exact⟨⟨l.heap.size,0,0,[],rfl,Mj _,(λi H=>by cases H),d3.o,a4.o⟩,v.o.trans A⟩
  .rw[h] at I;rw[f] at t5;go_wp2
   go_ret
   exact⟨⟨l.heap.size,0,0,[],rfl,Mj _,(λi H=>by cases H),d3.o,a4.o⟩,v.o.trans A⟩
 have ho:r.over=false:=by
  cases b:r.over
  .rfl
  .exact NB (.inl b) Q
 have hv:r.Zq≠0:=λe=>Q (.inr e)
 have f7:(r.Zq == 0)=false:=by simpa using hv
 let⟨i5,R,d4,a5⟩:=(f5.o.good r (aZ O.o).1).act;rw[b2] at R;obtain⟨j,hj,d5,d6,rfl⟩:=fJ R;let⟨S,hy⟩:=aj (Kq.getD j Qz.zero);rw[<-hy] at R a5;dsimp only at a5;obtain⟨nb,nq,cs,f8,f9,a0,na,nc,rfl,b4⟩:=hN j hj;subst f8;rw[<-hy] at a0 b4;obtain⟨D,b5⟩:∃D:Nat,r.at'= (D:Int):=⟨r.at'.toNat,E5⟩;have g0:D<S.steps.length:=E5;obtain⟨tb,tq,i6,g1,g2,b6,aa,ca,ac,cc,rfl,b7,_,_⟩:=b4 D g0;subst g1;let⟨s,hs⟩:=aj (S.steps.getD D Xq.zero);rw[<-hs] at b6 b7;have n2:=a0 2 _ rfl;have m0:=b6 0 _ rfl;rw[Ng] at m0;have b8:Hid (stepOf ⟨S.cost,S.steps⟩ r.at'=s):=by show _=_;unfold stepOf;rw[b5,hs];rfl
 have i7:s.asks.length<=5:=by have h:=(iw (f3 _ _ R).1 d4 a5).1;rw[b8.o] at h;exact h
 have⟨g3,g4,b9,g5,b3⟩:=jh d5 d6 R hv ho;have i8:(j:Int)<(Kq.length:Int):=E5;have i9:(D:Int)<(S.steps.length:Int):=E5;rw[b5] at t4;rw[ho] at I;have KN:=v.o.trans A;have a6:Hid (∀w',K_ w1 w'->M4 w' w.heap.size 0 (.slice (some ⟨nb,nq,none⟩) Kq.length cap)/\M4 w' (w.heap.size+1) 1 (.slice (some ⟨rb,ro,none⟩) sl.length dc)/\M4 w' rb (ro+k*7+4) (.a (D:Int))/\M4 w' nb (nq+j*3+2) (.slice (some ⟨tb,tq,none⟩) S.steps.length nc)/\M4 w' tb (tq+D*8) (.slice aa s.asks.length ca)):=λw' K=>⟨(C.o w' (A.trans K)).1,(C.o w' (A.trans K)).2.2.1,(K.cell f6).trans t4,((KN.trans K).cell f9).trans n2,((KN.trans K).cell g2).trans m0⟩
 have g6:=Kz (hN.kept KN);have g7:=Kz b7;clear Q R hy a0 b4 b6 b7 hs b5 d4 a5 hv ho d5 d6 n2 m0 b2;go_upto_region 5 with fail
 clear I t4 t5 f7 J L M X Y;refine bF 18 a6.o λwd KD m=>?_
 refine ak 0 m ?_;refine ak 9 m ?_;refine ae 13 m ?_;refine ae 14 m ?_;refine aG 4 λK q=>?_;go_simp
 go_at_call 61
 refine (fe wd (some ⟨nb,nq,none⟩) cap Kq V f2 (g6.o.kept KD)).mono ?_;rintro e w2 ⟨⟨a1,rfl,hq⟩,k2⟩;have K2:=KD.trans k2;obtain rfl:a1= (j:Int):=by
  rcases hq with⟨k',_,e',_,b,f⟩|⟨_,b⟩
  .rw[e',iR g3.o g4.o b f]
  .rw[b9.o] at b;cases b
 clear hq;dsimp only;refine af q (λ_=>a6.o _ K2) ?_;have m:=a6.o _ K2;refine ak 5 m ?_;refine ae 15 m ?_;refine ae 16 m ?_;refine ae 17 m ?_;refine ai 18 λK q=>?_;go_simp
 refine af q (λh=>NB rfl h) ?_;refine aC ?_;have g8:=A.trans K2;have g9:Hid (∀c2,K_ w2 c2->Strs c2 aa s.asks):=λc2 K=>g7.o.kept (KN.trans (K2.trans K))
 have d7:Hid (Strs w2 (some ⟨l.heap.size,0,none⟩) []):=λi H=>by cases H
 go_wp2
 go_loopg [7,10] s.asks.length (λgg x7 h0 wr=>∃(i E o c:Nat)(n:List NL),h0=.a (i:Int)/\i+gg=s.asks.length/\x7=.slice (some ⟨E,o,none⟩) n.length c/\n.length<=c/\n.length<=i/\Hid (qJ n)/\Hid (∀z,z∈n↔z∈s.asks.take i/\sI (Qq sl) z)/\Hid (Strs wr (some ⟨E,o,none⟩) n)/\Hid (wr.ownsRow w.heap.size 9 1 (.slice (some ⟨E,o,none⟩) n.length c) n.length (n.map Value.string))/\K_ w2 wr)
 case atStart=>exact⟨0,l.heap.size,0,0,[],rfl,E5,rfl,Mj _,Mj _,Kz List.Pairwise.nil,Kz λz=>E9,d7,Kz (au a4.o K2),K_.refl _⟩
 case round=>
  clear d7 a6;obtain⟨i,E,o,c,n,rfl,j0,rfl,a7,j1,a2,a8,d8,d9,Kw⟩:=hrel;have F:=g8.trans Kw;by_cases c3:i<s.asks.length
  .obtain⟨ab,ao,rfl,e0,a9⟩:=(g9.o wr Kw) i c3;let⟨a3,hx⟩:=aj (s.asks.getD i ByteArray.empty);rw[<-hx] at a9;have e2:s.asks[i]=a3:=by rw[hx];simp[List.getD,c3]
   have h1:=Kz e2;have j2:(i:Int)<(s.asks.length:Int):=E5;have c4:Hid (∀w',K_ wr w'->M4 w' (w.heap.size+1) 0 (.slice y rn rc)/\M4 w' (w.heap.size+1) 1 (.slice (some ⟨rb,ro,none⟩) sl.length dc)/\M4 w' ab (ao+i) (.string a3)):=λw' K=>⟨(C.o w' (F.trans K)).2.1,(C.o w' (F.trans K)).2.2.1,(K.cell e0).trans a9⟩
   let⟨_,c1,e3,X,Y⟩:=C.o wr F;clear hx;go_upto_region 9 with fail
   clear c1 e3 a9;refine bF 6 c4.o λwd KD m=>?_
   refine ak 0 m ?_;refine ae 4 m ?_;refine aG 5 λK q=>?_;go_simp
   go_at_call 69
   refine (gY wd y rn rc (some ⟨rb,ro,none⟩) dc sl a3 d1 (hS.kept (v.o.trans (F.trans KD)))).mono ?_;rintro e w3 ⟨⟨a1,rfl,hq⟩,k3⟩;have t:=KD.trans k3;refine af q (λ_=>c4.o _ t) ?_;refine ai 6 λK q=>?_;go_simp
   refine af q (λh=>NB rfl h) ?_;refine aC ?_;let⟨c0,c1,e3,X,Y⟩:=C.o w3 (F.trans t);have a9:=(c4.o _ t).2.2;have j3:=Mk e0 t.size;have c5:=Kz (d8.o.kept t);have c6:=Kz (au d9.o t);have h2:Hid (w.heap.size<=w3.heap.size):=(v.o.trans (F.trans t)).size;have e5:∀z,z∈s.asks.take (i+1)↔z∈s.asks.take i\/z=a3:=λz=>by rw[Ms c3,h1.o];simp
   have c7:=Kz e5;rcases hq with⟨k',h3,rfl,T,_⟩|⟨rfl,T⟩
   .obtain⟨r',B⟩:=aj (sl.getD k' Q_.zero);rw[<-B] at T;let⟨j4,j5,j6,j7,e4,j8,c8,_,_⟩:=(hS.kept (v.o.trans (F.trans t))) k' h3;cases e4;rw[<-B] at c8;have I:=c8 1 _ rfl;have j9:(k':Int)<(sl.length:Int):=E5;have k0:¬((k':Int)<0):=E5;have b0:=Kz T;clear B;cases U:r'.over
    .rw[U] at I;have c9:=Kz U;go_wp2_with fail
     refine (Fy w3 E o c n a3 E5 a7 a2.o c5.o).mono ?_;rintro e w4 ⟨h5,o4,h6,r4,rfl,h7,d0,e6,e7,h8⟩;have h9:=Kz (e7 _ h2.o c6.o);let⟨e8,e9⟩:=d0.asc a2.o;have k4:r4.length<=n.length+1:=by
      rcases d0 with⟨_,rfl⟩|⟨_,a1,hq,rfl,_,_⟩
      .omega
      .simp;omega
     have⟨i0,i1,i2⟩:=di e8 e9 e6;have K4:=Kw.trans (t.trans h8);go_wp2
     go_roundg (gk-1)
     case measure=>omega
     case rel=>exact⟨i+1,h5,o4,h6,r4,F3,E5,rfl,h7,E5,i0,Kz (λz=>by
      rw[i1.o,a8.o,c7.o];constructor
      .rintro (⟨b,f⟩|rfl)
       .exact⟨.inl b,f⟩
       .exact⟨.inr rfl,_,b0.o,c9.o⟩
      .rintro⟨b|rfl,f⟩
       .exact .inl ⟨b,f⟩
       .exact .inr rfl),i2,h9,K4⟩
    .rw[U] at I;have c9:=Kz U;go_wp2
     go_roundg (gk-1)
     case measure=>omega
     case rel=>exact⟨i+1,E,o,c,n,F3,E5,rfl,a7,E5,a2,Kz (λz=>by
      rw[a8.o,c7.o];constructor
      .rintro⟨b,f⟩;exact⟨.inl b,f⟩
      .rintro⟨b|rfl,f⟩
       .exact⟨b,f⟩
       .obtain⟨a1,x,h4⟩:=f;rw[b0.o] at x;cases x;rw[c9.o] at h4;cases h4),c5,c6,Kw.trans t⟩
   .have b0:=Kz T;go_wp2
    go_roundg (gk-1)
    case measure=>omega
    case rel=>exact⟨i+1,E,o,c,n,F3,E5,rfl,a7,E5,a2,Kz (λz=>by
     rw[a8.o,c7.o];constructor
     .rintro⟨b,f⟩;exact⟨.inl b,f⟩
     .rintro⟨b|rfl,f⟩
      .exact⟨b,f⟩
      .obtain⟨a1,x,h4⟩:=f;rw[b0.o] at x;cases x),c5,c6,Kw.trans t⟩
  .have f0:s.asks.take i=s.asks:=MU E5;have i3:=Kz f0;go_wp2
   go_ret
   refine⟨⟨E,o,c,n,rfl,a7,d8.o,⟨a2.o,λz=>?_⟩,d9.o⟩,v.o.trans F⟩;rw[a8.o,i3.o];constructor
   .rintro⟨b,f⟩;exact⟨r,_,O.o,b3.o,g5.o,b9.o,by rw[b8.o];exact b,f⟩
   .rintro⟨r',A',B,_,_,f1,b,f⟩;rw[O.o] at B;cases B;rw[b9.o] at f1;cases f1;rw[b8.o] at b;exact⟨b,f⟩
theorem uM(w:NN)(a:NM)(cap:Nat)(Kq:List Qz)(c:NM)(rn rc:Nat)(d:NM)(dc:Nat)(sl:List Q_)(b:NL)(f:Kq.length<=1048576)(h:sl.length<=1048576)(i:bH (Kk Kq))(j:dW Kq sl)(k:bQ w a Kq)(l:bN w d sl):Calls prog 118 #[.agg #[.slice a Kq.length cap],.agg #[.slice c rn rc,.slice d sl.length dc],.string b] w λe w'=>FM Kq sl b w' e/\K_ w w':=(BD w a cap Kq c rn rc d dc sl b f h i j k l).mono λ_e _w' ⟨⟨m,o,n,p,q,r,s,t,_⟩,v⟩=>⟨⟨m,o,n,p,q,r,s,t⟩,v⟩
theorem Tryz.JD :(prog.info? 3).map (λi=>(i.zero,i.size,i.bytes))=some (some (.a 0),1,8):=F4
def runN(sl:List Q_)(p:Nat):NL:=(sl.getD p Q_.zero).name
def gu(w:NN)(fb n:Nat)(V:Nat->Nat):Prop:=w.rowIs fb 3 n (λi=>.a (V i:Int))
variable {fb:Nat}{V:Nat -> Nat}
theorem gu.kept{w':NN}(h:gu w fb n V)(k:K_ w w'):gu w' fb n V:=by
 let⟨c,a,d⟩:=h;exact⟨c,(k.block fb (aM a)).trans a,d⟩
theorem gu.lt(h:gu w fb n V):fb<w.heap.size:=by let⟨c,b,_⟩:=h;exact aM b
theorem gu.put(h:gu w fb n V)(i v:Nat):gu (w.setCell ⟨fb,i,none⟩ (.a (v:Int))) fb n (λp=>if p=i then v else V p):=by
 let⟨c,a,b,d⟩:=World.rowIs.set h i (.a (v:Int));refine⟨c,a,b,λp f=>?_⟩;rw[d p f];by_cases e:p=i
 .simp[e]
 .simp[e]
theorem gu.ne(h:gu w fb n V){b o:Nat}{s:NL}(a:w.cell? ⟨b,o,none⟩=some (.string s)):b≠fb:=by
 rintro rfl;by_cases d:o<n
 .rw[World.rowIs.cell h d] at a;cases a
 .obtain⟨c,e,f,_⟩:=h;simp[World.cell?,e] at a;have:=(MX.1 a).1;omega
theorem gu.strs(h:gu w fb n V){b o:Nat}{l:List NL}(d:Strs w (some ⟨b,o,none⟩) l)(i:Nat)(v:NP):Strs (w.setCell ⟨fb,i,none⟩ v) (some ⟨b,o,none⟩) l:=λq f=>by
 let⟨k,m,e,j,a⟩:=d q f;cases e;exact⟨b,o,rfl,by rw[size_setCell];exact j,by rw[Zj (h.ne a)];exact a⟩
def KT(Kq:List Qz)(sl:List Q_)(goal:NL)(w w':NN)(e:Ending):Prop:=∃fb V,e=.returned (.b fb sl.length sl.length)/\gu w' fb sl.length V/\(∀p,p<sl.length->d_ (bG (Kk Kq) (Qq sl)) goal (sl.length+1) (runN sl p) (V p))/\K_ w w'
theorem Gm(w:NN)(a:NM)(cap:Nat)(Kq:List Qz)(D:NM)(rn rc:Nat)(d:NM)(dc:Nat)(sl:List Q_)(f:NL)(f5:Kq.length<=1048576)(h6:sl.length<=1000)(c9:bH (Kk Kq))(hg:dW Kq sl)(hN:bQ w a Kq)(hS:bN w d sl):Calls prog 117 #[.agg #[.slice a Kq.length cap],.agg #[.slice D rn rc,.slice d sl.length dc],.string f] w λe w'=>KT Kq sl f w w' e:=by
 obtain⟨m,N⟩:=aj ((w.alloc (.cells #[.slice a Kq.length cap] 25)).alloc (.cells #[.slice D rn rc,.slice d sl.length dc] 43));have kB:K_ w m:=by rw[N];exact (ah _ _).alloc _
 have f6:m.heap.size=w.heap.size+2:=by rw[N];simp
 have d0:m.cell? ⟨w.heap.size,0,none⟩=some (.slice a Kq.length cap):=by rw[N,K_.cell (w:=w.alloc (.cells #[.slice a Kq.length cap] 25)) (ah _ _) E9];exact X_ w _ _ 0 _ rfl
 have s0:m.cell? ⟨w.heap.size+1,0,none⟩=some (.slice D rn rc):=by have:=X_ (w.alloc (.cells #[.slice a Kq.length cap] 25)) #[.slice D rn rc,.slice d sl.length dc] 43 0 _ rfl;rw[MZ] at this;rw[N];exact this
 have s1:m.cell? ⟨w.heap.size+1,1,none⟩=some (.slice d sl.length dc):=by have:=X_ (w.alloc (.cells #[.slice a Kq.length cap] 25)) #[.slice D rn rc,.slice d sl.length dc] 43 1 _ rfl;rw[MZ] at this;rw[N];exact this
 have z0:w.heap.size<m.heap.size:=E5;have z1:w.heap.size+1<m.heap.size:=E5;have J:Hid (∀w',K_ m w'->M4 w' w.heap.size 0 (.slice a Kq.length cap)/\M4 w' (w.heap.size+1) 0 (.slice D rn rc)/\M4 w' (w.heap.size+1) 1 (.slice d sl.length dc)/\w.heap.size<w'.heap.size/\w.heap.size+1<w'.heap.size):=λw' K=>⟨(K.cell z0).trans d0,(K.cell z1).trans s0,(K.cell z1).trans s1,Mk z0 K.size,Mk z1 K.size⟩
 have d1:sl.length<=1048576:=E5;have f7:=run_make_row' (P:=prog) 87 3 _ _ underlying87 Tryz.JD rfl .i64 .i64 sl.length E5 E5;obtain⟨W0,a8⟩:=aj (m.alloc (.cells (madeCells #[.a 0] sl.length) 3));have k0:K_ m W0:=by rw[a8];exact ah _ _
 have b2:Hid (gu W0 m.heap.size sl.length λ_=>0):=by
  rw[a8];exact World.rowIs_made m (.a 0) sl.length 3
 have⟨a3,d2⟩:=aH kB hg;clear kB f6 hg;go_enter func117,ntmps117
 go_upto_region 1 with fail
 rw[<-N];clear N;go_wp2
 rw[<-a8];clear a8 f7 d0 s0 s1;obtain⟨I,b3⟩:=aj m.heap.size;rw[<-b3] at b2⊢;have d3:=MN b3.symm;have h7:w.heap.size+1<I:=E5;clear b3;go_loopw [8] (λx8 wr=>∃(n:Nat)(V:Nat->Nat),1<=n/\n<=sl.length+1/\x8=.a (n:Int)/\Hid (gu wr I sl.length V)/\Hid (∀p,p<sl.length->d_ (bG (Kk Kq) (Qq sl)) f n (runN sl p) (V p))/\K_ m wr) (λx8 _=>sl.length+1-(intOf x8).toNat)
 case atStart=>exact⟨1,_,Mj _,E5,rfl,b2,Kz λp _=>d_.start,k0⟩
 case round=>
  clear b2 k0;obtain⟨n,V,d4,h8,rfl,E,L,r⟩:=hrel;obtain⟨b4,c1,c2,y0,y1⟩:=J.o _ r;by_cases h9:n<=sl.length;rotate_left
  .have d5:n=sl.length+1:=E5;have f8:=Kz d5;have M:¬((n:Int)<=(sl.length:Int)):=E5;clear d5;go_wp2
   go_ret
   refine⟨I,V,rfl,E.o,λp q=>?_,a3.o.trans r⟩;rw[<-f8.o];exact L.o p q
  have i0:(n:Int)<=(sl.length:Int):=E5;go_upto_region 6 with fail
  go_loopw [9] (λx9 wr=>∃(i:Nat)(V:Nat->Nat),i<=sl.length/\x9=.a (i:Int)/\Hid (gu wr I sl.length V)/\Hid (∀p,p<sl.length->d_ (bG (Kk Kq) (Qq sl)) f (if p<i then n+1 else n) (runN sl p) (V p))/\K_ m wr) (λx9 _=>sl.length-(intOf x9).toNat)
  case atStart=>exact⟨0,V,Ml _,rfl,E,Kz (λp q=>by rw[NA (Nat.not_lt_zero _)];exact L.o p q),r⟩
  case round=>
   clear E L b4 c1 c2 y0 y1 r V;obtain⟨i,V,hi,rfl,E,L,r⟩:=hrel;obtain⟨b4,c1,c2,y0,y1⟩:=J.o _ r;by_cases a4:i<sl.length;rotate_left
   .have d6:i=sl.length:=E5;have g0:=Kz d6;have i1:¬((i:Int)<(sl.length:Int)):=E5;clear d6;go_wp2
    go_roundw
    case rel=>exact⟨n+1,V,E5,E5,F3,E,Kz (λp q=>by have h:=L.o p q;rw[Nz (by rw[g0.o];exact q)] at h;exact h),r⟩
    case measure=>simp[intOf];omega
   have i2:(i:Int)<(sl.length:Int):=E5;obtain⟨X,Y,xa,xc,e1,g1,d7,_,_⟩:=(hS.kept (a3.o.trans r)) i a4;subst e1;obtain⟨x,hx⟩:=aj (runN sl i);have Z:=d7 0 _ rfl;rw[Ng] at Z;have d8:wr.cell? ⟨X,Y+i*7,none⟩=some (.string x):=by rw[hx];exact Z
   clear Z d7;have Z:=d8;clear d8;have f0:=World.rowIs.cell E.o a4;try dsimp only at f0
   have fz:=E.o.lt;have HX:=Kz hx;have a5:Hid (d_ (bG (Kk Kq) (Qq sl)) f n x (V i)):=by have h:=L.o i a4;rw[NA (Nat.lt_irrefl _),<-hx] at h;exact h
   clear hx;by_cases a0:V i≠0\/aQ x f
   .have a1:=Kz a0;have d9:Hid (∀p,p<sl.length->d_ (bG (Kk Kq) (Qq sl)) f (if p<i+1 then n+1 else n) (runN sl p) (V p)):=λp q=>by
     by_cases e:p=i
     .subst e;rw[Nz E5,<-HX.o];exact a5.o.keep a1.o
     .have h:=L.o p q;by_cases O:p<i
      .rw[Nz O] at h;rw[Nz E5];exact h
      .rw[NA O] at h;rw[NA E5];exact h
    have e0:(0:Int)<(V i:Int)\/(¬((0:Int)<(V i:Int))/\Op.bytesLess x.toList f.toList=true):=by
     by_cases g2:V i=0
     .refine .inr ⟨E5,?_⟩;rcases a0 with h|h
      .exact NB g2 h
      .exact h
     .exact .inl E5
    obtain⟨z,hv⟩:=aj (V i);rw[<-hv] at f0 e0;clear a0 hv;rcases e0 with q|⟨q,hb⟩
    .go_wp2
     go_roundw
     case rel=>exact⟨i+1,V,E5,F3,E,d9,r⟩
     case measure=>simp[intOf];omega
    .go_wp2
     go_roundw
     case rel=>exact⟨i+1,V,E5,F3,E,d9,r⟩
     case measure=>simp[intOf];omega
   have b5:V i=0:=by
    by_cases h:V i=0
    .exact h
    .exact NB (.inl h) a0
   have b6:¬aQ x f:=λh=>a0 (.inr h)
   have i3:Op.bytesLess x.toList f.toList=false:=by
    cases h:Op.bytesLess x.toList f.toList
    .rfl
    .exact NB h b6
   rw[b5] at a5 f0;have⟨g3,b7⟩:=aH b5 b6;clear a0 b5 b6;have b8:Hid (∀w',K_ wr w'->M4 w' w.heap.size 0 (.slice a Kq.length cap)/\M4 w' (w.heap.size+1) 0 (.slice D rn rc)/\M4 w' (w.heap.size+1) 1 (.slice (some ⟨X,Y,none⟩) sl.length dc)/\M4 w' X (Y+i*7) (.string x)):=λw' K=>⟨(J.o w' (r.trans K)).1,(J.o w' (r.trans K)).2.1,(J.o w' (r.trans K)).2.2.1,(K.cell g1).trans Z⟩
   go_upto_region 9 with fail
   refine bF 9 b8.o λQ k b=>?_
   refine ak 0 b ?_;refine ak 4 b ?_;refine aG 8 λK j=>?_;go_simp
   go_at_call 118
   refine (uM Q a cap Kq D rn rc (some ⟨X,Y,none⟩) dc sl x f5 d1 c9 d2.o (hN.kept (a3.o.trans (r.trans k))) (hS.kept (a3.o.trans (r.trans k)))).mono ?_;rintro e w2 ⟨⟨lb,lo,lc,A,rfl,i4,e2,b9⟩,k2⟩;have K2:=k.trans k2;refine af j (λ_=>b8.o _ K2) ?_;clear j K b;refine ai 9 λK j=>?_;go_simp
   refine af j (λh=>NB rfl h) ?_;clear j K;refine aC ?_;have⟨e3,e4⟩:=aH b9 e2;have e5:=Kz (E.o.kept K2);have e6:=r.trans K2;have i5:=b9.len c9 d2.o.env;have e7:=Kz λp q=>L.o p q;clear b9 e2 f0 fz Z b4 c1 c2 y0 y1 b8 k2;go_wp2
   go_loopw [11] (λc0 wr=>∃(l z:Nat),l<=A.length/\c0=.a (l:Int)/\Hid (gu wr I sl.length λp=>if p=i then z else V p)/\Hid ((z=n/\∃s,Hit (bG (Kk Kq) (Qq sl)) f n x s)\/(z=0/\∀s∈A.take l,¬Hit (bG (Kk Kq) (Qq sl)) f n x s))/\Hid (Strs wr (some ⟨lb,lo,none⟩) A)/\K_ m wr) (λc0 _=>A.length-(intOf c0).toNat)
   case atStart=>exact⟨0,0,Ml _,rfl,Kz (World.rowIs.congr e5.o λp q=>by by_cases e:p=i;(subst e;simp[g3.o]);simp[e]),Kz (.inr ⟨rfl,λs hs=>by simp at hs⟩),e4,e6⟩
   case round=>
    clear e5 e4 e6;obtain⟨l,z,hk,rfl,F,a2,R,B⟩:=hrel;by_cases S:l<A.length;rotate_left
    .have e8:A.take l=A:=MU E5;have i6:¬((l:Int)<(A.length:Int)):=E5;have g4:=Kz e8;clear e8;go_wp2
     go_roundw
     case rel=>
      refine⟨i+1,λp=>if p=i then z else V p,E5,F3,F,Kz λp q=>?_,B⟩;by_cases e:p=i
      .subst e;dsimp only;rw[if_pos E5,if_pos rfl,<-HX.o];rcases a2.o with⟨rfl,t⟩|⟨rfl,t⟩
       .exact d_.hit d4 a5.o b7.o t
       .refine d_.miss d4 a5.o b7.o λ⟨G,c⟩=>?_;rw[g4.o] at t;exact t G ((e3.o.2 G).2 c.1) c
      .dsimp only;rw[if_neg e];have h:=e7.o p q;by_cases O:p<i
       .rw[Nz O] at h;rw[Nz E5];exact h
       .rw[NA O] at h;rw[NA E5];exact h
     case measure=>simp[intOf];omega
    obtain⟨i7,i8,e1,g5,c3⟩:=R.o l S;cases e1;obtain⟨s,hs⟩:=aj (A.getD l ByteArray.empty);rw[<-hs] at c3;have c4:A[l]=s:=by rw[hs];simp[List.getD,S]
    have a1:=Kz c4;have c5:Hid (bG (Kk Kq) (Qq sl) x s):=(e3.o.2 s).1 (by rw[<-c4];exact Mw S);clear hs c4;have i9:(l:Int)<(A.length:Int):=E5;obtain⟨_,c1,c2,y0,y1⟩:=J.o _ B;have T:Hid (∀w',K_ wr w'->M4 w' lb (lo+l) (.string s)/\M4 w' (w.heap.size+1) 0 (.slice D rn rc)/\M4 w' (w.heap.size+1) 1 (.slice (some ⟨X,Y,none⟩) sl.length dc)/\Hid (gu w' I sl.length λp=>if p=i then z else V p)):=λw' K=>⟨(K.cell g5).trans c3,(J.o w' (B.trans K)).2.1,(J.o w' (B.trans K)).2.2.1,Kz (F.o.kept K)⟩
    go_upto_region 13 with fail
    clear c1 c2 y0 y1 c3;by_cases hn:n=1
    .have HN:=Kz hn;have g6:((n:Int) == 1)=true:=by simp[hn]
     have g7:¬((1:Int)<(n:Int)):=E5;clear hn;cases e9:(s.toList == f.toList)
     .have U:Hid (¬Hit (bG (Kk Kq) (Qq sl)) f n x s):=λh=>by
       rcases h.2 with⟨_,e⟩|⟨e,_⟩
       .exact jN e9 e
       .have:=HN.o;omega
      refine bF 35 T.o λQ k b=>?_
      refine ak 0 b ?_;refine ak 4 b ?_;refine ak 8 b ?_;refine ae 12 b ?_;refine ae 13 b ?_;refine aB 14 b ?_;refine aB 15 b ?_;refine aB 16 b ?_;refine aB 17 b ?_;refine aB 18 b ?_;refine aB 19 b ?_;refine ae 20 b ?_;refine ae 21 b ?_;refine aB 22 b ?_;refine aB 23 b ?_;refine aB 24 b ?_;refine aB 25 b ?_;refine aB 26 b ?_;refine aB 27 b ?_;refine aB 28 b ?_;refine aB 29 b ?_;refine aB 30 b ?_;refine aB 31 b ?_;refine aB 32 b ?_;refine aB 33 b ?_;refine ae 34 b ?_;refine ai 35 λK j=>?_;go_simp
      refine af j (λh=>NB rfl h) ?_;clear j K;refine aC ?_;go_wp2
      go_roundw
      case rel=>
       refine⟨l+1,z,E5,F3,Kz (F.o.kept k),Kz ?_,Kz (R.o.kept k),B.trans k⟩;rcases a2.o with h|⟨y,t⟩
       .exact .inl h
       .refine .inr ⟨y,λG c=>?_⟩;rw[Ms S,a1.o] at c;rcases Mv.1 c with c|c
        .exact t G c
        .rw[Mt] at c;rw[c];exact U.o
      case measure=>simp[intOf];omega
     .have c6:Hid (Hit (bG (Kk Kq) (Qq sl)) f n x s):=⟨c5.o,.inl ⟨HN.o,fC e9⟩⟩;refine bF 35 T.o λQ k b=>?_
      refine ak 0 b ?_;refine ak 4 b ?_;refine ae 8 b ?_;refine ae 9 b ?_;refine ae 10 b ?_;refine aB 11 b ?_;refine aB 12 b ?_;refine aB 13 b ?_;refine aB 14 b ?_;refine aB 15 b ?_;refine aB 16 b ?_;refine aB 17 b ?_;refine aB 18 b ?_;refine aB 19 b ?_;refine aB 20 b ?_;refine aB 21 b ?_;refine aB 22 b ?_;refine aB 23 b ?_;refine aB 24 b ?_;refine aB 25 b ?_;refine aB 26 b ?_;refine aB 27 b ?_;refine aB 28 b ?_;refine aB 29 b ?_;refine aB 30 b ?_;refine aB 31 b ?_;refine aB 32 b ?_;refine aB 33 b ?_;refine aB 34 b ?_;refine ai 35 λK j=>?_;go_simp
      refine af j (λh=>absurd rfl h) ?_;clear j K;refine aC ?_;have C:=Kz (F.o.kept k);have c7:=Kz (R.o.kept k);have a6:=World.rowIs.cell C.o a4;have g8:=World.rowIs.frozen C.o i;have fz:=C.o.lt;dsimp only at a6;rw[if_pos rfl] at a6;go_wp2
      go_roundw
      case rel=>
       refine⟨l+1,n,E5,F3,Kz ?_,Kz (.inl ⟨rfl,s,c6.o⟩),Kz (C.o.strs c7.o i _),Below.setCell (B.trans k) (p:=⟨I,i,none⟩) d3 _⟩;exact World.rowIs.congr (C.o.put i n) (λp q=>by by_cases e:p=i<;>simp[e])
      case measure=>simp[intOf];omega
    .have HN:=Kz hn;have g6:((n:Int) == 1)=false:=F6;have g7:(1:Int)<(n:Int):=E5;clear hn;by_cases M:aQ f s
     .have j0:IntKind.i64.wrap ((n:Int)-1)= (n:Int)-1:=J7;have f1:Hid (aQ f s):=M;have f2:Op.bytesLess s.toList f.toList=false:=by
       cases h:Op.bytesLess s.toList f.toList
       .rfl
       .exact NB (show aQ s f from h) (eU M)
      have g9:(s.toList == f.toList)=false:=by
       cases h:(s.toList == f.toList)
       .rfl
       .exact NB M (by rw[fC h];exact a_ _)
      clear M;refine bF 35 T.o λQ k b=>?_
      refine ae 0 b ?_;refine ae 1 b ?_;refine ae 2 b ?_;refine aB 3 b ?_;refine aB 4 b ?_;refine aB 5 b ?_;refine aB 6 b ?_;refine aB 7 b ?_;refine aB 8 b ?_;refine ak 9 b ?_;refine ak 13 b ?_;refine ak 17 b ?_;refine ak 21 b ?_;refine ae 25 b ?_;refine ae 26 b ?_;refine ae 27 b ?_;refine ae 31 b ?_;refine ae 32 b ?_;refine aG 28 λK j=>?_;go_simp
      go_at_call 69
      refine (gY Q D rn rc (some ⟨X,Y,none⟩) dc sl s d1 (hS.kept (a3.o.trans (B.trans k)))).mono ?_;rintro e w3 ⟨⟨W,rfl,hq⟩,k3⟩;have H:=k.trans k3;obtain⟨v,a9,rfl,h0,c8⟩:∃v:Nat,v<sl.length/\W= (v:Int)/\Qq sl s=some (sl.getD v Q_.zero)/\(sl.getD v Q_.zero).name=s:=by
       rcases hq with⟨v,y,t,h1,h2⟩|⟨_,y⟩
       .exact⟨v,y,t,h1,h2⟩
       .obtain⟨_,_,_,_,_,_,_,j1,hy,_⟩:=c5.o;rw[y] at hy;cases hy
      clear hq;have b0:=World.rowIs.cell (F.o.kept H) a9;dsimp only at b0;have j2:=(F.o.kept H).lt;have j3:(v:Int)<(sl.length:Int):=E5;have j4:(0:Int)<=(v:Int):=E5;obtain⟨W,a7⟩:=aj ((if v=i then z else V v));rw[<-a7] at b0;have HQ:Hid (W=n-1↔eB (bG (Kk Kq) (Qq sl)) f (n-1) s):=by
       show W=n-1↔_;by_cases e:v=i
       .have h3:s=x:=by rw[HX.o,<-e];exact c8.symm
        rw[a7,Nz e,h3];refine⟨λh=>?_,λh=>?_⟩
        .rcases a2.o with⟨y,_⟩|⟨y,_⟩<;>omega
        .have:=(a5.o.2 b7.o).2 (n-1) E5 h;have:=h.1.pos;omega
       .rw[a7,NA e];have h:=e7.o v a9;have O:runN sl v=s:=c8;rw[O] at h;exact h.ask f1.o E5 (by split<;>omega)
      have f3:=Kz a7;clear a7 h0 c8;dsimp only;refine af j (λ_=>T.o _ H) ?_;clear j K;clear b;have b:=T.o _ H;by_cases b1:W=n-1
      .have h4:((W:Int) == (n:Int)-1)=true:=F6;have c6:Hid (Hit (bG (Kk Kq) (Qq sl)) f n x s):=⟨c5.o,.inr ⟨E5,f1.o,HQ.o.1 b1⟩⟩;clear b1;refine ae 29 b ?_;refine cK 30 ?_ b ?_ ?_;rotate_left
       .intro u hu;try dsimp only at hu
        have f9:=World.rowIs.cell hu.2.2.2.out a9;try dsimp only at f9
        rw[<-f3.o] at f9;go_simp
        try with_reducible rfl
       try simp only[upP]
       refine ae 33 b ?_;refine ae 34 b ?_;refine ai 35 λK j=>?_;go_simp
       refine af j (λh=>absurd rfl h) ?_;clear j K;refine aC ?_;clear b b0;have C:=Kz (F.o.kept H);have c7:=Kz (R.o.kept H);have a6:=World.rowIs.cell C.o a4;have g8:=World.rowIs.frozen C.o i;have fz:=C.o.lt;dsimp only at a6;rw[if_pos rfl] at a6;go_wp2
       go_roundw
       case rel=>
        refine⟨l+1,n,E5,F3,Kz ?_,Kz (.inl ⟨rfl,s,c6.o⟩),Kz (C.o.strs c7.o i _),Below.setCell (B.trans H) (p:=⟨I,i,none⟩) d3 _⟩;exact World.rowIs.congr (C.o.put i n) (λp q=>by by_cases e:p=i<;>simp[e])
       case measure=>simp[intOf];omega
      .have h4:((W:Int) == (n:Int)-1)=false:=F6;have U:Hid (¬Hit (bG (Kk Kq) (Qq sl)) f n x s):=λh=>by
        rcases h.2 with⟨e,_⟩|⟨_,_,e⟩
        .exact HN.o e
        .exact b1 (HQ.o.2 e)
       clear b1;refine ae 29 b ?_;refine cK 30 ?_ b ?_ ?_;rotate_left
       .intro u hu;try dsimp only at hu
        have f9:=World.rowIs.cell hu.2.2.2.out a9;try dsimp only at f9
        rw[<-f3.o] at f9;go_simp
        try with_reducible rfl
       try simp only[upP]
       refine ae 33 b ?_;refine ae 34 b ?_;refine ai 35 λK j=>?_;go_simp
       refine af j (λh=>NB rfl h) ?_;clear j K;refine aC ?_;clear b b0;go_wp2
       go_roundw
       case rel=>
        refine⟨l+1,z,E5,F3,Kz (F.o.kept H),Kz ?_,Kz (R.o.kept H),B.trans H⟩;rcases a2.o with h|⟨y,t⟩
        .exact .inl h
        .refine .inr ⟨y,λG c=>?_⟩;rw[Ms S,a1.o] at c;rcases Mv.1 c with c|c
         .exact t G c
         .rw[Mt] at c;rw[c];exact U.o
       case measure=>simp[intOf];omega
     .have f4:=Kz M;have h5:Op.bytesLess s.toList f.toList=true\/(Op.bytesLess s.toList f.toList=false/\(s.toList == f.toList)=true):=by
       rcases dR s f with h|h|h
       .exact .inl h
       .right
        subst h;exact⟨by cases t:Op.bytesLess s.toList s.toList;rfl;exact NB (show aQ s s from t) (a_ s),E9⟩
       .exact NB h M
      clear M;rcases h5 with f2|⟨f2,g9⟩
      .have U:Hid (¬Hit (bG (Kk Kq) (Qq sl)) f n x s):=λh=>by
        rcases h.2 with⟨e,_⟩|⟨_,e,_⟩
        .exact HN.o e
        .exact f4.o e
       refine bF 35 T.o λQ k b=>?_
       refine ae 0 b ?_;refine ae 1 b ?_;refine ae 2 b ?_;refine aB 3 b ?_;refine aB 4 b ?_;refine aB 5 b ?_;refine aB 6 b ?_;refine aB 7 b ?_;refine aB 8 b ?_;refine ak 9 b ?_;refine ak 13 b ?_;refine ak 17 b ?_;refine ae 21 b ?_;refine aB 22 b ?_;refine aB 23 b ?_;refine aB 24 b ?_;refine aB 25 b ?_;refine aB 26 b ?_;refine aB 27 b ?_;refine aB 28 b ?_;refine aB 29 b ?_;refine aB 30 b ?_;refine aB 31 b ?_;refine aB 32 b ?_;refine aB 33 b ?_;refine ae 34 b ?_;refine ai 35 λK j=>?_;go_simp
       refine af j (λh=>NB rfl h) ?_;clear j K;refine aC ?_;go_wp2
       go_roundw
       case rel=>
        refine⟨l+1,z,E5,F3,Kz (F.o.kept k),Kz ?_,Kz (R.o.kept k),B.trans k⟩;rcases a2.o with h|⟨y,t⟩
        .exact .inl h
        .refine .inr ⟨y,λG c=>?_⟩;rw[Ms S,a1.o] at c;rcases Mv.1 c with c|c
         .exact t G c
         .rw[Mt] at c;rw[c];exact U.o
       case measure=>simp[intOf];omega
      .have U:Hid (¬Hit (bG (Kk Kq) (Qq sl)) f n x s):=λh=>by
        rcases h.2 with⟨e,_⟩|⟨_,e,_⟩
        .exact HN.o e
        .exact f4.o e
       refine bF 35 T.o λQ k b=>?_
       refine ae 0 b ?_;refine ae 1 b ?_;refine ae 2 b ?_;refine aB 3 b ?_;refine aB 4 b ?_;refine aB 5 b ?_;refine aB 6 b ?_;refine aB 7 b ?_;refine aB 8 b ?_;refine ak 9 b ?_;refine ak 13 b ?_;refine ak 17 b ?_;refine ae 21 b ?_;refine aB 22 b ?_;refine aB 23 b ?_;refine aB 24 b ?_;refine aB 25 b ?_;refine aB 26 b ?_;refine aB 27 b ?_;refine aB 28 b ?_;refine aB 29 b ?_;refine aB 30 b ?_;refine aB 31 b ?_;refine aB 32 b ?_;refine aB 33 b ?_;refine ae 34 b ?_;refine ai 35 λK j=>?_;go_simp
       refine af j (λh=>NB rfl h) ?_;clear j K;refine aC ?_;go_wp2
       go_roundw
       case rel=>
        refine⟨l+1,z,E5,F3,Kz (F.o.kept k),Kz ?_,Kz (R.o.kept k),B.trans k⟩;rcases a2.o with h|⟨y,t⟩
        .exact .inl h
        .refine .inr ⟨y,λG c=>?_⟩;rw[Ms S,a1.o] at c;rcases Mv.1 c with c|c
         .exact t G c
         .rw[Mt] at c;rw[c];exact U.o
       case measure=>simp[intOf];omega
theorem iH{Kq:List Qz}{sl:List Q_}(x y:NL)(h:bG (Kk Kq) (Qq sl) x y):x∈sl.map (·.name):=by
 let⟨r,A,d,_⟩:=h;have a:=aZ d;rw[<-a.2];exact MM.2 ⟨r,a.1,rfl⟩
theorem BI{sl:List Q_}(a:dB sl){i:Nat}(hi:i<sl.length){x:NL}(b:x=runN sl i):∀y∈(sl.take i).map (·.name),aQ y x:=λy c=>by
 obtain⟨r,d,rfl⟩:=MM.1 c;obtain⟨j,f,rfl⟩:=List.mem_take_iff_getElem.1 d;have e:j<i:=E5;rw[b,show runN sl i=sl[i].name by simp[runN,List.getD,hi]];exact Mx.1 a j i E5 hi e
def JO(Kq:List Qz)(sl:List Q_)(w w':NN)(e:Ending):Prop:=∃av cv ns,e=.returned (.slice av ns.length cv)/\ns.length<=cv/\Strs w' av ns/\jB (bG (Kk Kq) (Qq sl)) (sl.map (·.name)) ns/\K_ w w'
theorem sO(w:NN)(a:NM)(cap:Nat)(Kq:List Qz)(B:NM)(rn rc:Nat)(d:NM)(dc:Nat)(sl:List Q_)(d2:Kq.length<=1048576)(f6:sl.length<=1000)(b1:bH (Kk Kq))(hg:dW Kq sl)(hN:bQ w a Kq)(hS:bN w d sl):Calls prog 62 #[.agg #[.slice a Kq.length cap],.agg #[.slice B rn rc,.slice d sl.length dc]] w λe w'=>JO Kq sl w w' e:=by
 let⟨C,N⟩:=aj ((w.alloc (.cells #[.slice a Kq.length cap] 25)).alloc (.cells #[.slice B rn rc,.slice d sl.length dc] 43));have kB:K_ w C:=by rw[N];exact (ah _ _).alloc _
 have f7:C.heap.size=w.heap.size+2:=by rw[N];simp
 have d3:C.cell? ⟨w.heap.size,0,none⟩=some (.slice a Kq.length cap):=by rw[N,K_.cell (w:=w.alloc (.cells #[.slice a Kq.length cap] 25)) (ah _ _) E9];exact X_ w _ _ 0 _ rfl
 have s0:C.cell? ⟨w.heap.size+1,0,none⟩=some (.slice B rn rc):=by have:=X_ (w.alloc (.cells #[.slice a Kq.length cap] 25)) #[.slice B rn rc,.slice d sl.length dc] 43 0 _ rfl;rw[MZ] at this;rw[N];exact this
 have s1:C.cell? ⟨w.heap.size+1,1,none⟩=some (.slice d sl.length dc):=by have:=X_ (w.alloc (.cells #[.slice a Kq.length cap] 25)) #[.slice B rn rc,.slice d sl.length dc] 43 1 _ rfl;rw[MZ] at this;rw[N];exact this
 have z0:w.heap.size<C.heap.size:=E5;have z1:w.heap.size+1<C.heap.size:=E5;have U:Hid (∀w',K_ C w'->M4 w' w.heap.size 0 (.slice a Kq.length cap)/\M4 w' (w.heap.size+1) 0 (.slice B rn rc)/\M4 w' (w.heap.size+1) 1 (.slice d sl.length dc)/\w.heap.size<w'.heap.size/\w.heap.size+1<w'.heap.size):=λw' K=>⟨(K.cell z0).trans d3,(K.cell z1).trans s0,(K.cell z1).trans s1,Mk z0 K.size,Mk z1 K.size⟩
 have d4:sl.length<=1048576:=E5;let⟨ic,f8,g0,g1,g2⟩:=aW Tryz.fA;let⟨W0,b2⟩:=aj (C.alloc (.cells #[] 9));have k0:K_ C W0:=by rw[b2];exact ah _ _
 have⟨O,a5⟩:=aH kB hg;go_enter func62,ntmps62
 go_upto_region 1 with fail
 rw[<-N];clear N;go_wp2
 rw[<-b2];clear b2;go_loopw [5,6] (λx5 x6 wr=>∃(i:Nat)(av:NM)(cv:Nat)(k:List NL),i<=sl.length/\x6=.a (i:Int)/\x5=.slice av k.length cv/\k.length<=cv/\Hid (Strs wr av k)/\Hid (jB (bG (Kk Kq) (Qq sl)) ((sl.take i).map (·.name)) k)/\K_ C wr) (λ_ x6 _=>sl.length-(intOf x6).toNat)
 case atStart=>exact⟨0,_,_,[],Ml _,rfl,rfl,Ml _,Kz λq hq=>NB hq (Nat.not_lt_zero q),Kz (jB.start _),k0⟩
 case round=>
  clear k0;obtain⟨i,av,cv,k,hi,rfl,rfl,d5,HB,HR,V⟩:=hrel;let⟨c0,c1,g3,y0,y1⟩:=U.o _ V;by_cases W:i<sl.length;rotate_left
  .have d6:i=sl.length:=E5;have g4:=Kz d6;have k3:¬((i:Int)<(sl.length:Int)):=E5;go_wp2
   go_ret
   refine⟨av,cv,k,rfl,d5,HB.o,?_,O.o.trans V⟩;have h:=HR.o;rw[g4.o,MS] at h;exact h
  have k5:(i:Int)<(sl.length:Int):=E5;let⟨X,Y,xa,xc,e1,k6,d7,_,_⟩:=(hS.kept (O.o.trans V)) i W;subst e1;let⟨x,hx⟩:=aj (runN sl i);have t0:=d7 0 _ rfl;rw[Ng] at t0;have d8:wr.cell? ⟨X,Y+i*7,none⟩=some (.string x):=by rw[hx];exact t0
  clear t0 d7;have t0:=d8;have HX:=Kz hx;clear hx;go_wp2_with fail
  refine (Gm wr a cap Kq B rn rc (some ⟨X,Y,none⟩) dc sl x d2 f6 b1 a5.o (hN.kept (O.o.trans V)) (hS.kept (O.o.trans V))).mono ?_;rintro e D ⟨fb,Z,rfl,hF,hV,k2⟩;have⟨HF,HV⟩:=aH hF hV;have E:=V.trans k2;clear hF hV c0 c1 g3 t0;dsimp only;have b3:Hid ((Z i≠0->eB (bG (Kk Kq) (Qq sl)) x (Z i) x)/\∀r,eB (bG (Kk Kq) (Qq sl)) x r x->Z i=r):=by
   have h:=HV.o i W;rw[<-HX.o] at h;exact d_.whole (names:=sl.map (·.name)) iH (by rw[Nt];exact h) (a_ x)
  have d9:=World.rowIs.cell HF.o W;try dsimp only at d9
  have fz:=HF.o.lt;have g5:=Kz (HB.o.kept k2);have e0:Hid ((sl.take (i+1)).map (·.name)= (sl.take i).map (·.name)++[x]):=by
   show _=_;rw[Ms W,ND,HX.o];simp[runN,List.getD,W]
  have g6:Hid (∀y∈(sl.take i).map (·.name),aQ y x):=BI a5.o.asc W HX.o;let⟨v,hv⟩:=aj (Z i);rw[<-hv] at d9 b3;have k7:=Kz hv;clear hv;by_cases P:v=0\/(0<k.length/\k.length<=v)
  .have a0:Hid (∀n,eB (bG (Kk Kq) (Qq sl)) x n x->k≠[]/\k.length<=n):=λn hn=>by
    have e:=b3.o.2 n hn;have hp:=hn.1.pos;rcases P with h|⟨t,l⟩
    .omega
    .exact⟨λg7=>by rw[g7] at t;simp at t,E5⟩
   have g8:((v:Int) == 0)=true\/(((v:Int) == 0)=false/\(0:Int)<(k.length:Int)/\(k.length:Int)<=(v:Int)):=by
    by_cases h0:v=0
    .exact .inl (by simp[h0])
    .refine .inr ⟨F6,?_⟩;rcases P with h|⟨t,l⟩
     .exact NB h h0
     .omega
   clear P;rcases g8 with h0|⟨h0,t,l⟩
   all_goals
    go_wp2
    go_roundw
    case rel=>exact⟨i+1,av,cv,k,E5,F3,rfl,d5,g5,Kz (by rw[e0.o];exact jB.skip HR.o a0.o g6.o),E⟩
    case measure=>simp[intOf];omega
  have g9:v≠0:=λh=>P (.inl h)
  have b4:=Kz (b3.o.1 g9);have h1:Hid (k=[]\/v<k.length):=by
   by_cases h:k.length=0
   .exact .inl (NE h)
   .refine .inr ?_;have l:¬(0<k.length/\k.length<=v):=λl=>P (.inr l)
    omega
  have h2:((v:Int) == 0)=false/\(¬((0:Int)<(k.length:Int))\/((0:Int)<(k.length:Int)/\¬((k.length:Int)<=(v:Int)))):=by
   refine⟨F6,?_⟩;have l:¬(0<k.length/\k.length<=v):=λl=>P (.inr l)
   omega
  have k8:v<=sl.length:=by have:=(b4.o).bound (names:=sl.map (·.name)) iH;rwa [Nt] at this
  clear P;let⟨W3,a6⟩:=aj (D.alloc (.cells #[.string x] 9));have K3:K_ D W3:=by rw[a6];exact ah _ _
  have h4:Hid (W3.ownsRow D.heap.size 9 1 (.b D.heap.size 1 1) [x].length ([x].map Value.string)):=by
   rw[a6];exact⟨rfl,.inr ⟨D.heap.size,1,_,rfl,Mj _,heap_alloc_new D _,Mj _,F5,rfl,rfl⟩⟩
  let⟨h0,h5⟩:=h2;rcases h5 with t|⟨t,l⟩
  all_goals
   go_upto_region 10 with fail
   rw[<-a6];clear a6;go_loopg [10] v (λgg b5 wr=>∃(c:List NL)(F:NL)(lv:NM)(H:Nat),b5=.slice lv c.length H/\Hid (oD (bG (Kk Kq) (Qq sl)) x v c F gg)/\Hid (wr.ownsRow D.heap.size 9 1 (.slice lv c.length H) c.length (c.map Value.string))/\K_ D wr)
   case atStart=>exact⟨[x],x,_,_,rfl,Kz (oD.start b4.o),h4,K3⟩
   case round=>
    obtain⟨c,F,lv,H,rfl,a1,HO,J⟩:=hrel;have e2:=a1.o.len;have e3:=a1.o.pos;by_cases b6:gk=1
    .have k9:¬((c.length:Int)<(v:Int)):=E5;have h6:Hid (mh (bG (Kk Kq) (Qq sl)) x v x c):=by have h:=a1.o;rw[b6] at h;exact h.done
     clear b6 e2 e3;let⟨a9,c9,Q,R⟩:=bO HO.o;simp only[Nb,true_and] at Q;rw[<-Q.1] at R;have H9:=Kz R;have h7:Hid (c.length<=H):=by
      rcases HO.o.2 with⟨e,h⟩|⟨_,_,_,e,_,_,h,_⟩
      .simp only[Nb] at e;show c.length<=H;omega
      .simp only[Nb] at e;show c.length<=H;omega
     clear Q R;go_wp2
     go_roundw
     case rel=>exact⟨i+1,lv,H,c,E5,F3,rfl,h7.o,H9,Kz (by rw[e0.o];exact jB.take HR.o b4.o h6.o h1.o),E.trans J⟩
     case measure=>simp[intOf];omega
    obtain⟨q,hq⟩:∃q,gk=q+1:=⟨gk-1,E5⟩;have e4:1<=q:=E5;have b7:Hid (oD (bG (Kk Kq) (Qq sl)) x v c F (q+1)):=by have h:=a1.o;rw[hq] at h;exact h
    have HQ:=Kz hq;have l1:(c.length:Int)<(v:Int):=E5;obtain⟨r,hm⟩:∃r,c.length=r+1:=⟨c.length-1,by have h:=a1.o.last;let⟨l0,e⟩:=h;rw[e];simp⟩;have h8:(c.length:Int)-1= (r:Int):=E5;have h9:IntKind.i64.wrap (r:Int)= (r:Int):=J7;have i0:(r:Int)<(c.length:Int):=E5;have b8:c.getD r ByteArray.empty=F:=by
     let⟨l0,e⟩:=a1.o.last;have b9:r=l0.length:=by rw[e,M_] at hm;simp at hm;omega
     rw[e,b9];simp[List.getD]
    let⟨a9,c9,Q,R⟩:=bO HO.o;simp only[Nb,true_and] at Q;rw[<-Q.1] at R;let⟨lb,lo,e1,e5,c2⟩:=R r E5;rw[b8] at c2;subst e1;have⟨l2,HM⟩:=aH b8 hm;clear Q R hq b8 hm b6 e2 e3;have c3:Hid (∀u,K_ wr u->(M4 u w.heap.size 0 (.slice a Kq.length cap)/\M4 u (w.heap.size+1) 0 (.slice B rn rc)/\M4 u (w.heap.size+1) 1 (.slice (some ⟨X,Y,none⟩) sl.length dc)/\M4 u lb (lo+r) (.string F))):=λu K=>⟨(U.o u (E.trans (J.trans K))).1,(U.o u (E.trans (J.trans K))).2.1,(U.o u (E.trans (J.trans K))).2.2.1,(K.cell e5).trans c2⟩
    go_upto_region 11 with fail
    refine bF 9 c3.o λwd L b=>?_
    refine ak 0 b ?_;refine ak 4 b ?_;refine aG 8 λK m=>?_;go_simp
    go_at_call 118
    refine (uM wd a cap Kq B rn rc (some ⟨X,Y,none⟩) dc sl F d2 d4 b1 a5.o (hN.kept (O.o.trans (E.trans (J.trans L)))) (hS.kept (O.o.trans (E.trans (J.trans L))))).mono ?_;rintro e w4 ⟨⟨nb,no,nc,M,rfl,l3,e6,c4⟩,k4⟩;have K4:=L.trans k4;dsimp only;refine af m (λ_=>c3.o _ K4) ?_;refine ai 9 λK m=>?_;go_simp
    refine af m (λh=>NB rfl h) ?_;refine aC ?_;have⟨a7,i1⟩:=aH c4 e6;have i2:=Kz (au HO.o K4);have i3:=Kz (HF.o.kept (J.trans K4));have a8:=J.trans K4;have l4:=c4.len b1 a5.o.env;clear c4 e6 c3 h8 h9 i0 c2 k4 e5;go_wp2
    go_loopw [10,12] (λb5 c6 wr=>∃z:Nat,z<=M.length/\c6=.a (z:Int)/\b5=.slice (some ⟨lb,lo,none⟩) c.length H/\Hid (∀y∈M.take z,¬(bG (Kk Kq) (Qq sl) F y/\aQ x y/\eB (bG (Kk Kq) (Qq sl)) x q y))/\K_ w4 wr) (λ_ c6 _=>M.length-(intOf c6).toNat)
    case atStart=>exact⟨0,Ml _,rfl,rfl,Kz (λy f=>by simp at f),K_.refl _⟩
    case round=>
     obtain⟨z,hk,rfl,rfl,b0,I⟩:=hrel;by_cases a2:z<M.length;rotate_left
     .exfalso
      let⟨y,t,l,h3⟩:=b7.o.more e4;have f:=(a7.o.2 y).2 t;refine b0.o y ?_ ⟨t,l,h3⟩;rw[MU E5];exact f
     let⟨l5,l6,e1,i4,c7⟩:=(i1.o.kept I) z a2;cases e1;let⟨s,hs⟩:=aj (M.getD z ByteArray.empty);rw[<-hs] at c7;have c8:M[z]=s:=by rw[hs];simp[List.getD,a2]
     have a0:=Kz c8;have e7:Hid (bG (Kk Kq) (Qq sl) F s):=(a7.o.2 s).1 (by rw[<-c8];exact Mw a2);clear hs;have l7:(z:Int)<(M.length:Int):=E5;have a3:Hid (∀u,K_ wr u->(M4 u nb (no+z) (.string s)/\M4 u (w.heap.size+1) 0 (.slice B rn rc)/\M4 u (w.heap.size+1) 1 (.slice (some ⟨X,Y,none⟩) sl.length dc)/\Hid (gu u fb sl.length Z))):=λu K=>⟨(K.cell i4).trans c7,(U.o u (E.trans (a8.trans (I.trans K)))).2.1,(U.o u (E.trans (a8.trans (I.trans K)))).2.2.1,Kz (i3.o.kept (I.trans K))⟩
     go_upto_region 15 with fail
     clear c7;by_cases S:aQ x s;rotate_left
     .have i5:=Kz S;have i6:Op.bytesLess s.toList x.toList=true\/(Op.bytesLess s.toList x.toList=false/\(s.toList == x.toList)=true):=by
       rcases dR s x with h|h|h
       .exact .inl h
       .right
        rw[h];exact⟨by cases l:Op.bytesLess x.toList x.toList;rfl;exact NB (show aQ x x from l) (a_ x),E9⟩
       .exact NB h S
      clear S;rcases i6 with e8|⟨e8,i7⟩
      all_goals
       refine bF 21 a3.o λwd L b=>?_
       refine ak 0 b ?_;refine ae 4 b ?_;refine ae 5 b ?_;refine ae 6 b ?_;refine aB 7 b ?_;refine aB 8 b ?_;refine aB 9 b ?_;refine aB 10 b ?_;refine aB 11 b ?_;refine aB 12 b ?_;refine aB 13 b ?_;refine aB 14 b ?_;refine aB 15 b ?_;refine aB 16 b ?_;refine aB 17 b ?_;refine aB 18 b ?_;refine aB 19 b ?_;refine aB 20 b ?_;refine ai 21 λK m=>?_;go_simp
       refine af m (λh=>NB rfl h) ?_;refine aC ?_;go_wp2
       go_roundw
       case rel=>exact⟨z+1,E5,F3,rfl,Kz (λy f=>by
        rw[Ms a2,a0.o] at f;rcases Mv.1 f with f|f
        .exact b0.o y f
        .rw[Mt] at f;rw[f];exact λh=>i5.o h.2.1),I.trans L⟩
       case measure=>simp[intOf];omega
     have e9:Hid (aQ x s):=S;have e8:Op.bytesLess s.toList x.toList=false:=by
      cases h:Op.bytesLess s.toList x.toList
      .rfl
      .exact NB (show aQ s x from h) (eU S)
     have i7:(s.toList == x.toList)=false:=by
      cases h:(s.toList == x.toList)
      .rfl
      .exact NB S (by rw[fC h];exact a_ _)
     clear S;have l8:(v:Int)-(c.length:Int)= (q:Int):=by have:=b7.o.len;omega
     have l9:IntKind.i64.wrap (q:Int)= (q:Int):=J7;refine bF 21 a3.o λwd L b=>?_
     refine ak 0 b ?_;refine ak 4 b ?_;refine ak 8 b ?_;refine ae 12 b ?_;refine ak 16 b ?_;refine aG 13 λK m=>?_;go_simp
     go_at_call 69
     refine (gY wd B rn rc (some ⟨X,Y,none⟩) dc sl s d4 (hS.kept (O.o.trans (E.trans (a8.trans (I.trans L)))))).mono ?_;rintro e T ⟨⟨q5,rfl,f0⟩,i8⟩;have K5:=L.trans i8;obtain⟨A,d0,rfl,i9,f1⟩:∃A:Nat,A<sl.length/\q5= (A:Int)/\Qq sl s=some (sl.getD A Q_.zero)/\(sl.getD A Q_.zero).name=s:=by
      rcases f0 with⟨A,t,l,h3,j0⟩|⟨_,t⟩
      .exact⟨A,t,l,h3,j0⟩
      .obtain⟨_,_,_,_,_,_,_,y,f,_⟩:=e7.o;rw[t] at f;cases f
     clear f0;have m0:(A:Int)<(sl.length:Int):=E5;have m1:(0:Int)<=(A:Int):=E5;let⟨p,hp⟩:=aj (Z A);have f2:Hid (p=q↔eB (bG (Kk Kq) (Qq sl)) x q s):=by
      show p=q↔_;have h:=HV.o A d0;have b9:runN sl A=s:=f1;rw[b9] at h;have l:=d_.whole (names:=sl.map (·.name)) iH (by rw[Nt];exact h) (eU e9.o);rw[<-hp] at l;exact⟨λe=>by have h3:=l.1 E5;rw[e] at h3;exact h3,λhf=>l.2 q hf⟩
     have f3:=Kz hp;clear hp;dsimp only;refine af m (λ_=>a3.o _ K5) ?_;have b:=a3.o _ K5;by_cases a4:p=q
     .have j1:((p:Int) == (q:Int))=true:=by simp[a4]
      have j2:Hid (iD (λy=>bG (Kk Kq) (Qq sl) F y/\aQ x y/\eB (bG (Kk Kq) (Qq sl)) x q y) s):=by
       have h:=Ck (p:=λy=>bG (Kk Kq) (Qq sl) F y/\aQ x y/\eB (bG (Kk Kq) (Qq sl)) x q y) a7.o.1 (λy f=>(a7.o.2 y).2 f.1) a2 (by rw[a0.o];exact⟨e7.o,e9.o,f2.o.1 a4⟩) b0.o;rw[a0.o] at h;exact h
      clear a4;refine ae 14 b ?_;refine cK 15 ?_ b ?_ ?_;rotate_left
      .intro u G;try dsimp only at G
       have f9:=World.rowIs.cell G.2.2.2.out d0;try dsimp only at f9
       rw[<-f3.o] at f9;go_simp
       try with_reducible rfl
      try simp only[upP]
      refine ae 20 b ?_;refine ai 21 λK m=>?_;go_simp
      refine af m (λh=>NB rfl h) ?_;refine aC ?_;have c5:=(a3.o _ K5).1;have k1:K_ T (T.alloc (.cells #[.string s] 9)):=ah _ _;have f4:=Kz (au i2.o (I.trans (K5.trans k1)));have KK:=Kz (a8.trans (I.trans (K5.trans k1)));have j3:=KK.out.size;have j4:Hid (∀j u,([.string s]:List NP)[j]? =some u->(T.alloc (.cells #[.string s] 9)).cell? ((⟨T.heap.size,0,none⟩:Addr).add j)=some u):=λj u G=>by rw[Nf];exact X_ T #[.string s] 9 j u G
      have j5:Hid (∀u∈([.string s]:List NP),u.oneCell'=true):=λu G=>by simp only[Nh,Ni,or_false] at G;subst G;rfl
      clear k1;go_wp2_with (at_builtin;refine wpList_append_own _ rfl (.tmp 91) (.tmp 96) 26 rfl D.heap.size 9 ic _ 1 16 underlying26 f8 g0 g1 g2 rfl E8 (.slice (some ⟨lb,lo,none⟩) c.length H) c.length (c.map Value.string) rfl f4.o ⟨T.heap.size,0,none⟩ 1 1 [.string s] rfl rfl j4.o j5.o F5 E5 j3 ?_;intro v' w6 d1 f5 _;have KP:=aK KK.out (Mj _) f4.o f5;have j6:=Kz d1;obtain⟨j7,j8,rfl⟩:=aF d1;clear d1 f5)
      go_roundg q
      case measure=>have:=HQ.o;omega
      case rel=>exact⟨c++[s],s,j7,j8,by rw[M_];rfl,Kz (b7.o.next e4 j2.o),Kz (by rw[ND,M_];exact j6.o),KP⟩
     .have j1:((p:Int) == (q:Int))=false:=F6;have j9:Hid (¬eB (bG (Kk Kq) (Qq sl)) x q s):=λh=>a4 (f2.o.2 h)
      clear a4;refine ae 14 b ?_;refine cK 15 ?_ b ?_ ?_;rotate_left
      .intro u G;try dsimp only at G
       have f9:=World.rowIs.cell G.2.2.2.out d0;try dsimp only at f9
       rw[<-f3.o] at f9;go_simp
       try with_reducible rfl
      try simp only[upP]
      refine ae 20 b ?_;refine ai 21 λK m=>?_;go_simp
      refine af m (λh=>NB rfl h) ?_;refine aC ?_;go_wp2
      go_roundw
      case rel=>exact⟨z+1,E5,F3,rfl,Kz (λy f=>by
       rw[Ms a2,a0.o] at f;rcases Mv.1 f with f|f
       .exact b0.o y f
       .rw[Mt] at f;rw[f];exact λh=>j9.o h.2.2),I.trans K5⟩
      case measure=>simp[intOf];omega
section
variable {E:NL -> NL -> Prop}
theorem mR.all{g:NL}{n:Nat}{a:NL}{l:List NL}(h:mR E g n a l):aX E n a g->l.length=n/\1<=n/\(∀i,i<n->aX E (n-i) (l.getD i ByteArray.empty) g)/\(∀i,i+1<n->E (l.getD i ByteArray.empty) (l.getD (i+1) ByteArray.empty))/\l.getD 0 ByteArray.empty=a:=by
 induction h with
 |stop a=>
  intro b;exact⟨rfl,Mj _,λi c=>(by obtain rfl:i=0:=E5;exact b),λi c=>E5,rfl⟩
 |@step n a x l h r ih=>
  intro b;let⟨d,m,f,j,k⟩:=ih h.1.2.1;refine⟨by rw[Nc,d],E5,λi c=>?_,λi c=>?_,rfl⟩
  .cases i with
   |zero=>exact b
   |succ i=>
    have:=f i E5;have e:n+1-(i+1)=n-i:=E5;rw[e];exact this
  .cases i with
   |zero=>
    have e:(a :: l).getD 1 ByteArray.empty=l.getD 0 ByteArray.empty:=rfl;rw[MR,e,k];exact h.1.1
   |succ i=>exact j i E5
structure JN (E:NL->NL->Prop)(l:List NL):Prop where
 next:∀i,i<l.length->E (l.getD i ByteArray.empty) (l.getD ((i+1) % l.length) ByteArray.empty)
 diff:∀i j,j<i->i<l.length->l.getD j ByteArray.empty≠l.getD i ByteArray.empty
 least:∀i,i<l.length->¬aQ (l.getD i ByteArray.empty) (l.getD 0 ByteArray.empty)
 on:∀i,i<l.length->OnC E (l.getD i ByteArray.empty)
theorem Il{l:List NL}(t:om E l):JN E l/\(l=[]->∀x,¬OnC E x):=by
 rcases t with⟨h,rfl⟩|⟨m,H,h,v,n,w⟩
 .exact⟨⟨λi a=>by simp at a,λi j _ a=>by simp at a,λi a=>by simp at a,λi a=>by simp at a⟩,λ_ x y=>by let⟨z,A⟩:=y;exact h x (z+1) E5 A⟩
 .obtain⟨d,_,p,q,f⟩:=w.all n.1;have r:∀k j,j+k<m->aX E k (l.getD j ByteArray.empty) (l.getD (j+k) ByteArray.empty):=λk=>by
   induction k with
   |zero=>intro j _;exact .here _
   |succ k ih=>
    intro j B;have:=(ih j E5).trans (aX.one (q (j+k) E5));exact this
  have round:∀i,i<m->aX E m (l.getD i ByteArray.empty) (l.getD i ByteArray.empty):=λi a=>by
   have c:=r i 0 E5;rw[MR,f] at c;have:=(p i a).trans c;have e:m-i+i=m:=E5;rw[e] at this;exact this
  refine⟨⟨λi a=>?_,λi j B a e=>?_,λi a=>?_,λi a=>⟨m-1,?_⟩⟩,λe=>?_⟩
  .by_cases s:i+1<m
   .rw[d,Nat.mod_eq_of_lt s];exact q i s
   .have C:i+1=m:=E5;rw[d,C,Nat.mod_self,f];have:=p i E5;have e:m-i=1:=E5;rw[e] at this;let⟨b,D,F⟩:=this.first
    rw[<-F.zero];exact D
  .have c:=r (i-j) j E5;have G:j+(i-j)=i:=E5;rw[G,<-e] at c;have:=v _ (i-j) E5 c;omega
  .rw[f];exact n.2 _ (round i E5)
  .have:=round i E5;have e:m-1+1=m:=E5;rw[e];exact this
  .rw[e] at d;simp at d;omega
end
section
variable {L:List Qz}{Kj:List NL}{sl:List Q_}{c ss:List NL}
end
variable {x:NL}
theorem Fx{E:NL->NL->Prop}{names:List NL}(h:∀x∈names,∃y,y∈names/\E x y)(a:x∈names):IK E x:=by
 classical
 obtain⟨f,b⟩:∃f:NL->NL,∀x∈names,f x∈names/\E x (f x):=⟨λx=>if h':x∈names then Classical.choose (h x h') else x,λx a=>by
  have:=Classical.choose_spec (h x a);simp only[dif_pos a];exact this⟩
 obtain⟨s,c,d⟩:∃s:Nat->NL,s 0=x/\∀k,s (k+1)=f (s k):=⟨λk=>Nat.rec x (λ_ y=>f y) k,rfl,λ_=>rfl⟩;have l:∀k,s k∈names:=λk=>by
  induction k with
  |zero=>rw[c];exact a
  |succ k ih=>rw[d];exact (b _ ih).1
 have n:∀m k,aX E m (s k) (s (k+m)):=λm=>by
  induction m with
  |zero=>intro k;exact .here _
  |succ m ih=>
   intro k;have r:=ih (k+1);have e:k+(m+1)=k+1+m:=E5;rw[e];exact .step (by rw[d];exact (b _ (l k)).2) r
 have t:∃i j,i<j/\s i=s j:=Classical.byContradiction λv=>by
  have w:((List.range (names.length+1)).map s).Nodup:=by
   rw[List.Nodup,List.pairwise_map];exact List.pairwise_lt_range.imp λz e=>v ⟨_,_,z,e⟩
  have:=List.Nodup.length_le_of_subset w (l₂:=names) (λy A=>by
   obtain⟨j,_,rfl⟩:=MM.1 A;exact l j)
  simp at this;omega
 let⟨i,j,D,e⟩:=t;have p:=n (j-i) i;have B:i+(j-i)=j:=E5;rw[B,<-e] at p;have q:=n i 0;rw[MR,c] at q;have C:j-i-1+1=j-i:=E5;exact⟨s i,i,q,j-i-1,by rw[C];exact p⟩
def IE(T:List Q_):List NL:=(T.filter λr=>!r.over).map (·.name)
theorem BK{W:dC}{σ:Env}:∀{l:List NL},Yz W σ l=none->∃y∈l,bD W σ y=none
 |[],h=>by cases h
 |a :: l,h=>by
  unfold Yz at h;cases b:bD W σ a with
  |none=>exact⟨a,E9,b⟩
  |some x=>
   cases c:Yz W σ l with
   |none=>let⟨y,d,e⟩:=BK c;exact⟨y,by simp[d],e⟩
   |some ys=>simp[b,c] at h
section
variable {L:List Qz}{Kj ro ss:List NL}{T:List Q_}{o:mG}
theorem ut(d:dB T):x∈IE T↔sI (Qq T) x:=by
 unfold IE sI;simp only[MM,List.mem_filter,Bool.not_eq_true'];constructor
 .rintro⟨r,⟨a,c⟩,rfl⟩;exact⟨r,bJ d a,c⟩
 .rintro⟨r,a,c⟩;exact⟨r,⟨(aZ a).1,c⟩,(aZ a).2⟩
theorem Gp(f:bR L Kj T)(p:AtEnd (bn (Kk L)) (Qq T))(s:sI (Qq T) x):∃y,sI (Qq T) y/\bG (Kk L) (Qq T) x y:=by
 let⟨r,b,c⟩:=s;have t:=(aZ b).2;let⟨A,d,_⟩:=(f.good.good r (aZ b).1).act;have i:¬aS (Kk L) (Qq T) r:=λv=>p x ⟨r,b,v⟩
 have j:r.Zq≠0:=λe=>i ⟨c,.inl e⟩
 have w:Yz (Kk L) (Qq T) (stepOf A r.at').asks=none:=by
  cases h:Yz (Kk L) (Qq T) (stepOf A r.at').asks with
  |none=>rfl
  |some xs=>exact NB ⟨c,.inr ⟨A,xs,d,h⟩⟩ i
 let⟨y,k,a⟩:=BK w;rw[t] at d;have z:(Kk L y).isSome=true:=by
  unfold bD at a;cases h:Kk L y with
  |none=>rw[h] at a;cases a
  |some B=>rfl
 have l:=f.asked x r A b c j d y k z;have m:sI (Qq T) y:=by
  cases h:Qq T y with
  |none=>rw[h] at l;cases l
  |some q=>
   refine⟨q,h,?_⟩;cases C:q.over with
   |false=>rfl
   |true=>
    unfold bD at a;cases n:Kk L y with
    |none=>rw[n] at a;cases a
    |some B=>rw[n,h] at a;simp[C] at a
 exact⟨y,m,r,A,b,c,j,d,k,m⟩
theorem FZ(a:bR L Kj T)(b:AtEnd (bn (Kk L)) (Qq T))(c:sI (Qq T) x):IK (bG (Kk L) (Qq T)) x:=Fx (names:=IE T) (λy d=>by
  let⟨z,f,h⟩:=Gp a b ((ut a.good.asc).1 d);exact⟨z,(ut a.good.asc).2 f,h⟩) ((ut a.good.asc).2 c)
end
def mH(L:List Qz)(Kj:List NL)(T:List Q_):Prop:=dW L T/\∃k,bf (bn (Kk L)) (doX (Kk L)) (Qq (bu L Kj)) (Qq T) k
section
variable {L:List Qz}{Kj:List NL}{T:List Q_}{o:mG}{n:NL}{r:Q_}
theorem mH.start(a:bE L 0):mH L Kj (bu L Kj):=⟨gX (bV a) Kj,0,.here _⟩
theorem mH.valid(h:mH L Kj T)(b:bE L 0)(c:eP Kj):bR L Kj T:=by
 let⟨k,d⟩:=h.2;exact CK b c h.1 d
theorem mH.did(h:mH L Kj T)(d:bE L 0)(b:Qq T n=some r)(c:aS (Kk L) (Qq T) r):mH L Kj (doL (Kk L) T r):=by
 let⟨k,f⟩:=h.2;refine⟨CB (bV d) h.1 (aZ b).1 c,k+1,?_⟩;rw[qy h.1.asc b];exact f.snoc ⟨r,b,c⟩
theorem I_(b:dW L T)(a:Qq T n=some r)(f:aS (Kk L) (Qq T) r){x:Q_}(i:x∈T):∃y,Qq (doL (Kk L) T r) x.name=some y/\(x.name≠n->y=x)/\(x.name=n->y.Zq=x.Zq+1\/(x.Zq=20/\y.Zq=20/\y.over=true/\y.text=iT)):=by
 have d:=b.wf n r a;have c:=bJ b.asc i;rw[qy b.asc a,dY a];by_cases e:x.name=n
 .rw[Nz e];refine⟨_,rfl,λh=>NB e h,λ_=>?_⟩;rw[e,a] at c;obtain rfl:=Nl c;rcases DJ f (by rw[d.name];exact d.web) with h|⟨h1,h2⟩
  .exact .inl h
  .exact .inr (by rw[h2];exact⟨h1,h1,rfl,rfl⟩)
 .rw[NA e,c];exact⟨x,rfl,λ_=>rfl,λh=>NB h e⟩
theorem Jl(b:bR L Kj T)(f:dA (Kk L) (Qq T) T [])(i:gN L Kj T o):o.code=0\/(o.code=1/\0<o.chain.length/\nA L Kj T o.chain):=by
 rcases i.2 with⟨_,h⟩|⟨h,_⟩;rotate_left
 .exact NB b h
 rcases h.rest with⟨_,e,_⟩|⟨_,⟨x,c,d⟩,_⟩|⟨⟨x,c,a⟩,_,e,j⟩
 .exact .inl e
 .have:=(f.mem x.name).2 ⟨x,c,rfl,d⟩;cases this
 .refine .inr ⟨e,List.length_pos_iff.2 λl=>?_,i.1.2,.inl ⟨b,j⟩⟩;rw[h.res] at c;obtain⟨n,m,rfl⟩:=MM.1 c;rw[GJ] at a;have p:sI (Qq T) n:=by
   rcases b.Fj n m with⟨r,k,rfl⟩|h
   .refine⟨r,bJ b.good.asc k,?_⟩;unfold bD at a;rw[bJ b.good.asc k] at a;cases h:Kk L r.name with
    |none=>rw[h] at a;cases a
    |some B=>
     rw[h] at a;cases q:r.over with
     |false=>rfl
     |true=>simp[q] at a
   .unfold bD at a;rw[h] at a;cases a
  let⟨s,_,_,d⟩:=FZ b (GA b.good f) p;exact (Il j).2 l s d
end
def IY(P:Program)(gf:Nat)(lb:Array NP)(encs:Nat->Array NP)(V N:Nat->NN->Prop)(n:Nat)(ok:NN->Prop):Prop:=∀(l:Nat)(J:Nat->NN->Prop)(Jx:NN->Prop)(W:NN),ok W->
  (∀i W1,i<n->J i W1->(V i W1/\YieldAt Fence.wide 7 P l (encs i) W1 λe W'=>(e=.returned (.bool true)/\J (i+1) W')\/(e=.returned (.bool false)/\Jx W'))\/(N i W1/\J (i+1) W1))->
  J 0 W->CallsIn Fence.wide 8 P gf (#[.func (.yield l) #[] #[]]++lb) W λe W'=>(∃v,e=.returned v)/\(J n W'\/Jx W')
theorem Cj{P:Program}{g:Operand}{ps:Array Tmp}{assign body:Code}{Q:Exit->Act->NN->Prop}{a:Act}{w:NN}{E:Nat}{L:Array NP}{M:Nat->Array NP}{V N:Nat->NN->Prop}{n:Nat}{O:NN->Prop}(a7:IY P E L M V N n O)(hg:a.eval g=.func (.func E) #[] L)(eg:∀args w,(callFunc E args).run P w=.ok (.enter E args) w)(a1:Calm w.heap.size O)(a8:O w)(a9:∀i,(M i).size=ps.size)(I:Nat->NN->Prop)(R:Code->NN->Prop)(H:∀i,Calm w.heap.size (I i))(S:∀c,Calm w.heap.size (R c))(h0:I 0 w)(a₁:Nat->Act)(b0:∀(l i:Nat)(W:NN)(K:Act->NN->Prop),K (a₁ i) W->assign.wpIn (Fence.wide.inRound l) 7 P (Exit.then K λ_ _ _=>False) {tmps:=(ps.zip (M i)).foldl (λt (p,v)=>t.setIfInBounds p v) a.tmps,defers:=[]} W)(hV:∀i,Calm w.heap.size (V i))(b1:∀(i:Nat)(W:NN),i<n->I i W->(V i W/\∀l W',V i W'->I i W'->w.heap.size<=W'.heap.size->body.wpIn (Fence.wide.inRound l) 7 P (roundEnd w.heap.size (I (i+1)) R W') (a₁ i) W')\/(N i W/\I (i+1) W))(b2:∀(D:Nat)(W:NN),w.heap.size<=D->I n W->W.heap[D]? =some (.deferred (some []))->Q .normal {a with defers:={target:=.collected D,args:= #[]} :: a.defers} W)(b3:∀(D:Nat)(c:Code)(W:NN),w.heap.size<=D->R c W->W.heap[D]? =some (.deferred (some []))->c.wpIn Fence.wide 9 P Q {a with defers:={target:=.collected D,args:= #[]} :: a.defers} W):(Code.rangeFunc g ps assign body).wpIn Fence.wide 9 P Q a w:=by
 refine wpIn_rangeFunc λfn b4=>?_
 let⟨D,hD⟩:=aj w.heap.size;obtain⟨b,f⟩:∃b:LoopState->Option Code->Loop,b=λs q=>{state:=s,pending:=q,fn,tmps:=a.tmps,params:=ps,assign,body,defers:=D}:=⟨_,rfl⟩
 have es:∀s q x X,({b s q with state:=x,pending:=X}:Loop)=b x X:=λs q x X=>by rw[f]
 have b5:∀s q x,({b s q with state:=x}:Loop)=b x q:=λs q x=>by rw[f]
 obtain⟨h,Y⟩:∃h,(w.alloc (.deferred (some []))).alloc (.loop (b .ready none))=h:=⟨_,rfl⟩;have z1:w.heap.size<=(w.alloc (.deferred (some []))).heap.size:=by rw[MZ];omega
 have T:h.heap[D+1]? =some (.loop (b .ready none))/\h.heap[D]? =some (.deferred (some []))/\I 0 h/\O h:=by
  rw[<-Y,hD];refine⟨?_,?_,(H 0).1 _ _ z1 ((H 0).1 _ _ (Mj _) h0),a1.1 _ _ z1 (a1.1 _ _ (Mj _) a8)⟩
  .have:=World.alloc_heap_new (w.alloc (.deferred (some []))) (.loop (b .ready none))
   rwa [MZ] at this
  .exact (Below.heap_alloc _ _ _ E9).trans (World.alloc_heap_new w _)
 refine⟨D+1,[{target:=.collected D,args:= #[]}],h,{target:=.fn (.func E) L,args:= #[.func (.yield (D+1)) #[] #[]]},h,E,#[.func (.yield (D+1)) #[] #[]]++L,h,?_,?_,λ_ _=>trivial,?_,λ_=>E5,?_⟩
 .rw[<-Y,f,hD];exact run_enterLoop_outer _ _ _ _ _
 .simp only[resolve,hg];simp[go_sem]
 .simp[invoke,go_sem,eg]
 refine (a7 (D+1) (λi W=>I i W/\w.heap.size<=W.heap.size/\W.heap[D+1]? =some (.loop (b .ready none))/\W.heap[D]? =some (.deferred (some []))) (λW=>∃c,R c W/\W.heap[D+1]? =some (.loop (b .done (some c)))/\W.heap[D]? =some (.deferred (some []))) h T.2.2.2 ?_ ⟨T.2.2.1,by rw[<-Y];simp;omega,T.1,T.2.1⟩).mono ?_
 .rintro i W J ⟨a2,Z,e,F⟩;have b6:=(MX.1 e).1;rcases b1 i W J a2 with⟨a4,b7⟩|⟨b8,b9⟩
  .refine .inl ⟨a4,?_⟩;have hy:=run_yield (P:=P) (args:=M i) e (by rw[f];exact a9 i);rw[f] at hy;refine⟨fn,_,assign,body,hy,?_⟩;refine roundIn_of_wpIn b4 (b0 _ i W _ ⟨_,run_beginRound e (by rw[f]),?_⟩);obtain⟨m,G⟩:∃m,W.putObj (D+1) (.loop {b .ready none with state:=.busy})=m:=⟨_,rfl⟩;rw[G];have c0:m.heap[D+1]? =some (.loop (b .busy none)):=by rw[<-G,World.putObj_heap_same b6,b5]
   have c1:m.heap[D]? =some (.deferred (some [])):=by rw[<-G,World.putObj_heap_other E5];exact F
   have a5:w.heap.size<=m.heap.size:=by rw[<-G,World.putObj_size];exact Z
   have c2:I i m:=by rw[<-G];exact (H i).2 _ _ _ _ E5 e rfl a2
   have c3:V i m:=by rw[<-G];exact (hV i).2 _ _ _ _ E5 e rfl a4
   refine wpIn_mono (b7 _ m c3 c2 a5) ?_;have fin:∀(r:Option Code)(j:NN),KeepsFrom w.heap.size m j->
     ∃d,(Instr.endRound (D+1) r).run P j=.ok (.bool r.isNone) d/\d=j.putObj (D+1) (.loop (b (if r.isNone then .ready else .done) r))/\j.heap[D+1]? =some (.loop (b .busy none))/\d.heap[D+1]? =some (.loop (b (if r.isNone then .ready else .done) r))/\d.heap[D]? =some (.deferred (some []))/\w.heap.size<=d.heap.size:=λr j hk=>by
    have a0:=hk.same _ _ E5 c0 rfl;have c4:=hk.same _ _ E5 c1 rfl;refine⟨_,run_endRound (P:=P) r a0,by rw[es],a0,?_,?_,?_⟩
    .rw[es];exact World.putObj_heap_same (MX.1 a0).1
    .rw[World.putObj_heap_other E5];exact c4
    .rw[World.putObj_size];exact Mm a5 hk.size
   intro a6 a3 j k;cases a6 with
   |normal=>
    let⟨d,y,z,A,B,C,U⟩:=fin none j k.1;exact⟨_,d,y,.inl ⟨rfl,by rw[z];exact (H _).2 _ _ _ _ E5 A rfl k.2,U,B,C⟩⟩
   |ret=>
    let⟨d,y,z,A,B,C,U⟩:=fin (some .ret) j k.1;exact⟨_,d,y,.inr ⟨rfl,.ret,by rw[z];exact (S _).2 _ _ _ _ E5 A rfl k.2,B,C⟩⟩
   |exit id=>
    let⟨d,y,z,A,B,C,U⟩:=fin (some (.exit id)) j k.1;exact⟨_,d,y,.inr ⟨rfl,.exit id,by rw[z];exact (S _).2 _ _ _ _ E5 A rfl k.2,B,C⟩⟩
   |goto t=>
    let⟨d,y,z,A,B,C,U⟩:=fin (some (.goto t)) j k.1;exact⟨_,d,y,.inr ⟨rfl,.goto t,by rw[z];exact (S _).2 _ _ _ _ E5 A rfl k.2,B,C⟩⟩
   |panic ch=>exact k.elim
   |outgrown=>exact k.elim
  .exact .inr ⟨b8,b9,Z,e,F⟩
 .rintro a6 W2 ⟨⟨v,rfl⟩,(⟨J,Z,e,F⟩|⟨c,J,e,F⟩)⟩
  .refine⟨none,_,by have:=run_endLoop (P:=P) e (by rw[f];simp);rw[f] at this;exact this,?_⟩;exact b2 D _ E5 ((H n).2 _ _ _ _ E5 e rfl J) (by rw[World.putObj_heap_other E5];exact F)
  .refine⟨some c,_,by have:=run_endLoop (P:=P) e (by rw[f];simp);rw[f] at this;exact this,?_⟩;exact b3 D c _ E5 ((S c).2 _ _ _ _ E5 e rfl J) (by rw[World.putObj_heap_other E5];exact F)
