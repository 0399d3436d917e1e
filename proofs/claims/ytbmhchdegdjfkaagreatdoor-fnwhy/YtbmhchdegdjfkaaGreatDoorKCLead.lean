import Derived.RangeFuncWrites
import Derived.RangeFuncCalls
import Derived.Shelf.RegionOpen
import Derived.OwnWalkIn
import Derived.LoopNIn
import Derived.LoopIn
import Derived.Test.YtbmhchdegdjfkaaGreatDoorKVNeeds
set_option maxRecDepth 100000
set_option maxHeartbeats 25600000
namespace Go.Proofs.YtbmhchdegdjfkaaGreatDoor
open Go.RowKit Go.Proofs.Tryz
theorem uH(w:KH)(a f:KG)(j m:Nat)(l:List KC)(r:l.length<=1048576)(n:Strs w a l)(p:Strs w f l):
  Calls prog 7 #[.slice a l.length j,.slice f l.length m] w fun e w'=>e= .returned (.bool true)/\K_ w w':=by
 go_enter func7,ntmps7
 go_wp2
 go_loopw [5] (fun i wr=>∃k:Nat,k<=l.length/\i= .int .i64 k/\K_ w wr) (fun i _=>l.length-(intOf i).toNat)
 case atStart=>exact⟨0,Ja _,rfl,K_.refl _⟩
 case round=>
  obtain⟨k,s,rfl,d⟩:=hrel;by_cases h:k<l.length
  ·obtain⟨b,o,rfl,t,v⟩:=n.kept d k h;obtain⟨x,y,rfl,A,B⟩:=p.kept d k h;generalize l.getD k ByteArray.empty=c at *;have q:(k:Int)<(l.length:Int):=by omega
   go_wp2
   go_region
   all_goals
    go_wp2
    go_roundw
    case rel=>exact⟨k+1,by omega,by go_num,by repeat (first | assumption | apply K_.drew)⟩
    case measure=>simp[intOf];omega
  ·have q:¬(k:Int)<(l.length:Int):=by omega
   go_wp2
   go_ret
   exact⟨rfl,d⟩
def Looks(P:Program)(gf:Nat)(rv:KI)(encs:Nat->Array KI)(V N:Nat->KH->Prop)(n:Nat)(ok:KH->Prop):Prop:=
 ∀(l:Nat) (J:Nat->KH->Prop) (Jx:KH->Prop) (W:KH),ok W->
  (∀i W1,i<n->J i W1->(V i W1/\YieldAt Fence.wide 7 P l (encs i) W1 fun e W'=>(e= .returned (.bool true)/\J (i+1) W')\/(e= .returned (.bool false)/\Jx W'))\/(N i W1/\J (i+1) W1))->
  J 0 W->CallsIn Fence.wide 8 P gf #[rv,.func (.yield l) #[] #[]] W fun e W'=>(∃v,e= .returned v)/\(J n W'\/Jx W')
def roundEnd(B:Nat)(I:KH->Prop)(Ix:Code->KH->Prop)(W:KH):Exit->Act->KH->Prop
 | .normal,_,W'=>KeepsFrom B W W'/\I W'
 | .ret,_,W'=>KeepsFrom B W W'/\Ix .ret W'
 | .exit id,_,W'=>KeepsFrom B W W'/\Ix (.exit id) W'
 | .goto t,_,W'=>KeepsFrom B W W'/\Ix (.goto t) W'
 | .panic _,_,_=>False
 | .outgrown,_,_=>False
def Calm(B:Nat)(I:KH->Prop):Prop:=(∀W o,B<=W.heap.size->I W->I (W.alloc o))/\∀(W:KH) (l:Nat) (o o':Obj),B<=l->W.heap[l]? =some o->o.isCells=false->I W->I (W.putObj l o')
theorem AV{P:Program}{g:Operand}{ps:Array Tmp}{assign body:Code}{X:Exit->Act->KH->Prop}{a:Act}{w:KH}{F:Nat}{M:KI}{O:Nat->Array KI}{V N:Nat->KH->Prop}{n:Nat}{Q:KH->Prop}
  (a7:Looks P F M O V N n Q) (hg:a.eval g= .func (.func F) #[M] #[]) (eg:∀args w,(callFunc F args).run P w= .ok (.enter F args) w) (a2:Calm w.heap.size Q) (a8:Q w) (a9:∀i,(O i).size=ps.size)
  (I:Nat->KH->Prop) (R:Code->KH->Prop) (J:∀i,Calm w.heap.size (I i)) (S:∀c,Calm w.heap.size (R c)) (h0:I 0 w) (a₁:Nat->Act)
  (b0:∀(l i:Nat) (W:KH) (K:Act->KH->Prop),K (a₁ i) W->assign.wpIn (Fence.wide.inRound l) 7 P (Exit.then K (fun _ _ _=>False)) {tmps:=(ps.zip (O i)).foldl (fun t (p,v)=>t.setIfInBounds p v) a.tmps,defers:=[]} W)
  (hV:∀i,Calm w.heap.size (V i))
  (b1:∀(i:Nat) (W:KH),i<n->I i W->(V i W/\∀l W',V i W'->I i W'->w.heap.size<=W'.heap.size->body.wpIn (Fence.wide.inRound l) 7 P (roundEnd w.heap.size (I (i+1)) R W') (a₁ i) W')\/(N i W/\I (i+1) W))
  (b2:∀(D:Nat) (W:KH),w.heap.size<=D->I n W->W.heap[D]? =some (.deferred (some []))->X .normal {a with defers:={target:= .collected D,args:= #[]} :: a.defers} W)
  (b3:∀(D:Nat) (c:Code) (W:KH),w.heap.size<=D->R c W->W.heap[D]? =some (.deferred (some []))->c.wpIn Fence.wide 9 P X {a with defers:={target:= .collected D,args:= #[]} :: a.defers} W):
  (Code.rangeFunc g ps assign body).wpIn Fence.wide 9 P X a w:=by
 refine wpIn_rangeFunc fun fn b4=>?_
 obtain⟨D,hD⟩:=ah w.heap.size;obtain⟨b,f⟩:∃b:LoopState->Option Code->Loop,b=fun s q=>{state:=s,pending:=q,fn,tmps:=a.tmps,params:=ps,assign,body,defers:=D}:=⟨_,rfl⟩
 have es:∀s q x Y,({b s q with state:=x,pending:=Y}:Loop)=b x Y:=fun s q x Y=>by rw[f]
 have b5:∀s q x,({b s q with state:=x}:Loop)=b x q:=fun s q x=>by rw[f]
 obtain⟨h,Z⟩:∃h,(w.alloc (.deferred (some []))).alloc (.loop (b .ready none))=h:=⟨_,rfl⟩;have z1:w.heap.size<=(w.alloc (.deferred (some []))).heap.size:=by rw[JG];omega
 have T:h.heap[D+1]? =some (.loop (b .ready none))/\h.heap[D]? =some (.deferred (some []))/\I 0 h/\Q h:=by
  rw[<-Z,hD];refine⟨?_, ?_,(J 0).1 _ _ z1 ((J 0).1 _ _ (IZ _) h0),a2.1 _ _ z1 (a2.1 _ _ (IZ _) a8)⟩
  ·have:=World.alloc_heap_new (w.alloc (.deferred (some []))) (.loop (b .ready none))
   rwa [JG] at this
  ·exact (Below.heap_alloc _ _ _ (by simp)).trans (World.alloc_heap_new w _)
 refine⟨D+1,[{target:= .collected D,args:= #[]}],h,{target:= .fn (.func F) #[],args:= #[M,.func (.yield (D+1)) #[] #[]]},h,F,#[M,.func (.yield (D+1)) #[] #[]],h, ?_, ?_,fun _ _=>trivial, ?_,fun _=>(by omega), ?_⟩
 ·rw[<-Z,f,hD];exact run_enterLoop_outer _ _ _ _ _
 ·simp only[resolve,hg];simp[go_sem]
 ·simp[invoke,go_sem,eg]
 refine (a7 (D+1) (fun i W=>I i W/\w.heap.size<=W.heap.size/\W.heap[D+1]? =some (.loop (b .ready none))/\W.heap[D]? =some (.deferred (some []))) (fun W=>∃c,R c W/\W.heap[D+1]? =some (.loop (b .done (some c)))/\W.heap[D]? =some (.deferred (some []))) h T.2.2.2 ?_ ⟨T.2.2.1,by rw[<-Z];simp;omega,T.1,T.2.1⟩).mono ?_
 ·rintro i W L ⟨a3,a0,e,G⟩;have b6:D+1<W.heap.size:=(JF.1 e).1;rcases b1 i W L a3 with⟨a4,b7⟩|⟨b8,b9⟩
  ·refine .inl ⟨a4, ?_⟩;have hy:=run_yield (P:=P) (args:=O i) e (by rw[f];exact a9 i);rw[f] at hy;refine⟨fn,_,assign,body,hy, ?_⟩;refine roundIn_of_wpIn b4 (b0 _ i W _ ⟨_,run_beginRound e (by rw[f]), ?_⟩);obtain⟨m,H⟩:∃m,W.putObj (D+1) (.loop {b .ready none with state:= .busy})=m:=⟨_,rfl⟩;rw[H];have c0:m.heap[D+1]? =some (.loop (b .busy none)):=by rw[<-H,World.putObj_heap_same b6,b5]
   have c1:m.heap[D]? =some (.deferred (some [])):=by rw[<-H,World.putObj_heap_other (by omega)];exact G
   have a5:w.heap.size<=m.heap.size:=by rw[<-H,World.putObj_size];exact a0
   have c2:I i m:=by rw[<-H];exact (J i).2 _ _ _ _ (by omega) e rfl a3
   have c3:V i m:=by rw[<-H];exact (hV i).2 _ _ _ _ (by omega) e rfl a4
   refine wpIn_mono (b7 _ m c3 c2 a5) ?_;have fin:∀(r:Option Code) (j:KH),KeepsFrom w.heap.size m j->
     ∃d,(Instr.endRound (D+1) r).run P j= .ok (.bool r.isNone) d/\d=j.putObj (D+1) (.loop (b (if r.isNone then .ready else .done) r))/\j.heap[D+1]? =some (.loop (b .busy none))/\d.heap[D+1]? =some (.loop (b (if r.isNone then .ready else .done) r))/\d.heap[D]? =some (.deferred (some []))/\w.heap.size<=d.heap.size:=fun r j hk=>by
    have a1:=hk.same _ _ (by omega) c0 rfl;have c4:=hk.same _ _ (by omega) c1 rfl;refine⟨_,run_endRound (P:=P) r a1,by rw[es],a1, ?_, ?_, ?_⟩
    ·rw[es];exact World.putObj_heap_same (JF.1 a1).1
    ·rw[World.putObj_heap_other (by omega)];exact c4
    ·rw[World.putObj_size];exact Jb a5 hk.size
   intro a6 c5 j k;cases a6 with
   | normal=>
    obtain⟨d,y,A,B,C,E,U⟩:=fin none j k.1;exact⟨_,d,y,.inl ⟨rfl,by rw[A];exact (J _).2 _ _ _ _ (by omega) B rfl k.2,U,C,E⟩⟩
   | ret=>
    obtain⟨d,y,A,B,C,E,U⟩:=fin (some .ret) j k.1;exact⟨_,d,y,.inr ⟨rfl,.ret,by rw[A];exact (S _).2 _ _ _ _ (by omega) B rfl k.2,C,E⟩⟩
   | exit id=>
    obtain⟨d,y,A,B,C,E,U⟩:=fin (some (.exit id)) j k.1;exact⟨_,d,y,.inr ⟨rfl,.exit id,by rw[A];exact (S _).2 _ _ _ _ (by omega) B rfl k.2,C,E⟩⟩
   | goto t=>
    obtain⟨d,y,A,B,C,E,U⟩:=fin (some (.goto t)) j k.1;exact⟨_,d,y,.inr ⟨rfl,.goto t,by rw[A];exact (S _).2 _ _ _ _ (by omega) B rfl k.2,C,E⟩⟩
   | panic ch=>exact k.elim
   | outgrown=>exact k.elim
  ·exact .inr ⟨b8,b9,a0,e,G⟩
 ·rintro a6 W2 ⟨⟨v,rfl⟩,(⟨L,a0,e,G⟩|⟨c,L,e,G⟩)⟩
  ·refine⟨none,_,by have:=run_endLoop (P:=P) e (by rw[f];simp);rw[f] at this;exact this, ?_⟩;exact b2 D _ (by omega) ((J n).2 _ _ _ _ (by omega) e rfl L) (by rw[World.putObj_heap_other (by omega)];exact G)
  ·refine⟨some c,_,by have:=run_endLoop (P:=P) e (by rw[f];simp);rw[f] at this;exact this, ?_⟩;exact b3 D c _ (by omega) ((S c).2 _ _ _ _ (by omega) e rfl L) (by rw[World.putObj_heap_other (by omega)];exact G)
open Go.RowKit Go.Shelf
attribute [local go_sem] Oper.semAt_some
def CO(d:KG)(tb:Nat->Nat)(i:Nat)(W:KH):Prop:=∃g,d=some ⟨g,0,none⟩/\W.cell? ⟨g,i,none⟩=some (.pointer (some ⟨tb i,0,none⟩))/\W.cell? ⟨tb i,1,none⟩=some (.bool false)/\W.cell? ⟨tb i,9,none⟩=some (.int .i64 0)
def EP(d:KG)(tb:Nat->Nat)(i:Nat)(W:KH):Prop:=∃g,d=some ⟨g,0,none⟩/\W.cell? ⟨g,i,none⟩=some (.pointer (some ⟨tb i,0,none⟩))/\(W.cell? ⟨tb i,1,none⟩=some (.bool true)\/(W.cell? ⟨tb i,1,none⟩=some (.bool false)/\∃op:Nat,op≠0/\W.cell? ⟨tb i,9,none⟩=some (.int .i64 (op:Int))))
theorem Al(a:Nat)(d:KG)(n j:Nat)(tb:Nat->Nat)(B:n<=1048576):
  Looks prog 103 (.pointer (some ⟨a,0,none⟩)) (fun i=>#[.pointer (some ⟨tb i,0,none⟩)]) (CO d tb) (EP d tb) n (fun W=>W.cell? ⟨a,3,none⟩=some (.slice d n j)):=by
 intro l J C W D b k;refine callsIn_of_wp func103 rfl trivial ?_ rfl;simp only[ntmps103,List.size_toArray,JK,List.length_nil,Nat.reduceAdd,Nat.reduceSub,Array.replicate_succ,Array.replicate_zero,List.push_toArray,List.append_toArray,List.nil_append,List.cons_append];have m:=Kz b;clear b
 gi_wp2
 gi_loopw [12] (fun x wr=>∃i:Nat,i<=n/\x= .int .i64 i/\J i wr) (fun x _=>n-(intOf x).toNat)
 case atStart=>exact⟨0,Ja _,rfl,k⟩
 case round=>
  obtain⟨i,E,rfl,c⟩:=hrel;by_cases p:i<n
  ·rcases m.o i wr p c with⟨⟨g,rfl,q,e,r⟩,F,G,H,I,K,s⟩|⟨⟨g,rfl,q,t⟩,f⟩
   ·gi_wp2
    refine s.mono ?_;rintro L M (⟨rfl,v⟩|⟨rfl,w⟩)
    ·gi_wp2
     go_roundw
     case rel=>exact⟨i+1,by omega,by go_num,v⟩
     case measure=>simp[intOf];omega
    ·gi_wp2
     refine bodyPost_ret (results_none rfl _ _ _) rfl ?_;exact⟨⟨_,rfl⟩,.inr w⟩
   ·rcases t with e|⟨e,y,A,r⟩
    ·gi_wp2
     refine⟨fun _ h=>(by cases h), ?_⟩
     gi_wp2
     go_roundw
     case rel=>exact⟨i+1,by omega,by go_num,f⟩
     case measure=>simp[intOf];omega
    ·have N:((y:Int) == 0)=false:=by simpa using A
     gi_wp2
     refine⟨fun _ h=>(by cases h), ?_⟩
     gi_wp2
     go_roundw
     case rel=>exact⟨i+1,by omega,by go_num,f⟩
     case measure=>simp[intOf];omega
  ·gi_wp2
   go_end0
   have:i=n:=by omega
   subst this;exact⟨⟨_,rfl⟩,.inl c⟩
theorem jP{w:KH}{b:Nat}{t:TypeId}(h:bX w b t){o:Obj}(a:w.heap[b]? =some o):o.isCells=true:=by
 obtain⟨e,f,d⟩:=h;rw[d] at a;cases a
 rfl
theorem bX.set{w:KH}{b:Nat}{t:TypeId}(h:bX w b t)(p:Addr)(v:KI):bX (w.setCell p v) b t:=by
 obtain⟨d,a,c⟩:=h;by_cases e:b=p.block
 ·subst e;obtain⟨f,i⟩:=JF.1 c;apply Exists.intro;apply Exists.intro (w:=a);show (w.heap.modify p.block _)[p.block]? =_;rw[Array.getElem?_eq_getElem (by rw[Array.size_modify];exact f),Array.getElem_modify_self,i]
 ·exact⟨d,a,(Below.heap_setCell w p v b e).trans c⟩
structure InB (B:Nat) (Kf Kc:Nat->Prop) (ps:List (Nat×KC)) (W0:KH) (Kq:List Qz) (wz W:KH) (bb:Nat) (a:KG) (cap:Nat) (rd:KG) (rn rc:Nat) (mb mx:Nat) (ts:List Zk) (d:KG) (dc:Nat) (f:KC->KI) (ws:KC->List Nat):Prop where
 bm:BM ⟨W,fun k=>Kf k\/Kc k,ps,fun _=>False⟩ Kq wz W bb a cap rd rn rc mb mx ts d dc f ws
 same:∀k,Kf k->W.heap[k]? =W0.heap[k]?
 lt:∀k,Kf k\/Kc k->k<B
 mlt:mb<B
 size:B<=W.heap.size
 zlt:wz.heap.size<=B
 FN:∀k,Kc k->wz.heap.size<=k/\∃t,bX W k t/\t≠103
section
variable {B : Nat} {Kf Kc : Nat -> Prop} {ps : List (Nat × KC)} {W0 : KH} {Kq : List Qz} {wz W W' : KH} {bb : Nat} {a : KG} {cap : Nat} {rd : KG} {rn rc : Nat} {mb mx : Nat} {ts : List Zk} {d : KG} {dc : Nat} {f : KC -> KI} {ws : KC -> List Nat}
theorem BM.as{G b:bW}(h:BM G Kq wz W bb a cap rd rn rc mb mx ts d dc f ws)(c:Fen b W bb mb ts f)(e:∀x,(Value.slice d ts.length dc).ownBlock=some x->¬(b.I x/\b.K x)):BM b Kq wz W bb a cap rd rn rc mb mx ts d dc f ws:=
 ⟨h.kw,h.row,h.c0,h.c1,h.c2,h.c3,h.c4,h.c5,h.low,h.items,h.fE,h.act,h.asc,h.tbs,h.sep,h.vR,h.map,h.yM,h.dJ,h.vQ,h.yJ,h.qb,c,e⟩
theorem BM.no{G:bW}(h:BM G Kq wz W bb a cap rd rn rc mb mx ts d dc f ws):BM (bW.no wz) Kq wz W bb a cap rd rn rc mb mx ts d dc f ws:=h.as (Fen.no h.kw.size) (fun _ _ h=>h.1)
theorem BM.block{G:bW}(h:BM G Kq wz W bb a cap rd rn rc mb mx ts d dc f ws){S:Nat->Prop}(k:¬S mb)(c:∀b,S b->∀t,¬bX W b t):¬S bb/\¬S mb/\(∀b,(Value.slice d ts.length dc).ownBlock=some b->¬S b)/\(∀s b,(f s).ownBlock=some b->¬S b)/\∀t∈ts,¬S t.tb/\∀x∈t.own,¬S x:=
 ⟨fun e=>c _ e _ h.row.type,k,fun _b i e=>c _ e _ (Y_ h.items i),fun s _b i e=>c _ e _ (Y_ (h.dJ s) i),fun t j=>⟨fun e=>c _ e _ (h.fE t j).row.type,fun _x l e=>c _ e _ ((h.fE t j).dZ l).1⟩⟩
theorem InB.but{S:Nat->Prop}(h:InB B Kf Kc ps W0 Kq wz W bb a cap rd rn rc mb mx ts d dc f ws)(k:But S W W')(l:∀b,S b->wz.heap.size<=b)(c:¬S bb/\¬S mb/\(∀b,(Value.slice d ts.length dc).ownBlock=some b->¬S b)/\(∀s b,(f s).ownBlock=some b->¬S b)/\∀t∈ts,¬S t.tb/\∀x∈t.own,¬S x)(m:∀b,S b->¬Kf b)(n:∀b,S b->Kc b->∀t,bX W b t->bX W' b t):InB B Kf Kc ps W0 Kq wz W' bb a cap rd rn rc mb mx ts d dc f ws:=by
 have p:=h.bm.no.but k l c.1 c.2.1 c.2.2.1 c.2.2.2.1 c.2.2.2.2 (fun _ _=>id);have i:=h.bm.oth;refine⟨p.as ⟨IZ _,fun b c=>I_ (i.lt b c) k.size,fun _ _=>rfl,i.nb,i.nm,i.nt,i.nf,i.has⟩ (fun _ _ h=>h.1),fun b c=>?_,h.lt,h.mlt,Jb h.size k.size,h.zlt,fun b c=>?_⟩
 ·exact (k.block b (i.lt b (.inl c)) (fun e=>m b e c)).trans (h.same b c)
 ·obtain⟨q,t,j,r⟩:=h.FN b c;refine⟨q,t, ?_,r⟩;by_cases e:S b
  ·exact n b e c t j
  ·obtain⟨v,w,y⟩:=j;exact⟨v,w,by rw[k.block b (i.lt b (.inr c)) e];exact y⟩
theorem InB.kept(h:InB B Kf Kc ps W0 Kq wz W bb a cap rd rn rc mb mx ts d dc f ws)(k:K_ W W'):InB B Kf Kc ps W0 Kq wz W' bb a cap rd rn rc mb mx ts d dc f ws:=
 h.but (S:=fun _=>False) (But.aC k) (fun _ e=>e.elim) ⟨id,id,fun _ _=>id,fun _ _ _=>id,fun _ _=>⟨id,fun _ _=>id⟩⟩ (fun _ e=>e.elim) (fun _ e=>e.elim)
theorem ll(k:K_ W W')(B:Nat):KeepsFrom B W W':=⟨k.size,fun b _o _ a _=>(k.block b (aN a)).trans a⟩
theorem InB.calm(h:InB B Kf Kc ps W0 Kq wz W bb a cap rd rn rc mb mx ts d dc f ws){l:Nat}{o:Obj}(i:Obj)(j:B<=l)(k:W.heap[l]? =some o)(m:o.isCells=false):InB B Kf Kc ps W0 Kq wz (W.putObj l i) bb a cap rd rn rc mb mx ts d dc f ws:=by
 have n:But (fun b=>b=l) W (W.putObj l i):=⟨rfl,rfl,rfl,by rw[World.putObj_size];exact IZ _,fun b _ e=>World.putObj_heap_other e⟩;refine h.but n (fun b e=>by rw[e];exact Jb h.zlt j) (h.bm.block (S:=fun b=>b=l) (fun (e:mb=l)=>by have:=h.mlt;omega) (fun b e t p=>?_)) (fun b e c=>?_) (fun b e c=>?_)
 ·have:=jP p (by rw[e];exact k);rw[m] at this;cases this
 ·have:=h.lt b (.inl c);omega
 ·have:=h.lt b (.inr c);omega
theorem InB.store(i:InB B Kf Kc ps W0 Kq wz W bb a cap rd rn rc mb mx ts d dc f ws){p:Addr}(c:Kc p.block)(m:¬Kf p.block)(v:KI):InB B Kf Kc ps W0 Kq wz (W.setCell p v) bb a cap rd rn rc mb mx ts d dc f ws:=by
 have n:But (fun b=>b=p.block) W (W.setCell p v):=But.set (S:=fun b=>b=p.block) (But.aC (K_.refl W)) rfl _;have h:=i.bm.oth;obtain⟨q,C,r,s⟩:=i.FN _ c;refine i.but n (fun b e=>by rw[e];exact q) ⟨fun e=>h.nb (by rw[e];exact .inr c),fun e=>h.nm (by rw[e];exact .inr c),fun b j e=>?_,fun t b j e=>h.nf t b j (by rw[e];exact .inr c),fun u k=>⟨fun e=>(h.nt u k).1 (by rw[e];exact .inr c),fun x w e=>(h.nt u k).2 x w (by rw[e];exact .inr c)⟩⟩ (fun b e=>by rw[e];exact m) (fun b e _ u k=>?_)
 ·rw[e] at j;exact aQ r (Y_ i.bm.items j) s rfl
 ·obtain⟨y,A,l⟩:=k;rw[e] at l⊢;exact bX.set ⟨y,A,l⟩ p v
def inG(B:Nat)(Kf Kc:Nat->Prop)(ps:List (Nat×KC))(W:KH):bW:=⟨W,fun k=>(Kf k\/Kc k)\/(B<=k/\∃o,W.heap[k]? =some o/\o.isCells=false),ps,fun _=>False⟩
theorem InB.told(h:InB B Kf Kc ps W0 Kq wz W bb a cap rd rn rc mb mx ts d dc f ws):BM (inG B Kf Kc ps W) Kq wz W bb a cap rd rn rc mb mx ts d dc f ws:=by
 have c:=h.bm.oth;have j:=h.bm.block (S:=fun k=>B<=k/\∃o,W.heap[k]? =some o/\o.isCells=false) (fun e=>by have:=h.mlt;omega) (fun b e t i=>by
  obtain⟨_,o,m,p⟩:=e;have:=jP i m;rw[p] at this;cases this)
 refine h.bm.as ⟨IZ _,fun k n=>?_,fun _ _=>rfl, ?_, ?_,fun t i=>⟨?_,fun x l=>?_⟩,fun s x l=>?_,c.has⟩ (fun _ _ h=>h.1)
 ·rcases n with n|⟨_,o,m,_⟩
  ·exact c.lt k n
  ·exact aN m
 ·rintro (e|e)
  ·exact c.nb e
  ·exact j.1 e
 ·rintro (e|e)
  ·exact c.nm e
  ·exact j.2.1 e
 ·rintro (e|e)
  ·exact (c.nt t i).1 e
  ·exact (j.2.2.2.2 t i).1 e
 ·rintro (e|e)
  ·exact (c.nt t i).2 x l e
  ·exact (j.2.2.2.2 t i).2 x l e
 ·rintro (e|e)
  ·exact c.nf s x l e
  ·exact j.2.2.2.1 s x l e
theorem InB.did(h:InB B Kf Kc ps W0 Kq wz W bb a cap rd rn rc mb mx ts d dc f ws){m:Nat}{n:List Zk}{d':KG}{dc':Nat}{p:KC->KI}{q:KC->List Nat}(r:BM (inG B Kf Kc ps W) Kq wz W' bb a cap rd rn rc mb m n d' dc' p q):InB B Kf Kc ps W0 Kq wz W' bb a cap rd rn rc mb m n d' dc' p q/\KeepsFrom B W W'/\∀k,Kc k->W'.heap[k]? =W.heap[k]? :=by
 have c:=r.oth;have i:∀k,Kf k\/Kc k->W'.heap[k]? =W.heap[k]? :=fun k b=>c.same k (.inl b)
 refine⟨⟨r.as ⟨IZ _,fun k b=>I_ (c.lt k (.inl b)) c.size,fun _ _=>rfl,fun e=>c.nb (.inl e),fun e=>c.nm (.inl e),fun t s=>⟨fun e=>(c.nt t s).1 (.inl e),fun x j e=>(c.nt t s).2 x j (.inl e)⟩,fun v x j e=>c.nf v x j (.inl e),c.has⟩ (fun _ _ h=>h.1),fun k b=>(i k (.inl b)).trans (h.same k b),h.lt,h.mlt,Jb h.size c.size,h.zlt,fun k b=>?_⟩,⟨c.size,fun k o w b l=>(c.same k (.inr ⟨w,o,b,l⟩)).trans b⟩,fun k b=>i k (.inr b)⟩;obtain⟨y,t,⟨A,C,l⟩,D⟩:=h.FN k b;exact⟨y,t,⟨A,C,by rw[i k (.inr b)];exact l⟩,D⟩
theorem InB.start(h:BM (bW.no wz) Kq wz W bb a cap rd rn rc mb mx ts d dc f ws)(b:∀k,Kf k\/Kc k->k<W.heap.size/\k≠bb/\k≠mb/\(∀t∈ts,k≠t.tb/\k∉t.own)/\∀s,(f s).ownBlock≠some k)(l:∀k,Kc k->wz.heap.size<=k/\∃t,bX W k t/\t≠103)(m:∀p∈ps,∃t∈ts,t.tb=p.1/\t.r.name=p.2):InB W.heap.size Kf Kc ps W Kq wz W bb a cap rd rn rc mb mx ts d dc f ws:=by
 obtain⟨N,D,_,n,_⟩:=h.map;obtain⟨v,w,q,_⟩:=n;exact⟨h.as ⟨IZ _,fun k c=>(b k c).1,fun _ _=>rfl,fun e=>(b _ e).2.1 rfl,fun e=>(b _ e).2.2.1 rfl,fun t j=>⟨fun e=>((b _ e).2.2.2.1 t j).1 rfl,fun x i e=>((b _ e).2.2.2.1 t j).2 i⟩,fun s x i e=>(b _ e).2.2.2.2 s i,m⟩ (fun _ _ h=>h.1),fun _ _=>rfl,fun k c=>(b k c).1,aN q,IZ _,h.kw.size,l⟩
end
def tT(w:KH)(bb mb:Nat)(ts:List Zk)(f:KC->KI)(k:Nat):Prop:=k<w.heap.size/\k≠bb/\k≠mb/\(∀t∈ts,k≠t.tb/\k∉t.own)/\∀s,(f s).ownBlock≠some k
theorem Fen.apart{G:bW}{w:KH}{b c:Nat}{d:List Zk}{f:KC->KI}(h:Fen G w b c d f){k:Nat}(a:G.K k):tT w b c d f k:=
 ⟨I_ (h.lt k a) h.size,fun e=>h.nb (by rw[<-e];exact a),fun e=>h.nm (by rw[<-e];exact a),fun t i=>⟨fun e=>(h.nt t i).1 (by rw[<-e];exact a),fun j=>(h.nt t i).2 k j a⟩,fun s l=>h.nf s k l a⟩
theorem Ia{w w1:KH}{v:KI}{t:TypeId}(k:K_ (w.alloc (.cells #[v] t)) w1):w1.cell? ⟨w.heap.size,0,none⟩=some v/\w1.frozen? ⟨w.heap.size,0,none⟩=false/\bX w1 w.heap.size t:=by
 have a:w.heap.size<(w.alloc (.cells #[v] t)).heap.size:=by simp
 exact⟨(k.cell a).trans (by simp),(k.rules.2 _ _ a).trans (by simp),#[v],_,(k.block _ a).trans (World.alloc_heap_new w _)⟩
theorem GA{w w1:KH}{v0 v1:KI}{t:TypeId}(k:K_ (w.alloc (.cells #[v0,v1] t)) w1):w1.cell? ⟨w.heap.size,0,none⟩=some v0/\w1.cell? ⟨w.heap.size,1,none⟩=some v1:=by
 have a:w.heap.size<(w.alloc (.cells #[v0,v1] t)).heap.size:=by simp
 constructor
 ·rw[k.cell a];simp
 ·rw[k.cell a];simp
def Bw(ts:List Zk):List KC:=ts.map fun t=>t.r.name
def Fy(ts:List Zk):List (Nat×KC):=ts.map fun t=>(t.tb,t.r.name)
def yh(ts:List Zk)(i:Nat):Nat:=(ts.map fun t=>t.tb).getD i 0
def qV(Kq:List Qz)(ts:List Zk):Nat:=dO (Kq.map (·.name)) (Qq (Qj ts))
theorem vX :∀(l:List KC) (σ:Env),dO l σ<=23*l.length
 | [],_=>IZ _
 | n :: l,σ=>by
  have b:=vX l σ;have c:kJ (σ n)<=23:=by
   unfold kJ
   split
   ·exact IZ _
   ·split <;> omega
  have e:dO (n :: l) σ=kJ (σ n)+dO l σ:=by simp[dO]
  rw[e,JK];omega
section
variable {B : Nat} {G : bW} {Kq : List Qz} {wz W W' : KH} {bb : Nat} {a : KG} {cap : Nat} {rd : KG} {rn rc : Nat} {mb mx : Nat} {ts : List Zk} {d0 d : KG} {dc : Nat} {f : KC -> KI} {ws : KC -> List Nat}
theorem jR{l c o:Nat}(a:Obj)(h:c≠l):(W.putObj l a).cell? ⟨c,o,none⟩=W.cell? ⟨c,o,none⟩:=Jl (w:=W) (World.putObj_heap_other h)
theorem uG{l c o:Nat}(a:Obj)(h:c≠l):(W.putObj l a).frozen? ⟨c,o,none⟩=W.frozen? ⟨c,o,none⟩:=World.frozen?_of_block (w:=W) (World.putObj_heap_other h)
theorem BS.can(h:BS Kq ts ws){t:Zk}(b:t∈ts):aV (Kk Kq) (Qq (Qj ts)) t.r↔t.r.over=false/\t.op=0:=by
 obtain⟨A,c,_⟩:=(h.good.good t.r (JQ b)).act;rw[vY (by rw[c];rfl),h.op t b,Jn]
theorem Da{tb:Nat->Nat}{i:Nat}(_hd:∀g,d0=some ⟨g,0,none⟩->g<B):Calm B (fun W=>CO d0 tb i W):=by
 have h:∀{W:KH} {c o:Nat} {v:KI},W.cell? ⟨c,o,none⟩=some v->c<W.heap.size:=fun {W c o v} j=>by
  obtain⟨f,a,_⟩:=cells_of_cell j;exact aN a
 have k:∀{W:KH} {c o l:Nat} {v:KI} {f:Obj},W.cell? ⟨c,o,none⟩=some v->W.heap[l]? =some f->f.isCells=false->c≠l:=fun {W c o l v f} j a d e=>by
  obtain⟨s,b,r⟩:=cells_of_cell j;simp only at b;rw[e,a] at b;cases b;rw[d] at r;cases r
 constructor
 ·rintro W o t ⟨g,e,a,d,b⟩;have m:=(K_.refl W).alloc o;exact⟨g,e,(m.cell (h a)).trans a,(m.cell (h d)).trans d,(m.cell (h b)).trans b⟩
 ·rintro W l o n w p q ⟨g,e,a,d,b⟩;exact⟨g,e,(jR n (k a p q)).trans a,(jR n (k d p q)).trans d,(jR n (k b p q)).trans b⟩
theorem Gz{v:KI}{c:Nat}(e:c<B):Calm B (fun W=>W.cell? ⟨c,3,none⟩=some v):=by
 constructor
 ·intro W o f a;obtain⟨h,b,_⟩:=cells_of_cell a;exact (((K_.refl W).alloc o).cell (aN b)).trans a
 ·intro W l o d i j k a;exact (jR d (by omega)).trans a
theorem EC{tb:Nat->Nat}{i:Nat}(h:CO d0 tb i W)(k:EP d0 tb i W):False:=by
 obtain⟨g,_,_,c,d⟩:=h;obtain⟨e,_,_,a⟩:=k;rcases a with a|⟨_,f,j,b⟩
 ·rw[c] at a;cases a
 ·rw[d] at b;simp only[JI,Value.int.injEq,true_and] at b;omega
theorem uF(B:Nat):Calm B (fun _=>False):=⟨fun _ _ _ h=>h,fun _ _ _ _ _ _ _ h=>h⟩
theorem BM.far{G:bW}(h:BM G Kq wz W bb a cap rd rn rc mb mx ts d dc f ws){k:Nat}(l:W.heap.size<=k):k≠bb/\k≠mb/\(∀t∈ts,k≠t.tb/\k∉t.own)/\∀s,(f s).ownBlock≠some k:=by
 have m:=h.row.lt;obtain⟨N,D,_,c,_⟩:=h.map;obtain⟨n,p,e,_⟩:=c;have q:=aN e;refine⟨by omega,by omega,fun t b=>⟨?_,fun i=>?_⟩,fun s j=>?_⟩
 ·have:=(h.fE t b).row.lt;omega
 ·have:=((h.fE t b).dZ i).2.2;omega
 ·have:=((h.dJ s).lt k j).2;omega
theorem BM.apart{G:bW}(h:BM G Kq wz W bb a cap rd rn rc mb mx ts d dc f ws){k:Nat}(i:d=some ⟨k,0,none⟩):k<W.heap.size/\k≠bb/\k≠mb/\(∀t∈ts,k≠t.tb/\k∉t.own)/\∀s,(f s).ownBlock≠some k:=by
 subst i;have c:(Value.slice (some ⟨k,0,none⟩) ts.length dc).ownBlock=some k:=rfl;have b:=Y_ h.items c;obtain⟨N,D,_,j,_⟩:=h.map;refine⟨(h.items.lt k c).2,aQ b h.row.type (by decide),jF j b,fun t e=>⟨aQ b (h.fE t e).row.type (by decide),fun l=>aQ b ((h.fE t e).dZ l).1 (by decide) rfl⟩,fun s m=>h.yJ s k m c⟩
theorem BM.item(h:BM G Kq wz W bb a cap rd rn rc mb mx ts d dc f ws){i:Nat}(j:i<ts.length):∃g,d=some ⟨g,0,none⟩/\W.cell? ⟨g,i,none⟩=some (.pointer (some ⟨(ts[i]).tb,0,none⟩)):=by
 have b:=h.items;rcases b.2 with⟨e,_⟩|⟨g,l,m,e,_⟩
 ·exfalso
  simp only[JJ] at e;omega
 ·simp only[JJ] at e;obtain⟨rfl,_,rfl⟩:=e;refine⟨g,rfl, ?_⟩;have c:=b.cells (g:=g) rfl i (ts[i]).ptr (by simp[j]);have k:((⟨g,0,none⟩:Addr).add i)= ⟨g,i,none⟩:=by simp[Addr.add];omega
  rw[k] at c;exact c
end
variable {w : KH}
theorem rH{P:Program}{id:Nat}{d:Array Oper}{Q:Exit->Act->KH->Prop}{a:Act}(J:Act->Act->KH->Prop)(h:(Code.region id d true).wp P (fun x b u=>x= .normal/\J a b u) a w)(i:∀b u,J a b u->Q .normal b u):(Code.region id d true).wp P Q a w:=
 wp_mono h fun e b u c=>by
  obtain⟨rfl,c⟩:=c;exact i b u c
def rZ(n:Nat):KI:= .int .i64 (n:Int)
variable {n : Nat} {F : Nat -> KI} {t : TypeId}
theorem fe{b:Nat}(h:w.rowIs b t n F):bX w b t:=by
 obtain⟨c,d,_⟩:=h;exact⟨c,_,d⟩
theorem eT{w':KH}{b:Nat}(h:w.rowIs b t n F)(k:w'.heap[b]? =w.heap[b]?):w'.rowIs b t n F:=by
 obtain⟨c,d,e⟩:=h;exact⟨c,k.trans d,e⟩
theorem dX{b:Nat}(h:w.rowIs b t n F):b<w.heap.size:=by
 obtain⟨d,c,_⟩:=h;exact aN c
theorem wH{b:Nat}{G:Nat->KI}(h:w.rowIs b t n F)(e:∀p,p<n->G p=F p):w.rowIs b t n G:=by
 obtain⟨c,d,f,i⟩:=h;exact⟨c,d,f,fun p a=>by rw[i p a,e p a]⟩
def r_(w:KH)(a:KG)(l:List Nat):Prop:=∀i,i<l.length->∃b o,a=some ⟨b,o,none⟩/\b<w.heap.size/\w.cell? ⟨b,o+i,none⟩=some (.int .i64 ((l.getD i 0:Nat):Int))
theorem r_.kept{w':KH}{a:KG}{l:List Nat}(h:r_ w a l)(k:K_ w w'):r_ w' a l:=fun i c=>by
 obtain⟨d,o,e,b,f⟩:=h i c;exact⟨d,o,e,I_ b k.size,(k.cell b).trans f⟩
theorem oN{base:Nat}{v:KI}{l:List Nat}(h:w.ownsRow base t 1 v n (l.map rZ))(f:n=l.length):∃a b,v= .slice a l.length b/\n<=b/\r_ w a l:=by
 obtain⟨a,b,rfl⟩:=ax h;refine⟨a,b,by rw[f], ?_,fun i d=>?_⟩
 ·rcases h.2 with⟨e,c⟩|⟨_,_,_,e,_,_,c,_⟩
  ·simp only[JJ] at e;omega
  ·simp only[JJ] at e;omega
 ·obtain⟨j,o,c,k,m⟩:=eH h i (by simpa using d);exact⟨j,o,c,k,by have:=m i (rZ (l.getD i 0)) (by simp[List.getD,d]);exact this⟩
structure mX (w:KH) (base n:Nat) (blk:Bool->Nat) (g:Bool->Nat->KI) (L:Bool->Nat->List Nat):Prop where
 row:∀c,w.rowIs (blk c) 52 n (g c)
 ne:blk true≠blk false
 own:∀c p,w.ownsRow base 3 1 (g c p) (L c p).length ((L c p).map rZ)
 sep:∀c p c' p',¬(c'=c/\p'=p)->∀x,(g c p).ownBlock=some x->(g c' p').ownBlock≠some x
section
variable {w w1 w' : KH} {base n : Nat} {blk : Bool -> Nat} {g : Bool -> Nat -> KI} {L : Bool -> Nat -> List Nat}
theorem mX.but{S:Nat->Prop}(h:mX w base n blk g L)(k:But S w w')(d:∀c,¬S (blk c))(h2:∀c p b,(g c p).ownBlock=some b->¬S b):mX w' base n blk g L:=
 ⟨fun c=>eT (h.row c) (k.block _ (dX (h.row c)) (d c)),h.ne,fun c p=>k.owns (h.own c p) (h2 c p),h.sep⟩
theorem mX.kept(h:mX w base n blk g L)(k:K_ w w'):mX w' base n blk g L:=h.but (S:=fun _=>False) (But.aC k) (fun _=>id) (fun _ _ _ _=>id)
theorem mX.put(h:mX w base n blk g L)(b:Bool)(p:Nat){d:KI}{x:Nat}(v:w1.ownsRow base 3 1 d ((L b p).length+1) ((L b p).map rZ++ [rZ x]))(E:w.grownBy w1 (g b p).ownBlock)(F:∀y,d.ownBlock=some y->(g b p).ownBlock=some y\/w.heap.size<=y):
  mX (w1.setCell ⟨blk b,p,none⟩ d) base n blk (fun c q=>if c=b/\q=p then d else g c q) (fun c q=>if c=b/\q=p then L b p++ [x] else L c q)/\But (fun y=>(g b p).ownBlock=some y\/y=blk b) w (w1.setCell ⟨blk b,p,none⟩ d):=by
 have s:But (fun y=>(g b p).ownBlock=some y) w w1:=But.aK E (fun y e=>e);have f:∀c,w1.rowIs (blk c) 52 n (g c):=fun c=>eT (h.row c) (s.block _ (dX (h.row c)) (fun e=>aQ (fe (h.row c)) (Y_ (h.own b p) e) (by decide) rfl))
 have k:But (fun y=>y=blk b) w1 (w1.setCell ⟨blk b,p,none⟩ d):=But.set (S:=fun y=>y=blk b) (But.aC (K_.refl w1)) (p:=⟨blk b,p,none⟩) rfl d;have A:∀c q,¬(c=b/\q=p)->w1.ownsRow base 3 1 (g c q) (L c q).length ((L c q).map rZ):=fun c q l=>s.owns (h.own c q) (fun y e a=>h.sep c q b p (fun B=>l ⟨B.1.symm,B.2.symm⟩) y e a)
 refine⟨⟨fun c=>?_,h.ne,fun c q=>?_,fun c q m r l y i=>?_⟩, ?_⟩
 ·by_cases e:c=b
  ·subst e;exact nY (f c) p d (fun q J=>by simp)
  ·refine wH (eT (f c) (k.block _ (dX (f c)) (fun a=>?_))) (fun q _=>by simp[e]);have j:=h.ne;cases c <;> cases b <;> first | exact e rfl | exact j a | exact j a.symm
 ·by_cases e:c=b/\q=p
  ·simp only[Kg e,JH,Km,Kt,List.map_cons,List.map_nil];exact k.owns v (fun y t a=>aQ (Y_ v t) (fe (f b)) (by decide) a)
  ·simp only[Kh e];exact k.owns (A c q e) (fun y t a=>aQ (Y_ (A c q e) t) (fe (f b)) (by decide) a)
 ·have C:∀c q,¬(c=b/\q=p)->∀y,d.ownBlock=some y->(g c q).ownBlock≠some y:=fun c q G y H D=>by
   rcases F y H with j|j
   ·exact h.sep b p c q G y j D
   ·have:=((h.own c q).lt y D).2;omega
  by_cases e:c=b/\q=p
  ·simp only[Kg e] at i;have a:¬(m=b/\r=p):=fun a=>l ⟨a.1.trans e.1.symm,a.2.trans e.2.symm⟩
   simp only[Kh a];exact C m r a y i
  ·simp only[Kh e] at i;by_cases a:m=b/\r=p
   ·simp only[Kg a];exact fun I=>C c q e y I i
   ·simp only[Kh a];exact h.sep c q m r l y i
 ·exact (s.mono (fun y _ e=>Or.inl e)).trans (k.mono (fun y _ e=>Or.inr e))
end
structure xe (w:KH) (na:KG) (nm:List KC) (nb mb:Nat) (need back:Nat->List Nat):Prop where
 names:Strs w na nm
 nbl:nb<w.heap.size
 mbl:mb<w.heap.size
 fwd:∀p,p<nm.length->∃a c,w.cell? ⟨nb,p,none⟩=some (.slice a (need p).length c)/\r_ w a (need p)
 bwd:∀p,p<nm.length->∃a c,w.cell? ⟨mb,p,none⟩=some (.slice a (back p).length c)/\r_ w a (back p)
theorem xe.kept{w':KH}{f:KG}{i:List KC}{nb j:Nat}{l m:Nat->List Nat}(h:xe w f i nb j l m)(k:K_ w w'):xe w' f i nb j l m:=
 ⟨h.names.kept k,I_ h.nbl k.size,I_ h.mbl k.size,fun p b=>by
  obtain⟨a,c,d,e⟩:=h.fwd p b;exact⟨a,c,(k.cell h.nbl).trans d,e.kept k⟩,fun p b=>by
  obtain⟨a,c,d,e⟩:=h.bwd p b;exact⟨a,c,(k.cell h.mbl).trans d,e.kept k⟩⟩
theorem mX.read{base:Nat}{blk:Bool->Nat}{g:Bool->Nat->KI}{L:Bool->Nat->List Nat}{e:KG}{b:List KC}(h:mX w base b.length blk g L)(i:Strs w e b):xe w e b (blk true) (blk false) (L true) (L false):=by
 have f:∀c p,p<b.length->∃a d,w.cell? ⟨blk c,p,none⟩=some (.slice a (L c p).length d)/\r_ w a (L c p):=fun c p j=>by
  obtain⟨a,d,k,_,l⟩:=oN (h.own c p) rfl;exact⟨a,d,by rw[(h.row c).cell j,k],l⟩
 exact⟨i,dX (h.row true),dX (h.row false),f true,f false⟩
def Fj(P:Program)(gf:Nat)(lb:Array KI)(encs:Nat->Array KI)(V N:Nat->KH->Prop)(n:Nat)(ok:KH->Prop):Prop:=
 ∀(l:Nat) (J:Nat->KH->Prop) (Jx:KH->Prop) (W:KH),ok W->
  (∀i W1,i<n->J i W1->(V i W1/\YieldAt Fence.wide 7 P l (encs i) W1 fun e W'=>(e= .returned (.bool true)/\J (i+1) W')\/(e= .returned (.bool false)/\Jx W'))\/(N i W1/\J (i+1) W1))->
  J 0 W->CallsIn Fence.wide 8 P gf (#[.func (.yield l) #[] #[]]++lb) W fun e W'=>(∃v,e= .returned v)/\(J n W'\/Jx W')
theorem zP{P:Program}{g:Operand}{ps:Array Tmp}{assign body:Code}{X:Exit->Act->KH->Prop}{a:Act}{w:KH}{F:Nat}{M:Array KI}{O:Nat->Array KI}{V N:Nat->KH->Prop}{n:Nat}{Q:KH->Prop}
  (a7:Fj P F M O V N n Q) (hg:a.eval g= .func (.func F) #[] M) (eg:∀args w,(callFunc F args).run P w= .ok (.enter F args) w) (a2:Calm w.heap.size Q) (a8:Q w) (a9:∀i,(O i).size=ps.size)
  (I:Nat->KH->Prop) (R:Code->KH->Prop) (J:∀i,Calm w.heap.size (I i)) (S:∀c,Calm w.heap.size (R c)) (h0:I 0 w) (a₁:Nat->Act)
  (b0:∀(l i:Nat) (W:KH) (K:Act->KH->Prop),K (a₁ i) W->assign.wpIn (Fence.wide.inRound l) 7 P (Exit.then K (fun _ _ _=>False)) {tmps:=(ps.zip (O i)).foldl (fun t (p,v)=>t.setIfInBounds p v) a.tmps,defers:=[]} W)
  (hV:∀i,Calm w.heap.size (V i))
  (b1:∀(i:Nat) (W:KH),i<n->I i W->(V i W/\∀l W',V i W'->I i W'->w.heap.size<=W'.heap.size->body.wpIn (Fence.wide.inRound l) 7 P (roundEnd w.heap.size (I (i+1)) R W') (a₁ i) W')\/(N i W/\I (i+1) W))
  (b2:∀(D:Nat) (W:KH),w.heap.size<=D->I n W->W.heap[D]? =some (.deferred (some []))->X .normal {a with defers:={target:= .collected D,args:= #[]} :: a.defers} W)
  (b3:∀(D:Nat) (c:Code) (W:KH),w.heap.size<=D->R c W->W.heap[D]? =some (.deferred (some []))->c.wpIn Fence.wide 9 P X {a with defers:={target:= .collected D,args:= #[]} :: a.defers} W):
  (Code.rangeFunc g ps assign body).wpIn Fence.wide 9 P X a w:=by
 refine wpIn_rangeFunc fun fn b4=>?_
 obtain⟨D,hD⟩:=ah w.heap.size;obtain⟨b,f⟩:∃b:LoopState->Option Code->Loop,b=fun s q=>{state:=s,pending:=q,fn,tmps:=a.tmps,params:=ps,assign,body,defers:=D}:=⟨_,rfl⟩
 have es:∀s q x Y,({b s q with state:=x,pending:=Y}:Loop)=b x Y:=fun s q x Y=>by rw[f]
 have b5:∀s q x,({b s q with state:=x}:Loop)=b x q:=fun s q x=>by rw[f]
 obtain⟨h,Z⟩:∃h,(w.alloc (.deferred (some []))).alloc (.loop (b .ready none))=h:=⟨_,rfl⟩;have z1:w.heap.size<=(w.alloc (.deferred (some []))).heap.size:=by rw[JG];omega
 have T:h.heap[D+1]? =some (.loop (b .ready none))/\h.heap[D]? =some (.deferred (some []))/\I 0 h/\Q h:=by
  rw[<-Z,hD];refine⟨?_, ?_,(J 0).1 _ _ z1 ((J 0).1 _ _ (IZ _) h0),a2.1 _ _ z1 (a2.1 _ _ (IZ _) a8)⟩
  ·have:=World.alloc_heap_new (w.alloc (.deferred (some []))) (.loop (b .ready none))
   rwa [JG] at this
  ·exact (Below.heap_alloc _ _ _ (by simp)).trans (World.alloc_heap_new w _)
 refine⟨D+1,[{target:= .collected D,args:= #[]}],h,{target:= .fn (.func F) M,args:= #[.func (.yield (D+1)) #[] #[]]},h,F,#[.func (.yield (D+1)) #[] #[]]++M,h, ?_, ?_,fun _ _=>trivial, ?_,fun _=>(by omega), ?_⟩
 ·rw[<-Z,f,hD];exact run_enterLoop_outer _ _ _ _ _
 ·simp only[resolve,hg];simp[go_sem]
 ·simp[invoke,go_sem,eg]
 refine (a7 (D+1) (fun i W=>I i W/\w.heap.size<=W.heap.size/\W.heap[D+1]? =some (.loop (b .ready none))/\W.heap[D]? =some (.deferred (some []))) (fun W=>∃c,R c W/\W.heap[D+1]? =some (.loop (b .done (some c)))/\W.heap[D]? =some (.deferred (some []))) h T.2.2.2 ?_ ⟨T.2.2.1,by rw[<-Z];simp;omega,T.1,T.2.1⟩).mono ?_
 ·rintro i W L ⟨a3,a0,e,G⟩;have b6:D+1<W.heap.size:=(JF.1 e).1;rcases b1 i W L a3 with⟨a4,b7⟩|⟨b8,b9⟩
  ·refine .inl ⟨a4, ?_⟩;have hy:=run_yield (P:=P) (args:=O i) e (by rw[f];exact a9 i);rw[f] at hy;refine⟨fn,_,assign,body,hy, ?_⟩;refine roundIn_of_wpIn b4 (b0 _ i W _ ⟨_,run_beginRound e (by rw[f]), ?_⟩);obtain⟨m,H⟩:∃m,W.putObj (D+1) (.loop {b .ready none with state:= .busy})=m:=⟨_,rfl⟩;rw[H];have c0:m.heap[D+1]? =some (.loop (b .busy none)):=by rw[<-H,World.putObj_heap_same b6,b5]
   have c1:m.heap[D]? =some (.deferred (some [])):=by rw[<-H,World.putObj_heap_other (by omega)];exact G
   have a5:w.heap.size<=m.heap.size:=by rw[<-H,World.putObj_size];exact a0
   have c2:I i m:=by rw[<-H];exact (J i).2 _ _ _ _ (by omega) e rfl a3
   have c3:V i m:=by rw[<-H];exact (hV i).2 _ _ _ _ (by omega) e rfl a4
   refine wpIn_mono (b7 _ m c3 c2 a5) ?_;have fin:∀(r:Option Code) (j:KH),KeepsFrom w.heap.size m j->
     ∃d,(Instr.endRound (D+1) r).run P j= .ok (.bool r.isNone) d/\d=j.putObj (D+1) (.loop (b (if r.isNone then .ready else .done) r))/\j.heap[D+1]? =some (.loop (b .busy none))/\d.heap[D+1]? =some (.loop (b (if r.isNone then .ready else .done) r))/\d.heap[D]? =some (.deferred (some []))/\w.heap.size<=d.heap.size:=fun r j hk=>by
    have a1:=hk.same _ _ (by omega) c0 rfl;have c4:=hk.same _ _ (by omega) c1 rfl;refine⟨_,run_endRound (P:=P) r a1,by rw[es],a1, ?_, ?_, ?_⟩
    ·rw[es];exact World.putObj_heap_same (JF.1 a1).1
    ·rw[World.putObj_heap_other (by omega)];exact c4
    ·rw[World.putObj_size];exact Jb a5 hk.size
   intro a6 c5 j k;cases a6 with
   | normal=>
    obtain⟨d,y,A,B,C,E,U⟩:=fin none j k.1;exact⟨_,d,y,.inl ⟨rfl,by rw[A];exact (J _).2 _ _ _ _ (by omega) B rfl k.2,U,C,E⟩⟩
   | ret=>
    obtain⟨d,y,A,B,C,E,U⟩:=fin (some .ret) j k.1;exact⟨_,d,y,.inr ⟨rfl,.ret,by rw[A];exact (S _).2 _ _ _ _ (by omega) B rfl k.2,C,E⟩⟩
   | exit id=>
    obtain⟨d,y,A,B,C,E,U⟩:=fin (some (.exit id)) j k.1;exact⟨_,d,y,.inr ⟨rfl,.exit id,by rw[A];exact (S _).2 _ _ _ _ (by omega) B rfl k.2,C,E⟩⟩
   | goto t=>
    obtain⟨d,y,A,B,C,E,U⟩:=fin (some (.goto t)) j k.1;exact⟨_,d,y,.inr ⟨rfl,.goto t,by rw[A];exact (S _).2 _ _ _ _ (by omega) B rfl k.2,C,E⟩⟩
   | panic ch=>exact k.elim
   | outgrown=>exact k.elim
  ·exact .inr ⟨b8,b9,a0,e,G⟩
 ·rintro a6 W2 ⟨⟨v,rfl⟩,(⟨L,a0,e,G⟩|⟨c,L,e,G⟩)⟩
  ·refine⟨none,_,by have:=run_endLoop (P:=P) e (by rw[f];simp);rw[f] at this;exact this, ?_⟩;exact b2 D _ (by omega) ((J n).2 _ _ _ _ (by omega) e rfl L) (by rw[World.putObj_heap_other (by omega)];exact G)
  ·refine⟨some c,_,by have:=run_endLoop (P:=P) e (by rw[f];simp);rw[f] at this;exact this, ?_⟩;exact b3 D c _ (by omega) ((S c).2 _ _ _ _ (by omega) e rfl L) (by rw[World.putObj_heap_other (by omega)];exact G)
theorem BJ{l:List Nat}{p q:Nat->Bool}(h:∀x,q x=true->p x=true){s:Nat}(b:s∈l)(c:p s=true)(h2:q s=false):l.countP q+1<=l.countP p:=by
 induction l with
 | nil=>cases b
 | cons a l ih=>
  rw[List.countP_cons,List.countP_cons];rcases JN.1 b with rfl|b
  ·have:=List.countP_mono_left (l:=l) (p:=q) (q:=p) (fun x _=>h x);simp only[c,h2,if_true];simp;omega
  ·have f:=ih b;have d:=h a;cases e:q a
   ·simp;omega
   ·simp[d e];omega
theorem AR{Q:List Nat}{s:Nat}(c:Q.Nodup)(d:∀p∈Q,p<60)(e:s<60)(f:s∉Q):Q.length<60:=by
 have h:(s :: Q).Nodup:=List.nodup_cons.2 ⟨f,c⟩;have:=List.Nodup.length_le_of_subset (l₂:=List.range 60) h (fun x b=>by
  rcases JN.1 b with rfl|b
  ·exact List.mem_range.2 e
  ·exact List.mem_range.2 (d x b))
 simp at this;omega
theorem iC.size{w:KH}{a:Nat}{Q:List Nat}(h:iC w a Q):w.cell? ⟨a,61,none⟩=some (.int .i64 (Q.length:Int)):=by
 obtain⟨V,f,_,_,d,_⟩:=h.ex;rw[d.cell (by omega)]
 rfl
theorem z62 :List.toArray (Value.int .i64 0 :: Value.int .i64 0 :: Value.int .i64 0 :: Value.int .i64 0 :: Value.int .i64 0 :: Value.int .i64 0 :: Value.int .i64 0 :: Value.int .i64 0 :: Value.int .i64 0 :: Value.int .i64 0 :: Value.int .i64 0 :: Value.int .i64 0 :: Value.int .i64 0 :: Value.int .i64 0 :: Value.int .i64 0 :: Value.int .i64 0 :: Value.int .i64 0 :: Value.int .i64 0 :: Value.int .i64 0 :: Value.int .i64 0 :: Value.int .i64 0 :: Value.int .i64 0 :: Value.int .i64 0 :: Value.int .i64 0 :: Value.int .i64 0 :: Value.int .i64 0 :: Value.int .i64 0 :: Value.int .i64 0 :: Value.int .i64 0 :: Value.int .i64 0 :: Value.int .i64 0 :: Value.int .i64 0 :: Value.int .i64 0 :: Value.int .i64 0 :: Value.int .i64 0 :: Value.int .i64 0 :: Value.int .i64 0 :: Value.int .i64 0 :: Value.int .i64 0 :: Value.int .i64 0 :: Value.int .i64 0 :: Value.int .i64 0 :: Value.int .i64 0 :: Value.int .i64 0 :: Value.int .i64 0 :: Value.int .i64 0 :: Value.int .i64 0 :: Value.int .i64 0 :: Value.int .i64 0 :: Value.int .i64 0 :: Value.int .i64 0 :: Value.int .i64 0 :: Value.int .i64 0 :: Value.int .i64 0 :: Value.int .i64 0 :: Value.int .i64 0 :: Value.int .i64 0 :: Value.int .i64 0 :: Value.int .i64 0 :: Value.int .i64 0 :: Value.int .i64 0 :: Value.int .i64 0 :: [])=Array.replicate 62 (Value.int .i64 0):=rfl
def jm(S:Nat->Bool):Nat:=(List.range 60).countP (fun p=>!S p)
theorem yP{S:Nat->Bool}{s:Nat}(c:s<60)(d:S s=false):jm (fun r=>if r=s then true else S r)+1<=jm S:=by
 refine BJ (s:=s) (fun x a=>?_) (List.mem_range.2 c) (by simp[d]) (by simp);by_cases e:x=s
 ·rw[e] at a;simp at a
 ·simpa[e] using a
def gK(w:KH)(sb:Nat)(S:Nat->Bool):Prop:=w.rowIs sb 168 60 (fun i=>.bool (S i))
theorem gK.put{w:KH}{a:Nat}{S:Nat->Bool}(h:gK w a S)(i:Nat):gK (w.setCell ⟨a,i,none⟩ (.bool true)) a (fun r=>if r=i then true else S r):=
 nY h i _ (fun p _=>by by_cases e:p=i <;> simp[e])
theorem gK.ext{w:KH}{a:Nat}{S T:Nat->Bool}(h:gK w a S)(e:∀p,T p=S p):gK w a T:=wH h (fun p _=>by rw[e p])
theorem zb60 :List.toArray (Value.bool false :: Value.bool false :: Value.bool false :: Value.bool false :: Value.bool false :: Value.bool false :: Value.bool false :: Value.bool false :: Value.bool false :: Value.bool false :: Value.bool false :: Value.bool false :: Value.bool false :: Value.bool false :: Value.bool false :: Value.bool false :: Value.bool false :: Value.bool false :: Value.bool false :: Value.bool false :: Value.bool false :: Value.bool false :: Value.bool false :: Value.bool false :: Value.bool false :: Value.bool false :: Value.bool false :: Value.bool false :: Value.bool false :: Value.bool false :: Value.bool false :: Value.bool false :: Value.bool false :: Value.bool false :: Value.bool false :: Value.bool false :: Value.bool false :: Value.bool false :: Value.bool false :: Value.bool false :: Value.bool false :: Value.bool false :: Value.bool false :: Value.bool false :: Value.bool false :: Value.bool false :: Value.bool false :: Value.bool false :: Value.bool false :: Value.bool false :: Value.bool false :: Value.bool false :: Value.bool false :: Value.bool false :: Value.bool false :: Value.bool false :: Value.bool false :: Value.bool false :: Value.bool false :: Value.bool false :: [])=Array.replicate 60 (Value.bool false):=rfl
theorem Tryz.AA :(prog.info? 3).map (fun i=>(i.zero,i.size,i.bytes))=some (some (.int .i64 0),1,8):=by kernel_rfl
def IC(wr:KH)(rb p:Nat)(Q:List Nat)(bx mb n:Nat)(ba:KG)(bl bc:Nat)(a b:Act)(u:KH):Prop:=
 b= {a with tmps:=((((((a.tmps.setIfInBounds 27 (.pointer (some ⟨bx,2,none⟩))).setIfInBounds 28 (.slice (some ⟨mb,0,none⟩) n n)).setIfInBounds 29 (.int .i64 (p:Int))).setIfInBounds 30 (.pointer (some ⟨mb,p,none⟩))).setIfInBounds 31 (.slice ba bl bc)).setIfInBounds 32 (.int .i64 (bl:Int))).setIfInBounds 33 (.int .i64 0)}/\iC u rb Q/\But (fun b=>b=rb) wr u
def Gr(R:Nat->Nat->Prop)(n:Nat)(ps:List Nat)(w w':KH)(e:Ending):Prop:=∃(av:KG) (cv:Nat) (l:List Nat),e= .returned (.slice av l.length cv)/\r_ w' av l/\l.length<=60/\l.Pairwise (· < ·)/\(∀p,p∈l↔p<n/\n_ R ps p)/\K_ w w'
theorem vB(w:KH)(H:KG)(U:Nat)(a:List KC)(nb t:Nat)(d9 q:Nat->List Nat)(E:KC->KC->Prop)(M:Nat)(pa:KG)(pc:Nat)(ps:List Nat)(b5:∀p∈ps,p<a.length)(e0:ps.Nodup)(hn:a.length<=60)(hM:M<=60000000)(hV:xe w H a nb t d9 q)(hR:Fw E a M d9 q)(hP:r_ w pa ps):
  Calls prog 73 #[.agg #[.slice H a.length U,.slice (some ⟨nb,0,none⟩) a.length a.length,.slice (some ⟨t,0,none⟩) a.length a.length],.slice pa ps.length pc] w fun e w'=>Gr (iX E a) a.length ps w w' e:=by
 have k5:ps.length<=60:=by
  have:=List.Nodup.length_le_of_subset (l₂:=List.range 60) e0 (fun Z hx=>List.mem_range.2 (I_ (b5 Z hx) hn));simpa using this
 go_enter func73,ntmps73
 go_upto_region 3 with fail
 rw[zb60,z62];obtain⟨c,I⟩:=ah (w.alloc (.cells #[.slice H a.length U,.slice (some ⟨nb,0,none⟩) a.length a.length,.slice (some ⟨t,0,none⟩) a.length a.length] 68));have k1:K_ w c:=by rw[I];exact ag _ _
 have s0:c.cell? ⟨w.heap.size,0,none⟩=some (.slice H a.length U):=by rw[I];exact X_ w #[.slice H a.length U,.slice (some ⟨nb,0,none⟩) a.length a.length,.slice (some ⟨t,0,none⟩) a.length a.length] 68 0 _ rfl
 have s2:c.cell? ⟨w.heap.size,2,none⟩=some (.slice (some ⟨t,0,none⟩) a.length a.length):=by rw[I];exact X_ w #[.slice H a.length U,.slice (some ⟨nb,0,none⟩) a.length a.length,.slice (some ⟨t,0,none⟩) a.length a.length] 68 2 _ rfl
 have z1:w.heap.size<c.heap.size:=by rw[I];simp
 have g9:w.heap.size+1=c.heap.size:=by rw[I];simp
 obtain⟨B,a0⟩:=ah (c.alloc (.cells (Array.replicate 60 (.bool false)) 168));have k2:K_ c B:=by rw[a0];exact ag _ _
 have b6:gK B c.heap.size (fun _=>false):=by
  have h:=World.rowIs_alloc c (Array.replicate 60 (.bool false)) 168 (fun _=>.bool false) (fun i x=>by simp at x;simp[x]);rw[Array.size_replicate] at h;rw[a0];exact h
 have h0:c.heap.size+1=B.heap.size:=by rw[a0];simp
 obtain⟨W3,a9⟩:=ah (B.alloc (.cells (Array.replicate 62 (.int .i64 0)) 165));have k3:K_ B W3:=by rw[a9];exact ag _ _
 have r3:iC W3 B.heap.size []:=by
  refine⟨fun _=>0,0,by omega,by simp, ?_,fun i x=>aP x⟩;have h:=World.rowIs_alloc B (Array.replicate 62 (.int .i64 0)) 165 (mJ (fun _=>0) 0 0) (fun i x=>by simp at x;simp[mJ,x]);rw[Array.size_replicate] at h;rw[a9];exact h
 rw[<-I,<-a0,<-a9];obtain⟨d,e2⟩:=ah c.heap.size;obtain⟨k,e3⟩:=ah B.heap.size;have e4:w.heap.size+1=d:=by omega
 have e5:w.heap.size+1+1=k:=by omega
 rw[e5,e4];rw[<-e2] at b6;rw[<-e3] at r3;have a1:d≠k:=by omega
 have e6:Hid (c.heap.size<=d):=by show c.heap.size<=d;omega
 have b0:Hid (c.heap.size<=k):=by show c.heap.size<=k;omega
 have e7:Hid (gK W3 d (fun p=>decide (p∈ps.take 0))):=(gK.ext (nD b6 k3) (fun p=>by simp));have e8:Hid (iC W3 k (ps.take 0)):=r3;have e9:=Kz (k2.trans k3);have b1:=Kz k1;have b7:Hid (∀u,K_ c u->u.cell? ⟨w.heap.size,0,none⟩=some (.slice H a.length U)/\u.cell? ⟨w.heap.size,2,none⟩=some (.slice (some ⟨t,0,none⟩) a.length a.length)):=fun u b2=>⟨(b2.cell z1).trans s0,(b2.cell z1).trans s2⟩
 clear I a0 a9 e4 e5 b6 r3 k1 k2 k3 g9 h0 e2 e3 s0 s2 z1;go_wp2
 go_loopw [15] (fun Z wr=>∃i:Nat,i<=ps.length/\Z= .int .i64 (i:Int)/\Hid (gK wr d (fun p=>decide (p∈ps.take i)))/\Hid (iC wr k (ps.take i))/\Hid (K_ c wr)) (fun Z _=>ps.length-(intOf Z).toNat)
 case atStart=>exact⟨0,Ja _,rfl,e7,e8,e9⟩
 case round=>
  clear e7 e8 e9;obtain⟨i,x,rfl,l,v,m⟩:=hrel;by_cases J:i<ps.length
  ·obtain⟨pb,po,e1,k6,h1⟩:=(hP.kept (b1.o.trans m.o)) i J;subst e1;obtain⟨p,hp⟩:=ah (ps.getD i 0);rw[<-hp] at h1;have b8:ps[i]=p:=by rw[hp];simp[List.getD,J]
   have f0:p<a.length:=b5 p (by rw[<-b8];exact Ji J);have a2:Hid (ps.take (i+1)=ps.take i++ [p]):=by show _=_;rw[Jf J,b8]
   have h2:(i:Int)<(ps.length:Int):=by omega
   have k7:(p:Int)<60:=by omega
   have cp:=l.o.cell (show p<60 by omega);have fp:=l.o.frozen p;have y:=Kz (gK.put l.o p);have L:Hid (K_ c (wr.setCell ⟨d,p,none⟩ (.bool true))):=(But.set (S:=fun b=>b=d) (But.aC (K_.refl wr)) (p:=⟨d,p,none⟩) rfl _).kept m.o (fun b e=>by rw[e];exact e6.o);have N:=Kz (v.o.block (w':=wr.setCell ⟨d,p,none⟩ (.bool true)) (Below.heap_setCell _ _ _ _ (fun e=>a1 (Eq.symm e))));have h3:(ps.take i).length<60:=by rw[Jt];omega
   clear hp b8;go_upto_region 7 with fail
   generalize b9:wr.setCell ⟨d,p,none⟩ (.bool true)=w7 at y L N⊢;clear b9 cp fp;go_wp2_with fail
   refine (CJ w7 k (ps.take i) p N.o h3).mono ?_;rintro e V ⟨rfl,a3,O⟩;have c0:Hid (iC V k (ps.take (i+1))):=by rw[a2.o];exact a3
   have c1:Hid (gK V d (fun n=>decide (n∈ps.take (i+1)))):=by
    refine gK.ext (eT y.o (O.block _ (dX y.o) (fun e=>a1 e))) (fun n=>?_);rw[a2.o];by_cases e:n=p
    ·simp[e]
    ·simp[e]
   have c2:Hid (K_ c V):=O.kept L.o (fun b e=>by rw[e];exact b0.o);clear a3 O y L N;go_wp2
   go_roundw
   case rel=>exact⟨i+1,by omega,by go_num,c1,c0,c2⟩
   case measure=>simp[intOf];omega
  have c3:i=ps.length:=by omega
  have f1:Hid (sU (iX E a) ps (fun p=>decide (p∈ps)) ps):=sU.start _ e0;have f2:Hid (gK wr d (fun p=>decide (p∈ps))):=by have h:=l.o;rw[c3,JB] at h;exact h
  have P:Hid (iC wr k ps):=by have h:=v.o;rw[c3,JB] at h;exact h
  have h4:¬((i:Int)<(ps.length:Int)):=by omega
  clear l v c3 J;go_wp2_with fail
  clear h4;go_loopg [10] (2*jm (fun p=>decide (p∈ps))+ps.length) (fun gg f3 wr=>∃(S:Nat->Bool) (Q:List Nat),Hid (2*jm S+Q.length=gg)/\Hid (gK wr d S)/\Hid (iC wr k Q)/\Hid (sU (iX E a) ps S Q)/\Hid (∀p∈Q,p<a.length)/\Hid (K_ c wr)/\f3=f3)
  case atStart=>exact⟨_,ps,Kz rfl,f2,P,f1,Kz b5,m,rfl⟩
  case round=>
   clear f2 P f1 m;obtain⟨S,Q,W,l,v,HB,C,m,_⟩:=hrel;have c4:=v.o.size;cases Q with
   | nil=>
    have f4:wr.cell? ⟨k,61,none⟩=some (.int .i64 0):=c4;clear c4;obtain⟨q0,q2⟩:=b7.o _ m.o;have f5:=l;have f6:=Kz (b1.o.trans m.o);obtain⟨b3,f7⟩:=ah wr;rw[<-f7] at f5 f6 q0 q2 f4⊢;clear f7;have h5:Hid (∀p,S p=true↔n_ (iX E a) ps p):=HB.o.whole;go_wp2_with fail
    clear q0 q2 f4;go_loopw [11,49] (fun h6 c5 wr=>∃(i:Nat) (D:KG) (R:Nat),i<=a.length/\c5= .int .i64 (i:Int)/\h6= .slice D ((List.range i).filter S).length R/\Hid (gK wr d S)/\Hid (wr.ownsRow b3.heap.size 3 1 (.slice D ((List.range i).filter S).length R) ((List.range i).filter S).length (((List.range i).filter S).map rZ))/\Hid (K_ b3 wr)) (fun _ c5 _=>a.length-(intOf c5).toNat)
    case atStart=>exact⟨0,none,0,Ja _,rfl,rfl,f5,JP _ _ _ _,Kz (K_.refl _)⟩
    case round=>
     obtain⟨i,D,R,x,rfl,rfl,c6,HO,c7⟩:=hrel;obtain⟨A,hl⟩:=ah ((List.range i).filter S);have h7:A.length<=60:=by rw[hl];have:=List.length_filter_le S (List.range i);rw[List.length_range] at this;omega
     rw[<-hl] at HO⊢;have c8:=Kz hl;clear hl;by_cases J:i<a.length;rotate_left
     ·have k8:¬((i:Int)<(a.length:Int)):=by omega
      have h8:Hid (i=a.length):=by show i=a.length;omega
      have h9:Hid (r_ wr D A):=by
       obtain⟨k9,l0,f8,_,f9⟩:=oN HO.o rfl;simp only[JJ,true_and] at f8;rw[<-f8.1] at f9;exact f9
      clear J;go_wp2
      go_ret
      refine⟨D,R,A,rfl,h9.o,h7, ?_,fun p=>?_,f6.o.trans c7.o⟩
      ·rw[c8.o];exact List.Pairwise.filter _ List.pairwise_lt_range
      ·rw[c8.o,List.mem_filter,List.mem_range,h8.o,h5.o]
     have h2:(i:Int)<(a.length:Int):=by omega
     have l1:(i:Int)<60:=by omega
     have ci:=c6.o.cell (show i<60 by omega);have b4:Hid ((List.range (i+1)).filter S=if S i=true then A++ [i] else A):=by
      show _=_;rw[List.range_succ,List.filter_append,<-c8.o];cases T:S i <;> simp[T]
     cases X:S i
     ·rw[X] at ci;go_wp2
      go_roundw
      case rel=>exact⟨i+1,D,R,by omega,by go_num,by rw[b4.o,X];rfl,c6,Kz (by rw[b4.o,X];exact HO.o),c7⟩
      case measure=>simp[intOf];omega
     ·rw[X] at ci;obtain⟨ic,i0,i1,i2,i3⟩:=info_parts Tryz.AA;have ka:K_ wr (wr.alloc (.cells #[.int .i64 (i:Int)] 3)):=ag _ _;have c9:=Kz (aj HO.o ka);have g0:=Kz (c7.o.trans ka);have i4:b3.heap.size<=(wr.alloc (.cells #[.int .i64 (i:Int)] 3)).heap.size:=g0.o.size;have d0:Hid (∀j u,([.int .i64 (i:Int)]:List KI)[j]? =some u->(wr.alloc (.cells #[.int .i64 (i:Int)] 3)).cell? ((⟨wr.heap.size,0,none⟩:Addr).add j)=some u):=fun j u hu=>by rw[JL];exact X_ wr #[.int .i64 (i:Int)] 3 j u hu
      have i5:Hid (∀u∈([.int .i64 (i:Int)]:List KI),u.oneCell'=true):=fun u hu=>by simp only[JN,JO,or_false] at hu;subst hu;rfl
      have d1:=Kz (nD c6.o ka);clear ka;go_wp2_with (at_builtin;refine wpList_append_own _ rfl (.tmp 55) (.tmp 57) 52 rfl b3.heap.size 3 ic _ 1 8 underlying52 i0 i1 i2 i3 rfl (by decide) (.slice D A.length R) A.length (A.map rZ) rfl c9.o ⟨wr.heap.size,0,none⟩ 1 1 [.int .i64 (i:Int)] rfl rfl d0.o i5.o (by unfold maxLen;omega) (by omega) i4 ?_;intro v' w6 d2 d3 _;have KP:=aF g0.o (IZ _) c9.o d3;have i6:Hid (gK w6 d S):=eT d1.o ((But.aK (S:=fun b=>(Value.slice D A.length R).ownBlock=some b) d3 (fun b e=>e)).block _ (dX d1.o) (fun e=>aQ (fe d1.o) (Y_ c9.o e) (by decide) rfl));have i7:=Kz d2;obtain⟨i8,i9,rfl⟩:=ax d2;clear d2 d3)
      go_roundw
      case rel=>exact⟨i+1,i8,i9,by omega,by go_num,by rw[b4.o,X];simp,i6,Kz (by rw[b4.o,X];simp only[if_true,JH,Km];exact i7.o),Kz KP⟩
      case measure=>simp[intOf];omega
   | cons p Q=>
    have j0:(0:Int)<((p :: Q).length:Int):=by simp
    have f0:p<a.length:=C.o p (by simp);obtain⟨ba,bc,g1,g2⟩:=hV.bwd p f0;obtain⟨q0,q2⟩:=b7.o _ m.o;have j1:Hid (t<w.heap.size):=hV.mbl;have a4:Hid (∀u,But (fun b=>b=k) wr u->u.cell? ⟨w.heap.size,2,none⟩=some (.slice (some ⟨t,0,none⟩) a.length a.length)/\u.cell? ⟨t,p,none⟩=some (.slice ba (q p).length bc)):=fun u b2=>by
     have kk:K_ c u:=b2.kept m.o (fun b e=>by rw[e];exact b0.o);exact⟨(b7.o u kk).2,((b1.o.trans kk).cell j1.o).trans g1⟩
    have l2:(p:Int)<(a.length:Int):=by omega
    have l3:=(hR.len p).2;have j2:=Kz g2;clear g2 g1 q0;go_upto_region 10 with fail
    refine rH (IC wr k p Q w.heap.size t a.length ba (q p).length bc) ?_ ?_
    ·refine gL 5 a4.o (But.aC (aG wr)) (fun r=>?_);have d4:Hid (iC wr.drew k (p :: Q)):=v.o.block (w':=wr.drew) rfl;have d5:Hid (But (fun b=>b=k) wr wr.drew):=But.aC (aG wr);generalize j3:wr.drew=wd at r d4 d5⊢;clear j3;refine ae 0 r ?_;refine ae 1 r ?_;refine bG 2 6 (fun K f=>?_) (fun K f=>?_)
     ·rw[Kg (by rfl)];go_simp
      go_at_call 116
      refine (zZ wd k Q p d4.o).mono ?_;rintro e w1 ⟨rfl,a5,a6⟩;have F:=Kz (But.trans d5.o a6);have P:=Kz a5;clear a5 a6;dsimp only;refine f.out _ _ (fun _=>a4.o _ F.o) ?_;clear f K r;have r:=a4.o _ F.o;try simp only[Act.put,upA,upB,upC]
      refine ae 3 r ?_;refine ae 4 r ?_;refine bG 5 6 (fun K f=>?_) (fun K f=>?_)
      ·go_simp
       refine f.out _ _ (fun h=>Ki rfl h) ?_;clear f K;try simp only[Act.put,upA,upB,upC]
       refine af 6 (fun K f=>?_);go_simp
       refine f.out _ _ (fun _=>r) ?_;clear f K;try simp only[Act.put,upA,upB,upC]
       refine ay ?_;refine⟨rfl, ?_,P.o,F.o⟩;simp only[List.setIfInBounds_toArray,List.set_cons_zero,JS]
      ·go_simp
       refine f.out _ _ (fun _=>r) ?_;clear f K;try simp only[Act.put,upA,upB,upC]
       refine af 5 (fun K f=>?_);go_simp
       refine f.out _ _ (fun h=>Ki rfl h) ?_;clear f K;try simp only[Act.put,upA,upB,upC]
       refine ay ?_;refine⟨rfl, ?_,P.o,F.o⟩;simp only[List.setIfInBounds_toArray,List.set_cons_zero,JS]
     ·go_simp
      refine f.out _ _ (fun _=>r) ?_;clear f K;try simp only[Act.put,upA,upB,upC]
      refine ai 2 (fun K f=>?_);go_simp
      go_at_call 116
      refine (zZ wd k Q p d4.o).mono ?_;rintro e w1 ⟨rfl,a5,a6⟩;have F:=Kz (But.trans d5.o a6);have P:=Kz a5;clear a5 a6;dsimp only;refine f.out _ _ (fun _=>a4.o _ F.o) ?_;clear f K r;have r:=a4.o _ F.o;try simp only[Act.put,upA,upB,upC]
      refine ae 3 r ?_;refine ae 4 r ?_;refine af 5 (fun K f=>?_);go_simp
      refine f.out _ _ (fun h=>Ki rfl h) ?_;clear f K;try simp only[Act.put,upA,upB,upC]
      refine ay ?_;refine⟨rfl, ?_,P.o,F.o⟩;simp only[List.setIfInBounds_toArray,List.set_cons_zero,JS]
    rintro b u ⟨rfl,g3,d6⟩;simp only[List.setIfInBounds_toArray,List.set_cons_zero,JS];have g4:=Kz g3;have g5:Hid (gK u d S):=eT l.o (d6.block _ (dX l.o) (fun e=>a1 e));have g6:Hid (K_ c u):=d6.kept m.o (fun b e=>by rw[e];exact b0.o);have G:=Kz HB.o.take;have g7:Hid (∀n∈Q,n<a.length):=fun n hq=>C.o n (Jp _ hq)
    have g8:Hid (2*jm S+Q.length<gk):=by have h:=W.o;rw[JK] at h;show 2*jm S+Q.length<gk;omega
    clear g3 d6 c4 j0 l v HB C m W q2;go_wp2
    go_loopw [33] (fun d7 wr=>∃(j:Nat) (S:Nat->Bool) (Q:List Nat),d7= .int .i64 (j:Int)/\j<=(q p).length/\Hid (2*jm S+Q.length<gk)/\Hid (gK wr d S)/\Hid (iC wr k Q)/\Hid (kY (iX E a) ps p ((q p).take j) S Q)/\Hid (∀n∈Q,n<a.length)/\Hid (K_ c wr)) (fun d7 _=>(q p).length-(intOf d7).toNat)
    case atStart=>exact⟨0,S,Q,rfl,Ja _,g8,g5,g4,G,g7,g6⟩
    case round=>
     clear g8 g5 g4 G g7 g6;obtain⟨j,S,Q,rfl,hj,W,l,v,G,C,m⟩:=hrel;by_cases a7:j<(q p).length;rotate_left
     ·have l4:¬((j:Int)<((q p).length:Int)):=by omega
      have j4:Hid (sU (iX E a) ps S Q):=G.o.ends (fun s T=>by rw[JC (by omega)];exact (hR.bwd s p).2 T);clear a7;go_wp2
      go_roundg (2*jm S+Q.length)
      case measure=>exact W.o
      case rel=>exact⟨S,Q,Kz rfl,l,v,j4,C,m,trivial⟩
     obtain⟨xb,xo,e1,l5,j5⟩:=(j2.o.kept (b1.o.trans m.o)) j a7;subst e1;obtain⟨s,T⟩:=ah ((q p).getD j 0);rw[<-T] at j5;have d8:(q p)[j]=s:=by rw[T];simp[List.getD,a7]
     have HE:Hid (iX E a s p):=(hR.bwd s p).1 (by rw[<-d8];exact Ji a7);have j6:s<a.length:=HE.o.1;have a2:Hid ((q p).take (j+1)= (q p).take j++ [s]):=by show _=_;rw[Jf a7,d8]
     have l6:(j:Int)<((q p).length:Int):=by omega
     have cs:=l.o.cell (show s<60 by omega);have l7:(s:Int)<60:=by omega
     clear T d8;cases Y:S s;rotate_left
     ·rw[Y] at cs;have j7:=Kz (G.o.old Y);go_wp2
      go_roundw
      case rel=>exact⟨j+1,S,Q,by go_num,by omega,W,l,v,Kz (by rw[a2.o];exact j7.o),C,m⟩
      case measure=>simp[intOf];omega
     rw[Y] at cs;have d0:=Kz (G.o.new HE.o Y);have j8:Q.length<60:=AR G.o.nd (fun n hq=>I_ (C.o n hq) hn) (show s<60 by omega) (fun h=>by have:=G.o.q s h;rw[Y] at this;cases this);have j9:=Kz (yP (show s<60 by omega) Y);have fs:=l.o.frozen s;have y:=Kz (gK.put l.o s);have L:Hid (K_ c (wr.setCell ⟨d,s,none⟩ (.bool true))):=(But.set (S:=fun b=>b=d) (But.aC (K_.refl wr)) (p:=⟨d,s,none⟩) rfl _).kept m.o (fun b e=>by rw[e];exact e6.o);have N:=Kz (v.o.block (w':=wr.setCell ⟨d,s,none⟩ (.bool true)) (Below.heap_setCell _ _ _ _ (fun e=>a1 (Eq.symm e))));go_upto_region 15 with fail
     generalize b9:wr.setCell ⟨d,s,none⟩ (.bool true)=w7 at y L N⊢;clear b9 fs cs;go_wp2_with fail
     refine (CJ w7 k Q s N.o j8).mono ?_;rintro e V ⟨rfl,a3,O⟩;have c0:=Kz a3;have c1:Hid (gK V d (fun a8=>if a8=s then true else S a8)):=eT y.o (O.block _ (dX y.o) (fun e=>a1 e));have c2:Hid (K_ c V):=O.kept L.o (fun b e=>by rw[e];exact b0.o);have k0:Hid (2*jm (fun a8=>if a8=s then true else S a8)+ (Q++ [s]).length<gk):=by
      have l8:=j9.o;have l9:=W.o;rw[JH];simp only[JK,List.length_nil];show _<_;omega
     have k4:Hid (∀n∈Q++ [s],n<a.length):=fun n hq=>by
      rcases Jh.1 hq with h|h
      ·exact C.o n h
      ·rw[Jg] at h;rw[h];exact j6
     clear a3 O y L N;go_wp2
     go_roundw
     case rel=>exact⟨j+1,_,_,by go_num,by omega,k0,c1,c0,Kz (by rw[a2.o];exact d0.o),k4,c2⟩
     case measure=>simp[intOf];omega
