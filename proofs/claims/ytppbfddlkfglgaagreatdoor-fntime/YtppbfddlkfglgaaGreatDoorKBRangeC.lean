import Derived.Test.YtppbfddlkfglgaaGreatDoorKBTask
import Derived.RangeFuncWrites
import Derived.RangeFuncCalls
import Derived.Shelf.RegionOpen
import Derived.OwnWalkIn
import Derived.LoopNIn
import Derived.LoopIn
set_option maxRecDepth 100000
set_option maxHeartbeats 25600000
namespace Go.Proofs.YtppbfddlkfglgaaGreatDoor
open Go.RowKit Go.Proofs.Tryz
section
variable {G:dm}{Kq:List Qz}{wz w w':QX}{bb:Nat}{a:QW}{cap:Nat}{rd:QW}{rn rc:Nat}{mb mx:Nat}{ts:List Zk}{d:QW}{dc:Nat}{f:QV -> QY}{ws:QV -> List Nat}
theorem BM.store(j:BM G Kq wz w bb a cap rd rn rc mb mx ts d dc f ws){i:Nat}{t t':Zk}(A:ts[i]? =some t){o:Nat}{v:QY}(B:o<12)(e:t'.cells=t.cells.set o v)(k:t'.tb=t.tb)(C:t'.r.name=t.r.name)(D:t'.cost=t.cost)(E:t'.steps=t.steps)(F:t'.sa=t.sa)(q:t'.tv=t.tv)(s:t'.qv=t.qv)(y:t'.qs=t.qs)(H:t'.r.texts=t.r.texts):
  BM G Kq wz (w.setCell ⟨t.tb,o,none⟩ v) bb a cap rd rn rc mb mx (ts.set i t') d dc f ws:=by
 obtain⟨l,rfl⟩:=PG.1 A;have b:=j.fZ _ (PL l);have m:But (λc=>c=ts[i].tb) w (w.setCell ⟨ts[i].tb,o,none⟩ v):=But.set (S:=λc=>c=ts[i].tb) (But.ak (K_.refl w)) (p:=⟨ts[i].tb,o,none⟩) rfl v;have ne:∀x∈ts[i].own,x≠ts[i].tb:=λx n=>aN (b.eZ n).1 b.row.type A8
 have z:t'.own=ts[i].own:=by unfold Zk.own;rw[q,s]
 refine j.turn l m (λc h=>.inl h) ⟨by rw[k];exact b.row.set v,by rw[k,e];exact nR b.rng b.row.row B v,?_,?_,by rw[k];exact b.low⟩ k C D E F (λx n=>.inl (by rw[<-z];exact n)) (by rw[z];exact j.Av _ (PL l)) (by rw[y];exact j.qb _ (PL l))
 .rw[q,H];exact m.owns b.txt λc h=>ne c (PK.2 (.inl (Qe.2 h)))
 .rw[s,y];exact m.owns b.ask λc h=>ne c (PK.2 (.inr (Qe.2 h)))
theorem BM.at(h:BM G Kq wz w bb a cap rd rn rc mb mx ts d dc f ws){i:Nat}{t:Zk}(c:ts[i]? =some t):lC wz.heap.size w t:=h.fZ t (PP c)
theorem Tryz.NW(w:QX):(zeroValue 101).run prog w=.ok J6 w:=C9
theorem Tryz.keyed :Maps.Keyed prog 9:=Maps.string_keyed underlying9
theorem BM.look(h:BM G Kq wz w bb a cap rd rn rc mb mx ts d dc f ws){s:QV}(c:s.size<=maxLen):(Instr.lookup 100 (.map (some mb)) (.string s) false).run prog w=.ok (f s) w:=by
 obtain⟨N,D,_,i,j⟩:=h.map;obtain⟨v,m,k,b⟩:=i.lookup Tryz.keyed underlying100 (Tryz.NW w) (zd:=.held J6) (zp:=[]) rfl (WideMaps.keyOf_string_mk underlying9 c);have e:=j s c;unfold asIs at b;simp only[Ql,Prod.mk.injEq] at b;have l:(DataW.held v:DataW QY)=.held (f s):=b.1.trans e;cases l;exact k
theorem gY{s b:QV}(h:s≠b):cB s≠cB b:=λe=>h (by
 unfold cB at e;simp only[Lit.string.injEq] at e;exact BF e)
theorem BM.del(h:BM G Kq wz w bb a cap rd rn rc mb mx ts d dc f ws){s:QV}(y:s.size<=maxLen)(p:TypeId):∃w',(Builtin.delete_ #[100,9] p #[.map (some mb),.string s]).run prog w=.ok (.tuple #[]) w'/\But (λb=>b=mb) w w'/\BM G Kq wz w' bb a cap rd rn rc mb mx ts d dc (λn=>if n=s then J6 else f n) (λn=>if n=s then [] else ws n):=by
 obtain⟨N,J,z,q,A⟩:=h.map;obtain⟨w',B,C,D⟩:=q.drop Tryz.keyed underlying100 (WideMaps.keyOf_string_mk underlying9 y) p;have k:But (λb=>b=mb) w w':=But.aI D.grown λb e=>(Qv e).symm;refine⟨w',B,k,?_⟩;have ne:∀{b:Nat}{t:TypeId},bu w b t->¬b=mb:=λE e=>iP q E e
 have l:=h.row.lt;have i:=ne h.row.type;have F:Fen G w' bb mb ts (λn=>if n=s then J6 else f n):=by
  have j:=h.oth.but k (λb e=>by rw[e];exact h.oth.nm);refine⟨j.size,j.lt,j.same,j.nb,j.nm,j.nt,λn x c=>?_,j.has⟩;by_cases e:n=s
  .simp only[QI e] at c;cases c
  .simp only[QJ e] at c;exact h.oth.nf n x c
 refine⟨k.kept h.kw (λb e=>by rw[e];exact h.CW),k.row h.row i,(k.cell l i).trans h.c0,(k.cell l i).trans h.c1,(k.cell l i).trans h.c2,(k.cell l i).trans h.c3,(k.cell l i).trans h.c4,(k.cell l i).trans h.c5,h.low,k.owns h.items λb e=>ne (Y_ h.items e),λt m=>(h.fZ t m).but k (ne (h.fZ t m).row.type) λx c=>ne ((h.fZ t m).eZ c).1,h.act,h.asc,h.tbs,h.sep,h.Av,⟨N,_,z,C,λn H=>?_⟩,h.CW,λn=>?_,λn r I x c=>?_,λn x c=>?_,h.qb,F,h.gi⟩
 .by_cases e:n=s
  .rw[QI e,e];exact Maps.atKey_del_same _
  .rw[QJ e,<-A n H];exact Maps.atKey_del_other (gY e) _
 .by_cases e:n=s
  .simp only[QI e];exact Qt _ _ _ _
  .simp only[QJ e];exact k.owns (h.jo n) λb e=>ne (Y_ (h.jo n) e)
 .by_cases e:n=s
  .rw[QI e] at c;cases c
  .rw[QJ e] at c;by_cases v:r=s
   .rw[QI v];intro h;cases h
   .rw[QJ v];exact h.Ar n r I x c
 .by_cases e:n=s
  .rw[QI e] at c;cases c
  .rw[QJ e] at c;exact h.CX n x c
end
def jB(ts:List Zk)(l:List Nat):List Zk:=ts.map λt=>if t.tb∈l then {t with op:=t.op-1} else t
theorem Du{ts:List Zk}{l:List Nat}{i:Nat}(h:i<(jB ts l).length)(b:i<ts.length):(jB ts l)[i]=if ts[i].tb∈l then {ts[i] with op:=ts[i].op-1} else ts[i]:=by simp[jB]
theorem Eo(ts:List Zk):jB ts []=ts:=by simp[jB]
theorem AU{ts:List Zk}{l:List Nat}{b j:Nat}{t:Zk}(n:(ts.map (·.tb)).Nodup)(p:b∉l)(q:ts[j]? =some t)(d:t.tb=b):jB ts (l++[b])= (jB ts l).set j {t with op:=t.op-1}/\(jB ts l)[j]? =some t:=by
 obtain⟨f,rfl⟩:=PG.1 q;have r:(jB ts l)[j]? =some ts[j]:=by
  unfold jB;rw[List.getElem?_map,PE f];simp only[Option.map_some,Ql];rw[QJ (by rw[d];exact p)]
 refine⟨?_,r⟩;apply List.ext_getElem
 .simp[jB]
 .intro i k v;have a:i<ts.length:=by simpa[jB] using k
  rw[QU,Du k a];by_cases e:j=i
  .subst e;rw[QI rfl,QI (by rw[d];simp)]
  .rw[QJ e,Du (by simpa[jB] using a) a];have s:ts[i].tb≠b:=by
    rw[<-d];have m:=PM.1 n;rcases Nat.lt_or_gt_of_ne e with h|h
    .have:=m j i (by simpa using f) (by simpa using a) h;simp at this;exact λe=>this e.symm
    .have:=m i j (by simpa using a) (by simpa using f) h;simpa using this
   by_cases c:ts[i].tb∈l
   .rw[QI c,QI (PK.2 (.inl c))]
   .rw[QJ c,QJ (by rw[PK,PI];rintro (h|h);exact c h;exact s h)]
theorem Tryz.NZ(w:QX):(zeroValue 3).run prog w=.ok (.b 0) w:=C9
def h_(w:QX)(qb mx:Nat)(g:QV->Option Int):Prop:=
 ∃N D,N<=mx/\w.ownsMap prog 9 asIs qb N D/\(∀s:QV,s.size<=maxLen->D.atKey (cB s) (.held (.b 0))=.held (.b ((g s).getD 0)))/\∀s:QV,Maps.has D (cB s)=true↔(g s).isSome=true
variable {s:QV}
section
variable {w w':QX}{qb mx:Nat}{g:QV -> Option Int}
theorem h_.but{S:Nat->Prop}(h:h_ w qb mx g)(k:But S w w')(a:¬S qb):h_ w' qb mx g:=by
 obtain⟨N,D,b,c,d⟩:=h;exact⟨N,D,b,iW c k a,d⟩
theorem h_.ne(h:h_ w qb mx g){b:Nat}{t:TypeId}(k:bu w b t):b≠qb:=by
 obtain⟨N,D,_,c,_⟩:=h;exact iP c k
theorem h_.lt(h:h_ w qb mx g):qb<w.heap.size:=by
 obtain⟨N,D,_,b,_⟩:=h;exact b.lt
theorem h_.new(w:QX):h_ (w.alloc (.map #[] 0)) w.heap.size 0 (λ_=>none):=
 ⟨0,_,Pw _,World.ownsMap_made w _ _ _,λ_ _=>rfl,λ_=>Iff.intro (λh=>by cases h) λh=>by cases h⟩
theorem h_.look(h:h_ w qb mx g)(b:s.size<=maxLen):(Instr.lookup 108 (.map (some qb)) (.string s) false).run prog w=.ok (.b ((g s).getD 0)) w:=by
 obtain⟨N,D,_,c,d,_⟩:=h;obtain⟨v,j,e,a⟩:=c.lookup Tryz.keyed underlying108 (Tryz.NZ w) (zd:=.held (.b 0)) (zp:=[]) rfl (WideMaps.keyOf_string_mk underlying9 b);have f:=d s b;unfold asIs at a;simp only[Ql,Prod.mk.injEq] at a;have i:(DataW.held v:DataW QY)=.held (.b ((g s).getD 0)):=a.1.trans f;cases i;exact e
theorem h_.Ph(k:h_ w qb mx g)(h:s.size<=maxLen):(Instr.lookup 108 (.map (some qb)) (.string s) true).run prog w=.ok (.tuple #[.b ((g s).getD 0),.bool (g s).isSome]) w:=by
 obtain⟨N,D,_,⟨r,t,l,F,_,rfl⟩,m,i⟩:=k;have j:=m s h;rcases Maps.fit_look true Tryz.keyed underlying108 (Tryz.NZ w) l F (WideMaps.keyOf_string_mk underlying9 h) with⟨b,v,a⟩|⟨n,x,y,z,b,c,a,A⟩
 .have d:=(a _).symm.trans j;have e:=Maps.has_false_of_atKey a;have p:(g s).isSome=false:=by
   cases q:(g s).isSome
   .rfl
   .have:=(i s).2 q;exact QK (e.symm.trans this) A9
  rw[p,b];have f:(Value.int .i64 0)=.b ((g s).getD 0):=by injection d
  rw[<-f]
  rfl
 .have d:=(a _).symm.trans j;have e:=(i s).1 (Maps.has_true_of_atKey a);unfold asIs at c;simp only[Ql] at c;subst c;have f:n.val=.b ((g s).getD 0):=by injection d
  rw[e,b,f]
  rfl
theorem h_.put(h:h_ w qb mx g)(i:s.size<=maxLen)(c:Int)(v:mx<=1000000):
  ∃w2,(Instr.mapUpdate 108 (.map (some qb)) (.string s) (.b c)).run prog w=.ok () w2/\h_ w2 qb (mx+1) (λn=>if n=s then some c else g n)/\But (λb=>b=qb) w w2:=by
 obtain⟨N,D,x,a,j,l⟩:=h;obtain⟨w2,m,p,q⟩:=a.update Tryz.keyed underlying108 D6 (WideMaps.keyOf_string_mk underlying9 i) (d:=.held (.b c)) (ps:=[]) rfl;have r:But (λb=>b=qb) w w2:=But.aI q λb e=>(Qv e).symm;have f:Maps.IsMap D:=by obtain⟨y,z,_,_,_,rfl⟩:=a;exact⟨_,rfl⟩
 refine⟨w2,m,⟨N+1,_,A7,p,λn t=>?_,λn=>?_⟩,r⟩
 .by_cases e:n=s
  .simp only[QI e];rw[e];exact Maps.atKey_put_same (k:=cB s) f (by show WideAt.IsKeyLit (.string _);exact trivial) _ _
  .simp only[QJ e];rw[<-j n t];exact Maps.atKey_put_other (gY e) _ _
 .by_cases e:n=s
  .simp only[QI e];rw[e];exact⟨λ_=>rfl,λ_=>Maps.has_put_same (k:=cB s) f (by show WideAt.IsKeyLit (.string _);exact trivial) _⟩
  .simp only[QJ e];rw[<-l n];exact Eq.to_iff (congrArg (· =true) (Maps.has_put_other (gY e) _))
theorem h_.del(h:h_ w qb mx g)(c:s.size<=maxLen)(a:TypeId):
  ∃w2,(Builtin.delete_ #[108,9] a #[.map (some qb),.string s]).run prog w=.ok (.tuple #[]) w2/\h_ w2 qb mx (λn=>if n=s then none else g n)/\But (λb=>b=qb) w w2:=by
 obtain⟨N,D,d,f,i,j⟩:=h;obtain⟨w2,k,l,m⟩:=f.drop Tryz.keyed underlying108 (WideMaps.keyOf_string_mk underlying9 c) a;have p:But (λb=>b=qb) w w2:=But.aI m.grown λb e=>(Qv e).symm;refine⟨w2,k,⟨N,_,d,l,λn q=>?_,λn=>?_⟩,p⟩
 .by_cases e:n=s
  .simp only[QI e];rw[e];exact Maps.atKey_del_same _
  .simp only[QJ e];rw[<-i n q];exact Maps.atKey_del_other (gY e) _
 .by_cases e:n=s
  .simp only[QI e];rw[e];exact Iff.intro (λh=>by have r:Maps.has (D.del (cB s)) (cB s)=false:=Maps.has_del_same;exact QK (r.symm.trans h) A9) (λh=>by cases h)
  .simp only[QJ e];rw[<-j n];exact Eq.to_iff (congrArg (· =true) (Maps.has_del_other (gY e)))
end
def Looks(P:Program)(gf:Nat)(rv:QY)(encs:Nat->Array QY)(V N:Nat->QX->Prop)(n:Nat)(ok:QX->Prop):Prop:=
 ∀(l:Nat)(J:Nat->QX->Prop)(Jx:QX->Prop)(W:QX),ok W->
  (∀i W1,i<n->J i W1->(V i W1/\YieldAt Fence.wide 7 P l (encs i) W1 λe W'=>(e=.returned (.bool true)/\J (i+1) W')\/(e=.returned (.bool false)/\Jx W'))\/(N i W1/\J (i+1) W1))->
  J 0 W->CallsIn Fence.wide 8 P gf #[rv,.func (.yield l) #[] #[]] W λe W'=>(∃v,e=.returned v)/\(J n W'\/Jx W')
def roundEnd(B:Nat)(I:QX->Prop)(Ix:Code->QX->Prop)(W:QX):Exit->Act->QX->Prop
 |.normal,_,W'=>KeepsFrom B W W'/\I W'
 |.ret,_,W'=>KeepsFrom B W W'/\Ix .ret W'
 |.exit id,_,W'=>KeepsFrom B W W'/\Ix (.exit id) W'
 |.goto t,_,W'=>KeepsFrom B W W'/\Ix (.goto t) W'
 |.panic _,_,_=>False
 |.outgrown,_,_=>False
def Calm(B:Nat)(I:QX->Prop):Prop:=(∀W o,B<=W.heap.size->I W->I (W.alloc o))/\∀(W:QX)(l:Nat)(o o':Obj),B<=l->W.heap[l]? =some o->o.isCells=false->I W->I (W.putObj l o')
theorem yo{P:Program}{g:Operand}{ps:Array Tmp}{assign body:Code}{Q:Exit->Act->QX->Prop}{a:Act}{w:QX}{E:Nat}{L:QY}{M:Nat->Array QY}{V N:Nat->QX->Prop}{n:Nat}{ok:QX->Prop}(a7:Looks P E L M V N n ok)(hg:a.eval g=.func (.func E) #[L] #[])(eg:∀args w,(callFunc E args).run P w=.ok (.enter E args) w)(a1:Calm w.heap.size ok)(a8:ok w)(a9:∀i,(M i).size=ps.size)(I:Nat->QX->Prop)(O:Code->QX->Prop)(H:∀i,Calm w.heap.size (I i))(R:∀c,Calm w.heap.size (O c))(h0:I 0 w)(a₁:Nat->Act)(b0:∀(l i:Nat)(W:QX)(K:Act->QX->Prop),K (a₁ i) W->assign.wpIn (Fence.wide.inRound l) 7 P (Exit.then K λ_ _ _=>False) {tmps:=(ps.zip (M i)).foldl (λt (p,v)=>t.setIfInBounds p v) a.tmps,defers:=[]} W)(hV:∀i,Calm w.heap.size (V i))(b1:∀(i:Nat)(W:QX),i<n->I i W->(V i W/\∀l W',V i W'->I i W'->w.heap.size<=W'.heap.size->body.wpIn (Fence.wide.inRound l) 7 P (roundEnd w.heap.size (I (i+1)) O W') (a₁ i) W')\/(N i W/\I (i+1) W))(b2:∀(D:Nat)(W:QX),w.heap.size<=D->I n W->W.heap[D]? =some (.deferred (some []))->Q .normal {a with defers:={target:=.collected D,args:= #[]} :: a.defers} W)(b3:∀(D:Nat)(c:Code)(W:QX),w.heap.size<=D->O c W->W.heap[D]? =some (.deferred (some []))->c.wpIn Fence.wide 9 P Q {a with defers:={target:=.collected D,args:= #[]} :: a.defers} W):
  (Code.rangeFunc g ps assign body).wpIn Fence.wide 9 P Q a w:=by
 refine wpIn_rangeFunc λfn b4=>?_
 obtain⟨D,hD⟩:=aj w.heap.size;obtain⟨b,f⟩:∃b:LoopState->Option Code->Loop,b=λs q=>{state:=s,pending:=q,fn,tmps:=a.tmps,params:=ps,assign,body,defers:=D}:=⟨_,rfl⟩
 have es:∀s q x U,({b s q with state:=x,pending:=U}:Loop)=b x U:=λs q x U=>by rw[f]
 have b5:∀s q x,({b s q with state:=x}:Loop)=b x q:=λs q x=>by rw[f]
 obtain⟨h,X⟩:∃h,(w.alloc (.deferred (some []))).alloc (.loop (b .ready none))=h:=⟨_,rfl⟩;have z1:w.heap.size<=(w.alloc (.deferred (some []))).heap.size:=by rw[Qh];omega
 have S:h.heap[D+1]? =some (.loop (b .ready none))/\h.heap[D]? =some (.deferred (some []))/\I 0 h/\ok h:=by
  rw[<-X,hD];refine⟨?_,?_,(H 0).1 _ _ z1 ((H 0).1 _ _ (Pw _) h0),a1.1 _ _ z1 (a1.1 _ _ (Pw _) a8)⟩
  .have:=World.alloc_heap_new (w.alloc (.deferred (some []))) (.loop (b .ready none))
   rwa [Qh] at this
  .exact (Below.heap_alloc _ _ _ A9).trans (World.alloc_heap_new w _)
 refine⟨D+1,[{target:=.collected D,args:= #[]}],h,{target:=.fn (.func E) #[],args:= #[L,.func (.yield (D+1)) #[] #[]]},h,E,#[L,.func (.yield (D+1)) #[] #[]],h,?_,?_,λ_ _=>trivial,?_,λ_=>A7,?_⟩
 .rw[<-X,f,hD];exact run_enterLoop_outer _ _ _ _ _
 .simp only[resolve,hg];simp[go_sem]
 .simp[invoke,go_sem,eg]
 refine (a7 (D+1) (λi W=>I i W/\w.heap.size<=W.heap.size/\W.heap[D+1]? =some (.loop (b .ready none))/\W.heap[D]? =some (.deferred (some []))) (λW=>∃c,O c W/\W.heap[D+1]? =some (.loop (b .done (some c)))/\W.heap[D]? =some (.deferred (some []))) h S.2.2.2 ?_ ⟨S.2.2.1,by rw[<-X];simp;omega,S.1,S.2.1⟩).mono ?_
 .rintro i W J ⟨a2,Y,e,F⟩;have b6:D+1<W.heap.size:=(Qg.1 e).1;rcases b1 i W J a2 with⟨a4,b7⟩|⟨b8,b9⟩
  .refine .inl ⟨a4,?_⟩;have hy:=run_yield (P:=P) (args:=M i) e (by rw[f];exact a9 i);rw[f] at hy;refine⟨fn,_,assign,body,hy,?_⟩;refine roundIn_of_wpIn b4 (b0 _ i W _ ⟨_,run_beginRound e (by rw[f]),?_⟩);obtain⟨m,G⟩:∃m,W.putObj (D+1) (.loop {b .ready none with state:=.busy})=m:=⟨_,rfl⟩;rw[G];have c0:m.heap[D+1]? =some (.loop (b .busy none)):=by rw[<-G,World.putObj_heap_same b6,b5]
   have c1:m.heap[D]? =some (.deferred (some [])):=by rw[<-G,World.putObj_heap_other A7];exact F
   have a5:w.heap.size<=m.heap.size:=by rw[<-G,World.putObj_size];exact Y
   have c2:I i m:=by rw[<-G];exact (H i).2 _ _ _ _ A7 e rfl a2
   have c3:V i m:=by rw[<-G];exact (hV i).2 _ _ _ _ A7 e rfl a4
   refine wpIn_mono (b7 _ m c3 c2 a5) ?_;have fin:∀(r:Option Code)(j:QX),KeepsFrom w.heap.size m j->
     ∃d,(Instr.endRound (D+1) r).run P j=.ok (.bool r.isNone) d/\d=j.putObj (D+1) (.loop (b (if r.isNone then .ready else .done) r))/\j.heap[D+1]? =some (.loop (b .busy none))/\d.heap[D+1]? =some (.loop (b (if r.isNone then .ready else .done) r))/\d.heap[D]? =some (.deferred (some []))/\w.heap.size<=d.heap.size:=λr j Z=>by
    have a0:=Z.same _ _ A7 c0 rfl;have c4:=Z.same _ _ A7 c1 rfl;refine⟨_,run_endRound (P:=P) r a0,by rw[es],a0,?_,?_,?_⟩
    .rw[es];exact World.putObj_heap_same (Qg.1 a0).1
    .rw[World.putObj_heap_other A7];exact c4
    .rw[World.putObj_size];exact Pz a5 Z.size
   intro a6 a3 j k;cases a6 with
   |normal=>
    obtain⟨d,y,z,A,B,C,T⟩:=fin none j k.1;exact⟨_,d,y,.inl ⟨rfl,by rw[z];exact (H _).2 _ _ _ _ A7 A rfl k.2,T,B,C⟩⟩
   |ret=>
    obtain⟨d,y,z,A,B,C,T⟩:=fin (some .ret) j k.1;exact⟨_,d,y,.inr ⟨rfl,.ret,by rw[z];exact (R _).2 _ _ _ _ A7 A rfl k.2,B,C⟩⟩
   |exit id=>
    obtain⟨d,y,z,A,B,C,T⟩:=fin (some (.exit id)) j k.1;exact⟨_,d,y,.inr ⟨rfl,.exit id,by rw[z];exact (R _).2 _ _ _ _ A7 A rfl k.2,B,C⟩⟩
   |goto t=>
    obtain⟨d,y,z,A,B,C,T⟩:=fin (some (.goto t)) j k.1;exact⟨_,d,y,.inr ⟨rfl,.goto t,by rw[z];exact (R _).2 _ _ _ _ A7 A rfl k.2,B,C⟩⟩
   |panic ch=>exact k.elim
   |outgrown=>exact k.elim
  .exact .inr ⟨b8,b9,Y,e,F⟩
 .rintro a6 W2 ⟨⟨v,rfl⟩,(⟨J,Y,e,F⟩|⟨c,J,e,F⟩)⟩
  .refine⟨none,_,by have:=run_endLoop (P:=P) e (by rw[f];simp);rw[f] at this;exact this,?_⟩;exact b2 D _ A7 ((H n).2 _ _ _ _ A7 e rfl J) (by rw[World.putObj_heap_other A7];exact F)
  .refine⟨some c,_,by have:=run_endLoop (P:=P) e (by rw[f];simp);rw[f] at this;exact this,?_⟩;exact b3 D c _ A7 ((R c).2 _ _ _ _ A7 e rfl J) (by rw[World.putObj_heap_other A7];exact F)
theorem lX{w:QX}{b:Nat}{t:TypeId}(h:bu w b t){o:Obj}(a:w.heap[b]? =some o):o.isCells=true:=by
 obtain⟨e,f,d⟩:=h;rw[d] at a;cases a
 rfl
section
variable {B:Nat}{Kf Kc:Nat -> Prop}{ps:List (Nat × QV)}{W0:QX}{Kq:List Qz}{wz W W':QX}{bb:Nat}{a:QW}{cap:Nat}{rd:QW}{rn rc:Nat}{mb mx:Nat}{ts:List Zk}{d:QW}{dc:Nat}{f:QV -> QY}{ws:QV -> List Nat}
theorem BM.as{G G':dm}(h:BM G Kq wz W bb a cap rd rn rc mb mx ts d dc f ws)(c:Fen G' W bb mb ts f)(e:∀x,(Value.slice d ts.length dc).ownBlock=some x->¬(G'.I x/\G'.K x)):BM G' Kq wz W bb a cap rd rn rc mb mx ts d dc f ws:=
 ⟨h.kw,h.row,h.c0,h.c1,h.c2,h.c3,h.c4,h.c5,h.low,h.items,h.fZ,h.act,h.asc,h.tbs,h.sep,h.Av,h.map,h.CW,h.jo,h.Ar,h.CX,h.qb,c,e⟩
theorem BM.no{G:dm}(h:BM G Kq wz W bb a cap rd rn rc mb mx ts d dc f ws):BM (dm.no wz) Kq wz W bb a cap rd rn rc mb mx ts d dc f ws:=h.as (Fen.no h.kw.size) λ_ _ h=>h.1
theorem BM.block{G:dm}(h:BM G Kq wz W bb a cap rd rn rc mb mx ts d dc f ws){S:Nat->Prop}(k:¬S mb)(c:∀b,S b->∀t,¬bu W b t):¬S bb/\¬S mb/\(∀b,(Value.slice d ts.length dc).ownBlock=some b->¬S b)/\(∀s b,(f s).ownBlock=some b->¬S b)/\∀t∈ts,¬S t.tb/\∀x∈t.own,¬S x:=
 ⟨λe=>c _ e _ h.row.type,k,λ_b i e=>c _ e _ (Y_ h.items i),λs _b i e=>c _ e _ (Y_ (h.jo s) i),λt j=>⟨λe=>c _ e _ (h.fZ t j).row.type,λ_x l e=>c _ e _ ((h.fZ t j).eZ l).1⟩⟩
theorem rD(k:K_ W W')(B:Nat):KeepsFrom B W W':=⟨k.size,λb _o _ a _=>(k.block b (aP a)).trans a⟩
end
open Go.RowKit Go.Shelf
attribute [local go_sem] Oper.semAt_some
def Ib(d:QW)(tb:Nat->Nat)(i:Nat)(W:QX):Prop:=∃g,d=some ⟨g,0,none⟩/\W.cell? ⟨g,i,none⟩=some (.h (tb i))/\W.cell? ⟨tb i,1,none⟩=some (.bool false)/\W.cell? ⟨tb i,9,none⟩=some (.b 0)
def Mc(d:QW)(tb:Nat->Nat)(i:Nat)(W:QX):Prop:=∃g,d=some ⟨g,0,none⟩/\W.cell? ⟨g,i,none⟩=some (.h (tb i))/\(W.cell? ⟨tb i,1,none⟩=some (.bool true)\/(W.cell? ⟨tb i,1,none⟩=some (.bool false)/\∃op:Nat,op≠0/\W.cell? ⟨tb i,9,none⟩=some (.b (op:Int))))
theorem vK(bb:Nat)(d:QW)(n dc:Nat)(tb:Nat->Nat)(w:n<=1048576):
  Looks prog 88 (.h bb) (λi=>#[.h (tb i)]) (Ib d tb) (Mc d tb) n (λW=>W.cell? ⟨bb,3,none⟩=some (.slice d n dc)):=by
 intro y J z W A a f;refine callsIn_of_wp func88 rfl trivial ?_ rfl;simp only[ntmps88,List.size_toArray,Qn,List.length_nil,Nat.reduceAdd,Nat.reduceSub,Array.replicate_succ,Array.replicate_zero,List.push_toArray,List.append_toArray,List.nil_append,List.cons_append];have j:=Kz a;clear a
 gi_wp2
 gi_loopw [12] (λx wr=>∃i:Nat,i<=n/\x=.b i/\J i wr) λx _=>n-(intOf x).toNat
 case atStart=>exact⟨0,Py _,rfl,f⟩
 case round=>
  obtain⟨i,B,rfl,b⟩:=hrel;by_cases k:i<n
  .rcases j.o i wr k b with⟨⟨g,rfl,l,c,m⟩,C,D,E,F,G,p⟩|⟨⟨g,rfl,l,q⟩,e⟩
   .gi_wp2
    refine p.mono ?_;rintro H I (⟨rfl,r⟩|⟨rfl,s⟩)
    .gi_wp2
     go_roundw
     case rel=>exact⟨i+1,A7,C8,r⟩
     case measure=>simp[intOf];omega
    .gi_wp2
     refine bodyPost_ret (results_none rfl _ _ _) rfl ?_;exact⟨⟨_,rfl⟩,.inr s⟩
   .rcases q with c|⟨c,t,v,m⟩
    .gi_wp2
     refine⟨λ_ h=>(by cases h),?_⟩
     gi_wp2
     go_roundw
     case rel=>exact⟨i+1,A7,C8,e⟩
     case measure=>simp[intOf];omega
    .have K:((t:Int) == 0)=false:=by simpa using v
     gi_wp2
     refine⟨λ_ h=>(by cases h),?_⟩
     gi_wp2
     go_roundw
     case rel=>exact⟨i+1,A7,C8,e⟩
     case measure=>simp[intOf];omega
  .gi_wp2
   go_end0
   have:i=n:=A7;subst this;exact⟨⟨_,rfl⟩,.inl b⟩
theorem FM{w w1:QX}{v:QY}{t:TypeId}(k:K_ (w.alloc (.cells #[v] t)) w1):w1.cell? ⟨w.heap.size,0,none⟩=some v/\w1.frozen? ⟨w.heap.size,0,none⟩=false/\bu w1 w.heap.size t:=by
 have a:w.heap.size<(w.alloc (.cells #[v] t)).heap.size:=A9;exact⟨(k.cell a).trans A9,(k.rules.2 _ _ a).trans A9,#[v],_,(k.block _ a).trans (World.alloc_heap_new w _)⟩
theorem O_{w w1:QX}{v0 v1:QY}{t:TypeId}(k:K_ (w.alloc (.cells #[v0,v1] t)) w1):w1.cell? ⟨w.heap.size,0,none⟩=some v0/\w1.cell? ⟨w.heap.size,1,none⟩=some v1:=by
 have a:w.heap.size<(w.alloc (.cells #[v0,v1] t)).heap.size:=A9;constructor
 .rw[k.cell a];simp
 .rw[k.cell a];simp
def kD(ts:List Zk):List QV:=ts.map λt=>t.r.name
def Oo(ts:List Zk):List (Nat×QV):=ts.map λt=>(t.tb,t.r.name)
def tK(ts:List Zk)(i:Nat):Nat:=(ts.map λt=>t.tb).getD i 0
theorem Bc :∀(l:List QV)(σ:Env),dQ l σ<=23*l.length
 |[],_=>Pw _
 |n :: l,σ=>by
  have b:=Bc l σ;have c:pg (σ n)<=23:=by
   unfold pg
   split
   .exact Pw _
   .split<;>omega
  have e:dQ (n :: l) σ=pg (σ n)+dQ l σ:=by simp[dQ]
  rw[e,Qn];omega
section
variable {B:Nat}{G:dm}{Kq:List Qz}{wz W W':QX}{bb:Nat}{a:QW}{cap:Nat}{rd:QW}{rn rc:Nat}{mb mx:Nat}{ts:List Zk}{d0 d:QW}{dc:Nat}{f:QV -> QY}{ws:QV -> List Nat}
theorem jw{l c o:Nat}(a:Obj)(h:c≠l):(W.putObj l a).cell? ⟨c,o,none⟩=W.cell? ⟨c,o,none⟩:=PO (w:=W) (World.putObj_heap_other h)
theorem FU{l c o:Nat}(a:Obj)(h:c≠l):(W.putObj l a).frozen? ⟨c,o,none⟩=W.frozen? ⟨c,o,none⟩:=World.frozen?_of_block (w:=W) (World.putObj_heap_other h)
theorem BS.can(h:BS Kq ts ws){t:Zk}(b:t∈ts):bg (Kk Kq) (Qq (Qj ts)) t.r↔t.r.over=false/\t.op=0:=by
 obtain⟨A,c,_⟩:=(h.good.good t.r (Qu b)).act;rw[Az (by rw[c];rfl),h.op t b,PQ]
theorem Bb{tb:Nat->Nat}{i:Nat}(_hd:∀g,d0=some ⟨g,0,none⟩->g<B):Calm B (λW=>Ib d0 tb i W):=by
 have cl:∀{W:QX}{c o:Nat}{v:QY},W.cell? ⟨c,o,none⟩=some v->c<W.heap.size:=λ{W c o v} h=>by
  obtain⟨f,a,_⟩:=cells_of_cell h;exact aP a
 have j:∀{W:QX}{c o l:Nat}{v:QY}{f:Obj},W.cell? ⟨c,o,none⟩=some v->W.heap[l]? =some f->f.isCells=false->c≠l:=λ{W c o l v f} h a d e=>by
  obtain⟨r,b,q⟩:=cells_of_cell h;simp only at b;rw[e,a] at b;cases b;rw[d] at q;cases q
 constructor
 .rintro W o s ⟨g,e,a,d,b⟩;have k:=(K_.refl W).alloc o;exact⟨g,e,(k.cell (cl a)).trans a,(k.cell (cl d)).trans d,(k.cell (cl b)).trans b⟩
 .rintro W l o m t n p ⟨g,e,a,d,b⟩;exact⟨g,e,(jw m (j a n p)).trans a,(jw m (j d n p)).trans d,(jw m (j b n p)).trans b⟩
theorem Hr{v:QY}{c:Nat}(e:c<B):Calm B (λW=>W.cell? ⟨c,3,none⟩=some v):=by
 constructor
 .intro W o f a;obtain⟨h,b,_⟩:=cells_of_cell a;exact (((K_.refl W).alloc o).cell (aP b)).trans a
 .intro W l o d i j k a;exact (jw d A7).trans a
theorem yL(B:Nat):Calm B (λ_=>False):=⟨λ_ _ _ h=>h,λ_ _ _ _ _ _ _ h=>h⟩
theorem BM.apart{G:dm}(h:BM G Kq wz W bb a cap rd rn rc mb mx ts d dc f ws){k:Nat}(i:d=some ⟨k,0,none⟩):k<W.heap.size/\k≠bb/\k≠mb/\(∀t∈ts,k≠t.tb/\k∉t.own)/\∀s,(f s).ownBlock≠some k:=by
 subst i;have c:(Value.slice (some ⟨k,0,none⟩) ts.length dc).ownBlock=some k:=rfl;have b:=Y_ h.items c;obtain⟨N,D,_,j,_⟩:=h.map;refine⟨(h.items.lt k c).2,aN b h.row.type A8,iP j b,λt e=>⟨aN b (h.fZ t e).row.type A8,λl=>aN b ((h.fZ t e).eZ l).1 A8 rfl⟩,λs m=>h.CX s k m c⟩
theorem BM.item(h:BM G Kq wz W bb a cap rd rn rc mb mx ts d dc f ws){i:Nat}(j:i<ts.length):∃g,d=some ⟨g,0,none⟩/\W.cell? ⟨g,i,none⟩=some (.h ((ts[i]).tb)):=by
 have b:=h.items;rcases b.2 with⟨e,_⟩|⟨g,l,m,e,_⟩
 .exfalso
  simp only[Qm] at e;omega
 .simp only[Qm] at e;obtain⟨rfl,_,rfl⟩:=e;refine⟨g,rfl,?_⟩;have c:=b.cells (g:=g) rfl i (ts[i]).ptr (by simp[j]);have k:((⟨g,0,none⟩:Addr).add i)= ⟨g,i,none⟩:=by simp[Addr.add];omega
  rw[k] at c;exact c
theorem BM.sees(l:BM G Kq wz W bb a cap rd rn rc mb mx ts d dc f ws)(q:BS Kq ts ws){i:Nat}(c:i<ts.length):(Ib d (tK ts) i W/\bg (Kk Kq) (Qq (Qj ts)) (ts[i]).r)\/(Mc d (tK ts) i W/\¬bg (Kk Kq) (Qq (Qj ts)) (ts[i]).r):=by
 obtain⟨g,m,j⟩:=l.item c;have s:tK ts i= (ts[i]).tb:=by simp[tK,List.getD,c]
 have n:=l.fZ ts[i] (PL c);have b:W.cell? ⟨(ts[i]).tb,1,none⟩=some (.bool (ts[i]).r.over):=n.rng 1 _ rfl;have e:W.cell? ⟨(ts[i]).tb,9,none⟩=some (.b ((ts[i]).op:Int)):=n.rng 9 _ rfl;have p:=q.can (PL c);rw[<-s] at j b e;by_cases h:bg (Kk Kq) (Qq (Qj ts)) (ts[i]).r
 .obtain⟨t,v⟩:=p.1 h;rw[t] at b;rw[v] at e;exact .inl ⟨⟨g,m,j,b,e⟩,h⟩
 .refine .inr ⟨⟨g,m,j,?_⟩,h⟩;cases k:(ts[i]).r.over with
  |true=>left;rw[b,k]
  |false=>
   right
   exact⟨by rw[b,k],(ts[i]).op,λw=>h (p.2 ⟨k,w⟩),e⟩
end
theorem Hm{ts:List Zk}{l:List Nat}{i:Nat}{t:Zk}(h:ts[i]? =some t):∃u,(jB ts l)[i]? =some u/\u.tb=t.tb/\u.r=t.r:=by
 refine⟨if t.tb∈l then {t with op:=t.op-1} else t,by unfold jB;rw[List.getElem?_map,h];rfl,?_,?_⟩
 .by_cases h:t.tb∈l
  .rw[QI h]
  .rw[QJ h]
 .by_cases h:t.tb∈l
  .rw[QI h]
  .rw[QJ h]
def Zk.ended(t:Zk)(fl:Bool)(tx:QV):Zk:={t with r:={t.r with over:=true,fail:=fl,text:=tx}}
section
variable {G:dm}{Kq:List Qz}{wz w w':QX}{bb:Nat}{a:QW}{cap:Nat}{rd:QW}{rn rc:Nat}{mb mx:Nat}{ts:List Zk}{d:QW}{dc:Nat}{f:QV -> QY}{ws:QV -> List Nat}
theorem BM.ended(l:BM G Kq wz w bb a cap rd rn rc mb mx ts d dc f ws){i:Nat}{t:Zk}(e:ts[i]? =some t)(b:Bool)(c:QV):BM G Kq wz (((w.setCell ⟨t.tb,1,none⟩ (.bool true)).setCell ⟨t.tb,2,none⟩ (.bool b)).setCell ⟨t.tb,3,none⟩ (.string c)) bb a cap rd rn rc mb mx (ts.set i (t.ended b c)) d dc f ws:=by
 have h:i<ts.length:=(PG.1 e).1;have m:=l.store (t':={t with r:={t.r with over:=true}}) e (o:=1) (v:=.bool true) A7 rfl rfl rfl rfl rfl rfl rfl rfl rfl rfl;have j:=m.store (t':={t with r:={t.r with over:=true,fail:=b}}) (QF h) (o:=2) (v:=.bool b) A7 rfl rfl rfl rfl rfl rfl rfl rfl rfl rfl;rw[List.set_set] at j;have k:=j.store (t':=t.ended b c) (QF h) (o:=3) (v:=.string c) A7 rfl rfl rfl rfl rfl rfl rfl rfl rfl rfl;rw[List.set_set] at k;exact k
theorem om(hB:BM G Kq wz w bb a cap rd rn rc mb mx ts d dc f ws){i:Nat}{t:Zk}(hi:ts[i]? =some t)(D:Bool)(E:QV)(b7:t.r.name.size<=1000)(b8:(ws t.r.name).length<=1000)(hw:∀b∈ws t.r.name,∃(j:Nat)(u:Zk),(ts.set i (t.ended D E))[j]? =some u/\u.tb=b/\1<=u.op/\u.op<=1000)(b1:(ws t.r.name).Nodup):
  Calls prog 146 #[.h bb,.h t.tb,.bool D,.string E] w λe w'=>e=.returned (.tuple #[])/\BM G Kq wz w' bb a cap rd rn rc mb mx (jB (ts.set i (t.ended D E)) (ws t.r.name)) d dc (λn=>if n=t.r.name then J6 else f n) (λn=>if n=t.r.name then [] else ws n):=by
 obtain⟨x,hm⟩:=aj ((ws t.r.name).length);have R:=hB.at hi;obtain⟨⟨_,x1⟩,f1⟩:=R.row.row.at (i:=1) A7;obtain⟨⟨_,x2⟩,f2⟩:=R.row.row.at (i:=2) A7;obtain⟨⟨_,x3⟩,f3⟩:=R.row.row.at (i:=3) A7;have tz:=R.row.lt;obtain⟨W1,a2⟩:=aj (((w.setCell ⟨t.tb,1,none⟩ (.bool true)).setCell ⟨t.tb,2,none⟩ (.bool D)).setCell ⟨t.tb,3,none⟩ (.string E));have a1:BM G Kq wz W1 bb a cap rd rn rc mb mx (ts.set i (t.ended D E)) d dc f ws:=by
  rw[a2];exact hB.ended hi D E
 obtain⟨va,vc,hf⟩:=aG (a1.jo t.r.name);rw[<-hm] at hf;have b2:i<ts.length:=(PG.1 hi).1;have a3:(ts.set i (t.ended D E))[i]? =some (t.ended D E):=by rw[QF b2]
 obtain⟨T1,a4⟩:=aj (ts.set i (t.ended D E));rw[<-a4] at a1 a3 hw⊢;have⟨b9,I,a5,Hf,H⟩:=fQ a4 a1 a3 hf hm;have⟨HW,HN⟩:=aJ hw b1;have c1:x<=1000:=A7;have S:Hid (∀w',K_ W1 w'->w'.cell? ⟨bb,5,none⟩=some (.map (some mb))/\w'.cell? ⟨t.tb,0,none⟩=some (.string t.r.name)/\(Instr.lookup 100 (.map (some mb)) (.string t.r.name) false).run prog w'=.ok (.slice va x vc) w'):=λw' K=>⟨(I.o.kept K).c5,((I.o.kept K).at a5.o).rng 0 _ rfl,by rw[<-Hf.o];exact (I.o.kept K).look D6⟩
 clear hB a1 R hi a3 a4 hf hm hw b1 b2;go_enter func146,ntmps146
 go_upto_region 1 with fail
 rw[<-a2];clear a2 x1 x2 x3 f1 f2 f3 tz;refine bG 10 S.o λwd y q=>?_
 refine ax 0 q ?_;refine ax 4 q ?_;refine ae 8 q ?_;refine ae 9 q ?_;refine iX 10 11 (λK c=>?_) λK c=>?_
 .rw[QI D8];go_simp
  refine af c (λ_=>S.o _ y) ?_;clear c K;refine au 11 λK c=>?_;go_simp
  refine af c (λ_=>S.o _ y) ?_;clear c K;refine aF ?_;have T:=Kz (I.o.kept y);clear q;go_wp2
  go_loopw [35] (λJ wr=>∃k:Nat,k<=x/\J=.b k/\BM G Kq wz wr bb a cap rd rn rc mb mx (jB T1 ((ws t.r.name).take k)) d dc f ws) λJ _=>x-(intOf J).toNat
  case atStart=>exact⟨0,Py _,rfl,by rw[List.take_zero,Eo];exact T.o⟩
  case round=>
   clear T y;obtain⟨k,hk,rfl,m⟩:=hrel;by_cases b3:k<x
   .obtain⟨p,z⟩:∃p,(ws t.r.name)[k]? =some p:=⟨_,PE (by have:=H.o;omega)⟩;have U:p∈ws t.r.name:=PP z;obtain⟨j,u,V,L,b4,b5⟩:=HW.o p U;have A:(ws t.r.name).take (k+1)= (ws t.r.name).take k++[p]:=by
     obtain⟨B,C⟩:=PG.1 z;rw[PH B,C]
    have W:p∉(ws t.r.name).take k:=λh=>by
     have a6:=HN.o;obtain⟨B,C⟩:=PG.1 z;obtain⟨a7,hq,e⟩:=PN h;rw[PW] at hq;rw[Qf] at e;have:=PM.1 a6 a7 k A7 B A7;exact this (e.trans C.symm)
    obtain⟨M,N⟩:=AU I.o.tbs W V L;rw[<-A] at M;have F:=m.at N;have o9:wr.cell? ⟨u.tb,9,none⟩=some (.b (u.op:Int)):=F.rng 9 _ rfl;have uz:=F.row.lt;obtain⟨_,g9⟩:=F.row.row.at (i:=9) A7;have O:=m.jo t.r.name;rw[Hf.o] at O;obtain⟨b,o,rfl,hb,X⟩:=eP (by have:=O;rw[<-H.o] at this;exact this) k (by simp;have:=H.o;omega);have c0:wr.cell? ⟨b,o+k,none⟩=some (.h u.tb):=by rw[X k (yg p) (by simp[z]),<-L];rfl
    have P:=Kz (m.store (t':={u with op:=u.op-1}) N (o:=9) (v:=.b ((u.op-1:Nat):Int)) A7 rfl rfl rfl rfl rfl rfl rfl rfl rfl rfl);rw[<-M] at P;have Y:((u.op-1:Nat):Int)= (u.op:Int)-1:=A7;rw[Y] at P;have i0:(k:Int)<(x:Int):=A7;clear X O F M N A W U z V L Y m;go_wp2
    go_roundw
    case rel=>exact⟨k+1,A7,C8,P.o⟩
    case measure=>simp[intOf];omega
   .obtain rfl:k=x:=A7;have A:(ws t.r.name).take k=ws t.r.name:=by rw[H.o];exact Qc
    rw[A] at m;have Q:=Kz m;clear m A;have a8:=Kz (Hm (l:=ws t.r.name) a5.o);have a9:Hid (∀w',K_ wr w'->w'.cell? ⟨bb,5,none⟩=some (.map (some mb))/\w'.cell? ⟨t.tb,0,none⟩=some (.string t.r.name)):=λw' K=>⟨(Q.o.kept K).c5,by obtain⟨u,B,C,h3⟩:=a8.o;have Z:=((Q.o.kept K).at B).rng 0 _ rfl;rw[C,h3] at Z;exact Z⟩
    go_upto_region 6 with fail
    refine bG 9 a9.o λwd y q=>?_
    refine ax 0 q ?_;refine ax 4 q ?_;refine ae 8 q ?_;obtain⟨w9,b6,_,a0⟩:=(Q.o.kept y).del (s:=t.r.name) D6 0;have b0:=Kz a0;clear a0;refine aD 9 λK c=>?_;go_simp
    refine af c (λh=>QK rfl h) ?_;clear c K;refine aF ?_;go_wp2
    go_end0
    exact⟨rfl,b0.o⟩
 .rw[QI D8];go_simp
  refine af c (λ_=>S.o _ y) ?_;clear c K;refine au 10 λK c=>?_;go_simp
  refine af c (λ_=>S.o _ y) ?_;clear c K;refine aF ?_;have T:=Kz (I.o.kept y);clear q;go_wp2
  go_loopw [35] (λJ wr=>∃k:Nat,k<=x/\J=.b k/\BM G Kq wz wr bb a cap rd rn rc mb mx (jB T1 ((ws t.r.name).take k)) d dc f ws) λJ _=>x-(intOf J).toNat
  case atStart=>exact⟨0,Py _,rfl,by rw[List.take_zero,Eo];exact T.o⟩
  case round=>
   clear T y;obtain⟨k,hk,rfl,m⟩:=hrel;by_cases b3:k<x
   .obtain⟨p,z⟩:∃p,(ws t.r.name)[k]? =some p:=⟨_,PE (by have:=H.o;omega)⟩;have U:p∈ws t.r.name:=PP z;obtain⟨j,u,V,L,b4,b5⟩:=HW.o p U;have A:(ws t.r.name).take (k+1)= (ws t.r.name).take k++[p]:=by
     obtain⟨B,C⟩:=PG.1 z;rw[PH B,C]
    have W:p∉(ws t.r.name).take k:=λh=>by
     have a6:=HN.o;obtain⟨B,C⟩:=PG.1 z;obtain⟨a7,hq,e⟩:=PN h;rw[PW] at hq;rw[Qf] at e;have:=PM.1 a6 a7 k A7 B A7;exact this (e.trans C.symm)
    obtain⟨M,N⟩:=AU I.o.tbs W V L;rw[<-A] at M;have F:=m.at N;have o9:wr.cell? ⟨u.tb,9,none⟩=some (.b (u.op:Int)):=F.rng 9 _ rfl;have uz:=F.row.lt;obtain⟨_,g9⟩:=F.row.row.at (i:=9) A7;have O:=m.jo t.r.name;rw[Hf.o] at O;obtain⟨b,o,rfl,hb,X⟩:=eP (by have:=O;rw[<-H.o] at this;exact this) k (by simp;have:=H.o;omega);have c0:wr.cell? ⟨b,o+k,none⟩=some (.h u.tb):=by rw[X k (yg p) (by simp[z]),<-L];rfl
    have P:=Kz (m.store (t':={u with op:=u.op-1}) N (o:=9) (v:=.b ((u.op-1:Nat):Int)) A7 rfl rfl rfl rfl rfl rfl rfl rfl rfl rfl);rw[<-M] at P;have Y:((u.op-1:Nat):Int)= (u.op:Int)-1:=A7;rw[Y] at P;have i0:(k:Int)<(x:Int):=A7;clear X O F M N A W U z V L Y m;go_wp2
    go_roundw
    case rel=>exact⟨k+1,A7,C8,P.o⟩
    case measure=>simp[intOf];omega
   .obtain rfl:k=x:=A7;have A:(ws t.r.name).take k=ws t.r.name:=by rw[H.o];exact Qc
    rw[A] at m;have Q:=Kz m;clear m A;have a8:=Kz (Hm (l:=ws t.r.name) a5.o);have a9:Hid (∀w',K_ wr w'->w'.cell? ⟨bb,5,none⟩=some (.map (some mb))/\w'.cell? ⟨t.tb,0,none⟩=some (.string t.r.name)):=λw' K=>⟨(Q.o.kept K).c5,by obtain⟨u,B,C,h3⟩:=a8.o;have Z:=((Q.o.kept K).at B).rng 0 _ rfl;rw[C,h3] at Z;exact Z⟩
    go_upto_region 6 with fail
    refine bG 9 a9.o λwd y q=>?_
    refine ax 0 q ?_;refine ax 4 q ?_;refine ae 8 q ?_;obtain⟨w9,b6,_,a0⟩:=(Q.o.kept y).del (s:=t.r.name) D6 0;have b0:=Kz a0;clear a0;refine aD 9 λK c=>?_;go_simp
    refine af c (λh=>QK rfl h) ?_;clear c K;refine aF ?_;go_wp2
    go_end0
    exact⟨rfl,b0.o⟩
end
section
variable {P:Program}{ops:Array Oper}{Q:Exit -> Act -> QX -> Prop}{md:Region.Mode}{l m:Nat}
theorem FR{row:String}{args:Array QY}{w:QX}{R:QY->QX->Prop}(h:Rows P row args w R):RowsIn (Fence.wide.inRound l) m P row args w R:=λc a _=>by
 obtain⟨v,b,r,s⟩:=h c a;exact⟨v,b,r,stepsIn_wide.2 s⟩
theorem Lg(_hQ:¬LetsOut Q){o:Oper}(f:∀c:Call,o.op≠ .defer c){a:Act}{w:QX}{K:Act->QX->Prop}(h:o.wp P a w K Q):o.wpIn (Fence.wide.inRound l) m P a w K Q:=by
 refine⟨λ_ _=>trivial,?_⟩;have e:o.semAt (Fence.wide.inRound l).round a.eval=execOp a.eval o:=Oper.semAt_eq _ _ _ f;rw[e];unfold Oper.wp at h;generalize (execOp a.eval o).run P w=r at *;cases r with
 |ok x w'=>
  cases x<;>simp only[Oper.upon,Oper.uponIn] at h⊢ <;>
   first
    |exact h
    |exact⟨λd=>(by cases d),CallsIn.inRound l (callsIn_wide.2 h)⟩
    |exact⟨λd=>(by cases d),FR h⟩
 |halt x w'=>cases x<;>simp only[Oper.upon,Oper.uponIn] at h⊢<;>exact h
theorem nT(d:¬LetsOut Q)(e:∀(i:Nat)(o:Oper),ops[i]? =some o->∀c:Call,o.op≠ .defer c):∀(n:Nat)(up:Array Bool)(a:Act)(w:QX),wpAny P md ops Q n up a w->wpAnyIn (Fence.wide.inRound l) m P md ops Q n up a w
 |0,_,_,_,h=>h
 |n+1,up,a,w,h=>by
  refine⟨h.1,λk j=>?_⟩;have b:=h.2 k j;unfold wpOp at b;unfold wpOpIn;cases f:ops[k]? with
  |none=>
   rw[f] at b;exact nT d e n _ _ _ b
  |some o=>
   rw[f] at b;simp only at b⊢
   split
   .rename_i hw
    rw[QI hw] at b;rcases b with b|⟨_,b⟩
    .exact Oper.wpIn_mono (λp u g=>nT d e n _ p u g) (Lg d (e k o f) b)
    .exact (d b).elim
   .rename_i hw
    rw[QJ hw] at b;exact⟨λ_ _=>trivial,nT d e n _ _ _ b⟩
def xm(ops:Array Oper):Bool:=ops.all λo=>match o.op with|.defer _=>false|_=>true
theorem xZ{ops:Array Oper}(h:xm ops=true)(i:Nat)(o:Oper)(a:ops[i]? =some o)(c:Call):o.op≠ .defer c:=by
 intro e;unfold xm at h;rw[Array.all_eq_true] at h;obtain⟨b,rfl⟩:=Qg.1 a;have:=h i b;rw[e] at this;cases this
theorem BG{id:Nat}{a:Act}{w:QX}(b:P.follows .mixedOrders=true)(c:xm ops=true)(d:¬LetsOut Q)(S:QX->Prop)(z:Nat)(f:S w.drew)(h:S w.drew->Qk P .any ops Q S z ops.size (Array.replicate ops.size false) a w.drew):(Code.region id ops true).wpIn (Fence.wide.inRound l) m P Q a w:=
 wpIn_region_any b (nT d (xZ c) _ _ _ _ (Qk.any _ _ _ _ (h f)))
end
def Mj(P:Program)(gf:Nat)(lb:Array QY)(encs:Nat->Array QY)(V N:Nat->QX->Prop)(n:Nat)(ok:QX->Prop):Prop:=
 ∀(l:Nat)(J:Nat->QX->Prop)(Jx:QX->Prop)(W:QX),ok W->
  (∀i W1,i<n->J i W1->(V i W1/\YieldAt Fence.wide 7 P l (encs i) W1 λe W'=>(e=.returned (.bool true)/\J (i+1) W')\/(e=.returned (.bool false)/\Jx W'))\/(N i W1/\J (i+1) W1))->
  J 0 W->CallsIn Fence.wide 8 P gf (#[.func (.yield l) #[] #[]]++lb) W λe W'=>(∃v,e=.returned v)/\(J n W'\/Jx W')
theorem DW{P:Program}{g:Operand}{ps:Array Tmp}{assign body:Code}{Q:Exit->Act->QX->Prop}{a:Act}{w:QX}{E:Nat}{L:Array QY}{M:Nat->Array QY}{V N:Nat->QX->Prop}{n:Nat}{ok:QX->Prop}(a7:Mj P E L M V N n ok)(hg:a.eval g=.func (.func E) #[] L)(eg:∀args w,(callFunc E args).run P w=.ok (.enter E args) w)(a1:Calm w.heap.size ok)(a8:ok w)(a9:∀i,(M i).size=ps.size)(I:Nat->QX->Prop)(O:Code->QX->Prop)(H:∀i,Calm w.heap.size (I i))(R:∀c,Calm w.heap.size (O c))(h0:I 0 w)(a₁:Nat->Act)(b0:∀(l i:Nat)(W:QX)(K:Act->QX->Prop),K (a₁ i) W->assign.wpIn (Fence.wide.inRound l) 7 P (Exit.then K λ_ _ _=>False) {tmps:=(ps.zip (M i)).foldl (λt (p,v)=>t.setIfInBounds p v) a.tmps,defers:=[]} W)(hV:∀i,Calm w.heap.size (V i))(b1:∀(i:Nat)(W:QX),i<n->I i W->(V i W/\∀l W',V i W'->I i W'->w.heap.size<=W'.heap.size->body.wpIn (Fence.wide.inRound l) 7 P (roundEnd w.heap.size (I (i+1)) O W') (a₁ i) W')\/(N i W/\I (i+1) W))(b2:∀(D:Nat)(W:QX),w.heap.size<=D->I n W->W.heap[D]? =some (.deferred (some []))->Q .normal {a with defers:={target:=.collected D,args:= #[]} :: a.defers} W)(b3:∀(D:Nat)(c:Code)(W:QX),w.heap.size<=D->O c W->W.heap[D]? =some (.deferred (some []))->c.wpIn Fence.wide 9 P Q {a with defers:={target:=.collected D,args:= #[]} :: a.defers} W):
  (Code.rangeFunc g ps assign body).wpIn Fence.wide 9 P Q a w:=by
 refine wpIn_rangeFunc λfn b4=>?_
 obtain⟨D,hD⟩:=aj w.heap.size;obtain⟨b,f⟩:∃b:LoopState->Option Code->Loop,b=λs q=>{state:=s,pending:=q,fn,tmps:=a.tmps,params:=ps,assign,body,defers:=D}:=⟨_,rfl⟩
 have es:∀s q x U,({b s q with state:=x,pending:=U}:Loop)=b x U:=λs q x U=>by rw[f]
 have b5:∀s q x,({b s q with state:=x}:Loop)=b x q:=λs q x=>by rw[f]
 obtain⟨h,X⟩:∃h,(w.alloc (.deferred (some []))).alloc (.loop (b .ready none))=h:=⟨_,rfl⟩;have z1:w.heap.size<=(w.alloc (.deferred (some []))).heap.size:=by rw[Qh];omega
 have S:h.heap[D+1]? =some (.loop (b .ready none))/\h.heap[D]? =some (.deferred (some []))/\I 0 h/\ok h:=by
  rw[<-X,hD];refine⟨?_,?_,(H 0).1 _ _ z1 ((H 0).1 _ _ (Pw _) h0),a1.1 _ _ z1 (a1.1 _ _ (Pw _) a8)⟩
  .have:=World.alloc_heap_new (w.alloc (.deferred (some []))) (.loop (b .ready none))
   rwa [Qh] at this
  .exact (Below.heap_alloc _ _ _ A9).trans (World.alloc_heap_new w _)
 refine⟨D+1,[{target:=.collected D,args:= #[]}],h,{target:=.fn (.func E) L,args:= #[.func (.yield (D+1)) #[] #[]]},h,E,#[.func (.yield (D+1)) #[] #[]]++L,h,?_,?_,λ_ _=>trivial,?_,λ_=>A7,?_⟩
 .rw[<-X,f,hD];exact run_enterLoop_outer _ _ _ _ _
 .simp only[resolve,hg];simp[go_sem]
 .simp[invoke,go_sem,eg]
 refine (a7 (D+1) (λi W=>I i W/\w.heap.size<=W.heap.size/\W.heap[D+1]? =some (.loop (b .ready none))/\W.heap[D]? =some (.deferred (some []))) (λW=>∃c,O c W/\W.heap[D+1]? =some (.loop (b .done (some c)))/\W.heap[D]? =some (.deferred (some []))) h S.2.2.2 ?_ ⟨S.2.2.1,by rw[<-X];simp;omega,S.1,S.2.1⟩).mono ?_
 .rintro i W J ⟨a2,Y,e,F⟩;have b6:D+1<W.heap.size:=(Qg.1 e).1;rcases b1 i W J a2 with⟨a4,b7⟩|⟨b8,b9⟩
  .refine .inl ⟨a4,?_⟩;have hy:=run_yield (P:=P) (args:=M i) e (by rw[f];exact a9 i);rw[f] at hy;refine⟨fn,_,assign,body,hy,?_⟩;refine roundIn_of_wpIn b4 (b0 _ i W _ ⟨_,run_beginRound e (by rw[f]),?_⟩);obtain⟨m,G⟩:∃m,W.putObj (D+1) (.loop {b .ready none with state:=.busy})=m:=⟨_,rfl⟩;rw[G];have c0:m.heap[D+1]? =some (.loop (b .busy none)):=by rw[<-G,World.putObj_heap_same b6,b5]
   have c1:m.heap[D]? =some (.deferred (some [])):=by rw[<-G,World.putObj_heap_other A7];exact F
   have a5:w.heap.size<=m.heap.size:=by rw[<-G,World.putObj_size];exact Y
   have c2:I i m:=by rw[<-G];exact (H i).2 _ _ _ _ A7 e rfl a2
   have c3:V i m:=by rw[<-G];exact (hV i).2 _ _ _ _ A7 e rfl a4
   refine wpIn_mono (b7 _ m c3 c2 a5) ?_;have fin:∀(r:Option Code)(j:QX),KeepsFrom w.heap.size m j->
     ∃d,(Instr.endRound (D+1) r).run P j=.ok (.bool r.isNone) d/\d=j.putObj (D+1) (.loop (b (if r.isNone then .ready else .done) r))/\j.heap[D+1]? =some (.loop (b .busy none))/\d.heap[D+1]? =some (.loop (b (if r.isNone then .ready else .done) r))/\d.heap[D]? =some (.deferred (some []))/\w.heap.size<=d.heap.size:=λr j Z=>by
    have a0:=Z.same _ _ A7 c0 rfl;have c4:=Z.same _ _ A7 c1 rfl;refine⟨_,run_endRound (P:=P) r a0,by rw[es],a0,?_,?_,?_⟩
    .rw[es];exact World.putObj_heap_same (Qg.1 a0).1
    .rw[World.putObj_heap_other A7];exact c4
    .rw[World.putObj_size];exact Pz a5 Z.size
   intro a6 a3 j k;cases a6 with
   |normal=>
    obtain⟨d,y,z,A,B,C,T⟩:=fin none j k.1;exact⟨_,d,y,.inl ⟨rfl,by rw[z];exact (H _).2 _ _ _ _ A7 A rfl k.2,T,B,C⟩⟩
   |ret=>
    obtain⟨d,y,z,A,B,C,T⟩:=fin (some .ret) j k.1;exact⟨_,d,y,.inr ⟨rfl,.ret,by rw[z];exact (R _).2 _ _ _ _ A7 A rfl k.2,B,C⟩⟩
   |exit id=>
    obtain⟨d,y,z,A,B,C,T⟩:=fin (some (.exit id)) j k.1;exact⟨_,d,y,.inr ⟨rfl,.exit id,by rw[z];exact (R _).2 _ _ _ _ A7 A rfl k.2,B,C⟩⟩
   |goto t=>
    obtain⟨d,y,z,A,B,C,T⟩:=fin (some (.goto t)) j k.1;exact⟨_,d,y,.inr ⟨rfl,.goto t,by rw[z];exact (R _).2 _ _ _ _ A7 A rfl k.2,B,C⟩⟩
   |panic ch=>exact k.elim
   |outgrown=>exact k.elim
  .exact .inr ⟨b8,b9,Y,e,F⟩
 .rintro a6 W2 ⟨⟨v,rfl⟩,(⟨J,Y,e,F⟩|⟨c,J,e,F⟩)⟩
  .refine⟨none,_,by have:=run_endLoop (P:=P) e (by rw[f];simp);rw[f] at this;exact this,?_⟩;exact b2 D _ A7 ((H n).2 _ _ _ _ A7 e rfl J) (by rw[World.putObj_heap_other A7];exact F)
  .refine⟨some c,_,by have:=run_endLoop (P:=P) e (by rw[f];simp);rw[f] at this;exact this,?_⟩;exact b3 D c _ A7 ((R c).2 _ _ _ _ A7 e rfl J) (by rw[World.putObj_heap_other A7];exact F)
