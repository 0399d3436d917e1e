import Derived.Test.YtgnkgfjmbmcfcaaGreatDoorKVBfs
import Derived.RangeFuncWrites
import Derived.RangeFuncCalls
namespace Go.Proofs.YtgnkgfjmbmcfcaaGreatDoor
open Go.RowKit
def Looks(P:Program)(gf:Nat)(rv:QA)(encs:Nat->Array QA)(V N:Nat->Qy->Prop)(n:Nat)(ok:Qy->Prop):Prop:=
 ∀(l:Nat) (J:Nat->Qy->Prop) (Jx:Qy->Prop) (W:Qy),ok W->
  (∀i W1,i<n->J i W1->(V i W1/\YieldAt Fence.wide 7 P l (encs i) W1 fun e W'=>(e= .returned (.bool true)/\J (i+1) W')\/(e= .returned (.bool false)/\Jx W'))\/(N i W1/\J (i+1) W1))->
  J 0 W->CallsIn Fence.wide 8 P gf #[rv,.func (.yield l) #[] #[]] W fun e W'=>(∃v,e= .returned v)/\(J n W'\/Jx W')
def roundEnd(B:Nat)(I:Qy->Prop)(Ix:Code->Qy->Prop)(W:Qy):Exit->Act->Qy->Prop
 | .normal,_,W'=>KeepsFrom B W W'/\I W'
 | .ret,_,W'=>KeepsFrom B W W'/\Ix .ret W'
 | .exit id,_,W'=>KeepsFrom B W W'/\Ix (.exit id) W'
 | .goto t,_,W'=>KeepsFrom B W W'/\Ix (.goto t) W'
 | .panic _,_,_=>False
 | .outgrown,_,_=>False
def Calm(B:Nat)(I:Qy->Prop):Prop:=(∀W o,B<=W.heap.size->I W->I (W.alloc o))/\∀(W:Qy) (l:Nat) (o o':Obj),B<=l->W.heap[l]? =some o->o.isCells=false->I W->I (W.putObj l o')
theorem xM{P:Program}{g:Operand}{ps:Array Tmp}{assign body:Code}{T:Exit->Act->Qy->Prop}{a:Act}{w:Qy}{E:Nat}{L:QA}{M:Nat->Array QA}{V a1:Nat->Qy->Prop}{n:Nat}{ok:Qy->Prop}
  (a8:Looks P E L M V a1 n ok) (hg:a.eval g= .func (.func E) #[L] #[]) (eg:∀args w,(callFunc E args).run P w= .ok (.enter E args) w) (a2:Calm w.heap.size ok) (a9:ok w) (b0:∀i,(M i).size=ps.size)
  (I:Nat->Qy->Prop) (N:Code->Qy->Prop) (H:∀i,Calm w.heap.size (I i)) (O:∀c,Calm w.heap.size (N c)) (h0:I 0 w) (a₁:Nat->Act)
  (b1:∀(l i:Nat) (W:Qy) (K:Act->Qy->Prop),K (a₁ i) W->assign.wpIn (Fence.wide.inRound l) 7 P (Exit.then K (fun _ _ _=>False)) {tmps:=(ps.zip (M i)).foldl (fun t (p,v)=>t.setIfInBounds p v) a.tmps,defers:=[]} W)
  (hV:∀i,Calm w.heap.size (V i))
  (b2:∀(i:Nat) (W:Qy),i<n->I i W->(V i W/\∀l W',V i W'->I i W'->w.heap.size<=W'.heap.size->body.wpIn (Fence.wide.inRound l) 7 P (roundEnd w.heap.size (I (i+1)) N W') (a₁ i) W')\/(a1 i W/\I (i+1) W))
  (b3:∀(D:Nat) (W:Qy),w.heap.size<=D->I n W->W.heap[D]? =some (.deferred (some []))->T .normal {a with defers:={target:= .collected D,args:= #[]} :: a.defers} W)
  (b4:∀(D:Nat) (c:Code) (W:Qy),w.heap.size<=D->N c W->W.heap[D]? =some (.deferred (some []))->c.wpIn Fence.wide 9 P T {a with defers:={target:= .collected D,args:= #[]} :: a.defers} W):
  (Code.rangeFunc g ps assign body).wpIn Fence.wide 9 P T a w:=by
 refine wpIn_rangeFunc fun fn b5=>?_
 obtain⟨D,hD⟩:=ag w.heap.size;obtain⟨b,f⟩:∃b:LoopState->Option Code->Loop,b=fun s q=>{state:=s,pending:=q,fn,tmps:=a.tmps,params:=ps,assign,body,defers:=D}:=⟨_,rfl⟩
 have es:∀s q x U,({b s q with state:=x,pending:=U}:Loop)=b x U:=fun s q x U=>by rw[f]
 have b6:∀s q x,({b s q with state:=x}:Loop)=b x q:=fun s q x=>by rw[f]
 obtain⟨h,X⟩:∃h,(w.alloc (.deferred (some []))).alloc (.loop (b .ready none))=h:=⟨_,rfl⟩;have z1:w.heap.size<=(w.alloc (.deferred (some []))).heap.size:=by rw[PL];omega
 have Q:h.heap[D+1]? =some (.loop (b .ready none))/\h.heap[D]? =some (.deferred (some []))/\I 0 h/\ok h:=by
  rw[<-X,hD];refine⟨?_, ?_,(H 0).1 _ _ z1 ((H 0).1 _ _ (OU _) h0),a2.1 _ _ z1 (a2.1 _ _ (OU _) a9)⟩
  ·have:=World.alloc_heap_new (w.alloc (.deferred (some []))) (.loop (b .ready none))
   rwa [PL] at this
  ·exact (Below.heap_alloc _ _ _ (by simp)).trans (World.alloc_heap_new w _)
 refine⟨D+1,[{target:= .collected D,args:= #[]}],h,{target:= .fn (.func E) #[],args:= #[L,.func (.yield (D+1)) #[] #[]]},h,E,#[L,.func (.yield (D+1)) #[] #[]],h, ?_, ?_,fun _ _=>trivial, ?_,fun _=>(by omega), ?_⟩
 ·rw[<-X,f,hD];exact run_enterLoop_outer _ _ _ _ _
 ·simp only[resolve,hg];simp[go_sem]
 ·simp[invoke,go_sem,eg]
 refine (a8 (D+1) (fun i W=>I i W/\w.heap.size<=W.heap.size/\W.heap[D+1]? =some (.loop (b .ready none))/\W.heap[D]? =some (.deferred (some []))) (fun W=>∃c,N c W/\W.heap[D+1]? =some (.loop (b .done (some c)))/\W.heap[D]? =some (.deferred (some []))) h Q.2.2.2 ?_ ⟨Q.2.2.1,by rw[<-X];simp;omega,Q.1,Q.2.1⟩).mono ?_
 ·rintro i W J ⟨a4,Y,e,F⟩;have b7:D+1<W.heap.size:=(PK.1 e).1;rcases b2 i W J a4 with⟨a5,b8⟩|⟨b9,c0⟩
  ·refine .inl ⟨a5, ?_⟩;have hy:=run_yield (P:=P) (args:=M i) e (by rw[f];exact b0 i);rw[f] at hy;refine⟨fn,_,assign,body,hy, ?_⟩;refine roundIn_of_wpIn b5 (b1 _ i W _ ⟨_,run_beginRound e (by rw[f]), ?_⟩);obtain⟨m,G⟩:∃m,W.putObj (D+1) (.loop {b .ready none with state:= .busy})=m:=⟨_,rfl⟩;rw[G];have c1:m.heap[D+1]? =some (.loop (b .busy none)):=by rw[<-G,World.putObj_heap_same b7,b6]
   have c2:m.heap[D]? =some (.deferred (some [])):=by rw[<-G,World.putObj_heap_other (by omega)];exact F
   have a6:w.heap.size<=m.heap.size:=by rw[<-G,World.putObj_size];exact Y
   have c3:I i m:=by rw[<-G];exact (H i).2 _ _ _ _ (by omega) e rfl a4
   have c4:V i m:=by rw[<-G];exact (hV i).2 _ _ _ _ (by omega) e rfl a5
   refine wpIn_mono (b8 _ m c4 c3 a6) ?_;have R:∀(r:Option Code) (j:Qy),KeepsFrom w.heap.size m j->
     ∃d,(Instr.endRound (D+1) r).run P j= .ok (.bool r.isNone) d/\d=j.putObj (D+1) (.loop (b (if r.isNone then .ready else .done) r))/\j.heap[D+1]? =some (.loop (b .busy none))/\d.heap[D+1]? =some (.loop (b (if r.isNone then .ready else .done) r))/\d.heap[D]? =some (.deferred (some []))/\w.heap.size<=d.heap.size:=fun r j Z=>by
    have a0:=Z.same _ _ (by omega) c1 rfl;have c5:=Z.same _ _ (by omega) c2 rfl;refine⟨_,run_endRound (P:=P) r a0,by rw[es],a0, ?_, ?_, ?_⟩
    ·rw[es];exact World.putObj_heap_same (PK.1 a0).1
    ·rw[World.putObj_heap_other (by omega)];exact c5
    ·rw[World.putObj_size];exact OX a6 Z.size
   intro a7 a3 j k;cases a7 with
   | normal=>
    obtain⟨d,y,z,A,B,C,S⟩:=R none j k.1;exact⟨_,d,y,.inl ⟨rfl,by rw[z];exact (H _).2 _ _ _ _ (by omega) A rfl k.2,S,B,C⟩⟩
   | ret=>
    obtain⟨d,y,z,A,B,C,S⟩:=R (some .ret) j k.1;exact⟨_,d,y,.inr ⟨rfl,.ret,by rw[z];exact (O _).2 _ _ _ _ (by omega) A rfl k.2,B,C⟩⟩
   | exit id=>
    obtain⟨d,y,z,A,B,C,S⟩:=R (some (.exit id)) j k.1;exact⟨_,d,y,.inr ⟨rfl,.exit id,by rw[z];exact (O _).2 _ _ _ _ (by omega) A rfl k.2,B,C⟩⟩
   | goto t=>
    obtain⟨d,y,z,A,B,C,S⟩:=R (some (.goto t)) j k.1;exact⟨_,d,y,.inr ⟨rfl,.goto t,by rw[z];exact (O _).2 _ _ _ _ (by omega) A rfl k.2,B,C⟩⟩
   | panic ch=>exact k.elim
   | outgrown=>exact k.elim
  ·exact .inr ⟨b9,c0,Y,e,F⟩
 ·rintro a7 W2 ⟨⟨v,rfl⟩,(⟨J,Y,e,F⟩|⟨c,J,e,F⟩)⟩
  ·refine⟨none,_,by have:=run_endLoop (P:=P) e (by rw[f];simp);rw[f] at this;exact this, ?_⟩;exact b3 D _ (by omega) ((H n).2 _ _ _ _ (by omega) e rfl J) (by rw[World.putObj_heap_other (by omega)];exact F)
  ·refine⟨some c,_,by have:=run_endLoop (P:=P) e (by rw[f];simp);rw[f] at this;exact this, ?_⟩;exact b4 D c _ (by omega) ((O c).2 _ _ _ _ (by omega) e rfl J) (by rw[World.putObj_heap_other (by omega)];exact F)
