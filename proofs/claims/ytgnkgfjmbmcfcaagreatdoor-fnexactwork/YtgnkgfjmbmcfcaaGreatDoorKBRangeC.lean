import Derived.RangeFuncWrites
import Derived.RangeFuncCalls
import Derived.RangeFuncLeaves
set_option maxRecDepth 100000
set_option maxHeartbeats 25600000
namespace Go.Proofs.YtgnkgfjmbmcfcaaGreatDoor
open Go.RowKit
def Looks (P:Program) (gf:Nat) (rv:Value) (encs:Nat->Array Value) (V N:Nat->World->Prop) (n:Nat) (ok:World->Prop):Prop:=
 ∀(l:Nat) (J:Nat->World->Prop) (Jx:World->Prop) (W:World),ok W->
  (∀i W1,i < n->J i W1->(V i W1∧YieldAt Fence.wide 7 P l (encs i) W1 fun e W'=> (e= .returned (.bool true)∧J (i+1) W')∨(e= .returned (.bool false)∧Jx W'))∨(N i W1∧J (i+1) W1))->
  J 0 W->CallsIn Fence.wide 8 P gf #[rv,.func (.yield l) #[] #[]] W fun e W'=> (∃v,e= .returned v)∧(J n W'∨Jx W')
def roundEnd (B:Nat) (I:World->Prop) (Ix:Code->World->Prop) (W:World):Exit->Act->World->Prop
 | .normal,_,W'=> KeepsFrom B W W'∧I W'
 | .ret,_,W'=> KeepsFrom B W W'∧Ix .ret W'
 | .exit id,_,W'=> KeepsFrom B W W'∧Ix (.exit id) W'
 | .goto t,_,W'=> KeepsFrom B W W'∧Ix (.goto t) W'
 | .panic _,_,_=> False
 | .outgrown,_,_=> False
def Calm (B:Nat) (I:World->Prop):Prop:= (∀W o,B<=W.heap.size->I W->I (W.alloc o))∧∀(W:World) (l:Nat) (o o':Obj),B<=l->W.heap[l]? =some o->o.isCells=false->I W->I (W.putObj l o')
theorem loop_looks {P:Program} {g:Operand} {ps:Array Tmp} {assign body:Code} {Q:Exit->Act->World->Prop} {a:Act} {w:World} {gf:Nat} {rv:Value} {encs:Nat->Array Value} {V N:Nat->World->Prop} {n:Nat} {ok:World->Prop}
  (hseq:Looks P gf rv encs V N n ok) (hg:a.eval g= .func (.func gf) #[rv] #[]) (eg: ∀args w,(callFunc gf args).run P w= .ok (.enter gf args) w) (hok:Calm w.heap.size ok) (hok0:ok w) (hps: ∀i,(encs i).size=ps.size)
  (I:Nat->World->Prop) (Ix:Code->World->Prop) (hI: ∀i,Calm w.heap.size (I i)) (hIx: ∀c,Calm w.heap.size (Ix c)) (h0:I 0 w) (a₁:Nat->Act)
  (hassign: ∀(l i:Nat) (W:World) (K:Act->World->Prop),K (a₁ i) W->assign.wpIn (Fence.wide.inRound l) 7 P (Exit.then K (fun _ _ _=> False)) { tmps:= (ps.zip (encs i)).foldl (fun t (p,v)=> t.setIfInBounds p v) a.tmps,defers:=[] } W)
  (hV: ∀i,Calm w.heap.size (V i))
  (hstep: ∀(i:Nat) (W:World),i < n->I i W->(V i W∧∀l W',V i W'->I i W'->w.heap.size<=W'.heap.size->body.wpIn (Fence.wide.inRound l) 7 P (roundEnd w.heap.size (I (i+1)) Ix W') (a₁ i) W')∨(N i W∧I (i+1) W))
  (hdone: ∀(D:Nat) (W:World),w.heap.size<=D->I n W->W.heap[D]? =some (.deferred (some []))->Q .normal { a with defers:= { target:= .collected D,args:= #[] } :: a.defers } W)
  (hstop: ∀(D:Nat) (c:Code) (W:World),w.heap.size<=D->Ix c W->W.heap[D]? =some (.deferred (some []))->c.wpIn Fence.wide 9 P Q { a with defers:= { target:= .collected D,args:= #[] } :: a.defers } W):
  (Code.rangeFunc g ps assign body).wpIn Fence.wide 9 P Q a w:=by
 refine wpIn_rangeFunc fun fn hfn=> ?_
 obtain ⟨D,hD⟩: ∃D,D=w.heap.size:= ⟨_,rfl⟩
 obtain ⟨rec,hrec⟩: ∃rec:LoopState->Option Code->Loop,rec=fun st pe=> { state:=st,pending:=pe,fn,tmps:=a.tmps,params:=ps,assign,body,defers:=D }:= ⟨_,rfl⟩
 have es: ∀st pe st' pe',({ rec st pe with state:=st',pending:=pe' }:Loop)=rec st' pe':=fun st pe st' pe'=> by rw [hrec]
 have es1: ∀st pe st',({ rec st pe with state:=st' }:Loop)=rec st' pe:=fun st pe st'=> by rw [hrec]
 obtain ⟨W1,hW1⟩: ∃W1,(w.alloc (.deferred (some []))).alloc (.loop (rec .ready none))=W1:= ⟨_,rfl⟩
 have z1:w.heap.size<=(w.alloc (.deferred (some []))).heap.size:=by rw [World.size_alloc];omega
 have hW:W1.heap[D+1]? =some (.loop (rec .ready none))∧W1.heap[D]? =some (.deferred (some []))∧I 0 W1∧ok W1:=by
  rw [<-hW1,hD]
  refine ⟨?_, ?_,(hI 0).1 _ _ z1 ((hI 0).1 _ _ (Nat.le_refl _) h0),hok.1 _ _ z1 (hok.1 _ _ (Nat.le_refl _) hok0)⟩
  ·have:=World.alloc_heap_new (w.alloc (.deferred (some []))) (.loop (rec .ready none))
   rwa [World.size_alloc] at this
  ·exact (Below.heap_alloc _ _ _ (by simp)).trans (World.alloc_heap_new w _)
 refine ⟨D+1,[{ target:= .collected D,args:= #[] }],W1,{ target:= .fn (.func gf) #[],args:= #[rv,.func (.yield (D+1)) #[] #[]] },W1,gf,#[rv,.func (.yield (D+1)) #[] #[]],W1, ?_, ?_,fun _ _=> trivial, ?_,fun _=> (by omega), ?_⟩
 ·rw [<-hW1,hrec,hD]
  exact run_enterLoop_outer _ _ _ _ _
 ·simp only [resolve,hg]
  simp [go_sem]
 ·simp [invoke,go_sem,eg]
 refine (hseq (D+1) (fun i W=> I i W∧w.heap.size<=W.heap.size∧W.heap[D+1]? =some (.loop (rec .ready none))∧W.heap[D]? =some (.deferred (some []))) (fun W=> ∃c,Ix c W∧W.heap[D+1]? =some (.loop (rec .done (some c)))∧W.heap[D]? =some (.deferred (some []))) W1 hW.2.2.2 ?_ ⟨hW.2.2.1,by rw [<-hW1];simp;omega,hW.1,hW.2.1⟩).mono ?_
 ·rintro i W hi ⟨hIW,hsz,hl,hd⟩
  have hlt:D+1 < W.heap.size:= (Array.getElem?_eq_some_iff.1 hl).1
  rcases hstep i W hi hIW with ⟨hVW,hbody⟩ | ⟨hNW,hI'⟩
  ·refine .inl ⟨hVW, ?_⟩
   have hy:=run_yield (P:=P) (args:=encs i) hl (by rw [hrec];exact hps i)
   rw [hrec] at hy
   refine ⟨fn,_,assign,body,hy, ?_⟩
   refine roundIn_of_wpIn hfn (hassign _ i W _ ⟨_,run_beginRound hl (by rw [hrec]), ?_⟩)
   obtain ⟨Wb,hWb⟩: ∃Wb,W.putObj (D+1) (.loop { rec .ready none with state:= .busy })=Wb:= ⟨_,rfl⟩
   rw [hWb]
   have hl2:Wb.heap[D+1]? =some (.loop (rec .busy none)):=by rw [<-hWb,World.putObj_heap_same hlt,es1]
   have hd2:Wb.heap[D]? =some (.deferred (some [])):=by rw [<-hWb,World.putObj_heap_other (by omega)];exact hd
   have hz2:w.heap.size<=Wb.heap.size:=by rw [<-hWb,World.putObj_size];exact hsz
   have hI2:I i Wb:=by rw [<-hWb];exact (hI i).2 _ _ _ _ (by omega) hl rfl hIW
   have hV2:V i Wb:=by rw [<-hWb];exact (hV i).2 _ _ _ _ (by omega) hl rfl hVW
   refine wpIn_mono (hbody _ Wb hV2 hI2 hz2) ?_
   have fin: ∀(jump:Option Code) (W3:World),KeepsFrom w.heap.size Wb W3->
     ∃W4,(Instr.endRound (D+1) jump).run P W3= .ok (.bool jump.isNone) W4∧W4=W3.putObj (D+1) (.loop (rec (if jump.isNone then .ready else .done) jump))∧W3.heap[D+1]? =some (.loop (rec .busy none))∧W4.heap[D+1]? =some (.loop (rec (if jump.isNone then .ready else .done) jump))∧W4.heap[D]? =some (.deferred (some []))∧w.heap.size<=W4.heap.size:=fun jump W3 hk=> by
    have hl3:=hk.same _ _ (by omega) hl2 rfl
    have hd3:=hk.same _ _ (by omega) hd2 rfl
    refine ⟨_,run_endRound (P:=P) jump hl3,by rw [es],hl3, ?_, ?_, ?_⟩
    ·rw [es];exact World.putObj_heap_same (Array.getElem?_eq_some_iff.1 hl3).1
    ·rw [World.putObj_heap_other (by omega)];exact hd3
    ·rw [World.putObj_size];exact Nat.le_trans hz2 hk.size
   intro e a3 W3 hp
   cases e with
   | normal=>
    obtain ⟨W4,hr,e4,h3,h4,h5,h6⟩:=fin none W3 hp.1
    exact ⟨_,W4,hr,.inl ⟨rfl,by rw [e4];exact (hI _).2 _ _ _ _ (by omega) h3 rfl hp.2,h6,h4,h5⟩⟩
   | ret=>
    obtain ⟨W4,hr,e4,h3,h4,h5,h6⟩:=fin (some .ret) W3 hp.1
    exact ⟨_,W4,hr,.inr ⟨rfl,.ret,by rw [e4];exact (hIx _).2 _ _ _ _ (by omega) h3 rfl hp.2,h4,h5⟩⟩
   | exit id=>
    obtain ⟨W4,hr,e4,h3,h4,h5,h6⟩:=fin (some (.exit id)) W3 hp.1
    exact ⟨_,W4,hr,.inr ⟨rfl,.exit id,by rw [e4];exact (hIx _).2 _ _ _ _ (by omega) h3 rfl hp.2,h4,h5⟩⟩
   | goto t=>
    obtain ⟨W4,hr,e4,h3,h4,h5,h6⟩:=fin (some (.goto t)) W3 hp.1
    exact ⟨_,W4,hr,.inr ⟨rfl,.goto t,by rw [e4];exact (hIx _).2 _ _ _ _ (by omega) h3 rfl hp.2,h4,h5⟩⟩
   | panic ch=> exact hp.elim
   | outgrown=> exact hp.elim
  ·exact .inr ⟨hNW,hI',hsz,hl,hd⟩
 ·rintro e W2 ⟨⟨v,rfl⟩,(⟨hi,hsz,hl,hd⟩ | ⟨c,hi,hl,hd⟩)⟩
  ·refine ⟨none,_,by have:=run_endLoop (P:=P) hl (by rw [hrec];simp);rw [hrec] at this;exact this, ?_⟩
   exact hdone D _ (by omega) ((hI n).2 _ _ _ _ (by omega) hl rfl hi) (by rw [World.putObj_heap_other (by omega)];exact hd)
  ·refine ⟨some c,_,by have:=run_endLoop (P:=P) hl (by rw [hrec];simp);rw [hrec] at this;exact this, ?_⟩
   exact hstop D c _ (by omega) ((hIx c).2 _ _ _ _ (by omega) hl rfl hi) (by rw [World.putObj_heap_other (by omega)];exact hd)
def LooksC (P:Program) (gf:Nat) (lb:Array Value) (encs:Nat->Array Value) (V N:Nat->World->Prop) (n:Nat) (ok:World->Prop):Prop:=
 ∀(l:Nat) (J:Nat->World->Prop) (Jx:World->Prop) (W:World),ok W->
  (∀i W1,i < n->J i W1->(V i W1∧YieldAt Fence.wide 7 P l (encs i) W1 fun e W'=> (e= .returned (.bool true)∧J (i+1) W')∨(e= .returned (.bool false)∧Jx W'))∨(N i W1∧J (i+1) W1))->
  J 0 W->CallsIn Fence.wide 8 P gf (#[.func (.yield l) #[] #[]]++lb) W fun e W'=> (∃v,e= .returned v)∧(J n W'∨Jx W')
theorem loop_looksC {P:Program} {g:Operand} {ps:Array Tmp} {assign body:Code} {Q:Exit->Act->World->Prop} {a:Act} {w:World} {gf:Nat} {lb:Array Value} {encs:Nat->Array Value} {V N:Nat->World->Prop} {n:Nat} {ok:World->Prop}
  (hseq:LooksC P gf lb encs V N n ok) (hg:a.eval g= .func (.func gf) #[] lb) (eg: ∀args w,(callFunc gf args).run P w= .ok (.enter gf args) w) (hok:Calm w.heap.size ok) (hok0:ok w) (hps: ∀i,(encs i).size=ps.size)
  (I:Nat->World->Prop) (Ix:Code->World->Prop) (hI: ∀i,Calm w.heap.size (I i)) (hIx: ∀c,Calm w.heap.size (Ix c)) (h0:I 0 w) (a₁:Nat->Act)
  (hassign: ∀(l i:Nat) (W:World) (K:Act->World->Prop),K (a₁ i) W->assign.wpIn (Fence.wide.inRound l) 7 P (Exit.then K (fun _ _ _=> False)) { tmps:= (ps.zip (encs i)).foldl (fun t (p,v)=> t.setIfInBounds p v) a.tmps,defers:=[] } W)
  (hV: ∀i,Calm w.heap.size (V i))
  (hstep: ∀(i:Nat) (W:World),i < n->I i W->(V i W∧∀l W',V i W'->I i W'->w.heap.size<=W'.heap.size->body.wpIn (Fence.wide.inRound l) 7 P (roundEnd w.heap.size (I (i+1)) Ix W') (a₁ i) W')∨(N i W∧I (i+1) W))
  (hdone: ∀(D:Nat) (W:World),w.heap.size<=D->I n W->W.heap[D]? =some (.deferred (some []))->Q .normal { a with defers:= { target:= .collected D,args:= #[] } :: a.defers } W)
  (hstop: ∀(D:Nat) (c:Code) (W:World),w.heap.size<=D->Ix c W->W.heap[D]? =some (.deferred (some []))->c.wpIn Fence.wide 9 P Q { a with defers:= { target:= .collected D,args:= #[] } :: a.defers } W):
  (Code.rangeFunc g ps assign body).wpIn Fence.wide 9 P Q a w:=by
 refine wpIn_rangeFunc fun fn hfn=> ?_
 obtain ⟨D,hD⟩: ∃D,D=w.heap.size:= ⟨_,rfl⟩
 obtain ⟨rec,hrec⟩: ∃rec:LoopState->Option Code->Loop,rec=fun st pe=> { state:=st,pending:=pe,fn,tmps:=a.tmps,params:=ps,assign,body,defers:=D }:= ⟨_,rfl⟩
 have es: ∀st pe st' pe',({ rec st pe with state:=st',pending:=pe' }:Loop)=rec st' pe':=fun st pe st' pe'=> by rw [hrec]
 have es1: ∀st pe st',({ rec st pe with state:=st' }:Loop)=rec st' pe:=fun st pe st'=> by rw [hrec]
 obtain ⟨W1,hW1⟩: ∃W1,(w.alloc (.deferred (some []))).alloc (.loop (rec .ready none))=W1:= ⟨_,rfl⟩
 have z1:w.heap.size<=(w.alloc (.deferred (some []))).heap.size:=by rw [World.size_alloc];omega
 have hW:W1.heap[D+1]? =some (.loop (rec .ready none))∧W1.heap[D]? =some (.deferred (some []))∧I 0 W1∧ok W1:=by
  rw [<-hW1,hD]
  refine ⟨?_, ?_,(hI 0).1 _ _ z1 ((hI 0).1 _ _ (Nat.le_refl _) h0),hok.1 _ _ z1 (hok.1 _ _ (Nat.le_refl _) hok0)⟩
  ·have:=World.alloc_heap_new (w.alloc (.deferred (some []))) (.loop (rec .ready none))
   rwa [World.size_alloc] at this
  ·exact (Below.heap_alloc _ _ _ (by simp)).trans (World.alloc_heap_new w _)
 refine ⟨D+1,[{ target:= .collected D,args:= #[] }],W1,{ target:= .fn (.func gf) lb,args:= #[.func (.yield (D+1)) #[] #[]] },W1,gf,#[.func (.yield (D+1)) #[] #[]]++lb,W1, ?_, ?_,fun _ _=> trivial, ?_,fun _=> (by omega), ?_⟩
 ·rw [<-hW1,hrec,hD]
  exact run_enterLoop_outer _ _ _ _ _
 ·simp only [resolve,hg]
  simp [go_sem]
 ·simp [invoke,go_sem,eg]
 refine (hseq (D+1) (fun i W=> I i W∧w.heap.size<=W.heap.size∧W.heap[D+1]? =some (.loop (rec .ready none))∧W.heap[D]? =some (.deferred (some []))) (fun W=> ∃c,Ix c W∧W.heap[D+1]? =some (.loop (rec .done (some c)))∧W.heap[D]? =some (.deferred (some []))) W1 hW.2.2.2 ?_ ⟨hW.2.2.1,by rw [<-hW1];simp;omega,hW.1,hW.2.1⟩).mono ?_
 ·rintro i W hi ⟨hIW,hsz,hl,hd⟩
  have hlt:D+1 < W.heap.size:= (Array.getElem?_eq_some_iff.1 hl).1
  rcases hstep i W hi hIW with ⟨hVW,hbody⟩ | ⟨hNW,hI'⟩
  ·refine .inl ⟨hVW, ?_⟩
   have hy:=run_yield (P:=P) (args:=encs i) hl (by rw [hrec];exact hps i)
   rw [hrec] at hy
   refine ⟨fn,_,assign,body,hy, ?_⟩
   refine roundIn_of_wpIn hfn (hassign _ i W _ ⟨_,run_beginRound hl (by rw [hrec]), ?_⟩)
   obtain ⟨Wb,hWb⟩: ∃Wb,W.putObj (D+1) (.loop { rec .ready none with state:= .busy })=Wb:= ⟨_,rfl⟩
   rw [hWb]
   have hl2:Wb.heap[D+1]? =some (.loop (rec .busy none)):=by rw [<-hWb,World.putObj_heap_same hlt,es1]
   have hd2:Wb.heap[D]? =some (.deferred (some [])):=by rw [<-hWb,World.putObj_heap_other (by omega)];exact hd
   have hz2:w.heap.size<=Wb.heap.size:=by rw [<-hWb,World.putObj_size];exact hsz
   have hI2:I i Wb:=by rw [<-hWb];exact (hI i).2 _ _ _ _ (by omega) hl rfl hIW
   have hV2:V i Wb:=by rw [<-hWb];exact (hV i).2 _ _ _ _ (by omega) hl rfl hVW
   refine wpIn_mono (hbody _ Wb hV2 hI2 hz2) ?_
   have fin: ∀(jump:Option Code) (W3:World),KeepsFrom w.heap.size Wb W3->
     ∃W4,(Instr.endRound (D+1) jump).run P W3= .ok (.bool jump.isNone) W4∧W4=W3.putObj (D+1) (.loop (rec (if jump.isNone then .ready else .done) jump))∧W3.heap[D+1]? =some (.loop (rec .busy none))∧W4.heap[D+1]? =some (.loop (rec (if jump.isNone then .ready else .done) jump))∧W4.heap[D]? =some (.deferred (some []))∧w.heap.size<=W4.heap.size:=fun jump W3 hk=> by
    have hl3:=hk.same _ _ (by omega) hl2 rfl
    have hd3:=hk.same _ _ (by omega) hd2 rfl
    refine ⟨_,run_endRound (P:=P) jump hl3,by rw [es],hl3, ?_, ?_, ?_⟩
    ·rw [es];exact World.putObj_heap_same (Array.getElem?_eq_some_iff.1 hl3).1
    ·rw [World.putObj_heap_other (by omega)];exact hd3
    ·rw [World.putObj_size];exact Nat.le_trans hz2 hk.size
   intro e a3 W3 hp
   cases e with
   | normal=>
    obtain ⟨W4,hr,e4,h3,h4,h5,h6⟩:=fin none W3 hp.1
    exact ⟨_,W4,hr,.inl ⟨rfl,by rw [e4];exact (hI _).2 _ _ _ _ (by omega) h3 rfl hp.2,h6,h4,h5⟩⟩
   | ret=>
    obtain ⟨W4,hr,e4,h3,h4,h5,h6⟩:=fin (some .ret) W3 hp.1
    exact ⟨_,W4,hr,.inr ⟨rfl,.ret,by rw [e4];exact (hIx _).2 _ _ _ _ (by omega) h3 rfl hp.2,h4,h5⟩⟩
   | exit id=>
    obtain ⟨W4,hr,e4,h3,h4,h5,h6⟩:=fin (some (.exit id)) W3 hp.1
    exact ⟨_,W4,hr,.inr ⟨rfl,.exit id,by rw [e4];exact (hIx _).2 _ _ _ _ (by omega) h3 rfl hp.2,h4,h5⟩⟩
   | goto t=>
    obtain ⟨W4,hr,e4,h3,h4,h5,h6⟩:=fin (some (.goto t)) W3 hp.1
    exact ⟨_,W4,hr,.inr ⟨rfl,.goto t,by rw [e4];exact (hIx _).2 _ _ _ _ (by omega) h3 rfl hp.2,h4,h5⟩⟩
   | panic ch=> exact hp.elim
   | outgrown=> exact hp.elim
  ·exact .inr ⟨hNW,hI',hsz,hl,hd⟩
 ·rintro e W2 ⟨⟨v,rfl⟩,(⟨hi,hsz,hl,hd⟩ | ⟨c,hi,hl,hd⟩)⟩
  ·refine ⟨none,_,by have:=run_endLoop (P:=P) hl (by rw [hrec];simp);rw [hrec] at this;exact this, ?_⟩
   exact hdone D _ (by omega) ((hI n).2 _ _ _ _ (by omega) hl rfl hi) (by rw [World.putObj_heap_other (by omega)];exact hd)
  ·refine ⟨some c,_,by have:=run_endLoop (P:=P) hl (by rw [hrec];simp);rw [hrec] at this;exact this, ?_⟩
   exact hstop D c _ (by omega) ((hIx c).2 _ _ _ _ (by omega) hl rfl hi) (by rw [World.putObj_heap_other (by omega)];exact hd)
