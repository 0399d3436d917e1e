import Derived.Test.YtieeffpandfpbaaGreatDoorKBSeq
import Derived.Test.YtieeffpandfpbaaGreatDoorKBRound
import Derived.Test.YtieeffpandfpbaaGreatDoorKRCopy
import Derived.Test.YtieeffpandfpbaaGreatDoorKBOut
import Derived.Test.YtieeffpandfpbaaGreatDoorKCResO
set_option maxRecDepth 100000
set_option maxHeartbeats 25600000
namespace Go.Proofs.YtieeffpandfpbaaGreatDoor
open Go.RowKit Go.Shelf
attribute [local go_sem] Oper.semAt_some
open Go.RowKit
theorem le_sumR {α:Type} (f g:α->Nat) (c:Nat) (h: ∀x,f x<=c * g x): ∀l:List α,(l.map f).sum<=c * (l.map g).sum
 | []=> by simp
 | x :: r=> by
  have h1:=h x
  have h2:=le_sumR f g c h r
  simp only [List.map_cons,List.sum_cons,Nat.mul_add]
  omega
theorem sum_oneR {α:Type} (f:α->Nat): ∀l:List α,(l.map (fun x=> f x+1)).sum= (l.map f).sum+l.length
 | []=> rfl
 | x :: r=> by simp only [List.map_cons,List.sum_cons,List.length_cons,sum_oneR f r];omega
theorem cntStepsR_le (l:List Xk): (l.map cntStep).sum<=8 * szSteps l:=by
 have h:=le_sumR cntStep (fun s=> szStepD s+1) 8 (fun s=> by
  have h2:szStepD s= (s.asks.length+ (s.asks.map (·.size)).sum)+ (s.cases.length+ (s.cases.map (·.text.size)).sum)+s.give.size:=rfl
  unfold cntStep
  omega) l
 rw [sum_oneR] at h
 unfold szSteps
 omega
theorem cntNodesR_le (l:List Qj): (l.map cntNode).sum<=8 * szNodesD l:=by
 have h:=le_sumR cntNode (fun s=> szNodeD s+1) 8 (fun d=> by
  have h:=cntStepsR_le d.steps
  have h2:szNodeD d=d.name.size+szSteps d.steps:=rfl
  unfold cntNode
  omega) l
 rw [sum_oneR] at h
 unfold szNodesD
 omega
theorem cntRuns_le (l:List Qq): (l.map cntRun).sum<=8 * szRunsD l:=by
 have h:=le_sumR cntRun (fun s=> szRunD s+1) 8 (fun r=> by
  have h2:szRunD r=r.name.size+r.text.size+ (r.texts.length+ (r.texts.map (·.size)).sum):=rfl
  unfold cntRun
  omega) l
 rw [sum_oneR] at h
 unfold szRunsD
 omega
section
variable {G : Ghost} {Kk : List Qj} {wz w w' : World} {bb : Nat} {a : Option Addr} {cap : Nat} {rd : Option Addr} {rc : Nat} {mb mx : Nat} {ts : List X_} {d : Option Addr} {dc : Nat} {f : ByteArray -> Value} {ws : ByteArray -> List Nat}
end
attribute [local go_sem] Oper.semAt_some
theorem RowT.there {w:World} {b n:Nat} {t:TypeId} (h:RowT w b t n):w.there b 0 n:=fun j hj=> by
 obtain ⟨⟨v,hv⟩,hf⟩:=h.row.at hj
 rw [Nat.zero_add]
 exact ⟨by rw [hv];rfl,hf⟩
theorem region_cut {P:Program} {id:Nat} {ops:Array Oper} {Q:Exit->Act->World->Prop} {a:Act} {w:World} (J:Act->Act->World->Prop) (h: (Code.region id ops true).wp P (fun x b u=> x= .normal∧J a b u) a w) (hJ: ∀b u,J a b u->Q .normal b u): (Code.region id ops true).wp P Q a w:=
 wp_mono h fun e b u hx=> by
  obtain ⟨rfl,hx⟩:=hx
  exact hJ b u hx
def NoStr (w:World) (g:Nat):Prop:= ∀o s,w.cell? ⟨g,o,none⟩≠some (.string s)
theorem NoStr.kept {w w':World} {g:Nat} (h:NoStr w g) (hg:g < w.heap.size) (k:K_ w w'):NoStr w' g:=fun o s e=> h o s ((k.cell hg).symm.trans e)
theorem strs_set_no {w:World} {g o:Nat} {v:Value} {a:Option Addr} {l:List ByteArray} (h:Strs w a l) (hg:NoStr w g):Strs (w.setCell ⟨g,o,none⟩ v) a l:=by
 intro i hi
 obtain ⟨b,p,rfl,h1,hc⟩:=h i hi
 refine ⟨b,p,rfl,by rw [size_setCell];exact h1, ?_⟩
 rw [World.cell?_setCell_other _ _ _ _ (fun e=> ?_)]
 ·exact hc
 ·have e1:g=b:=congrArg Addr.block e
  subst e1
  exact hg _ _ hc
theorem ress_set_no {w:World} {g o:Nat} {v:Value} {a:Option Addr} {l:List ResD} (h:Ress w a l) (hg:NoStr w g):Ress (w.setCell ⟨g,o,none⟩ v) a l:=by
 intro i hi
 obtain ⟨b,p,rfl,h1,hc⟩:=h i hi
 refine ⟨b,p,rfl,by rw [size_setCell];exact h1,fun j u hu=> ?_⟩
 rw [World.cell?_setCell_other _ _ _ _ (fun e=> ?_)]
 ·exact hc j u hu
 ·have e1:g=b:=congrArg Addr.block e
  subst e1
  exact hg _ _ (hc 0 _ rfl)
theorem strs_sets_no {w:World} {g:Nat} {vs:List Value} {a:Option Addr} {l:List ByteArray} (h:Strs w a l) (hg:NoStr w g):Strs (w.setCells g 0 vs) a l:=by
 intro i hi
 obtain ⟨b,p,rfl,h1,hc⟩:=h i hi
 refine ⟨b,p,rfl,by rw [size_setCells];exact h1, ?_⟩
 rw [World.cell?_setCells_out g vs 0 w _ (fun e _=> ?_)]
 ·exact hc
 ·have e1:b=g:=e
  subst e1
  exact (hg _ _ hc).elim
theorem ress_sets_no {w:World} {g:Nat} {vs:List Value} {a:Option Addr} {l:List ResD} (h:Ress w a l) (hg:NoStr w g):Ress (w.setCells g 0 vs) a l:=by
 intro i hi
 obtain ⟨b,p,rfl,h1,hc⟩:=h i hi
 refine ⟨b,p,rfl,by rw [size_setCells];exact h1,fun j u hu=> ?_⟩
 rw [World.cell?_setCells_out g vs 0 w _ (fun e _=> ?_)]
 ·exact hc j u hu
 ·have e1:b=g:=e
  subst e1
  exact (hg _ _ (hc 0 _ rfl)).elim
def OutD.cells (o:OutD) (a f:Option Addr) (c e0:Nat):List Value:=[.int .i64 o.code,.slice a o.res.length c,.slice f o.chain.length e0,.int .i64 o.units,.int .i64 o.cost]
theorem noStr_new {w:World} {k m n:Int} {a f:Option Addr} {c e0 rl cl:Nat} {t:TypeId}:NoStr (w.alloc (.cells #[.int .i64 k,.slice a rl c,.slice f cl e0,.int .i64 m,.int .i64 n] t)) w.heap.size:=fun o s e=> by
 have hr:=Xq w #[.int .i64 k,.slice a rl c,.slice f cl e0,.int .i64 m,.int .i64 n] t
 match o,e with
 | 0,e=> have:=hr 0 _ rfl;rw [e] at this;cases this
 | 1,e=> have:=hr 1 _ rfl;rw [e] at this;cases this
 | 2,e=> have:=hr 2 _ rfl;rw [e] at this;cases this
 | 3,e=> have:=hr 3 _ rfl;rw [e] at this;cases this
 | 4,e=> have:=hr 4 _ rfl;rw [e] at this;cases this
 | o+5,e=>
  have h:=World.alloc_heap_new w (.cells #[.int .i64 k,.slice a rl c,.slice f cl e0,.int .i64 m,.int .i64 n] t)
  unfold World.cell? at e
  simp only [h] at e
  simp at e
theorem noStr_row {w:World} {b:Nat} {t:TypeId} (hr:RowT w b t 5) (h: ∀o,o < 5->∀s,w.cell? ⟨b,o,none⟩≠some (.string s)):NoStr w b:=fun o s e=> by
 by_cases ho:o < 5
 ·exact h o ho s e
 ·obtain ⟨cur,hc,hl⟩:=hr
  unfold World.cell? at e
  simp only [hc] at e
  simp only [Option.isSome_none,Bool.false_eq_true,if_false] at e
  have h9:= (Array.getElem?_eq_some_iff.1 e).1
  omega
def ToldOut (Kk:List Qj) (Q_:List ByteArray) (sl:List Qq) (w w':World) (e:Ending):Prop:=
 ∃(o:OutD) (a f:Option Addr) (c e0:Nat),e= .returned (.agg #[.int .i64 o.code,.slice a o.res.length c,.slice f o.chain.length e0,.int .i64 o.units,.int .i64 o.cost])∧ToldAns Kk Q_ sl o∧Ress w' a o.res∧Strs w' f o.chain∧K_ w w'
theorem five_sets {w:World} {b:Nat} {t:TypeId} {v0 v1 v2 v3 v4:Value} (h:RowT w b t 5): (w.setCells b 0 [v0,v1,v2,v3,v4]).cell? ⟨b,0,none⟩=some v0∧(w.setCells b 0 [v0,v1,v2,v3,v4]).cell? ⟨b,1,none⟩=some v1∧(w.setCells b 0 [v0,v1,v2,v3,v4]).cell? ⟨b,2,none⟩=some v2∧(w.setCells b 0 [v0,v1,v2,v3,v4]).cell? ⟨b,3,none⟩=some v3∧(w.setCells b 0 [v0,v1,v2,v3,v4]).cell? ⟨b,4,none⟩=some v4:=by
 have hq:=World.cell?_setCells_in b [v0,v1,v2,v3,v4] 0 w fun j hj=> (h.there j hj).1
 exact ⟨hq 0 (by simp),hq 1 (by simp),hq 2 (by simp),hq 3 (by simp),hq 4 (by simp)⟩
theorem five_one (k m n:Int) (a f:Option Addr) (rl c cl e0:Nat): (#[Value.int .i64 k,Value.slice a rl c,Value.slice f cl e0,Value.int .i64 m,Value.int .i64 n].all (·.oneCell'))=true:=by simp [Value.oneCell']
def ToldJ (w2:World) (Kk:List Qj) (Q_:List ByteArray) (sl:List Qq) (t0 t1 t2 t3 t4 tb:Nat) (a b:Act) (u:World):Prop:=
 ∃(v0 v1 v2 v3 v4:Value) (p:Nat) (o:OutD) (ra:Option Addr) (rc:Nat) (d:Option Addr) (dc:Nat),b= (((((a.put (some t0) v0).put (some t1) v1).put (some t2) v2).put (some t3) v3).put (some t4) v4).put (some tb) (.pointer (some ⟨p,0,none⟩))∧w2.heap.size<=p∧p < u.heap.size∧(u.cell? ⟨p,0,none⟩=some (.int .i64 o.code)∧u.cell? ⟨p,1,none⟩=some (.slice ra o.res.length rc)∧u.cell? ⟨p,2,none⟩=some (.slice d o.chain.length dc)∧u.cell? ⟨p,3,none⟩=some (.int .i64 o.units)∧u.cell? ⟨p,4,none⟩=some (.int .i64 o.cost))∧ToldAns Kk Q_ sl o∧Ress u ra o.res∧Strs u d o.chain∧K_ w2 u
theorem Tryz.sizeOutcome5 : (Tryz.prog.info? 33).map (·.size)=some 5:=by kernel_rfl
theorem But.after {S S':Nat->Prop} {w w' w'':World} (h:But S w w') (k:But S' w' w'') (hs: ∀b,b < w.heap.size->¬S b->¬S' b):But S w w'':=
 ⟨k.os.trans h.os,k.tape.trans h.tape,k.output.trans h.output,Nat.le_trans h.size k.size,fun b hb hn=> (k.block b (Nat.lt_of_lt_of_le hb h.size) (hs b hb hn)).trans (h.block b hb hn)⟩
theorem miss {w:World} {b o o':Nat} {x v:Value} (h:w.cell? ⟨b,o,none⟩=some x) (hn:o≠o'): (w.setCell ⟨b,o',none⟩ v).cell? ⟨b,o,none⟩=some x:=by rw [Y_ (by omega)];exact h
structure OutB (W2:World) (ob:Nat) (w:World) (code:Int) (rv:Value) (units cost:Int):Prop where
 but:But (fun b=> b=ob) W2 w
 row:RowT w ob 33 5
 c0:w.cell? ⟨ob,0,none⟩=some (.int .i64 code)
 c1:w.cell? ⟨ob,1,none⟩=some rv
 c2:w.cell? ⟨ob,2,none⟩=some (.slice none 0 0)
 c3:w.cell? ⟨ob,3,none⟩=some (.int .i64 units)
 c4:w.cell? ⟨ob,4,none⟩=some (.int .i64 cost)
section
variable {W2 w w' : World} {ob : Nat} {code units cost : Int} {rv : Value}
theorem OutB.kept (h:OutB W2 ob w code rv units cost) (k:K_ w w'):OutB W2 ob w' code rv units cost:=
 ⟨h.but.trans (But.of_kept k),h.row.kept k,(k.cell h.row.lt).trans h.c0,(k.cell h.row.lt).trans h.c1,(k.cell h.row.lt).trans h.c2,(k.cell h.row.lt).trans h.c3,(k.cell h.row.lt).trans h.c4⟩
theorem OutB.alike (h:OutB W2 ob w code rv units cost) {S:Nat->Prop} (k:But S w w') (hs: ∀b,S b->W2.heap.size<=b) (ho:ob < W2.heap.size):OutB W2 ob w' code rv units cost:=
 have hn: ¬S ob:=fun e=> by have:=hs _ e;omega
 ⟨h.but.after k (fun b hb _ e=> by have:=hs _ e;omega),k.row h.row hn,(k.cell h.row.lt hn).trans h.c0,(k.cell h.row.lt hn).trans h.c1,(k.cell h.row.lt hn).trans h.c2,(k.cell h.row.lt hn).trans h.c3,(k.cell h.row.lt hn).trans h.c4⟩
theorem OutB.set0 (h:OutB W2 ob w code rv units cost) (x:Int):OutB W2 ob (w.setCell ⟨ob,0,none⟩ (.int .i64 x)) x rv units cost:=
 ⟨h.but.set rfl _,h.row.set _,set_hit h.row.row (by omega) _,miss h.c1 (by decide),miss h.c2 (by decide),miss h.c3 (by decide),miss h.c4 (by decide)⟩
theorem OutB.set1 (h:OutB W2 ob w code rv units cost) (x:Value):OutB W2 ob (w.setCell ⟨ob,1,none⟩ x) code x units cost:=
 ⟨h.but.set rfl _,h.row.set _,miss h.c0 (by decide),set_hit h.row.row (by omega) _,miss h.c2 (by decide),miss h.c3 (by decide),miss h.c4 (by decide)⟩
theorem OutB.set3 (h:OutB W2 ob w code rv units cost) (x:Int):OutB W2 ob (w.setCell ⟨ob,3,none⟩ (.int .i64 x)) code rv x cost:=
 ⟨h.but.set rfl _,h.row.set _,miss h.c0 (by decide),miss h.c1 (by decide),miss h.c2 (by decide),set_hit h.row.row (by omega) _,miss h.c4 (by decide)⟩
theorem OutB.set4 (h:OutB W2 ob w code rv units cost) (x:Int):OutB W2 ob (w.setCell ⟨ob,4,none⟩ (.int .i64 x)) code rv units x:=
 ⟨h.but.set rfl _,h.row.set _,miss h.c0 (by decide),miss h.c1 (by decide),miss h.c2 (by decide),miss h.c3 (by decide),set_hit h.row.row (by omega) _⟩
theorem OutB.no {ra:Option Addr} {rn rc:Nat} (h:OutB W2 ob w code (.slice ra rn rc) units cost):NoStr w ob:=noStr_row h.row fun o ho s e=> by
 match o,ho,e with
 | 0,_,e=> have:=h.c0;rw [e] at this;cases this
 | 1,_,e=> have:=h.c1;rw [e] at this;cases this
 | 2,_,e=> have:=h.c2;rw [e] at this;cases this
 | 3,_,e=> have:=h.c3;rw [e] at this;cases this
 | 4,_,e=> have:=h.c4;rw [e] at this;cases this
end
def CodeOf (l:List ResD) (code:Int):Prop:= (code=0∧¬∃r∈l,r.over=false)∨(code=2∧∃r∈l,r.over=false)
theorem CodeOf.yes {l:List ResD} {code:Int} (h:CodeOf l code) (r:ResD) (hr:r.over=true):CodeOf (l++ [r]) code:=by
 rcases h with ⟨h1,h2⟩ | ⟨h1,x,hx,h2⟩
 ·refine .inl ⟨h1,fun ⟨x,hx,h3⟩=> ?_⟩
  rcases List.mem_append.1 hx with h | h
  ·exact h2 ⟨x,h,h3⟩
  ·rw [List.mem_singleton] at h;rw [h,hr] at h3;cases h3
 ·exact .inr ⟨h1,x,List.mem_append.2 (.inl hx),h2⟩
theorem CodeOf.no (l:List ResD) (r:ResD) (hr:r.over=false):CodeOf (l++ [r]) 2:= .inr ⟨rfl,r,List.mem_append.2 (.inr (List.mem_singleton.2 rfl)),hr⟩
theorem l5Told_any (w:World) (a:Option Addr) (cap:Nat) (Kk:List Qj) (ra:Option Addr) (rc:Nat) (Q_:List ByteArray) (d:Option Addr) (dc:Nat) (sl:List Qq) (hwl:Kk.length<=1048576) (hv:ValidX Kk Q_ sl)
  (hN:Nodes w a Kk) (hS:RunsX w d sl) (hR:Strs w ra Q_):
  Calls Tryz.prog 27 #[.agg #[.slice a Kk.length cap],.agg #[.slice ra Q_.length rc,.slice d sl.length dc]] w fun e w'=> ToldOut Kk Q_ sl w w' e:=by
 have HVal:=Kj hv
 have HGd:=Kj hv.good
 have hok:=web_acts hv.1
 have hs60:sl.length<=60:=Nat.le_trans hv.good.len (web_len hv.1)
 have hr10:Q_.length<=10:=hv.2.1.2.1
 have HRn:Hid (∀n∈Q_,n.size<=20):=fun n hn=> by
  obtain ⟨i,hi,rfl⟩:=List.getElem_of_mem hn
  have h:= (hv.2.1.2.2 i hi).1.2.1
  simpa [List.getD,hi] using h
 clear hv
 obtain ⟨WB,hWB⟩: ∃WB,WB= ((w.alloc (.cells #[.slice a Kk.length cap] 37)).alloc (.cells #[.slice ra Q_.length rc,.slice d sl.length dc] 41)).alloc (.cells #[.int .i64 0,.slice none 0 0,.slice none 0 0,.int .i64 0,.int .i64 0] 33):= ⟨_,rfl⟩
 have kB:K_ w WB:=by rw [hWB];exact (((K_.refl _).alloc _).alloc _).alloc _
 have hBs:WB.heap.size=w.heap.size+3:=by rw [hWB];simp
 have b0:WB.cell? ⟨w.heap.size,0,none⟩=some (.slice a Kk.length cap):=by
  rw [hWB]
  exact (box1 (w:=w) (v:= .slice a Kk.length cap) (t:=37) (((K_.refl _).alloc _).alloc _)).1
 have s01:WB.cell? ⟨w.heap.size+1,0,none⟩=some (.slice ra Q_.length rc)∧WB.cell? ⟨w.heap.size+1,1,none⟩=some (.slice d sl.length dc):=by
  have h:=box2 (w:=w.alloc (.cells #[.slice a Kk.length cap] 37)) (v0:= .slice ra Q_.length rc) (v1:= .slice d sl.length dc) (t:=41) (w1:=WB) (by rw [hWB];exact (K_.refl _).alloc _)
  rw [World.size_alloc] at h
  exact h
 have HRes:Hid (RowT WB (w.heap.size+1+1) 33 5):=by
  have h:=RowT.made ((w.alloc (.cells #[.slice a Kk.length cap] 37)).alloc (.cells #[.slice ra Q_.length rc,.slice d sl.length dc] 41)) #[.int .i64 0,.slice none 0 0,.slice none 0 0,.int .i64 0,.int .i64 0] 33
  rw [World.size_alloc,World.size_alloc] at h
  rw [hWB]
  exact h
 have HNr0:Hid (NoStr WB (w.heap.size+1+1)):=by
  have h:=noStr_new (w:= (w.alloc (.cells #[.slice a Kk.length cap] 37)).alloc (.cells #[.slice ra Q_.length rc,.slice d sl.length dc] 41)) (k:=0) (m:=0) (n:=0) (a:=none) (f:=none) (c:=0) (e0:=0) (rl:=0) (cl:=0) (t:=33)
  rw [World.size_alloc,World.size_alloc] at h
  rw [hWB]
  exact h
 obtain ⟨ob,hob⟩: ∃ob,ob=WB.heap.size:= ⟨_,rfl⟩
 obtain ⟨WO,hWO⟩: ∃WO,WO=WB.alloc (.cells #[.int .i64 0,.slice none 0 0,.slice none 0 0,.int .i64 0,.int .i64 0] 33):= ⟨_,rfl⟩
 have kO:K_ WB WO:=by rw [hWO];exact (K_.refl _).alloc _
 have zO:ob < WO.heap.size:=by rw [hWO,hob];simp
 have HOB0:Hid (OutB WO ob WO 0 (.slice none 0 0) 0 0):=by
  obtain ⟨q0,q1,q2,q3,q4⟩:=fiveCells (w:=WB) (w1:=WO) (v0:= .int .i64 0) (v1:= .slice none 0 0) (v2:= .slice none 0 0) (v3:= .int .i64 0) (v4:= .int .i64 0) (t:=33) (by rw [hWO];exact K_.refl _)
  rw [<-hob] at q0 q1 q2 q3 q4
  exact ⟨But.of_kept (K_.refl _),by rw [hWO,hob];exact RowT.made WB _ _,q0,q1,q2,q3,q4⟩
 have z3:w.heap.size+1+1 < ob:=by omega
 have HKB:=Kj kB
 have zB:w.heap.size+1+1 < WB.heap.size:=by omega
 clear hBs
 go_enter Tryz.func27,Tryz.ntmps27
 go_upto_region 1 with fail
 rw [<-hWB]
 clear hWB
 go_upto_region 2 with fail
 rw [<-hWO,<-hob]
 have c0:= (kO.cell (o:=0) (b:=w.heap.size) (by omega)).trans b0
 have c1:= (kO.cell (o:=0) (b:=w.heap.size+1) (by omega)).trans s01.1
 have c2:= (kO.cell (o:=1) (b:=w.heap.size+1) (by omega)).trans s01.2
 clear hWO hob
 go_wp2_with fail
 refine (l4Known_any WO a Kk.length cap ra Q_.length rc d sl.length dc).mono ?_
 rintro e W2 ⟨kb,rfl,hK2,k2⟩
 have HK2:=Kj hK2
 have hkb2:=hK2.row.lt
 have HOB2:Hid (OutB W2 ob W2 0 (.slice none 0 0) 0 0):=by
  have h:=HOB0.out.kept k2
  exact ⟨But.of_kept (K_.refl _),h.row,h.c0,h.c1,h.c2,h.c3,h.c4⟩
 have KB2:K_ WB W2:=kO.trans k2
 have hob2:ob < W2.heap.size:=Nat.lt_of_lt_of_le zO k2.size
 have hkob: ¬kb=ob:=type_ne hK2.row.type HOB2.out.row.type (by decide)
 have z2:w.heap.size+1+1 < W2.heap.size:=by omega
 have HC:Hid (∀u,But (fun b=> b=ob) W2 u->u.cell? ⟨w.heap.size,0,none⟩=some (.slice a Kk.length cap)∧u.cell? ⟨w.heap.size+1,0,none⟩=some (.slice ra Q_.length rc)∧u.cell? ⟨w.heap.size+1,1,none⟩=some (.slice d sl.length dc)∧KnownX u kb a Kk.length cap d sl.length dc∧K_ w u∧RowT u (w.heap.size+1+1) 33 5∧NoStr u (w.heap.size+1+1)∧W2.heap.size<=u.heap.size):=fun u h=> by
  have hwb:w.heap.size+1+1 < WB.heap.size:=HRes.out.lt
  refine ⟨?_, ?_, ?_,⟨h.row HK2.out.row hkob,(h.cell hkb2 hkob).trans HK2.out.web,(h.cell hkb2 hkob).trans HK2.out.runs⟩,h.kept (HKB.out.trans KB2) (fun b e=> by rw [e];omega),h.row (HRes.out.kept KB2) (fun (e:w.heap.size+1+1=ob)=> by omega),fun o s e=> (HNr0.out.kept hwb KB2) o s ((h.cell z2 (fun (e:w.heap.size+1+1=ob)=> by omega)).symm.trans e),h.size⟩
  ·exact (h.cell (by omega) (fun (e:w.heap.size=ob)=> by omega)).trans ((KB2.cell (by omega)).trans b0)
  ·exact (h.cell (by omega) (fun (e:w.heap.size+1=ob)=> by omega)).trans ((KB2.cell (by omega)).trans s01.1)
  ·exact (h.cell (by omega) (fun (e:w.heap.size+1=ob)=> by omega)).trans ((KB2.cell (by omega)).trans s01.2)
 obtain ⟨R,hRx⟩: ∃R,R=resX (Qz Kk) (Qk sl):= ⟨_,rfl⟩
 have HRx:=Kj hRx
 clear hRx c0 c1 c2 b0 s01 kB kO k2 KB2 HRes HNr0 HOB0 HK2 hK2 hkb2 HKB zO
 go_wp2_with fail
 go_loopw [7] (fun x7 wr=> ∃(k:Nat) (av:Option Addr) (cv:Nat) (code:Int),k<=Q_.length∧x7= .int .i64 (k:Int)∧Hid (CodeOf ((Q_.take k).map R) code)∧Hid (OutB W2 ob wr code (.slice av k cv) 0 0)∧Hid (wr.ownsRow W2.heap.size 79 4 (.slice av k cv) k (dResCells ((Q_.take k).map R)))) (fun x7 _=> Q_.length - (intOf x7).toNat)
 case atStart=> exact ⟨0,none,0,0,Nat.zero_le _,rfl,Kj (.inl ⟨rfl,fun ⟨_,h,_⟩=> by cases h⟩),HOB2,Kj (World.ownsRow_nil _ _ _ _)⟩
 case round=>
  clear HOB2
  obtain ⟨k,av,cv,code,hk,rfl,HCd,HO,HW⟩:=hrel
  obtain ⟨c0,c1,c2,hKr,Kr,hRr,hNr,hzr⟩:=HC.out wr HO.out.but
  have y0:w.heap.size < wr.heap.size:=by omega
  have y1:w.heap.size+1 < wr.heap.size:=by omega
  have HKr:=Kj hKr
  have HKw:=Kj Kr
  clear hKr hRr hNr
  by_cases hlt:k < Q_.length
  ·have hkk: (k:Int) < (Q_.length:Int):=by omega
   obtain ⟨sb,so,e1,hsw,hsc0⟩:=hR k hlt
   subst e1
   obtain ⟨nm,hnm⟩: ∃nm,nm=Q_.getD k ByteArray.empty:= ⟨_,rfl⟩
   rw [<-hnm] at hsc0
   have hsc:= (HKw.out.cell hsw).trans hsc0
   have hsb:sb < wr.heap.size:=Nat.lt_of_lt_of_le hsw HKw.out.size
   clear hsc0
   have hng:Q_[k]=nm:=by rw [hnm];simp [List.getD,hlt]
   have hmem:nm∈Q_:=by rw [<-hng];exact List.getElem_mem hlt
   have HNg:=Kj hng
   have hn20:=HRn.out nm hmem
   clear hnm hng hmem
   go_wp2_with fail
   refine (answer_anyO wr kb a cap Kk d dc sl nm hwl (by omega) (by omega) HKr.out (hN.kept HKw.out) (hS.kept HKw.out)).mono ?_
   rintro e w3 ⟨⟨fl,tx,ok,rfl,hans,hno⟩,k3⟩
   have HRes:Hid (R nm= ⟨nm,ok,fl,tx⟩):=by
    show R nm=_
    rw [HRx.out]
    unfold resX
    rw [hans]
    cases ok
    ·obtain ⟨h1,h2⟩:=hno rfl
     rw [h1,h2]
     rfl
    ·rfl
   have HTk:Hid ((Q_.take (k+1)).map R= (Q_.take k).map R++ [⟨nm,ok,fl,tx⟩]):=by
    show _=_
    rw [List.take_succ_eq_append_getElem hlt,List.map_append,HNg.out,<-HRes.out]
    rfl
   obtain ⟨W4,hW4⟩: ∃W4,W4=w3.alloc (.cells #[.bool fl,.string tx] 75):= ⟨_,rfl⟩
   have k4:K_ w3 W4:=by rw [hW4];exact (K_.refl _).alloc _
   obtain ⟨pb,hpb⟩: ∃pb,pb=w3.heap.size:= ⟨_,rfl⟩
   have p01:=box2 (w:=w3) (v0:= .bool fl) (v1:= .string tx) (t:=75) (w1:=W4) (by rw [hW4];exact K_.refl _)
   rw [<-hpb] at p01
   have K4:=k3.trans k4
   have hpw: ∀b,(Value.slice av k cv).ownBlock=some b->b≠pb:=fun b e=> by have h1:= (HW.out.lt b e).2;have h2:=k3.size;omega
   have hp4:pb < W4.heap.size:=by rw [hW4,hpb];simp
   have HO4:=Kj (HO.out.kept K4)
   have HW4:=Kj (ownsRow_kept' HW.out K4)
   have hsb4:sb < W4.heap.size:=Nat.lt_of_lt_of_le hsb K4.size
   have hz4:W2.heap.size<=W4.heap.size:=Nat.le_trans hzr K4.size
   have hob4:ob < W4.heap.size:=by omega
   have y14:w.heap.size+1 < W4.heap.size:=by omega
   have Zq:Hid (∀u:World,(∀b,b < W4.heap.size->¬W2.heap.size<=b∨b=pb->u.heap[b]? =W4.heap[b]?)->u.cell? ⟨ob,1,none⟩=some (.slice av k cv)∧u.cell? ⟨w.heap.size+1,0,none⟩=some (.slice (some ⟨sb,so,none⟩) Q_.length rc)∧u.cell? ⟨sb,so+k,none⟩=some (.string nm)∧u.cell? ⟨pb,0,none⟩=some (.bool fl)∧u.cell? ⟨pb,1,none⟩=some (.string tx)):=fun u hh=> by
    have s1:W4.cell? ⟨w.heap.size+1,0,none⟩=some (.slice (some ⟨sb,so,none⟩) Q_.length rc):= (K4.cell y1).trans c1
    exact ⟨(World.cell?_of_block (w:=W4) (hh ob hob4 (.inl (by omega)))).trans HO4.out.c1,(World.cell?_of_block (w:=W4) (hh _ y14 (.inl (by show¬_<=w.heap.size+1;omega)))).trans s1,(World.cell?_of_block (w:=W4) (hh sb hsb4 (.inl (by omega)))).trans ((K4.cell hsb).trans hsc),(World.cell?_of_block (w:=W4) (hh pb hp4 (.inr rfl))).trans p01.1,(World.cell?_of_block (w:=W4) (hh pb hp4 (.inr rfl))).trans p01.2⟩
   obtain ⟨ic,hc0,hc1,hc2,hc3⟩:=xInfo_parts Tryz.infoResult
   have k4w:=HKw.out.trans K4
   go_upto_region 7 with fail
   rw [<-hW4,<-hpb]
   clear hW4 hpb p01 k4 k3 hans hno c0 c1 c2 hsc HRes HNg
   refine Z_.rh 16 Zq.out (fun _ _ _=> rfl) fun wd KD Zz=> ?_
   refine Z_.tk 0 Zz ?_
   refine Z_.tk 1 Zz ?_
   refine Z_.tk 2 Zz ?_
   refine Z_.tk 3 Zz ?_
   refine Z_.tk 4 Zz ?_
   refine Z_.tk 5 Zz ?_
   refine Z_.tk 6 Zz ?_
   refine Z_.tk 7 Zz ?_
   refine Z_.tk 8 Zz ?_
   refine Z_.tk 9 Zz ?_
   refine Z_.tk 10 Zz ?_
   refine Z_.tk 11 Zz ?_
   refine Z_.tk 12 Zz ?_
   refine Z_.nx 13 (fun K hK=> ?_)
   go_simp
   have K5:K_ wd (wd.alloc (.cells #[.string nm,.bool ok,.bool fl,.string tx] 79)):= (K_.refl _).alloc _
   have hc5:=Xq wd #[.string nm,.bool ok,.bool fl,.string tx] 79
   have K6:=KD.trans K5
   have hw6: ∀b,b < W4.heap.size->¬W2.heap.size<=b∨b=pb->(wd.alloc (.cells #[.string nm,.bool ok,.bool fl,.string tx] 79)).heap[b]? =W4.heap[b]? :=fun b hb _=> K6.block b hb
   refine hK.out _ _ (fun _=> Zq.out _ hw6) ?_
   clear hK K Zz
   obtain ⟨eb,heb⟩: ∃eb,eb=wd.heap.size:= ⟨_,rfl⟩
   rw [<-heb] at hc5⊢
   generalize hwe:wd.alloc (.cells #[.string nm,.bool ok,.bool fl,.string tx] 79)=w6 at hc5 K6 hw6⊢
   clear hwe K5 heb
   have HR6:=Kj (ownsRow_kept' HW4.out K6)
   have hz6:=K6.size
   try simp only [Act.put,upA,upB,upC]
   refine Z_.nx 14 (fun K hK=> ?_)
   refine step_append_lies _ rfl (.tmp 33) (.tmp 45) 31 rfl W2.heap.size 79 ic _ 4 40 Tryz.underlying31 hc0 hc1 hc2 hc3 rfl (by decide) (.slice av k cv) k (dResCells ((Q_.take k).map R)) (by simp [Act.eval]) HR6.out ⟨eb,0,none⟩ 1 1 [.string nm,.bool ok,.bool fl,.string tx] (by simp [Act.eval]) rfl (fun j u hu=> by rw [Addr.add_mid];exact hc5 j u hu) (fun u hu=> by simp only [List.mem_cons,List.not_mem_nil,or_false] at hu;rcases hu with rfl | rfl | rfl | rfl <;> rfl) (by omega) (by unfold maxLen;omega) (by omega) (by omega) _ rfl ?_
   intro g6 cap6 w8 hown8 hgr8 hat hlt8
   have hrow: ∀b,(Value.slice av k cv).ownBlock=some b->W2.heap.size<=b:=fun b e=> (HR6.out.lt b e).1
   have k68:But (fun b=> (Value.slice av k cv).ownBlock=some b) w6 w8:=But.of_grown hgr8 (fun b e=> e)
   have hw8: ∀b,b < W4.heap.size->¬W2.heap.size<=b∨b=pb->w8.heap[b]? =W4.heap[b]? :=fun b hb hn=> (k68.block b (by omega) (fun e=> by rcases hn with h | h;exact h (hrow b e);exact hpw b e h)).trans (hw6 b hb hn)
   have hO8:OutB W2 ob w8 code (.slice av k cv) 0 0:= (HO4.out.kept K6).alike k68 hrow hob2
   have hz8:=k68.size
   obtain ⟨⟨_,fo2⟩,fo1⟩:=hO8.row.row.at (i:=1) (by omega)
   have hob8:=hO8.row.lt
   obtain ⟨W8,hW8⟩: ∃W8,W8=w8.setCell ⟨ob,1,none⟩ (.slice (some ⟨g6,0,none⟩) (k+1) cap6):= ⟨_,rfl⟩
   have HN8:Hid (OutB W2 ob W8 code (.slice (some ⟨g6,0,none⟩) (k+1) cap6) 0 0):=by rw [hW8];exact hO8.set1 _
   have HG8:Hid (W8.ownsRow W2.heap.size 79 4 (.slice (some ⟨g6,0,none⟩) (k+1) cap6) (k+1) (dResCells ((Q_.take (k+1)).map R))):=by
    rw [hW8,HTk.out,dResCells_snoc]
    exact (But.set (S:=fun b=> b=ob) (But.of_kept (K_.refl w8)) (p:= ⟨ob,1,none⟩) rfl _).owns hown8 (fun b e e2=> by have:= (hown8.lt b e).1;omega)
   refine hK.out _ _ (fun _=> Zq.out _ hw8) ?_
   clear hK K hown8 hgr8 hat hO8
   try simp only [Act.put,upA,upB,upC]
   have Zz:=Zq.out _ hw8
   refine Z_.tk 15 Zz ?_
   refine Z_.nx 16 (fun K hK=> ?_)
   go_simp
   rw [<-hW8]
   refine hK.out _ _ (fun h=> absurd rfl h) ?_
   clear hK K Zz
   try simp only [Act.put,upA,upB,upC]
   refine Z_.dn ?_
   clear hW8 fo1 fo2 hw8 hpw hrow k68 hc5 hw6 HR6 HO4 HW4 Zq HO HW KD K6 hob8
   cases ok
   ·have HC2:Hid (CodeOf ((Q_.take (k+1)).map R) 2):=by rw [HTk.out];exact CodeOf.no _ _ rfl
    have o0:=HN8.out.c0
    obtain ⟨⟨_,f0⟩,f1⟩:=HN8.out.row.row.at (i:=0) (by omega)
    have HF:=Kj (HN8.out.set0 2)
    have HG:Hid ((W8.setCell ⟨ob,0,none⟩ (.int .i64 2)).ownsRow W2.heap.size 79 4 (.slice (some ⟨g6,0,none⟩) (k+1) cap6) (k+1) (dResCells ((Q_.take (k+1)).map R))):= (But.set (S:=fun b=> b=ob) (But.of_kept (K_.refl W8)) (p:= ⟨ob,0,none⟩) rfl _).owns HG8.out (fun b e e2=> by have:= (HG8.out.lt b e).1;omega)
    clear HN8 HG8
    go_wp2
    go_roundw
    case rel=> exact ⟨k+1,some ⟨g6,0,none⟩,cap6,2,by omega,by go_num,HC2,HF,HG⟩
    case measure=> simp [intOf];omega
   ·have HC2:Hid (CodeOf ((Q_.take (k+1)).map R) code):=by rw [HTk.out];exact HCd.out.yes _ rfl
    go_wp2
    go_roundw
    case rel=> exact ⟨k+1,some ⟨g6,0,none⟩,cap6,code,by omega,by go_num,HC2,HN8,HG8⟩
    case measure=> simp [intOf];omega
  ·have hnk: ¬((k:Int) < (Q_.length:Int)):=by omega
   have hkr:k=Q_.length:=by omega
   have hall:Q_.take k=Q_:=by rw [hkr];exact List.take_length
   rw [hall] at HCd HW
   have HKe:=Kj hkr
   clear hlt hkr hall hk
   have HUs:Hid (0=unitsX (sl.take 0)∧0=costX (Qz Kk) (sl.take 0)):= ⟨rfl,rfl⟩
   go_wp2_with fail
   go_loopw [10] (fun x10 wr=> ∃(i:Nat) (uu cc:Int),i<=sl.length∧x10= .int .i64 (i:Int)∧Hid (uu=unitsX (sl.take i)∧cc=costX (Qz Kk) (sl.take i))∧Hid (OutB W2 ob wr code (.slice av k cv) uu cc)∧Hid (wr.ownsRow W2.heap.size 79 4 (.slice av k cv) k (dResCells (Q_.map R)))) (fun x10 _=> sl.length - (intOf x10).toNat)
   case atStart=> exact ⟨0,0,0,Nat.zero_le _,rfl,HUs,HO,HW⟩
   case round=>
    clear HUs HO HW c0 c1 c2 HKr HKw Kr hzr y0 y1
    obtain ⟨i,uu,cc,hi,rfl,HU,HO,HW⟩:=hrel
    obtain ⟨c0,c1,c2,hKr,Kr,hRr,hNr,hzr⟩:=HC.out wr HO.out.but
    have y0:w.heap.size < wr.heap.size:=by omega
    have y1:w.heap.size+1 < wr.heap.size:=by omega
    have HRr:=Kj hRr
    have HNr:=Kj hNr
    have HKw:=Kj Kr
    clear hKr hRr hNr Kr
    have hsum:=sums_le hok HGd.out hs60 i
    rw [<-HU.out.1,<-HU.out.2] at hsum
    by_cases hil:i < sl.length
    ·have hii: (i:Int) < (sl.length:Int):=by omega
     obtain ⟨rb,ro,xa,xc,e1,hrb,hrc,_,_⟩:= (hS.kept HKw.out) i hil
     obtain ⟨rb0,ro0,xa0,xc0,e2,hrb0,_⟩:=hS i hil
     rw [e1] at e2
     cases e2
     subst e1
     obtain ⟨x,hx⟩: ∃x,x=sl.getD i Qq.zero:= ⟨_,rfl⟩
     rw [<-hx] at hrc
     have hxg:sl[i]=x:=by rw [hx];simp [List.getD,hil]
     have hxm:x∈sl:=by rw [<-hxg];exact List.getElem_mem hil
     have t0:=hrc 0 _ rfl
     have t5:=hrc 5 _ rfl
     rw [Nat.add_zero] at t0
     have hxgd:=HGd.out.good x hxm
     obtain ⟨A,hA,_⟩:=hxgd.act
     have hcst:=costOf_le hok x.name
     have hvis:0<=x.Zk∧x.Zk<=20:= ⟨hxgd.lo,hxgd.hi⟩
     have hmul:=vc_le hvis hcst
     obtain ⟨nk,hnk,hnn,hnmin,hAe⟩:=acts_first hA
     obtain ⟨nb,no,cs,e3,hnb,hncs,na,ncap,e4,_⟩:= (hN.kept HKw.out) nk hnk
     obtain ⟨nb0,no0,cs0,e5,hnb0,_⟩:=hN nk hnk
     rw [e3] at e5
     cases e5
     subst e3
     have hce:costOf (Qz Kk) x.name= (Kk.getD nk Qj.zero).cost:=by rw [costOf_some hA,hAe]
     have hnc:wr.cell? ⟨nb,no+nk * 3+1,none⟩=some (.int .i64 (costOf (Qz Kk) x.name)):=by rw [hce];exact hncs 1 _ (by rw [e4];rfl)
     obtain ⟨cst,hcs⟩: ∃cst,cst=costOf (Qz Kk) x.name:= ⟨_,rfl⟩
     rw [<-hcs] at hcst hmul hnc
     have HPl:Hid (∀r:Int,PlaceN Kk x.name r->r= (nk:Int)):=fun r hr=> by
      rcases hr with ⟨k2,h1,rfl,h3,h4,h5⟩ | ⟨_,h2⟩
      ·rcases Nat.lt_trichotomy k2 nk with h | h | h
       ·exact absurd h4 (hnmin _ h)
       ·rw [h]
       ·exact absurd hnn (h5 _ h)
      ·rw [hA] at h2;cases h2
     have hw1:IntKind.i64.wrap (uu+x.Zk)=uu+x.Zk:=wrap_i64_in (by omega) (by omega)
     have hw2:IntKind.i64.wrap (x.Zk * cst)=x.Zk * cst:=wrap_i64_in (by omega) (by omega)
     have hw3:IntKind.i64.wrap (cc+x.Zk * cst)=cc+x.Zk * cst:=wrap_i64_in (by omega) (by omega)
     have HUn:Hid (uu+x.Zk=unitsX (sl.take (i+1))∧cc+x.Zk * cst=costX (Qz Kk) (sl.take (i+1))):=by
      rw [List.take_succ_eq_append_getElem hil,unitsX_snoc,costX_snoc,hxg,<-HU.out.1,<-HU.out.2,<-hcs]
      exact ⟨rfl,rfl⟩
     have hob1:=HO.out.row.lt
     have Zq:Hid (∀u:World,(∀b,b < w.heap.size+1+1∨b=ob->u.heap[b]? =wr.heap[b]?)->u.cell? ⟨ob,3,none⟩=some (.int .i64 uu)∧u.cell? ⟨ob,4,none⟩=some (.int .i64 cc)∧u.cell? ⟨w.heap.size+1,1,none⟩=some (.slice (some ⟨rb,ro,none⟩) sl.length dc)∧u.cell? ⟨rb,ro+i * 7,none⟩=some (.string x.name)∧u.cell? ⟨rb,ro+i * 7+5,none⟩=some (.int .i64 x.Zk)∧u.cell? ⟨w.heap.size,0,none⟩=some (.slice (some ⟨nb,no,none⟩) Kk.length cap)∧u.cell? ⟨nb,no+nk * 3+1,none⟩=some (.int .i64 cst)):=fun u hh=> ⟨(World.cell?_of_block (w:=wr) (hh ob (.inr rfl))).trans HO.out.c3,(World.cell?_of_block (w:=wr) (hh ob (.inr rfl))).trans HO.out.c4,(World.cell?_of_block (w:=wr) (hh (w.heap.size+1) (.inl (by omega)))).trans c2,(World.cell?_of_block (w:=wr) (hh rb (.inl (by omega)))).trans t0,(World.cell?_of_block (w:=wr) (hh rb (.inl (by omega)))).trans t5,(World.cell?_of_block (w:=wr) (hh w.heap.size (.inl (by omega)))).trans c0,(World.cell?_of_block (w:=wr) (hh nb (.inl (by omega)))).trans hnc⟩
     clear c0 c1 t0 t5 hnc hrc hncs hce hcs hx hxg hxm hxgd hA hAe hnn hnmin e4 HU
     have hobw: ¬ob=w.heap.size:=by omega
     go_upto_region 13 with fail
     clear c2
     refine Z_.rh 10 Zq.out (fun _ _=> rfl) fun wd KD Zz=> ?_
     obtain ⟨⟨_,fo2⟩,fo1⟩:= (HO.out.kept KD).row.row.at (i:=3) (by omega)
     have hobd:= (HO.out.kept KD).row.lt
     refine Z_.tk 0 Zz ?_
     refine Z_.tk 1 Zz ?_
     refine Z_.tk 2 Zz ?_
     refine Z_.tk 3 Zz ?_
     refine Z_.tk 4 Zz ?_
     refine Z_.tk 5 Zz ?_
     refine Z_.tk 6 Zz ?_
     refine Z_.tk 7 Zz ?_
     refine Z_.tk 8 Zz ?_
     refine Z_.tk 9 Zz ?_
     refine Z_.nx 10 (fun K hK=> ?_)
     go_simp
     refine hK.out _ _ (fun h=> absurd rfl h) ?_
     clear hK K
     try simp only [Act.put,upA,upB,upC]
     refine Z_.dn ?_
     clear fo1 fo2 hobd
     obtain ⟨W5,hW5⟩: ∃W5,W5=wd.setCell ⟨ob,3,none⟩ (.int .i64 (uu+x.Zk)):= ⟨_,rfl⟩
     rw [<-hW5]
     have HO5:Hid (OutB W2 ob W5 code (.slice av k cv) (uu+x.Zk) cc):=by rw [hW5];exact (HO.out.kept KD).set3 _
     have HW5:Hid (W5.ownsRow W2.heap.size 79 4 (.slice av k cv) k (dResCells (Q_.map R))):=by
      rw [hW5]
      have h:=ownsRow_kept' HW.out KD
      exact (But.set (S:=fun b=> b=ob) (But.of_kept (K_.refl wd)) (p:= ⟨ob,3,none⟩) rfl _).owns h (fun b e e2=> by have:= (h.lt b e).1;omega)
     have HB5:Hid (∀b,b≠ob->b < wr.heap.size->W5.heap[b]? =wr.heap[b]?):=fun b hb hz=> by rw [hW5,Below.heap_setCell _ _ _ _ hb];exact KD.block b hz
     have HS5:Hid (∀u:World,(∀b,b < w.heap.size+1+1∨b=ob->u.heap[b]? =W5.heap[b]?)->u.cell? ⟨ob,4,none⟩=some (.int .i64 cc)∧u.cell? ⟨w.heap.size+1,1,none⟩=some (.slice (some ⟨rb,ro,none⟩) sl.length dc)∧u.cell? ⟨rb,ro+i * 7,none⟩=some (.string x.name)∧u.cell? ⟨rb,ro+i * 7+5,none⟩=some (.int .i64 x.Zk)∧u.cell? ⟨w.heap.size,0,none⟩=some (.slice (some ⟨nb,no,none⟩) Kk.length cap)∧u.cell? ⟨nb,no+nk * 3+1,none⟩=some (.int .i64 cst)):=fun u hh=> by
      have ho:=Zq.out wr (fun _ _=> rfl)
      have q: ∀b o,b < w.heap.size+1+1->u.cell? ⟨b,o,none⟩=wr.cell? ⟨b,o,none⟩:=fun b o hb=> (World.cell?_of_block (w:=W5) (hh b (.inl hb))).trans (World.cell?_of_block (w:=wr) (HB5.out b (by omega) (by omega)))
      exact ⟨(World.cell?_of_block (w:=W5) (hh ob (.inr rfl))).trans HO5.out.c4,(q _ _ (by omega)).trans ho.2.2.1,(q _ _ (by omega)).trans ho.2.2.2.1,(q _ _ (by omega)).trans ho.2.2.2.2.1,(q _ _ (by omega)).trans ho.2.2.2.2.2.1,(q _ _ (by omega)).trans ho.2.2.2.2.2.2⟩
     have hz5:wr.heap.size<=W5.heap.size:=by rw [hW5,size_setCell];exact KD.size
     clear hW5 KD HO HW Zq Zz
     clear wd
     go_upto_region 14 with fail
     refine Z_.rh 25 HS5.out (fun _ _=> rfl) fun wd KD Zz=> ?_
     refine Z_.tk 0 Zz ?_
     refine Z_.tk 1 Zz ?_
     refine Z_.tk 2 Zz ?_
     refine Z_.tk 3 Zz ?_
     refine Z_.tk 4 Zz ?_
     refine Z_.tk 5 Zz ?_
     refine Z_.tk 6 Zz ?_
     refine Z_.tk 7 Zz ?_
     refine Z_.tk 8 Zz ?_
     refine Z_.tk 9 Zz ?_
     refine Z_.tk 10 Zz ?_
     refine Z_.tk 11 Zz ?_
     refine Z_.tk 12 Zz ?_
     refine Z_.tk 13 Zz ?_
     refine Z_.tk 14 Zz ?_
     refine Z_.tk 15 Zz ?_
     refine Z_.tk 16 Zz ?_
     refine Z_.nx 17 (fun K hK=> ?_)
     rw [if_pos (by rfl)]
     go_simp
     go_at_call 44
     have KwD:K_ w wd:= (HC.out W5 HO5.out.but).2.2.2.2.1.trans KD
     refine (l2At_place wd (some ⟨nb,no,none⟩) cap Kk x.name hwl (hN.kept KwD)).mono ?_
     rintro e w6 ⟨⟨r,rfl,hr⟩,k6⟩
     rw [HPl.out r hr]
     have K6:=KD.trans k6
     have hw6: ∀b,b < w.heap.size+1+1∨b=ob->w6.heap[b]? =W5.heap[b]? :=fun b hb=> K6.block b (by omega)
     have hnki: (nk:Int) < (Kk.length:Int):=by omega
     clear hr
     dsimp only
     refine hK.out _ _ (fun _=> HS5.out _ hw6) ?_
     clear hK K Zz
     try simp only [Act.put,upA,upB,upC]
     have Zz:=HS5.out _ hw6
     refine Z_.tk 18 Zz ?_
     refine Z_.tk 19 Zz ?_
     refine Z_.tk 20 Zz ?_
     refine Z_.tk 21 Zz ?_
     refine Z_.tk 22 Zz ?_
     refine Z_.tk 23 Zz ?_
     refine Z_.tk 24 Zz ?_
     obtain ⟨⟨_,fo2⟩,fo1⟩:= (HO5.out.kept K6).row.row.at (i:=4) (by omega)
     have hobd:= (HO5.out.kept K6).row.lt
     refine Z_.nx 25 (fun K hK=> ?_)
     go_simp
     refine hK.out _ _ (fun h=> absurd rfl h) ?_
     clear hK K
     try simp only [Act.put,upA,upB,upC]
     refine Z_.dn ?_
     have HO6:Hid (OutB W2 ob (w6.setCell ⟨ob,4,none⟩ (.int .i64 (cc+x.Zk * cst))) code (.slice av k cv) (uu+x.Zk) (cc+x.Zk * cst)):= (HO5.out.kept K6).set4 _
     have HW6:Hid ((w6.setCell ⟨ob,4,none⟩ (.int .i64 (cc+x.Zk * cst))).ownsRow W2.heap.size 79 4 (.slice av k cv) k (dResCells (Q_.map R))):=by
      have h:=ownsRow_kept' HW5.out K6
      exact (But.set (S:=fun b=> b=ob) (But.of_kept (K_.refl w6)) (p:= ⟨ob,4,none⟩) rfl _).owns h (fun b e e2=> by have:= (h.lt b e).1;omega)
     clear fo1 fo2 hobd Zz
     go_wp2
     go_roundw
     case rel=> exact ⟨i+1,uu+x.Zk,cc+x.Zk * cst,by omega,by go_num,HUn,HO6,HW6⟩
     case measure=> simp [intOf];omega
    ·have hni: ¬((i:Int) < (sl.length:Int)):=by omega
     have hie:i=sl.length:=by omega
     have HUe:Hid (uu=unitsX sl∧cc=costX (Qz Kk) sl):=by have h:=HU.out;rw [hie,List.take_length] at h;exact h
     have HRs:Hid (Ress wr av (Q_.map R)):=by
      obtain ⟨a9,c9,e9,h9⟩:=owned_ress HW.out
      simp only [Value.slice.injEq] at e9
      rw [e9.1]
      exact h9
     have HNo:=Kj HO.out.no
     have HRl:Hid ((Q_.map R).length=k):=by show _=_;rw [List.length_map];exact HKe.out.symm
     have o0:=HO.out.c0
     have hob1:=HO.out.row.lt
     clear hil hie HU HW hi
     rcases HCd.out with ⟨hcd,hno⟩ | ⟨hcd,hyes⟩
     ·subst hcd
      have HN0:=Kj hno
      have o1:=HO.out.c1
      have o2:=HO.out.c2
      have o3:=HO.out.c3
      have o4:=HO.out.c4
      have HTo:Hid (ToldAns Kk Q_ sl ⟨0,Q_.map R,[],uu,cc⟩):= ⟨⟨by rw [HRl.out];have:=HKe.out;omega,Nat.zero_le _⟩,.inl ⟨HVal.out,⟨by rw [HRx.out],HUe.out.1,HUe.out.2,.inl ⟨HN0.out,rfl,rfl⟩⟩⟩⟩
      clear hno
      obtain ⟨⟨_,fa0⟩,fb0⟩:=HRr.out.row.at (i:=0) (by omega)
      obtain ⟨⟨_,fa1⟩,fb1⟩:=HRr.out.row.at (i:=1) (by omega)
      obtain ⟨⟨_,fa2⟩,fb2⟩:=HRr.out.row.at (i:=2) (by omega)
      obtain ⟨⟨_,fa3⟩,fb3⟩:=HRr.out.row.at (i:=3) (by omega)
      obtain ⟨⟨_,fa4⟩,fb4⟩:=HRr.out.row.at (i:=4) (by omega)
      have hrz:=HRr.out.lt
      go_wp2
      have hX:=World.rangeAt_setCells_same wr (w.heap.size+1+1) 0 [.int .i64 0,.slice av k cv,.slice none 0 0,.int .i64 uu,.int .i64 cc] (HRr.out.row.there (o:=0) (m:=5) (Nat.le_refl _))
      refine Xz [.int .i64 0,.slice av k cv,.slice none 0 0,.int .i64 uu,.int .i64 cc] _ Tryz.results27 rfl hX Tryz.underlying33 rfl Tryz.sizeOutcome5 rfl ⟨_,av,none,cv,0, ?_,HTo.out, ?_, ?_, ?_⟩
      ·show Ending.returned _=Ending.returned _;rw [HRl.out];try rfl
      ·exact ress_sets_no (vs:=[.int .i64 0,.slice av k cv,.slice none 0 0,.int .i64 uu,.int .i64 cc]) HRs.out HNr.out
      ·exact (fun i hi=> by cases hi)
      ·exact kept_sets (g:=w.heap.size+1+1) (by omega) [.int .i64 0,.slice av k cv,.slice none 0 0,.int .i64 uu,.int .i64 cc] 0 HKw.out
     ·subst hcd
      have HY0:=Kj hyes
      clear hyes
      have hS60:=hs60
      go_wp2_with fail
      refine (ready_any wr a cap Kk ra Q_.length rc d dc sl hwl (by omega) (web_small HVal.out.1) (fun r hr _ _=> (HGd.out.good r hr).act) (hN.kept HKw.out) (hS.kept HKw.out)).mono ?_
      rintro e w5 ⟨⟨da,c5,ns,rfl,hrl,hown⟩,k5⟩
      have HO5:=Kj (HO.out.kept k5)
      have HRs5:=Kj (HRs.out.kept k5)
      have HRr5:=Kj (HRr.out.kept k5)
      have HNr5:=Kj (HNr.out.kept HRr.out.lt k5)
      have KW5:=HKw.out.trans k5
      have hob5:=HO5.out.row.lt
      have HMem:=Kj hrl.mem
      have hnl:=hrl.len
      obtain ⟨c0,c1,c2,_,_,_,_,hz5⟩:=HC.out w5 HO5.out.but
      have o0:=HO5.out.c0
      clear hrl hown HO HRs HRr o0 hob1
      by_cases hns:ns.length=0
      ·have hnb: ((ns.length:Int) == 0)=true:=by simpa using hns
       have HNn:Hid (¬∃r∈sl,CanGo (Qz Kk) (Qk sl) r):=fun ⟨r,h1,h2⟩=> by
        have h:= (HMem.out r.name).2 ⟨r,h1,rfl,h2⟩
        rw [List.length_eq_zero_iff.1 hns] at h
        cases h
       have o0:=HO5.out.c0
       obtain ⟨⟨_,f0⟩,f1⟩:=HO5.out.row.row.at (i:=0) (by omega)
       obtain ⟨W6,hW6⟩: ∃W6,W6=w5.setCell ⟨ob,0,none⟩ (.int .i64 1):= ⟨_,rfl⟩
       have HO6:Hid (OutB W2 ob W6 1 (.slice av k cv) uu cc):=by rw [hW6];exact HO5.out.set0 1
       have HRs6:Hid (Ress W6 av (Q_.map R)):=by rw [hW6];exact ress_set_no HRs5.out HO5.out.no
       have hz6:W6.heap.size=w5.heap.size:=by rw [hW6,size_setCell]
       clear hns c0 c1 c2
       obtain ⟨c0,c1,c2,_,KW6,hRr6,hNr6,_⟩:=HC.out W6 HO6.out.but
       have HRr6:=Kj hRr6
       have HNr6:=Kj hNr6
       have HKW6:=Kj KW6
       clear hRr6 hNr6 KW6
       go_upto_region 17 with fail
       rw [<-hW6]
       clear hW6 f0 f1
       go_wp2_with fail
       refine (l6Circle_any W6 a cap Kk ra Q_.length rc d dc sl hwl (by omega) hok HGd.out (hN.kept HKW6.out) (hS.kept HKW6.out)).mono ?_
       rintro e w7 ⟨fa,fc,chn,rfl,hnc,hch,hBR,k7⟩
       have HO7:=Kj (HO6.out.kept k7)
       have HTo:Hid (ToldAns Kk Q_ sl ⟨1,Q_.map R,chn,uu,cc⟩):= ⟨⟨by rw [HRl.out];have:=HKe.out;omega,by
        have h1:=hBR.len waits_name
        rw [List.length_map] at h1
        show chn.length<=60
        omega⟩,.inl ⟨HVal.out,⟨by rw [HRx.out],HUe.out.1,HUe.out.2,.inr (.inr ⟨HY0.out,HNn.out,rfl,hBR.circ waits_name⟩)⟩⟩⟩
       have HCh:=Kj (strs_set_no (g:=ob) (o:=2) (v:= .slice fa chn.length fc) hch HO7.out.no)
       have HRs7:=Kj (ress_set_no (g:=ob) (o:=2) (v:= .slice fa chn.length fc) (HRs6.out.kept k7) HO7.out.no)
       have HRr7:Hid (RowT (w7.setCell ⟨ob,2,none⟩ (.slice fa chn.length fc)) (w.heap.size+1+1) 33 5):= (HRr6.out.kept k7).block (Below.heap_setCell _ _ _ _ (by show w.heap.size+1+1≠ob;omega))
       have HNr7:Hid (NoStr (w7.setCell ⟨ob,2,none⟩ (.slice fa chn.length fc)) (w.heap.size+1+1)):=fun o s e=> HNr6.out.kept HRr6.out.lt k7 o s ((Zx (by omega)).symm.trans e)
       have HK7:Hid (K_ w (w7.setCell ⟨ob,2,none⟩ (.slice fa chn.length fc))):= (HKW6.out.trans k7).setCell (by show w.heap.size<=ob;omega) _
       have ⟨q0,q1,q3,q4⟩: (w7.setCell ⟨ob,2,none⟩ (.slice fa chn.length fc)).cell? ⟨ob,0,none⟩=some (.int .i64 1)∧(w7.setCell ⟨ob,2,none⟩ (.slice fa chn.length fc)).cell? ⟨ob,1,none⟩=some (.slice av k cv)∧(w7.setCell ⟨ob,2,none⟩ (.slice fa chn.length fc)).cell? ⟨ob,3,none⟩=some (.int .i64 uu)∧(w7.setCell ⟨ob,2,none⟩ (.slice fa chn.length fc)).cell? ⟨ob,4,none⟩=some (.int .i64 cc):= ⟨miss HO7.out.c0 (by decide),miss HO7.out.c1 (by decide),miss HO7.out.c3 (by decide),miss HO7.out.c4 (by decide)⟩
       have q2: (w7.setCell ⟨ob,2,none⟩ (.slice fa chn.length fc)).cell? ⟨ob,2,none⟩=some (.slice fa chn.length fc):=set_hit HO7.out.row.row (by omega) _
       have hob7:ob < (w7.setCell ⟨ob,2,none⟩ (.slice fa chn.length fc)).heap.size:=by rw [size_setCell];exact HO7.out.row.lt
       obtain ⟨⟨_,f0⟩,f1⟩:=HO7.out.row.row.at (i:=2) (by omega)
       have hob77:=HO7.out.row.lt
       obtain ⟨W8,hW8⟩: ∃W8,W8=w7.setCell ⟨ob,2,none⟩ (.slice fa chn.length fc):= ⟨_,rfl⟩
       rw [<-hW8] at HCh HRs7 HRr7 HNr7 HK7 q0 q1 q2 q3 q4 hob7
       clear hnc hch hBR c0 c1 c2 HO7
       go_upto_region 18 with fail
       rw [<-hW8]
       clear hW8 f0 f1
       obtain ⟨⟨_,fa0⟩,fb0⟩:=HRr7.out.row.at (i:=0) (by omega)
       obtain ⟨⟨_,fa1⟩,fb1⟩:=HRr7.out.row.at (i:=1) (by omega)
       obtain ⟨⟨_,fa2⟩,fb2⟩:=HRr7.out.row.at (i:=2) (by omega)
       obtain ⟨⟨_,fa3⟩,fb3⟩:=HRr7.out.row.at (i:=3) (by omega)
       obtain ⟨⟨_,fa4⟩,fb4⟩:=HRr7.out.row.at (i:=4) (by omega)
       have hrz:=HRr7.out.lt
       go_wp2
       have hX:=World.rangeAt_setCells_same W8 (w.heap.size+1+1) 0 [.int .i64 1,.slice av k cv,.slice fa chn.length fc,.int .i64 uu,.int .i64 cc] (HRr7.out.row.there (o:=0) (m:=5) (Nat.le_refl _))
       refine Xz [.int .i64 1,.slice av k cv,.slice fa chn.length fc,.int .i64 uu,.int .i64 cc] _ Tryz.results27 rfl hX Tryz.underlying33 rfl Tryz.sizeOutcome5 rfl ⟨_,av,fa,cv,fc, ?_,HTo.out, ?_, ?_, ?_⟩
       ·show Ending.returned _=Ending.returned _;rw [HRl.out];try rfl
       ·exact ress_sets_no (vs:=[.int .i64 1,.slice av k cv,.slice fa chn.length fc,.int .i64 uu,.int .i64 cc]) HRs7.out HNr7.out
       ·exact strs_sets_no (vs:=[.int .i64 1,.slice av k cv,.slice fa chn.length fc,.int .i64 uu,.int .i64 cc]) HCh.out HNr7.out
       ·exact kept_sets (g:=w.heap.size+1+1) (by omega) [.int .i64 1,.slice av k cv,.slice fa chn.length fc,.int .i64 uu,.int .i64 cc] 0 HK7.out
      ·have hnb: ((ns.length:Int) == 0)=false:=by simpa using hns
       have HYn:Hid (∃r∈sl,CanGo (Qz Kk) (Qk sl) r):=by
        obtain ⟨n,hn⟩: ∃n,n∈ns:=List.exists_mem_of_ne_nil _ (fun e=> hns (by rw [e];rfl))
        obtain ⟨r,h1,_,h2⟩:= (HMem.out n).1 hn
        exact ⟨r,h1,h2⟩
       have o0:=HO5.out.c0
       have o1:=HO5.out.c1
       have o2:=HO5.out.c2
       have o3:=HO5.out.c3
       have o4:=HO5.out.c4
       have HTo:Hid (ToldAns Kk Q_ sl ⟨2,Q_.map R,[],uu,cc⟩):= ⟨⟨by rw [HRl.out];have:=HKe.out;omega,Nat.zero_le _⟩,.inl ⟨HVal.out,⟨by rw [HRx.out],HUe.out.1,HUe.out.2,.inr (.inl ⟨HY0.out,HYn.out,rfl,rfl⟩)⟩⟩⟩
       clear hns c0 c1 c2
       obtain ⟨⟨_,fa0⟩,fb0⟩:=HRr5.out.row.at (i:=0) (by omega)
       obtain ⟨⟨_,fa1⟩,fb1⟩:=HRr5.out.row.at (i:=1) (by omega)
       obtain ⟨⟨_,fa2⟩,fb2⟩:=HRr5.out.row.at (i:=2) (by omega)
       obtain ⟨⟨_,fa3⟩,fb3⟩:=HRr5.out.row.at (i:=3) (by omega)
       obtain ⟨⟨_,fa4⟩,fb4⟩:=HRr5.out.row.at (i:=4) (by omega)
       have hrz:=HRr5.out.lt
       go_wp2
       have hX:=World.rangeAt_setCells_same w5 (w.heap.size+1+1) 0 [.int .i64 2,.slice av k cv,.slice none 0 0,.int .i64 uu,.int .i64 cc] (HRr5.out.row.there (o:=0) (m:=5) (Nat.le_refl _))
       refine Xz [.int .i64 2,.slice av k cv,.slice none 0 0,.int .i64 uu,.int .i64 cc] _ Tryz.results27 rfl hX Tryz.underlying33 rfl Tryz.sizeOutcome5 rfl ⟨_,av,none,cv,0, ?_,HTo.out, ?_, ?_, ?_⟩
       ·show Ending.returned _=Ending.returned _;rw [HRl.out];try rfl
       ·exact ress_sets_no (vs:=[.int .i64 2,.slice av k cv,.slice none 0 0,.int .i64 uu,.int .i64 cc]) HRs5.out HNr5.out
       ·exact (fun i hi=> by cases hi)
       ·exact kept_sets (g:=w.heap.size+1+1) (by omega) [.int .i64 2,.slice av k cv,.slice none 0 0,.int .i64 uu,.int .i64 cc] 0 KW5
attribute [local go_sem] Oper.semAt_some
theorem results_cell1 {P:Program} {fn:Func} {tmps:Array Value} {w:World} {p:Tmp} {ty:TypeId} {b:Nat} (v:Value) (d:TypeDesc) (h:fn.results= #[.cell p ty])
  (hp:tmps.getD p undef= .pointer (some ⟨b,0,none⟩)) (hc:w.cell? ⟨b,0,none⟩=some v) (hu:P.underlying ty=some d) (hd:d.isRow=false): (results fn tmps).run P w= .ok v w:=by
 have hp':tmps[p]?.getD undef= .pointer (some ⟨b,0,none⟩):=by simpa using hp
 have hagg: (isAgg ty).run P w= .ok false w:=by
  unfold isAgg
  rw [Sem.run_bind,run_underlying hu w]
  cases d <;> simp_all
 have hl: (loadVar ty ⟨b,0,none⟩).run P w= .ok v w:=by simp [loadVar,Sem.run_bind,hagg,hc]
 simp only [results,h]
 simp [hp',asAddr,hl]
def AnI (w1:World) (c:Nat) (Kk:List Qj) (ts:List X_) (i:Nat) (W:World):Prop:=
 K_ w1 W∧RowT W c 4 1∧∀r∈(Qx ts).take i,¬CanGo (Qz Kk) (Qk (Qx ts)) r
def AnX (w1:World) (c:Nat) (Kk:List Qj) (ts:List X_) (x:Code) (W:World):Prop:=
 x= .ret∧K_ w1 W∧RowT W c 4 1∧W.cell? ⟨c,0,none⟩=some (.bool true)∧∃r∈Qx ts,CanGo (Qz Kk) (Qk (Qx ts)) r
theorem AnI.calm {w1:World} {c:Nat} {Kk:List Qj} {ts:List X_} {i B:Nat} (hw:w1.heap.size<=c) (hc:c < B):Calm B (AnI w1 c Kk ts i):=by
 constructor
 ·rintro W o hB ⟨k,h1,h2⟩
  have ka:= (K_.refl W).alloc o
  exact ⟨k.trans ka,h1.kept ka,h2⟩
 ·rintro W l o o' hl ho hn ⟨k,h1,h2⟩
  have kb:But (fun b=> b=l) W (W.putObj l o'):= ⟨rfl,rfl,rfl,by rw [World.putObj_size];exact Nat.le_refl _,fun b _ e=> World.putObj_heap_other e⟩
  exact ⟨kb.kept k (fun b e=> by rw [e];omega),kb.row h1 (fun (e:c=l)=> by omega),h2⟩
theorem AnX.calm {w1:World} {c:Nat} {Kk:List Qj} {ts:List X_} {x:Code} {B:Nat} (hw:w1.heap.size<=c) (hc:c < B):Calm B (AnX w1 c Kk ts x):=by
 constructor
 ·rintro W o hB ⟨hx,k,h1,h2,h3⟩
  have ka:= (K_.refl W).alloc o
  exact ⟨hx,k.trans ka,h1.kept ka,(ka.cell h1.lt).trans h2,h3⟩
 ·rintro W l o o' hl ho hn ⟨hx,k,h1,h2,h3⟩
  have kb:But (fun b=> b=l) W (W.putObj l o'):= ⟨rfl,rfl,rfl,by rw [World.putObj_size];exact Nat.le_refl _,fun b _ e=> World.putObj_heap_other e⟩
  exact ⟨hx,kb.kept k (fun b e=> by rw [e];omega),kb.row h1 (fun (e:c=l)=> by omega),(put_cell o' (by omega)).trans h2,h3⟩
section
variable {G : Ghost} {Kk : List Qj} {wz w w' : World} {bb : Nat} {a : Option Addr} {cap : Nat} {rd : Option Addr} {rn rc : Nat} {mb mx : Nat} {ts : List X_} {d : Option Addr} {dc : Nat} {f : ByteArray -> Value} {ws : ByteArray -> List Nat}
theorem anyReady_any (hB:BM G Kk wz w bb a cap rd rn rc mb mx ts d dc f ws) (hBS:BS Kk ts ws) (hts:ts.length<=60):
  Calls Tryz.prog 74 #[.pointer (some ⟨bb,0,none⟩)] w fun e w'=> Says e (∃r∈Qx ts,CanGo (Qz Kk) (Qk (Qx ts)) r)∧K_ w w':=by
 have HB:=Kj hB
 have HBS:=Kj hBS
 refine (callsIn_wide (n:=9)).1 ?_
 refine callsIn_of_wp_marks Tryz.func74 rfl trivial ?_ rfl
 simp only [Tryz.ntmps74,List.size_toArray,List.length_cons,List.length_nil,Nat.reduceAdd,Nat.reduceSub,Array.replicate_succ,Array.replicate_zero,List.push_toArray,List.append_toArray,List.nil_append,List.cons_append]
 gi_wp2_with fail
 obtain ⟨W0,hW0⟩: ∃W0,w.alloc (.cells #[.bool false] 4)=W0:= ⟨_,rfl⟩
 rw [hW0]
 have K0:K_ w W0:=by rw [<-hW0];exact (K_.refl _).alloc _
 have z0:W0.heap.size=w.heap.size+1:=by rw [<-hW0];simp
 have HR0:Hid (RowT W0 w.heap.size 4 1):=by rw [<-hW0];exact RowT.made w #[.bool false] 4
 have bbz:=HB.out.row.lt
 have c30:= (HB.out.kept K0).c3
 refine loop_looks (ready_looks bb d ts.length dc (tbOf ts) (by omega)) rfl (enters_of Tryz.func114 (by kernel_rfl) rfl) (bb_calm (by omega)) c30 (fun _=> rfl)
  (AnI w w.heap.size Kk ts) (AnX w w.heap.size Kk ts) (fun i=> AnI.calm (Nat.le_refl _) (by omega)) (fun _=> AnX.calm (Nat.le_refl _) (by omega))
  ⟨K0,HR0.out,fun r hr=> by simp at hr⟩
  (fun i=> { tmps:= #[.pointer (some ⟨bb,0,none⟩),undef,.pointer (some ⟨w.heap.size,0,none⟩),.pointer (some ⟨bb,0,none⟩),.func (.func 114) #[.pointer (some ⟨bb,0,none⟩)] #[],.pointer (some ⟨tbOf ts i,0,none⟩)],defers:=[] }) ?assign (fun i=> sees_calm (fun g e=> by have:= (HB.out.apart e).1;omega)) ?step ?done ?stop
 case assign=>
  intro l i W K hK
  gi_wp2
  simpa using hK
 case step=>
  rintro i W hi ⟨k,h1,h2⟩
  have hnx: (Qx ts).take (i+1)= (Qx ts).take i++ [ts[i].r]:=by
   rw [List.take_succ_eq_append_getElem (by simpa [Qx] using hi)]
   simp [Qx]
  rcases (HB.out.kept k).sees HBS.out hi with ⟨hv,hr⟩ | ⟨hn,hr⟩
  rotate_left
  ·refine .inr ⟨hn,k,h1,fun r hm=> ?_⟩
   rw [hnx] at hm
   rcases List.mem_append.1 hm with h | h
   ·exact h2 r h
   ·rw [List.mem_singleton] at h;rw [h];exact hr
  refine .inl ⟨hv, ?_⟩
  have HR:Hid (∃r∈Qx ts,CanGo (Qz Kk) (Qk (Qx ts)) r):= ⟨_,List.mem_map.2 ⟨ts[i],List.getElem_mem hi,rfl⟩,hr⟩
  clear hv hr hnx h2 h1 k
  clear W
  rintro l W _ ⟨k,h1,h2⟩ hzW
  obtain ⟨⟨_,g1⟩,g2⟩:=h1.row.at (i:=0) (by omega)
  have gz:=h1.lt
  have HKF:Hid (KeepsFrom W0.heap.size W (W.setCell ⟨w.heap.size,0,none⟩ (.bool true))):= ((KeepsOthers.refl W).trans (KeepsOthers.setCell _ _ _)).from _
  have HFin:Hid (AnX w w.heap.size Kk ts .ret (W.setCell ⟨w.heap.size,0,none⟩ (.bool true))):= ⟨rfl,k.setCell (Nat.le_refl _) _,h1.set _,set_hit h1.row (by omega) _,HR.out⟩
  clear h1 h2 k
  gi_wp2
  exact ⟨HKF.out,HFin.out⟩
 case done=>
  rintro D W hD ⟨k,h1,h2⟩ hdef
  have hall: (Qx ts).take ts.length=Qx ts:=List.take_of_length_le (by simp [Qx])
  rw [hall] at h2
  have H2:Hid (¬∃r∈Qx ts,CanGo (Qz Kk) (Qk (Qx ts)) r):=fun ⟨r,g1,g2⟩=> h2 r g1 g2
  obtain ⟨⟨_,g1⟩,g2⟩:=h1.row.at (i:=0) (by omega)
  have gz:=h1.lt
  have hwD:w.heap.size < D:=by omega
  have HR1:=Kj h1
  have HFin:Hid (K_ w ((W.setCell ⟨w.heap.size,0,none⟩ (.bool false)).putObj D (.deferred none))):=by
   have kb:But (fun b=> b=D) (W.setCell ⟨w.heap.size,0,none⟩ (.bool false)) ((W.setCell ⟨w.heap.size,0,none⟩ (.bool false)).putObj D (.deferred none)):= ⟨rfl,rfl,rfl,by rw [World.putObj_size];exact Nat.le_refl _,fun b _ e=> World.putObj_heap_other e⟩
   exact kb.kept (k.setCell (Nat.le_refl _) _) (fun b e=> by rw [e];omega)
  have hdef2: (W.setCell ⟨w.heap.size,0,none⟩ (.bool false)).heap[D]? =some (.deferred (some [])):= (Below.heap_setCell _ _ _ _ (by show D≠w.heap.size;omega)).trans hdef
  have HC:Hid (((W.setCell ⟨w.heap.size,0,none⟩ (.bool false)).putObj D (.deferred none)).cell? ⟨w.heap.size,0,none⟩=some (.bool false)):= (put_cell _ (by omega)).trans (set_hit h1.row (by omega) _)
  clear h1 h2 hall k
  gi_wp2
  exact ⟨by simp,.inl ⟨_,_,rfl,run_takeDeferred hdef2,_,results_cell1 (b:=w.heap.size) (.bool false) _ Tryz.results74 rfl HC.out Tryz.underlying4 rfl,Says.no H2.out,HFin.out⟩⟩
 case stop=>
  rintro D x W hD ⟨rfl,k,h1,h2,h3⟩ hdef
  have hwD:w.heap.size < D:=by omega
  have HFin:Hid (K_ w (W.putObj D (.deferred none))):=by
   have kb:But (fun b=> b=D) W (W.putObj D (.deferred none)):= ⟨rfl,rfl,rfl,by rw [World.putObj_size];exact Nat.le_refl _,fun b _ e=> World.putObj_heap_other e⟩
   exact kb.kept k (fun b e=> by rw [e];omega)
  have HC:Hid ((W.putObj D (.deferred none)).cell? ⟨w.heap.size,0,none⟩=some (.bool true)):= (put_cell _ (by omega)).trans h2
  have H3:=Kj h3
  clear h1 h2 h3 k
  gi_wp2
  exact ⟨by simp,.inl ⟨_,_,rfl,run_takeDeferred hdef,_,results_cell1 (b:=w.heap.size) (.bool true) _ Tryz.results74 rfl HC.out Tryz.underlying4 rfl,Says.yes H3.out,HFin.out⟩⟩
end
theorem specTold_any (w:World) (a:Option Addr) (cap:Nat) (Kk:List Qj) (ra:Option Addr) (rc:Nat) (Q_:List ByteArray) (d:Option Addr) (dc:Nat) (sl:List Qq) (hwl:Kk.length<=1048576) (hft: ∀y∈Kk,y.Fits) (hrl:Q_.length<=1048576) (hrs: ∀s∈Q_,s.size<=maxLen) (hsl:sl.length<=1048576) (hst: ∀x∈sl,x.texts.length<=1048576)
  (hN:Nodes w a Kk) (hS:RunsX w d sl) (hR:Strs w ra Q_):
  Calls Tryz.prog 7 #[.agg #[.slice a Kk.length cap],.agg #[.slice ra Q_.length rc,.slice d sl.length dc]] w fun e w'=> ToldOut Kk Q_ sl w w' e:=by
 obtain ⟨WB,hWB⟩: ∃WB,WB= ((w.alloc (.cells #[.slice a Kk.length cap] 37)).alloc (.cells #[.slice ra Q_.length rc,.slice d sl.length dc] 41)).alloc (.cells #[.int .i64 0,.slice none 0 0,.slice none 0 0,.int .i64 0,.int .i64 0] 33):= ⟨_,rfl⟩
 have kB:K_ w WB:=by rw [hWB];exact (((K_.refl _).alloc _).alloc _).alloc _
 have hBs:WB.heap.size=w.heap.size+3:=by rw [hWB];simp
 have b0:WB.cell? ⟨w.heap.size,0,none⟩=some (.slice a Kk.length cap):=by
  rw [hWB]
  exact (box1 (w:=w) (v:= .slice a Kk.length cap) (t:=37) (((K_.refl _).alloc _).alloc _)).1
 have s01:WB.cell? ⟨w.heap.size+1,0,none⟩=some (.slice ra Q_.length rc)∧WB.cell? ⟨w.heap.size+1,1,none⟩=some (.slice d sl.length dc):=by
  have h:=box2 (w:=w.alloc (.cells #[.slice a Kk.length cap] 37)) (v0:= .slice ra Q_.length rc) (v1:= .slice d sl.length dc) (t:=41) (w1:=WB) (by rw [hWB];exact (K_.refl _).alloc _)
  rw [World.size_alloc] at h
  exact h
 have HRes:Hid (RowT WB (w.heap.size+1+1) 33 5):=by
  have h:=RowT.made ((w.alloc (.cells #[.slice a Kk.length cap] 37)).alloc (.cells #[.slice ra Q_.length rc,.slice d sl.length dc] 41)) #[.int .i64 0,.slice none 0 0,.slice none 0 0,.int .i64 0,.int .i64 0] 33
  rw [World.size_alloc,World.size_alloc] at h
  rw [hWB]
  exact h
 have HNr0:Hid (NoStr WB (w.heap.size+1+1)):=by
  have h:=noStr_new (w:= (w.alloc (.cells #[.slice a Kk.length cap] 37)).alloc (.cells #[.slice ra Q_.length rc,.slice d sl.length dc] 41)) (k:=0) (m:=0) (n:=0) (a:=none) (f:=none) (c:=0) (e0:=0) (rl:=0) (cl:=0) (t:=33)
  rw [World.size_alloc,World.size_alloc] at h
  rw [hWB]
  exact h
 have z0:w.heap.size < WB.heap.size:=by omega
 have z1:w.heap.size+1 < WB.heap.size:=by omega
 have z2:w.heap.size+1+1 < WB.heap.size:=by omega
 have HC:Hid (∀w',K_ WB w'->w'.cell? ⟨w.heap.size,0,none⟩=some (.slice a Kk.length cap)∧w'.cell? ⟨w.heap.size+1,0,none⟩=some (.slice ra Q_.length rc)∧w'.cell? ⟨w.heap.size+1,1,none⟩=some (.slice d sl.length dc)∧w.heap.size < w'.heap.size∧w.heap.size+1 < w'.heap.size):=fun w' K=> ⟨(K.cell z0).trans b0,(K.cell z1).trans s01.1,(K.cell z1).trans s01.2,Nat.lt_of_lt_of_le z0 K.size,Nat.lt_of_lt_of_le z1 K.size⟩
 have HKB:=Kj kB
 clear kB hBs b0 s01
 go_enter Tryz.func7,Tryz.ntmps7
 go_upto_region 1 with fail
 rw [<-hWB]
 clear hWB
 obtain ⟨b0,s0,s1,_,_⟩:=HC.out _ (K_.refl _)
 go_wp2_with fail
 refine (validState_any _ a cap Kk ra rc Q_ d dc sl hwl hft hrl hrs hsl hst (hN.kept HKB.out) (hS.kept HKB.out) (hR.kept HKB.out)).mono ?_
 rintro e w1 ⟨⟨bv,rfl,hv⟩,k1⟩
 have HV:=Kj hv
 clear hv b0 s0 s1 z0 z1
 obtain ⟨b0,s0,s1,z0,z1⟩:=HC.out _ k1
 have K1:=HKB.out.trans k1
 cases bv
 ·have hRr:=HRes.out.kept k1
  obtain ⟨⟨_,fa0⟩,fb0⟩:=hRr.row.at (i:=0) (by omega)
  obtain ⟨⟨_,fa1⟩,fb1⟩:=hRr.row.at (i:=1) (by omega)
  obtain ⟨⟨_,fa2⟩,fb2⟩:=hRr.row.at (i:=2) (by omega)
  obtain ⟨⟨_,fa3⟩,fb3⟩:=hRr.row.at (i:=3) (by omega)
  obtain ⟨⟨_,fa4⟩,fb4⟩:=hRr.row.at (i:=4) (by omega)
  have hrz:=hRr.lt
  have HRr:=Kj hRr
  clear hRr
  go_wp2_with fail
  have hX:=World.rangeAt_setCells_same w1 (w.heap.size+1+1) 0 [.int .i64 9,.slice none 0 0,.slice none 0 0,.int .i64 0,.int .i64 0] (HRr.out.row.there (o:=0) (m:=5) (Nat.le_refl _))
  refine Xz [.int .i64 9,.slice none 0 0,.slice none 0 0,.int .i64 0,.int .i64 0] _ Tryz.results7 rfl hX Tryz.underlying33 rfl Tryz.sizeOutcome5 rfl ⟨outNo,none,none,0,0,rfl,⟨⟨Nat.zero_le _,Nat.zero_le _⟩,.inr ⟨fun h=> (by have:=HV.out.2 h;cases this),rfl⟩⟩,(fun i hi=> by cases hi),(fun i hi=> by cases hi), ?_⟩
  exact kept_sets (g:=w.heap.size+1+1) (by omega) [.int .i64 9,.slice none 0 0,.slice none 0 0,.int .i64 0,.int .i64 0] 0 K1
 ·have HVal:=Kj (HV.out.1 rfl)
  go_wp2_with fail
  refine (l5Told_any w1 a cap Kk ra rc Q_ d dc sl hwl HVal.out (hN.kept K1) (hS.kept K1) (hR.kept K1)).mono ?_
  rintro e w2 ⟨o,xa,xf,xc,xe,rfl,hA,hRs,hCh,k2⟩
  have HA:=Kj hA
  have HRs:=Kj hRs
  have HCh:=Kj hCh
  have hRr:=HRes.out.kept (k1.trans k2)
  have HNr:=Kj (HNr0.out.kept z2 (k1.trans k2))
  obtain ⟨⟨_,fa0⟩,fb0⟩:=hRr.row.at (i:=0) (by omega)
  obtain ⟨⟨_,fa1⟩,fb1⟩:=hRr.row.at (i:=1) (by omega)
  obtain ⟨⟨_,fa2⟩,fb2⟩:=hRr.row.at (i:=2) (by omega)
  obtain ⟨⟨_,fa3⟩,fb3⟩:=hRr.row.at (i:=3) (by omega)
  obtain ⟨⟨_,fa4⟩,fb4⟩:=hRr.row.at (i:=4) (by omega)
  have hrz:=hRr.lt
  have HRr:=Kj hRr
  clear hRr hA hRs hCh b0 s0 s1
  go_wp2_with fail
  have hX:=World.rangeAt_setCells_same w2 (w.heap.size+1+1) 0 (o.cells xa xf xc xe) (HRr.out.row.there (o:=0) (m:=5) (Nat.le_refl _))
  refine Xz (o.cells xa xf xc xe) _ Tryz.results7 rfl hX Tryz.underlying33 rfl Tryz.sizeOutcome5 rfl ⟨o,xa,xf,xc,xe,rfl,HA.out, ?_, ?_, ?_⟩
  ·exact ress_sets_no (vs:=o.cells xa xf xc xe) HRs.out HNr.out
  ·exact strs_sets_no (vs:=o.cells xa xf xc xe) HCh.out HNr.out
  ·exact kept_sets (g:=w.heap.size+1+1) (by omega) (o.cells xa xf xc xe) 0 (K1.trans k2)
