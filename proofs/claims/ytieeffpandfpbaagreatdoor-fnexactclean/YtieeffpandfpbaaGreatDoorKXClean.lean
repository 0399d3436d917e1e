import Derived.Test.YtieeffpandfpbaaGreatDoorKRTold
set_option maxRecDepth 100000
set_option maxHeartbeats 25600000
namespace Go.Proofs.YtieeffpandfpbaaGreatDoor
open Go.RowKit
theorem Tryz.sizeOutcome5 : (Tryz.prog.info? 33).map (·.size)=some 5:=by kernel_rfl
theorem But.after {S S':Nat->Prop} {w w' w'':World} (h:But S w w') (k:But S' w' w'') (hs: ∀b,b < w.heap.size->¬S b->¬S' b):But S w w'':=
 ⟨k.os.trans h.os,k.tape.trans h.tape,k.output.trans h.output,Nat.le_trans h.size k.size,fun b hb hn=> (k.block b (Nat.lt_of_lt_of_le hb h.size) (hs b hb hn)).trans (h.block b hb hn)⟩
theorem miss {w:World} {b o o':Nat} {x v:Value} (h:w.cell? ⟨b,o,none⟩=some x) (hn:o≠o'): (w.setCell ⟨b,o',none⟩ v).cell? ⟨b,o,none⟩=some x:=by rw [Xx (by omega)];exact h
structure OutB (W2:World) (ob:Nat) (w:World) (code:Int) (rv:Value) (units cost:Int):Prop where
 but:But (fun b=> b=ob) W2 w
 row:RowT w ob 33 5
 c0:w.cell? ⟨ob,0,none⟩=some (.int .i64 code)
 c1:w.cell? ⟨ob,1,none⟩=some rv
 c2:w.cell? ⟨ob,2,none⟩=some (.slice none 0 0)
 c3:w.cell? ⟨ob,3,none⟩=some (.int .i64 units)
 c4:w.cell? ⟨ob,4,none⟩=some (.int .i64 cost)
section
variable {W2 w w' : World} {ob : Nat} {code units cost : Int} {rv : Value}
theorem OutB.kept (h:OutB W2 ob w code rv units cost) (k:K_ w w'):OutB W2 ob w' code rv units cost:=
 ⟨h.but.trans (But.of_kept k),h.row.kept k,(k.cell h.row.lt).trans h.c0,(k.cell h.row.lt).trans h.c1,(k.cell h.row.lt).trans h.c2,(k.cell h.row.lt).trans h.c3,(k.cell h.row.lt).trans h.c4⟩
theorem OutB.alike (h:OutB W2 ob w code rv units cost) {S:Nat->Prop} (k:But S w w') (hs: ∀b,S b->W2.heap.size<=b) (ho:ob < W2.heap.size):OutB W2 ob w' code rv units cost:=
 have hn: ¬S ob:=fun e=> by have:=hs _ e;omega
 ⟨h.but.after k (fun b hb _ e=> by have:=hs _ e;omega),k.row h.row hn,(k.cell h.row.lt hn).trans h.c0,(k.cell h.row.lt hn).trans h.c1,(k.cell h.row.lt hn).trans h.c2,(k.cell h.row.lt hn).trans h.c3,(k.cell h.row.lt hn).trans h.c4⟩
theorem OutB.set0 (h:OutB W2 ob w code rv units cost) (x:Int):OutB W2 ob (w.setCell ⟨ob,0,none⟩ (.int .i64 x)) x rv units cost:=
 ⟨h.but.set rfl _,h.row.set _,set_hit h.row.row (by omega) _,miss h.c1 (by decide),miss h.c2 (by decide),miss h.c3 (by decide),miss h.c4 (by decide)⟩
theorem OutB.set1 (h:OutB W2 ob w code rv units cost) (x:Value):OutB W2 ob (w.setCell ⟨ob,1,none⟩ x) code x units cost:=
 ⟨h.but.set rfl _,h.row.set _,miss h.c0 (by decide),set_hit h.row.row (by omega) _,miss h.c2 (by decide),miss h.c3 (by decide),miss h.c4 (by decide)⟩
theorem OutB.set3 (h:OutB W2 ob w code rv units cost) (x:Int):OutB W2 ob (w.setCell ⟨ob,3,none⟩ (.int .i64 x)) code rv x cost:=
 ⟨h.but.set rfl _,h.row.set _,miss h.c0 (by decide),miss h.c1 (by decide),miss h.c2 (by decide),set_hit h.row.row (by omega) _,miss h.c4 (by decide)⟩
theorem OutB.set4 (h:OutB W2 ob w code rv units cost) (x:Int):OutB W2 ob (w.setCell ⟨ob,4,none⟩ (.int .i64 x)) code rv units x:=
 ⟨h.but.set rfl _,h.row.set _,miss h.c0 (by decide),miss h.c1 (by decide),miss h.c2 (by decide),miss h.c3 (by decide),set_hit h.row.row (by omega) _⟩
theorem OutB.no {ra:Option Addr} {rn rc:Nat} (h:OutB W2 ob w code (.slice ra rn rc) units cost):NoStr w ob:=noStr_row h.row fun o ho s e=> by
 match o,ho,e with
 | 0,_,e=> have:=h.c0;rw [e] at this;cases this
 | 1,_,e=> have:=h.c1;rw [e] at this;cases this
 | 2,_,e=> have:=h.c2;rw [e] at this;cases this
 | 3,_,e=> have:=h.c3;rw [e] at this;cases this
 | 4,_,e=> have:=h.c4;rw [e] at this;cases this
end
def CodeOf (l:List ResD) (code:Int):Prop:= (code=0∧¬∃r∈l,r.over=false)∨(code=2∧∃r∈l,r.over=false)
theorem CodeOf.yes {l:List ResD} {code:Int} (h:CodeOf l code) (r:ResD) (hr:r.over=true):CodeOf (l++ [r]) code:=by
 rcases h with ⟨h1,h2⟩ | ⟨h1,x,hx,h2⟩
 ·refine .inl ⟨h1,fun ⟨x,hx,h3⟩=> ?_⟩
  rcases List.mem_append.1 hx with h | h
  ·exact h2 ⟨x,h,h3⟩
  ·rw [List.mem_singleton] at h;rw [h,hr] at h3;cases h3
 ·exact .inr ⟨h1,x,List.mem_append.2 (.inl hx),h2⟩
theorem CodeOf.no (l:List ResD) (r:ResD) (hr:r.over=false):CodeOf (l++ [r]) 2:= .inr ⟨rfl,r,List.mem_append.2 (.inr (List.mem_singleton.2 rfl)),hr⟩
open Go.RowKit Go.Shelf
attribute [local go_sem] Oper.semAt_some
def AnI (w1:World) (c:Nat) (Kj:List Qq) (ts:List Zx) (i:Nat) (W:World):Prop:=
 K_ w1 W∧RowT W c 4 1∧∀r∈(Qk ts).take i,¬CanGo (Q_ Kj) (Qj (Qk ts)) r
def AnX (w1:World) (c:Nat) (Kj:List Qq) (ts:List Zx) (x:Code) (W:World):Prop:=
 x= .ret∧K_ w1 W∧RowT W c 4 1∧W.cell? ⟨c,0,none⟩=some (.bool true)∧∃r∈Qk ts,CanGo (Q_ Kj) (Qj (Qk ts)) r
theorem AnI.calm {w1:World} {c:Nat} {Kj:List Qq} {ts:List Zx} {i B:Nat} (hw:w1.heap.size<=c) (hc:c < B):Calm B (AnI w1 c Kj ts i):=by
 constructor
 ·rintro W o hB ⟨k,h1,h2⟩
  have ka:= (K_.refl W).alloc o
  exact ⟨k.trans ka,h1.kept ka,h2⟩
 ·rintro W l o o' hl ho hn ⟨k,h1,h2⟩
  have kb:But (fun b=> b=l) W (W.putObj l o'):= ⟨rfl,rfl,rfl,by rw [World.putObj_size];exact Nat.le_refl _,fun b _ e=> World.putObj_heap_other e⟩
  exact ⟨kb.kept k (fun b e=> by rw [e];omega),kb.row h1 (fun (e:c=l)=> by omega),h2⟩
theorem AnX.calm {w1:World} {c:Nat} {Kj:List Qq} {ts:List Zx} {x:Code} {B:Nat} (hw:w1.heap.size<=c) (hc:c < B):Calm B (AnX w1 c Kj ts x):=by
 constructor
 ·rintro W o hB ⟨hx,k,h1,h2,h3⟩
  have ka:= (K_.refl W).alloc o
  exact ⟨hx,k.trans ka,h1.kept ka,(ka.cell h1.lt).trans h2,h3⟩
 ·rintro W l o o' hl ho hn ⟨hx,k,h1,h2,h3⟩
  have kb:But (fun b=> b=l) W (W.putObj l o'):= ⟨rfl,rfl,rfl,by rw [World.putObj_size];exact Nat.le_refl _,fun b _ e=> World.putObj_heap_other e⟩
  exact ⟨hx,kb.kept k (fun b e=> by rw [e];omega),kb.row h1 (fun (e:c=l)=> by omega),(put_cell o' (by omega)).trans h2,h3⟩
section
variable {G : Ghost} {Kj : List Qq} {wz w w' : World} {bb : Nat} {a : Option Addr} {cap : Nat} {rd : Option Addr} {rn rc : Nat} {mb mx : Nat} {ts : List Zx} {d : Option Addr} {dc : Nat} {f : ByteArray -> Value} {ws : ByteArray -> List Nat}
end
def CleanOut (Kj:List Qq) (Kk:List ByteArray) (w w':World) (e:Ending):Prop:=
 ∃(o:OutD) (a f:Option Addr) (c e0:Nat),e= .returned (.agg #[.int .i64 o.code,.slice a o.res.length c,.slice f o.chain.length e0,.int .i64 o.units,.int .i64 o.cost])∧CleanAns Kj Kk o∧Ress w' a o.res∧Strs w' f o.chain∧K_ w w'
def CodeC (l:List ResD) (code:Int):Prop:= (code=0∧¬∃r∈l,r.over=false)∨(code=1∧∃r∈l,r.over=false)
theorem CodeC.yes {l:List ResD} {code:Int} (h:CodeC l code) (r:ResD) (hr:r.over=true):CodeC (l++ [r]) code:=by
 rcases h with ⟨h1,h2⟩ | ⟨h1,x,hx,h2⟩
 ·refine .inl ⟨h1,fun ⟨x,hx,h3⟩=> ?_⟩
  rcases List.mem_append.1 hx with h | h
  ·exact h2 ⟨x,h,h3⟩
  ·rw [List.mem_singleton] at h;rw [h,hr] at h3;cases h3
 ·exact .inr ⟨h1,x,List.mem_append.2 (.inl hx),h2⟩
theorem CodeC.no (l:List ResD) (r:ResD) (hr:r.over=false):CodeC (l++ [r]) 1:= .inr ⟨rfl,r,List.mem_append.2 (.inr (List.mem_singleton.2 rfl)),hr⟩
theorem sums_all {Kj:List Qq} (hok:ActsOk (Q_ Kj)) {l:List Qz} (hg: ∀r∈l,r.Good Kj) (hl:l.length<=60) (k:Nat):0<=unitsX (l.take k)∧unitsX (l.take k)<=1200∧0<=costX (Q_ Kj) (l.take k)∧costX (Q_ Kj) (l.take k)<=24000:=by
 have h: ∀r∈l.take k,0<=r.Zj∧r.Zj<=20:=fun r hr=> ⟨(hg r (List.mem_of_mem_take hr)).lo,(hg r (List.mem_of_mem_take hr)).hi⟩
 have h1:=units_le h
 have h2:=cost_le hok h
 have h3: (l.take k).length<=60:=by rw [List.length_take];omega
 exact ⟨h1.1,by omega,h2.1,by omega⟩
theorem specClean_any (w:World) (a:Option Addr) (cap:Nat) (Kj:List Qq) (ra:Option Addr) (rc:Nat) (Kk:List ByteArray) (hwl:Kj.length<=1048576) (hft: ∀y∈Kj,y.Fits) (hrl:Kk.length<=1048576) (hrs: ∀s∈Kk,s.size<=maxLen)
  (hN:Nodes w a Kj) (hR:Strs w ra Kk):
  Calls Tryz.prog 19 #[.agg #[.slice a Kj.length cap],.slice ra Kk.length rc] w fun e w'=> CleanOut Kj Kk w w' e:=by
 obtain ⟨WB,hWB⟩: ∃WB,WB= (w.alloc (.cells #[.slice a Kj.length cap] 37)).alloc (.cells #[.int .i64 0,.slice none 0 0,.slice none 0 0,.int .i64 0,.int .i64 0] 33):= ⟨_,rfl⟩
 have kB:K_ w WB:=by rw [hWB];exact ((K_.refl _).alloc _).alloc _
 have hBs:WB.heap.size=w.heap.size+2:=by rw [hWB];simp
 have b0:WB.cell? ⟨w.heap.size,0,none⟩=some (.slice a Kj.length cap):=by
  rw [hWB]
  exact (box1 (w:=w) (v:= .slice a Kj.length cap) (t:=37) ((K_.refl _).alloc _)).1
 have HRes:Hid (RowT WB (w.heap.size+1) 33 5):=by
  have h:=RowT.made (w.alloc (.cells #[.slice a Kj.length cap] 37)) #[.int .i64 0,.slice none 0 0,.slice none 0 0,.int .i64 0,.int .i64 0] 33
  rw [World.size_alloc] at h
  rw [hWB]
  exact h
 have HNr0:Hid (NoStr WB (w.heap.size+1)):=by
  have h:=noStr_new (w:=w.alloc (.cells #[.slice a Kj.length cap] 37)) (k:=0) (m:=0) (n:=0) (a:=none) (f:=none) (c:=0) (e0:=0) (rl:=0) (cl:=0) (t:=33)
  rw [World.size_alloc] at h
  rw [hWB]
  exact h
 have z0:w.heap.size < WB.heap.size:=by omega
 have z1:w.heap.size+1 < WB.heap.size:=by omega
 have HC0:Hid (∀w',K_ WB w'->w'.cell? ⟨w.heap.size,0,none⟩=some (.slice a Kj.length cap)∧w.heap.size < w'.heap.size):=fun w' K=> ⟨(K.cell z0).trans b0,Nat.lt_of_lt_of_le z0 K.size⟩
 have HNo1:Hid (¬(WebCode Kj 0∧RootsOk Kk)->∀u,K_ WB u->CleanOut Kj Kk w (u.setCells (w.heap.size+1) 0 [.int .i64 9,.slice none 0 0,.slice none 0 0,.int .i64 0,.int .i64 0]) (.returned (.agg #[.int .i64 9,.slice none 0 0,.slice none 0 0,.int .i64 0,.int .i64 0]))):=fun hn u ku=> ⟨outNo,none,none,0,0,rfl,⟨⟨Nat.zero_le _,Nat.zero_le _⟩,.inr ⟨hn,rfl⟩⟩,(fun i hi=> by cases hi),(fun i hi=> by cases hi),kept_sets (g:=w.heap.size+1) (by omega) _ 0 (kB.trans ku)⟩
 have HKB:=Kz kB
 clear kB hBs b0 z0
 go_enter Tryz.func19,Tryz.ntmps19
 go_upto_region 1 with fail
 rw [<-hWB]
 clear hWB
 obtain ⟨b0,z0⟩:=HC0.out _ (K_.refl _)
 go_wp2_with fail
 refine (specCheckWeb_any _ a cap Kj (by unfold maxLen;omega) hft (hN.kept HKB.out)).mono ?_
 rintro e w1 ⟨⟨c,rfl,hc⟩,k1⟩
 clear b0 z0
 obtain ⟨b0,z0⟩:=HC0.out _ k1
 by_cases hc0:c=0
 rotate_left
 ·have hcb: (c != 0)=true:=by simpa using hc0
  have HCn:Hid (¬WebCode Kj 0):=fun h=> hc0 (hc.unique h)
  have HR1:=Kz (HRes.out.kept k1)
  obtain ⟨⟨_,fa0⟩,fb0⟩:=HR1.out.row.at (i:=0) (by omega)
  obtain ⟨⟨_,fa1⟩,fb1⟩:=HR1.out.row.at (i:=1) (by omega)
  obtain ⟨⟨_,fa2⟩,fb2⟩:=HR1.out.row.at (i:=2) (by omega)
  obtain ⟨⟨_,fa3⟩,fb3⟩:=HR1.out.row.at (i:=3) (by omega)
  obtain ⟨⟨_,fa4⟩,fb4⟩:=HR1.out.row.at (i:=4) (by omega)
  have hrz:=HR1.out.lt
  clear hc0 hc
  go_wp2_with fail
  have hX:=World.rangeAt_setCells_same w1 (w.heap.size+1) 0 [.int .i64 9,.slice none 0 0,.slice none 0 0,.int .i64 0,.int .i64 0] (HR1.out.row.there (o:=0) (m:=5) (Nat.le_refl _))
  exact X_ [.int .i64 9,.slice none 0 0,.slice none 0 0,.int .i64 0,.int .i64 0] _ Tryz.results19 rfl hX Tryz.underlying33 rfl Tryz.sizeOutcome5 rfl (HNo1.out (fun h=> HCn.out h.1) w1 k1)
 subst hc0
 have HWb:=Kz hc
 clear hc
 go_wp2_with fail
 refine (l3RootsOk_any _ ra rc Kk (by unfold maxLen;omega) hrs (hR.kept (HKB.out.trans k1))).mono ?_
 rintro e w2 ⟨hsay,k2⟩
 have K2:=k1.trans k2
 clear b0 z0
 obtain ⟨b0,z0⟩:=HC0.out _ K2
 rcases hsay.cases with ⟨rfl,hyes⟩ | ⟨rfl,hno⟩
 rotate_left
 ·have HNo:=Kz hno
  have HR1:=Kz (HRes.out.kept K2)
  obtain ⟨⟨_,fa0⟩,fb0⟩:=HR1.out.row.at (i:=0) (by omega)
  obtain ⟨⟨_,fa1⟩,fb1⟩:=HR1.out.row.at (i:=1) (by omega)
  obtain ⟨⟨_,fa2⟩,fb2⟩:=HR1.out.row.at (i:=2) (by omega)
  obtain ⟨⟨_,fa3⟩,fb3⟩:=HR1.out.row.at (i:=3) (by omega)
  obtain ⟨⟨_,fa4⟩,fb4⟩:=HR1.out.row.at (i:=4) (by omega)
  have hrz:=HR1.out.lt
  clear hno hsay
  go_wp2_with fail
  have hX:=World.rangeAt_setCells_same w2 (w.heap.size+1) 0 [.int .i64 9,.slice none 0 0,.slice none 0 0,.int .i64 0,.int .i64 0] (HR1.out.row.there (o:=0) (m:=5) (Nat.le_refl _))
  exact X_ [.int .i64 9,.slice none 0 0,.slice none 0 0,.int .i64 0,.int .i64 0] _ Tryz.results19 rfl hX Tryz.underlying33 rfl Tryz.sizeOutcome5 rfl (HNo1.out (fun h=> HNo.out h.2) w2 K2)
 have HY:=Kz hyes
 clear hyes hsay HNo1
 obtain ⟨rb,ro,rfl,hrb,_⟩:=hR 0 (by have:=HY.out.1;omega)
 have hwl6:=web_len HWb.out
 have hrl1:=HY.out.2.1
 have hok:=web_acts HWb.out
 have KW2:=HKB.out.trans K2
 have HRn:Hid (∀n∈Kk,n.size<=20):=fun n hn=> by
  obtain ⟨i,hi,rfl⟩:=List.getElem_of_mem hn
  have h:= (HY.out.2.2 i hi).1.2.1
  simpa [List.getD,hi] using h
 go_wp2_with fail
 refine (l3All_any w2 a cap Kj (some ⟨rb,ro,none⟩) rc Kk hwl6 hft (web_small HWb.out) hok hrl1 (hN.kept KW2) (hR.kept KW2)).mono ?_
 rintro e w3 ⟨kb,L,d,dc,xs,rfl,hkb,hO,hZ⟩
 have HOc:=Kz hO
 have hLl:=Nat.le_trans hO.len hwl6
 have K3:=K2.trans hZ.kw
 obtain ⟨ob,hob⟩: ∃ob,ob=w3.heap.size:= ⟨_,rfl⟩
 obtain ⟨W2,hW2⟩: ∃W2,W2=w3.alloc (.cells #[.int .i64 0,.slice none 0 0,.slice none 0 0,.int .i64 0,.int .i64 0] 33):= ⟨_,rfl⟩
 have kO:K_ w3 W2:=by rw [hW2];exact (K_.refl _).alloc _
 have hob2:ob < W2.heap.size:=by rw [hW2,hob];simp
 have HOB2:Hid (OutB W2 ob W2 0 (.slice none 0 0) 0 0):=by
  obtain ⟨q0,q1,q2,q3,q4⟩:=fiveCells (w:=w3) (w1:=W2) (v0:= .int .i64 0) (v1:= .slice none 0 0) (v2:= .slice none 0 0) (v3:= .int .i64 0) (v4:= .int .i64 0) (t:=33) (by rw [hW2];exact K_.refl _)
  rw [<-hob] at q0 q1 q2 q3 q4
  exact ⟨But.of_kept (K_.refl _),by rw [hW2,hob];exact RowT.made w3 _ _,q0,q1,q2,q3,q4⟩
 have HZ2:=Kz (hZ.kept kO).again
 have KB2:K_ WB W2:=K3.trans kO
 have hw3:w.heap.size+1 < w3.heap.size:=Nat.lt_of_lt_of_le z1 K3.size
 have hkob: ¬kb=ob:=by have:=hZ.known.row.lt;omega
 have hw2o:w2.heap.size<=ob:=by rw [hob];exact hZ.kw.size
 have hwob:w.heap.size+1 < ob:=by rw [hob];exact hw3
 have HC:Hid (∀u,But (fun b=> b=ob) W2 u->u.cell? ⟨w.heap.size,0,none⟩=some (.slice a Kj.length cap)∧KnZ w2 u u kb (.slice d L.length dc) a Kj.length cap L d dc xs∧K_ w u∧RowT u (w.heap.size+1) 33 5∧NoStr u (w.heap.size+1)∧W2.heap.size<=u.heap.size):=fun u h=> by
  have hz3:=kO.size
  refine ⟨(h.cell (by omega) (fun (e:w.heap.size=ob)=> by omega)).trans (HC0.out _ KB2).1, ?_,h.kept (HKB.out.trans KB2) (fun b e=> by rw [e];omega),h.row (HRes.out.kept KB2) (fun (e:w.heap.size+1=ob)=> by omega),fun o s e=> (HNr0.out.kept z1 KB2) o s ((h.cell (by omega) (fun (e:w.heap.size+1=ob)=> by omega)).symm.trans e),h.size⟩
  refine HZ2.out.but h (fun b e=> by rw [e];exact hw2o) hkob (fun b e (e2:b=ob)=> ?_) (fun b (e:b=ob) ht=> type_ne HOB2.out.row.type (by rw [e] at ht;exact ht) (by decide) rfl)
  have:= (hZ.own.lt b e).2
  omega
 obtain ⟨R,hRx⟩: ∃R,R=resX (Q_ Kj) (Qj L):= ⟨_,rfl⟩
 have HRx:=Kz hRx
 go_upto_region 5 with fail
 rw [<-hW2,<-hob]
 clear hRx hob hW2 b0 z0 kO KB2 HZ2 HC0 hZ hO HRes HNr0 HKB KW2 K2 K3 k1 k2
 go_wp2_with fail
 go_loopw [7] (fun x7 wr=> ∃(k:Nat) (av:Option Addr) (cv:Nat) (code:Int),k<=Kk.length∧x7= .int .i64 (k:Int)∧Hid (CodeC ((Kk.take k).map R) code)∧Hid (OutB W2 ob wr code (.slice av k cv) 0 0)∧Hid (wr.ownsRow W2.heap.size 79 4 (.slice av k cv) k (dResCells ((Kk.take k).map R)))) (fun x7 _=> Kk.length - (intOf x7).toNat)
 case atStart=> exact ⟨0,none,0,0,Nat.zero_le _,rfl,Kz (.inl ⟨rfl,fun ⟨_,h,_⟩=> by cases h⟩),HOB2,Kz (World.ownsRow_nil _ _ _ _)⟩
 case round=>
  clear HOB2
  obtain ⟨k,av,cv,code,hk,rfl,HCd,HO,HW⟩:=hrel
  obtain ⟨c0,hZr,Kr,hRr,hNr,hzr⟩:=HC.out wr HO.out.but
  have HZr:=Kz hZr
  have HKw:=Kz Kr
  clear hZr hRr hNr
  by_cases hlt:k < Kk.length
  ·have hkk: (k:Int) < (Kk.length:Int):=by omega
   obtain ⟨sb,so,e1,hsw,hsc0⟩:=hR k hlt
   simp only [Option.some.injEq,Addr.mk.injEq,and_true] at e1
   obtain ⟨rfl,rfl⟩:=e1
   obtain ⟨nm,hnm⟩: ∃nm,nm=Kk.getD k ByteArray.empty:= ⟨_,rfl⟩
   rw [<-hnm] at hsc0
   have hsc:= (HKw.out.cell hsw).trans hsc0
   have hsb:rb < wr.heap.size:=Nat.lt_of_lt_of_le hsw HKw.out.size
   clear hsc0
   have hng:Kk[k]=nm:=by rw [hnm];simp [List.getD,hlt]
   have hmem:nm∈Kk:=by rw [<-hng];exact List.getElem_mem hlt
   have HNg:=Kz hng
   have hn20:=HRn.out nm hmem
   clear hnm hng hmem
   go_wp2_with fail
   refine (answer_anyO wr kb a cap Kj d dc L nm hwl (by omega) (by omega) HZr.out.known (hN.kept HKw.out) HZr.out.runs).mono ?_
   rintro e w3' ⟨⟨fl,tx,ok,rfl,hans,hno⟩,k3⟩
   have HRs:Hid (R nm= ⟨nm,ok,fl,tx⟩):=by
    show R nm=_
    rw [HRx.out]
    unfold resX
    rw [hans]
    cases ok
    ·obtain ⟨h1,h2⟩:=hno rfl
     rw [h1,h2]
     rfl
    ·rfl
   have HTk:Hid ((Kk.take (k+1)).map R= (Kk.take k).map R++ [⟨nm,ok,fl,tx⟩]):=by
    show _=_
    rw [List.take_succ_eq_append_getElem hlt,List.map_append,HNg.out,<-HRs.out]
    rfl
   obtain ⟨W4,hW4⟩: ∃W4,W4=w3'.alloc (.cells #[.bool fl,.string tx] 75):= ⟨_,rfl⟩
   have k4:K_ w3' W4:=by rw [hW4];exact (K_.refl _).alloc _
   obtain ⟨pb,hpb⟩: ∃pb,pb=w3'.heap.size:= ⟨_,rfl⟩
   have p01:=box2 (w:=w3') (v0:= .bool fl) (v1:= .string tx) (t:=75) (w1:=W4) (by rw [hW4];exact K_.refl _)
   rw [<-hpb] at p01
   have K4:=k3.trans k4
   have hpw: ∀b,(Value.slice av k cv).ownBlock=some b->b≠pb:=fun b e=> by have h1:= (HW.out.lt b e).2;have h2:=k3.size;omega
   have hp4:pb < W4.heap.size:=by rw [hW4,hpb];simp
   have HO4:=Kz (HO.out.kept K4)
   have HW4:=Kz (ownsRow_kept' HW.out K4)
   have hsb4:rb < W4.heap.size:=Nat.lt_of_lt_of_le hsb K4.size
   have hz4:W2.heap.size<=W4.heap.size:=Nat.le_trans hzr K4.size
   have hob4:ob < W4.heap.size:=by omega
   have Zz:Hid (∀u:World,(∀b,b < W4.heap.size->¬W2.heap.size<=b∨b=pb->u.heap[b]? =W4.heap[b]?)->u.cell? ⟨ob,1,none⟩=some (.slice av k cv)∧u.cell? ⟨rb,ro+k,none⟩=some (.string nm)∧u.cell? ⟨pb,0,none⟩=some (.bool fl)∧u.cell? ⟨pb,1,none⟩=some (.string tx)):=fun u hh=> by
    exact ⟨(World.cell?_of_block (w:=W4) (hh ob hob4 (.inl (by omega)))).trans HO4.out.c1,(World.cell?_of_block (w:=W4) (hh rb hsb4 (.inl (by omega)))).trans ((K4.cell hsb).trans hsc),(World.cell?_of_block (w:=W4) (hh pb hp4 (.inr rfl))).trans p01.1,(World.cell?_of_block (w:=W4) (hh pb hp4 (.inr rfl))).trans p01.2⟩
   obtain ⟨ic,hc0,hc1,hc2,hc3⟩:=xInfo_parts Tryz.infoResult
   go_upto_region 9 with fail
   rw [<-hW4,<-hpb]
   clear hW4 hpb p01 k4 k3 hans hno c0 hsc HRs HNg
   refine Qx.rh 15 Zz.out (fun _ _ _=> rfl) fun wd KD Z_=> ?_
   refine Qx.tk 0 Z_ ?_
   refine Qx.tk 1 Z_ ?_
   refine Qx.tk 2 Z_ ?_
   refine Qx.tk 3 Z_ ?_
   refine Qx.tk 4 Z_ ?_
   refine Qx.tk 5 Z_ ?_
   refine Qx.tk 6 Z_ ?_
   refine Qx.tk 7 Z_ ?_
   refine Qx.tk 8 Z_ ?_
   refine Qx.tk 9 Z_ ?_
   refine Qx.tk 10 Z_ ?_
   refine Qx.tk 11 Z_ ?_
   refine Qx.nx 12 (fun K hK=> ?_)
   go_simp
   have K5:K_ wd (wd.alloc (.cells #[.string nm,.bool ok,.bool fl,.string tx] 79)):= (K_.refl _).alloc _
   have hc5:=Xz wd #[.string nm,.bool ok,.bool fl,.string tx] 79
   have K6:=KD.trans K5
   have hw6: ∀b,b < W4.heap.size->¬W2.heap.size<=b∨b=pb->(wd.alloc (.cells #[.string nm,.bool ok,.bool fl,.string tx] 79)).heap[b]? =W4.heap[b]? :=fun b hb _=> K6.block b hb
   refine hK.out _ _ (fun _=> Zz.out _ hw6) ?_
   clear hK K Z_
   obtain ⟨eb,heb⟩: ∃eb,eb=wd.heap.size:= ⟨_,rfl⟩
   rw [<-heb] at hc5⊢
   generalize hwe:wd.alloc (.cells #[.string nm,.bool ok,.bool fl,.string tx] 79)=w6 at hc5 K6 hw6⊢
   clear hwe K5 heb
   have HR6:=Kz (ownsRow_kept' HW4.out K6)
   have hz6:=K6.size
   try simp only [Act.put,upA,upB,upC]
   refine Qx.nx 13 (fun K hK=> ?_)
   refine step_append_lies _ rfl (.tmp 40) (.tmp 51) 31 rfl W2.heap.size 79 ic _ 4 40 Tryz.underlying31 hc0 hc1 hc2 hc3 rfl (by decide) (.slice av k cv) k (dResCells ((Kk.take k).map R)) (by simp [Act.eval]) HR6.out ⟨eb,0,none⟩ 1 1 [.string nm,.bool ok,.bool fl,.string tx] (by simp [Act.eval]) rfl (fun j u hu=> by rw [Addr.add_mid];exact hc5 j u hu) (fun u hu=> by simp only [List.mem_cons,List.not_mem_nil,or_false] at hu;rcases hu with rfl | rfl | rfl | rfl <;> rfl) (by omega) (by unfold maxLen;omega) (by omega) (by omega) _ rfl ?_
   intro g6 cap6 w8 hown8 hgr8 hat hlt8
   have hrow: ∀b,(Value.slice av k cv).ownBlock=some b->W2.heap.size<=b:=fun b e=> (HR6.out.lt b e).1
   have k68:But (fun b=> (Value.slice av k cv).ownBlock=some b) w6 w8:=But.of_grown hgr8 (fun b e=> e)
   have hw8: ∀b,b < W4.heap.size->¬W2.heap.size<=b∨b=pb->w8.heap[b]? =W4.heap[b]? :=fun b hb hn=> (k68.block b (by omega) (fun e=> by rcases hn with h | h;exact h (hrow b e);exact hpw b e h)).trans (hw6 b hb hn)
   have hO8:OutB W2 ob w8 code (.slice av k cv) 0 0:= (HO4.out.kept K6).alike k68 hrow hob2
   have hz8:=k68.size
   obtain ⟨⟨_,fo2⟩,fo1⟩:=hO8.row.row.at (i:=1) (by omega)
   have hob8:=hO8.row.lt
   obtain ⟨W8,hW8⟩: ∃W8,W8=w8.setCell ⟨ob,1,none⟩ (.slice (some ⟨g6,0,none⟩) (k+1) cap6):= ⟨_,rfl⟩
   have HN8:Hid (OutB W2 ob W8 code (.slice (some ⟨g6,0,none⟩) (k+1) cap6) 0 0):=by rw [hW8];exact hO8.set1 _
   have HG8:Hid (W8.ownsRow W2.heap.size 79 4 (.slice (some ⟨g6,0,none⟩) (k+1) cap6) (k+1) (dResCells ((Kk.take (k+1)).map R))):=by
    rw [hW8,HTk.out,dResCells_snoc]
    exact (But.set (S:=fun b=> b=ob) (But.of_kept (K_.refl w8)) (p:= ⟨ob,1,none⟩) rfl _).owns hown8 (fun b e e2=> by have:= (hown8.lt b e).1;omega)
   refine hK.out _ _ (fun _=> Zz.out _ hw8) ?_
   clear hK K hown8 hgr8 hat hO8
   try simp only [Act.put,upA,upB,upC]
   have Z_:=Zz.out _ hw8
   refine Qx.tk 14 Z_ ?_
   refine Qx.nx 15 (fun K hK=> ?_)
   go_simp
   rw [<-hW8]
   refine hK.out _ _ (fun h=> absurd rfl h) ?_
   clear hK K Z_
   try simp only [Act.put,upA,upB,upC]
   refine Qx.dn ?_
   clear hW8 fo1 fo2 hw8 hpw hrow k68 hc5 hw6 HR6 HO4 HW4 Zz HO HW KD K6 hob8
   cases ok
   ·have HC2:Hid (CodeC ((Kk.take (k+1)).map R) 1):=by rw [HTk.out];exact CodeC.no _ _ rfl
    have o0:=HN8.out.c0
    obtain ⟨⟨_,f0⟩,f1⟩:=HN8.out.row.row.at (i:=0) (by omega)
    have HF:=Kz (HN8.out.set0 1)
    have HG:Hid ((W8.setCell ⟨ob,0,none⟩ (.int .i64 1)).ownsRow W2.heap.size 79 4 (.slice (some ⟨g6,0,none⟩) (k+1) cap6) (k+1) (dResCells ((Kk.take (k+1)).map R))):= (But.set (S:=fun b=> b=ob) (But.of_kept (K_.refl W8)) (p:= ⟨ob,0,none⟩) rfl _).owns HG8.out (fun b e e2=> by have:= (HG8.out.lt b e).1;omega)
    clear HN8 HG8
    go_wp2
    go_roundw
    case rel=> exact ⟨k+1,some ⟨g6,0,none⟩,cap6,1,by omega,by go_num,HC2,HF,HG⟩
    case measure=> simp [intOf];omega
   ·have HC2:Hid (CodeC ((Kk.take (k+1)).map R) code):=by rw [HTk.out];exact HCd.out.yes _ rfl
    go_wp2
    go_roundw
    case rel=> exact ⟨k+1,some ⟨g6,0,none⟩,cap6,code,by omega,by go_num,HC2,HN8,HG8⟩
    case measure=> simp [intOf];omega
  ·have hnk: ¬((k:Int) < (Kk.length:Int)):=by omega
   have hkr:k=Kk.length:=by omega
   have hall:Kk.take k=Kk:=by rw [hkr];exact List.take_length
   rw [hall] at HCd HW
   have HKe:=Kz hkr
   clear hlt hkr hall hk
   have HUs:Hid (0=unitsX (L.take 0)∧0=costX (Q_ Kj) (L.take 0)):= ⟨rfl,rfl⟩
   go_wp2_with fail
   go_loopw [10] (fun x10 wr=> ∃(i:Nat) (uu cc:Int),i<=L.length∧x10= .int .i64 (i:Int)∧Hid (uu=unitsX (L.take i)∧cc=costX (Q_ Kj) (L.take i))∧Hid (OutB W2 ob wr code (.slice av k cv) uu cc)∧Hid (wr.ownsRow W2.heap.size 79 4 (.slice av k cv) k (dResCells (Kk.map R)))) (fun x10 _=> L.length - (intOf x10).toNat)
   case atStart=> exact ⟨0,0,0,Nat.zero_le _,rfl,HUs,HO,HW⟩
   case round=>
    clear HUs HO HW c0 HZr HKw Kr hzr
    obtain ⟨i,uu,cc,hi,rfl,HU,HO,HW⟩:=hrel
    obtain ⟨c0,hZr,Kr,hRr,hNr,hzr⟩:=HC.out wr HO.out.but
    have HZr:=Kz hZr
    have HRr:=Kz hRr
    have HNr:=Kz hNr
    have HKw:=Kz Kr
    have m1:=hZr.known.runs
    have zk:=hZr.known.row.lt
    clear hZr hRr hNr Kr
    have hsum:=sums_all hok HOc.out.all hLl i
    rw [<-HU.out.1,<-HU.out.2] at hsum
    by_cases hil:i < L.length
    ·have hii: (i:Int) < (L.length:Int):=by omega
     obtain ⟨g,rfl⟩:=owns_form HZr.out.own (by omega)
     obtain ⟨ya,yc,hrc,_,_,_⟩:=HZr.out.pack.at HZr.out.own hil
     have hgz:= (HZr.out.own.lt g rfl).2
     have hgo: ¬g=ob:=fun e=> by
      have h1:=Yz HZr.out.own (b:=g) rfl
      exact type_ne h1 HO.out.row.type (by decide) e
     obtain ⟨x,hx⟩: ∃x,x=L.getD i Qz.zero:= ⟨_,rfl⟩
     rw [<-hx] at hrc
     have hxg:L[i]=x:=by rw [hx];simp [List.getD,hil]
     have hxm:x∈L:=by rw [<-hxg];exact List.getElem_mem hil
     have t0:=hrc 0 _ rfl
     have t5:=hrc 5 _ rfl
     rw [Nat.add_zero] at t0
     have hxgd:=HOc.out.all x hxm
     obtain ⟨A,hA,_⟩:=hxgd.act
     have hcst:=costOf_le hok x.name
     have hvis:0<=x.Zj∧x.Zj<=20:= ⟨hxgd.lo,hxgd.hi⟩
     have hmul:=vc_le hvis hcst
     obtain ⟨nk,hnk,hnn,hnmin,hAe⟩:=acts_first hA
     obtain ⟨nb,no,cs,e3,hnb,hncs,na,ncap,e4,_⟩:=hN nk hnk
     subst e3
     have hce:costOf (Q_ Kj) x.name= (Kj.getD nk Qq.zero).cost:=by rw [costOf_some hA,hAe]
     have hnc:wr.cell? ⟨nb,no+nk * 3+1,none⟩=some (.int .i64 (costOf (Q_ Kj) x.name)):=by rw [hce];exact (HKw.out.cell hnb).trans (hncs 1 _ (by rw [e4];rfl))
     obtain ⟨cst,hcs⟩: ∃cst,cst=costOf (Q_ Kj) x.name:= ⟨_,rfl⟩
     rw [<-hcs] at hcst hmul hnc
     have HPl:Hid (∀r:Int,PlaceN Kj x.name r->r= (nk:Int)):=fun r hr=> by
      rcases hr with ⟨k2,h1,rfl,h3,h4,h5⟩ | ⟨_,h2⟩
      ·rcases Nat.lt_trichotomy k2 nk with h | h | h
       ·exact absurd h4 (hnmin _ h)
       ·rw [h]
       ·exact absurd hnn (h5 _ h)
      ·rw [hA] at h2;cases h2
     have hw1:IntKind.i64.wrap (uu+x.Zj)=uu+x.Zj:=wrap_i64_in (by omega) (by omega)
     have hw2:IntKind.i64.wrap (x.Zj * cst)=x.Zj * cst:=wrap_i64_in (by omega) (by omega)
     have hw3':IntKind.i64.wrap (cc+x.Zj * cst)=cc+x.Zj * cst:=wrap_i64_in (by omega) (by omega)
     have HUn:Hid (uu+x.Zj=unitsX (L.take (i+1))∧cc+x.Zj * cst=costX (Q_ Kj) (L.take (i+1))):=by
      rw [List.take_succ_eq_append_getElem hil,unitsX_snoc,costX_snoc,hxg,<-HU.out.1,<-HU.out.2,<-hcs]
      exact ⟨rfl,rfl⟩
     have hob1:=HO.out.row.lt
     have hnbo:nb < w3.heap.size:=by omega
     have Zz:Hid (∀u:World,(∀b,b=w.heap.size∨b=nb∨b=kb∨b=g∨b=ob->u.heap[b]? =wr.heap[b]?)->u.cell? ⟨ob,3,none⟩=some (.int .i64 uu)∧u.cell? ⟨ob,4,none⟩=some (.int .i64 cc)∧u.cell? ⟨kb,1,none⟩=some (.slice (some ⟨g,0,none⟩) L.length dc)∧u.cell? ⟨g,i * 7,none⟩=some (.string x.name)∧u.cell? ⟨g,i * 7+5,none⟩=some (.int .i64 x.Zj)∧u.cell? ⟨w.heap.size,0,none⟩=some (.slice (some ⟨nb,no,none⟩) Kj.length cap)∧u.cell? ⟨nb,no+nk * 3+1,none⟩=some (.int .i64 cst)):=fun u hh=> ⟨(World.cell?_of_block (w:=wr) (hh ob (.inr (.inr (.inr (.inr rfl)))))).trans HO.out.c3,(World.cell?_of_block (w:=wr) (hh ob (.inr (.inr (.inr (.inr rfl)))))).trans HO.out.c4,(World.cell?_of_block (w:=wr) (hh kb (.inr (.inr (.inl rfl))))).trans m1,(World.cell?_of_block (w:=wr) (hh g (.inr (.inr (.inr (.inl rfl)))))).trans t0,(World.cell?_of_block (w:=wr) (hh g (.inr (.inr (.inr (.inl rfl)))))).trans t5,(World.cell?_of_block (w:=wr) (hh w.heap.size (.inl rfl))).trans c0,(World.cell?_of_block (w:=wr) (hh nb (.inr (.inl rfl)))).trans hnc⟩
     clear c0 t0 t5 hnc hrc hncs hce hcs hx hxg hxm hxgd hA hAe hnn hnmin e4 HU
     have hwz:w.heap.size < wr.heap.size:=by omega
     have hnz:nb < wr.heap.size:=by omega
     have hoz:ob < wr.heap.size:=hob1
     have hno1:nb≠ob:=by omega
     have hwo1:w.heap.size≠ob:=by omega
     go_upto_region 15 with fail
     clear m1
     refine Qx.rh 12 Zz.out (fun _ _=> rfl) fun wd KD Z_=> ?_
     obtain ⟨⟨_,fo2⟩,fo1⟩:= (HO.out.kept KD).row.row.at (i:=3) (by omega)
     have hobd:= (HO.out.kept KD).row.lt
     refine Qx.tk 0 Z_ ?_
     refine Qx.tk 1 Z_ ?_
     refine Qx.tk 2 Z_ ?_
     refine Qx.tk 3 Z_ ?_
     refine Qx.tk 4 Z_ ?_
     refine Qx.tk 5 Z_ ?_
     refine Qx.tk 6 Z_ ?_
     refine Qx.tk 7 Z_ ?_
     refine Qx.tk 8 Z_ ?_
     refine Qx.tk 9 Z_ ?_
     refine Qx.tk 10 Z_ ?_
     refine Qx.tk 11 Z_ ?_
     refine Qx.nx 12 (fun K hK=> ?_)
     go_simp
     refine hK.out _ _ (fun h=> absurd rfl h) ?_
     clear hK K
     try simp only [Act.put,upA,upB,upC]
     refine Qx.dn ?_
     clear fo1 fo2 hobd
     obtain ⟨W5,hW5⟩: ∃W5,W5=wd.setCell ⟨ob,3,none⟩ (.int .i64 (uu+x.Zj)):= ⟨_,rfl⟩
     rw [<-hW5]
     have HO5:Hid (OutB W2 ob W5 code (.slice av k cv) (uu+x.Zj) cc):=by rw [hW5];exact (HO.out.kept KD).set3 _
     have HW5:Hid (W5.ownsRow W2.heap.size 79 4 (.slice av k cv) k (dResCells (Kk.map R))):=by
      rw [hW5]
      have h:=ownsRow_kept' HW.out KD
      exact (But.set (S:=fun b=> b=ob) (But.of_kept (K_.refl wd)) (p:= ⟨ob,3,none⟩) rfl _).owns h (fun b e e2=> by have:= (h.lt b e).1;omega)
     have HB5:Hid (∀b,b≠ob->b < wr.heap.size->W5.heap[b]? =wr.heap[b]?):=fun b hb hz=> by rw [hW5,Below.heap_setCell _ _ _ _ hb];exact KD.block b hz
     have HS5:Hid (∀u:World,(∀b,b=w.heap.size∨b=nb∨b=kb∨b=g∨b=ob->u.heap[b]? =W5.heap[b]?)->u.cell? ⟨ob,4,none⟩=some (.int .i64 cc)∧u.cell? ⟨kb,1,none⟩=some (.slice (some ⟨g,0,none⟩) L.length dc)∧u.cell? ⟨g,i * 7,none⟩=some (.string x.name)∧u.cell? ⟨g,i * 7+5,none⟩=some (.int .i64 x.Zj)∧u.cell? ⟨w.heap.size,0,none⟩=some (.slice (some ⟨nb,no,none⟩) Kj.length cap)∧u.cell? ⟨nb,no+nk * 3+1,none⟩=some (.int .i64 cst)):=fun u hh=> by
      have ho:=Zz.out wr (fun _ _=> rfl)
      have q: ∀b o,(b=w.heap.size∨b=nb∨b=kb∨b=g)->u.cell? ⟨b,o,none⟩=wr.cell? ⟨b,o,none⟩:=fun b o hb=> (World.cell?_of_block (w:=W5) (hh b (by rcases hb with h | h | h | h;exact .inl h;exact .inr (.inl h);exact .inr (.inr (.inl h));exact .inr (.inr (.inr (.inl h)))))).trans (World.cell?_of_block (w:=wr) (HB5.out b (by rcases hb with h | h | h | h;(rw [h];exact hwo1);(rw [h];exact hno1);(rw [h];exact hkob);(rw [h];exact hgo)) (by rcases hb with h | h | h | h;(rw [h];exact hwz);(rw [h];exact hnz);(rw [h];exact zk);(rw [h];exact hgz))))
      exact ⟨(World.cell?_of_block (w:=W5) (hh ob (.inr (.inr (.inr (.inr rfl)))))).trans HO5.out.c4,(q _ _ (.inr (.inr (.inl rfl)))).trans ho.2.2.1,(q _ _ (.inr (.inr (.inr rfl)))).trans ho.2.2.2.1,(q _ _ (.inr (.inr (.inr rfl)))).trans ho.2.2.2.2.1,(q _ _ (.inl rfl)).trans ho.2.2.2.2.2.1,(q _ _ (.inr (.inl rfl))).trans ho.2.2.2.2.2.2⟩
     have hz5:wr.heap.size<=W5.heap.size:=by rw [hW5,size_setCell];exact KD.size
     clear hW5 KD HO HW Zz Z_
     clear wd
     go_upto_region 16 with fail
     refine Qx.rh 29 HS5.out (fun _ _=> rfl) fun wd KD Z_=> ?_
     refine Qx.tk 0 Z_ ?_
     refine Qx.tk 1 Z_ ?_
     refine Qx.tk 2 Z_ ?_
     refine Qx.tk 3 Z_ ?_
     refine Qx.tk 4 Z_ ?_
     refine Qx.tk 5 Z_ ?_
     refine Qx.tk 6 Z_ ?_
     refine Qx.tk 7 Z_ ?_
     refine Qx.tk 8 Z_ ?_
     refine Qx.tk 9 Z_ ?_
     refine Qx.tk 10 Z_ ?_
     refine Qx.tk 11 Z_ ?_
     refine Qx.tk 12 Z_ ?_
     refine Qx.tk 13 Z_ ?_
     refine Qx.tk 14 Z_ ?_
     refine Qx.tk 15 Z_ ?_
     refine Qx.tk 16 Z_ ?_
     refine Qx.tk 17 Z_ ?_
     refine Qx.tk 18 Z_ ?_
     refine Qx.tk 19 Z_ ?_
     refine Qx.tk 20 Z_ ?_
     refine Qx.nx 21 (fun K hK=> ?_)
     rw [if_pos (by rfl)]
     go_simp
     go_at_call 44
     have KwD:K_ w wd:= (HC.out W5 HO5.out.but).2.2.1.trans KD
     refine (l2At_place wd (some ⟨nb,no,none⟩) cap Kj x.name hwl (hN.kept KwD)).mono ?_
     rintro e w6 ⟨⟨r,rfl,hr⟩,k6⟩
     rw [HPl.out r hr]
     have K6:=KD.trans k6
     have hw6: ∀b,b=w.heap.size∨b=nb∨b=kb∨b=g∨b=ob->w6.heap[b]? =W5.heap[b]? :=fun b hb=> K6.block b (by omega)
     have hnki: (nk:Int) < (Kj.length:Int):=by omega
     clear hr
     dsimp only
     refine hK.out _ _ (fun _=> HS5.out _ hw6) ?_
     clear hK K Z_
     try simp only [Act.put,upA,upB,upC]
     have Z_:=HS5.out _ hw6
     refine Qx.tk 22 Z_ ?_
     refine Qx.tk 23 Z_ ?_
     refine Qx.tk 24 Z_ ?_
     refine Qx.tk 25 Z_ ?_
     refine Qx.tk 26 Z_ ?_
     refine Qx.tk 27 Z_ ?_
     refine Qx.tk 28 Z_ ?_
     obtain ⟨⟨_,fo2⟩,fo1⟩:= (HO5.out.kept K6).row.row.at (i:=4) (by omega)
     have hobd:= (HO5.out.kept K6).row.lt
     refine Qx.nx 29 (fun K hK=> ?_)
     go_simp
     refine hK.out _ _ (fun h=> absurd rfl h) ?_
     clear hK K
     try simp only [Act.put,upA,upB,upC]
     refine Qx.dn ?_
     have HO6:Hid (OutB W2 ob (w6.setCell ⟨ob,4,none⟩ (.int .i64 (cc+x.Zj * cst))) code (.slice av k cv) (uu+x.Zj) (cc+x.Zj * cst)):= (HO5.out.kept K6).set4 _
     have HW6:Hid ((w6.setCell ⟨ob,4,none⟩ (.int .i64 (cc+x.Zj * cst))).ownsRow W2.heap.size 79 4 (.slice av k cv) k (dResCells (Kk.map R))):=by
      have h:=ownsRow_kept' HW5.out K6
      exact (But.set (S:=fun b=> b=ob) (But.of_kept (K_.refl w6)) (p:= ⟨ob,4,none⟩) rfl _).owns h (fun b e e2=> by have:= (h.lt b e).1;omega)
     clear fo1 fo2 hobd Z_
     go_wp2
     go_roundw
     case rel=> exact ⟨i+1,uu+x.Zj,cc+x.Zj * cst,by omega,by go_num,HUn,HO6,HW6⟩
     case measure=> simp [intOf];omega
    ·have hni: ¬((i:Int) < (L.length:Int)):=by omega
     have hie:i=L.length:=by omega
     have HUe:Hid (uu=unitsX L∧cc=costX (Q_ Kj) L):=by have h:=HU.out;rw [hie,List.take_length] at h;exact h
     have HRs:Hid (Ress wr av (Kk.map R)):=by
      obtain ⟨a9,c9,e9,h9⟩:=owned_ress HW.out
      simp only [Value.slice.injEq] at e9
      rw [e9.1]
      exact h9
     have HRl:Hid ((Kk.map R).length=k):=by show _=_;rw [List.length_map];exact HKe.out.symm
     have o0:=HO.out.c0
     have hob1:=HO.out.row.lt
     have HSrt:=Kz HOc.out.sorted
     clear hil hie HU HW hi
     rcases HCd.out with ⟨hcd,hno⟩ | ⟨hcd,hyes⟩
     ·subst hcd
      have HN0:=Kz hno
      have o1:=HO.out.c1
      have o2:=HO.out.c2
      have o3:=HO.out.c3
      have o4:=HO.out.c4
      have HTo:Hid (CleanAns Kj Kk ⟨0,Kk.map R,[],uu,cc⟩):= ⟨⟨by rw [HRl.out];have:=HKe.out;omega,Nat.zero_le _⟩,.inl ⟨HWb.out,HY.out,_,HSrt.out.1,by rw [HSrt.out.2.1,HRx.out],by rw [HSrt.out.2.2.1];exact HUe.out.1,by rw [HSrt.out.2.2.2];exact HUe.out.2,.inl ⟨HN0.out,rfl,rfl⟩⟩⟩
      clear hno
      obtain ⟨⟨_,fa0⟩,fb0⟩:=HRr.out.row.at (i:=0) (by omega)
      obtain ⟨⟨_,fa1⟩,fb1⟩:=HRr.out.row.at (i:=1) (by omega)
      obtain ⟨⟨_,fa2⟩,fb2⟩:=HRr.out.row.at (i:=2) (by omega)
      obtain ⟨⟨_,fa3⟩,fb3⟩:=HRr.out.row.at (i:=3) (by omega)
      obtain ⟨⟨_,fa4⟩,fb4⟩:=HRr.out.row.at (i:=4) (by omega)
      have hrz:=HRr.out.lt
      go_wp2
      have hX:=World.rangeAt_setCells_same wr (w.heap.size+1) 0 [.int .i64 0,.slice av k cv,.slice none 0 0,.int .i64 uu,.int .i64 cc] (HRr.out.row.there (o:=0) (m:=5) (Nat.le_refl _))
      refine X_ [.int .i64 0,.slice av k cv,.slice none 0 0,.int .i64 uu,.int .i64 cc] _ Tryz.results19 rfl hX Tryz.underlying33 rfl Tryz.sizeOutcome5 rfl ⟨_,av,none,cv,0, ?_,HTo.out, ?_, ?_, ?_⟩
      ·show Ending.returned _=Ending.returned _;rw [HRl.out];try rfl
      ·exact ress_sets_no (vs:=[.int .i64 0,.slice av k cv,.slice none 0 0,.int .i64 uu,.int .i64 cc]) HRs.out HNr.out
      ·exact (fun i hi=> by cases hi)
      ·exact kept_sets (g:=w.heap.size+1) (by omega) [.int .i64 0,.slice av k cv,.slice none 0 0,.int .i64 uu,.int .i64 cc] 0 HKw.out
     ·subst hcd
      have HY0:=Kz hyes
      clear hyes
      have Zz:Hid (∀u,K_ wr u->u.cell? ⟨w.heap.size,0,none⟩=some (.slice a Kj.length cap)∧u.cell? ⟨kb,1,none⟩=some (.slice d L.length dc)):=fun u K=> ⟨(K.cell (by omega)).trans c0,(K.cell zk).trans m1⟩
      have hLs: (L.foldl insX []).length<=60:=Nat.le_trans HSrt.out.1.1.len hwl6
      have hwz:w.heap.size < wr.heap.size:=by omega
      go_upto_region 18 with fail
      clear c0 m1 o0
      refine Qx.rg 9 Zz.out fun wd KD Z_=> ?_
      refine Qx.tk 0 Z_ ?_
      refine Qx.tk 1 Z_ ?_
      refine Qx.tk 2 Z_ ?_
      refine Qx.tk 3 Z_ ?_
      refine Qx.tk 4 Z_ ?_
      refine Qx.tk 5 Z_ ?_
      refine Qx.nx 6 (fun K hK=> ?_)
      rw [if_pos (by rfl)]
      go_simp
      go_at_call 46
      refine (stateX_any wd rb ro rc Kk d dc L hrl1 (by omega) (fun r hr=> by have h1:= (HOc.out.all r hr).tl;have h2:= (HOc.out.all r hr).hi;omega) (fun k=> by have:=take_foldl_len L k;omega) (hR.kept (HKw.out.trans KD)) (HZr.out.runs.kept KD)).mono ?_
      rintro e w6 ⟨sa,sc,td,tc,zs,rfl,hsO,htO,hPk,k6⟩
      have K6:=KD.trans k6
      have HRu:Hid (RunsX w6 td (L.foldl insX [])):=by
       obtain ⟨_,a8,c8,e8,h8⟩:=PackedX.runs htO hPk (K_.refl _)
       simp only [Value.slice.injEq,true_and] at e8
       rw [<-e8.1] at h8
       exact h8.runs
      clear hsO htO hPk
      dsimp only
      refine hK.out _ _ (fun _=> Zz.out _ K6) ?_
      clear hK K Z_
      try simp only [Act.put,upA,upB,upC]
      refine Qx.nx 7 (fun K hK=> ?_)
      rw [if_pos (by rfl)]
      go_simp
      go_at_call 45
      refine (l6Circle_any w6 a cap Kj sa Kk.length sc td tc (L.foldl insX []) hwl (by omega) hok HSrt.out.1.1 (hN.kept (HKw.out.trans K6)) HRu.out).mono ?_
      rintro e w7 ⟨fa,fc,chn,rfl,hnc,hch,hBR,k7⟩
      have K7:=K6.trans k7
      dsimp only
      refine hK.out _ _ (fun _=> Zz.out _ K7) ?_
      clear hK K
      try simp only [Act.put,upA,upB,upC]
      have Z_:=Zz.out _ K7
      refine Qx.tk 8 Z_ ?_
      obtain ⟨⟨_,fo2⟩,fo1⟩:= (HO.out.kept K7).row.row.at (i:=2) (by omega)
      have hobd:= (HO.out.kept K7).row.lt
      refine Qx.nx 9 (fun K hK=> ?_)
      go_simp
      refine hK.out _ _ (fun h=> absurd rfl h) ?_
      clear hK K
      try simp only [Act.put,upA,upB,upC]
      refine Qx.dn ?_
      clear Z_
      have HO7:=Kz (HO.out.kept K7)
      have HTo:Hid (CleanAns Kj Kk ⟨1,Kk.map R,chn,uu,cc⟩):= ⟨⟨by rw [HRl.out];have:=HKe.out;omega,by
       have h1:=hBR.len waits_name
       rw [List.length_map] at h1
       show chn.length<=60
       omega⟩,.inl ⟨HWb.out,HY.out,_,HSrt.out.1,by rw [HSrt.out.2.1,HRx.out],by rw [HSrt.out.2.2.1];exact HUe.out.1,by rw [HSrt.out.2.2.2];exact HUe.out.2,.inr ⟨HY0.out,rfl,hBR.circ waits_name⟩⟩⟩
      have HCh:=Kz (strs_set_no (g:=ob) (o:=2) (v:= .slice fa chn.length fc) hch HO7.out.no)
      have HRs7:=Kz (ress_set_no (g:=ob) (o:=2) (v:= .slice fa chn.length fc) (HRs.out.kept K7) HO7.out.no)
      have HRr7:Hid (RowT (w7.setCell ⟨ob,2,none⟩ (.slice fa chn.length fc)) (w.heap.size+1) 33 5):= (HRr.out.kept K7).block (Below.heap_setCell _ _ _ _ (by show w.heap.size+1≠ob;omega))
      have HNr7:Hid (NoStr (w7.setCell ⟨ob,2,none⟩ (.slice fa chn.length fc)) (w.heap.size+1)):=fun o s e=> HNr.out.kept HRr.out.lt K7 o s ((Zk (by omega)).symm.trans e)
      have HK7:Hid (K_ w (w7.setCell ⟨ob,2,none⟩ (.slice fa chn.length fc))):= (HKw.out.trans K7).setCell (by show w.heap.size<=ob;omega) _
      have ⟨q0,q1,q3,q4⟩: (w7.setCell ⟨ob,2,none⟩ (.slice fa chn.length fc)).cell? ⟨ob,0,none⟩=some (.int .i64 1)∧(w7.setCell ⟨ob,2,none⟩ (.slice fa chn.length fc)).cell? ⟨ob,1,none⟩=some (.slice av k cv)∧(w7.setCell ⟨ob,2,none⟩ (.slice fa chn.length fc)).cell? ⟨ob,3,none⟩=some (.int .i64 uu)∧(w7.setCell ⟨ob,2,none⟩ (.slice fa chn.length fc)).cell? ⟨ob,4,none⟩=some (.int .i64 cc):= ⟨miss HO7.out.c0 (by decide),miss HO7.out.c1 (by decide),miss HO7.out.c3 (by decide),miss HO7.out.c4 (by decide)⟩
      have q2: (w7.setCell ⟨ob,2,none⟩ (.slice fa chn.length fc)).cell? ⟨ob,2,none⟩=some (.slice fa chn.length fc):=set_hit HO7.out.row.row (by omega) _
      have hob7:ob < (w7.setCell ⟨ob,2,none⟩ (.slice fa chn.length fc)).heap.size:=by rw [size_setCell];exact HO7.out.row.lt
      obtain ⟨W8,hW8⟩: ∃W8,W8=w7.setCell ⟨ob,2,none⟩ (.slice fa chn.length fc):= ⟨_,rfl⟩
      rw [<-hW8] at HCh HRs7 HRr7 HNr7 HK7 q0 q1 q2 q3 q4 hob7⊢
      clear hnc hch hBR HO7 hW8 fo1 fo2 hobd
      obtain ⟨⟨_,fa0⟩,fb0⟩:=HRr7.out.row.at (i:=0) (by omega)
      obtain ⟨⟨_,fa1⟩,fb1⟩:=HRr7.out.row.at (i:=1) (by omega)
      obtain ⟨⟨_,fa2⟩,fb2⟩:=HRr7.out.row.at (i:=2) (by omega)
      obtain ⟨⟨_,fa3⟩,fb3⟩:=HRr7.out.row.at (i:=3) (by omega)
      obtain ⟨⟨_,fa4⟩,fb4⟩:=HRr7.out.row.at (i:=4) (by omega)
      have hrz:=HRr7.out.lt
      go_wp2
      have hX:=World.rangeAt_setCells_same W8 (w.heap.size+1) 0 [.int .i64 1,.slice av k cv,.slice fa chn.length fc,.int .i64 uu,.int .i64 cc] (HRr7.out.row.there (o:=0) (m:=5) (Nat.le_refl _))
      refine X_ [.int .i64 1,.slice av k cv,.slice fa chn.length fc,.int .i64 uu,.int .i64 cc] _ Tryz.results19 rfl hX Tryz.underlying33 rfl Tryz.sizeOutcome5 rfl ⟨_,av,fa,cv,fc, ?_,HTo.out, ?_, ?_, ?_⟩
      ·show Ending.returned _=Ending.returned _;rw [HRl.out];try rfl
      ·exact ress_sets_no (vs:=[.int .i64 1,.slice av k cv,.slice fa chn.length fc,.int .i64 uu,.int .i64 cc]) HRs7.out HNr7.out
      ·exact strs_sets_no (vs:=[.int .i64 1,.slice av k cv,.slice fa chn.length fc,.int .i64 uu,.int .i64 cc]) HCh.out HNr7.out
      ·exact kept_sets (g:=w.heap.size+1) (by omega) [.int .i64 1,.slice av k cv,.slice fa chn.length fc,.int .i64 uu,.int .i64 cc] 0 HK7.out
