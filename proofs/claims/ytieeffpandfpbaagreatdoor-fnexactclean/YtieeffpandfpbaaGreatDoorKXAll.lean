import Derived.Test.YtieeffpandfpbaaGreatDoorKBReady
import Derived.Test.YtieeffpandfpbaaGreatDoorKBIn
import Derived.OwnWalkIn
import Derived.Test.YtieeffpandfpbaaGreatDoorKXAll0
import Derived.Deep.MidRow
set_option maxRecDepth 100000
set_option maxHeartbeats 25600000
namespace Go.Proofs.YtieeffpandfpbaaGreatDoor
open Go.RowKit
def ApartB (w:World) (bb mb:Nat) (ts:List Zx) (f:ByteArray->Value) (k:Nat):Prop:=k < w.heap.size∧k≠bb∧k≠mb∧(∀t∈ts,k≠t.tb∧k∉t.own)∧∀s,(f s).ownBlock≠some k
theorem Fen.apart {G:Ghost} {w:World} {bb mb:Nat} {ts:List Zx} {f:ByteArray->Value} (h:Fen G w bb mb ts f) {k:Nat} (hk:G.K k):ApartB w bb mb ts f k:=
 ⟨Nat.lt_of_lt_of_le (h.lt k hk) h.size,fun e=> h.nb (by rw [<-e];exact hk),fun e=> h.nm (by rw [<-e];exact hk),fun t ht=> ⟨fun e=> (h.nt t ht).1 (by rw [<-e];exact hk),fun hx=> (h.nt t ht).2 k hx hk⟩,fun s hs=> h.nf s k hs hk⟩
theorem box1 {w w1:World} {v:Value} {t:TypeId} (k:K_ (w.alloc (.cells #[v] t)) w1):w1.cell? ⟨w.heap.size,0,none⟩=some v∧w1.frozen? ⟨w.heap.size,0,none⟩=false∧TypeAt w1 w.heap.size t:=by
 have hlt:w.heap.size < (w.alloc (.cells #[v] t)).heap.size:=by simp
 exact ⟨(k.cell hlt).trans (by simp),(k.rules.2 _ _ hlt).trans (by simp),#[v],_,(k.block _ hlt).trans (World.alloc_heap_new w _)⟩
theorem box2 {w w1:World} {v0 v1:Value} {t:TypeId} (k:K_ (w.alloc (.cells #[v0,v1] t)) w1):w1.cell? ⟨w.heap.size,0,none⟩=some v0∧w1.cell? ⟨w.heap.size,1,none⟩=some v1:=by
 have hlt:w.heap.size < (w.alloc (.cells #[v0,v1] t)).heap.size:=by simp
 constructor
 ·rw [k.cell hlt];simp
 ·rw [k.cell hlt];simp
def nsOf (ts:List Zx):List ByteArray:=ts.map fun t=> t.r.name
def psOf (ts:List Zx):List (Nat×ByteArray):=ts.map fun t=> (t.tb,t.r.name)
def tbOf (ts:List Zx) (i:Nat):Nat:= (ts.map fun t=> t.tb).getD i 0
def potE (Kj:List Qq) (ts:List Zx):Nat:=potAll (Kj.map (·.name)) (Qj (Qk ts))
section
variable {B : Nat} {Kf Kc : Nat -> Prop} {W0 : World} {Kj : List Qq} {wz W W' : World} {bb : Nat} {a : Option Addr} {cap : Nat} {rd : Option Addr} {rn rc : Nat} {mb mx : Nat} {ts0 ts : List Zx} {d0 d : Option Addr} {dc : Nat} {f : ByteArray -> Value} {ws : ByteArray -> List Nat}
theorem put_cell {l c o:Nat} (o':Obj) (h:c≠l): (W.putObj l o').cell? ⟨c,o,none⟩=W.cell? ⟨c,o,none⟩:=World.cell?_of_block (w:=W) (World.putObj_heap_other h)
theorem put_frozen {l c o:Nat} (o':Obj) (h:c≠l): (W.putObj l o').frozen? ⟨c,o,none⟩=W.frozen? ⟨c,o,none⟩:=World.frozen?_of_block (w:=W) (World.putObj_heap_other h)
theorem InB.task (h:InB B Kf Kc (psOf ts0) W0 Kj wz W bb a cap rd rn rc mb mx ts d dc f ws) {i:Nat} (hi:i < ts0.length): ∃(j:Nat) (t:Zx),ts[j]? =some t∧t.tb=tbOf ts0 i∧t.r.name= (nsOf ts0).getD i ByteArray.empty:=by
 obtain ⟨t,ht,h1,h2⟩:=h.bm.oth.has (ts0[i].tb,ts0[i].r.name) (List.mem_map.2 ⟨ts0[i],List.getElem_mem hi,rfl⟩)
 obtain ⟨j,hj⟩:=List.getElem?_of_mem ht
 exact ⟨j,t,hj,by rw [h1];simp [tbOf,List.getD,hi],by rw [h2];simp [nsOf,List.getD,hi]⟩
theorem InB.row (h:InB B Kf Kc (psOf ts0) W0 Kj wz W bb a cap rd rn rc mb mx ts d dc f ws) {base dc0:Nat} (ho:W0.ownsRow base 125 1 (.slice d0 ts0.length dc0) ts0.length (ts0.map Zx.ptr)) (hK: ∀g,d0=some ⟨g,0,none⟩->Kf g) {i:Nat} (hi:i < ts0.length): ∃g,d0=some ⟨g,0,none⟩∧W.cell? ⟨g,i,none⟩=some (.pointer (some ⟨tbOf ts0 i,0,none⟩)):=by
 rcases ho.2 with ⟨e,_⟩ | ⟨g,cp,cur,e,_⟩
 ·exfalso
  simp only [Value.slice.injEq] at e
  omega
 ·simp only [Value.slice.injEq] at e
  obtain ⟨rfl,_,rfl⟩:=e
  refine ⟨g,rfl, ?_⟩
  have hc:=ho.cells (g:=g) rfl i (ts0[i]).ptr (by simp [hi])
  have e1:W.cell? ⟨g,i,none⟩=W0.cell? ⟨g,i,none⟩:=World.cell?_of_block (w:=W0) (h.same g (hK g rfl))
  rw [e1]
  have e2: ((⟨g,0,none⟩:Addr).add i)= ⟨g,i,none⟩:=by simp [Addr.add];omega
  rw [e2] at hc
  rw [hc]
  simp [Zx.ptr,tbOf,List.getD,hi]
theorem BS.can (h:BS Kj ts ws) {t:Zx} (ht:t∈ts):CanGo (Q_ Kj) (Qj (Qk ts)) t.r↔t.r.over=false∧t.op=0:=by
 obtain ⟨A,hA,_⟩:= (h.good.good t.r (List.mem_map_of_mem ht)).act
 rw [canGo_iff (by rw [hA];rfl),h.op t ht,List.length_eq_zero_iff]
theorem InB.sees (h:InB B Kf Kc (psOf ts0) W0 Kj wz W bb a cap rd rn rc mb mx ts d dc f ws) (hS:BS Kj ts ws) {base dc0:Nat} (ho:W0.ownsRow base 125 1 (.slice d0 ts0.length dc0) ts0.length (ts0.map Zx.ptr)) (hK: ∀g,d0=some ⟨g,0,none⟩->Kf g) {i:Nat} (hi:i < ts0.length):
  (SeesV d0 (tbOf ts0) i W∧ReadyX (Q_ Kj) (Qj (Qk ts)) ((nsOf ts0).getD i ByteArray.empty))∨(SeesN d0 (tbOf ts0) i W∧¬ReadyX (Q_ Kj) (Qj (Qk ts)) ((nsOf ts0).getD i ByteArray.empty)):=by
 obtain ⟨g,e,hc⟩:=h.row ho hK hi
 obtain ⟨j,t,hj,h1,h2⟩:=h.task hi
 have ht:t∈ts:=List.mem_of_getElem? hj
 have hT:=h.bm.task t ht
 have c1:W.cell? ⟨t.tb,1,none⟩=some (.bool t.r.over):=hT.rng 1 _ rfl
 have c9:W.cell? ⟨t.tb,9,none⟩=some (.int .i64 (t.op:Int)):=hT.rng 9 _ rfl
 have he:Qj (Qk ts) t.r.name=some t.r:=asc_env h.bm.asc (List.mem_map_of_mem ht)
 rw [h1] at c1 c9
 rw [h2] at he
 have hcan:=hS.can ht
 by_cases hg:CanGo (Q_ Kj) (Qj (Qk ts)) t.r
 ·obtain ⟨g1,g2⟩:=hcan.1 hg
  rw [g1] at c1
  rw [g2] at c9
  exact .inl ⟨⟨g,e,hc,c1,c9⟩,⟨t.r,he,hg⟩⟩
 ·refine .inr ⟨⟨g,e,hc, ?_⟩,fun ⟨r,hr,hg'⟩=> ?_⟩
  ·cases hov:t.r.over with
   | true=> left;rw [c1,hov]
   | false=>
    right
    refine ⟨by rw [c1,hov],t.op,fun h0=> hg (hcan.2 ⟨hov,h0⟩),c9⟩
  ·rw [he] at hr
   cases hr
   exact hg hg'
def ApI (B:Nat) (Kf Kc:Nat->Prop) (W0:World) (Kj:List Qq) (wz:World) (bb:Nat) (a:Option Addr) (cap:Nat) (rd:Option Addr) (rn rc:Nat) (mb:Nat) (ts0:List Zx) (Gl σ0:Env) (c:Nat) (i:Nat) (W:World):Prop:=
 ∃(mx:Nat) (ts:List Zx) (d:Option Addr) (dc:Nat) (f:ByteArray->Value) (ws:ByteArray->List Nat) (b:Bool),
  InB B Kf Kc (psOf ts0) W0 Kj wz W bb a cap rd rn rc mb mx ts d dc f ws∧BS Kj ts ws∧PassX Kj Gl σ0 (Qj (Qk ts0)) (nsOf ts0) (Qj (Qk ts)) i b∧mx+6 * potE Kj ts<=9000∧W.cell? ⟨c,0,none⟩=some (.bool b)∧W.frozen? ⟨c,0,none⟩=false
theorem ApI.calm {Gl σ0:Env} {c i:Nat} (hc:Kc c):Calm B (ApI B Kf Kc W0 Kj wz bb a cap rd rn rc mb ts0 Gl σ0 c i):=by
 constructor
 ·rintro W o hB ⟨mx,ts,d,dc,f,ws,b,h1,h2,h3,h4,h5,h6⟩
  have hlt:c < W.heap.size:=h1.bm.oth.lt c (.inr hc)
  exact ⟨mx,ts,d,dc,f,ws,b,h1.kept ((K_.refl W).alloc o),h2,h3,h4,(((K_.refl W).alloc o).cell hlt).trans h5,(((K_.refl W).alloc o).rules.2 c 0 hlt).trans h6⟩
 ·rintro W l o o' hl ho hn ⟨mx,ts,d,dc,f,ws,b,h1,h2,h3,h4,h5,h6⟩
  have hlt:=h1.lt c (.inr hc)
  exact ⟨mx,ts,d,dc,f,ws,b,h1.calm o' hl ho hn,h2,h3,h4,(put_cell o' (by omega)).trans h5,(put_frozen o' (by omega)).trans h6⟩
theorem calm_false (B:Nat):Calm B (fun _=> False):= ⟨fun _ _ _ h=> h,fun _ _ _ _ _ _ _ h=> h⟩
theorem BM.far {G:Ghost} (h:BM G Kj wz W bb a cap rd rn rc mb mx ts d dc f ws) {k:Nat} (hk:W.heap.size<=k):k≠bb∧k≠mb∧(∀t∈ts,k≠t.tb∧k∉t.own)∧∀s,(f s).ownBlock≠some k:=by
 have h1:=h.row.lt
 obtain ⟨N,D,_,hM,_⟩:=h.map
 obtain ⟨es,clock,hb,_⟩:=hM
 have h2:=heap_lt hb
 refine ⟨by omega,by omega,fun t ht=> ⟨?_,fun hx=> ?_⟩,fun s hs=> ?_⟩
 ·have:= (h.task t ht).row.lt;omega
 ·have:= ((h.task t ht).own_type hx).2.2;omega
 ·have:= ((h.wrow s).lt k hs).2;omega
theorem BM.apart {G:Ghost} (h:BM G Kj wz W bb a cap rd rn rc mb mx ts d dc f ws) {k:Nat} (hk:d=some ⟨k,0,none⟩):k < W.heap.size∧k≠bb∧k≠mb∧(∀t∈ts,k≠t.tb∧k∉t.own)∧∀s,(f s).ownBlock≠some k:=by
 subst hk
 have ho: (Value.slice (some ⟨k,0,none⟩) ts.length dc).ownBlock=some k:=rfl
 have ht:=Yz h.items ho
 obtain ⟨N,D,_,hM,_⟩:=h.map
 refine ⟨(h.items.lt k ho).2,type_ne ht h.row.type (by decide),map_ne hM ht,fun t hm=> ⟨type_ne ht (h.task t hm).row.type (by decide),fun hx=> type_ne ht ((h.task t hm).own_type hx).1 (by decide) rfl⟩,fun s hs=> h.isep s k hs ho⟩
end
open Go.RowKit Go.Shelf
attribute [local go_sem] Oper.semAt_some
section
variable {Kj : List Qq} {wz w w' : World} {bb : Nat} {a : Option Addr} {cap : Nat} {rd : Option Addr} {rn rc : Nat} {mb mx : Nat} {ts : List Zx} {d : Option Addr} {dc : Nat} {f : ByteArray -> Value} {ws : ByteArray -> List Nat}
end
section
variable {G : Ghost} {Kj : List Qq} {wz w w' : World} {bb : Nat} {a : Option Addr} {cap : Nat} {rd : Option Addr} {rn rc : Nat} {mb mx : Nat} {ts : List Zx} {d : Option Addr} {dc : Nat} {f : ByteArray -> Value} {ws : ByteArray -> List Nat}
theorem BM.item (h:BM G Kj wz w bb a cap rd rn rc mb mx ts d dc f ws) {i:Nat} (hi:i < ts.length): ∃g,d=some ⟨g,0,none⟩∧w.cell? ⟨g,i,none⟩=some (.pointer (some ⟨(ts[i]).tb,0,none⟩)):=by
 have ho:=h.items
 rcases ho.2 with ⟨e,_⟩ | ⟨g,cp,cur,e,_⟩
 ·exfalso
  simp only [Value.slice.injEq] at e
  omega
 ·simp only [Value.slice.injEq] at e
  obtain ⟨rfl,_,rfl⟩:=e
  refine ⟨g,rfl, ?_⟩
  have hc:=ho.cells (g:=g) rfl i (ts[i]).ptr (by simp [hi])
  have e2: ((⟨g,0,none⟩:Addr).add i)= ⟨g,i,none⟩:=by simp [Addr.add];omega
  rw [e2] at hc
  exact hc
theorem BM.sees (h:BM G Kj wz w bb a cap rd rn rc mb mx ts d dc f ws) (hS:BS Kj ts ws) {i:Nat} (hi:i < ts.length): (SeesV d (tbOf ts) i w∧CanGo (Q_ Kj) (Qj (Qk ts)) (ts[i]).r)∨(SeesN d (tbOf ts) i w∧¬CanGo (Q_ Kj) (Qj (Qk ts)) (ts[i]).r):=by
 obtain ⟨g,e,hc⟩:=h.item hi
 have htb:tbOf ts i= (ts[i]).tb:=by simp [tbOf,List.getD,hi]
 have hT:=h.task ts[i] (List.getElem_mem hi)
 have c1:w.cell? ⟨(ts[i]).tb,1,none⟩=some (.bool (ts[i]).r.over):=hT.rng 1 _ rfl
 have c9:w.cell? ⟨(ts[i]).tb,9,none⟩=some (.int .i64 ((ts[i]).op:Int)):=hT.rng 9 _ rfl
 have hcan:=hS.can (List.getElem_mem hi)
 rw [<-htb] at hc c1 c9
 by_cases hg:CanGo (Q_ Kj) (Qj (Qk ts)) (ts[i]).r
 ·obtain ⟨g1,g2⟩:=hcan.1 hg
  rw [g1] at c1
  rw [g2] at c9
  exact .inl ⟨⟨g,e,hc,c1,c9⟩,hg⟩
 ·refine .inr ⟨⟨g,e,hc, ?_⟩,hg⟩
  cases hov: (ts[i]).r.over with
  | true=> left;rw [c1,hov]
  | false=>
   right
   exact ⟨by rw [c1,hov],(ts[i]).op,fun h0=> hg (hcan.2 ⟨hov,h0⟩),c9⟩
end
theorem FinishOk.kept {w wz:World} (h:FinishOk w) (k:K_ w wz):FinishOk wz:=fun W give a cap l kW h1 h2 h3 h4=> h W give a cap l (k.trans kW) h1 h2 h3 h4
theorem GoalX.good {Kj:List Qq} {Kk:List ByteArray} {sl:List Qz} (h:GoalX Kj Kk sl):GoodL Kj sl:=by
 obtain ⟨k,L,hg,_,_,rfl⟩:=h
 exact hg
attribute [local go_sem] Oper.semAt_some
def SeesT (B:Nat) (d:Option Addr) (tx:Nat->ByteArray) (i:Nat) (W:World):Prop:= ∃b o,d=some ⟨b,o,none⟩∧b < B∧W.cell? ⟨b,o+i,none⟩=some (.string (tx i))
theorem values_looks (B Bs:Nat) (d:Option Addr) (dc n:Nat) (tx:Nat->ByteArray) (hn:n<=1048576):
  LooksC Tryz.prog 190 #[.pointer (some ⟨Bs,0,none⟩)] (fun i=> #[.string (tx i)]) (SeesT B d tx) (fun _ _=> False) n (fun W=> W.cell? ⟨Bs,0,none⟩=some (.slice d n dc)):=by
 intro y J Jx W hok hstep h0
 refine callsIn_of_wp Tryz.func190 rfl trivial ?_ rfl
 simp only [Tryz.ntmps190,List.size_toArray,List.length_cons,List.length_nil,Nat.reduceAdd,Nat.reduceSub,Array.replicate_succ,Array.replicate_zero,List.push_toArray,List.append_toArray,List.nil_append,List.cons_append]
 have HS:=Kz hstep
 clear hstep
 gi_wp2
 gi_loopw [7] (fun x wr=> ∃i:Nat,i<=n∧x= .int .i64 i∧J i wr) (fun x _=> n - (intOf x).toNat)
 case atStart=> exact ⟨0,Nat.zero_le _,rfl,h0⟩
 case round=>
  obtain ⟨i,hi,rfl,hJ⟩:=hrel
  by_cases hlt:i < n
  ·rcases HS.out i wr hlt hJ with ⟨⟨b,o,rfl,_,c0⟩,fn,tmps,assign,body,hy,hR⟩ | ⟨h,_⟩
   ·gi_wp2
    refine hR.mono ?_
    rintro e W3 (⟨rfl,hJ3⟩ | ⟨rfl,hJx3⟩)
    ·gi_wp2
     go_roundw
     case rel=> exact ⟨i+1,by omega,by go_num,hJ3⟩
     case measure=> simp [intOf];omega
    ·gi_wp2
     refine bodyPost_ret (results_none rfl _ _ _) rfl ?_
     exact ⟨⟨_,rfl⟩,.inr hJx3⟩
   ·exact h.elim
  ·gi_wp2
   go_end0
   have:i=n:=by omega
   subst this
   exact ⟨⟨_,rfl⟩,.inl hJ⟩
def AqI (w1:World) (c:Nat) (l:List ByteArray) (i:Nat) (W:World):Prop:=
 K_ w1 W∧c < W.heap.size∧∃v:Value,W.cell? ⟨c,0,none⟩=some v∧W.frozen? ⟨c,0,none⟩=false∧W.ownsRow (c+1) 9 1 v (l.take i).length ((l.take i).map Value.string)
theorem AqI.calm {w1:World} {c:Nat} {l:List ByteArray} {i B:Nat} (hw:w1.heap.size<=c) (hc:c < B):Calm B (AqI w1 c l i):=by
 constructor
 ·rintro W o hB ⟨k,hz,v,h1,h2,h3⟩
  have ka:= (K_.refl W).alloc o
  exact ⟨k.trans ka,by rw [World.size_alloc];omega,v,(ka.cell hz).trans h1,(ka.rules.2 c 0 hz).trans h2,(But.of_kept (S:=fun _=> False) ka).owns h3 (fun _ _=> id)⟩
 ·rintro W y o o' hl ho hn ⟨k,hz,v,h1,h2,h3⟩
  have kb:But (fun b=> b=y) W (W.putObj y o'):= ⟨rfl,rfl,rfl,by rw [World.putObj_size];exact Nat.le_refl _,fun b _ e=> World.putObj_heap_other e⟩
  refine ⟨kb.kept k (fun b e=> by rw [e];omega),by rw [World.putObj_size];exact hz,v,(put_cell o' (by omega)).trans h1,(put_frozen o' (by omega)).trans h2,kb.owns h3 (fun b hb e=> ?_)⟩
  have:=type_cells (Yz h3 hb) (by rw [e];exact ho)
  rw [hn] at this
  cases this
theorem cell_calm {B:Nat} {v:Value} {c o:Nat} (hc:c < B):Calm B (fun W=> W.cell? ⟨c,o,none⟩=some v):=by
 constructor
 ·intro W ob hB h1
  obtain ⟨ob',h2,_⟩:=cells_of_cell h1
  exact (((K_.refl W).alloc ob).cell (heap_lt h2)).trans h1
 ·intro W y ob o' hl ho hn h1
  exact (put_cell o' (by omega)).trans h1
theorem seesT_calm {B:Nat} {d:Option Addr} {tx:Nat->ByteArray} {i C:Nat} (h:B<=C):Calm C (SeesT B d tx i):=by
 constructor
 ·rintro W ob hB ⟨b,o,rfl,hb,h1⟩
  exact ⟨b,o,rfl,hb,(cell_calm (Nat.lt_of_lt_of_le hb h)).1 W ob hB h1⟩
 ·rintro W y ob o' hl ho hn ⟨b,o,rfl,hb,h1⟩
  exact ⟨b,o,rfl,hb,(cell_calm (Nat.lt_of_lt_of_le hb h)).2 W y ob o' hl ho hn h1⟩
theorem info_partsS : ∃ic,Tryz.prog.info? 9=some ic∧ic.zero=some (.string ByteArray.empty)∧ic.size=1∧ic.bytes=16:=info_parts Tryz.infoStr
theorem appendSeq_any (w:World) (Bs:Nat) (d:Option Addr) (dc:Nat) (l:List ByteArray) (hn:l.length<=1048576) (hBs:Bs < w.heap.size) (hc:w.cell? ⟨Bs,0,none⟩=some (.slice d l.length dc)) (hS:Strs w d l):
  Calls Tryz.prog 173 #[.slice none 0 0,.func (.func 190) #[] #[.pointer (some ⟨Bs,0,none⟩)]] w fun e w'=> ∃v,e= .returned v∧w'.ownsRow w.heap.size 9 1 v l.length (l.map Value.string)∧K_ w w':=by
 refine (callsIn_wide (n:=9)).1 ?_
 refine callsIn_of_wp_marks Tryz.func173 rfl trivial ?_ rfl
 simp only [Tryz.ntmps173,List.size_toArray,List.length_cons,List.length_nil,Nat.reduceAdd,Nat.reduceSub,Array.replicate_succ,Array.replicate_zero,List.push_toArray,List.append_toArray,List.nil_append,List.cons_append]
 gi_wp2_with fail
 obtain ⟨W0,hW0⟩: ∃W0,w.alloc (.cells #[.slice none 0 0] 25)=W0:= ⟨_,rfl⟩
 rw [hW0]
 have K0:K_ w W0:=by rw [<-hW0];exact (K_.refl _).alloc _
 have z0:W0.heap.size=w.heap.size+1:=by rw [<-hW0];simp
 obtain ⟨q0,q1,_⟩:=box1 (w:=w) (v:= .slice none 0 0) (t:=25) (w1:=W0) (by rw [hW0];exact K_.refl _)
 have hc0:= (K0.cell hBs).trans hc
 obtain ⟨tx,htx⟩: ∃tx:Nat->ByteArray,∀i,tx i=l.getD i ByteArray.empty:= ⟨_,fun _=> rfl⟩
 have HSees:Hid (∀i W,i < l.length->K_ w W->SeesT w.heap.size d tx i W):=fun i W hi K=> by
  obtain ⟨b,o,e,hb,hcc⟩:=hS i hi
  exact ⟨b,o,e,hb,by rw [htx];exact (K.cell hb).trans hcc⟩
 have HTx:=Kz htx
 clear htx
 refine loop_looksC (values_looks w.heap.size Bs d dc l.length tx hn) rfl (enters_of Tryz.func190 (by kernel_rfl) rfl) (cell_calm (by omega)) hc0 (fun _=> rfl)
  (AqI w w.heap.size l) (fun _ _=> False) (fun i=> AqI.calm (Nat.le_refl _) (by omega)) (fun _=> calm_false _)
  ⟨K0,by omega,.slice none 0 0,q0,q1,by rw [List.take_zero];exact World.ownsRow_nil _ _ _ _⟩
  (fun i=> { tmps:= #[.slice none 0 0,.func (.func 190) #[] #[.pointer (some ⟨Bs,0,none⟩)],.pointer (some ⟨w.heap.size,0,none⟩),undef,.slice none 0 0,.string (tx i),.func (.func 190) #[] #[.pointer (some ⟨Bs,0,none⟩)],.string (tx i),undef,undef,undef,undef,undef],defers:=[] }) ?assign ?calm ?step ?done ?stop
 case assign=>
  intro y i W K hK
  gi_wp2
  exact hK
 case calm=> exact fun i=> seesT_calm (by omega)
 case stop=>
  intro D c W _ h _
  exact h.elim
 case step=>
  rintro i W hi ⟨k,hz,v,h1,h2,h3⟩
  refine .inl ⟨HSees.out i W hi k, ?_⟩
  clear h3 h2 h1 v hz k
  clear W
  rintro y W _ ⟨k,hz,v,h1,h2,h3⟩ hzW
  obtain ⟨av,cv,rfl⟩:=own_slice h3
  obtain ⟨us,hus⟩: ∃us,us=l.take i:= ⟨_,rfl⟩
  have hnl:us.length<=1048576:=by rw [hus,List.length_take];omega
  rw [<-hus] at h3 h1
  obtain ⟨nm,hnm⟩: ∃nm,nm=tx i:= ⟨_,rfl⟩
  rw [<-hnm]
  have HNx:Hid (l.take (i+1)=us++ [nm]):=by
   show l.take (i+1)=us++ [nm]
   rw [List.take_succ_eq_append_getElem hi,hus,hnm,HTx.out]
   simp [List.getD,hi]
  have H3:=Kz h3
  clear h3 q0 q1 hc0 hW0 hnm hus
  obtain ⟨ic,hc0,hc1,hc2,hc3⟩:=info_partsS
  have hbw:w.heap.size+1<=W.heap.size:=by omega
  obtain ⟨V,hV⟩: ∃V,V=W.alloc (.cells #[.string nm] 9):= ⟨_,rfl⟩
  have kV:K_ W V:=by rw [hV];exact (K_.refl _).alloc _
  have HKV:=Kz kV
  have HOw:=Kz ((But.of_kept (S:=fun _=> False) kV).owns H3.out (fun _ _=> id))
  have hbz:w.heap.size+1<=V.heap.size:=Nat.le_trans hbw kV.size
  have HNw:Hid (∀j u,([.string nm]:List Value)[j]? =some u->V.cell? ((⟨W.heap.size,0,none⟩:Addr).add j)=some u):=fun j u hu=> by rw [Addr.add_mid,hV];exact Xz W #[.string nm] 9 j u hu
  have HOne:Hid (∀u∈([.string nm]:List Value),u.oneCell'=true):=fun u hu=> by simp only [List.mem_cons,List.not_mem_nil,or_false] at hu;subst hu;rfl
  have HKO:Hid (KeepsOthers W V):=by rw [hV];exact KeepsOthers.alloc _ _
  rw [hV] at HOw HNw hbz
  have HV:=Kz hV
  clear kV hV
  gi_wp2_with (gi_at_builtin;refine wpListIn_append_own _ rfl (.tmp 8) (.tmp 10) 25 rfl (w.heap.size+1) 9 ic _ 1 16 Tryz.underlying25 hc0 hc1 hc2 hc3 rfl (by decide) (.slice av us.length cv) us.length (us.map Value.string) rfl HOw.out ⟨W.heap.size,0,none⟩ 1 1 [.string nm] rfl rfl HNw.out HOne.out (by unfold maxLen;omega) (by omega) hbz ?_;intro v' w9 hown2 hgr _;rw [<-HV.out] at hgr HOw;have hrow: ∀b,(Value.slice av us.length cv).ownBlock=some b->w.heap.size+1<=b:=fun b e=> (HOw.out.lt b e).1;have k69:But (fun b=> (Value.slice av us.length cv).ownBlock=some b) V w9:=But.of_grown hgr (fun b e=> e);have hz6:w.heap.size < V.heap.size:=Nat.lt_of_lt_of_le hz HKV.out.size;have s9:w9.cell? ⟨w.heap.size,0,none⟩=some (.slice av us.length cv):= (k69.cell hz6 (fun e=> by have:=hrow _ e;omega)).trans ((HKV.out.cell hz).trans h1);have f9:w9.frozen? ⟨w.heap.size,0,none⟩=false:= (World.frozen?_of_block (w:=V) (a:= ⟨w.heap.size,0,none⟩) (k69.block w.heap.size hz6 (fun e=> by have:=hrow _ e;omega))).trans ((HKV.out.rules.2 _ _ hz).trans h2);have z9:w.heap.size < w9.heap.size:=Nat.lt_of_lt_of_le hz6 k69.size;have K19:=Kz (k69.kept (k.trans HKV.out) (fun b e=> by have:=hrow b e;omega));have HKO9:=Kz (HKO.out.trans (KeepsOthers.of_grownBy hgr (fun b o e ho=> type_cells (Yz HOw.out e) ho)));have HO9:=Kz hown2;obtain ⟨da2,ac2,rfl⟩:=own_slice hown2;clear hown2 hgr k69 hrow HV HOw)
  have HKF:Hid (KeepsFrom W0.heap.size W (w9.setCell ⟨w.heap.size,0,none⟩ (.slice da2 (us.length+1) ac2))):= (HKO9.out.trans (KeepsOthers.setCell _ _ _)).from _
  refine ⟨HKF.out,K19.out.setCell (Nat.le_refl _) _,by rw [size_setCell];exact z9,_,World.cell?_setCell_same _ _ _ s9,by rw [World.frozen?_setCell];exact f9, ?_⟩
  have HO:w9.ownsRow (w.heap.size+1) 9 1 (.slice da2 (us.length+1) ac2) (us++ [nm]).length ((us++ [nm]).map Value.string):=by rw [List.length_append,List.map_append];exact HO9.out
  rw [HNx.out]
  exact (But.set (S:=fun b=> b=w.heap.size) (But.of_kept (K_.refl w9)) (p:= ⟨w.heap.size,0,none⟩) rfl _).owns HO (fun b e e2=> by have:= (HO.lt b e).1;omega)
 case done=>
  rintro D W hD ⟨k,hz,v,h1,h2,h3⟩ hdef
  rw [List.take_length] at h3
  have hwD:w.heap.size<=D:=by omega
  have kb:But (fun b=> b=D) W (W.putObj D (.deferred none)):= ⟨rfl,rfl,rfl,by rw [World.putObj_size];exact Nat.le_refl _,fun b _ e=> World.putObj_heap_other e⟩
  have HFin:Hid (K_ w (W.putObj D (.deferred none))∧(W.putObj D (.deferred none)).ownsRow w.heap.size 9 1 v l.length (l.map Value.string)):=by
   refine ⟨kb.kept k (fun b e=> by rw [e];exact hwD),owns_base (kb.owns h3 (fun b hb e=> ?_)) (by omega)⟩
   have:=type_cells (Yz h3 hb) (by rw [e];exact hdef)
   cases this
  clear h3 kb
  gi_wp2
  exact ⟨by simp,.inl ⟨_,_,rfl,run_takeDeferred hdef,_,results_tmp rfl _ _ _,v,rfl,HFin.out.2,HFin.out.1⟩⟩
theorem collect_any (w:World) (Bs:Nat) (d:Option Addr) (dc:Nat) (l:List ByteArray) (hn:l.length<=1048576) (hBs:Bs < w.heap.size) (hc:w.cell? ⟨Bs,0,none⟩=some (.slice d l.length dc)) (hS:Strs w d l):
  Calls Tryz.prog 147 #[.func (.func 190) #[] #[.pointer (some ⟨Bs,0,none⟩)]] w fun e w'=> ∃v,e= .returned v∧w'.ownsRow w.heap.size 9 1 v l.length (l.map Value.string)∧K_ w w':=by
 go_enter Tryz.func147,Tryz.ntmps147
 go_wp2_with fail
 refine (appendSeq_any w Bs d dc l hn hBs hc hS).mono ?_
 rintro e w1 ⟨v,rfl,h1,k1⟩
 have H1:=Kz h1
 clear h1
 go_wp2_with fail
 go_ret
 exact ⟨v,rfl,H1.out,k1⟩
theorem values_any (w:World) (d:Option Addr) (n dc:Nat):
  Calls Tryz.prog 166 #[.slice d n dc] w fun e w'=> e= .returned (.func (.func 190) #[] #[.pointer (some ⟨w.heap.size,0,none⟩)])∧w'=w.alloc (.cells #[.slice d n dc] 25):=by
 go_enter Tryz.func166,Tryz.ntmps166
 go_wp2_with fail
 go_ret
 exact ⟨rfl,rfl⟩
theorem Tryz.sizeRun7A : (Tryz.prog.info? 83).map (·.size)=some 7:=by kernel_rfl
def AllEnd (Kj:List Qq) (Kk:List ByteArray) (a:Option Addr) (cap:Nat) (w w':World) (e:Ending):Prop:=
 ∃(kb:Nat) (L:List Qz) (d:Option Addr) (dc:Nat) (xs:List Value),e= .returned (.pointer (some ⟨kb,0,none⟩))∧w.heap.size<=kb∧OutC Kj Kk L false 0∧KnZ w w' w' kb (.slice d L.length dc) a Kj.length cap L d dc xs
structure RowZ (w wr:World) (kb:Nat) (a:Option Addr) (n cap:Nat) (L R nx:List Qz) (d:Option Addr) (dc:Nat) (xs:List Value) (g nc:Nat) (ys:List Value):Prop where
 kn:KnZ w wr wr kb (.slice d R.length dc) a n cap R d dc xs
 own:wr.ownsRow w.heap.size 83 7 (.slice (some ⟨g,0,none⟩) L.length nc) L.length ys
 pack:PackedZ wr ys nx
 ne: (Value.slice d R.length dc).ownBlock≠some g
theorem RowZ.kept {w wr w':World} {kb n cap dc g nc:Nat} {a d:Option Addr} {L R nx:List Qz} {xs ys:List Value} (h:RowZ w wr kb a n cap L R nx d dc xs g nc ys) (k:K_ wr w'):RowZ w w' kb a n cap L R nx d dc xs g nc ys:=
 ⟨(h.kn.kept k).again,ownsRow_kept' h.own k,h.pack.kept k,h.ne⟩
theorem rndI_nx {Kj:List Qq} {L R nx:List Qz} {i:Nat} {b:Bool} (h:RndI Kj L R nx i b):nx.length=L.length∧L.length<=R.length:=by
 obtain ⟨F,hF,_⟩:=h.pre
 exact ⟨h.len,by rw [hF,List.length_append];omega⟩
theorem rndI_at {Kj:List Qq} {L R nx:List Qz} {i:Nat} {b:Bool} (h:RndI Kj L R nx i b) {j:Nat} (hj:j < L.length):R.getD j Qz.zero=L.getD j Qz.zero:=by
 obtain ⟨F,hF,_⟩:=h.pre
 rw [hF]
 simp [List.getD,List.getElem?_append_left hj]
theorem rndI_good {Kj:List Qq} (hok:ActsOk (Q_ Kj)) {L R nx:List Qz} {i:Nat} {b:Bool} (h:RndI Kj L R nx i b) (hg:GoodEnv Kj (Qj L)):GoodEnv Kj (Qj R):=by
 obtain ⟨F,hF,hf⟩:=h.pre
 intro n r hr
 rw [hF,env_appZ] at hr
 cases hL:Qj L n with
 | some x=> rw [hL] at hr;cases hr;exact hg n _ hL
 | none=>
  rw [hL] at hr
  have hm:=env_mem hr
  obtain ⟨e1,e2⟩:=hf r hm.1
  refine ⟨hm.2, ?_⟩
  rw [e1]
  exact fresh_good hok e2
theorem nodup_len {Kj:List Qq} {R:List Qz} (hn: (R.map (·.name)).Nodup) (hw: ∀r∈R,(Q_ Kj r.name).isSome=true):R.length<=Kj.length:=by
 have:=List.Nodup.length_le_of_subset hn (fun n hn=> by
  obtain ⟨r,hr,rfl⟩:=List.mem_map.1 hn
  exact acts_in (hw r hr): ∀n∈R.map (·.name),n∈Kj.map (·.name))
 simpa using this
theorem rndI_len {Kj:List Qq} {L R nx:List Qz} {i:Nat} {b:Bool} (h:RndI Kj L R nx i b) (hT:ClT (Q_ Kj) (Qj L)):R.length<=Kj.length:=by
 refine nodup_len h.dif (fun r hr=> ?_)
 obtain ⟨F,hF,hf⟩:=h.pre
 rw [hF] at hr
 rcases List.mem_append.1 hr with g | g
 ·exact hT.web _ _ (env_getZ h.nd.2 g)
 ·exact (hf r g).2
theorem asked_le {Kj:List Qq} (hok:ActsOk (Q_ Kj)) {σ:Env} (hg:GoodEnv Kj σ) {n:ByteArray} (hin: (Q_ Kj n).isSome=true) {k:Nat} (hc: ∀j,j < k->CanGo (Q_ Kj) σ (againN (Q_ Kj) σ n j).1): (againN (Q_ Kj) σ n k).2.length<=110:=by
 have h1:=againN_len hok hg hin hc
 have h2:=againN_units hok hg hin hc
 omega
theorem owns_form {w:World} {base n c:Nat} {d:Option Addr} {xs:List Value} (h:w.ownsRow base 83 7 (.slice d n c) n xs) (hn:0 < n): ∃g,d=some ⟨g,0,none⟩:=by
 rcases h.2 with ⟨e,h0⟩ | ⟨g,cap,cur,e,_⟩
 ·omega
 ·cases e;exact ⟨g,rfl⟩
theorem l3All_any (w:World) (a:Option Addr) (cap:Nat) (Kj:List Qq) (ra:Option Addr) (rc:Nat) (Kk:List ByteArray) (hwl:Kj.length<=60) (hft: ∀y∈Kj,y.Fits) (hsz:SmallAsks Kj) (hok:ActsOk (Q_ Kj)) (hrl:Kk.length<=10) (hN:Nodes w a Kj) (hR:Strs w ra Kk):
  Calls Tryz.prog 42 #[.agg #[.slice a Kj.length cap],.slice ra Kk.length rc] w fun e w'=> AllEnd Kj Kk a cap w w' e:=by
 obtain ⟨W1,hW1⟩: ∃W1,W1= (w.alloc (.cells #[.slice a Kj.length cap] 37)).alloc (.cells #[.slice a Kj.length cap,.slice none 0 0] 81):= ⟨_,rfl⟩
 have k1:K_ w W1:=by rw [hW1];exact ((K_.refl _).alloc _).alloc _
 obtain ⟨kb,hkb⟩: ∃kb,kb=w.heap.size+1:= ⟨_,rfl⟩
 have hkw:w.heap.size<=kb:=by omega
 have HKn1:Hid (KnownX W1 kb a Kj.length cap none 0 0):=by
  have hr:RowT W1 kb 81 2:=by
   have h:=RowT.made (w.alloc (.cells #[.slice a Kj.length cap] 37)) #[.slice a Kj.length cap,.slice none 0 0] 81
   rw [World.size_alloc] at h
   rw [hW1,hkb]
   exact h
  have h2:=box2 (w:=w.alloc (.cells #[.slice a Kj.length cap] 37)) (v0:= .slice a Kj.length cap) (v1:= .slice none 0 0) (t:=81) (w1:=W1) (by rw [hW1];exact K_.refl _)
  rw [World.size_alloc,<-hkb] at h2
  exact ⟨hr,h2.1,h2.2⟩
 have HZ1:Hid (KnZ w W1 W1 kb (.slice none ([]:List Qz).length 0) a Kj.length cap [] none 0 []):= ⟨k1,But.of_kept (K_.refl _),fun _ e=> (by cases e),HKn1.out,World.ownsRow_nil _ _ _ _,PackedZ.nil _,fun _=> ⟨rfl,rfl⟩⟩
 have HRn:Hid (StrsN W1 (fun b=> b=kb∨(Value.slice none ([]:List Qz).length 0).ownBlock=some b) ra Kk):=fun i hi=> by
  obtain ⟨b,o,ha,hb,hc⟩:=hR i hi
  refine ⟨b,o,ha,Nat.lt_of_lt_of_le hb k1.size, ?_,(k1.cell hb).trans hc⟩
  rintro (e | e)
  ·omega
  ·cases e
 have hb0:= (box1 (w:=w) (v:= .slice a Kj.length cap) (t:=37) (w1:=w.alloc (.cells #[.slice a Kj.length cap] 37)) (K_.refl _)).1
 go_enter Tryz.func42,Tryz.ntmps42
 go_upto_region 2 with fail
 rw [<-hW1,<-hkb]
 clear hW1 hkb hb0
 go_wp2_with fail
 refine (wantZ_any w W1 kb hkw a cap Kj ra rc Kk [] none 0 [] (by omega) (by omega) (by simp) HZ1.out hN HRn.out).mono ?_
 rintro e w1 ⟨rfl,d1,dc1,xs1,hZ⟩
 have HZ:=Kz hZ.again
 clear hZ HZ1 HRn HKn1 k1
 go_wp2_with fail
 go_loopg [6] (potAll (Kj.map (·.name)) (Qj (wantL (Q_ Kj) [] Kk))+1) (fun gg x6 wr=> ∃(ag:Bool) (L:List Qz) (d:Option Addr) (dc:Nat) (xs:List Value),x6= .bool ag∧Hid (OutC Kj Kk L ag gg)∧Hid (KnZ w wr wr kb (.slice d L.length dc) a Kj.length cap L d dc xs))
 case atStart=> exact ⟨true,wantL (Q_ Kj) [] Kk,d1,dc1,xs1,rfl,Kz (OutC.start hok Kk),HZ⟩
 case round=>
  clear HZ
  obtain ⟨ag,L,d,dc,xs,rfl,HO,HZ⟩:=hrel
  have hLl:=Nat.le_trans HO.out.len hwl
  cases ag
  ·have HO0:Hid (OutC Kj Kk L false 0):=by
    have h:=HO.out
    have e:=h.gg
    rw [if_neg (by simp)] at e
    rw [e] at h
    exact h
   go_wp2_with fail
   go_ret
   exact ⟨kb,L,d,dc,xs,rfl,hkw,HO0.out,HZ.out⟩
  have m1:=HZ.out.known.runs
  have zk:=HZ.out.known.row.lt
  by_cases hL0:L.length=0
  ·have hLe:L=[]:=List.length_eq_zero_iff.1 hL0
   subst hLe
   have hd:d=none∧dc=0:=HZ.out.nl rfl
   obtain ⟨rfl,rfl⟩:=hd
   have HKz:Hid (KnZ w (wr.alloc (.cells #[] 83)) (wr.alloc (.cells #[] 83)) kb (.slice none ([]:List Qz).length 0) a Kj.length cap [] none 0 xs):= (HZ.out.kept ((K_.refl _).alloc _)).again
   have HOn:Hid (OutC Kj Kk [] false 0):= ⟨HO.out.nd,HO.out.good,HO.out.led,fun _ n ⟨r,hr,_⟩=> (by cases hr),rfl⟩
   have hgp:0 < gk:=by have e:=HO.out.gg;rw [if_pos rfl] at e;omega
   clear hL0 hLl
   simp only [List.length_nil] at m1
   go_wp2_with fail
   go_loopw [6,9] (fun x6 x9 wq=> x6= .bool false∧x9= .int .i64 0∧wq=wr.alloc (.cells #[] 83)) (fun _ _ _=> 0)
   case atStart=> exact ⟨rfl,rfl,rfl⟩
   case round=>
    obtain ⟨rfl,rfl,rfl⟩:=hrel
    have m2:=HKz.out.known.runs
    have zk2:=HKz.out.known.row.lt
    simp only [List.length_nil] at m2
    go_wp2_with fail
    go_loopw [12] (fun x12 wq=> x12= .int .i64 0∧wq=wr.alloc (.cells #[] 83)) (fun _ _=> 0)
    case atStart=> exact ⟨rfl,rfl⟩
    case round=>
     obtain ⟨rfl,rfl⟩:=hrel
     go_wp2_with fail
     go_roundg 0
     case measure=> exact hgp
     case rel=> exact ⟨false,[],none,0,xs,rfl,HOn,HKz⟩
  have hLp:0 < L.length:=by omega
  obtain ⟨g0,rfl⟩:=owns_form HZ.out.own hLp
  obtain ⟨eb,heb⟩: ∃eb,eb=wr.heap.size:= ⟨_,rfl⟩
  obtain ⟨WE,hWE⟩: ∃WE,WE=wr.alloc (.cells #[] 83):= ⟨_,rfl⟩
  have kE:K_ wr WE:=by rw [hWE];exact (K_.refl _).alloc _
  have HOe:Hid (WE.ownsRow w.heap.size 83 7 (.slice (some ⟨eb,0,none⟩) 0 0) 0 []):=by
   rw [hWE,heb]
   exact World.ownsRow_made wr #[] 0 HZ.out.kw.size (Nat.zero_le _) rfl
  have hzE:WE.heap.size=wr.heap.size+1:=by rw [hWE];simp
  have HZe:=Kz (HZ.out.kept kE).again
  have m1e:=HZe.out.known.runs
  have zke:=HZe.out.known.row.lt
  have hg0:g0 < wr.heap.size:= (HZ.out.own.lt g0 rfl).2
  have hxl:xs.length=L.length * 7:=HZ.out.pack.1
  have HNw:Hid (∀j u,xs[j]? =some u->WE.cell? ((⟨g0,0,none⟩:Addr).add j)=some u):=HZe.out.own.cells rfl
  have HOne:Hid (∀u∈xs,u.oneCell'=true):=HZ.out.pack.one
  obtain ⟨ic,hc0,hc1,hc2,hc3⟩:=xInfo_parts Tryz.xInfoRun
  have hwz:w.heap.size<=WE.heap.size:=Nat.le_trans HZ.out.kw.size kE.size
  have hgk0:eb=wr.heap.size:=heb
  have hge:g0 < eb:=by omega
  have hkbe:kb < wr.heap.size:=zk
  go_upto_region 7 with fail
  go_wp2_with (at_builtin;rw [<-hWE,<-heb];refine wpList_append_lies _ rfl (.tmp 25) (.tmp 29) 39 rfl w.heap.size 83 ic _ 7 80 Tryz.underlying39 hc0 hc1 hc2 hc3 rfl (by decide) (.slice (some ⟨eb,0,none⟩) 0 0) 0 [] rfl HOe.out ⟨g0,0,none⟩ L.length dc xs rfl hxl HNw.out HOne.out hLp (by unfold maxLen;omega) (by omega) hwz (wr.heap.size+1) hzE ?_;intro gn ncap w6 hown6 hgr6 hat6 hlt6;rw [Nat.zero_add,List.nil_append] at hown6;have HOw6:=Kz hown6;have HGr6:=Kz hgr6;have HAt6:=Kz hat6;clear hown6 hgr6 hat6)
  have hgn:g0 < gn:=by
   rcases HAt6.out with e | e
   ·simp only [Value.ownBlock,Option.some.injEq] at e;omega
   ·omega
  have HB6:Hid (But (fun b=> b=eb) WE w6):=But.of_grown HGr6.out (fun b e=> by simp only [Value.ownBlock,Option.some.injEq] at e;exact e.symm)
  have HRz0:Hid (RowZ w w6 kb a Kj.length cap L L L (some ⟨g0,0,none⟩) dc xs gn ncap xs):=by
   have hns: ∀b,b=eb->¬TypeAt WE b 9:=fun b e=> by rw [e];exact run_not_str HOe.out eb rfl
   have hzn:=HZe.out.but HB6.out (fun b e=> by rw [e];have:=HZ.out.kw.size;omega) (fun (e:kb=eb)=> by omega) (fun b e=> by simp only [Value.ownBlock,Option.some.injEq] at e;omega) hns
   exact ⟨hzn,HOw6.out,HZe.out.pack.but HB6.out hns,fun e=> by simp only [Value.ownBlock,Option.some.injEq] at e;omega⟩
  have HR0:Hid (RndI Kj L L L 0 false):=RndI.start HO.out.nd
  have HCl:=Kz HO.out.cl
  have hgnz:w.heap.size<=gn:= (HOw6.out.lt gn rfl).1
  clear m1 hgk0 hge hkbe heb hWE hzE kE HOe HZe m1e zke HNw HOne HOw6 HGr6 HAt6 HB6 hxl zk hg0 hwz hlt6 hgn
  go_wp2_with fail
  go_loopw [6,9] (fun x6 x9 wr=> ∃(i:Nat) (b:Bool) (R nx:List Qz) (d:Option Addr) (dc:Nat) (xs ys:List Value),i<=L.length∧x9= .int .i64 (i:Int)∧x6= .bool b∧Hid (RndI Kj L R nx i b)∧Hid (RowZ w wr kb a Kj.length cap L R nx d dc xs gn ncap ys)) (fun _ x9 _=> L.length - (intOf x9).toNat)
  case atStart=> exact ⟨0,false,L,L,some ⟨g0,0,none⟩,dc,xs,xs,Nat.zero_le _,rfl,rfl,HR0,HRz0⟩
  case round=>
   clear HRz0 HR0 HZ
   obtain ⟨i,b,R,nx,d,dc,xs,ys,hi,rfl,rfl,HRn,HRz⟩:=hrel
   obtain ⟨hnl,hLR⟩:=rndI_nx HRn.out
   have hRl:=Nat.le_trans (rndI_len HRn.out HCl.out) hwl
   obtain ⟨g,rfl⟩:=owns_form HRz.out.kn.own (by omega)
   have m1:=HRz.out.kn.known.runs
   have zk:=HRz.out.kn.known.row.lt
   have hgz:g < wr.heap.size:= (HRz.out.kn.own.lt g rfl).2
   by_cases hlt:i < L.length
   ·have hii: (i:Int) < (L.length:Int):=by omega
    have hiR:i < R.length:=by omega
    have hiRi: (i:Int) < (R.length:Int):=by omega
    obtain ⟨ya,yc,hrg,_,_,_⟩:=HRz.out.kn.pack.at HRz.out.kn.own hiR
    obtain ⟨q,hq⟩: ∃q,q=L.getD i Qz.zero:= ⟨_,rfl⟩
    rw [rndI_at HRn.out hlt,<-hq] at hrg
    have t0:=hrg 0 _ rfl
    have t1:=hrg 1 _ rfl
    have t5:=hrg 5 _ rfl
    rw [Nat.add_zero] at t0
    have HGe:=Kz (rndI_good hok HRn.out HO.out.good)
    have HIn:Hid ((Q_ Kj q.name).isSome=true):=HCl.out.web _ _ (env_getZ HO.out.nd (by rw [hq];exact getD_memZ hlt))
    have HQ:=Kz hq
    clear hrg hq
    go_wp2_with fail
    refine (again_any wr kb a cap Kj (some ⟨g,0,none⟩) dc R q.name (by omega) (by omega) hsz hok hft HGe.out HIn.out HRz.out.kn.known (hN.kept HRz.out.kn.kw) HRz.out.kn.runs).mono ?_
    rintro e w3 ⟨⟨kk,xa,xc,qa,qc,rfl,hc1',hc2',⟨hT1,hx1,hT2⟩,_⟩,k3⟩
    obtain ⟨r',hr'⟩: ∃r',r'= (againN (Q_ Kj) (Qj R) q.name kk).1:= ⟨_,rfl⟩
    obtain ⟨Q,hQq⟩: ∃Q,Q= (againN (Q_ Kj) (Qj R) q.name kk).2:= ⟨_,rfl⟩
    have HNext:Hid (∀b':Bool,b'= (b || decide (r'.Zj≠q.Zj) || decide (r'.over≠q.over))->RndI Kj L (wantL (Q_ Kj) R Q) (nx.set i r') (i+1) b'):=fun b' hb'=> by
     rw [hr',hQq]
     rw [hr'] at hb'
     exact HRn.out.next HCl.out hlt (by rw [HQ.out]) hc1' hc2' (by rw [<-HQ.out];exact hb')
    have HQl:Hid (Q.length<=110):=by show Q.length<=110;rw [hQq];exact asked_le hok HGe.out HIn.out hc1'
    rw [<-hr',<-hQq]
    rw [<-hr'] at hT1
    rw [<-hQq] at hT2
    obtain ⟨W4,hW4⟩: ∃W4,W4=w3.alloc (.cells #[.string r'.name,.bool r'.over,.bool r'.fail,.string r'.text,.int .i64 r'.at',.int .i64 r'.Zj,.slice xa r'.texts.length xc] 83):= ⟨_,rfl⟩
    have k4:K_ w3 W4:=by rw [hW4];exact (K_.refl _).alloc _
    obtain ⟨pb,hpb⟩: ∃pb,pb=w3.heap.size:= ⟨_,rfl⟩
    have HPr:Hid (W4.rangeAt pb 0 (r'.cells xa xc)):=by
     have h:=Xz w3 #[.string r'.name,.bool r'.over,.bool r'.fail,.string r'.text,.int .i64 r'.at',.int .i64 r'.Zj,.slice xa r'.texts.length xc] 83
     rw [<-hW4,<-hpb] at h
     exact fun j u hu=> h j u hu
    have hpz:pb < W4.heap.size:=by rw [hW4,hpb];simp
    have hpw:wr.heap.size<=pb:=by rw [hpb];exact k3.size
    have K4:=k3.trans k4
    have HRz4:=Kz (HRz.out.kept K4)
    have HT1:=Kz (hT1.but (But.of_kept (S:=fun _=> False) k4) (fun _ e=> e.elim))
    have HT2:=Kz (hT2.but (But.of_kept (S:=fun _=> False) k4) (fun _ e=> e.elim))
    have HX1:=Kz hx1
    have p1:W4.cell? ⟨pb,1,none⟩=some (.bool r'.over):=by have:=HPr.out 1 _ rfl;rw [Nat.zero_add] at this;exact this
    have p5:W4.cell? ⟨pb,5,none⟩=some (.int .i64 r'.Zj):=by have:=HPr.out 5 _ rfl;rw [Nat.zero_add] at this;exact this
    have m14:=HRz4.out.kn.known.runs
    have zk4:=HRz4.out.kn.known.row.lt
    have hgz4:g < W4.heap.size:=Nat.lt_of_lt_of_le hgz K4.size
    have s1:= (K4.cell hgz).trans t1
    have s5:= (K4.cell hgz).trans t5
    simp only [Qz.cells]
    clear hT1 hT2 hx1 hc1' hc2' hr' hQq t0 t1 t5 m1 HRz HGe
    go_upto_region 12 with fail
    rw [<-hW4,<-hpb]
    clear hW4 hpb k3 k4 K4
    cases b
    ·by_cases hv:r'.Zj=q.Zj
     ·have hvb: (r'.Zj != q.Zj)=false:=by simp [hv]
      have HNc:=Kz (HNext.out (!r'.over == q.over) (by rw [hv];cases r'.over <;> cases q.over <;> simp))
      clear hv HNext
      go_region
      obtain ⟨wd,hwd⟩: ∃wd,wd=W4.drew:= ⟨_,rfl⟩
      rw [<-hwd]
      have KD:K_ W4 wd:=by rw [hwd];exact (K_.refl _).drew
      have HRzd:=Kz (HRz4.out.kept KD)
      obtain ⟨cs,hcs⟩: ∃cs,cs=r'.cells xa xc:= ⟨_,rfl⟩
      have HCs:=Kz hcs
      have HPd:Hid (wd.rangeAt pb 0 cs):=fun j u hu=> by rw [hcs] at hu;exact (KD.cell hpz).trans (HPr.out j u hu)
      have HSz:Hid ((Tryz.prog.info? 83).map (·.size)=some cs.length):=by rw [hcs];exact Tryz.sizeRun7A
      have HSz2:Hid ((Tryz.prog.info? 83).map (·.size)=some cs.toArray.size):=by rw [hcs];exact Tryz.sizeRun7A
      have HTh:Hid (wd.there gn (i * 7) cs.toArray.size):=by
       obtain ⟨_,_,_,_,_,h⟩:=HRzd.out.pack.at HRzd.out.own (i:=i) (by rw [hnl];exact hlt)
       rw [hcs]
       exact h
      have HOn:Hid (cs.toArray.all (·.oneCell')=true):=by rw [hcs];exact all_oneCell_toArray (Qz.one r' xa xc)
      have hgnd:gn < wd.heap.size:= (HRzd.out.own.lt gn rfl).2
      clear hcs hwd
      go_upto_region 14 with (first | (refine wpList_load_mid rfl 83 (.tmp 10) rfl pb 0 rfl cs _ HPd.out Tryz.underlying83 rfl HSz.out ?_) | (refine wpList_store_mid rfl 83 (.tmp 79) (.tmp 78) rfl gn (i * 7) cs.toArray rfl rfl HTh.out HSz2.out HOn.out ?_;rw [List.toList_toArray]))
      obtain ⟨W5,hW5⟩: ∃W5,W5=wd.setCells gn (i * 7) cs:= ⟨_,rfl⟩
      rw [<-hW5]
      have kb5:But (fun b=> b=gn) wd W5:=by rw [hW5];exact but_cells cs (i * 7) wd
      have hns5: ∀b,b=gn->¬TypeAt wd b 9:=fun b e=> by rw [e];exact run_not_str HRzd.out.own gn rfl
      have HKn5:Hid (KnZ w W5 W5 kb (.slice (some ⟨g,0,none⟩) R.length dc) a Kj.length cap R (some ⟨g,0,none⟩) dc xs):=by rw [hW5];exact HRzd.out.kn.other HRzd.out.own hgnz HRzd.out.ne (i * 7) cs
      have HOw5:Hid (W5.ownsRow w.heap.size 83 7 (.slice (some ⟨gn,0,none⟩) L.length ncap) L.length (ovr ys (i * 7) cs)):=by rw [hW5];exact own_sets cs (i * 7) HRzd.out.own
      have HPk5:Hid (PackedZ W5 (ovr ys (i * 7) cs) (nx.set i r')):=by
       rw [HCs.out]
       refine (HRzd.out.pack.set (by rw [hnl];exact hlt) (HT1.out.but (But.of_kept (S:=fun _=> False) KD) (fun _ e=> e.elim)) HX1.out).but kb5 hns5
      have HT5:Hid (TStrs W5 9 qa Q):= (HT2.out.but (But.of_kept (S:=fun _=> False) KD) (fun _ e=> e.elim)).but kb5 hns5
      have hgn5:gn < W5.heap.size:= (HOw5.out.lt gn rfl).2
      have HNS:Hid (∀b,(b=kb∨(Value.slice (some ⟨g,0,none⟩) R.length dc).ownBlock=some b)->¬TypeAt W5 b 9):=fun b e=> by
       rcases e with e | e
       ·rw [e];exact fun ht=> type_ne HKn5.out.known.row.type ht (by decide) rfl
       ·exact run_not_str HKn5.out.own b e
      have HNe:=Kz HRzd.out.ne
      have HKg:Hid (kb≠gn):=kn_ne HRzd.out.kn.known HRzd.out.own
      clear hW5 kb5 hns5 HRzd HRz4 HPd HSz HSz2 HTh HOn HT1 HT2 HPr hgnd KD p1 p5 m14 s1 s5
      go_wp2_with fail
      refine (wantZ_any w W5 kb hkw a cap Kj qa qc Q R (some ⟨g,0,none⟩) dc xs (by omega) HQl.out (by omega) HKn5.out hN (HT5.out.nst HNS.out)).mono ?_
      rintro e w7 ⟨rfl,d7,dc7,xs7,hZ7⟩
      have HRz7:Hid (RowZ w w7 kb a Kj.length cap L (wantL (Q_ Kj) R Q) (nx.set i r') d7 dc7 xs7 gn ncap (ovr ys (i * 7) cs)):=by
       refine ⟨hZ7.again,hZ7.fr.owns HOw5.out (fun b e=> ?_),HPk5.out.but hZ7.fr HNS.out,fun e=> ?_⟩
       ·simp only [Value.ownBlock,Option.some.injEq] at e
        subst e
        rintro (h | h)
        ·exact HKg.out h.symm
        ·exact HNe.out h
       ·rcases hZ7.nw gn e with h | h
        ·exact HNe.out h
        ·omega
      clear hZ7 HKn5 HOw5 HPk5 HT5 HNS
      go_wp2_with fail
      go_roundw
      case rel=> exact ⟨i+1,_,wantL (Q_ Kj) R Q,nx.set i r',d7,dc7,xs7,_,by omega,by go_num,rfl,HNc,HRz7⟩
      case measure=> simp [intOf];omega
     ·have hvb: (r'.Zj != q.Zj)=true:=by simp [hv]
      have HNc:=Kz (HNext.out true (by simp [hv]))
      clear hv HNext
      go_region
      obtain ⟨wd,hwd⟩: ∃wd,wd=W4.drew:= ⟨_,rfl⟩
      rw [<-hwd]
      have KD:K_ W4 wd:=by rw [hwd];exact (K_.refl _).drew
      have HRzd:=Kz (HRz4.out.kept KD)
      obtain ⟨cs,hcs⟩: ∃cs,cs=r'.cells xa xc:= ⟨_,rfl⟩
      have HCs:=Kz hcs
      have HPd:Hid (wd.rangeAt pb 0 cs):=fun j u hu=> by rw [hcs] at hu;exact (KD.cell hpz).trans (HPr.out j u hu)
      have HSz:Hid ((Tryz.prog.info? 83).map (·.size)=some cs.length):=by rw [hcs];exact Tryz.sizeRun7A
      have HSz2:Hid ((Tryz.prog.info? 83).map (·.size)=some cs.toArray.size):=by rw [hcs];exact Tryz.sizeRun7A
      have HTh:Hid (wd.there gn (i * 7) cs.toArray.size):=by
       obtain ⟨_,_,_,_,_,h⟩:=HRzd.out.pack.at HRzd.out.own (i:=i) (by rw [hnl];exact hlt)
       rw [hcs]
       exact h
      have HOn:Hid (cs.toArray.all (·.oneCell')=true):=by rw [hcs];exact all_oneCell_toArray (Qz.one r' xa xc)
      have hgnd:gn < wd.heap.size:= (HRzd.out.own.lt gn rfl).2
      clear hcs hwd
      go_upto_region 14 with (first | (refine wpList_load_mid rfl 83 (.tmp 10) rfl pb 0 rfl cs _ HPd.out Tryz.underlying83 rfl HSz.out ?_) | (refine wpList_store_mid rfl 83 (.tmp 79) (.tmp 78) rfl gn (i * 7) cs.toArray rfl rfl HTh.out HSz2.out HOn.out ?_;rw [List.toList_toArray]))
      obtain ⟨W5,hW5⟩: ∃W5,W5=wd.setCells gn (i * 7) cs:= ⟨_,rfl⟩
      rw [<-hW5]
      have kb5:But (fun b=> b=gn) wd W5:=by rw [hW5];exact but_cells cs (i * 7) wd
      have hns5: ∀b,b=gn->¬TypeAt wd b 9:=fun b e=> by rw [e];exact run_not_str HRzd.out.own gn rfl
      have HKn5:Hid (KnZ w W5 W5 kb (.slice (some ⟨g,0,none⟩) R.length dc) a Kj.length cap R (some ⟨g,0,none⟩) dc xs):=by rw [hW5];exact HRzd.out.kn.other HRzd.out.own hgnz HRzd.out.ne (i * 7) cs
      have HOw5:Hid (W5.ownsRow w.heap.size 83 7 (.slice (some ⟨gn,0,none⟩) L.length ncap) L.length (ovr ys (i * 7) cs)):=by rw [hW5];exact own_sets cs (i * 7) HRzd.out.own
      have HPk5:Hid (PackedZ W5 (ovr ys (i * 7) cs) (nx.set i r')):=by
       rw [HCs.out]
       refine (HRzd.out.pack.set (by rw [hnl];exact hlt) (HT1.out.but (But.of_kept (S:=fun _=> False) KD) (fun _ e=> e.elim)) HX1.out).but kb5 hns5
      have HT5:Hid (TStrs W5 9 qa Q):= (HT2.out.but (But.of_kept (S:=fun _=> False) KD) (fun _ e=> e.elim)).but kb5 hns5
      have hgn5:gn < W5.heap.size:= (HOw5.out.lt gn rfl).2
      have HNS:Hid (∀b,(b=kb∨(Value.slice (some ⟨g,0,none⟩) R.length dc).ownBlock=some b)->¬TypeAt W5 b 9):=fun b e=> by
       rcases e with e | e
       ·rw [e];exact fun ht=> type_ne HKn5.out.known.row.type ht (by decide) rfl
       ·exact run_not_str HKn5.out.own b e
      have HNe:=Kz HRzd.out.ne
      have HKg:Hid (kb≠gn):=kn_ne HRzd.out.kn.known HRzd.out.own
      clear hW5 kb5 hns5 HRzd HRz4 HPd HSz HSz2 HTh HOn HT1 HT2 HPr hgnd KD p1 p5 m14 s1 s5
      go_wp2_with fail
      refine (wantZ_any w W5 kb hkw a cap Kj qa qc Q R (some ⟨g,0,none⟩) dc xs (by omega) HQl.out (by omega) HKn5.out hN (HT5.out.nst HNS.out)).mono ?_
      rintro e w7 ⟨rfl,d7,dc7,xs7,hZ7⟩
      have HRz7:Hid (RowZ w w7 kb a Kj.length cap L (wantL (Q_ Kj) R Q) (nx.set i r') d7 dc7 xs7 gn ncap (ovr ys (i * 7) cs)):=by
       refine ⟨hZ7.again,hZ7.fr.owns HOw5.out (fun b e=> ?_),HPk5.out.but hZ7.fr HNS.out,fun e=> ?_⟩
       ·simp only [Value.ownBlock,Option.some.injEq] at e
        subst e
        rintro (h | h)
        ·exact HKg.out h.symm
        ·exact HNe.out h
       ·rcases hZ7.nw gn e with h | h
        ·exact HNe.out h
        ·omega
      clear hZ7 HKn5 HOw5 HPk5 HT5 HNS
      go_wp2_with fail
      go_roundw
      case rel=> exact ⟨i+1,_,wantL (Q_ Kj) R Q,nx.set i r',d7,dc7,xs7,_,by omega,by go_num,rfl,HNc,HRz7⟩
      case measure=> simp [intOf];omega
    ·have HNc:=Kz (HNext.out true (by simp))
     clear HNext
     go_region
     obtain ⟨wd,hwd⟩: ∃wd,wd=W4.drew:= ⟨_,rfl⟩
     rw [<-hwd]
     have KD:K_ W4 wd:=by rw [hwd];exact (K_.refl _).drew
     have HRzd:=Kz (HRz4.out.kept KD)
     obtain ⟨cs,hcs⟩: ∃cs,cs=r'.cells xa xc:= ⟨_,rfl⟩
     have HCs:=Kz hcs
     have HPd:Hid (wd.rangeAt pb 0 cs):=fun j u hu=> by rw [hcs] at hu;exact (KD.cell hpz).trans (HPr.out j u hu)
     have HSz:Hid ((Tryz.prog.info? 83).map (·.size)=some cs.length):=by rw [hcs];exact Tryz.sizeRun7A
     have HSz2:Hid ((Tryz.prog.info? 83).map (·.size)=some cs.toArray.size):=by rw [hcs];exact Tryz.sizeRun7A
     have HTh:Hid (wd.there gn (i * 7) cs.toArray.size):=by
      obtain ⟨_,_,_,_,_,h⟩:=HRzd.out.pack.at HRzd.out.own (i:=i) (by rw [hnl];exact hlt)
      rw [hcs]
      exact h
     have HOn:Hid (cs.toArray.all (·.oneCell')=true):=by rw [hcs];exact all_oneCell_toArray (Qz.one r' xa xc)
     have hgnd:gn < wd.heap.size:= (HRzd.out.own.lt gn rfl).2
     clear hcs hwd
     go_upto_region 14 with (first | (refine wpList_load_mid rfl 83 (.tmp 10) rfl pb 0 rfl cs _ HPd.out Tryz.underlying83 rfl HSz.out ?_) | (refine wpList_store_mid rfl 83 (.tmp 79) (.tmp 78) rfl gn (i * 7) cs.toArray rfl rfl HTh.out HSz2.out HOn.out ?_;rw [List.toList_toArray]))
     obtain ⟨W5,hW5⟩: ∃W5,W5=wd.setCells gn (i * 7) cs:= ⟨_,rfl⟩
     rw [<-hW5]
     have kb5:But (fun b=> b=gn) wd W5:=by rw [hW5];exact but_cells cs (i * 7) wd
     have hns5: ∀b,b=gn->¬TypeAt wd b 9:=fun b e=> by rw [e];exact run_not_str HRzd.out.own gn rfl
     have HKn5:Hid (KnZ w W5 W5 kb (.slice (some ⟨g,0,none⟩) R.length dc) a Kj.length cap R (some ⟨g,0,none⟩) dc xs):=by rw [hW5];exact HRzd.out.kn.other HRzd.out.own hgnz HRzd.out.ne (i * 7) cs
     have HOw5:Hid (W5.ownsRow w.heap.size 83 7 (.slice (some ⟨gn,0,none⟩) L.length ncap) L.length (ovr ys (i * 7) cs)):=by rw [hW5];exact own_sets cs (i * 7) HRzd.out.own
     have HPk5:Hid (PackedZ W5 (ovr ys (i * 7) cs) (nx.set i r')):=by
      rw [HCs.out]
      refine (HRzd.out.pack.set (by rw [hnl];exact hlt) (HT1.out.but (But.of_kept (S:=fun _=> False) KD) (fun _ e=> e.elim)) HX1.out).but kb5 hns5
     have HT5:Hid (TStrs W5 9 qa Q):= (HT2.out.but (But.of_kept (S:=fun _=> False) KD) (fun _ e=> e.elim)).but kb5 hns5
     have hgn5:gn < W5.heap.size:= (HOw5.out.lt gn rfl).2
     have HNS:Hid (∀b,(b=kb∨(Value.slice (some ⟨g,0,none⟩) R.length dc).ownBlock=some b)->¬TypeAt W5 b 9):=fun b e=> by
      rcases e with e | e
      ·rw [e];exact fun ht=> type_ne HKn5.out.known.row.type ht (by decide) rfl
      ·exact run_not_str HKn5.out.own b e
     have HNe:=Kz HRzd.out.ne
     have HKg:Hid (kb≠gn):=kn_ne HRzd.out.kn.known HRzd.out.own
     clear hW5 kb5 hns5 HRzd HRz4 HPd HSz HSz2 HTh HOn HT1 HT2 HPr hgnd KD p1 p5 m14 s1 s5
     go_wp2_with fail
     refine (wantZ_any w W5 kb hkw a cap Kj qa qc Q R (some ⟨g,0,none⟩) dc xs (by omega) HQl.out (by omega) HKn5.out hN (HT5.out.nst HNS.out)).mono ?_
     rintro e w7 ⟨rfl,d7,dc7,xs7,hZ7⟩
     have HRz7:Hid (RowZ w w7 kb a Kj.length cap L (wantL (Q_ Kj) R Q) (nx.set i r') d7 dc7 xs7 gn ncap (ovr ys (i * 7) cs)):=by
      refine ⟨hZ7.again,hZ7.fr.owns HOw5.out (fun b e=> ?_),HPk5.out.but hZ7.fr HNS.out,fun e=> ?_⟩
      ·simp only [Value.ownBlock,Option.some.injEq] at e
       subst e
       rintro (h | h)
       ·exact HKg.out h.symm
       ·exact HNe.out h
      ·rcases hZ7.nw gn e with h | h
       ·exact HNe.out h
       ·omega
     clear hZ7 HKn5 HOw5 HPk5 HT5 HNS
     go_wp2_with fail
     go_roundw
     case rel=> exact ⟨i+1,_,wantL (Q_ Kj) R Q,nx.set i r',d7,dc7,xs7,_,by omega,by go_num,rfl,HNc,HRz7⟩
     case measure=> simp [intOf];omega
   ·have hni: ¬((i:Int) < (L.length:Int)):=by omega
    have hie:i=L.length:=by omega
    subst hie
    have hRi: ((R.length:Int) > (L.length:Int))↔L.length < R.length:=by omega
    clear hlt hi
    cases b
    ·have hRi2:=hRi
     obtain ⟨b',hb'⟩: ∃b',b'= (false || decide (L.length < R.length)):= ⟨_,rfl⟩
     have HON:=Kz (HO.out.next hok HRn.out hb')
     have HBc:Hid (Value.bool (decide (L.length < R.length))=Value.bool b'):=by show _=_;rw [hb'];simp
     clear hb'
     go_wp2_with fail
     go_loopw [12] (fun x12 wr=> ∃(i:Nat) (M:List Qz) (xs:List Value),i<=L.length∧x12= .int .i64 (i:Int)∧Hid (M=nx.take i++R.drop i)∧Hid (RowZ w wr kb a Kj.length cap L M nx (some ⟨g,0,none⟩) dc xs gn ncap ys)) (fun x12 _=> L.length - (intOf x12).toNat)
     case atStart=> exact ⟨0,R,xs,Nat.zero_le _,rfl,by simp [Hid],HRz⟩
     case round=>
      clear HRz m1 zk hgz
      obtain ⟨i,M,xs,hi,rfl,HM,HRz⟩:=hrel
      have hMl:M.length=R.length:=by rw [HM.out,List.length_append,List.length_take,List.length_drop];omega
      have m1:=HRz.out.kn.known.runs
      have zk:=HRz.out.kn.known.row.lt
      have hgz:g < wr.heap.size:= (HRz.out.kn.own.lt g rfl).2
      by_cases hlt:i < L.length
      ·have hii: (i:Int) < (L.length:Int):=by omega
       have hiM: (i:Int) < (M.length:Int):=by omega
       have hiMn:i < M.length:=by omega
       have HMl:=Kz hMl
       clear hMl
       obtain ⟨ya,yc,hrg,hTy,hxy,_⟩:=HRz.out.pack.at HRz.out.own (i:=i) (by rw [hnl];exact hlt)
       obtain ⟨_,_,_,_,_,hth⟩:=HRz.out.kn.pack.at HRz.out.kn.own hiMn
       obtain ⟨q,hq⟩: ∃q,q=nx.getD i Qz.zero:= ⟨_,rfl⟩
       rw [<-hq] at hrg hTy
       have t0:=hrg 0 _ rfl
       have t1:=hrg 1 _ rfl
       have t2:=hrg 2 _ rfl
       have t3:=hrg 3 _ rfl
       have t4:=hrg 4 _ rfl
       have t5:=hrg 5 _ rfl
       have t6:=hrg 6 _ rfl
       rw [Nat.add_zero] at t0
       have hgnz2:gn < wr.heap.size:= (HRz.out.own.lt gn rfl).2
       have HMs:Hid (M.set i q=nx.take (i+1)++R.drop (i+1)):=by
        show _=_
        have hin:i < nx.length:=by rw [hnl];exact hlt
        have htl: (nx.take i).length=i:=by rw [List.length_take];omega
        have hMl:=HMl.out
        rw [HM.out,List.set_append_right _ _ (by omega),htl,Nat.sub_self,List.drop_eq_getElem_cons (l:=R) (i:=i) (by omega),List.set_cons_zero,List.take_succ_eq_append_getElem hin,List.append_assoc,hq]
        simp [List.getD,hin]
       have HTy:=Kz hTy
       have HXy:=Kz hxy
       have HTh:=Kz hth
       have Zz:Hid (∀u,K_ wr u->u.cell? ⟨kb,1,none⟩=some (.slice (some ⟨g,0,none⟩) M.length dc)∧u.cell? ⟨gn,i * 7,none⟩=some (.string q.name)∧u.cell? ⟨gn,i * 7+1,none⟩=some (.bool q.over)∧u.cell? ⟨gn,i * 7+2,none⟩=some (.bool q.fail)∧u.cell? ⟨gn,i * 7+3,none⟩=some (.string q.text)∧u.cell? ⟨gn,i * 7+4,none⟩=some (.int .i64 q.at')∧u.cell? ⟨gn,i * 7+5,none⟩=some (.int .i64 q.Zj)∧u.cell? ⟨gn,i * 7+6,none⟩=some (.slice ya q.texts.length yc)):=fun u K=> ⟨(K.cell zk).trans m1,(K.cell hgnz2).trans t0,(K.cell hgnz2).trans t1,(K.cell hgnz2).trans t2,(K.cell hgnz2).trans t3,(K.cell hgnz2).trans t4,(K.cell hgnz2).trans t5,(K.cell hgnz2).trans t6⟩
       clear hq hrg hTy hxy hth t0 t1 t2 t3 t4 t5 t6
       go_upto_region 19 with fail
       refine Qx.rg 10 Zz.out fun wd KD Z_=> ?_
       refine Qx.tk 0 Z_ ?_
       refine Qx.tk 1 Z_ ?_
       refine Qx.tk 2 Z_ ?_
       refine Qx.tk 3 Z_ ?_
       refine Qx.tk 4 Z_ ?_
       refine Qx.tk 5 Z_ ?_
       refine Qx.tk 6 Z_ ?_
       refine Qx.tk 7 Z_ ?_
       refine Qx.tk 8 Z_ ?_
       refine Qx.tk 9 Z_ ?_
       have HRzd:=Kz (HRz.out.kept KD)
       have hthd:wd.there g (i * 7) 7:=fun j hj=> ⟨by rw [KD.cell hgz];exact (HTh.out j hj).1,(KD.rules.2 g (i * 7+j) hgz).trans (HTh.out j hj).2⟩
       refine Qx.nx 10 (fun K hK=> ?_)
       rw [if_pos (by rfl)]
       refine wp_store_mid 83 _ _ rfl g (i * 7) #[.string q.name,.bool q.over,.bool q.fail,.string q.text,.int .i64 q.at',.int .i64 q.Zj,.slice ya q.texts.length yc] (by rfl) (by rfl) hthd (by kernel_rfl) (all_oneCell_toArray (Qz.one q ya yc)) ?_
       refine hK.out _ _ (fun h=> absurd rfl h) ?_
       clear hK K hthd
       try simp only [Act.put]
       refine Qx.dn ?_
       have HZ9:Hid (KnZ w (wd.setCells g (i * 7) (q.cells ya yc)) (wd.setCells g (i * 7) (q.cells ya yc)) kb (.slice (some ⟨g,0,none⟩) (M.set i q).length dc) a Kj.length cap (M.set i q) (some ⟨g,0,none⟩) dc (ovr xs (i * 7) (q.cells ya yc))):=HRzd.out.kn.over hiMn (HTy.out.but (But.of_kept (S:=fun _=> False) KD) (fun _ e=> e.elim)) HXy.out
       have kb9:=but_cells (q.cells ya yc) (i * 7) wd (g:=g)
       have HRz9:Hid (RowZ w (wd.setCells g (i * 7) (q.cells ya yc)) kb a Kj.length cap L (M.set i q) nx (some ⟨g,0,none⟩) dc (ovr xs (i * 7) (q.cells ya yc)) gn ncap ys):=by
        refine ⟨HZ9.out,kb9.owns HRzd.out.own (fun b e (e2:b=g)=> ?_),HRzd.out.pack.but kb9 (fun b e=> by rw [e];exact run_not_str HRzd.out.kn.own g rfl), ?_⟩
        ·simp only [Value.ownBlock,Option.some.injEq] at e
         exact HRzd.out.ne (by simp only [Value.ownBlock,Option.some.injEq];omega)
        ·have h:=HRzd.out.ne
         simpa [Value.ownBlock] using h
       obtain ⟨W9,hW9⟩: ∃W9,W9=wd.setCells g (i * 7) (q.cells ya yc):= ⟨_,rfl⟩
       have hW9':wd.setCells g (i * 7) [.string q.name,.bool q.over,.bool q.fail,.string q.text,.int .i64 q.at',.int .i64 q.Zj,.slice ya q.texts.length yc]=W9:=hW9.symm
       rw [hW9']
       rw [<-hW9] at HRz9
       clear hW9 hW9' HZ9 kb9 HRzd HRz KD m1 Z_
       go_wp2_with fail
       go_roundw
       case rel=> exact ⟨i+1,M.set i q,_,by omega,by go_num,HMs,HRz9⟩
       case measure=> simp [intOf];omega
      ·have hni: ¬((i:Int) < (L.length:Int)):=by omega
       have HMe:Hid (M=nx++R.drop L.length):=by
        show _=_
        rw [HM.out,show i=L.length by omega,<-hnl,List.take_length]
       clear hlt
       go_wp2_with fail
       go_roundg (if b'=true then potAll (Kj.map (·.name)) (Qj (nx++R.drop L.length))+1 else 0)
       case measure=> exact HON.out.2
       case rel=> exact ⟨b',M,some ⟨g,0,none⟩,dc,xs,HBc.out,by rw [HMe.out];exact HON.out.1,HRz.out.kn⟩
    ·have hRi2:=hRi
     obtain ⟨b',hb'⟩: ∃b',b'= (true || decide (L.length < R.length)):= ⟨_,rfl⟩
     have HON:=Kz (HO.out.next hok HRn.out hb')
     have HBc:Hid (Value.bool true=Value.bool b'):=by rw [hb'];rfl
     clear hb'
     go_wp2_with fail
     go_loopw [12] (fun x12 wr=> ∃(i:Nat) (M:List Qz) (xs:List Value),i<=L.length∧x12= .int .i64 (i:Int)∧Hid (M=nx.take i++R.drop i)∧Hid (RowZ w wr kb a Kj.length cap L M nx (some ⟨g,0,none⟩) dc xs gn ncap ys)) (fun x12 _=> L.length - (intOf x12).toNat)
     case atStart=> exact ⟨0,R,xs,Nat.zero_le _,rfl,by simp [Hid],HRz⟩
     case round=>
      clear HRz m1 zk hgz
      obtain ⟨i,M,xs,hi,rfl,HM,HRz⟩:=hrel
      have hMl:M.length=R.length:=by rw [HM.out,List.length_append,List.length_take,List.length_drop];omega
      have m1:=HRz.out.kn.known.runs
      have zk:=HRz.out.kn.known.row.lt
      have hgz:g < wr.heap.size:= (HRz.out.kn.own.lt g rfl).2
      by_cases hlt:i < L.length
      ·have hii: (i:Int) < (L.length:Int):=by omega
       have hiM: (i:Int) < (M.length:Int):=by omega
       have hiMn:i < M.length:=by omega
       have HMl:=Kz hMl
       clear hMl
       obtain ⟨ya,yc,hrg,hTy,hxy,_⟩:=HRz.out.pack.at HRz.out.own (i:=i) (by rw [hnl];exact hlt)
       obtain ⟨_,_,_,_,_,hth⟩:=HRz.out.kn.pack.at HRz.out.kn.own hiMn
       obtain ⟨q,hq⟩: ∃q,q=nx.getD i Qz.zero:= ⟨_,rfl⟩
       rw [<-hq] at hrg hTy
       have t0:=hrg 0 _ rfl
       have t1:=hrg 1 _ rfl
       have t2:=hrg 2 _ rfl
       have t3:=hrg 3 _ rfl
       have t4:=hrg 4 _ rfl
       have t5:=hrg 5 _ rfl
       have t6:=hrg 6 _ rfl
       rw [Nat.add_zero] at t0
       have hgnz2:gn < wr.heap.size:= (HRz.out.own.lt gn rfl).2
       have HMs:Hid (M.set i q=nx.take (i+1)++R.drop (i+1)):=by
        show _=_
        have hin:i < nx.length:=by rw [hnl];exact hlt
        have htl: (nx.take i).length=i:=by rw [List.length_take];omega
        have hMl:=HMl.out
        rw [HM.out,List.set_append_right _ _ (by omega),htl,Nat.sub_self,List.drop_eq_getElem_cons (l:=R) (i:=i) (by omega),List.set_cons_zero,List.take_succ_eq_append_getElem hin,List.append_assoc,hq]
        simp [List.getD,hin]
       have HTy:=Kz hTy
       have HXy:=Kz hxy
       have HTh:=Kz hth
       have Zz:Hid (∀u,K_ wr u->u.cell? ⟨kb,1,none⟩=some (.slice (some ⟨g,0,none⟩) M.length dc)∧u.cell? ⟨gn,i * 7,none⟩=some (.string q.name)∧u.cell? ⟨gn,i * 7+1,none⟩=some (.bool q.over)∧u.cell? ⟨gn,i * 7+2,none⟩=some (.bool q.fail)∧u.cell? ⟨gn,i * 7+3,none⟩=some (.string q.text)∧u.cell? ⟨gn,i * 7+4,none⟩=some (.int .i64 q.at')∧u.cell? ⟨gn,i * 7+5,none⟩=some (.int .i64 q.Zj)∧u.cell? ⟨gn,i * 7+6,none⟩=some (.slice ya q.texts.length yc)):=fun u K=> ⟨(K.cell zk).trans m1,(K.cell hgnz2).trans t0,(K.cell hgnz2).trans t1,(K.cell hgnz2).trans t2,(K.cell hgnz2).trans t3,(K.cell hgnz2).trans t4,(K.cell hgnz2).trans t5,(K.cell hgnz2).trans t6⟩
       clear hq hrg hTy hxy hth t0 t1 t2 t3 t4 t5 t6
       go_upto_region 19 with fail
       refine Qx.rg 10 Zz.out fun wd KD Z_=> ?_
       refine Qx.tk 0 Z_ ?_
       refine Qx.tk 1 Z_ ?_
       refine Qx.tk 2 Z_ ?_
       refine Qx.tk 3 Z_ ?_
       refine Qx.tk 4 Z_ ?_
       refine Qx.tk 5 Z_ ?_
       refine Qx.tk 6 Z_ ?_
       refine Qx.tk 7 Z_ ?_
       refine Qx.tk 8 Z_ ?_
       refine Qx.tk 9 Z_ ?_
       have HRzd:=Kz (HRz.out.kept KD)
       have hthd:wd.there g (i * 7) 7:=fun j hj=> ⟨by rw [KD.cell hgz];exact (HTh.out j hj).1,(KD.rules.2 g (i * 7+j) hgz).trans (HTh.out j hj).2⟩
       refine Qx.nx 10 (fun K hK=> ?_)
       rw [if_pos (by rfl)]
       refine wp_store_mid 83 _ _ rfl g (i * 7) #[.string q.name,.bool q.over,.bool q.fail,.string q.text,.int .i64 q.at',.int .i64 q.Zj,.slice ya q.texts.length yc] (by rfl) (by rfl) hthd (by kernel_rfl) (all_oneCell_toArray (Qz.one q ya yc)) ?_
       refine hK.out _ _ (fun h=> absurd rfl h) ?_
       clear hK K hthd
       try simp only [Act.put]
       refine Qx.dn ?_
       have HZ9:Hid (KnZ w (wd.setCells g (i * 7) (q.cells ya yc)) (wd.setCells g (i * 7) (q.cells ya yc)) kb (.slice (some ⟨g,0,none⟩) (M.set i q).length dc) a Kj.length cap (M.set i q) (some ⟨g,0,none⟩) dc (ovr xs (i * 7) (q.cells ya yc))):=HRzd.out.kn.over hiMn (HTy.out.but (But.of_kept (S:=fun _=> False) KD) (fun _ e=> e.elim)) HXy.out
       have kb9:=but_cells (q.cells ya yc) (i * 7) wd (g:=g)
       have HRz9:Hid (RowZ w (wd.setCells g (i * 7) (q.cells ya yc)) kb a Kj.length cap L (M.set i q) nx (some ⟨g,0,none⟩) dc (ovr xs (i * 7) (q.cells ya yc)) gn ncap ys):=by
        refine ⟨HZ9.out,kb9.owns HRzd.out.own (fun b e (e2:b=g)=> ?_),HRzd.out.pack.but kb9 (fun b e=> by rw [e];exact run_not_str HRzd.out.kn.own g rfl), ?_⟩
        ·simp only [Value.ownBlock,Option.some.injEq] at e
         exact HRzd.out.ne (by simp only [Value.ownBlock,Option.some.injEq];omega)
        ·have h:=HRzd.out.ne
         simpa [Value.ownBlock] using h
       obtain ⟨W9,hW9⟩: ∃W9,W9=wd.setCells g (i * 7) (q.cells ya yc):= ⟨_,rfl⟩
       have hW9':wd.setCells g (i * 7) [.string q.name,.bool q.over,.bool q.fail,.string q.text,.int .i64 q.at',.int .i64 q.Zj,.slice ya q.texts.length yc]=W9:=hW9.symm
       rw [hW9']
       rw [<-hW9] at HRz9
       clear hW9 hW9' HZ9 kb9 HRzd HRz KD m1 Z_
       go_wp2_with fail
       go_roundw
       case rel=> exact ⟨i+1,M.set i q,_,by omega,by go_num,HMs,HRz9⟩
       case measure=> simp [intOf];omega
      ·have hni: ¬((i:Int) < (L.length:Int)):=by omega
       have HMe:Hid (M=nx++R.drop L.length):=by
        show _=_
        rw [HM.out,show i=L.length by omega,<-hnl,List.take_length]
       clear hlt
       go_wp2_with fail
       go_roundg (if b'=true then potAll (Kj.map (·.name)) (Qj (nx++R.drop L.length))+1 else 0)
       case measure=> exact HON.out.2
       case rel=> exact ⟨b',M,some ⟨g,0,none⟩,dc,xs,HBc.out,by rw [HMe.out];exact HON.out.1,HRz.out.kn⟩
