import Derived.Shelf.Abstract
import Derived.Shelf.RegionOpen
import Derived.WalkKit
import Derived.OwnWalkIn
import Derived.TacticsInMore
import Derived.LoopNIn
import Derived.LoopIn
import Derived.Test.YtgnkgfjmbmcfcaaGreatDoorKCDist
import Derived.Test.YtgnkgfjmbmcfcaaGreatDoorKBIn
set_option maxRecDepth 100000
set_option maxHeartbeats 25600000
namespace Go.Proofs.YtgnkgfjmbmcfcaaGreatDoor
open Go.RowKit Go.Shelf
attribute [local go_sem] Oper.semAt_some
def SeesV (d:Option Addr) (tb:Nat->Nat) (i:Nat) (W:World):Prop:= ∃g,d=some ⟨g,0,none⟩∧W.cell? ⟨g,i,none⟩=some (.pointer (some ⟨tb i,0,none⟩))∧W.cell? ⟨tb i,1,none⟩=some (.bool false)∧W.cell? ⟨tb i,9,none⟩=some (.int .i64 0)
def SeesN (d:Option Addr) (tb:Nat->Nat) (i:Nat) (W:World):Prop:= ∃g,d=some ⟨g,0,none⟩∧W.cell? ⟨g,i,none⟩=some (.pointer (some ⟨tb i,0,none⟩))∧(W.cell? ⟨tb i,1,none⟩=some (.bool true)∨(W.cell? ⟨tb i,1,none⟩=some (.bool false)∧∃op:Nat,op≠0∧W.cell? ⟨tb i,9,none⟩=some (.int .i64 (op:Int))))
theorem ready_looks (bb:Nat) (d:Option Addr) (n dc:Nat) (tb:Nat->Nat) (hn:n<=1048576):
  Looks Tryz.prog 117 (.pointer (some ⟨bb,0,none⟩)) (fun i=> #[.pointer (some ⟨tb i,0,none⟩)]) (SeesV d tb) (SeesN d tb) n (fun W=> W.cell? ⟨bb,3,none⟩=some (.slice d n dc)):=by
 intro l J Jx W hok hstep h0
 refine callsIn_of_wp Tryz.func117 rfl trivial ?_ rfl
 simp only [Tryz.ntmps117,List.size_toArray,List.length_cons,List.length_nil,Nat.reduceAdd,Nat.reduceSub,Array.replicate_succ,Array.replicate_zero,List.push_toArray,List.append_toArray,List.nil_append,List.cons_append]
 have HS:=Kz hstep
 clear hstep
 gi_wp2
 gi_loopw [12] (fun x wr=> ∃i:Nat,i<=n∧x= .int .i64 i∧J i wr) (fun x _=> n - (intOf x).toNat)
 case atStart=> exact ⟨0,Nat.zero_le _,rfl,h0⟩
 case round=>
  obtain ⟨i,hi,rfl,hJ⟩:=hrel
  by_cases hlt:i < n
  ·rcases HS.out i wr hlt hJ with ⟨⟨g,rfl,c0,c1,c2⟩,fn,tmps,assign,body,hy,hR⟩ | ⟨⟨g,rfl,c0,hc⟩,hJ'⟩
   ·gi_wp2
    refine hR.mono ?_
    rintro e W3 (⟨rfl,hJ3⟩ | ⟨rfl,hJx3⟩)
    ·gi_wp2
     go_roundw
     case rel=> exact ⟨i+1,by omega,by go_num,hJ3⟩
     case measure=> simp [intOf];omega
    ·gi_wp2
     refine bodyPost_ret (results_none rfl _ _ _) rfl ?_
     exact ⟨⟨_,rfl⟩,.inr hJx3⟩
   ·rcases hc with c1 | ⟨c1,op,hop,c2⟩
    ·gi_wp2
     refine ⟨fun _ h=> (by cases h), ?_⟩
     gi_wp2
     go_roundw
     case rel=> exact ⟨i+1,by omega,by go_num,hJ'⟩
     case measure=> simp [intOf];omega
    ·have hne: ((op:Int) == 0)=false:=by simpa using hop
     gi_wp2
     refine ⟨fun _ h=> (by cases h), ?_⟩
     gi_wp2
     go_roundw
     case rel=> exact ⟨i+1,by omega,by go_num,hJ'⟩
     case measure=> simp [intOf];omega
  ·gi_wp2
   go_end0
   have:i=n:=by omega
   subst this
   exact ⟨⟨_,rfl⟩,.inl hJ⟩
open Go.RowKit
def ApartB (w:World) (bb mb:Nat) (ts:List Zx) (f:ByteArray->Value) (k:Nat):Prop:=k < w.heap.size∧k≠bb∧k≠mb∧(∀t∈ts,k≠t.tb∧k∉t.own)∧∀s,(f s).ownBlock≠some k
theorem Fen.apart {G:Ghost} {w:World} {bb mb:Nat} {ts:List Zx} {f:ByteArray->Value} (h:Fen G w bb mb ts f) {k:Nat} (hk:G.K k):ApartB w bb mb ts f k:=
 ⟨Nat.lt_of_lt_of_le (h.lt k hk) h.size,fun e=> h.nb (by rw [<-e];exact hk),fun e=> h.nm (by rw [<-e];exact hk),fun t ht=> ⟨fun e=> (h.nt t ht).1 (by rw [<-e];exact hk),fun hx=> (h.nt t ht).2 k hx hk⟩,fun s hs=> h.nf s k hs hk⟩
theorem box1 {w w1:World} {v:Value} {t:TypeId} (k:K_ (w.alloc (.cells #[v] t)) w1):w1.cell? ⟨w.heap.size,0,none⟩=some v∧w1.frozen? ⟨w.heap.size,0,none⟩=false∧TypeAt w1 w.heap.size t:=by
 have hlt:w.heap.size < (w.alloc (.cells #[v] t)).heap.size:=by simp
 exact ⟨(k.cell hlt).trans (by simp),(k.rules.2 _ _ hlt).trans (by simp),#[v],_,(k.block _ hlt).trans (World.alloc_heap_new w _)⟩
theorem box2 {w w1:World} {v0 v1:Value} {t:TypeId} (k:K_ (w.alloc (.cells #[v0,v1] t)) w1):w1.cell? ⟨w.heap.size,0,none⟩=some v0∧w1.cell? ⟨w.heap.size,1,none⟩=some v1:=by
 have hlt:w.heap.size < (w.alloc (.cells #[v0,v1] t)).heap.size:=by simp
 constructor
 ·rw [k.cell hlt];simp
 ·rw [k.cell hlt];simp
def nsOf (ts:List Zx):List ByteArray:=ts.map fun t=> t.r.name
def psOf (ts:List Zx):List (Nat×ByteArray):=ts.map fun t=> (t.tb,t.r.name)
def tbOf (ts:List Zx) (i:Nat):Nat:= (ts.map fun t=> t.tb).getD i 0
def potE (Kj:List Qq) (ts:List Zx):Nat:=potAll (Kj.map (·.name)) (Qj (Qk ts))
theorem potAll_le : ∀(l:List ByteArray) (σ:Env),potAll l σ<=23 * l.length
 | [],_=> Nat.le_refl _
 | n :: l,σ=> by
  have h1:=potAll_le l σ
  have h2:potOf (σ n)<=23:=by
   unfold potOf
   split
   ·exact Nat.le_refl _
   ·split <;> omega
  have e:potAll (n :: l) σ=potOf (σ n)+potAll l σ:=by simp [potAll]
  rw [e,List.length_cons]
  omega
section
variable {B : Nat} {G : Ghost} {Kj : List Qq} {wz W W' : World} {bb : Nat} {a : Option Addr} {cap : Nat} {rd : Option Addr} {rn rc : Nat} {mb mx : Nat} {ts : List Zx} {d0 d : Option Addr} {dc : Nat} {f : ByteArray -> Value} {ws : ByteArray -> List Nat}
theorem put_cell {l c o:Nat} (o':Obj) (h:c≠l): (W.putObj l o').cell? ⟨c,o,none⟩=W.cell? ⟨c,o,none⟩:=World.cell?_of_block (w:=W) (World.putObj_heap_other h)
theorem put_frozen {l c o:Nat} (o':Obj) (h:c≠l): (W.putObj l o').frozen? ⟨c,o,none⟩=W.frozen? ⟨c,o,none⟩:=World.frozen?_of_block (w:=W) (World.putObj_heap_other h)
theorem BS.can (h:BS Kj ts ws) {t:Zx} (ht:t∈ts):CanGo (Q_ Kj) (Qj (Qk ts)) t.r↔t.r.over=false∧t.op=0:=by
 obtain ⟨A,hA,_⟩:= (h.good.good t.r (List.mem_map_of_mem ht)).act
 rw [canGo_iff (by rw [hA];rfl),h.op t ht,List.length_eq_zero_iff]
theorem sees_calm {tb:Nat->Nat} {i:Nat} (_hd: ∀g,d0=some ⟨g,0,none⟩->g < B):Calm B (fun W=> SeesV d0 tb i W):=by
 have cl: ∀{W:World} {b o:Nat} {v:Value},W.cell? ⟨b,o,none⟩=some v->b < W.heap.size:=fun {W b o v} h=> by
  obtain ⟨ob,h1,_⟩:=cells_of_cell h
  exact heap_lt h1
 have cn: ∀{W:World} {b o l:Nat} {v:Value} {ob:Obj},W.cell? ⟨b,o,none⟩=some v->W.heap[l]? =some ob->ob.isCells=false->b≠l:=fun {W b o l v ob} h h1 h2 e=> by
  obtain ⟨ob',h3,h4⟩:=cells_of_cell h
  simp only at h3
  rw [e,h1] at h3
  cases h3
  rw [h2] at h4
  cases h4
 constructor
 ·rintro W o hB ⟨g,e,h1,h2,h3⟩
  have k:= (K_.refl W).alloc o
  exact ⟨g,e,(k.cell (cl h1)).trans h1,(k.cell (cl h2)).trans h2,(k.cell (cl h3)).trans h3⟩
 ·rintro W l o o' hl ho hn ⟨g,e,h1,h2,h3⟩
  exact ⟨g,e,(put_cell o' (cn h1 ho hn)).trans h1,(put_cell o' (cn h2 ho hn)).trans h2,(put_cell o' (cn h3 ho hn)).trans h3⟩
theorem bb_calm {v:Value} {c:Nat} (hc:c < B):Calm B (fun W=> W.cell? ⟨c,3,none⟩=some v):=by
 constructor
 ·intro W o hB h1
  obtain ⟨ob,h2,_⟩:=cells_of_cell h1
  exact (((K_.refl W).alloc o).cell (heap_lt h2)).trans h1
 ·intro W l o o' hl ho hn h1
  exact (put_cell o' (by omega)).trans h1
theorem calm_false (B:Nat):Calm B (fun _=> False):= ⟨fun _ _ _ h=> h,fun _ _ _ _ _ _ _ h=> h⟩
theorem BM.far {G:Ghost} (h:BM G Kj wz W bb a cap rd rn rc mb mx ts d dc f ws) {k:Nat} (hk:W.heap.size<=k):k≠bb∧k≠mb∧(∀t∈ts,k≠t.tb∧k∉t.own)∧∀s,(f s).ownBlock≠some k:=by
 have h1:=h.row.lt
 obtain ⟨N,D,_,hM,_⟩:=h.map
 obtain ⟨es,clock,hb,_⟩:=hM
 have h2:=heap_lt hb
 refine ⟨by omega,by omega,fun t ht=> ⟨?_,fun hx=> ?_⟩,fun s hs=> ?_⟩
 ·have:= (h.task t ht).row.lt;omega
 ·have:= ((h.task t ht).own_type hx).2.2;omega
 ·have:= ((h.wrow s).lt k hs).2;omega
theorem BM.apart {G:Ghost} (h:BM G Kj wz W bb a cap rd rn rc mb mx ts d dc f ws) {k:Nat} (hk:d=some ⟨k,0,none⟩):k < W.heap.size∧k≠bb∧k≠mb∧(∀t∈ts,k≠t.tb∧k∉t.own)∧∀s,(f s).ownBlock≠some k:=by
 subst hk
 have ho: (Value.slice (some ⟨k,0,none⟩) ts.length dc).ownBlock=some k:=rfl
 have ht:=Yz h.items ho
 obtain ⟨N,D,_,hM,_⟩:=h.map
 refine ⟨(h.items.lt k ho).2,type_ne ht h.row.type (by decide),map_ne hM ht,fun t hm=> ⟨type_ne ht (h.task t hm).row.type (by decide),fun hx=> type_ne ht ((h.task t hm).own_type hx).1 (by decide) rfl⟩,fun s hs=> h.isep s k hs ho⟩
theorem BM.item (h:BM G Kj wz W bb a cap rd rn rc mb mx ts d dc f ws) {i:Nat} (hi:i < ts.length): ∃g,d=some ⟨g,0,none⟩∧W.cell? ⟨g,i,none⟩=some (.pointer (some ⟨(ts[i]).tb,0,none⟩)):=by
 have ho:=h.items
 rcases ho.2 with ⟨e,_⟩ | ⟨g,cp,cur,e,_⟩
 ·exfalso
  simp only [Value.slice.injEq] at e
  omega
 ·simp only [Value.slice.injEq] at e
  obtain ⟨rfl,_,rfl⟩:=e
  refine ⟨g,rfl, ?_⟩
  have hc:=ho.cells (g:=g) rfl i (ts[i]).ptr (by simp [hi])
  have e2: ((⟨g,0,none⟩:Addr).add i)= ⟨g,i,none⟩:=by simp [Addr.add];omega
  rw [e2] at hc
  exact hc
theorem BM.sees (h:BM G Kj wz W bb a cap rd rn rc mb mx ts d dc f ws) (hS:BS Kj ts ws) {i:Nat} (hi:i < ts.length): (SeesV d (tbOf ts) i W∧CanGo (Q_ Kj) (Qj (Qk ts)) (ts[i]).r)∨(SeesN d (tbOf ts) i W∧¬CanGo (Q_ Kj) (Qj (Qk ts)) (ts[i]).r):=by
 obtain ⟨g,e,hc⟩:=h.item hi
 have htb:tbOf ts i= (ts[i]).tb:=by simp [tbOf,List.getD,hi]
 have hT:=h.task ts[i] (List.getElem_mem hi)
 have c1:W.cell? ⟨(ts[i]).tb,1,none⟩=some (.bool (ts[i]).r.over):=hT.rng 1 _ rfl
 have c9:W.cell? ⟨(ts[i]).tb,9,none⟩=some (.int .i64 ((ts[i]).op:Int)):=hT.rng 9 _ rfl
 have hcan:=hS.can (List.getElem_mem hi)
 rw [<-htb] at hc c1 c9
 by_cases hg:CanGo (Q_ Kj) (Qj (Qk ts)) (ts[i]).r
 ·obtain ⟨g1,g2⟩:=hcan.1 hg
  rw [g1] at c1
  rw [g2] at c9
  exact .inl ⟨⟨g,e,hc,c1,c9⟩,hg⟩
 ·refine .inr ⟨⟨g,e,hc, ?_⟩,hg⟩
  cases hov: (ts[i]).r.over with
  | true=> left;rw [c1,hov]
  | false=>
   right
   exact ⟨by rw [c1,hov],(ts[i]).op,fun h0=> hg (hcan.2 ⟨hov,h0⟩),c9⟩
end
