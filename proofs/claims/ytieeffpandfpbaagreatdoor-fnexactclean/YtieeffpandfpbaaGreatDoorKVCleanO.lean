import Derived.Test.YtieeffpandfpbaaGreatDoorKVWaits
import Derived.Deep.RegionLaw
set_option maxRecDepth 100000
set_option maxHeartbeats 25600000
namespace Go.Proofs.YtieeffpandfpbaaGreatDoor
structure Places (E:ByteArray->ByteArray->Prop) (nm:List ByteArray):Prop where
 asc:AscB nm
 all: ∀x y,E x y->x∈nm
def EdgeP (E:ByteArray->ByteArray->Prop) (nm:List ByteArray) (p q:Nat):Prop:= ∃(hp:p < nm.length) (hq:q < nm.length),E nm[p] nm[q]
section
variable {E : ByteArray -> ByteArray -> Prop} {nm : List ByteArray}
theorem Places.less (h:Places E nm) {p q:Nat} (hp:p < nm.length) (hq:q < nm.length):lessX nm[p] nm[q]↔p < q:=by
 have hi:=List.pairwise_iff_getElem.1 h.asc
 constructor
 ·intro hl
  rcases Nat.lt_trichotomy p q with e | e | e
  ·exact e
  ·subst e;exact absurd hl (lessX_irrefl _)
  ·exact absurd hl (lessX_asymm (hi q p hq hp e))
 ·exact hi p q hp hq
theorem Places.inj (h:Places E nm) {p q:Nat} (hp:p < nm.length) (hq:q < nm.length) (e:nm[p]=nm[q]):p=q:=by
 rcases Nat.lt_trichotomy p q with g | g | g
 ·have:= (h.less hp hq).2 g;rw [e] at this;exact absurd this (lessX_irrefl _)
 ·exact g
 ·have:= (h.less hq hp).2 g;rw [e] at this;exact absurd this (lessX_irrefl _)
theorem Places.place (h:Places E nm) {x y:ByteArray} (hE:E x y): ∃(p:Nat) (hp:p < nm.length),nm[p]=x:=List.getElem_of_mem (h.all x y hE)
theorem walk_to {n:Nat} {p q:Nat} (h:WalkN (EdgeP E nm) n p q) (hp:p < nm.length): ∃hq:q < nm.length,WalkN E n nm[p] nm[q]:=by
 induction h with
 | here a=> exact ⟨hp,.here _⟩
 | step h _ ih=>
  obtain ⟨_,hb,hE⟩:=h
  obtain ⟨hq,hw⟩:=ih hb
  exact ⟨hq,.step hE hw⟩
theorem Places.back (h:Places E nm): ∀{n:Nat} {p q:Nat} (hp:p < nm.length) (hq:q < nm.length),WalkN E n nm[p] nm[q]->WalkN (EdgeP E nm) n p q:=by
 intro n
 induction n with
 | zero=> intro p q hp hq hw;rw [h.inj hp hq hw.zero];exact .here q
 | succ n ih=>
  intro p q hp hq hw
  obtain ⟨b,h1,h2⟩:=hw.first
  have: ∃(r:Nat) (hr:r < nm.length),nm[r]=b:=by
   cases n with
   | zero=> exact ⟨q,hq,h2.zero.symm⟩
   | succ m=>
    obtain ⟨c,h3,_⟩:=h2.first
    exact h.place h3
  obtain ⟨r,hr,rfl⟩:=this
  exact .step ⟨hp,hr,h1⟩ (ih hr hq h2)
theorem Places.far (h:Places E nm) {n:Nat} {p q:Nat} (hp:p < nm.length) (hq:q < nm.length):Far (EdgeP E nm) q n p↔Far E nm[q] n nm[p]:=by
 constructor
 ·intro hf
  exact ⟨(walk_to hf.1 hp).2,fun m hm hw=> hf.2 m hm (h.back hp hq hw)⟩
 ·intro hf
  exact ⟨h.back hp hq hf.1,fun m hm hw=> hf.2 m hm (walk_to hw hp).2⟩
def LeastP (p:Nat->Prop) (x:Nat):Prop:=p x∧∀y,p y->x<=y
inductive CircP (R:Nat->Nat->Prop) (t:Nat):Nat->Nat->List Nat->Prop
 | stop (a:Nat):CircP R t 1 a [a]
 | step {n:Nat} {a x:Nat} {l:List Nat} (h:LeastP (fun y=> R a y∧Far R t n y) x) (r:CircP R t n x l):CircP R t (n+1) a (a :: l)
def nameOf (nm:List ByteArray) (p:Nat):ByteArray:=nm.getD p ByteArray.empty
theorem nameOf_at {p:Nat} (hp:p < nm.length):nameOf nm p=nm[p]:=by simp [nameOf,List.getD,hp]
theorem CircP.names (h:Places E nm) {t:Nat} (ht:t < nm.length) {n a:Nat} {l:List Nat} (hc:CircP (EdgeP E nm) t n a l) (ha:a < nm.length):CircU E nm[t] n nm[a] (l.map (nameOf nm)):=by
 induction hc with
 | stop a=> rw [List.map_cons,List.map_nil,nameOf_at ha];exact .stop _
 | @step n a x l hl r ih=>
  obtain ⟨⟨⟨_,hx,hE⟩,hf⟩,hmin⟩:=hl
  rw [List.map_cons,nameOf_at ha]
  refine .step ⟨⟨hE,(h.far hx ht).1 hf⟩,fun y hy hlt=> ?_⟩ (ih hx)
  have hn:1<=n:=by cases r <;> omega
  obtain ⟨m,rfl⟩: ∃m,n=m+1:= ⟨n - 1,by omega⟩
  obtain ⟨z,hz,_⟩:=hy.2.next
  obtain ⟨p,hp,rfl⟩:=h.place hz
  have h1:=hmin p ⟨⟨ha,hp,hy.1⟩,(h.far hp ht).2 hy.2⟩
  have h2:= (h.less hp hx).1 hlt
  omega
def SizeP (R:Nat->Nat->Prop) (t n:Nat):Prop:=1<=n∧WalkN R n t t∧∀m,1<=m->m < n->¬WalkN R m t t
structure BestP (R:Nat->Nat->Prop) (k:Nat) (best:List Nat):Prop where
 no:best=[]->∀t,t < k->∀n,¬SizeP R t n
 yes:best≠[]->∃t n,t < k∧SizeP R t n∧CircP R t n t best∧best.length=n∧(∀h,h < k->∀j,SizeP R h j->n<=j∧(h < t->n < j))
theorem BestP.start (R:Nat->Nat->Prop):BestP R 0 []:= ⟨fun _ _t ht=> absurd ht (Nat.not_lt_zero _),fun h=> absurd rfl h⟩
theorem SizeP.unique {R:Nat->Nat->Prop} {t n m:Nat} (h:SizeP R t n) (g:SizeP R t m):n=m:=by
 rcases Nat.lt_trichotomy n m with e | e | e
 ·exact absurd h.2.1 (g.2.2 n h.1 e)
 ·exact e
 ·exact absurd g.2.1 (h.2.2 m g.1 e)
theorem BestP.skip {R:Nat->Nat->Prop} {k:Nat} {best:List Nat} (h:BestP R k best) (hn: ∀n,SizeP R k n->best≠[]∧best.length<=n):BestP R (k+1) best:=by
 refine ⟨fun e t ht n hs=> ?_,fun e=> ?_⟩
 ·by_cases g:t=k
  ·subst g;exact (hn n hs).1 e
  ·exact h.no e t (by omega) n hs
 ·obtain ⟨t,n,h1,h2,h3,h4,h5⟩:=h.yes e
  refine ⟨t,n,by omega,h2,h3,h4,fun q hq j hj=> ?_⟩
  by_cases g:q=k
  ·subst g
   have:= (hn j hj).2
   exact ⟨by omega,fun hlt=> by omega⟩
  ·exact h5 q (by omega) j hj
theorem BestP.take {R:Nat->Nat->Prop} {k n:Nat} {best l:List Nat} (h:BestP R k best) (hs:SizeP R k n) (hc:CircP R k n k l) (hl:l.length=n) (hb:best=[]∨n < best.length):BestP R (k+1) l:=by
 have hl0:l≠[]:=by cases hc <;> simp
 refine ⟨fun e=> absurd e hl0,fun _=> ⟨k,n,by omega,hs,hc,hl,fun q hq j hj=> ?_⟩⟩
 by_cases g:q=k
 ·subst g
  have:=hs.unique hj
  exact ⟨by omega,fun hlt=> by omega⟩
 ·rcases hb with rfl | hb
  ·exact absurd hj (h.no rfl q (by omega) j)
  ·obtain ⟨t,m,h1,h2,h3,h4,h5⟩:=h.yes (by intro e;rw [e] at hb;simp at hb)
   have:= (h5 q (by omega) j hj).1
   exact ⟨by omega,fun _=> by omega⟩
theorem BestP.circ (h:Places E nm) {best:List Nat} (hb:BestP (EdgeP E nm) nm.length best):CircX E (best.map (nameOf nm)):=by
 have hplace: ∀x n,1<=n->WalkN E n x x->∃(p:Nat) (hp:p < nm.length),nm[p]=x:=fun x n hn hw=> by
  obtain ⟨m,rfl⟩: ∃m,n=m+1:= ⟨n - 1,by omega⟩
  obtain ⟨b,hb,_⟩:=hw.first
  exact h.place hb
 have hsize: ∀n p (hp:p < nm.length),1<=n->WalkN E n nm[p] nm[p]->∃m,m<=n∧SizeP (EdgeP E nm) p m:=by
  intro n
  induction n using Nat.strongRecOn with
  | ind n ih=>
   intro p hp hn hw
   by_cases hs: ∃m,1<=m∧m < n∧WalkN (EdgeP E nm) m p p
   ·obtain ⟨m,h1,h2,h3⟩:=hs
    obtain ⟨q,h4,h5⟩:=ih m h2 p hp h1 (walk_to h3 hp).2
    exact ⟨q,by omega,h5⟩
   ·exact ⟨n,Nat.le_refl _,hn,h.back hp hp hw,fun m h1 h2 h3=> hs ⟨m,h1,h2,h3⟩⟩
 by_cases he:best=[]
 ·refine .inl ⟨fun x n hn hw=> ?_,by rw [he];rfl⟩
  obtain ⟨p,hp,rfl⟩:=hplace x n hn hw
  obtain ⟨m,_,hs⟩:=hsize n p hp hn hw
  exact hb.no he p hp m hs
 ·obtain ⟨t,n,ht,hs,hc,_,hl⟩:=hb.yes he
  refine .inr ⟨n,nm[t],hs.1,fun x k hk hw=> ?_,⟨(walk_to hs.2.1 ht).2,fun y hy hlt=> ?_⟩,hc.names h ht ht⟩
  ·obtain ⟨p,hp,rfl⟩:=hplace x k hk hw
   obtain ⟨m,h1,h2⟩:=hsize k p hp hk hw
   have:= (hl p hp m h2).1
   omega
  ·obtain ⟨p,hp,rfl⟩:=hplace y n hs.1 hy
   obtain ⟨m,h1,h2⟩:=hsize n p hp hs.1 hy
   have:= (hl p hp m h2).2 ((h.less hp ht).1 hlt)
   omega
end
section
variable (E : ByteArray -> ByteArray -> Prop) (g : ByteArray)
def RightV (b:Nat) (x:ByteArray) (v:Nat):Prop:= (lessX x g->v=0)∧(¬lessX x g->(v≠0->FarR E g v x∧v < b)∧∀m,m < b->FarR E g m x->v=m)
end
section
variable {E : ByteArray -> ByteArray -> Prop} {g : ByteArray}
theorem RightV.start {x:ByteArray}:RightV E g 1 x 0:= ⟨fun _=> rfl,fun _=> ⟨fun h=> absurd rfl h,fun m hm hf=> by have:=hf.1.pos;omega⟩⟩
theorem RightV.keep {n:Nat} {x:ByteArray} {v:Nat} (h:RightV E g n x v) (hv:v≠0∨lessX x g):RightV E g (n+1) x v:=by
 refine ⟨h.1,fun hn=> ?_⟩
 rcases hv with hv | hv
 ·obtain ⟨h1,h2⟩:=h.2 hn
  obtain ⟨h3,h4⟩:=h1 hv
  exact ⟨fun _=> ⟨h3,by omega⟩,fun m _ hf=> h3.unique hf⟩
 ·exact absurd hv hn
def Hit (E:ByteArray->ByteArray->Prop) (g:ByteArray) (n:Nat) (x s:ByteArray):Prop:=E x s∧((n=1∧s=g)∨(1 < n∧lessX g s∧FarR E g (n - 1) s))
theorem hit_far {n:Nat} {x:ByteArray} (hn:1<=n) (hno: ∀m,m < n->¬FarR E g m x): (∃s,Hit E g n x s)↔FarR E g n x:=by
 rcases Nat.lt_or_ge 1 n with h1 | h1
 ·obtain ⟨q,rfl⟩: ∃q,n=q+1:= ⟨n - 1,by omega⟩
  rw [FarR.succ (by omega)]
  constructor
  ·rintro ⟨s,hE,⟨h2,_⟩ | ⟨_,h2,h3⟩⟩
   ·omega
   ·exact ⟨⟨s,hE,h2,by simpa using h3⟩,fun m hm=> hno m (by omega)⟩
  ·rintro ⟨⟨s,hE,h2,h3⟩,_⟩
   exact ⟨s,hE,.inr ⟨h1,h2,by simpa using h3⟩⟩
 ·have:n=1:=by omega
  subst this
  rw [FarR.one]
  constructor
  ·rintro ⟨s,hE,⟨_,rfl⟩ | ⟨h2,_⟩⟩
   ·exact hE
   ·omega
  ·intro hE
   exact ⟨g,hE,.inl ⟨rfl,rfl⟩⟩
theorem RightV.hit {n:Nat} {x:ByteArray} (hn:1<=n) (h:RightV E g n x 0) (hx: ¬lessX x g) (hs: ∃s,Hit E g n x s):RightV E g (n+1) x n:=by
 have hno: ∀m,m < n->¬FarR E g m x:=fun m hm hf=> by
  have:= (h.2 hx).2 m hm hf
  have:=hf.1.pos
  omega
 have hf:= (hit_far hn hno).1 hs
 exact ⟨fun e=> absurd e hx,fun _=> ⟨fun _=> ⟨hf,by omega⟩,fun m _ hm=> hf.unique hm⟩⟩
theorem RightV.miss {n:Nat} {x:ByteArray} (hn:1<=n) (h:RightV E g n x 0) (hx: ¬lessX x g) (hs: ¬∃s,Hit E g n x s):RightV E g (n+1) x 0:=by
 have hno: ∀m,m < n->¬FarR E g m x:=fun m hm hf=> by
  have:= (h.2 hx).2 m hm hf
  have:=hf.1.pos
  omega
 refine ⟨fun _=> rfl,fun _=> ⟨fun e=> absurd rfl e,fun m hm hf=> ?_⟩⟩
 rcases Nat.lt_or_ge m n with e | e
 ·exact absurd hf (hno m e)
 ·have:m=n:=by omega
  subst this
  exact absurd ((hit_far hn hno).2 hf) hs
theorem RightV.ask {b n:Nat} {s:ByteArray} {v:Nat} (h:RightV E g b s v) (hs:lessX g s) (hn:1 < n) (hb:n<=b):v=n - 1↔FarR E g (n - 1) s:=by
 have hx: ¬lessX s g:=lessX_asymm hs
 constructor
 ·intro e
  have:= ((h.2 hx).1 (by omega)).1
  rw [e] at this
  exact this
 ·exact (h.2 hx).2 (n - 1) (by omega)
theorem RightV.whole {names:List ByteArray} (hn: ∀x y,E x y->x∈names) {x:ByteArray} {v:Nat} (h:RightV E g (names.length+1) x v) (hx: ¬lessX x g): (v≠0->FarR E g v x)∧(∀m,FarR E g m x->v=m):=
 ⟨fun hv=> ((h.2 hx).1 hv).1,fun m hf=> (h.2 hx).2 m (by have:=hf.bound hn;omega) hf⟩
theorem BestR.start (E:ByteArray->ByteArray->Prop):BestR E [] []:= ⟨fun _ g h=> (by cases h),fun h=> absurd rfl h⟩
theorem CircR.len {n:Nat} {a:ByteArray} {l:List ByteArray} (h:CircR E g n a l):l.length=n:=by
 induction h with
 | stop=> rfl
 | step _ _ ih=> simp [ih]
theorem BestR.skip {gs best:List ByteArray} (h:BestR E gs best) {g:ByteArray} (hn: ∀n,FarR E g n g->best≠[]∧best.length<=n) (hlt: ∀x∈gs,lessX x g):BestR E (gs++ [g]) best:=by
 refine ⟨fun e x hx n hf=> ?_,fun e=> ?_⟩
 ·rcases List.mem_append.1 hx with q | q
  ·exact h.no e x q n hf
  ·rw [List.mem_singleton] at q;subst q;exact (hn n hf).1 e
 ·obtain ⟨t,n,h1,h2,h3,h4,h5⟩:=h.yes e
  refine ⟨t,n,List.mem_append.2 (.inl h1),h2,h3,h4,fun x hx k hk=> ?_⟩
  rcases List.mem_append.1 hx with q | q
  ·exact h5 x q k hk
  ·rw [List.mem_singleton] at q
   subst q
   have:= (hn k hk).2
   exact ⟨by omega,fun hl=> absurd hl (lessX_asymm (hlt t h1))⟩
theorem BestR.take {gs best l:List ByteArray} (h:BestR E gs best) {g:ByteArray} {n:Nat} (hf:FarR E g n g) (hc:CircR E g n g l) (hb:best=[]∨n < best.length):BestR E (gs++ [g]) l:=by
 have hl:=hc.len
 have hl0:l≠[]:=fun e=> by rw [e] at hl;have:=hf.1.pos;simp at hl;omega
 refine ⟨fun e=> absurd e hl0,fun _=> ⟨g,n,List.mem_append.2 (.inr (by simp)),hf,hc,hl,fun x hx k hk=> ?_⟩⟩
 rcases List.mem_append.1 hx with q | q
 ·rcases hb with rfl | hb
  ·exact absurd hk (h.no rfl x q k)
  ·obtain ⟨t,m,h1,h2,h3,h4,h5⟩:=h.yes (by intro e;rw [e] at hb;simp at hb)
   have:= (h5 x q k hk).1
   exact ⟨by omega,fun _=> by omega⟩
 ·rw [List.mem_singleton] at q
  subst q
  have:=hf.unique hk
  exact ⟨by omega,fun hl=> absurd hl (lessX_irrefl _)⟩
end
open Go.RowKit
section
variable {E : ByteArray -> ByteArray -> Prop} {g : ByteArray}
structure PartR (E:ByteArray->ByteArray->Prop) (g:ByteArray) (n:Nat) (l:List ByteArray) (a:ByteArray) (q:Nat):Prop where
 len:l.length+q=n+1
 pos:1<=q
 far:FarR E g q a
 last: ∃l0,l=l0++ [a]
 rest: ∀r,CircR E g q a r->CircR E g n g (l.dropLast++r)
theorem PartR.start {n:Nat} (h:FarR E g n g):PartR E g n [g] g n:=
 ⟨by simp;omega,h.1.pos,h,⟨[],rfl⟩,fun r hr=> hr⟩
theorem PartR.next {n q:Nat} {l:List ByteArray} {a x:ByteArray} (h:PartR E g n l a (q+1)) (hq:1<=q) (hx:LeastN (fun y=> E a y∧lessX g y∧FarR E g q y) x):PartR E g n (l++ [x]) x q:=by
 obtain ⟨l0,hl0⟩:=h.last
 refine ⟨by have:=h.len;rw [List.length_append];simp;omega,hq,hx.1.2.2,⟨l,rfl⟩,fun r hr=> ?_⟩
 have h1:=h.rest (a :: r) (CircR.step hx hr)
 rw [List.dropLast_concat]
 rw [hl0,List.dropLast_concat] at h1
 rw [hl0,List.append_assoc]
 exact h1
theorem PartR.done {n:Nat} {l:List ByteArray} {a:ByteArray} (h:PartR E g n l a 1):CircR E g n g l:=by
 obtain ⟨l0,hl0⟩:=h.last
 have h1:=h.rest [a] (CircR.stop a)
 rw [hl0,List.dropLast_concat] at h1
 rw [hl0]
 exact h1
theorem PartR.more {n q:Nat} {l:List ByteArray} {a:ByteArray} (h:PartR E g n l a (q+1)) (hq:1<=q): ∃y,E a y∧lessX g y∧FarR E g q y:= ((FarR.succ hq).1 h.far).1
theorem first_least {p:ByteArray->Prop} {l:List ByteArray} (ha:AscB l) (hp: ∀y,p y->y∈l) {k:Nat} (hk:k < l.length) (h:p l[k]) (hno: ∀y∈l.take k,¬p y):LeastN p l[k]:=by
 refine ⟨h,fun y hy hlt=> ?_⟩
 obtain ⟨j,hj,rfl⟩:=List.getElem_of_mem (hp y hy)
 rcases Nat.lt_trichotomy j k with h1 | rfl | h1
 ·exact hno l[j] (by rw [List.mem_take_iff_getElem];exact ⟨j,by omega,rfl⟩) hy
 ·exact lessX_irrefl _ hlt
 ·exact lessX_asymm hlt (List.pairwise_iff_getElem.1 ha k j hk hj h1)
end
def CircleAns (Kj:List Qq) (Kk:List ByteArray) (sl:List Qz) (ns:List ByteArray):Prop:=ns.length<=60∧((ValidX Kj Kk sl∧CircX (WaitsX (Q_ Kj) (Qj sl)) ns)∨(¬ValidX Kj Kk sl∧ns=[]))
theorem CircleAns.len {Kj:List Qq} {Kk:List ByteArray} {sl:List Qz} {ns:List ByteArray} (h:CircleAns Kj Kk sl ns):ns.length<=60:=h.1
theorem CircleAns.one {Kj:List Qq} {Kk:List ByteArray} {sl:List Qz} {ns ms:List ByteArray} (h:CircleAns Kj Kk sl ns) (k:CircleAns Kj Kk sl ms):ms=ns:=by
 rcases h.2 with ⟨h1,h2⟩ | ⟨h1,h2⟩
 ·rcases k.2 with ⟨k1,k2⟩ | ⟨k1,k2⟩
  ·exact k2.unique h2
  ·exact absurd h1 k1
 ·rcases k.2 with ⟨k1,k2⟩ | ⟨k1,k2⟩
  ·exact absurd k1 h1
  ·rw [h2,k2]
theorem BestR.len {E:ByteArray->ByteArray->Prop} {names best:List ByteArray} (h:BestR E names best) (hn: ∀x y,E x y->x∈names):best.length<=names.length:=by
 by_cases e:best=[]
 ·rw [e];exact Nat.zero_le _
 ·obtain ⟨t,n,_,h2,_,h4,_⟩:=h.yes e
  have:=h2.bound hn
  omega
def costOf (W:Acts) (n:ByteArray):Int:=match W n with | some A=> A.cost | none=> 0
theorem costOf_some {W:Acts} {n:ByteArray} {A:ActionD} (h:W n=some A):costOf W n=A.cost:=by unfold costOf;rw [h]
def unitsX (l:List Qz):Int:= (l.map fun r=> r.Zj).sum
def costX (W:Acts) (l:List Qz):Int:= (l.map fun r=> r.Zj * costOf W r.name).sum
theorem unitsX_snoc (l:List Qz) (r:Qz):unitsX (l++ [r])=unitsX l+r.Zj:=by simp [unitsX]
theorem costX_snoc (W:Acts) (l:List Qz) (r:Qz):costX W (l++ [r])=costX W l+r.Zj * costOf W r.name:=by simp [costX]
theorem costOf_le {W:Acts} (hok:ActsOk W) (n:ByteArray):0<=costOf W n∧costOf W n<=20:=by
 unfold costOf
 cases h:W n with
 | none=> exact ⟨Int.le_refl _,by decide⟩
 | some A=> have:= (hok n A h).1.1;show 0<=A.cost∧A.cost<=20;exact ⟨by omega,this.2⟩
theorem units_le : ∀{l:List Qz},(∀r∈l,0<=r.Zj∧r.Zj<=20)->0<=unitsX l∧unitsX l<=20 * (l.length:Int)
 | [],_=> ⟨Int.le_refl _,Int.le_refl _⟩
 | r :: l,h=> by
  have h1:=units_le (l:=l) (fun x hx=> h x (List.mem_cons_of_mem _ hx))
  have h2:=h r (List.mem_cons_self ..)
  have e:unitsX (r :: l)=r.Zj+unitsX l:=by simp [unitsX]
  rw [e,List.length_cons]
  omega
theorem vc_le {v c:Int} (h1:0<=v∧v<=20) (h2:0<=c∧c<=20):0<=v * c∧v * c<=400:=by
 refine ⟨Int.mul_nonneg h1.1 h2.1, ?_⟩
 have h3:v * c<=20 * c:=Int.mul_le_mul_of_nonneg_right h1.2 h2.1
 omega
theorem cost_le {W:Acts} (hok:ActsOk W): ∀{l:List Qz},(∀r∈l,0<=r.Zj∧r.Zj<=20)->0<=costX W l∧costX W l<=400 * (l.length:Int)
 | [],_=> ⟨Int.le_refl _,Int.le_refl _⟩
 | r :: l,h=> by
  have h1:=cost_le hok (l:=l) (fun x hx=> h x (List.mem_cons_of_mem _ hx))
  have h2:=vc_le (h r (List.mem_cons_self ..)) (costOf_le hok r.name)
  have e:costX W (r :: l)=r.Zj * costOf W r.name+costX W l:=by simp [costX]
  rw [e,List.length_cons]
  omega
theorem sums_le {Kj:List Qq} (hok:ActsOk (Q_ Kj)) {l:List Qz} (hg:GoodL Kj l) (hl:l.length<=60) (k:Nat):0<=unitsX (l.take k)∧unitsX (l.take k)<=1200∧0<=costX (Q_ Kj) (l.take k)∧costX (Q_ Kj) (l.take k)<=24000:=by
 have h: ∀r∈l.take k,0<=r.Zj∧r.Zj<=20:=fun r hr=> ⟨(hg.good r (List.mem_of_mem_take hr)).lo,(hg.good r (List.mem_of_mem_take hr)).hi⟩
 have h1:=units_le h
 have h2:=cost_le hok h
 have h3: (l.take k).length<=60:=by rw [List.length_take];omega
 exact ⟨h1.1,by omega,h2.1,by omega⟩
structure ToldV (Kj:List Qq) (Kk:List ByteArray) (sl:List Qz) (o:OutD):Prop where
 res:o.res=Kk.map (resX (Q_ Kj) (Qj sl))
 units:o.units=unitsX sl
 cost:o.cost=costX (Q_ Kj) sl
 rest: ((¬∃r∈o.res,r.over=false)∧o.code=0∧o.chain=[])∨((∃r∈o.res,r.over=false)∧(∃r∈sl,CanGo (Q_ Kj) (Qj sl) r)∧o.code=2∧o.chain=[])∨((∃r∈o.res,r.over=false)∧(¬∃r∈sl,CanGo (Q_ Kj) (Qj sl) r)∧o.code=1∧CircX (WaitsX (Q_ Kj) (Qj sl)) o.chain)
theorem OutD.ext' {o p:OutD} (h0:o.code=p.code) (h1:o.res=p.res) (h2:o.chain=p.chain) (h3:o.units=p.units) (h4:o.cost=p.cost):o=p:=by
 cases o;cases p
 simp only at h0 h1 h2 h3 h4
 rw [h0,h1,h2,h3,h4]
theorem ToldV.one {Kj:List Qq} {Kk:List ByteArray} {sl:List Qz} {o p:OutD} (h:ToldV Kj Kk sl o) (k:ToldV Kj Kk sl p):p=o:=by
 have er:p.res=o.res:=k.res.trans h.res.symm
 have hk:=k.rest
 rw [er] at hk
 have hc:p.code=o.code∧p.chain=o.chain:=by
  rcases h.rest with ⟨a1,a2,a3⟩ | ⟨a1,a0,a2,a3⟩ | ⟨a1,a0,a2,a3⟩ <;> rcases hk with ⟨b1,b2,b3⟩ | ⟨b1,b0,b2,b3⟩ | ⟨b1,b0,b2,b3⟩
  ·exact ⟨b2.trans a2.symm,b3.trans a3.symm⟩
  ·exact absurd b1 a1
  ·exact absurd b1 a1
  ·exact absurd a1 b1
  ·exact ⟨b2.trans a2.symm,b3.trans a3.symm⟩
  ·exact absurd a0 b0
  ·exact absurd a1 b1
  ·exact absurd b0 a0
  ·exact ⟨b2.trans a2.symm,b3.unique a3⟩
 exact OutD.ext' hc.1 er hc.2 (k.units.trans h.units.symm) (k.cost.trans h.cost.symm)
def outNo :OutD:= ⟨9,[],[],0,0⟩
def ToldAns (Kj:List Qq) (Kk:List ByteArray) (sl:List Qz) (o:OutD):Prop:= (o.res.length<=10∧o.chain.length<=60)∧((ValidX Kj Kk sl∧ToldV Kj Kk sl o)∨(¬ValidX Kj Kk sl∧o=outNo))
theorem ToldAns.one {Kj:List Qq} {Kk:List ByteArray} {sl:List Qz} {o p:OutD} (h:ToldAns Kj Kk sl o) (k:ToldAns Kj Kk sl p):p=o:=by
 rcases h.2 with ⟨h1,h2⟩ | ⟨h1,h2⟩
 ·rcases k.2 with ⟨k1,k2⟩ | ⟨k1,k2⟩
  ·exact h2.one k2
  ·exact absurd h1 k1
 ·rcases k.2 with ⟨k1,k2⟩ | ⟨k1,k2⟩
  ·exact absurd k1 h1
  ·rw [h2,k2]
theorem resX_size {Kj:List Qq} {sl:List Qz} (hg:GoodL Kj sl) {n:ByteArray} (hn:n.size<=20): (resX (Q_ Kj) (Qj sl) n).text.size<=200:=by
 unfold resX
 cases h:ansOf (Q_ Kj) (Qj sl) n with
 | none=> exact Nat.zero_le _
 | some x=> exact ansOf_size hg.env hn h
def ringF (V:Nat->Nat) (f n i:Nat):Value:= .int .i64 ((if i < 60 then V i else if i=60 then f else n:Nat):Int)
structure RingM (w:World) (rb:Nat) (Q:List Nat):Prop where
 ex: ∃V f,f < 60∧Q.length<=60∧w.rowIs rb 294 62 (ringF V f Q.length)∧∀i,i < Q.length->V ((f+i) % 60)=Q.getD i 0
theorem RingM.lt {w:World} {rb:Nat} {Q:List Nat} (h:RingM w rb Q):rb < w.heap.size:=by obtain ⟨V,f,_,_,⟨c,h1,_⟩,_⟩:=h;exact heap_lt h1
theorem RingM.block {w w':World} {rb:Nat} {Q:List Nat} (h:RingM w rb Q) (k:w'.heap[rb]? =w.heap[rb]?):RingM w' rb Q:=by
 obtain ⟨V,f,h1,h2,⟨c,h3,h4⟩,h5⟩:=h
 exact ⟨V,f,h1,h2,⟨c,k.trans h3,h4⟩,h5⟩
theorem row_put {w:World} {b n:Nat} {t:TypeId} {F G:Nat->Value} (h:w.rowIs b t n F) (i:Nat) (v:Value) (hG: ∀p,p < n->G p=if p=i then v else F p): (w.setCell ⟨b,i,none⟩ v).rowIs b t n G:=by
 obtain ⟨c,h1,h2,h3⟩:=World.rowIs.set h i v
 refine ⟨c,h1,h2,fun p hp=> ?_⟩
 rw [h3 p hp,hG p hp]
theorem row_kept {w w':World} {b n:Nat} {t:TypeId} {F:Nat->Value} (h:w.rowIs b t n F) (k:K_ w w'):w'.rowIs b t n F:=by
 obtain ⟨c,h1,h2⟩:=h
 exact ⟨c,(k.block b (heap_lt h1)).trans h1,h2⟩
theorem put_any (w:World) (rb:Nat) (Q:List Nat) (p:Nat) (hR:RingM w rb Q) (hl:Q.length < 60):
  Calls Tryz.prog 218 #[.pointer (some ⟨rb,0,none⟩),.int .i64 (p:Int)] w fun e w'=> e= .returned (.tuple #[])∧RingM w' rb (Q++ [p])∧But (fun b=> b=rb) w w':=by
 obtain ⟨V,f,hf,hn,hr,hV⟩:=hR.ex
 obtain ⟨n,hnn⟩: ∃n,n=Q.length:= ⟨_,rfl⟩
 rw [<-hnn] at hr hl
 obtain ⟨k,hk⟩: ∃k,k= (f+n) % 60:= ⟨_,rfl⟩
 have hk60:k < 60:=by omega
 have c1:w.cell? ⟨rb,60,none⟩=some (.int .i64 (f:Int)):=by rw [hr.cell (by omega)];rfl
 have c2:w.cell? ⟨rb,61,none⟩=some (.int .i64 (n:Int)):=by rw [hr.cell (by omega)];rfl
 have hdm: ((f:Int)+ (n:Int)).tmod 60= (k:Int):=by rw [Int.tmod_eq_emod_of_nonneg (by omega)];omega
 have hfr:=fun i=> hr.frozen i
 have f0:=hfr k
 have f1:=hfr 61
 have hki: (k:Int) < 60:=by omega
 have o0:=hr.cell (show k < 62 by omega)
 have hw1:=row_put hr k (.int .i64 (p:Int)) (G:=ringF (fun i=> if i=k then p else V i) f n) (fun i hi=> by
  unfold ringF
  by_cases e:i=k
  ·subst e;simp [hk60]
  ·simp [e])
 obtain ⟨w1,hw1e⟩: ∃w1,w1=w.setCell ⟨rb,k,none⟩ (.int .i64 (p:Int)):= ⟨_,rfl⟩
 rw [<-hw1e] at hw1
 have kb1:But (fun b=> b=rb) w w1:=by rw [hw1e];exact But.set (S:=fun b=> b=rb) (But.of_kept (K_.refl w)) (p:= ⟨rb,k,none⟩) rfl _
 have HW1:=Kz hw1
 have HKb:=Kz kb1
 have HV:Hid (∀i,i < Q.length->V ((f+i) % 60)=Q.getD i 0):=hV
 have HK:Hid (k= (f+n) % 60):=hk
 have HN:Hid (n=Q.length):=hnn
 clear hr hfr hw1 kb1 hV hk hnn hR
 go_enter Tryz.func218,Tryz.ntmps218
 go_wp2
 go_region
 rw [<-hw1e]
 have KD:K_ w1 w1.drew:= (K_.refl w1).drew
 generalize hwd:w1.drew=w2 at KD⊢
 clear hw1e hwd c1 c2 f0 f1 o0 hdm
 have hr2:=row_kept HW1.out KD
 have c2:w2.cell? ⟨rb,61,none⟩=some (.int .i64 (n:Int)):=by rw [hr2.cell (by omega)];rfl
 have f1:=hr2.frozen 61
 have HR2:=Kz hr2
 have HK2:=Kz (HKb.out.trans (But.of_kept KD))
 clear hr2 KD
 go_wp2_with fail
 go_end0
 refine ⟨rfl,⟨fun i=> if i=k then p else V i,f,hf,by rw [List.length_append];simp;have:=HN.out;omega, ?_,fun i hi=> ?_⟩,But.set (S:=fun b=> b=rb) HK2.out (p:= ⟨rb,61,none⟩) rfl _⟩
 ·rw [List.length_append]
  refine row_put HR2.out 61 _ (fun i hi=> ?_)
  unfold ringF
  have hn2:=HN.out
  by_cases e:i=61
  ·subst e;simp [hn2]
  ·have e2: ¬i < 60->i=60:=by omega
   by_cases e3:i < 60
   ·simp [e3,e]
   ·simp [e2 e3]
 ·rw [List.length_append] at hi
  have hn2:=HN.out
  have hk2:=HK.out
  by_cases e:i=Q.length
  ·subst e
   simp only [<-hn2,<-hk2,if_true,List.getD]
   rw [hn2]
   simp
  ·have hiq:i < Q.length:=by simp at hi;omega
   have hne: (f+i) % 60≠k:=by omega
   simp only [if_neg hne,HV.out i hiq,List.getD,List.getElem?_append_left hiq]
theorem take_any (w:World) (rb:Nat) (Q:List Nat) (p:Nat) (hR:RingM w rb (p :: Q)):
  Calls Tryz.prog 219 #[.pointer (some ⟨rb,0,none⟩)] w fun e w'=> e= .returned (.int .i64 (p:Int))∧RingM w' rb Q∧But (fun b=> b=rb) w w':=by
 obtain ⟨V,f,hf,hn,hr,hV⟩:=hR.ex
 obtain ⟨n,hnn⟩: ∃n,n=Q.length:= ⟨_,rfl⟩
 have hp:V f=p:=by have:=hV 0 (by simp);simpa [Nat.mod_eq_of_lt hf] using this
 rw [List.length_cons,<-hnn] at hr
 rw [List.length_cons,<-hnn] at hn
 have hfi: (f:Int) < 60:=by omega
 have HC0:Hid (∀u,w.rowIs rb 294 62 (ringF V f (n+1))->K_ w u->u.cell? ⟨rb,60,none⟩=some (.int .i64 (f:Int))∧u.cell? ⟨rb,f,none⟩=some (.int .i64 (p:Int))):=fun u hr k=> by
  have h2:=row_kept hr k
  refine ⟨by rw [h2.cell (by omega)];rfl, ?_⟩
  rw [h2.cell (by omega)]
  unfold ringF
  rw [if_pos hf,hp]
 obtain ⟨c1,c2⟩:=HC0.out w hr (K_.refl w)
 have HR:=Kz hr
 have HV:Hid (∀i,i < Q.length->V ((f+ (i+1)) % 60)=Q.getD i 0):=fun i hi=> by have:=hV (i+1) (by simp;omega);simpa using this
 have HN:Hid (n=Q.length):=hnn
 clear hr hV hnn hR hp HC0
 go_enter Tryz.func219,Tryz.ntmps219
 go_wp2
 go_region
 have KD:K_ w w.drew:= (K_.refl w).drew
 generalize hwd:w.drew=w1 at KD⊢
 clear hwd c1 c2
 have hr1:=row_kept HR.out KD
 have c1:w1.cell? ⟨rb,60,none⟩=some (.int .i64 (f:Int)):=by rw [hr1.cell (by omega)];rfl
 obtain ⟨k,hk⟩: ∃k,k= (f+1) % 60:= ⟨_,rfl⟩
 have hdm: ((f:Int)+1).tmod 60= (k:Int):=by rw [Int.tmod_eq_emod_of_nonneg (by omega)];omega
 have f1:=hr1.frozen 60
 have HR1:=Kz hr1
 have HK:=Kz hk
 clear hr1 HR hk
 go_upto_region 3 with fail
 have hr2:=row_put HR1.out 60 (.int .i64 (k:Int)) (G:=ringF V k (n+1)) (fun i hi=> by
  unfold ringF
  by_cases e:i=60
  ·subst e;simp
  ·by_cases e3:i < 60
   ·simp [e3,e]
   ·simp [e3,e])
 have kb:But (fun b=> b=rb) w (w1.setCell ⟨rb,60,none⟩ (.int .i64 (k:Int))):=But.set (S:=fun b=> b=rb) (But.of_kept KD) (p:= ⟨rb,60,none⟩) rfl _
 generalize hw2:w1.setCell ⟨rb,60,none⟩ (.int .i64 (k:Int))=w2 at hr2 kb⊢
 clear hw2 c1 f1 hdm
 have c2:w2.cell? ⟨rb,61,none⟩=some (.int .i64 ((n+1:Nat):Int)):=by rw [hr2.cell (by omega)];rfl
 have f2:=hr2.frozen 61
 have hsub: ((n+1:Nat):Int) - 1= (n:Int):=by omega
 have hr3:=row_put hr2 61 (.int .i64 (n:Int)) (G:=ringF V k n) (fun i hi=> by
  unfold ringF
  by_cases e:i=61
  ·subst e;simp
  ·have e2: ¬i < 60->i=60:=by omega
   by_cases e3:i < 60
   ·simp [e3,e]
   ·simp [e2 e3])
 have HR3:=Kz hr3
 have HB:=Kz (But.set (S:=fun b=> b=rb) kb (p:= ⟨rb,61,none⟩) rfl (.int .i64 (n:Int)))
 clear hr2 hr3 kb
 go_wp2_with fail
 go_ret
 refine ⟨rfl,⟨V,k, ?_, ?_, ?_,fun i hi=> ?_⟩,HB.out⟩
 ·rw [HK.out];omega
 ·have:=HN.out;omega
 ·rw [<-HN.out];exact HR3.out
 ·rw [<-HV.out i hi]
  have:=HK.out
  congr 1
  omega
theorem cmpLess_any (w:World) (x y:ByteArray):Calls Tryz.prog 191 #[.string x,.string y] w fun e w'=> e= .returned (.bool (Op.bytesLess x.toList y.toList))∧w'=w:=by
 cases h1:Op.bytesLess x.toList y.toList
 all_goals
  go_enter Tryz.func191,Tryz.ntmps191
  go_wp2
  go_ret
  exact ⟨rfl,rfl⟩
theorem slicesNaN_any (w:World) (x:ByteArray):Calls Tryz.prog 192 #[.string x] w fun e w'=> e= .returned (.bool false)∧w'=w:=by
 go_enter Tryz.func192,Tryz.ntmps192
 go_wp2
 go_ret
 exact ⟨rfl,rfl⟩
def FoundS (l:List ByteArray) (s:ByteArray) (e:Ending):Prop:= ∃(k:Nat) (b:Bool),e= .returned (.tuple #[.int .i64 (k:Int),.bool b])∧(b=true->k < l.length∧l.getD k ByteArray.empty=s)∧(b=false->s∉l)
theorem FoundS.mk {l:List ByteArray} {s:ByteArray} {e:Ending} (k:Nat) (b:Bool) (h:e= .returned (.tuple #[.int .i64 (k:Int),.bool b])) (h1:b=true->k < l.length∧l.getD k ByteArray.empty=s) (h2:b=false->s∉l):FoundS l s e:= ⟨k,b,h,h1,h2⟩
theorem bsearch_any (w:World) (a:Option Addr) (cap:Nat) (l:List ByteArray) (s:ByteArray) (hl:l.length<=1048576) (ha:AscB l) (hS:Strs w a l):
  Calls Tryz.prog 167 #[.slice a l.length cap,.string s] w fun e w'=> FoundS l s e∧w'=w:=by
 have HA:Hid (∀p q,p < q->q < l.length->lessX (l.getD p ByteArray.empty) (l.getD q ByteArray.empty)):=fun p q h1 h2=> by
  have:=List.pairwise_iff_getElem.1 ha p q (by omega) h2 h1
  simpa [List.getD,h2,show p < l.length by omega] using this
 clear ha
 go_enter Tryz.func167,Tryz.ntmps167
 go_wp2
 go_loopw [7,8] (fun x y wr=> ∃i j:Nat,x= .int .i64 i∧y= .int .i64 j∧i<=j∧j<=l.length∧Hid (∀t,t < i->lessX (l.getD t ByteArray.empty) s)∧Hid (∀t,j<=t->t < l.length->¬lessX (l.getD t ByteArray.empty) s)∧wr=w) (fun x y _=> (intOf y).toNat - (intOf x).toNat)
 case atStart=> exact ⟨0,l.length,rfl,rfl,Nat.zero_le _,Nat.le_refl _,Kz (fun t ht=> absurd ht (Nat.not_lt_zero _)),Kz (fun t h1 h2=> by omega),rfl⟩
 case round=>
  obtain ⟨i,j,rfl,rfl,hij,hjn,HB,HN,rfl⟩:=hrel
  by_cases hlt: (i:Int) < j
  ·obtain ⟨h,hh⟩: ∃h:Nat,h= (i+j) / 2:= ⟨_,rfl⟩
   have hhlt:h < l.length:=by omega
   have hhi:i<=h:=by omega
   have hhj:h < j:=by omega
   obtain ⟨b,o,rfl,hb,hcs⟩:=hS h hhlt
   obtain ⟨d,hd⟩: ∃d,d=l.getD h ByteArray.empty:= ⟨_,rfl⟩
   rw [<-hd] at hcs
   have HD:=Kz hd
   clear hd
   have hmid: ((i:Int)+ (j:Int)) / 2= (h:Int):=by omega
   have HH:=Kz hh
   clear hh
   go_wp2_with fail
   refine (cmpLess_any _ d s).mono ?_
   rintro e w1 ⟨rfl,rfl⟩
   clear hcs
   cases hls:Op.bytesLess d.toList s.toList
   ·go_wp2_with fail
    go_roundw
    case rel=>
     refine ⟨i,h,rfl,by go_num,hhi,by omega,HB,Kz (fun t h1 h2 hlt2=> ?_),trivial⟩
     have hno: ¬lessX (l.getD h ByteArray.empty) s:=fun g=> by rw [<-HD.out] at g;unfold lessX at g;rw [hls] at g;cases g
     rcases Nat.lt_or_ge h t with e | e
     ·exact hno (lessX_trans (HA.out h t e h2) hlt2)
     ·have:t=h:=by omega
      subst this
      exact hno hlt2
    case measure=> simp [intOf];omega
   ·go_wp2_with fail
    go_roundw
    case rel=>
     refine ⟨h+1,j,by go_num,rfl,by omega,hjn,Kz (fun t ht=> ?_),HN,trivial⟩
     have hyes:lessX (l.getD h ByteArray.empty) s:=by rw [<-HD.out];exact hls
     rcases Nat.lt_or_ge t h with e | e
     ·exact lessX_trans (HA.out t h e hhlt) hyes
     ·have:t=h:=by omega
      subst this
      exact hyes
    case measure=> simp [intOf];omega
  ·have hij':i=j:=by omega
   subst hij'
   have HMem:Hid (s∈l->i < l.length∧l.getD i ByteArray.empty=s):=fun hm=> by
    obtain ⟨q,hq,e⟩:=List.getElem_of_mem hm
    have e2:l.getD q ByteArray.empty=s:=by simpa [List.getD,hq] using e
    have h1: ¬q < i:=fun g=> by have:=HB.out q g;rw [e2] at this;exact lessX_irrefl _ this
    have h2:q=i:=by
     rcases Nat.lt_or_ge i q with g | g
     ·have h3:=HA.out i q g hq
      rw [e2] at h3
      exact absurd h3 (HN.out i (Nat.le_refl _) (by omega))
     ·omega
    subst h2
    exact ⟨hq,e2⟩
   by_cases hin:i < l.length
   ·obtain ⟨b,o,rfl,hb,hcs⟩:=hS i hin
    obtain ⟨d,hd⟩: ∃d,d=l.getD i ByteArray.empty:= ⟨_,rfl⟩
    rw [<-hd] at hcs
    have HD:=Kz hd
    clear hd
    have hii: (i:Int) < (l.length:Int):=by omega
    cases heq: (d.toList == s.toList)
    ·go_wp2_with (first | (go_at_call 192;refine (slicesNaN_any _ _).mono ?_;rintro e w1 ⟨rfl,rfl⟩))
     go_ret2
     exact ⟨FoundS.mk i false rfl (fun h=> by cases h) (fun _ hm=> by
      have h2:= (HMem.out hm).2
      rw [<-HD.out] at h2
      rw [h2] at heq
      simp at heq),rfl⟩
    ·go_wp2_with fail
     go_ret2
     exact ⟨FoundS.mk i true rfl (fun _=> ⟨hin,by rw [<-HD.out];exact beq_yes heq⟩) (fun h=> by cases h),rfl⟩
   ·go_wp2_with fail
    go_ret2
    exact ⟨FoundS.mk i false rfl (fun h=> by cases h) (fun _ hm=> hin (HMem.out hm).1),rfl⟩
structure NeedP (E:ByteArray->ByteArray->Prop) (nm:List ByteArray) (k:Nat) (S:List ByteArray) (j M:Nat) (need back:Nat->List Nat):Prop where
 fwd: ∀p q,q∈need p↔(p < k∧EdgeP E nm p q)∨(p=k∧∃hq:q < nm.length,nm[q]∈S.take j)
 bwd: ∀p q,p∈back q↔(p < k∧EdgeP E nm p q)∨(p=k∧∃hq:q < nm.length,nm[q]∈S.take j)
 asc: ∀p,(need p).Pairwise (· <= ·)
 len: ∀p,(need p).length<=M∧(back p).length<=M
structure NeedR (E:ByteArray->ByteArray->Prop) (nm:List ByteArray) (M:Nat) (need back:Nat->List Nat):Prop where
 fwd: ∀p q,q∈need p↔EdgeP E nm p q
 bwd: ∀p q,p∈back q↔EdgeP E nm p q
 asc: ∀p,(need p).Pairwise (· <= ·)
 len: ∀p,(need p).length<=M∧(back p).length<=M
section
variable {E : ByteArray -> ByteArray -> Prop} {nm S : List ByteArray} {k j M : Nat} {need back : Nat -> List Nat}
theorem NeedP.start (E:ByteArray->ByteArray->Prop) (nm S:List ByteArray):NeedP E nm 0 S 0 0 (fun _=> []) (fun _=> []):=
 ⟨fun p q=> by simp,fun p q=> by simp,fun p=> List.Pairwise.nil,fun p=> ⟨Nat.le_refl _,Nat.le_refl _⟩⟩
theorem NeedP.enter (h:NeedP E nm k S 0 M need back) (S':List ByteArray):NeedP E nm k S' 0 M need back:=
 ⟨fun p q=> by rw [h.fwd];simp,fun p q=> by rw [h.bwd];simp,h.asc,h.len⟩
theorem NeedP.leave (h:NeedP E nm k S j M need back) (hk:k < nm.length) (hj:S.length<=j) (hS: ∀y,y∈S↔E nm[k] y):NeedP E nm (k+1) [] 0 M need back:=by
 have key: ∀p q,(p < k∧EdgeP E nm p q)∨(p=k∧∃hq:q < nm.length,nm[q]∈S.take j)↔(p < k+1∧EdgeP E nm p q)∨(p=k+1∧∃hq:q < nm.length,nm[q]∈([]:List ByteArray).take 0):=fun p q=> by
  rw [List.take_of_length_le hj]
  constructor
  ·rintro (⟨h1,h2⟩ | ⟨rfl,hq,h2⟩)
   ·exact .inl ⟨by omega,h2⟩
   ·exact .inl ⟨by omega,hk,hq,(hS _).1 h2⟩
  ·rintro (⟨h1,hp,hq,h2⟩ | ⟨_,_,h2⟩)
   ·by_cases e:p=k
    ·subst e;exact .inr ⟨rfl,hq,(hS _).2 h2⟩
    ·exact .inl ⟨by omega,hp,hq,h2⟩
   ·simp at h2
 exact ⟨fun p q=> (h.fwd p q).trans (key p q),fun p q=> (h.bwd p q).trans (key p q),h.asc,h.len⟩
theorem NeedP.skip (h:NeedP E nm k S j M need back) (hj:j < S.length) (hno:S[j]∉nm):NeedP E nm k S (j+1) M need back:=by
 have key: ∀q:Nat,(∃hq:q < nm.length,nm[q]∈S.take j)↔∃hq:q < nm.length,nm[q]∈S.take (j+1):=fun q=> by
  rw [List.take_succ_eq_append_getElem hj]
  constructor
  ·rintro ⟨hq,h1⟩;exact ⟨hq,List.mem_append.2 (.inl h1)⟩
  ·rintro ⟨hq,h1⟩
   rcases List.mem_append.1 h1 with h2 | h2
   ·exact ⟨hq,h2⟩
   ·rw [List.mem_singleton] at h2
    exact absurd (by rw [<-h2];exact List.getElem_mem hq) hno
 exact ⟨fun p q=> by rw [h.fwd,key],fun p q=> by rw [h.bwd,key],h.asc,h.len⟩
theorem NeedP.put (hP:Places E nm) (h:NeedP E nm k S j M need back) (hj:j < S.length) (hS:S.Pairwise fun a b=> ¬lessX b a) {q:Nat} (hq:q < nm.length) (he:nm[q]=S[j]) (hk:k < nm.length) (hsub: ∀y∈S,E nm[k] y):
  NeedP E nm k S (j+1) (M+1) (fun p=> if p=k then need k++ [q] else need p) (fun p=> if p=q then back q++ [k] else back p):=by
 have key: ∀r:Nat,(∃hr:r < nm.length,nm[r]∈S.take (j+1))↔(∃hr:r < nm.length,nm[r]∈S.take j)∨r=q:=fun r=> by
  rw [List.take_succ_eq_append_getElem hj]
  constructor
  ·rintro ⟨hr,h1⟩
   rcases List.mem_append.1 h1 with h2 | h2
   ·exact .inl ⟨hr,h2⟩
   ·rw [List.mem_singleton,<-he] at h2
    exact .inr (hP.inj hr hq h2)
  ·rintro (⟨hr,h1⟩ | rfl)
   ·exact ⟨hr,List.mem_append.2 (.inl h1)⟩
   ·exact ⟨hq,List.mem_append.2 (.inr (by rw [he];simp))⟩
 refine ⟨fun p r=> ?_,fun p r=> ?_,fun p=> ?_,fun p=> ⟨?_, ?_⟩⟩
 ·rw [key]
  by_cases e:p=k
  ·subst e
   simp only [if_true,List.mem_append,List.mem_singleton,h.fwd]
   constructor
   ·rintro ((⟨h1,h2⟩ | ⟨_,h2⟩) | h2)
    ·exact .inl ⟨h1,h2⟩
    ·exact .inr ⟨trivial,.inl h2⟩
    ·exact .inr ⟨trivial,.inr h2⟩
   ·rintro (⟨h1,h2⟩ | ⟨_,h2 | h2⟩)
    ·exact .inl (.inl ⟨h1,h2⟩)
    ·exact .inl (.inr ⟨trivial,h2⟩)
    ·exact .inr h2
  ·show (r∈if p=k then need k++ [q] else need p)↔_
   rw [if_neg e,h.fwd]
   simp only [e,false_and,or_false]
 ·rw [key]
  by_cases e:r=q
  ·subst e
   simp only [if_true,List.mem_append,List.mem_singleton,h.bwd]
   constructor
   ·rintro ((h1 | ⟨h1,h2⟩) | h1)
    ·exact .inl h1
    ·exact .inr ⟨h1,.inl h2⟩
    ·exact .inr ⟨h1,.inr trivial⟩
   ·rintro (h1 | ⟨h1,h2 | _⟩)
    ·exact .inl (.inl h1)
    ·exact .inl (.inr ⟨h1,h2⟩)
    ·exact .inr h1
  ·show (p∈if r=q then back q++ [k] else back r)↔_
   rw [if_neg e,h.bwd]
   simp only [e,or_false]
 ·by_cases e:p=k
  ·subst e
   simp only [if_true]
   rw [List.pairwise_append]
   refine ⟨h.asc p,by simp,fun a ha b hb=> ?_⟩
   rw [List.mem_singleton] at hb
   subst hb
   rcases (h.fwd p a).1 ha with ⟨h1,_⟩ | ⟨_,har,h2⟩
   ·omega
   ·obtain ⟨i,hi,h3⟩:=List.mem_take_iff_getElem.1 h2
    have h4:=List.pairwise_iff_getElem.1 hS i j (by omega) hj (by omega)
    rw [h3,<-he,hP.less hq har] at h4
    omega
  ·simp only [if_neg e];exact h.asc p
 ·by_cases e:p=k
  ·simp only [e,if_true,List.length_append,List.length_singleton];have:= (h.len k).1;omega
  ·simp only [if_neg e];have:= (h.len p).1;omega
 ·by_cases e:p=q
  ·simp only [e,if_true,List.length_append,List.length_singleton];have:= (h.len q).2;omega
  ·simp only [if_neg e];have:= (h.len p).2;omega
theorem NeedP.whole (h:NeedP E nm nm.length [] 0 M need back):NeedR E nm M need back:=by
 have key: ∀p q,(p < nm.length∧EdgeP E nm p q)∨(p=nm.length∧∃hq:q < nm.length,nm[q]∈([]:List ByteArray).take 0)↔EdgeP E nm p q:=fun p q=> by
  constructor
  ·rintro (⟨_,h1⟩ | ⟨_,_,h1⟩)
   ·exact h1
   ·simp at h1
  ·intro h1
   exact .inl ⟨h1.1,h1⟩
 exact ⟨fun p q=> (h.fwd p q).trans (key p q),fun p q=> (h.bwd p q).trans (key p q),h.asc,h.len⟩
end
section
variable {R : Nat -> Nat -> Prop} {t : Nat}
structure PartP (R:Nat->Nat->Prop) (t n:Nat) (l:List Nat) (a q:Nat):Prop where
 len:l.length+q=n+1
 pos:1<=q
 more:2<=q->∃y,R a y∧Far R t (q - 1) y
 last: ∃l0,l=l0++ [a]
 rest: ∀r,CircP R t q a r->CircP R t n t (l.dropLast++r)
theorem PartP.start {n:Nat} (h:SizeP R t n):PartP R t n [t] t n:=by
 refine ⟨by simp;omega,h.1,fun h2=> ?_,⟨[],rfl⟩,fun r hr=> hr⟩
 obtain ⟨m,rfl⟩: ∃m,n=m+1:= ⟨n - 1,by omega⟩
 obtain ⟨y,h3,h4⟩:=h.2.1.first
 refine ⟨y,h3,h4,fun i hi hw=> h.2.2 (i+1) (by omega) (by omega) (.step h3 hw)⟩
theorem PartP.next {n q a x:Nat} {l:List Nat} (h:PartP R t n l a (q+1)) (hq:1<=q) (hx:LeastP (fun y=> R a y∧Far R t q y) x):PartP R t n (l++ [x]) x q:=by
 obtain ⟨l0,hl0⟩:=h.last
 refine ⟨by have:=h.len;rw [List.length_append];simp;omega,hq,fun h2=> ?_,⟨l,rfl⟩,fun r hr=> ?_⟩
 ·obtain ⟨m,rfl⟩: ∃m,q=m+1:= ⟨q - 1,by omega⟩
  exact hx.1.2.next
 ·have h1:=h.rest (a :: r) (CircP.step hx hr)
  rw [List.dropLast_concat]
  rw [hl0,List.dropLast_concat] at h1
  rw [hl0,List.append_assoc]
  exact h1
theorem PartP.done {n a:Nat} {l:List Nat} (h:PartP R t n l a 1):CircP R t n t l:=by
 obtain ⟨l0,hl0⟩:=h.last
 have h1:=h.rest [a] (CircP.stop a)
 rw [hl0,List.dropLast_concat] at h1
 rw [hl0]
 exact h1
theorem first_leastP {p:Nat->Prop} {l:List Nat} (ha:l.Pairwise (· <= ·)) (hp: ∀y,p y->y∈l) {k:Nat} (hk:k < l.length) (h:p l[k]) (hno: ∀j (hj:j < l.length),j < k->¬p l[j]):LeastP p l[k]:=by
 refine ⟨h,fun y hy=> ?_⟩
 obtain ⟨j,hj,rfl⟩:=List.getElem_of_mem (hp y hy)
 rcases Nat.lt_trichotomy j k with h1 | rfl | h1
 ·exact absurd hy (hno j hj h1)
 ·exact Nat.le_refl _
 ·exact List.pairwise_iff_getElem.1 ha k j hk hj h1
theorem CircP.len {n a:Nat} {l:List Nat} (h:CircP R t n a l):l.length=n:=by
 induction h with
 | stop=> rfl
 | step _ _ ih=> simp [ih]
end
structure ReachI (E:ByteArray->ByteArray->Prop) (x:ByteArray) (ns:List ByteArray):Prop where
 asc:AscB ns
 sub: ∀s∈ns,∃n,WalkN E (n+1) x s
 base: ∀s,E x s->s∈ns
def ReachL (E:ByteArray->ByteArray->Prop) (x:ByteArray) (ns:List ByteArray):Prop:=AscB ns∧∀s,s∈ns↔∃n,WalkN E (n+1) x s
structure MoreI (E:ByteArray->ByteArray->Prop) (out:List ByteArray) (k:Nat) (list:List ByteArray) (j:Nat) (more:List ByteArray):Prop where
 asc:AscB more
 iff: ∀s,s∈more↔s∈out∨(∃c∈out.take k,E c s)∨s∈list.take j
section
variable {E : ByteArray -> ByteArray -> Prop} {x : ByteArray} {out more list : List ByteArray}
theorem asc_nodupB {l:List ByteArray} (h:AscB l):l.Nodup:=h.imp fun {_a _b} hab=> lessX_ne hab
theorem MoreI.start (h:AscB out):MoreI E out 0 [] 0 out:= ⟨h,fun s=> by simp⟩
theorem MoreI.enter {k:Nat} (h:MoreI E out k [] 0 more) (list:List ByteArray):MoreI E out k list 0 more:= ⟨h.asc,fun s=> by rw [h.iff];simp⟩
theorem MoreI.step {k j:Nat} {more':List ByteArray} (h:MoreI E out k list j more) (hj:j < list.length) (ha:AscB more') (hm: ∀s,s∈more'↔s∈more∨s=list[j]):MoreI E out k list (j+1) more':=by
 refine ⟨ha,fun s=> ?_⟩
 rw [hm,h.iff,List.take_succ_eq_append_getElem hj,List.mem_append,List.mem_singleton]
 constructor
 ·rintro ((h1 | h1 | h1) | h1)
  ·exact .inl h1
  ·exact .inr (.inl h1)
  ·exact .inr (.inr (.inl h1))
  ·exact .inr (.inr (.inr h1))
 ·rintro (h1 | h1 | h1 | h1)
  ·exact .inl (.inl h1)
  ·exact .inl (.inr (.inl h1))
  ·exact .inl (.inr (.inr h1))
  ·exact .inr h1
theorem MoreI.leave {k j:Nat} (h:MoreI E out k list j more) (hk:k < out.length) (hj:list.length<=j) (hl: ∀s,s∈list↔E out[k] s):MoreI E out (k+1) [] 0 more:=by
 refine ⟨h.asc,fun s=> ?_⟩
 rw [h.iff,List.take_of_length_le hj,List.take_succ_eq_append_getElem hk]
 constructor
 ·rintro (h1 | ⟨c,h1,h2⟩ | h1)
  ·exact .inl h1
  ·exact .inr (.inl ⟨c,List.mem_append.2 (.inl h1),h2⟩)
  ·exact .inr (.inl ⟨out[k],List.mem_append.2 (.inr (by simp)),(hl s).1 h1⟩)
 ·rintro (h1 | ⟨c,h1,h2⟩ | h1)
  ·exact .inl h1
  ·rcases List.mem_append.1 h1 with h3 | h3
   ·exact .inr (.inl ⟨c,h3,h2⟩)
   ·rw [List.mem_singleton] at h3;rw [h3] at h2;exact .inr (.inr ((hl s).2 h2))
  ·simp at h1
theorem MoreI.len {k j:Nat} (ho:AscB out) (h:MoreI E out k list j more):out.length<=more.length:=List.Nodup.length_le_of_subset (asc_nodupB ho) (fun s hs=> (h.iff s).2 (.inl hs))
theorem ReachI.done (h:ReachI E x out) (hm:MoreI E out out.length [] 0 more) (hl:more.length=out.length):ReachL E x out:=by
 have hsub: ∀s∈more,s∈out:=fun s hs=> by
  by_cases hn:s∈out
  ·exact hn
  ·have:=List.Nodup.length_le_of_subset (l₁:=s :: out) (l₂:=more) (List.nodup_cons.2 ⟨hn,asc_nodupB h.asc⟩) (fun y hy=> by
    rcases List.mem_cons.1 hy with rfl | hy
    ·exact hs
    ·exact (hm.iff y).2 (.inl hy))
   simp at this
   omega
 have hclo: ∀c∈out,∀s,E c s->s∈out:=fun c hc s hs=> hsub s ((hm.iff s).2 (.inr (.inl ⟨c,by rw [List.take_length];exact hc,hs⟩)))
 refine ⟨h.asc,fun s=> ⟨h.sub s, ?_⟩⟩
 rintro ⟨n,hw⟩
 obtain ⟨b,h1,h2⟩:=hw.first
 have key: ∀{n:Nat} {b s:ByteArray},WalkN E n b s->b∈out->s∈out:=by
  intro n b s hw
  induction hw with
  | here a=> exact id
  | step h3 _ ih=> exact fun hb=> ih (hclo _ hb _ h3)
 exact key h2 (h.base b h1)
theorem ReachI.next (h:ReachI E x out) (hm:MoreI E out out.length [] 0 more):ReachI E x more:=by
 refine ⟨hm.asc,fun s hs=> ?_,fun s hs=> (hm.iff s).2 (.inl (h.base s hs))⟩
 rcases (hm.iff s).1 hs with h1 | ⟨c,h1,h2⟩ | h1
 ·exact h.sub s h1
 ·rw [List.take_length] at h1
  obtain ⟨n,hn⟩:=h.sub c h1
  exact ⟨n+1,by have:=hn.trans (WalkN.one h2);exact this⟩
 ·simp at h1
theorem ReachI.len (h:ReachI E x out) {names:List ByteArray} (hn: ∀a b,E a b->b∈names):out.length<=names.length:=by
 refine List.Nodup.length_le_of_subset (asc_nodupB h.asc) (fun s hs=> ?_)
 obtain ⟨n,hw⟩:=h.sub s hs
 clear hs h
 generalize hm:n+1=m at hw
 induction hw generalizing n with
 | here a=> cases hm
 | @step m a b c h1 r ih=>
  cases m with
  | zero=> rw [<-r.zero];exact hn _ _ h1
  | succ m=> exact ih m rfl
end
theorem Traj.one {W:Acts} {σ:Env} {r:Qz} {L L':List ByteArray} (hw: (W r.name).isSome=true) (h:Traj W σ r L) (h':Traj W σ r L'):L=L':=by
 obtain ⟨k,h1,h2⟩:=h
 obtain ⟨m,g1,g2⟩:=h'
 have key: ∀{i j:Nat} {A B:List ByteArray},againN W σ r.name i= (r,A)->againN W σ r.name j= (r,B)->(∀q,q < i->CanGo W σ (againN W σ r.name q).1)->(∀q,q < j->CanGo W σ (againN W σ r.name q).1)->¬i < j:=fun {i j A B} e1 e2 f1 f2 hlt=> by
  have ho:= (f2 i hlt).1
  have v1:=againN_visits hw f1 ho
  rw [e1] at ho v1
  have v2:=againN_visits hw f2 (by rw [e2];exact ho)
  rw [e2] at v2
  simp only at v1 v2
  omega
 have:k=m:=by
  have a:=key h1 g1 h2 g2
  have b:=key g1 h1 g2 h2
  omega
 subst this
 rw [h1] at g1
 exact (Prod.mk.inj g1).2
def TrajAll (W:Acts) (σ:Env):Prop:= ∀n r,σ n=some r->r.name=n∧∃L,Traj W σ r L
theorem TrajAll.did {W:Acts} {σ:Env} {n:ByteArray} (h:TrajAll W σ) (hn:ReadyX W σ n):TrajAll W (doX W σ n):=by
 obtain ⟨r,hr,hc⟩:=hn
 have hn:ReadyX W σ n:= ⟨r,hr,hc⟩
 intro m q hq
 rw [doX_eq hr] at hq
 by_cases e:m=n
 ·rw [if_pos e] at hq
  cases hq
  obtain ⟨h1,L,h2⟩:=h n r hr
  exact ⟨by rw [nextOf_name,h1,e],_,(h2.unit hc).mono hn⟩
 ·rw [if_neg e] at hq
  cases hm:σ m with
  | some x=>
   rw [hm] at hq
   simp only [Option.some.injEq] at hq
   subst hq
   obtain ⟨h1,L,h2⟩:=h m x hm
   exact ⟨h1,L,h2.mono hn⟩
  | none=>
   rw [hm] at hq
   simp only at hq
   split at hq
   ·cases hq
    exact ⟨rfl,_,Traj.start m⟩
   ·cases hq
theorem ValidX.traj {Kj:List Qq} {Kk:List ByteArray} {sl:List Qz} (hv:ValidX Kj Kk sl):TrajAll (Q_ Kj) (Qj sl):=by
 obtain ⟨_,_,_,j,L,hgL,hl,_,rfl⟩:=hv
 exact hl.keeps (P:=fun σ:Env=> TrajAll (Q_ Kj) σ) (fun σ m h hm=> h.did hm.1) (fun n r hr=> by
  rw [startL_env] at hr
  split at hr
  ·cases hr;exact ⟨rfl,_,Traj.start n⟩
  ·cases hr)
def AsksX (W:Acts) (σ:Env) (x y:ByteArray):Prop:= ∃r L,σ x=some r∧Traj W σ r L∧y∈L
def UsesN (E:ByteArray->ByteArray->Prop) (name x:ByteArray):Prop:= ∃n,WalkN E (n+1) x name
def UsesL (E:ByteArray->ByteArray->Prop) (names:List ByteArray) (name:ByteArray) (ns:List ByteArray):Prop:=AscB ns∧∀s,s∈ns↔s∈names∧UsesN E name s
structure UseI (E:ByteArray->ByteArray->Prop) (names:List ByteArray) (name:ByteArray) (l0:Nat) (done out:List ByteArray) (b:Bool):Prop where
 asc:AscB out
 sub: ∀s∈out,s∈names∧UsesN E name s
 cl:b=false->∀x∈done,∀y,E x y->(y=name∨y∈out)->x∈out
 le:l0<=out.length
 gr:b=true->l0 < out.length
structure UseJ (E:ByteArray->ByteArray->Prop) (names:List ByteArray) (name:ByteArray) (l0:Nat) (done:List ByteArray) (x:ByteArray) (asks:List ByteArray) (k:Nat) (out:List ByteArray) (b:Bool):Prop where
 i:UseI E names name l0 done out b
 cur:b=false->∀y∈asks.take k,(y=name∨y∈out)->x∈out
section
variable {E : ByteArray -> ByteArray -> Prop} {names done asks out : List ByteArray} {name x : ByteArray} {l0 k : Nat} {b : Bool}
theorem UseI.start (E:ByteArray->ByteArray->Prop) (names:List ByteArray) (name:ByteArray) {out:List ByteArray} (ha:AscB out) (hs: ∀s∈out,s∈names∧UsesN E name s):UseI E names name out.length [] out false:=
 ⟨ha,hs,fun _ x hx=> (by cases hx),Nat.le_refl _,fun h=> by cases h⟩
theorem UseI.enter (h:UseI E names name l0 done out b) (x:ByteArray) (asks:List ByteArray):UseJ E names name l0 done x asks 0 out b:= ⟨h,fun _ y hy=> by simp at hy⟩
theorem UseJ.skip (h:UseJ E names name l0 done x asks k out b) (hk:k < asks.length) (hn: ¬((asks[k]=name∨asks[k]∈out)∧x∉out)):UseJ E names name l0 done x asks (k+1) out b:=by
 refine ⟨h.i,fun hb y hy hc=> ?_⟩
 rw [List.take_succ_eq_append_getElem hk] at hy
 rcases List.mem_append.1 hy with g | g
 ·exact h.cur hb y g hc
 ·rw [List.mem_singleton] at g
  subst g
  exact Classical.byContradiction fun e=> hn ⟨hc,e⟩
theorem UseJ.put {out':List ByteArray} (h:UseJ E names name l0 done x asks k out b) (hk:k < asks.length) (hx:x∈names) (hE: ∀y∈asks,E x y) (hc:asks[k]=name∨asks[k]∈out) (hno:x∉out) (ha:AscB out') (hm: ∀s,s∈out'↔s∈out∨s=x):UseJ E names name l0 done x asks (k+1) out' true:=by
 have hlen:out.length+1<=out'.length:=by
  have hnd: (x :: out).Nodup:=List.nodup_cons.2 ⟨hno,asc_nodupB h.i.asc⟩
  exact List.Nodup.length_le_of_subset hnd (fun s hs=> (hm s).2 (by rcases List.mem_cons.1 hs with g | g;exact .inr g;exact .inl g))
 have hl:=h.i.le
 refine ⟨⟨ha,fun s hs=> ?_,fun e=> (by cases e),by omega,fun _=> by omega⟩,fun e=> (by cases e)⟩
 rcases (hm s).1 hs with g | rfl
 ·exact h.i.sub s g
 ·refine ⟨hx, ?_⟩
  have he:=hE _ (List.getElem_mem hk)
  rcases hc with g | g
  ·rw [g] at he
   exact ⟨0,WalkN.one he⟩
  ·obtain ⟨n,hn⟩:= (h.i.sub _ g).2
   exact ⟨n+1,.step he hn⟩
theorem UseJ.leave (h:UseJ E names name l0 done x asks k out b) (hk:asks.length<=k) (hE: ∀y,E x y->y∈asks):UseI E names name l0 (done++ [x]) out b:=by
 refine ⟨h.i.asc,h.i.sub,fun hb z hz y hy hc=> ?_,h.i.le,h.i.gr⟩
 rcases List.mem_append.1 hz with g | g
 ·exact h.i.cl hb z g y hy hc
 ·rw [List.mem_singleton] at g
  subst g
  exact h.cur hb y (by rw [List.take_of_length_le hk];exact hE y hy) hc
theorem UseI.whole (h:UseI E names name l0 names out false) (hE: ∀x y,E x y->x∈names):UsesL E names name out:=by
 refine ⟨h.asc,fun s=> ⟨h.sub s, ?_⟩⟩
 rintro ⟨_,n,hn⟩
 induction n generalizing s with
 | zero=>
  obtain ⟨c,h1,h2⟩:=hn.first
  rw [h2.zero] at h1
  exact h.cl rfl s (hE _ _ h1) _ h1 (.inl rfl)
 | succ n ih=>
  obtain ⟨c,h1,h2⟩:=hn.first
  have hc:c∈names:=by
   obtain ⟨d,h3,_⟩:=h2.first
   exact hE _ _ h3
  exact h.cl rfl s (hE _ _ h1) _ h1 (.inr (ih c hc h2))
theorem UseI.len (h:UseI E names name l0 done out b):out.length<=names.length:=List.Nodup.length_le_of_subset (asc_nodupB h.asc) (fun s hs=> (h.sub s hs).1)
theorem UsesL.len {ns:List ByteArray} (h:UsesL E names name ns):ns.length<=names.length:=List.Nodup.length_le_of_subset (asc_nodupB h.1) (fun s hs=> ((h.2 s).1 hs).1)
theorem UsesL.unique {ns ms:List ByteArray} (h:UsesL E names name ns) (k:UsesL E names name ms):ms=ns:=ascB_eq k.1 h.1 (fun s=> (k.2 s).trans (h.2 s).symm)
end
def UsesAns (Kj:List Qq) (Kk:List ByteArray) (sl:List Qz) (name:ByteArray) (ns:List ByteArray):Prop:=ns.length<=60∧((ValidX Kj Kk sl∧UsesL (AsksX (Q_ Kj) (Qj sl)) (sl.map (·.name)) name ns)∨(¬ValidX Kj Kk sl∧ns=[]))
theorem UsesAns.len {Kj:List Qq} {Kk:List ByteArray} {sl:List Qz} {name:ByteArray} {ns:List ByteArray} (h:UsesAns Kj Kk sl name ns):ns.length<=60:=h.1
theorem UsesAns.one {Kj:List Qq} {Kk:List ByteArray} {sl:List Qz} {name:ByteArray} {ns ms:List ByteArray} (h:UsesAns Kj Kk sl name ns) (k:UsesAns Kj Kk sl name ms):ms=ns:=by
 rcases h.2 with ⟨h1,h2⟩ | ⟨h1,h2⟩
 ·rcases k.2 with ⟨k1,k2⟩ | ⟨k1,k2⟩
  ·exact h2.unique k2
  ·exact absurd h1 k1
 ·rcases k.2 with ⟨k1,k2⟩ | ⟨k1,k2⟩
  ·exact absurd k1 h1
  ·rw [h2,k2]
structure ClT (W:Acts) (σ:Env):Prop where
 traj:TrajAll W σ
 web: ∀n r,σ n=some r->(W n).isSome=true
 cl: ∀n r L,σ n=some r->Traj W σ r L->∀m∈L,(W m).isSome=true->(σ m).isSome=true
theorem doX_some {W:Acts} {σ:Env} {n m:ByteArray} (hn:ReadyX W σ n) (h: (σ m).isSome=true): (doX W σ n m).isSome=true:=by
 obtain ⟨r,hr,_⟩:=hn
 rw [doX_eq hr]
 by_cases e:m=n
 ·rw [if_pos e];rfl
 ·rw [if_neg e]
  obtain ⟨x,hx⟩:=Option.isSome_iff_exists.1 h
  rw [hx];rfl
theorem ClT.did {W:Acts} {σ:Env} {n:ByteArray} (h:ClT W σ) (hn:ReadyX W σ n):ClT W (doX W σ n):=by
 have ht:=h.traj.did hn
 obtain ⟨r,hr,hc⟩:=hn
 have hn:ReadyX W σ n:= ⟨r,hr,hc⟩
 have hweb: ∀m q,doX W σ n m=some q->(W m).isSome=true:=fun m q hq=> by
  rw [doX_eq hr] at hq
  by_cases e:m=n
  ·rw [e];exact h.web n r hr
  ·rw [if_neg e] at hq
   cases hm:σ m with
   | some x=> exact h.web m x hm
   | none=>
    rw [hm] at hq
    simp only at hq
    split at hq
    ·next g=> exact g.2
    ·cases hq
 refine ⟨ht,hweb,fun m q L hq hL y hy hw=> ?_⟩
 have hqn:= (ht m q hq).1
 have hmw:=hweb m q hq
 have hq0:=hq
 rw [doX_eq hr] at hq
 by_cases e:m=n
 ·rw [if_pos e] at hq
  cases hq
  obtain ⟨h1,L0,h2⟩:=h.traj n r hr
  have hL2:Traj W (doX W σ n) (Y_ W σ r).1 (L0++ (Y_ W σ r).2):= (h2.unit hc).mono hn
  have el:=Traj.one (by rw [hqn];exact hmw) hL hL2
  rw [el] at hy
  rcases List.mem_append.1 hy with g | g
  ·exact doX_some hn (h.cl n r L0 hr h2 y g hw)
  ·rw [doX_eq hr]
   by_cases ey:y=n
   ·rw [if_pos ey];rfl
   ·rw [if_neg ey]
    cases hx:σ y with
    | some x=> rfl
    | none=> simp only;rw [if_pos ⟨hasN_iff.2 g,hw⟩];rfl
 ·rw [if_neg e] at hq
  cases hm:σ m with
  | some x=>
   rw [hm] at hq
   simp only [Option.some.injEq] at hq
   subst hq
   obtain ⟨h1,L0,h2⟩:=h.traj m x hm
   have el:=Traj.one (by rw [hqn];exact hmw) hL (h2.mono hn)
   rw [el] at hy
   exact doX_some hn (h.cl m x L0 hm h2 y hy hw)
  | none=>
   rw [hm] at hq
   simp only at hq
   split at hq
   ·cases hq
    have el:=Traj.one (by rw [hqn];exact hmw) hL (Traj.start m)
    rw [el] at hy
    cases hy
   ·cases hq
theorem ClT.start {Kj:List Qq} (Kk:List ByteArray):ClT (Q_ Kj) (Qj (startL Kj Kk)):=by
 have key: ∀n r,Qj (startL Kj Kk) n=some r->r=Qz.fresh n∧(Q_ Kj n).isSome=true:=fun n r hr=> by
  rw [startL_env] at hr
  split at hr
  ·next g=> cases hr;exact ⟨rfl,g.2⟩
  ·cases hr
 refine ⟨fun n r hr=> ?_,fun n r hr=> (key n r hr).2,fun n r L hr hL y hy _=> ?_⟩
 ·obtain ⟨rfl,_⟩:=key n r hr
  exact ⟨rfl,_,Traj.start n⟩
 ·obtain ⟨rfl,hw⟩:=key n r hr
  have el:=Traj.one (by exact hw) hL (Traj.start n)
  rw [el] at hy
  cases hy
theorem ClT.led {W:Acts} {σ τ :Env} {k:Nat} (h:ClT W σ) (hl:Leads (ReadyX W) (doX W) σ τ k):ClT W τ :=hl.keeps (P:=ClT W) (fun _ _ g hm=> g.did hm) h
theorem againN_pre {W:Acts} {σ:Env} {n:ByteArray} {k:Nat}: ∀{m:Nat},k<=m->∀y∈(againN W σ n k).2,y∈(againN W σ n m).2
 | 0,h,y,hy=> by
  obtain rfl:k=0:=by omega
  exact hy
 | m+1,h,y,hy=> by
  by_cases e:k=m+1
  ·subst e;exact hy
  ·unfold againN
   exact List.mem_append.2 (.inl (againN_pre (m:=m) (by omega) y hy))
def advX (W:Acts) (σ:Env) (n:ByteArray) (k:Nat):Env:=fun m=> if m=n then some (againN W σ n k).1 else match σ m with
 | some x=> some x
 | none=> if hasN (againN W σ n k).2 m=true∧(W m).isSome=true then some (Qz.fresh m) else none
theorem adv_leads {W:Acts} {n:ByteArray}: ∀(j:Nat) {σ:Env} {k0:Nat},σ n=some (againN W σ n k0).1->(∀i,i < k0+j->CanGo W σ (againN W σ n i).1)->(∀y∈(againN W σ n k0).2,(W y).isSome=true->(σ y).isSome=true)->Leads (ReadyX W) (doX W) σ (advX W σ n (k0+j)) j
 | 0,σ,k0,h,_,hcl=> by
  have e:advX W σ n (k0+0)=σ:=by
   funext m
   unfold advX
   rw [Nat.add_zero]
   by_cases e:m=n
   ·rw [if_pos e,e,h]
   ·rw [if_neg e]
    cases hm:σ m with
    | some x=> rfl
    | none=>
     simp only
     rw [if_neg]
     rintro ⟨g1,g2⟩
     have:=hcl m (hasN_iff.1 g1) g2
     rw [hm] at this
     cases this
  rw [e]
  exact .here σ
 | j+1,σ,k0,h,hg,hcl=> by
  have hc:=hg k0 (by omega)
  have hr:ReadyX W σ n:= ⟨_,h,hc⟩
  have hag: ∀{i:Nat},i<=k0+ (j+1)->againN W (doX W σ n) n i=againN W σ n i:=fun {i} hi=> againN_mono hr (fun q hq=> hg q (by omega))
  have h1:doX W σ n n=some (againN W (doX W σ n) n (k0+1)).1:=by
   rw [doX_here h,hag (by omega)]
   rfl
  have ih:=adv_leads j (σ:=doX W σ n) (k0:=k0+1) h1 (fun i hi=> by rw [hag (by omega)];exact (hg i (by omega)).mono hr) (fun y hy hw=> by
   rw [hag (by omega)] at hy
   have hy2:y∈(againN W σ n k0).2++ (Y_ W σ (againN W σ n k0).1).2:=hy
   rcases List.mem_append.1 hy2 with g | g
   ·exact doX_some hr (hcl y g hw)
   ·rw [doX_eq h]
    by_cases ey:y=n
    ·rw [if_pos ey];rfl
    ·rw [if_neg ey]
     cases hx:σ y with
     | some x=> rfl
     | none=> simp only;rw [if_pos ⟨hasN_iff.2 g,hw⟩];rfl)
  have e:advX W (doX W σ n) n (k0+1+j)=advX W σ n (k0+ (j+1)):=by
   funext m
   unfold advX
   rw [show k0+1+j=k0+ (j+1) by omega,hag (by omega)]
   by_cases em:m=n
   ·rw [if_pos em,if_pos em]
   ·rw [if_neg em,if_neg em,doX_eq h,if_neg em]
    cases hm:σ m with
    | some x=> rfl
    | none=>
     simp only
     by_cases g:hasN (Y_ W σ (againN W σ n k0).1).2 m=true∧(W m).isSome=true
     ·rw [if_pos g]
      simp only
      rw [if_pos]
      refine ⟨hasN_iff.2 (againN_pre (k:=k0+1) (by omega) m ?_),g.2⟩
      exact List.mem_append.2 (.inr (hasN_iff.1 g.1))
     ·rw [if_neg g]
  rw [<-e]
  exact .step σ _ n j hr ih
def AnsEq (W:Acts) (σ τ :Env):Prop:= ∀n,ansOf W σ n=ansOf W τ n
theorem AnsEq.answers {W:Acts} {σ τ :Env} (h:AnsEq W σ τ): ∀l,Yq W σ l=Yq W τ l
 | []=> rfl
 | a :: l=> by unfold Yq;rw [h a,AnsEq.answers h l]
theorem AnsEq.can {W:Acts} {σ τ :Env} (h:AnsEq W σ τ) (r:Qz):CanGo W σ r↔CanGo W τ r:=by unfold CanGo;simp only [h.answers]
theorem AnsEq.next {W:Acts} {σ τ :Env} (h:AnsEq W σ τ) (r:Qz):Y_ W σ r=Y_ W τ r:=by unfold Y_;simp only [h.answers]
theorem AnsEq.again {W:Acts} {σ τ :Env} (h:AnsEq W σ τ) (n:ByteArray): ∀k,againN W σ n k=againN W τ n k
 | 0=> rfl
 | k+1=> by unfold againN;rw [AnsEq.again h n k,h.next]
theorem led_again {W:Acts} {σ τ :Env} {n:ByteArray} {j k:Nat} (hl:Leads (ReadyX W) (doX W) σ τ j): (∀i,i < k->CanGo W σ (againN W σ n i).1)->(∀i,i<=k->againN W τ n i=againN W σ n i)∧∀i,i < k->CanGo W τ (againN W τ n i).1:=by
 induction hl with
 | here s=> exact fun h=> ⟨fun _ _=> rfl,h⟩
 | step s t m j hr _ ih=>
  intro h
  have hag: ∀{i:Nat},i<=k->againN W (doX W s m) n i=againN W s n i:=fun {i} hi=> againN_mono hr (fun q hq=> h q (by omega))
  obtain ⟨g1,g2⟩:=ih (fun i hi=> by rw [hag (by omega)];exact (h i hi).mono hr)
  exact ⟨fun i hi=> (g1 i hi).trans (hag hi),g2⟩
theorem led_pot {W:Acts} {σ τ :Env} {j:Nat} (names:List ByteArray) (hl:Leads (ReadyX W) (doX W) σ τ j):WfX W σ->(∀n,(W n).isSome=true->n∈names)->potAll names τ +j<=potAll names σ:=by
 induction hl with
 | here s=> exact fun _ _=> Nat.le_refl _
 | step s t m j hr _ ih=>
  intro hw hn
  have h1:=ih (doX_wf hw hr) hn
  obtain ⟨r,hm,_⟩:=hr
  have h2:= (potAll_do hw ⟨r,hm,by assumption⟩ names).2 (hn m (hw m r hm).web)
  omega
def EndX (Kj:List Qq) (Kk:List ByteArray) (sl:List Qz):Prop:=
 GoodL Kj sl∧(∃k,Leads (ReadyX (Q_ Kj)) (doX (Q_ Kj)) (Qj (startL Kj Kk)) (Qj sl) k)∧AtEnd (ReadyX (Q_ Kj)) (Qj sl)
theorem EndX.one {Kj:List Qq} {Kk:List ByteArray} {sl sl':List Qz} (h:EndX Kj Kk sl) (k:EndX Kj Kk sl'):sl'=sl:=by
 obtain ⟨g1,⟨i,l1⟩,e1⟩:=h
 obtain ⟨g2,⟨j,l2⟩,e2⟩:=k
 exact asc_eq g2.asc g1.asc (l2.unique doX_commutes e2 l1 e1)
structure CleanV (Kj:List Qq) (Kk:List ByteArray) (sl:List Qz) (o:OutD):Prop where
 fin:EndX Kj Kk sl
 res:o.res=Kk.map (resX (Q_ Kj) (Qj sl))
 units:o.units=unitsX sl
 cost:o.cost=costX (Q_ Kj) sl
 rest: ((¬∃r∈o.res,r.over=false)∧o.code=0∧o.chain=[])∨((∃r∈o.res,r.over=false)∧o.code=1∧CircX (WaitsX (Q_ Kj) (Qj sl)) o.chain)
theorem CleanV.one {Kj:List Qq} {Kk:List ByteArray} {sl sl':List Qz} {o p:OutD} (h:CleanV Kj Kk sl o) (k:CleanV Kj Kk sl' p):p=o:=by
 obtain rfl:=h.fin.one k.fin
 have er:p.res=o.res:=k.res.trans h.res.symm
 have hk:=k.rest
 rw [er] at hk
 have hc:p.code=o.code∧p.chain=o.chain:=by
  rcases h.rest with ⟨a1,a2,a3⟩ | ⟨a1,a2,a3⟩ <;> rcases hk with ⟨b1,b2,b3⟩ | ⟨b1,b2,b3⟩
  ·exact ⟨b2.trans a2.symm,b3.trans a3.symm⟩
  ·exact absurd b1 a1
  ·exact absurd a1 b1
  ·exact ⟨b2.trans a2.symm,b3.unique a3⟩
 exact OutD.ext' hc.1 er hc.2 (k.units.trans h.units.symm) (k.cost.trans h.cost.symm)
def CleanAns (Kj:List Qq) (Kk:List ByteArray) (o:OutD):Prop:= (o.res.length<=10∧o.chain.length<=60)∧((WebCode Kj 0∧RootsOk Kk∧∃sl,CleanV Kj Kk sl o)∨(¬(WebCode Kj 0∧RootsOk Kk)∧o=outNo))
theorem CleanAns.one {Kj:List Qq} {Kk:List ByteArray} {o p:OutD} (h:CleanAns Kj Kk o) (k:CleanAns Kj Kk p):p=o:=by
 rcases h.2 with ⟨h1,h2,sl,h3⟩ | ⟨h1,h2⟩
 ·rcases k.2 with ⟨_,_,sl',k3⟩ | ⟨k1,k2⟩
  ·exact h3.one k3
  ·exact absurd ⟨h1,h2⟩ k1
 ·rcases k.2 with ⟨k1,k2,_⟩ | ⟨k1,k2⟩
  ·exact absurd ⟨k1,k2⟩ h1
  ·rw [h2,k2]
theorem TStrs.but {S:Nat->Prop} {w w':World} {t:TypeId} {a:Option Addr} {l:List ByteArray} (h:TStrs w t a l) (k:But S w w') (hS: ∀b,S b->¬TypeAt w b t):TStrs w' t a l:=by
 rcases h with h | ⟨b,cur,fr,ha,hb,hc⟩
 ·exact .inl h
 ·have hn: ¬S b:=fun e=> hS b e ⟨cur,fr,hb⟩
  have hb':= (k.block b (heap_lt hb) hn).trans hb
  exact .inr ⟨b,cur,fr,ha,hb',fun i hi=> by rw [World.cell?_of_block (w:=w) (hb'.trans hb.symm)];exact hc i hi⟩
def PackedZ (w:World) (xs:List Value) (l:List Qz):Prop:=xs.length=l.length * 7∧∀i,i < l.length->∃xa xc,(xs.drop (i * 7)).take 7= (l.getD i Qz.zero).cells xa xc∧TStrs w 9 xa (l.getD i Qz.zero).texts∧(xa=none->xc=0)
theorem PackedZ.nil (w:World):PackedZ w [] []:= ⟨rfl,fun i hi=> by simp at hi⟩
theorem PackedZ.but {S:Nat->Prop} {w w':World} {xs:List Value} {l:List Qz} (h:PackedZ w xs l) (k:But S w w') (hS: ∀b,S b->¬TypeAt w b 9):PackedZ w' xs l:= ⟨h.1,fun i hi=> by obtain ⟨xa,xc,e,hs,hx⟩:=h.2 i hi;exact ⟨xa,xc,e,hs.but k hS,hx⟩⟩
theorem PackedZ.kept {w w':World} {xs:List Value} {l:List Qz} (h:PackedZ w xs l) (k:K_ w w'):PackedZ w' xs l:=h.but (S:=fun _=> False) (But.of_kept k) (fun _ e=> e.elim)
theorem PackedZ.packed {w:World} {xs:List Value} {l:List Qz} (h:PackedZ w xs l):PackedX w (fun _=> True) xs l:= ⟨h.1,fun i hi=> by obtain ⟨xa,xc,e,hs,hx⟩:=h.2 i hi;exact ⟨xa,xc,e,hs.strs,hx,fun _ _=> trivial⟩⟩
theorem PackedZ.snoc {w:World} {xs:List Value} {l:List Qz} {r:Qz} {xa:Option Addr} {xc:Nat} (h:PackedZ w xs l) (hs:TStrs w 9 xa r.texts) (hx:xa=none->xc=0):PackedZ w (xs++r.cells xa xc) (l++ [r]):=by
 refine ⟨by simp [h.1,Qz.cells];omega,fun i hi=> ?_⟩
 rw [List.length_append] at hi
 simp only [List.length_cons,List.length_nil] at hi
 by_cases e:i < l.length
 ·have e1: (l++ [r]).getD i Qz.zero=l.getD i Qz.zero:=by simp [List.getD,List.getElem?_append_left e]
  have e2: ((xs++r.cells xa xc).drop (i * 7)).take 7= (xs.drop (i * 7)).take 7:=by
   rw [List.drop_append_of_le_length (by rw [h.1];omega),List.take_append_of_le_length (by rw [List.length_drop,h.1];omega)]
  rw [e1,e2]
  exact h.2 i e
 ·obtain rfl:i=l.length:=by omega
  have e1: (l++ [r]).getD l.length Qz.zero=r:=by simp [List.getD]
  have e2: ((xs++r.cells xa xc).drop (l.length * 7)).take 7=r.cells xa xc:=by
   rw [<-h.1,List.drop_left]
   rfl
  rw [e1,e2]
  exact ⟨xa,xc,rfl,hs,hx⟩
def StrsN (w:World) (S:Nat->Prop) (a:Option Addr) (l:List ByteArray):Prop:= ∀i,i < l.length->∃b o,a=some ⟨b,o,none⟩∧b < w.heap.size∧¬S b∧w.cell? ⟨b,o+i,none⟩=some (.string (l.getD i ByteArray.empty))
theorem TStrs.nst {w:World} {a:Option Addr} {l:List ByteArray} (h:TStrs w 9 a l) {S:Nat->Prop} (hS: ∀b,S b->¬TypeAt w b 9):StrsN w S a l:=fun i hi=> by
 rcases h with rfl | ⟨b,cur,fr,ha,hb,hc⟩
 ·simp at hi
 ·exact ⟨b,0,ha,heap_lt hb,fun e=> hS b e ⟨cur,fr,hb⟩,by rw [Nat.zero_add];exact hc i hi⟩
theorem Strs.nst {w:World} {a:Option Addr} {l:List ByteArray} (h:Strs w a l) {S:Nat->Prop} (hS: ∀b,b < w.heap.size->¬S b):StrsN w S a l:=fun i hi=> by
 obtain ⟨b,o,ha,hb,hc⟩:=h i hi
 exact ⟨b,o,ha,hb,hS b hb,hc⟩
structure KnZ (wz w wr:World) (kb:Nat) (v0:Value) (a:Option Addr) (n cap:Nat) (R:List Qz) (d:Option Addr) (dc:Nat) (xs:List Value):Prop where
 kw:K_ wz wr
 fr:But (fun b=> b=kb∨v0.ownBlock=some b) w wr
 nw: ∀b,(Value.slice d R.length dc).ownBlock=some b->v0.ownBlock=some b∨w.heap.size<=b
 known:KnownX wr kb a n cap d R.length dc
 own:wr.ownsRow wz.heap.size 83 7 (.slice d R.length dc) R.length xs
 pack:PackedZ wr xs R
 nl:R.length=0->d=none∧dc=0
section
variable {wz w wr w' : World} {kb n cap dc : Nat} {v0 : Value} {a d : Option Addr} {R : List Qz} {xs : List Value}
theorem KnZ.kept (h:KnZ wz w wr kb v0 a n cap R d dc xs) (k:K_ wr w'):KnZ wz w w' kb v0 a n cap R d dc xs:=
 ⟨h.kw.trans k,h.fr.trans (But.of_kept k),h.nw,h.known.kept k,ownsRow_kept' h.own k,h.pack.kept k,h.nl⟩
theorem KnZ.again (h:KnZ wz w wr kb v0 a n cap R d dc xs):KnZ wz wr wr kb (.slice d R.length dc) a n cap R d dc xs:=
 ⟨h.kw,But.of_kept (K_.refl _),fun _ e=> .inl e,h.known,h.own,h.pack,h.nl⟩
theorem KnZ.but {S:Nat->Prop} (h:KnZ wz w wr kb v0 a n cap R d dc xs) (k:But S wr w') (hz: ∀b,S b->wz.heap.size<=b) (hk: ¬S kb) (hr: ∀b,(Value.slice d R.length dc).ownBlock=some b->¬S b) (hs: ∀b,S b->¬TypeAt wr b 9):KnZ wz w' w' kb (.slice d R.length dc) a n cap R d dc xs:=
 ⟨k.kept h.kw hz,But.of_kept (K_.refl _),fun _ e=> .inl e,⟨k.row h.known.row hk,(k.cell h.known.row.lt hk).trans h.known.web,(k.cell h.known.row.lt hk).trans h.known.runs⟩,k.owns h.own hr,h.pack.but k hs,h.nl⟩
theorem KnZ.runs (h:KnZ wz w wr kb v0 a n cap R d dc xs):RunsX wr d R:=by
 obtain ⟨_,a9,c9,ev,h9⟩:=PackedX.runs h.own h.pack.packed (K_.refl _)
 simp only [Value.slice.injEq,true_and] at ev
 rw [ev.1]
 exact h9.runs
theorem KnZ.grown {W w6:World} (h:KnZ wz w wr kb v0 a n cap R d dc xs) (KW:K_ wr W) (hgr:W.grownBy w6 (Value.slice d R.length dc).ownBlock):K_ wz w6∧KnownX w6 kb a n cap d R.length dc∧But (fun b=> b=kb∨v0.ownBlock=some b) w w6:=by
 have hk:=h.known.kept KW
 have hO:=ownsRow_kept' h.own KW
 have hne:=own_ne hk.row hO
 have k6:But (fun b=> (Value.slice d R.length dc).ownBlock=some b) W w6:=But.of_grown hgr (fun b e=> e)
 have hb:=k6.block kb hk.row.lt (fun e=> hne e.symm)
 refine ⟨kept_of_grown (h.kw.trans KW) (Nat.le_refl _) hO hgr,⟨hk.row.block hb,(World.cell?_of_block (w:=W) hb).trans hk.web,(World.cell?_of_block (w:=W) hb).trans hk.runs⟩, ?_⟩
 have h1:=h.fr.trans (But.of_kept KW)
 refine ⟨k6.os.trans h1.os,k6.tape.trans h1.tape,k6.output.trans h1.output,Nat.le_trans h1.size k6.size,fun b hb hn=> ?_⟩
 refine (k6.block b (Nat.lt_of_lt_of_le hb h1.size) (fun e=> ?_)).trans (h1.block b hb hn)
 rcases h.nw b e with g | g
 ·exact hn (.inr g)
 ·omega
theorem run_not_str {W:World} {base m:Nat} {v:Value} {ys:List Value} (h:W.ownsRow base 83 7 v m ys): ∀b,v.ownBlock=some b->¬TypeAt W b 9:=fun _ e ht=> type_ne (Yz h e) ht (by decide) rfl
theorem KnZ.next {W w6:World} {g6 cv6:Nat} {v:ByteArray} (h:KnZ wz w wr kb v0 a n cap R d dc xs) (hk:wz.heap.size<=kb) (KW:K_ wr W) (hgr:W.grownBy w6 (Value.slice d R.length dc).ownBlock)
  (hO6:w6.ownsRow wz.heap.size 83 7 (.slice (some ⟨g6,0,none⟩) (R.length+1) cv6) (R.length+1) (xs++ (Qz.fresh v).cells none 0)) (hat: (Value.slice d R.length dc).ownBlock=some g6∨g6=W.heap.size):
  KnZ wz w (w6.setCell ⟨kb,1,none⟩ (.slice (some ⟨g6,0,none⟩) (R.length+1) cv6)) kb v0 a n cap (R++ [Qz.fresh v]) (some ⟨g6,0,none⟩) cv6 (xs++ (Qz.fresh v).cells none 0):=by
 obtain ⟨k6,hK6,f6⟩:=h.grown KW hgr
 have hl: (R++ [Qz.fresh v]).length=R.length+1:=by simp
 have hO:=ownsRow_kept' h.own KW
 have kg:But (fun b=> (Value.slice d R.length dc).ownBlock=some b) W w6:=But.of_grown hgr (fun b e=> e)
 have p6:PackedZ w6 xs R:= (h.pack.kept KW).but kg (run_not_str hO)
 have ks:But (fun b=> b=kb) w6 (w6.setCell ⟨kb,1,none⟩ (.slice (some ⟨g6,0,none⟩) (R.length+1) cv6)):=But.set (S:=fun b=> b=kb) (But.of_kept (K_.refl _)) (p:= ⟨kb,1,none⟩) rfl _
 have p7:=p6.but ks (fun b e ht=> type_ne hK6.row.type ht (by decide) e.symm)
 refine ⟨Below.setCell k6 (p:= ⟨kb,1,none⟩) hk _,f6.set (.inl rfl) _,fun b e=> ?_,⟨hK6.row.set _, ?_, ?_⟩, ?_,p7.snoc (.inl rfl) (fun _=> rfl),fun e=> (by rw [hl] at e;omega)⟩
 ·simp only [Value.ownBlock,Option.some.injEq] at e
  subst e
  rcases hat with g | g
  ·exact h.nw g6 g
  ·refine .inr ?_
   rw [g]
   exact Nat.le_trans h.fr.size KW.size
 ·rw [Xx (by omega)]
  exact hK6.web
 ·rw [hl];exact set_hit hK6.row.row (by omega) _
 ·rw [hl];exact owns_set2 hO6 (own_ne hK6.row hO6) _
end
theorem wantZ_any (wz w:World) (kb:Nat) (hkb:wz.heap.size<=kb) (a:Option Addr) (cap:Nat) (Kj:List Qq) (rd:Option Addr) (rc:Nat) (names:List ByteArray) (l:List Qz) (d0:Option Addr) (dc0:Nat) (xs0:List Value) (hwl:Kj.length<=1048576) (hrl:names.length<=110) (hll:l.length<=1000)
  (hK:KnZ wz w w kb (.slice d0 l.length dc0) a Kj.length cap l d0 dc0 xs0) (hS:Nodes wz a Kj) (hR:StrsN w (fun b=> b=kb∨(Value.slice d0 l.length dc0).ownBlock=some b) rd names):
  Calls Tryz.prog 85 #[.pointer (some ⟨kb,0,none⟩),.slice rd names.length rc] w fun e w'=> e= .returned (.tuple #[])∧∃d dc xs,KnZ wz w w' kb (.slice d0 l.length dc0) a Kj.length cap (wantL (Q_ Kj) l names) d dc xs:=by
 have HK:=Kz hK
 clear hK
 go_enter Tryz.func85,Tryz.ntmps85
 go_wp2
 go_loopw [4] (fun i wr=> ∃(k:Nat) (d:Option Addr) (dc:Nat) (xs:List Value),k<=names.length∧i= .int .i64 k∧KnZ wz w wr kb (.slice d0 l.length dc0) a Kj.length cap (wantL (Q_ Kj) l (names.take k)) d dc xs) (fun i _=> names.length - (intOf i).toNat)
 case atStart=> exact ⟨0,d0,dc0,xs0,Nat.zero_le _,rfl,HK.out⟩
 case round=>
  obtain ⟨k,d,dc,xs,hk,rfl,hSt⟩:=hrel
  by_cases hlt:k < names.length
  ·obtain ⟨b,o,rfl,hb,hnS,hc⟩:=hR k hlt
   have HnS:=Kz hnS
   clear hnS
   have Kr:K_ wz wr:=hSt.kw
   obtain ⟨R,hRk⟩: ∃R,R=wantL (Q_ Kj) l (names.take k):= ⟨_,rfl⟩
   have hsucc:=wantL_succ (Q_ Kj) l hlt
   rw [<-hRk] at hSt hsucc
   have hRl:R.length<=1110:=by rw [hRk];have:=wantL_len (Q_ Kj) (names.take k) l;rw [List.length_take] at this;omega
   obtain ⟨v,hvk⟩: ∃v,v=names.getD k ByteArray.empty:= ⟨_,rfl⟩
   rw [<-hvk] at hc hsucc
   have HSu:=Kz hsucc
   have c0:= (hSt.fr.cell hb HnS.out).trans hc
   have hbr:b < wr.heap.size:=Nat.lt_of_lt_of_le hb hSt.fr.size
   have m0:=hSt.known.web
   have m1:=hSt.known.runs
   have zk:=hSt.known.row.lt
   have HRn:=Kz hSt.runs
   have HSt:=Kz hSt
   clear hRk hvk hsucc hSt HK
   have i0: (k:Int) < (names.length:Int):=by omega
   by_cases hin: (Q_ Kj v).isSome=true
   ·have Zz:Hid (∀w',K_ wr w'->(fun w'=> w'.cell? ⟨kb,0,none⟩=some (.slice a Kj.length cap)∧w'.cell? ⟨kb,1,none⟩=some (.slice d R.length dc)∧w'.cell? ⟨b,o+k,none⟩=some (.string v)) w'):=fun w' kk=> ⟨(kk.cell zk).trans m0,(kk.cell zk).trans m1,(kk.cell hbr).trans c0⟩
    by_cases hno: (Qj R v).isNone=true
    ·go_wp2
     go_region_held (fun w'=> w'.cell? ⟨kb,0,none⟩=some (.slice a Kj.length cap)∧w'.cell? ⟨kb,1,none⟩=some (.slice d R.length dc)∧w'.cell? ⟨b,o+k,none⟩=some (.string v)) (exact unhide Zz _ (by repeat (first | (with_reducible exact K_.refl _) | (with_reducible assumption) | apply K_.drew))) ((first | (go_at_call 44;refine (l2At_inX _ a cap Kj v hwl (hS.kept (Kr.trans (by repeat (first | (with_reducible exact K_.refl _) | (with_reducible assumption) | apply K_.drew)))) hin).mono ?_;rintro e w1 ⟨⟨r1,rfl⟩,kk1⟩;have k1:K_ wr w1:=K_.trans (by repeat (first | (with_reducible exact K_.refl _) | (with_reducible assumption) | apply K_.drew)) kk1) | (go_at_call 87;refine (find_noX _ kb a Kj.length cap d dc R v (by omega) (HSt.out.known.kept (k1.trans (by repeat (first | (with_reducible exact K_.refl _) | (with_reducible assumption) | apply K_.drew)))) (HRn.out.kept (k1.trans (by repeat (first | (with_reducible exact K_.refl _) | (with_reducible assumption) | apply K_.drew)))) hno).mono ?_;rintro e w2 ⟨⟨r2,rfl,hr2⟩,rfl⟩)))
     all_goals
      have hSt2:=HSt.out.kept k1
      have HSt2:=Kz hSt2
      have n1:=hSt2.known.runs
      have n0:= (k1.cell hbr).trans c0
      have z2:=hSt2.kw.size
      have hb2:b < w2.heap.size:=Nat.lt_of_lt_of_le hb hSt2.fr.size
      have hk2:kb < w2.heap.size:=hSt2.known.row.lt
      have HSO4:Hid (∀w',K_ w2 w'->(fun w'=> w'.cell? ⟨kb,1,none⟩=some (.slice d R.length dc)∧w'.cell? ⟨b,o+k,none⟩=some (.string v)) w'):=fun w' bl=> ⟨(bl.cell hk2).trans n1,(bl.cell hb2).trans n0⟩
      obtain ⟨ino,hn0,hn1,hn2,hn3⟩:=xInfo_parts Tryz.xInfoRun
      clear hSt2
      go_wp2
      refine Qx.region (by kernel_rfl) (fun w'=> w'.cell? ⟨kb,1,none⟩=some (.slice d R.length dc)∧w'.cell? ⟨b,o+k,none⟩=some (.string v)) 14 ⟨n1,n0⟩ (fun Z_=> ?_)
      refine Qx.tk 0 Z_ ?_
      refine Qx.tk 1 Z_ ?_
      refine Qx.tk 2 Z_ ?_
      refine Qx.tk 3 Z_ ?_
      refine Qx.tk 4 Z_ ?_
      refine Qx.tk 5 Z_ ?_
      refine Qx.tk 6 Z_ ?_
      refine Qx.tk 7 Z_ ?_
      refine Qx.tk 8 Z_ ?_
      refine Qx.tk 9 Z_ ?_
      refine Qx.nx 10 (fun K hK=> ?_)
      go_simp
      have KW:K_ w2 (w2.alloc (.cells (freshX v).toArray 83)).drew:= ((K_.refl _).alloc _).drew
      refine hK.out _ _ (fun _=> HSO4.out _ KW) ?_
      clear hK K Z_
      try simp only [Act.put,upA,upB,upC]
      refine Qx.nx 11 (fun K hK=> ?_)
      refine step_append_lies _ rfl (.tmp 34) (.tmp 40) 39 rfl wz.heap.size 83 ino _ 7 80 Tryz.underlying39 hn0 hn1 hn2 hn3 rfl (by decide) (.slice d R.length dc) R.length xs (by simp [Act.eval]) (ownsRow_kept' HSt2.out.own KW) ⟨w2.heap.size,0,none⟩ 1 1 (freshX v) (by simp [Act.eval]) rfl (fun j u hu=> by rw [Addr.add_mid];exact Xz w2 (freshX v).toArray 83 j u (by simpa using hu)) (freshX_one v) (by omega) (by unfold maxLen;omega) (by omega) (by simp;omega) _ rfl ?_
      intro g6 cap6 w8 hown8 hgr8 hat hlt8
      obtain ⟨kz8,hK8,kf8⟩:=HSt2.out.grown KW hgr8
      have hr8:=hK8.row
      obtain ⟨⟨_,fo2⟩,fo1⟩:=hr8.row.at (i:=1) (by omega)
      have hHeld8:= (show _∧_ from ⟨hK8.runs,(kf8.cell hb HnS.out).trans hc⟩)
      have HN8:=Kz (KnZ.next (v:=v) HSt2.out hkb KW hgr8 hown8 hat)
      clear hown8 hgr8 hat hr8 kf8
      refine hK.out _ _ (fun _=> hHeld8) ?_
      clear hK K
      try simp only [Act.put,upA,upB,upC]
      have Z_:=hHeld8
      refine Qx.tk 12 Z_ ?_
      refine Qx.tk 13 Z_ ?_
      refine Qx.nx 14 (fun K hK=> ?_)
      go_simp
      refine hK.out _ _ (fun h=> absurd rfl h) ?_
      clear hK K
      try simp only [Act.put,upA,upB,upC]
      refine Qx.dn ?_
      go_wp2
      go_roundw
      case rel=> exact ⟨k+1,_,cap6,_,by omega,by go_num,by rw [HSu.out,if_pos ⟨hin,hno⟩];exact HN8.out⟩
      case measure=> simp [intOf];omega
    ·go_wp2
     go_region_held (fun w'=> w'.cell? ⟨kb,0,none⟩=some (.slice a Kj.length cap)∧w'.cell? ⟨kb,1,none⟩=some (.slice d R.length dc)∧w'.cell? ⟨b,o+k,none⟩=some (.string v)) (exact unhide Zz _ (by repeat (first | (with_reducible exact K_.refl _) | (with_reducible assumption) | apply K_.drew))) ((first | (go_at_call 44;refine (l2At_inX _ a cap Kj v hwl (hS.kept (Kr.trans (by repeat (first | (with_reducible exact K_.refl _) | (with_reducible assumption) | apply K_.drew)))) hin).mono ?_;rintro e w1 ⟨⟨r1,rfl⟩,kk1⟩;have k1:K_ wr w1:=K_.trans (by repeat (first | (with_reducible exact K_.refl _) | (with_reducible assumption) | apply K_.drew)) kk1) | (go_at_call 87;refine (find_inX _ kb a Kj.length cap d dc R v (by omega) (HSt.out.known.kept (k1.trans (by repeat (first | (with_reducible exact K_.refl _) | (with_reducible assumption) | apply K_.drew)))) (HRn.out.kept (k1.trans (by repeat (first | (with_reducible exact K_.refl _) | (with_reducible assumption) | apply K_.drew)))) hno).mono ?_;rintro e w2 ⟨⟨r2,rfl⟩,rfl⟩)))
     all_goals
      go_wp2
      go_roundw
      case rel=> exact ⟨k+1,d,dc,xs,by omega,by go_num,by rw [HSu.out,if_neg (fun h=> hno h.2)];exact HSt.out.kept k1⟩
      case measure=> simp [intOf];omega
   ·have Zz:Hid (∀w',K_ wr w'->(fun w'=> w'.cell? ⟨kb,0,none⟩=some (.slice a Kj.length cap)∧w'.cell? ⟨kb,1,none⟩=some (.slice d R.length dc)∧w'.cell? ⟨b,o+k,none⟩=some (.string v)) w'):=fun w' kk=> ⟨(kk.cell zk).trans m0,(kk.cell zk).trans m1,(kk.cell hbr).trans c0⟩
    go_wp2
    refine Qx.region (by kernel_rfl) (fun w'=> w'.cell? ⟨kb,0,none⟩=some (.slice a Kj.length cap)∧w'.cell? ⟨kb,1,none⟩=some (.slice d R.length dc)∧w'.cell? ⟨b,o+k,none⟩=some (.string v)) 18 ⟨m0,m1,c0⟩ (fun Z_=> ?_)
    refine Qx.tk 0 Z_ ?_
    refine Qx.tk 1 Z_ ?_
    refine Qx.tk 2 Z_ ?_
    refine Qx.tk 3 Z_ ?_
    refine Qx.tk 4 Z_ ?_
    refine Qx.tk 5 Z_ ?_
    refine Qx.tk 6 Z_ ?_
    refine Qx.tk 7 Z_ ?_
    refine Qx.nx 8 (fun K hK=> ?_)
    rw [if_pos (by rfl)]
    go_simp
    go_at_call 44
    refine (l2At_noX _ a cap Kj v hwl (hS.kept (Kr.trans (by repeat (first | (with_reducible exact K_.refl _) | (with_reducible assumption) | apply K_.drew)))) hin).mono ?_
    rintro e w1 ⟨rfl,kk1⟩
    have k1:K_ wr w1:=K_.trans (by repeat (first | (with_reducible exact K_.refl _) | (with_reducible assumption) | apply K_.drew)) kk1
    dsimp only
    refine hK.out _ _ (fun _=> Zz.out w1 k1) ?_
    clear hK K Z_
    have Z_:=Zz.out w1 k1
    try simp only [Act.put,upA,upB,upC]
    refine Qx.tk 9 Z_ ?_
    refine Qx.tk 10 Z_ ?_
    refine Qx.un 11 Z_ ?_
    refine Qx.un 12 Z_ ?_
    refine Qx.un 13 Z_ ?_
    refine Qx.un 14 Z_ ?_
    refine Qx.un 15 Z_ ?_
    refine Qx.un 16 Z_ ?_
    refine Qx.un 17 Z_ ?_
    refine Qx.nx 18 (fun K hK=> ?_)
    go_simp
    refine hK.out _ _ (fun h=> absurd rfl h) ?_
    clear hK K
    try simp only [Act.put,upA,upB,upC]
    refine Qx.dn ?_
    go_wp2
    go_roundw
    case rel=> exact ⟨k+1,d,dc,xs,by omega,by go_num,by rw [HSu.out,if_neg (fun h=> hin h.1)];exact HSt.out.kept k1⟩
    case measure=> simp [intOf];omega
  ·have hkl:k=names.length:=by omega
   subst hkl
   rw [List.take_length] at hSt
   have HSt:=Kz hSt
   clear hSt
   go_wp2
   go_end0
   exact ⟨rfl,_,_,_,HSt.out⟩
theorem Leads.zero {α ι :Type} {ready:α-> ι ->Prop} {step:α-> ι ->α} {s t:α} {k:Nat} (h:Leads ready step s t k) (hk:k=0):t=s:=by
 cases h with
 | here=> rfl
 | step=> omega
theorem env_appZ (A B:List Qz) (m:ByteArray):Qj (A++B) m=match Qj A m with | some r=> some r | none=> Qj B m:=by
 unfold Qj
 rw [List.find?_append]
 cases A.find? fun r=> decide (r.name=m) <;> rfl
theorem env_noZ {l:List Qz} {n:ByteArray}:Qj l n=none↔n∉l.map (·.name):=by
 unfold Qj
 rw [List.find?_eq_none]
 constructor
 ·intro h hm
  obtain ⟨r,hr,e⟩:=List.mem_map.1 hm
  exact h r hr (by simpa using e)
 ·intro h r hr e
  exact h (List.mem_map.2 ⟨r,hr,by simpa using e⟩)
theorem nodup_diffZ {l:List Qz} (h: (l.map (·.name)).Nodup): ∀x∈l,∀y∈l,x.name=y.name->x=y:=by
 intro x hx y hy e
 obtain ⟨i,hi,rfl⟩:=List.getElem_of_mem hx
 obtain ⟨j,hj,rfl⟩:=List.getElem_of_mem hy
 have hp:=List.pairwise_iff_getElem.1 h
 have:i=j:=by
  rcases Nat.lt_trichotomy i j with g | g | g
  ·exact absurd (by rw [List.getElem_map,List.getElem_map];exact e) (hp i j (by simpa using hi) (by simpa using hj) g)
  ·exact g
  ·exact absurd (by rw [List.getElem_map,List.getElem_map];exact e.symm) (hp j i (by simpa using hj) (by simpa using hi) g)
 subst this
 rfl
theorem env_getZ {l:List Qz} (h: (l.map (·.name)).Nodup) {r:Qz} (hr:r∈l):Qj l r.name=some r:= (env_iff (nodup_diffZ h)).2 ⟨hr,rfl⟩
theorem getD_memZ {l:List Qz} {i:Nat} (hi:i < l.length):l.getD i Qz.zero∈l:=by simp [List.getD,hi]
theorem set_namesZ {l:List Qz} {i:Nat} {r:Qz} (hi:i < l.length) (hn:r.name= (l.getD i Qz.zero).name): (l.set i r).map (·.name)=l.map (·.name):=by
 rw [List.map_set]
 have: (l.map (·.name))[i]'(by simpa using hi)=r.name:=by simp [hn,List.getD,hi]
 rw [<-this,List.set_getElem_self]
theorem env_setZ {l:List Qz} (h: (l.map (·.name)).Nodup) {i:Nat} {r:Qz} (hi:i < l.length) (hn:r.name= (l.getD i Qz.zero).name) (m:ByteArray):Qj (l.set i r) m=if m=r.name then some r else Qj l m:=by
 have h': ((l.set i r).map (·.name)).Nodup:=by rw [set_namesZ hi hn];exact h
 by_cases e:m=r.name
 ·rw [if_pos e,e]
  exact env_getZ h' (List.mem_iff_getElem.2 ⟨i,by simpa using hi,by simp⟩)
 ·rw [if_neg e]
  cases hx:Qj l m with
  | none=> rw [env_noZ,set_namesZ hi hn];exact env_noZ.1 hx
  | some x=>
   obtain ⟨hx1,hx2⟩:=env_mem hx
   refine (env_iff (nodup_diffZ h')).2 ⟨?_,hx2⟩
   obtain ⟨j,hj,rfl⟩:=List.getElem_of_mem hx1
   refine List.mem_iff_getElem.2 ⟨j,by simpa using hj, ?_⟩
   rw [List.getElem_set_ne]
   rintro rfl
   exact e (by rw [<-hx2,hn];simp [List.getD,hj])
theorem wantL_more (W:Acts): ∀(bs:List ByteArray) (l:List Qz),(l.map (·.name)).Nodup->∃G,wantL W l bs=l++G∧(∀g∈G,g=Qz.fresh g.name∧(W g.name).isSome=true)∧((wantL W l bs).map (·.name)).Nodup
 | [],l,h=> ⟨[],by unfold wantL;simp,fun g hg=> (by cases hg),by unfold wantL;exact h⟩
 | b :: bs,l,h=> by
  unfold wantL
  by_cases c: (W b).isSome=true∧(Qj l b).isNone=true
  ·have hn:b∉l.map (·.name):=env_noZ.1 (by simpa using c.2)
   have h2: ((l++ [Qz.fresh b]).map (·.name)).Nodup:=by
    rw [List.map_append,List.map_cons,List.map_nil]
    exact List.nodup_append.2 ⟨h,by simp,fun x hx y hy e=> by rw [List.mem_singleton] at hy;rw [e,hy] at hx;exact hn hx⟩
   obtain ⟨G,g1,g2,g3⟩:=wantL_more W bs (l++ [Qz.fresh b]) h2
   rw [if_pos c]
   refine ⟨Qz.fresh b :: G,by rw [g1];simp,fun g hg=> ?_,g3⟩
   rcases List.mem_cons.1 hg with e | e
   ·rw [e];exact ⟨rfl,c.1⟩
   ·exact g2 g e
  ·rw [if_neg c]
   exact wantL_more W bs l h
theorem ans_more {W:Acts} {L F:List Qz} (h: ∀r∈F,r=Qz.fresh r.name):AnsEq W (Qj (L++F)) (Qj L):=fun n=> by
 unfold ansOf
 cases W n with
 | none=> rfl
 | some A=>
  simp only
  rw [env_appZ]
  cases hL:Qj L n with
  | some r=> rfl
  | none=>
   simp only
   cases hF:Qj F n with
   | none=> rfl
   | some r=>
    have:r.over=false:=by rw [h r (env_mem hF).1];rfl
    simp only
    rw [this]
    rfl
structure RndI (Kj:List Qq) (L R nx:List Qz) (i:Nat) (b:Bool):Prop where
 len:nx.length=L.length
 pre: ∃F,R=L++F∧∀r∈F,r=Qz.fresh r.name∧(Q_ Kj r.name).isSome=true
 dif: (R.map (·.name)).Nodup
 nam:nx.map (·.name)=L.map (·.name)
 nxt: ∀j,j < i->j < L.length->∃k,nx.getD j Qz.zero= (againN (Q_ Kj) (Qj L) (L.getD j Qz.zero).name k).1∧(∀m,m < k->CanGo (Q_ Kj) (Qj L) (againN (Q_ Kj) (Qj L) (L.getD j Qz.zero).name m).1)∧¬CanGo (Q_ Kj) (Qj L) (nx.getD j Qz.zero)
 oth: ∀j,i<=j->nx.getD j Qz.zero=L.getD j Qz.zero
 led: ∃k,Leads (ReadyX (Q_ Kj)) (doX (Q_ Kj)) (Qj L) (Qj (nx++R.drop L.length)) k
 yes:b=true->∃j,j < L.length∧nx.getD j Qz.zero≠L.getD j Qz.zero
 no:b=false->∀j,j < i->j < L.length->(nx.getD j Qz.zero).Zj= (L.getD j Qz.zero).Zj∧(nx.getD j Qz.zero).over= (L.getD j Qz.zero).over
theorem RndI.start {Kj:List Qq} {L:List Qz} (h: (L.map (·.name)).Nodup):RndI Kj L L L 0 false:=
 ⟨rfl,⟨[],by simp,fun r hr=> (by cases hr)⟩,h,rfl,fun j hj=> absurd hj (Nat.not_lt_zero _),fun _ _=> rfl,⟨0,by rw [List.drop_length,List.append_nil];exact .here _⟩,fun h=> (by cases h),fun _ j hj=> absurd hj (Nat.not_lt_zero _)⟩
theorem RndI.nd {Kj:List Qq} {L R nx:List Qz} {i:Nat} {b:Bool} (h:RndI Kj L R nx i b): ((nx++R.drop L.length).map (·.name)).Nodup∧(L.map (·.name)).Nodup:=by
 obtain ⟨F,hF,_⟩:=h.pre
 have h1:=h.dif
 rw [hF,List.map_append] at h1
 refine ⟨?_,(List.nodup_append.1 h1).1⟩
 rw [hF,List.drop_left,List.map_append,h.nam]
 exact h1
theorem RndI.ans {Kj:List Qq} {L R nx:List Qz} {i:Nat} {b:Bool} (h:RndI Kj L R nx i b):AnsEq (Q_ Kj) (Qj R) (Qj L):=by
 obtain ⟨F,hF,hf⟩:=h.pre
 rw [hF]
 exact ans_more (fun r hr=> (hf r hr).1)
theorem RndI.next {Kj:List Qq} {L R nx:List Qz} {i:Nat} {b b':Bool} (h:RndI Kj L R nx i b) (hT:ClT (Q_ Kj) (Qj L)) (hi:i < L.length) {n:ByteArray} (hn:n= (L.getD i Qz.zero).name) {k:Nat} (h1: ∀j,j < k->CanGo (Q_ Kj) (Qj R) (againN (Q_ Kj) (Qj R) n j).1) (h2: ¬CanGo (Q_ Kj) (Qj R) (againN (Q_ Kj) (Qj R) n k).1)
  (hb:b'= (b || decide ((againN (Q_ Kj) (Qj R) n k).1.Zj≠(L.getD i Qz.zero).Zj) || decide ((againN (Q_ Kj) (Qj R) n k).1.over≠(L.getD i Qz.zero).over))):
  RndI Kj L (wantL (Q_ Kj) R (againN (Q_ Kj) (Qj R) n k).2) (nx.set i (againN (Q_ Kj) (Qj R) n k).1) (i+1) b':=by
 have hnd:=h.nd
 have hA:=h.ans
 simp only [hA.again n,hA.can] at h1 h2 hb⊢
 obtain ⟨F,hF,hf⟩:=h.pre
 obtain ⟨r',hr'⟩: ∃r',r'= (againN (Q_ Kj) (Qj L) n k).1:= ⟨_,rfl⟩
 obtain ⟨q,hq⟩: ∃q,q= (againN (Q_ Kj) (Qj L) n k).2:= ⟨_,rfl⟩
 rw [<-hr'] at h2 hb⊢
 rw [<-hq]
 have hrn:r'.name=n:=by rw [hr'];exact againN_name k
 obtain ⟨G,g1,g2,g3⟩:=wantL_more (Q_ Kj) q R h.dif
 have hil:i < nx.length:=by rw [h.len];exact hi
 have hni: (nx.getD i Qz.zero)=L.getD i Qz.zero:=h.oth i (Nat.le_refl _)
 have hnn:r'.name= (nx.getD i Qz.zero).name:=by rw [hrn,hn,hni]
 have hnx: (nx.map (·.name)).Nodup:=by rw [h.nam];exact hnd.2
 have hset: ∀j,(nx.set i r').getD j Qz.zero=if j=i then r' else nx.getD j Qz.zero:=fun j=> by
  by_cases e:j=i
  ·subst e;rw [if_pos rfl];simp [List.getD,hil]
  ·rw [if_neg e];simp [List.getD,List.getElem?_set_ne (Ne.symm e)]
 refine ⟨by rw [List.length_set];exact h.len,⟨F++G,by rw [g1,hF,List.append_assoc],fun r hr=> ?_⟩,g3,by rw [set_namesZ hil hnn];exact h.nam,fun j hj hjl=> ?_,fun j hj=> ?_, ?_,fun hb1=> ?_,fun hb0 j hj hjl=> ?_⟩
 ·rcases List.mem_append.1 hr with e | e
  ·exact hf r e
  ·exact g2 r e
 ·rw [hset]
  by_cases e:j=i
  ·subst e
   rw [if_pos rfl,<-hn]
   exact ⟨k,hr',h1,h2⟩
  ·rw [if_neg e];exact h.nxt j (by omega) hjl
 ·rw [hset,if_neg (by omega)];exact h.oth j (by omega)
 ·obtain ⟨k1,hl⟩:=h.led
  have hT2:=hT.led hl
  obtain ⟨e1,e2⟩:=led_again (n:=n) (k:=k) hl h1
  have hFd:R.drop L.length=F:=by rw [hF,List.drop_left]
  have hFd2: (wantL (Q_ Kj) R q).drop L.length=F++G:=by rw [g1,hF,List.append_assoc,List.drop_left]
  rw [hFd] at hl hT2 e1 e2 hnd
  rw [hFd2]
  obtain ⟨τ,hτ⟩: ∃ τ, τ =Qj (nx++F):= ⟨_,rfl⟩
  have hmem:L.getD i Qz.zero∈nx++F:=List.mem_append.2 (.inl (by rw [<-hni];exact getD_memZ hil))
  have hτn:Qj (nx++F) n=some (L.getD i Qz.zero):=by rw [hn];exact env_getZ hnd.1 hmem
  -- where the run stands
  have hLn:Qj L n=some (L.getD i Qz.zero):=by rw [hn];exact env_getZ hnd.2 (getD_memZ hi)
  obtain ⟨q1,L0,k0,q2,q3⟩:=hT.traj n _ hLn
  rw [q1] at q2 q3
  have hk0:k0<=k:=by
   rcases Nat.lt_or_ge k k0 with g | g
   ·exact absurd (by rw [hr'];exact q3 k g) h2
   ·exact g
  have hcl:=hT2.cl n _ L0 hτn (by
   refine ⟨k0, ?_,fun j hj=> ?_⟩
   ·rw [q1,e1 k0 hk0];exact q2
   ·rw [q1];exact e2 j (by omega))
  have hadv:=adv_leads (W:=Q_ Kj) (n:=n) (k - k0) (σ:=Qj (nx++F)) (k0:=k0) (by rw [e1 k0 hk0,q2];exact hτn) (fun j hj=> e2 j (by omega)) (fun y hy hw=> hcl y (by rw [e1 k0 hk0,q2] at hy;exact hy) hw)
  rw [show k0+ (k - k0)=k by omega] at hadv
  have henv:Qj (nx.set i r'++ (F++G))=advX (Q_ Kj) (Qj (nx++F)) n k:=by
   funext m
   unfold advX
   rw [e1 k (Nat.le_refl _),<-hr',<-hq,env_appZ,env_setZ hnx hil hnn,hrn]
   by_cases e:m=n
   ·rw [if_pos e,if_pos e]
   ·rw [if_neg e,if_neg e,env_appZ nx F]
    cases hx:Qj nx m with
    | some x=> rfl
    | none=>
     simp only
     rw [env_appZ F G]
     cases hy:Qj F m with
     | some x=> rfl
     | none=>
      simp only
      have hLm:Qj L m=none:=by rw [env_noZ,<-h.nam];exact env_noZ.1 hx
      have hw:=wantL_env (Q_ Kj) q R m
      rw [g1,env_appZ,hF,env_appZ,hLm] at hw
      simp only [hy] at hw
      exact hw
  rw [henv]
  exact ⟨_,hl.trans hadv⟩
 ·rw [hb] at hb1
  simp only [Bool.or_eq_true,decide_eq_true_eq] at hb1
  rcases hb1 with (g | g) | g
  ·obtain ⟨j,hj,hne⟩:=h.yes g
   have:j≠i:=fun e=> hne (by rw [e];exact hni)
   exact ⟨j,hj,by rw [hset,if_neg this];exact hne⟩
  ·exact ⟨i,hi,by rw [hset,if_pos rfl];exact fun e=> g (by rw [e])⟩
  ·exact ⟨i,hi,by rw [hset,if_pos rfl];exact fun e=> g (by rw [e])⟩
 ·rw [hb] at hb0
  simp only [Bool.or_eq_false_iff,decide_eq_false_iff_not,Decidable.not_not] at hb0
  rw [hset]
  by_cases e:j=i
  ·rw [if_pos e,e];exact ⟨hb0.1.2,hb0.2⟩
  ·rw [if_neg e];exact h.no hb0.1.1 j (by omega) hjl
theorem RndI.still {Kj:List Qq} {L R nx:List Qz} (h:RndI Kj L R nx L.length false) (hT:ClT (Q_ Kj) (Qj L)) (hR:R.length=L.length):nx++R.drop L.length=L∧AtEnd (ReadyX (Q_ Kj)) (Qj L):=by
 have key: ∀j,j < L.length->nx.getD j Qz.zero=L.getD j Qz.zero∧¬CanGo (Q_ Kj) (Qj L) (L.getD j Qz.zero):=fun j hj=> by
  obtain ⟨k,a1,a2,a3⟩:=h.nxt j hj hj
  obtain ⟨v1,v2⟩:=h.no rfl j hj hj
  have hLn:=env_getZ h.nd.2 (getD_memZ hj)
  obtain ⟨_,L0,k0,q2,q3⟩:=hT.traj _ _ hLn
  have hw:=hT.web _ _ hLn
  have hk0:k0<=k:=by
   rcases Nat.lt_or_ge k k0 with g | g
   ·exact absurd (by rw [a1];exact q3 k g) a3
   ·exact g
  rcases Nat.lt_or_ge k0 k with g | g
  ·exfalso
   have c0:= (a2 k0 g).1
   have w0:=againN_visits hw q3 c0
   rw [q2] at c0 w0
   have c1: (againN (Q_ Kj) (Qj L) (L.getD j Qz.zero).name k).1.over=false:=by rw [<-a1,v2];exact c0
   have w1:=againN_visits hw a2 c1
   rw [<-a1,v1] at w1
   simp only at w0
   omega
  ·obtain rfl:k0=k:=by omega
   rw [q2] at a1
   have a4:nx.getD j Qz.zero=L.getD j Qz.zero:=a1
   exact ⟨a4,by rw [<-a4];exact a3⟩
 have e1:nx=L:=by
  apply List.ext_getElem h.len
  intro j h1 h2
  have:= (key j h2).1
  simpa [List.getD,h1,h2] using this
 refine ⟨?_,fun n ⟨r,hr,hc⟩=> ?_⟩
 ·rw [e1,List.drop_of_length_le (by omega),List.append_nil]
 ·obtain ⟨j,hj,rfl⟩:=List.getElem_of_mem (env_mem hr).1
  exact (key j hj).2 (by simpa [List.getD,hj] using hc)
theorem RndI.moved {Kj:List Qq} {L R nx:List Qz} {i:Nat} {b:Bool} (h:RndI Kj L R nx i b) (hw:WfX (Q_ Kj) (Qj L)) (hm:b=true∨L.length < R.length):potAll (Kj.map (·.name)) (Qj (nx++R.drop L.length)) < potAll (Kj.map (·.name)) (Qj L):=by
 obtain ⟨k,hl⟩:=h.led
 have hp:=led_pot (Kj.map (·.name)) hl hw (fun n hn=> acts_in hn)
 rcases Nat.eq_zero_or_pos k with e | e
 ·exfalso
  subst e
  have he:Qj (nx++R.drop L.length)=Qj L:=hl.zero rfl
  rcases hm with g | g
  ·obtain ⟨j,hj,hne⟩:=h.yes g
   have hjn:j < nx.length:=by rw [h.len];exact hj
   have h1:=env_getZ h.nd.1 (List.mem_append.2 (.inl (getD_memZ hjn)))
   have h2:=env_getZ h.nd.2 (getD_memZ hj)
   have hnm: (nx.getD j Qz.zero).name= (L.getD j Qz.zero).name:=by
    have:=congrArg (fun l=> l[j]?) h.nam
    simpa [List.getD,hjn,hj] using this
   rw [he,hnm,h2] at h1
   exact hne (by simpa using h1.symm)
  ·obtain ⟨F,hF,_⟩:=h.pre
   have hFl:0 < F.length:=by rw [hF,List.length_append] at g;omega
   have hm:F[0]∈nx++R.drop L.length:=by rw [hF,List.drop_left];exact List.mem_append.2 (.inr (List.getElem_mem hFl))
   have h1:=env_getZ h.nd.1 hm
   rw [he] at h1
   have h3:=h.dif
   rw [hF,List.map_append] at h3
   exact (List.nodup_append.1 h3).2.2 _ (List.mem_map.2 ⟨_,(env_mem h1).1,(env_mem h1).2⟩) _ (List.mem_map.2 ⟨F[0],List.getElem_mem hFl,rfl⟩) rfl
 ·omega
structure OutC (Kj:List Qq) (Kk:List ByteArray) (L:List Qz) (ag:Bool) (gg:Nat):Prop where
 nd: (L.map (·.name)).Nodup
 good:GoodEnv Kj (Qj L)
 led: ∃k,Leads (ReadyX (Q_ Kj)) (doX (Q_ Kj)) (Qj (startL Kj Kk)) (Qj L) k
 fin:ag=false->AtEnd (ReadyX (Q_ Kj)) (Qj L)
 gg:gg=if ag=true then potAll (Kj.map (·.name)) (Qj L)+1 else 0
section
variable {Kj : List Qq} {Kk : List ByteArray} {L R nx : List Qz} {ag b : Bool} {gg : Nat}
theorem OutC.cl (h:OutC Kj Kk L ag gg):ClT (Q_ Kj) (Qj L):=by
 obtain ⟨k,hl⟩:=h.led
 exact (ClT.start Kk).led hl
theorem OutC.wf (h:OutC Kj Kk L ag gg):WfX (Q_ Kj) (Qj L):=fun n r hr=> by
 obtain ⟨h1,h2⟩:=h.good n r hr
 refine ⟨h1,h.cl.web n r hr,h2.lo,h2.hi⟩
theorem OutC.all (h:OutC Kj Kk L ag gg): ∀r∈L,r.Good Kj:=fun r hr=> (h.good r.name r (env_getZ h.nd hr)).2
theorem OutC.len (h:OutC Kj Kk L ag gg):L.length<=Kj.length:=by
 have h1: ∀n∈L.map (·.name),n∈Kj.map (·.name):=fun n hn=> by
  obtain ⟨r,hr,rfl⟩:=List.mem_map.1 hn
  exact acts_in (h.cl.web _ _ (env_getZ h.nd hr))
 have:=List.Nodup.length_le_of_subset h.nd h1
 simpa using this
theorem good_led {Kj:List Qq} (hok:ActsOk (Q_ Kj)) {σ τ :Env} {k:Nat} (hl:Leads (ReadyX (Q_ Kj)) (doX (Q_ Kj)) σ τ k) (h:GoodEnv Kj σ):GoodEnv Kj τ :=
 hl.keeps (P:=GoodEnv Kj) (fun s n g hr=> by
  obtain ⟨r,hr,hc⟩:=hr
  intro m q hq
  rw [doX_eq hr] at hq
  by_cases e:m=n
  ·rw [if_pos e] at hq
   cases hq
   exact ⟨by rw [nextOf_name,(g n r hr).1,e],nextOf_good hok g (g n r hr).2 hc⟩
  ·rw [if_neg e] at hq
   cases hm:s m with
   | some x=> rw [hm] at hq;cases hq;exact g m _ hm
   | none=>
    rw [hm] at hq
    simp only at hq
    split at hq
    ·next c=> cases hq;exact ⟨rfl,fresh_good hok c.2⟩
    ·cases hq) h
theorem start_env (Kj:List Qq) (Kk:List ByteArray):Qj (wantL (Q_ Kj) [] Kk)=Qj (startL Kj Kk):=by
 funext n
 rw [startL_env,wantL_env]
 rfl
theorem OutC.start {Kj:List Qq} (hok:ActsOk (Q_ Kj)) (Kk:List ByteArray):OutC Kj Kk (wantL (Q_ Kj) [] Kk) true (potAll (Kj.map (·.name)) (Qj (wantL (Q_ Kj) [] Kk))+1):=by
 obtain ⟨G,_,_,g3⟩:=wantL_more (Q_ Kj) Kk [] List.nodup_nil
 refine ⟨g3, ?_,⟨0, ?_⟩,fun h=> (by cases h),by rw [if_pos rfl]⟩
 ·rw [start_env];exact (startL_good hok Kk).env
 ·rw [start_env];exact .here _
theorem OutC.next (hok:ActsOk (Q_ Kj)) (h:OutC Kj Kk L true gg) (hr:RndI Kj L R nx L.length b) {b':Bool} (hb:b'= (b || decide (L.length < R.length))):OutC Kj Kk (nx++R.drop L.length) b' (if b'=true then potAll (Kj.map (·.name)) (Qj (nx++R.drop L.length))+1 else 0)∧(if b'=true then potAll (Kj.map (·.name)) (Qj (nx++R.drop L.length))+1 else 0) < gg:=by
 obtain ⟨k,hl⟩:=h.led
 obtain ⟨k2,hl2⟩:=hr.led
 have hpre:=hr.pre
 refine ⟨⟨hr.nd.1,good_led hok hl2 h.good,⟨_,hl.trans hl2⟩,fun hf=> ?_,rfl⟩, ?_⟩
 ·rw [hf] at hb
  have hb2:=hb.symm
  simp only [Bool.or_eq_false_iff,decide_eq_false_iff_not] at hb2
  obtain ⟨F,hF,_⟩:=hpre
  have hRl:R.length=L.length:=by
   have:L.length<=R.length:=by rw [hF,List.length_append];omega
   omega
  have hr2:=hr
  rw [hb2.1] at hr2
  obtain ⟨e1,e2⟩:=hr2.still h.cl hRl
  rw [e1]
  exact e2
 ·have hg:=h.gg
  rw [if_pos rfl] at hg
  rw [hg]
  by_cases e:b'=true
  ·rw [if_pos e]
   rw [e] at hb
   have:=hr.moved h.wf (by
    have hb2:=hb.symm
    simp only [Bool.or_eq_true,decide_eq_true_eq] at hb2
    exact hb2)
   omega
  ·rw [if_neg e];omega
end
theorem units_perm {l l':List Qz} (h:l.Perm l'):unitsX l=unitsX l':=by
 unfold unitsX
 induction h with
 | nil=> rfl
 | cons x _ ih=> simp only [List.map_cons,List.sum_cons,ih]
 | swap x y l=> simp only [List.map_cons,List.sum_cons];omega
 | trans _ _ i1 i2=> rw [i1,i2]
theorem cost_perm (W:Acts) {l l':List Qz} (h:l.Perm l'):costX W l=costX W l':=by
 unfold costX
 induction h with
 | nil=> rfl
 | cons x _ ih=> simp only [List.map_cons,List.sum_cons,ih]
 | swap x y l=> simp only [List.map_cons,List.sum_cons];omega
 | trans _ _ i1 i2=> rw [i1,i2]
theorem OutC.sorted {Kj:List Qq} {Kk:List ByteArray} {L:List Qz} {gg:Nat} (h:OutC Kj Kk L false gg):EndX Kj Kk (L.foldl insX [])∧Qj (L.foldl insX [])=Qj L∧unitsX (L.foldl insX [])=unitsX L∧costX (Q_ Kj) (L.foldl insX [])=costX (Q_ Kj) L:=by
 obtain ⟨a1,a2⟩:=foldl_ins L [] List.Pairwise.nil (nodup_diffZ h.nd)
 have he:Qj (L.foldl insX [])=Qj L:=by
  funext n
  rw [a2]
  cases Qj L n <;> rfl
 have hm: ∀r,r∈L.foldl insX []↔r∈L:=fun r=> by
  constructor
  ·intro hr
   have h1:=asc_env a1 hr
   rw [he] at h1
   exact (env_mem h1).1
  ·intro hr
   have h1:=env_getZ h.nd hr
   rw [<-he] at h1
   exact (env_mem h1).1
 have hnL:L.Nodup:=List.Pairwise.of_map (·.name) (fun a b hab e=> hab (by rw [e])) h.nd
 have hnS: (L.foldl insX []).Nodup:=List.Pairwise.imp (R:=fun x y:Qz=> lessX x.name y.name) (S:=fun x y=> x≠y) (fun {a b} hab (e:a=b)=> lessX_ne hab (congrArg Qz.name e)) a1
 have hp: (L.foldl insX []).Perm L:= (List.perm_ext_iff_of_nodup hnS hnL).2 hm
 refine ⟨⟨⟨a1,fun r hr=> h.all r ((hm r).1 hr)⟩, ?_, ?_⟩,he,units_perm hp,cost_perm _ hp⟩
 ·rw [he];exact h.led
 ·rw [he];exact h.fin rfl
