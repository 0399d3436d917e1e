import Derived.Test.YtieeffpandfpbaaGreatDoorKVWaits
set_option maxRecDepth 100000
set_option maxHeartbeats 25600000
namespace Go.Proofs.YtieeffpandfpbaaGreatDoor
structure Places (E:ByteArray->ByteArray->Prop) (nm:List ByteArray):Prop where
 asc:AscB nm
 all: ∀x y,E x y->x∈nm
def EdgeP (E:ByteArray->ByteArray->Prop) (nm:List ByteArray) (p q:Nat):Prop:= ∃(hp:p < nm.length) (hq:q < nm.length),E nm[p] nm[q]
section
variable {E : ByteArray -> ByteArray -> Prop} {nm : List ByteArray}
theorem Places.less (h:Places E nm) {p q:Nat} (hp:p < nm.length) (hq:q < nm.length):lessX nm[p] nm[q]↔p < q:=by
 have hi:=List.pairwise_iff_getElem.1 h.asc
 constructor
 ·intro hl
  rcases Nat.lt_trichotomy p q with e | e | e
  ·exact e
  ·subst e;exact absurd hl (lessX_irrefl _)
  ·exact absurd hl (lessX_asymm (hi q p hq hp e))
 ·exact hi p q hp hq
theorem Places.inj (h:Places E nm) {p q:Nat} (hp:p < nm.length) (hq:q < nm.length) (e:nm[p]=nm[q]):p=q:=by
 rcases Nat.lt_trichotomy p q with g | g | g
 ·have:= (h.less hp hq).2 g;rw [e] at this;exact absurd this (lessX_irrefl _)
 ·exact g
 ·have:= (h.less hq hp).2 g;rw [e] at this;exact absurd this (lessX_irrefl _)
theorem Places.place (h:Places E nm) {x y:ByteArray} (hE:E x y): ∃(p:Nat) (hp:p < nm.length),nm[p]=x:=List.getElem_of_mem (h.all x y hE)
theorem walk_to {n:Nat} {p q:Nat} (h:WalkN (EdgeP E nm) n p q) (hp:p < nm.length): ∃hq:q < nm.length,WalkN E n nm[p] nm[q]:=by
 induction h with
 | here a=> exact ⟨hp,.here _⟩
 | step h _ ih=>
  obtain ⟨_,hb,hE⟩:=h
  obtain ⟨hq,hw⟩:=ih hb
  exact ⟨hq,.step hE hw⟩
theorem Places.back (h:Places E nm): ∀{n:Nat} {p q:Nat} (hp:p < nm.length) (hq:q < nm.length),WalkN E n nm[p] nm[q]->WalkN (EdgeP E nm) n p q:=by
 intro n
 induction n with
 | zero=> intro p q hp hq hw;rw [h.inj hp hq hw.zero];exact .here q
 | succ n ih=>
  intro p q hp hq hw
  obtain ⟨b,h1,h2⟩:=hw.first
  have: ∃(r:Nat) (hr:r < nm.length),nm[r]=b:=by
   cases n with
   | zero=> exact ⟨q,hq,h2.zero.symm⟩
   | succ m=>
    obtain ⟨c,h3,_⟩:=h2.first
    exact h.place h3
  obtain ⟨r,hr,rfl⟩:=this
  exact .step ⟨hp,hr,h1⟩ (ih hr hq h2)
theorem Places.far (h:Places E nm) {n:Nat} {p q:Nat} (hp:p < nm.length) (hq:q < nm.length):Far (EdgeP E nm) q n p↔Far E nm[q] n nm[p]:=by
 constructor
 ·intro hf
  exact ⟨(walk_to hf.1 hp).2,fun m hm hw=> hf.2 m hm (h.back hp hq hw)⟩
 ·intro hf
  exact ⟨h.back hp hq hf.1,fun m hm hw=> hf.2 m hm (walk_to hw hp).2⟩
def LeastP (p:Nat->Prop) (x:Nat):Prop:=p x∧∀y,p y->x<=y
inductive CircP (R:Nat->Nat->Prop) (t:Nat):Nat->Nat->List Nat->Prop
 | stop (a:Nat):CircP R t 1 a [a]
 | step {n:Nat} {a x:Nat} {l:List Nat} (h:LeastP (fun y=> R a y∧Far R t n y) x) (r:CircP R t n x l):CircP R t (n+1) a (a :: l)
def nameOf (nm:List ByteArray) (p:Nat):ByteArray:=nm.getD p ByteArray.empty
theorem nameOf_at {p:Nat} (hp:p < nm.length):nameOf nm p=nm[p]:=by simp [nameOf,List.getD,hp]
theorem CircP.names (h:Places E nm) {t:Nat} (ht:t < nm.length) {n a:Nat} {l:List Nat} (hc:CircP (EdgeP E nm) t n a l) (ha:a < nm.length):CircU E nm[t] n nm[a] (l.map (nameOf nm)):=by
 induction hc with
 | stop a=> rw [List.map_cons,List.map_nil,nameOf_at ha];exact .stop _
 | @step n a x l hl r ih=>
  obtain ⟨⟨⟨_,hx,hE⟩,hf⟩,hmin⟩:=hl
  rw [List.map_cons,nameOf_at ha]
  refine .step ⟨⟨hE,(h.far hx ht).1 hf⟩,fun y hy hlt=> ?_⟩ (ih hx)
  have hn:1<=n:=by cases r <;> omega
  obtain ⟨m,rfl⟩: ∃m,n=m+1:= ⟨n - 1,by omega⟩
  obtain ⟨z,hz,_⟩:=hy.2.next
  obtain ⟨p,hp,rfl⟩:=h.place hz
  have h1:=hmin p ⟨⟨ha,hp,hy.1⟩,(h.far hp ht).2 hy.2⟩
  have h2:= (h.less hp hx).1 hlt
  omega
def SizeP (R:Nat->Nat->Prop) (t n:Nat):Prop:=1<=n∧WalkN R n t t∧∀m,1<=m->m < n->¬WalkN R m t t
structure BestP (R:Nat->Nat->Prop) (k:Nat) (best:List Nat):Prop where
 no:best=[]->∀t,t < k->∀n,¬SizeP R t n
 yes:best≠[]->∃t n,t < k∧SizeP R t n∧CircP R t n t best∧best.length=n∧(∀h,h < k->∀j,SizeP R h j->n<=j∧(h < t->n < j))
theorem BestP.start (R:Nat->Nat->Prop):BestP R 0 []:= ⟨fun _ _t ht=> absurd ht (Nat.not_lt_zero _),fun h=> absurd rfl h⟩
theorem SizeP.unique {R:Nat->Nat->Prop} {t n m:Nat} (h:SizeP R t n) (g:SizeP R t m):n=m:=by
 rcases Nat.lt_trichotomy n m with e | e | e
 ·exact absurd h.2.1 (g.2.2 n h.1 e)
 ·exact e
 ·exact absurd g.2.1 (h.2.2 m g.1 e)
theorem BestP.skip {R:Nat->Nat->Prop} {k:Nat} {best:List Nat} (h:BestP R k best) (hn: ∀n,SizeP R k n->best≠[]∧best.length<=n):BestP R (k+1) best:=by
 refine ⟨fun e t ht n hs=> ?_,fun e=> ?_⟩
 ·by_cases g:t=k
  ·subst g;exact (hn n hs).1 e
  ·exact h.no e t (by omega) n hs
 ·obtain ⟨t,n,h1,h2,h3,h4,h5⟩:=h.yes e
  refine ⟨t,n,by omega,h2,h3,h4,fun q hq j hj=> ?_⟩
  by_cases g:q=k
  ·subst g
   have:= (hn j hj).2
   exact ⟨by omega,fun hlt=> by omega⟩
  ·exact h5 q (by omega) j hj
theorem BestP.take {R:Nat->Nat->Prop} {k n:Nat} {best l:List Nat} (h:BestP R k best) (hs:SizeP R k n) (hc:CircP R k n k l) (hl:l.length=n) (hb:best=[]∨n < best.length):BestP R (k+1) l:=by
 have hl0:l≠[]:=by cases hc <;> simp
 refine ⟨fun e=> absurd e hl0,fun _=> ⟨k,n,by omega,hs,hc,hl,fun q hq j hj=> ?_⟩⟩
 by_cases g:q=k
 ·subst g
  have:=hs.unique hj
  exact ⟨by omega,fun hlt=> by omega⟩
 ·rcases hb with rfl | hb
  ·exact absurd hj (h.no rfl q (by omega) j)
  ·obtain ⟨t,m,h1,h2,h3,h4,h5⟩:=h.yes (by intro e;rw [e] at hb;simp at hb)
   have:= (h5 q (by omega) j hj).1
   exact ⟨by omega,fun _=> by omega⟩
theorem BestP.circ (h:Places E nm) {best:List Nat} (hb:BestP (EdgeP E nm) nm.length best):CircX E (best.map (nameOf nm)):=by
 have hplace: ∀x n,1<=n->WalkN E n x x->∃(p:Nat) (hp:p < nm.length),nm[p]=x:=fun x n hn hw=> by
  obtain ⟨m,rfl⟩: ∃m,n=m+1:= ⟨n - 1,by omega⟩
  obtain ⟨b,hb,_⟩:=hw.first
  exact h.place hb
 have hsize: ∀n p (hp:p < nm.length),1<=n->WalkN E n nm[p] nm[p]->∃m,m<=n∧SizeP (EdgeP E nm) p m:=by
  intro n
  induction n using Nat.strongRecOn with
  | ind n ih=>
   intro p hp hn hw
   by_cases hs: ∃m,1<=m∧m < n∧WalkN (EdgeP E nm) m p p
   ·obtain ⟨m,h1,h2,h3⟩:=hs
    obtain ⟨q,h4,h5⟩:=ih m h2 p hp h1 (walk_to h3 hp).2
    exact ⟨q,by omega,h5⟩
   ·exact ⟨n,Nat.le_refl _,hn,h.back hp hp hw,fun m h1 h2 h3=> hs ⟨m,h1,h2,h3⟩⟩
 by_cases he:best=[]
 ·refine .inl ⟨fun x n hn hw=> ?_,by rw [he];rfl⟩
  obtain ⟨p,hp,rfl⟩:=hplace x n hn hw
  obtain ⟨m,_,hs⟩:=hsize n p hp hn hw
  exact hb.no he p hp m hs
 ·obtain ⟨t,n,ht,hs,hc,_,hl⟩:=hb.yes he
  refine .inr ⟨n,nm[t],hs.1,fun x k hk hw=> ?_,⟨(walk_to hs.2.1 ht).2,fun y hy hlt=> ?_⟩,hc.names h ht ht⟩
  ·obtain ⟨p,hp,rfl⟩:=hplace x k hk hw
   obtain ⟨m,h1,h2⟩:=hsize k p hp hk hw
   have:= (hl p hp m h2).1
   omega
  ·obtain ⟨p,hp,rfl⟩:=hplace y n hs.1 hy
   obtain ⟨m,h1,h2⟩:=hsize n p hp hs.1 hy
   have:= (hl p hp m h2).2 ((h.less hp ht).1 hlt)
   omega
end
section
variable (E : ByteArray -> ByteArray -> Prop) (g : ByteArray)
def RightV (b:Nat) (x:ByteArray) (v:Nat):Prop:= (lessX x g->v=0)∧(¬lessX x g->(v≠0->FarR E g v x∧v < b)∧∀m,m < b->FarR E g m x->v=m)
end
section
variable {E : ByteArray -> ByteArray -> Prop} {g : ByteArray}
theorem RightV.start {x:ByteArray}:RightV E g 1 x 0:= ⟨fun _=> rfl,fun _=> ⟨fun h=> absurd rfl h,fun m hm hf=> by have:=hf.1.pos;omega⟩⟩
theorem RightV.keep {n:Nat} {x:ByteArray} {v:Nat} (h:RightV E g n x v) (hv:v≠0∨lessX x g):RightV E g (n+1) x v:=by
 refine ⟨h.1,fun hn=> ?_⟩
 rcases hv with hv | hv
 ·obtain ⟨h1,h2⟩:=h.2 hn
  obtain ⟨h3,h4⟩:=h1 hv
  exact ⟨fun _=> ⟨h3,by omega⟩,fun m _ hf=> h3.unique hf⟩
 ·exact absurd hv hn
def Hit (E:ByteArray->ByteArray->Prop) (g:ByteArray) (n:Nat) (x s:ByteArray):Prop:=E x s∧((n=1∧s=g)∨(1 < n∧lessX g s∧FarR E g (n - 1) s))
theorem hit_far {n:Nat} {x:ByteArray} (hn:1<=n) (hno: ∀m,m < n->¬FarR E g m x): (∃s,Hit E g n x s)↔FarR E g n x:=by
 rcases Nat.lt_or_ge 1 n with h1 | h1
 ·obtain ⟨q,rfl⟩: ∃q,n=q+1:= ⟨n - 1,by omega⟩
  rw [FarR.succ (by omega)]
  constructor
  ·rintro ⟨s,hE,⟨h2,_⟩ | ⟨_,h2,h3⟩⟩
   ·omega
   ·exact ⟨⟨s,hE,h2,by simpa using h3⟩,fun m hm=> hno m (by omega)⟩
  ·rintro ⟨⟨s,hE,h2,h3⟩,_⟩
   exact ⟨s,hE,.inr ⟨h1,h2,by simpa using h3⟩⟩
 ·have:n=1:=by omega
  subst this
  rw [FarR.one]
  constructor
  ·rintro ⟨s,hE,⟨_,rfl⟩ | ⟨h2,_⟩⟩
   ·exact hE
   ·omega
  ·intro hE
   exact ⟨g,hE,.inl ⟨rfl,rfl⟩⟩
theorem RightV.hit {n:Nat} {x:ByteArray} (hn:1<=n) (h:RightV E g n x 0) (hx: ¬lessX x g) (hs: ∃s,Hit E g n x s):RightV E g (n+1) x n:=by
 have hno: ∀m,m < n->¬FarR E g m x:=fun m hm hf=> by
  have:= (h.2 hx).2 m hm hf
  have:=hf.1.pos
  omega
 have hf:= (hit_far hn hno).1 hs
 exact ⟨fun e=> absurd e hx,fun _=> ⟨fun _=> ⟨hf,by omega⟩,fun m _ hm=> hf.unique hm⟩⟩
theorem RightV.miss {n:Nat} {x:ByteArray} (hn:1<=n) (h:RightV E g n x 0) (hx: ¬lessX x g) (hs: ¬∃s,Hit E g n x s):RightV E g (n+1) x 0:=by
 have hno: ∀m,m < n->¬FarR E g m x:=fun m hm hf=> by
  have:= (h.2 hx).2 m hm hf
  have:=hf.1.pos
  omega
 refine ⟨fun _=> rfl,fun _=> ⟨fun e=> absurd rfl e,fun m hm hf=> ?_⟩⟩
 rcases Nat.lt_or_ge m n with e | e
 ·exact absurd hf (hno m e)
 ·have:m=n:=by omega
  subst this
  exact absurd ((hit_far hn hno).2 hf) hs
theorem RightV.ask {b n:Nat} {s:ByteArray} {v:Nat} (h:RightV E g b s v) (hs:lessX g s) (hn:1 < n) (hb:n<=b):v=n - 1↔FarR E g (n - 1) s:=by
 have hx: ¬lessX s g:=lessX_asymm hs
 constructor
 ·intro e
  have:= ((h.2 hx).1 (by omega)).1
  rw [e] at this
  exact this
 ·exact (h.2 hx).2 (n - 1) (by omega)
theorem RightV.whole {names:List ByteArray} (hn: ∀x y,E x y->x∈names) {x:ByteArray} {v:Nat} (h:RightV E g (names.length+1) x v) (hx: ¬lessX x g): (v≠0->FarR E g v x)∧(∀m,FarR E g m x->v=m):=
 ⟨fun hv=> ((h.2 hx).1 hv).1,fun m hf=> (h.2 hx).2 m (by have:=hf.bound hn;omega) hf⟩
theorem BestR.start (E:ByteArray->ByteArray->Prop):BestR E [] []:= ⟨fun _ g h=> (by cases h),fun h=> absurd rfl h⟩
theorem CircR.len {n:Nat} {a:ByteArray} {l:List ByteArray} (h:CircR E g n a l):l.length=n:=by
 induction h with
 | stop=> rfl
 | step _ _ ih=> simp [ih]
theorem BestR.skip {gs best:List ByteArray} (h:BestR E gs best) {g:ByteArray} (hn: ∀n,FarR E g n g->best≠[]∧best.length<=n) (hlt: ∀x∈gs,lessX x g):BestR E (gs++ [g]) best:=by
 refine ⟨fun e x hx n hf=> ?_,fun e=> ?_⟩
 ·rcases List.mem_append.1 hx with q | q
  ·exact h.no e x q n hf
  ·rw [List.mem_singleton] at q;subst q;exact (hn n hf).1 e
 ·obtain ⟨t,n,h1,h2,h3,h4,h5⟩:=h.yes e
  refine ⟨t,n,List.mem_append.2 (.inl h1),h2,h3,h4,fun x hx k hk=> ?_⟩
  rcases List.mem_append.1 hx with q | q
  ·exact h5 x q k hk
  ·rw [List.mem_singleton] at q
   subst q
   have:= (hn k hk).2
   exact ⟨by omega,fun hl=> absurd hl (lessX_asymm (hlt t h1))⟩
theorem BestR.take {gs best l:List ByteArray} (h:BestR E gs best) {g:ByteArray} {n:Nat} (hf:FarR E g n g) (hc:CircR E g n g l) (hb:best=[]∨n < best.length):BestR E (gs++ [g]) l:=by
 have hl:=hc.len
 have hl0:l≠[]:=fun e=> by rw [e] at hl;have:=hf.1.pos;simp at hl;omega
 refine ⟨fun e=> absurd e hl0,fun _=> ⟨g,n,List.mem_append.2 (.inr (by simp)),hf,hc,hl,fun x hx k hk=> ?_⟩⟩
 rcases List.mem_append.1 hx with q | q
 ·rcases hb with rfl | hb
  ·exact absurd hk (h.no rfl x q k)
  ·obtain ⟨t,m,h1,h2,h3,h4,h5⟩:=h.yes (by intro e;rw [e] at hb;simp at hb)
   have:= (h5 x q k hk).1
   exact ⟨by omega,fun _=> by omega⟩
 ·rw [List.mem_singleton] at q
  subst q
  have:=hf.unique hk
  exact ⟨by omega,fun hl=> absurd hl (lessX_irrefl _)⟩
end
open Go.RowKit
section
variable {E : ByteArray -> ByteArray -> Prop} {g : ByteArray}
structure PartR (E:ByteArray->ByteArray->Prop) (g:ByteArray) (n:Nat) (l:List ByteArray) (a:ByteArray) (q:Nat):Prop where
 len:l.length+q=n+1
 pos:1<=q
 far:FarR E g q a
 last: ∃l0,l=l0++ [a]
 rest: ∀r,CircR E g q a r->CircR E g n g (l.dropLast++r)
theorem PartR.start {n:Nat} (h:FarR E g n g):PartR E g n [g] g n:=
 ⟨by simp;omega,h.1.pos,h,⟨[],rfl⟩,fun r hr=> hr⟩
theorem PartR.next {n q:Nat} {l:List ByteArray} {a x:ByteArray} (h:PartR E g n l a (q+1)) (hq:1<=q) (hx:LeastN (fun y=> E a y∧lessX g y∧FarR E g q y) x):PartR E g n (l++ [x]) x q:=by
 obtain ⟨l0,hl0⟩:=h.last
 refine ⟨by have:=h.len;rw [List.length_append];simp;omega,hq,hx.1.2.2,⟨l,rfl⟩,fun r hr=> ?_⟩
 have h1:=h.rest (a :: r) (CircR.step hx hr)
 rw [List.dropLast_concat]
 rw [hl0,List.dropLast_concat] at h1
 rw [hl0,List.append_assoc]
 exact h1
theorem PartR.done {n:Nat} {l:List ByteArray} {a:ByteArray} (h:PartR E g n l a 1):CircR E g n g l:=by
 obtain ⟨l0,hl0⟩:=h.last
 have h1:=h.rest [a] (CircR.stop a)
 rw [hl0,List.dropLast_concat] at h1
 rw [hl0]
 exact h1
theorem PartR.more {n q:Nat} {l:List ByteArray} {a:ByteArray} (h:PartR E g n l a (q+1)) (hq:1<=q): ∃y,E a y∧lessX g y∧FarR E g q y:= ((FarR.succ hq).1 h.far).1
theorem first_least {p:ByteArray->Prop} {l:List ByteArray} (ha:AscB l) (hp: ∀y,p y->y∈l) {k:Nat} (hk:k < l.length) (h:p l[k]) (hno: ∀y∈l.take k,¬p y):LeastN p l[k]:=by
 refine ⟨h,fun y hy hlt=> ?_⟩
 obtain ⟨j,hj,rfl⟩:=List.getElem_of_mem (hp y hy)
 rcases Nat.lt_trichotomy j k with h1 | rfl | h1
 ·exact hno l[j] (by rw [List.mem_take_iff_getElem];exact ⟨j,by omega,rfl⟩) hy
 ·exact lessX_irrefl _ hlt
 ·exact lessX_asymm hlt (List.pairwise_iff_getElem.1 ha k j hk hj h1)
end
theorem BestR.len {E:ByteArray->ByteArray->Prop} {names best:List ByteArray} (h:BestR E names best) (hn: ∀x y,E x y->x∈names):best.length<=names.length:=by
 by_cases e:best=[]
 ·rw [e];exact Nat.zero_le _
 ·obtain ⟨t,n,_,h2,_,h4,_⟩:=h.yes e
  have:=h2.bound hn
  omega
def costOf (W:Acts) (n:ByteArray):Int:=match W n with | some A=> A.cost | none=> 0
theorem costOf_some {W:Acts} {n:ByteArray} {A:ActionD} (h:W n=some A):costOf W n=A.cost:=by unfold costOf;rw [h]
def unitsX (l:List Qq):Int:= (l.map fun r=> r.Zk).sum
def costX (W:Acts) (l:List Qq):Int:= (l.map fun r=> r.Zk * costOf W r.name).sum
theorem unitsX_snoc (l:List Qq) (r:Qq):unitsX (l++ [r])=unitsX l+r.Zk:=by simp [unitsX]
theorem costX_snoc (W:Acts) (l:List Qq) (r:Qq):costX W (l++ [r])=costX W l+r.Zk * costOf W r.name:=by simp [costX]
theorem costOf_le {W:Acts} (hok:ActsOk W) (n:ByteArray):0<=costOf W n∧costOf W n<=20:=by
 unfold costOf
 cases h:W n with
 | none=> exact ⟨Int.le_refl _,by decide⟩
 | some A=> have:= (hok n A h).1.1;show 0<=A.cost∧A.cost<=20;exact ⟨by omega,this.2⟩
theorem units_le : ∀{l:List Qq},(∀r∈l,0<=r.Zk∧r.Zk<=20)->0<=unitsX l∧unitsX l<=20 * (l.length:Int)
 | [],_=> ⟨Int.le_refl _,Int.le_refl _⟩
 | r :: l,h=> by
  have h1:=units_le (l:=l) (fun x hx=> h x (List.mem_cons_of_mem _ hx))
  have h2:=h r (List.mem_cons_self ..)
  have e:unitsX (r :: l)=r.Zk+unitsX l:=by simp [unitsX]
  rw [e,List.length_cons]
  omega
theorem vc_le {v c:Int} (h1:0<=v∧v<=20) (h2:0<=c∧c<=20):0<=v * c∧v * c<=400:=by
 refine ⟨Int.mul_nonneg h1.1 h2.1, ?_⟩
 have h3:v * c<=20 * c:=Int.mul_le_mul_of_nonneg_right h1.2 h2.1
 omega
theorem cost_le {W:Acts} (hok:ActsOk W): ∀{l:List Qq},(∀r∈l,0<=r.Zk∧r.Zk<=20)->0<=costX W l∧costX W l<=400 * (l.length:Int)
 | [],_=> ⟨Int.le_refl _,Int.le_refl _⟩
 | r :: l,h=> by
  have h1:=cost_le hok (l:=l) (fun x hx=> h x (List.mem_cons_of_mem _ hx))
  have h2:=vc_le (h r (List.mem_cons_self ..)) (costOf_le hok r.name)
  have e:costX W (r :: l)=r.Zk * costOf W r.name+costX W l:=by simp [costX]
  rw [e,List.length_cons]
  omega
theorem sums_le {Kk:List Qj} (hok:ActsOk (Qz Kk)) {l:List Qq} (hg:GoodL Kk l) (hl:l.length<=60) (k:Nat):0<=unitsX (l.take k)∧unitsX (l.take k)<=1200∧0<=costX (Qz Kk) (l.take k)∧costX (Qz Kk) (l.take k)<=24000:=by
 have h: ∀r∈l.take k,0<=r.Zk∧r.Zk<=20:=fun r hr=> ⟨(hg.good r (List.mem_of_mem_take hr)).lo,(hg.good r (List.mem_of_mem_take hr)).hi⟩
 have h1:=units_le h
 have h2:=cost_le hok h
 have h3: (l.take k).length<=60:=by rw [List.length_take];omega
 exact ⟨h1.1,by omega,h2.1,by omega⟩
structure ToldV (Kk:List Qj) (Q_:List ByteArray) (sl:List Qq) (o:OutD):Prop where
 res:o.res=Q_.map (resX (Qz Kk) (Qk sl))
 units:o.units=unitsX sl
 cost:o.cost=costX (Qz Kk) sl
 rest: ((¬∃r∈o.res,r.over=false)∧o.code=0∧o.chain=[])∨((∃r∈o.res,r.over=false)∧(∃r∈sl,CanGo (Qz Kk) (Qk sl) r)∧o.code=2∧o.chain=[])∨((∃r∈o.res,r.over=false)∧(¬∃r∈sl,CanGo (Qz Kk) (Qk sl) r)∧o.code=1∧CircX (WaitsX (Qz Kk) (Qk sl)) o.chain)
theorem OutD.ext' {o p:OutD} (h0:o.code=p.code) (h1:o.res=p.res) (h2:o.chain=p.chain) (h3:o.units=p.units) (h4:o.cost=p.cost):o=p:=by
 cases o;cases p
 simp only at h0 h1 h2 h3 h4
 rw [h0,h1,h2,h3,h4]
theorem ToldV.one {Kk:List Qj} {Q_:List ByteArray} {sl:List Qq} {o p:OutD} (h:ToldV Kk Q_ sl o) (k:ToldV Kk Q_ sl p):p=o:=by
 have er:p.res=o.res:=k.res.trans h.res.symm
 have hk:=k.rest
 rw [er] at hk
 have hc:p.code=o.code∧p.chain=o.chain:=by
  rcases h.rest with ⟨a1,a2,a3⟩ | ⟨a1,a0,a2,a3⟩ | ⟨a1,a0,a2,a3⟩ <;> rcases hk with ⟨b1,b2,b3⟩ | ⟨b1,b0,b2,b3⟩ | ⟨b1,b0,b2,b3⟩
  ·exact ⟨b2.trans a2.symm,b3.trans a3.symm⟩
  ·exact absurd b1 a1
  ·exact absurd b1 a1
  ·exact absurd a1 b1
  ·exact ⟨b2.trans a2.symm,b3.trans a3.symm⟩
  ·exact absurd a0 b0
  ·exact absurd a1 b1
  ·exact absurd b0 a0
  ·exact ⟨b2.trans a2.symm,b3.unique a3⟩
 exact OutD.ext' hc.1 er hc.2 (k.units.trans h.units.symm) (k.cost.trans h.cost.symm)
def outNo :OutD:= ⟨9,[],[],0,0⟩
def ToldAns (Kk:List Qj) (Q_:List ByteArray) (sl:List Qq) (o:OutD):Prop:= (o.res.length<=10∧o.chain.length<=60)∧((ValidX Kk Q_ sl∧ToldV Kk Q_ sl o)∨(¬ValidX Kk Q_ sl∧o=outNo))
theorem ToldAns.one {Kk:List Qj} {Q_:List ByteArray} {sl:List Qq} {o p:OutD} (h:ToldAns Kk Q_ sl o) (k:ToldAns Kk Q_ sl p):p=o:=by
 rcases h.2 with ⟨h1,h2⟩ | ⟨h1,h2⟩
 ·rcases k.2 with ⟨k1,k2⟩ | ⟨k1,k2⟩
  ·exact h2.one k2
  ·exact absurd h1 k1
 ·rcases k.2 with ⟨k1,k2⟩ | ⟨k1,k2⟩
  ·exact absurd k1 h1
  ·rw [h2,k2]
theorem resX_size {Kk:List Qj} {sl:List Qq} (hg:GoodL Kk sl) {n:ByteArray} (hn:n.size<=20): (resX (Qz Kk) (Qk sl) n).text.size<=200:=by
 unfold resX
 cases h:ansOf (Qz Kk) (Qk sl) n with
 | none=> exact Nat.zero_le _
 | some x=> exact ansOf_size hg.env hn h
theorem ValidX.rootsIn {Kk:List Qj} {Q_:List ByteArray} {sl:List Qq} (hv:ValidX Kk Q_ sl): ∀n∈Q_,(∃r∈sl,r.name=n)∨Qz Kk n=none:=by
 obtain ⟨_,_,_,j,L,hgL,hl,_,rfl⟩:=hv
 have h:=hl.keeps (P:=fun σ=> ∀n∈Q_,(σ n).isSome=true∨Qz Kk n=none) (fun σ m h hm n hn=> by
  rcases h n hn with h1 | h1
  ·refine .inl ?_
   obtain ⟨r,hr,_⟩:=hm.1
   rw [doX_eq hr]
   by_cases e:n=m
   ·rw [if_pos e];rfl
   ·rw [if_neg e]
    cases hx:σ n with
    | none=> rw [hx] at h1;cases h1
    | some x=> rfl
  ·exact .inr h1) (fun n hn=> by
  rw [startL_env]
  cases hA:Qz Kk n with
  | none=> exact .inr rfl
  | some A=> rw [if_pos ⟨hasN_iff.2 hn,rfl⟩];exact .inl rfl)
 intro n hn
 rcases h n hn with h1 | h1
 ·obtain ⟨r,hr⟩:=Option.isSome_iff_exists.1 h1
  exact .inl ⟨r,(env_mem hr).1,(env_mem hr).2⟩
 ·exact .inr h1
def ringF (V:Nat->Nat) (f n i:Nat):Value:= .int .i64 ((if i < 60 then V i else if i=60 then f else n:Nat):Int)
structure RingM (w:World) (rb:Nat) (Q:List Nat):Prop where
 ex: ∃V f,f < 60∧Q.length<=60∧w.rowIs rb 294 62 (ringF V f Q.length)∧∀i,i < Q.length->V ((f+i) % 60)=Q.getD i 0
theorem RingM.block {w w':World} {rb:Nat} {Q:List Nat} (h:RingM w rb Q) (k:w'.heap[rb]? =w.heap[rb]?):RingM w' rb Q:=by
 obtain ⟨V,f,h1,h2,⟨c,h3,h4⟩,h5⟩:=h
 exact ⟨V,f,h1,h2,⟨c,k.trans h3,h4⟩,h5⟩
theorem row_put {w:World} {b n:Nat} {t:TypeId} {F G:Nat->Value} (h:w.rowIs b t n F) (i:Nat) (v:Value) (hG: ∀p,p < n->G p=if p=i then v else F p): (w.setCell ⟨b,i,none⟩ v).rowIs b t n G:=by
 obtain ⟨c,h1,h2,h3⟩:=World.rowIs.set h i v
 refine ⟨c,h1,h2,fun p hp=> ?_⟩
 rw [h3 p hp,hG p hp]
theorem row_kept {w w':World} {b n:Nat} {t:TypeId} {F:Nat->Value} (h:w.rowIs b t n F) (k:K_ w w'):w'.rowIs b t n F:=by
 obtain ⟨c,h1,h2⟩:=h
 exact ⟨c,(k.block b (heap_lt h1)).trans h1,h2⟩
theorem put_any (w:World) (rb:Nat) (Q:List Nat) (p:Nat) (hR:RingM w rb Q) (hl:Q.length < 60):
  Calls Tryz.prog 218 #[.pointer (some ⟨rb,0,none⟩),.int .i64 (p:Int)] w fun e w'=> e= .returned (.tuple #[])∧RingM w' rb (Q++ [p])∧But (fun b=> b=rb) w w':=by
 obtain ⟨V,f,hf,hn,hr,hV⟩:=hR.ex
 obtain ⟨n,hnn⟩: ∃n,n=Q.length:= ⟨_,rfl⟩
 rw [<-hnn] at hr hl
 obtain ⟨k,hk⟩: ∃k,k= (f+n) % 60:= ⟨_,rfl⟩
 have hk60:k < 60:=by omega
 have c1:w.cell? ⟨rb,60,none⟩=some (.int .i64 (f:Int)):=by rw [hr.cell (by omega)];rfl
 have c2:w.cell? ⟨rb,61,none⟩=some (.int .i64 (n:Int)):=by rw [hr.cell (by omega)];rfl
 have hdm: ((f:Int)+ (n:Int)).tmod 60= (k:Int):=by rw [Int.tmod_eq_emod_of_nonneg (by omega)];omega
 have hfr:=fun i=> hr.frozen i
 have f0:=hfr k
 have f1:=hfr 61
 have hki: (k:Int) < 60:=by omega
 have o0:=hr.cell (show k < 62 by omega)
 have hw1:=row_put hr k (.int .i64 (p:Int)) (G:=ringF (fun i=> if i=k then p else V i) f n) (fun i hi=> by
  unfold ringF
  by_cases e:i=k
  ·subst e;simp [hk60]
  ·simp [e])
 obtain ⟨w1,hw1e⟩: ∃w1,w1=w.setCell ⟨rb,k,none⟩ (.int .i64 (p:Int)):= ⟨_,rfl⟩
 rw [<-hw1e] at hw1
 have kb1:But (fun b=> b=rb) w w1:=by rw [hw1e];exact But.set (S:=fun b=> b=rb) (But.of_kept (K_.refl w)) (p:= ⟨rb,k,none⟩) rfl _
 have HW1:=Kj hw1
 have HKb:=Kj kb1
 have HV:Hid (∀i,i < Q.length->V ((f+i) % 60)=Q.getD i 0):=hV
 have HK:Hid (k= (f+n) % 60):=hk
 have HN:Hid (n=Q.length):=hnn
 clear hr hfr hw1 kb1 hV hk hnn hR
 go_enter Tryz.func218,Tryz.ntmps218
 go_wp2
 go_region
 rw [<-hw1e]
 have KD:K_ w1 w1.drew:= (K_.refl w1).drew
 generalize hwd:w1.drew=w2 at KD⊢
 clear hw1e hwd c1 c2 f0 f1 o0 hdm
 have hr2:=row_kept HW1.out KD
 have c2:w2.cell? ⟨rb,61,none⟩=some (.int .i64 (n:Int)):=by rw [hr2.cell (by omega)];rfl
 have f1:=hr2.frozen 61
 have HR2:=Kj hr2
 have HK2:=Kj (HKb.out.trans (But.of_kept KD))
 clear hr2 KD
 go_wp2_with fail
 go_end0
 refine ⟨rfl,⟨fun i=> if i=k then p else V i,f,hf,by rw [List.length_append];simp;have:=HN.out;omega, ?_,fun i hi=> ?_⟩,But.set (S:=fun b=> b=rb) HK2.out (p:= ⟨rb,61,none⟩) rfl _⟩
 ·rw [List.length_append]
  refine row_put HR2.out 61 _ (fun i hi=> ?_)
  unfold ringF
  have hn2:=HN.out
  by_cases e:i=61
  ·subst e;simp [hn2]
  ·have e2: ¬i < 60->i=60:=by omega
   by_cases e3:i < 60
   ·simp [e3,e]
   ·simp [e2 e3]
 ·rw [List.length_append] at hi
  have hn2:=HN.out
  have hk2:=HK.out
  by_cases e:i=Q.length
  ·subst e
   simp only [<-hn2,<-hk2,if_true,List.getD]
   rw [hn2]
   simp
  ·have hiq:i < Q.length:=by simp at hi;omega
   have hne: (f+i) % 60≠k:=by omega
   simp only [if_neg hne,HV.out i hiq,List.getD,List.getElem?_append_left hiq]
theorem take_any (w:World) (rb:Nat) (Q:List Nat) (p:Nat) (hR:RingM w rb (p :: Q)):
  Calls Tryz.prog 219 #[.pointer (some ⟨rb,0,none⟩)] w fun e w'=> e= .returned (.int .i64 (p:Int))∧RingM w' rb Q∧But (fun b=> b=rb) w w':=by
 obtain ⟨V,f,hf,hn,hr,hV⟩:=hR.ex
 obtain ⟨n,hnn⟩: ∃n,n=Q.length:= ⟨_,rfl⟩
 have hp:V f=p:=by have:=hV 0 (by simp);simpa [Nat.mod_eq_of_lt hf] using this
 rw [List.length_cons,<-hnn] at hr
 rw [List.length_cons,<-hnn] at hn
 have hfi: (f:Int) < 60:=by omega
 have HC0:Hid (∀u,w.rowIs rb 294 62 (ringF V f (n+1))->K_ w u->u.cell? ⟨rb,60,none⟩=some (.int .i64 (f:Int))∧u.cell? ⟨rb,f,none⟩=some (.int .i64 (p:Int))):=fun u hr k=> by
  have h2:=row_kept hr k
  refine ⟨by rw [h2.cell (by omega)];rfl, ?_⟩
  rw [h2.cell (by omega)]
  unfold ringF
  rw [if_pos hf,hp]
 obtain ⟨c1,c2⟩:=HC0.out w hr (K_.refl w)
 have HR:=Kj hr
 have HV:Hid (∀i,i < Q.length->V ((f+ (i+1)) % 60)=Q.getD i 0):=fun i hi=> by have:=hV (i+1) (by simp;omega);simpa using this
 have HN:Hid (n=Q.length):=hnn
 clear hr hV hnn hR hp HC0
 go_enter Tryz.func219,Tryz.ntmps219
 go_wp2
 go_region
 have KD:K_ w w.drew:= (K_.refl w).drew
 generalize hwd:w.drew=w1 at KD⊢
 clear hwd c1 c2
 have hr1:=row_kept HR.out KD
 have c1:w1.cell? ⟨rb,60,none⟩=some (.int .i64 (f:Int)):=by rw [hr1.cell (by omega)];rfl
 obtain ⟨k,hk⟩: ∃k,k= (f+1) % 60:= ⟨_,rfl⟩
 have hdm: ((f:Int)+1).tmod 60= (k:Int):=by rw [Int.tmod_eq_emod_of_nonneg (by omega)];omega
 have f1:=hr1.frozen 60
 have HR1:=Kj hr1
 have HK:=Kj hk
 clear hr1 HR hk
 go_upto_region 3 with fail
 have hr2:=row_put HR1.out 60 (.int .i64 (k:Int)) (G:=ringF V k (n+1)) (fun i hi=> by
  unfold ringF
  by_cases e:i=60
  ·subst e;simp
  ·by_cases e3:i < 60
   ·simp [e3,e]
   ·simp [e3,e])
 have kb:But (fun b=> b=rb) w (w1.setCell ⟨rb,60,none⟩ (.int .i64 (k:Int))):=But.set (S:=fun b=> b=rb) (But.of_kept KD) (p:= ⟨rb,60,none⟩) rfl _
 generalize hw2:w1.setCell ⟨rb,60,none⟩ (.int .i64 (k:Int))=w2 at hr2 kb⊢
 clear hw2 c1 f1 hdm
 have c2:w2.cell? ⟨rb,61,none⟩=some (.int .i64 ((n+1:Nat):Int)):=by rw [hr2.cell (by omega)];rfl
 have f2:=hr2.frozen 61
 have hsub: ((n+1:Nat):Int) - 1= (n:Int):=by omega
 have hr3:=row_put hr2 61 (.int .i64 (n:Int)) (G:=ringF V k n) (fun i hi=> by
  unfold ringF
  by_cases e:i=61
  ·subst e;simp
  ·have e2: ¬i < 60->i=60:=by omega
   by_cases e3:i < 60
   ·simp [e3,e]
   ·simp [e2 e3])
 have HR3:=Kj hr3
 have HB:=Kj (But.set (S:=fun b=> b=rb) kb (p:= ⟨rb,61,none⟩) rfl (.int .i64 (n:Int)))
 clear hr2 hr3 kb
 go_wp2_with fail
 go_ret
 refine ⟨rfl,⟨V,k, ?_, ?_, ?_,fun i hi=> ?_⟩,HB.out⟩
 ·rw [HK.out];omega
 ·have:=HN.out;omega
 ·rw [<-HN.out];exact HR3.out
 ·rw [<-HV.out i hi]
  have:=HK.out
  congr 1
  omega
theorem cmpLess_any (w:World) (x y:ByteArray):Calls Tryz.prog 191 #[.string x,.string y] w fun e w'=> e= .returned (.bool (Op.bytesLess x.toList y.toList))∧w'=w:=by
 cases h1:Op.bytesLess x.toList y.toList
 all_goals
  go_enter Tryz.func191,Tryz.ntmps191
  go_wp2
  go_ret
  exact ⟨rfl,rfl⟩
theorem slicesNaN_any (w:World) (x:ByteArray):Calls Tryz.prog 192 #[.string x] w fun e w'=> e= .returned (.bool false)∧w'=w:=by
 go_enter Tryz.func192,Tryz.ntmps192
 go_wp2
 go_ret
 exact ⟨rfl,rfl⟩
def FoundS (l:List ByteArray) (s:ByteArray) (e:Ending):Prop:= ∃(k:Nat) (b:Bool),e= .returned (.tuple #[.int .i64 (k:Int),.bool b])∧(b=true->k < l.length∧l.getD k ByteArray.empty=s)∧(b=false->s∉l)
theorem FoundS.mk {l:List ByteArray} {s:ByteArray} {e:Ending} (k:Nat) (b:Bool) (h:e= .returned (.tuple #[.int .i64 (k:Int),.bool b])) (h1:b=true->k < l.length∧l.getD k ByteArray.empty=s) (h2:b=false->s∉l):FoundS l s e:= ⟨k,b,h,h1,h2⟩
theorem bsearch_any (w:World) (a:Option Addr) (cap:Nat) (l:List ByteArray) (s:ByteArray) (hl:l.length<=1048576) (ha:AscB l) (hS:Strs w a l):
  Calls Tryz.prog 167 #[.slice a l.length cap,.string s] w fun e w'=> FoundS l s e∧w'=w:=by
 have HA:Hid (∀p q,p < q->q < l.length->lessX (l.getD p ByteArray.empty) (l.getD q ByteArray.empty)):=fun p q h1 h2=> by
  have:=List.pairwise_iff_getElem.1 ha p q (by omega) h2 h1
  simpa [List.getD,h2,show p < l.length by omega] using this
 clear ha
 go_enter Tryz.func167,Tryz.ntmps167
 go_wp2
 go_loopw [7,8] (fun x y wr=> ∃i j:Nat,x= .int .i64 i∧y= .int .i64 j∧i<=j∧j<=l.length∧Hid (∀t,t < i->lessX (l.getD t ByteArray.empty) s)∧Hid (∀t,j<=t->t < l.length->¬lessX (l.getD t ByteArray.empty) s)∧wr=w) (fun x y _=> (intOf y).toNat - (intOf x).toNat)
 case atStart=> exact ⟨0,l.length,rfl,rfl,Nat.zero_le _,Nat.le_refl _,Kj (fun t ht=> absurd ht (Nat.not_lt_zero _)),Kj (fun t h1 h2=> by omega),rfl⟩
 case round=>
  obtain ⟨i,j,rfl,rfl,hij,hjn,HB,HN,rfl⟩:=hrel
  by_cases hlt: (i:Int) < j
  ·obtain ⟨h,hh⟩: ∃h:Nat,h= (i+j) / 2:= ⟨_,rfl⟩
   have hhlt:h < l.length:=by omega
   have hhi:i<=h:=by omega
   have hhj:h < j:=by omega
   obtain ⟨b,o,rfl,hb,hcs⟩:=hS h hhlt
   obtain ⟨d,hd⟩: ∃d,d=l.getD h ByteArray.empty:= ⟨_,rfl⟩
   rw [<-hd] at hcs
   have HD:=Kj hd
   clear hd
   have hmid: ((i:Int)+ (j:Int)) / 2= (h:Int):=by omega
   have HH:=Kj hh
   clear hh
   go_wp2_with fail
   refine (cmpLess_any _ d s).mono ?_
   rintro e w1 ⟨rfl,rfl⟩
   clear hcs
   cases hls:Op.bytesLess d.toList s.toList
   ·go_wp2_with fail
    go_roundw
    case rel=>
     refine ⟨i,h,rfl,by go_num,hhi,by omega,HB,Kj (fun t h1 h2 hlt2=> ?_),trivial⟩
     have hno: ¬lessX (l.getD h ByteArray.empty) s:=fun g=> by rw [<-HD.out] at g;unfold lessX at g;rw [hls] at g;cases g
     rcases Nat.lt_or_ge h t with e | e
     ·exact hno (lessX_trans (HA.out h t e h2) hlt2)
     ·have:t=h:=by omega
      subst this
      exact hno hlt2
    case measure=> simp [intOf];omega
   ·go_wp2_with fail
    go_roundw
    case rel=>
     refine ⟨h+1,j,by go_num,rfl,by omega,hjn,Kj (fun t ht=> ?_),HN,trivial⟩
     have hyes:lessX (l.getD h ByteArray.empty) s:=by rw [<-HD.out];exact hls
     rcases Nat.lt_or_ge t h with e | e
     ·exact lessX_trans (HA.out t h e hhlt) hyes
     ·have:t=h:=by omega
      subst this
      exact hyes
    case measure=> simp [intOf];omega
  ·have hij':i=j:=by omega
   subst hij'
   have HMem:Hid (s∈l->i < l.length∧l.getD i ByteArray.empty=s):=fun hm=> by
    obtain ⟨q,hq,e⟩:=List.getElem_of_mem hm
    have e2:l.getD q ByteArray.empty=s:=by simpa [List.getD,hq] using e
    have h1: ¬q < i:=fun g=> by have:=HB.out q g;rw [e2] at this;exact lessX_irrefl _ this
    have h2:q=i:=by
     rcases Nat.lt_or_ge i q with g | g
     ·have h3:=HA.out i q g hq
      rw [e2] at h3
      exact absurd h3 (HN.out i (Nat.le_refl _) (by omega))
     ·omega
    subst h2
    exact ⟨hq,e2⟩
   by_cases hin:i < l.length
   ·obtain ⟨b,o,rfl,hb,hcs⟩:=hS i hin
    obtain ⟨d,hd⟩: ∃d,d=l.getD i ByteArray.empty:= ⟨_,rfl⟩
    rw [<-hd] at hcs
    have HD:=Kj hd
    clear hd
    have hii: (i:Int) < (l.length:Int):=by omega
    cases heq: (d.toList == s.toList)
    ·go_wp2_with (first | (go_at_call 192;refine (slicesNaN_any _ _).mono ?_;rintro e w1 ⟨rfl,rfl⟩))
     go_ret2
     exact ⟨FoundS.mk i false rfl (fun h=> by cases h) (fun _ hm=> by
      have h2:= (HMem.out hm).2
      rw [<-HD.out] at h2
      rw [h2] at heq
      simp at heq),rfl⟩
    ·go_wp2_with fail
     go_ret2
     exact ⟨FoundS.mk i true rfl (fun _=> ⟨hin,by rw [<-HD.out];exact beq_yes heq⟩) (fun h=> by cases h),rfl⟩
   ·go_wp2_with fail
    go_ret2
    exact ⟨FoundS.mk i false rfl (fun h=> by cases h) (fun _ hm=> hin (HMem.out hm).1),rfl⟩
structure NeedP (E:ByteArray->ByteArray->Prop) (nm:List ByteArray) (k:Nat) (S:List ByteArray) (j M:Nat) (need back:Nat->List Nat):Prop where
 fwd: ∀p q,q∈need p↔(p < k∧EdgeP E nm p q)∨(p=k∧∃hq:q < nm.length,nm[q]∈S.take j)
 bwd: ∀p q,p∈back q↔(p < k∧EdgeP E nm p q)∨(p=k∧∃hq:q < nm.length,nm[q]∈S.take j)
 asc: ∀p,(need p).Pairwise (· <= ·)
 len: ∀p,(need p).length<=M∧(back p).length<=M
structure NeedR (E:ByteArray->ByteArray->Prop) (nm:List ByteArray) (M:Nat) (need back:Nat->List Nat):Prop where
 fwd: ∀p q,q∈need p↔EdgeP E nm p q
 bwd: ∀p q,p∈back q↔EdgeP E nm p q
 asc: ∀p,(need p).Pairwise (· <= ·)
 len: ∀p,(need p).length<=M∧(back p).length<=M
section
variable {E : ByteArray -> ByteArray -> Prop} {nm S : List ByteArray} {k j M : Nat} {need back : Nat -> List Nat}
theorem NeedP.start (E:ByteArray->ByteArray->Prop) (nm S:List ByteArray):NeedP E nm 0 S 0 0 (fun _=> []) (fun _=> []):=
 ⟨fun p q=> by simp,fun p q=> by simp,fun p=> List.Pairwise.nil,fun p=> ⟨Nat.le_refl _,Nat.le_refl _⟩⟩
theorem NeedP.enter (h:NeedP E nm k S 0 M need back) (S':List ByteArray):NeedP E nm k S' 0 M need back:=
 ⟨fun p q=> by rw [h.fwd];simp,fun p q=> by rw [h.bwd];simp,h.asc,h.len⟩
theorem NeedP.leave (h:NeedP E nm k S j M need back) (hk:k < nm.length) (hj:S.length<=j) (hS: ∀y,y∈S↔E nm[k] y):NeedP E nm (k+1) [] 0 M need back:=by
 have key: ∀p q,(p < k∧EdgeP E nm p q)∨(p=k∧∃hq:q < nm.length,nm[q]∈S.take j)↔(p < k+1∧EdgeP E nm p q)∨(p=k+1∧∃hq:q < nm.length,nm[q]∈([]:List ByteArray).take 0):=fun p q=> by
  rw [List.take_of_length_le hj]
  constructor
  ·rintro (⟨h1,h2⟩ | ⟨rfl,hq,h2⟩)
   ·exact .inl ⟨by omega,h2⟩
   ·exact .inl ⟨by omega,hk,hq,(hS _).1 h2⟩
  ·rintro (⟨h1,hp,hq,h2⟩ | ⟨_,_,h2⟩)
   ·by_cases e:p=k
    ·subst e;exact .inr ⟨rfl,hq,(hS _).2 h2⟩
    ·exact .inl ⟨by omega,hp,hq,h2⟩
   ·simp at h2
 exact ⟨fun p q=> (h.fwd p q).trans (key p q),fun p q=> (h.bwd p q).trans (key p q),h.asc,h.len⟩
theorem NeedP.skip (h:NeedP E nm k S j M need back) (hj:j < S.length) (hno:S[j]∉nm):NeedP E nm k S (j+1) M need back:=by
 have key: ∀q:Nat,(∃hq:q < nm.length,nm[q]∈S.take j)↔∃hq:q < nm.length,nm[q]∈S.take (j+1):=fun q=> by
  rw [List.take_succ_eq_append_getElem hj]
  constructor
  ·rintro ⟨hq,h1⟩;exact ⟨hq,List.mem_append.2 (.inl h1)⟩
  ·rintro ⟨hq,h1⟩
   rcases List.mem_append.1 h1 with h2 | h2
   ·exact ⟨hq,h2⟩
   ·rw [List.mem_singleton] at h2
    exact absurd (by rw [<-h2];exact List.getElem_mem hq) hno
 exact ⟨fun p q=> by rw [h.fwd,key],fun p q=> by rw [h.bwd,key],h.asc,h.len⟩
theorem NeedP.put (hP:Places E nm) (h:NeedP E nm k S j M need back) (hj:j < S.length) (hS:S.Pairwise fun a b=> ¬lessX b a) {q:Nat} (hq:q < nm.length) (he:nm[q]=S[j]) (hk:k < nm.length) (hsub: ∀y∈S,E nm[k] y):
  NeedP E nm k S (j+1) (M+1) (fun p=> if p=k then need k++ [q] else need p) (fun p=> if p=q then back q++ [k] else back p):=by
 have key: ∀r:Nat,(∃hr:r < nm.length,nm[r]∈S.take (j+1))↔(∃hr:r < nm.length,nm[r]∈S.take j)∨r=q:=fun r=> by
  rw [List.take_succ_eq_append_getElem hj]
  constructor
  ·rintro ⟨hr,h1⟩
   rcases List.mem_append.1 h1 with h2 | h2
   ·exact .inl ⟨hr,h2⟩
   ·rw [List.mem_singleton,<-he] at h2
    exact .inr (hP.inj hr hq h2)
  ·rintro (⟨hr,h1⟩ | rfl)
   ·exact ⟨hr,List.mem_append.2 (.inl h1)⟩
   ·exact ⟨hq,List.mem_append.2 (.inr (by rw [he];simp))⟩
 refine ⟨fun p r=> ?_,fun p r=> ?_,fun p=> ?_,fun p=> ⟨?_, ?_⟩⟩
 ·rw [key]
  by_cases e:p=k
  ·subst e
   simp only [if_true,List.mem_append,List.mem_singleton,h.fwd]
   constructor
   ·rintro ((⟨h1,h2⟩ | ⟨_,h2⟩) | h2)
    ·exact .inl ⟨h1,h2⟩
    ·exact .inr ⟨trivial,.inl h2⟩
    ·exact .inr ⟨trivial,.inr h2⟩
   ·rintro (⟨h1,h2⟩ | ⟨_,h2 | h2⟩)
    ·exact .inl (.inl ⟨h1,h2⟩)
    ·exact .inl (.inr ⟨trivial,h2⟩)
    ·exact .inr h2
  ·show (r∈if p=k then need k++ [q] else need p)↔_
   rw [if_neg e,h.fwd]
   simp only [e,false_and,or_false]
 ·rw [key]
  by_cases e:r=q
  ·subst e
   simp only [if_true,List.mem_append,List.mem_singleton,h.bwd]
   constructor
   ·rintro ((h1 | ⟨h1,h2⟩) | h1)
    ·exact .inl h1
    ·exact .inr ⟨h1,.inl h2⟩
    ·exact .inr ⟨h1,.inr trivial⟩
   ·rintro (h1 | ⟨h1,h2 | _⟩)
    ·exact .inl (.inl h1)
    ·exact .inl (.inr ⟨h1,h2⟩)
    ·exact .inr h1
  ·show (p∈if r=q then back q++ [k] else back r)↔_
   rw [if_neg e,h.bwd]
   simp only [e,or_false]
 ·by_cases e:p=k
  ·subst e
   simp only [if_true]
   rw [List.pairwise_append]
   refine ⟨h.asc p,by simp,fun a ha b hb=> ?_⟩
   rw [List.mem_singleton] at hb
   subst hb
   rcases (h.fwd p a).1 ha with ⟨h1,_⟩ | ⟨_,har,h2⟩
   ·omega
   ·obtain ⟨i,hi,h3⟩:=List.mem_take_iff_getElem.1 h2
    have h4:=List.pairwise_iff_getElem.1 hS i j (by omega) hj (by omega)
    rw [h3,<-he,hP.less hq har] at h4
    omega
  ·simp only [if_neg e];exact h.asc p
 ·by_cases e:p=k
  ·simp only [e,if_true,List.length_append,List.length_singleton];have:= (h.len k).1;omega
  ·simp only [if_neg e];have:= (h.len p).1;omega
 ·by_cases e:p=q
  ·simp only [e,if_true,List.length_append,List.length_singleton];have:= (h.len q).2;omega
  ·simp only [if_neg e];have:= (h.len p).2;omega
theorem NeedP.whole (h:NeedP E nm nm.length [] 0 M need back):NeedR E nm M need back:=by
 have key: ∀p q,(p < nm.length∧EdgeP E nm p q)∨(p=nm.length∧∃hq:q < nm.length,nm[q]∈([]:List ByteArray).take 0)↔EdgeP E nm p q:=fun p q=> by
  constructor
  ·rintro (⟨_,h1⟩ | ⟨_,_,h1⟩)
   ·exact h1
   ·simp at h1
  ·intro h1
   exact .inl ⟨h1.1,h1⟩
 exact ⟨fun p q=> (h.fwd p q).trans (key p q),fun p q=> (h.bwd p q).trans (key p q),h.asc,h.len⟩
end
section
variable {R : Nat -> Nat -> Prop} {t : Nat}
structure PartP (R:Nat->Nat->Prop) (t n:Nat) (l:List Nat) (a q:Nat):Prop where
 len:l.length+q=n+1
 pos:1<=q
 more:2<=q->∃y,R a y∧Far R t (q - 1) y
 last: ∃l0,l=l0++ [a]
 rest: ∀r,CircP R t q a r->CircP R t n t (l.dropLast++r)
theorem PartP.start {n:Nat} (h:SizeP R t n):PartP R t n [t] t n:=by
 refine ⟨by simp;omega,h.1,fun h2=> ?_,⟨[],rfl⟩,fun r hr=> hr⟩
 obtain ⟨m,rfl⟩: ∃m,n=m+1:= ⟨n - 1,by omega⟩
 obtain ⟨y,h3,h4⟩:=h.2.1.first
 refine ⟨y,h3,h4,fun i hi hw=> h.2.2 (i+1) (by omega) (by omega) (.step h3 hw)⟩
theorem PartP.next {n q a x:Nat} {l:List Nat} (h:PartP R t n l a (q+1)) (hq:1<=q) (hx:LeastP (fun y=> R a y∧Far R t q y) x):PartP R t n (l++ [x]) x q:=by
 obtain ⟨l0,hl0⟩:=h.last
 refine ⟨by have:=h.len;rw [List.length_append];simp;omega,hq,fun h2=> ?_,⟨l,rfl⟩,fun r hr=> ?_⟩
 ·obtain ⟨m,rfl⟩: ∃m,q=m+1:= ⟨q - 1,by omega⟩
  exact hx.1.2.next
 ·have h1:=h.rest (a :: r) (CircP.step hx hr)
  rw [List.dropLast_concat]
  rw [hl0,List.dropLast_concat] at h1
  rw [hl0,List.append_assoc]
  exact h1
theorem PartP.done {n a:Nat} {l:List Nat} (h:PartP R t n l a 1):CircP R t n t l:=by
 obtain ⟨l0,hl0⟩:=h.last
 have h1:=h.rest [a] (CircP.stop a)
 rw [hl0,List.dropLast_concat] at h1
 rw [hl0]
 exact h1
theorem first_leastP {p:Nat->Prop} {l:List Nat} (ha:l.Pairwise (· <= ·)) (hp: ∀y,p y->y∈l) {k:Nat} (hk:k < l.length) (h:p l[k]) (hno: ∀j (hj:j < l.length),j < k->¬p l[j]):LeastP p l[k]:=by
 refine ⟨h,fun y hy=> ?_⟩
 obtain ⟨j,hj,rfl⟩:=List.getElem_of_mem (hp y hy)
 rcases Nat.lt_trichotomy j k with h1 | rfl | h1
 ·exact absurd hy (hno j hj h1)
 ·exact Nat.le_refl _
 ·exact List.pairwise_iff_getElem.1 ha k j hk hj h1
end
