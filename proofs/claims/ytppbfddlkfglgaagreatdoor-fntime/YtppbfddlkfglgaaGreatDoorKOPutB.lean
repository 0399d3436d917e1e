import Derived.Test.YtppbfddlkfglgaaGreatDoorKVBfs
import Derived.Deep.RegionWith
import Derived.Lib.AppendZeros
namespace Go.Proofs.YtppbfddlkfglgaaGreatDoor
open Go.RowKit Go.Proofs.Tryz
structure Qz where
 name:QV
 cost:Int
 steps:List Xq
def Qz.zero :Qz:=⟨ByteArray.empty,0,[]⟩
def Qz.cells(d:Qz)(a:QW)(cap:Nat):List QY:=[.string d.name,.b d.cost,.slice a d.steps.length cap]
def Cg(w:QX)(cs:List QY)(d:Qz):Prop:=∃a cap,cs=d.cells a cap/\Steps w a d.steps
variable {w':QX}
theorem Cg.kept{w:QX}{cs:List QY}{d:Qz}(h:Cg w cs d)(k:K_ w w'):Cg w' cs d:=by
 obtain⟨a,c,e,f⟩:=h;exact⟨a,c,e,f.kept k⟩
def dS(w:QX)(a:QW)(l:List Qz):Prop:=
 ∀i,i<l.length->∃b o cs,a=some ⟨b,o,none⟩/\b<w.heap.size/\w.rangeAt b (o+i*3) cs/\Cg w cs (l.getD i Qz.zero)
theorem dS.kept{w:QX}{a:QW}{l:List Qz}(h:dS w a l)(k:K_ w w'):dS w' a l:=by
 intro i c;obtain⟨d,o,e,f,b,j,m⟩:=h i c;exact⟨d,o,e,f,Px b k.size,k.range b j,m.kept k⟩
structure Qz.Fits (d:Qz):Prop where
 name:d.name.size<=maxLen
 cost:In64 d.cost
 steps:d.steps.length<=maxLen
 each:∀s∈d.steps,s.Fits
theorem size_setCells(g:Nat):∀(vs:List QY)(o:Nat)(w:QX),(w.setCells g o vs).heap.size=w.heap.size
 |[],_,_=>rfl
 |v :: r,o,w=>by rw[World.setCells,size_setCells g r (o+1),size_setCell]
theorem Same.setCells{a b g:Nat}(c:g<a\/b<=g):∀(vs:List QY)(o:Nat)(w:QX),Same a b w (w.setCells g o vs)
 |[],_,_=>λ_ _ _ _=>rfl
 |v :: r,o,w=>by
  rw[World.setCells];intro d e f h;have i:=Same.setCells c r (o+1) (w.setCell ⟨g,o,none⟩ v) d e f (by rw[size_setCell];exact h);exact i.trans (Same.setCell w (p:=⟨g,o,none⟩) c v d e f h)
theorem Tryz.nW :(prog.info? 64).map (λi=>(i.zero,i.size,i.bytes))=some (some (.agg #[.string ⟨#[]⟩,.b 0,J6]),3,48):=C9
theorem Tryz.mW :(prog.info? 25).map (·.size)=some 1:=C9
theorem Tryz.OM :prog.underlying 3=some (.int .i64):=C9
theorem dX :∀(x y z:List UInt8),Op.bytesLess x y=true->Op.bytesLess y z=true->Op.bytesLess x z=true
 |[],[],_,h,_=>by simp[Op.bytesLess] at h
 |[],_ :: _,[],_,h=>by simp[Op.bytesLess] at h
 |[],_ :: _,_ :: _,_,_=>by simp[Op.bytesLess]
 |_ :: _,[],_,h,_=>by simp[Op.bytesLess] at h
 |_ :: _,_ :: _,[],_,h=>by simp[Op.bytesLess] at h
 |a :: x,b :: y,c :: z,e,d=>by
  have f:=dX x y z;simp only[Op.bytesLess,Bool.or_eq_true,Bool.and_eq_true,QP,beq_iff_eq] at e d⊢;rcases e with e|⟨rfl,e⟩
  .rcases d with d|⟨rfl,d⟩
   .exact .inl (UInt8.lt_trans e d)
   .exact .inl e
  .rcases d with d|⟨rfl,d⟩
   .exact .inl d
   .exact .inr ⟨rfl,f e d⟩
theorem dB :∀x:List UInt8,Op.bytesLess x x=false
 |[]=>rfl
 |a :: x=>by
  have b:=dB x;simp[Op.bytesLess,b]
theorem oI :∀x y:List UInt8,Op.bytesLess x y=false->x≠y->Op.bytesLess y x=true
 |[],[],_,h=>QK rfl h
 |[],_ :: _,h,_=>by simp[Op.bytesLess] at h
 |_ :: _,[],_,_=>rfl
 |a :: x,b :: y,h,hne=>by
  have f:=oI x y;simp only[Op.bytesLess,Bool.or_eq_false_iff,QN,Bool.and_eq_false_iff,beq_eq_false_iff_ne] at h;simp only[Op.bytesLess,Bool.or_eq_true,Bool.and_eq_true,QP,beq_iff_eq];by_cases e:a=b
  .subst e
   right
   refine⟨rfl,f ?_ λe=>hne (by rw[e])⟩;rcases h.2 with c|c
   .exact QK rfl c
   .exact c
  .left
   have d:=h.1;rw[UInt8.not_lt] at d;exact UInt8.lt_of_le_of_ne d λi=>e i.symm
def nameAt(l:List Qz)(i:Nat):List UInt8:=(l.getD i Qz.zero).name.toList
def il(l:List Qz):Prop:=∀i j,i<j->j<l.length->Op.bytesLess (nameAt l i) (nameAt l j)=true
theorem Dv{l:List Qz}(h:∀i,i+1<l.length->Op.bytesLess (nameAt l i) (nameAt l (i+1))=true):il l:=by
 intro i j b a
 induction j with
 |zero=>omega
 |succ j ih=>
  by_cases e:i=j
  .subst e;exact h i a
  .exact dX _ _ _ (ih A7 A7) (h j a)
structure Place (l:List Qz)(key:List UInt8)(p:Nat):Prop where
 le:p<=l.length
 before:∀j,j<p->Op.bytesLess (nameAt l j) key=true
 behind:∀j,p<=j->j<l.length->Op.bytesLess (nameAt l j) key=false
theorem Place.only{l:List Qz}{a:List UInt8}{p j:Nat}(c:il l)(h:Place l a p)(d:j<l.length)(e:nameAt l j=a):j=p:=by
 by_cases f:j<p
 .have:=h.before j f;rw[e,dB] at this;cases this
 .by_cases i:p<j
  .have b:=c p j i d;rw[e] at b;have:=h.behind p (Pw _) A7;rw[b] at this;cases this
  .omega
theorem JK{w a:QX}{x y z:QY}{t:TypeId}(K:K_ (w.alloc (.cells #[x,y,z] t)) a):a.cell? ⟨w.heap.size,0,none⟩=some x/\a.cell? ⟨w.heap.size,1,none⟩=some y/\a.cell? ⟨w.heap.size,2,none⟩=some z:=by
 refine⟨?_,?_,?_⟩
 .rw[K.cell A9];simp
 .rw[K.cell A9];simp
 .rw[K.cell A9];simp
theorem K_.un{X:QX}(k:K_ X.drew w'):K_ X w':=K_.trans (a_ _) k
theorem Dz{X:QX}{c:Array QY}{t:TypeId}(k:K_ (X.alloc (.cells c t)) w'):aH w' X.heap.size t c.size:=(aH.made X c t).kept k
theorem Db{X:QX}{c:Array QY}{t:TypeId}(k:K_ (X.alloc (.cells c t)).drew w'):aH w' X.heap.size t c.size:=Dz k.un
