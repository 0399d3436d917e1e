import Derived.Deep.RegionWith
import Derived.Test.YtjbipapbckajnaaGreatDoorKWGo4
import Derived.Lib.AppendZeros
namespace Go.Proofs.YtjbipapbckajnaaGreatDoor
open Go.RowKit Go.Proofs.Tryz
structure Qq where
 name:Ps
 cost:Int
 steps:List Xj
def Qq.zero :Qq:=⟨ByteArray.empty,0,[]⟩
def Qq.cells(d:Qq)(a:Pt)(cap:Nat):List Pw:=[.string d.name,.a d.cost,.slice a d.steps.length cap]
def BU(w:Pv)(cs:List Pw)(d:Qq):Prop:=∃a cap,cs=d.cells a cap/\Steps w a d.steps
variable {w' : Pv}
theorem BU.kept{w:Pv}{cs:List Pw}{d:Qq}(h:BU w cs d)(k:K_ w w'):BU w' cs d:=by
 obtain⟨a,c,e,f⟩:=h;exact⟨a,c,e,f.kept k⟩
def bN(w:Pv)(a:Pt)(l:List Qq):Prop:=
 ∀i,i<l.length->∃b o cs,a=some ⟨b,o,none⟩/\b<w.heap.size/\w.rangeAt b (o+i*3) cs/\BU w cs (l.getD i Qq.zero)
theorem bN.kept{w:Pv}{a:Pt}{l:List Qq}(h:bN w a l)(k:K_ w w'):bN w' a l:=by
 intro i c;obtain⟨d,o,e,f,b,j,m⟩:=h i c;exact⟨d,o,e,f,NR b k.size,k.range b j,m.kept k⟩
structure Qq.Fits (d:Qq):Prop where
 name:d.name.size<=maxLen
 cost:In64 d.cost
 steps:d.steps.length<=maxLen
 each:∀s∈d.steps,s.Fits
theorem size_setCells(g:Nat):∀(vs:List Pw) (o:Nat) (w:Pv),(w.setCells g o vs).heap.size=w.heap.size
 | [],_,_=>rfl
 | v :: r,o,w=>by rw[World.setCells,size_setCells g r (o+1),size_setCell]
theorem bW.setCell{w:Pv}{lo hi:Nat}{a:Pt}{l:List Ps}(h:bW w lo hi a l){p:Addr}(c:p.block<lo)(v:Pw):bW (w.setCell p v) lo hi a l:=h.same (Same.setCell _ (.inl c) _)
theorem Same.setCells{lo hi g:Nat}(a:g<lo\/hi<=g):∀(vs:List Pw) (o:Nat) (w:Pv),Same lo hi w (w.setCells g o vs)
 | [],_,_=>λ_ _ _ _=>rfl
 | v :: r,o,w=>by
  rw[World.setCells];intro b c d e;have f:=Same.setCells a r (o+1) (w.setCell ⟨g,o,none⟩ v) b c d (by rw[size_setCell];exact e);exact f.trans (Same.setCell w (p:=⟨g,o,none⟩) a v b c d e)
theorem Tryz.nL :(prog.info? 88).map (λi=>(i.zero,i.size,i.bytes))=some (some (.agg #[.string ⟨#[]⟩,.a 0,J3]),3,48):=C9
theorem Tryz.mF :(prog.info? 25).map (·.size)=some 1:=C9
def cutAt(c:Nat->Nat)(k z t:Nat):Nat:=if t<=k then c t else z
theorem ll{c:Nat->Nat}{k z t:Nat}(h:t<=k):cutAt c k z t=c t:=by simp[cutAt,h]
theorem qj{c:Nat->Nat}{k z t:Nat}(h:k<t):cutAt c k z t=z:=by simp[cutAt];omega
theorem Es{c:Nat->Nat}{k z:Nat}(h:∀i j,i<=j->c i<=c j)(b:c k<=z):∀i j,i<=j->cutAt c k z i<=cutAt c k z j:=by
 intro i j d;by_cases a:i<=k
 .by_cases e:j<=k
  .rw[ll a,ll e];exact h i j d
  .rw[ll a,qj A7];exact NT (h i k a) b
 .rw[qj A7,qj A7];exact NQ _
theorem Tryz.Nq :prog.underlying 3=some (.int .i64):=C9
theorem fC :∀(x y z:List UInt8),Op.bytesLess x y=true->Op.bytesLess y z=true->Op.bytesLess x z=true
 | [],[],_,h,_=>by simp[Op.bytesLess] at h
 | [],_ :: _,[],_,h=>by simp[Op.bytesLess] at h
 | [],_ :: _,_ :: _,_,_=>by simp[Op.bytesLess]
 | _ :: _,[],_,h,_=>by simp[Op.bytesLess] at h
 | _ :: _,_ :: _,[],_,h=>by simp[Op.bytesLess] at h
 | a :: x,b :: y,c :: z,e,d=>by
  have f:=fC x y z;simp only[Op.bytesLess,Bool.or_eq_true,Bool.and_eq_true,Pk,beq_iff_eq] at e d⊢;rcases e with e|⟨rfl,e⟩
  .rcases d with d|⟨rfl,d⟩
   .exact .inl (UInt8.lt_trans e d)
   .exact .inl e
  .rcases d with d|⟨rfl,d⟩
   .exact .inl d
   .exact .inr ⟨rfl,f e d⟩
theorem dV :∀x:List UInt8,Op.bytesLess x x=false
 | []=>rfl
 | a :: x=>by
  have b:=dV x;simp[Op.bytesLess,b]
theorem rV :∀x y:List UInt8,Op.bytesLess x y=false->x≠y->Op.bytesLess y x=true
 | [],[],_,h=>Pg rfl h
 | [],_ :: _,h,_=>by simp[Op.bytesLess] at h
 | _ :: _,[],_,_=>rfl
 | a :: x,b :: y,h,hne=>by
  have f:=rV x y;simp only[Op.bytesLess,Bool.or_eq_false_iff,decide_eq_false_iff_not,Bool.and_eq_false_iff,beq_eq_false_iff_ne] at h;simp only[Op.bytesLess,Bool.or_eq_true,Bool.and_eq_true,Pk,beq_iff_eq];by_cases e:a=b
  .subst e
   right
   refine⟨rfl,f ?_ (λe=>hne (by rw[e]))⟩;rcases h.2 with c | c
   .exact Pg rfl c
   .exact c
  .left
   have d:=h.1;rw[UInt8.not_lt] at d;exact UInt8.lt_of_le_of_ne d (λi=>e i.symm)
def nameAt(l:List Qq)(i:Nat):List UInt8:=(l.getD i Qq.zero).name.toList
def dI(l:List Qq):Prop:=∀i j,i<j->j<l.length->Op.bytesLess (nameAt l i) (nameAt l j)=true
theorem DY{l:List Qq}(h:∀i,i+1<l.length->Op.bytesLess (nameAt l i) (nameAt l (i+1))=true):dI l:=by
 intro i j b a
 induction j with
 | zero=>omega
 | succ j ih=>
  by_cases e:i=j
  .subst e;exact h i a
  .exact fC _ _ _ (ih A7 A7) (h j a)
structure Place (l:List Qq) (key:List UInt8) (p:Nat):Prop where
 le:p<=l.length
 before:∀j,j<p->Op.bytesLess (nameAt l j) key=true
 behind:∀j,p<=j->j<l.length->Op.bytesLess (nameAt l j) key=false
theorem Place.only{l:List Qq}{a:List UInt8}{p j:Nat}(c:dI l)(h:Place l a p)(d:j<l.length)(e:nameAt l j=a):j=p:=by
 by_cases f:j<p
 .have:=h.before j f;rw[e,dV] at this;cases this
 .by_cases i:p<j
  .have b:=c p j i d;rw[e] at b;have:=h.behind p (NQ _) A7;rw[b] at this;cases this
  .omega
theorem Hd{w a:Pv}{x y z:Pw}{t:TypeId}(K:K_ (w.alloc (.cells #[x,y,z] t)) a):a.cell? ⟨w.heap.size,0,none⟩=some x/\a.cell? ⟨w.heap.size,1,none⟩=some y/\a.cell? ⟨w.heap.size,2,none⟩=some z:=by
 refine⟨?_, ?_, ?_⟩
 .rw[K.cell A9];simp
 .rw[K.cell A9];simp
 .rw[K.cell A9];simp
theorem K_.un{X:Pv}(k:K_ X.drew w'):K_ X w':=K_.trans (bD _) k
theorem Cm{X:Pv}{c:Array Pw}{t:TypeId}(k:K_ (X.alloc (.cells c t)) w'):aB w' X.heap.size t c.size:=(aB.made X c t).kept k
theorem Cw{X:Pv}{c:Array Pw}{t:TypeId}(k:K_ (X.alloc (.cells c t)).drew w'):aB w' X.heap.size t c.size:=Cm k.un
