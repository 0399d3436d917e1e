import Derived.WalkKit
import Derived.Deep.Draws
import Derived.Deep.MidRow
import Derived.Deep.OwnRows
namespace Go.Proofs.YtgnkgfjmbmcfcaaGreatDoor
open Go.RowKit
abbrev Qw:=ByteArray
abbrev Qx:=Option Addr
abbrev Qy:=World
abbrev QA:=Value
theorem OU:type_of% @Nat.le_refl:=@Nat.le_refl
theorem OV:type_of% @Nat.lt_of_lt_of_le:=@Nat.lt_of_lt_of_le
theorem OW:type_of% @Nat.zero_le:=@Nat.zero_le
theorem OX:type_of% @Nat.le_trans:=@Nat.le_trans
theorem OY:type_of% @World.rangeAt_setCells_same:=@World.rangeAt_setCells_same
theorem OZ:type_of% @List.getElem?_eq_getElem:=@List.getElem?_eq_getElem
theorem O_:type_of% @List.getElem?_eq_some_iff:=@List.getElem?_eq_some_iff
theorem Pb:type_of% @List.take_succ_eq_append_getElem:=@List.take_succ_eq_append_getElem
theorem Pd:type_of% @List.mem_singleton:=@List.mem_singleton
theorem Pe:type_of% @List.mem_append:=@List.mem_append
theorem Pf:type_of% @List.getElem_mem:=@List.getElem_mem
theorem Pg:type_of% @List.pairwise_iff_getElem:=@List.pairwise_iff_getElem
theorem Ph:type_of% @List.getElem_of_mem:=@List.getElem_of_mem
theorem Pi:type_of% @World.cell?_of_block:=@World.cell?_of_block
theorem Pj:type_of% @List.mem_of_getElem?:=@List.mem_of_getElem?
theorem Pk:type_of% @List.length_eq_zero_iff:=@List.length_eq_zero_iff
theorem Pm:type_of% @World.rangeAt_setCells_apart:=@World.rangeAt_setCells_apart
theorem Pn:type_of% @List.mem_cons_of_mem:=@List.mem_cons_of_mem
theorem Po:type_of% @List.mem_cons_self:=@List.mem_cons_self
theorem Pp:type_of% @List.getElem?_set_ne:=@List.getElem?_set_ne
theorem Pq:type_of% @World.cell?_setCell_other:=@World.cell?_setCell_other
theorem Ps:type_of% @Option.isSome_iff_exists:=@Option.isSome_iff_exists
theorem Pt:type_of% @List.length_take:=@List.length_take
theorem Pv:type_of% @List.mem_map:=@List.mem_map
theorem Pw:type_of% @Nat.le_of_eq:=@Nat.le_of_eq
theorem Px:type_of% @Nat.lt_succ_self:=@Nat.lt_succ_self
theorem Py:type_of% @List.pairwise_append:=@List.pairwise_append
theorem Pz:type_of% @World.ownsRow_made:=@World.ownsRow_made
theorem PD:type_of% @Nat.zero_add:=@Nat.zero_add
theorem PE:type_of% @List.take_length:=@List.take_length
theorem PG:type_of% @List.take_of_length_le:=@List.take_of_length_le
theorem PH:type_of% @Option.mem_toList:=@Option.mem_toList
theorem PI:type_of% @List.getElem_take:=@List.getElem_take
theorem PK:type_of% @Array.getElem?_eq_some_iff:=@Array.getElem?_eq_some_iff
theorem PL:type_of% @World.size_alloc:=@World.size_alloc
theorem PM:type_of% @List.length_append:=@List.length_append
theorem PN:type_of% @Option.some.injEq:=@Option.some.injEq
theorem PO:type_of% @Value.slice.injEq:=@Value.slice.injEq
theorem PP:type_of% @List.length_cons:=@List.length_cons
theorem PQ:type_of% @Addr.add_mid:=@Addr.add_mid
theorem PR:type_of% @Nat.add_zero:=@Nat.add_zero
theorem PS:type_of% @List.mem_cons:=@List.mem_cons
theorem PT:type_of% @List.not_mem_nil:=@List.not_mem_nil
theorem PU:type_of% @World.ownsRow_nil:=@World.ownsRow_nil
theorem PV:type_of% @List.mem_map_of_mem:=@List.mem_map_of_mem
theorem PW:type_of% @Option.some.inj:=@Option.some.inj
theorem PX:type_of% @List.set_cons_succ:=@List.set_cons_succ
theorem PY:type_of% @List.getElem?_append_left:=@List.getElem?_append_left
theorem PZ:type_of% @List.getElem?_append_right:=@List.getElem?_append_right
theorem P_:type_of% @List.getElem?_cons_zero:=@List.getElem?_cons_zero
theorem Qa:type_of% @List.take_append_drop:=@List.take_append_drop
theorem Qb:type_of% @World.cell?_setCell_same:=@World.cell?_setCell_same
theorem Qc:type_of% @List.length_map:=@List.length_map
theorem Qd:type_of% @List.length_set:=@List.length_set
theorem Qe:type_of% @List.getElem?_set_self:=@List.getElem?_set_self
theorem Qf:type_of% @Nat.lt_trichotomy:=@Nat.lt_trichotomy
theorem Qg:type_of% @if_pos:=@if_pos
theorem Qh:type_of% @if_neg:=@if_neg
theorem Qi{a b:Prop}(h:a)(g:¬a):b:=_root_.absurd h g
theorem Ql:type_of% @Option.getD_some:=@Option.getD_some
theorem Qm:type_of% @List.map_append:=@List.map_append
theorem Qn:type_of% @decide_eq_false_iff_not:=@decide_eq_false_iff_not
theorem Qo:type_of% @List.eq_nil_of_length_eq_zero:=@List.eq_nil_of_length_eq_zero
theorem Qp:type_of% @decide_eq_true_eq:=@decide_eq_true_eq
theorem Qr:type_of% @List.length_singleton:=@List.length_singleton
theorem Qs:type_of% @List.pairwise_cons:=@List.pairwise_cons
theorem Qt:type_of% @Addr.mk.injEq:=@Addr.mk.injEq
theorem Qu:type_of% @List.getElem?_toArray:=@List.getElem?_toArray
theorem Qv:type_of% @List.getElem_set:=@List.getElem_set
variable {p : Prop}
theorem Kz(h:p):Hid p:=h
theorem aP(h:Hid p):p:=h
theorem _root_.Go.RowKit.Hid.o(h:Hid p):p:=h
theorem aD{q:Prop}(a:p)(b:q):Hid p/\Hid q:=⟨a,b⟩
theorem bA{q r:Prop}(a:p)(b:q)(c:r):Hid p/\Hid q/\Hid r:=⟨a,b,c⟩
theorem oZ{q r s:Prop}(a:p)(b:q)(c:r)(d:s):Hid p/\Hid q/\Hid r/\Hid s:=⟨a,b,c,d⟩
theorem dX{q r s t:Prop}(a:p)(b:q)(c:r)(d:s)(e:t):Hid p/\Hid q/\Hid r/\Hid s/\Hid t:=⟨a,b,c,d,e⟩
theorem ag{α:Sort _}(a:α):∃x,x=a:=⟨_,rfl⟩
structure aT where
 text:Qw
 goto:Int
structure Xq where
 asks:List Qw
 on:Int
 cases:List aT
 els:Int
 fall:Int
 fin:Bool
 bad:Bool
 give:Qw
structure fA where
 cost:Int
 steps:List Xq
def aT.zero :aT:=⟨ByteArray.empty,0⟩
def Xq.zero :Xq:=⟨[],0,[],0,0,false,false,ByteArray.empty⟩
def In64(n:Int):Prop:= -9223372036854775808<=n/\n<=9223372036854775807
def Strs(w:Qy)(a:Qx)(l:List Qw):Prop:=
 ∀i,i<l.length->∃b o,a=some ⟨b,o,none⟩/\b<w.heap.size/\w.cell? ⟨b,o+i,none⟩=some (.string (l.getD i ByteArray.empty))
def K_(w w':Qy):Prop:=Below w.heap.size w w'
theorem K_.refl(w:Qy):K_ w w:=Below.refl _ _
variable {a : Qy}
theorem K_.trans{b c:Qy}(h:K_ a b)(k:K_ b c):K_ a c:=
 Below.trans h (Below.mono k h.size)
theorem K_.drewN{b:Qy}(h:K_ a b)(n:Nat):K_ a (b.drewN n):=⟨h.os,h.tape,h.output,h.size,h.block⟩
theorem K_.drew{b:Qy}(h:K_ a b):K_ a b.drew:=Below.drew h
theorem K_.alloc{b:Qy}(h:K_ a b)(o:Obj):K_ a (b.alloc o):=Below.alloc h h.size o
theorem ak(w:Qy)(o:Obj):K_ w (w.alloc o):=K_.alloc (K_.refl w) o
theorem bB(w:Qy):K_ w w.drew:=K_.drew (K_.refl w)
variable {n : Nat}
theorem aB(h:n<0):p:=(Nat.not_lt_zero n h).elim
theorem K_.setCell{b:Qy}(h:K_ a b){p:Addr}(d:a.heap.size<=p.block)(v:QA):K_ a (b.setCell p v):=Below.setCell h d v
theorem K_.setCells{g:Nat}(c:a.heap.size<=g):∀(vs:List QA) (o:Nat) {b:Qy},K_ a b->K_ a (b.setCells g o vs)
 | [],_,_,h=>h
 | v :: r,o,_,h=>by
  rw[World.setCells];exact K_.setCells c r (o+1) (K_.setCell h c v)
variable {b o : Nat} {w w' : Qy}
theorem K_.cell(h:K_ w w')(c:b<w.heap.size):w'.cell? ⟨b,o,none⟩=w.cell? ⟨b,o,none⟩:=
 Below.cell h (p:=⟨b,o,none⟩) c
theorem K_.rules{W w1:Qy}(c:K_ W w1):(∀b o,b<W.heap.size->w1.cell? ⟨b,o,none⟩=W.cell? ⟨b,o,none⟩)/\(∀b o,b<W.heap.size->w1.frozen? ⟨b,o,none⟩=W.frozen? ⟨b,o,none⟩):=
 ⟨fun b o h=>Below.cell c (p:=⟨b,o,none⟩) h,fun b o h=>Below.frozen c (p:=⟨b,o,none⟩) h⟩
theorem K_.size(h:K_ w w'):w.heap.size<=w'.heap.size:=Below.size h
theorem Strs.kept{a:Qx}{l:List Qw}(h:Strs w a l)(k:K_ w w'):Strs w' a l:=by
 intro i c;obtain⟨d,o,e,b,f⟩:=h i c;exact⟨d,o,e,OV b k.size,by rw[k.cell b,f]⟩
theorem K_.range(h:K_ w w'){cs:List QA}(c:b<w.heap.size)(d:w.rangeAt b o cs):w'.rangeAt b o cs:=
 fun j v g=>by rw[h.cell c];exact d j v g
theorem size_setCell(w:Qy)(p:Addr)(v:QA):(w.setCell p v).heap.size=w.heap.size:=by simp[World.setCell]
theorem Strs.setCell{l:List Qw}(h:Strs w (some ⟨b,o,none⟩) l){p:Addr}(a:p.block≠b)(v:QA):Strs (w.setCell p v) (some ⟨b,o,none⟩) l:=by
 intro i c;obtain⟨g,j,e,d,f⟩:=h i c;simp only[PN,Qt,and_true] at e;obtain⟨rfl,rfl⟩:=e;exact⟨_,_,rfl,by rw[size_setCell];exact d,by rw[Pq _ _ _ _ (fun e=>a (by rw[e]))];exact f⟩
def Row(w:Qy)(b n:Nat):Prop:=∃t f,w.rowIs b t n f
theorem Row.lt(h:Row w b n):b<w.heap.size:=let ⟨_,_,h⟩:=h;h.lt
theorem Row.there(h:Row w b n){m:Nat}(c:o+m<=n):w.there b o m:=by
 obtain⟨t,f,h⟩:=h;intro j g;exact⟨by rw[h.cell (by omega)];rfl,h.frozen _⟩
theorem Row.kept(h:Row w b n)(k:K_ w w'):Row w' b n:=by
 have c:=h.lt;obtain⟨t,f,h⟩:=h;exact⟨t,f,h.of_block (k.block b c)⟩
theorem Row.set(h:Row w b n)(p:Addr)(a:p.spot=none)(v:QA):Row (w.setCell p v) b n:=by
 obtain⟨t,f,h⟩:=h;by_cases e:b=p.block
 ·subst e;obtain⟨d,c,g⟩:=p;subst a;exact⟨t,_,h.set c v⟩
 ·exact⟨t,f,h.setOther e v⟩
theorem Row.setCells{g:Nat}:∀(vs:List QA) (o:Nat) {w:Qy},Row w b n->Row (w.setCells g o vs) b n
 | [],_,_,h=>h
 | v :: r,o,_,h=>by
  rw[World.setCells];exact Row.setCells r (o+1) (h.set ⟨g,o,none⟩ rfl v)
theorem Row.made(w:Qy)(c:Array QA)(t:TypeId):Row (w.alloc (.cells c t)) w.heap.size c.size:=
 ⟨t,fun i=>c.getD i undef,World.rowIs_alloc w c t _ (fun i b=>by simp[Array.getD,b])⟩
theorem Row.alloc(h:Row w b n)(o:Obj):Row (w.alloc o) b n:=by
 obtain⟨t,f,h⟩:=h;exact⟨t,f,h.alloc o⟩
theorem Zx{P:Program}{e:Func}{R:Ending->Qy->Prop}{a:Act}{p:Tmp}{c:TypeId}(cs:List QA)(d:TypeDesc)(h:e.results= #[.cell p c])
 (f:a.tmps.getD p undef= .pointer (some ⟨b,0,none⟩)) (g:w.rangeAt b 0 cs) (i:P.underlying c=some d) (j:d.isRow=true) (hi:(P.info? c).map (·.size)=some cs.length)
 (k:a.defers=[]) (l:R (.returned (.agg cs.toArray)) w):bodyPost P e R .ret a w:=by
 refine bodyPost_ret ?_ k l;have m:a.tmps[p]?.getD undef= .pointer (some ⟨b,0,none⟩):=by simpa using f
 simp only[results,h];simp[m,asAddr,run_loadVar_mid w b 0 c cs d g i j hi]
theorem dJ{P:Program}(t e:TypeId)(z:QA)(size b:Nat)(h:P.underlying t=some (.slice e))(j:(P.info? e).map (fun i=>(i.zero,i.size,i.bytes))=some (some z,size,b))
  (c d:IntKind) (n:Nat) (s:b*n<=281474976710656) (v:n<=9223372036854775807) (w:Qy):
  (Instr.makeSlice t (.int c (n:Int)) (.int d (n:Int))).run P w= .ok (.slice (some ⟨w.heap.size,0,none⟩) n n) (w.alloc (.cells (madeCells z.cells (n*size)) e)):=by
 obtain⟨i,k,f⟩:=Option.map_eq_some_iff.1 j;simp only[Prod.mk.injEq] at f;obtain⟨l,m,p⟩:=f;have q:(i.bytes:Int)*(n:Int)<=281474976710656:=by
  have r:((i.bytes*n:Nat):Int)<=281474976710656:=by rw[p];omega
  rwa [Int.natCast_mul] at r
 have g:=run_make (P:=P) w t e i z h k l c d n n (by omega) (Int.le_refl _) q (by omega);simp only[Int.toNat_natCast,m] at g;exact g
def aT.cells(c:aT):List QA:=[.string c.text,.int .i64 c.goto]
theorem aT.one(c:aT):(#[.string c.text,.int .i64 c.goto]:Array QA).all (·.oneCell')=true:=
 all_oneCell_toArray (cs:=[.string c.text,.int .i64 c.goto]) (by simp[Value.oneCell'])
def dw(w:Qy)(a:Qx)(l:List aT):Prop:=
 ∀i,i<l.length->∃b o,a=some ⟨b,o,none⟩/\b<w.heap.size/\w.rangeAt b (o+i*2) (l.getD i aT.zero).cells
theorem dw.kept{a:Qx}{l:List aT}(h:dw w a l)(k:K_ w w'):dw w' a l:=by
 intro i c;obtain⟨d,o,e,b,f⟩:=h i c;exact⟨d,o,e,OV b k.size,k.range b f⟩
theorem dw.setCell{l:List aT}(h:dw w (some ⟨b,o,none⟩) l){p:Addr}(a:p.block≠b)(v:QA):dw (w.setCell p v) (some ⟨b,o,none⟩) l:=by
 intro i c;obtain⟨k,m,e,d,f⟩:=h i c;simp only[PN,Qt,and_true] at e;obtain⟨rfl,rfl⟩:=e;exact⟨_,_,rfl,by rw[size_setCell];exact d,fun j u g=>by rw[Pq _ _ _ _ (fun e=>a (by rw[e]))];exact f j u g⟩
theorem Strs.setCells{l:List Qw}{g:Nat}(a:g≠b):∀(vs:List QA) (k:Nat) {w:Qy},Strs w (some ⟨b,o,none⟩) l->Strs (w.setCells g k vs) (some ⟨b,o,none⟩) l
 | [],_,_,h=>h
 | v :: r,k,_,h=>by
  rw[World.setCells];exact Strs.setCells a r (k+1) (h.setCell (p:=⟨g,k,none⟩) a v)
theorem dw.setCells{l:List aT}{g:Nat}(a:g≠b):∀(vs:List QA) (k:Nat) {w:Qy},dw w (some ⟨b,o,none⟩) l->dw (w.setCells g k vs) (some ⟨b,o,none⟩) l
 | [],_,_,h=>h
 | v :: r,k,_,h=>by
  rw[World.setCells];exact dw.setCells a r (k+1) (h.setCell (p:=⟨g,k,none⟩) a v)
def Xq.cells(s:Xq)(aa:Qx)(ca:Nat)(ac:Qx)(cc:Nat):List QA:=
 [.slice aa s.asks.length ca,.int .i64 s.on,.slice ac s.cases.length cc,.int .i64 s.els,.int .i64 s.fall,.bool s.fin,.bool s.bad,.string s.give]
theorem Xq.one(s:Xq)(a:Qx)(ca:Nat)(b:Qx)(cc:Nat):(s.cells a ca b cc).toArray.all (·.oneCell')=true:=
 all_oneCell_toArray (by simp[Xq.cells,Value.oneCell'])
def uB(w:Qy)(cs:List QA)(s:Xq):Prop:=
 ∃aa ca ac cc,cs=s.cells aa ca ac cc/\Strs w aa s.asks/\dw w ac s.cases/\s.asks.length<=ca
theorem uB.kept{cs:List QA}{s:Xq}(h:uB w cs s)(k:K_ w w'):uB w' cs s:=by
 obtain⟨a,b,c,d,e,f,g,i⟩:=h;exact⟨a,b,c,d,e,f.kept k,g.kept k,i⟩
def Steps(w:Qy)(a:Qx)(l:List Xq):Prop:=
 ∀i,i<l.length->∃b o cs,a=some ⟨b,o,none⟩/\b<w.heap.size/\w.rangeAt b (o+i*8) cs/\uB w cs (l.getD i Xq.zero)
theorem Steps.kept{a:Qx}{l:List Xq}(h:Steps w a l)(k:K_ w w'):Steps w' a l:=by
 intro i c;obtain⟨d,o,e,f,b,g,j⟩:=h i c;exact⟨d,o,e,f,OV b k.size,k.range b g,j.kept k⟩
structure Xq.Fits (s:Xq):Prop where
 asks:s.asks.length<=maxLen
 wV:∀x∈s.asks,x.size<=maxLen
 on:In64 s.on
 cases:s.cases.length<=maxLen
 tN:∀c∈s.cases,c.text.size<=maxLen/\In64 c.goto
 els:In64 s.els
 fall:In64 s.fall
 give:s.give.size<=maxLen
def szL(n:Nat)(left:Int):Int:=if (n:Int)<=left then left-n else -1
theorem dZ{n:Nat}{left:Int}(h:(n:Int)<=left):szL n left=left-n:=by simp[szL,h]
theorem cB{n:Nat}{left:Int}(h:left<(n:Int)):szL n left= -1:=by simp[szL];omega
theorem aU{k:IntKind}{a b:Int}(h:a=b):Ending.returned (.int k a)= .returned (.int k b):=by rw[h]
def sumTo{α:Type}(f:α->Nat)(l:List α)(k:Nat):Nat:=((l.take k).map f).sum
theorem eD{α:Type}(f:α->Nat)(l:List α):sumTo f l 0=0:=by simp[sumTo]
theorem iK{α:Type}(f:α->Nat)(l:List α)(d:α)(k:Nat)(h:k<l.length):sumTo f l (k+1)=sumTo f l k+f (l.getD k d):=by
 unfold sumTo;rw[Pb h,Qm,List.sum_append];simp[List.getD,h]
theorem jD{α:Type}(f:α->Nat)(l:List α):sumTo f l l.length= (l.map f).sum:=by simp[sumTo]
theorem sumTo_le{α:Type}(f:α->Nat)(l:List α)(k:Nat):sumTo f l k<=(l.map f).sum:=by
 have e:(l.map f).sum= ((l.take k).map f).sum+ ((l.drop k).map f).sum:=by rw[<-List.sum_append,<-Qm,Qa]
 unfold sumTo;omega
section
variable {α ι : Type} (ready : α -> ι -> Prop) (step : α -> ι -> α)
inductive gW :α->α->Nat->Prop
 | here (s:α):gW s s 0
 | step (s t:α) (i: ι) (k:Nat) (h:ready s i) (r:gW (step s i) t k):gW s t (k+1)
def AtEnd(s:α):Prop:=∀i,¬ready s i
variable {ready step}
theorem gW.trans{s t u:α}{k l:Nat}(h:gW ready step s t k)(g:gW ready step t u l):gW ready step s u (k+l):=by
 induction h with
 | here s=>simpa using g
 | step s t i k h _ ih=>rw[show k+1+l=k+l+1 by omega];exact .step s u i _ h (ih g)
theorem gW.one{s:α}{i: ι}(h:ready s i):gW ready step s (step s i) 1:= .step s _ i 0 h (.here _)
theorem gW.keeps{P:α->Prop}(c:∀s i,P s->ready s i->P (step s i)){s t:α}{k:Nat}(h:gW ready step s t k)(b:P s):P t:=by
 induction h with
 | here s=>exact b
 | step s t i k h _ ih=>exact ih (c s i b h)
end
structure Xz where
 fail:Bool
 text:Qw
def Xz.zero :Xz:=⟨false,ByteArray.empty⟩
def Xz.cells(c:Xz):List QA:=[.bool c.fail,.string c.text]
def eP(w:Qy)(a:Qx)(l:List Xz):Prop:=
 ∀i,i<l.length->∃b o,a=some ⟨b,o,none⟩/\b<w.heap.size/\w.rangeAt b (o+i*2) (l.getD i Xz.zero).cells
variable {a : Qx} {w w' : Qy}
theorem eP.kept{l:List Xz}(h:eP w a l)(k:K_ w w'):eP w' a l:=by
 intro i c;obtain⟨d,o,e,b,f⟩:=h i c;exact⟨d,o,e,OV b k.size,k.range b f⟩
def Says(e:Ending)(p:Prop):Prop:=∃r,e= .returned (.bool r)/\(r=true↔p)
theorem Says.yes{p:Prop}(h:p):Says (.returned (.bool true)) p:=⟨true,rfl,by simp[h]⟩
theorem Says.no{p:Prop}(h:¬p):Says (.returned (.bool false)) p:=⟨false,rfl,by simp[h]⟩
theorem Says.cases{e:Ending}{p:Prop}(h:Says e p):(e= .returned (.bool true)/\p)\/(e= .returned (.bool false)/\¬p):=by
 obtain⟨r,rfl,a⟩:=h;cases r
 ·right;exact⟨rfl,fun d=>by simpa using a.2 d⟩
 ·left;exact⟨rfl,a.1 rfl⟩
theorem Says.dec(p:Prop)[Decidable p]:Says (.returned (.bool (decide p))) p:=⟨decide p,rfl,by simp⟩
theorem Says.congr{e:Ending}{p q:Prop}(h:Says e p)(b:p↔q):Says e q:=by
 obtain⟨r,rfl,d⟩:=h;exact⟨r,rfl,d.trans b⟩
theorem pM{s t:Qw}:(t.toList == s.toList)=true↔t=s:=by
 rw[ByteArray.toList_eq,ByteArray.toList_eq];constructor
 ·intro h;cases s;cases t;simp at h;simp[h]
 ·rintro rfl;simp
theorem sJ{s t:Qw}(h:(t.toList == s.toList)=false):t≠s:=fun e=>by rw[pM.2 e] at h;cases h
theorem tV(s:Qw):s.toList=[]↔s.size=0:=by
 rw[ByteArray.toList_eq,<-Pk,Array.length_toList];exact Iff.rfl
def jd(c:UInt8):Prop:=33<=(c.toNat:Int)/\(c.toNat:Int)<=126/\(c.toNat:Int)≠44
def oq(s:Qw):Prop:=1<=s.size/\s.size<=20/\(s.toList == [45])=false/\∀i (h:i<s.size),jd s[i]
def tu(l:List Qw):Prop:=∀i,i<l.length->oq (l.getD i ByteArray.empty)/\∀j,j<i->l.getD j ByteArray.empty≠l.getD i ByteArray.empty
def CaseOk(n:Int)(c:aT):Prop:=c.text.size<=200/\0<=c.goto/\c.goto<n
def DC(s:Xq):Prop:=s.asks.length=0/\s.on=0/\s.cases.length=0/\s.els=0/\s.fall=0/\s.give.size<=30
def wO(s:Xq)(n:Int):Prop:=
 s.bad=false/\s.give.size=0/\s.asks.length<=5/\tu s.asks/\s.cases.length<=5/\(0<=s.els/\s.els<n)/\(-1<=s.fall/\s.fall<n)/\(s.on=0\/(0<=s.on/\s.on<s.asks.length))
def dW(s:Xq)(n:Int)(i:Nat):Prop:=CaseOk n (s.cases.getD i aT.zero)
def wG(s:Xq)(n:Int):Prop:=∀i,i<s.cases.length->dW s n i
def Ih(s:Xq)(n:Int):Prop:=wO s n/\wG s n
def lC(s:Xq)(n:Int):Prop:=(s.fin=true->DC s)/\(s.fin=false->Ih s n)
def lu(a:fA):Prop:=(1<=a.cost/\a.cost<=20)/\(1<=a.steps.length/\a.steps.length<=20)/\∀i,i<a.steps.length->lC (a.steps.getD i Xq.zero) a.steps.length
structure Xj (lo hi:Nat) (w w':Qy):Prop where
 os:w'.os=w.os
 tape:w'.tape=w.tape
 output:w'.output=w.output
 size:w.heap.size<=w'.heap.size
 block:∀k,k<w.heap.size->(k<lo\/hi<=k)->w'.heap[k]? =w.heap[k]?
variable {hi lo : Nat}
theorem Xj.aj(h:K_ w w'):Xj lo hi w w':=⟨h.os,h.tape,h.output,h.size,fun k c _=>h.block k c⟩
theorem Xj.refl(lo hi:Nat)(w:Qy):Xj lo hi w w:= .aj (K_.refl w)
theorem Xj.trans{a b c:Qy}(h:Xj lo hi a b)(k:Xj lo hi b c):Xj lo hi a c:=
 ⟨k.os.trans h.os,k.tape.trans h.tape,k.output.trans h.output,OX h.size k.size,fun i f g=>(k.block i (OV f h.size) g).trans (h.block i f g)⟩
variable {hi' lo' : Nat}
theorem Xj.mono{a b:Qy}(h:Xj lo hi a b)(f:lo'<=lo)(h2:hi<=hi'):Xj lo' hi' a b:=
 ⟨h.os,h.tape,h.output,h.size,fun k e g=>h.block k e (by omega)⟩
theorem Xj.drew{a b:Qy}(h:Xj lo hi a b):Xj lo hi a b.drew:=⟨h.os,h.tape,h.output,h.size,h.block⟩
theorem Xj.alloc{a b:Qy}(h:Xj lo hi a b)(o:Obj):Xj lo hi a (b.alloc o):=h.trans (.aj ((K_.refl b).alloc o))
theorem Xj.setCell{a b:Qy}(h:Xj lo hi a b){p:Addr}(g:lo<=p.block)(h2:p.block<hi)(v:QA):Xj lo hi a (b.setCell p v):=
 ⟨h.os,h.tape,h.output,by rw[size_setCell];exact h.size,fun k e f=>by rw[Below.heap_setCell _ _ _ _ (by omega)];exact h.block k e f⟩
theorem Xj.kept{a b:Qy}(h:Xj lo hi a b)(c:K_ w a)(g:w.heap.size<=lo):K_ w b:=
 ⟨h.os.trans c.os,h.tape.trans c.tape,h.output.trans c.output,OX c.size h.size,fun k f=>(h.block k (OV f c.size) (by omega)).trans (c.block k f)⟩
def Same(lo hi:Nat)(w w':Qy):Prop:=∀b,lo<=b->b<hi->b<w.heap.size->w'.heap[b]? =w.heap[b]?
theorem Same.mono(h:Same lo hi w w')(d:lo<=lo')(h2:hi'<=hi):Same lo' hi' w w':=fun b e f c=>h b (by omega) (by omega) c
theorem K_.same(h:K_ w w')(lo hi:Nat):Same lo hi w w':=fun b _ _ c=>h.block b c
theorem Xj.same(h:Xj lo hi w w'){l2 h2:Nat}(d:h2<=lo\/hi<=l2):Same l2 h2 w w':=fun b _ _ c=>h.block b c (by omega)
theorem Same.setCell(w:Qy){p:Addr}(a:p.block<lo\/hi<=p.block)(v:QA):Same lo hi w (w.setCell p v):=fun b _ _ _=>Below.heap_setCell _ _ _ _ (by omega)
variable {b o : Nat}
theorem Same.cell(h:Same lo hi w w')(c:lo<=b)(h2:b<hi)(d:b<w.heap.size):w'.cell? ⟨b,o,none⟩=w.cell? ⟨b,o,none⟩:=Pi (w:=w) (h b c h2 d)
variable {n : Nat}
theorem Same.row(h:Same lo hi w w')(d:lo<=b)(h2:b<hi)(a:Row w b n):Row w' b n:=by
 have e:=a.lt;obtain⟨t,f,a⟩:=a;exact⟨t,f,a.of_block (h b d h2 e)⟩
theorem Same.range(h:Same lo hi w w'){cs:List QA}(a:lo<=b)(h2:b<hi)(c:b<w.heap.size)(d:w.rangeAt b o cs):w'.rangeAt b o cs:=
 fun j v e=>by rw[h.cell a h2 c];exact d j v e
def cZ(w:Qy)(lo hi:Nat)(a:Qx)(l:List Qw):Prop:=
 l=[]\/∃b,a=some ⟨b,0,none⟩/\lo<=b/\b<hi/\Row w b l.length/\∀i,i<l.length->w.cell? ⟨b,i,none⟩=some (.string (l.getD i ByteArray.empty))
theorem cZ.same{l:List Qw}(h:cZ w lo hi a l)(k:Same lo hi w w'):cZ w' lo hi a l:=by
 rcases h with h|⟨b,f,c,d,e,g⟩
 ·exact .inl h
 ·exact .inr ⟨b,f,c,d,k.row c d e,fun i hi=>by rw[k.cell c d e.lt];exact g i hi⟩
theorem cZ.mono{l:List Qw}(h:cZ w lo hi a l)(f:lo'<=lo)(h2:hi<=hi'):cZ w lo' hi' a l:=by
 rcases h with h|⟨b,c,g,i,d,e⟩
 ·exact .inl h
 ·exact .inr ⟨b,c,by omega,by omega,d,e⟩
theorem cZ.strs{l:List Qw}(h:cZ w lo hi a l):Strs w a l:=by
 rcases h with rfl|⟨b,c,f,g,d,e⟩
 ·intro i hi;simp at hi
 ·intro i hi;exact⟨b,0,c,d.lt,by rw[PD];exact e i hi⟩
def dM(w:Qy)(lo hi:Nat)(a:Qx)(l:List aT):Prop:=
 l=[]\/∃b,a=some ⟨b,0,none⟩/\lo<=b/\b<hi/\Row w b (l.length*2)/\∀i,i<l.length->w.rangeAt b (i*2) (l.getD i aT.zero).cells
theorem dM.same{l:List aT}(h:dM w lo hi a l)(k:Same lo hi w w'):dM w' lo hi a l:=by
 rcases h with h|⟨b,f,c,d,e,g⟩
 ·exact .inl h
 ·exact .inr ⟨b,f,c,d,k.row c d e,fun i hi=>k.range c d e.lt (g i hi)⟩
theorem dM.mono{l:List aT}(h:dM w lo hi a l)(f:lo'<=lo)(h2:hi<=hi'):dM w lo' hi' a l:=by
 rcases h with h|⟨b,c,g,i,d,e⟩
 ·exact .inl h
 ·exact .inr ⟨b,c,by omega,by omega,d,e⟩
theorem dM.cases{l:List aT}(h:dM w lo hi a l):dw w a l:=by
 rcases h with rfl|⟨b,c,f,g,d,e⟩
 ·intro i hi;simp at hi
 ·intro i hi;exact⟨b,0,c,d.lt,by rw[PD];exact e i hi⟩
def jB(w:Qy)(B j lo hi:Nat)(s:Xq):Prop:=
 ∃aa ca ac cc mid,lo<=mid/\mid<=hi/\w.rangeAt B (j*8) (s.cells aa ca ac cc)/\cZ w lo mid aa s.asks/\dM w mid hi ac s.cases/\s.asks.length<=ca
theorem jB.same{B j:Nat}{s:Xq}(h:jB w B j lo hi s)(k:Same lo hi w w')(c:w'.rangeAt B (j*8)=w.rangeAt B (j*8)):jB w' B j lo hi s:=by
 obtain⟨d,e,f,g,mid,a,b,i,l,m,n⟩:=h;exact⟨d,e,f,g,mid,a,b,by rw[c];exact i,l.same (k.mono (OU _) b),m.same (k.mono a (OU _)),n⟩
def StepsIn(w:Qy)(lo hi:Nat)(a:Qx)(l:List Xq):Prop:=
 l=[]\/∃(b:Nat) (c:Nat->Nat),a=some ⟨b,0,none⟩/\lo<=b/\b<c 0/\c l.length<=hi/\Row w b (l.length*8)/\(∀i j,i<=j->c i<=c j)/\∀i,i<l.length->jB w b i (c i) (c (i+1)) (l.getD i Xq.zero)
theorem rangeAt_of_block(h:w'.heap[b]? =w.heap[b]?)(o:Nat):w'.rangeAt b o=w.rangeAt b o:=by
 funext cs
 unfold World.rangeAt;have d:∀j,w'.cell? ⟨b,j,none⟩=w.cell? ⟨b,j,none⟩:=fun j=>Pi (w:=w) h
 simp only[d]
theorem StepsIn.same{l:List Xq}(h:StepsIn w lo hi a l)(k:Same lo hi w w'):StepsIn w' lo hi a l:=by
 rcases h with h|⟨d,c,n,e,f,g,j,b,p⟩
 ·exact .inl h
 ·have m:d<hi:=OV f (OX (b 0 _ (OW _)) g);refine .inr ⟨d,c,n,e,f,g,k.row e m j,b,fun i q=>(p i q).same (k.mono ?_ ?_) (rangeAt_of_block (k d e m j.lt) _)⟩
  ·have:=b 0 i (OW _);omega
  ·have:=b (i+1) l.length (by omega);omega
theorem StepsIn.mono{l:List Xq}(h:StepsIn w lo hi a l)(j:lo'<=lo)(h2:hi<=hi'):StepsIn w lo' hi' a l:=by
 rcases h with h|⟨b,c,d,k,e,m,f,g,i⟩
 ·exact .inl h
 ·exact .inr ⟨b,c,d,by omega,e,by omega,f,g,i⟩
theorem StepsIn.steps{l:List Xq}(h:StepsIn w lo hi a l):Steps w a l:=by
 rcases h with rfl|⟨b,c,d,s,t,v,e,x,f⟩
 ·intro i hi;simp at hi
 ·intro i hi;obtain⟨g,j,k,m,mid,y,z,n,p,q,r⟩:=f i hi;exact⟨b,0,_,d,e.lt,by rw[PD];exact n,g,j,k,m,rfl,p.strs,q.cases,r⟩
theorem Row.at{i:Nat}(h:Row w b n)(hi:i<n):(∃v,w.cell? ⟨b,i,none⟩=some v)/\w.frozen? ⟨b,i,none⟩=false:=by
 obtain⟨t,f,h⟩:=h;exact⟨⟨_,h.cell hi⟩,h.frozen i⟩
theorem Row.JK{m:Nat}(h:Row w b m)(c:5<=m:=by omega):((∃v,w.cell? ⟨b,0,none⟩=some v)/\w.frozen? ⟨b,0,none⟩=false)/\((∃v,w.cell? ⟨b,1,none⟩=some v)/\w.frozen? ⟨b,1,none⟩=false)/\((∃v,w.cell? ⟨b,2,none⟩=some v)/\w.frozen? ⟨b,2,none⟩=false)/\((∃v,w.cell? ⟨b,3,none⟩=some v)/\w.frozen? ⟨b,3,none⟩=false)/\(∃v,w.cell? ⟨b,4,none⟩=some v)/\w.frozen? ⟨b,4,none⟩=false:=⟨h.at (by omega),h.at (by omega),h.at (by omega),h.at (by omega),h.at (by omega)⟩
theorem Row.LV{m:Nat}(h:Row w b m)(c:7<=m:=by omega):((∃v,w.cell? ⟨b,0,none⟩=some v)/\w.frozen? ⟨b,0,none⟩=false)/\((∃v,w.cell? ⟨b,1,none⟩=some v)/\w.frozen? ⟨b,1,none⟩=false)/\((∃v,w.cell? ⟨b,2,none⟩=some v)/\w.frozen? ⟨b,2,none⟩=false)/\((∃v,w.cell? ⟨b,3,none⟩=some v)/\w.frozen? ⟨b,3,none⟩=false)/\((∃v,w.cell? ⟨b,4,none⟩=some v)/\w.frozen? ⟨b,4,none⟩=false)/\((∃v,w.cell? ⟨b,5,none⟩=some v)/\w.frozen? ⟨b,5,none⟩=false)/\(∃v,w.cell? ⟨b,6,none⟩=some v)/\w.frozen? ⟨b,6,none⟩=false:=⟨h.at (by omega),h.at (by omega),h.at (by omega),h.at (by omega),h.at (by omega),h.at (by omega),h.at (by omega)⟩
theorem Row.EB{m:Nat}(h:Row w b m)(c:9<=m:=by omega):((∃v,w.cell? ⟨b,0,none⟩=some v)/\w.frozen? ⟨b,0,none⟩=false)/\((∃v,w.cell? ⟨b,1,none⟩=some v)/\w.frozen? ⟨b,1,none⟩=false)/\((∃v,w.cell? ⟨b,2,none⟩=some v)/\w.frozen? ⟨b,2,none⟩=false)/\((∃v,w.cell? ⟨b,3,none⟩=some v)/\w.frozen? ⟨b,3,none⟩=false)/\((∃v,w.cell? ⟨b,4,none⟩=some v)/\w.frozen? ⟨b,4,none⟩=false)/\((∃v,w.cell? ⟨b,5,none⟩=some v)/\w.frozen? ⟨b,5,none⟩=false)/\((∃v,w.cell? ⟨b,6,none⟩=some v)/\w.frozen? ⟨b,6,none⟩=false)/\((∃v,w.cell? ⟨b,7,none⟩=some v)/\w.frozen? ⟨b,7,none⟩=false)/\(∃v,w.cell? ⟨b,8,none⟩=some v)/\w.frozen? ⟨b,8,none⟩=false:=⟨h.at (by omega),h.at (by omega),h.at (by omega),h.at (by omega),h.at (by omega),h.at (by omega),h.at (by omega),h.at (by omega),h.at (by omega)⟩
theorem bH(h:Row w b n)(c:o<n)(v:QA):(w.setCell ⟨b,o,none⟩ v).cell? ⟨b,o,none⟩=some v:=by
 obtain⟨⟨old,d⟩,_⟩:=h.at c;exact Qb _ _ _ d
theorem Xk{p:Nat}(a:o≠p)(v:QA):(w.setCell ⟨b,o,none⟩ v).cell? ⟨b,p,none⟩=w.cell? ⟨b,p,none⟩:=
 Pq _ _ _ _ (by simp <;> omega)
variable {xs : List QA} {base size : Nat} {e : TypeId} {v : QA}
theorem ai(h:w.ownsRow base e size v n xs)(k:K_ w w'):w'.ownsRow base e size v n xs:=
 h.kept (row:=none) ⟨k.os,k.tape,k.output,k.size,fun i c _=>k.block i c⟩ (by cases v.ownBlock <;> simp)
theorem bV(h:w.ownsRow base e size v n xs){p:Addr}(i:p.block<base)(u:QA):(w.setCell p u).ownsRow base e size v n xs:=by
 refine⟨h.1, ?_⟩;rcases h.2 with a|⟨g,b,c,rfl,d,f,rest⟩
 ·exact .inl a
 ·exact .inr ⟨g,b,c,rfl,d,by rw[Below.heap_setCell _ _ _ _ (by omega)];exact f,rest⟩
theorem aC{a:Qy}(k:K_ a w)(b:a.heap.size<=base)(h:w.ownsRow base e size v n xs)(g:w.grownBy w' v.ownBlock):K_ a w':=
 Below.grown k g k.size (fun d f=>OX b (h.lt d f).1)
theorem df{base':Nat}(h:w.ownsRow base e size v n xs)(a:base'<=base):w.ownsRow base' e size v n xs:=by
 refine⟨h.1, ?_⟩;rcases h.2 with b|⟨g,c,d,rfl,f,rest⟩
 ·exact .inl b
 ·exact .inr ⟨g,c,d,rfl,OX a f,rest⟩
theorem aV{o:Obj}(h:w.heap[b]? =some o):b<w.heap.size:=(PK.1 h).1
def aL(w:Qy)(b:Nat)(t:TypeId)(n:Nat):Prop:=∃cur:Array QA,w.heap[b]? =some (Obj.cells cur t (0,0))/\cur.size=n
variable {t : TypeId}
theorem aL.row(h:aL w b t n):Row w b n:=by
 obtain⟨a,f,c⟩:=h;exact⟨t,fun i=>a.getD i undef,a,f,c,fun i g=>by simp[Array.getD,c,g]⟩
theorem aL.made(w:Qy)(c:Array QA)(t:TypeId):aL (w.alloc (.cells c t)) w.heap.size t c.size:=⟨c,heap_alloc_new w _,rfl⟩
theorem aL.block(h:aL w b t n)(k:w'.heap[b]? =w.heap[b]?):aL w' b t n:=by
 obtain⟨c,d,e⟩:=h;exact⟨c,k.trans d,e⟩
theorem aL.lt(h:aL w b t n):b<w.heap.size:=let ⟨_,h1,_⟩:=h;aV h1
theorem aL.kept(h:aL w b t n)(k:K_ w w'):aL w' b t n:=h.block (k.block b h.lt)
theorem aL.set(h:aL w b t n)(v:QA):aL (w.setCell ⟨b,o,none⟩ v) b t n:=by
 obtain⟨d,c,e⟩:=h;obtain⟨f,j,g,a,i,_⟩:=(aL.row ⟨d,c,e⟩).set ⟨b,o,none⟩ rfl v;have:f=t:=by
  simp only[World.setCell] at a;simp[Array.getElem?_modify,c] at a;exact a.2.symm
 subst this;exact⟨g,a,i⟩
theorem aG(h:w.ownsRow base e size v n xs):∃a cap,v= .slice a n cap:=by
 rcases h.2 with⟨rfl,rfl⟩|⟨g,cap,d,rfl,_⟩
 ·exact⟨none,0,rfl⟩
 ·exact⟨_,cap,rfl⟩
theorem X_(w:Qy)(c:Array QA)(t:TypeId):(w.alloc (.cells c t)).rangeAt w.heap.size 0 c.toList:=fun j v a=>by
 rw[PD,World.cell?_alloc_mark];simpa using a
variable {n : Nat}
section
variable {α : Type} {ah : α -> α -> Bool}
structure Ahead (ah:α->α->Bool):Prop where
 irr:∀x,ah x x=false
 tr:∀x y z,ah x y=true->ah y z=true->ah x z=true
 ntr:∀x y z,ah y x=false->ah z y=false->ah z x=false
theorem Ahead.yY(h:Ahead ah){x y z:α}(c:ah y x=false)(h2:ah z y=false):ah z x=false:=h.ntr x y z c h2
theorem Ahead.asym(h:Ahead ah){x y:α}(b:ah x y=true):ah y x=false:=by
 cases e:ah y x
 ·rfl
 ·have:=h.tr x y x b e;rw[h.irr] at this;cases this
def bR(i:Nat):Nat:=(i-1) / 2
def swp(f:Nat->α)(a b:Nat):Nat->α:=fun i=>if i=a then f b else if i=b then f a else f i
def g_(f:Nat->α)(n:Nat)(x:α):Prop:=∃i,i<n/\f i=x
def vN(f:Nat->α)(n:Nat):Prop:=∀i j,i<n->j<n->f i=f j->i=j
def uW(ah:α->α->Bool)(f:Nat->α)(n:Nat):Prop:=∀i,0<i->i<n->ah (f i) (f (bR i))=false
theorem Ho{f:Nat->α}{a b:Nat}(g:a<n)(j:b<n)(x:α):g_ (swp f a b) n x↔g_ f n x:=by
 constructor
 ·rintro⟨i,h,e⟩;unfold swp at e;by_cases d:i=a
  ·rw[Qg d] at e;exact⟨b,j,e⟩
  ·rw[Qh d] at e;by_cases c:i=b
   ·rw[Qg c] at e;exact⟨a,g,e⟩
   ·rw[Qh c] at e;exact⟨i,h,e⟩
 ·rintro⟨i,h,e⟩;by_cases d:i=a
  ·by_cases c:b=a
   ·exact⟨a,g,by unfold swp;rw[Qg rfl,c,<-d];exact e⟩
   ·exact⟨b,j,by unfold swp;rw[Qh c,Qg rfl,<-d];exact e⟩
  ·by_cases c:i=b
   ·exact⟨a,g,by unfold swp;rw[Qg rfl,<-c];exact e⟩
   ·exact⟨i,h,by unfold swp;rw[Qh d,Qh c];exact e⟩
def Gu(a b i:Nat):Nat:=if i=a then b else if i=b then a else i
theorem JZ{a b i:Nat}(c:a<n)(d:b<n)(hi:i<n):Gu a b i<n:=by
 unfold Gu
 split
 ·exact d
 ·split
  ·exact c
  ·exact hi
theorem GU(a b i:Nat):Gu a b (Gu a b i)=i:=by
 unfold Gu;by_cases d:i=a
 ·rw[Qg d];by_cases c:b=a
  ·rw[Qg c];omega
  ·rw[Qh c,Qg rfl];omega
 ·rw[Qh d];by_cases c:i=b
  ·rw[Qg c,Qg rfl];omega
  ·rw[Qh c,Qh d,Qh c]
theorem GR(f:Nat->α)(a b i:Nat):swp f a b i=f (Gu a b i):=by
 unfold swp Gu
 split
 ·rfl
 ·split <;> rfl
theorem BQ{f:Nat->α}{a b:Nat}(c:a<n)(d:b<n)(h:vN f n):vN (swp f a b) n:=by
 intro i k g j e;rw[GR,GR] at e;have:=h _ _ (JZ c d g) (JZ c d j) e;rw[<-GU a b i,this,GU]
def UpH(ah:α->α->Bool)(f:Nat->α)(n k:Nat):Prop:=
 (∀i,0<i->i<n->i≠k->ah (f i) (f (bR i))=false)/\∀c,0<c->c<n->bR c=k->0<k->ah (f c) (f (bR k))=false
def upF(ah:α->α->Bool):Nat->(Nat->α)->Nat->Nat->α
 | 0,f,_=>f
 | m+1,f,k=>if k=0 then f else if ah (f k) (f (bR k))=true then upF ah m (swp f k (bR k)) (bR k) else f
theorem Ng(d:Ahead ah):∀(m:Nat) (f:Nat->α) (k:Nat),k<=m->k<n->UpH ah f n k->uW ah (upF ah m f k) n/\(∀x,g_ (upF ah m f k) n x↔g_ f n x)/\(vN f n->vN (upF ah m f k) n)
 | 0,f,k,hm,hk,h=>by
  obtain rfl:k=0:=by omega
  exact⟨fun i p a=>h.1 i p a (by omega),fun _=>Iff.rfl,fun h=>h⟩
 | m+1,f,k,hm,hk,h=>by
  unfold upF;by_cases p:k=0
  ·rw[Qg p];exact⟨fun i c a=>h.1 i c a (by omega),fun _=>Iff.rfl,fun h=>h⟩
  ·rw[Qh p];by_cases e:ah (f k) (f (bR k))=true
   ·rw[Qg e];have D:bR k<k:=by unfold bR;omega
    have t:UpH ah (swp f k (bR k)) n (bR k):=by
     constructor
     ·intro i c a v;have E:bR i<i:=by unfold bR;omega
      unfold swp;rw[Qh v];by_cases b:i=k
      ·subst b;rw[Qg rfl,Qh (by omega),Qg rfl];exact d.asym e
      ·rw[Qh b];by_cases g:bR i=k
       ·rw[Qg g];exact h.2 i c a g (by omega)
       ·rw[Qh g];by_cases r:bR i=bR k
        ·rw[Qg r];have j:=h.1 i c a b;rw[r] at j;exact d.yY (d.asym e) j
        ·rw[Qh r];exact h.1 i c a b
     ·intro l w y z A;have F:bR (bR k)<bR k:=by unfold bR at *;omega
      unfold swp;rw[Qh (show¬bR (bR k)=k by omega),Qh (show¬bR (bR k)=bR k by omega)];have G:bR l<l:=by unfold bR;omega
      rw[Qh (show¬l=bR k by omega)];have j:=h.1 (bR k) A (by omega) (by omega);by_cases b:l=k
      ·rw[Qg b];exact j
      ·rw[Qh b];have q:=h.1 l w y b;rw[z] at q;exact d.yY j q
    obtain⟨B,q,C⟩:=Ng d m (swp f k (bR k)) (bR k) (by omega) (by omega) t;exact⟨B,fun x=>(q x).trans (Ho hk (by omega) x),fun a=>C (BQ hk (by omega) a)⟩
   ·rw[Qh e];refine⟨fun i c a=>?_,fun _=>Iff.rfl,fun h=>h⟩;by_cases s:i=k
    ·subst s;cases g:ah (f i) (f (bR i))
     ·rfl
     ·exact Qi g e
    ·exact h.1 i c a s
def JY(ah:α->α->Bool)(f:Nat->α)(n k:Nat):Prop:=
 (∀i,0<i->i<n->bR i≠k->ah (f i) (f (bR i))=false)/\∀c,0<c->c<n->bR c=k->0<k->ah (f c) (f (bR k))=false
def gJ(ah:α->α->Bool)(f:Nat->α)(n k:Nat):Nat:=if 2*k+1<n/\ah (f (2*k+1)) (f k)=true then 2*k+1 else k
def dG(ah:α->α->Bool)(f:Nat->α)(n k:Nat):Nat:=if 2*k+2<n/\ah (f (2*k+2)) (f (gJ ah f n k))=true then 2*k+2 else gJ ah f n k
def jq(ah:α->α->Bool):Nat->(Nat->α)->Nat->Nat->Nat->α
 | 0,f,_,_=>f
 | m+1,f,n,k=>if dG ah f n k=k then f else jq ah m (swp f k (dG ah f n k)) n (dG ah f n k)
theorem l_(f:Nat->α)(n k:Nat):dG ah f n k=k\/(dG ah f n k=2*k+1/\2*k+1<n)\/(dG ah f n k=2*k+2/\2*k+2<n):=by
 unfold dG gJ;by_cases b:2*k+1<n/\ah (f (2*k+1)) (f k)=true
 ·rw[Qg b];by_cases a:2*k+2<n/\ah (f (2*k+2)) (f (2*k+1))=true
  ·rw[Qg a];exact .inr (.inr ⟨rfl,a.1⟩)
  ·rw[Qh a];exact .inr (.inl ⟨rfl,b.1⟩)
 ·rw[Qh b];by_cases a:2*k+2<n/\ah (f (2*k+2)) (f k)=true
  ·rw[Qg a];exact .inr (.inr ⟨rfl,a.1⟩)
  ·rw[Qh a];exact .inl rfl
theorem CP(a:Ahead ah)(f:Nat->α)(n k:Nat):ah (f k) (f (dG ah f n k))=false/\(2*k+1<n->ah (f (2*k+1)) (f (dG ah f n k))=false)/\(2*k+2<n->ah (f (2*k+2)) (f (dG ah f n k))=false)/\(dG ah f n k≠k->ah (f (dG ah f n k)) (f k)=true):=by
 have b:ah (f k) (f (gJ ah f n k))=false/\(2*k+1<n->ah (f (2*k+1)) (f (gJ ah f n k))=false)/\(gJ ah f n k≠k->ah (f (gJ ah f n k)) (f k)=true):=by
  unfold gJ;by_cases d:2*k+1<n/\ah (f (2*k+1)) (f k)=true
  ·rw[Qg d];exact⟨a.asym d.2,fun _=>a.irr _,fun _=>d.2⟩
  ·rw[Qh d];refine⟨a.irr _,fun g=>?_,fun i=>Qi rfl i⟩;cases e:ah (f (2*k+1)) (f k)
   ·rfl
   ·exact Qi ⟨g,e⟩ d
 unfold dG;by_cases c:2*k+2<n/\ah (f (2*k+2)) (f (gJ ah f n k))=true
 ·rw[Qg c];have h:=a.asym c.2;refine⟨a.yY h b.1,fun g=>a.yY h (b.2.1 g),fun _=>a.irr _,fun _=>?_⟩;by_cases e:gJ ah f n k=k
  ·have:=c.2;rw[e] at this;exact this
  ·exact a.tr _ _ _ c.2 (b.2.2 e)
 ·rw[Qh c];refine⟨b.1,b.2.1,fun g=>?_,b.2.2⟩;cases e:ah (f (2*k+2)) (f (gJ ah f n k))
  ·rfl
  ·exact Qi ⟨g,e⟩ c
theorem Aw{i k:Nat}(h:bR i=k)(b:0<i):i=2*k+1\/i=2*k+2:=by unfold bR at h;omega
theorem Hw(t:Ahead ah):∀(m:Nat) (f:Nat->α) (k:Nat),n<=k+m->(k<n\/n=0)->JY ah f n k->uW ah (jq ah m f n k) n/\(∀x,g_ (jq ah m f n k) n x↔g_ f n x)/\(vN f n->vN (jq ah m f n k) n)
 | 0,f,k,hm,hk,h=>by
  refine⟨fun i e a=>h.1 i e a ?_,fun _=>Iff.rfl,fun h=>h⟩;unfold bR;omega
 | m+1,f,k,hm,hk,h=>by
  unfold jq;have b:=CP t f n k;have v:=l_ (ah:=ah) f n k;by_cases d:dG ah f n k=k
  ·rw[Qg d];refine⟨fun i e a=>?_,fun _=>Iff.rfl,fun h=>h⟩;by_cases l:bR i=k
   ·rw[l];rw[d] at b;rcases Aw l e with rfl|rfl
    ·exact b.2.1 a
    ·exact b.2.2.1 a
   ·exact h.1 i e a l
  ·rw[Qh d];obtain⟨q,A⟩:=ag (dG ah f n k);rw[<-A] at b v d⊢;have B:q<n/\k<q/\bR q=k/\0<q:=by
    rcases v with p|⟨p,C⟩|⟨p,C⟩
    ·exact Qi p d
    ·unfold bR;omega
    ·unfold bR;omega
   obtain⟨g,L,r,D⟩:=B;have M:=b.2.2.2 d;have E:JY ah (swp f k q) n q:=by
    constructor
    ·intro i s a w;have N:bR i<i:=by unfold bR;omega
     unfold swp;by_cases y:i=k
     ·subst y;rw[Qg rfl,Qh (show¬bR i=i by omega),Qh w];exact h.2 q D g r s
     ·rw[Qh y];by_cases z:i=q
      ·subst z;rw[Qg rfl,Qg r];exact b.1
      ·rw[Qh z];by_cases j:bR i=k
       ·rw[Qg j];rcases Aw j s with rfl|rfl
        ·exact b.2.1 a
        ·exact b.2.2.1 a
       ·rw[Qh j,Qh w];exact h.1 i s a j
    ·intro c F G H _;have O:bR c<c:=by unfold bR;omega
     unfold swp;rw[Qh (show¬c=k by omega),Qh (show¬c=q by omega),r,Qg rfl];have:=h.1 c F G (by omega);rw[H] at this;exact this
   obtain⟨I,J,K⟩:=Hw t m (swp f k q) q (by omega) (.inl g) E;exact⟨I,fun x=>(J x).trans (Ho (by omega) g x),fun a=>K (BQ (by omega) g a)⟩
theorem FM(a:Ahead ah){f:Nat->α}(h:uW ah f n):∀i,i<n->ah (f i) (f 0)=false:=by
 intro i
 induction i using Nat.strongRecOn with
 | ind i ih=>
  intro c;by_cases d:i=0
  ·subst d;exact a.irr _
  ·have e:bR i<i:=by unfold bR;omega
   exact a.yY (ih _ e (by omega)) (h i (by omega) c)
def ig(ah:α->α->Bool)(f:Nat->α)(n:Nat)(x:α):Nat->α:=upF ah n (fun i=>if i=n then x else f i) n
theorem LH(l:Ahead ah){f:Nat->α}{x:α}(m:uW ah f n)(hi:vN f n)(d:¬g_ f n x):uW ah (ig ah f n x) (n+1)/\(∀y,g_ (ig ah f n x) (n+1) y↔y=x\/g_ f n y)/\vN (ig ah f n x) (n+1):=by
 have p:UpH ah (fun i=>if i=n then x else f i) (n+1) n:=by
  constructor
  ·intro i g a q;have r:bR i<i:=by unfold bR;omega
   simp only[Qh q,Qh (show¬bR i=n by omega)];exact m i g (by omega)
  ·intro h g w r _;have:bR h<h:=by unfold bR;omega
   omega
 obtain⟨s,t,v⟩:=Ng l n _ n (OU _) (Px _) p;refine⟨s,fun y=>(t y).trans ⟨?_, ?_⟩,v ?_⟩
 ·rintro⟨i,a,e⟩;simp only at e;by_cases k:i=n
  ·rw[Qg k] at e;exact .inl e.symm
  ·rw[Qh k] at e;exact .inr ⟨i,by omega,e⟩
 ·rintro (rfl|⟨i,a,e⟩)
  ·exact⟨n,Px _,by simp⟩
  ·exact⟨i,by omega,by simp only;rw[Qh (by omega)];exact e⟩
 ·intro i j a z e;simp only at e;by_cases b:i=n <;> by_cases c:j=n
  ·omega
  ·rw[Qg b,Qh c] at e;exact Qi ⟨j,by omega,e.symm⟩ d
  ·rw[Qh b,Qg c] at e;exact Qi ⟨i,by omega,e⟩ d
  ·rw[Qh b,Qh c] at e;exact hi i j (by omega) (by omega) e
def eZ(ah:α->α->Bool)(f:Nat->α)(n:Nat):Nat->α:=jq ah n (swp f 0 n) n 0
theorem Jh(g:Ahead ah){f:Nat->α}(h:uW ah f (n+1))(hi:vN f (n+1)):uW ah (eZ ah f n) n/\(∀y,g_ (eZ ah f n) n y↔g_ f (n+1) y/\y≠f 0)/\vN (eZ ah f n) n:=by
 have j:JY ah (swp f 0 n) n 0:=by
  constructor
  ·intro i a b k;have s:bR i<i:=by unfold bR;omega
   unfold swp;rw[Qh (by omega),Qh (by omega),Qh k,Qh (by omega)];exact h i a (by omega)
  ·intro t _ _ _ a;omega
 obtain⟨l,m,p⟩:=Hw g n (swp f 0 n) 0 (by omega) (by omega) j;refine⟨l,fun y=>(m y).trans ⟨?_, ?_⟩,p ?_⟩
 ·rintro⟨i,b,e⟩;unfold swp at e;by_cases a:i=0
  ·rw[Qg a] at e;refine⟨⟨n,Px _,e⟩,fun c=>?_⟩;have:=hi n 0 (by omega) (by omega) (e.trans c);omega
  ·rw[Qh a,Qh (by omega)] at e;refine⟨⟨i,by omega,e⟩,fun c=>?_⟩;have:=hi i 0 (by omega) (by omega) (e.trans c);omega
 ·rintro⟨⟨i,b,e⟩,q⟩;have a:i≠0:=fun a=>by subst a;exact q e.symm
  by_cases d:i=n
  ·exact⟨0,by omega,by unfold swp;rw[Qg rfl,<-d];exact e⟩
  ·exact⟨i,by omega,by unfold swp;rw[Qh a,Qh d];exact e⟩
 ·intro i r b v e;exact BQ (n:=n+1) (by omega) (by omega) hi i r (by omega) (by omega) e
end
def BD(k:Nat)(acc:List UInt8):List UInt8:=if k=0 then acc else BD (k / 10) (UInt8.ofNat (48+k % 10) :: acc)
termination_by k
decreasing_by omega
theorem Je(a:List UInt8):BD 0 a=a:=by rw[BD];simp
theorem Kl{k:Nat}(h:0<k)(a:List UInt8):BD k a=BD (k / 10) (UInt8.ofNat (48+k % 10) :: a):=by rw[BD,Qh (by omega)]
def fP(k:Nat):Qw:=⟨(109 :: BD k []).toArray⟩
def fo(l:List Qw)(k:Nat):List Qw:=l.mapIdx fun i _=>fP (k+i)
def mW(k:Nat):aT:=⟨fP k,((k+1:Nat):Int)⟩
def gY(l:List aT)(k:Nat):List aT:=l.mapIdx fun i _=>mW (k+i*2)
def dE(s:Xq):Nat:=s.asks.length+s.cases.length*2+6
def jP(s:Xq)(k:Nat):Xq:=
 {asks:=fo s.asks k,on:=((k+s.asks.length:Nat):Int),cases:=gY s.cases (k+s.asks.length+1),
  els:=((k+s.asks.length+1+s.cases.length*2:Nat):Int),fall:=((k+s.asks.length+1+s.cases.length*2+1:Nat):Int),
  fin:=decide ((k+s.asks.length+1+s.cases.length*2+2) % 3=0),bad:=decide ((k+s.asks.length+1+s.cases.length*2+3) % 3=0),
  give:=fP (k+s.asks.length+1+s.cases.length*2+4)}
def jv(l:List Xq)(k:Nat):List Xq:=l.mapIdx fun i s=>jP s (k+sumTo dE l i)
theorem gG(l:List Qw)(k:Nat):(fo l k).length=l.length:=by simp[fo]
theorem jr(l:List aT)(k:Nat):(gY l k).length=l.length:=by simp[gY]
theorem gZ(l:List Xq)(k:Nat):(jv l k).length=l.length:=by simp[jv]
theorem qZ(l:List Qw)(k i:Nat)(h:i<l.length):(fo l k).getD i ByteArray.empty=fP (k+i):=by simp[fo,List.getD,h]
theorem yS(l:List aT)(k i:Nat)(h:i<l.length):(gY l k).getD i aT.zero=mW (k+i*2):=by simp[gY,List.getD,h]
theorem yz(l:List Xq)(k i:Nat)(h:i<l.length):(jv l k).getD i Xq.zero=jP (l.getD i Xq.zero) (k+sumTo dE l i):=by simp[jv,List.getD,h]
section
variable {α : Type} (E : α -> α -> Prop)
inductive aW :Nat->α->α->Prop
 | here (a:α):aW 0 a a
 | step {n:Nat} {a b c:α} (h:E a b) (r:aW n b c):aW (n+1) a c
def Far(t:α)(n:Nat)(a:α):Prop:=aW E n a t/\∀m,m<n->¬aW E m a t
end
section
variable {α : Type} {E : α -> α -> Prop}
theorem aW.trans{n m:Nat}{a b c:α}(h:aW E n a b)(g:aW E m b c):aW E (n+m) a c:=by
 induction h with
 | here a=>rw[PD];exact g
 | step h _ ih=>rw[show∀k:Nat,k+1+m=k+m+1 from fun k=>by omega];exact .step h (ih g)
theorem aW.one{a b:α}(h:E a b):aW E 1 a b:= .step h (.here b)
theorem aW.zero{a b:α}(h:aW E 0 a b):a=b:=by
 generalize d:(0:Nat)=n at h;cases h with
 | here=>rfl
 | step=>cases d
theorem aW.first{n:Nat}{a c:α}(h:aW E (n+1) a c):∃b,E a b/\aW E n b c:=by
 generalize e:n+1=m at h;cases h with
 | here=>cases e
 | step h r=>cases e;exact⟨_,h,r⟩
theorem aW.far{t:α}:∀{n:Nat} {a:α},aW E n a t->∃m,m<=n/\Far E t m a:=by
 intro n
 induction n using Nat.strongRecOn with
 | ind n ih=>
  intro a h;by_cases d:∃m,m<n/\aW E m a t
  ·obtain⟨m,b,c⟩:=d;obtain⟨q,f,e⟩:=ih m b c;exact⟨q,by omega,e⟩
  ·exact⟨n,OU _,h,fun m b c=>d ⟨m,b,c⟩⟩
theorem Far.unique{t a:α}{n m:Nat}(h:Far E t n a)(g:Far E t m a):n=m:=by
 rcases Qf n m with e|e|e
 ·exact Qi h.1 (g.2 n e)
 ·exact e
 ·exact Qi g.1 (h.2 m e)
theorem Far.zero(t:α):Far E t 0 t:=⟨.here t,fun _m h=>aB h⟩
theorem Far.Ii{t a:α}(h:Far E t 0 a):a=t:=h.1.zero
theorem Far.next{t a:α}{n:Nat}(h:Far E t (n+1) a):∃b,E a b/\Far E t n b:=by
 obtain⟨b,c,e⟩:=h.1.first
 obtain⟨m,g,d⟩:=e.far;rcases Nat.lt_or_ge m n with f|f
 ·exact Qi (aW.step c d.1) (h.2 (m+1) (by omega))
 ·have:m=n:=by omega
  subst this;exact⟨b,c,d⟩
end
variable {L Q : List Nat} {p : Nat} {A : Nat -> Nat}
section
variable {E : Nat -> Nat -> Prop} {t : Nat}
structure Bfs (E:Nat->Nat->Prop) (t:Nat) (A:Nat->Nat) (Q:List Nat):Prop where
 fin:∀p,A p≠0->Far E t (A p-1) p
 q:∀p∈Q,A p≠0
 nd:Q.Nodup
 mono:Q.Pairwise fun p r=>A p<=A r
 two:∀h l,Q=h :: l->∀r∈Q,A r<=A h+1
 lev:∀p n,Far E t n p->(Q=[]\/∃h l,Q=h :: l/\n+1<=A h)->A p≠0
 don:∀p,A p≠0->p∉Q->∀r,E r p->A r≠0/\r≠t
 tar:A t=1
structure ou (E:Nat->Nat->Prop) (t:Nat) (p:Nat) (L:List Nat) (A:Nat->Nat) (Q:List Nat):Prop where
 fin:∀r,A r≠0->Far E t (A r-1) r
 q:∀r∈Q,A r≠0
 nd:Q.Nodup
 mono:Q.Pairwise fun a b=>A a<=A b
 two:∀r∈Q,A p<=A r/\A r<=A p+1
 lev:∀r n,Far E t n r->n+1<=A p->A r≠0
 don:∀r,A r≠0->r∉Q->r≠p->∀s,E s r->A s≠0/\s≠t
 cur:∀s∈L,A s≠0/\s≠t
 pos:A p≠0
 out:p∉Q
 tar:A t=1
theorem Bfs.start(E:Nat->Nat->Prop)(t:Nat):Bfs E t (fun p=>if p=t then 1 else 0) [t]:=by
 refine⟨fun p h=>?_,fun p h=>?_,by simp,by simp,fun h l e r a=>?_,fun p n c h=>?_,fun p h d=>?_,by simp⟩
 ·by_cases e:p=t
  ·subst e;simp only[if_true];exact Far.zero p
  ·simp[e] at h
 ·rw[Pd] at h;simp[h]
 ·simp only[List.cons.injEq] at e;rw[Pd] at a;rw[a,<-e.1];simp
 ·rcases h with h|⟨h,l,e,b⟩
  ·cases h
  ·simp only[List.cons.injEq] at e;rw[<-e.1] at b;simp only[if_true] at b;have:n=0:=by omega
   subst this;rw[c.Ii];simp
 ·by_cases e:p=t
  ·exact Qi (by rw[e];simp) d
  ·simp[e] at h
theorem Bfs.take(h:Bfs E t A (p :: Q)):ou E t p [] A Q:=by
 have b:=List.nodup_cons.1 h.nd;have c:=Qs.1 h.mono;refine⟨h.fin,fun r a=>h.q r (Pn _ a),b.2,c.2,fun r a=>⟨c.1 r a,h.two p Q rfl r (Pn _ a)⟩,fun r n d f=>h.lev r n d (.inr ⟨p,Q,rfl,f⟩),fun r a g i=>h.don r a ?_,fun s j=>(by cases j),h.q p (by simp),b.1,h.tar⟩;intro k;rcases PS.1 k with e | e
 ·exact i e
 ·exact g e
theorem ou.old{s:Nat}(h:ou E t p L A Q)(c:A s≠0)(d:s≠t):ou E t p (L++ [s]) A Q:=
 ⟨h.fin,h.q,h.nd,h.mono,h.two,h.lev,h.don,fun r f=>by
  rcases Pe.1 f with e|e
  ·exact h.cur r e
  ·rw[Pd] at e;rw[e];exact⟨c,d⟩,h.pos,h.out,h.tar⟩
theorem ou.new{s:Nat}(h:ou E t p L A Q)(B:E s p)(l:A s=0)(v:s≠t):ou E t p (L++ [s]) (fun r=>if r=s then A p+1 else A r) (Q++ [s]):=by
 have w:p≠s:=fun e=>h.pos (by rw[e];exact l)
 have j:s∉Q:=fun e=>h.q s e l
 have C:Far E t (A p) s:=by
  have D:=h.fin p h.pos;have N:=h.pos;refine⟨?_,fun m O F=>?_⟩
  ·have:=aW.step B D.1;rw[show A p-1+1=A p by omega] at this;exact this
  ·obtain⟨G,k,i⟩:=F.far;exact h.lev s G i (by omega) l
 have same:∀r,r≠s->(if r=s then A p+1 else A r)=A r:=fun r e=>Qh e
 have q:(if p=s then A p+1 else A p)=A p:=same p w;refine⟨fun r c=>?_,fun r c=>?_, ?_, ?_,fun r c=>?_,fun r n H y=>?_,fun r c z I x J=>?_,fun r c=>?_,by simp only[q];exact h.pos, ?_, ?_⟩
 ·by_cases e:r=s
  ·subst e;simp only[if_true];rw[Nat.add_sub_cancel];exact C
  ·simp only[same r e] at c⊢;exact h.fin r c
 ·by_cases e:r=s
  ·simp[e]
  ·rw[same r e];rcases Pe.1 c with g|g
   ·exact h.q r g
   ·exact Qi (Pd.1 g) e
 ·rw[List.nodup_append];exact⟨h.nd,by simp,fun a d b f e=>by rw[Pd] at f;rw[e,f] at d;exact j d⟩
 ·rw[Py];refine⟨h.mono.imp_of_mem fun {a b} d f K=>?_,by simp,fun a d b f=>?_⟩
  ·rw[same a (fun e=>j (by rw[<-e];exact d)),same b (fun e=>j (by rw[<-e];exact f))];exact K
  ·rw[Pd] at f;subst f;rw[same a (fun e=>j (by rw[<-e];exact d)),Qg rfl];exact (h.two a d).2
 ·simp only[q];by_cases e:r=s
  ·rw[Qg e];omega
  ·rw[same r e];rcases Pe.1 c with g|g
   ·exact h.two r g
   ·exact Qi (Pd.1 g) e
 ·simp only[q] at y;by_cases e:r=s
  ·rw[Qg e];omega
  ·rw[same r e];exact h.lev r n H y
 ·have M:r≠s:=fun e=>z (by rw[e];simp)
  rw[same r M] at c;obtain⟨k,i⟩:=h.don r c (fun g=>z (Pe.2 (.inl g))) I x J;refine⟨?_,i⟩;by_cases e:x=s
  ·rw[Qg e];omega
  ·rw[same x e];exact k
 ·rcases Pe.1 c with g|g
  ·obtain⟨k,i⟩:=h.cur r g;refine⟨?_,i⟩;by_cases e:r=s
   ·rw[Qg e];omega
   ·rw[same r e];exact k
  ·rw[Pd] at g;rw[g,Qg rfl];exact⟨by omega,v⟩
 ·intro g;rcases Pe.1 g with g|g
  ·exact h.out g
  ·exact w (Pd.1 g)
 ·rw[same t (Ne.symm v)];exact h.tar
theorem ou.ends(h:ou E t p L A Q)(k:∀s,E s p->s∈L):Bfs E t A Q:=by
 have g:∀r,A r≠0->r∉Q->∀s,E s r->A s≠0/\s≠t:=fun r i w s j=>by
  by_cases e:r=p
  ·rw[e] at j;exact h.cur s (k s j)
  ·exact h.don r i w e s j
 refine⟨h.fin,h.q,h.nd,h.mono,fun a l e r i=>?_,fun r n d x=>?_,g,h.tar⟩
 ·have f:=(h.two a (by rw[e];simp)).1;have c:=(h.two r i).2;omega
 ·rcases x with rfl|⟨a,l,rfl,F⟩
  ·clear k
   induction n generalizing r with
   | zero=>rw[d.Ii,h.tar];omega
   | succ n ih=>
    obtain⟨b,f,c⟩:=d.next;exact (g b (ih b c) (by simp) r f).1
  ·have G:=h.two a (by simp);by_cases y:n+1<=A p
   ·exact h.lev r n d y
   ·have H:n=A p:=by omega
    obtain⟨m,z⟩:∃m,n=m+1:=⟨n-1,by have:=h.pos;omega⟩;subst z;obtain⟨b,f,c⟩:=d.next;have v:=h.lev b m c (by omega);have B:=(h.fin b v).unique c;refine (g b v (fun C=>?_) r f).1;have D:=Qs.1 h.mono;rcases PS.1 C with e | e
    ·rw[e] at B;omega
    ·have:=D.1 b e;omega
theorem ou.found(h:ou E t p L A Q)(f:E t p):aW E (A p) t t/\(∀m,1<=m->m<A p->¬aW E m t t)/\∀r n,n+1<=A p->(A r=n+1↔Far E t n r):=by
 have x:=h.pos;have a:∀r n,n+1<=A p->(A r=n+1↔Far E t n r):=fun r n i=>by
  constructor
  ·intro e;have:=h.fin r (by omega);rw[e,Nat.add_sub_cancel] at this;exact this
  ·intro c;have d:=h.lev r n c i;have:=(h.fin r d).unique c;omega
 refine⟨?_,fun m d y j=>?_,a⟩
 ·have:=aW.step f (h.fin p h.pos).1;rw[show A p-1+1=A p by omega] at this;exact this
 ·obtain⟨q,k⟩:∃q,m=q+1:=⟨m-1,by omega⟩;subst k;obtain⟨b,l,s⟩:=j.first
  obtain⟨n,z,v⟩:=s.far;have w:=(a b n (by omega)).2 v;refine (h.don b (by omega) (fun g=>?_) (fun e=>?_) t l).2 rfl
  ·have:=(h.two b g).1;omega
  ·rw[e] at w;omega
theorem Bfs.none(h:Bfs E t A []):∀m,1<=m->¬aW E m t t:=fun m j d=>by
 obtain⟨q,e⟩:∃q,m=q+1:=⟨m-1,by omega⟩;subst e;obtain⟨b,f,g⟩:=d.first
 obtain⟨n,_,i⟩:=g.far;exact (h.don b (h.lev b n i (.inl rfl)) (by simp) t f).2 rfl
end
