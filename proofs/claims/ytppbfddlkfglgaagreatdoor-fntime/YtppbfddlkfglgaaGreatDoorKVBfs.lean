import Derived.Deep.MidRow
import Derived.Deep.OwnRows
import Derived.Test.YtppbfddlkfglgaaGreatDoorProg
import Derived.WalkSpells
import Derived.WalkLawsBesides
set_option maxRecDepth 100000
set_option maxHeartbeats 25600000
namespace Go.Proofs.YtppbfddlkfglgaaGreatDoor
open Go.RowKit Go.Proofs.Tryz
abbrev _root_.Go.Value.b(x:Int):Value:=.int .i64 x
abbrev J6:Value:=.slice none 0 0
abbrev _root_.Go.Value.c(b n c:Nat):Value:=.slice (some ⟨b,0,none⟩) n c
abbrev _root_.Go.Value.h(b:Nat):Value:=.pointer (some ⟨b,0,none⟩)
theorem A7{p:Prop}(h:p:=by omega):p:=h
theorem A8{p:Prop}(h:p:=by decide):p:=h
theorem A9{p:Prop}(h:p:=by simp):p:=h
theorem C8{p:Prop}(h:p:=by go_num):p:=h
theorem C9{p:Prop}(h:p:=by kernel_rfl):p:=h
theorem D6{p:Prop}(h:p:=by (unfold maxLen;omega)):p:=h
theorem D7{p:Prop}(h:p:=by (simp;omega)):p:=h
theorem D8{p:Prop}(h:p:=by rfl):p:=h
theorem D9{p:Prop}(h:p:=by (simp <;> omega)):p:=h
theorem E5{p:Prop}(h:p:=by (simp[Act.eval])):p:=h
theorem E9{p:Prop}(h:p:=by (simp[IntKind.wrap,IntKind.bits,IntKind.signed];omega)):p:=h
theorem F8{p:Prop}(h:p:=by (show (-1000:Int)<=0;omega)):p:=h
theorem F9{p:Prop}(h:p:=by (show (0:Int)<=1000;omega)):p:=h
theorem G6{p:Prop}(h:p:=by (simp[Value.oneCell'])):p:=h
theorem G7{p:Prop}(h:p:=by assumption):p:=h
theorem G9{p:Prop}(h:p:=by (rw[Int.tmod_eq_emod_of_nonneg (by omega)];omega)):p:=h
theorem H7{p:Prop}(h:p:=by (simp[List.getD])):p:=h
theorem I4{p:Prop}(h:p:=by (show _<=_;omega)):p:=h
theorem I5{p:Prop}(h:p:=by (show _<=_;unfold maxLen;omega)):p:=h
theorem I6{p:Prop}(h:p:=by (unfold maxLen;simp;omega)):p:=h
theorem I8{p:Prop}(h:p:=by (rw[IntKind.wrap_i64];omega)):p:=h
theorem I9{p:Prop}(h:p:=by (rw[List.length_drop];omega)):p:=h
theorem J2{p:Prop}(h:p:=by (show (-1000:Int)<=0/\(0:Int)<=1000;decide)):p:=h
theorem J5{p:Prop}(h:p:=by (rw[Int.tdiv_eq_ediv_of_nonneg (by omega)];omega)):p:=h
abbrev QV:=ByteArray
abbrev QW:=Option Addr
abbrev QX:=World
abbrev QY:=Value
theorem Pw:type_of% @Nat.le_refl:=@Nat.le_refl
theorem Px:type_of% @Nat.lt_of_lt_of_le:=@Nat.lt_of_lt_of_le
theorem Py:type_of% @Nat.zero_le:=@Nat.zero_le
theorem Pz:type_of% @Nat.le_trans:=@Nat.le_trans
theorem PD:type_of% @World.rangeAt_setCells_same:=@World.rangeAt_setCells_same
theorem PE:type_of% @List.getElem?_eq_getElem:=@List.getElem?_eq_getElem
theorem PG:type_of% @List.getElem?_eq_some_iff:=@List.getElem?_eq_some_iff
theorem PH:type_of% @List.take_succ_eq_append_getElem:=@List.take_succ_eq_append_getElem
theorem PI:type_of% @List.mem_singleton:=@List.mem_singleton
theorem PK:type_of% @List.mem_append:=@List.mem_append
theorem PL:type_of% @List.getElem_mem:=@List.getElem_mem
theorem PM:type_of% @List.pairwise_iff_getElem:=@List.pairwise_iff_getElem
theorem PN:type_of% @List.getElem_of_mem:=@List.getElem_of_mem
theorem PO:type_of% @World.cell?_of_block:=@World.cell?_of_block
theorem PP:type_of% @List.mem_of_getElem?:=@List.mem_of_getElem?
theorem PQ:type_of% @List.length_eq_zero_iff:=@List.length_eq_zero_iff
theorem PR:type_of% @World.rangeAt_setCells_apart:=@World.rangeAt_setCells_apart
theorem PS:type_of% @List.mem_cons_of_mem:=@List.mem_cons_of_mem
theorem PT:type_of% @List.getElem?_set_ne:=@List.getElem?_set_ne
theorem PU:type_of% @World.cell?_setCell_other:=@World.cell?_setCell_other
theorem PV:type_of% @Option.isSome_iff_exists:=@Option.isSome_iff_exists
theorem PW:type_of% @List.length_take:=@List.length_take
theorem PX:type_of% @List.mem_map:=@List.mem_map
theorem PY:type_of% @Nat.le_of_eq:=@Nat.le_of_eq
theorem PZ:type_of% @Nat.lt_succ_self:=@Nat.lt_succ_self
theorem P_:type_of% @List.pairwise_append:=@List.pairwise_append
theorem Qa:type_of% @World.ownsRow_made:=@World.ownsRow_made
theorem Qb:type_of% @Nat.zero_add:=@Nat.zero_add
theorem Qc:type_of% @List.take_length:=@List.take_length
theorem Qd:type_of% @List.take_of_length_le:=@List.take_of_length_le
theorem Qe:type_of% @Option.mem_toList:=@Option.mem_toList
theorem Qf:type_of% @List.getElem_take:=@List.getElem_take
theorem Qg:type_of% @Array.getElem?_eq_some_iff:=@Array.getElem?_eq_some_iff
theorem Qh:type_of% @World.size_alloc:=@World.size_alloc
theorem Qi:type_of% @List.length_append:=@List.length_append
theorem Ql:type_of% @Option.some.injEq:=@Option.some.injEq
theorem Qm:type_of% @Value.slice.injEq:=@Value.slice.injEq
theorem Qn:type_of% @List.length_cons:=@List.length_cons
theorem Qo:type_of% @Addr.add_mid:=@Addr.add_mid
theorem Qp:type_of% @Nat.add_zero:=@Nat.add_zero
theorem Qr:type_of% @List.mem_cons:=@List.mem_cons
theorem Qs:type_of% @List.not_mem_nil:=@List.not_mem_nil
theorem Qt:type_of% @World.ownsRow_nil:=@World.ownsRow_nil
theorem Qu:type_of% @List.mem_map_of_mem:=@List.mem_map_of_mem
theorem Qv:type_of% @Option.some.inj:=@Option.some.inj
theorem Qw:type_of% @List.set_cons_succ:=@List.set_cons_succ
theorem Qx:type_of% @List.getElem?_append_left:=@List.getElem?_append_left
theorem Qy:type_of% @List.getElem?_append_right:=@List.getElem?_append_right
theorem QA:type_of% @List.getElem?_cons_zero:=@List.getElem?_cons_zero
theorem QB:type_of% @List.take_append_drop:=@List.take_append_drop
theorem QC:type_of% @World.cell?_setCell_same:=@World.cell?_setCell_same
theorem QD:type_of% @List.length_map:=@List.length_map
theorem QE:type_of% @List.length_set:=@List.length_set
theorem QF:type_of% @List.getElem?_set_self:=@List.getElem?_set_self
theorem QG:type_of% @List.drop_eq_getElem_cons:=@List.drop_eq_getElem_cons
theorem QH:type_of% @Nat.lt_trichotomy:=@Nat.lt_trichotomy
theorem QI:type_of% @if_pos:=@if_pos
theorem QJ:type_of% @if_neg:=@if_neg
theorem QK{a b:Prop}(h:a)(g:¬a):b:=_root_.absurd h g
theorem QL:type_of% @Option.getD_some:=@Option.getD_some
theorem QM:type_of% @List.map_append:=@List.map_append
theorem QN:type_of% @decide_eq_false_iff_not:=@decide_eq_false_iff_not
theorem QO:type_of% @List.eq_nil_of_length_eq_zero:=@List.eq_nil_of_length_eq_zero
theorem QP:type_of% @decide_eq_true_eq:=@decide_eq_true_eq
theorem QQ:type_of% @List.length_singleton:=@List.length_singleton
theorem QR:type_of% @List.pairwise_cons:=@List.pairwise_cons
theorem QS:type_of% @Addr.mk.injEq:=@Addr.mk.injEq
theorem QT:type_of% @List.getElem?_toArray:=@List.getElem?_toArray
theorem QU:type_of% @List.getElem_set:=@List.getElem_set
variable {p:Prop}
theorem Kz(h:p):Hid p:=h
theorem bE(h:Hid p):p:=h
theorem _root_.Go.RowKit.Hid.o(h:Hid p):p:=h
variable {q:Prop}
theorem aJ(a:p)(b:q):Hid p/\Hid q:=⟨a,b⟩
theorem dC{r:Prop}(a:p)(b:q)(c:r):Hid p/\Hid q/\Hid r:=⟨a,b,c⟩
theorem qH{r s:Prop}(a:p)(b:q)(c:r)(d:s):Hid p/\Hid q/\Hid r/\Hid s:=⟨a,b,c,d⟩
theorem fQ{r s t:Prop}(a:p)(b:q)(c:r)(d:s)(e:t):Hid p/\Hid q/\Hid r/\Hid s/\Hid t:=⟨a,b,c,d,e⟩
theorem aj{α:Sort _}(a:α):∃x,x=a:=⟨_,rfl⟩
structure bQ where
 text:QV
 goto:Int
structure Xq where
 asks:List QV
 on:Int
 cases:List bQ
 els:Int
 fall:Int
 fin:Bool
 bad:Bool
 give:QV
structure gu where
 cost:Int
 steps:List Xq
def bQ.zero :bQ:=⟨ByteArray.empty,0⟩
def Xq.zero :Xq:=⟨[],0,[],0,0,false,false,ByteArray.empty⟩
def In64(n:Int):Prop:= -9223372036854775808<=n/\n<=9223372036854775807
def Strs(w:QX)(a:QW)(l:List QV):Prop:=
 ∀i,i<l.length->∃b o,a=some ⟨b,o,none⟩/\b<w.heap.size/\w.cell? ⟨b,o+i,none⟩=some (.string (l.getD i ByteArray.empty))
def K_(w w':QX):Prop:=Below w.heap.size w w'
theorem K_.refl(w:QX):K_ w w:=Below.refl _ _
variable {a:QX}
theorem K_.trans{b c:QX}(h:K_ a b)(k:K_ b c):K_ a c:=
 Below.trans h (Below.mono k h.size)
theorem K_.drewN{b:QX}(h:K_ a b)(n:Nat):K_ a (b.drewN n):=⟨h.os,h.tape,h.output,h.size,h.block⟩
theorem K_.drew{b:QX}(h:K_ a b):K_ a b.drew:=Below.drew h
theorem K_.alloc{b:QX}(h:K_ a b)(o:Obj):K_ a (b.alloc o):=Below.alloc h h.size o
theorem ai(w:QX)(o:Obj):K_ w (w.alloc o):=K_.alloc (K_.refl w) o
theorem a_(w:QX):K_ w w.drew:=K_.drew (K_.refl w)
variable {n:Nat}
theorem aS(h:n<0):p:=(Nat.not_lt_zero n h).elim
theorem K_.setCell{b:QX}(h:K_ a b){p:Addr}(d:a.heap.size<=p.block)(v:QY):K_ a (b.setCell p v):=Below.setCell h d v
theorem K_.setCells{g:Nat}(c:a.heap.size<=g):∀(vs:List QY)(o:Nat){b:QX},K_ a b->K_ a (b.setCells g o vs)
 |[],_,_,h=>h
 |v :: r,o,_,h=>by
  rw[World.setCells];exact K_.setCells c r (o+1) (K_.setCell h c v)
variable {b:Nat}{w w':QX}
theorem K_.cell(h:K_ w w'){o:Nat}(c:b<w.heap.size):w'.cell? ⟨b,o,none⟩=w.cell? ⟨b,o,none⟩:=
 Below.cell h (p:=⟨b,o,none⟩) c
theorem K_.rules{W w1:QX}(c:K_ W w1):(∀b o,b<W.heap.size->w1.cell? ⟨b,o,none⟩=W.cell? ⟨b,o,none⟩)/\(∀b o,b<W.heap.size->w1.frozen? ⟨b,o,none⟩=W.frozen? ⟨b,o,none⟩):=
 ⟨λb o h=>Below.cell c (p:=⟨b,o,none⟩) h,λb o h=>Below.frozen c (p:=⟨b,o,none⟩) h⟩
theorem K_.size(h:K_ w w'):w.heap.size<=w'.heap.size:=Below.size h
variable {l:List QV}
theorem Strs.kept{a:QW}(h:Strs w a l)(k:K_ w w'):Strs w' a l:=by
 intro i c;obtain⟨d,o,e,b,f⟩:=h i c;exact⟨d,o,e,Px b k.size,by rw[k.cell b,f]⟩
variable {cs:List QY}
theorem K_.range(h:K_ w w'){o:Nat}(a:b<w.heap.size)(c:w.rangeAt b o cs):w'.rangeAt b o cs:=
 λj v d=>by rw[h.cell a];exact c j v d
theorem size_setCell(w:QX)(p:Addr)(v:QY):(w.setCell p v).heap.size=w.heap.size:=by simp[World.setCell]
def Row(w:QX)(b n:Nat):Prop:=∃t f,w.rowIs b t n f
theorem Row.lt(h:Row w b n):b<w.heap.size:=let ⟨_,_,h⟩:=h;h.lt
theorem Row.there(h:Row w b n){o m:Nat}(a:o+m<=n):w.there b o m:=by
 obtain⟨t,f,h⟩:=h;intro j c;exact⟨by rw[h.cell A7];rfl,h.frozen _⟩
theorem Row.kept(h:Row w b n)(k:K_ w w'):Row w' b n:=by
 have c:=h.lt;obtain⟨t,f,h⟩:=h;exact⟨t,f,h.of_block (k.block b c)⟩
theorem Row.set(h:Row w b n)(p:Addr)(a:p.spot=none)(v:QY):Row (w.setCell p v) b n:=by
 obtain⟨t,f,h⟩:=h;by_cases e:b=p.block
 .subst e;obtain⟨d,c,i⟩:=p;subst a;exact⟨t,_,h.set c v⟩
 .exact⟨t,f,h.setOther e v⟩
theorem Row.setCells{g:Nat}:∀(vs:List QY)(o:Nat){w:QX},Row w b n->Row (w.setCells g o vs) b n
 |[],_,_,h=>h
 |v :: r,o,_,h=>by
  rw[World.setCells];exact Row.setCells r (o+1) (h.set ⟨g,o,none⟩ rfl v)
theorem Row.made(w:QX)(c:Array QY)(t:TypeId):Row (w.alloc (.cells c t)) w.heap.size c.size:=
 ⟨t,λi=>c.getD i undef,World.rowIs_alloc w c t _ λi b=>by simp[Array.getD,b]⟩
theorem Row.alloc(h:Row w b n)(o:Obj):Row (w.alloc o) b n:=by
 obtain⟨t,f,h⟩:=h;exact⟨t,f,h.alloc o⟩
theorem Zx{P:Program}{e:Func}{R:Ending->QX->Prop}{a:Act}{p:Tmp}{c:TypeId}(cs:List QY)(d:TypeDesc)(h:e.results= #[.cell p c])(f:a.tmps.getD p undef=.h b)(i:w.rangeAt b 0 cs)(j:P.underlying c=some d)(k:d.isRow=true)(hi:(P.info? c).map (·.size)=some cs.length)(l:a.defers=[])(m:R (.returned (.agg cs.toArray)) w):bodyPost P e R .ret a w:=by
 refine bodyPost_ret ?_ l m;have n:a.tmps[p]?.getD undef=.h b:=by simpa using f
 simp only[results,h];simp[n,asAddr,run_loadVar_mid w b 0 c cs d i j k hi]
theorem rT{P:Program}(t e:TypeId)(z:QY)(size b:Nat)(j:P.underlying t=some (.slice e))(k:(P.info? e).map (λi=>(i.zero,i.size,i.bytes))=some (some z,size,b))(c d:IntKind)(n:Nat)(v:b*n<=281474976710656)(x:n<=9223372036854775807)(w:QX):
  (Instr.makeSlice t (.int c (n:Int)) (.int d (n:Int))).run P w=.ok (.c w.heap.size n n) (w.alloc (.cells (madeCells z.cells (n*size)) e)):=by
 obtain⟨i,l,f⟩:=Option.map_eq_some_iff.1 k;simp only[Prod.mk.injEq] at f;obtain⟨m,p,q⟩:=f;have r:(i.bytes:Int)*(n:Int)<=281474976710656:=by
  have s:((i.bytes*n:Nat):Int)<=281474976710656:=by rw[q];omega
  rwa [Int.natCast_mul] at s
 have h:=run_make (P:=P) w t e i z j l m c d n n A7 (Int.le_refl _) r A7;simp only[Int.toNat_natCast,p] at h;exact h
def bQ.cells(c:bQ):List QY:=[.string c.text,.b c.goto]
def lK(w:QX)(a:QW)(l:List bQ):Prop:=
 ∀i,i<l.length->∃b o,a=some ⟨b,o,none⟩/\b<w.heap.size/\w.rangeAt b (o+i*2) (l.getD i bQ.zero).cells
theorem lK.kept{a:QW}{l:List bQ}(h:lK w a l)(k:K_ w w'):lK w' a l:=by
 intro i c;obtain⟨d,o,e,b,f⟩:=h i c;exact⟨d,o,e,Px b k.size,k.range b f⟩
def Xq.cells(s:Xq)(aa:QW)(ca:Nat)(ac:QW)(cc:Nat):List QY:=
 [.slice aa s.asks.length ca,.b s.on,.slice ac s.cases.length cc,.b s.els,.b s.fall,.bool s.fin,.bool s.bad,.string s.give]
theorem Xq.one(s:Xq)(a:QW)(b:Nat)(c:QW)(d:Nat):(s.cells a b c d).toArray.all (·.oneCell')=true:=
 all_oneCell_toArray (by simp[Xq.cells,Value.oneCell'])
def Ck(w:QX)(cs:List QY)(s:Xq):Prop:=
 ∃aa ca ac cc,cs=s.cells aa ca ac cc/\Strs w aa s.asks/\lK w ac s.cases/\s.asks.length<=ca
theorem Ck.kept{s:Xq}(h:Ck w cs s)(k:K_ w w'):Ck w' cs s:=by
 obtain⟨a,b,c,d,e,f,i,j⟩:=h;exact⟨a,b,c,d,e,f.kept k,i.kept k,j⟩
def Steps(w:QX)(a:QW)(l:List Xq):Prop:=
 ∀i,i<l.length->∃b o cs,a=some ⟨b,o,none⟩/\b<w.heap.size/\w.rangeAt b (o+i*8) cs/\Ck w cs (l.getD i Xq.zero)
theorem Steps.kept{a:QW}{l:List Xq}(h:Steps w a l)(k:K_ w w'):Steps w' a l:=by
 intro i c;obtain⟨d,o,e,f,b,j,m⟩:=h i c;exact⟨d,o,e,f,Px b k.size,k.range b j,m.kept k⟩
structure Xq.Fits (s:Xq):Prop where
 asks:s.asks.length<=maxLen
 fA:∀x∈s.asks,x.size<=maxLen
 on:In64 s.on
 cases:s.cases.length<=maxLen
 dK:∀c∈s.cases,c.text.size<=maxLen/\In64 c.goto
 els:In64 s.els
 fall:In64 s.fall
 give:s.give.size<=maxLen
theorem Cs{k:IntKind}{a b:Int}(h:a=b):Ending.returned (.int k a)=.returned (.int k b):=by rw[h]
def sumTo{α:Type}(f:α->Nat)(l:List α)(k:Nat):Nat:=((l.take k).map f).sum
theorem E_{α:Type}(f:α->Nat)(l:List α):sumTo f l 0=0:=by simp[sumTo]
theorem FJ{α:Type}(f:α->Nat)(l:List α)(d:α)(k:Nat)(h:k<l.length):sumTo f l (k+1)=sumTo f l k+f (l.getD k d):=by
 unfold sumTo;rw[PH h,QM,List.sum_append];simp[List.getD,h]
theorem JG{α:Type}(f:α->Nat)(l:List α):sumTo f l l.length= (l.map f).sum:=by simp[sumTo]
theorem sumTo_le{α:Type}(f:α->Nat)(l:List α)(k:Nat):sumTo f l k<=(l.map f).sum:=by
 have e:(l.map f).sum= ((l.take k).map f).sum+((l.drop k).map f).sum:=by rw[<-List.sum_append,<-QM,QB]
 unfold sumTo;omega
structure Xj (lo hi:Nat)(w w':QX):Prop where
 os:w'.os=w.os
 tape:w'.tape=w.tape
 output:w'.output=w.output
 size:w.heap.size<=w'.heap.size
 block:∀k,k<w.heap.size->(k<lo\/hi<=k)->w'.heap[k]? =w.heap[k]?
variable {hi lo:Nat}
theorem Xj.ak(h:K_ w w'):Xj lo hi w w':=⟨h.os,h.tape,h.output,h.size,λk c _=>h.block k c⟩
theorem Xj.refl(lo hi:Nat)(w:QX):Xj lo hi w w:=.ak (K_.refl w)
theorem Xj.trans{b c:QX}(h:Xj lo hi a b)(k:Xj lo hi b c):Xj lo hi a c:=
 ⟨k.os.trans h.os,k.tape.trans h.tape,k.output.trans h.output,Pz h.size k.size,λi d e=>(k.block i (Px d h.size) e).trans (h.block i d e)⟩
theorem Xj.drew{b:QX}(h:Xj lo hi a b):Xj lo hi a b.drew:=⟨h.os,h.tape,h.output,h.size,h.block⟩
theorem Xj.drewN{b:QX}(h:Xj lo hi a b)(n:Nat):Xj lo hi a (b.drewN n):=⟨h.os,h.tape,h.output,h.size,h.block⟩
theorem Xj.alloc{b:QX}(h:Xj lo hi a b)(o:Obj):Xj lo hi a (b.alloc o):=h.trans (.ak ((K_.refl b).alloc o))
theorem Xj.setCell{b:QX}(h:Xj lo hi a b){p:Addr}(e:lo<=p.block)(h2:p.block<hi)(v:QY):Xj lo hi a (b.setCell p v):=
 ⟨h.os,h.tape,h.output,by rw[size_setCell];exact h.size,λk c d=>by rw[Below.heap_setCell _ _ _ _ A7];exact h.block k c d⟩
theorem Xj.kept{b:QX}(h:Xj lo hi a b)(c:K_ w a)(e:w.heap.size<=lo):K_ w b:=
 ⟨h.os.trans c.os,h.tape.trans c.tape,h.output.trans c.output,Pz c.size h.size,λk d=>(h.block k (Px d c.size) A7).trans (c.block k d)⟩
def Same(lo hi:Nat)(w w':QX):Prop:=∀b,lo<=b->b<hi->b<w.heap.size->w'.heap[b]? =w.heap[b]?
theorem Same.mono{a b:Nat}(h:Same lo hi w w')(e:lo<=a)(h2:b<=hi):Same a b w w':=λc f i d=>h c A7 A7 d
theorem K_.same(h:K_ w w')(lo hi:Nat):Same lo hi w w':=λb _ _ c=>h.block b c
theorem Xj.same(h:Xj lo hi w w'){l2 h2:Nat}(d:h2<=lo\/hi<=l2):Same l2 h2 w w':=λb _ _ c=>h.block b c A7
theorem Same.setCell(w:QX){p:Addr}(a:p.block<lo\/hi<=p.block)(v:QY):Same lo hi w (w.setCell p v):=λb _ _ _=>Below.heap_setCell _ _ _ _ A7
theorem Same.cell(h:Same lo hi w w'){o:Nat}(c:lo<=b)(h2:b<hi)(d:b<w.heap.size):w'.cell? ⟨b,o,none⟩=w.cell? ⟨b,o,none⟩:=PO (w:=w) (h b c h2 d)
theorem Same.row(h:Same lo hi w w')(d:lo<=b)(h2:b<hi)(a:Row w b n):Row w' b n:=by
 have e:=a.lt;obtain⟨t,f,a⟩:=a;exact⟨t,f,a.of_block (h b d h2 e)⟩
theorem Same.range(h:Same lo hi w w'){o:Nat}(c:lo<=b)(h2:b<hi)(d:b<w.heap.size)(e:w.rangeAt b o cs):w'.rangeAt b o cs:=
 λj v i=>by rw[h.cell c h2 d];exact e j v i
def iM(w:QX)(lo hi:Nat)(a:QW)(l:List QV):Prop:=
 l=[]\/∃b,a=some ⟨b,0,none⟩/\lo<=b/\b<hi/\Row w b l.length/\∀i,i<l.length->w.cell? ⟨b,i,none⟩=some (.string (l.getD i ByteArray.empty))
theorem iM.same{a:QW}(h:iM w lo hi a l)(k:Same lo hi w w'):iM w' lo hi a l:=by
 rcases h with h|⟨b,f,c,d,e,i⟩
 .exact .inl h
 .exact .inr ⟨b,f,c,d,k.row c d e,λj hi=>by rw[k.cell c d e.lt];exact i j hi⟩
theorem iM.mono{c d:Nat}{a:QW}(h:iM w lo hi a l)(j:c<=lo)(h2:hi<=d):iM w c d a l:=by
 rcases h with h|⟨b,e,k,m,f,i⟩
 .exact .inl h
 .exact .inr ⟨b,e,A7,A7,f,i⟩
theorem Row.at{i:Nat}(h:Row w b n)(hi:i<n):(∃v,w.cell? ⟨b,i,none⟩=some v)/\w.frozen? ⟨b,i,none⟩=false:=by
 obtain⟨t,f,h⟩:=h;exact⟨⟨_,h.cell hi⟩,h.frozen i⟩
theorem Row.GR{m:Nat}(h:Row w b m)(c:5<=m:=by omega):((∃v,w.cell? ⟨b,0,none⟩=some v)/\w.frozen? ⟨b,0,none⟩=false)/\((∃v,w.cell? ⟨b,1,none⟩=some v)/\w.frozen? ⟨b,1,none⟩=false)/\((∃v,w.cell? ⟨b,2,none⟩=some v)/\w.frozen? ⟨b,2,none⟩=false)/\((∃v,w.cell? ⟨b,3,none⟩=some v)/\w.frozen? ⟨b,3,none⟩=false)/\(∃v,w.cell? ⟨b,4,none⟩=some v)/\w.frozen? ⟨b,4,none⟩=false:=⟨h.at A7,h.at A7,h.at A7,h.at A7,h.at A7⟩
theorem Row.all7{m:Nat}(h:Row w b m)(c:7<=m:=by omega):((∃v,w.cell? ⟨b,0,none⟩=some v)/\w.frozen? ⟨b,0,none⟩=false)/\((∃v,w.cell? ⟨b,1,none⟩=some v)/\w.frozen? ⟨b,1,none⟩=false)/\((∃v,w.cell? ⟨b,2,none⟩=some v)/\w.frozen? ⟨b,2,none⟩=false)/\((∃v,w.cell? ⟨b,3,none⟩=some v)/\w.frozen? ⟨b,3,none⟩=false)/\((∃v,w.cell? ⟨b,4,none⟩=some v)/\w.frozen? ⟨b,4,none⟩=false)/\((∃v,w.cell? ⟨b,5,none⟩=some v)/\w.frozen? ⟨b,5,none⟩=false)/\(∃v,w.cell? ⟨b,6,none⟩=some v)/\w.frozen? ⟨b,6,none⟩=false:=⟨h.at A7,h.at A7,h.at A7,h.at A7,h.at A7,h.at A7,h.at A7⟩
theorem Row.Nz{m:Nat}(h:Row w b m)(c:9<=m:=by omega):((∃v,w.cell? ⟨b,0,none⟩=some v)/\w.frozen? ⟨b,0,none⟩=false)/\((∃v,w.cell? ⟨b,1,none⟩=some v)/\w.frozen? ⟨b,1,none⟩=false)/\((∃v,w.cell? ⟨b,2,none⟩=some v)/\w.frozen? ⟨b,2,none⟩=false)/\((∃v,w.cell? ⟨b,3,none⟩=some v)/\w.frozen? ⟨b,3,none⟩=false)/\((∃v,w.cell? ⟨b,4,none⟩=some v)/\w.frozen? ⟨b,4,none⟩=false)/\((∃v,w.cell? ⟨b,5,none⟩=some v)/\w.frozen? ⟨b,5,none⟩=false)/\((∃v,w.cell? ⟨b,6,none⟩=some v)/\w.frozen? ⟨b,6,none⟩=false)/\((∃v,w.cell? ⟨b,7,none⟩=some v)/\w.frozen? ⟨b,7,none⟩=false)/\(∃v,w.cell? ⟨b,8,none⟩=some v)/\w.frozen? ⟨b,8,none⟩=false:=⟨h.at A7,h.at A7,h.at A7,h.at A7,h.at A7,h.at A7,h.at A7,h.at A7,h.at A7⟩
theorem bB{o:Nat}(h:Row w b n)(c:o<n)(v:QY):(w.setCell ⟨b,o,none⟩ v).cell? ⟨b,o,none⟩=some v:=by
 obtain⟨⟨old,d⟩,_⟩:=h.at c;exact QC _ _ _ d
theorem Xk{o p:Nat}(a:o≠p)(v:QY):(w.setCell ⟨b,o,none⟩ v).cell? ⟨b,p,none⟩=w.cell? ⟨b,p,none⟩:=
 PU _ _ _ _ D9
variable {xs:List QY}{base:Nat}{e:TypeId}{v:QY}
theorem ay{size:Nat}(h:w.ownsRow base e size v n xs)(k:K_ w w'):w'.ownsRow base e size v n xs:=
 h.kept (row:=none) ⟨k.os,k.tape,k.output,k.size,λi c _=>k.block i c⟩ (by cases v.ownBlock<;>simp)
theorem eQ{size:Nat}(h:w.ownsRow base e size v n xs){p:Addr}(i:p.block<base)(u:QY):(w.setCell p u).ownsRow base e size v n xs:=by
 refine⟨h.1,?_⟩;rcases h.2 with a|⟨g,b,c,rfl,d,f,rest⟩
 .exact .inl a
 .exact .inr ⟨g,b,c,rfl,d,by rw[Below.heap_setCell _ _ _ _ A7];exact f,rest⟩
theorem aL{a:QX}{size:Nat}(k:K_ a w)(b:a.heap.size<=base)(h:w.ownsRow base e size v n xs)(g:w.grownBy w' v.ownBlock):K_ a w':=
 Below.grown k g k.size λd f=>Pz b (h.lt d f).1
theorem gX{base' size:Nat}(h:w.ownsRow base e size v n xs)(a:base'<=base):w.ownsRow base' e size v n xs:=by
 refine⟨h.1,?_⟩;rcases h.2 with b|⟨g,c,d,rfl,f,rest⟩
 .exact .inl b
 .exact .inr ⟨g,c,d,rfl,Pz a f,rest⟩
def aB(t:TypeId)(w w':QX):Prop:=∀(b:Nat)(cur:Array QY)(u:TypeId)(fr:Nat×Nat),u≠t->w.heap[b]? =some (Obj.cells cur u fr)->w'.heap[b]? =some (Obj.cells cur u fr)
theorem aP{o:Obj}(h:w.heap[b]? =some o):b<w.heap.size:=(Qg.1 h).1
theorem aB.refl(t:TypeId)(w:QX):aB t w w:=λ_ _ _ _ _ h=>h
variable {t:TypeId}
theorem aB.trans{b c:QX}(i:aB t a b)(k:aB t b c):aB t a c:=λx e u f h j=>k x e u f h (i x e u f h j)
theorem aB.ak(h:K_ w w'):aB t w w':=λb d u e _ a=>by rw[h.block b (aP a)];exact a
theorem aB.aI{size:Nat}(h:w.ownsRow base t size v n xs)(g:w.grownBy w' v.ownBlock):aB t w w':=by
 intro b f u i d a;rw[g.block b (aP a) ?_]
 .exact a
 .intro e;rcases h.2 with⟨rfl,_⟩|⟨j,k,l,rfl,_,c,_⟩
  .simp[Value.ownBlock] at e
  .simp only[Value.ownBlock,Ql] at e;subst e;rw[a] at c;simp only[Ql,Obj.cells.injEq] at c;exact d c.2.1
theorem aB.setCell{p:Addr}{b:Array QY}{c:Nat×Nat}(h:w.heap[p.block]? =some (Obj.cells b t c))(v:QY):aB t w (w.setCell p v):=by
 intro f i u j d a;rw[Below.heap_setCell _ _ _ _ ?_]
 .exact a
 .intro e;rw[e,h] at a;simp only[Ql,Obj.cells.injEq] at a;exact d a.2.1.symm
def aH(w:QX)(b:Nat)(t:TypeId)(n:Nat):Prop:=∃cur:Array QY,w.heap[b]? =some (Obj.cells cur t (0,0))/\cur.size=n
theorem aH.row(h:aH w b t n):Row w b n:=by
 obtain⟨a,d,c⟩:=h;exact⟨t,λi=>a.getD i undef,a,d,c,λi e=>by simp[Array.getD,c,e]⟩
theorem aH.made(w:QX)(c:Array QY)(t:TypeId):aH (w.alloc (.cells c t)) w.heap.size t c.size:=⟨c,heap_alloc_new w _,rfl⟩
theorem aH.block(h:aH w b t n)(k:w'.heap[b]? =w.heap[b]?):aH w' b t n:=by
 obtain⟨c,d,e⟩:=h;exact⟨c,k.trans d,e⟩
theorem aH.lt(h:aH w b t n):b<w.heap.size:=let ⟨_,h1,_⟩:=h;aP h1
theorem aH.kept(h:aH w b t n)(k:K_ w w'):aH w' b t n:=h.block (k.block b h.lt)
theorem aH.set{o:Nat}(h:aH w b t n)(v:QY):aH (w.setCell ⟨b,o,none⟩ v) b t n:=by
 obtain⟨d,c,e⟩:=h;obtain⟨f,k,i,a,j,_⟩:=(aH.row ⟨d,c,e⟩).set ⟨b,o,none⟩ rfl v;have:f=t:=by
  simp only[World.setCell] at a;simp[Array.getElem?_modify,c] at a;exact a.2.symm
 subst this;exact⟨i,a,j⟩
theorem aH.same{o:Nat}(h:aH w b t n)(v:QY):aB t w (w.setCell ⟨b,o,none⟩ v):=by
 obtain⟨d,c,_⟩:=h;exact aB.setCell (p:=⟨b,o,none⟩) c v
def eY(w:QX)(t:TypeId)(a:QW)(l:List QV):Prop:=
 l=[]\/∃b cur fr,a=some ⟨b,0,none⟩/\w.heap[b]? =some (Obj.cells cur t fr)/\∀i,i<l.length->w.cell? ⟨b,i,none⟩=some (.string (l.getD i ByteArray.empty))
def qi(w:QX)(t:TypeId)(a:QW)(l:List bQ):Prop:=
 l=[]\/∃b cur fr,a=some ⟨b,0,none⟩/\w.heap[b]? =some (Obj.cells cur t fr)/\∀i,i<l.length->w.rangeAt b (i*2) (l.getD i bQ.zero).cells
variable {u:TypeId}
theorem eY.same{a:QW}(h:eY w t a l)(k:aB u w w')(i:t≠u):eY w' t a l:=by
 rcases h with h|⟨b,c,d,j,e,m⟩
 .exact .inl h
 .have f:=k b c t d i e;exact .inr ⟨b,c,d,j,f,λn p=>by rw[PO (w:=w) (f.trans e.symm)];exact m n p⟩
theorem eY.strs{a:QW}(h:eY w t a l):Strs w a l:=by
 rcases h with rfl|⟨c,j,k,d,e,f⟩
 .intro i b;simp at b
 .exact λi b=>⟨c,0,d,aP e,by rw[Qb];exact f i b⟩
theorem qi.same{a:QW}{l:List bQ}(h:qi w t a l)(k:aB u w w')(i:t≠u):qi w' t a l:=by
 rcases h with h|⟨b,c,d,j,e,m⟩
 .exact .inl h
 .have f:=k b c t d i e;exact .inr ⟨b,c,d,j,f,λn p q v r=>by rw[PO (w:=w) (f.trans e.symm)];exact m n p q v r⟩
theorem qi.cases{a:QW}{l:List bQ}(h:qi w t a l):lK w a l:=by
 rcases h with rfl|⟨c,j,k,d,e,f⟩
 .intro i b;simp at b
 .exact λi b=>⟨c,0,d,aP e,by rw[Qb];exact f i b⟩
def mU(w:QX)(ts tc:TypeId)(cs:List QY)(s:Xq):Prop:=∃aa ca ac cc,cs=s.cells aa ca ac cc/\eY w ts aa s.asks/\qi w tc ac s.cases/\s.asks.length<=ca
theorem mU.same{ts a:TypeId}{s:Xq}(h:mU w ts a cs s)(k:aB u w w')(b:ts≠u)(h2:a≠u):mU w' ts a cs s:=by
 obtain⟨c,d,e,f,i,j,l,m⟩:=h;exact⟨c,d,e,f,i,j.same k b,l.same k h2,m⟩
def fO(w:QX)(ts tc:TypeId)(xs:List QY)(l:List Xq):Prop:=
 xs.length=l.length*8/\∀i,i<l.length->mU w ts tc ((xs.drop (i*8)).take 8) (l.getD i Xq.zero)
theorem fO.nil(w:QX)(ts a:TypeId):fO w ts a [] []:=⟨rfl,λi b=>by simp at b⟩
theorem fO.same{ts a:TypeId}{l:List Xq}(h:fO w ts a xs l)(k:aB u w w')(c:ts≠u)(h2:a≠u):fO w' ts a xs l:=
 ⟨h.1,λi e=>(h.2 i e).same k c h2⟩
theorem fO.snoc{ts a:TypeId}{l:List Xq}{k:Nat}(p:k<l.length)(h:fO w ts a xs (l.take k))(d:mU w ts a cs (l.getD k Xq.zero)):fO w ts a (xs++cs) (l.take (k+1)):=by
 have m:cs.length=8:=by obtain⟨_,_,_,_,rfl,_⟩:=d;rfl
 have f:(l.take k).length=k:=by rw[PW];omega
 have j:xs.length=k*8:=by rw[h.1,f]
 refine⟨by rw[Qi,PW,j,m,Nat.min_eq_left A7];omega,λi n=>?_⟩;rw[PW] at n;by_cases e:i<k
 .have b:(l.take (k+1)).getD i Xq.zero= (l.take k).getD i Xq.zero:=by simp[List.getD,e,(A7:i<k+1)]
  have c:((xs++cs).drop (i*8)).take 8= (xs.drop (i*8)).take 8:=by
   rw[List.drop_append_of_le_length A7,List.take_append_of_le_length I9]
  rw[b,c];exact h.2 i (by rw[f];exact e)
 .obtain rfl:i=k:=A7;have b:(l.take (i+1)).getD i Xq.zero=l.getD i Xq.zero:=H7;have c:((xs++cs).drop (i*8)).take 8=cs:=by
   rw[<-j,List.drop_left,Qd A7]
  rw[b,c];exact d
theorem aY{size:Nat}(h:w.ownsRow base e size v n xs)(k:aB u w w')(b:e≠u):w'.ownsRow base e size v n xs:=by
 refine⟨h.1,?_⟩;rcases h.2 with c|⟨g,d,a,rfl,f,i,rest⟩
 .exact .inl c
 .exact .inr ⟨g,d,a,rfl,f,k g a e _ b i,rest⟩
theorem aG{size:Nat}(h:w.ownsRow base e size v n xs):∃a cap,v=.slice a n cap:=by
 rcases h.2 with⟨rfl,rfl⟩|⟨g,cap,c,rfl,_⟩
 .exact⟨none,0,rfl⟩
 .exact⟨_,cap,rfl⟩
theorem X_(w:QX)(c:Array QY)(t:TypeId):(w.alloc (.cells c t)).rangeAt w.heap.size 0 c.toList:=λj v a=>by
 rw[Qb,World.cell?_alloc_mark];simpa using a
theorem Xj.below{wr c:QX}(h:Xj lo hi w wr)(b:Below w.heap.size wr c):Xj lo hi w c:=
 ⟨b.os.trans h.os,b.tape.trans h.tape,b.output.trans h.output,Pz h.size b.size,λk e f=>(b.block k e).trans (h.block k e f)⟩
def Says(e:Ending)(p:Prop):Prop:=∃r,e=.returned (.bool r)/\(r=true↔p)
theorem Says.yes(h:p):Says (.returned (.bool true)) p:=⟨true,rfl,by simp[h]⟩
theorem Says.no(h:¬p):Says (.returned (.bool false)) p:=⟨false,rfl,by simp[h]⟩
theorem Says.cases{e:Ending}(h:Says e p):(e=.returned (.bool true)/\p)\/(e=.returned (.bool false)/\¬p):=by
 obtain⟨r,rfl,a⟩:=h;cases r
 .right;exact⟨rfl,λd=>by simpa using a.2 d⟩
 .left;exact⟨rfl,a.1 rfl⟩
theorem Says.dec(p:Prop)[Decidable p]:Says (.returned (.bool (decide p))) p:=⟨decide p,rfl,A9⟩
theorem Says.congr{e:Ending}(h:Says e p)(b:p↔q):Says e q:=by
 obtain⟨r,rfl,d⟩:=h;exact⟨r,rfl,d.trans b⟩
theorem pX{s t:QV}:(t.toList == s.toList)=true↔t=s:=by
 rw[ByteArray.toList_eq,ByteArray.toList_eq];constructor
 .intro h;cases s;cases t;simp at h;simp[h]
 .rintro rfl;simp
theorem tL{s t:QV}(h:(t.toList == s.toList)=false):t≠s:=λe=>by rw[pX.2 e] at h;cases h
theorem uU(s:QV):s.toList=[]↔s.size=0:=by
 rw[ByteArray.toList_eq,<-PQ,Array.length_toList];exact Iff.rfl
def jE(c:UInt8):Prop:=33<=(c.toNat:Int)/\(c.toNat:Int)<=126/\(c.toNat:Int)≠44
def jR(s:QV):Prop:=1<=s.size/\s.size<=20/\(s.toList == [45])=false/\∀i (h:i<s.size),jE s[i]
def t_(l:List QV):Prop:=∀i,i<l.length->jR (l.getD i ByteArray.empty)/\∀j,j<i->l.getD j ByteArray.empty≠l.getD i ByteArray.empty
def CaseOk(n:Int)(c:bQ):Prop:=c.text.size<=200/\0<=c.goto/\c.goto<n
def Et(s:Xq):Prop:=s.asks.length=0/\s.on=0/\s.cases.length=0/\s.els=0/\s.fall=0/\s.give.size<=30
def wX(s:Xq)(n:Int):Prop:=
 s.bad=false/\s.give.size=0/\s.asks.length<=5/\t_ s.asks/\s.cases.length<=5/\(0<=s.els/\s.els<n)/\(-1<=s.fall/\s.fall<n)/\(s.on=0\/(0<=s.on/\s.on<s.asks.length))
def eU(s:Xq)(n:Int)(i:Nat):Prop:=CaseOk n (s.cases.getD i bQ.zero)
def wN(s:Xq)(n:Int):Prop:=∀i,i<s.cases.length->eU s n i
def Ie(s:Xq)(n:Int):Prop:=wX s n/\wN s n
def lQ(s:Xq)(n:Int):Prop:=(s.fin=true->Et s)/\(s.fin=false->Ie s n)
def iF(a:gu):Prop:=(1<=a.cost/\a.cost<=20)/\(1<=a.steps.length/\a.steps.length<=20)/\∀i,i<a.steps.length->lQ (a.steps.getD i Xq.zero) a.steps.length
theorem Ba(w:QX)(s:QV):∃cap C fr,(convert 9 22 (.string s)).run prog w=.ok (.c w.heap.size s.size cap) (w.drew.alloc (.cells C 5 fr))/\
  ∀j (h:j<s.size),(w.alloc (.cells C 5 fr)).cell? ⟨w.heap.size,j,none⟩=some (.int .u8 (s[j].toNat:Int)):=by
 refine⟨_,_,_,run_bytes_of_string (P:=prog) w 9 22 5 s underlying9 underlying22 underlying5,λj h=>?_⟩;rw[World.cell?_alloc_mark];unfold bytesRow;have b:j<s.data.size:=h;rw[Array.getElem?_append_left (by simpa using b)];simp only[Array.getElem?_map,Array.getElem?_eq_getElem b,Option.map_some]
 rfl
theorem oq(w:QX)(s:QV)(m:s.size<=maxLen):
  Calls prog 27 #[.string s] w λe w'=>Says e (jR s)/\w'=w:=by
 unfold maxLen at m;by_cases n:(1:Int)<=s.size
 .by_cases p:(s.size:Int)<=20
  .cases c:(s.toList == [45])
   .go_enter func27,ntmps27
    go_wp2
    go_loop [3] (λi=>∃k:Nat,k<=s.size/\i=.b k/\∀j (h:j<s.size),j<k->jE s[j]) λi=>s.size-(intOf i).toNat
    case atStart=>exact⟨0,Py _,rfl,λj _ a=>aS a⟩
    case round=>
     obtain⟨k,q,rfl,d⟩:=hrel;have f:=Kz d;clear d;by_cases b:k<s.size
     .by_cases r:(s[k].toNat:Int)<33
      .go_wp2
       go_ret
       exact⟨Says.no λh=>by have:=h.2.2.2 k b;unfold jE at this;omega,rfl⟩
      .by_cases t:126<(s[k].toNat:Int)
       .go_wp2
        go_ret
        exact⟨Says.no λh=>by have:=h.2.2.2 k b;unfold jE at this;omega,rfl⟩
       .cases l:((s[k].toNat:Int) == 44)
        .go_wp2
         go_round
         case rel=>
          refine⟨k+1,A7,C8,λj a v=>?_⟩;by_cases e:j=k
          .subst e;exact⟨A7,A7,by simpa using l⟩
          .exact bE f j a A7
         case measure=>simp[intOf];omega
        .go_wp2
         go_ret
         exact⟨Says.no λh=>by have:=h.2.2.2 k b;unfold jE at this;simp at l;omega,rfl⟩
     .go_wp2
      go_ret
      exact⟨Says.yes ⟨A7,A7,c,λj a=>bE f j a A7⟩,rfl⟩
   .go_enter func27,ntmps27
    go_wp2
    go_ret
    exact⟨Says.no λh=>by have:=h.2.2.1;simp[c] at this,rfl⟩
  .go_enter func27,ntmps27
   go_wp2
   go_ret
   exact⟨Says.no λh=>by have:=h.2.1;omega,rfl⟩
 .go_enter func27,ntmps27
  go_wp2
  go_ret
  exact⟨Says.no λh=>by have:=h.1;omega,rfl⟩
theorem ny(w:QX)(s:QV)(n:s.size<=maxLen):
  Calls prog 80 #[.string s] w λe w'=>Says e (jR s)/\K_ w w':=by
 unfold maxLen at n;by_cases r:(1:Int)<=s.size
 .by_cases t:(s.size:Int)<=20
  .cases c:(s.toList == [45])
   .obtain⟨v,C,p,q,d⟩:=Ba w s;go_enter func80,ntmps80
    go_wp2
    clear q;go_loopw [20] (λi wr=>∃k:Nat,k<=s.size/\i=.b k/\(∀j (h:j<s.size),j<k->jE s[j])/\wr= (w.alloc (.cells C 5 p)).drew) λi _=>s.size-(intOf i).toNat
    case atStart=>exact⟨0,Py _,rfl,λj _ a=>aS a,rfl⟩
    case round=>
     obtain⟨k,x,rfl,f,rfl⟩:=hrel;have l:=Kz f;clear f;by_cases b:k<s.size
     .have y:=d k b;clear d;by_cases z:(s[k].toNat:Int)<33
      .go_wp2
       go_ret
       exact⟨Says.no λh=>by have:=h.2.2.2 k b;unfold jE at this;omega,(ai _ _).drew⟩
      .by_cases A:126<(s[k].toNat:Int)
       .go_wp2
        go_ret
        exact⟨Says.no λh=>by have:=h.2.2.2 k b;unfold jE at this;omega,(ai _ _).drew⟩
       .cases m:((s[k].toNat:Int) == 44)
        .go_wp2
         go_roundw
         case rel=>
          refine⟨k+1,A7,C8,λj a B=>?_,by first|rfl|trivial⟩;by_cases e:j=k
          .subst e;exact⟨A7,A7,by simpa using m⟩
          .exact bE l j a A7
         case measure=>simp[intOf];omega
        .go_wp2
         go_ret
         exact⟨Says.no λh=>by have:=h.2.2.2 k b;unfold jE at this;simp at m;omega,(ai _ _).drew⟩
     .go_wp2
      go_ret
      exact⟨Says.yes ⟨A7,A7,c,λj a=>bE l j a A7⟩,(ai _ _).drew⟩
   .go_enter func80,ntmps80
    go_wp2
    go_ret
    exact⟨Says.no λh=>by have:=h.2.2.1;simp[c] at this,K_.refl _⟩
  .go_enter func80,ntmps80
   go_wp2
   go_ret
   exact⟨Says.no λh=>by have:=h.2.1;omega,K_.refl _⟩
 .go_enter func80,ntmps80
  go_wp2
  go_ret
  exact⟨Says.no λh=>by have:=h.1;omega,K_.refl _⟩
theorem mJ(w:QX)(a:QW)(cap:Nat)(l:List QV)(J:l.length<=maxLen)(K:∀s∈l,s.size<=maxLen)(p:Strs w a l):
  Calls prog 30 #[.slice a l.length cap] w λe w'=>Says e (t_ l)/\K_ w w':=by
 unfold maxLen at J;go_enter func30,ntmps30
 go_wp2
 go_loopw [3] (λr wr=>∃k:Nat,k<=l.length/\r=.b k/\K_ w wr/\∀j,j<k->jR (l.getD j ByteArray.empty)/\∀m,m<j->l.getD m ByteArray.empty≠l.getD j ByteArray.empty) λr _=>l.length-(intOf r).toNat
 case atStart=>exact⟨0,Py _,rfl,K_.refl _,λj c=>aS c⟩
 case round=>
  obtain⟨k,S,rfl,d,z⟩:=hrel;have A:=Kz z;clear z;by_cases f:k<l.length
  .obtain⟨b,o,rfl,T,B⟩:=p.kept d k f;have C:(l.getD k ByteArray.empty).size<=maxLen:=K _ (by simp[List.getD,f]);obtain⟨s,v⟩:=aj (l.getD k ByteArray.empty);rw[<-v] at B C;have n:=Kz v;clear v;go_wp2_with fail
   refine (oq _ s C).mono ?_;rintro e w1 ⟨D,rfl⟩;rcases D.cases with⟨rfl,E⟩|⟨rfl,L⟩
   .have M:=Kz E;clear E D;go_wp2
    clear B;go_loopw [4] (λm wr=>∃q:Nat,q<=k/\m=.b q/\K_ w wr/\∀t,t<q->l.getD t ByteArray.empty≠s) λm _=>k-(intOf m).toNat
    case atStart=>exact⟨0,Py _,rfl,d,λj c=>aS c⟩
    case round=>
     obtain⟨q,U,rfl,h,F⟩:=hrel;have G:=Kz F;clear F d;by_cases N:q<k
     .obtain⟨O,P,i,V,Q⟩:=p.kept h k f;simp only[Ql,QS,and_true] at i;obtain⟨rfl,rfl⟩:=i;obtain⟨O,P,i,W,R⟩:=p.kept h q A7;simp only[Ql,QS,and_true] at i;obtain⟨rfl,rfl⟩:=i;rw[<-n.o] at Q;obtain⟨t,x⟩:=aj (l.getD q ByteArray.empty);rw[<-x] at R;have H:=Kz x;clear x;cases I:(t.toList == s.toList)
      .go_wp2
       go_region
       all_goals
        go_wp2
        go_roundw
        case rel=>
         refine⟨q+1,A7,C8,by repeat (first|apply K_.drew|exact h),λj c=>?_⟩;by_cases e:j=q
         .subst e;rw[<-H.o];exact tL I
         .exact bE G j A7
        case measure=>simp[intOf];omega
      .go_wp2
       go_region
       all_goals
        go_wp2
        go_ret
        exact⟨Says.no λy=>(y k f).2 q N (by rw[<-H.o,<-n.o];exact pX.1 I),by repeat (first|apply K_.drew|exact h)⟩
     .go_wp2
      go_roundw
      case rel=>
       refine⟨k+1,A7,C8,h,λj c=>?_⟩;by_cases e:j=k
       .subst e;rw[<-n.o];exact⟨M.o,λm X=>bE G m A7⟩
       .exact bE A j A7
      case measure=>simp[intOf];omega
   .go_wp2
    go_ret
    exact⟨Says.no λy=>L (by rw[n.o];exact (y k f).1),d⟩
  .go_wp2
   go_ret
   exact⟨Says.yes λj c=>bE A j A7,d⟩
theorem Tryz.Iy :(prog.info? 9).map (λi=>(i.zero,i.size,i.bytes))=some (some (.string ByteArray.empty),1,16):=C9
def Has(l:List QV)(v:QV):Prop:=∃i,i<l.length/\l.getD i ByteArray.empty=v
theorem Jv(w:QX)(a:QW)(cap:Nat)(l:List QV)(v:QV)(q:l.length<=maxLen)(s:Strs w a l):
  Calls prog 114 #[.slice a l.length cap,.string v] w λe w'=>(∃r,e=.returned (.b r)/\(0<=r↔Has l v))/\w'=w:=by
 unfold maxLen at q;go_enter func114,ntmps114
 go_wp2
 go_loop [8] (λi=>∃k:Nat,k<=l.length/\i=.b k/\∀j,j<k->l.getD j ByteArray.empty≠v) λi=>l.length-(intOf i).toNat
 case atStart=>exact⟨0,Py _,rfl,λj d=>aS d⟩
 case round=>
  obtain⟨k,y,rfl,f⟩:=hrel;have h:=Kz f;clear f;by_cases m:k<l.length
  .obtain⟨b,o,rfl,z,t⟩:=s k m;obtain⟨x,c⟩:=aj (l.getD k ByteArray.empty);rw[<-c] at t;have n:=Kz c;clear c;cases p:(v.toList == x.toList)
   .go_wp2
    go_round
    case rel=>
     refine⟨k+1,A7,C8,λj d=>?_⟩;by_cases e:j=k
     .subst e;rw[<-n.o];exact (tL p).symm
     .exact bE h j A7
    case measure=>simp[intOf];omega
   .go_wp2
    go_ret
    exact⟨⟨_,rfl,⟨λ_=>⟨k,m,by rw[<-n.o];exact (pX.1 p).symm⟩,λ_=>A7⟩⟩,rfl⟩
  .go_wp2
   go_ret
   exact⟨⟨_,rfl,⟨λA=>A7,λ⟨i,B,e⟩=>QK e (bE h i A7)⟩⟩,rfl⟩
theorem CU(w:QX)(a:QW)(cap:Nat)(l:List QV)(v:QV)(h:l.length<=maxLen)(i:Strs w a l):
  Calls prog 81 #[.slice a l.length cap,.string v] w λe w'=>Says e (Has l v)/\w'=w:=by
 go_enter func81,ntmps81
 go_wp2_with fail
 refine (Jv _ a cap l v h i).mono ?_;rintro e w1 ⟨⟨r,rfl,d⟩,rfl⟩;have f:=Kz d;clear d;by_cases c:0<=r
 .have j:decide (0<=r)=true:=by simpa using c
  go_wp2
  go_ret
  exact⟨Says.congr (p:=True) (Says.yes trivial) ⟨λ_=>f.o.1 c,λ_=>trivial⟩,rfl⟩
 .have j:decide (0<=r)=false:=by simpa using c
  go_wp2
  go_ret
  exact⟨Says.congr (p:=False) (Says.no id) ⟨False.elim,λk=>by have:=f.o.2 k;omega⟩,rfl⟩
theorem tC(w:QX)(asks:Nat)(on:Int)(cases:Nat)(els fall:Int)(fin bad:Bool)(give:QV)(i j:QW)(k l:Nat)(m:asks<=maxLen)(h2:cases<=maxLen)(n:give.size<=maxLen):
  Calls prog 243 #[.agg #[.slice i asks k,.b on,.slice j cases l,.b els,.b fall,.bool fin,.bool bad,.string give]] w
   λe w'=>Says e (asks=0/\on=0/\cases=0/\els=0/\fall=0/\give.size<=30)/\K_ w w':=by
 unfold maxLen at m h2 n;cases a:((asks:Int) == 0)
 .go_enter func243,ntmps243
  go_wp2
  all_goals
   go_ret
   exact⟨Says.no λh=>by simp at a;omega,ai _ _⟩
 .obtain rfl:asks=0:=by simp at a;omega
  clear a;cases b:(on == 0)
  .go_enter func243,ntmps243
   go_wp2
   all_goals
    go_ret
    exact⟨Says.no λh=>by simp at b;omega,ai _ _⟩
  .obtain rfl:on=0:=by simpa using b
   clear b;cases c:((cases:Int) == 0)
   .go_enter func243,ntmps243
    go_wp2
    go_ret
    exact⟨Says.no λh=>by simp at c;omega,ai _ _⟩
   .obtain rfl:cases=0:=by simp at c;omega
    clear c;cases d:(els == 0)
    .go_enter func243,ntmps243
     go_wp2
     go_ret
     exact⟨Says.no λh=>by simp at d;omega,ai _ _⟩
    .obtain rfl:els=0:=by simpa using d
     clear d;cases f:(fall == 0)
     .go_enter func243,ntmps243
      go_wp2
      go_ret
      exact⟨Says.no λh=>by simp at f;omega,ai _ _⟩
     .obtain rfl:fall=0:=by simpa using f
      clear f;by_cases p:(give.size:Int)<=30
      .go_enter func243,ntmps243
       go_wp2
       go_ret
       exact⟨Says.yes D7,ai _ _⟩
      .go_enter func243,ntmps243
       go_wp2
       go_ret
       exact⟨Says.no λh=>A7,ai _ _⟩
theorem Strs.take{a:QW}(h:Strs w a l)(k:Nat):Strs w a (l.take k):=by
 intro i c;have d:i<l.length:=by simp at c;omega
 have e:i<k:=by simp at c;omega
 obtain⟨b,o,f,j,m⟩:=h i d;refine⟨b,o,f,j,?_⟩;rw[m];simp[List.getD,e]
theorem LM{k:Nat}(d:k<=l.length){v:QV}:Has (l.take k) v↔∃i,i<k/\l.getD i ByteArray.empty=v:=by
 unfold Has;constructor
 .rintro⟨i,a,e⟩;have c:i<k:=by simp at a;omega
  exact⟨i,c,by rw[<-e];simp[List.getD,c]⟩
 .rintro⟨i,a,e⟩;exact⟨i,D7,by rw[<-e];simp[List.getD,a]⟩
theorem rP(w:QX)(a:QW)(cap k:Nat)(l:List QV)(v:QV)(f:l.length<=maxLen)(b:k<=l.length)(c:Strs w a l):
  Calls prog 81 #[.slice a k cap,.string v] w λe w'=>Says e (∃i,i<k/\l.getD i ByteArray.empty=v)/\w'=w:=by
 have e:(l.take k).length=k:=D7;have:=CU w a cap (l.take k) v (by rw[e];omega) (c.take k);rw[e] at this;exact this.mono λe w' ⟨h,d⟩=>⟨h.congr (LM b),d⟩
def Od(s:Xq):Prop:=s.asks.length<=5/\t_ s.asks/\(s.on=0\/(0<=s.on/\s.on<s.asks.length))
def Dc(l:List QV)(j:Nat):Prop:=jR (l.getD j ByteArray.empty)/\∀m,m<j->l.getD m ByteArray.empty≠l.getD j ByteArray.empty
theorem zY(w:QX)(s:Xq)(q v:QW)(f x:Nat)(y:s.Fits)(G:Strs w q s.asks)(T:s.asks.length<=f):
  Calls prog 239 #[.agg #[.slice q s.asks.length f,.b s.on,.slice v s.cases.length x,.b s.els,.b s.fall,.bool s.fin,.bool s.bad,.string s.give]] w λe w'=>Says e (Od s)/\K_ w w':=by
 have M:=y.asks;unfold maxLen at M;have c:K_ w (w.alloc (.cells #[.slice q s.asks.length f,.b s.on,.slice v s.cases.length x,.b s.els,.b s.fall,.bool s.fin,.bool s.bad,.string s.give] 229)):=ai _ _;by_cases U:(s.asks.length:Int)<=5
 .go_enter func239,ntmps239
  go_wp2
  go_loopw [14] (λi wr=>∃k:Nat,k<=s.asks.length/\i=.b k/\K_ (w.alloc (.cells #[.slice q s.asks.length f,.b s.on,.slice v s.cases.length x,.b s.els,.b s.fall,.bool s.fin,.bool s.bad,.string s.give] 229)) wr/\∀j,j<k->Dc s.asks j) λi _=>s.asks.length-(intOf i).toNat
  case atStart=>exact⟨0,Py _,rfl,K_.refl _,λj z=>aS z⟩
  case round=>
   obtain⟨k,V,rfl,a,H⟩:=hrel;have A:=Kz H;clear H;have N:=a.size;simp only[Qh] at N;by_cases r:k<s.asks.length
   .obtain⟨b,o,rfl,O,I⟩:=(G.kept c).kept a k r;have J:(s.asks.getD k ByteArray.empty).size<=maxLen:=y.fA _ (by simp[List.getD,r]);obtain⟨K,B⟩:=aj (s.asks.getD k ByteArray.empty);rw[<-B] at I J;have t:=Kz B;clear B;go_wp2_with fail
    refine (ny _ K J).mono ?_;rintro e w1 ⟨d,C⟩;have l:=a.trans C;have D:=(G.kept c).kept l;clear I O;rcases d.cases with⟨rfl,m⟩|⟨rfl,n⟩
    .have P:=Kz m;clear m d a C;obtain⟨E,F⟩:=l.rules;have W:k<=f:=A7;go_wp2_with fail
     refine (rP _ _ f k s.asks K y.asks A7 D).mono ?_;rintro e X ⟨d,rfl⟩;rcases d.cases with⟨rfl,m⟩|⟨rfl,n⟩
     .have p:=Kz m;clear m d D E F;go_wp2
      go_ret
      exact⟨Says.no λh=>by obtain⟨i,Q,e⟩:=p.o;exact (h.2.1 k r).2 i Q (by rw[e,t.o]),c.trans l⟩
     .have p:=Kz n;clear n d D E F;go_wp2
      go_roundw
      case rel=>
       refine⟨k+1,A7,C8,l,λj z=>?_⟩;by_cases e:j=k
       .subst e;exact⟨by rw[<-t.o];exact P.o,λR S h=>p.o ⟨R,S,by rw[h,t.o]⟩⟩
       .exact bE A j A7
      case measure=>simp[intOf];omega
    .have p:=Kz n;clear n d a C;go_wp2
     go_ret
     exact⟨Says.no λh=>p.o (by rw[t.o];exact (h.2.1 k r).1),c.trans l⟩
   .obtain⟨E,F⟩:=a.rules;have L:Hid (t_ s.asks):=λj z=>bE A j A7
    clear A;go_wp2
    .go_ret
     exact⟨(Says.dec _).congr ⟨λh=>⟨A7,L.out,A7⟩,λh=>by have:=h.2.2;omega⟩,c.trans a⟩
    .go_ret
     exact⟨(Says.dec _).congr ⟨λh=>⟨A7,L.out,A7⟩,λh=>by have:=h.2.2;omega⟩,c.trans a⟩
    all_goals
     go_ret
     exact⟨Says.no λh=>by have:=h.2.2;omega,c.trans a⟩
 .go_enter func239,ntmps239
  go_wp2
  go_ret
  exact⟨Says.no λh=>by have:=h.1;omega,c⟩
structure Xz where
 fail:Bool
 text:QV
def Xz.zero :Xz:=⟨false,ByteArray.empty⟩
def Xz.cells(c:Xz):List QY:=[.bool c.fail,.string c.text]
def fI(w:QX)(a:QW)(l:List Xz):Prop:=
 ∀i,i<l.length->∃b o,a=some ⟨b,o,none⟩/\b<w.heap.size/\w.rangeAt b (o+i*2) (l.getD i Xz.zero).cells
theorem fI.kept{a:QW}{l:List Xz}(h:fI w a l)(k:K_ w w'):fI w' a l:=by
 intro i c;obtain⟨d,o,e,b,f⟩:=h i c;exact⟨d,o,e,Px b k.size,k.range b f⟩
section
variable {α ι:Type} (ready:α -> ι -> Prop) (step:α -> ι -> α)
inductive dx :α->α->Nat->Prop
 |here (s:α):dx s s 0
 |step (s t:α) (i: ι) (k:Nat) (h:ready s i) (r:dx (step s i) t k):dx s t (k+1)
def yI :Prop:=∀s i j,i≠j->ready s i->ready s j->ready (step s i) j/\step (step s i) j=step (step s j) i
def AtEnd(s:α):Prop:=∀i,¬ready s i
variable {ready step}
theorem dx.trans{s t u:α}{k l:Nat}(h:dx ready step s t k)(g:dx ready step t u l):dx ready step s u (k+l):=by
 induction h with
 |here s=>simpa using g
 |step s t i k h _ ih=>rw[show k+1+l=k+l+1 by omega];exact .step s u i _ h (ih g)
theorem dx.one{s:α}{i: ι}(h:ready s i):dx ready step s (step s i) 1:=.step s _ i 0 h (.here _)
theorem dx.first(c:yI ready step):∀{k:Nat}{s t:α},dx ready step s t k->AtEnd ready t->∀{i: ι},ready s i->∃m,k=m+1/\dx ready step (step s i) t m:=by
 intro k
 induction k with
 |zero=>
  intro s t h b i a;cases h;exact QK a (b i)
 |succ k ih=>
  intro s t h b i a;cases h with
  |step _ _ j _ hj hr=>
   by_cases e:j=i
   .subst e;exact⟨k,rfl,hr⟩
   .obtain⟨d,f⟩:=c s i j (Ne.symm e) a hj;obtain⟨l,_⟩:=c s j i e hj a;obtain⟨m,n,p⟩:=ih hr b l;refine⟨k,rfl,?_⟩;rw[n];refine .step _ _ j _ d ?_;rw[f];exact p
theorem dx.unique(d:yI ready step):∀{k l:Nat}{s t u:α},dx ready step s t k->AtEnd ready t->dx ready step s u l->AtEnd ready u->t=u:=by
 intro k
 induction k with
 |zero=>
  intro l s t u h b g c;cases h;cases g with
  |here=>rfl
  |step _ _ j _ hj _=>exact QK hj (b j)
 |succ k ih=>
  intro l s t u h b g c;cases h with
  |step _ _ j _ hj hr=>
   obtain⟨m,_,e⟩:=g.first d c hj
   exact ih hr b e c
theorem dx.keeps{P:α->Prop}(c:∀s i,P s->ready s i->P (step s i)){s t:α}{k:Nat}(h:dx ready step s t k)(b:P s):P t:=by
 induction h with
 |here s=>exact b
 |step s t i k h _ ih=>exact ih (c s i b h)
end
variable {n:Nat}
section
variable {α:Type}{ah:α -> α -> Bool}
structure Ahead (ah:α->α->Bool):Prop where
 irr:∀x,ah x x=false
 tr:∀x y z,ah x y=true->ah y z=true->ah x z=true
 ntr:∀x y z,ah y x=false->ah z y=false->ah z x=false
theorem Ahead.zA(h:Ahead ah){x y z:α}(d:ah y x=false)(h2:ah z y=false):ah z x=false:=h.ntr x y z d h2
theorem Ahead.asym(h:Ahead ah){x y:α}(c:ah x y=true):ah y x=false:=by
 cases e:ah y x
 .rfl
 .have:=h.tr x y x c e;rw[h.irr] at this;cases this
def bW(i:Nat):Nat:=(i-1) / 2
def swp(f:Nat->α)(a b:Nat):Nat->α:=λi=>if i=a then f b else if i=b then f a else f i
def iJ(f:Nat->α)(n:Nat)(x:α):Prop:=∃i,i<n/\f i=x
def wu(f:Nat->α)(n:Nat):Prop:=∀i j,i<n->j<n->f i=f j->i=j
def vB(ah:α->α->Bool)(f:Nat->α)(n:Nat):Prop:=∀i,0<i->i<n->ah (f i) (f (bW i))=false
theorem Ic{f:Nat->α}{a b:Nat}(h:a<n)(k:b<n)(x:α):iJ (swp f a b) n x↔iJ f n x:=by
 constructor
 .rintro⟨i,j,e⟩;unfold swp at e;by_cases d:i=a
  .rw[QI d] at e;exact⟨b,k,e⟩
  .rw[QJ d] at e;by_cases c:i=b
   .rw[QI c] at e;exact⟨a,h,e⟩
   .rw[QJ c] at e;exact⟨i,j,e⟩
 .rintro⟨i,j,e⟩;by_cases d:i=a
  .by_cases c:b=a
   .exact⟨a,h,by unfold swp;rw[QI rfl,c,<-d];exact e⟩
   .exact⟨b,k,by unfold swp;rw[QJ c,QI rfl,<-d];exact e⟩
  .by_cases c:i=b
   .exact⟨a,h,by unfold swp;rw[QI rfl,<-c];exact e⟩
   .exact⟨i,j,by unfold swp;rw[QJ d,QJ c];exact e⟩
def Gm(a b i:Nat):Nat:=if i=a then b else if i=b then a else i
theorem LH{a b i:Nat}(c:a<n)(d:b<n)(hi:i<n):Gm a b i<n:=by
 unfold Gm
 split
 .exact d
 .split
  .exact c
  .exact hi
theorem Ii(a b i:Nat):Gm a b (Gm a b i)=i:=by
 unfold Gm;by_cases d:i=a
 .rw[QI d];by_cases c:b=a
  .rw[QI c];omega
  .rw[QJ c,QI rfl];omega
 .rw[QJ d];by_cases c:i=b
  .rw[QI c,QI rfl];omega
  .rw[QJ c,QJ d,QJ c]
theorem Hz(f:Nat->α)(a b i:Nat):swp f a b i=f (Gm a b i):=by
 unfold swp Gm
 split
 .rfl
 .split<;>rfl
theorem CK{f:Nat->α}{a b:Nat}(c:a<n)(d:b<n)(h:wu f n):wu (swp f a b) n:=by
 intro i l j k e;rw[Hz,Hz] at e;have:=h _ _ (LH c d j) (LH c d k) e;rw[<-Ii a b i,this,Ii]
def UpH(ah:α->α->Bool)(f:Nat->α)(n k:Nat):Prop:=
 (∀i,0<i->i<n->i≠k->ah (f i) (f (bW i))=false)/\∀c,0<c->c<n->bW c=k->0<k->ah (f c) (f (bW k))=false
def upF(ah:α->α->Bool):Nat->(Nat->α)->Nat->Nat->α
 |0,f,_=>f
 |m+1,f,k=>if k=0 then f else if ah (f k) (f (bW k))=true then upF ah m (swp f k (bW k)) (bW k) else f
theorem NQ(d:Ahead ah):∀(m:Nat)(f:Nat->α)(k:Nat),k<=m->k<n->UpH ah f n k->vB ah (upF ah m f k) n/\(∀x,iJ (upF ah m f k) n x↔iJ f n x)/\(wu f n->wu (upF ah m f k) n)
 |0,f,k,hm,hk,h=>by
  obtain rfl:k=0:=A7;exact⟨λi p a=>h.1 i p a A7,λ_=>Iff.rfl,λh=>h⟩
 |m+1,f,k,hm,hk,h=>by
  unfold upF;by_cases p:k=0
  .rw[QI p];exact⟨λi c a=>h.1 i c a A7,λ_=>Iff.rfl,λh=>h⟩
  .rw[QJ p];by_cases e:ah (f k) (f (bW k))=true
   .rw[QI e];have D:bW k<k:=by unfold bW;omega
    have t:UpH ah (swp f k (bW k)) n (bW k):=by
     constructor
     .intro i c a v;have E:bW i<i:=by unfold bW;omega
      unfold swp;rw[QJ v];by_cases b:i=k
      .subst b;rw[QI rfl,QJ A7,QI rfl];exact d.asym e
      .rw[QJ b];by_cases j:bW i=k
       .rw[QI j];exact h.2 i c a j A7
       .rw[QJ j];by_cases r:bW i=bW k
        .rw[QI r];have g:=h.1 i c a b;rw[r] at g;exact d.zA (d.asym e) g
        .rw[QJ r];exact h.1 i c a b
     .intro l w y z A;have F:bW (bW k)<bW k:=by unfold bW at *;omega
      unfold swp;rw[QJ (show¬bW (bW k)=k by omega),QJ (show¬bW (bW k)=bW k by omega)];have G:bW l<l:=by unfold bW;omega
      rw[QJ (show¬l=bW k by omega)];have g:=h.1 (bW k) A A7 A7;by_cases b:l=k
      .rw[QI b];exact g
      .rw[QJ b];have q:=h.1 l w y b;rw[z] at q;exact d.zA g q
    obtain⟨B,q,C⟩:=NQ d m (swp f k (bW k)) (bW k) A7 A7 t;exact⟨B,λx=>(q x).trans (Ic hk A7 x),λa=>C (CK hk A7 a)⟩
   .rw[QJ e];refine⟨λi c a=>?_,λ_=>Iff.rfl,λh=>h⟩;by_cases s:i=k
    .subst s;cases j:ah (f i) (f (bW i))
     .rfl
     .exact QK j e
    .exact h.1 i c a s
def KI(ah:α->α->Bool)(f:Nat->α)(n k:Nat):Prop:=
 (∀i,0<i->i<n->bW i≠k->ah (f i) (f (bW i))=false)/\∀c,0<c->c<n->bW c=k->0<k->ah (f c) (f (bW k))=false
def g_(ah:α->α->Bool)(f:Nat->α)(n k:Nat):Nat:=if 2*k+1<n/\ah (f (2*k+1)) (f k)=true then 2*k+1 else k
def dU(ah:α->α->Bool)(f:Nat->α)(n k:Nat):Nat:=if 2*k+2<n/\ah (f (2*k+2)) (f (g_ ah f n k))=true then 2*k+2 else g_ ah f n k
def jJ(ah:α->α->Bool):Nat->(Nat->α)->Nat->Nat->Nat->α
 |0,f,_,_=>f
 |m+1,f,n,k=>if dU ah f n k=k then f else jJ ah m (swp f k (dU ah f n k)) n (dU ah f n k)
theorem mV(f:Nat->α)(n k:Nat):dU ah f n k=k\/(dU ah f n k=2*k+1/\2*k+1<n)\/(dU ah f n k=2*k+2/\2*k+2<n):=by
 unfold dU g_;by_cases b:2*k+1<n/\ah (f (2*k+1)) (f k)=true
 .rw[QI b];by_cases a:2*k+2<n/\ah (f (2*k+2)) (f (2*k+1))=true
  .rw[QI a];exact .inr (.inr ⟨rfl,a.1⟩)
  .rw[QJ a];exact .inr (.inl ⟨rfl,b.1⟩)
 .rw[QJ b];by_cases a:2*k+2<n/\ah (f (2*k+2)) (f k)=true
  .rw[QI a];exact .inr (.inr ⟨rfl,a.1⟩)
  .rw[QJ a];exact .inl rfl
theorem Dw(a:Ahead ah)(f:Nat->α)(n k:Nat):ah (f k) (f (dU ah f n k))=false/\(2*k+1<n->ah (f (2*k+1)) (f (dU ah f n k))=false)/\(2*k+2<n->ah (f (2*k+2)) (f (dU ah f n k))=false)/\(dU ah f n k≠k->ah (f (dU ah f n k)) (f k)=true):=by
 have b:ah (f k) (f (g_ ah f n k))=false/\(2*k+1<n->ah (f (2*k+1)) (f (g_ ah f n k))=false)/\(g_ ah f n k≠k->ah (f (g_ ah f n k)) (f k)=true):=by
  unfold g_;by_cases d:2*k+1<n/\ah (f (2*k+1)) (f k)=true
  .rw[QI d];exact⟨a.asym d.2,λ_=>a.irr _,λ_=>d.2⟩
  .rw[QJ d];refine⟨a.irr _,λh=>?_,λj=>QK rfl j⟩;cases e:ah (f (2*k+1)) (f k)
   .rfl
   .exact QK ⟨h,e⟩ d
 unfold dU;by_cases c:2*k+2<n/\ah (f (2*k+2)) (f (g_ ah f n k))=true
 .rw[QI c];have i:=a.asym c.2;refine⟨a.zA i b.1,λh=>a.zA i (b.2.1 h),λ_=>a.irr _,λ_=>?_⟩;by_cases e:g_ ah f n k=k
  .have:=c.2;rw[e] at this;exact this
  .exact a.tr _ _ _ c.2 (b.2.2 e)
 .rw[QJ c];refine⟨b.1,b.2.1,λh=>?_,b.2.2⟩;cases e:ah (f (2*k+2)) (f (g_ ah f n k))
  .rfl
  .exact QK ⟨h,e⟩ c
theorem AR{i k:Nat}(h:bW i=k)(b:0<i):i=2*k+1\/i=2*k+2:=by unfold bW at h;omega
theorem Ih(v:Ahead ah):∀(m:Nat)(f:Nat->α)(k:Nat),n<=k+m->(k<n\/n=0)->KI ah f n k->vB ah (jJ ah m f n k) n/\(∀x,iJ (jJ ah m f n k) n x↔iJ f n x)/\(wu f n->wu (jJ ah m f n k) n)
 |0,f,k,hm,hk,h=>by
  refine⟨λi e a=>h.1 i e a ?_,λ_=>Iff.rfl,λh=>h⟩;unfold bW;omega
 |m+1,f,k,hm,hk,h=>by
  unfold jJ;have b:=Dw v f n k;have w:=mV (ah:=ah) f n k;by_cases d:dU ah f n k=k
  .rw[QI d];refine⟨λi e a=>?_,λ_=>Iff.rfl,λh=>h⟩;by_cases p:bW i=k
   .rw[p];rw[d] at b;rcases AR p e with rfl|rfl
    .exact b.2.1 a
    .exact b.2.2.1 a
   .exact h.1 i e a p
  .rw[QJ d];obtain⟨q,B⟩:=aj (dU ah f n k);rw[<-B] at b w d⊢;have C:q<n/\k<q/\bW q=k/\0<q:=by
    rcases w with r|⟨r,D⟩|⟨r,D⟩
    .exact QK r d
    .unfold bW;omega
    .unfold bW;omega
   obtain⟨j,M,s,E⟩:=C;have N:=b.2.2.2 d;have F:KI ah (swp f k q) n q:=by
    constructor
    .intro i t a y;have O:bW i<i:=by unfold bW;omega
     unfold swp;by_cases z:i=k
     .subst z;rw[QI rfl,QJ (show¬bW i=i by omega),QJ y];exact h.2 q E j s t
     .rw[QJ z];by_cases A:i=q
      .subst A;rw[QI rfl,QI s];exact b.1
      .rw[QJ A];by_cases l:bW i=k
       .rw[QI l];rcases AR l t with rfl|rfl
        .exact b.2.1 a
        .exact b.2.2.1 a
       .rw[QJ l,QJ y];exact h.1 i t a l
    .intro c G H I _;have P:bW c<c:=by unfold bW;omega
     unfold swp;rw[QJ (show¬c=k by omega),QJ (show¬c=q by omega),s,QI rfl];have:=h.1 c G H A7;rw[I] at this;exact this
   obtain⟨J,K,L⟩:=Ih v m (swp f k q) q A7 (.inl j) F;exact⟨J,λx=>(K x).trans (Ic A7 j x),λa=>L (CK A7 j a)⟩
theorem GG(a:Ahead ah){f:Nat->α}(h:vB ah f n):∀i,i<n->ah (f i) (f 0)=false:=by
 intro i
 induction i using Nat.strongRecOn with
 |ind i ih=>
  intro c;by_cases d:i=0
  .subst d;exact a.irr _
  .have e:bW i<i:=by unfold bW;omega
   exact a.zA (ih _ e A7) (h i A7 c)
def iO(ah:α->α->Bool)(f:Nat->α)(n:Nat)(x:α):Nat->α:=upF ah n (λi=>if i=n then x else f i) n
theorem Mq(m:Ahead ah){f:Nat->α}{x:α}(p:vB ah f n)(hi:wu f n)(h:¬iJ f n x):vB ah (iO ah f n x) (n+1)/\(∀y,iJ (iO ah f n x) (n+1) y↔y=x\/iJ f n y)/\wu (iO ah f n x) (n+1):=by
 have q:UpH ah (λi=>if i=n then x else f i) (n+1) n:=by
  constructor
  .intro i k a r;have s:bW i<i:=by unfold bW;omega
   simp only[QJ r,QJ (show¬bW i=n by omega)];exact p i k A7
  .intro c k z s _;have:bW c<c:=by unfold bW;omega
   omega
 obtain⟨t,v,w⟩:=NQ m n _ n (Pw _) (PZ _) q;refine⟨t,λy=>(v y).trans ⟨?_,?_⟩,w ?_⟩
 .rintro⟨i,a,e⟩;simp only at e;by_cases l:i=n
  .rw[QI l] at e;exact .inl e.symm
  .rw[QJ l] at e;exact .inr ⟨i,A7,e⟩
 .rintro (rfl|⟨i,a,e⟩)
  .exact⟨n,PZ _,A9⟩
  .exact⟨i,A7,by simp only;rw[QJ A7];exact e⟩
 .intro i j a A e;simp only at e;by_cases b:i=n<;>by_cases d:j=n
  .omega
  .rw[QI b,QJ d] at e;exact QK ⟨j,A7,e.symm⟩ h
  .rw[QJ b,QI d] at e;exact QK ⟨i,A7,e⟩ h
  .rw[QJ b,QJ d] at e;exact hi i j A7 A7 e
def fP(ah:α->α->Bool)(f:Nat->α)(n:Nat):Nat->α:=jJ ah n (swp f 0 n) n 0
theorem IB(h:Ahead ah){f:Nat->α}(j:vB ah f (n+1))(hi:wu f (n+1)):vB ah (fP ah f n) n/\(∀y,iJ (fP ah f n) n y↔iJ f (n+1) y/\y≠f 0)/\wu (fP ah f n) n:=by
 have k:KI ah (swp f 0 n) n 0:=by
  constructor
  .intro i a b l;have t:bW i<i:=by unfold bW;omega
   unfold swp;rw[QJ A7,QJ A7,QJ l,QJ A7];exact j i a A7
  .intro v _ _ _ a;omega
 obtain⟨m,p,q⟩:=Ih h n (swp f 0 n) 0 A7 A7 k;refine⟨m,λy=>(p y).trans ⟨?_,?_⟩,q ?_⟩
 .rintro⟨i,b,e⟩;unfold swp at e;by_cases a:i=0
  .rw[QI a] at e;refine⟨⟨n,PZ _,e⟩,λc=>?_⟩;have:=hi n 0 A7 A7 (e.trans c);omega
  .rw[QJ a,QJ A7] at e;refine⟨⟨i,A7,e⟩,λc=>?_⟩;have:=hi i 0 A7 A7 (e.trans c);omega
 .rintro⟨⟨i,b,e⟩,r⟩;have a:i≠0:=λa=>by subst a;exact r e.symm
  by_cases d:i=n
  .exact⟨0,A7,by unfold swp;rw[QI rfl,<-d];exact e⟩
  .exact⟨i,A7,by unfold swp;rw[QJ a,QJ d];exact e⟩
 .intro i s b w e;exact CK (n:=n+1) A7 A7 hi i s A7 A7 e
end
section
variable {α:Type} (E:α -> α -> Prop)
inductive bn :Nat->α->α->Prop
 |here (a:α):bn 0 a a
 |step {n:Nat} {a b c:α} (h:E a b) (r:bn n b c):bn (n+1) a c
def Far(t:α)(n:Nat)(a:α):Prop:=bn E n a t/\∀m,m<n->¬bn E m a t
end
section
variable {α:Type}{E:α -> α -> Prop}
theorem bn.trans{n m:Nat}{a b c:α}(h:bn E n a b)(g:bn E m b c):bn E (n+m) a c:=by
 induction h with
 |here a=>rw[Qb];exact g
 |step h _ ih=>rw[show∀k:Nat,k+1+m=k+m+1 from λk=>A7];exact .step h (ih g)
theorem bn.one{a b:α}(h:E a b):bn E 1 a b:=.step h (.here b)
theorem bn.zero{a b:α}(h:bn E 0 a b):a=b:=by
 generalize d:(0:Nat)=n at h;cases h with
 |here=>rfl
 |step=>cases d
theorem bn.first{n:Nat}{a c:α}(h:bn E (n+1) a c):∃b,E a b/\bn E n b c:=by
 generalize e:n+1=m at h;cases h with
 |here=>cases e
 |step h r=>cases e;exact⟨_,h,r⟩
theorem bn.far{t:α}:∀{n:Nat}{a:α},bn E n a t->∃m,m<=n/\Far E t m a:=by
 intro n
 induction n using Nat.strongRecOn with
 |ind n ih=>
  intro a h;by_cases d:∃m,m<n/\bn E m a t
  .obtain⟨m,b,c⟩:=d;obtain⟨q,f,e⟩:=ih m b c;exact⟨q,A7,e⟩
  .exact⟨n,Pw _,h,λm b c=>d ⟨m,b,c⟩⟩
theorem Far.unique{t a:α}{n m:Nat}(h:Far E t n a)(g:Far E t m a):n=m:=by
 rcases QH n m with e|e|e
 .exact QK h.1 (g.2 n e)
 .exact e
 .exact QK g.1 (h.2 m e)
theorem Far.zero(t:α):Far E t 0 t:=⟨.here t,λ_m h=>aS h⟩
theorem Far.Iu{t a:α}(h:Far E t 0 a):a=t:=h.1.zero
theorem Far.next{t a:α}{n:Nat}(h:Far E t (n+1) a):∃b,E a b/\Far E t n b:=by
 obtain⟨b,c,e⟩:=h.1.first
 obtain⟨m,i,d⟩:=e.far;rcases Nat.lt_or_ge m n with f|f
 .exact QK (bn.step c d.1) (h.2 (m+1) A7)
 .have:m=n:=A7;subst this;exact⟨b,c,d⟩
end
variable {L Q:List Nat}{p:Nat}{A:Nat -> Nat}
section
variable {E:Nat -> Nat -> Prop}{t:Nat}
structure Bfs (E:Nat->Nat->Prop)(t:Nat)(A:Nat->Nat)(Q:List Nat):Prop where
 fin:∀p,A p≠0->Far E t (A p-1) p
 q:∀p∈Q,A p≠0
 nd:Q.Nodup
 mono:Q.Pairwise λp r=>A p<=A r
 two:∀h l,Q=h :: l->∀r∈Q,A r<=A h+1
 lev:∀p n,Far E t n p->(Q=[]\/∃h l,Q=h :: l/\n+1<=A h)->A p≠0
 don:∀p,A p≠0->p∉Q->∀r,E r p->A r≠0/\r≠t
 tar:A t=1
structure pG (E:Nat->Nat->Prop)(t:Nat)(p:Nat)(L:List Nat)(A:Nat->Nat)(Q:List Nat):Prop where
 fin:∀r,A r≠0->Far E t (A r-1) r
 q:∀r∈Q,A r≠0
 nd:Q.Nodup
 mono:Q.Pairwise λa b=>A a<=A b
 two:∀r∈Q,A p<=A r/\A r<=A p+1
 lev:∀r n,Far E t n r->n+1<=A p->A r≠0
 don:∀r,A r≠0->r∉Q->r≠p->∀s,E s r->A s≠0/\s≠t
 cur:∀s∈L,A s≠0/\s≠t
 pos:A p≠0
 out:p∉Q
 tar:A t=1
theorem Bfs.start(E:Nat->Nat->Prop)(t:Nat):Bfs E t (λp=>if p=t then 1 else 0) [t]:=by
 refine⟨λp h=>?_,λp h=>?_,A9,A9,λh l e r a=>?_,λp n c h=>?_,λp h d=>?_,A9⟩
 .by_cases e:p=t
  .subst e;simp only[if_true];exact Far.zero p
  .simp[e] at h
 .rw[PI] at h;simp[h]
 .simp only[List.cons.injEq] at e;rw[PI] at a;rw[a,<-e.1];simp
 .rcases h with h|⟨h,l,e,b⟩
  .cases h
  .simp only[List.cons.injEq] at e;rw[<-e.1] at b;simp only[if_true] at b;have:n=0:=A7;subst this;rw[c.Iu];simp
 .by_cases e:p=t
  .exact QK (by rw[e];simp) d
  .simp[e] at h
theorem Bfs.take(h:Bfs E t A (p :: Q)):pG E t p [] A Q:=by
 have b:=List.nodup_cons.1 h.nd;have c:=QR.1 h.mono;refine⟨h.fin,λr a=>h.q r (PS _ a),b.2,c.2,λr a=>⟨c.1 r a,h.two p Q rfl r (PS _ a)⟩,λr n d f=>h.lev r n d (.inr ⟨p,Q,rfl,f⟩),λr a i j=>h.don r a ?_,λs k=>(by cases k),h.q p A9,b.1,h.tar⟩;intro l;rcases Qr.1 l with e|e
 .exact j e
 .exact i e
theorem pG.old{s:Nat}(h:pG E t p L A Q)(c:A s≠0)(d:s≠t):pG E t p (L++[s]) A Q:=
 ⟨h.fin,h.q,h.nd,h.mono,h.two,h.lev,h.don,λr f=>by
  rcases PK.1 f with e|e
  .exact h.cur r e
  .rw[PI] at e;rw[e];exact⟨c,d⟩,h.pos,h.out,h.tar⟩
theorem pG.new{s:Nat}(h:pG E t p L A Q)(B:E s p)(l:A s=0)(v:s≠t):pG E t p (L++[s]) (λr=>if r=s then A p+1 else A r) (Q++[s]):=by
 have w:p≠s:=λe=>h.pos (by rw[e];exact l)
 have j:s∉Q:=λe=>h.q s e l
 have C:Far E t (A p) s:=by
  have D:=h.fin p h.pos;have N:=h.pos;refine⟨?_,λm O F=>?_⟩
  .have:=bn.step B D.1;rw[show A p-1+1=A p by omega] at this;exact this
  .obtain⟨G,k,i⟩:=F.far;exact h.lev s G i A7 l
 have same:∀r,r≠s->(if r=s then A p+1 else A r)=A r:=λr e=>QJ e
 have q:(if p=s then A p+1 else A p)=A p:=same p w;refine⟨λr c=>?_,λr c=>?_,?_,?_,λr c=>?_,λr n H y=>?_,λr c z I x J=>?_,λr c=>?_,by simp only[q];exact h.pos,?_,?_⟩
 .by_cases e:r=s
  .subst e;simp only[if_true];rw[Nat.add_sub_cancel];exact C
  .simp only[same r e] at c⊢;exact h.fin r c
 .by_cases e:r=s
  .simp[e]
  .rw[same r e];rcases PK.1 c with g|g
   .exact h.q r g
   .exact QK (PI.1 g) e
 .rw[List.nodup_append];exact⟨h.nd,A9,λa d b f e=>by rw[PI] at f;rw[e,f] at d;exact j d⟩
 .rw[P_];refine⟨h.mono.imp_of_mem λ{a b} d f K=>?_,A9,λa d b f=>?_⟩
  .rw[same a (λe=>j (by rw[<-e];exact d)),same b λe=>j (by rw[<-e];exact f)];exact K
  .rw[PI] at f;subst f;rw[same a (λe=>j (by rw[<-e];exact d)),QI rfl];exact (h.two a d).2
 .simp only[q];by_cases e:r=s
  .rw[QI e];omega
  .rw[same r e];rcases PK.1 c with g|g
   .exact h.two r g
   .exact QK (PI.1 g) e
 .simp only[q] at y;by_cases e:r=s
  .rw[QI e];omega
  .rw[same r e];exact h.lev r n H y
 .have M:r≠s:=λe=>z (by rw[e];simp)
  rw[same r M] at c;obtain⟨k,i⟩:=h.don r c (λg=>z (PK.2 (.inl g))) I x J;refine⟨?_,i⟩;by_cases e:x=s
  .rw[QI e];omega
  .rw[same x e];exact k
 .rcases PK.1 c with g|g
  .obtain⟨k,i⟩:=h.cur r g;refine⟨?_,i⟩;by_cases e:r=s
   .rw[QI e];omega
   .rw[same r e];exact k
  .rw[PI] at g;rw[g,QI rfl];exact⟨A7,v⟩
 .intro g;rcases PK.1 g with g|g
  .exact h.out g
  .exact w (PI.1 g)
 .rw[same t (Ne.symm v)];exact h.tar
theorem pG.ends(h:pG E t p L A Q)(l:∀s,E s p->s∈L):Bfs E t A Q:=by
 have i:∀r,A r≠0->r∉Q->∀s,E s r->A s≠0/\s≠t:=λr j w s k=>by
  by_cases e:r=p
  .rw[e] at k;exact h.cur s (l s k)
  .exact h.don r j w e s k
 refine⟨h.fin,h.q,h.nd,h.mono,λa x e r j=>?_,λr n d y=>?_,i,h.tar⟩
 .have f:=(h.two a (by rw[e];simp)).1;have c:=(h.two r j).2;omega
 .rcases y with rfl|⟨a,x,rfl,F⟩
  .clear l
   induction n generalizing r with
   |zero=>rw[d.Iu,h.tar];omega
   |succ n ih=>
    obtain⟨b,f,c⟩:=d.next;exact (i b (ih b c) A9 r f).1
  .have G:=h.two a A9;by_cases z:n+1<=A p
   .exact h.lev r n d z
   .have H:n=A p:=A7;obtain⟨m,B⟩:∃m,n=m+1:=⟨n-1,by have:=h.pos;omega⟩;subst B;obtain⟨b,f,c⟩:=d.next;have v:=h.lev b m c A7;have C:=(h.fin b v).unique c;refine (i b v (λg=>?_) r f).1;have D:=QR.1 h.mono;rcases Qr.1 g with e|e
    .rw[e] at C;omega
    .have:=D.1 b e;omega
theorem pG.found(h:pG E t p L A Q)(f:E t p):bn E (A p) t t/\(∀m,1<=m->m<A p->¬bn E m t t)/\∀r n,n+1<=A p->(A r=n+1↔Far E t n r):=by
 have x:=h.pos;have a:∀r n,n+1<=A p->(A r=n+1↔Far E t n r):=λr n i=>by
  constructor
  .intro e;have:=h.fin r A7;rw[e,Nat.add_sub_cancel] at this;exact this
  .intro c;have d:=h.lev r n c i;have:=(h.fin r d).unique c;omega
 refine⟨?_,λm d y j=>?_,a⟩
 .have:=bn.step f (h.fin p h.pos).1;rw[show A p-1+1=A p by omega] at this;exact this
 .obtain⟨q,k⟩:∃q,m=q+1:=⟨m-1,A7⟩;subst k;obtain⟨b,l,s⟩:=j.first
  obtain⟨n,z,v⟩:=s.far;have w:=(a b n A7).2 v;refine (h.don b A7 (λg=>?_) (λe=>?_) t l).2 rfl
  .have:=(h.two b g).1;omega
  .rw[e] at w;omega
theorem Bfs.none(h:Bfs E t A []):∀m,1<=m->¬bn E m t t:=λm i a=>by
 obtain⟨q,c⟩:∃q,m=q+1:=⟨m-1,A7⟩;subst c;obtain⟨b,d,e⟩:=a.first
 obtain⟨n,_,f⟩:=e.far;exact (h.don b (h.lev b n f (.inl rfl)) A9 t d).2 rfl
end
theorem E8{p:Prop}(h:p:=by (repeat (first | (with_reducible exact K_.refl _) | (with_reducible assumption) | apply K_.drew))):p:=h
theorem F3{p:Prop}(h:p:=by (rw[PW];omega)):p:=h
theorem F4{p:Prop}(h:p:=by (repeat (first | (with_reducible exact K_.refl _) | apply K_.alloc | apply K_.drewN | apply K_.drew))):p:=h
theorem F5{p:Prop}(h:p:=by (repeat (first | apply K_.alloc | exact K_.refl _))):p:=h
theorem F6{p:Prop}(h:p:=by (repeat (first | (with_reducible exact K_.refl _) | (with_reducible assumption) | apply K_.drew | apply K_.alloc))):p:=h
theorem F7{p:Prop}(h:p:=by (rw[World.putObj_size];exact Pw _)):p:=h
theorem G5{p:Prop}(h:p:=by (repeat (first | apply K_.drew | assumption))):p:=h
theorem G8{p:Prop}(h:p:=by (repeat (first | apply K_.drew | apply K_.alloc | exact K_.refl _))):p:=h
theorem H5{p:Prop}(h:p:=by (rw[QE];omega)):p:=h
theorem H6{p:Prop}(h:p:=by (rw[QJ (by omega)])):p:=h
theorem H8{p:Prop}(h:p:=by (repeat (first | apply K_.drew | apply K_.alloc | exact K_.refl _ | assumption))):p:=h
theorem I1{p:Prop}(h:p:=by (repeat (first | apply K_.drew | exact K_.refl _ | assumption))):p:=h
theorem I7{p:Prop}(h:p:=by (repeat (first | exact Xj.refl _ _ _ | exact Xj.ak (by assumption) | apply Xj.drew | (refine Xj.setCell ?_ (by simp) (by simp) _) | apply Xj.alloc))):p:=h
theorem J3{p:Prop}(h:p:=by (repeat (first | (refine K_.setCell ?_ (by simp <;> omega) _) | (with_reducible exact K_.refl _) | (with_reducible assumption) | apply K_.drew | apply K_.alloc))):p:=h
theorem J4{p:Prop}(h:p:=by (repeat (first | (refine K_.setCell ?_ (by simp) _) | apply K_.alloc | exact K_.refl _))):p:=h
