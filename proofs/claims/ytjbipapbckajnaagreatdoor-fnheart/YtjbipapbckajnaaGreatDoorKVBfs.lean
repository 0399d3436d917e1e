import Derived.WalkKit
import Derived.Deep.Draws
import Derived.Deep.MidRow
import Derived.Deep.OwnRows
namespace Go.Proofs.YtjbipapbckajnaaGreatDoor
open Go.RowKit
abbrev _root_.Go.Value.a(x:Int):Value:=.int .i64 x
abbrev M0:Value:=.slice none 0 0
abbrev _root_.Go.Value.b(b n c:Nat):Value:=.slice (some ⟨b,0,none⟩) n c
abbrev _root_.Go.Value.c(b:Nat):Value:=.pointer (some ⟨b,0,none⟩)
theorem E5{p:Prop}(h:p:=by omega):p:=h
theorem E8{p:Prop}(h:p:=by decide):p:=h
theorem E9{p:Prop}(h:p:=by simp):p:=h
theorem F3{p:Prop}(h:p:=by go_num):p:=h
theorem F4{p:Prop}(h:p:=by kernel_rfl):p:=h
theorem F5{p:Prop}(h:p:=by (unfold maxLen;omega)):p:=h
theorem F6{p:Prop}(h:p:=by (simp;omega)):p:=h
theorem F7{p:Prop}(h:p:=by (simp <;> omega)):p:=h
theorem F8{p:Prop}(h:p:=by (simp[Act.eval])):p:=h
theorem G5{p:Prop}(h:p:=by rfl):p:=h
theorem G6{p:Prop}(h:p:=by (simp[IntKind.wrap,IntKind.bits,IntKind.signed];omega)):p:=h
theorem H8{p:Prop}(h:p:=by assumption):p:=h
theorem I1{p:Prop}(h:p:=by (show (-1000:Int)<=0;omega)):p:=h
theorem I4{p:Prop}(h:p:=by (show (0:Int)<=1000;omega)):p:=h
theorem I7{p:Prop}(h:p:=by (rw[Int.tmod_eq_emod_of_nonneg (by omega)];omega)):p:=h
theorem I9{p:Prop}(h:p:=by (simp[List.getD])):p:=h
theorem J2{p:Prop}(h:p:=by (unfold maxLen;simp;omega)):p:=h
theorem J5{p:Prop}(h:p:=by (simp[Value.oneCell'])):p:=h
theorem J8{p:Prop}(h:p:=by (rw[IntKind.wrap_i64];omega)):p:=h
theorem J9{p:Prop}(h:p:=by (rw[List.length_drop];omega)):p:=h
theorem L6{p:Prop}(h:p:=by (show (-1000:Int)<=0/\(0:Int)<=1000;decide)):p:=h
theorem L9{p:Prop}(h:p:=by (rw[Int.tdiv_eq_ediv_of_nonneg (by omega)];omega)):p:=h
abbrev NG:=ByteArray
abbrev NH:=Option Addr
abbrev NI:=World
abbrev NJ:=Value
theorem Me:type_of% @Nat.le_refl:=@Nat.le_refl
theorem Mf:type_of% @Nat.lt_of_lt_of_le:=@Nat.lt_of_lt_of_le
theorem Mg:type_of% @Nat.zero_le:=@Nat.zero_le
theorem Mh:type_of% @Nat.le_trans:=@Nat.le_trans
theorem Mi:type_of% @World.rangeAt_setCells_same:=@World.rangeAt_setCells_same
theorem Mj:type_of% @List.getElem?_eq_getElem:=@List.getElem?_eq_getElem
theorem Mk:type_of% @List.getElem?_eq_some_iff:=@List.getElem?_eq_some_iff
theorem Ml:type_of% @List.take_succ_eq_append_getElem:=@List.take_succ_eq_append_getElem
theorem Mm:type_of% @List.mem_singleton:=@List.mem_singleton
theorem Mo:type_of% @List.mem_append:=@List.mem_append
theorem Mq:type_of% @List.getElem_mem:=@List.getElem_mem
theorem Mr:type_of% @List.pairwise_iff_getElem:=@List.pairwise_iff_getElem
theorem Ms:type_of% @List.getElem_of_mem:=@List.getElem_of_mem
theorem Mt:type_of% @World.cell?_of_block:=@World.cell?_of_block
theorem Mv:type_of% @List.mem_of_getElem?:=@List.mem_of_getElem?
theorem Mw:type_of% @List.length_eq_zero_iff:=@List.length_eq_zero_iff
theorem Mx:type_of% @World.rangeAt_setCells_apart:=@World.rangeAt_setCells_apart
theorem MB:type_of% @List.mem_cons_of_mem:=@List.mem_cons_of_mem
theorem MC:type_of% @List.getElem?_set_ne:=@List.getElem?_set_ne
theorem ME:type_of% @World.cell?_setCell_other:=@World.cell?_setCell_other
theorem MF:type_of% @Option.isSome_iff_exists:=@Option.isSome_iff_exists
theorem MG:type_of% @List.length_take:=@List.length_take
theorem MH:type_of% @List.mem_map:=@List.mem_map
theorem MI:type_of% @Nat.le_of_eq:=@Nat.le_of_eq
theorem MJ:type_of% @Nat.lt_succ_self:=@Nat.lt_succ_self
theorem MK:type_of% @List.pairwise_append:=@List.pairwise_append
theorem ML:type_of% @World.ownsRow_made:=@World.ownsRow_made
theorem MM:type_of% @Nat.zero_add:=@Nat.zero_add
theorem MN:type_of% @List.take_length:=@List.take_length
theorem MO:type_of% @List.take_of_length_le:=@List.take_of_length_le
theorem MP:type_of% @Option.mem_toList:=@Option.mem_toList
theorem MQ:type_of% @List.getElem_take:=@List.getElem_take
theorem MR:type_of% @Array.getElem?_eq_some_iff:=@Array.getElem?_eq_some_iff
theorem MS:type_of% @World.size_alloc:=@World.size_alloc
theorem MU:type_of% @List.length_append:=@List.length_append
theorem MV:type_of% @Option.some.injEq:=@Option.some.injEq
theorem MW:type_of% @Value.slice.injEq:=@Value.slice.injEq
theorem MX:type_of% @List.length_cons:=@List.length_cons
theorem MZ:type_of% @Addr.add_mid:=@Addr.add_mid
theorem M_:type_of% @Nat.add_zero:=@Nat.add_zero
theorem Na:type_of% @List.mem_cons:=@List.mem_cons
theorem Nb:type_of% @List.not_mem_nil:=@List.not_mem_nil
theorem Nc:type_of% @World.ownsRow_nil:=@World.ownsRow_nil
theorem Nf:type_of% @List.mem_map_of_mem:=@List.mem_map_of_mem
theorem Ng:type_of% @Option.some.inj:=@Option.some.inj
theorem Nh:type_of% @List.set_cons_succ:=@List.set_cons_succ
theorem Ni:type_of% @List.getElem?_append_left:=@List.getElem?_append_left
theorem Nj:type_of% @List.getElem?_append_right:=@List.getElem?_append_right
theorem Nk:type_of% @List.take_append_drop:=@List.take_append_drop
theorem Nl:type_of% @World.cell?_setCell_same:=@World.cell?_setCell_same
theorem Nn:type_of% @List.length_map:=@List.length_map
theorem Np:type_of% @List.length_set:=@List.length_set
theorem Nq:type_of% @List.getElem?_set_self:=@List.getElem?_set_self
theorem Nr:type_of% @List.drop_eq_getElem_cons:=@List.drop_eq_getElem_cons
theorem Ns:type_of% @Nat.lt_trichotomy:=@Nat.lt_trichotomy
theorem Nt:type_of% @if_pos:=@if_pos
theorem Nu:type_of% @if_neg:=@if_neg
theorem Nv{a b:Prop}(h:a)(g:¬a):b:=_root_.absurd h g
theorem Nw:type_of% @Option.getD_some:=@Option.getD_some
theorem Ny:type_of% @List.map_append:=@List.map_append
theorem Nz:type_of% @List.eq_nil_of_length_eq_zero:=@List.eq_nil_of_length_eq_zero
theorem NA:type_of% @decide_eq_true_eq:=@decide_eq_true_eq
theorem NB:type_of% @List.length_singleton:=@List.length_singleton
theorem NC:type_of% @List.pairwise_cons:=@List.pairwise_cons
theorem ND:type_of% @Addr.mk.injEq:=@Addr.mk.injEq
theorem NE:type_of% @List.getElem?_toArray:=@List.getElem?_toArray
theorem NF:type_of% @List.getElem_set:=@List.getElem_set
variable {p : Prop}
theorem Kz(h:p):Hid p:=h
theorem bf(h:Hid p):p:=h
theorem _root_.Go.RowKit.Hid.o(h:Hid p):p:=h
variable {q : Prop}
theorem aH(a:p)(b:q):Hid p/\Hid q:=⟨a,b⟩
theorem dF{r:Prop}(a:p)(b:q)(c:r):Hid p/\Hid q/\Hid r:=⟨a,b,c⟩
theorem mM{r s:Prop}(a:p)(b:q)(c:r)(d:s):Hid p/\Hid q/\Hid r/\Hid s:=⟨a,b,c,d⟩
theorem iZ{r s t:Prop}(a:p)(b:q)(c:r)(d:s)(e:t):Hid p/\Hid q/\Hid r/\Hid s/\Hid t:=⟨a,b,c,d,e⟩
theorem aj{α:Sort _}(a:α):∃x,x=a:=⟨_,rfl⟩
structure bO where
 text:NG
 goto:Int
structure Xq where
 asks:List NG
 on:Int
 cases:List bO
 els:Int
 fall:Int
 fin:Bool
 bad:Bool
 give:NG
structure fJ where
 cost:Int
 steps:List Xq
def bO.zero :bO:=⟨ByteArray.empty,0⟩
def Xq.zero :Xq:=⟨[],0,[],0,0,false,false,ByteArray.empty⟩
def In64(n:Int):Prop:= -9223372036854775808<=n/\n<=9223372036854775807
def Strs(w:NI)(a:NH)(l:List NG):Prop:=
 ∀i,i<l.length->∃b o,a=some ⟨b,o,none⟩/\b<w.heap.size/\w.cell? ⟨b,o+i,none⟩=some (.string (l.getD i ByteArray.empty))
def K_(w w':NI):Prop:=Below w.heap.size w w'
theorem K_.refl(w:NI):K_ w w:=Below.refl _ _
variable {a : NI}
theorem K_.trans{b c:NI}(h:K_ a b)(k:K_ b c):K_ a c:=
 Below.trans h (Below.mono k h.size)
theorem K_.drewN{b:NI}(h:K_ a b)(n:Nat):K_ a (b.drewN n):=⟨h.os,h.tape,h.output,h.size,h.block⟩
theorem K_.drew{b:NI}(h:K_ a b):K_ a b.drew:=Below.drew h
theorem K_.alloc{b:NI}(h:K_ a b)(o:Obj):K_ a (b.alloc o):=Below.alloc h h.size o
theorem ah(w:NI)(o:Obj):K_ w (w.alloc o):=K_.alloc (K_.refl w) o
theorem aV(w:NI):K_ w w.drew:=K_.drew (K_.refl w)
variable {n : Nat}
theorem aO(h:n<0):p:=(Nat.not_lt_zero n h).elim
theorem K_.setCell{b:NI}(h:K_ a b){p:Addr}(d:a.heap.size<=p.block)(v:NJ):K_ a (b.setCell p v):=Below.setCell h d v
theorem K_.setCells{g:Nat}(c:a.heap.size<=g):∀(vs:List NJ) (o:Nat) {b:NI},K_ a b->K_ a (b.setCells g o vs)
 | [],_,_,h=>h
 | v :: r,o,_,h=>by
  rw[World.setCells];exact K_.setCells c r (o+1) (K_.setCell h c v)
variable {b : Nat} {w w' : NI}
theorem K_.cell(h:K_ w w'){o:Nat}(c:b<w.heap.size):w'.cell? ⟨b,o,none⟩=w.cell? ⟨b,o,none⟩:=
 Below.cell h (p:=⟨b,o,none⟩) c
theorem K_.rules{W w1:NI}(c:K_ W w1):(∀b o,b<W.heap.size->w1.cell? ⟨b,o,none⟩=W.cell? ⟨b,o,none⟩)/\(∀b o,b<W.heap.size->w1.frozen? ⟨b,o,none⟩=W.frozen? ⟨b,o,none⟩):=
 ⟨λb o h=>Below.cell c (p:=⟨b,o,none⟩) h,λb o h=>Below.frozen c (p:=⟨b,o,none⟩) h⟩
theorem K_.size(h:K_ w w'):w.heap.size<=w'.heap.size:=Below.size h
variable {l : List NG}
theorem Strs.kept{a:NH}(h:Strs w a l)(k:K_ w w'):Strs w' a l:=by
 intro i c;obtain⟨d,o,e,b,f⟩:=h i c;exact⟨d,o,e,Mf b k.size,by rw[k.cell b,f]⟩
variable {cs : List NJ}
theorem K_.range(h:K_ w w'){o:Nat}(a:b<w.heap.size)(c:w.rangeAt b o cs):w'.rangeAt b o cs:=
 λj v d=>by rw[h.cell a];exact c j v d
theorem size_setCell(w:NI)(p:Addr)(v:NJ):(w.setCell p v).heap.size=w.heap.size:=by simp[World.setCell]
def Row(w:NI)(b n:Nat):Prop:=∃t f,w.rowIs b t n f
theorem Row.lt(h:Row w b n):b<w.heap.size:=let ⟨_,_,h⟩:=h;h.lt
theorem Row.there(h:Row w b n){o m:Nat}(a:o+m<=n):w.there b o m:=by
 obtain⟨t,f,h⟩:=h;intro j c;exact⟨by rw[h.cell E5];rfl,h.frozen _⟩
theorem Row.kept(h:Row w b n)(k:K_ w w'):Row w' b n:=by
 have c:=h.lt;obtain⟨t,f,h⟩:=h;exact⟨t,f,h.of_block (k.block b c)⟩
theorem Row.set(h:Row w b n)(p:Addr)(a:p.spot=none)(v:NJ):Row (w.setCell p v) b n:=by
 obtain⟨t,f,h⟩:=h;by_cases e:b=p.block
 .subst e;obtain⟨d,c,i⟩:=p;subst a;exact⟨t,_,h.set c v⟩
 .exact⟨t,f,h.setOther e v⟩
theorem Row.setCells{g:Nat}:∀(vs:List NJ) (o:Nat) {w:NI},Row w b n->Row (w.setCells g o vs) b n
 | [],_,_,h=>h
 | v :: r,o,_,h=>by
  rw[World.setCells];exact Row.setCells r (o+1) (h.set ⟨g,o,none⟩ rfl v)
theorem Row.made(w:NI)(c:Array NJ)(t:TypeId):Row (w.alloc (.cells c t)) w.heap.size c.size:=
 ⟨t,λi=>c.getD i undef,World.rowIs_alloc w c t _ (λi b=>by simp[Array.getD,b])⟩
theorem Row.alloc(h:Row w b n)(o:Obj):Row (w.alloc o) b n:=by
 obtain⟨t,f,h⟩:=h;exact⟨t,f,h.alloc o⟩
theorem Zx{P:Program}{e:Func}{R:Ending->NI->Prop}{a:Act}{p:Tmp}{c:TypeId}(cs:List NJ)(d:TypeDesc)(h:e.results= #[.cell p c])
 (f:a.tmps.getD p undef= .c b) (i:w.rangeAt b 0 cs) (j:P.underlying c=some d) (k:d.isRow=true) (hi:(P.info? c).map (·.size)=some cs.length)
 (l:a.defers=[]) (m:R (.returned (.agg cs.toArray)) w):bodyPost P e R .ret a w:=by
 refine bodyPost_ret ?_ l m;have n:a.tmps[p]?.getD undef= .c b:=by simpa using f
 simp only[results,h];simp[n,asAddr,run_loadVar_mid w b 0 c cs d i j k hi]
theorem qj{P:Program}(t e:TypeId)(z:NJ)(size b:Nat)(j:P.underlying t=some (.slice e))(k:(P.info? e).map (λi=>(i.zero,i.size,i.bytes))=some (some z,size,b))
  (c d:IntKind) (n:Nat) (v:b*n<=281474976710656) (x:n<=9223372036854775807) (w:NI):
  (Instr.makeSlice t (.int c (n:Int)) (.int d (n:Int))).run P w= .ok (.b w.heap.size n n) (w.alloc (.cells (madeCells z.cells (n*size)) e)):=by
 obtain⟨i,l,f⟩:=Option.map_eq_some_iff.1 k;simp only[Prod.mk.injEq] at f;obtain⟨m,p,q⟩:=f;have r:(i.bytes:Int)*(n:Int)<=281474976710656:=by
  have s:((i.bytes*n:Nat):Int)<=281474976710656:=by rw[q];omega
  rwa [Int.natCast_mul] at s
 have h:=run_make (P:=P) w t e i z j l m c d n n E5 (Int.le_refl _) r E5;simp only[Int.toNat_natCast,p] at h;exact h
def bO.cells(c:bO):List NJ:=[.string c.text,.a c.goto]
def kP(w:NI)(a:NH)(l:List bO):Prop:=
 ∀i,i<l.length->∃b o,a=some ⟨b,o,none⟩/\b<w.heap.size/\w.rangeAt b (o+i*2) (l.getD i bO.zero).cells
theorem kP.kept{a:NH}{l:List bO}(h:kP w a l)(k:K_ w w'):kP w' a l:=by
 intro i c;obtain⟨d,o,e,b,f⟩:=h i c;exact⟨d,o,e,Mf b k.size,k.range b f⟩
def Xq.cells(s:Xq)(aa:NH)(ca:Nat)(ac:NH)(cc:Nat):List NJ:=
 [.slice aa s.asks.length ca,.a s.on,.slice ac s.cases.length cc,.a s.els,.a s.fall,.bool s.fin,.bool s.bad,.string s.give]
theorem Xq.one(s:Xq)(a:NH)(b:Nat)(c:NH)(d:Nat):(s.cells a b c d).toArray.all (·.oneCell')=true:=
 all_oneCell_toArray (by simp[Xq.cells,Value.oneCell'])
def Aa(w:NI)(cs:List NJ)(s:Xq):Prop:=
 ∃aa ca ac cc,cs=s.cells aa ca ac cc/\Strs w aa s.asks/\kP w ac s.cases/\s.asks.length<=ca
theorem Aa.kept{s:Xq}(h:Aa w cs s)(k:K_ w w'):Aa w' cs s:=by
 obtain⟨a,b,c,d,e,f,i,j⟩:=h;exact⟨a,b,c,d,e,f.kept k,i.kept k,j⟩
def Steps(w:NI)(a:NH)(l:List Xq):Prop:=
 ∀i,i<l.length->∃b o cs,a=some ⟨b,o,none⟩/\b<w.heap.size/\w.rangeAt b (o+i*8) cs/\Aa w cs (l.getD i Xq.zero)
theorem Steps.kept{a:NH}{l:List Xq}(h:Steps w a l)(k:K_ w w'):Steps w' a l:=by
 intro i c;obtain⟨d,o,e,f,b,j,m⟩:=h i c;exact⟨d,o,e,f,Mf b k.size,k.range b j,m.kept k⟩
structure Xq.Fits (s:Xq):Prop where
 asks:s.asks.length<=maxLen
 eO:∀x∈s.asks,x.size<=maxLen
 on:In64 s.on
 cases:s.cases.length<=maxLen
 dB:∀c∈s.cases,c.text.size<=maxLen/\In64 c.goto
 els:In64 s.els
 fall:In64 s.fall
 give:s.give.size<=maxLen
theorem uX{k:IntKind}{a b:Int}(h:a=b):Ending.returned (.int k a)= .returned (.int k b):=by rw[h]
def sumTo{α:Type}(f:α->Nat)(l:List α)(k:Nat):Nat:=((l.take k).map f).sum
theorem Di{α:Type}(f:α->Nat)(l:List α):sumTo f l 0=0:=by simp[sumTo]
theorem DK{α:Type}(f:α->Nat)(l:List α)(d:α)(k:Nat)(h:k<l.length):sumTo f l (k+1)=sumTo f l k+f (l.getD k d):=by
 unfold sumTo;rw[Ml h,Ny,List.sum_append];simp[List.getD,h]
theorem FM{α:Type}(f:α->Nat)(l:List α):sumTo f l l.length= (l.map f).sum:=by simp[sumTo]
theorem sumTo_le{α:Type}(f:α->Nat)(l:List α)(k:Nat):sumTo f l k<=(l.map f).sum:=by
 have e:(l.map f).sum= ((l.take k).map f).sum+ ((l.drop k).map f).sum:=by rw[<-List.sum_append,<-Ny,Nk]
 unfold sumTo;omega
structure Xj (lo hi:Nat) (w w':NI):Prop where
 os:w'.os=w.os
 tape:w'.tape=w.tape
 output:w'.output=w.output
 size:w.heap.size<=w'.heap.size
 block:∀k,k<w.heap.size->(k<lo\/hi<=k)->w'.heap[k]? =w.heap[k]?
variable {hi lo : Nat}
theorem Xj.ax(h:K_ w w'):Xj lo hi w w':=⟨h.os,h.tape,h.output,h.size,λk c _=>h.block k c⟩
theorem Xj.refl(lo hi:Nat)(w:NI):Xj lo hi w w:= .ax (K_.refl w)
theorem Xj.trans{b c:NI}(h:Xj lo hi a b)(k:Xj lo hi b c):Xj lo hi a c:=
 ⟨k.os.trans h.os,k.tape.trans h.tape,k.output.trans h.output,Mh h.size k.size,λi d e=>(k.block i (Mf d h.size) e).trans (h.block i d e)⟩
theorem Xj.drew{b:NI}(h:Xj lo hi a b):Xj lo hi a b.drew:=⟨h.os,h.tape,h.output,h.size,h.block⟩
theorem Xj.drewN{b:NI}(h:Xj lo hi a b)(n:Nat):Xj lo hi a (b.drewN n):=⟨h.os,h.tape,h.output,h.size,h.block⟩
theorem Xj.alloc{b:NI}(h:Xj lo hi a b)(o:Obj):Xj lo hi a (b.alloc o):=h.trans (.ax ((K_.refl b).alloc o))
theorem Xj.setCell{b:NI}(h:Xj lo hi a b){p:Addr}(e:lo<=p.block)(h2:p.block<hi)(v:NJ):Xj lo hi a (b.setCell p v):=
 ⟨h.os,h.tape,h.output,by rw[size_setCell];exact h.size,λk c d=>by rw[Below.heap_setCell _ _ _ _ E5];exact h.block k c d⟩
theorem Xj.kept{b:NI}(h:Xj lo hi a b)(c:K_ w a)(e:w.heap.size<=lo):K_ w b:=
 ⟨h.os.trans c.os,h.tape.trans c.tape,h.output.trans c.output,Mh c.size h.size,λk d=>(h.block k (Mf d c.size) E5).trans (c.block k d)⟩
def Same(lo hi:Nat)(w w':NI):Prop:=∀b,lo<=b->b<hi->b<w.heap.size->w'.heap[b]? =w.heap[b]?
theorem Same.mono{a b:Nat}(h:Same lo hi w w')(e:lo<=a)(h2:b<=hi):Same a b w w':=λc f i d=>h c E5 E5 d
theorem K_.same(h:K_ w w')(lo hi:Nat):Same lo hi w w':=λb _ _ c=>h.block b c
theorem Xj.same(h:Xj lo hi w w'){l2 h2:Nat}(d:h2<=lo\/hi<=l2):Same l2 h2 w w':=λb _ _ c=>h.block b c E5
theorem Same.setCell(w:NI){p:Addr}(a:p.block<lo\/hi<=p.block)(v:NJ):Same lo hi w (w.setCell p v):=λb _ _ _=>Below.heap_setCell _ _ _ _ E5
theorem Same.cell(h:Same lo hi w w'){o:Nat}(c:lo<=b)(h2:b<hi)(d:b<w.heap.size):w'.cell? ⟨b,o,none⟩=w.cell? ⟨b,o,none⟩:=Mt (w:=w) (h b c h2 d)
theorem Same.row(h:Same lo hi w w')(d:lo<=b)(h2:b<hi)(a:Row w b n):Row w' b n:=by
 have e:=a.lt;obtain⟨t,f,a⟩:=a;exact⟨t,f,a.of_block (h b d h2 e)⟩
theorem Same.range(h:Same lo hi w w'){o:Nat}(c:lo<=b)(h2:b<hi)(d:b<w.heap.size)(e:w.rangeAt b o cs):w'.rangeAt b o cs:=
 λj v i=>by rw[h.cell c h2 d];exact e j v i
def bX(w:NI)(lo hi:Nat)(a:NH)(l:List NG):Prop:=
 l=[]\/∃b,a=some ⟨b,0,none⟩/\lo<=b/\b<hi/\Row w b l.length/\∀i,i<l.length->w.cell? ⟨b,i,none⟩=some (.string (l.getD i ByteArray.empty))
theorem bX.same{a:NH}(h:bX w lo hi a l)(k:Same lo hi w w'):bX w' lo hi a l:=by
 rcases h with h|⟨b,f,c,d,e,i⟩
 .exact .inl h
 .exact .inr ⟨b,f,c,d,k.row c d e,λj hi=>by rw[k.cell c d e.lt];exact i j hi⟩
theorem bX.mono{c d:Nat}{a:NH}(h:bX w lo hi a l)(j:c<=lo)(h2:hi<=d):bX w c d a l:=by
 rcases h with h|⟨b,e,k,m,f,i⟩
 .exact .inl h
 .exact .inr ⟨b,e,E5,E5,f,i⟩
theorem bX.strs{a:NH}(h:bX w lo hi a l):Strs w a l:=by
 rcases h with rfl|⟨b,c,f,j,d,e⟩
 .intro i hi;simp at hi
 .intro i hi;exact⟨b,0,c,d.lt,by rw[MM];exact e i hi⟩
theorem rangeAt_of_block(h:w'.heap[b]? =w.heap[b]?)(o:Nat):w'.rangeAt b o=w.rangeAt b o:=by
 funext cs
 unfold World.rangeAt;have d:∀j,w'.cell? ⟨b,j,none⟩=w.cell? ⟨b,j,none⟩:=λj=>Mt (w:=w) h
 simp only[d]
theorem Row.at{i:Nat}(h:Row w b n)(hi:i<n):(∃v,w.cell? ⟨b,i,none⟩=some v)/\w.frozen? ⟨b,i,none⟩=false:=by
 obtain⟨t,f,h⟩:=h;exact⟨⟨_,h.cell hi⟩,h.frozen i⟩
theorem Row.yH{m:Nat}(h:Row w b m)(c:5<=m:=by omega):((∃v,w.cell? ⟨b,0,none⟩=some v)/\w.frozen? ⟨b,0,none⟩=false)/\((∃v,w.cell? ⟨b,1,none⟩=some v)/\w.frozen? ⟨b,1,none⟩=false)/\((∃v,w.cell? ⟨b,2,none⟩=some v)/\w.frozen? ⟨b,2,none⟩=false)/\((∃v,w.cell? ⟨b,3,none⟩=some v)/\w.frozen? ⟨b,3,none⟩=false)/\(∃v,w.cell? ⟨b,4,none⟩=some v)/\w.frozen? ⟨b,4,none⟩=false:=⟨h.at E5,h.at E5,h.at E5,h.at E5,h.at E5⟩
theorem Row.EC{m:Nat}(h:Row w b m)(c:7<=m:=by omega):((∃v,w.cell? ⟨b,0,none⟩=some v)/\w.frozen? ⟨b,0,none⟩=false)/\((∃v,w.cell? ⟨b,1,none⟩=some v)/\w.frozen? ⟨b,1,none⟩=false)/\((∃v,w.cell? ⟨b,2,none⟩=some v)/\w.frozen? ⟨b,2,none⟩=false)/\((∃v,w.cell? ⟨b,3,none⟩=some v)/\w.frozen? ⟨b,3,none⟩=false)/\((∃v,w.cell? ⟨b,4,none⟩=some v)/\w.frozen? ⟨b,4,none⟩=false)/\((∃v,w.cell? ⟨b,5,none⟩=some v)/\w.frozen? ⟨b,5,none⟩=false)/\(∃v,w.cell? ⟨b,6,none⟩=some v)/\w.frozen? ⟨b,6,none⟩=false:=⟨h.at E5,h.at E5,h.at E5,h.at E5,h.at E5,h.at E5,h.at E5⟩
theorem aW{o:Nat}(h:Row w b n)(c:o<n)(v:NJ):(w.setCell ⟨b,o,none⟩ v).cell? ⟨b,o,none⟩=some v:=by
 obtain⟨⟨old,d⟩,_⟩:=h.at c;exact Nl _ _ _ d
theorem Xk{o p:Nat}(a:o≠p)(v:NJ):(w.setCell ⟨b,o,none⟩ v).cell? ⟨b,p,none⟩=w.cell? ⟨b,p,none⟩:=
 ME _ _ _ _ F7
variable {xs : List NJ} {base : Nat} {e : TypeId} {v : NJ}
theorem ak{size:Nat}(h:w.ownsRow base e size v n xs)(k:K_ w w'):w'.ownsRow base e size v n xs:=
 h.kept (row:=none) ⟨k.os,k.tape,k.output,k.size,λi c _=>k.block i c⟩ (by cases v.ownBlock <;> simp)
theorem bG{size:Nat}(h:w.ownsRow base e size v n xs){p:Addr}(i:p.block<base)(u:NJ):(w.setCell p u).ownsRow base e size v n xs:=by
 refine⟨h.1, ?_⟩;rcases h.2 with a|⟨g,b,c,rfl,d,f,rest⟩
 .exact .inl a
 .exact .inr ⟨g,b,c,rfl,d,by rw[Below.heap_setCell _ _ _ _ E5];exact f,rest⟩
theorem aK{a:NI}{size:Nat}(k:K_ a w)(b:a.heap.size<=base)(h:w.ownsRow base e size v n xs)(g:w.grownBy w' v.ownBlock):K_ a w':=
 Below.grown k g k.size (λd f=>Mh b (h.lt d f).1)
theorem dM{base' size:Nat}(h:w.ownsRow base e size v n xs)(a:base'<=base):w.ownsRow base' e size v n xs:=by
 refine⟨h.1, ?_⟩;rcases h.2 with b|⟨g,c,d,rfl,f,rest⟩
 .exact .inl b
 .exact .inr ⟨g,c,d,rfl,Mh a f,rest⟩
def aC(t:TypeId)(w w':NI):Prop:=∀(b:Nat) (cur:Array NJ) (u:TypeId) (fr:Nat×Nat),u≠t->w.heap[b]? =some (Obj.cells cur u fr)->w'.heap[b]? =some (Obj.cells cur u fr)
theorem aN{o:Obj}(h:w.heap[b]? =some o):b<w.heap.size:=(MR.1 h).1
theorem aC.refl(t:TypeId)(w:NI):aC t w w:=λ_ _ _ _ _ h=>h
variable {t : TypeId}
theorem aC.trans{b c:NI}(i:aC t a b)(k:aC t b c):aC t a c:=λx e u f h j=>k x e u f h (i x e u f h j)
theorem aC.ax(h:K_ w w'):aC t w w':=λb d u e _ a=>by rw[h.block b (aN a)];exact a
theorem aC.aI{size:Nat}(h:w.ownsRow base t size v n xs)(g:w.grownBy w' v.ownBlock):aC t w w':=by
 intro b f u i d a;rw[g.block b (aN a) ?_]
 .exact a
 .intro e;rcases h.2 with⟨rfl,_⟩|⟨j,k,l,rfl,_,c,_⟩
  .simp[Value.ownBlock] at e
  .simp only[Value.ownBlock,MV] at e;subst e;rw[a] at c;simp only[MV,Obj.cells.injEq] at c;exact d c.2.1
theorem aC.setCell{p:Addr}{b:Array NJ}{c:Nat×Nat}(h:w.heap[p.block]? =some (Obj.cells b t c))(v:NJ):aC t w (w.setCell p v):=by
 intro f i u j d a;rw[Below.heap_setCell _ _ _ _ ?_]
 .exact a
 .intro e;rw[e,h] at a;simp only[MV,Obj.cells.injEq] at a;exact d a.2.1.symm
def aD(w:NI)(b:Nat)(t:TypeId)(n:Nat):Prop:=∃cur:Array NJ,w.heap[b]? =some (Obj.cells cur t (0,0))/\cur.size=n
theorem aD.row(h:aD w b t n):Row w b n:=by
 obtain⟨a,d,c⟩:=h;exact⟨t,λi=>a.getD i undef,a,d,c,λi e=>by simp[Array.getD,c,e]⟩
theorem aD.made(w:NI)(c:Array NJ)(t:TypeId):aD (w.alloc (.cells c t)) w.heap.size t c.size:=⟨c,heap_alloc_new w _,rfl⟩
theorem aD.block(h:aD w b t n)(k:w'.heap[b]? =w.heap[b]?):aD w' b t n:=by
 obtain⟨c,d,e⟩:=h;exact⟨c,k.trans d,e⟩
theorem aD.lt(h:aD w b t n):b<w.heap.size:=let ⟨_,h1,_⟩:=h;aN h1
theorem aD.kept(h:aD w b t n)(k:K_ w w'):aD w' b t n:=h.block (k.block b h.lt)
theorem aD.set{o:Nat}(h:aD w b t n)(v:NJ):aD (w.setCell ⟨b,o,none⟩ v) b t n:=by
 obtain⟨d,c,e⟩:=h;obtain⟨f,k,i,a,j,_⟩:=(aD.row ⟨d,c,e⟩).set ⟨b,o,none⟩ rfl v;have:f=t:=by
  simp only[World.setCell] at a;simp[Array.getElem?_modify,c] at a;exact a.2.symm
 subst this;exact⟨i,a,j⟩
theorem aD.same{o:Nat}(h:aD w b t n)(v:NJ):aC t w (w.setCell ⟨b,o,none⟩ v):=by
 obtain⟨d,c,_⟩:=h;exact aC.setCell (p:=⟨b,o,none⟩) c v
def eU(w:NI)(t:TypeId)(a:NH)(l:List NG):Prop:=
 l=[]\/∃b cur fr,a=some ⟨b,0,none⟩/\w.heap[b]? =some (Obj.cells cur t fr)/\∀i,i<l.length->w.cell? ⟨b,i,none⟩=some (.string (l.getD i ByteArray.empty))
def oN(w:NI)(t:TypeId)(a:NH)(l:List bO):Prop:=
 l=[]\/∃b cur fr,a=some ⟨b,0,none⟩/\w.heap[b]? =some (Obj.cells cur t fr)/\∀i,i<l.length->w.rangeAt b (i*2) (l.getD i bO.zero).cells
variable {u : TypeId}
theorem eU.same{a:NH}(h:eU w t a l)(k:aC u w w')(i:t≠u):eU w' t a l:=by
 rcases h with h|⟨b,c,d,j,e,m⟩
 .exact .inl h
 .have f:=k b c t d i e;exact .inr ⟨b,c,d,j,f,λn p=>by rw[Mt (w:=w) (f.trans e.symm)];exact m n p⟩
theorem eU.strs{a:NH}(h:eU w t a l):Strs w a l:=by
 rcases h with rfl|⟨c,j,k,d,e,f⟩
 .intro i b;simp at b
 .exact λi b=>⟨c,0,d,aN e,by rw[MM];exact f i b⟩
theorem oN.same{a:NH}{l:List bO}(h:oN w t a l)(k:aC u w w')(i:t≠u):oN w' t a l:=by
 rcases h with h|⟨b,c,d,j,e,m⟩
 .exact .inl h
 .have f:=k b c t d i e;exact .inr ⟨b,c,d,j,f,λn p q v r=>by rw[Mt (w:=w) (f.trans e.symm)];exact m n p q v r⟩
theorem oN.cases{a:NH}{l:List bO}(h:oN w t a l):kP w a l:=by
 rcases h with rfl|⟨c,j,k,d,e,f⟩
 .intro i b;simp at b
 .exact λi b=>⟨c,0,d,aN e,by rw[MM];exact f i b⟩
def lw(w:NI)(ts tc:TypeId)(cs:List NJ)(s:Xq):Prop:=∃aa ca ac cc,cs=s.cells aa ca ac cc/\eU w ts aa s.asks/\oN w tc ac s.cases/\s.asks.length<=ca
theorem lw.same{a b:TypeId}{s:Xq}(h:lw w a b cs s)(k:aC u w w')(c:a≠u)(h2:b≠u):lw w' a b cs s:=by
 obtain⟨d,e,f,i,j,l,m,n⟩:=h;exact⟨d,e,f,i,j,l.same k c,m.same k h2,n⟩
def fB(w:NI)(ts tc:TypeId)(xs:List NJ)(l:List Xq):Prop:=
 xs.length=l.length*8/\∀i,i<l.length->lw w ts tc ((xs.drop (i*8)).take 8) (l.getD i Xq.zero)
theorem fB.nil(w:NI)(a b:TypeId):fB w a b [] []:=⟨rfl,λi c=>by simp at c⟩
theorem fB.same{a b:TypeId}{l:List Xq}(h:fB w a b xs l)(k:aC u w w')(d:a≠u)(h2:b≠u):fB w' a b xs l:=
 ⟨h.1,λi f=>(h.2 i f).same k d h2⟩
theorem fB.snoc{a b:TypeId}{l:List Xq}{k:Nat}(q:k<l.length)(h:fB w a b xs (l.take k))(e:lw w a b cs (l.getD k Xq.zero)):fB w a b (xs++cs) (l.take (k+1)):=by
 have n:cs.length=8:=by obtain⟨_,_,_,_,rfl,_⟩:=e;rfl
 have f:(l.take k).length=k:=by rw[MG];omega
 have j:xs.length=k*8:=by rw[h.1,f]
 refine⟨by rw[MU,MG,j,n,Nat.min_eq_left E5];omega,λi p=>?_⟩;rw[MG] at p;by_cases m:i<k
 .have c:(l.take (k+1)).getD i Xq.zero= (l.take k).getD i Xq.zero:=by simp[List.getD,m,(E5:i<k+1)]
  have d:((xs++cs).drop (i*8)).take 8= (xs.drop (i*8)).take 8:=by
   rw[List.drop_append_of_le_length E5,List.take_append_of_le_length J9]
  rw[c,d];exact h.2 i (by rw[f];exact m)
 .obtain rfl:i=k:=E5;have c:(l.take (i+1)).getD i Xq.zero=l.getD i Xq.zero:=I9;have d:((xs++cs).drop (i*8)).take 8=cs:=by
   rw[<-j,List.drop_left,MO E5]
  rw[c,d];exact e
theorem aQ{size:Nat}(h:w.ownsRow base e size v n xs)(k:aC u w w')(b:e≠u):w'.ownsRow base e size v n xs:=by
 refine⟨h.1, ?_⟩;rcases h.2 with c|⟨g,d,a,rfl,f,i,rest⟩
 .exact .inl c
 .exact .inr ⟨g,d,a,rfl,f,k g a e _ b i,rest⟩
theorem ay{size:Nat}(h:w.ownsRow base e size v n xs):∃a b,v= .slice a n b:=by
 rcases h.2 with⟨rfl,rfl⟩|⟨g,b,d,rfl,_⟩
 .exact⟨none,0,rfl⟩
 .exact⟨_,b,rfl⟩
theorem X_(w:NI)(c:Array NJ)(t:TypeId):(w.alloc (.cells c t)).rangeAt w.heap.size 0 c.toList:=λj v a=>by
 rw[MM,World.cell?_alloc_mark];simpa using a
theorem Xj.below{wr c:NI}(h:Xj lo hi w wr)(b:Below w.heap.size wr c):Xj lo hi w c:=
 ⟨b.os.trans h.os,b.tape.trans h.tape,b.output.trans h.output,Mh h.size b.size,λk e f=>(b.block k e).trans (h.block k e f)⟩
def Says(e:Ending)(p:Prop):Prop:=∃r,e= .returned (.bool r)/\(r=true↔p)
theorem Says.yes(h:p):Says (.returned (.bool true)) p:=⟨true,rfl,by simp[h]⟩
theorem Says.no(h:¬p):Says (.returned (.bool false)) p:=⟨false,rfl,by simp[h]⟩
theorem Says.cases{e:Ending}(h:Says e p):(e= .returned (.bool true)/\p)\/(e= .returned (.bool false)/\¬p):=by
 obtain⟨r,rfl,a⟩:=h;cases r
 .right;exact⟨rfl,λd=>by simpa using a.2 d⟩
 .left;exact⟨rfl,a.1 rfl⟩
theorem Says.dec(p:Prop)[Decidable p]:Says (.returned (.bool (decide p))) p:=⟨decide p,rfl,E9⟩
theorem Says.congr{e:Ending}(h:Says e p)(b:p↔q):Says e q:=by
 obtain⟨r,rfl,d⟩:=h;exact⟨r,rfl,d.trans b⟩
theorem oZ{s t:NG}:(t.toList == s.toList)=true↔t=s:=by
 rw[ByteArray.toList_eq,ByteArray.toList_eq];constructor
 .intro h;cases s;cases t;simp at h;simp[h]
 .rintro rfl;simp
theorem rX{s t:NG}(h:(t.toList == s.toList)=false):t≠s:=λe=>by rw[oZ.2 e] at h;cases h
theorem sI(s:NG):s.toList=[]↔s.size=0:=by
 rw[ByteArray.toList_eq,<-Mw,Array.length_toList];exact Iff.rfl
def iK(c:UInt8):Prop:=33<=(c.toNat:Int)/\(c.toNat:Int)<=126/\(c.toNat:Int)≠44
def je(s:NG):Prop:=1<=s.size/\s.size<=20/\(s.toList == [45])=false/\∀i (h:i<s.size),iK s[i]
def rV(l:List NG):Prop:=∀i,i<l.length->je (l.getD i ByteArray.empty)/\∀j,j<i->l.getD j ByteArray.empty≠l.getD i ByteArray.empty
def CaseOk(n:Int)(c:bO):Prop:=c.text.size<=200/\0<=c.goto/\c.goto<n
def Cn(s:Xq):Prop:=s.asks.length=0/\s.on=0/\s.cases.length=0/\s.els=0/\s.fall=0/\s.give.size<=30
def u_(s:Xq)(n:Int):Prop:=
 s.bad=false/\s.give.size=0/\s.asks.length<=5/\rV s.asks/\s.cases.length<=5/\(0<=s.els/\s.els<n)/\(-1<=s.fall/\s.fall<n)/\(s.on=0\/(0<=s.on/\s.on<s.asks.length))
def ed(s:Xq)(n:Int)(i:Nat):Prop:=CaseOk n (s.cases.getD i bO.zero)
def ve(s:Xq)(n:Int):Prop:=∀i,i<s.cases.length->ed s n i
def Fb(s:Xq)(n:Int):Prop:=u_ s n/\ve s n
def kN(s:Xq)(n:Int):Prop:=(s.fin=true->Cn s)/\(s.fin=false->Fb s n)
def gM(a:fJ):Prop:=(1<=a.cost/\a.cost<=20)/\(1<=a.steps.length/\a.steps.length<=20)/\∀i,i<a.steps.length->kN (a.steps.getD i Xq.zero) a.steps.length
structure Xz where
 fail:Bool
 text:NG
def Xz.zero :Xz:=⟨false,ByteArray.empty⟩
def Xz.cells(c:Xz):List NJ:=[.bool c.fail,.string c.text]
def fw(w:NI)(a:NH)(l:List Xz):Prop:=
 ∀i,i<l.length->∃b o,a=some ⟨b,o,none⟩/\b<w.heap.size/\w.rangeAt b (o+i*2) (l.getD i Xz.zero).cells
theorem fw.kept{a:NH}{l:List Xz}(h:fw w a l)(k:K_ w w'):fw w' a l:=by
 intro i c;obtain⟨d,o,e,b,f⟩:=h i c;exact⟨d,o,e,Mf b k.size,k.range b f⟩
section
variable {α ι : Type} (ready : α -> ι -> Prop) (step : α -> ι -> α)
inductive a_ :α->α->Nat->Prop
 | here (s:α):a_ s s 0
 | step (s t:α) (i: ι) (k:Nat) (h:ready s i) (r:a_ (step s i) t k):a_ s t (k+1)
def oJ :Prop:=∀s i j,i≠j->ready s i->ready s j->ready (step s i) j/\step (step s i) j=step (step s j) i
def AtEnd(s:α):Prop:=∀i,¬ready s i
variable {ready step}
theorem a_.trans{s t u:α}{k l:Nat}(h:a_ ready step s t k)(g:a_ ready step t u l):a_ ready step s u (k+l):=by
 induction h with
 | here s=>simpa using g
 | step s t i k h _ ih=>rw[show k+1+l=k+l+1 by omega];exact .step s u i _ h (ih g)
theorem a_.one{s:α}{i: ι}(h:ready s i):a_ ready step s (step s i) 1:= .step s _ i 0 h (.here _)
theorem a_.snoc{s t:α}{k:Nat}(h:a_ ready step s t k){i: ι}(hi:ready t i):a_ ready step s (step t i) (k+1):=h.trans (.one hi)
theorem a_.first(c:oJ ready step):∀{k:Nat} {s t:α},a_ ready step s t k->AtEnd ready t->∀{i: ι},ready s i->∃m,k=m+1/\a_ ready step (step s i) t m:=by
 intro k
 induction k with
 | zero=>
  intro s t h b i a;cases h;exact Nv a (b i)
 | succ k ih=>
  intro s t h b i a;cases h with
  | step _ _ j _ hj hr=>
   by_cases e:j=i
   .subst e;exact⟨k,rfl,hr⟩
   .obtain⟨d,f⟩:=c s i j (Ne.symm e) a hj;obtain⟨l,_⟩:=c s j i e hj a;obtain⟨m,n,p⟩:=ih hr b l;refine⟨k,rfl, ?_⟩;rw[n];refine .step _ _ j _ d ?_;rw[f];exact p
theorem a_.unique(d:oJ ready step):∀{k l:Nat} {s t u:α},a_ ready step s t k->AtEnd ready t->a_ ready step s u l->AtEnd ready u->t=u:=by
 intro k
 induction k with
 | zero=>
  intro l s t u h b g c;cases h;cases g with
  | here=>rfl
  | step _ _ j _ hj _=>exact Nv hj (b j)
 | succ k ih=>
  intro l s t u h b g c;cases h with
  | step _ _ j _ hj hr=>
   obtain⟨m,_,e⟩:=g.first d c hj
   exact ih hr b e c
theorem a_.keeps{P:α->Prop}(c:∀s i,P s->ready s i->P (step s i)){s t:α}{k:Nat}(h:a_ ready step s t k)(b:P s):P t:=by
 induction h with
 | here s=>exact b
 | step s t i k h _ ih=>exact ih (c s i b h)
theorem a_.wide{b:α-> ι ->Prop}(c:∀s i,ready s i->b s i){s t:α}{k:Nat}(h:a_ ready step s t k):a_ b step s t k:=by
 induction h with
 | here s=>exact .here s
 | step s t i k h _ ih=>exact .step s t i k (c s i h) ih
end
section
variable {α : Type} (E : α -> α -> Prop)
inductive aZ :Nat->α->α->Prop
 | here (a:α):aZ 0 a a
 | step {n:Nat} {a b c:α} (h:E a b) (r:aZ n b c):aZ (n+1) a c
def Far(t:α)(n:Nat)(a:α):Prop:=aZ E n a t/\∀m,m<n->¬aZ E m a t
end
section
variable {α : Type} {E : α -> α -> Prop}
theorem aZ.trans{n m:Nat}{a b c:α}(h:aZ E n a b)(g:aZ E m b c):aZ E (n+m) a c:=by
 induction h with
 | here a=>rw[MM];exact g
 | step h _ ih=>rw[show∀k:Nat,k+1+m=k+m+1 from λk=>E5];exact .step h (ih g)
theorem aZ.one{a b:α}(h:E a b):aZ E 1 a b:= .step h (.here b)
theorem aZ.zero{a b:α}(h:aZ E 0 a b):a=b:=by
 generalize d:(0:Nat)=n at h;cases h with
 | here=>rfl
 | step=>cases d
theorem aZ.first{n:Nat}{a c:α}(h:aZ E (n+1) a c):∃b,E a b/\aZ E n b c:=by
 generalize e:n+1=m at h;cases h with
 | here=>cases e
 | step h r=>cases e;exact⟨_,h,r⟩
theorem aZ.far{t:α}:∀{n:Nat} {a:α},aZ E n a t->∃m,m<=n/\Far E t m a:=by
 intro n
 induction n using Nat.strongRecOn with
 | ind n ih=>
  intro a h;by_cases d:∃m,m<n/\aZ E m a t
  .obtain⟨m,b,c⟩:=d;obtain⟨q,f,e⟩:=ih m b c;exact⟨q,E5,e⟩
  .exact⟨n,Me _,h,λm b c=>d ⟨m,b,c⟩⟩
theorem Far.unique{t a:α}{n m:Nat}(h:Far E t n a)(g:Far E t m a):n=m:=by
 rcases Ns n m with e|e|e
 .exact Nv h.1 (g.2 n e)
 .exact e
 .exact Nv g.1 (h.2 m e)
theorem Far.zero(t:α):Far E t 0 t:=⟨.here t,λ_m h=>aO h⟩
theorem Far.Fe{t a:α}(h:Far E t 0 a):a=t:=h.1.zero
theorem Far.next{t a:α}{n:Nat}(h:Far E t (n+1) a):∃b,E a b/\Far E t n b:=by
 obtain⟨b,c,e⟩:=h.1.first
 obtain⟨m,i,d⟩:=e.far;rcases Nat.lt_or_ge m n with f|f
 .exact Nv (aZ.step c d.1) (h.2 (m+1) E5)
 .have:m=n:=E5;subst this;exact⟨b,c,d⟩
end
variable {L Q : List Nat} {p : Nat} {A : Nat -> Nat}
section
variable {E : Nat -> Nat -> Prop} {t : Nat}
structure Bfs (E:Nat->Nat->Prop) (t:Nat) (A:Nat->Nat) (Q:List Nat):Prop where
 fin:∀p,A p≠0->Far E t (A p-1) p
 q:∀p∈Q,A p≠0
 nd:Q.Nodup
 mono:Q.Pairwise λp r=>A p<=A r
 two:∀h l,Q=h :: l->∀r∈Q,A r<=A h+1
 lev:∀p n,Far E t n p->(Q=[]\/∃h l,Q=h :: l/\n+1<=A h)->A p≠0
 don:∀p,A p≠0->p∉Q->∀r,E r p->A r≠0/\r≠t
 tar:A t=1
structure nP (E:Nat->Nat->Prop) (t:Nat) (p:Nat) (L:List Nat) (A:Nat->Nat) (Q:List Nat):Prop where
 fin:∀r,A r≠0->Far E t (A r-1) r
 q:∀r∈Q,A r≠0
 nd:Q.Nodup
 mono:Q.Pairwise λa b=>A a<=A b
 two:∀r∈Q,A p<=A r/\A r<=A p+1
 lev:∀r n,Far E t n r->n+1<=A p->A r≠0
 don:∀r,A r≠0->r∉Q->r≠p->∀s,E s r->A s≠0/\s≠t
 cur:∀s∈L,A s≠0/\s≠t
 pos:A p≠0
 out:p∉Q
 tar:A t=1
theorem Bfs.start(E:Nat->Nat->Prop)(t:Nat):Bfs E t (λp=>if p=t then 1 else 0) [t]:=by
 refine⟨λp h=>?_,λp h=>?_,E9,E9,λh l e r c=>?_,λp n i h=>?_,λp h j=>?_,E9⟩
 .by_cases e:p=t
  .subst e;simp only[if_true];exact Far.zero p
  .simp[e] at h
 .rw[Mm] at h;simp[h]
 .simp only[List.cons.injEq] at e;rw[Mm] at c;rw[c,<-e.1];simp
 .rcases h with h|⟨h,l,e,d⟩
  .cases h
  .simp only[List.cons.injEq] at e;rw[<-e.1] at d;simp only[if_true] at d;have:n=0:=E5;subst this;rw[i.Fe];simp
 .by_cases e:p=t
  .exact Nv (by rw[e];simp) j
  .simp[e] at h
theorem Bfs.take(h:Bfs E t A (p :: Q)):nP E t p [] A Q:=by
 have b:=List.nodup_cons.1 h.nd;have c:=NC.1 h.mono;refine⟨h.fin,λr a=>h.q r (MB _ a),b.2,c.2,λr a=>⟨c.1 r a,h.two p Q rfl r (MB _ a)⟩,λr n d f=>h.lev r n d (.inr ⟨p,Q,rfl,f⟩),λr a i j=>h.don r a ?_,λs k=>(by cases k),h.q p E9,b.1,h.tar⟩;intro l;rcases Na.1 l with e | e
 .exact j e
 .exact i e
theorem nP.old{s:Nat}(h:nP E t p L A Q)(c:A s≠0)(d:s≠t):nP E t p (L++ [s]) A Q:=
 ⟨h.fin,h.q,h.nd,h.mono,h.two,h.lev,h.don,λr f=>by
  rcases Mo.1 f with e|e
  .exact h.cur r e
  .rw[Mm] at e;rw[e];exact⟨c,d⟩,h.pos,h.out,h.tar⟩
theorem nP.new{s:Nat}(h:nP E t p L A Q)(B:E s p)(l:A s=0)(v:s≠t):nP E t p (L++ [s]) (fun r=>if r=s then A p+1 else A r) (Q++ [s]):=by
 have w:p≠s:=fun e=>h.pos (by rw[e];exact l)
 have j:s∉Q:=fun e=>h.q s e l
 have C:Far E t (A p) s:=by
  have D:=h.fin p h.pos;have N:=h.pos;refine⟨?_,fun m O F=>?_⟩
  ·have:=aZ.step B D.1;rw[show A p-1+1=A p by omega] at this;exact this
  ·obtain⟨G,k,i⟩:=F.far;exact h.lev s G i (by omega) l
 have same:∀r,r≠s->(if r=s then A p+1 else A r)=A r:=fun r e=>Nu e
 have q:(if p=s then A p+1 else A p)=A p:=same p w;refine⟨fun r c=>?_,fun r c=>?_, ?_, ?_,fun r c=>?_,fun r n H y=>?_,fun r c z I x J=>?_,fun r c=>?_,by simp only[q];exact h.pos, ?_, ?_⟩
 ·by_cases e:r=s
  ·subst e;simp only[if_true];rw[Nat.add_sub_cancel];exact C
  ·simp only[same r e] at c⊢;exact h.fin r c
 ·by_cases e:r=s
  ·simp[e]
  ·rw[same r e];rcases Mo.1 c with g|g
   ·exact h.q r g
   ·exact Nv (Mm.1 g) e
 ·rw[List.nodup_append];exact⟨h.nd,by simp,fun a d b f e=>by rw[Mm] at f;rw[e,f] at d;exact j d⟩
 ·rw[MK];refine⟨h.mono.imp_of_mem fun {a b} d f K=>?_,by simp,fun a d b f=>?_⟩
  ·rw[same a (fun e=>j (by rw[<-e];exact d)),same b (fun e=>j (by rw[<-e];exact f))];exact K
  ·rw[Mm] at f;subst f;rw[same a (fun e=>j (by rw[<-e];exact d)),Nt rfl];exact (h.two a d).2
 ·simp only[q];by_cases e:r=s
  ·rw[Nt e];omega
  ·rw[same r e];rcases Mo.1 c with g|g
   ·exact h.two r g
   ·exact Nv (Mm.1 g) e
 ·simp only[q] at y;by_cases e:r=s
  ·rw[Nt e];omega
  ·rw[same r e];exact h.lev r n H y
 ·have M:r≠s:=fun e=>z (by rw[e];simp)
  rw[same r M] at c;obtain⟨k,i⟩:=h.don r c (fun g=>z (Mo.2 (.inl g))) I x J;refine⟨?_,i⟩;by_cases e:x=s
  ·rw[Nt e];omega
  ·rw[same x e];exact k
 ·rcases Mo.1 c with g|g
  ·obtain⟨k,i⟩:=h.cur r g;refine⟨?_,i⟩;by_cases e:r=s
   ·rw[Nt e];omega
   ·rw[same r e];exact k
  ·rw[Mm] at g;rw[g,Nt rfl];exact⟨by omega,v⟩
 ·intro g;rcases Mo.1 g with g|g
  ·exact h.out g
  ·exact w (Mm.1 g)
 ·rw[same t (Ne.symm v)];exact h.tar
theorem nP.ends(h:nP E t p L A Q)(l:∀s,E s p->s∈L):Bfs E t A Q:=by
 have i:∀r,A r≠0->r∉Q->∀s,E s r->A s≠0/\s≠t:=λr j w s k=>by
  by_cases e:r=p
  .rw[e] at k;exact h.cur s (l s k)
  .exact h.don r j w e s k
 refine⟨h.fin,h.q,h.nd,h.mono,λa x e r j=>?_,λr n d y=>?_,i,h.tar⟩
 .have f:=(h.two a (by rw[e];simp)).1;have c:=(h.two r j).2;omega
 .rcases y with rfl|⟨a,x,rfl,F⟩
  .clear l
   induction n generalizing r with
   | zero=>rw[d.Fe,h.tar];omega
   | succ n ih=>
    obtain⟨b,f,c⟩:=d.next;exact (i b (ih b c) E9 r f).1
  .have G:=h.two a E9;by_cases z:n+1<=A p
   .exact h.lev r n d z
   .have H:n=A p:=E5;obtain⟨m,B⟩:∃m,n=m+1:=⟨n-1,by have:=h.pos;omega⟩;subst B;obtain⟨b,f,c⟩:=d.next;have v:=h.lev b m c E5;have C:=(h.fin b v).unique c;refine (i b v (λg=>?_) r f).1;have D:=NC.1 h.mono;rcases Na.1 g with e | e
    .rw[e] at C;omega
    .have:=D.1 b e;omega
theorem nP.found(h:nP E t p L A Q)(f:E t p):aZ E (A p) t t/\(∀m,1<=m->m<A p->¬aZ E m t t)/\∀r n,n+1<=A p->(A r=n+1↔Far E t n r):=by
 have x:=h.pos;have a:∀r n,n+1<=A p->(A r=n+1↔Far E t n r):=fun r n i=>by
  constructor
  ·intro e;have:=h.fin r (by omega);rw[e,Nat.add_sub_cancel] at this;exact this
  ·intro c;have d:=h.lev r n c i;have:=(h.fin r d).unique c;omega
 refine⟨?_,fun m d y j=>?_,a⟩
 ·have:=aZ.step f (h.fin p h.pos).1;rw[show A p-1+1=A p by omega] at this;exact this
 ·obtain⟨q,k⟩:∃q,m=q+1:=⟨m-1,by omega⟩;subst k;obtain⟨b,l,s⟩:=j.first
  obtain⟨n,z,v⟩:=s.far;have w:=(a b n (by omega)).2 v;refine (h.don b (by omega) (fun g=>?_) (fun e=>?_) t l).2 rfl
  ·have:=(h.two b g).1;omega
  ·rw[e] at w;omega
theorem Bfs.none(h:Bfs E t A []):∀m,1<=m->¬aZ E m t t:=λm i a=>by
 obtain⟨q,c⟩:∃q,m=q+1:=⟨m-1,E5⟩;subst c;obtain⟨b,d,e⟩:=a.first
 obtain⟨n,_,f⟩:=e.far;exact (h.don b (h.lev b n f (.inl rfl)) E9 t d).2 rfl
end
theorem F9{p:Prop}(h:p:=by (repeat (first | (with_reducible exact K_.refl _) | (with_reducible assumption) | apply K_.drew))):p:=h
theorem G7{p:Prop}(h:p:=by (rw[World.putObj_size];exact Me _)):p:=h
theorem G8{p:Prop}(h:p:=by (repeat (first | (with_reducible exact K_.refl _) | apply K_.alloc | apply K_.drewN | apply K_.drew))):p:=h
theorem G9{p:Prop}(h:p:=by (rw[MG];omega)):p:=h
theorem H6{p:Prop}(h:p:=by (repeat (first | apply K_.alloc | exact K_.refl _))):p:=h
theorem H7{p:Prop}(h:p:=by (repeat (first | (with_reducible exact K_.refl _) | (with_reducible assumption) | apply K_.drew | apply K_.alloc))):p:=h
theorem I5{p:Prop}(h:p:=by (repeat (first | apply K_.drew | assumption))):p:=h
theorem I6{p:Prop}(h:p:=by (repeat (first | apply K_.drew | apply K_.alloc | exact K_.refl _))):p:=h
theorem I8{p:Prop}(h:p:=by (rw[MS];omega)):p:=h
theorem J3{p:Prop}(h:p:=by (repeat (first | apply K_.drew | apply K_.alloc | exact K_.refl _ | assumption))):p:=h
theorem J4{p:Prop}(h:p:=by (repeat (first | apply K_.drew | exact K_.refl _ | assumption))):p:=h
theorem J6{p:Prop}(h:p:=by (repeat (first | (refine K_.setCell ?_ (by simp) _) | apply K_.alloc | exact K_.refl _))):p:=h
theorem J7{p:Prop}(h:p:=by (repeat (first | exact Xj.refl _ _ _ | exact Xj.ax (by assumption) | apply Xj.drew | (refine Xj.setCell ?_ (by simp) (by simp) _) | apply Xj.alloc))):p:=h
theorem L8{p:Prop}(h:p:=by (repeat (first | (refine K_.setCell ?_ (by simp <;> omega) _) | (with_reducible exact K_.refl _) | (with_reducible assumption) | apply K_.drew | apply K_.alloc))):p:=h
