import Derived.WalkKit
import Derived.Deep.Draws
import Derived.Deep.MidRow
import Derived.Deep.OwnRows
namespace Go.Proofs.YtlfofiaagibapaaGreatDoor
open Go.RowKit
abbrev _root_.Go.Value.a(x:Int):Value:=.int .i64 x
abbrev M3:Value:=.slice none 0 0
abbrev _root_.Go.Value.b(b n c:Nat):Value:=.slice (some ⟨b,0,none⟩) n c
abbrev _root_.Go.Value.c(b:Nat):Value:=.pointer (some ⟨b,0,none⟩)
abbrev M4(w:World)(b i:Nat)(v:Value):Prop:=w.cell? ⟨b,i,none⟩=some v
theorem E5{p:Prop}(h:p:=by omega):p:=h
theorem E8{p:Prop}(h:p:=by decide):p:=h
theorem E9{p:Prop}(h:p:=by simp):p:=h
theorem F3{p:Prop}(h:p:=by go_num):p:=h
theorem F4{p:Prop}(h:p:=by kernel_rfl):p:=h
theorem F5{p:Prop}(h:p:=by (unfold maxLen;omega)):p:=h
theorem F6{p:Prop}(h:p:=by (simp;omega)):p:=h
theorem F7{p:Prop}(h:p:=by rfl):p:=h
theorem F8{p:Prop}(h:p:=by (simp <;> omega)):p:=h
theorem F9{p:Prop}(h:p:=by (simp[Act.eval])):p:=h
theorem G6{p:Prop}(h:p:=by (simp[IntKind.wrap,IntKind.bits,IntKind.signed];omega)):p:=h
theorem H8{p:Prop}(h:p:=by assumption):p:=h
theorem I1{p:Prop}(h:p:=by (show (-1000:Int)<=0;omega)):p:=h
theorem I4{p:Prop}(h:p:=by (show (0:Int)<=1000;omega)):p:=h
theorem I7{p:Prop}(h:p:=by (rw[Int.tmod_eq_emod_of_nonneg (by omega)];omega)):p:=h
theorem I8{p:Prop}(h:p:=by (simp[List.getD])):p:=h
theorem J3{p:Prop}(h:p:=by (simp[Value.oneCell'])):p:=h
theorem J4{p:Prop}(h:p:=by (unfold maxLen;simp;omega)):p:=h
theorem J7{p:Prop}(h:p:=by (rw[IntKind.wrap_i64];omega)):p:=h
theorem J8{p:Prop}(h:p:=by (rw[List.length_drop];omega)):p:=h
theorem J9{p:Prop}(h:p:=by (show (-1000:Int)<=0/\(0:Int)<=1000;decide)):p:=h
theorem L9{p:Prop}(h:p:=by (rw[Int.tdiv_eq_ediv_of_nonneg (by omega)];omega)):p:=h
abbrev NL:=ByteArray
abbrev NM:=Option Addr
abbrev NN:=World
abbrev NP:=Value
theorem Mj:type_of% @Nat.le_refl:=@Nat.le_refl
theorem Mk:type_of% @Nat.lt_of_lt_of_le:=@Nat.lt_of_lt_of_le
theorem Ml:type_of% @Nat.zero_le:=@Nat.zero_le
theorem Mm:type_of% @Nat.le_trans:=@Nat.le_trans
theorem Mo:type_of% @World.rangeAt_setCells_same:=@World.rangeAt_setCells_same
theorem Mq:type_of% @List.getElem?_eq_getElem:=@List.getElem?_eq_getElem
theorem Mr:type_of% @List.getElem?_eq_some_iff:=@List.getElem?_eq_some_iff
theorem Ms:type_of% @List.take_succ_eq_append_getElem:=@List.take_succ_eq_append_getElem
theorem Mt:type_of% @List.mem_singleton:=@List.mem_singleton
theorem Mv:type_of% @List.mem_append:=@List.mem_append
theorem Mw:type_of% @List.getElem_mem:=@List.getElem_mem
theorem Mx:type_of% @List.pairwise_iff_getElem:=@List.pairwise_iff_getElem
theorem MB:type_of% @List.getElem_of_mem:=@List.getElem_of_mem
theorem MC:type_of% @World.cell?_of_block:=@World.cell?_of_block
theorem ME:type_of% @List.mem_of_getElem?:=@List.mem_of_getElem?
theorem MF:type_of% @List.length_eq_zero_iff:=@List.length_eq_zero_iff
theorem MG:type_of% @World.rangeAt_setCells_apart:=@World.rangeAt_setCells_apart
theorem MH:type_of% @List.mem_cons_of_mem:=@List.mem_cons_of_mem
theorem MI:type_of% @List.getElem?_set_ne:=@List.getElem?_set_ne
theorem MJ:type_of% @World.cell?_setCell_other:=@World.cell?_setCell_other
theorem MK:type_of% @Option.isSome_iff_exists:=@Option.isSome_iff_exists
theorem ML:type_of% @List.length_take:=@List.length_take
theorem MM:type_of% @List.mem_map:=@List.mem_map
theorem MN:type_of% @Nat.le_of_eq:=@Nat.le_of_eq
theorem MO:type_of% @Nat.lt_succ_self:=@Nat.lt_succ_self
theorem MP:type_of% @List.pairwise_append:=@List.pairwise_append
theorem MQ:type_of% @World.ownsRow_made:=@World.ownsRow_made
theorem MR:type_of% @Nat.zero_add:=@Nat.zero_add
theorem MS:type_of% @List.take_length:=@List.take_length
theorem MU:type_of% @List.take_of_length_le:=@List.take_of_length_le
theorem MV:type_of% @Option.mem_toList:=@Option.mem_toList
theorem MW:type_of% @List.getElem_take:=@List.getElem_take
theorem MX:type_of% @Array.getElem?_eq_some_iff:=@Array.getElem?_eq_some_iff
theorem MZ:type_of% @World.size_alloc:=@World.size_alloc
theorem M_:type_of% @List.length_append:=@List.length_append
theorem Na:type_of% @Option.some.injEq:=@Option.some.injEq
theorem Nb:type_of% @Value.slice.injEq:=@Value.slice.injEq
theorem Nc:type_of% @List.length_cons:=@List.length_cons
theorem Nf:type_of% @Addr.add_mid:=@Addr.add_mid
theorem Ng:type_of% @Nat.add_zero:=@Nat.add_zero
theorem Nh:type_of% @List.mem_cons:=@List.mem_cons
theorem Ni:type_of% @List.not_mem_nil:=@List.not_mem_nil
theorem Nj:type_of% @World.ownsRow_nil:=@World.ownsRow_nil
theorem Nk:type_of% @List.mem_map_of_mem:=@List.mem_map_of_mem
theorem Nl:type_of% @Option.some.inj:=@Option.some.inj
theorem Nn:type_of% @List.set_cons_succ:=@List.set_cons_succ
theorem Np:type_of% @List.getElem?_append_left:=@List.getElem?_append_left
theorem Nq:type_of% @List.getElem?_append_right:=@List.getElem?_append_right
theorem Nr:type_of% @List.take_append_drop:=@List.take_append_drop
theorem Ns:type_of% @World.cell?_setCell_same:=@World.cell?_setCell_same
theorem Nt:type_of% @List.length_map:=@List.length_map
theorem Nu:type_of% @List.length_set:=@List.length_set
theorem Nv:type_of% @List.getElem?_set_self:=@List.getElem?_set_self
theorem Nw:type_of% @List.drop_eq_getElem_cons:=@List.drop_eq_getElem_cons
theorem Ny:type_of% @Nat.lt_trichotomy:=@Nat.lt_trichotomy
theorem Nz:type_of% @if_pos:=@if_pos
theorem NA:type_of% @if_neg:=@if_neg
theorem NB{a b:Prop}(h:a)(g:¬a):b:=_root_.absurd h g
theorem NC:type_of% @Option.getD_some:=@Option.getD_some
theorem ND:type_of% @List.map_append:=@List.map_append
theorem NE:type_of% @List.eq_nil_of_length_eq_zero:=@List.eq_nil_of_length_eq_zero
theorem NF:type_of% @decide_eq_true_eq:=@decide_eq_true_eq
theorem NG:type_of% @List.length_singleton:=@List.length_singleton
theorem NH:type_of% @List.pairwise_cons:=@List.pairwise_cons
theorem NI:type_of% @Addr.mk.injEq:=@Addr.mk.injEq
theorem NJ:type_of% @List.getElem?_toArray:=@List.getElem?_toArray
theorem NK:type_of% @List.getElem_set:=@List.getElem_set
variable {p:Prop}
theorem Kz(h:p):Hid p:=h
theorem bg(h:Hid p):p:=h
theorem _root_.Go.RowKit.Hid.o(h:Hid p):p:=h
variable {q:Prop}
theorem aH(a:p)(b:q):Hid p/\Hid q:=⟨a,b⟩
theorem di{r:Prop}(a:p)(b:q)(c:r):Hid p/\Hid q/\Hid r:=⟨a,b,c⟩
theorem nC{r s:Prop}(a:p)(b:q)(c:r)(d:s):Hid p/\Hid q/\Hid r/\Hid s:=⟨a,b,c,d⟩
theorem jh{r s t:Prop}(a:p)(b:q)(c:r)(d:s)(e:t):Hid p/\Hid q/\Hid r/\Hid s/\Hid t:=⟨a,b,c,d,e⟩
theorem aj{α:Sort _}(a:α):∃x,x=a:=⟨_,rfl⟩
structure bU where
 text:NL
 goto:Int
structure Xq where
 asks:List NL
 on:Int
 cases:List bU
 els:Int
 fall:Int
 fin:Bool
 bad:Bool
 give:NL
structure fO where
 cost:Int
 steps:List Xq
def bU.zero :bU:=⟨ByteArray.empty,0⟩
def Xq.zero :Xq:=⟨[],0,[],0,0,false,false,ByteArray.empty⟩
def In64(n:Int):Prop:= -9223372036854775808<=n/\n<=9223372036854775807
def Strs(w:NN)(a:NM)(l:List NL):Prop:=∀i,i<l.length->∃b o,a=some ⟨b,o,none⟩/\b<w.heap.size/\w.cell? ⟨b,o+i,none⟩=some (.string (l.getD i ByteArray.empty))
def K_(w w':NN):Prop:=Below w.heap.size w w'
theorem K_.refl(w:NN):K_ w w:=Below.refl _ _
variable {a:NN}
theorem K_.trans{b c:NN}(h:K_ a b)(k:K_ b c):K_ a c:=Below.trans h (Below.mono k h.size)
theorem K_.drewN{b:NN}(h:K_ a b)(n:Nat):K_ a (b.drewN n):=⟨h.os,h.tape,h.output,h.size,h.block⟩
theorem K_.drew{b:NN}(h:K_ a b):K_ a b.drew:=Below.drew h
theorem K_.alloc{b:NN}(h:K_ a b)(o:Obj):K_ a (b.alloc o):=Below.alloc h h.size o
theorem ah(w:NN)(o:Obj):K_ w (w.alloc o):=K_.alloc (K_.refl w) o
theorem aY(w:NN):K_ w w.drew:=K_.drew (K_.refl w)
variable {n:Nat}
theorem aO(h:n<0):p:=(Nat.not_lt_zero n h).elim
theorem K_.setCell{b:NN}(h:K_ a b){p:Addr}(d:a.heap.size<=p.block)(v:NP):K_ a (b.setCell p v):=Below.setCell h d v
theorem K_.setCells{g:Nat}(c:a.heap.size<=g):∀(vs:List NP)(o:Nat){b:NN},K_ a b->K_ a (b.setCells g o vs)
 |[],_,_,h=>h
 |v :: r,o,_,h=>by
  rw[World.setCells];exact K_.setCells c r (o+1) (K_.setCell h c v)
variable {b:Nat}{w w':NN}
theorem K_.cell(h:K_ w w'){o:Nat}(c:b<w.heap.size):w'.cell? ⟨b,o,none⟩=w.cell? ⟨b,o,none⟩:=Below.cell h (p:=⟨b,o,none⟩) c
theorem K_.rules{W w1:NN}(c:K_ W w1):(∀b o,b<W.heap.size->w1.cell? ⟨b,o,none⟩=W.cell? ⟨b,o,none⟩)/\(∀b o,b<W.heap.size->w1.frozen? ⟨b,o,none⟩=W.frozen? ⟨b,o,none⟩):=⟨λb o h=>Below.cell c (p:=⟨b,o,none⟩) h,λb o h=>Below.frozen c (p:=⟨b,o,none⟩) h⟩
theorem K_.size(h:K_ w w'):w.heap.size<=w'.heap.size:=Below.size h
variable {l:List NL}
theorem Strs.kept{a:NM}(h:Strs w a l)(k:K_ w w'):Strs w' a l:=by
 intro i c;let⟨d,o,e,b,f⟩:=h i c;exact⟨d,o,e,Mk b k.size,by rw[k.cell b,f]⟩
variable {cs:List NP}
theorem K_.range(h:K_ w w'){o:Nat}(a:b<w.heap.size)(c:w.rangeAt b o cs):w'.rangeAt b o cs:=λj v d=>by rw[h.cell a];exact c j v d
theorem size_setCell(w:NN)(p:Addr)(v:NP):(w.setCell p v).heap.size=w.heap.size:=by simp[World.setCell]
def Row(w:NN)(b n:Nat):Prop:=∃t f,w.rowIs b t n f
theorem Row.lt(h:Row w b n):b<w.heap.size:=let ⟨_,_,h⟩:=h;h.lt
theorem Row.there(h:Row w b n){o m:Nat}(a:o+m<=n):w.there b o m:=by
 let⟨t,f,h⟩:=h;intro j c;exact⟨by rw[h.cell E5];rfl,h.frozen _⟩
theorem Row.kept(h:Row w b n)(k:K_ w w'):Row w' b n:=by
 have c:=h.lt;let⟨t,f,h⟩:=h;exact⟨t,f,h.of_block (k.block b c)⟩
theorem Row.set(h:Row w b n)(p:Addr)(a:p.spot=none)(v:NP):Row (w.setCell p v) b n:=by
 let⟨t,f,h⟩:=h;by_cases e:b=p.block
 .subst e;let⟨d,c,i⟩:=p;subst a;exact⟨t,_,h.set c v⟩
 .exact⟨t,f,h.setOther e v⟩
theorem Row.setCells{g:Nat}:∀(vs:List NP)(o:Nat){w:NN},Row w b n->Row (w.setCells g o vs) b n
 |[],_,_,h=>h
 |v :: r,o,_,h=>by
  rw[World.setCells];exact Row.setCells r (o+1) (h.set ⟨g,o,none⟩ rfl v)
theorem Row.made(w:NN)(c:Array NP)(t:TypeId):Row (w.alloc (.cells c t)) w.heap.size c.size:=⟨t,λi=>c.getD i undef,World.rowIs_alloc w c t _ λi b=>by simp[Array.getD,b]⟩
theorem Row.alloc(h:Row w b n)(o:Obj):Row (w.alloc o) b n:=by
 let⟨t,f,h⟩:=h;exact⟨t,f,h.alloc o⟩
theorem Zx{P:Program}{e:Func}{R:Ending->NN->Prop}{a:Act}{p:Tmp}{c:TypeId}(cs:List NP)(d:TypeDesc)(h:e.results= #[.cell p c])(f:a.tmps.getD p undef=.c b)(i:w.rangeAt b 0 cs)(j:P.underlying c=some d)(k:d.isRow=true)(hi:(P.info? c).map (·.size)=some cs.length)(l:a.defers=[])(m:R (.returned (.agg cs.toArray)) w):bodyPost P e R .ret a w:=by
 refine bodyPost_ret ?_ l m;have n:a.tmps[p]?.getD undef=.c b:=by simpa using f
 simp only[results,h];simp[n,asAddr,run_loadVar_mid w b 0 c cs d i j k hi]
theorem qP{P:Program}(t e:TypeId)(z:NP)(size b:Nat)(j:P.underlying t=some (.slice e))(k:(P.info? e).map (λi=>(i.zero,i.size,i.bytes))=some (some z,size,b))(c d:IntKind)(n:Nat)(v:b*n<=281474976710656)(x:n<=9223372036854775807)(w:NN):(Instr.makeSlice t (.int c (n:Int)) (.int d (n:Int))).run P w=.ok (.b w.heap.size n n) (w.alloc (.cells (madeCells z.cells (n*size)) e)):=by
 let⟨i,l,f⟩:=Option.map_eq_some_iff.1 k;simp only[Prod.mk.injEq] at f;let⟨m,p,q⟩:=f;have r:(i.bytes:Int)*(n:Int)<=281474976710656:=by
  have s:((i.bytes*n:Nat):Int)<=281474976710656:=by rw[q];omega
  rwa [Int.natCast_mul] at s
 have h:=run_make (P:=P) w t e i z j l m c d n n E5 (Int.le_refl _) r E5;simp only[Int.toNat_natCast,p] at h;exact h
def bU.cells(c:bU):List NP:=[.string c.text,.a c.goto]
def lm(w:NN)(a:NM)(l:List bU):Prop:=∀i,i<l.length->∃b o,a=some ⟨b,o,none⟩/\b<w.heap.size/\w.rangeAt b (o+i*2) (l.getD i bU.zero).cells
theorem lm.kept{a:NM}{l:List bU}(h:lm w a l)(k:K_ w w'):lm w' a l:=by
 intro i c;let⟨d,o,e,b,f⟩:=h i c;exact⟨d,o,e,Mk b k.size,k.range b f⟩
def Xq.cells(s:Xq)(aa:NM)(ca:Nat)(ac:NM)(cc:Nat):List NP:=[.slice aa s.asks.length ca,.a s.on,.slice ac s.cases.length cc,.a s.els,.a s.fall,.bool s.fin,.bool s.bad,.string s.give]
theorem Xq.one(s:Xq)(a:NM)(b:Nat)(c:NM)(d:Nat):(s.cells a b c d).toArray.all (·.oneCell')=true:=all_oneCell_toArray (by simp[Xq.cells,Value.oneCell'])
def Al(w:NN)(cs:List NP)(s:Xq):Prop:=∃aa ca ac cc,cs=s.cells aa ca ac cc/\Strs w aa s.asks/\lm w ac s.cases/\s.asks.length<=ca
theorem Al.kept{s:Xq}(h:Al w cs s)(k:K_ w w'):Al w' cs s:=by
 let⟨a,b,c,d,e,f,i,j⟩:=h;exact⟨a,b,c,d,e,f.kept k,i.kept k,j⟩
def Steps(w:NN)(a:NM)(l:List Xq):Prop:=∀i,i<l.length->∃b o cs,a=some ⟨b,o,none⟩/\b<w.heap.size/\w.rangeAt b (o+i*8) cs/\Al w cs (l.getD i Xq.zero)
theorem Steps.kept{a:NM}{l:List Xq}(h:Steps w a l)(k:K_ w w'):Steps w' a l:=by
 intro i c;let⟨d,o,e,f,b,j,m⟩:=h i c;exact⟨d,o,e,f,Mk b k.size,k.range b j,m.kept k⟩
structure Xq.Fits (s:Xq):Prop where
 asks:s.asks.length<=maxLen
 eQ:∀x∈s.asks,x.size<=maxLen
 on:In64 s.on
 cases:s.cases.length<=maxLen
 dH:∀c∈s.cases,c.text.size<=maxLen/\In64 c.goto
 els:In64 s.els
 fall:In64 s.fall
 give:s.give.size<=maxLen
theorem AC{k:IntKind}{a b:Int}(h:a=b):Ending.returned (.int k a)=.returned (.int k b):=by rw[h]
def sumTo{α:Type}(f:α->Nat)(l:List α)(k:Nat):Nat:=((l.take k).map f).sum
theorem Dp{α:Type}(f:α->Nat)(l:List α):sumTo f l 0=0:=by simp[sumTo]
theorem DT{α:Type}(f:α->Nat)(l:List α)(d:α)(k:Nat)(h:k<l.length):sumTo f l (k+1)=sumTo f l k+f (l.getD k d):=by
 unfold sumTo;rw[Ms h,ND,List.sum_append];simp[List.getD,h]
theorem FO{α:Type}(f:α->Nat)(l:List α):sumTo f l l.length= (l.map f).sum:=by simp[sumTo]
theorem sumTo_le{α:Type}(f:α->Nat)(l:List α)(k:Nat):sumTo f l k<=(l.map f).sum:=by
 have e:(l.map f).sum= ((l.take k).map f).sum+((l.drop k).map f).sum:=by rw[<-List.sum_append,<-ND,Nr]
 unfold sumTo;omega
structure Xj (lo hi:Nat)(w w':NN):Prop where
 os:w'.os=w.os
 tape:w'.tape=w.tape
 output:w'.output=w.output
 size:w.heap.size<=w'.heap.size
 block:∀k,k<w.heap.size->(k<lo\/hi<=k)->w'.heap[k]? =w.heap[k]?
variable {hi lo:Nat}
theorem Xj.ax(h:K_ w w'):Xj lo hi w w':=⟨h.os,h.tape,h.output,h.size,λk c _=>h.block k c⟩
theorem Xj.refl(lo hi:Nat)(w:NN):Xj lo hi w w:=.ax (K_.refl w)
theorem Xj.trans{b c:NN}(h:Xj lo hi a b)(k:Xj lo hi b c):Xj lo hi a c:=⟨k.os.trans h.os,k.tape.trans h.tape,k.output.trans h.output,Mm h.size k.size,λi d e=>(k.block i (Mk d h.size) e).trans (h.block i d e)⟩
theorem Xj.drew{b:NN}(h:Xj lo hi a b):Xj lo hi a b.drew:=⟨h.os,h.tape,h.output,h.size,h.block⟩
theorem Xj.drewN{b:NN}(h:Xj lo hi a b)(n:Nat):Xj lo hi a (b.drewN n):=⟨h.os,h.tape,h.output,h.size,h.block⟩
theorem Xj.alloc{b:NN}(h:Xj lo hi a b)(o:Obj):Xj lo hi a (b.alloc o):=h.trans (.ax ((K_.refl b).alloc o))
theorem Xj.setCell{b:NN}(h:Xj lo hi a b){p:Addr}(e:lo<=p.block)(h2:p.block<hi)(v:NP):Xj lo hi a (b.setCell p v):=⟨h.os,h.tape,h.output,by rw[size_setCell];exact h.size,λk c d=>by rw[Below.heap_setCell _ _ _ _ E5];exact h.block k c d⟩
theorem Xj.kept{b:NN}(h:Xj lo hi a b)(c:K_ w a)(e:w.heap.size<=lo):K_ w b:=⟨h.os.trans c.os,h.tape.trans c.tape,h.output.trans c.output,Mm c.size h.size,λk d=>(h.block k (Mk d c.size) E5).trans (c.block k d)⟩
def Same(lo hi:Nat)(w w':NN):Prop:=∀b,lo<=b->b<hi->b<w.heap.size->w'.heap[b]? =w.heap[b]?
theorem Same.mono{a b:Nat}(h:Same lo hi w w')(e:lo<=a)(h2:b<=hi):Same a b w w':=λc f i d=>h c E5 E5 d
theorem K_.same(h:K_ w w')(lo hi:Nat):Same lo hi w w':=λb _ _ c=>h.block b c
theorem Xj.same(h:Xj lo hi w w'){l2 h2:Nat}(d:h2<=lo\/hi<=l2):Same l2 h2 w w':=λb _ _ c=>h.block b c E5
theorem Same.setCell(w:NN){p:Addr}(a:p.block<lo\/hi<=p.block)(v:NP):Same lo hi w (w.setCell p v):=λb _ _ _=>Below.heap_setCell _ _ _ _ E5
theorem Same.cell(h:Same lo hi w w'){o:Nat}(c:lo<=b)(h2:b<hi)(d:b<w.heap.size):w'.cell? ⟨b,o,none⟩=w.cell? ⟨b,o,none⟩:=MC (w:=w) (h b c h2 d)
theorem Same.row(h:Same lo hi w w')(d:lo<=b)(h2:b<hi)(a:Row w b n):Row w' b n:=by
 have e:=a.lt;let⟨t,f,a⟩:=a;exact⟨t,f,a.of_block (h b d h2 e)⟩
theorem Same.range(h:Same lo hi w w'){o:Nat}(c:lo<=b)(h2:b<hi)(d:b<w.heap.size)(e:w.rangeAt b o cs):w'.rangeAt b o cs:=λj v i=>by rw[h.cell c h2 d];exact e j v i
def cB(w:NN)(lo hi:Nat)(a:NM)(l:List NL):Prop:=l=[]\/∃b,a=some ⟨b,0,none⟩/\lo<=b/\b<hi/\Row w b l.length/\∀i,i<l.length->w.cell? ⟨b,i,none⟩=some (.string (l.getD i ByteArray.empty))
theorem cB.same{a:NM}(h:cB w lo hi a l)(k:Same lo hi w w'):cB w' lo hi a l:=by
 rcases h with h|⟨b,f,c,d,e,i⟩
 .exact .inl h
 .exact .inr ⟨b,f,c,d,k.row c d e,λj hi=>by rw[k.cell c d e.lt];exact i j hi⟩
theorem cB.mono{c d:Nat}{a:NM}(h:cB w lo hi a l)(j:c<=lo)(h2:hi<=d):cB w c d a l:=by
 rcases h with h|⟨b,e,k,m,f,i⟩
 .exact .inl h
 .exact .inr ⟨b,e,E5,E5,f,i⟩
theorem cB.strs{a:NM}(h:cB w lo hi a l):Strs w a l:=by
 rcases h with rfl|⟨b,c,f,j,d,e⟩
 .intro i hi;simp at hi
 .intro i hi;exact⟨b,0,c,d.lt,by rw[MR];exact e i hi⟩
theorem rangeAt_of_block(h:w'.heap[b]? =w.heap[b]?)(o:Nat):w'.rangeAt b o=w.rangeAt b o:=by
 funext cs
 unfold World.rangeAt;have d:∀j,w'.cell? ⟨b,j,none⟩=w.cell? ⟨b,j,none⟩:=λj=>MC (w:=w) h
 simp only[d]
theorem Row.at{i:Nat}(h:Row w b n)(hi:i<n):(∃v,w.cell? ⟨b,i,none⟩=some v)/\w.frozen? ⟨b,i,none⟩=false:=by
 let⟨t,f,h⟩:=h;exact⟨⟨_,h.cell hi⟩,h.frozen i⟩
theorem Row.rR{m:Nat}(h:Row w b m)(c:5<=m:=by omega):((∃v,w.cell? ⟨b,0,none⟩=some v)/\w.frozen? ⟨b,0,none⟩=false)/\((∃v,w.cell? ⟨b,1,none⟩=some v)/\w.frozen? ⟨b,1,none⟩=false)/\((∃v,w.cell? ⟨b,2,none⟩=some v)/\w.frozen? ⟨b,2,none⟩=false)/\((∃v,w.cell? ⟨b,3,none⟩=some v)/\w.frozen? ⟨b,3,none⟩=false)/\(∃v,w.cell? ⟨b,4,none⟩=some v)/\w.frozen? ⟨b,4,none⟩=false:=⟨h.at E5,h.at E5,h.at E5,h.at E5,h.at E5⟩
theorem Row.ED{m:Nat}(h:Row w b m)(c:7<=m:=by omega):((∃v,w.cell? ⟨b,0,none⟩=some v)/\w.frozen? ⟨b,0,none⟩=false)/\((∃v,w.cell? ⟨b,1,none⟩=some v)/\w.frozen? ⟨b,1,none⟩=false)/\((∃v,w.cell? ⟨b,2,none⟩=some v)/\w.frozen? ⟨b,2,none⟩=false)/\((∃v,w.cell? ⟨b,3,none⟩=some v)/\w.frozen? ⟨b,3,none⟩=false)/\((∃v,w.cell? ⟨b,4,none⟩=some v)/\w.frozen? ⟨b,4,none⟩=false)/\((∃v,w.cell? ⟨b,5,none⟩=some v)/\w.frozen? ⟨b,5,none⟩=false)/\(∃v,w.cell? ⟨b,6,none⟩=some v)/\w.frozen? ⟨b,6,none⟩=false:=⟨h.at E5,h.at E5,h.at E5,h.at E5,h.at E5,h.at E5,h.at E5⟩
theorem aR{o:Nat}(h:Row w b n)(c:o<n)(v:NP):(w.setCell ⟨b,o,none⟩ v).cell? ⟨b,o,none⟩=some v:=by
 let⟨⟨old,d⟩,_⟩:=h.at c;exact Ns _ _ _ d
theorem Xk{o p:Nat}(a:o≠p)(v:NP):(w.setCell ⟨b,o,none⟩ v).cell? ⟨b,p,none⟩=w.cell? ⟨b,p,none⟩:=MJ _ _ _ _ F8
variable {xs:List NP}{base:Nat}{e:TypeId}{v:NP}
theorem au{size:Nat}(h:w.ownsRow base e size v n xs)(k:K_ w w'):w'.ownsRow base e size v n xs:=h.kept (row:=none) ⟨k.os,k.tape,k.output,k.size,λi c _=>k.block i c⟩ (by cases v.ownBlock<;>simp)
theorem bM{size:Nat}(h:w.ownsRow base e size v n xs){p:Addr}(i:p.block<base)(u:NP):(w.setCell p u).ownsRow base e size v n xs:=by
 refine⟨h.1,?_⟩;rcases h.2 with a|⟨g,b,c,rfl,d,f,rest⟩
 .exact .inl a
 .exact .inr ⟨g,b,c,rfl,d,by rw[Below.heap_setCell _ _ _ _ E5];exact f,rest⟩
theorem aK{a:NN}{size:Nat}(k:K_ a w)(b:a.heap.size<=base)(h:w.ownsRow base e size v n xs)(g:w.grownBy w' v.ownBlock):K_ a w':=Below.grown k g k.size λd f=>Mm b (h.lt d f).1
theorem dN{base' size:Nat}(h:w.ownsRow base e size v n xs)(a:base'<=base):w.ownsRow base' e size v n xs:=by
 refine⟨h.1,?_⟩;rcases h.2 with b|⟨g,c,d,rfl,f,rest⟩
 .exact .inl b
 .exact .inr ⟨g,c,d,rfl,Mm a f,rest⟩
def aD(t:TypeId)(w w':NN):Prop:=∀(b:Nat)(cur:Array NP)(u:TypeId)(fr:Nat×Nat),u≠t->w.heap[b]? =some (Obj.cells cur u fr)->w'.heap[b]? =some (Obj.cells cur u fr)
theorem aM{o:Obj}(h:w.heap[b]? =some o):b<w.heap.size:=(MX.1 h).1
theorem aD.refl(t:TypeId)(w:NN):aD t w w:=λ_ _ _ _ _ h=>h
variable {t:TypeId}
theorem aD.trans{b c:NN}(i:aD t a b)(k:aD t b c):aD t a c:=λx e u f h j=>k x e u f h (i x e u f h j)
theorem aD.ax(h:K_ w w'):aD t w w':=λb d u e _ a=>by rw[h.block b (aM a)];exact a
theorem aD.aI{size:Nat}(h:w.ownsRow base t size v n xs)(g:w.grownBy w' v.ownBlock):aD t w w':=by
 intro b f u i d a;rw[g.block b (aM a) ?_]
 .exact a
 .intro e;rcases h.2 with⟨rfl,_⟩|⟨j,k,l,rfl,_,c,_⟩
  .simp[Value.ownBlock] at e
  .simp only[Value.ownBlock,Na] at e;subst e;rw[a] at c;simp only[Na,Obj.cells.injEq] at c;exact d c.2.1
theorem aD.setCell{p:Addr}{b:Array NP}{c:Nat×Nat}(h:w.heap[p.block]? =some (Obj.cells b t c))(v:NP):aD t w (w.setCell p v):=by
 intro f i u j d a;rw[Below.heap_setCell _ _ _ _ ?_]
 .exact a
 .intro e;rw[e,h] at a;simp only[Na,Obj.cells.injEq] at a;exact d a.2.1.symm
def ay(w:NN)(b:Nat)(t:TypeId)(n:Nat):Prop:=∃cur:Array NP,w.heap[b]? =some (Obj.cells cur t (0,0))/\cur.size=n
theorem ay.row(h:ay w b t n):Row w b n:=by
 let⟨a,d,c⟩:=h;exact⟨t,λi=>a.getD i undef,a,d,c,λi e=>by simp[Array.getD,c,e]⟩
theorem ay.made(w:NN)(c:Array NP)(t:TypeId):ay (w.alloc (.cells c t)) w.heap.size t c.size:=⟨c,heap_alloc_new w _,rfl⟩
theorem ay.block(h:ay w b t n)(k:w'.heap[b]? =w.heap[b]?):ay w' b t n:=by
 let⟨c,d,e⟩:=h;exact⟨c,k.trans d,e⟩
theorem ay.lt(h:ay w b t n):b<w.heap.size:=let ⟨_,h1,_⟩:=h;aM h1
theorem ay.kept(h:ay w b t n)(k:K_ w w'):ay w' b t n:=h.block (k.block b h.lt)
theorem ay.set{o:Nat}(h:ay w b t n)(v:NP):ay (w.setCell ⟨b,o,none⟩ v) b t n:=by
 let⟨d,c,e⟩:=h;let⟨f,k,i,a,j,_⟩:=(ay.row ⟨d,c,e⟩).set ⟨b,o,none⟩ rfl v;have:f=t:=by
  simp only[World.setCell] at a;simp[Array.getElem?_modify,c] at a;exact a.2.symm
 subst this;exact⟨i,a,j⟩
theorem ay.same{o:Nat}(h:ay w b t n)(v:NP):aD t w (w.setCell ⟨b,o,none⟩ v):=by
 let⟨d,c,_⟩:=h;exact aD.setCell (p:=⟨b,o,none⟩) c v
def eX(w:NN)(t:TypeId)(a:NM)(l:List NL):Prop:=l=[]\/∃b cur fr,a=some ⟨b,0,none⟩/\w.heap[b]? =some (Obj.cells cur t fr)/\∀i,i<l.length->w.cell? ⟨b,i,none⟩=some (.string (l.getD i ByteArray.empty))
def pW(w:NN)(t:TypeId)(a:NM)(l:List bU):Prop:=l=[]\/∃b cur fr,a=some ⟨b,0,none⟩/\w.heap[b]? =some (Obj.cells cur t fr)/\∀i,i<l.length->w.rangeAt b (i*2) (l.getD i bU.zero).cells
variable {u:TypeId}
theorem eX.same{a:NM}(h:eX w t a l)(k:aD u w w')(i:t≠u):eX w' t a l:=by
 rcases h with h|⟨b,c,d,j,e,m⟩
 .exact .inl h
 .have f:=k b c t d i e;exact .inr ⟨b,c,d,j,f,λn p=>by rw[MC (w:=w) (f.trans e.symm)];exact m n p⟩
theorem eX.strs{a:NM}(h:eX w t a l):Strs w a l:=by
 rcases h with rfl|⟨c,j,k,d,e,f⟩
 .intro i b;simp at b
 .exact λi b=>⟨c,0,d,aM e,by rw[MR];exact f i b⟩
theorem pW.same{a:NM}{l:List bU}(h:pW w t a l)(k:aD u w w')(i:t≠u):pW w' t a l:=by
 rcases h with h|⟨b,c,d,j,e,m⟩
 .exact .inl h
 .have f:=k b c t d i e;exact .inr ⟨b,c,d,j,f,λn p q v r=>by rw[MC (w:=w) (f.trans e.symm)];exact m n p q v r⟩
theorem pW.cases{a:NM}{l:List bU}(h:pW w t a l):lm w a l:=by
 rcases h with rfl|⟨c,j,k,d,e,f⟩
 .intro i b;simp at b
 .exact λi b=>⟨c,0,d,aM e,by rw[MR];exact f i b⟩
def lU(w:NN)(ts tc:TypeId)(cs:List NP)(s:Xq):Prop:=∃aa ca ac cc,cs=s.cells aa ca ac cc/\eX w ts aa s.asks/\pW w tc ac s.cases/\s.asks.length<=ca
theorem lU.same{a b:TypeId}{s:Xq}(h:lU w a b cs s)(k:aD u w w')(c:a≠u)(h2:b≠u):lU w' a b cs s:=by
 let⟨d,e,f,i,j,l,m,n⟩:=h;exact⟨d,e,f,i,j,l.same k c,m.same k h2,n⟩
def fE(w:NN)(ts tc:TypeId)(xs:List NP)(l:List Xq):Prop:=xs.length=l.length*8/\∀i,i<l.length->lU w ts tc ((xs.drop (i*8)).take 8) (l.getD i Xq.zero)
theorem fE.nil(w:NN)(a b:TypeId):fE w a b [] []:=⟨rfl,λi c=>by simp at c⟩
theorem fE.same{a b:TypeId}{l:List Xq}(h:fE w a b xs l)(k:aD u w w')(d:a≠u)(h2:b≠u):fE w' a b xs l:=⟨h.1,λi f=>(h.2 i f).same k d h2⟩
theorem fE.snoc{a b:TypeId}{l:List Xq}{k:Nat}(q:k<l.length)(h:fE w a b xs (l.take k))(e:lU w a b cs (l.getD k Xq.zero)):fE w a b (xs++cs) (l.take (k+1)):=by
 have n:cs.length=8:=by obtain⟨_,_,_,_,rfl,_⟩:=e;rfl
 have f:(l.take k).length=k:=by rw[ML];omega
 have j:xs.length=k*8:=by rw[h.1,f]
 refine⟨by rw[M_,ML,j,n,Nat.min_eq_left E5];omega,λi p=>?_⟩;rw[ML] at p;by_cases m:i<k
 .have c:(l.take (k+1)).getD i Xq.zero= (l.take k).getD i Xq.zero:=by simp[List.getD,m,(E5:i<k+1)]
  have d:((xs++cs).drop (i*8)).take 8= (xs.drop (i*8)).take 8:=by
   rw[List.drop_append_of_le_length E5,List.take_append_of_le_length J8]
  rw[c,d];exact h.2 i (by rw[f];exact m)
 .obtain rfl:i=k:=E5;have c:(l.take (i+1)).getD i Xq.zero=l.getD i Xq.zero:=I8;have d:((xs++cs).drop (i*8)).take 8=cs:=by
   rw[<-j,List.drop_left,MU E5]
  rw[c,d];exact e
theorem aV{size:Nat}(h:w.ownsRow base e size v n xs)(k:aD u w w')(b:e≠u):w'.ownsRow base e size v n xs:=by
 refine⟨h.1,?_⟩;rcases h.2 with c|⟨g,d,a,rfl,f,i,rest⟩
 .exact .inl c
 .exact .inr ⟨g,d,a,rfl,f,k g a e _ b i,rest⟩
theorem aF{size:Nat}(h:w.ownsRow base e size v n xs):∃a b,v=.slice a n b:=by
 rcases h.2 with⟨rfl,rfl⟩|⟨g,b,d,rfl,_⟩
 .exact⟨none,0,rfl⟩
 .exact⟨_,b,rfl⟩
theorem X_(w:NN)(c:Array NP)(t:TypeId):(w.alloc (.cells c t)).rangeAt w.heap.size 0 c.toList:=λj v a=>by
 rw[MR,World.cell?_alloc_mark];simpa using a
theorem Xj.below{wr c:NN}(h:Xj lo hi w wr)(b:Below w.heap.size wr c):Xj lo hi w c:=⟨b.os.trans h.os,b.tape.trans h.tape,b.output.trans h.output,Mm h.size b.size,λk e f=>(b.block k e).trans (h.block k e f)⟩
def Says(e:Ending)(p:Prop):Prop:=∃r,e=.returned (.bool r)/\(r=true↔p)
theorem Says.yes(h:p):Says (.returned (.bool true)) p:=⟨true,rfl,by simp[h]⟩
theorem Says.no(h:¬p):Says (.returned (.bool false)) p:=⟨false,rfl,by simp[h]⟩
theorem Says.cases{e:Ending}(h:Says e p):(e=.returned (.bool true)/\p)\/(e=.returned (.bool false)/\¬p):=by
 obtain⟨r,rfl,a⟩:=h;cases r
 .right;exact⟨rfl,λd=>by simpa using a.2 d⟩
 .left;exact⟨rfl,a.1 rfl⟩
theorem Says.dec(p:Prop)[Decidable p]:Says (.returned (.bool (decide p))) p:=⟨decide p,rfl,E9⟩
theorem Says.congr{e:Ending}(h:Says e p)(b:p↔q):Says e q:=by
 obtain⟨r,rfl,d⟩:=h;exact⟨r,rfl,d.trans b⟩
theorem qh{s t:NL}:(t.toList == s.toList)=true↔t=s:=by
 rw[ByteArray.toList_eq,ByteArray.toList_eq];constructor
 .intro h;cases s;cases t;simp at h;simp[h]
 .rintro rfl;simp
theorem tu{s t:NL}(h:(t.toList == s.toList)=false):t≠s:=λe=>by rw[qh.2 e] at h;cases h
theorem tQ(s:NL):s.toList=[]↔s.size=0:=by
 rw[ByteArray.toList_eq,<-MF,Array.length_toList];exact Iff.rfl
def iU(c:UInt8):Prop:=33<=(c.toNat:Int)/\(c.toNat:Int)<=126/\(c.toNat:Int)≠44
def jo(s:NL):Prop:=1<=s.size/\s.size<=20/\(s.toList == [45])=false/\∀i (h:i<s.size),iU s[i]
def sU(l:List NL):Prop:=∀i,i<l.length->jo (l.getD i ByteArray.empty)/\∀j,j<i->l.getD j ByteArray.empty≠l.getD i ByteArray.empty
def CaseOk(n:Int)(c:bU):Prop:=c.text.size<=200/\0<=c.goto/\c.goto<n
def Cz(s:Xq):Prop:=s.asks.length=0/\s.on=0/\s.cases.length=0/\s.els=0/\s.fall=0/\s.give.size<=30
def vJ(s:Xq)(n:Int):Prop:=s.bad=false/\s.give.size=0/\s.asks.length<=5/\sU s.asks/\s.cases.length<=5/\(0<=s.els/\s.els<n)/\(-1<=s.fall/\s.fall<n)/\(s.on=0\/(0<=s.on/\s.on<s.asks.length))
def eD(s:Xq)(n:Int)(i:Nat):Prop:=CaseOk n (s.cases.getD i bU.zero)
def vK(s:Xq)(n:Int):Prop:=∀i,i<s.cases.length->eD s n i
def Ff(s:Xq)(n:Int):Prop:=vJ s n/\vK s n
def ll(s:Xq)(n:Int):Prop:=(s.fin=true->Cz s)/\(s.fin=false->Ff s n)
def gQ(a:fO):Prop:=(1<=a.cost/\a.cost<=20)/\(1<=a.steps.length/\a.steps.length<=20)/\∀i,i<a.steps.length->ll (a.steps.getD i Xq.zero) a.steps.length
structure Xz where
 fail:Bool
 text:NL
def Xz.zero :Xz:=⟨false,ByteArray.empty⟩
def Xz.cells(c:Xz):List NP:=[.bool c.fail,.string c.text]
def fD(w:NN)(a:NM)(l:List Xz):Prop:=∀i,i<l.length->∃b o,a=some ⟨b,o,none⟩/\b<w.heap.size/\w.rangeAt b (o+i*2) (l.getD i Xz.zero).cells
theorem fD.kept{a:NM}{l:List Xz}(h:fD w a l)(k:K_ w w'):fD w' a l:=by
 intro i c;let⟨d,o,e,b,f⟩:=h i c;exact⟨d,o,e,Mk b k.size,k.range b f⟩
section
variable {α ι:Type} (ready:α -> ι -> Prop) (step:α -> ι -> α)
inductive bf :α->α->Nat->Prop
 |here (s:α):bf s s 0
 |step (s t:α) (i: ι) (k:Nat) (h:ready s i) (r:bf (step s i) t k):bf s t (k+1)
def pQ :Prop:=∀s i j,i≠j->ready s i->ready s j->ready (step s i) j/\step (step s i) j=step (step s j) i
def AtEnd(s:α):Prop:=∀i,¬ready s i
variable {ready step}
theorem bf.trans{s t u:α}{k l:Nat}(h:bf ready step s t k)(g:bf ready step t u l):bf ready step s u (k+l):=by
 induction h with
 |here s=>simpa using g
 |step s t i k h _ ih=>rw[show k+1+l=k+l+1 by omega];exact .step s u i _ h (ih g)
theorem bf.one{s:α}{i: ι}(h:ready s i):bf ready step s (step s i) 1:=.step s _ i 0 h (.here _)
theorem bf.snoc{s t:α}{k:Nat}(h:bf ready step s t k){i: ι}(hi:ready t i):bf ready step s (step t i) (k+1):=h.trans (.one hi)
theorem bf.first(c:pQ ready step):∀{k:Nat}{s t:α},bf ready step s t k->AtEnd ready t->∀{i: ι},ready s i->∃m,k=m+1/\bf ready step (step s i) t m:=by
 intro k
 induction k with
 |zero=>
  intro s t h b i a;cases h;exact NB a (b i)
 |succ k ih=>
  intro s t h b i a;cases h with
  |step _ _ j _ hj hr=>
   by_cases e:j=i
   .subst e;exact⟨k,rfl,hr⟩
   .obtain⟨d,f⟩:=c s i j (Ne.symm e) a hj;let⟨l,_⟩:=c s j i e hj a;let⟨m,n,p⟩:=ih hr b l;refine⟨k,rfl,?_⟩;rw[n];refine .step _ _ j _ d ?_;rw[f];exact p
theorem bf.unique(d:pQ ready step):∀{k l:Nat}{s t u:α},bf ready step s t k->AtEnd ready t->bf ready step s u l->AtEnd ready u->t=u:=by
 intro k
 induction k with
 |zero=>
  intro l s t u h b g c;cases h;cases g with
  |here=>rfl
  |step _ _ j _ hj _=>exact NB hj (b j)
 |succ k ih=>
  intro l s t u h b g c;cases h with
  |step _ _ j _ hj hr=>
   let⟨m,_,e⟩:=g.first d c hj
   exact ih hr b e c
theorem bf.keeps{P:α->Prop}(c:∀s i,P s->ready s i->P (step s i)){s t:α}{k:Nat}(h:bf ready step s t k)(b:P s):P t:=by
 induction h with
 |here s=>exact b
 |step s t i k h _ ih=>exact ih (c s i b h)
theorem bf.wide{b:α-> ι ->Prop}(c:∀s i,ready s i->b s i){s t:α}{k:Nat}(h:bf ready step s t k):bf b step s t k:=by
 induction h with
 |here s=>exact .here s
 |step s t i k h _ ih=>exact .step s t i k (c s i h) ih
end
section
variable {α:Type} (E:α -> α -> Prop)
inductive aX :Nat->α->α->Prop
 |here (a:α):aX 0 a a
 |step {n:Nat} {a b c:α} (h:E a b) (r:aX n b c):aX (n+1) a c
def Far(t:α)(n:Nat)(a:α):Prop:=aX E n a t/\∀m,m<n->¬aX E m a t
end
section
variable {α:Type}{E:α -> α -> Prop}
theorem aX.trans{n m:Nat}{a b c:α}(h:aX E n a b)(g:aX E m b c):aX E (n+m) a c:=by
 induction h with
 |here a=>rw[MR];exact g
 |step h _ ih=>rw[show∀k:Nat,k+1+m=k+m+1 from λk=>E5];exact .step h (ih g)
theorem aX.one{a b:α}(h:E a b):aX E 1 a b:=.step h (.here b)
theorem aX.zero{a b:α}(h:aX E 0 a b):a=b:=by
 generalize d:(0:Nat)=n at h;cases h with
 |here=>rfl
 |step=>cases d
theorem aX.first{n:Nat}{a c:α}(h:aX E (n+1) a c):∃b,E a b/\aX E n b c:=by
 generalize e:n+1=m at h;cases h with
 |here=>cases e
 |step h r=>cases e;exact⟨_,h,r⟩
theorem aX.far{t:α}:∀{n:Nat}{a:α},aX E n a t->∃m,m<=n/\Far E t m a:=by
 intro n
 induction n using Nat.strongRecOn with
 |ind n ih=>
  intro a h;by_cases d:∃m,m<n/\aX E m a t
  .obtain⟨m,b,c⟩:=d;let⟨q,f,e⟩:=ih m b c;exact⟨q,E5,e⟩
  .exact⟨n,Mj _,h,λm b c=>d ⟨m,b,c⟩⟩
theorem Far.unique{t a:α}{n m:Nat}(h:Far E t n a)(g:Far E t m a):n=m:=by
 rcases Ny n m with e|e|e
 .exact NB h.1 (g.2 n e)
 .exact e
 .exact NB g.1 (h.2 m e)
theorem Far.zero(t:α):Far E t 0 t:=⟨.here t,λ_m h=>aO h⟩
theorem Far.Fg{t a:α}(h:Far E t 0 a):a=t:=h.1.zero
theorem Far.next{t a:α}{n:Nat}(h:Far E t (n+1) a):∃b,E a b/\Far E t n b:=by
 let⟨b,c,e⟩:=h.1.first
 let⟨m,i,d⟩:=e.far;rcases Nat.lt_or_ge m n with f|f
 .exact NB (aX.step c d.1) (h.2 (m+1) E5)
 .have:m=n:=E5;subst this;exact⟨b,c,d⟩
end
variable {L Q:List Nat}{p:Nat}{A:Nat -> Nat}
section
variable {E:Nat -> Nat -> Prop}{t:Nat}
structure Bfs (E:Nat->Nat->Prop)(t:Nat)(A:Nat->Nat)(Q:List Nat):Prop where
 fin:∀p,A p≠0->Far E t (A p-1) p
 q:∀p∈Q,A p≠0
 nd:Q.Nodup
 mono:Q.Pairwise λp r=>A p<=A r
 two:∀h l,Q=h :: l->∀r∈Q,A r<=A h+1
 lev:∀p n,Far E t n p->(Q=[]\/∃h l,Q=h :: l/\n+1<=A h)->A p≠0
 don:∀p,A p≠0->p∉Q->∀r,E r p->A r≠0/\r≠t
 tar:A t=1
structure ow (E:Nat->Nat->Prop)(t:Nat)(p:Nat)(L:List Nat)(A:Nat->Nat)(Q:List Nat):Prop where
 fin:∀r,A r≠0->Far E t (A r-1) r
 q:∀r∈Q,A r≠0
 nd:Q.Nodup
 mono:Q.Pairwise λa b=>A a<=A b
 two:∀r∈Q,A p<=A r/\A r<=A p+1
 lev:∀r n,Far E t n r->n+1<=A p->A r≠0
 don:∀r,A r≠0->r∉Q->r≠p->∀s,E s r->A s≠0/\s≠t
 cur:∀s∈L,A s≠0/\s≠t
 pos:A p≠0
 out:p∉Q
 tar:A t=1
theorem Bfs.start(E:Nat->Nat->Prop)(t:Nat):Bfs E t (λp=>if p=t then 1 else 0) [t]:=by
 refine⟨λp h=>?_,λp h=>?_,E9,E9,λh l e r a=>?_,λp n c h=>?_,λp h d=>?_,E9⟩
 .by_cases e:p=t
  .subst e;simp only[if_true];exact Far.zero p
  .simp[e] at h
 .rw[Mt] at h;simp[h]
 .simp only[List.cons.injEq] at e;rw[Mt] at a;rw[a,<-e.1];simp
 .rcases h with h|⟨h,l,e,b⟩
  .cases h
  .simp only[List.cons.injEq] at e;rw[<-e.1] at b;simp only[if_true] at b;have:n=0:=E5;subst this;rw[c.Fg];simp
 .by_cases e:p=t
  .exact NB (by rw[e];simp) d
  .simp[e] at h
theorem Bfs.take(h:Bfs E t A (p :: Q)):ow E t p [] A Q:=by
 have b:=List.nodup_cons.1 h.nd;have c:=NH.1 h.mono;refine⟨h.fin,λr a=>h.q r (MH _ a),b.2,c.2,λr a=>⟨c.1 r a,h.two p Q rfl r (MH _ a)⟩,λr n d f=>h.lev r n d (.inr ⟨p,Q,rfl,f⟩),λr a i j=>h.don r a ?_,λs k=>(by cases k),h.q p E9,b.1,h.tar⟩;intro l;rcases Nh.1 l with e|e
 .exact j e
 .exact i e
theorem ow.old{s:Nat}(h:ow E t p L A Q)(c:A s≠0)(d:s≠t):ow E t p (L++[s]) A Q:=⟨h.fin,h.q,h.nd,h.mono,h.two,h.lev,h.don,λr f=>by
  rcases Mv.1 f with e|e
  .exact h.cur r e
  .rw[Mt] at e;rw[e];exact⟨c,d⟩,h.pos,h.out,h.tar⟩
theorem ow.new{s:Nat}(h:ow E t p L A Q)(B:E s p)(l:A s=0)(v:s≠t):ow E t p (L++[s]) (λr=>if r=s then A p+1 else A r) (Q++[s]):=by
 have w:p≠s:=λe=>h.pos (by rw[e];exact l)
 have j:s∉Q:=λe=>h.q s e l
 have C:Far E t (A p) s:=by
  have D:=h.fin p h.pos;have N:=h.pos;refine⟨?_,λm O F=>?_⟩
  .have:=aX.step B D.1;rw[show A p-1+1=A p by omega] at this;exact this
  .obtain⟨G,k,i⟩:=F.far;exact h.lev s G i E5 l
 have same:∀r,r≠s->(if r=s then A p+1 else A r)=A r:=λr e=>NA e
 have q:=same p w;refine⟨λr c=>?_,λr c=>?_,?_,?_,λr c=>?_,λr n H y=>?_,λr c z I x J=>?_,λr c=>?_,by simp only[q];exact h.pos,?_,?_⟩
 .by_cases e:r=s
  .subst e;simp only[if_true];rw[Nat.add_sub_cancel];exact C
  .simp only[same r e] at c⊢;exact h.fin r c
 .by_cases e:r=s
  .simp[e]
  .rw[same r e];rcases Mv.1 c with g|g
   .exact h.q r g
   .exact NB (Mt.1 g) e
 .rw[List.nodup_append];exact⟨h.nd,E9,λa d b f e=>by rw[Mt] at f;rw[e,f] at d;exact j d⟩
 .rw[MP];refine⟨h.mono.imp_of_mem λ{a b} d f K=>?_,E9,λa d b f=>?_⟩
  .rw[same a (λe=>j (by rw[<-e];exact d)),same b λe=>j (by rw[<-e];exact f)];exact K
  .rw[Mt] at f;subst f;rw[same a (λe=>j (by rw[<-e];exact d)),Nz rfl];exact (h.two a d).2
 .simp only[q];by_cases e:r=s
  .rw[Nz e];omega
  .rw[same r e];rcases Mv.1 c with g|g
   .exact h.two r g
   .exact NB (Mt.1 g) e
 .simp only[q] at y;by_cases e:r=s
  .rw[Nz e];omega
  .rw[same r e];exact h.lev r n H y
 .have M:r≠s:=λe=>z (by rw[e];simp)
  rw[same r M] at c;let⟨k,i⟩:=h.don r c (λg=>z (Mv.2 (.inl g))) I x J;refine⟨?_,i⟩;by_cases e:x=s
  .rw[Nz e];omega
  .rw[same x e];exact k
 .rcases Mv.1 c with g|g
  .obtain⟨k,i⟩:=h.cur r g;refine⟨?_,i⟩;by_cases e:r=s
   .rw[Nz e];omega
   .rw[same r e];exact k
  .rw[Mt] at g;rw[g,Nz rfl];exact⟨E5,v⟩
 .intro g;rcases Mv.1 g with g|g
  .exact h.out g
  .exact w (Mt.1 g)
 .rw[same t (Ne.symm v)];exact h.tar
theorem ow.ends(h:ow E t p L A Q)(l:∀s,E s p->s∈L):Bfs E t A Q:=by
 have i:∀r,A r≠0->r∉Q->∀s,E s r->A s≠0/\s≠t:=λr j w s k=>by
  by_cases e:r=p
  .rw[e] at k;exact h.cur s (l s k)
  .exact h.don r j w e s k
 refine⟨h.fin,h.q,h.nd,h.mono,λa x e r j=>?_,λr n d y=>?_,i,h.tar⟩
 .have f:=(h.two a (by rw[e];simp)).1;have c:=(h.two r j).2;omega
 .rcases y with rfl|⟨a,x,rfl,F⟩
  .clear l
   induction n generalizing r with
   |zero=>rw[d.Fg,h.tar];omega
   |succ n ih=>
    let⟨b,f,c⟩:=d.next;exact (i b (ih b c) E9 r f).1
  .have G:=h.two a E9;by_cases z:n+1<=A p
   .exact h.lev r n d z
   .have H:n=A p:=E5;obtain⟨m,B⟩:∃m,n=m+1:=⟨n-1,by have:=h.pos;omega⟩;subst B;let⟨b,f,c⟩:=d.next;have v:=h.lev b m c E5;have C:=(h.fin b v).unique c;refine (i b v (λg=>?_) r f).1;have D:=NH.1 h.mono;rcases Nh.1 g with e|e
    .rw[e] at C;omega
    .have:=D.1 b e;omega
theorem ow.found(h:ow E t p L A Q)(f:E t p):aX E (A p) t t/\(∀m,1<=m->m<A p->¬aX E m t t)/\∀r n,n+1<=A p->(A r=n+1↔Far E t n r):=by
 have x:=h.pos;have a:∀r n,n+1<=A p->(A r=n+1↔Far E t n r):=λr n i=>by
  constructor
  .intro e;have:=h.fin r E5;rw[e,Nat.add_sub_cancel] at this;exact this
  .intro c;have d:=h.lev r n c i;have:=(h.fin r d).unique c;omega
 refine⟨?_,λm d y j=>?_,a⟩
 .have:=aX.step f (h.fin p h.pos).1;rw[show A p-1+1=A p by omega] at this;exact this
 .obtain⟨q,k⟩:∃q,m=q+1:=⟨m-1,E5⟩;subst k;let⟨b,l,s⟩:=j.first
  let⟨n,z,v⟩:=s.far;have w:=(a b n E5).2 v;refine (h.don b E5 (λg=>?_) (λe=>?_) t l).2 rfl
  .have:=(h.two b g).1;omega
  .rw[e] at w;omega
theorem Bfs.none(h:Bfs E t A []):∀m,1<=m->¬aX E m t t:=λm i a=>by
 obtain⟨q,c⟩:∃q,m=q+1:=⟨m-1,E5⟩;subst c;let⟨b,d,e⟩:=a.first
 let⟨n,_,f⟩:=e.far;exact (h.don b (h.lev b n f (.inl rfl)) E9 t d).2 rfl
end
theorem G5{p:Prop}(h:p:=by (repeat (first | (with_reducible exact K_.refl _) | (with_reducible assumption) | apply K_.drew))):p:=h
theorem G7{p:Prop}(h:p:=by (rw[World.putObj_size];exact Mj _)):p:=h
theorem G8{p:Prop}(h:p:=by (repeat (first | (with_reducible exact K_.refl _) | apply K_.alloc | apply K_.drewN | apply K_.drew))):p:=h
theorem G9{p:Prop}(h:p:=by (repeat (first | apply K_.alloc | exact K_.refl _))):p:=h
theorem H6{p:Prop}(h:p:=by (rw[ML];omega)):p:=h
theorem H7{p:Prop}(h:p:=by (repeat (first | (with_reducible exact K_.refl _) | (with_reducible assumption) | apply K_.drew | apply K_.alloc))):p:=h
theorem I5{p:Prop}(h:p:=by (repeat (first | apply K_.drew | assumption))):p:=h
theorem I6{p:Prop}(h:p:=by (repeat (first | apply K_.drew | apply K_.alloc | exact K_.refl _))):p:=h
theorem I9{p:Prop}(h:p:=by (repeat (first | apply K_.drew | apply K_.alloc | exact K_.refl _ | assumption))):p:=h
theorem J2{p:Prop}(h:p:=by (repeat (first | apply K_.drew | exact K_.refl _ | assumption))):p:=h
theorem J5{p:Prop}(h:p:=by (repeat (first | (refine K_.setCell ?_ (by simp) _) | apply K_.alloc | exact K_.refl _))):p:=h
theorem J6{p:Prop}(h:p:=by (repeat (first | exact Xj.refl _ _ _ | exact Xj.ax (by assumption) | apply Xj.drew | (refine Xj.setCell ?_ (by simp) (by simp) _) | apply Xj.alloc))):p:=h
theorem L6{p:Prop}(h:p:=by (repeat (first | (refine K_.setCell ?_ (by simp <;> omega) _) | (with_reducible exact K_.refl _) | (with_reducible assumption) | apply K_.drew | apply K_.alloc))):p:=h
theorem L8{p:Prop}(h:p:=by (repeat (first | assumption | apply K_.drew))):p:=h
theorem M0{p:Prop}(h:p:=by (rw[World.putObj_size,size_setCell,size_setCell];exact Mj _)):p:=h
