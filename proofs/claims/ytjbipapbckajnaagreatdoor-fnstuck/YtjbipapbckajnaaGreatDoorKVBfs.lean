import Derived.WalkKit
import Derived.Deep.Draws
import Derived.Deep.MidRow
import Derived.Deep.OwnRows
namespace Go.Proofs.YtjbipapbckajnaaGreatDoor
open Go.RowKit
abbrev _root_.Go.Value.a(x:Int):Value:=.int .i64 x
abbrev J3:Value:=.slice none 0 0
abbrev _root_.Go.Value.b(b n c:Nat):Value:=.slice (some ⟨b,0,none⟩) n c
abbrev _root_.Go.Value.c(b:Nat):Value:=.pointer (some ⟨b,0,none⟩)
abbrev J4(w:World)(b i:Nat)(v:Value):Prop:=w.cell? ⟨b,i,none⟩=some v
theorem A7{p:Prop}(h:p:=by omega):p:=h
theorem A8{p:Prop}(h:p:=by decide):p:=h
theorem A9{p:Prop}(h:p:=by simp):p:=h
theorem C8{p:Prop}(h:p:=by go_num):p:=h
theorem C9{p:Prop}(h:p:=by kernel_rfl):p:=h
theorem D5{p:Prop}(h:p:=by (unfold maxLen;omega)):p:=h
theorem D6{p:Prop}(h:p:=by (simp;omega)):p:=h
theorem D7{p:Prop}(h:p:=by (simp <;> omega)):p:=h
theorem D8{p:Prop}(h:p:=by rfl):p:=h
theorem D9{p:Prop}(h:p:=by (simp[Act.eval])):p:=h
theorem E8{p:Prop}(h:p:=by (simp[IntKind.wrap,IntKind.bits,IntKind.signed];omega)):p:=h
theorem F6{p:Prop}(h:p:=by (show (-1000:Int)<=0;omega)):p:=h
theorem F7{p:Prop}(h:p:=by (show (0:Int)<=1000;omega)):p:=h
theorem G5{p:Prop}(h:p:=by (simp[Value.oneCell'])):p:=h
theorem G6{p:Prop}(h:p:=by assumption):p:=h
theorem G8{p:Prop}(h:p:=by (rw[Int.tmod_eq_emod_of_nonneg (by omega)];omega)):p:=h
theorem G9{p:Prop}(h:p:=by (simp[List.getD])):p:=h
theorem H5{p:Prop}(h:p:=by (unfold maxLen;simp;omega)):p:=h
theorem I5{p:Prop}(h:p:=by (rw[IntKind.wrap_i64];omega)):p:=h
theorem I6{p:Prop}(h:p:=by (rw[List.length_drop];omega)):p:=h
theorem I7{p:Prop}(h:p:=by (show (-1000:Int)<=0/\(0:Int)<=1000;decide)):p:=h
theorem J2{p:Prop}(h:p:=by (rw[Int.tdiv_eq_ediv_of_nonneg (by omega)];omega)):p:=h
abbrev Ps:=ByteArray
abbrev Pt:=Option Addr
abbrev Pv:=World
abbrev Pw:=Value
theorem NQ:type_of% @Nat.le_refl:=@Nat.le_refl
theorem NR:type_of% @Nat.lt_of_lt_of_le:=@Nat.lt_of_lt_of_le
theorem NS:type_of% @Nat.zero_le:=@Nat.zero_le
theorem NT:type_of% @Nat.le_trans:=@Nat.le_trans
theorem NU:type_of% @World.rangeAt_setCells_same:=@World.rangeAt_setCells_same
theorem NV:type_of% @List.getElem?_eq_getElem:=@List.getElem?_eq_getElem
theorem NW:type_of% @List.getElem?_eq_some_iff:=@List.getElem?_eq_some_iff
theorem NY:type_of% @List.take_succ_eq_append_getElem:=@List.take_succ_eq_append_getElem
theorem NZ:type_of% @List.mem_singleton:=@List.mem_singleton
theorem N_:type_of% @List.mem_append:=@List.mem_append
theorem Oa:type_of% @List.getElem_mem:=@List.getElem_mem
theorem Ob:type_of% @List.pairwise_iff_getElem:=@List.pairwise_iff_getElem
theorem Oc:type_of% @List.getElem_of_mem:=@List.getElem_of_mem
theorem Od:type_of% @World.cell?_of_block:=@World.cell?_of_block
theorem Oe:type_of% @List.mem_of_getElem?:=@List.mem_of_getElem?
theorem Og:type_of% @List.length_eq_zero_iff:=@List.length_eq_zero_iff
theorem Oh:type_of% @World.rangeAt_setCells_apart:=@World.rangeAt_setCells_apart
theorem Oi:type_of% @List.mem_cons_of_mem:=@List.mem_cons_of_mem
theorem Oj:type_of% @List.getElem?_set_ne:=@List.getElem?_set_ne
theorem Ol:type_of% @World.cell?_setCell_other:=@World.cell?_setCell_other
theorem Om:type_of% @Option.isSome_iff_exists:=@Option.isSome_iff_exists
theorem Oo:type_of% @List.length_take:=@List.length_take
theorem Oq:type_of% @List.mem_map:=@List.mem_map
theorem Ot:type_of% @Nat.le_of_eq:=@Nat.le_of_eq
theorem Ou:type_of% @List.pairwise_append:=@List.pairwise_append
theorem Ov:type_of% @World.ownsRow_made:=@World.ownsRow_made
theorem Ow:type_of% @Nat.zero_add:=@Nat.zero_add
theorem Ox:type_of% @List.take_length:=@List.take_length
theorem Oy:type_of% @List.take_of_length_le:=@List.take_of_length_le
theorem Oz:type_of% @Option.mem_toList:=@Option.mem_toList
theorem OA:type_of% @List.getElem_take:=@List.getElem_take
theorem OB:type_of% @Array.getElem?_eq_some_iff:=@Array.getElem?_eq_some_iff
theorem OC:type_of% @World.size_alloc:=@World.size_alloc
theorem OD:type_of% @List.length_append:=@List.length_append
theorem OE:type_of% @Option.some.injEq:=@Option.some.injEq
theorem OG:type_of% @Value.slice.injEq:=@Value.slice.injEq
theorem OH:type_of% @List.length_cons:=@List.length_cons
theorem OI:type_of% @Addr.add_mid:=@Addr.add_mid
theorem OJ:type_of% @Nat.add_zero:=@Nat.add_zero
theorem OL:type_of% @List.mem_cons:=@List.mem_cons
theorem OM:type_of% @List.not_mem_nil:=@List.not_mem_nil
theorem OO:type_of% @World.ownsRow_nil:=@World.ownsRow_nil
theorem OP:type_of% @List.mem_map_of_mem:=@List.mem_map_of_mem
theorem OQ:type_of% @Option.some.inj:=@Option.some.inj
theorem OT:type_of% @List.set_cons_succ:=@List.set_cons_succ
theorem OU:type_of% @List.getElem?_append_left:=@List.getElem?_append_left
theorem OV:type_of% @List.getElem?_append_right:=@List.getElem?_append_right
theorem OW:type_of% @List.take_append_drop:=@List.take_append_drop
theorem OX:type_of% @World.cell?_setCell_same:=@World.cell?_setCell_same
theorem OY:type_of% @List.length_map:=@List.length_map
theorem OZ:type_of% @List.length_set:=@List.length_set
theorem O_:type_of% @List.getElem?_set_self:=@List.getElem?_set_self
theorem Pb:type_of% @List.drop_eq_getElem_cons:=@List.drop_eq_getElem_cons
theorem Pd:type_of% @Nat.lt_trichotomy:=@Nat.lt_trichotomy
theorem Pe:type_of% @if_pos:=@if_pos
theorem Pf:type_of% @if_neg:=@if_neg
theorem Pg{a b:Prop}(h:a)(g:¬a):b:=_root_.absurd h g
theorem Ph:type_of% @Option.getD_some:=@Option.getD_some
theorem Pi:type_of% @List.map_append:=@List.map_append
theorem Pj:type_of% @List.eq_nil_of_length_eq_zero:=@List.eq_nil_of_length_eq_zero
theorem Pk:type_of% @decide_eq_true_eq:=@decide_eq_true_eq
theorem Pm:type_of% @List.length_singleton:=@List.length_singleton
theorem Pn:type_of% @List.pairwise_cons:=@List.pairwise_cons
theorem Po:type_of% @Addr.mk.injEq:=@Addr.mk.injEq
theorem Pp:type_of% @List.getElem?_toArray:=@List.getElem?_toArray
theorem Pq:type_of% @List.getElem_set:=@List.getElem_set
variable {p : Prop}
theorem Kz(h:p):Hid p:=h
theorem bC(h:Hid p):p:=h
theorem _root_.Go.RowKit.Hid.o(h:Hid p):p:=h
variable {q : Prop}
theorem aH(a:p)(b:q):Hid p/\Hid q:=⟨a,b⟩
theorem fu{r:Prop}(a:p)(b:q)(c:r):Hid p/\Hid q/\Hid r:=⟨a,b,c⟩
theorem jW{r s:Prop}(a:p)(b:q)(c:r)(d:s):Hid p/\Hid q/\Hid r/\Hid s:=⟨a,b,c,d⟩
theorem jH{r s t:Prop}(a:p)(b:q)(c:r)(d:s)(e:t):Hid p/\Hid q/\Hid r/\Hid s/\Hid t:=⟨a,b,c,d,e⟩
theorem ai{α:Sort _}(a:α):∃x,x=a:=⟨_,rfl⟩
structure bS where
 text:Ps
 goto:Int
structure Xj where
 asks:List Ps
 on:Int
 cases:List bS
 els:Int
 fall:Int
 fin:Bool
 bad:Bool
 give:Ps
structure eY where
 cost:Int
 steps:List Xj
def bS.zero :bS:=⟨ByteArray.empty,0⟩
def Xj.zero :Xj:=⟨[],0,[],0,0,false,false,ByteArray.empty⟩
def In64(n:Int):Prop:= -9223372036854775808<=n/\n<=9223372036854775807
def Strs(w:Pv)(a:Pt)(l:List Ps):Prop:=
 ∀i,i<l.length->∃b o,a=some ⟨b,o,none⟩/\b<w.heap.size/\w.cell? ⟨b,o+i,none⟩=some (.string (l.getD i ByteArray.empty))
def K_(w w':Pv):Prop:=Below w.heap.size w w'
theorem K_.refl(w:Pv):K_ w w:=Below.refl _ _
variable {a : Pv}
theorem K_.trans{b c:Pv}(h:K_ a b)(k:K_ b c):K_ a c:=
 Below.trans h (Below.mono k h.size)
theorem K_.drewN{b:Pv}(h:K_ a b)(n:Nat):K_ a (b.drewN n):=⟨h.os,h.tape,h.output,h.size,h.block⟩
theorem K_.drew{b:Pv}(h:K_ a b):K_ a b.drew:=Below.drew h
theorem K_.alloc{b:Pv}(h:K_ a b)(o:Obj):K_ a (b.alloc o):=Below.alloc h h.size o
theorem ah(w:Pv)(o:Obj):K_ w (w.alloc o):=K_.alloc (K_.refl w) o
theorem bD(w:Pv):K_ w w.drew:=K_.drew (K_.refl w)
variable {n : Nat}
theorem aT(h:n<0):p:=(Nat.not_lt_zero n h).elim
theorem K_.setCell{b:Pv}(h:K_ a b){p:Addr}(d:a.heap.size<=p.block)(v:Pw):K_ a (b.setCell p v):=Below.setCell h d v
theorem K_.setCells{g:Nat}(c:a.heap.size<=g):∀(vs:List Pw) (o:Nat) {b:Pv},K_ a b->K_ a (b.setCells g o vs)
 | [],_,_,h=>h
 | v :: r,o,_,h=>by
  rw[World.setCells];exact K_.setCells c r (o+1) (K_.setCell h c v)
variable {b : Nat} {w w' : Pv}
theorem K_.cell(h:K_ w w'){o:Nat}(c:b<w.heap.size):w'.cell? ⟨b,o,none⟩=w.cell? ⟨b,o,none⟩:=
 Below.cell h (p:=⟨b,o,none⟩) c
theorem K_.rules{W w1:Pv}(c:K_ W w1):(∀b o,b<W.heap.size->w1.cell? ⟨b,o,none⟩=W.cell? ⟨b,o,none⟩)/\(∀b o,b<W.heap.size->w1.frozen? ⟨b,o,none⟩=W.frozen? ⟨b,o,none⟩):=
 ⟨λb o h=>Below.cell c (p:=⟨b,o,none⟩) h,λb o h=>Below.frozen c (p:=⟨b,o,none⟩) h⟩
theorem K_.size(h:K_ w w'):w.heap.size<=w'.heap.size:=Below.size h
variable {l : List Ps}
theorem Strs.kept{a:Pt}(h:Strs w a l)(k:K_ w w'):Strs w' a l:=by
 intro i c;obtain⟨d,o,e,b,f⟩:=h i c;exact⟨d,o,e,NR b k.size,by rw[k.cell b,f]⟩
variable {cs : List Pw}
theorem K_.range(h:K_ w w'){o:Nat}(a:b<w.heap.size)(c:w.rangeAt b o cs):w'.rangeAt b o cs:=
 λj v d=>by rw[h.cell a];exact c j v d
theorem size_setCell(w:Pv)(p:Addr)(v:Pw):(w.setCell p v).heap.size=w.heap.size:=by simp[World.setCell]
def Row(w:Pv)(b n:Nat):Prop:=∃t f,w.rowIs b t n f
theorem Row.lt(h:Row w b n):b<w.heap.size:=let ⟨_,_,h⟩:=h;h.lt
theorem Row.there(h:Row w b n){o m:Nat}(a:o+m<=n):w.there b o m:=by
 obtain⟨t,f,h⟩:=h;intro j c;exact⟨by rw[h.cell A7];rfl,h.frozen _⟩
theorem Row.kept(h:Row w b n)(k:K_ w w'):Row w' b n:=by
 have c:=h.lt;obtain⟨t,f,h⟩:=h;exact⟨t,f,h.of_block (k.block b c)⟩
theorem Row.set(h:Row w b n)(p:Addr)(a:p.spot=none)(v:Pw):Row (w.setCell p v) b n:=by
 obtain⟨t,f,h⟩:=h;by_cases e:b=p.block
 .subst e;obtain⟨d,c,i⟩:=p;subst a;exact⟨t,_,h.set c v⟩
 .exact⟨t,f,h.setOther e v⟩
theorem Row.setCells{g:Nat}:∀(vs:List Pw) (o:Nat) {w:Pv},Row w b n->Row (w.setCells g o vs) b n
 | [],_,_,h=>h
 | v :: r,o,_,h=>by
  rw[World.setCells];exact Row.setCells r (o+1) (h.set ⟨g,o,none⟩ rfl v)
theorem Row.made(w:Pv)(c:Array Pw)(t:TypeId):Row (w.alloc (.cells c t)) w.heap.size c.size:=
 ⟨t,λi=>c.getD i undef,World.rowIs_alloc w c t _ (λi b=>by simp[Array.getD,b])⟩
theorem Row.alloc(h:Row w b n)(o:Obj):Row (w.alloc o) b n:=by
 obtain⟨t,f,h⟩:=h;exact⟨t,f,h.alloc o⟩
theorem X_{P:Program}{fn:Func}{R:Ending->Pv->Prop}{a:Act}{p:Tmp}{c:TypeId}(cs:List Pw)(d:TypeDesc)(h:fn.results= #[.cell p c])
 (e:a.tmps.getD p undef= .c b) (f:w.rangeAt b 0 cs) (i:P.underlying c=some d) (j:d.isRow=true) (hi:(P.info? c).map (·.size)=some cs.length)
 (k:a.defers=[]) (l:R (.returned (.agg cs.toArray)) w):bodyPost P fn R .ret a w:=by
 refine bodyPost_ret ?_ k l;have m:a.tmps[p]?.getD undef= .c b:=by simpa using e
 simp only[results,h];simp[m,asAddr,run_loadVar_mid w b 0 c cs d f i j hi]
theorem rF{P:Program}(t e:TypeId)(z:Pw)(size b:Nat)(j:P.underlying t=some (.slice e))(k:(P.info? e).map (λi=>(i.zero,i.size,i.bytes))=some (some z,size,b))
  (c d:IntKind) (n:Nat) (v:b*n<=281474976710656) (x:n<=9223372036854775807) (w:Pv):
  (Instr.makeSlice t (.int c (n:Int)) (.int d (n:Int))).run P w= .ok (.b w.heap.size n n) (w.alloc (.cells (madeCells z.cells (n*size)) e)):=by
 obtain⟨i,l,f⟩:=Option.map_eq_some_iff.1 k;simp only[Prod.mk.injEq] at f;obtain⟨m,p,q⟩:=f;have r:(i.bytes:Int)*(n:Int)<=281474976710656:=by
  have s:((i.bytes*n:Nat):Int)<=281474976710656:=by rw[q];omega
  rwa [Int.natCast_mul] at s
 have h:=run_make (P:=P) w t e i z j l m c d n n A7 (Int.le_refl _) r A7;simp only[Int.toNat_natCast,p] at h;exact h
def bS.cells(c:bS):List Pw:=[.string c.text,.a c.goto]
def lI(w:Pv)(a:Pt)(l:List bS):Prop:=
 ∀i,i<l.length->∃b o,a=some ⟨b,o,none⟩/\b<w.heap.size/\w.rangeAt b (o+i*2) (l.getD i bS.zero).cells
theorem lI.kept{a:Pt}{l:List bS}(h:lI w a l)(k:K_ w w'):lI w' a l:=by
 intro i c;obtain⟨d,o,e,b,f⟩:=h i c;exact⟨d,o,e,NR b k.size,k.range b f⟩
def Xj.cells(s:Xj)(aa:Pt)(ca:Nat)(ac:Pt)(cc:Nat):List Pw:=
 [.slice aa s.asks.length ca,.a s.on,.slice ac s.cases.length cc,.a s.els,.a s.fall,.bool s.fin,.bool s.bad,.string s.give]
theorem Xj.one(s:Xj)(a:Pt)(b:Nat)(c:Pt)(d:Nat):(s.cells a b c d).toArray.all (·.oneCell')=true:=
 all_oneCell_toArray (by simp[Xj.cells,Value.oneCell'])
def Bo(w:Pv)(cs:List Pw)(s:Xj):Prop:=
 ∃aa ca ac cc,cs=s.cells aa ca ac cc/\Strs w aa s.asks/\lI w ac s.cases/\s.asks.length<=ca
theorem Bo.kept{s:Xj}(h:Bo w cs s)(k:K_ w w'):Bo w' cs s:=by
 obtain⟨a,b,c,d,e,f,i,j⟩:=h;exact⟨a,b,c,d,e,f.kept k,i.kept k,j⟩
def Steps(w:Pv)(a:Pt)(l:List Xj):Prop:=
 ∀i,i<l.length->∃b o cs,a=some ⟨b,o,none⟩/\b<w.heap.size/\w.rangeAt b (o+i*8) cs/\Bo w cs (l.getD i Xj.zero)
theorem Steps.kept{a:Pt}{l:List Xj}(h:Steps w a l)(k:K_ w w'):Steps w' a l:=by
 intro i c;obtain⟨d,o,e,f,b,j,m⟩:=h i c;exact⟨d,o,e,f,NR b k.size,k.range b j,m.kept k⟩
structure Xj.Fits (s:Xj):Prop where
 asks:s.asks.length<=maxLen
 eZ:∀x∈s.asks,x.size<=maxLen
 on:In64 s.on
 cases:s.cases.length<=maxLen
 dG:∀c∈s.cases,c.text.size<=maxLen/\In64 c.goto
 els:In64 s.els
 fall:In64 s.fall
 give:s.give.size<=maxLen
theorem wm{k:IntKind}{a b:Int}(h:a=b):Ending.returned (.int k a)= .returned (.int k b):=by rw[h]
def sumTo{α:Type}(f:α->Nat)(l:List α)(k:Nat):Nat:=((l.take k).map f).sum
theorem Ez{α:Type}(f:α->Nat)(l:List α):sumTo f l 0=0:=by simp[sumTo]
theorem ER{α:Type}(f:α->Nat)(l:List α)(d:α)(k:Nat)(h:k<l.length):sumTo f l (k+1)=sumTo f l k+f (l.getD k d):=by
 unfold sumTo;rw[NY h,Pi,List.sum_append];simp[List.getD,h]
theorem GR{α:Type}(f:α->Nat)(l:List α):sumTo f l l.length= (l.map f).sum:=by simp[sumTo]
theorem sumTo_le{α:Type}(f:α->Nat)(l:List α)(k:Nat):sumTo f l k<=(l.map f).sum:=by
 have e:(l.map f).sum= ((l.take k).map f).sum+ ((l.drop k).map f).sum:=by rw[<-List.sum_append,<-Pi,OW]
 unfold sumTo;omega
structure Xk (lo hi:Nat) (w w':Pv):Prop where
 os:w'.os=w.os
 tape:w'.tape=w.tape
 output:w'.output=w.output
 size:w.heap.size<=w'.heap.size
 block:∀k,k<w.heap.size->(k<lo\/hi<=k)->w'.heap[k]? =w.heap[k]?
variable {hi lo : Nat}
theorem Xk.au(h:K_ w w'):Xk lo hi w w':=⟨h.os,h.tape,h.output,h.size,λk c _=>h.block k c⟩
theorem Xk.refl(lo hi:Nat)(w:Pv):Xk lo hi w w:= .au (K_.refl w)
theorem Xk.trans{b c:Pv}(h:Xk lo hi a b)(k:Xk lo hi b c):Xk lo hi a c:=
 ⟨k.os.trans h.os,k.tape.trans h.tape,k.output.trans h.output,NT h.size k.size,λi d e=>(k.block i (NR d h.size) e).trans (h.block i d e)⟩
theorem Xk.drew{b:Pv}(h:Xk lo hi a b):Xk lo hi a b.drew:=⟨h.os,h.tape,h.output,h.size,h.block⟩
theorem Xk.drewN{b:Pv}(h:Xk lo hi a b)(n:Nat):Xk lo hi a (b.drewN n):=⟨h.os,h.tape,h.output,h.size,h.block⟩
theorem Xk.alloc{b:Pv}(h:Xk lo hi a b)(o:Obj):Xk lo hi a (b.alloc o):=h.trans (.au ((K_.refl b).alloc o))
theorem Xk.setCell{b:Pv}(h:Xk lo hi a b){p:Addr}(e:lo<=p.block)(h2:p.block<hi)(v:Pw):Xk lo hi a (b.setCell p v):=
 ⟨h.os,h.tape,h.output,by rw[size_setCell];exact h.size,λk c d=>by rw[Below.heap_setCell _ _ _ _ A7];exact h.block k c d⟩
theorem Xk.kept{b:Pv}(h:Xk lo hi a b)(c:K_ w a)(e:w.heap.size<=lo):K_ w b:=
 ⟨h.os.trans c.os,h.tape.trans c.tape,h.output.trans c.output,NT c.size h.size,λk d=>(h.block k (NR d c.size) A7).trans (c.block k d)⟩
def Same(lo hi:Nat)(w w':Pv):Prop:=∀b,lo<=b->b<hi->b<w.heap.size->w'.heap[b]? =w.heap[b]?
theorem Same.mono{a b:Nat}(h:Same lo hi w w')(e:lo<=a)(h2:b<=hi):Same a b w w':=λc f i d=>h c A7 A7 d
theorem K_.same(h:K_ w w')(lo hi:Nat):Same lo hi w w':=λb _ _ c=>h.block b c
theorem Xk.same(h:Xk lo hi w w'){l2 h2:Nat}(d:h2<=lo\/hi<=l2):Same l2 h2 w w':=λb _ _ c=>h.block b c A7
theorem Same.setCell(w:Pv){p:Addr}(a:p.block<lo\/hi<=p.block)(v:Pw):Same lo hi w (w.setCell p v):=λb _ _ _=>Below.heap_setCell _ _ _ _ A7
theorem Same.cell(h:Same lo hi w w'){o:Nat}(c:lo<=b)(h2:b<hi)(d:b<w.heap.size):w'.cell? ⟨b,o,none⟩=w.cell? ⟨b,o,none⟩:=Od (w:=w) (h b c h2 d)
theorem Same.row(h:Same lo hi w w')(d:lo<=b)(h2:b<hi)(a:Row w b n):Row w' b n:=by
 have e:=a.lt;obtain⟨t,f,a⟩:=a;exact⟨t,f,a.of_block (h b d h2 e)⟩
theorem Same.range(h:Same lo hi w w'){o:Nat}(c:lo<=b)(h2:b<hi)(d:b<w.heap.size)(e:w.rangeAt b o cs):w'.rangeAt b o cs:=
 λj v i=>by rw[h.cell c h2 d];exact e j v i
def bW(w:Pv)(lo hi:Nat)(a:Pt)(l:List Ps):Prop:=
 l=[]\/∃b,a=some ⟨b,0,none⟩/\lo<=b/\b<hi/\Row w b l.length/\∀i,i<l.length->w.cell? ⟨b,i,none⟩=some (.string (l.getD i ByteArray.empty))
theorem bW.same{a:Pt}(h:bW w lo hi a l)(k:Same lo hi w w'):bW w' lo hi a l:=by
 rcases h with h|⟨b,f,c,d,e,i⟩
 .exact .inl h
 .exact .inr ⟨b,f,c,d,k.row c d e,λj hi=>by rw[k.cell c d e.lt];exact i j hi⟩
theorem bW.mono{c d:Nat}{a:Pt}(h:bW w lo hi a l)(j:c<=lo)(h2:hi<=d):bW w c d a l:=by
 rcases h with h|⟨b,e,k,m,f,i⟩
 .exact .inl h
 .exact .inr ⟨b,e,A7,A7,f,i⟩
theorem bW.strs{a:Pt}(h:bW w lo hi a l):Strs w a l:=by
 rcases h with rfl|⟨b,c,f,j,d,e⟩
 .intro i hi;simp at hi
 .intro i hi;exact⟨b,0,c,d.lt,by rw[Ow];exact e i hi⟩
theorem rangeAt_of_block(h:w'.heap[b]? =w.heap[b]?)(o:Nat):w'.rangeAt b o=w.rangeAt b o:=by
 funext cs
 unfold World.rangeAt;have d:∀j,w'.cell? ⟨b,j,none⟩=w.cell? ⟨b,j,none⟩:=λj=>Od (w:=w) h
 simp only[d]
theorem Row.at{i:Nat}(h:Row w b n)(hi:i<n):(∃v,w.cell? ⟨b,i,none⟩=some v)/\w.frozen? ⟨b,i,none⟩=false:=by
 obtain⟨t,f,h⟩:=h;exact⟨⟨_,h.cell hi⟩,h.frozen i⟩
theorem Row.uT{m:Nat}(h:Row w b m)(c:5<=m:=by omega):((∃v,w.cell? ⟨b,0,none⟩=some v)/\w.frozen? ⟨b,0,none⟩=false)/\((∃v,w.cell? ⟨b,1,none⟩=some v)/\w.frozen? ⟨b,1,none⟩=false)/\((∃v,w.cell? ⟨b,2,none⟩=some v)/\w.frozen? ⟨b,2,none⟩=false)/\((∃v,w.cell? ⟨b,3,none⟩=some v)/\w.frozen? ⟨b,3,none⟩=false)/\(∃v,w.cell? ⟨b,4,none⟩=some v)/\w.frozen? ⟨b,4,none⟩=false:=⟨h.at A7,h.at A7,h.at A7,h.at A7,h.at A7⟩
theorem Row.all7{m:Nat}(h:Row w b m)(c:7<=m:=by omega):((∃v,w.cell? ⟨b,0,none⟩=some v)/\w.frozen? ⟨b,0,none⟩=false)/\((∃v,w.cell? ⟨b,1,none⟩=some v)/\w.frozen? ⟨b,1,none⟩=false)/\((∃v,w.cell? ⟨b,2,none⟩=some v)/\w.frozen? ⟨b,2,none⟩=false)/\((∃v,w.cell? ⟨b,3,none⟩=some v)/\w.frozen? ⟨b,3,none⟩=false)/\((∃v,w.cell? ⟨b,4,none⟩=some v)/\w.frozen? ⟨b,4,none⟩=false)/\((∃v,w.cell? ⟨b,5,none⟩=some v)/\w.frozen? ⟨b,5,none⟩=false)/\(∃v,w.cell? ⟨b,6,none⟩=some v)/\w.frozen? ⟨b,6,none⟩=false:=⟨h.at A7,h.at A7,h.at A7,h.at A7,h.at A7,h.at A7,h.at A7⟩
theorem bu{o:Nat}(h:Row w b n)(c:o<n)(v:Pw):(w.setCell ⟨b,o,none⟩ v).cell? ⟨b,o,none⟩=some v:=by
 obtain⟨⟨old,d⟩,_⟩:=h.at c;exact OX _ _ _ d
theorem Xx{o p:Nat}(a:o≠p)(v:Pw):(w.setCell ⟨b,o,none⟩ v).cell? ⟨b,p,none⟩=w.cell? ⟨b,p,none⟩:=
 Ol _ _ _ _ D7
variable {xs : List Pw} {base : Nat} {e : TypeId} {v : Pw}
theorem ak{size:Nat}(h:w.ownsRow base e size v n xs)(k:K_ w w'):w'.ownsRow base e size v n xs:=
 h.kept (row:=none) ⟨k.os,k.tape,k.output,k.size,λi c _=>k.block i c⟩ (by cases v.ownBlock <;> simp)
theorem eG{size:Nat}(h:w.ownsRow base e size v n xs){p:Addr}(i:p.block<base)(u:Pw):(w.setCell p u).ownsRow base e size v n xs:=by
 refine⟨h.1, ?_⟩;rcases h.2 with a|⟨g,b,c,rfl,d,f,rest⟩
 .exact .inl a
 .exact .inr ⟨g,b,c,rfl,d,by rw[Below.heap_setCell _ _ _ _ A7];exact f,rest⟩
theorem aL{a:Pv}{size:Nat}(k:K_ a w)(b:a.heap.size<=base)(h:w.ownsRow base e size v n xs)(g:w.grownBy w' v.ownBlock):K_ a w':=
 Below.grown k g k.size (λd f=>NT b (h.lt d f).1)
theorem gQ{base' size:Nat}(h:w.ownsRow base e size v n xs)(a:base'<=base):w.ownsRow base' e size v n xs:=by
 refine⟨h.1, ?_⟩;rcases h.2 with b|⟨g,c,d,rfl,f,rest⟩
 .exact .inl b
 .exact .inr ⟨g,c,d,rfl,NT a f,rest⟩
def aC(t:TypeId)(w w':Pv):Prop:=∀(b:Nat) (cur:Array Pw) (u:TypeId) (fr:Nat×Nat),u≠t->w.heap[b]? =some (Obj.cells cur u fr)->w'.heap[b]? =some (Obj.cells cur u fr)
theorem aO{o:Obj}(h:w.heap[b]? =some o):b<w.heap.size:=(OB.1 h).1
theorem aC.refl(t:TypeId)(w:Pv):aC t w w:=λ_ _ _ _ _ h=>h
variable {t : TypeId}
theorem aC.trans{b c:Pv}(i:aC t a b)(k:aC t b c):aC t a c:=λx e u f h j=>k x e u f h (i x e u f h j)
theorem aC.au(h:K_ w w'):aC t w w':=λb d u e _ a=>by rw[h.block b (aO a)];exact a
theorem aC.aI{size:Nat}(h:w.ownsRow base t size v n xs)(g:w.grownBy w' v.ownBlock):aC t w w':=by
 intro b f u i d a;rw[g.block b (aO a) ?_]
 .exact a
 .intro e;rcases h.2 with⟨rfl,_⟩|⟨j,k,l,rfl,_,c,_⟩
  .simp[Value.ownBlock] at e
  .simp only[Value.ownBlock,OE] at e;subst e;rw[a] at c;simp only[OE,Obj.cells.injEq] at c;exact d c.2.1
theorem aC.setCell{p:Addr}{b:Array Pw}{c:Nat×Nat}(h:w.heap[p.block]? =some (Obj.cells b t c))(v:Pw):aC t w (w.setCell p v):=by
 intro f i u j d a;rw[Below.heap_setCell _ _ _ _ ?_]
 .exact a
 .intro e;rw[e,h] at a;simp only[OE,Obj.cells.injEq] at a;exact d a.2.1.symm
def aB(w:Pv)(b:Nat)(t:TypeId)(n:Nat):Prop:=∃cur:Array Pw,w.heap[b]? =some (Obj.cells cur t (0,0))/\cur.size=n
theorem aB.row(h:aB w b t n):Row w b n:=by
 obtain⟨a,d,c⟩:=h;exact⟨t,λi=>a.getD i undef,a,d,c,λi e=>by simp[Array.getD,c,e]⟩
theorem aB.made(w:Pv)(c:Array Pw)(t:TypeId):aB (w.alloc (.cells c t)) w.heap.size t c.size:=⟨c,heap_alloc_new w _,rfl⟩
theorem aB.block(h:aB w b t n)(k:w'.heap[b]? =w.heap[b]?):aB w' b t n:=by
 obtain⟨c,d,e⟩:=h;exact⟨c,k.trans d,e⟩
theorem aB.lt(h:aB w b t n):b<w.heap.size:=let ⟨_,h1,_⟩:=h;aO h1
theorem aB.kept(h:aB w b t n)(k:K_ w w'):aB w' b t n:=h.block (k.block b h.lt)
theorem aB.set{o:Nat}(h:aB w b t n)(v:Pw):aB (w.setCell ⟨b,o,none⟩ v) b t n:=by
 obtain⟨d,c,e⟩:=h;obtain⟨f,k,i,a,j,_⟩:=(aB.row ⟨d,c,e⟩).set ⟨b,o,none⟩ rfl v;have:f=t:=by
  simp only[World.setCell] at a;simp[Array.getElem?_modify,c] at a;exact a.2.symm
 subst this;exact⟨i,a,j⟩
theorem aB.same{o:Nat}(h:aB w b t n)(v:Pw):aC t w (w.setCell ⟨b,o,none⟩ v):=by
 obtain⟨d,c,_⟩:=h;exact aC.setCell (p:=⟨b,o,none⟩) c v
def fA(w:Pv)(t:TypeId)(a:Pt)(l:List Ps):Prop:=
 l=[]\/∃b cur fr,a=some ⟨b,0,none⟩/\w.heap[b]? =some (Obj.cells cur t fr)/\∀i,i<l.length->w.cell? ⟨b,i,none⟩=some (.string (l.getD i ByteArray.empty))
def qp(w:Pv)(t:TypeId)(a:Pt)(l:List bS):Prop:=
 l=[]\/∃b cur fr,a=some ⟨b,0,none⟩/\w.heap[b]? =some (Obj.cells cur t fr)/\∀i,i<l.length->w.rangeAt b (i*2) (l.getD i bS.zero).cells
variable {u : TypeId}
theorem fA.same{a:Pt}(h:fA w t a l)(k:aC u w w')(i:t≠u):fA w' t a l:=by
 rcases h with h|⟨b,c,d,j,e,m⟩
 .exact .inl h
 .have f:=k b c t d i e;exact .inr ⟨b,c,d,j,f,λn p=>by rw[Od (w:=w) (f.trans e.symm)];exact m n p⟩
theorem fA.strs{a:Pt}(h:fA w t a l):Strs w a l:=by
 rcases h with rfl|⟨c,j,k,d,e,f⟩
 .intro i b;simp at b
 .exact λi b=>⟨c,0,d,aO e,by rw[Ow];exact f i b⟩
theorem qp.same{a:Pt}{l:List bS}(h:qp w t a l)(k:aC u w w')(i:t≠u):qp w' t a l:=by
 rcases h with h|⟨b,c,d,j,e,m⟩
 .exact .inl h
 .have f:=k b c t d i e;exact .inr ⟨b,c,d,j,f,λn p q v r=>by rw[Od (w:=w) (f.trans e.symm)];exact m n p q v r⟩
theorem qp.cases{a:Pt}{l:List bS}(h:qp w t a l):lI w a l:=by
 rcases h with rfl|⟨c,j,k,d,e,f⟩
 .intro i b;simp at b
 .exact λi b=>⟨c,0,d,aO e,by rw[Ow];exact f i b⟩
def lY(w:Pv)(ts tc:TypeId)(cs:List Pw)(s:Xj):Prop:=∃aa ca ac cc,cs=s.cells aa ca ac cc/\fA w ts aa s.asks/\qp w tc ac s.cases/\s.asks.length<=ca
theorem lY.same{ts a:TypeId}{s:Xj}(h:lY w ts a cs s)(k:aC u w w')(b:ts≠u)(h2:a≠u):lY w' ts a cs s:=by
 obtain⟨c,d,e,f,i,j,l,m⟩:=h;exact⟨c,d,e,f,i,j.same k b,l.same k h2,m⟩
def fG(w:Pv)(ts tc:TypeId)(xs:List Pw)(l:List Xj):Prop:=
 xs.length=l.length*8/\∀i,i<l.length->lY w ts tc ((xs.drop (i*8)).take 8) (l.getD i Xj.zero)
theorem fG.nil(w:Pv)(ts a:TypeId):fG w ts a [] []:=⟨rfl,λi b=>by simp at b⟩
theorem fG.same{ts a:TypeId}{l:List Xj}(h:fG w ts a xs l)(k:aC u w w')(c:ts≠u)(h2:a≠u):fG w' ts a xs l:=
 ⟨h.1,λi e=>(h.2 i e).same k c h2⟩
theorem fG.snoc{ts a:TypeId}{l:List Xj}{k:Nat}(p:k<l.length)(h:fG w ts a xs (l.take k))(d:lY w ts a cs (l.getD k Xj.zero)):fG w ts a (xs++cs) (l.take (k+1)):=by
 have m:cs.length=8:=by obtain⟨_,_,_,_,rfl,_⟩:=d;rfl
 have f:(l.take k).length=k:=by rw[Oo];omega
 have j:xs.length=k*8:=by rw[h.1,f]
 refine⟨by rw[OD,Oo,j,m,Nat.min_eq_left A7];omega,λi n=>?_⟩;rw[Oo] at n;by_cases e:i<k
 .have b:(l.take (k+1)).getD i Xj.zero= (l.take k).getD i Xj.zero:=by simp[List.getD,e,(A7:i<k+1)]
  have c:((xs++cs).drop (i*8)).take 8= (xs.drop (i*8)).take 8:=by
   rw[List.drop_append_of_le_length A7,List.take_append_of_le_length I6]
  rw[b,c];exact h.2 i (by rw[f];exact e)
 .obtain rfl:i=k:=A7;have b:(l.take (i+1)).getD i Xj.zero=l.getD i Xj.zero:=G9;have c:((xs++cs).drop (i*8)).take 8=cs:=by
   rw[<-j,List.drop_left,Oy A7]
  rw[b,c];exact d
theorem aU{size:Nat}(h:w.ownsRow base e size v n xs)(k:aC u w w')(b:e≠u):w'.ownsRow base e size v n xs:=by
 refine⟨h.1, ?_⟩;rcases h.2 with c|⟨g,d,a,rfl,f,i,rest⟩
 .exact .inl c
 .exact .inr ⟨g,d,a,rfl,f,k g a e _ b i,rest⟩
theorem ay{size:Nat}(h:w.ownsRow base e size v n xs):∃a b,v= .slice a n b:=by
 rcases h.2 with⟨rfl,rfl⟩|⟨g,b,d,rfl,_⟩
 .exact⟨none,0,rfl⟩
 .exact⟨_,b,rfl⟩
theorem Xz(w:Pv)(c:Array Pw)(t:TypeId):(w.alloc (.cells c t)).rangeAt w.heap.size 0 c.toList:=λj v a=>by
 rw[Ow,World.cell?_alloc_mark];simpa using a
theorem Xk.below{wr c:Pv}(h:Xk lo hi w wr)(b:Below w.heap.size wr c):Xk lo hi w c:=
 ⟨b.os.trans h.os,b.tape.trans h.tape,b.output.trans h.output,NT h.size b.size,λk e f=>(b.block k e).trans (h.block k e f)⟩
def Says(e:Ending)(p:Prop):Prop:=∃r,e= .returned (.bool r)/\(r=true↔p)
theorem Says.yes(h:p):Says (.returned (.bool true)) p:=⟨true,rfl,by simp[h]⟩
theorem Says.no(h:¬p):Says (.returned (.bool false)) p:=⟨false,rfl,by simp[h]⟩
theorem Says.cases{e:Ending}(h:Says e p):(e= .returned (.bool true)/\p)\/(e= .returned (.bool false)/\¬p):=by
 obtain⟨r,rfl,a⟩:=h;cases r
 .right;exact⟨rfl,λd=>by simpa using a.2 d⟩
 .left;exact⟨rfl,a.1 rfl⟩
theorem Says.dec(p:Prop)[Decidable p]:Says (.returned (.bool (decide p))) p:=⟨decide p,rfl,A9⟩
theorem Says.congr{e:Ending}(h:Says e p)(b:p↔q):Says e q:=by
 obtain⟨r,rfl,d⟩:=h;exact⟨r,rfl,d.trans b⟩
theorem qD{s t:Ps}:(t.toList == s.toList)=true↔t=s:=by
 rw[ByteArray.toList_eq,ByteArray.toList_eq];constructor
 .intro h;cases s;cases t;simp at h;simp[h]
 .rintro rfl;simp
theorem tZ{s t:Ps}(h:(t.toList == s.toList)=false):t≠s:=λe=>by rw[qD.2 e] at h;cases h
theorem um(s:Ps):s.toList=[]↔s.size=0:=by
 rw[ByteArray.toList_eq,<-Og,Array.length_toList];exact Iff.rfl
def iQ(c:UInt8):Prop:=33<=(c.toNat:Int)/\(c.toNat:Int)<=126/\(c.toNat:Int)≠44
def jo(s:Ps):Prop:=1<=s.size/\s.size<=20/\(s.toList == [45])=false/\∀i (h:i<s.size),iQ s[i]
def tV(l:List Ps):Prop:=∀i,i<l.length->jo (l.getD i ByteArray.empty)/\∀j,j<i->l.getD j ByteArray.empty≠l.getD i ByteArray.empty
def CaseOk(n:Int)(c:bS):Prop:=c.text.size<=200/\0<=c.goto/\c.goto<n
def DJ(s:Xj):Prop:=s.asks.length=0/\s.on=0/\s.cases.length=0/\s.els=0/\s.fall=0/\s.give.size<=30
def wC(s:Xj)(n:Int):Prop:=
 s.bad=false/\s.give.size=0/\s.asks.length<=5/\tV s.asks/\s.cases.length<=5/\(0<=s.els/\s.els<n)/\(-1<=s.fall/\s.fall<n)/\(s.on=0\/(0<=s.on/\s.on<s.asks.length))
def eH(s:Xj)(n:Int)(i:Nat):Prop:=CaseOk n (s.cases.getD i bS.zero)
def wD(s:Xj)(n:Int):Prop:=∀i,i<s.cases.length->eH s n i
def Gj(s:Xj)(n:Int):Prop:=wC s n/\wD s n
def lH(s:Xj)(n:Int):Prop:=(s.fin=true->DJ s)/\(s.fin=false->Gj s n)
def gW(a:eY):Prop:=(1<=a.cost/\a.cost<=20)/\(1<=a.steps.length/\a.steps.length<=20)/\∀i,i<a.steps.length->lH (a.steps.getD i Xj.zero) a.steps.length
structure Xq where
 fail:Bool
 text:Ps
def Xq.zero :Xq:=⟨false,ByteArray.empty⟩
def Xq.cells(c:Xq):List Pw:=[.bool c.fail,.string c.text]
def eU(w:Pv)(a:Pt)(l:List Xq):Prop:=
 ∀i,i<l.length->∃b o,a=some ⟨b,o,none⟩/\b<w.heap.size/\w.rangeAt b (o+i*2) (l.getD i Xq.zero).cells
theorem eU.kept{a:Pt}{l:List Xq}(h:eU w a l)(k:K_ w w'):eU w' a l:=by
 intro i c;obtain⟨d,o,e,b,f⟩:=h i c;exact⟨d,o,e,NR b k.size,k.range b f⟩
section
variable {α ι : Type} (ready : α -> ι -> Prop) (step : α -> ι -> α)
inductive bB :α->α->Nat->Prop
 | here (s:α):bB s s 0
 | step (s t:α) (i: ι) (k:Nat) (h:ready s i) (r:bB (step s i) t k):bB s t (k+1)
def qh :Prop:=∀s i j,i≠j->ready s i->ready s j->ready (step s i) j/\step (step s i) j=step (step s j) i
def AtEnd(s:α):Prop:=∀i,¬ready s i
variable {ready step}
theorem bB.trans{s t u:α}{k l:Nat}(h:bB ready step s t k)(g:bB ready step t u l):bB ready step s u (k+l):=by
 induction h with
 | here s=>simpa using g
 | step s t i k h _ ih=>rw[show k+1+l=k+l+1 by omega];exact .step s u i _ h (ih g)
theorem bB.one{s:α}{i: ι}(h:ready s i):bB ready step s (step s i) 1:= .step s _ i 0 h (.here _)
theorem bB.snoc{s t:α}{k:Nat}(h:bB ready step s t k){i: ι}(hi:ready t i):bB ready step s (step t i) (k+1):=h.trans (.one hi)
theorem bB.first(c:qh ready step):∀{k:Nat} {s t:α},bB ready step s t k->AtEnd ready t->∀{i: ι},ready s i->∃m,k=m+1/\bB ready step (step s i) t m:=by
 intro k
 induction k with
 | zero=>
  intro s t h b i a;cases h;exact Pg a (b i)
 | succ k ih=>
  intro s t h b i a;cases h with
  | step _ _ j _ hj hr=>
   by_cases e:j=i
   .subst e;exact⟨k,rfl,hr⟩
   .obtain⟨d,f⟩:=c s i j (Ne.symm e) a hj;obtain⟨l,_⟩:=c s j i e hj a;obtain⟨m,n,p⟩:=ih hr b l;refine⟨k,rfl, ?_⟩;rw[n];refine .step _ _ j _ d ?_;rw[f];exact p
theorem bB.unique(d:qh ready step):∀{k l:Nat} {s t u:α},bB ready step s t k->AtEnd ready t->bB ready step s u l->AtEnd ready u->t=u:=by
 intro k
 induction k with
 | zero=>
  intro l s t u h b g c;cases h;cases g with
  | here=>rfl
  | step _ _ j _ hj _=>exact Pg hj (b j)
 | succ k ih=>
  intro l s t u h b g c;cases h with
  | step _ _ j _ hj hr=>
   obtain⟨m,_,e⟩:=g.first d c hj
   exact ih hr b e c
theorem bB.keeps{P:α->Prop}(c:∀s i,P s->ready s i->P (step s i)){s t:α}{k:Nat}(h:bB ready step s t k)(b:P s):P t:=by
 induction h with
 | here s=>exact b
 | step s t i k h _ ih=>exact ih (c s i b h)
theorem bB.wide{b:α-> ι ->Prop}(c:∀s i,ready s i->b s i){s t:α}{k:Nat}(h:bB ready step s t k):bB b step s t k:=by
 induction h with
 | here s=>exact .here s
 | step s t i k h _ ih=>exact .step s t i k (c s i h) ih
end
section
variable {α : Type} (E : α -> α -> Prop)
inductive aV :Nat->α->α->Prop
 | here (a:α):aV 0 a a
 | step {n:Nat} {a b c:α} (h:E a b) (r:aV n b c):aV (n+1) a c
def Far(t:α)(n:Nat)(a:α):Prop:=aV E n a t/\∀m,m<n->¬aV E m a t
end
section
variable {α : Type} {E : α -> α -> Prop}
theorem aV.trans{n m:Nat}{a b c:α}(h:aV E n a b)(g:aV E m b c):aV E (n+m) a c:=by
 induction h with
 | here a=>rw[Ow];exact g
 | step h _ ih=>rw[show∀k:Nat,k+1+m=k+m+1 from λk=>A7];exact .step h (ih g)
theorem aV.one{a b:α}(h:E a b):aV E 1 a b:= .step h (.here b)
theorem aV.zero{a b:α}(h:aV E 0 a b):a=b:=by
 generalize d:(0:Nat)=n at h;cases h with
 | here=>rfl
 | step=>cases d
theorem aV.first{n:Nat}{a c:α}(h:aV E (n+1) a c):∃b,E a b/\aV E n b c:=by
 generalize e:n+1=m at h;cases h with
 | here=>cases e
 | step h r=>cases e;exact⟨_,h,r⟩
theorem aV.far{t:α}:∀{n:Nat} {a:α},aV E n a t->∃m,m<=n/\Far E t m a:=by
 intro n
 induction n using Nat.strongRecOn with
 | ind n ih=>
  intro a h;by_cases d:∃m,m<n/\aV E m a t
  .obtain⟨m,b,c⟩:=d;obtain⟨q,f,e⟩:=ih m b c;exact⟨q,A7,e⟩
  .exact⟨n,NQ _,h,λm b c=>d ⟨m,b,c⟩⟩
theorem Far.unique{t a:α}{n m:Nat}(h:Far E t n a)(g:Far E t m a):n=m:=by
 rcases Pd n m with e|e|e
 .exact Pg h.1 (g.2 n e)
 .exact e
 .exact Pg g.1 (h.2 m e)
theorem Far.zero(t:α):Far E t 0 t:=⟨.here t,λ_m h=>aT h⟩
theorem Far.Gq{t a:α}(h:Far E t 0 a):a=t:=h.1.zero
theorem Far.next{t a:α}{n:Nat}(h:Far E t (n+1) a):∃b,E a b/\Far E t n b:=by
 obtain⟨b,c,e⟩:=h.1.first
 obtain⟨m,i,d⟩:=e.far;rcases Nat.lt_or_ge m n with f|f
 .exact Pg (aV.step c d.1) (h.2 (m+1) A7)
 .have:m=n:=A7;subst this;exact⟨b,c,d⟩
end
variable {L Q : List Nat} {p : Nat} {A : Nat -> Nat}
section
variable {E : Nat -> Nat -> Prop} {t : Nat}
structure Bfs (E:Nat->Nat->Prop) (t:Nat) (A:Nat->Nat) (Q:List Nat):Prop where
 fin:∀p,A p≠0->Far E t (A p-1) p
 q:∀p∈Q,A p≠0
 nd:Q.Nodup
 mono:Q.Pairwise λp r=>A p<=A r
 two:∀h l,Q=h :: l->∀r∈Q,A r<=A h+1
 lev:∀p n,Far E t n p->(Q=[]\/∃h l,Q=h :: l/\n+1<=A h)->A p≠0
 don:∀p,A p≠0->p∉Q->∀r,E r p->A r≠0/\r≠t
 tar:A t=1
structure oF (E:Nat->Nat->Prop) (t:Nat) (p:Nat) (L:List Nat) (A:Nat->Nat) (Q:List Nat):Prop where
 fin:∀r,A r≠0->Far E t (A r-1) r
 q:∀r∈Q,A r≠0
 nd:Q.Nodup
 mono:Q.Pairwise λa b=>A a<=A b
 two:∀r∈Q,A p<=A r/\A r<=A p+1
 lev:∀r n,Far E t n r->n+1<=A p->A r≠0
 don:∀r,A r≠0->r∉Q->r≠p->∀s,E s r->A s≠0/\s≠t
 cur:∀s∈L,A s≠0/\s≠t
 pos:A p≠0
 out:p∉Q
 tar:A t=1
theorem Bfs.start(E:Nat->Nat->Prop)(t:Nat):Bfs E t (λp=>if p=t then 1 else 0) [t]:=by
 refine⟨λp h=>?_,λp h=>?_,A9,A9,λh l e r a=>?_,λp n c h=>?_,λp h d=>?_,A9⟩
 .by_cases e:p=t
  .subst e;simp only[if_true];exact Far.zero p
  .simp[e] at h
 .rw[NZ] at h;simp[h]
 .simp only[List.cons.injEq] at e;rw[NZ] at a;rw[a,<-e.1];simp
 .rcases h with h|⟨h,l,e,b⟩
  .cases h
  .simp only[List.cons.injEq] at e;rw[<-e.1] at b;simp only[if_true] at b;have:n=0:=A7;subst this;rw[c.Gq];simp
 .by_cases e:p=t
  .exact Pg (by rw[e];simp) d
  .simp[e] at h
theorem Bfs.take(h:Bfs E t A (p :: Q)):oF E t p [] A Q:=by
 have b:=List.nodup_cons.1 h.nd;have c:=Pn.1 h.mono;refine⟨h.fin,λr a=>h.q r (Oi _ a),b.2,c.2,λr a=>⟨c.1 r a,h.two p Q rfl r (Oi _ a)⟩,λr n d f=>h.lev r n d (.inr ⟨p,Q,rfl,f⟩),λr a i j=>h.don r a ?_,λs k=>(by cases k),h.q p A9,b.1,h.tar⟩;intro l;rcases OL.1 l with e | e
 .exact j e
 .exact i e
theorem oF.old{s:Nat}(h:oF E t p L A Q)(c:A s≠0)(d:s≠t):oF E t p (L++ [s]) A Q:=
 ⟨h.fin,h.q,h.nd,h.mono,h.two,h.lev,h.don,λr f=>by
  rcases N_.1 f with e|e
  .exact h.cur r e
  .rw[NZ] at e;rw[e];exact⟨c,d⟩,h.pos,h.out,h.tar⟩
theorem oF.new{s:Nat}(h:oF E t p L A Q)(B:E s p)(l:A s=0)(v:s≠t):oF E t p (L++ [s]) (λr=>if r=s then A p+1 else A r) (Q++ [s]):=by
 have w:p≠s:=λe=>h.pos (by rw[e];exact l)
 have j:s∉Q:=λe=>h.q s e l
 have C:Far E t (A p) s:=by
  have D:=h.fin p h.pos;have N:=h.pos;refine⟨?_,λm O F=>?_⟩
  .have:=aV.step B D.1;rw[show A p-1+1=A p by omega] at this;exact this
  .obtain⟨G,k,i⟩:=F.far;exact h.lev s G i A7 l
 have same:∀r,r≠s->(if r=s then A p+1 else A r)=A r:=λr e=>Pf e
 have q:(if p=s then A p+1 else A p)=A p:=same p w;refine⟨λr c=>?_,λr c=>?_, ?_, ?_,λr c=>?_,λr n H y=>?_,λr c z I x J=>?_,λr c=>?_,by simp only[q];exact h.pos, ?_, ?_⟩
 .by_cases e:r=s
  .subst e;simp only[if_true];rw[Nat.add_sub_cancel];exact C
  .simp only[same r e] at c⊢;exact h.fin r c
 .by_cases e:r=s
  .simp[e]
  .rw[same r e];rcases N_.1 c with g|g
   .exact h.q r g
   .exact Pg (NZ.1 g) e
 .rw[List.nodup_append];exact⟨h.nd,A9,λa d b f e=>by rw[NZ] at f;rw[e,f] at d;exact j d⟩
 .rw[Ou];refine⟨h.mono.imp_of_mem λ{a b} d f K=>?_,A9,λa d b f=>?_⟩
  .rw[same a (λe=>j (by rw[<-e];exact d)),same b (λe=>j (by rw[<-e];exact f))];exact K
  .rw[NZ] at f;subst f;rw[same a (λe=>j (by rw[<-e];exact d)),Pe rfl];exact (h.two a d).2
 .simp only[q];by_cases e:r=s
  .rw[Pe e];omega
  .rw[same r e];rcases N_.1 c with g|g
   .exact h.two r g
   .exact Pg (NZ.1 g) e
 .simp only[q] at y;by_cases e:r=s
  .rw[Pe e];omega
  .rw[same r e];exact h.lev r n H y
 .have M:r≠s:=λe=>z (by rw[e];simp)
  rw[same r M] at c;obtain⟨k,i⟩:=h.don r c (λg=>z (N_.2 (.inl g))) I x J;refine⟨?_,i⟩;by_cases e:x=s
  .rw[Pe e];omega
  .rw[same x e];exact k
 .rcases N_.1 c with g|g
  .obtain⟨k,i⟩:=h.cur r g;refine⟨?_,i⟩;by_cases e:r=s
   .rw[Pe e];omega
   .rw[same r e];exact k
  .rw[NZ] at g;rw[g,Pe rfl];exact⟨A7,v⟩
 .intro g;rcases N_.1 g with g|g
  .exact h.out g
  .exact w (NZ.1 g)
 .rw[same t (Ne.symm v)];exact h.tar
theorem oF.ends(h:oF E t p L A Q)(l:∀s,E s p->s∈L):Bfs E t A Q:=by
 have i:∀r,A r≠0->r∉Q->∀s,E s r->A s≠0/\s≠t:=λr j w s k=>by
  by_cases e:r=p
  .rw[e] at k;exact h.cur s (l s k)
  .exact h.don r j w e s k
 refine⟨h.fin,h.q,h.nd,h.mono,λa x e r j=>?_,λr n d y=>?_,i,h.tar⟩
 .have f:=(h.two a (by rw[e];simp)).1;have c:=(h.two r j).2;omega
 .rcases y with rfl|⟨a,x,rfl,F⟩
  .clear l
   induction n generalizing r with
   | zero=>rw[d.Gq,h.tar];omega
   | succ n ih=>
    obtain⟨b,f,c⟩:=d.next;exact (i b (ih b c) A9 r f).1
  .have G:=h.two a A9;by_cases z:n+1<=A p
   .exact h.lev r n d z
   .have H:n=A p:=A7;obtain⟨m,B⟩:∃m,n=m+1:=⟨n-1,by have:=h.pos;omega⟩;subst B;obtain⟨b,f,c⟩:=d.next;have v:=h.lev b m c A7;have C:=(h.fin b v).unique c;refine (i b v (λg=>?_) r f).1;have D:=Pn.1 h.mono;rcases OL.1 g with e | e
    .rw[e] at C;omega
    .have:=D.1 b e;omega
theorem oF.found(h:oF E t p L A Q)(f:E t p):aV E (A p) t t/\(∀m,1<=m->m<A p->¬aV E m t t)/\∀r n,n+1<=A p->(A r=n+1↔Far E t n r):=by
 have x:=h.pos;have a:∀r n,n+1<=A p->(A r=n+1↔Far E t n r):=λr n i=>by
  constructor
  .intro e;have:=h.fin r A7;rw[e,Nat.add_sub_cancel] at this;exact this
  .intro c;have d:=h.lev r n c i;have:=(h.fin r d).unique c;omega
 refine⟨?_,λm d y j=>?_,a⟩
 .have:=aV.step f (h.fin p h.pos).1;rw[show A p-1+1=A p by omega] at this;exact this
 .obtain⟨q,k⟩:∃q,m=q+1:=⟨m-1,A7⟩;subst k;obtain⟨b,l,s⟩:=j.first
  obtain⟨n,z,v⟩:=s.far;have w:=(a b n A7).2 v;refine (h.don b A7 (λg=>?_) (λe=>?_) t l).2 rfl
  .have:=(h.two b g).1;omega
  .rw[e] at w;omega
theorem Bfs.none(h:Bfs E t A []):∀m,1<=m->¬aV E m t t:=λm i a=>by
 obtain⟨q,c⟩:∃q,m=q+1:=⟨m-1,A7⟩;subst c;obtain⟨b,d,e⟩:=a.first
 obtain⟨n,_,f⟩:=e.far;exact (h.don b (h.lev b n f (.inl rfl)) A9 t d).2 rfl
end
theorem E5{p:Prop}(h:p:=by (repeat (first | (with_reducible exact K_.refl _) | (with_reducible assumption) | apply K_.drew))):p:=h
theorem E9{p:Prop}(h:p:=by (rw[Oo];omega)):p:=h
theorem F3{p:Prop}(h:p:=by (repeat (first | (with_reducible exact K_.refl _) | apply K_.alloc | apply K_.drewN | apply K_.drew))):p:=h
theorem F4{p:Prop}(h:p:=by (repeat (first | (with_reducible exact K_.refl _) | (with_reducible assumption) | apply K_.drew | apply K_.alloc))):p:=h
theorem F5{p:Prop}(h:p:=by (repeat (first | apply K_.alloc | exact K_.refl _))):p:=h
theorem F8{p:Prop}(h:p:=by (repeat (first | apply K_.drew | assumption))):p:=h
theorem F9{p:Prop}(h:p:=by (rw[World.putObj_size];exact NQ _)):p:=h
theorem G7{p:Prop}(h:p:=by (repeat (first | apply K_.drew | apply K_.alloc | exact K_.refl _))):p:=h
theorem H6{p:Prop}(h:p:=by (repeat (first | apply K_.drew | apply K_.alloc | exact K_.refl _ | assumption))):p:=h
theorem H7{p:Prop}(h:p:=by (repeat (first | apply K_.drew | exact K_.refl _ | assumption))):p:=h
theorem H8{p:Prop}(h:p:=by (rw[OD];simp;omega)):p:=h
theorem I1{p:Prop}(h:p:=by (repeat (first | (refine K_.setCell ?_ (by simp) _) | apply K_.alloc | exact K_.refl _))):p:=h
theorem I4{p:Prop}(h:p:=by (repeat (first | exact Xk.refl _ _ _ | exact Xk.au (by assumption) | apply Xk.drew | (refine Xk.setCell ?_ (by simp) (by simp) _) | apply Xk.alloc))):p:=h
theorem I8{p:Prop}(h:p:=by (repeat (first | (refine K_.setCell ?_ (by simp <;> omega) _) | (with_reducible exact K_.refl _) | (with_reducible assumption) | apply K_.drew | apply K_.alloc))):p:=h
theorem I9{p:Prop}(h:p:=by (repeat (first | assumption | apply K_.drew))):p:=h
