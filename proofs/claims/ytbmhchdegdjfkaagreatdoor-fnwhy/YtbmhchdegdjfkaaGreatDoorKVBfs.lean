import Derived.WalkKit
import Derived.Deep.Draws
import Derived.Deep.MidRow
import Derived.Deep.OwnRows
namespace Go.Proofs.YtbmhchdegdjfkaaGreatDoor
open Go.RowKit
abbrev KC:=ByteArray
abbrev KG:=Option Addr
abbrev KH:=World
abbrev KI:=Value
theorem IZ:type_of% @Nat.le_refl:=@Nat.le_refl
theorem I_:type_of% @Nat.lt_of_lt_of_le:=@Nat.lt_of_lt_of_le
theorem Ja:type_of% @Nat.zero_le:=@Nat.zero_le
theorem Jb:type_of% @Nat.le_trans:=@Nat.le_trans
theorem Jc:type_of% @World.rangeAt_setCells_same:=@World.rangeAt_setCells_same
theorem Jd:type_of% @List.getElem?_eq_getElem:=@List.getElem?_eq_getElem
theorem Je:type_of% @List.getElem?_eq_some_iff:=@List.getElem?_eq_some_iff
theorem Jf:type_of% @List.take_succ_eq_append_getElem:=@List.take_succ_eq_append_getElem
theorem Jg:type_of% @List.mem_singleton:=@List.mem_singleton
theorem Jh:type_of% @List.mem_append:=@List.mem_append
theorem Ji:type_of% @List.getElem_mem:=@List.getElem_mem
theorem Jj:type_of% @List.pairwise_iff_getElem:=@List.pairwise_iff_getElem
theorem Jk:type_of% @List.getElem_of_mem:=@List.getElem_of_mem
theorem Jl:type_of% @World.cell?_of_block:=@World.cell?_of_block
theorem Jm:type_of% @List.mem_of_getElem?:=@List.mem_of_getElem?
theorem Jn:type_of% @List.length_eq_zero_iff:=@List.length_eq_zero_iff
theorem Jo:type_of% @World.rangeAt_setCells_apart:=@World.rangeAt_setCells_apart
theorem Jp:type_of% @List.mem_cons_of_mem:=@List.mem_cons_of_mem
theorem Jq:type_of% @List.getElem?_set_ne:=@List.getElem?_set_ne
theorem Jr:type_of% @World.cell?_setCell_other:=@World.cell?_setCell_other
theorem Js:type_of% @Option.isSome_iff_exists:=@Option.isSome_iff_exists
theorem Jt:type_of% @List.length_take:=@List.length_take
theorem Ju:type_of% @List.mem_map:=@List.mem_map
theorem Jv:type_of% @Nat.le_of_eq:=@Nat.le_of_eq
theorem Jw:type_of% @Nat.lt_succ_self:=@Nat.lt_succ_self
theorem Jy:type_of% @List.pairwise_append:=@List.pairwise_append
theorem Jz:type_of% @World.ownsRow_made:=@World.ownsRow_made
theorem JA:type_of% @Nat.zero_add:=@Nat.zero_add
theorem JB:type_of% @List.take_length:=@List.take_length
theorem JC:type_of% @List.take_of_length_le:=@List.take_of_length_le
theorem JD:type_of% @Option.mem_toList:=@Option.mem_toList
theorem JE:type_of% @List.getElem_take:=@List.getElem_take
theorem JF:type_of% @Array.getElem?_eq_some_iff:=@Array.getElem?_eq_some_iff
theorem JG:type_of% @World.size_alloc:=@World.size_alloc
theorem JH:type_of% @List.length_append:=@List.length_append
theorem JI:type_of% @Option.some.injEq:=@Option.some.injEq
theorem JJ:type_of% @Value.slice.injEq:=@Value.slice.injEq
theorem JK:type_of% @List.length_cons:=@List.length_cons
theorem JL:type_of% @Addr.add_mid:=@Addr.add_mid
theorem JM:type_of% @Nat.add_zero:=@Nat.add_zero
theorem JN:type_of% @List.mem_cons:=@List.mem_cons
theorem JO:type_of% @List.not_mem_nil:=@List.not_mem_nil
theorem JP:type_of% @World.ownsRow_nil:=@World.ownsRow_nil
theorem JQ:type_of% @List.mem_map_of_mem:=@List.mem_map_of_mem
theorem JR:type_of% @Option.some.inj:=@Option.some.inj
theorem JS:type_of% @List.set_cons_succ:=@List.set_cons_succ
theorem JU:type_of% @List.getElem?_append_left:=@List.getElem?_append_left
theorem JV:type_of% @List.getElem?_append_right:=@List.getElem?_append_right
theorem JW:type_of% @List.getElem?_cons_succ:=@List.getElem?_cons_succ
theorem JX:type_of% @List.getElem?_cons_zero:=@List.getElem?_cons_zero
theorem JY:type_of% @List.take_append_drop:=@List.take_append_drop
theorem JZ:type_of% @World.cell?_setCell_same:=@World.cell?_setCell_same
theorem J_:type_of% @List.length_map:=@List.length_map
theorem Ka:type_of% @List.length_set:=@List.length_set
theorem Kb:type_of% @List.getElem?_set_self:=@List.getElem?_set_self
theorem Ke:type_of% @Nat.lt_trichotomy:=@Nat.lt_trichotomy
theorem Kg:type_of% @if_pos:=@if_pos
theorem Kh:type_of% @if_neg:=@if_neg
theorem Ki{a b:Prop}(h:a)(g:¬a):b:=_root_.absurd h g
theorem Kl:type_of% @Option.getD_some:=@Option.getD_some
theorem Km:type_of% @List.map_append:=@List.map_append
theorem Kn:type_of% @List.eq_nil_of_length_eq_zero:=@List.eq_nil_of_length_eq_zero
theorem Ko:type_of% @decide_eq_true_eq:=@decide_eq_true_eq
theorem Kt:type_of% @List.length_singleton:=@List.length_singleton
theorem Ku:type_of% @List.pairwise_cons:=@List.pairwise_cons
theorem Kv:type_of% @Addr.mk.injEq:=@Addr.mk.injEq
theorem Kw:type_of% @List.getElem?_toArray:=@List.getElem?_toArray
theorem Ky:type_of% @List.getElem_set:=@List.getElem_set
variable {p : Prop}
theorem Kz(h:p):Hid p:=h
theorem aW(h:Hid p):p:=h
theorem _root_.Go.RowKit.Hid.o(h:Hid p):p:=h
theorem aD{q:Prop}(a:p)(b:q):Hid p/\Hid q:=⟨a,b⟩
theorem eB{q r:Prop}(a:p)(b:q)(c:r):Hid p/\Hid q/\Hid r:=⟨a,b,c⟩
theorem jh{q r s:Prop}(a:p)(b:q)(c:r)(d:s):Hid p/\Hid q/\Hid r/\Hid s:=⟨a,b,c,d⟩
theorem iU{q r s t:Prop}(a:p)(b:q)(c:r)(d:s)(e:t):Hid p/\Hid q/\Hid r/\Hid s/\Hid t:=⟨a,b,c,d,e⟩
theorem ah{α:Sort _}(a:α):∃x,x=a:=⟨_,rfl⟩
structure bD where
 text:KC
 goto:Int
structure Xq where
 asks:List KC
 on:Int
 cases:List bD
 els:Int
 fall:Int
 fin:Bool
 bad:Bool
 give:KC
structure dD where
 cost:Int
 steps:List Xq
def bD.zero :bD:=⟨ByteArray.empty,0⟩
def Xq.zero :Xq:=⟨[],0,[],0,0,false,false,ByteArray.empty⟩
def In64(n:Int):Prop:= -9223372036854775808<=n/\n<=9223372036854775807
def Strs(w:KH)(a:KG)(l:List KC):Prop:=
 ∀i,i<l.length->∃b o,a=some ⟨b,o,none⟩/\b<w.heap.size/\w.cell? ⟨b,o+i,none⟩=some (.string (l.getD i ByteArray.empty))
def K_(w w':KH):Prop:=Below w.heap.size w w'
theorem K_.refl(w:KH):K_ w w:=Below.refl _ _
variable {a : KH}
theorem K_.trans{b c:KH}(h:K_ a b)(k:K_ b c):K_ a c:=
 Below.trans h (Below.mono k h.size)
theorem K_.drewN{b:KH}(h:K_ a b)(n:Nat):K_ a (b.drewN n):=⟨h.os,h.tape,h.output,h.size,h.block⟩
theorem K_.drew{b:KH}(h:K_ a b):K_ a b.drew:=Below.drew h
theorem K_.alloc{b:KH}(h:K_ a b)(o:Obj):K_ a (b.alloc o):=Below.alloc h h.size o
theorem ag(w:KH)(o:Obj):K_ w (w.alloc o):=K_.alloc (K_.refl w) o
theorem aG(w:KH):K_ w w.drew:=K_.drew (K_.refl w)
variable {n : Nat}
theorem aP(h:n<0):p:=(Nat.not_lt_zero n h).elim
theorem K_.setCell{b:KH}(h:K_ a b){p:Addr}(d:a.heap.size<=p.block)(v:KI):K_ a (b.setCell p v):=Below.setCell h d v
theorem K_.setCells{g:Nat}(c:a.heap.size<=g):∀(vs:List KI) (o:Nat) {b:KH},K_ a b->K_ a (b.setCells g o vs)
 | [],_,_,h=>h
 | v :: r,o,_,h=>by
  rw[World.setCells];exact K_.setCells c r (o+1) (K_.setCell h c v)
variable {b : Nat} {w w' : KH}
theorem K_.cell(h:K_ w w'){o:Nat}(c:b<w.heap.size):w'.cell? ⟨b,o,none⟩=w.cell? ⟨b,o,none⟩:=
 Below.cell h (p:=⟨b,o,none⟩) c
theorem K_.rules{W w1:KH}(c:K_ W w1):(∀b o,b<W.heap.size->w1.cell? ⟨b,o,none⟩=W.cell? ⟨b,o,none⟩)/\(∀b o,b<W.heap.size->w1.frozen? ⟨b,o,none⟩=W.frozen? ⟨b,o,none⟩):=
 ⟨fun b o h=>Below.cell c (p:=⟨b,o,none⟩) h,fun b o h=>Below.frozen c (p:=⟨b,o,none⟩) h⟩
theorem K_.size(h:K_ w w'):w.heap.size<=w'.heap.size:=Below.size h
theorem Strs.kept{a:KG}{l:List KC}(h:Strs w a l)(k:K_ w w'):Strs w' a l:=by
 intro i c;obtain⟨d,o,e,b,f⟩:=h i c;exact⟨d,o,e,I_ b k.size,by rw[k.cell b,f]⟩
theorem K_.range(h:K_ w w'){o:Nat}{cs:List KI}(a:b<w.heap.size)(c:w.rangeAt b o cs):w'.rangeAt b o cs:=
 fun j v d=>by rw[h.cell a];exact c j v d
theorem size_setCell(w:KH)(p:Addr)(v:KI):(w.setCell p v).heap.size=w.heap.size:=by simp[World.setCell]
def Row(w:KH)(b n:Nat):Prop:=∃t f,w.rowIs b t n f
theorem Row.lt(h:Row w b n):b<w.heap.size:=let ⟨_,_,h⟩:=h;h.lt
theorem Row.there(h:Row w b n){o m:Nat}(a:o+m<=n):w.there b o m:=by
 obtain⟨t,f,h⟩:=h;intro j c;exact⟨by rw[h.cell (by omega)];rfl,h.frozen _⟩
theorem Row.kept(h:Row w b n)(k:K_ w w'):Row w' b n:=by
 have c:=h.lt;obtain⟨t,f,h⟩:=h;exact⟨t,f,h.of_block (k.block b c)⟩
theorem Row.set(h:Row w b n)(p:Addr)(a:p.spot=none)(v:KI):Row (w.setCell p v) b n:=by
 obtain⟨t,f,h⟩:=h;by_cases e:b=p.block
 ·subst e;obtain⟨d,c,i⟩:=p;subst a;exact⟨t,_,h.set c v⟩
 ·exact⟨t,f,h.setOther e v⟩
theorem Row.made(w:KH)(c:Array KI)(t:TypeId):Row (w.alloc (.cells c t)) w.heap.size c.size:=
 ⟨t,fun i=>c.getD i undef,World.rowIs_alloc w c t _ (fun i b=>by simp[Array.getD,b])⟩
theorem Row.alloc(h:Row w b n)(o:Obj):Row (w.alloc o) b n:=by
 obtain⟨t,f,h⟩:=h;exact⟨t,f,h.alloc o⟩
theorem Zx{P:Program}{e:Func}{R:Ending->KH->Prop}{a:Act}{p:Tmp}{c:TypeId}(cs:List KI)(d:TypeDesc)(h:e.results= #[.cell p c])
 (i:a.tmps.getD p undef= .pointer (some ⟨b,0,none⟩)) (j:w.rangeAt b 0 cs) (k:P.underlying c=some d) (l:d.isRow=true) (m:(P.info? c).map (·.size)=some cs.length)
 (n:a.defers=[]) (q:R (.returned (.agg cs.toArray)) w):bodyPost P e R .ret a w:=by
 refine bodyPost_ret ?_ n q;have r:a.tmps[p]?.getD undef= .pointer (some ⟨b,0,none⟩):=by simpa using i
 simp only[results,h];simp[r,asAddr,run_loadVar_mid w b 0 c cs d j k l m]
def bD.cells(c:bD):List KI:=[.string c.text,.int .i64 c.goto]
def jT(w:KH)(a:KG)(l:List bD):Prop:=
 ∀i,i<l.length->∃b o,a=some ⟨b,o,none⟩/\b<w.heap.size/\w.rangeAt b (o+i*2) (l.getD i bD.zero).cells
theorem jT.kept{a:KG}{l:List bD}(h:jT w a l)(k:K_ w w'):jT w' a l:=by
 intro i c;obtain⟨d,o,e,b,f⟩:=h i c;exact⟨d,o,e,I_ b k.size,k.range b f⟩
def Xq.cells(s:Xq)(aa:KG)(ca:Nat)(ac:KG)(cc:Nat):List KI:=
 [.slice aa s.asks.length ca,.int .i64 s.on,.slice ac s.cases.length cc,.int .i64 s.els,.int .i64 s.fall,.bool s.fin,.bool s.bad,.string s.give]
theorem Xq.one(s:Xq)(a:KG)(b:Nat)(c:KG)(d:Nat):(s.cells a b c d).toArray.all (·.oneCell')=true:=
 all_oneCell_toArray (by simp[Xq.cells,Value.oneCell'])
def xN(w:KH)(cs:List KI)(s:Xq):Prop:=
 ∃aa ca ac cc,cs=s.cells aa ca ac cc/\Strs w aa s.asks/\jT w ac s.cases/\s.asks.length<=ca
theorem xN.kept{cs:List KI}{s:Xq}(h:xN w cs s)(k:K_ w w'):xN w' cs s:=by
 obtain⟨a,b,c,d,e,f,i,j⟩:=h;exact⟨a,b,c,d,e,f.kept k,i.kept k,j⟩
def Steps(w:KH)(a:KG)(l:List Xq):Prop:=
 ∀i,i<l.length->∃b o cs,a=some ⟨b,o,none⟩/\b<w.heap.size/\w.rangeAt b (o+i*8) cs/\xN w cs (l.getD i Xq.zero)
theorem Steps.kept{a:KG}{l:List Xq}(h:Steps w a l)(k:K_ w w'):Steps w' a l:=by
 intro i c;obtain⟨d,o,e,f,b,j,m⟩:=h i c;exact⟨d,o,e,f,I_ b k.size,k.range b j,m.kept k⟩
structure Xq.Fits (s:Xq):Prop where
 asks:s.asks.length<=maxLen
 dF:∀x∈s.asks,x.size<=maxLen
 on:In64 s.on
 cases:s.cases.length<=maxLen
 di:∀c∈s.cases,c.text.size<=maxLen/\In64 c.goto
 els:In64 s.els
 fall:In64 s.fall
 give:s.give.size<=maxLen
theorem xW{k:IntKind}{a b:Int}(h:a=b):Ending.returned (.int k a)= .returned (.int k b):=by rw[h]
def sumTo{α:Type}(f:α->Nat)(l:List α)(k:Nat):Nat:=((l.take k).map f).sum
theorem AY{α:Type}(f:α->Nat)(l:List α):sumTo f l 0=0:=by simp[sumTo]
theorem Bt{α:Type}(f:α->Nat)(l:List α)(d:α)(k:Nat)(h:k<l.length):sumTo f l (k+1)=sumTo f l k+f (l.getD k d):=by
 unfold sumTo;rw[Jf h,Km,List.sum_append];simp[List.getD,h]
theorem Dn{α:Type}(f:α->Nat)(l:List α):sumTo f l l.length= (l.map f).sum:=by simp[sumTo]
theorem sumTo_le{α:Type}(f:α->Nat)(l:List α)(k:Nat):sumTo f l k<=(l.map f).sum:=by
 have e:(l.map f).sum= ((l.take k).map f).sum+ ((l.drop k).map f).sum:=by rw[<-List.sum_append,<-Km,JY]
 unfold sumTo;omega
section
variable {α ι : Type} (ready : α -> ι -> Prop) (step : α -> ι -> α)
inductive bI :α->α->Nat->Prop
 | here (s:α):bI s s 0
 | step (s t:α) (i: ι) (k:Nat) (h:ready s i) (r:bI (step s i) t k):bI s t (k+1)
def nE :Prop:=∀s i j,i≠j->ready s i->ready s j->ready (step s i) j/\step (step s i) j=step (step s j) i
def AtEnd(s:α):Prop:=∀i,¬ready s i
variable {ready step}
theorem bI.trans{s t u:α}{k l:Nat}(h:bI ready step s t k)(g:bI ready step t u l):bI ready step s u (k+l):=by
 induction h with
 | here s=>simpa using g
 | step s t i k h _ ih=>rw[show k+1+l=k+l+1 by omega];exact .step s u i _ h (ih g)
theorem bI.one{s:α}{i: ι}(h:ready s i):bI ready step s (step s i) 1:= .step s _ i 0 h (.here _)
theorem bI.snoc{s t:α}{k:Nat}(h:bI ready step s t k){i: ι}(b:ready t i):bI ready step s (step t i) (k+1):=h.trans (.one b)
theorem bI.first(c:nE ready step):∀{k:Nat} {s t:α},bI ready step s t k->AtEnd ready t->∀{i: ι},ready s i->∃m,k=m+1/\bI ready step (step s i) t m:=by
 intro k
 induction k with
 | zero=>
  intro s t h b i a;cases h;exact Ki a (b i)
 | succ k ih=>
  intro s t h b i a;cases h with
  | step _ _ j _ hj hr=>
   by_cases e:j=i
   ·subst e;exact⟨k,rfl,hr⟩
   ·obtain⟨d,f⟩:=c s i j (Ne.symm e) a hj;obtain⟨l,_⟩:=c s j i e hj a;obtain⟨m,n,p⟩:=ih hr b l;refine⟨k,rfl, ?_⟩;rw[n];refine .step _ _ j _ d ?_;rw[f];exact p
theorem bI.unique(d:nE ready step):∀{k l:Nat} {s t u:α},bI ready step s t k->AtEnd ready t->bI ready step s u l->AtEnd ready u->t=u:=by
 intro k
 induction k with
 | zero=>
  intro l s t u h b g c;cases h;cases g with
  | here=>rfl
  | step _ _ j _ hj _=>exact Ki hj (b j)
 | succ k ih=>
  intro l s t u h b g c;cases h with
  | step _ _ j _ hj hr=>
   obtain⟨m,_,e⟩:=g.first d c hj
   exact ih hr b e c
theorem bI.keeps{P:α->Prop}(c:∀s i,P s->ready s i->P (step s i)){s t:α}{k:Nat}(h:bI ready step s t k)(b:P s):P t:=by
 induction h with
 | here s=>exact b
 | step s t i k h _ ih=>exact ih (c s i b h)
end
structure Xz where
 fail:Bool
 text:KC
def Xz.zero :Xz:=⟨false,ByteArray.empty⟩
def Xz.cells(c:Xz):List KI:=[.bool c.fail,.string c.text]
def ed(w:KH)(a:KG)(l:List Xz):Prop:=
 ∀i,i<l.length->∃b o,a=some ⟨b,o,none⟩/\b<w.heap.size/\w.rangeAt b (o+i*2) (l.getD i Xz.zero).cells
variable {a : KG} {w w' : KH}
theorem ed.kept{l:List Xz}(h:ed w a l)(k:K_ w w'):ed w' a l:=by
 intro i c;obtain⟨d,o,e,b,f⟩:=h i c;exact⟨d,o,e,I_ b k.size,k.range b f⟩
def Says(e:Ending)(p:Prop):Prop:=∃r,e= .returned (.bool r)/\(r=true↔p)
theorem Says.yes{p:Prop}(h:p):Says (.returned (.bool true)) p:=⟨true,rfl,by simp[h]⟩
theorem Says.no{p:Prop}(h:¬p):Says (.returned (.bool false)) p:=⟨false,rfl,by simp[h]⟩
theorem Says.cases{e:Ending}{p:Prop}(h:Says e p):(e= .returned (.bool true)/\p)\/(e= .returned (.bool false)/\¬p):=by
 obtain⟨r,rfl,a⟩:=h;cases r
 ·right;exact⟨rfl,fun d=>by simpa using a.2 d⟩
 ·left;exact⟨rfl,a.1 rfl⟩
theorem Says.dec(p:Prop)[Decidable p]:Says (.returned (.bool (decide p))) p:=⟨decide p,rfl,by simp⟩
theorem Says.congr{e:Ending}{p q:Prop}(h:Says e p)(b:p↔q):Says e q:=by
 obtain⟨r,rfl,d⟩:=h;exact⟨r,rfl,d.trans b⟩
theorem nP{s t:KC}:(t.toList == s.toList)=true↔t=s:=by
 rw[ByteArray.toList_eq,ByteArray.toList_eq];constructor
 ·intro h;cases s;cases t;simp at h;simp[h]
 ·rintro rfl;simp
theorem qf{s t:KC}(h:(t.toList == s.toList)=false):t≠s:=fun e=>by rw[nP.2 e] at h;cases h
theorem qC(s:KC):s.toList=[]↔s.size=0:=by
 rw[ByteArray.toList_eq,<-Jn,Array.length_toList];exact Iff.rfl
def ig(c:UInt8):Prop:=33<=(c.toNat:Int)/\(c.toNat:Int)<=126/\(c.toNat:Int)≠44
def iI(s:KC):Prop:=1<=s.size/\s.size<=20/\(s.toList == [45])=false/\∀i (h:i<s.size),ig s[i]
def pU(l:List KC):Prop:=∀i,i<l.length->iI (l.getD i ByteArray.empty)/\∀j,j<i->l.getD j ByteArray.empty≠l.getD i ByteArray.empty
def CaseOk(n:Int)(c:bD):Prop:=c.text.size<=200/\0<=c.goto/\c.goto<n
def z_(s:Xq):Prop:=s.asks.length=0/\s.on=0/\s.cases.length=0/\s.els=0/\s.fall=0/\s.give.size<=30
def sK(s:Xq)(n:Int):Prop:=
 s.bad=false/\s.give.size=0/\s.asks.length<=5/\pU s.asks/\s.cases.length<=5/\(0<=s.els/\s.els<n)/\(-1<=s.fall/\s.fall<n)/\(s.on=0\/(0<=s.on/\s.on<s.asks.length))
def dK(s:Xq)(n:Int)(i:Nat):Prop:=CaseOk n (s.cases.getD i bD.zero)
def sM(s:Xq)(n:Int):Prop:=∀i,i<s.cases.length->dK s n i
def CP(s:Xq)(n:Int):Prop:=sK s n/\sM s n
def jS(s:Xq)(n:Int):Prop:=(s.fin=true->z_ s)/\(s.fin=false->CP s n)
def fZ(a:dD):Prop:=(1<=a.cost/\a.cost<=20)/\(1<=a.steps.length/\a.steps.length<=20)/\∀i,i<a.steps.length->jS (a.steps.getD i Xq.zero) a.steps.length
structure Xj (lo hi:Nat) (w w':KH):Prop where
 os:w'.os=w.os
 tape:w'.tape=w.tape
 output:w'.output=w.output
 size:w.heap.size<=w'.heap.size
 block:∀k,k<w.heap.size->(k<lo\/hi<=k)->w'.heap[k]? =w.heap[k]?
variable {hi lo : Nat}
theorem Xj.aC(h:K_ w w'):Xj lo hi w w':=⟨h.os,h.tape,h.output,h.size,fun k c _=>h.block k c⟩
theorem Xj.refl(a b:Nat)(w:KH):Xj a b w w:= .aC (K_.refl w)
theorem Xj.trans{a b c:KH}(h:Xj lo hi a b)(k:Xj lo hi b c):Xj lo hi a c:=
 ⟨k.os.trans h.os,k.tape.trans h.tape,k.output.trans h.output,Jb h.size k.size,fun i d e=>(k.block i (I_ d h.size) e).trans (h.block i d e)⟩
theorem Xj.drew{a b:KH}(h:Xj lo hi a b):Xj lo hi a b.drew:=⟨h.os,h.tape,h.output,h.size,h.block⟩
theorem Xj.drewN{a b:KH}(h:Xj lo hi a b)(n:Nat):Xj lo hi a (b.drewN n):=⟨h.os,h.tape,h.output,h.size,h.block⟩
theorem Xj.alloc{a b:KH}(h:Xj lo hi a b)(o:Obj):Xj lo hi a (b.alloc o):=h.trans (.aC ((K_.refl b).alloc o))
theorem Xj.setCell{a b:KH}(h:Xj lo hi a b){p:Addr}(e:lo<=p.block)(h2:p.block<hi)(v:KI):Xj lo hi a (b.setCell p v):=
 ⟨h.os,h.tape,h.output,by rw[size_setCell];exact h.size,fun k c d=>by rw[Below.heap_setCell _ _ _ _ (by omega)];exact h.block k c d⟩
theorem Xj.kept{a b:KH}(h:Xj lo hi a b)(c:K_ w a)(e:w.heap.size<=lo):K_ w b:=
 ⟨h.os.trans c.os,h.tape.trans c.tape,h.output.trans c.output,Jb c.size h.size,fun k d=>(h.block k (I_ d c.size) (by omega)).trans (c.block k d)⟩
def Same(lo hi:Nat)(w w':KH):Prop:=∀b,lo<=b->b<hi->b<w.heap.size->w'.heap[b]? =w.heap[b]?
theorem Xj.same(h:Xj lo hi w w'){l2 h2:Nat}(d:h2<=lo\/hi<=l2):Same l2 h2 w w':=fun b _ _ c=>h.block b c (by omega)
variable {b : Nat}
theorem Same.cell(h:Same lo hi w w'){o:Nat}(c:lo<=b)(h2:b<hi)(d:b<w.heap.size):w'.cell? ⟨b,o,none⟩=w.cell? ⟨b,o,none⟩:=Jl (w:=w) (h b c h2 d)
def jG(w:KH)(lo hi:Nat)(a:KG)(l:List KC):Prop:=
 l=[]\/∃b,a=some ⟨b,0,none⟩/\lo<=b/\b<hi/\Row w b l.length/\∀i,i<l.length->w.cell? ⟨b,i,none⟩=some (.string (l.getD i ByteArray.empty))
variable {l : List KC}
theorem jG.mono{c d:Nat}(h:jG w lo hi a l)(j:c<=lo)(h2:hi<=d):jG w c d a l:=by
 rcases h with h|⟨b,e,k,m,f,i⟩
 ·exact .inl h
 ·exact .inr ⟨b,e,by omega,by omega,f,i⟩
theorem jG.strs(h:jG w lo b a l):Strs w a l:=by
 rcases h with rfl|⟨c,d,j,k,e,f⟩
 ·intro i b;simp at b
 ·intro i b;exact⟨c,0,d,e.lt,by rw[JA];exact f i b⟩
variable {n : Nat}
theorem Row.at{i:Nat}(h:Row w b n)(c:i<n):(∃v,w.cell? ⟨b,i,none⟩=some v)/\w.frozen? ⟨b,i,none⟩=false:=by
 obtain⟨t,f,h⟩:=h;exact⟨⟨_,h.cell c⟩,h.frozen i⟩
theorem Row.AB{m:Nat}(h:Row w b m)(c:7<=m:=by omega):((∃v,w.cell? ⟨b,0,none⟩=some v)/\w.frozen? ⟨b,0,none⟩=false)/\((∃v,w.cell? ⟨b,1,none⟩=some v)/\w.frozen? ⟨b,1,none⟩=false)/\((∃v,w.cell? ⟨b,2,none⟩=some v)/\w.frozen? ⟨b,2,none⟩=false)/\((∃v,w.cell? ⟨b,3,none⟩=some v)/\w.frozen? ⟨b,3,none⟩=false)/\((∃v,w.cell? ⟨b,4,none⟩=some v)/\w.frozen? ⟨b,4,none⟩=false)/\((∃v,w.cell? ⟨b,5,none⟩=some v)/\w.frozen? ⟨b,5,none⟩=false)/\(∃v,w.cell? ⟨b,6,none⟩=some v)/\w.frozen? ⟨b,6,none⟩=false:=⟨h.at (by omega),h.at (by omega),h.at (by omega),h.at (by omega),h.at (by omega),h.at (by omega),h.at (by omega)⟩
theorem aS{o:Nat}(h:Row w b n)(c:o<n)(v:KI):(w.setCell ⟨b,o,none⟩ v).cell? ⟨b,o,none⟩=some v:=by
 obtain⟨⟨old,d⟩,_⟩:=h.at c;exact JZ _ _ _ d
theorem Xk{o p:Nat}(a:o≠p)(v:KI):(w.setCell ⟨b,o,none⟩ v).cell? ⟨b,p,none⟩=w.cell? ⟨b,p,none⟩:=
 Jr _ _ _ _ (by simp <;> omega)
variable {xs : List KI} {base : Nat} {e : TypeId} {v : KI}
theorem aj{size:Nat}(h:w.ownsRow base e size v n xs)(k:K_ w w'):w'.ownsRow base e size v n xs:=
 h.kept (row:=none) ⟨k.os,k.tape,k.output,k.size,fun i c _=>k.block i c⟩ (by cases v.ownBlock <;> simp)
theorem aR{size:Nat}(h:w.ownsRow base e size v n xs){p:Addr}(i:p.block<base)(u:KI):(w.setCell p u).ownsRow base e size v n xs:=by
 refine⟨h.1, ?_⟩;rcases h.2 with a|⟨g,b,c,rfl,d,f,rest⟩
 ·exact .inl a
 ·exact .inr ⟨g,b,c,rfl,d,by rw[Below.heap_setCell _ _ _ _ (by omega)];exact f,rest⟩
theorem aF{a:KH}{size:Nat}(k:K_ a w)(b:a.heap.size<=base)(h:w.ownsRow base e size v n xs)(g:w.grownBy w' v.ownBlock):K_ a w':=
 Below.grown k g k.size (fun d f=>Jb b (h.lt d f).1)
theorem bJ{base' size:Nat}(h:w.ownsRow base e size v n xs)(a:base'<=base):w.ownsRow base' e size v n xs:=by
 refine⟨h.1, ?_⟩;rcases h.2 with b|⟨g,c,d,rfl,f,rest⟩
 ·exact .inl b
 ·exact .inr ⟨g,c,d,rfl,Jb a f,rest⟩
def ak(t:TypeId)(w w':KH):Prop:=∀(b:Nat) (cur:Array KI) (u:TypeId) (fr:Nat×Nat),u≠t->w.heap[b]? =some (Obj.cells cur u fr)->w'.heap[b]? =some (Obj.cells cur u fr)
theorem aN{o:Obj}(h:w.heap[b]? =some o):b<w.heap.size:=(JF.1 h).1
theorem ak.refl(t:TypeId)(w:KH):ak t w w:=fun _ _ _ _ _ h=>h
variable {t : TypeId}
theorem ak.trans{a b c:KH}(i:ak t a b)(k:ak t b c):ak t a c:=fun x e u f h j=>k x e u f h (i x e u f h j)
theorem ak.aC(h:K_ w w'):ak t w w':=fun b d u e _ a=>by rw[h.block b (aN a)];exact a
theorem ak.aK{size:Nat}(h:w.ownsRow base t size v n xs)(g:w.grownBy w' v.ownBlock):ak t w w':=by
 intro b f u i d a;rw[g.block b (aN a) ?_]
 ·exact a
 ·intro e;rcases h.2 with⟨rfl,_⟩|⟨j,k,l,rfl,_,c,_⟩
  ·simp[Value.ownBlock] at e
  ·simp only[Value.ownBlock,JI] at e;subst e;rw[a] at c;simp only[JI,Obj.cells.injEq] at c;exact d c.2.1
theorem ak.setCell{p:Addr}{b:Array KI}{c:Nat×Nat}(h:w.heap[p.block]? =some (Obj.cells b t c))(v:KI):ak t w (w.setCell p v):=by
 intro f i u j d a;rw[Below.heap_setCell _ _ _ _ ?_]
 ·exact a
 ·intro e;rw[e,h] at a;simp only[JI,Obj.cells.injEq] at a;exact d a.2.1.symm
def au(w:KH)(b:Nat)(t:TypeId)(n:Nat):Prop:=∃cur:Array KI,w.heap[b]? =some (Obj.cells cur t (0,0))/\cur.size=n
theorem au.row(h:au w b t n):Row w b n:=by
 obtain⟨a,d,c⟩:=h;exact⟨t,fun i=>a.getD i undef,a,d,c,fun i e=>by simp[Array.getD,c,e]⟩
theorem au.made(w:KH)(c:Array KI)(t:TypeId):au (w.alloc (.cells c t)) w.heap.size t c.size:=⟨c,heap_alloc_new w _,rfl⟩
theorem au.block(h:au w b t n)(k:w'.heap[b]? =w.heap[b]?):au w' b t n:=by
 obtain⟨c,d,e⟩:=h;exact⟨c,k.trans d,e⟩
theorem au.lt(h:au w b t n):b<w.heap.size:=let ⟨_,h1,_⟩:=h;aN h1
theorem au.kept(h:au w b t n)(k:K_ w w'):au w' b t n:=h.block (k.block b h.lt)
theorem au.set{o:Nat}(h:au w b t n)(v:KI):au (w.setCell ⟨b,o,none⟩ v) b t n:=by
 obtain⟨d,c,e⟩:=h;obtain⟨f,k,i,a,j,_⟩:=(au.row ⟨d,c,e⟩).set ⟨b,o,none⟩ rfl v;have:f=t:=by
  simp only[World.setCell] at a;simp[Array.getElem?_modify,c] at a;exact a.2.symm
 subst this;exact⟨i,a,j⟩
theorem au.same{o:Nat}(h:au w b t n)(v:KI):ak t w (w.setCell ⟨b,o,none⟩ v):=by
 obtain⟨d,c,_⟩:=h;exact ak.setCell (p:=⟨b,o,none⟩) c v
def eD(w:KH)(t:TypeId)(a:KG)(l:List KC):Prop:=
 l=[]\/∃b cur fr,a=some ⟨b,0,none⟩/\w.heap[b]? =some (Obj.cells cur t fr)/\∀i,i<l.length->w.cell? ⟨b,i,none⟩=some (.string (l.getD i ByteArray.empty))
def nK(w:KH)(t:TypeId)(a:KG)(l:List bD):Prop:=
 l=[]\/∃b cur fr,a=some ⟨b,0,none⟩/\w.heap[b]? =some (Obj.cells cur t fr)/\∀i,i<l.length->w.rangeAt b (i*2) (l.getD i bD.zero).cells
variable {u : TypeId}
theorem eD.same(h:eD w t a l)(k:ak u w w')(i:t≠u):eD w' t a l:=by
 rcases h with h|⟨b,c,d,j,e,m⟩
 ·exact .inl h
 ·have f:=k b c t d i e;exact .inr ⟨b,c,d,j,f,fun n p=>by rw[Jl (w:=w) (f.trans e.symm)];exact m n p⟩
theorem eD.strs(h:eD w t a l):Strs w a l:=by
 rcases h with rfl|⟨c,j,k,d,e,f⟩
 ·intro i b;simp at b
 ·exact fun i b=>⟨c,0,d,aN e,by rw[JA];exact f i b⟩
theorem nK.same{l:List bD}(h:nK w t a l)(k:ak u w w')(i:t≠u):nK w' t a l:=by
 rcases h with h|⟨b,c,d,j,e,m⟩
 ·exact .inl h
 ·have f:=k b c t d i e;exact .inr ⟨b,c,d,j,f,fun n p q v r=>by rw[Jl (w:=w) (f.trans e.symm)];exact m n p q v r⟩
theorem nK.cases{l:List bD}(h:nK w t a l):jT w a l:=by
 rcases h with rfl|⟨c,j,k,d,e,f⟩
 ·intro i b;simp at b
 ·exact fun i b=>⟨c,0,d,aN e,by rw[JA];exact f i b⟩
def ky(w:KH)(ts tc:TypeId)(cs:List KI)(s:Xq):Prop:=∃aa ca ac cc,cs=s.cells aa ca ac cc/\eD w ts aa s.asks/\nK w tc ac s.cases/\s.asks.length<=ca
theorem ky.same{a b:TypeId}{cs:List KI}{s:Xq}(h:ky w a b cs s)(k:ak u w w')(c:a≠u)(h2:b≠u):ky w' a b cs s:=by
 obtain⟨d,e,f,i,j,l,m,n⟩:=h;exact⟨d,e,f,i,j,l.same k c,m.same k h2,n⟩
def eP(w:KH)(ts tc:TypeId)(xs:List KI)(l:List Xq):Prop:=
 xs.length=l.length*8/\∀i,i<l.length->ky w ts tc ((xs.drop (i*8)).take 8) (l.getD i Xq.zero)
theorem eP.nil(w:KH)(a b:TypeId):eP w a b [] []:=⟨rfl,fun i c=>by simp at c⟩
theorem eP.same{a b:TypeId}{l:List Xq}(h:eP w a b xs l)(k:ak u w w')(d:a≠u)(h2:b≠u):eP w' a b xs l:=
 ⟨h.1,fun i f=>(h.2 i f).same k d h2⟩
theorem eP.snoc{a b:TypeId}{cs:List KI}{l:List Xq}{k:Nat}(q:k<l.length)(h:eP w a b xs (l.take k))(e:ky w a b cs (l.getD k Xq.zero)):eP w a b (xs++cs) (l.take (k+1)):=by
 have n:cs.length=8:=by obtain⟨_,_,_,_,rfl,_⟩:=e;rfl
 have f:(l.take k).length=k:=by rw[Jt];omega
 have j:xs.length=k*8:=by rw[h.1,f]
 refine⟨by rw[JH,Jt,j,n,Nat.min_eq_left (by omega)];omega,fun i p=>?_⟩;rw[Jt] at p;by_cases m:i<k
 ·have c:(l.take (k+1)).getD i Xq.zero= (l.take k).getD i Xq.zero:=by simp[List.getD,m,(by omega:i<k+1)]
  have d:((xs++cs).drop (i*8)).take 8= (xs.drop (i*8)).take 8:=by
   rw[List.drop_append_of_le_length (by omega),List.take_append_of_le_length (by rw[List.length_drop];omega)]
  rw[c,d];exact h.2 i (by rw[f];exact m)
 ·obtain rfl:i=k:=by omega
  have c:(l.take (i+1)).getD i Xq.zero=l.getD i Xq.zero:=by simp[List.getD]
  have d:((xs++cs).drop (i*8)).take 8=cs:=by
   rw[<-j,List.drop_left,JC (by omega)]
  rw[c,d];exact e
theorem aH{size:Nat}(h:w.ownsRow base e size v n xs)(k:ak u w w')(b:e≠u):w'.ownsRow base e size v n xs:=by
 refine⟨h.1, ?_⟩;rcases h.2 with c|⟨g,d,a,rfl,f,i,rest⟩
 ·exact .inl c
 ·exact .inr ⟨g,d,a,rfl,f,k g a e _ b i,rest⟩
theorem ax{size:Nat}(h:w.ownsRow base e size v n xs):∃a b,v= .slice a n b:=by
 rcases h.2 with⟨rfl,rfl⟩|⟨g,b,d,rfl,_⟩
 ·exact⟨none,0,rfl⟩
 ·exact⟨_,b,rfl⟩
theorem X_(w:KH)(c:Array KI)(t:TypeId):(w.alloc (.cells c t)).rangeAt w.heap.size 0 c.toList:=fun j v a=>by
 rw[JA,World.cell?_alloc_mark];simpa using a
theorem Xj.below{wr c:KH}(h:Xj lo hi w wr)(b:Below w.heap.size wr c):Xj lo hi w c:=
 ⟨b.os.trans h.os,b.tape.trans h.tape,b.output.trans h.output,Jb h.size b.size,fun k e f=>(b.block k e).trans (h.block k e f)⟩
section
variable {α : Type} (E : α -> α -> Prop)
inductive gp :Nat->α->α->Prop
 | here (a:α):gp 0 a a
 | step {n:Nat} {a b c:α} (h:E a b) (r:gp n b c):gp (n+1) a c
end
section
variable {α : Type} {E : α -> α -> Prop}
theorem gp.trans{n m:Nat}{a b c:α}(h:gp E n a b)(g:gp E m b c):gp E (n+m) a c:=by
 induction h with
 | here a=>rw[JA];exact g
 | step h _ ih=>rw[show∀k:Nat,k+1+m=k+m+1 from fun k=>by omega];exact .step h (ih g)
theorem gp.one{a b:α}(h:E a b):gp E 1 a b:= .step h (.here b)
theorem gp.zero{a b:α}(h:gp E 0 a b):a=b:=by
 generalize d:(0:Nat)=n at h;cases h with
 | here=>rfl
 | step=>cases d
theorem gp.first{n:Nat}{a c:α}(h:gp E (n+1) a c):∃b,E a b/\gp E n b c:=by
 generalize e:n+1=m at h;cases h with
 | here=>cases e
 | step h r=>cases e;exact⟨_,h,r⟩
end
section
variable {E : Nat -> Nat -> Prop} {t : Nat}
end
