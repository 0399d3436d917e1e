import Derived.Deep.OwnRows
import Derived.Test.YtbmhchdegdjfkaaGreatDoorProg
import Derived.WalkSpells
import Derived.WalkLawsBesides
import Derived.Deep.RegionHeld
import Derived.BigQuiet
set_option maxRecDepth 100000
set_option maxHeartbeats 25600000
namespace Go.Proofs.YtbmhchdegdjfkaaGreatDoor
open Go.RowKit Go.Proofs.Tryz
abbrev LK:=ByteArray
abbrev LM:=Option Addr
abbrev LP:=World
abbrev LQ:=Value
theorem JP:type_of% @Nat.le_refl:=@Nat.le_refl
theorem JQ:type_of% @Nat.lt_of_lt_of_le:=@Nat.lt_of_lt_of_le
theorem JR:type_of% @Nat.zero_le:=@Nat.zero_le
theorem JS:type_of% @Nat.le_trans:=@Nat.le_trans
theorem JU:type_of% @World.rangeAt_setCells_same:=@World.rangeAt_setCells_same
theorem JV:type_of% @List.getElem?_eq_getElem:=@List.getElem?_eq_getElem
theorem JW:type_of% @List.getElem?_eq_some_iff:=@List.getElem?_eq_some_iff
theorem JX:type_of% @List.take_succ_eq_append_getElem:=@List.take_succ_eq_append_getElem
theorem JY:type_of% @List.mem_singleton:=@List.mem_singleton
theorem JZ:type_of% @List.mem_append:=@List.mem_append
theorem J_:type_of% @List.getElem_mem:=@List.getElem_mem
theorem Ka:type_of% @List.pairwise_iff_getElem:=@List.pairwise_iff_getElem
theorem Kb:type_of% @List.getElem_of_mem:=@List.getElem_of_mem
theorem Ke:type_of% @World.cell?_of_block:=@World.cell?_of_block
theorem Kg:type_of% @List.mem_of_getElem?:=@List.mem_of_getElem?
theorem Kh:type_of% @List.length_eq_zero_iff:=@List.length_eq_zero_iff
theorem Ki:type_of% @World.rangeAt_setCells_apart:=@World.rangeAt_setCells_apart
theorem Kl:type_of% @List.mem_cons_of_mem:=@List.mem_cons_of_mem
theorem Km:type_of% @List.getElem?_set_ne:=@List.getElem?_set_ne
theorem Kn:type_of% @World.cell?_setCell_other:=@World.cell?_setCell_other
theorem Ko:type_of% @Option.isSome_iff_exists:=@Option.isSome_iff_exists
theorem Kt:type_of% @List.length_take:=@List.length_take
theorem Ku:type_of% @List.mem_map:=@List.mem_map
theorem Kv:type_of% @Nat.le_of_eq:=@Nat.le_of_eq
theorem Ky:type_of% @Nat.lt_succ_self:=@Nat.lt_succ_self
theorem KC:type_of% @List.pairwise_append:=@List.pairwise_append
theorem KG:type_of% @World.ownsRow_made:=@World.ownsRow_made
theorem KH:type_of% @Nat.zero_add:=@Nat.zero_add
theorem KI:type_of% @List.take_length:=@List.take_length
theorem KJ:type_of% @List.take_of_length_le:=@List.take_of_length_le
theorem KL:type_of% @Option.mem_toList:=@Option.mem_toList
theorem KM:type_of% @List.getElem_take:=@List.getElem_take
theorem KQ:type_of% @Array.getElem?_eq_some_iff:=@Array.getElem?_eq_some_iff
theorem KR:type_of% @World.size_alloc:=@World.size_alloc
theorem KS:type_of% @List.length_append:=@List.length_append
theorem KT:type_of% @Option.some.injEq:=@Option.some.injEq
theorem KX:type_of% @Value.slice.injEq:=@Value.slice.injEq
theorem KY:type_of% @List.length_cons:=@List.length_cons
theorem KZ:type_of% @Addr.add_mid:=@Addr.add_mid
theorem La:type_of% @Nat.add_zero:=@Nat.add_zero
theorem Lb:type_of% @List.mem_cons:=@List.mem_cons
theorem Lc:type_of% @List.not_mem_nil:=@List.not_mem_nil
theorem Ld:type_of% @World.ownsRow_nil:=@World.ownsRow_nil
theorem Le:type_of% @List.mem_map_of_mem:=@List.mem_map_of_mem
theorem Lf:type_of% @Option.some.inj:=@Option.some.inj
theorem Lg:type_of% @List.set_cons_succ:=@List.set_cons_succ
theorem Lh:type_of% @List.getElem?_append_left:=@List.getElem?_append_left
theorem Li:type_of% @List.getElem?_append_right:=@List.getElem?_append_right
theorem Lj:type_of% @List.take_append_drop:=@List.take_append_drop
theorem Ll:type_of% @World.cell?_setCell_same:=@World.cell?_setCell_same
theorem Lm:type_of% @List.length_map:=@List.length_map
theorem Lp:type_of% @List.length_set:=@List.length_set
theorem Lr:type_of% @List.getElem?_set_self:=@List.getElem?_set_self
theorem Ls:type_of% @Nat.lt_trichotomy:=@Nat.lt_trichotomy
theorem Lt:type_of% @if_pos:=@if_pos
theorem Lu:type_of% @if_neg:=@if_neg
theorem Lv{a b:Prop}(h:a)(g:¬a):b:=_root_.absurd h g
theorem Lx:type_of% @Option.getD_some:=@Option.getD_some
theorem LA:type_of% @List.map_append:=@List.map_append
theorem LB:type_of% @List.eq_nil_of_length_eq_zero:=@List.eq_nil_of_length_eq_zero
theorem LC:type_of% @decide_eq_true_eq:=@decide_eq_true_eq
theorem LD:type_of% @List.length_singleton:=@List.length_singleton
theorem LF:type_of% @List.pairwise_cons:=@List.pairwise_cons
theorem LG:type_of% @Addr.mk.injEq:=@Addr.mk.injEq
theorem LH:type_of% @List.getElem?_toArray:=@List.getElem?_toArray
theorem LJ:type_of% @List.getElem_set:=@List.getElem_set
variable {p : Prop}
theorem Kz(h:p):Hid p:=h
theorem a_(h:Hid p):p:=h
theorem _root_.Go.RowKit.Hid.o(h:Hid p):p:=h
theorem aH{q:Prop}(a:p)(b:q):Hid p/\Hid q:=⟨a,b⟩
theorem dK{q r:Prop}(a:p)(b:q)(c:r):Hid p/\Hid q/\Hid r:=⟨a,b,c⟩
theorem lg{q r s:Prop}(a:p)(b:q)(c:r)(d:s):Hid p/\Hid q/\Hid r/\Hid s:=⟨a,b,c,d⟩
theorem jb{q r s t:Prop}(a:p)(b:q)(c:r)(d:s)(e:t):Hid p/\Hid q/\Hid r/\Hid s/\Hid t:=⟨a,b,c,d,e⟩
theorem aj{α:Sort _}(a:α):∃x,x=a:=⟨_,rfl⟩
structure bK where
 text:LK
 goto:Int
structure Xj where
 asks:List LK
 on:Int
 cases:List bK
 els:Int
 fall:Int
 fin:Bool
 bad:Bool
 give:LK
structure fP where
 cost:Int
 steps:List Xj
def bK.zero :bK:=⟨ByteArray.empty,0⟩
def Xj.zero :Xj:=⟨[],0,[],0,0,false,false,ByteArray.empty⟩
def In64(n:Int):Prop:= -9223372036854775808<=n/\n<=9223372036854775807
def Strs(w:LP)(a:LM)(l:List LK):Prop:=
 ∀i,i<l.length->∃b o,a=some ⟨b,o,none⟩/\b<w.heap.size/\w.cell? ⟨b,o+i,none⟩=some (.string (l.getD i ByteArray.empty))
def K_(w w':LP):Prop:=Below w.heap.size w w'
theorem K_.refl(w:LP):K_ w w:=Below.refl _ _
variable {a : LP}
theorem K_.trans{b c:LP}(h:K_ a b)(k:K_ b c):K_ a c:=
 Below.trans h (Below.mono k h.size)
theorem K_.drewN{b:LP}(h:K_ a b)(n:Nat):K_ a (b.drewN n):=⟨h.os,h.tape,h.output,h.size,h.block⟩
theorem K_.drew{b:LP}(h:K_ a b):K_ a b.drew:=Below.drew h
theorem K_.alloc{b:LP}(h:K_ a b)(o:Obj):K_ a (b.alloc o):=Below.alloc h h.size o
theorem ag(w:LP)(o:Obj):K_ w (w.alloc o):=K_.alloc (K_.refl w) o
theorem aL(w:LP):K_ w w.drew:=K_.drew (K_.refl w)
variable {n : Nat}
theorem aT(h:n<0):p:=(Nat.not_lt_zero n h).elim
theorem K_.setCell{b:LP}(h:K_ a b){p:Addr}(d:a.heap.size<=p.block)(v:LQ):K_ a (b.setCell p v):=Below.setCell h d v
theorem K_.setCells{g:Nat}(c:a.heap.size<=g):∀(vs:List LQ) (o:Nat) {b:LP},K_ a b->K_ a (b.setCells g o vs)
 | [],_,_,h=>h
 | v :: r,o,_,h=>by
  rw[World.setCells];exact K_.setCells c r (o+1) (K_.setCell h c v)
variable {b : Nat} {w w' : LP}
theorem K_.cell(h:K_ w w'){o:Nat}(c:b<w.heap.size):w'.cell? ⟨b,o,none⟩=w.cell? ⟨b,o,none⟩:=
 Below.cell h (p:=⟨b,o,none⟩) c
theorem K_.rules{W w1:LP}(c:K_ W w1):(∀b o,b<W.heap.size->w1.cell? ⟨b,o,none⟩=W.cell? ⟨b,o,none⟩)/\(∀b o,b<W.heap.size->w1.frozen? ⟨b,o,none⟩=W.frozen? ⟨b,o,none⟩):=
 ⟨fun b o h=>Below.cell c (p:=⟨b,o,none⟩) h,fun b o h=>Below.frozen c (p:=⟨b,o,none⟩) h⟩
theorem K_.size(h:K_ w w'):w.heap.size<=w'.heap.size:=Below.size h
theorem Strs.kept{a:LM}{l:List LK}(h:Strs w a l)(k:K_ w w'):Strs w' a l:=by
 intro i c;obtain⟨d,o,e,b,f⟩:=h i c;exact⟨d,o,e,JQ b k.size,by rw[k.cell b,f]⟩
theorem K_.range(h:K_ w w'){o:Nat}{cs:List LQ}(a:b<w.heap.size)(c:w.rangeAt b o cs):w'.rangeAt b o cs:=
 fun j v d=>by rw[h.cell a];exact c j v d
theorem size_setCell(w:LP)(p:Addr)(v:LQ):(w.setCell p v).heap.size=w.heap.size:=by simp[World.setCell]
def Row(w:LP)(b n:Nat):Prop:=∃t f,w.rowIs b t n f
theorem Row.lt(h:Row w b n):b<w.heap.size:=let ⟨_,_,h⟩:=h;h.lt
theorem Row.there(h:Row w b n){o m:Nat}(a:o+m<=n):w.there b o m:=by
 obtain⟨t,f,h⟩:=h;intro j c;exact⟨by rw[h.cell (by omega)];rfl,h.frozen _⟩
theorem Row.kept(h:Row w b n)(k:K_ w w'):Row w' b n:=by
 have c:=h.lt;obtain⟨t,f,h⟩:=h;exact⟨t,f,h.of_block (k.block b c)⟩
theorem Row.set(h:Row w b n)(p:Addr)(a:p.spot=none)(v:LQ):Row (w.setCell p v) b n:=by
 obtain⟨t,f,h⟩:=h;by_cases e:b=p.block
 ·subst e;obtain⟨d,c,i⟩:=p;subst a;exact⟨t,_,h.set c v⟩
 ·exact⟨t,f,h.setOther e v⟩
theorem Row.made(w:LP)(c:Array LQ)(t:TypeId):Row (w.alloc (.cells c t)) w.heap.size c.size:=
 ⟨t,fun i=>c.getD i undef,World.rowIs_alloc w c t _ (fun i b=>by simp[Array.getD,b])⟩
theorem Row.alloc(h:Row w b n)(o:Obj):Row (w.alloc o) b n:=by
 obtain⟨t,f,h⟩:=h;exact⟨t,f,h.alloc o⟩
theorem X_{P:Program}{e:Func}{R:Ending->LP->Prop}{a:Act}{p:Tmp}{c:TypeId}(cs:List LQ)(d:TypeDesc)(h:e.results= #[.cell p c])
 (i:a.tmps.getD p undef= .pointer (some ⟨b,0,none⟩)) (j:w.rangeAt b 0 cs) (k:P.underlying c=some d) (l:d.isRow=true) (m:(P.info? c).map (·.size)=some cs.length)
 (n:a.defers=[]) (q:R (.returned (.agg cs.toArray)) w):bodyPost P e R .ret a w:=by
 refine bodyPost_ret ?_ n q;have r:a.tmps[p]?.getD undef= .pointer (some ⟨b,0,none⟩):=by simpa using i
 simp only[results,h];simp[r,asAddr,run_loadVar_mid w b 0 c cs d j k l m]
def bK.cells(c:bK):List LQ:=[.string c.text,.int .i64 c.goto]
def kv(w:LP)(a:LM)(l:List bK):Prop:=
 ∀i,i<l.length->∃b o,a=some ⟨b,o,none⟩/\b<w.heap.size/\w.rangeAt b (o+i*2) (l.getD i bK.zero).cells
theorem kv.kept{a:LM}{l:List bK}(h:kv w a l)(k:K_ w w'):kv w' a l:=by
 intro i c;obtain⟨d,o,e,b,f⟩:=h i c;exact⟨d,o,e,JQ b k.size,k.range b f⟩
def Xj.cells(s:Xj)(aa:LM)(ca:Nat)(ac:LM)(cc:Nat):List LQ:=
 [.slice aa s.asks.length ca,.int .i64 s.on,.slice ac s.cases.length cc,.int .i64 s.els,.int .i64 s.fall,.bool s.fin,.bool s.bad,.string s.give]
theorem Xj.one(s:Xj)(a:LM)(b:Nat)(c:LM)(d:Nat):(s.cells a b c d).toArray.all (·.oneCell')=true:=
 all_oneCell_toArray (by simp[Xj.cells,Value.oneCell'])
def yH(w:LP)(cs:List LQ)(s:Xj):Prop:=
 ∃aa ca ac cc,cs=s.cells aa ca ac cc/\Strs w aa s.asks/\kv w ac s.cases/\s.asks.length<=ca
theorem yH.kept{cs:List LQ}{s:Xj}(h:yH w cs s)(k:K_ w w'):yH w' cs s:=by
 obtain⟨a,b,c,d,e,f,i,j⟩:=h;exact⟨a,b,c,d,e,f.kept k,i.kept k,j⟩
def Steps(w:LP)(a:LM)(l:List Xj):Prop:=
 ∀i,i<l.length->∃b o cs,a=some ⟨b,o,none⟩/\b<w.heap.size/\w.rangeAt b (o+i*8) cs/\yH w cs (l.getD i Xj.zero)
theorem Steps.kept{a:LM}{l:List Xj}(h:Steps w a l)(k:K_ w w'):Steps w' a l:=by
 intro i c;obtain⟨d,o,e,f,b,j,m⟩:=h i c;exact⟨d,o,e,f,JQ b k.size,k.range b j,m.kept k⟩
structure Xj.Fits (s:Xj):Prop where
 asks:s.asks.length<=maxLen
 dM:∀x∈s.asks,x.size<=maxLen
 on:In64 s.on
 cases:s.cases.length<=maxLen
 dh:∀c∈s.cases,c.text.size<=maxLen/\In64 c.goto
 els:In64 s.els
 fall:In64 s.fall
 give:s.give.size<=maxLen
theorem yQ{k:IntKind}{a b:Int}(h:a=b):Ending.returned (.int k a)= .returned (.int k b):=by rw[h]
def sumTo{α:Type}(f:α->Nat)(l:List α)(k:Nat):Nat:=((l.take k).map f).sum
theorem BK{α:Type}(f:α->Nat)(l:List α):sumTo f l 0=0:=by simp[sumTo]
theorem Cj{α:Type}(f:α->Nat)(l:List α)(d:α)(k:Nat)(h:k<l.length):sumTo f l (k+1)=sumTo f l k+f (l.getD k d):=by
 unfold sumTo;rw[JX h,LA,List.sum_append];simp[List.getD,h]
theorem Ef{α:Type}(f:α->Nat)(l:List α):sumTo f l l.length= (l.map f).sum:=by simp[sumTo]
theorem sumTo_le{α:Type}(f:α->Nat)(l:List α)(k:Nat):sumTo f l k<=(l.map f).sum:=by
 have e:(l.map f).sum= ((l.take k).map f).sum+ ((l.drop k).map f).sum:=by rw[<-List.sum_append,<-LA,Lj]
 unfold sumTo;omega
section
variable {α ι : Type} (ready : α -> ι -> Prop) (step : α -> ι -> α)
inductive bO :α->α->Nat->Prop
 | here (s:α):bO s s 0
 | step (s t:α) (i: ι) (k:Nat) (h:ready s i) (r:bO (step s i) t k):bO s t (k+1)
def nU :Prop:=∀s i j,i≠j->ready s i->ready s j->ready (step s i) j/\step (step s i) j=step (step s j) i
def AtEnd(s:α):Prop:=∀i,¬ready s i
variable {ready step}
theorem bO.trans{s t u:α}{k l:Nat}(h:bO ready step s t k)(g:bO ready step t u l):bO ready step s u (k+l):=by
 induction h with
 | here s=>simpa using g
 | step s t i k h _ ih=>rw[show k+1+l=k+l+1 by omega];exact .step s u i _ h (ih g)
theorem bO.one{s:α}{i: ι}(h:ready s i):bO ready step s (step s i) 1:= .step s _ i 0 h (.here _)
theorem bO.snoc{s t:α}{k:Nat}(h:bO ready step s t k){i: ι}(b:ready t i):bO ready step s (step t i) (k+1):=h.trans (.one b)
theorem bO.first(c:nU ready step):∀{k:Nat} {s t:α},bO ready step s t k->AtEnd ready t->∀{i: ι},ready s i->∃m,k=m+1/\bO ready step (step s i) t m:=by
 intro k
 induction k with
 | zero=>
  intro s t h b i a;cases h;exact Lv a (b i)
 | succ k ih=>
  intro s t h b i a;cases h with
  | step _ _ j _ hj hr=>
   by_cases e:j=i
   ·subst e;exact⟨k,rfl,hr⟩
   ·obtain⟨d,f⟩:=c s i j (Ne.symm e) a hj;obtain⟨l,_⟩:=c s j i e hj a;obtain⟨m,n,p⟩:=ih hr b l;refine⟨k,rfl, ?_⟩;rw[n];refine .step _ _ j _ d ?_;rw[f];exact p
theorem bO.unique(d:nU ready step):∀{k l:Nat} {s t u:α},bO ready step s t k->AtEnd ready t->bO ready step s u l->AtEnd ready u->t=u:=by
 intro k
 induction k with
 | zero=>
  intro l s t u h b g c;cases h;cases g with
  | here=>rfl
  | step _ _ j _ hj _=>exact Lv hj (b j)
 | succ k ih=>
  intro l s t u h b g c;cases h with
  | step _ _ j _ hj hr=>
   obtain⟨m,_,e⟩:=g.first d c hj
   exact ih hr b e c
theorem bO.keeps{P:α->Prop}(c:∀s i,P s->ready s i->P (step s i)){s t:α}{k:Nat}(h:bO ready step s t k)(b:P s):P t:=by
 induction h with
 | here s=>exact b
 | step s t i k h _ ih=>exact ih (c s i b h)
end
structure Xq where
 fail:Bool
 text:LK
def Xq.zero :Xq:=⟨false,ByteArray.empty⟩
def Xq.cells(c:Xq):List LQ:=[.bool c.fail,.string c.text]
def ed(w:LP)(a:LM)(l:List Xq):Prop:=
 ∀i,i<l.length->∃b o,a=some ⟨b,o,none⟩/\b<w.heap.size/\w.rangeAt b (o+i*2) (l.getD i Xq.zero).cells
variable {a : LM} {w w' : LP}
theorem ed.kept{l:List Xq}(h:ed w a l)(k:K_ w w'):ed w' a l:=by
 intro i c;obtain⟨d,o,e,b,f⟩:=h i c;exact⟨d,o,e,JQ b k.size,k.range b f⟩
def Says(e:Ending)(p:Prop):Prop:=∃r,e= .returned (.bool r)/\(r=true↔p)
theorem Says.yes{p:Prop}(h:p):Says (.returned (.bool true)) p:=⟨true,rfl,by simp[h]⟩
theorem Says.no{p:Prop}(h:¬p):Says (.returned (.bool false)) p:=⟨false,rfl,by simp[h]⟩
theorem Says.cases{e:Ending}{p:Prop}(h:Says e p):(e= .returned (.bool true)/\p)\/(e= .returned (.bool false)/\¬p):=by
 obtain⟨r,rfl,a⟩:=h;cases r
 ·right;exact⟨rfl,fun d=>by simpa using a.2 d⟩
 ·left;exact⟨rfl,a.1 rfl⟩
theorem Says.dec(p:Prop)[Decidable p]:Says (.returned (.bool (decide p))) p:=⟨decide p,rfl,by simp⟩
theorem Says.congr{e:Ending}{p q:Prop}(h:Says e p)(b:p↔q):Says e q:=by
 obtain⟨r,rfl,d⟩:=h;exact⟨r,rfl,d.trans b⟩
theorem oo{s t:LK}:(t.toList == s.toList)=true↔t=s:=by
 rw[ByteArray.toList_eq,ByteArray.toList_eq];constructor
 ·intro h;cases s;cases t;simp at h;simp[h]
 ·rintro rfl;simp
theorem qO{s t:LK}(h:(t.toList == s.toList)=false):t≠s:=fun e=>by rw[oo.2 e] at h;cases h
theorem rf(s:LK):s.toList=[]↔s.size=0:=by
 rw[ByteArray.toList_eq,<-Kh,Array.length_toList];exact Iff.rfl
def iw(c:UInt8):Prop:=33<=(c.toNat:Int)/\(c.toNat:Int)<=126/\(c.toNat:Int)≠44
def iM(s:LK):Prop:=1<=s.size/\s.size<=20/\(s.toList == [45])=false/\∀i (h:i<s.size),iw s[i]
def qJ(l:List LK):Prop:=∀i,i<l.length->iM (l.getD i ByteArray.empty)/\∀j,j<i->l.getD j ByteArray.empty≠l.getD i ByteArray.empty
def CaseOk(n:Int)(c:bK):Prop:=c.text.size<=200/\0<=c.goto/\c.goto<n
def AU(s:Xj):Prop:=s.asks.length=0/\s.on=0/\s.cases.length=0/\s.els=0/\s.fall=0/\s.give.size<=30
def uf(s:Xj)(n:Int):Prop:=
 s.bad=false/\s.give.size=0/\s.asks.length<=5/\qJ s.asks/\s.cases.length<=5/\(0<=s.els/\s.els<n)/\(-1<=s.fall/\s.fall<n)/\(s.on=0\/(0<=s.on/\s.on<s.asks.length))
def dR(s:Xj)(n:Int)(i:Nat):Prop:=CaseOk n (s.cases.getD i bK.zero)
def ug(s:Xj)(n:Int):Prop:=∀i,i<s.cases.length->dR s n i
def Dy(s:Xj)(n:Int):Prop:=uf s n/\ug s n
def ku(s:Xj)(n:Int):Prop:=(s.fin=true->AU s)/\(s.fin=false->Dy s n)
def fU(a:fP):Prop:=(1<=a.cost/\a.cost<=20)/\(1<=a.steps.length/\a.steps.length<=20)/\∀i,i<a.steps.length->ku (a.steps.getD i Xj.zero) a.steps.length
structure bW where
 code:Int
 over:Bool
 at':Int
 text:LK
def bW.cells(g:bW):List LQ:=[.int .i64 g.code,.bool g.over,.int .i64 g.at',.string g.text]
theorem vN(w:LP)(c:Xq)(a:c.text.size<=maxLen):
  Calls prog 193 #[.agg #[.bool c.fail,.string c.text]] w fun e w'=>Says e (200<c.text.size)/\K_ w w':=by
 unfold maxLen at a;go_enter func193,ntmps193
 go_wp2
 go_ret
 exact⟨(Says.dec _).congr ⟨fun h=>by omega,fun h=>by omega⟩,ag _ _⟩
theorem CU(w:LP)(c:Xq):
  Calls prog 170 #[.agg #[.bool c.fail,.string c.text]] w fun e w'=>Says e (c.fail=true)/\K_ w w':=by
 go_enter func170,ntmps170
 go_wp2
 go_ret
 exact⟨⟨c.fail,rfl,Iff.rfl⟩,ag _ _⟩
def yu(l:List Xq)(p:Xq->Prop)(r:Int):Prop:=
 (∃i,i<l.length/\r= (i:Int)/\p (l.getD i Xq.zero)/\∀j,j<i->¬p (l.getD j Xq.zero))\/(r= -1/\∀j,j<l.length->¬p (l.getD j Xq.zero))
def lJ(l:List Xq)(p:Xq->Prop)(k:Nat):Prop:=∀j,j<k->¬p (l.getD j Xq.zero)
def nN(c:Xq):Prop:=200<c.text.size
def gQ(c:Xq):Prop:=c.fail=true
theorem EL(w:LP)(a:LM)(D:Nat)(l:List Xq)(E:l.length<=maxLen)(F:∀c∈l,c.text.size<=maxLen)(G:ed w a l):
  Calls prog 169 #[.slice a l.length D,.func (.func 193) #[] #[]] w fun e w'=>(∃r,e= .returned (.int .i64 r)/\yu l nN r)/\K_ w w':=by
 unfold maxLen at E;go_enter func169,ntmps169
 go_wp2
 go_loopw [8] (fun i wr=>∃k:Nat,k<=l.length/\i= .int .i64 k/\K_ w wr/\lJ l nN k) (fun i _=>l.length-(intOf i).toNat)
 case atStart=>exact⟨0,JR _,rfl,K_.refl _,fun j h=>aT h⟩
 case round=>
  obtain⟨k,K,rfl,d,s⟩:=hrel;have m:=Kz s;clear s;by_cases n:k<l.length
  ·obtain⟨b,o,rfl,L,f⟩:=G.kept d k n;have t:(l.getD k Xq.zero).text.size<=maxLen:=F _ (by simp[List.getD,n]);obtain⟨c,p⟩:=aj (l.getD k Xq.zero);rw[<-p] at f t;have v:=Kz p;clear p;have x:=f 0 _ rfl;have H:=f 1 _ rfl;simp only[La] at x;clear f;go_wp2_with fail
   refine (vN _ c t).mono ?_;rintro e w1 ⟨q,y⟩;have A:=d.trans y;clear x H d y;rcases q.cases with⟨rfl,B⟩|⟨rfl,C⟩
   ·have I:=Kz B;clear B q;go_wp2
    go_ret
    exact⟨⟨k,rfl,Or.inl ⟨k,n,rfl,by rw[<-v.o];exact I.o,m.o⟩⟩,A⟩
   ·have J:=Kz C;clear C q;go_wp2
    go_roundw
    case rel=>
     refine⟨k+1,by omega,by go_num,A,fun j h=>?_⟩;by_cases e:j=k
     ·subst e;rw[<-v.o];exact J.o
     ·exact m.o j (by omega)
    case measure=>simp[intOf];omega
  ·go_wp2
   go_ret
   exact⟨⟨-1,rfl,Or.inr ⟨rfl,fun j h=>m.o j (by omega)⟩⟩,d⟩
theorem xZ(w:LP)(a:LM)(C:Nat)(l:List Xq)(D:l.length<=maxLen)(E:∀c∈l,c.text.size<=maxLen)(F:ed w a l):
  Calls prog 169 #[.slice a l.length C,.func (.func 170) #[] #[]] w fun e w'=>(∃r,e= .returned (.int .i64 r)/\yu l gQ r)/\K_ w w':=by
 unfold maxLen at D;go_enter func169,ntmps169
 go_wp2
 go_loopw [8] (fun i wr=>∃k:Nat,k<=l.length/\i= .int .i64 k/\K_ w wr/\lJ l gQ k) (fun i _=>l.length-(intOf i).toNat)
 case atStart=>exact⟨0,JR _,rfl,K_.refl _,fun j h=>aT h⟩
 case round=>
  obtain⟨k,K,rfl,d,s⟩:=hrel;have m:=Kz s;clear s;by_cases n:k<l.length
  ·obtain⟨b,o,rfl,L,f⟩:=F.kept d k n;have G:(l.getD k Xq.zero).text.size<=maxLen:=E _ (by simp[List.getD,n]);obtain⟨c,p⟩:=aj (l.getD k Xq.zero);rw[<-p] at f G;have t:=Kz p;clear p;have v:=f 0 _ rfl;have H:=f 1 _ rfl;simp only[La] at v;clear f;go_wp2_with fail
   refine (CU _ c).mono ?_;rintro e w1 ⟨q,x⟩;have y:=d.trans x;clear v H d x;rcases q.cases with⟨rfl,A⟩|⟨rfl,B⟩
   ·have I:=Kz A;clear A q;go_wp2
    go_ret
    exact⟨⟨k,rfl,Or.inl ⟨k,n,rfl,by rw[<-t.o];exact I.o,m.o⟩⟩,y⟩
   ·have J:=Kz B;clear B q;go_wp2
    go_roundw
    case rel=>
     refine⟨k+1,by omega,by go_num,y,fun j h=>?_⟩;by_cases e:j=k
     ·subst e;rw[<-t.o];exact J.o
     ·exact m.o j (by omega)
    case measure=>simp[intOf];omega
  ·go_wp2
   go_ret
   exact⟨⟨-1,rfl,Or.inr ⟨rfl,fun j h=>m.o j (by omega)⟩⟩,d⟩
theorem yI(w:LP)(a:LM)(f:Nat)(l:List Xq)(n:l.length<=maxLen)(p:∀c∈l,c.text.size<=maxLen)(q:ed w a l):
  Calls prog 192 #[.slice a l.length f,.func (.func 193) #[] #[]] w fun e w'=>Says e (∃i,i<l.length/\nN (l.getD i Xq.zero))/\K_ w w':=by
 go_enter func192,ntmps192
 go_wp2_with fail
 refine (EL _ a f l n p q).mono ?_;rintro e w1 ⟨⟨r,rfl,h⟩,j⟩;have k:=Kz h;clear h;by_cases m:0<=r
 ·have s:decide (0<=r)=true:=by simpa using m
  go_wp2
  go_ret
  exact⟨Says.yes (by rcases k.o with⟨i,b,_,d,_⟩ | ⟨rfl,_⟩;exact⟨i,b,d⟩;omega),j⟩
 ·have s:decide (0<=r)=false:=by simpa using m
  go_wp2
  go_ret
  exact⟨Says.no (by rcases k.o with⟨i,b,rfl,d,_⟩ | ⟨rfl,t⟩;omega;exact fun ⟨i,b,d⟩=>t i b d),j⟩
def ru(s:Xj)(t:LK)(i:Nat):Prop:=(s.cases.getD i bK.zero).text=t
def CaseTo(s:Xj)(t:LK)(k:Nat):Prop:=∀j,j<k->¬ru s t j
def Ck(s:Xj)(i:Nat):Int:=(s.cases.getD i bK.zero).goto
def lD(ans:List Xq)(i:Int):LK:=(ans.getD i.toNat Xq.zero).text
def uU(s:Xj)(ans:List Xq)(r:Int):Prop:=
 (ans.length=0/\r=s.els)\/
 (ans.length≠0/\((∃i,i<s.cases.length/\ru s (lD ans s.on) i/\CaseTo s (lD ans s.on) i/\r=Ck s i)\/(CaseTo s (lD ans s.on) s.cases.length/\r=s.els)))
theorem uU.unique{s:Xj}{ans:List Xq}{r r':Int}(h:uU s ans r)(e:uU s ans r'):r=r':=by
 rcases h with⟨f,rfl⟩ | ⟨f,⟨i,k,c,a,rfl⟩ | ⟨a,rfl⟩⟩ <;> rcases e with⟨l,rfl⟩ | ⟨l,⟨j,m,d,b,rfl⟩ | ⟨b,rfl⟩⟩
 all_goals first | rfl | (exfalso;omega) | skip
 ·rcases Ls i j with h|rfl|h
  ·exact Lv c (b i h)
  ·rfl
  ·exact Lv d (a j h)
 ·exact Lv c (b i k)
 ·exact Lv d (a j m)
theorem BO(w:LP)(s:Xj)(n d a:LM)(p q P:Nat)(ans:List Xq)(Q:s.cases.length<=maxLen)(R:kv w d s.cases)(_hl:ans.length<=maxLen)(S:ed w a ans)
  (G:ans.length≠0->0<=s.on/\s.on<ans.length):
  Calls prog 194 #[.agg #[.slice n s.asks.length p,.int .i64 s.on,.slice d s.cases.length q,.int .i64 s.els,.int .i64 s.fall,.bool s.fin,.bool s.bad,.string s.give],.slice a ans.length P] w fun e w'=>(∃r,e= .returned (.int .i64 r)/\uU s ans r)/\K_ w w':=by
 unfold maxLen at _hl Q;have T:K_ w (w.alloc (.cells #[.slice n s.asks.length p,.int .i64 s.on,.slice d s.cases.length q,.int .i64 s.els,.int .i64 s.fall,.bool s.fin,.bool s.bad,.string s.give] 233)):=ag _ _;cases f:((ans.length:Int) == 0)
 ·have v:ans.length≠0:=by simp at f;simpa using f
  obtain⟨H,U⟩:=G v;clear G;have I:=Kz v;clear v;obtain⟨t,J⟩:=aj (lD ans s.on);have h:=Kz J;clear J;obtain⟨x,y⟩:=Int.eq_ofNat_of_zero_le H;have V:=Kz y;go_enter func194,ntmps194
  rw[y] at H U⊢;clear y;go_wp2
  go_loopw [17] (fun A wr=>∃k:Nat,k<=s.cases.length/\A= .int .i64 k/\K_ (w.alloc (.cells #[.slice n s.asks.length p,.int .i64 x,.slice d s.cases.length q,.int .i64 s.els,.int .i64 s.fall,.bool s.fin,.bool s.bad,.string s.give] 233)) wr/\CaseTo s t k) (fun A _=>s.cases.length-(intOf A).toNat)
  case atStart=>exact⟨0,JR _,rfl,K_.refl _,fun j B=>aT B⟩
  case round=>
   obtain⟨k,hk,rfl,i,K⟩:=hrel;have C:=Kz K;clear K;have W:=i.size;simp only[KR] at W;have l:K_ w wr:=K_.trans (ag _ _) i;obtain⟨a1,a2⟩:=i.rules;by_cases L:k<s.cases.length
   ·obtain⟨b,o,rfl,hb,m⟩:=R.kept l k L;obtain⟨X,o',rfl,a3,M⟩:=S.kept l x (by omega);obtain⟨c,D⟩:=aj (s.cases.getD k bK.zero);rw[<-D] at m;have E:=Kz D;clear D;have Y:=m 0 _ rfl;have c1:=m 1 _ rfl;have Z:=M 1 _ rfl;simp only[La] at Y;have N:(ans.getD x Xq.zero).text=t:=by have F:=h.o;have a0:=V.o;unfold lD at F;rw[a0] at F;exact F.symm
    rw[N] at Z;clear m M N;have z0:w.heap.size<wr.heap.size:=by omega
    have z1:w.heap.size<wr.heap.size+1:=by omega
    have z2:X<wr.heap.size+1:=by omega
    cases O:(c.text.toList == t.toList)
    ·go_wp2
     go_region
     all_goals
      go_wp2
      go_roundw
      case rel=>
       refine⟨k+1,by omega,by go_num,by repeat (first | apply K_.drew | apply K_.alloc | exact i),fun j B=>?_⟩;by_cases e:j=k
       ·subst e;unfold ru;rw[<-E.o];exact qO O
       ·exact C.o j (by omega)
      case measure=>simp[intOf];omega
    ·go_wp2
     go_region
     all_goals
      go_wp2
      go_ret
      exact⟨⟨c.goto,rfl,Or.inr ⟨I.o,Or.inl ⟨k,L,by unfold ru;rw[<-E.o,<-h.o];exact oo.1 O,by rw[<-h.o];exact C.o,by unfold Ck;rw[<-E.o]⟩⟩⟩,by repeat (first | apply K_.drew | apply K_.alloc | exact l)⟩
   ·go_wp2
    go_ret
    exact⟨⟨s.els,rfl,Or.inr ⟨I.o,Or.inr ⟨by rw[<-h.o];exact fun j B=>C.o j (by omega),rfl⟩⟩⟩,l⟩
 ·go_enter func194,ntmps194
  go_wp2
  go_ret
  exact⟨⟨s.els,rfl,Or.inl ⟨by simp at f;simpa using f,rfl⟩⟩,T⟩
theorem Xz(w:LP)(c:Array LQ)(t:TypeId):(w.alloc (.cells c t)).rangeAt w.heap.size 0 c.toList:=fun j v a=>by
 rw[KH,World.cell?_alloc_mark];simpa using a
def bW.none :bW:=⟨1,false,0,⟨#[]⟩⟩
def jq(s:Xj)(i:Nat):LK:=(⟨#[98,101,108,111,119,32]⟩:LK)++s.asks.getD i ByteArray.empty
def vG(s:Xj)(ans:List Xq):Prop:=ans.length=s.asks.length/\¬∃i,i<ans.length/\nN (ans.getD i Xq.zero)
def Followed(s:Xj)(ans:List Xq)(g:bW):Prop:=
 (¬vG s ans/\g=bW.none)\/
 (vG s ans/\((∃i,i<ans.length/\gQ (ans.getD i Xq.zero)/\lJ ans gQ i/\((s.fall= -1/\g= ⟨0,true,0,jq s i⟩)\/(s.fall≠ -1/\g= ⟨0,false,s.fall,⟨#[]⟩⟩)))\/
  (lJ ans gQ ans.length/\∃r,uU s ans r/\g= ⟨0,false,r,⟨#[]⟩⟩)))
theorem Followed.unique{s:Xj}{ans:List Xq}{g k:bW}(h:Followed s ans g)(n:Followed s ans k):g=k:=by
 rcases h with⟨a,rfl⟩ | ⟨a,⟨i,p,l,b,⟨c,rfl⟩ | ⟨c,rfl⟩⟩ | ⟨b,v,q,rfl⟩⟩ <;> rcases n with⟨d,rfl⟩ | ⟨d,⟨j,r,m,e,⟨f,rfl⟩ | ⟨f,rfl⟩⟩ | ⟨e,w,t,rfl⟩⟩
 all_goals first | rfl | exact Lv d a | exact Lv a d | exact Lv f c | exact Lv c f | exact Lv l (e i p) | exact Lv m (b j r) | skip
 ·rcases Ls i j with h|rfl|h
  ·exact Lv l (e i h)
  ·rfl
  ·exact Lv m (b j h)
 ·rw[q.unique t]
theorem Tryz.dJ :(prog.info? 135).map (·.size)=some 4:=by kernel_rfl
theorem AX(w:LP)(s:Xj)(f h a:LM)(k l t:Nat)(ans:List Xq)(L:s.Fits)(Y:Strs w f s.asks)(Z:kv w h s.cases)(v:ans.length<=maxLen)(M:∀c∈ans,c.text.size<=maxLen)(E:ed w a ans)
  (a0:s.asks.length≠0->0<=s.on/\s.on<s.asks.length) (a1:∀i,i<s.asks.length->(s.asks.getD i ByteArray.empty).size<=20):
  Calls prog 184 #[.agg #[.slice f s.asks.length k,.int .i64 s.on,.slice h s.cases.length l,.int .i64 s.els,.int .i64 s.fall,.bool s.fin,.bool s.bad,.string s.give],.slice a ans.length t] w fun e w'=>(∃g,e= .returned (.agg g.cells.toArray)/\Followed s ans g)/\K_ w w':=by
 have a2:=v;have a3:=L.asks;unfold maxLen at a2 a3;have x:K_ w ((w.alloc (.cells #[.slice f s.asks.length k,.int .i64 s.on,.slice h s.cases.length l,.int .i64 s.els,.int .i64 s.fall,.bool s.fin,.bool s.bad,.string s.give] 233)).alloc (.cells #[.int .i64 0,.bool false,.int .i64 0,.string ⟨#[]⟩] 135)):=(ag _ _).alloc _;cases F:((ans.length:Int) != (s.asks.length:Int))
 ·have N:ans.length=s.asks.length:=by simp at F;omega
  have y:=Kz N;clear N;go_enter func184,ntmps184
  go_wp2_with fail
  refine (yI _ a t ans v M (E.kept x)).mono ?_;rintro e w1 ⟨G,j⟩;have A:=x.trans j;have O:Row w1 (w.heap.size+1) 4:=Row.kept (by have:=Row.made (w.alloc (.cells #[.slice f s.asks.length k,.int .i64 s.on,.slice h s.cases.length l,.int .i64 s.els,.int .i64 s.fall,.bool s.fin,.bool s.bad,.string s.give] 233)) #[.int .i64 0,.bool false,.int .i64 0,.string ⟨#[]⟩] 135;simpa using this) j;have H:=Kz O;clear O;obtain⟨b6,b7⟩:=j.rules;have a4:=j.size;simp only[KR] at a4;rcases G.cases with⟨rfl,P⟩|⟨rfl,Q⟩
  ·have HY:=Kz P;clear P G x j;go_wp2
   have b:=JU w1 (w.heap.size+1) 0 bW.none.cells (H.o.there (o:=0) (m:=4) (JP _));exact X_ bW.none.cells _ results184 rfl b underlying135 rfl Tryz.dJ rfl ⟨⟨_,rfl,Or.inl ⟨fun B=>B.2 HY.o,rfl⟩⟩,K_.setCells (g:=w.heap.size+1) (by omega) bW.none.cells 0 A⟩
  ·have HN:=Kz Q;clear Q G x j;have z0:w.heap.size<w1.heap.size:=by omega
   have z1:w.heap.size+1<w1.heap.size:=by omega
   go_wp2_with fail
   refine (xZ _ a t ans v M (E.kept A)).mono ?_;rintro e w2 ⟨⟨c0,rfl,hr⟩,n⟩;have d:=A.trans n;have R:=H.o.kept n;have C:=Kz R;obtain⟨c1,c2⟩:=n.rules;have c3:=n.size;have y0:w.heap.size<w2.heap.size:=by omega
   have y1:w.heap.size+1<w2.heap.size:=by omega
   clear R H n A;have I:Hid (vG s ans):=⟨y.o,HN.o⟩;rcases hr with⟨i,S,rfl,T,p⟩|⟨rfl,p⟩
   ·have U:=Kz T;have D:=Kz p;clear T p;cases V:(s.fall == -1)
    ·go_wp2
     have b:=JU w2 (w.heap.size+1) 0 [.int .i64 0,.bool false,.int .i64 s.fall,.string ⟨#[]⟩] (C.o.there (o:=0) (m:=4) (JP _));exact X_ [.int .i64 0,.bool false,.int .i64 s.fall,.string ⟨#[]⟩] _ results184 rfl b underlying135 rfl Tryz.dJ rfl ⟨⟨⟨0,false,s.fall,⟨#[]⟩⟩,rfl,Or.inr ⟨I.o,Or.inl ⟨i,S,U.o,D.o,Or.inr ⟨by simpa using V,rfl⟩⟩⟩⟩,K_.setCells (g:=w.heap.size+1) (by omega) [.int .i64 0,.bool false,.int .i64 s.fall,.string ⟨#[]⟩] 0 d⟩
    ·obtain⟨ba,oa,rfl,c8,a8⟩:=Y.kept d i (by have:=y.o;omega);have a9:i<s.asks.length:=by have:=y.o;omega
     obtain⟨J,K⟩:=aj (s.asks.getD i ByteArray.empty);have b0:=a1 i a9;rw[<-K] at a8 b0;have HV:=Kz K;clear K;go_wp2
     have b:=JU w2 (w.heap.size+1) 0 [.int .i64 0,.bool true,.int .i64 0,.string ((⟨#[98,101,108,111,119,32]⟩:LK)++J)] (C.o.there (o:=0) (m:=4) (JP _));exact X_ [.int .i64 0,.bool true,.int .i64 0,.string ((⟨#[98,101,108,111,119,32]⟩:LK)++J)] _ results184 rfl b underlying135 rfl Tryz.dJ rfl ⟨⟨⟨0,true,0,_⟩,rfl,Or.inr ⟨I.o,Or.inl ⟨i,S,U.o,D.o,Or.inl ⟨by simpa using V,by unfold jq;rw[<-HV.o]⟩⟩⟩⟩,K_.setCells (g:=w.heap.size+1) (by omega) [.int .i64 0,.bool true,.int .i64 0,.string ((⟨#[98,101,108,111,119,32]⟩:LK)++J)] 0 d⟩
   ·have D:=Kz p;clear p;go_wp2_with fail
    refine (BO _ s f h a k l t ans L.cases (Z.kept d) v (E.kept d) (fun B=>by have h1:=y.o;have h2:=a0 (by omega);omega)).mono ?_;rintro e w3 ⟨⟨q,rfl,W⟩,r⟩;have K3:=d.trans r;have X:=C.o.kept r;have⟨b4,HQ⟩:=aH X W;obtain⟨d1,d2⟩:=r.rules;have d3:=r.size;clear X C r d W;go_wp2
    have b:=JU w3 (w.heap.size+1) 0 [.int .i64 0,.bool false,.int .i64 q,.string ⟨#[]⟩] (b4.o.there (o:=0) (m:=4) (JP _));exact X_ [.int .i64 0,.bool false,.int .i64 q,.string ⟨#[]⟩] _ results184 rfl b underlying135 rfl Tryz.dJ rfl ⟨⟨⟨0,false,q,⟨#[]⟩⟩,rfl,Or.inr ⟨I.o,Or.inr ⟨D.o,q,HQ.o,rfl⟩⟩⟩,K_.setCells (g:=w.heap.size+1) (by omega) [.int .i64 0,.bool false,.int .i64 q,.string ⟨#[]⟩] 0 K3⟩
 ·go_enter func184,ntmps184
  go_wp2
  have b:=Xz (w.alloc (.cells #[.slice f s.asks.length k,.int .i64 s.on,.slice h s.cases.length l,.int .i64 s.els,.int .i64 s.fall,.bool s.fin,.bool s.bad,.string s.give] 233)) #[.int .i64 1,.bool false,.int .i64 0,.string ⟨#[]⟩] 135;rw[KR] at b;exact X_ bW.none.cells _ results184 rfl b underlying135 rfl Tryz.dJ rfl ⟨⟨_,rfl,Or.inl ⟨fun B=>by simp at F;exact F (by have:=B.1;omega),rfl⟩⟩,(ag _ _).alloc _⟩
theorem xG(w:LP)(s:LK):∃cap C fr,(convert 9 22 (.string s)).run prog w= .ok (.slice (some ⟨w.heap.size,0,none⟩) s.size cap) (w.drew.alloc (.cells C 5 fr))/\
  ∀j (h:j<s.size),(w.alloc (.cells C 5 fr)).cell? ⟨w.heap.size,j,none⟩=some (.int .u8 (s[j].toNat:Int)):=by
 refine⟨_,_,_,run_bytes_of_string (P:=prog) w 9 22 5 s underlying9 underlying22 underlying5,fun j h=>?_⟩;rw[World.cell?_alloc_mark];unfold bytesRow;have b:j<s.data.size:=h;rw[Array.getElem?_append_left (by simpa using b)];simp only[Array.getElem?_map,Array.getElem?_eq_getElem b,Option.map_some]
 rfl
theorem Tryz.DF :(prog.info? 9).map (fun i=>(i.zero,i.size,i.bytes))=some (some (.string ByteArray.empty),1,16):=by kernel_rfl
structure Qq where
 name:LK
 cost:Int
 steps:List Xj
def Qq.zero :Qq:=⟨ByteArray.empty,0,[]⟩
def Qq.cells(d:Qq)(a:LM)(cap:Nat):List LQ:=[.string d.name,.int .i64 d.cost,.slice a d.steps.length cap]
def zm(w:LP)(cs:List LQ)(d:Qq):Prop:=∃a cap,cs=d.cells a cap/\Steps w a d.steps
theorem zm.kept{cs:List LQ}{d:Qq}(h:zm w cs d)(k:K_ w w'):zm w' cs d:=by
 obtain⟨a,c,e,f⟩:=h;exact⟨a,c,e,f.kept k⟩
def bN(w:LP)(a:LM)(l:List Qq):Prop:=
 ∀i,i<l.length->∃b o cs,a=some ⟨b,o,none⟩/\b<w.heap.size/\w.rangeAt b (o+i*3) cs/\zm w cs (l.getD i Qq.zero)
theorem bN.kept{l:List Qq}(h:bN w a l)(k:K_ w w'):bN w' a l:=by
 intro i c;obtain⟨d,o,e,f,b,j,m⟩:=h i c;exact⟨d,o,e,f,JQ b k.size,k.range b j,m.kept k⟩
structure Qq.Fits (d:Qq):Prop where
 name:d.name.size<=maxLen
 cost:In64 d.cost
 steps:d.steps.length<=maxLen
 each:∀s∈d.steps,s.Fits
theorem size_setCells(g:Nat):∀(vs:List LQ) (o:Nat) (w:LP),(w.setCells g o vs).heap.size=w.heap.size
 | [],_,_=>rfl
 | v :: r,o,w=>by rw[World.setCells,size_setCells g r (o+1),size_setCell]
structure Xk (lo hi:Nat) (w w':LP):Prop where
 os:w'.os=w.os
 tape:w'.tape=w.tape
 output:w'.output=w.output
 size:w.heap.size<=w'.heap.size
 block:∀k,k<w.heap.size->(k<lo\/hi<=k)->w'.heap[k]? =w.heap[k]?
variable {hi lo : Nat}
theorem Xk.aF(h:K_ w w'):Xk lo hi w w':=⟨h.os,h.tape,h.output,h.size,fun k c _=>h.block k c⟩
theorem Xk.refl(a b:Nat)(w:LP):Xk a b w w:= .aF (K_.refl w)
theorem Xk.trans{a b c:LP}(h:Xk lo hi a b)(k:Xk lo hi b c):Xk lo hi a c:=
 ⟨k.os.trans h.os,k.tape.trans h.tape,k.output.trans h.output,JS h.size k.size,fun i d e=>(k.block i (JQ d h.size) e).trans (h.block i d e)⟩
theorem Xk.drew{a b:LP}(h:Xk lo hi a b):Xk lo hi a b.drew:=⟨h.os,h.tape,h.output,h.size,h.block⟩
theorem Xk.drewN{a b:LP}(h:Xk lo hi a b)(n:Nat):Xk lo hi a (b.drewN n):=⟨h.os,h.tape,h.output,h.size,h.block⟩
theorem Xk.alloc{a b:LP}(h:Xk lo hi a b)(o:Obj):Xk lo hi a (b.alloc o):=h.trans (.aF ((K_.refl b).alloc o))
theorem Xk.setCell{a b:LP}(h:Xk lo hi a b){p:Addr}(e:lo<=p.block)(h2:p.block<hi)(v:LQ):Xk lo hi a (b.setCell p v):=
 ⟨h.os,h.tape,h.output,by rw[size_setCell];exact h.size,fun k c d=>by rw[Below.heap_setCell _ _ _ _ (by omega)];exact h.block k c d⟩
theorem Xk.kept{a b:LP}(h:Xk lo hi a b)(c:K_ w a)(e:w.heap.size<=lo):K_ w b:=
 ⟨h.os.trans c.os,h.tape.trans c.tape,h.output.trans c.output,JS c.size h.size,fun k d=>(h.block k (JQ d c.size) (by omega)).trans (c.block k d)⟩
def Same(lo hi:Nat)(w w':LP):Prop:=∀b,lo<=b->b<hi->b<w.heap.size->w'.heap[b]? =w.heap[b]?
theorem Xk.same(h:Xk lo hi w w'){l2 h2:Nat}(d:h2<=lo\/hi<=l2):Same l2 h2 w w':=fun b _ _ c=>h.block b c (by omega)
variable {b : Nat}
theorem Same.cell(h:Same lo hi w w'){o:Nat}(c:lo<=b)(h2:b<hi)(d:b<w.heap.size):w'.cell? ⟨b,o,none⟩=w.cell? ⟨b,o,none⟩:=Ke (w:=w) (h b c h2 d)
def jg(w:LP)(lo hi:Nat)(a:LM)(l:List LK):Prop:=
 l=[]\/∃b,a=some ⟨b,0,none⟩/\lo<=b/\b<hi/\Row w b l.length/\∀i,i<l.length->w.cell? ⟨b,i,none⟩=some (.string (l.getD i ByteArray.empty))
variable {l : List LK}
theorem jg.mono{c d:Nat}(h:jg w lo hi a l)(j:c<=lo)(h2:hi<=d):jg w c d a l:=by
 rcases h with h|⟨b,e,k,m,f,i⟩
 ·exact .inl h
 ·exact .inr ⟨b,e,by omega,by omega,f,i⟩
theorem jg.strs(h:jg w lo b a l):Strs w a l:=by
 rcases h with rfl|⟨c,d,j,k,e,f⟩
 ·intro i b;simp at b
 ·intro i b;exact⟨c,0,d,e.lt,by rw[KH];exact f i b⟩
variable {n : Nat}
theorem Row.at{i:Nat}(h:Row w b n)(c:i<n):(∃v,w.cell? ⟨b,i,none⟩=some v)/\w.frozen? ⟨b,i,none⟩=false:=by
 obtain⟨t,f,h⟩:=h;exact⟨⟨_,h.cell c⟩,h.frozen i⟩
theorem Row.Fb{m:Nat}(h:Row w b m)(c:7<=m:=by omega):((∃v,w.cell? ⟨b,0,none⟩=some v)/\w.frozen? ⟨b,0,none⟩=false)/\((∃v,w.cell? ⟨b,1,none⟩=some v)/\w.frozen? ⟨b,1,none⟩=false)/\((∃v,w.cell? ⟨b,2,none⟩=some v)/\w.frozen? ⟨b,2,none⟩=false)/\((∃v,w.cell? ⟨b,3,none⟩=some v)/\w.frozen? ⟨b,3,none⟩=false)/\((∃v,w.cell? ⟨b,4,none⟩=some v)/\w.frozen? ⟨b,4,none⟩=false)/\((∃v,w.cell? ⟨b,5,none⟩=some v)/\w.frozen? ⟨b,5,none⟩=false)/\(∃v,w.cell? ⟨b,6,none⟩=some v)/\w.frozen? ⟨b,6,none⟩=false:=⟨h.at (by omega),h.at (by omega),h.at (by omega),h.at (by omega),h.at (by omega),h.at (by omega),h.at (by omega)⟩
theorem bG{o:Nat}(h:Row w b n)(c:o<n)(v:LQ):(w.setCell ⟨b,o,none⟩ v).cell? ⟨b,o,none⟩=some v:=by
 obtain⟨⟨old,d⟩,_⟩:=h.at c;exact Ll _ _ _ d
theorem Xx{o p:Nat}(a:o≠p)(v:LQ):(w.setCell ⟨b,o,none⟩ v).cell? ⟨b,p,none⟩=w.cell? ⟨b,p,none⟩:=
 Kn _ _ _ _ (by simp <;> omega)
variable {xs : List LQ} {base : Nat} {e : TypeId} {v : LQ}
theorem ai{size:Nat}(h:w.ownsRow base e size v n xs)(k:K_ w w'):w'.ownsRow base e size v n xs:=
 h.kept (row:=none) ⟨k.os,k.tape,k.output,k.size,fun i c _=>k.block i c⟩ (by cases v.ownBlock <;> simp)
theorem aU{size:Nat}(h:w.ownsRow base e size v n xs){p:Addr}(i:p.block<base)(u:LQ):(w.setCell p u).ownsRow base e size v n xs:=by
 refine⟨h.1, ?_⟩;rcases h.2 with a|⟨g,b,c,rfl,d,f,rest⟩
 ·exact .inl a
 ·exact .inr ⟨g,b,c,rfl,d,by rw[Below.heap_setCell _ _ _ _ (by omega)];exact f,rest⟩
theorem aG{a:LP}{size:Nat}(k:K_ a w)(b:a.heap.size<=base)(h:w.ownsRow base e size v n xs)(g:w.grownBy w' v.ownBlock):K_ a w':=
 Below.grown k g k.size (fun d f=>JS b (h.lt d f).1)
theorem bC{base' size:Nat}(h:w.ownsRow base e size v n xs)(a:base'<=base):w.ownsRow base' e size v n xs:=by
 refine⟨h.1, ?_⟩;rcases h.2 with b|⟨g,c,d,rfl,f,rest⟩
 ·exact .inl b
 ·exact .inr ⟨g,c,d,rfl,JS a f,rest⟩
def ay(t:TypeId)(w w':LP):Prop:=∀(b:Nat) (cur:Array LQ) (u:TypeId) (fr:Nat×Nat),u≠t->w.heap[b]? =some (Obj.cells cur u fr)->w'.heap[b]? =some (Obj.cells cur u fr)
theorem aO{o:Obj}(h:w.heap[b]? =some o):b<w.heap.size:=(KQ.1 h).1
theorem ay.refl(t:TypeId)(w:LP):ay t w w:=fun _ _ _ _ _ h=>h
variable {t : TypeId}
theorem ay.trans{a b c:LP}(i:ay t a b)(k:ay t b c):ay t a c:=fun x e u f h j=>k x e u f h (i x e u f h j)
theorem ay.aF(h:K_ w w'):ay t w w':=fun b d u e _ a=>by rw[h.block b (aO a)];exact a
theorem ay.aI{size:Nat}(h:w.ownsRow base t size v n xs)(g:w.grownBy w' v.ownBlock):ay t w w':=by
 intro b f u i d a;rw[g.block b (aO a) ?_]
 ·exact a
 ·intro e;rcases h.2 with⟨rfl,_⟩|⟨j,k,l,rfl,_,c,_⟩
  ·simp[Value.ownBlock] at e
  ·simp only[Value.ownBlock,KT] at e;subst e;rw[a] at c;simp only[KT,Obj.cells.injEq] at c;exact d c.2.1
theorem ay.setCell{p:Addr}{b:Array LQ}{c:Nat×Nat}(h:w.heap[p.block]? =some (Obj.cells b t c))(v:LQ):ay t w (w.setCell p v):=by
 intro f i u j d a;rw[Below.heap_setCell _ _ _ _ ?_]
 ·exact a
 ·intro e;rw[e,h] at a;simp only[KT,Obj.cells.injEq] at a;exact d a.2.1.symm
def aC(w:LP)(b:Nat)(t:TypeId)(n:Nat):Prop:=∃cur:Array LQ,w.heap[b]? =some (Obj.cells cur t (0,0))/\cur.size=n
theorem aC.row(h:aC w b t n):Row w b n:=by
 obtain⟨a,d,c⟩:=h;exact⟨t,fun i=>a.getD i undef,a,d,c,fun i e=>by simp[Array.getD,c,e]⟩
theorem aC.made(w:LP)(c:Array LQ)(t:TypeId):aC (w.alloc (.cells c t)) w.heap.size t c.size:=⟨c,heap_alloc_new w _,rfl⟩
theorem aC.block(h:aC w b t n)(k:w'.heap[b]? =w.heap[b]?):aC w' b t n:=by
 obtain⟨c,d,e⟩:=h;exact⟨c,k.trans d,e⟩
theorem aC.lt(h:aC w b t n):b<w.heap.size:=let ⟨_,h1,_⟩:=h;aO h1
theorem aC.kept(h:aC w b t n)(k:K_ w w'):aC w' b t n:=h.block (k.block b h.lt)
theorem aC.set{o:Nat}(h:aC w b t n)(v:LQ):aC (w.setCell ⟨b,o,none⟩ v) b t n:=by
 obtain⟨d,c,e⟩:=h;obtain⟨f,k,i,a,j,_⟩:=(aC.row ⟨d,c,e⟩).set ⟨b,o,none⟩ rfl v;have:f=t:=by
  simp only[World.setCell] at a;simp[Array.getElem?_modify,c] at a;exact a.2.symm
 subst this;exact⟨i,a,j⟩
theorem aC.same{o:Nat}(h:aC w b t n)(v:LQ):ay t w (w.setCell ⟨b,o,none⟩ v):=by
 obtain⟨d,c,_⟩:=h;exact ay.setCell (p:=⟨b,o,none⟩) c v
def fA(w:LP)(t:TypeId)(a:LM)(l:List LK):Prop:=
 l=[]\/∃b cur fr,a=some ⟨b,0,none⟩/\w.heap[b]? =some (Obj.cells cur t fr)/\∀i,i<l.length->w.cell? ⟨b,i,none⟩=some (.string (l.getD i ByteArray.empty))
def nZ(w:LP)(t:TypeId)(a:LM)(l:List bK):Prop:=
 l=[]\/∃b cur fr,a=some ⟨b,0,none⟩/\w.heap[b]? =some (Obj.cells cur t fr)/\∀i,i<l.length->w.rangeAt b (i*2) (l.getD i bK.zero).cells
variable {u : TypeId}
theorem fA.same(h:fA w t a l)(k:ay u w w')(i:t≠u):fA w' t a l:=by
 rcases h with h|⟨b,c,d,j,e,m⟩
 ·exact .inl h
 ·have f:=k b c t d i e;exact .inr ⟨b,c,d,j,f,fun n p=>by rw[Ke (w:=w) (f.trans e.symm)];exact m n p⟩
theorem fA.strs(h:fA w t a l):Strs w a l:=by
 rcases h with rfl|⟨c,j,k,d,e,f⟩
 ·intro i b;simp at b
 ·exact fun i b=>⟨c,0,d,aO e,by rw[KH];exact f i b⟩
theorem nZ.same{l:List bK}(h:nZ w t a l)(k:ay u w w')(i:t≠u):nZ w' t a l:=by
 rcases h with h|⟨b,c,d,j,e,m⟩
 ·exact .inl h
 ·have f:=k b c t d i e;exact .inr ⟨b,c,d,j,f,fun n p q v r=>by rw[Ke (w:=w) (f.trans e.symm)];exact m n p q v r⟩
theorem nZ.cases{l:List bK}(h:nZ w t a l):kv w a l:=by
 rcases h with rfl|⟨c,j,k,d,e,f⟩
 ·intro i b;simp at b
 ·exact fun i b=>⟨c,0,d,aO e,by rw[KH];exact f i b⟩
def kN(w:LP)(ts tc:TypeId)(cs:List LQ)(s:Xj):Prop:=∃aa ca ac cc,cs=s.cells aa ca ac cc/\fA w ts aa s.asks/\nZ w tc ac s.cases/\s.asks.length<=ca
theorem kN.same{a b:TypeId}{cs:List LQ}{s:Xj}(h:kN w a b cs s)(k:ay u w w')(c:a≠u)(h2:b≠u):kN w' a b cs s:=by
 obtain⟨d,e,f,i,j,l,m,n⟩:=h;exact⟨d,e,f,i,j,l.same k c,m.same k h2,n⟩
def eH(w:LP)(ts tc:TypeId)(xs:List LQ)(l:List Xj):Prop:=
 xs.length=l.length*8/\∀i,i<l.length->kN w ts tc ((xs.drop (i*8)).take 8) (l.getD i Xj.zero)
theorem eH.nil(w:LP)(a b:TypeId):eH w a b [] []:=⟨rfl,fun i c=>by simp at c⟩
theorem eH.same{a b:TypeId}{l:List Xj}(h:eH w a b xs l)(k:ay u w w')(d:a≠u)(h2:b≠u):eH w' a b xs l:=
 ⟨h.1,fun i f=>(h.2 i f).same k d h2⟩
theorem eH.snoc{a b:TypeId}{cs:List LQ}{l:List Xj}{k:Nat}(q:k<l.length)(h:eH w a b xs (l.take k))(e:kN w a b cs (l.getD k Xj.zero)):eH w a b (xs++cs) (l.take (k+1)):=by
 have n:cs.length=8:=by obtain⟨_,_,_,_,rfl,_⟩:=e;rfl
 have f:(l.take k).length=k:=by rw[Kt];omega
 have j:xs.length=k*8:=by rw[h.1,f]
 refine⟨by rw[KS,Kt,j,n,Nat.min_eq_left (by omega)];omega,fun i p=>?_⟩;rw[Kt] at p;by_cases m:i<k
 ·have c:(l.take (k+1)).getD i Xj.zero= (l.take k).getD i Xj.zero:=by simp[List.getD,m,(by omega:i<k+1)]
  have d:((xs++cs).drop (i*8)).take 8= (xs.drop (i*8)).take 8:=by
   rw[List.drop_append_of_le_length (by omega),List.take_append_of_le_length (by rw[List.length_drop];omega)]
  rw[c,d];exact h.2 i (by rw[f];exact m)
 ·obtain rfl:i=k:=by omega
  have c:(l.take (i+1)).getD i Xj.zero=l.getD i Xj.zero:=by simp[List.getD]
  have d:((xs++cs).drop (i*8)).take 8=cs:=by
   rw[<-j,List.drop_left,KJ (by omega)]
  rw[c,d];exact e
theorem aJ{size:Nat}(h:w.ownsRow base e size v n xs)(k:ay u w w')(b:e≠u):w'.ownsRow base e size v n xs:=by
 refine⟨h.1, ?_⟩;rcases h.2 with c|⟨g,d,a,rfl,f,i,rest⟩
 ·exact .inl c
 ·exact .inr ⟨g,d,a,rfl,f,k g a e _ b i,rest⟩
theorem ax{size:Nat}(h:w.ownsRow base e size v n xs):∃a b,v= .slice a n b:=by
 rcases h.2 with⟨rfl,rfl⟩|⟨g,b,d,rfl,_⟩
 ·exact⟨none,0,rfl⟩
 ·exact⟨_,b,rfl⟩
theorem Xk.below{wr c:LP}(h:Xk lo hi w wr)(b:Below w.heap.size wr c):Xk lo hi w c:=
 ⟨b.os.trans h.os,b.tape.trans h.tape,b.output.trans h.output,JS h.size b.size,fun k e f=>(b.block k e).trans (h.block k e f)⟩
variable {a : Act} {up : Array Bool} {n : Nat} {oi : Oper} {w : LP}
section
variable {P : Program} {ops : Array Oper} {Q : Exit -> Act -> LP -> Prop} {md : Region.Mode} {S : LP -> Prop} {z : Nat}
def Qx(P:Program)(md:Region.Mode)(ops:Array Oper)(Q:Exit->Act->LP->Prop)(S:LP->Prop)(z:Nat):Nat->Array Bool->Act->LP->Prop
 | 0,up,a,w=>Region.ready md ops up=[]/\Q .normal a w
 | n+1,up,a,w=>(Region.ready md ops up=[]->Q .normal a w)/\∀k∈Region.ready md ops up,wpOp P ops Q k (fun b u=>(k≠z->S u)/\Qx P md ops Q S z n (up.setIfInBounds k true) b u) a w
theorem Qx.any :∀(n:Nat) (up:Array Bool) (a:Act) (w:LP),Qx P md ops Q S z n up a w->wpAny P md ops Q n up a w
 | 0,_,_,_,h=>h
 | n+1,_,_,_,h=>⟨h.1,fun k c=>wpOp_mono (fun b u g=>Qx.any n _ b u g.2) (h.2 k c)⟩
theorem Qx.region{id:Nat}(b:P.follows .mixedOrders=true)(S:LP->Prop)(z:Nat)(c:S w.drew)
 (h:S w.drew->Qx P .any ops Q S z ops.size (Array.replicate ops.size false) a w.drew):(Code.region id ops true).wp P Q a w:=
 wp_region_any b (Qx.any _ _ _ _ (h c))
def pF(md:Region.Mode)(ops:Array Oper)(i:Nat)(D:List Nat):Bool:=
 D.all fun d=>match ops[d]? with
  | some o=>o.after.toList.any fun e=>Region.binds md e && (e.on == i || D.contains e.on)
  | none=>false
theorem Gt{i:Nat}{D:List Nat}(j:pF md ops i D=true)(l:up.getD i true=false)(m:∀d∈D,up.getD d true=false){k:Nat}
 (n:k∈Region.ready md ops up):k∉D:=by
 intro p;obtain⟨_,o,q,r⟩:=mem_ready.1 n;have c:=List.all_eq_true.1 j k p;simp only[q,List.any_eq_true,Array.mem_toList_iff,Bool.and_eq_true,Bool.or_eq_true,beq_iff_eq,List.contains_iff_mem] at c;obtain⟨e,s,t,v⟩:=c;have a:=r e s t;have f:up.getD e.on true=false:=by
  rcases v with h|h
  ·rw[h];exact l
  ·exact m _ h
 rcases Nat.lt_or_ge e.on up.size with b|b
 ·simp[b] at a f;rw[f] at a;cases a
 ·simp[Array.getElem?_eq_none b] at a
theorem Qx.take'{i:Nat}{v:LQ}(s:ops[i]? =some oi)(B:Region.noSelect ops=true)(M:∀c a w,Q (.panic c) (a.put oi.dst v) w->Q (.panic c) a w)
 {D:List Nat} (N:z∈D) (O:pF md ops i D=true):
  ∀(n:Nat) (b:Array Bool) (a:Act) (w:LP),(∀j f,ops[j]? =some f->j≠i->b.getD j true=false->(∀e∈f.after,Region.binds md e=true->e.on≠i)->oi.apart ops f=true)->
   (∀d∈D,b.getD d true=false)->i∈Region.ready md ops b->YieldsIf P ops S oi v a->S w->
   Qx P md ops Q S z n (b.setIfInBounds i true) (a.put oi.dst v) w->Qx P md ops Q S z (n+1) b a w:=by
 intro n
 induction n with
 | zero=>
  intro b a w _ _ h r l H;refine⟨fun k=>(by rw[k] at h;cases h),fun j m=>?_⟩;by_cases e:j=i
  ·exact e ▸ r.wpOp s l ⟨fun _=>l,H⟩
  ·have:=ready_mono m e;rw[H.1] at this;cases this
 | succ n ih=>
  intro b a w C E h r l H;refine⟨fun k=>(by rw[k] at h;cases h),fun j m=>?_⟩;by_cases e:j=i
  ·exact e ▸ r.wpOp s l ⟨fun _=>l,H⟩
  ·have t:=(mem_ready.1 h).1;have F:=Gt O t E m;have R:j≠z:=fun k=>F (k ▸ N)
   obtain⟨G,f,x,T⟩:=mem_ready.1 m;have U:∀e∈f.after,Region.binds md e=true->e.on≠i:=fun e V W X=>by
    have p:=T e V W;rw[X] at p;rcases Nat.lt_or_ge i b.size with y|y
    ·simp[y] at t p;rw[t] at p;cases p
    ·simp[Array.getElem?_eq_none y] at p
   have Y:=wpOp_putIf x (C j f x e G U) (fun A q=>Region.noSelect_spec B i oi A q s) (fun A q=>Region.noSelect_spec B j f A q x) M r (H.2 j (ready_mono m e));refine wpOp_mono (fun q u g=>⟨g.2.1,ih (b.setIfInBounds j true) q u (fun I Z hk a0 J a1=>C I Z hk a0 ?_ a1) (fun d K=>?_) (ready_mono h (Ne.symm e)) g.1 (g.2.1 R) ?_⟩) Y
   ·by_cases L:j=I
    ·exact L ▸ G
    ·rw[getD_set_ne true L] at J;exact J
   ·rw[getD_set_ne true (fun k:j=d=>F (k ▸ K))];exact E d K
   ·rw[Array.setIfInBounds_comm _ _ e];exact g.2.2
theorem Qx.take(i:Nat)(D:List Nat){v:LQ}(f:ops[i]? =some oi)(h:Region.noSelect ops=true)
 (j:Region.free md ops up i=true) (k:(Region.ready md ops up).contains i=true) (b:(D.contains z && pF md ops i D && D.all fun d=>!up.getD d true)=true)
 (l:∀c a w,Q (.panic c) (a.put oi.dst v) w->Q (.panic c) a w) (m:YieldsIf P ops S oi v a) (p:S w)
 (q:Qx P md ops Q S z n (up.setIfInBounds i true) (a.put oi.dst v) w):Qx P md ops Q S z (n+1) up a w:=by
 simp only[Bool.and_eq_true,List.contains_iff_mem,List.all_eq_true,Bool.not_eq_true'] at b;exact Qx.take' f h l b.1.1 b.1.2 n up a w (Region.free_spec f j) b.2 (by simpa using k) m p q
theorem Qx.next(i:Nat){o:Oper}(d:Region.ready md ops up=[i])(h:ops[i]? =some o)
 (j:∀K:Act->LP->Prop,Shut (∀b u,(i≠z->S u)->Qx P md ops Q S z n (up.setIfInBounds i true) b u->K b u)->if Region.wanted o (yielded ops a.tmps)=true then Oper.wp P o a w K Q else K (a.put o.dst undef) w):
  Qx P md ops Q S z (n+1) up a w:=by
 refine⟨fun e=>(by rw[d] at e;cases e),fun k f=>?_⟩;rw[d] at f;obtain rfl:k=i:=by simpa using f
 exact wpOp_step h (fun K l=>j K (fun b u m p=>l b u ⟨m,p⟩))
theorem Qx.two(i j:Nat){e:Oper}(k:Region.ready md ops up=[i,j])(m:ops[i]? =some oi)(p:ops[j]? =some e)
 (d:∀K:Act->LP->Prop,Shut (∀b u,(i≠z->S u)->Qx P md ops Q S z n (up.setIfInBounds i true) b u->K b u)->if Region.wanted oi (yielded ops a.tmps)=true then Oper.wp P oi a w K Q else K (a.put oi.dst undef) w)
 (h2:∀K:Act->LP->Prop,Shut (∀b u,(j≠z->S u)->Qx P md ops Q S z n (up.setIfInBounds j true) b u->K b u)->if Region.wanted e (yielded ops a.tmps)=true then Oper.wp P e a w K Q else K (a.put e.dst undef) w):
  Qx P md ops Q S z (n+1) up a w:=by
 refine⟨fun l=>(by rw[k] at l;cases l),fun q f=>?_⟩;rw[k] at f;simp only[Lb,Lc,or_false] at f;rcases f with rfl | rfl
 ·exact wpOp_step m (fun K h=>d K (fun b u d h2=>h b u ⟨d,h2⟩))
 ·exact wpOp_step p (fun K h=>h2 K (fun b u d h2=>h b u ⟨d,h2⟩))
theorem Qx.done(b:Region.ready md ops up=[])(h:Q .normal a w):Qx P md ops Q S z n up a w:=by
 cases n with
 | zero=>exact⟨b,h⟩
 | succ n=>exact⟨fun _=>h,by rw[b];simp⟩
theorem upP :(∀(a:Act) (v:LQ),a.put none v=a)/\(∀(a:Act) (d:Tmp) (v:LQ),a.put (some d) v= {a with tmps:=a.tmps.setIfInBounds d v})/\(∀(l:List LQ) (i:Nat) (a:LQ),l.toArray.setIfInBounds i a= (l.set i a).toArray)/\(∀(x:LQ) (l:List LQ) (a:LQ),(x :: l).set 0 a=a :: l)/\∀(x:LQ) (l:List LQ) (i:Nat) (a:LQ),(x :: l).set (i+1) a=x :: l.set i a:=⟨fun _ _=>rfl,fun _ _ _=>rfl,fun _ _ _=>List.setIfInBounds_toArray ..,fun _ _ _=>rfl,fun _ _ _ _=>rfl⟩
def Zq(md:Region.Mode)(ops:Array Oper)(i:Nat):List Nat:=
 (List.range ops.size).foldl (fun D d=>match ops[d]? with
  | some o=>if (o.after.toList.any fun e=>Region.binds md e && (e.on == i || D.contains e.on))=true then D++ [d] else D
  | none=>D) []
theorem af(i:Nat){v:LQ}{b:Act}(e:S w)
 (h:Qx P md ops Q S z n (up.setIfInBounds i true) b w) (f:ops[i]? =some oi:=by (simp only[List.getElem?_toArray];rfl)) (j:∀u,S u->(execOp a.eval oi).run P u= .ok (.value v) u:=by (intro u hu;(try dsimp only at hu);go_simp;(try with_reducible rfl)))
 (k:a.put oi.dst v=b:=by (first | (simp only[upP];exact rfl) | simp only[upP] | exact rfl)) (l:Region.noSelect ops=true:=by kernel_rfl)
 (m:Region.free md ops up i=true:=by kernel_rfl) (p:(Region.ready md ops up).contains i=true:=by kernel_rfl) (q:((Zq md ops i).contains z && pF md ops i (Zq md ops i) && (Zq md ops i).all fun d=>!up.getD d true)=true:=by kernel_rfl)
 (r:∀c a w,Q (.panic c) (a.put oi.dst v) w->Q (.panic c) a w:=by (first | exact fun _ _ _ h=>h | exact fun _ _ _ h=>nomatch h.1)) (s:Region.wanted oi (yielded ops a.tmps)=true:=by rfl):Qx P md ops Q S z (n+1) up a w:=
 Qx.take i _ f l m p q r (Or.inl ⟨s,j⟩) e (by rw[k];exact h)
theorem aD(i:Nat){b:Act}(e:S w)
 (h:Qx P md ops Q S z n (up.setIfInBounds i true) b w) (f:ops[i]? =some oi:=by (simp only[LH];rfl))
 (j:a.put oi.dst undef=b:=by (first | (simp only[upP];exact rfl) | simp only[upP] | exact rfl)) (k:Region.noSelect ops=true:=by kernel_rfl)
 (l:Region.free md ops up i=true:=by kernel_rfl) (m:(Region.ready md ops up).contains i=true:=by kernel_rfl) (p:((Zq md ops i).contains z && pF md ops i (Zq md ops i) && (Zq md ops i).all fun d=>!up.getD d true)=true:=by kernel_rfl)
 (q:∀c a w,Q (.panic c) (a.put oi.dst undef) w->Q (.panic c) a w:=by (first | exact fun _ _ _ h=>h | exact fun _ _ _ h=>nomatch h.1)) (r:Region.wanted oi (yielded ops a.tmps)=false:=by rfl):Qx P md ops Q S z (n+1) up a w:=
 Qx.take i _ f k l m p q (Or.inr ⟨r,rfl⟩) e (by rw[j];exact h)
theorem ah(i:Nat){o:Oper} 
 (h:∀K:Act->LP->Prop,Shut (∀b u,(i≠z->S u)->Qx P md ops Q S z n (up.setIfInBounds i true) b u->K b u)->if Region.wanted o (yielded ops a.tmps)=true then Oper.wp P o a w K Q else K (a.put o.dst undef) w)
 (d:Region.ready md ops up=[i]:=by kernel_rfl) (e:ops[i]? =some o:=by (simp only[LH];rfl)):Qx P md ops Q S z (n+1) up a w:=Qx.next i d e h
theorem ak(i:Nat){o:Oper} 
 (h:∀K:Act->LP->Prop,Shut (∀b u,(i≠z->S u)->Qx P md ops Q S z n (up.setIfInBounds i true) b u->K b u)->Oper.wp P o a w K Q)
 (c:Region.ready md ops up=[i]:=by kernel_rfl) (d:ops[i]? =some o:=by (simp only[LH];rfl)) (e:Region.wanted o (yielded ops a.tmps)=true:=by rfl):Qx P md ops Q S z (n+1) up a w:=Qx.next i c d fun K f=>by rw[Lt e];exact h K f
theorem dx(i j:Nat){c:Oper} 
 (d:∀K:Act->LP->Prop,Shut (∀b u,(i≠z->S u)->Qx P md ops Q S z n (up.setIfInBounds i true) b u->K b u)->if Region.wanted oi (yielded ops a.tmps)=true then Oper.wp P oi a w K Q else K (a.put oi.dst undef) w)
 (h2:∀K:Act->LP->Prop,Shut (∀b u,(j≠z->S u)->Qx P md ops Q S z n (up.setIfInBounds j true) b u->K b u)->if Region.wanted c (yielded ops a.tmps)=true then Oper.wp P c a w K Q else K (a.put c.dst undef) w)
 (e:Region.ready md ops up=[i,j]:=by kernel_rfl) (f:ops[i]? =some oi:=by (simp only[LH];rfl)) (h:ops[j]? =some c:=by (simp only[LH];rfl)):Qx P md ops Q S z (n+1) up a w:=Qx.two i j e f h d h2
theorem bf(z:Nat){id:Nat}(b:∀u,K_ w u->S u)(h:∀wd,K_ w wd->S wd->Qx P .any ops Q S z ops.size (Array.replicate ops.size false) a wd)(d:P.follows .mixedOrders=true:=by kernel_rfl):(Code.region id ops true).wp P Q a w:=
 Qx.region d S z (b _ (aL w)) fun e=>h _ (aL w) e
theorem iF(z:Nat){R:LP->Prop}{id:Nat}(c:∀u,R u->S u)(d:R w.drew)(h:S w.drew->Qx P .any ops Q S z ops.size (Array.replicate ops.size false) a w.drew)(f:P.follows .mixedOrders=true:=by kernel_rfl):(Code.region id ops true).wp P Q a w:=
 Qx.region f S z (c _ d) h
theorem ae{i:Nat}{K:Act->LP->Prop}(a:Shut (∀b u,(i≠z->S u)->Qx P md ops Q S z n up b u->K b u)){b c:Act}{u:LP}(d:i≠z->S u)(h:Qx P md ops Q S z n up c u)(e:b=c:=by (first | (simp only[upP];exact rfl) | simp only[upP] | exact rfl)):K b u:=by rw[e];exact a.out _ _ d h
theorem bJ(i:Nat)(v:LQ){b:Act}(e:S w)(f:∀u,S u->(execOp a.eval oi).run P u= .ok (.value v) u)
 (h:Qx P md ops Q S z n (up.setIfInBounds i true) b w) (j:ops[i]? =some oi:=by (simp only[LH];rfl)) 
 (k:a.put oi.dst v=b:=by (first | (simp only[upP];exact rfl) | simp only[upP] | exact rfl)) (l:Region.noSelect ops=true:=by kernel_rfl)
 (m:Region.free md ops up i=true:=by kernel_rfl) (p:(Region.ready md ops up).contains i=true:=by kernel_rfl) (q:((Zq md ops i).contains z && pF md ops i (Zq md ops i) && (Zq md ops i).all fun d=>!up.getD d true)=true:=by kernel_rfl)
 (r:∀c a w,Q (.panic c) (a.put oi.dst v) w->Q (.panic c) a w:=by (first | exact fun _ _ _ h=>h | exact fun _ _ _ h=>nomatch h.1)) (s:Region.wanted oi (yielded ops a.tmps)=true:=by rfl):Qx P md ops Q S z (n+1) up a w:=
 Qx.take i _ j l m p q r (Or.inl ⟨s,f⟩) e (by rw[k];exact h)
theorem aB(h:Q .normal a w)(c:Region.ready md ops up=[]:=by kernel_rfl):Qx P md ops Q S z n up a w:=Qx.done c h
theorem au(i:Nat){v0 v1 v2 r:LQ}{b e f j:Oper}{k l m s:Act}(p:S w)
 (h:Qx P md ops Q S z n ((((up.setIfInBounds i true).setIfInBounds (i+1) true).setIfInBounds (i+2) true).setIfInBounds (i+3) true) s w)
 (t:ops[i]? =some b:=by (simp only[List.getElem?_toArray];rfl)) (v:Region.wanted b (yielded ops a.tmps)=true:=by rfl) (x:∀u,S u->(execOp a.eval b).run P u= .ok (.value v0) u:=by (intro u hu;(try dsimp only at hu);go_simp;(try with_reducible rfl))) (y:a.put b.dst v0=k:=by (first | (simp only[upP];exact rfl) | simp only[upP] | exact rfl))
 (A:Region.free md ops up i=true:=by kernel_rfl) (B:(Region.ready md ops up).contains i=true:=by kernel_rfl) (C:((Zq md ops i).contains z && pF md ops i (Zq md ops i) && (Zq md ops i).all fun d=>!up.getD d true)=true:=by kernel_rfl) (D:∀c a w,Q (.panic c) (a.put b.dst v0) w->Q (.panic c) a w:=by (first | exact fun _ _ _ h=>h | exact fun _ _ _ h=>nomatch h.1))
 (E:ops[i+1]? =some e:=by (simp only[List.getElem?_toArray];rfl)) (F:Region.wanted e (yielded ops k.tmps)=true:=by rfl) (G:∀u,S u->(execOp k.eval e).run P u= .ok (.value v1) u:=by (intro u hu;(try dsimp only at hu);go_simp;(try with_reducible rfl))) (H:k.put e.dst v1=l:=by (first | (simp only[upP];exact rfl) | simp only[upP] | exact rfl))
 (I:Region.free md ops (up.setIfInBounds i true) (i+1)=true:=by kernel_rfl) (J:(Region.ready md ops (up.setIfInBounds i true)).contains (i+1)=true:=by kernel_rfl) (K:((Zq md ops (i+1)).contains z && pF md ops (i+1) (Zq md ops (i+1)) && (Zq md ops (i+1)).all fun d=>!(up.setIfInBounds i true).getD d true)=true:=by kernel_rfl) (L:∀c a w,Q (.panic c) (a.put e.dst v1) w->Q (.panic c) a w:=by (first | exact fun _ _ _ h=>h | exact fun _ _ _ h=>nomatch h.1))
 (M:ops[i+2]? =some f:=by (simp only[List.getElem?_toArray];rfl)) (N:Region.wanted f (yielded ops l.tmps)=true:=by rfl) (O:∀u,S u->(execOp l.eval f).run P u= .ok (.value v2) u:=by (intro u hu;(try dsimp only at hu);go_simp;(try with_reducible rfl))) (R:l.put f.dst v2=m:=by (first | (simp only[upP];exact rfl) | simp only[upP] | exact rfl))
 (T:Region.free md ops ((up.setIfInBounds i true).setIfInBounds (i+1) true) (i+2)=true:=by kernel_rfl) (U:(Region.ready md ops ((up.setIfInBounds i true).setIfInBounds (i+1) true)).contains (i+2)=true:=by kernel_rfl) (V:((Zq md ops (i+2)).contains z && pF md ops (i+2) (Zq md ops (i+2)) && (Zq md ops (i+2)).all fun d=>!((up.setIfInBounds i true).setIfInBounds (i+1) true).getD d true)=true:=by kernel_rfl) (W:∀c a w,Q (.panic c) (a.put f.dst v2) w->Q (.panic c) a w:=by (first | exact fun _ _ _ h=>h | exact fun _ _ _ h=>nomatch h.1))
 (X:ops[i+3]? =some j:=by (simp only[List.getElem?_toArray];rfl)) (Y:Region.wanted j (yielded ops m.tmps)=true:=by rfl) (Z:∀u,S u->(execOp m.eval j).run P u= .ok (.value r) u:=by (intro u hu;(try dsimp only at hu);go_simp;(try with_reducible rfl))) (a0:m.put j.dst r=s:=by (first | (simp only[upP];exact rfl) | simp only[upP] | exact rfl))
 (a1:Region.free md ops (((up.setIfInBounds i true).setIfInBounds (i+1) true).setIfInBounds (i+2) true) (i+3)=true:=by kernel_rfl) (a2:(Region.ready md ops (((up.setIfInBounds i true).setIfInBounds (i+1) true).setIfInBounds (i+2) true)).contains (i+3)=true:=by kernel_rfl) (a3:((Zq md ops (i+3)).contains z && pF md ops (i+3) (Zq md ops (i+3)) && (Zq md ops (i+3)).all fun d=>!(((up.setIfInBounds i true).setIfInBounds (i+1) true).setIfInBounds (i+2) true).getD d true)=true:=by kernel_rfl) (a4:∀c a w,Q (.panic c) (a.put j.dst r) w->Q (.panic c) a w:=by (first | exact fun _ _ _ h=>h | exact fun _ _ _ h=>nomatch h.1))
 (q:Region.noSelect ops=true:=by kernel_rfl):Qx P md ops Q S z (n+4) up a w:=
 Qx.take i _ t q A B C D (Or.inl ⟨v,x⟩) p (by rw[y];exact (Qx.take (i+1) _ E q I J K L (Or.inl ⟨F,G⟩) p (by rw[H];exact (Qx.take (i+2) _ M q T U V W (Or.inl ⟨N,O⟩) p (by rw[R];exact (Qx.take (i+3) _ X q a1 a2 a3 a4 (Or.inl ⟨Y,Z⟩) p (by rw[a0];exact h)))))))
end
theorem Jz(a:Array LQ)(W:LP):(Instr.typeAssert (.iface 233 (.agg a)) 215 233 true).run prog W= .ok (.tuple #[.agg a,.bool true]) W:=by kernel_rfl
theorem BP(w:LP)(s:Xj)(B:s.fin=false)(d f a:LM)(j k l:Nat)(ans:List Xq)(C:s.Fits)(D:Strs w d s.asks)(E:kv w f s.cases)(F:ans.length<=maxLen)(G:∀c∈ans,c.text.size<=maxLen)(H:ed w a ans)
  (p:s.asks.length≠0->0<=s.on/\s.on<s.asks.length) (q:∀i,i<s.asks.length->(s.asks.getD i ByteArray.empty).size<=20):
  Calls prog 167 #[.iface 233 (.agg #[.slice d s.asks.length j,.int .i64 s.on,.slice f s.cases.length k,.int .i64 s.els,.int .i64 s.fall,.bool false,.bool s.bad,.string s.give]),.slice a ans.length l] w fun e w'=>(∃g,e= .returned (.agg g.cells.toArray)/\Followed s ans g)/\K_ w w':=by
 have r:∀W,K_ w W->Calls prog 184 #[.agg #[.slice d s.asks.length j,.int .i64 s.on,.slice f s.cases.length k,.int .i64 s.els,.int .i64 s.fall,.bool false,.bool s.bad,.string s.give],.slice a ans.length l] W fun e w'=>(∃g,e= .returned (.agg g.cells.toArray)/\Followed s ans g)/\K_ W w':=fun W n=>by
  have h:=AX W s d f a j k l ans C (D.kept n) (E.kept n) F G (H.kept n) p q;rw[B] at h;exact h
 have I:=Kz r;clear r p q;have O:=Jz;go_enter func167,ntmps167
 go_wp2_with fail
 refine (a_ I _ (by repeat (first | apply K_.alloc | exact K_.refl _))).mono ?_;rintro e w1 ⟨⟨g,rfl,v⟩,b⟩;have y:Row w1 w.heap.size 4:=Row.kept (Row.alloc (by have:=Row.made w #[.int .i64 0,.bool false,.int .i64 0,.string ⟨#[]⟩] 135;simpa using this) _) b;have J:K_ w w1:=K_.trans (by repeat (first | apply K_.alloc | exact K_.refl _)) b;obtain⟨c,o,t,x⟩:=g;have⟨K,L⟩:=aH v y;clear v y;obtain⟨P,Q⟩:=b.rules;have M:=b.size;simp only[KR] at M;clear b;have A:(bW.mk c o t x).cells.toArray= #[.int .i64 c,.bool o,.int .i64 t,.string x]:=rfl;rw[A];clear A;go_wp2
 have N:=JU w1 w.heap.size 0 (bW.mk c o t x).cells (L.o.there (o:=0) (m:=4) (JP _));exact X_ (bW.mk c o t x).cells _ results167 rfl N underlying135 rfl Tryz.dJ rfl ⟨⟨_,rfl,K.o⟩,K_.setCells (g:=w.heap.size) (by omega) (bW.mk c o t x).cells 0 J⟩
theorem mr(w:LP)(s:LK)(m:s.size<=maxLen):
  Calls prog 81 #[.string s] w fun e w'=>Says e (iM s)/\w'=w:=by
 unfold maxLen at m;by_cases n:(1:Int)<=s.size
 ·by_cases p:(s.size:Int)<=20
  ·cases c:(s.toList == [45])
   ·go_enter func81,ntmps81
    go_wp2
    go_loop [3] (fun i=>∃k:Nat,k<=s.size/\i= .int .i64 k/\∀j (h:j<s.size),j<k->iw s[j]) (fun i=>s.size-(intOf i).toNat)
    case atStart=>exact⟨0,JR _,rfl,fun j _ a=>aT a⟩
    case round=>
     obtain⟨k,q,rfl,d⟩:=hrel;have f:=Kz d;clear d;by_cases b:k<s.size
     ·by_cases r:(s[k].toNat:Int)<33
      ·go_wp2
       go_ret
       exact⟨Says.no fun h=>by have:=h.2.2.2 k b;unfold iw at this;omega,rfl⟩
      ·by_cases t:126<(s[k].toNat:Int)
       ·go_wp2
        go_ret
        exact⟨Says.no fun h=>by have:=h.2.2.2 k b;unfold iw at this;omega,rfl⟩
       ·cases l:((s[k].toNat:Int) == 44)
        ·go_wp2
         go_round
         case rel=>
          refine⟨k+1,by omega,by go_num,fun j a v=>?_⟩;by_cases e:j=k
          ·subst e;exact⟨by omega,by omega,by simpa using l⟩
          ·exact a_ f j a (by omega)
         case measure=>simp[intOf];omega
        ·go_wp2
         go_ret
         exact⟨Says.no fun h=>by have:=h.2.2.2 k b;unfold iw at this;simp at l;omega,rfl⟩
     ·go_wp2
      go_ret
      exact⟨Says.yes ⟨by omega,by omega,c,fun j a=>a_ f j a (by omega)⟩,rfl⟩
   ·go_enter func81,ntmps81
    go_wp2
    go_ret
    exact⟨Says.no fun h=>by have:=h.2.2.1;simp[c] at this,rfl⟩
  ·go_enter func81,ntmps81
   go_wp2
   go_ret
   exact⟨Says.no fun h=>by have:=h.2.1;omega,rfl⟩
 ·go_enter func81,ntmps81
  go_wp2
  go_ret
  exact⟨Says.no fun h=>by have:=h.1;omega,rfl⟩
theorem lG(w:LP)(s:LK)(n:s.size<=maxLen):
  Calls prog 132 #[.string s] w fun e w'=>Says e (iM s)/\K_ w w':=by
 unfold maxLen at n;by_cases r:(1:Int)<=s.size
 ·by_cases t:(s.size:Int)<=20
  ·cases c:(s.toList == [45])
   ·obtain⟨v,C,p,q,d⟩:=xG w s;go_enter func132,ntmps132
    go_wp2
    clear q;go_loopw [20] (fun i wr=>∃k:Nat,k<=s.size/\i= .int .i64 k/\(∀j (h:j<s.size),j<k->iw s[j])/\wr= (w.alloc (.cells C 5 p)).drew) (fun i _=>s.size-(intOf i).toNat)
    case atStart=>exact⟨0,JR _,rfl,fun j _ a=>aT a,rfl⟩
    case round=>
     obtain⟨k,x,rfl,f,rfl⟩:=hrel;have l:=Kz f;clear f;by_cases b:k<s.size
     ·have y:=d k b;clear d;by_cases A:(s[k].toNat:Int)<33
      ·go_wp2
       go_ret
       exact⟨Says.no fun h=>by have:=h.2.2.2 k b;unfold iw at this;omega,(ag _ _).drew⟩
      ·by_cases B:126<(s[k].toNat:Int)
       ·go_wp2
        go_ret
        exact⟨Says.no fun h=>by have:=h.2.2.2 k b;unfold iw at this;omega,(ag _ _).drew⟩
       ·cases m:((s[k].toNat:Int) == 44)
        ·go_wp2
         go_roundw
         case rel=>
          refine⟨k+1,by omega,by go_num,fun j a D=>?_,by first | rfl | trivial⟩;by_cases e:j=k
          ·subst e;exact⟨by omega,by omega,by simpa using m⟩
          ·exact a_ l j a (by omega)
         case measure=>simp[intOf];omega
        ·go_wp2
         go_ret
         exact⟨Says.no fun h=>by have:=h.2.2.2 k b;unfold iw at this;simp at m;omega,(ag _ _).drew⟩
     ·go_wp2
      go_ret
      exact⟨Says.yes ⟨by omega,by omega,c,fun j a=>a_ l j a (by omega)⟩,(ag _ _).drew⟩
   ·go_enter func132,ntmps132
    go_wp2
    go_ret
    exact⟨Says.no fun h=>by have:=h.2.2.1;simp[c] at this,K_.refl _⟩
  ·go_enter func132,ntmps132
   go_wp2
   go_ret
   exact⟨Says.no fun h=>by have:=h.2.1;omega,K_.refl _⟩
 ·go_enter func132,ntmps132
  go_wp2
  go_ret
  exact⟨Says.no fun h=>by have:=h.1;omega,K_.refl _⟩
def Has(l:List LK)(v:LK):Prop:=∃i,i<l.length/\l.getD i ByteArray.empty=v
theorem EH(w:LP)(a:LM)(q:Nat)(l:List LK)(v:LK)(s:l.length<=maxLen)(t:Strs w a l):
  Calls prog 118 #[.slice a l.length q,.string v] w fun e w'=>(∃r,e= .returned (.int .i64 r)/\(0<=r↔Has l v))/\w'=w:=by
 unfold maxLen at s;go_enter func118,ntmps118
 go_wp2
 go_loop [8] (fun i=>∃k:Nat,k<=l.length/\i= .int .i64 k/\∀j,j<k->l.getD j ByteArray.empty≠v) (fun i=>l.length-(intOf i).toNat)
 case atStart=>exact⟨0,JR _,rfl,fun j d=>aT d⟩
 case round=>
  obtain⟨k,A,rfl,f⟩:=hrel;have h:=Kz f;clear f;by_cases m:k<l.length
  ·obtain⟨b,o,rfl,B,x⟩:=t k m;obtain⟨y,c⟩:=aj (l.getD k ByteArray.empty);rw[<-c] at x;have n:=Kz c;clear c;cases p:(v.toList == y.toList)
   ·go_wp2
    go_round
    case rel=>
     refine⟨k+1,by omega,by go_num,fun j d=>?_⟩;by_cases e:j=k
     ·subst e;rw[<-n.o];exact (qO p).symm
     ·exact a_ h j (by omega)
    case measure=>simp[intOf];omega
   ·go_wp2
    go_ret
    exact⟨⟨_,rfl,⟨fun _=>⟨k,m,by rw[<-n.o];exact (oo.1 p).symm⟩,fun _=>by omega⟩⟩,rfl⟩
  ·go_wp2
   go_ret
   exact⟨⟨_,rfl,⟨fun C=>by omega,fun ⟨i,D,e⟩=>Lv e (a_ h i (by omega))⟩⟩,rfl⟩
theorem zn(w:LP)(a:LM)(d:Nat)(l:List LK)(v:LK)(i:l.length<=maxLen)(j:Strs w a l):
  Calls prog 76 #[.slice a l.length d,.string v] w fun e w'=>Says e (Has l v)/\w'=w:=by
 go_enter func76,ntmps76
 go_wp2_with fail
 refine (EH _ a d l v i j).mono ?_;rintro e w1 ⟨⟨r,rfl,f⟩,rfl⟩;have h:=Kz f;clear f;by_cases c:0<=r
 ·have k:decide (0<=r)=true:=by simpa using c
  go_wp2
  go_ret
  exact⟨Says.congr (p:=True) (Says.yes trivial) ⟨fun _=>h.o.1 c,fun _=>trivial⟩,rfl⟩
 ·have k:decide (0<=r)=false:=by simpa using c
  go_wp2
  go_ret
  exact⟨Says.congr (p:=False) (Says.no id) ⟨False.elim,fun m=>by have:=h.o.2 m;omega⟩,rfl⟩
theorem qc(w:LP)(asks:Nat)(on:Int)(cases:Nat)(els fall:Int)(fin bad:Bool)(give:LK)(i j:LM)(k l:Nat)(m:asks<=maxLen)(h2:cases<=maxLen)(n:give.size<=maxLen):
  Calls prog 240 #[.agg #[.slice i asks k,.int .i64 on,.slice j cases l,.int .i64 els,.int .i64 fall,.bool fin,.bool bad,.string give]] w
   fun e w'=>Says e (asks=0/\on=0/\cases=0/\els=0/\fall=0/\give.size<=30)/\K_ w w':=by
 unfold maxLen at m h2 n;cases a:((asks:Int) == 0)
 ·go_enter func240,ntmps240
  go_wp2
  all_goals
   go_ret
   exact⟨Says.no fun h=>by simp at a;omega,ag _ _⟩
 ·obtain rfl:asks=0:=by simp at a;omega
  clear a;cases b:(on == 0)
  ·go_enter func240,ntmps240
   go_wp2
   all_goals
    go_ret
    exact⟨Says.no fun h=>by simp at b;omega,ag _ _⟩
  ·obtain rfl:on=0:=by simpa using b
   clear b;cases c:((cases:Int) == 0)
   ·go_enter func240,ntmps240
    go_wp2
    go_ret
    exact⟨Says.no fun h=>by simp at c;omega,ag _ _⟩
   ·obtain rfl:cases=0:=by simp at c;omega
    clear c;cases d:(els == 0)
    ·go_enter func240,ntmps240
     go_wp2
     go_ret
     exact⟨Says.no fun h=>by simp at d;omega,ag _ _⟩
    ·obtain rfl:els=0:=by simpa using d
     clear d;cases f:(fall == 0)
     ·go_enter func240,ntmps240
      go_wp2
      go_ret
      exact⟨Says.no fun h=>by simp at f;omega,ag _ _⟩
     ·obtain rfl:fall=0:=by simpa using f
      clear f;by_cases p:(give.size:Int)<=30
      ·go_enter func240,ntmps240
       go_wp2
       go_ret
       exact⟨Says.yes (by simp;omega),ag _ _⟩
      ·go_enter func240,ntmps240
       go_wp2
       go_ret
       exact⟨Says.no fun h=>by omega,ag _ _⟩
variable {a : LM} {w : LP}
theorem Strs.take{l:List LK}(h:Strs w a l)(k:Nat):Strs w a (l.take k):=by
 intro i c;have d:i<l.length:=by simp at c;omega
 have e:i<k:=by simp at c;omega
 obtain⟨b,o,f,j,m⟩:=h i d;refine⟨b,o,f,j, ?_⟩;rw[m];simp[List.getD,e]
theorem Ff{l:List LK}{k:Nat}(d:k<=l.length){v:LK}:Has (l.take k) v↔∃i,i<k/\l.getD i ByteArray.empty=v:=by
 unfold Has;constructor
 ·rintro⟨i,a,e⟩;have c:i<k:=by simp at a;omega
  exact⟨i,c,by rw[<-e];simp[List.getD,c]⟩
 ·rintro⟨i,a,e⟩;exact⟨i,by simp;omega,by rw[<-e];simp[List.getD,a]⟩
theorem oW(w:LP)(a:LM)(b k:Nat)(l:List LK)(v:LK)(j:l.length<=maxLen)(c:k<=l.length)(d:Strs w a l):
  Calls prog 76 #[.slice a k b,.string v] w fun e w'=>Says e (∃i,i<k/\l.getD i ByteArray.empty=v)/\w'=w:=by
 have e:(l.take k).length=k:=by simp;omega
 have:=zn w a b (l.take k) v (by rw[e];omega) (d.take k);rw[e] at this;exact this.mono fun e w' ⟨h,f⟩=>⟨h.congr (Ff c),f⟩
def Jl(s:Xj):Prop:=s.asks.length<=5/\qJ s.asks/\(s.on=0\/(0<=s.on/\s.on<s.asks.length))
def z_(l:List LK)(j:Nat):Prop:=iM (l.getD j ByteArray.empty)/\∀m,m<j->l.getD m ByteArray.empty≠l.getD j ByteArray.empty
theorem xq(w:LP)(s:Xj)(q v:LM)(f x:Nat)(y:s.Fits)(H:Strs w q s.asks)(U:s.asks.length<=f):
  Calls prog 236 #[.agg #[.slice q s.asks.length f,.int .i64 s.on,.slice v s.cases.length x,.int .i64 s.els,.int .i64 s.fall,.bool s.fin,.bool s.bad,.string s.give]] w fun e w'=>Says e (Jl s)/\K_ w w':=by
 have N:=y.asks;unfold maxLen at N;have c:K_ w (w.alloc (.cells #[.slice q s.asks.length f,.int .i64 s.on,.slice v s.cases.length x,.int .i64 s.els,.int .i64 s.fall,.bool s.fin,.bool s.bad,.string s.give] 233)):=ag _ _;by_cases V:(s.asks.length:Int)<=5
 ·go_enter func236,ntmps236
  go_wp2
  go_loopw [14] (fun i wr=>∃k:Nat,k<=s.asks.length/\i= .int .i64 k/\K_ (w.alloc (.cells #[.slice q s.asks.length f,.int .i64 s.on,.slice v s.cases.length x,.int .i64 s.els,.int .i64 s.fall,.bool s.fin,.bool s.bad,.string s.give] 233)) wr/\∀j,j<k->z_ s.asks j) (fun i _=>s.asks.length-(intOf i).toNat)
  case atStart=>exact⟨0,JR _,rfl,K_.refl _,fun j A=>aT A⟩
  case round=>
   obtain⟨k,W,rfl,a,I⟩:=hrel;have B:=Kz I;clear I;have O:=a.size;simp only[KR] at O;by_cases r:k<s.asks.length
   ·obtain⟨b,o,rfl,P,J⟩:=(H.kept c).kept a k r;have K:(s.asks.getD k ByteArray.empty).size<=maxLen:=y.dM _ (by simp[List.getD,r]);obtain⟨L,C⟩:=aj (s.asks.getD k ByteArray.empty);rw[<-C] at J K;have t:=Kz C;clear C;go_wp2_with fail
    refine (lG _ L K).mono ?_;rintro e w1 ⟨d,D⟩;have l:=a.trans D;have E:=(H.kept c).kept l;clear J P;rcases d.cases with⟨rfl,m⟩|⟨rfl,n⟩
    ·have Q:=Kz m;clear m d a D;obtain⟨F,G⟩:=l.rules;have X:k<=f:=by omega
     go_wp2_with fail
     refine (oW _ _ f k s.asks L y.asks (by omega) E).mono ?_;rintro e w2 ⟨d,rfl⟩;rcases d.cases with⟨rfl,m⟩|⟨rfl,n⟩
     ·have p:=Kz m;clear m d E F G;go_wp2
      go_ret
      exact⟨Says.no fun h=>by obtain⟨i,R,e⟩:=p.o;exact (h.2.1 k r).2 i R (by rw[e,t.o]),c.trans l⟩
     ·have p:=Kz n;clear n d E F G;go_wp2
      go_roundw
      case rel=>
       refine⟨k+1,by omega,by go_num,l,fun j A=>?_⟩;by_cases e:j=k
       ·subst e;exact⟨by rw[<-t.o];exact Q.o,fun S T h=>p.o ⟨S,T,by rw[h,t.o]⟩⟩
       ·exact a_ B j (by omega)
      case measure=>simp[intOf];omega
    ·have p:=Kz n;clear n d a D;go_wp2
     go_ret
     exact⟨Says.no fun h=>p.o (by rw[t.o];exact (h.2.1 k r).1),c.trans l⟩
   ·obtain⟨F,G⟩:=a.rules;have M:Hid (qJ s.asks):=fun j A=>a_ B j (by omega)
    clear B;go_wp2
    ·go_ret
     exact⟨(Says.dec _).congr ⟨fun h=>⟨by omega,M.out,by omega⟩,fun h=>by have:=h.2.2;omega⟩,c.trans a⟩
    ·go_ret
     exact⟨(Says.dec _).congr ⟨fun h=>⟨by omega,M.out,by omega⟩,fun h=>by have:=h.2.2;omega⟩,c.trans a⟩
    all_goals
     go_ret
     exact⟨Says.no fun h=>by have:=h.2.2;omega,c.trans a⟩
 ·go_enter func236,ntmps236
  go_wp2
  go_ret
  exact⟨Says.no fun h=>by have:=h.1;omega,c⟩
def I_(s:Xj)(n:Int):Prop:=s.cases.length<=5/\ug s n/\(0<=s.els/\s.els<n)/\(-1<=s.fall/\s.fall<n)
theorem xk(w:LP)(s:Xj)(p i:LM)(q r:Nat)(n:Int)(A:s.Fits)(L:1<=n/\n<=20)(M:kv w i s.cases):
  Calls prog 237 #[.agg #[.slice p s.asks.length q,.int .i64 s.on,.slice i s.cases.length r,.int .i64 s.els,.int .i64 s.fall,.bool s.fin,.bool s.bad,.string s.give],.int .i64 n] w fun e w'=>Says e (I_ s n)/\K_ w w':=by
 have N:=A.cases;unfold maxLen at N;obtain⟨T,U⟩:=L;have c:K_ w (w.alloc (.cells #[.slice p s.asks.length q,.int .i64 s.on,.slice i s.cases.length r,.int .i64 s.els,.int .i64 s.fall,.bool s.fin,.bool s.bad,.string s.give] 233)):=ag _ _;by_cases V:(s.cases.length:Int)<=5
 ·go_enter func237,ntmps237
  go_wp2
  go_loopw [16] (fun t wr=>∃k:Nat,k<=s.cases.length/\t= .int .i64 k/\K_ (w.alloc (.cells #[.slice p s.asks.length q,.int .i64 s.on,.slice i s.cases.length r,.int .i64 s.els,.int .i64 s.fall,.bool s.fin,.bool s.bad,.string s.give] 233)) wr/\∀j,j<k->dR s n j) (fun t _=>s.cases.length-(intOf t).toNat)
  case atStart=>exact⟨0,JR _,rfl,K_.refl _,fun j v=>aT v⟩
  case round=>
   obtain⟨k,W,rfl,a,B⟩:=hrel;have x:=Kz B;clear B;have O:=a.size;simp only[KR] at O;by_cases d:k<s.cases.length
   ·obtain⟨b,o,rfl,X,l⟩:=(M.kept c).kept a k d;have C:(s.cases.getD k bK.zero).text.size<=maxLen:=(A.dh _ (by simp[List.getD,d])).1;obtain⟨f,y⟩:=aj (s.cases.getD k bK.zero);rw[<-y] at l C;have m:=Kz y;clear y;unfold maxLen at C;have P:=l 0 _ rfl;have Y:=l 1 _ rfl;simp only[La] at P;clear l;by_cases Z:(f.text.size:Int)<=200
    ·by_cases d2:0<=f.goto
     ·cases D:decide (f.goto<n)
      ·have Q:n<=f.goto:=by simpa using D
       go_wp2
       go_ret
       exact⟨Says.no fun h=>by have:=h.2.1 k d;unfold dR at this;rw[<-m.o] at this;obtain⟨E,F,G⟩:=this;omega,c.trans (a.alloc _)⟩
      ·have Q:f.goto<n:=by simpa using D
       go_wp2
       go_roundw
       case rel=>
        refine⟨k+1,by omega,by go_num,a.alloc _,fun j v=>?_⟩;by_cases e:j=k
        ·subst e;unfold dR;rw[<-m.o];exact⟨by omega,by omega,by omega⟩
        ·exact a_ x j (by omega)
       case measure=>simp[intOf];omega
     ·go_wp2
      go_ret
      exact⟨Says.no fun h=>by have:=h.2.1 k d;unfold dR at this;rw[<-m.o] at this;obtain⟨E,F,G⟩:=this;omega,c.trans (a.alloc _)⟩
    ·go_wp2
     go_ret
     exact⟨Says.no fun h=>by have:=h.2.1 k d;unfold dR at this;rw[<-m.o] at this;obtain⟨E,F,G⟩:=this;omega,c.trans (a.alloc _)⟩
   ·obtain⟨a0,a1⟩:=a.rules;have H:Hid (ug s n):=fun j v=>a_ x j (by omega)
    clear x;by_cases b1:0<=s.els
    ·cases I:decide (s.els<n)
     ·have R:n<=s.els:=by simpa using I
      go_wp2
      go_ret
      exact⟨Says.no fun h=>by have:=h.2.2;omega,c.trans a⟩
     ·have R:s.els<n:=by simpa using I
      cases J:(s.fall == -1)
      ·by_cases b4:0<=s.fall
       ·cases K:decide (s.fall<n)
        ·have S:n<=s.fall:=by simpa using K
         go_wp2
         go_ret
         exact⟨Says.no fun h=>by have:=h.2.2;omega,c.trans a⟩
        ·have S:s.fall<n:=by simpa using K
         go_wp2
         go_ret
         exact⟨Says.yes ⟨by omega,H.out,⟨by omega,by omega⟩,⟨by omega,by omega⟩⟩,c.trans a⟩
       ·go_wp2
        go_ret
        exact⟨Says.no fun h=>by have:=h.2.2;simp at J;omega,c.trans a⟩
      ·go_wp2
       go_ret
       exact⟨Says.yes ⟨by omega,H.out,⟨by omega,by omega⟩,by simp at J;omega⟩,c.trans a⟩
    ·go_wp2
     go_ret
     exact⟨Says.no fun h=>by have:=h.2.2;omega,c.trans a⟩
 ·go_enter func237,ntmps237
  go_wp2
  go_ret
  exact⟨Says.no fun h=>by have:=h.1;omega,c⟩
theorem dX :∀(x y z:List UInt8),Op.bytesLess x y=true->Op.bytesLess y z=true->Op.bytesLess x z=true
 | [],[],_,h,_=>by simp[Op.bytesLess] at h
 | [],_ :: _,[],_,h=>by simp[Op.bytesLess] at h
 | [],_ :: _,_ :: _,_,_=>by simp[Op.bytesLess]
 | _ :: _,[],_,h,_=>by simp[Op.bytesLess] at h
 | _ :: _,_ :: _,[],_,h=>by simp[Op.bytesLess] at h
 | a :: x,b :: y,c :: z,e,d=>by
  have f:=dX x y z;simp only[Op.bytesLess,Bool.or_eq_true,Bool.and_eq_true,LC,beq_iff_eq] at e d⊢;rcases e with e|⟨rfl,e⟩
  ·rcases d with d|⟨rfl,d⟩
   ·exact .inl (UInt8.lt_trans e d)
   ·exact .inl e
  ·rcases d with d|⟨rfl,d⟩
   ·exact .inl d
   ·exact .inr ⟨rfl,f e d⟩
theorem dG :∀x:List UInt8,Op.bytesLess x x=false
 | []=>rfl
 | a :: x=>by
  have b:=dG x;simp[Op.bytesLess,b]
theorem pR :∀x y:List UInt8,Op.bytesLess x y=false->x≠y->Op.bytesLess y x=true
 | [],[],_,h=>Lv rfl h
 | [],_ :: _,h,_=>by simp[Op.bytesLess] at h
 | _ :: _,[],_,_=>rfl
 | a :: x,b :: y,h,hne=>by
  have f:=pR x y;simp only[Op.bytesLess,Bool.or_eq_false_iff,decide_eq_false_iff_not,Bool.and_eq_false_iff,beq_eq_false_iff_ne] at h;simp only[Op.bytesLess,Bool.or_eq_true,Bool.and_eq_true,LC,beq_iff_eq];by_cases e:a=b
  ·subst e
   right
   refine⟨rfl,f ?_ (fun e=>hne (by rw[e]))⟩;rcases h.2 with c | c
   ·exact Lv rfl c
   ·exact c
  ·left
   have d:=h.1;rw[UInt8.not_lt] at d;exact UInt8.lt_of_le_of_ne d (fun i=>e i.symm)
def nameAt(l:List Qq)(i:Nat):List UInt8:=(l.getD i Qq.zero).name.toList
def fE(l:List Qq):Prop:=∀i j,i<j->j<l.length->Op.bytesLess (nameAt l i) (nameAt l j)=true
theorem Bf{l:List Qq}(h:∀i,i+1<l.length->Op.bytesLess (nameAt l i) (nameAt l (i+1))=true):fE l:=by
 intro i j b a
 induction j with
 | zero=>omega
 | succ j ih=>
  by_cases e:i=j
  ·subst e;exact h i a
  ·exact dX _ _ _ (ih (by omega) (by omega)) (h j a)
structure Place (l:List Qq) (key:List UInt8) (p:Nat):Prop where
 le:p<=l.length
 before:∀j,j<p->Op.bytesLess (nameAt l j) key=true
 behind:∀j,p<=j->j<l.length->Op.bytesLess (nameAt l j) key=false
variable {p : Nat}
theorem Place.only{l:List Qq}{a:List UInt8}{j:Nat}(c:fE l)(h:Place l a p)(d:j<l.length)(e:nameAt l j=a):j=p:=by
 by_cases f:j<p
 ·have:=h.before j f;rw[e,dG] at this;cases this
 ·by_cases i:p<j
  ·have b:=c p j i d;rw[e] at b;have:=h.behind p (JP _) (by omega);rw[b] at this;cases this
  ·omega
theorem kP(w:LP)(a:LM)(K:Nat)(l:List LK)(L:l.length<=maxLen)(M:∀s∈l,s.size<=maxLen)(p:Strs w a l):
  Calls prog 84 #[.slice a l.length K] w fun e w'=>Says e (qJ l)/\K_ w w':=by
 unfold maxLen at L;go_enter func84,ntmps84
 go_wp2
 go_loopw [3] (fun r wr=>∃k:Nat,k<=l.length/\r= .int .i64 k/\K_ w wr/\∀j,j<k->iM (l.getD j ByteArray.empty)/\∀m,m<j->l.getD m ByteArray.empty≠l.getD j ByteArray.empty) (fun r _=>l.length-(intOf r).toNat)
 case atStart=>exact⟨0,JR _,rfl,K_.refl _,fun j c=>aT c⟩
 case round=>
  obtain⟨k,U,rfl,d,A⟩:=hrel;have B:=Kz A;clear A;by_cases f:k<l.length
  ·obtain⟨b,o,rfl,V,C⟩:=p.kept d k f;have D:(l.getD k ByteArray.empty).size<=maxLen:=M _ (by simp[List.getD,f]);obtain⟨s,v⟩:=aj (l.getD k ByteArray.empty);rw[<-v] at C D;have n:=Kz v;clear v;go_wp2_with fail
   refine (mr _ s D).mono ?_;rintro e w1 ⟨E,rfl⟩;rcases E.cases with⟨rfl,F⟩|⟨rfl,N⟩
   ·have O:=Kz F;clear F E;go_wp2
    clear C;go_loopw [4] (fun m wr=>∃q:Nat,q<=k/\m= .int .i64 q/\K_ w wr/\∀t,t<q->l.getD t ByteArray.empty≠s) (fun m _=>k-(intOf m).toNat)
    case atStart=>exact⟨0,JR _,rfl,d,fun j c=>aT c⟩
    case round=>
     obtain⟨q,W,rfl,h,G⟩:=hrel;have H:=Kz G;clear G d;by_cases P:q<k
     ·obtain⟨Q,R,i,X,S⟩:=p.kept h k f;simp only[KT,LG,and_true] at i;obtain⟨rfl,rfl⟩:=i;obtain⟨Q,R,i,Y,T⟩:=p.kept h q (by omega);simp only[KT,LG,and_true] at i;obtain⟨rfl,rfl⟩:=i;rw[<-n.o] at S;obtain⟨t,x⟩:=aj (l.getD q ByteArray.empty);rw[<-x] at T;have I:=Kz x;clear x;cases J:(t.toList == s.toList)
      ·go_wp2
       go_region
       all_goals
        go_wp2
        go_roundw
        case rel=>
         refine⟨q+1,by omega,by go_num,by repeat (first | apply K_.drew | exact h),fun j c=>?_⟩;by_cases e:j=q
         ·subst e;rw[<-I.o];exact qO J
         ·exact a_ H j (by omega)
        case measure=>simp[intOf];omega
      ·go_wp2
       go_region
       all_goals
        go_wp2
        go_ret
        exact⟨Says.no fun y=>(y k f).2 q P (by rw[<-I.o,<-n.o];exact oo.1 J),by repeat (first | apply K_.drew | exact h)⟩
     ·go_wp2
      go_roundw
      case rel=>
       refine⟨k+1,by omega,by go_num,h,fun j c=>?_⟩;by_cases e:j=k
       ·subst e;rw[<-n.o];exact⟨O.o,fun m Z=>a_ H m (by omega)⟩
       ·exact a_ B j (by omega)
      case measure=>simp[intOf];omega
   ·go_wp2
    go_ret
    exact⟨Says.no fun y=>N (by rw[n.o];exact (y k f).1),d⟩
  ·go_wp2
   go_ret
   exact⟨Says.yes fun j c=>a_ B j (by omega),d⟩
theorem Tryz.lY :(prog.info? 79).map (fun i=>(i.zero,i.size,i.bytes))=some (some (.agg #[.string ⟨#[]⟩,.int .i64 0,.slice none 0 0]),3,48):=by kernel_rfl
theorem Tryz.lq :(prog.info? 25).map (·.size)=some 1:=by kernel_rfl
structure Rd (w:LP) (rb:Nat) (a:LM) (cap:Nat) (bs:List UInt8) (p:Nat):Prop where
 row:aC w rb 90 2
 c0:w.cell? ⟨rb,0,none⟩=some (.slice a bs.length cap)
 c1:w.cell? ⟨rb,1,none⟩=some (.int .i64 (p:Int))
 bytes:∀i,i<bs.length->∃b o,a=some ⟨b,o,none⟩/\b≠rb/\b<w.heap.size/\w.cell? ⟨b,o+i,none⟩=some (.int .u8 ((bs.getD i 0).toNat:Int))
variable {bs : List UInt8} {cap rb : Nat}
theorem Rd.drewN(h:Rd w rb a cap bs p)(k:Nat):Rd (w.drewN k) rb a cap bs p:=
 ⟨h.row.block rfl,h.c0,h.c1,h.bytes⟩
theorem Jw(a:Nat)(h:a<1099511627776):bits .xor .i64 (a:Int) ((a:Int) / 64)= ((a ^^^ a / 64:Nat):Int)/\a ^^^ a / 64<1099511627776:=by
 have b:a ^^^ a / 64<2 ^ 40:=Nat.xor_lt_two_pow (by omega) (by omega);have d:((a:Int) / 64)= ((a / 64:Nat):Int):=by omega
 have c:(BitVec.ofInt 64 (a:Int)).toNat=a:=by
  rw[BitVec.ofInt_natCast,BitVec.toNat_ofNat];exact Nat.mod_eq_of_lt (by omega)
 have e:(BitVec.ofInt 64 ((a / 64:Nat):Int)).toNat=a / 64:=by
  rw[BitVec.ofInt_natCast,BitVec.toNat_ofNat];exact Nat.mod_eq_of_lt (by omega)
 refine⟨?_,by omega⟩;rw[d];show IntKind.i64.wrap ((BitVec.ofInt 64 (a:Int) ^^^ BitVec.ofInt 64 ((a / 64:Nat):Int)).toNat:Int)=_;rw[BitVec.toNat_xor,c,e];obtain⟨z,f⟩:=aj (a ^^^ a / 64);rw[<-f] at b⊢;simp[IntKind.wrap,IntKind.bits,IntKind.signed];omega
def GG(w w':LP)(rb:Nat)(a:LM)(cap:Nat)(bs:List UInt8)(p n:Nat)(e:Ending):Prop:=
 ∃v:Nat,e= .returned (.int .i64 (v:Int))/\v<=n-1/\Rd w' rb a cap bs (p+1)/\Xk rb (rb+1) w w'
theorem jO(w:LP)(c:Nat)(a:LM)(q:Nat)(b:List UInt8)(p n:Nat)(d:Rd w c a q b p)(W:p<=1000000)(Y:n<=100000)(a0:b.length<=2000):
  Calls prog 21 #[.pointer (some ⟨c,0,none⟩),.int .i64 (n:Int)] w fun e w'=>GG w w' c a q b p n e:=by
 have M:=d.c0;have c1:=d.c1;have zb:=d.row.lt;obtain⟨_,f1⟩:=d.row.row.at (i:=1) (by omega);have D:Rd (w.setCell ⟨c,1,none⟩ (.int .i64 ((p:Int)+1))) c a q b (p+1):=by
  refine⟨d.row.set _,by rw[Xx (by omega)];exact M,by rw[bG d.row.row (by omega)];rfl,fun i N=>?_⟩;obtain⟨r,o,e,k,s,t⟩:=d.bytes i N;exact⟨r,o,e,k,by rw[size_setCell];exact s,by rw[Kn _ _ _ _ (fun e=>k (congrArg Addr.block e).symm)];exact t⟩
 have f:=Kz D;have l:Xk c (c+1) w (w.setCell ⟨c,1,none⟩ (.int .i64 ((p:Int)+1))):=(Xk.refl _ _ _).setCell (by simp) (by simp) _;clear D;by_cases a1:(n:Int)<1
 ·go_enter func21,ntmps21
  go_wp2
  go_ret
  exact⟨0,rfl,JR _,f.o,l⟩
 ·by_cases E:b.length=0
  ·have O:((b.length:Int) == 0)=true:=by simp[E]
   go_enter func21,ntmps21
   go_wp2
   go_ret
   exact⟨0,rfl,JR _,f.o,l⟩
  ·have O:((b.length:Int) == 0)=false:=by simpa using E
   by_cases hk:(p:Int)<b.length
   ·obtain⟨r,o,rfl,k,s,t⟩:=f.o.bytes p (by omega);obtain⟨y,F⟩:=aj (b.getD p 0);rw[<-F] at t;have a2:=y.toNat_lt;clear F;go_enter func21,ntmps21
    go_wp2
    go_ret
    refine⟨y.toNat % n, ?_, ?_,f.o,l⟩
    ·simp
    ·have:=Nat.mod_lt y.toNat (by omega:0<n);omega
   ·obtain⟨h,v⟩:=aj (p % b.length);obtain⟨j,x⟩:=aj ((p*7+3) % b.length);obtain⟨m,A⟩:=aj (p / b.length);have P:h<b.length:=by rw[v];exact Nat.mod_lt _ (by omega)
    have Q:j<b.length:=by rw[x];exact Nat.mod_lt _ (by omega)
    have a3:m<=p:=by rw[A];exact Nat.div_le_self _ _
    have e1:(p:Int) % (b.length:Int)= (h:Int):=by rw[v];omega
    have e2:((p:Int)*7+3) % (b.length:Int)= (j:Int):=by rw[x];push_cast;rfl
    have e3:(p:Int) / (b.length:Int)= (m:Int):=by rw[A];push_cast;rfl
    obtain⟨r,o,rfl,k,s,R⟩:=f.o.bytes h P;obtain⟨b',o',G,_,_,S⟩:=f.o.bytes j Q;simp only[KT,LG,and_true] at G;obtain⟨rfl,rfl⟩:=G;obtain⟨B,H⟩:∃y,y=b.getD h 0:=⟨_,rfl⟩;obtain⟨C,I⟩:∃y,y=b.getD j 0:=⟨_,rfl⟩;rw[<-H] at R;rw[<-I] at S;have a4:=B.toNat_lt;have a5:=C.toNat_lt;clear v x A H I;have i1:(h:Int)<(b.length:Int):=by omega
    have i2:(j:Int)<(b.length:Int):=by omega
    go_enter func21,ntmps21
    go_wp2
    go_quiet (fail)
    obtain⟨X,J⟩:∃X:Nat,X=B.toNat*131+C.toNat*1117+p*29+m*53:=⟨_,rfl⟩;have K:(B.toNat:Int)*131+ (C.toNat:Int)*1117+ (p:Int)*29+ (m:Int)*53= (X:Int):=by rw[J];push_cast;rfl
    rw[K];have T:X<1099511627776:=by omega
    obtain⟨U,V⟩:=Jw X T;obtain⟨Z,L⟩:=aj (X ^^^ X / 64);rw[<-L] at U V;clear L J K;go_wp2
    go_ret
    refine⟨Z % n, ?_, ?_,f.o.drewN nq,l.drewN nq⟩
    ·simp
    ·have:=Nat.mod_lt Z (by omega:0<n);omega
def BytesAt(w:LP)(a:LM)(bs:List UInt8):Prop:=
 ∀i,i<bs.length->∃b o,a=some ⟨b,o,none⟩/\b<w.heap.size/\w.cell? ⟨b,o+i,none⟩=some (.int .u8 ((bs.getD i 0).toNat:Int))
theorem BytesAt.take(h:BytesAt w a bs)(n:Nat):BytesAt w a (bs.take n):=by
 intro i c;obtain⟨b,o,e,d,f⟩:=h i (by simp at c;omega);refine⟨b,o,e,d, ?_⟩;rw[f];have j:i<n:=by simp at c;omega
 simp[List.getD_eq_getElem?_getD,j]
theorem Rd.made(b:Nat)(h:BytesAt w a bs):
  Rd (w.alloc (.cells #[.slice a bs.length b,.int .i64 0] 90)) w.heap.size a b bs 0:=by
 refine⟨aC.made w _ _, ?_, ?_,fun i d=>?_⟩
 ·rw[World.cell?_alloc_mark];rfl
 ·rw[World.cell?_alloc_mark];rfl
 ·obtain⟨f,o,e,c,j⟩:=h i d;exact⟨f,o,e,by omega,JQ c (ag w _).size,by rw[(ag w _).cell c];exact j⟩
def Jm(w w':LP)(a:LM)(cap:Nat)(bs:List UInt8)(e:Ending):Prop:=
 ∃rb,e= .returned (.pointer (some ⟨rb,0,none⟩))/\w.heap.size<=rb/\Rd w' rb a cap (bs.take 2000) 0/\K_ w w'
theorem Fv(w:LP)(a:LM)(c:Nat)(b:List UInt8)(h:BytesAt w a b)(i:b.length<=c)(j:b.length<=100000000):
  Calls prog 20 #[.slice a b.length c] w fun e w'=>Jm w w' a c b e:=by
 by_cases k:(2000:Int)<b.length
 ·go_enter func20,ntmps20
  go_wp2
  go_ret
  have f:(b.take 2000).length=2000:=by simp;omega
  have d:=Rd.made c (h.take 2000);rw[f] at d;exact⟨w.heap.size,rfl,JP _,d,ag w _⟩
 ·go_enter func20,ntmps20
  go_wp2
  go_ret
  have f:b.take 2000=b:=KJ (by omega);have d:=Rd.made c h;exact⟨w.heap.size,rfl,JP _,by rw[f];exact d,ag w _⟩
def Ae(w w':LP)(e:Ending):Prop:=
 ∃s:LK,e= .returned (.string s)/\s.size<=2/\K_ w w'
def jW(i:Nat):LK:=⟨#[UInt8.ofNat (97+i)]⟩
theorem CG{i j:Nat}(e:i<26)(f:j<26)(h:jW i=jW j):i=j:=by
 have b:UInt8.ofNat (97+i)=UInt8.ofNat (97+j):=by
  have:=congrArg (fun x:LK=>x.data.toList) h;simpa[jW] using this
 have d:=congrArg UInt8.toNat b;simp only[UInt8.toNat_ofNat'] at d;omega
theorem Et :∀q,q<26->((⟨#[97,98,99,100,101,102,103,104,105,106,107,108,109,110,111,112,113,114,115,116,117,118,119,120,121,122]⟩:LK).extract q 26).extract 0 1=jW q:=by decide
theorem uE(w:LP)(i:Nat)(D:i<=100000):
  Calls prog 24 #[.int .i64 (i:Int)] w fun e w'=>∃s:LK,e= .returned (.string s)/\s.size<=2/\(i<26->s=jW i)/\K_ w w':=by
 obtain⟨q,n⟩:=aj (i % 26);obtain⟨d,p⟩:∃q,q=i / 26 % 3:=⟨_,rfl⟩;obtain⟨j,r⟩:=aj (i / 26);have E:(i:Int).tmod 26= (q:Int):=by rw[Int.tmod_eq_emod_of_nonneg (by omega)];omega
 have F:(i:Int).tdiv 26= (j:Int):=by rw[Int.tdiv_eq_ediv_of_nonneg (by omega)];omega
 have G:(j:Int).tmod 3= (d:Int):=by rw[Int.tmod_eq_emod_of_nonneg (by omega)];omega
 have t:q<26:=by omega
 have H:d<3:=by omega
 have I:IntKind.i64.wrap (j:Int)= (j:Int):=by simp[IntKind.wrap,IntKind.bits,IntKind.signed];omega
 have v:Hid (i<26->d=0/\q=i):=fun k=>by omega
 clear n p r;obtain⟨b,J,x,l⟩:∃b:LK,(∀w:LP,(Instr.slice 9 (.string ⟨#[97,98,99,100,101,102,103,104,105,106,107,108,109,110,111,112,113,114,115,116,117,118,119,120,121,122]⟩) (some (.int .i64 (q:Int))) none none).run prog w= .ok (.string b) w)/\(1:Int)<=b.size/\b= (⟨#[97,98,99,100,101,102,103,104,105,106,107,108,109,110,111,112,113,114,115,116,117,118,119,120,121,122]⟩:LK).extract q 26:=
  ⟨_,fun w=>run_slice_string_l w 9 ⟨#[97,98,99,100,101,102,103,104,105,106,107,108,109,110,111,112,113,114,115,116,117,118,119,120,121,122]⟩ underlying9 .i64 (q:Int) (by omega) (by show (q:Int)<=((26:Nat):Int);omega),by
   rw[ByteArray.size_extract];show (1:Int)<=((min 26 26-(q:Int).toNat:Nat):Int);omega,rfl⟩
 obtain⟨h,L,y,m⟩:∃h:LK,(∀w:LP,(Instr.slice 9 (.string b) none (some (.int .i64 1)) none).run prog w= .ok (.string h) w)/\h.size=1/\h=b.extract 0 1:=
  ⟨_,fun w=>run_slice_string_h w 9 b underlying9 .i64 1 (by omega) x,by
   rw[ByteArray.size_extract];show min 1 b.size-0=1;omega,rfl⟩
 have A:Hid (h=jW q):=by rw[m,l];exact Et q t
 clear l m;go_enter func24,ntmps24
 go_wp2
 refine Qx.region (by kernel_rfl) (fun w'=>K_ w w') 11 (aL w) (fun f=>?_);refine af 0 f ?_;refine bJ 1 (.int .i64 (q:Int)) f ?_ ?_
 ·intro u c;try dsimp only at c
  go_simp
  try with_reducible rfl
 try simp only[upP]
 refine bJ 2 (.string b) f ?_ ?_
 ·intro u c;try dsimp only at c
  go_simp
  try with_reducible rfl
 try simp only[upP]
 refine bJ 3 (.string h) f ?_ ?_
 ·intro u c;try dsimp only at c
  go_simp
  try with_reducible rfl
 try simp only[upP]
 refine af 5 f ?_;refine bJ 6 (.int .i64 (j:Int)) f ?_ ?_
 ·intro u c;try dsimp only at c
  go_simp
  try with_reducible rfl
 try simp only[upP]
 refine bJ 7 (.int .i64 (d:Int)) f ?_ ?_
 ·intro u c;try dsimp only at c
  go_simp
  try with_reducible rfl
 try simp only[upP]
 refine ak 4 (fun K a=>?_);go_simp
 refine ae a (fun _=>(by repeat (first | apply K_.drew | apply K_.alloc | exact K_.refl _ | assumption))) ?_;clear a K;have B:d=0\/d=1\/d=2:=by omega
 obtain rfl|rfl|rfl:=B
 all_goals
  refine ak 8 (fun K a=>?_);go_simp
  refine ae a (fun _=>(by repeat (first | apply K_.drew | apply K_.alloc | exact K_.refl _ | assumption))) ?_;clear a K;refine ak 9 (fun K a=>?_);go_simp
  refine ae a (fun _=>(by repeat (first | apply K_.drew | apply K_.alloc | exact K_.refl _ | assumption))) ?_;clear a K;refine ak 10 (fun K a=>?_);go_simp
  refine ae a (fun _=>(by repeat (first | apply K_.drew | apply K_.alloc | exact K_.refl _ | assumption))) ?_;clear a K;refine ah 11 (fun K a=>?_);go_simp
  refine ae a (fun k=>Lv rfl k) ?_;clear a K;refine aB ?_;go_wp2
  go_ret
  exact⟨_,rfl,by rw[ByteArray.size_append,y];decide,fun k=>(by
   obtain⟨M,C⟩:=v.o k
   first
    | (exfalso;omega)
    | (rw[A.o,C];exact ByteArray.ext (by simp[jW]))),(ag w _).drew⟩
theorem jG(w:LP)(i:Nat)(a:i<=100000):
  Calls prog 24 #[.int .i64 (i:Int)] w fun e w'=>Ae w w' e:=
 (uE w i a).mono fun _ _ ⟨s,c,d,_,f⟩=>⟨s,c,d,f⟩
variable {w' : LP}
theorem Rd.kept(h:Rd w rb a cap bs p)(k:K_ w w'):Rd w' rb a cap bs p:=by
 refine⟨h.row.kept k,by rw[k.cell h.row.lt];exact h.c0,by rw[k.cell h.row.lt];exact h.c1,fun i d=>?_⟩;obtain⟨b,o,e,f,c,j⟩:=h.bytes i d;exact⟨b,o,e,f,JQ c k.size,by rw[k.cell c];exact j⟩
def IB(w w':LP)(rb:Nat)(a:LM)(cap:Nat)(bs:List UInt8)(p t m:Nat)(e:Ending):Prop:=
 ∃(s:LK) (p':Nat),e= .returned (.string s)/\s.size<=m/\p<=p'/\p'<=p+t/\Rd w' rb a cap bs p'/\Xk rb (rb+1) w w'
theorem aK(w:LP)(b:Nat)(a:LM)(d:Nat)(c:List UInt8)(p:Nat)(m:Int)(n:Nat)(f:m= (n:Int))(h:Rd w b a d c p)(i:p<=1000000)(j:n<=100000)(k:c.length<=2000):
  Calls prog 21 #[.pointer (some ⟨b,0,none⟩),.int .i64 m] w fun e w'=>GG w w' b a d c p n e:=by
 rw[f];exact jO w b a d c p n h i j k
theorem Xk.eP{d e:Nat}{a b c:LP}(h:Xk d e a b)(k:K_ b c):Xk d e a c:=h.trans (.aF k)
theorem Hq(w:LP)(d:Nat)(a:LM)(k:Nat)(h:List UInt8)(p i n:Nat)(B:Rd w d a k h p)(R:p<=900000)(M:i<=100000)(C:n<=100000)(D:h.length<=2000):
  Calls prog 159 #[.pointer (some ⟨d,0,none⟩),.int .i64 (i:Int),.int .i64 (n:Int)] w fun e w'=>IB w w' d a k h p 2 4 e:=by
 go_enter func159,ntmps159
 go_wp2_with fail
 refine (aK _ d a k h p _ 12 rfl B (by omega) (by omega) D).mono ?_;rintro e w1 ⟨v,rfl,x,E,F⟩;have⟨G,H⟩:=aH E F;clear E F B;by_cases r:v=0
 ·have N:((v:Int) == 0)=true:=by simp[r]
  clear x;go_wp2
  go_ret
  exact⟨_,p+1,rfl,by decide,by omega,by omega,G.o,H.o⟩
 ·have N:((v:Int) == 0)=false:=by simpa using r
  have I:∀t:Nat,t<=100000->Calls prog 21 #[.pointer (some ⟨d,0,none⟩),.int .i64 (t:Int)] w1 fun e w'=>∃q:Nat,e= .returned (.int .i64 (q:Int))/\q<=100000/\Rd w' d a k h (p+2)/\Xk d (d+1) w w':=by
   intro t O;refine (jO _ d a k h (p+1) t G.o (by omega) O D).mono ?_;rintro e w2 ⟨q,rfl,j,b,c⟩;exact⟨q,rfl,by omega,b,H.o.trans c⟩
  have y:=Kz I;clear I;by_cases A:v=1
  ·have P:((v:Int) == 1)=true:=by simp[A]
   clear x r A;go_wp2_with fail
   refine (y.o n C).mono ?_;rintro e w2 ⟨q,rfl,j,b,c⟩;have⟨l,m⟩:=aH b c;clear b c;go_wp2_with fail
   refine (jG _ q j).mono ?_;rintro e J ⟨s,rfl,K,f⟩;go_wp2
   go_ret
   exact⟨s,p+2,rfl,by omega,by omega,by omega,l.o.kept f,m.o.eP f⟩
  ·have P:((v:Int) == 1)=false:=by simp;omega
   clear x r A;by_cases L:i=0
   ·have Q:((i:Int) == 0)=true:=by simp[L]
    go_wp2_with fail
    refine (y.o n C).mono ?_;rintro e w2 ⟨q,rfl,j,b,c⟩;have⟨l,m⟩:=aH b c;clear b c;go_wp2_with fail
    refine (jG _ q j).mono ?_;rintro e J ⟨s,rfl,K,f⟩;go_wp2
    go_ret
    exact⟨s,p+2,rfl,by omega,by omega,by omega,l.o.kept f,m.o.eP f⟩
   ·have Q:((i:Int) == 0)=false:=by simpa using L
    go_wp2_with fail
    refine (y.o i M).mono ?_;rintro e w2 ⟨q,rfl,j,b,c⟩;have⟨l,m⟩:=aH b c;clear b c;go_wp2_with fail
    refine (jG _ q j).mono ?_;rintro e J ⟨s,rfl,K,f⟩;go_wp2
    go_ret
    exact⟨s,p+2,rfl,by omega,by omega,by omega,l.o.kept f,m.o.eP f⟩
theorem AL(w:LP)(s:LK)(n:Nat)(x:n<=1000)(A:s.size<=100):
  Calls prog 96 #[.string s,.int .i64 (n:Int)] w fun e w'=>(∃t:LK,e= .returned (.string t)/\t.size<=n*s.size)/\w'=w:=by
 obtain⟨B,c⟩:=aj (n*s.size);have F:B<=100000:=by rw[c];exact JS (Nat.mul_le_mul x A) (by omega)
 rw[<-c];have l:=Kz c;clear c;go_enter func96,ntmps96
 go_wp2
 go_loop [0,1,5] (fun C y z=>∃(a o:LK) (m:Nat),C= .string a/\y= .int .i64 (m:Int)/\z= .string o/\m<=n/\o.size+m*a.size<=B/\(m=0\/a.size<=B)) (fun _ y _=>(intOf y).toNat)
 case atStart=>
  refine⟨s,_,n,rfl,rfl,rfl,JP _, ?_, ?_⟩
  ·have:=l.o;show 0+n*s.size<=B;omega
  ·by_cases f:n=0
   ·exact .inl f
   ·refine .inr ?_;rw[l.o];exact Nat.le_mul_of_pos_left _ (by omega)
 case round=>
  obtain⟨a,o,m,rfl,rfl,rfl,G,h,i⟩:=hrel;by_cases p:m=0
  ·have D:¬(0:Int)<(m:Int):=by omega
   have r:o.size<=B:=by omega
   clear h i;go_wp2
   go_ret
   exact⟨⟨o,rfl,r⟩,rfl⟩
  ·have D:(0:Int)<(m:Int):=by omega
   have H:a.size<=B:=by omega
   have r:o.size<=B:=by omega
   obtain⟨q,v⟩:=aj (m / 2);have I:(m:Int) / 2= (q:Int):=by omega
   have J:q<m:=by omega
   have d:q=0\/(a++a).size<=B:=by
    rw[ByteArray.size_append];by_cases f:q=0
    ·exact .inl f
    ·have:2*a.size<=m*a.size:=Nat.mul_le_mul_right _ (by omega);omega
   by_cases K:m % 2=1
   ·have E:(m:Int) % 2=1:=by omega
    have b:(o++a).size+q*(a++a).size<=B:=by
     rw[ByteArray.size_append,ByteArray.size_append];have:m*a.size=q*(a.size+a.size)+a.size:=by
      rw[show m=q+q+1 by omega,Nat.add_mul,Nat.add_mul,Nat.mul_add];omega
     omega
    have⟨j,k⟩:=aH b d;clear b d h i v p;go_wp2
    go_round
    case rel=>exact⟨a++a,o++a,q,rfl,by go_num,rfl,by omega,j.o,k.o⟩
    case measure=>simp[intOf];omega
   ·have E:(m:Int) % 2=0:=by omega
    have b:o.size+q*(a++a).size<=B:=by
     rw[ByteArray.size_append];have:m*a.size=q*(a.size+a.size):=by
      rw[show m=q+q by omega,Nat.add_mul,Nat.mul_add]
     omega
    have⟨j,k⟩:=aH b d;clear b d h i v p;go_wp2
    go_round
    case rel=>exact⟨a++a,o,q,rfl,by go_num,rfl,by omega,j.o,k.o⟩
    case measure=>simp[intOf];omega
def Jb(w w':LP)(m:Nat)(e:Ending):Prop:=∃s:LK,e= .returned (.string s)/\s.size<=m/\K_ w w'
theorem rQ(w:LP)(n:Nat)(b:n<10):Calls prog 127 #[.int .i64 (n:Int)] w fun e w'=>Jb w w' 1 e:=by
 have c:(n:Int)<10:=by omega
 have d:(convert 22 9 (.slice (some ⟨w.heap.size,0,none⟩) 1 1)).run prog (w.alloc (.cells #[.int .u8 (48+ (n:Int))] 5))= .ok (.string (strOfNums [48+ (n:Int)])) (w.alloc (.cells #[.int .u8 (48+ (n:Int))] 5)):=
  run_convert_bytes_arg (P:=prog) _ 22 5 underlying22 underlying5 w.heap.size 0 1 1 [48+ (n:Int)] rfl (fun i f=>by
   obtain rfl:i=0:=by omega
   rw[World.cell?_alloc_mark];rfl) 9 underlying9
 go_enter func127,ntmps127
 go_wp2
 go_ret
 exact⟨_,rfl,by rw[strOfNums_size];exact JP 1,ag w _⟩
theorem Gi(w:LP)(d:Nat)(a:LM)(h:Nat)(f:List UInt8)(p:Nat)(F:Rd w d a h f p)(T:p<=900000)(G:f.length<=2000):
  Calls prog 160 #[.pointer (some ⟨d,0,none⟩)] w fun e w'=>IB w w' d a h f p 2 31 e:=by
 go_enter func160,ntmps160
 go_wp2_with fail
 refine (aK _ d a h f p _ 10 rfl F (by omega) (by omega) G).mono ?_;rintro e w1 ⟨v,rfl,i,H,I⟩;have⟨x,y⟩:=aH H I;clear H I F;have J:∀(m:Int) (n:Nat),m= (n:Int)->n<=100000->Calls prog 21 #[.pointer (some ⟨d,0,none⟩),.int .i64 m] w1 fun e w'=>∃q:Nat,e= .returned (.int .i64 (q:Int))/\q<=n-1/\Rd w' d a h f (p+2)/\Xk d (d+1) w w':=by
  intro m n A M;refine (aK _ d a h f (p+1) m n A x.o (by omega) M G).mono ?_;rintro e w2 ⟨q,rfl,B,b,c⟩;exact⟨q,rfl,by omega,b,y.o.trans c⟩
 have C:=Kz J;clear J;by_cases j:v=0
 ·have N:((v:Int) == 0)=true:=by simp[j]
  clear i;go_wp2
  go_ret
  exact⟨_,p+1,rfl,by decide,by omega,by omega,x.o,y.o⟩
 have N:((v:Int) == 0)=false:=by simpa using j
 by_cases s:v=1
 ·have O:((v:Int) == 1)=true:=by simp[s]
  clear i;go_wp2
  go_ret
  exact⟨_,p+1,rfl,by decide,by omega,by omega,x.o,y.o⟩
 have O:((v:Int) == 1)=false:=by simp;omega
 by_cases t:v=3
 ·have P:((v:Int) == 3)=true:=by simp[t]
  clear i j s t;go_wp2_with fail
  refine (C.o _ 6 rfl (by omega)).mono ?_;rintro e w2 ⟨q,rfl,B,b,c⟩;have⟨k,l⟩:=aH b c;clear b c;go_wp2_with fail
  refine (jG _ q (by omega)).mono ?_;rintro e K ⟨D,rfl,Q,r⟩;go_wp2
  go_ret
  exact⟨_,p+2,rfl,by rw[ByteArray.size_append];show 6+D.size<=31;omega,by omega,by omega,k.o.kept r,l.o.eP r⟩
 have P:((v:Int) == 3)=false:=by simp;omega
 by_cases E:v=2
 ·have R:((v:Int) == 2)=true:=by simp[E]
  clear i j s E t;go_wp2_with fail
  refine (C.o _ 2 rfl (by omega)).mono ?_;rintro e w2 ⟨q,rfl,B,b,c⟩;have⟨k,l⟩:=aH b c;clear b c;obtain⟨m,A⟩:∃m:Nat,m=30-q:=⟨_,rfl⟩;have U:30-(q:Int)= (m:Int):=by omega
  have V:m<=30:=by omega
  clear A;go_wp2_with fail
  refine (AL _ ⟨#[103]⟩ m (by omega) (by decide)).mono ?_;rintro e K ⟨⟨S,rfl,L⟩,rfl⟩;have W:S.size<=30:=by
   have:(⟨#[103]⟩:LK).size=1:=rfl;rw[this] at L;omega
  clear L;go_wp2
  go_ret
  exact⟨_,p+2,rfl,by omega,by omega,by omega,k.o,l.o⟩
 have R:((v:Int) == 2)=false:=by simp;omega
 clear i j s E t;go_wp2_with fail
 refine (C.o _ 3 rfl (by omega)).mono ?_;rintro e w2 ⟨q,rfl,B,b,c⟩;have⟨k,l⟩:=aH b c;clear b c;go_wp2_with fail
 refine (rQ _ q (by omega)).mono ?_;rintro e K ⟨D,rfl,Q,r⟩;go_wp2
 go_ret
 exact⟨_,p+2,rfl,by rw[ByteArray.size_append];show 1+D.size<=31;omega,by omega,by omega,k.o.kept r,l.o.eP r⟩
theorem Tryz.d_ :(prog.info? 9).map (fun i=>(i.zero,i.size,i.bytes))=some (some (.string ByteArray.empty),1,16):=by kernel_rfl
theorem Tryz.oQ :(prog.info? 177).map (fun i=>(i.zero,i.size,i.bytes))=some (some (.agg #[.string ByteArray.empty,.int .i64 0]),2,24):=by kernel_rfl
theorem Tryz.jJ :(prog.info? 83).map (fun i=>(i.zero,i.size,i.bytes))=some (some (.agg #[.slice none 0 0,.int .i64 0,.slice none 0 0,.int .i64 0,.int .i64 0,.bool false,.bool false,.string ByteArray.empty]),8,96):=by kernel_rfl
theorem Tryz.g_ :(prog.info? 77).map (·.size)=some 2:=by kernel_rfl
theorem aN{P:Program}{e:TypeId}{z:LQ}{size b:Nat}(h:(P.info? e).map (fun i=>(i.zero,i.size,i.bytes))=some (some z,size,b)):∃i,P.info? e=some i/\i.zero=some z/\i.size=size/\i.bytes=b:=by
 obtain⟨i,d,a⟩:=Option.map_eq_some_iff.1 h;simp only[Prod.mk.injEq] at a;exact⟨i,d,a.1,a.2.1,a.2.2⟩
theorem uR(l:List LK):∀u∈l.map Value.string,u.oneCell'=true:=by
 intro u a;obtain⟨x,_,rfl⟩:=Ku.1 a
 rfl
variable {base n : Nat} {t : TypeId} {v : LQ}
theorem bg{l:List LK}(h:w.ownsRow base t 1 v n (l.map Value.string)):∃a b,v= .slice a l.length b/\l.length<=b/\fA w t a l:=by
 have d:n=l.length:=by have:=h.1;simp at this;omega
 subst d;rcases h.2 with⟨rfl,c⟩|⟨g,b,e,rfl,m,f,j,_,_,_⟩
 ·exact⟨none,0,by rw[c],by omega,.inl (LB c)⟩
 ·refine⟨_,b,rfl,j,.inr ⟨g,e,_,rfl,f,fun i k=>?_⟩⟩;have:=h.cells (g:=g) rfl i (.string (l.getD i ByteArray.empty)) (by simp[List.getD,k]);rw[KZ,KH] at this;exact this
def aY(l:List bK):List LQ:=(l.map bK.cells).flatten
theorem ib(l:List bK):(aY l).length=l.length*2:=by
 induction l with
 | nil=>rfl
 | cons c r ih=>simp only[aY,List.map_cons,List.flatten_cons,KS,KY] at ih⊢;rw[ih];simp[bK.cells];omega
theorem tN(l:List bK)(c:bK):aY (l++ [c])=aY l++c.cells:=by simp[aY]
theorem uP(l:List bK):∀u∈aY l,u.oneCell'=true:=by
 intro u a;simp only[aY,List.mem_flatten,Ku] at a;obtain⟨_,⟨c,_,rfl⟩,a⟩:=a;simp only[bK.cells,Lb,Lc,or_false] at a;rcases a with rfl | rfl <;> rfl
theorem kF :∀(l:List bK) (i j:Nat),i<l.length->j<2->(aY l)[i*2+j]? = ((l.getD i bK.zero).cells)[j]?
 | [],_,_,h,_=>aT h
 | c :: r,0,j,_,hj=>by
  have e:aY (c :: r)=c.cells++aY r:=rfl;rw[e,Nat.zero_mul,KH,Lh (by simpa[bK.cells] using hj)]
  rfl
 | c :: r,i+1,j,h,hj=>by
  have e:aY (c :: r)=c.cells++aY r:=rfl;have b:c.cells.length=2:=rfl;rw[e,Li (by rw[b];omega),b,show (i+1)*2+j-2=i*2+j by omega,kF r i j (by simpa using h) hj]
  rfl
theorem kM{l:List bK}(h:w.ownsRow base t 2 v n (aY l)):∃a b,v= .slice a l.length b/\nZ w t a l:=by
 have e:n=l.length:=by have:=h.1;rw[ib] at this;omega
 subst e;rcases h.2 with⟨rfl,c⟩|⟨g,b,f,rfl,q,k,r,_,_,_⟩
 ·exact⟨none,0,by rw[c],.inl (LB c)⟩
 ·refine⟨_,b,rfl,.inr ⟨g,f,_,rfl,k,fun i m j u d=>?_⟩⟩;have p:j<2:=by have:=(JW.1 d).1;simpa[bK.cells] using this
  have:=h.cells (g:=g) rfl (i*2+j) u (by rw[kF l i j m p];exact d);rw[KZ,KH] at this;exact this
theorem iL(s:Xj)(a:LM)(b:Nat)(c:LM)(d:Nat):∀u∈s.cells a b c d,u.oneCell'=true:=by
 intro u e;have:=Xj.one s a b c d;rw[Array.all_eq_true_iff_forall_mem] at this;exact this u (by simpa using e)
theorem Xk.sameKind(h:Xk rb (rb+1) w w')(d:Rd w rb a cap bs p):ay 90 w w':=by
 intro c i u j e b;obtain⟨k,f,_⟩:=d.row;have l:c≠rb:=by
  rintro rfl;rw[f] at b;simp only[KT,Obj.cells.injEq] at b;exact e b.2.1.symm
 rw[h.block c (aO b) (by omega)];exact b
theorem Xk.cell{a c:Nat}(h:Xk a c w w'){b o:Nat}(e:b<w.heap.size)(f:b<a\/c<=b):w'.cell? ⟨b,o,none⟩=w.cell? ⟨b,o,none⟩:=Ke (w:=w) (h.block b e f)
theorem aC.but{a c b:Nat}(h:aC w b t n)(k:Xk a c w w')(e:b<a\/c<=b):aC w' b t n:=h.block (k.block b h.lt e)
variable {x : Int}
theorem mH(h: -1000<=x/\x<=1000):In64 x:=by unfold In64;omega
def bK.Tiny(c:bK):Prop:=c.text.size<=300/\ -1000<=c.goto/\c.goto<=1000
structure Xj.TinyN (m:Nat) (s:Xj):Prop where
 asks:s.asks.length<=m
 dM:∀x∈s.asks,x.size<=300
 on: -1000<=s.on/\s.on<=1000
 cases:s.cases.length<=m
 dh:∀c∈s.cases,c.Tiny
 els:In64 s.els
 fall: -1000<=s.fall/\s.fall<=1000
 give:s.give.size<=300
variable {s : Xj}
theorem Xj.TinyN.fits{m:Nat}(h:s.TinyN m)(d:m<=1000):s.Fits:=by
 have:=h.asks;have:=h.cases;have:=h.on;have:=h.fall;have:=h.give;refine⟨?_,fun x b=>?_, ?_, ?_,fun c a=>⟨?_, ?_⟩, ?_, ?_, ?_⟩
 all_goals first | exact h.els | (unfold maxLen;omega) | (unfold In64;omega) | skip
 ·have:=h.dM x b;unfold maxLen;omega
 ·have:=(h.dh c a).1;unfold maxLen;omega
 ·have:=(h.dh c a).2;unfold In64;omega
abbrev Xj.Tiny (s:Xj):Prop:=Xj.TinyN 20 s
theorem Xj.TinyN.mono{m:Nat}(h:s.TinyN m)(b:m<=n):s.TinyN n:=⟨JS h.asks b,h.dM,h.on,JS h.cases b,h.dh,h.els,h.fall,h.give⟩
structure cZ (w:LP) (sb:Nat) (va vc:LQ) (s:Xj):Prop where
 row:aC w sb 83 8
 c0:w.cell? ⟨sb,0,none⟩=some va
 c1:w.cell? ⟨sb,1,none⟩=some (.int .i64 s.on)
 c2:w.cell? ⟨sb,2,none⟩=some vc
 c3:w.cell? ⟨sb,3,none⟩=some (.int .i64 s.els)
 c4:w.cell? ⟨sb,4,none⟩=some (.int .i64 s.fall)
 c5:w.cell? ⟨sb,5,none⟩=some (.bool s.fin)
 c6:w.cell? ⟨sb,6,none⟩=some (.bool s.bad)
 c7:w.cell? ⟨sb,7,none⟩=some (.string s.give)
variable {sb : Nat} {va vc : LQ}
theorem cZ.block(h:cZ w sb va vc s)(k:w'.heap[sb]? =w.heap[sb]?):cZ w' sb va vc s:=by
 have b:∀o,w'.cell? ⟨sb,o,none⟩=w.cell? ⟨sb,o,none⟩:=fun o=>Ke (w:=w) k
 exact⟨h.row.block k,(b _).trans h.c0,(b _).trans h.c1,(b _).trans h.c2,(b _).trans h.c3,(b _).trans h.c4,(b _).trans h.c5,(b _).trans h.c6,(b _).trans h.c7⟩
theorem cZ.kept(h:cZ w sb va vc s)(k:K_ w w'):cZ w' sb va vc s:=h.block (k.block sb h.row.lt)
theorem cZ.cell(h:cZ w sb va vc s){o:Nat}(b:o<8):(∃v,w.cell? ⟨sb,o,none⟩=some v)/\w.frozen? ⟨sb,o,none⟩=false:=h.row.row.at b
theorem cZ.made(w:LP)(els fall:Int):cZ (w.alloc (.cells #[.slice none 0 0,.int .i64 0,.slice none 0 0,.int .i64 els,.int .i64 fall,.bool false,.bool false,.string ⟨#[]⟩] 83)) w.heap.size (.slice none 0 0) (.slice none 0 0) ⟨[],0,[],els,fall,false,false,⟨#[]⟩⟩:=by
 have d:=Xz w #[.slice none 0 0,.int .i64 0,.slice none 0 0,.int .i64 els,.int .i64 fall,.bool false,.bool false,.string ⟨#[]⟩] 83;have a:∀j v,(#[.slice none 0 0,.int .i64 0,.slice none 0 0,.int .i64 els,.int .i64 fall,.bool false,.bool false,.string ⟨#[]⟩]:Array LQ).toList[j]? =some v->(w.alloc (.cells #[.slice none 0 0,.int .i64 0,.slice none 0 0,.int .i64 els,.int .i64 fall,.bool false,.bool false,.string ⟨#[]⟩] 83)).cell? ⟨w.heap.size,j,none⟩=some v:=fun j v e=>by
  have:=d j v e;rw[KH] at this;exact this
 exact⟨aC.made w _ _,a 0 _ rfl,a 1 _ rfl,a 2 _ rfl,a 3 _ rfl,a 4 _ rfl,a 5 _ rfl,a 6 _ rfl,a 7 _ rfl⟩
theorem cZ.on(h:cZ w sb va vc s)(x:Int):cZ (w.setCell ⟨sb,1,none⟩ (.int .i64 x)) sb va vc {s with on:=x}:=
 ⟨h.row.set _,(Xx (by omega) _).trans h.c0,bG h.row.row (by omega) _,(Xx (by omega) _).trans h.c2,(Xx (by omega) _).trans h.c3,(Xx (by omega) _).trans h.c4,(Xx (by omega) _).trans h.c5,(Xx (by omega) _).trans h.c6,(Xx (by omega) _).trans h.c7⟩
theorem cZ.els(h:cZ w sb va vc s)(x:Int):cZ (w.setCell ⟨sb,3,none⟩ (.int .i64 x)) sb va vc {s with els:=x}:=
 ⟨h.row.set _,(Xx (by omega) _).trans h.c0,(Xx (by omega) _).trans h.c1,(Xx (by omega) _).trans h.c2,bG h.row.row (by omega) _,(Xx (by omega) _).trans h.c4,(Xx (by omega) _).trans h.c5,(Xx (by omega) _).trans h.c6,(Xx (by omega) _).trans h.c7⟩
theorem cZ.fall(h:cZ w sb va vc s)(x:Int):cZ (w.setCell ⟨sb,4,none⟩ (.int .i64 x)) sb va vc {s with fall:=x}:=
 ⟨h.row.set _,(Xx (by omega) _).trans h.c0,(Xx (by omega) _).trans h.c1,(Xx (by omega) _).trans h.c2,(Xx (by omega) _).trans h.c3,bG h.row.row (by omega) _,(Xx (by omega) _).trans h.c5,(Xx (by omega) _).trans h.c6,(Xx (by omega) _).trans h.c7⟩
theorem cZ.fin(h:cZ w sb va vc s)(x:Bool):cZ (w.setCell ⟨sb,5,none⟩ (.bool x)) sb va vc {s with fin:=x}:=
 ⟨h.row.set _,(Xx (by omega) _).trans h.c0,(Xx (by omega) _).trans h.c1,(Xx (by omega) _).trans h.c2,(Xx (by omega) _).trans h.c3,(Xx (by omega) _).trans h.c4,bG h.row.row (by omega) _,(Xx (by omega) _).trans h.c6,(Xx (by omega) _).trans h.c7⟩
theorem cZ.bad(h:cZ w sb va vc s)(x:Bool):cZ (w.setCell ⟨sb,6,none⟩ (.bool x)) sb va vc {s with bad:=x}:=
 ⟨h.row.set _,(Xx (by omega) _).trans h.c0,(Xx (by omega) _).trans h.c1,(Xx (by omega) _).trans h.c2,(Xx (by omega) _).trans h.c3,(Xx (by omega) _).trans h.c4,(Xx (by omega) _).trans h.c5,bG h.row.row (by omega) _,(Xx (by omega) _).trans h.c7⟩
theorem cZ.give(h:cZ w sb va vc s)(x:LK):cZ (w.setCell ⟨sb,7,none⟩ (.string x)) sb va vc {s with give:=x}:=
 ⟨h.row.set _,(Xx (by omega) _).trans h.c0,(Xx (by omega) _).trans h.c1,(Xx (by omega) _).trans h.c2,(Xx (by omega) _).trans h.c3,(Xx (by omega) _).trans h.c4,(Xx (by omega) _).trans h.c5,(Xx (by omega) _).trans h.c6,bG h.row.row (by omega) _⟩
theorem cZ.asks(h:cZ w sb va vc s)(v:LQ)(l:List LK):cZ (w.setCell ⟨sb,0,none⟩ v) sb v vc {s with asks:=l}:=
 ⟨h.row.set _,bG h.row.row (by omega) _,(Xx (by omega) _).trans h.c1,(Xx (by omega) _).trans h.c2,(Xx (by omega) _).trans h.c3,(Xx (by omega) _).trans h.c4,(Xx (by omega) _).trans h.c5,(Xx (by omega) _).trans h.c6,(Xx (by omega) _).trans h.c7⟩
theorem cZ.cases(h:cZ w sb va vc s)(v:LQ)(l:List bK):cZ (w.setCell ⟨sb,2,none⟩ v) sb va v {s with cases:=l}:=
 ⟨h.row.set _,(Xx (by omega) _).trans h.c0,(Xx (by omega) _).trans h.c1,bG h.row.row (by omega) _,(Xx (by omega) _).trans h.c3,(Xx (by omega) _).trans h.c4,(Xx (by omega) _).trans h.c5,(Xx (by omega) _).trans h.c6,(Xx (by omega) _).trans h.c7⟩
theorem cZ.same(h:cZ w sb va vc s)(k:ay t w w')(c:83≠t):cZ w' sb va vc s:=by
 obtain⟨d,b,_⟩:=h.row;exact h.block ((k sb d _ _ c b).trans b.symm)
structure fJ (m:Nat) (W wr:LP) (rb sb:Nat) (a:LM) (cap:Nat) (bs:List UInt8) (p:Nat) (va vc:LQ) (s:Xj):Prop where
 rd:Rd wr rb a cap bs p
 rd0:∃p0,Rd W rb a cap bs p0
 sbl:W.heap.size<=sb
 kb:Xk rb (rb+1) W wr
 box:cZ wr sb va vc s
 asks:wr.ownsRow W.heap.size 9 1 va s.asks.length (s.asks.map Value.string)
 cases:wr.ownsRow W.heap.size 177 2 vc s.cases.length (aY s.cases)
 tiny:s.TinyN m
variable {mN : Nat} {W wr : LP}
theorem fJ.rbl(h:fJ mN W wr rb sb a cap bs p va vc s):rb<W.heap.size:=let ⟨_,h0⟩:=h.rd0;h0.row.lt
theorem fJ.drawn{c:Nat}(h:fJ mN W wr rb sb a cap bs p va vc s)(e:Rd w' rb a cap bs c)(k:Xk rb (rb+1) wr w'):fJ mN W w' rb sb a cap bs c va vc s:=by
 have d:=k.sameKind h.rd;have:=h.rbl;have:=h.sbl;exact⟨e,h.rd0,h.sbl,h.kb.trans k,h.box.block (k.block sb h.box.row.lt (by omega)),aJ h.asks d (by decide),aJ h.cases d (by decide),h.tiny⟩
theorem fJ.kept(h:fJ mN W wr rb sb a cap bs p va vc s)(k:K_ wr w'):fJ mN W w' rb sb a cap bs p va vc s:=h.drawn (h.rd.kept k) (.aF k)
theorem Rd.below{p0:Nat}(h:Rd w rb a cap bs p)(i:Rd W rb a cap bs p0)(k:Below W.heap.size w w')(_hz:W.heap.size<=w.heap.size):Rd w' rb a cap bs p:=by
 have c:∀b o,b<W.heap.size->w'.cell? ⟨b,o,none⟩=w.cell? ⟨b,o,none⟩:=fun b o d=>Ke (w:=w) (k.block b d)
 have e:=i.row.lt;have r:=k.size;refine⟨h.row.block (k.block _ e),(c _ _ e).trans h.c0,(c _ _ e).trans h.c1,fun j l=>?_⟩;obtain⟨b,o,m,n,_,q⟩:=h.bytes j l;obtain⟨s,t,f,_,d,_⟩:=i.bytes j l;rw[m] at f;simp only[KT,LG,and_true] at f;obtain⟨rfl,rfl⟩:=f;exact⟨b,o,m,n,by omega,by rw[c _ _ d];exact q⟩
theorem fJ.field{b:Xj}(h:fJ mN W wr rb sb a cap bs p va vc s){o:Nat}(e:cZ (wr.setCell ⟨sb,o,none⟩ v) sb va vc b)(f:b.asks=s.asks)(i:b.cases=s.cases)(j:b.TinyN mN):fJ mN W (wr.setCell ⟨sb,o,none⟩ v) rb sb a cap bs p va vc b:=by
 have c:=h.box.row.same (o:=o) v;have d:Below W.heap.size wr (wr.setCell ⟨sb,o,none⟩ v):=(Below.refl _ _).setCell h.sbl v;obtain⟨l,k⟩:=h.rd0;exact⟨h.rd.below k d h.kb.size,h.rd0,h.sbl,h.kb.below d,e,by rw[f];exact aJ h.asks c (by decide),by rw[i];exact aJ h.cases c (by decide),j⟩
theorem fJ.on(h:fJ mN W wr rb sb a cap bs p va vc s)(c: -1000<=x/\x<=1000):fJ mN W (wr.setCell ⟨sb,1,none⟩ (.int .i64 x)) rb sb a cap bs p va vc {s with on:=x}:=
 h.field (h.box.on x) rfl rfl ⟨h.tiny.asks,h.tiny.dM,c,h.tiny.cases,h.tiny.dh,h.tiny.els,h.tiny.fall,h.tiny.give⟩
theorem fJ.els(h:fJ mN W wr rb sb a cap bs p va vc s)(c: -1000<=x/\x<=1000):fJ mN W (wr.setCell ⟨sb,3,none⟩ (.int .i64 x)) rb sb a cap bs p va vc {s with els:=x}:=
 h.field (h.box.els x) rfl rfl ⟨h.tiny.asks,h.tiny.dM,h.tiny.on,h.tiny.cases,h.tiny.dh,mH c,h.tiny.fall,h.tiny.give⟩
theorem fJ.fall(h:fJ mN W wr rb sb a cap bs p va vc s)(c: -1000<=x/\x<=1000):fJ mN W (wr.setCell ⟨sb,4,none⟩ (.int .i64 x)) rb sb a cap bs p va vc {s with fall:=x}:=
 h.field (h.box.fall x) rfl rfl ⟨h.tiny.asks,h.tiny.dM,h.tiny.on,h.tiny.cases,h.tiny.dh,h.tiny.els,c,h.tiny.give⟩
variable {w1 w2 : LP}
theorem fJ.sw(h:fJ mN W wr rb sb a cap bs p va vc s)(c:K_ wr w1)(d:w1.grownBy w2 va.ownBlock):cZ w2 sb va vc s:=
 (h.kept c).box.same (ay.aI (h.kept c).asks d) (by decide)
theorem fJ.zJ(h:fJ mN W wr rb sb a cap bs p va vc s)(c:K_ wr w1)(d:w1.grownBy w2 vc.ownBlock):cZ w2 sb va vc s:=
 (h.kept c).box.same (ay.aI (h.kept c).cases d) (by decide)
theorem fJ.oD{c:LQ}{x:LK}(h:fJ mN W wr rb sb a cap bs p va vc s)(l:K_ wr w1)
 (m:w2.ownsRow W.heap.size 9 1 c (s.asks.length+1) (s.asks.map Value.string++ [.string x])) (f:w1.grownBy w2 va.ownBlock) (n:s.asks.length+1<=mN) (q:x.size<=300):fJ mN W (w2.setCell ⟨sb,0,none⟩ c) rb sb a cap bs p c vc {s with asks:=s.asks++ [x]}:=by
 have b:=h.kept l;have d:ay 9 w1 w2:=ay.aI b.asks f;have i:=b.box.same d (by decide);have j:=i.row.same (o:=0) c;have k:Below W.heap.size w1 (w2.setCell ⟨sb,0,none⟩ c):=((Below.refl _ _).grown f b.kb.size (fun r d=>(b.asks.lt r d).1)).setCell h.sbl c;obtain⟨v,t⟩:=h.rd0;refine⟨b.rd.below t k b.kb.size,h.rd0,h.sbl,b.kb.below k,i.asks c _, ?_,aJ (aJ b.cases d (by decide)) j (by decide), ?_⟩
 ·have:=aJ m j (by decide);simpa using this
 ·refine⟨by simpa using n,fun y e=>?_,h.tiny.on,h.tiny.cases,h.tiny.dh,h.tiny.els,h.tiny.fall,h.tiny.give⟩;simp only[JZ,JY] at e;rcases e with e | rfl
  ·exact h.tiny.dM y e
  ·exact q
theorem fJ.qU{c:LQ}{x:bK}(h:fJ mN W wr rb sb a cap bs p va vc s)(l:K_ wr w1)
 (m:w2.ownsRow W.heap.size 177 2 c (s.cases.length+1) (aY s.cases++x.cells)) (f:w1.grownBy w2 vc.ownBlock) (n:s.cases.length+1<=mN) (q:x.Tiny):fJ mN W (w2.setCell ⟨sb,2,none⟩ c) rb sb a cap bs p va c {s with cases:=s.cases++ [x]}:=by
 have b:=h.kept l;have d:ay 177 w1 w2:=ay.aI b.cases f;have i:=b.box.same d (by decide);have j:=i.row.same (o:=2) c;have k:Below W.heap.size w1 (w2.setCell ⟨sb,2,none⟩ c):=((Below.refl _ _).grown f b.kb.size (fun r d=>(b.cases.lt r d).1)).setCell h.sbl c;obtain⟨v,t⟩:=h.rd0;refine⟨b.rd.below t k b.kb.size,h.rd0,h.sbl,b.kb.below k,i.cases c _,aJ (aJ b.asks d (by decide)) j (by decide), ?_, ?_⟩
 ·have:=aJ m j (by decide);rw[<-tN] at this;simpa using this
 ·refine⟨h.tiny.asks,h.tiny.dM,h.tiny.on,by simpa using n,fun y e=>?_,h.tiny.els,h.tiny.fall,h.tiny.give⟩;simp only[JZ,JY] at e;rcases e with e | rfl
  ·exact h.tiny.dh y e
  ·exact q
def jU(cs:List LQ):Prop:=∀n c,Value.slice none n c∈cs->n=0/\c=0
variable {xs : List LQ}
theorem jU.append{cs:List LQ}(h:jU xs)(k:jU cs):jU (xs++cs):=fun n c e=>by
 rcases JZ.1 e with a|a
 ·exact h n c a
 ·exact k n c a
theorem iy{size:Nat}{e:TypeId}{c m:Nat}(h:w.ownsRow base e size (.slice none n c) m xs):n=0/\c=0:=by
 rcases h.2 with⟨e,_⟩|⟨g,b,d,e,_⟩
 ·simp only[KX,true_and] at e;exact e
 ·simp at e
theorem jH{a b:LM}{c d:Nat}(h:a=none->s.asks.length=0/\c=0)(h2:b=none->s.cases.length=0/\d=0):jU (s.cells a c b d):=by
 intro n i f;simp only[Xj.cells,Lb,Lc,or_false,KX,reduceCtorEq,false_or,or_self] at f;rcases f with⟨e,rfl,rfl⟩|⟨e,rfl,rfl⟩
 ·exact h e.symm
 ·exact h2 e.symm
theorem fJ.ng{b c:LM}{d m f:Nat}(h:fJ mN W wr rb sb a cap bs p (.slice b n d) (.slice c m f) s)(i:n=s.asks.length)(j:m=s.cases.length):jU (s.cells b d c f):=by
 subst i j;exact jH (fun e=>by subst e;exact iy h.asks) (fun e=>by subst e;exact iy h.cases)
theorem fJ.cells(h:fJ mN W wr rb sb a cap bs p va vc s):∃b c d e,va= .slice b s.asks.length c/\vc= .slice d s.cases.length e/\kN wr 9 177 (s.cells b c d e) s:=by
 obtain⟨b,c,f,i,j⟩:=bg h.asks;obtain⟨d,e,k,l⟩:=kM h.cases;exact⟨b,c,d,e,f,k,b,c,d,e,rfl,j,l,i⟩
abbrev SSt (W wr:LP) (rb sb:Nat) (a:LM) (cap:Nat) (bs:List UInt8) (p:Nat) (va vc:LQ) (s:Xj):Prop:=fJ 20 W wr rb sb a cap bs p va vc s
structure ji (m:Nat) (w wr:LP) (rb ab:Nat) (a:LM) (cap:Nat) (bs:List UInt8) (p:Nat) (cost:Int) (v:LQ) (L:List Xj) (xs:List LQ):Prop where
 rd:Rd wr rb a cap bs p
 rd0:∃p0,Rd w rb a cap bs p0
 abl:w.heap.size<=ab
 kb:Xk rb (rb+1) w wr
 row:aC wr ab 77 2
 c0:wr.cell? ⟨ab,0,none⟩=some (.int .i64 cost)
 c1:wr.cell? ⟨ab,1,none⟩=some v
 own:wr.ownsRow w.heap.size 83 8 v L.length xs
 pack:eH wr 9 177 xs L
 tiny:∀s∈L,s.TinyN m
 ng:jU xs
variable {L : List Xj} {ab : Nat}
theorem ji.rbl{cost:Int}(h:ji mN w wr rb ab a cap bs p cost v L xs):rb<w.heap.size:=let ⟨_,h0⟩:=h.rd0;h0.row.lt
theorem ji.drawn{c:Nat}{cost:Int}(h:ji mN w wr rb ab a cap bs p cost v L xs)(f:Rd w' rb a cap bs c)(k:Xk rb (rb+1) wr w'):ji mN w w' rb ab a cap bs c cost v L xs:=by
 have d:=k.sameKind h.rd;have:=h.rbl;have:=h.abl;have e:∀o,w'.cell? ⟨ab,o,none⟩=wr.cell? ⟨ab,o,none⟩:=fun o=>k.cell h.row.lt (by omega)
 exact⟨f,h.rd0,h.abl,h.kb.trans k,h.row.but k (by omega),(e _).trans h.c0,(e _).trans h.c1,aJ h.own d (by decide),h.pack.same d (by decide) (by decide),h.tiny,h.ng⟩
theorem ji.kept{cost:Int}(h:ji mN w wr rb ab a cap bs p cost v L xs)(k:K_ wr w'):ji mN w w' rb ab a cap bs p cost v L xs:=h.drawn (h.rd.kept k) (.aF k)
theorem eH.push{a b:TypeId}{cs:List LQ}{l:List Xj}(h:eH w a b xs l)(d:kN w a b cs s):eH w a b (xs++cs) (l++ [s]):=by
 have e:(l++ [s]).take l.length=l:=by simp
 have f:(l++ [s]).take (l.length+1)=l++ [s]:=by rw[KJ];simp
 have:=eH.snoc (k:=l.length) (l:=l++ [s]) (by simp) (by rw[e];exact h) (cs:=cs) (by simpa[List.getD] using d);rw[f] at this;exact this
theorem ji.fe{cost:Int}(h:ji mN w wr rb ab a cap bs p cost v L xs)(f:K_ wr w1)(i:w1.grownBy w2 v.ownBlock):w2.cell? ⟨ab,1,none⟩=some v/\aC w2 ab 77 2:=by
 have b:=h.kept f;have j:ay 83 w1 w2:=ay.aI b.own i;obtain⟨c,d,k⟩:=b.row;have e:=j ab c _ _ (by decide) d;exact⟨by rw[Ke (w:=w1) (e.trans d.symm)];exact b.c1,c,e,k⟩
theorem ji.push{cost:Int}{c:LQ}{cs:List LQ}(h:ji mN w wr rb ab a cap bs p cost v L xs)(k:K_ wr w1)(q:kN wr 9 177 cs s)(r:s.TinyN mN)(t:jU cs)
 (x:w2.ownsRow w.heap.size 83 8 c (L.length+1) (xs++cs)) (l:w1.grownBy w2 v.ownBlock):ji mN w (w2.setCell ⟨ab,1,none⟩ c) rb ab a cap bs p cost c (L++ [s]) (xs++cs):=by
 have b:=h.kept k;have d:ay 83 w1 w2:=ay.aI b.own l;have j:aC w2 ab 77 2:=by
  obtain⟨e,f,y⟩:=b.row;exact⟨e,d ab e _ _ (by decide) f,y⟩
 have A:w2.cell? ⟨ab,0,none⟩=some (.int .i64 cost):=by
  obtain⟨e,f,_⟩:=b.row;rw[Ke (w:=w1) ((d ab e _ _ (by decide) f).trans f.symm)];exact b.c0
 have m:=j.same (o:=1) c;have n:Below w.heap.size w1 (w2.setCell ⟨ab,1,none⟩ c):=((Below.refl _ _).grown l b.kb.size (fun B d=>(b.own.lt B d).1)).setCell h.abl c;obtain⟨E,C⟩:=h.rd0;refine⟨b.rd.below C n b.kb.size,h.rd0,h.abl,b.kb.below n,j.set _,(Xx (by omega) _).trans A,bG j.row (by omega) _, ?_, ?_,fun D i=>?_,h.ng.append t⟩
 ·have:=aJ x m (by decide);simpa using this
 ·exact ((b.pack.push (q.same (u:=90) (ay.aF k) (by decide) (by decide))).same d (by decide) (by decide)).same m (by decide) (by decide)
 ·simp only[JZ,JY] at i;rcases i with i|rfl
  ·exact h.tiny D i
  ·exact r
theorem ji.cost{cost:Int}(h:ji mN w wr rb ab a cap bs p cost v L xs):ji mN w (wr.setCell ⟨ab,0,none⟩ (.int .i64 x)) rb ab a cap bs p x v L xs:=by
 have c:=h.row.same (o:=0) (.int .i64 x);have d:Below w.heap.size wr (wr.setCell ⟨ab,0,none⟩ (.int .i64 x)):=(Below.refl _ _).setCell h.abl _;obtain⟨f,e⟩:=h.rd0;exact⟨h.rd.below e d h.kb.size,h.rd0,h.abl,h.kb.below d,h.row.set _,bG h.row.row (by omega) _,(Xx (by omega) _).trans h.c1,aJ h.own c (by decide),(h.pack.same c (by decide) (by decide)),h.tiny,h.ng⟩
abbrev ASt (w wr:LP) (rb ab:Nat) (a:LM) (cap:Nat) (bs:List UInt8) (p:Nat) (cost:Int) (v:LQ) (L:List Xj) (xs:List LQ):Prop:=ji 20 w wr rb ab a cap bs p cost v L xs
section
variable {α : Type} (E : α -> α -> Prop)
inductive aR :Nat->α->α->Prop
 | here (a:α):aR 0 a a
 | step {n:Nat} {a b c:α} (h:E a b) (r:aR n b c):aR (n+1) a c
def Far(t:α)(n:Nat)(a:α):Prop:=aR E n a t/\∀m,m<n->¬aR E m a t
end
section
variable {α : Type} {E : α -> α -> Prop}
theorem aR.trans{n m:Nat}{a b c:α}(h:aR E n a b)(g:aR E m b c):aR E (n+m) a c:=by
 induction h with
 | here a=>rw[KH];exact g
 | step h _ ih=>rw[show∀k:Nat,k+1+m=k+m+1 from fun k=>by omega];exact .step h (ih g)
theorem aR.one{a b:α}(h:E a b):aR E 1 a b:= .step h (.here b)
theorem aR.zero{a b:α}(h:aR E 0 a b):a=b:=by
 generalize d:(0:Nat)=n at h;cases h with
 | here=>rfl
 | step=>cases d
theorem aR.first{n:Nat}{a c:α}(h:aR E (n+1) a c):∃b,E a b/\aR E n b c:=by
 generalize e:n+1=m at h;cases h with
 | here=>cases e
 | step h r=>cases e;exact⟨_,h,r⟩
theorem aR.far{t:α}:∀{n:Nat} {a:α},aR E n a t->∃m,m<=n/\Far E t m a:=by
 intro n
 induction n using Nat.strongRecOn with
 | ind n ih=>
  intro a h;by_cases d:∃m,m<n/\aR E m a t
  ·obtain⟨m,b,c⟩:=d;obtain⟨q,f,e⟩:=ih m b c;exact⟨q,by omega,e⟩
  ·exact⟨n,JP _,h,fun m b c=>d ⟨m,b,c⟩⟩
theorem Far.unique{t a:α}{n m:Nat}(h:Far E t n a)(g:Far E t m a):n=m:=by
 rcases Ls n m with e|e|e
 ·exact Lv h.1 (g.2 n e)
 ·exact e
 ·exact Lv g.1 (h.2 m e)
theorem Far.zero(t:α):Far E t 0 t:=⟨.here t,fun _m h=>aT h⟩
theorem Far.Dz{t a:α}(h:Far E t 0 a):a=t:=h.1.zero
theorem Far.next{t a:α}{n:Nat}(h:Far E t (n+1) a):∃b,E a b/\Far E t n b:=by
 obtain⟨b,c,e⟩:=h.1.first
 obtain⟨m,i,d⟩:=e.far;rcases Nat.lt_or_ge m n with f|f
 ·exact Lv (aR.step c d.1) (h.2 (m+1) (by omega))
 ·have:m=n:=by omega
  subst this;exact⟨b,c,d⟩
end
variable {L Q : List Nat} {p : Nat} {A : Nat -> Nat}
section
variable {E : Nat -> Nat -> Prop} {t : Nat}
structure Bfs (E:Nat->Nat->Prop) (t:Nat) (A:Nat->Nat) (Q:List Nat):Prop where
 fin:∀p,A p≠0->Far E t (A p-1) p
 q:∀p∈Q,A p≠0
 nd:Q.Nodup
 mono:Q.Pairwise fun p r=>A p<=A r
 two:∀h l,Q=h :: l->∀r∈Q,A r<=A h+1
 lev:∀p n,Far E t n p->(Q=[]\/∃h l,Q=h :: l/\n+1<=A h)->A p≠0
 don:∀p,A p≠0->p∉Q->∀r,E r p->A r≠0/\r≠t
 tar:A t=1
structure mR (E:Nat->Nat->Prop) (t:Nat) (p:Nat) (L:List Nat) (A:Nat->Nat) (Q:List Nat):Prop where
 fin:∀r,A r≠0->Far E t (A r-1) r
 q:∀r∈Q,A r≠0
 nd:Q.Nodup
 mono:Q.Pairwise fun a b=>A a<=A b
 two:∀r∈Q,A p<=A r/\A r<=A p+1
 lev:∀r n,Far E t n r->n+1<=A p->A r≠0
 don:∀r,A r≠0->r∉Q->r≠p->∀s,E s r->A s≠0/\s≠t
 cur:∀s∈L,A s≠0/\s≠t
 pos:A p≠0
 out:p∉Q
 tar:A t=1
theorem Bfs.start(E:Nat->Nat->Prop)(t:Nat):Bfs E t (fun p=>if p=t then 1 else 0) [t]:=by
 refine⟨fun p h=>?_,fun p h=>?_,by simp,by simp,fun h l e r c=>?_,fun p n i h=>?_,fun p h j=>?_,by simp⟩
 ·by_cases e:p=t
  ·subst e;simp only[if_true];exact Far.zero p
  ·simp[e] at h
 ·rw[JY] at h;simp[h]
 ·simp only[List.cons.injEq] at e;rw[JY] at c;rw[c,<-e.1];simp
 ·rcases h with h|⟨h,l,e,d⟩
  ·cases h
  ·simp only[List.cons.injEq] at e;rw[<-e.1] at d;simp only[if_true] at d;have:n=0:=by omega
   subst this;rw[i.Dz];simp
 ·by_cases e:p=t
  ·exact Lv (by rw[e];simp) j
  ·simp[e] at h
theorem Bfs.take(h:Bfs E t A (p :: Q)):mR E t p [] A Q:=by
 have b:=List.nodup_cons.1 h.nd;have c:=LF.1 h.mono;refine⟨h.fin,fun r a=>h.q r (Kl _ a),b.2,c.2,fun r a=>⟨c.1 r a,h.two p Q rfl r (Kl _ a)⟩,fun r n d f=>h.lev r n d (.inr ⟨p,Q,rfl,f⟩),fun r a i j=>h.don r a ?_,fun s k=>(by cases k),h.q p (by simp),b.1,h.tar⟩;intro l;rcases Lb.1 l with e | e
 ·exact j e
 ·exact i e
theorem mR.old{s:Nat}(h:mR E t p L A Q)(c:A s≠0)(d:s≠t):mR E t p (L++ [s]) A Q:=
 ⟨h.fin,h.q,h.nd,h.mono,h.two,h.lev,h.don,fun r f=>by
  rcases JZ.1 f with e|e
  ·exact h.cur r e
  ·rw[JY] at e;rw[e];exact⟨c,d⟩,h.pos,h.out,h.tar⟩
theorem mR.new{s:Nat}(h:mR E t p L A Q)(C:E s p)(l:A s=0)(v:s≠t):mR E t p (L++ [s]) (fun r=>if r=s then A p+1 else A r) (Q++ [s]):=by
 have w:p≠s:=fun e=>h.pos (by rw[e];exact l)
 have j:s∉Q:=fun e=>h.q s e l
 have D:Far E t (A p) s:=by
  have F:=h.fin p h.pos;have O:=h.pos;refine⟨?_,fun m P G=>?_⟩
  ·have:=aR.step C F.1;rw[show A p-1+1=A p by omega] at this;exact this
  ·obtain⟨H,k,i⟩:=G.far;exact h.lev s H i (by omega) l
 have same:∀r,r≠s->(if r=s then A p+1 else A r)=A r:=fun r e=>Lu e
 have q:(if p=s then A p+1 else A p)=A p:=same p w;refine⟨fun r c=>?_,fun r c=>?_, ?_, ?_,fun r c=>?_,fun r n I y=>?_,fun r c B J x K=>?_,fun r c=>?_,by simp only[q];exact h.pos, ?_, ?_⟩
 ·by_cases e:r=s
  ·subst e;simp only[if_true];rw[Nat.add_sub_cancel];exact D
  ·simp only[same r e] at c⊢;exact h.fin r c
 ·by_cases e:r=s
  ·simp[e]
  ·rw[same r e];rcases JZ.1 c with g|g
   ·exact h.q r g
   ·exact Lv (JY.1 g) e
 ·rw[List.nodup_append];exact⟨h.nd,by simp,fun a d b f e=>by rw[JY] at f;rw[e,f] at d;exact j d⟩
 ·rw[KC];refine⟨h.mono.imp_of_mem fun {a b} d f M=>?_,by simp,fun a d b f=>?_⟩
  ·rw[same a (fun e=>j (by rw[<-e];exact d)),same b (fun e=>j (by rw[<-e];exact f))];exact M
  ·rw[JY] at f;subst f;rw[same a (fun e=>j (by rw[<-e];exact d)),Lt rfl];exact (h.two a d).2
 ·simp only[q];by_cases e:r=s
  ·rw[Lt e];omega
  ·rw[same r e];rcases JZ.1 c with g|g
   ·exact h.two r g
   ·exact Lv (JY.1 g) e
 ·simp only[q] at y;by_cases e:r=s
  ·rw[Lt e];omega
  ·rw[same r e];exact h.lev r n I y
 ·have N:r≠s:=fun e=>B (by rw[e];simp)
  rw[same r N] at c;obtain⟨k,i⟩:=h.don r c (fun g=>B (JZ.2 (.inl g))) J x K;refine⟨?_,i⟩;by_cases e:x=s
  ·rw[Lt e];omega
  ·rw[same x e];exact k
 ·rcases JZ.1 c with g|g
  ·obtain⟨k,i⟩:=h.cur r g;refine⟨?_,i⟩;by_cases e:r=s
   ·rw[Lt e];omega
   ·rw[same r e];exact k
  ·rw[JY] at g;rw[g,Lt rfl];exact⟨by omega,v⟩
 ·intro g;rcases JZ.1 g with g|g
  ·exact h.out g
  ·exact w (JY.1 g)
 ·rw[same t (Ne.symm v)];exact h.tar
theorem mR.ends(h:mR E t p L A Q)(l:∀s,E s p->s∈L):Bfs E t A Q:=by
 have i:∀r,A r≠0->r∉Q->∀s,E s r->A s≠0/\s≠t:=fun r j w s k=>by
  by_cases e:r=p
  ·rw[e] at k;exact h.cur s (l s k)
  ·exact h.don r j w e s k
 refine⟨h.fin,h.q,h.nd,h.mono,fun a x e r j=>?_,fun r n d y=>?_,i,h.tar⟩
 ·have f:=(h.two a (by rw[e];simp)).1;have c:=(h.two r j).2;omega
 ·rcases y with rfl|⟨a,x,rfl,G⟩
  ·clear l
   induction n generalizing r with
   | zero=>rw[d.Dz,h.tar];omega
   | succ n ih=>
    obtain⟨b,f,c⟩:=d.next;exact (i b (ih b c) (by simp) r f).1
  ·have H:=h.two a (by simp);by_cases B:n+1<=A p
   ·exact h.lev r n d B
   ·have I:n=A p:=by omega
    obtain⟨m,C⟩:∃m,n=m+1:=⟨n-1,by have:=h.pos;omega⟩;subst C;obtain⟨b,f,c⟩:=d.next;have v:=h.lev b m c (by omega);have D:=(h.fin b v).unique c;refine (i b v (fun g=>?_) r f).1;have F:=LF.1 h.mono;rcases Lb.1 g with e | e
    ·rw[e] at D;omega
    ·have:=F.1 b e;omega
theorem mR.found(h:mR E t p L A Q)(f:E t p):aR E (A p) t t/\(∀m,1<=m->m<A p->¬aR E m t t)/\∀r n,n+1<=A p->(A r=n+1↔Far E t n r):=by
 have x:=h.pos;have a:∀r n,n+1<=A p->(A r=n+1↔Far E t n r):=fun r n i=>by
  constructor
  ·intro e;have:=h.fin r (by omega);rw[e,Nat.add_sub_cancel] at this;exact this
  ·intro c;have d:=h.lev r n c i;have:=(h.fin r d).unique c;omega
 refine⟨?_,fun m d y j=>?_,a⟩
 ·have:=aR.step f (h.fin p h.pos).1;rw[show A p-1+1=A p by omega] at this;exact this
 ·obtain⟨q,k⟩:∃q,m=q+1:=⟨m-1,by omega⟩;subst k;obtain⟨b,l,s⟩:=j.first
  obtain⟨n,B,v⟩:=s.far;have w:=(a b n (by omega)).2 v;refine (h.don b (by omega) (fun g=>?_) (fun e=>?_) t l).2 rfl
  ·have:=(h.two b g).1;omega
  ·rw[e] at w;omega
theorem Bfs.none(h:Bfs E t A []):∀m,1<=m->¬aR E m t t:=fun m i a=>by
 obtain⟨q,c⟩:∃q,m=q+1:=⟨m-1,by omega⟩;subst c;obtain⟨b,d,e⟩:=a.first
 obtain⟨n,_,f⟩:=e.far;exact (h.don b (h.lev b n f (.inl rfl)) (by simp) t d).2 rfl
end
