import Derived.WalkKit
import Derived.Deep.Draws
import Derived.Deep.MidRow
import Derived.Deep.OwnRows
import Derived.OwnWalk
set_option maxRecDepth 100000
set_option maxHeartbeats 25600000
namespace Go.Proofs.YtgnkgfjmbmcfcaaGreatDoor
open Go.RowKit
theorem Kz {p:Prop} (h:p):Hid p:=h
theorem unhide {p:Prop} (h:Hid p):p:=h
structure CaseD where
 text:ByteArray
 goto:Int
structure Xj where
 asks:List ByteArray
 on:Int
 cases:List CaseD
 els:Int
 fall:Int
 fin:Bool
 bad:Bool
 give:ByteArray
structure ActionD where
 cost:Int
 steps:List Xj
def CaseD.zero :CaseD:= ⟨ByteArray.empty,0⟩
def Xj.zero :Xj:= ⟨[],0,[],0,0,false,false,ByteArray.empty⟩
def In64 (n:Int):Prop:= -9223372036854775808<=n∧n<=9223372036854775807
def Strs (w:World) (a:Option Addr) (l:List ByteArray):Prop:=
 ∀i,i < l.length->∃b o,a=some ⟨b,o,none⟩∧b < w.heap.size∧w.cell? ⟨b,o+i,none⟩=some (.string (l.getD i ByteArray.empty))
def K_ (w w':World):Prop:=Below w.heap.size w w'
theorem K_.refl (w:World):K_ w w:=Below.refl _ _
theorem K_.trans {a b c:World} (h:K_ a b) (k:K_ b c):K_ a c:=
 Below.trans h (Below.mono k h.size)
theorem K_.drewN {a b:World} (h:K_ a b) (n:Nat):K_ a (b.drewN n):= ⟨h.os,h.tape,h.output,h.size,h.block⟩
theorem K_.drew {a b:World} (h:K_ a b):K_ a b.drew:=Below.drew h
theorem K_.alloc {a b:World} (h:K_ a b) (o:Obj):K_ a (b.alloc o):=Below.alloc h h.size o
theorem K_.setCell {a b:World} (h:K_ a b) {p:Addr} (hp:a.heap.size<=p.block) (v:Value):K_ a (b.setCell p v):=Below.setCell h hp v
theorem K_.setCells {a:World} {g:Nat} (hg:a.heap.size<=g): ∀(vs:List Value) (o:Nat) {b:World},K_ a b->K_ a (b.setCells g o vs)
 | [],_,_,h=> h
 | v :: r,o,_,h=> by
  rw [World.setCells]
  exact K_.setCells hg r (o+1) (K_.setCell h hg v)
theorem K_.cell {w w':World} (h:K_ w w') {b o:Nat} (hb:b < w.heap.size):w'.cell? ⟨b,o,none⟩=w.cell? ⟨b,o,none⟩:=
 Below.cell h (p:= ⟨b,o,none⟩) hb
theorem K_.rules {W w1:World} (hb:K_ W w1): (∀b o,b < W.heap.size->w1.cell? ⟨b,o,none⟩=W.cell? ⟨b,o,none⟩)∧(∀b o,b < W.heap.size->w1.frozen? ⟨b,o,none⟩=W.frozen? ⟨b,o,none⟩):=
 ⟨fun b o h=> Below.cell hb (p:= ⟨b,o,none⟩) h,fun b o h=> Below.frozen hb (p:= ⟨b,o,none⟩) h⟩
theorem K_.size {w w':World} (h:K_ w w'):w.heap.size<=w'.heap.size:=Below.size h
theorem Strs.kept {w w':World} {a:Option Addr} {l:List ByteArray} (h:Strs w a l) (k:K_ w w'):Strs w' a l:=by
 intro i hi
 obtain ⟨b,o,ha,hb,hc⟩:=h i hi
 exact ⟨b,o,ha,Nat.lt_of_lt_of_le hb k.size,by rw [k.cell hb,hc]⟩
theorem K_.range {w w':World} (h:K_ w w') {b o:Nat} {cs:List Value} (hb:b < w.heap.size) (hr:w.rangeAt b o cs):w'.rangeAt b o cs:=
 fun j v hv=> by rw [h.cell hb];exact hr j v hv
theorem size_setCell (w:World) (p:Addr) (v:Value): (w.setCell p v).heap.size=w.heap.size:=by simp [World.setCell]
theorem Strs.setCell {w:World} {b o:Nat} {l:List ByteArray} (h:Strs w (some ⟨b,o,none⟩) l) {p:Addr} (hp:p.block≠b) (v:Value):Strs (w.setCell p v) (some ⟨b,o,none⟩) l:=by
 intro i hi
 obtain ⟨b',o',e,hb,hc⟩:=h i hi
 simp only [Option.some.injEq,Addr.mk.injEq,and_true] at e
 obtain ⟨rfl,rfl⟩:=e
 exact ⟨_,_,rfl,by rw [size_setCell];exact hb,by rw [World.cell?_setCell_other _ _ _ _ (fun e=> hp (by rw [e]))];exact hc⟩
def Row (w:World) (b n:Nat):Prop:= ∃t f,w.rowIs b t n f
theorem Row.lt {w:World} {b n:Nat} (h:Row w b n):b < w.heap.size:=let ⟨_,_,h⟩:=h;h.lt
theorem Row.there {w:World} {b n:Nat} (h:Row w b n) {o m:Nat} (hm:o+m<=n):w.there b o m:=by
 obtain ⟨t,f,h⟩:=h
 intro j hj
 exact ⟨by rw [h.cell (by omega)];rfl,h.frozen _⟩
theorem Row.kept {w w':World} {b n:Nat} (h:Row w b n) (k:K_ w w'):Row w' b n:=by
 have hl:=h.lt
 obtain ⟨t,f,h⟩:=h
 exact ⟨t,f,h.of_block (k.block b hl)⟩
theorem Row.set {w:World} {b n:Nat} (h:Row w b n) (p:Addr) (hp:p.spot=none) (v:Value):Row (w.setCell p v) b n:=by
 obtain ⟨t,f,h⟩:=h
 by_cases e:b=p.block
 ·subst e
  obtain ⟨pb,po,ps⟩:=p
  subst hp
  exact ⟨t,_,h.set po v⟩
 ·exact ⟨t,f,h.setOther e v⟩
theorem Row.setCells {b n g:Nat}: ∀(vs:List Value) (o:Nat) {w:World},Row w b n->Row (w.setCells g o vs) b n
 | [],_,_,h=> h
 | v :: r,o,_,h=> by
  rw [World.setCells]
  exact Row.setCells r (o+1) (h.set ⟨g,o,none⟩ rfl v)
theorem Row.made (w:World) (c:Array Value) (t:TypeId):Row (w.alloc (.cells c t)) w.heap.size c.size:=
 ⟨t,fun i=> c.getD i undef,World.rowIs_alloc w c t _ (fun i hi=> by simp [Array.getD,hi])⟩
theorem Row.alloc {w:World} {b n:Nat} (h:Row w b n) (o:Obj):Row (w.alloc o) b n:=by
 obtain ⟨t,f,h⟩:=h
 exact ⟨t,f,h.alloc o⟩
theorem X_ {P:Program} {fn:Func} {R:Ending->World->Prop} {a:Act} {w:World} {p:Tmp} {ty:TypeId} {b:Nat} (cs:List Value) (d:TypeDesc) (h:fn.results= #[.cell p ty])
  (hp:a.tmps.getD p undef= .pointer (some ⟨b,0,none⟩)) (hr:w.rangeAt b 0 cs) (hu:P.underlying ty=some d) (hd:d.isRow=true) (hi: (P.info? ty).map (·.size)=some cs.length)
  (hdef:a.defers=[]) (hR:R (.returned (.agg cs.toArray)) w):bodyPost P fn R .ret a w:=by
 refine bodyPost_ret ?_ hdef hR
 have hp':a.tmps[p]?.getD undef= .pointer (some ⟨b,0,none⟩):=by simpa using hp
 simp only [results,h]
 simp [hp',asAddr,run_loadVar_mid w b 0 ty cs d hr hu hd hi]
theorem run_make_many {P:Program} (t e:TypeId) (z:Value) (size bytes:Nat) (ht:P.underlying t=some (.slice e)) (hinfo: (P.info? e).map (fun i=> (i.zero,i.size,i.bytes))=some (some z,size,bytes))
  (kl kc:IntKind) (n:Nat) (hbytes:bytes * n<=281474976710656) (h63:n<=9223372036854775807) (w:World):
  (Instr.makeSlice t (.int kl (n:Int)) (.int kc (n:Int))).run P w= .ok (.slice (some ⟨w.heap.size,0,none⟩) n n) (w.alloc (.cells (madeCells z.cells (n * size)) e)):=by
 obtain ⟨i,hi,hzz⟩:=Option.map_eq_some_iff.1 hinfo
 simp only [Prod.mk.injEq] at hzz
 obtain ⟨hz,hs,hb⟩:=hzz
 have hb': (i.bytes:Int) * (n:Int)<=281474976710656:=by
  have h: ((i.bytes * n:Nat):Int)<=281474976710656:=by rw [hb];omega
  rwa [Int.natCast_mul] at h
 have hr:=run_make (P:=P) w t e i z ht hi hz kl kc n n (by omega) (Int.le_refl _) hb' (by omega)
 simp only [Int.toNat_natCast,hs] at hr
 exact hr
def CaseD.cells (c:CaseD):List Value:=[.string c.text,.int .i64 c.goto]
theorem CaseD.one (c:CaseD): (#[.string c.text,.int .i64 c.goto]:Array Value).all (·.oneCell')=true:=
 all_oneCell_toArray (cs:=[.string c.text,.int .i64 c.goto]) (by simp [Value.oneCell'])
def Cases (w:World) (a:Option Addr) (l:List CaseD):Prop:=
 ∀i,i < l.length->∃b o,a=some ⟨b,o,none⟩∧b < w.heap.size∧w.rangeAt b (o+i * 2) (l.getD i CaseD.zero).cells
theorem Cases.kept {w w':World} {a:Option Addr} {l:List CaseD} (h:Cases w a l) (k:K_ w w'):Cases w' a l:=by
 intro i hi
 obtain ⟨b,o,ha,hb,hc⟩:=h i hi
 exact ⟨b,o,ha,Nat.lt_of_lt_of_le hb k.size,k.range hb hc⟩
theorem Cases.setCell {w:World} {b o:Nat} {l:List CaseD} (h:Cases w (some ⟨b,o,none⟩) l) {p:Addr} (hp:p.block≠b) (v:Value):Cases (w.setCell p v) (some ⟨b,o,none⟩) l:=by
 intro i hi
 obtain ⟨b',o',e,hb,hc⟩:=h i hi
 simp only [Option.some.injEq,Addr.mk.injEq,and_true] at e
 obtain ⟨rfl,rfl⟩:=e
 exact ⟨_,_,rfl,by rw [size_setCell];exact hb,fun j u hu=> by rw [World.cell?_setCell_other _ _ _ _ (fun e=> hp (by rw [e]))];exact hc j u hu⟩
theorem Strs.setCells {b o:Nat} {l:List ByteArray} {g:Nat} (hg:g≠b): ∀(vs:List Value) (k:Nat) {w:World},Strs w (some ⟨b,o,none⟩) l->Strs (w.setCells g k vs) (some ⟨b,o,none⟩) l
 | [],_,_,h=> h
 | v :: r,k,_,h=> by
  rw [World.setCells]
  exact Strs.setCells hg r (k+1) (h.setCell (p:= ⟨g,k,none⟩) hg v)
theorem Cases.setCells {b o:Nat} {l:List CaseD} {g:Nat} (hg:g≠b): ∀(vs:List Value) (k:Nat) {w:World},Cases w (some ⟨b,o,none⟩) l->Cases (w.setCells g k vs) (some ⟨b,o,none⟩) l
 | [],_,_,h=> h
 | v :: r,k,_,h=> by
  rw [World.setCells]
  exact Cases.setCells hg r (k+1) (h.setCell (p:= ⟨g,k,none⟩) hg v)
def Xj.cells (s:Xj) (aa:Option Addr) (ca:Nat) (ac:Option Addr) (cc:Nat):List Value:=
 [.slice aa s.asks.length ca,.int .i64 s.on,.slice ac s.cases.length cc,.int .i64 s.els,.int .i64 s.fall,.bool s.fin,.bool s.bad,.string s.give]
theorem Xj.one (s:Xj) (aa:Option Addr) (ca:Nat) (ac:Option Addr) (cc:Nat): (s.cells aa ca ac cc).toArray.all (·.oneCell')=true:=
 all_oneCell_toArray (by simp [Xj.cells,Value.oneCell'])
def StepIs (w:World) (cs:List Value) (s:Xj):Prop:=
 ∃aa ca ac cc,cs=s.cells aa ca ac cc∧Strs w aa s.asks∧Cases w ac s.cases∧s.asks.length<=ca
theorem StepIs.kept {w w':World} {cs:List Value} {s:Xj} (h:StepIs w cs s) (k:K_ w w'):StepIs w' cs s:=by
 obtain ⟨aa,ca,ac,cc,e,h1,h2,h3⟩:=h
 exact ⟨aa,ca,ac,cc,e,h1.kept k,h2.kept k,h3⟩
def Steps (w:World) (a:Option Addr) (l:List Xj):Prop:=
 ∀i,i < l.length->∃b o cs,a=some ⟨b,o,none⟩∧b < w.heap.size∧w.rangeAt b (o+i * 8) cs∧StepIs w cs (l.getD i Xj.zero)
theorem Steps.kept {w w':World} {a:Option Addr} {l:List Xj} (h:Steps w a l) (k:K_ w w'):Steps w' a l:=by
 intro i hi
 obtain ⟨b,o,cs,ha,hb,hc,hs⟩:=h i hi
 exact ⟨b,o,cs,ha,Nat.lt_of_lt_of_le hb k.size,k.range hb hc,hs.kept k⟩
structure Xj.Fits (s:Xj):Prop where
 asks:s.asks.length<=maxLen
 askEach: ∀x∈s.asks,x.size<=maxLen
 on:In64 s.on
 cases:s.cases.length<=maxLen
 caseEach: ∀c∈s.cases,c.text.size<=maxLen∧In64 c.goto
 els:In64 s.els
 fall:In64 s.fall
 give:s.give.size<=maxLen
def szL (n:Nat) (left:Int):Int:=if (n:Int)<=left then left - n else -1
theorem szL_pos {n:Nat} {left:Int} (h: (n:Int)<=left):szL n left=left - n:=by simp [szL,h]
theorem szL_neg {n:Nat} {left:Int} (h:left < (n:Int)):szL n left= -1:=by simp [szL];omega
theorem ret_int {k:IntKind} {a b:Int} (h:a=b):Ending.returned (.int k a)= .returned (.int k b):=by rw [h]
def sumTo {α:Type} (f:α->Nat) (l:List α) (k:Nat):Nat:= ((l.take k).map f).sum
theorem sumTo_zero {α:Type} (f:α->Nat) (l:List α):sumTo f l 0=0:=by simp [sumTo]
theorem sumTo_succ {α:Type} (f:α->Nat) (l:List α) (d:α) (k:Nat) (h:k < l.length):sumTo f l (k+1)=sumTo f l k+f (l.getD k d):=by
 unfold sumTo
 rw [List.take_succ_eq_append_getElem h,List.map_append,List.sum_append]
 simp [List.getD,h]
theorem sumTo_all {α:Type} (f:α->Nat) (l:List α):sumTo f l l.length= (l.map f).sum:=by simp [sumTo]
theorem sumTo_le {α:Type} (f:α->Nat) (l:List α) (k:Nat):sumTo f l k<=(l.map f).sum:=by
 have e: (l.map f).sum= ((l.take k).map f).sum+ ((l.drop k).map f).sum:=by rw [<-List.sum_append,<-List.map_append,List.take_append_drop]
 unfold sumTo
 omega
section
variable {α ι : Type} (ready : α -> ι -> Prop) (step : α -> ι -> α)
inductive Leads :α->α->Nat->Prop
 | here (s:α):Leads s s 0
 | step (s t:α) (i: ι) (k:Nat) (h:ready s i) (r:Leads (step s i) t k):Leads s t (k+1)
def Commutes :Prop:= ∀s i j,i≠j->ready s i->ready s j->ready (step s i) j∧step (step s i) j=step (step s j) i
def AtEnd (s:α):Prop:= ∀i,¬ready s i
variable {ready step}
theorem Leads.trans {s t u:α} {k l:Nat} (h:Leads ready step s t k) (g:Leads ready step t u l):Leads ready step s u (k+l):=by
 induction h with
 | here s=> simpa using g
 | step s t i k h _ ih=> rw [show k+1+l=k+l+1 by omega];exact .step s u i _ h (ih g)
theorem Leads.one {s:α} {i: ι} (h:ready s i):Leads ready step s (step s i) 1:= .step s _ i 0 h (.here _)
theorem Leads.snoc {s t:α} {k:Nat} (h:Leads ready step s t k) {i: ι} (hi:ready t i):Leads ready step s (step t i) (k+1):=h.trans (.one hi)
theorem Leads.first (hc:Commutes ready step): ∀{k:Nat} {s t:α},Leads ready step s t k->AtEnd ready t->∀{i: ι},ready s i->∃m,k=m+1∧Leads ready step (step s i) t m:=by
 intro k
 induction k with
 | zero=>
  intro s t h he i hi
  cases h
  exact absurd hi (he i)
 | succ k ih=>
  intro s t h he i hi
  cases h with
  | step _ _ j _ hj hr=>
   by_cases e:j=i
   ·subst e
    exact ⟨k,rfl,hr⟩
   ·obtain ⟨h1,h2⟩:=hc s i j (Ne.symm e) hi hj
    obtain ⟨h3,_⟩:=hc s j i e hj hi
    obtain ⟨m,hm,hl⟩:=ih hr he h3
    refine ⟨k,rfl, ?_⟩
    rw [hm]
    refine .step _ _ j _ h1 ?_
    rw [h2]
    exact hl
theorem Leads.unique (hc:Commutes ready step): ∀{k l:Nat} {s t u:α},Leads ready step s t k->AtEnd ready t->Leads ready step s u l->AtEnd ready u->t=u:=by
 intro k
 induction k with
 | zero=>
  intro l s t u h ht g hu
  cases h
  cases g with
  | here=> rfl
  | step _ _ j _ hj _=> exact absurd hj (ht j)
 | succ k ih=>
  intro l s t u h ht g hu
  cases h with
  | step _ _ j _ hj hr=>
   obtain ⟨m,_,hl⟩:=g.first hc hu hj
   exact ih hr ht hl hu
theorem Leads.keeps {P:α->Prop} (hp: ∀s i,P s->ready s i->P (step s i)) {s t:α} {k:Nat} (h:Leads ready step s t k) (h0:P s):P t:=by
 induction h with
 | here s=> exact h0
 | step s t i k h _ ih=> exact ih (hp s i h0 h)
theorem Leads.wide {ready':α-> ι ->Prop} (hw: ∀s i,ready s i->ready' s i) {s t:α} {k:Nat} (h:Leads ready step s t k):Leads ready' step s t k:=by
 induction h with
 | here s=> exact .here s
 | step s t i k h _ ih=> exact .step s t i k (hw s i h) ih
end
structure Xq where
 fail:Bool
 text:ByteArray
def Xq.zero :Xq:= ⟨false,ByteArray.empty⟩
def Xq.cells (c:Xq):List Value:=[.bool c.fail,.string c.text]
theorem Xq.one (c:Xq): (#[.bool c.fail,.string c.text]:Array Value).all (·.oneCell')=true:=
 all_oneCell_toArray (cs:=[.bool c.fail,.string c.text]) (by simp [Value.oneCell'])
def Answers (w:World) (a:Option Addr) (l:List Xq):Prop:=
 ∀i,i < l.length->∃b o,a=some ⟨b,o,none⟩∧b < w.heap.size∧w.rangeAt b (o+i * 2) (l.getD i Xq.zero).cells
theorem Answers.kept {w w':World} {a:Option Addr} {l:List Xq} (h:Answers w a l) (k:K_ w w'):Answers w' a l:=by
 intro i hi
 obtain ⟨b,o,ha,hb,hc⟩:=h i hi
 exact ⟨b,o,ha,Nat.lt_of_lt_of_le hb k.size,k.range hb hc⟩
theorem Answers.setCell {w:World} {b o:Nat} {l:List Xq} (h:Answers w (some ⟨b,o,none⟩) l) {p:Addr} (hp:p.block≠b) (v:Value):Answers (w.setCell p v) (some ⟨b,o,none⟩) l:=by
 intro i hi
 obtain ⟨b',o',e,hb,hc⟩:=h i hi
 simp only [Option.some.injEq,Addr.mk.injEq,and_true] at e
 obtain ⟨rfl,rfl⟩:=e
 exact ⟨_,_,rfl,by rw [size_setCell];exact hb,fun j u hu=> by rw [World.cell?_setCell_other _ _ _ _ (fun e=> hp (by rw [e]))];exact hc j u hu⟩
theorem Answers.setCells {b o:Nat} {l:List Xq} {g:Nat} (hg:g≠b): ∀(vs:List Value) (k:Nat) {w:World},Answers w (some ⟨b,o,none⟩) l->Answers (w.setCells g k vs) (some ⟨b,o,none⟩) l
 | [],_,_,h=> h
 | v :: r,k,_,h=> by
  rw [World.setCells]
  exact Answers.setCells hg r (k+1) (h.setCell (p:= ⟨g,k,none⟩) hg v)
def Says (e:Ending) (p:Prop):Prop:= ∃r,e= .returned (.bool r)∧(r=true↔p)
theorem Says.yes {p:Prop} (h:p):Says (.returned (.bool true)) p:= ⟨true,rfl,by simp [h]⟩
theorem Says.no {p:Prop} (h: ¬p):Says (.returned (.bool false)) p:= ⟨false,rfl,by simp [h]⟩
theorem Says.cases {e:Ending} {p:Prop} (h:Says e p): (e= .returned (.bool true)∧p)∨(e= .returned (.bool false)∧¬p):=by
 obtain ⟨r,rfl,hr⟩:=h
 cases r
 ·right;exact ⟨rfl,fun hp=> by simpa using hr.2 hp⟩
 ·left;exact ⟨rfl,hr.1 rfl⟩
theorem Says.dec (p:Prop) [Decidable p]:Says (.returned (.bool (decide p))) p:= ⟨decide p,rfl,by simp⟩
theorem Says.congr {e:Ending} {p q:Prop} (h:Says e p) (hpq:p↔q):Says e q:=by
 obtain ⟨r,rfl,hr⟩:=h
 exact ⟨r,rfl,hr.trans hpq⟩
theorem bytes_eq {s t:ByteArray}: (t.toList == s.toList)=true↔t=s:=by
 rw [ByteArray.toList_eq,ByteArray.toList_eq]
 constructor
 ·intro h
  cases s;cases t
  simp at h
  simp [h]
 ·rintro rfl
  simp
theorem bytes_ne {s t:ByteArray} (h: (t.toList == s.toList)=false):t≠s:=fun e=> by rw [bytes_eq.2 e] at h;cases h
theorem empty_iff (s:ByteArray):s.toList=[]↔s.size=0:=by
 rw [ByteArray.toList_eq,<-List.length_eq_zero_iff,Array.length_toList]
 exact Iff.rfl
def GoodByte (c:UInt8):Prop:=33<=(c.toNat:Int)∧(c.toNat:Int)<=126∧(c.toNat:Int)≠44
def NameOk (s:ByteArray):Prop:=1<=s.size∧s.size<=20∧(s.toList == [45])=false∧∀i (h:i < s.size),GoodByte s[i]
def NamesOk (l:List ByteArray):Prop:= ∀i,i < l.length->NameOk (l.getD i ByteArray.empty)∧∀j,j < i->l.getD j ByteArray.empty≠l.getD i ByteArray.empty
def CaseOk (n:Int) (c:CaseD):Prop:=c.text.size<=200∧0<=c.goto∧c.goto < n
def EndOk (s:Xj):Prop:=s.asks.length=0∧s.on=0∧s.cases.length=0∧s.els=0∧s.fall=0∧s.give.size<=30
def FrontOk (s:Xj) (n:Int):Prop:=
 s.bad=false∧s.give.size=0∧s.asks.length<=5∧NamesOk s.asks∧s.cases.length<=5∧(0<=s.els∧s.els < n)∧(-1<=s.fall∧s.fall < n)∧(s.on=0∨(0<=s.on∧s.on < s.asks.length))
def CaseOkAt (s:Xj) (n:Int) (i:Nat):Prop:=CaseOk n (s.cases.getD i CaseD.zero)
def CasesOk (s:Xj) (n:Int):Prop:= ∀i,i < s.cases.length->CaseOkAt s n i
def AskOk (s:Xj) (n:Int):Prop:=FrontOk s n∧CasesOk s n
def StepOk (s:Xj) (n:Int):Prop:= (s.fin=true->EndOk s)∧(s.fin=false->AskOk s n)
def ActionOk (a:ActionD):Prop:= (1<=a.cost∧a.cost<=20)∧(1<=a.steps.length∧a.steps.length<=20)∧∀i,i < a.steps.length->StepOk (a.steps.getD i Xj.zero) a.steps.length
structure Xk (lo hi:Nat) (w w':World):Prop where
 os:w'.os=w.os
 tape:w'.tape=w.tape
 output:w'.output=w.output
 size:w.heap.size<=w'.heap.size
 block: ∀k,k < w.heap.size->(k < lo∨hi<=k)->w'.heap[k]? =w.heap[k]?
theorem Xk.of_kept {lo hi:Nat} {w w':World} (h:K_ w w'):Xk lo hi w w':= ⟨h.os,h.tape,h.output,h.size,fun k hk _=> h.block k hk⟩
theorem Xk.refl (lo hi:Nat) (w:World):Xk lo hi w w:= .of_kept (K_.refl w)
theorem Xk.trans {lo hi:Nat} {a b c:World} (h:Xk lo hi a b) (k:Xk lo hi b c):Xk lo hi a c:=
 ⟨k.os.trans h.os,k.tape.trans h.tape,k.output.trans h.output,Nat.le_trans h.size k.size,fun i hi' ho=> (k.block i (Nat.lt_of_lt_of_le hi' h.size) ho).trans (h.block i hi' ho)⟩
theorem Xk.mono {lo hi lo' hi':Nat} {a b:World} (h:Xk lo hi a b) (h1:lo'<=lo) (h2:hi<=hi'):Xk lo' hi' a b:=
 ⟨h.os,h.tape,h.output,h.size,fun k hk ho=> h.block k hk (by omega)⟩
theorem Xk.drew {lo hi:Nat} {a b:World} (h:Xk lo hi a b):Xk lo hi a b.drew:= ⟨h.os,h.tape,h.output,h.size,h.block⟩
theorem Xk.drewN {lo hi:Nat} {a b:World} (h:Xk lo hi a b) (n:Nat):Xk lo hi a (b.drewN n):= ⟨h.os,h.tape,h.output,h.size,h.block⟩
theorem Xk.alloc {lo hi:Nat} {a b:World} (h:Xk lo hi a b) (o:Obj):Xk lo hi a (b.alloc o):=h.trans (.of_kept ((K_.refl b).alloc o))
theorem Xk.setCell {lo hi:Nat} {a b:World} (h:Xk lo hi a b) {p:Addr} (h1:lo<=p.block) (h2:p.block < hi) (v:Value):Xk lo hi a (b.setCell p v):=
 ⟨h.os,h.tape,h.output,by rw [size_setCell];exact h.size,fun k hk ho=> by rw [Below.heap_setCell _ _ _ _ (by omega)];exact h.block k hk ho⟩
theorem Xk.kept {lo hi:Nat} {w a b:World} (h:Xk lo hi a b) (hk:K_ w a) (hlo:w.heap.size<=lo):K_ w b:=
 ⟨h.os.trans hk.os,h.tape.trans hk.tape,h.output.trans hk.output,Nat.le_trans hk.size h.size,fun k hk'=> (h.block k (Nat.lt_of_lt_of_le hk' hk.size) (by omega)).trans (hk.block k hk')⟩
def Same (lo hi:Nat) (w w':World):Prop:= ∀b,lo<=b->b < hi->b < w.heap.size->w'.heap[b]? =w.heap[b]?
theorem Same.mono {lo hi lo' hi':Nat} {w w':World} (h:Same lo hi w w') (h1:lo<=lo') (h2:hi'<=hi):Same lo' hi' w w':=fun b hb hb' hs=> h b (by omega) (by omega) hs
theorem K_.same {w w':World} (h:K_ w w') (lo hi:Nat):Same lo hi w w':=fun b _ _ hs=> h.block b hs
theorem Xk.same {lo hi:Nat} {w w':World} (h:Xk lo hi w w') {l2 h2:Nat} (hd:h2<=lo∨hi<=l2):Same l2 h2 w w':=fun b _ _ hs=> h.block b hs (by omega)
theorem Same.setCell {lo hi:Nat} (w:World) {p:Addr} (hp:p.block < lo∨hi<=p.block) (v:Value):Same lo hi w (w.setCell p v):=fun b _ _ _=> Below.heap_setCell _ _ _ _ (by omega)
theorem Same.cell {lo hi:Nat} {w w':World} (h:Same lo hi w w') {b o:Nat} (h1:lo<=b) (h2:b < hi) (h3:b < w.heap.size):w'.cell? ⟨b,o,none⟩=w.cell? ⟨b,o,none⟩:=World.cell?_of_block (w:=w) (h b h1 h2 h3)
theorem Same.row {lo hi:Nat} {w w':World} (h:Same lo hi w w') {b n:Nat} (h1:lo<=b) (h2:b < hi) (hr:Row w b n):Row w' b n:=by
 have hl:=hr.lt
 obtain ⟨t,f,hr⟩:=hr
 exact ⟨t,f,hr.of_block (h b h1 h2 hl)⟩
theorem Same.range {lo hi:Nat} {w w':World} (h:Same lo hi w w') {b o:Nat} {cs:List Value} (h1:lo<=b) (h2:b < hi) (h3:b < w.heap.size) (hr:w.rangeAt b o cs):w'.rangeAt b o cs:=
 fun j v hv=> by rw [h.cell h1 h2 h3];exact hr j v hv
def StrsIn (w:World) (lo hi:Nat) (a:Option Addr) (l:List ByteArray):Prop:=
 l=[]∨∃b,a=some ⟨b,0,none⟩∧lo<=b∧b < hi∧Row w b l.length∧∀i,i < l.length->w.cell? ⟨b,i,none⟩=some (.string (l.getD i ByteArray.empty))
theorem StrsIn.same {w w':World} {lo hi:Nat} {a:Option Addr} {l:List ByteArray} (h:StrsIn w lo hi a l) (k:Same lo hi w w'):StrsIn w' lo hi a l:=by
 rcases h with h | ⟨b,ha,h1,h2,hr,hc⟩
 ·exact .inl h
 ·exact .inr ⟨b,ha,h1,h2,k.row h1 h2 hr,fun i hi=> by rw [k.cell h1 h2 hr.lt];exact hc i hi⟩
theorem StrsIn.mono {w:World} {lo hi lo' hi':Nat} {a:Option Addr} {l:List ByteArray} (h:StrsIn w lo hi a l) (h1:lo'<=lo) (h2:hi<=hi'):StrsIn w lo' hi' a l:=by
 rcases h with h | ⟨b,ha,g1,g2,hr,hc⟩
 ·exact .inl h
 ·exact .inr ⟨b,ha,by omega,by omega,hr,hc⟩
theorem StrsIn.strs {w:World} {lo hi:Nat} {a:Option Addr} {l:List ByteArray} (h:StrsIn w lo hi a l):Strs w a l:=by
 rcases h with rfl | ⟨b,ha,h1,h2,hr,hc⟩
 ·intro i hi
  simp at hi
 ·intro i hi
  exact ⟨b,0,ha,hr.lt,by rw [Nat.zero_add];exact hc i hi⟩
def CasesIn (w:World) (lo hi:Nat) (a:Option Addr) (l:List CaseD):Prop:=
 l=[]∨∃b,a=some ⟨b,0,none⟩∧lo<=b∧b < hi∧Row w b (l.length * 2)∧∀i,i < l.length->w.rangeAt b (i * 2) (l.getD i CaseD.zero).cells
theorem CasesIn.same {w w':World} {lo hi:Nat} {a:Option Addr} {l:List CaseD} (h:CasesIn w lo hi a l) (k:Same lo hi w w'):CasesIn w' lo hi a l:=by
 rcases h with h | ⟨b,ha,h1,h2,hr,hc⟩
 ·exact .inl h
 ·exact .inr ⟨b,ha,h1,h2,k.row h1 h2 hr,fun i hi=> k.range h1 h2 hr.lt (hc i hi)⟩
theorem CasesIn.mono {w:World} {lo hi lo' hi':Nat} {a:Option Addr} {l:List CaseD} (h:CasesIn w lo hi a l) (h1:lo'<=lo) (h2:hi<=hi'):CasesIn w lo' hi' a l:=by
 rcases h with h | ⟨b,ha,g1,g2,hr,hc⟩
 ·exact .inl h
 ·exact .inr ⟨b,ha,by omega,by omega,hr,hc⟩
theorem CasesIn.cases {w:World} {lo hi:Nat} {a:Option Addr} {l:List CaseD} (h:CasesIn w lo hi a l):Cases w a l:=by
 rcases h with rfl | ⟨b,ha,h1,h2,hr,hc⟩
 ·intro i hi
  simp at hi
 ·intro i hi
  exact ⟨b,0,ha,hr.lt,by rw [Nat.zero_add];exact hc i hi⟩
def StepIn (w:World) (B j lo hi:Nat) (s:Xj):Prop:=
 ∃aa ca ac cc mid,lo<=mid∧mid<=hi∧w.rangeAt B (j * 8) (s.cells aa ca ac cc)∧StrsIn w lo mid aa s.asks∧CasesIn w mid hi ac s.cases∧s.asks.length<=ca
theorem StepIn.same {w w':World} {B j lo hi:Nat} {s:Xj} (h:StepIn w B j lo hi s) (k:Same lo hi w w') (hB:w'.rangeAt B (j * 8)=w.rangeAt B (j * 8)):StepIn w' B j lo hi s:=by
 obtain ⟨aa,ca,ac,cc,mid,h1,h2,h3,h4,h5,h6⟩:=h
 exact ⟨aa,ca,ac,cc,mid,h1,h2,by rw [hB];exact h3,h4.same (k.mono (Nat.le_refl _) h2),h5.same (k.mono h1 (Nat.le_refl _)),h6⟩
def StepsIn (w:World) (lo hi:Nat) (a:Option Addr) (l:List Xj):Prop:=
 l=[]∨∃(b:Nat) (c:Nat->Nat),a=some ⟨b,0,none⟩∧lo<=b∧b < c 0∧c l.length<=hi∧Row w b (l.length * 8)∧(∀i j,i<=j->c i<=c j)∧∀i,i < l.length->StepIn w b i (c i) (c (i+1)) (l.getD i Xj.zero)
theorem rangeAt_of_block {w w':World} {b:Nat} (h:w'.heap[b]? =w.heap[b]?) (o:Nat):w'.rangeAt b o=w.rangeAt b o:=by
 funext cs
 unfold World.rangeAt
 have hc: ∀j,w'.cell? ⟨b,j,none⟩=w.cell? ⟨b,j,none⟩:=fun j=> World.cell?_of_block (w:=w) h
 simp only [hc]
theorem StepsIn.same {w w':World} {lo hi:Nat} {a:Option Addr} {l:List Xj} (h:StepsIn w lo hi a l) (k:Same lo hi w w'):StepsIn w' lo hi a l:=by
 rcases h with h | ⟨b,c,ha,h1,h2,h3,hr,hm,hc⟩
 ·exact .inl h
 ·have hbh:b < hi:=Nat.lt_of_lt_of_le h2 (Nat.le_trans (hm 0 _ (Nat.zero_le _)) h3)
  refine .inr ⟨b,c,ha,h1,h2,h3,k.row h1 hbh hr,hm,fun i hi'=> (hc i hi').same (k.mono ?_ ?_) (rangeAt_of_block (k b h1 hbh hr.lt) _)⟩
  ·have:=hm 0 i (Nat.zero_le _);omega
  ·have:=hm (i+1) l.length (by omega);omega
theorem StepsIn.mono {w:World} {lo hi lo' hi':Nat} {a:Option Addr} {l:List Xj} (h:StepsIn w lo hi a l) (h1:lo'<=lo) (h2:hi<=hi'):StepsIn w lo' hi' a l:=by
 rcases h with h | ⟨b,c,ha,g1,g2,g3,hr,hm,hc⟩
 ·exact .inl h
 ·exact .inr ⟨b,c,ha,by omega,g2,by omega,hr,hm,hc⟩
theorem StepsIn.steps {w:World} {lo hi:Nat} {a:Option Addr} {l:List Xj} (h:StepsIn w lo hi a l):Steps w a l:=by
 rcases h with rfl | ⟨b,c,ha,h1,h2,h3,hr,hm,hc⟩
 ·intro i hi
  simp at hi
 ·intro i hi
  obtain ⟨aa,ca,ac,cc,mid,g1,g2,g3,g4,g5,g6⟩:=hc i hi
  exact ⟨b,0,_,ha,hr.lt,by rw [Nat.zero_add];exact g3,aa,ca,ac,cc,rfl,g4.strs,g5.cases,g6⟩
theorem Row.at {w:World} {b n i:Nat} (h:Row w b n) (hi:i < n): (∃v,w.cell? ⟨b,i,none⟩=some v)∧w.frozen? ⟨b,i,none⟩=false:=by
 obtain ⟨t,f,h⟩:=h
 exact ⟨⟨_,h.cell hi⟩,h.frozen i⟩
theorem set_hit {w:World} {b n o:Nat} (h:Row w b n) (ho:o < n) (v:Value): (w.setCell ⟨b,o,none⟩ v).cell? ⟨b,o,none⟩=some v:=by
 obtain ⟨⟨old,hc⟩,_⟩:=h.at ho
 exact World.cell?_setCell_same _ _ _ hc
theorem Xx {w:World} {b o p:Nat} (hn:o≠p) (v:Value): (w.setCell ⟨b,o,none⟩ v).cell? ⟨b,p,none⟩=w.cell? ⟨b,p,none⟩:=
 World.cell?_setCell_other _ _ _ _ (by simp <;> omega)
theorem ownsRow_kept' {w w':World} {base size:Nat} {e:TypeId} {v:Value} {n:Nat} {xs:List Value} (h:w.ownsRow base e size v n xs) (k:K_ w w'):w'.ownsRow base e size v n xs:=
 h.kept (row:=none) ⟨k.os,k.tape,k.output,k.size,fun i hi _=> k.block i hi⟩ (by cases v.ownBlock <;> simp)
theorem owns_set {w:World} {base size:Nat} {e:TypeId} {v:Value} {n:Nat} {xs:List Value} (h:w.ownsRow base e size v n xs) {p:Addr} (hp:p.block < base) (u:Value): (w.setCell p u).ownsRow base e size v n xs:=by
 refine ⟨h.1, ?_⟩
 rcases h.2 with h2 | ⟨g,cap,cur,rfl,hb,hg,rest⟩
 ·exact .inl h2
 ·exact .inr ⟨g,cap,cur,rfl,hb,by rw [Below.heap_setCell _ _ _ _ (by omega)];exact hg,rest⟩
theorem kept_of_grown {w0 w w':World} {v:Value} {base:Nat} {e:TypeId} {n:Nat} {xs:List Value} {size:Nat} (k:K_ w0 w) (hb:w0.heap.size<=base) (h:w.ownsRow base e size v n xs) (g:w.grownBy w' v.ownBlock):K_ w0 w':=
 Below.grown k g k.size (fun b hb'=> Nat.le_trans hb (h.lt b hb').1)
theorem owns_base {w:World} {base base' size:Nat} {e:TypeId} {v:Value} {n:Nat} {xs:List Value} (h:w.ownsRow base e size v n xs) (hb:base'<=base):w.ownsRow base' e size v n xs:=by
 refine ⟨h.1, ?_⟩
 rcases h.2 with h2 | ⟨g,cap,cur,rfl,hb',rest⟩
 ·exact .inl h2
 ·exact .inr ⟨g,cap,cur,rfl,Nat.le_trans hb hb',rest⟩
theorem Xk.of_grown {W w2:World} {g:Nat} (h:W.grownBy w2 (some g)):Xk g (g+1) W w2:=
 ⟨h.os,h.tape,h.output,h.size,fun k hk ho=> h.block k hk (by simp;omega)⟩
def SameKind (t:TypeId) (w w':World):Prop:= ∀(b:Nat) (cur:Array Value) (u:TypeId) (fr:Nat×Nat),u≠t->w.heap[b]? =some (Obj.cells cur u fr)->w'.heap[b]? =some (Obj.cells cur u fr)
theorem heap_lt {w:World} {b:Nat} {o:Obj} (h:w.heap[b]? =some o):b < w.heap.size:= (Array.getElem?_eq_some_iff.1 h).1
theorem SameKind.refl (t:TypeId) (w:World):SameKind t w w:=fun _ _ _ _ _ h=> h
theorem SameKind.trans {t:TypeId} {a b c:World} (h:SameKind t a b) (k:SameKind t b c):SameKind t a c:=fun x cur u fr hu hb=> k x cur u fr hu (h x cur u fr hu hb)
theorem SameKind.of_kept {t:TypeId} {w w':World} (h:K_ w w'):SameKind t w w':=fun b cur u fr _ hb=> by rw [h.block b (heap_lt hb)];exact hb
theorem SameKind.of_grown {t:TypeId} {w w':World} {v:Value} {base n size:Nat} {xs:List Value} (h:w.ownsRow base t size v n xs) (g:w.grownBy w' v.ownBlock):SameKind t w w':=by
 intro b cur u fr hu hb
 rw [g.block b (heap_lt hb) ?_]
 ·exact hb
 ·intro e
  rcases h.2 with ⟨rfl,_⟩ | ⟨g',cap,cur',rfl,_,hg',_⟩
  ·simp [Value.ownBlock] at e
  ·simp only [Value.ownBlock,Option.some.injEq] at e
   subst e
   rw [hb] at hg'
   simp only [Option.some.injEq,Obj.cells.injEq] at hg'
   exact hu hg'.2.1
theorem SameKind.setCell {t:TypeId} {w:World} {p:Addr} {cur:Array Value} {fr:Nat×Nat} (h:w.heap[p.block]? =some (Obj.cells cur t fr)) (v:Value):SameKind t w (w.setCell p v):=by
 intro b cur' u fr' hu hb
 rw [Below.heap_setCell _ _ _ _ ?_]
 ·exact hb
 ·intro e
  rw [e,h] at hb
  simp only [Option.some.injEq,Obj.cells.injEq] at hb
  exact hu hb.2.1.symm
def RowT (w:World) (b:Nat) (t:TypeId) (n:Nat):Prop:= ∃cur:Array Value,w.heap[b]? =some (Obj.cells cur t (0,0))∧cur.size=n
theorem RowT.row {w:World} {b n:Nat} {t:TypeId} (h:RowT w b t n):Row w b n:=by
 obtain ⟨cur,h1,h2⟩:=h
 exact ⟨t,fun i=> cur.getD i undef,cur,h1,h2,fun i hi=> by simp [Array.getD,h2,hi]⟩
theorem RowT.made (w:World) (c:Array Value) (t:TypeId):RowT (w.alloc (.cells c t)) w.heap.size t c.size:= ⟨c,heap_alloc_new w _,rfl⟩
theorem RowT.block {w w':World} {b n:Nat} {t:TypeId} (h:RowT w b t n) (k:w'.heap[b]? =w.heap[b]?):RowT w' b t n:=by
 obtain ⟨cur,h1,h2⟩:=h
 exact ⟨cur,k.trans h1,h2⟩
theorem RowT.lt {w:World} {b n:Nat} {t:TypeId} (h:RowT w b t n):b < w.heap.size:=let ⟨_,h1,_⟩:=h;heap_lt h1
theorem RowT.kept {w w':World} {b n:Nat} {t:TypeId} (h:RowT w b t n) (k:K_ w w'):RowT w' b t n:=h.block (k.block b h.lt)
theorem RowT.set {w:World} {b n o:Nat} {t:TypeId} (h:RowT w b t n) (v:Value):RowT (w.setCell ⟨b,o,none⟩ v) b t n:=by
 obtain ⟨cur,h1,h2⟩:=h
 obtain ⟨t',f',c',g1,g2,_⟩:= (RowT.row ⟨cur,h1,h2⟩).set ⟨b,o,none⟩ rfl v
 have:t'=t:=by
  simp only [World.setCell] at g1
  simp [Array.getElem?_modify,h1] at g1
  exact g1.2.symm
 subst this
 exact ⟨c',g1,g2⟩
theorem RowT.same {w:World} {b n o:Nat} {t:TypeId} (h:RowT w b t n) (v:Value):SameKind t w (w.setCell ⟨b,o,none⟩ v):=by
 obtain ⟨cur,h1,_⟩:=h
 exact SameKind.setCell (p:= ⟨b,o,none⟩) h1 v
def TStrs (w:World) (t:TypeId) (a:Option Addr) (l:List ByteArray):Prop:=
 l=[]∨∃b cur fr,a=some ⟨b,0,none⟩∧w.heap[b]? =some (Obj.cells cur t fr)∧∀i,i < l.length->w.cell? ⟨b,i,none⟩=some (.string (l.getD i ByteArray.empty))
def TCases (w:World) (t:TypeId) (a:Option Addr) (l:List CaseD):Prop:=
 l=[]∨∃b cur fr,a=some ⟨b,0,none⟩∧w.heap[b]? =some (Obj.cells cur t fr)∧∀i,i < l.length->w.rangeAt b (i * 2) (l.getD i CaseD.zero).cells
theorem TStrs.same {w w':World} {t u:TypeId} {a:Option Addr} {l:List ByteArray} (h:TStrs w t a l) (k:SameKind u w w') (hu:t≠u):TStrs w' t a l:=by
 rcases h with h | ⟨b,cur,fr,ha,hb,hc⟩
 ·exact .inl h
 ·have hb':=k b cur t fr hu hb
  exact .inr ⟨b,cur,fr,ha,hb',fun i hi=> by rw [World.cell?_of_block (w:=w) (hb'.trans hb.symm)];exact hc i hi⟩
theorem TStrs.strs {w:World} {t:TypeId} {a:Option Addr} {l:List ByteArray} (h:TStrs w t a l):Strs w a l:=by
 rcases h with rfl | ⟨b,cur,fr,ha,hb,hc⟩
 ·intro i hi;simp at hi
 ·exact fun i hi=> ⟨b,0,ha,heap_lt hb,by rw [Nat.zero_add];exact hc i hi⟩
theorem TCases.same {w w':World} {t u:TypeId} {a:Option Addr} {l:List CaseD} (h:TCases w t a l) (k:SameKind u w w') (hu:t≠u):TCases w' t a l:=by
 rcases h with h | ⟨b,cur,fr,ha,hb,hc⟩
 ·exact .inl h
 ·have hb':=k b cur t fr hu hb
  exact .inr ⟨b,cur,fr,ha,hb',fun i hi j v hv=> by rw [World.cell?_of_block (w:=w) (hb'.trans hb.symm)];exact hc i hi j v hv⟩
theorem TCases.cases {w:World} {t:TypeId} {a:Option Addr} {l:List CaseD} (h:TCases w t a l):Cases w a l:=by
 rcases h with rfl | ⟨b,cur,fr,ha,hb,hc⟩
 ·intro i hi;simp at hi
 ·exact fun i hi=> ⟨b,0,ha,heap_lt hb,by rw [Nat.zero_add];exact hc i hi⟩
def TStep (w:World) (ts tc:TypeId) (cs:List Value) (s:Xj):Prop:= ∃aa ca ac cc,cs=s.cells aa ca ac cc∧TStrs w ts aa s.asks∧TCases w tc ac s.cases∧s.asks.length<=ca
theorem TStep.same {w w':World} {ts tc u:TypeId} {cs:List Value} {s:Xj} (h:TStep w ts tc cs s) (k:SameKind u w w') (h1:ts≠u) (h2:tc≠u):TStep w' ts tc cs s:=by
 obtain ⟨aa,ca,ac,cc,e,g1,g2,g3⟩:=h
 exact ⟨aa,ca,ac,cc,e,g1.same k h1,g2.same k h2,g3⟩
def PackedS (w:World) (ts tc:TypeId) (xs:List Value) (l:List Xj):Prop:=
 xs.length=l.length * 8∧∀i,i < l.length->TStep w ts tc ((xs.drop (i * 8)).take 8) (l.getD i Xj.zero)
theorem PackedS.nil (w:World) (ts tc:TypeId):PackedS w ts tc [] []:= ⟨rfl,fun i hi=> by simp at hi⟩
theorem PackedS.same {w w':World} {ts tc u:TypeId} {xs:List Value} {l:List Xj} (h:PackedS w ts tc xs l) (k:SameKind u w w') (h1:ts≠u) (h2:tc≠u):PackedS w' ts tc xs l:=
 ⟨h.1,fun i hi=> (h.2 i hi).same k h1 h2⟩
theorem PackedS.snoc {w:World} {ts tc:TypeId} {xs cs:List Value} {l:List Xj} {k:Nat} (hk:k < l.length) (h:PackedS w ts tc xs (l.take k)) (hc:TStep w ts tc cs (l.getD k Xj.zero)):PackedS w ts tc (xs++cs) (l.take (k+1)):=by
 have hcl:cs.length=8:=by obtain ⟨_,_,_,_,rfl,_⟩:=hc;rfl
 have hl: (l.take k).length=k:=by rw [List.length_take];omega
 have hxl:xs.length=k * 8:=by rw [h.1,hl]
 refine ⟨by rw [List.length_append,List.length_take,hxl,hcl,Nat.min_eq_left (by omega)];omega,fun i hi=> ?_⟩
 rw [List.length_take] at hi
 by_cases e:i < k
 ·have e1: (l.take (k+1)).getD i Xj.zero= (l.take k).getD i Xj.zero:=by simp [List.getD,e,(by omega:i < k+1)]
  have e2: ((xs++cs).drop (i * 8)).take 8= (xs.drop (i * 8)).take 8:=by
   rw [List.drop_append_of_le_length (by omega),List.take_append_of_le_length (by rw [List.length_drop];omega)]
  rw [e1,e2]
  exact h.2 i (by rw [hl];exact e)
 ·obtain rfl:i=k:=by omega
  have e1: (l.take (i+1)).getD i Xj.zero=l.getD i Xj.zero:=by simp [List.getD]
  have e2: ((xs++cs).drop (i * 8)).take 8=cs:=by
   rw [<-hxl,List.drop_left,List.take_of_length_le (by omega)]
  rw [e1,e2]
  exact hc
def TSteps (w:World) (t ts tc:TypeId) (v:Value) (l:List Xj):Prop:= ∃base xs,w.ownsRow base t 8 v l.length xs∧PackedS w ts tc xs l
theorem owns_kept {w w':World} {base size:Nat} {e:TypeId} {v:Value} {n:Nat} {xs:List Value} (h:w.ownsRow base e size v n xs) {u:TypeId} (k:SameKind u w w') (hu:e≠u):w'.ownsRow base e size v n xs:=by
 refine ⟨h.1, ?_⟩
 rcases h.2 with h2 | ⟨g,cap,cur,rfl,hb,hg,rest⟩
 ·exact .inl h2
 ·exact .inr ⟨g,cap,cur,rfl,hb,k g cur e _ hu hg,rest⟩
theorem TSteps.same {w w':World} {t ts tc u:TypeId} {v:Value} {l:List Xj} (h:TSteps w t ts tc v l) (k:SameKind u w w') (h0:t≠u) (h1:ts≠u) (h2:tc≠u):TSteps w' t ts tc v l:=by
 obtain ⟨base,xs,g1,g2⟩:=h
 exact ⟨base,xs,owns_kept g1 k h0,g2.same k h1 h2⟩
theorem TSteps.steps {w:World} {t ts tc:TypeId} {v:Value} {l:List Xj} (h:TSteps w t ts tc v l): ∃a cap,v= .slice a l.length cap∧Steps w a l:=by
 obtain ⟨base,xs,g1,g2⟩:=h
 rcases g1.2 with ⟨rfl,h0⟩ | ⟨g,cap,cur,rfl,hb,hg,hnc,_,_,_⟩
 ·exact ⟨none,0,by rw [h0],fun i hi=> by omega⟩
 ·refine ⟨_,cap,rfl,fun i hi=> ?_⟩
  obtain ⟨aa,ca,ac,cc,e,s1,s2,s3⟩:=g2.2 i hi
  refine ⟨g,0,_,rfl,heap_lt hg,fun j u hu=> ?_,aa,ca,ac,cc,rfl,s1.strs,s2.cases,s3⟩
  rw [<-e] at hu
  have hj:j < 8:=by have:= (List.getElem?_eq_some_iff.1 hu).1;rw [List.length_take] at this;omega
  rw [List.getElem?_take,if_pos hj,List.getElem?_drop] at hu
  have:=g1.cells (g:=g) rfl _ _ hu
  rw [Addr.add_mid] at this
  rw [Nat.zero_add] at this⊢
  exact this
theorem own_slice {w:World} {base size:Nat} {e:TypeId} {v:Value} {n:Nat} {xs:List Value} (h:w.ownsRow base e size v n xs): ∃a cap,v= .slice a n cap:=by
 rcases h.2 with ⟨rfl,rfl⟩ | ⟨g,cap,cur,rfl,_⟩
 ·exact ⟨none,0,rfl⟩
 ·exact ⟨_,cap,rfl⟩
theorem Xz (w:World) (c:Array Value) (t:TypeId): (w.alloc (.cells c t)).rangeAt w.heap.size 0 c.toList:=fun j v hv=> by
 rw [Nat.zero_add,World.cell?_alloc_mark]
 simpa using hv
theorem Xk.below {lo hi:Nat} {w wr w6:World} (h:Xk lo hi w wr) (b:Below w.heap.size wr w6):Xk lo hi w w6:=
 ⟨b.os.trans h.os,b.tape.trans h.tape,b.output.trans h.output,Nat.le_trans h.size b.size,fun k hk ho=> (b.block k hk).trans (h.block k hk ho)⟩
section
variable {α : Type} {ah : α -> α -> Bool}
structure Ahead (ah:α->α->Bool):Prop where
 irr: ∀x,ah x x=false
 tr: ∀x y z,ah x y=true->ah y z=true->ah x z=true
 ntr: ∀x y z,ah y x=false->ah z y=false->ah z x=false
theorem Ahead.not_tr (h:Ahead ah) {x y z:α} (h1:ah y x=false) (h2:ah z y=false):ah z x=false:=h.ntr x y z h1 h2
theorem Ahead.asym (h:Ahead ah) {x y:α} (h1:ah x y=true):ah y x=false:=by
 cases e:ah y x
 ·rfl
 ·have:=h.tr x y x h1 e
  rw [h.irr] at this
  cases this
def parH (i:Nat):Nat:= (i - 1) / 2
def swp (f:Nat->α) (a b:Nat):Nat->α:=fun i=> if i=a then f b else if i=b then f a else f i
def MemH (f:Nat->α) (n:Nat) (x:α):Prop:= ∃i,i < n∧f i=x
def InjH (f:Nat->α) (n:Nat):Prop:= ∀i j,i < n->j < n->f i=f j->i=j
def HeapH (ah:α->α->Bool) (f:Nat->α) (n:Nat):Prop:= ∀i,0 < i->i < n->ah (f i) (f (parH i))=false
theorem swp_mem {f:Nat->α} {n a b:Nat} (ha:a < n) (hb:b < n) (x:α):MemH (swp f a b) n x↔MemH f n x:=by
 constructor
 ·rintro ⟨i,hi,e⟩
  unfold swp at e
  by_cases h1:i=a
  ·rw [if_pos h1] at e;exact ⟨b,hb,e⟩
  ·rw [if_neg h1] at e
   by_cases h2:i=b
   ·rw [if_pos h2] at e;exact ⟨a,ha,e⟩
   ·rw [if_neg h2] at e;exact ⟨i,hi,e⟩
 ·rintro ⟨i,hi,e⟩
  by_cases h1:i=a
  ·by_cases h2:b=a
   ·exact ⟨a,ha,by unfold swp;rw [if_pos rfl,h2,<-h1];exact e⟩
   ·exact ⟨b,hb,by unfold swp;rw [if_neg h2,if_pos rfl,<-h1];exact e⟩
  ·by_cases h2:i=b
   ·exact ⟨a,ha,by unfold swp;rw [if_pos rfl,<-h2];exact e⟩
   ·exact ⟨i,hi,by unfold swp;rw [if_neg h1,if_neg h2];exact e⟩
def tauH (a b i:Nat):Nat:=if i=a then b else if i=b then a else i
theorem tau_lt {n a b i:Nat} (ha:a < n) (hb:b < n) (hi:i < n):tauH a b i < n:=by
 unfold tauH
 split
 ·exact hb
 ·split
  ·exact ha
  ·exact hi
theorem tau_tau (a b i:Nat):tauH a b (tauH a b i)=i:=by
 unfold tauH
 by_cases h1:i=a
 ·rw [if_pos h1]
  by_cases h2:b=a
  ·rw [if_pos h2];omega
  ·rw [if_neg h2,if_pos rfl];omega
 ·rw [if_neg h1]
  by_cases h2:i=b
  ·rw [if_pos h2,if_pos rfl];omega
  ·rw [if_neg h2,if_neg h1,if_neg h2]
theorem swp_tau (f:Nat->α) (a b i:Nat):swp f a b i=f (tauH a b i):=by
 unfold swp tauH
 split
 ·rfl
 ·split <;> rfl
theorem swp_inj {f:Nat->α} {n a b:Nat} (ha:a < n) (hb:b < n) (h:InjH f n):InjH (swp f a b) n:=by
 intro i j hi hj e
 rw [swp_tau,swp_tau] at e
 have:=h _ _ (tau_lt ha hb hi) (tau_lt ha hb hj) e
 rw [<-tau_tau a b i,this,tau_tau]
def UpH (ah:α->α->Bool) (f:Nat->α) (n k:Nat):Prop:=
 (∀i,0 < i->i < n->i≠k->ah (f i) (f (parH i))=false)∧∀c,0 < c->c < n->parH c=k->0 < k->ah (f c) (f (parH k))=false
def upF (ah:α->α->Bool):Nat->(Nat->α)->Nat->Nat->α
 | 0,f,_=> f
 | m+1,f,k=> if k=0 then f else if ah (f k) (f (parH k))=true then upF ah m (swp f k (parH k)) (parH k) else f
theorem up_ok (hA:Ahead ah) {n:Nat}: ∀(m:Nat) (f:Nat->α) (k:Nat),k<=m->k < n->UpH ah f n k->HeapH ah (upF ah m f k) n∧(∀x,MemH (upF ah m f k) n x↔MemH f n x)∧(InjH f n->InjH (upF ah m f k) n)
 | 0,f,k,hm,hk,h=> by
  obtain rfl:k=0:=by omega
  exact ⟨fun i h0 hi=> h.1 i h0 hi (by omega),fun _=> Iff.rfl,fun h=> h⟩
 | m+1,f,k,hm,hk,h=> by
  unfold upF
  by_cases h0:k=0
  ·rw [if_pos h0]
   exact ⟨fun i hi0 hi=> h.1 i hi0 hi (by omega),fun _=> Iff.rfl,fun h=> h⟩
  ·rw [if_neg h0]
   by_cases ha:ah (f k) (f (parH k))=true
   ·rw [if_pos ha]
    have hp:parH k < k:=by unfold parH;omega
    have hs:UpH ah (swp f k (parH k)) n (parH k):=by
     constructor
     ·intro i hi0 hi hne
      have hpi:parH i < i:=by unfold parH;omega
      unfold swp
      rw [if_neg hne] 
      by_cases e1:i=k
      ·subst e1
       rw [if_pos rfl,if_neg (by omega),if_pos rfl]
       exact hA.asym ha
      ·rw [if_neg e1]
       by_cases e2:parH i=k
       ·rw [if_pos e2]
        exact h.2 i hi0 hi e2 (by omega)
       ·rw [if_neg e2]
        by_cases e3:parH i=parH k
        ·rw [if_pos e3]
         have g:=h.1 i hi0 hi e1
         rw [e3] at g
         exact hA.not_tr (hA.asym ha) g
        ·rw [if_neg e3]
         exact h.1 i hi0 hi e1
     ·intro c hc0 hc hpc hp0
      have hpp:parH (parH k) < parH k:=by unfold parH at *;omega
      unfold swp
      rw [if_neg (show¬parH (parH k)=k by omega),if_neg (show¬parH (parH k)=parH k by omega)]
      have hcp:parH c < c:=by unfold parH;omega
      rw [if_neg (show¬c=parH k by omega)]
      have g:=h.1 (parH k) hp0 (by omega) (by omega)
      by_cases e1:c=k
      ·rw [if_pos e1];exact g
      ·rw [if_neg e1]
       have g2:=h.1 c hc0 hc e1
       rw [hpc] at g2
       exact hA.not_tr g g2
    obtain ⟨g1,g2,g3⟩:=up_ok hA m (swp f k (parH k)) (parH k) (by omega) (by omega) hs
    exact ⟨g1,fun x=> (g2 x).trans (swp_mem hk (by omega) x),fun hi=> g3 (swp_inj hk (by omega) hi)⟩
   ·rw [if_neg ha]
    refine ⟨fun i hi0 hi=> ?_,fun _=> Iff.rfl,fun h=> h⟩
    by_cases e:i=k
    ·subst e
     cases e2:ah (f i) (f (parH i))
     ·rfl
     ·exact absurd e2 ha
    ·exact h.1 i hi0 hi e
def DownH (ah:α->α->Bool) (f:Nat->α) (n k:Nat):Prop:=
 (∀i,0 < i->i < n->parH i≠k->ah (f i) (f (parH i))=false)∧∀c,0 < c->c < n->parH c=k->0 < k->ah (f c) (f (parH k))=false
def lead1 (ah:α->α->Bool) (f:Nat->α) (n k:Nat):Nat:=if 2 * k+1 < n∧ah (f (2 * k+1)) (f k)=true then 2 * k+1 else k
def leadF (ah:α->α->Bool) (f:Nat->α) (n k:Nat):Nat:=if 2 * k+2 < n∧ah (f (2 * k+2)) (f (lead1 ah f n k))=true then 2 * k+2 else lead1 ah f n k
def downF (ah:α->α->Bool):Nat->(Nat->α)->Nat->Nat->Nat->α
 | 0,f,_,_=> f
 | m+1,f,n,k=> if leadF ah f n k=k then f else downF ah m (swp f k (leadF ah f n k)) n (leadF ah f n k)
theorem leadF_cases (f:Nat->α) (n k:Nat):leadF ah f n k=k∨(leadF ah f n k=2 * k+1∧2 * k+1 < n)∨(leadF ah f n k=2 * k+2∧2 * k+2 < n):=by
 unfold leadF lead1
 by_cases h1:2 * k+1 < n∧ah (f (2 * k+1)) (f k)=true
 ·rw [if_pos h1]
  by_cases h2:2 * k+2 < n∧ah (f (2 * k+2)) (f (2 * k+1))=true
  ·rw [if_pos h2];exact .inr (.inr ⟨rfl,h2.1⟩)
  ·rw [if_neg h2];exact .inr (.inl ⟨rfl,h1.1⟩)
 ·rw [if_neg h1]
  by_cases h2:2 * k+2 < n∧ah (f (2 * k+2)) (f k)=true
  ·rw [if_pos h2];exact .inr (.inr ⟨rfl,h2.1⟩)
  ·rw [if_neg h2];exact .inl rfl
theorem leadF_least (hA:Ahead ah) (f:Nat->α) (n k:Nat):ah (f k) (f (leadF ah f n k))=false∧(2 * k+1 < n->ah (f (2 * k+1)) (f (leadF ah f n k))=false)∧(2 * k+2 < n->ah (f (2 * k+2)) (f (leadF ah f n k))=false)∧(leadF ah f n k≠k->ah (f (leadF ah f n k)) (f k)=true):=by
 have hl1:ah (f k) (f (lead1 ah f n k))=false∧(2 * k+1 < n->ah (f (2 * k+1)) (f (lead1 ah f n k))=false)∧(lead1 ah f n k≠k->ah (f (lead1 ah f n k)) (f k)=true):=by
  unfold lead1
  by_cases h1:2 * k+1 < n∧ah (f (2 * k+1)) (f k)=true
  ·rw [if_pos h1]
   exact ⟨hA.asym h1.2,fun _=> hA.irr _,fun _=> h1.2⟩
  ·rw [if_neg h1]
   refine ⟨hA.irr _,fun hn=> ?_,fun h=> absurd rfl h⟩
   cases e:ah (f (2 * k+1)) (f k)
   ·rfl
   ·exact absurd ⟨hn,e⟩ h1
 unfold leadF
 by_cases h2:2 * k+2 < n∧ah (f (2 * k+2)) (f (lead1 ah f n k))=true
 ·rw [if_pos h2]
  have hs:=hA.asym h2.2
  refine ⟨hA.not_tr hs hl1.1,fun hn=> hA.not_tr hs (hl1.2.1 hn),fun _=> hA.irr _,fun _=> ?_⟩
  by_cases e:lead1 ah f n k=k
  ·have:=h2.2;rw [e] at this;exact this
  ·exact hA.tr _ _ _ h2.2 (hl1.2.2 e)
 ·rw [if_neg h2]
  refine ⟨hl1.1,hl1.2.1,fun hn=> ?_,hl1.2.2⟩
  cases e:ah (f (2 * k+2)) (f (lead1 ah f n k))
  ·rfl
  ·exact absurd ⟨hn,e⟩ h2
theorem par_below {i k:Nat} (h:parH i=k) (h0:0 < i):i=2 * k+1∨i=2 * k+2:=by unfold parH at h;omega
theorem down_ok (hA:Ahead ah) {n:Nat}: ∀(m:Nat) (f:Nat->α) (k:Nat),n<=k+m->(k < n∨n=0)->DownH ah f n k->HeapH ah (downF ah m f n k) n∧(∀x,MemH (downF ah m f n k) n x↔MemH f n x)∧(InjH f n->InjH (downF ah m f n k) n)
 | 0,f,k,hm,hk,h=> by
  refine ⟨fun i h0 hi=> h.1 i h0 hi ?_,fun _=> Iff.rfl,fun h=> h⟩
  unfold parH;omega
 | m+1,f,k,hm,hk,h=> by
  unfold downF
  have hl:=leadF_least hA f n k
  have hc:=leadF_cases (ah:=ah) f n k
  by_cases e:leadF ah f n k=k
  ·rw [if_pos e]
   refine ⟨fun i h0 hi=> ?_,fun _=> Iff.rfl,fun h=> h⟩
   by_cases hp:parH i=k
   ·rw [hp]
    rw [e] at hl
    rcases par_below hp h0 with rfl | rfl
    ·exact hl.2.1 hi
    ·exact hl.2.2.1 hi
   ·exact h.1 i h0 hi hp
  ·rw [if_neg e]
   obtain ⟨q,hq⟩: ∃q,q=leadF ah f n k:= ⟨_,rfl⟩
   rw [<-hq] at hl hc e⊢
   have hqn:q < n∧k < q∧parH q=k∧0 < q:=by
    rcases hc with h1 | ⟨h1,h2⟩ | ⟨h1,h2⟩
    ·exact absurd h1 e
    ·unfold parH;omega
    ·unfold parH;omega
   obtain ⟨hq1,hq2,hq3,hq4⟩:=hqn
   have hlq:=hl.2.2.2 e
   have hs:DownH ah (swp f k q) n q:=by
    constructor
    ·intro i hi0 hi hne
     have hpi:parH i < i:=by unfold parH;omega
     unfold swp
     by_cases e1:i=k
     ·subst e1
      rw [if_pos rfl,if_neg (show¬parH i=i by omega),if_neg hne]
      exact h.2 q hq4 hq1 hq3 hi0
     ·rw [if_neg e1]
      by_cases e2:i=q
      ·subst e2
       rw [if_pos rfl,if_pos hq3]
       exact hl.1
      ·rw [if_neg e2]
       by_cases e3:parH i=k
       ·rw [if_pos e3]
        rcases par_below e3 hi0 with rfl | rfl
        ·exact hl.2.1 hi
        ·exact hl.2.2.1 hi
       ·rw [if_neg e3,if_neg hne]
        exact h.1 i hi0 hi e3
    ·intro c hc0 hcn hpc _
     have hcp:parH c < c:=by unfold parH;omega
     unfold swp
     rw [if_neg (show¬c=k by omega),if_neg (show¬c=q by omega),hq3,if_pos rfl]
     have:=h.1 c hc0 hcn (by omega)
     rw [hpc] at this
     exact this
   obtain ⟨g1,g2,g3⟩:=down_ok hA m (swp f k q) q (by omega) (.inl hq1) hs
   exact ⟨g1,fun x=> (g2 x).trans (swp_mem (by omega) hq1 x),fun hi=> g3 (swp_inj (by omega) hq1 hi)⟩
theorem heap_first (hA:Ahead ah) {f:Nat->α} {n:Nat} (h:HeapH ah f n): ∀i,i < n->ah (f i) (f 0)=false:=by
 intro i
 induction i using Nat.strongRecOn with
 | ind i ih=>
  intro hi
  by_cases h0:i=0
  ·subst h0;exact hA.irr _
  ·have hp:parH i < i:=by unfold parH;omega
   exact hA.not_tr (ih _ hp (by omega)) (h i (by omega) hi)
def putF (ah:α->α->Bool) (f:Nat->α) (n:Nat) (x:α):Nat->α:=upF ah n (fun i=> if i=n then x else f i) n
theorem put_heap (hA:Ahead ah) {f:Nat->α} {n:Nat} {x:α} (h:HeapH ah f n) (hi:InjH f n) (hx: ¬MemH f n x):HeapH ah (putF ah f n x) (n+1)∧(∀y,MemH (putF ah f n x) (n+1) y↔y=x∨MemH f n y)∧InjH (putF ah f n x) (n+1):=by
 have hu:UpH ah (fun i=> if i=n then x else f i) (n+1) n:=by
  constructor
  ·intro i h0 hin hne
   have hp:parH i < i:=by unfold parH;omega
   simp only [if_neg hne,if_neg (show¬parH i=n by omega)]
   exact h i h0 (by omega)
  ·intro c h0 hc hp _
   have:parH c < c:=by unfold parH;omega
   omega
 obtain ⟨g1,g2,g3⟩:=up_ok hA n _ n (Nat.le_refl _) (Nat.lt_succ_self _) hu
 refine ⟨g1,fun y=> (g2 y).trans ⟨?_, ?_⟩,g3 ?_⟩
 ·rintro ⟨i,hin,e⟩
  simp only at e
  by_cases en:i=n
  ·rw [if_pos en] at e;exact .inl e.symm
  ·rw [if_neg en] at e;exact .inr ⟨i,by omega,e⟩
 ·rintro (rfl | ⟨i,hin,e⟩)
  ·exact ⟨n,Nat.lt_succ_self _,by simp⟩
  ·exact ⟨i,by omega,by simp only;rw [if_neg (by omega)];exact e⟩
 ·intro i j hin hjn e
  simp only at e
  by_cases e1:i=n <;> by_cases e2:j=n
  ·omega
  ·rw [if_pos e1,if_neg e2] at e;exact absurd ⟨j,by omega,e.symm⟩ hx
  ·rw [if_neg e1,if_pos e2] at e;exact absurd ⟨i,by omega,e⟩ hx
  ·rw [if_neg e1,if_neg e2] at e;exact hi i j (by omega) (by omega) e
def takeF (ah:α->α->Bool) (f:Nat->α) (n:Nat):Nat->α:=downF ah n (swp f 0 n) n 0
theorem take_heap (hA:Ahead ah) {f:Nat->α} {n:Nat} (h:HeapH ah f (n+1)) (hi:InjH f (n+1)):HeapH ah (takeF ah f n) n∧(∀y,MemH (takeF ah f n) n y↔MemH f (n+1) y∧y≠f 0)∧InjH (takeF ah f n) n:=by
 have hs:DownH ah (swp f 0 n) n 0:=by
  constructor
  ·intro i h0 hin hp
   have hpi:parH i < i:=by unfold parH;omega
   unfold swp
   rw [if_neg (by omega),if_neg (by omega),if_neg hp,if_neg (by omega)]
   exact h i h0 (by omega)
  ·intro c _ _ _ h0
   omega
 obtain ⟨g1,g2,g3⟩:=down_ok hA n (swp f 0 n) 0 (by omega) (by omega) hs
 refine ⟨g1,fun y=> (g2 y).trans ⟨?_, ?_⟩,g3 ?_⟩
 ·rintro ⟨i,hin,e⟩
  unfold swp at e
  by_cases h0:i=0
  ·rw [if_pos h0] at e
   refine ⟨⟨n,Nat.lt_succ_self _,e⟩,fun e2=> ?_⟩
   have:=hi n 0 (by omega) (by omega) (e.trans e2)
   omega
  ·rw [if_neg h0,if_neg (by omega)] at e
   refine ⟨⟨i,by omega,e⟩,fun e2=> ?_⟩
   have:=hi i 0 (by omega) (by omega) (e.trans e2)
   omega
 ·rintro ⟨⟨i,hin,e⟩,hne⟩
  have h0:i≠0:=fun h0=> by subst h0;exact hne e.symm
  by_cases hn:i=n
  ·exact ⟨0,by omega,by unfold swp;rw [if_pos rfl,<-hn];exact e⟩
  ·exact ⟨i,by omega,by unfold swp;rw [if_neg h0,if_neg hn];exact e⟩
 ·intro i j hin hjn e
  exact swp_inj (n:=n+1) (by omega) (by omega) hi i j (by omega) (by omega) e
end
def mdig (k:Nat) (acc:List UInt8):List UInt8:=if k=0 then acc else mdig (k / 10) (UInt8.ofNat (48+k % 10) :: acc)
termination_by k
decreasing_by omega
theorem mdig_zero (acc:List UInt8):mdig 0 acc=acc:=by rw [mdig];simp
theorem mdig_pos {k:Nat} (h:0 < k) (acc:List UInt8):mdig k acc=mdig (k / 10) (UInt8.ofNat (48+k % 10) :: acc):=by rw [mdig,if_neg (by omega)]
def mtext (k:Nat):ByteArray:= ⟨(109 :: mdig k []).toArray⟩
def markStrs (l:List ByteArray) (k:Nat):List ByteArray:=l.mapIdx fun i _=> mtext (k+i)
def markCase (k:Nat):CaseD:= ⟨mtext k,((k+1:Nat):Int)⟩
def markCases (l:List CaseD) (k:Nat):List CaseD:=l.mapIdx fun i _=> markCase (k+i * 2)
def cntStep (s:Xj):Nat:=s.asks.length+s.cases.length * 2+6
def markStep (s:Xj) (k:Nat):Xj:=
 {asks:=markStrs s.asks k,on:= ((k+s.asks.length:Nat):Int),cases:=markCases s.cases (k+s.asks.length+1),
  els:= ((k+s.asks.length+1+s.cases.length * 2:Nat):Int),fall:= ((k+s.asks.length+1+s.cases.length * 2+1:Nat):Int),
  fin:=decide ((k+s.asks.length+1+s.cases.length * 2+2) % 3=0),bad:=decide ((k+s.asks.length+1+s.cases.length * 2+3) % 3=0),
  give:=mtext (k+s.asks.length+1+s.cases.length * 2+4)}
def markSteps (l:List Xj) (k:Nat):List Xj:=l.mapIdx fun i s=> markStep s (k+sumTo cntStep l i)
theorem markStrs_length (l:List ByteArray) (k:Nat): (markStrs l k).length=l.length:=by simp [markStrs]
theorem markCases_length (l:List CaseD) (k:Nat): (markCases l k).length=l.length:=by simp [markCases]
theorem markSteps_length (l:List Xj) (k:Nat): (markSteps l k).length=l.length:=by simp [markSteps]
theorem markStrs_getD (l:List ByteArray) (k i:Nat) (h:i < l.length): (markStrs l k).getD i ByteArray.empty=mtext (k+i):=by simp [markStrs,List.getD,h]
theorem markCases_getD (l:List CaseD) (k i:Nat) (h:i < l.length): (markCases l k).getD i CaseD.zero=markCase (k+i * 2):=by simp [markCases,List.getD,h]
theorem markSteps_getD (l:List Xj) (k i:Nat) (h:i < l.length): (markSteps l k).getD i Xj.zero=markStep (l.getD i Xj.zero) (k+sumTo cntStep l i):=by simp [markSteps,List.getD,h]
section
variable {α : Type} (E : α -> α -> Prop)
inductive WalkN :Nat->α->α->Prop
 | here (a:α):WalkN 0 a a
 | step {n:Nat} {a b c:α} (h:E a b) (r:WalkN n b c):WalkN (n+1) a c
def Far (t:α) (n:Nat) (a:α):Prop:=WalkN E n a t∧∀m,m < n->¬WalkN E m a t
end
section
variable {α : Type} {E : α -> α -> Prop}
theorem WalkN.trans {n m:Nat} {a b c:α} (h:WalkN E n a b) (g:WalkN E m b c):WalkN E (n+m) a c:=by
 induction h with
 | here a=> rw [Nat.zero_add];exact g
 | step h _ ih=> rw [show∀k:Nat,k+1+m=k+m+1 from fun k=> by omega];exact .step h (ih g)
theorem WalkN.one {a b:α} (h:E a b):WalkN E 1 a b:= .step h (.here b)
theorem WalkN.zero {a b:α} (h:WalkN E 0 a b):a=b:=by
 generalize hn: (0:Nat)=n at h
 cases h with
 | here=> rfl
 | step=> cases hn
theorem WalkN.first {n:Nat} {a c:α} (h:WalkN E (n+1) a c): ∃b,E a b∧WalkN E n b c:=by
 generalize hn:n+1=m at h
 cases h with
 | here=> cases hn
 | step h r=> cases hn;exact ⟨_,h,r⟩
theorem WalkN.mono {E':α->α->Prop} (hE: ∀a b,E a b->E' a b) {n:Nat} {a b:α} (h:WalkN E n a b):WalkN E' n a b:=by
 induction h with
 | here a=> exact .here a
 | step h _ ih=> exact .step (hE _ _ h) ih
theorem WalkN.far {t:α}: ∀{n:Nat} {a:α},WalkN E n a t->∃m,m<=n∧Far E t m a:=by
 intro n
 induction n using Nat.strongRecOn with
 | ind n ih=>
  intro a h
  by_cases hm: ∃m,m < n∧WalkN E m a t
  ·obtain ⟨m,h1,h2⟩:=hm
   obtain ⟨q,h3,h4⟩:=ih m h1 h2
   exact ⟨q,by omega,h4⟩
  ·exact ⟨n,Nat.le_refl _,h,fun m h1 h2=> hm ⟨m,h1,h2⟩⟩
theorem Far.unique {t a:α} {n m:Nat} (h:Far E t n a) (g:Far E t m a):n=m:=by
 rcases Nat.lt_trichotomy n m with e | e | e
 ·exact absurd h.1 (g.2 n e)
 ·exact e
 ·exact absurd g.1 (h.2 m e)
theorem Far.zero (t:α):Far E t 0 t:= ⟨.here t,fun _m h=> absurd h (Nat.not_lt_zero _)⟩
theorem Far.at_zero {t a:α} (h:Far E t 0 a):a=t:=h.1.zero
theorem Far.next {t a:α} {n:Nat} (h:Far E t (n+1) a): ∃b,E a b∧Far E t n b:=by
 obtain ⟨b,h1,h2⟩:=h.1.first
 obtain ⟨m,h3,h4⟩:=h2.far
 rcases Nat.lt_or_ge m n with e | e
 ·exact absurd (WalkN.step h1 h4.1) (h.2 (m+1) (by omega))
 ·have:m=n:=by omega
  subst this
  exact ⟨b,h1,h4⟩
end
section
variable {E : Nat -> Nat -> Prop} {t : Nat}
structure Bfs (E:Nat->Nat->Prop) (t:Nat) (A:Nat->Nat) (Q:List Nat):Prop where
 fin: ∀p,A p≠0->Far E t (A p - 1) p
 q: ∀p∈Q,A p≠0
 nd:Q.Nodup
 mono:Q.Pairwise fun p r=> A p<=A r
 two: ∀h l,Q=h :: l->∀r∈Q,A r<=A h+1
 lev: ∀p n,Far E t n p->(Q=[]∨∃h l,Q=h :: l∧n+1<=A h)->A p≠0
 don: ∀p,A p≠0->p∉Q->∀r,E r p->A r≠0∧r≠t
 tar:A t=1
structure BfsIn (E:Nat->Nat->Prop) (t:Nat) (p:Nat) (L:List Nat) (A:Nat->Nat) (Q:List Nat):Prop where
 fin: ∀r,A r≠0->Far E t (A r - 1) r
 q: ∀r∈Q,A r≠0
 nd:Q.Nodup
 mono:Q.Pairwise fun a b=> A a<=A b
 two: ∀r∈Q,A p<=A r∧A r<=A p+1
 lev: ∀r n,Far E t n r->n+1<=A p->A r≠0
 don: ∀r,A r≠0->r∉Q->r≠p->∀s,E s r->A s≠0∧s≠t
 cur: ∀s∈L,A s≠0∧s≠t
 pos:A p≠0
 out:p∉Q
 tar:A t=1
theorem Bfs.start (E:Nat->Nat->Prop) (t:Nat):Bfs E t (fun p=> if p=t then 1 else 0) [t]:=by
 refine ⟨fun p h=> ?_,fun p h=> ?_,by simp,by simp,fun h l e r hr=> ?_,fun p n hf h=> ?_,fun p h hq=> ?_,by simp⟩
 ·by_cases e:p=t
  ·subst e;simp only [if_true];exact Far.zero p
  ·simp [e] at h
 ·rw [List.mem_singleton] at h;simp [h]
 ·simp only [List.cons.injEq] at e
  rw [List.mem_singleton] at hr
  rw [hr,<-e.1]
  simp
 ·rcases h with h | ⟨h,l,e,hn⟩
  ·cases h
  ·simp only [List.cons.injEq] at e
   rw [<-e.1] at hn
   simp only [if_true] at hn
   have:n=0:=by omega
   subst this
   rw [hf.at_zero]
   simp
 ·by_cases e:p=t
  ·exact absurd (by rw [e];simp) hq
  ·simp [e] at h
theorem Bfs.take {A:Nat->Nat} {p:Nat} {Q:List Nat} (h:Bfs E t A (p :: Q)):BfsIn E t p [] A Q:=by
 have hn:=List.nodup_cons.1 h.nd
 have hm:=List.pairwise_cons.1 h.mono
 refine ⟨h.fin,fun r hr=> h.q r (List.mem_cons_of_mem _ hr),hn.2,hm.2,fun r hr=> ⟨hm.1 r hr,h.two p Q rfl r (List.mem_cons_of_mem _ hr)⟩,fun r n hf hle=> h.lev r n hf (.inr ⟨p,Q,rfl,hle⟩),fun r hr hq hp=> h.don r hr ?_,fun s hs=> (by cases hs),h.q p (by simp),hn.1,h.tar⟩
 intro hmem
 rcases List.mem_cons.1 hmem with e | e
 ·exact hp e
 ·exact hq e
theorem BfsIn.old {A:Nat->Nat} {p s:Nat} {L Q:List Nat} (h:BfsIn E t p L A Q) (hs:A s≠0) (hst:s≠t):BfsIn E t p (L++ [s]) A Q:=
 ⟨h.fin,h.q,h.nd,h.mono,h.two,h.lev,h.don,fun r hr=> by
  rcases List.mem_append.1 hr with e | e
  ·exact h.cur r e
  ·rw [List.mem_singleton] at e;rw [e];exact ⟨hs,hst⟩,h.pos,h.out,h.tar⟩
theorem BfsIn.new {A:Nat->Nat} {p s:Nat} {L Q:List Nat} (h:BfsIn E t p L A Q) (hE:E s p) (hs:A s=0) (hst:s≠t):BfsIn E t p (L++ [s]) (fun r=> if r=s then A p+1 else A r) (Q++ [s]):=by
 have hps:p≠s:=fun e=> h.pos (by rw [e];exact hs)
 have hqs:s∉Q:=fun e=> h.q s e hs
 have hfar:Far E t (A p) s:=by
  have hp:=h.fin p h.pos
  have h0:=h.pos
  refine ⟨?_,fun m hm hw=> ?_⟩
  ·have:=WalkN.step hE hp.1
   rw [show A p - 1+1=A p by omega] at this
   exact this
  ·obtain ⟨q,h1,h2⟩:=hw.far
   exact h.lev s q h2 (by omega) hs
 have same: ∀r,r≠s->(if r=s then A p+1 else A r)=A r:=fun r e=> if_neg e
 have hp2: (if p=s then A p+1 else A p)=A p:=same p hps
 refine ⟨fun r hr=> ?_,fun r hr=> ?_, ?_, ?_,fun r hr=> ?_,fun r n hf hle=> ?_,fun r hr hq hrp x hx=> ?_,fun r hr=> ?_,by simp only [hp2];exact h.pos, ?_, ?_⟩
 ·by_cases e:r=s
  ·subst e
   simp only [if_true]
   rw [Nat.add_sub_cancel]
   exact hfar
  ·simp only [same r e] at hr⊢
   exact h.fin r hr
 ·by_cases e:r=s
  ·simp [e]
  ·rw [same r e]
   rcases List.mem_append.1 hr with g | g
   ·exact h.q r g
   ·exact absurd (List.mem_singleton.1 g) e
 ·rw [List.nodup_append]
  exact ⟨h.nd,by simp,fun a ha b hb e=> by rw [List.mem_singleton] at hb;rw [e,hb] at ha;exact hqs ha⟩
 ·rw [List.pairwise_append]
  refine ⟨h.mono.imp_of_mem fun {a b} ha hb hab=> ?_,by simp,fun a ha b hb=> ?_⟩
  ·rw [same a (fun e=> hqs (by rw [<-e];exact ha)),same b (fun e=> hqs (by rw [<-e];exact hb))]
   exact hab
  ·rw [List.mem_singleton] at hb
   subst hb
   rw [same a (fun e=> hqs (by rw [<-e];exact ha)),if_pos rfl]
   exact (h.two a ha).2
 ·simp only [hp2]
  by_cases e:r=s
  ·rw [if_pos e];omega
  ·rw [same r e]
   rcases List.mem_append.1 hr with g | g
   ·exact h.two r g
   ·exact absurd (List.mem_singleton.1 g) e
 ·simp only [hp2] at hle
  by_cases e:r=s
  ·rw [if_pos e];omega
  ·rw [same r e];exact h.lev r n hf hle
 ·have hrs:r≠s:=fun e=> hq (by rw [e];simp)
  rw [same r hrs] at hr
  obtain ⟨h1,h2⟩:=h.don r hr (fun g=> hq (List.mem_append.2 (.inl g))) hrp x hx
  refine ⟨?_,h2⟩
  by_cases e:x=s
  ·rw [if_pos e];omega
  ·rw [same x e];exact h1
 ·rcases List.mem_append.1 hr with g | g
  ·obtain ⟨h1,h2⟩:=h.cur r g
   refine ⟨?_,h2⟩
   by_cases e:r=s
   ·rw [if_pos e];omega
   ·rw [same r e];exact h1
  ·rw [List.mem_singleton] at g
   rw [g,if_pos rfl]
   exact ⟨by omega,hst⟩
 ·intro g
  rcases List.mem_append.1 g with g | g
  ·exact h.out g
  ·exact hps (List.mem_singleton.1 g)
 ·rw [same t (Ne.symm hst)];exact h.tar
theorem BfsIn.ends {A:Nat->Nat} {p:Nat} {L Q:List Nat} (h:BfsIn E t p L A Q) (hL: ∀s,E s p->s∈L):Bfs E t A Q:=by
 have hdon: ∀r,A r≠0->r∉Q->∀s,E s r->A s≠0∧s≠t:=fun r hr hq s hs=> by
  by_cases e:r=p
  ·rw [e] at hs;exact h.cur s (hL s hs)
  ·exact h.don r hr hq e s hs
 refine ⟨h.fin,h.q,h.nd,h.mono,fun a l e r hr=> ?_,fun r n hf hc=> ?_,hdon,h.tar⟩
 ·have h1:= (h.two a (by rw [e];simp)).1
  have h2:= (h.two r hr).2
  omega
 ·rcases hc with rfl | ⟨a,l,rfl,hle⟩
  ·clear hL
   induction n generalizing r with
   | zero=> rw [hf.at_zero,h.tar];omega
   | succ n ih=>
    obtain ⟨b,h1,h2⟩:=hf.next
    exact (hdon b (ih b h2) (by simp) r h1).1
  ·have ha:=h.two a (by simp)
   by_cases hn:n+1<=A p
   ·exact h.lev r n hf hn
   ·have hna:n=A p:=by omega
    obtain ⟨m,hm⟩: ∃m,n=m+1:= ⟨n - 1,by have:=h.pos;omega⟩
    subst hm
    obtain ⟨b,h1,h2⟩:=hf.next
    have hb:=h.lev b m h2 (by omega)
    have hbe:= (h.fin b hb).unique h2
    refine (hdon b hb (fun g=> ?_) r h1).1
    have hmn:=List.pairwise_cons.1 h.mono
    rcases List.mem_cons.1 g with e | e
    ·rw [e] at hbe;omega
    ·have:=hmn.1 b e
     omega
theorem BfsIn.found {A:Nat->Nat} {p:Nat} {L Q:List Nat} (h:BfsIn E t p L A Q) (hE:E t p):WalkN E (A p) t t∧(∀m,1<=m->m < A p->¬WalkN E m t t)∧∀r n,n+1<=A p->(A r=n+1↔Far E t n r):=by
 have h0:=h.pos
 have hex: ∀r n,n+1<=A p->(A r=n+1↔Far E t n r):=fun r n hn=> by
  constructor
  ·intro e
   have:=h.fin r (by omega)
   rw [e,Nat.add_sub_cancel] at this
   exact this
  ·intro hf
   have h1:=h.lev r n hf hn
   have:= (h.fin r h1).unique hf
   omega
 refine ⟨?_,fun m h1 h2 hw=> ?_,hex⟩
 ·have:=WalkN.step hE (h.fin p h.pos).1
  rw [show A p - 1+1=A p by omega] at this
  exact this
 ·obtain ⟨q,hq⟩: ∃q,m=q+1:= ⟨m - 1,by omega⟩
  subst hq
  obtain ⟨b,h3,h4⟩:=hw.first
  obtain ⟨n,h5,h6⟩:=h4.far
  have hb:= (hex b n (by omega)).2 h6
  refine (h.don b (by omega) (fun g=> ?_) (fun e=> ?_) t h3).2 rfl
  ·have:= (h.two b g).1;omega
  ·rw [e] at hb;omega
theorem Bfs.none {A:Nat->Nat} (h:Bfs E t A []): ∀m,1<=m->¬WalkN E m t t:=fun m h1 hw=> by
 obtain ⟨q,hq⟩: ∃q,m=q+1:= ⟨m - 1,by omega⟩
 subst hq
 obtain ⟨b,h3,h4⟩:=hw.first
 obtain ⟨n,_,h6⟩:=h4.far
 exact (h.don b (h.lev b n h6 (.inl rfl)) (by simp) t h3).2 rfl
end
