import Derived.Test.YtgnkgfjmbmcfcaaGreatDoorKFFmt2
import Derived.Test.YtgnkgfjmbmcfcaaGreatDoorKOMark4
import Derived.Test.YtgnkgfjmbmcfcaaGreatDoorProg
set_option maxRecDepth 100000
set_option maxHeartbeats 25600000
namespace Go.Proofs.YtgnkgfjmbmcfcaaGreatDoor
open Go.RowKit
theorem toList_inj {a b:ByteArray}:a.toList=b.toList↔a=b:=by
 refine ⟨fun h=> ba_ext ?_,fun h=> by rw [h]⟩
 rw [ByteArray.toList_eq,ByteArray.toList_eq] at h
 exact h
theorem beq_no {a b:ByteArray} (h: (a.toList == b.toList)=false):a≠b:=fun e=> by rw [e] at h;simp at h
theorem beq_yes {a b:ByteArray} (h: (a.toList == b.toList)=true):a=b:=toList_inj.1 (by simpa using h)
def Qz.zero :Qz:=Qz.fresh ByteArray.empty
def Qz.cells (r:Qz) (xa:Option Addr) (xc:Nat):List Value:=[.string r.name,.bool r.over,.bool r.fail,.string r.text,.int .i64 r.at',.int .i64 r.Zj,.slice xa r.texts.length xc]
theorem Qz.one (r:Qz) (x:Option Addr) (c:Nat): ∀u∈r.cells x c,u.oneCell'=true:=by
 intro u hu
 simp only [Qz.cells,List.mem_cons,List.not_mem_nil,or_false] at hu
 rcases hu with rfl | rfl | rfl | rfl | rfl | rfl | rfl <;> rfl
def RunsX (w:World) (a:Option Addr) (l:List Qz):Prop:=
 ∀i,i < l.length->∃b o xa xc,a=some ⟨b,o,none⟩∧b < w.heap.size∧w.rangeAt b (o+i * 7) ((l.getD i Qz.zero).cells xa xc)∧Strs w xa (l.getD i Qz.zero).texts∧(xa=none->xc=0)
theorem RunsX.kept {w w':World} {a:Option Addr} {l:List Qz} (h:RunsX w a l) (k:K_ w w'):RunsX w' a l:=by
 intro i hi
 obtain ⟨b,o,xa,xc,e,hb,hr,hs,hx⟩:=h i hi
 exact ⟨b,o,xa,xc,e,Nat.lt_of_lt_of_le hb k.size,k.range hb hr,hs.kept k,hx⟩
def Qj (l:List Qz):Env:=fun n=> l.find? fun r=> decide (r.name=n)
theorem env_none {l:List Qz} {n:ByteArray} (h: ∀j,j < l.length->(l.getD j Qz.zero).name≠n):Qj l n=none:=by
 unfold Qj
 rw [List.find?_eq_none]
 intro r hr
 obtain ⟨j,hj,e⟩:=List.getElem_of_mem hr
 have:=h j hj
 simp only [List.getD,List.getElem?_eq_getElem hj,e,Option.getD_some] at this
 simpa using this
theorem env_at {n:ByteArray}: ∀{l:List Qz} {k:Nat},k < l.length->(l.getD k Qz.zero).name=n->(∀j,j < k->(l.getD j Qz.zero).name≠n)->Qj l n=some (l.getD k Qz.zero)
 | [],_,hk,_,_=> absurd hk (Nat.not_lt_zero _)
 | r :: l,0,_,h,_=> by
  have h':r.name=n:=h
  simp [Qj,List.find?,h',List.getD]
 | r :: l,k+1,hk,h,hj=> by
  have h0:r.name≠n:=hj 0 (by omega)
  have e:Qj (r :: l) n=Qj l n:=by simp [Qj,List.find?,h0]
  rw [e,env_at (k:=k) (by simpa using hk) h (fun j hj'=> hj (j+1) (by omega))]
  rfl
def PlaceX (l:List Qz) (n:ByteArray) (r:Int):Prop:= (∃k:Nat,k < l.length∧r= (k:Int)∧Qj l n=some (l.getD k Qz.zero)∧(l.getD k Qz.zero).name=n)∨(r= -1∧Qj l n=none)
def Q_ (Kj:List Qq):Acts:=fun n=> (Kj.find? fun d=> decide (d.name=n)).map fun d=> ⟨d.cost,d.steps⟩
theorem acts_none {l:List Qq} {n:ByteArray} (h: ∀j,j < l.length->(l.getD j Qq.zero).name≠n):Q_ l n=none:=by
 unfold Q_
 rw [Option.map_eq_none_iff,List.find?_eq_none]
 intro r hr
 obtain ⟨j,hj,e⟩:=List.getElem_of_mem hr
 have:=h j hj
 simp only [List.getD,List.getElem?_eq_getElem hj,e,Option.getD_some] at this
 simpa using this
theorem acts_at {n:ByteArray}: ∀{l:List Qq} {k:Nat},k < l.length->(l.getD k Qq.zero).name=n->(∀j,j < k->(l.getD j Qq.zero).name≠n)->Q_ l n=some ⟨(l.getD k Qq.zero).cost,(l.getD k Qq.zero).steps⟩
 | [],_,hk,_,_=> absurd hk (Nat.not_lt_zero _)
 | r :: l,0,_,h,_=> by
  have h':r.name=n:=h
  simp [Q_,List.find?,h',List.getD]
 | r :: l,k+1,hk,h,hj=> by
  have h0:r.name≠n:=hj 0 (by omega)
  have e:Q_ (r :: l) n=Q_ l n:=by simp [Q_,List.find?,h0]
  rw [e,acts_at (k:=k) (by simpa using hk) h (fun j hj'=> hj (j+1) (by omega))]
  rfl
def PlaceN (l:List Qq) (n:ByteArray) (r:Int):Prop:= (∃k:Nat,k < l.length∧r= (k:Int)∧Q_ l n=some ⟨(l.getD k Qq.zero).cost,(l.getD k Qq.zero).steps⟩∧(l.getD k Qq.zero).name=n∧∀j,j < k->(l.getD j Qq.zero).name≠n)∨(r= -1∧Q_ l n=none)
theorem acts_first {n:ByteArray} {A:ActionD}: ∀{l:List Qq},Q_ l n=some A->∃k,k < l.length∧(l.getD k Qq.zero).name=n∧(∀j,j < k->(l.getD j Qq.zero).name≠n)∧A= ⟨(l.getD k Qq.zero).cost,(l.getD k Qq.zero).steps⟩
 | [],h=> by simp [Q_] at h
 | d :: l,h=> by
  by_cases e:d.name=n
  ·refine ⟨0,by simp,e,fun j hj=> absurd hj (Nat.not_lt_zero _), ?_⟩
   simp [Q_,e] at h
   exact h.symm
  ·have e2:Q_ (d :: l) n=Q_ l n:=by simp [Q_,List.find?,e]
   rw [e2] at h
   obtain ⟨k,h1,h2,h3,h4⟩:=acts_first h
   refine ⟨k+1,by simpa using h1,h2,fun j hj=> ?_,h4⟩
   cases j with
   | zero=> exact e
   | succ j=> exact h3 j (by omega)
theorem first_unique {l:List Qq} {n:ByteArray} {k k':Nat} (h: (l.getD k Qq.zero).name=n) (h1: ∀j,j < k->(l.getD j Qq.zero).name≠n) (g: (l.getD k' Qq.zero).name=n) (g1: ∀j,j < k'->(l.getD j Qq.zero).name≠n):k=k':=by
 rcases Nat.lt_trichotomy k k' with e | e | e
 ·exact absurd h (g1 k e)
 ·exact e
 ·exact absurd g (h1 k' e)
def AnsSaid (Kj:List Qq) (l:List Qz) (n:ByteArray) (e:Ending):Prop:=
 ∃(f:Bool) (t:ByteArray) (ok:Bool),e= .returned (.tuple #[.agg #[.bool f,.string t],.bool ok])∧ansOf (Q_ Kj) (Qj l) n=if ok=true then some ⟨f,t⟩ else none
def lessX (a b:ByteArray):Prop:=Op.bytesLess a.toList b.toList=true
theorem lessX_irrefl (a:ByteArray): ¬lessX a a:=fun h=> by unfold lessX at h;rw [less_irrefl] at h;cases h
theorem lessX_trans {a b c:ByteArray} (h:lessX a b) (g:lessX b c):lessX a c:=less_trans _ _ _ h g
theorem lessX_asymm {a b:ByteArray} (h:lessX a b): ¬lessX b a:=fun g=> lessX_irrefl a (lessX_trans h g)
theorem lessX_ne {a b:ByteArray} (h:lessX a b):a≠b:=fun e=> by rw [e] at h;exact lessX_irrefl b h
theorem lessX_total (a b:ByteArray):lessX a b∨a=b∨lessX b a:=by
 unfold lessX
 cases h:Op.bytesLess a.toList b.toList with
 | true=> exact .inl rfl
 | false=>
  by_cases e:a=b
  ·exact .inr (.inl e)
  ·exact .inr (.inr (less_total _ _ h fun e2=> e (toList_inj.1 e2)))
def AscX (l:List Qz):Prop:=l.Pairwise fun x y=> lessX x.name y.name
theorem env_mem {l:List Qz} {n:ByteArray} {r:Qz} (h:Qj l n=some r):r∈l∧r.name=n:=by
 unfold Qj at h
 exact ⟨List.mem_of_find?_eq_some h,by simpa using List.find?_some h⟩
theorem asc_env {l:List Qz} (h:AscX l) {r:Qz} (hr:r∈l):Qj l r.name=some r:=by
 induction l with
 | nil=> cases hr
 | cons x l ih=>
  rw [AscX,List.pairwise_cons] at h
  rcases List.mem_cons.1 hr with rfl | hr
  ·simp [Qj]
  ·have hne:x.name≠r.name:=lessX_ne (h.1 r hr)
   have e:Qj (x :: l) r.name=Qj l r.name:=by simp [Qj,List.find?,hne]
   rw [e]
   exact ih h.2 hr
theorem asc_ext : ∀{l l':List Qz},AscX l->AscX l'->(∀r,r∈l↔r∈l')->l=l'
 | [],[],_,_,_=> rfl
 | [],y :: ys,_,_,h=> by have:= (h y).2 (by simp);cases this
 | x :: xs,[],_,_,h=> by have:= (h x).1 (by simp);cases this
 | x :: xs,y :: ys,hl,hl',h=> by
  rw [AscX,List.pairwise_cons] at hl hl'
  have hxy:x=y:=by
   rcases List.mem_cons.1 ((h x).1 (by simp)) with e | hx
   ·exact e
   ·rcases List.mem_cons.1 ((h y).2 (by simp)) with e | hy
    ·exact e.symm
    ·exact absurd (hl.1 y hy) (lessX_asymm (hl'.1 x hx))
  subst hxy
  rw [asc_ext hl.2 hl'.2 fun r=> ?_]
  constructor
  ·intro hr
   rcases List.mem_cons.1 ((h r).1 (List.mem_cons_of_mem _ hr)) with rfl | h1
   ·exact absurd (hl.1 r hr) (lessX_irrefl _)
   ·exact h1
  ·intro hr
   rcases List.mem_cons.1 ((h r).2 (List.mem_cons_of_mem _ hr)) with rfl | h1
   ·exact absurd (hl'.1 r hr) (lessX_irrefl _)
   ·exact h1
theorem asc_eq {l l':List Qz} (h:AscX l) (h':AscX l') (e:Qj l=Qj l'):l=l':=by
 refine asc_ext h h' fun r=> ⟨fun hr=> ?_,fun hr=> ?_⟩
 ·have:=asc_env h hr;rw [e] at this;exact (env_mem this).1
 ·have:=asc_env h' hr;rw [<-e] at this;exact (env_mem this).1
theorem env_iff {l:List Qz} (hd: ∀x∈l,∀y∈l,x.name=y.name->x=y) {n:ByteArray} {r:Qz}:Qj l n=some r↔r∈l∧r.name=n:=by
 refine ⟨env_mem,fun ⟨hr,hn⟩=> ?_⟩
 cases h:Qj l n with
 | none=>
  unfold Qj at h
  rw [List.find?_eq_none] at h
  exact absurd (by simpa using hn) (h r hr)
 | some x=>
  obtain ⟨h1,h2⟩:=env_mem h
  rw [hd x h1 r hr (h2.trans hn.symm)]
theorem asc_diff {l:List Qz} (h:AscX l): ∀x∈l,∀y∈l,x.name=y.name->x=y:=fun x hx y hy e=> by
 have h1:=asc_env h hx
 have h2:=asc_env h hy
 rw [e,h2] at h1
 exact (Option.some.inj h1).symm
def insX (l:List Qz) (r:Qz):List Qz:= (l.filter fun x=> Op.bytesLess x.name.toList r.name.toList)++r :: l.filter fun x=> Op.bytesLess r.name.toList x.name.toList
theorem insX_asc {l:List Qz} {r:Qz} (h:AscX l):AscX (insX l r):=by
 unfold insX
 rw [AscX,List.pairwise_append]
 refine ⟨h.filter _, ?_,fun x hx y hy=> ?_⟩
 ·rw [List.pairwise_cons]
  exact ⟨fun y hy=> (List.mem_filter.1 hy).2,h.filter _⟩
 ·have hx2:lessX x.name r.name:= (List.mem_filter.1 hx).2
  rcases List.mem_cons.1 hy with rfl | hy
  ·exact hx2
  ·exact lessX_trans hx2 (List.mem_filter.1 hy).2
theorem insX_mem {l:List Qz} {r x:Qz}:x∈insX l r↔x=r∨(x∈l∧x.name≠r.name):=by
 unfold insX
 rw [List.mem_append,List.mem_cons,List.mem_filter,List.mem_filter]
 constructor
 ·rintro (⟨h1,h2⟩ | h | ⟨h1,h2⟩)
  ·exact .inr ⟨h1,lessX_ne h2⟩
  ·exact .inl h
  ·exact .inr ⟨h1,Ne.symm (lessX_ne h2)⟩
 ·rintro (h | ⟨h1,h2⟩)
  ·exact .inr (.inl h)
  ·rcases lessX_total x.name r.name with h3 | h3 | h3
   ·exact .inl ⟨h1,h3⟩
   ·exact absurd h3 h2
   ·exact .inr (.inr ⟨h1,h3⟩)
theorem insX_env {l:List Qz} {r:Qz} (h:AscX l) (n:ByteArray):Qj (insX l r) n=if n=r.name then some r else Qj l n:=by
 have hd:=asc_diff (insX_asc (r:=r) h)
 by_cases e:n=r.name
 ·rw [if_pos e]
  exact (env_iff hd).2 ⟨(insX_mem).2 (.inl rfl),e.symm⟩
 ·rw [if_neg e]
  cases hn:Qj l n with
  | some x=>
   obtain ⟨h1,h2⟩:=env_mem hn
   exact (env_iff hd).2 ⟨(insX_mem).2 (.inr ⟨h1,fun e2=> e (h2.symm.trans e2)⟩),h2⟩
  | none=>
   cases hi:Qj (insX l r) n with
   | none=> rfl
   | some x=>
    obtain ⟨h1,h2⟩:=env_mem hi
    rcases (insX_mem).1 h1 with rfl | ⟨h3,_⟩
    ·exact absurd h2.symm e
    ·have:= (env_iff (asc_diff h)).2 ⟨h3,h2⟩
     rw [hn] at this
     cases this
theorem foldl_ins : ∀(l t:List Qz),AscX t->(∀x∈l,∀y∈l,x.name=y.name->x=y)->AscX (l.foldl insX t)∧∀n,Qj (l.foldl insX t) n=match Qj l n with | some r=> some r | none=> Qj t n
 | [],t,h,_=> ⟨h,fun n=> rfl⟩
 | x :: l,t,h,hd=> by
  obtain ⟨h1,h2⟩:=foldl_ins l (insX t x) (insX_asc h) (fun a ha b hb=> hd a (List.mem_cons_of_mem _ ha) b (List.mem_cons_of_mem _ hb))
  refine ⟨h1,fun n=> ?_⟩
  show Qj (l.foldl insX (insX t x)) n=_
  rw [h2 n]
  by_cases e:x.name=n
  ·have e1:Qj (x :: l) n=some x:=by simp [Qj,e]
   rw [e1]
   cases hn:Qj l n with
   | some r=>
    obtain ⟨g1,g2⟩:=env_mem hn
    simp only
    rw [hd r (List.mem_cons_of_mem _ g1) x (by simp) (g2.trans e.symm)]
   | none=>
    simp only
    rw [insX_env h,if_pos e.symm]
  ·have e1:Qj (x :: l) n=Qj l n:=by simp [Qj,List.find?,e]
   rw [e1]
   cases Qj l n with
   | some r=> rfl
   | none=>
    simp only
    rw [insX_env h,if_neg (Ne.symm e)]
def InAct (Kj:List Qq) (r:Qz):Prop:= ∃A,Q_ Kj r.name=some A∧0<=r.at'∧r.at' < A.steps.length
def ActsOk (W:Acts):Prop:= ∀n A,W n=some A->ActionOk A∧NameOk n
theorem failAt_some : ∀{xs:List Xq} {k j:Nat},failAt xs k=some j->∃i,j=k+i∧i < xs.length∧IsFail (xs.getD i Xq.zero)∧NoneTo xs IsFail i
 | [],_,_,h=> by simp [failAt] at h
 | x :: l,k,j,h=> by
  unfold failAt at h
  by_cases hx:x.fail=true
  ·rw [if_pos hx] at h
   cases h
   exact ⟨0,rfl,by simp,hx,fun j hj=> absurd hj (Nat.not_lt_zero _)⟩
  ·rw [if_neg hx] at h
   obtain ⟨i,h1,h2,h3,h4⟩:=failAt_some h
   refine ⟨i+1,by omega,by simpa using h2,h3,fun j hj=> ?_⟩
   cases j with
   | zero=> exact hx
   | succ j=> exact h4 j (by omega)
theorem failAt_none : ∀{xs:List Xq} {k:Nat},failAt xs k=none->NoneTo xs IsFail xs.length
 | [],_,_=> fun j hj=> absurd hj (Nat.not_lt_zero _)
 | x :: l,k,h=> by
  unfold failAt at h
  by_cases hx:x.fail=true
  ·rw [if_pos hx] at h
   cases h
  ·rw [if_neg hx] at h
   have:=failAt_none h
   intro j hj
   cases j with
   | zero=> exact hx
   | succ j=> exact this j (by simpa using hj)
theorem caseAt_is (t:ByteArray) (els:Int): ∀(l:List CaseD),(∃i,i < l.length∧(l.getD i CaseD.zero).text=t∧(∀j,j < i->(l.getD j CaseD.zero).text≠t)∧caseAt t els l= (l.getD i CaseD.zero).goto)∨((∀j,j < l.length->(l.getD j CaseD.zero).text≠t)∧caseAt t els l=els)
 | []=> .inr ⟨fun j hj=> absurd hj (Nat.not_lt_zero _),rfl⟩
 | c :: l=> by
  by_cases hc:c.text=t
  ·exact .inl ⟨0,by simp,hc,fun j hj=> absurd hj (Nat.not_lt_zero _),by simp [caseAt,hc,List.getD]⟩
  ·have e:caseAt t els (c :: l)=caseAt t els l:=by simp [caseAt,hc]
   rw [e]
   rcases caseAt_is t els l with ⟨i,h1,h2,h3,h4⟩ | ⟨h1,h2⟩
   ·refine .inl ⟨i+1,by simpa using h1,h2,fun j hj=> ?_,h4⟩
    cases j with
    | zero=> exact hc
    | succ j=> exact h3 j (by omega)
   ·refine .inr ⟨fun j hj=> ?_,h2⟩
    cases j with
    | zero=> exact hc
    | succ j=> exact h1 j (by simpa using hj)
theorem goOnF_followed {s:Xj} {xs:List Xq} (h:AnsOk s xs):Followed s xs (goOnF s xs):=by
 refine .inr ⟨h, ?_⟩
 unfold goOnF
 cases hf:failAt xs 0 with
 | some j=>
  obtain ⟨i,h1,h2,h3,h4⟩:=failAt_some hf
  have:j=i:=by omega
  subst this
  refine .inl ⟨j,h2,h3,h4, ?_⟩
  by_cases hfa:s.fall= -1
  ·exact .inl ⟨hfa,by simp [hfa]⟩
  ·exact .inr ⟨hfa,by simp [hfa]⟩
 | none=>
  refine .inr ⟨failAt_none hf,_, ?_,rfl⟩
  by_cases h0:xs.length=0
  ·rw [if_pos h0]
   exact .inl ⟨h0,rfl⟩
  ·rw [if_neg h0]
   refine .inr ⟨h0, ?_⟩
   rcases caseAt_is (textAt xs s.on) s.els s.cases with ⟨i,g1,g2,g3,g4⟩ | ⟨g1,g2⟩
   ·exact .inl ⟨i,g1,g2,g3,g4⟩
   ·exact .inr ⟨g1,g2⟩
theorem WentOn.goodX {cost:Int} {l:List Xj} {at':Int} {ans:List Xq} {g:GoneD} (h:WentOn cost l at' ans g): (g.code=0->g.over=false->0<=g.at'∧g.at' < l.length)∧(g.over=true->7<=g.text.size):=by
 rcases h with ⟨_,rfl⟩ | ⟨⟨hA,⟨h1,h2⟩,hf⟩,h⟩
 ·exact ⟨fun e=> by simp [GoneD.none] at e,fun e=> by simp [GoneD.none] at e⟩
 ·have hat:at'.toNat < l.length:=by omega
  have hs:StepOk (stepAt l at') l.length:=hA.2.2 at'.toNat hat
  obtain ⟨⟨_,_,_,hn,_,he,hfall,_⟩,hc⟩:=hs.2 hf
  rcases h with ⟨_,rfl⟩ | ⟨hAns,⟨i,hi,_,_,⟨_,rfl⟩ | ⟨hne,rfl⟩⟩ | ⟨_,r,hr,rfl⟩⟩
  ·exact ⟨fun e=> by simp [GoneD.none] at e,fun e=> by simp [GoneD.none] at e⟩
  ·refine ⟨fun _ e=> by simp at e,fun _=> ?_⟩
   have:= (hn i (by rw [<-hAns.1];exact hi)).1.1
   show 7<=(belowOf (stepAt l at') i).size
   unfold belowOf
   rw [ByteArray.size_append]
   show 7<=6+_
   omega
  ·exact ⟨fun _ _=> ⟨by show 0<=(stepAt l at').fall;omega,hfall.2⟩,fun e=> by simp at e⟩
  ·refine ⟨fun _ _=> ?_,fun e=> by simp at e⟩
   show 0<=r∧r < l.length
   rcases hr with ⟨_,rfl⟩ | ⟨_,⟨j,hj,_,_,rfl⟩ | ⟨_,rfl⟩⟩
   ·exact he
   ·exact (hc j hj).2
   ·exact he
theorem goOnF_code (s:Xj) (xs:List Xq): (goOnF s xs).code=0:=by
 unfold goOnF
 split
 ·split <;> rfl
 ·rfl
structure Qz.Good (Kj:List Qq) (r:Qz):Prop where
 act:InAct Kj r
 lo:0<=r.Zj
 hi:r.Zj<=20
 tl: (r.texts.length:Int)<=5 * r.Zj
 ts: ∀t∈r.texts,t.size<=200
 tx:r.text.size<=200
 stp: ∀A,Q_ Kj r.name=some A->r.over=false->r.Zj≠0->(stepOf A r.at').fin=false
def GoodEnv (Kj:List Qq) (σ:Env):Prop:= ∀n r,σ n=some r->r.name=n∧r.Good Kj
theorem noOf_size {n:ByteArray} (h:n.size<=20): (noOf n).size<=200:=by
 unfold noOf
 rw [ByteArray.size_append]
 show 3+n.size<=200
 omega
theorem ansOf_size {Kj:List Qq} {σ:Env} {n:ByteArray} {x:Xq} (hg:GoodEnv Kj σ) (hn:n.size<=20) (h:ansOf (Q_ Kj) σ n=some x):x.text.size<=200:=by
 unfold ansOf at h
 split at h
 ·simp only [Option.some.injEq] at h
  subst h
  exact noOf_size hn
 ·split at h
  ·rename_i r hr
   split at h
   ·simp only [Option.some.injEq] at h
    subst h
    exact (hg n r hr).2.tx
   ·cases h
  ·cases h
theorem answersOf_each {W:Acts} {σ:Env} {p:Xq->Prop}: ∀{l:List ByteArray} {xs:List Xq},(∀n∈l,∀x,ansOf W σ n=some x->p x)->Yq W σ l=some xs->xs.length=l.length∧∀x∈xs,p x
 | [],xs,_,h=> by
  simp only [Yq,Option.some.injEq] at h
  subst h
  exact ⟨rfl,fun x hx=> by cases hx⟩
 | a :: l,xs,hp,h=> by
  unfold Yq at h
  cases ha:ansOf W σ a with
  | none=> simp [ha] at h
  | some x=>
   cases hl:Yq W σ l with
   | none=> simp [ha,hl] at h
   | some ys=>
    simp only [ha,hl,Option.some.injEq] at h
    subst h
    obtain ⟨h1,h2⟩:=answersOf_each (p:=p) (fun n hn=> hp n (List.mem_cons_of_mem _ hn)) hl
    refine ⟨by simp [h1],fun y hy=> ?_⟩
    rcases List.mem_cons.1 hy with rfl | hy
    ·exact hp a (by simp) y ha
    ·exact h2 y hy
theorem answers_ok {Kj:List Qq} {σ:Env} {s:Xj} {xs:List Xq} (hg:GoodEnv Kj σ) (hn: ∀n∈s.asks,n.size<=20) (h:Yq (Q_ Kj) σ s.asks=some xs):AnsOk s xs∧∀x∈xs,x.text.size<=200:=by
 obtain ⟨h1,h2⟩:=answersOf_each (p:=fun x=> x.text.size<=200) (fun n hn' x hx=> ansOf_size hg (hn n hn') hx) h
 refine ⟨⟨h1,fun ⟨i,hi,hl⟩=> ?_⟩,h2⟩
 have:=h2 (xs.getD i Xq.zero) (by simp [List.getD,hi])
 unfold IsLong at hl
 omega
theorem asks_ok {A:ActionD} (hA:ActionOk A) {i:Int} (h0:0<=i) (h1:i < A.steps.length): (stepOf A i).asks.length<=5∧∀n∈(stepOf A i).asks,NameOk n:=by
 have hs:StepOk (stepOf A i) A.steps.length:=hA.2.2 i.toNat (by omega)
 cases hf: (stepOf A i).fin with
 | true=>
  have:= (hs.1 hf).1
  refine ⟨by omega,fun n hn=> ?_⟩
  rw [List.eq_nil_of_length_eq_zero this] at hn
  cases hn
 | false=>
  have:= (hs.2 hf).1
  refine ⟨this.2.2.1,fun n hn=> ?_⟩
  obtain ⟨j,hj,e⟩:=List.getElem_of_mem hn
  have:= (this.2.2.2.1 j hj).1
  simp only [List.getD,List.getElem?_eq_getElem hj,e,Option.getD_some] at this
  exact this
theorem belowOf_size {s:Xj} {i:Nat} (h: ∀n∈s.asks,n.size<=20): (belowOf s i).size<=200:=by
 unfold belowOf
 rw [ByteArray.size_append]
 show 6+_<=200
 by_cases hi:i < s.asks.length
 ·have:=h (s.asks.getD i ByteArray.empty) (by simp [List.getD,hi]);omega
 ·have e:s.asks.getD i ByteArray.empty=ByteArray.empty:=by simp [List.getD,hi]
  rw [e]
  decide
theorem finB_le (give:ByteArray) (l:List ByteArray): (finB give l).size<=200:=by
 show (finishOf give.data.toList (texts l)).toArray.size<=200
 unfold finishOf
 split
 ·simp
 ·split
  ·simpa using ‹_›
  ·simp [hexL_length]
theorem goodOf_len (xs:List Xq): (goodOf xs).length<=xs.length:=by
 unfold goodOf
 rw [List.length_map]
 exact List.length_filter_le _ _
theorem goodOf_mem {xs:List Xq} {t:ByteArray} (h:t∈goodOf xs): ∃x∈xs,x.text=t:=by
 unfold goodOf at h
 rw [List.mem_map] at h
 obtain ⟨x,hx,e⟩:=h
 exact ⟨x,(List.mem_filter.1 hx).1,e⟩
theorem arrive_good {Kj:List Qq} {A:ActionD} {r:Qz} (hw:Q_ Kj r.name=some A) (h0:0<=r.at') (h1:r.at' < A.steps.length) (lo:0<=r.Zj) (hi:r.Zj < 20) (tl: (r.texts.length:Int)<=5 * (r.Zj+1)) (ts: ∀t∈r.texts,t.size<=200) (tx:r.text.size<=200): (arrive A r).1.Good Kj:=by
 unfold arrive
 cases hf: (stepOf A r.at').fin with
 | true=>
  simp only [if_true]
  exact ⟨⟨A,hw,h0,h1⟩,by show 0<=r.Zj+1;omega,by show r.Zj+1<=20;omega,tl,ts,finB_le _ _,fun _ _ h=> by simp at h⟩
 | false=>
  simp only [Bool.false_eq_true,if_false]
  refine ⟨⟨A,hw,h0,h1⟩,by show 0<=r.Zj+1;omega,by show r.Zj+1<=20;omega,tl,ts,tx,fun A' hA' _ _=> ?_⟩
  have:A=A':=Option.some.inj (hw.symm.trans hA')
  subst this
  exact hf
theorem nextOf_good {Kj:List Qq} {σ:Env} {r:Qz} (hok:ActsOk (Q_ Kj)) (hg:GoodEnv Kj σ) (h:r.Good Kj) (hc:CanGo (Q_ Kj) σ r): (Y_ (Q_ Kj) σ r).1.Good Kj:=by
 obtain ⟨A,hA,h0,h1⟩:=h.act
 have hAok:= (hok _ _ hA).1
 unfold Y_
 rw [hA]
 simp only
 by_cases hv:r.Zj=0
 ·rw [if_pos hv]
  have:=h.tl
  exact arrive_good hA h0 h1 h.lo (by omega) (by omega) h.ts h.tx
 ·rw [if_neg hv]
  rcases hc.2 with e | ⟨A',xs,hA',hxs⟩
  ·exact absurd e hv
  ·rw [hA] at hA'
   cases hA'
   rw [hxs]
   simp only
   have lo:=h.lo
   have hi:=h.hi
   have tl:=h.tl
   by_cases h20:r.Zj=20
   ·rw [if_pos h20]
    exact ⟨⟨A,hA,h0,h1⟩,h.lo,h.hi,h.tl,h.ts,by show spentB.size<=200;decide,fun _ _ h=> by simp at h⟩
   ·rw [if_neg h20]
    obtain ⟨hal,han⟩:=asks_ok hAok h0 h1
    have han2: ∀n∈(stepOf A r.at').asks,n.size<=20:=fun n hn=> (han n hn).2.1
    obtain ⟨hAns,hxt⟩:=answers_ok hg han2 hxs
    have hfol:=goOnF_followed hAns
    have hW:WentOn A.cost A.steps r.at' xs (goOnF (stepOf A r.at') xs):= .inr ⟨⟨hAok,⟨h0,h1⟩,h.stp A hA hc.1 hv⟩,hfol⟩
    by_cases hgo: (goOnF (stepOf A r.at') xs).over=true
    ·rw [if_pos hgo]
     refine ⟨⟨A,hA,h0,h1⟩,by show 0<=r.Zj+1;omega,by show r.Zj+1<=20;omega,by show (r.texts.length:Int)<=5 * (r.Zj+1);omega,h.ts, ?_,fun _ _ h=> by simp at h⟩
     show (goOnF (stepOf A r.at') xs).text.size<=200
     unfold goOnF
     split
     ·split
      ·exact belowOf_size han2
      ·show (⟨#[]⟩:ByteArray).size<=200;decide
     ·show (⟨#[]⟩:ByteArray).size<=200;decide
    ·rw [if_neg hgo]
     have hgood:0<=(goOnF (stepOf A r.at') xs).at'∧(goOnF (stepOf A r.at') xs).at' < A.steps.length:=by
      have hfF: (stepOf A r.at').fin=false:=h.stp A hA hc.1 hv
      have hs:StepOk (stepOf A r.at') A.steps.length:=hAok.2.2 r.at'.toNat (by omega)
      obtain ⟨⟨_,_,_,_,_,he,hfall,_⟩,hcs⟩:=hs.2 hfF
      unfold goOnF at hgo⊢
      split
      ·rename_i i hi'
       rw [hi'] at hgo
       simp only at hgo
       by_cases hfa: (stepOf A r.at').fall= -1
       ·rw [if_pos hfa] at hgo;simp at hgo
       ·rw [if_neg hfa];exact ⟨by show 0<=(stepOf A r.at').fall;omega,hfall.2⟩
      ·show 0<=(if xs.length=0 then _ else _)∧(if xs.length=0 then _ else _) < _
       split
       ·exact he
       ·rcases caseAt_is (textAt xs (stepOf A r.at').on) (stepOf A r.at').els (stepOf A r.at').cases with ⟨i,g1,_,_,g4⟩ | ⟨_,g2⟩
        ·rw [g4];exact (hcs i g1).2
        ·rw [g2];exact he
     have hgl:=goodOf_len xs
     have hxl:xs.length<=5:=by rw [hAns.1];exact hal
     refine arrive_good (r:= { r with texts:=r.texts++goodOf xs,at':= (goOnF (stepOf A r.at') xs).at' }) hA hgood.1 hgood.2 h.lo (by show r.Zj < 20;omega) ?_ (fun t ht=> ?_) h.tx
     ·show ((r.texts++goodOf xs).length:Int)<=5 * (r.Zj+1)
      rw [List.length_append]
      push_cast
      omega
     ·rcases List.mem_append.1 ht with ht | ht
      ·exact h.ts t ht
      ·obtain ⟨x,hx,rfl⟩:=goodOf_mem ht
       exact hxt x hx
def wantL (W:Acts):List Qz->List ByteArray->List Qz
 | l,[]=> l
 | l,a :: bs=> wantL W (if (W a).isSome=true∧(Qj l a).isNone=true then l++ [Qz.fresh a] else l) bs
theorem env_snoc (l:List Qz) (x:Qz) (m:ByteArray):Qj (l++ [x]) m=match Qj l m with | some r=> some r | none=> if x.name=m then some x else none:=by
 unfold Qj
 rw [List.find?_append]
 cases h:l.find? fun r=> decide (r.name=m) with
 | some r=> rfl
 | none=>
  by_cases e:x.name=m
  ·simp [e]
  ·simp [e]
theorem wantL_env (W:Acts): ∀(bs:List ByteArray) (l:List Qz) (m:ByteArray),Qj (wantL W l bs) m=match Qj l m with | some r=> some r | none=> if hasN bs m=true∧(W m).isSome=true then some (Qz.fresh m) else none
 | [],l,m=> by
  show Qj l m=_
  cases Qj l m with
  | some r=> rfl
  | none=> simp [hasN]
 | a :: bs,l,m=> by
  show Qj (wantL W (if (W a).isSome=true∧(Qj l a).isNone=true then l++ [Qz.fresh a] else l) bs) m=_
  rw [wantL_env W bs]
  have hcons:hasN (a :: bs) m=true↔a=m∨hasN bs m=true:=by simp [hasN]
  by_cases hc: (W a).isSome=true∧(Qj l a).isNone=true
  ·rw [if_pos hc,env_snoc]
   cases hm:Qj l m with
   | some r=> rfl
   | none=>
    simp only
    by_cases e:a=m
    ·subst e
     have e1: (Qz.fresh a).name=a:=rfl
     rw [if_pos e1]
     simp only
     rw [if_pos ⟨hcons.2 (.inl rfl),hc.1⟩]
    ·have e1: (Qz.fresh a).name≠m:=e
     rw [if_neg e1]
     simp only
     by_cases h2:hasN bs m=true∧(W m).isSome=true
     ·rw [if_pos h2,if_pos ⟨hcons.2 (.inr h2.1),h2.2⟩]
     ·rw [if_neg h2,if_neg]
      rintro ⟨h3,h4⟩
      rcases hcons.1 h3 with h5 | h5
      ·exact e h5
      ·exact h2 ⟨h5,h4⟩
  ·rw [if_neg hc]
   cases hm:Qj l m with
   | some r=> rfl
   | none=>
    simp only
    by_cases h2:hasN bs m=true∧(W m).isSome=true
    ·rw [if_pos h2,if_pos ⟨hcons.2 (.inr h2.1),h2.2⟩]
    ·rw [if_neg h2,if_neg]
     rintro ⟨h3,h4⟩
     rcases hcons.1 h3 with h5 | h5
     ·subst h5
      exact hc ⟨h4,by rw [hm];rfl⟩
     ·exact h2 ⟨h5,h4⟩
theorem wantL_diff (W:Acts): ∀(bs:List ByteArray) (l:List Qz),(∀x∈l,∀y∈l,x.name=y.name->x=y)->∀x∈wantL W l bs,∀y∈wantL W l bs,x.name=y.name->x=y
 | [],_,h=> h
 | a :: bs,l,h=> by
  show∀x∈wantL W (if (W a).isSome=true∧(Qj l a).isNone=true then l++ [Qz.fresh a] else l) bs,∀y∈wantL W (if (W a).isSome=true∧(Qj l a).isNone=true then l++ [Qz.fresh a] else l) bs,_
  refine wantL_diff W bs _ ?_
  by_cases hc: (W a).isSome=true∧(Qj l a).isNone=true
  ·rw [if_pos hc]
   have hno: ∀x∈l,x.name≠a:=fun x hx e=> by
    have:= (env_iff h).2 ⟨hx,e⟩
    rw [this] at hc
    simp at hc
   intro x hx y hy e
   rcases List.mem_append.1 hx with hx | hx <;> rcases List.mem_append.1 hy with hy | hy
   ·exact h x hx y hy e
   ·rw [List.mem_singleton] at hy;subst hy;exact absurd e (hno x hx)
   ·rw [List.mem_singleton] at hx;subst hx;exact absurd e.symm (hno y hy)
   ·rw [List.mem_singleton] at hx hy;rw [hx,hy]
  ·rw [if_neg hc]
   exact h
def doL (W:Acts) (l:List Qz) (r:Qz):List Qz:= (wantL W (insX l (Y_ W (Qj l) r).1) (Y_ W (Qj l) r).2).foldl insX []
theorem doL_asc {W:Acts} {l:List Qz} {r:Qz} (h:AscX l):AscX (doL W l r):= (foldl_ins _ [] List.Pairwise.nil (wantL_diff W _ _ (asc_diff (insX_asc h)))).1
theorem doL_env {W:Acts} {l:List Qz} {n:ByteArray} {r:Qz} (h:AscX l) (hr:Qj l n=some r):Qj (doL W l r)=doX W (Qj l) n:=by
 funext m
 have hn:r.name=n:= (env_mem hr).2
 have hn2: (Y_ W (Qj l) r).1.name=n:=by rw [nextOf_name];exact hn
 unfold doL
 rw [(foldl_ins _ [] List.Pairwise.nil (wantL_diff W _ _ (asc_diff (insX_asc h)))).2 m,wantL_env,insX_env h,doX_eq hr,hn2]
 by_cases e:m=n
 ·rw [if_pos e,if_pos e]
 ·rw [if_neg e,if_neg e]
  cases hm:Qj l m with
  | some x=> rfl
  | none=>
   simp only
   by_cases c:hasN (Y_ W (Qj l) r).2 m=true∧(W m).isSome=true
   ·rw [if_pos c]
   ·rw [if_neg c]
    rfl
structure GoodL (Kj:List Qq) (l:List Qz):Prop where
 asc:AscX l
 good: ∀r∈l,r.Good Kj
theorem GoodL.env {Kj:List Qq} {l:List Qz} (h:GoodL Kj l):GoodEnv Kj (Qj l):=fun _n r hr=> ⟨(env_mem hr).2,h.good r (env_mem hr).1⟩
theorem fresh_good {Kj:List Qq} (hok:ActsOk (Q_ Kj)) {a:ByteArray} (h: (Q_ Kj a).isSome=true): (Qz.fresh a).Good Kj:=by
 obtain ⟨A,hA⟩:=Option.isSome_iff_exists.1 h
 have hA1:= (hok a A hA).1.2.1.1
 exact ⟨⟨A,hA,Int.le_refl _,by show (0:Int) < A.steps.length;omega⟩,Int.le_refl _,by show (0:Int)<=20;omega,by show ((([]:List ByteArray).length:Nat):Int)<=5 * 0;simp,fun t ht=> (by cases ht),by show (⟨#[]⟩:ByteArray).size<=200;decide,fun _ _ _ h=> absurd rfl h⟩
theorem doL_good {Kj:List Qq} (hok:ActsOk (Q_ Kj)) {l:List Qz} {r:Qz} (h:GoodL Kj l) (hr:r∈l) (hc:CanGo (Q_ Kj) (Qj l) r):GoodL Kj (doL (Q_ Kj) l r):=by
 refine ⟨doL_asc h.asc,fun x hx=> ?_⟩
 have he:=asc_env h.asc hr
 have h1:=asc_env (doL_asc (W:=Q_ Kj) (r:=r) h.asc) hx
 rw [doL_env h.asc he,doX_eq he] at h1
 by_cases e:x.name=r.name
 ·rw [if_pos e] at h1
  cases h1
  exact nextOf_good hok h.env (h.good r hr) hc
 ·rw [if_neg e] at h1
  cases hm:Qj l x.name with
  | some y=>
   rw [hm] at h1
   cases h1
   exact h.good x (env_mem hm).1
  | none=>
   rw [hm] at h1
   simp only at h1
   split at h1
   ·rename_i hc2
    have e2:Qz.fresh x.name=x:=Option.some.inj h1
    rw [<-e2]
    exact fresh_good hok hc2.2
   ·cases h1
inductive ReadyL (W:Acts) (σ:Env):List Qz->List ByteArray->Prop
 | nil:ReadyL W σ [] []
 | yes {l:List Qz} {ns:List ByteArray} {r:Qz} (h:ReadyL W σ l ns) (hr:CanGo W σ r):ReadyL W σ (l++ [r]) (ns++ [r.name])
 | no {l:List Qz} {ns:List ByteArray} {r:Qz} (h:ReadyL W σ l ns) (hr: ¬CanGo W σ r):ReadyL W σ (l++ [r]) ns
theorem ReadyL.mem {W:Acts} {σ:Env} {l:List Qz} {ns:List ByteArray} (h:ReadyL W σ l ns) (n:ByteArray):n∈ns↔∃r∈l,r.name=n∧CanGo W σ r:=by
 induction h with
 | nil=> simp
 | yes h hr ih=>
  rename_i l ns r
  rw [List.mem_append,ih,List.mem_singleton]
  constructor
  ·rintro (⟨x,h1,h2⟩ | rfl)
   ·exact ⟨x,List.mem_append.2 (.inl h1),h2⟩
   ·exact ⟨r,List.mem_append.2 (.inr (by simp)),rfl,hr⟩
  ·rintro ⟨x,h1,h2,h3⟩
   rcases List.mem_append.1 h1 with h1 | h1
   ·exact .inl ⟨x,h1,h2,h3⟩
   ·rw [List.mem_singleton] at h1
    subst h1
    exact .inr h2.symm
 | no h hr ih=>
  rename_i l ns r
  rw [ih]
  constructor
  ·rintro ⟨x,h1,h2⟩
   exact ⟨x,List.mem_append.2 (.inl h1),h2⟩
  ·rintro ⟨x,h1,h2,h3⟩
   rcases List.mem_append.1 h1 with h1 | h1
   ·exact ⟨x,h1,h2,h3⟩
   ·rw [List.mem_singleton] at h1
    subst h1
    exact absurd h3 hr
theorem ReadyL.nodup {W:Acts} {σ:Env} {l:List Qz} {ns:List ByteArray} (h:ReadyL W σ l ns) (ha:AscX l):ns.Nodup:=by
 induction h with
 | nil=> exact List.nodup_nil
 | yes h hr ih=>
  rename_i l ns r
  have ha':=List.pairwise_append.1 ha
  rw [List.nodup_append]
  refine ⟨ih ha'.1,by simp, ?_⟩
  intro a h1 b h2
  rw [List.mem_singleton] at h2
  subst h2
  obtain ⟨x,g1,rfl,_⟩:= (h.mem a).1 h1
  exact lessX_ne (ha'.2.2 x g1 r (by simp))
 | no h hr ih=> exact ih (List.pairwise_append.1 ha).1
theorem ReadyL.ready {W:Acts} {l:List Qz} {ns:List ByteArray} (h:ReadyL W (Qj l) l ns) (ha:AscX l) (n:ByteArray):n∈ns↔ReadyX W (Qj l) n:=by
 rw [h.mem]
 constructor
 ·rintro ⟨r,h1,rfl,h3⟩
  exact ⟨r,asc_env ha h1,h3⟩
 ·rintro ⟨r,h1,h2⟩
  obtain ⟨h3,h4⟩:=env_mem h1
  exact ⟨r,h3,h4,h2⟩
theorem ReadyL.len {W:Acts} {σ:Env} {l:List Qz} {ns:List ByteArray} (h:ReadyL W σ l ns):ns.length<=l.length:=by
 induction h with
 | nil=> exact Nat.le_refl _
 | yes _ _ ih=> simp only [List.length_append,List.length_singleton];omega
 | no _ _ ih=> simp only [List.length_append,List.length_singleton];omega
theorem ReadyL.unique {W:Acts} {σ:Env} {l:List Qz} {ns ns':List ByteArray} (h:ReadyL W σ l ns) (g:ReadyL W σ l ns'):ns=ns':=by
 induction h generalizing ns' with
 | nil=>
  generalize e: ([]:List Qz)=l at g
  cases g with
  | nil=> rfl
  | yes=> simp at e
  | no=> simp at e
 | yes h hr ih=>
  rename_i l ns r
  generalize e:l++ [r]=l' at g
  cases g with
  | nil=> simp at e
  | yes g gr=>
   rw [List.append_singleton_inj] at e
   obtain ⟨rfl,rfl⟩:=e
   rw [ih g]
  | no g gr=>
   rw [List.append_singleton_inj] at e
   obtain ⟨rfl,rfl⟩:=e
   exact absurd hr gr
 | no h hr ih=>
  rename_i l ns r
  generalize e:l++ [r]=l' at g
  cases g with
  | nil=> simp at e
  | yes g gr=>
   rw [List.append_singleton_inj] at e
   obtain ⟨rfl,rfl⟩:=e
   exact absurd gr hr
  | no g gr=>
   rw [List.append_singleton_inj] at e
   obtain ⟨rfl,rfl⟩:=e
   exact ih g
def startL (Kj:List Qq) (Kk:List ByteArray):List Qz:= (wantL (Q_ Kj) [] Kk).foldl insX []
theorem startL_asc (Kj:List Qq) (Kk:List ByteArray):AscX (startL Kj Kk):= (foldl_ins _ [] List.Pairwise.nil (wantL_diff (Q_ Kj) Kk [] (fun _ h=> by cases h))).1
theorem startL_env (Kj:List Qq) (Kk:List ByteArray) (n:ByteArray):Qj (startL Kj Kk) n=if hasN Kk n=true∧(Q_ Kj n).isSome=true then some (Qz.fresh n) else none:=by
 unfold startL
 rw [(foldl_ins _ [] List.Pairwise.nil (wantL_diff (Q_ Kj) Kk [] (fun _ h=> by cases h))).2 n,wantL_env]
 show (match (if hasN Kk n=true∧(Q_ Kj n).isSome=true then some (Qz.fresh n) else none) with | some r=> some r | none=> Qj [] n)=_
 split
 ·rename_i r h;rw [h]
 ·rename_i h;rw [h];rfl
theorem startL_good {Kj:List Qq} (hok:ActsOk (Q_ Kj)) (Kk:List ByteArray):GoodL Kj (startL Kj Kk):=by
 refine ⟨startL_asc Kj Kk,fun r hr=> ?_⟩
 have h1:=asc_env (startL_asc Kj Kk) hr
 rw [startL_env] at h1
 split at h1
 ·rename_i h2
  have e2:Qz.fresh r.name=r:=Option.some.inj h1
  rw [<-e2]
  exact fresh_good hok h2.2
 ·cases h1
theorem GoodL.wf {Kj:List Qq} {l:List Qz} (h:GoodL Kj l):WfX (Q_ Kj) (Qj l):=fun n r hr=> by
 obtain ⟨h1,h2⟩:=env_mem hr
 have hg:=h.good r h1
 obtain ⟨A,hA,_⟩:=hg.act
 exact ⟨h2,by rw [<-h2,hA];rfl,hg.lo,hg.hi⟩
theorem acts_in {Kj:List Qq} {n:ByteArray} (h: (Q_ Kj n).isSome=true):n∈Kj.map (·.name):=by
 obtain ⟨A,hA⟩:=Option.isSome_iff_exists.1 h
 obtain ⟨k,h1,h2,_⟩:=acts_first hA
 rw [List.mem_map]
 refine ⟨Kj.getD k Qq.zero, ?_,h2⟩
 simp only [List.getD,List.getElem?_eq_getElem h1,Option.getD_some]
 exact List.getElem_mem h1
def potL (Kj:List Qq) (l:List Qz):Nat:=potAll (Kj.map (·.name)) (Qj l)
theorem potL_do {Kj:List Qq} {l:List Qz} {n:ByteArray} {r:Qz} (h:GoodL Kj l) (hr:Qj l n=some r) (hc:CanGo (Q_ Kj) (Qj l) r):potL Kj (doL (Q_ Kj) l r) < potL Kj l:=by
 unfold potL
 rw [doL_env h.asc hr]
 exact (potAll_do h.wf ⟨r,hr,hc⟩ _).2 (acts_in (h.wf n r hr).web)
theorem asc_nodup {l:List Qz} (h:AscX l): (l.map (·.name)).Nodup:=by
 rw [List.Nodup,List.pairwise_map]
 exact h.imp fun hx=> lessX_ne hx
theorem GoodL.len {Kj:List Qq} {l:List Qz} (h:GoodL Kj l):l.length<=Kj.length:=by
 have h1:=List.Nodup.length_le_of_subset (asc_nodup h.asc) (l₂:=Kj.map (·.name)) (fun n hn=> by
  obtain ⟨r,hr,rfl⟩:=List.mem_map.1 hn
  exact acts_in (h.wf r.name r (asc_env h.asc hr)).web)
 simpa using h1
theorem ready_rest {W:Acts} {σ:Env} {ns:List ByteArray} (hn:ns.Nodup) {i:Nat} (hi:i < ns.length) (h: ∀j,i<=j->j < ns.length->ReadyX W σ (ns.getD j ByteArray.empty)): ∀j,i+1<=j->j < ns.length->ReadyX W (doX W σ (ns.getD i ByteArray.empty)) (ns.getD j ByteArray.empty):=by
 intro j hj hjl
 refine (doX_commutes σ _ _ ?_ (h i (Nat.le_refl _) hi) (h j (by omega) hjl)).1
 simp only [List.getD,List.getElem?_eq_getElem hi,List.getElem?_eq_getElem hjl,Option.getD_some]
 exact List.pairwise_iff_getElem.1 hn i j hi hjl (by omega)
def GoalX (Kj:List Qq) (Kk:List ByteArray) (sl:List Qz):Prop:=
 ∃k L,GoodL Kj L∧Leads (Behind (W:=Q_ Kj) behindS (Qj sl)) (doX (Q_ Kj)) (Qj (startL Kj Kk)) (Qj L) k∧AtEnd (Behind (W:=Q_ Kj) behindS (Qj sl)) (Qj L)∧L=sl
structure RoundX (Kj:List Qq) (G:Env) (σ0:Env) (ns:List ByteArray) (l0 l:List Qz) (i:Nat) (b:Bool):Prop where
 good:GoodL Kj l
 led: ∃k,Leads (Behind (W:=Q_ Kj) behindS G) (doX (Q_ Kj)) σ0 (Qj l) k
 rest: ∀j,i<=j->j < ns.length->ReadyX (Q_ Kj) (Qj l) (ns.getD j ByteArray.empty)
 no:b=false->l=l0∧∀j,j < i->¬Behind (W:=Q_ Kj) behindS G (Qj l0) (ns.getD j ByteArray.empty)
 yes:b=true->potL Kj l < potL Kj l0
theorem RoundX.start {Kj:List Qq} {G σ0:Env} {ns:List ByteArray} {l0:List Qz} (hg:GoodL Kj l0) (hl: ∃k,Leads (Behind (W:=Q_ Kj) behindS G) (doX (Q_ Kj)) σ0 (Qj l0) k) (hr:ReadyL (Q_ Kj) (Qj l0) l0 ns):RoundX Kj G σ0 ns l0 l0 0 false:=
 ⟨hg,hl,fun j _ hj=> by
  rw [<-hr.ready hg.asc]
  simp only [List.getD,List.getElem?_eq_getElem hj,Option.getD_some]
  exact List.getElem_mem hj,fun _=> ⟨rfl,fun j hj=> absurd hj (Nat.not_lt_zero _)⟩,fun h=> by cases h⟩
theorem RoundX.skip {Kj:List Qq} {G σ0:Env} {ns:List ByteArray} {l0 l:List Qz} {i:Nat} {b:Bool} (h:RoundX Kj G σ0 ns l0 l i b) (hn: ¬Behind (W:=Q_ Kj) behindS G (Qj l) (ns.getD i ByteArray.empty)):RoundX Kj G σ0 ns l0 l (i+1) b:=
 ⟨h.good,h.led,fun j hj hjl=> h.rest j (by omega) hjl,fun hb=> ⟨(h.no hb).1,fun j hj=> by
  by_cases e:j=i
  ·subst e
   rw [<-(h.no hb).1]
   exact hn
  ·exact (h.no hb).2 j (by omega)⟩,h.yes⟩
theorem RoundX.did {Kj:List Qq} (hok:ActsOk (Q_ Kj)) {G σ0:Env} {ns:List ByteArray} (hnd:ns.Nodup) {l0 l:List Qz} {i:Nat} {b:Bool} (h:RoundX Kj G σ0 ns l0 l i b) (hi:i < ns.length) (hn:Behind (W:=Q_ Kj) behindS G (Qj l) (ns.getD i ByteArray.empty)) {r:Qz} (hr:Qj l (ns.getD i ByteArray.empty)=some r):RoundX Kj G σ0 ns l0 (doL (Q_ Kj) l r) (i+1) true:=by
 obtain ⟨k,hk⟩:=h.led
 obtain ⟨⟨r',hr',hc⟩,_⟩:=hn
 have hn:Behind (W:=Q_ Kj) behindS G (Qj l) (ns.getD i ByteArray.empty):= ⟨⟨r',hr',hc⟩,by assumption⟩
 rw [hr] at hr'
 cases hr'
 have he:=doL_env (W:=Q_ Kj) h.good.asc hr
 have hp:=potL_do h.good hr hc
 refine ⟨doL_good hok h.good (env_mem hr).1 hc,⟨k+1,by rw [he];exact hk.snoc hn⟩,fun j hj hjl=> by rw [he];exact ready_rest hnd hi h.rest j hj hjl,fun hb=> (by cases hb),fun _=> ?_⟩
 cases b with
 | true=> have:=h.yes rfl;omega
 | false=> rw [(h.no rfl).1] at hp⊢;exact hp
theorem RoundX.atEnd {Kj:List Qq} {G σ0:Env} {ns:List ByteArray} {l0 l:List Qz} (hg:GoodL Kj l0) (hr:ReadyL (Q_ Kj) (Qj l0) l0 ns) (h:RoundX Kj G σ0 ns l0 l ns.length false):l=l0∧AtEnd (Behind (W:=Q_ Kj) behindS G) (Qj l):=by
 obtain ⟨h1,h2⟩:=h.no rfl
 refine ⟨h1,fun n hn=> ?_⟩
 rw [h1] at hn
 have hm:= (hr.ready hg.asc n).2 hn.1
 obtain ⟨j,hj,e⟩:=List.getElem_of_mem hm
 have:=h2 j hj
 simp only [List.getD,List.getElem?_eq_getElem hj,Option.getD_some,e] at this
 exact this hn
section
variable {W : Acts}
def pend (W:Acts) (σ:Env) (r:Qz):List ByteArray:=
 if r.over=true∨r.Zj=0 then [] else
 match W r.name with
 | none=> []
 | some A=> (stepOf A r.at').asks.filter fun a=> (ansOf W σ a).isNone
theorem answers_some {σ:Env}: ∀{l:List ByteArray},(∃xs,Yq W σ l=some xs)↔∀a∈l,(ansOf W σ a).isSome=true
 | []=> ⟨fun _ _ h=> (by cases h),fun _=> ⟨[],rfl⟩⟩
 | a :: l=> by
  constructor
  ·rintro ⟨xs,h⟩ b hb
   unfold Yq at h
   cases ha:ansOf W σ a with
   | none=> rw [ha] at h;cases h
   | some x=>
    rw [ha] at h
    simp only at h
    cases hl:Yq W σ l with
    | none=> rw [hl] at h;cases h
    | some ys=>
     rcases List.mem_cons.1 hb with rfl | hb
     ·rw [ha];rfl
     ·exact answers_some.1 ⟨ys,hl⟩ b hb
  ·intro h
   obtain ⟨ys,hl⟩:=answers_some.2 (fun b hb=> h b (List.mem_cons_of_mem _ hb))
   obtain ⟨x,hx⟩:=Option.isSome_iff_exists.1 (h a (by simp))
   exact ⟨x :: ys,by unfold Yq;rw [hx,hl]⟩
theorem canGo_iff {σ:Env} {r:Qz} (hw: (W r.name).isSome=true):CanGo W σ r↔r.over=false∧pend W σ r=[]:=by
 obtain ⟨A,hA⟩:=Option.isSome_iff_exists.1 hw
 unfold CanGo pend
 constructor
 ·rintro ⟨h1,h2⟩
  refine ⟨h1, ?_⟩
  rcases h2 with h2 | ⟨A',xs,hA',hx⟩
  ·rw [if_pos (.inr h2)]
  ·by_cases h0:r.Zj=0
   ·rw [if_pos (.inr h0)]
   ·rw [if_neg (by rw [h1];simp [h0]),hA]
    simp only
    rw [hA] at hA'
    cases hA'
    rw [List.filter_eq_nil_iff]
    intro a ha
    have:=answers_some.1 ⟨xs,hx⟩ a ha
    cases hn:ansOf W σ a with
    | none=> rw [hn] at this;cases this
    | some x=> simp
 ·rintro ⟨h1,h2⟩
  refine ⟨h1, ?_⟩
  by_cases h0:r.Zj=0
  ·exact .inl h0
  ·right
   rw [if_neg (by rw [h1];simp [h0]),hA] at h2
   simp only at h2
   rw [List.filter_eq_nil_iff] at h2
   obtain ⟨xs,hx⟩:= (answers_some (l:= (stepOf A r.at').asks) (W:=W) (σ:=σ)).2 (fun a ha=> by
    have:=h2 a ha
    cases hn:ansOf W σ a with
    | none=> rw [hn] at this;simp at this
    | some x=> rfl)
   exact ⟨A,xs,hA,hx⟩
theorem ans_do {σ:Env} {n:ByteArray} {r:Qz} (hr:σ n=some r) (_hc:r.over=false) (a:ByteArray):ansOf W (doX W σ n) a=if a=n∧(W n).isSome=true then (if (Y_ W σ r).1.over=true then some ⟨(Y_ W σ r).1.fail,(Y_ W σ r).1.text⟩ else none) else ansOf W σ a:=by
 unfold ansOf
 cases hw:W a with
 | none=>
  have: ¬(a=n∧(W n).isSome=true):=by rintro ⟨rfl,h⟩;rw [hw] at h;cases h
  rw [if_neg this]
 | some A=>
  simp only
  by_cases e:a=n
  ·subst e
   rw [if_pos ⟨rfl,by rw [hw];rfl⟩,doX_here hr]
  ·rw [if_neg (by rintro ⟨h,_⟩;exact e h),doX_eq hr,if_neg e]
   cases hs:σ a with
   | some x=> rfl
   | none=>
    simp only
    split
    ·rename_i x hx
     split at hx
     ·cases hx;rfl
     ·cases hx
    ·rfl
theorem pend_do {σ:Env} {n:ByteArray} {r x:Qz} (hr:σ n=some r) (hc:r.over=false) (hw: (W n).isSome=true):pend W (doX W σ n) x=if (Y_ W σ r).1.over=true then (pend W σ x).filter (fun a=> !decide (a=n)) else pend W σ x:=by
 unfold pend
 by_cases h0:x.over=true∨x.Zj=0
 ·rw [if_pos h0,if_pos h0]
  split <;> rfl
 ·rw [if_neg h0,if_neg h0]
  cases hA:W x.name with
  | none=> simp only;split <;> rfl
  | some A=>
   simp only
   have hn:ansOf W σ n=none:=by
    unfold ansOf
    obtain ⟨B,hB⟩:=Option.isSome_iff_exists.1 hw
    rw [hB,hr]
    simp [hc]
   by_cases ho: (Y_ W σ r).1.over=true
   ·rw [if_pos ho,List.filter_filter]
    congr 1
    funext a
    rw [ans_do hr hc]
    by_cases e:a=n
    ·rw [if_pos ⟨e,hw⟩,if_pos ho];simp [e]
    ·rw [if_neg (by rintro ⟨h,_⟩;exact e h)];simp [e]
   ·rw [if_neg ho]
    congr 1
    funext a
    rw [ans_do hr hc]
    by_cases e:a=n
    ·rw [if_pos ⟨e,hw⟩,if_neg ho,e,hn]
    ·rw [if_neg (by rintro ⟨h,_⟩;exact e h)]
theorem pend_fresh (σ:Env) (n:ByteArray):pend W σ (Qz.fresh n)=[]:=by
 unfold pend
 rw [if_pos (.inr rfl)]
theorem pend_nodup {σ:Env} {r:Qz} (hok:ActsOk W) {A:ActionD} (hA:W r.name=some A) (h0:0<=r.at') (h1:r.at' < A.steps.length): (pend W σ r).Nodup:=by
 unfold pend
 split
 ·exact List.nodup_nil
 ·rw [hA]
  simp only
  refine List.Pairwise.filter _ ?_
  have hst:= (hok _ _ hA).1.2.2 r.at'.toNat (by omega)
  have e:A.steps.getD r.at'.toNat Xj.zero=stepOf A r.at':=rfl
  rw [e] at hst
  cases hf: (stepOf A r.at').fin with
  | true=>
   have:= (hst.1 hf).1
   rw [List.length_eq_zero_iff.1 this]
   exact List.Pairwise.nil
  | false=>
   have hn:= (hst.2 hf).1.2.2.2.1
   rw [List.pairwise_iff_getElem]
   intro i j hi hj hij e
   have:= (hn j hj).2 i hij
   simp only [List.getD,List.getElem?_eq_getElem hi,List.getElem?_eq_getElem hj,Option.getD_some] at this
   exact this e
end
section
variable {W : Acts}
def againN (W:Acts) (σ:Env) (n:ByteArray):Nat->Qz×List ByteArray
 | 0=> (Qz.fresh n,[])
 | k+1=> ((Y_ W σ (againN W σ n k).1).1,(againN W σ n k).2++ (Y_ W σ (againN W σ n k).1).2)
def Traj (W:Acts) (σ:Env) (r:Qz) (L:List ByteArray):Prop:= ∃k,againN W σ r.name k= (r,L)∧∀j,j < k->CanGo W σ (againN W σ r.name j).1
theorem againN_name {σ:Env} {n:ByteArray}: ∀k,(againN W σ n k).1.name=n
 | 0=> rfl
 | k+1=> by unfold againN;rw [nextOf_name];exact againN_name k
theorem Traj.start {σ:Env} (n:ByteArray):Traj W σ (Qz.fresh n) []:= ⟨0,rfl,fun _ h=> absurd h (Nat.not_lt_zero _)⟩
theorem Traj.unit {σ:Env} {r:Qz} {L:List ByteArray} (h:Traj W σ r L) (hc:CanGo W σ r):Traj W σ (Y_ W σ r).1 (L++ (Y_ W σ r).2):=by
 obtain ⟨k,h1,h2⟩:=h
 refine ⟨k+1, ?_,fun j hj=> ?_⟩
 ·rw [nextOf_name]
  unfold againN
  rw [h1]
 ·rw [nextOf_name]
  rcases Nat.lt_or_ge j k with g | g
  ·exact h2 j g
  ·have:j=k:=by omega
   subst this
   rw [h1]
   exact hc
theorem againN_mono {σ:Env} {n m:ByteArray} (hr:ReadyX W σ m): ∀{k:Nat},(∀j,j < k->CanGo W σ (againN W σ n j).1)->againN W (doX W σ m) n k=againN W σ n k
 | 0,_=> rfl
 | k+1,h=> by
  have ih:=againN_mono (k:=k) hr (fun j hj=> h j (by omega))
  have:=nextOf_mono hr (h k (by omega))
  unfold againN
  rw [ih,this]
theorem Traj.mono {σ:Env} {m:ByteArray} {r:Qz} {L:List ByteArray} (h:Traj W σ r L) (hr:ReadyX W σ m):Traj W (doX W σ m) r L:=by
 obtain ⟨k,h1,h2⟩:=h
 refine ⟨k,by rw [againN_mono hr h2];exact h1,fun j hj=> ?_⟩
 rw [againN_mono hr (fun i hi=> h2 i (by omega))]
 exact (h2 j hj).mono hr
theorem againN_visits {σ:Env} {n:ByteArray} (hw: (W n).isSome=true): ∀{k:Nat},(∀j,j < k->CanGo W σ (againN W σ n j).1)->(againN W σ n k).1.over=false->(againN W σ n k).1.Zj=k
 | 0,_,_=> rfl
 | k+1,h,ho=> by
  have hk:=h k (by omega)
  have ih:=againN_visits hw (k:=k) (fun j hj=> h j (by omega)) hk.1
  rcases nextOf_visits hk (by rw [againN_name];exact hw) with g | ⟨_,_,g⟩
  ·show (Y_ W σ (againN W σ n k).1).1.Zj=_
   rw [g,ih]
   omega
  ·exact absurd (g.symm.trans ho) (by simp)
theorem Traj.last {σ:Env} {r:Qz} {L:List ByteArray} (h:Traj W σ r L) (ho:r.over=true) {k:Nat} (h1: ∀j,j < k->CanGo W σ (againN W σ r.name j).1) (h2: ¬CanGo W σ (againN W σ r.name k).1):againN W σ r.name k= (r,L):=by
 obtain ⟨m,g1,g2⟩:=h
 rcases Nat.lt_trichotomy k m with g | g | g
 ·exact absurd (g2 k g) h2
 ·subst g;exact g1
 ·have:= (h1 m g).1
  rw [g1] at this
  exact absurd (ho.symm.trans this) (by simp)
theorem Traj.here {σ:Env} {r:Qz} {L:List ByteArray} (hw: (W r.name).isSome=true) (h:Traj W σ r L) (ho:r.over=false): ∃k:Nat,r.Zj=k∧againN W σ r.name k= (r,L)∧∀j,j < k->CanGo W σ (againN W σ r.name j).1:=by
 obtain ⟨k,h1,h2⟩:=h
 refine ⟨k, ?_,h1,h2⟩
 have:=againN_visits hw h2 (by rw [h1];exact ho)
 rw [h1] at this
 exact this
theorem Traj.zero {σ:Env} {r:Qz} {L:List ByteArray} (hw: (W r.name).isSome=true) (h:Traj W σ r L) (hv:r.Zj=0) (ho:r.over=false):L=[]:=by
 obtain ⟨k,h1,h2,_⟩:=h.here hw ho
 have:k=0:=by omega
 subst this
 simp [againN] at h2
 exact h2.2
end
structure KnownX (w:World) (kb:Nat) (a:Option Addr) (n cap:Nat) (d:Option Addr) (m dc:Nat):Prop where
 row:RowT w kb 94 2
 web:w.cell? ⟨kb,0,none⟩=some (.slice a n cap)
 runs:w.cell? ⟨kb,1,none⟩=some (.slice d m dc)
theorem KnownX.kept {w w':World} {kb n cap m dc:Nat} {a d:Option Addr} (h:KnownX w kb a n cap d m dc) (k:K_ w w'):KnownX w' kb a n cap d m dc:=
 ⟨h.row.kept k,(k.cell h.row.lt).trans h.web,(k.cell h.row.lt).trans h.runs⟩
theorem l2At_place (w:World) (a:Option Addr) (cap:Nat) (l:List Qq) (key:ByteArray) (hl:l.length<=1048576) (hS:Nodes w a l):
  Calls Tryz.prog 55 #[.agg #[.slice a l.length cap],.string key] w fun e w'=> (∃r,e= .returned (.int .i64 r)∧PlaceN l key r)∧K_ w w':=by
 have k0:K_ w (w.alloc (.cells #[.slice a l.length cap] 37)):= (K_.refl _).alloc _
 go_enter Tryz.func55,Tryz.ntmps55
 go_wp2
 go_loop [5] (fun i=> ∃k:Nat,k<=l.length∧i= .int .i64 k∧Hid (∀j,j < k->(l.getD j Qq.zero).name≠key)) (fun i=> l.length - (intOf i).toNat)
 case atStart=> exact ⟨0,Nat.zero_le _,rfl,Kz fun j hj=> absurd hj (Nat.not_lt_zero _)⟩
 case round=>
  obtain ⟨k,hk,rfl,HG⟩:=hrel
  by_cases hlt:k < l.length
  ·obtain ⟨b,o,cs,rfl,hb,hc,aa,ca,rfl,hA⟩:= (hS.kept k0) k hlt
   obtain ⟨d,hd⟩: ∃d,d=l.getD k Qq.zero:= ⟨_,rfl⟩
   rw [<-hd] at hc
   have c0:=hc 0 _ rfl
   rw [Nat.add_zero] at c0
   have HD:=Kz hd
   clear hc hd hA
   cases hne: (d.name.toList == key.toList)
   ·go_wp2
    go_round
    case rel=>
     refine ⟨k+1,by omega,by go_num,Kz fun j hj=> ?_⟩
     by_cases e:j=k
     ·rw [e,<-HD.out];exact beq_no hne
     ·exact HG.out j (by omega)
    case measure=> simp [intOf];omega
   ·go_wp2
    go_ret
    exact ⟨⟨k,rfl,.inl ⟨k,hlt,rfl,acts_at hlt (by rw [<-HD.out];exact beq_yes hne) HG.out,(by rw [<-HD.out];exact beq_yes hne),HG.out⟩⟩,k0⟩
  ·go_wp2
   go_ret
   exact ⟨⟨-1,rfl,.inr ⟨rfl,acts_none fun j hj=> HG.out j (by omega)⟩⟩,k0⟩
theorem findX (w:World) (kb:Nat) (a:Option Addr) (n cap:Nat) (d:Option Addr) (dc:Nat) (l:List Qz) (key:ByteArray) (hl:l.length<=1048576) (hK:KnownX w kb a n cap d l.length dc) (hS:RunsX w d l):
  Calls Tryz.prog 97 #[.pointer (some ⟨kb,0,none⟩),.string key] w fun e w'=> (∃r,e= .returned (.int .i64 r)∧PlaceX l key r)∧w'=w:=by
 have c1:=hK.runs
 have hb:=hK.row.lt
 go_enter Tryz.func97,Tryz.ntmps97
 go_wp2
 go_loop [5] (fun i=> ∃k:Nat,k<=l.length∧i= .int .i64 k∧Hid (∀j,j < k->(l.getD j Qz.zero).name≠key)) (fun i=> l.length - (intOf i).toNat)
 case atStart=> exact ⟨0,Nat.zero_le _,rfl,Kz fun j hj=> absurd hj (Nat.not_lt_zero _)⟩
 case round=>
  obtain ⟨k,hk,rfl,HG⟩:=hrel
  by_cases hlt:k < l.length
  ·obtain ⟨b,o,xa,xc,rfl,hb',hc,_,_⟩:=hS k hlt
   obtain ⟨y,hy⟩: ∃y,y=l.getD k Qz.zero:= ⟨_,rfl⟩
   rw [<-hy] at hc
   have c0:=hc 0 _ rfl
   rw [Nat.add_zero] at c0
   have HD:=Kz hy
   clear hc hy
   cases hne: (y.name.toList == key.toList)
   ·go_wp2
    go_round
    case rel=>
     refine ⟨k+1,by omega,by go_num,Kz fun j hj=> ?_⟩
     by_cases e:j=k
     ·rw [e,<-HD.out];exact beq_no hne
     ·exact HG.out j (by omega)
    case measure=> simp [intOf];omega
   ·go_wp2
    go_ret
    exact ⟨⟨k,rfl,.inl ⟨k,hlt,rfl,env_at hlt (by rw [<-HD.out];exact beq_yes hne) HG.out,by rw [<-HD.out];exact beq_yes hne⟩⟩,rfl⟩
  ·go_wp2
   go_ret
   exact ⟨⟨-1,rfl,.inr ⟨rfl,env_none fun j hj=> HG.out j (by omega)⟩⟩,rfl⟩
theorem l4At_place (w:World) (ra:Option Addr) (rn rc:Nat) (d:Option Addr) (dc:Nat) (l:List Qz) (key:ByteArray) (hl:l.length<=1048576) (hS:RunsX w d l):
  Calls Tryz.prog 52 #[.agg #[.slice ra rn rc,.slice d l.length dc],.string key] w fun e w'=> (∃r,e= .returned (.int .i64 r)∧PlaceX l key r)∧K_ w w':=by
 have k0:K_ w (w.alloc (.cells #[.slice ra rn rc,.slice d l.length dc] 53)):= (K_.refl _).alloc _
 go_enter Tryz.func52,Tryz.ntmps52
 go_wp2
 go_loop [5] (fun i=> ∃k:Nat,k<=l.length∧i= .int .i64 k∧Hid (∀j,j < k->(l.getD j Qz.zero).name≠key)) (fun i=> l.length - (intOf i).toNat)
 case atStart=> exact ⟨0,Nat.zero_le _,rfl,Kz fun j hj=> absurd hj (Nat.not_lt_zero _)⟩
 case round=>
  obtain ⟨k,hk,rfl,HG⟩:=hrel
  by_cases hlt:k < l.length
  ·obtain ⟨b,o,xa,xc,rfl,hb',hc,_,_⟩:= (hS.kept k0) k hlt
   obtain ⟨y,hy⟩: ∃y,y=l.getD k Qz.zero:= ⟨_,rfl⟩
   rw [<-hy] at hc
   have c0:=hc 0 _ rfl
   rw [Nat.add_zero] at c0
   have HD:=Kz hy
   clear hc hy
   cases hne: (y.name.toList == key.toList)
   ·go_wp2
    go_round
    case rel=>
     refine ⟨k+1,by omega,by go_num,Kz fun j hj=> ?_⟩
     by_cases e:j=k
     ·rw [e,<-HD.out];exact beq_no hne
     ·exact HG.out j (by omega)
    case measure=> simp [intOf];omega
   ·go_wp2
    go_ret
    exact ⟨⟨k,rfl,.inl ⟨k,hlt,rfl,env_at hlt (by rw [<-HD.out];exact beq_yes hne) HG.out,by rw [<-HD.out];exact beq_yes hne⟩⟩,k0⟩
  ·go_wp2
   go_ret
   exact ⟨⟨-1,rfl,.inr ⟨rfl,env_none fun j hj=> HG.out j (by omega)⟩⟩,k0⟩
def putA (r:Qz) (p:List Qz×Bool) (x:Qz):List Qz×Bool:=if p.2=false∧Op.bytesLess x.name.toList r.name.toList=false then (p.1++ [r],true) else p
def putB (r:Qz) (p:List Qz×Bool) (x:Qz):List Qz×Bool:=if (x.name.toList == r.name.toList)=true then p else (p.1++ [x],p.2)
def putR (r:Qz) (p:List Qz×Bool) (x:Qz):List Qz×Bool:=putB r (putA r p x) x
def putK (l:List Qz) (r:Qz) (k:Nat):List Qz×Bool:= (l.take k).foldl (putR r) ([],false)
theorem putK_zero (l:List Qz) (r:Qz):putK l r 0= ([],false):=rfl
theorem putK_succ {l:List Qz} {r:Qz} {k:Nat} (h:k < l.length):putK l r (k+1)=putR r (putK l r k) (l.getD k Qz.zero):=by
 unfold putK
 rw [List.take_succ_eq_append_getElem h,List.foldl_append]
 simp [List.getD,h]
theorem putR_len (r:Qz) (p:List Qz×Bool) (x:Qz): (putR r p x).1.length+ (if (putR r p x).2=true then 0 else 1)<=p.1.length+ (if p.2=true then 0 else 1)+1:=by
 unfold putR putB putA
 obtain ⟨o,d⟩:=p
 cases d <;> cases Op.bytesLess x.name.toList r.name.toList <;> cases (x.name.toList == r.name.toList) <;> simp <;> omega
theorem putK_len {l:List Qz} {r:Qz}: ∀{k:Nat},k<=l.length->(putK l r k).1.length+ (if (putK l r k).2=true then 0 else 1)<=k+1
 | 0,_=> by rw [putK_zero];simp
 | k+1,h=> by
  have h1:=putK_len (l:=l) (r:=r) (k:=k) (by omega)
  have h2:=putR_len r (putK l r k) (l.getD k Qz.zero)
  rw [putK_succ (by omega)]
  omega
def putEnd (r:Qz) (p:List Qz×Bool):List Qz:=if p.2=true then p.1 else p.1++ [r]
theorem put_done (r:Qz): ∀(l acc:List Qz),l.foldl (putR r) (acc,true)= (acc++l.filter (fun x=> !(x.name.toList == r.name.toList)),true)
 | [],acc=> by simp
 | x :: l,acc=> by
  rw [List.foldl_cons]
  have e:putR r (acc,true) x= (acc++ (if (x.name.toList == r.name.toList)=true then [] else [x]),true):=by
   unfold putR putB putA
   cases (x.name.toList == r.name.toList) <;> simp
  rw [e,put_done r l]
  cases h: (x.name.toList == r.name.toList) <;> simp [h]
theorem put_fold (r:Qz): ∀(l acc:List Qz),AscX l->putEnd r (l.foldl (putR r) (acc,false))=acc++insX l r
 | [],acc,_=> by simp [putEnd,insX]
 | x :: l,acc,h=> by
  have h':=h
  rw [AscX,List.pairwise_cons] at h'
  rw [List.foldl_cons]
  cases hx:Op.bytesLess x.name.toList r.name.toList with
  | true=>
   have hne: (x.name.toList == r.name.toList)=false:=by
    rw [beq_eq_false_iff_ne]
    intro e
    exact lessX_ne (a:=x.name) (b:=r.name) hx (toList_inj.1 e)
   have hgt:Op.bytesLess r.name.toList x.name.toList=false:=by
    cases hg:Op.bytesLess r.name.toList x.name.toList with
    | false=> rfl
    | true=> exact absurd hg (lessX_asymm (a:=x.name) (b:=r.name) hx)
   have e:putR r (acc,false) x= (acc++ [x],false):=by simp [putR,putB,putA,hx,hne]
   rw [e,put_fold r l _ h'.2]
   simp [insX,hx,hgt]
  | false=>
   have hge: ∀y∈x :: l,Op.bytesLess y.name.toList r.name.toList=false:=by
    intro y hy
    rcases List.mem_cons.1 hy with rfl | hy
    ·exact hx
    ·cases hg:Op.bytesLess y.name.toList r.name.toList with
     | false=> rfl
     | true=>
      have:=lessX_trans (h'.1 y hy) (show lessX y.name r.name from hg)
      unfold lessX at this
      rw [hx] at this
      cases this
   have f1: (x :: l).filter (fun y=> Op.bytesLess y.name.toList r.name.toList)=[]:=by
    rw [List.filter_eq_nil_iff]
    intro y hy
    rw [hge y hy]
    simp
   have f2: (x :: l).filter (fun y=> Op.bytesLess r.name.toList y.name.toList)= (x :: l).filter (fun y=> !(y.name.toList == r.name.toList)):=by
    refine List.filter_congr fun y hy=> ?_
    rcases lessX_total r.name y.name with h3 | h3 | h3
    ·have e2: (y.name.toList == r.name.toList)=false:=by
      rw [beq_eq_false_iff_ne]
      intro e
      exact lessX_ne h3 (toList_inj.1 e).symm
     unfold lessX at h3
     rw [h3,e2]
     rfl
    ·rw [h3,less_irrefl]
     simp
    ·unfold lessX at h3
     rw [hge y hy] at h3
     cases h3
   have e:putR r (acc,false) x= (acc++ [r]++ (if (x.name.toList == r.name.toList)=true then [] else [x]),true):=by
    unfold putR putB putA
    cases (x.name.toList == r.name.toList) <;> simp [hx]
   rw [e,put_done]
   unfold putEnd insX
   rw [f1,f2]
   cases h: (x.name.toList == r.name.toList) <;> simp [h]
theorem put_end {l:List Qz} {r:Qz} (h:AscX l):putEnd r (putK l r l.length)=insX l r:=by
 unfold putK
 rw [List.take_length,put_fold r l [] h,List.nil_append]
def pickX (picks:List Int) (i:Nat):Int:=if picks=[] then 0 else if picks.getD (i % picks.length) 0 < 0 then 0 else picks.getD (i % picks.length) 0
def placeX (picks:List Int) (i n:Nat):Nat:= (pickX picks i).toNat % n
theorem placeX_lt (picks:List Int) (i:Nat) {n:Nat} (h:0 < n):placeX picks i n < n:=Nat.mod_lt _ h
inductive OrdW (Kj:List Qq) (picks:List Int):List Qz->List ByteArray->List Qz->List ByteArray->Prop
 | stop {T:List Qz} {D:List ByteArray} (h:ReadyL (Q_ Kj) (Qj T) T []):OrdW Kj picks T D T D
 | step {T T':List Qz} {D D' ns:List ByteArray} {r:Qz} (h:ReadyL (Q_ Kj) (Qj T) T ns) (hn:0 < ns.length) (hr:Qj T (ns.getD (placeX picks D.length ns.length) ByteArray.empty)=some r)
   (hw:OrdW Kj picks (doL (Q_ Kj) T r) (D++ [ns.getD (placeX picks D.length ns.length) ByteArray.empty]) T' D'):OrdW Kj picks T D T' D'
theorem OrdW.unique {Kj:List Qq} {picks:List Int} {T T1 T2:List Qz} {D D1 D2:List ByteArray} (h:OrdW Kj picks T D T1 D1) (g:OrdW Kj picks T D T2 D2):T1=T2∧D1=D2:=by
 induction h with
 | stop h=>
  cases g with
  | stop=> exact ⟨rfl,rfl⟩
  | step h' hn=>
   rw [h'.unique h] at hn
   exact absurd hn (Nat.lt_irrefl 0)
 | step h hn hr _ ih=>
  cases g with
  | stop h'=>
   rw [h.unique h'] at hn
   exact absurd hn (Nat.lt_irrefl 0)
  | step h' hn' hr' hw'=>
   obtain rfl:=h.unique h'
   rw [hr] at hr'
   obtain rfl:=Option.some.inj hr'
   exact ih hw'
theorem potOf_le23 (x:Option Qz):potOf x<=23:=by
 cases x with
 | none=> exact Nat.le_refl _
 | some r=>
  show (if r.over=true then 0 else 22 - r.Zj.toNat)<=23
  split <;> omega
theorem potAll_le23 (σ:Env): ∀l:List ByteArray,potAll l σ<=23 * l.length
 | []=> Nat.zero_le _
 | n :: l=> by
  have h:=potAll_le23 σ l
  have h2:=potOf_le23 (σ n)
  have e:potAll (n :: l) σ=potOf (σ n)+potAll l σ:=by simp [potAll]
  rw [e,List.length_cons]
  omega
theorem potL_le23 (Kj:List Qq) (l:List Qz):potL Kj l<=23 * Kj.length:=by
 have h:=potAll_le23 (Qj l) (Kj.map (·.name))
 rw [List.length_map] at h
 exact h
structure OrdI (Kj:List Qq) (picks:List Int) (T0 T:List Qz) (D:List ByteArray):Prop where
 good:GoodL Kj T
 fits:D.length+potL Kj T<=potL Kj T0
 on: ∀T' D',OrdW Kj picks T D T' D'->OrdW Kj picks T0 [] T' D'
theorem OrdI.start {Kj:List Qq} {picks:List Int} {T:List Qz} (h:GoodL Kj T):OrdI Kj picks T T []:= ⟨h,by simp,fun _ _ h=> h⟩
theorem OrdI.next {Kj:List Qq} {picks:List Int} {T0 T:List Qz} {D ns:List ByteArray} (h:OrdI Kj picks T0 T D) (hok:ActsOk (Q_ Kj)) (hR:ReadyL (Q_ Kj) (Qj T) T ns) (hn:0 < ns.length):
  ∃r,Qj T (ns.getD (placeX picks D.length ns.length) ByteArray.empty)=some r∧CanGo (Q_ Kj) (Qj T) r∧OrdI Kj picks T0 (doL (Q_ Kj) T r) (D++ [ns.getD (placeX picks D.length ns.length) ByteArray.empty])∧potL Kj (doL (Q_ Kj) T r) < potL Kj T:=by
 have hm:ns.getD (placeX picks D.length ns.length) ByteArray.empty∈ns:=by
  have hk:=placeX_lt picks D.length hn
  simp only [List.getD,List.getElem?_eq_getElem hk,Option.getD_some]
  exact List.getElem_mem hk
 obtain ⟨r,hr,hc⟩:= (hR.ready h.good.asc _).1 hm
 have hp:=potL_do h.good hr hc
 refine ⟨r,hr,hc,⟨doL_good hok h.good (env_mem hr).1 hc, ?_,fun T' D' hw=> h.on T' D' (.step hR hn hr hw)⟩,hp⟩
 have:=h.fits
 rw [List.length_append]
 show D.length+1+_<=_
 omega
structure EffD where
 name:ByteArray
 fin:Int
 slot:Nat
structure SlotD where
 at':Int
 worker:Nat
 name:ByteArray
structure Shop where
 T:List Qz
 busy:List (Option EffD)
 slots:List SlotD
 back:List Int
 cause:ByteArray->Int
def costW (W:Acts) (n:ByteArray):Int:=match W n with
 | some a=> a.cost
 | none=> 0
def doN (W:Acts) (T:List Qz) (n:ByteArray):List Qz:=match Qj T n with
 | some r=> doL W T r
 | none=> T
open Classical in
noncomputable def doneS (W:Acts) (S:Shop) (n:ByteArray) (j:Int):Shop:=
 {S with T:=doN W S.T n,cause:=fun m=> if ReadyX W (Qj (doN W S.T n)) m∧(m=n∨¬ReadyX W (Qj S.T) m) then j else S.cause m }
def Sp (W:Acts) (S:Shop) (n:ByteArray):Prop:= ∃r,Qj S.T n=some r∧CanGo W (Qj S.T) r∧r.Zj=20
def Bz (S:Shop) (n:ByteArray):Prop:= ∃(k:Nat) (e:EffD),S.busy[k]? =some (some e)∧e.name=n
def Of (W:Acts) (S:Shop) (n:ByteArray):Prop:=ReadyX W (Qj S.T) n∧¬Bz S n
def Costs (W:Acts) (n m:ByteArray):Prop:=costW W m < costW W n∨(costW W n=costW W m∧lessX n m)
theorem Costs.asymm {W:Acts} {n m:ByteArray} (h:Costs W n m): ¬Costs W m n:=by
 rintro (g | ⟨g1,g2⟩) <;> rcases h with h | ⟨h1,h2⟩
 ·omega
 ·omega
 ·omega
 ·exact lessX_asymm h2 g2
def Least (P:ByteArray->Prop) (lt:ByteArray->ByteArray->Prop) (n:ByteArray):Prop:=P n∧∀m,P m->m≠n->lt n m
theorem Least.unique {P:ByteArray->Prop} {lt:ByteArray->ByteArray->Prop} (hlt: ∀{a b},lt a b->¬lt b a) {n m:ByteArray} (h:Least P lt n) (g:Least P lt m):n=m:=by
 by_cases e:n=m
 ·exact e
 ·exact absurd (g.2 n h.1 e) (hlt (h.2 m g.1 (fun x=> e x.symm)))
def beginS (W:Acts) (S:Shop) (t:Int) (k:Nat) (n:ByteArray):Shop:=
 {S with busy:=S.busy.set k (some ⟨n,t+costW W n,S.slots.length⟩),slots:=S.slots++ [⟨t,k,n⟩],back:=S.back++ [S.cause n] }
inductive Fin8 (W:Acts) (t:Int):Shop->Shop->Prop
 | stop {S:Shop} (h: ∀(k:Nat) (e:EffD),S.busy[k]? =some (some e)->e.fin≠t):Fin8 W t S S
 | go {S S':Shop} {k:Nat} {e:EffD} (hk:S.busy[k]? =some (some e)) (he:e.fin=t) (hl: ∀(k':Nat) (e':EffD),k'≠k->S.busy[k']? =some (some e')->e'.fin=t->lessX e.name e'.name)
   (h:Fin8 W t (doneS W { S with busy:=S.busy.set k none } e.name e.slot) S'):Fin8 W t S S'
inductive Spt8 (W:Acts):Shop->Shop->Prop
 | stop {S:Shop} (h: ∀n,¬Sp W S n):Spt8 W S S
 | go {S S':Shop} {n:ByteArray} (hn:Least (Sp W S) lessX n) (h:Spt8 W (doneS W S n (S.cause n)) S'):Spt8 W S S'
inductive Beg8 (W:Acts) (t:Int):Shop->Shop->Prop
 | stop {S:Shop} (h: (∀k:Nat,S.busy[k]?≠some none)∨∀n,¬Of W S n):Beg8 W t S S
 | go {S S':Shop} {k:Nat} {n:ByteArray} (hk:S.busy[k]? =some none) (hl: ∀k':Nat,k' < k->S.busy[k']?≠some none) (hn:Least (Of W S) (Costs W) n) (h:Beg8 W t (beginS W S t k n) S'):Beg8 W t S S'
def Tick8 (W:Acts) (t:Int) (S S3:Shop):Prop:= ∃S1 S2,Fin8 W t S S1∧Spt8 W S1 S2∧Beg8 W t S2 S3
def Idle8 (S:Shop):Prop:= ∀(k:Nat) (e:EffD),S.busy[k]?≠some (some e)
inductive Wrk8 (W:Acts):Int->Shop->Int->Shop->Prop
 | last {t:Int} {S S3:Shop} (h:Tick8 W t S S3) (hi:Idle8 S3):Wrk8 W t S t S3
 | next {t t' u:Int} {S S3 S':Shop} (h:Tick8 W t S S3) (ht: ∃(k:Nat) (e:EffD),S3.busy[k]? =some (some e)∧e.fin=t') (hl: ∀(k:Nat) (e:EffD),S3.busy[k]? =some (some e)->t'<=e.fin) (hw:Wrk8 W t' S3 u S'):Wrk8 W t S u S'
inductive Tck8 (W:Acts):Int->Shop->Int->Shop->Prop
 | last {t:Int} {S S3:Shop} (h:Tick8 W t S S3) (hi:Idle8 S3):Tck8 W t S t S3
 | next {t u:Int} {S S3 S':Shop} (h:Tick8 W t S S3) (hi: ¬Idle8 S3) (hw:Tck8 W (t+1) S3 u S'):Tck8 W t S u S'
theorem Fin8.unique {W:Acts} {t:Int} {S A B:Shop} (h:Fin8 W t S A) (g:Fin8 W t S B):A=B:=by
 induction h with
 | stop h=>
  cases g with
  | stop=> rfl
  | go hk he=> exact absurd he (h _ _ hk)
 | @go S S' k e hk he hl _ ih=>
  cases g with
  | stop g=> exact absurd he (g _ _ hk)
  | @go _ _ k' e' hk' he' hl' h'=>
   by_cases ek:k'=k
   ·subst ek
    rw [hk] at hk'
    simp only [Option.some.injEq] at hk'
    subst hk'
    exact ih h'
   ·exact absurd (hl k' e' ek hk' he') (lessX_asymm (hl' k e (fun x=> ek x.symm) hk he))
theorem Spt8.unique {W:Acts} {S A B:Shop} (h:Spt8 W S A) (g:Spt8 W S B):A=B:=by
 induction h with
 | stop h=>
  cases g with
  | stop=> rfl
  | go hn=> exact absurd hn.1 (h _)
 | go hn _ ih=>
  cases g with
  | stop g=> exact absurd hn.1 (g _)
  | go hn' h'=>
   obtain rfl:=hn.unique lessX_asymm hn'
   exact ih h'
theorem Beg8.unique {W:Acts} {t:Int} {S A B:Shop} (h:Beg8 W t S A) (g:Beg8 W t S B):A=B:=by
 induction h with
 | stop h=>
  cases g with
  | stop=> rfl
  | go hk _ hn=>
   rcases h with h | h
   ·exact absurd hk (h _)
   ·exact absurd hn.1 (h _)
 | @go S S' k n hk hl hn _ ih=>
  cases g with
  | stop g=>
   rcases g with g | g
   ·exact absurd hk (g _)
   ·exact absurd hn.1 (g _)
  | @go _ _ k' n' hk' hl' hn' h'=>
   have ek:k'=k:=by
    rcases Nat.lt_trichotomy k' k with h | h | h
    ·exact absurd hk' (hl k' h)
    ·exact h
    ·exact absurd hk (hl' k h)
   subst ek
   obtain rfl:=hn.unique Costs.asymm hn'
   exact ih h'
theorem Tick8.unique {W:Acts} {t:Int} {S A B:Shop} (h:Tick8 W t S A) (g:Tick8 W t S B):A=B:=by
 obtain ⟨S1,S2,h1,h2,h3⟩:=h
 obtain ⟨R1,R2,g1,g2,g3⟩:=g
 obtain rfl:=h1.unique g1
 obtain rfl:=h2.unique g2
 exact h3.unique g3
theorem Wrk8.unique {W:Acts} {t u u':Int} {S A B:Shop} (h:Wrk8 W t S u A) (g:Wrk8 W t S u' B):u=u'∧A=B:=by
 induction h with
 | last h hi=>
  cases g with
  | last g _=> exact ⟨rfl,h.unique g⟩
  | next g gt=>
   obtain rfl:=h.unique g
   obtain ⟨k,e,hk,_⟩:=gt
   exact absurd hk (hi k e)
 | next h ht hl _ ih=>
  cases g with
  | last g gi=>
   obtain rfl:=h.unique g
   obtain ⟨k,e,hk,_⟩:=ht
   exact absurd hk (gi k e)
  | next g gt gl gw=>
   obtain rfl:=h.unique g
   obtain ⟨k,e,hk,he⟩:=ht
   obtain ⟨k',e',hk',he'⟩:=gt
   have a:=hl k' e' hk'
   have b:=gl k e hk
   rw [he'] at a
   rw [he] at b
   obtain rfl:=Int.le_antisymm a b
   exact ih gw
structure Rest8 (W:Acts) (t:Int) (S:Shop):Prop where
 spt: ∀n,¬Sp W S n
 beg: (∀k:Nat,S.busy[k]?≠some none)∨∀n,¬Of W S n
 fin: ∀(k:Nat) (e:EffD),S.busy[k]? =some (some e)->t < e.fin
theorem Rest8.tick {W:Acts} {t u:Int} {S:Shop} (h:Rest8 W t S) (hu: ∀(k:Nat) (e:EffD),S.busy[k]? =some (some e)->e.fin≠u):Tick8 W u S S:= ⟨S,S,.stop hu,.stop h.spt,.stop h.beg⟩
theorem set_get {α:Type} {l:List (Option α)} {k j:Nat} {x:Option α} {y:α} (h: (l.set k x)[j]? =some (some y)): (j=k∧x=some y)∨(j≠k∧l[j]? =some (some y)):=by
 by_cases e:j=k
 ·subst e
  rw [List.getElem?_set] at h
  simp only [if_true] at h
  split at h
  ·exact .inl ⟨rfl,by simpa using h⟩
  ·cases h
 ·rw [List.getElem?_set,if_neg (fun x=> e x.symm)] at h
  exact .inr ⟨e,h⟩
def From8 (t:Int) (S:Shop):Prop:= ∀(k:Nat) (e:EffD),S.busy[k]? =some (some e)->t<=e.fin
theorem Fin8.behind {W:Acts} {t:Int} {S A:Shop} (h:Fin8 W t S A) (hf:From8 t S): ∀(k:Nat) (e:EffD),A.busy[k]? =some (some e)->t < e.fin:=by
 induction h with
 | stop h=> exact fun k e hk=> by have:=hf k e hk;have:=h k e hk;omega
 | go hk he hl _ ih=>
  refine ih (fun k' e' hk'=> ?_)
  rcases set_get hk' with ⟨_,x⟩ | ⟨_,x⟩
  ·cases x
  ·exact hf k' e' x
theorem Spt8.busy {W:Acts} {S A:Shop} (h:Spt8 W S A):A.busy=S.busy∧∀n,¬Sp W A n:=by
 induction h with
 | stop h=> exact ⟨rfl,h⟩
 | go _ _ ih=> exact ih
theorem Beg8.behind {W:Acts} {t:Int} {S A:Shop} (h:Beg8 W t S A) (hc: ∀n,ReadyX W (Qj S.T) n->0 < costW W n) (hf: ∀(k:Nat) (e:EffD),S.busy[k]? =some (some e)->t < e.fin) (hs: ∀n,¬Sp W S n):Rest8 W t A:=by
 induction h with
 | stop h=> exact ⟨hs,h,hf⟩
 | go hk hl hn _ ih=>
  refine ih hc (fun k' e' hk'=> ?_) hs
  rcases set_get hk' with ⟨_,x⟩ | ⟨_,x⟩
  ·simp only [Option.some.injEq] at x
   subst x
   have:=hc _ hn.1.1
   simp only
   omega
  ·exact hf k' e' x
def Paid (W:Acts):Prop:= ∀n a,W n=some a->0 < a.cost
def Known8 (W:Acts) (S:Shop):Prop:= ∀n r,Qj S.T n=some r->(W n).isSome=true
theorem Known8.cost {W:Acts} {S:Shop} (h:Known8 W S) (hp:Paid W): ∀n,ReadyX W (Qj S.T) n->0 < costW W n:=fun n ⟨r,hr,_⟩=> by
 obtain ⟨a,ha⟩:=Option.isSome_iff_exists.1 (h n r hr)
 unfold costW
 rw [ha]
 exact hp n a ha
theorem known_do {W:Acts} {T:List Qz} {n:ByteArray} (ha:AscX T) (h: ∀m r,Qj T m=some r->(W m).isSome=true):AscX (doN W T n)∧∀m r,Qj (doN W T n) m=some r->(W m).isSome=true:=by
 unfold doN
 split
 ·next r hr=>
  refine ⟨doL_asc ha,fun m x hx=> ?_⟩
  rw [doL_env ha hr,doX_eq hr] at hx
  split at hx
  ·next e=> rw [e];exact h n r hr
  ·split at hx
   ·next y hy=> exact h m y hy
   ·split at hx
    ·next g=> exact g.2
    ·cases hx
 ·exact ⟨ha,h⟩
structure Ok8 (W:Acts) (S:Shop):Prop where
 asc:AscX S.T
 known:Known8 W S
theorem Ok8.done {W:Acts} {S:Shop} {n:ByteArray} {j:Int} (h:Ok8 W S):Ok8 W (doneS W S n j):= ⟨(known_do h.asc h.known).1,(known_do h.asc h.known).2⟩
theorem Fin8.ok {W:Acts} {t:Int} {S A:Shop} (h:Fin8 W t S A) (ho:Ok8 W S):Ok8 W A:=by
 induction h with
 | stop=> exact ho
 | go _ _ _ _ ih=> exact ih (Ok8.done ⟨ho.asc,ho.known⟩)
theorem Spt8.ok {W:Acts} {S A:Shop} (h:Spt8 W S A) (ho:Ok8 W S):Ok8 W A:=by
 induction h with
 | stop=> exact ho
 | go _ _ ih=> exact ih ho.done
theorem Beg8.ok {W:Acts} {t:Int} {S A:Shop} (h:Beg8 W t S A) (ho:Ok8 W S):Ok8 W A:=by
 induction h with
 | stop=> exact ho
 | go _ _ _ _ ih=> exact ih ⟨ho.asc,ho.known⟩
theorem Tick8.rest {W:Acts} {t:Int} {S A:Shop} (h:Tick8 W t S A) (ho:Ok8 W S) (hp:Paid W) (hf:From8 t S):Rest8 W t A∧Ok8 W A:=by
 obtain ⟨S1,S2,h1,h2,h3⟩:=h
 have o1:=h1.ok ho
 have o2:=h2.ok o1
 obtain ⟨e,hs⟩:=h2.busy
 exact ⟨h3.behind (o2.known.cost hp) (by rw [e];exact h1.behind hf) hs,h3.ok o2⟩
theorem Tck8.wrk {W:Acts} {t u:Int} {S A:Shop} (h:Tck8 W t S u A) (ho:Ok8 W S) (hp:Paid W) (hf:From8 t S):Wrk8 W t S u A:=by
 induction h with
 | last h hi=> exact .last h hi
 | @next t u S S3 S' h hi _ ih=>
  obtain ⟨hR,ho3⟩:=h.rest ho hp hf
  have hf3:From8 (t+1) S3:=fun k e hk=> by have:=hR.fin k e hk;omega
  have hw:=ih ho3 hf3
  by_cases hev: ∃(k:Nat) (e:EffD),S3.busy[k]? =some (some e)∧e.fin=t+1
  ·exact .next h hev hf3 hw
  ·have hid:Tick8 W (t+1) S3 S3:=hR.tick (fun k e hk he=> hev ⟨k,e,hk,he⟩)
   cases hw with
   | last g gi=>
    obtain rfl:=hid.unique g
    exact absurd gi hi
   | next g gt gl gw=>
    obtain rfl:=hid.unique g
    exact .next h gt gl gw
def clearB (b:List (Option EffD)) (ps:List (Nat×EffD)):List (Option EffD):=ps.foldl (fun x p=> x.set p.1 none) b
noncomputable def dones (W:Acts) (S:Shop) (ps:List (Nat×EffD)):Shop:=ps.foldl (fun A p=> doneS W A p.2.name p.2.slot) S
theorem Fin8.batch {W:Acts} {t:Int}: ∀(ps:List (Nat×EffD)) (S:Shop),ps.Pairwise (fun p q=> lessX p.2.name q.2.name)->(∀(k:Nat) (e:EffD),(S.busy[k]? =some (some e)∧e.fin=t)↔(k,e)∈ps)->Fin8 W t S (dones W { S with busy:=clearB S.busy ps } ps)
 | [],S,_,h=> .stop fun k e hk he=> by have:= (h k e).1 ⟨hk,he⟩;cases this
 | (k,e) :: ps,S,hp,h=> by
  rw [List.pairwise_cons] at hp
  obtain ⟨hk,he⟩:= (h k e).2 (by simp)
  refine .go hk he (fun k' e' hne hk' he'=> ?_) ?_
  ·rcases List.mem_cons.1 ((h k' e').1 ⟨hk',he'⟩) with e1 | e1
   ·exact absurd (by injection e1) hne
   ·exact hp.1 _ e1
  ·refine Fin8.batch ps _ hp.2 (fun k' e'=> ?_)
   show ((S.busy.set k none)[k']? =some (some e')∧e'.fin=t)↔_
   constructor
   ·rintro ⟨h1,h2⟩
    rcases set_get h1 with ⟨_,x⟩ | ⟨x1,x2⟩
    ·cases x
    ·rcases List.mem_cons.1 ((h k' e').1 ⟨x2,h2⟩) with e1 | e1
     ·exact absurd (by injection e1) x1
     ·exact e1
   ·intro hm
    obtain ⟨h1,h2⟩:= (h k' e').2 (List.mem_cons_of_mem _ hm)
    have hne:k'≠k:=by
     rintro rfl
     rw [hk] at h1
     simp only [Option.some.injEq] at h1
     subst h1
     exact lessX_irrefl _ (hp.1 _ hm)
    rw [List.getElem?_set,if_neg (fun x=> hne x.symm)]
    exact ⟨h1,h2⟩
structure Sane8 (W:Acts) (wk:Nat) (S:Shop):Prop where
 ok:Ok8 W S
 len:S.busy.length=wk
 diff: ∀(k k':Nat) (e e':EffD),S.busy[k]? =some (some e)->S.busy[k']? =some (some e')->e.name=e'.name->k=k'
 rdy: ∀(k:Nat) (e:EffD),S.busy[k]? =some (some e)->ReadyX W (Qj S.T) e.name
 back:S.back.length=S.slots.length
 slot: ∀(k:Nat) (e:EffD),S.busy[k]? =some (some e)->e.slot < S.slots.length
 fin: ∀(k:Nat) (e:EffD),S.busy[k]? =some (some e)->∃s,S.slots[e.slot]? =some s∧s.name=e.name∧s.worker=k∧e.fin=s.at'+costW W e.name
 caus: ∀n, -1<=S.cause n∧S.cause n < S.slots.length
 prev: ∀(p:Nat) (c:Int),S.back[p]? =some c-> -1<=c∧c < p
 work: ∀(p:Nat) (s:SlotD),S.slots[p]? =some s->s.worker < wk
theorem ready_stays {W:Acts} {T:List Qz} {n m:ByteArray} (ha:AscX T) (hn:ReadyX W (Qj T) n) (hm:ReadyX W (Qj T) m) (h:m≠n):ReadyX W (Qj (doN W T n)) m:=by
 obtain ⟨r,hr,hc⟩:=hm
 obtain ⟨x,hx,_⟩:=hn
 unfold doN
 rw [hx]
 simp only
 rw [doL_env ha hx]
 exact ⟨r,doX_other h hr,hc.mono ⟨x,hx, ‹_›⟩⟩
open Classical in
theorem Sane8.done {W:Acts} {wk:Nat} {S:Shop} {n:ByteArray} {j:Int} (h:Sane8 W wk S) (hn:ReadyX W (Qj S.T) n) (hb: ¬Bz S n) (hj: -1<=j∧j < S.slots.length):Sane8 W wk (doneS W S n j) where
 ok:=h.ok.done
 len:=h.len
 diff:=h.diff
 rdy:=fun k e hk=> ready_stays h.ok.asc hn (h.rdy k e hk) (fun x=> hb ⟨k,e,hk,x⟩)
 back:=h.back
 slot:=h.slot
 fin:=h.fin
 caus:=fun m=> by
  show -1<=(if _ then j else S.cause m)∧(if _ then j else S.cause m) < _
  split
  ·exact hj
  ·exact h.caus m
 prev:=h.prev
 work:=h.work
theorem Sane8.free {W:Acts} {wk:Nat} {S:Shop} {k:Nat} {e:EffD} (h:Sane8 W wk S) (hk:S.busy[k]? =some (some e)):Sane8 W wk { S with busy:=S.busy.set k none }∧¬Bz { S with busy:=S.busy.set k none } e.name:=by
 have hs: ∀(k':Nat) (e':EffD),(S.busy.set k none)[k']? =some (some e')->k'≠k∧S.busy[k']? =some (some e'):=fun k' e' hk'=> by
  rcases set_get hk' with ⟨_,x⟩ | x
  ·cases x
  ·exact x
 refine ⟨⟨⟨h.ok.asc,h.ok.known⟩,by show (S.busy.set k none).length=wk;rw [List.length_set];exact h.len,fun a b x y ha hb=> h.diff a b x y (hs a x ha).2 (hs b y hb).2,fun a x ha=> h.rdy a x (hs a x ha).2,h.back,fun a x ha=> h.slot a x (hs a x ha).2,fun a x ha=> h.fin a x (hs a x ha).2,h.caus,h.prev,h.work⟩, ?_⟩
 rintro ⟨k',e',hk',he'⟩
 obtain ⟨h1,h2⟩:=hs k' e' hk'
 exact h1 (h.diff k' k e' e h2 hk he')
theorem Sane8.begin {W:Acts} {wk:Nat} {S:Shop} {k:Nat} {n:ByteArray} {t:Int} (h:Sane8 W wk S) (hk:S.busy[k]? =some none) (hn:Of W S n):Sane8 W wk (beginS W S t k n):=by
 have hkl:k < S.busy.length:= (List.getElem?_eq_some_iff.1 hk).1
 have hs: ∀(k':Nat) (e':EffD),(S.busy.set k (some ⟨n,t+costW W n,S.slots.length⟩))[k']? =some (some e')->(k'=k∧e'= ⟨n,t+costW W n,S.slots.length⟩)∨(k'≠k∧S.busy[k']? =some (some e')):=fun k' e' hk'=> by
  rcases set_get hk' with ⟨x,y⟩ | x
  ·simp only [Option.some.injEq] at y
   exact .inl ⟨x,y.symm⟩
  ·exact .inr x
 refine ⟨⟨h.ok.asc,h.ok.known⟩,by show (S.busy.set k _).length=wk;rw [List.length_set];exact h.len, ?_, ?_,by show (S.back++_).length= (S.slots++_).length;simp [h.back], ?_, ?_, ?_, ?_, ?_⟩
 ·intro a b x y ha hb hxy
  rcases hs a x ha with ⟨rfl,rfl⟩ | ⟨a1,a2⟩ <;> rcases hs b y hb with ⟨rfl,rfl⟩ | ⟨b1,b2⟩
  ·rfl
  ·exact absurd ⟨b,y,b2,hxy.symm⟩ hn.2
  ·exact absurd ⟨a,x,a2,hxy⟩ hn.2
  ·exact h.diff a b x y a2 b2 hxy
 ·intro a x ha
  rcases hs a x ha with ⟨rfl,rfl⟩ | ⟨_,a2⟩
  ·exact hn.1
  ·exact h.rdy a x a2
 ·intro a x ha
  show x.slot < (S.slots++_).length
  rw [List.length_append]
  rcases hs a x ha with ⟨rfl,rfl⟩ | ⟨_,a2⟩
  ·simp
  ·have:=h.slot a x a2
   omega
 ·intro a x ha
  rcases hs a x ha with ⟨rfl,rfl⟩ | ⟨_,a2⟩
  ·exact ⟨⟨t,a,n⟩,by show (S.slots++_)[S.slots.length]? =_;simp,rfl,rfl,rfl⟩
  ·obtain ⟨s,h1,h2⟩:=h.fin a x a2
   exact ⟨s,by show (S.slots++_)[x.slot]? =_;rw [List.getElem?_append_left (h.slot a x a2)];exact h1,h2⟩
 ·intro m
  show -1<=S.cause m∧S.cause m < (((S.slots++ [_]).length:Nat):Int)
  have:=h.caus m
  rw [List.length_append]
  exact ⟨this.1,by simp;omega⟩
 ·intro p c hp
  have hp': (S.back++ [S.cause n])[p]? =some c:=hp
  by_cases hl:p < S.back.length
  ·rw [List.getElem?_append_left hl] at hp'
   exact h.prev p c hp'
  ·rw [List.getElem?_append_right (by omega)] at hp'
   have hlt:= (List.getElem?_eq_some_iff.1 hp').1
   simp only [List.length_singleton] at hlt
   have hpe:p=S.back.length:=by omega
   subst hpe
   simp only [Nat.sub_self,List.getElem?_cons_zero,Option.some.injEq] at hp'
   subst hp'
   have:=h.caus n
   rw [h.back]
   exact this
 ·intro p s hp
  have hp': (S.slots++ [⟨t,k,n⟩])[p]? =some s:=hp
  by_cases hl:p < S.slots.length
  ·rw [List.getElem?_append_left hl] at hp'
   exact h.work p s hp'
  ·rw [List.getElem?_append_right (by omega)] at hp'
   have hlt:= (List.getElem?_eq_some_iff.1 hp').1
   simp only [List.length_singleton] at hlt
   have hpe:p - S.slots.length=0:=by omega
   rw [hpe] at hp'
   simp only [List.getElem?_cons_zero,Option.some.injEq] at hp'
   subst hp'
   rw [<-h.len]
   exact hkl
inductive ChR (slots:List SlotD) (back:List Int):Int->List SlotD->Prop
 | stop {p:Int} (h:p < 0):ChR slots back p []
 | go {p:Nat} {s:SlotD} {c:Int} {l:List SlotD} (hs:slots[p]? =some s) (hc:back[p]? =some c) (h:ChR slots back c l):ChR slots back (p:Int) (l++ [s])
theorem ChR.unique {slots:List SlotD} {back:List Int} {p:Int} {l l':List SlotD} (h:ChR slots back p l) (g:ChR slots back p l'):l=l':=by
 induction h generalizing l' with
 | stop h=>
  cases g with
  | stop=> rfl
  | go=> omega
 | @go p s c l hs hc _ ih=>
  generalize e: (p:Int)=q at g
  cases g with
  | stop g=> omega
  | @go p' s' c' l' hs' hc' h'=>
   obtain rfl:p=p':=by omega
   rw [hs] at hs'
   rw [hc] at hc'
   simp only [Option.some.injEq] at hs' hc'
   subst hs' hc'
   rw [ih h']
def FirstEnd (W:Acts) (slots:List SlotD) (t:Int) (p:Int):Prop:=
 (p= -1∧∀s∈slots,s.at'+costW W s.name≠t)∨∃(i:Nat) (s:SlotD),p=i∧slots[i]? =some s∧s.at'+costW W s.name=t∧∀(j:Nat) (x:SlotD),j < i->slots[j]? =some x->x.at'+costW W x.name≠t
theorem FirstEnd.unique {W:Acts} {slots:List SlotD} {t p q:Int} (h:FirstEnd W slots t p) (g:FirstEnd W slots t q):p=q:=by
 rcases h with ⟨rfl,h⟩ | ⟨i,s,rfl,h1,h2,h3⟩ <;> rcases g with ⟨rfl,g⟩ | ⟨j,x,rfl,g1,g2,g3⟩
 ·rfl
 ·exact absurd g2 (h x (List.mem_of_getElem? g1))
 ·exact absurd h2 (g s (List.mem_of_getElem? h1))
 ·rcases Nat.lt_trichotomy i j with e | e | e
  ·exact absurd h2 (g3 i s e h1)
  ·rw [e]
  ·exact absurd g2 (h3 j x e g1)
def start8 (T:List Qz) (wk:Nat):Shop:= ⟨T,List.replicate wk none,[],[],fun _=> -1⟩
theorem start8_sane {W:Acts} {T:List Qz} {wk:Nat} (ha:AscX T) (hk: ∀n r,Qj T n=some r->(W n).isSome=true):Sane8 W wk (start8 T wk):=by
 have hb: ∀(k:Nat) (e:EffD),(start8 T wk).busy[k]?≠some (some e):=fun k e h=> by
  have h': (List.replicate wk (none:Option EffD))[k]? =some (some e):=h
  rw [List.getElem?_replicate] at h'
  split at h' <;> simp at h'
 exact ⟨⟨ha,hk⟩,by show (List.replicate wk none).length=wk;simp,fun k _ e _ h=> absurd h (hb k e),fun k e h=> absurd h (hb k e),rfl,fun k e h=> absurd h (hb k e),fun k e h=> absurd h (hb k e),fun _=> ⟨Int.le_refl _,by show (-1:Int) < ((([]:List SlotD).length:Nat):Int);decide⟩,fun p c h=> by
  have h': ([]:List Int)[p]? =some c:=h
  simp at h',fun p s h=> by
  have h': ([]:List SlotD)[p]? =some s:=h
  simp at h'⟩
def WorkX (W:Acts) (T:List Qz) (wk:Nat) (slots:List SlotD) (ticks:Int) (T':List Qz) (chain:List SlotD):Prop:=
 ∃A p,Wrk8 W 0 (start8 T wk) ticks A∧A.slots=slots∧A.T=T'∧FirstEnd W A.slots ticks p∧ChR A.slots A.back p chain
theorem WorkX.unique {W:Acts} {T T1 T2:List Qz} {wk:Nat} {s1 s2 c1 c2:List SlotD} {u1 u2:Int} (h:WorkX W T wk s1 u1 T1 c1) (g:WorkX W T wk s2 u2 T2 c2):s1=s2∧u1=u2∧T1=T2∧c1=c2:=by
 obtain ⟨A,p,h1,rfl,rfl,h2,h3⟩:=h
 obtain ⟨B,q,g1,rfl,rfl,g2,g3⟩:=g
 obtain ⟨rfl,rfl⟩:=h1.unique g1
 obtain rfl:=h2.unique g2
 exact ⟨rfl,rfl,rfl,h3.unique g3⟩
structure EffX where
 at':Int
 worker:Int
 name:ByteArray
 fin:Int
 place:Int
 cause:Int
def aheadC (c d:Int) (x y:ByteArray):Bool:=if c=d then Op.bytesLess x.toList y.toList else decide (d < c)
def aheadE (x y:EffX):Bool:=if x.fin=y.fin then Op.bytesLess x.name.toList y.name.toList else decide (x.fin < y.fin)
def aheadN (x y:ByteArray):Bool:=Op.bytesLess x.toList y.toList
def aheadI (x y:Nat):Bool:=decide ((x:Int) < (y:Int))
theorem less_ntr {x y z:List UInt8} (h1:Op.bytesLess y x=false) (h2:Op.bytesLess z y=false):Op.bytesLess z x=false:=by
 cases e:Op.bytesLess z x
 ·rfl
 ·by_cases exy:x=y
  ·subst exy;rw [h2] at e;cases e
  ·cases g:Op.bytesLess x y
   ·have:=less_total x y g exy
    rw [h1] at this
    cases this
   ·rw [less_trans z x y e g] at h2
    cases h2
theorem aheadN_ok :Ahead aheadN:= ⟨fun _=> less_irrefl _,fun _ _ _=> less_trans _ _ _,fun _ _ _=> less_ntr⟩
theorem aheadI_ok :Ahead aheadI:= ⟨fun x=> by simp [aheadI],fun x y z h1 h2=> by simp only [aheadI,decide_eq_true_eq] at *;omega,fun x y z h1 h2=> by simp only [aheadI,decide_eq_false_iff_not] at *;omega⟩
theorem aheadC_ok (c:ByteArray->Int):Ahead (fun x y=> aheadC (c x) (c y) x y):=by
 refine ⟨fun x=> ?_,fun x y z h1 h2=> ?_,fun x y z h1 h2=> ?_⟩
 ·simp only [aheadC,if_true];exact less_irrefl _
 ·simp only [aheadC] at *
  by_cases e1:c x=c y <;> by_cases e2:c y=c z
  ·rw [if_pos e1] at h1;rw [if_pos e2] at h2;rw [if_pos (e1.trans e2)];exact less_trans _ _ _ h1 h2
  ·rw [if_neg e2] at h2;rw [if_neg (by rw [e1];exact e2)];simp only [decide_eq_true_eq] at *;omega
  ·rw [if_neg e1] at h1;rw [if_neg (by rw [<-e2];exact e1)];simp only [decide_eq_true_eq] at *;omega
  ·rw [if_neg e1] at h1;rw [if_neg e2] at h2;simp only [decide_eq_true_eq] at h1 h2;rw [if_neg (by omega)];simp only [decide_eq_true_eq];omega
 ·simp only [aheadC] at *
  by_cases e1:c y=c x <;> by_cases e2:c z=c y
  ·rw [if_pos e1] at h1;rw [if_pos e2] at h2;rw [if_pos (e2.trans e1)];exact less_ntr h1 h2
  ·rw [if_neg e2] at h2;rw [if_neg (by rw [<-e1];exact e2)];simp only [decide_eq_false_iff_not] at *;omega
  ·rw [if_neg e1] at h1;rw [if_neg (by rw [e2];exact e1)];simp only [decide_eq_false_iff_not] at *;omega
  ·rw [if_neg e1] at h1;rw [if_neg e2] at h2;simp only [decide_eq_false_iff_not] at h1 h2;rw [if_neg (by omega)];simp only [decide_eq_false_iff_not];omega
theorem aheadE_ok :Ahead aheadE:=by
 refine ⟨fun x=> ?_,fun x y z h1 h2=> ?_,fun x y z h1 h2=> ?_⟩
 ·simp only [aheadE,if_true];exact less_irrefl _
 ·simp only [aheadE] at *
  by_cases e1:x.fin=y.fin <;> by_cases e2:y.fin=z.fin
  ·rw [if_pos e1] at h1;rw [if_pos e2] at h2;rw [if_pos (e1.trans e2)];exact less_trans _ _ _ h1 h2
  ·rw [if_neg e2] at h2;rw [if_neg (by rw [e1];exact e2)];simp only [decide_eq_true_eq] at *;omega
  ·rw [if_neg e1] at h1;rw [if_neg (by rw [<-e2];exact e1)];simp only [decide_eq_true_eq] at *;omega
  ·rw [if_neg e1] at h1;rw [if_neg e2] at h2;simp only [decide_eq_true_eq] at h1 h2;rw [if_neg (by omega)];simp only [decide_eq_true_eq];omega
 ·simp only [aheadE] at *
  by_cases e1:y.fin=x.fin <;> by_cases e2:z.fin=y.fin
  ·rw [if_pos e1] at h1;rw [if_pos e2] at h2;rw [if_pos (e2.trans e1)];exact less_ntr h1 h2
  ·rw [if_neg e2] at h2;rw [if_neg (by rw [<-e1];exact e2)];simp only [decide_eq_false_iff_not] at *;omega
  ·rw [if_neg e1] at h1;rw [if_neg (by rw [e2];exact e1)];simp only [decide_eq_false_iff_not] at *;omega
  ·rw [if_neg e1] at h1;rw [if_neg e2] at h2;simp only [decide_eq_false_iff_not] at h1 h2;rw [if_neg (by omega)];simp only [decide_eq_false_iff_not];omega
structure HeapP {α:Type} (ah:α->α->Bool) (f:Nat->α) (n:Nat) (P:α->Prop):Prop where
 heap:HeapH ah f n
 inj:InjH f n
 mem: ∀x,MemH f n x↔P x
theorem HeapP.nil {α:Type} {ah:α->α->Bool} {f:Nat->α} {P:α->Prop} (h: ∀x,¬P x):HeapP ah f 0 P:= ⟨fun i _ hi=> absurd hi (Nat.not_lt_zero _),fun i _ hi=> absurd hi (Nat.not_lt_zero _),fun x=> ⟨fun ⟨i,hi,_⟩=> absurd hi (Nat.not_lt_zero _),fun h'=> absurd h' (h x)⟩⟩
theorem HeapP.congr {α:Type} {ah:α->α->Bool} {f:Nat->α} {n:Nat} {P Q:α->Prop} (h:HeapP ah f n P) (e: ∀x,P x↔Q x):HeapP ah f n Q:= ⟨h.heap,h.inj,fun x=> (h.mem x).trans (e x)⟩
theorem HeapP.put {α:Type} {ah:α->α->Bool} (hA:Ahead ah) {f:Nat->α} {n:Nat} {P:α->Prop} {x:α} (h:HeapP ah f n P) (hx: ¬P x):HeapP ah (putF ah f n x) (n+1) (fun y=> y=x∨P y):=by
 obtain ⟨g1,g2,g3⟩:=put_heap hA h.heap h.inj (x:=x) (fun e=> hx ((h.mem x).1 e))
 exact ⟨g1,g3,fun y=> (g2 y).trans (or_congr Iff.rfl (h.mem y))⟩
theorem HeapP.take {α:Type} {ah:α->α->Bool} (hA:Ahead ah) {f:Nat->α} {n:Nat} {P:α->Prop} (h:HeapP ah f (n+1) P):HeapP ah (takeF ah f n) n (fun y=> P y∧y≠f 0)∧P (f 0)∧∀y,P y->ah y (f 0)=false:=by
 obtain ⟨g1,g2,g3⟩:=take_heap hA h.heap h.inj
 refine ⟨⟨g1,g3,fun y=> (g2 y).trans (and_congr (h.mem y) Iff.rfl)⟩,(h.mem _).1 ⟨0,Nat.succ_pos _,rfl⟩,fun y hy=> ?_⟩
 obtain ⟨i,hi,rfl⟩:= (h.mem y).2 hy
 exact heap_first hA h.heap i hi
theorem HeapP.empty {α:Type} {ah:α->α->Bool} {f:Nat->α} {P:α->Prop} (h:HeapP ah f 0 P): ∀x,¬P x:=fun x hx=> by
 obtain ⟨i,hi,_⟩:= (h.mem x).2 hx
 exact absurd hi (Nat.not_lt_zero _)
theorem least_of_name {P:ByteArray->Prop} {n:ByteArray} (hP:P n) (h: ∀m,P m->aheadN m n=false):Least P lessX n:= ⟨hP,fun m hm e=> by
 rcases lessX_total n m with g | g | g
 ·exact g
 ·exact absurd g.symm e
 ·have:=h m hm
  unfold aheadN at this
  unfold lessX at g
  rw [this] at g
  cases g⟩
theorem least_of_cost {W:Acts} {P:ByteArray->Prop} {n:ByteArray} (hP:P n) (h: ∀m,P m->aheadC (costW W m) (costW W n) m n=false):Least P (Costs W) n:= ⟨hP,fun m hm e=> by
 have:=h m hm
 unfold aheadC at this
 by_cases ec:costW W m=costW W n
 ·rw [if_pos ec] at this
  refine .inr ⟨ec.symm, ?_⟩
  rcases lessX_total n m with g | g | g
  ·exact g
  ·exact absurd g.symm e
  ·unfold lessX at g
   rw [this] at g
   cases g
 ·rw [if_neg ec] at this
  simp only [decide_eq_false_iff_not] at this
  exact .inl (by omega)⟩
def effAt (W:Acts) (slots:List SlotD) (back:List Int) (p:Nat):EffX:=match slots[p]?,back[p]? with
 | some s,some c=> ⟨s.at',s.worker,s.name,s.at'+costW W s.name,p,c⟩
 | _,_=> ⟨0,0,ByteArray.empty,0,p,0⟩
def BzE (W:Acts) (S:Shop) (e:EffX):Prop:= ∃(k:Nat) (x:EffD),S.busy[k]? =some (some x)∧e=effAt W S.slots S.back x.slot
theorem Sane8.eff {W:Acts} {wk:Nat} {S:Shop} (h:Sane8 W wk S) {k:Nat} {x:EffD} (hk:S.busy[k]? =some (some x)): ∃(t c:Int),effAt W S.slots S.back x.slot= ⟨t,k,x.name,x.fin,x.slot,c⟩:=by
 obtain ⟨s,h1,h2,h3,h4⟩:=h.fin k x hk
 have hl:=h.slot k x hk
 have hb:x.slot < S.back.length:=by rw [h.back];exact hl
 refine ⟨s.at',S.back[x.slot], ?_⟩
 unfold effAt
 rw [h1,List.getElem?_eq_getElem hb]
 simp only
 rw [h3,h2,h4]
structure CrewP (W:Acts) (wk:Nat) (S:Shop) (Q:ByteArray->Prop) (g:ByteArray->Option Int) (es:Nat->EffX) (oF:Nat->ByteArray) (on:Nat) (sF:Nat->ByteArray) (sn:Nat) (eF:Nat->EffX) (en:Nat) (fF:Nat->Nat) (fn:Nat):Prop where
 sane:Sane8 W wk S
 gy: ∀n,Q n->g n=some (S.cause n)
 gn: ∀n,¬Q n->g n=none
 q: ∀n,Q n->ReadyX W (Qj S.T) n
 bq: ∀n,Bz S n->Q n∧¬Sp W S n
 off:HeapP (fun x y=> aheadC (costW W x) (costW W y) x y) oF on (fun n=> Q n∧¬Bz S n∧¬Sp W S n)
 spt:HeapP aheadN sF sn (fun n=> Q n∧Sp W S n)
 ends:HeapP aheadE eF en (BzE W S)
 free:HeapP aheadI fF fn (fun k=> S.busy[k]? =some none)
 effs: ∀p,p < S.slots.length->es p=effAt W S.slots S.back p
def delG (g:ByteArray->Option Int) (n:ByteArray) (m:ByteArray):Option Int:=if m=n then none else g m
def putG (g:ByteArray->Option Int) (n:ByteArray) (j:Int) (m:ByteArray):Option Int:=if m=n then some j else g m
def Rdy (W:Acts) (S:Shop) (n:ByteArray):Prop:=ReadyX W (Qj S.T) n
theorem Sp.ready {W:Acts} {S:Shop} {n:ByteArray} (h:Sp W S n):Rdy W S n:=let ⟨r,h1,h2,_⟩:=h;⟨r,h1,h2⟩
section
variable {W : Acts} {wk : Nat} {S : Shop} {Q Q' : ByteArray -> Prop} {g : ByteArray -> Option Int} {es : Nat -> EffX} {oF : Nat -> ByteArray} {on : Nat} {sF : Nat -> ByteArray} {sn : Nat} {eF : Nat -> EffX} {en : Nat} {fF : Nat -> Nat} {fn : Nat}
theorem CrewP.congr (h:CrewP W wk S Q g es oF on sF sn eF en fF fn) (e: ∀n,Q n↔Q' n):CrewP W wk S Q' g es oF on sF sn eF en fF fn:=
 ⟨h.sane,fun n hn=> h.gy n ((e n).2 hn),fun n hn=> h.gn n (fun x=> hn ((e n).1 x)),fun n hn=> h.q n ((e n).2 hn),fun n hn=> ⟨(e n).1 (h.bq n hn).1,(h.bq n hn).2⟩,h.off.congr fun n=> and_congr_left' (e n),h.spt.congr fun n=> and_congr_left' (e n),h.ends,h.free,h.effs⟩
theorem CrewP.start {T:List Qz} (hs:Sane8 W wk (start8 T wk)) (hf:HeapP aheadI fF wk (fun k=> k < wk)):CrewP W wk (start8 T wk) (fun _=> False) (fun _=> none) es oF 0 sF 0 eF 0 fF wk:=by
 have hb: ∀(k:Nat) (e:EffD),(start8 T wk).busy[k]?≠some (some e):=fun k e h=> by
  have h': (List.replicate wk (none:Option EffD))[k]? =some (some e):=h
  rw [List.getElem?_replicate] at h'
  split at h' <;> simp at h'
 refine ⟨hs,fun _ h=> h.elim,fun _ _=> rfl,fun _ h=> h.elim,fun n ⟨k,e,h,_⟩=> absurd h (hb k e),.nil fun _ h=> h.1,.nil fun _ h=> h.1,.nil fun _ ⟨k,e,h,_⟩=> hb k e h,hf.congr fun k=> ?_,fun p hp=> absurd hp (Nat.not_lt_zero _)⟩
 show _↔(List.replicate wk (none:Option EffD))[k]? =some none
 rw [List.getElem?_replicate]
 by_cases h:k < wk
 ·simp [h]
 ·simp [h]
theorem CrewP.spentOne (h:CrewP W wk S Q g es oF on sF sn eF en fF fn) {n:ByteArray} (hn:Sp W S n) (hq: ¬Q n):CrewP W wk S (fun m=> m=n∨Q m) (putG g n (S.cause n)) es oF on (putF aheadN sF sn n) (sn+1) eF en fF fn:=by
 refine ⟨h.sane,fun m hm=> ?_,fun m hm=> ?_,fun m hm=> ?_,fun m hm=> ⟨.inr (h.bq m hm).1,(h.bq m hm).2⟩,h.off.congr fun m=> ⟨fun x=> ⟨.inr x.1,x.2⟩,fun x=> ⟨?_,x.2⟩⟩, ?_,h.ends,h.free,h.effs⟩
 ·unfold putG
  by_cases e:m=n
  ·rw [if_pos e,e]
  ·rw [if_neg e];exact h.gy m (hm.resolve_left e)
 ·unfold putG
  rw [if_neg (fun e=> hm (.inl e))]
  exact h.gn m (fun x=> hm (.inr x))
 ·rcases hm with rfl | hm
  ·exact hn.ready
  ·exact h.q m hm
 ·rcases x.1 with e | e
  ·subst e;exact absurd hn x.2.2
  ·exact e
 ·refine (h.spt.put aheadN_ok (x:=n) (fun x=> hq x.1)).congr fun m=> ⟨?_, ?_⟩
  ·rintro (rfl | ⟨h1,h2⟩)
   ·exact ⟨.inl rfl,hn⟩
   ·exact ⟨.inr h1,h2⟩
  ·rintro ⟨rfl | h1,h2⟩
   ·exact .inl rfl
   ·exact .inr ⟨h1,h2⟩
theorem CrewP.offerOne (h:CrewP W wk S Q g es oF on sF sn eF en fF fn) {n:ByteArray} (hr:Rdy W S n) (hn: ¬Sp W S n) (hq: ¬Q n):CrewP W wk S (fun m=> m=n∨Q m) (putG g n (S.cause n)) es (putF (fun x y=> aheadC (costW W x) (costW W y) x y) oF on n) (on+1) sF sn eF en fF fn:=by
 refine ⟨h.sane,fun m hm=> ?_,fun m hm=> ?_,fun m hm=> ?_,fun m hm=> ⟨.inr (h.bq m hm).1,(h.bq m hm).2⟩, ?_,h.spt.congr fun m=> ⟨fun x=> ⟨.inr x.1,x.2⟩,fun x=> ⟨?_,x.2⟩⟩,h.ends,h.free,h.effs⟩
 ·unfold putG
  by_cases e:m=n
  ·rw [if_pos e,e]
  ·rw [if_neg e];exact h.gy m (hm.resolve_left e)
 ·unfold putG
  rw [if_neg (fun e=> hm (.inl e))]
  exact h.gn m (fun x=> hm (.inr x))
 ·rcases hm with rfl | hm
  ·exact hr
  ·exact h.q m hm
 ·refine (h.off.put (aheadC_ok _) (x:=n) (fun x=> hq x.1)).congr fun m=> ⟨?_, ?_⟩
  ·rintro (rfl | ⟨h1,h2⟩)
   ·exact ⟨.inl rfl,fun hb=> hq (h.bq m hb).1,hn⟩
   ·exact ⟨.inr h1,h2⟩
  ·rintro ⟨rfl | h1,h2⟩
   ·exact .inl rfl
   ·exact .inr ⟨h1,h2⟩
 ·rcases x.1 with e | e
  ·subst e;exact absurd x.2 hn
  ·exact e
theorem delG_ok (h:CrewP W wk S (Rdy W S) g es oF on sF sn eF en fF fn) (n:ByteArray): (∀m,Rdy W S m∧m≠n->delG g n m=some (S.cause m))∧∀m,¬(Rdy W S m∧m≠n)->delG g n m=none:=by
 constructor
 ·rintro m ⟨h1,h2⟩
  unfold delG
  rw [if_neg h2]
  exact h.gy m h1
 ·intro m hm
  unfold delG
  split
  ·rfl
  ·next e=> exact h.gn m (fun x=> hm ⟨x,e⟩)
theorem CrewP.endOne (h:CrewP W wk S (Rdy W S) g es oF on sF sn eF (en+1) fF fn): ∃(k:Nat) (x:EffD),S.busy[k]? =some (some x)∧eF 0=effAt W S.slots S.back x.slot∧(eF 0).name=x.name∧(eF 0).fin=x.fin∧(eF 0).worker=k∧(eF 0).place=x.slot∧(∀(k':Nat) (x':EffD),S.busy[k']? =some (some x')->x.fin<=x'.fin)∧
  (∀(k':Nat) (x':EffD),k'≠k->S.busy[k']? =some (some x')->x'.fin=x.fin->lessX x.name x'.name)∧
  CrewP W wk { S with busy:=S.busy.set k none } (fun n=> Rdy W S n∧n≠x.name) (delG g x.name) es oF on sF sn (takeF aheadE eF en) en (putF aheadI fF fn k) (fn+1)∧Rdy W S x.name∧¬Bz { S with busy:=S.busy.set k none } x.name:=by
 obtain ⟨g1,⟨k,x,hk,e0⟩,g3⟩:=h.ends.take aheadE_ok
 obtain ⟨t,c,e1⟩:=h.sane.eff hk
 have e2:eF 0= ⟨t,k,x.name,x.fin,x.slot,c⟩:=e0.trans e1
 have hkl:k < S.busy.length:= (List.getElem?_eq_some_iff.1 hk).1
 obtain ⟨s1,s2⟩:=h.sane.free hk
 have hs: ∀(k':Nat) (e':EffD),(S.busy.set k none)[k']? =some (some e')↔k'≠k∧S.busy[k']? =some (some e'):=fun k' e'=> by
  constructor
  ·intro hk'
   rcases set_get hk' with ⟨_,x⟩ | x
   ·cases x
   ·exact x
  ·rintro ⟨h1,h2⟩
   rw [List.getElem?_set_ne (fun e=> h1 e.symm)]
   exact h2
 have hbz: ∀n,n≠x.name->(Bz { S with busy:=S.busy.set k none } n↔Bz S n):=fun n hn=> by
  constructor
  ·rintro ⟨k',e',h1,h2⟩
   exact ⟨k',e',((hs k' e').1 h1).2,h2⟩
  ·rintro ⟨k',e',h1,h2⟩
   refine ⟨k',e',(hs k' e').2 ⟨fun e=> ?_,h1⟩,h2⟩
   subst e
   rw [hk] at h1
   cases h1
   exact hn h2.symm
 have hx:=h.bq x.name ⟨k,x,hk,rfl⟩
 have first: ∀(k':Nat) (x':EffD),S.busy[k']? =some (some x')->x.fin<=x'.fin∧(k'≠k->x'.fin=x.fin->lessX x.name x'.name):=fun k' x' hk'=> by
  obtain ⟨t',c',e'⟩:=h.sane.eff hk'
  have:=g3 _ ⟨k',x',hk',rfl⟩
  rw [e',e2] at this
  unfold aheadE at this
  simp only at this
  by_cases ef:x'.fin=x.fin
  ·rw [if_pos ef] at this
   refine ⟨by omega,fun hne _=> ?_⟩
   rcases lessX_total x.name x'.name with y | y | y
   ·exact y
   ·exact absurd (h.sane.diff k' k x' x hk' hk y.symm) hne
   ·unfold lessX at y
    rw [this] at y
    cases y
  ·rw [if_neg ef] at this
   simp only [decide_eq_false_iff_not] at this
   exact ⟨by omega,fun _ e=> absurd e ef⟩
 obtain ⟨d1,d2⟩:=delG_ok h x.name
 refine ⟨k,x,hk,e0,by rw [e2],by rw [e2],by rw [e2],by rw [e2],fun k' x' hk'=> (first k' x' hk').1,fun k' x' hne hk'=> (first k' x' hk').2 hne,⟨s1,d1,d2,fun n hn=> hn.1,fun n hn=> ?_,h.off.congr fun n=> ?_,h.spt.congr fun n=> ?_,g1.congr fun e=> ?_, ?_,h.effs⟩,hx.1,s2⟩
 ·have hne:n≠x.name:=fun e=> s2 (by rw [<-e];exact hn)
  have:=h.bq n ((hbz n hne).1 hn)
  exact ⟨⟨this.1,hne⟩,this.2⟩
 ·constructor
  ·rintro ⟨h1,h2,h3⟩
   have hne:n≠x.name:=fun e=> h2 (by rw [e];exact ⟨k,x,hk,rfl⟩)
   exact ⟨⟨h1,hne⟩,fun y=> h2 ((hbz n hne).1 y),h3⟩
  ·rintro ⟨⟨h1,hne⟩,h2,h3⟩
   exact ⟨h1,fun y=> h2 ((hbz n hne).2 y),h3⟩
 ·constructor
  ·rintro ⟨h1,h2⟩
   exact ⟨⟨h1,fun e=> hx.2 (by rw [<-e];exact h2)⟩,h2⟩
  ·rintro ⟨⟨h1,_⟩,h2⟩
   exact ⟨h1,h2⟩
 ·constructor
  ·rintro ⟨⟨k',x',h1,h2⟩,h3⟩
   refine ⟨k',x',(hs k' x').2 ⟨fun e=> ?_,h1⟩,h2⟩
   subst e
   rw [hk] at h1
   cases h1
   exact h3 (h2.trans e0.symm)
  ·rintro ⟨k',x',h1,h2⟩
   obtain ⟨h3,h4⟩:= (hs k' x').1 h1
   refine ⟨⟨k',x',h4,h2⟩,fun e=> h3 ?_⟩
   obtain ⟨t',c',e'⟩:=h.sane.eff h4
   have e3:effAt W S.slots S.back x'.slot=eF 0:=h2.symm.trans e
   rw [e',e2] at e3
   injection e3 with _ e4
   exact Int.ofNat.inj e4
 ·refine (h.free.put aheadI_ok (x:=k) (fun y=> by rw [hk] at y;cases y)).congr fun j=> ?_
  show _↔(S.busy.set k none)[j]? =some none
  by_cases e:j=k
  ·subst e
   rw [List.getElem?_set_self hkl]
   simp
  ·rw [List.getElem?_set_ne (fun y=> e y.symm)]
   simp [e]
theorem CrewP.done {n:ByteArray} {j:Int} (h:CrewP W wk S (fun m=> Rdy W S m∧m≠n) g es oF on sF sn eF en fF fn) (hn:Rdy W S n) (hb: ¬Bz S n) (hj: -1<=j∧j < S.slots.length):
  CrewP W wk (doneS W S n j) (fun m=> Rdy W S m∧m≠n) g es oF on sF sn eF en fF fn∧∀m,Rdy W (doneS W S n j) m->¬(Rdy W S m∧m≠n)->(doneS W S n j).cause m=j:=by
 have hc: ∀m,Rdy W S m∧m≠n->(doneS W S n j).cause m=S.cause m:=fun m ⟨h1,h2⟩=> if_neg (fun x=> x.2.elim h2 (fun y=> y h1))
 have hsp: ∀m,Rdy W S m∧m≠n->(Sp W (doneS W S n j) m↔Sp W S m):=fun m ⟨⟨r,h1,h2⟩,h3⟩=> by
  obtain ⟨r',h1',h2'⟩:=ready_stays h.sane.ok.asc hn ⟨r,h1,h2⟩ h3
  have e:Qj (doN W S.T n) m=some r:=by
   obtain ⟨x,hx,_⟩:=hn
   unfold doN
   rw [hx]
   simp only
   rw [doL_env h.sane.ok.asc hx]
   exact doX_other h3 h1
  rw [e] at h1'
  cases h1'
  constructor
  ·rintro ⟨y,g1,g2,g3⟩
   have g1':Qj (doN W S.T n) m=some y:=g1
   rw [e] at g1'
   cases g1'
   exact ⟨r,h1,h2,g3⟩
  ·rintro ⟨y,g1,g2,g3⟩
   rw [h1] at g1
   cases g1
   exact ⟨r,e,h2',g3⟩
 refine ⟨⟨h.sane.done hn hb hj,fun m hm=> (h.gy m hm).trans (congrArg some (hc m hm).symm),h.gn,fun m hm=> ready_stays h.sane.ok.asc hn hm.1 hm.2,fun m hm=> ?_,h.off.congr fun m=> ?_,h.spt.congr fun m=> ?_,h.ends,h.free,h.effs⟩,fun m h1 h2=> ?_⟩
 ·have:=h.bq m hm
  exact ⟨this.1,fun y=> this.2 ((hsp m this.1).1 y)⟩
 ·exact ⟨fun x=> ⟨x.1,x.2.1,fun y=> x.2.2 ((hsp m x.1).1 y)⟩,fun x=> ⟨x.1,x.2.1,fun y=> x.2.2 ((hsp m x.1).2 y)⟩⟩
 ·exact ⟨fun x=> ⟨x.1,(hsp m x.1).2 x.2⟩,fun x=> ⟨x.1,(hsp m x.1).1 x.2⟩⟩
 ·refine if_pos ⟨h1, ?_⟩
  by_cases e:m=n
  ·exact .inl e
  ·exact .inr fun y=> h2 ⟨y,e⟩
theorem CrewP.spentTake (h:CrewP W wk S (Rdy W S) g es oF on sF (sn+1) eF en fF fn):Least (Sp W S) lessX (sF 0)∧g (sF 0)=some (S.cause (sF 0))∧Rdy W S (sF 0)∧¬Bz S (sF 0)∧CrewP W wk S (fun m=> Rdy W S m∧m≠sF 0) (delG g (sF 0)) es oF on (takeF aheadN sF sn) sn eF en fF fn:=by
 obtain ⟨g1,⟨g2,g4⟩,g3⟩:=h.spt.take aheadN_ok
 obtain ⟨d1,d2⟩:=delG_ok h (sF 0)
 refine ⟨least_of_name g4 fun m hm=> g3 m ⟨hm.ready,hm⟩,h.gy _ g2,g2,fun hb=> (h.bq _ hb).2 g4,h.sane,d1,d2,fun m hm=> hm.1,fun m hm=> ⟨⟨(h.bq m hm).1,fun e=> (h.bq m hm).2 (by rw [e];exact g4)⟩,(h.bq m hm).2⟩,h.off.congr fun m=> ⟨fun x=> ⟨⟨x.1,fun e=> x.2.2 (by rw [e];exact g4)⟩,x.2⟩,fun x=> ⟨x.1.1,x.2⟩⟩,g1.congr fun m=> ⟨fun x=> ⟨⟨x.1.1,x.2⟩,x.1.2⟩,fun x=> ⟨⟨x.1.1,x.2⟩,x.1.2⟩⟩,h.ends,h.free,h.effs⟩
theorem CrewP.spentNone (h:CrewP W wk S (Rdy W S) g es oF on sF 0 eF en fF fn): ∀n,¬Sp W S n:=fun n hn=> h.spt.empty n ⟨hn.ready,hn⟩
theorem CrewP.idle (h:CrewP W wk S Q g es oF on sF sn eF 0 fF fn):Idle8 S:=fun k e hk=> h.ends.empty _ ⟨k,e,hk,rfl⟩
theorem CrewP.begin {t:Int} (h:CrewP W wk S (Rdy W S) g es oF (on+1) sF sn eF en fF (fn+1)) (hs: ∀n,¬Sp W S n):S.busy[fF 0]? =some none∧(∀k',k' < fF 0->S.busy[k']?≠some none)∧Least (Of W S) (Costs W) (oF 0)∧g (oF 0)=some (S.cause (oF 0))∧
  CrewP W wk (beginS W S t (fF 0) (oF 0)) (Rdy W S) g (fun p=> if p=S.slots.length then ⟨t,(fF 0:Nat),oF 0,t+costW W (oF 0),S.slots.length,S.cause (oF 0)⟩ else es p) (takeF (fun x y=> aheadC (costW W x) (costW W y) x y) oF on) on sF sn (putF aheadE eF en ⟨t,(fF 0:Nat),oF 0,t+costW W (oF 0),S.slots.length,S.cause (oF 0)⟩) (en+1) (takeF aheadI fF fn) fn:=by
 obtain ⟨o1,⟨o2,o4,o5⟩,o3⟩:=h.off.take (aheadC_ok _)
 obtain ⟨f1,f2,f3⟩:=h.free.take aheadI_ok
 have hkl:fF 0 < S.busy.length:= (List.getElem?_eq_some_iff.1 f2).1
 generalize oF 0=n at *
 generalize hk0:fF 0=k at *
 have hof:Of W S n:= ⟨o2,o4⟩
 have hbk:S.back.length=S.slots.length:=h.sane.back
 have eold: ∀p,p < S.slots.length->effAt W (beginS W S t k n).slots (beginS W S t k n).back p=effAt W S.slots S.back p:=fun p hp=> by
  show effAt W (S.slots++_) (S.back++_) p=_
  unfold effAt
  rw [List.getElem?_append_left hp,List.getElem?_append_left (by omega)]
 have enew:effAt W (beginS W S t k n).slots (beginS W S t k n).back S.slots.length= ⟨t,(k:Nat),n,t+costW W n,S.slots.length,S.cause n⟩:=by
  show effAt W (S.slots++_) (S.back++_) _=_
  unfold effAt
  rw [List.getElem?_append_right (Nat.le_refl _),List.getElem?_append_right (by omega)]
  simp [hbk]
 have hs': ∀(k':Nat) (e':EffD),(beginS W S t k n).busy[k']? =some (some e')↔(k'=k∧e'= ⟨n,t+costW W n,S.slots.length⟩)∨S.busy[k']? =some (some e'):=fun k' e'=> by
  show (S.busy.set k _)[k']? =_↔_
  by_cases e:k'=k
  ·subst e
   rw [List.getElem?_set_self hkl,f2]
   simp [eq_comm]
  ·rw [List.getElem?_set_ne (fun y=> e y.symm)]
   simp [e]
 have hbz: ∀m,Bz (beginS W S t k n) m↔m=n∨Bz S m:=fun m=> by
  constructor
  ·rintro ⟨k',e',h1,h2⟩
   rcases (hs' k' e').1 h1 with ⟨_,rfl⟩ | h3
   ·exact .inl h2.symm
   ·exact .inr ⟨k',e',h3,h2⟩
  ·rintro (rfl | ⟨k',e',h1,h2⟩)
   ·exact ⟨k,_,(hs' k _).2 (.inl ⟨rfl,rfl⟩),rfl⟩
   ·exact ⟨k',e',(hs' k' e').2 (.inr h1),h2⟩
 refine ⟨f2,fun k' hk' hn=> ?_,least_of_cost hof fun m hm=> o3 m ⟨hm.1,hm.2,hs m⟩,h.gy n o2,h.sane.begin f2 hof,h.gy,h.gn,h.q,fun m hm=> ?_,o1.congr fun m=> ?_,h.spt, ?_,f1.congr fun j=> ?_,fun p hp=> ?_⟩
 ·have:=f3 k' hn
  unfold aheadI at this
  simp only [decide_eq_false_iff_not] at this
  omega
 ·rcases (hbz m).1 hm with rfl | hm
  ·exact ⟨o2,hs m⟩
  ·exact h.bq m hm
 ·constructor
  ·rintro ⟨⟨h1,h2,h3⟩,h4⟩
   exact ⟨h1,fun y=> ((hbz m).1 y).elim h4 h2,h3⟩
  ·rintro ⟨h1,h2,h3⟩
   exact ⟨⟨h1,fun y=> h2 ((hbz m).2 (.inr y)),h3⟩,fun e=> h2 ((hbz m).2 (.inl e))⟩
 ·refine (h.ends.put aheadE_ok (x:= ⟨t,(k:Nat),n,t+costW W n,S.slots.length,S.cause n⟩) ?_).congr fun e=> ?_
  ·rintro ⟨k',x',h1,h2⟩
   obtain ⟨t',c',e'⟩:=h.sane.eff h1
   rw [e'] at h2
   have:=h.sane.slot k' x' h1
   injection h2 with _ _ _ _ h5
   omega
  ·constructor
   ·rintro (rfl | ⟨k',x',h1,h2⟩)
    ·exact ⟨k,_,(hs' k _).2 (.inl ⟨rfl,rfl⟩),enew.symm⟩
    ·exact ⟨k',x',(hs' k' x').2 (.inr h1),h2.trans (eold _ (h.sane.slot k' x' h1)).symm⟩
   ·rintro ⟨k',x',h1,h2⟩
    rcases (hs' k' x').1 h1 with ⟨_,rfl⟩ | h3
    ·exact .inl (h2.trans enew)
    ·exact .inr ⟨k',x',h3,h2.trans (eold _ (h.sane.slot k' x' h3))⟩
 ·show _↔(S.busy.set k _)[j]? =some none
  by_cases e:j=k
  ·subst e
   rw [List.getElem?_set_self hkl]
   simp
  ·rw [List.getElem?_set_ne (fun y=> e y.symm)]
   simp [e]
 ·have hp':p < (S.slots++ [_]).length:=hp
  rw [List.length_append,List.length_singleton] at hp'
  by_cases e:p=S.slots.length
  ·simp only [if_pos e]
   rw [e]
   exact enew.symm
  ·simp only [if_neg e]
   rw [eold p (by omega)]
   exact h.effs p (by omega)
end
section
variable (E : ByteArray -> ByteArray -> Prop)
inductive RW (g:ByteArray):Nat->ByteArray->Prop
 | one {a:ByteArray} (h:E a g):RW g 1 a
 | step {n:Nat} {a b:ByteArray} (h:E a b) (hb:lessX g b) (r:RW g n b):RW g (n+1) a
def FarR (g:ByteArray) (n:Nat) (a:ByteArray):Prop:=RW E g n a∧∀m,m < n->¬RW E g m a
def LeastN (p:ByteArray->Prop) (x:ByteArray):Prop:=p x∧∀y,p y->¬lessX y x
inductive CircR (g:ByteArray):Nat->ByteArray->List ByteArray->Prop
 | stop (a:ByteArray):CircR g 1 a [a]
 | step {n:Nat} {a x:ByteArray} {l:List ByteArray} (h:LeastN (fun y=> E a y∧lessX g y∧FarR E g n y) x) (r:CircR g n x l):CircR g (n+1) a (a :: l)
inductive CircU (g:ByteArray):Nat->ByteArray->List ByteArray->Prop
 | stop (a:ByteArray):CircU g 1 a [a]
 | step {n:Nat} {a x:ByteArray} {l:List ByteArray} (h:LeastN (fun y=> E a y∧Far E g n y) x) (r:CircU g n x l):CircU g (n+1) a (a :: l)
def CircX (l:List ByteArray):Prop:=
 ((∀x n,1<=n->¬WalkN E n x x)∧l=[])∨∃m t,1<=m∧(∀x n,1<=n->WalkN E n x x->m<=n)∧LeastN (fun x=> WalkN E m x x) t∧CircU E t m t l
end
section
variable {E : ByteArray -> ByteArray -> Prop}
theorem LeastN.unique {p q:ByteArray->Prop} (hpq: ∀x,p x↔q x) {x y:ByteArray} (h:LeastN p x) (k:LeastN q y):x=y:=by
 rcases lessX_total x y with e | e | e
 ·exact absurd e (k.2 x ((hpq x).1 h.1))
 ·exact e
 ·exact absurd e (h.2 y ((hpq y).2 k.1))
theorem LeastN.iff {p q:ByteArray->Prop} (hpq: ∀x,p x↔q x) {x:ByteArray} (h:LeastN p x):LeastN q x:= ⟨(hpq x).1 h.1,fun y hy=> h.2 y ((hpq y).2 hy)⟩
theorem RW.pos {g a:ByteArray} {n:Nat} (h:RW E g n a):1<=n:=by cases h <;> omega
theorem RW.walk {g a:ByteArray} {n:Nat} (h:RW E g n a):WalkN E n a g:=by
 induction h with
 | one h=> exact WalkN.one h
 | step h _ _ ih=> exact .step h ih
theorem RW.far {g:ByteArray}: ∀{n:Nat} {a:ByteArray},RW E g n a->∃m,m<=n∧FarR E g m a:=by
 intro n
 induction n using Nat.strongRecOn with
 | ind n ih=>
  intro a h
  by_cases hm: ∃m,m < n∧RW E g m a
  ·obtain ⟨m,h1,h2⟩:=hm
   obtain ⟨q,h3,h4⟩:=ih m h1 h2
   exact ⟨q,by omega,h4⟩
  ·exact ⟨n,Nat.le_refl _,h,fun m h1 h2=> hm ⟨m,h1,h2⟩⟩
theorem FarR.unique {g a:ByteArray} {n m:Nat} (h:FarR E g n a) (k:FarR E g m a):n=m:=by
 rcases Nat.lt_trichotomy n m with e | e | e
 ·exact absurd h.1 (k.2 n e)
 ·exact e
 ·exact absurd k.1 (h.2 m e)
theorem FarR.one {g a:ByteArray}:FarR E g 1 a↔E a g:=by
 constructor
 ·intro h
  generalize hn: (1:Nat)=n at h
  have h1:=h.1
  cases h1 with
  | one h=> exact h
  | step _ _ r=> have:=r.pos;omega
 ·intro h
  exact ⟨.one h,fun m hm hr=> by have:=hr.pos;omega⟩
theorem FarR.succ {g a:ByteArray} {n:Nat} (hn:1<=n):FarR E g (n+1) a↔(∃b,E a b∧lessX g b∧FarR E g n b)∧∀m,m<=n->¬FarR E g m a:=by
 constructor
 ·intro h
  refine ⟨?_,fun m hm hf=> h.2 m (by omega) hf.1⟩
  have h1:=h.1
  generalize hk:n+1=k at h1
  cases h1 with
  | one h=> omega
  | @step q _ b h1 hb r=>
   have hq:q=n:=by omega
   subst hq
   obtain ⟨m,h2,h3⟩:=r.far
   rcases Nat.lt_or_ge m q with e | e
   ·exact absurd (RW.step h1 hb h3.1) (h.2 (m+1) (by omega))
   ·have:m=q:=by omega
    subst this
    exact ⟨b,h1,hb,h3⟩
 ·rintro ⟨⟨b,h1,h2,h3⟩,h4⟩
  refine ⟨.step h1 h2 h3.1,fun m hm hr=> ?_⟩
  obtain ⟨q,h5,h6⟩:=hr.far
  exact h4 q (by omega) h6
theorem FarR.levels {g:ByteArray}: ∀{n:Nat} {a:ByteArray},FarR E g n a->∃l:List ByteArray,l.length=n∧(∀x∈l,∃y,E x y)∧(∀i (hi:i < l.length),FarR E g (i+1) l[i]):=by
 intro n
 induction n with
 | zero=> intro a h;have:=h.1.pos;omega
 | succ n ih=>
  intro a h
  have hstep: ∃y,E a y:=by
   have h1:=h.1
   cases h1 with
   | one h=> exact ⟨_,h⟩
   | step h _ _=> exact ⟨_,h⟩
  by_cases hn:n=0
  ·subst hn
   exact ⟨[a],rfl,fun x hx=> by rw [List.mem_singleton] at hx;rw [hx];exact hstep,fun i hi=> by
    simp at hi
    subst hi
    exact h⟩
  ·obtain ⟨⟨b,h1,_,h3⟩,_⟩:= (FarR.succ (by omega)).1 h
   obtain ⟨l,e1,e2,e3⟩:=ih h3
   refine ⟨l++ [a],by simp [e1],fun x hx=> ?_,fun i hi=> ?_⟩
   ·rcases List.mem_append.1 hx with g | g
    ·exact e2 x g
    ·rw [List.mem_singleton] at g;rw [g];exact hstep
   ·by_cases e:i < l.length
    ·rw [List.getElem_append_left e];exact e3 i e
    ·have:i=l.length:=by simp at hi;omega
     subst this
     simp only [List.getElem_append_right (Nat.le_refl _),Nat.sub_self,List.getElem_cons_zero]
     rw [e1]
     exact h
theorem FarR.bound {g a:ByteArray} {n:Nat} (h:FarR E g n a) {names:List ByteArray} (hn: ∀x y,E x y->x∈names):n<=names.length:=by
 obtain ⟨l,e1,e2,e3⟩:=h.levels
 rw [<-e1]
 refine List.Nodup.length_le_of_subset ?_ (fun x hx=> by obtain ⟨y,hy⟩:=e2 x hx;exact hn x y hy)
 rw [List.Nodup,List.pairwise_iff_getElem]
 intro i j hi hj hij e
 have h1:=e3 i hi
 rw [e] at h1
 have:=h1.unique (e3 j hj)
 omega
theorem rw_of_walk {m:Nat} {t:ByteArray} (hm: ∀x n,1<=n->WalkN E n x x->m<=n) (ht: ∀x,WalkN E m x x->¬lessX x t): ∀{q j:Nat} {a:ByteArray},j+q=m->WalkN E j t a->WalkN E q a t->1<=q->RW E t q a:=by
 intro q
 induction q with
 | zero=> intro j a _ _ _ h;omega
 | succ q ih=>
  intro j a hj h1 h2 _
  obtain ⟨y,h3,h4⟩:=h2.first
  by_cases hq:q=0
  ·subst hq
   have:=h4.zero
   subst this
   exact .one h3
  ·have hty:WalkN E (j+1) t y:=h1.trans (WalkN.one h3)
   have hcl:WalkN E m y y:=by
    have:=h4.trans hty
    rw [show q+ (j+1)=m by omega] at this
    exact this
   refine .step h3 ?_ (ih (by omega) hty h4 (by omega))
   rcases lessX_total t y with e | e | e
   ·exact e
   ·subst e
    have:=hm t (j+1) (by omega) hty
    omega
   ·exact absurd e (ht y hcl)
theorem far_step {m:Nat} {t:ByteArray} (hm: ∀x n,1<=n->WalkN E n x x->m<=n) (ht: ∀x,WalkN E m x x->¬lessX x t) {j q:Nat} {a:ByteArray} (hj:j+ (q+1)=m) (h1:WalkN E j t a) (hq:1<=q) (y:ByteArray): (E a y∧lessX t y∧FarR E t q y)↔(E a y∧Far E t q y):=by
 constructor
 ·rintro ⟨h2,h3,h4⟩
  refine ⟨h2,h4.1.walk,fun n hn hw=> ?_⟩
  have h5:=hw.trans (h1.trans (WalkN.one h2))
  have:=hm y (n+ (j+1)) (by omega) h5
  omega
 ·rintro ⟨h2,h3⟩
  have hty:WalkN E (j+1) t y:=h1.trans (WalkN.one h2)
  have hcl:WalkN E m y y:=by
   have:=h3.1.trans hty
   rw [show q+ (j+1)=m by omega] at this
   exact this
  have hr:=rw_of_walk hm ht (by omega) hty h3.1 hq
  refine ⟨h2, ?_,hr,fun n hn hw=> h3.2 n hn hw.walk⟩
  rcases lessX_total t y with e | e | e
  ·exact e
  ·subst e
   have:=hm t (j+1) (by omega) hty
   omega
  ·exact absurd e (ht y hcl)
theorem circ_same {m:Nat} {t:ByteArray} (hm: ∀x n,1<=n->WalkN E n x x->m<=n) (ht: ∀x,WalkN E m x x->¬lessX x t) {q:Nat} {a:ByteArray} {l:List ByteArray} (h:CircR E t q a l): ∀{j:Nat},j+q=m->WalkN E j t a->CircU E t q a l:=by
 induction h with
 | stop a=> intro j _ _;exact .stop a
 | @step n a x l h r ih=>
  intro j hj h1
  have hn:1<=n:=by cases r <;> omega
  have h2:=h.iff (far_step hm ht hj h1 hn)
  exact .step h2 (ih (j:=j+1) (by omega) (h1.trans (WalkN.one h2.1.1)))
theorem CircU.unique {g:ByteArray} {n:Nat} {a:ByteArray} {l m:List ByteArray} (h:CircU E g n a l) (k:CircU E g n a m):l=m:=by
 induction h generalizing m with
 | stop a=>
  generalize hn: (1:Nat)=n at k
  cases k with
  | stop=> rfl
  | step _ r=> have:1<=_:= (show∀{q x l},CircU E g q x l->1<=q from fun c=> by cases c <;> omega) r;omega
 | @step n a x l h r ih=>
  generalize hn:n+1=n' at k
  cases k with
  | stop=> have:1<=n:= (show∀{q x l},CircU E g q x l->1<=q from fun c=> by cases c <;> omega) r;omega
  | @step q _ y l' h' r'=>
   have e:q=n:=by omega
   subst e
   have:=LeastN.unique (fun _=> Iff.rfl) h h'
   subst this
   rw [ih r']
theorem CircX.unique {l m:List ByteArray} (h:CircX E l) (k:CircX E m):l=m:=by
 rcases h with ⟨h1,rfl⟩ | ⟨m1,t,h0,h1,h2,h3⟩ <;> rcases k with ⟨k1,rfl⟩ | ⟨m2,u,k0,k1,k2,k3⟩
 ·rfl
 ·exact absurd k2.1 (h1 u m2 k0)
 ·exact absurd h2.1 (k1 t m1 h0)
 ·have e:m1=m2:=by
   have a1:=h1 u m2 k0 k2.1
   have a2:=k1 t m1 h0 h2.1
   omega
  subst e
  have e2:=LeastN.unique (fun _=> Iff.rfl) h2 k2
  subst e2
  exact h3.unique k3
structure BestR (E:ByteArray->ByteArray->Prop) (gs:List ByteArray) (best:List ByteArray):Prop where
 no:best=[]->∀g∈gs,∀n,¬FarR E g n g
 yes:best≠[]->∃g n,g∈gs∧FarR E g n g∧CircR E g n g best∧best.length=n∧(∀h∈gs,∀k,FarR E h k h->n<=k∧(lessX h g->n < k))
theorem BestR.circ {gs best:List ByteArray} (h:BestR E gs best) (hgs: ∀x y,E x y->x∈gs):CircX E best:=by
 by_cases hno: ∀x n,1<=n->¬WalkN E n x x
 ·refine .inl ⟨hno, ?_⟩
  by_cases hb:best=[]
  ·exact hb
  ·obtain ⟨g,n,_,hf,_⟩:=h.yes hb
   exact absurd hf.1.walk (hno g n hf.1.pos)
 ·obtain ⟨m,hm1,hmx,hm⟩: ∃m,1<=m∧(∃x,WalkN E m x x)∧∀x n,1<=n->WalkN E n x x->m<=n:=by
   have hex: ∃n,∃x,1<=n∧WalkN E n x x:=by
    by_cases hc: ∃n,∃x,1<=n∧WalkN E n x x
    ·exact hc
    ·exact absurd (fun x n h1 h2=> hc ⟨n,x,h1,h2⟩) hno
   have: ∀n,(∃x,1<=n∧WalkN E n x x)->∃m,1<=m∧(∃x,WalkN E m x x)∧∀x n,1<=n->WalkN E n x x->m<=n:=by
    intro n
    induction n using Nat.strongRecOn with
    | ind n ih=>
     rintro ⟨x,h1,h2⟩
     by_cases hs: ∃k,k < n∧∃x,1<=k∧WalkN E k x x
     ·obtain ⟨k,h3,h4⟩:=hs
      exact ih k h3 h4
     ·exact ⟨n,h1,⟨x,h2⟩,fun y k h3 h4=> by
       rcases Nat.lt_or_ge k n with e | e
       ·exact absurd ⟨k,e,y,h3,h4⟩ hs
       ·exact e⟩
   obtain ⟨n,hn⟩:=hex
   exact this n hn
  have hmem: ∀x,WalkN E m x x->x∈gs:=fun x hx=> by
   obtain ⟨q,rfl⟩: ∃q,m=q+1:= ⟨m - 1,by omega⟩
   obtain ⟨b,hb,_⟩:=hx.first
   exact hgs x b hb
  obtain ⟨t,ht⟩: ∃t,LeastN (fun x=> WalkN E m x x) t:=by
   obtain ⟨x,hx⟩:=hmx
   have hleast: ∀(l:List ByteArray) (p:ByteArray->Prop),(∃y∈l,p y)->∃t∈l,p t∧∀y∈l,p y->¬lessX y t:=by
    intro l p
    induction l with
    | nil=> rintro ⟨y,hy,_⟩;cases hy
    | cons z l ih=>
     rintro ⟨y,hy,hp⟩
     by_cases hl: ∃y∈l,p y
     ·obtain ⟨t,h1,h2,h3⟩:=ih hl
      by_cases hz:p z∧lessX z t
      ·refine ⟨z,by simp,hz.1,fun u hu hpu=> ?_⟩
       rcases List.mem_cons.1 hu with rfl | hu
       ·exact lessX_irrefl u
       ·exact fun hlt=> h3 u hu hpu (lessX_trans hlt hz.2)
      ·refine ⟨t,List.mem_cons_of_mem _ h1,h2,fun u hu hpu=> ?_⟩
       rcases List.mem_cons.1 hu with rfl | hu
       ·exact fun hlt=> hz ⟨hpu,hlt⟩
       ·exact h3 u hu hpu
     ·have:y=z:=by
       rcases List.mem_cons.1 hy with e | e
       ·exact e
       ·exact absurd ⟨y,e,hp⟩ hl
      subst this
      refine ⟨y,by simp,hp,fun u hu hpu=> ?_⟩
      rcases List.mem_cons.1 hu with rfl | hu
      ·exact lessX_irrefl u
      ·exact absurd ⟨u,hu,hpu⟩ hl
   obtain ⟨t,h1,h2,h3⟩:=hleast gs (fun x=> WalkN E m x x) ⟨x,hmem x hx,hx⟩
   exact ⟨t,h2,fun y hy=> h3 y (hmem y hy) hy⟩
  have hrt:FarR E t m t:= ⟨rw_of_walk hm ht.2 (j:=0) (by omega) (.here t) ht.1 hm1,fun n hn hw=> by
   have:=hm t n hw.pos hw.walk
   omega⟩
  have hb:best≠[]:=fun e=> h.no e t (hmem t ht.1) m hrt
  obtain ⟨g,n,hg,hf,hc,_,hl⟩:=h.yes hb
  have hn:n=m:=by
   have h1:= (hl t (hmem t ht.1) m hrt).1
   have h2:=hm g n hf.1.pos hf.1.walk
   omega
  subst hn
  have hgt:g=t:=by
   rcases lessX_total g t with e | e | e
   ·exact absurd e (ht.2 g hf.1.walk)
   ·exact e
   ·have:= (hl t (hmem t ht.1) n hrt).2 e
    omega
  subst hgt
  exact .inr ⟨n,g,hm1,hm,ht,circ_same hm ht.2 hc (j:=0) (by omega) (.here g)⟩
end
section
variable {Kj : List Qq} {Gl σ0 σs σ : Env} {ns : List ByteArray} {i : Nat} {b : Bool}
structure PassX (Kj:List Qq) (Gl σ0 σs:Env) (ns:List ByteArray) (σ:Env) (i:Nat) (b:Bool):Prop where
 led: ∃k,Leads (Behind (W:=Q_ Kj) behindI Gl) (doX (Q_ Kj)) σ0 σ k
 no:b=false->σ=σs∧∀j,j < i->¬Behind (W:=Q_ Kj) behindI Gl σs (ns.getD j ByteArray.empty)
 yes:b=true->potAll (Kj.map (·.name)) σ < potAll (Kj.map (·.name)) σs
theorem PassX.start (hl: ∃k,Leads (Behind (W:=Q_ Kj) behindI Gl) (doX (Q_ Kj)) σ0 σs k):PassX Kj Gl σ0 σs ns σs 0 false:=
 ⟨hl,fun _=> ⟨rfl,fun j hj=> absurd hj (Nat.not_lt_zero _)⟩,fun h=> by cases h⟩
theorem PassX.skip (h:PassX Kj Gl σ0 σs ns σ i b) (hn: ¬Behind (W:=Q_ Kj) behindI Gl σ (ns.getD i ByteArray.empty)):PassX Kj Gl σ0 σs ns σ (i+1) b:=
 ⟨h.led,fun hb=> ⟨(h.no hb).1,fun j hj=> by
  by_cases e:j=i
  ·subst e
   rw [<-(h.no hb).1]
   exact hn
  ·exact (h.no hb).2 j (by omega)⟩,h.yes⟩
theorem PassX.did (hw:WfX (Q_ Kj) σ) (h:PassX Kj Gl σ0 σs ns σ i b) {n:ByteArray} (hn:Behind (W:=Q_ Kj) behindI Gl σ n):PassX Kj Gl σ0 σs ns (doX (Q_ Kj) σ n) (i+1) true:=by
 obtain ⟨k,hk⟩:=h.led
 obtain ⟨r,hr,_⟩:=hn.1
 have hp:= (potAll_do hw hn.1 (Kj.map (·.name))).2 (acts_in (hw n r hr).web)
 refine ⟨⟨k+1,hk.snoc hn⟩,fun hb=> (by cases hb),fun _=> ?_⟩
 cases b with
 | true=> have:=h.yes rfl;omega
 | false=> rw [(h.no rfl).1] at hp⊢;exact hp
theorem PassX.atEnd (h:PassX Kj Gl σ0 σs ns σ ns.length false) (hns: ∀n r,σs n=some r->n∈ns):AtEnd (Behind (W:=Q_ Kj) behindI Gl) σ:=by
 obtain ⟨h1,h2⟩:=h.no rfl
 intro n hn
 rw [h1] at hn
 obtain ⟨r,hr,_⟩:=hn.1
 obtain ⟨j,hj,e⟩:=List.getElem_of_mem (hns n r hr)
 have:=h2 j hj
 simp only [List.getD,List.getElem?_eq_getElem hj,Option.getD_some,e] at this
 exact this hn
end
structure Qz.Fits (r:Qz):Prop where
 name:r.name.size<=maxLen
 text:r.text.size<=maxLen
 len:r.texts.length<=maxLen
 each: ∀t∈r.texts,t.size<=maxLen
def RunNewX (w:World) (B j:Nat) (s:Qz):Prop:=
 ∃b,B < b∧w.rangeAt B (j * 7) (s.cells (some ⟨b,0,none⟩) s.texts.length)∧Strs w (some ⟨b,0,none⟩) s.texts
theorem RunNewX.kept {w w':World} {B j:Nat} {s:Qz} (h:RunNewX w B j s) (k:K_ w w') (hB:B < w.heap.size):RunNewX w' B j s:=by
 obtain ⟨b,h1,h2,h3⟩:=h
 exact ⟨b,h1,k.range hB h2,h3.kept k⟩
theorem RunNewX.setCells {w:World} {B j o:Nat} {s:Qz} {vs:List Value} (h:RunNewX w B j s) (ho:j * 7+7<=o∨o+vs.length<=j * 7):RunNewX (w.setCells B o vs) B j s:=by
 obtain ⟨b,h1,h2,h3⟩:=h
 exact ⟨b,h1,World.rangeAt_setCells_apart h2 _ _ _ (by right;simpa [Qz.cells,or_comm] using ho),Strs.setCells (by omega) _ _ h3⟩
theorem RunNewX.setCell {w:World} {B j:Nat} {s:Qz} (h:RunNewX w B j s) {p:Addr} (hp:p.block < B) (v:Value):RunNewX (w.setCell p v) B j s:=by
 obtain ⟨b,h1,h2,h3⟩:=h
 refine ⟨b,h1,fun i u hu=> ?_,h3.setCell (by omega) v⟩
 rw [World.cell?_setCell_other _ _ _ _ (by intro e;have:=congrArg Addr.block e;simp at this;omega)]
 exact h2 i u hu
def RunsNewX (w:World) (B:Nat) (l:List Qz):Prop:=B < w.heap.size∧∀j,j < l.length->RunNewX w B j (l.getD j Qz.zero)
theorem RunsNewX.setCell {w:World} {B:Nat} {l:List Qz} (h:RunsNewX w B l) {p:Addr} (hp:p.block < B) (v:Value):RunsNewX (w.setCell p v) B l:=
 ⟨by rw [size_setCell];exact h.1,fun j hj=> (h.2 j hj).setCell hp v⟩
theorem RunsNewX.kept {w w':World} {B:Nat} {l:List Qz} (h:RunsNewX w B l) (k:K_ w w'):RunsNewX w' B l:=
 ⟨Nat.lt_of_lt_of_le h.1 k.size,fun j hj=> (h.2 j hj).kept k h.1⟩
theorem RunsNewX.runs {w:World} {B:Nat} {l:List Qz} (h:RunsNewX w B l):RunsX w (some ⟨B,0,none⟩) l:=fun i hi=> by
 obtain ⟨b,h1,h2,h3⟩:=h.2 i hi
 exact ⟨B,0,some ⟨b,0,none⟩,_,rfl,h.1,by rw [Nat.zero_add];exact h2,h3,fun e=> by cases e⟩
def RunInX (w:World) (B j lo hi:Nat) (r:Qz):Prop:=
 ∃xa xc,w.rangeAt B (j * 7) (r.cells xa xc)∧StrsIn w lo hi xa r.texts∧(xa=none->xc=0)
theorem RunInX.same {w w':World} {B j lo hi:Nat} {r:Qz} (h:RunInX w B j lo hi r) (k:Same lo hi w w') (hB:w'.rangeAt B (j * 7)=w.rangeAt B (j * 7)):RunInX w' B j lo hi r:=by
 obtain ⟨xa,xc,h1,h2,h3⟩:=h
 exact ⟨xa,xc,by rw [hB];exact h1,h2.same k,h3⟩
def RunsInX (w:World) (lo hi:Nat) (a:Option Addr) (l:List Qz):Prop:=
 l=[]∨∃(b:Nat) (c:Nat->Nat),a=some ⟨b,0,none⟩∧lo<=b∧b < c 0∧c l.length<=hi∧Row w b (l.length * 7)∧(∀i j,i<=j->c i<=c j)∧∀i,i < l.length->RunInX w b i (c i) (c (i+1)) (l.getD i Qz.zero)
theorem RunsInX.same {w w':World} {lo hi:Nat} {a:Option Addr} {l:List Qz} (h:RunsInX w lo hi a l) (k:Same lo hi w w'):RunsInX w' lo hi a l:=by
 rcases h with h | ⟨b,c,ha,h1,h2,h3,hr,hm,hc⟩
 ·exact .inl h
 ·have hbh:b < hi:=Nat.lt_of_lt_of_le h2 (Nat.le_trans (hm 0 _ (Nat.zero_le _)) h3)
  refine .inr ⟨b,c,ha,h1,h2,h3,k.row h1 hbh hr,hm,fun i hi'=> (hc i hi').same (k.mono ?_ ?_) (rangeAt_of_block (k b h1 hbh hr.lt) _)⟩
  ·have:=hm 0 i (Nat.zero_le _);omega
  ·have:=hm (i+1) l.length (by omega);omega
theorem RunsInX.mono {w:World} {lo hi lo' hi':Nat} {a:Option Addr} {l:List Qz} (h:RunsInX w lo hi a l) (h1:lo'<=lo) (h2:hi<=hi'):RunsInX w lo' hi' a l:=by
 rcases h with h | ⟨b,c,ha,g1,g2,g3,hr,hm,hc⟩
 ·exact .inl h
 ·exact .inr ⟨b,c,ha,by omega,g2,by omega,hr,hm,hc⟩
theorem RunsInX.runs {w:World} {lo hi:Nat} {a:Option Addr} {l:List Qz} (h:RunsInX w lo hi a l):RunsX w a l:=by
 rcases h with rfl | ⟨b,c,ha,h1,h2,h3,hr,hm,hc⟩
 ·intro i hi
  simp at hi
 ·intro i hi
  obtain ⟨xa,xc,g1,g2,g3⟩:=hc i hi
  exact ⟨b,0,xa,xc,ha,hr.lt,by rw [Nat.zero_add];exact g1,g2.strs,g3⟩
def cntRun (r:Qz):Nat:=6+r.texts.length
theorem RunInX.kept {w w':World} {B j lo hi:Nat} {r:Qz} (h:RunInX w B j lo hi r) (k:K_ w w') (hB:B < w.heap.size):RunInX w' B j lo hi r:=
 h.same (k.same _ _) (rangeAt_of_block (k.block B hB) _)
theorem RunInX.setCells {w:World} {B j lo hi o:Nat} {r:Qz} {vs:List Value} (h:RunInX w B j lo hi r) (hB:B < lo) (ho:j * 7+7<=o∨o+vs.length<=j * 7):RunInX (w.setCells B o vs) B j lo hi r:=by
 obtain ⟨xa,xc,h1,h2,h3⟩:=h
 exact ⟨xa,xc,World.rangeAt_setCells_apart h1 _ _ _ (by right;simpa [Qz.cells,or_comm] using ho),h2.same (Same.setCells (.inl hB) _ _ _),h3⟩
theorem RunsInX.setCell {w:World} {lo hi:Nat} {a:Option Addr} {l:List Qz} (h:RunsInX w lo hi a l) {p:Addr} (hp:p.block < lo) (v:Value):RunsInX (w.setCell p v) lo hi a l:=h.same (Same.setCell _ (.inl hp) _)
