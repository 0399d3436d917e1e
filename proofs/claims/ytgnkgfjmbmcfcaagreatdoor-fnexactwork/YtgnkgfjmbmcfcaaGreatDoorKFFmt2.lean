import Derived.Test.YtgnkgfjmbmcfcaaGreatDoorKSRoots
import Derived.Test.YtgnkgfjmbmcfcaaGreatDoorKFPlain
set_option maxRecDepth 100000
set_option maxHeartbeats 25600000
namespace Go.Proofs.YtgnkgfjmbmcfcaaGreatDoor
open Go.RowKit
def texts (l:List ByteArray):List (List UInt8):=l.map (·.data.toList)
def finB (give:ByteArray) (l:List ByteArray):ByteArray:= ⟨(finishOf give.data.toList (texts l)).toArray⟩
theorem texts_length (l:List ByteArray): (texts l).length=l.length:=by simp [texts]
theorem texts_getD (l:List ByteArray) (k:Nat) (h:k < l.length): (texts l).getD k []= (l.getD k ByteArray.empty).data.toList:=by simp [texts,List.getD,h]
theorem finB_none {give:ByteArray} {l:List ByteArray} (h:30 < give.size∨100 < l.length∨∃i,i < l.length∧200 < (l.getD i ByteArray.empty).size):finB give l=ByteArray.empty:=by
 unfold finB finishOf
 rw [if_pos]
 ·rfl
 ·rcases h with h | h | ⟨i,h1,h2⟩
  ·left;simpa using h
  ·right;left;simpa [texts] using h
  ·right;right
   refine ⟨(l.getD i ByteArray.empty).data.toList, ?_,by simpa using h2⟩
   simp [texts,List.getD,h1]
   exact ⟨_,List.getElem_mem h1,rfl⟩
def FinFits (give:ByteArray) (l:List ByteArray):Prop:=give.size<=30∧l.length<=100∧∀i,i < l.length->(l.getD i ByteArray.empty).size<=200
theorem FinFits.not {give:ByteArray} {l:List ByteArray} (h:FinFits give l): ¬(30 < give.data.toList.length∨100 < (texts l).length∨(∃t∈texts l,200 < t.length)):=by
 rintro (g | g | ⟨t,ht,g⟩)
 ·have:=h.1;simp at g;omega
 ·have:=h.2.1;simp [texts] at g;omega
 ·simp only [texts,List.mem_map] at ht
  obtain ⟨x,hx,rfl⟩:=ht
  obtain ⟨i,hi,rfl⟩:=List.getElem_of_mem hx
  have:=h.2.2 i hi
  simp [List.getD,hi] at this g
  omega
theorem finB_short {give:ByteArray} {l:List ByteArray} {b:ByteArray} (h:FinFits give l) (hb:b.data.toList=wholeOf give.data.toList (texts l)) (hs:b.size<=200):finB give l=b:=by
 unfold finB finishOf
 rw [if_neg h.not,if_pos (by rw [<-hb];simpa using hs),<-hb]
theorem finB_long {give:ByteArray} {l:List ByteArray} {b:ByteArray} (h:FinFits give l) (hb:b.data.toList=wholeOf give.data.toList (texts l)) (hs:200 < b.size):finB give l= ⟨(35 :: hexL 16 (sumOf b.data.toList).toNat).toArray⟩:=by
 unfold finB finishOf
 rw [if_neg h.not,if_neg (by rw [<-hb];simp;omega),<-hb]
theorem ba_ext {a b:ByteArray} (h:a.data.toList=b.data.toList):a=b:=by
 cases a;cases b
 simp at h
 simp [h]
theorem ba_append (a b:ByteArray): (a++b).data.toList=a.data.toList++b.data.toList:=by simp [ByteArray.data_append]
theorem ret_str {a b:ByteArray} (h:a=b):Ending.returned (.string a)= .returned (.string b):=by rw [h]
theorem tab_cut (n:Nat) (h:n < 16): (((⟨#[48,49,50,51,52,53,54,55,56,57,97,98,99,100,101,102]⟩:ByteArray).extract n 16).extract 0 1).data.toList=[hexDig n]:=by
 have: ∀m:Fin 16,(((⟨#[48,49,50,51,52,53,54,55,56,57,97,98,99,100,101,102]⟩:ByteArray).extract m.val 16).extract 0 1).data.toList=[hexDig m.val]:=by decide+kernel
 exact this ⟨n,h⟩
structure Qz where
 name:ByteArray
 over:Bool
 fail:Bool
 text:ByteArray
 at':Int
 Zj:Int
 texts:List ByteArray
def hasN (l:List ByteArray) (m:ByteArray):Bool:=l.any fun x=> decide (x=m)
theorem hasN_iff {l:List ByteArray} {m:ByteArray}:hasN l m=true↔m∈l:=by simp [hasN]
def Qz.fresh (n:ByteArray):Qz:= ⟨n,false,false,⟨#[]⟩,0,0,[]⟩
def noOf (n:ByteArray):ByteArray:= (⟨#[110,111,32]⟩:ByteArray)++n
def spentB :ByteArray:= ⟨#[115,112,101,110,116]⟩
abbrev Env :=ByteArray->Option Qz
abbrev Acts :=ByteArray->Option ActionD
section
variable (W : Acts)
def ansOf (σ:Env) (n:ByteArray):Option Xq:=
 match W n with
 | none=> some ⟨true,noOf n⟩
 | some _=> match σ n with
  | some r=> if r.over=true then some ⟨r.fail,r.text⟩ else none
  | none=> none
def Yq (σ:Env):List ByteArray->Option (List Xq)
 | []=> some []
 | a :: l=> match ansOf W σ a with
  | none=> none
  | some x=> match Yq σ l with
   | none=> none
   | some y=> some (x :: y)
def stepOf (a:ActionD) (i:Int):Xj:=a.steps.getD i.toNat Xj.zero
def goodOf (xs:List Xq):List ByteArray:= (xs.filter fun x=> !x.fail).map (·.text)
def failAt :List Xq->Nat->Option Nat
 | [],_=> none
 | x :: l,i=> if x.fail=true then some i else failAt l (i+1)
def caseAt (t:ByteArray) (els:Int):List CaseD->Int
 | []=> els
 | c :: l=> if c.text=t then c.goto else caseAt t els l
def goOnF (s:Xj) (xs:List Xq):GoneD:=
 match failAt xs 0 with
 | some i=> if s.fall= -1 then ⟨0,true,0,belowOf s i⟩ else ⟨0,false,s.fall,⟨#[]⟩⟩
 | none=> ⟨0,false,if xs.length=0 then s.els else caseAt (textAt xs s.on) s.els s.cases,⟨#[]⟩⟩
def arrive (a:ActionD) (r:Qz):Qz×List ByteArray:=
 (if (stepOf a r.at').fin=true then { r with Zj:=r.Zj+1,over:=true,fail:= (stepOf a r.at').bad,text:=finB (stepOf a r.at').give r.texts } else { r with Zj:=r.Zj+1 },(stepOf a r.at').asks)
def Y_ (σ:Env) (r:Qz):Qz×List ByteArray:=
 match W r.name with
 | none=> (r,[])
 | some a=>
  if r.Zj=0 then arrive a r else
  match Yq W σ (stepOf a r.at').asks with
  | none=> (r,[])
  | some xs=>
   if r.Zj=20 then ({ r with over:=true,fail:=true,text:=spentB },[]) else
   if (goOnF (stepOf a r.at') xs).over=true then ({ r with Zj:=r.Zj+1,over:=true,fail:=true,text:= (goOnF (stepOf a r.at') xs).text },[]) else
   arrive a { r with texts:=r.texts++goodOf xs,at':= (goOnF (stepOf a r.at') xs).at' }
def CanGo (σ:Env) (r:Qz):Prop:=r.over=false∧(r.Zj=0∨∃a xs,W r.name=some a∧Yq W σ (stepOf a r.at').asks=some xs)
def ReadyX (σ:Env) (n:ByteArray):Prop:= ∃r,σ n=some r∧CanGo W σ r
def doX (σ:Env) (n:ByteArray):Env:=
 match σ n with
 | none=> σ
 | some r=> fun m=> if m=n then some (Y_ W σ r).1 else
  match σ m with
  | some x=> some x
  | none=> if hasN (Y_ W σ r).2 m=true∧(W m).isSome=true then some (Qz.fresh m) else none
variable {W}
theorem doX_eq {σ:Env} {n:ByteArray} {r:Qz} (h:σ n=some r) (k:ByteArray):doX W σ n k=if k=n then some (Y_ W σ r).1 else match σ k with | some x=> some x | none=> if hasN (Y_ W σ r).2 k=true∧(W k).isSome=true then some (Qz.fresh k) else none:=by
 unfold doX
 rw [h]
theorem doX_other {σ:Env} {n m:ByteArray} (h:m≠n) {x:Qz} (hx:σ m=some x):doX W σ n m=some x:=by
 unfold doX
 cases hn:σ n with
 | none=> simpa using hx
 | some r=> simp [h,hx]
theorem doX_here {σ:Env} {n:ByteArray} {r:Qz} (h:σ n=some r):doX W σ n n=some (Y_ W σ r).1:=by
 unfold doX
 simp [h]
theorem ansOf_mono {σ:Env} {n a:ByteArray} {x:Xq} (hr:ReadyX W σ n) (h:ansOf W σ a=some x):ansOf W (doX W σ n) a=some x:=by
 unfold ansOf at h⊢
 cases hw:W a with
 | none=> simpa [hw] using h
 | some act=>
  simp only [hw] at h⊢
  cases hs:σ a with
  | none=> simp [hs] at h
  | some r=>
   simp only [hs] at h
   by_cases e:a=n
   ·subst e
    obtain ⟨r',hr',hc⟩:=hr
    rw [hs] at hr'
    cases hr'
    rw [if_neg (by rw [hc.1];simp)] at h
    cases h
   ·rw [doX_other e hs]
    exact h
theorem answersOf_mono {σ:Env} {n:ByteArray} (hr:ReadyX W σ n): ∀{l:List ByteArray} {xs:List Xq},Yq W σ l=some xs->Yq W (doX W σ n) l=some xs
 | [],_,h=> h
 | a :: l,xs,h=> by
  unfold Yq at h⊢
  cases ha:ansOf W σ a with
  | none=> simp [ha] at h
  | some x=>
   simp only [ha] at h
   cases hl:Yq W σ l with
   | none=> simp [hl] at h
   | some y=>
    simp only [hl] at h
    rw [ansOf_mono hr ha,answersOf_mono hr hl]
    exact h
theorem CanGo.mono {σ:Env} {n:ByteArray} {r:Qz} (hr:ReadyX W σ n) (h:CanGo W σ r):CanGo W (doX W σ n) r:=
 ⟨h.1,h.2.imp id fun ⟨a,xs,h1,h2⟩=> ⟨a,xs,h1,answersOf_mono hr h2⟩⟩
theorem nextOf_mono {σ:Env} {n:ByteArray} {r:Qz} (hr:ReadyX W σ n) (h:CanGo W σ r):Y_ W (doX W σ n) r=Y_ W σ r:=by
 unfold Y_
 cases hw:W r.name with
 | none=> rfl
 | some a=>
  simp only
  by_cases h0:r.Zj=0
  ·simp [h0]
  ·rcases h.2 with h1 | ⟨a',xs,h1,h2⟩
   ·exact absurd h1 h0
   ·rw [hw] at h1
    cases h1
    simp only [h0,if_false]
    rw [answersOf_mono hr h2,h2]
theorem doX_commutes :Commutes (ReadyX W) (doX W):=by
 intro σ n m hnm hn hm
 obtain ⟨r,hr,hc⟩:=hn
 obtain ⟨q,hq,hd⟩:=hm
 have hn:ReadyX W σ n:= ⟨r,hr,hc⟩
 have hm:ReadyX W σ m:= ⟨q,hq,hd⟩
 have h1:doX W σ n m=some q:=doX_other (Ne.symm hnm) hq
 have h2:doX W σ m n=some r:=doX_other hnm hr
 refine ⟨⟨q,h1,hd.mono hn⟩, ?_⟩
 have e1:Y_ W (doX W σ n) q=Y_ W σ q:=nextOf_mono hn hd
 have e2:Y_ W (doX W σ m) r=Y_ W σ r:=nextOf_mono hm hc
 funext k
 have L:doX W (doX W σ n) m k=if k=m then some (Y_ W σ q).1 else match doX W σ n k with | some x=> some x | none=> if hasN (Y_ W σ q).2 k=true∧(W k).isSome=true then some (Qz.fresh k) else none:=by
  rw [doX_eq h1,e1]
 have R:doX W (doX W σ m) n k=if k=n then some (Y_ W σ r).1 else match doX W σ m k with | some x=> some x | none=> if hasN (Y_ W σ r).2 k=true∧(W k).isSome=true then some (Qz.fresh k) else none:=by
  rw [doX_eq h2,e2]
 rw [L,R]
 by_cases ekm:k=m
 ·subst ekm
  rw [if_pos rfl,if_neg (Ne.symm hnm),doX_here hq]
 ·by_cases ekn:k=n
  ·subst ekn
   rw [if_neg hnm,if_pos rfl,doX_here hr]
  ·rw [if_neg ekm,if_neg ekn]
   have a1:doX W σ n k=match σ k with | some x=> some x | none=> if hasN (Y_ W σ r).2 k=true∧(W k).isSome=true then some (Qz.fresh k) else none:=by
    rw [doX_eq hr,if_neg ekn]
   have a2:doX W σ m k=match σ k with | some x=> some x | none=> if hasN (Y_ W σ q).2 k=true∧(W k).isSome=true then some (Qz.fresh k) else none:=by
    rw [doX_eq hq,if_neg ekm]
   rw [a1,a2]
   cases hk:σ k with
   | some x=> rfl
   | none=>
    simp only
    by_cases c1:hasN (Y_ W σ r).2 k=true∧(W k).isSome=true
    ·rw [if_pos c1]
     by_cases c2:hasN (Y_ W σ q).2 k=true∧(W k).isSome=true
     ·rw [if_pos c2]
     ·rw [if_neg c2]
    ·rw [if_neg c1]
     by_cases c2:hasN (Y_ W σ q).2 k=true∧(W k).isSome=true
     ·rw [if_pos c2]
     ·rw [if_neg c2]
def Behind (p:Qz->Qz->Prop) (G:Env) (σ:Env) (n:ByteArray):Prop:=ReadyX W σ n∧∃r g,σ n=some r∧G n=some g∧p r g
theorem nextOf_visits {σ:Env} {r:Qz} (h:CanGo W σ r) (hw: (W r.name).isSome=true): ((Y_ W σ r).1.Zj=r.Zj+1)∨(r.Zj=20∧(Y_ W σ r).1.Zj=20∧(Y_ W σ r).1.over=true):=by
 unfold Y_
 cases hw':W r.name with
 | none=> rw [hw'] at hw;cases hw
 | some a=>
  simp only
  by_cases h0:r.Zj=0
  ·left
   simp only [h0,if_true]
   unfold arrive
   split <;> simp [h0]
  ·rcases h.2 with h1 | ⟨a',xs,h1,h2⟩
   ·exact absurd h1 h0
   ·rw [hw'] at h1
    cases h1
    simp only [h0,if_false,h2]
    by_cases h20:r.Zj=20
    ·right
     simp [h20]
    ·left
     simp only [h20,if_false]
     by_cases hg: (goOnF (stepOf a r.at') xs).over=true
     ·simp [hg]
     ·simp only [hg]
      unfold arrive
      simp only [Bool.false_eq_true,if_false]
      split <;> simp
theorem nextOf_name {σ:Env} {r:Qz}: (Y_ W σ r).1.name=r.name:=by
 unfold Y_ arrive
 repeat' split
 all_goals rfl
end
section
variable {W : Acts}
structure Qz.Ok (W:Acts) (n:ByteArray) (r:Qz):Prop where
 name:r.name=n
 web: (W n).isSome=true
 lo:0<=r.Zj
 hi:r.Zj<=20
def WfX (W:Acts) (σ:Env):Prop:= ∀n r,σ n=some r->r.Ok W n
theorem nextOf_ok {σ:Env} {n:ByteArray} {r:Qz} (h:r.Ok W n) (hc:CanGo W σ r): (Y_ W σ r).1.Ok W n:=by
 have hv:=nextOf_visits hc (by rw [h.name];exact h.web)
 refine ⟨by rw [nextOf_name];exact h.name,h.web, ?_, ?_⟩
 ·have:=h.lo;rcases hv with e | ⟨_,e,_⟩ <;> omega
 ·rcases hv with e | ⟨_,e,_⟩
  ·have:=h.hi
   by_cases h20:r.Zj=20
   ·exfalso
    have e2: (Y_ W σ r).1.Zj=r.Zj:=by
     unfold Y_
     cases hw:W r.name with
     | none=> rfl
     | some a=>
      simp only
      rw [if_neg (by omega)]
      rcases hc.2 with h1 | ⟨a',xs,h1,h2⟩
      ·omega
      ·rw [hw] at h1
       cases h1
       simp [h2,h20]
    omega
   ·omega
  ·omega
theorem doX_wf {σ:Env} {n:ByteArray} (h:WfX W σ) (hr:ReadyX W σ n):WfX W (doX W σ n):=by
 intro m x hx
 obtain ⟨r,hn,hc⟩:=hr
 rw [doX_eq hn] at hx
 by_cases e:m=n
 ·rw [if_pos e] at hx
  cases hx
  rw [e]
  exact nextOf_ok (h n r hn) hc
 ·rw [if_neg e] at hx
  cases hm:σ m with
  | some y=>
   rw [hm] at hx
   simp only [Option.some.injEq] at hx
   subst hx
   exact h m y hm
  | none=>
   rw [hm] at hx
   simp only at hx
   split at hx
   ·rename_i hc2
    cases hx
    exact ⟨rfl,hc2.2,Int.le_refl _,by show (0:Int)<=20;omega⟩
   ·cases hx
def behindS (r g:Qz):Prop:=r.Zj < g.Zj∨(r.Zj=g.Zj∧g.over=true∧20<=r.Zj)
def behindI (r g:Qz):Prop:=g.over=true∨r.Zj < g.Zj
theorem Leads.rest {α ι :Type} {ready:α-> ι ->Prop} {step:α-> ι ->α} (hc:Commutes ready step): ∀{j k:Nat} {s t u:α},Leads ready step s t j->Leads ready step s u k->AtEnd ready u->∃m,Leads ready step t u m:=by
 intro j
 induction j with
 | zero=> intro k s t u h g _;cases h;exact ⟨k,g⟩
 | succ j ih=>
  intro k s t u h g hu
  cases h with
  | step _ _ i _ hi hr=>
   obtain ⟨m,_,hl⟩:=g.first hc hu hi
   exact ih hr hl hu
def potOf :Option Qz->Nat
 | none=> 23
 | some r=> if r.over=true then 0 else 22 - r.Zj.toNat
def potAll (Kj:List ByteArray) (σ:Env):Nat:= (Kj.map fun n=> potOf (σ n)).sum
theorem potOf_do {σ:Env} {n m:ByteArray} (hw:WfX W σ) (hr:ReadyX W σ n):potOf (doX W σ n m)<=potOf (σ m)∧(m=n->potOf (doX W σ n m) < potOf (σ m)):=by
 obtain ⟨r,hn,hc⟩:=hr
 have hk:=hw n r hn
 by_cases e:m=n
 ·subst e
  have:potOf (doX W σ m m) < potOf (σ m):=by
   rw [doX_here hn,hn]
   have h1:=hk.lo
   have h2:=hk.hi
   show (if (Y_ W σ r).1.over=true then 0 else 22 - (Y_ W σ r).1.Zj.toNat) < (if r.over=true then 0 else 22 - r.Zj.toNat)
   have e0: (if r.over=true then 0 else 22 - r.Zj.toNat)=22 - r.Zj.toNat:=by rw [hc.1];rfl
   rw [e0]
   rcases nextOf_visits hc (by rw [hk.name];exact hk.web) with e | ⟨e1,e,eo⟩
   ·split
    ·omega
    ·rw [e];omega
   ·rw [if_pos eo];omega
  exact ⟨Nat.le_of_lt this,fun _=> this⟩
 ·refine ⟨?_,fun h=> absurd h e⟩
  rw [doX_eq hn,if_neg e]
  cases hm:σ m with
  | some x=> exact Nat.le_refl _
  | none=>
   simp only
   split
   ·show 22 - 0<=23;omega
   ·exact Nat.le_refl _
theorem potAll_do {σ:Env} {n:ByteArray} (hw:WfX W σ) (hr:ReadyX W σ n): ∀(Kj:List ByteArray),potAll Kj (doX W σ n)<=potAll Kj σ∧(n∈Kj->potAll Kj (doX W σ n) < potAll Kj σ)
 | []=> ⟨Nat.le_refl _,fun h=> by cases h⟩
 | m :: l=> by
  obtain ⟨h1,h2⟩:=potAll_do hw hr l
  obtain ⟨h3,h4⟩:=potOf_do (m:=m) hw hr
  have e1:potAll (m :: l) (doX W σ n)=potOf (doX W σ n m)+potAll l (doX W σ n):=by simp [potAll]
  have e2:potAll (m :: l) σ=potOf (σ m)+potAll l σ:=by simp [potAll]
  rw [e1,e2]
  refine ⟨by omega,fun h=> ?_⟩
  rcases List.mem_cons.1 h with h | h
  ·have:=h4 h.symm;omega
  ·have:=h2 h;omega
end
theorem specFinish_any (w:World) (give:ByteArray) (a:Option Addr) (cap:Nat) (l:List ByteArray) (hg:give.size<=maxLen) (hl:l.length<=maxLen) (hs: ∀s∈l,s.size<=maxLen) (hS:Strs w a l):
  Calls Tryz.prog 171 #[.string give,.slice a l.length cap] w fun e w'=> e= .returned (.string (finB give l))∧K_ w w':=by
 unfold maxLen at hg hl hs
 by_cases h1: (give.size:Int)<=30
 ·by_cases h2: (l.length:Int)<=100
  ·go_enter Tryz.func171,Tryz.ntmps171
   go_wp2
   go_loop [5,6] (fun x i=> ∃(k:Nat) (b:ByteArray),k<=l.length∧i= .int .i64 k∧x= .string b∧b.data.toList=give.data.toList++40 :: Lib.join ((texts l).take k) [44]∧(∀j,j < k->(l.getD j ByteArray.empty).size<=200)∧b.size<=31+k * 201) (fun _ i=> l.length - (intOf i).toNat)
   case atStart=> exact ⟨0,_,Nat.zero_le _,rfl,rfl,by rw [ba_append];simp [Lib.join_nil],fun j hj=> absurd hj (Nat.not_lt_zero _),by have e: (⟨#[40]⟩:ByteArray).size=1:=rfl;rw [ByteArray.size_append,e];omega⟩
   case round=>
    obtain ⟨k,b,hk,rfl,rfl,hb,hj,hbs⟩:=hrel
    have HB:=Kz hb
    have HJ:=Kz hj
    clear hb hj
    by_cases hlt:k < l.length
    ·obtain ⟨g,o,rfl,hgl,hc⟩:=hS k hlt
     have hsz:=hs (l.getD k ByteArray.empty) (by simp [List.getD,hlt])
     generalize hy:l.getD k ByteArray.empty=y at *
     have HY:=Kz hy
     clear hy
     by_cases h3: (y.size:Int)<=200
     ·by_cases h4: (0:Int) < k
      ·go_wp2
       go_round
       case rel=>
        have ht:=join_take_succ (texts l) k (by rw [texts_length];exact hlt)
        rw [texts_getD l k hlt,HY.out,if_pos (by omega)] at ht
        refine ⟨k+1,_,by omega,by go_num,rfl, ?_,fun j hj=> ?_, ?_⟩
        ·rw [ht];simp only [ba_append,HB.out];simp
        ·by_cases e:j=k
         ·subst e;rw [HY.out];omega
         ·exact HJ.out j (by omega)
        ·simp only [ByteArray.size_append];have: (⟨#[44]⟩:ByteArray).size=1:=rfl;omega
       case measure=> simp [intOf];omega
      ·go_wp2
       go_round
       case rel=>
        have ht:=join_take_succ (texts l) k (by rw [texts_length];exact hlt)
        rw [texts_getD l k hlt,HY.out,if_neg (by omega)] at ht
        refine ⟨k+1,_,by omega,by go_num,rfl, ?_,fun j hj=> ?_, ?_⟩
        ·rw [ht];simp only [ba_append,HB.out];simp
        ·by_cases e:j=k
         ·subst e;rw [HY.out];omega
         ·exact HJ.out j (by omega)
        ·simp only [ByteArray.size_append];have: (⟨#[44]⟩:ByteArray).size=1:=rfl;omega
       case measure=> simp [intOf];omega
     ·go_wp2
      go_ret
      exact ⟨ret_str (finB_none (.inr (.inr ⟨k,hlt,by rw [HY.out];omega⟩))).symm,K_.refl _⟩
    ·have hkl:k=l.length:=by omega
     have HW:Hid ((b++ ⟨#[41]⟩).data.toList=wholeOf give.data.toList (texts l)):=by
      show _=_
      rw [ba_append,HB.out,hkl,<-texts_length,List.take_length]
      simp [wholeOf]
     have HF:Hid (FinFits give l):= ⟨by omega,by omega,fun i hi=> HJ.out i (by omega)⟩
     have hw1: (b++ ⟨#[41]⟩:ByteArray).size=b.size+1:=by rw [ByteArray.size_append];rfl
     by_cases h5: (b.size:Int)+1<=200
     ·go_wp2
      go_ret
      exact ⟨ret_str (finB_short HF.out HW.out (by omega)).symm,K_.refl _⟩
     ·go_wp2
      have hbound: (b++ ⟨#[41]⟩:ByteArray).size<=100000:=by omega
      have hlong:200 < (b++ ⟨#[41]⟩:ByteArray).size:=by omega
      clear hw1 h5 hbs HB
      generalize (b++ ⟨#[41]⟩:ByteArray)=c at *
      go_loop [7,8] (fun v i=> ∃k:Nat,k<=c.size∧i= .int .i64 k∧v= .int .u64 ((c.data.toList.take k).foldl sumStep 14695981039346656037)) (fun _ i=> c.size - (intOf i).toNat)
      case atStart=> exact ⟨0,Nat.zero_le _,rfl,rfl⟩
      case round=>
       obtain ⟨m,hm,rfl,rfl⟩:=hrel
       by_cases hml:m < c.size
       ·have hlen:m < c.data.toList.length:=by simpa using hml
        have HS:Hid ((c.data.toList.take (m+1)).foldl sumStep 14695981039346656037=sumStep ((c.data.toList.take m).foldl sumStep 14695981039346656037) c[m]):=by
         have e:=sumTake_succ c.data.toList m hlen
         rw [List.getD_eq_getElem?_getD,List.getElem?_eq_getElem hlen,Option.getD_some] at e
         exact e
        generalize (c.data.toList.take m).foldl sumStep 14695981039346656037=v at *
        go_wp2
        go_round
        case rel=> exact ⟨m+1,by omega,by go_num,by rw [HS.out];rw [wrap_byte];rfl⟩
        case measure=> simp [intOf];omega
       ·have hmc:m=c.data.toList.length:=by simp;omega
        subst hmc
        rw [List.take_length]
        have hsb:=sumOf_bounds c.data.toList
        have HFin:Hid (finB give l= ⟨(35 :: hexL 16 (sumOf c.data.toList).toNat).toArray⟩):=finB_long HF.out HW.out hlong
        unfold sumOf at hsb HFin
        generalize List.foldl sumStep 14695981039346656037 c.data.toList=V at *
        obtain ⟨v,rfl⟩: ∃v:Nat,V=v:= ⟨V.toNat,by omega⟩
        rw [Int.toNat_natCast] at HFin
        go_wp2
        go_loop [7,9,10] (fun x d i=> ∃(k:Nat) (b:ByteArray),k<=16∧i= .int .i64 k∧x= .int .u64 ((v / 16 ^ k:Nat):Int)∧d= .string b∧b.data.toList=hexL k v) (fun _ _ i=> 16 - (intOf i).toNat)
        case atStart=> exact ⟨0,ByteArray.empty,Nat.zero_le _,rfl,by simp,rfl,rfl⟩
        case round=>
         obtain ⟨n,b,hn,rfl,rfl,rfl,hb⟩:=hrel
         have HB:=Kz hb
         clear hb
         have hbs:b.size<=16:=by have:=congrArg List.length HB.out;rw [hexL_length] at this;simp at this;omega
         by_cases hn16: (n:Int) < 16
         ·have hmod: (v / 16 ^ n) % 16 < 16:=Nat.mod_lt _ (by omega)
          have hdv:v / 16 ^ n / 16=v / 16 ^ (n+1):=by rw [Nat.div_div_eq_div_mul,Nat.pow_succ]
          have HD:=Kz hdv
          clear hdv
          have hvl:v / 16 ^ n < 18446744073709551616:=Nat.lt_of_le_of_lt (Nat.div_le_self _ _) (by omega)
          generalize hu:v / 16 ^ n=u at *
          have HU:=Kz hu
          clear hu
          go_wp2
          go_round
          case rel=>
           refine ⟨n+1,_,by omega,by go_num,by rw [<-HD.out];simp,rfl, ?_⟩
           rw [ba_append,tab_cut _ hmod,HB.out,hexL,HU.out]
           rfl
          case measure=> simp [intOf];omega
         ·go_wp2
          go_ret
          obtain rfl:n=16:=by omega
          exact ⟨ret_str (by rw [HFin.out];apply ba_ext;rw [ba_append,HB.out];rfl),K_.refl _⟩
  ·go_enter Tryz.func171,Tryz.ntmps171
   go_wp2
   go_ret
   exact ⟨by rw [finB_none (by omega)];rfl,K_.refl _⟩
 ·go_enter Tryz.func171,Tryz.ntmps171
  go_wp2
  go_ret
  exact ⟨by rw [finB_none (by omega)];rfl,K_.refl _⟩
theorem sum_any (w:World) (s:ByteArray) (hs:s.size<=maxLen):
  Calls Tryz.prog 202 #[.string s] w fun e w'=> e= .returned (.int .u64 (sumOf s.data.toList))∧K_ w w':=by
 unfold maxLen at hs
 obtain ⟨cap,C,fr,hconv,hcell⟩:=convBytes w s
 go_enter Tryz.func202,Tryz.ntmps202
 go_wp2
 clear hconv
 go_loopw [3,9] (fun x i wr=> ∃k:Nat,k<=s.size∧i= .int .i64 k∧x= .int .u64 ((s.data.toList.take k).foldl sumStep 14695981039346656037)∧wr= (w.alloc (.cells C 5 fr)).drew) (fun _ i _=> s.size - (intOf i).toNat)
 case atStart=> exact ⟨0,Nat.zero_le _,rfl,rfl,rfl⟩
 case round=>
  obtain ⟨k,hk,rfl,rfl,rfl⟩:=hrel
  by_cases hlt:k < s.size
  ·have hc:=hcell k hlt
   have hlen:k < s.data.toList.length:=by simpa using hlt
   have HS:Hid ((s.data.toList.take (k+1)).foldl sumStep 14695981039346656037=sumStep ((s.data.toList.take k).foldl sumStep 14695981039346656037) s[k]):=by
    have e:=sumTake_succ s.data.toList k hlen
    rw [List.getD_eq_getElem?_getD,List.getElem?_eq_getElem hlen,Option.getD_some] at e
    exact e
   generalize (s.data.toList.take k).foldl sumStep 14695981039346656037=v at *
   clear hcell
   go_wp2
   go_roundw
   case rel=> exact ⟨k+1,by omega,by go_num,by rw [HS.out];rw [wrap_byte];rfl,by first | rfl | trivial⟩
   case measure=> simp [intOf];omega
  ·go_wp2
   go_ret
   have:k=s.data.toList.length:=by simp;omega
   subst this
   rw [List.take_length]
   exact ⟨rfl,((K_.refl _).alloc _).drew⟩
def TabOk (w:World):Prop:=3 < w.heap.size∧w.cell? ⟨3,15,none⟩=some (.int .u8 4)
theorem TabOk.kept {w w':World} (h:TabOk w) (k:K_ w w'):TabOk w':= ⟨Nat.lt_of_lt_of_le h.1 k.size,by rw [k.cell h.1];exact h.2⟩
theorem tz64_16 (w:World) (h:TabOk w):Calls Tryz.prog 258 #[.int .u64 16] w fun e w'=> e= .returned (.int .i64 4)∧w'=w:=by
 have key:IntKind.u64.wrap (bits BinOp.and IntKind.u64 16 (IntKind.u64.wrap (-16)) * 285870213051353865) / 288230376151711744=15:=by decide+kernel
 have hc:=h.2
 go_enter Tryz.func258,Tryz.ntmps258
 go_wp2_with (simp only [key])
 go_ret
 exact ⟨rfl,rfl⟩
theorem tz_16 (w:World) (h:TabOk w):Calls Tryz.prog 256 #[.int .u64 16] w fun e w'=> e= .returned (.int .i64 4)∧w'=w:=by
 go_enter Tryz.func256,Tryz.ntmps256
 go_wp2_with fail
 refine (tz64_16 _ h).mono ?_
 rintro e w1 ⟨rfl,rfl⟩
 go_wp2
 go_ret
 exact ⟨rfl,rfl⟩
theorem and_15 (u:Nat) (h:u < 18446744073709551616):bits BinOp.and IntKind.u64 (u:Int) 15= ((u % 16:Nat):Int):=by
 have e:=bits_and_u64_nat u 15 h (by omega)
 rw [show ((15:Nat):Int)=15 from rfl] at e
 rw [e,show (15:Nat)=2 ^ 4 - 1 from rfl,Nat.and_two_pow_sub_one_eq_mod]
theorem pow16_lt {j v:Nat} (h:v < 18446744073709551616) (hu:16<=v / 16 ^ j):j+1<=15:=by
 have h1:16 ^ (j+1)<=v:=by
  rw [Nat.pow_succ]
  have:=Nat.div_mul_le_self v (16 ^ j)
  have:=Nat.mul_le_mul_right (16 ^ j) hu
  rw [Nat.mul_comm] at this
  omega
 apply Decidable.byContradiction
 intro hj
 have h2:16 ^ 16<=16 ^ (j+1):=Nat.pow_le_pow_right (by omega) (by omega)
 have h3: (16:Nat) ^ 16=18446744073709551616:=by decide
 omega
theorem Row.at0 {w:World} {b n i:Nat} (h:Row w b n) (hi:i < n): (∃v,w.cell? ⟨b,i,none⟩=some v)∧w.frozen? ⟨b,i,none⟩=false:=by
 obtain ⟨t,f,h⟩:=h
 exact ⟨⟨_,h.cell hi⟩,h.frozen i⟩
theorem tab36 (n:Nat) (h:n < 16) (h':n < (⟨#[48,49,50,51,52,53,54,55,56,57,97,98,99,100,101,102,103,104,105,106,107,108,109,110,111,112,113,114,115,116,117,118,119,120,121,122]⟩:ByteArray).size):
  (⟨#[48,49,50,51,52,53,54,55,56,57,97,98,99,100,101,102,103,104,105,106,107,108,109,110,111,112,113,114,115,116,117,118,119,120,121,122]⟩:ByteArray)[n]=hexDig n:=by
 have: ∀m:Fin 16,(⟨#[48,49,50,51,52,53,54,55,56,57,97,98,99,100,101,102,103,104,105,106,107,108,109,110,111,112,113,114,115,116,117,118,119,120,121,122]⟩:ByteArray)[m.val]'(Nat.lt_of_lt_of_le m.isLt (by decide))=hexDig m.val:=by decide+kernel
 exact this ⟨n,h⟩
def Written (w:World) (B v j:Nat):Prop:= ∀t,t < j->w.cell? ⟨B,64 - t,none⟩=some (.int .u8 ((hexDig (v / 16 ^ t % 16)).toNat:Int))
theorem Written.set {w:World} {B v j p:Nat} {old:Value} (h:Written w B v j) (hp:p+1+j=65) (hc:w.cell? ⟨B,p,none⟩=some old) {d:UInt8} (hd:d=hexDig (v / 16 ^ j % 16)):Written (w.setCell ⟨B,p,none⟩ (.int .u8 (d.toNat:Int))) B v (j+1):=by
 intro t ht
 by_cases e:t=j
 ·subst e
  have:64 - t=p:=by omega
  rw [this,World.cell?_setCell_same _ _ _ hc,hd]
 ·rw [World.cell?_setCell_other _ _ _ _ (by simp <;> omega)]
  exact h t (by omega)
theorem Tryz.zero65 : ∃zs:Array Value,zs.size=65∧∀W,(zeroValue 337).run Tryz.prog W= .ok (.agg zs) W:= ⟨Array.replicate 65 (.int .u8 0),by simp,fun W=> by kernel_rfl⟩
theorem Tryz.alen65 :Tryz.prog.arrayLen 337=65:=by kernel_rfl
theorem Tryz.aund65 :Tryz.prog.underlying 337=some (.array (Tryz.prog.arrayLen 337) (Tryz.prog.elem 337)):=by kernel_rfl
theorem Tryz.aelem65 :Tryz.prog.elem 337=5:=by kernel_rfl
theorem cut65 (W:World) (B p:Nat) (hp:p<=64): (Instr.sliceAt 337 (.pointer (some ⟨B,0,none⟩)) (some (.int .i64 (p:Int))) none none).run Tryz.prog W= .ok (.slice (some ⟨B,p,none⟩) (65 - p) (65 - p)) W:=by
 rw [run_sliceAt_array_l W 337 ⟨B,0,none⟩ Tryz.aund65 .i64 p (by omega) (by rw [Tryz.alen65];omega),Tryz.aelem65,Tryz.alen65,Tryz.sizeOf5]
 have h65: ¬(65:Nat)=p:=by omega
 simp [Result.andThen,slicedAt,Addr.add,h65]
 intro h;exact h.symm
theorem str65 (W:World) (B v j p:Nat) (hp:p+1+j=65) (h:Written W B v (j+1)): (convert 166 9 (.slice (some ⟨B,p,none⟩) (65 - p) (65 - p))).run Tryz.prog W= .ok (.string ⟨(hexL (j+1) v).toArray⟩) W:=by
 have hl: (hexL (j+1) v).length=65 - p:=by rw [hexL_length];omega
 have e:=run_convert_bytes_back (P:=Tryz.prog) W 166 9 5 ⟨B,p,none⟩ (65 - p) (hexL (j+1) v) Tryz.underlying166 Tryz.underlying5 Tryz.underlying9 (fun i hi=> by
  have h1:=h (j - i) (by omega)
  have h2:64 - (j - i)=p+i:=by omega
  rw [h2] at h1
  have h3: (⟨B,p,none⟩:Addr).add i= ⟨B,p+i,none⟩:=by simp [Addr.add]
  rw [hexL_get,Nat.add_sub_cancel,h3]
  exact h1)
 rw [hl] at e
 exact e
theorem formatBits_16 (w:World) (v:Nat) (hv:v < 18446744073709551616) (hT:TabOk w):
  Calls Tryz.prog 248 #[.slice none 0 0,.int .u64 v,.int .i64 16,.bool false,.bool false] w fun e w'=> (∃(n:Nat) (b:ByteArray),e= .returned (.tuple #[.slice none 0 0,.string b])∧b.data.toList=hexL n v∧1<=n∧n<=16∧v < 16 ^ n)∧K_ w w':=by
 obtain ⟨zs,hzs,hzero⟩:=Tryz.zero65
 have hne: ¬zs= #[]:=fun e=> by rw [e] at hzs;simp at hzs
 go_enter Tryz.func248,Tryz.ntmps248
 go_wp2_with (first | (go_at_call 256;refine (tz_16 _ (hT.kept (by repeat (first | apply K_.alloc | exact K_.refl _)))).mono ?_;rintro e w1 ⟨rfl,rfl⟩) | go_in)
 have hrow:Row (w.alloc (.cells zs 337)) w.heap.size 65:=by have:=Row.made w zs 337;rw [hzs] at this;exact this
 have hk0:K_ w (w.alloc (.cells zs 337)):= (K_.refl _).alloc _
 go_loopw [1,13] (fun u i wr=> ∃j:Nat,j<=15∧u= .int .u64 ((v / 16 ^ j:Nat):Int)∧(∃p:Nat,p+1+j=65∧i= .int .i64 ((p:Int)+1))∧K_ w wr∧Row wr w.heap.size 65∧Written wr w.heap.size v j) (fun u _ _=> (intOf u).toNat)
 case atStart=> exact ⟨0,by omega,by simp,⟨64,by omega,rfl⟩,hk0,hrow,fun t ht=> absurd ht (Nat.not_lt_zero _)⟩
 case round=>
  obtain ⟨j,hj,rfl,⟨p,hp,rfl⟩,hw,hr,hf⟩:=hrel
  clear hrow hk0
  obtain ⟨hcell,hfroz⟩:=hr.at0 (i:=p) (by omega)
  obtain ⟨old,hcell⟩:=hcell
  have HR:=Kz hr
  have HF:=Kz hf
  clear hr hf
  have hul:v / 16 ^ j < 18446744073709551616:=Nat.lt_of_le_of_lt (Nat.div_le_self _ _) hv
  have hdv:v / 16 ^ j / 16=v / 16 ^ (j+1):=by rw [Nat.div_div_eq_div_mul,Nat.pow_succ]
  have HD:=Kz hdv
  clear hdv
  have HP:Hid (16<=v / 16 ^ j->j+1<=15):=pow16_lt hv
  have HV:Hid (v / 16 ^ j < 16->v < 16 ^ (j+1)):=fun h=> by
   have:=Nat.lt_mul_of_div_lt h (Nat.pow_pos (by omega))
   rw [Nat.pow_succ,Nat.mul_comm];exact this
  generalize hu:v / 16 ^ j=u at *
  have HU:=Kz hu
  clear hu
  have hand:=and_15 u hul
  have hmod:u % 16 < 16:=Nat.mod_lt _ (by omega)
  by_cases h16: (16:Int)<=u
  ·go_wp2
   go_roundw
   case rel=>
    refine ⟨j+1,HP.out (by omega),by rw [<-HD.out];simp,⟨p - 1,by have:=HP.out (by omega);omega,by congr 1;have:=HP.out (by omega);omega⟩,K_.setCell hw (Nat.le_refl _) _,Row.set HR.out _ rfl _, ?_⟩
    exact Written.set HF.out hp hcell (by rw [tab36 _ hmod,HU.out])
   case measure=> simp [intOf];omega
  ·have hu16:u < 16:=by omega
   have hcut: ∀W,(Instr.sliceAt 337 (.pointer (some ⟨w.heap.size,0,none⟩)) (some (.int .i64 (p:Int))) none none).run Tryz.prog W= .ok (.slice (some ⟨w.heap.size,p,none⟩) (65 - p) (65 - p)) W:=fun W=> cut65 W _ _ (by omega)
   have hstr:=fun W=> str65 W w.heap.size v j p hp
   have HWr:=fun hlt=> Kz (Written.set HF.out hp hcell (d:= (⟨#[48,49,50,51,52,53,54,55,56,57,97,98,99,100,101,102,103,104,105,106,107,108,109,110,111,112,113,114,115,116,117,118,119,120,121,122]⟩:ByteArray)[u]'hlt) (by rw [tab36 _ hu16,HU.out,Nat.mod_eq_of_lt hu16]))
   have hstr1:=hstr _ (HWr (Nat.lt_of_lt_of_le hu16 (by decide))).out
   clear hstr HWr
   go_wp2
   go_ret2
   exact ⟨⟨j+1,_,rfl,rfl,by omega,by omega,HV.out hu16⟩,K_.setCell hw (Nat.le_refl _) _⟩
