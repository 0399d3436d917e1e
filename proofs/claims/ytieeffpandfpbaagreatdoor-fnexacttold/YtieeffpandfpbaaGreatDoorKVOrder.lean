import Derived.Test.YtieeffpandfpbaaGreatDoorKFFmt2
import Derived.Test.YtieeffpandfpbaaGreatDoorKOMark4
import Derived.Test.YtieeffpandfpbaaGreatDoorProg
set_option maxRecDepth 100000
set_option maxHeartbeats 25600000
namespace Go.Proofs.YtieeffpandfpbaaGreatDoor
open Go.RowKit
theorem toList_inj {a b:ByteArray}:a.toList=b.toList↔a=b:=by
 refine ⟨fun h=> ba_ext ?_,fun h=> by rw [h]⟩
 rw [ByteArray.toList_eq,ByteArray.toList_eq] at h
 exact h
theorem beq_no {a b:ByteArray} (h: (a.toList == b.toList)=false):a≠b:=fun e=> by rw [e] at h;simp at h
theorem beq_yes {a b:ByteArray} (h: (a.toList == b.toList)=true):a=b:=toList_inj.1 (by simpa using h)
def Qq.zero :Qq:=Qq.fresh ByteArray.empty
def Qq.cells (r:Qq) (xa:Option Addr) (xc:Nat):List Value:=[.string r.name,.bool r.over,.bool r.fail,.string r.text,.int .i64 r.at',.int .i64 r.Zk,.slice xa r.texts.length xc]
theorem Qq.one (r:Qq) (x:Option Addr) (c:Nat): ∀u∈r.cells x c,u.oneCell'=true:=by
 intro u hu
 simp only [Qq.cells,List.mem_cons,List.not_mem_nil,or_false] at hu
 rcases hu with rfl | rfl | rfl | rfl | rfl | rfl | rfl <;> rfl
def RunsX (w:World) (a:Option Addr) (l:List Qq):Prop:=
 ∀i,i < l.length->∃b o xa xc,a=some ⟨b,o,none⟩∧b < w.heap.size∧w.rangeAt b (o+i * 7) ((l.getD i Qq.zero).cells xa xc)∧Strs w xa (l.getD i Qq.zero).texts∧(xa=none->xc=0)
theorem RunsX.kept {w w':World} {a:Option Addr} {l:List Qq} (h:RunsX w a l) (k:K_ w w'):RunsX w' a l:=by
 intro i hi
 obtain ⟨b,o,xa,xc,e,hb,hr,hs,hx⟩:=h i hi
 exact ⟨b,o,xa,xc,e,Nat.lt_of_lt_of_le hb k.size,k.range hb hr,hs.kept k,hx⟩
def Qk (l:List Qq):Env:=fun n=> l.find? fun r=> decide (r.name=n)
theorem env_none {l:List Qq} {n:ByteArray} (h: ∀j,j < l.length->(l.getD j Qq.zero).name≠n):Qk l n=none:=by
 unfold Qk
 rw [List.find?_eq_none]
 intro r hr
 obtain ⟨j,hj,e⟩:=List.getElem_of_mem hr
 have:=h j hj
 simp only [List.getD,List.getElem?_eq_getElem hj,e,Option.getD_some] at this
 simpa using this
theorem env_at {n:ByteArray}: ∀{l:List Qq} {k:Nat},k < l.length->(l.getD k Qq.zero).name=n->(∀j,j < k->(l.getD j Qq.zero).name≠n)->Qk l n=some (l.getD k Qq.zero)
 | [],_,hk,_,_=> absurd hk (Nat.not_lt_zero _)
 | r :: l,0,_,h,_=> by
  have h':r.name=n:=h
  simp [Qk,List.find?,h',List.getD]
 | r :: l,k+1,hk,h,hj=> by
  have h0:r.name≠n:=hj 0 (by omega)
  have e:Qk (r :: l) n=Qk l n:=by simp [Qk,List.find?,h0]
  rw [e,env_at (k:=k) (by simpa using hk) h (fun j hj'=> hj (j+1) (by omega))]
  rfl
def PlaceX (l:List Qq) (n:ByteArray) (r:Int):Prop:= (∃k:Nat,k < l.length∧r= (k:Int)∧Qk l n=some (l.getD k Qq.zero)∧(l.getD k Qq.zero).name=n)∨(r= -1∧Qk l n=none)
def Qz (Kk:List Qj):Acts:=fun n=> (Kk.find? fun d=> decide (d.name=n)).map fun d=> ⟨d.cost,d.steps⟩
theorem acts_none {l:List Qj} {n:ByteArray} (h: ∀j,j < l.length->(l.getD j Qj.zero).name≠n):Qz l n=none:=by
 unfold Qz
 rw [Option.map_eq_none_iff,List.find?_eq_none]
 intro r hr
 obtain ⟨j,hj,e⟩:=List.getElem_of_mem hr
 have:=h j hj
 simp only [List.getD,List.getElem?_eq_getElem hj,e,Option.getD_some] at this
 simpa using this
theorem acts_at {n:ByteArray}: ∀{l:List Qj} {k:Nat},k < l.length->(l.getD k Qj.zero).name=n->(∀j,j < k->(l.getD j Qj.zero).name≠n)->Qz l n=some ⟨(l.getD k Qj.zero).cost,(l.getD k Qj.zero).steps⟩
 | [],_,hk,_,_=> absurd hk (Nat.not_lt_zero _)
 | r :: l,0,_,h,_=> by
  have h':r.name=n:=h
  simp [Qz,List.find?,h',List.getD]
 | r :: l,k+1,hk,h,hj=> by
  have h0:r.name≠n:=hj 0 (by omega)
  have e:Qz (r :: l) n=Qz l n:=by simp [Qz,List.find?,h0]
  rw [e,acts_at (k:=k) (by simpa using hk) h (fun j hj'=> hj (j+1) (by omega))]
  rfl
def PlaceN (l:List Qj) (n:ByteArray) (r:Int):Prop:= (∃k:Nat,k < l.length∧r= (k:Int)∧Qz l n=some ⟨(l.getD k Qj.zero).cost,(l.getD k Qj.zero).steps⟩∧(l.getD k Qj.zero).name=n∧∀j,j < k->(l.getD j Qj.zero).name≠n)∨(r= -1∧Qz l n=none)
theorem acts_first {n:ByteArray} {A:ActionD}: ∀{l:List Qj},Qz l n=some A->∃k,k < l.length∧(l.getD k Qj.zero).name=n∧(∀j,j < k->(l.getD j Qj.zero).name≠n)∧A= ⟨(l.getD k Qj.zero).cost,(l.getD k Qj.zero).steps⟩
 | [],h=> by simp [Qz] at h
 | d :: l,h=> by
  by_cases e:d.name=n
  ·refine ⟨0,by simp,e,fun j hj=> absurd hj (Nat.not_lt_zero _), ?_⟩
   simp [Qz,e] at h
   exact h.symm
  ·have e2:Qz (d :: l) n=Qz l n:=by simp [Qz,List.find?,e]
   rw [e2] at h
   obtain ⟨k,h1,h2,h3,h4⟩:=acts_first h
   refine ⟨k+1,by simpa using h1,h2,fun j hj=> ?_,h4⟩
   cases j with
   | zero=> exact e
   | succ j=> exact h3 j (by omega)
theorem first_unique {l:List Qj} {n:ByteArray} {k k':Nat} (h: (l.getD k Qj.zero).name=n) (h1: ∀j,j < k->(l.getD j Qj.zero).name≠n) (g: (l.getD k' Qj.zero).name=n) (g1: ∀j,j < k'->(l.getD j Qj.zero).name≠n):k=k':=by
 rcases Nat.lt_trichotomy k k' with e | e | e
 ·exact absurd h (g1 k e)
 ·exact e
 ·exact absurd g (h1 k' e)
def AnsSaid (Kk:List Qj) (l:List Qq) (n:ByteArray) (e:Ending):Prop:=
 ∃(f:Bool) (t:ByteArray) (ok:Bool),e= .returned (.tuple #[.agg #[.bool f,.string t],.bool ok])∧ansOf (Qz Kk) (Qk l) n=if ok=true then some ⟨f,t⟩ else none
structure Qq.Fits (r:Qq):Prop where
 name:r.name.size<=maxLen
 text:r.text.size<=maxLen
 len:r.texts.length<=maxLen
 each: ∀t∈r.texts,t.size<=maxLen
theorem eqRunX_yes (w:World) (r:Qq) (x x':Option Addr) (c c':Nat) (hl:r.texts.length<=maxLen) (hS:Strs w x r.texts) (hS':Strs w x' r.texts):
  Calls Tryz.prog 79 #[.agg (r.cells x c).toArray,.agg (r.cells x' c').toArray] w fun e w'=> e= .returned (.bool true)∧K_ w w':=by
 show Calls Tryz.prog 79 #[.agg #[.string r.name,.bool r.over,.bool r.fail,.string r.text,.int .i64 r.at',.int .i64 r.Zk,.slice x r.texts.length c],.agg #[.string r.name,.bool r.over,.bool r.fail,.string r.text,.int .i64 r.at',.int .i64 r.Zk,.slice x' r.texts.length c']] w _
 have k0:K_ w ((w.alloc (.cells #[.string r.name,.bool r.over,.bool r.fail,.string r.text,.int .i64 r.at',.int .i64 r.Zk,.slice x r.texts.length c] 83)).alloc (.cells #[.string r.name,.bool r.over,.bool r.fail,.string r.text,.int .i64 r.at',.int .i64 r.Zk,.slice x' r.texts.length c'] 83)):= ((K_.refl _).alloc _).alloc _
 go_enter Tryz.func79,Tryz.ntmps79
 go_wp2_with fail
 refine (eqStringS_yes _ x x' c c' r.texts hl (hS.kept (by repeat (first | exact k0 | apply K_.drew))) (hS'.kept (by repeat (first | exact k0 | apply K_.drew)))).mono ?_
 rintro e w1 ⟨rfl,k1⟩
 have k2:K_ w w1:=K_.trans (by repeat (first | exact k0 | apply K_.drew)) k1
 go_wp2
 go_ret
 exact ⟨rfl,k2⟩
theorem eqRunSX_yes (w:World) (a a':Option Addr) (cap cap':Nat) (l:List Qq) (hl:l.length<=maxLen) (hs: ∀r∈l,r.Fits) (hS:RunsX w a l) (hS':RunsX w a' l):
  Calls Tryz.prog 34 #[.slice a l.length cap,.slice a' l.length cap'] w fun e w'=> e= .returned (.bool true)∧K_ w w':=by
 unfold maxLen at hl
 go_enter Tryz.func34,Tryz.ntmps34
 go_wp2
 go_loopw [5] (fun i wr=> ∃k:Nat,k<=l.length∧i= .int .i64 k∧K_ w wr) (fun i _=> l.length - (intOf i).toNat)
 case atStart=> exact ⟨0,Nat.zero_le _,rfl,K_.refl _⟩
 case round=>
  obtain ⟨k,hk,rfl,hw⟩:=hrel
  by_cases hlt:k < l.length
  ·obtain ⟨b,o,x,cx,rfl,hb,hc,hx,_⟩:=hS.kept hw k hlt
   obtain ⟨b',o',x',cx',rfl,hb',hc',hx',_⟩:=hS'.kept hw k hlt
   have hsz:= (hs (l.getD k Qq.zero) (by simp [List.getD,hlt])).len
   generalize l.getD k Qq.zero=s at *
   have c0:=hc 0 _ rfl
   have c1:=hc 1 _ rfl
   have c2:=hc 2 _ rfl
   have c3:=hc 3 _ rfl
   have c4:=hc 4 _ rfl
   have c5:=hc 5 _ rfl
   have c6:=hc 6 _ rfl
   have d0:=hc' 0 _ rfl
   have d1:=hc' 1 _ rfl
   have d2:=hc' 2 _ rfl
   have d3:=hc' 3 _ rfl
   have d4:=hc' 4 _ rfl
   have d5:=hc' 5 _ rfl
   have d6:=hc' 6 _ rfl
   simp only [Nat.add_zero] at c0 d0
   clear hc hc'
   go_wp2
   go_region_with (go_at_call 79;refine (eqRunX_yes _ s x x' cx cx' hsz (hx.kept (by repeat (first | apply K_.drew | exact K_.refl _))) (hx'.kept (by repeat (first | apply K_.drew | exact K_.refl _)))).mono ?_;rintro e w1 ⟨rfl,hw1⟩)
   all_goals
    go_wp2
    go_roundw
    case rel=> exact ⟨k+1,by omega,by go_num,by repeat (first | assumption | apply K_.drew | refine K_.trans ?_ (by assumption))⟩
    case measure=> simp [intOf];omega
  ·go_wp2
   go_ret
   exact ⟨rfl,hw⟩
theorem twoCells {w w1:World} {v0 v1:Value} {t:TypeId} (k:K_ (w.alloc (.cells #[v0,v1] t)) w1):w1.cell? ⟨w.heap.size,0,none⟩=some v0∧w1.cell? ⟨w.heap.size,1,none⟩=some v1:=by
 have hlt:w.heap.size < (w.alloc (.cells #[v0,v1] t)).heap.size:=by simp
 constructor
 ·rw [k.cell hlt];simp
 ·rw [k.cell hlt];simp
theorem eqStateX_yes (w:World) (a a' d d':Option Addr) (cap cap' e0 e1:Nat) (l:List ByteArray) (r:List Qq) (hl:l.length<=maxLen) (hr:r.length<=maxLen) (hs: ∀x∈r,x.Fits) (hS:Strs w a l) (hS':Strs w a' l) (hR:RunsX w d r) (hR':RunsX w d' r):
  Calls Tryz.prog 13 #[.agg #[.slice a l.length cap,.slice d r.length e0],.agg #[.slice a' l.length cap',.slice d' r.length e1]] w fun e w'=> e= .returned (.bool true)∧K_ w w':=by
 have k0:K_ w ((w.alloc (.cells #[.slice a l.length cap,.slice d r.length e0] 41)).alloc (.cells #[.slice a' l.length cap',.slice d' r.length e1] 41)):= ((K_.refl _).alloc _).alloc _
 go_enter Tryz.func13,Tryz.ntmps13
 go_wp2_with fail
 refine (eqStringS_yes _ a a' cap cap' l hl (hS.kept (by repeat (first | exact k0 | apply K_.drew))) (hS'.kept (by repeat (first | exact k0 | apply K_.drew)))).mono ?_
 rintro e w1 ⟨rfl,k1⟩
 have z1:=k1.size
 simp only [World.size_alloc] at z1
 have q0:=twoCells (w:=w) (K_.trans ((K_.refl _).alloc _) (K_.trans (by repeat (first | exact K_.refl _ | apply K_.drew)) k1))
 have q1:=twoCells (w:=w.alloc (.cells #[.slice a l.length cap,.slice d r.length e0] 41)) (K_.trans (by repeat (first | exact K_.refl _ | apply K_.drew)) k1)
 simp only [World.size_alloc] at q1
 have k2:K_ w w1:=K_.trans (by repeat (first | exact k0 | apply K_.drew)) k1
 obtain ⟨p0,p1⟩:=q0
 obtain ⟨p2,p3⟩:=q1
 clear k0 k1
 go_wp2_with fail
 refine (eqRunSX_yes _ d d' e0 e1 r hr hs (hR.kept (by repeat (first | exact k2 | apply K_.drew))) (hR'.kept (by repeat (first | exact k2 | apply K_.drew)))).mono ?_
 rintro e w2 ⟨rfl,k3⟩
 have k4:K_ w w2:=K_.trans (by repeat (first | exact k2 | apply K_.drew)) k3
 go_wp2
 go_ret
 exact ⟨rfl,k4⟩
def szRunD (r:Qq):Nat:=r.name.size+r.text.size+szStrs r.texts
def szRunsD (l:List Qq):Nat:=l.length+ (l.map szRunD).sum
def szStateD (Q_:List ByteArray) (l:List Qq):Nat:=szStrs Q_+szRunsD l
theorem szRun_any (w:World) (r:Qq) (xa:Option Addr) (xc:Nat) (left:Int) (hf:r.Fits) (hS:Strs w xa r.texts) (h0:0<=left) (h1:left<=1048576):
  Calls Tryz.prog 55 #[.agg (r.cells xa xc).toArray,.int .i64 left] w fun e w'=> e= .returned (.int .i64 (szL (szRunD r) left))∧K_ w w':=by
 show Calls Tryz.prog 55 #[.agg #[.string r.name,.bool r.over,.bool r.fail,.string r.text,.int .i64 r.at',.int .i64 r.Zk,.slice xa r.texts.length xc],.int .i64 left] w _
 have hn:=hf.name
 have ht:=hf.text
 unfold maxLen at hn ht
 have k0:K_ w (w.alloc (.cells #[.string r.name,.bool r.over,.bool r.fail,.string r.text,.int .i64 r.at',.int .i64 r.Zk,.slice xa r.texts.length xc] 110)):= (K_.refl _).alloc _
 by_cases hle: (r.name.size:Int)<=left
 ·by_cases hle1: (r.text.size:Int)<=left - r.name.size
  ·go_enter Tryz.func55,Tryz.ntmps55
   go_wp2_with fail
   refine (szStringS_any _ xa xc r.texts _ hf.len hf.each (hS.kept k0) (by omega) (by omega)).mono ?_
   rintro e w1 ⟨rfl,rfl⟩
   by_cases hle2: (szStrs r.texts:Int)<=left - r.name.size - r.text.size
   ·rw [szL_pos hle2]
    go_wp2
    go_ret
    exact ⟨ret_int (by rw [szL_pos (by unfold szRunD;omega)];unfold szRunD;omega),k0⟩
   ·rw [szL_neg (by omega)]
    go_wp2
    go_ret
    exact ⟨ret_int (szL_neg (by unfold szRunD;omega)).symm,k0⟩
  ·go_enter Tryz.func55,Tryz.ntmps55
   go_wp2
   go_ret
   exact ⟨ret_int (szL_neg (by unfold szRunD;omega)).symm,k0⟩
 ·go_enter Tryz.func55,Tryz.ntmps55
  go_wp2
  go_ret
  exact ⟨ret_int (szL_neg (by unfold szRunD;omega)).symm,k0⟩
theorem szRunS_any (w:World) (a:Option Addr) (cap:Nat) (l:List Qq) (left:Int) (hl:l.length<=maxLen) (hs: ∀s∈l,s.Fits)
  (hS:RunsX w a l) (h0:0<=left) (h1:left<=1048576):
  Calls Tryz.prog 25 #[.slice a l.length cap,.int .i64 left] w fun e w'=> e= .returned (.int .i64 (szL (szRunsD l) left))∧K_ w w':=by
 unfold maxLen at hl
 go_enter Tryz.func25,Tryz.ntmps25
 go_wp2
 ·go_ret
  exact ⟨ret_int (szL_neg (by unfold szRunsD;omega)).symm,K_.refl _⟩
 ·go_loopw [1,5] (fun x i wr=> ∃k:Nat,k<=l.length∧i= .int .i64 k∧x= .int .i64 (left - l.length - sumTo szRunD l k)∧0<=left - l.length - sumTo szRunD l k∧K_ w wr) (fun _ i _=> l.length - (intOf i).toNat)
  case atStart=> exact ⟨0,Nat.zero_le _,rfl,by simp [sumTo_zero],by simp [sumTo_zero];omega,K_.refl _⟩
  case round=>
   obtain ⟨k,hk,rfl,rfl,hge,hw⟩:=hrel
   by_cases hlt:k < l.length
   ·obtain ⟨b,o,x,cx,rfl,hb,hc,hx,_⟩:=hS.kept hw k hlt
    have hsz: (l.getD k Qq.zero).Fits:=hs _ (by simp [List.getD,hlt])
    have HS:Hid (sumTo szRunD l (k+1)=sumTo szRunD l k+szRunD (l.getD k Qq.zero)):=sumTo_succ _ l _ k hlt
    have HT:=sumTo_le szRunD l (k+1)
    generalize l.getD k Qq.zero=s at *
    have c0:=hc 0 _ rfl
    have c1:=hc 1 _ rfl
    have c2:=hc 2 _ rfl
    have c3:=hc 3 _ rfl
    have c4:=hc 4 _ rfl
    have c5:=hc 5 _ rfl
    have c6:=hc 6 _ rfl
    simp only [Nat.add_zero] at c0
    clear hc
    go_wp2_with fail
    refine (szRun_any _ s x cx _ hsz hx (by omega) (by omega)).mono ?_
    rintro e w1 ⟨rfl,hw1⟩
    have hw2:=hw.trans hw1
    by_cases hle: (szRunD s:Int)<=left - l.length - sumTo szRunD l k
    ·rw [szL_pos hle]
     clear c0 c1 c2 c3 c4 c5 c6 hx hw hw1
     go_wp2
     go_roundw
     case rel=> exact ⟨k+1,by omega,by go_num,by rw [HS.out];go_num,by rw [HS.out];omega,hw2⟩
     case measure=> simp [intOf];omega
    ·rw [szL_neg (by omega)]
     clear c0 c1 c2 c3 c4 c5 c6 hx hw hw1
     go_wp2
     go_ret
     exact ⟨ret_int (szL_neg (by unfold szRunsD;have:=HS.out;omega)).symm,hw2⟩
   ·go_wp2
    go_ret
    have:k=l.length:=by omega
    subst this
    rw [sumTo_all] at hge⊢
    exact ⟨ret_int (by rw [szL_pos (by unfold szRunsD;omega)];unfold szRunsD;omega),hw⟩
theorem szState_any (w:World) (a d:Option Addr) (cap e0:Nat) (Q_:List ByteArray) (l:List Qq) (left:Int) (hrl:Q_.length<=maxLen) (hrs: ∀s∈Q_,s.size<=maxLen) (hl:l.length<=maxLen) (hs: ∀s∈l,s.Fits) (hR:Strs w a Q_) (hS:RunsX w d l) (h0:0<=left) (h1:left<=1048576):
  Calls Tryz.prog 6 #[.agg #[.slice a Q_.length cap,.slice d l.length e0],.int .i64 left] w fun e w'=> e= .returned (.int .i64 (szL (szStateD Q_ l) left))∧K_ w w':=by
 have k0:K_ w (w.alloc (.cells #[.slice a Q_.length cap,.slice d l.length e0] 28)):= (K_.refl _).alloc _
 go_enter Tryz.func6,Tryz.ntmps6
 go_wp2_with fail
 refine (szStringS_any _ a cap Q_ left hrl hrs (hR.kept k0) h0 h1).mono ?_
 rintro e w1 ⟨rfl,rfl⟩
 by_cases hle: (szStrs Q_:Int)<=left
 ·rw [szL_pos hle]
  go_wp2_with fail
  refine (szRunS_any _ d e0 l _ hl hs (hS.kept k0) (by omega) (by omega)).mono ?_
  rintro e w1 ⟨rfl,k1⟩
  have k2:=k0.trans k1
  clear k0 k1
  by_cases hle2: (szRunsD l:Int)<=left - szStrs Q_
  ·rw [szL_pos hle2]
   go_wp2
   go_ret
   exact ⟨ret_int (by rw [szL_pos (by unfold szStateD;omega)];unfold szStateD;omega),k2⟩
  ·rw [szL_neg (by omega)]
   go_wp2
   go_ret
   exact ⟨ret_int (szL_neg (by unfold szStateD;omega)).symm,k2⟩
 ·rw [szL_neg (by omega)]
  go_wp2
  go_ret
  exact ⟨ret_int (szL_neg (by unfold szStateD;omega)).symm,k0⟩
def RunNewX (w:World) (B j:Nat) (s:Qq):Prop:=
 ∃b,B < b∧w.rangeAt B (j * 7) (s.cells (some ⟨b,0,none⟩) s.texts.length)∧Strs w (some ⟨b,0,none⟩) s.texts
theorem RunNewX.kept {w w':World} {B j:Nat} {s:Qq} (h:RunNewX w B j s) (k:K_ w w') (hB:B < w.heap.size):RunNewX w' B j s:=by
 obtain ⟨b,h1,h2,h3⟩:=h
 exact ⟨b,h1,k.range hB h2,h3.kept k⟩
theorem RunNewX.setCells {w:World} {B j o:Nat} {s:Qq} {vs:List Value} (h:RunNewX w B j s) (ho:j * 7+7<=o∨o+vs.length<=j * 7):RunNewX (w.setCells B o vs) B j s:=by
 obtain ⟨b,h1,h2,h3⟩:=h
 exact ⟨b,h1,World.rangeAt_setCells_apart h2 _ _ _ (by right;simpa [Qq.cells,or_comm] using ho),Strs.setCells (by omega) _ _ h3⟩
theorem RunNewX.setCell {w:World} {B j:Nat} {s:Qq} (h:RunNewX w B j s) {p:Addr} (hp:p.block < B) (v:Value):RunNewX (w.setCell p v) B j s:=by
 obtain ⟨b,h1,h2,h3⟩:=h
 refine ⟨b,h1,fun i u hu=> ?_,h3.setCell (by omega) v⟩
 rw [World.cell?_setCell_other _ _ _ _ (by intro e;have:=congrArg Addr.block e;simp at this;omega)]
 exact h2 i u hu
def RunsNewX (w:World) (B:Nat) (l:List Qq):Prop:=B < w.heap.size∧∀j,j < l.length->RunNewX w B j (l.getD j Qq.zero)
theorem RunsNewX.setCell {w:World} {B:Nat} {l:List Qq} (h:RunsNewX w B l) {p:Addr} (hp:p.block < B) (v:Value):RunsNewX (w.setCell p v) B l:=
 ⟨by rw [size_setCell];exact h.1,fun j hj=> (h.2 j hj).setCell hp v⟩
theorem RunsNewX.runs {w:World} {B:Nat} {l:List Qq} (h:RunsNewX w B l):RunsX w (some ⟨B,0,none⟩) l:=fun i hi=> by
 obtain ⟨b,h1,h2,h3⟩:=h.2 i hi
 exact ⟨B,0,some ⟨b,0,none⟩,_,rfl,h.1,by rw [Nat.zero_add];exact h2,h3,fun e=> by cases e⟩
theorem Tryz.sizeRun7 : (Tryz.prog.info? 83).map (·.size)=some 7:=by kernel_rfl
theorem toRunX_any (w:World) (r:Qq) (xa:Option Addr) (xc:Nat) (hl:r.texts.length<=1048576) (hS:Strs w xa r.texts):
  Calls Tryz.prog 63 #[.agg (r.cells xa xc).toArray] w fun e w'=> ∃b,e= .returned (.agg (r.cells (some ⟨b,0,none⟩) r.texts.length).toArray)∧Strs w' (some ⟨b,0,none⟩) r.texts∧K_ w w'∧w.heap.size<=b:=by
 show Calls Tryz.prog 63 #[.agg #[.string r.name,.bool r.over,.bool r.fail,.string r.text,.int .i64 r.at',.int .i64 r.Zk,.slice xa r.texts.length xc]] w _
 go_enter Tryz.func63,Tryz.ntmps63
 go_wp2_with fail
 refine (toStringS_any _ xa xc r.texts hl (hS.kept (by repeat (first | (refine K_.setCell ?_ (by simp <;> omega) _) | apply K_.alloc | exact K_.refl _)))).mono ?_
 rintro e w1 ⟨b,rfl,hN,k1,hb⟩
 obtain ⟨hc1,hf1⟩:=k1.rules
 have hz1:=k1.size
 simp only [World.size_alloc] at hb hz1
 have K1:K_ w w1:=K_.trans (by repeat (first | (refine K_.setCell ?_ (by simp <;> omega) _) | apply K_.alloc | exact K_.refl _)) k1
 have hrow1:Row w1 (w.heap.size+1) 7:=Row.kept (by
  have h7:Row ((w.alloc (.cells #[.string r.name,.bool r.over,.bool r.fail,.string r.text,.int .i64 r.at',.int .i64 r.Zk,.slice xa r.texts.length xc] 110)).alloc (.cells #[.string ⟨#[]⟩,.bool false,.bool false,.string ⟨#[]⟩,.int .i64 0,.int .i64 0,.slice none 0 0] 83)) (w.heap.size+1) 7:=by
   have:=Row.made (w.alloc (.cells #[.string r.name,.bool r.over,.bool r.fail,.string r.text,.int .i64 r.at',.int .i64 r.Zk,.slice xa r.texts.length xc] 110)) #[.string ⟨#[]⟩,.bool false,.bool false,.string ⟨#[]⟩,.int .i64 0,.int .i64 0,.slice none 0 0] 83
   simpa using this
  repeat (first | exact h7 | (refine Row.alloc ?_ _) | (refine Row.set ?_ _ rfl _))) k1
 have HRow:=Kj hrow1
 clear k1 hrow1
 have z0:w.heap.size < w1.heap.size:=by omega
 have z1:w.heap.size+1 < w1.heap.size:=by omega
 have z2:w.heap.size+1+1 < w1.heap.size:=by omega
 go_wp2
 have hX:Row (w1.setCell ⟨w.heap.size+1+1,6,none⟩ (.slice (some ⟨b,0,none⟩) r.texts.length r.texts.length)) (w.heap.size+1) 7:=Row.set HRow.out _ rfl _
 have hR:=World.rangeAt_setCells_same _ (w.heap.size+1) 0 (r.cells (some ⟨b,0,none⟩) r.texts.length) (hX.there (o:=0) (m:=7) (Nat.le_refl _))
 refine Xz (r.cells (some ⟨b,0,none⟩) r.texts.length) _ Tryz.results63 rfl hR Tryz.underlying83 rfl Tryz.sizeRun7 rfl ⟨b,rfl, ?_, ?_,by omega⟩
 ·repeat (first | (refine Strs.setCell ?_ (by simp <;> omega) _) | exact hN)
 ·repeat (first | (refine K_.setCell ?_ (by simp <;> omega) _) | exact K1)
theorem Tryz.infoRun7 : (Tryz.prog.info? 83).map (fun i=> (i.zero,i.size,i.bytes))=some (some (.agg #[.string ⟨#[]⟩,.bool false,.bool false,.string ⟨#[]⟩,.int .i64 0,.int .i64 0,.slice none 0 0]),7,80):=by kernel_rfl
theorem toRunSX_any (w:World) (a:Option Addr) (cap:Nat) (l:List Qq) (hl:l.length<=1048576) (hs: ∀s∈l,s.texts.length<=1048576) (hS:RunsX w a l):
  Calls Tryz.prog 29 #[.slice a l.length cap] w fun e w'=> ∃b,e= .returned (.slice (some ⟨b,0,none⟩) l.length l.length)∧RunsNewX w' b l∧K_ w w'∧w.heap.size<=b:=by
 have hmk:=run_make_many (P:=Tryz.prog) 39 83 _ _ _ Tryz.underlying39 Tryz.infoRun7 .i64 .i64 l.length (by omega) (by omega)
 go_enter Tryz.func29,Tryz.ntmps29
 go_wp2
 clear hmk
 have hrow:=Row.made w (madeCells #[.string ⟨#[]⟩,.bool false,.bool false,.string ⟨#[]⟩,.int .i64 0,.int .i64 0,.slice none 0 0] (l.length * 7)) 83
 rw [size_madeCells] at hrow
 have hkept:K_ w (w.alloc (.cells (madeCells #[.string ⟨#[]⟩,.bool false,.bool false,.string ⟨#[]⟩,.int .i64 0,.int .i64 0,.slice none 0 0] (l.length * 7)) 83)):= (K_.refl _).alloc _
 go_loopw [4] (fun i wr=> ∃k:Nat,k<=l.length∧i= .int .i64 k∧K_ w wr∧Row wr w.heap.size (l.length * 7)∧∀j,j < k->RunNewX wr w.heap.size j (l.getD j Qq.zero)) (fun i _=> l.length - (intOf i).toNat)
 case atStart=> exact ⟨0,Nat.zero_le _,rfl,hkept,hrow,fun j hj=> absurd hj (Nat.not_lt_zero _)⟩
 case round=>
  obtain ⟨k,hk,rfl,hw,hr,hf⟩:=hrel
  clear hrow hkept
  by_cases hlt:k < l.length
  ·obtain ⟨b,o,x,cx,rfl,hb,hc,hA,_⟩:=hS.kept hw k hlt
   have hsz:=hs (l.getD k Qq.zero) (by simp [List.getD,hlt])
   have HF:=Kj hf
   clear hf
   generalize hs:l.getD k Qq.zero=s at *
   have HSs:=Kj hs
   clear hs
   have c0:=hc 0 _ rfl
   have c1:=hc 1 _ rfl
   have c2:=hc 2 _ rfl
   have c3:=hc 3 _ rfl
   have c4:=hc 4 _ rfl
   have c5:=hc 5 _ rfl
   have c6:=hc 6 _ rfl
   simp only [Nat.add_zero] at c0
   clear hc
   go_wp2_with fail
   refine (toRunX_any _ s x cx hsz hA).mono ?_
   rintro e w1 ⟨b1,rfl,g1,hw1,g3⟩
   have hrl:=hr.lt
   have hw2:=hw.trans hw1
   have hr1:=hr.kept hw1
   generalize hcs:s.cells (some ⟨b1,0,none⟩) s.texts.length=cs
   have hlen:cs.length=7:=by rw [<-hcs];rfl
   have hone:cs.toArray.all (·.oneCell')=true:=by rw [<-hcs,List.all_toArray,List.all_eq_true];exact Qq.one s _ _
   have hth:w1.there w.heap.size (k * 7) cs.toArray.size:=by simpa [hlen] using hr1.there (o:=k * 7) (m:=7) (by omega)
   have hsize: (Tryz.prog.info? 83).map (·.size)=some cs.toArray.size:=by rw [Tryz.sizeRun7];simp [hlen]
   have HCS:=Kj hcs
   have HLEN:=Kj hlen
   have HSZ:=Kj hsize
   clear hcs hlen hsize
   have HR:Hid (Row w1 w.heap.size (l.length * 7)):=hr1
   have HF1:Hid (∀j,j < k->RunNewX w1 w.heap.size j (l.getD j Qq.zero)):=fun j hj=> (HF.out j hj).kept hw1 hr.lt
   clear HF c0 c1 c2 c3 c4 c5 c6 hw hw1 hr hr1 hA
   go_wp2_with (refine wpList_store_mid rfl 83 _ _ rfl w.heap.size (k * 7) cs.toArray rfl rfl hth (unhide HSZ) hone ?_)
   go_roundw
   case rel=>
    refine ⟨k+1,by omega,by go_num,K_.setCells (Nat.le_refl _) _ _ hw2,Row.setCells _ _ HR.out,fun j hj=> ?_⟩
    by_cases e:j=k
    ·subst e
     rw [unhide HSs]
     exact ⟨b1,by omega,by rw [HCS.out];exact World.rangeAt_setCells_same _ _ _ _ (by simpa using hth),Strs.setCells (by omega) _ _ g1⟩
    ·exact (HF1.out j (by omega)).setCells (by rw [HLEN.out];omega)
   case measure=> simp [intOf];omega
  ·go_wp2
   go_ret
   have:k=l.length:=by omega
   subst this
   exact ⟨w.heap.size,rfl,⟨hr.lt,hf⟩,hw,Nat.le_refl _⟩
theorem Tryz.sizeState2 : (Tryz.prog.info? 41).map (·.size)=some 2:=by kernel_rfl
theorem toStateX_any (w:World) (a d:Option Addr) (cap e0:Nat) (Q_:List ByteArray) (l:List Qq) (hrl:Q_.length<=1048576) (hl:l.length<=1048576) (hs: ∀s∈l,s.texts.length<=1048576) (hR:Strs w a Q_) (hS:RunsX w d l):
  Calls Tryz.prog 9 #[.agg #[.slice a Q_.length cap,.slice d l.length e0]] w fun e w'=> ∃b1 b2,e= .returned (.agg #[.slice (some ⟨b1,0,none⟩) Q_.length Q_.length,.slice (some ⟨b2,0,none⟩) l.length l.length])∧Strs w' (some ⟨b1,0,none⟩) Q_∧RunsNewX w' b2 l∧K_ w w'∧w.heap.size<=b1∧w.heap.size<=b2:=by
 go_enter Tryz.func9,Tryz.ntmps9
 go_wp2_with fail
 refine (toStringS_any _ a cap Q_ hrl (hR.kept (by repeat (first | apply K_.alloc | exact K_.refl _)))).mono ?_
 rintro e w1 ⟨b1,rfl,hS1,k1,hb1⟩
 obtain ⟨hc1,hf1⟩:=k1.rules
 have hz1:=k1.size
 simp only [World.size_alloc] at hb1 hz1
 have K1:K_ w w1:=K_.trans (by repeat (first | apply K_.alloc | exact K_.refl _)) k1
 have hrow1:Row w1 (w.heap.size+1) 2:=Row.kept (Row.alloc (by have:=Row.made (w.alloc (.cells #[.slice a Q_.length cap,.slice d l.length e0] 28)) #[.slice none 0 0,.slice none 0 0] 41;simpa using this) _) k1
 clear k1
 go_wp2_with fail
 refine (toRunSX_any _ d e0 l hl hs (hS.kept (by repeat (first | (refine K_.setCell ?_ (by simp <;> omega) _) | exact K1)))).mono ?_
 rintro e w2 ⟨b2,rfl,hS2,k2,hb2⟩
 obtain ⟨hc2,hf2⟩:=k2.rules
 have hz2:=k2.size
 simp only [size_setCell] at hb2 hz2 hc2 hf2
 have K2:K_ w w2:=K_.trans (by repeat (first | (refine K_.setCell ?_ (by simp <;> omega) _) | exact K1)) k2
 have hS1':=Strs.kept (Strs.setCell hS1 (p:= ⟨w.heap.size+1+1,0,none⟩) (by simp <;> omega) (.slice (some ⟨b1,0,none⟩) Q_.length Q_.length)) k2
 have HRow:Hid (Row w2 (w.heap.size+1) 2):=Row.kept (by repeat (first | refine Row.set ?_ _ rfl _ | exact hrow1)) k2
 clear k2 K1 hS1 hrow1
 have z0:w.heap.size < w1.heap.size:=by omega
 have z1:w.heap.size+1 < w1.heap.size:=by omega
 have z2:w.heap.size+1+1 < w1.heap.size:=by omega
 go_wp2
 have hX:Row (w2.setCell ⟨w.heap.size+1+1,1,none⟩ (.slice (some ⟨b2,0,none⟩) l.length l.length)) (w.heap.size+1) 2:=Row.set HRow.out _ rfl _
 have hR:=World.rangeAt_setCells_same _ (w.heap.size+1) 0 [.slice (some ⟨b1,0,none⟩) Q_.length Q_.length,.slice (some ⟨b2,0,none⟩) l.length l.length] (hX.there (o:=0) (m:=2) (Nat.le_refl _))
 refine Xz [.slice (some ⟨b1,0,none⟩) Q_.length Q_.length,.slice (some ⟨b2,0,none⟩) l.length l.length] _ Tryz.results9 rfl hR Tryz.underlying41 rfl Tryz.sizeState2 rfl ⟨b1,b2,rfl, ?_, ?_, ?_,by omega,by omega⟩
 ·repeat (first | (refine Strs.setCell ?_ (by simp <;> omega) _) | exact hS1')
 ·repeat (first | (refine RunsNewX.setCell ?_ (by simp <;> omega) _) | exact hS2)
 ·repeat (first | (refine K_.setCell ?_ (by simp <;> omega) _) | exact K2)
def lessX (a b:ByteArray):Prop:=Op.bytesLess a.toList b.toList=true
theorem lessX_irrefl (a:ByteArray): ¬lessX a a:=fun h=> by unfold lessX at h;rw [less_irrefl] at h;cases h
theorem lessX_trans {a b c:ByteArray} (h:lessX a b) (g:lessX b c):lessX a c:=less_trans _ _ _ h g
theorem lessX_asymm {a b:ByteArray} (h:lessX a b): ¬lessX b a:=fun g=> lessX_irrefl a (lessX_trans h g)
theorem lessX_ne {a b:ByteArray} (h:lessX a b):a≠b:=fun e=> by rw [e] at h;exact lessX_irrefl b h
theorem lessX_total (a b:ByteArray):lessX a b∨a=b∨lessX b a:=by
 unfold lessX
 cases h:Op.bytesLess a.toList b.toList with
 | true=> exact .inl rfl
 | false=>
  by_cases e:a=b
  ·exact .inr (.inl e)
  ·exact .inr (.inr (less_total _ _ h fun e2=> e (toList_inj.1 e2)))
def AscX (l:List Qq):Prop:=l.Pairwise fun x y=> lessX x.name y.name
theorem env_mem {l:List Qq} {n:ByteArray} {r:Qq} (h:Qk l n=some r):r∈l∧r.name=n:=by
 unfold Qk at h
 exact ⟨List.mem_of_find?_eq_some h,by simpa using List.find?_some h⟩
theorem asc_env {l:List Qq} (h:AscX l) {r:Qq} (hr:r∈l):Qk l r.name=some r:=by
 induction l with
 | nil=> cases hr
 | cons x l ih=>
  rw [AscX,List.pairwise_cons] at h
  rcases List.mem_cons.1 hr with rfl | hr
  ·simp [Qk]
  ·have hne:x.name≠r.name:=lessX_ne (h.1 r hr)
   have e:Qk (x :: l) r.name=Qk l r.name:=by simp [Qk,List.find?,hne]
   rw [e]
   exact ih h.2 hr
theorem asc_ext : ∀{l l':List Qq},AscX l->AscX l'->(∀r,r∈l↔r∈l')->l=l'
 | [],[],_,_,_=> rfl
 | [],y :: ys,_,_,h=> by have:= (h y).2 (by simp);cases this
 | x :: xs,[],_,_,h=> by have:= (h x).1 (by simp);cases this
 | x :: xs,y :: ys,hl,hl',h=> by
  rw [AscX,List.pairwise_cons] at hl hl'
  have hxy:x=y:=by
   rcases List.mem_cons.1 ((h x).1 (by simp)) with e | hx
   ·exact e
   ·rcases List.mem_cons.1 ((h y).2 (by simp)) with e | hy
    ·exact e.symm
    ·exact absurd (hl.1 y hy) (lessX_asymm (hl'.1 x hx))
  subst hxy
  rw [asc_ext hl.2 hl'.2 fun r=> ?_]
  constructor
  ·intro hr
   rcases List.mem_cons.1 ((h r).1 (List.mem_cons_of_mem _ hr)) with rfl | h1
   ·exact absurd (hl.1 r hr) (lessX_irrefl _)
   ·exact h1
  ·intro hr
   rcases List.mem_cons.1 ((h r).2 (List.mem_cons_of_mem _ hr)) with rfl | h1
   ·exact absurd (hl'.1 r hr) (lessX_irrefl _)
   ·exact h1
theorem asc_eq {l l':List Qq} (h:AscX l) (h':AscX l') (e:Qk l=Qk l'):l=l':=by
 refine asc_ext h h' fun r=> ⟨fun hr=> ?_,fun hr=> ?_⟩
 ·have:=asc_env h hr;rw [e] at this;exact (env_mem this).1
 ·have:=asc_env h' hr;rw [<-e] at this;exact (env_mem this).1
theorem env_iff {l:List Qq} (hd: ∀x∈l,∀y∈l,x.name=y.name->x=y) {n:ByteArray} {r:Qq}:Qk l n=some r↔r∈l∧r.name=n:=by
 refine ⟨env_mem,fun ⟨hr,hn⟩=> ?_⟩
 cases h:Qk l n with
 | none=>
  unfold Qk at h
  rw [List.find?_eq_none] at h
  exact absurd (by simpa using hn) (h r hr)
 | some x=>
  obtain ⟨h1,h2⟩:=env_mem h
  rw [hd x h1 r hr (h2.trans hn.symm)]
theorem asc_diff {l:List Qq} (h:AscX l): ∀x∈l,∀y∈l,x.name=y.name->x=y:=fun x hx y hy e=> by
 have h1:=asc_env h hx
 have h2:=asc_env h hy
 rw [e,h2] at h1
 exact (Option.some.inj h1).symm
def insX (l:List Qq) (r:Qq):List Qq:= (l.filter fun x=> Op.bytesLess x.name.toList r.name.toList)++r :: l.filter fun x=> Op.bytesLess r.name.toList x.name.toList
theorem insX_asc {l:List Qq} {r:Qq} (h:AscX l):AscX (insX l r):=by
 unfold insX
 rw [AscX,List.pairwise_append]
 refine ⟨h.filter _, ?_,fun x hx y hy=> ?_⟩
 ·rw [List.pairwise_cons]
  exact ⟨fun y hy=> (List.mem_filter.1 hy).2,h.filter _⟩
 ·have hx2:lessX x.name r.name:= (List.mem_filter.1 hx).2
  rcases List.mem_cons.1 hy with rfl | hy
  ·exact hx2
  ·exact lessX_trans hx2 (List.mem_filter.1 hy).2
theorem insX_mem {l:List Qq} {r x:Qq}:x∈insX l r↔x=r∨(x∈l∧x.name≠r.name):=by
 unfold insX
 rw [List.mem_append,List.mem_cons,List.mem_filter,List.mem_filter]
 constructor
 ·rintro (⟨h1,h2⟩ | h | ⟨h1,h2⟩)
  ·exact .inr ⟨h1,lessX_ne h2⟩
  ·exact .inl h
  ·exact .inr ⟨h1,Ne.symm (lessX_ne h2)⟩
 ·rintro (h | ⟨h1,h2⟩)
  ·exact .inr (.inl h)
  ·rcases lessX_total x.name r.name with h3 | h3 | h3
   ·exact .inl ⟨h1,h3⟩
   ·exact absurd h3 h2
   ·exact .inr (.inr ⟨h1,h3⟩)
theorem insX_env {l:List Qq} {r:Qq} (h:AscX l) (n:ByteArray):Qk (insX l r) n=if n=r.name then some r else Qk l n:=by
 have hd:=asc_diff (insX_asc (r:=r) h)
 by_cases e:n=r.name
 ·rw [if_pos e]
  exact (env_iff hd).2 ⟨(insX_mem).2 (.inl rfl),e.symm⟩
 ·rw [if_neg e]
  cases hn:Qk l n with
  | some x=>
   obtain ⟨h1,h2⟩:=env_mem hn
   exact (env_iff hd).2 ⟨(insX_mem).2 (.inr ⟨h1,fun e2=> e (h2.symm.trans e2)⟩),h2⟩
  | none=>
   cases hi:Qk (insX l r) n with
   | none=> rfl
   | some x=>
    obtain ⟨h1,h2⟩:=env_mem hi
    rcases (insX_mem).1 h1 with rfl | ⟨h3,_⟩
    ·exact absurd h2.symm e
    ·have:= (env_iff (asc_diff h)).2 ⟨h3,h2⟩
     rw [hn] at this
     cases this
theorem foldl_ins : ∀(l t:List Qq),AscX t->(∀x∈l,∀y∈l,x.name=y.name->x=y)->AscX (l.foldl insX t)∧∀n,Qk (l.foldl insX t) n=match Qk l n with | some r=> some r | none=> Qk t n
 | [],t,h,_=> ⟨h,fun n=> rfl⟩
 | x :: l,t,h,hd=> by
  obtain ⟨h1,h2⟩:=foldl_ins l (insX t x) (insX_asc h) (fun a ha b hb=> hd a (List.mem_cons_of_mem _ ha) b (List.mem_cons_of_mem _ hb))
  refine ⟨h1,fun n=> ?_⟩
  show Qk (l.foldl insX (insX t x)) n=_
  rw [h2 n]
  by_cases e:x.name=n
  ·have e1:Qk (x :: l) n=some x:=by simp [Qk,e]
   rw [e1]
   cases hn:Qk l n with
   | some r=>
    obtain ⟨g1,g2⟩:=env_mem hn
    simp only
    rw [hd r (List.mem_cons_of_mem _ g1) x (by simp) (g2.trans e.symm)]
   | none=>
    simp only
    rw [insX_env h,if_pos e.symm]
  ·have e1:Qk (x :: l) n=Qk l n:=by simp [Qk,List.find?,e]
   rw [e1]
   cases Qk l n with
   | some r=> rfl
   | none=>
    simp only
    rw [insX_env h,if_neg (Ne.symm e)]
def InAct (Kk:List Qj) (r:Qq):Prop:= ∃A,Qz Kk r.name=some A∧0<=r.at'∧r.at' < A.steps.length
def ActsOk (W:Acts):Prop:= ∀n A,W n=some A->ActionOk A∧NameOk n
theorem failAt_some : ∀{xs:List Xj} {k j:Nat},failAt xs k=some j->∃i,j=k+i∧i < xs.length∧IsFail (xs.getD i Xj.zero)∧NoneTo xs IsFail i
 | [],_,_,h=> by simp [failAt] at h
 | x :: l,k,j,h=> by
  unfold failAt at h
  by_cases hx:x.fail=true
  ·rw [if_pos hx] at h
   cases h
   exact ⟨0,rfl,by simp,hx,fun j hj=> absurd hj (Nat.not_lt_zero _)⟩
  ·rw [if_neg hx] at h
   obtain ⟨i,h1,h2,h3,h4⟩:=failAt_some h
   refine ⟨i+1,by omega,by simpa using h2,h3,fun j hj=> ?_⟩
   cases j with
   | zero=> exact hx
   | succ j=> exact h4 j (by omega)
theorem failAt_none : ∀{xs:List Xj} {k:Nat},failAt xs k=none->NoneTo xs IsFail xs.length
 | [],_,_=> fun j hj=> absurd hj (Nat.not_lt_zero _)
 | x :: l,k,h=> by
  unfold failAt at h
  by_cases hx:x.fail=true
  ·rw [if_pos hx] at h
   cases h
  ·rw [if_neg hx] at h
   have:=failAt_none h
   intro j hj
   cases j with
   | zero=> exact hx
   | succ j=> exact this j (by simpa using hj)
theorem caseAt_is (t:ByteArray) (els:Int): ∀(l:List CaseD),(∃i,i < l.length∧(l.getD i CaseD.zero).text=t∧(∀j,j < i->(l.getD j CaseD.zero).text≠t)∧caseAt t els l= (l.getD i CaseD.zero).goto)∨((∀j,j < l.length->(l.getD j CaseD.zero).text≠t)∧caseAt t els l=els)
 | []=> .inr ⟨fun j hj=> absurd hj (Nat.not_lt_zero _),rfl⟩
 | c :: l=> by
  by_cases hc:c.text=t
  ·exact .inl ⟨0,by simp,hc,fun j hj=> absurd hj (Nat.not_lt_zero _),by simp [caseAt,hc,List.getD]⟩
  ·have e:caseAt t els (c :: l)=caseAt t els l:=by simp [caseAt,hc]
   rw [e]
   rcases caseAt_is t els l with ⟨i,h1,h2,h3,h4⟩ | ⟨h1,h2⟩
   ·refine .inl ⟨i+1,by simpa using h1,h2,fun j hj=> ?_,h4⟩
    cases j with
    | zero=> exact hc
    | succ j=> exact h3 j (by omega)
   ·refine .inr ⟨fun j hj=> ?_,h2⟩
    cases j with
    | zero=> exact hc
    | succ j=> exact h1 j (by simpa using hj)
theorem goOnF_followed {s:Xk} {xs:List Xj} (h:AnsOk s xs):Followed s xs (goOnF s xs):=by
 refine .inr ⟨h, ?_⟩
 unfold goOnF
 cases hf:failAt xs 0 with
 | some j=>
  obtain ⟨i,h1,h2,h3,h4⟩:=failAt_some hf
  have:j=i:=by omega
  subst this
  refine .inl ⟨j,h2,h3,h4, ?_⟩
  by_cases hfa:s.fall= -1
  ·exact .inl ⟨hfa,by simp [hfa]⟩
  ·exact .inr ⟨hfa,by simp [hfa]⟩
 | none=>
  refine .inr ⟨failAt_none hf,_, ?_,rfl⟩
  by_cases h0:xs.length=0
  ·rw [if_pos h0]
   exact .inl ⟨h0,rfl⟩
  ·rw [if_neg h0]
   refine .inr ⟨h0, ?_⟩
   rcases caseAt_is (textAt xs s.on) s.els s.cases with ⟨i,g1,g2,g3,g4⟩ | ⟨g1,g2⟩
   ·exact .inl ⟨i,g1,g2,g3,g4⟩
   ·exact .inr ⟨g1,g2⟩
theorem WentOn.goodX {cost:Int} {l:List Xk} {at':Int} {ans:List Xj} {g:GoneD} (h:WentOn cost l at' ans g): (g.code=0->g.over=false->0<=g.at'∧g.at' < l.length)∧(g.over=true->7<=g.text.size):=by
 rcases h with ⟨_,rfl⟩ | ⟨⟨hA,⟨h1,h2⟩,hf⟩,h⟩
 ·exact ⟨fun e=> by simp [GoneD.none] at e,fun e=> by simp [GoneD.none] at e⟩
 ·have hat:at'.toNat < l.length:=by omega
  have hs:StepOk (stepAt l at') l.length:=hA.2.2 at'.toNat hat
  obtain ⟨⟨_,_,_,hn,_,he,hfall,_⟩,hc⟩:=hs.2 hf
  rcases h with ⟨_,rfl⟩ | ⟨hAns,⟨i,hi,_,_,⟨_,rfl⟩ | ⟨hne,rfl⟩⟩ | ⟨_,r,hr,rfl⟩⟩
  ·exact ⟨fun e=> by simp [GoneD.none] at e,fun e=> by simp [GoneD.none] at e⟩
  ·refine ⟨fun _ e=> by simp at e,fun _=> ?_⟩
   have:= (hn i (by rw [<-hAns.1];exact hi)).1.1
   show 7<=(belowOf (stepAt l at') i).size
   unfold belowOf
   rw [ByteArray.size_append]
   show 7<=6+_
   omega
  ·exact ⟨fun _ _=> ⟨by show 0<=(stepAt l at').fall;omega,hfall.2⟩,fun e=> by simp at e⟩
  ·refine ⟨fun _ _=> ?_,fun e=> by simp at e⟩
   show 0<=r∧r < l.length
   rcases hr with ⟨_,rfl⟩ | ⟨_,⟨j,hj,_,_,rfl⟩ | ⟨_,rfl⟩⟩
   ·exact he
   ·exact (hc j hj).2
   ·exact he
theorem goOnF_code (s:Xk) (xs:List Xj): (goOnF s xs).code=0:=by
 unfold goOnF
 split
 ·split <;> rfl
 ·rfl
structure Qq.Good (Kk:List Qj) (r:Qq):Prop where
 act:InAct Kk r
 lo:0<=r.Zk
 hi:r.Zk<=20
 tl: (r.texts.length:Int)<=5 * r.Zk
 ts: ∀t∈r.texts,t.size<=200
 tx:r.text.size<=200
 stp: ∀A,Qz Kk r.name=some A->r.over=false->r.Zk≠0->(stepOf A r.at').fin=false
def GoodEnv (Kk:List Qj) (σ:Env):Prop:= ∀n r,σ n=some r->r.name=n∧r.Good Kk
theorem noOf_size {n:ByteArray} (h:n.size<=20): (noOf n).size<=200:=by
 unfold noOf
 rw [ByteArray.size_append]
 show 3+n.size<=200
 omega
theorem ansOf_size {Kk:List Qj} {σ:Env} {n:ByteArray} {x:Xj} (hg:GoodEnv Kk σ) (hn:n.size<=20) (h:ansOf (Qz Kk) σ n=some x):x.text.size<=200:=by
 unfold ansOf at h
 split at h
 ·simp only [Option.some.injEq] at h
  subst h
  exact noOf_size hn
 ·split at h
  ·rename_i r hr
   split at h
   ·simp only [Option.some.injEq] at h
    subst h
    exact (hg n r hr).2.tx
   ·cases h
  ·cases h
theorem answersOf_each {W:Acts} {σ:Env} {p:Xj->Prop}: ∀{l:List ByteArray} {xs:List Xj},(∀n∈l,∀x,ansOf W σ n=some x->p x)->Yj W σ l=some xs->xs.length=l.length∧∀x∈xs,p x
 | [],xs,_,h=> by
  simp only [Yj,Option.some.injEq] at h
  subst h
  exact ⟨rfl,fun x hx=> by cases hx⟩
 | a :: l,xs,hp,h=> by
  unfold Yj at h
  cases ha:ansOf W σ a with
  | none=> simp [ha] at h
  | some x=>
   cases hl:Yj W σ l with
   | none=> simp [ha,hl] at h
   | some ys=>
    simp only [ha,hl,Option.some.injEq] at h
    subst h
    obtain ⟨h1,h2⟩:=answersOf_each (p:=p) (fun n hn=> hp n (List.mem_cons_of_mem _ hn)) hl
    refine ⟨by simp [h1],fun y hy=> ?_⟩
    rcases List.mem_cons.1 hy with rfl | hy
    ·exact hp a (by simp) y ha
    ·exact h2 y hy
theorem answers_ok {Kk:List Qj} {σ:Env} {s:Xk} {xs:List Xj} (hg:GoodEnv Kk σ) (hn: ∀n∈s.asks,n.size<=20) (h:Yj (Qz Kk) σ s.asks=some xs):AnsOk s xs∧∀x∈xs,x.text.size<=200:=by
 obtain ⟨h1,h2⟩:=answersOf_each (p:=fun x=> x.text.size<=200) (fun n hn' x hx=> ansOf_size hg (hn n hn') hx) h
 refine ⟨⟨h1,fun ⟨i,hi,hl⟩=> ?_⟩,h2⟩
 have:=h2 (xs.getD i Xj.zero) (by simp [List.getD,hi])
 unfold IsLong at hl
 omega
theorem asks_ok {A:ActionD} (hA:ActionOk A) {i:Int} (h0:0<=i) (h1:i < A.steps.length): (stepOf A i).asks.length<=5∧∀n∈(stepOf A i).asks,NameOk n:=by
 have hs:StepOk (stepOf A i) A.steps.length:=hA.2.2 i.toNat (by omega)
 cases hf: (stepOf A i).fin with
 | true=>
  have:= (hs.1 hf).1
  refine ⟨by omega,fun n hn=> ?_⟩
  rw [List.eq_nil_of_length_eq_zero this] at hn
  cases hn
 | false=>
  have:= (hs.2 hf).1
  refine ⟨this.2.2.1,fun n hn=> ?_⟩
  obtain ⟨j,hj,e⟩:=List.getElem_of_mem hn
  have:= (this.2.2.2.1 j hj).1
  simp only [List.getD,List.getElem?_eq_getElem hj,e,Option.getD_some] at this
  exact this
theorem belowOf_size {s:Xk} {i:Nat} (h: ∀n∈s.asks,n.size<=20): (belowOf s i).size<=200:=by
 unfold belowOf
 rw [ByteArray.size_append]
 show 6+_<=200
 by_cases hi:i < s.asks.length
 ·have:=h (s.asks.getD i ByteArray.empty) (by simp [List.getD,hi]);omega
 ·have e:s.asks.getD i ByteArray.empty=ByteArray.empty:=by simp [List.getD,hi]
  rw [e]
  decide
theorem finB_le (give:ByteArray) (l:List ByteArray): (finB give l).size<=200:=by
 show (finishOf give.data.toList (texts l)).toArray.size<=200
 unfold finishOf
 split
 ·simp
 ·split
  ·simpa using ‹_›
  ·simp [hexL_length]
theorem goodOf_len (xs:List Xj): (goodOf xs).length<=xs.length:=by
 unfold goodOf
 rw [List.length_map]
 exact List.length_filter_le _ _
theorem goodOf_mem {xs:List Xj} {t:ByteArray} (h:t∈goodOf xs): ∃x∈xs,x.text=t:=by
 unfold goodOf at h
 rw [List.mem_map] at h
 obtain ⟨x,hx,e⟩:=h
 exact ⟨x,(List.mem_filter.1 hx).1,e⟩
theorem arrive_good {Kk:List Qj} {A:ActionD} {r:Qq} (hw:Qz Kk r.name=some A) (h0:0<=r.at') (h1:r.at' < A.steps.length) (lo:0<=r.Zk) (hi:r.Zk < 20) (tl: (r.texts.length:Int)<=5 * (r.Zk+1)) (ts: ∀t∈r.texts,t.size<=200) (tx:r.text.size<=200): (arrive A r).1.Good Kk:=by
 unfold arrive
 cases hf: (stepOf A r.at').fin with
 | true=>
  simp only [if_true]
  exact ⟨⟨A,hw,h0,h1⟩,by show 0<=r.Zk+1;omega,by show r.Zk+1<=20;omega,tl,ts,finB_le _ _,fun _ _ h=> by simp at h⟩
 | false=>
  simp only [Bool.false_eq_true,if_false]
  refine ⟨⟨A,hw,h0,h1⟩,by show 0<=r.Zk+1;omega,by show r.Zk+1<=20;omega,tl,ts,tx,fun A' hA' _ _=> ?_⟩
  have:A=A':=Option.some.inj (hw.symm.trans hA')
  subst this
  exact hf
theorem nextOf_good {Kk:List Qj} {σ:Env} {r:Qq} (hok:ActsOk (Qz Kk)) (hg:GoodEnv Kk σ) (h:r.Good Kk) (hc:CanGo (Qz Kk) σ r): (Yz (Qz Kk) σ r).1.Good Kk:=by
 obtain ⟨A,hA,h0,h1⟩:=h.act
 have hAok:= (hok _ _ hA).1
 unfold Yz
 rw [hA]
 simp only
 by_cases hv:r.Zk=0
 ·rw [if_pos hv]
  have:=h.tl
  exact arrive_good hA h0 h1 h.lo (by omega) (by omega) h.ts h.tx
 ·rw [if_neg hv]
  rcases hc.2 with e | ⟨A',xs,hA',hxs⟩
  ·exact absurd e hv
  ·rw [hA] at hA'
   cases hA'
   rw [hxs]
   simp only
   have lo:=h.lo
   have hi:=h.hi
   have tl:=h.tl
   by_cases h20:r.Zk=20
   ·rw [if_pos h20]
    exact ⟨⟨A,hA,h0,h1⟩,h.lo,h.hi,h.tl,h.ts,by show spentB.size<=200;decide,fun _ _ h=> by simp at h⟩
   ·rw [if_neg h20]
    obtain ⟨hal,han⟩:=asks_ok hAok h0 h1
    have han2: ∀n∈(stepOf A r.at').asks,n.size<=20:=fun n hn=> (han n hn).2.1
    obtain ⟨hAns,hxt⟩:=answers_ok hg han2 hxs
    have hfol:=goOnF_followed hAns
    have hW:WentOn A.cost A.steps r.at' xs (goOnF (stepOf A r.at') xs):= .inr ⟨⟨hAok,⟨h0,h1⟩,h.stp A hA hc.1 hv⟩,hfol⟩
    by_cases hgo: (goOnF (stepOf A r.at') xs).over=true
    ·rw [if_pos hgo]
     refine ⟨⟨A,hA,h0,h1⟩,by show 0<=r.Zk+1;omega,by show r.Zk+1<=20;omega,by show (r.texts.length:Int)<=5 * (r.Zk+1);omega,h.ts, ?_,fun _ _ h=> by simp at h⟩
     show (goOnF (stepOf A r.at') xs).text.size<=200
     unfold goOnF
     split
     ·split
      ·exact belowOf_size han2
      ·show (⟨#[]⟩:ByteArray).size<=200;decide
     ·show (⟨#[]⟩:ByteArray).size<=200;decide
    ·rw [if_neg hgo]
     have hgood:0<=(goOnF (stepOf A r.at') xs).at'∧(goOnF (stepOf A r.at') xs).at' < A.steps.length:=by
      have hfF: (stepOf A r.at').fin=false:=h.stp A hA hc.1 hv
      have hs:StepOk (stepOf A r.at') A.steps.length:=hAok.2.2 r.at'.toNat (by omega)
      obtain ⟨⟨_,_,_,_,_,he,hfall,_⟩,hcs⟩:=hs.2 hfF
      unfold goOnF at hgo⊢
      split
      ·rename_i i hi'
       rw [hi'] at hgo
       simp only at hgo
       by_cases hfa: (stepOf A r.at').fall= -1
       ·rw [if_pos hfa] at hgo;simp at hgo
       ·rw [if_neg hfa];exact ⟨by show 0<=(stepOf A r.at').fall;omega,hfall.2⟩
      ·show 0<=(if xs.length=0 then _ else _)∧(if xs.length=0 then _ else _) < _
       split
       ·exact he
       ·rcases caseAt_is (textAt xs (stepOf A r.at').on) (stepOf A r.at').els (stepOf A r.at').cases with ⟨i,g1,_,_,g4⟩ | ⟨_,g2⟩
        ·rw [g4];exact (hcs i g1).2
        ·rw [g2];exact he
     have hgl:=goodOf_len xs
     have hxl:xs.length<=5:=by rw [hAns.1];exact hal
     refine arrive_good (r:= { r with texts:=r.texts++goodOf xs,at':= (goOnF (stepOf A r.at') xs).at' }) hA hgood.1 hgood.2 h.lo (by show r.Zk < 20;omega) ?_ (fun t ht=> ?_) h.tx
     ·show ((r.texts++goodOf xs).length:Int)<=5 * (r.Zk+1)
      rw [List.length_append]
      push_cast
      omega
     ·rcases List.mem_append.1 ht with ht | ht
      ·exact h.ts t ht
      ·obtain ⟨x,hx,rfl⟩:=goodOf_mem ht
       exact hxt x hx
def wantL (W:Acts):List Qq->List ByteArray->List Qq
 | l,[]=> l
 | l,a :: bs=> wantL W (if (W a).isSome=true∧(Qk l a).isNone=true then l++ [Qq.fresh a] else l) bs
theorem env_snoc (l:List Qq) (x:Qq) (m:ByteArray):Qk (l++ [x]) m=match Qk l m with | some r=> some r | none=> if x.name=m then some x else none:=by
 unfold Qk
 rw [List.find?_append]
 cases h:l.find? fun r=> decide (r.name=m) with
 | some r=> rfl
 | none=>
  by_cases e:x.name=m
  ·simp [e]
  ·simp [e]
theorem wantL_env (W:Acts): ∀(bs:List ByteArray) (l:List Qq) (m:ByteArray),Qk (wantL W l bs) m=match Qk l m with | some r=> some r | none=> if hasN bs m=true∧(W m).isSome=true then some (Qq.fresh m) else none
 | [],l,m=> by
  show Qk l m=_
  cases Qk l m with
  | some r=> rfl
  | none=> simp [hasN]
 | a :: bs,l,m=> by
  show Qk (wantL W (if (W a).isSome=true∧(Qk l a).isNone=true then l++ [Qq.fresh a] else l) bs) m=_
  rw [wantL_env W bs]
  have hcons:hasN (a :: bs) m=true↔a=m∨hasN bs m=true:=by simp [hasN]
  by_cases hc: (W a).isSome=true∧(Qk l a).isNone=true
  ·rw [if_pos hc,env_snoc]
   cases hm:Qk l m with
   | some r=> rfl
   | none=>
    simp only
    by_cases e:a=m
    ·subst e
     have e1: (Qq.fresh a).name=a:=rfl
     rw [if_pos e1]
     simp only
     rw [if_pos ⟨hcons.2 (.inl rfl),hc.1⟩]
    ·have e1: (Qq.fresh a).name≠m:=e
     rw [if_neg e1]
     simp only
     by_cases h2:hasN bs m=true∧(W m).isSome=true
     ·rw [if_pos h2,if_pos ⟨hcons.2 (.inr h2.1),h2.2⟩]
     ·rw [if_neg h2,if_neg]
      rintro ⟨h3,h4⟩
      rcases hcons.1 h3 with h5 | h5
      ·exact e h5
      ·exact h2 ⟨h5,h4⟩
  ·rw [if_neg hc]
   cases hm:Qk l m with
   | some r=> rfl
   | none=>
    simp only
    by_cases h2:hasN bs m=true∧(W m).isSome=true
    ·rw [if_pos h2,if_pos ⟨hcons.2 (.inr h2.1),h2.2⟩]
    ·rw [if_neg h2,if_neg]
     rintro ⟨h3,h4⟩
     rcases hcons.1 h3 with h5 | h5
     ·subst h5
      exact hc ⟨h4,by rw [hm];rfl⟩
     ·exact h2 ⟨h5,h4⟩
theorem wantL_diff (W:Acts): ∀(bs:List ByteArray) (l:List Qq),(∀x∈l,∀y∈l,x.name=y.name->x=y)->∀x∈wantL W l bs,∀y∈wantL W l bs,x.name=y.name->x=y
 | [],_,h=> h
 | a :: bs,l,h=> by
  show∀x∈wantL W (if (W a).isSome=true∧(Qk l a).isNone=true then l++ [Qq.fresh a] else l) bs,∀y∈wantL W (if (W a).isSome=true∧(Qk l a).isNone=true then l++ [Qq.fresh a] else l) bs,_
  refine wantL_diff W bs _ ?_
  by_cases hc: (W a).isSome=true∧(Qk l a).isNone=true
  ·rw [if_pos hc]
   have hno: ∀x∈l,x.name≠a:=fun x hx e=> by
    have:= (env_iff h).2 ⟨hx,e⟩
    rw [this] at hc
    simp at hc
   intro x hx y hy e
   rcases List.mem_append.1 hx with hx | hx <;> rcases List.mem_append.1 hy with hy | hy
   ·exact h x hx y hy e
   ·rw [List.mem_singleton] at hy;subst hy;exact absurd e (hno x hx)
   ·rw [List.mem_singleton] at hx;subst hx;exact absurd e.symm (hno y hy)
   ·rw [List.mem_singleton] at hx hy;rw [hx,hy]
  ·rw [if_neg hc]
   exact h
def doL (W:Acts) (l:List Qq) (r:Qq):List Qq:= (wantL W (insX l (Yz W (Qk l) r).1) (Yz W (Qk l) r).2).foldl insX []
theorem doL_asc {W:Acts} {l:List Qq} {r:Qq} (h:AscX l):AscX (doL W l r):= (foldl_ins _ [] List.Pairwise.nil (wantL_diff W _ _ (asc_diff (insX_asc h)))).1
theorem doL_env {W:Acts} {l:List Qq} {n:ByteArray} {r:Qq} (h:AscX l) (hr:Qk l n=some r):Qk (doL W l r)=doX W (Qk l) n:=by
 funext m
 have hn:r.name=n:= (env_mem hr).2
 have hn2: (Yz W (Qk l) r).1.name=n:=by rw [nextOf_name];exact hn
 unfold doL
 rw [(foldl_ins _ [] List.Pairwise.nil (wantL_diff W _ _ (asc_diff (insX_asc h)))).2 m,wantL_env,insX_env h,doX_eq hr,hn2]
 by_cases e:m=n
 ·rw [if_pos e,if_pos e]
 ·rw [if_neg e,if_neg e]
  cases hm:Qk l m with
  | some x=> rfl
  | none=>
   simp only
   by_cases c:hasN (Yz W (Qk l) r).2 m=true∧(W m).isSome=true
   ·rw [if_pos c]
   ·rw [if_neg c]
    rfl
structure GoodL (Kk:List Qj) (l:List Qq):Prop where
 asc:AscX l
 good: ∀r∈l,r.Good Kk
theorem GoodL.env {Kk:List Qj} {l:List Qq} (h:GoodL Kk l):GoodEnv Kk (Qk l):=fun _n r hr=> ⟨(env_mem hr).2,h.good r (env_mem hr).1⟩
theorem fresh_good {Kk:List Qj} (hok:ActsOk (Qz Kk)) {a:ByteArray} (h: (Qz Kk a).isSome=true): (Qq.fresh a).Good Kk:=by
 obtain ⟨A,hA⟩:=Option.isSome_iff_exists.1 h
 have hA1:= (hok a A hA).1.2.1.1
 exact ⟨⟨A,hA,Int.le_refl _,by show (0:Int) < A.steps.length;omega⟩,Int.le_refl _,by show (0:Int)<=20;omega,by show ((([]:List ByteArray).length:Nat):Int)<=5 * 0;simp,fun t ht=> (by cases ht),by show (⟨#[]⟩:ByteArray).size<=200;decide,fun _ _ _ h=> absurd rfl h⟩
theorem doL_good {Kk:List Qj} (hok:ActsOk (Qz Kk)) {l:List Qq} {r:Qq} (h:GoodL Kk l) (hr:r∈l) (hc:CanGo (Qz Kk) (Qk l) r):GoodL Kk (doL (Qz Kk) l r):=by
 refine ⟨doL_asc h.asc,fun x hx=> ?_⟩
 have he:=asc_env h.asc hr
 have h1:=asc_env (doL_asc (W:=Qz Kk) (r:=r) h.asc) hx
 rw [doL_env h.asc he,doX_eq he] at h1
 by_cases e:x.name=r.name
 ·rw [if_pos e] at h1
  cases h1
  exact nextOf_good hok h.env (h.good r hr) hc
 ·rw [if_neg e] at h1
  cases hm:Qk l x.name with
  | some y=>
   rw [hm] at h1
   cases h1
   exact h.good x (env_mem hm).1
  | none=>
   rw [hm] at h1
   simp only at h1
   split at h1
   ·rename_i hc2
    have e2:Qq.fresh x.name=x:=Option.some.inj h1
    rw [<-e2]
    exact fresh_good hok hc2.2
   ·cases h1
inductive ReadyL (W:Acts) (σ:Env):List Qq->List ByteArray->Prop
 | nil:ReadyL W σ [] []
 | yes {l:List Qq} {ns:List ByteArray} {r:Qq} (h:ReadyL W σ l ns) (hr:CanGo W σ r):ReadyL W σ (l++ [r]) (ns++ [r.name])
 | no {l:List Qq} {ns:List ByteArray} {r:Qq} (h:ReadyL W σ l ns) (hr: ¬CanGo W σ r):ReadyL W σ (l++ [r]) ns
theorem ReadyL.mem {W:Acts} {σ:Env} {l:List Qq} {ns:List ByteArray} (h:ReadyL W σ l ns) (n:ByteArray):n∈ns↔∃r∈l,r.name=n∧CanGo W σ r:=by
 induction h with
 | nil=> simp
 | yes h hr ih=>
  rename_i l ns r
  rw [List.mem_append,ih,List.mem_singleton]
  constructor
  ·rintro (⟨x,h1,h2⟩ | rfl)
   ·exact ⟨x,List.mem_append.2 (.inl h1),h2⟩
   ·exact ⟨r,List.mem_append.2 (.inr (by simp)),rfl,hr⟩
  ·rintro ⟨x,h1,h2,h3⟩
   rcases List.mem_append.1 h1 with h1 | h1
   ·exact .inl ⟨x,h1,h2,h3⟩
   ·rw [List.mem_singleton] at h1
    subst h1
    exact .inr h2.symm
 | no h hr ih=>
  rename_i l ns r
  rw [ih]
  constructor
  ·rintro ⟨x,h1,h2⟩
   exact ⟨x,List.mem_append.2 (.inl h1),h2⟩
  ·rintro ⟨x,h1,h2,h3⟩
   rcases List.mem_append.1 h1 with h1 | h1
   ·exact ⟨x,h1,h2,h3⟩
   ·rw [List.mem_singleton] at h1
    subst h1
    exact absurd h3 hr
theorem ReadyL.nodup {W:Acts} {σ:Env} {l:List Qq} {ns:List ByteArray} (h:ReadyL W σ l ns) (ha:AscX l):ns.Nodup:=by
 induction h with
 | nil=> exact List.nodup_nil
 | yes h hr ih=>
  rename_i l ns r
  have ha':=List.pairwise_append.1 ha
  rw [List.nodup_append]
  refine ⟨ih ha'.1,by simp, ?_⟩
  intro a h1 b h2
  rw [List.mem_singleton] at h2
  subst h2
  obtain ⟨x,g1,rfl,_⟩:= (h.mem a).1 h1
  exact lessX_ne (ha'.2.2 x g1 r (by simp))
 | no h hr ih=> exact ih (List.pairwise_append.1 ha).1
theorem ReadyL.ready {W:Acts} {l:List Qq} {ns:List ByteArray} (h:ReadyL W (Qk l) l ns) (ha:AscX l) (n:ByteArray):n∈ns↔ReadyX W (Qk l) n:=by
 rw [h.mem]
 constructor
 ·rintro ⟨r,h1,rfl,h3⟩
  exact ⟨r,asc_env ha h1,h3⟩
 ·rintro ⟨r,h1,h2⟩
  obtain ⟨h3,h4⟩:=env_mem h1
  exact ⟨r,h3,h4,h2⟩
theorem ReadyL.len {W:Acts} {σ:Env} {l:List Qq} {ns:List ByteArray} (h:ReadyL W σ l ns):ns.length<=l.length:=by
 induction h with
 | nil=> exact Nat.le_refl _
 | yes _ _ ih=> simp only [List.length_append,List.length_singleton];omega
 | no _ _ ih=> simp only [List.length_append,List.length_singleton];omega
def startL (Kk:List Qj) (Q_:List ByteArray):List Qq:= (wantL (Qz Kk) [] Q_).foldl insX []
theorem startL_asc (Kk:List Qj) (Q_:List ByteArray):AscX (startL Kk Q_):= (foldl_ins _ [] List.Pairwise.nil (wantL_diff (Qz Kk) Q_ [] (fun _ h=> by cases h))).1
theorem startL_env (Kk:List Qj) (Q_:List ByteArray) (n:ByteArray):Qk (startL Kk Q_) n=if hasN Q_ n=true∧(Qz Kk n).isSome=true then some (Qq.fresh n) else none:=by
 unfold startL
 rw [(foldl_ins _ [] List.Pairwise.nil (wantL_diff (Qz Kk) Q_ [] (fun _ h=> by cases h))).2 n,wantL_env]
 show (match (if hasN Q_ n=true∧(Qz Kk n).isSome=true then some (Qq.fresh n) else none) with | some r=> some r | none=> Qk [] n)=_
 split
 ·rename_i r h;rw [h]
 ·rename_i h;rw [h];rfl
theorem startL_good {Kk:List Qj} (hok:ActsOk (Qz Kk)) (Q_:List ByteArray):GoodL Kk (startL Kk Q_):=by
 refine ⟨startL_asc Kk Q_,fun r hr=> ?_⟩
 have h1:=asc_env (startL_asc Kk Q_) hr
 rw [startL_env] at h1
 split at h1
 ·rename_i h2
  have e2:Qq.fresh r.name=r:=Option.some.inj h1
  rw [<-e2]
  exact fresh_good hok h2.2
 ·cases h1
theorem GoodL.wf {Kk:List Qj} {l:List Qq} (h:GoodL Kk l):WfX (Qz Kk) (Qk l):=fun n r hr=> by
 obtain ⟨h1,h2⟩:=env_mem hr
 have hg:=h.good r h1
 obtain ⟨A,hA,_⟩:=hg.act
 exact ⟨h2,by rw [<-h2,hA];rfl,hg.lo,hg.hi⟩
theorem acts_in {Kk:List Qj} {n:ByteArray} (h: (Qz Kk n).isSome=true):n∈Kk.map (·.name):=by
 obtain ⟨A,hA⟩:=Option.isSome_iff_exists.1 h
 obtain ⟨k,h1,h2,_⟩:=acts_first hA
 rw [List.mem_map]
 refine ⟨Kk.getD k Qj.zero, ?_,h2⟩
 simp only [List.getD,List.getElem?_eq_getElem h1,Option.getD_some]
 exact List.getElem_mem h1
def potL (Kk:List Qj) (l:List Qq):Nat:=potAll (Kk.map (·.name)) (Qk l)
theorem potL_do {Kk:List Qj} {l:List Qq} {n:ByteArray} {r:Qq} (h:GoodL Kk l) (hr:Qk l n=some r) (hc:CanGo (Qz Kk) (Qk l) r):potL Kk (doL (Qz Kk) l r) < potL Kk l:=by
 unfold potL
 rw [doL_env h.asc hr]
 exact (potAll_do h.wf ⟨r,hr,hc⟩ _).2 (acts_in (h.wf n r hr).web)
theorem asc_nodup {l:List Qq} (h:AscX l): (l.map (·.name)).Nodup:=by
 rw [List.Nodup,List.pairwise_map]
 exact h.imp fun hx=> lessX_ne hx
theorem GoodL.len {Kk:List Qj} {l:List Qq} (h:GoodL Kk l):l.length<=Kk.length:=by
 have h1:=List.Nodup.length_le_of_subset (asc_nodup h.asc) (l₂:=Kk.map (·.name)) (fun n hn=> by
  obtain ⟨r,hr,rfl⟩:=List.mem_map.1 hn
  exact acts_in (h.wf r.name r (asc_env h.asc hr)).web)
 simpa using h1
theorem ready_rest {W:Acts} {σ:Env} {ns:List ByteArray} (hn:ns.Nodup) {i:Nat} (hi:i < ns.length) (h: ∀j,i<=j->j < ns.length->ReadyX W σ (ns.getD j ByteArray.empty)): ∀j,i+1<=j->j < ns.length->ReadyX W (doX W σ (ns.getD i ByteArray.empty)) (ns.getD j ByteArray.empty):=by
 intro j hj hjl
 refine (doX_commutes σ _ _ ?_ (h i (Nat.le_refl _) hi) (h j (by omega) hjl)).1
 simp only [List.getD,List.getElem?_eq_getElem hi,List.getElem?_eq_getElem hjl,Option.getD_some]
 exact List.pairwise_iff_getElem.1 hn i j hi hjl (by omega)
def GoalX (Kk:List Qj) (Q_:List ByteArray) (sl:List Qq):Prop:=
 ∃k L,GoodL Kk L∧Leads (Behind (W:=Qz Kk) behindS (Qk sl)) (doX (Qz Kk)) (Qk (startL Kk Q_)) (Qk L) k∧AtEnd (Behind (W:=Qz Kk) behindS (Qk sl)) (Qk L)∧L=sl
theorem goalX_iff {Kk:List Qj} {Q_:List ByteArray} {sl L:List Qq} {k:Nat} (hg:GoodL Kk L) (hl:Leads (Behind (W:=Qz Kk) behindS (Qk sl)) (doX (Qz Kk)) (Qk (startL Kk Q_)) (Qk L) k) (he:AtEnd (Behind (W:=Qz Kk) behindS (Qk sl)) (Qk L)):L=sl↔GoalX Kk Q_ sl:=by
 constructor
 ·intro h
  exact ⟨k,L,hg,hl,he,h⟩
 ·rintro ⟨k',L',hg',hl',he',rfl⟩
  exact asc_eq hg.asc hg'.asc (Leads.unique (behind_commutes _ _) hl he hl' he')
structure RoundX (Kk:List Qj) (G:Env) (σ0:Env) (ns:List ByteArray) (l0 l:List Qq) (i:Nat) (b:Bool):Prop where
 good:GoodL Kk l
 led: ∃k,Leads (Behind (W:=Qz Kk) behindS G) (doX (Qz Kk)) σ0 (Qk l) k
 rest: ∀j,i<=j->j < ns.length->ReadyX (Qz Kk) (Qk l) (ns.getD j ByteArray.empty)
 no:b=false->l=l0∧∀j,j < i->¬Behind (W:=Qz Kk) behindS G (Qk l0) (ns.getD j ByteArray.empty)
 yes:b=true->potL Kk l < potL Kk l0
theorem RoundX.start {Kk:List Qj} {G σ0:Env} {ns:List ByteArray} {l0:List Qq} (hg:GoodL Kk l0) (hl: ∃k,Leads (Behind (W:=Qz Kk) behindS G) (doX (Qz Kk)) σ0 (Qk l0) k) (hr:ReadyL (Qz Kk) (Qk l0) l0 ns):RoundX Kk G σ0 ns l0 l0 0 false:=
 ⟨hg,hl,fun j _ hj=> by
  rw [<-hr.ready hg.asc]
  simp only [List.getD,List.getElem?_eq_getElem hj,Option.getD_some]
  exact List.getElem_mem hj,fun _=> ⟨rfl,fun j hj=> absurd hj (Nat.not_lt_zero _)⟩,fun h=> by cases h⟩
theorem RoundX.skip {Kk:List Qj} {G σ0:Env} {ns:List ByteArray} {l0 l:List Qq} {i:Nat} {b:Bool} (h:RoundX Kk G σ0 ns l0 l i b) (hn: ¬Behind (W:=Qz Kk) behindS G (Qk l) (ns.getD i ByteArray.empty)):RoundX Kk G σ0 ns l0 l (i+1) b:=
 ⟨h.good,h.led,fun j hj hjl=> h.rest j (by omega) hjl,fun hb=> ⟨(h.no hb).1,fun j hj=> by
  by_cases e:j=i
  ·subst e
   rw [<-(h.no hb).1]
   exact hn
  ·exact (h.no hb).2 j (by omega)⟩,h.yes⟩
theorem RoundX.did {Kk:List Qj} (hok:ActsOk (Qz Kk)) {G σ0:Env} {ns:List ByteArray} (hnd:ns.Nodup) {l0 l:List Qq} {i:Nat} {b:Bool} (h:RoundX Kk G σ0 ns l0 l i b) (hi:i < ns.length) (hn:Behind (W:=Qz Kk) behindS G (Qk l) (ns.getD i ByteArray.empty)) {r:Qq} (hr:Qk l (ns.getD i ByteArray.empty)=some r):RoundX Kk G σ0 ns l0 (doL (Qz Kk) l r) (i+1) true:=by
 obtain ⟨k,hk⟩:=h.led
 obtain ⟨⟨r',hr',hc⟩,_⟩:=hn
 have hn:Behind (W:=Qz Kk) behindS G (Qk l) (ns.getD i ByteArray.empty):= ⟨⟨r',hr',hc⟩,by assumption⟩
 rw [hr] at hr'
 cases hr'
 have he:=doL_env (W:=Qz Kk) h.good.asc hr
 have hp:=potL_do h.good hr hc
 refine ⟨doL_good hok h.good (env_mem hr).1 hc,⟨k+1,by rw [he];exact hk.snoc hn⟩,fun j hj hjl=> by rw [he];exact ready_rest hnd hi h.rest j hj hjl,fun hb=> (by cases hb),fun _=> ?_⟩
 cases b with
 | true=> have:=h.yes rfl;omega
 | false=> rw [(h.no rfl).1] at hp⊢;exact hp
theorem RoundX.atEnd {Kk:List Qj} {G σ0:Env} {ns:List ByteArray} {l0 l:List Qq} (hg:GoodL Kk l0) (hr:ReadyL (Qz Kk) (Qk l0) l0 ns) (h:RoundX Kk G σ0 ns l0 l ns.length false):l=l0∧AtEnd (Behind (W:=Qz Kk) behindS G) (Qk l):=by
 obtain ⟨h1,h2⟩:=h.no rfl
 refine ⟨h1,fun n hn=> ?_⟩
 rw [h1] at hn
 have hm:= (hr.ready hg.asc n).2 hn.1
 obtain ⟨j,hj,e⟩:=List.getElem_of_mem hm
 have:=h2 j hj
 simp only [List.getD,List.getElem?_eq_getElem hj,Option.getD_some,e] at this
 exact this hn
section
variable {W : Acts}
def pend (W:Acts) (σ:Env) (r:Qq):List ByteArray:=
 if r.over=true∨r.Zk=0 then [] else
 match W r.name with
 | none=> []
 | some A=> (stepOf A r.at').asks.filter fun a=> (ansOf W σ a).isNone
theorem answers_some {σ:Env}: ∀{l:List ByteArray},(∃xs,Yj W σ l=some xs)↔∀a∈l,(ansOf W σ a).isSome=true
 | []=> ⟨fun _ _ h=> (by cases h),fun _=> ⟨[],rfl⟩⟩
 | a :: l=> by
  constructor
  ·rintro ⟨xs,h⟩ b hb
   unfold Yj at h
   cases ha:ansOf W σ a with
   | none=> rw [ha] at h;cases h
   | some x=>
    rw [ha] at h
    simp only at h
    cases hl:Yj W σ l with
    | none=> rw [hl] at h;cases h
    | some ys=>
     rcases List.mem_cons.1 hb with rfl | hb
     ·rw [ha];rfl
     ·exact answers_some.1 ⟨ys,hl⟩ b hb
  ·intro h
   obtain ⟨ys,hl⟩:=answers_some.2 (fun b hb=> h b (List.mem_cons_of_mem _ hb))
   obtain ⟨x,hx⟩:=Option.isSome_iff_exists.1 (h a (by simp))
   exact ⟨x :: ys,by unfold Yj;rw [hx,hl]⟩
theorem canGo_iff {σ:Env} {r:Qq} (hw: (W r.name).isSome=true):CanGo W σ r↔r.over=false∧pend W σ r=[]:=by
 obtain ⟨A,hA⟩:=Option.isSome_iff_exists.1 hw
 unfold CanGo pend
 constructor
 ·rintro ⟨h1,h2⟩
  refine ⟨h1, ?_⟩
  rcases h2 with h2 | ⟨A',xs,hA',hx⟩
  ·rw [if_pos (.inr h2)]
  ·by_cases h0:r.Zk=0
   ·rw [if_pos (.inr h0)]
   ·rw [if_neg (by rw [h1];simp [h0]),hA]
    simp only
    rw [hA] at hA'
    cases hA'
    rw [List.filter_eq_nil_iff]
    intro a ha
    have:=answers_some.1 ⟨xs,hx⟩ a ha
    cases hn:ansOf W σ a with
    | none=> rw [hn] at this;cases this
    | some x=> simp
 ·rintro ⟨h1,h2⟩
  refine ⟨h1, ?_⟩
  by_cases h0:r.Zk=0
  ·exact .inl h0
  ·right
   rw [if_neg (by rw [h1];simp [h0]),hA] at h2
   simp only at h2
   rw [List.filter_eq_nil_iff] at h2
   obtain ⟨xs,hx⟩:= (answers_some (l:= (stepOf A r.at').asks) (W:=W) (σ:=σ)).2 (fun a ha=> by
    have:=h2 a ha
    cases hn:ansOf W σ a with
    | none=> rw [hn] at this;simp at this
    | some x=> rfl)
   exact ⟨A,xs,hA,hx⟩
theorem ans_do {σ:Env} {n:ByteArray} {r:Qq} (hr:σ n=some r) (_hc:r.over=false) (a:ByteArray):ansOf W (doX W σ n) a=if a=n∧(W n).isSome=true then (if (Yz W σ r).1.over=true then some ⟨(Yz W σ r).1.fail,(Yz W σ r).1.text⟩ else none) else ansOf W σ a:=by
 unfold ansOf
 cases hw:W a with
 | none=>
  have: ¬(a=n∧(W n).isSome=true):=by rintro ⟨rfl,h⟩;rw [hw] at h;cases h
  rw [if_neg this]
 | some A=>
  simp only
  by_cases e:a=n
  ·subst e
   rw [if_pos ⟨rfl,by rw [hw];rfl⟩,doX_here hr]
  ·rw [if_neg (by rintro ⟨h,_⟩;exact e h),doX_eq hr,if_neg e]
   cases hs:σ a with
   | some x=> rfl
   | none=>
    simp only
    split
    ·rename_i x hx
     split at hx
     ·cases hx;rfl
     ·cases hx
    ·rfl
theorem pend_do {σ:Env} {n:ByteArray} {r x:Qq} (hr:σ n=some r) (hc:r.over=false) (hw: (W n).isSome=true):pend W (doX W σ n) x=if (Yz W σ r).1.over=true then (pend W σ x).filter (fun a=> !decide (a=n)) else pend W σ x:=by
 unfold pend
 by_cases h0:x.over=true∨x.Zk=0
 ·rw [if_pos h0,if_pos h0]
  split <;> rfl
 ·rw [if_neg h0,if_neg h0]
  cases hA:W x.name with
  | none=> simp only;split <;> rfl
  | some A=>
   simp only
   have hn:ansOf W σ n=none:=by
    unfold ansOf
    obtain ⟨B,hB⟩:=Option.isSome_iff_exists.1 hw
    rw [hB,hr]
    simp [hc]
   by_cases ho: (Yz W σ r).1.over=true
   ·rw [if_pos ho,List.filter_filter]
    congr 1
    funext a
    rw [ans_do hr hc]
    by_cases e:a=n
    ·rw [if_pos ⟨e,hw⟩,if_pos ho];simp [e]
    ·rw [if_neg (by rintro ⟨h,_⟩;exact e h)];simp [e]
   ·rw [if_neg ho]
    congr 1
    funext a
    rw [ans_do hr hc]
    by_cases e:a=n
    ·rw [if_pos ⟨e,hw⟩,if_neg ho,e,hn]
    ·rw [if_neg (by rintro ⟨h,_⟩;exact e h)]
theorem pend_fresh (σ:Env) (n:ByteArray):pend W σ (Qq.fresh n)=[]:=by
 unfold pend
 rw [if_pos (.inr rfl)]
theorem pend_nodup {σ:Env} {r:Qq} (hok:ActsOk W) {A:ActionD} (hA:W r.name=some A) (h0:0<=r.at') (h1:r.at' < A.steps.length): (pend W σ r).Nodup:=by
 unfold pend
 split
 ·exact List.nodup_nil
 ·rw [hA]
  simp only
  refine List.Pairwise.filter _ ?_
  have hst:= (hok _ _ hA).1.2.2 r.at'.toNat (by omega)
  have e:A.steps.getD r.at'.toNat Xk.zero=stepOf A r.at':=rfl
  rw [e] at hst
  cases hf: (stepOf A r.at').fin with
  | true=>
   have:= (hst.1 hf).1
   rw [List.length_eq_zero_iff.1 this]
   exact List.Pairwise.nil
  | false=>
   have hn:= (hst.2 hf).1.2.2.2.1
   rw [List.pairwise_iff_getElem]
   intro i j hi hj hij e
   have:= (hn j hj).2 i hij
   simp only [List.getD,List.getElem?_eq_getElem hi,List.getElem?_eq_getElem hj,Option.getD_some] at this
   exact this e
end
section
variable {W : Acts}
def againN (W:Acts) (σ:Env) (n:ByteArray):Nat->Qq×List ByteArray
 | 0=> (Qq.fresh n,[])
 | k+1=> ((Yz W σ (againN W σ n k).1).1,(againN W σ n k).2++ (Yz W σ (againN W σ n k).1).2)
def Traj (W:Acts) (σ:Env) (r:Qq) (L:List ByteArray):Prop:= ∃k,againN W σ r.name k= (r,L)∧∀j,j < k->CanGo W σ (againN W σ r.name j).1
theorem Traj.start {σ:Env} (n:ByteArray):Traj W σ (Qq.fresh n) []:= ⟨0,rfl,fun _ h=> absurd h (Nat.not_lt_zero _)⟩
theorem Traj.unit {σ:Env} {r:Qq} {L:List ByteArray} (h:Traj W σ r L) (hc:CanGo W σ r):Traj W σ (Yz W σ r).1 (L++ (Yz W σ r).2):=by
 obtain ⟨k,h1,h2⟩:=h
 refine ⟨k+1, ?_,fun j hj=> ?_⟩
 ·rw [nextOf_name]
  unfold againN
  rw [h1]
 ·rw [nextOf_name]
  rcases Nat.lt_or_ge j k with g | g
  ·exact h2 j g
  ·have:j=k:=by omega
   subst this
   rw [h1]
   exact hc
theorem againN_mono {σ:Env} {n m:ByteArray} (hr:ReadyX W σ m): ∀{k:Nat},(∀j,j < k->CanGo W σ (againN W σ n j).1)->againN W (doX W σ m) n k=againN W σ n k
 | 0,_=> rfl
 | k+1,h=> by
  have ih:=againN_mono (k:=k) hr (fun j hj=> h j (by omega))
  have:=nextOf_mono hr (h k (by omega))
  unfold againN
  rw [ih,this]
theorem Traj.mono {σ:Env} {m:ByteArray} {r:Qq} {L:List ByteArray} (h:Traj W σ r L) (hr:ReadyX W σ m):Traj W (doX W σ m) r L:=by
 obtain ⟨k,h1,h2⟩:=h
 refine ⟨k,by rw [againN_mono hr h2];exact h1,fun j hj=> ?_⟩
 rw [againN_mono hr (fun i hi=> h2 i (by omega))]
 exact (h2 j hj).mono hr
end
structure KnownX (w:World) (kb:Nat) (a:Option Addr) (n cap:Nat) (d:Option Addr) (m dc:Nat):Prop where
 row:RowT w kb 81 2
 web:w.cell? ⟨kb,0,none⟩=some (.slice a n cap)
 runs:w.cell? ⟨kb,1,none⟩=some (.slice d m dc)
theorem KnownX.kept {w w':World} {kb n cap m dc:Nat} {a d:Option Addr} (h:KnownX w kb a n cap d m dc) (k:K_ w w'):KnownX w' kb a n cap d m dc:=
 ⟨h.row.kept k,(k.cell h.row.lt).trans h.web,(k.cell h.row.lt).trans h.runs⟩
theorem l2At_place (w:World) (a:Option Addr) (cap:Nat) (l:List Qj) (key:ByteArray) (hl:l.length<=1048576) (hS:Nodes w a l):
  Calls Tryz.prog 44 #[.agg #[.slice a l.length cap],.string key] w fun e w'=> (∃r,e= .returned (.int .i64 r)∧PlaceN l key r)∧K_ w w':=by
 have k0:K_ w (w.alloc (.cells #[.slice a l.length cap] 37)):= (K_.refl _).alloc _
 go_enter Tryz.func44,Tryz.ntmps44
 go_wp2
 go_loop [5] (fun i=> ∃k:Nat,k<=l.length∧i= .int .i64 k∧Hid (∀j,j < k->(l.getD j Qj.zero).name≠key)) (fun i=> l.length - (intOf i).toNat)
 case atStart=> exact ⟨0,Nat.zero_le _,rfl,Kj fun j hj=> absurd hj (Nat.not_lt_zero _)⟩
 case round=>
  obtain ⟨k,hk,rfl,HG⟩:=hrel
  by_cases hlt:k < l.length
  ·obtain ⟨b,o,cs,rfl,hb,hc,aa,ca,rfl,hA⟩:= (hS.kept k0) k hlt
   obtain ⟨d,hd⟩: ∃d,d=l.getD k Qj.zero:= ⟨_,rfl⟩
   rw [<-hd] at hc
   have c0:=hc 0 _ rfl
   rw [Nat.add_zero] at c0
   have HD:=Kj hd
   clear hc hd hA
   cases hne: (d.name.toList == key.toList)
   ·go_wp2
    go_round
    case rel=>
     refine ⟨k+1,by omega,by go_num,Kj fun j hj=> ?_⟩
     by_cases e:j=k
     ·rw [e,<-HD.out];exact beq_no hne
     ·exact HG.out j (by omega)
    case measure=> simp [intOf];omega
   ·go_wp2
    go_ret
    exact ⟨⟨k,rfl,.inl ⟨k,hlt,rfl,acts_at hlt (by rw [<-HD.out];exact beq_yes hne) HG.out,(by rw [<-HD.out];exact beq_yes hne),HG.out⟩⟩,k0⟩
  ·go_wp2
   go_ret
   exact ⟨⟨-1,rfl,.inr ⟨rfl,acts_none fun j hj=> HG.out j (by omega)⟩⟩,k0⟩
theorem findX (w:World) (kb:Nat) (a:Option Addr) (n cap:Nat) (d:Option Addr) (dc:Nat) (l:List Qq) (key:ByteArray) (hl:l.length<=1048576) (hK:KnownX w kb a n cap d l.length dc) (hS:RunsX w d l):
  Calls Tryz.prog 87 #[.pointer (some ⟨kb,0,none⟩),.string key] w fun e w'=> (∃r,e= .returned (.int .i64 r)∧PlaceX l key r)∧w'=w:=by
 have c1:=hK.runs
 have hb:=hK.row.lt
 go_enter Tryz.func87,Tryz.ntmps87
 go_wp2
 go_loop [5] (fun i=> ∃k:Nat,k<=l.length∧i= .int .i64 k∧Hid (∀j,j < k->(l.getD j Qq.zero).name≠key)) (fun i=> l.length - (intOf i).toNat)
 case atStart=> exact ⟨0,Nat.zero_le _,rfl,Kj fun j hj=> absurd hj (Nat.not_lt_zero _)⟩
 case round=>
  obtain ⟨k,hk,rfl,HG⟩:=hrel
  by_cases hlt:k < l.length
  ·obtain ⟨b,o,xa,xc,rfl,hb',hc,_,_⟩:=hS k hlt
   obtain ⟨y,hy⟩: ∃y,y=l.getD k Qq.zero:= ⟨_,rfl⟩
   rw [<-hy] at hc
   have c0:=hc 0 _ rfl
   rw [Nat.add_zero] at c0
   have HD:=Kj hy
   clear hc hy
   cases hne: (y.name.toList == key.toList)
   ·go_wp2
    go_round
    case rel=>
     refine ⟨k+1,by omega,by go_num,Kj fun j hj=> ?_⟩
     by_cases e:j=k
     ·rw [e,<-HD.out];exact beq_no hne
     ·exact HG.out j (by omega)
    case measure=> simp [intOf];omega
   ·go_wp2
    go_ret
    exact ⟨⟨k,rfl,.inl ⟨k,hlt,rfl,env_at hlt (by rw [<-HD.out];exact beq_yes hne) HG.out,by rw [<-HD.out];exact beq_yes hne⟩⟩,rfl⟩
  ·go_wp2
   go_ret
   exact ⟨⟨-1,rfl,.inr ⟨rfl,env_none fun j hj=> HG.out j (by omega)⟩⟩,rfl⟩
theorem l4At_place (w:World) (ra:Option Addr) (rn rc:Nat) (d:Option Addr) (dc:Nat) (l:List Qq) (key:ByteArray) (hl:l.length<=1048576) (hS:RunsX w d l):
  Calls Tryz.prog 58 #[.agg #[.slice ra rn rc,.slice d l.length dc],.string key] w fun e w'=> (∃r,e= .returned (.int .i64 r)∧PlaceX l key r)∧K_ w w':=by
 have k0:K_ w (w.alloc (.cells #[.slice ra rn rc,.slice d l.length dc] 41)):= (K_.refl _).alloc _
 go_enter Tryz.func58,Tryz.ntmps58
 go_wp2
 go_loop [5] (fun i=> ∃k:Nat,k<=l.length∧i= .int .i64 k∧Hid (∀j,j < k->(l.getD j Qq.zero).name≠key)) (fun i=> l.length - (intOf i).toNat)
 case atStart=> exact ⟨0,Nat.zero_le _,rfl,Kj fun j hj=> absurd hj (Nat.not_lt_zero _)⟩
 case round=>
  obtain ⟨k,hk,rfl,HG⟩:=hrel
  by_cases hlt:k < l.length
  ·obtain ⟨b,o,xa,xc,rfl,hb',hc,_,_⟩:= (hS.kept k0) k hlt
   obtain ⟨y,hy⟩: ∃y,y=l.getD k Qq.zero:= ⟨_,rfl⟩
   rw [<-hy] at hc
   have c0:=hc 0 _ rfl
   rw [Nat.add_zero] at c0
   have HD:=Kj hy
   clear hc hy
   cases hne: (y.name.toList == key.toList)
   ·go_wp2
    go_round
    case rel=>
     refine ⟨k+1,by omega,by go_num,Kj fun j hj=> ?_⟩
     by_cases e:j=k
     ·rw [e,<-HD.out];exact beq_no hne
     ·exact HG.out j (by omega)
    case measure=> simp [intOf];omega
   ·go_wp2
    go_ret
    exact ⟨⟨k,rfl,.inl ⟨k,hlt,rfl,env_at hlt (by rw [<-HD.out];exact beq_yes hne) HG.out,by rw [<-HD.out];exact beq_yes hne⟩⟩,k0⟩
  ·go_wp2
   go_ret
   exact ⟨⟨-1,rfl,.inr ⟨rfl,env_none fun j hj=> HG.out j (by omega)⟩⟩,k0⟩
def putA (r:Qq) (p:List Qq×Bool) (x:Qq):List Qq×Bool:=if p.2=false∧Op.bytesLess x.name.toList r.name.toList=false then (p.1++ [r],true) else p
def putB (r:Qq) (p:List Qq×Bool) (x:Qq):List Qq×Bool:=if (x.name.toList == r.name.toList)=true then p else (p.1++ [x],p.2)
def putR (r:Qq) (p:List Qq×Bool) (x:Qq):List Qq×Bool:=putB r (putA r p x) x
def putK (l:List Qq) (r:Qq) (k:Nat):List Qq×Bool:= (l.take k).foldl (putR r) ([],false)
theorem putK_zero (l:List Qq) (r:Qq):putK l r 0= ([],false):=rfl
theorem putK_succ {l:List Qq} {r:Qq} {k:Nat} (h:k < l.length):putK l r (k+1)=putR r (putK l r k) (l.getD k Qq.zero):=by
 unfold putK
 rw [List.take_succ_eq_append_getElem h,List.foldl_append]
 simp [List.getD,h]
theorem putR_len (r:Qq) (p:List Qq×Bool) (x:Qq): (putR r p x).1.length+ (if (putR r p x).2=true then 0 else 1)<=p.1.length+ (if p.2=true then 0 else 1)+1:=by
 unfold putR putB putA
 obtain ⟨o,d⟩:=p
 cases d <;> cases Op.bytesLess x.name.toList r.name.toList <;> cases (x.name.toList == r.name.toList) <;> simp <;> omega
theorem putK_len {l:List Qq} {r:Qq}: ∀{k:Nat},k<=l.length->(putK l r k).1.length+ (if (putK l r k).2=true then 0 else 1)<=k+1
 | 0,_=> by rw [putK_zero];simp
 | k+1,h=> by
  have h1:=putK_len (l:=l) (r:=r) (k:=k) (by omega)
  have h2:=putR_len r (putK l r k) (l.getD k Qq.zero)
  rw [putK_succ (by omega)]
  omega
def putEnd (r:Qq) (p:List Qq×Bool):List Qq:=if p.2=true then p.1 else p.1++ [r]
theorem put_done (r:Qq): ∀(l acc:List Qq),l.foldl (putR r) (acc,true)= (acc++l.filter (fun x=> !(x.name.toList == r.name.toList)),true)
 | [],acc=> by simp
 | x :: l,acc=> by
  rw [List.foldl_cons]
  have e:putR r (acc,true) x= (acc++ (if (x.name.toList == r.name.toList)=true then [] else [x]),true):=by
   unfold putR putB putA
   cases (x.name.toList == r.name.toList) <;> simp
  rw [e,put_done r l]
  cases h: (x.name.toList == r.name.toList) <;> simp [h]
theorem put_fold (r:Qq): ∀(l acc:List Qq),AscX l->putEnd r (l.foldl (putR r) (acc,false))=acc++insX l r
 | [],acc,_=> by simp [putEnd,insX]
 | x :: l,acc,h=> by
  have h':=h
  rw [AscX,List.pairwise_cons] at h'
  rw [List.foldl_cons]
  cases hx:Op.bytesLess x.name.toList r.name.toList with
  | true=>
   have hne: (x.name.toList == r.name.toList)=false:=by
    rw [beq_eq_false_iff_ne]
    intro e
    exact lessX_ne (a:=x.name) (b:=r.name) hx (toList_inj.1 e)
   have hgt:Op.bytesLess r.name.toList x.name.toList=false:=by
    cases hg:Op.bytesLess r.name.toList x.name.toList with
    | false=> rfl
    | true=> exact absurd hg (lessX_asymm (a:=x.name) (b:=r.name) hx)
   have e:putR r (acc,false) x= (acc++ [x],false):=by simp [putR,putB,putA,hx,hne]
   rw [e,put_fold r l _ h'.2]
   simp [insX,hx,hgt]
  | false=>
   have hge: ∀y∈x :: l,Op.bytesLess y.name.toList r.name.toList=false:=by
    intro y hy
    rcases List.mem_cons.1 hy with rfl | hy
    ·exact hx
    ·cases hg:Op.bytesLess y.name.toList r.name.toList with
     | false=> rfl
     | true=>
      have:=lessX_trans (h'.1 y hy) (show lessX y.name r.name from hg)
      unfold lessX at this
      rw [hx] at this
      cases this
   have f1: (x :: l).filter (fun y=> Op.bytesLess y.name.toList r.name.toList)=[]:=by
    rw [List.filter_eq_nil_iff]
    intro y hy
    rw [hge y hy]
    simp
   have f2: (x :: l).filter (fun y=> Op.bytesLess r.name.toList y.name.toList)= (x :: l).filter (fun y=> !(y.name.toList == r.name.toList)):=by
    refine List.filter_congr fun y hy=> ?_
    rcases lessX_total r.name y.name with h3 | h3 | h3
    ·have e2: (y.name.toList == r.name.toList)=false:=by
      rw [beq_eq_false_iff_ne]
      intro e
      exact lessX_ne h3 (toList_inj.1 e).symm
     unfold lessX at h3
     rw [h3,e2]
     rfl
    ·rw [h3,less_irrefl]
     simp
    ·unfold lessX at h3
     rw [hge y hy] at h3
     cases h3
   have e:putR r (acc,false) x= (acc++ [r]++ (if (x.name.toList == r.name.toList)=true then [] else [x]),true):=by
    unfold putR putB putA
    cases (x.name.toList == r.name.toList) <;> simp [hx]
   rw [e,put_done]
   unfold putEnd insX
   rw [f1,f2]
   cases h: (x.name.toList == r.name.toList) <;> simp [h]
theorem put_end {l:List Qq} {r:Qq} (h:AscX l):putEnd r (putK l r l.length)=insX l r:=by
 unfold putK
 rw [List.take_length,put_fold r l [] h,List.nil_append]
section
variable {Kk : List Qj} {Gl σ0 σs σ : Env} {ns : List ByteArray} {i : Nat} {b : Bool}
structure PassX (Kk:List Qj) (Gl σ0 σs:Env) (ns:List ByteArray) (σ:Env) (i:Nat) (b:Bool):Prop where
 led: ∃k,Leads (Behind (W:=Qz Kk) behindI Gl) (doX (Qz Kk)) σ0 σ k
 no:b=false->σ=σs∧∀j,j < i->¬Behind (W:=Qz Kk) behindI Gl σs (ns.getD j ByteArray.empty)
 yes:b=true->potAll (Kk.map (·.name)) σ < potAll (Kk.map (·.name)) σs
theorem PassX.start (hl: ∃k,Leads (Behind (W:=Qz Kk) behindI Gl) (doX (Qz Kk)) σ0 σs k):PassX Kk Gl σ0 σs ns σs 0 false:=
 ⟨hl,fun _=> ⟨rfl,fun j hj=> absurd hj (Nat.not_lt_zero _)⟩,fun h=> by cases h⟩
theorem PassX.skip (h:PassX Kk Gl σ0 σs ns σ i b) (hn: ¬Behind (W:=Qz Kk) behindI Gl σ (ns.getD i ByteArray.empty)):PassX Kk Gl σ0 σs ns σ (i+1) b:=
 ⟨h.led,fun hb=> ⟨(h.no hb).1,fun j hj=> by
  by_cases e:j=i
  ·subst e
   rw [<-(h.no hb).1]
   exact hn
  ·exact (h.no hb).2 j (by omega)⟩,h.yes⟩
theorem PassX.did (hw:WfX (Qz Kk) σ) (h:PassX Kk Gl σ0 σs ns σ i b) {n:ByteArray} (hn:Behind (W:=Qz Kk) behindI Gl σ n):PassX Kk Gl σ0 σs ns (doX (Qz Kk) σ n) (i+1) true:=by
 obtain ⟨k,hk⟩:=h.led
 obtain ⟨r,hr,_⟩:=hn.1
 have hp:= (potAll_do hw hn.1 (Kk.map (·.name))).2 (acts_in (hw n r hr).web)
 refine ⟨⟨k+1,hk.snoc hn⟩,fun hb=> (by cases hb),fun _=> ?_⟩
 cases b with
 | true=> have:=h.yes rfl;omega
 | false=> rw [(h.no rfl).1] at hp⊢;exact hp
theorem PassX.atEnd (h:PassX Kk Gl σ0 σs ns σ ns.length false) (hns: ∀n r,σs n=some r->n∈ns):AtEnd (Behind (W:=Qz Kk) behindI Gl) σ:=by
 obtain ⟨h1,h2⟩:=h.no rfl
 intro n hn
 rw [h1] at hn
 obtain ⟨r,hr,_⟩:=hn.1
 obtain ⟨j,hj,e⟩:=List.getElem_of_mem (hns n r hr)
 have:=h2 j hj
 simp only [List.getD,List.getElem?_eq_getElem hj,Option.getD_some,e] at this
 exact this hn
end
def RunInX (w:World) (B j lo hi:Nat) (r:Qq):Prop:=
 ∃xa xc,w.rangeAt B (j * 7) (r.cells xa xc)∧StrsIn w lo hi xa r.texts∧(xa=none->xc=0)
theorem RunInX.same {w w':World} {B j lo hi:Nat} {r:Qq} (h:RunInX w B j lo hi r) (k:Same lo hi w w') (hB:w'.rangeAt B (j * 7)=w.rangeAt B (j * 7)):RunInX w' B j lo hi r:=by
 obtain ⟨xa,xc,h1,h2,h3⟩:=h
 exact ⟨xa,xc,by rw [hB];exact h1,h2.same k,h3⟩
def RunsInX (w:World) (lo hi:Nat) (a:Option Addr) (l:List Qq):Prop:=
 l=[]∨∃(b:Nat) (c:Nat->Nat),a=some ⟨b,0,none⟩∧lo<=b∧b < c 0∧c l.length<=hi∧Row w b (l.length * 7)∧(∀i j,i<=j->c i<=c j)∧∀i,i < l.length->RunInX w b i (c i) (c (i+1)) (l.getD i Qq.zero)
theorem RunsInX.same {w w':World} {lo hi:Nat} {a:Option Addr} {l:List Qq} (h:RunsInX w lo hi a l) (k:Same lo hi w w'):RunsInX w' lo hi a l:=by
 rcases h with h | ⟨b,c,ha,h1,h2,h3,hr,hm,hc⟩
 ·exact .inl h
 ·have hbh:b < hi:=Nat.lt_of_lt_of_le h2 (Nat.le_trans (hm 0 _ (Nat.zero_le _)) h3)
  refine .inr ⟨b,c,ha,h1,h2,h3,k.row h1 hbh hr,hm,fun i hi'=> (hc i hi').same (k.mono ?_ ?_) (rangeAt_of_block (k b h1 hbh hr.lt) _)⟩
  ·have:=hm 0 i (Nat.zero_le _);omega
  ·have:=hm (i+1) l.length (by omega);omega
theorem RunsInX.mono {w:World} {lo hi lo' hi':Nat} {a:Option Addr} {l:List Qq} (h:RunsInX w lo hi a l) (h1:lo'<=lo) (h2:hi<=hi'):RunsInX w lo' hi' a l:=by
 rcases h with h | ⟨b,c,ha,g1,g2,g3,hr,hm,hc⟩
 ·exact .inl h
 ·exact .inr ⟨b,c,ha,by omega,g2,by omega,hr,hm,hc⟩
theorem RunsInX.runs {w:World} {lo hi:Nat} {a:Option Addr} {l:List Qq} (h:RunsInX w lo hi a l):RunsX w a l:=by
 rcases h with rfl | ⟨b,c,ha,h1,h2,h3,hr,hm,hc⟩
 ·intro i hi
  simp at hi
 ·intro i hi
  obtain ⟨xa,xc,g1,g2,g3⟩:=hc i hi
  exact ⟨b,0,xa,xc,ha,hr.lt,by rw [Nat.zero_add];exact g1,g2.strs,g3⟩
def cntRun (r:Qq):Nat:=6+r.texts.length
def markRunX (r:Qq) (k:Nat):Qq:= ⟨mtext k,decide ((k+1) % 3=0),decide ((k+2) % 3=0),mtext (k+3),((k+4:Nat):Int),((k+5:Nat):Int),markStrs r.texts (k+6)⟩
def markRunsX (l:List Qq) (k:Nat):List Qq:=l.mapIdx fun i r=> markRunX r (k+sumTo cntRun l i)
theorem markRunsX_length (l:List Qq) (k:Nat): (markRunsX l k).length=l.length:=by simp [markRunsX]
theorem markRunsX_getD (l:List Qq) (k i:Nat) (h:i < l.length): (markRunsX l k).getD i Qq.zero=markRunX (l.getD i Qq.zero) (k+sumTo cntRun l i):=by simp [markRunsX,List.getD,h]
def runMixX (l:List Qq) (k j t:Nat):Qq:=if t < j then markRunX (l.getD t Qq.zero) (k+sumTo cntRun l t) else l.getD t Qq.zero
theorem len_le_runs (l:List Qq):l.length<=(l.map cntRun).sum:=by
 induction l with
 | nil=> simp
 | cons s r ih=>
  simp only [List.length_cons,List.map_cons,List.sum_cons]
  have:6<=cntRun s:=by unfold cntRun;omega
  omega
theorem range7x {w:World} {b o:Nat} {x0 x1 x2 x3 x4 x5 x6:Value} (h0:w.cell? ⟨b,o,none⟩=some x0) (h1:w.cell? ⟨b,o+1,none⟩=some x1) (h2:w.cell? ⟨b,o+2,none⟩=some x2) (h3:w.cell? ⟨b,o+3,none⟩=some x3)
  (h4:w.cell? ⟨b,o+4,none⟩=some x4) (h5:w.cell? ⟨b,o+5,none⟩=some x5) (h6:w.cell? ⟨b,o+6,none⟩=some x6):w.rangeAt b o [x0,x1,x2,x3,x4,x5,x6]:=by
 intro i v hv
 match i,hv with
 | 0,hv=> simp at hv;subst hv;exact h0
 | 1,hv=> simp at hv;subst hv;exact h1
 | 2,hv=> simp at hv;subst hv;exact h2
 | 3,hv=> simp at hv;subst hv;exact h3
 | 4,hv=> simp at hv;subst hv;exact h4
 | 5,hv=> simp at hv;subst hv;exact h5
 | 6,hv=> simp at hv;subst hv;exact h6
 | i+7,hv=> simp at hv
theorem RunInX.kept {w w':World} {B j lo hi:Nat} {r:Qq} (h:RunInX w B j lo hi r) (k:K_ w w') (hB:B < w.heap.size):RunInX w' B j lo hi r:=
 h.same (k.same _ _) (rangeAt_of_block (k.block B hB) _)
theorem RunInX.setCells {w:World} {B j lo hi o:Nat} {r:Qq} {vs:List Value} (h:RunInX w B j lo hi r) (hB:B < lo) (ho:j * 7+7<=o∨o+vs.length<=j * 7):RunInX (w.setCells B o vs) B j lo hi r:=by
 obtain ⟨xa,xc,h1,h2,h3⟩:=h
 exact ⟨xa,xc,World.rangeAt_setCells_apart h1 _ _ _ (by right;simpa [Qq.cells,or_comm] using ho),h2.same (Same.setCells (.inl hB) _ _ _),h3⟩
theorem RunsInX.setCell {w:World} {lo hi:Nat} {a:Option Addr} {l:List Qq} (h:RunsInX w lo hi a l) {p:Addr} (hp:p.block < lo) (v:Value):RunsInX (w.setCell p v) lo hi a l:=h.same (Same.setCell _ (.inl hp) _)
theorem toRunX_in (w:World) (r:Qq) (xa:Option Addr) (xc:Nat) (hl:r.texts.length<=1048576) (hS:Strs w xa r.texts):
  Calls Tryz.prog 63 #[.agg (r.cells xa xc).toArray] w fun e w'=> ∃b,e= .returned (.agg (r.cells (some ⟨b,0,none⟩) r.texts.length).toArray)∧StrsIn w' w.heap.size w'.heap.size (some ⟨b,0,none⟩) r.texts∧K_ w w':=by
 show Calls Tryz.prog 63 #[.agg #[.string r.name,.bool r.over,.bool r.fail,.string r.text,.int .i64 r.at',.int .i64 r.Zk,.slice xa r.texts.length xc]] w _
 go_enter Tryz.func63,Tryz.ntmps63
 go_wp2_with fail
 refine (toStringS_in _ xa xc r.texts hl (hS.kept (by repeat (first | (refine K_.setCell ?_ (by simp <;> omega) _) | apply K_.alloc | exact K_.refl _)))).mono ?_
 rintro e w1 ⟨b,rfl,hN,k1⟩
 obtain ⟨hc1,hf1⟩:=k1.rules
 have hz1:=k1.size
 simp only [World.size_alloc] at hz1 hN
 have K1:K_ w w1:=K_.trans (by repeat (first | (refine K_.setCell ?_ (by simp <;> omega) _) | apply K_.alloc | exact K_.refl _)) k1
 have hrow1:Row w1 (w.heap.size+1) 7:=Row.kept (by
  have h7:Row ((w.alloc (.cells #[.string r.name,.bool r.over,.bool r.fail,.string r.text,.int .i64 r.at',.int .i64 r.Zk,.slice xa r.texts.length xc] 110)).alloc (.cells #[.string ⟨#[]⟩,.bool false,.bool false,.string ⟨#[]⟩,.int .i64 0,.int .i64 0,.slice none 0 0] 83)) (w.heap.size+1) 7:=by
   have:=Row.made (w.alloc (.cells #[.string r.name,.bool r.over,.bool r.fail,.string r.text,.int .i64 r.at',.int .i64 r.Zk,.slice xa r.texts.length xc] 110)) #[.string ⟨#[]⟩,.bool false,.bool false,.string ⟨#[]⟩,.int .i64 0,.int .i64 0,.slice none 0 0] 83
   simpa using this
  repeat (first | exact h7 | (refine Row.alloc ?_ _) | (refine Row.set ?_ _ rfl _))) k1
 have HRow:=Kj hrow1
 clear k1 hrow1
 have z0:w.heap.size < w1.heap.size:=by omega
 have z1:w.heap.size+1 < w1.heap.size:=by omega
 have z2:w.heap.size+1+1 < w1.heap.size:=by omega
 go_wp2
 have hX:Row (w1.setCell ⟨w.heap.size+1+1,6,none⟩ (.slice (some ⟨b,0,none⟩) r.texts.length r.texts.length)) (w.heap.size+1) 7:=Row.set HRow.out _ rfl _
 have hR:=World.rangeAt_setCells_same _ (w.heap.size+1) 0 (r.cells (some ⟨b,0,none⟩) r.texts.length) (hX.there (o:=0) (m:=7) (Nat.le_refl _))
 refine Xz (r.cells (some ⟨b,0,none⟩) r.texts.length) _ Tryz.results63 rfl hR Tryz.underlying83 rfl Tryz.sizeRun7 rfl ⟨b,rfl,StrsIn.mono (lo:=w.heap.size+1+1+1) (hi:=w1.heap.size) ?_ (by omega) (by simp), ?_⟩
 ·repeat (first | (refine StrsIn.setCell ?_ (by simp <;> omega) _) | exact hN)
 ·repeat (first | (refine K_.setCell ?_ (by simp <;> omega) _) | exact K1)
theorem toRunSX_in (w:World) (a:Option Addr) (cap:Nat) (l:List Qq) (hl:l.length<=1048576) (hs: ∀s∈l,s.texts.length<=1048576) (hS:RunsX w a l):
  Calls Tryz.prog 29 #[.slice a l.length cap] w fun e w'=> ∃b,e= .returned (.slice (some ⟨b,0,none⟩) l.length l.length)∧RunsInX w' w.heap.size w'.heap.size (some ⟨b,0,none⟩) l∧K_ w w':=by
 have hmk:=run_make_many (P:=Tryz.prog) 39 83 _ _ _ Tryz.underlying39 Tryz.infoRun7 .i64 .i64 l.length (by omega) (by omega)
 go_enter Tryz.func29,Tryz.ntmps29
 go_wp2
 clear hmk
 have hrow:=Row.made w (madeCells #[.string ⟨#[]⟩,.bool false,.bool false,.string ⟨#[]⟩,.int .i64 0,.int .i64 0,.slice none 0 0] (l.length * 7)) 83
 rw [size_madeCells] at hrow
 have hkept:K_ w (w.alloc (.cells (madeCells #[.string ⟨#[]⟩,.bool false,.bool false,.string ⟨#[]⟩,.int .i64 0,.int .i64 0,.slice none 0 0] (l.length * 7)) 83)):= (K_.refl _).alloc _
 go_loopw [4] (fun i wr=> ∃k:Nat,k<=l.length∧i= .int .i64 k∧K_ w wr∧Row wr w.heap.size (l.length * 7)∧∃c:Nat->Nat,w.heap.size < c 0∧c k<=wr.heap.size∧(∀i j,i<=j->c i<=c j)∧∀j,j < k->RunInX wr w.heap.size j (c j) (c (j+1)) (l.getD j Qq.zero)) (fun i _=> l.length - (intOf i).toNat)
 case atStart=> exact ⟨0,Nat.zero_le _,rfl,hkept,hrow,fun _=> w.heap.size+1,Nat.lt_succ_self _,by simp,fun _ _ _=> Nat.le_refl _,fun j hj=> absurd hj (Nat.not_lt_zero _)⟩
 case round=>
  obtain ⟨k,hk,rfl,hw,hr,c,hc0,hck,hmono,hf⟩:=hrel
  have HMono:=Kj hmono
  clear hmono
  clear hrow hkept
  by_cases hlt:k < l.length
  ·obtain ⟨b,o,x,cx,rfl,hb,hc,hA,_⟩:=hS.kept hw k hlt
   have hsz:=hs (l.getD k Qq.zero) (by simp [List.getD,hlt])
   have HF:=Kj hf
   clear hf
   generalize hs:l.getD k Qq.zero=s at *
   have HSs:=Kj hs
   clear hs
   have c0:=hc 0 _ rfl
   have c1:=hc 1 _ rfl
   have c2:=hc 2 _ rfl
   have c3:=hc 3 _ rfl
   have c4:=hc 4 _ rfl
   have c5:=hc 5 _ rfl
   have c6:=hc 6 _ rfl
   simp only [Nat.add_zero] at c0
   clear hc
   go_wp2_with fail
   refine (toRunX_in _ s x cx hsz hA).mono ?_
   rintro e w1 ⟨b1,rfl,g1,hw1⟩
   have hz1:=hw1.size
   have hrl:=hr.lt
   have hw2:=hw.trans hw1
   have hr1:=hr.kept hw1
   generalize hcs:s.cells (some ⟨b1,0,none⟩) s.texts.length=cs
   have hlen:cs.length=7:=by rw [<-hcs];rfl
   have hone:cs.toArray.all (·.oneCell')=true:=by rw [<-hcs,List.all_toArray,List.all_eq_true];exact Qq.one s _ _
   have hth:w1.there w.heap.size (k * 7) cs.toArray.size:=by simpa [hlen] using hr1.there (o:=k * 7) (m:=7) (by omega)
   have hsize: (Tryz.prog.info? 83).map (·.size)=some cs.toArray.size:=by rw [Tryz.sizeRun7];simp [hlen]
   have HCS:=Kj hcs
   have HLEN:=Kj hlen
   have HSZ:=Kj hsize
   clear hcs hlen hsize
   have HR:Hid (Row w1 w.heap.size (l.length * 7)):=hr1
   have HF1:Hid (∀j,j < k->RunInX w1 w.heap.size j (c j) (c (j+1)) (l.getD j Qq.zero)):=fun j hj=> (HF.out j hj).kept hw1 hr.lt
   clear HF c0 c1 c2 c3 c4 c5 c6 hw hw1 hr hr1 hA
   go_wp2_with (refine wpList_store_mid rfl 83 _ _ rfl w.heap.size (k * 7) cs.toArray rfl rfl hth (unhide HSZ) hone ?_)
   go_roundw
   case rel=>
    have hmono:=HMono.out
    refine ⟨k+1,by omega,by go_num,K_.setCells (Nat.le_refl _) _ _ hw2,Row.setCells _ _ HR.out,cutAt c k w1.heap.size,by rw [cutAt_le (Nat.zero_le _)];exact hc0,by rw [cutAt_gt (by omega),size_setCells];exact Nat.le_refl _,cutAt_mono hmono (by omega),fun j hj=> ?_⟩
    by_cases e:j=k
    ·subst e
     rw [unhide HSs,cutAt_le (Nat.le_refl _),cutAt_gt (by omega)]
     have hcj:w.heap.size < c j:=Nat.lt_of_lt_of_le hc0 (hmono 0 j (Nat.zero_le _))
     exact ⟨_,_,by rw [HCS.out];exact World.rangeAt_setCells_same _ _ _ _ (by simpa using hth),(g1.mono hck (Nat.le_refl _)).same (Same.setCells (.inl hcj) _ _ _),fun e=> by cases e⟩
    ·rw [cutAt_le (by omega),cutAt_le (by omega)]
     exact (HF1.out j (by omega)).setCells (Nat.lt_of_lt_of_le hc0 (hmono 0 j (Nat.zero_le _))) (by rw [HLEN.out];omega)
   case measure=> simp [intOf];omega
  ·go_wp2
   go_ret
   have:k=l.length:=by omega
   subst this
   exact ⟨w.heap.size,rfl,.inr ⟨w.heap.size,c,rfl,Nat.le_refl _,hc0,hck,hr,HMono.out,hf⟩,hw⟩
theorem toStateX_in (w:World) (a d:Option Addr) (cap e0:Nat) (Q_:List ByteArray) (l:List Qq) (hrl:Q_.length<=1048576) (hl:l.length<=1048576) (hs: ∀s∈l,s.texts.length<=1048576) (hR:Strs w a Q_) (hS:RunsX w d l):
  Calls Tryz.prog 9 #[.agg #[.slice a Q_.length cap,.slice d l.length e0]] w fun e w'=> ∃b1 b2 mid,e= .returned (.agg #[.slice (some ⟨b1,0,none⟩) Q_.length Q_.length,.slice (some ⟨b2,0,none⟩) l.length l.length])∧StrsIn w' w.heap.size mid (some ⟨b1,0,none⟩) Q_∧RunsInX w' mid w'.heap.size (some ⟨b2,0,none⟩) l∧w.heap.size<=mid∧mid<=w'.heap.size∧K_ w w':=by
 go_enter Tryz.func9,Tryz.ntmps9
 go_wp2_with fail
 refine (toStringS_in _ a cap Q_ hrl (hR.kept (by repeat (first | apply K_.alloc | exact K_.refl _)))).mono ?_
 rintro e w1 ⟨b1,rfl,hS1,k1⟩
 obtain ⟨hc1,hf1⟩:=k1.rules
 have hz1:=k1.size
 simp only [World.size_alloc] at hS1 hz1
 have K1:K_ w w1:=K_.trans (by repeat (first | apply K_.alloc | exact K_.refl _)) k1
 have hrow1:Row w1 (w.heap.size+1) 2:=Row.kept (Row.alloc (by have:=Row.made (w.alloc (.cells #[.slice a Q_.length cap,.slice d l.length e0] 28)) #[.slice none 0 0,.slice none 0 0] 41;simpa using this) _) k1
 clear k1
 go_wp2_with fail
 refine (toRunSX_in _ d e0 l hl hs (hS.kept (by repeat (first | (refine K_.setCell ?_ (by simp <;> omega) _) | exact K1)))).mono ?_
 rintro e w2 ⟨b2,rfl,hS2,k2⟩
 obtain ⟨hc2,hf2⟩:=k2.rules
 have hz2:=k2.size
 simp only [size_setCell] at hS2 hz2 hc2 hf2
 have K2:K_ w w2:=K_.trans (by repeat (first | (refine K_.setCell ?_ (by simp <;> omega) _) | exact K1)) k2
 have hS1':= (hS1.setCell (p:= ⟨w.heap.size+1+1,0,none⟩) (by simp <;> omega) (.slice (some ⟨b1,0,none⟩) Q_.length Q_.length)).same (k2.same _ _)
 have HRow:Hid (Row w2 (w.heap.size+1) 2):=Row.kept (by repeat (first | refine Row.set ?_ _ rfl _ | exact hrow1)) k2
 clear k2 K1 hS1 hrow1
 have z0:w.heap.size < w1.heap.size:=by omega
 have z1:w.heap.size+1 < w1.heap.size:=by omega
 have z2:w.heap.size+1+1 < w1.heap.size:=by omega
 go_wp2
 have hX:Row (w2.setCell ⟨w.heap.size+1+1,1,none⟩ (.slice (some ⟨b2,0,none⟩) l.length l.length)) (w.heap.size+1) 2:=Row.set HRow.out _ rfl _
 have hR:=World.rangeAt_setCells_same _ (w.heap.size+1) 0 [.slice (some ⟨b1,0,none⟩) Q_.length Q_.length,.slice (some ⟨b2,0,none⟩) l.length l.length] (hX.there (o:=0) (m:=2) (Nat.le_refl _))
 refine Xz [.slice (some ⟨b1,0,none⟩) Q_.length Q_.length,.slice (some ⟨b2,0,none⟩) l.length l.length] _ Tryz.results9 rfl hR Tryz.underlying41 rfl Tryz.sizeState2 rfl ⟨b1,b2,w1.heap.size,rfl,StrsIn.mono (lo:=w.heap.size+1+1+1) (hi:=w1.heap.size) ?_ (by omega) (Nat.le_refl _),RunsInX.mono (lo:=w1.heap.size) (hi:=w2.heap.size) ?_ (Nat.le_refl _) (by simp),by omega,by simp;omega, ?_⟩
 ·repeat (first | (refine StrsIn.setCell ?_ (by simp <;> omega) _) | exact hS1')
 ·repeat (first | (refine RunsInX.setCell ?_ (by simp <;> omega) _) | exact hS2)
 ·repeat (first | (refine K_.setCell ?_ (by simp <;> omega) _) | exact K2)
theorem markRunSX_any (w:World) (lo hi:Nat) (a:Option Addr) (cap:Nat) (l:List Qq) (k:Nat) (h0:0 < k) (h1:k+ (l.map cntRun).sum<=4611686018427387904) (hS:RunsInX w lo hi a l):
  Calls Tryz.prog 36 #[.slice a l.length cap,.int .i64 k] w fun e w'=> e= .returned (.int .i64 ((k+ (l.map cntRun).sum:Nat):Int))∧RunsInX w' lo hi a (markRunsX l k)∧Xx lo hi w w':=by
 have hlen:=len_le_runs l
 rcases hS with rfl | ⟨B,c,rfl,hlo,hBc,hhi,hr,hmono,hf⟩
 ·go_enter Tryz.func36,Tryz.ntmps36
  go_wp2
  go_loopw [1,5] (fun x i wr=> x= .int .i64 k∧i= .int .i64 0∧wr=w) (fun _ _ _=> 0)
  case atStart=> exact ⟨rfl,rfl,rfl⟩
  case round=>
   obtain ⟨rfl,rfl,rfl⟩:=hrel
   go_wp2
   go_ret
   exact ⟨by simp,.inl rfl,Xx.refl _ _ _⟩
 ·have HMono:=Kj hmono
  clear hmono
  go_enter Tryz.func36,Tryz.ntmps36
  go_wp2
  go_loopw [1,5] (fun x i wr=> ∃j m:Nat,j<=l.length∧i= .int .i64 j∧x= .int .i64 m∧m=k+sumTo cntRun l j∧Xx lo hi w wr∧Row wr B (l.length * 7)∧∀t,t < l.length->RunInX wr B t (c t) (c (t+1)) (runMixX l k j t)) (fun _ i _=> l.length - (intOf i).toNat)
  case atStart=> exact ⟨0,k,Nat.zero_le _,rfl,rfl,by rw [sumTo_zero];omega,Xx.refl _ _ _,hr,fun t ht=> by simpa [runMixX] using hf t ht⟩
  case round=>
   obtain ⟨j,m,hj,rfl,rfl,hm,hw,hr',hf'⟩:=hrel
   clear hr hf
   have HMn:=Kj hm
   have HF:=Kj hf'
   by_cases hlt:j < l.length
   ·have hst:=hf' j hlt
    have hmix:runMixX l k j j=l.getD j Qq.zero:=by simp [runMixX]
    rw [hmix] at hst
    have hsum:=sumTo_succ cntRun l Qq.zero j hlt
    have hsl:=sumTo_le cntRun l (j+1)
    obtain ⟨xa,ca,g3,g4,g6⟩:=hst
    obtain ⟨s,hsd⟩: ∃s,s=l.getD j Qq.zero:= ⟨_,rfl⟩
    rw [<-hsd] at g3 g4 hsum
    have hcs:cntRun s=6+s.texts.length:=rfl
    have hmb:m+6+s.texts.length<=4611686018427387904:=by omega
    have hm0:0 < m:=by omega
    have HSd:=Kj hsd
    have HSum:=Kj hsum
    have HG6:=Kj g6
    have hBj:B < c j:=Nat.lt_of_lt_of_le hBc (HMono.out 0 j (Nat.zero_le _))
    have hcc:c j<=c (j+1):=HMono.out j (j+1) (by omega)
    have hBs:=hr'.lt
    have c6:=g3 6 _ rfl
    clear hf' g3 hm hmix hsd hsum hsl hcs g6
    obtain ⟨txt,htx,hmt⟩: ∃txt,txt=mtext m∧∀W,Calls Tryz.prog 53 #[.int .i64 (m:Int)] W fun e w'=> e= .returned (.string txt)∧K_ W w':= ⟨_,rfl,fun W=> markText_any W m hm0 (by omega)⟩
    obtain ⟨tx2,htx2,hmt2⟩: ∃txt,txt=mtext (m+3)∧∀z:Int,z= ((m+3:Nat):Int)->∀W,Calls Tryz.prog 53 #[.int .i64 z] W fun e w'=> e= .returned (.string txt)∧K_ W w':= ⟨_,rfl,fun z hz W=> by rw [hz];exact markText_any W _ (by omega) (by omega)⟩
    have HTX:=Kj htx
    have HMT:=Kj hmt
    have HTX2:=Kj htx2
    have HMT2:=Kj hmt2
    have HMN:Hid (∀z:Int,z= ((m+6:Nat):Int)->∀W,StrsIn W (c j) (c (j+1)) xa s.texts->Calls Tryz.prog 23 #[.slice xa s.texts.length ca,.int .i64 z] W fun e w'=> e= .returned (.int .i64 ((m+6+s.texts.length:Nat):Int))∧StrsIn w' (c j) (c (j+1)) xa (markStrs s.texts (m+6))∧Xx (c j) (c (j+1)) W w'):=fun z hz W hW=> by rw [hz];exact markStringS_any W (c j) (c (j+1)) xa ca s.texts (m+6) (by omega) (by omega) hW
    clear htx hmt htx2 hmt2
    go_wp2_with fail
    refine (HMT.out _).mono ?_
    rintro e w1 ⟨rfl,k1⟩
    have hr1:=hr'.kept k1
    have d6:= (k1.cell hBs).trans c6
    obtain ⟨⟨_,f0c⟩,f0⟩:=hr1.at (i:=j * 7) (by omega)
    obtain ⟨⟨_,f1c⟩,f1⟩:=hr1.at (i:=j * 7+1) (by omega)
    obtain ⟨⟨_,f2c⟩,f2⟩:=hr1.at (i:=j * 7+2) (by omega)
    have t1:= (Turn.refl B (j * 7) (j * 7+7) (c j) (c (j+1)) wr).kept k1 hBs
    have HG1:=Kj (g4.same (k1.same _ _))
    have HR1:=Kj hr1
    have HT1:=Kj t1
    clear c6 hr' k1 HMT hr1 t1 g4
    go_wp2_with fail
    refine (HMT2.out _ (by omega) _).mono ?_
    rintro e w2 ⟨rfl,k2⟩
    have rA:=HR1.out.set ⟨B,j * 7,none⟩ rfl (.string txt)
    have rB:=rA.set ⟨B,j * 7+1,none⟩ rfl (.bool (((m:Int)+1) % 3 == 0))
    have rC:=rB.set ⟨B,j * 7+2,none⟩ rfl (.bool (((m:Int)+1+1) % 3 == 0))
    have e0:w2.cell? ⟨B,j * 7,none⟩=some (.string txt):=by rw [k2.cell rC.lt,Y_ (by omega),Y_ (by omega)];exact set_hit HR1.out (by omega) _
    have e1:w2.cell? ⟨B,j * 7+1,none⟩=some (.bool (((m:Int)+1) % 3 == 0)):=by rw [k2.cell rC.lt,Y_ (by omega)];exact set_hit rA (by omega) _
    have e2:w2.cell? ⟨B,j * 7+2,none⟩=some (.bool (((m:Int)+1+1) % 3 == 0)):=by rw [k2.cell rC.lt];exact set_hit rB (by omega) _
    have e6:w2.cell? ⟨B,j * 7+6,none⟩=some (.slice xa s.texts.length ca):=by rw [k2.cell rC.lt,Y_ (by omega),Y_ (by omega),Y_ (by omega)];exact d6
    have t2:= (((HT1.out.setCell (o:=j * 7) (by omega) (by omega) (.string txt)).setCell (o:=j * 7+1) (by omega) (by omega) (.bool (((m:Int)+1) % 3 == 0))).setCell (o:=j * 7+2) (by omega) (by omega) (.bool (((m:Int)+1+1) % 3 == 0))).kept k2 rC.lt
    have HG2:=Kj ((((HG1.out.same (Same.setCell _ (p:= ⟨B,j * 7,none⟩) (.inl hBj) (.string txt))).same (Same.setCell _ (p:= ⟨B,j * 7+1,none⟩) (.inl hBj) (.bool (((m:Int)+1) % 3 == 0)))).same (Same.setCell _ (p:= ⟨B,j * 7+2,none⟩) (.inl hBj) (.bool (((m:Int)+1+1) % 3 == 0)))).same (k2.same _ _))
    have hr2:=rC.kept k2
    obtain ⟨⟨_,f3c⟩,f3⟩:=hr2.at (i:=j * 7+3) (by omega)
    obtain ⟨⟨_,f4c⟩,f4⟩:=hr2.at (i:=j * 7+4) (by omega)
    obtain ⟨⟨_,f5c⟩,f5⟩:=hr2.at (i:=j * 7+5) (by omega)
    have HR2:=Kj hr2
    have HT2:=Kj t2
    have HE:=Kj (And.intro e0 (And.intro e1 e2))
    clear e0 e1 e2 rA rB rC t2 hr2 k2 HR1 HT1 HMT2 f0 f0c f1 f1c f2 f2c d6 HG1
    go_wp2_with fail
    refine (HMN.out _ (by omega) _ (((HG2.out.same (Same.setCell _ (p:= ⟨B,j * 7+3,none⟩) (.inl hBj) _)).same (Same.setCell _ (p:= ⟨B,j * 7+4,none⟩) (.inl hBj) _)).same (Same.setCell _ (p:= ⟨B,j * 7+5,none⟩) (.inl hBj) _))).mono ?_
    rintro e w3 ⟨rfl,hS3,kb3⟩
    have rA:=HR2.out.set ⟨B,j * 7+3,none⟩ rfl (.string tx2)
    have rB:=rA.set ⟨B,j * 7+4,none⟩ rfl (.int .i64 ((m:Int)+1+1+1+1))
    have rC:=rB.set ⟨B,j * 7+5,none⟩ rfl (.int .i64 ((m:Int)+1+1+1+1+1))
    have s3:=kb3.same (l2:=B) (h2:=B+1) (by omega)
    have q3:w3.cell? ⟨B,j * 7+3,none⟩=some (.string tx2):=by rw [s3.cell (Nat.le_refl _) (by omega) rC.lt,Y_ (by omega),Y_ (by omega)];exact set_hit HR2.out (by omega) _
    have q4:w3.cell? ⟨B,j * 7+4,none⟩=some (.int .i64 ((m:Int)+1+1+1+1)):=by rw [s3.cell (Nat.le_refl _) (by omega) rC.lt,Y_ (by omega)];exact set_hit rA (by omega) _
    have q5:w3.cell? ⟨B,j * 7+5,none⟩=some (.int .i64 ((m:Int)+1+1+1+1+1)):=by rw [s3.cell (Nat.le_refl _) (by omega) rC.lt];exact set_hit rB (by omega) _
    have q6:w3.cell? ⟨B,j * 7+6,none⟩=some (.slice xa s.texts.length ca):=by rw [s3.cell (Nat.le_refl _) (by omega) rC.lt,Y_ (by omega),Y_ (by omega),Y_ (by omega)];exact e6
    obtain ⟨e0,e1,e2⟩:=HE.out
    have q0:w3.cell? ⟨B,j * 7,none⟩=some (.string txt):=by rw [s3.cell (Nat.le_refl _) (by omega) rC.lt,Y_ (by omega),Y_ (by omega),Y_ (by omega)];exact e0
    have q1:w3.cell? ⟨B,j * 7+1,none⟩=some (.bool (((m:Int)+1) % 3 == 0)):=by rw [s3.cell (Nat.le_refl _) (by omega) rC.lt,Y_ (by omega),Y_ (by omega),Y_ (by omega)];exact e1
    have q2:w3.cell? ⟨B,j * 7+2,none⟩=some (.bool (((m:Int)+1+1) % 3 == 0)):=by rw [s3.cell (Nat.le_refl _) (by omega) rC.lt,Y_ (by omega),Y_ (by omega),Y_ (by omega)];exact e2
    rw [mod3 m 1 _ (by omega)] at q1
    rw [mod3 m 2 _ (by omega)] at q2
    rw [show (m:Int)+1+1+1+1= ((m+4:Nat):Int) by omega] at q4
    rw [show (m:Int)+1+1+1+1+1= ((m+5:Nat):Int) by omega] at q5
    rw [HTX.out] at q0
    rw [HTX2.out] at q3
    have HQ:=Kj (range7x q0 q1 q2 q3 q4 q5 q6)
    have t3:= (((HT2.out.setCell (o:=j * 7+3) (by omega) (by omega) (.string tx2)).setCell (o:=j * 7+4) (by omega) (by omega) (.int .i64 ((m:Int)+1+1+1+1))).setCell (o:=j * 7+5) (by omega) (by omega) (.int .i64 ((m:Int)+1+1+1+1+1))).but kb3 (Nat.le_refl _) (Nat.le_refl _) (.inl hBj) rC.lt
    have HR3:=Kj (s3.row (Nat.le_refl _) (by omega) rC)
    have HT3:=Kj t3
    have HS3:=Kj hS3
    obtain ⟨m6,hm6⟩: ∃m6,m6=m+6+s.texts.length:= ⟨_,rfl⟩
    rw [<-hm6]
    have HM6:=Kj hm6
    have hm6b:m6<=4611686018427387904:=by omega
    clear q0 q1 q2 q3 q4 q5 q6 e0 e1 e2 e6 rA rB rC t3 kb3 s3 f3 f3c f4 f4c f5 f5c HR2 HT2 HE HMN hm6 hS3 HG2
    go_wp2
    go_roundw
    case rel=>
     have tF:=HT3.out
     have hmono:=HMono.out
     refine ⟨j+1,m6,by omega,by go_num,by go_num,by have h1:=HMn.out;have h2:=HM6.out;have h3:=HSum.out;have h4:cntRun s=6+s.texts.length:=rfl;omega,hw.trans (tF.keptBut (by omega) (by have:=hmono (j+1) l.length (by omega);omega) (by omega) (by have:=hmono 0 l.length (Nat.zero_le _);omega)),HR3.out,fun t ht=> ?_⟩
     by_cases e:t=j
     ·subst e
      refine ⟨xa,ca, ?_, ?_,HG6.out⟩
      ·have em: (runMixX l k (t+1) t).cells xa ca=[.string (mtext m),.bool (decide ((m+1) % 3=0)),.bool (decide ((m+2) % 3=0)),.string (mtext (m+3)),.int .i64 ((m+4:Nat):Int),.int .i64 ((m+5:Nat):Int),.slice xa s.texts.length ca]:=by
        unfold runMixX
        rw [if_pos (by omega),<-HMn.out,<-HSd.out]
        simp [markRunX,Qq.cells,markStrs_length]
       rw [em]
       exact HQ.out
      ·have em: (runMixX l k (t+1) t).texts=markStrs s.texts (m+6):=by
        unfold runMixX
        rw [if_pos (by omega),<-HMn.out,<-HSd.out]
        rfl
       rw [em]
       exact HS3.out
     ·have em:runMixX l k (j+1) t=runMixX l k j t:=by
       unfold runMixX
       by_cases h:t < j
       ·rw [if_pos h,if_pos (by omega)]
       ·rw [if_neg h,if_neg (by omega)]
      rw [em]
      obtain ⟨x,cx,z1,z2,z3⟩:=HF.out t ht
      have hBt:B < c t:=Nat.lt_of_lt_of_le hBc (hmono 0 t (Nat.zero_le _))
      refine ⟨x,cx,tF.range (by simp [Qq.cells];omega) z1,z2.same (tF.same ?_ (.inl hBt)),z3⟩
      rcases Nat.lt_or_gt_of_ne e with h | h
      ·left;exact hmono (t+1) j (by omega)
      ·right;exact hmono (j+1) t (by omega)
    case measure=> simp [intOf];omega
   ·have:j=l.length:=by omega
    subst this
    go_wp2
    go_ret
    refine ⟨ret_int (by have:=HMn.out;rw [sumTo_all] at this;omega),.inr ⟨B,c,rfl,hlo,hBc,by rw [markRunsX_length];exact hhi,by rw [markRunsX_length];exact hr',HMono.out,fun i hi'=> ?_⟩,hw⟩
    rw [markRunsX_length] at hi'
    have:=HF.out i hi'
    rw [markRunsX_getD _ _ _ hi']
    unfold runMixX at this
    rw [if_pos hi'] at this
    exact this
theorem markStateX_any (w:World) (lo mid hi:Nat) (a d:Option Addr) (cap e0:Nat) (Q_:List ByteArray) (l:List Qq) (k:Nat) (h0:0 < k) (h1:k+Q_.length+ (l.map cntRun).sum<=4611686018427387904) (hm1:lo<=mid) (hm2:mid<=hi) (hhi:hi<=w.heap.size) (hR:StrsIn w lo mid a Q_) (hS:RunsInX w mid hi d l):
  Calls Tryz.prog 15 #[.agg #[.slice a Q_.length cap,.slice d l.length e0],.int .i64 k] w fun e w'=> e= .returned (.int .i64 ((k+Q_.length+ (l.map cntRun).sum:Nat):Int))∧StrsIn w' lo mid a (markStrs Q_ k)∧RunsInX w' mid hi d (markRunsX l (k+Q_.length))∧Xx lo hi w w':=by
 obtain ⟨W0,hW0⟩: ∃W0,W0=w.alloc (.cells #[.slice a Q_.length cap,.slice d l.length e0] 41):= ⟨_,rfl⟩
 have k0:K_ w W0:=by rw [hW0];exact (K_.refl _).alloc _
 have b0:W0.cell? ⟨w.heap.size,0,none⟩=some (.slice a Q_.length cap):= (twoCells (w:=w) (by rw [hW0];exact K_.refl _)).1
 have b1:W0.cell? ⟨w.heap.size,1,none⟩=some (.slice d l.length e0):= (twoCells (w:=w) (by rw [hW0];exact K_.refl _)).2
 have z0:w.heap.size < W0.heap.size:=by rw [hW0];simp
 go_enter Tryz.func15,Tryz.ntmps15
 go_wp2_with fail
 rw [<-hW0]
 clear hW0
 refine (markStringS_any _ lo mid a cap Q_ k h0 (by omega) (hR.same (k0.same _ _))).mono ?_
 rintro e w1 ⟨rfl,hR1,kb1⟩
 have s1:=kb1.same (l2:=w.heap.size) (h2:=w.heap.size+1) (by omega)
 have c1:= (s1.cell (o:=1) (Nat.le_refl _) (by omega) z0).trans b1
 obtain ⟨m,hm⟩: ∃m,m=k+Q_.length:= ⟨_,rfl⟩
 rw [<-hm]
 have hmb:m+ (l.map cntRun).sum<=4611686018427387904:=by omega
 have hm0:0 < m:=by omega
 have HS1:=Kj ((hS.same (k0.same _ _)).same (kb1.same (l2:=mid) (h2:=hi) (by omega)))
 have HR1:=Kj hR1
 have HM:=Kj hm
 have hz1:=kb1.size
 clear hm b0 b1 hR1 s1
 go_wp2_with fail
 refine (markRunSX_any _ mid hi d e0 l m hm0 hmb HS1.out).mono ?_
 rintro e w2 ⟨rfl,hS2,kb2⟩
 have HS2:=Kj hS2
 have HR2:=Kj (HR1.out.same (kb2.same (l2:=lo) (h2:=mid) (by omega)))
 have HK:=Kj (((Xx.of_kept k0).trans (kb1.mono (Nat.le_refl _) hm2)).trans (kb2.mono hm1 (Nat.le_refl _)))
 clear hS2 kb2 kb1 k0
 go_wp2
 go_ret
 rw [<-HM.out]
 exact ⟨rfl,HR2.out,HS2.out,HK.out⟩
section
variable (E : ByteArray -> ByteArray -> Prop)
inductive RW (g:ByteArray):Nat->ByteArray->Prop
 | one {a:ByteArray} (h:E a g):RW g 1 a
 | step {n:Nat} {a b:ByteArray} (h:E a b) (hb:lessX g b) (r:RW g n b):RW g (n+1) a
def FarR (g:ByteArray) (n:Nat) (a:ByteArray):Prop:=RW E g n a∧∀m,m < n->¬RW E g m a
def LeastN (p:ByteArray->Prop) (x:ByteArray):Prop:=p x∧∀y,p y->¬lessX y x
inductive CircR (g:ByteArray):Nat->ByteArray->List ByteArray->Prop
 | stop (a:ByteArray):CircR g 1 a [a]
 | step {n:Nat} {a x:ByteArray} {l:List ByteArray} (h:LeastN (fun y=> E a y∧lessX g y∧FarR E g n y) x) (r:CircR g n x l):CircR g (n+1) a (a :: l)
inductive CircU (g:ByteArray):Nat->ByteArray->List ByteArray->Prop
 | stop (a:ByteArray):CircU g 1 a [a]
 | step {n:Nat} {a x:ByteArray} {l:List ByteArray} (h:LeastN (fun y=> E a y∧Far E g n y) x) (r:CircU g n x l):CircU g (n+1) a (a :: l)
def CircX (l:List ByteArray):Prop:=
 ((∀x n,1<=n->¬WalkN E n x x)∧l=[])∨∃m t,1<=m∧(∀x n,1<=n->WalkN E n x x->m<=n)∧LeastN (fun x=> WalkN E m x x) t∧CircU E t m t l
end
section
variable {E : ByteArray -> ByteArray -> Prop}
theorem LeastN.unique {p q:ByteArray->Prop} (hpq: ∀x,p x↔q x) {x y:ByteArray} (h:LeastN p x) (k:LeastN q y):x=y:=by
 rcases lessX_total x y with e | e | e
 ·exact absurd e (k.2 x ((hpq x).1 h.1))
 ·exact e
 ·exact absurd e (h.2 y ((hpq y).2 k.1))
theorem LeastN.iff {p q:ByteArray->Prop} (hpq: ∀x,p x↔q x) {x:ByteArray} (h:LeastN p x):LeastN q x:= ⟨(hpq x).1 h.1,fun y hy=> h.2 y ((hpq y).2 hy)⟩
theorem RW.pos {g a:ByteArray} {n:Nat} (h:RW E g n a):1<=n:=by cases h <;> omega
theorem RW.walk {g a:ByteArray} {n:Nat} (h:RW E g n a):WalkN E n a g:=by
 induction h with
 | one h=> exact WalkN.one h
 | step h _ _ ih=> exact .step h ih
theorem RW.far {g:ByteArray}: ∀{n:Nat} {a:ByteArray},RW E g n a->∃m,m<=n∧FarR E g m a:=by
 intro n
 induction n using Nat.strongRecOn with
 | ind n ih=>
  intro a h
  by_cases hm: ∃m,m < n∧RW E g m a
  ·obtain ⟨m,h1,h2⟩:=hm
   obtain ⟨q,h3,h4⟩:=ih m h1 h2
   exact ⟨q,by omega,h4⟩
  ·exact ⟨n,Nat.le_refl _,h,fun m h1 h2=> hm ⟨m,h1,h2⟩⟩
theorem FarR.unique {g a:ByteArray} {n m:Nat} (h:FarR E g n a) (k:FarR E g m a):n=m:=by
 rcases Nat.lt_trichotomy n m with e | e | e
 ·exact absurd h.1 (k.2 n e)
 ·exact e
 ·exact absurd k.1 (h.2 m e)
theorem FarR.one {g a:ByteArray}:FarR E g 1 a↔E a g:=by
 constructor
 ·intro h
  generalize hn: (1:Nat)=n at h
  have h1:=h.1
  cases h1 with
  | one h=> exact h
  | step _ _ r=> have:=r.pos;omega
 ·intro h
  exact ⟨.one h,fun m hm hr=> by have:=hr.pos;omega⟩
theorem FarR.succ {g a:ByteArray} {n:Nat} (hn:1<=n):FarR E g (n+1) a↔(∃b,E a b∧lessX g b∧FarR E g n b)∧∀m,m<=n->¬FarR E g m a:=by
 constructor
 ·intro h
  refine ⟨?_,fun m hm hf=> h.2 m (by omega) hf.1⟩
  have h1:=h.1
  generalize hk:n+1=k at h1
  cases h1 with
  | one h=> omega
  | @step q _ b h1 hb r=>
   have hq:q=n:=by omega
   subst hq
   obtain ⟨m,h2,h3⟩:=r.far
   rcases Nat.lt_or_ge m q with e | e
   ·exact absurd (RW.step h1 hb h3.1) (h.2 (m+1) (by omega))
   ·have:m=q:=by omega
    subst this
    exact ⟨b,h1,hb,h3⟩
 ·rintro ⟨⟨b,h1,h2,h3⟩,h4⟩
  refine ⟨.step h1 h2 h3.1,fun m hm hr=> ?_⟩
  obtain ⟨q,h5,h6⟩:=hr.far
  exact h4 q (by omega) h6
theorem FarR.levels {g:ByteArray}: ∀{n:Nat} {a:ByteArray},FarR E g n a->∃l:List ByteArray,l.length=n∧(∀x∈l,∃y,E x y)∧(∀i (hi:i < l.length),FarR E g (i+1) l[i]):=by
 intro n
 induction n with
 | zero=> intro a h;have:=h.1.pos;omega
 | succ n ih=>
  intro a h
  have hstep: ∃y,E a y:=by
   have h1:=h.1
   cases h1 with
   | one h=> exact ⟨_,h⟩
   | step h _ _=> exact ⟨_,h⟩
  by_cases hn:n=0
  ·subst hn
   exact ⟨[a],rfl,fun x hx=> by rw [List.mem_singleton] at hx;rw [hx];exact hstep,fun i hi=> by
    simp at hi
    subst hi
    exact h⟩
  ·obtain ⟨⟨b,h1,_,h3⟩,_⟩:= (FarR.succ (by omega)).1 h
   obtain ⟨l,e1,e2,e3⟩:=ih h3
   refine ⟨l++ [a],by simp [e1],fun x hx=> ?_,fun i hi=> ?_⟩
   ·rcases List.mem_append.1 hx with g | g
    ·exact e2 x g
    ·rw [List.mem_singleton] at g;rw [g];exact hstep
   ·by_cases e:i < l.length
    ·rw [List.getElem_append_left e];exact e3 i e
    ·have:i=l.length:=by simp at hi;omega
     subst this
     simp only [List.getElem_append_right (Nat.le_refl _),Nat.sub_self,List.getElem_cons_zero]
     rw [e1]
     exact h
theorem FarR.bound {g a:ByteArray} {n:Nat} (h:FarR E g n a) {names:List ByteArray} (hn: ∀x y,E x y->x∈names):n<=names.length:=by
 obtain ⟨l,e1,e2,e3⟩:=h.levels
 rw [<-e1]
 refine List.Nodup.length_le_of_subset ?_ (fun x hx=> by obtain ⟨y,hy⟩:=e2 x hx;exact hn x y hy)
 rw [List.Nodup,List.pairwise_iff_getElem]
 intro i j hi hj hij e
 have h1:=e3 i hi
 rw [e] at h1
 have:=h1.unique (e3 j hj)
 omega
theorem rw_of_walk {m:Nat} {t:ByteArray} (hm: ∀x n,1<=n->WalkN E n x x->m<=n) (ht: ∀x,WalkN E m x x->¬lessX x t): ∀{q j:Nat} {a:ByteArray},j+q=m->WalkN E j t a->WalkN E q a t->1<=q->RW E t q a:=by
 intro q
 induction q with
 | zero=> intro j a _ _ _ h;omega
 | succ q ih=>
  intro j a hj h1 h2 _
  obtain ⟨y,h3,h4⟩:=h2.first
  by_cases hq:q=0
  ·subst hq
   have:=h4.zero
   subst this
   exact .one h3
  ·have hty:WalkN E (j+1) t y:=h1.trans (WalkN.one h3)
   have hcl:WalkN E m y y:=by
    have:=h4.trans hty
    rw [show q+ (j+1)=m by omega] at this
    exact this
   refine .step h3 ?_ (ih (by omega) hty h4 (by omega))
   rcases lessX_total t y with e | e | e
   ·exact e
   ·subst e
    have:=hm t (j+1) (by omega) hty
    omega
   ·exact absurd e (ht y hcl)
theorem far_step {m:Nat} {t:ByteArray} (hm: ∀x n,1<=n->WalkN E n x x->m<=n) (ht: ∀x,WalkN E m x x->¬lessX x t) {j q:Nat} {a:ByteArray} (hj:j+ (q+1)=m) (h1:WalkN E j t a) (hq:1<=q) (y:ByteArray): (E a y∧lessX t y∧FarR E t q y)↔(E a y∧Far E t q y):=by
 constructor
 ·rintro ⟨h2,h3,h4⟩
  refine ⟨h2,h4.1.walk,fun n hn hw=> ?_⟩
  have h5:=hw.trans (h1.trans (WalkN.one h2))
  have:=hm y (n+ (j+1)) (by omega) h5
  omega
 ·rintro ⟨h2,h3⟩
  have hty:WalkN E (j+1) t y:=h1.trans (WalkN.one h2)
  have hcl:WalkN E m y y:=by
   have:=h3.1.trans hty
   rw [show q+ (j+1)=m by omega] at this
   exact this
  have hr:=rw_of_walk hm ht (by omega) hty h3.1 hq
  refine ⟨h2, ?_,hr,fun n hn hw=> h3.2 n hn hw.walk⟩
  rcases lessX_total t y with e | e | e
  ·exact e
  ·subst e
   have:=hm t (j+1) (by omega) hty
   omega
  ·exact absurd e (ht y hcl)
theorem circ_same {m:Nat} {t:ByteArray} (hm: ∀x n,1<=n->WalkN E n x x->m<=n) (ht: ∀x,WalkN E m x x->¬lessX x t) {q:Nat} {a:ByteArray} {l:List ByteArray} (h:CircR E t q a l): ∀{j:Nat},j+q=m->WalkN E j t a->CircU E t q a l:=by
 induction h with
 | stop a=> intro j _ _;exact .stop a
 | @step n a x l h r ih=>
  intro j hj h1
  have hn:1<=n:=by cases r <;> omega
  have h2:=h.iff (far_step hm ht hj h1 hn)
  exact .step h2 (ih (j:=j+1) (by omega) (h1.trans (WalkN.one h2.1.1)))
theorem CircU.unique {g:ByteArray} {n:Nat} {a:ByteArray} {l m:List ByteArray} (h:CircU E g n a l) (k:CircU E g n a m):l=m:=by
 induction h generalizing m with
 | stop a=>
  generalize hn: (1:Nat)=n at k
  cases k with
  | stop=> rfl
  | step _ r=> have:1<=_:= (show∀{q x l},CircU E g q x l->1<=q from fun c=> by cases c <;> omega) r;omega
 | @step n a x l h r ih=>
  generalize hn:n+1=n' at k
  cases k with
  | stop=> have:1<=n:= (show∀{q x l},CircU E g q x l->1<=q from fun c=> by cases c <;> omega) r;omega
  | @step q _ y l' h' r'=>
   have e:q=n:=by omega
   subst e
   have:=LeastN.unique (fun _=> Iff.rfl) h h'
   subst this
   rw [ih r']
theorem CircX.unique {l m:List ByteArray} (h:CircX E l) (k:CircX E m):l=m:=by
 rcases h with ⟨h1,rfl⟩ | ⟨m1,t,h0,h1,h2,h3⟩ <;> rcases k with ⟨k1,rfl⟩ | ⟨m2,u,k0,k1,k2,k3⟩
 ·rfl
 ·exact absurd k2.1 (h1 u m2 k0)
 ·exact absurd h2.1 (k1 t m1 h0)
 ·have e:m1=m2:=by
   have a1:=h1 u m2 k0 k2.1
   have a2:=k1 t m1 h0 h2.1
   omega
  subst e
  have e2:=LeastN.unique (fun _=> Iff.rfl) h2 k2
  subst e2
  exact h3.unique k3
structure BestR (E:ByteArray->ByteArray->Prop) (gs:List ByteArray) (best:List ByteArray):Prop where
 no:best=[]->∀g∈gs,∀n,¬FarR E g n g
 yes:best≠[]->∃g n,g∈gs∧FarR E g n g∧CircR E g n g best∧best.length=n∧(∀h∈gs,∀k,FarR E h k h->n<=k∧(lessX h g->n < k))
theorem BestR.circ {gs best:List ByteArray} (h:BestR E gs best) (hgs: ∀x y,E x y->x∈gs):CircX E best:=by
 by_cases hno: ∀x n,1<=n->¬WalkN E n x x
 ·refine .inl ⟨hno, ?_⟩
  by_cases hb:best=[]
  ·exact hb
  ·obtain ⟨g,n,_,hf,_⟩:=h.yes hb
   exact absurd hf.1.walk (hno g n hf.1.pos)
 ·obtain ⟨m,hm1,hmx,hm⟩: ∃m,1<=m∧(∃x,WalkN E m x x)∧∀x n,1<=n->WalkN E n x x->m<=n:=by
   have hex: ∃n,∃x,1<=n∧WalkN E n x x:=by
    by_cases hc: ∃n,∃x,1<=n∧WalkN E n x x
    ·exact hc
    ·exact absurd (fun x n h1 h2=> hc ⟨n,x,h1,h2⟩) hno
   have: ∀n,(∃x,1<=n∧WalkN E n x x)->∃m,1<=m∧(∃x,WalkN E m x x)∧∀x n,1<=n->WalkN E n x x->m<=n:=by
    intro n
    induction n using Nat.strongRecOn with
    | ind n ih=>
     rintro ⟨x,h1,h2⟩
     by_cases hs: ∃k,k < n∧∃x,1<=k∧WalkN E k x x
     ·obtain ⟨k,h3,h4⟩:=hs
      exact ih k h3 h4
     ·exact ⟨n,h1,⟨x,h2⟩,fun y k h3 h4=> by
       rcases Nat.lt_or_ge k n with e | e
       ·exact absurd ⟨k,e,y,h3,h4⟩ hs
       ·exact e⟩
   obtain ⟨n,hn⟩:=hex
   exact this n hn
  have hmem: ∀x,WalkN E m x x->x∈gs:=fun x hx=> by
   obtain ⟨q,rfl⟩: ∃q,m=q+1:= ⟨m - 1,by omega⟩
   obtain ⟨b,hb,_⟩:=hx.first
   exact hgs x b hb
  obtain ⟨t,ht⟩: ∃t,LeastN (fun x=> WalkN E m x x) t:=by
   obtain ⟨x,hx⟩:=hmx
   have hleast: ∀(l:List ByteArray) (p:ByteArray->Prop),(∃y∈l,p y)->∃t∈l,p t∧∀y∈l,p y->¬lessX y t:=by
    intro l p
    induction l with
    | nil=> rintro ⟨y,hy,_⟩;cases hy
    | cons z l ih=>
     rintro ⟨y,hy,hp⟩
     by_cases hl: ∃y∈l,p y
     ·obtain ⟨t,h1,h2,h3⟩:=ih hl
      by_cases hz:p z∧lessX z t
      ·refine ⟨z,by simp,hz.1,fun u hu hpu=> ?_⟩
       rcases List.mem_cons.1 hu with rfl | hu
       ·exact lessX_irrefl u
       ·exact fun hlt=> h3 u hu hpu (lessX_trans hlt hz.2)
      ·refine ⟨t,List.mem_cons_of_mem _ h1,h2,fun u hu hpu=> ?_⟩
       rcases List.mem_cons.1 hu with rfl | hu
       ·exact fun hlt=> hz ⟨hpu,hlt⟩
       ·exact h3 u hu hpu
     ·have:y=z:=by
       rcases List.mem_cons.1 hy with e | e
       ·exact e
       ·exact absurd ⟨y,e,hp⟩ hl
      subst this
      refine ⟨y,by simp,hp,fun u hu hpu=> ?_⟩
      rcases List.mem_cons.1 hu with rfl | hu
      ·exact lessX_irrefl u
      ·exact absurd ⟨u,hu,hpu⟩ hl
   obtain ⟨t,h1,h2,h3⟩:=hleast gs (fun x=> WalkN E m x x) ⟨x,hmem x hx,hx⟩
   exact ⟨t,h2,fun y hy=> h3 y (hmem y hy) hy⟩
  have hrt:FarR E t m t:= ⟨rw_of_walk hm ht.2 (j:=0) (by omega) (.here t) ht.1 hm1,fun n hn hw=> by
   have:=hm t n hw.pos hw.walk
   omega⟩
  have hb:best≠[]:=fun e=> h.no e t (hmem t ht.1) m hrt
  obtain ⟨g,n,hg,hf,hc,_,hl⟩:=h.yes hb
  have hn:n=m:=by
   have h1:= (hl t (hmem t ht.1) m hrt).1
   have h2:=hm g n hf.1.pos hf.1.walk
   omega
  subst hn
  have hgt:g=t:=by
   rcases lessX_total g t with e | e | e
   ·exact absurd e (ht.2 g hf.1.walk)
   ·exact e
   ·have:= (hl t (hmem t ht.1) n hrt).2 e
    omega
  subst hgt
  exact .inr ⟨n,g,hm1,hm,ht,circ_same hm ht.2 hc (j:=0) (by omega) (.here g)⟩
end
