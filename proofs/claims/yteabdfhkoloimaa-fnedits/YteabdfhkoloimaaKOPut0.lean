import Derived.Test.YteabdfhkoloimaaKODropN
import Derived.Deep.RegionHeldLaw
import Derived.Deep.AppendLies
set_option maxRecDepth 100000
set_option maxHeartbeats 25600000
namespace Go.Proofs.Yteabdfhkoloimaa
open Go.RowKit
def otherN (key:List UInt8) (d:Q_):Bool:= !(d.name.toList == key)
theorem filter_take_succ (f:Q_->Bool) (l:List Q_) (k:Nat) (h:k < l.length): (l.take (k+1)).filter f= (l.take k).filter f++ (if f (l.getD k Q_.zero)=true then [l.getD k Q_.zero] else []):=by
 rw [List.take_succ_eq_append_getElem h,List.filter_append]
 congr 1
 have e:l.getD k Q_.zero=l[k]:=by simp [List.getD,h]
 rw [e]
 by_cases hf:f l[k]=true
 ·simp [hf]
 ·simp [hf]
theorem node_one (d:Q_) (a:Option Addr) (c:Nat): ∀u∈([.string d.name,.int .i64 d.cost,.slice a d.steps.length c]:List Value),u.oneCell'=true:=by
 intro u hu
 simp only [List.mem_cons,List.not_mem_nil,or_false] at hu
 rcases hu with rfl | rfl | rfl <;> rfl
theorem rises_only {l:List Q_} (hr:Rises l) {p j:Nat} (hp:p < l.length) (hj:j < l.length) (e:nameAt l j=nameAt l p):j=p:=by
 by_cases h:j=p
 ·exact h
 ·rcases Nat.lt_or_gt_of_ne h with hlt | hlt
  ·have:=hr j p hlt hp
   rw [e,less_irrefl] at this
   cases this
  ·have:=hr p j hlt hj
   rw [e,less_irrefl] at this
   cases this
theorem filter_cut {l:List Q_} (hr:Rises l) {key:List UInt8} {p:Nat} (hp:p < l.length) (e:nameAt l p=key):l.filter (otherN key)=cutOut l p:=by
 have hget: ∀j (hj:j < l.length),j≠p->otherN key l[j]=true:=fun j hj hne=> by
  have hn:nameAt l j=l[j].name.toList:=by unfold nameAt;simp [List.getD,hj]
  simp only [otherN,Bool.not_eq_true',beq_eq_false_iff_ne]
  intro h
  exact hne (rises_only hr hp hj (by rw [hn,h,e]))
 have hpn:otherN key l[p]=false:=by
  have hn:nameAt l p=l[p].name.toList:=by unfold nameAt;simp [List.getD,hp]
  simp [otherN,<-hn,e]
 have hsplit:l=l.take p++ (l[p] :: l.drop (p+1)):=by
  rw [<-List.drop_eq_getElem_cons hp,List.take_append_drop]
 have h1: (l.take p).filter (otherN key)=l.take p:=List.filter_eq_self.2 fun d hd=> by
  obtain ⟨i,hi,rfl⟩:=List.getElem_of_mem hd
  rw [List.length_take] at hi
  rw [List.getElem_take]
  exact hget i (by omega) (by omega)
 have h2: (l.drop (p+1)).filter (otherN key)=l.drop (p+1):=List.filter_eq_self.2 fun d hd=> by
  obtain ⟨i,hi,rfl⟩:=List.getElem_of_mem hd
  rw [List.length_drop] at hi
  rw [List.getElem_drop]
  exact hget _ (by omega) (by omega)
 unfold cutOut
 conv=> lhs;rw [hsplit]
 rw [List.filter_append,List.filter_cons_of_neg (by rw [hpn];simp),h1,h2]
def lessN (key:List UInt8) (d:Q_):Bool:=Op.bytesLess d.name.toList key
def moreN (key:List UInt8) (d:Q_):Bool:=Op.bytesLess key d.name.toList
def putIn (l:List Q_) (d:Q_):List Q_:=l.filter (lessN d.name.toList)++d :: l.filter (moreN d.name.toList)
theorem less_asymm {x y:List UInt8} (h:Op.bytesLess x y=true):Op.bytesLess y x=false:=by
 cases h':Op.bytesLess y x
 ·rfl
 ·have:=less_trans _ _ _ h h'
  rw [less_irrefl] at this
  cases this
theorem nameAt_get {l:List Q_} {j:Nat} (h:j < l.length):nameAt l j=l[j].name.toList:=by unfold nameAt;simp [List.getD,h]
theorem Place.less {l:List Q_} {key:List UInt8} {p:Nat} (h:Place l key p):l.filter (lessN key)=l.take p:=by
 have h1: (l.take p).filter (lessN key)=l.take p:=List.filter_eq_self.2 fun d hd=> by
  obtain ⟨i,hi,rfl⟩:=List.getElem_of_mem hd
  rw [List.length_take] at hi
  rw [List.getElem_take]
  have:=h.before i (by omega)
  rw [nameAt_get (by omega)] at this
  exact this
 have h2: (l.drop p).filter (lessN key)=[]:=List.filter_eq_nil_iff.2 fun d hd=> by
  obtain ⟨i,hi,rfl⟩:=List.getElem_of_mem hd
  rw [List.length_drop] at hi
  rw [List.getElem_drop]
  have:=h.behind (p+i) (by omega) (by omega)
  rw [nameAt_get (by omega)] at this
  simp [lessN,this]
 conv=> lhs;rw [<-List.take_append_drop p l]
 rw [List.filter_append,h1,h2,List.append_nil]
theorem Place.ahead {l:List Q_} {key:List UInt8} {p:Nat} (h:Place l key p): (l.take p).filter (moreN key)=[]:=List.filter_eq_nil_iff.2 fun d hd=> by
 obtain ⟨i,hi,rfl⟩:=List.getElem_of_mem hd
 rw [List.length_take] at hi
 rw [List.getElem_take]
 have:=h.before i (by omega)
 rw [nameAt_get (by omega)] at this
 simp [moreN,less_asymm this]
theorem Place.more {l:List Q_} {key:List UInt8} {p:Nat} (_:Rises l) (h:Place l key p) (hno: ∀j,j < l.length->nameAt l j≠key):l.filter (moreN key)=l.drop p:=by
 have h2: (l.drop p).filter (moreN key)=l.drop p:=List.filter_eq_self.2 fun d hd=> by
  obtain ⟨i,hi,rfl⟩:=List.getElem_of_mem hd
  rw [List.length_drop] at hi
  rw [List.getElem_drop]
  have h3:=h.behind (p+i) (by omega) (by omega)
  have h4:=hno (p+i) (by omega)
  rw [nameAt_get (by omega)] at h3 h4
  exact less_total _ _ h3 h4
 conv=> lhs;rw [<-List.take_append_drop p l]
 rw [List.filter_append,h.ahead,h2,List.nil_append]
theorem Place.more_at {l:List Q_} {key:List UInt8} {p:Nat} (hr:Rises l) (h:Place l key p) (hp:p < l.length) (e:nameAt l p=key):l.filter (moreN key)=l.drop (p+1):=by
 have h2: (l.drop (p+1)).filter (moreN key)=l.drop (p+1):=List.filter_eq_self.2 fun d hd=> by
  obtain ⟨i,hi,rfl⟩:=List.getElem_of_mem hd
  rw [List.length_drop] at hi
  rw [List.getElem_drop]
  have h3:=hr p (p+1+i) (by omega) (by omega)
  rw [e,nameAt_get (by omega)] at h3
  exact h3
 have h3:l.drop p=l[p] :: l.drop (p+1):=List.drop_eq_getElem_cons hp
 have h4:moreN key l[p]=false:=by
  rw [nameAt_get hp] at e
  simp [moreN,e,less_irrefl]
 conv=> lhs;rw [<-List.take_append_drop p l]
 rw [List.filter_append,h.ahead,h3,List.filter_cons_of_neg (by rw [h4];simp),h2,List.nil_append]
theorem place_of {l:List Q_} (key:List UInt8) (hr:Rises l): ∃p,Place l key p:=by
 have: ∀n,n<=l.length->∃p,p<=n∧(∀j,j < p->Op.bytesLess (nameAt l j) key=true)∧∀j,p<=j->j < n->Op.bytesLess (nameAt l j) key=false:=by
  intro n
  induction n with
  | zero=> exact fun _=> ⟨0,Nat.le_refl _,fun j hj=> absurd hj (Nat.not_lt_zero _),fun j _ hj=> absurd hj (Nat.not_lt_zero _)⟩
  | succ n ih=>
   intro hn
   obtain ⟨p,hp,hb,hh⟩:=ih (by omega)
   by_cases e:p=n
   ·subst e
    cases hq:Op.bytesLess (nameAt l p) key
    ·refine ⟨p,by omega,hb,fun j h1 h2=> ?_⟩
     obtain rfl:j=p:=by omega
     exact hq
    ·refine ⟨p+1,Nat.le_refl _,fun j hj=> ?_,fun j h1 h2=> by omega⟩
     by_cases e:j=p
     ·rw [e];exact hq
     ·exact hb j (by omega)
   ·refine ⟨p,by omega,hb,fun j h1 h2=> ?_⟩
    by_cases e2:j=n
    ·subst e2
     cases hq:Op.bytesLess (nameAt l j) key
     ·rfl
     ·have h3:=hr p j (by omega) (by omega)
      have h4:=hh p (Nat.le_refl _) (by omega)
      rw [less_trans _ _ _ h3 hq] at h4
      cases h4
    ·exact hh j h1 (by omega)
 obtain ⟨p,h1,h2,h3⟩:=this l.length (Nat.le_refl _)
 exact ⟨p,h1,h2,h3⟩
theorem filter_other {l:List Q_} (key:List UInt8) (hr:Rises l):l.filter (otherN key)=l.filter (lessN key)++l.filter (moreN key):=by
 obtain ⟨p,hp⟩:=place_of key hr
 by_cases h:p < l.length∧nameAt l p=key
 ·rw [filter_cut hr h.1 h.2,hp.less,hp.more_at hr h.1 h.2]
  rfl
 ·have hno: ∀j,j < l.length->nameAt l j≠key:=fun j hj e=> by
   have:=hp.only hr hj e
   subst this
   exact h ⟨hj,e⟩
  rw [hp.less,hp.more hr hno,List.take_append_drop]
  refine List.filter_eq_self.2 fun d hd=> ?_
  obtain ⟨i,hi,rfl⟩:=List.getElem_of_mem hd
  have:=hno i hi
  rw [nameAt_get hi] at this
  simpa [otherN] using this
theorem putIn_free {l:List Q_} {d:Q_} {p:Nat} (hr:Rises l) (h:Place l d.name.toList p) (hno: ¬(p < l.length∧nameAt l p=d.name.toList)):putIn l d=l.take p++d :: l.drop p:=by
 have hno': ∀j,j < l.length->nameAt l j≠d.name.toList:=fun j hj e=> by
  have:=h.only hr hj e
  subst this
  exact hno ⟨hj,e⟩
 unfold putIn
 rw [h.less,h.more hr hno']
theorem putIn_there {l:List Q_} {d:Q_} {p:Nat} (hr:Rises l) (h:Place l d.name.toList p) (hp:p < l.length) (e:nameAt l p=d.name.toList):putIn l d=l.take p++d :: l.drop (p+1):=by
 unfold putIn
 rw [h.less,h.more_at hr hp e]
def aheadN (l:List Q_) (d:Q_):Nat:= (l.filter (lessN d.name.toList)).length
theorem putIn_length {l:List Q_} {d:Q_} (hr:Rises l): (putIn l d).length= (l.filter (otherN d.name.toList)).length+1:=by
 rw [filter_other _ hr]
 simp [putIn]
 omega
theorem aheadN_le {l:List Q_} {d:Q_} (hr:Rises l):aheadN l d<=(l.filter (otherN d.name.toList)).length:=by
 rw [filter_other _ hr]
 simp [aheadN]
theorem putIn_at (l:List Q_) (d:Q_): (putIn l d).getD (aheadN l d) Q_.zero=d:=by simp [putIn,aheadN,List.getD]
theorem putIn_len_le (l:List Q_) (d:Q_) (hr:Rises l): (putIn l d).length<=l.length+1:=by
 rw [putIn_length hr]
 have:=List.length_filter_le (otherN d.name.toList) l
 omega
theorem putIn_mem {l:List Q_} {d x:Q_} (h:x∈putIn l d):x=d∨x∈l:=by
 simp only [putIn,List.mem_append,List.mem_cons,List.mem_filter] at h
 rcases h with h | h | h
 ·exact .inr h.1
 ·exact .inl h
 ·exact .inr h.1
theorem take_snoc {l:List Q_} {m:Nat} (h:m < l.length):l.take (m+1)=l.take m++ [l.getD m Q_.zero]:=by
 rw [List.take_succ_eq_append_getElem h]
 simp [List.getD,h]
def PutR (l:List Q_) (d:Q_) (c:Int) (r:List Q_):Prop:=
 (¬WebCode l 0∧c=1∧r=[])∨(WebCode l 0∧(¬NameOk d.name∨¬ActionOk ⟨d.cost,d.steps⟩)∧c=2∧r=[])∨(WebCode l 0∧NameOk d.name∧ActionOk ⟨d.cost,d.steps⟩∧60 < (putIn l d).length∧c=3∧r=[])∨
 (WebCode l 0∧NameOk d.name∧ActionOk ⟨d.cost,d.steps⟩∧(putIn l d).length<=60∧c=0∧r=putIn l d)
theorem PutR.unique {l:List Q_} {d:Q_} {c c':Int} {r r':List Q_} (h:PutR l d c r) (h':PutR l d c' r'):c=c'∧r=r':=by
 rcases h with ⟨h1,rfl,rfl⟩ | ⟨h1,h2,rfl,rfl⟩ | ⟨h1,h2,h3,h4,rfl,rfl⟩ | ⟨h1,h2,h3,h4,rfl,rfl⟩ <;>
  rcases h' with ⟨g1,rfl,rfl⟩ | ⟨g1,g2,rfl,rfl⟩ | ⟨g1,g2,g3,g4,rfl,rfl⟩ | ⟨g1,g2,g3,g4,rfl,rfl⟩
 ·exact ⟨rfl,rfl⟩
 ·exact absurd g1 h1
 ·exact absurd g1 h1
 ·exact absurd g1 h1
 ·exact absurd h1 g1
 ·exact ⟨rfl,rfl⟩
 ·rcases h2 with h2 | h2
  ·exact absurd g2 h2
  ·exact absurd g3 h2
 ·rcases h2 with h2 | h2
  ·exact absurd g2 h2
  ·exact absurd g3 h2
 ·exact absurd h1 g1
 ·rcases g2 with g2 | g2
  ·exact absurd h2 g2
  ·exact absurd h3 g2
 ·exact ⟨rfl,rfl⟩
 ·omega
 ·exact absurd h1 g1
 ·rcases g2 with g2 | g2
  ·exact absurd h2 g2
  ·exact absurd h3 g2
 ·omega
 ·exact ⟨rfl,rfl⟩
theorem PutR.mem {l r:List Q_} {d:Q_} {c:Int} (h:PutR l d c r) {x:Q_} (hx:x∈r):x=d∨x∈l:=by
 rcases h with ⟨_,_,rfl⟩ | ⟨_,_,_,rfl⟩ | ⟨_,_,_,_,_,rfl⟩ | ⟨_,_,_,_,_,rfl⟩
 ·cases hx
 ·cases hx
 ·cases hx
 ·exact putIn_mem hx
theorem PutR.len {l r:List Q_} {d:Q_} {c:Int} (h:PutR l d c r):r.length<=60:=by
 rcases h with ⟨_,_,rfl⟩ | ⟨_,_,_,rfl⟩ | ⟨_,_,_,_,_,rfl⟩ | ⟨h,_,_,h2,_,rfl⟩
 ·simp
 ·simp
 ·simp
 ·exact h2
