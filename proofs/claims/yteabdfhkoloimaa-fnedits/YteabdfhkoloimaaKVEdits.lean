import Derived.Test.YteabdfhkoloimaaKOPut0
set_option maxRecDepth 100000
set_option maxHeartbeats 25600000
namespace Go.Proofs.Yteabdfhkoloimaa
open Go.RowKit
def lessR (x y:Q_):Prop:=Op.bytesLess x.name.toList y.name.toList=true
theorem rises_pair {l:List Q_}:Rises l↔l.Pairwise lessR:=by
 rw [List.pairwise_iff_getElem]
 constructor
 ·intro h i j hi hj hij
  have:=h i j hij hj
  rw [nameAt_get hi,nameAt_get hj] at this
  exact this
 ·intro h i j hij hj
  rw [nameAt_get (by omega),nameAt_get hj]
  exact h i j (by omega) hj hij
theorem getD_mem {l:List Q_} {i:Nat} (h:i < l.length):l.getD i Q_.zero∈l:=by simp [List.getD,h]
theorem code0_iff {l:List Q_}:WebCode l 0↔l.length<=60∧(∀x∈l,NameOk x.name)∧Rises l∧∀x∈l,ActionOk ⟨x.cost,x.steps⟩:=by
 constructor
 ·intro h
  have hr:=rises_of_code h
  rcases h with ⟨_,e⟩ | ⟨_,_,e⟩ | ⟨_,_,_,e⟩ | ⟨_,_,_,_,e⟩ | ⟨h1,h2,h3,h4,_⟩
  ·omega
  ·omega
  ·omega
  ·omega
  ·refine ⟨by omega,fun x hx=> ?_,hr,fun x hx=> ?_⟩
   ·apply Classical.byContradiction
    intro hb
    obtain ⟨i,hi,rfl⟩:=List.getElem_of_mem hx
    exact h2 ⟨i,hi,by simp only [List.getD,List.getElem?_eq_getElem hi,Option.getD_some];exact hb⟩
   ·apply Classical.byContradiction
    intro hb
    obtain ⟨i,hi,rfl⟩:=List.getElem_of_mem hx
    exact h4 ⟨i,hi,by simp only [List.getD,List.getElem?_eq_getElem hi,Option.getD_some];exact hb⟩
 ·rintro ⟨h1,h2,h3,h4⟩
  refine .inr (.inr (.inr (.inr ⟨by omega, ?_, ?_, ?_,rfl⟩)))
  ·rintro ⟨i,hi,hb⟩
   exact hb (h2 _ (getD_mem hi))
  ·rintro ⟨i,hi,hb⟩
   have:=h3 i (i+1) (by omega) hi
   have hb':Op.bytesLess (nameAt l i) (nameAt l (i+1))=false:=hb
   rw [hb'] at this
   cases this
  ·rintro ⟨i,hi,hb⟩
   exact hb (h4 _ (getD_mem hi))
theorem code0_sub {l r:List Q_} (h:WebCode l 0) (hs:r.Sublist l):WebCode r 0:=by
 obtain ⟨h1,h2,h3,h4⟩:=code0_iff.1 h
 exact code0_iff.2 ⟨Nat.le_trans hs.length_le h1,fun x hx=> h2 x (hs.subset hx),rises_pair.2 ((rises_pair.1 h3).sublist hs),fun x hx=> h4 x (hs.subset hx)⟩
theorem put_code {l:List Q_} {d:Q_} (h:WebCode l 0) (hn:NameOk d.name) (ha:ActionOk ⟨d.cost,d.steps⟩) (hl: (putIn l d).length<=60):WebCode (putIn l d) 0:=by
 obtain ⟨_,h2,h3,h4⟩:=code0_iff.1 h
 have hp:=rises_pair.1 h3
 refine code0_iff.2 ⟨hl,fun x hx=> ?_,rises_pair.2 ?_,fun x hx=> ?_⟩
 ·rcases putIn_mem hx with rfl | hx
  ·exact hn
  ·exact h2 x hx
 ·unfold putIn
  have hA: ∀x∈l.filter (lessN d.name.toList),lessR x d:=fun x hx=> (List.mem_filter.1 hx).2
  have hB: ∀x∈l.filter (moreN d.name.toList),lessR d x:=fun x hx=> (List.mem_filter.1 hx).2
  rw [List.pairwise_append]
  refine ⟨hp.sublist List.filter_sublist,List.pairwise_cons.2 ⟨hB,hp.sublist List.filter_sublist⟩,fun x hx y hy=> ?_⟩
  rcases List.mem_cons.1 hy with rfl | hy
  ·exact hA x hx
  ·exact less_trans _ _ _ (hA x hx) (hB y hy)
 ·rcases putIn_mem hx with rfl | hx
  ·exact ha
  ·exact h4 x hx
theorem less_other {key:List UInt8} {x:Q_} (h:lessN key x=true):otherN key x=true:=by
 unfold otherN lessN at *
 cases e: (x.name.toList == key)
 ·rfl
 ·rw [beq_iff_eq] at e
  rw [e,less_irrefl] at h
  cases h
theorem more_other {key:List UInt8} {x:Q_} (h:moreN key x=true):otherN key x=true:=by
 unfold otherN moreN at *
 cases e: (x.name.toList == key)
 ·rfl
 ·rw [beq_iff_eq] at e
  rw [e,less_irrefl] at h
  cases h
theorem filter_filter_of {f g:Q_->Bool} (h: ∀x,f x=true->g x=true) (l:List Q_): (l.filter g).filter f=l.filter f:=by
 rw [List.filter_filter]
 apply List.filter_congr
 intro x _
 cases e:f x
 ·rfl
 ·rw [h x e];rfl
theorem putIn_others (l:List Q_) (d:Q_):putIn (l.filter (otherN d.name.toList)) d=putIn l d:=by
 unfold putIn
 rw [filter_filter_of (fun x h=> less_other h),filter_filter_of (fun x h=> more_other h)]
theorem put_drop {l r:List Q_} {d:Q_} {c:Int} (h:WebCode l 0) (hn:NameOk d.name) (hc:WebCode (putIn l d) 0) (hD:DropR (putIn l d) d.name c r):c=0∧r=l.filter (otherN d.name.toList):=by
 have hlt:aheadN l d < (putIn l d).length:=by unfold aheadN putIn;simp
 have hat:nameAt (putIn l d) (aheadN l d)=d.name.toList:=by unfold nameAt;rw [putIn_at]
 have hcut:cutOut (putIn l d) (aheadN l d)=l.filter (otherN d.name.toList):=by
  rw [filter_other _ (rises_of_code h)]
  unfold cutOut putIn aheadN
  simp
 exact hD.unique (.inr (.inr (.inr ⟨hc,hn,_,hlt,hat,rfl,hcut.symm⟩)))
theorem put_again {l r:List Q_} {d:Q_} {c:Int} (h:WebCode l 0) (hn:NameOk d.name) (ha:ActionOk ⟨d.cost,d.steps⟩) (hl: (putIn l d).length<=60) (hP:PutR (l.filter (otherN d.name.toList)) d c r):c=0∧r=putIn l d:=by
 refine hP.unique (.inr (.inr (.inr ⟨code0_sub h List.filter_sublist,hn,ha, ?_,rfl, ?_⟩)))
 ·rw [putIn_others];exact hl
 ·rw [putIn_others]
theorem drop_gone {l r:List Q_} {d:Q_} {c:Int} (h:WebCode l 0) (hn:NameOk d.name) (hD:DropR (l.filter (otherN d.name.toList)) d.name c r):c=4:=by
 refine (hD.unique (r':=[]) (.inr (.inr (.inl ⟨code0_sub h List.filter_sublist,hn,fun j hj e=> ?_,rfl,rfl⟩)))).1
 rw [nameAt_get hj] at e
 have hx:= (List.mem_filter.1 (List.getElem_mem hj)).2
 generalize (l.filter (otherN d.name.toList))[j]=x at e hx
 simp only [otherN,e,beq_self_eq_true,Bool.not_true,Bool.false_eq_true] at hx
