import Derived.Test.YteabdfhkoloimaaKOCopy3
import Derived.Test.YteabdfhkoloimaaKWCheck4
set_option maxRecDepth 100000
set_option maxHeartbeats 25600000
namespace Go.Proofs.Yteabdfhkoloimaa
open Go.RowKit
structure Q_.Small (d:Q_):Prop where
 name:d.name.size<=1048576
 steps:d.steps.length<=1048576
 each: ∀s∈d.steps,s.Small
theorem copyNodesN_in (w:World) (a:Option Addr) (cap:Nat) (l:List Q_) (hl:l.length<=1048576) (hs: ∀s∈l,s.Small) (hS:Nodes w a l):
  Calls Try.prog 42 #[.slice a l.length cap,.func (.func 43) #[] #[]] w fun e w'=> ∃a',e= .returned (.slice a' l.length l.length)∧NodesIn w' w.heap.size w'.heap.size a' l∧K_ w w'∧(l=[]->a'=none):=by
 by_cases h0:l.length=0
 ·have hnil:l=[]:=List.eq_nil_of_length_eq_zero h0
  subst hnil
  go_enter Try.func42,Try.ntmps42
  go_wp2
  go_ret
  exact ⟨none,rfl,.inl rfl,K_.refl _,fun _=> rfl⟩
 ·have hmk:=run_make_many (P:=Try.prog) 23 30 _ _ _ Try.underlying23 Try.infoNode .i64 .i64 l.length (by omega) (by omega)
  have h00: ((l.length:Int) == 0)=false:=by simpa using h0
  go_enter Try.func42,Try.ntmps42
  go_wp2
  clear hmk h00
  have hrow:=Row.made w (madeCells #[.string ⟨#[]⟩,.int .i64 0,.slice none 0 0] (l.length * 3)) 30
  rw [size_madeCells] at hrow
  have hkept:K_ w (w.alloc (.cells (madeCells #[.string ⟨#[]⟩,.int .i64 0,.slice none 0 0] (l.length * 3)) 30)):= (K_.refl _).alloc _
  go_loopw [16] (fun i wr=> ∃k:Nat,k<=l.length∧i= .int .i64 k∧K_ w wr∧Row wr w.heap.size (l.length * 3)∧∃c:Nat->Nat,w.heap.size < c 0∧c k<=wr.heap.size∧(∀i j,i<=j->c i<=c j)∧∀j,j < k->NodeIn wr w.heap.size j (c j) (c (j+1)) (l.getD j Q_.zero)) (fun i _=> l.length - (intOf i).toNat)
  case atStart=> exact ⟨0,Nat.zero_le _,rfl,hkept,hrow,fun _=> w.heap.size+1,Nat.lt_succ_self _,by simp,fun _ _ _=> Nat.le_refl _,fun j hj=> absurd hj (Nat.not_lt_zero _)⟩
  case round=>
   obtain ⟨k,hk,rfl,hw,hr,c,hc0,hck,hmono,hf⟩:=hrel
   have HMono:=Kz hmono
   clear hmono
   clear hrow hkept
   by_cases hlt:k < l.length
   ·obtain ⟨b,o,cs,rfl,hb,hc,aa,ca,rfl,hA⟩:=hS.kept hw k hlt
    have hsz:=hs (l.getD k Q_.zero) (by simp [List.getD,hlt])
    have HF:=Kz hf
    clear hf hs
    generalize hs:l.getD k Q_.zero=s at *
    have HSs:=Kz hs
    clear hs
    have c0:=hc 0 _ rfl
    have c1:=hc 1 _ rfl
    have c2:=hc 2 _ rfl
    simp only [Nat.add_zero] at c0
    clear hc
    go_wp2_with fail
    refine (copyNode_in _ s aa ca hsz.name hsz.steps hsz.each (hA.kept (by repeat (first | (refine K_.setCell ?_ (by simp) _) | apply K_.alloc | exact K_.refl _)))).mono ?_
    rintro e w1 ⟨b1,rfl,g1,k1⟩
    simp only [World.size_alloc] at g1
    have hw1:K_ wr w1:=K_.trans (by repeat (first | (refine K_.setCell ?_ (by simp) _) | apply K_.alloc | exact K_.refl _)) k1
    have hz1:=hw1.size
    have hrl:=hr.lt
    have hw2:=hw.trans hw1
    have hr1:=hr.kept hw1
    generalize hcs:s.cells b1 s.steps.length=cs
    have hlen:cs.length=3:=by rw [<-hcs];rfl
    have hone:cs.toArray.all (·.oneCell')=true:=by rw [<-hcs];exact Q_.one s _ _
    have hth:w1.there w.heap.size (k * 3) cs.toArray.size:=by simpa [hlen] using hr1.there (o:=k * 3) (m:=3) (by omega)
    have hsize: (Try.prog.info? 30).map (·.size)=some cs.toArray.size:=by rw [Try.sizeNode];simp [hlen]
    have HCS:=Kz hcs
    have HLEN:=Kz hlen
    have HSZ:=Kz hsize
    clear hcs hlen hsize
    have HR:Hid (Row w1 w.heap.size (l.length * 3)):=hr1
    have HF1:Hid (∀j,j < k->NodeIn w1 w.heap.size j (c j) (c (j+1)) (l.getD j Q_.zero)):=fun j hj=> (HF.out j hj).kept hw1 hr.lt
    clear HF c0 c1 c2 hw hw1 k1 hr hr1 hA
    go_wp2_with (refine wpList_store_mid rfl 30 _ _ rfl w.heap.size (k * 3) cs.toArray rfl rfl hth (unhide HSZ) hone ?_)
    go_roundw
    case rel=>
     have hmono:=HMono.out
     refine ⟨k+1,by omega,by go_num,K_.setCells (Nat.le_refl _) _ _ hw2,Row.setCells _ _ HR.out,cutAt c k w1.heap.size,by rw [cutAt_le (Nat.zero_le _)];exact hc0,by rw [cutAt_gt (by omega),size_setCells];exact Nat.le_refl _,cutAt_mono hmono (by omega),fun j hj=> ?_⟩
     by_cases e:j=k
     ·subst e
      rw [unhide HSs,cutAt_le (Nat.le_refl _),cutAt_gt (by omega)]
      have hcj:w.heap.size < c j:=Nat.lt_of_lt_of_le hc0 (hmono 0 j (Nat.zero_le _))
      exact ⟨_,_,by rw [HCS.out];exact World.rangeAt_setCells_same _ _ _ _ (by simpa using hth),(g1.mono (by omega) (Nat.le_refl _)).same (Same.setCells (.inl hcj) _ _ _)⟩
     ·rw [cutAt_le (by omega),cutAt_le (by omega)]
      exact (HF1.out j (by omega)).setCells (Nat.lt_of_lt_of_le hc0 (hmono 0 j (Nat.zero_le _))) (by rw [HLEN.out];omega)
    case measure=> simp [intOf];omega
   ·go_wp2
    go_ret
    have:k=l.length:=by omega
    subst this
    exact ⟨_,rfl,.inr ⟨w.heap.size,c,rfl,Nat.le_refl _,hc0,hck,hr,HMono.out,hf⟩,hw,fun e=> absurd (by rw [e];rfl) h0⟩
theorem webOfN_in (w:World) (a:Option Addr) (cap:Nat) (l:List Q_) (hl:l.length<=1048576) (hs: ∀s∈l,s.Small) (hS:Nodes w a l):
  Calls Try.prog 21 #[.agg #[.slice a l.length cap,.func (.func 39) #[] #[]]] w fun e w'=> ∃a',e= .returned (.agg #[.slice a' l.length l.length])∧NodesIn w' w.heap.size w'.heap.size a' l∧K_ w w'∧(l=[]->a'=none):=by
 go_enter Try.func21,Try.ntmps21
 go_wp2_with fail
 refine (copyNodesN_in _ a cap l hl hs (hS.kept (by repeat (first | apply K_.alloc | exact K_.refl _)))).mono ?_
 rintro e w1 ⟨a2,rfl,hS2,k1,hz⟩
 have hz1:=k1.size
 simp only [World.size_alloc] at hz1 hS2
 have K1:K_ w w1:=K_.trans (by repeat (first | apply K_.alloc | exact K_.refl _)) k1
 have hrow1:Row w1 (w.heap.size+1) 1:=Row.kept (by have:=Row.made (w.alloc (.cells #[.slice a l.length cap,.func (.func 39) #[] #[]] 51)) #[.slice none 0 0] 25;simpa using this) k1
 obtain ⟨⟨_,x0⟩,g0⟩:=hrow1.at (i:=0) (by omega)
 have HR1:=Kz hrow1
 have HS2:=Kz hS2
 clear k1 hrow1 hS2
 go_wp2
 have hR:=World.rangeAt_setCells_same _ (w.heap.size+1) 0 [.slice a2 l.length l.length] (HR1.out.there (o:=0) (m:=1) (Nat.le_refl _))
 refine Zk [.slice a2 l.length l.length] _ Try.results21 rfl hR Try.underlying25 rfl Try.sizeWeb rfl ⟨a2,rfl,NodesIn.mono (lo:=w.heap.size+1+1) (hi:=w1.heap.size) ?_ (by omega) (by simp), ?_,hz⟩
 ·repeat (first | (refine NodesIn.setCell ?_ (by simp <;> omega) _) | exact HS2.out)
 ·repeat (first | (refine K_.setCell ?_ (by simp <;> omega) _) | exact K1)
