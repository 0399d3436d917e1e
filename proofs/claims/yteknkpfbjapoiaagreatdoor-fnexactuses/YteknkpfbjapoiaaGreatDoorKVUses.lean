import Derived.Test.YteknkpfbjapoiaaGreatDoorKXValid0
import Derived.Test.YteknkpfbjapoiaaGreatDoorKXValid
import Derived.Test.YteknkpfbjapoiaaGreatDoorKVCirc
import Derived.Test.YteknkpfbjapoiaaGreatDoorKRTo
import Derived.Test.YteknkpfbjapoiaaGreatDoorKVLead
namespace Go.Proofs.YteknkpfbjapoiaaGreatDoor
open Go.RowKit
theorem ValidX.good {webl:List NodeD} {roots:List ByteArray} {sl:List RunX} (h:ValidX webl roots sl):GoodL webl sl:=by
 obtain ⟨_,_,_,k,L,hg,_,_,rfl⟩:=h
 exact hg
def ringF (V:Nat→Nat) (f n i:Nat):Value:= .int .i64 ((if i < 60 then V i else if i=60 then f else n:Nat):Int)
structure RingM (w:World) (rb:Nat) (Q:List Nat):Prop where
 ex: ∃V f,f < 60∧Q.length≤60∧w.rowIs rb 200 62 (ringF V f Q.length)∧∀i,i < Q.length→V ((f+i) % 60)=Q.getD i 0
theorem RingM.block {w w':World} {rb:Nat} {Q:List Nat} (h:RingM w rb Q) (k:w'.heap[rb]? =w.heap[rb]?):RingM w' rb Q:=by
 obtain ⟨V,f,h1,h2,⟨c,h3,h4⟩,h5⟩:=h
 exact ⟨V,f,h1,h2,⟨c,k.trans h3,h4⟩,h5⟩
theorem row_put {w:World} {b n:Nat} {t:TypeId} {F G:Nat→Value} (h:w.rowIs b t n F) (i:Nat) (v:Value) (hG: ∀p,p < n→G p=if p=i then v else F p): (w.setCell ⟨b,i,none⟩ v).rowIs b t n G:=by
 obtain ⟨c,h1,h2,h3⟩:=World.rowIs.set h i v
 refine ⟨c,h1,h2,fun p hp=> ?_⟩
 rw [h3 p hp,hG p hp]
theorem row_kept {w w':World} {b n:Nat} {t:TypeId} {F:Nat→Value} (h:w.rowIs b t n F) (k:Kept w w'):w'.rowIs b t n F:=by
 obtain ⟨c,h1,h2⟩:=h
 exact ⟨c,(k.block b (heap_lt h1)).trans h1,h2⟩
set_option maxHeartbeats 1600000 in
theorem put_any (w:World) (rb:Nat) (Q:List Nat) (p:Nat) (hR:RingM w rb Q) (hl:Q.length < 60):
  Calls Tryz.prog 143 #[.pointer (some ⟨rb,0,none⟩),.int .i64 (p:Int)] w fun e w'=> e= .returned (.tuple #[])∧RingM w' rb (Q++ [p])∧But (fun b=> b=rb) w w':=by
 obtain ⟨V,f,hf,hn,hr,hV⟩:=hR.ex
 obtain ⟨n,hnn⟩: ∃n,n=Q.length:= ⟨_,rfl⟩
 rw [←hnn] at hr hl
 obtain ⟨k,hk⟩: ∃k,k= (f+n) % 60:= ⟨_,rfl⟩
 have hk60:k < 60:=by omega
 have c1:w.cell? ⟨rb,60,none⟩=some (.int .i64 (f:Int)):=by rw [hr.cell (by omega)];rfl
 have c2:w.cell? ⟨rb,61,none⟩=some (.int .i64 (n:Int)):=by rw [hr.cell (by omega)];rfl
 have hdm: ((f:Int)+ (n:Int)).tmod 60= (k:Int):=by rw [Int.tmod_eq_emod_of_nonneg (by omega)];omega
 have hfr:=fun i=> hr.frozen i
 have f0:=hfr k
 have f1:=hfr 61
 have hki: (k:Int) < 60:=by omega
 have o0:=hr.cell (show k < 62 by omega)
 have hw1:=row_put hr k (.int .i64 (p:Int)) (G:=ringF (fun i=> if i=k then p else V i) f n) (fun i hi=> by
  unfold ringF
  by_cases e:i=k
  ·subst e;simp [hk60]
  ·simp [e])
 obtain ⟨w1,hw1e⟩: ∃w1,w1=w.setCell ⟨rb,k,none⟩ (.int .i64 (p:Int)):= ⟨_,rfl⟩
 rw [←hw1e] at hw1
 have kb1:But (fun b=> b=rb) w w1:=by rw [hw1e];exact But.set (S:=fun b=> b=rb) (But.of_kept (Kept.refl w)) (p:= ⟨rb,k,none⟩) rfl _
 have HW1:=hide hw1
 have HKb:=hide kb1
 have HV:Hid (∀i,i < Q.length→V ((f+i) % 60)=Q.getD i 0):=hV
 have HK:Hid (k= (f+n) % 60):=hk
 have HN:Hid (n=Q.length):=hnn
 clear hr hfr hw1 kb1 hV hk hnn hR
 go_enter Tryz.func143,Tryz.ntmps143
 go_wp2
 go_region
 rw [←hw1e]
 have KD:Kept w1 w1.drew:= (Kept.refl w1).drew
 generalize hwd:w1.drew=w2 at KD⊢
 clear hw1e hwd c1 c2 f0 f1 o0 hdm
 have hr2:=row_kept HW1.out KD
 have c2:w2.cell? ⟨rb,61,none⟩=some (.int .i64 (n:Int)):=by rw [hr2.cell (by omega)];rfl
 have f1:=hr2.frozen 61
 have HR2:=hide hr2
 have HK2:=hide (HKb.out.trans (But.of_kept KD))
 clear hr2 KD
 go_wp2_with fail
 go_end0
 refine ⟨rfl,⟨fun i=> if i=k then p else V i,f,hf,by rw [List.length_append];simp;have:=HN.out;omega, ?_,fun i hi=> ?_⟩,But.set (S:=fun b=> b=rb) HK2.out (p:= ⟨rb,61,none⟩) rfl _⟩
 ·rw [List.length_append]
  refine row_put HR2.out 61 _ (fun i hi=> ?_)
  unfold ringF
  have hn2:=HN.out
  by_cases e:i=61
  ·subst e;simp [hn2]
  ·have e2: ¬i < 60→i=60:=by omega
   by_cases e3:i < 60
   ·simp [e3,e]
   ·simp [e2 e3]
 ·rw [List.length_append] at hi
  have hn2:=HN.out
  have hk2:=HK.out
  by_cases e:i=Q.length
  ·subst e
   simp only [←hn2,←hk2,if_true,List.getD]
   rw [hn2]
   simp
  ·have hiq:i < Q.length:=by simp at hi;omega
   have hne: (f+i) % 60≠k:=by omega
   simp only [if_neg hne,HV.out i hiq,List.getD,List.getElem?_append_left hiq]
set_option maxHeartbeats 1600000 in
theorem take_any (w:World) (rb:Nat) (Q:List Nat) (p:Nat) (hR:RingM w rb (p :: Q)):
  Calls Tryz.prog 144 #[.pointer (some ⟨rb,0,none⟩)] w fun e w'=> e= .returned (.int .i64 (p:Int))∧RingM w' rb Q∧But (fun b=> b=rb) w w':=by
 obtain ⟨V,f,hf,hn,hr,hV⟩:=hR.ex
 obtain ⟨n,hnn⟩: ∃n,n=Q.length:= ⟨_,rfl⟩
 have hp:V f=p:=by have:=hV 0 (by simp);simpa [Nat.mod_eq_of_lt hf] using this
 rw [List.length_cons,←hnn] at hr
 rw [List.length_cons,←hnn] at hn
 have hfi: (f:Int) < 60:=by omega
 have HC0:Hid (∀u,w.rowIs rb 200 62 (ringF V f (n+1))→Kept w u→u.cell? ⟨rb,60,none⟩=some (.int .i64 (f:Int))∧u.cell? ⟨rb,f,none⟩=some (.int .i64 (p:Int))):=fun u hr k=> by
  have h2:=row_kept hr k
  refine ⟨by rw [h2.cell (by omega)];rfl, ?_⟩
  rw [h2.cell (by omega)]
  unfold ringF
  rw [if_pos hf,hp]
 obtain ⟨c1,c2⟩:=HC0.out w hr (Kept.refl w)
 have HR:=hide hr
 have HV:Hid (∀i,i < Q.length→V ((f+ (i+1)) % 60)=Q.getD i 0):=fun i hi=> by have:=hV (i+1) (by simp;omega);simpa using this
 have HN:Hid (n=Q.length):=hnn
 clear hr hV hnn hR hp HC0
 go_enter Tryz.func144,Tryz.ntmps144
 go_wp2
 go_region
 have KD:Kept w w.drew:= (Kept.refl w).drew
 generalize hwd:w.drew=w1 at KD⊢
 clear hwd c1 c2
 have hr1:=row_kept HR.out KD
 have c1:w1.cell? ⟨rb,60,none⟩=some (.int .i64 (f:Int)):=by rw [hr1.cell (by omega)];rfl
 obtain ⟨k,hk⟩: ∃k,k= (f+1) % 60:= ⟨_,rfl⟩
 have hdm: ((f:Int)+1).tmod 60= (k:Int):=by rw [Int.tmod_eq_emod_of_nonneg (by omega)];omega
 have f1:=hr1.frozen 60
 have HR1:=hide hr1
 have HK:=hide hk
 clear hr1 HR hk
 go_upto_region 3 with fail
 have hr2:=row_put HR1.out 60 (.int .i64 (k:Int)) (G:=ringF V k (n+1)) (fun i hi=> by
  unfold ringF
  by_cases e:i=60
  ·subst e;simp
  ·by_cases e3:i < 60
   ·simp [e3,e]
   ·simp [e3,e])
 have kb:But (fun b=> b=rb) w (w1.setCell ⟨rb,60,none⟩ (.int .i64 (k:Int))):=But.set (S:=fun b=> b=rb) (But.of_kept KD) (p:= ⟨rb,60,none⟩) rfl _
 generalize hw2:w1.setCell ⟨rb,60,none⟩ (.int .i64 (k:Int))=w2 at hr2 kb⊢
 clear hw2 c1 f1 hdm
 have c2:w2.cell? ⟨rb,61,none⟩=some (.int .i64 ((n+1:Nat):Int)):=by rw [hr2.cell (by omega)];rfl
 have f2:=hr2.frozen 61
 have hsub: ((n+1:Nat):Int) - 1= (n:Int):=by omega
 have hr3:=row_put hr2 61 (.int .i64 (n:Int)) (G:=ringF V k n) (fun i hi=> by
  unfold ringF
  by_cases e:i=61
  ·subst e;simp
  ·have e2: ¬i < 60→i=60:=by omega
   by_cases e3:i < 60
   ·simp [e3,e]
   ·simp [e2 e3])
 have HR3:=hide hr3
 have HB:=hide (But.set (S:=fun b=> b=rb) kb (p:= ⟨rb,61,none⟩) rfl (.int .i64 (n:Int)))
 clear hr2 hr3 kb
 go_wp2_with fail
 go_ret
 refine ⟨rfl,⟨V,k, ?_, ?_, ?_,fun i hi=> ?_⟩,HB.out⟩
 ·rw [HK.out];omega
 ·have:=HN.out;omega
 ·rw [←HN.out];exact HR3.out
 ·rw [←HV.out i hi]
  have:=HK.out
  congr 1
  omega
section
variable (W : Acts) (σ : Env)
end
def AscB (l:List ByteArray):Prop:=l.Pairwise lessX
theorem ascB_eq : ∀{l m:List ByteArray},AscB l→AscB m→(∀s,s∈l↔s∈m)→l=m
 | [],[],_,_,_=> rfl
 | [],y :: m,_,_,h=> by have:= (h y).2 (by simp);cases this
 | x :: l,[],_,_,h=> by have:= (h x).1 (by simp);cases this
 | x :: l,y :: m,hl,hm,h=> by
  obtain ⟨h1,h2⟩:=List.pairwise_cons.1 hl
  obtain ⟨g1,g2⟩:=List.pairwise_cons.1 hm
  have e:x=y:=by
   rcases List.mem_cons.1 ((h x).1 (by simp)) with e | e
   ·exact e
   ·rcases List.mem_cons.1 ((h y).2 (by simp)) with e' | e'
    ·exact e'.symm
    ·exact absurd (h1 y e') (lessX_asymm (g1 x e))
  subst e
  congr 1
  refine ascB_eq h2 g2 (fun s=> ?_)
  constructor
  ·intro hs
   rcases List.mem_cons.1 ((h s).1 (List.mem_cons_of_mem _ hs)) with e | e
   ·rw [e] at hs;exact absurd (h1 x hs) (lessX_irrefl x)
   ·exact e
  ·intro hs
   rcases List.mem_cons.1 ((h s).2 (List.mem_cons_of_mem _ hs)) with e | e
   ·rw [e] at hs;exact absurd (g1 x hs) (lessX_irrefl x)
   ·exact e
def PutB (l:List ByteArray) (x:ByteArray) (r:List ByteArray):Prop:= (x∈l∧r=l)∨(x∉l∧∃k,k≤l.length∧r=l.take k++x :: l.drop k∧(∀y∈l.take k,lessX y x)∧∀y∈l.drop k,lessX x y)
theorem PutB.asc {l r:List ByteArray} {x:ByteArray} (h:PutB l x r) (ha:AscB l):AscB r∧∀s,s∈r↔s∈l∨s=x:=by
 rcases h with ⟨h1,rfl⟩ | ⟨h1,k,hk,rfl,h2,h3⟩
 ·exact ⟨ha,fun s=> ⟨.inl,fun h=> h.elim id (fun e=> by rw [e];exact h1)⟩⟩
 ·have h4:AscB (l.take k++l.drop k):=by rw [List.take_append_drop];exact ha
  unfold AscB at h4⊢
  rw [List.pairwise_append] at h4⊢
  refine ⟨⟨h4.1,List.pairwise_cons.2 ⟨h3,h4.2.1⟩,fun a ha b hb=> ?_⟩,fun s=> ?_⟩
  ·rcases List.mem_cons.1 hb with rfl | hb
   ·exact h2 a ha
   ·exact h4.2.2 a ha b hb
  ·rw [List.mem_append,List.mem_cons]
   constructor
   ·rintro (h | h | h)
    ·exact .inl (List.mem_of_mem_take h)
    ·exact .inr h
    ·exact .inl (List.mem_of_mem_drop h)
   ·rintro (h | h)
    ·rw [←List.take_append_drop k l] at h
     rcases List.mem_append.1 h with h | h
     ·exact .inl h
     ·exact .inr (.inr h)
    ·exact .inr (.inl h)
section
variable (W : Acts) (σ : Env)
end
theorem arrive_asks {A:ActionD} {r:RunX}: (arrive A r).2= (stepOf A (arrive A r).1.at').asks:=by
 unfold arrive
 simp only
 split <;> rfl
theorem next_asksX {W:Acts} {σ:Env} {r:RunX} {A:ActionD} (hA:W r.name=some A) (hc:CanGo W σ r) (ho: (nextOf W σ r).1.over=false): (nextOf W σ r).2= (stepOf A (nextOf W σ r).1.at').asks:=by
 unfold nextOf at ho⊢
 rw [hA] at ho⊢
 simp only at ho⊢
 by_cases hv:r.visits=0
 ·rw [if_pos hv];exact arrive_asks
 ·rw [if_neg hv] at ho⊢
  rcases hc.2 with e | ⟨A',xs,hA',hxs⟩
  ·exact absurd e hv
  ·rw [hA] at hA'
   cases hA'
   rw [hxs] at ho⊢
   simp only at ho⊢
   by_cases h20:r.visits=20
   ·rw [if_pos h20] at ho;cases ho
   ·rw [if_neg h20] at ho⊢
    by_cases hgo: (goOnF (stepOf A r.at') xs).over=true
    ·rw [if_pos hgo] at ho;cases ho
    ·rw [if_neg hgo];exact arrive_asks
theorem cmpLess_any (w:World) (x y:ByteArray):Calls Tryz.prog 140 #[.string x,.string y] w fun e w'=> e= .returned (.bool (Op.bytesLess x.toList y.toList))∧w'=w:=by
 cases h1:Op.bytesLess x.toList y.toList
 all_goals
  go_enter Tryz.func140,Tryz.ntmps140
  go_wp2
  go_ret
  exact ⟨rfl,rfl⟩
theorem slicesNaN_any (w:World) (x:ByteArray):Calls Tryz.prog 141 #[.string x] w fun e w'=> e= .returned (.bool false)∧w'=w:=by
 go_enter Tryz.func141,Tryz.ntmps141
 go_wp2
 go_ret
 exact ⟨rfl,rfl⟩
def FoundS (l:List ByteArray) (s:ByteArray) (e:Ending):Prop:= ∃(k:Nat) (b:Bool),e= .returned (.tuple #[.int .i64 (k:Int),.bool b])∧(b=true→k < l.length∧l.getD k ByteArray.empty=s)∧(b=false→s∉l)
theorem FoundS.mk {l:List ByteArray} {s:ByteArray} {e:Ending} (k:Nat) (b:Bool) (h:e= .returned (.tuple #[.int .i64 (k:Int),.bool b])) (h1:b=true→k < l.length∧l.getD k ByteArray.empty=s) (h2:b=false→s∉l):FoundS l s e:= ⟨k,b,h,h1,h2⟩
set_option maxRecDepth 100000 in
set_option maxHeartbeats 1600000 in
theorem bsearch_any (w:World) (a:Option Addr) (cap:Nat) (l:List ByteArray) (s:ByteArray) (hl:l.length≤1048576) (ha:AscB l) (hS:Strs w a l):
  Calls Tryz.prog 93 #[.slice a l.length cap,.string s] w fun e w'=> FoundS l s e∧w'=w:=by
 have HA:Hid (∀p q,p < q→q < l.length→lessX (l.getD p ByteArray.empty) (l.getD q ByteArray.empty)):=fun p q h1 h2=> by
  have:=List.pairwise_iff_getElem.1 ha p q (by omega) h2 h1
  simpa [List.getD,h2,show p < l.length by omega] using this
 clear ha
 go_enter Tryz.func93,Tryz.ntmps93
 go_wp2
 go_loopw [7,8] (fun x y wr=> ∃i j:Nat,x= .int .i64 i∧y= .int .i64 j∧i≤j∧j≤l.length∧Hid (∀t,t < i→lessX (l.getD t ByteArray.empty) s)∧Hid (∀t,j≤t→t < l.length→¬lessX (l.getD t ByteArray.empty) s)∧wr=w) (fun x y _=> (intOf y).toNat - (intOf x).toNat)
 case atStart=> exact ⟨0,l.length,rfl,rfl,Nat.zero_le _,Nat.le_refl _,hide (fun t ht=> absurd ht (Nat.not_lt_zero _)),hide (fun t h1 h2=> by omega),rfl⟩
 case round=>
  obtain ⟨i,j,rfl,rfl,hij,hjn,HB,HN,rfl⟩:=hrel
  by_cases hlt: (i:Int) < j
  ·obtain ⟨h,hh⟩: ∃h:Nat,h= (i+j) / 2:= ⟨_,rfl⟩
   have hhlt:h < l.length:=by omega
   have hhi:i≤h:=by omega
   have hhj:h < j:=by omega
   obtain ⟨b,o,rfl,hb,hcs⟩:=hS h hhlt
   obtain ⟨d,hd⟩: ∃d,d=l.getD h ByteArray.empty:= ⟨_,rfl⟩
   rw [←hd] at hcs
   have HD:=hide hd
   clear hd
   have hmid: ((i:Int)+ (j:Int)) / 2= (h:Int):=by omega
   have HH:=hide hh
   clear hh
   go_wp2_with fail
   refine (cmpLess_any _ d s).mono ?_
   rintro e w1 ⟨rfl,rfl⟩
   clear hcs
   cases hls:Op.bytesLess d.toList s.toList
   ·go_wp2_with fail
    go_roundw
    case rel=>
     refine ⟨i,h,rfl,by go_num,hhi,by omega,HB,hide (fun t h1 h2 hlt2=> ?_),trivial⟩
     have hno: ¬lessX (l.getD h ByteArray.empty) s:=fun g=> by rw [←HD.out] at g;unfold lessX at g;rw [hls] at g;cases g
     rcases Nat.lt_or_ge h t with e | e
     ·exact hno (lessX_trans (HA.out h t e h2) hlt2)
     ·have:t=h:=by omega
      subst this
      exact hno hlt2
    case measure=> simp [intOf];omega
   ·go_wp2_with fail
    go_roundw
    case rel=>
     refine ⟨h+1,j,by go_num,rfl,by omega,hjn,hide (fun t ht=> ?_),HN,trivial⟩
     have hyes:lessX (l.getD h ByteArray.empty) s:=by rw [←HD.out];exact hls
     rcases Nat.lt_or_ge t h with e | e
     ·exact lessX_trans (HA.out t h e hhlt) hyes
     ·have:t=h:=by omega
      subst this
      exact hyes
    case measure=> simp [intOf];omega
  ·have hij':i=j:=by omega
   subst hij'
   have HMem:Hid (s∈l→i < l.length∧l.getD i ByteArray.empty=s):=fun hm=> by
    obtain ⟨q,hq,e⟩:=List.getElem_of_mem hm
    have e2:l.getD q ByteArray.empty=s:=by simpa [List.getD,hq] using e
    have h1: ¬q < i:=fun g=> by have:=HB.out q g;rw [e2] at this;exact lessX_irrefl _ this
    have h2:q=i:=by
     rcases Nat.lt_or_ge i q with g | g
     ·have h3:=HA.out i q g hq
      rw [e2] at h3
      exact absurd h3 (HN.out i (Nat.le_refl _) (by omega))
     ·omega
    subst h2
    exact ⟨hq,e2⟩
   by_cases hin:i < l.length
   ·obtain ⟨b,o,rfl,hb,hcs⟩:=hS i hin
    obtain ⟨d,hd⟩: ∃d,d=l.getD i ByteArray.empty:= ⟨_,rfl⟩
    rw [←hd] at hcs
    have HD:=hide hd
    clear hd
    have hii: (i:Int) < (l.length:Int):=by omega
    cases heq: (d.toList == s.toList)
    ·go_wp2_with (first | (go_at_call 141;refine (slicesNaN_any _ _).mono ?_;rintro e w1 ⟨rfl,rfl⟩))
     go_ret2
     exact ⟨FoundS.mk i false rfl (fun h=> by cases h) (fun _ hm=> by
      have h2:= (HMem.out hm).2
      rw [←HD.out] at h2
      rw [h2] at heq
      simp at heq),rfl⟩
    ·go_wp2_with fail
     go_ret2
     exact ⟨FoundS.mk i true rfl (fun _=> ⟨hin,by rw [←HD.out];exact beq_yes heq⟩) (fun h=> by cases h),rfl⟩
   ·go_wp2_with fail
    go_ret2
    exact ⟨FoundS.mk i false rfl (fun h=> by cases h) (fun _ hm=> hin (HMem.out hm).1),rfl⟩
structure Places (E:ByteArray→ByteArray→Prop) (nm:List ByteArray):Prop where
 asc:AscB nm
 all: ∀x y,E x y→x∈nm
def EdgeP (E:ByteArray→ByteArray→Prop) (nm:List ByteArray) (p q:Nat):Prop:= ∃(hp:p < nm.length) (hq:q < nm.length),E nm[p] nm[q]
section
variable {E : ByteArray → ByteArray → Prop} {nm : List ByteArray}
theorem Places.less (h:Places E nm) {p q:Nat} (hp:p < nm.length) (hq:q < nm.length):lessX nm[p] nm[q]↔p < q:=by
 have hi:=List.pairwise_iff_getElem.1 h.asc
 constructor
 ·intro hl
  rcases Nat.lt_trichotomy p q with e | e | e
  ·exact e
  ·subst e;exact absurd hl (lessX_irrefl _)
  ·exact absurd hl (lessX_asymm (hi q p hq hp e))
 ·exact hi p q hp hq
theorem Places.inj (h:Places E nm) {p q:Nat} (hp:p < nm.length) (hq:q < nm.length) (e:nm[p]=nm[q]):p=q:=by
 rcases Nat.lt_trichotomy p q with g | g | g
 ·have:= (h.less hp hq).2 g;rw [e] at this;exact absurd this (lessX_irrefl _)
 ·exact g
 ·have:= (h.less hq hp).2 g;rw [e] at this;exact absurd this (lessX_irrefl _)
theorem Places.place (h:Places E nm) {x y:ByteArray} (hE:E x y): ∃(p:Nat) (hp:p < nm.length),nm[p]=x:=List.getElem_of_mem (h.all x y hE)
theorem walk_to {n:Nat} {p q:Nat} (h:WalkN (EdgeP E nm) n p q) (hp:p < nm.length): ∃hq:q < nm.length,WalkN E n nm[p] nm[q]:=by
 induction h with
 | here a=> exact ⟨hp,.here _⟩
 | step h _ ih=>
  obtain ⟨_,hb,hE⟩:=h
  obtain ⟨hq,hw⟩:=ih hb
  exact ⟨hq,.step hE hw⟩
def nameOf (nm:List ByteArray) (p:Nat):ByteArray:=nm.getD p ByteArray.empty
theorem nameOf_at {p:Nat} (hp:p < nm.length):nameOf nm p=nm[p]:=by simp [nameOf,List.getD,hp]
end
structure NeedP (E:ByteArray→ByteArray→Prop) (nm:List ByteArray) (k:Nat) (S:List ByteArray) (j M:Nat) (need back:Nat→List Nat):Prop where
 fwd: ∀p q,q∈need p↔(p < k∧EdgeP E nm p q)∨(p=k∧∃hq:q < nm.length,nm[q]∈S.take j)
 bwd: ∀p q,p∈back q↔(p < k∧EdgeP E nm p q)∨(p=k∧∃hq:q < nm.length,nm[q]∈S.take j)
 asc: ∀p,(need p).Pairwise (· ≤ ·)
 len: ∀p,(need p).length≤M∧(back p).length≤M
structure NeedR (E:ByteArray→ByteArray→Prop) (nm:List ByteArray) (M:Nat) (need back:Nat→List Nat):Prop where
 fwd: ∀p q,q∈need p↔EdgeP E nm p q
 bwd: ∀p q,p∈back q↔EdgeP E nm p q
 asc: ∀p,(need p).Pairwise (· ≤ ·)
 len: ∀p,(need p).length≤M∧(back p).length≤M
section
variable {E : ByteArray → ByteArray → Prop} {nm S : List ByteArray} {k j M : Nat} {need back : Nat → List Nat}
theorem NeedP.start (E:ByteArray→ByteArray→Prop) (nm S:List ByteArray):NeedP E nm 0 S 0 0 (fun _=> []) (fun _=> []):=
 ⟨fun p q=> by simp,fun p q=> by simp,fun p=> List.Pairwise.nil,fun p=> ⟨Nat.le_refl _,Nat.le_refl _⟩⟩
theorem NeedP.enter (h:NeedP E nm k S 0 M need back) (S':List ByteArray):NeedP E nm k S' 0 M need back:=
 ⟨fun p q=> by rw [h.fwd];simp,fun p q=> by rw [h.bwd];simp,h.asc,h.len⟩
theorem NeedP.leave (h:NeedP E nm k S j M need back) (hk:k < nm.length) (hj:S.length≤j) (hS: ∀y,y∈S↔E nm[k] y):NeedP E nm (k+1) [] 0 M need back:=by
 have key: ∀p q,(p < k∧EdgeP E nm p q)∨(p=k∧∃hq:q < nm.length,nm[q]∈S.take j)↔(p < k+1∧EdgeP E nm p q)∨(p=k+1∧∃hq:q < nm.length,nm[q]∈([]:List ByteArray).take 0):=fun p q=> by
  rw [List.take_of_length_le hj]
  constructor
  ·rintro (⟨h1,h2⟩ | ⟨rfl,hq,h2⟩)
   ·exact .inl ⟨by omega,h2⟩
   ·exact .inl ⟨by omega,hk,hq,(hS _).1 h2⟩
  ·rintro (⟨h1,hp,hq,h2⟩ | ⟨_,_,h2⟩)
   ·by_cases e:p=k
    ·subst e;exact .inr ⟨rfl,hq,(hS _).2 h2⟩
    ·exact .inl ⟨by omega,hp,hq,h2⟩
   ·simp at h2
 exact ⟨fun p q=> (h.fwd p q).trans (key p q),fun p q=> (h.bwd p q).trans (key p q),h.asc,h.len⟩
theorem NeedP.skip (h:NeedP E nm k S j M need back) (hj:j < S.length) (hno:S[j]∉nm):NeedP E nm k S (j+1) M need back:=by
 have key: ∀q:Nat,(∃hq:q < nm.length,nm[q]∈S.take j)↔∃hq:q < nm.length,nm[q]∈S.take (j+1):=fun q=> by
  rw [List.take_succ_eq_append_getElem hj]
  constructor
  ·rintro ⟨hq,h1⟩;exact ⟨hq,List.mem_append.2 (.inl h1)⟩
  ·rintro ⟨hq,h1⟩
   rcases List.mem_append.1 h1 with h2 | h2
   ·exact ⟨hq,h2⟩
   ·rw [List.mem_singleton] at h2
    exact absurd (by rw [←h2];exact List.getElem_mem hq) hno
 exact ⟨fun p q=> by rw [h.fwd,key],fun p q=> by rw [h.bwd,key],h.asc,h.len⟩
theorem NeedP.put (hP:Places E nm) (h:NeedP E nm k S j M need back) (hj:j < S.length) (hS:S.Pairwise fun a b=> ¬lessX b a) {q:Nat} (hq:q < nm.length) (he:nm[q]=S[j]) (hk:k < nm.length) (hsub: ∀y∈S,E nm[k] y):
  NeedP E nm k S (j+1) (M+1) (fun p=> if p=k then need k++ [q] else need p) (fun p=> if p=q then back q++ [k] else back p):=by
 have key: ∀r:Nat,(∃hr:r < nm.length,nm[r]∈S.take (j+1))↔(∃hr:r < nm.length,nm[r]∈S.take j)∨r=q:=fun r=> by
  rw [List.take_succ_eq_append_getElem hj]
  constructor
  ·rintro ⟨hr,h1⟩
   rcases List.mem_append.1 h1 with h2 | h2
   ·exact .inl ⟨hr,h2⟩
   ·rw [List.mem_singleton,←he] at h2
    exact .inr (hP.inj hr hq h2)
  ·rintro (⟨hr,h1⟩ | rfl)
   ·exact ⟨hr,List.mem_append.2 (.inl h1)⟩
   ·exact ⟨hq,List.mem_append.2 (.inr (by rw [he];simp))⟩
 refine ⟨fun p r=> ?_,fun p r=> ?_,fun p=> ?_,fun p=> ⟨?_, ?_⟩⟩
 ·rw [key]
  by_cases e:p=k
  ·subst e
   simp only [if_true,List.mem_append,List.mem_singleton,h.fwd]
   constructor
   ·rintro ((⟨h1,h2⟩ | ⟨_,h2⟩) | h2)
    ·exact .inl ⟨h1,h2⟩
    ·exact .inr ⟨trivial,.inl h2⟩
    ·exact .inr ⟨trivial,.inr h2⟩
   ·rintro (⟨h1,h2⟩ | ⟨_,h2 | h2⟩)
    ·exact .inl (.inl ⟨h1,h2⟩)
    ·exact .inl (.inr ⟨trivial,h2⟩)
    ·exact .inr h2
  ·show (r∈if p=k then need k++ [q] else need p)↔_
   rw [if_neg e,h.fwd]
   simp only [e,false_and,or_false]
 ·rw [key]
  by_cases e:r=q
  ·subst e
   simp only [if_true,List.mem_append,List.mem_singleton,h.bwd]
   constructor
   ·rintro ((h1 | ⟨h1,h2⟩) | h1)
    ·exact .inl h1
    ·exact .inr ⟨h1,.inl h2⟩
    ·exact .inr ⟨h1,.inr trivial⟩
   ·rintro (h1 | ⟨h1,h2 | _⟩)
    ·exact .inl (.inl h1)
    ·exact .inl (.inr ⟨h1,h2⟩)
    ·exact .inr h1
  ·show (p∈if r=q then back q++ [k] else back r)↔_
   rw [if_neg e,h.bwd]
   simp only [e,or_false]
 ·by_cases e:p=k
  ·subst e
   simp only [if_true]
   rw [List.pairwise_append]
   refine ⟨h.asc p,by simp,fun a ha b hb=> ?_⟩
   rw [List.mem_singleton] at hb
   subst hb
   rcases (h.fwd p a).1 ha with ⟨h1,_⟩ | ⟨_,har,h2⟩
   ·omega
   ·obtain ⟨i,hi,h3⟩:=List.mem_take_iff_getElem.1 h2
    have h4:=List.pairwise_iff_getElem.1 hS i j (by omega) hj (by omega)
    rw [h3,←he,hP.less hq har] at h4
    omega
  ·simp only [if_neg e];exact h.asc p
 ·by_cases e:p=k
  ·simp only [e,if_true,List.length_append,List.length_singleton];have:= (h.len k).1;omega
  ·simp only [if_neg e];have:= (h.len p).1;omega
 ·by_cases e:p=q
  ·simp only [e,if_true,List.length_append,List.length_singleton];have:= (h.len q).2;omega
  ·simp only [if_neg e];have:= (h.len p).2;omega
theorem NeedP.whole (h:NeedP E nm nm.length [] 0 M need back):NeedR E nm M need back:=by
 have key: ∀p q,(p < nm.length∧EdgeP E nm p q)∨(p=nm.length∧∃hq:q < nm.length,nm[q]∈([]:List ByteArray).take 0)↔EdgeP E nm p q:=fun p q=> by
  constructor
  ·rintro (⟨_,h1⟩ | ⟨_,_,h1⟩)
   ·exact h1
   ·simp at h1
  ·intro h1
   exact .inl ⟨h1.1,h1⟩
 exact ⟨fun p q=> (h.fwd p q).trans (key p q),fun p q=> (h.bwd p q).trans (key p q),h.asc,h.len⟩
end
section
variable {R : Nat → Nat → Prop} {t : Nat}
end
section
variable {E : ByteArray → ByteArray → Prop} {x : ByteArray} {out more list : List ByteArray}
theorem asc_nodupB {l:List ByteArray} (h:AscB l):l.Nodup:=h.imp fun {_a _b} hab=> lessX_ne hab
end
theorem Traj.one {W:Acts} {σ:Env} {r:RunX} {L L':List ByteArray} (hw: (W r.name).isSome=true) (h:Traj W σ r L) (h':Traj W σ r L'):L=L':=by
 obtain ⟨k,h1,h2⟩:=h
 obtain ⟨m,g1,g2⟩:=h'
 have key: ∀{i j:Nat} {A B:List ByteArray},againN W σ r.name i= (r,A)→againN W σ r.name j= (r,B)→(∀q,q < i→CanGo W σ (againN W σ r.name q).1)→(∀q,q < j→CanGo W σ (againN W σ r.name q).1)→¬i < j:=fun {i j A B} e1 e2 f1 f2 hlt=> by
  have ho:= (f2 i hlt).1
  have v1:=againN_visits hw f1 ho
  rw [e1] at ho v1
  have v2:=againN_visits hw f2 (by rw [e2];exact ho)
  rw [e2] at v2
  simp only at v1 v2
  omega
 have:k=m:=by
  have a:=key h1 g1 h2 g2
  have b:=key g1 h1 g2 h2
  omega
 subst this
 rw [h1] at g1
 exact (Prod.mk.inj g1).2
def TrajAll (W:Acts) (σ:Env):Prop:= ∀n r,σ n=some r→r.name=n∧∃L,Traj W σ r L
theorem TrajAll.did {W:Acts} {σ:Env} {n:ByteArray} (h:TrajAll W σ) (hn:ReadyX W σ n):TrajAll W (doX W σ n):=by
 obtain ⟨r,hr,hc⟩:=hn
 have hn:ReadyX W σ n:= ⟨r,hr,hc⟩
 intro m q hq
 rw [doX_eq hr] at hq
 by_cases e:m=n
 ·rw [if_pos e] at hq
  cases hq
  obtain ⟨h1,L,h2⟩:=h n r hr
  exact ⟨by rw [nextOf_name,h1,e],_,(h2.unit hc).mono hn⟩
 ·rw [if_neg e] at hq
  cases hm:σ m with
  | some x=>
   rw [hm] at hq
   simp only [Option.some.injEq] at hq
   subst hq
   obtain ⟨h1,L,h2⟩:=h m x hm
   exact ⟨h1,L,h2.mono hn⟩
  | none=>
   rw [hm] at hq
   simp only at hq
   split at hq
   ·cases hq
    exact ⟨rfl,_,Traj.start m⟩
   ·cases hq
theorem ValidX.traj {webl:List NodeD} {roots:List ByteArray} {sl:List RunX} (hv:ValidX webl roots sl):TrajAll (actsOf webl) (envOf sl):=by
 obtain ⟨_,_,_,j,L,hgL,hl,_,rfl⟩:=hv
 exact hl.keeps (P:=fun σ:Env=> TrajAll (actsOf webl) σ) (fun σ m h hm=> h.did hm.1) (fun n r hr=> by
  rw [startL_env] at hr
  split at hr
  ·cases hr;exact ⟨rfl,_,Traj.start n⟩
  ·cases hr)
def AsksX (W:Acts) (σ:Env) (x y:ByteArray):Prop:= ∃r L,σ x=some r∧Traj W σ r L∧y∈L
def UsesN (E:ByteArray→ByteArray→Prop) (name x:ByteArray):Prop:= ∃n,WalkN E (n+1) x name
def UsesL (E:ByteArray→ByteArray→Prop) (names:List ByteArray) (name:ByteArray) (ns:List ByteArray):Prop:=AscB ns∧∀s,s∈ns↔s∈names∧UsesN E name s
structure UseI (E:ByteArray→ByteArray→Prop) (names:List ByteArray) (name:ByteArray) (l0:Nat) (done out:List ByteArray) (b:Bool):Prop where
 asc:AscB out
 sub: ∀s∈out,s∈names∧UsesN E name s
 cl:b=false→∀x∈done,∀y,E x y→(y=name∨y∈out)→x∈out
 le:l0≤out.length
 gr:b=true→l0 < out.length
structure UseJ (E:ByteArray→ByteArray→Prop) (names:List ByteArray) (name:ByteArray) (l0:Nat) (done:List ByteArray) (x:ByteArray) (asks:List ByteArray) (k:Nat) (out:List ByteArray) (b:Bool):Prop where
 i:UseI E names name l0 done out b
 cur:b=false→∀y∈asks.take k,(y=name∨y∈out)→x∈out
section
variable {E : ByteArray → ByteArray → Prop} {names done asks out : List ByteArray} {name x : ByteArray} {l0 k : Nat} {b : Bool}
theorem UseI.start (E:ByteArray→ByteArray→Prop) (names:List ByteArray) (name:ByteArray) {out:List ByteArray} (ha:AscB out) (hs: ∀s∈out,s∈names∧UsesN E name s):UseI E names name out.length [] out false:=
 ⟨ha,hs,fun _ x hx=> (by cases hx),Nat.le_refl _,fun h=> by cases h⟩
theorem UseI.enter (h:UseI E names name l0 done out b) (x:ByteArray) (asks:List ByteArray):UseJ E names name l0 done x asks 0 out b:= ⟨h,fun _ y hy=> by simp at hy⟩
theorem UseJ.skip (h:UseJ E names name l0 done x asks k out b) (hk:k < asks.length) (hn: ¬((asks[k]=name∨asks[k]∈out)∧x∉out)):UseJ E names name l0 done x asks (k+1) out b:=by
 refine ⟨h.i,fun hb y hy hc=> ?_⟩
 rw [List.take_succ_eq_append_getElem hk] at hy
 rcases List.mem_append.1 hy with g | g
 ·exact h.cur hb y g hc
 ·rw [List.mem_singleton] at g
  subst g
  exact Classical.byContradiction fun e=> hn ⟨hc,e⟩
theorem UseJ.put {out':List ByteArray} (h:UseJ E names name l0 done x asks k out b) (hk:k < asks.length) (hx:x∈names) (hE: ∀y∈asks,E x y) (hc:asks[k]=name∨asks[k]∈out) (hno:x∉out) (ha:AscB out') (hm: ∀s,s∈out'↔s∈out∨s=x):UseJ E names name l0 done x asks (k+1) out' true:=by
 have hlen:out.length+1≤out'.length:=by
  have hnd: (x :: out).Nodup:=List.nodup_cons.2 ⟨hno,asc_nodupB h.i.asc⟩
  exact List.Nodup.length_le_of_subset hnd (fun s hs=> (hm s).2 (by rcases List.mem_cons.1 hs with g | g;exact .inr g;exact .inl g))
 have hl:=h.i.le
 refine ⟨⟨ha,fun s hs=> ?_,fun e=> (by cases e),by omega,fun _=> by omega⟩,fun e=> (by cases e)⟩
 rcases (hm s).1 hs with g | rfl
 ·exact h.i.sub s g
 ·refine ⟨hx, ?_⟩
  have he:=hE _ (List.getElem_mem hk)
  rcases hc with g | g
  ·rw [g] at he
   exact ⟨0,WalkN.one he⟩
  ·obtain ⟨n,hn⟩:= (h.i.sub _ g).2
   exact ⟨n+1,.step he hn⟩
theorem UseJ.leave (h:UseJ E names name l0 done x asks k out b) (hk:asks.length≤k) (hE: ∀y,E x y→y∈asks):UseI E names name l0 (done++ [x]) out b:=by
 refine ⟨h.i.asc,h.i.sub,fun hb z hz y hy hc=> ?_,h.i.le,h.i.gr⟩
 rcases List.mem_append.1 hz with g | g
 ·exact h.i.cl hb z g y hy hc
 ·rw [List.mem_singleton] at g
  subst g
  exact h.cur hb y (by rw [List.take_of_length_le hk];exact hE y hy) hc
theorem UseI.whole (h:UseI E names name l0 names out false) (hE: ∀x y,E x y→x∈names):UsesL E names name out:=by
 refine ⟨h.asc,fun s=> ⟨h.sub s, ?_⟩⟩
 rintro ⟨_,n,hn⟩
 induction n generalizing s with
 | zero=>
  obtain ⟨c,h1,h2⟩:=hn.first
  rw [h2.zero] at h1
  exact h.cl rfl s (hE _ _ h1) _ h1 (.inl rfl)
 | succ n ih=>
  obtain ⟨c,h1,h2⟩:=hn.first
  have hc:c∈names:=by
   obtain ⟨d,h3,_⟩:=h2.first
   exact hE _ _ h3
  exact h.cl rfl s (hE _ _ h1) _ h1 (.inr (ih c hc h2))
theorem UseI.len (h:UseI E names name l0 done out b):out.length≤names.length:=List.Nodup.length_le_of_subset (asc_nodupB h.asc) (fun s hs=> (h.sub s hs).1)
theorem UsesL.unique {ns ms:List ByteArray} (h:UsesL E names name ns) (k:UsesL E names name ms):ms=ns:=ascB_eq k.1 h.1 (fun s=> (k.2 s).trans (h.2 s).symm)
theorem uses_names {nm:List ByteArray} (hP:Places E nm) (hsub: ∀s,s∈nm↔s∈names) {l fs:List Nat} (hfs: ∀q,q∈fs↔∃hq:q < nm.length,E nm[q] name) (hl: ∀p,p∈l↔p < nm.length∧LeadsTo (EdgeP E nm) fs p) (hpw:l.Pairwise (· < ·)):UsesL E names name (l.map (nameOf nm)):=by
 refine ⟨?_,fun s=> ?_⟩
 ·unfold AscB
  rw [List.pairwise_map]
  exact hpw.imp_of_mem fun {p q} hp hq hlt=> by
   have h1:= ((hl p).1 hp).1
   have h2:= ((hl q).1 hq).1
   rw [nameOf_at h1,nameOf_at h2]
   exact (hP.less h1 h2).2 hlt
 ·rw [List.mem_map]
  constructor
  ·rintro ⟨p,hp,rfl⟩
   obtain ⟨h1,c,hc,n,hw⟩:= (hl p).1 hp
   obtain ⟨h2,hE⟩:= (hfs c).1 hc
   rw [nameOf_at h1]
   obtain ⟨h3,hw'⟩:=walk_to hw h1
   exact ⟨(hsub _).1 (List.getElem_mem h1),n,by have:=hw'.trans (WalkN.one hE);exact this⟩
  ·rintro ⟨hs,n,hw⟩
   obtain ⟨p,hp,rfl⟩:=List.getElem_of_mem ((hsub s).2 hs)
   refine ⟨p,(hl p).2 ⟨hp, ?_⟩,nameOf_at hp⟩
   clear hs
   induction n generalizing p with
   | zero=>
    obtain ⟨c,h1,h2⟩:=hw.first
    rw [h2.zero] at h1
    exact ⟨p,(hfs p).2 ⟨hp,h1⟩,0,.here p⟩
   | succ n ih=>
    obtain ⟨c,h1,h2⟩:=hw.first
    obtain ⟨d,h3,_⟩:=h2.first
    obtain ⟨q,hq,rfl⟩:=hP.place h3
    obtain ⟨e,he,m,hm⟩:=ih q hq h2
    exact ⟨e,he,m+1,.step ⟨hp,hq,h1⟩ hm⟩
end
theorem asksX_iff {W:Acts} {σ:Env} {x:ByteArray} {r:RunX} {L:List ByteArray} (hr:σ x=some r) (hw: (W r.name).isSome=true) (ht:Traj W σ r L) (y:ByteArray):y∈L↔AsksX W σ x y:=by
 constructor
 ·exact fun h=> ⟨r,L,hr,ht,h⟩
 ·rintro ⟨r',L',h1,h2,h3⟩
  rw [hr] at h1
  cases h1
  rw [ht.one hw h2]
  exact h3
def UsesAns (webl:List NodeD) (roots:List ByteArray) (sl:List RunX) (name:ByteArray) (ns:List ByteArray):Prop:=ns.length≤60∧((ValidX webl roots sl∧UsesL (AsksX (actsOf webl) (envOf sl)) (sl.map (·.name)) name ns)∨(¬ValidX webl roots sl∧ns=[]))
theorem UsesAns.len {webl:List NodeD} {roots:List ByteArray} {sl:List RunX} {name:ByteArray} {ns:List ByteArray} (h:UsesAns webl roots sl name ns):ns.length≤60:=h.1
theorem UsesAns.one {webl:List NodeD} {roots:List ByteArray} {sl:List RunX} {name:ByteArray} {ns ms:List ByteArray} (h:UsesAns webl roots sl name ns) (k:UsesAns webl roots sl name ms):ms=ns:=by
 rcases h.2 with ⟨h1,h2⟩ | ⟨h1,h2⟩
 ·rcases k.2 with ⟨k1,k2⟩ | ⟨k1,k2⟩
  ·exact h2.unique k2
  ·exact absurd h1 k1
 ·rcases k.2 with ⟨k1,k2⟩ | ⟨k1,k2⟩
  ·exact absurd k1 h1
  ·rw [h2,k2]
end Go.Proofs.YteknkpfbjapoiaaGreatDoor
