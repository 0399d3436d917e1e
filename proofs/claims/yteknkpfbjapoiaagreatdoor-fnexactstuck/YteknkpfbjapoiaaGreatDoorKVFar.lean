import Derived.Test.YteknkpfbjapoiaaGreatDoorKXTop
import Derived.Test.YteknkpfbjapoiaaGreatDoorKVCirc
import Derived.Test.YteknkpfbjapoiaaGreatDoorKRTo
import Derived.Test.YteknkpfbjapoiaaGreatDoorKVLead
namespace Go.Proofs.YteknkpfbjapoiaaGreatDoor
def belowB :ByteArray:= ⟨#[98,101,108,111,119,32]⟩
theorem below_inj {a b:ByteArray} (h:belowB++a=belowB++b):a=b:=by
 have h1:=congrArg (fun x:ByteArray=> x.data.toList) h
 simp only [ByteArray.data_append,Array.toList_append] at h1
 exact ByteArray.ext (Array.toList_inj.1 (List.append_cancel_left h1))
theorem below_spent {b:ByteArray}:belowB++b≠spentB:=fun h=> by
 have h1:=congrArg ByteArray.size h
 rw [ByteArray.size_append] at h1
 have h2:belowB.size=6:=by decide
 have h3:spentB.size=5:=by decide
 omega
section
variable (W : Acts) (σ : Env)
inductive WhyC :ByteArray→List ByteArray→Prop
 | gone {n:ByteArray} (h:σ n=none):WhyC n [n]
 | own {n:ByteArray} {r:RunX} {A:ActionD} (h:σ n=some r) (ho:r.over=true) (hf:r.fail=true) (hA:W n=some A) (he: (stepOf A r.at').fin=true∨r.text=spentB):WhyC n [n]
 | more {n b:ByteArray} {l:List ByteArray} {r:RunX} {A:ActionD} (h:σ n=some r) (ho:r.over=true) (hf:r.fail=true) (hA:W n=some A) (hn: (stepOf A r.at').fin=false) (ht:r.text=belowB++b) (hb:1≤b.size) (hc:WhyC b l):WhyC n (n :: l)
def WhyX (n:ByteArray) (out:List ByteArray):Prop:=
 (σ n=none∧out=[])∨(∃r,σ n=some r∧¬(r.over=true∧r.fail=true)∧out=[])∨(∃r,σ n=some r∧r.over=true∧r.fail=true∧WhyC W σ n out)
structure WhyInv (k:Nat) (ord:ByteArray→Nat):Prop where
 lt: ∀n r,σ n=some r→r.over=true→ord n < k
 ok: ∀n r,σ n=some r→r.over=true→r.fail=true→∃A,W n=some A∧(((stepOf A r.at').fin=true∨r.text=spentB)∨
  (∃b,(stepOf A r.at').fin=false∧b∈(stepOf A r.at').asks∧r.text=belowB++b∧((W b=none∧σ b=none)∨∃q,σ b=some q∧q.over=true∧q.fail=true∧ord b < ord n)))
end
theorem WhyC.unique {W:Acts} {σ:Env} {n:ByteArray} {l m:List ByteArray} (h:WhyC W σ n l) (g:WhyC W σ n m):l=m:=by
 induction h generalizing m with
 | gone h=>
  cases g with
  | gone=> rfl
  | own=> rfl
  | more h'=> rw [h] at h';cases h'
 | own h ho hf hA he=>
  cases g with
  | gone=> rfl
  | own=> rfl
  | more h' ho' hf' hA' hn' ht'=>
   rw [h] at h';cases h'
   rw [hA] at hA';cases hA'
   rcases he with e | e
   ·rw [hn'] at e;cases e
   ·rw [e] at ht';exact absurd ht'.symm below_spent
 | more h ho hf hA hn ht hb hc ih=>
  cases g with
  | gone h'=> rw [h] at h';cases h'
  | own h' ho' hf' hA' he'=>
   rw [h] at h';cases h'
   rw [hA] at hA';cases hA'
   rcases he' with e | e
   ·rw [hn] at e;cases e
   ·rw [e] at ht;exact absurd ht.symm below_spent
  | more h' ho' hf' hA' hn' ht' hb' hc'=>
   rw [h] at h';cases h'
   have e:=below_inj (ht.symm.trans ht')
   subst e
   rw [ih hc']
theorem WhyX.unique {W:Acts} {σ:Env} {n:ByteArray} {l m:List ByteArray} (h:WhyX W σ n l) (g:WhyX W σ n m):l=m:=by
 rcases h with ⟨h1,rfl⟩ | ⟨r,h1,h2,rfl⟩ | ⟨r,h1,h2,h3,h4⟩ <;> rcases g with ⟨g1,rfl⟩ | ⟨q,g1,g2,rfl⟩ | ⟨q,g1,g2,g3,g4⟩
 ·rfl
 ·rfl
 ·rw [h1] at g1;cases g1
 ·rfl
 ·rfl
 ·rw [h1] at g1;cases g1;exact absurd ⟨g2,g3⟩ h2
 ·rw [h1] at g1;cases g1
 ·rw [h1] at g1;cases g1;exact absurd ⟨h2,h3⟩ g2
 ·exact h4.unique g4
theorem WhyC.len {W:Acts} {σ:Env} {n:ByteArray} {l:List ByteArray} (h:WhyC W σ n l):1≤l.length:=by
 cases h <;> simp
theorem WhyC.head {W:Acts} {σ:Env} {n:ByteArray} {l:List ByteArray} (h:WhyC W σ n l): ∃m,l=n :: m:=by
 cases h with
 | gone=> exact ⟨[],rfl⟩
 | own=> exact ⟨[],rfl⟩
 | more=> exact ⟨_,rfl⟩
theorem answersOf_at {W:Acts} {σ:Env}: ∀{l:List ByteArray} {xs:List AnswerD},answersOf W σ l=some xs→∀{i:Nat},i < xs.length→i < l.length∧ansOf W σ (l.getD i ByteArray.empty)=some (xs.getD i AnswerD.zero)
 | [],xs,h,i,hi=> by
  simp only [answersOf,Option.some.injEq] at h
  subst h
  simp at hi
 | a :: l,xs,h,i,hi=> by
  unfold answersOf at h
  cases ha:ansOf W σ a with
  | none=> simp [ha] at h
  | some x=>
   cases hl:answersOf W σ l with
   | none=> simp [ha,hl] at h
   | some ys=>
    simp only [ha,hl,Option.some.injEq] at h
    subst h
    cases i with
    | zero=> exact ⟨by simp,by simpa using ha⟩
    | succ i=>
     obtain ⟨h1,h2⟩:=answersOf_at hl (i:=i) (by simpa using hi)
     exact ⟨by simpa using h1,by simpa using h2⟩
theorem goodEnv_do {webl:List NodeD} {σ:Env} {n:ByteArray} (hok:ActsOk (actsOf webl)) (h:GoodEnv webl σ) (hr:ReadyX (actsOf webl) σ n):GoodEnv webl (doX (actsOf webl) σ n):=by
 obtain ⟨r,hr,hc⟩:=hr
 intro m q hq
 rw [doX_eq hr] at hq
 by_cases e:m=n
 ·rw [if_pos e] at hq
  cases hq
  exact ⟨by rw [nextOf_name,e];exact (h n r hr).1,nextOf_good hok h (h n r hr).2 hc⟩
 ·rw [if_neg e] at hq
  cases hm:σ m with
  | some x=>
   rw [hm] at hq
   cases hq
   exact h m _ hm
  | none=>
   rw [hm] at hq
   simp only at hq
   split at hq
   ·rename_i h2
    cases hq
    exact ⟨rfl,fresh_good hok h2.2⟩
   ·cases hq
theorem next_why {webl:List NodeD} {σ:Env} {r:RunX} (hg:GoodEnv webl σ) (hr:σ r.name=some r) (hc:CanGo (actsOf webl) σ r) (ho: (nextOf (actsOf webl) σ r).1.over=true): ∃A,actsOf webl r.name=some A∧(((stepOf A (nextOf (actsOf webl) σ r).1.at').fin=true∨(nextOf (actsOf webl) σ r).1.text=spentB)∨
  (∃b,(stepOf A (nextOf (actsOf webl) σ r).1.at').fin=false∧b∈(stepOf A (nextOf (actsOf webl) σ r).1.at').asks∧(nextOf (actsOf webl) σ r).1.text=belowB++b∧∃x,ansOf (actsOf webl) σ b=some x∧x.fail=true)):=by
 have hgd:= (hg _ _ hr).2
 obtain ⟨A,hA,_,_⟩:=hgd.act
 refine ⟨A,hA, ?_⟩
 have harr: ∀q:RunX,q.over=false→(arrive A q).1.over=true→(stepOf A (arrive A q).1.at').fin=true:=fun q hq h=> by
  unfold arrive at h⊢
  simp only at h⊢
  by_cases hf: (stepOf A q.at').fin=true
  ·rw [if_pos hf];exact hf
  ·rw [if_neg hf] at h;simp only at h;rw [hq] at h;cases h
 unfold nextOf at ho⊢
 rw [hA] at ho⊢
 simp only at ho⊢
 by_cases hv:r.visits=0
 ·rw [if_pos hv] at ho⊢
  exact .inl (.inl (harr r hc.1 ho))
 ·rw [if_neg hv] at ho⊢
  rcases hc.2 with e | ⟨A',xs,hA',hxs⟩
  ·exact absurd e hv
  ·rw [hA] at hA'
   cases hA'
   rw [hxs] at ho⊢
   simp only at ho⊢
   by_cases h20:r.visits=20
   ·rw [if_pos h20]
    exact .inl (.inr rfl)
   ·rw [if_neg h20] at ho⊢
    by_cases hgo: (goOnF (stepOf A r.at') xs).over=true
    ·rw [if_pos hgo]
     refine .inr ?_
     show∃b,(stepOf A r.at').fin=false∧b∈(stepOf A r.at').asks∧(goOnF (stepOf A r.at') xs).text=belowB++b∧_
     unfold goOnF at hgo⊢
     cases hf:failAt xs 0 with
     | none=> rw [hf] at hgo;simp at hgo
     | some i=>
      rw [hf] at hgo
      simp only at hgo⊢
      obtain ⟨j,e1,h2,h3,_⟩:=failAt_some hf
      have e2:i=j:=by omega
      subst e2
      by_cases hfa: (stepOf A r.at').fall= -1
      ·rw [if_pos hfa]
       obtain ⟨g1,g2⟩:=answersOf_at hxs h2
       refine ⟨(stepOf A r.at').asks.getD i ByteArray.empty,hgd.stp A hA hc.1 hv, ?_,rfl,_,g2,h3⟩
       simp only [List.getD,List.getElem?_eq_getElem g1,Option.getD_some]
       exact List.getElem_mem g1
      ·rw [if_neg hfa] at hgo;simp at hgo
    ·rw [if_neg hgo] at ho⊢
     exact .inl (.inl (harr { r with texts:=r.texts++goodOf xs,at':= (goOnF (stepOf A r.at') xs).at' } hc.1 ho))
theorem WhyInv.did {webl:List NodeD} {σ:Env} {k:Nat} {ord:ByteArray→Nat} (h:WhyInv (actsOf webl) σ k ord) (hg:GoodEnv webl σ) {n:ByteArray} (hn:ReadyX (actsOf webl) σ n):WhyInv (actsOf webl) (doX (actsOf webl) σ n) (k+1) (fun m=> if m=n then k else ord m):=by
 obtain ⟨r,hr,hc⟩:=hn
 have hrn:r.name=n:= (hg n r hr).1
 have hwn: ∀m,actsOf webl m=none→σ m=none:=fun m hm=> by
  cases h1:σ m with
  | none=> rfl
  | some q=>
   obtain ⟨g1,g2⟩:=hg m q h1
   obtain ⟨A,hA,_⟩:=g2.act
   rw [g1,hm] at hA
   cases hA
 have old: ∀m q,m≠n→doX (actsOf webl) σ n m=some q→q.over=true→σ m=some q:=fun m q e hq ho=> by
  rw [doX_eq hr,if_neg e] at hq
  cases hm:σ m with
  | some x=> rw [hm] at hq;exact hq
  | none=>
   rw [hm] at hq
   simp only at hq
   split at hq
   ·cases hq;cases ho
   ·cases hq
 have keep: ∀b q,σ b=some q→q.over=true→b≠n∧doX (actsOf webl) σ n b=some q:=fun b q hb ho=> by
  have hne:b≠n:=fun e=> by
   rw [e,hr] at hb
   cases hb
   rw [hc.1] at ho
   cases ho
  exact ⟨hne,doX_other hne hb⟩
 have none: ∀b,actsOf webl b=none→doX (actsOf webl) σ n b=none:=fun b hb=> by
  have hne:b≠n:=fun e=> by
   have:=hwn b hb
   rw [e,hr] at this
   cases this
  rw [doX_eq hr,if_neg hne,hwn b hb]
  simp only
  rw [if_neg (by rw [hb];simp)]
 refine ⟨fun m q hq ho=> ?_,fun m q hq ho hf=> ?_⟩
 ·by_cases e:m=n
  ·simp only [if_pos e];omega
  ·simp only [if_neg e]
   have:=h.lt m q (old m q e hq ho) ho
   omega
 ·by_cases e:m=n
  ·subst e
   rw [doX_here hr] at hq
   cases hq
   obtain ⟨A,hA,h2⟩:=next_why hg (by rw [hrn];exact hr) hc ho
   rw [hrn] at hA
   refine ⟨A,hA,h2.imp id ?_⟩
   rintro ⟨b,g1,g2,g3,x,g4,g5⟩
   refine ⟨b,g1,g2,g3, ?_⟩
   unfold ansOf at g4
   cases hb:actsOf webl b with
   | none=> exact .inl ⟨rfl,none b hb⟩
   | some B=>
    rw [hb] at g4
    simp only at g4
    cases hs:σ b with
    | none=> rw [hs] at g4;cases g4
    | some q=>
     rw [hs] at g4
     simp only at g4
     by_cases hqo:q.over=true
     ·rw [if_pos hqo] at g4
      cases g4
      obtain ⟨k1,k2⟩:=keep b q hs hqo
      exact .inr ⟨q,k2,hqo,g5,by simp only [if_neg k1,if_true];exact h.lt b q hs hqo⟩
     ·rw [if_neg hqo] at g4
      cases g4
  ·obtain ⟨A,hA,h2⟩:=h.ok m q (old m q e hq ho) ho hf
   refine ⟨A,hA,h2.imp id ?_⟩
   rintro ⟨b,g1,g2,g3,⟨g4,_⟩ | ⟨p,g4,g5,g6,g7⟩⟩
   ·exact ⟨b,g1,g2,g3,.inl ⟨g4,none b g4⟩⟩
   ·obtain ⟨k1,k2⟩:=keep b p g4 g5
    exact ⟨b,g1,g2,g3,.inr ⟨p,k2,g5,g6,by simp only [if_neg k1,if_neg e];exact g7⟩⟩
theorem WhyInv.chain {webl:List NodeD} {σ:Env} {k:Nat} {ord:ByteArray→Nat} (hok:ActsOk (actsOf webl)) (h:WhyInv (actsOf webl) σ k ord) (hg:GoodEnv webl σ): ∀(m:Nat) (n:ByteArray) (r:RunX),ord n≤m→σ n=some r→r.over=true→r.fail=true→∃l,WhyC (actsOf webl) σ n l∧l.length≤ord n+2∧∀x∈l,1≤x.size∧x.size≤20:=by
 intro m
 induction m with
 | zero=>
  intro n r hm hr ho hf
  obtain ⟨A,hA,h2 | ⟨b,g1,g2,g3,⟨g4,g5⟩ | ⟨p,g4,g5,g6,g7⟩⟩⟩:=h.ok n r hr ho hf
  ·exact ⟨[n],.own hr ho hf hA h2,by simp,fun x hx=> by rw [List.mem_singleton] at hx;rw [hx];exact ⟨(hok n A hA).2.1,(hok n A hA).2.2.1⟩⟩
  ·obtain ⟨A',hA',h0,h1⟩:= (hg n r hr).2.act
   rw [(hg n r hr).1,hA] at hA'
   cases hA'
   have hb:= (asks_ok (hok n A hA).1 h0 h1).2 b g2
   exact ⟨[n,b],.more hr ho hf hA g1 g3 hb.1 (.gone g5),by simp,fun x hx=> by
    rcases List.mem_cons.1 hx with rfl | hx
    ·exact ⟨(hok x A hA).2.1,(hok x A hA).2.2.1⟩
    ·rw [List.mem_singleton] at hx;rw [hx];exact ⟨hb.1,hb.2.1⟩⟩
  ·omega
 | succ m ih=>
  intro n r hm hr ho hf
  obtain ⟨A,hA,h2 | ⟨b,g1,g2,g3,⟨g4,g5⟩ | ⟨p,g4,g5,g6,g7⟩⟩⟩:=h.ok n r hr ho hf
  ·exact ⟨[n],.own hr ho hf hA h2,by simp,fun x hx=> by rw [List.mem_singleton] at hx;rw [hx];exact ⟨(hok n A hA).2.1,(hok n A hA).2.2.1⟩⟩
  ·obtain ⟨A',hA',h0,h1⟩:= (hg n r hr).2.act
   rw [(hg n r hr).1,hA] at hA'
   cases hA'
   have hb:= (asks_ok (hok n A hA).1 h0 h1).2 b g2
   exact ⟨[n,b],.more hr ho hf hA g1 g3 hb.1 (.gone g5),by simp,fun x hx=> by
    rcases List.mem_cons.1 hx with rfl | hx
    ·exact ⟨(hok x A hA).2.1,(hok x A hA).2.2.1⟩
    ·rw [List.mem_singleton] at hx;rw [hx];exact ⟨hb.1,hb.2.1⟩⟩
  ·obtain ⟨l,k1,k2,k3⟩:=ih b p (by omega) g4 g5 g6
   obtain ⟨A',hA',h0,h1⟩:= (hg n r hr).2.act
   rw [(hg n r hr).1,hA] at hA'
   cases hA'
   have hb:= (asks_ok (hok n A hA).1 h0 h1).2 b g2
   exact ⟨n :: l,.more hr ho hf hA g1 g3 hb.1 k1,by simp only [List.length_cons];omega,fun x hx=> by
    rcases List.mem_cons.1 hx with rfl | hx
    ·exact ⟨(hok x A hA).2.1,(hok x A hA).2.2.1⟩
    ·exact k3 x hx⟩
def OpenOk (σ:Env):Prop:= ∀n r,σ n=some r→r.over=false→r.fail=false
theorem arrive_open {A:ActionD} {r:RunX} (h:r.fail=false) (ho: (arrive A r).1.over=false): (arrive A r).1.fail=false:=by
 unfold arrive at ho⊢
 simp only at ho⊢
 by_cases hf: (stepOf A r.at').fin=true
 ·rw [if_pos hf] at ho;cases ho
 ·rw [if_neg hf];exact h
theorem next_open {W:Acts} {σ:Env} {r:RunX} (h:r.fail=false) (ho: (nextOf W σ r).1.over=false): (nextOf W σ r).1.fail=false:=by
 unfold nextOf at ho⊢
 cases hA:W r.name with
 | none=> exact h
 | some A=>
  rw [hA] at ho
  simp only at ho⊢
  by_cases hv:r.visits=0
  ·rw [if_pos hv] at ho⊢;exact arrive_open h ho
  ·rw [if_neg hv] at ho⊢
   cases hx:answersOf W σ (stepOf A r.at').asks with
   | none=> exact h
   | some xs=>
    rw [hx] at ho
    simp only at ho⊢
    by_cases h20:r.visits=20
    ·rw [if_pos h20] at ho;cases ho
    ·rw [if_neg h20] at ho⊢
     by_cases hgo: (goOnF (stepOf A r.at') xs).over=true
     ·rw [if_pos hgo] at ho;cases ho
     ·rw [if_neg hgo] at ho⊢;exact arrive_open (by exact h) ho
theorem OpenOk.did {W:Acts} {σ:Env} (h:OpenOk σ) {n:ByteArray} (hn:ReadyX W σ n):OpenOk (doX W σ n):=by
 obtain ⟨r,hr,hc⟩:=hn
 intro m q hq ho
 rw [doX_eq hr] at hq
 by_cases e:m=n
 ·rw [if_pos e] at hq
  cases hq
  exact next_open (h n r hr hc.1) ho
 ·rw [if_neg e] at hq
  cases hm:σ m with
  | some x=> rw [hm] at hq;cases hq;exact h m _ hm ho
  | none=>
   rw [hm] at hq
   simp only at hq
   split at hq
   ·cases hq;rfl
   ·cases hq
theorem ValidX.open {webl:List NodeD} {roots:List ByteArray} {sl:List RunX} (hv:ValidX webl roots sl):OpenOk (envOf sl):=by
 obtain ⟨_,_,_,j,L,hgL,hl,_,rfl⟩:=hv
 refine hl.keeps (P:=OpenOk) (fun σ m h hm=> h.did hm.1) (fun m r hr ho=> ?_)
 rw [startL_env] at hr
 split at hr
 ·cases hr;rfl
 ·cases hr
theorem ValidX.why {webl:List NodeD} {roots:List ByteArray} {sl:List RunX} (hv:ValidX webl roots sl) (n:ByteArray): ∃out,WhyX (actsOf webl) (envOf sl) n out∧out.length≤1400∧∀x∈out,1≤x.size∧x.size≤20:=by
 have hok:=web_acts hv.1
 have hp:potL webl (startL webl roots)≤1380:=by
  have h1:=potL_le23 webl (startL webl roots)
  have h2:=web_len hv.1
  omega
 obtain ⟨_,_,_,j,L,hgL,hl,_,rfl⟩:=hv
 have hs:=startL_good hok roots
 have hinv: (fun σ:Env=> GoodEnv webl σ∧∃k ord,k+potAll (webl.map (·.name)) σ≤1380∧WhyInv (actsOf webl) σ k ord) (envOf L):=by
  refine hl.keeps (P:=fun σ:Env=> GoodEnv webl σ∧∃k ord,k+potAll (webl.map (·.name)) σ≤1380∧WhyInv (actsOf webl) σ k ord) ?_ ⟨hs.env,0,fun _=> 0,by unfold potL at hp;omega,⟨fun m r hr ho=> ?_,fun m r hr ho=> ?_⟩⟩
  ·rintro σ m ⟨hg,k,ord,hk,hI⟩ hm
   have hwf:WfX (actsOf webl) σ:=fun a r hr=> by
    obtain ⟨h1,h2⟩:=hg a r hr
    obtain ⟨A,hA,_⟩:=h2.act
    exact ⟨h1,by rw [←h1,hA];rfl,h2.lo,h2.hi⟩
   refine ⟨goodEnv_do hok hg hm.1,k+1,_, ?_,hI.did hg hm.1⟩
   obtain ⟨r,hr,_⟩:=hm.1
   have:= (potAll_do hwf hm.1 (webl.map (·.name))).2 (acts_in (hwf m r hr).web)
   omega
  ·rw [startL_env] at hr
   split at hr
   ·cases hr;cases ho
   ·cases hr
  ·rw [startL_env] at hr
   split at hr
   ·cases hr;cases ho
   ·cases hr
 obtain ⟨hg,k,ord,hk,hI⟩:=hinv
 cases hn:envOf L n with
 | none=> exact ⟨[],.inl ⟨hn,rfl⟩,by simp,fun x hx=> by cases hx⟩
 | some r=>
  by_cases hof:r.over=true∧r.fail=true
  ·obtain ⟨l,h1,h2,h3⟩:=hI.chain hok hg (ord n) n r (Nat.le_refl _) hn hof.1 hof.2
   have:=hI.lt n r hn hof.1
   exact ⟨l,.inr (.inr ⟨r,hn,hof.1,hof.2,h1⟩),by omega,h3⟩
  ·exact ⟨[],.inr (.inl ⟨r,hn,hof,rfl⟩),by simp,fun x hx=> by cases hx⟩
def WhyAns (webl:List NodeD) (roots:List ByteArray) (sl:List RunX) (name:ByteArray) (ns:List ByteArray):Prop:= (ValidX webl roots sl∧WhyX (actsOf webl) (envOf sl) name ns)∨(¬ValidX webl roots sl∧ns=[])
theorem WhyAns.len {webl:List NodeD} {roots:List ByteArray} {sl:List RunX} {name:ByteArray} {ns:List ByteArray} (h:WhyAns webl roots sl name ns):ns.length≤1400:=by
 rcases h with ⟨h1,h2⟩ | ⟨_,rfl⟩
 ·obtain ⟨out,g1,g2,_⟩:=h1.why name
  rw [h2.unique g1]
  exact g2
 ·exact Nat.zero_le _
theorem WhyAns.one {webl:List NodeD} {roots:List ByteArray} {sl:List RunX} {name:ByteArray} {ns ms:List ByteArray} (h:WhyAns webl roots sl name ns) (k:WhyAns webl roots sl name ms):ms=ns:=by
 rcases h with ⟨h1,h2⟩ | ⟨h1,h2⟩
 ·rcases k with ⟨k1,k2⟩ | ⟨k1,k2⟩
  ·exact k2.unique h2
  ·exact absurd h1 k1
 ·rcases k with ⟨k1,k2⟩ | ⟨k1,k2⟩
  ·exact absurd k1 h1
  ·rw [h2,k2]
end Go.Proofs.YteknkpfbjapoiaaGreatDoor
namespace Go.Proofs.YteknkpfbjapoiaaGreatDoor
def AscB (l:List ByteArray):Prop:=l.Pairwise lessX
theorem ascB_eq : ∀{l m:List ByteArray},AscB l→AscB m→(∀s,s∈l↔s∈m)→l=m
 | [],[],_,_,_=> rfl
 | [],y :: m,_,_,h=> by have:= (h y).2 (by simp);cases this
 | x :: l,[],_,_,h=> by have:= (h x).1 (by simp);cases this
 | x :: l,y :: m,hl,hm,h=> by
  obtain ⟨h1,h2⟩:=List.pairwise_cons.1 hl
  obtain ⟨g1,g2⟩:=List.pairwise_cons.1 hm
  have e:x=y:=by
   rcases List.mem_cons.1 ((h x).1 (by simp)) with e | e
   ·exact e
   ·rcases List.mem_cons.1 ((h y).2 (by simp)) with e' | e'
    ·exact e'.symm
    ·exact absurd (h1 y e') (lessX_asymm (g1 x e))
  subst e
  congr 1
  refine ascB_eq h2 g2 (fun s=> ?_)
  constructor
  ·intro hs
   rcases List.mem_cons.1 ((h s).1 (List.mem_cons_of_mem _ hs)) with e | e
   ·rw [e] at hs;exact absurd (h1 x hs) (lessX_irrefl x)
   ·exact e
  ·intro hs
   rcases List.mem_cons.1 ((h s).2 (List.mem_cons_of_mem _ hs)) with e | e
   ·rw [e] at hs;exact absurd (g1 x hs) (lessX_irrefl x)
   ·exact e
theorem AscB.nodup {l:List ByteArray} (h:AscB l):l.Nodup:=h.imp fun hx=> lessX_ne hx
def PutB (l:List ByteArray) (x:ByteArray) (r:List ByteArray):Prop:= (x∈l∧r=l)∨(x∉l∧∃k,k≤l.length∧r=l.take k++x :: l.drop k∧(∀y∈l.take k,lessX y x)∧∀y∈l.drop k,lessX x y)
theorem PutB.asc {l r:List ByteArray} {x:ByteArray} (h:PutB l x r) (ha:AscB l):AscB r∧∀s,s∈r↔s∈l∨s=x:=by
 rcases h with ⟨h1,rfl⟩ | ⟨h1,k,hk,rfl,h2,h3⟩
 ·exact ⟨ha,fun s=> ⟨.inl,fun h=> h.elim id (fun e=> by rw [e];exact h1)⟩⟩
 ·have h4:AscB (l.take k++l.drop k):=by rw [List.take_append_drop];exact ha
  unfold AscB at h4⊢
  rw [List.pairwise_append] at h4⊢
  refine ⟨⟨h4.1,List.pairwise_cons.2 ⟨h3,h4.2.1⟩,fun a ha b hb=> ?_⟩,fun s=> ?_⟩
  ·rcases List.mem_cons.1 hb with rfl | hb
   ·exact h2 a ha
   ·exact h4.2.2 a ha b hb
  ·rw [List.mem_append,List.mem_cons]
   constructor
   ·rintro (h | h | h)
    ·exact .inl (List.mem_of_mem_take h)
    ·exact .inr h
    ·exact .inl (List.mem_of_mem_drop h)
   ·rintro (h | h)
    ·rw [←List.take_append_drop k l] at h
     rcases List.mem_append.1 h with h | h
     ·exact .inl h
     ·exact .inr (.inr h)
    ·exact .inr (.inl h)
section
variable (W : Acts) (σ : Env)
def OpenN (s:ByteArray):Prop:= ∃q,σ s=some q∧q.over=false
def WaitsX (n s:ByteArray):Prop:= ∃r A,σ n=some r∧r.over=false∧r.visits≠0∧W n=some A∧s∈(stepOf A r.at').asks∧OpenN σ s
def WaitL (n:ByteArray) (ns:List ByteArray):Prop:=AscB ns∧∀s,s∈ns↔WaitsX W σ n s
def AskedOk :Prop:= ∀n r A,σ n=some r→r.over=false→r.visits≠0→W n=some A→∀s∈(stepOf A r.at').asks,(W s).isSome=true→(σ s).isSome=true
end
theorem WaitL.unique {W:Acts} {σ:Env} {n:ByteArray} {l m:List ByteArray} (h:WaitL W σ n l) (g:WaitL W σ n m):l=m:=ascB_eq h.1 g.1 (fun s=> (h.2 s).trans (g.2 s).symm)
theorem arrive_asks {A:ActionD} {r:RunX}: (arrive A r).2= (stepOf A (arrive A r).1.at').asks:=by
 unfold arrive
 simp only
 split <;> rfl
theorem next_asksX {W:Acts} {σ:Env} {r:RunX} {A:ActionD} (hA:W r.name=some A) (hc:CanGo W σ r) (ho: (nextOf W σ r).1.over=false): (nextOf W σ r).2= (stepOf A (nextOf W σ r).1.at').asks:=by
 unfold nextOf at ho⊢
 rw [hA] at ho⊢
 simp only at ho⊢
 by_cases hv:r.visits=0
 ·rw [if_pos hv];exact arrive_asks
 ·rw [if_neg hv] at ho⊢
  rcases hc.2 with e | ⟨A',xs,hA',hxs⟩
  ·exact absurd e hv
  ·rw [hA] at hA'
   cases hA'
   rw [hxs] at ho⊢
   simp only at ho⊢
   by_cases h20:r.visits=20
   ·rw [if_pos h20] at ho;cases ho
   ·rw [if_neg h20] at ho⊢
    by_cases hgo: (goOnF (stepOf A r.at') xs).over=true
    ·rw [if_pos hgo] at ho;cases ho
    ·rw [if_neg hgo];exact arrive_asks
theorem AskedOk.did {webl:List NodeD} {σ:Env} (h:AskedOk (actsOf webl) σ) (hg:GoodEnv webl σ) {n:ByteArray} (hn:ReadyX (actsOf webl) σ n):AskedOk (actsOf webl) (doX (actsOf webl) σ n):=by
 obtain ⟨r,hr,hc⟩:=hn
 have hrn:r.name=n:= (hg n r hr).1
 intro m q A hq ho hv hA s hs hsW
 rw [doX_eq hr] at hq
 rw [doX_eq hr]
 by_cases e:s=n
 ·rw [if_pos e];rfl
 rw [if_neg e]
 cases hss:σ s with
 | some x=> rfl
 | none=>
  simp only
  by_cases e2:m=n
  ·rw [if_pos e2] at hq
   cases hq
   subst e2
   have hh:hasN (nextOf (actsOf webl) σ r).2 s=true:=by
    rw [hasN_iff,next_asksX (by rw [hrn];exact hA) hc ho]
    exact hs
   simp [hh,hsW]
  ·rw [if_neg e2] at hq
   cases hm:σ m with
   | some x=>
    rw [hm] at hq
    cases hq
    have h9:=h m _ A hm ho hv hA s hs hsW
    rw [hss] at h9
    exact absurd h9 (by simp)
   | none=>
    rw [hm] at hq
    simp only at hq
    split at hq
    ·cases hq;exact absurd rfl hv
    ·cases hq
theorem ValidX.asked {webl:List NodeD} {roots:List ByteArray} {sl:List RunX} (hv:ValidX webl roots sl):AskedOk (actsOf webl) (envOf sl):=by
 have hok:=web_acts hv.1
 obtain ⟨_,_,_,j,L,hgL,hl,_,rfl⟩:=hv
 have h:=hl.keeps (P:=fun σ:Env=> GoodEnv webl σ∧AskedOk (actsOf webl) σ) (fun σ m h hm=> ⟨goodEnv_do hok h.1 hm.1,h.2.did h.1 hm.1⟩) ⟨(startL_good hok roots).env,fun n r A hr ho hv=> by
  rw [startL_env] at hr
  split at hr
  ·cases hr;exact absurd rfl hv
  ·cases hr⟩
 exact h.2
theorem pend_iff {webl:List NodeD} {σ:Env} (hg:GoodEnv webl σ) (ha:AskedOk (actsOf webl) σ) {n:ByteArray} {r:RunX} (hr:σ n=some r) (s:ByteArray):s∈pend (actsOf webl) σ r↔WaitsX (actsOf webl) σ n s:=by
 obtain ⟨hn,hgd⟩:=hg n r hr
 obtain ⟨A,hA,_⟩:=hgd.act
 rw [hn] at hA
 unfold pend
 constructor
 ·intro h
  split at h
  ·cases h
  ·rename_i h0
   rw [hn,hA] at h
   simp only [List.mem_filter] at h
   obtain ⟨h1,h2⟩:=h
   have ho:r.over=false:=by
    cases h3:r.over
    ·rfl
    ·exact absurd (.inl h3) h0
   have hv:r.visits≠0:=fun e=> h0 (.inr e)
   refine ⟨r,A,hr,ho,hv,hA,h1, ?_⟩
   unfold ansOf at h2
   cases hW:actsOf webl s with
   | none=> rw [hW] at h2;cases h2
   | some B=>
    rw [hW] at h2
    simp only at h2
    have h4:=ha n r A hr ho hv hA s h1 (by rw [hW];rfl)
    cases hs:σ s with
    | none=> rw [hs] at h4;cases h4
    | some q=>
     rw [hs] at h2
     simp only at h2
     cases hq:q.over
     ·exact ⟨q,hs,hq⟩
     ·rw [if_pos hq] at h2;cases h2
 ·rintro ⟨r',A',hr',ho,hv,hA',h1,q,hq,hqo⟩
  rw [hr] at hr'
  cases hr'
  rw [hA] at hA'
  cases hA'
  rw [if_neg (by rw [ho];simp [hv]),hn,hA]
  simp only [List.mem_filter]
  refine ⟨h1, ?_⟩
  obtain ⟨hn2,hg2⟩:=hg s q hq
  obtain ⟨B,hB,_⟩:=hg2.act
  rw [hn2] at hB
  unfold ansOf
  rw [hB,hq]
  simp [hqo]
theorem WaitsX.size {webl:List NodeD} (hok:ActsOk (actsOf webl)) {σ:Env} (hg:GoodEnv webl σ) {n s:ByteArray} (h:WaitsX (actsOf webl) σ n s):s.size≤20:=by
 obtain ⟨_,_,_,_,_,_,_,q,hq,_⟩:=h
 obtain ⟨hn,hgd⟩:=hg s q hq
 obtain ⟨A,hA,_⟩:=hgd.act
 rw [hn] at hA
 exact (hok s A hA).2.2.1
def WaitsAns (webl:List NodeD) (roots:List ByteArray) (sl:List RunX) (name:ByteArray) (ns:List ByteArray):Prop:= (ValidX webl roots sl∧WaitL (actsOf webl) (envOf sl) name ns)∨(¬ValidX webl roots sl∧ns=[])
theorem WaitL.len {webl:List NodeD} (hok:ActsOk (actsOf webl)) {σ:Env} (hg:GoodEnv webl σ) {n:ByteArray} {ns:List ByteArray} (h:WaitL (actsOf webl) σ n ns):ns.length≤5:=by
 cases hns:ns with
 | nil=> simp
 | cons x l=>
  obtain ⟨r,A,hr,_,_,hA,_⟩:= (h.2 x).1 (by rw [hns];simp)
  obtain ⟨hn,hgd⟩:=hg n r hr
  obtain ⟨A',hA',h0,h1⟩:=hgd.act
  rw [hn,hA] at hA'
  cases hA'
  have h5:= (asks_ok (hok n A hA).1 h0 h1).1
  have:=List.Nodup.length_le_of_subset h.1.nodup (l₂:= (stepOf A r.at').asks) (fun s hs=> by
   obtain ⟨r',A',hr',_,_,hA',h2,_⟩:= (h.2 s).1 hs
   rw [hr] at hr'
   cases hr'
   rw [hA] at hA'
   cases hA'
   exact h2)
  rw [←hns]
  omega
theorem WaitsAns.len {webl:List NodeD} {roots:List ByteArray} {sl:List RunX} {name:ByteArray} {ns:List ByteArray} (h:WaitsAns webl roots sl name ns):ns.length≤5:=by
 rcases h with ⟨h1,h2⟩ | ⟨_,rfl⟩
 ·obtain ⟨hW,_,_,k,L,hg,_,_,rfl⟩:=h1
  exact h2.len (web_acts hW) hg.env
 ·exact Nat.zero_le _
theorem WaitsAns.one {webl:List NodeD} {roots:List ByteArray} {sl:List RunX} {name:ByteArray} {ns ms:List ByteArray} (h:WaitsAns webl roots sl name ns) (k:WaitsAns webl roots sl name ms):ms=ns:=by
 rcases h with ⟨h1,h2⟩ | ⟨h1,h2⟩
 ·rcases k with ⟨k1,k2⟩ | ⟨k1,k2⟩
  ·exact k2.unique h2
  ·exact absurd h1 k1
 ·rcases k with ⟨k1,k2⟩ | ⟨k1,k2⟩
  ·exact absurd k1 h1
  ·rw [h2,k2]
end Go.Proofs.YteknkpfbjapoiaaGreatDoor
namespace Go.Proofs.YteknkpfbjapoiaaGreatDoor
open Go.RowKit
def ringF (V:Nat→Nat) (f n i:Nat):Value:= .int .i64 ((if i < 60 then V i else if i=60 then f else n:Nat):Int)
structure RingM (w:World) (rb:Nat) (Q:List Nat):Prop where
 ex: ∃V f,f < 60∧Q.length≤60∧w.rowIs rb 200 62 (ringF V f Q.length)∧∀i,i < Q.length→V ((f+i) % 60)=Q.getD i 0
theorem RingM.lt {w:World} {rb:Nat} {Q:List Nat} (h:RingM w rb Q):rb < w.heap.size:=by obtain ⟨V,f,_,_,⟨c,h1,_⟩,_⟩:=h;exact heap_lt h1
theorem RingM.block {w w':World} {rb:Nat} {Q:List Nat} (h:RingM w rb Q) (k:w'.heap[rb]? =w.heap[rb]?):RingM w' rb Q:=by
 obtain ⟨V,f,h1,h2,⟨c,h3,h4⟩,h5⟩:=h
 exact ⟨V,f,h1,h2,⟨c,k.trans h3,h4⟩,h5⟩
theorem row_put {w:World} {b n:Nat} {t:TypeId} {F G:Nat→Value} (h:w.rowIs b t n F) (i:Nat) (v:Value) (hG: ∀p,p < n→G p=if p=i then v else F p): (w.setCell ⟨b,i,none⟩ v).rowIs b t n G:=by
 obtain ⟨c,h1,h2,h3⟩:=World.rowIs.set h i v
 refine ⟨c,h1,h2,fun p hp=> ?_⟩
 rw [h3 p hp,hG p hp]
theorem row_kept {w w':World} {b n:Nat} {t:TypeId} {F:Nat→Value} (h:w.rowIs b t n F) (k:Kept w w'):w'.rowIs b t n F:=by
 obtain ⟨c,h1,h2⟩:=h
 exact ⟨c,(k.block b (heap_lt h1)).trans h1,h2⟩
set_option maxHeartbeats 1600000 in
theorem put_any (w:World) (rb:Nat) (Q:List Nat) (p:Nat) (hR:RingM w rb Q) (hl:Q.length < 60):
  Calls Tryz.prog 143 #[.pointer (some ⟨rb,0,none⟩),.int .i64 (p:Int)] w fun e w'=> e= .returned (.tuple #[])∧RingM w' rb (Q++ [p])∧But (fun b=> b=rb) w w':=by
 obtain ⟨V,f,hf,hn,hr,hV⟩:=hR.ex
 obtain ⟨n,hnn⟩: ∃n,n=Q.length:= ⟨_,rfl⟩
 rw [←hnn] at hr hl
 obtain ⟨k,hk⟩: ∃k,k= (f+n) % 60:= ⟨_,rfl⟩
 have hk60:k < 60:=by omega
 have c1:w.cell? ⟨rb,60,none⟩=some (.int .i64 (f:Int)):=by rw [hr.cell (by omega)];rfl
 have c2:w.cell? ⟨rb,61,none⟩=some (.int .i64 (n:Int)):=by rw [hr.cell (by omega)];rfl
 have hdm: ((f:Int)+ (n:Int)).tmod 60= (k:Int):=by rw [Int.tmod_eq_emod_of_nonneg (by omega)];omega
 have hfr:=fun i=> hr.frozen i
 have f0:=hfr k
 have f1:=hfr 61
 have hki: (k:Int) < 60:=by omega
 have o0:=hr.cell (show k < 62 by omega)
 have hw1:=row_put hr k (.int .i64 (p:Int)) (G:=ringF (fun i=> if i=k then p else V i) f n) (fun i hi=> by
  unfold ringF
  by_cases e:i=k
  ·subst e;simp [hk60]
  ·simp [e])
 obtain ⟨w1,hw1e⟩: ∃w1,w1=w.setCell ⟨rb,k,none⟩ (.int .i64 (p:Int)):= ⟨_,rfl⟩
 rw [←hw1e] at hw1
 have kb1:But (fun b=> b=rb) w w1:=by rw [hw1e];exact But.set (S:=fun b=> b=rb) (But.of_kept (Kept.refl w)) (p:= ⟨rb,k,none⟩) rfl _
 have HW1:=hide hw1
 have HKb:=hide kb1
 have HV:Hid (∀i,i < Q.length→V ((f+i) % 60)=Q.getD i 0):=hV
 have HK:Hid (k= (f+n) % 60):=hk
 have HN:Hid (n=Q.length):=hnn
 clear hr hfr hw1 kb1 hV hk hnn hR
 go_enter Tryz.func143,Tryz.ntmps143
 go_wp2
 go_region
 rw [←hw1e]
 have KD:Kept w1 w1.drew:= (Kept.refl w1).drew
 generalize hwd:w1.drew=w2 at KD⊢
 clear hw1e hwd c1 c2 f0 f1 o0 hdm
 have hr2:=row_kept HW1.out KD
 have c2:w2.cell? ⟨rb,61,none⟩=some (.int .i64 (n:Int)):=by rw [hr2.cell (by omega)];rfl
 have f1:=hr2.frozen 61
 have HR2:=hide hr2
 have HK2:=hide (HKb.out.trans (But.of_kept KD))
 clear hr2 KD
 go_wp2_with fail
 go_end0
 refine ⟨rfl,⟨fun i=> if i=k then p else V i,f,hf,by rw [List.length_append];simp;have:=HN.out;omega, ?_,fun i hi=> ?_⟩,But.set (S:=fun b=> b=rb) HK2.out (p:= ⟨rb,61,none⟩) rfl _⟩
 ·rw [List.length_append]
  refine row_put HR2.out 61 _ (fun i hi=> ?_)
  unfold ringF
  have hn2:=HN.out
  by_cases e:i=61
  ·subst e;simp [hn2]
  ·have e2: ¬i < 60→i=60:=by omega
   by_cases e3:i < 60
   ·simp [e3,e]
   ·simp [e2 e3]
 ·rw [List.length_append] at hi
  have hn2:=HN.out
  have hk2:=HK.out
  by_cases e:i=Q.length
  ·subst e
   simp only [←hn2,←hk2,if_true,List.getD]
   rw [hn2]
   simp
  ·have hiq:i < Q.length:=by simp at hi;omega
   have hne: (f+i) % 60≠k:=by omega
   simp only [if_neg hne,HV.out i hiq,List.getD,List.getElem?_append_left hiq]
set_option maxHeartbeats 1600000 in
theorem take_any (w:World) (rb:Nat) (Q:List Nat) (p:Nat) (hR:RingM w rb (p :: Q)):
  Calls Tryz.prog 144 #[.pointer (some ⟨rb,0,none⟩)] w fun e w'=> e= .returned (.int .i64 (p:Int))∧RingM w' rb Q∧But (fun b=> b=rb) w w':=by
 obtain ⟨V,f,hf,hn,hr,hV⟩:=hR.ex
 obtain ⟨n,hnn⟩: ∃n,n=Q.length:= ⟨_,rfl⟩
 have hp:V f=p:=by have:=hV 0 (by simp);simpa [Nat.mod_eq_of_lt hf] using this
 rw [List.length_cons,←hnn] at hr
 rw [List.length_cons,←hnn] at hn
 have hfi: (f:Int) < 60:=by omega
 have HC0:Hid (∀u,w.rowIs rb 200 62 (ringF V f (n+1))→Kept w u→u.cell? ⟨rb,60,none⟩=some (.int .i64 (f:Int))∧u.cell? ⟨rb,f,none⟩=some (.int .i64 (p:Int))):=fun u hr k=> by
  have h2:=row_kept hr k
  refine ⟨by rw [h2.cell (by omega)];rfl, ?_⟩
  rw [h2.cell (by omega)]
  unfold ringF
  rw [if_pos hf,hp]
 obtain ⟨c1,c2⟩:=HC0.out w hr (Kept.refl w)
 have HR:=hide hr
 have HV:Hid (∀i,i < Q.length→V ((f+ (i+1)) % 60)=Q.getD i 0):=fun i hi=> by have:=hV (i+1) (by simp;omega);simpa using this
 have HN:Hid (n=Q.length):=hnn
 clear hr hV hnn hR hp HC0
 go_enter Tryz.func144,Tryz.ntmps144
 go_wp2
 go_region
 have KD:Kept w w.drew:= (Kept.refl w).drew
 generalize hwd:w.drew=w1 at KD⊢
 clear hwd c1 c2
 have hr1:=row_kept HR.out KD
 have c1:w1.cell? ⟨rb,60,none⟩=some (.int .i64 (f:Int)):=by rw [hr1.cell (by omega)];rfl
 obtain ⟨k,hk⟩: ∃k,k= (f+1) % 60:= ⟨_,rfl⟩
 have hdm: ((f:Int)+1).tmod 60= (k:Int):=by rw [Int.tmod_eq_emod_of_nonneg (by omega)];omega
 have f1:=hr1.frozen 60
 have HR1:=hide hr1
 have HK:=hide hk
 clear hr1 HR hk
 go_upto_region 3 with fail
 have hr2:=row_put HR1.out 60 (.int .i64 (k:Int)) (G:=ringF V k (n+1)) (fun i hi=> by
  unfold ringF
  by_cases e:i=60
  ·subst e;simp
  ·by_cases e3:i < 60
   ·simp [e3,e]
   ·simp [e3,e])
 have kb:But (fun b=> b=rb) w (w1.setCell ⟨rb,60,none⟩ (.int .i64 (k:Int))):=But.set (S:=fun b=> b=rb) (But.of_kept KD) (p:= ⟨rb,60,none⟩) rfl _
 generalize hw2:w1.setCell ⟨rb,60,none⟩ (.int .i64 (k:Int))=w2 at hr2 kb⊢
 clear hw2 c1 f1 hdm
 have c2:w2.cell? ⟨rb,61,none⟩=some (.int .i64 ((n+1:Nat):Int)):=by rw [hr2.cell (by omega)];rfl
 have f2:=hr2.frozen 61
 have hsub: ((n+1:Nat):Int) - 1= (n:Int):=by omega
 have hr3:=row_put hr2 61 (.int .i64 (n:Int)) (G:=ringF V k n) (fun i hi=> by
  unfold ringF
  by_cases e:i=61
  ·subst e;simp
  ·have e2: ¬i < 60→i=60:=by omega
   by_cases e3:i < 60
   ·simp [e3,e]
   ·simp [e2 e3])
 have HR3:=hide hr3
 have HB:=hide (But.set (S:=fun b=> b=rb) kb (p:= ⟨rb,61,none⟩) rfl (.int .i64 (n:Int)))
 clear hr2 hr3 kb
 go_wp2_with fail
 go_ret
 refine ⟨rfl,⟨V,k, ?_, ?_, ?_,fun i hi=> ?_⟩,HB.out⟩
 ·rw [HK.out];omega
 ·have:=HN.out;omega
 ·rw [←HN.out];exact HR3.out
 ·rw [←HV.out i hi]
  have:=HK.out
  congr 1
  omega
theorem cmpLess_any (w:World) (x y:ByteArray):Calls Tryz.prog 140 #[.string x,.string y] w fun e w'=> e= .returned (.bool (Op.bytesLess x.toList y.toList))∧w'=w:=by
 cases h1:Op.bytesLess x.toList y.toList
 all_goals
  go_enter Tryz.func140,Tryz.ntmps140
  go_wp2
  go_ret
  exact ⟨rfl,rfl⟩
theorem slicesNaN_any (w:World) (x:ByteArray):Calls Tryz.prog 141 #[.string x] w fun e w'=> e= .returned (.bool false)∧w'=w:=by
 go_enter Tryz.func141,Tryz.ntmps141
 go_wp2
 go_ret
 exact ⟨rfl,rfl⟩
def FoundS (l:List ByteArray) (s:ByteArray) (e:Ending):Prop:= ∃(k:Nat) (b:Bool),e= .returned (.tuple #[.int .i64 (k:Int),.bool b])∧(b=true→k < l.length∧l.getD k ByteArray.empty=s)∧(b=false→s∉l)
theorem FoundS.mk {l:List ByteArray} {s:ByteArray} {e:Ending} (k:Nat) (b:Bool) (h:e= .returned (.tuple #[.int .i64 (k:Int),.bool b])) (h1:b=true→k < l.length∧l.getD k ByteArray.empty=s) (h2:b=false→s∉l):FoundS l s e:= ⟨k,b,h,h1,h2⟩
set_option maxRecDepth 100000 in
set_option maxHeartbeats 1600000 in
theorem bsearch_any (w:World) (a:Option Addr) (cap:Nat) (l:List ByteArray) (s:ByteArray) (hl:l.length≤1048576) (ha:AscB l) (hS:Strs w a l):
  Calls Tryz.prog 93 #[.slice a l.length cap,.string s] w fun e w'=> FoundS l s e∧w'=w:=by
 have HA:Hid (∀p q,p < q→q < l.length→lessX (l.getD p ByteArray.empty) (l.getD q ByteArray.empty)):=fun p q h1 h2=> by
  have:=List.pairwise_iff_getElem.1 ha p q (by omega) h2 h1
  simpa [List.getD,h2,show p < l.length by omega] using this
 clear ha
 go_enter Tryz.func93,Tryz.ntmps93
 go_wp2
 go_loopw [7,8] (fun x y wr=> ∃i j:Nat,x= .int .i64 i∧y= .int .i64 j∧i≤j∧j≤l.length∧Hid (∀t,t < i→lessX (l.getD t ByteArray.empty) s)∧Hid (∀t,j≤t→t < l.length→¬lessX (l.getD t ByteArray.empty) s)∧wr=w) (fun x y _=> (intOf y).toNat - (intOf x).toNat)
 case atStart=> exact ⟨0,l.length,rfl,rfl,Nat.zero_le _,Nat.le_refl _,hide (fun t ht=> absurd ht (Nat.not_lt_zero _)),hide (fun t h1 h2=> by omega),rfl⟩
 case round=>
  obtain ⟨i,j,rfl,rfl,hij,hjn,HB,HN,rfl⟩:=hrel
  by_cases hlt: (i:Int) < j
  ·obtain ⟨h,hh⟩: ∃h:Nat,h= (i+j) / 2:= ⟨_,rfl⟩
   have hhlt:h < l.length:=by omega
   have hhi:i≤h:=by omega
   have hhj:h < j:=by omega
   obtain ⟨b,o,rfl,hb,hcs⟩:=hS h hhlt
   obtain ⟨d,hd⟩: ∃d,d=l.getD h ByteArray.empty:= ⟨_,rfl⟩
   rw [←hd] at hcs
   have HD:=hide hd
   clear hd
   have hmid: ((i:Int)+ (j:Int)) / 2= (h:Int):=by omega
   have HH:=hide hh
   clear hh
   go_wp2_with fail
   refine (cmpLess_any _ d s).mono ?_
   rintro e w1 ⟨rfl,rfl⟩
   clear hcs
   cases hls:Op.bytesLess d.toList s.toList
   ·go_wp2_with fail
    go_roundw
    case rel=>
     refine ⟨i,h,rfl,by go_num,hhi,by omega,HB,hide (fun t h1 h2 hlt2=> ?_),trivial⟩
     have hno: ¬lessX (l.getD h ByteArray.empty) s:=fun g=> by rw [←HD.out] at g;unfold lessX at g;rw [hls] at g;cases g
     rcases Nat.lt_or_ge h t with e | e
     ·exact hno (lessX_trans (HA.out h t e h2) hlt2)
     ·have:t=h:=by omega
      subst this
      exact hno hlt2
    case measure=> simp [intOf];omega
   ·go_wp2_with fail
    go_roundw
    case rel=>
     refine ⟨h+1,j,by go_num,rfl,by omega,hjn,hide (fun t ht=> ?_),HN,trivial⟩
     have hyes:lessX (l.getD h ByteArray.empty) s:=by rw [←HD.out];exact hls
     rcases Nat.lt_or_ge t h with e | e
     ·exact lessX_trans (HA.out t h e hhlt) hyes
     ·have:t=h:=by omega
      subst this
      exact hyes
    case measure=> simp [intOf];omega
  ·have hij':i=j:=by omega
   subst hij'
   have HMem:Hid (s∈l→i < l.length∧l.getD i ByteArray.empty=s):=fun hm=> by
    obtain ⟨q,hq,e⟩:=List.getElem_of_mem hm
    have e2:l.getD q ByteArray.empty=s:=by simpa [List.getD,hq] using e
    have h1: ¬q < i:=fun g=> by have:=HB.out q g;rw [e2] at this;exact lessX_irrefl _ this
    have h2:q=i:=by
     rcases Nat.lt_or_ge i q with g | g
     ·have h3:=HA.out i q g hq
      rw [e2] at h3
      exact absurd h3 (HN.out i (Nat.le_refl _) (by omega))
     ·omega
    subst h2
    exact ⟨hq,e2⟩
   by_cases hin:i < l.length
   ·obtain ⟨b,o,rfl,hb,hcs⟩:=hS i hin
    obtain ⟨d,hd⟩: ∃d,d=l.getD i ByteArray.empty:= ⟨_,rfl⟩
    rw [←hd] at hcs
    have HD:=hide hd
    clear hd
    have hii: (i:Int) < (l.length:Int):=by omega
    cases heq: (d.toList == s.toList)
    ·go_wp2_with (first | (go_at_call 141;refine (slicesNaN_any _ _).mono ?_;rintro e w1 ⟨rfl,rfl⟩))
     go_ret2
     exact ⟨FoundS.mk i false rfl (fun h=> by cases h) (fun _ hm=> by
      have h2:= (HMem.out hm).2
      rw [←HD.out] at h2
      rw [h2] at heq
      simp at heq),rfl⟩
    ·go_wp2_with fail
     go_ret2
     exact ⟨FoundS.mk i true rfl (fun _=> ⟨hin,by rw [←HD.out];exact beq_yes heq⟩) (fun h=> by cases h),rfl⟩
   ·go_wp2_with fail
    go_ret2
    exact ⟨FoundS.mk i false rfl (fun h=> by cases h) (fun _ hm=> hin (HMem.out hm).1),rfl⟩
end Go.Proofs.YteknkpfbjapoiaaGreatDoor
namespace Go.Proofs.YteknkpfbjapoiaaGreatDoor
structure Places (E:ByteArray→ByteArray→Prop) (nm:List ByteArray):Prop where
 asc:AscB nm
 all: ∀x y,E x y→x∈nm
def EdgeP (E:ByteArray→ByteArray→Prop) (nm:List ByteArray) (p q:Nat):Prop:= ∃(hp:p < nm.length) (hq:q < nm.length),E nm[p] nm[q]
section
variable {E : ByteArray → ByteArray → Prop} {nm : List ByteArray}
theorem Places.less (h:Places E nm) {p q:Nat} (hp:p < nm.length) (hq:q < nm.length):lessX nm[p] nm[q]↔p < q:=by
 have hi:=List.pairwise_iff_getElem.1 h.asc
 constructor
 ·intro hl
  rcases Nat.lt_trichotomy p q with e | e | e
  ·exact e
  ·subst e;exact absurd hl (lessX_irrefl _)
  ·exact absurd hl (lessX_asymm (hi q p hq hp e))
 ·exact hi p q hp hq
theorem Places.inj (h:Places E nm) {p q:Nat} (hp:p < nm.length) (hq:q < nm.length) (e:nm[p]=nm[q]):p=q:=by
 rcases Nat.lt_trichotomy p q with g | g | g
 ·have:= (h.less hp hq).2 g;rw [e] at this;exact absurd this (lessX_irrefl _)
 ·exact g
 ·have:= (h.less hq hp).2 g;rw [e] at this;exact absurd this (lessX_irrefl _)
theorem Places.place (h:Places E nm) {x y:ByteArray} (hE:E x y): ∃(p:Nat) (hp:p < nm.length),nm[p]=x:=List.getElem_of_mem (h.all x y hE)
theorem walk_to {n:Nat} {p q:Nat} (h:WalkN (EdgeP E nm) n p q) (hp:p < nm.length): ∃hq:q < nm.length,WalkN E n nm[p] nm[q]:=by
 induction h with
 | here a=> exact ⟨hp,.here _⟩
 | step h _ ih=>
  obtain ⟨_,hb,hE⟩:=h
  obtain ⟨hq,hw⟩:=ih hb
  exact ⟨hq,.step hE hw⟩
theorem Places.back (h:Places E nm): ∀{n:Nat} {p q:Nat} (hp:p < nm.length) (hq:q < nm.length),WalkN E n nm[p] nm[q]→WalkN (EdgeP E nm) n p q:=by
 intro n
 induction n with
 | zero=> intro p q hp hq hw;rw [h.inj hp hq hw.zero];exact .here q
 | succ n ih=>
  intro p q hp hq hw
  obtain ⟨b,h1,h2⟩:=hw.first
  have: ∃(r:Nat) (hr:r < nm.length),nm[r]=b:=by
   cases n with
   | zero=> exact ⟨q,hq,h2.zero.symm⟩
   | succ m=>
    obtain ⟨c,h3,_⟩:=h2.first
    exact h.place h3
  obtain ⟨r,hr,rfl⟩:=this
  exact .step ⟨hp,hr,h1⟩ (ih hr hq h2)
theorem Places.far (h:Places E nm) {n:Nat} {p q:Nat} (hp:p < nm.length) (hq:q < nm.length):Far (EdgeP E nm) q n p↔Far E nm[q] n nm[p]:=by
 constructor
 ·intro hf
  exact ⟨(walk_to hf.1 hp).2,fun m hm hw=> hf.2 m hm (h.back hp hq hw)⟩
 ·intro hf
  exact ⟨h.back hp hq hf.1,fun m hm hw=> hf.2 m hm (walk_to hw hp).2⟩
def LeastP (p:Nat→Prop) (x:Nat):Prop:=p x∧∀y,p y→x≤y
inductive CircP (R:Nat→Nat→Prop) (t:Nat):Nat→Nat→List Nat→Prop
 | stop (a:Nat):CircP R t 1 a [a]
 | step {n:Nat} {a x:Nat} {l:List Nat} (h:LeastP (fun y=> R a y∧Far R t n y) x) (r:CircP R t n x l):CircP R t (n+1) a (a :: l)
def nameOf (nm:List ByteArray) (p:Nat):ByteArray:=nm.getD p ByteArray.empty
theorem nameOf_at {p:Nat} (hp:p < nm.length):nameOf nm p=nm[p]:=by simp [nameOf,List.getD,hp]
theorem CircP.names (h:Places E nm) {t:Nat} (ht:t < nm.length) {n a:Nat} {l:List Nat} (hc:CircP (EdgeP E nm) t n a l) (ha:a < nm.length):CircU E nm[t] n nm[a] (l.map (nameOf nm)):=by
 induction hc with
 | stop a=> rw [List.map_cons,List.map_nil,nameOf_at ha];exact .stop _
 | @step n a x l hl r ih=>
  obtain ⟨⟨⟨_,hx,hE⟩,hf⟩,hmin⟩:=hl
  rw [List.map_cons,nameOf_at ha]
  refine .step ⟨⟨hE,(h.far hx ht).1 hf⟩,fun y hy hlt=> ?_⟩ (ih hx)
  have hn:1≤n:=by cases r <;> omega
  obtain ⟨m,rfl⟩: ∃m,n=m+1:= ⟨n - 1,by omega⟩
  obtain ⟨z,hz,_⟩:=hy.2.next
  obtain ⟨p,hp,rfl⟩:=h.place hz
  have h1:=hmin p ⟨⟨ha,hp,hy.1⟩,(h.far hp ht).2 hy.2⟩
  have h2:= (h.less hp hx).1 hlt
  omega
def SizeP (R:Nat→Nat→Prop) (t n:Nat):Prop:=1≤n∧WalkN R n t t∧∀m,1≤m→m < n→¬WalkN R m t t
structure BestP (R:Nat→Nat→Prop) (k:Nat) (best:List Nat):Prop where
 no:best=[]→∀t,t < k→∀n,¬SizeP R t n
 yes:best≠[]→∃t n,t < k∧SizeP R t n∧CircP R t n t best∧best.length=n∧(∀h,h < k→∀j,SizeP R h j→n≤j∧(h < t→n < j))
theorem BestP.start (R:Nat→Nat→Prop):BestP R 0 []:= ⟨fun _ _t ht=> absurd ht (Nat.not_lt_zero _),fun h=> absurd rfl h⟩
theorem SizeP.unique {R:Nat→Nat→Prop} {t n m:Nat} (h:SizeP R t n) (g:SizeP R t m):n=m:=by
 rcases Nat.lt_trichotomy n m with e | e | e
 ·exact absurd h.2.1 (g.2.2 n h.1 e)
 ·exact e
 ·exact absurd g.2.1 (h.2.2 m g.1 e)
theorem BestP.skip {R:Nat→Nat→Prop} {k:Nat} {best:List Nat} (h:BestP R k best) (hn: ∀n,SizeP R k n→best≠[]∧best.length≤n):BestP R (k+1) best:=by
 refine ⟨fun e t ht n hs=> ?_,fun e=> ?_⟩
 ·by_cases g:t=k
  ·subst g;exact (hn n hs).1 e
  ·exact h.no e t (by omega) n hs
 ·obtain ⟨t,n,h1,h2,h3,h4,h5⟩:=h.yes e
  refine ⟨t,n,by omega,h2,h3,h4,fun q hq j hj=> ?_⟩
  by_cases g:q=k
  ·subst g
   have:= (hn j hj).2
   exact ⟨by omega,fun hlt=> by omega⟩
  ·exact h5 q (by omega) j hj
theorem BestP.take {R:Nat→Nat→Prop} {k n:Nat} {best l:List Nat} (h:BestP R k best) (hs:SizeP R k n) (hc:CircP R k n k l) (hl:l.length=n) (hb:best=[]∨n < best.length):BestP R (k+1) l:=by
 have hl0:l≠[]:=by cases hc <;> simp
 refine ⟨fun e=> absurd e hl0,fun _=> ⟨k,n,by omega,hs,hc,hl,fun q hq j hj=> ?_⟩⟩
 by_cases g:q=k
 ·subst g
  have:=hs.unique hj
  exact ⟨by omega,fun hlt=> by omega⟩
 ·rcases hb with rfl | hb
  ·exact absurd hj (h.no rfl q (by omega) j)
  ·obtain ⟨t,m,h1,h2,h3,h4,h5⟩:=h.yes (by intro e;rw [e] at hb;simp at hb)
   have:= (h5 q (by omega) j hj).1
   exact ⟨by omega,fun _=> by omega⟩
end
end Go.Proofs.YteknkpfbjapoiaaGreatDoor
namespace Go.Proofs.YteknkpfbjapoiaaGreatDoor
structure NeedP (E:ByteArray→ByteArray→Prop) (nm:List ByteArray) (k:Nat) (S:List ByteArray) (j M:Nat) (need back:Nat→List Nat):Prop where
 fwd: ∀p q,q∈need p↔(p < k∧EdgeP E nm p q)∨(p=k∧∃hq:q < nm.length,nm[q]∈S.take j)
 bwd: ∀p q,p∈back q↔(p < k∧EdgeP E nm p q)∨(p=k∧∃hq:q < nm.length,nm[q]∈S.take j)
 asc: ∀p,(need p).Pairwise (· ≤ ·)
 len: ∀p,(need p).length≤M∧(back p).length≤M
structure NeedR (E:ByteArray→ByteArray→Prop) (nm:List ByteArray) (M:Nat) (need back:Nat→List Nat):Prop where
 fwd: ∀p q,q∈need p↔EdgeP E nm p q
 bwd: ∀p q,p∈back q↔EdgeP E nm p q
 asc: ∀p,(need p).Pairwise (· ≤ ·)
 len: ∀p,(need p).length≤M∧(back p).length≤M
section
variable {E : ByteArray → ByteArray → Prop} {nm S : List ByteArray} {k j M : Nat} {need back : Nat → List Nat}
theorem NeedP.start (E:ByteArray→ByteArray→Prop) (nm S:List ByteArray):NeedP E nm 0 S 0 0 (fun _=> []) (fun _=> []):=
 ⟨fun p q=> by simp,fun p q=> by simp,fun p=> List.Pairwise.nil,fun p=> ⟨Nat.le_refl _,Nat.le_refl _⟩⟩
theorem NeedP.enter (h:NeedP E nm k S 0 M need back) (S':List ByteArray):NeedP E nm k S' 0 M need back:=
 ⟨fun p q=> by rw [h.fwd];simp,fun p q=> by rw [h.bwd];simp,h.asc,h.len⟩
theorem NeedP.leave (h:NeedP E nm k S j M need back) (hk:k < nm.length) (hj:S.length≤j) (hS: ∀y,y∈S↔E nm[k] y):NeedP E nm (k+1) [] 0 M need back:=by
 have key: ∀p q,(p < k∧EdgeP E nm p q)∨(p=k∧∃hq:q < nm.length,nm[q]∈S.take j)↔(p < k+1∧EdgeP E nm p q)∨(p=k+1∧∃hq:q < nm.length,nm[q]∈([]:List ByteArray).take 0):=fun p q=> by
  rw [List.take_of_length_le hj]
  constructor
  ·rintro (⟨h1,h2⟩ | ⟨rfl,hq,h2⟩)
   ·exact .inl ⟨by omega,h2⟩
   ·exact .inl ⟨by omega,hk,hq,(hS _).1 h2⟩
  ·rintro (⟨h1,hp,hq,h2⟩ | ⟨_,_,h2⟩)
   ·by_cases e:p=k
    ·subst e;exact .inr ⟨rfl,hq,(hS _).2 h2⟩
    ·exact .inl ⟨by omega,hp,hq,h2⟩
   ·simp at h2
 exact ⟨fun p q=> (h.fwd p q).trans (key p q),fun p q=> (h.bwd p q).trans (key p q),h.asc,h.len⟩
theorem NeedP.skip (h:NeedP E nm k S j M need back) (hj:j < S.length) (hno:S[j]∉nm):NeedP E nm k S (j+1) M need back:=by
 have key: ∀q:Nat,(∃hq:q < nm.length,nm[q]∈S.take j)↔∃hq:q < nm.length,nm[q]∈S.take (j+1):=fun q=> by
  rw [List.take_succ_eq_append_getElem hj]
  constructor
  ·rintro ⟨hq,h1⟩;exact ⟨hq,List.mem_append.2 (.inl h1)⟩
  ·rintro ⟨hq,h1⟩
   rcases List.mem_append.1 h1 with h2 | h2
   ·exact ⟨hq,h2⟩
   ·rw [List.mem_singleton] at h2
    exact absurd (by rw [←h2];exact List.getElem_mem hq) hno
 exact ⟨fun p q=> by rw [h.fwd,key],fun p q=> by rw [h.bwd,key],h.asc,h.len⟩
theorem NeedP.put (hP:Places E nm) (h:NeedP E nm k S j M need back) (hj:j < S.length) (hS:S.Pairwise fun a b=> ¬lessX b a) {q:Nat} (hq:q < nm.length) (he:nm[q]=S[j]) (hk:k < nm.length) (hsub: ∀y∈S,E nm[k] y):
  NeedP E nm k S (j+1) (M+1) (fun p=> if p=k then need k++ [q] else need p) (fun p=> if p=q then back q++ [k] else back p):=by
 have key: ∀r:Nat,(∃hr:r < nm.length,nm[r]∈S.take (j+1))↔(∃hr:r < nm.length,nm[r]∈S.take j)∨r=q:=fun r=> by
  rw [List.take_succ_eq_append_getElem hj]
  constructor
  ·rintro ⟨hr,h1⟩
   rcases List.mem_append.1 h1 with h2 | h2
   ·exact .inl ⟨hr,h2⟩
   ·rw [List.mem_singleton,←he] at h2
    exact .inr (hP.inj hr hq h2)
  ·rintro (⟨hr,h1⟩ | rfl)
   ·exact ⟨hr,List.mem_append.2 (.inl h1)⟩
   ·exact ⟨hq,List.mem_append.2 (.inr (by rw [he];simp))⟩
 refine ⟨fun p r=> ?_,fun p r=> ?_,fun p=> ?_,fun p=> ⟨?_, ?_⟩⟩
 ·rw [key]
  by_cases e:p=k
  ·subst e
   simp only [if_true,List.mem_append,List.mem_singleton,h.fwd]
   constructor
   ·rintro ((⟨h1,h2⟩ | ⟨_,h2⟩) | h2)
    ·exact .inl ⟨h1,h2⟩
    ·exact .inr ⟨trivial,.inl h2⟩
    ·exact .inr ⟨trivial,.inr h2⟩
   ·rintro (⟨h1,h2⟩ | ⟨_,h2 | h2⟩)
    ·exact .inl (.inl ⟨h1,h2⟩)
    ·exact .inl (.inr ⟨trivial,h2⟩)
    ·exact .inr h2
  ·show (r∈if p=k then need k++ [q] else need p)↔_
   rw [if_neg e,h.fwd]
   simp only [e,false_and,or_false]
 ·rw [key]
  by_cases e:r=q
  ·subst e
   simp only [if_true,List.mem_append,List.mem_singleton,h.bwd]
   constructor
   ·rintro ((h1 | ⟨h1,h2⟩) | h1)
    ·exact .inl h1
    ·exact .inr ⟨h1,.inl h2⟩
    ·exact .inr ⟨h1,.inr trivial⟩
   ·rintro (h1 | ⟨h1,h2 | _⟩)
    ·exact .inl (.inl h1)
    ·exact .inl (.inr ⟨h1,h2⟩)
    ·exact .inr h1
  ·show (p∈if r=q then back q++ [k] else back r)↔_
   rw [if_neg e,h.bwd]
   simp only [e,or_false]
 ·by_cases e:p=k
  ·subst e
   simp only [if_true]
   rw [List.pairwise_append]
   refine ⟨h.asc p,by simp,fun a ha b hb=> ?_⟩
   rw [List.mem_singleton] at hb
   subst hb
   rcases (h.fwd p a).1 ha with ⟨h1,_⟩ | ⟨_,har,h2⟩
   ·omega
   ·obtain ⟨i,hi,h3⟩:=List.mem_take_iff_getElem.1 h2
    have h4:=List.pairwise_iff_getElem.1 hS i j (by omega) hj (by omega)
    rw [h3,←he,hP.less hq har] at h4
    omega
  ·simp only [if_neg e];exact h.asc p
 ·by_cases e:p=k
  ·simp only [e,if_true,List.length_append,List.length_singleton];have:= (h.len k).1;omega
  ·simp only [if_neg e];have:= (h.len p).1;omega
 ·by_cases e:p=q
  ·simp only [e,if_true,List.length_append,List.length_singleton];have:= (h.len q).2;omega
  ·simp only [if_neg e];have:= (h.len p).2;omega
theorem NeedP.whole (h:NeedP E nm nm.length [] 0 M need back):NeedR E nm M need back:=by
 have key: ∀p q,(p < nm.length∧EdgeP E nm p q)∨(p=nm.length∧∃hq:q < nm.length,nm[q]∈([]:List ByteArray).take 0)↔EdgeP E nm p q:=fun p q=> by
  constructor
  ·rintro (⟨_,h1⟩ | ⟨_,_,h1⟩)
   ·exact h1
   ·simp at h1
  ·intro h1
   exact .inl ⟨h1.1,h1⟩
 exact ⟨fun p q=> (h.fwd p q).trans (key p q),fun p q=> (h.bwd p q).trans (key p q),h.asc,h.len⟩
end
section
variable {R : Nat → Nat → Prop} {t : Nat}
structure PartP (R:Nat→Nat→Prop) (t n:Nat) (l:List Nat) (a q:Nat):Prop where
 len:l.length+q=n+1
 pos:1≤q
 more:2≤q→∃y,R a y∧Far R t (q - 1) y
 last: ∃l0,l=l0++ [a]
 rest: ∀r,CircP R t q a r→CircP R t n t (l.dropLast++r)
theorem PartP.start {n:Nat} (h:SizeP R t n):PartP R t n [t] t n:=by
 refine ⟨by simp;omega,h.1,fun h2=> ?_,⟨[],rfl⟩,fun r hr=> hr⟩
 obtain ⟨m,rfl⟩: ∃m,n=m+1:= ⟨n - 1,by omega⟩
 obtain ⟨y,h3,h4⟩:=h.2.1.first
 refine ⟨y,h3,h4,fun i hi hw=> h.2.2 (i+1) (by omega) (by omega) (.step h3 hw)⟩
theorem PartP.next {n q a x:Nat} {l:List Nat} (h:PartP R t n l a (q+1)) (hq:1≤q) (hx:LeastP (fun y=> R a y∧Far R t q y) x):PartP R t n (l++ [x]) x q:=by
 obtain ⟨l0,hl0⟩:=h.last
 refine ⟨by have:=h.len;rw [List.length_append];simp;omega,hq,fun h2=> ?_,⟨l,rfl⟩,fun r hr=> ?_⟩
 ·obtain ⟨m,rfl⟩: ∃m,q=m+1:= ⟨q - 1,by omega⟩
  exact hx.1.2.next
 ·have h1:=h.rest (a :: r) (CircP.step hx hr)
  rw [List.dropLast_concat]
  rw [hl0,List.dropLast_concat] at h1
  rw [hl0,List.append_assoc]
  exact h1
theorem PartP.done {n a:Nat} {l:List Nat} (h:PartP R t n l a 1):CircP R t n t l:=by
 obtain ⟨l0,hl0⟩:=h.last
 have h1:=h.rest [a] (CircP.stop a)
 rw [hl0,List.dropLast_concat] at h1
 rw [hl0]
 exact h1
theorem CircP.len {n a:Nat} {l:List Nat} (h:CircP R t n a l):l.length=n:=by
 induction h with
 | stop=> rfl
 | step _ _ ih=> simp [ih]
end
end Go.Proofs.YteknkpfbjapoiaaGreatDoor
namespace Go.Proofs.YteknkpfbjapoiaaGreatDoor
structure ReachI (E:ByteArray→ByteArray→Prop) (x:ByteArray) (ns:List ByteArray):Prop where
 asc:AscB ns
 sub: ∀s∈ns,∃n,WalkN E (n+1) x s
 base: ∀s,E x s→s∈ns
def ReachL (E:ByteArray→ByteArray→Prop) (x:ByteArray) (ns:List ByteArray):Prop:=AscB ns∧∀s,s∈ns↔∃n,WalkN E (n+1) x s
structure MoreI (E:ByteArray→ByteArray→Prop) (out:List ByteArray) (k:Nat) (list:List ByteArray) (j:Nat) (more:List ByteArray):Prop where
 asc:AscB more
 iff: ∀s,s∈more↔s∈out∨(∃c∈out.take k,E c s)∨s∈list.take j
section
variable {E : ByteArray → ByteArray → Prop} {x : ByteArray} {out more list : List ByteArray}
theorem asc_nodupB {l:List ByteArray} (h:AscB l):l.Nodup:=h.imp fun {a b} hab=> lessX_ne hab
theorem MoreI.start (h:AscB out):MoreI E out 0 [] 0 out:= ⟨h,fun s=> by simp⟩
theorem MoreI.enter {k:Nat} (h:MoreI E out k [] 0 more) (list:List ByteArray):MoreI E out k list 0 more:= ⟨h.asc,fun s=> by rw [h.iff];simp⟩
theorem MoreI.step {k j:Nat} {more':List ByteArray} (h:MoreI E out k list j more) (hj:j < list.length) (ha:AscB more') (hm: ∀s,s∈more'↔s∈more∨s=list[j]):MoreI E out k list (j+1) more':=by
 refine ⟨ha,fun s=> ?_⟩
 rw [hm,h.iff,List.take_succ_eq_append_getElem hj,List.mem_append,List.mem_singleton]
 constructor
 ·rintro ((h1 | h1 | h1) | h1)
  ·exact .inl h1
  ·exact .inr (.inl h1)
  ·exact .inr (.inr (.inl h1))
  ·exact .inr (.inr (.inr h1))
 ·rintro (h1 | h1 | h1 | h1)
  ·exact .inl (.inl h1)
  ·exact .inl (.inr (.inl h1))
  ·exact .inl (.inr (.inr h1))
  ·exact .inr h1
theorem MoreI.leave {k j:Nat} (h:MoreI E out k list j more) (hk:k < out.length) (hj:list.length≤j) (hl: ∀s,s∈list↔E out[k] s):MoreI E out (k+1) [] 0 more:=by
 refine ⟨h.asc,fun s=> ?_⟩
 rw [h.iff,List.take_of_length_le hj,List.take_succ_eq_append_getElem hk]
 constructor
 ·rintro (h1 | ⟨c,h1,h2⟩ | h1)
  ·exact .inl h1
  ·exact .inr (.inl ⟨c,List.mem_append.2 (.inl h1),h2⟩)
  ·exact .inr (.inl ⟨out[k],List.mem_append.2 (.inr (by simp)),(hl s).1 h1⟩)
 ·rintro (h1 | ⟨c,h1,h2⟩ | h1)
  ·exact .inl h1
  ·rcases List.mem_append.1 h1 with h3 | h3
   ·exact .inr (.inl ⟨c,h3,h2⟩)
   ·rw [List.mem_singleton] at h3;rw [h3] at h2;exact .inr (.inr ((hl s).2 h2))
  ·simp at h1
theorem MoreI.len {k j:Nat} (ho:AscB out) (h:MoreI E out k list j more):out.length≤more.length:=List.Nodup.length_le_of_subset (asc_nodupB ho) (fun s hs=> (h.iff s).2 (.inl hs))
theorem ReachI.done (h:ReachI E x out) (hm:MoreI E out out.length [] 0 more) (hl:more.length=out.length):ReachL E x out:=by
 have hsub: ∀s∈more,s∈out:=fun s hs=> by
  by_cases hn:s∈out
  ·exact hn
  ·have:=List.Nodup.length_le_of_subset (l₁:=s :: out) (l₂:=more) (List.nodup_cons.2 ⟨hn,asc_nodupB h.asc⟩) (fun y hy=> by
    rcases List.mem_cons.1 hy with rfl | hy
    ·exact hs
    ·exact (hm.iff y).2 (.inl hy))
   simp at this
   omega
 have hclo: ∀c∈out,∀s,E c s→s∈out:=fun c hc s hs=> hsub s ((hm.iff s).2 (.inr (.inl ⟨c,by rw [List.take_length];exact hc,hs⟩)))
 refine ⟨h.asc,fun s=> ⟨h.sub s, ?_⟩⟩
 rintro ⟨n,hw⟩
 obtain ⟨b,h1,h2⟩:=hw.first
 have key: ∀{n:Nat} {b s:ByteArray},WalkN E n b s→b∈out→s∈out:=by
  intro n b s hw
  induction hw with
  | here a=> exact id
  | step h3 _ ih=> exact fun hb=> ih (hclo _ hb _ h3)
 exact key h2 (h.base b h1)
theorem ReachI.next (h:ReachI E x out) (hm:MoreI E out out.length [] 0 more):ReachI E x more:=by
 refine ⟨hm.asc,fun s hs=> ?_,fun s hs=> (hm.iff s).2 (.inl (h.base s hs))⟩
 rcases (hm.iff s).1 hs with h1 | ⟨c,h1,h2⟩ | h1
 ·exact h.sub s h1
 ·rw [List.take_length] at h1
  obtain ⟨n,hn⟩:=h.sub c h1
  exact ⟨n+1,by have:=hn.trans (WalkN.one h2);exact this⟩
 ·simp at h1
theorem ReachI.len (h:ReachI E x out) {names:List ByteArray} (hn: ∀a b,E a b→b∈names):out.length≤names.length:=by
 refine List.Nodup.length_le_of_subset (asc_nodupB h.asc) (fun s hs=> ?_)
 obtain ⟨n,hw⟩:=h.sub s hs
 clear hs h
 generalize hm:n+1=m at hw
 induction hw generalizing n with
 | here a=> cases hm
 | @step m a b c h1 r ih=>
  cases m with
  | zero=> rw [←r.zero];exact hn _ _ h1
  | succ m=> exact ih m rfl
end
end Go.Proofs.YteknkpfbjapoiaaGreatDoor
namespace Go.Proofs.YteknkpfbjapoiaaGreatDoor
def OnC (E:ByteArray→ByteArray→Prop) (c:ByteArray):Prop:= ∃n,WalkN E (n+1) c c
def StuckN (E:ByteArray→ByteArray→Prop) (x:ByteArray):Prop:= ∃c n,WalkN E n x c∧OnC E c
def StuckL (E:ByteArray→ByteArray→Prop) (names ns:List ByteArray):Prop:=AscB ns∧∀s,s∈ns↔s∈names∧StuckN E s
structure StuckI (E:ByteArray→ByteArray→Prop) (done:List ByteArray) (x:ByteArray) (reach:List ByteArray) (k:Nat) (out:List ByteArray):Prop where
 asc:AscB out
 iff: ∀s,s∈out↔(s∈done∧StuckN E s)∨(s=x∧∃c∈reach.take k,OnC E c)
section
variable {E : ByteArray → ByteArray → Prop} {done reach out : List ByteArray} {x : ByteArray}
theorem StuckI.enter (h:StuckL E done out) (x:ByteArray) (reach:List ByteArray):StuckI E done x reach 0 out:= ⟨h.1,fun s=> by rw [h.2];simp⟩
theorem StuckI.skip {k:Nat} (h:StuckI E done x reach k out) (hk:k < reach.length) (hn: ¬OnC E reach[k]):StuckI E done x reach (k+1) out:=by
 refine ⟨h.asc,fun s=> ?_⟩
 rw [h.iff,List.take_succ_eq_append_getElem hk]
 constructor
 ·rintro (h1 | ⟨h1,c,h2,h3⟩)
  ·exact .inl h1
  ·exact .inr ⟨h1,c,List.mem_append.2 (.inl h2),h3⟩
 ·rintro (h1 | ⟨h1,c,h2,h3⟩)
  ·exact .inl h1
  ·rcases List.mem_append.1 h2 with h4 | h4
   ·exact .inr ⟨h1,c,h4,h3⟩
   ·rw [List.mem_singleton] at h4;rw [h4] at h3;exact absurd h3 hn
theorem StuckI.put {k:Nat} {out':List ByteArray} (h:StuckI E done x reach k out) (hk:k < reach.length) (hc:OnC E reach[k]) (ha:AscB out') (hm: ∀s,s∈out'↔s∈out∨s=x):StuckI E done x reach (k+1) out':=by
 refine ⟨ha,fun s=> ?_⟩
 rw [hm,h.iff,List.take_succ_eq_append_getElem hk]
 constructor
 ·rintro ((h1 | ⟨h1,c,h2,h3⟩) | h1)
  ·exact .inl h1
  ·exact .inr ⟨h1,c,List.mem_append.2 (.inl h2),h3⟩
  ·exact .inr ⟨h1,reach[k],List.mem_append.2 (.inr (by simp)),hc⟩
 ·rintro (h1 | ⟨h1,_⟩)
  ·exact .inl (.inl h1)
  ·exact .inr h1
theorem StuckI.leave {k:Nat} {rl:List ByteArray} (h:StuckI E done x (rl++ [x]) k out) (hk: (rl++ [x]).length≤k) (hr:ReachL E x rl):StuckL E (done++ [x]) out:=by
 refine ⟨h.asc,fun s=> ?_⟩
 rw [h.iff,List.take_of_length_le hk,List.mem_append,List.mem_singleton]
 have key: (∃c∈rl++ [x],OnC E c)↔StuckN E x:=by
  constructor
  ·rintro ⟨c,h1,h2⟩
   rcases List.mem_append.1 h1 with h3 | h3
   ·obtain ⟨n,hn⟩:= (hr.2 c).1 h3
    exact ⟨c,n+1,hn,h2⟩
   ·rw [List.mem_singleton] at h3
    exact ⟨c,0,by rw [h3];exact .here x,h2⟩
  ·rintro ⟨c,n,h1,h2⟩
   cases n with
   | zero=> rw [←h1.zero] at h2;exact ⟨x,by simp,h2⟩
   | succ n=> exact ⟨c,List.mem_append.2 (.inl ((hr.2 c).2 ⟨n,h1⟩)),h2⟩
 constructor
 ·rintro (⟨h1,h2⟩ | ⟨rfl,h2⟩)
  ·exact ⟨.inl h1,h2⟩
  ·exact ⟨.inr rfl,key.1 h2⟩
 ·rintro ⟨h1 | rfl,h2⟩
  ·exact .inl ⟨h1,h2⟩
  ·exact .inr ⟨rfl,key.2 h2⟩
theorem StuckL.unique {names ns ms:List ByteArray} (h:StuckL E names ns) (k:StuckL E names ms):ms=ns:=by
 have hm: ∀s,s∈ms↔s∈ns:=fun s=> (k.2 s).trans (h.2 s).symm
 exact (List.perm_ext_iff_of_nodup (asc_nodupB k.1) (asc_nodupB h.1)).2 hm |>.eq_of_pairwise (le:=fun a b=> lessX a b) (fun a b _ _ h1 h2=> absurd h2 (lessX_asymm h1)) k.1 h.1
end
end Go.Proofs.YteknkpfbjapoiaaGreatDoor
namespace Go.Proofs.YteknkpfbjapoiaaGreatDoor
section
variable (E : ByteArray → ByteArray → Prop) (g : ByteArray)
def RightV (b:Nat) (x:ByteArray) (v:Nat):Prop:= (lessX x g→v=0)∧(¬lessX x g→(v≠0→FarR E g v x∧v < b)∧∀m,m < b→FarR E g m x→v=m)
end
section
variable {E : ByteArray → ByteArray → Prop} {g : ByteArray}
theorem RightV.start {x:ByteArray}:RightV E g 1 x 0:= ⟨fun _=> rfl,fun _=> ⟨fun h=> absurd rfl h,fun m hm hf=> by have:=hf.1.pos;omega⟩⟩
theorem RightV.keep {n:Nat} {x:ByteArray} {v:Nat} (h:RightV E g n x v) (hv:v≠0∨lessX x g):RightV E g (n+1) x v:=by
 refine ⟨h.1,fun hn=> ?_⟩
 rcases hv with hv | hv
 ·obtain ⟨h1,h2⟩:=h.2 hn
  obtain ⟨h3,h4⟩:=h1 hv
  exact ⟨fun _=> ⟨h3,by omega⟩,fun m _ hf=> h3.unique hf⟩
 ·exact absurd hv hn
def Hit (E:ByteArray→ByteArray→Prop) (g:ByteArray) (n:Nat) (x s:ByteArray):Prop:=E x s∧((n=1∧s=g)∨(1 < n∧lessX g s∧FarR E g (n - 1) s))
theorem hit_far {n:Nat} {x:ByteArray} (hn:1≤n) (hno: ∀m,m < n→¬FarR E g m x): (∃s,Hit E g n x s)↔FarR E g n x:=by
 rcases Nat.lt_or_ge 1 n with h1 | h1
 ·obtain ⟨q,rfl⟩: ∃q,n=q+1:= ⟨n - 1,by omega⟩
  rw [FarR.succ (by omega)]
  constructor
  ·rintro ⟨s,hE,⟨h2,_⟩ | ⟨_,h2,h3⟩⟩
   ·omega
   ·exact ⟨⟨s,hE,h2,by simpa using h3⟩,fun m hm=> hno m (by omega)⟩
  ·rintro ⟨⟨s,hE,h2,h3⟩,_⟩
   exact ⟨s,hE,.inr ⟨h1,h2,by simpa using h3⟩⟩
 ·have:n=1:=by omega
  subst this
  rw [FarR.one]
  constructor
  ·rintro ⟨s,hE,⟨_,rfl⟩ | ⟨h2,_⟩⟩
   ·exact hE
   ·omega
  ·intro hE
   exact ⟨g,hE,.inl ⟨rfl,rfl⟩⟩
theorem RightV.miss {n:Nat} {x:ByteArray} (hn:1≤n) (h:RightV E g n x 0) (hx: ¬lessX x g) (hs: ¬∃s,Hit E g n x s):RightV E g (n+1) x 0:=by
 have hno: ∀m,m < n→¬FarR E g m x:=fun m hm hf=> by
  have:= (h.2 hx).2 m hm hf
  have:=hf.1.pos
  omega
 refine ⟨fun _=> rfl,fun _=> ⟨fun e=> absurd rfl e,fun m hm hf=> ?_⟩⟩
 rcases Nat.lt_or_ge m n with e | e
 ·exact absurd hf (hno m e)
 ·have:m=n:=by omega
  subst this
  exact absurd ((hit_far hn hno).2 hf) hs
theorem RightV.ask {b n:Nat} {s:ByteArray} {v:Nat} (h:RightV E g b s v) (hs:lessX g s) (hn:1 < n) (hb:n≤b):v=n - 1↔FarR E g (n - 1) s:=by
 have hx: ¬lessX s g:=lessX_asymm hs
 constructor
 ·intro e
  have:= ((h.2 hx).1 (by omega)).1
  rw [e] at this
  exact this
 ·exact (h.2 hx).2 (n - 1) (by omega)
theorem RightV.whole {names:List ByteArray} (hn: ∀x y,E x y→x∈names) {x:ByteArray} {v:Nat} (h:RightV E g (names.length+1) x v) (hx: ¬lessX x g): (v≠0→FarR E g v x)∧(∀m,FarR E g m x→v=m):=
 ⟨fun hv=> ((h.2 hx).1 hv).1,fun m hf=> (h.2 hx).2 m (by have:=hf.bound hn;omega) hf⟩
theorem BestR.start (E:ByteArray→ByteArray→Prop):BestR E [] []:= ⟨fun _ g h=> (by cases h),fun h=> absurd rfl h⟩
theorem CircR.len {n:Nat} {a:ByteArray} {l:List ByteArray} (h:CircR E g n a l):l.length=n:=by
 induction h with
 | stop=> rfl
 | step _ _ ih=> simp [ih]
theorem BestR.skip {gs best:List ByteArray} (h:BestR E gs best) {g:ByteArray} (hn: ∀n,FarR E g n g→best≠[]∧best.length≤n) (hlt: ∀x∈gs,lessX x g):BestR E (gs++ [g]) best:=by
 refine ⟨fun e x hx n hf=> ?_,fun e=> ?_⟩
 ·rcases List.mem_append.1 hx with q | q
  ·exact h.no e x q n hf
  ·rw [List.mem_singleton] at q;subst q;exact (hn n hf).1 e
 ·obtain ⟨t,n,h1,h2,h3,h4,h5⟩:=h.yes e
  refine ⟨t,n,List.mem_append.2 (.inl h1),h2,h3,h4,fun x hx k hk=> ?_⟩
  rcases List.mem_append.1 hx with q | q
  ·exact h5 x q k hk
  ·rw [List.mem_singleton] at q
   subst q
   have:= (hn k hk).2
   exact ⟨by omega,fun hl=> absurd hl (lessX_asymm (hlt t h1))⟩
theorem BestR.take {gs best l:List ByteArray} (h:BestR E gs best) {g:ByteArray} {n:Nat} (hf:FarR E g n g) (hc:CircR E g n g l) (hb:best=[]∨n < best.length):BestR E (gs++ [g]) l:=by
 have hl:=hc.len
 have hl0:l≠[]:=fun e=> by rw [e] at hl;have:=hf.1.pos;simp at hl;omega
 refine ⟨fun e=> absurd e hl0,fun _=> ⟨g,n,List.mem_append.2 (.inr (by simp)),hf,hc,hl,fun x hx k hk=> ?_⟩⟩
 rcases List.mem_append.1 hx with q | q
 ·rcases hb with rfl | hb
  ·exact absurd hk (h.no rfl x q k)
  ·obtain ⟨t,m,h1,h2,h3,h4,h5⟩:=h.yes (by intro e;rw [e] at hb;simp at hb)
   have:= (h5 x q k hk).1
   exact ⟨by omega,fun _=> by omega⟩
 ·rw [List.mem_singleton] at q
  subst q
  have:=hf.unique hk
  exact ⟨by omega,fun hl=> absurd hl (lessX_irrefl _)⟩
end
end Go.Proofs.YteknkpfbjapoiaaGreatDoor
