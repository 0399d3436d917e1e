import Derived.Test.YteknkpfbjapoiaaGreatDoorKVBfs
import Derived.Test.YteknkpfbjapoiaaGreatDoorKVCircA
namespace Go.Proofs.YteknkpfbjapoiaaGreatDoor
def LeadsTo {α:Type} (R:α→α→Prop) (src:List α) (p:α):Prop:= ∃c∈src,∃n,WalkN R n p c
structure Lead (R:Nat→Nat→Prop) (src:List Nat) (S:Nat→Bool) (Q:List Nat):Prop where
 sub: ∀p,S p=true→LeadsTo R src p
 src: ∀c∈src,S c=true
 q: ∀p∈Q,S p=true
 nd:Q.Nodup
 don: ∀p,S p=true→p∉Q→∀r,R r p→S r=true
structure LeadIn (R:Nat→Nat→Prop) (src:List Nat) (p:Nat) (L:List Nat) (S:Nat→Bool) (Q:List Nat):Prop where
 sub: ∀p,S p=true→LeadsTo R src p
 src: ∀c∈src,S c=true
 q: ∀p∈Q,S p=true
 nd:Q.Nodup
 don: ∀r,S r=true→r∉Q→r≠p→∀s,R s r→S s=true
 cur: ∀s∈L,S s=true
 pos:S p=true
 out:p∉Q
section
variable {R : Nat → Nat → Prop} {src : List Nat}
theorem Lead.start (R:Nat→Nat→Prop) {src:List Nat} (h:src.Nodup):Lead R src (fun p=> decide (p∈src)) src:=
 ⟨fun p hp=> ⟨p,by simpa using hp,0,.here p⟩,fun c hc=> by simpa using hc,fun p hp=> by simpa using hp,h,fun p hp hq=> absurd (by simpa using hp) hq⟩
theorem Lead.take {S:Nat→Bool} {p:Nat} {Q:List Nat} (h:Lead R src S (p :: Q)):LeadIn R src p [] S Q:=by
 have hn:=List.nodup_cons.1 h.nd
 refine ⟨h.sub,h.src,fun r hr=> h.q r (List.mem_cons_of_mem _ hr),hn.2,fun r hr hq hp=> h.don r hr ?_,fun s hs=> (by cases hs),h.q p (by simp),hn.1⟩
 intro hm
 rcases List.mem_cons.1 hm with e | e
 ·exact hp e
 ·exact hq e
theorem LeadIn.old {S:Nat→Bool} {p s:Nat} {L Q:List Nat} (h:LeadIn R src p L S Q) (hs:S s=true):LeadIn R src p (L++ [s]) S Q:=
 ⟨h.sub,h.src,h.q,h.nd,h.don,fun r hr=> by
  rcases List.mem_append.1 hr with e | e
  ·exact h.cur r e
  ·rw [List.mem_singleton] at e;rw [e];exact hs,h.pos,h.out⟩
theorem LeadIn.new {S:Nat→Bool} {p s:Nat} {L Q:List Nat} (h:LeadIn R src p L S Q) (hR:R s p) (hs:S s=false):LeadIn R src p (L++ [s]) (fun r=> if r=s then true else S r) (Q++ [s]):=by
 have hps:p≠s:=fun e=> by have:=h.pos;rw [e,hs] at this;cases this
 have hqs:s∉Q:=fun e=> by have:=h.q s e;rw [hs] at this;cases this
 have up: ∀r,S r=true→(if r=s then true else S r)=true:=fun r hr=> by split <;> simp [hr]
 refine ⟨fun r hr=> ?_,fun c hc=> up c (h.src c hc),fun r hr=> ?_, ?_,fun r hr hq hrp x hx=> ?_,fun r hr=> ?_,up p h.pos, ?_⟩
 ·by_cases e:r=s
  ·subst e
   obtain ⟨c,hc,n,hw⟩:=h.sub p h.pos
   exact ⟨c,hc,n+1,.step hR hw⟩
  ·rw [if_neg e] at hr;exact h.sub r hr
 ·rcases List.mem_append.1 hr with g | g
  ·exact up r (h.q r g)
  ·rw [List.mem_singleton] at g;simp [g]
 ·rw [List.nodup_append]
  exact ⟨h.nd,by simp,fun a ha b hb e=> by rw [List.mem_singleton] at hb;rw [e,hb] at ha;exact hqs ha⟩
 ·have hrs:r≠s:=fun e=> hq (by rw [e];simp)
  rw [if_neg hrs] at hr
  exact up x (h.don r hr (fun g=> hq (List.mem_append.2 (.inl g))) hrp x hx)
 ·rcases List.mem_append.1 hr with g | g
  ·exact up r (h.cur r g)
  ·rw [List.mem_singleton] at g;simp [g]
 ·intro g
  rcases List.mem_append.1 g with g | g
  ·exact h.out g
  ·exact hps (List.mem_singleton.1 g)
theorem LeadIn.ends {S:Nat→Bool} {p:Nat} {L Q:List Nat} (h:LeadIn R src p L S Q) (hL: ∀s,R s p→s∈L):Lead R src S Q:=
 ⟨h.sub,h.src,h.q,h.nd,fun r hr hq s hs=> by
  by_cases e:r=p
  ·rw [e] at hs;exact h.cur s (hL s hs)
  ·exact h.don r hr hq e s hs⟩
theorem Lead.whole {S:Nat→Bool} (h:Lead R src S []) (p:Nat):S p=true↔LeadsTo R src p:=by
 refine ⟨h.sub p, ?_⟩
 rintro ⟨c,hc,n,hw⟩
 induction n generalizing p with
 | zero=> rw [hw.zero];exact h.src c hc
 | succ n ih=>
  obtain ⟨b,h1,h2⟩:=hw.first
  exact h.don b (ih b h2) (by simp) p h1
end
end Go.Proofs.YteknkpfbjapoiaaGreatDoor
namespace Go.Proofs.YteknkpfbjapoiaaGreatDoor
structure ReachI (E:ByteArray→ByteArray→Prop) (x:ByteArray) (ns:List ByteArray):Prop where
 asc:AscB ns
 sub: ∀s∈ns,∃n,WalkN E (n+1) x s
 base: ∀s,E x s→s∈ns
def ReachL (E:ByteArray→ByteArray→Prop) (x:ByteArray) (ns:List ByteArray):Prop:=AscB ns∧∀s,s∈ns↔∃n,WalkN E (n+1) x s
structure MoreI (E:ByteArray→ByteArray→Prop) (out:List ByteArray) (k:Nat) (list:List ByteArray) (j:Nat) (more:List ByteArray):Prop where
 asc:AscB more
 iff: ∀s,s∈more↔s∈out∨(∃c∈out.take k,E c s)∨s∈list.take j
section
variable {E : ByteArray → ByteArray → Prop} {x : ByteArray} {out more list : List ByteArray}
theorem asc_nodupB {l:List ByteArray} (h:AscB l):l.Nodup:=h.imp fun {_a _b} hab=> lessX_ne hab
theorem MoreI.start (h:AscB out):MoreI E out 0 [] 0 out:= ⟨h,fun s=> by simp⟩
theorem MoreI.enter {k:Nat} (h:MoreI E out k [] 0 more) (list:List ByteArray):MoreI E out k list 0 more:= ⟨h.asc,fun s=> by rw [h.iff];simp⟩
theorem MoreI.step {k j:Nat} {more':List ByteArray} (h:MoreI E out k list j more) (hj:j < list.length) (ha:AscB more') (hm: ∀s,s∈more'↔s∈more∨s=list[j]):MoreI E out k list (j+1) more':=by
 refine ⟨ha,fun s=> ?_⟩
 rw [hm,h.iff,List.take_succ_eq_append_getElem hj,List.mem_append,List.mem_singleton]
 constructor
 ·rintro ((h1 | h1 | h1) | h1)
  ·exact .inl h1
  ·exact .inr (.inl h1)
  ·exact .inr (.inr (.inl h1))
  ·exact .inr (.inr (.inr h1))
 ·rintro (h1 | h1 | h1 | h1)
  ·exact .inl (.inl h1)
  ·exact .inl (.inr (.inl h1))
  ·exact .inl (.inr (.inr h1))
  ·exact .inr h1
theorem MoreI.leave {k j:Nat} (h:MoreI E out k list j more) (hk:k < out.length) (hj:list.length≤j) (hl: ∀s,s∈list↔E out[k] s):MoreI E out (k+1) [] 0 more:=by
 refine ⟨h.asc,fun s=> ?_⟩
 rw [h.iff,List.take_of_length_le hj,List.take_succ_eq_append_getElem hk]
 constructor
 ·rintro (h1 | ⟨c,h1,h2⟩ | h1)
  ·exact .inl h1
  ·exact .inr (.inl ⟨c,List.mem_append.2 (.inl h1),h2⟩)
  ·exact .inr (.inl ⟨out[k],List.mem_append.2 (.inr (by simp)),(hl s).1 h1⟩)
 ·rintro (h1 | ⟨c,h1,h2⟩ | h1)
  ·exact .inl h1
  ·rcases List.mem_append.1 h1 with h3 | h3
   ·exact .inr (.inl ⟨c,h3,h2⟩)
   ·rw [List.mem_singleton] at h3;rw [h3] at h2;exact .inr (.inr ((hl s).2 h2))
  ·simp at h1
theorem MoreI.len {k j:Nat} (ho:AscB out) (h:MoreI E out k list j more):out.length≤more.length:=List.Nodup.length_le_of_subset (asc_nodupB ho) (fun s hs=> (h.iff s).2 (.inl hs))
theorem ReachI.done (h:ReachI E x out) (hm:MoreI E out out.length [] 0 more) (hl:more.length=out.length):ReachL E x out:=by
 have hsub: ∀s∈more,s∈out:=fun s hs=> by
  by_cases hn:s∈out
  ·exact hn
  ·have:=List.Nodup.length_le_of_subset (l₁:=s :: out) (l₂:=more) (List.nodup_cons.2 ⟨hn,asc_nodupB h.asc⟩) (fun y hy=> by
    rcases List.mem_cons.1 hy with rfl | hy
    ·exact hs
    ·exact (hm.iff y).2 (.inl hy))
   simp at this
   omega
 have hclo: ∀c∈out,∀s,E c s→s∈out:=fun c hc s hs=> hsub s ((hm.iff s).2 (.inr (.inl ⟨c,by rw [List.take_length];exact hc,hs⟩)))
 refine ⟨h.asc,fun s=> ⟨h.sub s, ?_⟩⟩
 rintro ⟨n,hw⟩
 obtain ⟨b,h1,h2⟩:=hw.first
 have key: ∀{n:Nat} {b s:ByteArray},WalkN E n b s→b∈out→s∈out:=by
  intro n b s hw
  induction hw with
  | here a=> exact id
  | step h3 _ ih=> exact fun hb=> ih (hclo _ hb _ h3)
 exact key h2 (h.base b h1)
theorem ReachI.next (h:ReachI E x out) (hm:MoreI E out out.length [] 0 more):ReachI E x more:=by
 refine ⟨hm.asc,fun s hs=> ?_,fun s hs=> (hm.iff s).2 (.inl (h.base s hs))⟩
 rcases (hm.iff s).1 hs with h1 | ⟨c,h1,h2⟩ | h1
 ·exact h.sub s h1
 ·rw [List.take_length] at h1
  obtain ⟨n,hn⟩:=h.sub c h1
  exact ⟨n+1,by have:=hn.trans (WalkN.one h2);exact this⟩
 ·simp at h1
theorem ReachI.len (h:ReachI E x out) {names:List ByteArray} (hn: ∀a b,E a b→b∈names):out.length≤names.length:=by
 refine List.Nodup.length_le_of_subset (asc_nodupB h.asc) (fun s hs=> ?_)
 obtain ⟨n,hw⟩:=h.sub s hs
 clear hs h
 generalize hm:n+1=m at hw
 induction hw generalizing n with
 | here a=> cases hm
 | @step m a b c h1 r ih=>
  cases m with
  | zero=> rw [←r.zero];exact hn _ _ h1
  | succ m=> exact ih m rfl
end
end Go.Proofs.YteknkpfbjapoiaaGreatDoor
namespace Go.Proofs.YteknkpfbjapoiaaGreatDoor
def OnC (E:ByteArray→ByteArray→Prop) (c:ByteArray):Prop:= ∃n,WalkN E (n+1) c c
def StuckN (E:ByteArray→ByteArray→Prop) (x:ByteArray):Prop:= ∃c n,WalkN E n x c∧OnC E c
def StuckL (E:ByteArray→ByteArray→Prop) (names ns:List ByteArray):Prop:=AscB ns∧∀s,s∈ns↔s∈names∧StuckN E s
structure StuckI (E:ByteArray→ByteArray→Prop) (done:List ByteArray) (x:ByteArray) (reach:List ByteArray) (k:Nat) (out:List ByteArray):Prop where
 asc:AscB out
 iff: ∀s,s∈out↔(s∈done∧StuckN E s)∨(s=x∧∃c∈reach.take k,OnC E c)
section
variable {E : ByteArray → ByteArray → Prop} {done reach out : List ByteArray} {x : ByteArray}
theorem StuckI.enter (h:StuckL E done out) (x:ByteArray) (reach:List ByteArray):StuckI E done x reach 0 out:= ⟨h.1,fun s=> by rw [h.2];simp⟩
theorem StuckI.skip {k:Nat} (h:StuckI E done x reach k out) (hk:k < reach.length) (hn: ¬OnC E reach[k]):StuckI E done x reach (k+1) out:=by
 refine ⟨h.asc,fun s=> ?_⟩
 rw [h.iff,List.take_succ_eq_append_getElem hk]
 constructor
 ·rintro (h1 | ⟨h1,c,h2,h3⟩)
  ·exact .inl h1
  ·exact .inr ⟨h1,c,List.mem_append.2 (.inl h2),h3⟩
 ·rintro (h1 | ⟨h1,c,h2,h3⟩)
  ·exact .inl h1
  ·rcases List.mem_append.1 h2 with h4 | h4
   ·exact .inr ⟨h1,c,h4,h3⟩
   ·rw [List.mem_singleton] at h4;rw [h4] at h3;exact absurd h3 hn
theorem StuckI.put {k:Nat} {out':List ByteArray} (h:StuckI E done x reach k out) (hk:k < reach.length) (hc:OnC E reach[k]) (ha:AscB out') (hm: ∀s,s∈out'↔s∈out∨s=x):StuckI E done x reach (k+1) out':=by
 refine ⟨ha,fun s=> ?_⟩
 rw [hm,h.iff,List.take_succ_eq_append_getElem hk]
 constructor
 ·rintro ((h1 | ⟨h1,c,h2,h3⟩) | h1)
  ·exact .inl h1
  ·exact .inr ⟨h1,c,List.mem_append.2 (.inl h2),h3⟩
  ·exact .inr ⟨h1,reach[k],List.mem_append.2 (.inr (by simp)),hc⟩
 ·rintro (h1 | ⟨h1,_⟩)
  ·exact .inl (.inl h1)
  ·exact .inr h1
theorem StuckI.leave {k:Nat} {rl:List ByteArray} (h:StuckI E done x (rl++ [x]) k out) (hk: (rl++ [x]).length≤k) (hr:ReachL E x rl):StuckL E (done++ [x]) out:=by
 refine ⟨h.asc,fun s=> ?_⟩
 rw [h.iff,List.take_of_length_le hk,List.mem_append,List.mem_singleton]
 have key: (∃c∈rl++ [x],OnC E c)↔StuckN E x:=by
  constructor
  ·rintro ⟨c,h1,h2⟩
   rcases List.mem_append.1 h1 with h3 | h3
   ·obtain ⟨n,hn⟩:= (hr.2 c).1 h3
    exact ⟨c,n+1,hn,h2⟩
   ·rw [List.mem_singleton] at h3
    exact ⟨c,0,by rw [h3];exact .here x,h2⟩
  ·rintro ⟨c,n,h1,h2⟩
   cases n with
   | zero=> rw [←h1.zero] at h2;exact ⟨x,by simp,h2⟩
   | succ n=> exact ⟨c,List.mem_append.2 (.inl ((hr.2 c).2 ⟨n,h1⟩)),h2⟩
 constructor
 ·rintro (⟨h1,h2⟩ | ⟨rfl,h2⟩)
  ·exact ⟨.inl h1,h2⟩
  ·exact ⟨.inr rfl,key.1 h2⟩
 ·rintro ⟨h1 | rfl,h2⟩
  ·exact .inl ⟨h1,h2⟩
  ·exact .inr ⟨rfl,key.2 h2⟩
theorem StuckL.unique {names ns ms:List ByteArray} (h:StuckL E names ns) (k:StuckL E names ms):ms=ns:=by
 have hm: ∀s,s∈ms↔s∈ns:=fun s=> (k.2 s).trans (h.2 s).symm
 exact (List.perm_ext_iff_of_nodup (asc_nodupB k.1) (asc_nodupB h.1)).2 hm |>.eq_of_pairwise (le:=fun a b=> lessX a b) (fun a b _ _ h1 h2=> absurd h2 (lessX_asymm h1)) k.1 h.1
end
end Go.Proofs.YteknkpfbjapoiaaGreatDoor
