import Derived.OrdersHeld
import Derived.Test.YtgnkgfjmbmcfcaaGreatDoorKVBfs
import Derived.Deep.RegionHeld
set_option maxRecDepth 100000
set_option maxHeartbeats 25600000
namespace Go.Proofs.YtgnkgfjmbmcfcaaGreatDoor
section
variable {P : Program} {ops : Array Oper} {Q : Exit -> Act -> World -> Prop} {md : Region.Mode} {S : World -> Prop} {z : Nat}
def Qx (P:Program) (md:Region.Mode) (ops:Array Oper) (Q:Exit->Act->World->Prop) (S:World->Prop) (z:Nat):Nat->Array Bool->Act->World->Prop
 | 0,up,a,w=> Region.ready md ops up=[]∧Q .normal a w
 | n+1,up,a,w=> (Region.ready md ops up=[]->Q .normal a w)∧∀k∈Region.ready md ops up,wpOp P ops Q k (fun b u=> (k≠z->S u)∧Qx P md ops Q S z n (up.setIfInBounds k true) b u) a w
theorem Qx.any : ∀(n:Nat) (up:Array Bool) (a:Act) (w:World),Qx P md ops Q S z n up a w->wpAny P md ops Q n up a w
 | 0,_,_,_,h=> h
 | n+1,_,_,_,h=> ⟨h.1,fun k hk=> wpOp_mono (fun b u g=> Qx.any n _ b u g.2) (h.2 k hk)⟩
theorem Qx.region {id:Nat} {a:Act} {w:World} (hm:P.follows .mixedOrders=true) (S:World->Prop) (z:Nat) (hS:S w.drew)
  (h:S w.drew->Qx P .any ops Q S z ops.size (Array.replicate ops.size false) a w.drew): (Code.region id ops true).wp P Q a w:=
 wp_region_any hm (Qx.any _ _ _ _ (h hS))
def waitB (md:Region.Mode) (ops:Array Oper) (i:Nat) (D:List Nat):Bool:=
 D.all fun d=> match ops[d]? with
  | some o=> o.after.toList.any fun e=> Region.binds md e && (e.on == i || D.contains e.on)
  | none=> false
theorem wait_not {i:Nat} {D:List Nat} {up:Array Bool} (hD:waitB md ops i D=true) (hi:up.getD i true=false) (hun: ∀d∈D,up.getD d true=false) {k:Nat}
  (hk:k∈Region.ready md ops up):k∉D:=by
 intro hkD
 obtain ⟨_,o,ho,hall⟩:=mem_ready.1 hk
 have h1:=List.all_eq_true.1 hD k hkD
 simp only [ho,List.any_eq_true,Array.mem_toList_iff,Bool.and_eq_true,Bool.or_eq_true,beq_iff_eq,List.contains_iff_mem] at h1
 obtain ⟨e,he,hb,hon⟩:=h1
 have h2:=hall e he hb
 have h3:up.getD e.on true=false:=by
  rcases hon with h | h
  ·rw [h];exact hi
  ·exact hun _ h
 rcases Nat.lt_or_ge e.on up.size with h' | h'
 ·simp [h'] at h2 h3
  rw [h3] at h2
  cases h2
 ·simp [Array.getElem?_eq_none h'] at h2
theorem Qx.take' {i:Nat} {oi:Oper} {v:Value} (hi:ops[i]? =some oi) (hsel:Region.noSelect ops=true) (hQ: ∀c a w,Q (.panic c) (a.put oi.dst v) w->Q (.panic c) a w)
  {D:List Nat} (hz:z∈D) (hD:waitB md ops i D=true):
  ∀(n:Nat) (up:Array Bool) (a:Act) (w:World),(∀j oj,ops[j]? =some oj->j≠i->up.getD j true=false->(∀e∈oj.after,Region.binds md e=true->e.on≠i)->oi.apart ops oj=true)->
   (∀d∈D,up.getD d true=false)->i∈Region.ready md ops up->YieldsIf P ops S oi v a->S w->
   Qx P md ops Q S z n (up.setIfInBounds i true) (a.put oi.dst v) w->Qx P md ops Q S z (n+1) up a w:=by
 intro n
 induction n with
 | zero=>
  intro up a w _ _ hr hy hS H
  refine ⟨fun h=> (by rw [h] at hr;cases hr),fun j hj=> ?_⟩
  by_cases e:j=i
  ·exact e ▸ hy.wpOp hi hS ⟨fun _=> hS,H⟩
  ·have:=ready_mono hj e
   rw [H.1] at this
   cases this
 | succ n ih=>
  intro up a w hfree hun hr hy hS H
  refine ⟨fun h=> (by rw [h] at hr;cases hr),fun j hj=> ?_⟩
  by_cases e:j=i
  ·exact e ▸ hy.wpOp hi hS ⟨fun _=> hS,H⟩
  ·have hiu:= (mem_ready.1 hr).1
   have hjD:=wait_not hD hiu hun hj
   have hjz:j≠z:=fun h=> hjD (h ▸ hz)
   obtain ⟨hju,oj,hoj,hall⟩:=mem_ready.1 hj
   have hno: ∀e∈oj.after,Region.binds md e=true->e.on≠i:=fun e he hb heq=> by
    have h1:=hall e he hb
    rw [heq] at h1
    rcases Nat.lt_or_ge i up.size with h' | h'
    ·simp [h'] at hiu h1;rw [hiu] at h1;cases h1
    ·simp [Array.getElem?_eq_none h'] at h1
   have h2:=wpOp_putIf hoj (hfree j oj hoj e hju hno) (fun cs b=> Region.noSelect_spec hsel i oi cs b hi) (fun cs b=> Region.noSelect_spec hsel j oj cs b hoj) hQ hy (H.2 j (ready_mono hj e))
   refine wpOp_mono (fun b u g=> ⟨g.2.1,ih (up.setIfInBounds j true) b u (fun k ok hk hki hku hkn=> hfree k ok hk hki ?_ hkn) (fun d hd=> ?_) (ready_mono hr (Ne.symm e)) g.1 (g.2.1 hjz) ?_⟩) h2
   ·by_cases hjk:j=k
    ·exact hjk ▸ hju
    ·rw [getD_set_ne true hjk] at hku;exact hku
   ·rw [getD_set_ne true (fun h:j=d=> hjD (h ▸ hd))];exact hun d hd
   ·rw [Array.setIfInBounds_comm _ _ e];exact g.2.2
theorem Qx.take (i:Nat) (D:List Nat) {oi:Oper} {v:Value} {n:Nat} {up:Array Bool} {a:Act} {w:World} (hi:ops[i]? =some oi) (hsel:Region.noSelect ops=true)
  (hf:Region.free md ops up i=true) (hr: (Region.ready md ops up).contains i=true) (hD: (D.contains z && waitB md ops i D && D.all fun d=> !up.getD d true)=true)
  (hQ: ∀c a w,Q (.panic c) (a.put oi.dst v) w->Q (.panic c) a w) (hy:YieldsIf P ops S oi v a) (hS:S w)
  (h:Qx P md ops Q S z n (up.setIfInBounds i true) (a.put oi.dst v) w):Qx P md ops Q S z (n+1) up a w:=by
 simp only [Bool.and_eq_true,List.contains_iff_mem,List.all_eq_true,Bool.not_eq_true'] at hD
 exact Qx.take' hi hsel hQ hD.1.1 hD.1.2 n up a w (Region.free_spec hi hf) hD.2 (by simpa using hr) hy hS h
theorem Qx.next (i:Nat) {o:Oper} {n:Nat} {up:Array Bool} {a:Act} {w:World} (hr:Region.ready md ops up=[i]) (ho:ops[i]? =some o)
  (h: ∀K:Act->World->Prop,Shut (∀b u,(i≠z->S u)->Qx P md ops Q S z n (up.setIfInBounds i true) b u->K b u)->if Region.wanted o (yielded ops a.tmps)=true then Oper.wp P o a w K Q else K (a.put o.dst undef) w):
  Qx P md ops Q S z (n+1) up a w:=by
 refine ⟨fun h0=> (by rw [hr] at h0;cases h0),fun k hk=> ?_⟩
 rw [hr] at hk
 obtain rfl:k=i:=by simpa using hk
 exact wpOp_step ho (fun K hK=> h K (fun b u h1 h2=> hK b u ⟨h1,h2⟩))
theorem Qx.two (i j:Nat) {oi oj:Oper} {n:Nat} {up:Array Bool} {a:Act} {w:World} (hr:Region.ready md ops up=[i,j]) (hoi:ops[i]? =some oi) (hoj:ops[j]? =some oj)
  (h1: ∀K:Act->World->Prop,Shut (∀b u,(i≠z->S u)->Qx P md ops Q S z n (up.setIfInBounds i true) b u->K b u)->if Region.wanted oi (yielded ops a.tmps)=true then Oper.wp P oi a w K Q else K (a.put oi.dst undef) w)
  (h2: ∀K:Act->World->Prop,Shut (∀b u,(j≠z->S u)->Qx P md ops Q S z n (up.setIfInBounds j true) b u->K b u)->if Region.wanted oj (yielded ops a.tmps)=true then Oper.wp P oj a w K Q else K (a.put oj.dst undef) w):
  Qx P md ops Q S z (n+1) up a w:=by
 refine ⟨fun h0=> (by rw [hr] at h0;cases h0),fun k hk=> ?_⟩
 rw [hr] at hk
 simp only [List.mem_cons,List.not_mem_nil,or_false] at hk
 rcases hk with rfl | rfl
 ·exact wpOp_step hoi (fun K hK=> h1 K (fun b u h1 h2=> hK b u ⟨h1,h2⟩))
 ·exact wpOp_step hoj (fun K hK=> h2 K (fun b u h1 h2=> hK b u ⟨h1,h2⟩))
theorem Qx.done {n:Nat} {up:Array Bool} {a:Act} {w:World} (hr:Region.ready md ops up=[]) (h:Q .normal a w):Qx P md ops Q S z n up a w:=by
 cases n with
 | zero=> exact ⟨hr,h⟩
 | succ n=> exact ⟨fun _=> h,by rw [hr];simp⟩
theorem upA {α:Type} {l:List α} {i:Nat} {a:α}:l.toArray.setIfInBounds i a= (l.set i a).toArray:=List.setIfInBounds_toArray ..
theorem upB {α:Type} {x:α} {xs:List α} {a:α}: (x :: xs).set 0 a=a :: xs:=List.set_cons_zero
theorem upC {α:Type} {x:α} {xs:List α} {i:Nat} {a:α}: (x :: xs).set (i+1) a=x :: xs.set i a:=List.set_cons_succ
def Zq (md:Region.Mode) (ops:Array Oper) (i:Nat):List Nat:=
 (List.range ops.size).foldl (fun D d=> match ops[d]? with
  | some o=> if (o.after.toList.any fun e=> Region.binds md e && (e.on == i || D.contains e.on))=true then D++ [d] else D
  | none=> D) []
theorem Qx.tk (i:Nat) {v:Value} {oi:Oper} {n:Nat} {up:Array Bool} {a b:Act} {w:World} (hS:S w)
  (h:Qx P md ops Q S z n (up.setIfInBounds i true) b w) (hi:ops[i]? =some oi:=by (simp only [List.getElem?_toArray];rfl)) (hy: ∀u,S u->(execOp a.eval oi).run P u= .ok (.value v) u:=by (intro u hu;(try dsimp only at hu);go_simp;(try with_reducible rfl)))
  (hb:a.put oi.dst v=b:=by (first | (simp only [Act.put,upA,upB,upC];exact rfl) | simp only [Act.put,upA,upB,upC] | exact rfl)) (hsel:Region.noSelect ops=true:=by kernel_rfl)
  (hf:Region.free md ops up i=true:=by kernel_rfl) (hr: (Region.ready md ops up).contains i=true:=by kernel_rfl) (hD: ((Zq md ops i).contains z && waitB md ops i (Zq md ops i) && (Zq md ops i).all fun d=> !up.getD d true)=true:=by kernel_rfl)
  (hQ: ∀c a w,Q (.panic c) (a.put oi.dst v) w->Q (.panic c) a w:=by (first | exact fun _ _ _ h=> h | exact fun _ _ _ h=> nomatch h.1)) (hw:Region.wanted oi (yielded ops a.tmps)=true:=by rfl):Qx P md ops Q S z (n+1) up a w:=
 Qx.take i _ hi hsel hf hr hD hQ (Or.inl ⟨hw,hy⟩) hS (by rw [hb];exact h)
theorem Qx.un (i:Nat) {oi:Oper} {n:Nat} {up:Array Bool} {a b:Act} {w:World} (hS:S w)
  (h:Qx P md ops Q S z n (up.setIfInBounds i true) b w) (hi:ops[i]? =some oi:=by (simp only [List.getElem?_toArray];rfl))
  (hb:a.put oi.dst undef=b:=by (first | (simp only [Act.put,upA,upB,upC];exact rfl) | simp only [Act.put,upA,upB,upC] | exact rfl)) (hsel:Region.noSelect ops=true:=by kernel_rfl)
  (hf:Region.free md ops up i=true:=by kernel_rfl) (hr: (Region.ready md ops up).contains i=true:=by kernel_rfl) (hD: ((Zq md ops i).contains z && waitB md ops i (Zq md ops i) && (Zq md ops i).all fun d=> !up.getD d true)=true:=by kernel_rfl)
  (hQ: ∀c a w,Q (.panic c) (a.put oi.dst undef) w->Q (.panic c) a w:=by (first | exact fun _ _ _ h=> h | exact fun _ _ _ h=> nomatch h.1)) (hw:Region.wanted oi (yielded ops a.tmps)=false:=by rfl):Qx P md ops Q S z (n+1) up a w:=
 Qx.take i _ hi hsel hf hr hD hQ (Or.inr ⟨hw,rfl⟩) hS (by rw [hb];exact h)
theorem Qx.nx (i:Nat) {o:Oper} {n:Nat} {up:Array Bool} {a:Act} {w:World}
  (h: ∀K:Act->World->Prop,Shut (∀b u,(i≠z->S u)->Qx P md ops Q S z n (up.setIfInBounds i true) b u->K b u)->if Region.wanted o (yielded ops a.tmps)=true then Oper.wp P o a w K Q else K (a.put o.dst undef) w)
  (hr:Region.ready md ops up=[i]:=by kernel_rfl) (ho:ops[i]? =some o:=by (simp only [List.getElem?_toArray];rfl)):Qx P md ops Q S z (n+1) up a w:=Qx.next i hr ho h
theorem Qx.tw (i j:Nat) {oi oj:Oper} {n:Nat} {up:Array Bool} {a:Act} {w:World}
  (h1: ∀K:Act->World->Prop,Shut (∀b u,(i≠z->S u)->Qx P md ops Q S z n (up.setIfInBounds i true) b u->K b u)->if Region.wanted oi (yielded ops a.tmps)=true then Oper.wp P oi a w K Q else K (a.put oi.dst undef) w)
  (h2: ∀K:Act->World->Prop,Shut (∀b u,(j≠z->S u)->Qx P md ops Q S z n (up.setIfInBounds j true) b u->K b u)->if Region.wanted oj (yielded ops a.tmps)=true then Oper.wp P oj a w K Q else K (a.put oj.dst undef) w)
  (hr:Region.ready md ops up=[i,j]:=by kernel_rfl) (hoi:ops[i]? =some oi:=by (simp only [List.getElem?_toArray];rfl)) (hoj:ops[j]? =some oj:=by (simp only [List.getElem?_toArray];rfl)):Qx P md ops Q S z (n+1) up a w:=Qx.two i j hr hoi hoj h1 h2
theorem Qx.rg (z:Nat) {id:Nat} {a:Act} {w:World} (hS: ∀u,K_ w u->S u) (h: ∀wd,K_ w wd->S wd->Qx P .any ops Q S z ops.size (Array.replicate ops.size false) a wd) (hm:P.follows .mixedOrders=true:=by kernel_rfl): (Code.region id ops true).wp P Q a w:=
 Qx.region hm S z (hS _ ((K_.refl w).drew)) fun hh=> h _ ((K_.refl w).drew) hh
theorem Qx.rh (z:Nat) {R:World->Prop} {id:Nat} {a:Act} {w:World} (hS: ∀u,R u->S u) (h0:R w.drew) (h: ∀wd,K_ w wd->S wd->Qx P .any ops Q S z ops.size (Array.replicate ops.size false) a wd) (hm:P.follows .mixedOrders=true:=by kernel_rfl): (Code.region id ops true).wp P Q a w:=
 Qx.region hm S z (hS _ h0) fun hh=> h _ ((K_.refl w).drew) hh
theorem Qx.rk (z:Nat) {R:World->Prop} {id:Nat} {a:Act} {w:World} (hS: ∀u,R u->S u) (h0:R w.drew) (h:S w.drew->Qx P .any ops Q S z ops.size (Array.replicate ops.size false) a w.drew) (hm:P.follows .mixedOrders=true:=by kernel_rfl): (Code.region id ops true).wp P Q a w:=
 Qx.region hm S z (hS _ h0) h
theorem Qx.dn {n:Nat} {up:Array Bool} {a:Act} {w:World} (h:Q .normal a w) (hr:Region.ready md ops up=[]:=by kernel_rfl):Qx P md ops Q S z n up a w:=Qx.done hr h
end
section
variable {P : Program} {ops : Array Oper} {Q : Exit -> Act -> World -> Prop} {md : Region.Mode} {S : World -> Prop} {Z : List Nat}
def UpZ (P:Program) (md:Region.Mode) (ops:Array Oper) (Q:Exit->Act->World->Prop) (S:World->Prop) (Z:List Nat):Nat->Array Bool->Act->World->Prop
 | 0,up,a,w=> Region.ready md ops up=[]∧Q .normal a w
 | n+1,up,a,w=> (Region.ready md ops up=[]->Q .normal a w)∧∀k∈Region.ready md ops up,wpOp P ops Q k (fun b u=> (k∉Z->S w->S u)∧UpZ P md ops Q S Z n (up.setIfInBounds k true) b u) a w
theorem UpZ.any : ∀(n:Nat) (up:Array Bool) (a:Act) (w:World),UpZ P md ops Q S Z n up a w->wpAny P md ops Q n up a w
 | 0,_,_,_,h=> h
 | n+1,_,_,_,h=> ⟨h.1,fun k hk=> wpOp_mono (fun b u g=> UpZ.any n _ b u g.2) (h.2 k hk)⟩
theorem UpZ.region {id:Nat} {a:Act} {w:World} (hm:P.follows .mixedOrders=true) (S:World->Prop) (Z:List Nat) (hS:S w.drew)
  (h:S w.drew->UpZ P .any ops Q S Z ops.size (Array.replicate ops.size false) a w.drew): (Code.region id ops true).wp P Q a w:=
 wp_region_any hm (UpZ.any _ _ _ _ (h hS))
theorem UpZ.take' {i:Nat} {oi:Oper} {v:Value} (hi:ops[i]? =some oi) (hsel:Region.noSelect ops=true) (hQ: ∀c a w,Q (.panic c) (a.put oi.dst v) w->Q (.panic c) a w)
  {D:List Nat} (hz: ∀z∈Z,z∈D) (hD:waitB md ops i D=true):
  ∀(n:Nat) (up:Array Bool) (a:Act) (w:World),(∀j oj,ops[j]? =some oj->j≠i->up.getD j true=false->(∀e∈oj.after,Region.binds md e=true->e.on≠i)->oi.apart ops oj=true)->
   (∀d∈D,up.getD d true=false)->i∈Region.ready md ops up->YieldsIf P ops S oi v a->S w->
   UpZ P md ops Q S Z n (up.setIfInBounds i true) (a.put oi.dst v) w->UpZ P md ops Q S Z (n+1) up a w:=by
 intro n
 induction n with
 | zero=>
  intro up a w _ _ hr hy hS H
  refine ⟨fun h=> (by rw [h] at hr;cases hr),fun j hj=> ?_⟩
  by_cases e:j=i
  ·exact e ▸ hy.wpOp hi hS ⟨fun _ h=> h,H⟩
  ·have:=ready_mono hj e
   rw [H.1] at this
   cases this
 | succ n ih=>
  intro up a w hfree hun hr hy hS H
  refine ⟨fun h=> (by rw [h] at hr;cases hr),fun j hj=> ?_⟩
  by_cases e:j=i
  ·exact e ▸ hy.wpOp hi hS ⟨fun _ h=> h,H⟩
  ·have hiu:= (mem_ready.1 hr).1
   have hjD:=wait_not hD hiu hun hj
   have hjz:j∉Z:=fun h=> hjD (hz j h)
   obtain ⟨hju,oj,hoj,hall⟩:=mem_ready.1 hj
   have hno: ∀e∈oj.after,Region.binds md e=true->e.on≠i:=fun e he hb heq=> by
    have h1:=hall e he hb
    rw [heq] at h1
    rcases Nat.lt_or_ge i up.size with h' | h'
    ·simp [h'] at hiu h1;rw [hiu] at h1;cases h1
    ·simp [Array.getElem?_eq_none h'] at h1
   have h2:=wpOp_putIf hoj (hfree j oj hoj e hju hno) (fun cs b=> Region.noSelect_spec hsel i oi cs b hi) (fun cs b=> Region.noSelect_spec hsel j oj cs b hoj) hQ hy (H.2 j (ready_mono hj e))
   refine wpOp_mono (fun b u g=> ⟨g.2.1,ih (up.setIfInBounds j true) b u (fun k ok hk hki hku hkn=> hfree k ok hk hki ?_ hkn) (fun d hd=> ?_) (ready_mono hr (Ne.symm e)) g.1 (g.2.1 hjz hS) ?_⟩) h2
   ·by_cases hjk:j=k
    ·exact hjk ▸ hju
    ·rw [getD_set_ne true hjk] at hku;exact hku
   ·rw [getD_set_ne true (fun h:j=d=> hjD (h ▸ hd))];exact hun d hd
   ·rw [Array.setIfInBounds_comm _ _ e];exact g.2.2
theorem UpZ.take (i:Nat) (D:List Nat) {oi:Oper} {v:Value} {n:Nat} {up:Array Bool} {a:Act} {w:World} (hi:ops[i]? =some oi) (hsel:Region.noSelect ops=true)
  (hf:Region.free md ops up i=true) (hr: (Region.ready md ops up).contains i=true) (hD: (Z.all (fun z=> D.contains z) && waitB md ops i D && D.all fun d=> !up.getD d true)=true)
  (hQ: ∀c a w,Q (.panic c) (a.put oi.dst v) w->Q (.panic c) a w) (hy:YieldsIf P ops S oi v a) (hS:S w)
  (h:UpZ P md ops Q S Z n (up.setIfInBounds i true) (a.put oi.dst v) w):UpZ P md ops Q S Z (n+1) up a w:=by
 simp only [Bool.and_eq_true,List.contains_iff_mem,List.all_eq_true,Bool.not_eq_true'] at hD
 exact UpZ.take' hi hsel hQ hD.1.1 hD.1.2 n up a w (Region.free_spec hi hf) hD.2 (by simpa using hr) hy hS h
theorem UpZ.pure' {i:Nat} {oi:Oper} {v:Value} (hi:ops[i]? =some oi) (hsel:Region.noSelect ops=true) (hQ: ∀c a w,Q (.panic c) (a.put oi.dst v) w->Q (.panic c) a w):
  ∀(n:Nat) (up:Array Bool) (a:Act) (w:World),(∀j oj,ops[j]? =some oj->j≠i->up.getD j true=false->(∀e∈oj.after,Region.binds md e=true->e.on≠i)->oi.apart ops oj=true)->
   i∈Region.ready md ops up->YieldsIf P ops (fun _=> True) oi v a->
   UpZ P md ops Q S Z n (up.setIfInBounds i true) (a.put oi.dst v) w->UpZ P md ops Q S Z (n+1) up a w:=by
 intro n
 induction n with
 | zero=>
  intro up a w _ hr hy H
  refine ⟨fun h=> (by rw [h] at hr;cases hr),fun j hj=> ?_⟩
  by_cases e:j=i
  ·exact e ▸ hy.wpOp hi trivial ⟨fun _ h=> h,H⟩
  ·have:=ready_mono hj e
   rw [H.1] at this
   cases this
 | succ n ih=>
  intro up a w hfree hr hy H
  refine ⟨fun h=> (by rw [h] at hr;cases hr),fun j hj=> ?_⟩
  by_cases e:j=i
  ·exact e ▸ hy.wpOp hi trivial ⟨fun _ h=> h,H⟩
  ·have hiu:= (mem_ready.1 hr).1
   obtain ⟨hju,oj,hoj,hall⟩:=mem_ready.1 hj
   have hno: ∀e∈oj.after,Region.binds md e=true->e.on≠i:=fun e he hb heq=> by
    have h1:=hall e he hb
    rw [heq] at h1
    rcases Nat.lt_or_ge i up.size with h' | h'
    ·simp [h'] at hiu h1;rw [hiu] at h1;cases h1
    ·simp [Array.getElem?_eq_none h'] at h1
   have h2:=wpOp_putIf hoj (hfree j oj hoj e hju hno) (fun cs b=> Region.noSelect_spec hsel i oi cs b hi) (fun cs b=> Region.noSelect_spec hsel j oj cs b hoj) hQ hy (H.2 j (ready_mono hj e))
   refine wpOp_mono (fun b u g=> ⟨g.2.1,ih (up.setIfInBounds j true) b u (fun k ok hk hki hku hkn=> hfree k ok hk hki ?_ hkn) (ready_mono hr (Ne.symm e)) g.1 ?_⟩) h2
   ·by_cases hjk:j=k
    ·exact hjk ▸ hju
    ·rw [getD_set_ne true hjk] at hku;exact hku
   ·rw [Array.setIfInBounds_comm _ _ e];exact g.2.2
theorem UpZ.pure (i:Nat) {oi:Oper} {v:Value} {n:Nat} {up:Array Bool} {a:Act} {w:World} (hi:ops[i]? =some oi) (hsel:Region.noSelect ops=true)
  (hf:Region.free md ops up i=true) (hr: (Region.ready md ops up).contains i=true)
  (hQ: ∀c a w,Q (.panic c) (a.put oi.dst v) w->Q (.panic c) a w) (hy:YieldsIf P ops (fun _=> True) oi v a)
  (h:UpZ P md ops Q S Z n (up.setIfInBounds i true) (a.put oi.dst v) w):UpZ P md ops Q S Z (n+1) up a w:=
 UpZ.pure' hi hsel hQ n up a w (Region.free_spec hi hf) (by simpa using hr) hy h
theorem UpZ.next (i:Nat) {o:Oper} {n:Nat} {up:Array Bool} {a:Act} {w:World} (hr:Region.ready md ops up=[i]) (ho:ops[i]? =some o)
  (h: ∀K:Act->World->Prop,Shut (∀b u,(i∉Z->S w->S u)->UpZ P md ops Q S Z n (up.setIfInBounds i true) b u->K b u)->if Region.wanted o (yielded ops a.tmps)=true then Oper.wp P o a w K Q else K (a.put o.dst undef) w):
  UpZ P md ops Q S Z (n+1) up a w:=by
 refine ⟨fun h0=> (by rw [hr] at h0;cases h0),fun k hk=> ?_⟩
 rw [hr] at hk
 obtain rfl:k=i:=by simpa using hk
 exact wpOp_step ho (fun K hK=> h K (fun b u h1 h2=> hK b u ⟨h1,h2⟩))
theorem UpZ.done {n:Nat} {up:Array Bool} {a:Act} {w:World} (hr:Region.ready md ops up=[]) (h:Q .normal a w):UpZ P md ops Q S Z n up a w:=by
 cases n with
 | zero=> exact ⟨hr,h⟩
 | succ n=> exact ⟨fun _=> h,by rw [hr];simp⟩
end
