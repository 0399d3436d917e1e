import Derived.Test.YtgnkgfjmbmcfcaaGreatDoorKBRangeC
import Derived.Test.YtgnkgfjmbmcfcaaGreatDoorKOOrder2
import Derived.OrdersIn
set_option maxRecDepth 100000
set_option maxHeartbeats 25600000
namespace Go.Proofs.YtgnkgfjmbmcfcaaGreatDoor
section
variable {P : Program} {ops : Array Oper} {Q : Exit -> Act -> World -> Prop} {md : Region.Mode} {l m : Nat}
theorem rows_round {row:String} {args:Array Value} {w:World} {R:Value->World->Prop} (h:Rows P row args w R):RowsIn (Fence.wide.inRound l) m P row args w R:=fun c cs _=> by
 obtain ⟨v,w',r,s⟩:=h c cs
 exact ⟨v,w',r,stepsIn_wide.2 s⟩
theorem op_round (_hQ: ¬LetsOut Q) {o:Oper} (hd: ∀c:Call,o.op≠ .defer c) {a:Act} {w:World} {K:Act->World->Prop} (h:o.wp P a w K Q):o.wpIn (Fence.wide.inRound l) m P a w K Q:=by
 refine ⟨fun _ _=> trivial, ?_⟩
 have e:o.semAt (Fence.wide.inRound l).round a.eval=execOp a.eval o:=Oper.semAt_eq _ _ _ hd
 rw [e]
 unfold Oper.wp at h
 generalize (execOp a.eval o).run P w=r at *
 cases r with
 | ok x w'=>
  cases x <;> simp only [Oper.upon,Oper.uponIn] at h⊢ <;>
   first
    | exact h
    | exact ⟨fun hh=> (by cases hh),CallsIn.inRound l (callsIn_wide.2 h)⟩
    | exact ⟨fun hh=> (by cases hh),rows_round h⟩
 | halt x w'=> cases x <;> simp only [Oper.upon,Oper.uponIn] at h⊢ <;> exact h
theorem any_round (hQ: ¬LetsOut Q) (hd: ∀(i:Nat) (o:Oper),ops[i]? =some o->∀c:Call,o.op≠ .defer c): ∀(n:Nat) (up:Array Bool) (a:Act) (w:World),wpAny P md ops Q n up a w->wpAnyIn (Fence.wide.inRound l) m P md ops Q n up a w
 | 0,_,_,_,h=> h
 | n+1,up,a,w,h=> by
  refine ⟨h.1,fun k hk=> ?_⟩
  have h1:=h.2 k hk
  unfold wpOp at h1
  unfold wpOpIn
  cases ho:ops[k]? with
  | none=>
   rw [ho] at h1
   exact any_round hQ hd n _ _ _ h1
  | some o=>
   rw [ho] at h1
   simp only at h1⊢
   split
   ·rename_i hw
    rw [if_pos hw] at h1
    rcases h1 with h1 | ⟨_,h1⟩
    ·exact Oper.wpIn_mono (fun b u g=> any_round hQ hd n _ b u g) (op_round hQ (hd k o ho) h1)
    ·exact (hQ h1).elim
   ·rename_i hw
    rw [if_neg hw] at h1
    exact ⟨fun _ _=> trivial,any_round hQ hd n _ _ _ h1⟩
def noDefer (ops:Array Oper):Bool:=ops.all fun o=> match o.op with | .defer _=> false | _=> true
theorem noDefer_at {ops:Array Oper} (h:noDefer ops=true) (i:Nat) (o:Oper) (ho:ops[i]? =some o) (c:Call):o.op≠ .defer c:=by
 intro e
 unfold noDefer at h
 rw [Array.all_eq_true] at h
 obtain ⟨hi,rfl⟩:=Array.getElem?_eq_some_iff.1 ho
 have:=h i hi
 rw [e] at this
 cases this
theorem region_round {id:Nat} {a:Act} {w:World} (hm:P.follows .mixedOrders=true) (hd:noDefer ops=true) (hQ: ¬LetsOut Q) (S:World->Prop) (z:Nat) (hS:S w.drew)
  (h:S w.drew->Qx P .any ops Q S z ops.size (Array.replicate ops.size false) a w.drew): (Code.region id ops true).wpIn (Fence.wide.inRound l) m P Q a w:=
 wpIn_region_any hm (any_round hQ (noDefer_at hd) _ _ _ _ (Qx.any _ _ _ _ (h hS)))
end
