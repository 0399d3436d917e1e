import Derived.Test.YtgnkgfjmbmcfcaaGreatDoorKVBfs
import Derived.Test.YtgnkgfjmbmcfcaaGreatDoorProg
set_option maxRecDepth 100000
set_option maxHeartbeats 25600000
namespace Go.Proofs.YtgnkgfjmbmcfcaaGreatDoor
open Go.RowKit
theorem Tryz.dInfoAns : (Tryz.prog.info? 112).map (fun i=> (i.zero,i.size,i.bytes))=some (some (.agg #[.bool false,.string ByteArray.empty]),2,24):=by kernel_rfl
def dAnsCells (l:List Xq):List Value:= (l.map Xq.cells).flatten
theorem dAnsCells_length (l:List Xq): (dAnsCells l).length=l.length * 2:=by
 induction l with
 | nil=> rfl
 | cons c r ih=> simp only [dAnsCells,List.map_cons,List.flatten_cons,List.length_append,List.length_cons] at ih⊢;rw [ih];simp [Xq.cells];omega
theorem dAnsCells_snoc (l:List Xq) (c:Xq):dAnsCells (l++ [c])=dAnsCells l++c.cells:=by simp [dAnsCells]
theorem dAnsCells_get : ∀(l:List Xq) (i j:Nat),i < l.length->j < 2->(dAnsCells l)[i * 2+j]? = ((l.getD i Xq.zero).cells)[j]?
 | [],_,_,h,_=> absurd h (Nat.not_lt_zero _)
 | c :: r,0,j,_,hj=> by
  have e:dAnsCells (c :: r)=c.cells++dAnsCells r:=rfl
  rw [e,Nat.zero_mul,Nat.zero_add,List.getElem?_append_left (by simpa [Xq.cells] using hj)]
  rfl
 | c :: r,i+1,j,h,hj=> by
  have e:dAnsCells (c :: r)=c.cells++dAnsCells r:=rfl
  have hl:c.cells.length=2:=rfl
  rw [e,List.getElem?_append_right (by rw [hl];omega),hl,show (i+1) * 2+j - 2=i * 2+j by omega,dAnsCells_get r i j (by simpa using h) hj]
  rfl
def TAns (w:World) (a:Option Addr) (l:List Xq):Prop:=
 l=[]∨∃b cur fr,a=some ⟨b,0,none⟩∧w.heap[b]? =some (Obj.cells cur 112 fr)∧∀i,i < l.length->w.rangeAt b (i * 2) (l.getD i Xq.zero).cells
theorem TAns.same {w w':World} {a:Option Addr} {l:List Xq} (h:TAns w a l) {u:TypeId} (k:SameKind u w w') (hu:112≠u):TAns w' a l:=by
 rcases h with h | ⟨b,cur,fr,ha,hb,hc⟩
 ·exact .inl h
 ·have hb':=k b cur _ fr hu hb
  exact .inr ⟨b,cur,fr,ha,hb',fun i hi j v hv=> by rw [World.cell?_of_block (w:=w) (hb'.trans hb.symm)];exact hc i hi j v hv⟩
theorem TAns.answers {w:World} {a:Option Addr} {l:List Xq} (h:TAns w a l):Answers w a l:=by
 rcases h with rfl | ⟨b,cur,fr,ha,hb,hc⟩
 ·intro i hi;simp at hi
 ·exact fun i hi=> ⟨b,0,ha,heap_lt hb,by rw [Nat.zero_add];exact hc i hi⟩
theorem d_tans_of_owned {w:World} {base:Nat} {v:Value} {n:Nat} {l:List Xq} (h:w.ownsRow base 112 2 v n (dAnsCells l)): ∃a cap,v= .slice a l.length cap∧l.length<=cap∧TAns w a l:=by
 have hn:n=l.length:=by have:=h.1;rw [dAnsCells_length] at this;omega
 subst hn
 rcases h.2 with ⟨rfl,h0⟩ | ⟨g,cap,cur,rfl,hb,hg,hnc,_,_,_⟩
 ·exact ⟨none,0,by rw [h0],by omega,.inl (List.eq_nil_of_length_eq_zero h0)⟩
 ·refine ⟨_,cap,rfl,hnc,.inr ⟨g,cur,_,rfl,hg,fun i hi j u hu=> ?_⟩⟩
  have hj:j < 2:=by have:= (List.getElem?_eq_some_iff.1 hu).1;simpa [Xq.cells] using this
  have:=h.cells (g:=g) rfl (i * 2+j) u (by rw [dAnsCells_get l i j hi hj];exact hu)
  rw [Addr.add_mid,Nat.zero_add] at this
  exact this
