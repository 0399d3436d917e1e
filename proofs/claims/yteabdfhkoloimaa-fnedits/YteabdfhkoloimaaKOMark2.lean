import Derived.Test.YteabdfhkoloimaaProg
import Derived.WalkKit
import Derived.WalkSpells
import Derived.WalkLawsBesides
import Derived.Deep.OwnRows
import Derived.Deep.RegionWith
import Derived.Test.YteabdfhkoloimaaKWStrs
import Derived.OwnWalk
set_option maxRecDepth 100000
set_option maxHeartbeats 25600000
namespace Go.Proofs.Yteabdfhkoloimaa
open Go.RowKit
theorem Try.sizeCase : (Try.prog.info? 72).map (·.size)=some 2:=by kernel_rfl
theorem Try.infoCase : (Try.prog.info? 72).map (fun i=> (i.zero,i.size,i.bytes))=some (some (.agg #[.string ByteArray.empty,.int .i64 0]),2,24):=by kernel_rfl
theorem Try.sizeStep : (Try.prog.info? 68).map (·.size)=some 8:=by kernel_rfl
theorem Try.infoStep : (Try.prog.info? 68).map (fun i=> (i.zero,i.size,i.bytes))=some (some (.agg #[.slice none 0 0,.int .i64 0,.slice none 0 0,.int .i64 0,.int .i64 0,.bool false,.bool false,.string ⟨#[]⟩]),8,96):=by kernel_rfl
structure Q_ where
 name:ByteArray
 cost:Int
 steps:List Xz
def Q_.zero :Q_:= ⟨ByteArray.empty,0,[]⟩
def Q_.cells (d:Q_) (a:Option Addr) (cap:Nat):List Value:=[.string d.name,.int .i64 d.cost,.slice a d.steps.length cap]
theorem Q_.one (d:Q_) (a:Option Addr) (cap:Nat): (d.cells a cap).toArray.all (·.oneCell')=true:=
 all_oneCell_toArray (by simp [Q_.cells,Value.oneCell'])
def NodeIs (w:World) (cs:List Value) (d:Q_):Prop:= ∃a cap,cs=d.cells a cap∧Steps w a d.steps
theorem NodeIs.kept {w w':World} {cs:List Value} {d:Q_} (h:NodeIs w cs d) (k:K_ w w'):NodeIs w' cs d:=by
 obtain ⟨a,cap,e,h1⟩:=h
 exact ⟨a,cap,e,h1.kept k⟩
def Nodes (w:World) (a:Option Addr) (l:List Q_):Prop:=
 ∀i,i < l.length->∃b o cs,a=some ⟨b,o,none⟩∧b < w.heap.size∧w.rangeAt b (o+i * 3) cs∧NodeIs w cs (l.getD i Q_.zero)
theorem Nodes.kept {w w':World} {a:Option Addr} {l:List Q_} (h:Nodes w a l) (k:K_ w w'):Nodes w' a l:=by
 intro i hi
 obtain ⟨b,o,cs,ha,hb,hc,hs⟩:=h i hi
 exact ⟨b,o,cs,ha,Nat.lt_of_lt_of_le hb k.size,k.range hb hc,hs.kept k⟩
structure Q_.Fits (d:Q_):Prop where
 name:d.name.size<=maxLen
 cost:In64 d.cost
 steps:d.steps.length<=maxLen
 each: ∀s∈d.steps,s.Fits
theorem size_setCells (g:Nat): ∀(vs:List Value) (o:Nat) (w:World),(w.setCells g o vs).heap.size=w.heap.size
 | [],_,_=> rfl
 | v :: r,o,w=> by rw [World.setCells,size_setCells g r (o+1),size_setCell]
def Packed (w:World) (cs:List Value) (l:List Q_):Prop:=
 cs.length=l.length * 3∧(∀u∈cs,u.oneCell'=true)∧∀i,i < l.length->∃a cap,Steps w a (l.getD i Q_.zero).steps∧∀t v,((l.getD i Q_.zero).cells a cap)[t]? =some v->cs[i * 3+t]? =some v
theorem Packed.nil (w:World):Packed w [] []:= ⟨rfl,(fun u hu=> by cases hu),(fun i hi=> by simp at hi)⟩
theorem Packed.kept {w w':World} {cs:List Value} {l:List Q_} (h:Packed w cs l) (k:K_ w w'):Packed w' cs l:=
 ⟨h.1,h.2.1,fun i hi=> by obtain ⟨a,cap,h1,h2⟩:=h.2.2 i hi;exact ⟨a,cap,h1.kept k,h2⟩⟩
theorem Packed.append {w:World} {c1 c2:List Value} {l1 l2:List Q_} (h1:Packed w c1 l1) (h2:Packed w c2 l2):Packed w (c1++c2) (l1++l2):=by
 refine ⟨by rw [List.length_append,List.length_append,h1.1,h2.1,Nat.add_mul],fun u hu=> ?_,fun i hi=> ?_⟩
 ·rcases List.mem_append.1 hu with h | h
  ·exact h1.2.1 u h
  ·exact h2.2.1 u h
 ·by_cases hlt:i < l1.length
  ·have e: (l1++l2).getD i Q_.zero=l1.getD i Q_.zero:=by simp [List.getD,List.getElem?_append_left hlt]
   rw [e]
   obtain ⟨a,cap,g1,g2⟩:=h1.2.2 i hlt
   refine ⟨a,cap,g1,fun t v hv=> ?_⟩
   have:=g2 t v hv
   rw [List.getElem?_append_left (List.getElem?_eq_some_iff.1 this).1]
   exact this
  ·have hi2:i - l1.length < l2.length:=by rw [List.length_append] at hi;omega
   have e: (l1++l2).getD i Q_.zero=l2.getD (i - l1.length) Q_.zero:=by simp [List.getD,List.getElem?_append_right (by omega:l1.length<=i)]
   rw [e]
   obtain ⟨a,cap,g1,g2⟩:=h2.2.2 _ hi2
   refine ⟨a,cap,g1,fun t v hv=> ?_⟩
   have:=g2 t v hv
   rw [List.getElem?_append_right (by rw [h1.1];omega),h1.1]
   have e2:i * 3+t - l1.length * 3= (i - l1.length) * 3+t:=by omega
   rw [e2]
   exact this
theorem packed_of_nodes {w:World} {b o:Nat}: ∀{l:List Q_},Nodes w (some ⟨b,o,none⟩) l->∃cs,Packed w cs l∧∀j u,cs[j]? =some u->w.cell? ((⟨b,o,none⟩:Addr).add j)=some u:=by
 intro l
 induction l generalizing o with
 | nil=> intro _;exact ⟨[],Packed.nil w,fun j u h=> by simp at h⟩
 | cons d r ih=>
  intro h
  obtain ⟨b0,o0,cs0,e0,hb,hr,a,cap,rfl,hS⟩:=h 0 (by simp)
  simp only [Option.some.injEq,Addr.mk.injEq,and_true] at e0
  obtain ⟨rfl,rfl⟩:=e0
  obtain ⟨cs,hP,hc⟩:=ih (o:=o+3) (fun i hi=> by
   obtain ⟨b1,o1,cs1,e1,hb1,hr1,hN1⟩:=h (i+1) (by simpa using hi)
   simp only [Option.some.injEq,Addr.mk.injEq,and_true] at e1
   obtain ⟨rfl,rfl⟩:=e1
   refine ⟨b,o+3,cs1,rfl,hb1, ?_,hN1⟩
   have e2:o+ (i+1) * 3=o+3+i * 3:=by omega
   rw [<-e2]
   exact hr1)
  have hd: (d :: r).getD 0 Q_.zero=d:=rfl
  rw [hd] at hr hS
  have h1:Packed w (d.cells a cap) [d]:=by
   refine ⟨rfl,fun u hu=> ?_,fun i hi=> ?_⟩
   ·have:=Q_.one d a cap
    rw [Array.all_eq_true_iff_forall_mem] at this
    exact this u (by simpa using hu)
   ·obtain rfl:i=0:=by simpa using hi
    exact ⟨a,cap,hS,fun t v hv=> by simpa using hv⟩
  refine ⟨d.cells a cap++cs,h1.append hP,fun j u hu=> ?_⟩
  by_cases hj:j < 3
  ·rw [List.getElem?_append_left (by simpa [Q_.cells] using hj)] at hu
   have:=hr j u hu
   rw [Addr.add_mid]
   simpa using this
  ·rw [List.getElem?_append_right (by simpa [Q_.cells] using hj)] at hu
   have e3: (d.cells a cap).length=3:=rfl
   rw [e3] at hu
   have:=hc (j - 3) u hu
   have e4:o+3+ (j - 3)=o+j:=by omega
   rw [Addr.add_mid,e4] at this
   rw [Addr.add_mid]
   exact this
theorem nodes_of_owned {w:World} {base:Nat} {e:TypeId} {v:Value} {n:Nat} {xs:List Value} {l:List Q_} (h:w.ownsRow base e 3 v n xs) (hP:Packed w xs l):n=l.length∧∃a cap,v= .slice a l.length cap∧l.length<=cap∧Nodes w a l:=by
 have hn:n=l.length:=by have:=h.1;have:=hP.1;omega
 refine ⟨hn, ?_⟩
 subst hn
 rcases h.2 with ⟨rfl,h0⟩ | ⟨g,cap,cur,rfl,hb,hg,hnc,_,_,_⟩
 ·refine ⟨none,0,by rw [h0],by omega,fun i hi=> by omega⟩
 ·refine ⟨_,cap,rfl,hnc,fun i hi=> ?_⟩
  obtain ⟨a,c,h1,h2⟩:=hP.2.2 i hi
  have hlt:g < w.heap.size:=by
   have:= (Array.getElem?_eq_some_iff.1 hg).1
   exact this
  refine ⟨g,0,_,rfl,hlt,fun t u hu=> ?_,a,c,rfl,h1⟩
  have:=h.cells (g:=g) rfl _ _ (h2 t u hu)
  rw [Addr.add_mid] at this
  rw [Nat.zero_add] at this⊢
  exact this
