import Derived.Test.YteabdfhkoloimaaKOMark2
set_option maxRecDepth 100000
set_option maxHeartbeats 25600000
namespace Go.Proofs.Yteabdfhkoloimaa
open Go.RowKit
def NodeIn (w:World) (B j lo hi:Nat) (d:Q_):Prop:= ∃a cap,w.rangeAt B (j * 3) (d.cells a cap)∧StepsIn w lo hi a d.steps
def NodesIn (w:World) (lo hi:Nat) (a:Option Addr) (l:List Q_):Prop:=
 l=[]∨∃(b:Nat) (c:Nat->Nat),a=some ⟨b,0,none⟩∧lo<=b∧b < c 0∧c l.length<=hi∧Row w b (l.length * 3)∧(∀i j,i<=j->c i<=c j)∧∀i,i < l.length->NodeIn w b i (c i) (c (i+1)) (l.getD i Q_.zero)
theorem NodesIn.same {w w':World} {lo hi:Nat} {a:Option Addr} {l:List Q_} (h:NodesIn w lo hi a l) (k:Same lo hi w w'):NodesIn w' lo hi a l:=by
 rcases h with h | ⟨b,c,ha,h1,h2,h3,hr,hm,hc⟩
 ·exact .inl h
 ·have hbh:b < hi:=Nat.lt_of_lt_of_le h2 (Nat.le_trans (hm 0 _ (Nat.zero_le _)) h3)
  refine .inr ⟨b,c,ha,h1,h2,h3,k.row h1 hbh hr,hm,fun i hi'=> ?_⟩
  obtain ⟨a',cap,g1,g2⟩:=hc i hi'
  refine ⟨a',cap,k.range h1 hbh hr.lt g1,g2.same (k.mono ?_ ?_)⟩
  ·have:=hm 0 i (Nat.zero_le _);omega
  ·have:=hm (i+1) l.length (by omega);omega
theorem NodesIn.mono {w:World} {lo hi lo' hi':Nat} {a:Option Addr} {l:List Q_} (h:NodesIn w lo hi a l) (h1:lo'<=lo) (h2:hi<=hi'):NodesIn w lo' hi' a l:=by
 rcases h with h | ⟨b,c,ha,g1,g2,g3,hr,hm,hc⟩
 ·exact .inl h
 ·exact .inr ⟨b,c,ha,by omega,g2,by omega,hr,hm,hc⟩
theorem NodesIn.nodes {w:World} {lo hi:Nat} {a:Option Addr} {l:List Q_} (h:NodesIn w lo hi a l):Nodes w a l:=by
 rcases h with rfl | ⟨b,c,ha,h1,h2,h3,hr,hm,hc⟩
 ·intro i hi
  simp at hi
 ·intro i hi
  obtain ⟨a',cap,g1,g2⟩:=hc i hi
  exact ⟨b,0,_,ha,hr.lt,by rw [Nat.zero_add];exact g1,a',cap,rfl,g2.steps⟩
theorem StrsIn.setCell {w:World} {lo hi:Nat} {a:Option Addr} {l:List ByteArray} (h:StrsIn w lo hi a l) {p:Addr} (hp:p.block < lo) (v:Value):StrsIn (w.setCell p v) lo hi a l:=h.same (Same.setCell _ (.inl hp) _)
theorem CasesIn.setCell {w:World} {lo hi:Nat} {a:Option Addr} {l:List CaseD} (h:CasesIn w lo hi a l) {p:Addr} (hp:p.block < lo) (v:Value):CasesIn (w.setCell p v) lo hi a l:=h.same (Same.setCell _ (.inl hp) _)
theorem StepsIn.setCell {w:World} {lo hi:Nat} {a:Option Addr} {l:List Xz} (h:StepsIn w lo hi a l) {p:Addr} (hp:p.block < lo) (v:Value):StepsIn (w.setCell p v) lo hi a l:=h.same (Same.setCell _ (.inl hp) _)
theorem NodesIn.setCell {w:World} {lo hi:Nat} {a:Option Addr} {l:List Q_} (h:NodesIn w lo hi a l) {p:Addr} (hp:p.block < lo) (v:Value):NodesIn (w.setCell p v) lo hi a l:=h.same (Same.setCell _ (.inl hp) _)
theorem Same.setCells {lo hi g:Nat} (hg:g < lo∨hi<=g): ∀(vs:List Value) (o:Nat) (w:World),Same lo hi w (w.setCells g o vs)
 | [],_,_=> fun _ _ _ _=> rfl
 | v :: r,o,w=> by
  rw [World.setCells]
  intro b h1 h2 h3
  have e:=Same.setCells hg r (o+1) (w.setCell ⟨g,o,none⟩ v) b h1 h2 (by rw [size_setCell];exact h3)
  exact e.trans (Same.setCell w (p:= ⟨g,o,none⟩) hg v b h1 h2 h3)
theorem Try.sizeNode : (Try.prog.info? 30).map (·.size)=some 3:=by kernel_rfl
theorem Try.infoNode : (Try.prog.info? 30).map (fun i=> (i.zero,i.size,i.bytes))=some (some (.agg #[.string ⟨#[]⟩,.int .i64 0,.slice none 0 0]),3,48):=by kernel_rfl
theorem Try.sizeWeb : (Try.prog.info? 25).map (·.size)=some 1:=by kernel_rfl
def cutAt (c:Nat->Nat) (k z t:Nat):Nat:=if t<=k then c t else z
theorem cutAt_le {c:Nat->Nat} {k z t:Nat} (h:t<=k):cutAt c k z t=c t:=by simp [cutAt,h]
theorem cutAt_gt {c:Nat->Nat} {k z t:Nat} (h:k < t):cutAt c k z t=z:=by simp [cutAt];omega
theorem cutAt_mono {c:Nat->Nat} {k z:Nat} (h: ∀i j,i<=j->c i<=c j) (hz:c k<=z): ∀i j,i<=j->cutAt c k z i<=cutAt c k z j:=by
 intro i j hij
 by_cases h1:i<=k
 ·by_cases h2:j<=k
  ·rw [cutAt_le h1,cutAt_le h2];exact h i j hij
  ·rw [cutAt_le h1,cutAt_gt (by omega)];exact Nat.le_trans (h i k h1) hz
 ·rw [cutAt_gt (by omega),cutAt_gt (by omega)];exact Nat.le_refl _
theorem StepIn.kept {w w':World} {B j lo hi:Nat} {s:Xz} (h:StepIn w B j lo hi s) (k:K_ w w') (hB:B < w.heap.size):StepIn w' B j lo hi s:=
 h.same (k.same _ _) (rangeAt_of_block (k.block B hB) _)
theorem StepIn.setCells {w:World} {B j lo hi o:Nat} {s:Xz} {vs:List Value} (h:StepIn w B j lo hi s) (hB:B < lo) (ho:j * 8+8<=o∨o+vs.length<=j * 8):StepIn (w.setCells B o vs) B j lo hi s:=by
 obtain ⟨aa,ca,ac,cc,mid,h1,h2,h3,h4,h5,h6⟩:=h
 exact ⟨aa,ca,ac,cc,mid,h1,h2,World.rangeAt_setCells_apart h3 _ _ _ (by right;simpa [Xz.cells] using ho),h4.same (Same.setCells (.inl hB) _ _ _),h5.same (Same.setCells (.inl (by omega)) _ _ _),h6⟩
theorem NodeIn.kept {w w':World} {B j lo hi:Nat} {d:Q_} (h:NodeIn w B j lo hi d) (k:K_ w w') (hB:B < w.heap.size):NodeIn w' B j lo hi d:=by
 obtain ⟨a,cap,h1,h2⟩:=h
 exact ⟨a,cap,k.range hB h1,h2.same (k.same _ _)⟩
theorem NodeIn.setCells {w:World} {B j lo hi o:Nat} {d:Q_} {vs:List Value} (h:NodeIn w B j lo hi d) (hB:B < lo) (ho:j * 3+3<=o∨o+vs.length<=j * 3):NodeIn (w.setCells B o vs) B j lo hi d:=by
 obtain ⟨a,cap,h1,h2⟩:=h
 exact ⟨a,cap,World.rangeAt_setCells_apart h1 _ _ _ (by right;simpa [Q_.cells] using ho),h2.same (Same.setCells (.inl hB) _ _ _)⟩
