import Derived.Test.YteabdfhkoloimaaKOWith
import Derived.Test.YteabdfhkoloimaaKOConcatN
set_option maxRecDepth 100000
set_option maxHeartbeats 25600000
namespace Go.Proofs.Yteabdfhkoloimaa
open Go.RowKit
theorem rises_nil :Rises []:=fun i j _ hj=> absurd hj (by simp)
abbrev withW0 (w:World) (d:Q_) (a:Option Addr) (ca:Nat):World:=
 ((w.alloc (.cells #[.slice none 0 0,.func (.func 39) #[] #[]] 51)).alloc (.cells #[.string d.name,.int .i64 d.cost,.slice a d.steps.length ca] 30)).alloc (.cells #[.slice none 0 0,.nilFunc] 51)
theorem concat_one {w w2:World} (K2:K_ w w2) {a:Option Addr} {ca:Nat} {d:Q_} (hA:Steps w a d.steps):
  Calls Try.prog 41 #[.slice (some ⟨w2.heap.size+1,0,none⟩) 3 3] ((w2.alloc (.cells #[.string d.name,.int .i64 d.cost,.slice a d.steps.length ca] 30)).alloc (.cells #[.slice none 0 0,.slice (some ⟨w2.heap.size,0,none⟩) 1 1,.slice none 0 0] 23)).drew
   fun e w'=> ∃a' cap' xs base,e= .returned (.slice a' 1 cap')∧w2.heap.size<=base∧w'.ownsRow base 30 3 (.slice a' 1 cap') 1 xs∧Packed w xs [d]∧K_ w2 w':=by
 have k1:K_ w2 ((w2.alloc (.cells #[.string d.name,.int .i64 d.cost,.slice a d.steps.length ca] 30)).alloc (.cells #[.slice none 0 0,.slice (some ⟨w2.heap.size,0,none⟩) 1 1,.slice none 0 0] 23)).drew:= (((K_.refl _).alloc _).alloc _).drew
 have a1:=boxCells3 (w:=w2.alloc (.cells #[.string d.name,.int .i64 d.cost,.slice a d.steps.length ca] 30)) (x:= .slice none 0 0) (y:= .slice (some ⟨w2.heap.size,0,none⟩) 1 1) (z:= .slice none 0 0) (t:=23) ((K_.refl _).drew)
 have a2:=boxCells3 (w:=w2) (x:= .string d.name) (y:= .int .i64 d.cost) (z:= .slice a d.steps.length ca) (t:=30) (((K_.refl _).alloc (.cells #[.slice none 0 0,.slice (some ⟨w2.heap.size,0,none⟩) 1 1,.slice none 0 0] 23)).drew)
 simp only [World.size_alloc] at a1
 refine (concatN_any _ w (w2.heap.size+1) 3 [[],[d],[]] (fun i=> if i=1 then some ⟨w2.heap.size,0,none⟩ else none) (fun i=> if i=1 then 1 else 0) (by simp) (by simp) ⟨?_,fun i hi=> ?_⟩).mono ?_
 ·show w2.heap.size+1 < ((w2.alloc _).alloc _).heap.size
  simp
 ·match i,hi with
  | 0,_=> exact ⟨a1.1,rfl,rfl⟩
  | 1,_=>
   refine ⟨a1.2.1,d.cells a ca,⟨rfl,fun u hu=> node_one d a ca u hu,fun i hi2=> ?_⟩,fun j u hu=> ?_⟩
   ·have:i=0:=by simpa using hi2
    subst this
    exact ⟨a,ca,hA,fun t v hv=> by rw [Nat.zero_mul,Nat.zero_add];exact hv⟩
   ·rw [Addr.add_mid,Nat.zero_add]
    match j,hu with
    | 0,hu=> simp [Q_.cells] at hu;subst hu;exact a2.1
    | 1,hu=> simp [Q_.cells] at hu;subst hu;exact a2.2.1
    | 2,hu=> simp [Q_.cells] at hu;subst hu;exact a2.2.2
    | j+3,hu=> simp [Q_.cells] at hu
  | 2,_=> exact ⟨a1.2.2,rfl,rfl⟩
  | i+3,hi=> exact absurd hi (by simp)
 ·rintro e w' ⟨v,xs,he,hO,hP,k⟩
  have hf: ([[],[d],[]]:List (List Q_)).flatten=[d]:=rfl
  rw [hf] at hO hP
  obtain ⟨_,a',cap',rfl,_,_⟩:=nodes_of_owned hO (hP.kept ((K2.trans k1).trans k))
  exact ⟨a',cap',xs,_,he,k1.size,hO,hP,k1.trans k⟩
theorem with_none (w0 w:World) (k0:K_ w0 w) (d:Q_) (a:Option Addr) (ca:Nat) (hA:Steps w0 a d.steps):
  Calls Try.prog 20 #[.agg #[.slice none 0 0,.func (.func 39) #[] #[]],.agg #[.string d.name,.int .i64 d.cost,.slice a d.steps.length ca]] w
   fun e w'=> WithEnd [] d w0 w w' e:=by
 have K0:K_ w (withW0 w d a ca):= (((K_.refl _).alloc _).alloc _).alloc _
 have Qx:Hid (∀w',K_ (withW0 w d a ca) w'->(fun w'=> w'.cell? ⟨w.heap.size,0,none⟩=some (.slice none 0 0)∧w'.cell? ⟨w.heap.size,1,none⟩=some (.func (.func 39) #[] #[])∧w'.cell? ⟨w.heap.size+1,0,none⟩=some (.string d.name)∧w'.cell? ⟨w.heap.size+1,1,none⟩=some (.int .i64 d.cost)∧w'.cell? ⟨w.heap.size+1,2,none⟩=some (.slice a d.steps.length ca)) w'):=fun w' kk=> by
  have a1:=boxCells2 (w:=w) (K_.trans (((K_.refl _).alloc _).alloc _) kk)
  have a2:=boxCells3 (w:=w.alloc (.cells #[.slice none 0 0,.func (.func 39) #[] #[]] 51)) (K_.trans ((K_.refl _).alloc _) kk)
  simp only [World.size_alloc] at a2
  exact ⟨a1.1,a1.2,a2.1,a2.2.1,a2.2.2⟩
 have HRo:Hid (Row (withW0 w d a ca) (w.heap.size+2) 2):=by have:=Row.made ((w.alloc (.cells #[.slice none 0 0,.func (.func 39) #[] #[]] 51)).alloc (.cells #[.string d.name,.int .i64 d.cost,.slice a d.steps.length ca] 30)) #[.slice none 0 0,.nilFunc] 51;show Row _ _ _;simpa using this
 go_enter Try.func20,Try.ntmps20
 go_wp2
 go_region_held (fun w'=> w'.cell? ⟨w.heap.size,0,none⟩=some (.slice none 0 0)∧w'.cell? ⟨w.heap.size,1,none⟩=some (.func (.func 39) #[] #[])∧w'.cell? ⟨w.heap.size+1,0,none⟩=some (.string d.name)∧w'.cell? ⟨w.heap.size+1,1,none⟩=some (.int .i64 d.cost)∧w'.cell? ⟨w.heap.size+1,2,none⟩=some (.slice a d.steps.length ca)) (exact unhide Qx _ (by repeat (first | apply K_.drew | exact K_.refl _ | assumption))) ((first | (go_at_call 39;refine (nodeName_any _ _ _ _ _ rfl).mono ?_;rintro e w1 ⟨rfl,hk1⟩;have k1:K_ (withW0 w d a ca) w1:=K_.trans (by repeat (first | apply K_.drew | exact K_.refl _ | assumption)) hk1) | (go_at_call 40;refine (find_any _ none 0 [] d.name (by simp) rises_nil (fun i hi=> absurd hi (by simp))).mono ?_;rintro e w2 ⟨hfo,hk2⟩;obtain ⟨p,f,rfl,hp,hf⟩:=hfo;have k2:K_ (withW0 w d a ca) w2:=K_.trans (by repeat (first | apply K_.drew | exact K_.refl _ | assumption)) hk2;have HP:=Kz hp;have HF:=Kz hf;clear hp hf hk2)))
 all_goals
  have z2:=k2.size
  simp only [withW0,World.size_alloc] at z2
  have K2:=K0.trans k2
  have S2:=Qx.out w2 k2
  have hrow:=HRo.out.kept k2
  obtain ⟨⟨_,x0⟩,g0⟩:=hrow.at (i:=0) (by omega)
  obtain ⟨⟨_,x1⟩,g1⟩:=hrow.at (i:=1) (by omega)
  have HR2:=Kz hrow
  obtain rfl:p=0:=by have:=HP.out.le;simpa using this
  clear hrow
  have HSO2:Hid (∀w',Xq (w.heap.size+2) (w.heap.size+3) w2 w'->(fun w'=> w'.cell? ⟨w.heap.size,0,none⟩=some (.slice none 0 0)∧w'.cell? ⟨w.heap.size,1,none⟩=some (.func (.func 39) #[] #[])∧w'.cell? ⟨w.heap.size+1,0,none⟩=some (.string d.name)∧w'.cell? ⟨w.heap.size+1,1,none⟩=some (.int .i64 d.cost)∧w'.cell? ⟨w.heap.size+1,2,none⟩=some (.slice a d.steps.length ca)) w'):=fun w' kk=>
   have ks:=kk.same (l2:=w.heap.size) (h2:=w.heap.size+2) (by omega)
   ⟨(ks.cell (Nat.le_refl _) (by omega) (by omega)).trans S2.1,(ks.cell (Nat.le_refl _) (by omega) (by omega)).trans S2.2.1,(ks.cell (by omega) (by omega) (by omega)).trans S2.2.2.1,(ks.cell (by omega) (by omega) (by omega)).trans S2.2.2.2.1,(ks.cell (by omega) (by omega) (by omega)).trans S2.2.2.2.2⟩
  obtain ⟨s1,s2,s3,s4,s5⟩:=S2
  have u0:w.heap.size < w2.heap.size:=by omega
  have u1:w.heap.size+1 < w2.heap.size:=by omega
  have u2:w.heap.size+2 < w2.heap.size:=by omega
  cases f
  ·have HC:=Kz (concat_one (ca:=ca) (k0.trans K2) hA)
   go_wp2
   go_region_held (fun w'=> w'.cell? ⟨w.heap.size,0,none⟩=some (.slice none 0 0)∧w'.cell? ⟨w.heap.size,1,none⟩=some (.func (.func 39) #[] #[])∧w'.cell? ⟨w.heap.size+1,0,none⟩=some (.string d.name)∧w'.cell? ⟨w.heap.size+1,1,none⟩=some (.int .i64 d.cost)∧w'.cell? ⟨w.heap.size+1,2,none⟩=some (.slice a d.steps.length ca)) (exact unhide HSO2 _ (by repeat (first | exact Xq.refl _ _ _ | exact Xq.of_kept (by assumption) | apply Xq.drew | (refine Xq.setCell ?_ (by simp) (by simp) _) | apply Xq.alloc))) ((go_at_call 41;refine (unhide HC).mono ?_;rintro e w3 ⟨a',cap',xs,base,rfl,hbase,hO,hP,kk⟩;have HR3:=Kz (HR2.out.kept kk);obtain ⟨⟨_,y0⟩,e0⟩:=HR3.out.at (i:=0) (by omega);obtain ⟨⟨_,y1⟩,e1⟩:=HR3.out.at (i:=1) (by omega);have HO:=Kz hO;have HPk:=Kz hP;clear hO hP))
   all_goals
    go_wp2
    have hR:=World.rangeAt_setCells_same w3 (w.heap.size+2) 0 [.slice a' 1 cap',.func (.func 39) #[] #[]] (HR3.out.there (o:=0) (m:=2) (Nat.le_refl _))
    have kf:K_ w ((w3.setCell ⟨w.heap.size+2,0,none⟩ (.slice a' 1 cap')).setCell ⟨w.heap.size+2,1,none⟩ (.func (.func 39) #[] #[])):= ((K2.trans kk).setCell (by simp) _).setCell (by simp) _
    have hO2:=owns_set (owns_set HO.out (p:= ⟨w.heap.size+2,0,none⟩) (by simp <;> omega) (.slice a' 1 cap')) (p:= ⟨w.heap.size+2,1,none⟩) (by simp <;> omega) (.func (.func 39) #[] #[])
    exact Zk [.slice a' 1 cap',.func (.func 39) #[] #[]] _ Try.results20 rfl hR Try.underlying51 rfl Try.sizeSorted rfl ⟨a',cap',xs,base,rfl,by omega,hO2,HPk.out,kf⟩
  ·have hpl:=HF.out.1 rfl
   exact absurd hpl.1 (by simp)
def NilOr (a0:Option Addr) (cap:Nat) (l:List Q_):Prop:= (a0=none∧cap=0∧l=[])∨∃b o,a0=some ⟨b,o,none⟩
theorem withG_any (w0 w:World) (k0:K_ w0 w) (a0:Option Addr) (cap:Nat) (l:List Q_) (d:Q_) (a:Option Addr) (ca:Nat) (hz:NilOr a0 cap l) (hl:l.length<=1048576) (hcap:l.length<=cap) (hr:Rises l) (hS:Nodes w0 a0 l) (hA:Steps w0 a d.steps):
  Calls Try.prog 20 #[.agg #[.slice a0 l.length cap,.func (.func 39) #[] #[]],.agg #[.string d.name,.int .i64 d.cost,.slice a d.steps.length ca]] w
   fun e w'=> WithEnd l d w0 w w' e:=by
 rcases hz with ⟨rfl,rfl,rfl⟩ | ⟨b,o,rfl⟩
 ·exact with_none w0 w k0 d a ca hA
 ·exact with_any w0 w k0 b o cap l d a ca hl hcap hr hS hA
