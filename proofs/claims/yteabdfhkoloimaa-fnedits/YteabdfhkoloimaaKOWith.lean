import Derived.Test.YteabdfhkoloimaaKOPut0
set_option maxRecDepth 100000
set_option maxHeartbeats 25600000
namespace Go.Proofs.Yteabdfhkoloimaa
open Go.RowKit
theorem rows_three {w0 W:World} (k0:K_ w0 W) {B b o o2 bi c1 c2 p q:Nat} {a:Option Addr} {ca:Nat} {l:List Q_} {d:Q_} (hS:Nodes w0 (some ⟨b,o,none⟩) l) (hA:Steps w0 a d.steps) (hp:p<=l.length) (ho:l.length=q∨o2=o+q * 3) (hB:B < W.heap.size)
  (h0:W.cell? ⟨B,0,none⟩=some (.slice (some ⟨b,o,none⟩) p c1)) (h1:W.cell? ⟨B,1,none⟩=some (.slice (some ⟨bi,0,none⟩) 1 1)) (h2:W.cell? ⟨B,2,none⟩=some (.slice (some ⟨b,o2,none⟩) (l.length - q) c2))
  (hi: ∀j u,(d.cells a ca)[j]? =some u->W.cell? ⟨bi,j,none⟩=some u):
  Rows2 W w0 B [l.take p,[d],l.drop q] (fun i=> if i=0 then (b,o) else if i=1 then (bi,0) else (b,o2)) (fun i=> if i=0 then c1 else if i=1 then 1 else c2):=by
 refine ⟨hB,fun i hi'=> ?_⟩
 match i,hi' with
 | 0,_=>
  refine ⟨?_,news_of k0 (hS.take p)⟩
  simpa [List.length_take,Nat.min_eq_left hp] using h0
 | 1,_=>
  refine ⟨by simpa using h1,d.cells a ca,⟨rfl, ?_,fun i hi2=> ?_⟩,fun j u hu=> ?_⟩
  ·intro u hu
   exact node_one d a ca u hu
  ·have:i=0:=by simpa using hi2
   subst this
   exact ⟨a,ca,hA,fun t v hv=> by rw [Nat.zero_mul,Nat.zero_add];exact hv⟩
  ·show W.cell? ⟨bi,0+j,none⟩=some u
   rw [Nat.zero_add]
   exact hi j u hu
 | 2,_=>
  refine ⟨by simpa using h2, ?_⟩
  refine news_of (o:=o2) k0 ?_
  show Nodes _ (some ⟨b,o2,none⟩) (l.drop q)
  rcases ho with h | rfl
  ·intro i hi
   rw [List.length_drop] at hi
   omega
  ·exact hS.drop q
 | i+3,hi'=>
  exfalso
  simp at hi'
  omega
theorem three_flat (l:List Q_) (d:Q_) (p q:Nat): ([l.take p,[d],l.drop q]:List (List Q_)).flatten=l.take p++d :: l.drop q:=by simp
theorem three_sum {l:List Q_} {d:Q_} (p q:Nat) (hl:l.length<=1048576): (([l.take p,[d],l.drop q]:List (List Q_)).map List.length).sum<=3145728:=by
 simp [List.length_take,List.length_drop]
 omega
theorem concat_three {w0 W:World} (k0:K_ w0 W) {B b o o2 bi c1 c2 p q:Nat} {a:Option Addr} {ca:Nat} {l:List Q_} {d:Q_} (hl:l.length<=1048576) (hS:Nodes w0 (some ⟨b,o,none⟩) l) (hA:Steps w0 a d.steps) (hp:p<=l.length) (ho:l.length=q∨o2=o+q * 3) (hB:B < W.heap.size)
  (h0:W.cell? ⟨B,0,none⟩=some (.slice (some ⟨b,o,none⟩) p c1)) (h1:W.cell? ⟨B,1,none⟩=some (.slice (some ⟨bi,0,none⟩) 1 1)) (h2:W.cell? ⟨B,2,none⟩=some (.slice (some ⟨b,o2,none⟩) (l.length - q) c2))
  (hi: ∀j u,(d.cells a ca)[j]? =some u->W.cell? ⟨bi,j,none⟩=some u) {T:List Q_} (hT:l.take p++d :: l.drop q=T):
  Calls Try.prog 41 #[.slice (some ⟨B,0,none⟩) 3 3] W
   fun e w'=> ∃a' cap' xs,e= .returned (.slice a' T.length cap')∧w'.ownsRow W.heap.size 30 3 (.slice a' T.length cap') T.length xs∧Packed w0 xs T∧K_ W w':=by
 refine (concat_any W w0 B 3 [l.take p,[d],l.drop q] _ _ (by simp) (three_sum p q hl) (rows_three k0 hS hA hp ho hB h0 h1 h2 hi)).mono ?_
 rintro e w' ⟨v,xs,he,hO,hP,k⟩
 rw [three_flat,hT] at hO hP
 obtain ⟨_,a',cap',rfl,_,_⟩:=nodes_of_owned hO (hP.kept (k0.trans k))
 exact ⟨a',cap',xs,he,hO,hP,k⟩
def WithEnd (l:List Q_) (d:Q_) (w0 w w':World) (e:Ending):Prop:=
 ∃a cap xs base,e= .returned (.agg #[.slice a (putIn l d).length cap,.func (.func 39) #[] #[]])∧w.heap.size<=base∧w'.ownsRow base 30 3 (.slice a (putIn l d).length cap) (putIn l d).length xs∧Packed w0 xs (putIn l d)∧K_ w w'
theorem concat_with {w w2:World} (K2:K_ w w2) {b o o2 c1 c2 p q:Nat} {a:Option Addr} {ca:Nat} {l:List Q_} {d:Q_} (hl:l.length<=1048576) (hS:Nodes w (some ⟨b,o,none⟩) l) (hA:Steps w a d.steps) (hp:p<=l.length) (ho:l.length=q∨o2=o+q * 3) {T:List Q_} (hT:T=l.take p++d :: l.drop q):
  Calls Try.prog 41 #[.slice (some ⟨w2.heap.size+1,0,none⟩) 3 3] ((w2.alloc (.cells #[.string d.name,.int .i64 d.cost,.slice a d.steps.length ca] 30)).alloc (.cells #[.slice (some ⟨b,o,none⟩) p c1,.slice (some ⟨w2.heap.size,0,none⟩) 1 1,.slice (some ⟨b,o2,none⟩) (l.length - q) c2] 23)).drew
   fun e w'=> ∃a' cap' xs base,e= .returned (.slice a' T.length cap')∧w2.heap.size<=base∧w'.ownsRow base 30 3 (.slice a' T.length cap') T.length xs∧Packed w xs T∧K_ w2 w':=by
 have k1:K_ w2 ((w2.alloc (.cells #[.string d.name,.int .i64 d.cost,.slice a d.steps.length ca] 30)).alloc (.cells #[.slice (some ⟨b,o,none⟩) p c1,.slice (some ⟨w2.heap.size,0,none⟩) 1 1,.slice (some ⟨b,o2,none⟩) (l.length - q) c2] 23)).drew:= (((K_.refl _).alloc _).alloc _).drew
 have a1:=boxCells3 (w:=w2.alloc (.cells #[.string d.name,.int .i64 d.cost,.slice a d.steps.length ca] 30)) (x:= .slice (some ⟨b,o,none⟩) p c1) (y:= .slice (some ⟨w2.heap.size,0,none⟩) 1 1) (z:= .slice (some ⟨b,o2,none⟩) (l.length - q) c2) (t:=23) ((K_.refl _).drew)
 have a2:=boxCells3 (w:=w2) (x:= .string d.name) (y:= .int .i64 d.cost) (z:= .slice a d.steps.length ca) (t:=30) (((K_.refl _).alloc (.cells #[.slice (some ⟨b,o,none⟩) p c1,.slice (some ⟨w2.heap.size,0,none⟩) 1 1,.slice (some ⟨b,o2,none⟩) (l.length - q) c2] 23)).drew)
 simp only [World.size_alloc] at a1
 refine (concat_three (K2.trans k1) (B:=w2.heap.size+1) (b:=b) (o:=o) (o2:=o2) (bi:=w2.heap.size) (c1:=c1) (c2:=c2) (p:=p) (q:=q) (a:=a) (ca:=ca) (d:=d) hl hS hA hp ho ?_ a1.1 a1.2.1 a1.2.2 ?_ hT.symm).mono ?_
 ·show w2.heap.size+1 < ((w2.alloc _).alloc _).heap.size
  simp
 ·intro j u hu
  match j,hu with
  | 0,hu=> simp [Q_.cells] at hu;subst hu;exact a2.1
  | 1,hu=> simp [Q_.cells] at hu;subst hu;exact a2.2.1
  | 2,hu=> simp [Q_.cells] at hu;subst hu;exact a2.2.2
  | j+3,hu=> simp [Q_.cells] at hu
 ·rintro e w' ⟨a',cap',xs,he,hO,hP,k⟩
  exact ⟨a',cap',xs,_,he,k1.size,hO,hP,k1.trans k⟩
abbrev withW (w:World) (b o n cap:Nat) (d:Q_) (a:Option Addr) (ca:Nat):World:=
 ((w.alloc (.cells #[.slice (some ⟨b,o,none⟩) n cap,.func (.func 39) #[] #[]] 51)).alloc (.cells #[.string d.name,.int .i64 d.cost,.slice a d.steps.length ca] 30)).alloc (.cells #[.slice none 0 0,.nilFunc] 51)
theorem with_any (w0 w:World) (k0:K_ w0 w) (b o:Nat) (cap:Nat) (l:List Q_) (d:Q_) (a:Option Addr) (ca:Nat) (hl:l.length<=1048576) (hcap:l.length<=cap) (hr:Rises l) (hS:Nodes w0 (some ⟨b,o,none⟩) l) (hA:Steps w0 a d.steps):
  Calls Try.prog 20 #[.agg #[.slice (some ⟨b,o,none⟩) l.length cap,.func (.func 39) #[] #[]],.agg #[.string d.name,.int .i64 d.cost,.slice a d.steps.length ca]] w
   fun e w'=> WithEnd l d w0 w w' e:=by
 have K0:K_ w (withW w b o l.length cap d a ca):= (((K_.refl _).alloc _).alloc _).alloc _
 have Qx:Hid (∀w',K_ (withW w b o l.length cap d a ca) w'->(fun w'=> w'.cell? ⟨w.heap.size,0,none⟩=some (.slice (some ⟨b,o,none⟩) l.length cap)∧w'.cell? ⟨w.heap.size,1,none⟩=some (.func (.func 39) #[] #[])∧w'.cell? ⟨w.heap.size+1,0,none⟩=some (.string d.name)∧w'.cell? ⟨w.heap.size+1,1,none⟩=some (.int .i64 d.cost)∧w'.cell? ⟨w.heap.size+1,2,none⟩=some (.slice a d.steps.length ca)) w'):=fun w' kk=> by
  have a1:=boxCells2 (w:=w) (K_.trans (((K_.refl _).alloc _).alloc _) kk)
  have a2:=boxCells3 (w:=w.alloc (.cells #[.slice (some ⟨b,o,none⟩) l.length cap,.func (.func 39) #[] #[]] 51)) (K_.trans ((K_.refl _).alloc _) kk)
  simp only [World.size_alloc] at a2
  exact ⟨a1.1,a1.2,a2.1,a2.2.1,a2.2.2⟩
 have HRo:Hid (Row (withW w b o l.length cap d a ca) (w.heap.size+2) 2):=by have:=Row.made ((w.alloc (.cells #[.slice (some ⟨b,o,none⟩) l.length cap,.func (.func 39) #[] #[]] 51)).alloc (.cells #[.string d.name,.int .i64 d.cost,.slice a d.steps.length ca] 30)) #[.slice none 0 0,.nilFunc] 51;show Row _ _ _;simpa using this
 go_enter Try.func20,Try.ntmps20
 go_wp2
 go_region_held (fun w'=> w'.cell? ⟨w.heap.size,0,none⟩=some (.slice (some ⟨b,o,none⟩) l.length cap)∧w'.cell? ⟨w.heap.size,1,none⟩=some (.func (.func 39) #[] #[])∧w'.cell? ⟨w.heap.size+1,0,none⟩=some (.string d.name)∧w'.cell? ⟨w.heap.size+1,1,none⟩=some (.int .i64 d.cost)∧w'.cell? ⟨w.heap.size+1,2,none⟩=some (.slice a d.steps.length ca)) (exact unhide Qx _ (by repeat (first | apply K_.drew | exact K_.refl _ | assumption))) ((first | (go_at_call 39;refine (nodeName_any _ _ _ _ _ rfl).mono ?_;rintro e w1 ⟨rfl,hk1⟩;have k1:K_ (withW w b o l.length cap d a ca) w1:=K_.trans (by repeat (first | apply K_.drew | exact K_.refl _ | assumption)) hk1) | (go_at_call 40;refine (find_any _ (some ⟨b,o,none⟩) cap l d.name hl hr (hS.kept ((k0.trans K0).trans (by repeat (first | apply K_.drew | exact K_.refl _ | assumption))))).mono ?_;rintro e w2 ⟨hfo,hk2⟩;obtain ⟨p,f,rfl,hp,hf⟩:=hfo;have k2:K_ (withW w b o l.length cap d a ca) w2:=K_.trans (by repeat (first | apply K_.drew | exact K_.refl _ | assumption)) hk2;have HP:=Kz hp;have HF:=Kz hf;clear hp hf hk2)))
 all_goals
  have z2:=k2.size
  simp only [withW,World.size_alloc] at z2
  have K2:=K0.trans k2
  have S2:=Qx.out w2 k2
  have hrow:=HRo.out.kept k2
  obtain ⟨⟨_,x0⟩,g0⟩:=hrow.at (i:=0) (by omega)
  obtain ⟨⟨_,x1⟩,g1⟩:=hrow.at (i:=1) (by omega)
  have HR2:=Kz hrow
  have hple:=HP.out.le
  clear hrow
  have HSO2:Hid (∀w',Xq (w.heap.size+2) (w.heap.size+3) w2 w'->(fun w'=> w'.cell? ⟨w.heap.size,0,none⟩=some (.slice (some ⟨b,o,none⟩) l.length cap)∧w'.cell? ⟨w.heap.size,1,none⟩=some (.func (.func 39) #[] #[])∧w'.cell? ⟨w.heap.size+1,0,none⟩=some (.string d.name)∧w'.cell? ⟨w.heap.size+1,1,none⟩=some (.int .i64 d.cost)∧w'.cell? ⟨w.heap.size+1,2,none⟩=some (.slice a d.steps.length ca)) w'):=fun w' kk=>
   have ks:=kk.same (l2:=w.heap.size) (h2:=w.heap.size+2) (by omega)
   ⟨(ks.cell (Nat.le_refl _) (by omega) (by omega)).trans S2.1,(ks.cell (Nat.le_refl _) (by omega) (by omega)).trans S2.2.1,(ks.cell (by omega) (by omega) (by omega)).trans S2.2.2.1,(ks.cell (by omega) (by omega) (by omega)).trans S2.2.2.2.1,(ks.cell (by omega) (by omega) (by omega)).trans S2.2.2.2.2⟩
  obtain ⟨s1,s2,s3,s4,s5⟩:=S2
  have i1: (p:Int)<=(cap:Int):=by omega
  have i2: (p:Int)<=(l.length:Int):=by omega
  have u0:w.heap.size < w2.heap.size:=by omega
  have u1:w.heap.size+1 < w2.heap.size:=by omega
  have u2:w.heap.size+2 < w2.heap.size:=by omega
  cases f
  ·have hT:=putIn_free hr HP.out (fun h=> by have:=HF.out.2 h;cases this)
   by_cases hce:cap=p
   ·have hlp:l.length=p:=by omega
    have hC:=concat_with (c1:=p) (c2:=0) (o2:=o) (q:=p) (ca:=ca) (k0.trans K2) hl hS hA hple (.inl hlp) hT
    rw [show l.length - p=0 by omega] at hC
    have HC:=Kz hC
    clear hT hC
    go_wp2
    go_region_held (fun w'=> w'.cell? ⟨w.heap.size,0,none⟩=some (.slice (some ⟨b,o,none⟩) l.length cap)∧w'.cell? ⟨w.heap.size,1,none⟩=some (.func (.func 39) #[] #[])∧w'.cell? ⟨w.heap.size+1,0,none⟩=some (.string d.name)∧w'.cell? ⟨w.heap.size+1,1,none⟩=some (.int .i64 d.cost)∧w'.cell? ⟨w.heap.size+1,2,none⟩=some (.slice a d.steps.length ca)) (exact unhide HSO2 _ (by repeat (first | exact Xq.refl _ _ _ | exact Xq.of_kept (by assumption) | apply Xq.drew | (refine Xq.setCell ?_ (by simp) (by simp) _) | apply Xq.alloc))) ((go_at_call 41;refine (unhide HC).mono ?_;rintro e w3 ⟨a',cap',xs,base,rfl,hbase,hO,hP,kk⟩;have HR3:=Kz (HR2.out.kept kk);obtain ⟨⟨_,y0⟩,e0⟩:=HR3.out.at (i:=0) (by omega);obtain ⟨⟨_,y1⟩,e1⟩:=HR3.out.at (i:=1) (by omega);have HO:=Kz hO;have HPk:=Kz hP;clear hO hP))
    all_goals
     go_wp2
     have hR:=World.rangeAt_setCells_same w3 (w.heap.size+2) 0 [.slice a' (putIn l d).length cap',.func (.func 39) #[] #[]] (HR3.out.there (o:=0) (m:=2) (Nat.le_refl _))
     have kf:K_ w ((w3.setCell ⟨w.heap.size+2,0,none⟩ (.slice a' (putIn l d).length cap')).setCell ⟨w.heap.size+2,1,none⟩ (.func (.func 39) #[] #[])):= ((K2.trans kk).setCell (by simp) _).setCell (by simp) _
     have hO2:=owns_set (owns_set HO.out (p:= ⟨w.heap.size+2,0,none⟩) (by simp <;> omega) (.slice a' (putIn l d).length cap')) (p:= ⟨w.heap.size+2,1,none⟩) (by simp <;> omega) (.func (.func 39) #[] #[])
     exact Zk [.slice a' (putIn l d).length cap',.func (.func 39) #[] #[]] _ Try.results20 rfl hR Try.underlying51 rfl Try.sizeSorted rfl ⟨a',cap',xs,base,rfl,by omega,hO2,HPk.out,kf⟩
   ·have HC:=Kz (concat_with (c1:=cap) (c2:=cap - p) (o2:=o+p * 3) (q:=p) (ca:=ca) (k0.trans K2) hl hS hA hple (.inr rfl) hT)
    clear hT
    go_wp2
    go_region_held (fun w'=> w'.cell? ⟨w.heap.size,0,none⟩=some (.slice (some ⟨b,o,none⟩) l.length cap)∧w'.cell? ⟨w.heap.size,1,none⟩=some (.func (.func 39) #[] #[])∧w'.cell? ⟨w.heap.size+1,0,none⟩=some (.string d.name)∧w'.cell? ⟨w.heap.size+1,1,none⟩=some (.int .i64 d.cost)∧w'.cell? ⟨w.heap.size+1,2,none⟩=some (.slice a d.steps.length ca)) (exact unhide HSO2 _ (by repeat (first | exact Xq.refl _ _ _ | exact Xq.of_kept (by assumption) | apply Xq.drew | (refine Xq.setCell ?_ (by simp) (by simp) _) | apply Xq.alloc))) ((go_at_call 41;refine (unhide HC).mono ?_;rintro e w3 ⟨a',cap',xs,base,rfl,hbase,hO,hP,kk⟩;have HR3:=Kz (HR2.out.kept kk);obtain ⟨⟨_,y0⟩,e0⟩:=HR3.out.at (i:=0) (by omega);obtain ⟨⟨_,y1⟩,e1⟩:=HR3.out.at (i:=1) (by omega);have HO:=Kz hO;have HPk:=Kz hP;clear hO hP))
    all_goals
     go_wp2
     have hR:=World.rangeAt_setCells_same w3 (w.heap.size+2) 0 [.slice a' (putIn l d).length cap',.func (.func 39) #[] #[]] (HR3.out.there (o:=0) (m:=2) (Nat.le_refl _))
     have kf:K_ w ((w3.setCell ⟨w.heap.size+2,0,none⟩ (.slice a' (putIn l d).length cap')).setCell ⟨w.heap.size+2,1,none⟩ (.func (.func 39) #[] #[])):= ((K2.trans kk).setCell (by simp) _).setCell (by simp) _
     have hO2:=owns_set (owns_set HO.out (p:= ⟨w.heap.size+2,0,none⟩) (by simp <;> omega) (.slice a' (putIn l d).length cap')) (p:= ⟨w.heap.size+2,1,none⟩) (by simp <;> omega) (.func (.func 39) #[] #[])
     exact Zk [.slice a' (putIn l d).length cap',.func (.func 39) #[] #[]] _ Try.results20 rfl hR Try.underlying51 rfl Try.sizeSorted rfl ⟨a',cap',xs,base,rfl,by omega,hO2,HPk.out,kf⟩
  ·have hpl:=HF.out.1 rfl
   have hpn:=hpl.1
   have hT:=putIn_there hr HP.out hpl.1 hpl.2
   have i3:IntKind.i64.wrap ((p:Int)+1)= (p:Int)+1:=wrap_i64_in (by omega) (by omega)
   have i4: (p:Int)+1<=(cap:Int):=by omega
   have i5: (p:Int)+1<=(l.length:Int):=by omega
   by_cases hce:cap=p+1
   ·have hlp:l.length=p+1:=by omega
    have hC:=concat_with (c1:=p+1) (c2:=0) (o2:=o) (q:=p+1) (ca:=ca) (k0.trans K2) hl hS hA hple (.inl hlp) hT
    rw [show l.length - (p+1)=0 by omega] at hC
    have HC:=Kz hC
    clear hT hpl hC
    go_wp2
    go_region_held (fun w'=> w'.cell? ⟨w.heap.size,0,none⟩=some (.slice (some ⟨b,o,none⟩) l.length cap)∧w'.cell? ⟨w.heap.size,1,none⟩=some (.func (.func 39) #[] #[])∧w'.cell? ⟨w.heap.size+1,0,none⟩=some (.string d.name)∧w'.cell? ⟨w.heap.size+1,1,none⟩=some (.int .i64 d.cost)∧w'.cell? ⟨w.heap.size+1,2,none⟩=some (.slice a d.steps.length ca)) (exact unhide HSO2 _ (by repeat (first | exact Xq.refl _ _ _ | exact Xq.of_kept (by assumption) | apply Xq.drew | (refine Xq.setCell ?_ (by simp) (by simp) _) | apply Xq.alloc))) ((go_at_call 41;refine (unhide HC).mono ?_;rintro e w3 ⟨a',cap',xs,base,rfl,hbase,hO,hP,kk⟩;have HR3:=Kz (HR2.out.kept kk);obtain ⟨⟨_,y0⟩,e0⟩:=HR3.out.at (i:=0) (by omega);obtain ⟨⟨_,y1⟩,e1⟩:=HR3.out.at (i:=1) (by omega);have HO:=Kz hO;have HPk:=Kz hP;clear hO hP))
    all_goals
     go_wp2
     have hR:=World.rangeAt_setCells_same w3 (w.heap.size+2) 0 [.slice a' (putIn l d).length cap',.func (.func 39) #[] #[]] (HR3.out.there (o:=0) (m:=2) (Nat.le_refl _))
     have kf:K_ w ((w3.setCell ⟨w.heap.size+2,0,none⟩ (.slice a' (putIn l d).length cap')).setCell ⟨w.heap.size+2,1,none⟩ (.func (.func 39) #[] #[])):= ((K2.trans kk).setCell (by simp) _).setCell (by simp) _
     have hO2:=owns_set (owns_set HO.out (p:= ⟨w.heap.size+2,0,none⟩) (by simp <;> omega) (.slice a' (putIn l d).length cap')) (p:= ⟨w.heap.size+2,1,none⟩) (by simp <;> omega) (.func (.func 39) #[] #[])
     exact Zk [.slice a' (putIn l d).length cap',.func (.func 39) #[] #[]] _ Try.results20 rfl hR Try.underlying51 rfl Try.sizeSorted rfl ⟨a',cap',xs,base,rfl,by omega,hO2,HPk.out,kf⟩
   ·have HC:=Kz (concat_with (c1:=cap) (c2:=cap - (p+1)) (o2:=o+ (p+1) * 3) (q:=p+1) (ca:=ca) (k0.trans K2) hl hS hA hple (.inr rfl) hT)
    clear hT hpl
    go_wp2
    go_region_held (fun w'=> w'.cell? ⟨w.heap.size,0,none⟩=some (.slice (some ⟨b,o,none⟩) l.length cap)∧w'.cell? ⟨w.heap.size,1,none⟩=some (.func (.func 39) #[] #[])∧w'.cell? ⟨w.heap.size+1,0,none⟩=some (.string d.name)∧w'.cell? ⟨w.heap.size+1,1,none⟩=some (.int .i64 d.cost)∧w'.cell? ⟨w.heap.size+1,2,none⟩=some (.slice a d.steps.length ca)) (exact unhide HSO2 _ (by repeat (first | exact Xq.refl _ _ _ | exact Xq.of_kept (by assumption) | apply Xq.drew | (refine Xq.setCell ?_ (by simp) (by simp) _) | apply Xq.alloc))) ((go_at_call 41;refine (unhide HC).mono ?_;rintro e w3 ⟨a',cap',xs,base,rfl,hbase,hO,hP,kk⟩;have HR3:=Kz (HR2.out.kept kk);obtain ⟨⟨_,y0⟩,e0⟩:=HR3.out.at (i:=0) (by omega);obtain ⟨⟨_,y1⟩,e1⟩:=HR3.out.at (i:=1) (by omega);have HO:=Kz hO;have HPk:=Kz hP;clear hO hP))
    all_goals
     go_wp2
     have hR:=World.rangeAt_setCells_same w3 (w.heap.size+2) 0 [.slice a' (putIn l d).length cap',.func (.func 39) #[] #[]] (HR3.out.there (o:=0) (m:=2) (Nat.le_refl _))
     have kf:K_ w ((w3.setCell ⟨w.heap.size+2,0,none⟩ (.slice a' (putIn l d).length cap')).setCell ⟨w.heap.size+2,1,none⟩ (.func (.func 39) #[] #[])):= ((K2.trans kk).setCell (by simp) _).setCell (by simp) _
     have hO2:=owns_set (owns_set HO.out (p:= ⟨w.heap.size+2,0,none⟩) (by simp <;> omega) (.slice a' (putIn l d).length cap')) (p:= ⟨w.heap.size+2,1,none⟩) (by simp <;> omega) (.func (.func 39) #[] #[])
     exact Zk [.slice a' (putIn l d).length cap',.func (.func 39) #[] #[]] _ Try.results20 rfl hR Try.underlying51 rfl Try.sizeSorted rfl ⟨a',cap',xs,base,rfl,by omega,hO2,HPk.out,kf⟩
