import Derived.Test.YteabdfhkoloimaaKOConcat
import Derived.Test.YteabdfhkoloimaaKOCopyN
import Derived.Test.YteabdfhkoloimaaKWCheck5
import Derived.Deep.RegionHeld
set_option maxRecDepth 100000
set_option maxHeartbeats 25600000
namespace Go.Proofs.Yteabdfhkoloimaa
open Go.RowKit
theorem bodyPost_ret_cell2 {P:Program} {fn:Func} {R:Ending->World->Prop} {a:Act} {w:World} {p q:Tmp} {ty:TypeId} {b:Nat} (cs:List Value) (d:TypeDesc) (v:Value) (h:fn.results= #[.cell p ty,.tmp q])
  (hp:a.tmps.getD p undef= .pointer (some ⟨b,0,none⟩)) (hr:w.rangeAt b 0 cs) (hu:P.underlying ty=some d) (hd:d.isRow=true) (hi: (P.info? ty).map (·.size)=some cs.length)
  (hq:a.tmps.getD q undef=v) (hdef:a.defers=[]) (hR:R (.returned (.tuple #[.agg cs.toArray,v])) w):bodyPost P fn R .ret a w:=by
 refine bodyPost_ret ?_ hdef hR
 have hp':a.tmps[p]?.getD undef= .pointer (some ⟨b,0,none⟩):=by simpa using hp
 have hq':a.tmps[q]?.getD undef=v:=by simpa using hq
 simp only [results,h]
 simp [hp',hq',asAddr,run_loadVar_mid w b 0 ty cs d hr hu hd hi]
def cutOut (l:List Q_) (p:Nat):List Q_:=l.take p++l.drop (p+1)
def Took (l:List Q_) (key:List UInt8) (w':World) (e:Ending):Prop:=
 (∃a n cap,e= .returned (.tuple #[.agg #[.slice a n cap,.func (.func 39) #[] #[]],.bool false])∧∀j,j < l.length->nameAt l j≠key)∨
 (∃a cap p,e= .returned (.tuple #[.agg #[.slice a (cutOut l p).length cap,.func (.func 39) #[] #[]],.bool true])∧p < l.length∧nameAt l p=key∧Nodes w' a (cutOut l p))
theorem Nodes.take {w:World} {b o:Nat} {l:List Q_} (h:Nodes w (some ⟨b,o,none⟩) l) (p:Nat):Nodes w (some ⟨b,o,none⟩) (l.take p):=by
 intro i hi
 rw [List.length_take] at hi
 obtain ⟨b0,o0,cs,e0,hb,hr,hN⟩:=h i (by omega)
 have e: (l.take p).getD i Q_.zero=l.getD i Q_.zero:=by simp [List.getD,(by omega:i < p)]
 rw [e]
 exact ⟨b0,o0,cs,e0,hb,hr,hN⟩
theorem Nodes.drop {w:World} {b o:Nat} {l:List Q_} (h:Nodes w (some ⟨b,o,none⟩) l) (p:Nat):Nodes w (some ⟨b,o+p * 3,none⟩) (l.drop p):=by
 intro i hi
 rw [List.length_drop] at hi
 obtain ⟨b0,o0,cs,e0,hb,hr,hN⟩:=h (p+i) (by omega)
 simp only [Option.some.injEq,Addr.mk.injEq,and_true] at e0
 obtain ⟨rfl,rfl⟩:=e0
 have e: (l.drop p).getD i Q_.zero=l.getD (p+i) Q_.zero:=by simp [List.getD,List.getElem?_drop]
 rw [e]
 refine ⟨b,o+p * 3,cs,rfl,hb, ?_,hN⟩
 have e2:o+p * 3+i * 3=o+ (p+i) * 3:=by omega
 rw [e2]
 exact hr
theorem news_of {w0 w:World} (k:K_ w0 w) {b o:Nat} {l:List Q_} (hS:Nodes w0 (some ⟨b,o,none⟩) l): ∃news,Packed w0 news l∧∀j u,news[j]? =some u->w.cell? ⟨b,o+j,none⟩=some u:=by
 obtain ⟨news,h1,h2⟩:=packed_of_nodes hS
 refine ⟨news,h1,fun j u hu=> ?_⟩
 have h:=h2 j u hu
 rw [Addr.add_mid] at h
 rw [k.cell (World.block_lt_of_cell? _ _ h)]
 exact h
theorem rows_two {w1 w0:World} (k0:K_ w0 w1) {b o o2 cap c2 p:Nat} {l:List Q_} {t:TypeId} (hS:Nodes w0 (some ⟨b,o,none⟩) l) (hp:p < l.length) (ho:l.length=p+1∨o2=o+ (p+1) * 3):
  Rows2 (w1.alloc (.cells #[.slice (some ⟨b,o,none⟩) p cap,.slice (some ⟨b,o2,none⟩) (l.length - (p+1)) c2] t)).drew w0 w1.heap.size [l.take p,l.drop (p+1)] (fun i=> if i=0 then (b,o) else (b,o2)) (fun i=> if i=0 then cap else c2):=by
 have k1:K_ w0 (w1.alloc (.cells #[.slice (some ⟨b,o,none⟩) p cap,.slice (some ⟨b,o2,none⟩) (l.length - (p+1)) c2] t)).drew:=k0.trans ((K_.refl _).alloc _).drew
 refine ⟨by show w1.heap.size < (w1.alloc _).heap.size;simp,fun i hi=> ?_⟩
 match i,hi with
 | 0,_=>
  refine ⟨?_,news_of k1 (hS.take p)⟩
  show (w1.alloc _).cell? _=_
  simp [List.length_take,Nat.min_eq_left (Nat.le_of_lt hp)]
 | 1,_=>
  refine ⟨?_, ?_⟩
  ·show (w1.alloc _).cell? _=_
   simp
  ·refine news_of (o:=o2) k1 ?_
   show Nodes _ (some ⟨b,o2,none⟩) (l.drop (p+1))
   rcases ho with h | rfl
   ·intro i hi
    rw [List.length_drop] at hi
    omega
   ·exact hS.drop (p+1)
 | i+2,hi=>
  exfalso
  simp at hi
  omega
theorem cut_sum {l:List Q_} (p:Nat) (hl:l.length<=1048576): (([l.take p,l.drop (p+1)]:List (List Q_)).map List.length).sum<=3145728:=by
 simp [List.length_take,List.length_drop]
 omega
theorem cut_flat (l:List Q_) (p:Nat): ([l.take p,l.drop (p+1)]:List (List Q_)).flatten=cutOut l p:=by simp [cutOut]
theorem concat_two {w1 w0:World} (k0:K_ w0 w1) {b o o2 cap c2 p:Nat} {l:List Q_} {t:TypeId} (hl:l.length<=1048576) (hS:Nodes w0 (some ⟨b,o,none⟩) l) (hp:p < l.length) (ho:l.length=p+1∨o2=o+ (p+1) * 3):
  Calls Try.prog 41 #[.slice (some ⟨w1.heap.size,0,none⟩) 2 2] (w1.alloc (.cells #[.slice (some ⟨b,o,none⟩) p cap,.slice (some ⟨b,o2,none⟩) (l.length - (p+1)) c2] t)).drew
   fun e w'=> ∃a' cap' xs base,e= .returned (.slice a' (cutOut l p).length cap')∧w1.heap.size<=base∧w'.ownsRow base 30 3 (.slice a' (cutOut l p).length cap') (cutOut l p).length xs∧Packed w0 xs (cutOut l p)∧K_ w1 w':=by
 have k1:K_ w1 (w1.alloc (.cells #[.slice (some ⟨b,o,none⟩) p cap,.slice (some ⟨b,o2,none⟩) (l.length - (p+1)) c2] t)).drew:= ((K_.refl _).alloc _).drew
 refine (concat_any _ w0 w1.heap.size 2 [l.take p,l.drop (p+1)] _ _ (by simp) (cut_sum p hl) (rows_two k0 hS hp ho)).mono ?_
 rintro e w' ⟨v,xs,he,hO,hP,k⟩
 rw [cut_flat] at hO hP
 obtain ⟨_,a',cap',rfl,_,_⟩:=nodes_of_owned hO (hP.kept ((k0.trans k1).trans k))
 exact ⟨a',cap',xs,_,he,k1.size,hO,hP,k1.trans k⟩
theorem rises_of_code {l:List Q_} (h:WebCode l 0):Rises l:=by
 have hn: ¬SomeFalls l:=by
  rcases h with ⟨_,e⟩ | ⟨_,_,e⟩ | ⟨_,_,_,e⟩ | ⟨_,_,_,_,e⟩ | ⟨_,_,h3,_,_⟩
  ·omega
  ·omega
  ·omega
  ·omega
  ·exact h3
 refine rises_of fun i hi=> ?_
 cases hq:Op.bytesLess (nameAt l i) (nameAt l (i+1))
 ·exact absurd ⟨i,hi,hq⟩ hn
 ·rfl
def DropR (l:List Q_) (name:ByteArray) (c:Int) (r:List Q_):Prop:=
 (¬WebCode l 0∧c=1∧r=[])∨(WebCode l 0∧¬NameOk name∧c=2∧r=[])∨(WebCode l 0∧NameOk name∧(∀j,j < l.length->nameAt l j≠name.toList)∧c=4∧r=[])∨
 (WebCode l 0∧NameOk name∧∃p,p < l.length∧nameAt l p=name.toList∧c=0∧r=cutOut l p)
theorem DropR.unique {l:List Q_} {name:ByteArray} {c c':Int} {r r':List Q_} (h:DropR l name c r) (h':DropR l name c' r'):c=c'∧r=r':=by
 rcases h with ⟨h1,rfl,rfl⟩ | ⟨h1,h2,rfl,rfl⟩ | ⟨h1,h2,h3,rfl,rfl⟩ | ⟨h1,h2,p,h3,h4,rfl,rfl⟩ <;>
  rcases h' with ⟨g1,rfl,rfl⟩ | ⟨g1,g2,rfl,rfl⟩ | ⟨g1,g2,g3,rfl,rfl⟩ | ⟨g1,g2,q,g3,g4,rfl,rfl⟩
 ·exact ⟨rfl,rfl⟩
 ·exact absurd g1 h1
 ·exact absurd g1 h1
 ·exact absurd g1 h1
 ·exact absurd h1 g1
 ·exact ⟨rfl,rfl⟩
 ·exact absurd g2 h2
 ·exact absurd g2 h2
 ·exact absurd h1 g1
 ·exact absurd h2 g2
 ·exact ⟨rfl,rfl⟩
 ·exact absurd g4 (h3 q g3)
 ·exact absurd h1 g1
 ·exact absurd h2 g2
 ·exact absurd h4 (g3 p h3)
 ·have hr:=rises_of_code h1
  have:p=q:=by
   by_cases e:p=q
   ·exact e
   ·rcases Nat.lt_or_gt_of_ne e with hlt | hlt
    ·have:=hr p q hlt g3
     rw [h4,g4,less_irrefl] at this
     cases this
    ·have:=hr q p hlt h3
     rw [h4,g4,less_irrefl] at this
     cases this
  subst this
  exact ⟨rfl,rfl⟩
theorem withoutI_any (w:World) (a0:Option Addr) (cap:Nat) (l:List Q_) (key:ByteArray) (hl:l.length<=1048576) (hcap:l.length<=cap) (hr:Rises l) (hS:Nodes w a0 l):
  Calls Try.prog 31 #[.agg #[.slice a0 l.length cap,.func (.func 39) #[] #[]],.string key] w
   fun e w'=> Took l key.toList w' e∧K_ w w':=by
 go_enter Try.func31,Try.ntmps31
 go_wp2_with fail
 refine (find_any _ a0 cap l key hl hr (hS.kept (by repeat (first | apply K_.alloc | exact K_.refl _)))).mono ?_
 rintro e w1 ⟨hfo,k1⟩
 obtain ⟨p,f,rfl,hp,hf⟩:=hfo
 have K1:K_ w w1:=K_.trans (by repeat (first | apply K_.alloc | exact K_.refl _)) k1
 have z1:=k1.size
 simp only [World.size_alloc] at z1
 have q0:w1.cell? ⟨w.heap.size,0,none⟩=some (.slice a0 l.length cap):=by rw [k1.cell (by simp <;> omega)];simp
 have q1:w1.cell? ⟨w.heap.size,1,none⟩=some (.func (.func 39) #[] #[]):=by rw [k1.cell (by simp <;> omega)];simp
 have hrow1:Row w1 (w.heap.size+1) 2:=Row.kept (by have:=Row.made (w.alloc (.cells #[.slice a0 l.length cap,.func (.func 39) #[] #[]] 51)) #[.slice none 0 0,.nilFunc] 51;simpa using this) k1
 obtain ⟨⟨_,x0⟩,g0⟩:=hrow1.at (i:=0) (by omega)
 obtain ⟨⟨_,x1⟩,g1⟩:=hrow1.at (i:=1) (by omega)
 have HR1:=Kz hrow1
 have HP:=Kz hp
 have HF:=Kz hf
 clear hrow1 hp hf k1
 cases f
 ·go_wp2
  have hR:=World.rangeAt_setCells_same w1 (w.heap.size+1) 0 [.slice a0 l.length cap,.func (.func 39) #[] #[]] (HR1.out.there (o:=0) (m:=2) (Nat.le_refl _))
  refine bodyPost_ret_cell2 [.slice a0 l.length cap,.func (.func 39) #[] #[]] _ (.bool false) Try.results31 rfl hR Try.underlying51 rfl Try.sizeSorted rfl rfl ⟨.inl ⟨_,_,_,rfl,fun j hj e=> ?_⟩, ?_⟩
  ·have:=HP.out.only hr hj e
   subst this
   have:=HF.out.2 ⟨hj,e⟩
   cases this
  ·repeat (first | (refine K_.setCell ?_ (by simp <;> omega) _) | exact K1)
 ·have hpl:=HF.out.1 rfl
  have hpn:=hpl.1
  obtain ⟨b,o,_,ha0,_,_,_⟩:=hS p hpn
  subst ha0
  have Qx:Hid (∀w',Xq (w.heap.size+1) (w.heap.size+2) w1 w'->(fun w'=> w'.cell? ⟨w.heap.size,0,none⟩=some (.slice (some ⟨b,o,none⟩) l.length cap)∧w'.cell? ⟨w.heap.size,1,none⟩=some (.func (.func 39) #[] #[])) w'):=fun w' kk=> have ks:=kk.same (l2:=w.heap.size) (h2:=w.heap.size+1) (by omega);⟨(ks.cell (Nat.le_refl _) (by omega) (by omega)).trans q0,(ks.cell (Nat.le_refl _) (by omega) (by omega)).trans q1⟩
  have i1: (p:Int)<=(cap:Int):=by omega
  have i2: (p:Int)+1<=(l.length:Int):=by omega
  have i3:IntKind.i64.wrap ((p:Int)+1)= (p:Int)+1:=wrap_i64_in (by omega) (by omega)
  have i4: (p:Int)+1<=(cap:Int):=by omega
  by_cases hce:cap=p+1
  ·have hln:l.length=p+1:=by omega
   have hC:=concat_two (c2:=0) (cap:=p+1) (o2:=o) (t:=23) K1 hl hS hpn (.inl hln)
   rw [show l.length - (p+1)=0 by omega] at hC
   have HC:=Kz hC
   clear hC
   go_wp2
   go_region_held (fun w'=> w'.cell? ⟨w.heap.size,0,none⟩=some (.slice (some ⟨b,o,none⟩) l.length cap)∧w'.cell? ⟨w.heap.size,1,none⟩=some (.func (.func 39) #[] #[])) (exact unhide Qx _ (by repeat (first | exact Xq.refl _ _ _ | exact Xq.of_kept (by assumption) | apply Xq.drew | (refine Xq.setCell ?_ (by simp) (by simp) _) | apply Xq.alloc))) ((go_at_call 41;refine (unhide HC).mono ?_;rintro e w2 ⟨a',cap',xs,base,rfl,hbase,hO,hP,kk⟩;have HR2:=Kz (HR1.out.kept kk);obtain ⟨⟨_,y0⟩,e0⟩:=HR2.out.at (i:=0) (by omega);obtain ⟨⟨_,y1⟩,e1⟩:=HR2.out.at (i:=1) (by omega);have HO:=Kz hO;have HPk:=Kz hP;clear hO hP))
   all_goals
    go_wp2
    have hR:=World.rangeAt_setCells_same w2 (w.heap.size+1) 0 [.slice a' (cutOut l p).length cap',.func (.func 39) #[] #[]] (HR2.out.there (o:=0) (m:=2) (Nat.le_refl _))
    have kf:K_ w ((w2.setCell ⟨w.heap.size+1,0,none⟩ (.slice a' (cutOut l p).length cap')).setCell ⟨w.heap.size+1,1,none⟩ (.func (.func 39) #[] #[])):= ((K1.trans kk).setCell (by simp) _).setCell (by simp) _
    have hO2:=owns_set (owns_set HO.out (p:= ⟨w.heap.size+1,0,none⟩) (by simp <;> omega) (.slice a' (cutOut l p).length cap')) (p:= ⟨w.heap.size+1,1,none⟩) (by simp <;> omega) (.func (.func 39) #[] #[])
    obtain ⟨_,a2,cap2,ev,_,hN⟩:=nodes_of_owned hO2 (HPk.out.kept kf)
    simp only [Value.slice.injEq,true_and] at ev
    obtain ⟨rfl,rfl⟩:=ev
    exact bodyPost_ret_cell2 [.slice a' (cutOut l p).length cap',.func (.func 39) #[] #[]] _ (.bool true) Try.results31 rfl hR Try.underlying51 rfl Try.sizeSorted rfl rfl ⟨.inr ⟨a',cap',p,rfl,hpn,hpl.2,hN⟩,kf⟩
  ·have HC:=Kz (concat_two (c2:=cap - (p+1)) (cap:=cap) (o2:=o+ (p+1) * 3) (t:=23) K1 hl hS hpn (.inr rfl))
   go_wp2
   go_region_held (fun w'=> w'.cell? ⟨w.heap.size,0,none⟩=some (.slice (some ⟨b,o,none⟩) l.length cap)∧w'.cell? ⟨w.heap.size,1,none⟩=some (.func (.func 39) #[] #[])) (exact unhide Qx _ (by repeat (first | exact Xq.refl _ _ _ | exact Xq.of_kept (by assumption) | apply Xq.drew | (refine Xq.setCell ?_ (by simp) (by simp) _) | apply Xq.alloc))) ((go_at_call 41;refine (unhide HC).mono ?_;rintro e w2 ⟨a',cap',xs,base,rfl,hbase,hO,hP,kk⟩;have HR2:=Kz (HR1.out.kept kk);obtain ⟨⟨_,y0⟩,e0⟩:=HR2.out.at (i:=0) (by omega);obtain ⟨⟨_,y1⟩,e1⟩:=HR2.out.at (i:=1) (by omega);have HO:=Kz hO;have HPk:=Kz hP;clear hO hP))
   all_goals
    go_wp2
    have hR:=World.rangeAt_setCells_same w2 (w.heap.size+1) 0 [.slice a' (cutOut l p).length cap',.func (.func 39) #[] #[]] (HR2.out.there (o:=0) (m:=2) (Nat.le_refl _))
    have kf:K_ w ((w2.setCell ⟨w.heap.size+1,0,none⟩ (.slice a' (cutOut l p).length cap')).setCell ⟨w.heap.size+1,1,none⟩ (.func (.func 39) #[] #[])):= ((K1.trans kk).setCell (by simp) _).setCell (by simp) _
    have hO2:=owns_set (owns_set HO.out (p:= ⟨w.heap.size+1,0,none⟩) (by simp <;> omega) (.slice a' (cutOut l p).length cap')) (p:= ⟨w.heap.size+1,1,none⟩) (by simp <;> omega) (.func (.func 39) #[] #[])
    obtain ⟨_,a2,cap2,ev,_,hN⟩:=nodes_of_owned hO2 (HPk.out.kept kf)
    simp only [Value.slice.injEq,true_and] at ev
    obtain ⟨rfl,rfl⟩:=ev
    exact bodyPost_ret_cell2 [.slice a' (cutOut l p).length cap',.func (.func 39) #[] #[]] _ (.bool true) Try.results31 rfl hR Try.underlying51 rfl Try.sizeSorted rfl rfl ⟨.inr ⟨a',cap',p,rfl,hpn,hpl.2,hN⟩,kf⟩
def DropEndN (l:List Q_) (name:ByteArray) (w w':World) (e:Ending):Prop:=
 ∃a cap c r,e= .returned (.tuple #[.agg #[.slice a r.length cap],.int .i64 c])∧DropR l name c r∧NodesIn w' w.heap.size w'.heap.size a r∧K_ w w'∧cap=r.length∧(r=[]->a=none)
theorem DropEndN.none {l:List Q_} {name:ByteArray} {w w':World} {e:Ending} (c:Int) (he:e= .returned (.tuple #[.agg #[.slice none 0 0],.int .i64 c])) (h:DropR l name c []) (k:K_ w w'):DropEndN l name w w' e:= ⟨Option.none,0,c,[],he,h,.inl rfl,k,rfl,fun _=> rfl⟩
theorem implDropN_any (w:World) (a0:Option Addr) (cap:Nat) (l:List Q_) (name:ByteArray) (hn:name.size<=maxLen) (hl:l.length<=1048576) (hcap:l.length<=cap) (hf: ∀s∈l,s.Fits) (hs: ∀s∈l,s.Small) (hS:Nodes w a0 l):
  Calls Try.prog 9 #[.agg #[.slice a0 l.length cap],.string name] w fun e w'=> DropEndN l name w w' e:=by
 have hl':l.length<=maxLen:=by unfold maxLen;omega
 go_enter Try.func9,Try.ntmps9
 go_wp2_with fail
 refine (implCheckWeb_any ascSaid _ a0 cap l hl' hf (hS.kept (by repeat (first | apply K_.alloc | exact K_.refl _)))).mono ?_
 rintro e w1 ⟨⟨c,rfl,hc⟩,k1⟩
 have K1:K_ w w1:=K_.trans (by repeat (first | apply K_.alloc | exact K_.refl _)) k1
 have z1:=k1.size
 simp only [World.size_alloc] at z1
 have q0:w1.cell? ⟨w.heap.size,0,none⟩=some (.slice a0 l.length cap):=by rw [k1.cell (by simp <;> omega)];simp
 have hrow1:Row w1 (w.heap.size+1) 1:=Row.kept (by have:=Row.made (w.alloc (.cells #[.slice a0 l.length cap] 25)) #[.slice none 0 0] 25;simpa using this) k1
 obtain ⟨⟨_,x0⟩,g0⟩:=hrow1.at (i:=0) (by omega)
 have HR1:=Kz hrow1
 have HC:=Kz hc
 clear hrow1 hc k1
 by_cases hc0:c=0
 ·subst hc0
  have hw1:w.heap.size < w1.heap.size:=by omega
  have hw2:w.heap.size+1 < w1.heap.size:=by omega
  go_wp2_with fail
  refine (validName_any _ name hn).mono ?_
  rintro e w2 ⟨hsay,k2⟩
  have q2:= (k2.cell (o:=0) hw1).trans q0
  have HR2:=Kz (HR1.out.kept k2)
  have K2:=K1.trans k2
  have z2:=k2.size
  obtain ⟨⟨_,y0⟩,e0⟩:=HR2.out.at (i:=0) (by omega)
  clear q0 x0 g0 HR1 K1 k2
  rcases hsay.cases with ⟨rfl,hyes⟩ | ⟨rfl,hno⟩
  ·have HY:=Kz hyes
   clear hyes hsay
   go_wp2_with fail
   refine (listOf_any _ a0 l.length cap).mono ?_
   rintro e w3 ⟨rfl,k3⟩
   have K3:=K2.trans k3
   go_wp2_with fail
   refine (withoutI_any _ a0 cap l name hl hcap (rises_of_code HC.out) (hS.kept K3)).mono ?_
   rintro e w4 ⟨htook,k4⟩
   have k24:=k3.trans k4
   have K4:=K3.trans k4
   have HR4:=Kz (HR2.out.kept k24)
   have z4:=k24.size
   obtain ⟨⟨_,v0⟩,u0⟩:=HR4.out.at (i:=0) (by omega)
   clear q2 y0 e0 HR2 K2 K3 k3 k4 k24
   rcases htook with ⟨a,n,cap',rfl,hnone⟩ | ⟨a,cap',p,rfl,hp,hpn,hN⟩
   ·have HN:=Kz hnone
    clear hnone
    have hz4:w.heap.size+1 < w4.heap.size:=by omega
    go_wp2
    have hR0:=World.rangeAt_setCells_same w4 (w.heap.size+1) 0 [.slice none 0 0] (HR4.out.there (o:=0) (m:=1) (Nat.le_refl _))
    have hR: ((w4.setCell ⟨w.heap.size+1,0,none⟩ (.slice none 0 0)).alloc (.cells #[.slice a n cap',.func (.func 39) #[] #[]] 51)).rangeAt (w.heap.size+1) 0 [.slice none 0 0]:=K_.range ((K_.refl _).alloc _) (by rw [size_setCell];omega) hR0
    refine bodyPost_ret_cell2 [.slice none 0 0] _ (.int .i64 4) Try.results9 rfl hR Try.underlying25 rfl Try.sizeWeb rfl rfl (DropEndN.none 4 rfl (.inr (.inr (.inl ⟨HC.out,HY.out,HN.out,rfl,rfl⟩))) ?_)
    exact (K4.setCell (by simp) _).alloc _
   ·have HP:=Kz (And.intro hp hpn)
    have hlen: (cutOut l p).length<=1048576:=by unfold cutOut;rw [List.length_append,List.length_take,List.length_drop];omega
    have hsm: ∀s∈cutOut l p,s.Small:=fun s hs'=> by
     rcases List.mem_append.1 hs' with h | h
     ·exact hs s (List.mem_of_mem_take h)
     ·exact hs s (List.mem_of_mem_drop h)
    have HSm:=Kz hsm
    have HN:=Kz hN
    clear hp hpn hN hsm
    go_wp2_with fail
    refine (webOfN_in _ a cap' (cutOut l p) hlen HSm.out (HN.out.kept (by repeat (first | apply K_.alloc | exact K_.refl _)))).mono ?_
    rintro e w5 ⟨a5,rfl,hN5,k5,hz5⟩
    have k45:K_ w4 w5:=K_.trans (by repeat (first | apply K_.alloc | exact K_.refl _)) k5
    have z5:=k5.size
    simp only [World.size_alloc] at z5 hN5
    have HR5:=Kz (HR4.out.kept k45)
    have K5:=K4.trans k45
    obtain ⟨⟨_,t0⟩,s0⟩:=HR5.out.at (i:=0) (by omega)
    have HN5:=Kz hN5
    clear v0 u0 HR4 K4 k45 k5 hN5 HN HSm
    go_wp2
    have hR:=World.rangeAt_setCells_same w5 (w.heap.size+1) 0 [.slice a5 (cutOut l p).length (cutOut l p).length] (HR5.out.there (o:=0) (m:=1) (Nat.le_refl _))
    refine bodyPost_ret_cell2 [.slice a5 (cutOut l p).length (cutOut l p).length] _ (.int .i64 0) Try.results9 rfl hR Try.underlying25 rfl Try.sizeWeb rfl rfl ⟨a5,_,0,cutOut l p,rfl,.inr (.inr (.inr ⟨HC.out,HY.out,p,HP.out.1,HP.out.2,rfl,rfl⟩)),NodesIn.mono (lo:=w4.heap.size+1) (hi:=w5.heap.size) ?_ (by omega) (by simp), ?_,rfl,hz5⟩
    ·repeat (first | (refine NodesIn.setCell ?_ (by simp <;> omega) _) | exact HN5.out)
    ·repeat (first | (refine K_.setCell ?_ (by simp <;> omega) _) | exact K5)
  ·have HY:=Kz hno
   clear hno hsay
   go_wp2
   have hR:=World.rangeAt_setCells_same w2 (w.heap.size+1) 0 [.slice none 0 0] (HR2.out.there (o:=0) (m:=1) (Nat.le_refl _))
   refine bodyPost_ret_cell2 [.slice none 0 0] _ (.int .i64 2) Try.results9 rfl hR Try.underlying25 rfl Try.sizeWeb rfl rfl (DropEndN.none 2 rfl (.inr (.inl ⟨HC.out,HY.out,rfl,rfl⟩)) ?_)
   repeat (first | (refine K_.setCell ?_ (by simp <;> omega) _) | exact K2)
 ·have hcb: (c == 0)=false:=by simpa using hc0
  go_wp2
  have hR:=World.rangeAt_setCells_same w1 (w.heap.size+1) 0 [.slice none 0 0] (HR1.out.there (o:=0) (m:=1) (Nat.le_refl _))
  refine bodyPost_ret_cell2 [.slice none 0 0] _ (.int .i64 1) Try.results9 rfl hR Try.underlying25 rfl Try.sizeWeb rfl rfl (DropEndN.none 1 rfl (.inl ⟨fun h=> hc0 (HC.out.unique h),rfl,rfl⟩) ?_)
  repeat (first | (refine K_.setCell ?_ (by simp <;> omega) _) | exact K1)
