import Derived.Test.YteabdfhkoloimaaKOPut1
import Derived.Test.YteabdfhkoloimaaKOWithN
set_option maxRecDepth 100000
set_option maxHeartbeats 25600000
namespace Go.Proofs.Yteabdfhkoloimaa
open Go.RowKit
def PutEndN (l:List Q_) (d:Q_) (w w':World) (e:Ending):Prop:=
 ∃a cap c r,e= .returned (.tuple #[.agg #[.slice a r.length cap],.int .i64 c])∧PutR l d c r∧NodesIn w' w.heap.size w'.heap.size a r∧K_ w w'∧cap=r.length∧(r=[]->a=none)
theorem PutEndN.none {l:List Q_} {d:Q_} {w w':World} {e:Ending} (c:Int) (he:e= .returned (.tuple #[.agg #[.slice none 0 0],.int .i64 c])) (h:PutR l d c []) (k:K_ w w'):PutEndN l d w w' e:= ⟨Option.none,0,c,[],he,h,.inl rfl,k,rfl,fun _=> rfl⟩
theorem implPutN_any (w:World) (a0:Option Addr) (cap:Nat) (l:List Q_) (d:Q_) (a:Option Addr) (ca:Nat) (hz:NilOr a0 cap l) (hl:l.length<=1048576) (hcap:l.length<=cap) (hf: ∀s∈l,s.Fits) (hs: ∀s∈l,s.Small) (hdf:d.Fits) (hds:d.Small) (hS:Nodes w a0 l) (hA:Steps w a d.steps):
  Calls Try.prog 5 #[.agg #[.slice a0 l.length cap],.agg #[.string d.name,.int .i64 d.cost,.slice a d.steps.length ca]] w fun e w'=> PutEndN l d w w' e:=by
 have hl':l.length<=maxLen:=by unfold maxLen;omega
 go_enter Try.func5,Try.ntmps5
 go_wp2_with fail
 refine (implCheckWeb_any ascSaid _ a0 cap l hl' hf (hS.kept (by repeat (first | apply K_.alloc | exact K_.refl _)))).mono ?_
 rintro e w1 ⟨⟨c,rfl,hc⟩,k1⟩
 have K1:K_ w w1:=K_.trans (by repeat (first | apply K_.alloc | exact K_.refl _)) k1
 have z1:=k1.size
 simp only [World.size_alloc] at z1
 have q0:=boxCell (w:=w) (K_.trans (((K_.refl _).alloc _).alloc _) k1)
 have nn:=boxCells3 (w:=w.alloc (.cells #[.slice a0 l.length cap] 25)) (K_.trans ((K_.refl _).alloc _) k1)
 simp only [World.size_alloc] at nn
 obtain ⟨n0,n1,n2⟩:=nn
 have hrow1:Row w1 (w.heap.size+2) 1:=Row.kept (by have:=Row.made ((w.alloc (.cells #[.slice a0 l.length cap] 25)).alloc (.cells #[.string d.name,.int .i64 d.cost,.slice a d.steps.length ca] 30)) #[.slice none 0 0] 25;simpa using this) k1
 obtain ⟨⟨_,x0⟩,g0⟩:=hrow1.at (i:=0) (by omega)
 have HR1:=Kz hrow1
 have HC:=Kz hc
 clear hrow1 hc k1
 by_cases hc0:c=0
 ·subst hc0
  have hw1:w.heap.size < w1.heap.size:=by omega
  have hw2:w.heap.size+1 < w1.heap.size:=by omega
  have hw3:w.heap.size+2 < w1.heap.size:=by omega
  go_wp2_with fail
  refine (badlyNamed_any _ d a ca hdf).mono ?_
  rintro e w2 ⟨hsay,k2⟩
  have q2:= (k2.cell (o:=0) hw1).trans q0
  have m0:= (k2.cell (o:=0) hw2).trans n0
  have m1:= (k2.cell (o:=1) hw2).trans n1
  have m2:= (k2.cell (o:=2) hw2).trans n2
  have HR2:=Kz (HR1.out.kept k2)
  have K2:=K1.trans k2
  have z2:=k2.size
  obtain ⟨⟨_,y0⟩,e0⟩:=HR2.out.at (i:=0) (by omega)
  clear q0 n0 n1 n2 x0 g0 HR1 K1 k2
  rcases hsay.cases with ⟨rfl,hyes⟩ | ⟨rfl,hno⟩
  ·have HY:=Kz hyes
   clear hyes hsay
   go_wp2
   have hR:=World.rangeAt_setCells_same w2 (w.heap.size+2) 0 [.slice none 0 0] (HR2.out.there (o:=0) (m:=1) (Nat.le_refl _))
   refine bodyPost_ret_cell2 [.slice none 0 0] _ (.int .i64 2) Try.results5 rfl hR Try.underlying25 rfl Try.sizeWeb rfl rfl (PutEndN.none 2 rfl (.inr (.inl ⟨HC.out,.inl HY.out,rfl,rfl⟩)) ?_)
   repeat (first | (refine K_.setCell ?_ (by simp <;> omega) _) | exact K2)
  ·have HY:Hid (NameOk d.name):=Classical.byContradiction hno
   clear hno hsay
   have hv1:w.heap.size < w2.heap.size:=by omega
   have hv2:w.heap.size+1 < w2.heap.size:=by omega
   have hv3:w.heap.size+2 < w2.heap.size:=by omega
   go_wp2_with fail
   refine (badlyMade_any _ d a ca hdf (hA.kept K2)).mono ?_
   rintro e w3 ⟨hsay,k3⟩
   have q3:= (k3.cell (o:=0) hv1).trans q2
   have p0:= (k3.cell (o:=0) hv2).trans m0
   have p1:= (k3.cell (o:=1) hv2).trans m1
   have p2:= (k3.cell (o:=2) hv2).trans m2
   have HR3:=Kz (HR2.out.kept k3)
   have K3:=K2.trans k3
   have z3:=k3.size
   obtain ⟨⟨_,v0⟩,u0⟩:=HR3.out.at (i:=0) (by omega)
   clear q2 m0 m1 m2 y0 e0 HR2 K2 k3
   rcases hsay.cases with ⟨rfl,hyes⟩ | ⟨rfl,hno⟩
   ·have HM:=Kz hyes
    clear hyes hsay
    go_wp2
    have hR:=World.rangeAt_setCells_same w3 (w.heap.size+2) 0 [.slice none 0 0] (HR3.out.there (o:=0) (m:=1) (Nat.le_refl _))
    refine bodyPost_ret_cell2 [.slice none 0 0] _ (.int .i64 2) Try.results5 rfl hR Try.underlying25 rfl Try.sizeWeb rfl rfl (PutEndN.none 2 rfl (.inr (.inl ⟨HC.out,.inr HM.out,rfl,rfl⟩)) ?_)
    repeat (first | (refine K_.setCell ?_ (by simp <;> omega) _) | exact K3)
   ·have HM:Hid (ActionOk ⟨d.cost,d.steps⟩):=Classical.byContradiction hno
    clear hno hsay
    have hu1:w.heap.size < w3.heap.size:=by omega
    have hu2:w.heap.size+1 < w3.heap.size:=by omega
    have hu3:w.heap.size+2 < w3.heap.size:=by omega
    have Qx:Hid (∀w',K_ w3 w'->(fun w'=> w'.cell? ⟨w.heap.size,0,none⟩=some (.slice a0 l.length cap)∧w'.cell? ⟨w.heap.size+1,0,none⟩=some (.string d.name)∧w'.cell? ⟨w.heap.size+1,1,none⟩=some (.int .i64 d.cost)∧w'.cell? ⟨w.heap.size+1,2,none⟩=some (.slice a d.steps.length ca)) w'):=fun w' kk=> ⟨(kk.cell hu1).trans q3,(kk.cell hu2).trans p0,(kk.cell hu2).trans p1,(kk.cell hu2).trans p2⟩
    go_upto_region 5 with fail
    go_cut [6] from 18 to 21 (fun s6 wx=> PutList l d w3 s6 wx)
    case first=>
     go_region_held (fun w'=> w'.cell? ⟨w.heap.size,0,none⟩=some (.slice a0 l.length cap)∧w'.cell? ⟨w.heap.size+1,0,none⟩=some (.string d.name)∧w'.cell? ⟨w.heap.size+1,1,none⟩=some (.int .i64 d.cost)∧w'.cell? ⟨w.heap.size+1,2,none⟩=some (.slice a d.steps.length ca)) (exact unhide Qx _ (by repeat (first | (refine K_.setCell ?_ (by simp <;> omega) _) | (with_reducible exact K_.refl _) | (with_reducible assumption) | apply K_.drew | apply K_.alloc))) ((first | (go_at_call 19;refine (listOf_any _ a0 l.length cap).mono ?_;rintro e w4 ⟨rfl,kk4⟩;have k4:K_ w3 w4:=K_.trans (by repeat (first | (with_reducible exact K_.refl _) | (with_reducible assumption) | apply K_.drew | apply K_.alloc)) kk4;have zz4:=k4.size;(first | (have hrT4:=rowDrawn (t:=51) (c:= #[.slice none 0 0,.nilFunc]) kk4;have HRT4:=Kz hrT4;clear hrT4) | skip)) | (go_at_call 20;refine (withG_any w _ (K3.trans (by repeat (first | (with_reducible exact K_.refl _) | (with_reducible assumption) | apply K_.drew | apply K_.alloc))) a0 cap l d a ca hz hl hcap (rises_of_code HC.out) hS hA).mono ?_;rintro e w5 ⟨a5,c5,xs5,base5,rfl,hb5,hO5,hP5,kk5⟩;have HO5:=Kz hO5;have HP5:=Kz hP5;clear hO5 hP5;have k5:K_ w3 w5:=K_.trans (by repeat (first | (with_reducible exact K_.refl _) | (with_reducible assumption) | apply K_.drew | apply K_.alloc)) kk5;(first | (have hrT:=HRT4.out.kept kk5;obtain ⟨⟨_,t0⟩,f0⟩:=hrT.row.at (i:=0) (by decide);obtain ⟨⟨_,t1⟩,f1⟩:=hrT.row.at (i:=1) (by decide);have HRT:=Kz hrT;clear hrT) | (have hrT:=HRT4.out.keptUn kk5;obtain ⟨⟨_,t0⟩,f0⟩:=hrT.row.at (i:=0) (by decide);obtain ⟨⟨_,t1⟩,f1⟩:=hrT.row.at (i:=1) (by decide);have HRT:=Kz hrT;clear hrT) | (have hrT:=rowAlloc (t:=51) (c:= #[.slice none 0 0,.nilFunc]) kk5;obtain ⟨⟨_,t0⟩,f0⟩:=hrT.row.at (i:=0) (by decide);obtain ⟨⟨_,t1⟩,f1⟩:=hrT.row.at (i:=1) (by decide);have HRT:=Kz hrT;clear hrT) | (have hrT:=rowDrawn (t:=51) (c:= #[.slice none 0 0,.nilFunc]) kk5;obtain ⟨⟨_,t0⟩,f0⟩:=hrT.row.at (i:=0) (by decide);obtain ⟨⟨_,t1⟩,f1⟩:=hrT.row.at (i:=1) (by decide);have HRT:=Kz hrT;clear hrT) | skip))))
     ·go_wp2_with fail
      go_meet
      refine ⟨w5.heap.size,a5,c5,rfl,k5.size,by simp,by simp,by simp, ?_,k5.alloc _⟩
      obtain ⟨_,a9,c9,ev,_,hN⟩:=nodes_of_owned (ownsRow_kept' HO5.out ((K_.refl w5).alloc (.cells #[.slice a5 (putIn l d).length c5,.func (.func 39) #[] #[]] 51))) (HP5.out.kept ((K3.trans k5).alloc _))
      simp only [Value.slice.injEq,true_and] at ev
      obtain ⟨rfl,rfl⟩:=ev
      exact hN
     ·go_wp2_with fail
      go_meet
      have zz5:=k5.size
      have hz5:=HRT.out.lt
      simp only [World.size_alloc] at hb5
      have hR:=World.rangeAt_setCells_same w5 w4.heap.size 0 [.slice a5 (putIn l d).length c5,.func (.func 39) #[] #[]] (HRT.out.row.there (o:=0) (m:=2) (Nat.le_refl _))
      have kf:K_ w3 ((w5.setCell ⟨w4.heap.size,0,none⟩ (.slice a5 (putIn l d).length c5)).setCell ⟨w4.heap.size,1,none⟩ (.func (.func 39) #[] #[])):= (k5.setCell (by simp <;> omega) _).setCell (by simp <;> omega) _
      have hO2:=owns_set (owns_set HO5.out (p:= ⟨w4.heap.size,0,none⟩) (by simp <;> omega) (.slice a5 (putIn l d).length c5)) (p:= ⟨w4.heap.size,1,none⟩) (by simp <;> omega) (.func (.func 39) #[] #[])
      obtain ⟨_,a9,c9,ev,_,hN⟩:=nodes_of_owned hO2 (HP5.out.kept (K3.trans kf))
      simp only [Value.slice.injEq,true_and] at ev
      obtain ⟨rfl,rfl⟩:=ev
      exact ⟨w4.heap.size,a5,c5,rfl,by omega,by simp only [size_setCell];exact HRT.out.lt,hR 0 _ rfl,hR 1 _ rfl,hN,kf⟩
     ·go_wp2_with fail
      go_meet
      have hz5:=HRT.out.lt
      have zz5:=kk5.size
      have zz6:w3.heap.size < w4.heap.size:=HRT4.out.lt
      have hR:=World.rangeAt_setCells_same w5 w3.heap.size 0 [.slice a5 (putIn l d).length c5,.func (.func 39) #[] #[]] (HRT.out.row.there (o:=0) (m:=2) (Nat.le_refl _))
      have kf:K_ w3 ((w5.setCell ⟨w3.heap.size,0,none⟩ (.slice a5 (putIn l d).length c5)).setCell ⟨w3.heap.size,1,none⟩ (.func (.func 39) #[] #[])):= (k5.setCell (by simp <;> omega) _).setCell (by simp <;> omega) _
      have hO2:=owns_set (owns_set HO5.out (p:= ⟨w3.heap.size,0,none⟩) (by simp <;> omega) (.slice a5 (putIn l d).length c5)) (p:= ⟨w3.heap.size,1,none⟩) (by simp <;> omega) (.func (.func 39) #[] #[])
      obtain ⟨_,a9,c9,ev,_,hN⟩:=nodes_of_owned hO2 (HP5.out.kept (K3.trans kf))
      simp only [Value.slice.injEq,true_and] at ev
      obtain ⟨rfl,rfl⟩:=ev
      exact ⟨w3.heap.size,a5,c5,rfl,by omega,by simp only [size_setCell];exact HRT.out.lt,hR 0 _ rfl,hR 1 _ rfl,hN,kf⟩
    case rest=>
     obtain ⟨sb,a5,c5,rfl,hsb,hsl,s0,s1,hN5,k5⟩:=hcut
     have HN5:=Kz hN5
     have HR5:=Kz (HR3.out.kept k5)
     have K5:=K3.trans k5
     have z5:=k5.size
     obtain ⟨⟨_,t0⟩,f0⟩:=HR5.out.at (i:=0) (by omega)
     have HPl:=Kz (putIn_len_le l d (rises_of_code HC.out))
     clear hN5 k5 HR3 K3 v0 u0 q3 p0 p1 p2 Qx
     have hw5:w.heap.size+2 < wc.heap.size:=by omega
     by_cases hlong:60 < (putIn l d).length
     ·have hlong': (60:Int) < ((putIn l d).length:Int):=by omega
      go_wp2
      have hR:=World.rangeAt_setCells_same wc (w.heap.size+2) 0 [.slice none 0 0] (HR5.out.there (o:=0) (m:=1) (Nat.le_refl _))
      refine bodyPost_ret_cell2 [.slice none 0 0] _ (.int .i64 3) Try.results5 rfl hR Try.underlying25 rfl Try.sizeWeb rfl rfl (PutEndN.none 3 rfl (.inr (.inr (.inl ⟨HC.out,HY.out,HM.out,hlong,rfl,rfl⟩))) ?_)
      repeat (first | (refine K_.setCell ?_ (by simp <;> omega) _) | exact K5)
     ·have hlong': ¬(60:Int) < ((putIn l d).length:Int):=by omega
      have hsm: ∀s∈putIn l d,s.Small:=fun s hs'=> by
       rcases putIn_mem hs' with rfl | h
       ·exact hds
       ·exact hs s h
      have HSm:=Kz hsm
      clear hsm
      go_wp2_with fail
      refine (webOfN_in _ a5 c5 (putIn l d) (by omega) HSm.out (HN5.out.kept (by repeat (first | apply K_.alloc | exact K_.refl _)))).mono ?_
      rintro e w6 ⟨a6,rfl,hN6,k6,hz9⟩
      have HR6:=Kz (HR5.out.kept k6)
      have K6:=K5.trans k6
      have z6:=k6.size
      obtain ⟨⟨_,t1⟩,f1⟩:=HR6.out.at (i:=0) (by omega)
      have HN6:=Kz hN6
      clear t0 f0 HR5 hN6 HN5 HSm
      go_wp2
      have hR:=World.rangeAt_setCells_same w6 (w.heap.size+2) 0 [.slice a6 (putIn l d).length (putIn l d).length] (HR6.out.there (o:=0) (m:=1) (Nat.le_refl _))
      refine bodyPost_ret_cell2 [.slice a6 (putIn l d).length (putIn l d).length] _ (.int .i64 0) Try.results5 rfl hR Try.underlying25 rfl Try.sizeWeb rfl rfl ⟨a6,_,0,putIn l d,rfl,.inr (.inr (.inr ⟨HC.out,HY.out,HM.out,by omega,rfl,rfl⟩)),NodesIn.mono (lo:=wc.heap.size) (hi:=w6.heap.size) ?_ (by omega) (by simp), ?_,rfl,hz9⟩
      ·repeat (first | (refine NodesIn.setCell ?_ (by simp <;> omega) _) | exact HN6.out)
      ·repeat (first | (refine K_.setCell ?_ (by simp <;> omega) _) | exact K6)
 ·have hcb: (c == 0)=false:=by simpa using hc0
  go_wp2
  have hR:=World.rangeAt_setCells_same w1 (w.heap.size+2) 0 [.slice none 0 0] (HR1.out.there (o:=0) (m:=1) (Nat.le_refl _))
  refine bodyPost_ret_cell2 [.slice none 0 0] _ (.int .i64 1) Try.results5 rfl hR Try.underlying25 rfl Try.sizeWeb rfl rfl (PutEndN.none 1 rfl (.inl ⟨fun h=> hc0 (HC.out.unique h),rfl,rfl⟩) ?_)
  repeat (first | (refine K_.setCell ?_ (by simp <;> omega) _) | exact K1)
