import Derived.Test.YteabdfhkoloimaaKOMark2
import Derived.Test.YteabdfhkoloimaaKOOrder
import Derived.Test.YteabdfhkoloimaaProg
import Derived.Deep.LoopGhost
import Derived.Deep.CutRange
import Derived.Deep.RegionLaw
set_option maxRecDepth 100000
set_option maxHeartbeats 25600000
namespace Go.Proofs.Yteabdfhkoloimaa
open Go.RowKit
theorem wTexts_yes (w:World) (a a':Option Addr) (cap cap':Nat) (l:List ByteArray) (hl:l.length<=1048576) (hS:Strs w a l) (hS':Strs w a' l):
  Calls Try.prog 46 #[.slice a l.length cap,.slice a' l.length cap'] w fun e w'=> e= .returned (.bool true)∧K_ w w':=by
 go_enter Try.func46,Try.ntmps46
 go_wp2
 go_loopw [5] (fun i wr=> ∃k:Nat,k<=l.length∧i= .int .i64 k∧K_ w wr) (fun i _=> l.length - (intOf i).toNat)
 case atStart=> exact ⟨0,Nat.zero_le _,rfl,K_.refl _⟩
 case round=>
  obtain ⟨k,hk,rfl,hw⟩:=hrel
  by_cases hlt:k < l.length
  ·obtain ⟨b,o,rfl,hb,hc⟩:=hS.kept hw k hlt
   obtain ⟨b',o',rfl,hb',hc'⟩:=hS'.kept hw k hlt
   generalize l.getD k ByteArray.empty=c at *
   have hki: (k:Int) < (l.length:Int):=by omega
   go_wp2
   go_region
   all_goals
    go_wp2
    go_roundw
    case rel=> exact ⟨k+1,by omega,by go_num,by repeat (first | assumption | apply K_.drew)⟩
    case measure=> simp [intOf];omega
  ·have hki: ¬(k:Int) < (l.length:Int):=by omega
   go_wp2
   go_ret
   exact ⟨rfl,hw⟩
theorem wAction_yes (w:World) (cost:Int) (a a':Option Addr) (cap cap':Nat) (l:List Xz) (hl:l.length<=1048576) (hs: ∀s∈l,s.asks.length<=1048576∧s.cases.length<=1048576) (hS:Steps w a l) (hS':Steps w a' l):
  Calls Try.prog 27 #[.agg #[.int .i64 cost,.slice a l.length cap],.agg #[.int .i64 cost,.slice a' l.length cap']] w fun e w'=> e= .returned (.bool true)∧K_ w w':=by
 have k0:K_ w ((w.alloc (.cells #[.int .i64 cost,.slice a l.length cap] 28)).alloc (.cells #[.int .i64 cost,.slice a' l.length cap'] 28)):= ((K_.refl _).alloc _).alloc _
 go_enter Try.func27,Try.ntmps27
 go_wp2
 go_loopw [5] (fun i wr=> ∃k:Nat,k<=l.length∧i= .int .i64 k∧K_ w wr∧wr.cell? ⟨w.heap.size,1,none⟩=some (.slice a l.length cap)∧wr.cell? ⟨w.heap.size+1,1,none⟩=some (.slice a' l.length cap')∧w.heap.size+1 < wr.heap.size) (fun i _=> l.length - (intOf i).toNat)
 case atStart=> exact ⟨0,Nat.zero_le _,rfl,k0,by simp,by simp,by simp⟩
 case round=>
  obtain ⟨k,hk,rfl,hw,p0,p1,z1⟩:=hrel
  have z0:w.heap.size < wr.heap.size:=by omega
  by_cases hlt:k < l.length
  ·have hki: (k:Int) < (l.length:Int):=by omega
   obtain ⟨b,o,cs,rfl,hb,hc,aa,ca,ac,cc,rfl,hA,hC,_⟩:=hS.kept hw k hlt
   obtain ⟨b',o',cs',rfl,hb',hc',aa',ca',ac',cc',rfl,hA',hC',_⟩:=hS'.kept hw k hlt
   have hsz:=hs (l.getD k Xz.zero) (by simp [List.getD,hlt])
   obtain ⟨s,hsd⟩: ∃s,s=l.getD k Xz.zero:= ⟨_,rfl⟩
   rw [<-hsd] at hc hc' hA hA' hC hC' hsz
   clear hsd
   have c0:=hc 0 _ rfl
   have c1:=hc 1 _ rfl
   have c2:=hc 2 _ rfl
   have c3:=hc 3 _ rfl
   have c4:=hc 4 _ rfl
   have c5:=hc 5 _ rfl
   have c6:=hc 6 _ rfl
   have c7:=hc 7 _ rfl
   have d0:=hc' 0 _ rfl
   have d1:=hc' 1 _ rfl
   have d2:=hc' 2 _ rfl
   have d3:=hc' 3 _ rfl
   have d4:=hc' 4 _ rfl
   have d5:=hc' 5 _ rfl
   have d6:=hc' 6 _ rfl
   have d7:=hc' 7 _ rfl
   rw [Nat.add_zero] at c0 d0
   have HA:=Kz hA
   have HA':=Kz hA'
   have HC:=Kz hC
   have HC':=Kz hC'
   clear hc hc' hA hA' hC hC'
   obtain ⟨W2,hW2⟩: ∃W2,W2= (wr.alloc (.cells #[.slice aa s.asks.length ca,.int .i64 s.on,.slice ac s.cases.length cc,.int .i64 s.els,.int .i64 s.fall,.bool s.fin,.bool s.bad,.string s.give] 68)).alloc (.cells #[.slice aa' s.asks.length ca',.int .i64 s.on,.slice ac' s.cases.length cc',.int .i64 s.els,.int .i64 s.fall,.bool s.fin,.bool s.bad,.string s.give] 68):= ⟨_,rfl⟩
   have K2:K_ wr W2:=by rw [hW2];exact ((K_.refl _).alloc _).alloc _
   have hX:=Zx wr #[.slice aa s.asks.length ca,.int .i64 s.on,.slice ac s.cases.length cc,.int .i64 s.els,.int .i64 s.fall,.bool s.fin,.bool s.bad,.string s.give] 68
   have hY:=Zx (wr.alloc (.cells #[.slice aa s.asks.length ca,.int .i64 s.on,.slice ac s.cases.length cc,.int .i64 s.els,.int .i64 s.fall,.bool s.fin,.bool s.bad,.string s.give] 68)) #[.slice aa' s.asks.length ca',.int .i64 s.on,.slice ac' s.cases.length cc',.int .i64 s.els,.int .i64 s.fall,.bool s.fin,.bool s.bad,.string s.give] 68
   have hX2:=K_.range (w':=W2) (by rw [hW2];exact (K_.refl _).alloc _) (by simp) hX
   rw [<-hW2,World.size_alloc] at hY
   have zy:wr.heap.size+1 < W2.heap.size:=by rw [hW2];simp
   go_upto_region 8 with fail
   rw [<-hW2]
   have HK2:=Kz K2
   have x0:=hX2 0 _ rfl
   have x1:=hX2 1 _ rfl
   have x2:=hX2 2 _ rfl
   have x3:=hX2 3 _ rfl
   have x4:=hX2 4 _ rfl
   have x5:=hX2 5 _ rfl
   have x6:=hX2 6 _ rfl
   have x7:=hX2 7 _ rfl
   have y0:=hY 0 _ rfl
   have y1:=hY 1 _ rfl
   have y2:=hY 2 _ rfl
   have y3:=hY 3 _ rfl
   have y4:=hY 4 _ rfl
   have y5:=hY 5 _ rfl
   have y6:=hY 6 _ rfl
   have y7:=hY 7 _ rfl
   simp only [Nat.zero_add] at x0 x1 x2 x3 x4 x5 x6 x7 y0 y1 y2 y3 y4 y5 y6 y7
   have zx:wr.heap.size < W2.heap.size:=by omega
   clear hW2 K2 hX hY hX2 c0 c1 c2 c3 c4 c5 c6 c7 d0 d1 d2 d3 d4 d5 d6 d7
   go_wp2_with fail
   refine (wTexts_yes _ aa aa' ca ca' s.asks hsz.1 (HA.out.kept HK2.out) (HA'.out.kept HK2.out)).mono ?_
   rintro e w3 ⟨rfl,k3⟩
   have HK3:=Kz (HK2.out.trans k3)
   have r:=k3.rules
   have u1:= (k3.cell (o:=1) zx).trans x1
   have u2:= (k3.cell (o:=2) zx).trans x2
   have u3:= (k3.cell (o:=3) zx).trans x3
   have u4:= (k3.cell (o:=4) zx).trans x4
   have u5:= (k3.cell (o:=5) zx).trans x5
   have u6:= (k3.cell (o:=6) zx).trans x6
   have u7:= (k3.cell (o:=7) zx).trans x7
   have v1:= (k3.cell (o:=1) zy).trans y1
   have v2:= (k3.cell (o:=2) zy).trans y2
   have v3:= (k3.cell (o:=3) zy).trans y3
   have v4:= (k3.cell (o:=4) zy).trans y4
   have v5:= (k3.cell (o:=5) zy).trans y5
   have v6:= (k3.cell (o:=6) zy).trans y6
   have v7:= (k3.cell (o:=7) zy).trans y7
   have zx3:=Nat.lt_of_lt_of_le zx k3.size
   have zy3:=Nat.lt_of_lt_of_le zy k3.size
   clear r k3 x0 x1 x2 x3 x4 x5 x6 x7 y0 y1 y2 y3 y4 y5 y6 y7 HA HA'
   obtain ⟨kO,rfl⟩: ∃kO,kO=k:= ⟨_,rfl⟩
   obtain ⟨wO,rfl⟩: ∃wO,wO=wr:= ⟨_,rfl⟩
   go_wp2
   go_loopw [8] (fun i wr=> ∃j:Nat,j<=s.cases.length∧i= .int .i64 j∧K_ w3 wr) (fun i _=> s.cases.length - (intOf i).toNat)
   case atStart=> exact ⟨0,Nat.zero_le _,rfl,K_.refl _⟩
   case round=>
    obtain ⟨j,hj,rfl,hw3⟩:=hrel
    have t2:= (hw3.cell (o:=2) zx3).trans u2
    have s2:= (hw3.cell (o:=2) zy3).trans v2
    have zx4:=Nat.lt_of_lt_of_le zx3 hw3.size
    have zy4:=Nat.lt_of_lt_of_le zy3 hw3.size
    by_cases hjl:j < s.cases.length
    ·have hji: (j:Int) < (s.cases.length:Int):=by omega
     obtain ⟨b2,o2,rfl,hb2,hc2⟩:= ((HC.out.kept HK3.out).kept hw3) j hjl
     obtain ⟨b3,o3,rfl,hb3,hc3⟩:= ((HC'.out.kept HK3.out).kept hw3) j hjl
     generalize s.cases.getD j CaseD.zero=q at *
     have c0:=hc2 0 _ rfl
     have c1:=hc2 1 _ rfl
     have d0:=hc3 0 _ rfl
     have d1:=hc3 1 _ rfl
     simp only [Nat.add_zero] at c0 d0
     clear hc2 hc3
     go_wp2
     go_region
     all_goals
      go_wp2
      go_roundw
      case rel=> exact ⟨j+1,by omega,by go_num,by repeat (first | assumption | apply K_.drew)⟩
      case measure=> simp [intOf];omega
    ·have hji: ¬(j:Int) < (s.cases.length:Int):=by omega
     go_wp2
     go_roundw
     case rel=>
      have KK:=HK3.out.trans hw3
      exact ⟨kO+1,by omega,by go_num,hw.trans KK,(KK.cell z0).trans p0,(KK.cell z1).trans p1,Nat.lt_of_lt_of_le z1 KK.size⟩
     case measure=> simp [intOf];omega
  ·have hki: ¬(k:Int) < (l.length:Int):=by omega
   go_wp2
   go_ret
   exact ⟨rfl,hw⟩
theorem wWeb_yes (w:World) (a a':Option Addr) (cap cap':Nat) (l:List Q_) (hl:l.length<=1048576) (hs: ∀d∈l,d.steps.length<=1048576∧∀s∈d.steps,s.asks.length<=1048576∧s.cases.length<=1048576) (hS:Nodes w a l) (hS':Nodes w a' l):
  Calls Try.prog 7 #[.agg #[.slice a l.length cap],.agg #[.slice a' l.length cap']] w fun e w'=> e= .returned (.bool true)∧K_ w w':=by
 have k0:K_ w ((w.alloc (.cells #[.slice a l.length cap] 25)).alloc (.cells #[.slice a' l.length cap'] 25)):= ((K_.refl _).alloc _).alloc _
 go_enter Try.func7,Try.ntmps7
 go_wp2
 go_loopw [5] (fun i wr=> ∃k:Nat,k<=l.length∧i= .int .i64 k∧K_ w wr∧wr.cell? ⟨w.heap.size,0,none⟩=some (.slice a l.length cap)∧wr.cell? ⟨w.heap.size+1,0,none⟩=some (.slice a' l.length cap')∧w.heap.size+1 < wr.heap.size) (fun i _=> l.length - (intOf i).toNat)
 case atStart=> exact ⟨0,Nat.zero_le _,rfl,k0,by simp,by simp,by simp⟩
 case round=>
  obtain ⟨k,hk,rfl,hw,p0,p1,z1⟩:=hrel
  have z0:w.heap.size < wr.heap.size:=by omega
  by_cases hlt:k < l.length
  ·have hki: (k:Int) < (l.length:Int):=by omega
   obtain ⟨b,o,cs,rfl,hb,hc,sa,sc,rfl,hA⟩:=hS.kept hw k hlt
   obtain ⟨b',o',cs',rfl,hb',hc',sa',sc',rfl,hA'⟩:=hS'.kept hw k hlt
   have hsd:=hs (l.getD k Q_.zero) (by simp [List.getD,hlt])
   obtain ⟨d,hdd⟩: ∃d,d=l.getD k Q_.zero:= ⟨_,rfl⟩
   rw [<-hdd] at hc hc' hA hA' hsd
   clear hdd
   have c0:=hc 0 _ rfl
   have c1:=hc 1 _ rfl
   have c2:=hc 2 _ rfl
   have d0:=hc' 0 _ rfl
   have d1:=hc' 1 _ rfl
   have d2:=hc' 2 _ rfl
   rw [Nat.add_zero] at c0 d0
   have HA:=Kz hA
   have HA':=Kz hA'
   clear hc hc' hA hA'
   go_upto_region 6 with fail
   refine Qj.region (by kernel_rfl) (fun (v:World)=> v.cell? ⟨w.heap.size,0,none⟩=some (.slice (some ⟨b,o,none⟩) l.length cap)∧v.cell? ⟨w.heap.size+1,0,none⟩=some (.slice (some ⟨b',o',none⟩) l.length cap')∧v.cell? ⟨b,o+k * 3,none⟩=some (.string d.name)∧v.cell? ⟨b,o+k * 3+1,none⟩=some (.int .i64 d.cost)∧v.cell? ⟨b,o+k * 3+2,none⟩=some (.slice sa d.steps.length sc)∧v.cell? ⟨b',o'+k * 3,none⟩=some (.string d.name)∧v.cell? ⟨b',o'+k * 3+1,none⟩=some (.int .i64 d.cost)∧v.cell? ⟨b',o'+k * 3+2,none⟩=some (.slice sa' d.steps.length sc')) 28 ⟨p0,p1,c0,c1,c2,d0,d1,d2⟩ (fun Qk=> ?_)
   refine Qj.tk 0 Qk ?_
   refine Qj.tk 1 Qk ?_
   refine Qj.tk 2 Qk ?_
   refine Qj.tk 3 Qk ?_
   refine Qj.tk 4 Qk ?_
   refine Qj.tk 5 Qk ?_
   refine Qj.tk 6 Qk ?_
   refine Qj.tk 7 Qk ?_
   refine Qj.tk 8 Qk ?_
   refine Qj.tk 9 Qk ?_
   refine Qj.tk 10 Qk ?_
   refine Qj.tk 11 Qk ?_
   refine Qj.tk 12 Qk ?_
   refine Qj.tk 13 Qk ?_
   refine Qj.tk 14 Qk ?_
   refine Qj.tk 15 Qk ?_
   refine Qj.tk 16 Qk ?_
   refine Qj.tk 17 Qk ?_
   refine Qj.tk 18 Qk ?_
   refine Qj.tk 19 Qk ?_
   refine Qj.tk 20 Qk ?_
   refine Qj.tk 21 Qk ?_
   refine Qj.tk 22 Qk ?_
   refine Qj.tk 23 Qk ?_
   refine Qj.tk 24 Qk ?_
   refine Qj.tk 25 Qk ?_
   refine Qj.nx 26 (fun K hK=> ?_)
   rw [if_pos (by rfl)]
   go_simp
   go_at_call 27
   refine (wAction_yes _ d.cost sa sa' sc sc' d.steps (hsd.1) (hsd.2) (HA.out.kept ((K_.refl wr).drew)) (HA'.out.kept ((K_.refl wr).drew))).mono ?_
   rintro e w1 ⟨rfl,k1⟩
   have K1:K_ wr w1:= ((K_.refl wr).drew).trans k1
   have hS1: (fun (v:World)=> v.cell? ⟨w.heap.size,0,none⟩=some (.slice (some ⟨b,o,none⟩) l.length cap)∧v.cell? ⟨w.heap.size+1,0,none⟩=some (.slice (some ⟨b',o',none⟩) l.length cap')∧v.cell? ⟨b,o+k * 3,none⟩=some (.string d.name)∧v.cell? ⟨b,o+k * 3+1,none⟩=some (.int .i64 d.cost)∧v.cell? ⟨b,o+k * 3+2,none⟩=some (.slice sa d.steps.length sc)∧v.cell? ⟨b',o'+k * 3,none⟩=some (.string d.name)∧v.cell? ⟨b',o'+k * 3+1,none⟩=some (.int .i64 d.cost)∧v.cell? ⟨b',o'+k * 3+2,none⟩=some (.slice sa' d.steps.length sc')) w1:= ⟨(K1.cell z0).trans p0,(K1.cell z1).trans p1,(K1.cell hb).trans c0,(K1.cell hb).trans c1,(K1.cell hb).trans c2,(K1.cell hb').trans d0,(K1.cell hb').trans d1,(K1.cell hb').trans d2⟩
   dsimp only
   refine hK.out _ _ (fun _=> hS1) ?_
   clear hK K Qk
   have Qk:=hS1
   try simp only [Act.put,upA,upB,upC]
   refine Qj.tk 27 Qk ?_
   refine Qj.nx 28 (fun K hK=> ?_)
   go_simp
   refine hK.out _ _ (fun h=> absurd rfl h) ?_
   clear hK K
   try simp only [Act.put,upA,upB,upC]
   refine Qj.dn ?_
   go_wp2
   go_roundw
   case rel=> exact ⟨k+1,by omega,by go_num,hw.trans K1,(K1.cell z0).trans p0,(K1.cell z1).trans p1,Nat.lt_of_lt_of_le z1 K1.size⟩
   case measure=> simp [intOf];omega
  ·have hki: ¬(k:Int) < (l.length:Int):=by omega
   go_wp2
   go_ret
   exact ⟨rfl,hw⟩
