import Derived.Test.YteknkpfbjapoiaaGreatDoorKDataN
import Derived.Test.YteknkpfbjapoiaaGreatDoorKWImpl3
import Derived.Test.YteknkpfbjapoiaaGreatDoorKWImpl5
import Derived.Test.YteknkpfbjapoiaaGreatDoorKSRoots
import Derived.OwnWalk
import Derived.Test.YteknkpfbjapoiaaGreatDoorKWSpec3
import Derived.Test.YteknkpfbjapoiaaGreatDoorKVBfs
import Derived.Deep.RegionWith
namespace Go.Proofs.YteknkpfbjapoiaaGreatDoor
open Go.RowKit
theorem le_sum {α:Type} (f:α→Nat) {l:List α} {x:α} (h:x∈l):f x≤(l.map f).sum:=by
 induction l with
 | nil=> cases h
 | cons y r ih=>
  rcases List.mem_cons.1 h with rfl | h
  ·simp
  ·have:=ih h
   simp;omega
theorem small_of_sz {l:List StepD} {n:Nat} (h:szSteps l≤n):l.length≤n∧∀s∈l,s.asks.length≤n∧s.cases.length≤n:=by
 unfold szSteps at h
 refine ⟨by omega,fun s hs=> ?_⟩
 have h1:=le_sum szStepD hs
 have h2:szStepD s= (s.asks.length+ (s.asks.map (·.size)).sum)+ (s.cases.length+ (s.cases.map (·.text.size)).sum)+s.give.size:=rfl
 omega
def szNodeD (d:NodeD):Nat:=d.name.size+szSteps d.steps
set_option maxHeartbeats 800000 in
theorem szNode_any (w:World) (d:NodeD) (a:Option Addr) (cap:Nat) (left:Int) (hd:d.Fits) (hS:Steps w a d.steps) (h0:0≤left) (h1:left≤1048576):
  Calls Tryz.prog 58 #[.agg #[.string d.name,.int .i64 d.cost,.slice a d.steps.length cap],.int .i64 left] w fun e w'=> e= .returned (.int .i64 (szL (szNodeD d) left))∧Kept w w':=by
 have hn:=hd.name
 unfold maxLen at hn
 have k0:Kept w (w.alloc (.cells #[.string d.name,.int .i64 d.cost,.slice a d.steps.length cap] 92)):= (Kept.refl _).alloc _
 by_cases hle: (d.name.size:Int)≤left
 ·go_enter Tryz.func58,Tryz.ntmps58
  go_wp2_with fail
  refine (szAction_any _ d.cost a cap d.steps _ hd.steps hd.each (hS.kept k0) (by omega) (by omega)).mono ?_
  rintro e w1 ⟨rfl,k1⟩
  have k2:=k0.trans k1
  clear k0 k1
  by_cases hle2: (szSteps d.steps:Int)≤left - d.name.size
  ·rw [szL_pos hle2]
   go_wp2
   go_ret
   exact ⟨ret_int (by rw [szL_pos (by unfold szNodeD;omega)];unfold szNodeD;omega),k2⟩
  ·rw [szL_neg (by omega)]
   go_wp2
   go_ret
   exact ⟨ret_int (szL_neg (by unfold szNodeD;omega)).symm,k2⟩
 ·go_enter Tryz.func58,Tryz.ntmps58
  go_wp2
  go_ret
  exact ⟨ret_int (szL_neg (by unfold szNodeD;omega)).symm,k0⟩
set_option maxHeartbeats 800000 in
theorem eqNode_yes (w:World) (d:NodeD) (a a':Option Addr) (cap cap':Nat) (hd:d.Fits) (hS:Steps w a d.steps) (hS':Steps w a' d.steps):
  Calls Tryz.prog 84 #[.agg #[.string d.name,.int .i64 d.cost,.slice a d.steps.length cap],.agg #[.string d.name,.int .i64 d.cost,.slice a' d.steps.length cap']] w fun e w'=> e= .returned (.bool true)∧Kept w w':=by
 have k0:Kept w ((w.alloc (.cells #[.string d.name,.int .i64 d.cost,.slice a d.steps.length cap] 112)).alloc (.cells #[.string d.name,.int .i64 d.cost,.slice a' d.steps.length cap'] 112)):= ((Kept.refl _).alloc _).alloc _
 go_enter Tryz.func84,Tryz.ntmps84
 go_wp2_with fail
 refine (eqAction_yes _ d.cost a a' cap cap' d.steps hd.steps (fun s hs=> ⟨(hd.each s hs).asks,(hd.each s hs).cases⟩) (hS.kept (by repeat (first | apply Kept.drew | exact k0))) (hS'.kept (by repeat (first | apply Kept.drew | exact k0)))).mono ?_
 rintro e w1 ⟨rfl,k1⟩
 have k2:Kept w w1:=Kept.trans (by repeat (first | apply Kept.drew | exact k0)) k1
 clear k0 k1
 go_wp2
 go_ret
 exact ⟨rfl,k2⟩
theorem Tryz.sizeNode : (Tryz.prog.info? 112).map (·.size)=some 3:=by kernel_rfl
set_option maxHeartbeats 800000 in
theorem toNode_any (w:World) (d:NodeD) (a:Option Addr) (cap:Nat) (hl:d.steps.length≤1048576) (hs: ∀s∈d.steps,s.asks.length≤1048576∧s.cases.length≤1048576) (hS:Steps w a d.steps):
  Calls Tryz.prog 70 #[.agg #[.string d.name,.int .i64 d.cost,.slice a d.steps.length cap]] w fun e w'=> ∃b,e= .returned (.agg (d.cells (some ⟨b,0,none⟩) d.steps.length).toArray)∧StepsNew w' b d.steps∧Kept w w'∧w.heap.size≤b:=by
 go_enter Tryz.func70,Tryz.ntmps70
 go_wp2_with fail
 refine (toAction_any _ d.cost a cap d.steps hl hs (hS.kept (by repeat (first | apply Kept.alloc | exact Kept.refl _)))).mono ?_
 rintro e w1 ⟨b,rfl,hN,k1,hb⟩
 obtain ⟨hc1,hf1⟩:=k1.rules
 have hz1:=k1.size
 simp only [World.size_alloc] at hb hz1
 have K1:Kept w w1:=Kept.trans (by repeat (first | apply Kept.alloc | exact Kept.refl _)) k1
 have hrow1:Row w1 (w.heap.size+1) 3:=Row.kept (Row.alloc (by have:=Row.made (w.alloc (.cells #[.string d.name,.int .i64 d.cost,.slice a d.steps.length cap] 92)) #[.string ⟨#[]⟩,.int .i64 0,.slice none 0 0] 112;simpa using this) _) k1
 have HRow:=hide hrow1
 clear k1 hrow1
 go_wp2
 have hX:Row ((w1.setCell ⟨w.heap.size+1+1,1,none⟩ (.int .i64 d.cost)).setCell ⟨w.heap.size+1+1,2,none⟩ (.slice (some ⟨b,0,none⟩) d.steps.length d.steps.length)) (w.heap.size+1) 3:=Row.set (Row.set HRow.out _ rfl _) _ rfl _
 have hR:=World.rangeAt_setCells_same _ (w.heap.size+1) 0 (d.cells (some ⟨b,0,none⟩) d.steps.length) (hX.there (o:=0) (m:=3) (Nat.le_refl _))
 refine bodyPost_ret_cell (d.cells (some ⟨b,0,none⟩) d.steps.length) _ Tryz.results70 rfl hR Tryz.underlying112 rfl Tryz.sizeNode rfl ⟨b,rfl, ?_, ?_,by omega⟩
 ·repeat (first | (refine StepsNew.setCell ?_ (by simp <;> omega) _) | exact hN)
 ·repeat (first | (refine Kept.setCell ?_ (by simp <;> omega) _) | exact K1)
def szNodesD (l:List NodeD):Nat:=l.length+ (l.map szNodeD).sum
set_option maxHeartbeats 800000 in
theorem szNodeS_any (w:World) (a:Option Addr) (cap:Nat) (l:List NodeD) (left:Int) (hl:l.length≤maxLen) (hs: ∀s∈l,s.Fits)
  (hS:Nodes w a l) (h0:0≤left) (h1:left≤1048576):
  Calls Tryz.prog 29 #[.slice a l.length cap,.int .i64 left] w fun e w'=> e= .returned (.int .i64 (szL (szNodesD l) left))∧Kept w w':=by
 unfold maxLen at hl
 go_enter Tryz.func29,Tryz.ntmps29
 go_wp2
 ·go_ret
  exact ⟨ret_int (szL_neg (by unfold szNodesD;omega)).symm,Kept.refl _⟩
 ·go_loopw [1,5] (fun x i wr=> ∃k:Nat,k≤l.length∧i= .int .i64 k∧x= .int .i64 (left - l.length - sumTo szNodeD l k)∧0≤left - l.length - sumTo szNodeD l k∧Kept w wr) (fun _ i _=> l.length - (intOf i).toNat)
  case atStart=> exact ⟨0,Nat.zero_le _,rfl,by simp [sumTo_zero],by simp [sumTo_zero];omega,Kept.refl _⟩
  case round=>
   obtain ⟨k,hk,rfl,rfl,hge,hw⟩:=hrel
   by_cases hlt:k < l.length
   ·obtain ⟨b,o,cs,rfl,hb,hc,aa,ca,rfl,hA⟩:=hS.kept hw k hlt
    have hsz: (l.getD k NodeD.zero).Fits:=hs _ (by simp [List.getD,hlt])
    have HS:Hid (sumTo szNodeD l (k+1)=sumTo szNodeD l k+szNodeD (l.getD k NodeD.zero)):=sumTo_succ _ l _ k hlt
    have HT:=sumTo_le szNodeD l (k+1)
    generalize l.getD k NodeD.zero=s at *
    have c0:=hc 0 _ rfl
    have c1:=hc 1 _ rfl
    have c2:=hc 2 _ rfl
    simp only [Nat.add_zero] at c0
    clear hc
    go_wp2_with fail
    refine (szNode_any _ s aa ca _ hsz hA (by omega) (by omega)).mono ?_
    rintro e w1 ⟨rfl,hw1⟩
    have hw2:=hw.trans hw1
    by_cases hle: (szNodeD s:Int)≤left - l.length - sumTo szNodeD l k
    ·rw [szL_pos hle]
     clear c0 c1 c2 hA hw hw1
     go_wp2
     go_roundw
     case rel=> exact ⟨k+1,by omega,by go_num,by rw [HS.out];go_num,by rw [HS.out];omega,hw2⟩
     case measure=> simp [intOf];omega
    ·rw [szL_neg (by omega)]
     clear c0 c1 c2 hA hw hw1
     go_wp2
     go_ret
     exact ⟨ret_int (szL_neg (by unfold szNodesD;have:=HS.out;omega)).symm,hw2⟩
   ·go_wp2
    go_ret
    have:k=l.length:=by omega
    subst this
    rw [sumTo_all] at hge⊢
    exact ⟨ret_int (by rw [szL_pos (by unfold szNodesD;omega)];unfold szNodesD;omega),hw⟩
theorem Tryz.infoNode : (Tryz.prog.info? 112).map (fun i=> (i.zero,i.size,i.bytes))=some (some (.agg #[.string ⟨#[]⟩,.int .i64 0,.slice none 0 0]),3,48):=by kernel_rfl
set_option maxHeartbeats 800000 in
theorem toNodeS_any (w:World) (a:Option Addr) (cap:Nat) (l:List NodeD) (hl:l.length≤1048576) (hs: ∀s∈l,s.steps.length≤1048576∧∀x∈s.steps,x.asks.length≤1048576∧x.cases.length≤1048576)
  (hS:Nodes w a l):
  Calls Tryz.prog 34 #[.slice a l.length cap] w fun e w'=> ∃b,e= .returned (.slice (some ⟨b,0,none⟩) l.length l.length)∧NodesNew w' b l∧Kept w w'∧w.heap.size≤b:=by
 have hmk:=run_make_many (P:=Tryz.prog) 35 112 _ _ _ Tryz.underlying35 Tryz.infoNode .i64 .i64 l.length (by omega) (by omega)
 go_enter Tryz.func34,Tryz.ntmps34
 go_wp2
 clear hmk
 have hrow:=Row.made w (madeCells #[.string ⟨#[]⟩,.int .i64 0,.slice none 0 0] (l.length * 3)) 112
 rw [size_madeCells] at hrow
 have hkept:Kept w (w.alloc (.cells (madeCells #[.string ⟨#[]⟩,.int .i64 0,.slice none 0 0] (l.length * 3)) 112)):= (Kept.refl _).alloc _
 go_loopw [4] (fun i wr=> ∃k:Nat,k≤l.length∧i= .int .i64 k∧Kept w wr∧Row wr w.heap.size (l.length * 3)∧∀j,j < k→NodeNew wr w.heap.size j (l.getD j NodeD.zero)) (fun i _=> l.length - (intOf i).toNat)
 case atStart=> exact ⟨0,Nat.zero_le _,rfl,hkept,hrow,fun j hj=> absurd hj (Nat.not_lt_zero _)⟩
 case round=>
  obtain ⟨k,hk,rfl,hw,hr,hf⟩:=hrel
  clear hrow hkept
  by_cases hlt:k < l.length
  ·obtain ⟨b,o,cs,rfl,hb,hc,aa,ca,rfl,hA⟩:=hS.kept hw k hlt
   have hsz:=hs (l.getD k NodeD.zero) (by simp [List.getD,hlt])
   have HF:=hide hf
   clear hf
   generalize hs:l.getD k NodeD.zero=s at *
   have HSs:=hide hs
   clear hs
   have c0:=hc 0 _ rfl
   have c1:=hc 1 _ rfl
   have c2:=hc 2 _ rfl
   simp only [Nat.add_zero] at c0
   clear hc
   go_wp2_with fail
   refine (toNode_any _ s aa ca hsz.1 hsz.2 hA).mono ?_
   rintro e w1 ⟨b1,rfl,g1,hw1,g3⟩
   have hrl:=hr.lt
   have hw2:=hw.trans hw1
   have hr1:=hr.kept hw1
   generalize hcs:s.cells (some ⟨b1,0,none⟩) s.steps.length=cs
   have hlen:cs.length=3:=by rw [←hcs];rfl
   have hone:cs.toArray.all (·.oneCell')=true:=by rw [←hcs];exact NodeD.one s _ _
   have hth:w1.there w.heap.size (k * 3) cs.toArray.size:=by simpa [hlen] using hr1.there (o:=k * 3) (m:=3) (by omega)
   have hsize: (Tryz.prog.info? 112).map (·.size)=some cs.toArray.size:=by rw [Tryz.sizeNode];simp [hlen]
   have HCS:=hide hcs
   have HLEN:=hide hlen
   have HSZ:=hide hsize
   clear hcs hlen hsize
   have HR:Hid (Row w1 w.heap.size (l.length * 3)):=hr1
   have HF1:Hid (∀j,j < k→NodeNew w1 w.heap.size j (l.getD j NodeD.zero)):=fun j hj=> (HF.out j hj).kept hw1 hr.lt
   clear HF c0 c1 c2 hw hw1 hr hr1 hA
   go_wp2_with (refine wpList_store_mid rfl 112 _ _ rfl w.heap.size (k * 3) cs.toArray rfl rfl hth (unhide HSZ) hone ?_)
   go_roundw
   case rel=>
    refine ⟨k+1,by omega,by go_num,Kept.setCells (Nat.le_refl _) _ _ hw2,Row.setCells _ _ HR.out,fun j hj=> ?_⟩
    by_cases e:j=k
    ·subst e
     rw [unhide HSs]
     exact ⟨b1,by omega,by rw [HCS.out];exact World.rangeAt_setCells_same _ _ _ _ (by simpa using hth),StepsNew.setCellsBelow g1 (by omega)⟩
    ·exact (HF1.out j (by omega)).setCells (by rw [HLEN.out];omega)
   case measure=> simp [intOf];omega
  ·go_wp2
   go_ret
   have:k=l.length:=by omega
   subst this
   exact ⟨w.heap.size,rfl,⟨hr.lt,hf⟩,hw,Nat.le_refl _⟩
set_option maxHeartbeats 1600000 in
theorem eqNodeS_yes (w:World) (a a':Option Addr) (cap cap':Nat) (l:List NodeD) (hl:l.length≤maxLen) (hs: ∀s∈l,s.Fits)
  (hS:Nodes w a l) (hS':Nodes w a' l):
  Calls Tryz.prog 40 #[.slice a l.length cap,.slice a' l.length cap'] w fun e w'=> e= .returned (.bool true)∧Kept w w':=by
 unfold maxLen at hl
 go_enter Tryz.func40,Tryz.ntmps40
 go_wp2
 go_loopw [5] (fun i wr=> ∃k:Nat,k≤l.length∧i= .int .i64 k∧Kept w wr) (fun i _=> l.length - (intOf i).toNat)
 case atStart=> exact ⟨0,Nat.zero_le _,rfl,Kept.refl _⟩
 case round=>
  obtain ⟨k,hk,rfl,hw⟩:=hrel
  by_cases hlt:k < l.length
  ·obtain ⟨b,o,cs,rfl,hb,hc,aa,ca,rfl,hA⟩:=hS.kept hw k hlt
   obtain ⟨b',o',cs',rfl,hb',hc',ba,da,rfl,hA'⟩:=hS'.kept hw k hlt
   have hsz:=hs (l.getD k NodeD.zero) (by simp [List.getD,hlt])
   clear hs
   generalize l.getD k NodeD.zero=s at *
   have c0:=hc 0 _ rfl
   have c1:=hc 1 _ rfl
   have c2:=hc 2 _ rfl
   have d0:=hc' 0 _ rfl
   have d1:=hc' 1 _ rfl
   have d2:=hc' 2 _ rfl
   simp only [Nat.add_zero] at c0 d0
   clear hc hc'
   go_wp2
   go_region_with (go_at_call 84;refine (eqNode_yes _ s aa ba ca da hsz (hA.kept (by repeat (first | apply Kept.drew | exact Kept.refl _))) (hA'.kept (by repeat (first | apply Kept.drew | exact Kept.refl _)))).mono ?_;rintro e w1 ⟨rfl,hw1⟩)
   all_goals
    go_wp2
    go_roundw
    case rel=> exact ⟨k+1,by omega,by go_num,by repeat (first | assumption | apply Kept.drew | refine Kept.trans ?_ (by assumption))⟩
    case measure=> simp [intOf];omega
  ·go_wp2
   go_ret
   exact ⟨rfl,hw⟩
set_option maxHeartbeats 400000 in
theorem szWeb_any (w:World) (a:Option Addr) (cap:Nat) (l:List NodeD) (left:Int) (hl:l.length≤maxLen) (hs: ∀s∈l,s.Fits) (hS:Nodes w a l) (h0:0≤left) (h1:left≤1048576):
  Calls Tryz.prog 7 #[.agg #[.slice a l.length cap],.int .i64 left] w fun e w'=> e= .returned (.int .i64 (szL (szNodesD l) left))∧Kept w w':=by
 have k0:Kept w (w.alloc (.cells #[.slice a l.length cap] 24)):= (Kept.refl _).alloc _
 go_enter Tryz.func7,Tryz.ntmps7
 go_wp2_with fail
 refine (szNodeS_any _ a cap l left hl hs (hS.kept k0) h0 h1).mono ?_
 rintro e w1 ⟨rfl,k1⟩
 have k2:=k0.trans k1
 clear k0 k1
 by_cases hle: (szNodesD l:Int)≤left
 ·rw [szL_pos hle]
  go_wp2
  go_ret
  exact ⟨ret_int (szL_pos hle).symm,k2⟩
 ·rw [szL_neg (by omega)]
  go_wp2
  go_ret
  exact ⟨ret_int (szL_neg (by omega)).symm,k2⟩
theorem Tryz.sizeWeb : (Tryz.prog.info? 37).map (·.size)=some 1:=by kernel_rfl
set_option maxHeartbeats 400000 in
theorem toWeb_any (w:World) (a:Option Addr) (cap:Nat) (l:List NodeD) (hl:l.length≤1048576) (hs: ∀s∈l,s.steps.length≤1048576∧∀x∈s.steps,x.asks.length≤1048576∧x.cases.length≤1048576) (hS:Nodes w a l):
  Calls Tryz.prog 10 #[.agg #[.slice a l.length cap]] w fun e w'=> ∃b,e= .returned (.agg #[.slice (some ⟨b,0,none⟩) l.length l.length])∧NodesNew w' b l∧Kept w w'∧w.heap.size≤b:=by
 go_enter Tryz.func10,Tryz.ntmps10
 go_wp2_with fail
 refine (toNodeS_any _ a cap l hl hs (hS.kept (by repeat (first | apply Kept.alloc | exact Kept.refl _)))).mono ?_
 rintro e w1 ⟨b,rfl,hN,k1,hb⟩
 obtain ⟨hc1,hf1⟩:=k1.rules
 have hz1:=k1.size
 simp only [World.size_alloc] at hb hz1
 have K1:Kept w w1:=Kept.trans (by repeat (first | apply Kept.alloc | exact Kept.refl _)) k1
 have hrow1:Row w1 (w.heap.size+1) 1:=Row.kept (Row.alloc (by have:=Row.made (w.alloc (.cells #[.slice a l.length cap] 24)) #[.slice none 0 0] 37;simpa using this) _) k1
 have HRow:=hide hrow1
 clear k1 hrow1
 go_wp2
 have hX:Row (w1.setCell ⟨w.heap.size+1+1,0,none⟩ (.slice (some ⟨b,0,none⟩) l.length l.length)) (w.heap.size+1) 1:=Row.set HRow.out _ rfl _
 have hR:=World.rangeAt_setCells_same _ (w.heap.size+1) 0 [.slice (some ⟨b,0,none⟩) l.length l.length] (hX.there (o:=0) (m:=1) (Nat.le_refl _))
 refine bodyPost_ret_cell [.slice (some ⟨b,0,none⟩) l.length l.length] _ Tryz.results10 rfl hR Tryz.underlying37 rfl Tryz.sizeWeb rfl ⟨b,rfl, ?_, ?_,by omega⟩
 ·repeat (first | (refine NodesNew.setCell ?_ (by simp <;> omega) _) | exact hN)
 ·repeat (first | (refine Kept.setCell ?_ (by simp <;> omega) _) | exact K1)
set_option maxHeartbeats 400000 in
theorem eqWeb_yes (w:World) (a a':Option Addr) (cap cap':Nat) (l:List NodeD) (hl:l.length≤maxLen) (hs: ∀s∈l,s.Fits) (hS:Nodes w a l) (hS':Nodes w a' l):
  Calls Tryz.prog 14 #[.agg #[.slice a l.length cap],.agg #[.slice a' l.length cap']] w fun e w'=> e= .returned (.bool true)∧Kept w w':=by
 have k0:Kept w ((w.alloc (.cells #[.slice a l.length cap] 37)).alloc (.cells #[.slice a' l.length cap'] 37)):= ((Kept.refl _).alloc _).alloc _
 go_enter Tryz.func14,Tryz.ntmps14
 go_wp2_with fail
 refine (eqNodeS_yes _ a a' cap cap' l hl hs (hS.kept (by repeat (first | apply Kept.drew | exact k0))) (hS'.kept (by repeat (first | apply Kept.drew | exact k0)))).mono ?_
 rintro e w1 ⟨rfl,k1⟩
 have k2:Kept w w1:=Kept.trans (by repeat (first | apply Kept.drew | exact k0)) k1
 clear k0 k1
 go_wp2
 go_ret
 exact ⟨rfl,k2⟩
theorem less_trans : ∀(x y z:List UInt8),Op.bytesLess x y=true→Op.bytesLess y z=true→Op.bytesLess x z=true
 | [],[],_,h,_=> by simp [Op.bytesLess] at h
 | [],_ :: _,[],_,h=> by simp [Op.bytesLess] at h
 | [],_ :: _,_ :: _,_,_=> by simp [Op.bytesLess]
 | _ :: _,[],_,h,_=> by simp [Op.bytesLess] at h
 | _ :: _,_ :: _,[],_,h=> by simp [Op.bytesLess] at h
 | a :: x,b :: y,c :: z,h1,h2=> by
  have ih:=less_trans x y z
  simp only [Op.bytesLess,Bool.or_eq_true,Bool.and_eq_true,decide_eq_true_eq,beq_iff_eq] at h1 h2⊢
  rcases h1 with h1 | ⟨rfl,h1⟩
  ·rcases h2 with h2 | ⟨rfl,h2⟩
   ·exact .inl (UInt8.lt_trans h1 h2)
   ·exact .inl h1
  ·rcases h2 with h2 | ⟨rfl,h2⟩
   ·exact .inl h2
   ·exact .inr ⟨rfl,ih h1 h2⟩
theorem less_irrefl : ∀x:List UInt8,Op.bytesLess x x=false
 | []=> rfl
 | a :: x=> by
  have ih:=less_irrefl x
  simp [Op.bytesLess,ih]
theorem less_total : ∀x y:List UInt8,Op.bytesLess x y=false→x≠y→Op.bytesLess y x=true
 | [],[],_,h=> absurd rfl h
 | [],_ :: _,h,_=> by simp [Op.bytesLess] at h
 | _ :: _,[],_,_=> rfl
 | a :: x,b :: y,h,hne=> by
  have ih:=less_total x y
  simp only [Op.bytesLess,Bool.or_eq_false_iff,decide_eq_false_iff_not,Bool.and_eq_false_iff,beq_eq_false_iff_ne] at h
  simp only [Op.bytesLess,Bool.or_eq_true,Bool.and_eq_true,decide_eq_true_eq,beq_iff_eq]
  by_cases e:a=b
  ·subst e
   right
   refine ⟨rfl,ih ?_ (fun e=> hne (by rw [e]))⟩
   rcases h.2 with h2 | h2
   ·exact absurd rfl h2
   ·exact h2
  ·left
   have h1:=h.1
   rw [UInt8.not_lt] at h1
   exact UInt8.lt_of_le_of_ne h1 (fun e'=> e e'.symm)
def nameAt (l:List NodeD) (i:Nat):List UInt8:= (l.getD i NodeD.zero).name.toList
def Rises (l:List NodeD):Prop:= ∀i j,i < j→j < l.length→Op.bytesLess (nameAt l i) (nameAt l j)=true
theorem rises_of {l:List NodeD} (h: ∀i,i+1 < l.length→Op.bytesLess (nameAt l i) (nameAt l (i+1))=true):Rises l:=by
 intro i j hij hj
 induction j with
 | zero=> omega
 | succ j ih=>
  by_cases e:i=j
  ·subst e;exact h i hj
  ·exact less_trans _ _ _ (ih (by omega) (by omega)) (h j hj)
structure Place (l:List NodeD) (key:List UInt8) (p:Nat):Prop where
 le:p≤l.length
 before: ∀j,j < p→Op.bytesLess (nameAt l j) key=true
 behind: ∀j,p≤j→j < l.length→Op.bytesLess (nameAt l j) key=false
theorem Place.only {l:List NodeD} {key:List UInt8} {p j:Nat} (hr:Rises l) (h:Place l key p) (hj:j < l.length) (e:nameAt l j=key):j=p:=by
 by_cases h1:j < p
 ·have:=h.before j h1
  rw [e,less_irrefl] at this
  cases this
 ·by_cases h2:p < j
  ·have h3:=hr p j h2 hj
   rw [e] at h3
   have:=h.behind p (Nat.le_refl _) (by omega)
   rw [h3] at this
   cases this
  ·omega
def stepAt (l:List StepD) (at':Int):StepD:=l.getD at'.toNat StepD.zero
def FrontGo (cost:Int) (l:List StepD) (at':Int):Prop:=ActionOk ⟨cost,l⟩∧(0≤at'∧at' < l.length)∧(stepAt l at').fin=false
def WentOn (cost:Int) (l:List StepD) (at':Int) (ans:List AnswerD) (g:GoneD):Prop:=
 (¬FrontGo cost l at'∧g=GoneD.none)∨(FrontGo cost l at'∧Followed (stepAt l at') ans g)
theorem WentOn.unique {cost:Int} {l:List StepD} {at':Int} {ans:List AnswerD} {g g':GoneD} (h:WentOn cost l at' ans g) (h':WentOn cost l at' ans g'):g=g':=by
 rcases h with ⟨h0,rfl⟩ | ⟨h0,h1⟩ <;> rcases h' with ⟨g0,rfl⟩ | ⟨g0,g1⟩
 ·rfl
 ·exact absurd g0 h0
 ·exact absurd h0 g0
 ·exact h1.unique g1
set_option maxRecDepth 100000 in
set_option maxHeartbeats 3200000 in
theorem specGoOn_no (w:World) (cost at':Int) (a d:Option Addr) (cap dcap:Nat) (l:List StepD) (ans:List AnswerD) (hl:l.length≤maxLen) (hs: ∀s∈l,s.Fits) (hS:Steps w a l)
  (hal:ans.length≤maxLen) (_has: ∀c∈ans,c.text.size≤maxLen) (_hD:Answers w d ans)
  (hF:Hid (¬(FrontGo cost l at'∧ans.length= (stepAt l at').asks.length))):
  Calls Tryz.prog 100 #[.agg #[.int .i64 cost,.slice a l.length cap],.int .i64 at',.slice d ans.length dcap] w fun e w'=> (∃g,e= .returned (.agg g.cells.toArray)∧WentOn cost l at' ans g)∧Kept w w':=by
 have hl':=hl
 have hal':=hal
 unfold maxLen at hl' hal'
 have k0:Kept w ((w.alloc (.cells #[.int .i64 cost,.slice a l.length cap] 110)).alloc (.cells #[.int .i64 0,.bool false,.int .i64 0,.string ⟨#[]⟩] 168)):= ((Kept.refl _).alloc _).alloc _
 go_enter Tryz.func100,Tryz.ntmps100
 go_wp2_with fail
 refine (specValidAction_any _ cost a cap l hl hs (hS.kept k0)).mono ?_
 rintro e w1 ⟨hsay,k1⟩
 have K1:=k0.trans k1
 have hrow1:Row w1 (w.heap.size+1) 4:=Row.kept (by have:=Row.made (w.alloc (.cells #[.int .i64 cost,.slice a l.length cap] 110)) #[.int .i64 0,.bool false,.int .i64 0,.string ⟨#[]⟩] 168;simpa using this) k1
 have HROW:=hide hrow1
 clear hrow1
 obtain ⟨hc1,hf1⟩:=k1.rules
 have hz1:=k1.size
 simp only [World.size_alloc] at hz1
 have x0:w.heap.size < w1.heap.size:=by omega
 have x1:w.heap.size+1 < w1.heap.size:=by omega
 rcases hsay.cases with ⟨rfl,hyes⟩ | ⟨rfl,hno⟩
 ·have HV:=hide hyes
  clear hyes hsay k0 k1
  by_cases p1:0≤at'
  ·cases p2:decide (at'≤(l.length:Int) - 1)
   ·have p2': (l.length:Int) - 1 < at':=by simpa using p2
    go_wp2
    have hR:=World.rangeAt_setCells_same w1 (w.heap.size+1) 0 GoneD.none.cells (HROW.out.there (o:=0) (m:=4) (Nat.le_refl _))
    exact bodyPost_ret_cell GoneD.none.cells _ Tryz.results100 rfl hR Tryz.underlying168 rfl Tryz.sizeGone rfl ⟨⟨_,rfl,Or.inl ⟨fun h=> (by have:=h.2.1;omega),rfl⟩⟩,Kept.setCells (g:=w.heap.size+1) (by omega) GoneD.none.cells 0 K1⟩
   ·have p2':at'≤(l.length:Int) - 1:=by simpa using p2
    obtain ⟨n,rfl⟩:=Int.eq_ofNat_of_zero_le p1
    have hlt:n < l.length:=by omega
    obtain ⟨b,o,cs,rfl,hb,hc,aa,ca,ac,cc,rfl,hA,hC,hca⟩:=hS.kept K1 n hlt
    have hsz:=hs (l.getD n StepD.zero) (by simp [List.getD,hlt])
    obtain ⟨s,hsk⟩: ∃s,s=l.getD n StepD.zero:= ⟨_,rfl⟩
    rw [←hsk] at hc hsz hA hC hca
    have HSK:Hid (stepAt l n=s):=by rw [hsk];show Hid (l.getD (n:Int).toNat StepD.zero=_);rw [Int.toNat_natCast];exact rfl
    have HOK:Hid (StepOk s l.length):=by rw [hsk];exact HV.out.2.2 n hlt
    clear hsk
    have c0:=hc 0 _ rfl
    have c1:=hc 1 _ rfl
    have c2:=hc 2 _ rfl
    have c3:=hc 3 _ rfl
    have c4:=hc 4 _ rfl
    have c5:=hc 5 _ rfl
    have c6:=hc 6 _ rfl
    have c7:=hc 7 _ rfl
    simp only [Nat.add_zero] at c0
    clear hc
    cases hfin:s.fin
    ·rw [hfin] at c5
     have HF:Hid (FrontGo cost l n):= ⟨HV.out,⟨by omega,by omega⟩,by rw [HSK.out];exact hfin⟩
     have hne:ans.length≠s.asks.length:=fun h=> hF.out ⟨HF.out,by rw [HSK.out];exact h⟩
     have hneq: ((ans.length:Int) != (s.asks.length:Int))=true:=by simp;omega
     have HNE:=hide hne
     clear hne
     go_wp2
     have hR:=World.rangeAt_setCells_same w1 (w.heap.size+1) 0 GoneD.none.cells (HROW.out.there (o:=0) (m:=4) (Nat.le_refl _))
     exact bodyPost_ret_cell GoneD.none.cells _ Tryz.results100 rfl hR Tryz.underlying168 rfl Tryz.sizeGone rfl ⟨⟨_,rfl,Or.inr ⟨HF.out,Or.inl ⟨fun h=> HNE.out (by have:=h.1;rw [HSK.out] at this;exact this),rfl⟩⟩⟩,Kept.setCells (g:=w.heap.size+1) (by omega) GoneD.none.cells 0 K1⟩
    ·rw [hfin] at c5
     go_wp2
     have hR:=World.rangeAt_setCells_same w1 (w.heap.size+1) 0 GoneD.none.cells (HROW.out.there (o:=0) (m:=4) (Nat.le_refl _))
     exact bodyPost_ret_cell GoneD.none.cells _ Tryz.results100 rfl hR Tryz.underlying168 rfl Tryz.sizeGone rfl ⟨⟨_,rfl,Or.inl ⟨fun h=> (by have:=h.2.2;rw [HSK.out,hfin] at this;cases this),rfl⟩⟩,Kept.setCells (g:=w.heap.size+1) (by omega) GoneD.none.cells 0 K1⟩
  ·skip
   go_wp2
   have hR:=World.rangeAt_setCells_same w1 (w.heap.size+1) 0 GoneD.none.cells (HROW.out.there (o:=0) (m:=4) (Nat.le_refl _))
   exact bodyPost_ret_cell GoneD.none.cells _ Tryz.results100 rfl hR Tryz.underlying168 rfl Tryz.sizeGone rfl ⟨⟨_,rfl,Or.inl ⟨fun h=> (by have:=h.2.1;omega),rfl⟩⟩,Kept.setCells (g:=w.heap.size+1) (by omega) GoneD.none.cells 0 K1⟩
 ·have HV:=hide hno
  clear hno hsay k0 k1
  go_wp2
  have hR:=World.rangeAt_setCells_same w1 (w.heap.size+1) 0 GoneD.none.cells (HROW.out.there (o:=0) (m:=4) (Nat.le_refl _))
  exact bodyPost_ret_cell GoneD.none.cells _ Tryz.results100 rfl hR Tryz.underlying168 rfl Tryz.sizeGone rfl ⟨⟨_,rfl,Or.inl ⟨fun h=> HV.out h.1,rfl⟩⟩,Kept.setCells (g:=w.heap.size+1) (by omega) GoneD.none.cells 0 K1⟩
set_option maxRecDepth 100000 in
set_option maxHeartbeats 6400000 in
theorem specGoOn_yes (w:World) (cost at':Int) (a d:Option Addr) (cap dcap:Nat) (l:List StepD) (ans:List AnswerD) (hl:l.length≤maxLen) (hs: ∀s∈l,s.Fits) (hS:Steps w a l)
  (hal:ans.length≤maxLen) (has: ∀c∈ans,c.text.size≤maxLen) (hD:Answers w d ans)
  (hF:FrontGo cost l at') (hE:ans.length= (stepAt l at').asks.length):
  Calls Tryz.prog 100 #[.agg #[.int .i64 cost,.slice a l.length cap],.int .i64 at',.slice d ans.length dcap] w fun e w'=> (∃g,e= .returned (.agg g.cells.toArray)∧WentOn cost l at' ans g)∧Kept w w':=by
 have HF0:=hide hF
 have HE0:=hide hE
 clear hF hE
 have hl':=hl
 have hal':=hal
 unfold maxLen at hl' hal'
 have k0:Kept w ((w.alloc (.cells #[.int .i64 cost,.slice a l.length cap] 110)).alloc (.cells #[.int .i64 0,.bool false,.int .i64 0,.string ⟨#[]⟩] 168)):= ((Kept.refl _).alloc _).alloc _
 go_enter Tryz.func100,Tryz.ntmps100
 go_wp2_with fail
 refine (specValidAction_any _ cost a cap l hl hs (hS.kept k0)).mono ?_
 rintro e w1 ⟨hsay,k1⟩
 have K1:=k0.trans k1
 have hrow1:Row w1 (w.heap.size+1) 4:=Row.kept (by have:=Row.made (w.alloc (.cells #[.int .i64 cost,.slice a l.length cap] 110)) #[.int .i64 0,.bool false,.int .i64 0,.string ⟨#[]⟩] 168;simpa using this) k1
 have HROW:=hide hrow1
 clear hrow1
 obtain ⟨hc1,hf1⟩:=k1.rules
 have hz1:=k1.size
 simp only [World.size_alloc] at hz1
 have x0:w.heap.size < w1.heap.size:=by omega
 have x1:w.heap.size+1 < w1.heap.size:=by omega
 rcases hsay.cases with ⟨rfl,hyes⟩ | ⟨rfl,hno⟩
 ·have HV:=hide hyes
  clear hyes hsay k0 k1
  have p1:0≤at':=HF0.out.2.1.1
  have p2:at' < l.length:=HF0.out.2.1.2
  obtain ⟨n,rfl⟩:=Int.eq_ofNat_of_zero_le p1
  have hlt:n < l.length:=by omega
  obtain ⟨b,o,cs,rfl,hb,hc,aa,ca,ac,cc,rfl,hA,hC,hca⟩:=hS.kept K1 n hlt
  have hsz:=hs (l.getD n StepD.zero) (by simp [List.getD,hlt])
  obtain ⟨s,hsk⟩: ∃s,s=l.getD n StepD.zero:= ⟨_,rfl⟩
  rw [←hsk] at hc hsz hA hC hca
  have HSK:Hid (stepAt l n=s):=by rw [hsk];show Hid (l.getD (n:Int).toNat StepD.zero=_);rw [Int.toNat_natCast];exact rfl
  have HOK:Hid (StepOk s l.length):=by rw [hsk];exact HV.out.2.2 n hlt
  clear hsk
  have c0:=hc 0 _ rfl
  have c1:=hc 1 _ rfl
  have c2:=hc 2 _ rfl
  have c3:=hc 3 _ rfl
  have c4:=hc 4 _ rfl
  have c5:=hc 5 _ rfl
  have c6:=hc 6 _ rfl
  have c7:=hc 7 _ rfl
  simp only [Nat.add_zero] at c0
  clear hc
  have hfin:s.fin=false:=by have:=HF0.out.2.2;rw [HSK.out] at this;exact this
  rw [hfin] at c5
  have HLEN:Hid (ans.length=s.asks.length):=by have:=HE0.out;rw [HSK.out] at this;exact this
  have hneq: ((ans.length:Int) != (s.asks.length:Int))=false:=by have:=HLEN.out;simp;omega
  have HF:Hid (FrontGo cost l n):=HF0.out
  have HAK:Hid (AskOk s l.length):=HOK.out.2 hfin
  clear HF0 HE0
  have kA:Kept w1 (w1.alloc (.cells #[.slice aa s.asks.length ca,.int .i64 s.on,.slice ac s.cases.length cc,.int .i64 s.els,.int .i64 s.fall,.bool false,.bool s.bad,.string s.give] 166)):= (Kept.refl _).alloc _
  have K2:=K1.trans kA
  have HROW2:=hide (HROW.out.kept kA)
  go_wp2_with (go_at_call 106;refine (l1In_yes _ _ _ _ (by omega) (by omega)).mono ?_;rintro e w' ⟨rfl,hw'⟩;have hw'':=Eq.symm hw';clear hw';subst hw'')
  clear c0 c1 c2 c3 c4 c5 c6 c7
  go_loop [8] (fun i=> ∃k:Nat,k≤ans.length∧i= .int .i64 k∧NoneTo ans IsLong k) (fun i=> ans.length - (intOf i).toNat)
  case atStart=> exact ⟨0,Nat.zero_le _,rfl,fun j hj=> absurd hj (Nat.not_lt_zero _)⟩
  case round=>
   obtain ⟨k,hk,rfl,hg⟩:=hrel
   have HG:=hide hg
   clear hg
   by_cases hlt1:k < ans.length
   ·obtain ⟨b1,o1,rfl,hb1,hd⟩:=hD.kept K2 k hlt1
    have hsz1: (ans.getD k AnswerD.zero).text.size≤maxLen:=has _ (by simp [List.getD,hlt1])
    obtain ⟨c,hck⟩: ∃c,c=ans.getD k AnswerD.zero:= ⟨_,rfl⟩
    rw [←hck] at hd hsz1
    have HCK:=hide hck
    clear hck
    unfold maxLen at hsz1
    have d1:=hd 1 _ rfl
    clear hd
    by_cases hlong: (200:Int) < c.text.size
    ·skip
     go_wp2
     have hR:=World.rangeAt_alloc (World.rangeAt_setCells_same w1 (w.heap.size+1) 0 GoneD.none.cells (HROW.out.there (o:=0) (m:=4) (Nat.le_refl _))) (.cells #[.slice aa s.asks.length ca,.int .i64 s.on,.slice ac s.cases.length cc,.int .i64 s.els,.int .i64 s.fall,.bool false,.bool s.bad,.string s.give] 166)
     exact bodyPost_ret_cell GoneD.none.cells _ Tryz.results100 rfl hR Tryz.underlying168 rfl Tryz.sizeGone rfl ⟨⟨_,rfl,Or.inr ⟨HF.out,by rw [HSK.out];exact Or.inl ⟨fun h=> h.2 ⟨k,hlt1,by unfold IsLong;rw [←HCK.out];omega⟩,rfl⟩⟩⟩,Kept.alloc (Kept.setCells (g:=w.heap.size+1) (by omega) GoneD.none.cells 0 K1) _⟩
    ·go_wp2
     go_round
     case rel=>
      refine ⟨k+1,by omega,by go_num,fun j hj=> ?_⟩
      by_cases e:j=k
      ·subst e
       unfold IsLong
       rw [←HCK.out]
       omega
      ·exact HG.out j (by omega)
     case measure=> simp [intOf];omega
   ·have HAO:Hid (AnsOk s ans):= ⟨HLEN.out,fun ⟨i,hi,h⟩=> HG.out i (by omega) h⟩
    clear HG
    go_wp2
    go_loop [9] (fun i=> ∃k:Nat,k≤ans.length∧i= .int .i64 k∧NoneTo ans IsFail k) (fun i=> ans.length - (intOf i).toNat)
    case atStart=> exact ⟨0,Nat.zero_le _,rfl,fun j hj=> absurd hj (Nat.not_lt_zero _)⟩
    case round=>
     clear hk hlt1
     obtain ⟨k,hk,rfl,hg⟩:=hrel
     have HG:=hide hg
     clear hg
     by_cases hlt2:k < ans.length
     ·obtain ⟨b1,o1,rfl,hb1,hd⟩:=hD.kept K2 k hlt2
      obtain ⟨c,hck⟩: ∃c,c=ans.getD k AnswerD.zero:= ⟨_,rfl⟩
      rw [←hck] at hd
      have HCK:=hide hck
      clear hck
      have d0:=hd 0 _ rfl
      simp only [Nat.add_zero] at d0
      clear hd
      cases hcf:c.fail
      ·rw [hcf] at d0
       go_wp2
       go_round
       case rel=>
        refine ⟨k+1,by omega,by go_num,fun j hj=> ?_⟩
        by_cases e:j=k
        ·subst e
         unfold IsFail
         rw [←HCK.out,hcf]
         simp
        ·exact HG.out j (by omega)
       case measure=> simp [intOf];omega
      ·rw [hcf] at d0
       have HP:Hid (IsFail (ans.getD k AnswerD.zero)):=by rw [←HCK.out];exact hcf
       cases b5: (s.fall == -1)
       ·skip
        go_wp2
        have hR:=World.rangeAt_alloc (World.rangeAt_setCells_same w1 (w.heap.size+1) 0 [.int .i64 0,.bool false,.int .i64 s.fall,.string ⟨#[]⟩] (HROW.out.there (o:=0) (m:=4) (Nat.le_refl _))) (.cells #[.slice aa s.asks.length ca,.int .i64 s.on,.slice ac s.cases.length cc,.int .i64 s.els,.int .i64 s.fall,.bool false,.bool s.bad,.string s.give] 166)
        exact bodyPost_ret_cell [.int .i64 0,.bool false,.int .i64 s.fall,.string ⟨#[]⟩] _ Tryz.results100 rfl hR Tryz.underlying168 rfl Tryz.sizeGone rfl ⟨⟨⟨0,false,s.fall,⟨#[]⟩⟩,rfl,Or.inr ⟨HF.out,by rw [HSK.out];exact Or.inr ⟨HAO.out,Or.inl ⟨k,hlt2,HP.out,HG.out,Or.inr ⟨by simpa using b5,rfl⟩⟩⟩⟩⟩,Kept.alloc (Kept.setCells (g:=w.heap.size+1) (by omega) [.int .i64 0,.bool false,.int .i64 s.fall,.string ⟨#[]⟩] 0 K1) _⟩
       ·have hia:k < s.asks.length:=by have:=HLEN.out;omega
        obtain ⟨b6,o6,rfl,hb6,ha6⟩:=hA.kept kA k hia
        have hv20: (s.asks.getD k ByteArray.empty).size≤20:= (HAK.out.1.2.2.2.1 k hia).1.2.1
        obtain ⟨v,hv⟩: ∃v,v=s.asks.getD k ByteArray.empty:= ⟨_,rfl⟩
        rw [←hv] at ha6 hv20
        have HV2:=hide hv
        clear hv
        go_wp2
        have hR:=World.rangeAt_setCells_same w1 (w.heap.size+1) 0 [.int .i64 0,.bool true,.int .i64 0,.string ((⟨#[98,101,108,111,119,32]⟩:ByteArray)++v)] (HROW.out.there (o:=0) (m:=4) (Nat.le_refl _))
        exact bodyPost_ret_cell [.int .i64 0,.bool true,.int .i64 0,.string ((⟨#[98,101,108,111,119,32]⟩:ByteArray)++v)] _ Tryz.results100 rfl (World.rangeAt_alloc hR _) Tryz.underlying168 rfl Tryz.sizeGone rfl ⟨⟨⟨0,true,0,_⟩,rfl,Or.inr ⟨HF.out,by rw [HSK.out];exact Or.inr ⟨HAO.out,Or.inl ⟨k,hlt2,HP.out,HG.out,Or.inl ⟨by simpa using b5,by unfold belowOf;rw [←HV2.out]⟩⟩⟩⟩⟩,Kept.alloc (Kept.setCells (g:=w.heap.size+1) (by omega) [.int .i64 0,.bool true,.int .i64 0,.string ((⟨#[98,101,108,111,119,32]⟩:ByteArray)++v)] 0 K1) _⟩
     ·have HNF:Hid (NoneTo ans IsFail ans.length):=fun j hj=> HG.out j (by omega)
      clear HG
      cases a9: ((ans.length:Int) == 0)
      ·have hne:ans.length≠0:=by simp at a9;simpa using a9
       have HNE:=hide hne
       have hon:0≤s.on∧s.on < ans.length:=by have h1:=HAK.out.1.2.2.2.2.2.2.2;have h2:=HLEN.out;omega
       obtain ⟨q1,q2⟩:=hon
       clear hne
       obtain ⟨t,htk⟩: ∃t,t=textAt ans s.on:= ⟨_,rfl⟩
       have HTK:=hide htk
       clear htk
       have hm2:s.on.toNat < ans.length:=by omega
       have hcl:=hsz.cases
       unfold maxLen at hcl
       go_wp2
       go_loopw [10] (fun i wr=> ∃k:Nat,k≤s.cases.length∧i= .int .i64 k∧Kept (w1.alloc (.cells #[.slice aa s.asks.length ca,.int .i64 s.on,.slice ac s.cases.length cc,.int .i64 s.els,.int .i64 s.fall,.bool false,.bool s.bad,.string s.give] 166)) wr∧CaseTo s t k) (fun i _=> s.cases.length - (intOf i).toNat)
       case atStart=> exact ⟨0,Nat.zero_le _,rfl,Kept.refl _,fun j hj=> absurd hj (Nat.not_lt_zero _)⟩
       case round=>
        obtain ⟨k,hk,rfl,hw,hg⟩:=hrel
        have HG:=hide hg
        clear hg
        have k3:Kept w wr:=K2.trans hw
        obtain ⟨hc3,hf3⟩:=hw.rules
        have hz3:=hw.size
        simp only [World.size_alloc] at hz3
        have HROW3:=hide (HROW2.out.kept hw)
        have v0:w.heap.size+1 < w1.heap.size+1:=by omega
        have v1:w1.heap.size < w1.heap.size+1:=by omega
        by_cases hlt3:k < s.cases.length
        ·obtain ⟨b3,o3,rfl,hb3,hcc⟩:= (hC.kept kA).kept hw k hlt3
         obtain ⟨b4,o4,e4,hb4,hd4⟩:=hD.kept k3 s.on.toNat hm2
         obtain ⟨c,hck⟩: ∃c,c=s.cases.getD k CaseD.zero:= ⟨_,rfl⟩
         rw [←hck] at hcc
         have HCK:=hide hck
         clear hck
         have g0:=hcc 0 _ rfl
         have g1:=hcc 1 _ rfl
         have d1:=hd4 1 _ rfl
         simp only [Nat.add_zero] at g0
         have htn: (ans.getD s.on.toNat AnswerD.zero).text=t:=by have h1:=HTK.out;unfold textAt at h1;exact h1.symm
         rw [htn] at d1
         subst e4
         clear hcc hd4 htn
         cases hct: (c.text.toList == t.toList)
         ·go_wp2
          go_region
          all_goals
           go_wp2
           go_roundw
           case rel=>
            refine ⟨k+1,by omega,by go_num,by repeat (first | apply Kept.drew | exact hw),fun j hj=> ?_⟩
            by_cases e:j=k
            ·subst e
             unfold CaseIs
             rw [←HCK.out]
             exact bytes_ne hct
            ·exact HG.out j (by omega)
           case measure=> simp [intOf];omega
         ·go_wp2
          go_region
          all_goals
           go_wp2
           have hR:=World.rangeAt_setCells_same wr.drew (w.heap.size+1) 0 [.int .i64 0,.bool false,.int .i64 c.goto,.string ⟨#[]⟩] (Row.there (Row.kept HROW3.out (Kept.drew (Kept.refl _))) (o:=0) (m:=4) (Nat.le_refl _))
           exact bodyPost_ret_cell [.int .i64 0,.bool false,.int .i64 c.goto,.string ⟨#[]⟩] _ Tryz.results100 rfl hR Tryz.underlying168 rfl Tryz.sizeGone rfl ⟨⟨⟨0,false,c.goto,⟨#[]⟩⟩,rfl,Or.inr ⟨HF.out,by rw [HSK.out];exact Or.inr ⟨HAO.out,Or.inr ⟨HNF.out,c.goto,Or.inr ⟨HNE.out,Or.inl ⟨k,hlt3,by unfold CaseIs;rw [←HCK.out,←HTK.out];exact bytes_eq.1 hct,by rw [←HTK.out];exact HG.out,by unfold gotoOf;rw [←HCK.out]⟩⟩,rfl⟩⟩⟩⟩,Kept.setCells (g:=w.heap.size+1) (by omega) [.int .i64 0,.bool false,.int .i64 c.goto,.string ⟨#[]⟩] 0 k3.drew⟩
        ·skip
         go_wp2
         have hR:=World.rangeAt_setCells_same wr (w.heap.size+1) 0 [.int .i64 0,.bool false,.int .i64 s.els,.string ⟨#[]⟩] (HROW3.out.there (o:=0) (m:=4) (Nat.le_refl _))
         exact bodyPost_ret_cell [.int .i64 0,.bool false,.int .i64 s.els,.string ⟨#[]⟩] _ Tryz.results100 rfl hR Tryz.underlying168 rfl Tryz.sizeGone rfl ⟨⟨⟨0,false,s.els,⟨#[]⟩⟩,rfl,Or.inr ⟨HF.out,by rw [HSK.out];exact Or.inr ⟨HAO.out,Or.inr ⟨HNF.out,s.els,Or.inr ⟨HNE.out,Or.inr ⟨by rw [←HTK.out];exact fun j hj=> HG.out j (by omega),rfl⟩⟩,rfl⟩⟩⟩⟩,Kept.setCells (g:=w.heap.size+1) (by omega) [.int .i64 0,.bool false,.int .i64 s.els,.string ⟨#[]⟩] 0 k3⟩
      ·skip
       go_wp2
       have hR:=World.rangeAt_alloc (World.rangeAt_setCells_same w1 (w.heap.size+1) 0 [.int .i64 0,.bool false,.int .i64 s.els,.string ⟨#[]⟩] (HROW.out.there (o:=0) (m:=4) (Nat.le_refl _))) (.cells #[.slice aa s.asks.length ca,.int .i64 s.on,.slice ac s.cases.length cc,.int .i64 s.els,.int .i64 s.fall,.bool false,.bool s.bad,.string s.give] 166)
       exact bodyPost_ret_cell [.int .i64 0,.bool false,.int .i64 s.els,.string ⟨#[]⟩] _ Tryz.results100 rfl hR Tryz.underlying168 rfl Tryz.sizeGone rfl ⟨⟨⟨0,false,s.els,⟨#[]⟩⟩,rfl,Or.inr ⟨HF.out,by rw [HSK.out];exact Or.inr ⟨HAO.out,Or.inr ⟨HNF.out,s.els,Or.inl ⟨by simp at a9;simpa using a9,rfl⟩,rfl⟩⟩⟩⟩,Kept.alloc (Kept.setCells (g:=w.heap.size+1) (by omega) [.int .i64 0,.bool false,.int .i64 s.els,.string ⟨#[]⟩] 0 K1) _⟩
 ·exact absurd HF0.out.1 hno
theorem specGoOn_any (w:World) (cost at':Int) (a d:Option Addr) (cap dcap:Nat) (l:List StepD) (ans:List AnswerD) (hl:l.length≤maxLen) (hs: ∀s∈l,s.Fits) (hS:Steps w a l)
  (hal:ans.length≤maxLen) (has: ∀c∈ans,c.text.size≤maxLen) (hD:Answers w d ans):
  Calls Tryz.prog 100 #[.agg #[.int .i64 cost,.slice a l.length cap],.int .i64 at',.slice d ans.length dcap] w fun e w'=> (∃g,e= .returned (.agg g.cells.toArray)∧WentOn cost l at' ans g)∧Kept w w':=by
 by_cases h:FrontGo cost l at'∧ans.length= (stepAt l at').asks.length
 ·exact specGoOn_yes w cost at' a d cap dcap l ans hl hs hS hal has hD h.1 h.2
 ·exact specGoOn_no w cost at' a d cap dcap l ans hl hs hS hal has hD h
def NoneN (l:List NodeD) (p:NodeD→Prop) (k:Nat):Prop:= ∀j,j < k→¬p (l.getD j NodeD.zero)
def SomeN (l:List NodeD) (p:NodeD→Prop):Prop:= ∃i,i < l.length∧p (l.getD i NodeD.zero)
def FirstN (l:List NodeD) (p:NodeD→Prop) (r:Int):Prop:=
 (∃i,i < l.length∧r= (i:Int)∧p (l.getD i NodeD.zero))∨(r= -1∧NoneN l p l.length)
def BadName (d:NodeD):Prop:= ¬NameOk d.name
def BadMade (d:NodeD):Prop:= ¬ActionOk ⟨d.cost,d.steps⟩
theorem badlyNamed_any (w:World) (d:NodeD) (a:Option Addr) (cap:Nat) (hd:d.Fits):
  Calls Tryz.prog 152 #[.agg #[.string d.name,.int .i64 d.cost,.slice a d.steps.length cap]] w fun e w'=> Says e (BadName d)∧Kept w w':=by
 have k0:Kept w (w.alloc (.cells #[.string d.name,.int .i64 d.cost,.slice a d.steps.length cap] 112)):= (Kept.refl _).alloc _
 go_enter Tryz.func152,Tryz.ntmps152
 go_wp2_with fail
 refine (validName_any _ d.name hd.name).mono ?_
 rintro e w1 ⟨hsay,k1⟩
 have k2:=k0.trans k1
 clear k0 k1
 rcases hsay.cases with ⟨rfl,hyes⟩ | ⟨rfl,hno⟩
 ·have HY:=hide hyes
  clear hyes hsay
  go_wp2
  go_ret
  exact ⟨Says.no fun h=> h HY.out,k2⟩
 ·have HY:=hide hno
  clear hno hsay
  go_wp2
  go_ret
  exact ⟨Says.yes HY.out,k2⟩
theorem badlyMade_any (w:World) (d:NodeD) (a:Option Addr) (cap:Nat) (hd:d.Fits) (hS:Steps w a d.steps):
  Calls Tryz.prog 154 #[.agg #[.string d.name,.int .i64 d.cost,.slice a d.steps.length cap]] w fun e w'=> Says e (BadMade d)∧Kept w w':=by
 have k0:Kept w (w.alloc (.cells #[.string d.name,.int .i64 d.cost,.slice a d.steps.length cap] 112)):= (Kept.refl _).alloc _
 go_enter Tryz.func154,Tryz.ntmps154
 go_wp2_with fail
 refine (implValidAction_any _ d.cost a cap d.steps hd.steps hd.each (hS.kept k0)).mono ?_
 rintro e w1 ⟨hsay,k1⟩
 have k2:=k0.trans k1
 clear k0 k1
 rcases hsay.cases with ⟨rfl,hyes⟩ | ⟨rfl,hno⟩
 ·have HY:=hide hyes
  clear hyes hsay
  go_wp2
  go_ret
  exact ⟨Says.no fun h=> h HY.out,k2⟩
 ·have HY:=hide hno
  clear hno hsay
  go_wp2
  go_ret
  exact ⟨Says.yes HY.out,k2⟩
set_option maxRecDepth 100000 in
set_option maxHeartbeats 800000 in
theorem indexNamed (w:World) (a:Option Addr) (cap:Nat) (l:List NodeD) (hl:l.length≤maxLen) (hs: ∀c∈l,c.Fits) (hS:Nodes w a l):
  Calls Tryz.prog 177 #[.slice a l.length cap,.func (.func 152) #[] #[]] w fun e w'=> (∃r,e= .returned (.int .i64 r)∧FirstN l BadName r)∧Kept w w':=by
 unfold maxLen at hl
 go_enter Tryz.func177,Tryz.ntmps177
 go_wp2
 go_loopw [8] (fun i wr=> ∃k:Nat,k≤l.length∧i= .int .i64 k∧Kept w wr∧NoneN l BadName k) (fun i _=> l.length - (intOf i).toNat)
 case atStart=> exact ⟨0,Nat.zero_le _,rfl,Kept.refl _,fun j hj=> absurd hj (Nat.not_lt_zero _)⟩
 case round=>
  obtain ⟨k,hk,rfl,hw,hg⟩:=hrel
  have HG:=hide hg
  clear hg
  by_cases hlt:k < l.length
  ·obtain ⟨b,o,cs,rfl,hb,hc,aa,ca,rfl,hA⟩:=hS.kept hw k hlt
   have hsz:=hs (l.getD k NodeD.zero) (by simp [List.getD,hlt])
   obtain ⟨c,hck⟩: ∃c,c=l.getD k NodeD.zero:= ⟨_,rfl⟩
   rw [←hck] at hc hsz hA
   have HCK:=hide hck
   clear hck
   have c0:=hc 0 _ rfl
   have c1:=hc 1 _ rfl
   have c2:=hc 2 _ rfl
   simp only [Nat.add_zero] at c0
   clear hc
   go_wp2_with fail
   refine (badlyNamed_any _ c aa ca hsz).mono ?_
   rintro e w1 ⟨hsay,hw1⟩
   have hw2:=hw.trans hw1
   clear c0 c1 c2 hw hw1
   rcases hsay.cases with ⟨rfl,hyes⟩ | ⟨rfl,hno⟩
   ·have HY:=hide hyes
    clear hyes hsay
    go_wp2
    go_ret
    exact ⟨⟨k,rfl,Or.inl ⟨k,hlt,rfl,by rw [←HCK.out];exact HY.out⟩⟩,hw2⟩
   ·have HN:=hide hno
    clear hno hsay
    go_wp2
    go_roundw
    case rel=>
     refine ⟨k+1,by omega,by go_num,hw2,fun j hj=> ?_⟩
     by_cases e:j=k
     ·subst e
      rw [←HCK.out]
      exact HN.out
     ·exact HG.out j (by omega)
    case measure=> simp [intOf];omega
  ·go_wp2
   go_ret
   exact ⟨⟨-1,rfl,Or.inr ⟨rfl,fun j hj=> HG.out j (by omega)⟩⟩,hw⟩
set_option maxRecDepth 100000 in
set_option maxHeartbeats 800000 in
theorem indexMade (w:World) (a:Option Addr) (cap:Nat) (l:List NodeD) (hl:l.length≤maxLen) (hs: ∀c∈l,c.Fits) (hS:Nodes w a l):
  Calls Tryz.prog 177 #[.slice a l.length cap,.func (.func 154) #[] #[]] w fun e w'=> (∃r,e= .returned (.int .i64 r)∧FirstN l BadMade r)∧Kept w w':=by
 unfold maxLen at hl
 go_enter Tryz.func177,Tryz.ntmps177
 go_wp2
 go_loopw [8] (fun i wr=> ∃k:Nat,k≤l.length∧i= .int .i64 k∧Kept w wr∧NoneN l BadMade k) (fun i _=> l.length - (intOf i).toNat)
 case atStart=> exact ⟨0,Nat.zero_le _,rfl,Kept.refl _,fun j hj=> absurd hj (Nat.not_lt_zero _)⟩
 case round=>
  obtain ⟨k,hk,rfl,hw,hg⟩:=hrel
  have HG:=hide hg
  clear hg
  by_cases hlt:k < l.length
  ·obtain ⟨b,o,cs,rfl,hb,hc,aa,ca,rfl,hA⟩:=hS.kept hw k hlt
   have hsz:=hs (l.getD k NodeD.zero) (by simp [List.getD,hlt])
   obtain ⟨c,hck⟩: ∃c,c=l.getD k NodeD.zero:= ⟨_,rfl⟩
   rw [←hck] at hc hsz hA
   have HCK:=hide hck
   clear hck
   have c0:=hc 0 _ rfl
   have c1:=hc 1 _ rfl
   have c2:=hc 2 _ rfl
   simp only [Nat.add_zero] at c0
   clear hc
   go_wp2_with fail
   refine (badlyMade_any _ c aa ca hsz hA).mono ?_
   rintro e w1 ⟨hsay,hw1⟩
   have hw2:=hw.trans hw1
   clear c0 c1 c2 hw hw1
   rcases hsay.cases with ⟨rfl,hyes⟩ | ⟨rfl,hno⟩
   ·have HY:=hide hyes
    clear hyes hsay
    go_wp2
    go_ret
    exact ⟨⟨k,rfl,Or.inl ⟨k,hlt,rfl,by rw [←HCK.out];exact HY.out⟩⟩,hw2⟩
   ·have HN:=hide hno
    clear hno hsay
    go_wp2
    go_roundw
    case rel=>
     refine ⟨k+1,by omega,by go_num,hw2,fun j hj=> ?_⟩
     by_cases e:j=k
     ·subst e
      rw [←HCK.out]
      exact HN.out
     ·exact HG.out j (by omega)
    case measure=> simp [intOf];omega
  ·go_wp2
   go_ret
   exact ⟨⟨-1,rfl,Or.inr ⟨rfl,fun j hj=> HG.out j (by omega)⟩⟩,hw⟩
theorem containsNamed (w:World) (a:Option Addr) (cap:Nat) (l:List NodeD) (hl:l.length≤maxLen) (hs: ∀c∈l,c.Fits) (hS:Nodes w a l):
  Calls Tryz.prog 151 #[.slice a l.length cap,.func (.func 152) #[] #[]] w fun e w'=> Says e (SomeN l BadName)∧Kept w w':=by
 go_enter Tryz.func151,Tryz.ntmps151
 go_wp2_with fail
 refine (indexNamed _ a cap l hl hs hS).mono ?_
 rintro e w1 ⟨⟨r,rfl,hr⟩,k1⟩
 have HR:=hide hr
 clear hr
 by_cases h0:0≤r
 ·have h1:decide (0≤r)=true:=by simpa using h0
  go_wp2
  go_ret
  exact ⟨Says.yes (by rcases HR.out with ⟨i,hi,_,hp⟩ | ⟨rfl,_⟩;exact ⟨i,hi,hp⟩;omega),k1⟩
 ·have h1:decide (0≤r)=false:=by simpa using h0
  go_wp2
  go_ret
  exact ⟨Says.no (by rcases HR.out with ⟨i,hi,rfl,hp⟩ | ⟨rfl,hno⟩;omega;exact fun ⟨i,hi,hp⟩=> hno i hi hp),k1⟩
theorem containsMade (w:World) (a:Option Addr) (cap:Nat) (l:List NodeD) (hl:l.length≤maxLen) (hs: ∀c∈l,c.Fits) (hS:Nodes w a l):
  Calls Tryz.prog 151 #[.slice a l.length cap,.func (.func 154) #[] #[]] w fun e w'=> Says e (SomeN l BadMade)∧Kept w w':=by
 go_enter Tryz.func151,Tryz.ntmps151
 go_wp2_with fail
 refine (indexMade _ a cap l hl hs hS).mono ?_
 rintro e w1 ⟨⟨r,rfl,hr⟩,k1⟩
 have HR:=hide hr
 clear hr
 by_cases h0:0≤r
 ·have h1:decide (0≤r)=true:=by simpa using h0
  go_wp2
  go_ret
  exact ⟨Says.yes (by rcases HR.out with ⟨i,hi,_,hp⟩ | ⟨rfl,_⟩;exact ⟨i,hi,hp⟩;omega),k1⟩
 ·have h1:decide (0≤r)=false:=by simpa using h0
  go_wp2
  go_ret
  exact ⟨Says.no (by rcases HR.out with ⟨i,hi,rfl,hp⟩ | ⟨rfl,hno⟩;omega;exact fun ⟨i,hi,hp⟩=> hno i hi hp),k1⟩
def FallsAt (l:List NodeD) (i:Nat):Prop:=Op.bytesLess (l.getD i NodeD.zero).name.toList (l.getD (i+1) NodeD.zero).name.toList=false
def SomeFalls (l:List NodeD):Prop:= ∃i,i+1 < l.length∧FallsAt l i
def RisesTo (l:List NodeD) (k:Nat):Prop:= ∀j,j+1 < k→¬FallsAt l j
def WebCode (l:List NodeD) (c:Int):Prop:=
 (60 < l.length∧c=1)∨(¬60 < l.length∧SomeN l BadName∧c=2)∨(¬60 < l.length∧¬SomeN l BadName∧SomeFalls l∧c=3)∨
 (¬60 < l.length∧¬SomeN l BadName∧¬SomeFalls l∧SomeN l BadMade∧c=4)∨(¬60 < l.length∧¬SomeN l BadName∧¬SomeFalls l∧¬SomeN l BadMade∧c=0)
theorem WebCode.unique {l:List NodeD} {c c':Int} (h:WebCode l c) (h':WebCode l c'):c=c':=by
 rcases h with ⟨h1,rfl⟩ | ⟨h1,h2,rfl⟩ | ⟨h1,h2,h3,rfl⟩ | ⟨h1,h2,h3,h4,rfl⟩ | ⟨h1,h2,h3,h4,rfl⟩ <;>
  rcases h' with ⟨g1,rfl⟩ | ⟨g1,g2,rfl⟩ | ⟨g1,g2,g3,rfl⟩ | ⟨g1,g2,g3,g4,rfl⟩ | ⟨g1,g2,g3,g4,rfl⟩ <;> first | rfl | contradiction
set_option maxRecDepth 100000 in
set_option maxHeartbeats 3200000 in
theorem specCheckWeb_any (w:World) (a:Option Addr) (cap:Nat) (l:List NodeD) (hl:l.length≤maxLen) (hs: ∀s∈l,s.Fits) (hS:Nodes w a l):
  Calls Tryz.prog 60 #[.agg #[.slice a l.length cap]] w fun e w'=> (∃c,e= .returned (.int .i64 c)∧WebCode l c)∧Kept w w':=by
 unfold maxLen at hl
 have k0:Kept w (w.alloc (.cells #[.slice a l.length cap] 37)):= (Kept.refl _).alloc _
 by_cases a1: (60:Int) < l.length
 ·go_enter Tryz.func60,Tryz.ntmps60
  go_wp2
  go_ret
  exact ⟨⟨1,rfl,Or.inl ⟨by omega,rfl⟩⟩,k0⟩
 ·have a2:decide ((60:Int) < l.length)=false:=by simpa using a1
  go_enter Tryz.func60,Tryz.ntmps60
  go_wp2
  clear a2
  go_loopw [3] (fun i wr=> ∃k:Nat,k≤l.length∧i= .int .i64 k∧Kept (w.alloc (.cells #[.slice a l.length cap] 37)) wr∧NoneN l BadName k) (fun i _=> l.length - (intOf i).toNat)
  case atStart=> exact ⟨0,Nat.zero_le _,rfl,Kept.refl _,fun j hj=> absurd hj (Nat.not_lt_zero _)⟩
  case round=>
   obtain ⟨k,hk,rfl,hw,hg⟩:=hrel
   have HG:=hide hg
   clear hg
   obtain ⟨hc1,hf1⟩:=hw.rules
   have hz1:=hw.size
   simp only [World.size_alloc] at hz1
   by_cases hlt:k < l.length
   ·obtain ⟨b,o,cs,rfl,hb,hc,aa,ca,rfl,hA⟩:= (hS.kept k0).kept hw k hlt
    have hsz:=hs (l.getD k NodeD.zero) (by simp [List.getD,hlt])
    obtain ⟨d,hdk⟩: ∃d,d=l.getD k NodeD.zero:= ⟨_,rfl⟩
    rw [←hdk] at hc hsz
    have HDK:=hide hdk
    clear hdk
    have c0:=hc 0 _ rfl
    simp only [Nat.add_zero] at c0
    clear hc hA
    go_wp2_with fail
    refine (l1NameOk_any _ d.name hsz.name).mono ?_
    rintro e w1 ⟨hsay,hw1⟩
    have hw1':=Eq.symm hw1
    clear hw1
    subst hw1'
    rcases hsay.cases with ⟨rfl,hyes⟩ | ⟨rfl,hno⟩
    ·have HY:=hide hyes
     clear hyes hsay c0
     go_wp2
     go_roundw
     case rel=>
      refine ⟨k+1,by omega,by go_num,hw,fun j hj=> ?_⟩
      by_cases e:j=k
      ·subst e
       rw [←HDK.out]
       exact fun h=> h HY.out
      ·exact HG.out j (by omega)
     case measure=> simp [intOf];omega
    ·have HN:=hide hno
     clear hno hsay c0
     go_wp2
     go_ret
     exact ⟨⟨2,rfl,Or.inr (Or.inl ⟨by omega,⟨k,hlt,by rw [←HDK.out];exact HN.out⟩,rfl⟩)⟩,k0.trans hw⟩
   ·have HB:Hid (¬SomeN l BadName):=fun ⟨i,hi,h⟩=> HG.out i (by omega) h
    clear HG
    go_wp2
    clear hc1 hf1 hz1
    go_loopw [4] (fun i wr'=> ∃n:Nat,1≤n∧n≤l.length+1∧i= .int .i64 n∧Kept (w.alloc (.cells #[.slice a l.length cap] 37)) wr'∧RisesTo l n) (fun i _=> l.length+2 - (intOf i).toNat)
    case atStart=> exact ⟨1,by omega,by omega,rfl,hw,fun j hj=> absurd hj (by omega)⟩
    case round=>
     clear hw hk hlt
     obtain ⟨n,hn1,hn2,rfl,hw,hg⟩:=hrel
     have HG:=hide hg
     clear hg
     obtain ⟨hc1,hf1⟩:=hw.rules
     have hz1:=hw.size
     simp only [World.size_alloc] at hz1
     by_cases hlt:n < l.length
     ·obtain ⟨b,o,cs,rfl,hb,hc,aa,ca,rfl,hA⟩:= (hS.kept k0).kept hw (n - 1) (by omega)
      obtain ⟨b',o',cs',e',hb',hc',ba,da,rfl,hA'⟩:= (hS.kept k0).kept hw n hlt
      simp only [Option.some.injEq,Addr.mk.injEq,and_true] at e'
      obtain ⟨rfl,rfl⟩:=e'
      obtain ⟨x,hxk⟩: ∃x,x= (l.getD (n - 1) NodeD.zero):= ⟨_,rfl⟩
      obtain ⟨y,hyk⟩: ∃y,y= (l.getD n NodeD.zero):= ⟨_,rfl⟩
      rw [←hxk] at hc
      rw [←hyk] at hc'
      have HX:Hid (l.getD (n - 1) NodeD.zero=x):=hxk.symm
      have HYK:Hid (l.getD (n - 1+1) NodeD.zero=y):=by rw [hyk,show n - 1+1=n by omega];exact rfl
      clear hxk hyk hA hA'
      have c0:=hc 0 _ rfl
      have d0:=hc' 0 _ rfl
      simp only [Nat.add_zero] at c0 d0
      clear hc hc'
      have i0: (0:Int)≤(n:Int) - 1:=by omega
      have i1: (n:Int) - 1 < (l.length:Int):=by omega
      cases hbl:Op.bytesLess x.name.toList y.name.toList
      ·go_wp2
       go_region
       all_goals
        go_wp2
        go_ret
        exact ⟨⟨3,rfl,Or.inr (Or.inr (Or.inl ⟨by omega,HB.out,⟨n - 1,by omega,by unfold FallsAt;rw [HX.out,HYK.out];exact hbl⟩,rfl⟩))⟩,k0.trans (by repeat (first | apply Kept.drew | exact hw))⟩
      ·go_wp2
       go_region
       all_goals
        go_wp2
        go_roundw
        case rel=>
         refine ⟨n+1,by omega,by omega,by go_num,by repeat (first | apply Kept.drew | exact hw),fun j hj=> ?_⟩
         by_cases e:j=n - 1
         ·subst e
          unfold FallsAt
          rw [HX.out,HYK.out,hbl]
          simp
         ·exact HG.out j (by omega)
        case measure=> simp [intOf];omega
     ·have HC:Hid (¬SomeFalls l):=fun ⟨i,hi,h⟩=> HG.out i (by omega) h
      clear HG
      go_wp2
      clear hc1 hf1 hz1
      go_loopw [5] (fun i wr'=> ∃k:Nat,k≤l.length∧i= .int .i64 k∧Kept (w.alloc (.cells #[.slice a l.length cap] 37)) wr'∧NoneN l BadMade k) (fun i _=> l.length - (intOf i).toNat)
      case atStart=> exact ⟨0,Nat.zero_le _,rfl,hw,fun j hj=> absurd hj (Nat.not_lt_zero _)⟩
      case round=>
       clear hw hlt
       obtain ⟨k,hk,rfl,hw,hg⟩:=hrel
       have HG:=hide hg
       clear hg
       obtain ⟨hc1,hf1⟩:=hw.rules
       have hz1:=hw.size
       simp only [World.size_alloc] at hz1
       by_cases hlt:k < l.length
       ·obtain ⟨b,o,cs,rfl,hb,hc,aa,ca,rfl,hA⟩:= (hS.kept k0).kept hw k hlt
        have hsz:=hs (l.getD k NodeD.zero) (by simp [List.getD,hlt])
        obtain ⟨d,hdk⟩: ∃d,d=l.getD k NodeD.zero:= ⟨_,rfl⟩
        rw [←hdk] at hc hsz hA
        have HDK:=hide hdk
        clear hdk
        have c0:=hc 0 _ rfl
        have c1:=hc 1 _ rfl
        have c2:=hc 2 _ rfl
        simp only [Nat.add_zero] at c0
        clear hc
        go_wp2_with fail
        refine (specValidAction_any _ d.cost aa ca d.steps hsz.steps hsz.each hA).mono ?_
        rintro e w1 ⟨hsay,hw1⟩
        have hw2:=hw.trans hw1
        clear hw hw1 c0 c1 c2 hA hc1 hf1
        rcases hsay.cases with ⟨rfl,hyes⟩ | ⟨rfl,hno⟩
        ·have HY:=hide hyes
         clear hyes hsay
         go_wp2
         go_roundw
         case rel=>
          refine ⟨k+1,by omega,by go_num,hw2,fun j hj=> ?_⟩
          by_cases e:j=k
          ·subst e
           rw [←HDK.out]
           exact fun h=> h HY.out
          ·exact HG.out j (by omega)
         case measure=> simp [intOf];omega
        ·have HN:=hide hno
         clear hno hsay
         go_wp2
         go_ret
         exact ⟨⟨4,rfl,Or.inr (Or.inr (Or.inr (Or.inl ⟨by omega,HB.out,HC.out,⟨k,hlt,by rw [←HDK.out];exact HN.out⟩,rfl⟩)))⟩,k0.trans hw2⟩
       ·go_wp2
        go_ret
        exact ⟨⟨0,rfl,Or.inr (Or.inr (Or.inr (Or.inr ⟨by omega,HB.out,HC.out,fun ⟨i,hi,h⟩=> HG.out i (by omega) h,rfl⟩)))⟩,k0.trans hw⟩
def Packed (w:World) (cs:List Value) (l:List NodeD):Prop:=
 cs.length=l.length * 3∧(∀u∈cs,u.oneCell'=true)∧∀i,i < l.length→∃a cap,Steps w a (l.getD i NodeD.zero).steps∧∀t v,((l.getD i NodeD.zero).cells a cap)[t]? =some v→cs[i * 3+t]? =some v
theorem Packed.nil (w:World):Packed w [] []:= ⟨rfl,(fun u hu=> by cases hu),(fun i hi=> by simp at hi)⟩
theorem Packed.kept {w w':World} {cs:List Value} {l:List NodeD} (h:Packed w cs l) (k:Kept w w'):Packed w' cs l:=
 ⟨h.1,h.2.1,fun i hi=> by obtain ⟨a,cap,h1,h2⟩:=h.2.2 i hi;exact ⟨a,cap,h1.kept k,h2⟩⟩
theorem Packed.append {w:World} {c1 c2:List Value} {l1 l2:List NodeD} (h1:Packed w c1 l1) (h2:Packed w c2 l2):Packed w (c1++c2) (l1++l2):=by
 refine ⟨by rw [List.length_append,List.length_append,h1.1,h2.1,Nat.add_mul],fun u hu=> ?_,fun i hi=> ?_⟩
 ·rcases List.mem_append.1 hu with h | h
  ·exact h1.2.1 u h
  ·exact h2.2.1 u h
 ·by_cases hlt:i < l1.length
  ·have e: (l1++l2).getD i NodeD.zero=l1.getD i NodeD.zero:=by simp [List.getD,List.getElem?_append_left hlt]
   rw [e]
   obtain ⟨a,cap,g1,g2⟩:=h1.2.2 i hlt
   refine ⟨a,cap,g1,fun t v hv=> ?_⟩
   have:=g2 t v hv
   rw [List.getElem?_append_left (List.getElem?_eq_some_iff.1 this).1]
   exact this
  ·have hi2:i - l1.length < l2.length:=by rw [List.length_append] at hi;omega
   have e: (l1++l2).getD i NodeD.zero=l2.getD (i - l1.length) NodeD.zero:=by simp [List.getD,List.getElem?_append_right (by omega:l1.length≤i)]
   rw [e]
   obtain ⟨a,cap,g1,g2⟩:=h2.2.2 _ hi2
   refine ⟨a,cap,g1,fun t v hv=> ?_⟩
   have:=g2 t v hv
   rw [List.getElem?_append_right (by rw [h1.1];omega),h1.1]
   have e2:i * 3+t - l1.length * 3= (i - l1.length) * 3+t:=by omega
   rw [e2]
   exact this
theorem conv1 (W:World) (c:UInt8) (cap:Nat): (convert 145 9 (.slice (some ⟨W.heap.size,0,none⟩) 1 cap)).run Tryz.prog (W.alloc (.cells #[.int .u8 (c.toNat:Int)] 5))= .ok (.string ⟨#[c]⟩) (W.alloc (.cells #[.int .u8 (c.toNat:Int)] 5)):=
 run_convert_bytes_back (P:=Tryz.prog) _ 145 9 5 ⟨W.heap.size,0,none⟩ cap [c] Tryz.underlying145 Tryz.underlying5 Tryz.underlying9 (fun i hi=> by
  obtain rfl:i=0:=by simpa using hi
  simp [Addr.add])
theorem cons_ba (c:UInt8) (l:List UInt8): (⟨#[c]⟩:ByteArray)++ ⟨l.toArray⟩= ⟨(c :: l).toArray⟩:=by
 have:=ByteArray.mk_append_mk [c] l
 simpa using this
theorem digit_u8 (m:Nat): ((UInt8.ofNat (48+m % 10)).toNat:Int)=48+ (m:Int) % 10:=by
 have: (UInt8.ofNat (48+m % 10)).toNat=48+m % 10:=by
  rw [UInt8.toNat_ofNat']
  omega
 rw [this];omega
set_option maxRecDepth 100000 in
set_option maxHeartbeats 800000 in
theorem markText_any (w:World) (k:Nat) (h0:0 < k) (h1:k≤4611686018427387904):
  Calls Tryz.prog 49 #[.int .i64 k] w fun e w'=> e= .returned (.string (mtext k))∧Kept w w':=by
 go_enter Tryz.func49,Tryz.ntmps49
 go_wp2
 go_loopw [0,3] (fun x y wr=> ∃(m:Nat) (l:List UInt8),m≤k∧x= .int .i64 m∧y= .string ⟨l.toArray⟩∧mdig m l=mdig k []∧l.length+m≤4611686018427387904∧Kept w wr) (fun x _ _=> (intOf x).toNat)
 case atStart=> exact ⟨k,[],Nat.le_refl _,rfl,rfl,rfl,by simpa using h1,Kept.refl _⟩
 case round=>
  obtain ⟨m,l,hm,rfl,rfl,hd,hlen,hw⟩:=hrel
  have HD:=hide hd
  clear hd
  have hls: (⟨l.toArray⟩:ByteArray).size=l.length:=rfl
  by_cases hp: (0:Int) < m
  ·obtain ⟨c,hcd⟩: ∃c:UInt8,c=UInt8.ofNat (48+m % 10):= ⟨_,rfl⟩
   have hc:=conv1 wr c 1
   have hcn: (c.toNat:Int)=48+ (m:Int) % 10:=by rw [hcd];exact digit_u8 m
   rw [hcn] at hc
   have HC:=hide hcd
   clear hcd hcn
   go_wp2
   go_roundw
   case rel=>
    refine ⟨m / 10,c :: l,by omega,by go_num,by rw [cons_ba], ?_,by simp;omega,hw.alloc _⟩
    rw [←HD.out,mdig_pos (by omega:0 < m),HC.out]
   case measure=> simp [intOf];omega
  ·have hm0:m=0:=by omega
   subst hm0
   rw [mdig_zero] at HD
   go_wp2
   go_ret
   refine ⟨?_,hw⟩
   unfold mtext
   rw [←HD.out,←cons_ba]
   rfl
theorem markAt (k j:Nat) (h0:0 < k) (h1:k+j≤4611686018427387904): ∃s,s=mtext (k+j)∧∀W,Calls Tryz.prog 49 #[.int .i64 ((k:Int)+ (j:Int))] W fun e w'=> e= .returned (.string s)∧Kept W w':=
 ⟨_,rfl,fun W=> by
  have e0: (k:Int)+ (j:Int)= ((k+j:Nat):Int):=by omega
  rw [e0]
  exact markText_any W (k+j) (by omega) h1⟩
set_option maxHeartbeats 800000 in
theorem markStringS_any (w:World) (lo hi:Nat) (a:Option Addr) (cap:Nat) (l:List ByteArray) (k:Nat) (h0:0 < k) (h1:k+l.length≤4611686018427387904) (hS:StrsIn w lo hi a l):
  Calls Tryz.prog 23 #[.slice a l.length cap,.int .i64 k] w fun e w'=> e= .returned (.int .i64 ((k+l.length:Nat):Int))∧StrsIn w' lo hi a (markStrs l k)∧KeptBut lo hi w w':=by
 rcases hS with rfl | ⟨B,rfl,hlo,hhi,hr,hf⟩
 ·go_enter Tryz.func23,Tryz.ntmps23
  go_wp2
  go_loopw [1,5] (fun x i wr=> x= .int .i64 k∧i= .int .i64 0∧wr=w) (fun _ _ _=> 0)
  case atStart=> exact ⟨rfl,rfl,rfl⟩
  case round=>
   obtain ⟨rfl,rfl,rfl⟩:=hrel
   go_wp2
   go_ret
   exact ⟨by simp,.inl rfl,KeptBut.refl _ _ _⟩
 ·go_enter Tryz.func23,Tryz.ntmps23
  go_wp2
  go_loopw [1,5] (fun x i wr=> ∃j:Nat,j≤l.length∧i= .int .i64 j∧x= .int .i64 ((k:Int)+j)∧KeptBut lo hi w wr∧Row wr B l.length∧∀t,t < j→wr.cell? ⟨B,t,none⟩=some (.string (mtext (k+t)))) (fun _ i _=> l.length - (intOf i).toNat)
  case atStart=> exact ⟨0,Nat.zero_le _,rfl,by simp,KeptBut.refl _ _ _,hr,fun t ht=> absurd ht (Nat.not_lt_zero _)⟩
  case round=>
   obtain ⟨j,hj,rfl,rfl,hw,hr',hf'⟩:=hrel
   clear hr hf
   have HR:=hide hr'
   have HF:=hide hf'
   clear hf'
   by_cases hlt:j < l.length
   ·have hrl:=hr'.lt
    have HM:Hid (∃s,s=mtext (k+j)∧∀W,Calls Tryz.prog 49 #[.int .i64 ((k:Int)+ (j:Int))] W fun e w'=> e= .returned (.string s)∧Kept W w'):=markAt k j h0 (by omega)
    obtain ⟨s,hs,hm⟩:=HM.out
    have HS:=hide hs
    have HM1:=hide hm
    clear hs hm HM
    go_wp2_with fail
    refine (HM1.out _).mono ?_
    rintro e w1 ⟨rfl,k1⟩
    have hr1:=HR.out.kept k1
    have HR1:=hide hr1
    have HF1:Hid (∀t,t < j→w1.cell? ⟨B,t,none⟩=some (.string (mtext (k+t)))):=fun t ht=> by rw [k1.cell hrl];exact HF.out t ht
    obtain ⟨⟨old,hcell⟩,hfroz⟩:=hr1.at hlt
    have hw1:=hw.trans (.of_kept k1)
    clear HR HF hr' hr1 hw
    go_wp2
    go_roundw
    case rel=>
     refine ⟨j+1,by omega,by go_num,by go_num,hw1.setCell hlo hhi _,HR1.out.set _ rfl _,fun t ht=> ?_⟩
     by_cases e:t=j
     ·subst e
      rw [World.cell?_setCell_same _ _ _ hcell,HS.out]
     ·rw [World.cell?_setCell_other _ _ _ _ (by simp <;> omega)]
      exact HF1.out t (by omega)
    case measure=> simp [intOf];omega
   ·have:j=l.length:=by omega
    subst this
    go_wp2
    go_ret
    refine ⟨ret_int (by omega),.inr ⟨B,rfl,hlo,hhi,by rw [markStrs_length];exact HR.out,fun i hi'=> ?_⟩,hw⟩
    rw [markStrs_length] at hi'
    rw [markStrs_getD _ _ _ hi']
    exact HF.out i hi'
set_option maxHeartbeats 800000 in
theorem heldStringS_yes (w:World) (a:Option Addr) (cap:Nat) (l:List ByteArray) (k:Nat) (h0:0 < k) (h1:k+l.length≤4611686018427387904) (hS:Strs w a (markStrs l k)):
  Calls Tryz.prog 24 #[.slice a l.length cap,.int .i64 k] w fun e w'=> e= .returned (.int .i64 ((k+l.length:Nat):Int))∧Kept w w':=by
 go_enter Tryz.func24,Tryz.ntmps24
 go_wp2
 go_loopw [1,5] (fun x i wr=> ∃j:Nat,j≤l.length∧i= .int .i64 j∧x= .int .i64 ((k:Int)+j)∧Kept w wr) (fun _ i _=> l.length - (intOf i).toNat)
 case atStart=> exact ⟨0,Nat.zero_le _,rfl,by simp,Kept.refl _⟩
 case round=>
  obtain ⟨j,hj,rfl,rfl,hw⟩:=hrel
  by_cases hlt:j < l.length
  ·obtain ⟨b,o,rfl,hb,hc⟩:=hS j (by rw [markStrs_length];exact hlt)
   rw [markStrs_getD _ _ _ hlt] at hc
   have hbr:b < wr.heap.size:=Nat.lt_of_lt_of_le hb hw.size
   have hcr:wr.cell? ⟨b,o+j,none⟩=some (.string (mtext (k+j))):=by rw [hw.cell hb];exact hc
   clear hc
   obtain ⟨s,hs,hm⟩:=markAt k j h0 (by omega)
   rw [←hs] at hcr
   have HM1:=hide hm
   clear hs hm
   go_wp2
   go_region_with (go_at_call 49;refine (HM1.out _).mono ?_;rintro e w1 ⟨rfl,k1⟩;have kk:Kept wr w1:=Kept.trans (by repeat (first | apply Kept.drew | exact Kept.refl _)) k1;have hc1:= (kk.cell hbr).trans hcr)
   all_goals
    go_wp2
    go_roundw
    case rel=> exact ⟨j+1,by omega,by go_num,by go_num,by repeat (first | exact hw.trans kk | apply Kept.drew)⟩
    case measure=> simp [intOf];omega
  ·have:j=l.length:=by omega
   subst this
   go_wp2
   go_ret
   exact ⟨ret_int (by omega),hw⟩
end Go.Proofs.YteknkpfbjapoiaaGreatDoor
