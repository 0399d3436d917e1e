import Derived.Test.YteknkpfbjapoiaaGreatDoorKDataN
import Derived.Test.YteknkpfbjapoiaaGreatDoorKSRoots
import Derived.Test.YteknkpfbjapoiaaGreatDoorKWImpl5
namespace Go.Proofs.YteknkpfbjapoiaaGreatDoor
open Go.RowKit
theorem le_sum {α:Type} (f:α→Nat) {l:List α} {x:α} (h:x∈l):f x≤(l.map f).sum:=by
 induction l with
 | nil=> cases h
 | cons y r ih=>
  rcases List.mem_cons.1 h with rfl | h
  ·simp
  ·have:=ih h
   simp;omega
theorem small_of_sz {l:List StepD} {n:Nat} (h:szSteps l≤n):l.length≤n∧∀s∈l,s.asks.length≤n∧s.cases.length≤n:=by
 unfold szSteps at h
 refine ⟨by omega,fun s hs=> ?_⟩
 have h1:=le_sum szStepD hs
 have h2:szStepD s= (s.asks.length+ (s.asks.map (·.size)).sum)+ (s.cases.length+ (s.cases.map (·.text.size)).sum)+s.give.size:=rfl
 omega
def szNodeD (d:NodeD):Nat:=d.name.size+szSteps d.steps
set_option maxHeartbeats 800000 in
theorem szNode_any (w:World) (d:NodeD) (a:Option Addr) (cap:Nat) (left:Int) (hd:d.Fits) (hS:Steps w a d.steps) (h0:0≤left) (h1:left≤1048576):
  Calls Tryz.prog 58 #[.agg #[.string d.name,.int .i64 d.cost,.slice a d.steps.length cap],.int .i64 left] w fun e w'=> e= .returned (.int .i64 (szL (szNodeD d) left))∧Kept w w':=by
 have hn:=hd.name
 unfold maxLen at hn
 have k0:Kept w (w.alloc (.cells #[.string d.name,.int .i64 d.cost,.slice a d.steps.length cap] 92)):= (Kept.refl _).alloc _
 by_cases hle: (d.name.size:Int)≤left
 ·go_enter Tryz.func58,Tryz.ntmps58
  go_wp2_with fail
  refine (szAction_any _ d.cost a cap d.steps _ hd.steps hd.each (hS.kept k0) (by omega) (by omega)).mono ?_
  rintro e w1 ⟨rfl,k1⟩
  have k2:=k0.trans k1
  clear k0 k1
  by_cases hle2: (szSteps d.steps:Int)≤left - d.name.size
  ·rw [szL_pos hle2]
   go_wp2
   go_ret
   exact ⟨ret_int (by rw [szL_pos (by unfold szNodeD;omega)];unfold szNodeD;omega),k2⟩
  ·rw [szL_neg (by omega)]
   go_wp2
   go_ret
   exact ⟨ret_int (szL_neg (by unfold szNodeD;omega)).symm,k2⟩
 ·go_enter Tryz.func58,Tryz.ntmps58
  go_wp2
  go_ret
  exact ⟨ret_int (szL_neg (by unfold szNodeD;omega)).symm,k0⟩
set_option maxHeartbeats 800000 in
theorem eqNode_yes (w:World) (d:NodeD) (a a':Option Addr) (cap cap':Nat) (hd:d.Fits) (hS:Steps w a d.steps) (hS':Steps w a' d.steps):
  Calls Tryz.prog 84 #[.agg #[.string d.name,.int .i64 d.cost,.slice a d.steps.length cap],.agg #[.string d.name,.int .i64 d.cost,.slice a' d.steps.length cap']] w fun e w'=> e= .returned (.bool true)∧Kept w w':=by
 have k0:Kept w ((w.alloc (.cells #[.string d.name,.int .i64 d.cost,.slice a d.steps.length cap] 112)).alloc (.cells #[.string d.name,.int .i64 d.cost,.slice a' d.steps.length cap'] 112)):= ((Kept.refl _).alloc _).alloc _
 go_enter Tryz.func84,Tryz.ntmps84
 go_wp2_with fail
 refine (eqAction_yes _ d.cost a a' cap cap' d.steps hd.steps (fun s hs=> ⟨(hd.each s hs).asks,(hd.each s hs).cases⟩) (hS.kept (by repeat (first | apply Kept.drew | exact k0))) (hS'.kept (by repeat (first | apply Kept.drew | exact k0)))).mono ?_
 rintro e w1 ⟨rfl,k1⟩
 have k2:Kept w w1:=Kept.trans (by repeat (first | apply Kept.drew | exact k0)) k1
 clear k0 k1
 go_wp2
 go_ret
 exact ⟨rfl,k2⟩
theorem Tryz.sizeNode : (Tryz.prog.info? 112).map (·.size)=some 3:=by kernel_rfl
set_option maxHeartbeats 800000 in
theorem toNode_any (w:World) (d:NodeD) (a:Option Addr) (cap:Nat) (hl:d.steps.length≤1048576) (hs: ∀s∈d.steps,s.asks.length≤1048576∧s.cases.length≤1048576) (hS:Steps w a d.steps):
  Calls Tryz.prog 70 #[.agg #[.string d.name,.int .i64 d.cost,.slice a d.steps.length cap]] w fun e w'=> ∃b,e= .returned (.agg (d.cells (some ⟨b,0,none⟩) d.steps.length).toArray)∧StepsNew w' b d.steps∧Kept w w'∧w.heap.size≤b:=by
 go_enter Tryz.func70,Tryz.ntmps70
 go_wp2_with fail
 refine (toAction_any _ d.cost a cap d.steps hl hs (hS.kept (by repeat (first | apply Kept.alloc | exact Kept.refl _)))).mono ?_
 rintro e w1 ⟨b,rfl,hN,k1,hb⟩
 obtain ⟨hc1,hf1⟩:=k1.rules
 have hz1:=k1.size
 simp only [World.size_alloc] at hb hz1
 have K1:Kept w w1:=Kept.trans (by repeat (first | apply Kept.alloc | exact Kept.refl _)) k1
 have hrow1:Row w1 (w.heap.size+1) 3:=Row.kept (Row.alloc (by have:=Row.made (w.alloc (.cells #[.string d.name,.int .i64 d.cost,.slice a d.steps.length cap] 92)) #[.string ⟨#[]⟩,.int .i64 0,.slice none 0 0] 112;simpa using this) _) k1
 have HRow:=hide hrow1
 clear k1 hrow1
 go_wp2
 have hX:Row ((w1.setCell ⟨w.heap.size+1+1,1,none⟩ (.int .i64 d.cost)).setCell ⟨w.heap.size+1+1,2,none⟩ (.slice (some ⟨b,0,none⟩) d.steps.length d.steps.length)) (w.heap.size+1) 3:=Row.set (Row.set HRow.out _ rfl _) _ rfl _
 have hR:=World.rangeAt_setCells_same _ (w.heap.size+1) 0 (d.cells (some ⟨b,0,none⟩) d.steps.length) (hX.there (o:=0) (m:=3) (Nat.le_refl _))
 refine bodyPost_ret_cell (d.cells (some ⟨b,0,none⟩) d.steps.length) _ Tryz.results70 rfl hR Tryz.underlying112 rfl Tryz.sizeNode rfl ⟨b,rfl, ?_, ?_,by omega⟩
 ·repeat (first | (refine StepsNew.setCell ?_ (by simp <;> omega) _) | exact hN)
 ·repeat (first | (refine Kept.setCell ?_ (by simp <;> omega) _) | exact K1)
def szNodesD (l:List NodeD):Nat:=l.length+ (l.map szNodeD).sum
set_option maxHeartbeats 800000 in
theorem szNodeS_any (w:World) (a:Option Addr) (cap:Nat) (l:List NodeD) (left:Int) (hl:l.length≤maxLen) (hs: ∀s∈l,s.Fits)
  (hS:Nodes w a l) (h0:0≤left) (h1:left≤1048576):
  Calls Tryz.prog 29 #[.slice a l.length cap,.int .i64 left] w fun e w'=> e= .returned (.int .i64 (szL (szNodesD l) left))∧Kept w w':=by
 unfold maxLen at hl
 go_enter Tryz.func29,Tryz.ntmps29
 go_wp2
 ·go_ret
  exact ⟨ret_int (szL_neg (by unfold szNodesD;omega)).symm,Kept.refl _⟩
 ·go_loopw [1,5] (fun x i wr=> ∃k:Nat,k≤l.length∧i= .int .i64 k∧x= .int .i64 (left - l.length - sumTo szNodeD l k)∧0≤left - l.length - sumTo szNodeD l k∧Kept w wr) (fun _ i _=> l.length - (intOf i).toNat)
  case atStart=> exact ⟨0,Nat.zero_le _,rfl,by simp [sumTo_zero],by simp [sumTo_zero];omega,Kept.refl _⟩
  case round=>
   obtain ⟨k,hk,rfl,rfl,hge,hw⟩:=hrel
   by_cases hlt:k < l.length
   ·obtain ⟨b,o,cs,rfl,hb,hc,aa,ca,rfl,hA⟩:=hS.kept hw k hlt
    have hsz: (l.getD k NodeD.zero).Fits:=hs _ (by simp [List.getD,hlt])
    have HS:Hid (sumTo szNodeD l (k+1)=sumTo szNodeD l k+szNodeD (l.getD k NodeD.zero)):=sumTo_succ _ l _ k hlt
    have HT:=sumTo_le szNodeD l (k+1)
    generalize l.getD k NodeD.zero=s at *
    have c0:=hc 0 _ rfl
    have c1:=hc 1 _ rfl
    have c2:=hc 2 _ rfl
    simp only [Nat.add_zero] at c0
    clear hc
    go_wp2_with fail
    refine (szNode_any _ s aa ca _ hsz hA (by omega) (by omega)).mono ?_
    rintro e w1 ⟨rfl,hw1⟩
    have hw2:=hw.trans hw1
    by_cases hle: (szNodeD s:Int)≤left - l.length - sumTo szNodeD l k
    ·rw [szL_pos hle]
     clear c0 c1 c2 hA hw hw1
     go_wp2
     go_roundw
     case rel=> exact ⟨k+1,by omega,by go_num,by rw [HS.out];go_num,by rw [HS.out];omega,hw2⟩
     case measure=> simp [intOf];omega
    ·rw [szL_neg (by omega)]
     clear c0 c1 c2 hA hw hw1
     go_wp2
     go_ret
     exact ⟨ret_int (szL_neg (by unfold szNodesD;have:=HS.out;omega)).symm,hw2⟩
   ·go_wp2
    go_ret
    have:k=l.length:=by omega
    subst this
    rw [sumTo_all] at hge⊢
    exact ⟨ret_int (by rw [szL_pos (by unfold szNodesD;omega)];unfold szNodesD;omega),hw⟩
theorem Tryz.infoNode : (Tryz.prog.info? 112).map (fun i=> (i.zero,i.size,i.bytes))=some (some (.agg #[.string ⟨#[]⟩,.int .i64 0,.slice none 0 0]),3,48):=by kernel_rfl
set_option maxHeartbeats 800000 in
theorem toNodeS_any (w:World) (a:Option Addr) (cap:Nat) (l:List NodeD) (hl:l.length≤1048576) (hs: ∀s∈l,s.steps.length≤1048576∧∀x∈s.steps,x.asks.length≤1048576∧x.cases.length≤1048576)
  (hS:Nodes w a l):
  Calls Tryz.prog 34 #[.slice a l.length cap] w fun e w'=> ∃b,e= .returned (.slice (some ⟨b,0,none⟩) l.length l.length)∧NodesNew w' b l∧Kept w w'∧w.heap.size≤b:=by
 have hmk:=run_make_many (P:=Tryz.prog) 35 112 _ _ _ Tryz.underlying35 Tryz.infoNode .i64 .i64 l.length (by omega) (by omega)
 go_enter Tryz.func34,Tryz.ntmps34
 go_wp2
 clear hmk
 have hrow:=Row.made w (madeCells #[.string ⟨#[]⟩,.int .i64 0,.slice none 0 0] (l.length * 3)) 112
 rw [size_madeCells] at hrow
 have hkept:Kept w (w.alloc (.cells (madeCells #[.string ⟨#[]⟩,.int .i64 0,.slice none 0 0] (l.length * 3)) 112)):= (Kept.refl _).alloc _
 go_loopw [4] (fun i wr=> ∃k:Nat,k≤l.length∧i= .int .i64 k∧Kept w wr∧Row wr w.heap.size (l.length * 3)∧∀j,j < k→NodeNew wr w.heap.size j (l.getD j NodeD.zero)) (fun i _=> l.length - (intOf i).toNat)
 case atStart=> exact ⟨0,Nat.zero_le _,rfl,hkept,hrow,fun j hj=> absurd hj (Nat.not_lt_zero _)⟩
 case round=>
  obtain ⟨k,hk,rfl,hw,hr,hf⟩:=hrel
  clear hrow hkept
  by_cases hlt:k < l.length
  ·obtain ⟨b,o,cs,rfl,hb,hc,aa,ca,rfl,hA⟩:=hS.kept hw k hlt
   have hsz:=hs (l.getD k NodeD.zero) (by simp [List.getD,hlt])
   have HF:=hide hf
   clear hf
   generalize hs:l.getD k NodeD.zero=s at *
   have HSs:=hide hs
   clear hs
   have c0:=hc 0 _ rfl
   have c1:=hc 1 _ rfl
   have c2:=hc 2 _ rfl
   simp only [Nat.add_zero] at c0
   clear hc
   go_wp2_with fail
   refine (toNode_any _ s aa ca hsz.1 hsz.2 hA).mono ?_
   rintro e w1 ⟨b1,rfl,g1,hw1,g3⟩
   have hrl:=hr.lt
   have hw2:=hw.trans hw1
   have hr1:=hr.kept hw1
   generalize hcs:s.cells (some ⟨b1,0,none⟩) s.steps.length=cs
   have hlen:cs.length=3:=by rw [←hcs];rfl
   have hone:cs.toArray.all (·.oneCell')=true:=by rw [←hcs];exact NodeD.one s _ _
   have hth:w1.there w.heap.size (k * 3) cs.toArray.size:=by simpa [hlen] using hr1.there (o:=k * 3) (m:=3) (by omega)
   have hsize: (Tryz.prog.info? 112).map (·.size)=some cs.toArray.size:=by rw [Tryz.sizeNode];simp [hlen]
   have HCS:=hide hcs
   have HLEN:=hide hlen
   have HSZ:=hide hsize
   clear hcs hlen hsize
   have HR:Hid (Row w1 w.heap.size (l.length * 3)):=hr1
   have HF1:Hid (∀j,j < k→NodeNew w1 w.heap.size j (l.getD j NodeD.zero)):=fun j hj=> (HF.out j hj).kept hw1 hr.lt
   clear HF c0 c1 c2 hw hw1 hr hr1 hA
   go_wp2_with (refine wpList_store_mid rfl 112 _ _ rfl w.heap.size (k * 3) cs.toArray rfl rfl hth (unhide HSZ) hone ?_)
   go_roundw
   case rel=>
    refine ⟨k+1,by omega,by go_num,Kept.setCells (Nat.le_refl _) _ _ hw2,Row.setCells _ _ HR.out,fun j hj=> ?_⟩
    by_cases e:j=k
    ·subst e
     rw [unhide HSs]
     exact ⟨b1,by omega,by rw [HCS.out];exact World.rangeAt_setCells_same _ _ _ _ (by simpa using hth),StepsNew.setCellsBelow g1 (by omega)⟩
    ·exact (HF1.out j (by omega)).setCells (by rw [HLEN.out];omega)
   case measure=> simp [intOf];omega
  ·go_wp2
   go_ret
   have:k=l.length:=by omega
   subst this
   exact ⟨w.heap.size,rfl,⟨hr.lt,hf⟩,hw,Nat.le_refl _⟩
set_option maxHeartbeats 1600000 in
theorem eqNodeS_yes (w:World) (a a':Option Addr) (cap cap':Nat) (l:List NodeD) (hl:l.length≤maxLen) (hs: ∀s∈l,s.Fits)
  (hS:Nodes w a l) (hS':Nodes w a' l):
  Calls Tryz.prog 40 #[.slice a l.length cap,.slice a' l.length cap'] w fun e w'=> e= .returned (.bool true)∧Kept w w':=by
 unfold maxLen at hl
 go_enter Tryz.func40,Tryz.ntmps40
 go_wp2
 go_loopw [5] (fun i wr=> ∃k:Nat,k≤l.length∧i= .int .i64 k∧Kept w wr) (fun i _=> l.length - (intOf i).toNat)
 case atStart=> exact ⟨0,Nat.zero_le _,rfl,Kept.refl _⟩
 case round=>
  obtain ⟨k,hk,rfl,hw⟩:=hrel
  by_cases hlt:k < l.length
  ·obtain ⟨b,o,cs,rfl,hb,hc,aa,ca,rfl,hA⟩:=hS.kept hw k hlt
   obtain ⟨b',o',cs',rfl,hb',hc',ba,da,rfl,hA'⟩:=hS'.kept hw k hlt
   have hsz:=hs (l.getD k NodeD.zero) (by simp [List.getD,hlt])
   clear hs
   generalize l.getD k NodeD.zero=s at *
   have c0:=hc 0 _ rfl
   have c1:=hc 1 _ rfl
   have c2:=hc 2 _ rfl
   have d0:=hc' 0 _ rfl
   have d1:=hc' 1 _ rfl
   have d2:=hc' 2 _ rfl
   simp only [Nat.add_zero] at c0 d0
   clear hc hc'
   go_wp2
   go_region_with (go_at_call 84;refine (eqNode_yes _ s aa ba ca da hsz (hA.kept (by repeat (first | apply Kept.drew | exact Kept.refl _))) (hA'.kept (by repeat (first | apply Kept.drew | exact Kept.refl _)))).mono ?_;rintro e w1 ⟨rfl,hw1⟩)
   all_goals
    go_wp2
    go_roundw
    case rel=> exact ⟨k+1,by omega,by go_num,by repeat (first | assumption | apply Kept.drew | refine Kept.trans ?_ (by assumption))⟩
    case measure=> simp [intOf];omega
  ·go_wp2
   go_ret
   exact ⟨rfl,hw⟩
set_option maxHeartbeats 400000 in
theorem szWeb_any (w:World) (a:Option Addr) (cap:Nat) (l:List NodeD) (left:Int) (hl:l.length≤maxLen) (hs: ∀s∈l,s.Fits) (hS:Nodes w a l) (h0:0≤left) (h1:left≤1048576):
  Calls Tryz.prog 7 #[.agg #[.slice a l.length cap],.int .i64 left] w fun e w'=> e= .returned (.int .i64 (szL (szNodesD l) left))∧Kept w w':=by
 have k0:Kept w (w.alloc (.cells #[.slice a l.length cap] 24)):= (Kept.refl _).alloc _
 go_enter Tryz.func7,Tryz.ntmps7
 go_wp2_with fail
 refine (szNodeS_any _ a cap l left hl hs (hS.kept k0) h0 h1).mono ?_
 rintro e w1 ⟨rfl,k1⟩
 have k2:=k0.trans k1
 clear k0 k1
 by_cases hle: (szNodesD l:Int)≤left
 ·rw [szL_pos hle]
  go_wp2
  go_ret
  exact ⟨ret_int (szL_pos hle).symm,k2⟩
 ·rw [szL_neg (by omega)]
  go_wp2
  go_ret
  exact ⟨ret_int (szL_neg (by omega)).symm,k2⟩
theorem Tryz.sizeWeb : (Tryz.prog.info? 37).map (·.size)=some 1:=by kernel_rfl
set_option maxHeartbeats 400000 in
theorem toWeb_any (w:World) (a:Option Addr) (cap:Nat) (l:List NodeD) (hl:l.length≤1048576) (hs: ∀s∈l,s.steps.length≤1048576∧∀x∈s.steps,x.asks.length≤1048576∧x.cases.length≤1048576) (hS:Nodes w a l):
  Calls Tryz.prog 10 #[.agg #[.slice a l.length cap]] w fun e w'=> ∃b,e= .returned (.agg #[.slice (some ⟨b,0,none⟩) l.length l.length])∧NodesNew w' b l∧Kept w w'∧w.heap.size≤b:=by
 go_enter Tryz.func10,Tryz.ntmps10
 go_wp2_with fail
 refine (toNodeS_any _ a cap l hl hs (hS.kept (by repeat (first | apply Kept.alloc | exact Kept.refl _)))).mono ?_
 rintro e w1 ⟨b,rfl,hN,k1,hb⟩
 obtain ⟨hc1,hf1⟩:=k1.rules
 have hz1:=k1.size
 simp only [World.size_alloc] at hb hz1
 have K1:Kept w w1:=Kept.trans (by repeat (first | apply Kept.alloc | exact Kept.refl _)) k1
 have hrow1:Row w1 (w.heap.size+1) 1:=Row.kept (Row.alloc (by have:=Row.made (w.alloc (.cells #[.slice a l.length cap] 24)) #[.slice none 0 0] 37;simpa using this) _) k1
 have HRow:=hide hrow1
 clear k1 hrow1
 go_wp2
 have hX:Row (w1.setCell ⟨w.heap.size+1+1,0,none⟩ (.slice (some ⟨b,0,none⟩) l.length l.length)) (w.heap.size+1) 1:=Row.set HRow.out _ rfl _
 have hR:=World.rangeAt_setCells_same _ (w.heap.size+1) 0 [.slice (some ⟨b,0,none⟩) l.length l.length] (hX.there (o:=0) (m:=1) (Nat.le_refl _))
 refine bodyPost_ret_cell [.slice (some ⟨b,0,none⟩) l.length l.length] _ Tryz.results10 rfl hR Tryz.underlying37 rfl Tryz.sizeWeb rfl ⟨b,rfl, ?_, ?_,by omega⟩
 ·repeat (first | (refine NodesNew.setCell ?_ (by simp <;> omega) _) | exact hN)
 ·repeat (first | (refine Kept.setCell ?_ (by simp <;> omega) _) | exact K1)
set_option maxHeartbeats 400000 in
theorem eqWeb_yes (w:World) (a a':Option Addr) (cap cap':Nat) (l:List NodeD) (hl:l.length≤maxLen) (hs: ∀s∈l,s.Fits) (hS:Nodes w a l) (hS':Nodes w a' l):
  Calls Tryz.prog 14 #[.agg #[.slice a l.length cap],.agg #[.slice a' l.length cap']] w fun e w'=> e= .returned (.bool true)∧Kept w w':=by
 have k0:Kept w ((w.alloc (.cells #[.slice a l.length cap] 37)).alloc (.cells #[.slice a' l.length cap'] 37)):= ((Kept.refl _).alloc _).alloc _
 go_enter Tryz.func14,Tryz.ntmps14
 go_wp2_with fail
 refine (eqNodeS_yes _ a a' cap cap' l hl hs (hS.kept (by repeat (first | apply Kept.drew | exact k0))) (hS'.kept (by repeat (first | apply Kept.drew | exact k0)))).mono ?_
 rintro e w1 ⟨rfl,k1⟩
 have k2:Kept w w1:=Kept.trans (by repeat (first | apply Kept.drew | exact k0)) k1
 clear k0 k1
 go_wp2
 go_ret
 exact ⟨rfl,k2⟩
theorem less_trans : ∀(x y z:List UInt8),Op.bytesLess x y=true→Op.bytesLess y z=true→Op.bytesLess x z=true
 | [],[],_,h,_=> by simp [Op.bytesLess] at h
 | [],_ :: _,[],_,h=> by simp [Op.bytesLess] at h
 | [],_ :: _,_ :: _,_,_=> by simp [Op.bytesLess]
 | _ :: _,[],_,h,_=> by simp [Op.bytesLess] at h
 | _ :: _,_ :: _,[],_,h=> by simp [Op.bytesLess] at h
 | a :: x,b :: y,c :: z,h1,h2=> by
  have ih:=less_trans x y z
  simp only [Op.bytesLess,Bool.or_eq_true,Bool.and_eq_true,decide_eq_true_eq,beq_iff_eq] at h1 h2⊢
  rcases h1 with h1 | ⟨rfl,h1⟩
  ·rcases h2 with h2 | ⟨rfl,h2⟩
   ·exact .inl (UInt8.lt_trans h1 h2)
   ·exact .inl h1
  ·rcases h2 with h2 | ⟨rfl,h2⟩
   ·exact .inl h2
   ·exact .inr ⟨rfl,ih h1 h2⟩
theorem less_irrefl : ∀x:List UInt8,Op.bytesLess x x=false
 | []=> rfl
 | a :: x=> by
  have ih:=less_irrefl x
  simp [Op.bytesLess,ih]
theorem less_total : ∀x y:List UInt8,Op.bytesLess x y=false→x≠y→Op.bytesLess y x=true
 | [],[],_,h=> absurd rfl h
 | [],_ :: _,h,_=> by simp [Op.bytesLess] at h
 | _ :: _,[],_,_=> rfl
 | a :: x,b :: y,h,hne=> by
  have ih:=less_total x y
  simp only [Op.bytesLess,Bool.or_eq_false_iff,decide_eq_false_iff_not,Bool.and_eq_false_iff,beq_eq_false_iff_ne] at h
  simp only [Op.bytesLess,Bool.or_eq_true,Bool.and_eq_true,decide_eq_true_eq,beq_iff_eq]
  by_cases e:a=b
  ·subst e
   right
   refine ⟨rfl,ih ?_ (fun e=> hne (by rw [e]))⟩
   rcases h.2 with h2 | h2
   ·exact absurd rfl h2
   ·exact h2
  ·left
   have h1:=h.1
   rw [UInt8.not_lt] at h1
   exact UInt8.lt_of_le_of_ne h1 (fun e'=> e e'.symm)
def nameAt (l:List NodeD) (i:Nat):List UInt8:= (l.getD i NodeD.zero).name.toList
def Rises (l:List NodeD):Prop:= ∀i j,i < j→j < l.length→Op.bytesLess (nameAt l i) (nameAt l j)=true
theorem rises_of {l:List NodeD} (h: ∀i,i+1 < l.length→Op.bytesLess (nameAt l i) (nameAt l (i+1))=true):Rises l:=by
 intro i j hij hj
 induction j with
 | zero=> omega
 | succ j ih=>
  by_cases e:i=j
  ·subst e;exact h i hj
  ·exact less_trans _ _ _ (ih (by omega) (by omega)) (h j hj)
structure Place (l:List NodeD) (key:List UInt8) (p:Nat):Prop where
 le:p≤l.length
 before: ∀j,j < p→Op.bytesLess (nameAt l j) key=true
 behind: ∀j,p≤j→j < l.length→Op.bytesLess (nameAt l j) key=false
theorem Place.only {l:List NodeD} {key:List UInt8} {p j:Nat} (hr:Rises l) (h:Place l key p) (hj:j < l.length) (e:nameAt l j=key):j=p:=by
 by_cases h1:j < p
 ·have:=h.before j h1
  rw [e,less_irrefl] at this
  cases this
 ·by_cases h2:p < j
  ·have h3:=hr p j h2 hj
   rw [e] at h3
   have:=h.behind p (Nat.le_refl _) (by omega)
   rw [h3] at this
   cases this
  ·omega
def stepAt (l:List StepD) (at':Int):StepD:=l.getD at'.toNat StepD.zero
def FrontGo (cost:Int) (l:List StepD) (at':Int):Prop:=ActionOk ⟨cost,l⟩∧(0≤at'∧at' < l.length)∧(stepAt l at').fin=false
def WentOn (cost:Int) (l:List StepD) (at':Int) (ans:List AnswerD) (g:GoneD):Prop:=
 (¬FrontGo cost l at'∧g=GoneD.none)∨(FrontGo cost l at'∧Followed (stepAt l at') ans g)
theorem WentOn.unique {cost:Int} {l:List StepD} {at':Int} {ans:List AnswerD} {g g':GoneD} (h:WentOn cost l at' ans g) (h':WentOn cost l at' ans g'):g=g':=by
 rcases h with ⟨h0,rfl⟩ | ⟨h0,h1⟩ <;> rcases h' with ⟨g0,rfl⟩ | ⟨g0,g1⟩
 ·rfl
 ·exact absurd g0 h0
 ·exact absurd h0 g0
 ·exact h1.unique g1
set_option maxRecDepth 100000 in
set_option maxHeartbeats 3200000 in
theorem specGoOn_no (w:World) (cost at':Int) (a d:Option Addr) (cap dcap:Nat) (l:List StepD) (ans:List AnswerD) (hl:l.length≤maxLen) (hs: ∀s∈l,s.Fits) (hS:Steps w a l)
  (hal:ans.length≤maxLen) (_has: ∀c∈ans,c.text.size≤maxLen) (_hD:Answers w d ans)
  (hF:Hid (¬(FrontGo cost l at'∧ans.length= (stepAt l at').asks.length))):
  Calls Tryz.prog 100 #[.agg #[.int .i64 cost,.slice a l.length cap],.int .i64 at',.slice d ans.length dcap] w fun e w'=> (∃g,e= .returned (.agg g.cells.toArray)∧WentOn cost l at' ans g)∧Kept w w':=by
 have hl':=hl
 have hal':=hal
 unfold maxLen at hl' hal'
 have k0:Kept w ((w.alloc (.cells #[.int .i64 cost,.slice a l.length cap] 110)).alloc (.cells #[.int .i64 0,.bool false,.int .i64 0,.string ⟨#[]⟩] 168)):= ((Kept.refl _).alloc _).alloc _
 go_enter Tryz.func100,Tryz.ntmps100
 go_wp2_with fail
 refine (specValidAction_any _ cost a cap l hl hs (hS.kept k0)).mono ?_
 rintro e w1 ⟨hsay,k1⟩
 have K1:=k0.trans k1
 have hrow1:Row w1 (w.heap.size+1) 4:=Row.kept (by have:=Row.made (w.alloc (.cells #[.int .i64 cost,.slice a l.length cap] 110)) #[.int .i64 0,.bool false,.int .i64 0,.string ⟨#[]⟩] 168;simpa using this) k1
 have HROW:=hide hrow1
 clear hrow1
 obtain ⟨hc1,hf1⟩:=k1.rules
 have hz1:=k1.size
 simp only [World.size_alloc] at hz1
 have x0:w.heap.size < w1.heap.size:=by omega
 have x1:w.heap.size+1 < w1.heap.size:=by omega
 rcases hsay.cases with ⟨rfl,hyes⟩ | ⟨rfl,hno⟩
 ·have HV:=hide hyes
  clear hyes hsay k0 k1
  by_cases p1:0≤at'
  ·cases p2:decide (at'≤(l.length:Int) - 1)
   ·have p2': (l.length:Int) - 1 < at':=by simpa using p2
    go_wp2
    have hR:=World.rangeAt_setCells_same w1 (w.heap.size+1) 0 GoneD.none.cells (HROW.out.there (o:=0) (m:=4) (Nat.le_refl _))
    exact bodyPost_ret_cell GoneD.none.cells _ Tryz.results100 rfl hR Tryz.underlying168 rfl Tryz.sizeGone rfl ⟨⟨_,rfl,Or.inl ⟨fun h=> (by have:=h.2.1;omega),rfl⟩⟩,Kept.setCells (g:=w.heap.size+1) (by omega) GoneD.none.cells 0 K1⟩
   ·have p2':at'≤(l.length:Int) - 1:=by simpa using p2
    obtain ⟨n,rfl⟩:=Int.eq_ofNat_of_zero_le p1
    have hlt:n < l.length:=by omega
    obtain ⟨b,o,cs,rfl,hb,hc,aa,ca,ac,cc,rfl,hA,hC,hca⟩:=hS.kept K1 n hlt
    have hsz:=hs (l.getD n StepD.zero) (by simp [List.getD,hlt])
    obtain ⟨s,hsk⟩: ∃s,s=l.getD n StepD.zero:= ⟨_,rfl⟩
    rw [←hsk] at hc hsz hA hC hca
    have HSK:Hid (stepAt l n=s):=by rw [hsk];show Hid (l.getD (n:Int).toNat StepD.zero=_);rw [Int.toNat_natCast];exact rfl
    have HOK:Hid (StepOk s l.length):=by rw [hsk];exact HV.out.2.2 n hlt
    clear hsk
    have c0:=hc 0 _ rfl
    have c1:=hc 1 _ rfl
    have c2:=hc 2 _ rfl
    have c3:=hc 3 _ rfl
    have c4:=hc 4 _ rfl
    have c5:=hc 5 _ rfl
    have c6:=hc 6 _ rfl
    have c7:=hc 7 _ rfl
    simp only [Nat.add_zero] at c0
    clear hc
    cases hfin:s.fin
    ·rw [hfin] at c5
     have HF:Hid (FrontGo cost l n):= ⟨HV.out,⟨by omega,by omega⟩,by rw [HSK.out];exact hfin⟩
     have hne:ans.length≠s.asks.length:=fun h=> hF.out ⟨HF.out,by rw [HSK.out];exact h⟩
     have hneq: ((ans.length:Int) != (s.asks.length:Int))=true:=by simp;omega
     have HNE:=hide hne
     clear hne
     go_wp2
     have hR:=World.rangeAt_setCells_same w1 (w.heap.size+1) 0 GoneD.none.cells (HROW.out.there (o:=0) (m:=4) (Nat.le_refl _))
     exact bodyPost_ret_cell GoneD.none.cells _ Tryz.results100 rfl hR Tryz.underlying168 rfl Tryz.sizeGone rfl ⟨⟨_,rfl,Or.inr ⟨HF.out,Or.inl ⟨fun h=> HNE.out (by have:=h.1;rw [HSK.out] at this;exact this),rfl⟩⟩⟩,Kept.setCells (g:=w.heap.size+1) (by omega) GoneD.none.cells 0 K1⟩
    ·rw [hfin] at c5
     go_wp2
     have hR:=World.rangeAt_setCells_same w1 (w.heap.size+1) 0 GoneD.none.cells (HROW.out.there (o:=0) (m:=4) (Nat.le_refl _))
     exact bodyPost_ret_cell GoneD.none.cells _ Tryz.results100 rfl hR Tryz.underlying168 rfl Tryz.sizeGone rfl ⟨⟨_,rfl,Or.inl ⟨fun h=> (by have:=h.2.2;rw [HSK.out,hfin] at this;cases this),rfl⟩⟩,Kept.setCells (g:=w.heap.size+1) (by omega) GoneD.none.cells 0 K1⟩
  ·skip
   go_wp2
   have hR:=World.rangeAt_setCells_same w1 (w.heap.size+1) 0 GoneD.none.cells (HROW.out.there (o:=0) (m:=4) (Nat.le_refl _))
   exact bodyPost_ret_cell GoneD.none.cells _ Tryz.results100 rfl hR Tryz.underlying168 rfl Tryz.sizeGone rfl ⟨⟨_,rfl,Or.inl ⟨fun h=> (by have:=h.2.1;omega),rfl⟩⟩,Kept.setCells (g:=w.heap.size+1) (by omega) GoneD.none.cells 0 K1⟩
 ·have HV:=hide hno
  clear hno hsay k0 k1
  go_wp2
  have hR:=World.rangeAt_setCells_same w1 (w.heap.size+1) 0 GoneD.none.cells (HROW.out.there (o:=0) (m:=4) (Nat.le_refl _))
  exact bodyPost_ret_cell GoneD.none.cells _ Tryz.results100 rfl hR Tryz.underlying168 rfl Tryz.sizeGone rfl ⟨⟨_,rfl,Or.inl ⟨fun h=> HV.out h.1,rfl⟩⟩,Kept.setCells (g:=w.heap.size+1) (by omega) GoneD.none.cells 0 K1⟩
end Go.Proofs.YteknkpfbjapoiaaGreatDoor
