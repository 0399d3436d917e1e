import Derived.Test.YteknkpfbjapoiaaGreatDoorKBWaitsI
import Derived.Test.YteknkpfbjapoiaaGreatDoorKCNeeds
import Derived.Test.YteknkpfbjapoiaaGreatDoorKCTold
import Derived.Deep.Cut
import Derived.Test.YteknkpfbjapoiaaGreatDoorKVStuckP
import Derived.Test.YteknkpfbjapoiaaGreatDoorKXStuck
import Derived.Test.YteknkpfbjapoiaaGreatDoorKLReady
namespace Go.Proofs.YteknkpfbjapoiaaGreatDoor
open Go.RowKit
def StuckIEnd (webl:List NodeD) (roots:List ByteArray) (sl:List RunX) (w w':World) (e:Ending):Prop:=
 ∃(da:Option Addr) (ns:List ByteArray),e= .returned (.slice da ns.length ns.length)∧StrsIn w' w.heap.size w'.heap.size da ns∧StuckAns webl roots sl ns∧Kept w w'
set_option maxRecDepth 100000 in
set_option maxHeartbeats 6400000 in
theorem implStuck_any (w:World) (a:Option Addr) (cap:Nat) (webl:List NodeD) (rd:Option Addr) (rc:Nat) (roots:List ByteArray) (ga:Option Addr) (gc:Nat) (sl:List RunX) (hl:webl.length≤1048576) (hf: ∀s∈webl,s.Fits) (hrl:roots.length≤maxLen) (hrc:roots.length≤rc) (hrs: ∀s∈roots,s.size≤maxLen) (hsl:sl.length≤1048576) (hst: ∀r∈sl,r.texts.length≤1048576) (hS:Nodes w a webl) (hR:Strs w rd roots) (hG:RunsX w ga sl) (hFi:FinishOk w):
  Calls Tryz.prog 26 #[.agg #[.slice a webl.length cap],.agg #[.slice rd roots.length rc,.slice ga sl.length gc]] w fun e w'=> StuckIEnd webl roots sl w w' e:=by
 have k0:Kept w ((w.alloc (.cells #[.slice a webl.length cap] 37)).alloc (.cells #[.slice rd roots.length rc,.slice ga sl.length gc] 41)):= ((Kept.refl _).alloc _).alloc _
 go_enter Tryz.func26,Tryz.ntmps26
 go_wp2_with fail
 refine (resume_any _ a cap webl rd rc roots ga gc sl hl hf hrl hrc hrs hsl hst (hS.kept k0) (hR.kept k0) (hG.kept k0) (hFi.kept k0)).mono ?_
 rintro e w1 ⟨k1,hcase⟩
 have K1:=k0.trans k1
 rcases hcase with ⟨hno,rfl⟩ | ⟨hW,hRo,hA,wz,bb,mb,mx,ts,d,dc,f,ws,b,rfl,kz,hB,hBS,hmx,hb,hled,hend⟩
 ·have HNo:=hide hno
  clear hno k1 k0
  go_wp2_with fail
  go_ret
  exact ⟨none,[],rfl,.inl rfl,⟨Nat.zero_le _,.inr ⟨fun h=> HNo.out ⟨h.1,h.2.1,h.good.asc⟩,rfl⟩⟩,K1⟩
 have HV:=hide (hb.trans (res_valid hW hRo hBS hled hend))
 have HBi:=hide hb
 have HB:=hide hB
 have HBS:=hide hBS
 have HW:=hide hW
 clear hRo hA kz hb hled hend k1 k0 hB hBS hW
 cases b
 ·go_wp2_with fail
  go_ret
  exact ⟨none,[],rfl,.inl rfl,⟨Nat.zero_le _,.inr ⟨fun h=> (by have h2:=HV.out.2 h;cases h2),rfl⟩⟩,K1⟩
 have HRn:Hid (runsOf ts=sl):=HBi.out.1 rfl
 have HVx:Hid (ValidX webl roots sl):=HV.out.1 rfl
 clear HBi HV
 have hN6:=HB.out.len (web_len HW.out)
 go_wp2_with fail
 refine (waits_any HB.out HBS.out (web_acts HW.out) hmx hN6).mono ?_
 rintro e w2 ⟨mo,M,g,ol,rfl,hO,hI,hM,k2⟩
 have HIff:Hid ((fun x y=> y∈ol x)=WaitsX (actsOf webl) (envOf sl)):=by
  show _=_
  funext x y
  rw [hI.iff,←HRn.out,waitsOn_iff HBS.out (by rw [HRn.out];exact HVx.out.asked)]
  simp
 have HOn:Hid (∀s,ol s≠[]→s∈ts.map (·.r.name)):=fun s hs=> by
  obtain ⟨y,hy⟩:=List.exists_mem_of_ne_nil _ hs
  obtain ⟨_,t,ht,hn,_⟩:= (hI.iff s y).1 hy
  rw [←hn]
  exact List.mem_map.2 ⟨t,ht,rfl⟩
 have HKs:Hid (∀s,ol s≠[]→s.size≤20):=fun s hs=> by
  obtain ⟨t,ht,rfl⟩:=List.mem_map.1 (HOn.out s hs)
  obtain ⟨A,hA,_⟩:= (HBS.out.good.good t.r (List.mem_map_of_mem (f:=fun t:TaskM=> t.r) ht)).act
  exact (web_acts HW.out _ _ hA).2.2.1
 have HLm:Hid (ListsM w2 mo (fun s=> ol s≠[]) ol):=by
  obtain ⟨N,D,hN,hMp,hf,hh⟩:=hO.map
  refine ⟨⟨N,D,by omega,hMp,fun s hs=> ?_,hh⟩,fun s h=> h⟩
  obtain ⟨va,vc,hg⟩:=own_slice (hO.row s)
  have hrow:=hO.row s
  obtain ⟨a9,c9,e9,hst9⟩:=owned_strs hrow
  exact ⟨a9,c9,by rw [hf s hs,e9],hst9⟩
 have HLen:Hid (∀s,(ol s).length≤1000000):=fun s=> by have:=hI.len s;omega
 clear hO hI
 go_wp2_with fail
 refine (needsOf_any w2 mo _ ol (ts.map (·.r.name)) HOn.out (by rw [List.length_map];exact hN6) HKs.out HLen.out HLm.out).mono ?_
 rintro e w1b ⟨na,nc,nm,nb,mb,M,need,back,rfl,hasc,hmem,hV,hR,hMM,k1b⟩
 have hn60:nm.length≤60:=by
  refine Nat.le_trans (List.Nodup.length_le_of_subset ?_ (fun x hx=> HOn.out x ((hmem x).1 hx))) (by rw [List.length_map];exact hN6)
  exact hasc.imp fun {a b} hab=> lessX_ne hab
 have HPl:Hid (Places (fun x y=> y∈ol x) nm):= ⟨hasc,fun x y hxy=> (hmem x).2 (fun e=> by rw [e] at hxy;cases hxy)⟩
 have HSm:Hid (∀s∈nm,s.size≤1048576):=fun s hs=> by have:=HKs.out s ((hmem s).1 hs);omega
 have HR:=hide hR
 have HNm:Hid (∀s∈nm,s∈sl.map (·.name)):=fun s hs=> by
  have h:=HOn.out s ((hmem s).1 hs)
  rw [←HRn.out]
  obtain ⟨t,ht,rfl⟩:=List.mem_map.1 h
  exact List.mem_map.2 ⟨t.r,List.mem_map_of_mem (f:=fun t:TaskM=> t.r) ht,rfl⟩
 obtain ⟨W2,hW2⟩: ∃W2,W2=w1b.alloc (.cells #[.slice na nm.length nc,.slice (some ⟨nb,0,none⟩) nm.length nm.length,.slice (some ⟨mb,0,none⟩) nm.length nm.length] 81):= ⟨_,rfl⟩
 have kz2:Kept w1b W2:=by rw [hW2];exact (Kept.refl _).alloc _
 obtain ⟨xb,hxb⟩: ∃xb,xb=w1b.heap.size:= ⟨_,rfl⟩
 have HSO:Hid (∀u,Kept W2 u→u.cell? ⟨xb,0,none⟩=some (.slice na nm.length nc)∧u.cell? ⟨xb,1,none⟩=some (.slice (some ⟨nb,0,none⟩) nm.length nm.length)∧u.cell? ⟨xb,2,none⟩=some (.slice (some ⟨mb,0,none⟩) nm.length nm.length)):=fun u k=> by
  have z1:w1b.heap.size < W2.heap.size:=by rw [hW2];simp
  have h:=range_new w1b #[.slice na nm.length nc,.slice (some ⟨nb,0,none⟩) nm.length nm.length,.slice (some ⟨mb,0,none⟩) nm.length nm.length] 81
  rw [←hW2] at h
  rw [hxb]
  exact ⟨(k.cell z1).trans (h 0 _ rfl),(k.cell z1).trans (h 1 _ rfl),(k.cell z1).trans (h 2 _ rfl)⟩
 have HV2:=hide (hV.kept kz2)
 have HK2:=hide (k1b.trans kz2)
 have HW2:=hide hW2
 have HXb:=hide hxb
 clear hasc hmem hV hR k1b kz2 hW2 hxb
 go_upto_region 5 with fail
 rw [←HW2.out,←HXb.out]
 refine UpTo.region (by kernel_rfl) (fun u=> u.cell? ⟨xb,0,none⟩=some (.slice na nm.length nc)∧u.cell? ⟨xb,1,none⟩=some (.slice (some ⟨nb,0,none⟩) nm.length nm.length)∧u.cell? ⟨xb,2,none⟩=some (.slice (some ⟨mb,0,none⟩) nm.length nm.length)) 4 (HSO.out _ ((Kept.refl W2).drew)) (fun hHeld=> ?_)
 have KD:Kept W2 W2.drew:= (Kept.refl W2).drew
 generalize hwd:W2.drew=wd at hHeld KD⊢
 clear hwd
 refine UpTo.tk 0 [3,4] hHeld ?_
 try simp only [Act.put,upA,upB,upC]
 refine UpTo.tk 1 [2,3,4] hHeld ?_
 try simp only [Act.put,upA,upB,upC]
 refine UpTo.nx 2 (fun K hK=> ?_)
 rw [if_pos (by rfl)]
 go_simp
 go_at_call 55
 refine (stuck_any wd na nc nm nb mb need back _ M hn60 hMM (HV2.out.kept KD) HR.out).mono ?_
 rintro e w3 ⟨pa,pc,best,cs,rfl,hNb,hb60,hbp,hcs,hbe,k3⟩
 have K3:=KD.trans k3
 have HNb:=hide hNb
 have HBe:Hid (StuckL (fun x y=> y∈ol x) (sl.map (·.name)) (best.map (nameOf nm))):=stuck_names HPl.out HNm.out hcs hbe hbp
 have HBm:Hid (∀p∈best,p < nm.length):=fun p hp=> ((hbe p).1 hp).1
 clear hNb hbe hbp hcs
 dsimp only
 refine hK.out _ _ (fun _=> HSO.out _ K3) ?_
 clear hK K hHeld
 try simp only [Act.put,upA,upB,upC]
 refine UpTo.nx 3 (fun K hK=> ?_)
 rw [if_pos (by rfl)]
 go_simp
 go_at_call 54
 refine (told_any w3 na nc nm _ _ rfl rfl pa pc best HBm.out (by omega) (by omega) HSm.out (HV2.out.kept K3).names HNb.out).mono ?_
 rintro e w4 ⟨da,rfl,hT,k4⟩
 have K4:=K3.trans k4
 have HT:=hide hT
 have HK3:=hide (HK2.out.trans K3)
 clear hT
 dsimp only
 refine hK.out _ _ (fun _=> HSO.out _ K4) ?_
 clear hK K
 try simp only [Act.put,upA,upB,upC]
 refine UpTo.nx 4 (fun K hK=> ?_)
 go_simp
 refine hK.out _ _ (fun h=> absurd rfl h) ?_
 clear hK K
 try simp only [Act.put,upA,upB,upC]
 refine UpTo.done (by kernel_rfl) ?_
 clear HSO HR
 go_wp2_with fail
 go_ret
 have K2w:=K1.trans k2
 refine ⟨da,best.map (nameOf nm),by rw [List.length_map];rfl,HT.out.mono (Nat.le_trans K2w.size HK3.out.size) (Nat.le_refl _),⟨by rw [List.length_map];exact hb60,.inl ⟨HVx.out,by rw [←HIff.out];exact HBe.out⟩⟩,K2w.trans (HK3.out.trans k4)⟩
set_option maxRecDepth 100000 in
set_option maxHeartbeats 12800000 in
theorem lawStuck (w:World) (a:Option Addr) (cap:Nat) (l:List NodeD) (rd:Option Addr) (rc:Nat) (roots:List ByteArray) (ga:Option Addr) (gc:Nat) (sl:List RunX) (hl:l.length≤maxLen) (hs: ∀s∈l,s.Fits) (hrl:roots.length≤maxLen) (hrs: ∀s∈roots,s.size≤maxLen) (hsl:sl.length≤maxLen) (hsf: ∀r∈sl,r.Fits) (hN:Nodes w a l) (hR:Strs w rd roots) (hG:RunsX w ga sl) (hFi:FinishOk w):
  Calls Tryz.prog 5 #[.agg #[.slice a l.length cap],.agg #[.slice rd roots.length rc,.slice ga sl.length gc]] w fun e w'=> e= .returned (.bool true)∧Kept w w':=by
 obtain ⟨W0,hW0⟩: ∃W0,W0= (w.alloc (.cells #[.slice a l.length cap] 24)).alloc (.cells #[.slice rd roots.length rc,.slice ga sl.length gc] 28):= ⟨_,rfl⟩
 have k0:Kept w W0:=by rw [hW0];exact ((Kept.refl _).alloc _).alloc _
 have HBox:Hid (∀w',Kept W0 w'→(fun w'=> w'.cell? ⟨w.heap.size,0,none⟩=some (.slice a l.length cap)∧w'.cell? ⟨w.heap.size+1,0,none⟩=some (.slice rd roots.length rc)∧w'.cell? ⟨w.heap.size+1,1,none⟩=some (.slice ga sl.length gc)) w'):=fun w' kk=> by
  have q0:= (box1 (w:=w) (v:= .slice a l.length cap) (t:=24) (w1:=w') (Kept.trans (by rw [hW0];exact (Kept.refl _).alloc _) kk)).1
  have q1:=box2 (w:=w.alloc (.cells #[.slice a l.length cap] 24)) (v0:= .slice rd roots.length rc) (v1:= .slice ga sl.length gc) (t:=28) (w1:=w') (Kept.trans (by rw [hW0];exact Kept.refl _) kk)
  simp only [World.size_alloc] at q1
  exact ⟨q0,q1.1,q1.2⟩
 have z0:w.heap.size+1+1≤W0.heap.size:=by rw [hW0];simp
 go_enter Tryz.func5,Tryz.ntmps5
 go_wp2_with fail
 rw [←hW0]
 clear hW0
 refine (szWeb_any _ a cap l 1048576 hl hs (hN.kept k0) (by omega) (by omega)).mono ?_
 rintro e w1 ⟨rfl,K1⟩
 by_cases hle: (szNodesD l:Int)≤1048576
 rotate_left
 ·rw [szL_neg (by omega)]
  go_wp2
  go_ret
  exact ⟨rfl,k0.trans K1⟩
 rw [szL_pos hle]
 obtain ⟨hl2,hs2⟩:=small_of_szN (l:=l) (n:=1048576) (by omega)
 obtain ⟨b0,b1,b2⟩:=HBox.out _ K1
 go_wp2_with fail
 refine (szState_any _ rd ga rc gc roots sl _ hrl hrs hsl hsf (hR.kept (k0.trans K1)) (hG.kept (k0.trans K1)) (by omega) (by omega)).mono ?_
 rintro e w2 ⟨rfl,k2⟩
 have K2:=K1.trans k2
 clear b0 b1 b2 K1 k2
 by_cases hle2: (szStateD roots sl:Int)≤1048576 - szNodesD l
 rotate_left
 ·rw [szL_neg (by omega)]
  go_wp2
  go_ret
  exact ⟨rfl,k0.trans K2⟩
 rw [szL_pos hle2]
 obtain ⟨hr2,hsl2,hst2⟩:=small_runs (roots:=roots) (l:=sl) (n:=1048576) (by omega)
 have hcN:1+ (l.map cntNode).sum+roots.length+ (sl.map cntRun).sum≤33554432:=by
  have h1:=cntNodesR_le l
  have h2:=cntRuns_le sl
  have h3:szStateD roots sl=szStrs roots+szRunsD sl:=rfl
  omega
 have hnn: ¬((1048576:Int) - szNodesD l - szStateD roots sl < 0):=by omega
 have HCn:=hide hcN
 clear hle hle2 hcN
 obtain ⟨b0,b1,b2⟩:=HBox.out _ K2
 have hz2:=K2.size
 have HSO:Hid (∀w',Kept w2 w'→(fun w'=> w'.cell? ⟨w.heap.size,0,none⟩=some (.slice a l.length cap)∧w'.cell? ⟨w.heap.size+1,0,none⟩=some (.slice rd roots.length rc)∧w'.cell? ⟨w.heap.size+1,1,none⟩=some (.slice ga sl.length gc)) w'):=fun w' kk=> HBox.out w' (K2.trans kk)
 go_upto_region 8 with fail
 refine UpTo.region (by kernel_rfl) (fun w'=> w'.cell? ⟨w.heap.size,0,none⟩=some (.slice a l.length cap)∧w'.cell? ⟨w.heap.size+1,0,none⟩=some (.slice rd roots.length rc)∧w'.cell? ⟨w.heap.size+1,1,none⟩=some (.slice ga sl.length gc)) 5 (HSO.out _ ((Kept.refl w2).drew)) (fun hHeld=> ?_)
 have KD:Kept w2 w2.drew:= (Kept.refl w2).drew
 generalize hwd:w2.drew=wd at hHeld KD⊢
 clear hwd
 refine UpTo.tk 0 [1,3,4,5] hHeld ?_
 try simp only [Act.put,upA,upB,upC]
 refine UpTo.tk 2 [3,4,5] hHeld ?_
 try simp only [Act.put,upA,upB,upC]
 refine UpTo.nx 1 (fun K hK=> ?_)
 rw [if_pos (by rfl)]
 go_simp
 go_at_call 10
 refine (toWeb_any _ a cap l hl2 hs2 (hN.kept (k0.trans (K2.trans KD)))).mono ?_
 rintro e w3 ⟨bw,rfl,hN3,k3,hb1⟩
 refine hK.out _ _ (fun _=> HSO.out _ (KD.trans k3)) ?_
 clear hK K
 try simp only [Act.put,upA,upB,upC]
 refine UpTo.nx 3 (fun K hK=> ?_)
 rw [if_pos (by rfl)]
 go_simp
 go_at_call 11
 refine (toStateX_any _ rd ga rc gc roots sl hr2 hsl2 hst2 (hR.kept (k0.trans (K2.trans (KD.trans k3)))) (hG.kept (k0.trans (K2.trans (KD.trans k3))))).mono ?_
 rintro e w4 ⟨c1,c2,rfl,hR4,hG4,k4,hc1,hc2⟩
 refine hK.out _ _ (fun _=> HSO.out _ ((KD.trans k3).trans k4)) ?_
 clear hK K
 try simp only [Act.put,upA,upB,upC]
 refine UpTo.nx 4 (fun K hK=> ?_)
 rw [if_pos (by rfl)]
 go_simp
 go_at_call 25
 refine (specStuck_any _ (some ⟨bw,0,none⟩) l.length l (some ⟨c1,0,none⟩) roots.length roots (some ⟨c2,0,none⟩) sl.length sl hl2 hs hr2 hrs hsl2 hst2 (hN3.kept k4).nodes hG4.runs hR4).mono ?_
 rintro e w5 ⟨⟨dw,cw,ns,rfl,hT5,hd5⟩,k5⟩
 refine hK.out _ _ (fun _=> HSO.out _ (((KD.trans k3).trans k4).trans k5)) ?_
 clear hK K
 try simp only [Act.put,upA,upB,upC]
 refine UpTo.nx 5 (fun K hK=> ?_)
 go_simp
 refine hK.out _ _ (fun h=> absurd rfl h) ?_
 clear hK K
 try simp only [Act.put,upA,upB,upC]
 refine UpTo.done (by kernel_rfl) ?_
 have K3:Kept w2 w5:= ((KD.trans k3).trans k4).trans k5
 have K5:=K2.trans K3
 have HT:=hide hT5
 have HD5:=hide hd5
 have hn6:=StuckAns.len hd5
 clear KD k3 k4 k5 K3 HSO K2 b0 b1 b2 hN3 hR4 hG4 hT5 hd5 hb1 hc1 hc2 hnn
 obtain ⟨b0,b1,b2⟩:=HBox.out _ K5
 go_wp2_with fail
 refine (toWeb_in _ a cap l hl2 hs2 (hN.kept (k0.trans K5))).mono ?_
 rintro e w6 ⟨bx,rfl,hNx,k6⟩
 obtain ⟨W6,hW6⟩: ∃W6,W6=w6.alloc (.cells #[.slice (some ⟨bx,0,none⟩) l.length l.length] 37):= ⟨_,rfl⟩
 have kA:Kept w6 W6:=by rw [hW6];exact (Kept.refl _).alloc _
 have z6:W6.heap.size=w6.heap.size+1:=by rw [hW6];simp
 have K56:Kept w5 W6:=k6.trans kA
 have HNx:=hide hNx
 have hz6:=k6.size
 have hz5:=K5.size
 clear b0 b1 b2 hNx
 obtain ⟨b0,b1,b2⟩:=HBox.out _ (K5.trans K56)
 rw [hW6] at b0 b1 b2
 go_wp2_with fail
 rw [←hW6]
 rw [←hW6] at b0 b1 b2
 refine (toStateX_in _ rd ga rc gc roots sl hr2 hsl2 hst2 (hR.kept (k0.trans (K5.trans K56))) (hG.kept (k0.trans (K5.trans K56)))).mono ?_
 rintro e w7 ⟨bu,bv,mid,rfl,hRx,hGx,hm1,hm2,k7⟩
 obtain ⟨W7,hW7⟩: ∃W7,W7=w7.alloc (.cells #[.slice (some ⟨bu,0,none⟩) roots.length roots.length,.slice (some ⟨bv,0,none⟩) sl.length sl.length] 41):= ⟨_,rfl⟩
 have kB:Kept w7 W7:=by rw [hW7];exact (Kept.refl _).alloc _
 have z7:W7.heap.size=w7.heap.size+1:=by rw [hW7];simp
 have hz7:=k7.size
 have K57:Kept w5 W7:= (K56.trans k7).trans kB
 have HX:Hid (∀w',Kept W7 w'→(fun w'=> w'.cell? ⟨w6.heap.size,0,none⟩=some (.slice (some ⟨bx,0,none⟩) l.length l.length)∧w'.cell? ⟨w7.heap.size,0,none⟩=some (.slice (some ⟨bu,0,none⟩) roots.length roots.length)∧w'.cell? ⟨w7.heap.size,1,none⟩=some (.slice (some ⟨bv,0,none⟩) sl.length sl.length)∧(w'.cell? ⟨w.heap.size,0,none⟩=some (.slice a l.length cap)∧w'.cell? ⟨w.heap.size+1,0,none⟩=some (.slice rd roots.length rc)∧w'.cell? ⟨w.heap.size+1,1,none⟩=some (.slice ga sl.length gc))) w'):=fun w' kk=> by
  have q0:= (box1 (w:=w6) (w1:=w') (Kept.trans (by rw [←hW6];exact k7.trans kB) kk)).1
  have q1:=box2 (w:=w7) (v0:= .slice (some ⟨bu,0,none⟩) roots.length roots.length) (v1:= .slice (some ⟨bv,0,none⟩) sl.length sl.length) (t:=41) (w1:=w') (Kept.trans (by rw [hW7];exact Kept.refl _) kk)
  exact ⟨q0,q1.1,q1.2,HBox.out _ ((K5.trans K57).trans kk)⟩
 have HN7:=hide (HNx.out.same ((kA.trans (k7.trans kB)).same _ _))
 have HR7:=hide (hRx.same (kB.same _ _))
 have HG7:=hide (hGx.same (kB.same _ _))
 clear b0 b1 b2 hRx hGx HNx kA
 have hne: ¬w6.heap.size=w7.heap.size:=by omega
 have hw67:w6.heap.size < w7.heap.size:=by omega
 have q6:= (HX.out W7 (Kept.refl _)).1
 go_upto_region 11 with fail
 rw [←hW7]
 clear hW7 hW6 k7 kB k6
 obtain ⟨x0,x1,x2,b0,b1,b2⟩:=HX.out W7 (Kept.refl _)
 go_wp2_with fail
 refine (implStuck_any W7 (some ⟨bx,0,none⟩) l.length l (some ⟨bu,0,none⟩) roots.length roots (some ⟨bv,0,none⟩) sl.length sl hl2 hs hrl (Nat.le_refl _) hrs hsl2 hst2 HN7.out.nodes HR7.out.strs HG7.out.runs (hFi.kept (k0.trans (K5.trans K57)))).mono ?_
 rintro e w8 ⟨da,ms,rfl,hS8,hd8,k8⟩
 obtain rfl:ms=ns:=StuckAns.one HD5.out hd8
 have HS8:=hide hS8
 clear hS8 hd8 x0 x1 x2 b0 b1 b2 q6
 have hml:ms.length≤maxLen:=by unfold maxLen;omega
 have z8:=k8.size
 go_wp2_with fail
 refine (eqStringS_yes _ da dw ms.length cw ms hml HS8.out.strs (HT.out.kept (K57.trans k8))).mono ?_
 rintro e w9 ⟨rfl,k9⟩
 have K79:=k8.trans k9
 have HX9:Hid (∀w',Kept w9 w'→(fun w'=> w'.cell? ⟨w6.heap.size,0,none⟩=some (.slice (some ⟨bx,0,none⟩) l.length l.length)∧w'.cell? ⟨w7.heap.size,0,none⟩=some (.slice (some ⟨bu,0,none⟩) roots.length roots.length)∧w'.cell? ⟨w7.heap.size,1,none⟩=some (.slice (some ⟨bv,0,none⟩) sl.length sl.length)∧(w'.cell? ⟨w.heap.size,0,none⟩=some (.slice a l.length cap)∧w'.cell? ⟨w.heap.size+1,0,none⟩=some (.slice rd roots.length rc)∧w'.cell? ⟨w.heap.size+1,1,none⟩=some (.slice ga sl.length gc))) w'):=fun w' kk=> HX.out w' (K79.trans kk)
 have KW9:=k0.trans ((K5.trans K57).trans K79)
 have HN9:=hide (HN7.out.same (K79.same _ _))
 have HR9:=hide (HR7.out.same (K79.same _ _))
 have HG9:=hide (HG7.out.same (K79.same _ _))
 have HS9:=hide (HS8.out.same (k9.same _ _))
 obtain ⟨x0,x1,x2,b0,b1,b2⟩:=HX9.out w9 (Kept.refl _)
 clear HN7 HR7 HG7 HS8
 go_upto_region 14 with fail
 refine UpTo.region (by kernel_rfl) (fun w'=> w'.cell? ⟨w6.heap.size,0,none⟩=some (.slice (some ⟨bx,0,none⟩) l.length l.length)∧w'.cell? ⟨w7.heap.size,0,none⟩=some (.slice (some ⟨bu,0,none⟩) roots.length roots.length)∧w'.cell? ⟨w7.heap.size,1,none⟩=some (.slice (some ⟨bv,0,none⟩) sl.length sl.length)∧(w'.cell? ⟨w.heap.size,0,none⟩=some (.slice a l.length cap)∧w'.cell? ⟨w.heap.size+1,0,none⟩=some (.slice rd roots.length rc)∧w'.cell? ⟨w.heap.size+1,1,none⟩=some (.slice ga sl.length gc))) 4 (HX9.out _ ((Kept.refl w9).drew)) (fun hHeld=> ?_)
 have KD:Kept w9 w9.drew:= (Kept.refl w9).drew
 generalize hwd:w9.drew=wd at hHeld KD⊢
 clear hwd
 refine UpTo.tk 0 [3,4] hHeld ?_
 try simp only [Act.put,upA,upB,upC]
 refine UpTo.tk 1 [2,3,4] hHeld ?_
 try simp only [Act.put,upA,upB,upC]
 refine UpTo.nx 2 (fun K hK=> ?_)
 rw [if_pos (by rfl)]
 go_simp
 go_at_call 10
 refine (toWeb_any _ a cap l hl2 hs2 (hN.kept (KW9.trans KD))).mono ?_
 rintro e wq ⟨bq,rfl,hNq,kq,hbq⟩
 refine hK.out _ _ (fun _=> HX9.out _ (KD.trans kq)) ?_
 clear hK K
 try simp only [Act.put,upA,upB,upC]
 refine UpTo.nx 3 (fun K hK=> ?_)
 rw [if_pos (by rfl)]
 go_simp
 go_at_call 14
 refine (eqWeb_yes _ (some ⟨bx,0,none⟩) (some ⟨bq,0,none⟩) l.length l.length l hl hs (HN9.out.same ((KD.trans kq).same _ _)).nodes hNq.nodes).mono ?_
 rintro e w10 ⟨rfl,k10⟩
 refine hK.out _ _ (fun _=> HX9.out _ ((KD.trans kq).trans k10)) ?_
 clear hK K
 try simp only [Act.put,upA,upB,upC]
 refine UpTo.nx 4 (fun K hK=> ?_)
 go_simp
 refine hK.out _ _ (fun h=> absurd rfl h) ?_
 clear hK K
 try simp only [Act.put,upA,upB,upC]
 refine UpTo.done (by kernel_rfl) ?_
 have K9b:= (KD.trans kq).trans k10
 have K7b:=K79.trans K9b
 clear KD kq k10 x0 x1 x2 b0 b1 b2 hNq hbq
 have HX10:Hid (∀w',Kept w10 w'→(fun w'=> w'.cell? ⟨w6.heap.size,0,none⟩=some (.slice (some ⟨bx,0,none⟩) l.length l.length)∧w'.cell? ⟨w7.heap.size,0,none⟩=some (.slice (some ⟨bu,0,none⟩) roots.length roots.length)∧w'.cell? ⟨w7.heap.size,1,none⟩=some (.slice (some ⟨bv,0,none⟩) sl.length sl.length)∧(w'.cell? ⟨w.heap.size,0,none⟩=some (.slice a l.length cap)∧w'.cell? ⟨w.heap.size+1,0,none⟩=some (.slice rd roots.length rc)∧w'.cell? ⟨w.heap.size+1,1,none⟩=some (.slice ga sl.length gc))) w'):=fun w' kk=> HX.out w' (K7b.trans kk)
 obtain ⟨x0,x1,x2,b0,b1,b2⟩:=HX10.out w10 (Kept.refl _)
 go_upto_region 16 with fail
 refine UpTo.region (by kernel_rfl) (fun w'=> w'.cell? ⟨w6.heap.size,0,none⟩=some (.slice (some ⟨bx,0,none⟩) l.length l.length)∧w'.cell? ⟨w7.heap.size,0,none⟩=some (.slice (some ⟨bu,0,none⟩) roots.length roots.length)∧w'.cell? ⟨w7.heap.size,1,none⟩=some (.slice (some ⟨bv,0,none⟩) sl.length sl.length)∧(w'.cell? ⟨w.heap.size,0,none⟩=some (.slice a l.length cap)∧w'.cell? ⟨w.heap.size+1,0,none⟩=some (.slice rd roots.length rc)∧w'.cell? ⟨w.heap.size+1,1,none⟩=some (.slice ga sl.length gc))) 4 (HX10.out _ ((Kept.refl w10).drew)) (fun hHeld=> ?_)
 have KD:Kept w10 w10.drew:= (Kept.refl w10).drew
 generalize hwd:w10.drew=wd at hHeld KD⊢
 clear hwd
 refine UpTo.tk 0 [3,4] hHeld ?_
 try simp only [Act.put,upA,upB,upC]
 refine UpTo.tk 1 [2,3,4] hHeld ?_
 try simp only [Act.put,upA,upB,upC]
 refine UpTo.nx 2 (fun K hK=> ?_)
 rw [if_pos (by rfl)]
 go_simp
 go_at_call 11
 refine (toStateX_any _ rd ga rc gc roots sl hr2 hsl2 hst2 (hR.kept ((KW9.trans K9b).trans KD)) (hG.kept ((KW9.trans K9b).trans KD))).mono ?_
 rintro e w11 ⟨d1,d2,rfl,hR11,hG11,k11,hd1,hd2⟩
 refine hK.out _ _ (fun _=> HX10.out _ (KD.trans k11)) ?_
 clear hK K
 try simp only [Act.put,upA,upB,upC]
 refine UpTo.nx 3 (fun K hK=> ?_)
 rw [if_pos (by rfl)]
 go_simp
 go_at_call 15
 refine (eqStateX_yes _ (some ⟨bu,0,none⟩) (some ⟨d1,0,none⟩) (some ⟨bv,0,none⟩) (some ⟨d2,0,none⟩) roots.length roots.length sl.length sl.length roots sl hrl hsl hsf (HR9.out.same (((K9b.trans KD).trans k11).same _ _)).strs hR11 (HG9.out.same (((K9b.trans KD).trans k11).same _ _)).runs hG11.runs).mono ?_
 rintro e w12 ⟨rfl,k12⟩
 refine hK.out _ _ (fun _=> HX10.out _ ((KD.trans k11).trans k12)) ?_
 clear hK K
 try simp only [Act.put,upA,upB,upC]
 refine UpTo.nx 4 (fun K hK=> ?_)
 go_simp
 refine hK.out _ _ (fun h=> absurd rfl h) ?_
 clear hK K
 try simp only [Act.put,upA,upB,upC]
 refine UpTo.done (by kernel_rfl) ?_
 have K9c:Kept w9 w12:= ((K9b.trans KD).trans k11).trans k12
 have K7c:=K79.trans K9c
 clear KD k11 k12 x0 x1 x2 b0 b1 b2 hR11 hG11 hd1 hd2 K9b K7b HX10
 obtain ⟨x0,x1,x2,b0,b1,b2⟩:=HX.out w12 K7c
 have HN12:=hide (HN9.out.same (K9c.same _ _))
 have HR12:=hide (HR9.out.same (K9c.same _ _))
 have HG12:=hide (HG9.out.same (K9c.same _ _))
 have HS12:=hide (HS9.out.same (K9c.same _ _))
 have z12:=K7c.size
 have K512:=K57.trans K7c
 have hcn:=HCn.out
 clear HN9 HR9 HG9 HS9 HX9 K9c
 go_wp2_with fail
 refine (markWeb_any _ w5.heap.size w6.heap.size (some ⟨bx,0,none⟩) l.length l 1 (by omega) (by omega) HN12.out).mono ?_
 rintro e w13 ⟨rfl,_,kb13⟩
 have K513:Kept w5 w13:=kb13.kept K512 (Nat.le_refl _)
 have z13:=kb13.size
 have y1:w13.cell? ⟨w7.heap.size,0,none⟩=some (.slice (some ⟨bu,0,none⟩) roots.length roots.length):= (World.cell?_of_block (w:=w12) (kb13.block _ (by show w7.heap.size < _;omega) (.inr (by show w6.heap.size≤w7.heap.size;omega)))).trans x1
 have y2:w13.cell? ⟨w7.heap.size,1,none⟩=some (.slice (some ⟨bv,0,none⟩) sl.length sl.length):= (World.cell?_of_block (w:=w12) (kb13.block _ (by show w7.heap.size < _;omega) (.inr (by show w6.heap.size≤w7.heap.size;omega)))).trans x2
 have HR13:=hide (HR12.out.same (kb13.same (l2:=W6.heap.size) (h2:=mid) (by omega)))
 have HG13:=hide (HG12.out.same (kb13.same (l2:=mid) (h2:=w7.heap.size) (by omega)))
 have HS13:=hide (HS12.out.same (kb13.same (l2:=W7.heap.size) (h2:=w8.heap.size) (by omega)))
 obtain ⟨kn,hkn⟩: ∃kn,kn=1+ (l.map cntNode).sum:= ⟨_,rfl⟩
 rw [←hkn]
 have hkn0:0 < kn:=by omega
 have hkn1:kn+roots.length+ (sl.map cntRun).sum≤33554432:=by omega
 clear hkn x0 x1 x2 b0 b1 b2 kb13 HN12 HR12 HG12 HS12
 go_wp2_with fail
 refine (markStateX_any _ W6.heap.size mid w7.heap.size (some ⟨bu,0,none⟩) (some ⟨bv,0,none⟩) roots.length sl.length roots sl kn hkn0 (by omega) hm1 hm2 (by omega) HR13.out HG13.out).mono ?_
 rintro e w14 ⟨rfl,_,_,kb14⟩
 have K514:Kept w5 w14:=kb14.kept K513 (by have:=K56.size;omega)
 have z14:=kb14.size
 have HS14:=hide (HS13.out.same (kb14.same (l2:=W7.heap.size) (h2:=w8.heap.size) (by omega)))
 obtain ⟨km,hkm⟩: ∃km,km=kn+roots.length+ (sl.map cntRun).sum:= ⟨_,rfl⟩
 rw [←hkm]
 have hkm0: ¬((km:Int) < 0):=by omega
 clear hkm y1 y2 kb14 HR13 HG13 HS13 hkn0 hkn1 hcn HCn
 go_wp2_with fail
 refine (eqStringS_yes _ da dw ms.length cw ms hml HS14.out.strs (HT.out.kept K514)).mono ?_
 rintro e w15 ⟨rfl,k15⟩
 have K515:=K514.trans k15
 have HS15:=hide (HS14.out.same (k15.same _ _))
 have z15:=k15.size
 clear HS14 k15
 go_wp2_with fail
 refine (markStringS_any _ W7.heap.size w8.heap.size da ms.length ms 1 (by omega) (by omega) HS15.out).mono ?_
 rintro e w16 ⟨rfl,hS16,kb16⟩
 have K516:Kept w5 w16:=kb16.kept K515 (by have:=K57.size;omega)
 obtain ⟨M,hM⟩: ∃M,M=1+ms.length:= ⟨_,rfl⟩
 rw [←hM]
 have hMM: ((M:Int) != (M:Int))=false:=by simp
 have hM0: ¬((M:Int) < 0):=by omega
 have HS16:=hide hS16
 have HM:=hide hM
 clear hM hS16 kb16 HS15
 go_wp2_with fail
 refine (heldStringS_yes _ da ms.length ms 1 (by omega) (by omega) HS16.out.strs).mono ?_
 rintro e w17 ⟨rfl,k17⟩
 rw [←HM.out]
 have K517:=K516.trans k17
 have HS17:=hide (HS16.out.same (k17.same _ _))
 have KW17:=k0.trans (K5.trans K517)
 have HSO17:Hid (∀w',Kept w17 w'→(fun w'=> w'.cell? ⟨w.heap.size,0,none⟩=some (.slice a l.length cap)∧w'.cell? ⟨w.heap.size+1,0,none⟩=some (.slice rd roots.length rc)∧w'.cell? ⟨w.heap.size+1,1,none⟩=some (.slice ga sl.length gc)) w'):=fun w' kk=> HBox.out w' ((K5.trans K517).trans kk)
 obtain ⟨b0,b1,b2⟩:=HSO17.out w17 (Kept.refl _)
 clear k17 HS16
 go_upto_region 31 with fail
 refine UpTo.region (by kernel_rfl) (fun w'=> w'.cell? ⟨w.heap.size,0,none⟩=some (.slice a l.length cap)∧w'.cell? ⟨w.heap.size+1,0,none⟩=some (.slice rd roots.length rc)∧w'.cell? ⟨w.heap.size+1,1,none⟩=some (.slice ga sl.length gc)) 5 (HSO17.out _ ((Kept.refl w17).drew)) (fun hHeld=> ?_)
 have KD:Kept w17 w17.drew:= (Kept.refl w17).drew
 generalize hwd:w17.drew=wd at hHeld KD⊢
 clear hwd
 refine UpTo.tk 0 [1,3,4,5] hHeld ?_
 try simp only [Act.put,upA,upB,upC]
 refine UpTo.tk 2 [3,4,5] hHeld ?_
 try simp only [Act.put,upA,upB,upC]
 refine UpTo.nx 1 (fun K hK=> ?_)
 rw [if_pos (by rfl)]
 go_simp
 go_at_call 10
 refine (toWeb_any _ a cap l hl2 hs2 (hN.kept (KW17.trans KD))).mono ?_
 rintro e w18 ⟨b18,rfl,hN18,k18,hb18⟩
 refine hK.out _ _ (fun _=> HSO17.out _ (KD.trans k18)) ?_
 clear hK K
 try simp only [Act.put,upA,upB,upC]
 refine UpTo.nx 3 (fun K hK=> ?_)
 rw [if_pos (by rfl)]
 go_simp
 go_at_call 11
 refine (toStateX_any _ rd ga rc gc roots sl hr2 hsl2 hst2 (hR.kept (KW17.trans (KD.trans k18))) (hG.kept (KW17.trans (KD.trans k18)))).mono ?_
 rintro e w19 ⟨c19,d19,rfl,hR19,hG19,k19,hc19,hd19⟩
 refine hK.out _ _ (fun _=> HSO17.out _ ((KD.trans k18).trans k19)) ?_
 clear hK K
 try simp only [Act.put,upA,upB,upC]
 refine UpTo.nx 4 (fun K hK=> ?_)
 rw [if_pos (by rfl)]
 go_simp
 go_at_call 26
 refine (implStuck_any _ (some ⟨b18,0,none⟩) l.length l (some ⟨c19,0,none⟩) roots.length roots (some ⟨d19,0,none⟩) sl.length sl hl2 hs hrl (Nat.le_refl _) hrs hsl2 hst2 (hN18.kept k19).nodes hR19 hG19.runs (hFi.kept (KW17.trans ((KD.trans k18).trans k19)))).mono ?_
 rintro e w20 ⟨dh,ms2,rfl,hS20,hd20,k20⟩
 obtain rfl:ms=ms2:= (StuckAns.one HD5.out hd20).symm
 refine hK.out _ _ (fun _=> HSO17.out _ (((KD.trans k18).trans k19).trans k20)) ?_
 clear hK K
 try simp only [Act.put,upA,upB,upC]
 refine UpTo.nx 5 (fun K hK=> ?_)
 go_simp
 refine hK.out _ _ (fun h=> absurd rfl h) ?_
 clear hK K
 try simp only [Act.put,upA,upB,upC]
 refine UpTo.done (by kernel_rfl) ?_
 have K17c:Kept w17 w20:= ((KD.trans k18).trans k19).trans k20
 have HS20:=hide (HS17.out.same (K17c.same _ _))
 have HU20:=hide hS20.strs
 have K520:=K517.trans K17c
 clear KD k18 k19 k20 b0 b1 b2 hN18 hb18 hR19 hG19 hc19 hd19 hS20 hd20 HS17
 go_wp2_with fail
 refine (eqStringS_yes _ dh dw ms.length cw ms hml HU20.out (HT.out.kept K520)).mono ?_
 rintro e w21 ⟨rfl,k21⟩
 have HS21:=hide (HS20.out.same (k21.same _ _))
 have K521:=K520.trans k21
 clear k21 HS20 HU20
 go_wp2_with fail
 refine (heldStringS_yes _ da ms.length ms 1 (by omega) (by omega) HS21.out.strs).mono ?_
 rintro e w22 ⟨rfl,k22⟩
 rw [←HM.out]
 have KF:=k0.trans (K5.trans (K521.trans k22))
 clear k22
 go_wp2
 go_ret
 exact ⟨rfl,KF⟩
end Go.Proofs.YteknkpfbjapoiaaGreatDoor
