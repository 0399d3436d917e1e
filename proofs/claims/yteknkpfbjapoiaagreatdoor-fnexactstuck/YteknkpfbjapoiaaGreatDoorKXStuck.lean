import Derived.Test.YteknkpfbjapoiaaGreatDoorKXWaits
import Derived.Test.YteknkpfbjapoiaaGreatDoorKXFar
import Derived.Test.YteknkpfbjapoiaaGreatDoorKVStuck
import Derived.Test.YteknkpfbjapoiaaGreatDoorKBSem
import Derived.Test.YteknkpfbjapoiaaGreatDoorKCRing
namespace Go.Proofs.YteknkpfbjapoiaaGreatDoor
open Go.RowKit
set_option maxHeartbeats 1600000 in
theorem l6Has_any (w:World) (a:Option Addr) (cap:Nat) (l:List ByteArray) (x:ByteArray) (hl:l.length≤1048576) (hS:Strs w a l):
  Calls Tryz.prog 51 #[.slice a l.length cap,.string x] w fun e w'=> Says e (x∈l)∧w'=w:=by
 go_enter Tryz.func51,Tryz.ntmps51
 go_wp2
 go_loopw [5] (fun i wr=> ∃k:Nat,k≤l.length∧i= .int .i64 (k:Int)∧Hid (x∉l.take k)∧wr=w) (fun i _=> l.length - (intOf i).toNat)
 case atStart=> exact ⟨0,Nat.zero_le _,rfl,hide (by simp),rfl⟩
 case round=>
  obtain ⟨k,hk,rfl,HN,rfl⟩:=hrel
  by_cases hlt:k < l.length
  ·obtain ⟨b,o,e1,hb,hc⟩:=hS k hlt
   subst e1
   obtain ⟨y,hy⟩: ∃y,y=l.getD k ByteArray.empty:= ⟨_,rfl⟩
   rw [←hy] at hc
   have hyg:l[k]=y:=by rw [hy];simp [List.getD,hlt]
   have HY:=hide hyg
   have hki: (k:Int) < (l.length:Int):=by omega
   clear hy hyg
   cases heq: (y.toList == x.toList)
   ·go_wp2_with fail
    go_roundw
    case rel=>
     refine ⟨k+1,by omega,by go_num,hide (fun h=> ?_),trivial⟩
     rw [List.take_succ_eq_append_getElem hlt,HY.out] at h
     rcases List.mem_append.1 h with h | h
     ·exact HN.out h
     ·rw [List.mem_singleton] at h
      rw [h] at heq
      simp at heq
    case measure=> simp [intOf];omega
   ·go_wp2_with fail
    go_ret
    exact ⟨Says.yes (by rw [←beq_yes heq,←HY.out];exact List.getElem_mem hlt),rfl⟩
  ·have hnk: ¬((k:Int) < (l.length:Int)):=by omega
   have HAll:Hid (x∉l):=by have h:=HN.out;rw [List.take_of_length_le (by omega)] at h;exact h
   clear hlt
   go_wp2_with fail
   go_ret
   exact ⟨Says.no HAll.out,rfl⟩
theorem waits_to {webl:List NodeD} {sl:List RunX} (x y:ByteArray) (h:WaitsX (actsOf webl) (envOf sl) x y):y∈sl.map (·.name):=by
 obtain ⟨_,_,_,_,_,_,_,r,hr,_⟩:=h
 have h2:=env_mem hr
 rw [←h2.2]
 exact List.mem_map.2 ⟨r,h2.1,rfl⟩
def ReachEnd (webl:List NodeD) (sl:List RunX) (name:ByteArray) (w w':World) (e:Ending):Prop:= ∃av cv ns,e= .returned (.slice av ns.length cv)∧ns.length≤cv∧Strs w' av ns∧ReachL (WaitsX (actsOf webl) (envOf sl)) name ns∧w'.ownsRow w.heap.size 9 1 (.slice av ns.length cv) ns.length (ns.map Value.string)∧Kept w w'
set_option maxRecDepth 100000 in
set_option maxHeartbeats 12800000 in
theorem l6Reach_any (w:World) (a:Option Addr) (cap:Nat) (webl:List NodeD) (ra:Option Addr) (rn rc:Nat) (d:Option Addr) (dc:Nat) (sl:List RunX) (name:ByteArray) (hwl:webl.length≤1048576) (hs6:sl.length≤1000) (hok:ActsOk (actsOf webl)) (hg:GoodL webl sl) (hN:Nodes w a webl) (hS:RunsX w d sl):
  Calls Tryz.prog 50 #[.agg #[.slice a webl.length cap],.agg #[.slice ra rn rc,.slice d sl.length dc],.string name] w fun e w'=> ReachEnd webl sl name w w' e:=by
 obtain ⟨WB,hWB⟩: ∃WB,WB= (w.alloc (.cells #[.slice a webl.length cap] 37)).alloc (.cells #[.slice ra rn rc,.slice d sl.length dc] 41):= ⟨_,rfl⟩
 have kB:Kept w WB:=by rw [hWB];exact ((Kept.refl _).alloc _).alloc _
 have hBs:WB.heap.size=w.heap.size+2:=by rw [hWB];simp
 have b0:WB.cell? ⟨w.heap.size,0,none⟩=some (.slice a webl.length cap):=by rw [hWB,Kept.cell (w:=w.alloc (.cells #[.slice a webl.length cap] 37)) ((Kept.refl _).alloc _) (by simp)];exact range_new w _ _ 0 _ rfl
 have s0:WB.cell? ⟨w.heap.size+1,0,none⟩=some (.slice ra rn rc):=by have:=range_new (w.alloc (.cells #[.slice a webl.length cap] 37)) #[.slice ra rn rc,.slice d sl.length dc] 41 0 _ rfl;rw [World.size_alloc] at this;rw [hWB];exact this
 have s1:WB.cell? ⟨w.heap.size+1,1,none⟩=some (.slice d sl.length dc):=by have:=range_new (w.alloc (.cells #[.slice a webl.length cap] 37)) #[.slice ra rn rc,.slice d sl.length dc] 41 1 _ rfl;rw [World.size_alloc] at this;rw [hWB];exact this
 have z0:w.heap.size < WB.heap.size:=by omega
 have z1:w.heap.size+1 < WB.heap.size:=by omega
 have HC:Hid (∀w',Kept WB w'→w'.cell? ⟨w.heap.size,0,none⟩=some (.slice a webl.length cap)∧w'.cell? ⟨w.heap.size+1,0,none⟩=some (.slice ra rn rc)∧w'.cell? ⟨w.heap.size+1,1,none⟩=some (.slice d sl.length dc)∧w.heap.size < w'.heap.size∧w.heap.size+1 < w'.heap.size):=fun w' K=> ⟨(K.cell z0).trans b0,(K.cell z1).trans s0,(K.cell z1).trans s1,Nat.lt_of_lt_of_le z0 K.size,Nat.lt_of_lt_of_le z1 K.size⟩
 have hsl:sl.length≤1048576:=by omega
 obtain ⟨ic,hc0,hc1,hc2,hc3⟩:=xInfo_parts Tryz.xInfoStr
 have HKB:=hide kB
 have HGd:=hide hg
 clear kB hBs hg
 go_enter Tryz.func50,Tryz.ntmps50
 go_upto_region 1 with fail
 rw [←hWB]
 clear hWB
 go_wp2_with fail
 refine (l6Waits_own WB a cap webl ra rn rc d dc sl name hwl hsl hok HGd.out (hN.kept HKB.out) (hS.kept HKB.out)).mono ?_
 rintro e w1 ⟨⟨b1,o1,c1,n1,rfl,hc1',hS1,hW1,hO1⟩,k1⟩
 have HO1:=hide (owns_low hO1 HKB.out.size)
 clear hO1
 have HS1:=hide hS1
 have HI1:Hid (ReachI (WaitsX (actsOf webl) (envOf sl)) name n1):= ⟨hW1.1,fun s hs=> ⟨0,WalkN.one ((hW1.2 s).1 hs)⟩,fun s hs=> (hW1.2 s).2 hs⟩
 clear b0 s0 s1 hS1 hW1
 go_wp2_with fail
 go_loopw [7,8] (fun x7 x8 wr=> ∃(i:Nat) (av:Option Addr) (cv:Nat) (out:List ByteArray),i≤sl.length∧x8= .int .i64 (i:Int)∧x7= .slice av out.length cv∧out.length≤cv∧(i≤out.length∨i=0)∧Hid (i=0∨i < out.length)∧Hid (Strs wr av out)∧Hid (wr.ownsRow w.heap.size 9 1 (.slice av out.length cv) out.length (out.map Value.string))∧Hid (ReachI (WaitsX (actsOf webl) (envOf sl)) name out)∧Kept WB wr) (fun _ x8 _=> sl.length - (intOf x8).toNat)
 case atStart=> exact ⟨0,_,_,n1,Nat.zero_le _,rfl,rfl,hc1',.inr rfl,hide (.inl rfl),HS1,HO1,HI1,k1⟩
 case round=>
  clear HS1 HI1 k1 hc1' HO1
  obtain ⟨i,av,cv,out,hi,rfl,rfl,hoc,_,HLo,HSo,HOo,HI,Kr⟩:=hrel
  obtain ⟨c0,c1,c2,y0,y1⟩:=HC.out _ Kr
  have hol:out.length≤sl.length:=by have h:=HI.out.len (names:=sl.map (·.name)) waits_to;rwa [List.length_map] at h
  by_cases hil:i < sl.length
  rotate_left
  ·have hni: ¬((i:Int) < (sl.length:Int)):=by omega
   have HNo:Hid (out=[]∨False):=by
    rcases HLo.out with h | h
    ·exact .inl (List.eq_nil_of_length_eq_zero (by omega))
    ·omega
   have HRl:Hid (ReachL (WaitsX (actsOf webl) (envOf sl)) name out):=by
    rcases HNo.out with h | h
    ·exact HI.out.done (more:=out) (by rw [h];exact MoreI.start (by rw [←h];exact HI.out.asc)) rfl
    ·exact h.elim
   clear hil
   go_wp2_with fail
   go_ret
   exact ⟨av,cv,out,rfl,hoc,HSo.out,HRl.out,HOo.out,HKB.out.trans Kr⟩
  have hii: (i:Int) < (sl.length:Int):=by omega
  have HOE:Hid ((wr.alloc (.cells #[] 9)).ownsRow wr.heap.size 9 1 (.slice (some ⟨wr.heap.size,0,none⟩) 0 0) 0 (([]:List ByteArray).map Value.string)):=World.ownsRow_made wr #[] 0 (Nat.le_refl _) (Nat.zero_le _) rfl
  have hzE:wr.heap.size≤(wr.alloc (.cells #[] 9)).heap.size:=by simp
  have HKE:Hid (Kept wr (wr.alloc (.cells #[] 9))):= (Kept.refl _).alloc _
  have HSE:=hide (HSo.out.kept HKE.out)
  go_upto_region 6 with (at_builtin;refine wpList_append_strs rfl (.tmp 24) (.tmp 25) 25 rfl wr.heap.size 9 ic _ 16 Tryz.underlying25 hc0 hc1 hc2 hc3 rfl (.slice (some ⟨wr.heap.size,0,none⟩) 0 0) 0 (([]:List ByteArray).map Value.string) rfl HOE.out av cv out rfl HSE.out (by unfold maxLen;omega) (by omega) hzE ?_;intro v1 w2 ho1 hg1 hv1;rw [Nat.zero_add] at ho1;have HO1:=hide ho1;have KP1:=kept_of_grown HKE.out (Nat.le_refl _) HOE.out hg1;obtain ⟨av1,cv1,rfl⟩:=own_slice ho1;clear ho1 hg1 hv1)
  clear c0 c1 c2 hzE HOE HKE HSE
  have HM1:Hid (Strs w2 av1 out):=by
   obtain ⟨a9,c9,e9,h9⟩:=owned_strs HO1.out
   simp only [Value.slice.injEq,true_and] at e9
   rw [←e9.1] at h9
   exact h9
  have HC1:Hid (out.length≤cv1∧(out≠[]→∃b o,av1=some ⟨b,o,none⟩)):=by
   rcases HO1.out.2 with ⟨e,h⟩ | ⟨g,cap',cur,e,_,_,h,_⟩
   ·simp only [Value.slice.injEq] at e;exact ⟨by omega,fun hne=> absurd (List.eq_nil_of_length_eq_zero h) hne⟩
   ·simp only [Value.slice.injEq] at e;exact ⟨by omega,fun _=> ⟨g,0,e.1⟩⟩
  have KO:=HSo
  have K2:=Kr.trans KP1
  have HOm:Hid (w2.ownsRow w.heap.size 9 1 (.slice av1 out.length cv1) out.length (out.map Value.string)):=owns_low HO1.out (HKB.out.trans Kr).size
  have HOo2:=hide (ownsRow_kept' HOo.out KP1)
  have HSo2:=hide (HSo.out.kept KP1)
  clear HO1 HSo KO HOo
  go_wp2_with fail
  go_loopw [9,10] (fun x9 x10 wr=> ∃(k:Nat) (mv:Option Addr) (mc:Nat) (more:List ByteArray),k≤out.length∧x10= .int .i64 (k:Int)∧x9= .slice mv more.length mc∧more.length≤out.length+k * 5∧Hid (more.length≤mc∧(out≠[]→∃b o,mv=some ⟨b,o,none⟩))∧Hid (Strs wr mv more)∧Hid (wr.ownsRow w.heap.size 9 1 (.slice mv more.length mc) more.length (more.map Value.string))∧Hid (MoreI (WaitsX (actsOf webl) (envOf sl)) out k [] 0 more)∧Kept w2 wr) (fun _ x10 _=> out.length - (intOf x10).toNat)
  case atStart=> exact ⟨0,av1,cv1,out,Nat.zero_le _,rfl,rfl,by omega,HC1,HM1,HOm,hide (MoreI.start HI.out.asc),Kept.refl _⟩
  case round=>
   clear HC1 HM1 HOm
   obtain ⟨k,mv,mc,more,hk,rfl,rfl,hml,HMc,HMs,HMo,HMi,Km⟩:=hrel
   by_cases hkl:k < out.length
   rotate_left
   ·have hnk: ¬((k:Int) < (out.length:Int)):=by omega
    have HMw:Hid (MoreI (WaitsX (actsOf webl) (envOf sl)) out out.length [] 0 more):=by have h:=HMi.out;rw [show k=out.length by omega] at h;exact h
    have hge:=HMw.out.len HI.out.asc
    clear hkl
    by_cases hle:more.length=out.length
    ·have heq: ((more.length:Int) == (out.length:Int))=true:=by simp [hle]
     have HRl:=hide (HI.out.done HMw.out hle)
     have HSo3:=hide (HSo2.out.kept Km)
     clear hle
     go_wp2_with fail
     go_ret
     exact ⟨av,cv,out,rfl,hoc,HSo3.out,HRl.out,ownsRow_kept' HOo2.out Km,HKB.out.trans (K2.trans Km)⟩
    ·have heq: ((more.length:Int) == (out.length:Int))=false:=by simp;omega
     have HNx:=hide (HI.out.next HMw.out)
     have hmc:=HMc.out.1
     have HLn:Hid (i+1=0∨i+1 < more.length):=by
      right
      have h0:out≠[]:=fun e=> hle (by
       have hm0:more=[]:=by
        cases hm:more with
        | nil=> rfl
        | cons s r=>
         have:= (HMw.out.iff s).1 (by rw [hm];simp)
         rw [e] at this
         simp at this
       rw [hm0,e])
      have h1:1≤out.length:=by
       cases ho:out with
       | nil=> exact absurd ho h0
       | cons=> simp
      rcases HLo.out with h | h <;> omega
     clear hle
     go_wp2_with fail
     go_roundw
     case rel=> exact ⟨i+1,mv,mc,more,by omega,by go_num,rfl,hmc,.inl (by have:=HLn.out;omega),HLn,HMs,HMo,HNx,K2.trans Km⟩
     case measure=> simp [intOf];omega
   obtain ⟨rb,ro,e1,hrb,hrc⟩:= (HSo2.out.kept Km) k hkl
   subst e1
   obtain ⟨s,hs⟩: ∃s,s=out.getD k ByteArray.empty:= ⟨_,rfl⟩
   rw [←hs] at hrc
   have hsg:out[k]=s:=by rw [hs];simp [List.getD,hkl]
   have HSg:=hide hsg
   have hkk: (k:Int) < (out.length:Int):=by omega
   have HS9:Hid (∀u,Kept wr u→(u.cell? ⟨w.heap.size,0,none⟩=some (.slice a webl.length cap)∧u.cell? ⟨w.heap.size+1,0,none⟩=some (.slice ra rn rc)∧u.cell? ⟨w.heap.size+1,1,none⟩=some (.slice d sl.length dc)∧u.cell? ⟨rb,ro+k,none⟩=some (.string s))):=fun u K=> ⟨(HC.out u (K2.trans (Km.trans K))).1,(HC.out u (K2.trans (Km.trans K))).2.1,(HC.out u (K2.trans (Km.trans K))).2.2.1,(K.cell hrb).trans hrc⟩
   clear hs hsg hrc
   go_upto_region 9 with fail
   refine UpTo.region (by kernel_rfl) (fun u=> u.cell? ⟨w.heap.size,0,none⟩=some (.slice a webl.length cap)∧u.cell? ⟨w.heap.size+1,0,none⟩=some (.slice ra rn rc)∧u.cell? ⟨w.heap.size+1,1,none⟩=some (.slice d sl.length dc)∧u.cell? ⟨rb,ro+k,none⟩=some (.string s)) 7 (HS9.out _ ((Kept.refl wr).drew)) (fun hHeld=> ?_)
   have KD:Kept wr wr.drew:= (Kept.refl wr).drew
   generalize hwd:wr.drew=wd at hHeld KD⊢
   clear hwd
   refine UpTo.tk 0 [6,7] hHeld ?_
   try simp only [Act.put,upA,upB,upC]
   refine UpTo.tk 1 [6,7] hHeld ?_
   try simp only [Act.put,upA,upB,upC]
   refine UpTo.tk 2 [4,5,6,7] hHeld ?_
   try simp only [Act.put,upA,upB,upC]
   refine UpTo.tk 3 [4,5,6,7] hHeld ?_
   try simp only [Act.put,upA,upB,upC]
   refine UpTo.tk 4 [5,6,7] hHeld ?_
   try simp only [Act.put,upA,upB,upC]
   refine UpTo.tk 5 [6,7] hHeld ?_
   try simp only [Act.put,upA,upB,upC]
   refine UpTo.nx 6 (fun K hK=> ?_)
   rw [if_pos (by rfl)]
   go_simp
   go_at_call 88
   refine (l6Waits_any wd a cap webl ra rn rc d dc sl s hwl hsl hok HGd.out (hN.kept (HKB.out.trans (K2.trans (Km.trans KD)))) (hS.kept (HKB.out.trans (K2.trans (Km.trans KD))))).mono ?_
   rintro e w4 ⟨⟨nb,no,nc,ns,rfl,hnc,hnS,hWL⟩,k4⟩
   have K4:=KD.trans k4
   dsimp only
   refine hK.out _ _ (fun _=> HS9.out _ K4) ?_
   clear hK K
   try simp only [Act.put,upA,upB,upC]
   refine UpTo.nx 7 (fun K hK=> ?_)
   go_simp
   refine hK.out _ _ (fun h=> absurd rfl h) ?_
   clear hK K
   try simp only [Act.put,upA,upB,upC]
   refine UpTo.done (by kernel_rfl) ?_
   have HWL:=hide hWL
   have HNS:=hide hnS
   have Km4:=Km.trans K4
   have hl5:=hWL.len hok HGd.out.env
   have HMs4:=hide (HMs.out.kept K4)
   have HMo4:=hide (ownsRow_kept' HMo.out K4)
   have HWz:Hid (w.heap.size≤w4.heap.size):= (HKB.out.trans (K2.trans (Km.trans K4))).size
   have HMi4:=hide (HMi.out.enter ns)
   obtain ⟨mb0,mo0,hmv⟩:=HMc.out.2 (fun e=> by rw [e] at hkl;simp at hkl)
   have hmc0:=HMc.out.1
   subst hmv
   clear hWL hnS HS9 HMs HMi HMc hHeld HMo
   go_wp2_with fail
   go_loopw [9,12] (fun x9 x12 wr=> ∃(j:Nat) (mb mo mc:Nat) (more:List ByteArray),j≤ns.length∧x12= .int .i64 (j:Int)∧x9= .slice (some ⟨mb,mo,none⟩) more.length mc∧more.length≤out.length+k * 5+j∧more.length≤mc∧Hid (Strs wr (some ⟨mb,mo,none⟩) more)∧Hid (wr.ownsRow w.heap.size 9 1 (.slice (some ⟨mb,mo,none⟩) more.length mc) more.length (more.map Value.string))∧Hid (MoreI (WaitsX (actsOf webl) (envOf sl)) out k ns j more)∧Kept w4 wr) (fun _ x12 _=> ns.length - (intOf x12).toNat)
   case atStart=> exact ⟨0,mb0,mo0,mc,more,Nat.zero_le _,rfl,rfl,by omega,hmc0,HMs4,HMo4,HMi4,Kept.refl _⟩
   case round=>
    clear HMs4 HMi4 HMo4
    obtain ⟨j,mb1,mo1,mc1,more1,hj,rfl,rfl,hml1,hmc1,HMs,HMo,HMi,Kj⟩:=hrel
    by_cases hjl:j < ns.length
    rotate_left
    ·have hnj: ¬((j:Int) < (ns.length:Int)):=by omega
     have HLv:Hid (MoreI (WaitsX (actsOf webl) (envOf sl)) out (k+1) [] 0 more1):=HMi.out.leave hkl (by omega) (fun y=> by rw [HSg.out];exact HWL.out.2 y)
     clear hjl
     go_wp2_with fail
     go_roundw
     case rel=> exact ⟨k+1,_,mc1,more1,by omega,by go_num,rfl,by omega,hide ⟨hmc1,fun _=> ⟨mb1,mo1,rfl⟩⟩,HMs,HMo,HLv,Km4.trans Kj⟩
     case measure=> simp [intOf];omega
    obtain ⟨lb1,lo1,e1,hlb1,hlc1⟩:= (HNS.out.kept Kj) j hjl
    cases e1
    obtain ⟨y,hy⟩: ∃y,y=ns.getD j ByteArray.empty:= ⟨_,rfl⟩
    rw [←hy] at hlc1
    have hyg:ns[j]=y:=by rw [hy];simp [List.getD,hjl]
    have HYg:=hide hyg
    have hjj: (j:Int) < (ns.length:Int):=by omega
    clear hy hyg
    go_wp2_with fail
    refine (l6Put_own wr mb1 mo1 mc1 more1 y (by omega) hmc1 HMi.out.asc HMs.out).mono ?_
    rintro e w5 ⟨b5,o5,c5,r5,rfl,hc5,hp5,hs5,hy5,k5⟩
    have HO5:=hide (hy5 _ (Nat.le_trans HWz.out Kj.size) HMo.out)
    clear hy5
    obtain ⟨ha5,hm5⟩:=hp5.asc HMi.out.asc
    have hl5b:r5.length≤more1.length+1:=by
     rcases hp5 with ⟨_,rfl⟩ | ⟨_,q,hq,rfl,_,_⟩
     ·omega
     ·simp;omega
    have HS5:=hide hs5
    have HN5:Hid (MoreI (WaitsX (actsOf webl) (envOf sl)) out k ns (j+1) r5):=HMi.out.step hjl ha5 (fun s=> by rw [HYg.out];exact hm5 s)
    clear hs5 ha5 hm5 hp5 hlc1
    go_wp2_with fail
    go_roundw
    case rel=> exact ⟨j+1,b5,o5,c5,r5,by omega,by go_num,rfl,by omega,hc5,HS5,HO5,HN5,Kj.trans k5⟩
    case measure=> simp [intOf];omega
def StuckAns (webl:List NodeD) (roots:List ByteArray) (sl:List RunX) (ns:List ByteArray):Prop:=ns.length≤60∧((ValidX webl roots sl∧StuckL (WaitsX (actsOf webl) (envOf sl)) (sl.map (·.name)) ns)∨(¬ValidX webl roots sl∧ns=[]))
theorem StuckAns.len {webl:List NodeD} {roots:List ByteArray} {sl:List RunX} {ns:List ByteArray} (h:StuckAns webl roots sl ns):ns.length≤60:=h.1
theorem StuckAns.one {webl:List NodeD} {roots:List ByteArray} {sl:List RunX} {ns ms:List ByteArray} (h:StuckAns webl roots sl ns) (k:StuckAns webl roots sl ms):ms=ns:=by
 rcases h.2 with ⟨h1,h2⟩ | ⟨h1,h2⟩
 ·rcases k.2 with ⟨k1,k2⟩ | ⟨k1,k2⟩
  ·exact h2.unique k2
  ·exact absurd h1 k1
 ·rcases k.2 with ⟨k1,k2⟩ | ⟨k1,k2⟩
  ·exact absurd k1 h1
  ·rw [h2,k2]
theorem StuckL.len {E:ByteArray→ByteArray→Prop} {names ns:List ByteArray} (h:StuckL E names ns):ns.length≤names.length:=List.Nodup.length_le_of_subset (asc_nodupB h.1) (fun s hs=> ((h.2 s).1 hs).1)
def StuckEndS (webl:List NodeD) (roots:List ByteArray) (sl:List RunX) (w':World) (e:Ending):Prop:=
 ∃(da:Option Addr) (c:Nat) (ns:List ByteArray),e= .returned (.slice da ns.length c)∧Strs w' da ns∧StuckAns webl roots sl ns
set_option maxRecDepth 100000 in
set_option maxHeartbeats 12800000 in
theorem specStuck_any (w:World) (a:Option Addr) (cap:Nat) (webl:List NodeD) (ra:Option Addr) (rc:Nat) (roots:List ByteArray) (d:Option Addr) (dc:Nat) (sl:List RunX) (hwl:webl.length≤1048576) (hft: ∀y∈webl,y.Fits) (hrl:roots.length≤1048576) (hrs: ∀s∈roots,s.size≤maxLen) (hsl:sl.length≤1048576) (hst: ∀x∈sl,x.texts.length≤1048576)
  (hN:Nodes w a webl) (hS:RunsX w d sl) (hR:Strs w ra roots):
  Calls Tryz.prog 25 #[.agg #[.slice a webl.length cap],.agg #[.slice ra roots.length rc,.slice d sl.length dc]] w fun e w'=> StuckEndS webl roots sl w' e∧Kept w w':=by
 obtain ⟨WB,hWB⟩: ∃WB,WB= (w.alloc (.cells #[.slice a webl.length cap] 37)).alloc (.cells #[.slice ra roots.length rc,.slice d sl.length dc] 41):= ⟨_,rfl⟩
 have kB:Kept w WB:=by rw [hWB];exact ((Kept.refl _).alloc _).alloc _
 have hBs:WB.heap.size=w.heap.size+2:=by rw [hWB];simp
 have b0:WB.cell? ⟨w.heap.size,0,none⟩=some (.slice a webl.length cap):=by rw [hWB,Kept.cell (w:=w.alloc (.cells #[.slice a webl.length cap] 37)) ((Kept.refl _).alloc _) (by simp)];exact range_new w _ _ 0 _ rfl
 have s0:WB.cell? ⟨w.heap.size+1,0,none⟩=some (.slice ra roots.length rc):=by have:=range_new (w.alloc (.cells #[.slice a webl.length cap] 37)) #[.slice ra roots.length rc,.slice d sl.length dc] 41 0 _ rfl;rw [World.size_alloc] at this;rw [hWB];exact this
 have s1:WB.cell? ⟨w.heap.size+1,1,none⟩=some (.slice d sl.length dc):=by have:=range_new (w.alloc (.cells #[.slice a webl.length cap] 37)) #[.slice ra roots.length rc,.slice d sl.length dc] 41 1 _ rfl;rw [World.size_alloc] at this;rw [hWB];exact this
 have z0:w.heap.size < WB.heap.size:=by omega
 have z1:w.heap.size+1 < WB.heap.size:=by omega
 have HC:Hid (∀w',Kept WB w'→w'.cell? ⟨w.heap.size,0,none⟩=some (.slice a webl.length cap)∧w'.cell? ⟨w.heap.size+1,0,none⟩=some (.slice ra roots.length rc)∧w'.cell? ⟨w.heap.size+1,1,none⟩=some (.slice d sl.length dc)∧w.heap.size < w'.heap.size∧w.heap.size+1 < w'.heap.size):=fun w' K=> ⟨(K.cell z0).trans b0,(K.cell z1).trans s0,(K.cell z1).trans s1,Nat.lt_of_lt_of_le z0 K.size,Nat.lt_of_lt_of_le z1 K.size⟩
 obtain ⟨ic,hi0,hi1,hi2,hi3⟩:=xInfo_parts Tryz.xInfoStr
 have HKB:=hide kB
 have HE1:Hid (Strs (WB.alloc (.cells #[] 9)) (some ⟨WB.heap.size,0,none⟩) []):=fun i hi=> by cases hi
 have kE:Kept WB (WB.alloc (.cells #[] 9)):= (Kept.refl _).alloc _
 clear kB hBs b0 s0 s1
 go_enter Tryz.func25,Tryz.ntmps25
 go_upto_region 1 with fail
 rw [←hWB]
 clear hWB
 go_upto_region 2 with fail
 obtain ⟨WE,hWE⟩: ∃WE,WE=WB.alloc (.cells #[] 9):= ⟨_,rfl⟩
 rw [←hWE] at kE HE1⊢
 clear hWE
 obtain ⟨eb,heb⟩: ∃eb,eb=WB.heap.size:= ⟨_,rfl⟩
 rw [←heb] at HE1⊢
 clear heb
 obtain ⟨b0,s0,s1,_,_⟩:=HC.out _ kE
 go_wp2_with fail
 refine (validState_any _ a cap webl ra rc roots d dc sl hwl hft hrl hrs hsl hst (hN.kept (HKB.out.trans kE)) (hS.kept (HKB.out.trans kE)) (hR.kept (HKB.out.trans kE))).mono ?_
 rintro e w1 ⟨⟨bv,rfl,hv⟩,k1⟩
 have HV:=hide hv
 have K1:=kE.trans k1
 have HE2:=hide (HE1.out.kept k1)
 clear hv b0 s0 s1 z0 z1 kE HE1
 cases bv
 ·go_wp2_with fail
  go_ret
  exact ⟨⟨some ⟨eb,0,none⟩,0,[],rfl,HE2.out,Nat.zero_le _,.inr ⟨fun h=> (by have:=HV.out.2 h;cases this),rfl⟩⟩,HKB.out.trans K1⟩
 have HVal:=hide (HV.out.1 rfl)
 have HGd:=hide HVal.out.good
 have hok:=web_acts HVal.out.1
 have hs60:sl.length≤60:=Nat.le_trans HGd.out.len (web_len HVal.out.1)
 clear HV
 go_wp2_with fail
 go_loopw [5,6] (fun x5 x6 wr=> ∃(i b o c:Nat) (out:List ByteArray),i≤sl.length∧x6= .int .i64 (i:Int)∧x5= .slice (some ⟨b,o,none⟩) out.length c∧out.length≤c∧Hid (Strs wr (some ⟨b,o,none⟩) out)∧Hid (StuckL (WaitsX (actsOf webl) (envOf sl)) ((sl.take i).map (·.name)) out)∧Kept w1 wr) (fun _ x6 _=> sl.length - (intOf x6).toNat)
 case atStart=> exact ⟨0,eb,0,0,[],Nat.zero_le _,rfl,rfl,Nat.le_refl _,HE2,hide ⟨List.Pairwise.nil,fun s=> by simp⟩,Kept.refl _⟩
 case round=>
  clear HE2
  obtain ⟨i,b,o,c,out,hi,rfl,rfl,hoc,HSo,HL,Kr⟩:=hrel
  obtain ⟨c0,c1,c2,y0,y1⟩:=HC.out _ (K1.trans Kr)
  have hol:out.length≤i:=by have h:=HL.out.len;rw [List.length_map,List.length_take] at h;omega
  by_cases hil:i < sl.length
  rotate_left
  ·have hni: ¬((i:Int) < (sl.length:Int)):=by omega
   have HLw:Hid (StuckL (WaitsX (actsOf webl) (envOf sl)) (sl.map (·.name)) out):=by have h:=HL.out;rw [show i=sl.length by omega,List.take_length] at h;exact h
   clear hil
   go_wp2_with fail
   go_ret
   exact ⟨⟨_,c,out,rfl,HSo.out,by omega,.inl ⟨HVal.out,HLw.out⟩⟩,HKB.out.trans (K1.trans Kr)⟩
  have hii: (i:Int) < (sl.length:Int):=by omega
  obtain ⟨rb,ro,xa,xc,e1,hrb,hrc,_,_⟩:= (hS.kept (HKB.out.trans (K1.trans Kr))) i hil
  subst e1
  obtain ⟨x,hx⟩: ∃x,x=runN sl i:= ⟨_,rfl⟩
  have t0:=hrc 0 _ rfl
  rw [Nat.add_zero] at t0
  have t0':wr.cell? ⟨rb,ro+i * 7,none⟩=some (.string x):=by rw [hx];exact t0
  clear t0 hrc
  have HTk:Hid ((sl.take (i+1)).map (·.name)= (sl.take i).map (·.name)++ [x]):=by
   show _=_
   rw [List.take_succ_eq_append_getElem hil,List.map_append,hx]
   simp [runN,List.getD,hil]
  have HS7:Hid (∀u,Kept wr u→(u.cell? ⟨w.heap.size,0,none⟩=some (.slice a webl.length cap)∧u.cell? ⟨w.heap.size+1,0,none⟩=some (.slice ra roots.length rc)∧u.cell? ⟨w.heap.size+1,1,none⟩=some (.slice (some ⟨rb,ro,none⟩) sl.length dc)∧u.cell? ⟨rb,ro+i * 7,none⟩=some (.string x))):=fun u K=> ⟨(HC.out u (K1.trans (Kr.trans K))).1,(HC.out u (K1.trans (Kr.trans K))).2.1,(HC.out u (K1.trans (Kr.trans K))).2.2.1,(K.cell hrb).trans t0'⟩
  clear hx t0'
  go_upto_region 7 with fail
  clear c0 c1 c2
  refine UpTo.region (by kernel_rfl) (fun u=> u.cell? ⟨w.heap.size,0,none⟩=some (.slice a webl.length cap)∧u.cell? ⟨w.heap.size+1,0,none⟩=some (.slice ra roots.length rc)∧u.cell? ⟨w.heap.size+1,1,none⟩=some (.slice (some ⟨rb,ro,none⟩) sl.length dc)∧u.cell? ⟨rb,ro+i * 7,none⟩=some (.string x)) 17 (HS7.out _ ((Kept.refl wr).drew)) (fun hHeld=> ?_)
  have KD:Kept wr wr.drew:= (Kept.refl wr).drew
  generalize hwd:wr.drew=wd at hHeld KD⊢
  clear hwd
  refine UpTo.tk 0 [8,16,17] hHeld ?_
  try simp only [Act.put,upA,upB,upC]
  refine UpTo.tk 1 [8,16,17] hHeld ?_
  try simp only [Act.put,upA,upB,upC]
  refine UpTo.tk 2 [3,5,6,7,8,16,17] hHeld ?_
  try simp only [Act.put,upA,upB,upC]
  refine UpTo.tk 3 [5,6,7,8,16,17] hHeld ?_
  try simp only [Act.put,upA,upB,upC]
  refine UpTo.tk 4 [5,6,7,8,16,17] hHeld ?_
  try simp only [Act.put,upA,upB,upC]
  refine UpTo.tk 5 [6,7,8,16,17] hHeld ?_
  try simp only [Act.put,upA,upB,upC]
  refine UpTo.tk 6 [7,8,16,17] hHeld ?_
  try simp only [Act.put,upA,upB,upC]
  refine UpTo.tk 7 [8,16,17] hHeld ?_
  try simp only [Act.put,upA,upB,upC]
  refine UpTo.tk 9 [10,12,13,14,15,16,17] hHeld ?_
  try simp only [Act.put,upA,upB,upC]
  refine UpTo.tk 10 [12,13,14,15,16,17] hHeld ?_
  try simp only [Act.put,upA,upB,upC]
  refine UpTo.tk 11 [12,13,14,15,16,17] hHeld ?_
  try simp only [Act.put,upA,upB,upC]
  refine UpTo.tk 12 [13,14,15,16,17] hHeld ?_
  try simp only [Act.put,upA,upB,upC]
  refine UpTo.tk 13 [14,15,16,17] hHeld ?_
  try simp only [Act.put,upA,upB,upC]
  refine UpTo.tk 14 [15,16,17] hHeld ?_
  try simp only [Act.put,upA,upB,upC]
  refine UpTo.two 8 15 (by kernel_rfl) (by (simp only [List.getElem?_toArray,List.getElem?_cons_succ,List.getElem?_cons_zero];rfl)) (by (simp only [List.getElem?_toArray,List.getElem?_cons_succ,List.getElem?_cons_zero];rfl)) (fun K hK=> ?_) (fun K hK=> ?_)
  rw [if_pos (by rfl)]
  go_simp
  go_at_call 50
  refine (l6Reach_any wd a cap webl ra roots.length rc (some ⟨rb,ro,none⟩) dc sl x hwl (by omega) hok HGd.out (hN.kept (HKB.out.trans (K1.trans (Kr.trans KD)))) (hS.kept (HKB.out.trans (K1.trans (Kr.trans KD))))).mono ?_
  rintro e w3 ⟨rv,rcap,rl,rfl,hrlc,hrS,hrL,hrO,k3⟩
  have K3:=KD.trans k3
  have HrL:=hide hrL
  dsimp only
  refine hK.out _ _ (fun _=> HS7.out _ K3) ?_
  clear hK K
  try simp only [Act.put,upA,upB,upC]
  refine UpTo.nx 15 (fun K hK=> ?_)
  go_simp
  have K5:Kept w3 (w3.alloc (.cells #[.string x] 9)):= (Kept.refl _).alloc _
  have hc5: (w3.alloc (.cells #[.string x] 9)).cell? ⟨w3.heap.size,0,none⟩=some (.string x):=range_new w3 #[.string x] 9 0 _ rfl
  have hz5:w3.heap.size < (w3.alloc (.cells #[.string x] 9)).heap.size:=by simp
  have K5b:=K3.trans K5
  refine hK.out _ _ (fun _=> HS7.out _ K5b) ?_
  clear hK K
  obtain ⟨nb5,hnb5⟩: ∃nb5,nb5=w3.heap.size:= ⟨_,rfl⟩
  rw [←hnb5] at hc5 hz5⊢
  generalize hwe:w3.alloc (.cells #[.string x] 9)=w4 at hc5 hz5 K5 K5b⊢
  clear hwe hnb5
  try simp only [Act.put,upA,upB,upC]
  have HrO:=hide (ownsRow_kept' (owns_low hrO KD.size) K5)
  have HKx:Hid (Kept wr w4):=K5b
  have HNw:Hid (Strs w4 (some ⟨nb5,0,none⟩) [x]):=fun q hq=> by
   obtain rfl:q=0:=by simpa using hq
   exact ⟨nb5,0,rfl,hz5,hc5⟩
  clear hrO hrS hrL k3 K3 K5 K5b hc5 hz5 hHeld KD
  rotate_left
  go_simp
  have K5:Kept wd (wd.alloc (.cells #[.string x] 9)):= (Kept.refl _).alloc _
  have hc5: (wd.alloc (.cells #[.string x] 9)).cell? ⟨wd.heap.size,0,none⟩=some (.string x):=range_new wd #[.string x] 9 0 _ rfl
  have hz5:wd.heap.size < (wd.alloc (.cells #[.string x] 9)).heap.size:=by simp
  have K5b:=KD.trans K5
  refine hK.out _ _ (fun _=> HS7.out _ K5b) ?_
  clear hK K
  obtain ⟨nb5,hnb5⟩: ∃nb5,nb5=wd.heap.size:= ⟨_,rfl⟩
  rw [←hnb5] at hc5 hz5⊢
  generalize hwe:wd.alloc (.cells #[.string x] 9)=wq at hc5 hz5 K5 K5b⊢
  clear hwe hnb5
  try simp only [Act.put,upA,upB,upC]
  refine UpTo.nx 8 (fun K hK=> ?_)
  rw [if_pos (by rfl)]
  go_simp
  go_at_call 50
  refine (l6Reach_any wq a cap webl ra roots.length rc (some ⟨rb,ro,none⟩) dc sl x hwl (by omega) hok HGd.out (hN.kept (HKB.out.trans (K1.trans (Kr.trans K5b)))) (hS.kept (HKB.out.trans (K1.trans (Kr.trans K5b))))).mono ?_
  rintro e w3 ⟨rv,rcap,rl,rfl,hrlc,hrS,hrL,hrO,k3⟩
  have K3:=K5b.trans k3
  have HrL:=hide hrL
  dsimp only
  refine hK.out _ _ (fun _=> HS7.out _ K3) ?_
  clear hK K
  try simp only [Act.put,upA,upB,upC]
  obtain ⟨w4,hw4⟩: ∃w4,w4=w3:= ⟨_,rfl⟩
  rw [←hw4] at hrO k3 K3⊢
  have HrO:=hide (owns_low hrO (Nat.le_trans KD.size K5.size))
  have HKx:Hid (Kept wr w4):=K3
  have HNw:Hid (Strs w4 (some ⟨nb5,0,none⟩) [x]):=fun q hq=> by
   obtain rfl:q=0:=by simpa using hq
   exact ⟨nb5,0,rfl,Nat.lt_of_lt_of_le hz5 k3.size,(k3.cell hz5).trans hc5⟩
  clear hrO hrS hrL hw4 k3 K3 K5 K5b hc5 hz5 hHeld KD
  all_goals
   have hrl60:rl.length≤60:=by
    have h:ReachI (WaitsX (actsOf webl) (envOf sl)) x rl:= ⟨HrL.out.1,fun s hs=> (HrL.out.2 s).1 hs,fun s hs=> (HrL.out.2 s).2 ⟨0,WalkN.one hs⟩⟩
    have h2:=h.len (names:=sl.map (·.name)) waits_to
    rw [List.length_map] at h2
    omega
   have hz6:wr.heap.size≤w4.heap.size:=HKx.out.size
   obtain ⟨_,_,ex5,hx5,hxc5⟩:=HNw.out 0 (by simp)
   cases ex5
   refine UpTo.nx 16 (fun K hK=> ?_)
   refine step_append_lies _ rfl (.tmp 30) (.tmp 37) 25 rfl wr.heap.size 9 ic _ 1 16 Tryz.underlying25 hi0 hi1 hi2 hi3 rfl (by decide) (.slice rv rl.length rcap) rl.length (rl.map Value.string) rfl HrO.out ⟨nb5,0,none⟩ 1 1 [.string x] rfl rfl (fun j u hu=> ?_) (fun u hu=> ?_) (by decide) (by unfold maxLen;omega) (by omega) hz6 w4.heap.size rfl ?_
   ·match j,hu with
    | 0,hu=> simp at hu;subst hu;rw [Addr.add_mid];exact hxc5
    | j+1,hu=> simp at hu
   ·simp at hu;subst hu;rfl
   intro gb gc w7 ho7 hg7 hv7 hgz7
   have HKP:Hid (Kept wr w7):=kept_of_grown HKx.out (Nat.le_refl _) HrO.out hg7
   have HO7:=hide ho7
   refine hK.out _ _ (fun _=> HS7.out _ HKP.out) ?_
   clear hK K ho7 hg7 hv7 hgz7
   try simp only [Act.put,upA,upB,upC]
   refine UpTo.nx 17 (fun K hK=> ?_)
   go_simp
   refine hK.out _ _ (fun h=> absurd rfl h) ?_
   clear hK K
   try simp only [Act.put,upA,upB,upC]
   refine UpTo.done (by kernel_rfl) ?_
   have hS7:Strs w7 (some ⟨gb,0,none⟩) (rl++ [x]):=by
    have ho:w7.ownsRow wr.heap.size 9 1 (.slice (some ⟨gb,0,none⟩) (rl.length+1) gc) (rl.length+1) ((rl++ [x]).map Value.string):=by rw [List.map_append];exact HO7.out
    obtain ⟨a9,c9,e9,h9⟩:=owned_strs ho
    simp only [Value.slice.injEq] at e9
    rw [←e9.1] at h9
    exact h9
   obtain ⟨reach,hre⟩: ∃reach,reach=rl++ [x]:= ⟨_,rfl⟩
   have hrlen:rl.length+1=reach.length:=by rw [hre];simp
   rw [←hre] at hS7
   rw [hrlen]
   have HRe:=hide hre
   have HS7r:=hide hS7
   have HSo7:=hide (HSo.out.kept HKP.out)
   have HI7:Hid (StuckI (WaitsX (actsOf webl) (envOf sl)) ((sl.take i).map (·.name)) x reach 0 out):=StuckI.enter HL.out x reach
   have hre61:reach.length≤61:=by omega
   have K7:=Kr.trans HKP.out
   clear hS7 hre hrlen HO7 hx5 hxc5 hz6 HNw HrO HKx
   go_wp2_with fail
   go_loopw [5,8] (fun x5 x8 wr=> ∃(k b o c:Nat) (out:List ByteArray),k≤reach.length∧x8= .int .i64 (k:Int)∧x5= .slice (some ⟨b,o,none⟩) out.length c∧out.length≤c∧out.length≤i+k∧Hid (Strs wr (some ⟨b,o,none⟩) out)∧Hid (StuckI (WaitsX (actsOf webl) (envOf sl)) ((sl.take i).map (·.name)) x reach k out)∧Kept w7 wr) (fun _ x8 _=> reach.length - (intOf x8).toNat)
   case atStart=> exact ⟨0,b,o,c,out,Nat.zero_le _,rfl,rfl,hoc,by omega,HSo7,HI7,Kept.refl _⟩
   case round=>
    clear HSo7 HI7
    obtain ⟨k,b,o,c,out,hk,rfl,rfl,hoc,hok2,HSo,HSi,Kk⟩:=hrel
    by_cases hkl:k < reach.length
    rotate_left
    ·have hnk: ¬((k:Int) < (reach.length:Int)):=by omega
     have HLv:Hid (StuckL (WaitsX (actsOf webl) (envOf sl)) ((sl.take (i+1)).map (·.name)) out):=by
      rw [HTk.out]
      have h:=HSi.out
      rw [HRe.out] at h
      exact h.leave (by rw [←HRe.out];omega) HrL.out
     clear hkl
     go_wp2_with fail
     go_roundw
     case rel=> exact ⟨i+1,b,o,c,out,by omega,by go_num,rfl,hoc,HSo,HLv,K7.trans Kk⟩
     case measure=> simp [intOf];omega
    obtain ⟨qb,qo,e1,hqb,hqc⟩:= (HS7r.out.kept Kk) k hkl
    cases e1
    obtain ⟨y,hy⟩: ∃y,y=reach.getD k ByteArray.empty:= ⟨_,rfl⟩
    rw [←hy,Nat.zero_add] at hqc
    have hyg:reach[k]=y:=by rw [hy];simp [List.getD,hkl]
    have HYg:=hide hyg
    have hkk: (k:Int) < (reach.length:Int):=by omega
    have HS11:Hid (∀u,Kept wr u→(u.cell? ⟨w.heap.size,0,none⟩=some (.slice a webl.length cap)∧u.cell? ⟨w.heap.size+1,0,none⟩=some (.slice ra roots.length rc)∧u.cell? ⟨w.heap.size+1,1,none⟩=some (.slice (some ⟨rb,ro,none⟩) sl.length dc)∧u.cell? ⟨gb,k,none⟩=some (.string y))):=fun u K=> ⟨(HC.out u (K1.trans (K7.trans (Kk.trans K)))).1,(HC.out u (K1.trans (K7.trans (Kk.trans K)))).2.1,(HC.out u (K1.trans (K7.trans (Kk.trans K)))).2.2.1,(K.cell hqb).trans hqc⟩
    clear hy hyg hqc
    go_upto_region 11 with fail
    refine UpTo.region (by kernel_rfl) (fun u=> u.cell? ⟨w.heap.size,0,none⟩=some (.slice a webl.length cap)∧u.cell? ⟨w.heap.size+1,0,none⟩=some (.slice ra roots.length rc)∧u.cell? ⟨w.heap.size+1,1,none⟩=some (.slice (some ⟨rb,ro,none⟩) sl.length dc)∧u.cell? ⟨gb,k,none⟩=some (.string y)) 11 (HS11.out _ ((Kept.refl wr).drew)) (fun hHeld=> ?_)
    have KD:Kept wr wr.drew:= (Kept.refl wr).drew
    generalize hwd:wr.drew=wd at hHeld KD⊢
    clear hwd
    refine UpTo.tk 0 [6,11] hHeld ?_
    try simp only [Act.put,upA,upB,upC]
    refine UpTo.tk 1 [6,11] hHeld ?_
    try simp only [Act.put,upA,upB,upC]
    refine UpTo.tk 2 [4,5,6,11] hHeld ?_
    try simp only [Act.put,upA,upB,upC]
    refine UpTo.tk 3 [4,5,6,11] hHeld ?_
    try simp only [Act.put,upA,upB,upC]
    refine UpTo.tk 4 [5,6,11] hHeld ?_
    try simp only [Act.put,upA,upB,upC]
    refine UpTo.tk 5 [6,11] hHeld ?_
    try simp only [Act.put,upA,upB,upC]
    refine UpTo.tk 7 [9,10,11] hHeld ?_
    try simp only [Act.put,upA,upB,upC]
    refine UpTo.tk 8 [9,10,11] hHeld ?_
    try simp only [Act.put,upA,upB,upC]
    refine UpTo.tk 9 [10,11] hHeld ?_
    try simp only [Act.put,upA,upB,upC]
    refine UpTo.tk 10 [11] hHeld ?_
    try simp only [Act.put,upA,upB,upC]
    refine UpTo.nx 6 (fun K hK=> ?_)
    rw [if_pos (by rfl)]
    go_simp
    go_at_call 50
    refine (l6Reach_any wd a cap webl ra roots.length rc (some ⟨rb,ro,none⟩) dc sl y hwl (by omega) hok HGd.out (hN.kept (HKB.out.trans (K1.trans (K7.trans (Kk.trans KD))))) (hS.kept (HKB.out.trans (K1.trans (K7.trans (Kk.trans KD)))))).mono ?_
    rintro e w4 ⟨rv2,rc2,rl2,rfl,_,hrS2,hrL2,_,k4⟩
    have K4:=KD.trans k4
    have HR2:=hide hrL2
    have HRS2:=hide hrS2
    have hr60:rl2.length≤60:=by
     have h:ReachI (WaitsX (actsOf webl) (envOf sl)) y rl2:= ⟨hrL2.1,fun s hs=> (hrL2.2 s).1 hs,fun s hs=> (hrL2.2 s).2 ⟨0,WalkN.one hs⟩⟩
     have h2:=h.len (names:=sl.map (·.name)) waits_to
     rw [List.length_map] at h2
     omega
    clear hrS2 hrL2
    dsimp only
    refine hK.out _ _ (fun _=> HS11.out _ K4) ?_
    clear hK K
    try simp only [Act.put,upA,upB,upC]
    refine UpTo.nx 11 (fun K hK=> ?_)
    rw [if_pos (by rfl)]
    go_simp
    go_at_call 51
    refine (l6Has_any w4 rv2 rc2 rl2 y (by omega) HRS2.out).mono ?_
    rintro e w5 ⟨⟨bs,rfl,hbs⟩,hw5⟩
    rw [hw5]
    have HBs:=hide hbs
    clear hw5 hbs
    dsimp only
    refine hK.out _ _ (fun h=> absurd rfl h) ?_
    clear hK K
    try simp only [Act.put,upA,upB,upC]
    refine UpTo.done (by kernel_rfl) ?_
    have HSo2:=hide (HSo.out.kept K4)
    obtain ⟨c0,c1,c2,y0,y1⟩:=HC.out _ (K1.trans (K7.trans (Kk.trans K4)))
    have hxc:= (HS7.out _ (HKP.out.trans (Kk.trans K4))).2.2.2
    clear HS11 hHeld
    cases bs
    rotate_left
    ·have HOn:Hid (OnC (WaitsX (actsOf webl) (envOf sl)) y):= (HR2.out.2 y).1 (HBs.out.1 rfl)
     clear HBs
     go_wp2_with fail
     refine (l6Put_any w4 b o c out x (by omega) hoc HSi.out.asc HSo2.out).mono ?_
     rintro e w5 ⟨b5,o5,c5,r5,rfl,hc5,hp5,hs5,k5⟩
     obtain ⟨ha5,hm5⟩:=hp5.asc HSi.out.asc
     have hl5b:r5.length≤out.length+1:=by
      rcases hp5 with ⟨_,rfl⟩ | ⟨_,q,hq,rfl,_,_⟩
      ·omega
      ·simp;omega
     have HS5:=hide hs5
     have HN5:Hid (StuckI (WaitsX (actsOf webl) (envOf sl)) ((sl.take i).map (·.name)) x reach (k+1) r5):=HSi.out.put hkl (by rw [HYg.out];exact HOn.out) ha5 hm5
     clear hs5 ha5 hm5 hp5 c0 c1 c2 hxc
     go_wp2_with fail
     go_roundw
     case rel=> exact ⟨k+1,b5,o5,c5,r5,by omega,by go_num,rfl,hc5,by omega,HS5,HN5,Kk.trans (K4.trans k5)⟩
     case measure=> simp [intOf];omega
    ·have HNo:Hid (StuckI (WaitsX (actsOf webl) (envOf sl)) ((sl.take i).map (·.name)) x reach (k+1) out):=HSi.out.skip hkl (by rw [HYg.out];exact fun h=> by have h2:=HBs.out.2 ((HR2.out.2 y).2 h);cases h2)
     clear HBs c0 c1 c2 hxc
     go_wp2_with fail
     go_roundw
     case rel=> exact ⟨k+1,b,o,c,out,by omega,by go_num,rfl,hoc,by omega,HSo2,HNo,Kk.trans K4⟩
     case measure=> simp [intOf];omega
end Go.Proofs.YteknkpfbjapoiaaGreatDoor
