import Derived.Test.YteknkpfbjapoiaaGreatDoorKXFar
import Derived.Test.YteknkpfbjapoiaaGreatDoorKVCircA
namespace Go.Proofs.YteknkpfbjapoiaaGreatDoor
open Go.RowKit
theorem waits_name {webl:List NodeD} {sl:List RunX} (x y:ByteArray) (h:WaitsX (actsOf webl) (envOf sl) x y):x∈sl.map (·.name):=by
 obtain ⟨r,A,h1,_⟩:=h
 have h2:=env_mem h1
 rw [←h2.2]
 exact List.mem_map.2 ⟨r,h2.1,rfl⟩
theorem ascX_before {sl:List RunX} (ha:AscX sl) {i:Nat} (hi:i < sl.length) {x:ByteArray} (hx:x=runN sl i): ∀y∈(sl.take i).map (·.name),lessX y x:=fun y hy=> by
 obtain ⟨r,hr,rfl⟩:=List.mem_map.1 hy
 obtain ⟨j,hj,rfl⟩:=List.mem_take_iff_getElem.1 hr
 have hji:j < i:=by omega
 rw [hx,show runN sl i=sl[i].name by simp [runN,List.getD,hi]]
 exact List.pairwise_iff_getElem.1 ha j i (by omega) hi hji
def CircEnd (webl:List NodeD) (sl:List RunX) (w w':World) (e:Ending):Prop:= ∃av cv ns,e= .returned (.slice av ns.length cv)∧ns.length≤cv∧Strs w' av ns∧BestR (WaitsX (actsOf webl) (envOf sl)) (sl.map (·.name)) ns∧Kept w w'
set_option maxRecDepth 100000 in
set_option maxHeartbeats 12800000 in
theorem l6Circle_any (w:World) (a:Option Addr) (cap:Nat) (webl:List NodeD) (ra:Option Addr) (rn rc:Nat) (d:Option Addr) (dc:Nat) (sl:List RunX) (hwl:webl.length≤1048576) (hs6:sl.length≤1000) (hok:ActsOk (actsOf webl)) (hg:GoodL webl sl) (hN:Nodes w a webl) (hS:RunsX w d sl):
  Calls Tryz.prog 46 #[.agg #[.slice a webl.length cap],.agg #[.slice ra rn rc,.slice d sl.length dc]] w fun e w'=> CircEnd webl sl w w' e:=by
 obtain ⟨WB,hWB⟩: ∃WB,WB= (w.alloc (.cells #[.slice a webl.length cap] 37)).alloc (.cells #[.slice ra rn rc,.slice d sl.length dc] 41):= ⟨_,rfl⟩
 have kB:Kept w WB:=by rw [hWB];exact ((Kept.refl _).alloc _).alloc _
 have hBs:WB.heap.size=w.heap.size+2:=by rw [hWB];simp
 have b0:WB.cell? ⟨w.heap.size,0,none⟩=some (.slice a webl.length cap):=by rw [hWB,Kept.cell (w:=w.alloc (.cells #[.slice a webl.length cap] 37)) ((Kept.refl _).alloc _) (by simp)];exact range_new w _ _ 0 _ rfl
 have s0:WB.cell? ⟨w.heap.size+1,0,none⟩=some (.slice ra rn rc):=by have:=range_new (w.alloc (.cells #[.slice a webl.length cap] 37)) #[.slice ra rn rc,.slice d sl.length dc] 41 0 _ rfl;rw [World.size_alloc] at this;rw [hWB];exact this
 have s1:WB.cell? ⟨w.heap.size+1,1,none⟩=some (.slice d sl.length dc):=by have:=range_new (w.alloc (.cells #[.slice a webl.length cap] 37)) #[.slice ra rn rc,.slice d sl.length dc] 41 1 _ rfl;rw [World.size_alloc] at this;rw [hWB];exact this
 have z0:w.heap.size < WB.heap.size:=by omega
 have z1:w.heap.size+1 < WB.heap.size:=by omega
 have HC:Hid (∀w',Kept WB w'→w'.cell? ⟨w.heap.size,0,none⟩=some (.slice a webl.length cap)∧w'.cell? ⟨w.heap.size+1,0,none⟩=some (.slice ra rn rc)∧w'.cell? ⟨w.heap.size+1,1,none⟩=some (.slice d sl.length dc)∧w.heap.size < w'.heap.size∧w.heap.size+1 < w'.heap.size):=fun w' K=> ⟨(K.cell z0).trans b0,(K.cell z1).trans s0,(K.cell z1).trans s1,Nat.lt_of_lt_of_le z0 K.size,Nat.lt_of_lt_of_le z1 K.size⟩
 have hsl:sl.length≤1048576:=by omega
 obtain ⟨ic,hc0,hc1,hc2,hc3⟩:=xInfo_parts Tryz.xInfoStr
 obtain ⟨W0,hW0⟩: ∃W0,W0=WB.alloc (.cells #[] 9):= ⟨_,rfl⟩
 have k0:Kept WB W0:=by rw [hW0];exact (Kept.refl _).alloc _
 have HKB:=hide kB
 have HGd:=hide hg
 clear kB hBs hg
 go_enter Tryz.func46,Tryz.ntmps46
 go_upto_region 1 with fail
 rw [←hWB]
 clear hWB
 go_wp2
 rw [←hW0]
 clear hW0 b0 s0 s1
 go_loopw [5,6] (fun x5 x6 wr=> ∃(i:Nat) (av:Option Addr) (cv:Nat) (best:List ByteArray),i≤sl.length∧x6= .int .i64 (i:Int)∧x5= .slice av best.length cv∧best.length≤cv∧Hid (Strs wr av best)∧Hid (BestR (WaitsX (actsOf webl) (envOf sl)) ((sl.take i).map (·.name)) best)∧Kept WB wr) (fun _ x6 _=> sl.length - (intOf x6).toNat)
 case atStart=> exact ⟨0,_,_,[],Nat.zero_le _,rfl,rfl,Nat.zero_le _,hide (fun q hq=> absurd hq (Nat.not_lt_zero q)),hide (BestR.start _),k0⟩
 case round=>
  clear k0
  obtain ⟨i,av,cv,best,hi,rfl,rfl,hbc,HB,HR,Kr⟩:=hrel
  obtain ⟨c0,c1,c2,y0,y1⟩:=HC.out _ Kr
  by_cases hil:i < sl.length
  rotate_left
  ·have hie:i=sl.length:=by omega
   have HIe:=hide hie
   have hgi: ¬((i:Int) < (sl.length:Int)):=by omega
   clear hie
   go_wp2_with fail
   go_ret
   refine ⟨av,cv,best,rfl,hbc,HB.out, ?_,HKB.out.trans Kr⟩
   have h:=HR.out
   rw [HIe.out,List.take_length] at h
   exact h
  have hii: (i:Int) < (sl.length:Int):=by omega
  obtain ⟨rb,ro,xa,xc,e1,hrb,hrc,_,_⟩:= (hS.kept (HKB.out.trans Kr)) i hil
  subst e1
  obtain ⟨x,hx⟩: ∃x,x=runN sl i:= ⟨_,rfl⟩
  have t0:=hrc 0 _ rfl
  rw [Nat.add_zero] at t0
  have t0':wr.cell? ⟨rb,ro+i * 7,none⟩=some (.string x):=by rw [hx];exact t0
  clear t0 hrc
  have t0:=t0'
  clear t0'
  have HX:=hide hx
  clear hx
  go_wp2_with fail
  refine (l6Far_any wr a cap webl ra rn rc (some ⟨rb,ro,none⟩) dc sl x hwl hs6 hok HGd.out (hN.kept (HKB.out.trans Kr)) (hS.kept (HKB.out.trans Kr))).mono ?_
  rintro e w2 ⟨fb,V,rfl,hF,hV,k2⟩
  have HF:=hide hF
  have HV:=hide hV
  have K2:=Kr.trans k2
  clear hF hV c0 c1 c2 t0
  dsimp only
  have HWh:Hid ((V i≠0→FarR (WaitsX (actsOf webl) (envOf sl)) x (V i) x)∧∀m,FarR (WaitsX (actsOf webl) (envOf sl)) x m x→V i=m):=by
   have h:=HV.out i hil
   rw [←HX.out] at h
   exact RightV.whole (names:=sl.map (·.name)) waits_name (by rw [List.length_map];exact h) (lessX_irrefl x)
  have f0:=World.rowIs.cell HF.out hil
  try dsimp only at f0
  have fz:=HF.out.lt
  have HB2:=hide (HB.out.kept k2)
  have HTk:Hid ((sl.take (i+1)).map (·.name)= (sl.take i).map (·.name)++ [x]):=by
   show _=_
   rw [List.take_succ_eq_append_getElem hil,List.map_append,HX.out]
   simp [runN,List.getD,hil]
  have HLt:Hid (∀y∈(sl.take i).map (·.name),lessX y x):=ascX_before HGd.out.asc hil HX.out
  obtain ⟨v,hv⟩: ∃v,v=V i:= ⟨_,rfl⟩
  rw [←hv] at f0 HWh
  have HVv:=hide hv
  clear hv HB k2
  by_cases hskip:v=0∨(0 < best.length∧best.length≤v)
  ·have HSk:Hid (∀n,FarR (WaitsX (actsOf webl) (envOf sl)) x n x→best≠[]∧best.length≤n):=fun n hn=> by
    have e:=HWh.out.2 n hn
    have hp:=hn.1.pos
    rcases hskip with h | ⟨h1,h2⟩
    ·omega
    ·exact ⟨fun e0=> by rw [e0] at h1;simp at h1,by omega⟩
   have hsk2: ((v:Int) == 0)=true∨(((v:Int) == 0)=false∧(0:Int) < (best.length:Int)∧(best.length:Int)≤(v:Int)):=by
    by_cases h0:v=0
    ·exact .inl (by simp [h0])
    ·refine .inr ⟨by simp;omega, ?_⟩
     rcases hskip with h | ⟨h1,h2⟩
     ·exact absurd h h0
     ·omega
   clear hskip
   rcases hsk2 with h0 | ⟨h0,h1,h2⟩
   all_goals
    go_wp2_with fail
    go_roundw
    case rel=> exact ⟨i+1,av,cv,best,by omega,by go_num,rfl,hbc,HB2,hide (by rw [HTk.out];exact BestR.skip HR.out HSk.out HLt.out),K2⟩
    case measure=> simp [intOf];omega
  have hv0:v≠0:=fun h=> hskip (.inl h)
  have HFv:=hide (HWh.out.1 hv0)
  have HBv:Hid (best=[]∨v < best.length):=by
   by_cases h:best.length=0
   ·exact .inl (List.eq_nil_of_length_eq_zero h)
   ·refine .inr ?_
    have h2: ¬(0 < best.length∧best.length≤v):=fun h2=> hskip (.inr h2)
    omega
  have hgo: ((v:Int) == 0)=false∧(¬((0:Int) < (best.length:Int))∨((0:Int) < (best.length:Int)∧¬((best.length:Int)≤(v:Int)))):=by
   refine ⟨by simp;omega, ?_⟩
   have h2: ¬(0 < best.length∧best.length≤v):=fun h2=> hskip (.inr h2)
   omega
  have hvs:v≤sl.length:=by have:= (HFv.out).bound (names:=sl.map (·.name)) waits_name;rwa [List.length_map] at this
  clear hskip
  obtain ⟨W3,hW3⟩: ∃W3,W3=w2.alloc (.cells #[.string x] 9):= ⟨_,rfl⟩
  have K3:Kept w2 W3:=by rw [hW3];exact (Kept.refl _).alloc _
  have HO3:Hid (W3.ownsRow w2.heap.size 9 1 (.slice (some ⟨w2.heap.size,0,none⟩) 1 1) [x].length ([x].map Value.string)):=by
   rw [hW3]
   exact ⟨rfl,.inr ⟨w2.heap.size,1,_,rfl,Nat.le_refl _,heap_alloc_new w2 _,Nat.le_refl _,by unfold maxLen;omega,rfl,rfl⟩⟩
  obtain ⟨h0,h12⟩:=hgo
  rcases h12 with h1 | ⟨h1,h2⟩
  all_goals
   go_upto_region 10 with fail
   rw [←hW3]
   clear hW3
   go_loopg [10] v (fun gg x10 wr=> ∃(lst:List ByteArray) (a':ByteArray) (lv:Option Addr) (lc:Nat),x10= .slice lv lst.length lc∧Hid (PartR (WaitsX (actsOf webl) (envOf sl)) x v lst a' gg)∧Hid (wr.ownsRow w2.heap.size 9 1 (.slice lv lst.length lc) lst.length (lst.map Value.string))∧Kept w2 wr)
   case atStart=> exact ⟨[x],x,_,_,rfl,hide (PartR.start HFv.out),HO3,K3⟩
   case round=>
    obtain ⟨lst,a',lv,lc,rfl,HP,HO,Kw⟩:=hrel
    have hlen:=HP.out.len
    have hpos:=HP.out.pos
    by_cases hend:gk=1
    ·have hnlt: ¬((lst.length:Int) < (v:Int)):=by omega
     have HCi:Hid (CircR (WaitsX (actsOf webl) (envOf sl)) x v x lst):=by have h:=HP.out;rw [hend] at h;exact h.done
     clear hend hlen hpos
     obtain ⟨a9,c9,e9,h9⟩:=owned_strs HO.out
     simp only [Value.slice.injEq,true_and] at e9
     rw [←e9.1] at h9
     have H9:=hide h9
     have HLc:Hid (lst.length≤lc):=by
      rcases HO.out.2 with ⟨e,h⟩ | ⟨_,_,_,e,_,_,h,_⟩
      ·simp only [Value.slice.injEq] at e;show lst.length≤lc;omega
      ·simp only [Value.slice.injEq] at e;show lst.length≤lc;omega
     clear e9 h9
     go_wp2_with fail
     go_roundw
     case rel=> exact ⟨i+1,lv,lc,lst,by omega,by go_num,rfl,HLc.out,H9,hide (by rw [HTk.out];exact BestR.take HR.out HFv.out HCi.out HBv.out),K2.trans Kw⟩
     case measure=> simp [intOf];omega
    obtain ⟨q,hq⟩: ∃q,gk=q+1:= ⟨gk - 1,by omega⟩
    have hq1:1≤q:=by omega
    have HPq:Hid (PartR (WaitsX (actsOf webl) (envOf sl)) x v lst a' (q+1)):=by have h:=HP.out;rw [hq] at h;exact h
    have HQ:=hide hq
    have hlv: (lst.length:Int) < (v:Int):=by omega
    obtain ⟨m,hm⟩: ∃m,lst.length=m+1:= ⟨lst.length - 1,by have h:=HP.out.last;obtain ⟨l0,e⟩:=h;rw [e];simp⟩
    have hsub: (lst.length:Int) - 1= (m:Int):=by omega
    have hwr:IntKind.i64.wrap (m:Int)= (m:Int):=by rw [IntKind.wrap_i64];omega
    have him: (m:Int) < (lst.length:Int):=by omega
    have hlast:lst.getD m ByteArray.empty=a':=by
     obtain ⟨l0,e⟩:=HP.out.last
     have e2:m=l0.length:=by rw [e,List.length_append] at hm;simp at hm;omega
     rw [e,e2]
     simp [List.getD]
    obtain ⟨a9,c9,e9,h9⟩:=owned_strs HO.out
    simp only [Value.slice.injEq,true_and] at e9
    rw [←e9.1] at h9
    obtain ⟨lb,lo,e1,hlb,hlc⟩:=h9 m (by omega)
    rw [hlast] at hlc
    subst e1
    have HLs:=hide hlast
    have HM:=hide hm
    clear e9 h9 hq hlast hm hend hlen hpos
    have HS11:Hid (∀u,Kept wr u→(u.cell? ⟨w.heap.size,0,none⟩=some (.slice a webl.length cap)∧u.cell? ⟨w.heap.size+1,0,none⟩=some (.slice ra rn rc)∧u.cell? ⟨w.heap.size+1,1,none⟩=some (.slice (some ⟨rb,ro,none⟩) sl.length dc)∧u.cell? ⟨lb,lo+m,none⟩=some (.string a'))):=fun u K=> ⟨(HC.out u (K2.trans (Kw.trans K))).1,(HC.out u (K2.trans (Kw.trans K))).2.1,(HC.out u (K2.trans (Kw.trans K))).2.2.1,(K.cell hlb).trans hlc⟩
    go_upto_region 11 with fail
    refine UpTo.region (by kernel_rfl) (fun u=> u.cell? ⟨w.heap.size,0,none⟩=some (.slice a webl.length cap)∧u.cell? ⟨w.heap.size+1,0,none⟩=some (.slice ra rn rc)∧u.cell? ⟨w.heap.size+1,1,none⟩=some (.slice (some ⟨rb,ro,none⟩) sl.length dc)∧u.cell? ⟨lb,lo+m,none⟩=some (.string a')) 9 (HS11.out _ ((Kept.refl wr).drew)) (fun hHeld=> ?_)
    have KD:Kept wr wr.drew:= (Kept.refl wr).drew
    generalize hwd:wr.drew=wd at hHeld KD⊢
    clear hwd
    refine UpTo.tk 0 [8,9] hHeld ?_
    try simp only [Act.put,upA,upB,upC]
    refine UpTo.tk 1 [8,9] hHeld ?_
    try simp only [Act.put,upA,upB,upC]
    refine UpTo.tk 2 [6,7,8,9] hHeld ?_
    try simp only [Act.put,upA,upB,upC]
    refine UpTo.tk 3 [4,5,6,7,8,9] hHeld ?_
    try simp only [Act.put,upA,upB,upC]
    refine UpTo.tk 4 [5,6,7,8,9] hHeld ?_
    try simp only [Act.put,upA,upB,upC]
    refine UpTo.tk 5 [6,7,8,9] hHeld ?_
    try simp only [Act.put,upA,upB,upC]
    refine UpTo.tk 6 [7,8,9] hHeld ?_
    try simp only [Act.put,upA,upB,upC]
    refine UpTo.tk 7 [8,9] hHeld ?_
    try simp only [Act.put,upA,upB,upC]
    refine UpTo.nx 8 (fun K hK=> ?_)
    rw [if_pos (by rfl)]
    go_simp
    go_at_call 88
    refine (l6Waits_any wd a cap webl ra rn rc (some ⟨rb,ro,none⟩) dc sl a' hwl hsl hok HGd.out (hN.kept (HKB.out.trans (K2.trans (Kw.trans KD)))) (hS.kept (HKB.out.trans (K2.trans (Kw.trans KD))))).mono ?_
    rintro e w4 ⟨⟨nb,no,nc,ns,rfl,hnc,hnS,hWL⟩,k4⟩
    have K4:=KD.trans k4
    dsimp only
    refine hK.out _ _ (fun _=> HS11.out _ K4) ?_
    clear hK K hHeld
    try simp only [Act.put,upA,upB,upC]
    refine UpTo.nx 9 (fun K hK=> ?_)
    go_simp
    refine hK.out _ _ (fun h=> absurd rfl h) ?_
    clear hK K
    try simp only [Act.put,upA,upB,upC]
    refine UpTo.done (by kernel_rfl) ?_
    have HWL:=hide hWL
    have HNS:=hide hnS
    have HO4:=hide (ownsRow_kept' HO.out K4)
    have HF4:=hide (HF.out.kept (Kw.trans K4))
    have Kw4:=Kw.trans K4
    have hl5:=hWL.len hok HGd.out.env
    clear hWL hnS HS11 hsub hwr him hlc k4 hlb
    go_wp2_with fail
    go_loopw [10,12] (fun x10 x12 wr=> ∃k:Nat,k≤ns.length∧x12= .int .i64 (k:Int)∧x10= .slice (some ⟨lb,lo,none⟩) lst.length lc∧Hid (∀y∈ns.take k,¬(WaitsX (actsOf webl) (envOf sl) a' y∧lessX x y∧FarR (WaitsX (actsOf webl) (envOf sl)) x q y))∧Kept w4 wr) (fun _ x12 _=> ns.length - (intOf x12).toNat)
    case atStart=> exact ⟨0,Nat.zero_le _,rfl,rfl,hide (fun y hy=> by simp at hy),Kept.refl _⟩
    case round=>
     obtain ⟨k,hk,rfl,rfl,HNo,Kn⟩:=hrel
     by_cases hkl:k < ns.length
     rotate_left
     ·exfalso
      obtain ⟨y,h1,h2,h3⟩:=HPq.out.more hq1
      have hy:y∈ns:= (HWL.out.2 y).2 h1
      refine HNo.out y ?_ ⟨h1,h2,h3⟩
      rw [List.take_of_length_le (by omega)]
      exact hy
     obtain ⟨lb1,lo1,e1,hlb1,hlc1⟩:= (HNS.out.kept Kn) k hkl
     cases e1
     obtain ⟨s,hs⟩: ∃s,s=ns.getD k ByteArray.empty:= ⟨_,rfl⟩
     rw [←hs] at hlc1
     have hsg:ns[k]=s:=by rw [hs];simp [List.getD,hkl]
     have HSk:=hide hsg
     have HEs:Hid (WaitsX (actsOf webl) (envOf sl) a' s):= (HWL.out.2 s).1 (by rw [←hsg];exact List.getElem_mem hkl)
     clear hs hsg
     have hkk: (k:Int) < (ns.length:Int):=by omega
     have HS15:Hid (∀u,Kept wr u→(u.cell? ⟨nb,no+k,none⟩=some (.string s)∧u.cell? ⟨w.heap.size+1,0,none⟩=some (.slice ra rn rc)∧u.cell? ⟨w.heap.size+1,1,none⟩=some (.slice (some ⟨rb,ro,none⟩) sl.length dc)∧Hid (NumRow u fb sl.length V))):=fun u K=> ⟨(K.cell hlb1).trans hlc1,(HC.out u (K2.trans (Kw4.trans (Kn.trans K)))).2.1,(HC.out u (K2.trans (Kw4.trans (Kn.trans K)))).2.2.1,hide (HF4.out.kept (Kn.trans K))⟩
     go_upto_region 15 with fail
     clear hlc1
     by_cases hgt:lessX x s
     rotate_left
     ·have HNg:=hide hgt
      have hcs:Op.bytesLess s.toList x.toList=true∨(Op.bytesLess s.toList x.toList=false∧(s.toList == x.toList)=true):=by
       rcases lessX_total s x with h | h | h
       ·exact .inl h
       ·right
        rw [h]
        exact ⟨by cases h2:Op.bytesLess x.toList x.toList;rfl;exact absurd (show lessX x x from h2) (lessX_irrefl x),by simp⟩
       ·exact absurd h hgt
      clear hgt
      rcases hcs with hl1 | ⟨hl1,he1⟩
      all_goals
       refine UpTo.region (by kernel_rfl) (fun u=> u.cell? ⟨nb,no+k,none⟩=some (.string s)∧u.cell? ⟨w.heap.size+1,0,none⟩=some (.slice ra rn rc)∧u.cell? ⟨w.heap.size+1,1,none⟩=some (.slice (some ⟨rb,ro,none⟩) sl.length dc)∧Hid (NumRow u fb sl.length V)) 21 (HS15.out _ ((Kept.refl wr).drew)) (fun hHeld=> ?_)
       have KD:Kept wr wr.drew:= (Kept.refl wr).drew
       generalize hwd:wr.drew=wd at hHeld KD⊢
       clear hwd
       refine UpTo.tk 0 [2,3,5,6,7,8,9,10,11,12,13,14,15,16,17,18,19,20,21] hHeld ?_
       try simp only [Act.put,upA,upB,upC]
       refine UpTo.tk 1 [2,3,5,6,7,8,9,10,11,12,13,14,15,16,17,18,19,20,21] hHeld ?_
       try simp only [Act.put,upA,upB,upC]
       refine UpTo.tk 2 [3,5,6,7,8,9,10,11,12,13,14,15,16,17,18,19,20,21] hHeld ?_
       try simp only [Act.put,upA,upB,upC]
       refine UpTo.tk 3 [5,6,7,8,9,10,11,12,13,14,15,16,17,18,19,20,21] hHeld ?_
       try simp only [Act.put,upA,upB,upC]
       refine UpTo.tk 4 [5,6,7,8,9,10,11,12,13,14,15,16,17,18,19,20,21] hHeld ?_
       try simp only [Act.put,upA,upB,upC]
       refine UpTo.tk 5 [6,7,8,9,10,11,12,13,14,15,16,17,18,19,20,21] hHeld ?_
       try simp only [Act.put,upA,upB,upC]
       refine UpTo.tk 6 [7,8,9,10,11,12,13,14,15,16,17,18,19,20,21] hHeld ?_
       try simp only [Act.put,upA,upB,upC]
       refine UpTo.un 7 [14,15,20,21] hHeld ?_
       try simp only [Act.put,upA,upB,upC]
       refine UpTo.un 8 [13,14,15,20,21] hHeld ?_
       try simp only [Act.put,upA,upB,upC]
       refine UpTo.un 9 [11,12,13,14,15,20,21] hHeld ?_
       try simp only [Act.put,upA,upB,upC]
       refine UpTo.un 10 [11,12,13,14,15,20,21] hHeld ?_
       try simp only [Act.put,upA,upB,upC]
       refine UpTo.un 11 [12,13,14,15,20,21] hHeld ?_
       try simp only [Act.put,upA,upB,upC]
       refine UpTo.un 12 [13,14,15,20,21] hHeld ?_
       try simp only [Act.put,upA,upB,upC]
       refine UpTo.un 13 [14,15,20,21] hHeld ?_
       try simp only [Act.put,upA,upB,upC]
       refine UpTo.un 14 [15,20,21] hHeld ?_
       try simp only [Act.put,upA,upB,upC]
       refine UpTo.un 15 [20,21] hHeld ?_
       try simp only [Act.put,upA,upB,upC]
       refine UpTo.un 16 [19,20,21] hHeld ?_
       try simp only [Act.put,upA,upB,upC]
       refine UpTo.un 17 [18,19,20,21] hHeld ?_
       try simp only [Act.put,upA,upB,upC]
       refine UpTo.un 18 [19,20,21] hHeld ?_
       try simp only [Act.put,upA,upB,upC]
       refine UpTo.un 19 [20,21] hHeld ?_
       try simp only [Act.put,upA,upB,upC]
       refine UpTo.un 20 [21] hHeld ?_
       try simp only [Act.put,upA,upB,upC]
       refine UpTo.nx 21 (fun K hK=> ?_)
       go_simp
       refine hK.out _ _ (fun h=> absurd rfl h) ?_
       clear hK K
       try simp only [Act.put,upA,upB,upC]
       refine UpTo.done (by kernel_rfl) ?_
       go_wp2_with fail
       go_roundw
       case rel=> exact ⟨k+1,by omega,by go_num,rfl,hide (fun y hy=> by
        rw [List.take_succ_eq_append_getElem hkl,HSk.out] at hy
        rcases List.mem_append.1 hy with hy | hy
        ·exact HNo.out y hy
        ·rw [List.mem_singleton] at hy
         rw [hy]
         exact fun h=> HNg.out h.2.1),Kn.trans KD⟩
       case measure=> simp [intOf];omega
     have HGt:Hid (lessX x s):=hgt
     have hl1:Op.bytesLess s.toList x.toList=false:=by
      cases h:Op.bytesLess s.toList x.toList
      ·rfl
      ·exact absurd (show lessX s x from h) (lessX_asymm hgt)
     have he1: (s.toList == x.toList)=false:=by
      cases h: (s.toList == x.toList)
      ·rfl
      ·exact absurd hgt (by rw [beq_yes h];exact lessX_irrefl _)
     clear hgt
     have hsubq: (v:Int) - (lst.length:Int)= (q:Int):=by have:=HPq.out.len;omega
     have hwq:IntKind.i64.wrap (q:Int)= (q:Int):=by rw [IntKind.wrap_i64];omega
     refine UpTo.region (by kernel_rfl) (fun u=> u.cell? ⟨nb,no+k,none⟩=some (.string s)∧u.cell? ⟨w.heap.size+1,0,none⟩=some (.slice ra rn rc)∧u.cell? ⟨w.heap.size+1,1,none⟩=some (.slice (some ⟨rb,ro,none⟩) sl.length dc)∧Hid (NumRow u fb sl.length V)) 21 (HS15.out _ ((Kept.refl wr).drew)) (fun hHeld=> ?_)
     have KD:Kept wr wr.drew:= (Kept.refl wr).drew
     generalize hwd:wr.drew=wd at hHeld KD⊢
     clear hwd
     refine UpTo.tk 0 [2,3,5,6,7,8,9,10,11,12,13,14,15,16,17,18,19,20,21] hHeld ?_
     try simp only [Act.put,upA,upB,upC]
     refine UpTo.tk 1 [2,3,5,6,7,8,9,10,11,12,13,14,15,16,17,18,19,20,21] hHeld ?_
     try simp only [Act.put,upA,upB,upC]
     refine UpTo.tk 2 [3,5,6,7,8,9,10,11,12,13,14,15,16,17,18,19,20,21] hHeld ?_
     try simp only [Act.put,upA,upB,upC]
     refine UpTo.tk 3 [5,6,7,8,9,10,11,12,13,14,15,16,17,18,19,20,21] hHeld ?_
     try simp only [Act.put,upA,upB,upC]
     refine UpTo.tk 4 [5,6,7,8,9,10,11,12,13,14,15,16,17,18,19,20,21] hHeld ?_
     try simp only [Act.put,upA,upB,upC]
     refine UpTo.tk 5 [6,7,8,9,10,11,12,13,14,15,16,17,18,19,20,21] hHeld ?_
     try simp only [Act.put,upA,upB,upC]
     refine UpTo.tk 6 [7,8,9,10,11,12,13,14,15,16,17,18,19,20,21] hHeld ?_
     try simp only [Act.put,upA,upB,upC]
     refine UpTo.tk 7 [14,15,20,21] hHeld ?_
     try simp only [Act.put,upA,upB,upC]
     refine UpTo.tk 8 [13,14,15,20,21] hHeld ?_
     try simp only [Act.put,upA,upB,upC]
     refine UpTo.tk 9 [11,12,13,14,15,20,21] hHeld ?_
     try simp only [Act.put,upA,upB,upC]
     refine UpTo.tk 10 [11,12,13,14,15,20,21] hHeld ?_
     try simp only [Act.put,upA,upB,upC]
     refine UpTo.tk 11 [12,13,14,15,20,21] hHeld ?_
     try simp only [Act.put,upA,upB,upC]
     refine UpTo.tk 12 [13,14,15,20,21] hHeld ?_
     try simp only [Act.put,upA,upB,upC]
     refine UpTo.tk 16 [19,20,21] hHeld ?_
     try simp only [Act.put,upA,upB,upC]
     refine UpTo.tk 17 [18,19,20,21] hHeld ?_
     try simp only [Act.put,upA,upB,upC]
     refine UpTo.tk 18 [19,20,21] hHeld ?_
     try simp only [Act.put,upA,upB,upC]
     refine UpTo.tk 19 [20,21] hHeld ?_
     try simp only [Act.put,upA,upB,upC]
     refine UpTo.nx 13 (fun K hK=> ?_)
     rw [if_pos (by rfl)]
     go_simp
     go_at_call 64
     refine (l4At_place wd ra rn rc (some ⟨rb,ro,none⟩) dc sl s hsl (hS.kept (HKB.out.trans (K2.trans (Kw4.trans (Kn.trans KD)))))).mono ?_
     rintro e w5 ⟨⟨q5,rfl,hq5⟩,k5⟩
     have K5:=KD.trans k5
     obtain ⟨k',hk',rfl,henv',hkn'⟩: ∃k':Nat,k' < sl.length∧q5= (k':Int)∧envOf sl s=some (sl.getD k' RunX.zero)∧(sl.getD k' RunX.zero).name=s:=by
      rcases hq5 with ⟨k',h1,h2,h3,h4⟩ | ⟨_,h1⟩
      ·exact ⟨k',h1,h2,h3,h4⟩
      ·obtain ⟨_,_,_,_,_,_,_,y,hy,_⟩:=HEs.out
       rw [h1] at hy
       cases hy
     clear hq5
     have hki': (k':Int) < (sl.length:Int):=by omega
     have hk0: (0:Int)≤(k':Int):=by omega
     obtain ⟨p,hp⟩: ∃p,p=V k':= ⟨_,rfl⟩
     have HPQ:Hid (p=q↔FarR (WaitsX (actsOf webl) (envOf sl)) x q s):=by
      show p=q↔_
      have h:=HV.out k' hk'
      have e2:runN sl k'=s:=hkn'
      rw [e2] at h
      have h2:=RightV.whole (names:=sl.map (·.name)) waits_name (by rw [List.length_map];exact h) (lessX_asymm HGt.out)
      rw [←hp] at h2
      exact ⟨fun e=> by have h3:=h2.1 (by omega);rw [e] at h3;exact h3,fun hf=> h2.2 q hf⟩
     have HPp:=hide hp
     clear hp henv' hkn'
     dsimp only
     refine hK.out _ _ (fun _=> HS15.out _ K5) ?_
     clear hK K
     try simp only [Act.put,upA,upB,upC]
     clear hHeld
     have hHeld:=HS15.out _ K5
     by_cases hpq:p=q
     ·have hpb: ((p:Int) == (q:Int))=true:=by simp [hpq]
      have HLe:Hid (LeastN (fun y=> WaitsX (actsOf webl) (envOf sl) a' y∧lessX x y∧FarR (WaitsX (actsOf webl) (envOf sl)) x q y) s):=by
       have h:=first_least (p:=fun y=> WaitsX (actsOf webl) (envOf sl) a' y∧lessX x y∧FarR (WaitsX (actsOf webl) (envOf sl)) x q y) HWL.out.1 (fun y hy=> (HWL.out.2 y).2 hy.1) hkl (by rw [HSk.out];exact ⟨HEs.out,HGt.out,HPQ.out.1 hpq⟩) HNo.out
       rw [HSk.out] at h
       exact h
      clear hpq
      refine UpTo.tk 14 [15,20,21] hHeld ?_
      try simp only [Act.put,upA,upB,upC]
      refine UpTo.take 15 [20,21] (v:= ?_) (by (simp only [List.getElem?_toArray,List.getElem?_cons_succ,List.getElem?_cons_zero];rfl)) (by kernel_rfl) (by kernel_rfl) (by kernel_rfl) (by kernel_rfl) (by exact fun _ _ _ h=> h) (Or.inl ⟨by rfl, ?_⟩) hHeld ?_
      rotate_left
      ·intro u hu
       try dsimp only at hu
       have f9:=World.rowIs.cell hu.2.2.2.out hk'
       try dsimp only at f9
       rw [←HPp.out] at f9
       go_simp
       try with_reducible rfl
      try simp only [Act.put,upA,upB,upC]
      refine UpTo.tk 20 [21] hHeld ?_
      try simp only [Act.put,upA,upB,upC]
      refine UpTo.nx 21 (fun K hK=> ?_)
      go_simp
      refine hK.out _ _ (fun h=> absurd rfl h) ?_
      clear hK K
      try simp only [Act.put,upA,upB,upC]
      refine UpTo.done (by kernel_rfl) ?_
      have c5:= (HS15.out _ K5).1
      clear HS15 hHeld
      have k1:Kept w5 (w5.alloc (.cells #[.string s] 9)):= (Kept.refl _).alloc _
      have HOw:=hide (ownsRow_kept' HO4.out (Kn.trans (K5.trans k1)))
      have KK:=hide (Kw4.trans (Kn.trans (K5.trans k1)))
      have hbz:w2.heap.size≤(w5.alloc (.cells #[.string s] 9)).heap.size:=KK.out.size
      have HNw:Hid (∀j u,([.string s]:List Value)[j]? =some u→(w5.alloc (.cells #[.string s] 9)).cell? ((⟨w5.heap.size,0,none⟩:Addr).add j)=some u):=fun j u hu=> by rw [Addr.add_mid];exact range_new w5 #[.string s] 9 j u hu
      have HOne:Hid (∀u∈([.string s]:List Value),u.oneCell'=true):=fun u hu=> by simp only [List.mem_cons,List.not_mem_nil,or_false] at hu;subst hu;rfl
      clear k1
      go_wp2_with (at_builtin;refine wpList_append_own _ rfl (.tmp 91) (.tmp 96) 25 rfl w2.heap.size 9 ic _ 1 16 Tryz.underlying25 hc0 hc1 hc2 hc3 rfl (by decide) (.slice (some ⟨lb,lo,none⟩) lst.length lc) lst.length (lst.map Value.string) rfl HOw.out ⟨w5.heap.size,0,none⟩ 1 1 [.string s] rfl rfl HNw.out HOne.out (by unfold maxLen;omega) (by omega) hbz ?_;intro v' w6 hown2 hgr _;have KP:=kept_of_grown KK.out (Nat.le_refl _) HOw.out hgr;have HP2:=hide hown2;obtain ⟨av2,cv2,rfl⟩:=own_slice hown2;clear hown2 hgr)
      go_roundg q
      case measure=> have:=HQ.out;omega
      case rel=> exact ⟨lst++ [s],s,av2,cv2,by rw [List.length_append];rfl,hide (HPq.out.next hq1 HLe.out),hide (by rw [List.map_append,List.length_append];exact HP2.out),KP⟩
     ·have hpb: ((p:Int) == (q:Int))=false:=by simp;omega
      have HNf:Hid (¬FarR (WaitsX (actsOf webl) (envOf sl)) x q s):=fun h=> hpq (HPQ.out.2 h)
      clear hpq
      refine UpTo.tk 14 [15,20,21] hHeld ?_
      try simp only [Act.put,upA,upB,upC]
      refine UpTo.take 15 [20,21] (v:= ?_) (by (simp only [List.getElem?_toArray,List.getElem?_cons_succ,List.getElem?_cons_zero];rfl)) (by kernel_rfl) (by kernel_rfl) (by kernel_rfl) (by kernel_rfl) (by exact fun _ _ _ h=> h) (Or.inl ⟨by rfl, ?_⟩) hHeld ?_
      rotate_left
      ·intro u hu
       try dsimp only at hu
       have f9:=World.rowIs.cell hu.2.2.2.out hk'
       try dsimp only at f9
       rw [←HPp.out] at f9
       go_simp
       try with_reducible rfl
      try simp only [Act.put,upA,upB,upC]
      refine UpTo.tk 20 [21] hHeld ?_
      try simp only [Act.put,upA,upB,upC]
      refine UpTo.nx 21 (fun K hK=> ?_)
      go_simp
      refine hK.out _ _ (fun h=> absurd rfl h) ?_
      clear hK K
      try simp only [Act.put,upA,upB,upC]
      refine UpTo.done (by kernel_rfl) ?_
      go_wp2_with fail
      go_roundw
      case rel=> exact ⟨k+1,by omega,by go_num,rfl,hide (fun y hy=> by
       rw [List.take_succ_eq_append_getElem hkl,HSk.out] at hy
       rcases List.mem_append.1 hy with hy | hy
       ·exact HNo.out y hy
       ·rw [List.mem_singleton] at hy
        rw [hy]
        exact fun h=> HNf.out h.2.2),Kn.trans K5⟩
      case measure=> simp [intOf];omega
def CircEndS (webl:List NodeD) (roots:List ByteArray) (sl:List RunX) (w':World) (e:Ending):Prop:=
 ∃(da:Option Addr) (c:Nat) (ns:List ByteArray),e= .returned (.slice da ns.length c)∧Strs w' da ns∧CircleAns webl roots sl ns
set_option maxRecDepth 100000 in
set_option maxHeartbeats 1600000 in
theorem specCircle_any (w:World) (a:Option Addr) (cap:Nat) (webl:List NodeD) (ra:Option Addr) (rc:Nat) (roots:List ByteArray) (d:Option Addr) (dc:Nat) (sl:List RunX) (hwl:webl.length≤1048576) (hft: ∀y∈webl,y.Fits) (hrl:roots.length≤1048576) (hrs: ∀s∈roots,s.size≤maxLen) (hsl:sl.length≤1048576) (hst: ∀x∈sl,x.texts.length≤1048576)
  (hN:Nodes w a webl) (hS:RunsX w d sl) (hR:Strs w ra roots):
  Calls Tryz.prog 20 #[.agg #[.slice a webl.length cap],.agg #[.slice ra roots.length rc,.slice d sl.length dc]] w fun e w'=> CircEndS webl roots sl w' e∧Kept w w':=by
 obtain ⟨WB,hWB⟩: ∃WB,WB= (w.alloc (.cells #[.slice a webl.length cap] 37)).alloc (.cells #[.slice ra roots.length rc,.slice d sl.length dc] 41):= ⟨_,rfl⟩
 have kB:Kept w WB:=by rw [hWB];exact ((Kept.refl _).alloc _).alloc _
 have hBs:WB.heap.size=w.heap.size+2:=by rw [hWB];simp
 have b0:WB.cell? ⟨w.heap.size,0,none⟩=some (.slice a webl.length cap):=by rw [hWB,Kept.cell (w:=w.alloc (.cells #[.slice a webl.length cap] 37)) ((Kept.refl _).alloc _) (by simp)];exact range_new w _ _ 0 _ rfl
 have s0:WB.cell? ⟨w.heap.size+1,0,none⟩=some (.slice ra roots.length rc):=by have:=range_new (w.alloc (.cells #[.slice a webl.length cap] 37)) #[.slice ra roots.length rc,.slice d sl.length dc] 41 0 _ rfl;rw [World.size_alloc] at this;rw [hWB];exact this
 have s1:WB.cell? ⟨w.heap.size+1,1,none⟩=some (.slice d sl.length dc):=by have:=range_new (w.alloc (.cells #[.slice a webl.length cap] 37)) #[.slice ra roots.length rc,.slice d sl.length dc] 41 1 _ rfl;rw [World.size_alloc] at this;rw [hWB];exact this
 have z0:w.heap.size < WB.heap.size:=by omega
 have z1:w.heap.size+1 < WB.heap.size:=by omega
 have HC:Hid (∀w',Kept WB w'→w'.cell? ⟨w.heap.size,0,none⟩=some (.slice a webl.length cap)∧w'.cell? ⟨w.heap.size+1,0,none⟩=some (.slice ra roots.length rc)∧w'.cell? ⟨w.heap.size+1,1,none⟩=some (.slice d sl.length dc)∧w.heap.size < w'.heap.size∧w.heap.size+1 < w'.heap.size):=fun w' K=> ⟨(K.cell z0).trans b0,(K.cell z1).trans s0,(K.cell z1).trans s1,Nat.lt_of_lt_of_le z0 K.size,Nat.lt_of_lt_of_le z1 K.size⟩
 have HKB:=hide kB
 clear kB hBs b0 s0 s1
 go_enter Tryz.func20,Tryz.ntmps20
 go_upto_region 1 with fail
 rw [←hWB]
 clear hWB
 obtain ⟨b0,s0,s1,_,_⟩:=HC.out _ (Kept.refl _)
 go_wp2_with fail
 refine (validState_any _ a cap webl ra rc roots d dc sl hwl hft hrl hrs hsl hst (hN.kept HKB.out) (hS.kept HKB.out) (hR.kept HKB.out)).mono ?_
 rintro e w1 ⟨⟨bv,rfl,hv⟩,k1⟩
 have HV:=hide hv
 clear hv b0 s0 s1 z0 z1
 obtain ⟨b0,s0,s1,z0,z1⟩:=HC.out _ k1
 cases bv
 ·go_wp2_with fail
  go_ret
  exact ⟨⟨some ⟨w1.heap.size,0,none⟩,0,[],rfl,(fun i hi=> by cases hi),Nat.zero_le _,.inr ⟨fun h=> (by have:=HV.out.2 h;cases this),rfl⟩⟩,(HKB.out.trans k1).alloc _⟩
 ·have HVal:=hide (HV.out.1 rfl)
  have hgl:=HVal.out.good
  go_wp2_with fail
  refine (l6Circle_any w1 a cap webl ra roots.length rc d dc sl hwl (by have h1:=hgl.len;have h2:=web_len HVal.out.1;omega) (web_acts HVal.out.1) hgl (hN.kept (HKB.out.trans k1)) (hS.kept (HKB.out.trans k1))).mono ?_
  rintro e w2 ⟨av,cv,ns,rfl,hnc,hns,hBR,k2⟩
  have HNs:=hide hns
  have HC:=hide (hBR.circ waits_name)
  have HLn:=hide (hBR.len waits_name)
  clear hns hBR
  go_wp2_with fail
  go_ret
  exact ⟨⟨_,cv,ns,rfl,HNs.out,by have h1:=HLn.out;have h2:=HVal.out.good.len;have h3:=web_len HVal.out.1;rw [List.length_map] at h1;omega,.inl ⟨HVal.out,HC.out⟩⟩,HKB.out.trans (k1.trans k2)⟩
end Go.Proofs.YteknkpfbjapoiaaGreatDoor
