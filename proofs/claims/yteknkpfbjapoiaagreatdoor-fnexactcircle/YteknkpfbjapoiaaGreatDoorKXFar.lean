import Derived.Test.YteknkpfbjapoiaaGreatDoorKXPut6
import Derived.Test.YteknkpfbjapoiaaGreatDoorKCRing
import Derived.Test.YteknkpfbjapoiaaGreatDoorKVCircA
import Derived.Deep.OwnRows
namespace Go.Proofs.YteknkpfbjapoiaaGreatDoor
open Go.RowKit
theorem WaitL.nil {W:Acts} {σ:Env} {n:ByteArray} (h: ∀s,¬WaitsX W σ n s):WaitL W σ n []:= ⟨List.Pairwise.nil,fun s=> ⟨fun e=> (by cases e),fun e=> (h s e).elim⟩⟩
def WaitsSaid (webl:List NodeD) (sl:List RunX) (name:ByteArray) (w':World) (e:Ending):Prop:=
 ∃(b o c:Nat) (ns:List ByteArray),e= .returned (.slice (some ⟨b,o,none⟩) ns.length c)∧ns.length≤c∧Strs w' (some ⟨b,o,none⟩) ns∧WaitL (actsOf webl) (envOf sl) name ns
set_option maxRecDepth 100000 in
set_option maxHeartbeats 6400000 in
theorem l6Waits_any (w:World) (a:Option Addr) (cap:Nat) (webl:List NodeD) (ra:Option Addr) (rn rc:Nat) (d:Option Addr) (dc:Nat) (sl:List RunX) (name:ByteArray) (hwl:webl.length≤1048576) (hsl:sl.length≤1048576) (hok:ActsOk (actsOf webl)) (hg:GoodL webl sl) (hN:Nodes w a webl) (hS:RunsX w d sl):
  Calls Tryz.prog 88 #[.agg #[.slice a webl.length cap],.agg #[.slice ra rn rc,.slice d sl.length dc],.string name] w fun e w'=> WaitsSaid webl sl name w' e∧Kept w w':=by
 obtain ⟨WB,hWB⟩: ∃WB,WB= (w.alloc (.cells #[.slice a webl.length cap] 37)).alloc (.cells #[.slice ra rn rc,.slice d sl.length dc] 41):= ⟨_,rfl⟩
 have kB:Kept w WB:=by rw [hWB];exact ((Kept.refl _).alloc _).alloc _
 have hBs:WB.heap.size=w.heap.size+2:=by rw [hWB];simp
 have b0:WB.cell? ⟨w.heap.size,0,none⟩=some (.slice a webl.length cap):=by rw [hWB,Kept.cell (w:=w.alloc (.cells #[.slice a webl.length cap] 37)) ((Kept.refl _).alloc _) (by simp)];exact range_new w _ _ 0 _ rfl
 have s0:WB.cell? ⟨w.heap.size+1,0,none⟩=some (.slice ra rn rc):=by have:=range_new (w.alloc (.cells #[.slice a webl.length cap] 37)) #[.slice ra rn rc,.slice d sl.length dc] 41 0 _ rfl;rw [World.size_alloc] at this;rw [hWB];exact this
 have s1:WB.cell? ⟨w.heap.size+1,1,none⟩=some (.slice d sl.length dc):=by have:=range_new (w.alloc (.cells #[.slice a webl.length cap] 37)) #[.slice ra rn rc,.slice d sl.length dc] 41 1 _ rfl;rw [World.size_alloc] at this;rw [hWB];exact this
 have z0:w.heap.size < WB.heap.size:=by omega
 have z1:w.heap.size+1 < WB.heap.size:=by omega
 have HC:Hid (∀w',Kept WB w'→w'.cell? ⟨w.heap.size,0,none⟩=some (.slice a webl.length cap)∧w'.cell? ⟨w.heap.size+1,0,none⟩=some (.slice ra rn rc)∧w'.cell? ⟨w.heap.size+1,1,none⟩=some (.slice d sl.length dc)∧w.heap.size < w'.heap.size∧w.heap.size+1 < w'.heap.size):=fun w' K=> ⟨(K.cell z0).trans b0,(K.cell z1).trans s0,(K.cell z1).trans s1,Nat.lt_of_lt_of_le z0 K.size,Nat.lt_of_lt_of_le z1 K.size⟩
 have kE:Kept WB (WB.alloc (.cells #[] 9)):= (Kept.refl _).alloc _
 have HKB:=hide kB
 have HGd:=hide hg
 clear kB hBs b0 s0 s1 hg
 go_enter Tryz.func88,Tryz.ntmps88
 go_upto_region 1 with fail
 rw [←hWB]
 clear hWB
 go_upto_region 2 with fail
 obtain ⟨WE,hWE⟩: ∃WE,WE=WB.alloc (.cells #[] 9):= ⟨_,rfl⟩
 rw [←hWE] at kE⊢
 clear hWE
 obtain ⟨b0,s0,s1,y0,y1⟩:=HC.out _ kE
 go_wp2_with fail
 refine (l4At_place WE ra rn rc d dc sl name hsl (hS.kept (HKB.out.trans kE))).mono ?_
 rintro e w1 ⟨⟨p,rfl,hp⟩,k1⟩
 have K1:=kE.trans k1
 clear b0 s0 s1 y0 y1 k1 kE
 obtain ⟨b0,s0,s1,y0,y1⟩:=HC.out _ K1
 rcases hp with ⟨k,hk,rfl,henv,hkn⟩ | ⟨rfl,henv⟩
 rotate_left
 ·have HEn:=hide henv
  clear henv
  go_wp2_with fail
  go_ret
  exact ⟨⟨WB.heap.size,0,0,[],rfl,Nat.le_refl _,(fun i hi=> by cases hi),WaitL.nil fun s h=> by obtain ⟨r,_,hr,_⟩:=h;rw [HEn.out] at hr;cases hr⟩,HKB.out.trans K1⟩
 obtain ⟨r,hr⟩: ∃r,r=sl.getD k RunX.zero:= ⟨_,rfl⟩
 rw [←hr] at henv hkn
 obtain ⟨rb,ro,xa,xc,e1,hrb,hrc,_,_⟩:= (hS.kept (HKB.out.trans K1)) k hk
 rw [←hr] at hrc
 subst e1
 have t1:=hrc 1 _ rfl
 have t4:=hrc 4 _ rfl
 have t5:=hrc 5 _ rfl
 have hki: (k:Int) < (sl.length:Int):=by omega
 have HEn:=hide henv
 clear henv hrc hr
 by_cases hov:r.over=true∨r.visits=0
 ·have HOv:=hide hov
  have HFin:Hid (WaitL (actsOf webl) (envOf sl) name []):=WaitL.nil fun s h=> by
   obtain ⟨r',_,hr',h1,h2,_⟩:=h
   rw [HEn.out] at hr'
   cases hr'
   rcases HOv.out with h3 | h3
   ·rw [h1] at h3;cases h3
   ·exact h2 h3
  have hcs:r.over=true∨(r.over=false∧r.visits=0):=by
   rcases hov with h | h
   ·exact .inl h
   ·cases h1:r.over
    ·exact .inr ⟨rfl,h⟩
    ·exact .inl rfl
  clear hov
  rcases hcs with h | ⟨h,h2⟩
  ·rw [h] at t1
   go_wp2_with fail
   go_ret
   exact ⟨⟨WB.heap.size,0,0,[],rfl,Nat.le_refl _,(fun i hi=> by cases hi),HFin.out⟩,HKB.out.trans K1⟩
  ·rw [h] at t1
   rw [h2] at t5
   go_wp2_with fail
   go_ret
   exact ⟨⟨WB.heap.size,0,0,[],rfl,Nat.le_refl _,(fun i hi=> by cases hi),HFin.out⟩,HKB.out.trans K1⟩
 have ho:r.over=false:=by
  cases h1:r.over
  ·rfl
  ·exact absurd (.inl h1) hov
 have hv:r.visits≠0:=fun e=> hov (.inr e)
 have hvb: (r.visits == 0)=false:=by simpa using hv
 obtain ⟨A,hA,ha0,ha1⟩:= (HGd.out.good r (env_mem HEn.out).1).act
 rw [hkn] at hA
 obtain ⟨j,hj,hjn,hjf,rfl⟩:=acts_first hA
 obtain ⟨y,hy⟩: ∃y,y=webl.getD j NodeD.zero:= ⟨_,rfl⟩
 rw [←hy] at hA ha1
 dsimp only at ha1
 obtain ⟨nb,nq,cs,e2,hnb0,hcs,na,nc,rfl,hSt⟩:=hN j hj
 subst e2
 rw [←hy] at hcs hSt
 obtain ⟨ix,hix⟩: ∃ix:Nat,r.at'= (ix:Int):= ⟨r.at'.toNat,by omega⟩
 have hixl:ix < y.steps.length:=by omega
 obtain ⟨tb,tq,cs2,e3,htb,hcs2,aa,ca,ac,cc,rfl,hAs,_,_⟩:=hSt ix hixl
 subst e3
 obtain ⟨s,hs⟩: ∃s,s=y.steps.getD ix StepD.zero:= ⟨_,rfl⟩
 rw [←hs] at hcs2 hAs
 have n2:=hcs 2 _ rfl
 have m0:=hcs2 0 _ rfl
 rw [Nat.add_zero] at m0
 have HStep:Hid (stepOf ⟨y.cost,y.steps⟩ r.at'=s):=by show _=_;unfold stepOf;rw [hix,hs];rfl
 have hal:s.asks.length≤5:=by have h:= (asks_ok (hok _ _ hA).1 ha0 ha1).1;rw [HStep.out] at h;exact h
 have HKn:=hide hjn
 have HKf:=hide hjf
 have HAct:=hide hA
 have HVis:=hide hv
 have HOv:=hide ho
 have hji: (j:Int) < (webl.length:Int):=by omega
 have hii: (ix:Int) < (y.steps.length:Int):=by omega
 rw [hix] at t4
 rw [ho] at t1
 have KN:=HKB.out.trans K1
 have HS5:Hid (∀w',Kept w1 w'→w'.cell? ⟨w.heap.size,0,none⟩=some (.slice (some ⟨nb,nq,none⟩) webl.length cap)∧w'.cell? ⟨w.heap.size+1,1,none⟩=some (.slice (some ⟨rb,ro,none⟩) sl.length dc)∧w'.cell? ⟨rb,ro+k * 7+4,none⟩=some (.int .i64 (ix:Int))∧w'.cell? ⟨nb,nq+j * 3+2,none⟩=some (.slice (some ⟨tb,tq,none⟩) y.steps.length nc)∧w'.cell? ⟨tb,tq+ix * 8,none⟩=some (.slice aa s.asks.length ca)):=fun w' K=> ⟨(HC.out w' (K1.trans K)).1,(HC.out w' (K1.trans K)).2.2.1,(K.cell hrb).trans t4,((KN.trans K).cell hnb0).trans n2,((KN.trans K).cell htb).trans m0⟩
 have HN1:=hide (hN.kept KN)
 have HAs:=hide hAs
 clear hov hA hy hcs hSt hcs2 hAs hs hix ha0 ha1 hv ho hjn hjf n2 m0 hkn
 go_upto_region 5 with fail
 clear t1 t4 t5 hvb b0 s0 s1 y0 y1
 refine UpTo.region (by kernel_rfl) (fun w'=> w'.cell? ⟨w.heap.size,0,none⟩=some (.slice (some ⟨nb,nq,none⟩) webl.length cap)∧w'.cell? ⟨w.heap.size+1,1,none⟩=some (.slice (some ⟨rb,ro,none⟩) sl.length dc)∧w'.cell? ⟨rb,ro+k * 7+4,none⟩=some (.int .i64 (ix:Int))∧w'.cell? ⟨nb,nq+j * 3+2,none⟩=some (.slice (some ⟨tb,tq,none⟩) y.steps.length nc)∧w'.cell? ⟨tb,tq+ix * 8,none⟩=some (.slice aa s.asks.length ca)) 18 (HS5.out _ ((Kept.refl w1).drew)) (fun hHeld=> ?_)
 have KD:Kept w1 w1.drew:= (Kept.refl w1).drew
 generalize hwd:w1.drew=wd at hHeld KD⊢
 clear hwd
 refine UpTo.tk 0 [1,5,6,7,8,15,16,17,18] hHeld ?_
 try simp only [Act.put,upA,upB,upC]
 refine UpTo.tk 1 [5,6,7,8,15,16,17,18] hHeld ?_
 try simp only [Act.put,upA,upB,upC]
 refine UpTo.tk 2 [4,5,6,7,8,15,16,17,18] hHeld ?_
 try simp only [Act.put,upA,upB,upC]
 refine UpTo.tk 3 [4,5,6,7,8,15,16,17,18] hHeld ?_
 try simp only [Act.put,upA,upB,upC]
 refine UpTo.tk 9 [10,12,13,14,15,16,17,18] hHeld ?_
 try simp only [Act.put,upA,upB,upC]
 refine UpTo.tk 10 [12,13,14,15,16,17,18] hHeld ?_
 try simp only [Act.put,upA,upB,upC]
 refine UpTo.tk 11 [12,13,14,15,16,17,18] hHeld ?_
 try simp only [Act.put,upA,upB,upC]
 refine UpTo.tk 12 [13,14,15,16,17,18] hHeld ?_
 try simp only [Act.put,upA,upB,upC]
 refine UpTo.tk 13 [14,15,16,17,18] hHeld ?_
 try simp only [Act.put,upA,upB,upC]
 refine UpTo.tk 14 [15,16,17,18] hHeld ?_
 try simp only [Act.put,upA,upB,upC]
 refine UpTo.nx 4 (fun K hK=> ?_)
 rw [if_pos (by rfl)]
 go_simp
 go_at_call 69
 refine (l2At_place wd (some ⟨nb,nq,none⟩) cap webl name hwl (HN1.out.kept KD)).mono ?_
 rintro e w2 ⟨⟨q,rfl,hq⟩,k2⟩
 have K2:=KD.trans k2
 obtain rfl:q= (j:Int):=by
  rcases hq with ⟨k',_,e',_,h1,h2⟩ | ⟨_,h1⟩
  ·rw [e',first_unique HKn.out HKf.out h1 h2]
  ·rw [HAct.out] at h1;cases h1
 clear hq
 dsimp only
 refine hK.out _ _ (fun _=> HS5.out _ K2) ?_
 clear hK K
 try simp only [Act.put,upA,upB,upC]
 clear hHeld
 have hHeld:=HS5.out _ K2
 refine UpTo.tk 5 [6,7,8,15,16,17,18] hHeld ?_
 try simp only [Act.put,upA,upB,upC]
 refine UpTo.tk 6 [7,8,15,16,17,18] hHeld ?_
 try simp only [Act.put,upA,upB,upC]
 refine UpTo.tk 7 [8,15,16,17,18] hHeld ?_
 try simp only [Act.put,upA,upB,upC]
 refine UpTo.tk 8 [15,16,17,18] hHeld ?_
 try simp only [Act.put,upA,upB,upC]
 refine UpTo.tk 15 [16,17,18] hHeld ?_
 try simp only [Act.put,upA,upB,upC]
 refine UpTo.tk 16 [17,18] hHeld ?_
 try simp only [Act.put,upA,upB,upC]
 refine UpTo.tk 17 [18] hHeld ?_
 try simp only [Act.put,upA,upB,upC]
 refine UpTo.nx 18 (fun K hK=> ?_)
 go_simp
 refine hK.out _ _ (fun h=> absurd rfl h) ?_
 clear hK K
 try simp only [Act.put,upA,upB,upC]
 refine UpTo.done (by kernel_rfl) ?_
 clear hHeld
 have K2':=K1.trans K2
 have HAs2:Hid (∀W,Kept w2 W→Strs W aa s.asks):=fun W K=> HAs.out.kept (KN.trans (K2.trans K))
 have HE2:Hid (Strs w2 (some ⟨WB.heap.size,0,none⟩) []):=fun i hi=> by cases hi
 go_wp2_with fail
 go_loopg [7,10] s.asks.length (fun gg x7 x10 wr=> ∃(i b o c:Nat) (ns:List ByteArray),x10= .int .i64 (i:Int)∧i+gg=s.asks.length∧x7= .slice (some ⟨b,o,none⟩) ns.length c∧ns.length≤c∧ns.length≤i∧Hid (AscB ns)∧Hid (∀z,z∈ns↔z∈s.asks.take i∧OpenN (envOf sl) z)∧Hid (Strs wr (some ⟨b,o,none⟩) ns)∧Kept w2 wr)
 case atStart=> exact ⟨0,WB.heap.size,0,0,[],rfl,by omega,rfl,Nat.le_refl _,Nat.le_refl _,hide List.Pairwise.nil,hide (fun z=> by simp),HE2,Kept.refl _⟩
 case round=>
  clear HE2 HS5
  obtain ⟨i,b,o,c,ns,rfl,hig,rfl,hnc,hni,HAsc,HMem,HNs,Kw⟩:=hrel
  have Kr:=K2'.trans Kw
  by_cases hlt:i < s.asks.length
  ·obtain ⟨ab,ao,rfl,hab,hac⟩:= (HAs2.out wr Kw) i hlt
   obtain ⟨x,hx⟩: ∃x,x=s.asks.getD i ByteArray.empty:= ⟨_,rfl⟩
   rw [←hx] at hac
   have hxg:s.asks[i]=x:=by rw [hx];simp [List.getD,hlt]
   have HXg:=hide hxg
   have hilt: (i:Int) < (s.asks.length:Int):=by omega
   have HS9:Hid (∀w',Kept wr w'→w'.cell? ⟨w.heap.size+1,0,none⟩=some (.slice ra rn rc)∧w'.cell? ⟨w.heap.size+1,1,none⟩=some (.slice (some ⟨rb,ro,none⟩) sl.length dc)∧w'.cell? ⟨ab,ao+i,none⟩=some (.string x)):=fun w' K=> ⟨(HC.out w' (Kr.trans K)).2.1,(HC.out w' (Kr.trans K)).2.2.1,(K.cell hab).trans hac⟩
   obtain ⟨_,c1,c2,y0,y1⟩:=HC.out wr Kr
   clear hx hxg
   go_upto_region 9 with fail
   clear c1 c2 hac
   refine UpTo.region (by kernel_rfl) (fun w'=> w'.cell? ⟨w.heap.size+1,0,none⟩=some (.slice ra rn rc)∧w'.cell? ⟨w.heap.size+1,1,none⟩=some (.slice (some ⟨rb,ro,none⟩) sl.length dc)∧w'.cell? ⟨ab,ao+i,none⟩=some (.string x)) 6 (HS9.out _ ((Kept.refl wr).drew)) (fun hHeld=> ?_)
   have KD:Kept wr wr.drew:= (Kept.refl wr).drew
   generalize hwd:wr.drew=wd at hHeld KD⊢
   clear hwd
   refine UpTo.tk 0 [5,6] hHeld ?_
   try simp only [Act.put,upA,upB,upC]
   refine UpTo.tk 1 [3,4,5,6] hHeld ?_
   try simp only [Act.put,upA,upB,upC]
   refine UpTo.tk 2 [3,4,5,6] hHeld ?_
   try simp only [Act.put,upA,upB,upC]
   refine UpTo.tk 3 [4,5,6] hHeld ?_
   try simp only [Act.put,upA,upB,upC]
   refine UpTo.tk 4 [5,6] hHeld ?_
   try simp only [Act.put,upA,upB,upC]
   refine UpTo.nx 5 (fun K hK=> ?_)
   rw [if_pos (by rfl)]
   go_simp
   go_at_call 64
   refine (l4At_place wd ra rn rc (some ⟨rb,ro,none⟩) dc sl x hsl (hS.kept (HKB.out.trans (Kr.trans KD)))).mono ?_
   rintro e w3 ⟨⟨q,rfl,hq⟩,k3⟩
   have K3:=KD.trans k3
   refine hK.out _ _ (fun _=> HS9.out _ K3) ?_
   clear hK K hHeld
   try simp only [Act.put,upA,upB,upC]
   refine UpTo.nx 6 (fun K hK=> ?_)
   go_simp
   refine hK.out _ _ (fun h=> absurd rfl h) ?_
   clear hK K
   try simp only [Act.put,upA,upB,upC]
   refine UpTo.done (by kernel_rfl) ?_
   obtain ⟨c0,c1,c2,y0,y1⟩:=HC.out w3 (Kr.trans K3)
   have hac:= (HS9.out _ K3).2.2
   have hab3:ab < w3.heap.size:=Nat.lt_of_lt_of_le hab K3.size
   have HNs3:=hide (HNs.out.kept K3)
   have hopen: ∀z,z∈s.asks.take (i+1)↔z∈s.asks.take i∨z=x:=fun z=> by rw [List.take_succ_eq_append_getElem hlt,HXg.out];simp
   have HOpn:=hide hopen
   clear hopen k3
   rcases hq with ⟨k',hk',rfl,henv',_⟩ | ⟨rfl,henv'⟩
   ·obtain ⟨r',hr'⟩: ∃r',r'=sl.getD k' RunX.zero:= ⟨_,rfl⟩
    rw [←hr'] at henv'
    obtain ⟨rb',ro',xa',xc',e4,hrb',hrc',_,_⟩:= (hS.kept (HKB.out.trans (Kr.trans K3))) k' hk'
    cases e4
    rw [←hr'] at hrc'
    have t1:=hrc' 1 _ rfl
    have hki': (k':Int) < (sl.length:Int):=by omega
    have hk0: ¬((k':Int) < 0):=by omega
    have HEn':=hide henv'
    clear henv' hrc' hr'
    cases hov':r'.over
    ·rw [hov'] at t1
     have HOv':=hide hov'
     clear hov'
     go_wp2_with fail
     refine (l6Put_any w3 b o c ns x (by omega) hnc HAsc.out HNs3.out).mono ?_
     rintro e w4 ⟨b4,o4,c4,r4,rfl,hc4,hp4,hs4,k4⟩
     obtain ⟨ha4,hm4⟩:=hp4.asc HAsc.out
     have hl4:r4.length≤ns.length+1:=by
      rcases hp4 with ⟨_,rfl⟩ | ⟨_,q,hq,rfl,_,_⟩
      ·omega
      ·simp;omega
     have HA4:=hide ha4
     have HM4:=hide hm4
     have HS4:=hide hs4
     have K4:=Kw.trans (K3.trans k4)
     clear ha4 hm4 hs4 hp4
     go_wp2_with fail
     go_roundg (gk - 1)
     case measure=> omega
     case rel=> exact ⟨i+1,b4,o4,c4,r4,by go_num,by omega,rfl,hc4,by omega,HA4,hide (fun z=> by
      rw [HM4.out,HMem.out,HOpn.out]
      constructor
      ·rintro (⟨h1,h2⟩ | rfl)
       ·exact ⟨.inl h1,h2⟩
       ·exact ⟨.inr rfl,_,HEn'.out,HOv'.out⟩
      ·rintro ⟨h1 | rfl,h2⟩
       ·exact .inl ⟨h1,h2⟩
       ·exact .inr rfl),HS4,K4⟩
    ·rw [hov'] at t1
     have HOv':=hide hov'
     clear hov'
     go_wp2_with fail
     go_roundg (gk - 1)
     case measure=> omega
     case rel=> exact ⟨i+1,b,o,c,ns,by go_num,by omega,rfl,hnc,by omega,HAsc,hide (fun z=> by
      rw [HMem.out,HOpn.out]
      constructor
      ·rintro ⟨h1,h2⟩
       exact ⟨.inl h1,h2⟩
      ·rintro ⟨h1 | rfl,h2⟩
       ·exact ⟨h1,h2⟩
       ·obtain ⟨q,h3,h4⟩:=h2
        rw [HEn'.out] at h3
        cases h3
        rw [HOv'.out] at h4
        cases h4),HNs3,Kw.trans K3⟩
   ·have HEn':=hide henv'
    clear henv'
    go_wp2_with fail
    go_roundg (gk - 1)
    case measure=> omega
    case rel=> exact ⟨i+1,b,o,c,ns,by go_num,by omega,rfl,hnc,by omega,HAsc,hide (fun z=> by
     rw [HMem.out,HOpn.out]
     constructor
     ·rintro ⟨h1,h2⟩
      exact ⟨.inl h1,h2⟩
     ·rintro ⟨h1 | rfl,h2⟩
      ·exact ⟨h1,h2⟩
      ·obtain ⟨q,h3,h4⟩:=h2
       rw [HEn'.out] at h3
       cases h3),HNs3,Kw.trans K3⟩
  ·have hie:s.asks.take i=s.asks:=List.take_of_length_le (by omega)
   have HIe:=hide hie
   clear hie
   go_wp2_with fail
   go_ret
   refine ⟨⟨b,o,c,ns,rfl,hnc,HNs.out,HAsc.out,fun z=> ?_⟩,HKB.out.trans Kr⟩
   rw [HMem.out,HIe.out]
   constructor
   ·rintro ⟨h1,h2⟩
    exact ⟨r,_,HEn.out,HOv.out,HVis.out,HAct.out,by rw [HStep.out];exact h1,h2⟩
   ·rintro ⟨r',A',hr',_,_,hA',h1,h2⟩
    rw [HEn.out] at hr'
    cases hr'
    rw [HAct.out] at hA'
    cases hA'
    rw [HStep.out] at h1
    exact ⟨h1,h2⟩
theorem Tryz.infoIntF : (Tryz.prog.info? 3).map (fun i=> (i.zero,i.size,i.bytes))=some (some (.int .i64 0),1,8):=by kernel_rfl
def runN (sl:List RunX) (p:Nat):ByteArray:= (sl.getD p RunX.zero).name
def NumRow (w:World) (fb n:Nat) (V:Nat→Nat):Prop:=w.rowIs fb 3 n (fun i=> .int .i64 (V i:Int))
theorem NumRow.kept {w w':World} {fb n:Nat} {V:Nat→Nat} (h:NumRow w fb n V) (k:Kept w w'):NumRow w' fb n V:=by
 obtain ⟨c,h1,h2⟩:=h
 exact ⟨c,(k.block fb (heap_lt h1)).trans h1,h2⟩
theorem NumRow.lt {w:World} {fb n:Nat} {V:Nat→Nat} (h:NumRow w fb n V):fb < w.heap.size:=by obtain ⟨c,h1,_⟩:=h;exact heap_lt h1
theorem NumRow.put {w:World} {fb n:Nat} {V:Nat→Nat} (h:NumRow w fb n V) (i v:Nat):NumRow (w.setCell ⟨fb,i,none⟩ (.int .i64 (v:Int))) fb n (fun p=> if p=i then v else V p):=by
 obtain ⟨c,h1,h2,h3⟩:=World.rowIs.set h i (.int .i64 (v:Int))
 refine ⟨c,h1,h2,fun p hp=> ?_⟩
 rw [h3 p hp]
 by_cases e:p=i
 ·simp [e]
 ·simp [e]
theorem NumRow.ne {w:World} {fb n:Nat} {V:Nat→Nat} (h:NumRow w fb n V) {b o:Nat} {s:ByteArray} (hc:w.cell? ⟨b,o,none⟩=some (.string s)):b≠fb:=by
 rintro rfl
 by_cases ho:o < n
 ·rw [World.rowIs.cell h ho] at hc
  cases hc
 ·obtain ⟨c,h1,h2,_⟩:=h
  simp [World.cell?,h1] at hc
  have:= (Array.getElem?_eq_some_iff.1 hc).1
  omega
theorem NumRow.strs {w:World} {fb n:Nat} {V:Nat→Nat} (h:NumRow w fb n V) {b o:Nat} {l:List ByteArray} (hl:Strs w (some ⟨b,o,none⟩) l) (i:Nat) (v:Value):Strs (w.setCell ⟨fb,i,none⟩ v) (some ⟨b,o,none⟩) l:=fun q hq=> by
 obtain ⟨b',o',e,hb,hc⟩:=hl q hq
 cases e
 exact ⟨b,o,rfl,by rw [size_setCell];exact hb,by rw [cell_set_ne (h.ne hc)];exact hc⟩
def FarEnd (webl:List NodeD) (sl:List RunX) (goal:ByteArray) (w w':World) (e:Ending):Prop:= ∃fb V,e= .returned (.slice (some ⟨fb,0,none⟩) sl.length sl.length)∧NumRow w' fb sl.length V∧(∀p,p < sl.length→RightV (WaitsX (actsOf webl) (envOf sl)) goal (sl.length+1) (runN sl p) (V p))∧Kept w w'
set_option maxRecDepth 100000 in
set_option maxHeartbeats 12800000 in
theorem l6Far_any (w:World) (a:Option Addr) (cap:Nat) (webl:List NodeD) (ra:Option Addr) (rn rc:Nat) (d:Option Addr) (dc:Nat) (sl:List RunX) (goal:ByteArray) (hwl:webl.length≤1048576) (hs6:sl.length≤1000) (hok:ActsOk (actsOf webl)) (hg:GoodL webl sl) (hN:Nodes w a webl) (hS:RunsX w d sl):
  Calls Tryz.prog 87 #[.agg #[.slice a webl.length cap],.agg #[.slice ra rn rc,.slice d sl.length dc],.string goal] w fun e w'=> FarEnd webl sl goal w w' e:=by
 obtain ⟨WB,hWB⟩: ∃WB,WB= (w.alloc (.cells #[.slice a webl.length cap] 37)).alloc (.cells #[.slice ra rn rc,.slice d sl.length dc] 41):= ⟨_,rfl⟩
 have kB:Kept w WB:=by rw [hWB];exact ((Kept.refl _).alloc _).alloc _
 have hBs:WB.heap.size=w.heap.size+2:=by rw [hWB];simp
 have b0:WB.cell? ⟨w.heap.size,0,none⟩=some (.slice a webl.length cap):=by rw [hWB,Kept.cell (w:=w.alloc (.cells #[.slice a webl.length cap] 37)) ((Kept.refl _).alloc _) (by simp)];exact range_new w _ _ 0 _ rfl
 have s0:WB.cell? ⟨w.heap.size+1,0,none⟩=some (.slice ra rn rc):=by have:=range_new (w.alloc (.cells #[.slice a webl.length cap] 37)) #[.slice ra rn rc,.slice d sl.length dc] 41 0 _ rfl;rw [World.size_alloc] at this;rw [hWB];exact this
 have s1:WB.cell? ⟨w.heap.size+1,1,none⟩=some (.slice d sl.length dc):=by have:=range_new (w.alloc (.cells #[.slice a webl.length cap] 37)) #[.slice ra rn rc,.slice d sl.length dc] 41 1 _ rfl;rw [World.size_alloc] at this;rw [hWB];exact this
 have z0:w.heap.size < WB.heap.size:=by omega
 have z1:w.heap.size+1 < WB.heap.size:=by omega
 have HC:Hid (∀w',Kept WB w'→w'.cell? ⟨w.heap.size,0,none⟩=some (.slice a webl.length cap)∧w'.cell? ⟨w.heap.size+1,0,none⟩=some (.slice ra rn rc)∧w'.cell? ⟨w.heap.size+1,1,none⟩=some (.slice d sl.length dc)∧w.heap.size < w'.heap.size∧w.heap.size+1 < w'.heap.size):=fun w' K=> ⟨(K.cell z0).trans b0,(K.cell z1).trans s0,(K.cell z1).trans s1,Nat.lt_of_lt_of_le z0 K.size,Nat.lt_of_lt_of_le z1 K.size⟩
 have hsl:sl.length≤1048576:=by omega
 have hmk:=run_make_row' (P:=Tryz.prog) 84 3 _ _ Tryz.underlying84 Tryz.infoIntF rfl .i64 .i64 sl.length (by omega) (by omega)
 obtain ⟨W0,hW0⟩: ∃W0,W0=WB.alloc (.cells (madeCells #[.int .i64 0] sl.length) 3):= ⟨_,rfl⟩
 have k0:Kept WB W0:=by rw [hW0];exact (Kept.refl _).alloc _
 have HF0:Hid (NumRow W0 WB.heap.size sl.length (fun _=> 0)):=by
  rw [hW0]
  exact World.rowIs_made WB (.int .i64 0) sl.length 3
 have HKB:=hide kB
 have HGd:=hide hg
 clear kB hBs hg
 go_enter Tryz.func87,Tryz.ntmps87
 go_upto_region 1 with fail
 rw [←hWB]
 clear hWB
 go_wp2
 rw [←hW0]
 clear hW0 hmk b0 s0 s1
 obtain ⟨fb,hfb⟩: ∃fb,fb=WB.heap.size:= ⟨_,rfl⟩
 rw [←hfb] at HF0⊢
 have hfw:WB.heap.size≤fb:=Nat.le_of_eq hfb.symm
 have hfw1:w.heap.size+1 < fb:=by omega
 clear hfb
 go_loopw [8] (fun x8 wr=> ∃(n:Nat) (V:Nat→Nat),1≤n∧n≤sl.length+1∧x8= .int .i64 (n:Int)∧Hid (NumRow wr fb sl.length V)∧Hid (∀p,p < sl.length→RightV (WaitsX (actsOf webl) (envOf sl)) goal n (runN sl p) (V p))∧Kept WB wr) (fun x8 _=> sl.length+1 - (intOf x8).toNat)
 case atStart=> exact ⟨1,_,Nat.le_refl _,by omega,rfl,HF0,hide (fun p _=> RightV.start),k0⟩
 case round=>
  clear HF0 k0
  obtain ⟨n,V,hn1,hn2,rfl,HF,HV,Kr⟩:=hrel
  obtain ⟨c0,c1,c2,y0,y1⟩:=HC.out _ Kr
  by_cases hlt:n≤sl.length
  rotate_left
  ·have hne:n=sl.length+1:=by omega
   have HNe:=hide hne
   have hgt: ¬((n:Int)≤(sl.length:Int)):=by omega
   clear hne
   go_wp2_with fail
   go_ret
   refine ⟨fb,V,rfl,HF.out,fun p hp=> ?_,HKB.out.trans Kr⟩
   rw [←HNe.out]
   exact HV.out p hp
  have hle: (n:Int)≤(sl.length:Int):=by omega
  go_upto_region 6 with fail
  go_loopw [9] (fun x9 wr=> ∃(i:Nat) (V:Nat→Nat),i≤sl.length∧x9= .int .i64 (i:Int)∧Hid (NumRow wr fb sl.length V)∧Hid (∀p,p < sl.length→RightV (WaitsX (actsOf webl) (envOf sl)) goal (if p < i then n+1 else n) (runN sl p) (V p))∧Kept WB wr) (fun x9 _=> sl.length - (intOf x9).toNat)
  case atStart=> exact ⟨0,V,Nat.zero_le _,rfl,HF,hide (fun p hp=> by rw [if_neg (Nat.not_lt_zero _)];exact HV.out p hp),Kr⟩
  case round=>
   clear HF HV c0 c1 c2 y0 y1 Kr V
   obtain ⟨i,V,hi,rfl,HF,HV,Kr⟩:=hrel
   obtain ⟨c0,c1,c2,y0,y1⟩:=HC.out _ Kr
   by_cases hil:i < sl.length
   rotate_left
   ·have hie:i=sl.length:=by omega
    have HIe:=hide hie
    have hgi: ¬((i:Int) < (sl.length:Int)):=by omega
    clear hie
    go_wp2_with fail
    go_roundw
    case rel=> exact ⟨n+1,V,by omega,by omega,by go_num,HF,hide (fun p hp=> by have h:=HV.out p hp;rw [if_pos (by rw [HIe.out];exact hp)] at h;exact h),Kr⟩
    case measure=> simp [intOf];omega
   have hii: (i:Int) < (sl.length:Int):=by omega
   obtain ⟨rb,ro,xa,xc,e1,hrb,hrc,_,_⟩:= (hS.kept (HKB.out.trans Kr)) i hil
   subst e1
   obtain ⟨x,hx⟩: ∃x,x=runN sl i:= ⟨_,rfl⟩
   have t0:=hrc 0 _ rfl
   rw [Nat.add_zero] at t0
   have t0':wr.cell? ⟨rb,ro+i * 7,none⟩=some (.string x):=by rw [hx];exact t0
   clear t0 hrc
   have t0:=t0'
   clear t0'
   have f0:=World.rowIs.cell HF.out hil
   try dsimp only at f0
   have fz:=HF.out.lt
   have HX:=hide hx
   have HVi:Hid (RightV (WaitsX (actsOf webl) (envOf sl)) goal n x (V i)):=by have h:=HV.out i hil;rw [if_neg (Nat.lt_irrefl _),←hx] at h;exact h
   clear hx
   by_cases hskip:V i≠0∨lessX x goal
   ·have HSk:=hide hskip
    have HNext:Hid (∀p,p < sl.length→RightV (WaitsX (actsOf webl) (envOf sl)) goal (if p < i+1 then n+1 else n) (runN sl p) (V p)):=fun p hp=> by
     by_cases e:p=i
     ·subst e
      rw [if_pos (by omega),←HX.out]
      exact HVi.out.keep HSk.out
     ·have h:=HV.out p hp
      by_cases e2:p < i
      ·rw [if_pos e2] at h;rw [if_pos (by omega)];exact h
      ·rw [if_neg e2] at h;rw [if_neg (by omega)];exact h
    have hsk2: (0:Int) < (V i:Int)∨(¬((0:Int) < (V i:Int))∧Op.bytesLess x.toList goal.toList=true):=by
     by_cases h0:V i=0
     ·refine .inr ⟨by omega, ?_⟩
      rcases hskip with h | h
      ·exact absurd h0 h
      ·exact h
     ·exact .inl (by omega)
    obtain ⟨v,hv⟩: ∃v,v=V i:= ⟨_,rfl⟩
    rw [←hv] at f0 hsk2
    clear hskip hv
    rcases hsk2 with hp | ⟨hp,hb⟩
    ·go_wp2_with fail
     go_roundw
     case rel=> exact ⟨i+1,V,by omega,by go_num,HF,HNext,Kr⟩
     case measure=> simp [intOf];omega
    ·go_wp2_with fail
     go_roundw
     case rel=> exact ⟨i+1,V,by omega,by go_num,HF,HNext,Kr⟩
     case measure=> simp [intOf];omega
   have hv0:V i=0:=by
    by_cases h:V i=0
    ·exact h
    ·exact absurd (.inl h) hskip
   have hxg: ¬lessX x goal:=fun h=> hskip (.inr h)
   have hbf:Op.bytesLess x.toList goal.toList=false:=by
    cases h:Op.bytesLess x.toList goal.toList
    ·rfl
    ·exact absurd h hxg
   rw [hv0] at HVi f0
   have HV0:=hide hv0
   have HXg:=hide hxg
   clear hskip hv0 hxg
   have HS9:Hid (∀w',Kept wr w'→w'.cell? ⟨w.heap.size,0,none⟩=some (.slice a webl.length cap)∧w'.cell? ⟨w.heap.size+1,0,none⟩=some (.slice ra rn rc)∧w'.cell? ⟨w.heap.size+1,1,none⟩=some (.slice (some ⟨rb,ro,none⟩) sl.length dc)∧w'.cell? ⟨rb,ro+i * 7,none⟩=some (.string x)):=fun w' K=> ⟨(HC.out w' (Kr.trans K)).1,(HC.out w' (Kr.trans K)).2.1,(HC.out w' (Kr.trans K)).2.2.1,(K.cell hrb).trans t0⟩
   go_upto_region 9 with fail
   refine UpTo.region (by kernel_rfl) (fun w'=> w'.cell? ⟨w.heap.size,0,none⟩=some (.slice a webl.length cap)∧w'.cell? ⟨w.heap.size+1,0,none⟩=some (.slice ra rn rc)∧w'.cell? ⟨w.heap.size+1,1,none⟩=some (.slice (some ⟨rb,ro,none⟩) sl.length dc)∧w'.cell? ⟨rb,ro+i * 7,none⟩=some (.string x)) 9 (HS9.out _ ((Kept.refl wr).drew)) (fun hHeld=> ?_)
   have KD:Kept wr wr.drew:= (Kept.refl wr).drew
   generalize hwd:wr.drew=wd at hHeld KD⊢
   clear hwd
   refine UpTo.tk 0 [8,9] hHeld ?_
   try simp only [Act.put,upA,upB,upC]
   refine UpTo.tk 1 [8,9] hHeld ?_
   try simp only [Act.put,upA,upB,upC]
   refine UpTo.tk 2 [3,5,6,7,8,9] hHeld ?_
   try simp only [Act.put,upA,upB,upC]
   refine UpTo.tk 3 [5,6,7,8,9] hHeld ?_
   try simp only [Act.put,upA,upB,upC]
   refine UpTo.tk 4 [5,6,7,8,9] hHeld ?_
   try simp only [Act.put,upA,upB,upC]
   refine UpTo.tk 5 [6,7,8,9] hHeld ?_
   try simp only [Act.put,upA,upB,upC]
   refine UpTo.tk 6 [7,8,9] hHeld ?_
   try simp only [Act.put,upA,upB,upC]
   refine UpTo.tk 7 [8,9] hHeld ?_
   try simp only [Act.put,upA,upB,upC]
   refine UpTo.nx 8 (fun K hK=> ?_)
   rw [if_pos (by rfl)]
   go_simp
   go_at_call 88
   refine (l6Waits_any wd a cap webl ra rn rc (some ⟨rb,ro,none⟩) dc sl x hwl hsl hok HGd.out (hN.kept (HKB.out.trans (Kr.trans KD))) (hS.kept (HKB.out.trans (Kr.trans KD)))).mono ?_
   rintro e w2 ⟨⟨lb,lo,lc,ns,rfl,hlc,hlS,hWL⟩,k2⟩
   have K2:=KD.trans k2
   refine hK.out _ _ (fun _=> HS9.out _ K2) ?_
   clear hK K hHeld
   try simp only [Act.put,upA,upB,upC]
   refine UpTo.nx 9 (fun K hK=> ?_)
   go_simp
   refine hK.out _ _ (fun h=> absurd rfl h) ?_
   clear hK K
   try simp only [Act.put,upA,upB,upC]
   refine UpTo.done (by kernel_rfl) ?_
   have HWL:=hide hWL
   have HLS:=hide hlS
   have HF2:=hide (HF.out.kept K2)
   have Kw2:=Kr.trans K2
   have hl5:=hWL.len hok HGd.out.env
   have HVv:=hide (fun p hp=> HV.out p hp)
   clear hWL hlS f0 fz t0 c0 c1 c2 y0 y1 HS9 k2
   go_wp2_with fail
   go_loopw [11] (fun x11 wr=> ∃(k v:Nat),k≤ns.length∧x11= .int .i64 (k:Int)∧Hid (NumRow wr fb sl.length (fun p=> if p=i then v else V p))∧Hid ((v=n∧∃s,Hit (WaitsX (actsOf webl) (envOf sl)) goal n x s)∨(v=0∧∀s∈ns.take k,¬Hit (WaitsX (actsOf webl) (envOf sl)) goal n x s))∧Hid (Strs wr (some ⟨lb,lo,none⟩) ns)∧Kept WB wr) (fun x11 _=> ns.length - (intOf x11).toNat)
   case atStart=> exact ⟨0,0,Nat.zero_le _,rfl,hide (World.rowIs.congr HF2.out (fun p hp=> by by_cases e:p=i;(subst e;simp [HV0.out]);simp [e])),hide (.inr ⟨rfl,fun s hs=> by simp at hs⟩),HLS,Kw2⟩
   case round=>
    clear HF2 HLS Kw2
    obtain ⟨k,v,hk,rfl,HF3,HHit,HLS3,Kr3⟩:=hrel
    by_cases hkl:k < ns.length
    rotate_left
    ·have hke:ns.take k=ns:=List.take_of_length_le (by omega)
     have hgk: ¬((k:Int) < (ns.length:Int)):=by omega
     have HKe:=hide hke
     clear hke
     go_wp2_with fail
     go_roundw
     case rel=>
      refine ⟨i+1,fun p=> if p=i then v else V p,by omega,by go_num,HF3,hide (fun p hp=> ?_),Kr3⟩
      by_cases e:p=i
      ·subst e
       dsimp only
       rw [if_pos (by omega),if_pos rfl,←HX.out]
       rcases HHit.out with ⟨rfl,h2⟩ | ⟨rfl,h2⟩
       ·exact RightV.hit hn1 HVi.out HXg.out h2
       ·refine RightV.miss hn1 HVi.out HXg.out (fun ⟨z,hz⟩=> ?_)
        rw [HKe.out] at h2
        exact h2 z ((HWL.out.2 z).2 hz.1) hz
      ·dsimp only
       rw [if_neg e]
       have h:=HVv.out p hp
       by_cases e2:p < i
       ·rw [if_pos e2] at h;rw [if_pos (by omega)];exact h
       ·rw [if_neg e2] at h;rw [if_neg (by omega)];exact h
     case measure=> simp [intOf];omega
    obtain ⟨lb1,lo1,e1,hlb,hlc1⟩:=HLS3.out k hkl
    cases e1
    obtain ⟨s,hs⟩: ∃s,s=ns.getD k ByteArray.empty:= ⟨_,rfl⟩
    rw [←hs] at hlc1
    have hsg:ns[k]=s:=by rw [hs];simp [List.getD,hkl]
    have HSk:=hide hsg
    have HEs:Hid (WaitsX (actsOf webl) (envOf sl) x s):= (HWL.out.2 s).1 (by rw [←hsg];exact List.getElem_mem hkl)
    clear hs hsg
    have hkk: (k:Int) < (ns.length:Int):=by omega
    obtain ⟨_,c1,c2,y0,y1⟩:=HC.out _ Kr3
    have HS13:Hid (∀w',Kept wr w'→w'.cell? ⟨lb,lo+k,none⟩=some (.string s)∧w'.cell? ⟨w.heap.size+1,0,none⟩=some (.slice ra rn rc)∧w'.cell? ⟨w.heap.size+1,1,none⟩=some (.slice (some ⟨rb,ro,none⟩) sl.length dc)∧Hid (NumRow w' fb sl.length (fun p=> if p=i then v else V p))):=fun w' K=> ⟨(K.cell hlb).trans hlc1,(HC.out w' (Kr3.trans K)).2.1,(HC.out w' (Kr3.trans K)).2.2.1,hide (HF3.out.kept K)⟩
    go_upto_region 13 with fail
    clear c1 c2 y0 y1 hlc1
    by_cases hn:n=1
    ·have HN:=hide hn
     have hn1b: ((n:Int) == 1)=true:=by simp [hn]
     have hngt: ¬((1:Int) < (n:Int)):=by omega
     clear hn
     cases heq: (s.toList == goal.toList)
     ·have HNh:Hid (¬Hit (WaitsX (actsOf webl) (envOf sl)) goal n x s):=fun h=> by
       rcases h.2 with ⟨_,e⟩ | ⟨e,_⟩
       ·exact beq_no heq e
       ·have:=HN.out;omega
      refine UpTo.region (by kernel_rfl) (fun w'=> w'.cell? ⟨lb,lo+k,none⟩=some (.string s)∧w'.cell? ⟨w.heap.size+1,0,none⟩=some (.slice ra rn rc)∧w'.cell? ⟨w.heap.size+1,1,none⟩=some (.slice (some ⟨rb,ro,none⟩) sl.length dc)∧Hid (NumRow w' fb sl.length (fun p=> if p=i then v else V p))) 35 (HS13.out _ ((Kept.refl wr).drew)) (fun hHeld=> ?_)
      have KD:Kept wr wr.drew:= (Kept.refl wr).drew
      generalize hwd:wr.drew=wd at hHeld KD⊢
      clear hwd
      refine UpTo.tk 0 [1,2,3,4,5,6,7,8,9,10,11,12,13,14,15,16,17,18,19,20,21,22,23,24,25,26,27,28,29,30,31,32,33,34,35] hHeld ?_
      try simp only [Act.put,upA,upB,upC]
      refine UpTo.tk 1 [2,3,4,5,6,7,8,9,10,11,12,13,14,15,16,17,18,19,20,21,22,23,24,25,26,27,28,29,30,31,32,33,34,35] hHeld ?_
      try simp only [Act.put,upA,upB,upC]
      refine UpTo.tk 2 [3,4,5,6,7,8,9,10,11,12,13,14,15,16,17,18,19,20,21,22,23,24,25,26,27,28,29,30,31,32,33,34,35] hHeld ?_
      try simp only [Act.put,upA,upB,upC]
      refine UpTo.tk 3 [5,6,8,9,10,11,12,13,14,15,16,17,18,19,20,21,22,23,24,25,26,27,28,29,30,31,32,33,34,35] hHeld ?_
      try simp only [Act.put,upA,upB,upC]
      refine UpTo.tk 4 [5,6,8,9,10,11,12,13,14,15,16,17,18,19,20,21,22,23,24,25,26,27,28,29,30,31,32,33,34,35] hHeld ?_
      try simp only [Act.put,upA,upB,upC]
      refine UpTo.tk 5 [6,8,9,10,11,12,13,14,15,16,17,18,19,20,21,22,23,24,25,26,27,28,29,30,31,32,33,34,35] hHeld ?_
      try simp only [Act.put,upA,upB,upC]
      refine UpTo.tk 6 [8,9,10,11,12,13,14,15,16,17,18,19,20,21,22,23,24,25,26,27,28,29,30,31,32,33,34,35] hHeld ?_
      try simp only [Act.put,upA,upB,upC]
      refine UpTo.tk 7 [8,9,10,11,12,13,14,15,16,17,18,19,20,21,22,23,24,25,26,27,28,29,30,31,32,33,34,35] hHeld ?_
      try simp only [Act.put,upA,upB,upC]
      refine UpTo.tk 8 [9,10,11,12,13,14,15,16,17,18,19,20,21,22,23,24,25,26,27,28,29,30,31,32,33,34,35] hHeld ?_
      try simp only [Act.put,upA,upB,upC]
      refine UpTo.tk 9 [10,11,12,13,14,15,16,17,18,19,20,21,22,23,24,25,26,27,28,29,30,31,32,33,34,35] hHeld ?_
      try simp only [Act.put,upA,upB,upC]
      refine UpTo.tk 10 [11,12,13,14,15,16,17,18,19,20,21,22,23,24,25,26,27,28,29,30,31,32,33,34,35] hHeld ?_
      try simp only [Act.put,upA,upB,upC]
      refine UpTo.tk 11 [12,13,14,15,16,17,18,19,20,21,22,23,24,25,26,27,28,29,30,31,32,33,34,35] hHeld ?_
      try simp only [Act.put,upA,upB,upC]
      refine UpTo.tk 12 [13,14,15,16,17,18,19,20,21,22,23,24,25,26,27,28,29,30,31,32,33,34,35] hHeld ?_
      try simp only [Act.put,upA,upB,upC]
      refine UpTo.tk 13 [14,15,16,17,18,19,20,21,22,23,24,25,26,27,28,29,30,31,32,33,34,35] hHeld ?_
      try simp only [Act.put,upA,upB,upC]
      refine UpTo.un 14 [16,17,19,20,21,22,23,24,25,26,27,28,29,30,31,32,33,34,35] hHeld ?_
      try simp only [Act.put,upA,upB,upC]
      refine UpTo.un 15 [16,17,19,20,21,22,23,24,25,26,27,28,29,30,31,32,33,34,35] hHeld ?_
      try simp only [Act.put,upA,upB,upC]
      refine UpTo.un 16 [17,19,20,21,22,23,24,25,26,27,28,29,30,31,32,33,34,35] hHeld ?_
      try simp only [Act.put,upA,upB,upC]
      refine UpTo.un 17 [19,20,21,22,23,24,25,26,27,28,29,30,31,32,33,34,35] hHeld ?_
      try simp only [Act.put,upA,upB,upC]
      refine UpTo.un 18 [19,20,21,22,23,24,25,26,27,28,29,30,31,32,33,34,35] hHeld ?_
      try simp only [Act.put,upA,upB,upC]
      refine UpTo.un 19 [20,21,22,23,24,25,26,27,28,29,30,31,32,33,34,35] hHeld ?_
      try simp only [Act.put,upA,upB,upC]
      refine UpTo.tk 20 [21,22,23,24,25,26,27,28,29,30,31,32,33,34,35] hHeld ?_
      try simp only [Act.put,upA,upB,upC]
      refine UpTo.tk 21 [22,23,24,25,26,27,28,29,30,31,32,33,34,35] hHeld ?_
      try simp only [Act.put,upA,upB,upC]
      refine UpTo.un 22 [29,30,33,34,35] hHeld ?_
      try simp only [Act.put,upA,upB,upC]
      refine UpTo.un 23 [28,29,30,33,34,35] hHeld ?_
      try simp only [Act.put,upA,upB,upC]
      refine UpTo.un 24 [26,27,28,29,30,33,34,35] hHeld ?_
      try simp only [Act.put,upA,upB,upC]
      refine UpTo.un 25 [26,27,28,29,30,33,34,35] hHeld ?_
      try simp only [Act.put,upA,upB,upC]
      refine UpTo.un 26 [27,28,29,30,33,34,35] hHeld ?_
      try simp only [Act.put,upA,upB,upC]
      refine UpTo.un 27 [28,29,30,33,34,35] hHeld ?_
      try simp only [Act.put,upA,upB,upC]
      refine UpTo.un 28 [29,30,33,34,35] hHeld ?_
      try simp only [Act.put,upA,upB,upC]
      refine UpTo.un 29 [30,33,34,35] hHeld ?_
      try simp only [Act.put,upA,upB,upC]
      refine UpTo.un 30 [33,34,35] hHeld ?_
      try simp only [Act.put,upA,upB,upC]
      refine UpTo.un 31 [32,33,34,35] hHeld ?_
      try simp only [Act.put,upA,upB,upC]
      refine UpTo.un 32 [33,34,35] hHeld ?_
      try simp only [Act.put,upA,upB,upC]
      refine UpTo.un 33 [34,35] hHeld ?_
      try simp only [Act.put,upA,upB,upC]
      refine UpTo.tk 34 [35] hHeld ?_
      try simp only [Act.put,upA,upB,upC]
      refine UpTo.nx 35 (fun K hK=> ?_)
      go_simp
      refine hK.out _ _ (fun h=> absurd rfl h) ?_
      clear hK K
      try simp only [Act.put,upA,upB,upC]
      refine UpTo.done (by kernel_rfl) ?_
      go_wp2_with fail
      go_roundw
      case rel=>
       refine ⟨k+1,v,by omega,by go_num,hide (HF3.out.kept KD),hide ?_,hide (HLS3.out.kept KD),Kr3.trans KD⟩
       rcases HHit.out with h | ⟨h1,h2⟩
       ·exact .inl h
       ·refine .inr ⟨h1,fun z hz=> ?_⟩
        rw [List.take_succ_eq_append_getElem hkl,HSk.out] at hz
        rcases List.mem_append.1 hz with hz | hz
        ·exact h2 z hz
        ·rw [List.mem_singleton] at hz
         rw [hz]
         exact HNh.out
      case measure=> simp [intOf];omega
     ·have HHs:Hid (Hit (WaitsX (actsOf webl) (envOf sl)) goal n x s):= ⟨HEs.out,.inl ⟨HN.out,beq_yes heq⟩⟩
      refine UpTo.region (by kernel_rfl) (fun w'=> w'.cell? ⟨lb,lo+k,none⟩=some (.string s)∧w'.cell? ⟨w.heap.size+1,0,none⟩=some (.slice ra rn rc)∧w'.cell? ⟨w.heap.size+1,1,none⟩=some (.slice (some ⟨rb,ro,none⟩) sl.length dc)∧Hid (NumRow w' fb sl.length (fun p=> if p=i then v else V p))) 35 (HS13.out _ ((Kept.refl wr).drew)) (fun hHeld=> ?_)
      have KD:Kept wr wr.drew:= (Kept.refl wr).drew
      generalize hwd:wr.drew=wd at hHeld KD⊢
      clear hwd
      refine UpTo.tk 0 [1,2,3,4,5,6,7,8,9,10,11,12,13,14,15,16,17,18,19,20,21,22,23,24,25,26,27,28,29,30,31,32,33,34,35] hHeld ?_
      try simp only [Act.put,upA,upB,upC]
      refine UpTo.tk 1 [2,3,4,5,6,7,8,9,10,11,12,13,14,15,16,17,18,19,20,21,22,23,24,25,26,27,28,29,30,31,32,33,34,35] hHeld ?_
      try simp only [Act.put,upA,upB,upC]
      refine UpTo.tk 2 [3,4,5,6,7,8,9,10,11,12,13,14,15,16,17,18,19,20,21,22,23,24,25,26,27,28,29,30,31,32,33,34,35] hHeld ?_
      try simp only [Act.put,upA,upB,upC]
      refine UpTo.tk 3 [5,6,8,9,10,11,12,13,14,15,16,17,18,19,20,21,22,23,24,25,26,27,28,29,30,31,32,33,34,35] hHeld ?_
      try simp only [Act.put,upA,upB,upC]
      refine UpTo.tk 4 [5,6,8,9,10,11,12,13,14,15,16,17,18,19,20,21,22,23,24,25,26,27,28,29,30,31,32,33,34,35] hHeld ?_
      try simp only [Act.put,upA,upB,upC]
      refine UpTo.tk 5 [6,8,9,10,11,12,13,14,15,16,17,18,19,20,21,22,23,24,25,26,27,28,29,30,31,32,33,34,35] hHeld ?_
      try simp only [Act.put,upA,upB,upC]
      refine UpTo.tk 6 [8,9,10,11,12,13,14,15,16,17,18,19,20,21,22,23,24,25,26,27,28,29,30,31,32,33,34,35] hHeld ?_
      try simp only [Act.put,upA,upB,upC]
      refine UpTo.tk 7 [8,9,10,11,12,13,14,15,16,17,18,19,20,21,22,23,24,25,26,27,28,29,30,31,32,33,34,35] hHeld ?_
      try simp only [Act.put,upA,upB,upC]
      refine UpTo.tk 8 [9,10,11,12,13,14,15,16,17,18,19,20,21,22,23,24,25,26,27,28,29,30,31,32,33,34,35] hHeld ?_
      try simp only [Act.put,upA,upB,upC]
      refine UpTo.tk 9 [10,11,12,13,14,15,16,17,18,19,20,21,22,23,24,25,26,27,28,29,30,31,32,33,34,35] hHeld ?_
      try simp only [Act.put,upA,upB,upC]
      refine UpTo.tk 10 [11,12,13,14,15,16,17,18,19,20,21,22,23,24,25,26,27,28,29,30,31,32,33,34,35] hHeld ?_
      try simp only [Act.put,upA,upB,upC]
      refine UpTo.un 11 [12,13,14,15,16,17,18,19,20,21,22,23,24,25,26,27,28,29,30,31,32,33,34,35] hHeld ?_
      try simp only [Act.put,upA,upB,upC]
      refine UpTo.un 12 [13,14,15,16,17,18,19,20,21,22,23,24,25,26,27,28,29,30,31,32,33,34,35] hHeld ?_
      try simp only [Act.put,upA,upB,upC]
      refine UpTo.un 13 [14,15,16,17,18,19,20,21,22,23,24,25,26,27,28,29,30,31,32,33,34,35] hHeld ?_
      try simp only [Act.put,upA,upB,upC]
      refine UpTo.un 14 [16,17,19,20,21,22,23,24,25,26,27,28,29,30,31,32,33,34,35] hHeld ?_
      try simp only [Act.put,upA,upB,upC]
      refine UpTo.un 15 [16,17,19,20,21,22,23,24,25,26,27,28,29,30,31,32,33,34,35] hHeld ?_
      try simp only [Act.put,upA,upB,upC]
      refine UpTo.un 16 [17,19,20,21,22,23,24,25,26,27,28,29,30,31,32,33,34,35] hHeld ?_
      try simp only [Act.put,upA,upB,upC]
      refine UpTo.un 17 [19,20,21,22,23,24,25,26,27,28,29,30,31,32,33,34,35] hHeld ?_
      try simp only [Act.put,upA,upB,upC]
      refine UpTo.un 18 [19,20,21,22,23,24,25,26,27,28,29,30,31,32,33,34,35] hHeld ?_
      try simp only [Act.put,upA,upB,upC]
      refine UpTo.un 19 [20,21,22,23,24,25,26,27,28,29,30,31,32,33,34,35] hHeld ?_
      try simp only [Act.put,upA,upB,upC]
      refine UpTo.un 20 [21,22,23,24,25,26,27,28,29,30,31,32,33,34,35] hHeld ?_
      try simp only [Act.put,upA,upB,upC]
      refine UpTo.un 21 [22,23,24,25,26,27,28,29,30,31,32,33,34,35] hHeld ?_
      try simp only [Act.put,upA,upB,upC]
      refine UpTo.un 22 [29,30,33,34,35] hHeld ?_
      try simp only [Act.put,upA,upB,upC]
      refine UpTo.un 23 [28,29,30,33,34,35] hHeld ?_
      try simp only [Act.put,upA,upB,upC]
      refine UpTo.un 24 [26,27,28,29,30,33,34,35] hHeld ?_
      try simp only [Act.put,upA,upB,upC]
      refine UpTo.un 25 [26,27,28,29,30,33,34,35] hHeld ?_
      try simp only [Act.put,upA,upB,upC]
      refine UpTo.un 26 [27,28,29,30,33,34,35] hHeld ?_
      try simp only [Act.put,upA,upB,upC]
      refine UpTo.un 27 [28,29,30,33,34,35] hHeld ?_
      try simp only [Act.put,upA,upB,upC]
      refine UpTo.un 28 [29,30,33,34,35] hHeld ?_
      try simp only [Act.put,upA,upB,upC]
      refine UpTo.un 29 [30,33,34,35] hHeld ?_
      try simp only [Act.put,upA,upB,upC]
      refine UpTo.un 30 [33,34,35] hHeld ?_
      try simp only [Act.put,upA,upB,upC]
      refine UpTo.un 31 [32,33,34,35] hHeld ?_
      try simp only [Act.put,upA,upB,upC]
      refine UpTo.un 32 [33,34,35] hHeld ?_
      try simp only [Act.put,upA,upB,upC]
      refine UpTo.un 33 [34,35] hHeld ?_
      try simp only [Act.put,upA,upB,upC]
      refine UpTo.un 34 [35] hHeld ?_
      try simp only [Act.put,upA,upB,upC]
      refine UpTo.nx 35 (fun K hK=> ?_)
      go_simp
      refine hK.out _ _ (fun h=> absurd rfl h) ?_
      clear hK K
      try simp only [Act.put,upA,upB,upC]
      refine UpTo.done (by kernel_rfl) ?_
      have HFw:=hide (HF3.out.kept KD)
      have HLw:=hide (HLS3.out.kept KD)
      have hold:=World.rowIs.cell HFw.out hil
      have hfz:=World.rowIs.frozen HFw.out i
      have fz:=HFw.out.lt
      dsimp only at hold
      rw [if_pos rfl] at hold
      go_wp2_with fail
      go_roundw
      case rel=>
       refine ⟨k+1,n,by omega,by go_num,hide ?_,hide (.inl ⟨rfl,s,HHs.out⟩),hide (HFw.out.strs HLw.out i _),Below.setCell (Kr3.trans KD) (p:= ⟨fb,i,none⟩) hfw _⟩
       exact World.rowIs.congr (HFw.out.put i n) (fun p hp=> by by_cases e:p=i <;> simp [e])
      case measure=> simp [intOf];omega
    ·have HN:=hide hn
     have hn1b: ((n:Int) == 1)=false:=by simp;omega
     have hngt: (1:Int) < (n:Int):=by omega
     clear hn
     by_cases hgt:lessX goal s
     ·have hwn:IntKind.i64.wrap ((n:Int) - 1)= (n:Int) - 1:=by rw [IntKind.wrap_i64];omega
      have HGt:Hid (lessX goal s):=hgt
      have hl1:Op.bytesLess s.toList goal.toList=false:=by
       cases h:Op.bytesLess s.toList goal.toList
       ·rfl
       ·exact absurd (show lessX s goal from h) (lessX_asymm hgt)
      have he1: (s.toList == goal.toList)=false:=by
       cases h: (s.toList == goal.toList)
       ·rfl
       ·exact absurd hgt (by rw [beq_yes h];exact lessX_irrefl _)
      clear hgt
      refine UpTo.region (by kernel_rfl) (fun w'=> w'.cell? ⟨lb,lo+k,none⟩=some (.string s)∧w'.cell? ⟨w.heap.size+1,0,none⟩=some (.slice ra rn rc)∧w'.cell? ⟨w.heap.size+1,1,none⟩=some (.slice (some ⟨rb,ro,none⟩) sl.length dc)∧Hid (NumRow w' fb sl.length (fun p=> if p=i then v else V p))) 35 (HS13.out _ ((Kept.refl wr).drew)) (fun hHeld=> ?_)
      have KD:Kept wr wr.drew:= (Kept.refl wr).drew
      generalize hwd:wr.drew=wd at hHeld KD⊢
      clear hwd
      refine UpTo.tk 0 [1,2,3,4,5,6,7,8,9,10,11,12,13,14,15,16,17,18,19,20,21,22,23,24,25,26,27,28,29,30,31,32,33,34,35] hHeld ?_
      try simp only [Act.put,upA,upB,upC]
      refine UpTo.tk 1 [2,3,4,5,6,7,8,9,10,11,12,13,14,15,16,17,18,19,20,21,22,23,24,25,26,27,28,29,30,31,32,33,34,35] hHeld ?_
      try simp only [Act.put,upA,upB,upC]
      refine UpTo.tk 2 [3,4,5,6,7,8,9,10,11,12,13,14,15,16,17,18,19,20,21,22,23,24,25,26,27,28,29,30,31,32,33,34,35] hHeld ?_
      try simp only [Act.put,upA,upB,upC]
      refine UpTo.un 3 [5,6,8,9,10,11,12,13,14,15,16,17,18,19,20,21,22,23,24,25,26,27,28,29,30,31,32,33,34,35] hHeld ?_
      try simp only [Act.put,upA,upB,upC]
      refine UpTo.un 4 [5,6,8,9,10,11,12,13,14,15,16,17,18,19,20,21,22,23,24,25,26,27,28,29,30,31,32,33,34,35] hHeld ?_
      try simp only [Act.put,upA,upB,upC]
      refine UpTo.un 5 [6,8,9,10,11,12,13,14,15,16,17,18,19,20,21,22,23,24,25,26,27,28,29,30,31,32,33,34,35] hHeld ?_
      try simp only [Act.put,upA,upB,upC]
      refine UpTo.un 6 [8,9,10,11,12,13,14,15,16,17,18,19,20,21,22,23,24,25,26,27,28,29,30,31,32,33,34,35] hHeld ?_
      try simp only [Act.put,upA,upB,upC]
      refine UpTo.un 7 [8,9,10,11,12,13,14,15,16,17,18,19,20,21,22,23,24,25,26,27,28,29,30,31,32,33,34,35] hHeld ?_
      try simp only [Act.put,upA,upB,upC]
      refine UpTo.un 8 [9,10,11,12,13,14,15,16,17,18,19,20,21,22,23,24,25,26,27,28,29,30,31,32,33,34,35] hHeld ?_
      try simp only [Act.put,upA,upB,upC]
      refine UpTo.tk 9 [10,11,12,13,14,15,16,17,18,19,20,21,22,23,24,25,26,27,28,29,30,31,32,33,34,35] hHeld ?_
      try simp only [Act.put,upA,upB,upC]
      refine UpTo.tk 10 [11,12,13,14,15,16,17,18,19,20,21,22,23,24,25,26,27,28,29,30,31,32,33,34,35] hHeld ?_
      try simp only [Act.put,upA,upB,upC]
      refine UpTo.tk 11 [12,13,14,15,16,17,18,19,20,21,22,23,24,25,26,27,28,29,30,31,32,33,34,35] hHeld ?_
      try simp only [Act.put,upA,upB,upC]
      refine UpTo.tk 12 [13,14,15,16,17,18,19,20,21,22,23,24,25,26,27,28,29,30,31,32,33,34,35] hHeld ?_
      try simp only [Act.put,upA,upB,upC]
      refine UpTo.tk 13 [14,15,16,17,18,19,20,21,22,23,24,25,26,27,28,29,30,31,32,33,34,35] hHeld ?_
      try simp only [Act.put,upA,upB,upC]
      refine UpTo.tk 14 [16,17,19,20,21,22,23,24,25,26,27,28,29,30,31,32,33,34,35] hHeld ?_
      try simp only [Act.put,upA,upB,upC]
      refine UpTo.tk 15 [16,17,19,20,21,22,23,24,25,26,27,28,29,30,31,32,33,34,35] hHeld ?_
      try simp only [Act.put,upA,upB,upC]
      refine UpTo.tk 16 [17,19,20,21,22,23,24,25,26,27,28,29,30,31,32,33,34,35] hHeld ?_
      try simp only [Act.put,upA,upB,upC]
      refine UpTo.tk 17 [19,20,21,22,23,24,25,26,27,28,29,30,31,32,33,34,35] hHeld ?_
      try simp only [Act.put,upA,upB,upC]
      refine UpTo.tk 18 [19,20,21,22,23,24,25,26,27,28,29,30,31,32,33,34,35] hHeld ?_
      try simp only [Act.put,upA,upB,upC]
      refine UpTo.tk 19 [20,21,22,23,24,25,26,27,28,29,30,31,32,33,34,35] hHeld ?_
      try simp only [Act.put,upA,upB,upC]
      refine UpTo.tk 20 [21,22,23,24,25,26,27,28,29,30,31,32,33,34,35] hHeld ?_
      try simp only [Act.put,upA,upB,upC]
      refine UpTo.tk 21 [22,23,24,25,26,27,28,29,30,31,32,33,34,35] hHeld ?_
      try simp only [Act.put,upA,upB,upC]
      refine UpTo.tk 22 [29,30,33,34,35] hHeld ?_
      try simp only [Act.put,upA,upB,upC]
      refine UpTo.tk 23 [28,29,30,33,34,35] hHeld ?_
      try simp only [Act.put,upA,upB,upC]
      refine UpTo.tk 24 [26,27,28,29,30,33,34,35] hHeld ?_
      try simp only [Act.put,upA,upB,upC]
      refine UpTo.tk 25 [26,27,28,29,30,33,34,35] hHeld ?_
      try simp only [Act.put,upA,upB,upC]
      refine UpTo.tk 26 [27,28,29,30,33,34,35] hHeld ?_
      try simp only [Act.put,upA,upB,upC]
      refine UpTo.tk 27 [28,29,30,33,34,35] hHeld ?_
      try simp only [Act.put,upA,upB,upC]
      refine UpTo.tk 31 [32,33,34,35] hHeld ?_
      try simp only [Act.put,upA,upB,upC]
      refine UpTo.tk 32 [33,34,35] hHeld ?_
      try simp only [Act.put,upA,upB,upC]
      refine UpTo.nx 28 (fun K hK=> ?_)
      rw [if_pos (by rfl)]
      go_simp
      go_at_call 64
      refine (l4At_place wd ra rn rc (some ⟨rb,ro,none⟩) dc sl s hsl (hS.kept (HKB.out.trans (Kr3.trans KD)))).mono ?_
      rintro e w3 ⟨⟨q,rfl,hq⟩,k3⟩
      have K3:=KD.trans k3
      obtain ⟨k',hk',rfl,henv',hkn'⟩: ∃k':Nat,k' < sl.length∧q= (k':Int)∧envOf sl s=some (sl.getD k' RunX.zero)∧(sl.getD k' RunX.zero).name=s:=by
       rcases hq with ⟨k',h1,h2,h3,h4⟩ | ⟨_,h1⟩
       ·exact ⟨k',h1,h2,h3,h4⟩
       ·obtain ⟨_,_,_,_,_,_,_,y,hy,_⟩:=HEs.out
        rw [h1] at hy
        cases hy
      clear hq
      have hfk:=World.rowIs.cell (HF3.out.kept K3) hk'
      dsimp only at hfk
      have fz3:= (HF3.out.kept K3).lt
      have hki': (k':Int) < (sl.length:Int):=by omega
      have hk0: (0:Int)≤(k':Int):=by omega
      obtain ⟨q,hqq⟩: ∃q,q= (if k'=i then v else V k'):= ⟨_,rfl⟩
      rw [←hqq] at hfk
      have HQ:Hid (q=n - 1↔FarR (WaitsX (actsOf webl) (envOf sl)) goal (n - 1) s):=by
       show q=n - 1↔_
       by_cases e:k'=i
       ·have hsx:s=x:=by rw [HX.out,←e];exact hkn'.symm
        rw [hqq,if_pos e,hsx]
        refine ⟨fun h=> ?_,fun h=> ?_⟩
        ·rcases HHit.out with ⟨h1,_⟩ | ⟨h1,_⟩ <;> omega
        ·have:= (HVi.out.2 HXg.out).2 (n - 1) (by omega) h
         have:=h.1.pos
         omega
       ·rw [hqq,if_neg e]
        have h:=HVv.out k' hk'
        have e2:runN sl k'=s:=hkn'
        rw [e2] at h
        exact h.ask HGt.out (by omega) (by split <;> omega)
      have HQQ:=hide hqq
      clear hqq henv' hkn'
      dsimp only
      refine hK.out _ _ (fun _=> HS13.out _ K3) ?_
      clear hK K
      try simp only [Act.put,upA,upB,upC]
      clear hHeld
      have hHeld:=HS13.out _ K3
      by_cases hqn:q=n - 1
      ·have hqb: ((q:Int) == (n:Int) - 1)=true:=by simp;omega
       have HHs:Hid (Hit (WaitsX (actsOf webl) (envOf sl)) goal n x s):= ⟨HEs.out,.inr ⟨by omega,HGt.out,HQ.out.1 hqn⟩⟩
       clear hqn
       refine UpTo.tk 29 [30,33,34,35] hHeld ?_
       try simp only [Act.put,upA,upB,upC]
       refine UpTo.take 30 [33,34,35] (v:= ?_) (by (simp only [List.getElem?_toArray,List.getElem?_cons_succ,List.getElem?_cons_zero];rfl)) (by kernel_rfl) (by kernel_rfl) (by kernel_rfl) (by kernel_rfl) (by exact fun _ _ _ h=> h) (Or.inl ⟨by rfl, ?_⟩) hHeld ?_
       rotate_left
       ·intro u hu
        try dsimp only at hu
        have f9:=World.rowIs.cell hu.2.2.2.out hk'
        try dsimp only at f9
        rw [←HQQ.out] at f9
        go_simp
        try with_reducible rfl
       try simp only [Act.put,upA,upB,upC]
       refine UpTo.tk 33 [34,35] hHeld ?_
       try simp only [Act.put,upA,upB,upC]
       refine UpTo.tk 34 [35] hHeld ?_
       try simp only [Act.put,upA,upB,upC]
       refine UpTo.nx 35 (fun K hK=> ?_)
       go_simp
       refine hK.out _ _ (fun h=> absurd rfl h) ?_
       clear hK K
       try simp only [Act.put,upA,upB,upC]
       refine UpTo.done (by kernel_rfl) ?_
       clear hHeld hfk
       have HFw:=hide (HF3.out.kept K3)
       have HLw:=hide (HLS3.out.kept K3)
       have hold:=World.rowIs.cell HFw.out hil
       have hfz:=World.rowIs.frozen HFw.out i
       have fz:=HFw.out.lt
       dsimp only at hold
       rw [if_pos rfl] at hold
       go_wp2_with fail
       go_roundw
       case rel=>
        refine ⟨k+1,n,by omega,by go_num,hide ?_,hide (.inl ⟨rfl,s,HHs.out⟩),hide (HFw.out.strs HLw.out i _),Below.setCell (Kr3.trans K3) (p:= ⟨fb,i,none⟩) hfw _⟩
        exact World.rowIs.congr (HFw.out.put i n) (fun p hp=> by by_cases e:p=i <;> simp [e])
       case measure=> simp [intOf];omega
      ·have hqb: ((q:Int) == (n:Int) - 1)=false:=by simp;omega
       have HNh:Hid (¬Hit (WaitsX (actsOf webl) (envOf sl)) goal n x s):=fun h=> by
        rcases h.2 with ⟨e,_⟩ | ⟨_,_,e⟩
        ·exact HN.out e
        ·exact hqn (HQ.out.2 e)
       clear hqn
       refine UpTo.tk 29 [30,33,34,35] hHeld ?_
       try simp only [Act.put,upA,upB,upC]
       refine UpTo.take 30 [33,34,35] (v:= ?_) (by (simp only [List.getElem?_toArray,List.getElem?_cons_succ,List.getElem?_cons_zero];rfl)) (by kernel_rfl) (by kernel_rfl) (by kernel_rfl) (by kernel_rfl) (by exact fun _ _ _ h=> h) (Or.inl ⟨by rfl, ?_⟩) hHeld ?_
       rotate_left
       ·intro u hu
        try dsimp only at hu
        have f9:=World.rowIs.cell hu.2.2.2.out hk'
        try dsimp only at f9
        rw [←HQQ.out] at f9
        go_simp
        try with_reducible rfl
       try simp only [Act.put,upA,upB,upC]
       refine UpTo.tk 33 [34,35] hHeld ?_
       try simp only [Act.put,upA,upB,upC]
       refine UpTo.tk 34 [35] hHeld ?_
       try simp only [Act.put,upA,upB,upC]
       refine UpTo.nx 35 (fun K hK=> ?_)
       go_simp
       refine hK.out _ _ (fun h=> absurd rfl h) ?_
       clear hK K
       try simp only [Act.put,upA,upB,upC]
       refine UpTo.done (by kernel_rfl) ?_
       clear hHeld hfk
       go_wp2_with fail
       go_roundw
       case rel=>
        refine ⟨k+1,v,by omega,by go_num,hide (HF3.out.kept K3),hide ?_,hide (HLS3.out.kept K3),Kr3.trans K3⟩
        rcases HHit.out with h | ⟨h1,h2⟩
        ·exact .inl h
        ·refine .inr ⟨h1,fun z hz=> ?_⟩
         rw [List.take_succ_eq_append_getElem hkl,HSk.out] at hz
         rcases List.mem_append.1 hz with hz | hz
         ·exact h2 z hz
         ·rw [List.mem_singleton] at hz
          rw [hz]
          exact HNh.out
       case measure=> simp [intOf];omega
     ·have HNg:=hide hgt
      have hcs:Op.bytesLess s.toList goal.toList=true∨(Op.bytesLess s.toList goal.toList=false∧(s.toList == goal.toList)=true):=by
       rcases lessX_total s goal with h | h | h
       ·exact .inl h
       ·right
        subst h
        exact ⟨by cases h2:Op.bytesLess s.toList s.toList;rfl;exact absurd (show lessX s s from h2) (lessX_irrefl s),by simp⟩
       ·exact absurd h hgt
      clear hgt
      rcases hcs with hl1 | ⟨hl1,he1⟩
      ·have HNh:Hid (¬Hit (WaitsX (actsOf webl) (envOf sl)) goal n x s):=fun h=> by
        rcases h.2 with ⟨e,_⟩ | ⟨_,e,_⟩
        ·exact HN.out e
        ·exact HNg.out e
       refine UpTo.region (by kernel_rfl) (fun w'=> w'.cell? ⟨lb,lo+k,none⟩=some (.string s)∧w'.cell? ⟨w.heap.size+1,0,none⟩=some (.slice ra rn rc)∧w'.cell? ⟨w.heap.size+1,1,none⟩=some (.slice (some ⟨rb,ro,none⟩) sl.length dc)∧Hid (NumRow w' fb sl.length (fun p=> if p=i then v else V p))) 35 (HS13.out _ ((Kept.refl wr).drew)) (fun hHeld=> ?_)
       have KD:Kept wr wr.drew:= (Kept.refl wr).drew
       generalize hwd:wr.drew=wd at hHeld KD⊢
       clear hwd
       refine UpTo.tk 0 [1,2,3,4,5,6,7,8,9,10,11,12,13,14,15,16,17,18,19,20,21,22,23,24,25,26,27,28,29,30,31,32,33,34,35] hHeld ?_
       try simp only [Act.put,upA,upB,upC]
       refine UpTo.tk 1 [2,3,4,5,6,7,8,9,10,11,12,13,14,15,16,17,18,19,20,21,22,23,24,25,26,27,28,29,30,31,32,33,34,35] hHeld ?_
       try simp only [Act.put,upA,upB,upC]
       refine UpTo.tk 2 [3,4,5,6,7,8,9,10,11,12,13,14,15,16,17,18,19,20,21,22,23,24,25,26,27,28,29,30,31,32,33,34,35] hHeld ?_
       try simp only [Act.put,upA,upB,upC]
       refine UpTo.un 3 [5,6,8,9,10,11,12,13,14,15,16,17,18,19,20,21,22,23,24,25,26,27,28,29,30,31,32,33,34,35] hHeld ?_
       try simp only [Act.put,upA,upB,upC]
       refine UpTo.un 4 [5,6,8,9,10,11,12,13,14,15,16,17,18,19,20,21,22,23,24,25,26,27,28,29,30,31,32,33,34,35] hHeld ?_
       try simp only [Act.put,upA,upB,upC]
       refine UpTo.un 5 [6,8,9,10,11,12,13,14,15,16,17,18,19,20,21,22,23,24,25,26,27,28,29,30,31,32,33,34,35] hHeld ?_
       try simp only [Act.put,upA,upB,upC]
       refine UpTo.un 6 [8,9,10,11,12,13,14,15,16,17,18,19,20,21,22,23,24,25,26,27,28,29,30,31,32,33,34,35] hHeld ?_
       try simp only [Act.put,upA,upB,upC]
       refine UpTo.un 7 [8,9,10,11,12,13,14,15,16,17,18,19,20,21,22,23,24,25,26,27,28,29,30,31,32,33,34,35] hHeld ?_
       try simp only [Act.put,upA,upB,upC]
       refine UpTo.un 8 [9,10,11,12,13,14,15,16,17,18,19,20,21,22,23,24,25,26,27,28,29,30,31,32,33,34,35] hHeld ?_
       try simp only [Act.put,upA,upB,upC]
       refine UpTo.tk 9 [10,11,12,13,14,15,16,17,18,19,20,21,22,23,24,25,26,27,28,29,30,31,32,33,34,35] hHeld ?_
       try simp only [Act.put,upA,upB,upC]
       refine UpTo.tk 10 [11,12,13,14,15,16,17,18,19,20,21,22,23,24,25,26,27,28,29,30,31,32,33,34,35] hHeld ?_
       try simp only [Act.put,upA,upB,upC]
       refine UpTo.tk 11 [12,13,14,15,16,17,18,19,20,21,22,23,24,25,26,27,28,29,30,31,32,33,34,35] hHeld ?_
       try simp only [Act.put,upA,upB,upC]
       refine UpTo.tk 12 [13,14,15,16,17,18,19,20,21,22,23,24,25,26,27,28,29,30,31,32,33,34,35] hHeld ?_
       try simp only [Act.put,upA,upB,upC]
       refine UpTo.tk 13 [14,15,16,17,18,19,20,21,22,23,24,25,26,27,28,29,30,31,32,33,34,35] hHeld ?_
       try simp only [Act.put,upA,upB,upC]
       refine UpTo.tk 14 [16,17,19,20,21,22,23,24,25,26,27,28,29,30,31,32,33,34,35] hHeld ?_
       try simp only [Act.put,upA,upB,upC]
       refine UpTo.tk 15 [16,17,19,20,21,22,23,24,25,26,27,28,29,30,31,32,33,34,35] hHeld ?_
       try simp only [Act.put,upA,upB,upC]
       refine UpTo.tk 16 [17,19,20,21,22,23,24,25,26,27,28,29,30,31,32,33,34,35] hHeld ?_
       try simp only [Act.put,upA,upB,upC]
       refine UpTo.tk 17 [19,20,21,22,23,24,25,26,27,28,29,30,31,32,33,34,35] hHeld ?_
       try simp only [Act.put,upA,upB,upC]
       refine UpTo.tk 18 [19,20,21,22,23,24,25,26,27,28,29,30,31,32,33,34,35] hHeld ?_
       try simp only [Act.put,upA,upB,upC]
       refine UpTo.tk 19 [20,21,22,23,24,25,26,27,28,29,30,31,32,33,34,35] hHeld ?_
       try simp only [Act.put,upA,upB,upC]
       refine UpTo.tk 20 [21,22,23,24,25,26,27,28,29,30,31,32,33,34,35] hHeld ?_
       try simp only [Act.put,upA,upB,upC]
       refine UpTo.tk 21 [22,23,24,25,26,27,28,29,30,31,32,33,34,35] hHeld ?_
       try simp only [Act.put,upA,upB,upC]
       refine UpTo.un 22 [29,30,33,34,35] hHeld ?_
       try simp only [Act.put,upA,upB,upC]
       refine UpTo.un 23 [28,29,30,33,34,35] hHeld ?_
       try simp only [Act.put,upA,upB,upC]
       refine UpTo.un 24 [26,27,28,29,30,33,34,35] hHeld ?_
       try simp only [Act.put,upA,upB,upC]
       refine UpTo.un 25 [26,27,28,29,30,33,34,35] hHeld ?_
       try simp only [Act.put,upA,upB,upC]
       refine UpTo.un 26 [27,28,29,30,33,34,35] hHeld ?_
       try simp only [Act.put,upA,upB,upC]
       refine UpTo.un 27 [28,29,30,33,34,35] hHeld ?_
       try simp only [Act.put,upA,upB,upC]
       refine UpTo.un 28 [29,30,33,34,35] hHeld ?_
       try simp only [Act.put,upA,upB,upC]
       refine UpTo.un 29 [30,33,34,35] hHeld ?_
       try simp only [Act.put,upA,upB,upC]
       refine UpTo.un 30 [33,34,35] hHeld ?_
       try simp only [Act.put,upA,upB,upC]
       refine UpTo.un 31 [32,33,34,35] hHeld ?_
       try simp only [Act.put,upA,upB,upC]
       refine UpTo.un 32 [33,34,35] hHeld ?_
       try simp only [Act.put,upA,upB,upC]
       refine UpTo.un 33 [34,35] hHeld ?_
       try simp only [Act.put,upA,upB,upC]
       refine UpTo.tk 34 [35] hHeld ?_
       try simp only [Act.put,upA,upB,upC]
       refine UpTo.nx 35 (fun K hK=> ?_)
       go_simp
       refine hK.out _ _ (fun h=> absurd rfl h) ?_
       clear hK K
       try simp only [Act.put,upA,upB,upC]
       refine UpTo.done (by kernel_rfl) ?_
       go_wp2_with fail
       go_roundw
       case rel=>
        refine ⟨k+1,v,by omega,by go_num,hide (HF3.out.kept KD),hide ?_,hide (HLS3.out.kept KD),Kr3.trans KD⟩
        rcases HHit.out with h | ⟨h1,h2⟩
        ·exact .inl h
        ·refine .inr ⟨h1,fun z hz=> ?_⟩
         rw [List.take_succ_eq_append_getElem hkl,HSk.out] at hz
         rcases List.mem_append.1 hz with hz | hz
         ·exact h2 z hz
         ·rw [List.mem_singleton] at hz
          rw [hz]
          exact HNh.out
       case measure=> simp [intOf];omega
      ·have HNh:Hid (¬Hit (WaitsX (actsOf webl) (envOf sl)) goal n x s):=fun h=> by
        rcases h.2 with ⟨e,_⟩ | ⟨_,e,_⟩
        ·exact HN.out e
        ·exact HNg.out e
       refine UpTo.region (by kernel_rfl) (fun w'=> w'.cell? ⟨lb,lo+k,none⟩=some (.string s)∧w'.cell? ⟨w.heap.size+1,0,none⟩=some (.slice ra rn rc)∧w'.cell? ⟨w.heap.size+1,1,none⟩=some (.slice (some ⟨rb,ro,none⟩) sl.length dc)∧Hid (NumRow w' fb sl.length (fun p=> if p=i then v else V p))) 35 (HS13.out _ ((Kept.refl wr).drew)) (fun hHeld=> ?_)
       have KD:Kept wr wr.drew:= (Kept.refl wr).drew
       generalize hwd:wr.drew=wd at hHeld KD⊢
       clear hwd
       refine UpTo.tk 0 [1,2,3,4,5,6,7,8,9,10,11,12,13,14,15,16,17,18,19,20,21,22,23,24,25,26,27,28,29,30,31,32,33,34,35] hHeld ?_
       try simp only [Act.put,upA,upB,upC]
       refine UpTo.tk 1 [2,3,4,5,6,7,8,9,10,11,12,13,14,15,16,17,18,19,20,21,22,23,24,25,26,27,28,29,30,31,32,33,34,35] hHeld ?_
       try simp only [Act.put,upA,upB,upC]
       refine UpTo.tk 2 [3,4,5,6,7,8,9,10,11,12,13,14,15,16,17,18,19,20,21,22,23,24,25,26,27,28,29,30,31,32,33,34,35] hHeld ?_
       try simp only [Act.put,upA,upB,upC]
       refine UpTo.un 3 [5,6,8,9,10,11,12,13,14,15,16,17,18,19,20,21,22,23,24,25,26,27,28,29,30,31,32,33,34,35] hHeld ?_
       try simp only [Act.put,upA,upB,upC]
       refine UpTo.un 4 [5,6,8,9,10,11,12,13,14,15,16,17,18,19,20,21,22,23,24,25,26,27,28,29,30,31,32,33,34,35] hHeld ?_
       try simp only [Act.put,upA,upB,upC]
       refine UpTo.un 5 [6,8,9,10,11,12,13,14,15,16,17,18,19,20,21,22,23,24,25,26,27,28,29,30,31,32,33,34,35] hHeld ?_
       try simp only [Act.put,upA,upB,upC]
       refine UpTo.un 6 [8,9,10,11,12,13,14,15,16,17,18,19,20,21,22,23,24,25,26,27,28,29,30,31,32,33,34,35] hHeld ?_
       try simp only [Act.put,upA,upB,upC]
       refine UpTo.un 7 [8,9,10,11,12,13,14,15,16,17,18,19,20,21,22,23,24,25,26,27,28,29,30,31,32,33,34,35] hHeld ?_
       try simp only [Act.put,upA,upB,upC]
       refine UpTo.un 8 [9,10,11,12,13,14,15,16,17,18,19,20,21,22,23,24,25,26,27,28,29,30,31,32,33,34,35] hHeld ?_
       try simp only [Act.put,upA,upB,upC]
       refine UpTo.tk 9 [10,11,12,13,14,15,16,17,18,19,20,21,22,23,24,25,26,27,28,29,30,31,32,33,34,35] hHeld ?_
       try simp only [Act.put,upA,upB,upC]
       refine UpTo.tk 10 [11,12,13,14,15,16,17,18,19,20,21,22,23,24,25,26,27,28,29,30,31,32,33,34,35] hHeld ?_
       try simp only [Act.put,upA,upB,upC]
       refine UpTo.tk 11 [12,13,14,15,16,17,18,19,20,21,22,23,24,25,26,27,28,29,30,31,32,33,34,35] hHeld ?_
       try simp only [Act.put,upA,upB,upC]
       refine UpTo.tk 12 [13,14,15,16,17,18,19,20,21,22,23,24,25,26,27,28,29,30,31,32,33,34,35] hHeld ?_
       try simp only [Act.put,upA,upB,upC]
       refine UpTo.tk 13 [14,15,16,17,18,19,20,21,22,23,24,25,26,27,28,29,30,31,32,33,34,35] hHeld ?_
       try simp only [Act.put,upA,upB,upC]
       refine UpTo.tk 14 [16,17,19,20,21,22,23,24,25,26,27,28,29,30,31,32,33,34,35] hHeld ?_
       try simp only [Act.put,upA,upB,upC]
       refine UpTo.tk 15 [16,17,19,20,21,22,23,24,25,26,27,28,29,30,31,32,33,34,35] hHeld ?_
       try simp only [Act.put,upA,upB,upC]
       refine UpTo.tk 16 [17,19,20,21,22,23,24,25,26,27,28,29,30,31,32,33,34,35] hHeld ?_
       try simp only [Act.put,upA,upB,upC]
       refine UpTo.tk 17 [19,20,21,22,23,24,25,26,27,28,29,30,31,32,33,34,35] hHeld ?_
       try simp only [Act.put,upA,upB,upC]
       refine UpTo.tk 18 [19,20,21,22,23,24,25,26,27,28,29,30,31,32,33,34,35] hHeld ?_
       try simp only [Act.put,upA,upB,upC]
       refine UpTo.tk 19 [20,21,22,23,24,25,26,27,28,29,30,31,32,33,34,35] hHeld ?_
       try simp only [Act.put,upA,upB,upC]
       refine UpTo.tk 20 [21,22,23,24,25,26,27,28,29,30,31,32,33,34,35] hHeld ?_
       try simp only [Act.put,upA,upB,upC]
       refine UpTo.tk 21 [22,23,24,25,26,27,28,29,30,31,32,33,34,35] hHeld ?_
       try simp only [Act.put,upA,upB,upC]
       refine UpTo.un 22 [29,30,33,34,35] hHeld ?_
       try simp only [Act.put,upA,upB,upC]
       refine UpTo.un 23 [28,29,30,33,34,35] hHeld ?_
       try simp only [Act.put,upA,upB,upC]
       refine UpTo.un 24 [26,27,28,29,30,33,34,35] hHeld ?_
       try simp only [Act.put,upA,upB,upC]
       refine UpTo.un 25 [26,27,28,29,30,33,34,35] hHeld ?_
       try simp only [Act.put,upA,upB,upC]
       refine UpTo.un 26 [27,28,29,30,33,34,35] hHeld ?_
       try simp only [Act.put,upA,upB,upC]
       refine UpTo.un 27 [28,29,30,33,34,35] hHeld ?_
       try simp only [Act.put,upA,upB,upC]
       refine UpTo.un 28 [29,30,33,34,35] hHeld ?_
       try simp only [Act.put,upA,upB,upC]
       refine UpTo.un 29 [30,33,34,35] hHeld ?_
       try simp only [Act.put,upA,upB,upC]
       refine UpTo.un 30 [33,34,35] hHeld ?_
       try simp only [Act.put,upA,upB,upC]
       refine UpTo.un 31 [32,33,34,35] hHeld ?_
       try simp only [Act.put,upA,upB,upC]
       refine UpTo.un 32 [33,34,35] hHeld ?_
       try simp only [Act.put,upA,upB,upC]
       refine UpTo.un 33 [34,35] hHeld ?_
       try simp only [Act.put,upA,upB,upC]
       refine UpTo.tk 34 [35] hHeld ?_
       try simp only [Act.put,upA,upB,upC]
       refine UpTo.nx 35 (fun K hK=> ?_)
       go_simp
       refine hK.out _ _ (fun h=> absurd rfl h) ?_
       clear hK K
       try simp only [Act.put,upA,upB,upC]
       refine UpTo.done (by kernel_rfl) ?_
       go_wp2_with fail
       go_roundw
       case rel=>
        refine ⟨k+1,v,by omega,by go_num,hide (HF3.out.kept KD),hide ?_,hide (HLS3.out.kept KD),Kr3.trans KD⟩
        rcases HHit.out with h | ⟨h1,h2⟩
        ·exact .inl h
        ·refine .inr ⟨h1,fun z hz=> ?_⟩
         rw [List.take_succ_eq_append_getElem hkl,HSk.out] at hz
         rcases List.mem_append.1 hz with hz | hz
         ·exact h2 z hz
         ·rw [List.mem_singleton] at hz
          rw [hz]
          exact HNh.out
       case measure=> simp [intOf];omega
end Go.Proofs.YteknkpfbjapoiaaGreatDoor
