import Derived.Test.YtgnkgfjmbmcfcaaGreatDoorKXWork0
set_option maxRecDepth 100000
set_option maxHeartbeats 25600000
namespace Go.Proofs.YtgnkgfjmbmcfcaaGreatDoor
open Go.RowKit
theorem Tryz.sizePlanX : (Tryz.prog.info? 33).map (·.size)=some 9:=by kernel_rfl
def PlanOut (P:PlanD->Prop) (w w':World) (e:Ending):Prop:=
 ∃(p:PlanD) (sa ra fa ca:Option Addr) (sc rc fc cc:Nat),e= .returned (.agg #[.int .i64 p.code,.slice sa p.slots.length sc,.int .i64 p.ticks,.int .i64 p.out.code,.slice ra p.out.res.length rc,.slice fa p.out.chain.length fc,.int .i64 p.out.units,.int .i64 p.out.cost,.slice ca p.chain.length cc])∧P p∧(Slts w' sa p.slots∧Ress w' ra p.out.res∧Strs w' fa p.out.chain∧Slts w' ca p.chain)∧K_ w w'
theorem specWork_any (w:World) (a:Option Addr) (cap:Nat) (Kj:List Qq) (rd:Option Addr) (rc:Nat) (Kk:List ByteArray) (k:Int) (hwl:Kj.length<=1048576) (hft: ∀y∈Kj,y.Fits) (hrl:Kk.length<=1048576) (hrs: ∀s∈Kk,s.size<=maxLen) (hN:Nodes w a Kj) (hR:Strs w rd Kk):
  Calls Tryz.prog 6 #[.agg #[.slice a Kj.length cap],.slice rd Kk.length rc,.int .i64 k] w fun e w'=> PlanOut (PlanAns Kj Kk k) w w' e:=by
 obtain ⟨is,hs0,hs1,hs2,hs3⟩:=xInfo_parts Tryz.infoSlot
 obtain ⟨WB,hWB⟩: ∃WB,WB= (w.alloc (.cells #[.slice a Kj.length cap] 37)).alloc (.cells #[.int .i64 0,.slice none 0 0,.int .i64 0,.int .i64 0,.slice none 0 0,.slice none 0 0,.int .i64 0,.int .i64 0,.slice none 0 0] 33):= ⟨_,rfl⟩
 have kB:K_ w WB:=by rw [hWB];exact ((K_.refl _).alloc _).alloc _
 have hBs:WB.heap.size=w.heap.size+2:=by rw [hWB];simp
 have b0:WB.cell? ⟨w.heap.size,0,none⟩=some (.slice a Kj.length cap):=by rw [hWB,K_.cell (w:=w.alloc (.cells #[.slice a Kj.length cap] 37)) ((K_.refl _).alloc _) (by simp)];exact Xz w _ _ 0 _ rfl
 have HRes:Hid (PlanV WB (w.heap.size+1) [.int .i64 0,.slice none 0 0,.int .i64 0,.int .i64 0,.slice none 0 0,.slice none 0 0,.int .i64 0,.int .i64 0,.slice none 0 0]):=by
  have h1:=RowT.made (w.alloc (.cells #[.slice a Kj.length cap] 37)) #[.int .i64 0,.slice none 0 0,.int .i64 0,.int .i64 0,.slice none 0 0,.slice none 0 0,.int .i64 0,.int .i64 0,.slice none 0 0] 33
  have h2:=Xz (w.alloc (.cells #[.slice a Kj.length cap] 37)) #[.int .i64 0,.slice none 0 0,.int .i64 0,.int .i64 0,.slice none 0 0,.slice none 0 0,.int .i64 0,.int .i64 0,.slice none 0 0] 33
  simp only [World.size_alloc] at h1 h2
  rw [hWB]
  exact ⟨h1,h2,rfl⟩
 have z0:w.heap.size < WB.heap.size:=by omega
 have HC:Hid (∀w',K_ WB w'->w'.cell? ⟨w.heap.size,0,none⟩=some (.slice a Kj.length cap)∧w.heap.size+1 < w'.heap.size):=fun w' K=> ⟨(K.cell z0).trans b0,by have:=K.size;omega⟩
 have HNoEnd:Hid (∀u,K_ WB u->¬(WebCode Kj 0∧RootsOk Kk∧1<=k∧k<=60)->PlanOut (PlanAns Kj Kk k) w (u.setCells (w.heap.size+1) 0 [.int .i64 9,.slice none 0 0,.int .i64 0,.int .i64 0,.slice none 0 0,.slice none 0 0,.int .i64 0,.int .i64 0,.slice none 0 0]) (.returned (.agg #[.int .i64 9,.slice none 0 0,.int .i64 0,.int .i64 0,.slice none 0 0,.slice none 0 0,.int .i64 0,.int .i64 0,.slice none 0 0]))∧(u.setCells (w.heap.size+1) 0 [.int .i64 9,.slice none 0 0,.int .i64 0,.int .i64 0,.slice none 0 0,.slice none 0 0,.int .i64 0,.int .i64 0,.slice none 0 0]).rangeAt (w.heap.size+1) 0 [.int .i64 9,.slice none 0 0,.int .i64 0,.int .i64 0,.slice none 0 0,.slice none 0 0,.int .i64 0,.int .i64 0,.slice none 0 0]):=fun u ku hn=> by
  refine ⟨⟨planNo,none,none,none,none,0,0,0,0,rfl,⟨⟨Nat.zero_le _,Nat.zero_le _,Nat.zero_le _,Nat.zero_le _⟩,.inr ⟨hn,rfl⟩⟩,⟨fun i hi=> absurd hi (Nat.not_lt_zero _),fun i hi=> absurd hi (Nat.not_lt_zero _),fun i hi=> absurd hi (Nat.not_lt_zero _),fun i hi=> absurd hi (Nat.not_lt_zero _)⟩,kept_sets (g:=w.heap.size+1) (by omega) _ 0 (kB.trans ku)⟩, ?_⟩
  exact World.rangeAt_setCells_same u (w.heap.size+1) 0 [.int .i64 9,.slice none 0 0,.int .i64 0,.int .i64 0,.slice none 0 0,.slice none 0 0,.int .i64 0,.int .i64 0,.slice none 0 0] ((HRes.out.row.kept ku).row.there (o:=0) (m:=9) (Nat.le_refl _))
 have HKB:=Kz kB
 clear kB hBs b0 z0
 go_enter Tryz.func6,Tryz.ntmps6
 go_upto_region 1 with fail
 rw [<-hWB]
 clear hWB
 obtain ⟨b0,z1⟩:=HC.out _ (K_.refl _)
 go_wp2_with fail
 refine (specCheckWeb_any _ a cap Kj (by unfold maxLen;omega) hft (hN.kept HKB.out)).mono ?_
 rintro e w1 ⟨⟨c,rfl,hc⟩,k1⟩
 clear b0 z1
 obtain ⟨b0,z1⟩:=HC.out _ k1
 by_cases hc0:c=0
 rotate_left
 ·have hcb: (c != 0)=true:=by simpa using hc0
  have HCn:Hid (¬(WebCode Kj 0∧RootsOk Kk∧1<=k∧k<=60)):=fun h=> hc0 (hc.unique h.1)
  have hRr:=HRes.out.row.kept k1
  obtain ⟨⟨_,fa0⟩,fb0⟩:=hRr.row.at (i:=0) (by omega)
  obtain ⟨⟨_,fa1⟩,fb1⟩:=hRr.row.at (i:=1) (by omega)
  obtain ⟨⟨_,fa2⟩,fb2⟩:=hRr.row.at (i:=2) (by omega)
  obtain ⟨⟨_,fa3⟩,fb3⟩:=hRr.row.at (i:=3) (by omega)
  obtain ⟨⟨_,fa4⟩,fb4⟩:=hRr.row.at (i:=4) (by omega)
  obtain ⟨⟨_,fa5⟩,fb5⟩:=hRr.row.at (i:=5) (by omega)
  obtain ⟨⟨_,fa6⟩,fb6⟩:=hRr.row.at (i:=6) (by omega)
  obtain ⟨⟨_,fa7⟩,fb7⟩:=hRr.row.at (i:=7) (by omega)
  obtain ⟨⟨_,fa8⟩,fb8⟩:=hRr.row.at (i:=8) (by omega)
  have hrz:=hRr.lt
  clear hRr hc0 hc
  go_wp2_with fail
  obtain ⟨hP,hX⟩:=HNoEnd.out _ k1 HCn.out
  exact X_ [.int .i64 9,.slice none 0 0,.int .i64 0,.int .i64 0,.slice none 0 0,.slice none 0 0,.int .i64 0,.int .i64 0,.slice none 0 0] _ Tryz.results6 rfl hX Tryz.underlying33 rfl Tryz.sizePlanX rfl hP
 subst hc0
 have HW:=Kz hc
 clear hc
 go_wp2_with fail
 refine (l3RootsOk_any _ rd rc Kk (by unfold maxLen;omega) hrs (hR.kept (HKB.out.trans k1))).mono ?_
 rintro e w2 ⟨hsay,k2⟩
 have K2:=k1.trans k2
 clear b0 z1 k1 k2
 obtain ⟨b0,z1⟩:=HC.out _ K2
 rcases hsay.cases with ⟨rfl,hyes⟩ | ⟨rfl,hno⟩
 rotate_left
 ·have HCn:Hid (¬(WebCode Kj 0∧RootsOk Kk∧1<=k∧k<=60)):=fun h=> hno h.2.1
  have hRr:=HRes.out.row.kept K2
  obtain ⟨⟨_,fa0⟩,fb0⟩:=hRr.row.at (i:=0) (by omega)
  obtain ⟨⟨_,fa1⟩,fb1⟩:=hRr.row.at (i:=1) (by omega)
  obtain ⟨⟨_,fa2⟩,fb2⟩:=hRr.row.at (i:=2) (by omega)
  obtain ⟨⟨_,fa3⟩,fb3⟩:=hRr.row.at (i:=3) (by omega)
  obtain ⟨⟨_,fa4⟩,fb4⟩:=hRr.row.at (i:=4) (by omega)
  obtain ⟨⟨_,fa5⟩,fb5⟩:=hRr.row.at (i:=5) (by omega)
  obtain ⟨⟨_,fa6⟩,fb6⟩:=hRr.row.at (i:=6) (by omega)
  obtain ⟨⟨_,fa7⟩,fb7⟩:=hRr.row.at (i:=7) (by omega)
  obtain ⟨⟨_,fa8⟩,fb8⟩:=hRr.row.at (i:=8) (by omega)
  have hrz:=hRr.lt
  clear hRr hno hsay
  go_wp2_with fail
  obtain ⟨hP,hX⟩:=HNoEnd.out _ K2 HCn.out
  exact X_ [.int .i64 9,.slice none 0 0,.int .i64 0,.int .i64 0,.slice none 0 0,.slice none 0 0,.int .i64 0,.int .i64 0,.slice none 0 0] _ Tryz.results6 rfl hX Tryz.underlying33 rfl Tryz.sizePlanX rfl hP
 have HY:=Kz hyes
 clear hyes hsay
 by_cases hki:1<=k∧k<=60
 rotate_left
 ·have HCn:Hid (¬(WebCode Kj 0∧RootsOk Kk∧1<=k∧k<=60)):=fun h=> hki h.2.2
  have hRr:=HRes.out.row.kept K2
  obtain ⟨⟨_,fa0⟩,fb0⟩:=hRr.row.at (i:=0) (by omega)
  obtain ⟨⟨_,fa1⟩,fb1⟩:=hRr.row.at (i:=1) (by omega)
  obtain ⟨⟨_,fa2⟩,fb2⟩:=hRr.row.at (i:=2) (by omega)
  obtain ⟨⟨_,fa3⟩,fb3⟩:=hRr.row.at (i:=3) (by omega)
  obtain ⟨⟨_,fa4⟩,fb4⟩:=hRr.row.at (i:=4) (by omega)
  obtain ⟨⟨_,fa5⟩,fb5⟩:=hRr.row.at (i:=5) (by omega)
  obtain ⟨⟨_,fa6⟩,fb6⟩:=hRr.row.at (i:=6) (by omega)
  obtain ⟨⟨_,fa7⟩,fb7⟩:=hRr.row.at (i:=7) (by omega)
  obtain ⟨⟨_,fa8⟩,fb8⟩:=hRr.row.at (i:=8) (by omega)
  have hrz:=hRr.lt
  have HIn:=Kz (l1In_no w2 k 1 60 (by omega))
  clear hRr hki
  go_wp2_with fail
  refine HIn.out.mono ?_
  rintro e w3 ⟨rfl,hw3⟩
  rw [hw3]
  clear hw3 w3
  go_wp2_with fail
  obtain ⟨hP,hX⟩:=HNoEnd.out _ K2 HCn.out
  exact X_ [.int .i64 9,.slice none 0 0,.int .i64 0,.int .i64 0,.slice none 0 0,.slice none 0 0,.int .i64 0,.int .i64 0,.slice none 0 0] _ Tryz.results6 rfl hX Tryz.underlying33 rfl Tryz.sizePlanX rfl hP
 clear HNoEnd
 obtain ⟨wk,hwk⟩: ∃wk:Nat,k=wk:= ⟨k.toNat,by omega⟩
 subst hwk
 have hwk6:wk<=60:=by omega
 have hwk1:1<=wk:=by omega
 have HIn:=Kz (l1In_yes w2 (wk:Int) 1 60 hki.1 hki.2)
 obtain ⟨rb,ro,hrd,_,_⟩:=hR 0 (by have:=HY.out.1;omega)
 subst hrd
 have hweb6:=web_len HW.out
 have HSt:=Kz (fun u (ku:K_ w2 u)=> startX_any u a cap Kj rb ro rc Kk (by omega) hft HW.out HY.out hrs (hN.kept (HKB.out.trans (K2.trans ku))) (hR.kept (HKB.out.trans (K2.trans ku))))
 have hmk:=run_make_many (P:=Tryz.prog) 55 98 _ _ _ Tryz.underlying55 Tryz.infoBusy .i64 .i64 wk (by omega) (by omega)
 have HS3:Hid (∀u,K_ w2 u->u.cell? ⟨w.heap.size,0,none⟩=some (.slice a Kj.length cap)):=fun u ku=> (HC.out u (K2.trans ku)).1
 have hok:=web_acts HW.out
 have HGd:=Kz (startL_good hok Kk)
 go_wp2_with fail
 refine HIn.out.mono ?_
 rintro e w3 ⟨rfl,hw3⟩
 rw [hw3]
 clear hw3 w3 HIn
 go_wp2_with fail
 refine region_cut (ShopJ w2 Kj Kk wk a cap (startL Kj Kk)) ?_ ?_
 ·refine Qx.rg 8 HS3.out fun wd KD Z_=> ?_
  refine Qx.tk 0 Z_ ?_
  refine Qx.tk 1 Z_ ?_
  refine Qx.tk 2 Z_ ?_
  refine Qx.tk 4 Z_ ?_
  refine Qx.tw 3 5 (fun K hK=> ?_) (fun K hK=> ?_)
  ·rw [if_pos (by rfl)]
   go_simp
   go_at_call 21
   refine (HSt.out _ KD).mono ?_
   rintro e w3 hst
   obtain ⟨ra,rc3,d,dc,rfl,hr3,hs3,k3⟩:=hst.stretch
   clear hst
   have KC3:=KD.trans k3
   dsimp only
   refine hK.out _ _ (fun _=> HS3.out _ KC3) ?_
   clear hK K Z_
   try simp only [Act.put,upA,upB,upC]
   have Z_:=HS3.out _ KC3
   refine Qx.nx 5 (fun K hK=> ?_)
   rw [if_pos (by rfl)]
   go_simp
   have hbm:=busy_made w3 wk
   have KA:K_ w3 (w3.alloc (.cells (madeCells #[.string ByteArray.empty,.int .i64 0,.int .i64 0] (wk * 3)) 98)):= (K_.refl _).alloc _
   have KCA:=KC3.trans KA
   refine hK.out _ _ (fun _=> HS3.out _ KCA) ?_
   clear hK K Z_
   try simp only [Act.put,upA,upB,upC]
   have Z_:=HS3.out _ KCA
   refine Qx.tk 6 Z_ ?_
   have hmd:=MadeS.box (a:=a) (cap:=cap) (Kj:=Kj) (rc:=rc3) (dc:=dc) KCA hbm.1 hbm.2 KC3.size (hs3.but (P:=fun _=> False) (.of_kept KA) (fun _ h=> h.elim)) (hr3.but (P:=fun _=> False) (.of_kept KA) (fun _ h=> h.elim)) (fun h=> absurd h.2 (Nat.lt_irrefl _)) KA.size
   clear Z_
   refine Qx.nx 7 (fun K hK=> ?_)
   rw [if_pos (by rfl)]
   go_simp
   refine hK.out _ _ (fun _=> HS3.out _ (hmd.kw)) ?_
   clear hK K
   try simp only [Act.put,upA,upB,upC]
   refine Qx.nx 8 (fun K hK=> ?_)
   rw [if_pos (by rfl)]
   go_simp
   refine hK.out _ _ (fun h=> absurd rfl h) ?_
   clear hK K
   try simp only [Act.put]
   refine Qx.dn ⟨rfl, ?_⟩
   refine ⟨.agg #[.slice a Kj.length cap],.agg #[.slice a Kj.length cap],.slice (some ⟨rb,ro,none⟩) Kk.length rc,.agg #[.slice ra Kk.length rc3,.slice d (startL Kj Kk).length dc],.int .i64 (wk:Int),.slice (some ⟨w3.heap.size,0,none⟩) wk wk,.agg #[.slice a Kj.length cap,.slice ra Kk.length rc3,.slice d (startL Kj Kk).length dc,.slice (some ⟨w3.heap.size,0,none⟩) wk wk,.slice none 0 0,.slice none 0 0,.slice none 0 0],.pointer (some ⟨w3.heap.size+1,0,none⟩),_,_,_,_,_,_,_,_, ?_,hmd⟩
   simp only [Act.put,List.setIfInBounds_toArray,List.set_cons_zero,List.set_cons_succ,World.size_alloc]
  ·rw [if_pos (by rfl)]
   go_simp
   have hbm:=busy_made wd wk
   have KA:K_ wd (wd.alloc (.cells (madeCells #[.string ByteArray.empty,.int .i64 0,.int .i64 0] (wk * 3)) 98)):= (K_.refl _).alloc _
   have KCA:=KD.trans KA
   refine hK.out _ _ (fun _=> HS3.out _ KCA) ?_
   clear hK K Z_
   try simp only [Act.put,upA,upB,upC]
   have Z_:=HS3.out _ KCA
   refine Qx.nx 3 (fun K hK=> ?_)
   rw [if_pos (by rfl)]
   go_simp
   go_at_call 21
   refine (HSt.out _ KCA).mono ?_
   rintro e w3 hst
   obtain ⟨ra,rc3,d,dc,rfl,hr3,hs3,k3⟩:=hst.stretch
   clear hst
   have KC3:=KCA.trans k3
   dsimp only
   refine hK.out _ _ (fun _=> HS3.out _ KC3) ?_
   clear hK K Z_
   try simp only [Act.put,upA,upB,upC]
   have Z_:=HS3.out _ KC3
   refine Qx.tk 6 Z_ ?_
   have hmd:=MadeS.box (a:=a) (cap:=cap) (Kj:=Kj) (rc:=rc3) (dc:=dc) KC3 (hbm.1.kept k3) (fun q hq=> k3.range hbm.1.lt (hbm.2 q hq)) KD.size hs3 hr3 (fun h=> by have:=h.1;have:=hbm.1.lt;omega) (Nat.le_refl _)
   clear Z_
   refine Qx.nx 7 (fun K hK=> ?_)
   rw [if_pos (by rfl)]
   go_simp
   refine hK.out _ _ (fun _=> HS3.out _ (hmd.kw)) ?_
   clear hK K
   try simp only [Act.put,upA,upB,upC]
   refine Qx.nx 8 (fun K hK=> ?_)
   rw [if_pos (by rfl)]
   go_simp
   refine hK.out _ _ (fun h=> absurd rfl h) ?_
   clear hK K
   try simp only [Act.put]
   refine Qx.dn ⟨rfl, ?_⟩
   refine ⟨.agg #[.slice a Kj.length cap],.agg #[.slice a Kj.length cap],.slice (some ⟨rb,ro,none⟩) Kk.length rc,.agg #[.slice ra Kk.length rc3,.slice d (startL Kj Kk).length dc],.int .i64 (wk:Int),.slice (some ⟨wd.heap.size,0,none⟩) wk wk,.agg #[.slice a Kj.length cap,.slice ra Kk.length rc3,.slice d (startL Kj Kk).length dc,.slice (some ⟨wd.heap.size,0,none⟩) wk wk,.slice none 0 0,.slice none 0 0,.slice none 0 0],.pointer (some ⟨w3.heap.size,0,none⟩),_,_,_,_,_,_,_,_, ?_,hmd⟩
   simp only [Act.put,List.setIfInBounds_toArray,List.set_cons_zero,List.set_cons_succ,World.size_alloc]
 clear hmk HSt
 rintro _ w5 ⟨v0,v1,v2,v3,v4,v5,v6,v7,hb,bsb,ra5,rc5,d5,dc5,lo,hi,rfl,hMd⟩
 try simp only [Act.put,upA,upB,upC]
 obtain ⟨w6,hw6⟩: ∃w6,w6=w5.alloc (.cells #[.int .i64 0,.slice none 0 0,.int .i64 0,.int .i64 0,.slice none 0 0,.slice none 0 0,.int .i64 0,.int .i64 0,.slice none 0 0] 33):= ⟨_,rfl⟩
 obtain ⟨ob,hob⟩: ∃ob,ob=w5.heap.size:= ⟨_,rfl⟩
 have k6:K_ w5 w6:=by rw [hw6];exact (K_.refl _).alloc _
 have HV6:Hid (PlanV w6 ob [.int .i64 0,.slice none 0 0,.int .i64 0,.int .i64 0,.slice none 0 0,.slice none 0 0,.int .i64 0,.int .i64 0,.slice none 0 0]):=by rw [hw6,hob];exact ⟨RowT.made w5 _ _,Xz w5 _ _,rfl⟩
 obtain ⟨c,hc⟩: ∃c:ShopC,c= ⟨Kj,Kk,wk,w2,hb,bsb,a,cap,ob⟩:= ⟨_,rfl⟩
 have hM6:ShopM c (start8 (startL Kj Kk) wk) ⟨ra5,rc5,d5,dc5,lo,hi,none,0,none,0,none,0,[]⟩ w6:=by rw [hc];exact hMd.shop k6 (Nat.le_of_eq hob.symm) HV6.out.row.lt
 have HCK:Hid (ShopK c):=by rw [hc];exact ⟨hok,hft,hweb6,web_small HW.out,⟨HY.out.1,HY.out.2.1⟩,hN.kept (HKB.out.trans K2),⟨hwk1,hwk6⟩⟩
 have HA6:Hid (ShopA c (start8 (startL Kj Kk) wk) w6):=by
  refine ⟨_,hM6, ?_,fun n _=> rfl, ?_⟩
  ·rw [hc];exact start8_live HGd.out
  ·have h1:=potL_le23 Kj (startL Kj Kk)
   rw [hc]
   show 0+60 * potL Kj (startL Kj Kk)<=90000
   omega
 have HWk:=Kz (show c.wk=wk by rw [hc])
 have HWl:=Kz (show c.Kj=Kj by rw [hc])
 have HHB:=Kz (show hb=c.hb by rw [hc])
 have HW0:=Kz (show c.w0=w2 by rw [hc])
 have HOb:=Kz (show ob=c.ob by rw [hc])
 have HCa:Hid (c.a=a∧c.cap=cap∧c.Kk=Kk):=by rw [hc];exact ⟨rfl,rfl,rfl⟩
 have HWI:Hid (WrkI Kj wk (start8 (startL Kj Kk) wk) 0 (start8 (startL Kj Kk) wk)):=WrkI.start HGd.out hweb6
 clear hM6 hMd hc
 go_upto_region 5 with fail
 rw [<-hw6,<-hob]
 clear hw6 k6 hob
 go_wp2_with fail
 go_loopg [9] 50000 (fun gk x9 wr=> ∃(n:Nat) (S:Shop) (tk:Int),x9= .int .i64 (n:Int)∧n+gk=50000∧Hid (ShopA c S wr)∧Hid (WrkI Kj wk (start8 (startL Kj Kk) wk) n S)∧Hid (PlanV wr ob [.int .i64 0,.slice none 0 0,.int .i64 tk,.int .i64 0,.slice none 0 0,.slice none 0 0,.int .i64 0,.int .i64 0,.slice none 0 0])∧Hid (n=0->tk=0))
 case atStart=> exact ⟨0,_,0,rfl,rfl,HA6,HWI,HV6,Kz (fun _=> rfl)⟩
 case round=>
  clear HA6 HWI HV6
  obtain ⟨n,S,tk,rfl,hng,HA,HW8,HV,HT0⟩:=hrel
  obtain ⟨D,hI⟩:=HA.out
  have hl:=hI.live
  rw [HWk.out,HWl.out] at hl
  have HL:=Kz hl
  have hfew:=HW8.out.bnd.few hl hwk6
  have htle:=HW8.out.tle
  have HEn:=Kz (shopEnds_any (t:= (n:Int)) HA.out HCK.out)
  rw [<-HHB.out] at HEn
  clear hI hl
  go_wp2_with fail
  refine HEn.out.mono ?_
  rintro e u1 ⟨S1,hsay,hf1,hA1,hp1⟩
  rw [HWl.out] at hf1
  have HF1:=Kz hf1
  have HA1:=Kz hA1
  have HV1:=Kz (HV.out.keeps hp1)
  clear hf1 hA1 hp1 HEn
  obtain ⟨tk2,u2,hcase⟩: ∃(tk2:Int) (u2:World),(((∃(q:Nat) (e:EffD),S.busy[q]? =some (some e)∧e.fin= (n:Int))∧tk2= (n:Int)∧u2=u1.setCell ⟨ob,2,none⟩ (.int .i64 (n:Int)))∨((¬∃(q:Nat) (e:EffD),S.busy[q]? =some (some e)∧e.fin= (n:Int))∧tk2=tk∧u2=u1)):=by
   rcases Classical.em (∃(q:Nat) (e:EffD),S.busy[q]? =some (some e)∧e.fin= (n:Int)) with h | h
   ·exact ⟨_,_,.inl ⟨h,rfl,rfl⟩⟩
   ·exact ⟨_,_,.inr ⟨h,rfl,rfl⟩⟩
  have HV2:Hid (PlanV u2 ob [.int .i64 0,.slice none 0 0,.int .i64 tk2,.int .i64 0,.slice none 0 0,.slice none 0 0,.int .i64 0,.int .i64 0,.slice none 0 0]):=by
   rcases hcase with ⟨_,e1,e2⟩ | ⟨_,e1,e2⟩
   ·rw [e1,e2];exact HV1.out.set (o:=2) (by omega) _
   ·rw [e1,e2];exact HV1.out
  have HA2:Hid (ShopA c S1 u2):=by
   obtain ⟨D1,hI1⟩:=HA1.out
   rcases hcase with ⟨_,e1,e2⟩ | ⟨_,e1,e2⟩
   ·rw [e2]
    refine ⟨D1,hI1.mem.beside (by rw [<-HOb.out];exact HV1.out.row.type) (by rw [<-HOb.out];exact But.set (S:=fun x=> x=ob) (.of_kept (K_.refl u1)) (p:= ⟨ob,2,none⟩) rfl _),hI1.live,hI1.cau,hI1.bud⟩
   ·rw [e2];exact ⟨D1,hI1⟩
  have HTk:Hid (∀S3,Tick8 (Q_ Kj) (n:Int) S S3->Idle8 S3->tk2= (n:Int)):=fun S3 ht hi=> by
   rcases hcase with ⟨_,e1,_⟩ | ⟨hn,e1,_⟩
   ·exact e1
   ·have h0:=last_tick ht HW8.out.rst hn hi
    rw [e1,HT0.out (by omega)]
    exact h0.symm
  have HT2:Hid (n=0->tk2=0):=fun h0=> by
   rcases hcase with ⟨_,e1,_⟩ | ⟨_,e1,_⟩
   ·rw [e1];omega
   ·rw [e1];exact HT0.out h0
  obtain ⟨⟨_,fa2⟩,fb2⟩:=HV1.out.row.row.at (i:=2) (by omega)
  have hol:=HV1.out.row.lt
  have HSp:=Kz (shopSpent_any HA2.out HCK.out)
  rw [<-HHB.out] at HSp
  obtain ⟨b,hbe,hb2⟩: ∃b:Bool,e= .returned (.bool b)∧((b=true∧u2=u1.setCell ⟨ob,2,none⟩ (.int .i64 (n:Int)))∨(b=false∧u2=u1)):=by
   rcases hsay.cases with ⟨e1,h1⟩ | ⟨e1,h1⟩
   ·rcases hcase with ⟨_,_,e2⟩ | ⟨hn,_,_⟩
    ·exact ⟨true,e1,.inl ⟨rfl,e2⟩⟩
    ·exact absurd h1 hn
   ·rcases hcase with ⟨hn,_,_⟩ | ⟨_,_,e2⟩
    ·exact absurd hn h1
    ·exact ⟨false,e1,.inr ⟨rfl,e2⟩⟩
  subst hbe
  clear hsay hcase HA1 HT0 HV
  go_upto_if 37 with fail
  go_cut [] from 38 to 39 (fun wx=> wx=u2)
  case first=>
   rcases hb2 with ⟨rfl,e2⟩ | ⟨rfl,e2⟩
   ·have HE2:=Kz e2
    clear e2
    go_wp2_with fail
    go_meet
    exact HE2.out.symm
   ·have HE2:=Kz e2
    clear e2
    go_wp2_with fail
    go_meet
    exact HE2.out.symm
  case rest=>
   rw [hcut]
   clear hcut hb2 fa2 fb2 hol HV1
   go_wp2_with fail
   refine HSp.out.mono ?_
   rintro e u3 ⟨rfl,S2,hs2,hA3,hp3⟩
   rw [HWl.out] at hs2
   have HF2:=Kz hs2
   have HV3:=Kz (HV2.out.keeps hp3)
   obtain ⟨hl2,hb2,he2,hk2⟩:=HW8.out.mid hok HL.out HF1.out hs2
   have hfew2:=hb2.few hl2 hwk6
   have HBg:=Kz (shopBegin_any (t:= (n:Int)) hA3 HCK.out (by rw [HWl.out];exact hs2.busy.2) ⟨by omega,by omega⟩ (by omega))
   rw [<-HHB.out] at HBg
   clear hs2 hA3 hp3 HSp hl2 hb2 he2 hk2 HA2 HV2
   go_wp2_with fail
   refine HBg.out.mono ?_
   rintro e u4 ⟨S3,hsay,hf3,hA4,hp4⟩
   rw [HWl.out] at hf3
   have HV4:=Kz (HV3.out.keeps hp4)
   have HA4:=Kz hA4
   obtain ⟨ht3,hb3,hk3,hr3,hsl3⟩:=HW8.out.tick hok hwk6 HL.out HF1.out HF2.out hf3
   have HTick:=Kz ht3
   have HB3:=Kz hb3
   have HK3:=Kz hk3
   have HR3:=Kz hr3
   have HSay:=Kz hsay
   clear ht3 hb3 hk3 hr3 hf3 hA4 hp4 HBg HV3 hsay
   rcases HSay.out.cases with ⟨rfl,hyes⟩ | ⟨rfl,hno⟩
   ·have HNx:=Kz (HW8.out.next HTick.out HB3.out HK3.out HR3.out hyes)
    clear hyes
    go_wp2_with fail
    go_roundg (gk - 1)
    case measure=> omega
    case rel=> exact ⟨n+1,S3,tk2,by go_num,by omega,HA4,HNx,HV4,Kz (fun h=> by omega)⟩
   ·have HIdle:Hid (Idle8 S3):=by
     by_cases h:Idle8 S3
     ·exact h
     ·exact absurd h hno
    have htk:tk2= (n:Int):=HTk.out S3 HTick.out HIdle.out
    rw [htk] at HV4
    obtain ⟨D3,hI8⟩:=HA4.out
    have HI8:=Kz hI8
    have hl8:=hI8.live
    rw [HWk.out,HWl.out] at hl8
    have hfew8:=HB3.out.few hl8 hwk6
    obtain ⟨w8,rfl⟩: ∃w8,w8=u4:= ⟨_,rfl⟩
    have HV8:=HV4
    have c41:=HV8.out.at' 1 _ rfl
    have c44:=hI8.mem.at.2.2.2.2.1
    rw [<-HHB.out] at c44
    have hol8:=HV8.out.row.lt
    have hbl8:hb < w8.heap.size:=by rw [HHB.out];exact hI8.mem.row.lt
    have HS11:Hid (∀u,K_ w8 u->u.cell? ⟨ob,1,none⟩=some (.slice none 0 0)∧u.cell? ⟨hb,4,none⟩=some (.slice D3.sa S3.slots.length D3.sc)):=fun u ku=> ⟨(ku.cell hol8).trans c41,(ku.cell hbl8).trans c44⟩
    clear hno hI8 hl8 c41 c44 htk
    go_wp2_with fail
    refine Qx.rg 8 HS11.out fun wd KD Z_=> ?_
    refine Qx.tk 0 Z_ ?_
    refine Qx.tk 1 Z_ ?_
    refine Qx.tk 2 Z_ ?_
    refine Qx.tk 3 Z_ ?_
    refine Qx.tk 4 Z_ ?_
    refine Qx.tk 5 Z_ ?_
    have HOld:=Kz (ownsRow_kept' HI8.out.mem.slt KD)
    have HX3:Hid (w8.heap.size<=wd.heap.size):=KD.size
    refine Qx.nx 6 (fun K hK=> ?_)
    rw [if_pos (by rfl)]
    refine wp_append_rows (.tmp 47) (.tmp 51) 28 rfl w8.heap.size 109 is (.agg #[.int .i64 0,.int .i64 0,.string ByteArray.empty]) 3 32 Tryz.underlying28 hs0 hs1 hs2 hs3 rfl (by decide) (.slice none 0 0) 0 [] rfl (World.ownsRow_nil _ _ _ _) c.w0.heap.size (.slice D3.sa S3.slots.length D3.sc) S3.slots.length (slCells S3.slots) rfl HOld.out (slCells_one _) (by unfold maxLen;omega) (by omega) HX3.out ?_
    intro v9 w9 ho9 hg9 _
    rw [Nat.zero_add,List.nil_append] at ho9
    have K9:K_ w8 w9:=kept_of_grown KD (Nat.le_refl _) (World.ownsRow_nil wd w8.heap.size 109 3) hg9
    obtain ⟨sa9,sc9,rfl⟩:=own_slice ho9
    have HO9:=Kz ho9
    clear ho9 hg9 HOld HX3
    refine hK.out _ _ (fun _=> HS11.out _ K9) ?_
    clear hK K Z_
    try simp only [Act.put,upA,upB,upC]
    have Z_:=HS11.out _ K9
    refine Qx.tk 7 Z_ ?_
    have HV9:=Kz (HV8.out.kept K9)
    obtain ⟨⟨_,fa1⟩,fb1⟩:=HV9.out.row.row.at (i:=1) (by omega)
    have hol9:=HV9.out.row.lt
    clear Z_
    refine Qx.nx 8 (fun K hK=> ?_)
    rw [if_pos (by rfl)]
    go_simp
    refine hK.out _ _ (fun h=> absurd rfl h) ?_
    clear hK K
    try simp only [Act.put,upA,upB,upC]
    refine Qx.dn ?_
    obtain ⟨wA,hwA⟩: ∃wA,wA=w9.setCell ⟨ob,1,none⟩ (.slice sa9 S3.slots.length sc9):= ⟨_,rfl⟩
    have kbA:But (fun x=> x=ob) w9 wA:=by rw [hwA];exact But.set (S:=fun x=> x=ob) (.of_kept (K_.refl w9)) (p:= ⟨ob,1,none⟩) rfl _
    have HVA:Hid (PlanV wA ob [.int .i64 0,.slice sa9 S3.slots.length sc9,.int .i64 (n:Int),.int .i64 0,.slice none 0 0,.slice none 0 0,.int .i64 0,.int .i64 0,.slice none 0 0]):=by rw [hwA];exact HV9.out.set (o:=1) (by omega) _
    have HOA:=Kz (kbA.owns HO9.out (fun x e e2=> type_ne (Yz HO9.out e) HV9.out.row.type (by decide) e2))
    have HIA:Hid (ShopI c S3 D3 wA):=by
     have h9:=HI8.out.kept K9
     exact ⟨h9.mem.beside (by rw [<-HOb.out];exact HV9.out.row.type) (by rw [<-HOb.out];exact kbA),h9.live,h9.cau,h9.bud⟩
    rw [<-hwA]
    clear hwA kbA fa1 fb1 hol9 HV9 HO9 HI8 HS11
    have hmA:=HIA.out.mem.at
    have hkA:=HIA.out.mem.kw
    rw [HW0.out] at hkA
    rw [<-HHB.out,HCa.out.2.2] at hmA
    have hblA:hb < wA.heap.size:=by rw [HHB.out];exact HIA.out.mem.row.lt
    have HS12:Hid (∀u,K_ wA u->u.cell? ⟨w.heap.size,0,none⟩=some (.slice a Kj.length cap)∧u.cell? ⟨hb,1,none⟩=some (.slice D3.ra Kk.length D3.rc)∧u.cell? ⟨hb,2,none⟩=some (.slice D3.d S3.T.length D3.dc)):=fun u ku=> ⟨(HC.out u (K2.trans (hkA.trans ku))).1,(ku.cell hblA).trans hmA.2.1,(ku.cell hblA).trans hmA.2.2.1⟩
    have HVal:Hid (Wrk8 (Q_ Kj) 0 (start8 (startL Kj Kk) wk) (n:Int) S3∧ValidX Kj Kk S3.T):=by
     have h1:=HW8.out.way _ _ (.last HTick.out HIdle.out)
     have hs:=start8_live (wk:=wk) HGd.out
     have h2:=h1.wrk hs.sane.ok (acts_paid hok) (fun q e hq=> by
      have h': (List.replicate wk (none:Option EffD))[q]? =some (some e):=hq
      rw [List.getElem?_replicate] at h'
      split at h' <;> simp at h')
     obtain ⟨h3,j,h4⟩:=h2.live hok hs
     exact ⟨h2,led_valid HW.out HY.out h3.good HGd.out.wf h4⟩
    have HTd:=Kz (fun u (ku:K_ wA u)=> l5Told_any u a cap Kj D3.ra D3.rc Kk D3.d D3.dc S3.T (by omega) HVal.out.2 (hN.kept (HKB.out.trans (K2.trans (hkA.trans ku)))) ((HIA.out.mem.kept ku).run.runs) (by have h:= (HIA.out.mem.kept ku).rts.strs;rw [HCa.out.2.2] at h;exact h))
    clear hmA
    go_wp2_with fail
    refine Qx.rg 7 HS12.out fun wd KD Z_=> ?_
    refine Qx.tk 0 Z_ ?_
    refine Qx.tk 1 Z_ ?_
    refine Qx.tk 2 Z_ ?_
    refine Qx.tk 3 Z_ ?_
    refine Qx.tk 4 Z_ ?_
    refine Qx.nx 5 (fun K hK=> ?_)
    rw [if_pos (by rfl)]
    go_simp
    go_at_call 25
    refine (HTd.out _ KD).mono ?_
    rintro e wB ⟨o,xa,xf,xc,xe,rfl,hAns,hRs,hCh,kB⟩
    have KB:=KD.trans kB
    have HAns:=Kz hAns
    have HRs:=Kz hRs
    have HCh:=Kz hCh
    clear kB hAns hRs hCh KD
    dsimp only
    refine hK.out _ _ (fun _=> HS12.out _ KB) ?_
    clear hK K Z_
    try simp only [Act.put,upA,upB,upC]
    have Z_:=HS12.out _ KB
    refine Qx.tk 6 Z_ ?_
    have HVB:=Kz (HVA.out.kept KB)
    have HTh:Hid (wB.there ob 3 5):=HVB.out.row.row.there (o:=3) (m:=5) (by omega)
    clear Z_
    refine Qx.nx 7 (fun K hK=> ?_)
    rw [if_pos (by rfl)]
    refine wp_store_mid 31 _ _ rfl ob 3 #[.int .i64 o.code,.slice xa o.res.length xc,.slice xf o.chain.length xe,.int .i64 o.units,.int .i64 o.cost] (by rfl) (by rfl) HTh.out (by kernel_rfl) (five_one ..) ?_
    refine hK.out _ _ (fun h=> absurd rfl h) ?_
    clear hK K
    try simp only [Act.put,upA,upB,upC]
    refine Qx.dn ?_
    obtain ⟨wC,hwC⟩: ∃wC,wC=wB.setCells ob 3 [.int .i64 o.code,.slice xa o.res.length xc,.slice xf o.chain.length xe,.int .i64 o.units,.int .i64 o.cost]:= ⟨_,rfl⟩
    have kbC:But (fun x=> x=ob) wB wC:=by rw [hwC];exact But.setCells (S:=fun x=> x=ob) rfl _ _ (.of_kept (K_.refl wB))
    have HVC:Hid (PlanV wC ob [.int .i64 0,.slice sa9 S3.slots.length sc9,.int .i64 (n:Int),.int .i64 o.code,.slice xa o.res.length xc,.slice xf o.chain.length xe,.int .i64 o.units,.int .i64 o.cost,.slice none 0 0]):=by
     rw [hwC]
     exact ((((HVB.out.set (o:=3) (by omega) _).set (o:=4) (by omega) _).set (o:=5) (by omega) _).set (o:=6) (by omega) _).set (o:=7) (by omega) _
    have HNoS:Hid (NoStr wB ob):=HVB.out.noStr (fun u hu s e=> by
     simp only [List.mem_cons,List.not_mem_nil,or_false] at hu
     rcases hu with rfl | rfl | rfl | rfl | rfl | rfl | rfl | rfl | rfl <;> cases e)
    have HRC:=Kz (ress_no HRs.out HNoS.out kbC)
    have HFC:=Kz (strs_no HCh.out HNoS.out kbC)
    have HOC:=Kz (kbC.owns (ownsRow_kept' HOA.out KB) (fun x e e2=> type_ne (Yz (ownsRow_kept' HOA.out KB) e) HVB.out.row.type (by decide) e2))
    have HIC:Hid (ShopI c S3 D3 wC):=by
     have h9:=HIA.out.kept KB
     exact ⟨h9.mem.beside (by rw [<-HOb.out];exact HVB.out.row.type) (by rw [<-HOb.out];exact kbC),h9.live,h9.cau,h9.bud⟩
    have hwC2:World.setCells wB ob 3 (Array.toList #[.int .i64 o.code,.slice xa o.res.length xc,.slice xf o.chain.length xe,.int .i64 o.units,.int .i64 o.cost])=wC:=hwC.symm
    rw [hwC2]
    clear hwC hwC2 kbC HTh HVB HNoS HRs HCh HOA HIA HS12 HTd HVA
    have c2:=HVC.out.at' 2 _ rfl
    have holC:=HVC.out.row.lt
    have HChn:=Kz (shopChain_any (t:= (n:Int)) HIC.out HCK.out (by omega) (by rw [HWl.out];exact HK3.out))
    rw [<-HHB.out] at HChn
    go_wp2_with fail
    refine HChn.out.mono ?_
    rintro e wD ⟨ca,cc,ch,p,rfl,hfe,hch,hchl,hoD,kD⟩
    have hkC:=HIC.out.mem.kw
    rw [HW0.out] at hkC
    have hobw:=HIC.out.mem.obw
    rw [HW0.out,<-HOb.out] at hobw
    have HVD:=Kz (HVC.out.kept kD)
    obtain ⟨wE,hwE⟩: ∃wE,wE=wD.setCell ⟨ob,8,none⟩ (.slice ca ch.length cc):= ⟨_,rfl⟩
    have kbE:But (fun x=> x=ob) wD wE:=by rw [hwE];exact But.set (S:=fun x=> x=ob) (.of_kept (K_.refl wD)) (p:= ⟨ob,8,none⟩) rfl _
    have HVE:Hid (PlanV wE ob [.int .i64 0,.slice sa9 S3.slots.length sc9,.int .i64 (n:Int),.int .i64 o.code,.slice xa o.res.length xc,.slice xf o.chain.length xe,.int .i64 o.units,.int .i64 o.cost,.slice ca ch.length cc]):=by rw [hwE];exact HVD.out.set (o:=8) (by omega) _
    have HKE:Hid (K_ w2 wE):=by rw [hwE];exact (hkC.trans kD).setCell hobw _
    have HND:Hid (NoStr wD ob):=HVD.out.noStr (fun u hu s e=> by
     simp only [List.mem_cons,List.not_mem_nil,or_false] at hu
     rcases hu with rfl | rfl | rfl | rfl | rfl | rfl | rfl | rfl | rfl <;> cases e)
    have HRE:=Kz (ress_no (HRC.out.kept kD) HND.out kbE)
    have HFE:=Kz (strs_no (HFC.out.kept kD) HND.out kbE)
    have HOE:=Kz (kbE.owns (ownsRow_kept' HOC.out kD) (fun x e e2=> type_ne (Yz (ownsRow_kept' HOC.out kD) e) HVD.out.row.type (by decide) e2))
    have HCE:=Kz (kbE.owns hoD (fun x e e2=> type_ne (Yz hoD e) HVD.out.row.type (by decide) e2))
    have HVR:=Kz (HRes.out.kept (K2.trans HKE.out))
    have HEnd:Hid (PlanAns Kj Kk (wk:Int) ⟨0,S3.slots,(n:Int),o,ch⟩):=by
     refine ⟨⟨by show S3.slots.length<=3000;omega,HAns.out.1.1,HAns.out.1.2,by show ch.length<=3000;omega⟩,.inl ⟨⟨HW.out,HY.out,by omega,by omega⟩,rfl,S3.T, ?_,HAns.out⟩⟩
     rw [Int.toNat_natCast]
     exact ⟨S3,p,HVal.out.1,rfl,rfl,by rw [HWl.out] at hfe;exact hfe,hch⟩
    obtain ⟨⟨_,fa8⟩,fb8⟩:=HVD.out.row.row.at (i:=8) (by omega)
    have holD:=HVD.out.row.lt
    clear hfe hch hchl hoD hkC hobw kbE c2 holC HChn
    go_upto_region 14 with fail
    rw [<-hwE]
    clear hwE fa8 fb8 holD kD HVD HND
    have e0:=HVE.out.at' 0 _ rfl
    have e1:=HVE.out.at' 1 _ rfl
    have e2:=HVE.out.at' 2 _ rfl
    have e3:=HVE.out.at' 3 _ rfl
    have e4:=HVE.out.at' 4 _ rfl
    have e5:=HVE.out.at' 5 _ rfl
    have e6:=HVE.out.at' 6 _ rfl
    have e7:=HVE.out.at' 7 _ rfl
    have e8:=HVE.out.at' 8 _ rfl
    have holE:=HVE.out.row.lt
    have hRr:=HVR.out.row
    obtain ⟨⟨_,fa0⟩,fb0⟩:=hRr.row.at (i:=0) (by omega)
    obtain ⟨⟨_,fa1⟩,fb1⟩:=hRr.row.at (i:=1) (by omega)
    obtain ⟨⟨_,fa2⟩,fb2⟩:=hRr.row.at (i:=2) (by omega)
    obtain ⟨⟨_,fa3⟩,fb3⟩:=hRr.row.at (i:=3) (by omega)
    obtain ⟨⟨_,fa4⟩,fb4⟩:=hRr.row.at (i:=4) (by omega)
    obtain ⟨⟨_,fa5⟩,fb5⟩:=hRr.row.at (i:=5) (by omega)
    obtain ⟨⟨_,fa6⟩,fb6⟩:=hRr.row.at (i:=6) (by omega)
    obtain ⟨⟨_,fa7⟩,fb7⟩:=hRr.row.at (i:=7) (by omega)
    obtain ⟨⟨_,fa8⟩,fb8⟩:=hRr.row.at (i:=8) (by omega)
    have hrz:=hRr.lt
    clear hRr
    go_wp2_with fail
    have hX:=World.rangeAt_setCells_same wE (w.heap.size+1) 0 [.int .i64 0,.slice sa9 S3.slots.length sc9,.int .i64 (n:Int),.int .i64 o.code,.slice xa o.res.length xc,.slice xf o.chain.length xe,.int .i64 o.units,.int .i64 o.cost,.slice ca ch.length cc] (HVR.out.row.row.there (o:=0) (m:=9) (Nat.le_refl _))
    have kbF:But (fun x=> x=w.heap.size+1) wE (wE.setCells (w.heap.size+1) 0 [.int .i64 0,.slice sa9 S3.slots.length sc9,.int .i64 (n:Int),.int .i64 o.code,.slice xa o.res.length xc,.slice xf o.chain.length xe,.int .i64 o.units,.int .i64 o.cost,.slice ca ch.length cc]):=But.setCells (S:=fun x=> x=w.heap.size+1) rfl _ _ (.of_kept (K_.refl wE))
    have hNE:NoStr wE (w.heap.size+1):=HVR.out.noStr (fun u hu s e=> by
     simp only [List.mem_cons,List.not_mem_nil,or_false] at hu
     rcases hu with rfl | rfl | rfl | rfl | rfl | rfl | rfl | rfl | rfl <;> cases e)
    refine X_ [.int .i64 0,.slice sa9 S3.slots.length sc9,.int .i64 (n:Int),.int .i64 o.code,.slice xa o.res.length xc,.slice xf o.chain.length xe,.int .i64 o.units,.int .i64 o.cost,.slice ca ch.length cc] _ Tryz.results6 rfl hX Tryz.underlying33 rfl Tryz.sizePlanX rfl ⟨⟨0,S3.slots,(n:Int),o,ch⟩,sa9,xa,xf,ca,sc9,xc,xe,cc,rfl,HEnd.out,⟨?_,ress_no HRE.out hNE kbF,strs_no HFE.out hNE kbF, ?_⟩,kept_sets (g:=w.heap.size+1) (by omega) [.int .i64 0,.slice sa9 S3.slots.length sc9,.int .i64 (n:Int),.int .i64 o.code,.slice xa o.res.length xc,.slice xf o.chain.length xe,.int .i64 o.units,.int .i64 o.cost,.slice ca ch.length cc] 0 (HKB.out.trans (K2.trans HKE.out))⟩
    ·exact (owned_slts (kbF.owns HOE.out (fun x e e2=> type_ne (Yz HOE.out e) HVR.out.row.type (by decide) e2))).2
    ·exact (owned_slts (kbF.owns HCE.out (fun x e e2=> type_ne (Yz HCE.out e) HVR.out.row.type (by decide) e2))).2
