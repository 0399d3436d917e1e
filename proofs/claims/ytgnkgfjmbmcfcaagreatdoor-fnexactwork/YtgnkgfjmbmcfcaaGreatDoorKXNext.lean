import Derived.Test.YtgnkgfjmbmcfcaaGreatDoorKXWant0
import Derived.Laws.AppendOwnNone
set_option maxRecDepth 100000
set_option maxHeartbeats 25600000
namespace Go.Proofs.YtgnkgfjmbmcfcaaGreatDoor
open Go.RowKit
theorem next_old (w0 w:World) (kW:K_ w0 w) (a:Option Addr) (cap:Nat) (Kj:List Qq) (ra:Option Addr) (rn rc:Nat) (d:Option Addr) (dc:Nat) (l:List Qz) (r:Qz) (xa:Option Addr) (xc:Nat) (hwl:Kj.length<=1048576) (hll:l.length<=1048576) (hsz:SmallAsks Kj) (hok:ActsOk (Q_ Kj)) (hft: ∀y∈Kj,y.Fits)
  (hgd:r.Good Kj) (hge:GoodEnv Kj (Qj l)) (hcg:CanGo (Q_ Kj) (Qj l) r) (hN:Nodes w0 a Kj) (hS:RunsX w d l) (hT:Strs w0 xa r.texts) (hX:xa=none->xc=0):
  Calls Tryz.prog 140 #[.agg #[.slice a Kj.length cap],.agg #[.slice ra rn rc,.slice d l.length dc],.agg #[.string r.name,.bool r.over,.bool r.fail,.string r.text,.int .i64 r.at',.int .i64 r.Zj,.slice xa r.texts.length xc]] w fun e w'=> NextSaid w0.heap.size (w.heap.size+2) (Q_ Kj) (Qj l) r w' e∧K_ w w':=by
 have HXn:=Kz hX
 clear hX
 obtain ⟨A,hA,ha0,ha1⟩:=hgd.act
 obtain ⟨k,hk,hkn,hkf,rfl⟩:=acts_first hA
 obtain ⟨y,hy⟩: ∃y,y=Kj.getD k Qq.zero:= ⟨_,rfl⟩
 rw [<-hy] at hA hkn ha1
 dsimp only at ha1
 obtain ⟨WB,hWB⟩: ∃WB,WB= (((w.alloc (.cells #[.slice a Kj.length cap] 37)).alloc (.cells #[.slice ra rn rc,.slice d l.length dc] 53)).alloc (.cells #[.string r.name,.bool r.over,.bool r.fail,.string r.text,.int .i64 r.at',.int .i64 r.Zj,.slice xa r.texts.length xc] 103)).alloc (.cells #[.string ⟨#[]⟩,.bool false,.bool false,.string ⟨#[]⟩,.int .i64 0,.int .i64 0,.slice none 0 0] 103):= ⟨_,rfl⟩
 have kB:K_ w WB:=by rw [hWB];exact ((((K_.refl _).alloc _).alloc _).alloc _).alloc _
 have hBs:WB.heap.size=w.heap.size+4:=by rw [hWB];simp
 have b0:WB.cell? ⟨w.heap.size,0,none⟩=some (.slice a Kj.length cap):=by rw [hWB,K_.cell (w:=w.alloc (.cells #[.slice a Kj.length cap] 37)) ((((K_.refl _).alloc _).alloc _).alloc _) (by simp)];exact Xz w _ _ 0 _ rfl
 have s0:WB.cell? ⟨w.heap.size+1,0,none⟩=some (.slice ra rn rc):=by have:=Xz (w.alloc (.cells #[.slice a Kj.length cap] 37)) #[.slice ra rn rc,.slice d l.length dc] 53 0 _ rfl;rw [World.size_alloc] at this;rw [hWB,K_.cell (w:= (w.alloc (.cells #[.slice a Kj.length cap] 37)).alloc (.cells #[.slice ra rn rc,.slice d l.length dc] 53)) (((K_.refl _).alloc _).alloc _) (by simp)];exact this
 have s1:WB.cell? ⟨w.heap.size+1,1,none⟩=some (.slice d l.length dc):=by have:=Xz (w.alloc (.cells #[.slice a Kj.length cap] 37)) #[.slice ra rn rc,.slice d l.length dc] 53 1 _ rfl;rw [World.size_alloc] at this;rw [hWB,K_.cell (w:= (w.alloc (.cells #[.slice a Kj.length cap] 37)).alloc (.cells #[.slice ra rn rc,.slice d l.length dc] 53)) (((K_.refl _).alloc _).alloc _) (by simp)];exact this
 have hbox:RBox WB (w.heap.size+2) r xa xc:=by
  have h1:=RowT.made ((w.alloc (.cells #[.slice a Kj.length cap] 37)).alloc (.cells #[.slice ra rn rc,.slice d l.length dc] 53)) #[.string r.name,.bool r.over,.bool r.fail,.string r.text,.int .i64 r.at',.int .i64 r.Zj,.slice xa r.texts.length xc] 103
  have h2:=Xz ((w.alloc (.cells #[.slice a Kj.length cap] 37)).alloc (.cells #[.slice ra rn rc,.slice d l.length dc] 53)) #[.string r.name,.bool r.over,.bool r.fail,.string r.text,.int .i64 r.at',.int .i64 r.Zj,.slice xa r.texts.length xc] 103
  simp only [World.size_alloc] at h1 h2
  have h3:RBox (((w.alloc (.cells #[.slice a Kj.length cap] 37)).alloc (.cells #[.slice ra rn rc,.slice d l.length dc] 53)).alloc (.cells #[.string r.name,.bool r.over,.bool r.fail,.string r.text,.int .i64 r.at',.int .i64 r.Zj,.slice xa r.texts.length xc] 103)) (w.heap.size+2) r xa xc:= ⟨h1,h2⟩
  rw [hWB]
  exact h3.kept ((K_.refl _).alloc _)
 have hres:RowT WB (w.heap.size+2+1) 103 7:=by
  have h1:=RowT.made (((w.alloc (.cells #[.slice a Kj.length cap] 37)).alloc (.cells #[.slice ra rn rc,.slice d l.length dc] 53)).alloc (.cells #[.string r.name,.bool r.over,.bool r.fail,.string r.text,.int .i64 r.at',.int .i64 r.Zj,.slice xa r.texts.length xc] 103)) #[.string ⟨#[]⟩,.bool false,.bool false,.string ⟨#[]⟩,.int .i64 0,.int .i64 0,.slice none 0 0] 103
  simp only [World.size_alloc] at h1
  rw [hWB]
  exact h1
 have z0:w.heap.size < WB.heap.size:=by omega
 have z1:w.heap.size+1 < WB.heap.size:=by omega
 have HKB:=Kz kB
 have HBox:=Kz hbox
 have HRes:=Kz hres
 have HBs:=Kz hBs
 clear kB hbox hres
 have hNB:= (hN.kept kW).kept HKB.out
 have HKW:=Kz kW
 have KB0:=kW.trans HKB.out
 have z0w:=kW.size
 clear kW
 obtain ⟨nb,nq,cs,e1,hnb0,hcs,na,nc,rfl,hSt⟩:=hN k hk
 rw [<-hy] at hcs hSt
 have hnb:nb < WB.heap.size:=Nat.lt_of_lt_of_le hnb0 KB0.size
 have n1:= (KB0.cell hnb0).trans (hcs 1 _ rfl)
 have n2:= (KB0.cell hnb0).trans (hcs 2 _ rfl)
 subst e1
 have HNB:=Kz hNB
 have HStw:=Kz hSt
 have HSt:=Kz (Steps.kept hSt KB0)
 have HTx:Hid (StrsA w0.heap.size WB (w.heap.size+2) xa r.texts):=StrsA.old hT KB0 (Nat.le_refl _)
 obtain ⟨r0,_,_,_,_,_,_⟩:=HBox.out.all
 have rz:=HBox.out.row.lt
 have HY:=Kz hy
 have HAct:=Kz hA
 clear hcs hSt hNB hy hA
 go_enter Tryz.func140,Tryz.ntmps140
 go_upto_region 1 with fail
 rw [<-hWB]
 clear hWB
 go_cut [8] from 13 to 21 (fun s8 wx=> ∃ab,s8= .pointer (some ⟨ab,0,none⟩)∧K_ WB wx∧NSt w0.heap.size w wx ab y.cost na y.steps.length nc r xa xc)
 case first=>
  have Zz:Hid (∀w',K_ WB w'->w'.cell? ⟨w.heap.size,0,none⟩=some (.slice (some ⟨nb,nq,none⟩) Kj.length cap)∧w'.cell? ⟨w.heap.size+2,0,none⟩=some (.string r.name)∧w'.cell? ⟨nb,nq+k * 3+1,none⟩=some (.int .i64 y.cost)∧w'.cell? ⟨nb,nq+k * 3+2,none⟩=some (.slice na y.steps.length nc)):=fun w' K=> ⟨(K.cell z0).trans b0,(K.cell rz).trans r0,(K.cell hnb).trans n1,(K.cell hnb).trans n2⟩
  have hki: (k:Int) < (Kj.length:Int):=by omega
  refine Qx.rg 10 Zz.out fun wd KD Z_=> ?_
  refine Qx.tk 0 Z_ ?_
  refine Qx.tk 1 Z_ ?_
  refine Qx.tk 2 Z_ ?_
  refine Qx.tk 3 Z_ ?_
  refine Qx.tk 4 Z_ ?_
  refine Qx.tw 5 9 (fun K hK=> ?_) (fun K hK=> ?_)
  ·rw [if_pos (by rfl)]
   go_simp
   go_at_call 55
   refine (l2At_place wd (some ⟨nb,nq,none⟩) cap Kj r.name hwl (HNB.out.kept KD)).mono ?_
   rintro e w2 ⟨⟨q,rfl,hq⟩,k2⟩
   have K2:=KD.trans k2
   obtain rfl:q= (k:Int):=by
    rcases hq with ⟨k',_,e',_,h1,h2⟩ | ⟨_,h1⟩
    ·rw [e',first_unique (by rw [<-HY.out];exact hkn) hkf h1 h2]
    ·rw [HAct.out] at h1;cases h1
   clear hq
   dsimp only
   refine hK.out _ _ (fun _=> Zz.out _ K2) ?_
   clear hK K
   try simp only [Act.put,upA,upB,upC]
   clear Z_
   have Z_:=Zz.out _ K2
   refine Qx.tk 6 Z_ ?_
   refine Qx.tk 7 Z_ ?_
   refine Qx.tk 8 Z_ ?_
   refine Qx.nx 9 (fun K hK=> ?_)
   go_simp
   have K3:K_ w2 (w2.alloc (.cells #[.int .i64 0,.slice none 0 0] 88)):= (K_.refl _).alloc _
   refine hK.out _ _ (fun _=> Zz.out _ (K2.trans K3)) ?_
   clear hK K
   try simp only [Act.put,upA,upB,upC]
   have hRw:RowT (w2.alloc (.cells #[.int .i64 0,.slice none 0 0] 88)) w2.heap.size 88 2:=RowT.made w2 _ _
   have KE:=K2.trans K3
   generalize hwe:w2.alloc (.cells #[.int .i64 0,.slice none 0 0] 88)=wE at hRw KE⊢
   clear hwe K3
   obtain ⟨⟨_,v0⟩,f0⟩:=hRw.row.at (i:=0) (by omega)
   obtain ⟨⟨_,v1⟩,f1⟩:=hRw.row.at (i:=1) (by omega)
   have vz:=hRw.lt
   refine Qx.nx 10 (fun K hK=> ?_)
   go_simp
   refine hK.out _ _ (fun h=> absurd rfl h) ?_
   clear hK K
   try simp only [Act.put,upA,upB,upC]
   refine Qx.dn ?_
   go_wp2_with fail
   go_meet
   exact ⟨w2.heap.size,rfl,NSt.made HKB.out HBs.out KE HBox.out HRes.out z0w HTx.out HXn.out K2.size hRw⟩
  ·rw [if_pos (by rfl)]
   go_simp
   have K3:K_ wd (wd.alloc (.cells #[.int .i64 0,.slice none 0 0] 88)):= (K_.refl _).alloc _
   have K3b:=KD.trans K3
   refine hK.out _ _ (fun _=> Zz.out _ K3b) ?_
   clear hK K
   try simp only [Act.put,upA,upB,upC]
   refine Qx.nx 5 (fun K hK=> ?_)
   rw [if_pos (by rfl)]
   go_simp
   go_at_call 55
   refine (l2At_place (wd.alloc (.cells #[.int .i64 0,.slice none 0 0] 88)) (some ⟨nb,nq,none⟩) cap Kj r.name hwl (HNB.out.kept K3b)).mono ?_
   rintro e w2 ⟨⟨q,rfl,hq⟩,k2⟩
   have K2:=K3b.trans k2
   obtain rfl:q= (k:Int):=by
    rcases hq with ⟨k',_,e',_,h1,h2⟩ | ⟨_,h1⟩
    ·rw [e',first_unique (by rw [<-HY.out];exact hkn) hkf h1 h2]
    ·rw [HAct.out] at h1;cases h1
   clear hq
   dsimp only
   refine hK.out _ _ (fun _=> Zz.out _ K2) ?_
   clear hK K
   try simp only [Act.put,upA,upB,upC]
   clear Z_
   have Z_:=Zz.out _ K2
   refine Qx.tk 6 Z_ ?_
   refine Qx.tk 7 Z_ ?_
   refine Qx.tk 8 Z_ ?_
   have hRw:RowT w2 wd.heap.size 88 2:= (RowT.made wd #[.int .i64 0,.slice none 0 0] 88).kept k2
   obtain ⟨⟨_,v0⟩,f0⟩:=hRw.row.at (i:=0) (by omega)
   obtain ⟨⟨_,v1⟩,f1⟩:=hRw.row.at (i:=1) (by omega)
   have vz:=hRw.lt
   refine Qx.nx 10 (fun K hK=> ?_)
   go_simp
   refine hK.out _ _ (fun h=> absurd rfl h) ?_
   clear hK K
   try simp only [Act.put,upA,upB,upC]
   refine Qx.dn ?_
   go_wp2_with fail
   go_meet
   exact ⟨wd.heap.size,rfl,NSt.made HKB.out HBs.out K2 HBox.out HRes.out z0w HTx.out HXn.out KD.size hRw⟩
 case rest=>
  obtain ⟨ab,rfl,Kx,hst⟩:=hcut
  have HN0:=Kz hst
  clear hst r0 rz n1 n2
  have lo:=hgd.lo
  have hi20:=hgd.hi
  have tl:=hgd.tl
  obtain ⟨q0,q1,q2,q3,q4,q5,q6⟩:=HN0.out.box.all
  have qz:=HN0.out.box.row.lt
  go_upto_if 24 with fail
  go_cut [9,10,11] from 24 to 74 (fun _ _ _ wx=> ∃(r1:Qz) (xa1:Option Addr) (xc1:Nat),NSt w0.heap.size w wx ab y.cost na y.steps.length nc r1 xa1 xc1∧Y_ (Q_ Kj) (Qj l) r=arrive ⟨y.cost,y.steps⟩ r1∧0<=r1.at'∧r1.at' < y.steps.length∧0<=r1.Zj∧r1.Zj < 20∧r1.texts.length<=200∧∀t∈r1.texts,t.size<=200)
  case first=>
   by_cases hv:r.Zj=0
   ·have hv0: ¬(0:Int) < r.Zj:=by omega
    have HV:=Kz hv
    clear hv
    go_wp2_with fail
    go_meet
    exact ⟨r,xa,xc,HN0.out,(by unfold Y_;rw [HAct.out];simp [HV.out]),ha0,ha1,lo,by omega,by omega,hgd.ts⟩
   ·have hvp: (0:Int) < r.Zj:=by omega
    have hv20:=hi20
    obtain ⟨ix,hix⟩: ∃ix:Nat,r.at'= (ix:Int):= ⟨r.at'.toNat,by omega⟩
    have hixl:ix < y.steps.length:=by omega
    have hii: (ix:Int) < (y.steps.length:Int):=by omega
    obtain ⟨tb,tq,cs2,rfl,htb,hcs2,aa,ca,ac,cc,rfl,hAs,hCs,_⟩:= (Steps.kept HSt.out Kx) ix hixl
    obtain ⟨s,hs⟩: ∃s,s=y.steps.getD ix Xj.zero:= ⟨_,rfl⟩
    rw [<-hs] at hcs2 hAs hCs
    have t0:=hcs2 0 _ rfl
    have t1:=hcs2 1 _ rfl
    have t2:=hcs2 2 _ rfl
    have t3:=hcs2 3 _ rfl
    have t4:=hcs2 4 _ rfl
    have t5:=hcs2 5 _ rfl
    have t6:=hcs2 6 _ rfl
    have t7:=hcs2 7 _ rfl
    rw [Nat.add_zero] at t0
    have hsm:s∈y.steps:=by rw [hs];simp [List.getD,hixl]
    have hym:y∈Kj:=by rw [HY.out];simp [List.getD,hk]
    have hal:= (hsz y hym s hsm).1
    have has:= (hsz y hym s hsm).2
    have hfy:=hft y hym
    have HStep:Hid (stepOf ⟨y.cost,y.steps⟩ r.at'=s):=by show _=_;unfold stepOf;rw [hix,hs];rfl
    obtain ⟨xs,HXs⟩: ∃xs,Hid (Yq (Q_ Kj) (Qj l) s.asks=some xs):=by
     rcases hcg.2 with e | ⟨A',xs,h1,h2⟩
     ·exact absurd e hv
     ·rw [HAct.out] at h1;cases h1;rw [HStep.out] at h2;exact ⟨xs,h2⟩
    have m0:= (Kx.cell z0).trans b0
    have m1:= (Kx.cell z1).trans s0
    have m2:= (Kx.cell z1).trans s1
    have y0:=Nat.lt_of_lt_of_le z0 Kx.size
    have y1:=Nat.lt_of_lt_of_le z1 Kx.size
    have p1:=HN0.out.a1
    have pz:=HN0.out.abz
    rw [hix] at q4
    have HAs:=Kz hAs
    have HIx:=Kz hix
    have HHs:=Kz hs
    clear hcs2 hAs hCs hs hix
    have HSO3:Hid (∀w',K_ wc w'->w'.cell? ⟨w.heap.size,0,none⟩=some (.slice (some ⟨nb,nq,none⟩) Kj.length cap)∧w'.cell? ⟨w.heap.size+1,0,none⟩=some (.slice ra rn rc)∧w'.cell? ⟨w.heap.size+1,1,none⟩=some (.slice d l.length dc)∧w'.cell? ⟨ab,1,none⟩=some (.slice (some ⟨tb,tq,none⟩) y.steps.length nc)∧w'.cell? ⟨w.heap.size+2,4,none⟩=some (.int .i64 (ix:Int))∧w'.cell? ⟨tb,tq+ix * 8,none⟩=some (.slice aa s.asks.length ca)∧w'.cell? ⟨tb,tq+ix * 8+1,none⟩=some (.int .i64 s.on)∧w'.cell? ⟨tb,tq+ix * 8+2,none⟩=some (.slice ac s.cases.length cc)∧w'.cell? ⟨tb,tq+ix * 8+3,none⟩=some (.int .i64 s.els)∧w'.cell? ⟨tb,tq+ix * 8+4,none⟩=some (.int .i64 s.fall)∧w'.cell? ⟨tb,tq+ix * 8+5,none⟩=some (.bool s.fin)∧w'.cell? ⟨tb,tq+ix * 8+6,none⟩=some (.bool s.bad)∧w'.cell? ⟨tb,tq+ix * 8+7,none⟩=some (.string s.give)):=fun w' K=> ⟨(K.cell y0).trans m0,(K.cell y1).trans m1,(K.cell y1).trans m2,(K.cell pz).trans p1,(K.cell qz).trans q4,(K.cell htb).trans t0,(K.cell htb).trans t1,(K.cell htb).trans t2,(K.cell htb).trans t3,(K.cell htb).trans t4,(K.cell htb).trans t5,(K.cell htb).trans t6,(K.cell htb).trans t7⟩
    go_upto_region 3 with fail
    refine Qx.rk 14 HSO3.out ((K_.refl wc).drew) (fun Z_=> ?_)
    have KD:K_ wc wc.drew:= (K_.refl wc).drew
    generalize hwd:wc.drew=wd at Z_ KD⊢
    clear hwd m0 m1 m2 t0 t1 t2 t3 t4 t5 t6 t7 p1 q0 q1 q2 q3 q4 q5 q6
    refine Qx.tk 0 Z_ ?_
    refine Qx.tk 1 Z_ ?_
    refine Qx.tk 3 Z_ ?_
    refine Qx.tk 4 Z_ ?_
    refine Qx.tk 5 Z_ ?_
    refine Qx.tk 6 Z_ ?_
    refine Qx.tk 7 Z_ ?_
    refine Qx.tk 8 Z_ ?_
    refine Qx.nx 2 (fun K hK=> ?_)
    rw [if_pos (by rfl)]
    go_simp
    go_at_call 56
    refine (l4Known_any wd (some ⟨nb,nq,none⟩) Kj.length cap ra rn rc d l.length dc).mono ?_
    rintro e w1 ⟨kb,rfl,hK1,k1⟩
    have K1:=KD.trans k1
    have HK1:=Kz hK1
    clear hK1 k1
    dsimp only
    refine hK.out _ _ (fun _=> HSO3.out _ K1) ?_
    clear hK K
    try simp only [Act.put,upA,upB,upC]
    clear Z_
    refine Qx.nx 9 (fun K hK=> ?_)
    rw [if_pos (by rfl)]
    go_simp
    go_at_call 141
    refine (answers_any w1 kb (some ⟨nb,nq,none⟩) cap Kj d dc l s aa ac ca cc hwl hll hal has HK1.out (HNB.out.kept (Kx.trans K1)) (hS.kept (HKB.out.trans (Kx.trans K1))) (HAs.out.kept K1)).mono ?_
    rintro e w3 ⟨⟨d3,n3,c3,ok,rfl,hyes,hno⟩,k3⟩
    have K3:=K1.trans k3
    clear k3
    obtain rfl:ok=true:=by cases ok with | true=> rfl | false=> rw [hno rfl] at HXs;cases HXs.out
    obtain ⟨xs2,hx2,rfl,hAn⟩:=hyes rfl
    obtain rfl:xs=xs2:=Option.some.inj (HXs.out.symm.trans hx2)
    have HAn:=Kz hAn
    clear hyes hno hx2 hAn
    dsimp only
    refine hK.out _ _ (fun _=> HSO3.out _ K3) ?_
    clear hK K
    try simp only [Act.put,upA,upB,upC]
    refine Qx.nx 10 (fun K hK=> ?_)
    go_simp
    refine hK.out _ _ (fun _=> HSO3.out _ K3) ?_
    clear hK K
    try simp only [Act.put,upA,upB,upC]
    have Z_:=HSO3.out _ K3
    refine Qx.tk 11 Z_ ?_
    refine Qx.tk 12 Z_ ?_
    refine Qx.nx 13 (fun K hK=> ?_)
    go_simp
    refine hK.out _ _ (fun _=> HSO3.out _ K3) ?_
    clear hK K
    try simp only [Act.put,upA,upB,upC]
    refine Qx.nx 14 (fun K hK=> ?_)
    go_simp
    refine hK.out _ _ (fun h=> absurd rfl h) ?_
    clear hK K
    try simp only [Act.put,upA,upB,upC]
    refine Qx.dn ?_
    have HN3:=Kz (HN0.out.kept K3)
    clear Z_ HSO3 KD K1 HK1
    by_cases h20:r.Zj=20
    ·have e20: (r.Zj == 20)=true:=by simp [h20]
     have H20:=Kz h20
     clear h20
     obtain ⟨q0,q1,q2,q3,q4,q5,q6⟩:=HN3.out.box.all
     have qz:=HN3.out.box.row.lt
     go_upto_region 5 with fail
     clear q0 q1 q2 q3 q4 q5 q6 qz
     obtain ⟨q0,q1,q2,q3,q4,q5,q6⟩:=HN3.out.box.all
     have qz:=HN3.out.box.row.lt
     obtain ⟨_,g1⟩:=HN3.out.box.row.row.at (i:=1) (by omega)
     go_upto_region 6 with fail
     have HN4:Hid (NSt w0.heap.size w (w3.setCell ⟨w.heap.size+2,1,none⟩ (.bool true)) ab y.cost (some ⟨tb,tq,none⟩) y.steps.length nc ({ r with over:=true }) xa xc):=HN3.out.put (by omega) rfl rfl
     generalize hgw:w3.setCell ⟨w.heap.size+2,1,none⟩ (.bool true)=w4 at HN4  ⊢
     clear hgw
     clear q0 q1 q2 q3 q4 q5 q6 qz
     clear g1
     obtain ⟨q0,q1,q2,q3,q4,q5,q6⟩:=HN4.out.box.all
     have qz:=HN4.out.box.row.lt
     obtain ⟨_,g2⟩:=HN4.out.box.row.row.at (i:=2) (by omega)
     go_upto_region 7 with fail
     have HN5:Hid (NSt w0.heap.size w (w4.setCell ⟨w.heap.size+2,2,none⟩ (.bool true)) ab y.cost (some ⟨tb,tq,none⟩) y.steps.length nc ({ r with over:=true,fail:=true }) xa xc):=HN4.out.put (by omega) rfl rfl
     generalize hgw:w4.setCell ⟨w.heap.size+2,2,none⟩ (.bool true)=w5 at HN5  ⊢
     clear hgw
     clear q0 q1 q2 q3 q4 q5 q6 qz
     clear g2
     obtain ⟨q0,q1,q2,q3,q4,q5,q6⟩:=HN5.out.box.all
     have qz:=HN5.out.box.row.lt
     obtain ⟨_,g3⟩:=HN5.out.box.row.row.at (i:=3) (by omega)
     go_upto_region 8 with fail
     have HN6:Hid (NSt w0.heap.size w (w5.setCell ⟨w.heap.size+2,3,none⟩ (.string ⟨#[115,112,101,110,116]⟩)) ab y.cost (some ⟨tb,tq,none⟩) y.steps.length nc ({ r with over:=true,fail:=true,text:=spentB }) xa xc):=HN5.out.put (by omega) rfl rfl
     generalize hgw:w5.setCell ⟨w.heap.size+2,3,none⟩ (.string ⟨#[115,112,101,110,116]⟩)=w6 at HN6  ⊢
     clear hgw
     clear q0 q1 q2 q3 q4 q5 q6 qz
     clear g3
     obtain ⟨cs,hcs⟩: ∃cs,cs=Qz.cells ({ r with over:=true,fail:=true,text:=spentB }) xa xc:= ⟨_,rfl⟩
     have hlen:cs.length=7:=by rw [hcs];rfl
     have HOne:Hid (cs.toArray.all (·.oneCell')=true):=by show _=_;rw [hcs];exact all_oneCell_toArray (by simp [Qz.cells,Value.oneCell'])
     have HRg:Hid (w6.rangeAt (w.heap.size+2) 0 cs):=by show World.rangeAt _ _ _ _;rw [hcs];exact HN6.out.box.rng
     have qz:=HN6.out.box.row.lt
     have HSZ:Hid ((Tryz.prog.info? 103).map (·.size)=some cs.toArray.size):=by show _=_;rw [Tryz.xSizeRun];simp [hlen]
     have HSZ2:Hid ((Tryz.prog.info? 103).map (·.size)=some cs.length):=by show _=_;rw [Tryz.xSizeRun,hlen]
     have HNa:=Kz (HN6.out.kept ((K_.refl w6).alloc (.cells #[] 9)))
     have HTh:Hid ((w6.alloc (.cells #[] 9)).there (w.heap.size+3) 0 cs.toArray.size):=by show World.there _ _ _ _;simpa [hlen] using HNa.out.res.row.there (o:=0) (m:=7) (Nat.le_refl _)
     have HCs:=Kz hcs
     have HLen:=Kz hlen
     clear hcs hlen
     go_wp2_with (first | (refine wpList_load_mid rfl 103 _ rfl (w.heap.size+2) 0 rfl cs _ HRg.out Tryz.underlying103 rfl HSZ2.out ?_) | (refine wpList_store_mid rfl 103 _ _ rfl (w.heap.size+3) 0 cs.toArray rfl rfl HTh.out HSZ.out HOne.out ?_;rw [List.toList_toArray]))
     have hR:=World.rangeAt_setCells_same (w6.alloc (.cells #[] 9)) (w.heap.size+3) 0 cs (by have:=HTh.out;simpa using this)
     refine bodyPost_ret_c2 cs _ _ Tryz.results140 rfl hR Tryz.underlying103 rfl HSZ2.out rfl rfl ?_
     have hce:=HCs.out
     subst hce
     exact HNa.out.ends (by unfold Y_;rw [HAct.out];simp only;rw [if_neg hv,HStep.out,HXs.out];simp [H20.out]) (asks:=[]) (fun i hi=> by simp at hi) rfl rfl
    ·have e20: (r.Zj == 20)=false:=by simpa using h20
     have hAok:= (hok _ _ HAct.out).1
     obtain ⟨hal5,han⟩:=asks_ok hAok ha0 ha1
     rw [HStep.out] at hal5 han
     have han2: ∀n∈s.asks,n.size<=20:=fun n hn=> (han n hn).2.1
     obtain ⟨hAns,hxt⟩:=answers_ok hge han2 HXs.out
     have hxl5:xs.length<=5:=by rw [hAns.1];exact hal5
     have HW:Hid (WentOn y.cost y.steps r.at' xs (goOnF s xs)):= .inr ⟨⟨hAok,⟨ha0,ha1⟩,hgd.stp _ HAct.out hcg.1 hv⟩,by have e:stepAt y.steps r.at'=s:=HStep.out;rw [e];exact goOnF_followed hAns⟩
     have HXt:=Kz hxt
     have HAok:=Kz hAok
     clear hxt hAok han han2 hAns
     have hxl2:xs.length<=maxLen:=by unfold maxLen;omega
     have hxs2: ∀c∈xs,c.text.size<=maxLen:=fun c hc=> by have:=HXt.out c hc;unfold maxLen;omega
     have p0:=HN3.out.a0
     have p1:=HN3.out.a1
     have pz3:=HN3.out.abz
     obtain ⟨q0,q1,q2,q3,q4,q5,q6⟩:=HN3.out.box.all
     have qz:=HN3.out.box.row.lt
     go_wp2_with fail
     refine (specGoOn_any _ y.cost r.at' (some ⟨tb,tq,none⟩) d3 nc c3 y.steps xs hfy.steps hfy.each (Steps.kept HSt.out (Kx.trans K3)) hxl2 hxs2 HAn.out).mono ?_
     rintro e w5 ⟨⟨G,rfl,hG⟩,k5⟩
     have hGe:G=goOnF s xs:=hG.unique HW.out
     obtain ⟨gc,go,gt,gx⟩:=G
     have HGe:=Kz hGe
     have hcells: (GoneD.mk gc go gt gx).cells.toArray= #[.int .i64 gc,.bool go,.int .i64 gt,.string gx]:=rfl
     rw [hcells]
     clear hcells hG hGe
     have k6:K_ w5 (w5.alloc (.cells #[.int .i64 gc,.bool go,.int .i64 gt,.string gx] 244)):= (K_.refl _).alloc _
     have K6:=k5.trans k6
     have HN6:=Kz (HN3.out.kept K6)
     have e1:=Xz w5 #[.int .i64 gc,.bool go,.int .i64 gt,.string gx] 244 1 _ rfl
     have e2:=Xz w5 #[.int .i64 gc,.bool go,.int .i64 gt,.string gx] 244 2 _ rfl
     have e3:=Xz w5 #[.int .i64 gc,.bool go,.int .i64 gt,.string gx] 244 3 _ rfl
     simp only [Nat.zero_add] at e1 e2 e3
     have e3z:w5.heap.size < (w5.alloc (.cells #[.int .i64 gc,.bool go,.int .i64 gt,.string gx] 244)).heap.size:=by simp
     have hgne:w5.heap.size≠w.heap.size+2:=by have:= (HN3.out.kept k5).box.row.lt;omega
     have HAn6:=Kz (HAn.out.kept K6)
     clear q0 q1 q2 q3 q4 q5 q6 qz
     clear p0 p1 pz3 k5 k6 hxl2 hxs2 HAn
     cases go
     ·go_upto_region 16 with fail
      generalize hgw:w5.alloc (.cells #[.int .i64 gc,.bool false,.int .i64 gt,.string gx] 244)=w6 at HN6 HAn6 e1 e2 e3 e3z K6⊢
      clear hgw e1 e3 K6
      have hb6:w.heap.size+4<=w6.heap.size:=by have:=HN6.out.abl;have:=HN6.out.abz;omega
      have hg2:= (HW.out.goodX).1
      rw [<-HGe.out] at hg2
      have hgc:gc=0:=by have h2:=goOnF_code s xs;rw [<-HGe.out] at h2;exact h2
      obtain ⟨hgt0,hgt1⟩:=hg2 hgc rfl
      dsimp only at hgt0 hgt1
      clear hg2 hgc
      have kE:K_ w6 (w6.alloc (.cells #[] 9)):= (K_.refl _).alloc _
      have HOE:Hid ((w6.alloc (.cells #[] 9)).ownsRow w6.heap.size 9 1 (.slice (some ⟨w6.heap.size,0,none⟩) 0 0) 0 (([]:List ByteArray).map Value.string)):=World.ownsRow_made w6 #[] 0 (Nat.le_refl _) (Nat.zero_le _) rfl
      have htl:r.texts.length<=100:=by omega
      have hgl:=goodOf_len xs
      have hT6:=HN6.out.txt
      have HKE:=Kz kE
      obtain ⟨ic,hc0,hc1,hc2,hc3⟩:=xInfo_parts Tryz.xInfoStr
      clear kE
      obtain ⟨q0,q1,q2,q3,q4,q5,q6⟩:=HN6.out.box.all
      have qz:=HN6.out.box.row.lt
      obtain ⟨_,g6⟩:=HN6.out.box.row.row.at (i:=6) (by omega)
      rcases (show xa=none∨∃ad,xa=some ad from by cases xa with | none=> exact .inl rfl | some x=> exact .inr ⟨x,rfl⟩) with rfl | ⟨ad,rfl⟩
      ·have h0:r.texts=[]:=by
        cases htx:r.texts with
        | nil=> rfl
        | cons t ts=> exfalso;obtain ⟨b,o,e,_⟩:=hT6 0 (by rw [htx];simp);cases e
       have hxc:=HXn.out rfl
       have q6':w6.cell? ⟨w.heap.size+2,6,none⟩=some (.slice none 0 0):=by rw [q6,h0,hxc];rfl
       have H0:=Kz h0
       clear q6 h0 hxc
       have q6:=q6'
       clear q6'
       go_wp2_with (at_builtin;refine wpList_append_own_none _ rfl (.tmp 64) (.tmp 66) 25 rfl w6.heap.size 9 ic 1 Tryz.underlying25 hc0 (.slice (some ⟨w6.heap.size,0,none⟩) 0 0) 0 [] rfl HOE.out rfl ?_)
       have KP8:=HKE.out
       have HO8:=HOE
       generalize hw8:w6.alloc (.cells #[] 9)=w8 at KP8 HO8⊢
       clear hw8
       refine (good_any w8 d3 c3 xs (by omega) (HAn6.out.kept KP8)).mono ?_
       rintro e w9 ⟨⟨g9,c9,rfl,hG9⟩,k9⟩
       have KP9:=KP8.trans k9
       have HO9:=Kz (ownsRow_kept' HO8.out k9)
       have HNw9:Hid (∀j u,((goodOf xs).map Value.string)[j]? =some u->w9.cell? ((⟨g9,0,none⟩:Addr).add j)=some u):=fun j u hu=> by
        have hj:j < (goodOf xs).length:=by have:= (List.getElem?_eq_some_iff.1 hu).1;simpa using this
        obtain ⟨b,o,e,_,hc⟩:=hG9 j hj
        simp only [Option.some.injEq,Addr.mk.injEq,and_true] at e
        obtain ⟨rfl,rfl⟩:=e
        rw [Addr.add_mid,hc]
        simp [hj] at hu
        simp [List.getD,hj,hu]
       have HOne9:Hid (∀u∈(goodOf xs).map Value.string,u.oneCell'=true):=fun u hu=> by obtain ⟨x,_,rfl⟩:=List.mem_map.1 hu;rfl
       have hz9:=KP9.size
       clear k9 hG9
       clear q0 q1 q2 q3 q4 q5 q6 qz
       clear g6
       go_upto_region 17 with (at_builtin;refine wpList_append_own _ rfl (.tmp 67) (.tmp 69) 25 rfl w6.heap.size 9 ic _ 1 16 Tryz.underlying25 hc0 hc1 hc2 hc3 rfl (by decide) (.slice (some ⟨w6.heap.size,0,none⟩) 0 0) 0 (([]:List ByteArray).map Value.string) rfl HO9.out ⟨g9,0,none⟩ (goodOf xs).length c9 ((goodOf xs).map Value.string) rfl (by simp) HNw9.out HOne9.out (by unfold maxLen;omega) (by omega) hz9 ?_;intro v2 w10 hown2 hgr _;have KP10:=kept_of_grown KP9 (Nat.le_refl _) HO9.out hgr;have HO10:=Kz hown2;obtain ⟨av2,cv2,rfl⟩:=own_slice hown2;have HN10:=Kz (HN6.out.kept KP10);have q6b:=HN10.out.box.all.2.2.2.2.2.2;have qzb:=HN10.out.box.row.lt;obtain ⟨_,g6b⟩:=HN10.out.box.row.row.at (i:=6) (by omega);clear hown2 hgr)
       have hO:w10.ownsRow w6.heap.size 9 1 (.slice av2 ((goodOf xs).length) cv2) ((goodOf xs).length) ((([]:List ByteArray)++goodOf xs).map Value.string):=by have h:=HO10.out;simpa using h
       obtain ⟨av3,cv3,ev,hA3,hn3⟩:=StrsA.owned (n0:=w0.heap.size) (c:=w.heap.size+2) hO (by omega)
       simp only [Value.slice.injEq] at ev
       obtain ⟨rfl,hlen,rfl⟩:=ev
       have HN11:Hid (NSt w0.heap.size w (w10.setCell ⟨w.heap.size+2,6,none⟩ (.slice av2 ((goodOf xs).length) cv2)) ab y.cost (some ⟨tb,tq,none⟩) y.steps.length nc { r with texts:=r.texts++goodOf xs } av2 cv2):=HN10.out.putT (by omega) (by simp [Qz.cells,H0.out]) (by rw [show ({ r with texts:=r.texts++goodOf xs }:Qz).texts=[]++goodOf xs by simp [H0.out]];exact hA3) hn3
       have e2b: (w10.setCell ⟨w.heap.size+2,6,none⟩ (.slice av2 ((goodOf xs).length) cv2)).cell? ⟨w5.heap.size,2,none⟩=some (.int .i64 gt):=by rw [Zk hgne,KP10.cell e3z];exact e2
       have e2z:w5.heap.size < (w10.setCell ⟨w.heap.size+2,6,none⟩ (.slice av2 ((goodOf xs).length) cv2)).heap.size:=by rw [size_setCell];exact Nat.lt_of_lt_of_le e3z KP10.size
       generalize hgw:w10.setCell ⟨w.heap.size+2,6,none⟩ (.slice av2 ((goodOf xs).length) cv2)=w11 at HN11 e2b e2z⊢
       clear hgw q6b qzb g6b hO hA3 hn3 hlen e2 e3z
       obtain ⟨q0,q1,q2,q3,q4,q5,q6⟩:=HN11.out.box.all
       have qz:=HN11.out.box.row.lt
       obtain ⟨_,g4⟩:=HN11.out.box.row.row.at (i:=4) (by omega)
       go_wp2_with fail
       go_meet
       refine ⟨{ r with texts:=r.texts++goodOf xs,at':=gt },av2,cv2,HN11.out.put (by omega) rfl rfl,(by unfold Y_;rw [HAct.out];simp only;rw [if_neg hv,HStep.out,HXs.out];simp only;rw [if_neg h20,<-HGe.out,if_neg (by simp)]),hgt0,hgt1,lo,(by show r.Zj < 20;omega),(by show (r.texts++goodOf xs).length<=200;rw [List.length_append];omega),fun t ht=> ?_⟩
       rcases List.mem_append.1 ht with ht | ht
       ·exact hgd.ts t ht
       ·obtain ⟨x,hx,rfl⟩:=goodOf_mem ht
        exact HXt.out x hx
      ·have HNws:Hid (∀j u,(r.texts.map Value.string)[j]? =some u->(w6.alloc (.cells #[] 9)).cell? (ad.add j)=some u):=fun j u hu=> by
        have hj:j < r.texts.length:=by have:= (List.getElem?_eq_some_iff.1 hu).1;simpa using this
        obtain ⟨b,o,e,hb,_,hc⟩:=hT6 j hj
        simp only [Option.some.injEq] at e
        subst e
        rw [Addr.add_mid,HKE.out.cell hb,hc]
        simp [hj] at hu
        simp [List.getD,hj,hu]
       have HOnes:Hid (∀u∈r.texts.map Value.string,u.oneCell'=true):=fun u hu=> by obtain ⟨x,_,rfl⟩:=List.mem_map.1 hu;rfl
       have hbs:w6.heap.size<=(w6.alloc (.cells #[] 9)).heap.size:=HKE.out.size
       go_wp2_with (at_builtin;refine wpList_append_own _ rfl (.tmp 64) (.tmp 66) 25 rfl w6.heap.size 9 ic _ 1 16 Tryz.underlying25 hc0 hc1 hc2 hc3 rfl (by decide) (.slice (some ⟨w6.heap.size,0,none⟩) 0 0) 0 [] rfl HOE.out ad r.texts.length xc (r.texts.map Value.string) rfl (by simp) HNws.out HOnes.out (by unfold maxLen;omega) (by omega) hbs ?_;intro v1 w8 hown1 hgr1 _;rw [Nat.zero_add,List.nil_append] at hown1;have KP8:=kept_of_grown HKE.out (Nat.le_refl _) HOE.out hgr1;have HO8:=Kz hown1;obtain ⟨av1,cv1,rfl⟩:=own_slice hown1;clear hown1 hgr1)
       refine (good_any w8 d3 c3 xs (by omega) (HAn6.out.kept KP8)).mono ?_
       rintro e w9 ⟨⟨g9,c9,rfl,hG9⟩,k9⟩
       have KP9:=KP8.trans k9
       have HO9:=Kz (ownsRow_kept' HO8.out k9)
       have HNw9:Hid (∀j u,((goodOf xs).map Value.string)[j]? =some u->w9.cell? ((⟨g9,0,none⟩:Addr).add j)=some u):=fun j u hu=> by
        have hj:j < (goodOf xs).length:=by have:= (List.getElem?_eq_some_iff.1 hu).1;simpa using this
        obtain ⟨b,o,e,_,hc⟩:=hG9 j hj
        simp only [Option.some.injEq,Addr.mk.injEq,and_true] at e
        obtain ⟨rfl,rfl⟩:=e
        rw [Addr.add_mid,hc]
        simp [hj] at hu
        simp [List.getD,hj,hu]
       have HOne9:Hid (∀u∈(goodOf xs).map Value.string,u.oneCell'=true):=fun u hu=> by obtain ⟨x,_,rfl⟩:=List.mem_map.1 hu;rfl
       have hz9:=KP9.size
       clear k9 hG9
       clear q0 q1 q2 q3 q4 q5 q6 qz
       clear g6
       go_upto_region 17 with (at_builtin;refine wpList_append_own _ rfl (.tmp 67) (.tmp 69) 25 rfl w6.heap.size 9 ic _ 1 16 Tryz.underlying25 hc0 hc1 hc2 hc3 rfl (by decide) (.slice av1 r.texts.length cv1) r.texts.length (r.texts.map Value.string) rfl HO9.out ⟨g9,0,none⟩ (goodOf xs).length c9 ((goodOf xs).map Value.string) rfl (by simp) HNw9.out HOne9.out (by unfold maxLen;omega) (by omega) hz9 ?_;intro v2 w10 hown2 hgr _;have KP10:=kept_of_grown KP9 (Nat.le_refl _) HO9.out hgr;have HO10:=Kz hown2;obtain ⟨av2,cv2,rfl⟩:=own_slice hown2;have HN10:=Kz (HN6.out.kept KP10);have q6b:=HN10.out.box.all.2.2.2.2.2.2;have qzb:=HN10.out.box.row.lt;obtain ⟨_,g6b⟩:=HN10.out.box.row.row.at (i:=6) (by omega);clear hown2 hgr)
       have hO:w10.ownsRow w6.heap.size 9 1 (.slice av2 (r.texts.length+ (goodOf xs).length) cv2) (r.texts.length+ (goodOf xs).length) ((r.texts++goodOf xs).map Value.string):=by rw [List.map_append];exact HO10.out
       obtain ⟨av3,cv3,ev,hA3,hn3⟩:=StrsA.owned (n0:=w0.heap.size) (c:=w.heap.size+2) hO (by omega)
       simp only [Value.slice.injEq] at ev
       obtain ⟨rfl,hlen,rfl⟩:=ev
       have HN11:Hid (NSt w0.heap.size w (w10.setCell ⟨w.heap.size+2,6,none⟩ (.slice av2 (r.texts.length+ (goodOf xs).length) cv2)) ab y.cost (some ⟨tb,tq,none⟩) y.steps.length nc { r with texts:=r.texts++goodOf xs } av2 cv2):=HN10.out.putT (by omega) (by simp [Qz.cells]) (hA3) hn3
       have e2b: (w10.setCell ⟨w.heap.size+2,6,none⟩ (.slice av2 (r.texts.length+ (goodOf xs).length) cv2)).cell? ⟨w5.heap.size,2,none⟩=some (.int .i64 gt):=by rw [Zk hgne,KP10.cell e3z];exact e2
       have e2z:w5.heap.size < (w10.setCell ⟨w.heap.size+2,6,none⟩ (.slice av2 (r.texts.length+ (goodOf xs).length) cv2)).heap.size:=by rw [size_setCell];exact Nat.lt_of_lt_of_le e3z KP10.size
       generalize hgw:w10.setCell ⟨w.heap.size+2,6,none⟩ (.slice av2 (r.texts.length+ (goodOf xs).length) cv2)=w11 at HN11 e2b e2z⊢
       clear hgw q6b qzb g6b hO hA3 hn3 hlen e2 e3z
       obtain ⟨q0,q1,q2,q3,q4,q5,q6⟩:=HN11.out.box.all
       have qz:=HN11.out.box.row.lt
       obtain ⟨_,g4⟩:=HN11.out.box.row.row.at (i:=4) (by omega)
       go_wp2_with fail
       go_meet
       refine ⟨{ r with texts:=r.texts++goodOf xs,at':=gt },av2,cv2,HN11.out.put (by omega) rfl rfl,(by unfold Y_;rw [HAct.out];simp only;rw [if_neg hv,HStep.out,HXs.out];simp only;rw [if_neg h20,<-HGe.out,if_neg (by simp)]),hgt0,hgt1,lo,(by show r.Zj < 20;omega),(by show (r.texts++goodOf xs).length<=200;rw [List.length_append];omega),fun t ht=> ?_⟩
       rcases List.mem_append.1 ht with ht | ht
       ·exact hgd.ts t ht
       ·obtain ⟨x,hx,rfl⟩:=goodOf_mem ht
        exact HXt.out x hx
     ·go_upto_region 11 with fail
      generalize hgw:w5.alloc (.cells #[.int .i64 gc,.bool true,.int .i64 gt,.string gx] 244)=w6 at HN6 HAn6 e1 e2 e3 e3z K6⊢
      clear hgw e1 e2 HAn6 K6
      obtain ⟨q0,q1,q2,q3,q4,q5,q6⟩:=HN6.out.box.all
      have qz:=HN6.out.box.row.lt
      obtain ⟨_,g5⟩:=HN6.out.box.row.row.at (i:=5) (by omega)
      go_upto_region 12 with fail
      have HN7:Hid (NSt w0.heap.size w (w6.setCell ⟨w.heap.size+2,5,none⟩ (.int .i64 (r.Zj+1))) ab y.cost (some ⟨tb,tq,none⟩) y.steps.length nc ({ r with Zj:=r.Zj+1 }) xa xc):=HN6.out.put (by omega) rfl rfl
      have e32: (w6.setCell ⟨w.heap.size+2,5,none⟩ (.int .i64 (r.Zj+1))).cell? ⟨w5.heap.size,3,none⟩=some (.string gx):=by rw [Zk hgne];exact e3
      have e3z2:w5.heap.size < (w6.setCell ⟨w.heap.size+2,5,none⟩ (.int .i64 (r.Zj+1))).heap.size:=by rw [size_setCell];exact e3z
      generalize hgw:w6.setCell ⟨w.heap.size+2,5,none⟩ (.int .i64 (r.Zj+1))=w7 at HN7 e32 e3z2⊢
      clear hgw
      clear q0 q1 q2 q3 q4 q5 q6 qz
      clear g5
      clear e3 e3z
      have e3:=e32
      have e3z:=e3z2
      clear e32 e3z2
      obtain ⟨q0,q1,q2,q3,q4,q5,q6⟩:=HN7.out.box.all
      have qz:=HN7.out.box.row.lt
      obtain ⟨_,g1⟩:=HN7.out.box.row.row.at (i:=1) (by omega)
      go_upto_region 13 with fail
      have HN8:Hid (NSt w0.heap.size w (w7.setCell ⟨w.heap.size+2,1,none⟩ (.bool true)) ab y.cost (some ⟨tb,tq,none⟩) y.steps.length nc ({ r with Zj:=r.Zj+1,over:=true }) xa xc):=HN7.out.put (by omega) rfl rfl
      have e32: (w7.setCell ⟨w.heap.size+2,1,none⟩ (.bool true)).cell? ⟨w5.heap.size,3,none⟩=some (.string gx):=by rw [Zk hgne];exact e3
      have e3z2:w5.heap.size < (w7.setCell ⟨w.heap.size+2,1,none⟩ (.bool true)).heap.size:=by rw [size_setCell];exact e3z
      generalize hgw:w7.setCell ⟨w.heap.size+2,1,none⟩ (.bool true)=w8 at HN8 e32 e3z2⊢
      clear hgw
      clear q0 q1 q2 q3 q4 q5 q6 qz
      clear g1
      clear e3 e3z
      have e3:=e32
      have e3z:=e3z2
      clear e32 e3z2
      obtain ⟨q0,q1,q2,q3,q4,q5,q6⟩:=HN8.out.box.all
      have qz:=HN8.out.box.row.lt
      obtain ⟨_,g2⟩:=HN8.out.box.row.row.at (i:=2) (by omega)
      go_upto_region 14 with fail
      have HN9:Hid (NSt w0.heap.size w (w8.setCell ⟨w.heap.size+2,2,none⟩ (.bool true)) ab y.cost (some ⟨tb,tq,none⟩) y.steps.length nc ({ r with Zj:=r.Zj+1,over:=true,fail:=true }) xa xc):=HN8.out.put (by omega) rfl rfl
      have e32: (w8.setCell ⟨w.heap.size+2,2,none⟩ (.bool true)).cell? ⟨w5.heap.size,3,none⟩=some (.string gx):=by rw [Zk hgne];exact e3
      have e3z2:w5.heap.size < (w8.setCell ⟨w.heap.size+2,2,none⟩ (.bool true)).heap.size:=by rw [size_setCell];exact e3z
      generalize hgw:w8.setCell ⟨w.heap.size+2,2,none⟩ (.bool true)=w9 at HN9 e32 e3z2⊢
      clear hgw
      clear q0 q1 q2 q3 q4 q5 q6 qz
      clear g2
      clear e3 e3z
      have e3:=e32
      have e3z:=e3z2
      clear e32 e3z2
      obtain ⟨q0,q1,q2,q3,q4,q5,q6⟩:=HN9.out.box.all
      have qz:=HN9.out.box.row.lt
      obtain ⟨_,g3⟩:=HN9.out.box.row.row.at (i:=3) (by omega)
      go_upto_region 15 with fail
      have HN10:Hid (NSt w0.heap.size w (w9.setCell ⟨w.heap.size+2,3,none⟩ (.string gx)) ab y.cost (some ⟨tb,tq,none⟩) y.steps.length nc ({ r with Zj:=r.Zj+1,over:=true,fail:=true,text:=gx }) xa xc):=HN9.out.put (by omega) rfl rfl
      have e32: (w9.setCell ⟨w.heap.size+2,3,none⟩ (.string gx)).cell? ⟨w5.heap.size,3,none⟩=some (.string gx):=by rw [Zk hgne];exact e3
      have e3z2:w5.heap.size < (w9.setCell ⟨w.heap.size+2,3,none⟩ (.string gx)).heap.size:=by rw [size_setCell];exact e3z
      generalize hgw:w9.setCell ⟨w.heap.size+2,3,none⟩ (.string gx)=w10 at HN10 e32 e3z2⊢
      clear hgw
      clear q0 q1 q2 q3 q4 q5 q6 qz
      clear g3
      clear e3 e3z
      have e3:=e32
      have e3z:=e3z2
      clear e32 e3z2
      obtain ⟨cs,hcs⟩: ∃cs,cs=Qz.cells ({ r with Zj:=r.Zj+1,over:=true,fail:=true,text:=gx }) xa xc:= ⟨_,rfl⟩
      have hlen:cs.length=7:=by rw [hcs];rfl
      have HOne:Hid (cs.toArray.all (·.oneCell')=true):=by show _=_;rw [hcs];exact all_oneCell_toArray (by simp [Qz.cells,Value.oneCell'])
      have HRg:Hid (w10.rangeAt (w.heap.size+2) 0 cs):=by show World.rangeAt _ _ _ _;rw [hcs];exact HN10.out.box.rng
      have qz:=HN10.out.box.row.lt
      have HSZ:Hid ((Tryz.prog.info? 103).map (·.size)=some cs.toArray.size):=by show _=_;rw [Tryz.xSizeRun];simp [hlen]
      have HSZ2:Hid ((Tryz.prog.info? 103).map (·.size)=some cs.length):=by show _=_;rw [Tryz.xSizeRun,hlen]
      have HNa:=Kz (HN10.out.kept ((K_.refl w10).alloc (.cells #[] 9)))
      have HTh:Hid ((w10.alloc (.cells #[] 9)).there (w.heap.size+3) 0 cs.toArray.size):=by show World.there _ _ _ _;simpa [hlen] using HNa.out.res.row.there (o:=0) (m:=7) (Nat.le_refl _)
      have HCs:=Kz hcs
      have HLen:=Kz hlen
      clear hcs hlen
      go_wp2_with (first | (refine wpList_load_mid rfl 103 _ rfl (w.heap.size+2) 0 rfl cs _ HRg.out Tryz.underlying103 rfl HSZ2.out ?_) | (refine wpList_store_mid rfl 103 _ _ rfl (w.heap.size+3) 0 cs.toArray rfl rfl HTh.out HSZ.out HOne.out ?_;rw [List.toList_toArray]))
      have hR:=World.rangeAt_setCells_same (w10.alloc (.cells #[] 9)) (w.heap.size+3) 0 cs (by have:=HTh.out;simpa using this)
      refine bodyPost_ret_c2 cs _ _ Tryz.results140 rfl hR Tryz.underlying103 rfl HSZ2.out rfl rfl ?_
      have hce:=HCs.out
      subst hce
      exact HNa.out.ends (by unfold Y_;rw [HAct.out];simp only;rw [if_neg hv,HStep.out,HXs.out];simp only;rw [if_neg h20,<-HGe.out,if_pos rfl]) (asks:=[]) (fun i hi=> by simp at hi) rfl rfl
  case rest=>
   clear q0 q1 q2 q3 q4 q5 q6 qz HN0 hcg hge lo hi20 tl ha0 ha1
   obtain ⟨r1,xa1,xc1,hst1,hnx,hb0,hb1,hv0,hv1,htl1,hts1⟩:=hcut
   have HM:=Kz hst1
   have HNx:=Kz hnx
   have HTs:=Kz hts1
   clear hst1 hnx hts1
   obtain ⟨wM,rfl⟩: ∃wM,wM=wc:= ⟨_,rfl⟩
   go_upto_region 18 with fail
   obtain ⟨q0,q1,q2,q3,q4,q5,q6⟩:=HM.out.box.all
   have qz:=HM.out.box.row.lt
   obtain ⟨_,g5⟩:=HM.out.box.row.row.at (i:=5) (by omega)
   go_upto_region 19 with fail
   have HM2:Hid (NSt w0.heap.size w (wM.setCell ⟨w.heap.size+2,5,none⟩ (.int .i64 (r1.Zj+1))) ab y.cost na y.steps.length nc ({ r1 with Zj:=r1.Zj+1 }) xa1 xc1):=HM.out.put (by omega) rfl rfl
   generalize hgw:wM.setCell ⟨w.heap.size+2,5,none⟩ (.int .i64 (r1.Zj+1))=wP at HM2  ⊢
   clear hgw
   clear q0 q1 q2 q3 q4 q5 q6 qz
   clear g5
   obtain ⟨ix,hix⟩: ∃ix:Nat,r1.at'= (ix:Int):= ⟨r1.at'.toNat,by omega⟩
   have hixl:ix < y.steps.length:=by omega
   have hii: (ix:Int) < (y.steps.length:Int):=by omega
   obtain ⟨tb,tq,cs2,rfl,htb,hcs2,aa,ca,ac,cc,rfl,hAs,_,_⟩:= (Steps.kept HStw.out (HKW.out.trans HM2.out.kw)) ix hixl
   obtain ⟨s,hs⟩: ∃s,s=y.steps.getD ix Xj.zero:= ⟨_,rfl⟩
   rw [<-hs] at hcs2 hAs
   have t0:=hcs2 0 _ rfl
   have t1:=hcs2 1 _ rfl
   have t2:=hcs2 2 _ rfl
   have t3:=hcs2 3 _ rfl
   have t4:=hcs2 4 _ rfl
   have t5:=hcs2 5 _ rfl
   have t6:=hcs2 6 _ rfl
   have t7:=hcs2 7 _ rfl
   rw [Nat.add_zero] at t0
   have HAs0:Hid (Strs w0 aa s.asks):=by
    obtain ⟨tb2,tq2,cs3,e3,_,hr3,aa3,ca3,ac3,cc3,rfl,hA3,_⟩:=HStw.out ix hixl
    simp only [Option.some.injEq,Addr.mk.injEq,and_true] at e3
    obtain ⟨rfl,rfl⟩:=e3
    rw [<-hs] at hr3 hA3
    have h1:= ((HKW.out.trans HM2.out.kw).cell (by assumption)).trans (hr3 0 _ rfl)
    rw [Nat.add_zero,t0] at h1
    simp only [Option.some.injEq,Value.slice.injEq] at h1
    obtain ⟨rfl,_,_⟩:=h1
    exact hA3
   have HStep:Hid (stepOf ⟨y.cost,y.steps⟩ r1.at'=s):=by show _=_;unfold stepOf;rw [hix,hs];rfl
   have hsm:s∈y.steps:=by rw [hs];simp [List.getD,hixl]
   have hym:y∈Kj:=by rw [HY.out];simp [List.getD,hk]
   have hfs:= (hft y hym).each s hsm
   have hal:= (hsz y hym s hsm).1
   have p1:=HM2.out.a1
   have pz:=HM2.out.abz
   obtain ⟨q0,q1,q2,q3,q4,q5,q6⟩:=HM2.out.box.all
   have qz:=HM2.out.box.row.lt
   dsimp only at q4
   rw [hix] at q4
   clear hcs2 hAs hs hix
   go_upto_region 20 with fail
   have kS:K_ wP (wP.alloc (.cells #[.slice aa s.asks.length ca,.int .i64 s.on,.slice ac s.cases.length cc,.int .i64 s.els,.int .i64 s.fall,.bool s.fin,.bool s.bad,.string s.give] 172)):= (K_.refl _).alloc _
   have HM3:=Kz (HM2.out.kept kS)
   have v0:=Xz wP #[.slice aa s.asks.length ca,.int .i64 s.on,.slice ac s.cases.length cc,.int .i64 s.els,.int .i64 s.fall,.bool s.fin,.bool s.bad,.string s.give] 172 0 _ rfl
   have v5:=Xz wP #[.slice aa s.asks.length ca,.int .i64 s.on,.slice ac s.cases.length cc,.int .i64 s.els,.int .i64 s.fall,.bool s.fin,.bool s.bad,.string s.give] 172 5 _ rfl
   have v6:=Xz wP #[.slice aa s.asks.length ca,.int .i64 s.on,.slice ac s.cases.length cc,.int .i64 s.els,.int .i64 s.fall,.bool s.fin,.bool s.bad,.string s.give] 172 6 _ rfl
   have v7:=Xz wP #[.slice aa s.asks.length ca,.int .i64 s.on,.slice ac s.cases.length cc,.int .i64 s.els,.int .i64 s.fall,.bool s.fin,.bool s.bad,.string s.give] 172 7 _ rfl
   simp only [Nat.zero_add] at v0 v5 v6 v7
   have v0z:wP.heap.size < (wP.alloc (.cells #[.slice aa s.asks.length ca,.int .i64 s.on,.slice ac s.cases.length cc,.int .i64 s.els,.int .i64 s.fall,.bool s.fin,.bool s.bad,.string s.give] 172)).heap.size:=by simp
   have hsv:wP.heap.size≠w.heap.size+2:=by omega
   have hsv3:wP.heap.size≠w.heap.size+3:=by have:=HM2.out.res.lt;omega
   generalize hgw:wP.alloc (.cells #[.slice aa s.asks.length ca,.int .i64 s.on,.slice ac s.cases.length cc,.int .i64 s.els,.int .i64 s.fall,.bool s.fin,.bool s.bad,.string s.give] 172)=wQ at HM3 v0 v5 v6 v7 v0z⊢
   clear hgw kS t0 t1 t2 t3 t4 t5 t6 t7 p1 pz
   clear q0 q1 q2 q3 q4 q5 q6 qz
   have v6z:=v0z
   have v7z:=v0z
   cases hfin:s.fin
   ·rw [hfin] at v5
    obtain ⟨q0,q1,q2,q3,q4,q5,q6⟩:=HM3.out.box.all
    have hne2:w.heap.size+2≠w.heap.size+3:=by omega
    have HSO4:Hid (∀w',K_ wQ w'->w'.cell? ⟨wP.heap.size,0,none⟩=some (.slice aa s.asks.length ca)∧w'.cell? ⟨w.heap.size+2,0,none⟩=some (.string ({ r1 with Zj:=r1.Zj+1 }).name)∧w'.cell? ⟨w.heap.size+2,1,none⟩=some (.bool ({ r1 with Zj:=r1.Zj+1 }).over)∧w'.cell? ⟨w.heap.size+2,2,none⟩=some (.bool ({ r1 with Zj:=r1.Zj+1 }).fail)∧w'.cell? ⟨w.heap.size+2,3,none⟩=some (.string ({ r1 with Zj:=r1.Zj+1 }).text)∧w'.cell? ⟨w.heap.size+2,4,none⟩=some (.int .i64 ({ r1 with Zj:=r1.Zj+1 }).at')∧w'.cell? ⟨w.heap.size+2,5,none⟩=some (.int .i64 ({ r1 with Zj:=r1.Zj+1 }).Zj)∧w'.cell? ⟨w.heap.size+2,6,none⟩=some (.slice xa1 ({ r1 with Zj:=r1.Zj+1 }).texts.length xc1)):=fun w' K=> ⟨(K.cell v0z).trans v0,(K.cell HM3.out.box.row.lt).trans q0,(K.cell HM3.out.box.row.lt).trans q1,(K.cell HM3.out.box.row.lt).trans q2,(K.cell HM3.out.box.row.lt).trans q3,(K.cell HM3.out.box.row.lt).trans q4,(K.cell HM3.out.box.row.lt).trans q5,(K.cell HM3.out.box.row.lt).trans q6⟩
    go_upto_region 24 with fail
    refine Qx.rk 4 HSO4.out ((K_.refl wQ).drew) (fun Z_=> ?_)
    have HL:=Kz (HM3.out.kept ((K_.refl wQ).drew))
    generalize hwd:wQ.drew=wd at Z_ HL⊢
    clear hwd q0 q1 q2 q3 q4 q5 q6 HSO4
    refine Qx.tk 0 Z_ ?_
    refine Qx.tk 1 Z_ ?_
    refine Qx.tk 2 Z_ ?_
    obtain ⟨⟨_,x0⟩,f0⟩:=HL.out.res.row.at (i:=0) (by omega)
    obtain ⟨⟨_,x1⟩,f1⟩:=HL.out.res.row.at (i:=1) (by omega)
    obtain ⟨⟨_,x2⟩,f2⟩:=HL.out.res.row.at (i:=2) (by omega)
    obtain ⟨⟨_,x3⟩,f3⟩:=HL.out.res.row.at (i:=3) (by omega)
    obtain ⟨⟨_,x4⟩,f4⟩:=HL.out.res.row.at (i:=4) (by omega)
    obtain ⟨⟨_,x5⟩,f5⟩:=HL.out.res.row.at (i:=5) (by omega)
    obtain ⟨⟨_,x6⟩,f6⟩:=HL.out.res.row.at (i:=6) (by omega)
    have xz:=HL.out.res.lt
    refine Qx.nx 3 (fun K hK=> ?_)
    go_simp
    refine hK.out _ _ (fun _=> ⟨(by rw [Zk hsv3,Zk hsv3,Zk hsv3,Zk hsv3,Zk hsv3,Zk hsv3,Zk hsv3];exact Z_.1),(by rw [Zk hne2,Zk hne2,Zk hne2,Zk hne2,Zk hne2,Zk hne2,Zk hne2];exact Z_.2.1),(by rw [Zk hne2,Zk hne2,Zk hne2,Zk hne2,Zk hne2,Zk hne2,Zk hne2];exact Z_.2.2.1),(by rw [Zk hne2,Zk hne2,Zk hne2,Zk hne2,Zk hne2,Zk hne2,Zk hne2];exact Z_.2.2.2.1),(by rw [Zk hne2,Zk hne2,Zk hne2,Zk hne2,Zk hne2,Zk hne2,Zk hne2];exact Z_.2.2.2.2.1),(by rw [Zk hne2,Zk hne2,Zk hne2,Zk hne2,Zk hne2,Zk hne2,Zk hne2];exact Z_.2.2.2.2.2.1),(by rw [Zk hne2,Zk hne2,Zk hne2,Zk hne2,Zk hne2,Zk hne2,Zk hne2];exact Z_.2.2.2.2.2.2.1),(by rw [Zk hne2,Zk hne2,Zk hne2,Zk hne2,Zk hne2,Zk hne2,Zk hne2];exact Z_.2.2.2.2.2.2.2)⟩) ?_
    clear hK K
    try simp only [Act.put,upA,upB,upC]
    refine Qx.nx 4 (fun K hK=> ?_)
    go_simp
    refine hK.out _ _ (fun h=> absurd rfl h) ?_
    clear hK K
    try simp only [Act.put,upA,upB,upC]
    refine Qx.dn ?_
    go_wp2_with fail
    have hR:=World.rangeAt_setCells_same wd (w.heap.size+3) 0 (Qz.cells ({ r1 with Zj:=r1.Zj+1 }) xa1 xc1) (HL.out.res.row.there (o:=0) (m:=7) (Nat.le_refl _))
    refine bodyPost_ret_c2 (Qz.cells ({ r1 with Zj:=r1.Zj+1 }) xa1 xc1) _ _ Tryz.results140 rfl hR Tryz.underlying103 rfl Tryz.xSizeRun rfl rfl ?_
    exact HL.out.ends (by rw [HNx.out];unfold arrive;rw [HStep.out,hfin];rfl) (asks:=s.asks) (StrsA.old HAs0.out (HKW.out.trans HL.out.kw) (Nat.le_refl _)) rfl rfl
   ·rw [hfin] at v5
    go_upto_region 21 with fail
    obtain ⟨q0,q1,q2,q3,q4,q5,q6⟩:=HM3.out.box.all
    have qz:=HM3.out.box.row.lt
    obtain ⟨_,g1⟩:=HM3.out.box.row.row.at (i:=1) (by omega)
    go_upto_region 22 with fail
    have HM4:Hid (NSt w0.heap.size w (wQ.setCell ⟨w.heap.size+2,1,none⟩ (.bool true)) ab y.cost (some ⟨tb,tq,none⟩) y.steps.length nc ({ r1 with Zj:=r1.Zj+1,over:=true }) xa1 xc1):=HM3.out.put (by omega) rfl rfl
    have v62: (wQ.setCell ⟨w.heap.size+2,1,none⟩ (.bool true)).cell? ⟨wP.heap.size,6,none⟩=some (.bool s.bad):=by rw [Zk hsv];exact v6
    have v6z2:wP.heap.size < (wQ.setCell ⟨w.heap.size+2,1,none⟩ (.bool true)).heap.size:=by rw [size_setCell];exact v6z
    have v72: (wQ.setCell ⟨w.heap.size+2,1,none⟩ (.bool true)).cell? ⟨wP.heap.size,7,none⟩=some (.string s.give):=by rw [Zk hsv];exact v7
    have v7z2:wP.heap.size < (wQ.setCell ⟨w.heap.size+2,1,none⟩ (.bool true)).heap.size:=by rw [size_setCell];exact v7z
    have v02: (wQ.setCell ⟨w.heap.size+2,1,none⟩ (.bool true)).cell? ⟨wP.heap.size,0,none⟩=some (.slice aa s.asks.length ca):=by rw [Zk hsv];exact v0
    have v0z2:wP.heap.size < (wQ.setCell ⟨w.heap.size+2,1,none⟩ (.bool true)).heap.size:=by rw [size_setCell];exact v0z
    generalize hgw:wQ.setCell ⟨w.heap.size+2,1,none⟩ (.bool true)=wR at HM4 v62 v6z2 v72 v7z2 v02 v0z2⊢
    clear hgw
    clear q0 q1 q2 q3 q4 q5 q6 qz
    clear g1
    clear v6 v6z
    have v6:=v62
    have v6z:=v6z2
    clear v62 v6z2
    clear v7 v7z
    have v7:=v72
    have v7z:=v7z2
    clear v72 v7z2
    clear v0 v0z
    have v0:=v02
    have v0z:=v0z2
    clear v02 v0z2
    obtain ⟨q0,q1,q2,q3,q4,q5,q6⟩:=HM4.out.box.all
    have qz:=HM4.out.box.row.lt
    obtain ⟨_,g2⟩:=HM4.out.box.row.row.at (i:=2) (by omega)
    go_upto_region 23 with fail
    have HM5:Hid (NSt w0.heap.size w (wR.setCell ⟨w.heap.size+2,2,none⟩ (.bool s.bad)) ab y.cost (some ⟨tb,tq,none⟩) y.steps.length nc ({ r1 with Zj:=r1.Zj+1,over:=true,fail:=s.bad }) xa1 xc1):=HM4.out.put (by omega) rfl rfl
    have v62: (wR.setCell ⟨w.heap.size+2,2,none⟩ (.bool s.bad)).cell? ⟨wP.heap.size,6,none⟩=some (.bool s.bad):=by rw [Zk hsv];exact v6
    have v6z2:wP.heap.size < (wR.setCell ⟨w.heap.size+2,2,none⟩ (.bool s.bad)).heap.size:=by rw [size_setCell];exact v6z
    have v72: (wR.setCell ⟨w.heap.size+2,2,none⟩ (.bool s.bad)).cell? ⟨wP.heap.size,7,none⟩=some (.string s.give):=by rw [Zk hsv];exact v7
    have v7z2:wP.heap.size < (wR.setCell ⟨w.heap.size+2,2,none⟩ (.bool s.bad)).heap.size:=by rw [size_setCell];exact v7z
    have v02: (wR.setCell ⟨w.heap.size+2,2,none⟩ (.bool s.bad)).cell? ⟨wP.heap.size,0,none⟩=some (.slice aa s.asks.length ca):=by rw [Zk hsv];exact v0
    have v0z2:wP.heap.size < (wR.setCell ⟨w.heap.size+2,2,none⟩ (.bool s.bad)).heap.size:=by rw [size_setCell];exact v0z
    generalize hgw:wR.setCell ⟨w.heap.size+2,2,none⟩ (.bool s.bad)=wS at HM5 v62 v6z2 v72 v7z2 v02 v0z2⊢
    clear hgw
    clear q0 q1 q2 q3 q4 q5 q6 qz
    clear g2
    clear v6 v6z
    have v6:=v62
    have v6z:=v6z2
    clear v62 v6z2
    clear v7 v7z
    have v7:=v72
    have v7z:=v7z2
    clear v72 v7z2
    clear v0 v0z
    have v0:=v02
    have v0z:=v0z2
    clear v02 v0z2
    obtain ⟨q0,q1,q2,q3,q4,q5,q6⟩:=HM5.out.box.all
    have qz:=HM5.out.box.row.lt
    have hgs:s.give.size<=maxLen:=hfs.give
    have htl2:r1.texts.length<=maxLen:=by unfold maxLen;omega
    have hts2: ∀t∈r1.texts,t.size<=maxLen:=fun t ht=> by have:=HTs.out t ht;unfold maxLen;omega
    go_wp2_with fail
    refine (specFinish_any wS s.give xa1 xc1 r1.texts hgs htl2 hts2 HM5.out.txt.strs).mono ?_
    rintro e wT ⟨rfl,kT⟩
    have HM6:=Kz (HM5.out.kept kT)
    have v0b:= (kT.cell v0z).trans v0
    have v0bz:=Nat.lt_of_lt_of_le v0z kT.size
    clear v0 v0z v6 v7 v6z v7z kT hts2
    clear q0 q1 q2 q3 q4 q5 q6 qz
    have v0:=v0b
    have v0z:=v0bz
    clear v0b v0bz
    obtain ⟨fb,hfb⟩: ∃fb,fb=finB s.give r1.texts:= ⟨_,rfl⟩
    rw [<-hfb]
    have HFb:=Kz hfb
    clear hfb
    obtain ⟨q0,q1,q2,q3,q4,q5,q6⟩:=HM6.out.box.all
    have qz:=HM6.out.box.row.lt
    obtain ⟨_,g3⟩:=HM6.out.box.row.row.at (i:=3) (by omega)
    go_upto_region 24 with fail
    have HM7:Hid (NSt w0.heap.size w (wT.setCell ⟨w.heap.size+2,3,none⟩ (.string fb)) ab y.cost (some ⟨tb,tq,none⟩) y.steps.length nc ({ r1 with Zj:=r1.Zj+1,over:=true,fail:=s.bad,text:=fb }) xa1 xc1):=HM6.out.put (by omega) rfl rfl
    have v02: (wT.setCell ⟨w.heap.size+2,3,none⟩ (.string fb)).cell? ⟨wP.heap.size,0,none⟩=some (.slice aa s.asks.length ca):=by rw [Zk hsv];exact v0
    have v0z2:wP.heap.size < (wT.setCell ⟨w.heap.size+2,3,none⟩ (.string fb)).heap.size:=by rw [size_setCell];exact v0z
    generalize hgw:wT.setCell ⟨w.heap.size+2,3,none⟩ (.string fb)=wU at HM7 v02 v0z2⊢
    clear hgw
    clear q0 q1 q2 q3 q4 q5 q6 qz
    clear g3
    clear v0 v0z
    have v0:=v02
    have v0z:=v0z2
    clear v02 v0z2
    obtain ⟨q0,q1,q2,q3,q4,q5,q6⟩:=HM7.out.box.all
    have hne2:w.heap.size+2≠w.heap.size+3:=by omega
    have HSO4:Hid (∀w',K_ wU w'->w'.cell? ⟨wP.heap.size,0,none⟩=some (.slice aa s.asks.length ca)∧w'.cell? ⟨w.heap.size+2,0,none⟩=some (.string ({ r1 with Zj:=r1.Zj+1,over:=true,fail:=s.bad,text:=fb }).name)∧w'.cell? ⟨w.heap.size+2,1,none⟩=some (.bool ({ r1 with Zj:=r1.Zj+1,over:=true,fail:=s.bad,text:=fb }).over)∧w'.cell? ⟨w.heap.size+2,2,none⟩=some (.bool ({ r1 with Zj:=r1.Zj+1,over:=true,fail:=s.bad,text:=fb }).fail)∧w'.cell? ⟨w.heap.size+2,3,none⟩=some (.string ({ r1 with Zj:=r1.Zj+1,over:=true,fail:=s.bad,text:=fb }).text)∧w'.cell? ⟨w.heap.size+2,4,none⟩=some (.int .i64 ({ r1 with Zj:=r1.Zj+1,over:=true,fail:=s.bad,text:=fb }).at')∧w'.cell? ⟨w.heap.size+2,5,none⟩=some (.int .i64 ({ r1 with Zj:=r1.Zj+1,over:=true,fail:=s.bad,text:=fb }).Zj)∧w'.cell? ⟨w.heap.size+2,6,none⟩=some (.slice xa1 ({ r1 with Zj:=r1.Zj+1,over:=true,fail:=s.bad,text:=fb }).texts.length xc1)):=fun w' K=> ⟨(K.cell v0z).trans v0,(K.cell HM7.out.box.row.lt).trans q0,(K.cell HM7.out.box.row.lt).trans q1,(K.cell HM7.out.box.row.lt).trans q2,(K.cell HM7.out.box.row.lt).trans q3,(K.cell HM7.out.box.row.lt).trans q4,(K.cell HM7.out.box.row.lt).trans q5,(K.cell HM7.out.box.row.lt).trans q6⟩
    go_upto_region 24 with fail
    refine Qx.rk 4 HSO4.out ((K_.refl wU).drew) (fun Z_=> ?_)
    have HL:=Kz (HM7.out.kept ((K_.refl wU).drew))
    generalize hwd:wU.drew=wd at Z_ HL⊢
    clear hwd q0 q1 q2 q3 q4 q5 q6 HSO4
    refine Qx.tk 0 Z_ ?_
    refine Qx.tk 1 Z_ ?_
    refine Qx.tk 2 Z_ ?_
    obtain ⟨⟨_,x0⟩,f0⟩:=HL.out.res.row.at (i:=0) (by omega)
    obtain ⟨⟨_,x1⟩,f1⟩:=HL.out.res.row.at (i:=1) (by omega)
    obtain ⟨⟨_,x2⟩,f2⟩:=HL.out.res.row.at (i:=2) (by omega)
    obtain ⟨⟨_,x3⟩,f3⟩:=HL.out.res.row.at (i:=3) (by omega)
    obtain ⟨⟨_,x4⟩,f4⟩:=HL.out.res.row.at (i:=4) (by omega)
    obtain ⟨⟨_,x5⟩,f5⟩:=HL.out.res.row.at (i:=5) (by omega)
    obtain ⟨⟨_,x6⟩,f6⟩:=HL.out.res.row.at (i:=6) (by omega)
    have xz:=HL.out.res.lt
    refine Qx.nx 3 (fun K hK=> ?_)
    go_simp
    refine hK.out _ _ (fun _=> ⟨(by rw [Zk hsv3,Zk hsv3,Zk hsv3,Zk hsv3,Zk hsv3,Zk hsv3,Zk hsv3];exact Z_.1),(by rw [Zk hne2,Zk hne2,Zk hne2,Zk hne2,Zk hne2,Zk hne2,Zk hne2];exact Z_.2.1),(by rw [Zk hne2,Zk hne2,Zk hne2,Zk hne2,Zk hne2,Zk hne2,Zk hne2];exact Z_.2.2.1),(by rw [Zk hne2,Zk hne2,Zk hne2,Zk hne2,Zk hne2,Zk hne2,Zk hne2];exact Z_.2.2.2.1),(by rw [Zk hne2,Zk hne2,Zk hne2,Zk hne2,Zk hne2,Zk hne2,Zk hne2];exact Z_.2.2.2.2.1),(by rw [Zk hne2,Zk hne2,Zk hne2,Zk hne2,Zk hne2,Zk hne2,Zk hne2];exact Z_.2.2.2.2.2.1),(by rw [Zk hne2,Zk hne2,Zk hne2,Zk hne2,Zk hne2,Zk hne2,Zk hne2];exact Z_.2.2.2.2.2.2.1),(by rw [Zk hne2,Zk hne2,Zk hne2,Zk hne2,Zk hne2,Zk hne2,Zk hne2];exact Z_.2.2.2.2.2.2.2)⟩) ?_
    clear hK K
    try simp only [Act.put,upA,upB,upC]
    refine Qx.nx 4 (fun K hK=> ?_)
    go_simp
    refine hK.out _ _ (fun h=> absurd rfl h) ?_
    clear hK K
    try simp only [Act.put,upA,upB,upC]
    refine Qx.dn ?_
    go_wp2_with fail
    have hR:=World.rangeAt_setCells_same wd (w.heap.size+3) 0 (Qz.cells ({ r1 with Zj:=r1.Zj+1,over:=true,fail:=s.bad,text:=fb }) xa1 xc1) (HL.out.res.row.there (o:=0) (m:=7) (Nat.le_refl _))
    refine bodyPost_ret_c2 (Qz.cells ({ r1 with Zj:=r1.Zj+1,over:=true,fail:=s.bad,text:=fb }) xa1 xc1) _ _ Tryz.results140 rfl hR Tryz.underlying103 rfl Tryz.xSizeRun rfl rfl ?_
    exact HL.out.ends (by rw [HNx.out];unfold arrive;rw [HStep.out,hfin,HFb.out];rfl) (asks:=s.asks) (StrsA.old HAs0.out (HKW.out.trans HL.out.kw) (Nat.le_refl _)) rfl rfl
