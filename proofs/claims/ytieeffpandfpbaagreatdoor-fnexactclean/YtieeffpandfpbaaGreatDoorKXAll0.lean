import Derived.Test.YtieeffpandfpbaaGreatDoorKXAgain0
import Derived.Laws.OwnMore
set_option maxRecDepth 100000
set_option maxHeartbeats 25600000
namespace Go.Proofs.YtieeffpandfpbaaGreatDoor
open Go.RowKit
theorem again_any (w:World) (kb:Nat) (a:Option Addr) (cap:Nat) (Kj:List Qq) (d:Option Addr) (dc:Nat) (l:List Qz) (name:ByteArray) (hwl:Kj.length<=1048576) (hll:l.length<=1048576) (hsz:SmallAsks Kj) (hok:ActsOk (Q_ Kj)) (hft: ∀y∈Kj,y.Fits) (hge:GoodEnv Kj (Qj l)) (hin: (Q_ Kj name).isSome=true)
  (hK:KnownX w kb a Kj.length cap d l.length dc) (hN:Nodes w a Kj) (hS:RunsX w d l):
  Calls Tryz.prog 86 #[.pointer (some ⟨kb,0,none⟩),.string name] w fun e w'=> AgainSaid (Q_ Kj) (Qj l) name w' e∧K_ w w':=by
 obtain ⟨A,hA⟩:=Option.isSome_iff_exists.1 hin
 obtain ⟨k,hk,hkn,hkf,rfl⟩:=acts_first hA
 obtain ⟨y,hy⟩: ∃y,y=Kj.getD k Qq.zero:= ⟨_,rfl⟩
 rw [<-hy] at hA hkn
 obtain ⟨WB,hWB⟩: ∃WB,WB=w.alloc (.cells #[.string ⟨#[]⟩,.bool false,.bool false,.string ⟨#[]⟩,.int .i64 0,.int .i64 0,.slice none 0 0] 83):= ⟨_,rfl⟩
 have kB:K_ w WB:=by rw [hWB];exact (K_.refl _).alloc _
 obtain ⟨zb,hzb⟩: ∃zb,zb=w.heap.size:= ⟨_,rfl⟩
 have hres:RowT WB zb 83 7:=by rw [hWB,hzb];exact RowT.made w _ _
 have HZb:Hid (w.heap.size<=zb):=Nat.le_of_eq hzb.symm
 obtain ⟨nb,nq,cs,e1,hnb0,hcs,na,nc,rfl,hSt⟩:=hN k hk
 rw [<-hy] at hcs hSt
 have hnb:nb < WB.heap.size:=Nat.lt_of_lt_of_le hnb0 kB.size
 have n1:= (kB.cell hnb0).trans (hcs 1 _ rfl)
 have n2:= (kB.cell hnb0).trans (hcs 2 _ rfl)
 subst e1
 have HKw:=Kz hK
 have HKn:=Kz (hK.kept kB)
 have HNB:=Kz (hN.kept kB)
 have HNw:=Kz hN
 have HSw:=Kz hS
 have HStw:=Kz hSt
 have HKB:=Kz kB
 have HRes:=Kz hres
 have HY:=Kz hy
 have HAct:=Kz hA
 have b0:=HKn.out.web
 have bz:=HKn.out.row.lt
 have hym:y∈Kj:=by rw [hy];simp [List.getD,hk]
 clear hcs hSt hy hA kB hres hK hN hS hnb0
 go_enter Tryz.func86,Tryz.ntmps86
 go_upto_region 1 with fail
 rw [<-hWB,<-hzb]
 clear hWB hzb
 go_cut [6] from 14 to 27 (fun s6 wx=> ∃ab,s6= .pointer (some ⟨ab,0,none⟩)∧K_ WB wx∧WB.heap.size<=ab∧RowT wx ab 86 2∧wx.cell? ⟨ab,0,none⟩=some (.int .i64 y.cost)∧wx.cell? ⟨ab,1,none⟩=some (.slice na y.steps.length nc))
 case first=>
  have Zz:Hid (∀w',K_ WB w'->w'.cell? ⟨kb,0,none⟩=some (.slice (some ⟨nb,nq,none⟩) Kj.length cap)∧w'.cell? ⟨nb,nq+k * 3+1,none⟩=some (.int .i64 y.cost)∧w'.cell? ⟨nb,nq+k * 3+2,none⟩=some (.slice na y.steps.length nc)):=fun w' K=> ⟨(K.cell bz).trans b0,(K.cell hnb).trans n1,(K.cell hnb).trans n2⟩
  have hki: (k:Int) < (Kj.length:Int):=by omega
  refine Qx.rg 15 Zz.out fun wd KD Z_=> ?_
  refine Qx.tk 0 Z_ ?_
  refine Qx.tk 1 Z_ ?_
  refine Qx.tk 2 Z_ ?_
  refine Qx.tk 3 Z_ ?_
  refine Qx.tk 4 Z_ ?_
  refine Qx.tk 5 Z_ ?_
  refine Qx.tk 6 Z_ ?_
  refine Qx.tk 7 Z_ ?_
  refine Qx.tk 8 Z_ ?_
  refine Qx.tk 9 Z_ ?_
  refine Qx.tw 10 14 (fun K hK=> ?_) (fun K hK=> ?_)
  ·rw [if_pos (by rfl)]
   go_simp
   go_at_call 44
   refine (l2At_place wd (some ⟨nb,nq,none⟩) cap Kj name hwl (HNB.out.kept KD)).mono ?_
   rintro e w2 ⟨⟨q,rfl,hq⟩,k2⟩
   have K2:=KD.trans k2
   obtain rfl:q= (k:Int):=by
    rcases hq with ⟨k',_,e',_,h1,h2⟩ | ⟨_,h1⟩
    ·rw [e',first_unique (by rw [<-HY.out];exact hkn) hkf h1 h2]
    ·rw [HAct.out] at h1;cases h1
   clear hq
   dsimp only
   refine hK.out _ _ (fun _=> Zz.out _ K2) ?_
   clear hK K
   try simp only [Act.put,upA,upB,upC]
   clear Z_
   have Z_:=Zz.out _ K2
   refine Qx.tk 11 Z_ ?_
   refine Qx.tk 12 Z_ ?_
   refine Qx.tk 13 Z_ ?_
   refine Qx.nx 14 (fun K hK=> ?_)
   go_simp
   have K3:K_ w2 (w2.alloc (.cells #[.int .i64 0,.slice none 0 0] 86)):= (K_.refl _).alloc _
   refine hK.out _ _ (fun _=> Zz.out _ (K2.trans K3)) ?_
   clear hK K
   try simp only [Act.put,upA,upB,upC]
   have hRw:RowT (w2.alloc (.cells #[.int .i64 0,.slice none 0 0] 86)) w2.heap.size 86 2:=RowT.made w2 _ _
   have KE:=K2.trans K3
   generalize hwe:w2.alloc (.cells #[.int .i64 0,.slice none 0 0] 86)=wE at hRw KE⊢
   clear hwe K3
   obtain ⟨⟨_,v0⟩,f0⟩:=hRw.row.at (i:=0) (by omega)
   obtain ⟨⟨_,v1⟩,f1⟩:=hRw.row.at (i:=1) (by omega)
   have vz:=hRw.lt
   refine Qx.nx 15 (fun K hK=> ?_)
   go_simp
   refine hK.out _ _ (fun h=> absurd rfl h) ?_
   clear hK K
   try simp only [Act.put,upA,upB,upC]
   refine Qx.dn ?_
   go_wp2_with fail
   go_meet
   exact ⟨w2.heap.size,rfl,Below.setCell (Below.setCell KE (p:= ⟨w2.heap.size,0,none⟩) K2.size _) (p:= ⟨w2.heap.size,1,none⟩) K2.size _,K2.size,(hRw.set _).set _,(Xx (by omega) _).trans (set_hit hRw.row (by omega) _),set_hit (hRw.set _).row (by omega) _⟩
  ·rw [if_pos (by rfl)]
   go_simp
   have K3:K_ wd (wd.alloc (.cells #[.int .i64 0,.slice none 0 0] 86)):= (K_.refl _).alloc _
   have K3b:=KD.trans K3
   refine hK.out _ _ (fun _=> Zz.out _ K3b) ?_
   clear hK K
   try simp only [Act.put,upA,upB,upC]
   refine Qx.nx 10 (fun K hK=> ?_)
   rw [if_pos (by rfl)]
   go_simp
   go_at_call 44
   refine (l2At_place (wd.alloc (.cells #[.int .i64 0,.slice none 0 0] 86)) (some ⟨nb,nq,none⟩) cap Kj name hwl (HNB.out.kept K3b)).mono ?_
   rintro e w2 ⟨⟨q,rfl,hq⟩,k2⟩
   have K2:=K3b.trans k2
   obtain rfl:q= (k:Int):=by
    rcases hq with ⟨k',_,e',_,h1,h2⟩ | ⟨_,h1⟩
    ·rw [e',first_unique (by rw [<-HY.out];exact hkn) hkf h1 h2]
    ·rw [HAct.out] at h1;cases h1
   clear hq
   dsimp only
   refine hK.out _ _ (fun _=> Zz.out _ K2) ?_
   clear hK K
   try simp only [Act.put,upA,upB,upC]
   clear Z_
   have Z_:=Zz.out _ K2
   refine Qx.tk 11 Z_ ?_
   refine Qx.tk 12 Z_ ?_
   refine Qx.tk 13 Z_ ?_
   have hRw:RowT w2 wd.heap.size 86 2:= (RowT.made wd #[.int .i64 0,.slice none 0 0] 86).kept k2
   obtain ⟨⟨_,v0⟩,f0⟩:=hRw.row.at (i:=0) (by omega)
   obtain ⟨⟨_,v1⟩,f1⟩:=hRw.row.at (i:=1) (by omega)
   have vz:=hRw.lt
   refine Qx.nx 15 (fun K hK=> ?_)
   go_simp
   refine hK.out _ _ (fun h=> absurd rfl h) ?_
   clear hK K
   try simp only [Act.put,upA,upB,upC]
   refine Qx.dn ?_
   go_wp2_with fail
   go_meet
   exact ⟨wd.heap.size,rfl,Below.setCell (Below.setCell K2 (p:= ⟨wd.heap.size,0,none⟩) KD.size _) (p:= ⟨wd.heap.size,1,none⟩) KD.size _,KD.size,(hRw.set _).set _,(Xx (by omega) _).trans (set_hit hRw.row (by omega) _),set_hit (hRw.set _).row (by omega) _⟩
 case rest=>
  obtain ⟨ab,rfl,Kx,habl,hRa,ha0,ha1⟩:=hcut
  have HSt0:=Kz (AgM.start name (HKB.out.trans Kx) (HRes.out.kept Kx) hRa ha0 ha1 HZb.out (Nat.le_trans HKB.out.size habl))
  clear habl hRa ha0 ha1 n1 n2 b0 bz hnb HKn HNB HRes Kx HZb
  go_upto_region 3 with fail
  obtain ⟨rb,hrb⟩: ∃rb,rb=wc.heap.size:= ⟨_,rfl⟩
  have hsz1: (wc.alloc (.cells #[.string name,.bool false,.bool false,.string ⟨#[]⟩,.int .i64 0,.int .i64 0,.slice none 0 0] 83)).heap.size=rb+1:=by rw [hrb];simp
  rw [<-hrb] at HSt0⊢
  have HZ1:=Kz hsz1
  clear hsz1
  generalize hw1:wc.alloc (.cells #[.string name,.bool false,.bool false,.string ⟨#[]⟩,.int .i64 0,.int .i64 0,.slice none 0 0] 83)=w1 at HSt0 HZ1⊢
  clear hw1 hrb
  go_wp2_with fail
  rw [HZ1.out]
  clear HZ1
  generalize hw2:w1.alloc (.cells #[] 9)=w2 at HSt0⊢
  clear hw2
  go_loopg [8] 22 (fun gg x8 wr=> ∃(j:Nat) (xa:Option Addr) (xc:Nat) (qa:Option Addr) (qc:Nat),x8= .slice qa (againN (Q_ Kj) (Qj l) name j).2.length qc∧j+gg=22∧Hid (∀i,i < j->CanGo (Q_ Kj) (Qj l) (againN (Q_ Kj) (Qj l) name i).1)∧Hid (AgM w wr rb zb ab y.cost na y.steps.length nc (againN (Q_ Kj) (Qj l) name j).1 xa xc (.slice qa (againN (Q_ Kj) (Qj l) name j).2.length qc) (againN (Q_ Kj) (Qj l) name j).2))
  case atStart=> exact ⟨0,none,0,some ⟨rb+1,0,none⟩,0,rfl,rfl,Kz (fun i hi=> absurd hi (Nat.not_lt_zero _)),HSt0⟩
  case round=>
   clear HSt0
   obtain ⟨j,xa,xc,qa,qc,rfl,hgg,HCj,HM⟩:=hrel
   have HGd:=Kz (againN_good hok hge hin HCj.out)
   have hLl:=againN_len hok hge hin HCj.out
   have HNm:=Kz (againN_name (W:=Q_ Kj) (σ:=Qj l) (n:=name) j)
   obtain ⟨r,hr⟩: ∃r,r= (againN (Q_ Kj) (Qj l) name j).1:= ⟨_,rfl⟩
   obtain ⟨L,hL⟩: ∃L,L= (againN (Q_ Kj) (Qj l) name j).2:= ⟨_,rfl⟩
   rw [<-hr,<-hL] at HM
   rw [<-hr] at HGd HNm
   rw [<-hL] at hLl⊢
   have HAg:Hid (againN (Q_ Kj) (Qj l) name j= (r,L)):=by show _=_;rw [hr,hL]
   have HActR:Hid (Q_ Kj r.name=some ⟨y.cost,y.steps⟩):=by show _=_;rw [HNm.out];exact HAct.out
   have HNxt:Hid (againN (Q_ Kj) (Qj l) name (j+1)= ((Y_ (Q_ Kj) (Qj l) r).1,L++ (Y_ (Q_ Kj) (Qj l) r).2)):=by show _=_;unfold againN;rw [HAg.out]
   clear hr hL HNm
   obtain ⟨q0,q1,q2,q3,q4,q5,q6⟩:=HM.out.box.all
   have qz:=HM.out.box.row.lt
   by_cases hov:r.over=true
   ·have HOv:=Kz hov
    clear q0 q1 q2 q3 q4 q5 q6 qz
    have q1:wr.cell? ⟨rb,1,none⟩=some (.bool true):=by have h:=HM.out.box.all.2.1;rw [HOv.out] at h;exact h
    have qz:=HM.out.box.row.lt
    clear hov
    go_upto_region 31 with fail
    clear q1 qz
    obtain ⟨cs,hcs⟩: ∃cs,cs=Qz.cells (r) xa xc:= ⟨_,rfl⟩
    have hlen:cs.length=7:=by rw [hcs];rfl
    have HOne:Hid (cs.toArray.all (·.oneCell')=true):=by show _=_;rw [hcs];exact all_oneCell_toArray (by simp [Qz.cells,Value.oneCell'])
    have HRg:Hid (wr.rangeAt rb 0 cs):=by show World.rangeAt _ _ _ _;rw [hcs];exact HM.out.box.rng
    have qz:=HM.out.box.row.lt
    have HSZ:Hid ((Tryz.prog.info? 83).map (·.size)=some cs.toArray.size):=by show _=_;rw [Tryz.xSizeRun];simp [hlen]
    have HSZ2:Hid ((Tryz.prog.info? 83).map (·.size)=some cs.length):=by show _=_;rw [Tryz.xSizeRun,hlen]
    have HTh:Hid (wr.there zb 0 cs.toArray.size):=by show World.there _ _ _ _;simpa [hlen] using HM.out.res.row.there (o:=0) (m:=7) (Nat.le_refl _)
    have HCs:=Kz hcs
    have HLen:=Kz hlen
    clear hcs hlen
    go_wp2_with (first | (refine wpList_load_mid rfl 83 _ rfl rb 0 rfl cs _ HRg.out Tryz.underlying83 rfl HSZ2.out ?_) | (refine wpList_store_mid rfl 83 _ _ rfl zb 0 cs.toArray rfl rfl HTh.out HSZ.out HOne.out ?_;rw [List.toList_toArray]))
    have hR:=World.rangeAt_setCells_same wr zb 0 cs (by have:=HTh.out;simpa using this)
    refine bodyPost_ret_c2 cs _ _ Tryz.results86 rfl hR Tryz.underlying83 rfl HSZ2.out rfl rfl ?_
    have hce:=HCs.out
    subst hce
    exact HM.out.ends HAg.out HCj.out (fun h=> by have h1:=h.1;rw [HOv.out] at h1;cases h1) rfl
   have HOv:Hid (r.over=false):=by cases h:r.over;rfl;exact absurd h hov
   rw [HOv.out] at q1
   clear hov
   have lo:=HGd.out.lo
   have hi20:=HGd.out.hi
   have tl:=HGd.out.tl
   obtain ⟨ha0,ha1⟩:0<=r.at'∧r.at' < y.steps.length:=by
    obtain ⟨A2,hA2,h1,h2⟩:=HGd.out.act
    rw [HActR.out] at hA2
    cases hA2
    exact ⟨h1,h2⟩
   have hj20:j<=20:=by have h:=againN_visits hin HCj.out (by rw [HAg.out];exact HOv.out);rw [HAg.out] at h;dsimp only at h;omega
   go_upto_if 36 with fail
   go_cut [9,10,11,12] from 36 to 87 (fun _ _ _ _ wx=> ∃(r1:Qz) (xa1:Option Addr) (xc1:Nat),Hid (AgM w wx rb zb ab y.cost na y.steps.length nc r1 xa1 xc1 (.slice qa L.length qc) L)∧Hid (Y_ (Q_ Kj) (Qj l) r=arrive ⟨y.cost,y.steps⟩ r1)∧0<=r1.at'∧r1.at' < y.steps.length∧0<=r1.Zj∧r1.Zj < 20∧r1.texts.length<=200∧Hid (∀t∈r1.texts,t.size<=200)∧Hid (CanGo (Q_ Kj) (Qj l) r))
   case first=>
    by_cases hv:r.Zj=0
    ·have hv0: ¬(0:Int) < r.Zj:=by omega
     have HV:=Kz hv
     clear hv
     go_wp2_with fail
     go_meet
     exact ⟨r,xa,xc,HM,Kz (by unfold Y_;rw [HActR.out];simp [HV.out]),ha0,ha1,lo,by omega,by omega,Kz HGd.out.ts,Kz ⟨HOv.out,.inl HV.out⟩⟩
    ·have hvp: (0:Int) < r.Zj:=by omega
     obtain ⟨ix,hix⟩: ∃ix:Nat,r.at'= (ix:Int):= ⟨r.at'.toNat,by omega⟩
     have hixl:ix < y.steps.length:=by omega
     have hii: (ix:Int) < (y.steps.length:Int):=by omega
     obtain ⟨tb,tq,cs2,rfl,htb,hcs2,aa,ca,ac,cc,rfl,hAs,hCs,_⟩:= (Steps.kept HStw.out HM.out.kw) ix hixl
     obtain ⟨s,hs⟩: ∃s,s=y.steps.getD ix Xj.zero:= ⟨_,rfl⟩
     rw [<-hs] at hcs2 hAs hCs
     have t0:=hcs2 0 _ rfl
     have t1:=hcs2 1 _ rfl
     have t2:=hcs2 2 _ rfl
     have t3:=hcs2 3 _ rfl
     have t4:=hcs2 4 _ rfl
     have t5:=hcs2 5 _ rfl
     have t6:=hcs2 6 _ rfl
     have t7:=hcs2 7 _ rfl
     rw [Nat.add_zero] at t0
     have hsm:s∈y.steps:=by rw [hs];simp [List.getD,hixl]
     have hal:= (hsz y hym s hsm).1
     have has:= (hsz y hym s hsm).2
     have hfy:=hft y hym
     have HStep:Hid (stepOf ⟨y.cost,y.steps⟩ r.at'=s):=by show _=_;unfold stepOf;rw [hix,hs];rfl
     have p1:=HM.out.a1
     have pz:=HM.out.act.lt
     rw [hix] at q4
     have HAs:=Kz hAs
     clear hcs2 hAs hCs hs
     have HIx:=Kz hix
     clear hix
     go_upto_region 7 with fail
     have kS:K_ wr (wr.alloc (.cells #[.slice aa s.asks.length ca,.int .i64 s.on,.slice ac s.cases.length cc,.int .i64 s.els,.int .i64 s.fall,.bool s.fin,.bool s.bad,.string s.give] 191)):= (K_.refl _).alloc _
     have HM1:=Kz (HM.out.kept kS)
     have HAs1:=Kz (HAs.out.kept kS)
     have hRs: (wr.alloc (.cells #[.slice aa s.asks.length ca,.int .i64 s.on,.slice ac s.cases.length cc,.int .i64 s.els,.int .i64 s.fall,.bool s.fin,.bool s.bad,.string s.give] 191)).rangeAt wr.heap.size 0 #[.slice aa s.asks.length ca,.int .i64 s.on,.slice ac s.cases.length cc,.int .i64 s.els,.int .i64 s.fall,.bool s.fin,.bool s.bad,.string s.give].toList:=Xz wr _ _
     have v0:=Xz wr #[.slice aa s.asks.length ca,.int .i64 s.on,.slice ac s.cases.length cc,.int .i64 s.els,.int .i64 s.fall,.bool s.fin,.bool s.bad,.string s.give] 191 0 _ rfl
     have v1:=Xz wr #[.slice aa s.asks.length ca,.int .i64 s.on,.slice ac s.cases.length cc,.int .i64 s.els,.int .i64 s.fall,.bool s.fin,.bool s.bad,.string s.give] 191 1 _ rfl
     have v2:=Xz wr #[.slice aa s.asks.length ca,.int .i64 s.on,.slice ac s.cases.length cc,.int .i64 s.els,.int .i64 s.fall,.bool s.fin,.bool s.bad,.string s.give] 191 2 _ rfl
     have v3:=Xz wr #[.slice aa s.asks.length ca,.int .i64 s.on,.slice ac s.cases.length cc,.int .i64 s.els,.int .i64 s.fall,.bool s.fin,.bool s.bad,.string s.give] 191 3 _ rfl
     have v4:=Xz wr #[.slice aa s.asks.length ca,.int .i64 s.on,.slice ac s.cases.length cc,.int .i64 s.els,.int .i64 s.fall,.bool s.fin,.bool s.bad,.string s.give] 191 4 _ rfl
     have v5:=Xz wr #[.slice aa s.asks.length ca,.int .i64 s.on,.slice ac s.cases.length cc,.int .i64 s.els,.int .i64 s.fall,.bool s.fin,.bool s.bad,.string s.give] 191 5 _ rfl
     have v6:=Xz wr #[.slice aa s.asks.length ca,.int .i64 s.on,.slice ac s.cases.length cc,.int .i64 s.els,.int .i64 s.fall,.bool s.fin,.bool s.bad,.string s.give] 191 6 _ rfl
     have v7:=Xz wr #[.slice aa s.asks.length ca,.int .i64 s.on,.slice ac s.cases.length cc,.int .i64 s.els,.int .i64 s.fall,.bool s.fin,.bool s.bad,.string s.give] 191 7 _ rfl
     simp only [Nat.zero_add] at v0 v1 v2 v3 v4 v5 v6 v7
     have vz:wr.heap.size < (wr.alloc (.cells #[.slice aa s.asks.length ca,.int .i64 s.on,.slice ac s.cases.length cc,.int .i64 s.els,.int .i64 s.fall,.bool s.fin,.bool s.bad,.string s.give] 191)).heap.size:=by simp
     obtain ⟨sb,hsb⟩: ∃sb,sb=wr.heap.size:= ⟨_,rfl⟩
     rw [<-hsb] at v0 v1 v2 v3 v4 v5 v6 v7 vz⊢
     generalize hgw:wr.alloc (.cells #[.slice aa s.asks.length ca,.int .i64 s.on,.slice ac s.cases.length cc,.int .i64 s.els,.int .i64 s.fall,.bool s.fin,.bool s.bad,.string s.give] 191)=w1 at HM1 HAs1 v0 v1 v2 v3 v4 v5 v6 v7 vz⊢
     clear hgw hRs kS hsb t0 t1 t2 t3 t4 t5 t6 t7 p1 pz HM HAs q1 htb
     clear q0 q2 q3 q4 q5 q6 qz
     go_wp2_with fail
     refine (answers_any w1 kb (some ⟨nb,nq,none⟩) cap Kj d dc l s aa ac ca cc hwl hll hal has (HKw.out.kept HM1.out.kw) (HNw.out.kept HM1.out.kw) (HSw.out.kept HM1.out.kw) HAs1.out).mono ?_
     rintro e w3 ⟨⟨d3,n3,c3,ok,rfl,hyes,hno⟩,k3⟩
     have HM3:=Kz (HM1.out.kept k3)
     clear v0 v1 v2 v3 v4 v5 v6 v7 vz HM1 HAs1
     have hvn:r.Zj≠0:=hv
     have HVn:=Kz hvn
     clear hvn
     cases ok
     ·have HNo:=Kz (hno rfl)
      clear hyes hno k3
      go_upto_region 9 with fail
      obtain ⟨cs,hcs⟩: ∃cs,cs=Qz.cells (r) xa xc:= ⟨_,rfl⟩
      have hlen:cs.length=7:=by rw [hcs];rfl
      have HOne:Hid (cs.toArray.all (·.oneCell')=true):=by show _=_;rw [hcs];exact all_oneCell_toArray (by simp [Qz.cells,Value.oneCell'])
      have HRg:Hid (w3.rangeAt rb 0 cs):=by show World.rangeAt _ _ _ _;rw [hcs];exact HM3.out.box.rng
      have qz:=HM3.out.box.row.lt
      have HSZ:Hid ((Tryz.prog.info? 83).map (·.size)=some cs.toArray.size):=by show _=_;rw [Tryz.xSizeRun];simp [hlen]
      have HSZ2:Hid ((Tryz.prog.info? 83).map (·.size)=some cs.length):=by show _=_;rw [Tryz.xSizeRun,hlen]
      have HTh:Hid (w3.there zb 0 cs.toArray.size):=by show World.there _ _ _ _;simpa [hlen] using HM3.out.res.row.there (o:=0) (m:=7) (Nat.le_refl _)
      have HCs:=Kz hcs
      have HLen:=Kz hlen
      clear hcs hlen
      go_wp2_with (first | (refine wpList_load_mid rfl 83 _ rfl rb 0 rfl cs _ HRg.out Tryz.underlying83 rfl HSZ2.out ?_) | (refine wpList_store_mid rfl 83 _ _ rfl zb 0 cs.toArray rfl rfl HTh.out HSZ.out HOne.out ?_;rw [List.toList_toArray]))
      have hR:=World.rangeAt_setCells_same w3 zb 0 cs (by have:=HTh.out;simpa using this)
      refine bodyPost_ret_c2 cs _ _ Tryz.results86 rfl hR Tryz.underlying83 rfl HSZ2.out rfl rfl ?_
      have hce:=HCs.out
      subst hce
      exact HM3.out.ends HAg.out HCj.out (fun h=> by rcases h.2 with g | ⟨A2,xs,g1,g2⟩;exact HVn.out g;rw [HActR.out] at g1;cases g1;rw [HStep.out,HNo.out] at g2;cases g2) rfl
     ·obtain ⟨xs,hx2,rfl,hAn⟩:=hyes rfl
      have HXs:=Kz hx2
      have HAn:=Kz hAn
      clear hyes hno hx2 hAn k3
      have HCan:Hid (CanGo (Q_ Kj) (Qj l) r):= ⟨HOv.out,.inr ⟨_,xs,HActR.out,by rw [HStep.out];exact HXs.out⟩⟩
      have HCj1:Hid (∀i,i < j+1->CanGo (Q_ Kj) (Qj l) (againN (Q_ Kj) (Qj l) name i).1):=fun i hi=> by
       rcases Nat.lt_or_ge i j with g | g
       ·exact HCj.out i g
       ·obtain rfl:i=j:=by omega
        rw [HAg.out]
        exact HCan.out
      by_cases h20:r.Zj=20
      ·have e20: (r.Zj == 20)=true:=by simp [h20]
       have H20:=Kz h20
       clear h20
       obtain ⟨q0,q1,q2,q3,q4,q5,q6⟩:=HM3.out.box.all
       have qz:=HM3.out.box.row.lt
       go_upto_region 11 with fail
       clear q0 q1 q2 q3 q4 q5 q6 qz
       obtain ⟨q0,q1,q2,q3,q4,q5,q6⟩:=HM3.out.box.all
       have qz:=HM3.out.box.row.lt
       obtain ⟨_,g1⟩:=HM3.out.box.row.row.at (i:=1) (by omega)
       go_upto_region 12 with fail
       have HM4:Hid (AgM w (w3.setCell ⟨rb,1,none⟩ (.bool true)) rb zb ab y.cost (some ⟨tb,tq,none⟩) y.steps.length nc ({ r with over:=true }) xa xc (.slice qa L.length qc) L):=HM3.out.put (by omega) rfl rfl
       generalize hgw:w3.setCell ⟨rb,1,none⟩ (.bool true)=w4 at HM4  ⊢
       clear hgw
       clear q0 q1 q2 q3 q4 q5 q6 qz
       clear g1
       obtain ⟨q0,q1,q2,q3,q4,q5,q6⟩:=HM4.out.box.all
       have qz:=HM4.out.box.row.lt
       obtain ⟨_,g2⟩:=HM4.out.box.row.row.at (i:=2) (by omega)
       go_upto_region 13 with fail
       have HM5:Hid (AgM w (w4.setCell ⟨rb,2,none⟩ (.bool true)) rb zb ab y.cost (some ⟨tb,tq,none⟩) y.steps.length nc ({ r with over:=true,fail:=true }) xa xc (.slice qa L.length qc) L):=HM4.out.put (by omega) rfl rfl
       generalize hgw:w4.setCell ⟨rb,2,none⟩ (.bool true)=w5 at HM5  ⊢
       clear hgw
       clear q0 q1 q2 q3 q4 q5 q6 qz
       clear g2
       obtain ⟨q0,q1,q2,q3,q4,q5,q6⟩:=HM5.out.box.all
       have qz:=HM5.out.box.row.lt
       obtain ⟨_,g3⟩:=HM5.out.box.row.row.at (i:=3) (by omega)
       go_upto_region 14 with fail
       have HM6:Hid (AgM w (w5.setCell ⟨rb,3,none⟩ (.string ⟨#[115,112,101,110,116]⟩)) rb zb ab y.cost (some ⟨tb,tq,none⟩) y.steps.length nc ({ r with over:=true,fail:=true,text:=spentB }) xa xc (.slice qa L.length qc) L):=HM5.out.put (by omega) rfl rfl
       generalize hgw:w5.setCell ⟨rb,3,none⟩ (.string ⟨#[115,112,101,110,116]⟩)=w6 at HM6  ⊢
       clear hgw
       clear q0 q1 q2 q3 q4 q5 q6 qz
       clear g3
       have HNe:Hid (Y_ (Q_ Kj) (Qj l) r= ({ r with over:=true,fail:=true,text:=spentB },[])):=by show _=_;unfold Y_;rw [HActR.out];simp only;rw [if_neg HVn.out,HStep.out,HXs.out];simp [H20.out]
       obtain ⟨cs,hcs⟩: ∃cs,cs=Qz.cells ({ r with over:=true,fail:=true,text:=spentB }) xa xc:= ⟨_,rfl⟩
       have hlen:cs.length=7:=by rw [hcs];rfl
       have HOne:Hid (cs.toArray.all (·.oneCell')=true):=by show _=_;rw [hcs];exact all_oneCell_toArray (by simp [Qz.cells,Value.oneCell'])
       have HRg:Hid (w6.rangeAt rb 0 cs):=by show World.rangeAt _ _ _ _;rw [hcs];exact HM6.out.box.rng
       have qz:=HM6.out.box.row.lt
       have HSZ:Hid ((Tryz.prog.info? 83).map (·.size)=some cs.toArray.size):=by show _=_;rw [Tryz.xSizeRun];simp [hlen]
       have HSZ2:Hid ((Tryz.prog.info? 83).map (·.size)=some cs.length):=by show _=_;rw [Tryz.xSizeRun,hlen]
       have HTh:Hid (w6.there zb 0 cs.toArray.size):=by show World.there _ _ _ _;simpa [hlen] using HM6.out.res.row.there (o:=0) (m:=7) (Nat.le_refl _)
       have HCs:=Kz hcs
       have HLen:=Kz hlen
       clear hcs hlen
       go_wp2_with (first | (refine wpList_load_mid rfl 83 _ rfl rb 0 rfl cs _ HRg.out Tryz.underlying83 rfl HSZ2.out ?_) | (refine wpList_store_mid rfl 83 _ _ rfl zb 0 cs.toArray rfl rfl HTh.out HSZ.out HOne.out ?_;rw [List.toList_toArray]))
       have hR:=World.rangeAt_setCells_same w6 zb 0 cs (by have:=HTh.out;simpa using this)
       refine bodyPost_ret_c2 cs _ _ Tryz.results86 rfl hR Tryz.underlying83 rfl HSZ2.out rfl rfl ?_
       have hce:=HCs.out
       subst hce
       exact HM6.out.ends (HNxt.out.trans (by rw [HNe.out,List.append_nil])) HCj1.out (fun h=> by have h1:=h.1;cases h1) rfl
      ·have e20: (r.Zj == 20)=false:=by simpa using h20
       have H20:=Kz h20
       clear h20
       have hAok:= (hok _ _ HActR.out).1
       obtain ⟨hal5,han⟩:=asks_ok hAok ha0 ha1
       rw [HStep.out] at hal5 han
       have han2: ∀n∈s.asks,n.size<=20:=fun n hn=> (han n hn).2.1
       obtain ⟨hAns,hxt⟩:=answers_ok hge han2 HXs.out
       have hxl5:xs.length<=5:=by rw [hAns.1];exact hal5
       have HW:Hid (WentOn y.cost y.steps r.at' xs (goOnF s xs)):= .inr ⟨⟨hAok,⟨ha0,ha1⟩,HGd.out.stp _ HActR.out HOv.out HVn.out⟩,by have e:stepAt y.steps r.at'=s:=HStep.out;rw [e];exact goOnF_followed hAns⟩
       have HXt:=Kz hxt
       clear hxt hAok han han2 hAns
       have hxl2:xs.length<=maxLen:=by unfold maxLen;omega
       have hxs2: ∀c∈xs,c.text.size<=maxLen:=fun c hc=> by have:=HXt.out c hc;unfold maxLen;omega
       have p0:=HM3.out.a0
       have p1:=HM3.out.a1
       have pz3:=HM3.out.act.lt
       obtain ⟨q0,q1,q2,q3,q4,q5,q6⟩:=HM3.out.box.all
       have qz:=HM3.out.box.row.lt
       go_wp2_with fail
       refine (specGoOn_any _ y.cost r.at' (some ⟨tb,tq,none⟩) d3 nc c3 y.steps xs hfy.steps hfy.each (Steps.kept HStw.out HM3.out.kw) hxl2 hxs2 HAn.out).mono ?_
       rintro e w5 ⟨⟨G,rfl,hG⟩,k5⟩
       have hGe:G=goOnF s xs:=hG.unique HW.out
       obtain ⟨gc,go,gt,gx⟩:=G
       have HGe:=Kz hGe
       have hcells: (GoneD.mk gc go gt gx).cells.toArray= #[.int .i64 gc,.bool go,.int .i64 gt,.string gx]:=rfl
       rw [hcells]
       clear hcells hG hGe
       have k6:K_ w5 (w5.alloc (.cells #[.int .i64 gc,.bool go,.int .i64 gt,.string gx] 198)):= (K_.refl _).alloc _
       have hk53:=k5.size
       have K6:=k5.trans k6
       have HM6:=Kz (HM3.out.kept K6)
       have e1:=Xz w5 #[.int .i64 gc,.bool go,.int .i64 gt,.string gx] 198 1 _ rfl
       have e2:=Xz w5 #[.int .i64 gc,.bool go,.int .i64 gt,.string gx] 198 2 _ rfl
       have e3:=Xz w5 #[.int .i64 gc,.bool go,.int .i64 gt,.string gx] 198 3 _ rfl
       simp only [Nat.zero_add] at e1 e2 e3
       have e3z:w5.heap.size < (w5.alloc (.cells #[.int .i64 gc,.bool go,.int .i64 gt,.string gx] 198)).heap.size:=by simp
       have hgne:w5.heap.size≠rb:=by have:= (HM3.out.kept k5).box.row.lt;omega
       have HAn6:=Kz (HAn.out.kept K6)
       clear q0 q1 q2 q3 q4 q5 q6 qz
       clear p0 p1 pz3 k5 k6 hxl2 hxs2 HAn
       cases go
       ·go_upto_region 22 with fail
        generalize hgw:w5.alloc (.cells #[.int .i64 gc,.bool false,.int .i64 gt,.string gx] 198)=w6 at HM6 HAn6 e1 e2 e3 e3z K6⊢
        clear hgw e1 e3 K6
        have hg2:= (HW.out.goodX).1
        rw [<-HGe.out] at hg2
        have hgc:gc=0:=by have h2:=goOnF_code s xs;rw [<-HGe.out] at h2;exact h2
        obtain ⟨hgt0,hgt1⟩:=hg2 hgc rfl
        dsimp only at hgt0 hgt1
        clear hg2 hgc
        have htl:r.texts.length<=100:=by omega
        have hgl:=goodOf_len xs
        obtain ⟨ic,hc0,hc1,hc2,hc3⟩:=xInfo_parts Tryz.xInfoStr
        have HSO2:Hid (∀w',K_ w6 w'->w'.cell? ⟨rb,6,none⟩=some (.slice xa r.texts.length xc)):=fun w' K=> (HM6.out.kept K).box.all.2.2.2.2.2.2
        refine Qx.rg 6 HSO2.out fun wd KD Z_=> ?_
        refine Qx.tk 0 Z_ ?_
        refine Qx.tk 1 Z_ ?_
        refine Qx.tk 2 Z_ ?_
        refine Qx.nx 3 (fun K hK=> ?_)
        rw [if_pos (by rfl)]
        go_simp
        go_at_call 132
        refine (good_any wd d3 c3 xs (by omega) (HAn6.out.kept KD)).mono ?_
        rintro e w9 ⟨⟨g9,c9,rfl,hG9⟩,k9⟩
        have K9:=KD.trans k9
        have HG9:=Kz hG9
        have HM9:=Kz (HM6.out.kept K9)
        clear k9 hG9
        dsimp only
        refine hK.out _ _ (fun _=> HSO2.out _ K9) ?_
        clear hK K
        try simp only [Act.put,upA,upB,upC]
        refine Qx.nx 4 (fun K hK=> ?_)
        have hz9:w.heap.size<=w9.heap.size:=HM9.out.kw.size
        refine wp_append_strs (.tmp 80) (.tmp 82) 25 rfl w.heap.size 9 ic _ 16 Tryz.underlying25 hc0 hc1 hc2 hc3 rfl (.slice xa r.texts.length xc) r.texts.length (r.texts.map Value.string) rfl HM9.out.txt (some ⟨g9,0,none⟩) c9 (goodOf xs) rfl HG9.out (by unfold maxLen;omega) (by omega) hz9 ?_
        intro v2 w10 hown2 hgr hv2
        obtain ⟨av2,cv2,rfl⟩:=own_slice hown2
        have HM11:=Kz (HM9.out.texts hown2 hgr hv2)
        have kg:But (fun b=> (Value.slice xa r.texts.length xc).ownBlock=some b) w9 w10:=But.of_grown hgr (fun b e=> e)
        have hnr: ¬(Value.slice xa r.texts.length xc).ownBlock=some rb:=fun e=> type_ne (Yz HM9.out.txt e) HM9.out.box.row.type (by decide) rfl
        have hr10:=kg.row HM9.out.box.row hnr
        have hc10:w10.cell? ⟨rb,6,none⟩=some (.slice xa r.texts.length xc):= (kg.cell HM9.out.box.row.lt hnr).trans HM9.out.box.all.2.2.2.2.2.2
        have hng: ¬(Value.slice xa r.texts.length xc).ownBlock=some w5.heap.size:=fun e=> by
         have h1:= (HM3.out.txt.lt _ e).2
         have h2:w3.heap.size<=w5.heap.size:=hk53
         omega
        have e2b:w10.cell? ⟨w5.heap.size,2,none⟩=some (.int .i64 gt):= (kg.cell (Nat.lt_of_lt_of_le e3z K9.size) hng).trans ((K9.cell e3z).trans e2)
        have e2bz:w5.heap.size < w10.heap.size:=Nat.lt_of_lt_of_le (Nat.lt_of_lt_of_le e3z K9.size) kg.size
        refine hK.out _ _ (fun _=> hc10) ?_
        clear hK K
        try simp only [Act.put,upA,upB,upC]
        clear hown2 hgr hv2 kg hnr
        refine Qx.nx 5 (fun K hK=> ?_)
        go_simp
        refine hK.out _ _ (fun _=> hc10) ?_
        clear hK K
        try simp only [Act.put,upA,upB,upC]
        obtain ⟨_,g6⟩:=hr10.row.at (i:=6) (by omega)
        have hz10:=hr10.lt
        refine Qx.nx 6 (fun K hK=> ?_)
        go_simp
        refine hK.out _ _ (fun h=> absurd rfl h) ?_
        clear hK K
        try simp only [Act.put,upA,upB,upC]
        refine Qx.dn ?_
        have e2c: (w10.setCell ⟨rb,6,none⟩ (.slice av2 (r.texts.length+ (goodOf xs).length) cv2)).cell? ⟨w5.heap.size,2,none⟩=some (.int .i64 gt):=by rw [Zk hgne];exact e2b
        have e2cz:w5.heap.size < (w10.setCell ⟨rb,6,none⟩ (.slice av2 (r.texts.length+ (goodOf xs).length) cv2)).heap.size:=by rw [size_setCell];exact e2bz
        generalize hgw:w10.setCell ⟨rb,6,none⟩ (.slice av2 (r.texts.length+ (goodOf xs).length) cv2)=w11 at HM11 e2c e2cz⊢
        clear hgw hc10 hr10 g6 hz10 e2 e3z e2b e2bz Z_ HSO2 KD K9 HM9 HG9 HM6 HAn6
        obtain ⟨q0,q1,q2,q3,q4,q5,q6⟩:=HM11.out.box.all
        have qz:=HM11.out.box.row.lt
        obtain ⟨_,g4⟩:=HM11.out.box.row.row.at (i:=4) (by omega)
        go_wp2_with fail
        go_meet
        refine ⟨{ r with texts:=r.texts++goodOf xs,at':=gt },av2,cv2,Kz (HM11.out.put (by omega) rfl rfl),Kz (by unfold Y_;rw [HActR.out];simp only;rw [if_neg HVn.out,HStep.out,HXs.out];simp only;rw [if_neg H20.out,<-HGe.out,if_neg (by simp)]),hgt0,hgt1,lo,(by show r.Zj < 20;have:=H20.out;omega),(by show (r.texts++goodOf xs).length<=200;rw [List.length_append];omega),Kz (fun t ht=> ?_),HCan⟩
        rcases List.mem_append.1 ht with ht | ht
        ·exact HGd.out.ts t ht
        ·obtain ⟨x,hx,rfl⟩:=goodOf_mem ht
         exact HXt.out x hx
       ·go_upto_region 17 with fail
        generalize hgw:w5.alloc (.cells #[.int .i64 gc,.bool true,.int .i64 gt,.string gx] 198)=w6 at HM6 HAn6 e1 e2 e3 e3z K6⊢
        clear hgw e1 e2 HAn6 K6
        obtain ⟨q0,q1,q2,q3,q4,q5,q6⟩:=HM6.out.box.all
        have qz:=HM6.out.box.row.lt
        obtain ⟨_,g5⟩:=HM6.out.box.row.row.at (i:=5) (by omega)
        go_upto_region 18 with fail
        have HM7:Hid (AgM w (w6.setCell ⟨rb,5,none⟩ (.int .i64 (r.Zj+1))) rb zb ab y.cost (some ⟨tb,tq,none⟩) y.steps.length nc ({ r with Zj:=r.Zj+1 }) xa xc (.slice qa L.length qc) L):=HM6.out.put (by omega) rfl rfl
        have e32: (w6.setCell ⟨rb,5,none⟩ (.int .i64 (r.Zj+1))).cell? ⟨w5.heap.size,3,none⟩=some (.string gx):=by rw [Zk hgne];exact e3
        have e3z2:w5.heap.size < (w6.setCell ⟨rb,5,none⟩ (.int .i64 (r.Zj+1))).heap.size:=by rw [size_setCell];exact e3z
        generalize hgw:w6.setCell ⟨rb,5,none⟩ (.int .i64 (r.Zj+1))=w7 at HM7 e32 e3z2⊢
        clear hgw
        clear q0 q1 q2 q3 q4 q5 q6 qz
        clear g5
        clear e3 e3z
        have e3:=e32
        have e3z:=e3z2
        clear e32 e3z2
        obtain ⟨q0,q1,q2,q3,q4,q5,q6⟩:=HM7.out.box.all
        have qz:=HM7.out.box.row.lt
        obtain ⟨_,g1⟩:=HM7.out.box.row.row.at (i:=1) (by omega)
        go_upto_region 19 with fail
        have HM8:Hid (AgM w (w7.setCell ⟨rb,1,none⟩ (.bool true)) rb zb ab y.cost (some ⟨tb,tq,none⟩) y.steps.length nc ({ r with Zj:=r.Zj+1,over:=true }) xa xc (.slice qa L.length qc) L):=HM7.out.put (by omega) rfl rfl
        have e32: (w7.setCell ⟨rb,1,none⟩ (.bool true)).cell? ⟨w5.heap.size,3,none⟩=some (.string gx):=by rw [Zk hgne];exact e3
        have e3z2:w5.heap.size < (w7.setCell ⟨rb,1,none⟩ (.bool true)).heap.size:=by rw [size_setCell];exact e3z
        generalize hgw:w7.setCell ⟨rb,1,none⟩ (.bool true)=w8 at HM8 e32 e3z2⊢
        clear hgw
        clear q0 q1 q2 q3 q4 q5 q6 qz
        clear g1
        clear e3 e3z
        have e3:=e32
        have e3z:=e3z2
        clear e32 e3z2
        obtain ⟨q0,q1,q2,q3,q4,q5,q6⟩:=HM8.out.box.all
        have qz:=HM8.out.box.row.lt
        obtain ⟨_,g2⟩:=HM8.out.box.row.row.at (i:=2) (by omega)
        go_upto_region 20 with fail
        have HM9:Hid (AgM w (w8.setCell ⟨rb,2,none⟩ (.bool true)) rb zb ab y.cost (some ⟨tb,tq,none⟩) y.steps.length nc ({ r with Zj:=r.Zj+1,over:=true,fail:=true }) xa xc (.slice qa L.length qc) L):=HM8.out.put (by omega) rfl rfl
        have e32: (w8.setCell ⟨rb,2,none⟩ (.bool true)).cell? ⟨w5.heap.size,3,none⟩=some (.string gx):=by rw [Zk hgne];exact e3
        have e3z2:w5.heap.size < (w8.setCell ⟨rb,2,none⟩ (.bool true)).heap.size:=by rw [size_setCell];exact e3z
        generalize hgw:w8.setCell ⟨rb,2,none⟩ (.bool true)=w9 at HM9 e32 e3z2⊢
        clear hgw
        clear q0 q1 q2 q3 q4 q5 q6 qz
        clear g2
        clear e3 e3z
        have e3:=e32
        have e3z:=e3z2
        clear e32 e3z2
        obtain ⟨q0,q1,q2,q3,q4,q5,q6⟩:=HM9.out.box.all
        have qz:=HM9.out.box.row.lt
        obtain ⟨_,g3⟩:=HM9.out.box.row.row.at (i:=3) (by omega)
        go_upto_region 21 with fail
        have HM10:Hid (AgM w (w9.setCell ⟨rb,3,none⟩ (.string gx)) rb zb ab y.cost (some ⟨tb,tq,none⟩) y.steps.length nc ({ r with Zj:=r.Zj+1,over:=true,fail:=true,text:=gx }) xa xc (.slice qa L.length qc) L):=HM9.out.put (by omega) rfl rfl
        have e32: (w9.setCell ⟨rb,3,none⟩ (.string gx)).cell? ⟨w5.heap.size,3,none⟩=some (.string gx):=by rw [Zk hgne];exact e3
        have e3z2:w5.heap.size < (w9.setCell ⟨rb,3,none⟩ (.string gx)).heap.size:=by rw [size_setCell];exact e3z
        generalize hgw:w9.setCell ⟨rb,3,none⟩ (.string gx)=w10 at HM10 e32 e3z2⊢
        clear hgw
        clear q0 q1 q2 q3 q4 q5 q6 qz
        clear g3
        clear e3 e3z
        have e3:=e32
        have e3z:=e3z2
        clear e32 e3z2
        have HNe:Hid (Y_ (Q_ Kj) (Qj l) r= ({ r with Zj:=r.Zj+1,over:=true,fail:=true,text:=gx },[])):=by show _=_;unfold Y_;rw [HActR.out];simp only;rw [if_neg HVn.out,HStep.out,HXs.out];simp only;rw [if_neg H20.out,<-HGe.out,if_pos rfl]
        obtain ⟨cs,hcs⟩: ∃cs,cs=Qz.cells ({ r with Zj:=r.Zj+1,over:=true,fail:=true,text:=gx }) xa xc:= ⟨_,rfl⟩
        have hlen:cs.length=7:=by rw [hcs];rfl
        have HOne:Hid (cs.toArray.all (·.oneCell')=true):=by show _=_;rw [hcs];exact all_oneCell_toArray (by simp [Qz.cells,Value.oneCell'])
        have HRg:Hid (w10.rangeAt rb 0 cs):=by show World.rangeAt _ _ _ _;rw [hcs];exact HM10.out.box.rng
        have qz:=HM10.out.box.row.lt
        have HSZ:Hid ((Tryz.prog.info? 83).map (·.size)=some cs.toArray.size):=by show _=_;rw [Tryz.xSizeRun];simp [hlen]
        have HSZ2:Hid ((Tryz.prog.info? 83).map (·.size)=some cs.length):=by show _=_;rw [Tryz.xSizeRun,hlen]
        have HTh:Hid (w10.there zb 0 cs.toArray.size):=by show World.there _ _ _ _;simpa [hlen] using HM10.out.res.row.there (o:=0) (m:=7) (Nat.le_refl _)
        have HCs:=Kz hcs
        have HLen:=Kz hlen
        clear hcs hlen
        go_wp2_with (first | (refine wpList_load_mid rfl 83 _ rfl rb 0 rfl cs _ HRg.out Tryz.underlying83 rfl HSZ2.out ?_) | (refine wpList_store_mid rfl 83 _ _ rfl zb 0 cs.toArray rfl rfl HTh.out HSZ.out HOne.out ?_;rw [List.toList_toArray]))
        have hR:=World.rangeAt_setCells_same w10 zb 0 cs (by have:=HTh.out;simpa using this)
        refine bodyPost_ret_c2 cs _ _ Tryz.results86 rfl hR Tryz.underlying83 rfl HSZ2.out rfl rfl ?_
        have hce:=HCs.out
        subst hce
        exact HM10.out.ends (HNxt.out.trans (by rw [HNe.out,List.append_nil])) HCj1.out (fun h=> by have h1:=h.1;cases h1) rfl
   case rest=>
    clear q0 q1 q2 q3 q4 q5 q6 qz
    clear HM lo hi20 tl ha0 ha1
    obtain ⟨r1,xa1,xc1,HM,HNx,hb0,hb1,hv0,hv1,htl1,HTs,HCan⟩:=hcut
    obtain ⟨wM,rfl⟩: ∃wM,wM=wc:= ⟨_,rfl⟩
    have HCj1:Hid (∀i,i < j+1->CanGo (Q_ Kj) (Qj l) (againN (Q_ Kj) (Qj l) name i).1):=fun i hi=> by
     rcases Nat.lt_or_ge i j with g | g
     ·exact HCj.out i g
     ·obtain rfl:i=j:=by omega
      rw [HAg.out]
      exact HCan.out
    go_upto_region 24 with fail
    obtain ⟨q0,q1,q2,q3,q4,q5,q6⟩:=HM.out.box.all
    have qz:=HM.out.box.row.lt
    obtain ⟨_,g5⟩:=HM.out.box.row.row.at (i:=5) (by omega)
    go_upto_region 25 with fail
    have HM2:Hid (AgM w (wM.setCell ⟨rb,5,none⟩ (.int .i64 (r1.Zj+1))) rb zb ab y.cost na y.steps.length nc ({ r1 with Zj:=r1.Zj+1 }) xa1 xc1 (.slice qa L.length qc) L):=HM.out.put (by omega) rfl rfl
    generalize hgw:wM.setCell ⟨rb,5,none⟩ (.int .i64 (r1.Zj+1))=wP at HM2  ⊢
    clear hgw
    clear q0 q1 q2 q3 q4 q5 q6 qz
    clear g5
    obtain ⟨q0,q1,q2,q3,q4,q5,q6⟩:=HM2.out.box.all
    have qz:=HM2.out.box.row.lt
    dsimp only at q4
    obtain ⟨ix,hix⟩: ∃ix:Nat,r1.at'= (ix:Int):= ⟨r1.at'.toNat,by omega⟩
    have hixl:ix < y.steps.length:=by omega
    have hii: (ix:Int) < (y.steps.length:Int):=by omega
    obtain ⟨tb,tq,cs2,rfl,htb,hcs2,aa,ca,ac,cc,rfl,hAs,hCs,_⟩:= (Steps.kept HStw.out HM2.out.kw) ix hixl
    obtain ⟨s,hs⟩: ∃s,s=y.steps.getD ix Xj.zero:= ⟨_,rfl⟩
    rw [<-hs] at hcs2 hAs hCs
    have t0:=hcs2 0 _ rfl
    have t1:=hcs2 1 _ rfl
    have t2:=hcs2 2 _ rfl
    have t3:=hcs2 3 _ rfl
    have t4:=hcs2 4 _ rfl
    have t5:=hcs2 5 _ rfl
    have t6:=hcs2 6 _ rfl
    have t7:=hcs2 7 _ rfl
    rw [Nat.add_zero] at t0
    have hsm:s∈y.steps:=by rw [hs];simp [List.getD,hixl]
    have hal:= (hsz y hym s hsm).1
    have has:= (hsz y hym s hsm).2
    have hfy:=hft y hym
    have HStep:Hid (stepOf ⟨y.cost,y.steps⟩ r1.at'=s):=by show _=_;unfold stepOf;rw [hix,hs];rfl
    have p1:=HM2.out.a1
    have pz:=HM2.out.act.lt
    rw [hix] at q4
    have HAs:=Kz hAs
    clear hcs2 hAs hCs hs
    have hfs:=hfy.each s hsm
    clear hix
    go_upto_region 26 with fail
    have kS:K_ wP (wP.alloc (.cells #[.slice aa s.asks.length ca,.int .i64 s.on,.slice ac s.cases.length cc,.int .i64 s.els,.int .i64 s.fall,.bool s.fin,.bool s.bad,.string s.give] 191)):= (K_.refl _).alloc _
    have HM3:=Kz (HM2.out.kept kS)
    have HAs3:=Kz (HAs.out.kept kS)
    have v0:=Xz wP #[.slice aa s.asks.length ca,.int .i64 s.on,.slice ac s.cases.length cc,.int .i64 s.els,.int .i64 s.fall,.bool s.fin,.bool s.bad,.string s.give] 191 0 _ rfl
    have v5:=Xz wP #[.slice aa s.asks.length ca,.int .i64 s.on,.slice ac s.cases.length cc,.int .i64 s.els,.int .i64 s.fall,.bool s.fin,.bool s.bad,.string s.give] 191 5 _ rfl
    have v6:=Xz wP #[.slice aa s.asks.length ca,.int .i64 s.on,.slice ac s.cases.length cc,.int .i64 s.els,.int .i64 s.fall,.bool s.fin,.bool s.bad,.string s.give] 191 6 _ rfl
    have v7:=Xz wP #[.slice aa s.asks.length ca,.int .i64 s.on,.slice ac s.cases.length cc,.int .i64 s.els,.int .i64 s.fall,.bool s.fin,.bool s.bad,.string s.give] 191 7 _ rfl
    simp only [Nat.zero_add] at v0 v5 v6 v7
    have v0z:wP.heap.size < (wP.alloc (.cells #[.slice aa s.asks.length ca,.int .i64 s.on,.slice ac s.cases.length cc,.int .i64 s.els,.int .i64 s.fall,.bool s.fin,.bool s.bad,.string s.give] 191)).heap.size:=by simp
    obtain ⟨sb,hsb⟩: ∃sb,sb=wP.heap.size:= ⟨_,rfl⟩
    have hsv:sb≠rb:=by rw [hsb];omega
    have HTy:Hid (TypeAt (wP.alloc (.cells #[.slice aa s.asks.length ca,.int .i64 s.on,.slice ac s.cases.length cc,.int .i64 s.els,.int .i64 s.fall,.bool s.fin,.bool s.bad,.string s.give] 191)) sb 191):=by rw [hsb];exact (RowT.made wP _ _).type
    rw [<-hsb] at v0 v5 v6 v7 v0z⊢
    generalize hgw:wP.alloc (.cells #[.slice aa s.asks.length ca,.int .i64 s.on,.slice ac s.cases.length cc,.int .i64 s.els,.int .i64 s.fall,.bool s.fin,.bool s.bad,.string s.give] 191)=wQ at HM3 HAs3 HTy v0 v5 v6 v7 v0z⊢
    clear hgw kS hsb t0 t1 t2 t3 t4 t5 t6 t7 p1 pz htb HAs HM2
    clear q0 q1 q2 q3 q4 q5 q6 qz
    obtain ⟨ic,hc0,hc1,hc2,hc3⟩:=xInfo_parts Tryz.xInfoStr
    have hzQ:w.heap.size<=wQ.heap.size:=HM3.out.kw.size
    go_upto_region 27 with (at_builtin;refine wpList_append_strs rfl (.tmp 98) (.tmp 100) 25 rfl w.heap.size 9 ic _ 16 Tryz.underlying25 hc0 hc1 hc2 hc3 rfl (.slice qa L.length qc) L.length (L.map Value.string) rfl HM3.out.ask aa ca s.asks rfl HAs3.out (by unfold maxLen;omega) (by omega) hzQ ?_;intro vA wA hoA hgA hvA;obtain ⟨qa2,qc2,rfl⟩:=own_slice hoA;have HM4:=Kz (HM3.out.asks hoA hgA hvA);have kA:But (fun b=> (Value.slice qa L.length qc).ownBlock=some b) wQ wA:=But.of_grown hgA (fun b e=> e);have HnA:Hid (¬(Value.slice qa L.length qc).ownBlock=some sb):=fun e=> type_ne HTy.out (Yz HM3.out.ask e) (by decide) rfl)
    have u5:= (kA.cell v0z HnA.out (o:=5)).trans v5
    have u6:= (kA.cell v0z HnA.out (o:=6)).trans v6
    have u7:= (kA.cell v0z HnA.out (o:=7)).trans v7
    have u5z:=Nat.lt_of_lt_of_le v0z kA.size
    have u6z:=u5z
    have u7z:=u5z
    clear v0 v5 v6 v7 v0z kA HnA hoA hgA hvA HM3 HAs3 HTy hzQ hc0 hc1 hc2 hc3
    have hlen2: (L++s.asks).length=L.length+s.asks.length:=List.length_append
    have HL2:=Kz hlen2
    clear hlen2
    cases hfin:s.fin
    ·rw [hfin] at u5
     go_wp2_with fail
     go_roundg (gk - 1)
     case measure=> omega
     case rel=>
      have HNe:againN (Q_ Kj) (Qj l) name (j+1)= ({ r1 with Zj:=r1.Zj+1 },L++s.asks):=by rw [HNxt.out,HNx.out];unfold arrive;rw [HStep.out,hfin];rfl
      exact ⟨j+1,xa1,xc1,qa2,qc2,by rw [HNe,HL2.out],by omega,HCj1,Kz (by rw [HNe];dsimp only;rw [HL2.out];exact HM4.out)⟩
    ·rw [hfin] at u5
     go_upto_region 28 with fail
     obtain ⟨q0,q1,q2,q3,q4,q5,q6⟩:=HM4.out.box.all
     have qz:=HM4.out.box.row.lt
     obtain ⟨_,g1⟩:=HM4.out.box.row.row.at (i:=1) (by omega)
     go_upto_region 29 with fail
     have HM5:Hid (AgM w (wA.setCell ⟨rb,1,none⟩ (.bool true)) rb zb ab y.cost (some ⟨tb,tq,none⟩) y.steps.length nc ({ r1 with Zj:=r1.Zj+1,over:=true }) xa1 xc1 (.slice qa2 (L.length+s.asks.length) qc2) (L++s.asks)):=HM4.out.put (by omega) rfl rfl
     have u62: (wA.setCell ⟨rb,1,none⟩ (.bool true)).cell? ⟨sb,6,none⟩=some (.bool s.bad):=by rw [Zk hsv];exact u6
     have u6z2:sb < (wA.setCell ⟨rb,1,none⟩ (.bool true)).heap.size:=by rw [size_setCell];exact u6z
     have u72: (wA.setCell ⟨rb,1,none⟩ (.bool true)).cell? ⟨sb,7,none⟩=some (.string s.give):=by rw [Zk hsv];exact u7
     have u7z2:sb < (wA.setCell ⟨rb,1,none⟩ (.bool true)).heap.size:=by rw [size_setCell];exact u7z
     generalize hgw:wA.setCell ⟨rb,1,none⟩ (.bool true)=wR at HM5 u62 u6z2 u72 u7z2⊢
     clear hgw
     clear q0 q1 q2 q3 q4 q5 q6 qz
     clear g1
     clear u6 u6z
     have u6:=u62
     have u6z:=u6z2
     clear u62 u6z2
     clear u7 u7z
     have u7:=u72
     have u7z:=u7z2
     clear u72 u7z2
     obtain ⟨q0,q1,q2,q3,q4,q5,q6⟩:=HM5.out.box.all
     have qz:=HM5.out.box.row.lt
     obtain ⟨_,g2⟩:=HM5.out.box.row.row.at (i:=2) (by omega)
     go_upto_region 30 with fail
     have HM6:Hid (AgM w (wR.setCell ⟨rb,2,none⟩ (.bool s.bad)) rb zb ab y.cost (some ⟨tb,tq,none⟩) y.steps.length nc ({ r1 with Zj:=r1.Zj+1,over:=true,fail:=s.bad }) xa1 xc1 (.slice qa2 (L.length+s.asks.length) qc2) (L++s.asks)):=HM5.out.put (by omega) rfl rfl
     have u62: (wR.setCell ⟨rb,2,none⟩ (.bool s.bad)).cell? ⟨sb,6,none⟩=some (.bool s.bad):=by rw [Zk hsv];exact u6
     have u6z2:sb < (wR.setCell ⟨rb,2,none⟩ (.bool s.bad)).heap.size:=by rw [size_setCell];exact u6z
     have u72: (wR.setCell ⟨rb,2,none⟩ (.bool s.bad)).cell? ⟨sb,7,none⟩=some (.string s.give):=by rw [Zk hsv];exact u7
     have u7z2:sb < (wR.setCell ⟨rb,2,none⟩ (.bool s.bad)).heap.size:=by rw [size_setCell];exact u7z
     generalize hgw:wR.setCell ⟨rb,2,none⟩ (.bool s.bad)=wS at HM6 u62 u6z2 u72 u7z2⊢
     clear hgw
     clear q0 q1 q2 q3 q4 q5 q6 qz
     clear g2
     clear u6 u6z
     have u6:=u62
     have u6z:=u6z2
     clear u62 u6z2
     clear u7 u7z
     have u7:=u72
     have u7z:=u7z2
     clear u72 u7z2
     obtain ⟨q0,q1,q2,q3,q4,q5,q6⟩:=HM6.out.box.all
     have qz:=HM6.out.box.row.lt
     have hgs:s.give.size<=maxLen:=hfs.give
     have htl2:r1.texts.length<=maxLen:=by unfold maxLen;omega
     have hts2: ∀t∈r1.texts,t.size<=maxLen:=fun t ht=> by have:=HTs.out t ht;unfold maxLen;omega
     have HTS:Hid (Strs wS xa1 r1.texts):=by
      obtain ⟨ta,tc,hte,htS⟩:=owned_strs HM6.out.txt
      simp only [Value.slice.injEq] at hte
      rw [hte.1]
      exact htS
     go_wp2_with fail
     refine (specFinish_any wS s.give xa1 xc1 r1.texts hgs htl2 hts2 HTS.out).mono ?_
     rintro e wT ⟨rfl,kT⟩
     have HM7:=Kz (HM6.out.kept kT)
     clear u6 u7 u6z u7z kT hts2 HTS
     clear q0 q1 q2 q3 q4 q5 q6 qz
     obtain ⟨fb,hfb⟩: ∃fb,fb=finB s.give r1.texts:= ⟨_,rfl⟩
     rw [<-hfb]
     have HFb:=Kz hfb
     clear hfb
     obtain ⟨q0,q1,q2,q3,q4,q5,q6⟩:=HM7.out.box.all
     have qz:=HM7.out.box.row.lt
     obtain ⟨_,g3⟩:=HM7.out.box.row.row.at (i:=3) (by omega)
     go_wp2_with fail
     have HM8:Hid (AgM w (wT.setCell ⟨rb,3,none⟩ (.string fb)) rb zb ab y.cost (some ⟨tb,tq,none⟩) y.steps.length nc ({ r1 with Zj:=r1.Zj+1,over:=true,fail:=s.bad,text:=fb }) xa1 xc1 (.slice qa2 (L.length+s.asks.length) qc2) (L++s.asks)):=HM7.out.put (by omega) rfl rfl
     go_roundg (gk - 1)
     case measure=> omega
     case rel=>
      have HNe:againN (Q_ Kj) (Qj l) name (j+1)= ({ r1 with Zj:=r1.Zj+1,over:=true,fail:=s.bad,text:=fb },L++s.asks):=by rw [HNxt.out,HNx.out];unfold arrive;rw [HStep.out,hfin,HFb.out];rfl
      exact ⟨j+1,xa1,xc1,qa2,qc2,by rw [HNe,HL2.out],by omega,HCj1,Kz (by rw [HNe];dsimp only;rw [HL2.out];exact HM8.out)⟩
def ovr :List Value->Nat->List Value->List Value
 | xs,_,[]=> xs
 | xs,o,v :: vs=> ovr (xs.set o v) (o+1) vs
theorem ovr_len : ∀(vs xs:List Value) (o:Nat),(ovr xs o vs).length=xs.length
 | [],_,_=> rfl
 | v :: vs,xs,o=> by unfold ovr;rw [ovr_len vs];simp
theorem ovr_get : ∀(vs xs:List Value) (o j:Nat),j < xs.length->(ovr xs o vs)[j]? =if o<=j∧j < o+vs.length then vs[j - o]? else xs[j]?
 | [],xs,o,j,_=> by unfold ovr;rw [if_neg (by simp)]
 | v :: vs,xs,o,j,hj=> by
  unfold ovr
  rw [ovr_get vs _ _ _ (by simpa using hj)]
  by_cases h1:o+1<=j∧j < o+1+vs.length
  ·rw [if_pos h1,if_pos (by simp;omega),show j - o= (j - (o+1))+1 by omega,List.getElem?_cons_succ]
  ·rw [if_neg h1]
   by_cases h2:j=o
   ·subst h2
    rw [if_pos (by simp),Nat.sub_self,List.getElem?_cons_zero,List.getElem?_set_self hj]
   ·rw [if_neg (by simp;omega),List.getElem?_set_ne (Ne.symm h2)]
theorem own_sets {base size n cap g:Nat} {e:TypeId}: ∀(vs:List Value) {w:World} {xs:List Value} (o:Nat),w.ownsRow base e size (.slice (some ⟨g,0,none⟩) n cap) n xs->(w.setCells g o vs).ownsRow base e size (.slice (some ⟨g,0,none⟩) n cap) n (ovr xs o vs)
 | [],_,_,_,h=> h
 | v :: vs,w,xs,o,h=> by
  rw [World.setCells]
  unfold ovr
  exact own_sets vs (o+1) (h.stored o v).1
theorem ovr_take {xs:List Value} {l:List Qz} {i:Nat} {cs:List Value} (hx:xs.length=l.length * 7) (hc:cs.length=7) (j:Nat) (hj:j < l.length) (hi:i < l.length): ((ovr xs (i * 7) cs).drop (j * 7)).take 7=if j=i then cs else (xs.drop (j * 7)).take 7:=by
 apply List.ext_getElem?
 intro k
 rw [List.getElem?_take]
 by_cases hk:k < 7
 ·rw [if_pos hk,List.getElem?_drop,ovr_get _ _ _ _ (by rw [hx];omega),hc]
  by_cases e:j=i
  ·subst e
   rw [if_pos rfl,if_pos (by omega),show j * 7+k - j * 7=k by omega]
  ·rw [if_neg e,if_neg (by omega),List.getElem?_take,if_pos hk,List.getElem?_drop]
 ·rw [if_neg hk]
  by_cases e:j=i
  ·rw [if_pos e,List.getElem?_eq_none (by omega)]
  ·rw [if_neg e,List.getElem?_take,if_neg hk]
theorem PackedZ.set {w:World} {xs:List Value} {l:List Qz} {r:Qz} {xa:Option Addr} {xc i:Nat} (h:PackedZ w xs l) (hi:i < l.length) (hs:TStrs w 9 xa r.texts) (hx:xa=none->xc=0):PackedZ w (ovr xs (i * 7) (r.cells xa xc)) (l.set i r):=by
 refine ⟨by rw [ovr_len,List.length_set];exact h.1,fun j hj=> ?_⟩
 rw [List.length_set] at hj
 rw [ovr_take h.1 (by rfl) j hj hi]
 by_cases e:j=i
 ·subst e
  have e1: (l.set j r).getD j Qz.zero=r:=by simp [List.getD,hj]
  rw [if_pos rfl,e1]
  exact ⟨xa,xc,rfl,hs,hx⟩
 ·have e1: (l.set i r).getD j Qz.zero=l.getD j Qz.zero:=by simp [List.getD,List.getElem?_set_ne (Ne.symm e)]
  rw [if_neg e,e1]
  exact h.2 j hj
theorem PackedZ.one {w:World} {xs:List Value} {l:List Qz} (h:PackedZ w xs l): ∀u∈xs,u.oneCell'=true:=fun u hu=> by
 obtain ⟨j,hj,rfl⟩:=List.getElem_of_mem hu
 have hi:j / 7 < l.length:=by have:=h.1;omega
 obtain ⟨xa,xc,e,_⟩:=h.2 (j / 7) hi
 have hm:xs[j]∈(xs.drop (j / 7 * 7)).take 7:=by
  refine List.mem_iff_getElem?.2 ⟨j % 7, ?_⟩
  rw [List.getElem?_take,if_pos (Nat.mod_lt _ (by omega)),List.getElem?_drop,show j / 7 * 7+j % 7=j by omega]
  exact List.getElem?_eq_getElem hj
 rw [e] at hm
 exact Qz.one _ _ _ _ hm
theorem PackedZ.at {w:World} {base n cap g:Nat} {xs:List Value} {l:List Qz} (h:PackedZ w xs l) (hO:w.ownsRow base 83 7 (.slice (some ⟨g,0,none⟩) n cap) n xs) {i:Nat} (hi:i < l.length): ∃xa xc,w.rangeAt g (i * 7) ((l.getD i Qz.zero).cells xa xc)∧TStrs w 9 xa (l.getD i Qz.zero).texts∧(xa=none->xc=0)∧w.there g (i * 7) 7:=by
 obtain ⟨xa,xc,e,ht,hx⟩:=h.2 i hi
 have hn:n=l.length:=by have q1:=hO.1;have q2:=h.1;omega
 refine ⟨xa,xc,fun j u hu=> ?_,ht,hx,fun j hj=> ?_⟩
 ·have hj:j < 7:=by have:= (List.getElem?_eq_some_iff.1 hu).1;simpa [Qz.cells] using this
  have hx': ((xs.drop (i * 7)).take 7)[j]? =some u:=by rw [e];exact hu
  rw [List.getElem?_take,if_pos hj,List.getElem?_drop] at hx'
  have:=hO.cells (g:=g) rfl _ _ hx'
  rw [Addr.add_mid,Nat.zero_add] at this
  exact this
 ·refine ⟨?_,hO.frozenAt _⟩
  rw [hO.cellAt _ (by omega),List.getElem?_eq_getElem (by rw [h.1];omega)]
  rfl
theorem but_cells {g:Nat}: ∀(vs:List Value) (o:Nat) (w:World),But (fun b=> b=g) w (w.setCells g o vs)
 | [],_,w=> But.of_kept (K_.refl w)
 | v :: vs,o,w=> by
  rw [World.setCells]
  exact (But.set (S:=fun b=> b=g) (But.of_kept (K_.refl w)) (p:= ⟨g,o,none⟩) rfl v).trans (but_cells vs (o+1) _)
theorem kn_ne {w:World} {kb g n cap base m:Nat} {a:Option Addr} {d:Option Addr} {k dc c2:Nat} {xs:List Value} (h:KnownX w kb a n cap d m dc) (hO:w.ownsRow base 83 7 (.slice (some ⟨g,0,none⟩) k c2) k xs):kb≠g:=fun e=> by
 subst e
 exact own_ne h.row hO rfl
theorem KnZ.other {wz wr:World} {kb n cap dc g base c2 m:Nat} {a d:Option Addr} {R:List Qz} {xs ys:List Value} (h:KnZ wz wr wr kb (.slice d R.length dc) a n cap R d dc xs) (hO:wr.ownsRow base 83 7 (.slice (some ⟨g,0,none⟩) m c2) m ys) (hb:wz.heap.size<=g) (hg: (Value.slice d R.length dc).ownBlock≠some g) (o:Nat) (vs:List Value):
  KnZ wz (wr.setCells g o vs) (wr.setCells g o vs) kb (.slice d R.length dc) a n cap R d dc xs:=by
 have k:=but_cells vs o wr (g:=g)
 have hk:=kn_ne h.known hO
 exact ⟨kept_sets hb vs o h.kw,But.of_kept (K_.refl _),fun _ e=> .inl e,⟨k.row h.known.row hk,(k.cell h.known.row.lt hk).trans h.known.web,(k.cell h.known.row.lt hk).trans h.known.runs⟩,k.owns h.own (fun b e (e2:b=g)=> hg (by rw [e,e2])),h.pack.but k (fun b (e:b=g)=> by rw [e];exact run_not_str hO g rfl),h.nl⟩
theorem KnZ.over {wz wr:World} {kb n cap dc g i:Nat} {a:Option Addr} {R:List Qz} {xs:List Value} {r:Qz} {xa:Option Addr} {xc:Nat} (h:KnZ wz wr wr kb (.slice (some ⟨g,0,none⟩) R.length dc) a n cap R (some ⟨g,0,none⟩) dc xs) (hi:i < R.length) (hs:TStrs wr 9 xa r.texts) (hx:xa=none->xc=0):
  KnZ wz (wr.setCells g (i * 7) (r.cells xa xc)) (wr.setCells g (i * 7) (r.cells xa xc)) kb (.slice (some ⟨g,0,none⟩) (R.set i r).length dc) a n cap (R.set i r) (some ⟨g,0,none⟩) dc (ovr xs (i * 7) (r.cells xa xc)):=by
 have k:=but_cells (r.cells xa xc) (i * 7) wr (g:=g)
 have hk:=kn_ne h.known h.own
 have hb:wz.heap.size<=g:= (h.own.lt g rfl).1
 have hns: ∀b,b=g->¬TypeAt wr b 9:=fun b e=> by rw [e];exact run_not_str h.own g rfl
 refine ⟨kept_sets hb _ _ h.kw,But.of_kept (K_.refl _),fun _ e=> .inl e,⟨k.row h.known.row hk,(k.cell h.known.row.lt hk).trans h.known.web, ?_⟩, ?_, ?_,fun e=> (by rw [List.length_set] at e;omega)⟩
 ·rw [List.length_set];exact (k.cell h.known.row.lt hk).trans h.known.runs
 ·rw [List.length_set];exact own_sets _ _ h.own
 ·exact (h.pack.set hi hs hx).but k hns
