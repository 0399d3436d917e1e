import Derived.Test.YtgnkgfjmbmcfcaaGreatDoorKCNeeds
import Derived.Test.YtgnkgfjmbmcfcaaGreatDoorKCTold
import Derived.Test.YtgnkgfjmbmcfcaaGreatDoorKCCirc
import Derived.Deep.Cut
import Derived.Test.YtgnkgfjmbmcfcaaGreatDoorKBWaitsI
import Derived.Test.YtgnkgfjmbmcfcaaGreatDoorKCResR
import Derived.Test.YtgnkgfjmbmcfcaaGreatDoorKXWork
import Derived.Deep.MidRow
set_option maxRecDepth 100000
set_option maxHeartbeats 25600000
namespace Go.Proofs.YtgnkgfjmbmcfcaaGreatDoor
open Go.RowKit
def ChainEnd (E:ByteArray->ByteArray->Prop) (w w':World) (e:Ending):Prop:=
 ∃(da:Option Addr) (ns:List ByteArray),e= .returned (.slice da ns.length ns.length)∧StrsIn w' w.heap.size w'.heap.size da ns∧ns.length<=60∧CircX E ns∧K_ w w'
theorem chainOf_any (w:World) (mo:Nat) (kp:ByteArray->Prop) (ol:ByteArray->List ByteArray) (all:List ByteArray) (hall: ∀s,kp s->s∈all) (hal:all.length<=60) (hks: ∀s,kp s->s.size<=20) (hol: ∀s,(ol s).length<=1000000) (hL:ListsM w mo kp ol):
  Calls Tryz.prog 83 #[.map (some mo)] w fun e w'=> ChainEnd (fun x y=> y∈ol x) w w' e:=by
 go_enter Tryz.func83,Tryz.ntmps83
 go_wp2_with fail
 refine (needsOf_any w mo kp ol all hall hal hks hol hL).mono ?_
 rintro e w1 ⟨na,nc,nm,nb,mb,M,need,back,rfl,hasc,hmem,hV,hR,hM,k1⟩
 have hn60:nm.length<=60:=by
  refine Nat.le_trans (List.Nodup.length_le_of_subset ?_ (fun x hx=> hall x ((hmem x).1 hx))) hal
  exact hasc.imp fun {a b} hab=> lessX_ne hab
 have HPl:Hid (Places (fun x y=> y∈ol x) nm):= ⟨hasc,fun x y hxy=> (hmem x).2 (hL.sub x (fun e=> by rw [e] at hxy;cases hxy))⟩
 have HSm:Hid (∀s∈nm,s.size<=1048576):=fun s hs=> by have:=hks s ((hmem s).1 hs);omega
 have HR:=Kz hR
 obtain ⟨W2,hW2⟩: ∃W2,W2=w1.alloc (.cells #[.slice na nm.length nc,.slice (some ⟨nb,0,none⟩) nm.length nm.length,.slice (some ⟨mb,0,none⟩) nm.length nm.length] 203):= ⟨_,rfl⟩
 have k2:K_ w1 W2:=by rw [hW2];exact (K_.refl _).alloc _
 obtain ⟨xb,hxb⟩: ∃xb,xb=w1.heap.size:= ⟨_,rfl⟩
 have Zz:Hid (∀u,K_ W2 u->u.cell? ⟨xb,0,none⟩=some (.slice na nm.length nc)∧u.cell? ⟨xb,1,none⟩=some (.slice (some ⟨nb,0,none⟩) nm.length nm.length)∧u.cell? ⟨xb,2,none⟩=some (.slice (some ⟨mb,0,none⟩) nm.length nm.length)):=fun u k=> by
  have z1:w1.heap.size < W2.heap.size:=by rw [hW2];simp
  have h:=Xz w1 #[.slice na nm.length nc,.slice (some ⟨nb,0,none⟩) nm.length nm.length,.slice (some ⟨mb,0,none⟩) nm.length nm.length] 203
  rw [<-hW2] at h
  rw [hxb]
  exact ⟨(k.cell z1).trans (h 0 _ rfl),(k.cell z1).trans (h 1 _ rfl),(k.cell z1).trans (h 2 _ rfl)⟩
 have HV2:=Kz (hV.kept k2)
 have HK2:=Kz (k1.trans k2)
 have HW2:=Kz hW2
 have HXb:=Kz hxb
 clear hasc hmem hV hR k1 k2 hW2 hxb
 go_upto_region 2 with fail
 rw [<-HW2.out,<-HXb.out]
 refine Qx.rg 4 Zz.out fun wd KD Z_=> ?_
 refine Qx.tk 0 Z_ ?_
 refine Qx.tk 1 Z_ ?_
 refine Qx.nx 2 (fun K hK=> ?_)
 rw [if_pos (by rfl)]
 go_simp
 go_at_call 134
 refine (circle_any wd na nc nm nb mb need back _ M hn60 hM (HV2.out.kept KD) HR.out).mono ?_
 rintro e w3 ⟨pa,pc,best,rfl,hNb,hb60,hbm,hbe,k3⟩
 have K3:=KD.trans k3
 have HNb:=Kz hNb
 have HBe:=Kz hbe
 have HBm:=Kz hbm
 clear hNb hbe hbm
 dsimp only
 refine hK.out _ _ (fun _=> Zz.out _ K3) ?_
 clear hK K Z_
 try simp only [Act.put,upA,upB,upC]
 refine Qx.nx 3 (fun K hK=> ?_)
 rw [if_pos (by rfl)]
 go_simp
 go_at_call 133
 refine (told_any w3 na nc nm _ _ rfl rfl pa pc best HBm.out (by omega) (by omega) HSm.out (HV2.out.kept K3).names HNb.out).mono ?_
 rintro e w4 ⟨da,rfl,hT,k4⟩
 have K4:=K3.trans k4
 have HT:=Kz hT
 have HK3:=Kz (HK2.out.trans K3)
 clear hT
 dsimp only
 refine hK.out _ _ (fun _=> Zz.out _ K4) ?_
 clear hK K
 try simp only [Act.put,upA,upB,upC]
 refine Qx.nx 4 (fun K hK=> ?_)
 go_simp
 refine hK.out _ _ (fun h=> absurd rfl h) ?_
 clear hK K
 try simp only [Act.put,upA,upB,upC]
 refine Qx.dn ?_
 clear Zz HR
 go_wp2_with fail
 go_ret
 refine ⟨da,best.map (nameOf nm),by rw [List.length_map];rfl,HT.out.mono HK3.out.size (Nat.le_refl _),by rw [List.length_map];exact hb60,HBe.out.circ HPl.out,HK3.out.trans k4⟩
def ToldIn (P:OutD->Prop) (w w':World) (e:Ending):Prop:=
 ∃(o:OutD) (a f:Option Addr) (c e0 mid:Nat),e= .returned (.agg #[.int .i64 o.code,.slice a o.res.length c,.slice f o.chain.length e0,.int .i64 o.units,.int .i64 o.cost])∧P o∧RessIn w' w.heap.size mid a o.res∧StrsIn w' mid w'.heap.size f o.chain∧w.heap.size<=mid∧mid<=w'.heap.size∧K_ w w'
theorem ress_in_sets {w:World} {lo hi g:Nat} {vs:List Value} {a:Option Addr} {l:List ResD} (h:RessIn w lo hi a l) (hg:g < lo∨hi<=g):RessIn (w.setCells g 0 vs) lo hi a l:=h.same (Same.setCells hg vs 0 w)
theorem strs_in_sets {w:World} {lo hi g:Nat} {vs:List Value} {a:Option Addr} {l:List ByteArray} (h:StrsIn w lo hi a l) (hg:g < lo∨hi<=g):StrsIn (w.setCells g 0 vs) lo hi a l:=h.same (Same.setCells hg vs 0 w)
section
variable {G : Ghost} {Kj : List Qq} {wz w w' : World} {bb : Nat} {a : Option Addr} {cap : Nat} {rd : Option Addr} {rc : Nat} {mb mx : Nat} {ts : List Zx} {d : Option Addr} {dc : Nat} {f : ByteArray -> Value} {ws : ByteArray -> List Nat}
theorem benchTold_any (Kk:List ByteArray) (sl:List Qz) (hB:BM G Kj wz w bb a cap rd Kk.length rc mb mx ts d dc f ws) (hBS:BS Kj ts ws) (hmx:mx<=9000) (hv:ValidX Kj Kk sl) (hrn:Qk ts=sl) (hR:Strs w rd Kk):
  Calls Tryz.prog 32 #[.pointer (some ⟨bb,0,none⟩)] w fun e w'=> ToldIn (ToldAns Kj Kk sl) w w' e:=by
 have HB:=Kz hB
 have HBS:=Kz hBS
 have HVx:=Kz hv
 have HRn:=Kz hrn
 have HGd:=Kz hv.good
 have hok:=web_acts hv.1
 have hN6:=HB.out.len (web_len hv.1)
 have hs60:sl.length<=60:=Nat.le_trans hv.good.len (web_len hv.1)
 have hr10:Kk.length<=10:=hv.2.1.2.1
 have HNm:Hid (∀n∈Kk,n.size<=20):=fun n hn=> by
  obtain ⟨i,hi,rfl⟩:=List.getElem_of_mem hn
  have h:= (hv.2.1.2.2 i hi).1.2.1
  simpa [List.getD,hi] using h
 have HRr:Hid (∀n∈Kk,(∃t∈ts,t.r.name=n)∨Q_ Kj n=none):=fun n hn=> by
  rcases hv.rootsIn n hn with ⟨r,h1,h2⟩ | h1
  ·rw [<-hrn] at h1
   obtain ⟨t,ht,e⟩:=List.mem_map.1 h1
   exact .inl ⟨t,ht,by rw [e];exact h2⟩
  ·exact .inr h1
 have bbz:=HB.out.row.lt
 clear hB hBS hv hrn
 obtain ⟨W0,hW0⟩: ∃W0,W0=w.alloc (.cells #[.int .i64 0,.slice none 0 0,.slice none 0 0,.int .i64 0,.int .i64 0] 31):= ⟨_,rfl⟩
 have k0:K_ w W0:=by rw [hW0];exact (K_.refl _).alloc _
 have z0:W0.heap.size=w.heap.size+1:=by rw [hW0];simp
 have HRes:Hid (RowT W0 w.heap.size 31 5):=by rw [hW0];exact RowT.made w _ _
 have c2:= (HB.out.kept k0).c2
 go_enter Tryz.func32,Tryz.ntmps32
 go_upto_region 1 with fail
 rw [<-hW0]
 clear hW0
 go_wp2_with fail
 refine (resultsOf_any (HB.out.kept k0) (by rw [HRn.out];exact HVx.out.openT) (by omega) rd rc Kk (by omega) (fun n hn=> ⟨by have:=HNm.out n hn;omega,HRr.out n hn⟩) (fun n hn=> by rw [HRn.out];have:=resX_size HGd.out (HNm.out n hn);omega) (hR.kept k0)).mono ?_
 rintro e w1 ⟨ra,rfl,hI1,k1⟩
 obtain ⟨R,hRx⟩: ∃R,R=resX (Q_ Kj) (Qj sl):= ⟨_,rfl⟩
 rw [HRn.out,<-hRx] at hI1
 obtain ⟨ob,hob⟩: ∃ob,ob=w1.heap.size:= ⟨_,rfl⟩
 obtain ⟨W2,hW2⟩: ∃W2,W2=w1.alloc (.cells #[.int .i64 0,.slice ra Kk.length Kk.length,.slice none 0 0,.int .i64 0,.int .i64 0] 31):= ⟨_,rfl⟩
 have k2:K_ w1 W2:=by rw [hW2];exact (K_.refl _).alloc _
 have HOB2:Hid (OutB W2 ob W2 0 (.slice ra Kk.length Kk.length) 0 0):=by
  obtain ⟨q0,q1,q2,q3,q4⟩:=fiveCells (w:=w1) (w1:=W2) (v0:= .int .i64 0) (v1:= .slice ra Kk.length Kk.length) (v2:= .slice none 0 0) (v3:= .int .i64 0) (v4:= .int .i64 0) (t:=31) (by rw [hW2];exact K_.refl _)
  rw [<-hob] at q0 q1 q2 q3 q4
  exact ⟨But.of_kept (K_.refl _),by rw [hW2,hob];exact RowT.made w1 _ _,q0,q1,q2,q3,q4⟩
 have hob2:ob < W2.heap.size:=by rw [hW2,hob];simp
 have hz1:=k1.size
 have hw1b:w.heap.size+1<=ob:=by omega
 have HI1:Hid (RessIn W2 W0.heap.size ob ra (Kk.map R)):=by rw [hob];exact hI1.same (k2.same _ _)
 have KW2:=k0.trans (k1.trans k2)
 have HRs2:=Kz (HRes.out.kept (k1.trans k2))
 have HRx:=Kz hRx
 have HC:Hid (∀u,But (fun b=> b=ob) W2 u->K_ w u∧RowT u w.heap.size 31 5∧RessIn u W0.heap.size ob ra (Kk.map R)∧W2.heap.size<=u.heap.size):=fun u h=> ⟨h.kept KW2 (fun b e=> by rw [e];omega),h.row HRs2.out (fun (e:w.heap.size=ob)=> by omega),HI1.out.same (fun b h1 h2 _=> h.block b (by omega) (fun (e:b=ob)=> by omega)),h.size⟩
 have c3:= (HB.out.kept KW2).c3
 have bbz2:bb < W2.heap.size:=by omega
 go_upto_region 2 with fail
 rw [<-hW2,<-hob]
 clear hW2 hob k2 k1 HI1 hRx hI1 HRes HRs2 c2 KW2
 have HUs:Hid (0=unitsX (sl.take 0)∧0=costX (Q_ Kj) (sl.take 0)):= ⟨rfl,rfl⟩
 have hbo: ¬ob=bb:=by omega
 go_wp2_with fail
 go_loopw [20] (fun x20 wr=> ∃(i:Nat) (uu cc:Int),i<=ts.length∧x20= .int .i64 (i:Int)∧Hid (uu=unitsX (sl.take i)∧cc=costX (Q_ Kj) (sl.take i))∧Hid (OutB W2 ob wr 0 (.slice ra Kk.length Kk.length) uu cc)) (fun x20 _=> ts.length - (intOf x20).toNat)
 case atStart=> exact ⟨0,0,0,Nat.zero_le _,rfl,HUs,HOB2⟩
 case round=>
  clear HUs HOB2 c3
  obtain ⟨i,uu,cc,hi,rfl,HU,HO⟩:=hrel
  obtain ⟨Kr,hRr,hIr,hzr⟩:=HC.out wr HO.out.but
  have HKw:=Kz Kr
  have HRr:=Kz hRr
  have HIr:=Kz hIr
  clear Kr hRr hIr
  have hsum:=sums_le hok HGd.out hs60 i
  rw [<-HU.out.1,<-HU.out.2] at hsum
  have hrl: (Qk ts).length=ts.length:=by simp [Qk]
  by_cases hil:i < ts.length
  ·have hii: (i:Int) < (ts.length:Int):=by omega
   obtain ⟨g,hdg,hcell⟩:= (HB.out.kept HKw.out).item hil
   have hgw:g < w.heap.size:=by
    obtain ⟨g',hdg',_⟩:=HB.out.item hil
    rw [hdg] at hdg'
    cases hdg'
    exact (HB.out.items.lt g (by rw [hdg];rfl)).2
   subst hdg
   obtain ⟨tk,htk⟩: ∃tk,tk=ts[i]:= ⟨_,rfl⟩
   rw [<-htk] at hcell
   have hmem:tk∈ts:=by rw [htk];exact List.getElem_mem hil
   have hT:= (HB.out.kept HKw.out).task tk hmem
   have htw:= (HB.out.task tk hmem).row.lt
   have t5:=hT.rng 5 _ rfl
   have t7:=hT.rng 7 _ rfl
   simp only [Nat.zero_add] at t5 t7
   have hxg:sl[i]'(by rw [<-HRn.out,hrl];exact hil)=tk.r:=by
    have h: (Qk ts)[i]'(by rw [hrl];exact hil)=tk.r:=by rw [htk];simp [Qk]
    rw [<-h]
    congr 1
    exact HRn.out.symm
   have hisl:i < sl.length:=by rw [<-HRn.out,hrl];exact hil
   have hxm:tk.r∈sl:=by rw [<-hxg];exact List.getElem_mem hisl
   have hxgd:=HGd.out.good tk.r hxm
   have hA:= ((HB.out).act tk hmem).1
   have hce:costOf (Q_ Kj) tk.r.name=tk.cost:=by rw [costOf_some hA]
   have hcst:=costOf_le hok tk.r.name
   rw [hce] at hcst
   have hvis:0<=tk.r.Zj∧tk.r.Zj<=20:= ⟨hxgd.lo,hxgd.hi⟩
   have hmul:=vc_le hvis hcst
   have HUn:Hid (uu+tk.r.Zj=unitsX (sl.take (i+1))∧cc+tk.r.Zj * tk.cost=costX (Q_ Kj) (sl.take (i+1))):=by
    rw [List.take_succ_eq_append_getElem hisl,unitsX_snoc,costX_snoc,hxg,<-HU.out.1,<-HU.out.2,hce]
    exact ⟨rfl,rfl⟩
   obtain ⟨tb,htb⟩: ∃tb,tb=tk.tb:= ⟨_,rfl⟩
   obtain ⟨vv,hvv⟩: ∃vv,vv=tk.r.Zj:= ⟨_,rfl⟩
   obtain ⟨cst,hcs⟩: ∃cst,cst=tk.cost:= ⟨_,rfl⟩
   have hcell':wr.cell? ⟨g,i,none⟩=some (.pointer (some ⟨tb,0,none⟩)):=by rw [htb];exact hcell
   rw [<-htb,<-hvv] at t5
   rw [<-htb,<-hcs] at t7
   rw [<-htb] at htw
   rw [<-hvv,<-hcs] at HUn hmul
   rw [<-hvv] at hvis
   rw [<-hcs] at hcst
   have hw1:IntKind.i64.wrap (uu+vv)=uu+vv:=wrap_i64_in (by omega) (by omega)
   have hw2:IntKind.i64.wrap (vv * cst)=vv * cst:=wrap_i64_in (by omega) (by omega)
   have hw3:IntKind.i64.wrap (cc+vv * cst)=cc+vv * cst:=wrap_i64_in (by omega) (by omega)
   have hob1:=HO.out.row.lt
   have Zz:Hid (∀u:World,(∀b,b < w.heap.size∨b=ob->u.heap[b]? =wr.heap[b]?)->u.cell? ⟨ob,3,none⟩=some (.int .i64 uu)∧u.cell? ⟨ob,4,none⟩=some (.int .i64 cc)∧u.cell? ⟨tb,5,none⟩=some (.int .i64 vv)∧u.cell? ⟨tb,7,none⟩=some (.int .i64 cst)):=fun u hh=> ⟨(World.cell?_of_block (w:=wr) (hh ob (.inr rfl))).trans HO.out.c3,(World.cell?_of_block (w:=wr) (hh ob (.inr rfl))).trans HO.out.c4,(World.cell?_of_block (w:=wr) (hh tb (.inl htw))).trans t5,(World.cell?_of_block (w:=wr) (hh tb (.inl htw))).trans t7⟩
   have hgz:g < wr.heap.size:=by omega
   have hto: ¬ob=tb:=by omega
   clear hcell hT t5 t7 hxg hisl hxm hxgd hA hce hcs hvv htb htk hmem
   go_upto_region 5 with fail
   refine Qx.rh 9 Zz.out (fun _ _=> rfl) fun wd KD Z_=> ?_
   obtain ⟨⟨_,fo2⟩,fo1⟩:= (HO.out.kept KD).row.row.at (i:=3) (by omega)
   have hobd:= (HO.out.kept KD).row.lt
   refine Qx.tk 0 Z_ ?_
   refine Qx.tk 1 Z_ ?_
   refine Qx.tk 2 Z_ ?_
   refine Qx.tk 3 Z_ ?_
   refine Qx.tk 4 Z_ ?_
   refine Qx.tk 5 Z_ ?_
   refine Qx.tk 6 Z_ ?_
   refine Qx.tk 7 Z_ ?_
   refine Qx.tk 8 Z_ ?_
   refine Qx.nx 9 (fun K hK=> ?_)
   go_simp
   refine hK.out _ _ (fun h=> absurd rfl h) ?_
   clear hK K
   try simp only [Act.put,upA,upB,upC]
   refine Qx.dn ?_
   clear fo1 fo2 hobd
   obtain ⟨W5,hW5⟩: ∃W5,W5=wd.setCell ⟨ob,3,none⟩ (.int .i64 (uu+vv)):= ⟨_,rfl⟩
   rw [<-hW5]
   have HO5:Hid (OutB W2 ob W5 0 (.slice ra Kk.length Kk.length) (uu+vv) cc):=by rw [hW5];exact (HO.out.kept KD).set3 _
   have HB5:Hid (∀b,b≠ob->b < wr.heap.size->W5.heap[b]? =wr.heap[b]?):=fun b hb hz=> by rw [hW5,Below.heap_setCell _ _ _ _ hb];exact KD.block b hz
   have HS5:Hid (∀u:World,(∀b,b < w.heap.size∨b=ob->u.heap[b]? =W5.heap[b]?)->u.cell? ⟨ob,4,none⟩=some (.int .i64 cc)∧u.cell? ⟨tb,5,none⟩=some (.int .i64 vv)∧u.cell? ⟨tb,7,none⟩=some (.int .i64 cst)):=fun u hh=> by
    have ho:=Zz.out wr (fun _ _=> rfl)
    have q: ∀b o,b < w.heap.size->u.cell? ⟨b,o,none⟩=wr.cell? ⟨b,o,none⟩:=fun b o hb=> (World.cell?_of_block (w:=W5) (hh b (.inl hb))).trans (World.cell?_of_block (w:=wr) (HB5.out b (by omega) (by omega)))
    exact ⟨(World.cell?_of_block (w:=W5) (hh ob (.inr rfl))).trans HO5.out.c4,(q _ _ htw).trans ho.2.2.1,(q _ _ htw).trans ho.2.2.2⟩
   have hz5:wr.heap.size<=W5.heap.size:=by rw [hW5,size_setCell];exact KD.size
   clear hW5 KD HO Zz Z_ hcell'
   clear wd
   go_upto_region 6 with fail
   refine Qx.rh 15 HS5.out (fun _ _=> rfl) fun wd KD Z_=> ?_
   obtain ⟨⟨_,fo2⟩,fo1⟩:= (HO5.out.kept KD).row.row.at (i:=4) (by omega)
   have hobd:= (HO5.out.kept KD).row.lt
   refine Qx.tk 0 Z_ ?_
   refine Qx.tk 1 Z_ ?_
   refine Qx.tk 2 Z_ ?_
   refine Qx.tk 3 Z_ ?_
   refine Qx.tk 4 Z_ ?_
   refine Qx.tk 5 Z_ ?_
   refine Qx.tk 6 Z_ ?_
   refine Qx.tk 7 Z_ ?_
   refine Qx.tk 8 Z_ ?_
   refine Qx.tk 9 Z_ ?_
   refine Qx.tk 10 Z_ ?_
   refine Qx.tk 11 Z_ ?_
   refine Qx.tk 12 Z_ ?_
   refine Qx.tk 13 Z_ ?_
   refine Qx.tk 14 Z_ ?_
   refine Qx.nx 15 (fun K hK=> ?_)
   go_simp
   refine hK.out _ _ (fun h=> absurd rfl h) ?_
   clear hK K
   try simp only [Act.put,upA,upB,upC]
   refine Qx.dn ?_
   have HO6:Hid (OutB W2 ob (wd.setCell ⟨ob,4,none⟩ (.int .i64 (cc+vv * cst))) 0 (.slice ra Kk.length Kk.length) (uu+vv) (cc+vv * cst)):= (HO5.out.kept KD).set4 _
   clear fo1 fo2 hobd Z_
   go_wp2
   go_roundw
   case rel=> exact ⟨i+1,uu+vv,cc+vv * cst,by omega,by go_num,HUn,HO6⟩
   case measure=> simp [intOf];omega
  ·have hni: ¬((i:Int) < (ts.length:Int)):=by omega
   have hie:i=sl.length:=by rw [<-HRn.out,hrl];omega
   have HUe:Hid (uu=unitsX sl∧cc=costX (Q_ Kj) sl):=by have h:=HU.out;rw [hie,List.take_length] at h;exact h
   have HRl:Hid ((Kk.map R).length=Kk.length):=by show _=_;rw [List.length_map]
   have o1:=HO.out.c1
   have hob1:=HO.out.row.lt
   clear hil hie HU hi hrl hsum
   go_wp2_with fail
   have hcf:=anyNotOver_any wr ra Kk.length (Kk.map R) (by rw [HRl.out];omega) HIr.out.ress
   rw [HRl.out] at hcf
   refine hcf.mono ?_
   clear hcf
   rintro e w5 ⟨hsay,k5⟩
   have HO5:=Kz (HO.out.kept k5)
   obtain ⟨Kr5,hRr5,hIr5,hzr5⟩:=HC.out w5 HO5.out.but
   have HKw5:=Kz Kr5
   have HRr5:=Kz hRr5
   have HIr5:=Kz hIr5
   clear Kr5 hRr5 hIr5 HO HRr HIr o1 hob1
   have hob5:=HO5.out.row.lt
   rcases hsay.cases with ⟨rfl,hyes⟩ | ⟨rfl,hno⟩
   rotate_left
   ·have HNo:=Kz hno
    have HTo:Hid (ToldAns Kj Kk sl ⟨0,Kk.map R,[],uu,cc⟩):= ⟨⟨by rw [HRl.out];exact hr10,Nat.zero_le _⟩,.inl ⟨HVx.out,⟨by rw [HRx.out],HUe.out.1,HUe.out.2,.inl ⟨HNo.out,rfl,rfl⟩⟩⟩⟩
    have o0:=HO5.out.c0
    obtain ⟨⟨_,f0⟩,f1⟩:=HO5.out.row.row.at (i:=0) (by omega)
    obtain ⟨W6,hW6⟩: ∃W6,W6=w5.setCell ⟨ob,0,none⟩ (.int .i64 0):= ⟨_,rfl⟩
    have HO6:Hid (OutB W2 ob W6 0 (.slice ra Kk.length Kk.length) uu cc):=by rw [hW6];exact HO5.out.set0 0
    clear hno hsay
    go_upto_region 14 with fail
    rw [<-hW6]
    clear hW6 f0 f1 o0
    have o0:=HO6.out.c0
    have o1:=HO6.out.c1
    have o2:=HO6.out.c2
    have o3:=HO6.out.c3
    have o4:=HO6.out.c4
    obtain ⟨Kr6,hRr6,hIr6,hzr6⟩:=HC.out W6 HO6.out.but
    have HK6:=Kz Kr6
    have HRr6:=Kz hRr6
    have HIr6:=Kz hIr6
    have hob6:=HO6.out.row.lt
    clear Kr6 hRr6 hIr6
    obtain ⟨⟨_,fa0⟩,fb0⟩:=HRr6.out.row.at (i:=0) (by omega)
    obtain ⟨⟨_,fa1⟩,fb1⟩:=HRr6.out.row.at (i:=1) (by omega)
    obtain ⟨⟨_,fa2⟩,fb2⟩:=HRr6.out.row.at (i:=2) (by omega)
    obtain ⟨⟨_,fa3⟩,fb3⟩:=HRr6.out.row.at (i:=3) (by omega)
    obtain ⟨⟨_,fa4⟩,fb4⟩:=HRr6.out.row.at (i:=4) (by omega)
    have hrz:=HRr6.out.lt
    have hrw: ¬ob=w.heap.size:=by omega
    go_wp2
    have hX:=World.rangeAt_setCells_same W6 w.heap.size 0 [.int .i64 0,.slice ra Kk.length Kk.length,.slice none 0 0,.int .i64 uu,.int .i64 cc] (HRr6.out.row.there (o:=0) (m:=5) (Nat.le_refl _))
    refine X_ [.int .i64 0,.slice ra Kk.length Kk.length,.slice none 0 0,.int .i64 uu,.int .i64 cc] _ Tryz.results32 rfl hX Tryz.underlying31 rfl Tryz.sizeOutcome5 rfl ⟨_,ra,none,Kk.length,0,ob, ?_,HTo.out, ?_, ?_,by omega, ?_, ?_⟩
    ·show Ending.returned _=Ending.returned _;rw [HRl.out];try rfl
    ·exact (ress_in_sets (vs:=[.int .i64 0,.slice ra Kk.length Kk.length,.slice none 0 0,.int .i64 uu,.int .i64 cc]) HIr6.out (.inl (by omega))).mono (by omega) (Nat.le_refl _)
    ·exact .inl rfl
    ·exact Nat.le_trans (Nat.le_of_lt hob6) (Nat.le_of_eq (size_setCells w.heap.size [.int .i64 0,.slice ra Kk.length Kk.length,.slice none 0 0,.int .i64 uu,.int .i64 cc] 0 W6).symm)
    ·exact kept_sets (Nat.le_refl _) [.int .i64 0,.slice ra Kk.length Kk.length,.slice none 0 0,.int .i64 uu,.int .i64 cc] 0 HK6.out
   have HYes:=Kz hyes
   clear hyes hsay
   go_wp2_with fail
   refine (anyReady_any (HB.out.kept HKw5.out) HBS.out hN6).mono ?_
   rintro e w6 ⟨hsay,k6⟩
   rw [HRn.out] at hsay
   have HO6:=Kz (HO5.out.kept k6)
   have hob6:=HO6.out.row.lt
   have o0:=HO6.out.c0
   obtain ⟨⟨_,f0⟩,f1⟩:=HO6.out.row.row.at (i:=0) (by omega)
   clear HO5 hob5 HKw5 HRr5 HIr5 hzr5
   rcases hsay.cases with ⟨rfl,hrdy⟩ | ⟨rfl,hnr⟩
   ·have HRdy:=Kz hrdy
    have HTo:Hid (ToldAns Kj Kk sl ⟨2,Kk.map R,[],uu,cc⟩):= ⟨⟨by rw [HRl.out];exact hr10,Nat.zero_le _⟩,.inl ⟨HVx.out,⟨by rw [HRx.out],HUe.out.1,HUe.out.2,.inr (.inl ⟨HYes.out,HRdy.out,rfl,rfl⟩)⟩⟩⟩
    obtain ⟨W6,hW6⟩: ∃W6,W6=w6.setCell ⟨ob,0,none⟩ (.int .i64 2):= ⟨_,rfl⟩
    have HO7:Hid (OutB W2 ob W6 2 (.slice ra Kk.length Kk.length) uu cc):=by rw [hW6];exact HO6.out.set0 2
    clear hrdy hsay
    go_upto_region 14 with fail
    rw [<-hW6]
    clear hW6 f0 f1 o0 hob6 HO6
    have o0:=HO7.out.c0
    have o1:=HO7.out.c1
    have o2:=HO7.out.c2
    have o3:=HO7.out.c3
    have o4:=HO7.out.c4
    obtain ⟨Kr6,hRr6,hIr6,hzr6⟩:=HC.out W6 HO7.out.but
    have HK6:=Kz Kr6
    have HRr6:=Kz hRr6
    have HIr6:=Kz hIr6
    have hob6:=HO7.out.row.lt
    clear Kr6 hRr6 hIr6
    obtain ⟨⟨_,fa0⟩,fb0⟩:=HRr6.out.row.at (i:=0) (by omega)
    obtain ⟨⟨_,fa1⟩,fb1⟩:=HRr6.out.row.at (i:=1) (by omega)
    obtain ⟨⟨_,fa2⟩,fb2⟩:=HRr6.out.row.at (i:=2) (by omega)
    obtain ⟨⟨_,fa3⟩,fb3⟩:=HRr6.out.row.at (i:=3) (by omega)
    obtain ⟨⟨_,fa4⟩,fb4⟩:=HRr6.out.row.at (i:=4) (by omega)
    have hrz:=HRr6.out.lt
    have hrw: ¬ob=w.heap.size:=by omega
    go_wp2
    have hX:=World.rangeAt_setCells_same W6 w.heap.size 0 [.int .i64 2,.slice ra Kk.length Kk.length,.slice none 0 0,.int .i64 uu,.int .i64 cc] (HRr6.out.row.there (o:=0) (m:=5) (Nat.le_refl _))
    refine X_ [.int .i64 2,.slice ra Kk.length Kk.length,.slice none 0 0,.int .i64 uu,.int .i64 cc] _ Tryz.results32 rfl hX Tryz.underlying31 rfl Tryz.sizeOutcome5 rfl ⟨_,ra,none,Kk.length,0,ob, ?_,HTo.out, ?_, ?_,by omega, ?_, ?_⟩
    ·show Ending.returned _=Ending.returned _;rw [HRl.out];try rfl
    ·exact (ress_in_sets (vs:=[.int .i64 2,.slice ra Kk.length Kk.length,.slice none 0 0,.int .i64 uu,.int .i64 cc]) HIr6.out (.inl (by omega))).mono (by omega) (Nat.le_refl _)
    ·exact .inl rfl
    ·exact Nat.le_trans (Nat.le_of_lt hob6) (Nat.le_of_eq (size_setCells w.heap.size [.int .i64 2,.slice ra Kk.length Kk.length,.slice none 0 0,.int .i64 uu,.int .i64 cc] 0 W6).symm)
    ·exact kept_sets (Nat.le_refl _) [.int .i64 2,.slice ra Kk.length Kk.length,.slice none 0 0,.int .i64 uu,.int .i64 cc] 0 HK6.out
   have HNr:=Kz hnr
   obtain ⟨W6,hW6⟩: ∃W6,W6=w6.setCell ⟨ob,0,none⟩ (.int .i64 1):= ⟨_,rfl⟩
   have HO7:Hid (OutB W2 ob W6 1 (.slice ra Kk.length Kk.length) uu cc):=by rw [hW6];exact HO6.out.set0 1
   clear hnr hsay
   go_upto_region 9 with fail
   rw [<-hW6]
   clear hW6 f0 f1 o0 hob6 HO6
   have HK6:=Kz (HC.out W6 HO7.out.but).1
   go_wp2_with fail
   refine (waits_any (HB.out.kept HK6.out) HBS.out hok hmx hN6).mono ?_
   rintro e w8 ⟨mo,M,g,ol,rfl,hO,hI,hM,k8⟩
   have HIff:Hid ((fun x y=> y∈ol x)=WaitsX (Q_ Kj) (Qj sl)):=by
    show _=_
    funext x y
    rw [hI.iff,<-HRn.out,waitsOn_iff HBS.out (by rw [HRn.out];exact HVx.out.asked)]
    simp
   have HOn:Hid (∀s,ol s≠[]->s∈ts.map (·.r.name)):=fun s hs=> by
    obtain ⟨y,hy⟩:=List.exists_mem_of_ne_nil _ hs
    obtain ⟨_,t,ht,hn,_⟩:= (hI.iff s y).1 hy
    rw [<-hn]
    exact List.mem_map.2 ⟨t,ht,rfl⟩
   have HKs:Hid (∀s,ol s≠[]->s.size<=20):=fun s hs=> by
    obtain ⟨t,ht,rfl⟩:=List.mem_map.1 (HOn.out s hs)
    obtain ⟨A,hA,_⟩:= (HBS.out.good.good t.r (List.mem_map_of_mem (f:=fun t:Zx=> t.r) ht)).act
    exact (hok _ _ hA).2.2.1
   have HLm:Hid (ListsM w8 mo (fun s=> ol s≠[]) ol):=by
    obtain ⟨N,D,hN,hMp,hf,hh⟩:=hO.map
    refine ⟨⟨N,D,by omega,hMp,fun s hs=> ?_,hh⟩,fun s h=> h⟩
    have hrow:=hO.row s
    obtain ⟨a9,c9,e9,hst9⟩:=owned_strs hrow
    exact ⟨a9,c9,by rw [hf s hs,e9],hst9⟩
   have HLen:Hid (∀s,(ol s).length<=1000000):=fun s=> by have:=hI.len s;omega
   clear hO hI
   go_wp2_with fail
   refine (chainOf_any w8 mo _ ol (ts.map (·.r.name)) HOn.out (by rw [List.length_map];exact hN6) HKs.out HLen.out HLm.out).mono ?_
   rintro e w9 ⟨da,ns,rfl,hS9,hl9,hC9,k9⟩
   have HC9:Hid (CircX (WaitsX (Q_ Kj) (Qj sl)) ns):=by rw [<-HIff.out];exact hC9
   have HTo:Hid (ToldAns Kj Kk sl ⟨1,Kk.map R,ns,uu,cc⟩):= ⟨⟨by rw [HRl.out];exact hr10,hl9⟩,.inl ⟨HVx.out,⟨by rw [HRx.out],HUe.out.1,HUe.out.2,.inr (.inr ⟨HYes.out,HNr.out,rfl,HC9.out⟩)⟩⟩⟩
   have HO9:=Kz (HO7.out.kept (k8.trans k9))
   have hz8:=k8.size
   have hz7:=HO7.out.row.lt
   have hob9:=HO9.out.row.lt
   obtain ⟨⟨_,f0⟩,f1⟩:=HO9.out.row.row.at (i:=2) (by omega)
   obtain ⟨WX,hWX⟩: ∃WX,WX=w9.setCell ⟨ob,2,none⟩ (.slice da ns.length ns.length):= ⟨_,rfl⟩
   have o0:WX.cell? ⟨ob,0,none⟩=some (.int .i64 1):=by rw [hWX];exact miss HO9.out.c0 (by decide)
   have o1:WX.cell? ⟨ob,1,none⟩=some (.slice ra Kk.length Kk.length):=by rw [hWX];exact miss HO9.out.c1 (by decide)
   have o2:WX.cell? ⟨ob,2,none⟩=some (.slice da ns.length ns.length):=by rw [hWX];exact set_hit HO9.out.row.row (by omega) _
   have o3:WX.cell? ⟨ob,3,none⟩=some (.int .i64 uu):=by rw [hWX];exact miss HO9.out.c3 (by decide)
   have o4:WX.cell? ⟨ob,4,none⟩=some (.int .i64 cc):=by rw [hWX];exact miss HO9.out.c4 (by decide)
   obtain ⟨Kr6,hRr6,hIr6,hzr6⟩:=HC.out WX (by rw [hWX];exact HO9.out.but.set rfl _)
   have HK6:=Kz Kr6
   have HRr6:=Kz hRr6
   have HIr6:=Kz hIr6
   have hob6:ob < WX.heap.size:=by rw [hWX,size_setCell];exact hob9
   have HS9:Hid (StrsIn WX ob WX.heap.size da ns):=by
    have h:StrsIn WX w8.heap.size w9.heap.size da ns:=by rw [hWX];exact hS9.same (Same.setCell _ (.inl (by show ob < w8.heap.size;omega)) _)
    exact h.mono (by omega) (by rw [hWX,size_setCell];exact Nat.le_refl _)
   clear Kr6 hRr6 hIr6 hS9 hC9 HC9 HO9
   go_upto_region 14 with fail
   rw [<-hWX]
   clear hWX f0 f1 hob9
   obtain ⟨⟨_,fa0⟩,fb0⟩:=HRr6.out.row.at (i:=0) (by omega)
   obtain ⟨⟨_,fa1⟩,fb1⟩:=HRr6.out.row.at (i:=1) (by omega)
   obtain ⟨⟨_,fa2⟩,fb2⟩:=HRr6.out.row.at (i:=2) (by omega)
   obtain ⟨⟨_,fa3⟩,fb3⟩:=HRr6.out.row.at (i:=3) (by omega)
   obtain ⟨⟨_,fa4⟩,fb4⟩:=HRr6.out.row.at (i:=4) (by omega)
   have hrz:=HRr6.out.lt
   have hrw: ¬ob=w.heap.size:=by omega
   go_wp2
   have hX:=World.rangeAt_setCells_same WX w.heap.size 0 [.int .i64 1,.slice ra Kk.length Kk.length,.slice da ns.length ns.length,.int .i64 uu,.int .i64 cc] (HRr6.out.row.there (o:=0) (m:=5) (Nat.le_refl _))
   refine X_ [.int .i64 1,.slice ra Kk.length Kk.length,.slice da ns.length ns.length,.int .i64 uu,.int .i64 cc] _ Tryz.results32 rfl hX Tryz.underlying31 rfl Tryz.sizeOutcome5 rfl ⟨_,ra,da,Kk.length,ns.length,ob, ?_,HTo.out, ?_, ?_,by omega, ?_, ?_⟩
   ·show Ending.returned _=Ending.returned _;rw [HRl.out];try rfl
   ·exact (ress_in_sets (vs:=[.int .i64 1,.slice ra Kk.length Kk.length,.slice da ns.length ns.length,.int .i64 uu,.int .i64 cc]) HIr6.out (.inl (by omega))).mono (by omega) (Nat.le_refl _)
   ·exact (strs_in_sets (vs:=[.int .i64 1,.slice ra Kk.length Kk.length,.slice da ns.length ns.length,.int .i64 uu,.int .i64 cc]) HS9.out (.inl (by omega))).mono (Nat.le_refl _) (Nat.le_of_eq (size_setCells w.heap.size [.int .i64 1,.slice ra Kk.length Kk.length,.slice da ns.length ns.length,.int .i64 uu,.int .i64 cc] 0 WX).symm)
   ·exact Nat.le_trans (Nat.le_of_lt hob6) (Nat.le_of_eq (size_setCells w.heap.size [.int .i64 1,.slice ra Kk.length Kk.length,.slice da ns.length ns.length,.int .i64 uu,.int .i64 cc] 0 WX).symm)
   ·exact kept_sets (Nat.le_refl _) [.int .i64 1,.slice ra Kk.length Kk.length,.slice da ns.length ns.length,.int .i64 uu,.int .i64 cc] 0 HK6.out
end
theorem Tryz.sizePlan : (Tryz.prog.info? 33).map (·.size)=some 9:=by kernel_rfl
theorem plan_same {w w':World} {lo hi m1 m2 m3:Nat} {sa ra fa ca:Option Addr} {slots:List SlotD} {res:List ResD} {och:List ByteArray} {chain:List SlotD} {g:Nat} {vs:List Value} (h:PlanAt w lo m1 m2 m3 hi sa ra fa ca slots res och chain) (hg:g < lo∨hi<=g) (e:w'=w.setCells g 0 vs):PlanAt w' lo m1 m2 m3 hi sa ra fa ca slots res och chain:=by
 rw [e]
 exact h.same (Same.setCells hg vs 0 w)
theorem CrewB.effs {c:CrewC} {mx mq:Nat} {S:Shop} {D:CrewD} {w:World} (h:CrewB c mx mq S D w):EffsOf D.es S.slots:=fun i hi=> by
 have hb:=h.i.pl.sane.back
 rw [h.i.pl.effs i hi]
 unfold effAt
 rw [List.getElem?_eq_getElem hi,List.getElem?_eq_getElem (by omega)]
 exact ⟨rfl,rfl,rfl⟩
theorem CrewB.small {c:CrewC} {mx mq:Nat} {S:Shop} {D:CrewD} {w:World} (h:CrewB c mx mq S D w) (hk:CrewK c): (∀s∈S.slots,s.name.size<=1048576)∧S.slots.length<=2060:=by
 constructor
 ·intro s hs
  obtain ⟨r,hr⟩:=Option.isSome_iff_exists.1 (h.i.sn s hs)
  obtain ⟨A,hA⟩:=Option.isSome_iff_exists.1 (h.i.pl.sane.ok.known s.name r hr)
  have:= (hk.ok _ _ hA).2.2.1
  omega
 ·have h1:=h.b3
  have h2:= (h.i.lens hk.len).2.2.2.1
  have h3:=hk.wk
  omega
theorem implWork_any (w:World) (a:Option Addr) (cap:Nat) (Kj:List Qq) (rd:Option Addr) (rc:Nat) (Kk:List ByteArray) (k:Int) (hl:Kj.length<=1048576) (hf: ∀s∈Kj,s.Fits) (hrl:Kk.length<=maxLen) (hrc:Kk.length<=rc) (hrs: ∀s∈Kk,s.size<=maxLen) (hS:Nodes w a Kj) (hR:Strs w rd Kk) (hFi:FinishOk w):
  Calls Tryz.prog 9 #[.agg #[.slice a Kj.length cap],.slice rd Kk.length rc,.int .i64 k] w fun e w'=> PlanIn (PlanAns Kj Kk k) w w' e:=by
 obtain ⟨WB,hWB⟩: ∃WB,WB= (w.alloc (.cells #[.slice a Kj.length cap] 37)).alloc (.cells #[.int .i64 0,.slice none 0 0,.int .i64 0,.int .i64 0,.slice none 0 0,.slice none 0 0,.int .i64 0,.int .i64 0,.slice none 0 0] 33):= ⟨_,rfl⟩
 have k0:K_ w WB:=by rw [hWB];exact ((K_.refl _).alloc _).alloc _
 have hBs:WB.heap.size=w.heap.size+1+1:=by rw [hWB];simp
 have b0:WB.cell? ⟨w.heap.size,0,none⟩=some (.slice a Kj.length cap):=by
  rw [hWB]
  exact (box1 (w:=w) (v:= .slice a Kj.length cap) (t:=37) ((K_.refl _).alloc _)).1
 have HRes:Hid (RowT WB (w.heap.size+1) 33 9):=by
  have h:=RowT.made (w.alloc (.cells #[.slice a Kj.length cap] 37)) #[.int .i64 0,.slice none 0 0,.int .i64 0,.int .i64 0,.slice none 0 0,.slice none 0 0,.int .i64 0,.int .i64 0,.slice none 0 0] 33
  rw [World.size_alloc] at h
  rw [hWB]
  exact h
 have z0:w.heap.size < WB.heap.size:=by omega
 have HNo1:Hid (¬(WebCode Kj 0∧RootsOk Kk∧1<=k∧k<=60)->∀u,K_ WB u->PlanIn (PlanAns Kj Kk k) w (u.setCells (w.heap.size+1) 0 [.int .i64 9,.slice none 0 0,.int .i64 0,.int .i64 0,.slice none 0 0,.slice none 0 0,.int .i64 0,.int .i64 0,.slice none 0 0]) (.returned (.agg #[.int .i64 9,.slice none 0 0,.int .i64 0,.int .i64 0,.slice none 0 0,.slice none 0 0,.int .i64 0,.int .i64 0,.slice none 0 0]))):=fun hn u ku=> ⟨planNo,none,none,none,none,0,0,0,0,w.heap.size,w.heap.size,w.heap.size,rfl,⟨⟨Nat.zero_le _,Nat.zero_le _,Nat.zero_le _,Nat.zero_le _⟩,.inr ⟨hn,rfl⟩⟩,⟨.inl rfl,.inl rfl,.inl rfl,.inl rfl,Nat.le_refl _,Nat.le_refl _,Nat.le_refl _,by rw [size_setCells];have:=ku.size;omega⟩,kept_sets (g:=w.heap.size+1) (by omega) _ 0 (k0.trans ku)⟩
 go_enter Tryz.func9,Tryz.ntmps9
 go_upto_region 1 with fail
 rw [<-hWB]
 clear hWB
 go_wp2_with fail
 refine (beginB_any WB a cap Kj rd rc Kk hl hf hrl hrc hrs (hS.kept k0) (hR.kept k0)).mono ?_
 rintro e w1 ⟨k1,hcase⟩
 have K1:=k0.trans k1
 have hRr:=HRes.out.kept k1
 have HRr:=Kz hRr
 have HK1:=Kz k1
 have HNoEnd:Hid (¬(WebCode Kj 0∧RootsOk Kk∧1<=k∧k<=60)->PlanIn (PlanAns Kj Kk k) w (w1.setCells (w.heap.size+1) 0 [.int .i64 9,.slice none 0 0,.int .i64 0,.int .i64 0,.slice none 0 0,.slice none 0 0,.int .i64 0,.int .i64 0,.slice none 0 0]) (.returned (.agg #[.int .i64 9,.slice none 0 0,.int .i64 0,.int .i64 0,.slice none 0 0,.slice none 0 0,.int .i64 0,.int .i64 0,.slice none 0 0]))∧(w1.setCells (w.heap.size+1) 0 [.int .i64 9,.slice none 0 0,.int .i64 0,.int .i64 0,.slice none 0 0,.slice none 0 0,.int .i64 0,.int .i64 0,.slice none 0 0]).rangeAt (w.heap.size+1) 0 [.int .i64 9,.slice none 0 0,.int .i64 0,.int .i64 0,.slice none 0 0,.slice none 0 0,.int .i64 0,.int .i64 0,.slice none 0 0]):=fun hn=> ⟨HNo1.out hn w1 k1,World.rangeAt_setCells_same w1 (w.heap.size+1) 0 [.int .i64 9,.slice none 0 0,.int .i64 0,.int .i64 0,.slice none 0 0,.slice none 0 0,.int .i64 0,.int .i64 0,.slice none 0 0] (hRr.row.there (o:=0) (m:=9) (Nat.le_refl _))⟩
 clear b0 z0 hBs HNo1 k1
 rcases hcase with ⟨hno,rfl⟩ | ⟨hW,hRo,wz,bb,mb,ts,d,dc,rfl,kz,hB,hBS,hEnv⟩
 ·have HNo:Hid (¬(WebCode Kj 0∧RootsOk Kk∧1<=k∧k<=60)):=fun h=> hno ⟨h.1,h.2.1⟩
  obtain ⟨⟨_,fa0⟩,fb0⟩:=hRr.row.at (i:=0) (by omega)
  obtain ⟨⟨_,fa1⟩,fb1⟩:=hRr.row.at (i:=1) (by omega)
  obtain ⟨⟨_,fa2⟩,fb2⟩:=hRr.row.at (i:=2) (by omega)
  obtain ⟨⟨_,fa3⟩,fb3⟩:=hRr.row.at (i:=3) (by omega)
  obtain ⟨⟨_,fa4⟩,fb4⟩:=hRr.row.at (i:=4) (by omega)
  obtain ⟨⟨_,fa5⟩,fb5⟩:=hRr.row.at (i:=5) (by omega)
  obtain ⟨⟨_,fa6⟩,fb6⟩:=hRr.row.at (i:=6) (by omega)
  obtain ⟨⟨_,fa7⟩,fb7⟩:=hRr.row.at (i:=7) (by omega)
  obtain ⟨⟨_,fa8⟩,fb8⟩:=hRr.row.at (i:=8) (by omega)
  have hrz:=hRr.lt
  clear hno hRr
  go_wp2_with fail
  obtain ⟨hP,hX⟩:=HNoEnd.out HNo.out
  exact X_ [.int .i64 9,.slice none 0 0,.int .i64 0,.int .i64 0,.slice none 0 0,.slice none 0 0,.int .i64 0,.int .i64 0,.slice none 0 0] _ Tryz.results9 rfl hX Tryz.underlying33 rfl Tryz.sizePlan rfl hP
 by_cases hk1:k < 1
 ·have HNo:Hid (¬(WebCode Kj 0∧RootsOk Kk∧1<=k∧k<=60)):=fun h=> by omega
  obtain ⟨⟨_,fa0⟩,fb0⟩:=hRr.row.at (i:=0) (by omega)
  obtain ⟨⟨_,fa1⟩,fb1⟩:=hRr.row.at (i:=1) (by omega)
  obtain ⟨⟨_,fa2⟩,fb2⟩:=hRr.row.at (i:=2) (by omega)
  obtain ⟨⟨_,fa3⟩,fb3⟩:=hRr.row.at (i:=3) (by omega)
  obtain ⟨⟨_,fa4⟩,fb4⟩:=hRr.row.at (i:=4) (by omega)
  obtain ⟨⟨_,fa5⟩,fb5⟩:=hRr.row.at (i:=5) (by omega)
  obtain ⟨⟨_,fa6⟩,fb6⟩:=hRr.row.at (i:=6) (by omega)
  obtain ⟨⟨_,fa7⟩,fb7⟩:=hRr.row.at (i:=7) (by omega)
  obtain ⟨⟨_,fa8⟩,fb8⟩:=hRr.row.at (i:=8) (by omega)
  have hrz:=hRr.lt
  clear hRr hW hRo kz hB hBS hEnv
  go_wp2_with fail
  obtain ⟨hP,hX⟩:=HNoEnd.out HNo.out
  exact X_ [.int .i64 9,.slice none 0 0,.int .i64 0,.int .i64 0,.slice none 0 0,.slice none 0 0,.int .i64 0,.int .i64 0,.slice none 0 0] _ Tryz.results9 rfl hX Tryz.underlying33 rfl Tryz.sizePlan rfl hP
 by_cases hk2:60 < k
 ·have HNo:Hid (¬(WebCode Kj 0∧RootsOk Kk∧1<=k∧k<=60)):=fun h=> by omega
  obtain ⟨⟨_,fa0⟩,fb0⟩:=hRr.row.at (i:=0) (by omega)
  obtain ⟨⟨_,fa1⟩,fb1⟩:=hRr.row.at (i:=1) (by omega)
  obtain ⟨⟨_,fa2⟩,fb2⟩:=hRr.row.at (i:=2) (by omega)
  obtain ⟨⟨_,fa3⟩,fb3⟩:=hRr.row.at (i:=3) (by omega)
  obtain ⟨⟨_,fa4⟩,fb4⟩:=hRr.row.at (i:=4) (by omega)
  obtain ⟨⟨_,fa5⟩,fb5⟩:=hRr.row.at (i:=5) (by omega)
  obtain ⟨⟨_,fa6⟩,fb6⟩:=hRr.row.at (i:=6) (by omega)
  obtain ⟨⟨_,fa7⟩,fb7⟩:=hRr.row.at (i:=7) (by omega)
  obtain ⟨⟨_,fa8⟩,fb8⟩:=hRr.row.at (i:=8) (by omega)
  have hrz:=hRr.lt
  clear hRr hW hRo kz hB hBS hEnv
  go_wp2_with fail
  obtain ⟨hP,hX⟩:=HNoEnd.out HNo.out
  exact X_ [.int .i64 9,.slice none 0 0,.int .i64 0,.int .i64 0,.slice none 0 0,.slice none 0 0,.int .i64 0,.int .i64 0,.slice none 0 0] _ Tryz.results9 rfl hX Tryz.underlying33 rfl Tryz.sizePlan rfl hP
 clear HNoEnd hRr
 obtain ⟨wk,hwk⟩: ∃wk:Nat,k=wk:= ⟨k.toNat,by omega⟩
 subst hwk
 have hwk6:wk<=60:=by omega
 have hwk1:1<=wk:=by omega
 have hnc:=newCrew_any (wk:=wk) hB hwk6
 have hok:=web_acts hW
 have hsg:=startL_good hok Kk
 have hrun:Qk ts=startL Kj Kk:=asc_eq hB.asc hsg.asc hEnv
 have HHW:=Kz hW
 have HHR:=Kz hRo
 have HRun:=Kz hrun
 have HBS:=Kz hBS
 have HSg:=Kz hsg
 have HKz:=Kz (k0.trans kz)
 have HKb:=Kz kz
 have HAsc:=Kz hB.asc
 have HTbs:=Kz hB.tbs
 clear hW hRo hrun hB hBS hsg hEnv kz
 go_wp2_with fail
 refine hnc.mono ?_
 rintro e w2 ⟨cb,qb,fF,fa,fc,rfl,hP,hM⟩
 obtain ⟨c,hc⟩: ∃c:CrewC,c= ⟨Kj,wz,wk,cb,qb,bb,a,cap,rd,Kk.length,rc,mb⟩:= ⟨_,rfl⟩
 obtain ⟨D,hD⟩: ∃D:CrewD,D= { newD ts d dc (fun _=> .slice none 0 0) (fun _=> []) with fF:=fF,fn:=wk,fa:=fa,fc:=fc }:= ⟨_,rfl⟩
 have hK:CrewK c:=by
  rw [hc]
  exact ⟨hok,hf,web_len HHW.out,rises_code HHW.out,hS.kept HKz.out,hFi.kept HKz.out,hwk6⟩
 have hpot:potS c (start8 (startL Kj Kk) wk)<=1380:=by
  have h1:=potAll_le (Kj.map (·.name)) (Qj (startL Kj Kk))
  have h2:=web_len HHW.out
  rw [List.length_map] at h1
  rw [hc]
  show potAll (Kj.map (·.name)) (Qj (startL Kj Kk))<=1380
  omega
 have hI:CrewI c 0 0 (start8 (startL Kj Kk) wk) (fun _=> False) D w2:=by
  rw [hc,hD]
  exact ⟨hM,HBS.out,HRun.out,CrewP.start (start8_live HSg.out).sane hP,fun t ht=> (by have h:=locOf_mem (loc:=fun _=> 0) HAsc.out ht HTbs.out;exact h),fun s hs=> by cases hs⟩
 have hidle:Idle8 (start8 (startL Kj Kk) wk):=fun k e h=> by
  have h': (List.replicate wk (none:Option EffD))[k]? =some (some e):=h
  rw [List.getElem?_replicate] at h'
  split at h' <;> simp at h'
 have hwork:=crewWork_any hI hK hidle (fun _=> rfl) (by omega) (by omega) rfl
 have ecb:c.cb=cb:=by rw [hc]
 have ebb:c.bb=bb:=by rw [hc]
 have ewl:c.Kj=Kj:=by rw [hc]
 have ewk:c.wk=wk:=by rw [hc]
 rw [ecb,ewl] at hwork
 have HWork:=Kz hwork
 have HCK:=Kz hK
 have HCc:=Kz hc
 have HCB:=Kz ecb
 have HBB:=Kz ebb
 have HWL:=Kz ewl
 clear hnc hP hM hK hpot hI hidle hwork ecb ebb ewl ewk hc hD
 go_wp2_with fail
 refine HWork.out.mono ?_
 rintro e w3 ⟨u,A,rfl,hwrk,mx,mq,D3,hB3⟩
 obtain ⟨hlive,jj,hled⟩:=hwrk.live hok (start8_live (wk:=wk) HSg.out)
 have hval:ValidX Kj Kk A.T:=led_valid HHW.out HHR.out hlive.good HSg.out.wf hled
 have hsm:=hB3.small HCK.out
 have hM3:=hB3.i.mem
 have hkz3:K_ wz w3:=by
  have h:=hM3.bm.kw
  rw [HCc.out] at h
  exact h
 have hslots:=crewSlots_any hM3 hB3.effs (by omega) hsm.1
 rw [HCB.out] at hslots
 have HSl:=Kz hslots
 have HB3:=Kz hB3
 have HWrk:=Kz hwrk
 have HVal:=Kz hval
 have HSm:=Kz hsm
 have HM3:=Kz hM3
 have HKz3:=Kz hkz3
 obtain ⟨sl,hsl⟩: ∃sl,sl=A.slots:= ⟨_,rfl⟩
 rw [<-hsl] at HSl
 have HSL:=Kz hsl
 clear hlive hled hval hsm hM3 hkz3 hslots hB3 hwrk hsl
 go_wp2_with fail
 refine HSl.out.mono ?_
 rintro e w4 ⟨sa,rfl,hS4,k4⟩
 have hB4:= (HM3.out.kept k4).bm
 have htold:=benchTold_any Kk A.T (G:=crewG w4 c.cb c.qb (D3.rows A.slots.length) (psOf D3.ts)) (Kj:=Kj) (wz:=wz) (a:=a) (cap:=cap) (rd:=rd) (rc:=rc) (mb:=mb) (bb:=bb) (mx:=mx) (ts:=D3.ts) (d:=D3.d) (dc:=D3.dc) (f:=D3.f) (ws:=D3.ws) (w:=w4) (by rw [HCc.out] at hB4;rw [HCc.out];exact hB4) (by have h:=HB3.out.i.bs;rw [HWL.out] at h;exact h) (by have:=HB3.out.b1;omega) HVal.out HB3.out.i.run (hR.kept ((HKz.out.trans HKz3.out).trans k4))
 have HTold:=Kz htold
 have HS4:=Kz hS4
 have HK4:=Kz k4
 clear htold hS4 k4 hB4
 go_wp2_with fail
 refine HTold.out.mono ?_
 rintro e w5 ⟨o,xa,xf,xc,xe,mid,rfl,hA,hRs,hCh,q1,q2,k5⟩
 have hchain:=crewChain_any (t:=u) (W:=Q_ Kj) ((HM3.out.kept HK4.out).kept k5) (bk:=A.back) (by rw [<-HWL.out];exact HB3.out.i.pl.effs) HB3.out.i.pl.sane.back HB3.out.i.pl.sane.prev (by have:=HSm.out;omega) HSm.out.1
 rw [HCB.out] at hchain
 have HChn:=Kz hchain
 have HA:=Kz hA
 have HRs:=Kz hRs
 have HCh:=Kz hCh
 have HK5:=Kz k5
 clear hchain hA hRs hCh k5
 go_wp2_with fail
 refine HChn.out.mono ?_
 rintro e w6 ⟨ca,ch,pp,rfl,hfe,hch,hchl,hC6,k6⟩
 have hRr:=HRes.out.kept (HKb.out.trans (HKz3.out.trans (HK4.out.trans (HK5.out.trans k6))))
 obtain ⟨⟨_,fa0⟩,fb0⟩:=hRr.row.at (i:=0) (by omega)
 obtain ⟨⟨_,fa1⟩,fb1⟩:=hRr.row.at (i:=1) (by omega)
 obtain ⟨⟨_,fa2⟩,fb2⟩:=hRr.row.at (i:=2) (by omega)
 obtain ⟨⟨_,fa3⟩,fb3⟩:=hRr.row.at (i:=3) (by omega)
 obtain ⟨⟨_,fa4⟩,fb4⟩:=hRr.row.at (i:=4) (by omega)
 obtain ⟨⟨_,fa5⟩,fb5⟩:=hRr.row.at (i:=5) (by omega)
 obtain ⟨⟨_,fa6⟩,fb6⟩:=hRr.row.at (i:=6) (by omega)
 obtain ⟨⟨_,fa7⟩,fb7⟩:=hRr.row.at (i:=7) (by omega)
 obtain ⟨⟨_,fa8⟩,fb8⟩:=hRr.row.at (i:=8) (by omega)
 have hrz:=hRr.lt
 have HR6:=Kz hRr
 have HEnd:Hid (PlanAns Kj Kk (wk:Int) ⟨0,sl,u,o,ch⟩):=by
  have h1:=HSm.out.2
  rw [<-HSL.out] at h1 hchl
  refine ⟨⟨by show sl.length<=3000;omega,HA.out.1.1,HA.out.1.2,by show ch.length<=3000;omega⟩,.inl ⟨⟨HHW.out,HHR.out,by omega,by omega⟩,rfl,A.T, ?_,HA.out⟩⟩
  rw [Int.toNat_natCast]
  exact ⟨A,pp,HWrk.out,HSL.out.symm,rfl,hfe,hch⟩
 have HPl:Hid (PlanAt w6 w3.heap.size w4.heap.size mid w5.heap.size w6.heap.size sa xa xf ca sl o.res o.chain ch):=by
  have z4:=HK4.out.size
  have z5:=HK5.out.size
  have z6:=k6.size
  have h4:=HS4.out
  exact ⟨(h4.same (HK5.out.same _ _)).same (k6.same _ _),HRs.out.same (k6.same _ _),HCh.out.same (k6.same _ _),hC6,z4,q1,q2,z6⟩
 have HK6:=Kz k6
 clear hRr hfe hch hchl hC6 k6
 go_wp2_with fail
 have hX:=World.rangeAt_setCells_same w6 (w.heap.size+1) 0 [.int .i64 0,.slice sa sl.length sl.length,.int .i64 u,.int .i64 o.code,.slice xa o.res.length xc,.slice xf o.chain.length xe,.int .i64 o.units,.int .i64 o.cost,.slice ca ch.length ch.length] (HR6.out.row.there (o:=0) (m:=9) (Nat.le_refl _))
 have hKa:K_ w w6:=HKz.out.trans (HKz3.out.trans (HK4.out.trans (HK5.out.trans HK6.out)))
 have hz3:w.heap.size+1+1<=w3.heap.size:=by
  have h1:=HRes.out.lt
  have h2:=HKb.out.size
  have h3:=HKz3.out.size
  omega
 have hsz:=size_setCells (w.heap.size+1) [.int .i64 0,.slice sa sl.length sl.length,.int .i64 u,.int .i64 o.code,.slice xa o.res.length xc,.slice xf o.chain.length xe,.int .i64 o.units,.int .i64 o.cost,.slice ca ch.length ch.length] 0 w6
 have hpl:=plan_same (vs:=[.int .i64 0,.slice sa sl.length sl.length,.int .i64 u,.int .i64 o.code,.slice xa o.res.length xc,.slice xf o.chain.length xe,.int .i64 o.units,.int .i64 o.cost,.slice ca ch.length ch.length]) HPl.out (g:=w.heap.size+1) (.inl (by omega)) rfl
 refine X_ [.int .i64 0,.slice sa sl.length sl.length,.int .i64 u,.int .i64 o.code,.slice xa o.res.length xc,.slice xf o.chain.length xe,.int .i64 o.units,.int .i64 o.cost,.slice ca ch.length ch.length] _ Tryz.results9 rfl hX Tryz.underlying33 rfl Tryz.sizePlan rfl ⟨⟨0,sl,u,o,ch⟩,sa,xa,xf,ca,sl.length,xc,xe,ch.length,w4.heap.size,mid,w5.heap.size,rfl,HEnd.out, ?_,kept_sets (g:=w.heap.size+1) (by omega) [.int .i64 0,.slice sa sl.length sl.length,.int .i64 u,.int .i64 o.code,.slice xa o.res.length xc,.slice xf o.chain.length xe,.int .i64 o.units,.int .i64 o.cost,.slice ca ch.length ch.length] 0 hKa⟩
 refine ⟨hpl.sl.mono (by omega) (Nat.le_refl _),hpl.rs,hpl.ch,hpl.cn.mono (Nat.le_refl _) (Nat.le_of_eq hsz.symm), ?_,hpl.l2,hpl.l3, ?_⟩
 ·have:=hpl.l1
  omega
 ·exact Nat.le_trans hpl.l4 (Nat.le_of_eq hsz.symm)
theorem nineCells {w w1:World} {t:TypeId} {v0 v1 v2 v3 v4 v5 v6 v7 v8:Value} (k:K_ (w.alloc (.cells #[v0,v1,v2,v3,v4,v5,v6,v7,v8] t)) w1):w1.cell? ⟨w.heap.size,0,none⟩=some v0∧w1.cell? ⟨w.heap.size,1,none⟩=some v1∧w1.cell? ⟨w.heap.size,2,none⟩=some v2∧w1.cell? ⟨w.heap.size,3,none⟩=some v3∧w1.cell? ⟨w.heap.size,4,none⟩=some v4∧w1.cell? ⟨w.heap.size,5,none⟩=some v5∧w1.cell? ⟨w.heap.size,6,none⟩=some v6∧w1.cell? ⟨w.heap.size,7,none⟩=some v7∧w1.cell? ⟨w.heap.size,8,none⟩=some v8:=by
 have hl:w.heap.size < (w.alloc (.cells #[v0,v1,v2,v3,v4,v5,v6,v7,v8] t)).heap.size:=by simp
 have h:=Xz w #[v0,v1,v2,v3,v4,v5,v6,v7,v8] t
 exact ⟨(k.cell hl).trans (h 0 _ rfl),(k.cell hl).trans (h 1 _ rfl),(k.cell hl).trans (h 2 _ rfl),(k.cell hl).trans (h 3 _ rfl),(k.cell hl).trans (h 4 _ rfl),(k.cell hl).trans (h 5 _ rfl),(k.cell hl).trans (h 6 _ rfl),(k.cell hl).trans (h 7 _ rfl),(k.cell hl).trans (h 8 _ rfl)⟩
theorem le_sumW {α:Type} (f g:α->Nat) (c:Nat) (h: ∀x,f x<=c * g x): ∀l:List α,(l.map f).sum<=c * (l.map g).sum
 | []=> by simp
 | x :: r=> by
  have h1:=h x
  have h2:=le_sumW f g c h r
  simp only [List.map_cons,List.sum_cons,Nat.mul_add]
  omega
theorem sum_oneW {α:Type} (f:α->Nat): ∀l:List α,(l.map (fun x=> f x+1)).sum= (l.map f).sum+l.length
 | []=> rfl
 | x :: r=> by simp only [List.map_cons,List.sum_cons,List.length_cons,sum_oneW f r];omega
theorem cntStepsW_le (l:List Xj): (l.map cntStep).sum<=8 * szSteps l:=by
 have h:=le_sumW cntStep (fun s=> szStepD s+1) 8 (fun s=> by
  have h2:szStepD s= (s.asks.length+ (s.asks.map (·.size)).sum)+ (s.cases.length+ (s.cases.map (·.text.size)).sum)+s.give.size:=rfl
  unfold cntStep
  omega) l
 rw [sum_oneW] at h
 unfold szSteps
 omega
theorem cntNodesW_le (l:List Qq): (l.map cntNode).sum<=8 * szNodesD l:=by
 have h:=le_sumW cntNode (fun s=> szNodeD s+1) 8 (fun d=> by
  have h:=cntStepsW_le d.steps
  have h2:szNodeD d=d.name.size+szSteps d.steps:=rfl
  unfold cntNode
  omega) l
 rw [sum_oneW] at h
 unfold szNodesD
 omega
theorem lawWork (w:World) (a:Option Addr) (cap:Nat) (l:List Qq) (rd:Option Addr) (rc:Nat) (Kk:List ByteArray) (kw:Int) (hl:l.length<=maxLen) (hs: ∀s∈l,s.Fits) (hrl:Kk.length<=maxLen) (hrs: ∀s∈Kk,s.size<=maxLen) (hN:Nodes w a l) (hR:Strs w rd Kk) (hFi:FinishOk w):
  Calls Tryz.prog 3 #[.agg #[.slice a l.length cap],.slice rd Kk.length rc,.int .i64 kw] w fun e w'=> e= .returned (.bool true)∧K_ w w':=by
 obtain ⟨W0,hW0⟩: ∃W0,W0=w.alloc (.cells #[.slice a l.length cap] 24):= ⟨_,rfl⟩
 have k0:K_ w W0:=by rw [hW0];exact (K_.refl _).alloc _
 have HBox:Hid (∀w',K_ W0 w'->(fun w'=> w'.cell? ⟨w.heap.size,0,none⟩=some (.slice a l.length cap)) w'):=fun w' kk=> (box1 (w:=w) (v:= .slice a l.length cap) (t:=24) (w1:=w') (K_.trans (by rw [hW0];exact K_.refl _) kk)).1
 have z0:w.heap.size+1<=W0.heap.size:=by rw [hW0];simp
 go_enter Tryz.func3,Tryz.ntmps3
 go_wp2_with fail
 rw [<-hW0]
 clear hW0
 refine (szWeb_any _ a cap l 1048576 hl hs (hN.kept k0) (by omega) (by omega)).mono ?_
 rintro e w1 ⟨rfl,K1⟩
 by_cases hle: (szNodesD l:Int)<=1048576
 rotate_left
 ·rw [szL_neg (by omega)]
  go_wp2
  go_ret
  exact ⟨rfl,k0.trans K1⟩
 rw [szL_pos hle]
 obtain ⟨hl2,hs2⟩:=small_of_szN (l:=l) (n:=1048576) (by omega)
 go_wp2_with fail
 refine (szStringS_any _ rd rc Kk _ hrl hrs (hR.kept (k0.trans K1)) (by omega) (by omega)).mono ?_
 rintro e w2 ⟨rfl,e2⟩
 have K2:K_ W0 w2:=by rw [e2];exact K1
 clear e2 K1
 by_cases hle2: (szStrs Kk:Int)<=1048576 - szNodesD l
 rotate_left
 ·rw [szL_neg (by omega)]
  go_wp2
  go_ret
  exact ⟨rfl,k0.trans K2⟩
 rw [szL_pos hle2]
 have hr2:Kk.length<=1048576:=by unfold szStrs at hle2;omega
 have hcN:1+ (l.map cntNode).sum+Kk.length<=33554432:=by
  have h1:=cntNodesW_le l
  omega
 have hnn: ¬((1048576:Int) - szNodesD l - szStrs Kk < 0):=by omega
 have HCn:=Kz hcN
 clear hle hle2 hcN
 have b0:=HBox.out _ K2
 have hz2:=K2.size
 go_wp2_with fail
 refine (toWeb_any _ a cap l hl2 hs2 (hN.kept (k0.trans K2))).mono ?_
 rintro e w3 ⟨bw,rfl,hN3,k3,hb1⟩
 have HN3:=Kz hN3
 clear hN3 hb1 hnn b0
 go_wp2_with fail
 refine (toStringS_any _ rd rc Kk hr2 (hR.kept (k0.trans (K2.trans k3)))).mono ?_
 rintro e w4 ⟨c1,rfl,hR4,k4,_⟩
 have HR4:=Kz hR4
 clear hR4
 go_wp2_with fail
 refine (specWork_any _ (some ⟨bw,0,none⟩) l.length l (some ⟨c1,0,none⟩) Kk.length Kk kw hl2 hs hr2 hrs (HN3.out.kept k4).nodes HR4.out).mono ?_
 rintro e w5 ⟨o,s8,r8,d8,n8,sc8,rc8,dc8,nc8,rfl,hD5,⟨hSl5,hS5,hT5,hCn5⟩,k5⟩
 obtain ⟨W5,hW5⟩: ∃W5,W5=w5.alloc (.cells #[.int .i64 o.code,.slice s8 o.slots.length sc8,.int .i64 o.ticks,.int .i64 o.out.code,.slice r8 o.out.res.length rc8,.slice d8 o.out.chain.length dc8,.int .i64 o.out.units,.int .i64 o.out.cost,.slice n8 o.chain.length nc8] 33):= ⟨_,rfl⟩
 have kC5:K_ w5 W5:=by rw [hW5];exact (K_.refl _).alloc _
 have z5:W5.heap.size=w5.heap.size+1:=by rw [hW5];simp
 have K5:K_ W0 W5:=K2.trans ((k3.trans k4).trans (k5.trans kC5))
 have HP8:Hid (∀w',K_ W5 w'->w'.cell? ⟨w5.heap.size,0,none⟩=some (.int .i64 o.code)∧w'.cell? ⟨w5.heap.size,1,none⟩=some (.slice s8 o.slots.length sc8)∧w'.cell? ⟨w5.heap.size,2,none⟩=some (.int .i64 o.ticks)∧w'.cell? ⟨w5.heap.size,3,none⟩=some (.int .i64 o.out.code)∧w'.cell? ⟨w5.heap.size,4,none⟩=some (.slice r8 o.out.res.length rc8)∧w'.cell? ⟨w5.heap.size,5,none⟩=some (.slice d8 o.out.chain.length dc8)∧w'.cell? ⟨w5.heap.size,6,none⟩=some (.int .i64 o.out.units)∧w'.cell? ⟨w5.heap.size,7,none⟩=some (.int .i64 o.out.cost)∧w'.cell? ⟨w5.heap.size,8,none⟩=some (.slice n8 o.chain.length nc8)):=fun w' kk=> nineCells (w:=w5) (w1:=w') (t:=33) (K_.trans (by rw [hW5];exact K_.refl _) kk)
 have HT:=Kz (hS5.kept kC5)
 have HU:=Kz (hT5.kept kC5)
 have HSl:=Kz (hSl5.kept kC5)
 have HCh:=Kz (hCn5.kept kC5)
 have HD5:=Kz hD5
 clear hS5 hT5 hSl5 hCn5 hD5 HN3 HR4
 go_upto_region 9 with fail
 rw [<-hW5]
 clear hW5 kC5 k3 k4 k5 K2
 have b0:=HBox.out _ K5
 go_wp2_with fail
 refine (toWeb_in _ a cap l hl2 hs2 (hN.kept (k0.trans K5))).mono ?_
 rintro e w6 ⟨bx,rfl,hNx,k6⟩
 obtain ⟨W6,hW6⟩: ∃W6,W6=w6.alloc (.cells #[.slice (some ⟨bx,0,none⟩) l.length l.length] 37):= ⟨_,rfl⟩
 have kA:K_ w6 W6:=by rw [hW6];exact (K_.refl _).alloc _
 have z6:W6.heap.size=w6.heap.size+1:=by rw [hW6];simp
 have K56:K_ W5 W6:=k6.trans kA
 have HX:Hid (∀w',K_ W6 w'->(fun w'=> w'.cell? ⟨w6.heap.size,0,none⟩=some (.slice (some ⟨bx,0,none⟩) l.length l.length)∧w'.cell? ⟨w.heap.size,0,none⟩=some (.slice a l.length cap)) w'):=fun w' kk=> ⟨(box1 (w:=w6) (w1:=w') (K_.trans (by rw [<-hW6];exact K_.refl _) kk)).1,HBox.out _ ((K5.trans K56).trans kk)⟩
 have HN6:=Kz (hNx.same (kA.same _ _))
 have hz6:=k6.size
 have hz5:=K5.size
 clear b0 hNx kA k6
 go_upto_region 10 with fail
 rw [<-hW6]
 clear hW6
 go_wp2_with fail
 refine (toStringS_in _ rd rc Kk hr2 (hR.kept (k0.trans (K5.trans K56)))).mono ?_
 rintro e w7 ⟨bu,rfl,hU7,k7⟩
 have HR7:=Kz hU7
 have hz7:=k7.size
 have K57:K_ W5 w7:=K56.trans k7
 have HN7:=Kz (HN6.out.same (k7.same _ _))
 obtain ⟨x0,b0⟩:=HX.out w7 k7
 clear hU7 HN6
 go_wp2_with fail
 refine (implWork_any w7 (some ⟨bx,0,none⟩) l.length l (some ⟨bu,0,none⟩) Kk.length Kk kw hl2 hs hrl (Nat.le_refl _) hrs HN7.out.nodes HR7.out.strs (hFi.kept (k0.trans (K5.trans K57)))).mono ?_
 rintro e w8 ⟨o2,gs,gr,gd,gn,gsc,grc,gdc,gnc,m1,m2,m3,rfl,hD8,hI8,k8⟩
 obtain rfl:o2=o:=PlanAns.one HD5.out hD8
 have hUl:=hD8.1.1
 have hVl:=hD8.1.2.1
 have hVm:=hD8.1.2.2.1
 have hVn:=hD8.1.2.2.2
 obtain ⟨W8,hW8⟩: ∃W8,W8=w8.alloc (.cells #[.int .i64 o2.code,.slice gs o2.slots.length gsc,.int .i64 o2.ticks,.int .i64 o2.out.code,.slice gr o2.out.res.length grc,.slice gd o2.out.chain.length gdc,.int .i64 o2.out.units,.int .i64 o2.out.cost,.slice gn o2.chain.length gnc] 33):= ⟨_,rfl⟩
 have kC:K_ w8 W8:=by rw [hW8];exact (K_.refl _).alloc _
 have z8':W8.heap.size=w8.heap.size+1:=by rw [hW8];simp
 have z8:=k8.size
 have HGB:Hid (∀w',K_ W8 w'->w'.cell? ⟨w8.heap.size,0,none⟩=some (.int .i64 o2.code)∧w'.cell? ⟨w8.heap.size,1,none⟩=some (.slice gs o2.slots.length gsc)∧w'.cell? ⟨w8.heap.size,2,none⟩=some (.int .i64 o2.ticks)∧w'.cell? ⟨w8.heap.size,3,none⟩=some (.int .i64 o2.out.code)∧w'.cell? ⟨w8.heap.size,4,none⟩=some (.slice gr o2.out.res.length grc)∧w'.cell? ⟨w8.heap.size,5,none⟩=some (.slice gd o2.out.chain.length gdc)∧w'.cell? ⟨w8.heap.size,6,none⟩=some (.int .i64 o2.out.units)∧w'.cell? ⟨w8.heap.size,7,none⟩=some (.int .i64 o2.out.cost)∧w'.cell? ⟨w8.heap.size,8,none⟩=some (.slice gn o2.chain.length gnc)):=fun w' kk=> nineCells (w:=w8) (w1:=w') (t:=33) (K_.trans (by rw [hW8];exact K_.refl _) kk)
 have HI8:=Kz (hI8.same (kC.same _ _))
 have K78:=k8.trans kC
 clear hI8 hD8 x0 b0
 have hm1:o2.slots.length<=maxLen:=by unfold maxLen;omega
 have hm2:o2.out.res.length<=maxLen:=by unfold maxLen;omega
 have hm3:o2.out.chain.length<=maxLen:=by unfold maxLen;omega
 have hm4:o2.chain.length<=maxLen:=by unfold maxLen;omega
 go_upto_region 12 with fail
 rw [<-hW8]
 clear hW8 kC k8
 obtain ⟨g0,g1,g2,g3,g4,g5,g6,g7,g8⟩:=HGB.out W8 (K_.refl _)
 obtain ⟨p0,p1,p2,p3,p4,p5,p6,p7,p8⟩:=HP8.out W8 (K57.trans K78)
 go_wp2_with fail
 refine (eqPlan_yes _ _ _ _ _ _ _ _ _ _ gs gr gd gn gsc grc gdc gnc s8 r8 d8 n8 sc8 rc8 dc8 nc8 hm1 hm2 hm3 hm4 HI8.out.sl.slts (HSl.out.kept (K57.trans K78)) HI8.out.rs.ress (HT.out.kept (K57.trans K78)) HI8.out.ch.strs (HU.out.kept (K57.trans K78)) HI8.out.cn.slts (HCh.out.kept (K57.trans K78))).mono ?_
 rintro e w9 ⟨rfl,k9⟩
 have K79:=K78.trans k9
 have HX9:Hid (∀w',K_ w9 w'->(fun w'=> w'.cell? ⟨w6.heap.size,0,none⟩=some (.slice (some ⟨bx,0,none⟩) l.length l.length)∧w'.cell? ⟨w.heap.size,0,none⟩=some (.slice a l.length cap)) w'):=fun w' kk=> HX.out w' (k7.trans (K79.trans kk))
 have KW9:=k0.trans ((K5.trans K57).trans K79)
 have HN9:=Kz (HN7.out.same (K79.same _ _))
 have HR9:=Kz (HR7.out.same (K79.same _ _))
 have HI9:=Kz (HI8.out.same (k9.same _ _))
 obtain ⟨x0,b0⟩:=HX9.out w9 (K_.refl _)
 clear HN7 HR7 HI8 g0 g1 g2 g3 g4 g5 g6 g7 g8 p0 p1 p2 p3 p4 p5 p6 p7 p8
 go_upto_region 14 with fail
 refine Qx.rg 4 HX9.out fun wd KD Z_=> ?_
 refine Qx.tk 0 Z_ ?_
 refine Qx.tk 1 Z_ ?_
 refine Qx.nx 2 (fun K hK=> ?_)
 rw [if_pos (by rfl)]
 go_simp
 go_at_call 7
 refine (toWeb_any _ a cap l hl2 hs2 (hN.kept (KW9.trans KD))).mono ?_
 rintro e wq ⟨bq,rfl,hNq,kq,hbq⟩
 refine hK.out _ _ (fun _=> HX9.out _ (KD.trans kq)) ?_
 clear hK K
 try simp only [Act.put,upA,upB,upC]
 refine Qx.nx 3 (fun K hK=> ?_)
 rw [if_pos (by rfl)]
 go_simp
 go_at_call 11
 refine (eqWeb_yes _ (some ⟨bx,0,none⟩) (some ⟨bq,0,none⟩) l.length l.length l hl hs (HN9.out.same ((KD.trans kq).same _ _)).nodes hNq.nodes).mono ?_
 rintro e w10 ⟨rfl,k10⟩
 refine hK.out _ _ (fun _=> HX9.out _ ((KD.trans kq).trans k10)) ?_
 clear hK K
 try simp only [Act.put,upA,upB,upC]
 refine Qx.nx 4 (fun K hK=> ?_)
 go_simp
 refine hK.out _ _ (fun h=> absurd rfl h) ?_
 clear hK K
 try simp only [Act.put,upA,upB,upC]
 refine Qx.dn ?_
 have K9b:= (KD.trans kq).trans k10
 clear KD kq k10 x0 b0 hNq hbq
 go_wp2_with fail
 refine (toStringS_any _ rd rc Kk hr2 (hR.kept (KW9.trans K9b))).mono ?_
 rintro e w11 ⟨d1,rfl,hR11,k11,_⟩
 go_wp2_with fail
 refine (eqStringS_yes _ (some ⟨bu,0,none⟩) (some ⟨d1,0,none⟩) Kk.length Kk.length Kk hrl (HR9.out.same ((K9b.trans k11).same _ _)).strs hR11).mono ?_
 rintro e w12 ⟨rfl,k12⟩
 have K9c:K_ w9 w12:= (K9b.trans k11).trans k12
 have K7c:=K79.trans K9c
 clear hR11 k11 k12 K9b
 obtain ⟨x0,b0⟩:=HX.out w12 (k7.trans K7c)
 have HN12:=Kz (HN9.out.same (K9c.same _ _))
 have HR12:=Kz (HR9.out.same (K9c.same _ _))
 have HI12:=Kz (HI9.out.same (K9c.same _ _))
 have K8c:K_ W8 w12:=k9.trans K9c
 have z8c:=K8c.size
 have HG12b:=Kz (HGB.out w12 K8c)
 have z12:=K7c.size
 have K512:=K57.trans K7c
 have hcn:=HCn.out
 clear HN9 HR9 HI9 HX9 K9c
 go_wp2_with fail
 refine (markWeb_any _ W5.heap.size w6.heap.size (some ⟨bx,0,none⟩) l.length l 1 (by omega) (by omega) HN12.out).mono ?_
 rintro e w13 ⟨rfl,_,kb13⟩
 have K513:K_ W5 w13:=kb13.kept K512 (Nat.le_refl _)
 have z13:=kb13.size
 have HGc13:Hid (∀o,w13.cell? ⟨w8.heap.size,o,none⟩=w12.cell? ⟨w8.heap.size,o,none⟩):=fun o=> World.cell?_of_block (w:=w12) (kb13.block _ (by show w8.heap.size < _;omega) (.inr (by show w6.heap.size<=w8.heap.size;omega)))
 have HR13:=Kz (HR12.out.same (kb13.same (l2:=W6.heap.size) (h2:=w7.heap.size) (by omega)))
 have HI13:=Kz (HI12.out.same (kb13.same (l2:=w7.heap.size) (h2:=w8.heap.size) (by omega)))
 obtain ⟨kn,hkn⟩: ∃kn,kn=1+ (l.map cntNode).sum:= ⟨_,rfl⟩
 rw [<-hkn]
 have hkn0:0 < kn:=by omega
 have hkn1:kn+Kk.length<=33554432:=by omega
 clear hkn x0 b0 kb13 HN12 HR12 HI12
 go_wp2_with fail
 refine (markStringS_any _ W6.heap.size w7.heap.size (some ⟨bu,0,none⟩) Kk.length Kk kn hkn0 (by omega) HR13.out).mono ?_
 rintro e w14 ⟨rfl,_,kb14⟩
 have K514:K_ W5 w14:=kb14.kept K513 (by have:=K56.size;omega)
 have z14:=kb14.size
 have HGc14:Hid (∀o,w14.cell? ⟨w8.heap.size,o,none⟩=w12.cell? ⟨w8.heap.size,o,none⟩):=fun o=> (World.cell?_of_block (w:=w13) (kb14.block _ (by show w8.heap.size < _;omega) (.inr (by show w7.heap.size<=w8.heap.size;omega)))).trans (HGc13.out o)
 have HI14:=Kz (HI13.out.same (kb14.same (l2:=w7.heap.size) (h2:=w8.heap.size) (by omega)))
 obtain ⟨km,hkm⟩: ∃km,km=kn+Kk.length:= ⟨_,rfl⟩
 rw [<-hkm]
 have hkm0: ¬((km:Int) < 0):=by omega
 have g0:= (HGc14.out 0).trans HG12b.out.1
 have g1:= (HGc14.out 1).trans HG12b.out.2.1
 have g2:= (HGc14.out 2).trans HG12b.out.2.2.1
 have g3:= (HGc14.out 3).trans HG12b.out.2.2.2.1
 have g4:= (HGc14.out 4).trans HG12b.out.2.2.2.2.1
 have g5:= (HGc14.out 5).trans HG12b.out.2.2.2.2.2.1
 have g6:= (HGc14.out 6).trans HG12b.out.2.2.2.2.2.2.1
 have g7:= (HGc14.out 7).trans HG12b.out.2.2.2.2.2.2.2.1
 have g8:= (HGc14.out 8).trans HG12b.out.2.2.2.2.2.2.2.2
 obtain ⟨p0,p1,p2,p3,p4,p5,p6,p7,p8⟩:=HP8.out w14 K514
 clear hkm kb14 HR13 HI13 hkn0 hkn1 hcn HCn HGc13 HGc14 HG12b
 go_wp2_with fail
 refine (eqPlan_yes _ _ _ _ _ _ _ _ _ _ gs gr gd gn gsc grc gdc gnc s8 r8 d8 n8 sc8 rc8 dc8 nc8 hm1 hm2 hm3 hm4 HI14.out.sl.slts (HSl.out.kept K514) HI14.out.rs.ress (HT.out.kept K514) HI14.out.ch.strs (HU.out.kept K514) HI14.out.cn.slts (HCh.out.kept K514)).mono ?_
 rintro e w15 ⟨rfl,k15⟩
 have K515:=K514.trans k15
 have HI15:=Kz (HI14.out.same (k15.same _ _))
 have z15:=k15.size
 have gl:w8.heap.size < w14.heap.size:=by omega
 have h0:= (k15.cell gl).trans g0
 have h1:= (k15.cell gl).trans g1
 have h2:= (k15.cell gl).trans g2
 have h3:= (k15.cell gl).trans g3
 have h4:= (k15.cell gl).trans g4
 have h5:= (k15.cell gl).trans g5
 have h6:= (k15.cell gl).trans g6
 have h7:= (k15.cell gl).trans g7
 have h8:= (k15.cell gl).trans g8
 clear HI14 k15 g0 g1 g2 g3 g4 g5 g6 g7 g8 p0 p1 p2 p3 p4 p5 p6 p7 p8
 go_wp2_with fail
 refine (markPlan_any _ _ _ _ _ _ _ _ _ _ w7.heap.size m1 m2 m3 w8.heap.size gs gr gd gn gsc grc gdc gnc 1 (by omega) (by omega) (by omega) HI15.out).mono ?_
 rintro e w16 ⟨rfl,hI16,kb16⟩
 have K516:K_ W5 w16:=kb16.kept K515 (by have:=K57.size;omega)
 have z16:=kb16.size
 have gk: ∀o,w16.cell? ⟨w8.heap.size,o,none⟩=w15.cell? ⟨w8.heap.size,o,none⟩:=fun o=> World.cell?_of_block (w:=w15) (kb16.block _ (by show w8.heap.size < _;omega) (.inr (Nat.le_refl _)))
 have i0:= (gk 0).trans h0
 have i1:= (gk 1).trans h1
 have i2:= (gk 2).trans h2
 have i3:= (gk 3).trans h3
 have i4:= (gk 4).trans h4
 have i5:= (gk 5).trans h5
 have i6:= (gk 6).trans h6
 have i7:= (gk 7).trans h7
 have i8:= (gk 8).trans h8
 have gl16:w8.heap.size < w16.heap.size:=by omega
 obtain ⟨M,hM⟩: ∃M,M=1+o2.slots.length * 3+ (o2.out.res.length * 4+o2.out.chain.length)+o2.chain.length * 3:= ⟨_,rfl⟩
 rw [<-hM]
 have hMM: ((M:Int) != (M:Int))=false:=by simp
 have hM0: ¬((M:Int) < 0):=by omega
 have HI16:=Kz hI16
 have HM:=Kz hM
 clear hM hI16 kb16 HI15 h0 h1 h2 h3 h4 h5 h6 h7 h8 gk
 go_wp2_with fail
 refine (heldPlan_yes _ _ _ _ _ _ _ _ _ _ gs gr gd gn gsc grc gdc gnc 1 (by omega) (by omega) HI16.out.sl.slts HI16.out.rs.ress HI16.out.ch.strs HI16.out.cn.slts).mono ?_
 rintro e w17 ⟨rfl,k17⟩
 rw [<-HM.out]
 have K517:=K516.trans k17
 have HI17:=Kz (HI16.out.same (k17.same _ _))
 have KW17:=k0.trans (K5.trans K517)
 have HGB17:Hid (∀w',K_ w17 w'->w'.cell? ⟨w8.heap.size,0,none⟩=some (.int .i64 o2.code)∧w'.cell? ⟨w8.heap.size,1,none⟩=some (.slice gs o2.slots.length gsc)∧w'.cell? ⟨w8.heap.size,2,none⟩=some (.int .i64 o2.ticks)∧w'.cell? ⟨w8.heap.size,3,none⟩=some (.int .i64 o2.out.code)∧w'.cell? ⟨w8.heap.size,4,none⟩=some (.slice gr o2.out.res.length grc)∧w'.cell? ⟨w8.heap.size,5,none⟩=some (.slice gd o2.out.chain.length gdc)∧w'.cell? ⟨w8.heap.size,6,none⟩=some (.int .i64 o2.out.units)∧w'.cell? ⟨w8.heap.size,7,none⟩=some (.int .i64 o2.out.cost)∧w'.cell? ⟨w8.heap.size,8,none⟩=some (.slice gn o2.chain.length gnc)):=fun w' kk=> ⟨((k17.trans kk).cell gl16).trans i0,((k17.trans kk).cell gl16).trans i1,((k17.trans kk).cell gl16).trans i2,((k17.trans kk).cell gl16).trans i3,((k17.trans kk).cell gl16).trans i4,((k17.trans kk).cell gl16).trans i5,((k17.trans kk).cell gl16).trans i6,((k17.trans kk).cell gl16).trans i7,((k17.trans kk).cell gl16).trans i8⟩
 have b0:=HBox.out w17 (K5.trans K517)
 clear k17 HI16 i0 i1 i2 i3 i4 i5 i6 i7 i8 gl16
 go_wp2_with fail
 refine (toWeb_any _ a cap l hl2 hs2 (hN.kept KW17)).mono ?_
 rintro e w18 ⟨bw2,rfl,hN18,k18,hb18⟩
 have HN18:=Kz hN18
 clear hN18 hb18 b0
 go_wp2_with fail
 refine (toStringS_any _ rd rc Kk hr2 (hR.kept (KW17.trans k18))).mono ?_
 rintro e w19 ⟨c19,rfl,hR19,k19,_⟩
 have HR19:=Kz hR19
 clear hR19
 go_wp2_with fail
 refine (implWork_any _ (some ⟨bw2,0,none⟩) l.length l (some ⟨c19,0,none⟩) Kk.length Kk kw hl2 hs hrl (Nat.le_refl _) hrs (HN18.out.kept k19).nodes HR19.out (hFi.kept (KW17.trans (k18.trans k19)))).mono ?_
 rintro e w20 ⟨o3,s9,r9,d9,n9,sc9,rc9,dc9,nc9,_,_,_,rfl,hD9,hI9,k20⟩
 obtain rfl:o2=o3:=PlanAns.one hD9 HD5.out
 obtain ⟨W20,hW20⟩: ∃W20,W20=w20.alloc (.cells #[.int .i64 o2.code,.slice s9 o2.slots.length sc9,.int .i64 o2.ticks,.int .i64 o2.out.code,.slice r9 o2.out.res.length rc9,.slice d9 o2.out.chain.length dc9,.int .i64 o2.out.units,.int .i64 o2.out.cost,.slice n9 o2.chain.length nc9] 33):= ⟨_,rfl⟩
 have kC20:K_ w20 W20:=by rw [hW20];exact (K_.refl _).alloc _
 have K17c:K_ w17 W20:= (k18.trans k19).trans (k20.trans kC20)
 have hI9s:=hI9.strs
 have HSa9:=Kz (hI9s.1.kept kC20)
 have HSb9:=Kz (hI9s.2.1.kept kC20)
 have HSc9:=Kz (hI9s.2.2.1.kept kC20)
 have HSd9:=Kz (hI9s.2.2.2.kept kC20)
 have HH:Hid (W20.cell? ⟨w20.heap.size,0,none⟩=some (.int .i64 o2.code)∧W20.cell? ⟨w20.heap.size,1,none⟩=some (.slice s9 o2.slots.length sc9)∧W20.cell? ⟨w20.heap.size,2,none⟩=some (.int .i64 o2.ticks)∧W20.cell? ⟨w20.heap.size,3,none⟩=some (.int .i64 o2.out.code)∧W20.cell? ⟨w20.heap.size,4,none⟩=some (.slice r9 o2.out.res.length rc9)∧W20.cell? ⟨w20.heap.size,5,none⟩=some (.slice d9 o2.out.chain.length dc9)∧W20.cell? ⟨w20.heap.size,6,none⟩=some (.int .i64 o2.out.units)∧W20.cell? ⟨w20.heap.size,7,none⟩=some (.int .i64 o2.out.cost)∧W20.cell? ⟨w20.heap.size,8,none⟩=some (.slice n9 o2.chain.length nc9)):=nineCells (w:=w20) (w1:=W20) (t:=33) (by rw [hW20];exact K_.refl _)
 have K520:=K517.trans K17c
 have HI20:=Kz (HI17.out.same (K17c.same _ _))
 clear hI9 hI9s hD9 HI17 k18 k19 k20 kC20 HN18 HR19
 go_upto_region 32 with fail
 rw [<-hW20]
 clear hW20
 obtain ⟨p0,p1,p2,p3,p4,p5,p6,p7,p8⟩:=HP8.out W20 K520
 obtain ⟨q0,q1,q2,q3,q4,q5,q6,q7,q8⟩:=HH.out
 go_wp2_with fail
 refine (eqPlan_yes _ _ _ _ _ _ _ _ _ _ s9 r9 d9 n9 sc9 rc9 dc9 nc9 s8 r8 d8 n8 sc8 rc8 dc8 nc8 hm1 hm2 hm3 hm4 HSa9.out (HSl.out.kept K520) HSb9.out (HT.out.kept K520) HSc9.out (HU.out.kept K520) HSd9.out (HCh.out.kept K520)).mono ?_
 rintro e w21 ⟨rfl,k21⟩
 have HI21:=Kz (HI20.out.same (k21.same _ _))
 have K521:=K520.trans k21
 obtain ⟨g0,g1,g2,g3,g4,g5,g6,g7,g8⟩:=HGB17.out w21 (K17c.trans k21)
 clear k21 HI20 HSa9 HSb9 HSc9 HSd9 q0 q1 q2 q3 q4 q5 q6 q7 q8 p0 p1 p2 p3 p4 p5 p6 p7 p8 HH
 go_wp2_with fail
 refine (heldPlan_yes _ _ _ _ _ _ _ _ _ _ gs gr gd gn gsc grc gdc gnc 1 (by omega) (by omega) HI21.out.sl.slts HI21.out.rs.ress HI21.out.ch.strs HI21.out.cn.slts).mono ?_
 rintro e w22 ⟨rfl,k22⟩
 rw [<-HM.out]
 have KF:=k0.trans (K5.trans (K521.trans k22))
 clear k22 g0 g1 g2 g3 g4 g5 g6 g7 g8
 go_wp2
 go_ret
 exact ⟨rfl,KF⟩
