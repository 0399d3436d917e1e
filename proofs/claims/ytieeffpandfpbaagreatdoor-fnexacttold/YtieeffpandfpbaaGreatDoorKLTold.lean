import Derived.Test.YtieeffpandfpbaaGreatDoorKCNeeds
import Derived.Test.YtieeffpandfpbaaGreatDoorKCTold
import Derived.Test.YtieeffpandfpbaaGreatDoorKCCirc
import Derived.Deep.Cut
import Derived.Test.YtieeffpandfpbaaGreatDoorKBWaitsI
import Derived.Test.YtieeffpandfpbaaGreatDoorKXTold
import Derived.Test.YtieeffpandfpbaaGreatDoorKCResR
import Derived.Deep.MidRow
set_option maxRecDepth 100000
set_option maxHeartbeats 25600000
namespace Go.Proofs.YtieeffpandfpbaaGreatDoor
open Go.RowKit
def ChainEnd (E:ByteArray->ByteArray->Prop) (w w':World) (e:Ending):Prop:=
 ∃(da:Option Addr) (ns:List ByteArray),e= .returned (.slice da ns.length ns.length)∧StrsIn w' w.heap.size w'.heap.size da ns∧ns.length<=60∧CircX E ns∧K_ w w'
theorem chainOf_any (w:World) (mo:Nat) (kp:ByteArray->Prop) (ol:ByteArray->List ByteArray) (all:List ByteArray) (hall: ∀s,kp s->s∈all) (hal:all.length<=60) (hks: ∀s,kp s->s.size<=20) (hol: ∀s,(ol s).length<=1000000) (hL:ListsM w mo kp ol):
  Calls Tryz.prog 75 #[.map (some mo)] w fun e w'=> ChainEnd (fun x y=> y∈ol x) w w' e:=by
 go_enter Tryz.func75,Tryz.ntmps75
 go_wp2_with fail
 refine (needsOf_any w mo kp ol all hall hal hks hol hL).mono ?_
 rintro e w1 ⟨na,nc,nm,nb,mb,M,need,back,rfl,hasc,hmem,hV,hR,hM,k1⟩
 have hn60:nm.length<=60:=by
  refine Nat.le_trans (List.Nodup.length_le_of_subset ?_ (fun x hx=> hall x ((hmem x).1 hx))) hal
  exact hasc.imp fun {a b} hab=> lessX_ne hab
 have HPl:Hid (Places (fun x y=> y∈ol x) nm):= ⟨hasc,fun x y hxy=> (hmem x).2 (hL.sub x (fun e=> by rw [e] at hxy;cases hxy))⟩
 have HSm:Hid (∀s∈nm,s.size<=1048576):=fun s hs=> by have:=hks s ((hmem s).1 hs);omega
 have HR:=Kj hR
 obtain ⟨W2,hW2⟩: ∃W2,W2=w1.alloc (.cells #[.slice na nm.length nc,.slice (some ⟨nb,0,none⟩) nm.length nm.length,.slice (some ⟨mb,0,none⟩) nm.length nm.length] 184):= ⟨_,rfl⟩
 have k2:K_ w1 W2:=by rw [hW2];exact (K_.refl _).alloc _
 obtain ⟨xb,hxb⟩: ∃xb,xb=w1.heap.size:= ⟨_,rfl⟩
 have Zq:Hid (∀u,K_ W2 u->u.cell? ⟨xb,0,none⟩=some (.slice na nm.length nc)∧u.cell? ⟨xb,1,none⟩=some (.slice (some ⟨nb,0,none⟩) nm.length nm.length)∧u.cell? ⟨xb,2,none⟩=some (.slice (some ⟨mb,0,none⟩) nm.length nm.length)):=fun u k=> by
  have z1:w1.heap.size < W2.heap.size:=by rw [hW2];simp
  have h:=Xq w1 #[.slice na nm.length nc,.slice (some ⟨nb,0,none⟩) nm.length nm.length,.slice (some ⟨mb,0,none⟩) nm.length nm.length] 184
  rw [<-hW2] at h
  rw [hxb]
  exact ⟨(k.cell z1).trans (h 0 _ rfl),(k.cell z1).trans (h 1 _ rfl),(k.cell z1).trans (h 2 _ rfl)⟩
 have HV2:=Kj (hV.kept k2)
 have HK2:=Kj (k1.trans k2)
 have HW2:=Kj hW2
 have HXb:=Kj hxb
 clear hasc hmem hV hR k1 k2 hW2 hxb
 go_upto_region 2 with fail
 rw [<-HW2.out,<-HXb.out]
 refine Z_.rg 4 Zq.out fun wd KD Zz=> ?_
 refine Z_.tk 0 Zz ?_
 refine Z_.tk 1 Zz ?_
 refine Z_.nx 2 (fun K hK=> ?_)
 rw [if_pos (by rfl)]
 go_simp
 go_at_call 126
 refine (circle_any wd na nc nm nb mb need back _ M hn60 hM (HV2.out.kept KD) HR.out).mono ?_
 rintro e w3 ⟨pa,pc,best,rfl,hNb,hb60,hbm,hbe,k3⟩
 have K3:=KD.trans k3
 have HNb:=Kj hNb
 have HBe:=Kj hbe
 have HBm:=Kj hbm
 clear hNb hbe hbm
 dsimp only
 refine hK.out _ _ (fun _=> Zq.out _ K3) ?_
 clear hK K Zz
 try simp only [Act.put,upA,upB,upC]
 refine Z_.nx 3 (fun K hK=> ?_)
 rw [if_pos (by rfl)]
 go_simp
 go_at_call 125
 refine (told_any w3 na nc nm _ _ rfl rfl pa pc best HBm.out (by omega) (by omega) HSm.out (HV2.out.kept K3).names HNb.out).mono ?_
 rintro e w4 ⟨da,rfl,hT,k4⟩
 have K4:=K3.trans k4
 have HT:=Kj hT
 have HK3:=Kj (HK2.out.trans K3)
 clear hT
 dsimp only
 refine hK.out _ _ (fun _=> Zq.out _ K4) ?_
 clear hK K
 try simp only [Act.put,upA,upB,upC]
 refine Z_.nx 4 (fun K hK=> ?_)
 go_simp
 refine hK.out _ _ (fun h=> absurd rfl h) ?_
 clear hK K
 try simp only [Act.put,upA,upB,upC]
 refine Z_.dn ?_
 clear Zq HR
 go_wp2_with fail
 go_ret
 refine ⟨da,best.map (nameOf nm),by rw [List.length_map];rfl,HT.out.mono HK3.out.size (Nat.le_refl _),by rw [List.length_map];exact hb60,HBe.out.circ HPl.out,HK3.out.trans k4⟩
def ToldIn (P:OutD->Prop) (w w':World) (e:Ending):Prop:=
 ∃(o:OutD) (a f:Option Addr) (c e0 mid:Nat),e= .returned (.agg #[.int .i64 o.code,.slice a o.res.length c,.slice f o.chain.length e0,.int .i64 o.units,.int .i64 o.cost])∧P o∧RessIn w' w.heap.size mid a o.res∧StrsIn w' mid w'.heap.size f o.chain∧w.heap.size<=mid∧mid<=w'.heap.size∧K_ w w'
theorem ress_in_sets {w:World} {lo hi g:Nat} {vs:List Value} {a:Option Addr} {l:List ResD} (h:RessIn w lo hi a l) (hg:g < lo∨hi<=g):RessIn (w.setCells g 0 vs) lo hi a l:=h.same (Same.setCells hg vs 0 w)
theorem strs_in_sets {w:World} {lo hi g:Nat} {vs:List Value} {a:Option Addr} {l:List ByteArray} (h:StrsIn w lo hi a l) (hg:g < lo∨hi<=g):StrsIn (w.setCells g 0 vs) lo hi a l:=h.same (Same.setCells hg vs 0 w)
section
variable {G : Ghost} {Kk : List Qj} {wz w w' : World} {bb : Nat} {a : Option Addr} {cap : Nat} {rd : Option Addr} {rc : Nat} {mb mx : Nat} {ts : List X_} {d : Option Addr} {dc : Nat} {f : ByteArray -> Value} {ws : ByteArray -> List Nat}
theorem benchTold_any (Q_:List ByteArray) (sl:List Qq) (hB:BM G Kk wz w bb a cap rd Q_.length rc mb mx ts d dc f ws) (hBS:BS Kk ts ws) (hmx:mx<=9000) (hv:ValidX Kk Q_ sl) (hrn:Qx ts=sl) (hR:Strs w rd Q_):
  Calls Tryz.prog 31 #[.pointer (some ⟨bb,0,none⟩)] w fun e w'=> ToldIn (ToldAns Kk Q_ sl) w w' e:=by
 have HB:=Kj hB
 have HBS:=Kj hBS
 have HVx:=Kj hv
 have HRn:=Kj hrn
 have HGd:=Kj hv.good
 have hok:=web_acts hv.1
 have hN6:=HB.out.len (web_len hv.1)
 have hs60:sl.length<=60:=Nat.le_trans hv.good.len (web_len hv.1)
 have hr10:Q_.length<=10:=hv.2.1.2.1
 have HNm:Hid (∀n∈Q_,n.size<=20):=fun n hn=> by
  obtain ⟨i,hi,rfl⟩:=List.getElem_of_mem hn
  have h:= (hv.2.1.2.2 i hi).1.2.1
  simpa [List.getD,hi] using h
 have HRr:Hid (∀n∈Q_,(∃t∈ts,t.r.name=n)∨Qz Kk n=none):=fun n hn=> by
  rcases hv.rootsIn n hn with ⟨r,h1,h2⟩ | h1
  ·rw [<-hrn] at h1
   obtain ⟨t,ht,e⟩:=List.mem_map.1 h1
   exact .inl ⟨t,ht,by rw [e];exact h2⟩
  ·exact .inr h1
 have bbz:=HB.out.row.lt
 clear hB hBS hv hrn
 obtain ⟨W0,hW0⟩: ∃W0,W0=w.alloc (.cells #[.int .i64 0,.slice none 0 0,.slice none 0 0,.int .i64 0,.int .i64 0] 33):= ⟨_,rfl⟩
 have k0:K_ w W0:=by rw [hW0];exact (K_.refl _).alloc _
 have z0:W0.heap.size=w.heap.size+1:=by rw [hW0];simp
 have HRes:Hid (RowT W0 w.heap.size 33 5):=by rw [hW0];exact RowT.made w _ _
 have c2:= (HB.out.kept k0).c2
 go_enter Tryz.func31,Tryz.ntmps31
 go_upto_region 1 with fail
 rw [<-hW0]
 clear hW0
 go_wp2_with fail
 refine (resultsOf_any (HB.out.kept k0) (by rw [HRn.out];exact HVx.out.openT) (by omega) rd rc Q_ (by omega) (fun n hn=> ⟨by have:=HNm.out n hn;omega,HRr.out n hn⟩) (fun n hn=> by rw [HRn.out];have:=resX_size HGd.out (HNm.out n hn);omega) (hR.kept k0)).mono ?_
 rintro e w1 ⟨ra,rfl,hI1,k1⟩
 obtain ⟨R,hRx⟩: ∃R,R=resX (Qz Kk) (Qk sl):= ⟨_,rfl⟩
 rw [HRn.out,<-hRx] at hI1
 obtain ⟨ob,hob⟩: ∃ob,ob=w1.heap.size:= ⟨_,rfl⟩
 obtain ⟨W2,hW2⟩: ∃W2,W2=w1.alloc (.cells #[.int .i64 0,.slice ra Q_.length Q_.length,.slice none 0 0,.int .i64 0,.int .i64 0] 33):= ⟨_,rfl⟩
 have k2:K_ w1 W2:=by rw [hW2];exact (K_.refl _).alloc _
 have HOB2:Hid (OutB W2 ob W2 0 (.slice ra Q_.length Q_.length) 0 0):=by
  obtain ⟨q0,q1,q2,q3,q4⟩:=fiveCells (w:=w1) (w1:=W2) (v0:= .int .i64 0) (v1:= .slice ra Q_.length Q_.length) (v2:= .slice none 0 0) (v3:= .int .i64 0) (v4:= .int .i64 0) (t:=33) (by rw [hW2];exact K_.refl _)
  rw [<-hob] at q0 q1 q2 q3 q4
  exact ⟨But.of_kept (K_.refl _),by rw [hW2,hob];exact RowT.made w1 _ _,q0,q1,q2,q3,q4⟩
 have hob2:ob < W2.heap.size:=by rw [hW2,hob];simp
 have hz1:=k1.size
 have hw1b:w.heap.size+1<=ob:=by omega
 have HI1:Hid (RessIn W2 W0.heap.size ob ra (Q_.map R)):=by rw [hob];exact hI1.same (k2.same _ _)
 have KW2:=k0.trans (k1.trans k2)
 have HRs2:=Kj (HRes.out.kept (k1.trans k2))
 have HRx:=Kj hRx
 have HC:Hid (∀u,But (fun b=> b=ob) W2 u->K_ w u∧RowT u w.heap.size 33 5∧RessIn u W0.heap.size ob ra (Q_.map R)∧W2.heap.size<=u.heap.size):=fun u h=> ⟨h.kept KW2 (fun b e=> by rw [e];omega),h.row HRs2.out (fun (e:w.heap.size=ob)=> by omega),HI1.out.same (fun b h1 h2 _=> h.block b (by omega) (fun (e:b=ob)=> by omega)),h.size⟩
 have c3:= (HB.out.kept KW2).c3
 have bbz2:bb < W2.heap.size:=by omega
 go_upto_region 2 with fail
 rw [<-hW2,<-hob]
 clear hW2 hob k2 k1 HI1 hRx hI1 HRes HRs2 c2 KW2
 have HUs:Hid (0=unitsX (sl.take 0)∧0=costX (Qz Kk) (sl.take 0)):= ⟨rfl,rfl⟩
 have hbo: ¬ob=bb:=by omega
 go_wp2_with fail
 go_loopw [20] (fun x20 wr=> ∃(i:Nat) (uu cc:Int),i<=ts.length∧x20= .int .i64 (i:Int)∧Hid (uu=unitsX (sl.take i)∧cc=costX (Qz Kk) (sl.take i))∧Hid (OutB W2 ob wr 0 (.slice ra Q_.length Q_.length) uu cc)) (fun x20 _=> ts.length - (intOf x20).toNat)
 case atStart=> exact ⟨0,0,0,Nat.zero_le _,rfl,HUs,HOB2⟩
 case round=>
  clear HUs HOB2 c3
  obtain ⟨i,uu,cc,hi,rfl,HU,HO⟩:=hrel
  obtain ⟨Kr,hRr,hIr,hzr⟩:=HC.out wr HO.out.but
  have HKw:=Kj Kr
  have HRr:=Kj hRr
  have HIr:=Kj hIr
  clear Kr hRr hIr
  have hsum:=sums_le hok HGd.out hs60 i
  rw [<-HU.out.1,<-HU.out.2] at hsum
  have hrl: (Qx ts).length=ts.length:=by simp [Qx]
  by_cases hil:i < ts.length
  ·have hii: (i:Int) < (ts.length:Int):=by omega
   obtain ⟨g,hdg,hcell⟩:= (HB.out.kept HKw.out).item hil
   have hgw:g < w.heap.size:=by
    obtain ⟨g',hdg',_⟩:=HB.out.item hil
    rw [hdg] at hdg'
    cases hdg'
    exact (HB.out.items.lt g (by rw [hdg];rfl)).2
   subst hdg
   obtain ⟨tk,htk⟩: ∃tk,tk=ts[i]:= ⟨_,rfl⟩
   rw [<-htk] at hcell
   have hmem:tk∈ts:=by rw [htk];exact List.getElem_mem hil
   have hT:= (HB.out.kept HKw.out).task tk hmem
   have htw:= (HB.out.task tk hmem).row.lt
   have t5:=hT.rng 5 _ rfl
   have t7:=hT.rng 7 _ rfl
   simp only [Nat.zero_add] at t5 t7
   have hxg:sl[i]'(by rw [<-HRn.out,hrl];exact hil)=tk.r:=by
    have h: (Qx ts)[i]'(by rw [hrl];exact hil)=tk.r:=by rw [htk];simp [Qx]
    rw [<-h]
    congr 1
    exact HRn.out.symm
   have hisl:i < sl.length:=by rw [<-HRn.out,hrl];exact hil
   have hxm:tk.r∈sl:=by rw [<-hxg];exact List.getElem_mem hisl
   have hxgd:=HGd.out.good tk.r hxm
   have hA:= ((HB.out).act tk hmem).1
   have hce:costOf (Qz Kk) tk.r.name=tk.cost:=by rw [costOf_some hA]
   have hcst:=costOf_le hok tk.r.name
   rw [hce] at hcst
   have hvis:0<=tk.r.Zk∧tk.r.Zk<=20:= ⟨hxgd.lo,hxgd.hi⟩
   have hmul:=vc_le hvis hcst
   have HUn:Hid (uu+tk.r.Zk=unitsX (sl.take (i+1))∧cc+tk.r.Zk * tk.cost=costX (Qz Kk) (sl.take (i+1))):=by
    rw [List.take_succ_eq_append_getElem hisl,unitsX_snoc,costX_snoc,hxg,<-HU.out.1,<-HU.out.2,hce]
    exact ⟨rfl,rfl⟩
   obtain ⟨tb,htb⟩: ∃tb,tb=tk.tb:= ⟨_,rfl⟩
   obtain ⟨vv,hvv⟩: ∃vv,vv=tk.r.Zk:= ⟨_,rfl⟩
   obtain ⟨cst,hcs⟩: ∃cst,cst=tk.cost:= ⟨_,rfl⟩
   have hcell':wr.cell? ⟨g,i,none⟩=some (.pointer (some ⟨tb,0,none⟩)):=by rw [htb];exact hcell
   rw [<-htb,<-hvv] at t5
   rw [<-htb,<-hcs] at t7
   rw [<-htb] at htw
   rw [<-hvv,<-hcs] at HUn hmul
   rw [<-hvv] at hvis
   rw [<-hcs] at hcst
   have hw1:IntKind.i64.wrap (uu+vv)=uu+vv:=wrap_i64_in (by omega) (by omega)
   have hw2:IntKind.i64.wrap (vv * cst)=vv * cst:=wrap_i64_in (by omega) (by omega)
   have hw3:IntKind.i64.wrap (cc+vv * cst)=cc+vv * cst:=wrap_i64_in (by omega) (by omega)
   have hob1:=HO.out.row.lt
   have Zq:Hid (∀u:World,(∀b,b < w.heap.size∨b=ob->u.heap[b]? =wr.heap[b]?)->u.cell? ⟨ob,3,none⟩=some (.int .i64 uu)∧u.cell? ⟨ob,4,none⟩=some (.int .i64 cc)∧u.cell? ⟨tb,5,none⟩=some (.int .i64 vv)∧u.cell? ⟨tb,7,none⟩=some (.int .i64 cst)):=fun u hh=> ⟨(World.cell?_of_block (w:=wr) (hh ob (.inr rfl))).trans HO.out.c3,(World.cell?_of_block (w:=wr) (hh ob (.inr rfl))).trans HO.out.c4,(World.cell?_of_block (w:=wr) (hh tb (.inl htw))).trans t5,(World.cell?_of_block (w:=wr) (hh tb (.inl htw))).trans t7⟩
   have hgz:g < wr.heap.size:=by omega
   have hto: ¬ob=tb:=by omega
   clear hcell hT t5 t7 hxg hisl hxm hxgd hA hce hcs hvv htb htk hmem
   go_upto_region 5 with fail
   refine Z_.rh 9 Zq.out (fun _ _=> rfl) fun wd KD Zz=> ?_
   obtain ⟨⟨_,fo2⟩,fo1⟩:= (HO.out.kept KD).row.row.at (i:=3) (by omega)
   have hobd:= (HO.out.kept KD).row.lt
   refine Z_.tk 0 Zz ?_
   refine Z_.tk 1 Zz ?_
   refine Z_.tk 2 Zz ?_
   refine Z_.tk 3 Zz ?_
   refine Z_.tk 4 Zz ?_
   refine Z_.tk 5 Zz ?_
   refine Z_.tk 6 Zz ?_
   refine Z_.tk 7 Zz ?_
   refine Z_.tk 8 Zz ?_
   refine Z_.nx 9 (fun K hK=> ?_)
   go_simp
   refine hK.out _ _ (fun h=> absurd rfl h) ?_
   clear hK K
   try simp only [Act.put,upA,upB,upC]
   refine Z_.dn ?_
   clear fo1 fo2 hobd
   obtain ⟨W5,hW5⟩: ∃W5,W5=wd.setCell ⟨ob,3,none⟩ (.int .i64 (uu+vv)):= ⟨_,rfl⟩
   rw [<-hW5]
   have HO5:Hid (OutB W2 ob W5 0 (.slice ra Q_.length Q_.length) (uu+vv) cc):=by rw [hW5];exact (HO.out.kept KD).set3 _
   have HB5:Hid (∀b,b≠ob->b < wr.heap.size->W5.heap[b]? =wr.heap[b]?):=fun b hb hz=> by rw [hW5,Below.heap_setCell _ _ _ _ hb];exact KD.block b hz
   have HS5:Hid (∀u:World,(∀b,b < w.heap.size∨b=ob->u.heap[b]? =W5.heap[b]?)->u.cell? ⟨ob,4,none⟩=some (.int .i64 cc)∧u.cell? ⟨tb,5,none⟩=some (.int .i64 vv)∧u.cell? ⟨tb,7,none⟩=some (.int .i64 cst)):=fun u hh=> by
    have ho:=Zq.out wr (fun _ _=> rfl)
    have q: ∀b o,b < w.heap.size->u.cell? ⟨b,o,none⟩=wr.cell? ⟨b,o,none⟩:=fun b o hb=> (World.cell?_of_block (w:=W5) (hh b (.inl hb))).trans (World.cell?_of_block (w:=wr) (HB5.out b (by omega) (by omega)))
    exact ⟨(World.cell?_of_block (w:=W5) (hh ob (.inr rfl))).trans HO5.out.c4,(q _ _ htw).trans ho.2.2.1,(q _ _ htw).trans ho.2.2.2⟩
   have hz5:wr.heap.size<=W5.heap.size:=by rw [hW5,size_setCell];exact KD.size
   clear hW5 KD HO Zq Zz hcell'
   clear wd
   go_upto_region 6 with fail
   refine Z_.rh 15 HS5.out (fun _ _=> rfl) fun wd KD Zz=> ?_
   obtain ⟨⟨_,fo2⟩,fo1⟩:= (HO5.out.kept KD).row.row.at (i:=4) (by omega)
   have hobd:= (HO5.out.kept KD).row.lt
   refine Z_.tk 0 Zz ?_
   refine Z_.tk 1 Zz ?_
   refine Z_.tk 2 Zz ?_
   refine Z_.tk 3 Zz ?_
   refine Z_.tk 4 Zz ?_
   refine Z_.tk 5 Zz ?_
   refine Z_.tk 6 Zz ?_
   refine Z_.tk 7 Zz ?_
   refine Z_.tk 8 Zz ?_
   refine Z_.tk 9 Zz ?_
   refine Z_.tk 10 Zz ?_
   refine Z_.tk 11 Zz ?_
   refine Z_.tk 12 Zz ?_
   refine Z_.tk 13 Zz ?_
   refine Z_.tk 14 Zz ?_
   refine Z_.nx 15 (fun K hK=> ?_)
   go_simp
   refine hK.out _ _ (fun h=> absurd rfl h) ?_
   clear hK K
   try simp only [Act.put,upA,upB,upC]
   refine Z_.dn ?_
   have HO6:Hid (OutB W2 ob (wd.setCell ⟨ob,4,none⟩ (.int .i64 (cc+vv * cst))) 0 (.slice ra Q_.length Q_.length) (uu+vv) (cc+vv * cst)):= (HO5.out.kept KD).set4 _
   clear fo1 fo2 hobd Zz
   go_wp2
   go_roundw
   case rel=> exact ⟨i+1,uu+vv,cc+vv * cst,by omega,by go_num,HUn,HO6⟩
   case measure=> simp [intOf];omega
  ·have hni: ¬((i:Int) < (ts.length:Int)):=by omega
   have hie:i=sl.length:=by rw [<-HRn.out,hrl];omega
   have HUe:Hid (uu=unitsX sl∧cc=costX (Qz Kk) sl):=by have h:=HU.out;rw [hie,List.take_length] at h;exact h
   have HRl:Hid ((Q_.map R).length=Q_.length):=by show _=_;rw [List.length_map]
   have o1:=HO.out.c1
   have hob1:=HO.out.row.lt
   clear hil hie HU hi hrl hsum
   go_wp2_with fail
   have hcf:=anyNotOver_any wr ra Q_.length (Q_.map R) (by rw [HRl.out];omega) HIr.out.ress
   rw [HRl.out] at hcf
   refine hcf.mono ?_
   clear hcf
   rintro e w5 ⟨hsay,k5⟩
   have HO5:=Kj (HO.out.kept k5)
   obtain ⟨Kr5,hRr5,hIr5,hzr5⟩:=HC.out w5 HO5.out.but
   have HKw5:=Kj Kr5
   have HRr5:=Kj hRr5
   have HIr5:=Kj hIr5
   clear Kr5 hRr5 hIr5 HO HRr HIr o1 hob1
   have hob5:=HO5.out.row.lt
   rcases hsay.cases with ⟨rfl,hyes⟩ | ⟨rfl,hno⟩
   rotate_left
   ·have HNo:=Kj hno
    have HTo:Hid (ToldAns Kk Q_ sl ⟨0,Q_.map R,[],uu,cc⟩):= ⟨⟨by rw [HRl.out];exact hr10,Nat.zero_le _⟩,.inl ⟨HVx.out,⟨by rw [HRx.out],HUe.out.1,HUe.out.2,.inl ⟨HNo.out,rfl,rfl⟩⟩⟩⟩
    have o0:=HO5.out.c0
    obtain ⟨⟨_,f0⟩,f1⟩:=HO5.out.row.row.at (i:=0) (by omega)
    obtain ⟨W6,hW6⟩: ∃W6,W6=w5.setCell ⟨ob,0,none⟩ (.int .i64 0):= ⟨_,rfl⟩
    have HO6:Hid (OutB W2 ob W6 0 (.slice ra Q_.length Q_.length) uu cc):=by rw [hW6];exact HO5.out.set0 0
    clear hno hsay
    go_upto_region 14 with fail
    rw [<-hW6]
    clear hW6 f0 f1 o0
    have o0:=HO6.out.c0
    have o1:=HO6.out.c1
    have o2:=HO6.out.c2
    have o3:=HO6.out.c3
    have o4:=HO6.out.c4
    obtain ⟨Kr6,hRr6,hIr6,hzr6⟩:=HC.out W6 HO6.out.but
    have HK6:=Kj Kr6
    have HRr6:=Kj hRr6
    have HIr6:=Kj hIr6
    have hob6:=HO6.out.row.lt
    clear Kr6 hRr6 hIr6
    obtain ⟨⟨_,fa0⟩,fb0⟩:=HRr6.out.row.at (i:=0) (by omega)
    obtain ⟨⟨_,fa1⟩,fb1⟩:=HRr6.out.row.at (i:=1) (by omega)
    obtain ⟨⟨_,fa2⟩,fb2⟩:=HRr6.out.row.at (i:=2) (by omega)
    obtain ⟨⟨_,fa3⟩,fb3⟩:=HRr6.out.row.at (i:=3) (by omega)
    obtain ⟨⟨_,fa4⟩,fb4⟩:=HRr6.out.row.at (i:=4) (by omega)
    have hrz:=HRr6.out.lt
    have hrw: ¬ob=w.heap.size:=by omega
    go_wp2
    have hX:=World.rangeAt_setCells_same W6 w.heap.size 0 [.int .i64 0,.slice ra Q_.length Q_.length,.slice none 0 0,.int .i64 uu,.int .i64 cc] (HRr6.out.row.there (o:=0) (m:=5) (Nat.le_refl _))
    refine Xz [.int .i64 0,.slice ra Q_.length Q_.length,.slice none 0 0,.int .i64 uu,.int .i64 cc] _ Tryz.results31 rfl hX Tryz.underlying33 rfl Tryz.sizeOutcome5 rfl ⟨_,ra,none,Q_.length,0,ob, ?_,HTo.out, ?_, ?_,by omega, ?_, ?_⟩
    ·show Ending.returned _=Ending.returned _;rw [HRl.out];try rfl
    ·exact (ress_in_sets (vs:=[.int .i64 0,.slice ra Q_.length Q_.length,.slice none 0 0,.int .i64 uu,.int .i64 cc]) HIr6.out (.inl (by omega))).mono (by omega) (Nat.le_refl _)
    ·exact .inl rfl
    ·exact Nat.le_trans (Nat.le_of_lt hob6) (Nat.le_of_eq (size_setCells w.heap.size [.int .i64 0,.slice ra Q_.length Q_.length,.slice none 0 0,.int .i64 uu,.int .i64 cc] 0 W6).symm)
    ·exact kept_sets (Nat.le_refl _) [.int .i64 0,.slice ra Q_.length Q_.length,.slice none 0 0,.int .i64 uu,.int .i64 cc] 0 HK6.out
   have HYes:=Kj hyes
   clear hyes hsay
   go_wp2_with fail
   refine (anyReady_any (HB.out.kept HKw5.out) HBS.out hN6).mono ?_
   rintro e w6 ⟨hsay,k6⟩
   rw [HRn.out] at hsay
   have HO6:=Kj (HO5.out.kept k6)
   have hob6:=HO6.out.row.lt
   have o0:=HO6.out.c0
   obtain ⟨⟨_,f0⟩,f1⟩:=HO6.out.row.row.at (i:=0) (by omega)
   clear HO5 hob5 HKw5 HRr5 HIr5 hzr5
   rcases hsay.cases with ⟨rfl,hrdy⟩ | ⟨rfl,hnr⟩
   ·have HRdy:=Kj hrdy
    have HTo:Hid (ToldAns Kk Q_ sl ⟨2,Q_.map R,[],uu,cc⟩):= ⟨⟨by rw [HRl.out];exact hr10,Nat.zero_le _⟩,.inl ⟨HVx.out,⟨by rw [HRx.out],HUe.out.1,HUe.out.2,.inr (.inl ⟨HYes.out,HRdy.out,rfl,rfl⟩)⟩⟩⟩
    obtain ⟨W6,hW6⟩: ∃W6,W6=w6.setCell ⟨ob,0,none⟩ (.int .i64 2):= ⟨_,rfl⟩
    have HO7:Hid (OutB W2 ob W6 2 (.slice ra Q_.length Q_.length) uu cc):=by rw [hW6];exact HO6.out.set0 2
    clear hrdy hsay
    go_upto_region 14 with fail
    rw [<-hW6]
    clear hW6 f0 f1 o0 hob6 HO6
    have o0:=HO7.out.c0
    have o1:=HO7.out.c1
    have o2:=HO7.out.c2
    have o3:=HO7.out.c3
    have o4:=HO7.out.c4
    obtain ⟨Kr6,hRr6,hIr6,hzr6⟩:=HC.out W6 HO7.out.but
    have HK6:=Kj Kr6
    have HRr6:=Kj hRr6
    have HIr6:=Kj hIr6
    have hob6:=HO7.out.row.lt
    clear Kr6 hRr6 hIr6
    obtain ⟨⟨_,fa0⟩,fb0⟩:=HRr6.out.row.at (i:=0) (by omega)
    obtain ⟨⟨_,fa1⟩,fb1⟩:=HRr6.out.row.at (i:=1) (by omega)
    obtain ⟨⟨_,fa2⟩,fb2⟩:=HRr6.out.row.at (i:=2) (by omega)
    obtain ⟨⟨_,fa3⟩,fb3⟩:=HRr6.out.row.at (i:=3) (by omega)
    obtain ⟨⟨_,fa4⟩,fb4⟩:=HRr6.out.row.at (i:=4) (by omega)
    have hrz:=HRr6.out.lt
    have hrw: ¬ob=w.heap.size:=by omega
    go_wp2
    have hX:=World.rangeAt_setCells_same W6 w.heap.size 0 [.int .i64 2,.slice ra Q_.length Q_.length,.slice none 0 0,.int .i64 uu,.int .i64 cc] (HRr6.out.row.there (o:=0) (m:=5) (Nat.le_refl _))
    refine Xz [.int .i64 2,.slice ra Q_.length Q_.length,.slice none 0 0,.int .i64 uu,.int .i64 cc] _ Tryz.results31 rfl hX Tryz.underlying33 rfl Tryz.sizeOutcome5 rfl ⟨_,ra,none,Q_.length,0,ob, ?_,HTo.out, ?_, ?_,by omega, ?_, ?_⟩
    ·show Ending.returned _=Ending.returned _;rw [HRl.out];try rfl
    ·exact (ress_in_sets (vs:=[.int .i64 2,.slice ra Q_.length Q_.length,.slice none 0 0,.int .i64 uu,.int .i64 cc]) HIr6.out (.inl (by omega))).mono (by omega) (Nat.le_refl _)
    ·exact .inl rfl
    ·exact Nat.le_trans (Nat.le_of_lt hob6) (Nat.le_of_eq (size_setCells w.heap.size [.int .i64 2,.slice ra Q_.length Q_.length,.slice none 0 0,.int .i64 uu,.int .i64 cc] 0 W6).symm)
    ·exact kept_sets (Nat.le_refl _) [.int .i64 2,.slice ra Q_.length Q_.length,.slice none 0 0,.int .i64 uu,.int .i64 cc] 0 HK6.out
   have HNr:=Kj hnr
   obtain ⟨W6,hW6⟩: ∃W6,W6=w6.setCell ⟨ob,0,none⟩ (.int .i64 1):= ⟨_,rfl⟩
   have HO7:Hid (OutB W2 ob W6 1 (.slice ra Q_.length Q_.length) uu cc):=by rw [hW6];exact HO6.out.set0 1
   clear hnr hsay
   go_upto_region 9 with fail
   rw [<-hW6]
   clear hW6 f0 f1 o0 hob6 HO6
   have HK6:=Kj (HC.out W6 HO7.out.but).1
   go_wp2_with fail
   refine (waits_any (HB.out.kept HK6.out) HBS.out hok hmx hN6).mono ?_
   rintro e w8 ⟨mo,M,g,ol,rfl,hO,hI,hM,k8⟩
   have HIff:Hid ((fun x y=> y∈ol x)=WaitsX (Qz Kk) (Qk sl)):=by
    show _=_
    funext x y
    rw [hI.iff,<-HRn.out,waitsOn_iff HBS.out (by rw [HRn.out];exact HVx.out.asked)]
    simp
   have HOn:Hid (∀s,ol s≠[]->s∈ts.map (·.r.name)):=fun s hs=> by
    obtain ⟨y,hy⟩:=List.exists_mem_of_ne_nil _ hs
    obtain ⟨_,t,ht,hn,_⟩:= (hI.iff s y).1 hy
    rw [<-hn]
    exact List.mem_map.2 ⟨t,ht,rfl⟩
   have HKs:Hid (∀s,ol s≠[]->s.size<=20):=fun s hs=> by
    obtain ⟨t,ht,rfl⟩:=List.mem_map.1 (HOn.out s hs)
    obtain ⟨A,hA,_⟩:= (HBS.out.good.good t.r (List.mem_map_of_mem (f:=fun t:X_=> t.r) ht)).act
    exact (hok _ _ hA).2.2.1
   have HLm:Hid (ListsM w8 mo (fun s=> ol s≠[]) ol):=by
    obtain ⟨N,D,hN,hMp,hf,hh⟩:=hO.map
    refine ⟨⟨N,D,by omega,hMp,fun s hs=> ?_,hh⟩,fun s h=> h⟩
    have hrow:=hO.row s
    obtain ⟨a9,c9,e9,hst9⟩:=owned_strs hrow
    exact ⟨a9,c9,by rw [hf s hs,e9],hst9⟩
   have HLen:Hid (∀s,(ol s).length<=1000000):=fun s=> by have:=hI.len s;omega
   clear hO hI
   go_wp2_with fail
   refine (chainOf_any w8 mo _ ol (ts.map (·.r.name)) HOn.out (by rw [List.length_map];exact hN6) HKs.out HLen.out HLm.out).mono ?_
   rintro e w9 ⟨da,ns,rfl,hS9,hl9,hC9,k9⟩
   have HC9:Hid (CircX (WaitsX (Qz Kk) (Qk sl)) ns):=by rw [<-HIff.out];exact hC9
   have HTo:Hid (ToldAns Kk Q_ sl ⟨1,Q_.map R,ns,uu,cc⟩):= ⟨⟨by rw [HRl.out];exact hr10,hl9⟩,.inl ⟨HVx.out,⟨by rw [HRx.out],HUe.out.1,HUe.out.2,.inr (.inr ⟨HYes.out,HNr.out,rfl,HC9.out⟩)⟩⟩⟩
   have HO9:=Kj (HO7.out.kept (k8.trans k9))
   have hz8:=k8.size
   have hz7:=HO7.out.row.lt
   have hob9:=HO9.out.row.lt
   obtain ⟨⟨_,f0⟩,f1⟩:=HO9.out.row.row.at (i:=2) (by omega)
   obtain ⟨WX,hWX⟩: ∃WX,WX=w9.setCell ⟨ob,2,none⟩ (.slice da ns.length ns.length):= ⟨_,rfl⟩
   have o0:WX.cell? ⟨ob,0,none⟩=some (.int .i64 1):=by rw [hWX];exact miss HO9.out.c0 (by decide)
   have o1:WX.cell? ⟨ob,1,none⟩=some (.slice ra Q_.length Q_.length):=by rw [hWX];exact miss HO9.out.c1 (by decide)
   have o2:WX.cell? ⟨ob,2,none⟩=some (.slice da ns.length ns.length):=by rw [hWX];exact set_hit HO9.out.row.row (by omega) _
   have o3:WX.cell? ⟨ob,3,none⟩=some (.int .i64 uu):=by rw [hWX];exact miss HO9.out.c3 (by decide)
   have o4:WX.cell? ⟨ob,4,none⟩=some (.int .i64 cc):=by rw [hWX];exact miss HO9.out.c4 (by decide)
   obtain ⟨Kr6,hRr6,hIr6,hzr6⟩:=HC.out WX (by rw [hWX];exact HO9.out.but.set rfl _)
   have HK6:=Kj Kr6
   have HRr6:=Kj hRr6
   have HIr6:=Kj hIr6
   have hob6:ob < WX.heap.size:=by rw [hWX,size_setCell];exact hob9
   have HS9:Hid (StrsIn WX ob WX.heap.size da ns):=by
    have h:StrsIn WX w8.heap.size w9.heap.size da ns:=by rw [hWX];exact hS9.same (Same.setCell _ (.inl (by show ob < w8.heap.size;omega)) _)
    exact h.mono (by omega) (by rw [hWX,size_setCell];exact Nat.le_refl _)
   clear Kr6 hRr6 hIr6 hS9 hC9 HC9 HO9
   go_upto_region 14 with fail
   rw [<-hWX]
   clear hWX f0 f1 hob9
   obtain ⟨⟨_,fa0⟩,fb0⟩:=HRr6.out.row.at (i:=0) (by omega)
   obtain ⟨⟨_,fa1⟩,fb1⟩:=HRr6.out.row.at (i:=1) (by omega)
   obtain ⟨⟨_,fa2⟩,fb2⟩:=HRr6.out.row.at (i:=2) (by omega)
   obtain ⟨⟨_,fa3⟩,fb3⟩:=HRr6.out.row.at (i:=3) (by omega)
   obtain ⟨⟨_,fa4⟩,fb4⟩:=HRr6.out.row.at (i:=4) (by omega)
   have hrz:=HRr6.out.lt
   have hrw: ¬ob=w.heap.size:=by omega
   go_wp2
   have hX:=World.rangeAt_setCells_same WX w.heap.size 0 [.int .i64 1,.slice ra Q_.length Q_.length,.slice da ns.length ns.length,.int .i64 uu,.int .i64 cc] (HRr6.out.row.there (o:=0) (m:=5) (Nat.le_refl _))
   refine Xz [.int .i64 1,.slice ra Q_.length Q_.length,.slice da ns.length ns.length,.int .i64 uu,.int .i64 cc] _ Tryz.results31 rfl hX Tryz.underlying33 rfl Tryz.sizeOutcome5 rfl ⟨_,ra,da,Q_.length,ns.length,ob, ?_,HTo.out, ?_, ?_,by omega, ?_, ?_⟩
   ·show Ending.returned _=Ending.returned _;rw [HRl.out];try rfl
   ·exact (ress_in_sets (vs:=[.int .i64 1,.slice ra Q_.length Q_.length,.slice da ns.length ns.length,.int .i64 uu,.int .i64 cc]) HIr6.out (.inl (by omega))).mono (by omega) (Nat.le_refl _)
   ·exact (strs_in_sets (vs:=[.int .i64 1,.slice ra Q_.length Q_.length,.slice da ns.length ns.length,.int .i64 uu,.int .i64 cc]) HS9.out (.inl (by omega))).mono (Nat.le_refl _) (Nat.le_of_eq (size_setCells w.heap.size [.int .i64 1,.slice ra Q_.length Q_.length,.slice da ns.length ns.length,.int .i64 uu,.int .i64 cc] 0 WX).symm)
   ·exact Nat.le_trans (Nat.le_of_lt hob6) (Nat.le_of_eq (size_setCells w.heap.size [.int .i64 1,.slice ra Q_.length Q_.length,.slice da ns.length ns.length,.int .i64 uu,.int .i64 cc] 0 WX).symm)
   ·exact kept_sets (Nat.le_refl _) [.int .i64 1,.slice ra Q_.length Q_.length,.slice da ns.length ns.length,.int .i64 uu,.int .i64 cc] 0 HK6.out
end
theorem implTold_any (w:World) (a:Option Addr) (cap:Nat) (Kk:List Qj) (rd:Option Addr) (rc:Nat) (Q_:List ByteArray) (ga:Option Addr) (gc:Nat) (sl:List Qq) (hl:Kk.length<=1048576) (hf: ∀s∈Kk,s.Fits) (hrl:Q_.length<=maxLen) (hrc:Q_.length<=rc) (hrs: ∀s∈Q_,s.size<=maxLen) (hsl:sl.length<=1048576) (hst: ∀r∈sl,r.texts.length<=1048576) (hS:Nodes w a Kk) (hR:Strs w rd Q_) (hG:RunsX w ga sl) (hFi:FinishOk w):
  Calls Tryz.prog 10 #[.agg #[.slice a Kk.length cap],.agg #[.slice rd Q_.length rc,.slice ga sl.length gc]] w fun e w'=> ToldIn (ToldAns Kk Q_ sl) w w' e:=by
 obtain ⟨WB,hWB⟩: ∃WB,WB= ((w.alloc (.cells #[.slice a Kk.length cap] 37)).alloc (.cells #[.slice rd Q_.length rc,.slice ga sl.length gc] 41)).alloc (.cells #[.int .i64 0,.slice none 0 0,.slice none 0 0,.int .i64 0,.int .i64 0] 33):= ⟨_,rfl⟩
 have k0:K_ w WB:=by rw [hWB];exact (((K_.refl _).alloc _).alloc _).alloc _
 have hBs:WB.heap.size=w.heap.size+3:=by rw [hWB];simp
 have b0:WB.cell? ⟨w.heap.size,0,none⟩=some (.slice a Kk.length cap):=by
  rw [hWB]
  exact (box1 (w:=w) (v:= .slice a Kk.length cap) (t:=37) (((K_.refl _).alloc _).alloc _)).1
 have s01:WB.cell? ⟨w.heap.size+1,0,none⟩=some (.slice rd Q_.length rc)∧WB.cell? ⟨w.heap.size+1,1,none⟩=some (.slice ga sl.length gc):=by
  have h:=box2 (w:=w.alloc (.cells #[.slice a Kk.length cap] 37)) (v0:= .slice rd Q_.length rc) (v1:= .slice ga sl.length gc) (t:=41) (w1:=WB) (by rw [hWB];exact (K_.refl _).alloc _)
  rw [World.size_alloc] at h
  exact h
 have HRes:Hid (RowT WB (w.heap.size+1+1) 33 5):=by
  have h:=RowT.made ((w.alloc (.cells #[.slice a Kk.length cap] 37)).alloc (.cells #[.slice rd Q_.length rc,.slice ga sl.length gc] 41)) #[.int .i64 0,.slice none 0 0,.slice none 0 0,.int .i64 0,.int .i64 0] 33
  rw [World.size_alloc,World.size_alloc] at h
  rw [hWB]
  exact h
 obtain ⟨s0,s1⟩:=s01
 have z0:w.heap.size < WB.heap.size:=by omega
 have z1:w.heap.size+1 < WB.heap.size:=by omega
 go_enter Tryz.func10,Tryz.ntmps10
 go_upto_region 1 with fail
 rw [<-hWB]
 clear hWB
 go_wp2_with fail
 refine (resume_any _ a cap Kk rd rc Q_ ga gc sl hl hf hrl hrc hrs hsl hst (hS.kept k0) (hR.kept k0) (hG.kept k0) (hFi.kept k0)).mono ?_
 rintro e w1 ⟨k1,hcase⟩
 have K1:=k0.trans k1
 have z3:w.heap.size+3<=w1.heap.size:=by have:=k1.size;omega
 have HNo1:Hid (¬ValidX Kk Q_ sl->∀u,K_ WB u->ToldIn (ToldAns Kk Q_ sl) w (u.setCells (w.heap.size+1+1) 0 [.int .i64 9,.slice none 0 0,.slice none 0 0,.int .i64 0,.int .i64 0]) (.returned (.agg #[.int .i64 9,.slice none 0 0,.slice none 0 0,.int .i64 0,.int .i64 0]))):=fun hn u ku=> ⟨outNo,none,none,0,0,w.heap.size,rfl,⟨⟨Nat.zero_le _,Nat.zero_le _⟩,.inr ⟨hn,rfl⟩⟩,.inl rfl,.inl rfl,Nat.le_refl _,by rw [size_setCells];have:=ku.size;omega,kept_sets (g:=w.heap.size+1+1) (by omega) _ 0 (k0.trans ku)⟩
 have hRr:=HRes.out.kept k1
 clear b0 s0 s1 z0 z1 hBs
 rcases hcase with ⟨hno,rfl⟩ | ⟨hW,hRo,hA,wz,bb,mb,mx,ts,d,dc,f,ws,b,rfl,kz,hB,hBS,hmx,hb,hled,hend⟩
 ·have HNo:Hid (¬ValidX Kk Q_ sl):=fun h=> hno ⟨h.1,h.2.1,h.good.asc⟩
  obtain ⟨⟨_,fa0⟩,fb0⟩:=hRr.row.at (i:=0) (by omega)
  obtain ⟨⟨_,fa1⟩,fb1⟩:=hRr.row.at (i:=1) (by omega)
  obtain ⟨⟨_,fa2⟩,fb2⟩:=hRr.row.at (i:=2) (by omega)
  obtain ⟨⟨_,fa3⟩,fb3⟩:=hRr.row.at (i:=3) (by omega)
  obtain ⟨⟨_,fa4⟩,fb4⟩:=hRr.row.at (i:=4) (by omega)
  have hrz:=hRr.lt
  have HRr:=Kj hRr
  have HK1:=Kj k1
  clear hno k1 k0 hRr
  go_wp2_with fail
  have hX:=World.rangeAt_setCells_same w1 (w.heap.size+1+1) 0 [.int .i64 9,.slice none 0 0,.slice none 0 0,.int .i64 0,.int .i64 0] (HRr.out.row.there (o:=0) (m:=5) (Nat.le_refl _))
  exact Xz [.int .i64 9,.slice none 0 0,.slice none 0 0,.int .i64 0,.int .i64 0] _ Tryz.results10 rfl hX Tryz.underlying33 rfl Tryz.sizeOutcome5 rfl (HNo1.out HNo.out w1 HK1.out)
 have HV:=Kj (hb.trans (res_valid hW hRo hBS hled hend))
 have HBi:=Kj hb
 have HB:=Kj hB
 have HBS:=Kj hBS
 clear hRo hA kz hb hled hend hB hBS hW
 cases b
 ·have HNo:Hid (¬ValidX Kk Q_ sl):=fun h=> (by have h2:=HV.out.2 h;cases h2)
  obtain ⟨⟨_,fa0⟩,fb0⟩:=hRr.row.at (i:=0) (by omega)
  obtain ⟨⟨_,fa1⟩,fb1⟩:=hRr.row.at (i:=1) (by omega)
  obtain ⟨⟨_,fa2⟩,fb2⟩:=hRr.row.at (i:=2) (by omega)
  obtain ⟨⟨_,fa3⟩,fb3⟩:=hRr.row.at (i:=3) (by omega)
  obtain ⟨⟨_,fa4⟩,fb4⟩:=hRr.row.at (i:=4) (by omega)
  have hrz:=hRr.lt
  have HRr:=Kj hRr
  have HK1:=Kj k1
  clear k1 k0 hRr
  go_wp2_with fail
  have hX:=World.rangeAt_setCells_same w1 (w.heap.size+1+1) 0 [.int .i64 9,.slice none 0 0,.slice none 0 0,.int .i64 0,.int .i64 0] (HRr.out.row.there (o:=0) (m:=5) (Nat.le_refl _))
  exact Xz [.int .i64 9,.slice none 0 0,.slice none 0 0,.int .i64 0,.int .i64 0] _ Tryz.results10 rfl hX Tryz.underlying33 rfl Tryz.sizeOutcome5 rfl (HNo1.out HNo.out w1 HK1.out)
 have HRn:Hid (Qx ts=sl):=HBi.out.1 rfl
 have HVx:Hid (ValidX Kk Q_ sl):=HV.out.1 rfl
 have HRr:=Kj hRr
 clear HBi HV HNo1 hRr
 go_wp2_with fail
 refine (benchTold_any Q_ sl HB.out HBS.out hmx HVx.out HRn.out (hR.kept K1)).mono ?_
 rintro e w2 ⟨o,xa,xf,xc,xe,mid,rfl,hA,hRs,hCh,m1,m2,k2⟩
 have HA:=Kj hA
 have HRs:=Kj hRs
 have HCh:=Kj hCh
 have hRr:=HRr.out.kept k2
 obtain ⟨⟨_,fa0⟩,fb0⟩:=hRr.row.at (i:=0) (by omega)
 obtain ⟨⟨_,fa1⟩,fb1⟩:=hRr.row.at (i:=1) (by omega)
 obtain ⟨⟨_,fa2⟩,fb2⟩:=hRr.row.at (i:=2) (by omega)
 obtain ⟨⟨_,fa3⟩,fb3⟩:=hRr.row.at (i:=3) (by omega)
 obtain ⟨⟨_,fa4⟩,fb4⟩:=hRr.row.at (i:=4) (by omega)
 have hrz:=hRr.lt
 have HRr2:=Kj hRr
 clear hRr hA hRs hCh
 go_wp2_with fail
 have hX:=World.rangeAt_setCells_same w2 (w.heap.size+1+1) 0 (o.cells xa xf xc xe) (HRr2.out.row.there (o:=0) (m:=5) (Nat.le_refl _))
 refine Xz (o.cells xa xf xc xe) _ Tryz.results10 rfl hX Tryz.underlying33 rfl Tryz.sizeOutcome5 rfl ⟨o,xa,xf,xc,xe,mid,rfl,HA.out, ?_, ?_,by omega, ?_, ?_⟩
 ·exact (ress_in_sets (vs:=o.cells xa xf xc xe) HRs.out (.inl (by omega))).mono (by omega) (Nat.le_refl _)
 ·exact (strs_in_sets (vs:=o.cells xa xf xc xe) HCh.out (.inl (by omega))).mono (Nat.le_refl _) (Nat.le_of_eq (size_setCells (w.heap.size+1+1) (o.cells xa xf xc xe) 0 w2).symm)
 ·exact Nat.le_trans m2 (Nat.le_of_eq (size_setCells (w.heap.size+1+1) (o.cells xa xf xc xe) 0 w2).symm)
 ·exact kept_sets (g:=w.heap.size+1+1) (by omega) (o.cells xa xf xc xe) 0 (K1.trans k2)
theorem lawTold (w:World) (a:Option Addr) (cap:Nat) (l:List Qj) (rd:Option Addr) (rc:Nat) (Q_:List ByteArray) (ga:Option Addr) (gc:Nat) (sl:List Qq) (hl:l.length<=maxLen) (hs: ∀s∈l,s.Fits) (hrl:Q_.length<=maxLen) (hrs: ∀s∈Q_,s.size<=maxLen) (hsl:sl.length<=maxLen) (hsf: ∀r∈sl,r.Fits) (hN:Nodes w a l) (hR:Strs w rd Q_) (hG:RunsX w ga sl) (hFi:FinishOk w):
  Calls Tryz.prog 3 #[.agg #[.slice a l.length cap],.agg #[.slice rd Q_.length rc,.slice ga sl.length gc]] w fun e w'=> e= .returned (.bool true)∧K_ w w':=by
 obtain ⟨W0,hW0⟩: ∃W0,W0= (w.alloc (.cells #[.slice a l.length cap] 24)).alloc (.cells #[.slice rd Q_.length rc,.slice ga sl.length gc] 28):= ⟨_,rfl⟩
 have k0:K_ w W0:=by rw [hW0];exact ((K_.refl _).alloc _).alloc _
 have HBox:Hid (∀w',K_ W0 w'->(fun w'=> w'.cell? ⟨w.heap.size,0,none⟩=some (.slice a l.length cap)∧w'.cell? ⟨w.heap.size+1,0,none⟩=some (.slice rd Q_.length rc)∧w'.cell? ⟨w.heap.size+1,1,none⟩=some (.slice ga sl.length gc)) w'):=fun w' kk=> by
  have q0:= (box1 (w:=w) (v:= .slice a l.length cap) (t:=24) (w1:=w') (K_.trans (by rw [hW0];exact (K_.refl _).alloc _) kk)).1
  have q1:=box2 (w:=w.alloc (.cells #[.slice a l.length cap] 24)) (v0:= .slice rd Q_.length rc) (v1:= .slice ga sl.length gc) (t:=28) (w1:=w') (K_.trans (by rw [hW0];exact K_.refl _) kk)
  simp only [World.size_alloc] at q1
  exact ⟨q0,q1.1,q1.2⟩
 have z0:w.heap.size+1+1<=W0.heap.size:=by rw [hW0];simp
 go_enter Tryz.func3,Tryz.ntmps3
 go_wp2_with fail
 rw [<-hW0]
 clear hW0
 refine (szWeb_any _ a cap l 1048576 hl hs (hN.kept k0) (by omega) (by omega)).mono ?_
 rintro e w1 ⟨rfl,K1⟩
 by_cases hle: (szNodesD l:Int)<=1048576
 rotate_left
 ·rw [szL_neg (by omega)]
  go_wp2
  go_ret
  exact ⟨rfl,k0.trans K1⟩
 rw [szL_pos hle]
 obtain ⟨hl2,hs2⟩:=small_of_szN (l:=l) (n:=1048576) (by omega)
 obtain ⟨b0,b1,b2⟩:=HBox.out _ K1
 go_wp2_with fail
 refine (szState_any _ rd ga rc gc Q_ sl _ hrl hrs hsl hsf (hR.kept (k0.trans K1)) (hG.kept (k0.trans K1)) (by omega) (by omega)).mono ?_
 rintro e w2 ⟨rfl,k2⟩
 have K2:=K1.trans k2
 clear b0 b1 b2 K1 k2
 by_cases hle2: (szStateD Q_ sl:Int)<=1048576 - szNodesD l
 rotate_left
 ·rw [szL_neg (by omega)]
  go_wp2
  go_ret
  exact ⟨rfl,k0.trans K2⟩
 rw [szL_pos hle2]
 obtain ⟨hr2,hsl2,hst2⟩:=small_runs (Q_:=Q_) (l:=sl) (n:=1048576) (by omega)
 have hcN:1+ (l.map cntNode).sum+Q_.length+ (sl.map cntRun).sum<=33554432:=by
  have h1:=cntNodesR_le l
  have h2:=cntRuns_le sl
  have h3:szStateD Q_ sl=szStrs Q_+szRunsD sl:=rfl
  omega
 have hnn: ¬((1048576:Int) - szNodesD l - szStateD Q_ sl < 0):=by omega
 have HCn:=Kj hcN
 clear hle hle2 hcN
 obtain ⟨b0,b1,b2⟩:=HBox.out _ K2
 have hz2:=K2.size
 have KW2:=k0.trans K2
 have Zq:Hid (∀w',K_ w2 w'->(fun w'=> w'.cell? ⟨w.heap.size,0,none⟩=some (.slice a l.length cap)∧w'.cell? ⟨w.heap.size+1,0,none⟩=some (.slice rd Q_.length rc)∧w'.cell? ⟨w.heap.size+1,1,none⟩=some (.slice ga sl.length gc)) w'):=fun w' kk=> HBox.out w' (K2.trans kk)
 go_upto_region 8 with fail
 refine region_cut (ToldJ w2 l Q_ sl 24 25 26 27 28 6) ?_ ?_
 ·refine Z_.rg 6 Zq.out fun wd KD Zz=> ?_
  refine Z_.tk 0 Zz ?_
  refine Z_.tk 2 Zz ?_
  refine Z_.tw 1 5 (fun K hK=> ?_) (fun K hK=> ?_)
  ·rw [if_pos (by rfl)]
   go_simp
   go_at_call 8
   refine (toWeb_any _ a cap l hl2 hs2 (hN.kept (KW2.trans KD))).mono ?_
   rintro e w3 ⟨bw,rfl,hN3,k3,hb1⟩
   have KC3:=KD.trans k3
   refine hK.out _ _ (fun _=> Zq.out _ KC3) ?_
   clear hK K
   try simp only [Act.put,upA,upB,upC]
   refine Z_.tw 3 5 (fun K hK=> ?_) (fun K hK=> ?_)
   ·rw [if_pos (by rfl)]
    go_simp
    go_at_call 9
    refine (toStateX_any _ rd ga rc gc Q_ sl hr2 hsl2 hst2 (hR.kept (KW2.trans KC3)) (hG.kept (KW2.trans KC3))).mono ?_
    rintro e w4 ⟨c1,c2,rfl,hR4,hG4,k4,hc1,hc2⟩
    have KC4:=KC3.trans k4
    refine hK.out _ _ (fun _=> Zq.out _ KC4) ?_
    clear hK K
    try simp only [Act.put,upA,upB,upC]
    refine Z_.tw 4 5 (fun K hK=> ?_) (fun K hK=> ?_)
    ·rw [if_pos (by rfl)]
     go_simp
     go_at_call 7
     refine (specTold_any _ (some ⟨bw,0,none⟩) l.length l (some ⟨c1,0,none⟩) Q_.length Q_ (some ⟨c2,0,none⟩) sl.length sl hl2 hs hr2 hrs hsl2 hst2 (hN3.kept k4).nodes (hG4.runs.kept (K_.refl _)) (hR4.kept (K_.refl _))).mono ?_
     rintro e w5 h5
     obtain ⟨o,ra,d5,rc5,dc5,rfl,hD5,hS5,hT5,k5⟩:=h5
     have KC5:=KC4.trans k5
     refine hK.out _ _ (fun _=> Zq.out _ KC5) ?_
     clear hK K
     try simp only [Act.put,upA,upB,upC]
     refine Z_.nx 5 (fun K hK=> ?_)
     go_simp
     refine hK.out _ _ (fun _=> Zq.out _ (KC5.trans ((K_.refl _).alloc _))) ?_
     clear hK K
     try simp only [Act.put,upA,upB,upC]
     have hRw:RowT (w5.alloc (.cells #[.int .i64 0,.slice none 0 0,.slice none 0 0,.int .i64 0,.int .i64 0] 33)) w5.heap.size 33 5:=RowT.made w5 _ _
     have hNs:NoStr (w5.alloc (.cells #[.int .i64 0,.slice none 0 0,.slice none 0 0,.int .i64 0,.int .i64 0] 33)) w5.heap.size:=noStr_new
     have KA:K_ w5 (w5.alloc (.cells #[.int .i64 0,.slice none 0 0,.slice none 0 0,.int .i64 0,.int .i64 0] 33)):= (K_.refl _).alloc _
     have nz:=KC5.size
     obtain ⟨nb,hnb⟩: ∃nb,nb=w5.heap.size:= ⟨_,rfl⟩
     rw [<-hnb] at hRw hNs⊢
     generalize hwe:w5.alloc (.cells #[.int .i64 0,.slice none 0 0,.slice none 0 0,.int .i64 0,.int .i64 0] 33)=wA at hRw hNs KA⊢
     clear hwe
     have KCA:=KC5.trans KA
     have nl:=hRw.lt
     have nz2:w2.heap.size<=nb:=by omega
     have HNB:=Kj hnb
     clear hnb nz
     have hRF:=hRw
     have hNF:NoStr wA nb:=hNs
     refine Z_.nx 6 (fun K hK=> ?_)
     rw [if_pos (by rfl)]
     refine wp_store_mid 33 _ _ rfl nb 0 #[.int .i64 o.code,.slice ra o.res.length rc5,.slice d5 o.chain.length dc5,.int .i64 o.units,.int .i64 o.cost] (by rfl) (by rfl) hRF.there (by kernel_rfl) (five_one ..) ?_
     refine hK.out _ _ (fun h=> absurd rfl h) ?_
     clear hK K
     try simp only [Act.put]
     refine Z_.dn ⟨rfl, ?_⟩
     refine ⟨.agg #[.slice a l.length cap],.agg #[.slice (some ⟨bw,0,none⟩) l.length l.length],.agg #[.slice rd Q_.length rc,.slice ga sl.length gc],.agg #[.slice (some ⟨c1,0,none⟩) Q_.length Q_.length,.slice (some ⟨c2,0,none⟩) sl.length sl.length],.agg #[.int .i64 o.code,.slice ra o.res.length rc5,.slice d5 o.chain.length dc5,.int .i64 o.units,.int .i64 o.cost],nb,o,ra,rc5,d5,dc5, ?_,by omega, ?_,five_sets hRF,hD5,ress_sets_no (hS5.kept KA) hNF,strs_sets_no (hT5.kept KA) hNF,kept_sets (by omega) _ 0 KCA⟩
     ·simp only [Act.put,List.setIfInBounds_toArray,List.set_cons_zero,List.set_cons_succ]
     ·rw [size_setCells];exact hRF.lt
    ·go_simp
     refine hK.out _ _ (fun _=> Zq.out _ (KC4.trans ((K_.refl _).alloc _))) ?_
     clear hK K
     try simp only [Act.put,upA,upB,upC]
     have hRw:RowT (w4.alloc (.cells #[.int .i64 0,.slice none 0 0,.slice none 0 0,.int .i64 0,.int .i64 0] 33)) w4.heap.size 33 5:=RowT.made w4 _ _
     have hNs:NoStr (w4.alloc (.cells #[.int .i64 0,.slice none 0 0,.slice none 0 0,.int .i64 0,.int .i64 0] 33)) w4.heap.size:=noStr_new
     have KA:K_ w4 (w4.alloc (.cells #[.int .i64 0,.slice none 0 0,.slice none 0 0,.int .i64 0,.int .i64 0] 33)):= (K_.refl _).alloc _
     have nz:=KC4.size
     obtain ⟨nb,hnb⟩: ∃nb,nb=w4.heap.size:= ⟨_,rfl⟩
     rw [<-hnb] at hRw hNs⊢
     generalize hwe:w4.alloc (.cells #[.int .i64 0,.slice none 0 0,.slice none 0 0,.int .i64 0,.int .i64 0] 33)=wA at hRw hNs KA⊢
     clear hwe
     have KCA:=KC4.trans KA
     have nl:=hRw.lt
     have nz2:w2.heap.size<=nb:=by omega
     have HNB:=Kj hnb
     clear hnb nz
     refine Z_.nx 4 (fun K hK=> ?_)
     rw [if_pos (by rfl)]
     go_simp
     go_at_call 7
     refine (specTold_any _ (some ⟨bw,0,none⟩) l.length l (some ⟨c1,0,none⟩) Q_.length Q_ (some ⟨c2,0,none⟩) sl.length sl hl2 hs hr2 hrs hsl2 hst2 (hN3.kept (k4.trans KA)).nodes (hG4.runs.kept KA) (hR4.kept KA)).mono ?_
     rintro e w5 h5
     obtain ⟨o,ra,d5,rc5,dc5,rfl,hD5,hS5,hT5,k5⟩:=h5
     have KC5:=KCA.trans k5
     refine hK.out _ _ (fun _=> Zq.out _ KC5) ?_
     clear hK K
     try simp only [Act.put,upA,upB,upC]
     have hRF:=hRw.kept k5
     have hNF:NoStr w5 nb:=hNs.kept nl k5
     refine Z_.nx 6 (fun K hK=> ?_)
     rw [if_pos (by rfl)]
     refine wp_store_mid 33 _ _ rfl nb 0 #[.int .i64 o.code,.slice ra o.res.length rc5,.slice d5 o.chain.length dc5,.int .i64 o.units,.int .i64 o.cost] (by rfl) (by rfl) hRF.there (by kernel_rfl) (five_one ..) ?_
     refine hK.out _ _ (fun h=> absurd rfl h) ?_
     clear hK K
     try simp only [Act.put]
     refine Z_.dn ⟨rfl, ?_⟩
     refine ⟨.agg #[.slice a l.length cap],.agg #[.slice (some ⟨bw,0,none⟩) l.length l.length],.agg #[.slice rd Q_.length rc,.slice ga sl.length gc],.agg #[.slice (some ⟨c1,0,none⟩) Q_.length Q_.length,.slice (some ⟨c2,0,none⟩) sl.length sl.length],.agg #[.int .i64 o.code,.slice ra o.res.length rc5,.slice d5 o.chain.length dc5,.int .i64 o.units,.int .i64 o.cost],nb,o,ra,rc5,d5,dc5, ?_,by omega, ?_,five_sets hRF,hD5,ress_sets_no (hS5) hNF,strs_sets_no (hT5) hNF,kept_sets (by omega) _ 0 KC5⟩
     ·simp only [Act.put,List.setIfInBounds_toArray,List.set_cons_zero,List.set_cons_succ]
     ·rw [size_setCells];exact hRF.lt
   ·go_simp
    refine hK.out _ _ (fun _=> Zq.out _ (KC3.trans ((K_.refl _).alloc _))) ?_
    clear hK K
    try simp only [Act.put,upA,upB,upC]
    have hRw:RowT (w3.alloc (.cells #[.int .i64 0,.slice none 0 0,.slice none 0 0,.int .i64 0,.int .i64 0] 33)) w3.heap.size 33 5:=RowT.made w3 _ _
    have hNs:NoStr (w3.alloc (.cells #[.int .i64 0,.slice none 0 0,.slice none 0 0,.int .i64 0,.int .i64 0] 33)) w3.heap.size:=noStr_new
    have KA:K_ w3 (w3.alloc (.cells #[.int .i64 0,.slice none 0 0,.slice none 0 0,.int .i64 0,.int .i64 0] 33)):= (K_.refl _).alloc _
    have nz:=KC3.size
    obtain ⟨nb,hnb⟩: ∃nb,nb=w3.heap.size:= ⟨_,rfl⟩
    rw [<-hnb] at hRw hNs⊢
    generalize hwe:w3.alloc (.cells #[.int .i64 0,.slice none 0 0,.slice none 0 0,.int .i64 0,.int .i64 0] 33)=wA at hRw hNs KA⊢
    clear hwe
    have KCA:=KC3.trans KA
    have nl:=hRw.lt
    have nz2:w2.heap.size<=nb:=by omega
    have HNB:=Kj hnb
    clear hnb nz
    refine Z_.nx 3 (fun K hK=> ?_)
    rw [if_pos (by rfl)]
    go_simp
    go_at_call 9
    refine (toStateX_any _ rd ga rc gc Q_ sl hr2 hsl2 hst2 (hR.kept (KW2.trans KCA)) (hG.kept (KW2.trans KCA))).mono ?_
    rintro e w4 ⟨c1,c2,rfl,hR4,hG4,k4,hc1,hc2⟩
    have KC4:=KCA.trans k4
    refine hK.out _ _ (fun _=> Zq.out _ KC4) ?_
    clear hK K
    try simp only [Act.put,upA,upB,upC]
    refine Z_.nx 4 (fun K hK=> ?_)
    rw [if_pos (by rfl)]
    go_simp
    go_at_call 7
    refine (specTold_any _ (some ⟨bw,0,none⟩) l.length l (some ⟨c1,0,none⟩) Q_.length Q_ (some ⟨c2,0,none⟩) sl.length sl hl2 hs hr2 hrs hsl2 hst2 (hN3.kept (KA.trans k4)).nodes (hG4.runs.kept (K_.refl _)) (hR4.kept (K_.refl _))).mono ?_
    rintro e w5 h5
    obtain ⟨o,ra,d5,rc5,dc5,rfl,hD5,hS5,hT5,k5⟩:=h5
    have KC5:=KC4.trans k5
    refine hK.out _ _ (fun _=> Zq.out _ KC5) ?_
    clear hK K
    try simp only [Act.put,upA,upB,upC]
    have hRF:=hRw.kept (k4.trans k5)
    have hNF:NoStr w5 nb:=hNs.kept nl (k4.trans k5)
    refine Z_.nx 6 (fun K hK=> ?_)
    rw [if_pos (by rfl)]
    refine wp_store_mid 33 _ _ rfl nb 0 #[.int .i64 o.code,.slice ra o.res.length rc5,.slice d5 o.chain.length dc5,.int .i64 o.units,.int .i64 o.cost] (by rfl) (by rfl) hRF.there (by kernel_rfl) (five_one ..) ?_
    refine hK.out _ _ (fun h=> absurd rfl h) ?_
    clear hK K
    try simp only [Act.put]
    refine Z_.dn ⟨rfl, ?_⟩
    refine ⟨.agg #[.slice a l.length cap],.agg #[.slice (some ⟨bw,0,none⟩) l.length l.length],.agg #[.slice rd Q_.length rc,.slice ga sl.length gc],.agg #[.slice (some ⟨c1,0,none⟩) Q_.length Q_.length,.slice (some ⟨c2,0,none⟩) sl.length sl.length],.agg #[.int .i64 o.code,.slice ra o.res.length rc5,.slice d5 o.chain.length dc5,.int .i64 o.units,.int .i64 o.cost],nb,o,ra,rc5,d5,dc5, ?_,by omega, ?_,five_sets hRF,hD5,ress_sets_no (hS5) hNF,strs_sets_no (hT5) hNF,kept_sets (by omega) _ 0 KC5⟩
    ·simp only [Act.put,List.setIfInBounds_toArray,List.set_cons_zero,List.set_cons_succ]
    ·rw [size_setCells];exact hRF.lt
  ·go_simp
   refine hK.out _ _ (fun _=> Zq.out _ (KD.trans ((K_.refl _).alloc _))) ?_
   clear hK K
   try simp only [Act.put,upA,upB,upC]
   have hRw:RowT (wd.alloc (.cells #[.int .i64 0,.slice none 0 0,.slice none 0 0,.int .i64 0,.int .i64 0] 33)) wd.heap.size 33 5:=RowT.made wd _ _
   have hNs:NoStr (wd.alloc (.cells #[.int .i64 0,.slice none 0 0,.slice none 0 0,.int .i64 0,.int .i64 0] 33)) wd.heap.size:=noStr_new
   have KA:K_ wd (wd.alloc (.cells #[.int .i64 0,.slice none 0 0,.slice none 0 0,.int .i64 0,.int .i64 0] 33)):= (K_.refl _).alloc _
   have nz:=KD.size
   obtain ⟨nb,hnb⟩: ∃nb,nb=wd.heap.size:= ⟨_,rfl⟩
   rw [<-hnb] at hRw hNs⊢
   generalize hwe:wd.alloc (.cells #[.int .i64 0,.slice none 0 0,.slice none 0 0,.int .i64 0,.int .i64 0] 33)=wA at hRw hNs KA⊢
   clear hwe
   have KCA:=KD.trans KA
   have nl:=hRw.lt
   have nz2:w2.heap.size<=nb:=by omega
   have HNB:=Kj hnb
   clear hnb nz
   refine Z_.nx 1 (fun K hK=> ?_)
   rw [if_pos (by rfl)]
   go_simp
   go_at_call 8
   refine (toWeb_any _ a cap l hl2 hs2 (hN.kept (KW2.trans KCA))).mono ?_
   rintro e w3 ⟨bw,rfl,hN3,k3,hb1⟩
   have KC3:=KCA.trans k3
   refine hK.out _ _ (fun _=> Zq.out _ KC3) ?_
   clear hK K
   try simp only [Act.put,upA,upB,upC]
   refine Z_.nx 3 (fun K hK=> ?_)
   rw [if_pos (by rfl)]
   go_simp
   go_at_call 9
   refine (toStateX_any _ rd ga rc gc Q_ sl hr2 hsl2 hst2 (hR.kept (KW2.trans KC3)) (hG.kept (KW2.trans KC3))).mono ?_
   rintro e w4 ⟨c1,c2,rfl,hR4,hG4,k4,hc1,hc2⟩
   have KC4:=KC3.trans k4
   refine hK.out _ _ (fun _=> Zq.out _ KC4) ?_
   clear hK K
   try simp only [Act.put,upA,upB,upC]
   refine Z_.nx 4 (fun K hK=> ?_)
   rw [if_pos (by rfl)]
   go_simp
   go_at_call 7
   refine (specTold_any _ (some ⟨bw,0,none⟩) l.length l (some ⟨c1,0,none⟩) Q_.length Q_ (some ⟨c2,0,none⟩) sl.length sl hl2 hs hr2 hrs hsl2 hst2 (hN3.kept k4).nodes (hG4.runs.kept (K_.refl _)) (hR4.kept (K_.refl _))).mono ?_
   rintro e w5 h5
   obtain ⟨o,ra,d5,rc5,dc5,rfl,hD5,hS5,hT5,k5⟩:=h5
   have KC5:=KC4.trans k5
   refine hK.out _ _ (fun _=> Zq.out _ KC5) ?_
   clear hK K
   try simp only [Act.put,upA,upB,upC]
   have hRF:=hRw.kept ((k3.trans k4).trans k5)
   have hNF:NoStr w5 nb:=hNs.kept nl ((k3.trans k4).trans k5)
   refine Z_.nx 6 (fun K hK=> ?_)
   rw [if_pos (by rfl)]
   refine wp_store_mid 33 _ _ rfl nb 0 #[.int .i64 o.code,.slice ra o.res.length rc5,.slice d5 o.chain.length dc5,.int .i64 o.units,.int .i64 o.cost] (by rfl) (by rfl) hRF.there (by kernel_rfl) (five_one ..) ?_
   refine hK.out _ _ (fun h=> absurd rfl h) ?_
   clear hK K
   try simp only [Act.put]
   refine Z_.dn ⟨rfl, ?_⟩
   refine ⟨.agg #[.slice a l.length cap],.agg #[.slice (some ⟨bw,0,none⟩) l.length l.length],.agg #[.slice rd Q_.length rc,.slice ga sl.length gc],.agg #[.slice (some ⟨c1,0,none⟩) Q_.length Q_.length,.slice (some ⟨c2,0,none⟩) sl.length sl.length],.agg #[.int .i64 o.code,.slice ra o.res.length rc5,.slice d5 o.chain.length dc5,.int .i64 o.units,.int .i64 o.cost],nb,o,ra,rc5,d5,dc5, ?_,by omega, ?_,five_sets hRF,hD5,ress_sets_no (hS5) hNF,strs_sets_no (hT5) hNF,kept_sets (by omega) _ 0 KC5⟩
   ·simp only [Act.put,List.setIfInBounds_toArray,List.set_cons_zero,List.set_cons_succ]
   ·rw [size_setCells];exact hRF.lt
 rintro _ w5 ⟨v0,v1,v2,v3,v4,p8,o,r8,rc8,d8,dc8,rfl,hp1,hp2,c8,hD5,hS5,hT5,K3⟩
 try simp only [Act.put,upA,upB,upC]
 have K5:=K2.trans K3
 have HP8:Hid (∀w',K_ w5 w'->w'.cell? ⟨p8,0,none⟩=some (.int .i64 o.code)∧w'.cell? ⟨p8,1,none⟩=some (.slice r8 o.res.length rc8)∧w'.cell? ⟨p8,2,none⟩=some (.slice d8 o.chain.length dc8)∧w'.cell? ⟨p8,3,none⟩=some (.int .i64 o.units)∧w'.cell? ⟨p8,4,none⟩=some (.int .i64 o.cost)):=fun w' kk=> ⟨(kk.cell hp2).trans c8.1,(kk.cell hp2).trans c8.2.1,(kk.cell hp2).trans c8.2.2.1,(kk.cell hp2).trans c8.2.2.2.1,(kk.cell hp2).trans c8.2.2.2.2⟩
 have HT:=Kj hS5
 have HU:=Kj hT5
 have HD5:=Kj hD5
 clear K3 Zq K2 b0 b1 b2 hS5 hT5 hD5 hnn c8 KW2
 obtain ⟨b0,b1,b2⟩:=HBox.out _ K5
 go_wp2_with fail
 refine (toWeb_in _ a cap l hl2 hs2 (hN.kept (k0.trans K5))).mono ?_
 rintro e w6 ⟨bx,rfl,hNx,k6⟩
 obtain ⟨W6,hW6⟩: ∃W6,W6=w6.alloc (.cells #[.slice (some ⟨bx,0,none⟩) l.length l.length] 37):= ⟨_,rfl⟩
 have kA:K_ w6 W6:=by rw [hW6];exact (K_.refl _).alloc _
 have z6:W6.heap.size=w6.heap.size+1:=by rw [hW6];simp
 have K56:K_ w5 W6:=k6.trans kA
 have HNx:=Kj hNx
 have hz6:=k6.size
 have hz5:=K5.size
 clear b0 b1 b2 hNx
 obtain ⟨b0,b1,b2⟩:=HBox.out _ (K5.trans K56)
 rw [hW6] at b0 b1 b2
 go_wp2_with fail
 rw [<-hW6]
 rw [<-hW6] at b0 b1 b2
 refine (toStateX_in _ rd ga rc gc Q_ sl hr2 hsl2 hst2 (hR.kept (k0.trans (K5.trans K56))) (hG.kept (k0.trans (K5.trans K56)))).mono ?_
 rintro e w7 ⟨bu,bv,mid,rfl,hRx,hGx,hm1,hm2,k7⟩
 obtain ⟨W7,hW7⟩: ∃W7,W7=w7.alloc (.cells #[.slice (some ⟨bu,0,none⟩) Q_.length Q_.length,.slice (some ⟨bv,0,none⟩) sl.length sl.length] 41):= ⟨_,rfl⟩
 have kB:K_ w7 W7:=by rw [hW7];exact (K_.refl _).alloc _
 have z7:W7.heap.size=w7.heap.size+1:=by rw [hW7];simp
 have hz7:=k7.size
 have K57:K_ w5 W7:= (K56.trans k7).trans kB
 have HX:Hid (∀w',K_ W7 w'->(fun w'=> w'.cell? ⟨w6.heap.size,0,none⟩=some (.slice (some ⟨bx,0,none⟩) l.length l.length)∧w'.cell? ⟨w7.heap.size,0,none⟩=some (.slice (some ⟨bu,0,none⟩) Q_.length Q_.length)∧w'.cell? ⟨w7.heap.size,1,none⟩=some (.slice (some ⟨bv,0,none⟩) sl.length sl.length)∧(w'.cell? ⟨w.heap.size,0,none⟩=some (.slice a l.length cap)∧w'.cell? ⟨w.heap.size+1,0,none⟩=some (.slice rd Q_.length rc)∧w'.cell? ⟨w.heap.size+1,1,none⟩=some (.slice ga sl.length gc))) w'):=fun w' kk=> by
  have q0:= (box1 (w:=w6) (w1:=w') (K_.trans (by rw [<-hW6];exact k7.trans kB) kk)).1
  have q1:=box2 (w:=w7) (v0:= .slice (some ⟨bu,0,none⟩) Q_.length Q_.length) (v1:= .slice (some ⟨bv,0,none⟩) sl.length sl.length) (t:=41) (w1:=w') (K_.trans (by rw [hW7];exact K_.refl _) kk)
  exact ⟨q0,q1.1,q1.2,HBox.out _ ((K5.trans K57).trans kk)⟩
 have HN7:=Kj (HNx.out.same ((kA.trans (k7.trans kB)).same _ _))
 have HR7:=Kj (hRx.same (kB.same _ _))
 have HG7:=Kj (hGx.same (kB.same _ _))
 clear b0 b1 b2 hRx hGx HNx kA
 have hne: ¬w6.heap.size=w7.heap.size:=by omega
 have hw67:w6.heap.size < w7.heap.size:=by omega
 have q6:= (HX.out W7 (K_.refl _)).1
 go_upto_region 11 with fail
 rw [<-hW7]
 clear hW7 hW6 k7 kB k6
 obtain ⟨x0,x1,x2,b0,b1,b2⟩:=HX.out W7 (K_.refl _)
 go_wp2_with fail
 refine (implTold_any W7 (some ⟨bx,0,none⟩) l.length l (some ⟨bu,0,none⟩) Q_.length Q_ (some ⟨bv,0,none⟩) sl.length sl hl2 hs hrl (Nat.le_refl _) hrs hsl2 hst2 HN7.out.nodes HR7.out.strs HG7.out.runs (hFi.kept (k0.trans (K5.trans K57)))).mono ?_
 rintro e w8 ⟨o2,gr,gd,grc,gdc,mid8,rfl,hD8,hI8,hJ8,n1,n2,k8⟩
 obtain rfl:o2=o:=ToldAns.one HD5.out hD8
 have hUl:=hD8.1.1
 have hVl:=hD8.1.2
 obtain ⟨W8,hW8⟩: ∃W8,W8=w8.alloc (.cells #[.int .i64 o2.code,.slice gr o2.res.length grc,.slice gd o2.chain.length gdc,.int .i64 o2.units,.int .i64 o2.cost] 33):= ⟨_,rfl⟩
 have kC:K_ w8 W8:=by rw [hW8];exact (K_.refl _).alloc _
 have z8':W8.heap.size=w8.heap.size+1:=by rw [hW8];simp
 have z8:=k8.size
 have HGB:Hid (∀w',K_ W8 w'->w'.cell? ⟨w8.heap.size,0,none⟩=some (.int .i64 o2.code)∧w'.cell? ⟨w8.heap.size,1,none⟩=some (.slice gr o2.res.length grc)∧w'.cell? ⟨w8.heap.size,2,none⟩=some (.slice gd o2.chain.length gdc)∧w'.cell? ⟨w8.heap.size,3,none⟩=some (.int .i64 o2.units)∧w'.cell? ⟨w8.heap.size,4,none⟩=some (.int .i64 o2.cost)):=fun w' kk=> fiveCells (w:=w8) (w1:=w') (t:=33) (K_.trans (by rw [hW8];exact K_.refl _) kk)
 have HI8:=Kj (hI8.same (kC.same _ _))
 have HJ8:=Kj (hJ8.same (kC.same _ _))
 have K78:=k8.trans kC
 clear hI8 hJ8 hD8 x0 x1 x2 b0 b1 b2 q6
 have hml:o2.res.length<=maxLen:=by unfold maxLen;omega
 have hmv:o2.chain.length<=maxLen:=by unfold maxLen;omega
 go_upto_region 12 with fail
 rw [<-hW8]
 clear hW8 kC k8
 obtain ⟨g0,g1,g2,g3,g4⟩:=HGB.out W8 (K_.refl _)
 obtain ⟨p0,p1,p2,p3,p4⟩:=HP8.out W8 (K57.trans K78)
 go_wp2_with fail
 refine (eqOutcome_yes _ gr r8 gd d8 grc rc8 gdc dc8 o2 hml hmv HI8.out.ress (HT.out.kept (K57.trans K78)) HJ8.out.strs (HU.out.kept (K57.trans K78))).mono ?_
 rintro e w9 ⟨rfl,k9⟩
 have K79:=K78.trans k9
 have HX9:Hid (∀w',K_ w9 w'->(fun w'=> w'.cell? ⟨w6.heap.size,0,none⟩=some (.slice (some ⟨bx,0,none⟩) l.length l.length)∧w'.cell? ⟨w7.heap.size,0,none⟩=some (.slice (some ⟨bu,0,none⟩) Q_.length Q_.length)∧w'.cell? ⟨w7.heap.size,1,none⟩=some (.slice (some ⟨bv,0,none⟩) sl.length sl.length)∧(w'.cell? ⟨w.heap.size,0,none⟩=some (.slice a l.length cap)∧w'.cell? ⟨w.heap.size+1,0,none⟩=some (.slice rd Q_.length rc)∧w'.cell? ⟨w.heap.size+1,1,none⟩=some (.slice ga sl.length gc))) w'):=fun w' kk=> HX.out w' (K79.trans kk)
 have KW9:=k0.trans ((K5.trans K57).trans K79)
 have HN9:=Kj (HN7.out.same (K79.same _ _))
 have HR9:=Kj (HR7.out.same (K79.same _ _))
 have HG9:=Kj (HG7.out.same (K79.same _ _))
 have HI9:=Kj (HI8.out.same (k9.same _ _))
 have HJ9:=Kj (HJ8.out.same (k9.same _ _))
 obtain ⟨x0,x1,x2,b0,b1,b2⟩:=HX9.out w9 (K_.refl _)
 clear HN7 HR7 HG7 HI8 HJ8 g0 g1 g2 g3 g4 p0 p1 p2 p3 p4
 go_upto_region 14 with fail
 refine Z_.rg 4 HX9.out fun wd KD Zz=> ?_
 refine Z_.tk 0 Zz ?_
 refine Z_.tk 1 Zz ?_
 refine Z_.nx 2 (fun K hK=> ?_)
 rw [if_pos (by rfl)]
 go_simp
 go_at_call 8
 refine (toWeb_any _ a cap l hl2 hs2 (hN.kept (KW9.trans KD))).mono ?_
 rintro e wq ⟨bq,rfl,hNq,kq,hbq⟩
 refine hK.out _ _ (fun _=> HX9.out _ (KD.trans kq)) ?_
 clear hK K
 try simp only [Act.put,upA,upB,upC]
 refine Z_.nx 3 (fun K hK=> ?_)
 rw [if_pos (by rfl)]
 go_simp
 go_at_call 12
 refine (eqWeb_yes _ (some ⟨bx,0,none⟩) (some ⟨bq,0,none⟩) l.length l.length l hl hs (HN9.out.same ((KD.trans kq).same _ _)).nodes hNq.nodes).mono ?_
 rintro e w10 ⟨rfl,k10⟩
 refine hK.out _ _ (fun _=> HX9.out _ ((KD.trans kq).trans k10)) ?_
 clear hK K
 try simp only [Act.put,upA,upB,upC]
 refine Z_.nx 4 (fun K hK=> ?_)
 go_simp
 refine hK.out _ _ (fun h=> absurd rfl h) ?_
 clear hK K
 try simp only [Act.put,upA,upB,upC]
 refine Z_.dn ?_
 have K9b:= (KD.trans kq).trans k10
 have K7b:=K79.trans K9b
 clear KD kq k10 x0 x1 x2 b0 b1 b2 hNq hbq
 have HX10:Hid (∀w',K_ w10 w'->(fun w'=> w'.cell? ⟨w6.heap.size,0,none⟩=some (.slice (some ⟨bx,0,none⟩) l.length l.length)∧w'.cell? ⟨w7.heap.size,0,none⟩=some (.slice (some ⟨bu,0,none⟩) Q_.length Q_.length)∧w'.cell? ⟨w7.heap.size,1,none⟩=some (.slice (some ⟨bv,0,none⟩) sl.length sl.length)∧(w'.cell? ⟨w.heap.size,0,none⟩=some (.slice a l.length cap)∧w'.cell? ⟨w.heap.size+1,0,none⟩=some (.slice rd Q_.length rc)∧w'.cell? ⟨w.heap.size+1,1,none⟩=some (.slice ga sl.length gc))) w'):=fun w' kk=> HX.out w' (K7b.trans kk)
 obtain ⟨x0,x1,x2,b0,b1,b2⟩:=HX10.out w10 (K_.refl _)
 go_upto_region 16 with fail
 refine Z_.rg 4 HX10.out fun wd KD Zz=> ?_
 refine Z_.tk 0 Zz ?_
 refine Z_.tk 1 Zz ?_
 refine Z_.nx 2 (fun K hK=> ?_)
 rw [if_pos (by rfl)]
 go_simp
 go_at_call 9
 refine (toStateX_any _ rd ga rc gc Q_ sl hr2 hsl2 hst2 (hR.kept ((KW9.trans K9b).trans KD)) (hG.kept ((KW9.trans K9b).trans KD))).mono ?_
 rintro e w11 ⟨d1,d2,rfl,hR11,hG11,k11,hd1,hd2⟩
 refine hK.out _ _ (fun _=> HX10.out _ (KD.trans k11)) ?_
 clear hK K
 try simp only [Act.put,upA,upB,upC]
 refine Z_.nx 3 (fun K hK=> ?_)
 rw [if_pos (by rfl)]
 go_simp
 go_at_call 13
 refine (eqStateX_yes _ (some ⟨bu,0,none⟩) (some ⟨d1,0,none⟩) (some ⟨bv,0,none⟩) (some ⟨d2,0,none⟩) Q_.length Q_.length sl.length sl.length Q_ sl hrl hsl hsf (HR9.out.same (((K9b.trans KD).trans k11).same _ _)).strs hR11 (HG9.out.same (((K9b.trans KD).trans k11).same _ _)).runs hG11.runs).mono ?_
 rintro e w12 ⟨rfl,k12⟩
 refine hK.out _ _ (fun _=> HX10.out _ ((KD.trans k11).trans k12)) ?_
 clear hK K
 try simp only [Act.put,upA,upB,upC]
 refine Z_.nx 4 (fun K hK=> ?_)
 go_simp
 refine hK.out _ _ (fun h=> absurd rfl h) ?_
 clear hK K
 try simp only [Act.put,upA,upB,upC]
 refine Z_.dn ?_
 have K9c:K_ w9 w12:= ((K9b.trans KD).trans k11).trans k12
 have K7c:=K79.trans K9c
 clear KD k11 k12 x0 x1 x2 b0 b1 b2 hR11 hG11 hd1 hd2 K9b K7b HX10
 obtain ⟨x0,x1,x2,b0,b1,b2⟩:=HX.out w12 K7c
 have HN12:=Kj (HN9.out.same (K9c.same _ _))
 have HR12:=Kj (HR9.out.same (K9c.same _ _))
 have HG12:=Kj (HG9.out.same (K9c.same _ _))
 have HI12:=Kj (HI9.out.same (K9c.same _ _))
 have HJ12:=Kj (HJ9.out.same (K9c.same _ _))
 have K8c:K_ W8 w12:=k9.trans K9c
 have z8c:=K8c.size
 have HG12b:=Kj (HGB.out w12 K8c)
 have z12:=K7c.size
 have K512:=K57.trans K7c
 have hcn:=HCn.out
 clear HN9 HR9 HG9 HI9 HJ9 HX9 K9c
 go_wp2_with fail
 refine (markWeb_any _ w5.heap.size w6.heap.size (some ⟨bx,0,none⟩) l.length l 1 (by omega) (by omega) HN12.out).mono ?_
 rintro e w13 ⟨rfl,_,kb13⟩
 have K513:K_ w5 w13:=kb13.kept K512 (Nat.le_refl _)
 have z13:=kb13.size
 have y1:w13.cell? ⟨w7.heap.size,0,none⟩=some (.slice (some ⟨bu,0,none⟩) Q_.length Q_.length):= (World.cell?_of_block (w:=w12) (kb13.block _ (by show w7.heap.size < _;omega) (.inr (by show w6.heap.size<=w7.heap.size;omega)))).trans x1
 have y2:w13.cell? ⟨w7.heap.size,1,none⟩=some (.slice (some ⟨bv,0,none⟩) sl.length sl.length):= (World.cell?_of_block (w:=w12) (kb13.block _ (by show w7.heap.size < _;omega) (.inr (by show w6.heap.size<=w7.heap.size;omega)))).trans x2
 have HGc13:Hid (∀o,w13.cell? ⟨w8.heap.size,o,none⟩=w12.cell? ⟨w8.heap.size,o,none⟩):=fun o=> World.cell?_of_block (w:=w12) (kb13.block _ (by show w8.heap.size < _;omega) (.inr (by show w6.heap.size<=w8.heap.size;omega)))
 have HR13:=Kj (HR12.out.same (kb13.same (l2:=W6.heap.size) (h2:=mid) (by omega)))
 have HG13:=Kj (HG12.out.same (kb13.same (l2:=mid) (h2:=w7.heap.size) (by omega)))
 have HI13:=Kj (HI12.out.same (kb13.same (l2:=W7.heap.size) (h2:=mid8) (by omega)))
 have HJ13:=Kj (HJ12.out.same (kb13.same (l2:=mid8) (h2:=w8.heap.size) (by omega)))
 obtain ⟨kn,hkn⟩: ∃kn,kn=1+ (l.map cntNode).sum:= ⟨_,rfl⟩
 rw [<-hkn]
 have hkn0:0 < kn:=by omega
 have hkn1:kn+Q_.length+ (sl.map cntRun).sum<=33554432:=by omega
 clear hkn x0 x1 x2 b0 b1 b2 kb13 HN12 HR12 HG12 HI12 HJ12
 go_wp2_with fail
 refine (markStateX_any _ W6.heap.size mid w7.heap.size (some ⟨bu,0,none⟩) (some ⟨bv,0,none⟩) Q_.length sl.length Q_ sl kn hkn0 (by omega) hm1 hm2 (by omega) HR13.out HG13.out).mono ?_
 rintro e w14 ⟨rfl,_,_,kb14⟩
 have K514:K_ w5 w14:=kb14.kept K513 (by have:=K56.size;omega)
 have z14:=kb14.size
 have HGc14:Hid (∀o,w14.cell? ⟨w8.heap.size,o,none⟩=w12.cell? ⟨w8.heap.size,o,none⟩):=fun o=> (World.cell?_of_block (w:=w13) (kb14.block _ (by show w8.heap.size < _;omega) (.inr (by show w7.heap.size<=w8.heap.size;omega)))).trans (HGc13.out o)
 have HI14:=Kj (HI13.out.same (kb14.same (l2:=W7.heap.size) (h2:=mid8) (by omega)))
 have HJ14:=Kj (HJ13.out.same (kb14.same (l2:=mid8) (h2:=w8.heap.size) (by omega)))
 obtain ⟨km,hkm⟩: ∃km,km=kn+Q_.length+ (sl.map cntRun).sum:= ⟨_,rfl⟩
 rw [<-hkm]
 have hkm0: ¬((km:Int) < 0):=by omega
 have g0:= (HGc14.out 0).trans HG12b.out.1
 have g1:= (HGc14.out 1).trans HG12b.out.2.1
 have g2:= (HGc14.out 2).trans HG12b.out.2.2.1
 have g3:= (HGc14.out 3).trans HG12b.out.2.2.2.1
 have g4:= (HGc14.out 4).trans HG12b.out.2.2.2.2
 obtain ⟨p0,p1,p2,p3,p4⟩:=HP8.out w14 K514
 clear hkm y1 y2 kb14 HR13 HG13 HI13 HJ13 hkn0 hkn1 hcn HCn HGc13 HGc14 HG12b
 go_wp2_with fail
 refine (eqOutcome_yes _ gr r8 gd d8 grc rc8 gdc dc8 o2 hml hmv HI14.out.ress (HT.out.kept K514) HJ14.out.strs (HU.out.kept K514)).mono ?_
 rintro e w15 ⟨rfl,k15⟩
 have K515:=K514.trans k15
 have HI15:=Kj (HI14.out.same (k15.same _ _))
 have HJ15:=Kj (HJ14.out.same (k15.same _ _))
 have z15:=k15.size
 have gl:w8.heap.size < w14.heap.size:=by omega
 have h0:= (k15.cell gl).trans g0
 have h1:= (k15.cell gl).trans g1
 have h2:= (k15.cell gl).trans g2
 have h3:= (k15.cell gl).trans g3
 have h4:= (k15.cell gl).trans g4
 clear HI14 HJ14 k15 g0 g1 g2 g3 g4 p0 p1 p2 p3 p4
 go_wp2_with fail
 refine (markOutcome_any _ W7.heap.size mid8 w8.heap.size gr gd grc gdc o2 1 (by omega) (by omega) n1 n2 (by omega) HI15.out HJ15.out).mono ?_
 rintro e w16 ⟨rfl,hI16,hJ16,kb16⟩
 have K516:K_ w5 w16:=kb16.kept K515 (by have:=K57.size;omega)
 have z16:=kb16.size
 have gk: ∀o,w16.cell? ⟨w8.heap.size,o,none⟩=w15.cell? ⟨w8.heap.size,o,none⟩:=fun o=> World.cell?_of_block (w:=w15) (kb16.block _ (by show w8.heap.size < _;omega) (.inr (Nat.le_refl _)))
 have i0:= (gk 0).trans h0
 have i1:= (gk 1).trans h1
 have i2:= (gk 2).trans h2
 have i3:= (gk 3).trans h3
 have i4:= (gk 4).trans h4
 have gl16:w8.heap.size < w16.heap.size:=by omega
 obtain ⟨M,hM⟩: ∃M,M=1+o2.res.length * 4+o2.chain.length:= ⟨_,rfl⟩
 rw [<-hM]
 have hMM: ((M:Int) != (M:Int))=false:=by simp
 have hM0: ¬((M:Int) < 0):=by omega
 have HI16:=Kj hI16
 have HJ16:=Kj hJ16
 have HM:=Kj hM
 clear hM hI16 hJ16 kb16 HI15 HJ15 h0 h1 h2 h3 h4 gk
 go_wp2_with fail
 refine (heldOutcome_yes _ gr gd grc gdc o2 1 (by omega) (by omega) HI16.out.ress HJ16.out.strs).mono ?_
 rintro e w17 ⟨rfl,k17⟩
 rw [<-HM.out]
 have K517:=K516.trans k17
 have HI17:=Kj (HI16.out.same (k17.same _ _))
 have HJ17:=Kj (HJ16.out.same (k17.same _ _))
 have KW17:=k0.trans (K5.trans K517)
 have HGB17:Hid (∀w',K_ w17 w'->w'.cell? ⟨w8.heap.size,0,none⟩=some (.int .i64 o2.code)∧w'.cell? ⟨w8.heap.size,1,none⟩=some (.slice gr o2.res.length grc)∧w'.cell? ⟨w8.heap.size,2,none⟩=some (.slice gd o2.chain.length gdc)∧w'.cell? ⟨w8.heap.size,3,none⟩=some (.int .i64 o2.units)∧w'.cell? ⟨w8.heap.size,4,none⟩=some (.int .i64 o2.cost)):=fun w' kk=> ⟨((k17.trans kk).cell gl16).trans i0,((k17.trans kk).cell gl16).trans i1,((k17.trans kk).cell gl16).trans i2,((k17.trans kk).cell gl16).trans i3,((k17.trans kk).cell gl16).trans i4⟩
 have HSO17:Hid (∀w',K_ w17 w'->(fun w'=> w'.cell? ⟨w.heap.size,0,none⟩=some (.slice a l.length cap)∧w'.cell? ⟨w.heap.size+1,0,none⟩=some (.slice rd Q_.length rc)∧w'.cell? ⟨w.heap.size+1,1,none⟩=some (.slice ga sl.length gc)) w'):=fun w' kk=> HBox.out w' ((K5.trans K517).trans kk)
 obtain ⟨b0,b1,b2⟩:=HSO17.out w17 (K_.refl _)
 clear k17 HI16 HJ16 i0 i1 i2 i3 i4 gl16
 go_upto_region 31 with fail
 refine region_cut (ToldJ w17 l Q_ sl 75 76 77 78 79 13) ?_ ?_
 ·refine Z_.rg 6 HSO17.out fun wd KD Zz=> ?_
  refine Z_.tk 0 Zz ?_
  refine Z_.tk 2 Zz ?_
  refine Z_.tw 1 5 (fun K hK=> ?_) (fun K hK=> ?_)
  ·rw [if_pos (by rfl)]
   go_simp
   go_at_call 8
   refine (toWeb_any _ a cap l hl2 hs2 (hN.kept (KW17.trans KD))).mono ?_
   rintro e w3 ⟨bw,rfl,hN3,k3,hb1⟩
   have KC3:=KD.trans k3
   refine hK.out _ _ (fun _=> HSO17.out _ KC3) ?_
   clear hK K
   try simp only [Act.put,upA,upB,upC]
   refine Z_.tw 3 5 (fun K hK=> ?_) (fun K hK=> ?_)
   ·rw [if_pos (by rfl)]
    go_simp
    go_at_call 9
    refine (toStateX_any _ rd ga rc gc Q_ sl hr2 hsl2 hst2 (hR.kept (KW17.trans KC3)) (hG.kept (KW17.trans KC3))).mono ?_
    rintro e w4 ⟨c1,c2,rfl,hR4,hG4,k4,hc1,hc2⟩
    have KC4:=KC3.trans k4
    refine hK.out _ _ (fun _=> HSO17.out _ KC4) ?_
    clear hK K
    try simp only [Act.put,upA,upB,upC]
    refine Z_.tw 4 5 (fun K hK=> ?_) (fun K hK=> ?_)
    ·rw [if_pos (by rfl)]
     go_simp
     go_at_call 10
     refine (implTold_any _ (some ⟨bw,0,none⟩) l.length l (some ⟨c1,0,none⟩) Q_.length Q_ (some ⟨c2,0,none⟩) sl.length sl hl2 hs hrl (Nat.le_refl _) hrs hsl2 hst2 (hN3.kept k4).nodes (hR4.kept (K_.refl _)) (hG4.runs.kept (K_.refl _)) (hFi.kept (KW17.trans KC4))).mono ?_
     rintro e w5 h5
     obtain ⟨o,ra,d5,rc5,dc5,mid5,rfl,hD5,hS5i,hT5i,_,_,k5⟩:=h5;have hS5:=hS5i.ress;have hT5:=hT5i.strs
     have KC5:=KC4.trans k5
     refine hK.out _ _ (fun _=> HSO17.out _ KC5) ?_
     clear hK K
     try simp only [Act.put,upA,upB,upC]
     refine Z_.nx 5 (fun K hK=> ?_)
     go_simp
     refine hK.out _ _ (fun _=> HSO17.out _ (KC5.trans ((K_.refl _).alloc _))) ?_
     clear hK K
     try simp only [Act.put,upA,upB,upC]
     have hRw:RowT (w5.alloc (.cells #[.int .i64 0,.slice none 0 0,.slice none 0 0,.int .i64 0,.int .i64 0] 33)) w5.heap.size 33 5:=RowT.made w5 _ _
     have hNs:NoStr (w5.alloc (.cells #[.int .i64 0,.slice none 0 0,.slice none 0 0,.int .i64 0,.int .i64 0] 33)) w5.heap.size:=noStr_new
     have KA:K_ w5 (w5.alloc (.cells #[.int .i64 0,.slice none 0 0,.slice none 0 0,.int .i64 0,.int .i64 0] 33)):= (K_.refl _).alloc _
     have nz:=KC5.size
     obtain ⟨nb,hnb⟩: ∃nb,nb=w5.heap.size:= ⟨_,rfl⟩
     rw [<-hnb] at hRw hNs⊢
     generalize hwe:w5.alloc (.cells #[.int .i64 0,.slice none 0 0,.slice none 0 0,.int .i64 0,.int .i64 0] 33)=wA at hRw hNs KA⊢
     clear hwe
     have KCA:=KC5.trans KA
     have nl:=hRw.lt
     have nz2:w17.heap.size<=nb:=by omega
     have HNB:=Kj hnb
     clear hnb nz
     have hRF:=hRw
     have hNF:NoStr wA nb:=hNs
     refine Z_.nx 6 (fun K hK=> ?_)
     rw [if_pos (by rfl)]
     refine wp_store_mid 33 _ _ rfl nb 0 #[.int .i64 o.code,.slice ra o.res.length rc5,.slice d5 o.chain.length dc5,.int .i64 o.units,.int .i64 o.cost] (by rfl) (by rfl) hRF.there (by kernel_rfl) (five_one ..) ?_
     refine hK.out _ _ (fun h=> absurd rfl h) ?_
     clear hK K
     try simp only [Act.put]
     refine Z_.dn ⟨rfl, ?_⟩
     refine ⟨.agg #[.slice a l.length cap],.agg #[.slice (some ⟨bw,0,none⟩) l.length l.length],.agg #[.slice rd Q_.length rc,.slice ga sl.length gc],.agg #[.slice (some ⟨c1,0,none⟩) Q_.length Q_.length,.slice (some ⟨c2,0,none⟩) sl.length sl.length],.agg #[.int .i64 o.code,.slice ra o.res.length rc5,.slice d5 o.chain.length dc5,.int .i64 o.units,.int .i64 o.cost],nb,o,ra,rc5,d5,dc5, ?_,by omega, ?_,five_sets hRF,hD5,ress_sets_no (hS5.kept KA) hNF,strs_sets_no (hT5.kept KA) hNF,kept_sets (by omega) _ 0 KCA⟩
     ·simp only [Act.put,List.setIfInBounds_toArray,List.set_cons_zero,List.set_cons_succ]
     ·rw [size_setCells];exact hRF.lt
    ·go_simp
     refine hK.out _ _ (fun _=> HSO17.out _ (KC4.trans ((K_.refl _).alloc _))) ?_
     clear hK K
     try simp only [Act.put,upA,upB,upC]
     have hRw:RowT (w4.alloc (.cells #[.int .i64 0,.slice none 0 0,.slice none 0 0,.int .i64 0,.int .i64 0] 33)) w4.heap.size 33 5:=RowT.made w4 _ _
     have hNs:NoStr (w4.alloc (.cells #[.int .i64 0,.slice none 0 0,.slice none 0 0,.int .i64 0,.int .i64 0] 33)) w4.heap.size:=noStr_new
     have KA:K_ w4 (w4.alloc (.cells #[.int .i64 0,.slice none 0 0,.slice none 0 0,.int .i64 0,.int .i64 0] 33)):= (K_.refl _).alloc _
     have nz:=KC4.size
     obtain ⟨nb,hnb⟩: ∃nb,nb=w4.heap.size:= ⟨_,rfl⟩
     rw [<-hnb] at hRw hNs⊢
     generalize hwe:w4.alloc (.cells #[.int .i64 0,.slice none 0 0,.slice none 0 0,.int .i64 0,.int .i64 0] 33)=wA at hRw hNs KA⊢
     clear hwe
     have KCA:=KC4.trans KA
     have nl:=hRw.lt
     have nz2:w17.heap.size<=nb:=by omega
     have HNB:=Kj hnb
     clear hnb nz
     refine Z_.nx 4 (fun K hK=> ?_)
     rw [if_pos (by rfl)]
     go_simp
     go_at_call 10
     refine (implTold_any _ (some ⟨bw,0,none⟩) l.length l (some ⟨c1,0,none⟩) Q_.length Q_ (some ⟨c2,0,none⟩) sl.length sl hl2 hs hrl (Nat.le_refl _) hrs hsl2 hst2 (hN3.kept (k4.trans KA)).nodes (hR4.kept KA) (hG4.runs.kept KA) (hFi.kept (KW17.trans KCA))).mono ?_
     rintro e w5 h5
     obtain ⟨o,ra,d5,rc5,dc5,mid5,rfl,hD5,hS5i,hT5i,_,_,k5⟩:=h5;have hS5:=hS5i.ress;have hT5:=hT5i.strs
     have KC5:=KCA.trans k5
     refine hK.out _ _ (fun _=> HSO17.out _ KC5) ?_
     clear hK K
     try simp only [Act.put,upA,upB,upC]
     have hRF:=hRw.kept k5
     have hNF:NoStr w5 nb:=hNs.kept nl k5
     refine Z_.nx 6 (fun K hK=> ?_)
     rw [if_pos (by rfl)]
     refine wp_store_mid 33 _ _ rfl nb 0 #[.int .i64 o.code,.slice ra o.res.length rc5,.slice d5 o.chain.length dc5,.int .i64 o.units,.int .i64 o.cost] (by rfl) (by rfl) hRF.there (by kernel_rfl) (five_one ..) ?_
     refine hK.out _ _ (fun h=> absurd rfl h) ?_
     clear hK K
     try simp only [Act.put]
     refine Z_.dn ⟨rfl, ?_⟩
     refine ⟨.agg #[.slice a l.length cap],.agg #[.slice (some ⟨bw,0,none⟩) l.length l.length],.agg #[.slice rd Q_.length rc,.slice ga sl.length gc],.agg #[.slice (some ⟨c1,0,none⟩) Q_.length Q_.length,.slice (some ⟨c2,0,none⟩) sl.length sl.length],.agg #[.int .i64 o.code,.slice ra o.res.length rc5,.slice d5 o.chain.length dc5,.int .i64 o.units,.int .i64 o.cost],nb,o,ra,rc5,d5,dc5, ?_,by omega, ?_,five_sets hRF,hD5,ress_sets_no (hS5) hNF,strs_sets_no (hT5) hNF,kept_sets (by omega) _ 0 KC5⟩
     ·simp only [Act.put,List.setIfInBounds_toArray,List.set_cons_zero,List.set_cons_succ]
     ·rw [size_setCells];exact hRF.lt
   ·go_simp
    refine hK.out _ _ (fun _=> HSO17.out _ (KC3.trans ((K_.refl _).alloc _))) ?_
    clear hK K
    try simp only [Act.put,upA,upB,upC]
    have hRw:RowT (w3.alloc (.cells #[.int .i64 0,.slice none 0 0,.slice none 0 0,.int .i64 0,.int .i64 0] 33)) w3.heap.size 33 5:=RowT.made w3 _ _
    have hNs:NoStr (w3.alloc (.cells #[.int .i64 0,.slice none 0 0,.slice none 0 0,.int .i64 0,.int .i64 0] 33)) w3.heap.size:=noStr_new
    have KA:K_ w3 (w3.alloc (.cells #[.int .i64 0,.slice none 0 0,.slice none 0 0,.int .i64 0,.int .i64 0] 33)):= (K_.refl _).alloc _
    have nz:=KC3.size
    obtain ⟨nb,hnb⟩: ∃nb,nb=w3.heap.size:= ⟨_,rfl⟩
    rw [<-hnb] at hRw hNs⊢
    generalize hwe:w3.alloc (.cells #[.int .i64 0,.slice none 0 0,.slice none 0 0,.int .i64 0,.int .i64 0] 33)=wA at hRw hNs KA⊢
    clear hwe
    have KCA:=KC3.trans KA
    have nl:=hRw.lt
    have nz2:w17.heap.size<=nb:=by omega
    have HNB:=Kj hnb
    clear hnb nz
    refine Z_.nx 3 (fun K hK=> ?_)
    rw [if_pos (by rfl)]
    go_simp
    go_at_call 9
    refine (toStateX_any _ rd ga rc gc Q_ sl hr2 hsl2 hst2 (hR.kept (KW17.trans KCA)) (hG.kept (KW17.trans KCA))).mono ?_
    rintro e w4 ⟨c1,c2,rfl,hR4,hG4,k4,hc1,hc2⟩
    have KC4:=KCA.trans k4
    refine hK.out _ _ (fun _=> HSO17.out _ KC4) ?_
    clear hK K
    try simp only [Act.put,upA,upB,upC]
    refine Z_.nx 4 (fun K hK=> ?_)
    rw [if_pos (by rfl)]
    go_simp
    go_at_call 10
    refine (implTold_any _ (some ⟨bw,0,none⟩) l.length l (some ⟨c1,0,none⟩) Q_.length Q_ (some ⟨c2,0,none⟩) sl.length sl hl2 hs hrl (Nat.le_refl _) hrs hsl2 hst2 (hN3.kept (KA.trans k4)).nodes (hR4.kept (K_.refl _)) (hG4.runs.kept (K_.refl _)) (hFi.kept (KW17.trans KC4))).mono ?_
    rintro e w5 h5
    obtain ⟨o,ra,d5,rc5,dc5,mid5,rfl,hD5,hS5i,hT5i,_,_,k5⟩:=h5;have hS5:=hS5i.ress;have hT5:=hT5i.strs
    have KC5:=KC4.trans k5
    refine hK.out _ _ (fun _=> HSO17.out _ KC5) ?_
    clear hK K
    try simp only [Act.put,upA,upB,upC]
    have hRF:=hRw.kept (k4.trans k5)
    have hNF:NoStr w5 nb:=hNs.kept nl (k4.trans k5)
    refine Z_.nx 6 (fun K hK=> ?_)
    rw [if_pos (by rfl)]
    refine wp_store_mid 33 _ _ rfl nb 0 #[.int .i64 o.code,.slice ra o.res.length rc5,.slice d5 o.chain.length dc5,.int .i64 o.units,.int .i64 o.cost] (by rfl) (by rfl) hRF.there (by kernel_rfl) (five_one ..) ?_
    refine hK.out _ _ (fun h=> absurd rfl h) ?_
    clear hK K
    try simp only [Act.put]
    refine Z_.dn ⟨rfl, ?_⟩
    refine ⟨.agg #[.slice a l.length cap],.agg #[.slice (some ⟨bw,0,none⟩) l.length l.length],.agg #[.slice rd Q_.length rc,.slice ga sl.length gc],.agg #[.slice (some ⟨c1,0,none⟩) Q_.length Q_.length,.slice (some ⟨c2,0,none⟩) sl.length sl.length],.agg #[.int .i64 o.code,.slice ra o.res.length rc5,.slice d5 o.chain.length dc5,.int .i64 o.units,.int .i64 o.cost],nb,o,ra,rc5,d5,dc5, ?_,by omega, ?_,five_sets hRF,hD5,ress_sets_no (hS5) hNF,strs_sets_no (hT5) hNF,kept_sets (by omega) _ 0 KC5⟩
    ·simp only [Act.put,List.setIfInBounds_toArray,List.set_cons_zero,List.set_cons_succ]
    ·rw [size_setCells];exact hRF.lt
  ·go_simp
   refine hK.out _ _ (fun _=> HSO17.out _ (KD.trans ((K_.refl _).alloc _))) ?_
   clear hK K
   try simp only [Act.put,upA,upB,upC]
   have hRw:RowT (wd.alloc (.cells #[.int .i64 0,.slice none 0 0,.slice none 0 0,.int .i64 0,.int .i64 0] 33)) wd.heap.size 33 5:=RowT.made wd _ _
   have hNs:NoStr (wd.alloc (.cells #[.int .i64 0,.slice none 0 0,.slice none 0 0,.int .i64 0,.int .i64 0] 33)) wd.heap.size:=noStr_new
   have KA:K_ wd (wd.alloc (.cells #[.int .i64 0,.slice none 0 0,.slice none 0 0,.int .i64 0,.int .i64 0] 33)):= (K_.refl _).alloc _
   have nz:=KD.size
   obtain ⟨nb,hnb⟩: ∃nb,nb=wd.heap.size:= ⟨_,rfl⟩
   rw [<-hnb] at hRw hNs⊢
   generalize hwe:wd.alloc (.cells #[.int .i64 0,.slice none 0 0,.slice none 0 0,.int .i64 0,.int .i64 0] 33)=wA at hRw hNs KA⊢
   clear hwe
   have KCA:=KD.trans KA
   have nl:=hRw.lt
   have nz2:w17.heap.size<=nb:=by omega
   have HNB:=Kj hnb
   clear hnb nz
   refine Z_.nx 1 (fun K hK=> ?_)
   rw [if_pos (by rfl)]
   go_simp
   go_at_call 8
   refine (toWeb_any _ a cap l hl2 hs2 (hN.kept (KW17.trans KCA))).mono ?_
   rintro e w3 ⟨bw,rfl,hN3,k3,hb1⟩
   have KC3:=KCA.trans k3
   refine hK.out _ _ (fun _=> HSO17.out _ KC3) ?_
   clear hK K
   try simp only [Act.put,upA,upB,upC]
   refine Z_.nx 3 (fun K hK=> ?_)
   rw [if_pos (by rfl)]
   go_simp
   go_at_call 9
   refine (toStateX_any _ rd ga rc gc Q_ sl hr2 hsl2 hst2 (hR.kept (KW17.trans KC3)) (hG.kept (KW17.trans KC3))).mono ?_
   rintro e w4 ⟨c1,c2,rfl,hR4,hG4,k4,hc1,hc2⟩
   have KC4:=KC3.trans k4
   refine hK.out _ _ (fun _=> HSO17.out _ KC4) ?_
   clear hK K
   try simp only [Act.put,upA,upB,upC]
   refine Z_.nx 4 (fun K hK=> ?_)
   rw [if_pos (by rfl)]
   go_simp
   go_at_call 10
   refine (implTold_any _ (some ⟨bw,0,none⟩) l.length l (some ⟨c1,0,none⟩) Q_.length Q_ (some ⟨c2,0,none⟩) sl.length sl hl2 hs hrl (Nat.le_refl _) hrs hsl2 hst2 (hN3.kept k4).nodes (hR4.kept (K_.refl _)) (hG4.runs.kept (K_.refl _)) (hFi.kept (KW17.trans KC4))).mono ?_
   rintro e w5 h5
   obtain ⟨o,ra,d5,rc5,dc5,mid5,rfl,hD5,hS5i,hT5i,_,_,k5⟩:=h5;have hS5:=hS5i.ress;have hT5:=hT5i.strs
   have KC5:=KC4.trans k5
   refine hK.out _ _ (fun _=> HSO17.out _ KC5) ?_
   clear hK K
   try simp only [Act.put,upA,upB,upC]
   have hRF:=hRw.kept ((k3.trans k4).trans k5)
   have hNF:NoStr w5 nb:=hNs.kept nl ((k3.trans k4).trans k5)
   refine Z_.nx 6 (fun K hK=> ?_)
   rw [if_pos (by rfl)]
   refine wp_store_mid 33 _ _ rfl nb 0 #[.int .i64 o.code,.slice ra o.res.length rc5,.slice d5 o.chain.length dc5,.int .i64 o.units,.int .i64 o.cost] (by rfl) (by rfl) hRF.there (by kernel_rfl) (five_one ..) ?_
   refine hK.out _ _ (fun h=> absurd rfl h) ?_
   clear hK K
   try simp only [Act.put]
   refine Z_.dn ⟨rfl, ?_⟩
   refine ⟨.agg #[.slice a l.length cap],.agg #[.slice (some ⟨bw,0,none⟩) l.length l.length],.agg #[.slice rd Q_.length rc,.slice ga sl.length gc],.agg #[.slice (some ⟨c1,0,none⟩) Q_.length Q_.length,.slice (some ⟨c2,0,none⟩) sl.length sl.length],.agg #[.int .i64 o.code,.slice ra o.res.length rc5,.slice d5 o.chain.length dc5,.int .i64 o.units,.int .i64 o.cost],nb,o,ra,rc5,d5,dc5, ?_,by omega, ?_,five_sets hRF,hD5,ress_sets_no (hS5) hNF,strs_sets_no (hT5) hNF,kept_sets (by omega) _ 0 KC5⟩
   ·simp only [Act.put,List.setIfInBounds_toArray,List.set_cons_zero,List.set_cons_succ]
   ·rw [size_setCells];exact hRF.lt
 rintro _ w20 ⟨u0,u1,u2,u3,u4,p9,o3,r9,rc9,d9,dc9,rfl,ho1,ho2,c9,hD9,hS9,hT9,K17c⟩
 try simp only [Act.put,upA,upB,upC]
 obtain rfl:o2=o3:=ToldAns.one hD9 HD5.out
 have K520:=K517.trans K17c
 have HI20:=Kj (HI17.out.same (K17c.same _ _))
 have HJ20:=Kj (HJ17.out.same (K17c.same _ _))
 have HS9:=Kj hS9
 have HT9:=Kj hT9
 obtain ⟨p0,p1,p2,p3,p4⟩:=HP8.out w20 K520
 obtain ⟨c90,c91,c92,c93,c94⟩:=c9
 clear b0 b1 b2 hS9 hT9 hD9 HI17 HJ17
 go_wp2_with fail
 refine (eqOutcome_yes _ r9 r8 d9 d8 rc9 rc8 dc9 dc8 o2 hml hmv HS9.out (HT.out.kept K520) HT9.out (HU.out.kept K520)).mono ?_
 rintro e w21 ⟨rfl,k21⟩
 have HI21:=Kj (HI20.out.same (k21.same _ _))
 have HJ21:=Kj (HJ20.out.same (k21.same _ _))
 have K521:=K520.trans k21
 obtain ⟨g0,g1,g2,g3,g4⟩:=HGB17.out w21 (K17c.trans k21)
 clear k21 HI20 HJ20 HS9 HT9 c90 c91 c92 c93 c94 p0 p1 p2 p3 p4
 go_wp2_with fail
 refine (heldOutcome_yes _ gr gd grc gdc o2 1 (by omega) (by omega) HI21.out.ress HJ21.out.strs).mono ?_
 rintro e w22 ⟨rfl,k22⟩
 rw [<-HM.out]
 have KF:=k0.trans (K5.trans (K521.trans k22))
 clear k22 g0 g1 g2 g3 g4
 go_wp2
 go_ret
 exact ⟨rfl,KF⟩
