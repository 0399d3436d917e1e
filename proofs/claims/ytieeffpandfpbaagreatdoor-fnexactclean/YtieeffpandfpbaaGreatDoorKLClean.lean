import Derived.Test.YtieeffpandfpbaaGreatDoorKKWaits
import Derived.Test.YtieeffpandfpbaaGreatDoorKCTold
import Derived.Test.YtieeffpandfpbaaGreatDoorKCCirc
import Derived.Deep.Cut
import Derived.Test.YtieeffpandfpbaaGreatDoorKBWaitsI
import Derived.Test.YtieeffpandfpbaaGreatDoorKXClean
import Derived.Deep.MidRow
set_option maxRecDepth 100000
set_option maxHeartbeats 25600000
namespace Go.Proofs.YtieeffpandfpbaaGreatDoor
open Go.RowKit
def ChainEnd (E:ByteArray->ByteArray->Prop) (w w':World) (e:Ending):Prop:=
 ∃(da:Option Addr) (ns:List ByteArray),e= .returned (.slice da ns.length ns.length)∧StrsIn w' w.heap.size w'.heap.size da ns∧ns.length<=60∧CircX E ns∧K_ w w'
theorem chainOf_any (w:World) (mo:Nat) (kp:ByteArray->Prop) (ol:ByteArray->List ByteArray) (all:List ByteArray) (hall: ∀s,kp s->s∈all) (hal:all.length<=60) (hks: ∀s,kp s->s.size<=20) (hol: ∀s,(ol s).length<=1000000) (hL:ListsM w mo kp ol):
  Calls Tryz.prog 75 #[.map (some mo)] w fun e w'=> ChainEnd (fun x y=> y∈ol x) w w' e:=by
 go_enter Tryz.func75,Tryz.ntmps75
 go_wp2_with fail
 refine (needsOf_any w mo kp ol all hall hal hks hol hL).mono ?_
 rintro e w1 ⟨na,nc,nm,nb,mb,M,need,back,rfl,hasc,hmem,hV,hR,hM,k1⟩
 have hn60:nm.length<=60:=by
  refine Nat.le_trans (List.Nodup.length_le_of_subset ?_ (fun x hx=> hall x ((hmem x).1 hx))) hal
  exact hasc.imp fun {a b} hab=> lessX_ne hab
 have HPl:Hid (Places (fun x y=> y∈ol x) nm):= ⟨hasc,fun x y hxy=> (hmem x).2 (hL.sub x (fun e=> by rw [e] at hxy;cases hxy))⟩
 have HSm:Hid (∀s∈nm,s.size<=1048576):=fun s hs=> by have:=hks s ((hmem s).1 hs);omega
 have HR:=Kz hR
 obtain ⟨W2,hW2⟩: ∃W2,W2=w1.alloc (.cells #[.slice na nm.length nc,.slice (some ⟨nb,0,none⟩) nm.length nm.length,.slice (some ⟨mb,0,none⟩) nm.length nm.length] 184):= ⟨_,rfl⟩
 have k2:K_ w1 W2:=by rw [hW2];exact (K_.refl _).alloc _
 obtain ⟨xb,hxb⟩: ∃xb,xb=w1.heap.size:= ⟨_,rfl⟩
 have Zz:Hid (∀u,K_ W2 u->u.cell? ⟨xb,0,none⟩=some (.slice na nm.length nc)∧u.cell? ⟨xb,1,none⟩=some (.slice (some ⟨nb,0,none⟩) nm.length nm.length)∧u.cell? ⟨xb,2,none⟩=some (.slice (some ⟨mb,0,none⟩) nm.length nm.length)):=fun u k=> by
  have z1:w1.heap.size < W2.heap.size:=by rw [hW2];simp
  have h:=Xz w1 #[.slice na nm.length nc,.slice (some ⟨nb,0,none⟩) nm.length nm.length,.slice (some ⟨mb,0,none⟩) nm.length nm.length] 184
  rw [<-hW2] at h
  rw [hxb]
  exact ⟨(k.cell z1).trans (h 0 _ rfl),(k.cell z1).trans (h 1 _ rfl),(k.cell z1).trans (h 2 _ rfl)⟩
 have HV2:=Kz (hV.kept k2)
 have HK2:=Kz (k1.trans k2)
 have HW2:=Kz hW2
 have HXb:=Kz hxb
 clear hasc hmem hV hR k1 k2 hW2 hxb
 go_upto_region 2 with fail
 rw [<-HW2.out,<-HXb.out]
 refine Qx.rg 4 Zz.out fun wd KD Z_=> ?_
 refine Qx.tk 0 Z_ ?_
 refine Qx.tk 1 Z_ ?_
 refine Qx.nx 2 (fun K hK=> ?_)
 rw [if_pos (by rfl)]
 go_simp
 go_at_call 126
 refine (circle_any wd na nc nm nb mb need back _ M hn60 hM (HV2.out.kept KD) HR.out).mono ?_
 rintro e w3 ⟨pa,pc,best,rfl,hNb,hb60,hbm,hbe,k3⟩
 have K3:=KD.trans k3
 have HNb:=Kz hNb
 have HBe:=Kz hbe
 have HBm:=Kz hbm
 clear hNb hbe hbm
 dsimp only
 refine hK.out _ _ (fun _=> Zz.out _ K3) ?_
 clear hK K Z_
 try simp only [Act.put,upA,upB,upC]
 refine Qx.nx 3 (fun K hK=> ?_)
 rw [if_pos (by rfl)]
 go_simp
 go_at_call 125
 refine (told_any w3 na nc nm _ _ rfl rfl pa pc best HBm.out (by omega) (by omega) HSm.out (HV2.out.kept K3).names HNb.out).mono ?_
 rintro e w4 ⟨da,rfl,hT,k4⟩
 have K4:=K3.trans k4
 have HT:=Kz hT
 have HK3:=Kz (HK2.out.trans K3)
 clear hT
 dsimp only
 refine hK.out _ _ (fun _=> Zz.out _ K4) ?_
 clear hK K
 try simp only [Act.put,upA,upB,upC]
 refine Qx.nx 4 (fun K hK=> ?_)
 go_simp
 refine hK.out _ _ (fun h=> absurd rfl h) ?_
 clear hK K
 try simp only [Act.put,upA,upB,upC]
 refine Qx.dn ?_
 clear Zz HR
 go_wp2_with fail
 go_ret
 refine ⟨da,best.map (nameOf nm),by rw [List.length_map];rfl,HT.out.mono HK3.out.size (Nat.le_refl _),by rw [List.length_map];exact hb60,HBe.out.circ HPl.out,HK3.out.trans k4⟩
def ToldIn (P:OutD->Prop) (w w':World) (e:Ending):Prop:=
 ∃(o:OutD) (a f:Option Addr) (c e0 mid:Nat),e= .returned (.agg #[.int .i64 o.code,.slice a o.res.length c,.slice f o.chain.length e0,.int .i64 o.units,.int .i64 o.cost])∧P o∧RessIn w' w.heap.size mid a o.res∧StrsIn w' mid w'.heap.size f o.chain∧w.heap.size<=mid∧mid<=w'.heap.size∧K_ w w'
theorem ress_in_sets {w:World} {lo hi g:Nat} {vs:List Value} {a:Option Addr} {l:List ResD} (h:RessIn w lo hi a l) (hg:g < lo∨hi<=g):RessIn (w.setCells g 0 vs) lo hi a l:=h.same (Same.setCells hg vs 0 w)
theorem strs_in_sets {w:World} {lo hi g:Nat} {vs:List Value} {a:Option Addr} {l:List ByteArray} (h:StrsIn w lo hi a l) (hg:g < lo∨hi<=g):StrsIn (w.setCells g 0 vs) lo hi a l:=h.same (Same.setCells hg vs 0 w)
section
variable {G : Ghost} {Kj : List Qq} {wz w w' : World} {bb : Nat} {a : Option Addr} {cap : Nat} {rd : Option Addr} {rc : Nat} {mb mx : Nat} {ts : List Zx} {d : Option Addr} {dc : Nat} {f : ByteArray -> Value} {ws : ByteArray -> List Nat}
end
theorem out_one (c:Int) (ra:Option Addr) (rl rc:Nat) (da:Option Addr) (dl dc:Nat) (u v:Int): (#[Value.int .i64 c,Value.slice ra rl rc,Value.slice da dl dc,Value.int .i64 u,Value.int .i64 v].all (·.oneCell'))=true:=by simp [Value.oneCell']
theorem waitL_iff {Kj:List Qq} {sl:List Qz} (hg:GoodL Kj sl) (ha:AskedOk (Q_ Kj) (Qj sl)) {x y:ByteArray}:y∈waitL (Q_ Kj) (Qj sl) x↔WaitsX (Q_ Kj) (Qj sl) x y:=by
 constructor
 ·intro h
  unfold waitL at h
  cases he:Qj sl x with
  | none=> rw [he] at h;cases h
  | some r=>
   rw [he] at h
   obtain ⟨h1,h2⟩:=List.mem_filter.1 h
   have hrn:= (env_mem he).2
   have hv: ¬(r.Zj=0∨r.over=true):=fun e=> by unfold asksC at h1;rw [if_pos e] at h1;cases h1
   obtain ⟨A,hA,_,_⟩:= (hg.good r (env_mem he).1).act
   have ho:r.over=false:=by cases h3:r.over;rfl;exact absurd (.inr h3) hv
   have hv0:r.Zj≠0:=fun e=> hv (.inl e)
   rw [asksC_eq hA ho hv0] at h1
   rw [hrn] at hA
   refine ⟨r,A,he,ho,hv0,hA,h1, ?_⟩
   have h4:ansOf (Q_ Kj) (Qj sl) y=none:=by simpa using h2
   unfold ansOf at h4
   cases hW:Q_ Kj y with
   | none=> rw [hW] at h4;cases h4
   | some B=>
    rw [hW] at h4
    obtain ⟨q,hq⟩:=Option.isSome_iff_exists.1 (ha x r A he ho hv0 hA y h1 (by rw [hW];rfl))
    rw [hq] at h4
    refine ⟨q,hq, ?_⟩
    cases h5:q.over
    ·rfl
    ·simp only at h4;rw [h5] at h4;simp at h4
 ·rintro ⟨r,A,he,ho,hv0,hA,h1,q,hq,hqo⟩
  unfold waitL
  rw [he]
  have hrn:= (env_mem he).2
  refine List.mem_filter.2 ⟨?_, ?_⟩
  ·rw [asksC_eq (by rw [hrn];exact hA) ho hv0];exact h1
  ·obtain ⟨B,hB,_,_⟩:= (hg.good q (env_mem hq).1).act
   rw [(env_mem hq).2] at hB
   unfold ansOf
   rw [hB,hq]
   simp [hqo]
def OutOk (Kj:List Qq) (Kk:List ByteArray) (sl:List Qz) (o:OutD):Prop:= (o.res.length<=10∧o.chain.length<=60)∧o.res=Kk.map (resX (Q_ Kj) (Qj sl))∧o.units=unitsX sl∧o.cost=costX (Q_ Kj) sl∧(((¬∃r∈o.res,r.over=false)∧o.code=0∧o.chain=[])∨((∃r∈o.res,r.over=false)∧o.code=1∧CircX (WaitsX (Q_ Kj) (Qj sl)) o.chain))
section
variable {Kj : List Qq} {wz w : World} {cb : Nat} {a : Option Addr} {cap mr mt mx : Nat} {cl : ByteArray -> Option CloM} {f : ByteArray -> Value} {kf : ByteArray -> Prop} {un co : Int} {sl : List Qz}
theorem cleanOutcome_any (hC:CM Kj wz w cb a cap mr mt mx cl f kf un co) (hS:CS Kj wz cl f kf un co sl) (hok:ActsOk (Q_ Kj)) (hwl:Kj.length<=60) (hwr:Rises Kj) (hN:Nodes wz a Kj) (hmx:mx<=9000) (hask:AskedOk (Q_ Kj) (Qj sl)) (rd:Option Addr) (rc:Nat) (Kk:List ByteArray) (hr10:Kk.length<=10) (hNm: ∀n∈Kk,n.size<=20) (hin: ∀n∈Kk,(cl n).isSome=true∨Q_ Kj n=none) (hR:Strs w rd Kk):
  Calls Tryz.prog 52 #[.pointer (some ⟨cb,0,none⟩),.slice rd Kk.length rc] w fun e w'=> ToldIn (OutOk Kj Kk sl) w w' e:=by
 have HC:=Kz hC
 have HS:=Kz hS
 have HNm:=Kz hNm
 have HIn:=Kz hin
 have HAsk:=Kz hask
 have hs60:sl.length<=60:=Nat.le_trans hS.good.len hwl
 obtain ⟨W0,hW0⟩: ∃W0,W0=w.alloc (.cells #[.int .i64 0,.slice none 0 0,.slice none 0 0,.int .i64 0,.int .i64 0] 33):= ⟨_,rfl⟩
 have k0:K_ w W0:=by rw [hW0];exact (K_.refl _).alloc _
 have z0:W0.heap.size=w.heap.size+1:=by rw [hW0];simp
 have HZ0:=Kz z0
 have HRes:Hid (RowT W0 w.heap.size 33 5):=by rw [hW0];exact RowT.made w _ _
 have HC0:=Kz (hC.kept k0)
 have Zz:Hid (∀v,K_ W0 v->v.cell? ⟨cb,4,none⟩=some (.int .i64 un)∧v.cell? ⟨cb,5,none⟩=some (.int .i64 co)):=fun v K=> ⟨(HC0.out.kept K).c4,(HC0.out.kept K).c5⟩
 have HUC:Hid (un=unitsX sl∧co=costX (Q_ Kj) sl):= ⟨hS.units,hS.cost⟩
 clear hC hS hNm hin hask z0
 go_enter Tryz.func52,Tryz.ntmps52
 go_upto_region 1 with fail
 rw [<-hW0]
 clear hW0
 refine Qx.rg 14 Zz.out fun wd KD Z_=> ?_
 refine Qx.tk 0 Z_ ?_
 refine Qx.tk 1 Z_ ?_
 refine Qx.tk 2 Z_ ?_
 refine Qx.tk 4 Z_ ?_
 refine Qx.tk 5 Z_ ?_
 refine Qx.tk 6 Z_ ?_
 refine Qx.tk 7 Z_ ?_
 refine Qx.tk 8 Z_ ?_
 refine Qx.tk 9 Z_ ?_
 refine Qx.tk 10 Z_ ?_
 refine Qx.tk 11 Z_ ?_
 refine Qx.tw 3 13 (fun K hK=> ?_) (fun K hK=> ?_)
 ·rw [if_pos (by rfl)]
  go_simp
  go_at_call 70
  refine (cleanResults_any (HC.out.kept (k0.trans KD)) HS.out (by omega) hwr hN rd rc Kk (by omega) (fun n hn=> ⟨by have:=HNm.out n hn;omega,HIn.out n hn⟩) (fun n hn=> by have:=resX_size HS.out.good (HNm.out n hn);omega) (hR.kept (k0.trans KD))).mono ?_
  rintro e w1 ⟨ra,rfl,hI1,k1⟩
  have K1:=KD.trans k1
  refine hK.out _ _ (fun _=> Zz.out _ K1) ?_
  clear hK K Z_
  have Z_:=Zz.out _ K1
  try simp only [Act.put,upA,upB,upC]
  refine Qx.tk 12 Z_ ?_
  refine Qx.nx 13 (fun K hK=> ?_)
  go_simp
  obtain ⟨ob,hob⟩: ∃ob,ob=w1.heap.size:= ⟨_,rfl⟩
  obtain ⟨wE,hwE⟩: ∃wE,wE=w1.alloc (.cells #[.int .i64 0,.slice none 0 0,.slice none 0 0,.int .i64 0,.int .i64 0] 33):= ⟨_,rfl⟩
  have kE:K_ w1 wE:=by rw [hwE];exact (K_.refl _).alloc _
  have HRow:Hid (RowT wE ob 33 5):=by rw [hwE,hob];exact RowT.made w1 _ _
  have zE:wE.heap.size=ob+1:=by rw [hwE,hob];simp
  rw [<-hwE,<-hob]
  refine hK.out _ _ (fun _=> Zz.out _ (K1.trans kE)) ?_
  clear hK K Z_
  try simp only [Act.put,upA,upB,upC]
  have HRow2:=HRow
  refine Qx.nx 14 (fun K hK=> ?_)
  rw [if_pos (by rfl)]
  refine wp_store_mid 33 _ _ rfl ob 0 #[.int .i64 0,.slice ra Kk.length Kk.length,.slice none 0 0,.int .i64 un,.int .i64 co] (by rfl) (by rfl) HRow2.out.there (by kernel_rfl) (out_one ..) ?_
  refine hK.out _ _ (fun h=> absurd rfl h) ?_
  clear hK K
  try simp only [Act.put]
  refine Qx.dn ?_
  obtain ⟨W2,hW2⟩: ∃W2,W2=wE.setCells ob 0 [.int .i64 0,.slice ra Kk.length Kk.length,.slice none 0 0,.int .i64 un,.int .i64 co]:= ⟨_,rfl⟩
  have HOB2:Hid (OutB W2 ob W2 0 (.slice ra Kk.length Kk.length) un co):=by
   have hq:=World.rangeAt_setCells_same wE ob 0 [.int .i64 0,.slice ra Kk.length Kk.length,.slice none 0 0,.int .i64 un,.int .i64 co] (HRow2.out.row.there (o:=0) (m:=5) (Nat.le_refl _))
   rw [<-hW2] at hq
   exact ⟨But.of_kept (K_.refl _),by rw [hW2];exact RowT.sets _ 0 HRow2.out,hq 0 _ rfl,hq 1 _ rfl,hq 2 _ rfl,hq 3 _ rfl,hq 4 _ rfl⟩
  have kS:But (fun b=> b=ob) wE W2:=by rw [hW2];exact but_setsK (S:=fun b=> b=ob) (.inl rfl) _ 0 (But.of_kept (K_.refl _))
  obtain ⟨lo,hlo⟩: ∃lo,lo=wd.heap.size:= ⟨_,rfl⟩
  obtain ⟨mid,hmid⟩: ∃mid,mid=w1.heap.size:= ⟨_,rfl⟩
  have hzd:=KD.size
  have hz1:=k1.size
  have hz0:=HZ0.out
  have hz2:W2.heap.size=wE.heap.size:=by rw [hW2,size_setCells]
  have hsep:ob < lo∨mid<=ob:= .inr (by omega)
  have KW2:K_ w W2:=kS.kept ((k0.trans K1).trans kE) (fun b e=> by rw [e];omega)
  have HRs2:Hid (RowT W2 w.heap.size 33 5):=kS.row (HRes.out.kept (K1.trans kE)) (fun (e:w.heap.size=ob)=> by omega)
  have HI2:Hid (RessIn W2 lo mid ra (Kk.map (resX (Q_ Kj) (Qj sl)))):=by
   rw [hlo,hmid]
   exact (hI1.same (kE.same _ _)).same (fun b h1 h2 _=> kS.block b (by omega) (fun (e:b=ob)=> by omega))
  have hmz:mid<=W2.heap.size:=by omega
  have hlz:w.heap.size+1<=lo:=by omega
  have hoz:w.heap.size+1<=ob:=by omega
  clear hI1 hlo hmid hob hwE zE HRow HRow2 kE k1 K1 KD hz2 hzd hz1 hz0
  obtain ⟨R,hRx⟩: ∃R,R=resX (Q_ Kj) (Qj sl):= ⟨_,rfl⟩
  rw [<-hRx] at HI2
  have HRl:Hid ((Kk.map R).length=Kk.length):=by show _=_;rw [List.length_map]
  have HCC:Hid (∀u,But (fun b=> b=ob) W2 u->K_ w u∧RowT u w.heap.size 33 5∧RessIn u lo mid ra (Kk.map R)∧W2.heap.size<=u.heap.size):=fun u h=> ⟨h.kept KW2 (fun b e=> by rw [e];omega),h.row HRs2.out (fun (e:w.heap.size=ob)=> by omega),HI2.out.same (fun b h1 h2 _=> h.block b (by omega) (fun (e:b=ob)=> by omega)),h.size⟩
  have HRx:=Kz hRx
  have hw2z:w.heap.size<=W2.heap.size:=KW2.size
  have hobz:ob < W2.heap.size:=HOB2.out.row.lt
  have o1:=HOB2.out.c1
  have hob1:=HOB2.out.row.lt
  rw [<-hW2]
  clear hRx hW2 kS
  go_wp2_with fail
  have hcf:=anyNotOver_any W2 ra Kk.length (Kk.map R) (by rw [HRl.out];omega) HI2.out.ress
  rw [HRl.out] at hcf
  refine hcf.mono ?_
  clear hcf
  rintro e w5 ⟨hsay,k5⟩
  have HO5:=Kz (HOB2.out.kept k5)
  have hob5:=HO5.out.row.lt
  clear o1 hob1
  rcases hsay.cases with ⟨rfl,hyes⟩ | ⟨rfl,hno⟩
  rotate_left
  ·have HNo:=Kz hno
   have HTo:Hid (OutOk Kj Kk sl ⟨0,Kk.map R,[],un,co⟩):= ⟨⟨by rw [HRl.out];exact hr10,Nat.zero_le _⟩,by rw [HRx.out],HUC.out.1,HUC.out.2,.inl ⟨HNo.out,rfl,rfl⟩⟩
   have o0:=HO5.out.c0
   have o1:=HO5.out.c1
   have o2:=HO5.out.c2
   have o3:=HO5.out.c3
   have o4:=HO5.out.c4
   obtain ⟨Kr6,hRr6,hIr6,hzr6⟩:=HCC.out w5 HO5.out.but
   have HK6:=Kz Kr6
   have HRr6:=Kz hRr6
   have HIr6:=Kz hIr6
   clear Kr6 hRr6 hIr6 hno hsay
   obtain ⟨⟨_,fa0⟩,fb0⟩:=HRr6.out.row.at (i:=0) (by omega)
   obtain ⟨⟨_,fa1⟩,fb1⟩:=HRr6.out.row.at (i:=1) (by omega)
   obtain ⟨⟨_,fa2⟩,fb2⟩:=HRr6.out.row.at (i:=2) (by omega)
   obtain ⟨⟨_,fa3⟩,fb3⟩:=HRr6.out.row.at (i:=3) (by omega)
   obtain ⟨⟨_,fa4⟩,fb4⟩:=HRr6.out.row.at (i:=4) (by omega)
   have hrz:=HRr6.out.lt
   have hrw: ¬ob=w.heap.size:=by omega
   go_wp2
   have hX:=World.rangeAt_setCells_same w5 w.heap.size 0 [.int .i64 0,.slice ra Kk.length Kk.length,.slice none 0 0,.int .i64 un,.int .i64 co] (HRr6.out.row.there (o:=0) (m:=5) (Nat.le_refl _))
   refine X_ [.int .i64 0,.slice ra Kk.length Kk.length,.slice none 0 0,.int .i64 un,.int .i64 co] _ Tryz.results52 rfl hX Tryz.underlying33 rfl Tryz.sizeOutcome5 rfl ⟨_,ra,none,Kk.length,0,W2.heap.size, ?_,HTo.out, ?_, ?_,by omega, ?_, ?_⟩
   ·show Ending.returned _=Ending.returned _;rw [HRl.out];try rfl
   ·exact (ress_in_sets (vs:=[.int .i64 0,.slice ra Kk.length Kk.length,.slice none 0 0,.int .i64 un,.int .i64 co]) HIr6.out (.inl (by omega))).mono (by omega) (by omega)
   ·exact .inl rfl
   ·exact Nat.le_trans hzr6 (Nat.le_of_eq (size_setCells w.heap.size [.int .i64 0,.slice ra Kk.length Kk.length,.slice none 0 0,.int .i64 un,.int .i64 co] 0 w5).symm)
   ·exact kept_sets (Nat.le_refl _) [.int .i64 0,.slice ra Kk.length Kk.length,.slice none 0 0,.int .i64 un,.int .i64 co] 0 HK6.out
  have HYes:=Kz hyes
  obtain ⟨⟨_,f0⟩,f1⟩:=HO5.out.row.row.at (i:=0) (by omega)
  have o0:=HO5.out.c0
  obtain ⟨W6,hW6⟩: ∃W6,W6=w5.setCell ⟨ob,0,none⟩ (.int .i64 1):= ⟨_,rfl⟩
  have HO7:Hid (OutB W2 ob W6 1 (.slice ra Kk.length Kk.length) un co):=by rw [hW6];exact HO5.out.set0 1
  have HK6:=Kz (HCC.out W6 HO7.out.but).1
  clear hyes hsay
  go_upto_region 4 with fail
  rw [<-hW6]
  clear hW6 f0 f1 o0 hob5
  go_wp2_with fail
  refine (cleanWaits_any (HC.out.kept HK6.out) HS.out hok hwl hwr hN hmx).mono ?_
  rintro e w8 ⟨mo,M,g,ol,rfl,hO,hol,hM,k8⟩
  have HIff:Hid ((fun x y=> y∈ol x)=WaitsX (Q_ Kj) (Qj sl)):=by
   show _=_
   funext x y
   rw [hol x]
   exact propext (waitL_iff HS.out.good HAsk.out)
  have HOn:Hid (∀s,ol s≠[]->s∈sl.map (·.name)):=fun s hs=> by
   rw [hol s] at hs
   unfold waitL at hs
   cases he:Qj sl s with
   | none=> rw [he] at hs;exact absurd rfl hs
   | some r=> exact List.mem_map.2 ⟨r,(env_mem he).1,(env_mem he).2⟩
  have HKs:Hid (∀s,ol s≠[]->s.size<=20):=fun s hs=> by
   obtain ⟨r,hr,rfl⟩:=List.mem_map.1 (HOn.out s hs)
   obtain ⟨A,hA,_⟩:= (HS.out.good.good r hr).act
   exact (hok _ _ hA).2.2.1
  have HLm:Hid (ListsM w8 mo (fun s=> ol s≠[]) ol):=by
   obtain ⟨N,D,hN,hMp,hf,hh⟩:=hO.map
   refine ⟨⟨N,D,by omega,hMp,fun s hs=> ?_,hh⟩,fun s h=> h⟩
   have hrow:=hO.row s
   obtain ⟨a9,c9,e9,hst9⟩:=owned_strs hrow
   exact ⟨a9,c9,by rw [hf s hs,e9],hst9⟩
  have HLen:Hid (∀s,(ol s).length<=1000000):=fun s=> by
   rw [hol s]
   unfold waitL
   cases he:Qj sl s with
   | none=> exact Nat.zero_le _
   | some r=>
    refine Nat.le_trans (List.length_filter_le _ _) ?_
    have:= (asksC_ok hok (HS.out.good.good r (env_mem he).1)).1
    omega
  clear hO hol
  go_wp2_with fail
  refine (chainOf_any w8 mo _ ol (sl.map (·.name)) HOn.out (by rw [List.length_map];exact hs60) HKs.out HLen.out HLm.out).mono ?_
  rintro e w9 ⟨da,ns,rfl,hS9,hl9,hC9,k9⟩
  have HC9:Hid (CircX (WaitsX (Q_ Kj) (Qj sl)) ns):=by rw [<-HIff.out];exact hC9
  have HTo:Hid (OutOk Kj Kk sl ⟨1,Kk.map R,ns,un,co⟩):= ⟨⟨by rw [HRl.out];exact hr10,hl9⟩,by rw [HRx.out],HUC.out.1,HUC.out.2,.inr ⟨HYes.out,rfl,HC9.out⟩⟩
  have HO9:=Kz (HO7.out.kept (k8.trans k9))
  have hz8:=k8.size
  have hz7:=HO7.out.row.lt
  have hob9:=HO9.out.row.lt
  obtain ⟨⟨_,f0⟩,f1⟩:=HO9.out.row.row.at (i:=2) (by omega)
  obtain ⟨WX,hWX⟩: ∃WX,WX=w9.setCell ⟨ob,2,none⟩ (.slice da ns.length ns.length):= ⟨_,rfl⟩
  have o0:WX.cell? ⟨ob,0,none⟩=some (.int .i64 1):=by rw [hWX];exact miss HO9.out.c0 (by decide)
  have o1:WX.cell? ⟨ob,1,none⟩=some (.slice ra Kk.length Kk.length):=by rw [hWX];exact miss HO9.out.c1 (by decide)
  have o2:WX.cell? ⟨ob,2,none⟩=some (.slice da ns.length ns.length):=by rw [hWX];exact set_hit HO9.out.row.row (by omega) _
  have o3:WX.cell? ⟨ob,3,none⟩=some (.int .i64 un):=by rw [hWX];exact miss HO9.out.c3 (by decide)
  have o4:WX.cell? ⟨ob,4,none⟩=some (.int .i64 co):=by rw [hWX];exact miss HO9.out.c4 (by decide)
  have hW26:= (HCC.out W6 HO7.out.but).2.2.2
  obtain ⟨Kr6,hRr6,hIr6,hzr6⟩:=HCC.out WX (by rw [hWX];exact HO9.out.but.set rfl _)
  have HK6:=Kz Kr6
  have HRr6:=Kz hRr6
  have HIr6:=Kz hIr6
  have hob6:ob < WX.heap.size:=by rw [hWX,size_setCell];exact hob9
  have HS9:Hid (StrsIn WX W2.heap.size WX.heap.size da ns):=by
   have h:StrsIn WX w8.heap.size w9.heap.size da ns:=by rw [hWX];exact hS9.same (Same.setCell _ (.inl (by show ob < w8.heap.size;omega)) _)
   exact h.mono (by omega) (by rw [hWX,size_setCell];exact Nat.le_refl _)
  clear Kr6 hRr6 hIr6 hS9 hC9 HC9 HO9
  go_upto_region 5 with fail
  rw [<-hWX]
  clear hWX f0 f1 hob9
  obtain ⟨⟨_,fa0⟩,fb0⟩:=HRr6.out.row.at (i:=0) (by omega)
  obtain ⟨⟨_,fa1⟩,fb1⟩:=HRr6.out.row.at (i:=1) (by omega)
  obtain ⟨⟨_,fa2⟩,fb2⟩:=HRr6.out.row.at (i:=2) (by omega)
  obtain ⟨⟨_,fa3⟩,fb3⟩:=HRr6.out.row.at (i:=3) (by omega)
  obtain ⟨⟨_,fa4⟩,fb4⟩:=HRr6.out.row.at (i:=4) (by omega)
  have hrz:=HRr6.out.lt
  have hrw: ¬ob=w.heap.size:=by omega
  go_wp2
  have hX:=World.rangeAt_setCells_same WX w.heap.size 0 [.int .i64 1,.slice ra Kk.length Kk.length,.slice da ns.length ns.length,.int .i64 un,.int .i64 co] (HRr6.out.row.there (o:=0) (m:=5) (Nat.le_refl _))
  refine X_ [.int .i64 1,.slice ra Kk.length Kk.length,.slice da ns.length ns.length,.int .i64 un,.int .i64 co] _ Tryz.results52 rfl hX Tryz.underlying33 rfl Tryz.sizeOutcome5 rfl ⟨_,ra,da,Kk.length,ns.length,W2.heap.size, ?_,HTo.out, ?_, ?_,by omega, ?_, ?_⟩
  ·show Ending.returned _=Ending.returned _;rw [HRl.out];try rfl
  ·exact (ress_in_sets (vs:=[.int .i64 1,.slice ra Kk.length Kk.length,.slice da ns.length ns.length,.int .i64 un,.int .i64 co]) HIr6.out (.inl (by omega))).mono (by omega) (by omega)
  ·exact (strs_in_sets (vs:=[.int .i64 1,.slice ra Kk.length Kk.length,.slice da ns.length ns.length,.int .i64 un,.int .i64 co]) HS9.out (.inl (by omega))).mono (Nat.le_refl _) (Nat.le_of_eq (size_setCells w.heap.size [.int .i64 1,.slice ra Kk.length Kk.length,.slice da ns.length ns.length,.int .i64 un,.int .i64 co] 0 WX).symm)
  ·exact Nat.le_trans hzr6 (Nat.le_of_eq (size_setCells w.heap.size [.int .i64 1,.slice ra Kk.length Kk.length,.slice da ns.length ns.length,.int .i64 un,.int .i64 co] 0 WX).symm)
  ·exact kept_sets (Nat.le_refl _) [.int .i64 1,.slice ra Kk.length Kk.length,.slice da ns.length ns.length,.int .i64 un,.int .i64 co] 0 HK6.out
 ·go_simp
  obtain ⟨ob,hob⟩: ∃ob,ob=wd.heap.size:= ⟨_,rfl⟩
  obtain ⟨wE,hwE⟩: ∃wE,wE=wd.alloc (.cells #[.int .i64 0,.slice none 0 0,.slice none 0 0,.int .i64 0,.int .i64 0] 33):= ⟨_,rfl⟩
  have kE:K_ wd wE:=by rw [hwE];exact (K_.refl _).alloc _
  have HRow:Hid (RowT wE ob 33 5):=by rw [hwE,hob];exact RowT.made wd _ _
  have zE:wE.heap.size=ob+1:=by rw [hwE,hob];simp
  rw [<-hwE,<-hob]
  have K1:=KD.trans kE
  have HWE:=Kz hwE
  have HOb:=Kz hob
  have HzE:=Kz zE
  refine hK.out _ _ (fun _=> Zz.out _ K1) ?_
  clear hK K Z_ hwE hob zE
  try simp only [Act.put,upA,upB,upC]
  refine Qx.nx 3 (fun K hK=> ?_)
  rw [if_pos (by rfl)]
  go_simp
  go_at_call 70
  refine (cleanResults_any (HC.out.kept (k0.trans K1)) HS.out (by omega) hwr hN rd rc Kk (by omega) (fun n hn=> ⟨by have:=HNm.out n hn;omega,HIn.out n hn⟩) (fun n hn=> by have:=resX_size HS.out.good (HNm.out n hn);omega) (hR.kept (k0.trans K1))).mono ?_
  rintro e w1 ⟨ra,rfl,hI1,k1⟩
  have K2:=K1.trans k1
  refine hK.out _ _ (fun _=> Zz.out _ K2) ?_
  clear hK K
  have Z_:=Zz.out _ K2
  try simp only [Act.put,upA,upB,upC]
  refine Qx.tk 12 Z_ ?_
  have HRow2:=Kz (HRow.out.kept k1)
  refine Qx.nx 14 (fun K hK=> ?_)
  rw [if_pos (by rfl)]
  refine wp_store_mid 33 _ _ rfl ob 0 #[.int .i64 0,.slice ra Kk.length Kk.length,.slice none 0 0,.int .i64 un,.int .i64 co] (by rfl) (by rfl) HRow2.out.there (by kernel_rfl) (out_one ..) ?_
  refine hK.out _ _ (fun h=> absurd rfl h) ?_
  clear hK K
  try simp only [Act.put]
  refine Qx.dn ?_
  obtain ⟨W2,hW2⟩: ∃W2,W2=w1.setCells ob 0 [.int .i64 0,.slice ra Kk.length Kk.length,.slice none 0 0,.int .i64 un,.int .i64 co]:= ⟨_,rfl⟩
  have HOB2:Hid (OutB W2 ob W2 0 (.slice ra Kk.length Kk.length) un co):=by
   have hq:=World.rangeAt_setCells_same w1 ob 0 [.int .i64 0,.slice ra Kk.length Kk.length,.slice none 0 0,.int .i64 un,.int .i64 co] (HRow2.out.row.there (o:=0) (m:=5) (Nat.le_refl _))
   rw [<-hW2] at hq
   exact ⟨But.of_kept (K_.refl _),by rw [hW2];exact RowT.sets _ 0 HRow2.out,hq 0 _ rfl,hq 1 _ rfl,hq 2 _ rfl,hq 3 _ rfl,hq 4 _ rfl⟩
  have kS:But (fun b=> b=ob) w1 W2:=by rw [hW2];exact but_setsK (S:=fun b=> b=ob) (.inl rfl) _ 0 (But.of_kept (K_.refl _))
  have hwE:=HWE.out
  have hob:=HOb.out
  have zE:=HzE.out
  obtain ⟨lo,hlo⟩: ∃lo,lo=wE.heap.size:= ⟨_,rfl⟩
  obtain ⟨mid,hmid⟩: ∃mid,mid=w1.heap.size:= ⟨_,rfl⟩
  have hzd:=KD.size
  have hz1:=k1.size
  have hz0:=HZ0.out
  have hz2:W2.heap.size=w1.heap.size:=by rw [hW2,size_setCells]
  have hsep:ob < lo∨mid<=ob:= .inl (by omega)
  have KW2:K_ w W2:=kS.kept (k0.trans K2) (fun b e=> by rw [e];omega)
  have HRs2:Hid (RowT W2 w.heap.size 33 5):=kS.row (HRes.out.kept K2) (fun (e:w.heap.size=ob)=> by omega)
  have HI2:Hid (RessIn W2 lo mid ra (Kk.map (resX (Q_ Kj) (Qj sl)))):=by
   rw [hlo,hmid]
   exact hI1.same (fun b h1 h2 _=> kS.block b (by omega) (fun (e:b=ob)=> by omega))
  have hmz:mid<=W2.heap.size:=by omega
  have hlz:w.heap.size+1<=lo:=by omega
  have hoz:w.heap.size+1<=ob:=by omega
  clear hI1 hlo hmid hob hwE zE HRow HRow2 kE k1 K1 K2 KD hz2 hzd hz1 hz0
  obtain ⟨R,hRx⟩: ∃R,R=resX (Q_ Kj) (Qj sl):= ⟨_,rfl⟩
  rw [<-hRx] at HI2
  have HRl:Hid ((Kk.map R).length=Kk.length):=by show _=_;rw [List.length_map]
  have HCC:Hid (∀u,But (fun b=> b=ob) W2 u->K_ w u∧RowT u w.heap.size 33 5∧RessIn u lo mid ra (Kk.map R)∧W2.heap.size<=u.heap.size):=fun u h=> ⟨h.kept KW2 (fun b e=> by rw [e];omega),h.row HRs2.out (fun (e:w.heap.size=ob)=> by omega),HI2.out.same (fun b h1 h2 _=> h.block b (by omega) (fun (e:b=ob)=> by omega)),h.size⟩
  have HRx:=Kz hRx
  have hw2z:w.heap.size<=W2.heap.size:=KW2.size
  have hobz:ob < W2.heap.size:=HOB2.out.row.lt
  have o1:=HOB2.out.c1
  have hob1:=HOB2.out.row.lt
  rw [<-hW2]
  clear hRx hW2 kS
  go_wp2_with fail
  have hcf:=anyNotOver_any W2 ra Kk.length (Kk.map R) (by rw [HRl.out];omega) HI2.out.ress
  rw [HRl.out] at hcf
  refine hcf.mono ?_
  clear hcf
  rintro e w5 ⟨hsay,k5⟩
  have HO5:=Kz (HOB2.out.kept k5)
  have hob5:=HO5.out.row.lt
  clear o1 hob1
  rcases hsay.cases with ⟨rfl,hyes⟩ | ⟨rfl,hno⟩
  rotate_left
  ·have HNo:=Kz hno
   have HTo:Hid (OutOk Kj Kk sl ⟨0,Kk.map R,[],un,co⟩):= ⟨⟨by rw [HRl.out];exact hr10,Nat.zero_le _⟩,by rw [HRx.out],HUC.out.1,HUC.out.2,.inl ⟨HNo.out,rfl,rfl⟩⟩
   have o0:=HO5.out.c0
   have o1:=HO5.out.c1
   have o2:=HO5.out.c2
   have o3:=HO5.out.c3
   have o4:=HO5.out.c4
   obtain ⟨Kr6,hRr6,hIr6,hzr6⟩:=HCC.out w5 HO5.out.but
   have HK6:=Kz Kr6
   have HRr6:=Kz hRr6
   have HIr6:=Kz hIr6
   clear Kr6 hRr6 hIr6 hno hsay
   obtain ⟨⟨_,fa0⟩,fb0⟩:=HRr6.out.row.at (i:=0) (by omega)
   obtain ⟨⟨_,fa1⟩,fb1⟩:=HRr6.out.row.at (i:=1) (by omega)
   obtain ⟨⟨_,fa2⟩,fb2⟩:=HRr6.out.row.at (i:=2) (by omega)
   obtain ⟨⟨_,fa3⟩,fb3⟩:=HRr6.out.row.at (i:=3) (by omega)
   obtain ⟨⟨_,fa4⟩,fb4⟩:=HRr6.out.row.at (i:=4) (by omega)
   have hrz:=HRr6.out.lt
   have hrw: ¬ob=w.heap.size:=by omega
   go_wp2
   have hX:=World.rangeAt_setCells_same w5 w.heap.size 0 [.int .i64 0,.slice ra Kk.length Kk.length,.slice none 0 0,.int .i64 un,.int .i64 co] (HRr6.out.row.there (o:=0) (m:=5) (Nat.le_refl _))
   refine X_ [.int .i64 0,.slice ra Kk.length Kk.length,.slice none 0 0,.int .i64 un,.int .i64 co] _ Tryz.results52 rfl hX Tryz.underlying33 rfl Tryz.sizeOutcome5 rfl ⟨_,ra,none,Kk.length,0,W2.heap.size, ?_,HTo.out, ?_, ?_,by omega, ?_, ?_⟩
   ·show Ending.returned _=Ending.returned _;rw [HRl.out];try rfl
   ·exact (ress_in_sets (vs:=[.int .i64 0,.slice ra Kk.length Kk.length,.slice none 0 0,.int .i64 un,.int .i64 co]) HIr6.out (.inl (by omega))).mono (by omega) (by omega)
   ·exact .inl rfl
   ·exact Nat.le_trans hzr6 (Nat.le_of_eq (size_setCells w.heap.size [.int .i64 0,.slice ra Kk.length Kk.length,.slice none 0 0,.int .i64 un,.int .i64 co] 0 w5).symm)
   ·exact kept_sets (Nat.le_refl _) [.int .i64 0,.slice ra Kk.length Kk.length,.slice none 0 0,.int .i64 un,.int .i64 co] 0 HK6.out
  have HYes:=Kz hyes
  obtain ⟨⟨_,f0⟩,f1⟩:=HO5.out.row.row.at (i:=0) (by omega)
  have o0:=HO5.out.c0
  obtain ⟨W6,hW6⟩: ∃W6,W6=w5.setCell ⟨ob,0,none⟩ (.int .i64 1):= ⟨_,rfl⟩
  have HO7:Hid (OutB W2 ob W6 1 (.slice ra Kk.length Kk.length) un co):=by rw [hW6];exact HO5.out.set0 1
  have HK6:=Kz (HCC.out W6 HO7.out.but).1
  clear hyes hsay
  go_upto_region 4 with fail
  rw [<-hW6]
  clear hW6 f0 f1 o0 hob5
  go_wp2_with fail
  refine (cleanWaits_any (HC.out.kept HK6.out) HS.out hok hwl hwr hN hmx).mono ?_
  rintro e w8 ⟨mo,M,g,ol,rfl,hO,hol,hM,k8⟩
  have HIff:Hid ((fun x y=> y∈ol x)=WaitsX (Q_ Kj) (Qj sl)):=by
   show _=_
   funext x y
   rw [hol x]
   exact propext (waitL_iff HS.out.good HAsk.out)
  have HOn:Hid (∀s,ol s≠[]->s∈sl.map (·.name)):=fun s hs=> by
   rw [hol s] at hs
   unfold waitL at hs
   cases he:Qj sl s with
   | none=> rw [he] at hs;exact absurd rfl hs
   | some r=> exact List.mem_map.2 ⟨r,(env_mem he).1,(env_mem he).2⟩
  have HKs:Hid (∀s,ol s≠[]->s.size<=20):=fun s hs=> by
   obtain ⟨r,hr,rfl⟩:=List.mem_map.1 (HOn.out s hs)
   obtain ⟨A,hA,_⟩:= (HS.out.good.good r hr).act
   exact (hok _ _ hA).2.2.1
  have HLm:Hid (ListsM w8 mo (fun s=> ol s≠[]) ol):=by
   obtain ⟨N,D,hN,hMp,hf,hh⟩:=hO.map
   refine ⟨⟨N,D,by omega,hMp,fun s hs=> ?_,hh⟩,fun s h=> h⟩
   have hrow:=hO.row s
   obtain ⟨a9,c9,e9,hst9⟩:=owned_strs hrow
   exact ⟨a9,c9,by rw [hf s hs,e9],hst9⟩
  have HLen:Hid (∀s,(ol s).length<=1000000):=fun s=> by
   rw [hol s]
   unfold waitL
   cases he:Qj sl s with
   | none=> exact Nat.zero_le _
   | some r=>
    refine Nat.le_trans (List.length_filter_le _ _) ?_
    have:= (asksC_ok hok (HS.out.good.good r (env_mem he).1)).1
    omega
  clear hO hol
  go_wp2_with fail
  refine (chainOf_any w8 mo _ ol (sl.map (·.name)) HOn.out (by rw [List.length_map];exact hs60) HKs.out HLen.out HLm.out).mono ?_
  rintro e w9 ⟨da,ns,rfl,hS9,hl9,hC9,k9⟩
  have HC9:Hid (CircX (WaitsX (Q_ Kj) (Qj sl)) ns):=by rw [<-HIff.out];exact hC9
  have HTo:Hid (OutOk Kj Kk sl ⟨1,Kk.map R,ns,un,co⟩):= ⟨⟨by rw [HRl.out];exact hr10,hl9⟩,by rw [HRx.out],HUC.out.1,HUC.out.2,.inr ⟨HYes.out,rfl,HC9.out⟩⟩
  have HO9:=Kz (HO7.out.kept (k8.trans k9))
  have hz8:=k8.size
  have hz7:=HO7.out.row.lt
  have hob9:=HO9.out.row.lt
  obtain ⟨⟨_,f0⟩,f1⟩:=HO9.out.row.row.at (i:=2) (by omega)
  obtain ⟨WX,hWX⟩: ∃WX,WX=w9.setCell ⟨ob,2,none⟩ (.slice da ns.length ns.length):= ⟨_,rfl⟩
  have o0:WX.cell? ⟨ob,0,none⟩=some (.int .i64 1):=by rw [hWX];exact miss HO9.out.c0 (by decide)
  have o1:WX.cell? ⟨ob,1,none⟩=some (.slice ra Kk.length Kk.length):=by rw [hWX];exact miss HO9.out.c1 (by decide)
  have o2:WX.cell? ⟨ob,2,none⟩=some (.slice da ns.length ns.length):=by rw [hWX];exact set_hit HO9.out.row.row (by omega) _
  have o3:WX.cell? ⟨ob,3,none⟩=some (.int .i64 un):=by rw [hWX];exact miss HO9.out.c3 (by decide)
  have o4:WX.cell? ⟨ob,4,none⟩=some (.int .i64 co):=by rw [hWX];exact miss HO9.out.c4 (by decide)
  have hW26:= (HCC.out W6 HO7.out.but).2.2.2
  obtain ⟨Kr6,hRr6,hIr6,hzr6⟩:=HCC.out WX (by rw [hWX];exact HO9.out.but.set rfl _)
  have HK6:=Kz Kr6
  have HRr6:=Kz hRr6
  have HIr6:=Kz hIr6
  have hob6:ob < WX.heap.size:=by rw [hWX,size_setCell];exact hob9
  have HS9:Hid (StrsIn WX W2.heap.size WX.heap.size da ns):=by
   have h:StrsIn WX w8.heap.size w9.heap.size da ns:=by rw [hWX];exact hS9.same (Same.setCell _ (.inl (by show ob < w8.heap.size;omega)) _)
   exact h.mono (by omega) (by rw [hWX,size_setCell];exact Nat.le_refl _)
  clear Kr6 hRr6 hIr6 hS9 hC9 HC9 HO9
  go_upto_region 5 with fail
  rw [<-hWX]
  clear hWX f0 f1 hob9
  obtain ⟨⟨_,fa0⟩,fb0⟩:=HRr6.out.row.at (i:=0) (by omega)
  obtain ⟨⟨_,fa1⟩,fb1⟩:=HRr6.out.row.at (i:=1) (by omega)
  obtain ⟨⟨_,fa2⟩,fb2⟩:=HRr6.out.row.at (i:=2) (by omega)
  obtain ⟨⟨_,fa3⟩,fb3⟩:=HRr6.out.row.at (i:=3) (by omega)
  obtain ⟨⟨_,fa4⟩,fb4⟩:=HRr6.out.row.at (i:=4) (by omega)
  have hrz:=HRr6.out.lt
  have hrw: ¬ob=w.heap.size:=by omega
  go_wp2
  have hX:=World.rangeAt_setCells_same WX w.heap.size 0 [.int .i64 1,.slice ra Kk.length Kk.length,.slice da ns.length ns.length,.int .i64 un,.int .i64 co] (HRr6.out.row.there (o:=0) (m:=5) (Nat.le_refl _))
  refine X_ [.int .i64 1,.slice ra Kk.length Kk.length,.slice da ns.length ns.length,.int .i64 un,.int .i64 co] _ Tryz.results52 rfl hX Tryz.underlying33 rfl Tryz.sizeOutcome5 rfl ⟨_,ra,da,Kk.length,ns.length,W2.heap.size, ?_,HTo.out, ?_, ?_,by omega, ?_, ?_⟩
  ·show Ending.returned _=Ending.returned _;rw [HRl.out];try rfl
  ·exact (ress_in_sets (vs:=[.int .i64 1,.slice ra Kk.length Kk.length,.slice da ns.length ns.length,.int .i64 un,.int .i64 co]) HIr6.out (.inl (by omega))).mono (by omega) (by omega)
  ·exact (strs_in_sets (vs:=[.int .i64 1,.slice ra Kk.length Kk.length,.slice da ns.length ns.length,.int .i64 un,.int .i64 co]) HS9.out (.inl (by omega))).mono (Nat.le_refl _) (Nat.le_of_eq (size_setCells w.heap.size [.int .i64 1,.slice ra Kk.length Kk.length,.slice da ns.length ns.length,.int .i64 un,.int .i64 co] 0 WX).symm)
  ·exact Nat.le_trans hzr6 (Nat.le_of_eq (size_setCells w.heap.size [.int .i64 1,.slice ra Kk.length Kk.length,.slice da ns.length ns.length,.int .i64 un,.int .i64 co] 0 WX).symm)
  ·exact kept_sets (Nat.le_refl _) [.int .i64 1,.slice ra Kk.length Kk.length,.slice da ns.length ns.length,.int .i64 un,.int .i64 co] 0 HK6.out
end
theorem CM.begun {Kj:List Qq} {w3 W4:World} {a:Option Addr} {cap:Nat} (hW:W4= ((w3.alloc (.map #[] 0)).alloc (.map #[] 0)).alloc (.cells #[.slice a Kj.length cap,.func (.func 97) #[] #[],.map (some w3.heap.size),.map (some (w3.heap.size+1)),.int .i64 0,.int .i64 0] 99)):
  CM Kj w3 W4 (w3.heap.size+1+1) a cap w3.heap.size (w3.heap.size+1) 0 (fun _=> none) (fun _=> turn0) (fun _=> False) 0 0:=by
 have k:K_ w3 W4:=by rw [hW];exact (((K_.refl _).alloc _).alloc _).alloc _
 have hr:RowT W4 (w3.heap.size+1+1) 99 6:=by
  have h:=RowT.made ((w3.alloc (.map #[] 0)).alloc (.map #[] 0)) #[.slice a Kj.length cap,.func (.func 97) #[] #[],.map (some w3.heap.size),.map (some (w3.heap.size+1)),.int .i64 0,.int .i64 0] 99
  rw [World.size_alloc,World.size_alloc] at h
  rw [hW]
  exact h
 have hc:=Xz ((w3.alloc (.map #[] 0)).alloc (.map #[] 0)) #[.slice a Kj.length cap,.func (.func 97) #[] #[],.map (some w3.heap.size),.map (some (w3.heap.size+1)),.int .i64 0,.int .i64 0] 99
 rw [World.size_alloc,World.size_alloc,<-hW] at hc
 refine ⟨k,hr,hc 0 _ rfl,hc 1 _ rfl,hc 2 _ rfl,hc 3 _ rfl,hc 4 _ rfl,hc 5 _ rfl,by omega,fun n t e=> (by cases e),fun n m t u e=> (by cases e),⟨0,.map [],Nat.le_refl _, ?_,fun s _=> rfl,fun s=> by simp [Maps.has]⟩,Nat.le_refl _,⟨0,.map [],Nat.le_refl _, ?_,fun s _=> rfl,fun s=> by simp [Maps.has]⟩,Nat.le_succ _,by omega⟩
 ·rw [hW]
  exact ((World.ownsMap_made w3 Tryz.prog 9 asIs).alloc _).alloc _
 ·rw [hW]
  have h:= (World.ownsMap_made (w3.alloc (.map #[] 0)) Tryz.prog 9 asIs).alloc (.cells #[.slice a Kj.length cap,.func (.func 97) #[] #[],.map (some w3.heap.size),.map (some (w3.heap.size+1)),.int .i64 0,.int .i64 0] 99)
  rw [World.size_alloc] at h
  exact h
theorem CS.begun (Kj:List Qq) (w3:World):CS Kj w3 (fun _=> none) (fun _=> turn0) (fun _=> False) 0 0 []:=
 ⟨⟨List.Pairwise.nil,fun r h=> (by cases h)⟩,fun n=> rfl,fun s=> rfl,fun s=> ⟨fun h=> h.elim,fun ⟨t,h,_⟩=> (by cases h)⟩,rfl,rfl,fun n r h=> (by cases h)⟩
theorem led_some {W:Acts} {σ τ :Env} {k:Nat} (hl:Leads (ReadyX W) (doX W) σ τ k) {n:ByteArray} (h: (σ n).isSome=true): (τ n).isSome=true:=hl.keeps (P:=fun σ:Env=> (σ n).isSome=true) (fun _ _ g hm=> doX_some hm g) h
theorem led_asked {Kj:List Qq} (hok:ActsOk (Q_ Kj)) {Kk:List ByteArray} {τ :Env} {k:Nat} (hl:Leads (ReadyX (Q_ Kj)) (doX (Q_ Kj)) (Qj (startL Kj Kk)) τ k):AskedOk (Q_ Kj) τ :=by
 have h:=hl.keeps (P:=fun σ:Env=> GoodEnv Kj σ∧AskedOk (Q_ Kj) σ) (fun σ m h hm=> ⟨goodEnv_do hok h.1 hm,h.2.did h.1 hm⟩) ⟨(startL_good hok Kk).env,fun n r A hr ho hv=> by
  rw [startL_env] at hr
  split at hr
  ·cases hr;exact absurd rfl hv
  ·cases hr⟩
 exact h.2
theorem implClean_any (w:World) (a:Option Addr) (cap:Nat) (Kj:List Qq) (rd:Option Addr) (rc:Nat) (Kk:List ByteArray) (hl:Kj.length<=1048576) (hf: ∀s∈Kj,s.Fits) (hrl:Kk.length<=maxLen) (hrc:Kk.length<=rc) (hrs: ∀s∈Kk,s.size<=maxLen) (hS:Nodes w a Kj) (hR:Strs w rd Kk) (hFi:FinishOk w):
  Calls Tryz.prog 21 #[.agg #[.slice a Kj.length cap],.slice rd Kk.length rc] w fun e w'=> ToldIn (CleanAns Kj Kk) w w' e:=by
 obtain ⟨WB,hWB⟩: ∃WB,WB= (w.alloc (.cells #[.slice a Kj.length cap] 37)).alloc (.cells #[.int .i64 0,.slice none 0 0,.slice none 0 0,.int .i64 0,.int .i64 0] 33):= ⟨_,rfl⟩
 have k0:K_ w WB:=by rw [hWB];exact ((K_.refl _).alloc _).alloc _
 have hBs:WB.heap.size=w.heap.size+2:=by rw [hWB];simp
 have b0:WB.cell? ⟨w.heap.size,0,none⟩=some (.slice a Kj.length cap):=by
  rw [hWB]
  exact (box1 (w:=w) (v:= .slice a Kj.length cap) (t:=37) ((K_.refl _).alloc _)).1
 have HRes:Hid (RowT WB (w.heap.size+1) 33 5):=by
  have h:=RowT.made (w.alloc (.cells #[.slice a Kj.length cap] 37)) #[.int .i64 0,.slice none 0 0,.slice none 0 0,.int .i64 0,.int .i64 0] 33
  rw [World.size_alloc] at h
  rw [hWB]
  exact h
 have z0:w.heap.size < WB.heap.size:=by omega
 have HBs:=Kz hBs
 have hl':Kj.length<=maxLen:=by unfold maxLen;omega
 have HNo1:Hid (¬(WebCode Kj 0∧RootsOk Kk)->∀u,K_ WB u->ToldIn (CleanAns Kj Kk) w (u.setCells (w.heap.size+1) 0 [.int .i64 9,.slice none 0 0,.slice none 0 0,.int .i64 0,.int .i64 0]) (.returned (.agg #[.int .i64 9,.slice none 0 0,.slice none 0 0,.int .i64 0,.int .i64 0]))):=fun hn u ku=> ⟨outNo,none,none,0,0,w.heap.size,rfl,⟨⟨Nat.zero_le _,Nat.zero_le _⟩,.inr ⟨hn,rfl⟩⟩,.inl rfl,.inl rfl,Nat.le_refl _,by rw [size_setCells];have:=ku.size;omega,kept_sets (g:=w.heap.size+1) (by omega) _ 0 (k0.trans ku)⟩
 clear hBs
 go_enter Tryz.func21,Tryz.ntmps21
 go_upto_region 1 with fail
 rw [<-hWB]
 clear hWB
 go_wp2_with fail
 refine (implCheckWeb_any ascSaid _ a cap Kj hl' hf (hS.kept k0)).mono ?_
 rintro e w1 ⟨⟨c,rfl,hc⟩,k1⟩
 have K1:=k0.trans k1
 have q0:= (k1.cell (o:=0) z0).trans b0
 have z1:=Nat.lt_of_lt_of_le z0 k1.size
 have HC:=Kz hc
 clear hc b0 z0
 by_cases hc0:c=0
 rotate_left
 ·have HNo:Hid (¬(WebCode Kj 0∧RootsOk Kk)):=fun h=> hc0 (HC.out.unique h.1)
  have hRr:=HRes.out.kept k1
  obtain ⟨⟨_,fa0⟩,fb0⟩:=hRr.row.at (i:=0) (by omega)
  obtain ⟨⟨_,fa1⟩,fb1⟩:=hRr.row.at (i:=1) (by omega)
  obtain ⟨⟨_,fa2⟩,fb2⟩:=hRr.row.at (i:=2) (by omega)
  obtain ⟨⟨_,fa3⟩,fb3⟩:=hRr.row.at (i:=3) (by omega)
  obtain ⟨⟨_,fa4⟩,fb4⟩:=hRr.row.at (i:=4) (by omega)
  have hrz:=hRr.lt
  have HRr:=Kz hRr
  have HK1:=Kz k1
  have hcb: (c == 0)=false:=by simpa using hc0
  clear k1 k0 hRr
  go_wp2
  have hX:=World.rangeAt_setCells_same w1 (w.heap.size+1) 0 [.int .i64 9,.slice none 0 0,.slice none 0 0,.int .i64 0,.int .i64 0] (HRr.out.row.there (o:=0) (m:=5) (Nat.le_refl _))
  exact X_ [.int .i64 9,.slice none 0 0,.slice none 0 0,.int .i64 0,.int .i64 0] _ Tryz.results21 rfl hX Tryz.underlying33 rfl Tryz.sizeOutcome5 rfl (HNo1.out HNo.out w1 HK1.out)
 subst hc0
 go_wp2_with fail
 refine (validRoots_any _ rd rc Kk hrl hrc hrs (hR.kept K1)).mono ?_
 rintro e w2 ⟨hsay,k2⟩
 have q2:= (k2.cell (o:=0) z1).trans q0
 have K2:=K1.trans k2
 have z2:=Nat.lt_of_lt_of_le z1 k2.size
 have HK12:=Kz (k1.trans k2)
 clear q0 k2 z1 k1
 rcases hsay.cases with ⟨rfl,hyes⟩ | ⟨rfl,hno⟩
 rotate_left
 ·have HNo:Hid (¬(WebCode Kj 0∧RootsOk Kk)):=fun h=> hno h.2
  have hRr:=HRes.out.kept HK12.out
  obtain ⟨⟨_,fa0⟩,fb0⟩:=hRr.row.at (i:=0) (by omega)
  obtain ⟨⟨_,fa1⟩,fb1⟩:=hRr.row.at (i:=1) (by omega)
  obtain ⟨⟨_,fa2⟩,fb2⟩:=hRr.row.at (i:=2) (by omega)
  obtain ⟨⟨_,fa3⟩,fb3⟩:=hRr.row.at (i:=3) (by omega)
  obtain ⟨⟨_,fa4⟩,fb4⟩:=hRr.row.at (i:=4) (by omega)
  have hrz:=hRr.lt
  have HRr:=Kz hRr
  clear k0 hRr hno hsay
  go_wp2_with fail
  have hX:=World.rangeAt_setCells_same w2 (w.heap.size+1) 0 [.int .i64 9,.slice none 0 0,.slice none 0 0,.int .i64 0,.int .i64 0] (HRr.out.row.there (o:=0) (m:=5) (Nat.le_refl _))
  exact X_ [.int .i64 9,.slice none 0 0,.slice none 0 0,.int .i64 0,.int .i64 0] _ Tryz.results21 rfl hX Tryz.underlying33 rfl Tryz.sizeOutcome5 rfl (HNo1.out HNo.out w2 HK12.out)
 have HY:=Kz hyes
 have hwl6:=web_len HC.out
 have hok:=web_acts HC.out
 have hwr:=rises_code HC.out
 have hr10:Kk.length<=10:=hyes.2.1
 clear hyes hsay HNo1
 go_wp2_with fail
 refine (listOf_any _ a Kj.length cap).mono ?_
 rintro e w3 ⟨rfl,k3⟩
 have K3:=K2.trans k3
 have HK3:=Kz (HK12.out.trans k3)
 clear q2 z2
 have hm1: (Instr.makeMap 96 none).run Tryz.prog w3= .ok (.map (some w3.heap.size)) (w3.alloc (.map #[] 0)):=rfl
 have hm2: (Instr.makeMap 97 none).run Tryz.prog (w3.alloc (.map #[] 0))= .ok (.map (some (w3.heap.size+1))) ((w3.alloc (.map #[] 0)).alloc (.map #[] 0)):=by
  have h: (Instr.makeMap 97 none).run Tryz.prog (w3.alloc (.map #[] 0))= .ok (.map (some (w3.alloc (.map #[] 0)).heap.size)) ((w3.alloc (.map #[] 0)).alloc (.map #[] 0)):=rfl
  rw [World.size_alloc] at h
  exact h
 obtain ⟨W4,hW4⟩: ∃W4,W4= ((w3.alloc (.map #[] 0)).alloc (.map #[] 0)).alloc (.cells #[.slice a Kj.length cap,.func (.func 97) #[] #[],.map (some w3.heap.size),.map (some (w3.heap.size+1)),.int .i64 0,.int .i64 0] 99):= ⟨_,rfl⟩
 have HC4:=Kz (CM.begun hW4)
 go_upto_region 4 with fail
 rw [<-hW4]
 clear hm1 hm2 hW4
 obtain ⟨cb,hcb⟩: ∃cb,cb=w3.heap.size+1+1:= ⟨_,rfl⟩
 obtain ⟨mt,hmt⟩: ∃mt,mt=w3.heap.size+1:= ⟨_,rfl⟩
 obtain ⟨mr,hmr⟩: ∃mr,mr=w3.heap.size:= ⟨_,rfl⟩
 rw [<-hcb] at HC4⊢
 have HC4:Hid (CM Kj w3 W4 cb a cap mr mt 0 (fun _=> none) (fun _=> turn0) (fun _=> False) 0 0):=by rw [hmt,hmr];exact HC4.out
 clear hcb hmt hmr
 have HN3:=Kz (hS.kept K3)
 have HR3:=Kz (hR.kept K3)
 go_wp2_with fail
 go_loopw [24] (fun x24 wr=> ∃(k:Nat) (cl:ByteArray->Option CloM) (sl:List Qz),k<=Kk.length∧x24= .int .i64 (k:Int)∧Hid (CM Kj w3 wr cb a cap mr mt k cl (fun _=> turn0) (fun _=> False) 0 0)∧Hid (CS Kj w3 cl (fun _=> turn0) (fun _=> False) 0 0 sl)∧Hid (WantsX (Q_ Kj) (Qj []) (Kk.take k) (Qj sl))) (fun x24 _=> Kk.length - (intOf x24).toNat)
 case atStart=> exact ⟨0,_,[],Nat.zero_le _,rfl,HC4,Kz (CS.begun Kj w3),Kz (WantsX.start _ _)⟩
 case round=>
  clear HC4
  obtain ⟨k,cl,sl,hk,rfl,HCk,HSk,HWk⟩:=hrel
  by_cases hlt: (k:Int) < (Kk.length:Int)
  ·have hkl:k < Kk.length:=by omega
   obtain ⟨m,hm⟩: ∃m,m=Kk.getD k ByteArray.empty:= ⟨_,rfl⟩
   obtain ⟨b,o,rfl,hb0,hcx⟩:=HR3.out k hkl
   rw [<-hm] at hcx
   have hcg:Kk[k]=m:=by rw [hm];simp [List.getD,hkl]
   have HTk:Hid (Kk.take (k+1)=Kk.take k++ [m]):=by show _=_;rw [List.take_succ_eq_append_getElem hkl,hcg]
   have c0:_=some (Value.string m):= (HCk.out.kw.cell hb0).trans hcx
   have hmz:m.size<=20:=by
    have h:= (HY.out.2.2 k hkl).1.2.1
    rw [<-hm] at h
    exact h
   clear hcx hm hcg
   go_wp2_with fail
   refine (cleanWant_any HCk.out (by omega) hwr HN3.out m (by omega) (by omega)).mono ?_
   rintro e wn ⟨rfl,cln,hCn,hTn,hor⟩
   have HCn:=Kz hCn
   have HSn:Hid (∃sln,CS Kj w3 cln (fun _=> turn0) (fun _=> False) 0 0 sln∧WantsX (Q_ Kj) (Qj []) (Kk.take (k+1)) (Qj sln)):=by
    show∃sln,_
    rw [HTk.out]
    rcases hor with ⟨rfl,hw⟩ | ⟨hA,hno,tn,htn,rfl⟩
    ·exact ⟨sl,HSk.out,HWk.out.no (hw.imp id (fun h=> by rw [HSk.out.env m];simpa using h))⟩
    ·exact ⟨_,HSk.out.want hok hA hno htn,HWk.out.new hA (by rw [HSk.out.env m,hno];rfl) (fun s=> insX_env (r:=Qz.fresh m) HSk.out.good.asc s)⟩
   clear hCn hTn hor c0
   go_wp2_with fail
   go_roundw
   case rel=>
    obtain ⟨sln,h1,h2⟩:=HSn.out
    exact ⟨k+1,cln,sln,by omega,by go_num,HCn,h1,h2⟩
   case measure=> simp [intOf];omega
  ·have hke:k=Kk.length:=by omega
   have HSL:Hid (sl=startL Kj Kk):=by
    refine asc_eq HSk.out.good.asc (startL_good hok Kk).asc ?_
    funext m
    have h:=HWk.out m
    rw [hke,List.take_length] at h
    rw [h,startL_env]
    rfl
   have HX:Hid (CX Kj w3 wr cb a cap mr mt sl k cl sl):= ⟨_,_,_,_,HCk.out,HSk.out,⟨0,.here _⟩,by have:=potL_le23 Kj sl;omega⟩
   clear HWk
   go_wp2_with fail
   refine (cleanAll_any HX.out hok hf hwl6 hwr HN3.out (hFi.kept K3)).mono ?_
   rintro e w5 ⟨rfl,mx5,cl5,sl5,⟨f5,kf5,un5,co5,hC5,hS5,hled,hbud⟩,hend⟩
   have hled2:=hled
   rw [HSL.out] at hled2
   have HAsk:Hid (AskedOk (Q_ Kj) (Qj sl5)):=by
    obtain ⟨j,hj⟩:=hled2
    exact led_asked hok hj
   have HIn:Hid (∀n∈Kk,(cl5 n).isSome=true∨Q_ Kj n=none):=fun n hn=> by
    cases hA:Q_ Kj n with
    | none=> exact .inr rfl
    | some A=>
     obtain ⟨j,hj⟩:=hled2
     have h1: (Qj (startL Kj Kk) n).isSome=true:=by
      rw [startL_env,if_pos ⟨hasN_iff.2 hn,by rw [hA];rfl⟩]
      rfl
     have h2:=led_some hj h1
     rw [hS5.env n] at h2
     exact .inl (by simpa using h2)
   have HNm:Hid (∀n∈Kk,n.size<=20):=fun n hn=> by
    obtain ⟨i,hi,rfl⟩:=List.getElem_of_mem hn
    have h:= (HY.out.2.2 i hi).1.2.1
    simpa [List.getD,hi] using h
   have HFin:Hid (EndX Kj Kk sl5):= ⟨hS5.good,hled2,hend⟩
   have HC5:=Kz hC5
   have HS5:=Kz hS5
   have hm5:mx5<=9000:=by omega
   have K5:=K3.trans hC5.kw
   have HKB5:=Kz (HK3.out.trans hC5.kw)
   clear hled hled2 hbud hend hC5 hS5
   go_wp2_with fail
   refine (cleanOutcome_any HC5.out HS5.out hok hwl6 hwr HN3.out hm5 HAsk.out rd rc Kk hr10 HNm.out HIn.out (hR.kept K5)).mono ?_
   rintro e w6 ⟨o,xa,xf,xc,xe,mid,rfl,hA,hRs,hCh,m1,m2,k6⟩
   have HA:Hid (CleanAns Kj Kk o):= ⟨hA.1,.inl ⟨HC.out,HY.out,sl5,⟨HFin.out,hA.2.1,hA.2.2.1,hA.2.2.2.1,hA.2.2.2.2⟩⟩⟩
   have HRs:=Kz hRs
   have HCh:=Kz hCh
   have hRr:=HRes.out.kept (HKB5.out.trans k6)
   obtain ⟨⟨_,fa0⟩,fb0⟩:=hRr.row.at (i:=0) (by omega)
   obtain ⟨⟨_,fa1⟩,fb1⟩:=hRr.row.at (i:=1) (by omega)
   obtain ⟨⟨_,fa2⟩,fb2⟩:=hRr.row.at (i:=2) (by omega)
   obtain ⟨⟨_,fa3⟩,fb3⟩:=hRr.row.at (i:=3) (by omega)
   obtain ⟨⟨_,fa4⟩,fb4⟩:=hRr.row.at (i:=4) (by omega)
   have hrz:=hRr.lt
   have HRr2:=Kz hRr
   have hz5:w.heap.size+2<=w5.heap.size:=by have h1:=HBs.out;have h2:=HKB5.out.size;omega
   clear hRr hA hRs hCh
   go_wp2_with fail
   have hX:=World.rangeAt_setCells_same w6 (w.heap.size+1) 0 (o.cells xa xf xc xe) (HRr2.out.row.there (o:=0) (m:=5) (Nat.le_refl _))
   refine X_ (o.cells xa xf xc xe) _ Tryz.results21 rfl hX Tryz.underlying33 rfl Tryz.sizeOutcome5 rfl ⟨o,xa,xf,xc,xe,mid,rfl,HA.out, ?_, ?_,by omega, ?_, ?_⟩
   ·exact (ress_in_sets (vs:=o.cells xa xf xc xe) HRs.out (.inl (by omega))).mono (by omega) (Nat.le_refl _)
   ·exact (strs_in_sets (vs:=o.cells xa xf xc xe) HCh.out (.inl (by omega))).mono (Nat.le_refl _) (Nat.le_of_eq (size_setCells (w.heap.size+1) (o.cells xa xf xc xe) 0 w6).symm)
   ·exact Nat.le_trans m2 (Nat.le_of_eq (size_setCells (w.heap.size+1) (o.cells xa xf xc xe) 0 w6).symm)
   ·exact kept_sets (g:=w.heap.size+1) (by omega) (o.cells xa xf xc xe) 0 (K5.trans k6)
theorem lawClean (w:World) (a:Option Addr) (cap:Nat) (l:List Qq) (rd:Option Addr) (rc:Nat) (Kk:List ByteArray) (hl:l.length<=maxLen) (hs: ∀s∈l,s.Fits) (hrl:Kk.length<=maxLen) (hrs: ∀s∈Kk,s.size<=maxLen) (hN:Nodes w a l) (hR:Strs w rd Kk) (hFi:FinishOk w):
  Calls Tryz.prog 4 #[.agg #[.slice a l.length cap],.slice rd Kk.length rc] w fun e w'=> e= .returned (.bool true)∧K_ w w':=by
 obtain ⟨W0,hW0⟩: ∃W0,W0=w.alloc (.cells #[.slice a l.length cap] 24):= ⟨_,rfl⟩
 have k0:K_ w W0:=by rw [hW0];exact (K_.refl _).alloc _
 have HBox:Hid (∀w',K_ W0 w'->(fun w'=> w'.cell? ⟨w.heap.size,0,none⟩=some (.slice a l.length cap)) w'):=fun w' kk=> (box1 (w:=w) (v:= .slice a l.length cap) (t:=24) (w1:=w') (K_.trans (by rw [hW0];exact K_.refl _) kk)).1
 have z0:w.heap.size+1<=W0.heap.size:=by rw [hW0];simp
 go_enter Tryz.func4,Tryz.ntmps4
 go_wp2_with fail
 rw [<-hW0]
 clear hW0
 refine (szWeb_any _ a cap l 1048576 hl hs (hN.kept k0) (by omega) (by omega)).mono ?_
 rintro e w1 ⟨rfl,K1⟩
 by_cases hle: (szNodesD l:Int)<=1048576
 rotate_left
 ·rw [szL_neg (by omega)]
  go_wp2
  go_ret
  exact ⟨rfl,k0.trans K1⟩
 rw [szL_pos hle]
 obtain ⟨hl2,hs2⟩:=small_of_szN (l:=l) (n:=1048576) (by omega)
 go_wp2_with fail
 refine (szStringS_any _ rd rc Kk _ hrl hrs (hR.kept (k0.trans K1)) (by omega) (by omega)).mono ?_
 rintro e w2 ⟨rfl,e2⟩
 have K2:K_ W0 w2:=by rw [e2];exact K1
 clear e2 K1
 by_cases hle2: (szStrs Kk:Int)<=1048576 - szNodesD l
 rotate_left
 ·rw [szL_neg (by omega)]
  go_wp2
  go_ret
  exact ⟨rfl,k0.trans K2⟩
 rw [szL_pos hle2]
 have hr2:Kk.length<=1048576:=by unfold szStrs at hle2;omega
 have hcN:1+ (l.map cntNode).sum+Kk.length<=33554432:=by
  have h1:=cntNodesR_le l
  omega
 have hnn: ¬((1048576:Int) - szNodesD l - szStrs Kk < 0):=by omega
 have HCn:=Kz hcN
 clear hle hle2 hcN
 have b0:=HBox.out _ K2
 have hz2:=K2.size
 go_wp2_with fail
 refine (toWeb_any _ a cap l hl2 hs2 (hN.kept (k0.trans K2))).mono ?_
 rintro e w3 ⟨bw,rfl,hN3,k3,hb1⟩
 have HN3:=Kz hN3
 clear hN3 hb1 hnn b0
 go_wp2_with fail
 refine (toStringS_any _ rd rc Kk hr2 (hR.kept (k0.trans (K2.trans k3)))).mono ?_
 rintro e w4 ⟨c1,rfl,hR4,k4,_⟩
 have HR4:=Kz hR4
 clear hR4
 go_wp2_with fail
 refine (specClean_any _ (some ⟨bw,0,none⟩) l.length l (some ⟨c1,0,none⟩) Kk.length Kk hl2 hs hr2 hrs (HN3.out.kept k4).nodes HR4.out).mono ?_
 rintro e w5 ⟨o,r8,d8,rc8,dc8,rfl,hD5,hS5,hT5,k5⟩
 obtain ⟨W5,hW5⟩: ∃W5,W5=w5.alloc (.cells #[.int .i64 o.code,.slice r8 o.res.length rc8,.slice d8 o.chain.length dc8,.int .i64 o.units,.int .i64 o.cost] 33):= ⟨_,rfl⟩
 have kC5:K_ w5 W5:=by rw [hW5];exact (K_.refl _).alloc _
 have z5:W5.heap.size=w5.heap.size+1:=by rw [hW5];simp
 have K5:K_ W0 W5:=K2.trans ((k3.trans k4).trans (k5.trans kC5))
 have HP8:Hid (∀w',K_ W5 w'->w'.cell? ⟨w5.heap.size,0,none⟩=some (.int .i64 o.code)∧w'.cell? ⟨w5.heap.size,1,none⟩=some (.slice r8 o.res.length rc8)∧w'.cell? ⟨w5.heap.size,2,none⟩=some (.slice d8 o.chain.length dc8)∧w'.cell? ⟨w5.heap.size,3,none⟩=some (.int .i64 o.units)∧w'.cell? ⟨w5.heap.size,4,none⟩=some (.int .i64 o.cost)):=fun w' kk=> fiveCells (w:=w5) (w1:=w') (t:=33) (K_.trans (by rw [hW5];exact K_.refl _) kk)
 have HT:=Kz (hS5.kept kC5)
 have HU:=Kz (hT5.kept kC5)
 have HD5:=Kz hD5
 clear hS5 hT5 hD5 HN3 HR4
 go_upto_region 9 with fail
 rw [<-hW5]
 clear hW5 kC5 k3 k4 k5 K2
 have b0:=HBox.out _ K5
 go_wp2_with fail
 refine (toWeb_in _ a cap l hl2 hs2 (hN.kept (k0.trans K5))).mono ?_
 rintro e w6 ⟨bx,rfl,hNx,k6⟩
 obtain ⟨W6,hW6⟩: ∃W6,W6=w6.alloc (.cells #[.slice (some ⟨bx,0,none⟩) l.length l.length] 37):= ⟨_,rfl⟩
 have kA:K_ w6 W6:=by rw [hW6];exact (K_.refl _).alloc _
 have z6:W6.heap.size=w6.heap.size+1:=by rw [hW6];simp
 have K56:K_ W5 W6:=k6.trans kA
 have HX:Hid (∀w',K_ W6 w'->(fun w'=> w'.cell? ⟨w6.heap.size,0,none⟩=some (.slice (some ⟨bx,0,none⟩) l.length l.length)∧w'.cell? ⟨w.heap.size,0,none⟩=some (.slice a l.length cap)) w'):=fun w' kk=> ⟨(box1 (w:=w6) (w1:=w') (K_.trans (by rw [<-hW6];exact K_.refl _) kk)).1,HBox.out _ ((K5.trans K56).trans kk)⟩
 have HN6:=Kz (hNx.same (kA.same _ _))
 have hz6:=k6.size
 have hz5:=K5.size
 clear b0 hNx kA k6
 go_upto_region 10 with fail
 rw [<-hW6]
 clear hW6
 go_wp2_with fail
 refine (toStringS_in _ rd rc Kk hr2 (hR.kept (k0.trans (K5.trans K56)))).mono ?_
 rintro e w7 ⟨bu,rfl,hU7,k7⟩
 have HR7:=Kz hU7
 have hz7:=k7.size
 have K57:K_ W5 w7:=K56.trans k7
 have HN7:=Kz (HN6.out.same (k7.same _ _))
 obtain ⟨x0,b0⟩:=HX.out w7 k7
 clear hU7 HN6
 go_wp2_with fail
 refine (implClean_any w7 (some ⟨bx,0,none⟩) l.length l (some ⟨bu,0,none⟩) Kk.length Kk hl2 hs hrl (Nat.le_refl _) hrs HN7.out.nodes HR7.out.strs (hFi.kept (k0.trans (K5.trans K57)))).mono ?_
 rintro e w8 ⟨o2,gr,gd,grc,gdc,mid8,rfl,hD8,hI8,hJ8,n1,n2,k8⟩
 obtain rfl:o2=o:=CleanAns.one HD5.out hD8
 have hUl:=hD8.1.1
 have hVl:=hD8.1.2
 obtain ⟨W8,hW8⟩: ∃W8,W8=w8.alloc (.cells #[.int .i64 o2.code,.slice gr o2.res.length grc,.slice gd o2.chain.length gdc,.int .i64 o2.units,.int .i64 o2.cost] 33):= ⟨_,rfl⟩
 have kC:K_ w8 W8:=by rw [hW8];exact (K_.refl _).alloc _
 have z8':W8.heap.size=w8.heap.size+1:=by rw [hW8];simp
 have z8:=k8.size
 have HGB:Hid (∀w',K_ W8 w'->w'.cell? ⟨w8.heap.size,0,none⟩=some (.int .i64 o2.code)∧w'.cell? ⟨w8.heap.size,1,none⟩=some (.slice gr o2.res.length grc)∧w'.cell? ⟨w8.heap.size,2,none⟩=some (.slice gd o2.chain.length gdc)∧w'.cell? ⟨w8.heap.size,3,none⟩=some (.int .i64 o2.units)∧w'.cell? ⟨w8.heap.size,4,none⟩=some (.int .i64 o2.cost)):=fun w' kk=> fiveCells (w:=w8) (w1:=w') (t:=33) (K_.trans (by rw [hW8];exact K_.refl _) kk)
 have HI8:=Kz (hI8.same (kC.same _ _))
 have HJ8:=Kz (hJ8.same (kC.same _ _))
 have K78:=k8.trans kC
 clear hI8 hJ8 hD8 x0 b0
 have hml:o2.res.length<=maxLen:=by unfold maxLen;omega
 have hmv:o2.chain.length<=maxLen:=by unfold maxLen;omega
 go_upto_region 12 with fail
 rw [<-hW8]
 clear hW8 kC k8
 obtain ⟨g0,g1,g2,g3,g4⟩:=HGB.out W8 (K_.refl _)
 obtain ⟨p0,p1,p2,p3,p4⟩:=HP8.out W8 (K57.trans K78)
 go_wp2_with fail
 refine (eqOutcome_yes _ gr r8 gd d8 grc rc8 gdc dc8 o2 hml hmv HI8.out.ress (HT.out.kept (K57.trans K78)) HJ8.out.strs (HU.out.kept (K57.trans K78))).mono ?_
 rintro e w9 ⟨rfl,k9⟩
 have K79:=K78.trans k9
 have HX9:Hid (∀w',K_ w9 w'->(fun w'=> w'.cell? ⟨w6.heap.size,0,none⟩=some (.slice (some ⟨bx,0,none⟩) l.length l.length)∧w'.cell? ⟨w.heap.size,0,none⟩=some (.slice a l.length cap)) w'):=fun w' kk=> HX.out w' (k7.trans (K79.trans kk))
 have KW9:=k0.trans ((K5.trans K57).trans K79)
 have HN9:=Kz (HN7.out.same (K79.same _ _))
 have HR9:=Kz (HR7.out.same (K79.same _ _))
 have HI9:=Kz (HI8.out.same (k9.same _ _))
 have HJ9:=Kz (HJ8.out.same (k9.same _ _))
 obtain ⟨x0,b0⟩:=HX9.out w9 (K_.refl _)
 clear HN7 HR7 HI8 HJ8 g0 g1 g2 g3 g4 p0 p1 p2 p3 p4
 go_upto_region 14 with fail
 refine Qx.rg 4 HX9.out fun wd KD Z_=> ?_
 refine Qx.tk 0 Z_ ?_
 refine Qx.tk 1 Z_ ?_
 refine Qx.nx 2 (fun K hK=> ?_)
 rw [if_pos (by rfl)]
 go_simp
 go_at_call 8
 refine (toWeb_any _ a cap l hl2 hs2 (hN.kept (KW9.trans KD))).mono ?_
 rintro e wq ⟨bq,rfl,hNq,kq,hbq⟩
 refine hK.out _ _ (fun _=> HX9.out _ (KD.trans kq)) ?_
 clear hK K
 try simp only [Act.put,upA,upB,upC]
 refine Qx.nx 3 (fun K hK=> ?_)
 rw [if_pos (by rfl)]
 go_simp
 go_at_call 12
 refine (eqWeb_yes _ (some ⟨bx,0,none⟩) (some ⟨bq,0,none⟩) l.length l.length l hl hs (HN9.out.same ((KD.trans kq).same _ _)).nodes hNq.nodes).mono ?_
 rintro e w10 ⟨rfl,k10⟩
 refine hK.out _ _ (fun _=> HX9.out _ ((KD.trans kq).trans k10)) ?_
 clear hK K
 try simp only [Act.put,upA,upB,upC]
 refine Qx.nx 4 (fun K hK=> ?_)
 go_simp
 refine hK.out _ _ (fun h=> absurd rfl h) ?_
 clear hK K
 try simp only [Act.put,upA,upB,upC]
 refine Qx.dn ?_
 have K9b:= (KD.trans kq).trans k10
 clear KD kq k10 x0 b0 hNq hbq
 go_wp2_with fail
 refine (toStringS_any _ rd rc Kk hr2 (hR.kept (KW9.trans K9b))).mono ?_
 rintro e w11 ⟨d1,rfl,hR11,k11,_⟩
 go_wp2_with fail
 refine (eqStringS_yes _ (some ⟨bu,0,none⟩) (some ⟨d1,0,none⟩) Kk.length Kk.length Kk hrl (HR9.out.same ((K9b.trans k11).same _ _)).strs hR11).mono ?_
 rintro e w12 ⟨rfl,k12⟩
 have K9c:K_ w9 w12:= (K9b.trans k11).trans k12
 have K7c:=K79.trans K9c
 clear hR11 k11 k12 K9b
 obtain ⟨x0,b0⟩:=HX.out w12 (k7.trans K7c)
 have HN12:=Kz (HN9.out.same (K9c.same _ _))
 have HR12:=Kz (HR9.out.same (K9c.same _ _))
 have HI12:=Kz (HI9.out.same (K9c.same _ _))
 have HJ12:=Kz (HJ9.out.same (K9c.same _ _))
 have K8c:K_ W8 w12:=k9.trans K9c
 have z8c:=K8c.size
 have HG12b:=Kz (HGB.out w12 K8c)
 have z12:=K7c.size
 have K512:=K57.trans K7c
 have hcn:=HCn.out
 clear HN9 HR9 HI9 HJ9 HX9 K9c
 go_wp2_with fail
 refine (markWeb_any _ W5.heap.size w6.heap.size (some ⟨bx,0,none⟩) l.length l 1 (by omega) (by omega) HN12.out).mono ?_
 rintro e w13 ⟨rfl,_,kb13⟩
 have K513:K_ W5 w13:=kb13.kept K512 (Nat.le_refl _)
 have z13:=kb13.size
 have HGc13:Hid (∀o,w13.cell? ⟨w8.heap.size,o,none⟩=w12.cell? ⟨w8.heap.size,o,none⟩):=fun o=> World.cell?_of_block (w:=w12) (kb13.block _ (by show w8.heap.size < _;omega) (.inr (by show w6.heap.size<=w8.heap.size;omega)))
 have HR13:=Kz (HR12.out.same (kb13.same (l2:=W6.heap.size) (h2:=w7.heap.size) (by omega)))
 have HI13:=Kz (HI12.out.same (kb13.same (l2:=w7.heap.size) (h2:=mid8) (by omega)))
 have HJ13:=Kz (HJ12.out.same (kb13.same (l2:=mid8) (h2:=w8.heap.size) (by omega)))
 obtain ⟨kn,hkn⟩: ∃kn,kn=1+ (l.map cntNode).sum:= ⟨_,rfl⟩
 rw [<-hkn]
 have hkn0:0 < kn:=by omega
 have hkn1:kn+Kk.length<=33554432:=by omega
 clear hkn x0 b0 kb13 HN12 HR12 HI12 HJ12
 go_wp2_with fail
 refine (markStringS_any _ W6.heap.size w7.heap.size (some ⟨bu,0,none⟩) Kk.length Kk kn hkn0 (by omega) HR13.out).mono ?_
 rintro e w14 ⟨rfl,_,kb14⟩
 have K514:K_ W5 w14:=kb14.kept K513 (by have:=K56.size;omega)
 have z14:=kb14.size
 have HGc14:Hid (∀o,w14.cell? ⟨w8.heap.size,o,none⟩=w12.cell? ⟨w8.heap.size,o,none⟩):=fun o=> (World.cell?_of_block (w:=w13) (kb14.block _ (by show w8.heap.size < _;omega) (.inr (by show w7.heap.size<=w8.heap.size;omega)))).trans (HGc13.out o)
 have HI14:=Kz (HI13.out.same (kb14.same (l2:=w7.heap.size) (h2:=mid8) (by omega)))
 have HJ14:=Kz (HJ13.out.same (kb14.same (l2:=mid8) (h2:=w8.heap.size) (by omega)))
 obtain ⟨km,hkm⟩: ∃km,km=kn+Kk.length:= ⟨_,rfl⟩
 rw [<-hkm]
 have hkm0: ¬((km:Int) < 0):=by omega
 have g0:= (HGc14.out 0).trans HG12b.out.1
 have g1:= (HGc14.out 1).trans HG12b.out.2.1
 have g2:= (HGc14.out 2).trans HG12b.out.2.2.1
 have g3:= (HGc14.out 3).trans HG12b.out.2.2.2.1
 have g4:= (HGc14.out 4).trans HG12b.out.2.2.2.2
 obtain ⟨p0,p1,p2,p3,p4⟩:=HP8.out w14 K514
 clear hkm kb14 HR13 HI13 HJ13 hkn0 hkn1 hcn HCn HGc13 HGc14 HG12b
 go_wp2_with fail
 refine (eqOutcome_yes _ gr r8 gd d8 grc rc8 gdc dc8 o2 hml hmv HI14.out.ress (HT.out.kept K514) HJ14.out.strs (HU.out.kept K514)).mono ?_
 rintro e w15 ⟨rfl,k15⟩
 have K515:=K514.trans k15
 have HI15:=Kz (HI14.out.same (k15.same _ _))
 have HJ15:=Kz (HJ14.out.same (k15.same _ _))
 have z15:=k15.size
 have gl:w8.heap.size < w14.heap.size:=by omega
 have h0:= (k15.cell gl).trans g0
 have h1:= (k15.cell gl).trans g1
 have h2:= (k15.cell gl).trans g2
 have h3:= (k15.cell gl).trans g3
 have h4:= (k15.cell gl).trans g4
 clear HI14 HJ14 k15 g0 g1 g2 g3 g4 p0 p1 p2 p3 p4
 go_wp2_with fail
 refine (markOutcome_any _ w7.heap.size mid8 w8.heap.size gr gd grc gdc o2 1 (by omega) (by omega) n1 n2 (by omega) HI15.out HJ15.out).mono ?_
 rintro e w16 ⟨rfl,hI16,hJ16,kb16⟩
 have K516:K_ W5 w16:=kb16.kept K515 (by have:=K57.size;omega)
 have z16:=kb16.size
 have gk: ∀o,w16.cell? ⟨w8.heap.size,o,none⟩=w15.cell? ⟨w8.heap.size,o,none⟩:=fun o=> World.cell?_of_block (w:=w15) (kb16.block _ (by show w8.heap.size < _;omega) (.inr (Nat.le_refl _)))
 have i0:= (gk 0).trans h0
 have i1:= (gk 1).trans h1
 have i2:= (gk 2).trans h2
 have i3:= (gk 3).trans h3
 have i4:= (gk 4).trans h4
 have gl16:w8.heap.size < w16.heap.size:=by omega
 obtain ⟨M,hM⟩: ∃M,M=1+o2.res.length * 4+o2.chain.length:= ⟨_,rfl⟩
 rw [<-hM]
 have hMM: ((M:Int) != (M:Int))=false:=by simp
 have hM0: ¬((M:Int) < 0):=by omega
 have HI16:=Kz hI16
 have HJ16:=Kz hJ16
 have HM:=Kz hM
 clear hM hI16 hJ16 kb16 HI15 HJ15 h0 h1 h2 h3 h4 gk
 go_wp2_with fail
 refine (heldOutcome_yes _ gr gd grc gdc o2 1 (by omega) (by omega) HI16.out.ress HJ16.out.strs).mono ?_
 rintro e w17 ⟨rfl,k17⟩
 rw [<-HM.out]
 have K517:=K516.trans k17
 have HI17:=Kz (HI16.out.same (k17.same _ _))
 have HJ17:=Kz (HJ16.out.same (k17.same _ _))
 have KW17:=k0.trans (K5.trans K517)
 have HGB17:Hid (∀w',K_ w17 w'->w'.cell? ⟨w8.heap.size,0,none⟩=some (.int .i64 o2.code)∧w'.cell? ⟨w8.heap.size,1,none⟩=some (.slice gr o2.res.length grc)∧w'.cell? ⟨w8.heap.size,2,none⟩=some (.slice gd o2.chain.length gdc)∧w'.cell? ⟨w8.heap.size,3,none⟩=some (.int .i64 o2.units)∧w'.cell? ⟨w8.heap.size,4,none⟩=some (.int .i64 o2.cost)):=fun w' kk=> ⟨((k17.trans kk).cell gl16).trans i0,((k17.trans kk).cell gl16).trans i1,((k17.trans kk).cell gl16).trans i2,((k17.trans kk).cell gl16).trans i3,((k17.trans kk).cell gl16).trans i4⟩
 have b0:=HBox.out w17 (K5.trans K517)
 clear k17 HI16 HJ16 i0 i1 i2 i3 i4 gl16
 go_wp2_with fail
 refine (toWeb_any _ a cap l hl2 hs2 (hN.kept KW17)).mono ?_
 rintro e w18 ⟨bw2,rfl,hN18,k18,hb18⟩
 have HN18:=Kz hN18
 clear hN18 hb18 b0
 go_wp2_with fail
 refine (toStringS_any _ rd rc Kk hr2 (hR.kept (KW17.trans k18))).mono ?_
 rintro e w19 ⟨c19,rfl,hR19,k19,_⟩
 have HR19:=Kz hR19
 clear hR19
 go_wp2_with fail
 refine (implClean_any _ (some ⟨bw2,0,none⟩) l.length l (some ⟨c19,0,none⟩) Kk.length Kk hl2 hs hrl (Nat.le_refl _) hrs (HN18.out.kept k19).nodes HR19.out (hFi.kept (KW17.trans (k18.trans k19)))).mono ?_
 rintro e w20 ⟨o3,r9,d9,rc9,dc9,mid9,rfl,hD9,hI9,hJ9,_,_,k20⟩
 obtain rfl:o2=o3:=CleanAns.one hD9 HD5.out
 obtain ⟨W20,hW20⟩: ∃W20,W20=w20.alloc (.cells #[.int .i64 o2.code,.slice r9 o2.res.length rc9,.slice d9 o2.chain.length dc9,.int .i64 o2.units,.int .i64 o2.cost] 33):= ⟨_,rfl⟩
 have kC20:K_ w20 W20:=by rw [hW20];exact (K_.refl _).alloc _
 have K17c:K_ w17 W20:= (k18.trans k19).trans (k20.trans kC20)
 have HS9:=Kz (hI9.ress.kept kC20)
 have HT9:=Kz (hJ9.strs.kept kC20)
 have HH:Hid (W20.cell? ⟨w20.heap.size,0,none⟩=some (.int .i64 o2.code)∧W20.cell? ⟨w20.heap.size,1,none⟩=some (.slice r9 o2.res.length rc9)∧W20.cell? ⟨w20.heap.size,2,none⟩=some (.slice d9 o2.chain.length dc9)∧W20.cell? ⟨w20.heap.size,3,none⟩=some (.int .i64 o2.units)∧W20.cell? ⟨w20.heap.size,4,none⟩=some (.int .i64 o2.cost)):=fiveCells (w:=w20) (w1:=W20) (t:=33) (by rw [hW20];exact K_.refl _)
 have K520:=K517.trans K17c
 have HI20:=Kz (HI17.out.same (K17c.same _ _))
 have HJ20:=Kz (HJ17.out.same (K17c.same _ _))
 clear hI9 hJ9 hD9 HI17 HJ17 k18 k19 k20 kC20 HN18 HR19
 go_upto_region 32 with fail
 rw [<-hW20]
 clear hW20
 obtain ⟨p0,p1,p2,p3,p4⟩:=HP8.out W20 K520
 obtain ⟨q0,q1,q2,q3,q4⟩:=HH.out
 go_wp2_with fail
 refine (eqOutcome_yes _ r9 r8 d9 d8 rc9 rc8 dc9 dc8 o2 hml hmv HS9.out (HT.out.kept K520) HT9.out (HU.out.kept K520)).mono ?_
 rintro e w21 ⟨rfl,k21⟩
 have HI21:=Kz (HI20.out.same (k21.same _ _))
 have HJ21:=Kz (HJ20.out.same (k21.same _ _))
 have K521:=K520.trans k21
 obtain ⟨g0,g1,g2,g3,g4⟩:=HGB17.out w21 (K17c.trans k21)
 clear k21 HI20 HJ20 HS9 HT9 q0 q1 q2 q3 q4 p0 p1 p2 p3 p4 HH
 go_wp2_with fail
 refine (heldOutcome_yes _ gr gd grc gdc o2 1 (by omega) (by omega) HI21.out.ress HJ21.out.strs).mono ?_
 rintro e w22 ⟨rfl,k22⟩
 rw [<-HM.out]
 have KF:=k0.trans (K5.trans (K521.trans k22))
 clear k22 g0 g1 g2 g3 g4
 go_wp2
 go_ret
 exact ⟨rfl,KF⟩
