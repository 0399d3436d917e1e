import Derived.Test.YteknkpfbjapoiaaGreatDoorKCLead
import Derived.Deep.WholeRow
import Derived.Test.YteknkpfbjapoiaaGreatDoorKVFar
namespace Go.Proofs.YteknkpfbjapoiaaGreatDoor
open Go.RowKit
theorem wpList_store_new {P:Program} {ops:Array Oper} {rest:List Oper} {op:Oper} {a:Act} {w0:World} {Q:Exit→Act→World→Prop} (hgd:op.guard=none) (ty:TypeId) (x y:Operand) (ho:op.op= .store ty x y) (c c':Array Value) (hx:a.eval x= .pointer (some ⟨w0.heap.size,0,none⟩)) (hy:a.eval y= .agg c') (hi: (P.info? ty).map (·.size)=some c'.size) (hs:c.size=c'.size) (h1:c'.all (·.oneCell')=true)
  (h:wpList P ops Q rest (a.put op.dst undef) (w0.alloc (.cells c' ty))):wpList P ops Q (op :: rest) a (w0.alloc (.cells c ty)):=
 wpList_plain hgd fun _ hK=> by
  unfold Oper.wp execOp
  simp only [ho,hx,hy,Instr.storeAt,Instr.sureAddr,Sem.run_bind,Sem.run_pure,Result.andThen_ok,run_storeVar_new w0 ty c c' hi hs h1]
  exact hK _ _ h
theorem AwayM.new (w:World) (A:Nat→Nat):AwayM (w.alloc (.cells (awayV A) 155)) w.heap.size A:=by
 have h:=World.rowIs_alloc w (awayV A) 155 (fun i=> natV (A i)) (fun i hi=> by
  rw [awayV_size] at hi
  simp [awayV,hi])
 rw [awayV_size] at h
 exact h
def OnCirc (R:Nat→Nat→Prop) (q:Nat):Prop:= ∃m,SizeP R q m
def StuckEnd (R:Nat→Nat→Prop) (n:Nat) (w w':World) (e:Ending):Prop:= ∃(av:Option Addr) (cv:Nat) (l cs:List Nat),e= .returned (.slice av l.length cv)∧Nats w' av l∧l.length≤60∧l.Pairwise (· < ·)∧(∀q,q∈cs↔q < n∧OnCirc R q)∧(∀p,p∈l↔p < n∧LeadsTo R cs p)∧Kept w w'
set_option maxRecDepth 100000 in
set_option maxHeartbeats 6400000 in
theorem stuck_any (w:World) (na:Option Addr) (nc:Nat) (nm:List ByteArray) (nb mb:Nat) (need back:Nat→List Nat) (E:ByteArray→ByteArray→Prop) (M:Nat) (hn:nm.length≤60) (hM:M≤60000000) (hV:NeedV w na nm nb mb need back) (hR:NeedR E nm M need back):
  Calls Tryz.prog 55 #[.agg #[.slice na nm.length nc,.slice (some ⟨nb,0,none⟩) nm.length nm.length,.slice (some ⟨mb,0,none⟩) nm.length nm.length]] w fun e w'=> StuckEnd (EdgeP E nm) nm.length w w' e:=by
 obtain ⟨W1,hW1⟩: ∃W1,W1=w.alloc (.cells #[.slice na nm.length nc,.slice (some ⟨nb,0,none⟩) nm.length nm.length,.slice (some ⟨mb,0,none⟩) nm.length nm.length] 81):= ⟨_,rfl⟩
 have k1:Kept w W1:=by rw [hW1];exact (Kept.refl _).alloc _
 have HB:Hid (∀u,Kept W1 u→u.cell? ⟨w.heap.size,0,none⟩=some (.slice na nm.length nc)∧u.cell? ⟨w.heap.size,1,none⟩=some (.slice (some ⟨nb,0,none⟩) nm.length nm.length)∧u.cell? ⟨w.heap.size,2,none⟩=some (.slice (some ⟨mb,0,none⟩) nm.length nm.length)):=fun u k=> by
  have z1:w.heap.size < W1.heap.size:=by rw [hW1];simp
  have h:=range_new w #[.slice na nm.length nc,.slice (some ⟨nb,0,none⟩) nm.length nm.length,.slice (some ⟨mb,0,none⟩) nm.length nm.length] 81
  rw [←hW1] at h
  exact ⟨(k.cell z1).trans (h 0 _ rfl),(k.cell z1).trans (h 1 _ rfl),(k.cell z1).trans (h 2 _ rfl)⟩
 go_enter Tryz.func55,Tryz.ntmps55
 go_upto_region 1 with fail
 rw [←hW1]
 clear hW1
 obtain ⟨s0,s1,s2⟩:=HB.out _ (Kept.refl _)
 go_wp2_with fail
 clear s0 s1 s2
 go_loopw [3,10] (fun x3 x10 wr=> ∃(i:Nat) (cs:List Nat) (av:Option Addr) (cv:Nat),i≤nm.length∧x10= .int .i64 (i:Int)∧x3= .slice av cs.length cv∧cs.length≤i∧Hid (wr.ownsRow W1.heap.size 3 1 (.slice av cs.length cv) cs.length (cs.map natV))∧Hid (cs.Nodup)∧Hid (∀q,q∈cs↔q < i∧OnCirc (EdgeP E nm) q)∧Kept W1 wr) (fun _ x10 _=> nm.length - (intOf x10).toNat)
 case atStart=> exact ⟨0,[],none,0,Nat.zero_le _,rfl,rfl,Nat.zero_le _,World.ownsRow_nil _ _ _ _,hide List.nodup_nil,hide (fun q=> by simp),Kept.refl _⟩
 case round=>
  obtain ⟨i,cs,av,cv,hi,rfl,rfl,hcl,HO,HNd,HC,Kr⟩:=hrel
  obtain ⟨s0,s1,s2⟩:=HB.out _ Kr
  by_cases hil:i < nm.length
  rotate_left
  ·have hnl: ¬((i:Int) < (nm.length:Int)):=by omega
   have HIe:Hid (i=nm.length):=by show i=nm.length;omega
   have HNt:Hid (Nats wr av cs):=by
    obtain ⟨a9,c9,e9,_,h9⟩:=owned_nats HO.out rfl
    simp only [Value.slice.injEq,true_and] at e9
    rw [←e9.1] at h9
    exact h9
   have HC2:Hid (∀q,q∈cs↔q < nm.length∧OnCirc (EdgeP E nm) q):=fun q=> by rw [HC.out,HIe.out]
   clear hil
   go_wp2_with fail
   refine (leadingTo_any wr na nc nm nb mb need back E M av cv cs (fun p hp=> ((HC2.out p).1 hp).1) HNd.out hn hM (hV.kept (k1.trans Kr)) hR HNt.out).mono ?_
   rintro e w2 ⟨la,lc,l,rfl,hNl,hl60,hlp,hlm,k2⟩
   have HNl:=hide hNl
   have HLp:=hide hlp
   have HLm:=hide hlm
   clear hNl hlp hlm s0 s1 s2
   go_wp2_with fail
   go_ret
   exact ⟨la,lc,l,cs,rfl,HNl.out,hl60,HLp.out,HC2.out,HLm.out,k1.trans (Kr.trans k2)⟩
  have hii: (i:Int) < (nm.length:Int):=by omega
  go_wp2_with fail
  refine (distances_any wr na nc nm nb mb need back E M i hil hn hM (hV.kept (k1.trans Kr)) hR).mono ?_
  rintro e w2 ⟨A,size,rfl,hD,hs60,k2⟩
  have HD:=hide hD
  obtain ⟨az,haz⟩: ∃az,az=awayV A:= ⟨_,rfl⟩
  have HI:Hid ((Tryz.prog.info? 155).map (·.size)=some az.size):=by rw [haz,awayV_size];exact Tryz.size60
  have HSz:Hid ((Array.replicate 60 (Value.int .i64 0)).size=az.size):=by show _=_;rw [haz,awayV_size];simp
  have HOn:Hid (az.all (·.oneCell')=true):=by rw [haz];exact awayV_one A
  obtain ⟨WA,hWA⟩: ∃WA,WA=w2.alloc (.cells az 155):= ⟨_,rfl⟩
  have kA:Kept wr WA:=by rw [hWA];exact k2.trans ((Kept.refl _).alloc _)
  rw [←haz]
  have HWA:=hide hWA
  have HOA:=hide (ownsRow_kept' HO.out kA)
  have KA:=Kr.trans kA
  clear haz hWA hD s0 s1 s2 k2 HO
  go_upto_region 6 with (rw [z60];refine wpList_store_new rfl 155 (.tmp 5) (.tmp 17) rfl _ az rfl rfl HI.out HSz.out HOn.out ?_)
  rw [←HWA.out]
  by_cases hs0:size=0
  ·have hng: ¬((0:Int) < (size:Int)):=by omega
   have HC2:Hid (∀q,q∈cs↔q < i+1∧OnCirc (EdgeP E nm) q):=fun q=> by
    rw [HC.out]
    constructor
    ·rintro ⟨h1,h2⟩;exact ⟨by omega,h2⟩
    ·rintro ⟨h1,m,h2⟩
     by_cases e:q=i
     ·subst e;exact absurd h2 (HD.out.no hs0 m)
     ·exact ⟨by omega,m,h2⟩
   clear hs0
   go_wp2_with fail
   go_roundw
   case rel=> exact ⟨i+1,cs,av,cv,by omega,by go_num,rfl,by omega,HOA,HNd,HC2,KA⟩
   case measure=> simp [intOf];omega
  have hsg: (0:Int) < (size:Int):=by omega
  have HC2:Hid (∀q,q∈cs++ [i]↔q < i+1∧OnCirc (EdgeP E nm) q):=fun q=> by
   rw [List.mem_append,List.mem_singleton,HC.out]
   constructor
   ·rintro (⟨h1,h2⟩ | rfl)
    ·exact ⟨by omega,h2⟩
    ·exact ⟨by omega,size,(HD.out.yes hs0).1⟩
   ·rintro ⟨h1,h2⟩
    by_cases e:q=i
    ·exact .inr e
    ·exact .inl ⟨by omega,h2⟩
  have HN2:Hid ((cs++ [i]).Nodup):=by
   show (cs++ [i]).Nodup
   rw [List.nodup_append]
   exact ⟨HNd.out,by simp,fun a ha b hb e=> by rw [List.mem_singleton] at hb;rw [e,hb] at ha;have:= ((HC.out i).1 ha).1;omega⟩
  clear hs0
  obtain ⟨ic,hc0,hc1,hc2,hc3⟩:=info_parts Tryz.infoIntL
  have ka:Kept WA (WA.alloc (.cells #[.int .i64 (i:Int)] 3)):= (Kept.refl _).alloc _
  have HOw:=hide (ownsRow_kept' HOA.out ka)
  have HKK:=hide (KA.trans ka)
  have hbz:W1.heap.size≤(WA.alloc (.cells #[.int .i64 (i:Int)] 3)).heap.size:=HKK.out.size
  have HNw:Hid (∀j u,([.int .i64 (i:Int)]:List Value)[j]? =some u→(WA.alloc (.cells #[.int .i64 (i:Int)] 3)).cell? ((⟨WA.heap.size,0,none⟩:Addr).add j)=some u):=fun j u hu=> by rw [Addr.add_mid];exact range_new WA #[.int .i64 (i:Int)] 3 j u hu
  have HOne:Hid (∀u∈([.int .i64 (i:Int)]:List Value),u.oneCell'=true):=fun u hu=> by simp only [List.mem_cons,List.not_mem_nil,or_false] at hu;subst hu;rfl
  clear ka
  go_wp2_with (at_builtin;refine wpList_append_own _ rfl (.tmp 21) (.tmp 23) 84 rfl W1.heap.size 3 ic _ 1 8 Tryz.underlying84 hc0 hc1 hc2 hc3 rfl (by decide) (.slice av cs.length cv) cs.length (cs.map natV) rfl HOw.out ⟨WA.heap.size,0,none⟩ 1 1 [.int .i64 (i:Int)] rfl rfl HNw.out HOne.out (by unfold maxLen;omega) (by omega) hbz ?_;intro v' w6 hown2 hgr _;have KP:=kept_of_grown HKK.out (Nat.le_refl _) HOw.out hgr;have HP2:=hide hown2;obtain ⟨av2,cv2,rfl⟩:=own_slice hown2;clear hown2 hgr)
  go_roundw
  case rel=> exact ⟨i+1,cs++ [i],av2,cv2,by omega,by go_num,by rw [List.length_append];rfl,by rw [List.length_append];simp;omega,hide (by rw [List.length_append,List.map_append];exact HP2.out),HN2,HC2,KP⟩
  case measure=> simp [intOf];omega
end Go.Proofs.YteknkpfbjapoiaaGreatDoor
namespace Go.Proofs.YteknkpfbjapoiaaGreatDoor
theorem size_of_walk {R:Nat→Nat→Prop} {t:Nat}: ∀n,1≤n→WalkN R n t t→∃m,SizeP R t m:=by
 intro n
 induction n using Nat.strongRecOn with
 | ind n ih=>
  intro hn hw
  by_cases hs: ∃m,1≤m∧m < n∧WalkN R m t t
  ·obtain ⟨m,h1,h2,h3⟩:=hs
   exact ih m h2 h1 h3
  ·exact ⟨n,hn,hw,fun m h1 h2 h3=> hs ⟨m,h1,h2,h3⟩⟩
theorem stuck_names {E:ByteArray→ByteArray→Prop} {nm names:List ByteArray} (hP:Places E nm) (hsub: ∀s∈nm,s∈names) {l cs:List Nat} (hcs: ∀q,q∈cs↔q < nm.length∧OnCirc (EdgeP E nm) q) (hl: ∀p,p∈l↔p < nm.length∧LeadsTo (EdgeP E nm) cs p) (hpw:l.Pairwise (· < ·)):StuckL E names (l.map (nameOf nm)):=by
 refine ⟨?_,fun s=> ?_⟩
 ·unfold AscB
  rw [List.pairwise_map]
  exact hpw.imp_of_mem fun {p q} hp hq hlt=> by
   have h1:= ((hl p).1 hp).1
   have h2:= ((hl q).1 hq).1
   rw [nameOf_at h1,nameOf_at h2]
   exact (hP.less h1 h2).2 hlt
 ·rw [List.mem_map]
  constructor
  ·rintro ⟨p,hp,rfl⟩
   obtain ⟨h1,c,hc,n,hw⟩:= (hl p).1 hp
   obtain ⟨h2,m,hm1,hm2,_⟩:= (hcs c).1 hc
   rw [nameOf_at h1]
   obtain ⟨h3,hw'⟩:=walk_to hw h1
   obtain ⟨h4,hw2⟩:=walk_to hm2 h3
   obtain ⟨k,rfl⟩: ∃k,m=k+1:= ⟨m - 1,by omega⟩
   exact ⟨hsub _ (List.getElem_mem h1),nm[c],n,hw',k,hw2⟩
  ·rintro ⟨_,c,n,hw,m,hm⟩
   obtain ⟨b,hb,_⟩:=hm.first
   obtain ⟨q,hq,rfl⟩:=hP.place hb
   have hs: ∃(p:Nat) (hp:p < nm.length),nm[p]=s:=by
    cases n with
    | zero=> exact ⟨q,hq,hw.zero.symm⟩
    | succ n=>
     obtain ⟨d,hd,_⟩:=hw.first
     exact hP.place hd
   obtain ⟨p,hp,rfl⟩:=hs
   refine ⟨p,(hl p).2 ⟨hp,q,(hcs q).2 ⟨hq,size_of_walk (m+1) (by omega) (hP.back hq hq hm)⟩,n,hP.back hp hq hw⟩,nameOf_at hp⟩
end Go.Proofs.YteknkpfbjapoiaaGreatDoor
