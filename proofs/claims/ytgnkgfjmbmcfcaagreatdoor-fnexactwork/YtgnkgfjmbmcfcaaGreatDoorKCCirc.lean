import Derived.Test.YtgnkgfjmbmcfcaaGreatDoorKCDist
import Derived.Deep.WholeRow
set_option maxRecDepth 100000
set_option maxHeartbeats 25600000
namespace Go.Proofs.YtgnkgfjmbmcfcaaGreatDoor
open Go.RowKit
theorem wpList_store_new {P:Program} {ops:Array Oper} {rest:List Oper} {op:Oper} {a:Act} {w0:World} {Q:Exit->Act->World->Prop} (hgd:op.guard=none) (ty:TypeId) (x y:Operand) (ho:op.op= .store ty x y) (c c':Array Value) (hx:a.eval x= .pointer (some ⟨w0.heap.size,0,none⟩)) (hy:a.eval y= .agg c') (hi: (P.info? ty).map (·.size)=some c'.size) (hs:c.size=c'.size) (h1:c'.all (·.oneCell')=true)
  (h:wpList P ops Q rest (a.put op.dst undef) (w0.alloc (.cells c' ty))):wpList P ops Q (op :: rest) a (w0.alloc (.cells c ty)):=
 wpList_plain hgd fun _ hK=> by
  unfold Oper.wp execOp
  simp only [ho,hx,hy,Instr.storeAt,Instr.sureAddr,Sem.run_bind,Sem.run_pure,Result.andThen_ok,run_storeVar_new w0 ty c c' hi hs h1]
  exact hK _ _ h
theorem Tryz.infoIntD : (Tryz.prog.info? 3).map (fun i=> (i.zero,i.size,i.bytes))=some (some (.int .i64 0),1,8):=by kernel_rfl
theorem AwayM.new (w:World) (A:Nat->Nat):AwayM (w.alloc (.cells (awayV A) 261)) w.heap.size A:=by
 have h:=World.rowIs_alloc w (awayV A) 261 (fun i=> natV (A i)) (fun i hi=> by
  rw [awayV_size] at hi
  simp [awayV,hi])
 rw [awayV_size] at h
 exact h
theorem near_any (w:World) (ab lb:Nat) (A:Nat->Nat) (left p:Nat) (hp:p < 60) (hA:AwayM w ab A) (hl:w.cell? ⟨lb,0,none⟩=some (.int .i64 (left:Int))):
  Calls Tryz.prog 190 #[.int .i64 (p:Int),.pointer (some ⟨ab,0,none⟩),.pointer (some ⟨lb,0,none⟩)] w fun e w'=> e= .returned (.bool (((A p:Nat):Int) == (left:Int)))∧K_ w w':=by
 have c0:=hA.cell hp
 unfold natV at c0
 have hpi: (p:Int) < 60:=by omega
 go_enter Tryz.func190,Tryz.ntmps190
 go_wp2
 go_region
 go_wp2
 go_ret
 exact ⟨rfl,(K_.refl _).drew⟩
def NearAt (A:Nat->Nat) (left:Nat) (l:List Nat) (e:Ending):Prop:= ∃k,e= .returned (.int .i64 ((k:Nat):Int))∧∃hk:k < l.length,A l[k]=left∧∀j (hj:j < l.length),j < k->A l[j]≠left
theorem indexNear_any (w:World) (la:Option Addr) (lc:Nat) (l:List Nat) (ab lb:Nat) (A:Nat->Nat) (left:Nat) (hl:l.length<=60000000) (hlt: ∀p∈l,p < 60) (hlz:lb < w.heap.size) (hL:Nats w la l) (hA:AwayM w ab A) (hc:w.cell? ⟨lb,0,none⟩=some (.int .i64 (left:Int))) (hex: ∃p∈l,A p=left):
  Calls Tryz.prog 189 #[.slice la l.length lc,.func (.func 190) #[] #[.pointer (some ⟨ab,0,none⟩),.pointer (some ⟨lb,0,none⟩)]] w fun e w'=> NearAt A left l e∧K_ w w':=by
 go_enter Tryz.func189,Tryz.ntmps189
 go_wp2_with fail
 go_loopw [8] (fun x wr=> ∃i:Nat,i<=l.length∧x= .int .i64 (i:Int)∧Hid (∀j (hj:j < l.length),j < i->A l[j]≠left)∧K_ w wr) (fun x _=> l.length - (intOf x).toNat)
 case atStart=> exact ⟨0,Nat.zero_le _,rfl,Kz (fun j _ h=> absurd h (Nat.not_lt_zero _)),K_.refl _⟩
 case round=>
  obtain ⟨i,hi,rfl,HN,Kr⟩:=hrel
  by_cases hil:i < l.length
  rotate_left
  ·exfalso
   obtain ⟨p,hp,he⟩:=hex
   obtain ⟨j,hj,rfl⟩:=List.getElem_of_mem hp
   exact HN.out j hj (by omega) he
  obtain ⟨b,o,e1,hb,hcb⟩:= (hL.kept Kr) i hil
  subst e1
  obtain ⟨p,hp⟩: ∃p,p=l.getD i 0:= ⟨_,rfl⟩
  rw [<-hp] at hcb
  have hpg:l[i]=p:=by rw [hp];simp [List.getD,hil]
  have HPg:=Kz hpg
  have hp60:p < 60:=hlt p (by rw [<-hpg];exact List.getElem_mem hil)
  have hii: (i:Int) < (l.length:Int):=by omega
  clear hp hpg
  go_wp2_with fail
  refine (near_any wr ab lb A left p hp60 (row_kept hA Kr) ((Kr.cell hlz).trans hc)).mono ?_
  rintro e w1 ⟨rfl,k1⟩
  have K1:=Kr.trans k1
  by_cases hap:A p=left
  ·have hb1: (((A p:Nat):Int) == (left:Int))=true:=by simp [hap]
   rw [hb1]
   clear hb1
   go_wp2_with fail
   go_ret
   exact ⟨⟨i,rfl,hil,by rw [HPg.out];exact hap,HN.out⟩,K1⟩
  ·have hb1: (((A p:Nat):Int) == (left:Int))=false:=by simp;omega
   rw [hb1]
   clear hb1
   go_wp2_with fail
   go_roundw
   case rel=>
    refine ⟨i+1,by omega,by go_num,Kz (fun j hj hji=> ?_),K1⟩
    rcases Nat.lt_or_ge j i with e | e
    ·exact HN.out j hj e
    ·have:j=i:=by omega
     subst this
     rw [HPg.out]
     exact hap
   case measure=> simp [intOf];omega
def FromEnd (R:Nat->Nat->Prop) (n t:Nat) (w w':World) (e:Ending):Prop:= ∃(av:Option Addr) (cv:Nat) (l:List Nat),e= .returned (.slice av l.length cv)∧Nats w' av l∧l.length<=60∧(∀p∈l,p < n)∧(l=[]->∀m,¬SizeP R t m)∧(l≠[]->∃m,SizeP R t m∧CircP R t m t l∧l.length=m)∧K_ w w'
theorem circleFrom_any (w:World) (na:Option Addr) (nc:Nat) (nm:List ByteArray) (nb mb:Nat) (need back:Nat->List Nat) (E:ByteArray->ByteArray->Prop) (M:Nat) (t:Nat) (ht:t < nm.length) (hn:nm.length<=60) (hM:M<=60000000) (hV:NeedV w na nm nb mb need back) (hR:NeedR E nm M need back):
  Calls Tryz.prog 166 #[.agg #[.slice na nm.length nc,.slice (some ⟨nb,0,none⟩) nm.length nm.length,.slice (some ⟨mb,0,none⟩) nm.length nm.length],.int .i64 (t:Int)] w fun e w'=> FromEnd (EdgeP E nm) nm.length t w w' e:=by
 obtain ⟨W1,hW1⟩: ∃W1,W1=w.alloc (.cells #[.slice na nm.length nc,.slice (some ⟨nb,0,none⟩) nm.length nm.length,.slice (some ⟨mb,0,none⟩) nm.length nm.length] 203):= ⟨_,rfl⟩
 have k1:K_ w W1:=by rw [hW1];exact (K_.refl _).alloc _
 have s0:W1.cell? ⟨w.heap.size,0,none⟩=some (.slice na nm.length nc):=by rw [hW1];exact Xz w #[.slice na nm.length nc,.slice (some ⟨nb,0,none⟩) nm.length nm.length,.slice (some ⟨mb,0,none⟩) nm.length nm.length] 203 0 _ rfl
 have s1:W1.cell? ⟨w.heap.size,1,none⟩=some (.slice (some ⟨nb,0,none⟩) nm.length nm.length):=by rw [hW1];exact Xz w #[.slice na nm.length nc,.slice (some ⟨nb,0,none⟩) nm.length nm.length,.slice (some ⟨mb,0,none⟩) nm.length nm.length] 203 1 _ rfl
 have s2:W1.cell? ⟨w.heap.size,2,none⟩=some (.slice (some ⟨mb,0,none⟩) nm.length nm.length):=by rw [hW1];exact Xz w #[.slice na nm.length nc,.slice (some ⟨nb,0,none⟩) nm.length nm.length,.slice (some ⟨mb,0,none⟩) nm.length nm.length] 203 2 _ rfl
 have z1:w.heap.size < W1.heap.size:=by rw [hW1];simp
 go_enter Tryz.func166,Tryz.ntmps166
 go_upto_region 1 with fail
 rw [<-hW1]
 clear hW1
 go_wp2_with fail
 refine (distances_any W1 na nc nm nb mb need back E M t ht hn hM (hV.kept k1) hR).mono ?_
 rintro e w2 ⟨A,size,rfl,hD,hs60,k2⟩
 have HD:=Kz hD
 have HS1:=Kz s1
 clear s0 s1 s2 hD
 obtain ⟨cs,hcs⟩: ∃cs,cs=awayV A:= ⟨_,rfl⟩
 have HI:Hid ((Tryz.prog.info? 261).map (·.size)=some cs.size):=by rw [hcs,awayV_size];exact Tryz.size60
 have HSz:Hid ((Array.replicate 60 (Value.int .i64 0)).size=cs.size):=by show _=_;rw [hcs,awayV_size];simp
 have HOn:Hid (cs.all (·.oneCell')=true):=by rw [hcs];exact awayV_one A
 obtain ⟨WA,hWA⟩: ∃WA,WA=w2.alloc (.cells cs 261):= ⟨_,rfl⟩
 have kA:K_ w2 WA:=by rw [hWA];exact (K_.refl _).alloc _
 have HAw:Hid (AwayM WA w2.heap.size A):=by rw [hWA,hcs];exact AwayM.new w2 A
 rw [<-hcs]
 have KWA:= (k1.trans k2).trans kA
 have hbA:w.heap.size < WA.heap.size:=Nat.lt_of_lt_of_le z1 (k2.trans kA).size
 have HS3:=Kz (((k2.trans kA).cell z1).trans HS1.out)
 obtain ⟨ab,hab⟩: ∃ab,ab=w2.heap.size:= ⟨_,rfl⟩
 have hwab:w2.heap.size < WA.heap.size:=by rw [hWA];simp
 have HWA:=Kz hWA
 have HAb:=Kz hab
 clear hcs hWA hab HS1 kA k2 k1 z1
 go_upto_region 2 with (rw [z60];refine wpList_store_new rfl 261 (.tmp 5) (.tmp 15) rfl _ cs rfl rfl HI.out HSz.out HOn.out ?_)
 rw [<-HWA.out]
 rw [<-HAb.out] at HAw hwab⊢
 by_cases hs0:size=0
 ·have hsb: ((size:Int) == 0)=true:=by simp [hs0]
  have HNo:=Kz (HD.out.no hs0)
  clear hs0
  go_wp2_with fail
  go_ret
  exact ⟨none,0,[],rfl,fun i hi=> absurd hi (Nat.not_lt_zero _),Nat.zero_le _,fun p hp=> (by cases hp),fun _=> HNo.out,fun h=> absurd rfl h,KWA⟩
 have hsb: ((size:Int) == 0)=false:=by simp;omega
 obtain ⟨hsz,hfar⟩:=HD.out.yes hs0
 have HSz2:=Kz hsz
 have HFar:=Kz hfar
 have hs1:1<=size:=hsz.1
 clear hsz hfar hs0
 obtain ⟨WB,hWB⟩: ∃WB,WB=WA.alloc (.cells #[.int .i64 (t:Int)] 3):= ⟨_,rfl⟩
 have kB:K_ WA WB:=by rw [hWB];exact (K_.refl _).alloc _
 have HBz:Hid (WA.heap.size+1=WB.heap.size):=by show _=_;rw [hWB];simp
 have hOB:WB.ownsRow WA.heap.size 3 1 (.slice (some ⟨WA.heap.size,0,none⟩) 1 1) [t].length ([t].map natV):=by
  rw [hWB]
  exact ⟨rfl,.inr ⟨WA.heap.size,1,_,rfl,Nat.le_refl _,heap_alloc_new WA _,Nat.le_refl _,by unfold maxLen;omega,rfl,rfl⟩⟩
 obtain ⟨WC,hWC⟩: ∃WC,WC=WB.alloc (.cells #[.int .i64 (size:Int)] 3):= ⟨_,rfl⟩
 have kC:K_ WB WC:=by rw [hWC];exact (K_.refl _).alloc _
 have HRC:Hid (RowT WC WB.heap.size 3 1):=by rw [hWC];exact RowT.made WB #[.int .i64 (size:Int)] 3
 have HCC:Hid (WC.cell? ⟨WB.heap.size,0,none⟩=some (.int .i64 (size:Int))):=by rw [hWC];exact Xz WB #[.int .i64 (size:Int)] 3 0 _ rfl
 have HOC:=Kz (ownsRow_kept' hOB kC)
 have HKC:=Kz (kB.trans kC)
 have HWB:=Kz hWB
 have HWC:=Kz hWC
 have HOB:=Kz hOB
 clear hWB hWC hOB kB kC
 go_upto_region 6 with fail
 rw [<-HWB.out,<-HWC.out,HBz.out]
 have HLb:Hid (WA.heap.size<=WB.heap.size∧∀b,(Value.slice (some ⟨WA.heap.size,0,none⟩) [t].length 1).ownBlock=some b->b≠WB.heap.size):= ⟨by have:=HBz.out;omega,fun b e=> by simp only [Value.ownBlock,Option.some.injEq] at e;have:=HBz.out;omega⟩
 obtain ⟨oa,hoa⟩: ∃oa,oa=WA.heap.size:= ⟨_,rfl⟩
 obtain ⟨lb,hlb⟩: ∃lb,lb=WB.heap.size:= ⟨_,rfl⟩
 rw [<-hoa] at HOC HLb⊢
 rw [<-hlb] at HLb HRC HCC⊢
 have HOa:=Kz hoa
 clear hoa hlb HOB HBz HWB HWC
 go_wp2_with fail
 go_loopg [7,8,9] size (fun gg x7 x8 x9 wr=> ∃(l:List Nat) (a lb:Nat) (av:Option Addr) (cv:Nat),x7= .slice av l.length cv∧x8= .int .i64 (a:Int)∧x9= .pointer (some ⟨lb,0,none⟩)∧Hid (PartP (EdgeP E nm) t size l a gg)∧Hid (∀p∈l,p < nm.length)∧Hid (wr.ownsRow oa 3 1 (.slice av l.length cv) l.length (l.map natV))∧Hid (RowT wr lb 3 1)∧Hid (wr.cell? ⟨lb,0,none⟩=some (.int .i64 (gg:Int)))∧Hid (oa<=lb∧∀b,(Value.slice av l.length cv).ownBlock=some b->b≠lb)∧Hid (K_ WA wr))
 case atStart=> exact ⟨[t],t,lb,_,1,rfl,rfl,rfl,Kz (PartP.start HSz2.out),Kz (fun p hp=> by rw [List.mem_singleton] at hp;rw [hp];exact ht),HOC,HRC,HCC,HLb,HKC⟩
 case round=>
  clear HOC HRC HCC HLb HKC
  obtain ⟨l,a,lb,av,cv,rfl,rfl,rfl,HPa,HPm,HO,HRl,HCl,HLb,HK⟩:=hrel
  have cl:=HCl.out
  have hpos:=HPa.out.pos
  have hlen:=HPa.out.len
  by_cases hend:gk=1
  ·have hng: ¬((1:Int) < (gk:Int)):=by omega
   have HCi:Hid (CircP (EdgeP E nm) t size t l):=by have h:=HPa.out;rw [hend] at h;exact h.done
   have HLn:Hid (l.length=size):=by show l.length=size;omega
   have HNe:Hid (l≠[]):=by obtain ⟨l0,e⟩:=HPa.out.last;show l≠[];rw [e];simp
   have HNt:Hid (Nats wr av l):=by
    obtain ⟨a9,c9,e9,_,h9⟩:=owned_nats HO.out rfl
    simp only [Value.slice.injEq,true_and] at e9
    rw [<-e9.1] at h9
    exact h9
   clear hend hlen hpos
   go_wp2_with fail
   go_ret
   exact ⟨av,cv,l,rfl,HNt.out,by have:=HLn.out;omega,HPm.out,fun e=> absurd e HNe.out,fun _=> ⟨size,HSz2.out,HCi.out,HLn.out⟩,KWA.trans HK.out⟩
  have hl1:1<=l.length:=by obtain ⟨l0,e⟩:=HPa.out.last;rw [e];simp
  have hgt: (1:Int) < (gk:Int):=by omega
  obtain ⟨q,hq⟩: ∃q,gk=q+1:= ⟨gk - 1,by omega⟩
  have hq1:1<=q:=by omega
  have HQ:=Kz hq
  have ham:a < nm.length:=HPm.out a (by obtain ⟨l0,e⟩:=HPa.out.last;rw [e];simp)
  obtain ⟨da,dc,hdc,hdn⟩:=hV.fwd a ham
  have HEx:Hid (∃p∈need a,A p=gk):=by
   obtain ⟨y,h1,h2⟩:=HPa.out.more (by omega)
   exact ⟨y,(hR.fwd a y).2 h1,by have:= (HFar.out y (gk - 1) (by omega)).2 h2;omega⟩
  have hnl: (need a).length<=60000000:=Nat.le_trans (hR.len a).1 hM
  have HLt:Hid (∀p∈need a,p < 60):=fun p hp=> by have:= ((hR.fwd a p).1 hp).2.1;omega
  have q1:= (HK.out.cell hbA).trans HS3.out
  have q2:= ((KWA.trans HK.out).cell hV.nbl).trans hdc
  have hai: (a:Int) < (nm.length:Int):=by omega
  have HDn:=Kz hdn
  have HDc:=Kz hdc
  clear hq hend hdn hdc
  go_wp2_with fail
  refine (indexNear_any wr da dc (need a) ab lb A gk hnl HLt.out HRl.out.lt (HDn.out.kept (KWA.trans HK.out)) (row_kept HAw.out HK.out) HCl.out HEx.out).mono ?_
  rintro e w3 ⟨⟨k,rfl,hkn,hAk,hno⟩,k3⟩
  have HK3:=Kz (HK.out.trans k3)
  obtain ⟨x,hx⟩: ∃x,x= (need a)[k]:= ⟨_,rfl⟩
  have HLe:Hid (LeastP (fun y=> EdgeP E nm a y∧Far (EdgeP E nm) t q y) x):=by
   have hqk:=HQ.out
   rw [hx]
   have key: ∀y,A y=gk↔Far (EdgeP E nm) t q y:=fun y=> by rw [hqk];exact HFar.out y q (by omega)
   exact first_leastP (p:=fun y=> EdgeP E nm a y∧Far (EdgeP E nm) t q y) (hR.asc a) (fun y hy=> (hR.fwd a y).2 hy.1) hkn ⟨(hR.fwd a _).1 (List.getElem_mem hkn),(key _).1 hAk⟩ (fun j hj hjk h=> hno j hj hjk ((key _).2 h.2))
  have hxm:x < nm.length:=by have:= ((hR.fwd a x).1 (by rw [hx];exact List.getElem_mem hkn)).2.1;exact this
  obtain ⟨eb,eo,e1,heb,hec⟩:= (HDn.out.kept (KWA.trans HK3.out)) k hkn
  subst e1
  have hgx: (need a).getD k 0=x:=by rw [hx];simp [List.getD,hkn]
  rw [hgx] at hec
  have hki: (k:Int) < ((need a).length:Int):=by omega
  have q1:= (HK3.out.cell hbA).trans HS3.out
  have q2:= ((KWA.trans HK3.out).cell hV.nbl).trans HDc.out
  clear hx hgx hAk hno hkn cl
  have c3:= (k3.cell HRl.out.lt).trans HCl.out
  have HO3:=Kz (ownsRow_kept' HO.out k3)
  have HR3:=Kz (HRl.out.kept k3)
  obtain ⟨ic,hc0,hc1,hc2,hc3⟩:=info_parts Tryz.infoIntD
  have ka:K_ w3 (w3.alloc (.cells #[.int .i64 (x:Int)] 3)):= (K_.refl _).alloc _
  have HOw:=Kz (ownsRow_kept' HO3.out ka)
  have HKK:=Kz (HK3.out.trans ka)
  have hbz:oa<=(w3.alloc (.cells #[.int .i64 (x:Int)] 3)).heap.size:=by rw [HOa.out];exact HKK.out.size
  have HNw:Hid (∀j u,([.int .i64 (x:Int)]:List Value)[j]? =some u->(w3.alloc (.cells #[.int .i64 (x:Int)] 3)).cell? ((⟨w3.heap.size,0,none⟩:Addr).add j)=some u):=fun j u hu=> by rw [Addr.add_mid];exact Xz w3 #[.int .i64 (x:Int)] 3 j u hu
  have HOne:Hid (∀u∈([.int .i64 (x:Int)]:List Value),u.oneCell'=true):=fun u hu=> by simp only [List.mem_cons,List.not_mem_nil,or_false] at hu;subst hu;rfl
  have HR4:=Kz (HR3.out.kept ka)
  have HC4:=Kz ((ka.cell HR3.out.lt).trans c3)
  have hl60:l.length<=60:=by omega
  clear c3 k3
  go_upto_region 11 with (at_builtin;refine wpList_append_own _ rfl (.tmp 42) (.tmp 44) 56 rfl oa 3 ic _ 1 8 Tryz.underlying56 hc0 hc1 hc2 hc3 rfl (by decide) (.slice av l.length cv) l.length (l.map natV) rfl HOw.out ⟨w3.heap.size,0,none⟩ 1 1 [.int .i64 (x:Int)] rfl rfl HNw.out HOne.out (by unfold maxLen;omega) (by omega) hbz ?_;intro v' w6 hown2 hgr _)
  have KP:Hid (K_ WA w6):=kept_of_grown HKK.out (by rw [HOa.out];exact Nat.le_refl _) HOw.out hgr
  have kg:But (fun b=> (Value.slice av l.length cv).ownBlock=some b) (w3.alloc (.cells #[.int .i64 (x:Int)] 3)) w6:=But.of_grown hgr (fun b e=> e)
  have hlz:=HR4.out.lt
  have c6:w6.cell? ⟨lb,0,none⟩=some (.int .i64 (gk:Int)):= (kg.cell hlz (fun e=> HLb.out.2 lb e rfl)).trans HC4.out
  have HP2:=Kz hown2
  obtain ⟨av2,cv2,rfl⟩:=own_slice hown2
  clear hown2 hgr kg hlz HR4 HC4 HNw HOne HOw HKK hbz ka HR3 HO3 HO HRl HCl HK HK3
  have HPq:Hid (PartP (EdgeP E nm) t size l a (q+1)):=by have h:=HPa.out;rw [HQ.out] at h;exact h
  have HEq:Hid ((gk:Int) - 1= (q:Int)):=by show _=_;have:=HQ.out;omega
  go_wp2_with fail
  rw [HEq.out]
  have k8:K_ w6 (w6.alloc (.cells #[.int .i64 (q:Int)] 3)):= (K_.refl _).alloc _
  go_roundg q
  case measure=> have:=HQ.out;omega
  case rel=>
   refine ⟨l++ [x],x,w6.heap.size,av2,cv2,by rw [List.length_append];rfl,rfl,rfl,Kz (HPq.out.next hq1 HLe.out),Kz (fun p hp=> ?_),Kz ?_,Kz (RowT.made w6 #[.int .i64 (q:Int)] 3),Kz (Xz w6 #[.int .i64 (q:Int)] 3 0 _ rfl),Kz ⟨?_,fun b e=> ?_⟩,Kz (KP.out.trans k8)⟩
   ·rcases List.mem_append.1 hp with h | h
    ·exact HPm.out p h
    ·rw [List.mem_singleton] at h;rw [h];exact hxm
   ·rw [List.length_append,List.map_append]
    exact ownsRow_kept' HP2.out k8
   ·rw [HOa.out];exact KP.out.size
   ·rw [List.length_append] at e
    have:= (HP2.out.lt b e).2
    omega
def CircleEnd (R:Nat->Nat->Prop) (n:Nat) (w w':World) (e:Ending):Prop:= ∃(av:Option Addr) (cv:Nat) (best:List Nat),e= .returned (.slice av best.length cv)∧Nats w' av best∧best.length<=60∧(∀p∈best,p < n)∧BestP R n best∧K_ w w'
theorem circle_any (w:World) (na:Option Addr) (nc:Nat) (nm:List ByteArray) (nb mb:Nat) (need back:Nat->List Nat) (E:ByteArray->ByteArray->Prop) (M:Nat) (hn:nm.length<=60) (hM:M<=60000000) (hV:NeedV w na nm nb mb need back) (hR:NeedR E nm M need back):
  Calls Tryz.prog 134 #[.agg #[.slice na nm.length nc,.slice (some ⟨nb,0,none⟩) nm.length nm.length,.slice (some ⟨mb,0,none⟩) nm.length nm.length]] w fun e w'=> CircleEnd (EdgeP E nm) nm.length w w' e:=by
 obtain ⟨W1,hW1⟩: ∃W1,W1=w.alloc (.cells #[.slice na nm.length nc,.slice (some ⟨nb,0,none⟩) nm.length nm.length,.slice (some ⟨mb,0,none⟩) nm.length nm.length] 203):= ⟨_,rfl⟩
 have k1:K_ w W1:=by rw [hW1];exact (K_.refl _).alloc _
 have HB:Hid (∀u,K_ W1 u->u.cell? ⟨w.heap.size,0,none⟩=some (.slice na nm.length nc)∧u.cell? ⟨w.heap.size,1,none⟩=some (.slice (some ⟨nb,0,none⟩) nm.length nm.length)∧u.cell? ⟨w.heap.size,2,none⟩=some (.slice (some ⟨mb,0,none⟩) nm.length nm.length)):=fun u k=> by
  have z1:w.heap.size < W1.heap.size:=by rw [hW1];simp
  have h:=Xz w #[.slice na nm.length nc,.slice (some ⟨nb,0,none⟩) nm.length nm.length,.slice (some ⟨mb,0,none⟩) nm.length nm.length] 203
  rw [<-hW1] at h
  exact ⟨(k.cell z1).trans (h 0 _ rfl),(k.cell z1).trans (h 1 _ rfl),(k.cell z1).trans (h 2 _ rfl)⟩
 go_enter Tryz.func134,Tryz.ntmps134
 go_upto_region 1 with fail
 rw [<-hW1]
 clear hW1
 obtain ⟨s0,s1,s2⟩:=HB.out _ (K_.refl _)
 go_wp2_with fail
 clear s0 s1 s2
 go_loopw [3,9] (fun x3 x9 wr=> ∃(i:Nat) (best:List Nat) (av:Option Addr) (cv:Nat),i<=nm.length∧x9= .int .i64 (i:Int)∧x3= .slice av best.length cv∧best.length<=60∧Hid (Nats wr av best)∧Hid (∀p∈best,p < nm.length)∧Hid (BestP (EdgeP E nm) i best)∧K_ W1 wr) (fun _ x9 _=> nm.length - (intOf x9).toNat)
 case atStart=> exact ⟨0,[],none,0,Nat.zero_le _,rfl,rfl,Nat.zero_le _,Kz (fun i hi=> absurd hi (Nat.not_lt_zero _)),Kz (fun p hp=> by cases hp),Kz (BestP.start _),K_.refl _⟩
 case round=>
  obtain ⟨i,best,av,cv,hi,rfl,rfl,hb60,HN,HP,HBe,Kr⟩:=hrel
  by_cases hil:i < nm.length
  rotate_left
  ·have hie:i=nm.length:=by omega
   subst hie
   go_wp2_with fail
   go_ret
   exact ⟨av,cv,best,rfl,HN.out,hb60,HP.out,HBe.out,k1.trans Kr⟩
  obtain ⟨s0,s1,s2⟩:=HB.out _ Kr
  have hii: (i:Int) < (nm.length:Int):=by omega
  go_wp2_with fail
  refine (circleFrom_any wr na nc nm nb mb need back E M i hil hn hM (hV.kept (k1.trans Kr)) hR).mono ?_
  rintro e w2 ⟨la,lc,l,rfl,hNl,hl60,hlm,hno,hyes,k2⟩
  have HNl:=Kz hNl
  have HLm:=Kz hlm
  have HN2:=Kz (HN.out.kept k2)
  have K2:=Kr.trans k2
  have HNo:=Kz hno
  have HYe:=Kz hyes
  clear s0 s1 s2 hNl hlm hno hyes HN k2
  by_cases hl0:l.length=0
  ·have hg: ¬((0:Int) < (l.length:Int)):=by omega
   have HSk:Hid (BestP (EdgeP E nm) (i+1) best):=HBe.out.skip (fun m hm=> absurd hm (HNo.out (List.length_eq_zero_iff.1 hl0) m))
   clear hl0
   go_wp2_with fail
   go_roundw
   case rel=> exact ⟨i+1,best,av,cv,by omega,by go_num,rfl,hb60,HN2,HP,HSk,K2⟩
   case measure=> simp [intOf];omega
  have hg: (0:Int) < (l.length:Int):=by omega
  have HYs:=Kz (HYe.out (fun e=> hl0 (by rw [e];rfl)))
  clear hl0
  by_cases hb0:best.length=0
  ·have hbb: ((best.length:Int) == 0)=true:=by simp [hb0]
   have HTa:Hid (BestP (EdgeP E nm) (i+1) l):=by
    obtain ⟨m,h1,h2,h3⟩:=HYs.out
    exact HBe.out.take h1 h2 h3 (.inl (List.length_eq_zero_iff.1 hb0))
   clear hb0
   go_wp2_with fail
   go_roundw
   case rel=> exact ⟨i+1,l,la,lc,by omega,by go_num,rfl,hl60,HNl,HLm,HTa,K2⟩
   case measure=> simp [intOf];omega
  have hbb: ((best.length:Int) == 0)=false:=by simp;exact fun e=> hb0 (by rw [e];rfl)
  by_cases hlt:l.length < best.length
  ·have hlb: (l.length:Int) < (best.length:Int):=by omega
   have HTa:Hid (BestP (EdgeP E nm) (i+1) l):=by
    obtain ⟨m,h1,h2,h3⟩:=HYs.out
    exact HBe.out.take h1 h2 h3 (.inr (by omega))
   clear hb0
   go_wp2_with fail
   go_roundw
   case rel=> exact ⟨i+1,l,la,lc,by omega,by go_num,rfl,hl60,HNl,HLm,HTa,K2⟩
   case measure=> simp [intOf];omega
  ·have hlb: ¬((l.length:Int) < (best.length:Int)):=by omega
   have HSk:Hid (BestP (EdgeP E nm) (i+1) best):=HBe.out.skip (fun m hm=> by
    obtain ⟨m',h1,_,h3⟩:=HYs.out
    have:=h1.unique hm
    exact ⟨fun e=> hb0 (by rw [e];rfl),by omega⟩)
   clear hb0
   go_wp2_with fail
   go_roundw
   case rel=> exact ⟨i+1,best,av,cv,by omega,by go_num,rfl,hb60,HN2,HP,HSk,K2⟩
   case measure=> simp [intOf];omega
