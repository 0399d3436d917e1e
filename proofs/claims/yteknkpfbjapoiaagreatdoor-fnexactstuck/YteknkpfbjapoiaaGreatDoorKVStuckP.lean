import Derived.Test.YteknkpfbjapoiaaGreatDoorKCDist
import Derived.Test.YteknkpfbjapoiaaGreatDoorKVStuck
import Derived.Test.YteknkpfbjapoiaaGreatDoorKCCirc
namespace Go.Proofs.YteknkpfbjapoiaaGreatDoor
open Go.RowKit
def unseenB (S:Nat→Bool):Nat:= (List.range 60).countP (fun p=> !S p)
theorem unseenB_put {S:Nat→Bool} {s:Nat} (hs:s < 60) (h0:S s=false):unseenB (fun r=> if r=s then true else S r)+1≤unseenB S:=by
 refine count_less (s:=s) (fun x hx=> ?_) (List.mem_range.2 hs) (by simp [h0]) (by simp)
 by_cases e:x=s
 ·rw [e] at hx;simp at hx
 ·simpa [e] using hx
def SeenM (w:World) (sb:Nat) (S:Nat→Bool):Prop:=w.rowIs sb 203 60 (fun i=> .bool (S i))
theorem SeenM.put {w:World} {sb:Nat} {S:Nat→Bool} (h:SeenM w sb S) (i:Nat):SeenM (w.setCell ⟨sb,i,none⟩ (.bool true)) sb (fun r=> if r=i then true else S r):=
 row_put h i _ (fun p _=> by by_cases e:p=i <;> simp [e])
theorem SeenM.ext {w:World} {sb:Nat} {S T:Nat→Bool} (h:SeenM w sb S) (e: ∀p,T p=S p):SeenM w sb T:=rowIs_ext h (fun p _=> by rw [e p])
theorem zb60 :List.toArray (Value.bool false :: Value.bool false :: Value.bool false :: Value.bool false :: Value.bool false :: Value.bool false :: Value.bool false :: Value.bool false :: Value.bool false :: Value.bool false :: Value.bool false :: Value.bool false :: Value.bool false :: Value.bool false :: Value.bool false :: Value.bool false :: Value.bool false :: Value.bool false :: Value.bool false :: Value.bool false :: Value.bool false :: Value.bool false :: Value.bool false :: Value.bool false :: Value.bool false :: Value.bool false :: Value.bool false :: Value.bool false :: Value.bool false :: Value.bool false :: Value.bool false :: Value.bool false :: Value.bool false :: Value.bool false :: Value.bool false :: Value.bool false :: Value.bool false :: Value.bool false :: Value.bool false :: Value.bool false :: Value.bool false :: Value.bool false :: Value.bool false :: Value.bool false :: Value.bool false :: Value.bool false :: Value.bool false :: Value.bool false :: Value.bool false :: Value.bool false :: Value.bool false :: Value.bool false :: Value.bool false :: Value.bool false :: Value.bool false :: Value.bool false :: Value.bool false :: Value.bool false :: Value.bool false :: Value.bool false :: [])=Array.replicate 60 (Value.bool false):=rfl
theorem Tryz.infoIntL : (Tryz.prog.info? 3).map (fun i=> (i.zero,i.size,i.bytes))=some (some (.int .i64 0),1,8):=by kernel_rfl
def LeadJ (wr:World) (rb p:Nat) (Q:List Nat) (bx mb n:Nat) (ba:Option Addr) (bl bc:Nat) (a b:Act) (u:World):Prop:=
 b= { a with tmps:= ((((((a.tmps.setIfInBounds 27 (.pointer (some ⟨bx,2,none⟩))).setIfInBounds 28 (.slice (some ⟨mb,0,none⟩) n n)).setIfInBounds 29 (.int .i64 (p:Int))).setIfInBounds 30 (.pointer (some ⟨mb,p,none⟩))).setIfInBounds 31 (.slice ba bl bc)).setIfInBounds 32 (.int .i64 (bl:Int))).setIfInBounds 33 (.int .i64 0)}∧RingM u rb Q∧But (fun b=> b=rb) wr u
def LeadEnd (R:Nat→Nat→Prop) (n:Nat) (ps:List Nat) (w w':World) (e:Ending):Prop:= ∃(av:Option Addr) (cv:Nat) (l:List Nat),e= .returned (.slice av l.length cv)∧Nats w' av l∧l.length≤60∧l.Pairwise (· < ·)∧(∀p,p∈l↔p < n∧LeadsTo R ps p)∧Kept w w'
set_option maxRecDepth 100000 in
set_option maxHeartbeats 12800000 in
theorem leadingTo_any (w:World) (na:Option Addr) (nc:Nat) (nm:List ByteArray) (nb mb:Nat) (need back:Nat→List Nat) (E:ByteArray→ByteArray→Prop) (M:Nat) (pa:Option Addr) (pc:Nat) (ps:List Nat) (hps: ∀p∈ps,p < nm.length) (hpd:ps.Nodup) (hn:nm.length≤60) (hM:M≤60000000) (hV:NeedV w na nm nb mb need back) (hR:NeedR E nm M need back) (hP:Nats w pa ps):
  Calls Tryz.prog 97 #[.agg #[.slice na nm.length nc,.slice (some ⟨nb,0,none⟩) nm.length nm.length,.slice (some ⟨mb,0,none⟩) nm.length nm.length],.slice pa ps.length pc] w fun e w'=> LeadEnd (EdgeP E nm) nm.length ps w w' e:=by
 have hpl:ps.length≤60:=by
  have:=List.Nodup.length_le_of_subset (l₂:=List.range 60) hpd (fun x hx=> List.mem_range.2 (Nat.lt_of_lt_of_le (hps x hx) hn))
  simpa using this
 go_enter Tryz.func97,Tryz.ntmps97
 go_upto_region 3 with fail
 rw [zb60,z62]
 obtain ⟨W1,hW1⟩: ∃W1,W1=w.alloc (.cells #[.slice na nm.length nc,.slice (some ⟨nb,0,none⟩) nm.length nm.length,.slice (some ⟨mb,0,none⟩) nm.length nm.length] 81):= ⟨_,rfl⟩
 have k1:Kept w W1:=by rw [hW1];exact (Kept.refl _).alloc _
 have s0:W1.cell? ⟨w.heap.size,0,none⟩=some (.slice na nm.length nc):=by rw [hW1];exact range_new w #[.slice na nm.length nc,.slice (some ⟨nb,0,none⟩) nm.length nm.length,.slice (some ⟨mb,0,none⟩) nm.length nm.length] 81 0 _ rfl
 have s2:W1.cell? ⟨w.heap.size,2,none⟩=some (.slice (some ⟨mb,0,none⟩) nm.length nm.length):=by rw [hW1];exact range_new w #[.slice na nm.length nc,.slice (some ⟨nb,0,none⟩) nm.length nm.length,.slice (some ⟨mb,0,none⟩) nm.length nm.length] 81 2 _ rfl
 have z1:w.heap.size < W1.heap.size:=by rw [hW1];simp
 have hw1z:w.heap.size+1=W1.heap.size:=by rw [hW1];simp
 obtain ⟨W2,hW2⟩: ∃W2,W2=W1.alloc (.cells (Array.replicate 60 (.bool false)) 203):= ⟨_,rfl⟩
 have k2:Kept W1 W2:=by rw [hW2];exact (Kept.refl _).alloc _
 have a2:SeenM W2 W1.heap.size (fun _=> false):=by
  have h:=World.rowIs_alloc W1 (Array.replicate 60 (.bool false)) 203 (fun _=> .bool false) (fun i hi=> by simp at hi;simp [hi])
  rw [Array.size_replicate] at h
  rw [hW2]
  exact h
 have hw2z:W1.heap.size+1=W2.heap.size:=by rw [hW2];simp
 obtain ⟨W3,hW3⟩: ∃W3,W3=W2.alloc (.cells (Array.replicate 62 (.int .i64 0)) 200):= ⟨_,rfl⟩
 have k3:Kept W2 W3:=by rw [hW3];exact (Kept.refl _).alloc _
 have r3:RingM W3 W2.heap.size []:=by
  refine ⟨fun _=> 0,0,by omega,by simp, ?_,fun i hi=> absurd hi (Nat.not_lt_zero _)⟩
  have h:=World.rowIs_alloc W2 (Array.replicate 62 (.int .i64 0)) 200 (ringF (fun _=> 0) 0 0) (fun i hi=> by simp at hi;simp [ringF,hi])
  rw [Array.size_replicate] at h
  rw [hW3]
  exact h
 rw [←hW1,←hW2,←hW3]
 obtain ⟨sb,hsb⟩: ∃sb,sb=W1.heap.size:= ⟨_,rfl⟩
 obtain ⟨rb,hrb⟩: ∃rb,rb=W2.heap.size:= ⟨_,rfl⟩
 have e2:w.heap.size+1=sb:=by omega
 have e3:w.heap.size+1+1=rb:=by omega
 rw [e3,e2]
 rw [←hsb] at a2
 rw [←hrb] at r3
 have hne:sb≠rb:=by omega
 have HSb:Hid (W1.heap.size≤sb):=by show W1.heap.size≤sb;omega
 have HRb:Hid (W1.heap.size≤rb):=by show W1.heap.size≤rb;omega
 have HS3:Hid (SeenM W3 sb (fun p=> decide (p∈ps.take 0))):= (SeenM.ext (row_kept a2 k3) (fun p=> by simp))
 have HR3:Hid (RingM W3 rb (ps.take 0)):=r3
 have HK3:=hide (k2.trans k3)
 have HK1:=hide k1
 have HBx:Hid (∀u,Kept W1 u→u.cell? ⟨w.heap.size,0,none⟩=some (.slice na nm.length nc)∧u.cell? ⟨w.heap.size,2,none⟩=some (.slice (some ⟨mb,0,none⟩) nm.length nm.length)):=fun u k=> ⟨(k.cell z1).trans s0,(k.cell z1).trans s2⟩
 clear hW1 hW2 hW3 e2 e3 a2 r3 k1 k2 k3 hw1z hw2z hsb hrb s0 s2 z1
 go_wp2_with fail
 go_loopw [15] (fun x wr=> ∃i:Nat,i≤ps.length∧x= .int .i64 (i:Int)∧Hid (SeenM wr sb (fun p=> decide (p∈ps.take i)))∧Hid (RingM wr rb (ps.take i))∧Hid (Kept W1 wr)) (fun x _=> ps.length - (intOf x).toNat)
 case atStart=> exact ⟨0,Nat.zero_le _,rfl,HS3,HR3,HK3⟩
 case round=>
  clear HS3 HR3 HK3
  obtain ⟨i,hi,rfl,HS,HR,HK⟩:=hrel
  by_cases hil:i < ps.length
  ·obtain ⟨pb,po,e1,hpb,hpc⟩:= (hP.kept (HK1.out.trans HK.out)) i hil
   subst e1
   obtain ⟨p,hp⟩: ∃p,p=ps.getD i 0:= ⟨_,rfl⟩
   rw [←hp] at hpc
   have hpg:ps[i]=p:=by rw [hp];simp [List.getD,hil]
   have hpm:p < nm.length:=hps p (by rw [←hpg];exact List.getElem_mem hil)
   have HTk:Hid (ps.take (i+1)=ps.take i++ [p]):=by show _=_;rw [List.take_succ_eq_append_getElem hil,hpg]
   have hii: (i:Int) < (ps.length:Int):=by omega
   have hp60: (p:Int) < 60:=by omega
   have cp:=HS.out.cell (show p < 60 by omega)
   have fp:=HS.out.frozen p
   have HS7:=hide (SeenM.put HS.out p)
   have HK7:Hid (Kept W1 (wr.setCell ⟨sb,p,none⟩ (.bool true))):= (But.set (S:=fun b=> b=sb) (But.of_kept (Kept.refl wr)) (p:= ⟨sb,p,none⟩) rfl _).kept HK.out (fun b e=> by rw [e];exact HSb.out)
   have HR7:=hide (HR.out.block (w':=wr.setCell ⟨sb,p,none⟩ (.bool true)) (Below.heap_setCell _ _ _ _ (fun e=> hne (Eq.symm e))))
   have htl: (ps.take i).length < 60:=by rw [List.length_take];omega
   clear hp hpg
   go_upto_region 7 with fail
   generalize hW7:wr.setCell ⟨sb,p,none⟩ (.bool true)=w7 at HS7 HK7 HR7⊢
   clear hW7 cp fp
   go_wp2_with fail
   refine (put_any w7 rb (ps.take i) p HR7.out htl).mono ?_
   rintro e w8 ⟨rfl,hR8,hB8⟩
   have HR8:Hid (RingM w8 rb (ps.take (i+1))):=by rw [HTk.out];exact hR8
   have HS8:Hid (SeenM w8 sb (fun q=> decide (q∈ps.take (i+1)))):=by
    refine SeenM.ext (rowIs_block HS7.out (hB8.block _ (rowIs_lt HS7.out) (fun e=> hne e))) (fun q=> ?_)
    rw [HTk.out]
    by_cases e:q=p
    ·simp [e]
    ·simp [e]
   have HK8:Hid (Kept W1 w8):=hB8.kept HK7.out (fun b e=> by rw [e];exact HRb.out)
   clear hR8 hB8 HS7 HK7 HR7
   go_wp2_with fail
   go_roundw
   case rel=> exact ⟨i+1,by omega,by go_num,HS8,HR8,HK8⟩
   case measure=> simp [intOf];omega
  have hie:i=ps.length:=by omega
  have HL0:Hid (Lead (EdgeP E nm) ps (fun p=> decide (p∈ps)) ps):=Lead.start _ hpd
  have HS1:Hid (SeenM wr sb (fun p=> decide (p∈ps))):=by have h:=HS.out;rw [hie,List.take_length] at h;exact h
  have HR1:Hid (RingM wr rb ps):=by have h:=HR.out;rw [hie,List.take_length] at h;exact h
  have hni: ¬((i:Int) < (ps.length:Int)):=by omega
  clear HS HR hie hil
  go_wp2_with fail
  clear hni
  go_loopg [10] (2 * unseenB (fun p=> decide (p∈ps))+ps.length) (fun gg x10 wr=> ∃(S:Nat→Bool) (Q:List Nat),Hid (2 * unseenB S+Q.length=gg)∧Hid (SeenM wr sb S)∧Hid (RingM wr rb Q)∧Hid (Lead (EdgeP E nm) ps S Q)∧Hid (∀p∈Q,p < nm.length)∧Hid (Kept W1 wr)∧x10=x10)
  case atStart=> exact ⟨_,ps,hide rfl,HS1,HR1,HL0,hide hps,HK,rfl⟩
  case round=>
   clear HS1 HR1 HL0 HK
   obtain ⟨S,Q,HG,HS,HR,HB,HQ,HK,_⟩:=hrel
   have c61:=HR.out.size
   cases Q with
   | nil=>
    have c62:wr.cell? ⟨rb,61,none⟩=some (.int .i64 0):=c61
    clear c61
    obtain ⟨q0,q2⟩:=HBx.out _ HK.out
    have HSx:=HS
    have HKW:=hide (HK1.out.trans HK.out)
    obtain ⟨wr0,hwr0⟩: ∃wr0,wr0=wr:= ⟨_,rfl⟩
    rw [←hwr0] at HSx HKW q0 q2 c62⊢
    clear hwr0
    have HWh:Hid (∀p,S p=true↔LeadsTo (EdgeP E nm) ps p):=HB.out.whole
    go_wp2_with fail
    clear q0 q2 c62
    go_loopw [11,49] (fun x11 x49 wr=> ∃(i:Nat) (av:Option Addr) (cv:Nat),i≤nm.length∧x49= .int .i64 (i:Int)∧x11= .slice av ((List.range i).filter S).length cv∧Hid (SeenM wr sb S)∧Hid (wr.ownsRow wr0.heap.size 3 1 (.slice av ((List.range i).filter S).length cv) ((List.range i).filter S).length (((List.range i).filter S).map natV))∧Hid (Kept wr0 wr)) (fun _ x49 _=> nm.length - (intOf x49).toNat)
    case atStart=> exact ⟨0,none,0,Nat.zero_le _,rfl,rfl,HSx,World.ownsRow_nil _ _ _ _,hide (Kept.refl _)⟩
    case round=>
     obtain ⟨i,av,cv,hi,rfl,rfl,HSn,HO,HKx⟩:=hrel
     obtain ⟨l,hl⟩: ∃l,l= (List.range i).filter S:= ⟨_,rfl⟩
     have hll:l.length≤60:=by rw [hl];have:=List.length_filter_le S (List.range i);rw [List.length_range] at this;omega
     rw [←hl] at HO⊢
     have HLl:=hide hl
     clear hl
     by_cases hil:i < nm.length
     rotate_left
     ·have hnl: ¬((i:Int) < (nm.length:Int)):=by omega
      have HIe:Hid (i=nm.length):=by show i=nm.length;omega
      have HNt:Hid (Nats wr av l):=by
       obtain ⟨a9,c9,e9,_,h9⟩:=owned_nats HO.out rfl
       simp only [Value.slice.injEq,true_and] at e9
       rw [←e9.1] at h9
       exact h9
      clear hil
      go_wp2_with fail
      go_ret
      refine ⟨av,cv,l,rfl,HNt.out,hll, ?_,fun p=> ?_,HKW.out.trans HKx.out⟩
      ·rw [HLl.out];exact List.Pairwise.filter _ List.pairwise_lt_range
      ·rw [HLl.out,List.mem_filter,List.mem_range,HIe.out,HWh.out]
     have hii: (i:Int) < (nm.length:Int):=by omega
     have hi60: (i:Int) < 60:=by omega
     have ci:=HSn.out.cell (show i < 60 by omega)
     have HRn:Hid ((List.range (i+1)).filter S=if S i=true then l++ [i] else l):=by
      show _=_
      rw [List.range_succ,List.filter_append,←HLl.out]
      cases hs:S i <;> simp [hs]
     cases hsi:S i
     ·rw [hsi] at ci
      go_wp2_with fail
      go_roundw
      case rel=> exact ⟨i+1,av,cv,by omega,by go_num,by rw [HRn.out,hsi];rfl,HSn,hide (by rw [HRn.out,hsi];exact HO.out),HKx⟩
      case measure=> simp [intOf];omega
     ·rw [hsi] at ci
      obtain ⟨ic,hc0,hc1,hc2,hc3⟩:=info_parts Tryz.infoIntL
      have ka:Kept wr (wr.alloc (.cells #[.int .i64 (i:Int)] 3)):= (Kept.refl _).alloc _
      have HOw:=hide (ownsRow_kept' HO.out ka)
      have HKK:=hide (HKx.out.trans ka)
      have hbz:wr0.heap.size≤(wr.alloc (.cells #[.int .i64 (i:Int)] 3)).heap.size:=HKK.out.size
      have HNw:Hid (∀j u,([.int .i64 (i:Int)]:List Value)[j]? =some u→(wr.alloc (.cells #[.int .i64 (i:Int)] 3)).cell? ((⟨wr.heap.size,0,none⟩:Addr).add j)=some u):=fun j u hu=> by rw [Addr.add_mid];exact range_new wr #[.int .i64 (i:Int)] 3 j u hu
      have HOne:Hid (∀u∈([.int .i64 (i:Int)]:List Value),u.oneCell'=true):=fun u hu=> by simp only [List.mem_cons,List.not_mem_nil,or_false] at hu;subst hu;rfl
      have HSw:=hide (row_kept HSn.out ka)
      clear ka
      go_wp2_with (at_builtin;refine wpList_append_own _ rfl (.tmp 55) (.tmp 57) 84 rfl wr0.heap.size 3 ic _ 1 8 Tryz.underlying84 hc0 hc1 hc2 hc3 rfl (by decide) (.slice av l.length cv) l.length (l.map natV) rfl HOw.out ⟨wr.heap.size,0,none⟩ 1 1 [.int .i64 (i:Int)] rfl rfl HNw.out HOne.out (by unfold maxLen;omega) (by omega) hbz ?_;intro v' w6 hown2 hgr _;have KP:=kept_of_grown HKK.out (Nat.le_refl _) HOw.out hgr;have HS6:Hid (SeenM w6 sb S):=rowIs_block HSw.out ((But.of_grown (S:=fun b=> (Value.slice av l.length cv).ownBlock=some b) hgr (fun b e=> e)).block _ (rowIs_lt HSw.out) (fun e=> type_ne (rowIs_type HSw.out) (owns_type HOw.out e) (by decide) rfl));have HP2:=hide hown2;obtain ⟨av2,cv2,rfl⟩:=own_slice hown2;clear hown2 hgr)
      go_roundw
      case rel=> exact ⟨i+1,av2,cv2,by omega,by go_num,by rw [HRn.out,hsi];simp,HS6,hide (by rw [HRn.out,hsi];simp only [if_true,List.length_append,List.map_append];exact HP2.out),hide KP⟩
      case measure=> simp [intOf];omega
   | cons p Q=>
    have hgt: (0:Int) < ((p :: Q).length:Int):=by simp
    have hpm:p < nm.length:=HQ.out p (by simp)
    obtain ⟨ba,bc,hbc,hbn⟩:=hV.bwd p hpm
    obtain ⟨q0,q2⟩:=HBx.out _ HK.out
    have HMb:Hid (mb < w.heap.size):=hV.mbl
    have HBc:Hid (∀u,But (fun b=> b=rb) wr u→u.cell? ⟨w.heap.size,2,none⟩=some (.slice (some ⟨mb,0,none⟩) nm.length nm.length)∧u.cell? ⟨mb,p,none⟩=some (.slice ba (back p).length bc)):=fun u k=> by
     have kk:Kept W1 u:=k.kept HK.out (fun b e=> by rw [e];exact HRb.out)
     exact ⟨(HBx.out u kk).2,((HK1.out.trans kk).cell HMb.out).trans hbc⟩
    have hpi: (p:Int) < (nm.length:Int):=by omega
    have hbl:= (hR.len p).2
    have HBn:=hide hbn
    clear hbn hbc q0
    go_upto_region 10 with fail
    refine region_part (LeadJ wr rb p Q w.heap.size mb nm.length ba (back p).length bc) ?_ ?_
    ·refine UpTo.region (by kernel_rfl) (fun u=> u.cell? ⟨w.heap.size,2,none⟩=some (.slice (some ⟨mb,0,none⟩) nm.length nm.length)∧u.cell? ⟨mb,p,none⟩=some (.slice ba (back p).length bc)) 5 (HBc.out _ (But.of_kept ((Kept.refl wr).drew))) (fun hHeld=> ?_)
     have HRd:Hid (RingM wr.drew rb (p :: Q)):=HR.out.block (w':=wr.drew) rfl
     have HBD:Hid (But (fun b=> b=rb) wr wr.drew):=But.of_kept ((Kept.refl wr).drew)
     generalize hwd:wr.drew=wd at hHeld HRd HBD⊢
     clear hwd
     refine UpTo.take 0 [1,3,4,5] (v:= ?_) (by (simp only [List.getElem?_toArray,List.getElem?_cons_zero];rfl)) (by kernel_rfl) (by kernel_rfl) (by kernel_rfl) (by kernel_rfl) (by exact fun _ _ _ h=> nomatch h.1) (Or.inl ⟨by rfl, ?_⟩) hHeld ?_
     rotate_left
     ·intro u hu
      try dsimp only at hu
      go_simp
      try with_reducible rfl
     try simp only [Act.put,upA,upB,upC]
     refine UpTo.take 1 [3,4,5] (v:= ?_) (by (simp only [List.getElem?_toArray,List.getElem?_cons_succ,List.getElem?_cons_zero];rfl)) (by kernel_rfl) (by kernel_rfl) (by kernel_rfl) (by kernel_rfl) (by exact fun _ _ _ h=> nomatch h.1) (Or.inl ⟨by rfl, ?_⟩) hHeld ?_
     rotate_left
     ·intro u hu
      try dsimp only at hu
      go_simp
      try with_reducible rfl
     try simp only [Act.put,upA,upB,upC]
     refine UpTo.two 2 6 (by kernel_rfl) (by (simp only [List.getElem?_toArray,List.getElem?_cons_succ,List.getElem?_cons_zero];rfl)) (by (simp only [List.getElem?_toArray,List.getElem?_cons_succ,List.getElem?_cons_zero];rfl)) (fun K hK=> ?_) (fun K hK=> ?_)
     ·rw [if_pos (by rfl)]
      go_simp
      go_at_call 144
      refine (take_any wd rb Q p HRd.out).mono ?_
      rintro e w1 ⟨rfl,hR1,hB1⟩
      have HBd:=hide (But.trans HBD.out hB1)
      have HR1:=hide hR1
      clear hR1 hB1
      dsimp only
      refine hK.out _ _ (fun _=> HBc.out _ HBd.out) ?_
      clear hK K hHeld
      have hHeld:=HBc.out _ HBd.out
      try simp only [Act.put,upA,upB,upC]
      refine UpTo.take 3 [4,5] (v:= ?_) (by (simp only [List.getElem?_toArray,List.getElem?_cons_succ,List.getElem?_cons_zero];rfl)) (by kernel_rfl) (by kernel_rfl) (by kernel_rfl) (by kernel_rfl) (by exact fun _ _ _ h=> nomatch h.1) (Or.inl ⟨by rfl, ?_⟩) hHeld ?_
      rotate_left
      ·intro u hu
       try dsimp only at hu
       go_simp
       try with_reducible rfl
      try simp only [Act.put,upA,upB,upC]
      refine UpTo.take 4 [5] (v:= ?_) (by (simp only [List.getElem?_toArray,List.getElem?_cons_succ,List.getElem?_cons_zero];rfl)) (by kernel_rfl) (by kernel_rfl) (by kernel_rfl) (by kernel_rfl) (by exact fun _ _ _ h=> nomatch h.1) (Or.inl ⟨by rfl, ?_⟩) hHeld ?_
      rotate_left
      ·intro u hu
       try dsimp only at hu
       go_simp
       try with_reducible rfl
      try simp only [Act.put,upA,upB,upC]
      refine UpTo.two 5 6 (by kernel_rfl) (by (simp only [List.getElem?_toArray,List.getElem?_cons_succ,List.getElem?_cons_zero];rfl)) (by (simp only [List.getElem?_toArray,List.getElem?_cons_succ,List.getElem?_cons_zero];rfl)) (fun K hK=> ?_) (fun K hK=> ?_)
      ·go_simp
       refine hK.out _ _ (fun h=> absurd rfl h) ?_
       clear hK K
       try simp only [Act.put,upA,upB,upC]
       refine UpTo.nx 6 (fun K hK=> ?_)
       go_simp
       refine hK.out _ _ (fun _=> hHeld) ?_
       clear hK K
       try simp only [Act.put,upA,upB,upC]
       refine UpTo.done (by kernel_rfl) ?_
       refine ⟨rfl, ?_,HR1.out,HBd.out⟩
       simp only [List.setIfInBounds_toArray,List.set_cons_zero,List.set_cons_succ]
      ·go_simp
       refine hK.out _ _ (fun _=> hHeld) ?_
       clear hK K
       try simp only [Act.put,upA,upB,upC]
       refine UpTo.nx 5 (fun K hK=> ?_)
       go_simp
       refine hK.out _ _ (fun h=> absurd rfl h) ?_
       clear hK K
       try simp only [Act.put,upA,upB,upC]
       refine UpTo.done (by kernel_rfl) ?_
       refine ⟨rfl, ?_,HR1.out,HBd.out⟩
       simp only [List.setIfInBounds_toArray,List.set_cons_zero,List.set_cons_succ]
     ·go_simp
      refine hK.out _ _ (fun _=> hHeld) ?_
      clear hK K
      try simp only [Act.put,upA,upB,upC]
      refine UpTo.nx 2 (fun K hK=> ?_)
      rw [if_pos (by rfl)]
      go_simp
      go_at_call 144
      refine (take_any wd rb Q p HRd.out).mono ?_
      rintro e w1 ⟨rfl,hR1,hB1⟩
      have HBd:=hide (But.trans HBD.out hB1)
      have HR1:=hide hR1
      clear hR1 hB1
      dsimp only
      refine hK.out _ _ (fun _=> HBc.out _ HBd.out) ?_
      clear hK K hHeld
      have hHeld:=HBc.out _ HBd.out
      try simp only [Act.put,upA,upB,upC]
      refine UpTo.take 3 [4,5] (v:= ?_) (by (simp only [List.getElem?_toArray,List.getElem?_cons_succ,List.getElem?_cons_zero];rfl)) (by kernel_rfl) (by kernel_rfl) (by kernel_rfl) (by kernel_rfl) (by exact fun _ _ _ h=> nomatch h.1) (Or.inl ⟨by rfl, ?_⟩) hHeld ?_
      rotate_left
      ·intro u hu
       try dsimp only at hu
       go_simp
       try with_reducible rfl
      try simp only [Act.put,upA,upB,upC]
      refine UpTo.take 4 [5] (v:= ?_) (by (simp only [List.getElem?_toArray,List.getElem?_cons_succ,List.getElem?_cons_zero];rfl)) (by kernel_rfl) (by kernel_rfl) (by kernel_rfl) (by kernel_rfl) (by exact fun _ _ _ h=> nomatch h.1) (Or.inl ⟨by rfl, ?_⟩) hHeld ?_
      rotate_left
      ·intro u hu
       try dsimp only at hu
       go_simp
       try with_reducible rfl
      try simp only [Act.put,upA,upB,upC]
      refine UpTo.nx 5 (fun K hK=> ?_)
      go_simp
      refine hK.out _ _ (fun h=> absurd rfl h) ?_
      clear hK K
      try simp only [Act.put,upA,upB,upC]
      refine UpTo.done (by kernel_rfl) ?_
      refine ⟨rfl, ?_,HR1.out,HBd.out⟩
      simp only [List.setIfInBounds_toArray,List.set_cons_zero,List.set_cons_succ]
    rintro b u ⟨rfl,hRu,hBu⟩
    simp only [List.setIfInBounds_toArray,List.set_cons_zero,List.set_cons_succ]
    have HRu:=hide hRu
    have HSu:Hid (SeenM u sb S):=rowIs_block HS.out (hBu.block _ (rowIs_lt HS.out) (fun e=> hne e))
    have HKu:Hid (Kept W1 u):=hBu.kept HK.out (fun b e=> by rw [e];exact HRb.out)
    have HIn:=hide HB.out.take
    have HQ1:Hid (∀q∈Q,q < nm.length):=fun q hq=> HQ.out q (List.mem_cons_of_mem _ hq)
    have HGl:Hid (2 * unseenB S+Q.length < gk):=by have h:=HG.out;rw [List.length_cons] at h;show 2 * unseenB S+Q.length < gk;omega
    clear hRu hBu c61 hgt HS HR HB HQ HK HG q2
    go_wp2_with fail
    go_loopw [33] (fun x33 wr=> ∃(j:Nat) (S:Nat→Bool) (Q:List Nat),x33= .int .i64 (j:Int)∧j≤(back p).length∧Hid (2 * unseenB S+Q.length < gk)∧Hid (SeenM wr sb S)∧Hid (RingM wr rb Q)∧Hid (LeadIn (EdgeP E nm) ps p ((back p).take j) S Q)∧Hid (∀q∈Q,q < nm.length)∧Hid (Kept W1 wr)) (fun x33 _=> (back p).length - (intOf x33).toNat)
    case atStart=> exact ⟨0,S,Q,rfl,Nat.zero_le _,HGl,HSu,HRu,HIn,HQ1,HKu⟩
    case round=>
     clear HGl HSu HRu HIn HQ1 HKu
     obtain ⟨j,S,Q,rfl,hj,HG,HS,HR,HIn,HQ,HK⟩:=hrel
     by_cases hjl:j < (back p).length
     rotate_left
     ·have hnj: ¬((j:Int) < ((back p).length:Int)):=by omega
      have HEn:Hid (Lead (EdgeP E nm) ps S Q):=HIn.out.ends (fun s hs=> by rw [List.take_of_length_le (by omega)];exact (hR.bwd s p).2 hs)
      clear hjl
      go_wp2_with fail
      go_roundg (2 * unseenB S+Q.length)
      case measure=> exact HG.out
      case rel=> exact ⟨S,Q,hide rfl,HS,HR,HEn,HQ,HK,trivial⟩
     obtain ⟨xb,xo,e1,hxb,hxc⟩:= (HBn.out.kept (HK1.out.trans HK.out)) j hjl
     subst e1
     obtain ⟨s,hs⟩: ∃s,s= (back p).getD j 0:= ⟨_,rfl⟩
     rw [←hs] at hxc
     have hsg: (back p)[j]=s:=by rw [hs];simp [List.getD,hjl]
     have HE:Hid (EdgeP E nm s p):= (hR.bwd s p).1 (by rw [←hsg];exact List.getElem_mem hjl)
     have hsm:s < nm.length:=HE.out.1
     have HTk:Hid ((back p).take (j+1)= (back p).take j++ [s]):=by show _=_;rw [List.take_succ_eq_append_getElem hjl,hsg]
     have hji: (j:Int) < ((back p).length:Int):=by omega
     have cs:=HS.out.cell (show s < 60 by omega)
     have hs60: (s:Int) < 60:=by omega
     clear hs hsg
     cases hss:S s
     rotate_left
     ·rw [hss] at cs
      have HOl:=hide (HIn.out.old hss)
      go_wp2_with fail
      go_roundw
      case rel=> exact ⟨j+1,S,Q,by go_num,by omega,HG,HS,HR,hide (by rw [HTk.out];exact HOl.out),HQ,HK⟩
      case measure=> simp [intOf];omega
     rw [hss] at cs
     have HNw:=hide (HIn.out.new HE.out hss)
     have hrm:Q.length < 60:=queue_room HIn.out.nd (fun q hq=> Nat.lt_of_lt_of_le (HQ.out q hq) hn) (show s < 60 by omega) (fun h=> by have:=HIn.out.q s h;rw [hss] at this;cases this)
     have HUp:=hide (unseenB_put (show s < 60 by omega) hss)
     have fs:=HS.out.frozen s
     have HS7:=hide (SeenM.put HS.out s)
     have HK7:Hid (Kept W1 (wr.setCell ⟨sb,s,none⟩ (.bool true))):= (But.set (S:=fun b=> b=sb) (But.of_kept (Kept.refl wr)) (p:= ⟨sb,s,none⟩) rfl _).kept HK.out (fun b e=> by rw [e];exact HSb.out)
     have HR7:=hide (HR.out.block (w':=wr.setCell ⟨sb,s,none⟩ (.bool true)) (Below.heap_setCell _ _ _ _ (fun e=> hne (Eq.symm e))))
     go_upto_region 15 with fail
     generalize hW7:wr.setCell ⟨sb,s,none⟩ (.bool true)=w7 at HS7 HK7 HR7⊢
     clear hW7 fs cs
     go_wp2_with fail
     refine (put_any w7 rb Q s HR7.out hrm).mono ?_
     rintro e w8 ⟨rfl,hR8,hB8⟩
     have HR8:=hide hR8
     have HS8:Hid (SeenM w8 sb (fun r=> if r=s then true else S r)):=rowIs_block HS7.out (hB8.block _ (rowIs_lt HS7.out) (fun e=> hne e))
     have HK8:Hid (Kept W1 w8):=hB8.kept HK7.out (fun b e=> by rw [e];exact HRb.out)
     have HG8:Hid (2 * unseenB (fun r=> if r=s then true else S r)+ (Q++ [s]).length < gk):=by
      have h1:=HUp.out
      have h2:=HG.out
      rw [List.length_append]
      simp only [List.length_cons,List.length_nil]
      show _ < _
      omega
     have HQ8:Hid (∀q∈Q++ [s],q < nm.length):=fun q hq=> by
      rcases List.mem_append.1 hq with h | h
      ·exact HQ.out q h
      ·rw [List.mem_singleton] at h;rw [h];exact hsm
     clear hR8 hB8 HS7 HK7 HR7
     go_wp2_with fail
     go_roundw
     case rel=> exact ⟨j+1,_,_,by go_num,by omega,HG8,HS8,HR8,hide (by rw [HTk.out];exact HNw.out),HQ8,HK8⟩
     case measure=> simp [intOf];omega
def OnCirc (R:Nat→Nat→Prop) (q:Nat):Prop:= ∃m,SizeP R q m
def StuckEnd (R:Nat→Nat→Prop) (n:Nat) (w w':World) (e:Ending):Prop:= ∃(av:Option Addr) (cv:Nat) (l cs:List Nat),e= .returned (.slice av l.length cv)∧Nats w' av l∧l.length≤60∧l.Pairwise (· < ·)∧(∀q,q∈cs↔q < n∧OnCirc R q)∧(∀p,p∈l↔p < n∧LeadsTo R cs p)∧Kept w w'
set_option maxRecDepth 100000 in
set_option maxHeartbeats 6400000 in
theorem stuck_any (w:World) (na:Option Addr) (nc:Nat) (nm:List ByteArray) (nb mb:Nat) (need back:Nat→List Nat) (E:ByteArray→ByteArray→Prop) (M:Nat) (hn:nm.length≤60) (hM:M≤60000000) (hV:NeedV w na nm nb mb need back) (hR:NeedR E nm M need back):
  Calls Tryz.prog 55 #[.agg #[.slice na nm.length nc,.slice (some ⟨nb,0,none⟩) nm.length nm.length,.slice (some ⟨mb,0,none⟩) nm.length nm.length]] w fun e w'=> StuckEnd (EdgeP E nm) nm.length w w' e:=by
 obtain ⟨W1,hW1⟩: ∃W1,W1=w.alloc (.cells #[.slice na nm.length nc,.slice (some ⟨nb,0,none⟩) nm.length nm.length,.slice (some ⟨mb,0,none⟩) nm.length nm.length] 81):= ⟨_,rfl⟩
 have k1:Kept w W1:=by rw [hW1];exact (Kept.refl _).alloc _
 have HB:Hid (∀u,Kept W1 u→u.cell? ⟨w.heap.size,0,none⟩=some (.slice na nm.length nc)∧u.cell? ⟨w.heap.size,1,none⟩=some (.slice (some ⟨nb,0,none⟩) nm.length nm.length)∧u.cell? ⟨w.heap.size,2,none⟩=some (.slice (some ⟨mb,0,none⟩) nm.length nm.length)):=fun u k=> by
  have z1:w.heap.size < W1.heap.size:=by rw [hW1];simp
  have h:=range_new w #[.slice na nm.length nc,.slice (some ⟨nb,0,none⟩) nm.length nm.length,.slice (some ⟨mb,0,none⟩) nm.length nm.length] 81
  rw [←hW1] at h
  exact ⟨(k.cell z1).trans (h 0 _ rfl),(k.cell z1).trans (h 1 _ rfl),(k.cell z1).trans (h 2 _ rfl)⟩
 go_enter Tryz.func55,Tryz.ntmps55
 go_upto_region 1 with fail
 rw [←hW1]
 clear hW1
 obtain ⟨s0,s1,s2⟩:=HB.out _ (Kept.refl _)
 go_wp2_with fail
 clear s0 s1 s2
 go_loopw [3,10] (fun x3 x10 wr=> ∃(i:Nat) (cs:List Nat) (av:Option Addr) (cv:Nat),i≤nm.length∧x10= .int .i64 (i:Int)∧x3= .slice av cs.length cv∧cs.length≤i∧Hid (wr.ownsRow W1.heap.size 3 1 (.slice av cs.length cv) cs.length (cs.map natV))∧Hid (cs.Nodup)∧Hid (∀q,q∈cs↔q < i∧OnCirc (EdgeP E nm) q)∧Kept W1 wr) (fun _ x10 _=> nm.length - (intOf x10).toNat)
 case atStart=> exact ⟨0,[],none,0,Nat.zero_le _,rfl,rfl,Nat.zero_le _,World.ownsRow_nil _ _ _ _,hide List.nodup_nil,hide (fun q=> by simp),Kept.refl _⟩
 case round=>
  obtain ⟨i,cs,av,cv,hi,rfl,rfl,hcl,HO,HNd,HC,Kr⟩:=hrel
  obtain ⟨s0,s1,s2⟩:=HB.out _ Kr
  by_cases hil:i < nm.length
  rotate_left
  ·have hnl: ¬((i:Int) < (nm.length:Int)):=by omega
   have HIe:Hid (i=nm.length):=by show i=nm.length;omega
   have HNt:Hid (Nats wr av cs):=by
    obtain ⟨a9,c9,e9,_,h9⟩:=owned_nats HO.out rfl
    simp only [Value.slice.injEq,true_and] at e9
    rw [←e9.1] at h9
    exact h9
   have HC2:Hid (∀q,q∈cs↔q < nm.length∧OnCirc (EdgeP E nm) q):=fun q=> by rw [HC.out,HIe.out]
   clear hil
   go_wp2_with fail
   refine (leadingTo_any wr na nc nm nb mb need back E M av cv cs (fun p hp=> ((HC2.out p).1 hp).1) HNd.out hn hM (hV.kept (k1.trans Kr)) hR HNt.out).mono ?_
   rintro e w2 ⟨la,lc,l,rfl,hNl,hl60,hlp,hlm,k2⟩
   have HNl:=hide hNl
   have HLp:=hide hlp
   have HLm:=hide hlm
   clear hNl hlp hlm s0 s1 s2
   go_wp2_with fail
   go_ret
   exact ⟨la,lc,l,cs,rfl,HNl.out,hl60,HLp.out,HC2.out,HLm.out,k1.trans (Kr.trans k2)⟩
  have hii: (i:Int) < (nm.length:Int):=by omega
  go_wp2_with fail
  refine (distances_any wr na nc nm nb mb need back E M i hil hn hM (hV.kept (k1.trans Kr)) hR).mono ?_
  rintro e w2 ⟨A,size,rfl,hD,hs60,k2⟩
  have HD:=hide hD
  obtain ⟨az,haz⟩: ∃az,az=awayV A:= ⟨_,rfl⟩
  have HI:Hid ((Tryz.prog.info? 155).map (·.size)=some az.size):=by rw [haz,awayV_size];exact Tryz.size60
  have HSz:Hid ((Array.replicate 60 (Value.int .i64 0)).size=az.size):=by show _=_;rw [haz,awayV_size];simp
  have HOn:Hid (az.all (·.oneCell')=true):=by rw [haz];exact awayV_one A
  obtain ⟨WA,hWA⟩: ∃WA,WA=w2.alloc (.cells az 155):= ⟨_,rfl⟩
  have kA:Kept wr WA:=by rw [hWA];exact k2.trans ((Kept.refl _).alloc _)
  rw [←haz]
  have HWA:=hide hWA
  have HOA:=hide (ownsRow_kept' HO.out kA)
  have KA:=Kr.trans kA
  clear haz hWA hD s0 s1 s2 k2 HO
  go_upto_region 6 with (rw [z60];refine wpList_store_new rfl 155 (.tmp 5) (.tmp 17) rfl _ az rfl rfl HI.out HSz.out HOn.out ?_)
  rw [←HWA.out]
  by_cases hs0:size=0
  ·have hng: ¬((0:Int) < (size:Int)):=by omega
   have HC2:Hid (∀q,q∈cs↔q < i+1∧OnCirc (EdgeP E nm) q):=fun q=> by
    rw [HC.out]
    constructor
    ·rintro ⟨h1,h2⟩;exact ⟨by omega,h2⟩
    ·rintro ⟨h1,m,h2⟩
     by_cases e:q=i
     ·subst e;exact absurd h2 (HD.out.no hs0 m)
     ·exact ⟨by omega,m,h2⟩
   clear hs0
   go_wp2_with fail
   go_roundw
   case rel=> exact ⟨i+1,cs,av,cv,by omega,by go_num,rfl,by omega,HOA,HNd,HC2,KA⟩
   case measure=> simp [intOf];omega
  have hsg: (0:Int) < (size:Int):=by omega
  have HC2:Hid (∀q,q∈cs++ [i]↔q < i+1∧OnCirc (EdgeP E nm) q):=fun q=> by
   rw [List.mem_append,List.mem_singleton,HC.out]
   constructor
   ·rintro (⟨h1,h2⟩ | rfl)
    ·exact ⟨by omega,h2⟩
    ·exact ⟨by omega,size,(HD.out.yes hs0).1⟩
   ·rintro ⟨h1,h2⟩
    by_cases e:q=i
    ·exact .inr e
    ·exact .inl ⟨by omega,h2⟩
  have HN2:Hid ((cs++ [i]).Nodup):=by
   show (cs++ [i]).Nodup
   rw [List.nodup_append]
   exact ⟨HNd.out,by simp,fun a ha b hb e=> by rw [List.mem_singleton] at hb;rw [e,hb] at ha;have:= ((HC.out i).1 ha).1;omega⟩
  clear hs0
  obtain ⟨ic,hc0,hc1,hc2,hc3⟩:=info_parts Tryz.infoIntL
  have ka:Kept WA (WA.alloc (.cells #[.int .i64 (i:Int)] 3)):= (Kept.refl _).alloc _
  have HOw:=hide (ownsRow_kept' HOA.out ka)
  have HKK:=hide (KA.trans ka)
  have hbz:W1.heap.size≤(WA.alloc (.cells #[.int .i64 (i:Int)] 3)).heap.size:=HKK.out.size
  have HNw:Hid (∀j u,([.int .i64 (i:Int)]:List Value)[j]? =some u→(WA.alloc (.cells #[.int .i64 (i:Int)] 3)).cell? ((⟨WA.heap.size,0,none⟩:Addr).add j)=some u):=fun j u hu=> by rw [Addr.add_mid];exact range_new WA #[.int .i64 (i:Int)] 3 j u hu
  have HOne:Hid (∀u∈([.int .i64 (i:Int)]:List Value),u.oneCell'=true):=fun u hu=> by simp only [List.mem_cons,List.not_mem_nil,or_false] at hu;subst hu;rfl
  clear ka
  go_wp2_with (at_builtin;refine wpList_append_own _ rfl (.tmp 21) (.tmp 23) 84 rfl W1.heap.size 3 ic _ 1 8 Tryz.underlying84 hc0 hc1 hc2 hc3 rfl (by decide) (.slice av cs.length cv) cs.length (cs.map natV) rfl HOw.out ⟨WA.heap.size,0,none⟩ 1 1 [.int .i64 (i:Int)] rfl rfl HNw.out HOne.out (by unfold maxLen;omega) (by omega) hbz ?_;intro v' w6 hown2 hgr _;have KP:=kept_of_grown HKK.out (Nat.le_refl _) HOw.out hgr;have HP2:=hide hown2;obtain ⟨av2,cv2,rfl⟩:=own_slice hown2;clear hown2 hgr)
  go_roundw
  case rel=> exact ⟨i+1,cs++ [i],av2,cv2,by omega,by go_num,by rw [List.length_append];rfl,by rw [List.length_append];simp;omega,hide (by rw [List.length_append,List.map_append];exact HP2.out),HN2,HC2,KP⟩
  case measure=> simp [intOf];omega
end Go.Proofs.YteknkpfbjapoiaaGreatDoor
namespace Go.Proofs.YteknkpfbjapoiaaGreatDoor
theorem size_of_walk {R:Nat→Nat→Prop} {t:Nat}: ∀n,1≤n→WalkN R n t t→∃m,SizeP R t m:=by
 intro n
 induction n using Nat.strongRecOn with
 | ind n ih=>
  intro hn hw
  by_cases hs: ∃m,1≤m∧m < n∧WalkN R m t t
  ·obtain ⟨m,h1,h2,h3⟩:=hs
   exact ih m h2 h1 h3
  ·exact ⟨n,hn,hw,fun m h1 h2 h3=> hs ⟨m,h1,h2,h3⟩⟩
theorem stuck_names {E:ByteArray→ByteArray→Prop} {nm names:List ByteArray} (hP:Places E nm) (hsub: ∀s∈nm,s∈names) {l cs:List Nat} (hcs: ∀q,q∈cs↔q < nm.length∧OnCirc (EdgeP E nm) q) (hl: ∀p,p∈l↔p < nm.length∧LeadsTo (EdgeP E nm) cs p) (hpw:l.Pairwise (· < ·)):StuckL E names (l.map (nameOf nm)):=by
 refine ⟨?_,fun s=> ?_⟩
 ·unfold AscB
  rw [List.pairwise_map]
  exact hpw.imp_of_mem fun {p q} hp hq hlt=> by
   have h1:= ((hl p).1 hp).1
   have h2:= ((hl q).1 hq).1
   rw [nameOf_at h1,nameOf_at h2]
   exact (hP.less h1 h2).2 hlt
 ·rw [List.mem_map]
  constructor
  ·rintro ⟨p,hp,rfl⟩
   obtain ⟨h1,c,hc,n,hw⟩:= (hl p).1 hp
   obtain ⟨h2,m,hm1,hm2,_⟩:= (hcs c).1 hc
   rw [nameOf_at h1]
   obtain ⟨h3,hw'⟩:=walk_to hw h1
   obtain ⟨h4,hw2⟩:=walk_to hm2 h3
   obtain ⟨k,rfl⟩: ∃k,m=k+1:= ⟨m - 1,by omega⟩
   exact ⟨hsub _ (List.getElem_mem h1),nm[c],n,hw',k,hw2⟩
  ·rintro ⟨_,c,n,hw,m,hm⟩
   obtain ⟨b,hb,_⟩:=hm.first
   obtain ⟨q,hq,rfl⟩:=hP.place hb
   have hs: ∃(p:Nat) (hp:p < nm.length),nm[p]=s:=by
    cases n with
    | zero=> exact ⟨q,hq,hw.zero.symm⟩
    | succ n=>
     obtain ⟨d,hd,_⟩:=hw.first
     exact hP.place hd
   obtain ⟨p,hp,rfl⟩:=hs
   refine ⟨p,(hl p).2 ⟨hp,q,(hcs q).2 ⟨hq,size_of_walk (m+1) (by omega) (hP.back hq hq hm)⟩,n,hP.back hp hq hw⟩,nameOf_at hp⟩
end Go.Proofs.YteknkpfbjapoiaaGreatDoor
