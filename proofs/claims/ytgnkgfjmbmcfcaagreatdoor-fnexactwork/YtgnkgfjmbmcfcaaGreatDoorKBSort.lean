import Derived.Test.YtgnkgfjmbmcfcaaGreatDoorKBSeq
import Derived.Test.YtgnkgfjmbmcfcaaGreatDoorKShelfS
import Derived.Sort.OwnSorted
import Derived.Sort.Walk0
set_option maxRecDepth 100000
set_option maxHeartbeats 25600000
namespace Go.Proofs.YtgnkgfjmbmcfcaaGreatDoor
open Go.RowKit Go.Sort
def SortedB (l ns:List ByteArray):Prop:=ns.Perm l∧ns.Pairwise fun a b=> ¬lessX b a
theorem SortedB.asc {l ns:List ByteArray} (h:SortedB l ns) (hn:l.Nodup):AscB ns∧∀s,s∈ns↔s∈l:=by
 refine ⟨?_,fun s=> h.1.mem_iff⟩
 have hn2:ns.Nodup:=h.1.nodup_iff.2 hn
 unfold AscB
 exact (h.2.and hn2).imp fun {a b} hab=> by
  rcases lessX_total a b with g | g | g
  ·exact g
  ·exact absurd g hab.2
  ·exact absurd g hab.1
theorem sort_names (l:List ByteArray):SortedB l (((l.map fun s=> s.data.toList).mergeSort fun x y=> decide (x<=y)).map fun x=> (⟨x.toArray⟩:ByteArray)):=by
 constructor
 ·have h:= (List.mergeSort_perm (l.map fun s=> s.data.toList) (fun x y=> decide (x<=y))).map (fun x:List UInt8=> (⟨x.toArray⟩:ByteArray))
  rw [List.map_map] at h
  have e: ((fun x:List UInt8=> (⟨x.toArray⟩:ByteArray)) ∘ fun s:ByteArray=> s.data.toList)=id:=by
   funext s
   simp
  rw [e,List.map_id] at h
  exact h
 ·rw [List.pairwise_map]
  have h:=List.pairwise_mergeSort (le:=fun x y:List UInt8=> decide (x<=y)) (fun a b c h1 h2=> by
   simp only [decide_eq_true_eq] at h1 h2⊢
   exact List.le_trans h1 h2) (fun a b=> by
   simp only [Bool.or_eq_true,decide_eq_true_eq]
   exact List.le_total a b) (l.map fun s=> s.data.toList)
  refine h.imp fun {a b} hab=> ?_
  simp only [decide_eq_true_eq] at hab
  unfold lessX
  rw [bytesLess_eq]
  simp only [decide_eq_true_eq]
  have e1: ∀x:List UInt8,(⟨x.toArray⟩:ByteArray).toList=x:=fun x=> by simp [ByteArray.toList_eq]
  rw [e1,e1]
  exact List.not_lt.2 hab
theorem enc_names (l:List ByteArray): (l.map fun s=> s.data.toList).map encStr=l.map Value.string:=by
 rw [List.map_map]
 apply List.map_congr_left
 intro s _
 simp [encStr]
theorem sorted_any (w:World) (Bs:Nat) (d:Option Addr) (dc:Nat) (l:List ByteArray) (hn:l.length<=1048576) (hBs:Bs < w.heap.size) (hc:w.cell? ⟨Bs,0,none⟩=some (.slice d l.length dc)) (hS:Strs w d l):
  Calls Tryz.prog 161 #[.func (.func 185) #[] #[.pointer (some ⟨Bs,0,none⟩)]] w fun e w'=> ∃v ns,e= .returned v∧w'.ownsRow w.heap.size 9 1 v ns.length (ns.map Value.string)∧SortedB l ns∧K_ w w':=by
 go_enter Tryz.func161,Tryz.ntmps161
 go_wp2_with fail
 refine (collect_any w Bs d dc l hn hBs hc hS).mono ?_
 rintro e w1 ⟨v,rfl,h1,k1⟩
 have H1:=Kz h1
 rcases h1.2 with ⟨rfl,h0⟩ | ⟨g,cap,cur,rfl,hb,hg,hnc,hcm,hcs,htk⟩
 ·clear h1
  go_wp2_with fail
  refine (Tryz.slices_Sort_string_none none 0 w1).mono ?_
  rintro e w2 ⟨rfl,hw2⟩
  rw [hw2]
  clear hw2 w2
  go_wp2_with fail
  go_ret
  have e0:l=[]:=List.length_eq_zero_iff.1 h0
  refine ⟨_,[],rfl,World.ownsRow_nil _ _ _ _,by rw [e0];exact ⟨List.Perm.refl _,List.Pairwise.nil⟩,k1⟩
 ·obtain ⟨ss,hss⟩: ∃ss,ss=l.map fun s=> s.data.toList:= ⟨_,rfl⟩
  have hsl:ss.length=l.length:=by rw [hss];simp
  have hH:Holds encStr w1 g 0 ss.toArray:=holds_of_block hg (by rw [hsl,hss,enc_names];simpa using htk)
  have HC:=Kz (Tryz.slices_Sort_string g 0 cap ss w1 hH (heap_lt hg) (by omega))
  have HR:Hid (∀n os,w1.grownBy (grow (putRow encStr (Sort.ahead w1 n) g 0 (ss.mergeSort fun x y=> decide (x<=y)).toArray) os) (some g)∧(grow (putRow encStr (Sort.ahead w1 n) g 0 (ss.mergeSort fun x y=> decide (x<=y)).toArray) os).ownsRow w.heap.size 9 1 (.slice (some ⟨g,0,none⟩) ss.length cap) ss.length ((ss.mergeSort fun x y=> decide (x<=y)).map encStr)):=fun n os=> ⟨grownBy_sorted _,ownsRow_sorted (by simp) hb hg (by omega) hcm (by simpa using hcs)⟩
  rw [hsl] at HC
  have HSs:=Kz hss
  have HSl:=Kz hsl
  clear h1 htk hcs hcm hnc hg hH hss hsl
  go_wp2_with fail
  refine HC.out.mono ?_
  rintro e w2 ⟨rfl,n,os,hw2⟩
  obtain ⟨hgr,how⟩:=HR.out n os
  rw [<-hw2] at hgr how
  rw [HSl.out] at how
  have HGr:=Kz hgr
  have HOw:=Kz how
  clear hgr how hw2
  go_wp2_with fail
  go_ret
  have hsn:=sort_names l
  rw [<-HSs.out] at hsn
  have hnl: ((ss.mergeSort fun x y=> decide (x<=y)).map fun x=> (⟨x.toArray⟩:ByteArray)).length=l.length:=by simp [HSl.out]
  have hmm: ((ss.mergeSort fun x y=> decide (x<=y)).map fun x=> (⟨x.toArray⟩:ByteArray)).map Value.string= (ss.mergeSort fun x y=> decide (x<=y)).map encStr:=by rw [List.map_map];rfl
  refine ⟨_,_,rfl,by rw [hnl,hmm];exact HOw.out,hsn, ?_⟩
  exact (But.of_grown (S:=fun b=> b=g) HGr.out (fun b e=> (Option.some.inj e).symm)).kept k1 (fun b e=> by rw [e];exact hb)
