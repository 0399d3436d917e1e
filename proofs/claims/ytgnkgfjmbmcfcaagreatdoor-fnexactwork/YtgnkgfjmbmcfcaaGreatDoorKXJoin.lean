import Derived.Test.YtgnkgfjmbmcfcaaGreatDoorKBSame
import Derived.Deep.OwnRows
import Derived.Maps.RangeWalk
set_option maxRecDepth 100000
set_option maxHeartbeats 25600000
namespace Go.Proofs.YtgnkgfjmbmcfcaaGreatDoor
open Go.RowKit
theorem owns_low {w:World} {base base':Nat} {e:TypeId} {size n:Nat} {v:Value} {xs:List Value} (h:w.ownsRow base e size v n xs) (hb:base'<=base):w.ownsRow base' e size v n xs:=by
 refine ⟨h.1, ?_⟩
 rcases h.2 with h2 | ⟨g,cap,cur,h3,h4,h5⟩
 ·exact .inl h2
 ·exact .inr ⟨g,cap,cur,h3,Nat.le_trans hb h4,h5⟩
def StaysOwn (w w':World) (v v':Value) (l r:List ByteArray):Prop:= ∀B,B<=w.heap.size->w.ownsRow B 9 1 v l.length (l.map Value.string)->w'.ownsRow B 9 1 v' r.length (r.map Value.string)
theorem l6Put_own (w:World) (b o cap:Nat) (l:List ByteArray) (x:ByteArray) (hl:l.length<=100000) (hcl:l.length<=cap) (ha:AscB l) (hS:Strs w (some ⟨b,o,none⟩) l):
  Calls Tryz.prog 49 #[.slice (some ⟨b,o,none⟩) l.length cap,.string x] w fun e w'=> ∃b' o' c' r,e= .returned (.slice (some ⟨b',o',none⟩) r.length c')∧r.length<=c'∧PutB l x r∧Strs w' (some ⟨b',o',none⟩) r∧StaysOwn w w' (.slice (some ⟨b,o,none⟩) l.length cap) (.slice (some ⟨b',o',none⟩) r.length c') l r∧K_ w w':=by
 have HA:=Kz ha
 clear ha
 go_enter Tryz.func49,Tryz.ntmps49
 go_wp2
 go_loop [5] (fun i=> ∃k:Nat,k<=l.length∧i= .int .i64 k∧Hid (∀y∈l.take k,lessX y x)) (fun i=> l.length - (intOf i).toNat)
 case atStart=> exact ⟨0,Nat.zero_le _,rfl,Kz fun y hy=> by cases hy⟩
 case round=>
  obtain ⟨k,hk,rfl,HLs⟩:=hrel
  by_cases hlt:k < l.length
  ·obtain ⟨b1,o1,e1,hb,hc⟩:=hS k hlt
   cases e1
   obtain ⟨y,hy⟩: ∃y,y=l.getD k ByteArray.empty:= ⟨_,rfl⟩
   rw [<-hy] at hc
   have hyg:l[k]=y:=by rw [hy];simp [List.getD,hlt]
   have HY:=Kz hyg
   clear hy hyg
   have hki: (k:Int) < (l.length:Int):=by omega
   cases hle: (Op.bytesLess y.toList x.toList)
   ·have HLe:=Kz hle
    cases heq: (y.toList == x.toList)
    ·have HEq:=Kz heq
     have HGr:Hid (∀z∈l.drop k,lessX x z):=fun z hz=> by
      have hxy:lessX x y:=by
       rcases lessX_total x y with g | g | g
       ·exact g
       ·exact absurd g.symm (beq_no HEq.out)
       ·unfold lessX at g;rw [HLe.out] at g;cases g
      rw [List.drop_eq_getElem_cons hlt,HY.out] at hz
      rcases List.mem_cons.1 hz with rfl | hz
      ·exact hxy
      ·obtain ⟨j,hj,rfl⟩:=List.getElem_of_mem hz
       rw [List.getElem_drop]
       have h2:=List.pairwise_iff_getElem.1 HA.out k (k+1+j) hlt (by simp at hj;omega) (by omega)
       rw [HY.out] at h2
       exact lessX_trans hxy h2
     have HNo:Hid (x∉l):=fun h=> by
      rw [<-List.take_append_drop k l] at h
      rcases List.mem_append.1 h with h | h
      ·exact lessX_irrefl x (HLs.out x h)
      ·exact lessX_irrefl x (HGr.out x h)
     obtain ⟨l1,l2,hll,hk1⟩: ∃l1 l2,l=l1++l2∧k=l1.length:= ⟨l.take k,l.drop k,(List.take_append_drop k l).symm,by simp;omega⟩
     subst hk1
     have HPt:Hid (PutB l x (l1++x :: l2)):=by
      have e1:l.take l1.length=l1:=by rw [hll];simp
      have e2:l.drop l1.length=l2:=by rw [hll];simp
      refine .inr ⟨HNo.out,l1.length,hk,by rw [e1,e2],HLs.out,HGr.out⟩
     have hl2:l.length=l1.length+l2.length:=by rw [hll,List.length_append]
     have HS1:Hid (∀W,K_ w W->Strs W (some ⟨b,o,none⟩) l1):=fun W K i hi=> by
      obtain ⟨b',o',e',hb',hc'⟩:= (hS.kept K) i (by omega)
      refine ⟨b',o',e',hb', ?_⟩
      rw [hc',hll]
      simp [List.getD,List.getElem?_append_left hi]
     have HS2:Hid (∀W,K_ w W->Strs W (if cap=l1.length then (some ⟨b,o,none⟩:Option Addr) else some ⟨b,o+l1.length,none⟩) l2):=fun W K i hi=> by
      obtain ⟨b',o',e',hb',hc'⟩:= (hS.kept K) (l1.length+i) (by omega)
      cases e'
      rw [if_neg (by omega)]
      refine ⟨b,o+l1.length,rfl,hb', ?_⟩
      rw [Nat.add_assoc,hc',hll]
      simp [List.getD,List.getElem?_append_right]
     have hdl:l.length - l1.length=l2.length:=by omega
     have hc1:l1.length<=cap:=by omega
     have hc2:l1.length<=l.length:=by omega
     have hb1:l1.length<=100000:=by omega
     have hb2:l2.length<=100000:=by omega
     have HDl:=Kz hdl
     obtain ⟨ic,hi0,hi1,hi2,hi3⟩:=xInfo_parts Tryz.xInfoStr
     have HOE:Hid ((w.alloc (.cells #[] 9)).ownsRow w.heap.size 9 1 (.slice (some ⟨w.heap.size,0,none⟩) 0 0) 0 (([]:List ByteArray).map Value.string)):=World.ownsRow_made w #[] 0 (Nat.le_refl _) (Nat.zero_le _) rfl
     have hzE:w.heap.size<=(w.alloc (.cells #[] 9)).heap.size:=by simp
     have HKE:Hid (K_ w (w.alloc (.cells #[] 9))):= (K_.refl _).alloc _
     clear hll hl2 hdl
     go_upto_region 7 with (at_builtin;refine wpList_append_strs rfl (.tmp 34) (.tmp 37) 25 rfl w.heap.size 9 ic _ 16 Tryz.underlying25 hi0 hi1 hi2 hi3 rfl (.slice (some ⟨w.heap.size,0,none⟩) 0 0) 0 (([]:List ByteArray).map Value.string) rfl HOE.out (some ⟨b,o,none⟩) cap l1 rfl (HS1.out _ HKE.out) (by unfold maxLen;omega) (by omega) hzE ?_;intro v1 w1 ho1 hg1 hv1;rw [Nat.zero_add] at ho1;have HO1:=Kz ho1;have KP1:=kept_of_grown HKE.out (Nat.le_refl _) HOE.out hg1;obtain ⟨av1,cv1,rfl⟩:=own_slice ho1;clear ho1 hg1 hv1)
     refine Qx.region (by kernel_rfl) (fun _=> True) 8 trivial (fun Z_=> ?_)
     have KD:K_ w1 w1.drew:= (K_.refl w1).drew
     generalize hwd:w1.drew=wd at KD⊢
     clear hwd
     refine Qx.tk 0 Z_ ?_
     refine Qx.tk 1 Z_ ?_
     refine Qx.tk 4 Z_ ?_
     refine Qx.tk 5 Z_ ?_
     refine Qx.tk 6 Z_ ?_
     generalize hgd: (if cap=l1.length then (some ⟨b,o,none⟩:Option Addr) else some ⟨b,o+l1.length,none⟩)=ad2 at HS2⊢
     clear hgd
     refine Qx.nx 2 (fun K hK=> ?_)
     go_simp
     have K5:K_ wd (wd.alloc (.cells #[.string x] 9)):= (K_.refl _).alloc _
     have HNs:Hid (Strs (wd.alloc (.cells #[.string x] 9)) (some ⟨wd.heap.size,0,none⟩) [x]):=fun q hq=> by
      obtain rfl:q=0:=by simpa using hq
      exact ⟨wd.heap.size,0,rfl,by simp,Xz wd #[.string x] 9 0 _ rfl⟩
     refine hK.out _ _ (fun _=> trivial) ?_
     clear hK K Z_
     have K5b:=KD.trans K5
     have HO5:=Kz (ownsRow_kept' HO1.out K5b)
     obtain ⟨eb,heb⟩: ∃eb,eb=wd.heap.size:= ⟨_,rfl⟩
     rw [<-heb] at HNs⊢
     generalize hwe:wd.alloc (.cells #[.string x] 9)=w5 at HNs K5b HO5⊢
     clear hwe K5 heb
     have KP5:=KP1.trans K5b
     have hz5:=KP5.size
     try simp only [Act.put,upA,upB,upC]
     refine Qx.nx 3 (fun K hK=> ?_)
     rw [if_pos (by rfl)]
     refine wp_append_strs (.tmp 39) (.tmp 41) 25 rfl w.heap.size 9 ic _ 16 Tryz.underlying25 hi0 hi1 hi2 hi3 rfl (.slice av1 l1.length cv1) l1.length (([]:List ByteArray).map Value.string++l1.map Value.string) rfl HO5.out (some ⟨eb,0,none⟩) 1 [x] rfl HNs.out (by unfold maxLen;simp;omega) (by simp;omega) hz5 ?_
     intro v6 w6 ho6 hg6 hv6
     have HO6:=Kz ho6
     have KP6:=kept_of_grown KP5 (Nat.le_refl _) HO5.out hg6
     obtain ⟨av6,cv6,rfl⟩:=own_slice ho6
     have hz6:=KP6.size
     refine hK.out _ _ (fun _=> trivial) ?_
     clear hK K ho6 hg6 hv6
     try simp only [Act.put,upA,upB,upC]
     refine Qx.nx 7 (fun K hK=> ?_)
     rw [if_pos (by rfl)]
     refine wp_append_strs (.tmp 42) (.tmp 45) 25 rfl w.heap.size 9 ic _ 16 Tryz.underlying25 hi0 hi1 hi2 hi3 rfl (.slice av6 (l1.length+ [x].length) cv6) (l1.length+ [x].length) ((([]:List ByteArray).map Value.string++l1.map Value.string)++ [x].map Value.string) rfl HO6.out ad2 (cap - l1.length) l2 (by rw [<-HDl.out];rfl) (HS2.out _ KP6) (by unfold maxLen;simp;omega) (by simp;omega) hz6 ?_
     intro v7 w7 ho7 hg7 hv7
     have HO7:=Kz ho7
     have KP7:=kept_of_grown KP6 (Nat.le_refl _) HO6.out hg7
     refine hK.out _ _ (fun _=> trivial) ?_
     clear hK K ho7 hg7 hv7
     try simp only [Act.put,upA,upB,upC]
     refine Qx.nx 8 (fun K hK=> ?_)
     go_simp
     refine hK.out _ _ (fun h=> absurd rfl h) ?_
     clear hK K
     try simp only [Act.put,upA,upB,upC]
     refine Qx.dn ?_
     go_wp2
     go_ret
     have hlen: (l1++x :: l2).length=l1.length+ [x].length+l2.length:=by simp;omega
     have ho:w7.ownsRow w.heap.size 9 1 v7 (l1++x :: l2).length ((l1++x :: l2).map Value.string):=by
      have h:=HO7.out
      rw [hlen]
      have e: (l1++x :: l2).map Value.string= ((([]:List ByteArray).map Value.string++l1.map Value.string)++ [x].map Value.string)++l2.map Value.string:=by simp
      rw [e]
      exact h
     rcases ho.2 with ⟨_,h0⟩ | ⟨g,cap7,cur7,e7,_,_,hn7,_,_,_⟩
     ·simp at h0
     ·obtain ⟨a9,c9,e9,h9⟩:=owned_strs ho
      rw [e7] at e9
      simp only [Value.slice.injEq,true_and] at e9
      rw [<-e9.1] at h9
      exact ⟨g,0,cap7,_,by rw [e7];rfl,hn7,HPt.out,h9,fun B hB _=> by rw [<-e7];exact owns_low ho hB,KP7⟩
    ·have HEq:=Kz (beq_yes heq)
     go_wp2
     go_ret
     exact ⟨b,o,cap,l,rfl,hcl,.inl ⟨by rw [<-HEq.out,<-HY.out];exact List.getElem_mem hlt,rfl⟩,hS,fun _ _ h=> h,K_.refl _⟩
   ·have HLe:=Kz hle
    go_wp2
    go_round
    case rel=>
     refine ⟨k+1,by omega,by go_num,Kz fun z hz=> ?_⟩
     rw [List.take_succ_eq_append_getElem hlt] at hz
     rcases List.mem_append.1 hz with hz | hz
     ·exact HLs.out z hz
     ·rw [List.mem_singleton,HY.out] at hz
      rw [hz];exact HLe.out
    case measure=> simp [intOf];omega
  ·have hke:k=l.length:=by omega
   have HGr:Hid (∀z∈l.drop k,lessX x z):=fun z hz=> by rw [hke,List.drop_length] at hz;cases hz
   have HNo:Hid (x∉l):=fun h=> by
    rw [<-List.take_append_drop k l] at h
    rcases List.mem_append.1 h with h | h
    ·exact lessX_irrefl x (HLs.out x h)
    ·exact lessX_irrefl x (HGr.out x h)
   obtain ⟨l1,l2,hll,hk1⟩: ∃l1 l2,l=l1++l2∧k=l1.length:= ⟨l.take k,l.drop k,(List.take_append_drop k l).symm,by simp;omega⟩
   subst hk1
   have HPt:Hid (PutB l x (l1++x :: l2)):=by
    have e1:l.take l1.length=l1:=by rw [hll];simp
    have e2:l.drop l1.length=l2:=by rw [hll];simp
    refine .inr ⟨HNo.out,l1.length,hk,by rw [e1,e2],HLs.out,HGr.out⟩
   have hl2:l.length=l1.length+l2.length:=by rw [hll,List.length_append]
   have HS1:Hid (∀W,K_ w W->Strs W (some ⟨b,o,none⟩) l1):=fun W K i hi=> by
    obtain ⟨b',o',e',hb',hc'⟩:= (hS.kept K) i (by omega)
    refine ⟨b',o',e',hb', ?_⟩
    rw [hc',hll]
    simp [List.getD,List.getElem?_append_left hi]
   have HS2:Hid (∀W,K_ w W->Strs W (if cap=l1.length then (some ⟨b,o,none⟩:Option Addr) else some ⟨b,o+l1.length,none⟩) l2):=fun W K i hi=> by
    obtain ⟨b',o',e',hb',hc'⟩:= (hS.kept K) (l1.length+i) (by omega)
    cases e'
    rw [if_neg (by omega)]
    refine ⟨b,o+l1.length,rfl,hb', ?_⟩
    rw [Nat.add_assoc,hc',hll]
    simp [List.getD,List.getElem?_append_right]
   have hdl:l.length - l1.length=l2.length:=by omega
   have hc1:l1.length<=cap:=by omega
   have hc2:l1.length<=l.length:=by omega
   have hb1:l1.length<=100000:=by omega
   have hb2:l2.length<=100000:=by omega
   have HDl:=Kz hdl
   obtain ⟨ic,hi0,hi1,hi2,hi3⟩:=xInfo_parts Tryz.xInfoStr
   have HOE:Hid ((w.alloc (.cells #[] 9)).ownsRow w.heap.size 9 1 (.slice (some ⟨w.heap.size,0,none⟩) 0 0) 0 (([]:List ByteArray).map Value.string)):=World.ownsRow_made w #[] 0 (Nat.le_refl _) (Nat.zero_le _) rfl
   have hzE:w.heap.size<=(w.alloc (.cells #[] 9)).heap.size:=by simp
   have HKE:Hid (K_ w (w.alloc (.cells #[] 9))):= (K_.refl _).alloc _
   clear hll hl2 hdl hke
   go_upto_region 7 with (at_builtin;refine wpList_append_strs rfl (.tmp 34) (.tmp 37) 25 rfl w.heap.size 9 ic _ 16 Tryz.underlying25 hi0 hi1 hi2 hi3 rfl (.slice (some ⟨w.heap.size,0,none⟩) 0 0) 0 (([]:List ByteArray).map Value.string) rfl HOE.out (some ⟨b,o,none⟩) cap l1 rfl (HS1.out _ HKE.out) (by unfold maxLen;omega) (by omega) hzE ?_;intro v1 w1 ho1 hg1 hv1;rw [Nat.zero_add] at ho1;have HO1:=Kz ho1;have KP1:=kept_of_grown HKE.out (Nat.le_refl _) HOE.out hg1;obtain ⟨av1,cv1,rfl⟩:=own_slice ho1;clear ho1 hg1 hv1)
   refine Qx.region (by kernel_rfl) (fun _=> True) 8 trivial (fun Z_=> ?_)
   have KD:K_ w1 w1.drew:= (K_.refl w1).drew
   generalize hwd:w1.drew=wd at KD⊢
   clear hwd
   refine Qx.tk 0 Z_ ?_
   refine Qx.tk 1 Z_ ?_
   refine Qx.tk 4 Z_ ?_
   refine Qx.tk 5 Z_ ?_
   refine Qx.tk 6 Z_ ?_
   generalize hgd: (if cap=l1.length then (some ⟨b,o,none⟩:Option Addr) else some ⟨b,o+l1.length,none⟩)=ad2 at HS2⊢
   clear hgd
   refine Qx.nx 2 (fun K hK=> ?_)
   go_simp
   have K5:K_ wd (wd.alloc (.cells #[.string x] 9)):= (K_.refl _).alloc _
   have HNs:Hid (Strs (wd.alloc (.cells #[.string x] 9)) (some ⟨wd.heap.size,0,none⟩) [x]):=fun q hq=> by
    obtain rfl:q=0:=by simpa using hq
    exact ⟨wd.heap.size,0,rfl,by simp,Xz wd #[.string x] 9 0 _ rfl⟩
   refine hK.out _ _ (fun _=> trivial) ?_
   clear hK K Z_
   have K5b:=KD.trans K5
   have HO5:=Kz (ownsRow_kept' HO1.out K5b)
   obtain ⟨eb,heb⟩: ∃eb,eb=wd.heap.size:= ⟨_,rfl⟩
   rw [<-heb] at HNs⊢
   generalize hwe:wd.alloc (.cells #[.string x] 9)=w5 at HNs K5b HO5⊢
   clear hwe K5 heb
   have KP5:=KP1.trans K5b
   have hz5:=KP5.size
   try simp only [Act.put,upA,upB,upC]
   refine Qx.nx 3 (fun K hK=> ?_)
   rw [if_pos (by rfl)]
   refine wp_append_strs (.tmp 39) (.tmp 41) 25 rfl w.heap.size 9 ic _ 16 Tryz.underlying25 hi0 hi1 hi2 hi3 rfl (.slice av1 l1.length cv1) l1.length (([]:List ByteArray).map Value.string++l1.map Value.string) rfl HO5.out (some ⟨eb,0,none⟩) 1 [x] rfl HNs.out (by unfold maxLen;simp;omega) (by simp;omega) hz5 ?_
   intro v6 w6 ho6 hg6 hv6
   have HO6:=Kz ho6
   have KP6:=kept_of_grown KP5 (Nat.le_refl _) HO5.out hg6
   obtain ⟨av6,cv6,rfl⟩:=own_slice ho6
   have hz6:=KP6.size
   refine hK.out _ _ (fun _=> trivial) ?_
   clear hK K ho6 hg6 hv6
   try simp only [Act.put,upA,upB,upC]
   refine Qx.nx 7 (fun K hK=> ?_)
   rw [if_pos (by rfl)]
   refine wp_append_strs (.tmp 42) (.tmp 45) 25 rfl w.heap.size 9 ic _ 16 Tryz.underlying25 hi0 hi1 hi2 hi3 rfl (.slice av6 (l1.length+ [x].length) cv6) (l1.length+ [x].length) ((([]:List ByteArray).map Value.string++l1.map Value.string)++ [x].map Value.string) rfl HO6.out ad2 (cap - l1.length) l2 (by rw [<-HDl.out];rfl) (HS2.out _ KP6) (by unfold maxLen;simp;omega) (by simp;omega) hz6 ?_
   intro v7 w7 ho7 hg7 hv7
   have HO7:=Kz ho7
   have KP7:=kept_of_grown KP6 (Nat.le_refl _) HO6.out hg7
   refine hK.out _ _ (fun _=> trivial) ?_
   clear hK K ho7 hg7 hv7
   try simp only [Act.put,upA,upB,upC]
   refine Qx.nx 8 (fun K hK=> ?_)
   go_simp
   refine hK.out _ _ (fun h=> absurd rfl h) ?_
   clear hK K
   try simp only [Act.put,upA,upB,upC]
   refine Qx.dn ?_
   go_wp2
   go_ret
   have hlen: (l1++x :: l2).length=l1.length+ [x].length+l2.length:=by simp;omega
   have ho:w7.ownsRow w.heap.size 9 1 v7 (l1++x :: l2).length ((l1++x :: l2).map Value.string):=by
    have h:=HO7.out
    rw [hlen]
    have e: (l1++x :: l2).map Value.string= ((([]:List ByteArray).map Value.string++l1.map Value.string)++ [x].map Value.string)++l2.map Value.string:=by simp
    rw [e]
    exact h
   rcases ho.2 with ⟨_,h0⟩ | ⟨g,cap7,cur7,e7,_,_,hn7,_,_,_⟩
   ·simp at h0
   ·obtain ⟨a9,c9,e9,h9⟩:=owned_strs ho
    rw [e7] at e9
    simp only [Value.slice.injEq,true_and] at e9
    rw [<-e9.1] at h9
    exact ⟨g,0,cap7,_,by rw [e7];rfl,hn7,HPt.out,h9,fun B hB _=> by rw [<-e7];exact owns_low ho hB,KP7⟩
theorem WaitL.nil {W:Acts} {σ:Env} {n:ByteArray} (h: ∀s,¬WaitsX W σ n s):WaitL W σ n []:= ⟨List.Pairwise.nil,fun s=> ⟨fun e=> (by cases e),fun e=> (h s e).elim⟩⟩
def WaitsOwn (Kj:List Qq) (sl:List Qz) (name:ByteArray) (w w':World) (e:Ending):Prop:=
 ∃(b o c:Nat) (ns:List ByteArray),e= .returned (.slice (some ⟨b,o,none⟩) ns.length c)∧ns.length<=c∧Strs w' (some ⟨b,o,none⟩) ns∧WaitL (Q_ Kj) (Qj sl) name ns∧w'.ownsRow w.heap.size 9 1 (.slice (some ⟨b,o,none⟩) ns.length c) ns.length (ns.map Value.string)
def WaitsSaid (Kj:List Qq) (sl:List Qz) (name:ByteArray) (w':World) (e:Ending):Prop:=
 ∃(b o c:Nat) (ns:List ByteArray),e= .returned (.slice (some ⟨b,o,none⟩) ns.length c)∧ns.length<=c∧Strs w' (some ⟨b,o,none⟩) ns∧WaitL (Q_ Kj) (Qj sl) name ns
theorem l6Waits_own (w:World) (a:Option Addr) (cap:Nat) (Kj:List Qq) (ra:Option Addr) (rn rc:Nat) (d:Option Addr) (dc:Nat) (sl:List Qz) (name:ByteArray) (hwl:Kj.length<=1048576) (hsl:sl.length<=1048576) (hok:ActsOk (Q_ Kj)) (hg:GoodL Kj sl) (hN:Nodes w a Kj) (hS:RunsX w d sl):
  Calls Tryz.prog 103 #[.agg #[.slice a Kj.length cap],.agg #[.slice ra rn rc,.slice d sl.length dc],.string name] w fun e w'=> WaitsOwn Kj sl name w w' e∧K_ w w':=by
 obtain ⟨WB,hWB⟩: ∃WB,WB= (w.alloc (.cells #[.slice a Kj.length cap] 37)).alloc (.cells #[.slice ra rn rc,.slice d sl.length dc] 53):= ⟨_,rfl⟩
 have kB:K_ w WB:=by rw [hWB];exact ((K_.refl _).alloc _).alloc _
 have hBs:WB.heap.size=w.heap.size+2:=by rw [hWB];simp
 have b0:WB.cell? ⟨w.heap.size,0,none⟩=some (.slice a Kj.length cap):=by rw [hWB,K_.cell (w:=w.alloc (.cells #[.slice a Kj.length cap] 37)) ((K_.refl _).alloc _) (by simp)];exact Xz w _ _ 0 _ rfl
 have s0:WB.cell? ⟨w.heap.size+1,0,none⟩=some (.slice ra rn rc):=by have:=Xz (w.alloc (.cells #[.slice a Kj.length cap] 37)) #[.slice ra rn rc,.slice d sl.length dc] 53 0 _ rfl;rw [World.size_alloc] at this;rw [hWB];exact this
 have s1:WB.cell? ⟨w.heap.size+1,1,none⟩=some (.slice d sl.length dc):=by have:=Xz (w.alloc (.cells #[.slice a Kj.length cap] 37)) #[.slice ra rn rc,.slice d sl.length dc] 53 1 _ rfl;rw [World.size_alloc] at this;rw [hWB];exact this
 have z0:w.heap.size < WB.heap.size:=by omega
 have z1:w.heap.size+1 < WB.heap.size:=by omega
 have HC:Hid (∀w',K_ WB w'->w'.cell? ⟨w.heap.size,0,none⟩=some (.slice a Kj.length cap)∧w'.cell? ⟨w.heap.size+1,0,none⟩=some (.slice ra rn rc)∧w'.cell? ⟨w.heap.size+1,1,none⟩=some (.slice d sl.length dc)∧w.heap.size < w'.heap.size∧w.heap.size+1 < w'.heap.size):=fun w' K=> ⟨(K.cell z0).trans b0,(K.cell z1).trans s0,(K.cell z1).trans s1,Nat.lt_of_lt_of_le z0 K.size,Nat.lt_of_lt_of_le z1 K.size⟩
 have kE:K_ WB (WB.alloc (.cells #[] 9)):= (K_.refl _).alloc _
 have HOE:Hid (∀u,K_ (WB.alloc (.cells #[] 9)) u->u.ownsRow w.heap.size 9 1 (.slice (some ⟨WB.heap.size,0,none⟩) 0 0) 0 (([]:List ByteArray).map Value.string)):=fun u k=> ownsRow_kept' (owns_low (World.ownsRow_made WB #[] 0 (Nat.le_refl _) (Nat.zero_le _) rfl) kB.size) k
 have HKB:=Kz kB
 have HGd:=Kz hg
 clear kB hBs b0 s0 s1 hg
 go_enter Tryz.func103,Tryz.ntmps103
 go_upto_region 1 with fail
 rw [<-hWB]
 clear hWB
 go_upto_region 2 with fail
 obtain ⟨WE,hWE⟩: ∃WE,WE=WB.alloc (.cells #[] 9):= ⟨_,rfl⟩
 rw [<-hWE] at kE HOE⊢
 clear hWE
 obtain ⟨b0,s0,s1,y0,y1⟩:=HC.out _ kE
 go_wp2_with fail
 refine (l4At_place WE ra rn rc d dc sl name hsl (hS.kept (HKB.out.trans kE))).mono ?_
 rintro e w1 ⟨⟨p,rfl,hp⟩,k1⟩
 have K1:=kE.trans k1
 have HO1:=Kz (HOE.out _ k1)
 clear b0 s0 s1 y0 y1 k1 kE HOE
 obtain ⟨b0,s0,s1,y0,y1⟩:=HC.out _ K1
 rcases hp with ⟨k,hk,rfl,henv,hkn⟩ | ⟨rfl,henv⟩
 rotate_left
 ·have HEn:=Kz henv
  clear henv
  go_wp2_with fail
  go_ret
  exact ⟨⟨WB.heap.size,0,0,[],rfl,Nat.le_refl _,(fun i hi=> by cases hi),(WaitL.nil fun s h=> by obtain ⟨r,_,hr,_⟩:=h;rw [HEn.out] at hr;cases hr),HO1.out⟩,HKB.out.trans K1⟩
 obtain ⟨r,hr⟩: ∃r,r=sl.getD k Qz.zero:= ⟨_,rfl⟩
 rw [<-hr] at henv hkn
 obtain ⟨rb,ro,xa,xc,e1,hrb,hrc,_,_⟩:= (hS.kept (HKB.out.trans K1)) k hk
 rw [<-hr] at hrc
 subst e1
 have t1:=hrc 1 _ rfl
 have t4:=hrc 4 _ rfl
 have t5:=hrc 5 _ rfl
 have hki: (k:Int) < (sl.length:Int):=by omega
 have HEn:=Kz henv
 clear henv hrc hr
 by_cases hov:r.over=true∨r.Zj=0
 ·have HOv:=Kz hov
  have HFin:Hid (WaitL (Q_ Kj) (Qj sl) name []):=WaitL.nil fun s h=> by
   obtain ⟨r',_,hr',h1,h2,_⟩:=h
   rw [HEn.out] at hr'
   cases hr'
   rcases HOv.out with h3 | h3
   ·rw [h1] at h3;cases h3
   ·exact h2 h3
  have hcs:r.over=true∨(r.over=false∧r.Zj=0):=by
   rcases hov with h | h
   ·exact .inl h
   ·cases h1:r.over
    ·exact .inr ⟨rfl,h⟩
    ·exact .inl rfl
  clear hov
  rcases hcs with h | ⟨h,h2⟩
  ·rw [h] at t1
   go_wp2_with fail
   go_ret
   exact ⟨⟨WB.heap.size,0,0,[],rfl,Nat.le_refl _,(fun i hi=> by cases hi),HFin.out,HO1.out⟩,HKB.out.trans K1⟩
  ·rw [h] at t1
   rw [h2] at t5
   go_wp2_with fail
   go_ret
   exact ⟨⟨WB.heap.size,0,0,[],rfl,Nat.le_refl _,(fun i hi=> by cases hi),HFin.out,HO1.out⟩,HKB.out.trans K1⟩
 have ho:r.over=false:=by
  cases h1:r.over
  ·rfl
  ·exact absurd (.inl h1) hov
 have hv:r.Zj≠0:=fun e=> hov (.inr e)
 have hvb: (r.Zj == 0)=false:=by simpa using hv
 obtain ⟨A,hA,ha0,ha1⟩:= (HGd.out.good r (env_mem HEn.out).1).act
 rw [hkn] at hA
 obtain ⟨j,hj,hjn,hjf,rfl⟩:=acts_first hA
 obtain ⟨y,hy⟩: ∃y,y=Kj.getD j Qq.zero:= ⟨_,rfl⟩
 rw [<-hy] at hA ha1
 dsimp only at ha1
 obtain ⟨nb,nq,cs,e2,hnb0,hcs,na,nc,rfl,hSt⟩:=hN j hj
 subst e2
 rw [<-hy] at hcs hSt
 obtain ⟨ix,hix⟩: ∃ix:Nat,r.at'= (ix:Int):= ⟨r.at'.toNat,by omega⟩
 have hixl:ix < y.steps.length:=by omega
 obtain ⟨tb,tq,cs2,e3,htb,hcs2,aa,ca,ac,cc,rfl,hAs,_,_⟩:=hSt ix hixl
 subst e3
 obtain ⟨s,hs⟩: ∃s,s=y.steps.getD ix Xj.zero:= ⟨_,rfl⟩
 rw [<-hs] at hcs2 hAs
 have n2:=hcs 2 _ rfl
 have m0:=hcs2 0 _ rfl
 rw [Nat.add_zero] at m0
 have HStep:Hid (stepOf ⟨y.cost,y.steps⟩ r.at'=s):=by show _=_;unfold stepOf;rw [hix,hs];rfl
 have hal:s.asks.length<=5:=by have h:= (asks_ok (hok _ _ hA).1 ha0 ha1).1;rw [HStep.out] at h;exact h
 have HKn:=Kz hjn
 have HKf:=Kz hjf
 have HAct:=Kz hA
 have HVis:=Kz hv
 have HOv:=Kz ho
 have hji: (j:Int) < (Kj.length:Int):=by omega
 have hii: (ix:Int) < (y.steps.length:Int):=by omega
 rw [hix] at t4
 rw [ho] at t1
 have KN:=HKB.out.trans K1
 have HS5:Hid (∀w',K_ w1 w'->w'.cell? ⟨w.heap.size,0,none⟩=some (.slice (some ⟨nb,nq,none⟩) Kj.length cap)∧w'.cell? ⟨w.heap.size+1,1,none⟩=some (.slice (some ⟨rb,ro,none⟩) sl.length dc)∧w'.cell? ⟨rb,ro+k * 7+4,none⟩=some (.int .i64 (ix:Int))∧w'.cell? ⟨nb,nq+j * 3+2,none⟩=some (.slice (some ⟨tb,tq,none⟩) y.steps.length nc)∧w'.cell? ⟨tb,tq+ix * 8,none⟩=some (.slice aa s.asks.length ca)):=fun w' K=> ⟨(HC.out w' (K1.trans K)).1,(HC.out w' (K1.trans K)).2.2.1,(K.cell hrb).trans t4,((KN.trans K).cell hnb0).trans n2,((KN.trans K).cell htb).trans m0⟩
 have HN1:=Kz (hN.kept KN)
 have HAs:=Kz hAs
 clear hov hA hy hcs hSt hcs2 hAs hs hix ha0 ha1 hv ho hjn hjf n2 m0 hkn
 go_upto_region 5 with fail
 clear t1 t4 t5 hvb b0 s0 s1 y0 y1
 refine Qx.rg 18 HS5.out fun wd KD Z_=> ?_
 refine Qx.tk 0 Z_ ?_
 refine Qx.tk 1 Z_ ?_
 refine Qx.tk 2 Z_ ?_
 refine Qx.tk 3 Z_ ?_
 refine Qx.tk 9 Z_ ?_
 refine Qx.tk 10 Z_ ?_
 refine Qx.tk 11 Z_ ?_
 refine Qx.tk 12 Z_ ?_
 refine Qx.tk 13 Z_ ?_
 refine Qx.tk 14 Z_ ?_
 refine Qx.nx 4 (fun K hK=> ?_)
 rw [if_pos (by rfl)]
 go_simp
 go_at_call 55
 refine (l2At_place wd (some ⟨nb,nq,none⟩) cap Kj name hwl (HN1.out.kept KD)).mono ?_
 rintro e w2 ⟨⟨q,rfl,hq⟩,k2⟩
 have K2:=KD.trans k2
 obtain rfl:q= (j:Int):=by
  rcases hq with ⟨k',_,e',_,h1,h2⟩ | ⟨_,h1⟩
  ·rw [e',first_unique HKn.out HKf.out h1 h2]
  ·rw [HAct.out] at h1;cases h1
 clear hq
 dsimp only
 refine hK.out _ _ (fun _=> HS5.out _ K2) ?_
 clear hK K
 try simp only [Act.put,upA,upB,upC]
 clear Z_
 have Z_:=HS5.out _ K2
 refine Qx.tk 5 Z_ ?_
 refine Qx.tk 6 Z_ ?_
 refine Qx.tk 7 Z_ ?_
 refine Qx.tk 8 Z_ ?_
 refine Qx.tk 15 Z_ ?_
 refine Qx.tk 16 Z_ ?_
 refine Qx.tk 17 Z_ ?_
 refine Qx.nx 18 (fun K hK=> ?_)
 go_simp
 refine hK.out _ _ (fun h=> absurd rfl h) ?_
 clear hK K
 try simp only [Act.put,upA,upB,upC]
 refine Qx.dn ?_
 clear Z_
 have K2':=K1.trans K2
 have HAs2:Hid (∀W,K_ w2 W->Strs W aa s.asks):=fun W K=> HAs.out.kept (KN.trans (K2.trans K))
 have HE2:Hid (Strs w2 (some ⟨WB.heap.size,0,none⟩) []):=fun i hi=> by cases hi
 go_wp2_with fail
 go_loopg [7,10] s.asks.length (fun gg x7 x10 wr=> ∃(i b o c:Nat) (ns:List ByteArray),x10= .int .i64 (i:Int)∧i+gg=s.asks.length∧x7= .slice (some ⟨b,o,none⟩) ns.length c∧ns.length<=c∧ns.length<=i∧Hid (AscB ns)∧Hid (∀z,z∈ns↔z∈s.asks.take i∧OpenN (Qj sl) z)∧Hid (Strs wr (some ⟨b,o,none⟩) ns)∧Hid (wr.ownsRow w.heap.size 9 1 (.slice (some ⟨b,o,none⟩) ns.length c) ns.length (ns.map Value.string))∧K_ w2 wr)
 case atStart=> exact ⟨0,WB.heap.size,0,0,[],rfl,by omega,rfl,Nat.le_refl _,Nat.le_refl _,Kz List.Pairwise.nil,Kz (fun z=> by simp),HE2,Kz (ownsRow_kept' HO1.out K2),K_.refl _⟩
 case round=>
  clear HE2 HS5
  obtain ⟨i,b,o,c,ns,rfl,hig,rfl,hnc,hni,HAsc,HMem,HNs,HOr,Kw⟩:=hrel
  have Kr:=K2'.trans Kw
  by_cases hlt:i < s.asks.length
  ·obtain ⟨ab,ao,rfl,hab,hac⟩:= (HAs2.out wr Kw) i hlt
   obtain ⟨x,hx⟩: ∃x,x=s.asks.getD i ByteArray.empty:= ⟨_,rfl⟩
   rw [<-hx] at hac
   have hxg:s.asks[i]=x:=by rw [hx];simp [List.getD,hlt]
   have HXg:=Kz hxg
   have hilt: (i:Int) < (s.asks.length:Int):=by omega
   have HS9:Hid (∀w',K_ wr w'->w'.cell? ⟨w.heap.size+1,0,none⟩=some (.slice ra rn rc)∧w'.cell? ⟨w.heap.size+1,1,none⟩=some (.slice (some ⟨rb,ro,none⟩) sl.length dc)∧w'.cell? ⟨ab,ao+i,none⟩=some (.string x)):=fun w' K=> ⟨(HC.out w' (Kr.trans K)).2.1,(HC.out w' (Kr.trans K)).2.2.1,(K.cell hab).trans hac⟩
   obtain ⟨_,c1,c2,y0,y1⟩:=HC.out wr Kr
   clear hx hxg
   go_upto_region 9 with fail
   clear c1 c2 hac
   refine Qx.rg 6 HS9.out fun wd KD Z_=> ?_
   refine Qx.tk 0 Z_ ?_
   refine Qx.tk 1 Z_ ?_
   refine Qx.tk 2 Z_ ?_
   refine Qx.tk 3 Z_ ?_
   refine Qx.tk 4 Z_ ?_
   refine Qx.nx 5 (fun K hK=> ?_)
   rw [if_pos (by rfl)]
   go_simp
   go_at_call 52
   refine (l4At_place wd ra rn rc (some ⟨rb,ro,none⟩) dc sl x hsl (hS.kept (HKB.out.trans (Kr.trans KD)))).mono ?_
   rintro e w3 ⟨⟨q,rfl,hq⟩,k3⟩
   have K3:=KD.trans k3
   refine hK.out _ _ (fun _=> HS9.out _ K3) ?_
   clear hK K Z_
   try simp only [Act.put,upA,upB,upC]
   refine Qx.nx 6 (fun K hK=> ?_)
   go_simp
   refine hK.out _ _ (fun h=> absurd rfl h) ?_
   clear hK K
   try simp only [Act.put,upA,upB,upC]
   refine Qx.dn ?_
   obtain ⟨c0,c1,c2,y0,y1⟩:=HC.out w3 (Kr.trans K3)
   have hac:= (HS9.out _ K3).2.2
   have hab3:ab < w3.heap.size:=Nat.lt_of_lt_of_le hab K3.size
   have HNs3:=Kz (HNs.out.kept K3)
   have HOr3:=Kz (ownsRow_kept' HOr.out K3)
   have HWz:Hid (w.heap.size<=w3.heap.size):= (HKB.out.trans (Kr.trans K3)).size
   have hopen: ∀z,z∈s.asks.take (i+1)↔z∈s.asks.take i∨z=x:=fun z=> by rw [List.take_succ_eq_append_getElem hlt,HXg.out];simp
   have HOpn:=Kz hopen
   clear hopen k3
   rcases hq with ⟨k',hk',rfl,henv',_⟩ | ⟨rfl,henv'⟩
   ·obtain ⟨r',hr'⟩: ∃r',r'=sl.getD k' Qz.zero:= ⟨_,rfl⟩
    rw [<-hr'] at henv'
    obtain ⟨rb',ro',xa',xc',e4,hrb',hrc',_,_⟩:= (hS.kept (HKB.out.trans (Kr.trans K3))) k' hk'
    cases e4
    rw [<-hr'] at hrc'
    have t1:=hrc' 1 _ rfl
    have hki': (k':Int) < (sl.length:Int):=by omega
    have hk0: ¬((k':Int) < 0):=by omega
    have HEn':=Kz henv'
    clear henv' hrc' hr'
    cases hov':r'.over
    ·rw [hov'] at t1
     have HOv':=Kz hov'
     clear hov'
     go_wp2_with fail
     refine (l6Put_own w3 b o c ns x (by omega) hnc HAsc.out HNs3.out).mono ?_
     rintro e w4 ⟨b4,o4,c4,r4,rfl,hc4,hp4,hs4,hy4,k4⟩
     have HO4:=Kz (hy4 _ HWz.out HOr3.out)
     obtain ⟨ha4,hm4⟩:=hp4.asc HAsc.out
     have hl4:r4.length<=ns.length+1:=by
      rcases hp4 with ⟨_,rfl⟩ | ⟨_,q,hq,rfl,_,_⟩
      ·omega
      ·simp;omega
     have HA4:=Kz ha4
     have HM4:=Kz hm4
     have HS4:=Kz hs4
     have K4:=Kw.trans (K3.trans k4)
     clear ha4 hm4 hs4 hp4 hy4
     go_wp2_with fail
     go_roundg (gk - 1)
     case measure=> omega
     case rel=> exact ⟨i+1,b4,o4,c4,r4,by go_num,by omega,rfl,hc4,by omega,HA4,Kz (fun z=> by
      rw [HM4.out,HMem.out,HOpn.out]
      constructor
      ·rintro (⟨h1,h2⟩ | rfl)
       ·exact ⟨.inl h1,h2⟩
       ·exact ⟨.inr rfl,_,HEn'.out,HOv'.out⟩
      ·rintro ⟨h1 | rfl,h2⟩
       ·exact .inl ⟨h1,h2⟩
       ·exact .inr rfl),HS4,HO4,K4⟩
    ·rw [hov'] at t1
     have HOv':=Kz hov'
     clear hov'
     go_wp2_with fail
     go_roundg (gk - 1)
     case measure=> omega
     case rel=> exact ⟨i+1,b,o,c,ns,by go_num,by omega,rfl,hnc,by omega,HAsc,Kz (fun z=> by
      rw [HMem.out,HOpn.out]
      constructor
      ·rintro ⟨h1,h2⟩
       exact ⟨.inl h1,h2⟩
      ·rintro ⟨h1 | rfl,h2⟩
       ·exact ⟨h1,h2⟩
       ·obtain ⟨q,h3,h4⟩:=h2
        rw [HEn'.out] at h3
        cases h3
        rw [HOv'.out] at h4
        cases h4),HNs3,HOr3,Kw.trans K3⟩
   ·have HEn':=Kz henv'
    clear henv'
    go_wp2_with fail
    go_roundg (gk - 1)
    case measure=> omega
    case rel=> exact ⟨i+1,b,o,c,ns,by go_num,by omega,rfl,hnc,by omega,HAsc,Kz (fun z=> by
     rw [HMem.out,HOpn.out]
     constructor
     ·rintro ⟨h1,h2⟩
      exact ⟨.inl h1,h2⟩
     ·rintro ⟨h1 | rfl,h2⟩
      ·exact ⟨h1,h2⟩
      ·obtain ⟨q,h3,h4⟩:=h2
       rw [HEn'.out] at h3
       cases h3),HNs3,HOr3,Kw.trans K3⟩
  ·have hie:s.asks.take i=s.asks:=List.take_of_length_le (by omega)
   have HIe:=Kz hie
   clear hie
   go_wp2_with fail
   go_ret
   refine ⟨⟨b,o,c,ns,rfl,hnc,HNs.out,⟨HAsc.out,fun z=> ?_⟩,HOr.out⟩,HKB.out.trans Kr⟩
   rw [HMem.out,HIe.out]
   constructor
   ·rintro ⟨h1,h2⟩
    exact ⟨r,_,HEn.out,HOv.out,HVis.out,HAct.out,by rw [HStep.out];exact h1,h2⟩
   ·rintro ⟨r',A',hr',_,_,hA',h1,h2⟩
    rw [HEn.out] at hr'
    cases hr'
    rw [HAct.out] at hA'
    cases hA'
    rw [HStep.out] at h1
    exact ⟨h1,h2⟩
theorem l6Waits_any (w:World) (a:Option Addr) (cap:Nat) (Kj:List Qq) (ra:Option Addr) (rn rc:Nat) (d:Option Addr) (dc:Nat) (sl:List Qz) (name:ByteArray) (hwl:Kj.length<=1048576) (hsl:sl.length<=1048576) (hok:ActsOk (Q_ Kj)) (hg:GoodL Kj sl) (hN:Nodes w a Kj) (hS:RunsX w d sl):
  Calls Tryz.prog 103 #[.agg #[.slice a Kj.length cap],.agg #[.slice ra rn rc,.slice d sl.length dc],.string name] w fun e w'=> WaitsSaid Kj sl name w' e∧K_ w w':=
 (l6Waits_own w a cap Kj ra rn rc d dc sl name hwl hsl hok hg hN hS).mono fun _e _w' ⟨⟨b,o,c,ns,h1,h2,h3,h4,_⟩,h5⟩=> ⟨⟨b,o,c,ns,h1,h2,h3,h4⟩,h5⟩
theorem Tryz.infoIntF : (Tryz.prog.info? 3).map (fun i=> (i.zero,i.size,i.bytes))=some (some (.int .i64 0),1,8):=by kernel_rfl
def runN (sl:List Qz) (p:Nat):ByteArray:= (sl.getD p Qz.zero).name
def NumRow (w:World) (fb n:Nat) (V:Nat->Nat):Prop:=w.rowIs fb 3 n (fun i=> .int .i64 (V i:Int))
theorem NumRow.kept {w w':World} {fb n:Nat} {V:Nat->Nat} (h:NumRow w fb n V) (k:K_ w w'):NumRow w' fb n V:=by
 obtain ⟨c,h1,h2⟩:=h
 exact ⟨c,(k.block fb (heap_lt h1)).trans h1,h2⟩
theorem NumRow.lt {w:World} {fb n:Nat} {V:Nat->Nat} (h:NumRow w fb n V):fb < w.heap.size:=by obtain ⟨c,h1,_⟩:=h;exact heap_lt h1
theorem NumRow.put {w:World} {fb n:Nat} {V:Nat->Nat} (h:NumRow w fb n V) (i v:Nat):NumRow (w.setCell ⟨fb,i,none⟩ (.int .i64 (v:Int))) fb n (fun p=> if p=i then v else V p):=by
 obtain ⟨c,h1,h2,h3⟩:=World.rowIs.set h i (.int .i64 (v:Int))
 refine ⟨c,h1,h2,fun p hp=> ?_⟩
 rw [h3 p hp]
 by_cases e:p=i
 ·simp [e]
 ·simp [e]
theorem NumRow.ne {w:World} {fb n:Nat} {V:Nat->Nat} (h:NumRow w fb n V) {b o:Nat} {s:ByteArray} (hc:w.cell? ⟨b,o,none⟩=some (.string s)):b≠fb:=by
 rintro rfl
 by_cases ho:o < n
 ·rw [World.rowIs.cell h ho] at hc
  cases hc
 ·obtain ⟨c,h1,h2,_⟩:=h
  simp [World.cell?,h1] at hc
  have:= (Array.getElem?_eq_some_iff.1 hc).1
  omega
theorem NumRow.strs {w:World} {fb n:Nat} {V:Nat->Nat} (h:NumRow w fb n V) {b o:Nat} {l:List ByteArray} (hl:Strs w (some ⟨b,o,none⟩) l) (i:Nat) (v:Value):Strs (w.setCell ⟨fb,i,none⟩ v) (some ⟨b,o,none⟩) l:=fun q hq=> by
 obtain ⟨b',o',e,hb,hc⟩:=hl q hq
 cases e
 exact ⟨b,o,rfl,by rw [size_setCell];exact hb,by rw [Zk (h.ne hc)];exact hc⟩
def FarEnd (Kj:List Qq) (sl:List Qz) (goal:ByteArray) (w w':World) (e:Ending):Prop:= ∃fb V,e= .returned (.slice (some ⟨fb,0,none⟩) sl.length sl.length)∧NumRow w' fb sl.length V∧(∀p,p < sl.length->RightV (WaitsX (Q_ Kj) (Qj sl)) goal (sl.length+1) (runN sl p) (V p))∧K_ w w'
theorem l6Far_any (w:World) (a:Option Addr) (cap:Nat) (Kj:List Qq) (ra:Option Addr) (rn rc:Nat) (d:Option Addr) (dc:Nat) (sl:List Qz) (goal:ByteArray) (hwl:Kj.length<=1048576) (hs6:sl.length<=1000) (hok:ActsOk (Q_ Kj)) (hg:GoodL Kj sl) (hN:Nodes w a Kj) (hS:RunsX w d sl):
  Calls Tryz.prog 102 #[.agg #[.slice a Kj.length cap],.agg #[.slice ra rn rc,.slice d sl.length dc],.string goal] w fun e w'=> FarEnd Kj sl goal w w' e:=by
 obtain ⟨WB,hWB⟩: ∃WB,WB= (w.alloc (.cells #[.slice a Kj.length cap] 37)).alloc (.cells #[.slice ra rn rc,.slice d sl.length dc] 53):= ⟨_,rfl⟩
 have kB:K_ w WB:=by rw [hWB];exact ((K_.refl _).alloc _).alloc _
 have hBs:WB.heap.size=w.heap.size+2:=by rw [hWB];simp
 have b0:WB.cell? ⟨w.heap.size,0,none⟩=some (.slice a Kj.length cap):=by rw [hWB,K_.cell (w:=w.alloc (.cells #[.slice a Kj.length cap] 37)) ((K_.refl _).alloc _) (by simp)];exact Xz w _ _ 0 _ rfl
 have s0:WB.cell? ⟨w.heap.size+1,0,none⟩=some (.slice ra rn rc):=by have:=Xz (w.alloc (.cells #[.slice a Kj.length cap] 37)) #[.slice ra rn rc,.slice d sl.length dc] 53 0 _ rfl;rw [World.size_alloc] at this;rw [hWB];exact this
 have s1:WB.cell? ⟨w.heap.size+1,1,none⟩=some (.slice d sl.length dc):=by have:=Xz (w.alloc (.cells #[.slice a Kj.length cap] 37)) #[.slice ra rn rc,.slice d sl.length dc] 53 1 _ rfl;rw [World.size_alloc] at this;rw [hWB];exact this
 have z0:w.heap.size < WB.heap.size:=by omega
 have z1:w.heap.size+1 < WB.heap.size:=by omega
 have HC:Hid (∀w',K_ WB w'->w'.cell? ⟨w.heap.size,0,none⟩=some (.slice a Kj.length cap)∧w'.cell? ⟨w.heap.size+1,0,none⟩=some (.slice ra rn rc)∧w'.cell? ⟨w.heap.size+1,1,none⟩=some (.slice d sl.length dc)∧w.heap.size < w'.heap.size∧w.heap.size+1 < w'.heap.size):=fun w' K=> ⟨(K.cell z0).trans b0,(K.cell z1).trans s0,(K.cell z1).trans s1,Nat.lt_of_lt_of_le z0 K.size,Nat.lt_of_lt_of_le z1 K.size⟩
 have hsl:sl.length<=1048576:=by omega
 have hmk:=run_make_row' (P:=Tryz.prog) 56 3 _ _ Tryz.underlying56 Tryz.infoIntF rfl .i64 .i64 sl.length (by omega) (by omega)
 obtain ⟨W0,hW0⟩: ∃W0,W0=WB.alloc (.cells (madeCells #[.int .i64 0] sl.length) 3):= ⟨_,rfl⟩
 have k0:K_ WB W0:=by rw [hW0];exact (K_.refl _).alloc _
 have HF0:Hid (NumRow W0 WB.heap.size sl.length (fun _=> 0)):=by
  rw [hW0]
  exact World.rowIs_made WB (.int .i64 0) sl.length 3
 have HKB:=Kz kB
 have HGd:=Kz hg
 clear kB hBs hg
 go_enter Tryz.func102,Tryz.ntmps102
 go_upto_region 1 with fail
 rw [<-hWB]
 clear hWB
 go_wp2
 rw [<-hW0]
 clear hW0 hmk b0 s0 s1
 obtain ⟨fb,hfb⟩: ∃fb,fb=WB.heap.size:= ⟨_,rfl⟩
 rw [<-hfb] at HF0⊢
 have hfw:WB.heap.size<=fb:=Nat.le_of_eq hfb.symm
 have hfw1:w.heap.size+1 < fb:=by omega
 clear hfb
 go_loopw [8] (fun x8 wr=> ∃(n:Nat) (V:Nat->Nat),1<=n∧n<=sl.length+1∧x8= .int .i64 (n:Int)∧Hid (NumRow wr fb sl.length V)∧Hid (∀p,p < sl.length->RightV (WaitsX (Q_ Kj) (Qj sl)) goal n (runN sl p) (V p))∧K_ WB wr) (fun x8 _=> sl.length+1 - (intOf x8).toNat)
 case atStart=> exact ⟨1,_,Nat.le_refl _,by omega,rfl,HF0,Kz (fun p _=> RightV.start),k0⟩
 case round=>
  clear HF0 k0
  obtain ⟨n,V,hn1,hn2,rfl,HF,HV,Kr⟩:=hrel
  obtain ⟨c0,c1,c2,y0,y1⟩:=HC.out _ Kr
  by_cases hlt:n<=sl.length
  rotate_left
  ·have hne:n=sl.length+1:=by omega
   have HNe:=Kz hne
   have hgt: ¬((n:Int)<=(sl.length:Int)):=by omega
   clear hne
   go_wp2_with fail
   go_ret
   refine ⟨fb,V,rfl,HF.out,fun p hp=> ?_,HKB.out.trans Kr⟩
   rw [<-HNe.out]
   exact HV.out p hp
  have hle: (n:Int)<=(sl.length:Int):=by omega
  go_upto_region 6 with fail
  go_loopw [9] (fun x9 wr=> ∃(i:Nat) (V:Nat->Nat),i<=sl.length∧x9= .int .i64 (i:Int)∧Hid (NumRow wr fb sl.length V)∧Hid (∀p,p < sl.length->RightV (WaitsX (Q_ Kj) (Qj sl)) goal (if p < i then n+1 else n) (runN sl p) (V p))∧K_ WB wr) (fun x9 _=> sl.length - (intOf x9).toNat)
  case atStart=> exact ⟨0,V,Nat.zero_le _,rfl,HF,Kz (fun p hp=> by rw [if_neg (Nat.not_lt_zero _)];exact HV.out p hp),Kr⟩
  case round=>
   clear HF HV c0 c1 c2 y0 y1 Kr V
   obtain ⟨i,V,hi,rfl,HF,HV,Kr⟩:=hrel
   obtain ⟨c0,c1,c2,y0,y1⟩:=HC.out _ Kr
   by_cases hil:i < sl.length
   rotate_left
   ·have hie:i=sl.length:=by omega
    have HIe:=Kz hie
    have hgi: ¬((i:Int) < (sl.length:Int)):=by omega
    clear hie
    go_wp2_with fail
    go_roundw
    case rel=> exact ⟨n+1,V,by omega,by omega,by go_num,HF,Kz (fun p hp=> by have h:=HV.out p hp;rw [if_pos (by rw [HIe.out];exact hp)] at h;exact h),Kr⟩
    case measure=> simp [intOf];omega
   have hii: (i:Int) < (sl.length:Int):=by omega
   obtain ⟨rb,ro,xa,xc,e1,hrb,hrc,_,_⟩:= (hS.kept (HKB.out.trans Kr)) i hil
   subst e1
   obtain ⟨x,hx⟩: ∃x,x=runN sl i:= ⟨_,rfl⟩
   have t0:=hrc 0 _ rfl
   rw [Nat.add_zero] at t0
   have t0':wr.cell? ⟨rb,ro+i * 7,none⟩=some (.string x):=by rw [hx];exact t0
   clear t0 hrc
   have t0:=t0'
   clear t0'
   have f0:=World.rowIs.cell HF.out hil
   try dsimp only at f0
   have fz:=HF.out.lt
   have HX:=Kz hx
   have HVi:Hid (RightV (WaitsX (Q_ Kj) (Qj sl)) goal n x (V i)):=by have h:=HV.out i hil;rw [if_neg (Nat.lt_irrefl _),<-hx] at h;exact h
   clear hx
   by_cases hskip:V i≠0∨lessX x goal
   ·have HSk:=Kz hskip
    have HNext:Hid (∀p,p < sl.length->RightV (WaitsX (Q_ Kj) (Qj sl)) goal (if p < i+1 then n+1 else n) (runN sl p) (V p)):=fun p hp=> by
     by_cases e:p=i
     ·subst e
      rw [if_pos (by omega),<-HX.out]
      exact HVi.out.keep HSk.out
     ·have h:=HV.out p hp
      by_cases e2:p < i
      ·rw [if_pos e2] at h;rw [if_pos (by omega)];exact h
      ·rw [if_neg e2] at h;rw [if_neg (by omega)];exact h
    have hsk2: (0:Int) < (V i:Int)∨(¬((0:Int) < (V i:Int))∧Op.bytesLess x.toList goal.toList=true):=by
     by_cases h0:V i=0
     ·refine .inr ⟨by omega, ?_⟩
      rcases hskip with h | h
      ·exact absurd h0 h
      ·exact h
     ·exact .inl (by omega)
    obtain ⟨v,hv⟩: ∃v,v=V i:= ⟨_,rfl⟩
    rw [<-hv] at f0 hsk2
    clear hskip hv
    rcases hsk2 with hp | ⟨hp,hb⟩
    ·go_wp2_with fail
     go_roundw
     case rel=> exact ⟨i+1,V,by omega,by go_num,HF,HNext,Kr⟩
     case measure=> simp [intOf];omega
    ·go_wp2_with fail
     go_roundw
     case rel=> exact ⟨i+1,V,by omega,by go_num,HF,HNext,Kr⟩
     case measure=> simp [intOf];omega
   have hv0:V i=0:=by
    by_cases h:V i=0
    ·exact h
    ·exact absurd (.inl h) hskip
   have hxg: ¬lessX x goal:=fun h=> hskip (.inr h)
   have hbf:Op.bytesLess x.toList goal.toList=false:=by
    cases h:Op.bytesLess x.toList goal.toList
    ·rfl
    ·exact absurd h hxg
   rw [hv0] at HVi f0
   have HV0:=Kz hv0
   have HXg:=Kz hxg
   clear hskip hv0 hxg
   have HS9:Hid (∀w',K_ wr w'->w'.cell? ⟨w.heap.size,0,none⟩=some (.slice a Kj.length cap)∧w'.cell? ⟨w.heap.size+1,0,none⟩=some (.slice ra rn rc)∧w'.cell? ⟨w.heap.size+1,1,none⟩=some (.slice (some ⟨rb,ro,none⟩) sl.length dc)∧w'.cell? ⟨rb,ro+i * 7,none⟩=some (.string x)):=fun w' K=> ⟨(HC.out w' (Kr.trans K)).1,(HC.out w' (Kr.trans K)).2.1,(HC.out w' (Kr.trans K)).2.2.1,(K.cell hrb).trans t0⟩
   go_upto_region 9 with fail
   refine Qx.rg 9 HS9.out fun wd KD Z_=> ?_
   refine Qx.tk 0 Z_ ?_
   refine Qx.tk 1 Z_ ?_
   refine Qx.tk 2 Z_ ?_
   refine Qx.tk 3 Z_ ?_
   refine Qx.tk 4 Z_ ?_
   refine Qx.tk 5 Z_ ?_
   refine Qx.tk 6 Z_ ?_
   refine Qx.tk 7 Z_ ?_
   refine Qx.nx 8 (fun K hK=> ?_)
   rw [if_pos (by rfl)]
   go_simp
   go_at_call 103
   refine (l6Waits_any wd a cap Kj ra rn rc (some ⟨rb,ro,none⟩) dc sl x hwl hsl hok HGd.out (hN.kept (HKB.out.trans (Kr.trans KD))) (hS.kept (HKB.out.trans (Kr.trans KD)))).mono ?_
   rintro e w2 ⟨⟨lb,lo,lc,ns,rfl,hlc,hlS,hWL⟩,k2⟩
   have K2:=KD.trans k2
   refine hK.out _ _ (fun _=> HS9.out _ K2) ?_
   clear hK K Z_
   try simp only [Act.put,upA,upB,upC]
   refine Qx.nx 9 (fun K hK=> ?_)
   go_simp
   refine hK.out _ _ (fun h=> absurd rfl h) ?_
   clear hK K
   try simp only [Act.put,upA,upB,upC]
   refine Qx.dn ?_
   have HWL:=Kz hWL
   have HLS:=Kz hlS
   have HF2:=Kz (HF.out.kept K2)
   have Kw2:=Kr.trans K2
   have hl5:=hWL.len hok HGd.out.env
   have HVv:=Kz (fun p hp=> HV.out p hp)
   clear hWL hlS f0 fz t0 c0 c1 c2 y0 y1 HS9 k2
   go_wp2_with fail
   go_loopw [11] (fun x11 wr=> ∃(k v:Nat),k<=ns.length∧x11= .int .i64 (k:Int)∧Hid (NumRow wr fb sl.length (fun p=> if p=i then v else V p))∧Hid ((v=n∧∃s,Hit (WaitsX (Q_ Kj) (Qj sl)) goal n x s)∨(v=0∧∀s∈ns.take k,¬Hit (WaitsX (Q_ Kj) (Qj sl)) goal n x s))∧Hid (Strs wr (some ⟨lb,lo,none⟩) ns)∧K_ WB wr) (fun x11 _=> ns.length - (intOf x11).toNat)
   case atStart=> exact ⟨0,0,Nat.zero_le _,rfl,Kz (World.rowIs.congr HF2.out (fun p hp=> by by_cases e:p=i;(subst e;simp [HV0.out]);simp [e])),Kz (.inr ⟨rfl,fun s hs=> by simp at hs⟩),HLS,Kw2⟩
   case round=>
    clear HF2 HLS Kw2
    obtain ⟨k,v,hk,rfl,HF3,HHit,HLS3,Kr3⟩:=hrel
    by_cases hkl:k < ns.length
    rotate_left
    ·have hke:ns.take k=ns:=List.take_of_length_le (by omega)
     have hgk: ¬((k:Int) < (ns.length:Int)):=by omega
     have HKe:=Kz hke
     clear hke
     go_wp2_with fail
     go_roundw
     case rel=>
      refine ⟨i+1,fun p=> if p=i then v else V p,by omega,by go_num,HF3,Kz (fun p hp=> ?_),Kr3⟩
      by_cases e:p=i
      ·subst e
       dsimp only
       rw [if_pos (by omega),if_pos rfl,<-HX.out]
       rcases HHit.out with ⟨rfl,h2⟩ | ⟨rfl,h2⟩
       ·exact RightV.hit hn1 HVi.out HXg.out h2
       ·refine RightV.miss hn1 HVi.out HXg.out (fun ⟨z,hz⟩=> ?_)
        rw [HKe.out] at h2
        exact h2 z ((HWL.out.2 z).2 hz.1) hz
      ·dsimp only
       rw [if_neg e]
       have h:=HVv.out p hp
       by_cases e2:p < i
       ·rw [if_pos e2] at h;rw [if_pos (by omega)];exact h
       ·rw [if_neg e2] at h;rw [if_neg (by omega)];exact h
     case measure=> simp [intOf];omega
    obtain ⟨lb1,lo1,e1,hlb,hlc1⟩:=HLS3.out k hkl
    cases e1
    obtain ⟨s,hs⟩: ∃s,s=ns.getD k ByteArray.empty:= ⟨_,rfl⟩
    rw [<-hs] at hlc1
    have hsg:ns[k]=s:=by rw [hs];simp [List.getD,hkl]
    have HSk:=Kz hsg
    have HEs:Hid (WaitsX (Q_ Kj) (Qj sl) x s):= (HWL.out.2 s).1 (by rw [<-hsg];exact List.getElem_mem hkl)
    clear hs hsg
    have hkk: (k:Int) < (ns.length:Int):=by omega
    obtain ⟨_,c1,c2,y0,y1⟩:=HC.out _ Kr3
    have HS13:Hid (∀w',K_ wr w'->w'.cell? ⟨lb,lo+k,none⟩=some (.string s)∧w'.cell? ⟨w.heap.size+1,0,none⟩=some (.slice ra rn rc)∧w'.cell? ⟨w.heap.size+1,1,none⟩=some (.slice (some ⟨rb,ro,none⟩) sl.length dc)∧Hid (NumRow w' fb sl.length (fun p=> if p=i then v else V p))):=fun w' K=> ⟨(K.cell hlb).trans hlc1,(HC.out w' (Kr3.trans K)).2.1,(HC.out w' (Kr3.trans K)).2.2.1,Kz (HF3.out.kept K)⟩
    go_upto_region 13 with fail
    clear c1 c2 y0 y1 hlc1
    by_cases hn:n=1
    ·have HN:=Kz hn
     have hn1b: ((n:Int) == 1)=true:=by simp [hn]
     have hngt: ¬((1:Int) < (n:Int)):=by omega
     clear hn
     cases heq: (s.toList == goal.toList)
     ·have HNh:Hid (¬Hit (WaitsX (Q_ Kj) (Qj sl)) goal n x s):=fun h=> by
       rcases h.2 with ⟨_,e⟩ | ⟨e,_⟩
       ·exact beq_no heq e
       ·have:=HN.out;omega
      refine Qx.rg 35 HS13.out fun wd KD Z_=> ?_
      refine Qx.tk 0 Z_ ?_
      refine Qx.tk 1 Z_ ?_
      refine Qx.tk 2 Z_ ?_
      refine Qx.tk 3 Z_ ?_
      refine Qx.tk 4 Z_ ?_
      refine Qx.tk 5 Z_ ?_
      refine Qx.tk 6 Z_ ?_
      refine Qx.tk 7 Z_ ?_
      refine Qx.tk 8 Z_ ?_
      refine Qx.tk 9 Z_ ?_
      refine Qx.tk 10 Z_ ?_
      refine Qx.tk 11 Z_ ?_
      refine Qx.tk 12 Z_ ?_
      refine Qx.tk 13 Z_ ?_
      refine Qx.un 14 Z_ ?_
      refine Qx.un 15 Z_ ?_
      refine Qx.un 16 Z_ ?_
      refine Qx.un 17 Z_ ?_
      refine Qx.un 18 Z_ ?_
      refine Qx.un 19 Z_ ?_
      refine Qx.tk 20 Z_ ?_
      refine Qx.tk 21 Z_ ?_
      refine Qx.un 22 Z_ ?_
      refine Qx.un 23 Z_ ?_
      refine Qx.un 24 Z_ ?_
      refine Qx.un 25 Z_ ?_
      refine Qx.un 26 Z_ ?_
      refine Qx.un 27 Z_ ?_
      refine Qx.un 28 Z_ ?_
      refine Qx.un 29 Z_ ?_
      refine Qx.un 30 Z_ ?_
      refine Qx.un 31 Z_ ?_
      refine Qx.un 32 Z_ ?_
      refine Qx.un 33 Z_ ?_
      refine Qx.tk 34 Z_ ?_
      refine Qx.nx 35 (fun K hK=> ?_)
      go_simp
      refine hK.out _ _ (fun h=> absurd rfl h) ?_
      clear hK K
      try simp only [Act.put,upA,upB,upC]
      refine Qx.dn ?_
      go_wp2_with fail
      go_roundw
      case rel=>
       refine ⟨k+1,v,by omega,by go_num,Kz (HF3.out.kept KD),Kz ?_,Kz (HLS3.out.kept KD),Kr3.trans KD⟩
       rcases HHit.out with h | ⟨h1,h2⟩
       ·exact .inl h
       ·refine .inr ⟨h1,fun z hz=> ?_⟩
        rw [List.take_succ_eq_append_getElem hkl,HSk.out] at hz
        rcases List.mem_append.1 hz with hz | hz
        ·exact h2 z hz
        ·rw [List.mem_singleton] at hz
         rw [hz]
         exact HNh.out
      case measure=> simp [intOf];omega
     ·have HHs:Hid (Hit (WaitsX (Q_ Kj) (Qj sl)) goal n x s):= ⟨HEs.out,.inl ⟨HN.out,beq_yes heq⟩⟩
      refine Qx.rg 35 HS13.out fun wd KD Z_=> ?_
      refine Qx.tk 0 Z_ ?_
      refine Qx.tk 1 Z_ ?_
      refine Qx.tk 2 Z_ ?_
      refine Qx.tk 3 Z_ ?_
      refine Qx.tk 4 Z_ ?_
      refine Qx.tk 5 Z_ ?_
      refine Qx.tk 6 Z_ ?_
      refine Qx.tk 7 Z_ ?_
      refine Qx.tk 8 Z_ ?_
      refine Qx.tk 9 Z_ ?_
      refine Qx.tk 10 Z_ ?_
      refine Qx.un 11 Z_ ?_
      refine Qx.un 12 Z_ ?_
      refine Qx.un 13 Z_ ?_
      refine Qx.un 14 Z_ ?_
      refine Qx.un 15 Z_ ?_
      refine Qx.un 16 Z_ ?_
      refine Qx.un 17 Z_ ?_
      refine Qx.un 18 Z_ ?_
      refine Qx.un 19 Z_ ?_
      refine Qx.un 20 Z_ ?_
      refine Qx.un 21 Z_ ?_
      refine Qx.un 22 Z_ ?_
      refine Qx.un 23 Z_ ?_
      refine Qx.un 24 Z_ ?_
      refine Qx.un 25 Z_ ?_
      refine Qx.un 26 Z_ ?_
      refine Qx.un 27 Z_ ?_
      refine Qx.un 28 Z_ ?_
      refine Qx.un 29 Z_ ?_
      refine Qx.un 30 Z_ ?_
      refine Qx.un 31 Z_ ?_
      refine Qx.un 32 Z_ ?_
      refine Qx.un 33 Z_ ?_
      refine Qx.un 34 Z_ ?_
      refine Qx.nx 35 (fun K hK=> ?_)
      go_simp
      refine hK.out _ _ (fun h=> absurd rfl h) ?_
      clear hK K
      try simp only [Act.put,upA,upB,upC]
      refine Qx.dn ?_
      have HFw:=Kz (HF3.out.kept KD)
      have HLw:=Kz (HLS3.out.kept KD)
      have hold:=World.rowIs.cell HFw.out hil
      have hfz:=World.rowIs.frozen HFw.out i
      have fz:=HFw.out.lt
      dsimp only at hold
      rw [if_pos rfl] at hold
      go_wp2_with fail
      go_roundw
      case rel=>
       refine ⟨k+1,n,by omega,by go_num,Kz ?_,Kz (.inl ⟨rfl,s,HHs.out⟩),Kz (HFw.out.strs HLw.out i _),Below.setCell (Kr3.trans KD) (p:= ⟨fb,i,none⟩) hfw _⟩
       exact World.rowIs.congr (HFw.out.put i n) (fun p hp=> by by_cases e:p=i <;> simp [e])
      case measure=> simp [intOf];omega
    ·have HN:=Kz hn
     have hn1b: ((n:Int) == 1)=false:=by simp;omega
     have hngt: (1:Int) < (n:Int):=by omega
     clear hn
     by_cases hgt:lessX goal s
     ·have hwn:IntKind.i64.wrap ((n:Int) - 1)= (n:Int) - 1:=by rw [IntKind.wrap_i64];omega
      have HGt:Hid (lessX goal s):=hgt
      have hl1:Op.bytesLess s.toList goal.toList=false:=by
       cases h:Op.bytesLess s.toList goal.toList
       ·rfl
       ·exact absurd (show lessX s goal from h) (lessX_asymm hgt)
      have he1: (s.toList == goal.toList)=false:=by
       cases h: (s.toList == goal.toList)
       ·rfl
       ·exact absurd hgt (by rw [beq_yes h];exact lessX_irrefl _)
      clear hgt
      refine Qx.rg 35 HS13.out fun wd KD Z_=> ?_
      refine Qx.tk 0 Z_ ?_
      refine Qx.tk 1 Z_ ?_
      refine Qx.tk 2 Z_ ?_
      refine Qx.un 3 Z_ ?_
      refine Qx.un 4 Z_ ?_
      refine Qx.un 5 Z_ ?_
      refine Qx.un 6 Z_ ?_
      refine Qx.un 7 Z_ ?_
      refine Qx.un 8 Z_ ?_
      refine Qx.tk 9 Z_ ?_
      refine Qx.tk 10 Z_ ?_
      refine Qx.tk 11 Z_ ?_
      refine Qx.tk 12 Z_ ?_
      refine Qx.tk 13 Z_ ?_
      refine Qx.tk 14 Z_ ?_
      refine Qx.tk 15 Z_ ?_
      refine Qx.tk 16 Z_ ?_
      refine Qx.tk 17 Z_ ?_
      refine Qx.tk 18 Z_ ?_
      refine Qx.tk 19 Z_ ?_
      refine Qx.tk 20 Z_ ?_
      refine Qx.tk 21 Z_ ?_
      refine Qx.tk 22 Z_ ?_
      refine Qx.tk 23 Z_ ?_
      refine Qx.tk 24 Z_ ?_
      refine Qx.tk 25 Z_ ?_
      refine Qx.tk 26 Z_ ?_
      refine Qx.tk 27 Z_ ?_
      refine Qx.tk 31 Z_ ?_
      refine Qx.tk 32 Z_ ?_
      refine Qx.nx 28 (fun K hK=> ?_)
      rw [if_pos (by rfl)]
      go_simp
      go_at_call 52
      refine (l4At_place wd ra rn rc (some ⟨rb,ro,none⟩) dc sl s hsl (hS.kept (HKB.out.trans (Kr3.trans KD)))).mono ?_
      rintro e w3 ⟨⟨q,rfl,hq⟩,k3⟩
      have K3:=KD.trans k3
      obtain ⟨k',hk',rfl,henv',hkn'⟩: ∃k':Nat,k' < sl.length∧q= (k':Int)∧Qj sl s=some (sl.getD k' Qz.zero)∧(sl.getD k' Qz.zero).name=s:=by
       rcases hq with ⟨k',h1,h2,h3,h4⟩ | ⟨_,h1⟩
       ·exact ⟨k',h1,h2,h3,h4⟩
       ·obtain ⟨_,_,_,_,_,_,_,y,hy,_⟩:=HEs.out
        rw [h1] at hy
        cases hy
      clear hq
      have hfk:=World.rowIs.cell (HF3.out.kept K3) hk'
      dsimp only at hfk
      have fz3:= (HF3.out.kept K3).lt
      have hki': (k':Int) < (sl.length:Int):=by omega
      have hk0: (0:Int)<=(k':Int):=by omega
      obtain ⟨q,hqq⟩: ∃q,q= (if k'=i then v else V k'):= ⟨_,rfl⟩
      rw [<-hqq] at hfk
      have HQ:Hid (q=n - 1↔FarR (WaitsX (Q_ Kj) (Qj sl)) goal (n - 1) s):=by
       show q=n - 1↔_
       by_cases e:k'=i
       ·have hsx:s=x:=by rw [HX.out,<-e];exact hkn'.symm
        rw [hqq,if_pos e,hsx]
        refine ⟨fun h=> ?_,fun h=> ?_⟩
        ·rcases HHit.out with ⟨h1,_⟩ | ⟨h1,_⟩ <;> omega
        ·have:= (HVi.out.2 HXg.out).2 (n - 1) (by omega) h
         have:=h.1.pos
         omega
       ·rw [hqq,if_neg e]
        have h:=HVv.out k' hk'
        have e2:runN sl k'=s:=hkn'
        rw [e2] at h
        exact h.ask HGt.out (by omega) (by split <;> omega)
      have HQQ:=Kz hqq
      clear hqq henv' hkn'
      dsimp only
      refine hK.out _ _ (fun _=> HS13.out _ K3) ?_
      clear hK K
      try simp only [Act.put,upA,upB,upC]
      clear Z_
      have Z_:=HS13.out _ K3
      by_cases hqn:q=n - 1
      ·have hqb: ((q:Int) == (n:Int) - 1)=true:=by simp;omega
       have HHs:Hid (Hit (WaitsX (Q_ Kj) (Qj sl)) goal n x s):= ⟨HEs.out,.inr ⟨by omega,HGt.out,HQ.out.1 hqn⟩⟩
       clear hqn
       refine Qx.tk 29 Z_ ?_
       refine Qx.take 30 [33,34,35] (v:= ?_) (by (simp only [List.getElem?_toArray,List.getElem?_cons_succ,List.getElem?_cons_zero];rfl)) (by kernel_rfl) (by kernel_rfl) (by kernel_rfl) (by kernel_rfl) (by exact fun _ _ _ h=> h) (Or.inl ⟨by rfl, ?_⟩) Z_ ?_
       rotate_left
       ·intro u hu
        try dsimp only at hu
        have f9:=World.rowIs.cell hu.2.2.2.out hk'
        try dsimp only at f9
        rw [<-HQQ.out] at f9
        go_simp
        try with_reducible rfl
       try simp only [Act.put,upA,upB,upC]
       refine Qx.tk 33 Z_ ?_
       refine Qx.tk 34 Z_ ?_
       refine Qx.nx 35 (fun K hK=> ?_)
       go_simp
       refine hK.out _ _ (fun h=> absurd rfl h) ?_
       clear hK K
       try simp only [Act.put,upA,upB,upC]
       refine Qx.dn ?_
       clear Z_ hfk
       have HFw:=Kz (HF3.out.kept K3)
       have HLw:=Kz (HLS3.out.kept K3)
       have hold:=World.rowIs.cell HFw.out hil
       have hfz:=World.rowIs.frozen HFw.out i
       have fz:=HFw.out.lt
       dsimp only at hold
       rw [if_pos rfl] at hold
       go_wp2_with fail
       go_roundw
       case rel=>
        refine ⟨k+1,n,by omega,by go_num,Kz ?_,Kz (.inl ⟨rfl,s,HHs.out⟩),Kz (HFw.out.strs HLw.out i _),Below.setCell (Kr3.trans K3) (p:= ⟨fb,i,none⟩) hfw _⟩
        exact World.rowIs.congr (HFw.out.put i n) (fun p hp=> by by_cases e:p=i <;> simp [e])
       case measure=> simp [intOf];omega
      ·have hqb: ((q:Int) == (n:Int) - 1)=false:=by simp;omega
       have HNh:Hid (¬Hit (WaitsX (Q_ Kj) (Qj sl)) goal n x s):=fun h=> by
        rcases h.2 with ⟨e,_⟩ | ⟨_,_,e⟩
        ·exact HN.out e
        ·exact hqn (HQ.out.2 e)
       clear hqn
       refine Qx.tk 29 Z_ ?_
       refine Qx.take 30 [33,34,35] (v:= ?_) (by (simp only [List.getElem?_toArray,List.getElem?_cons_succ,List.getElem?_cons_zero];rfl)) (by kernel_rfl) (by kernel_rfl) (by kernel_rfl) (by kernel_rfl) (by exact fun _ _ _ h=> h) (Or.inl ⟨by rfl, ?_⟩) Z_ ?_
       rotate_left
       ·intro u hu
        try dsimp only at hu
        have f9:=World.rowIs.cell hu.2.2.2.out hk'
        try dsimp only at f9
        rw [<-HQQ.out] at f9
        go_simp
        try with_reducible rfl
       try simp only [Act.put,upA,upB,upC]
       refine Qx.tk 33 Z_ ?_
       refine Qx.tk 34 Z_ ?_
       refine Qx.nx 35 (fun K hK=> ?_)
       go_simp
       refine hK.out _ _ (fun h=> absurd rfl h) ?_
       clear hK K
       try simp only [Act.put,upA,upB,upC]
       refine Qx.dn ?_
       clear Z_ hfk
       go_wp2_with fail
       go_roundw
       case rel=>
        refine ⟨k+1,v,by omega,by go_num,Kz (HF3.out.kept K3),Kz ?_,Kz (HLS3.out.kept K3),Kr3.trans K3⟩
        rcases HHit.out with h | ⟨h1,h2⟩
        ·exact .inl h
        ·refine .inr ⟨h1,fun z hz=> ?_⟩
         rw [List.take_succ_eq_append_getElem hkl,HSk.out] at hz
         rcases List.mem_append.1 hz with hz | hz
         ·exact h2 z hz
         ·rw [List.mem_singleton] at hz
          rw [hz]
          exact HNh.out
       case measure=> simp [intOf];omega
     ·have HNg:=Kz hgt
      have hcs:Op.bytesLess s.toList goal.toList=true∨(Op.bytesLess s.toList goal.toList=false∧(s.toList == goal.toList)=true):=by
       rcases lessX_total s goal with h | h | h
       ·exact .inl h
       ·right
        subst h
        exact ⟨by cases h2:Op.bytesLess s.toList s.toList;rfl;exact absurd (show lessX s s from h2) (lessX_irrefl s),by simp⟩
       ·exact absurd h hgt
      clear hgt
      rcases hcs with hl1 | ⟨hl1,he1⟩
      ·have HNh:Hid (¬Hit (WaitsX (Q_ Kj) (Qj sl)) goal n x s):=fun h=> by
        rcases h.2 with ⟨e,_⟩ | ⟨_,e,_⟩
        ·exact HN.out e
        ·exact HNg.out e
       refine Qx.rg 35 HS13.out fun wd KD Z_=> ?_
       refine Qx.tk 0 Z_ ?_
       refine Qx.tk 1 Z_ ?_
       refine Qx.tk 2 Z_ ?_
       refine Qx.un 3 Z_ ?_
       refine Qx.un 4 Z_ ?_
       refine Qx.un 5 Z_ ?_
       refine Qx.un 6 Z_ ?_
       refine Qx.un 7 Z_ ?_
       refine Qx.un 8 Z_ ?_
       refine Qx.tk 9 Z_ ?_
       refine Qx.tk 10 Z_ ?_
       refine Qx.tk 11 Z_ ?_
       refine Qx.tk 12 Z_ ?_
       refine Qx.tk 13 Z_ ?_
       refine Qx.tk 14 Z_ ?_
       refine Qx.tk 15 Z_ ?_
       refine Qx.tk 16 Z_ ?_
       refine Qx.tk 17 Z_ ?_
       refine Qx.tk 18 Z_ ?_
       refine Qx.tk 19 Z_ ?_
       refine Qx.tk 20 Z_ ?_
       refine Qx.tk 21 Z_ ?_
       refine Qx.un 22 Z_ ?_
       refine Qx.un 23 Z_ ?_
       refine Qx.un 24 Z_ ?_
       refine Qx.un 25 Z_ ?_
       refine Qx.un 26 Z_ ?_
       refine Qx.un 27 Z_ ?_
       refine Qx.un 28 Z_ ?_
       refine Qx.un 29 Z_ ?_
       refine Qx.un 30 Z_ ?_
       refine Qx.un 31 Z_ ?_
       refine Qx.un 32 Z_ ?_
       refine Qx.un 33 Z_ ?_
       refine Qx.tk 34 Z_ ?_
       refine Qx.nx 35 (fun K hK=> ?_)
       go_simp
       refine hK.out _ _ (fun h=> absurd rfl h) ?_
       clear hK K
       try simp only [Act.put,upA,upB,upC]
       refine Qx.dn ?_
       go_wp2_with fail
       go_roundw
       case rel=>
        refine ⟨k+1,v,by omega,by go_num,Kz (HF3.out.kept KD),Kz ?_,Kz (HLS3.out.kept KD),Kr3.trans KD⟩
        rcases HHit.out with h | ⟨h1,h2⟩
        ·exact .inl h
        ·refine .inr ⟨h1,fun z hz=> ?_⟩
         rw [List.take_succ_eq_append_getElem hkl,HSk.out] at hz
         rcases List.mem_append.1 hz with hz | hz
         ·exact h2 z hz
         ·rw [List.mem_singleton] at hz
          rw [hz]
          exact HNh.out
       case measure=> simp [intOf];omega
      ·have HNh:Hid (¬Hit (WaitsX (Q_ Kj) (Qj sl)) goal n x s):=fun h=> by
        rcases h.2 with ⟨e,_⟩ | ⟨_,e,_⟩
        ·exact HN.out e
        ·exact HNg.out e
       refine Qx.rg 35 HS13.out fun wd KD Z_=> ?_
       refine Qx.tk 0 Z_ ?_
       refine Qx.tk 1 Z_ ?_
       refine Qx.tk 2 Z_ ?_
       refine Qx.un 3 Z_ ?_
       refine Qx.un 4 Z_ ?_
       refine Qx.un 5 Z_ ?_
       refine Qx.un 6 Z_ ?_
       refine Qx.un 7 Z_ ?_
       refine Qx.un 8 Z_ ?_
       refine Qx.tk 9 Z_ ?_
       refine Qx.tk 10 Z_ ?_
       refine Qx.tk 11 Z_ ?_
       refine Qx.tk 12 Z_ ?_
       refine Qx.tk 13 Z_ ?_
       refine Qx.tk 14 Z_ ?_
       refine Qx.tk 15 Z_ ?_
       refine Qx.tk 16 Z_ ?_
       refine Qx.tk 17 Z_ ?_
       refine Qx.tk 18 Z_ ?_
       refine Qx.tk 19 Z_ ?_
       refine Qx.tk 20 Z_ ?_
       refine Qx.tk 21 Z_ ?_
       refine Qx.un 22 Z_ ?_
       refine Qx.un 23 Z_ ?_
       refine Qx.un 24 Z_ ?_
       refine Qx.un 25 Z_ ?_
       refine Qx.un 26 Z_ ?_
       refine Qx.un 27 Z_ ?_
       refine Qx.un 28 Z_ ?_
       refine Qx.un 29 Z_ ?_
       refine Qx.un 30 Z_ ?_
       refine Qx.un 31 Z_ ?_
       refine Qx.un 32 Z_ ?_
       refine Qx.un 33 Z_ ?_
       refine Qx.tk 34 Z_ ?_
       refine Qx.nx 35 (fun K hK=> ?_)
       go_simp
       refine hK.out _ _ (fun h=> absurd rfl h) ?_
       clear hK K
       try simp only [Act.put,upA,upB,upC]
       refine Qx.dn ?_
       go_wp2_with fail
       go_roundw
       case rel=>
        refine ⟨k+1,v,by omega,by go_num,Kz (HF3.out.kept KD),Kz ?_,Kz (HLS3.out.kept KD),Kr3.trans KD⟩
        rcases HHit.out with h | ⟨h1,h2⟩
        ·exact .inl h
        ·refine .inr ⟨h1,fun z hz=> ?_⟩
         rw [List.take_succ_eq_append_getElem hkl,HSk.out] at hz
         rcases List.mem_append.1 hz with hz | hz
         ·exact h2 z hz
         ·rw [List.mem_singleton] at hz
          rw [hz]
          exact HNh.out
       case measure=> simp [intOf];omega
theorem waits_name {Kj:List Qq} {sl:List Qz} (x y:ByteArray) (h:WaitsX (Q_ Kj) (Qj sl) x y):x∈sl.map (·.name):=by
 obtain ⟨r,A,h1,_⟩:=h
 have h2:=env_mem h1
 rw [<-h2.2]
 exact List.mem_map.2 ⟨r,h2.1,rfl⟩
theorem ascX_before {sl:List Qz} (ha:AscX sl) {i:Nat} (hi:i < sl.length) {x:ByteArray} (hx:x=runN sl i): ∀y∈(sl.take i).map (·.name),lessX y x:=fun y hy=> by
 obtain ⟨r,hr,rfl⟩:=List.mem_map.1 hy
 obtain ⟨j,hj,rfl⟩:=List.mem_take_iff_getElem.1 hr
 have hji:j < i:=by omega
 rw [hx,show runN sl i=sl[i].name by simp [runN,List.getD,hi]]
 exact List.pairwise_iff_getElem.1 ha j i (by omega) hi hji
def CircEnd (Kj:List Qq) (sl:List Qz) (w w':World) (e:Ending):Prop:= ∃av cv ns,e= .returned (.slice av ns.length cv)∧ns.length<=cv∧Strs w' av ns∧BestR (WaitsX (Q_ Kj) (Qj sl)) (sl.map (·.name)) ns∧K_ w w'
theorem l6Circle_any (w:World) (a:Option Addr) (cap:Nat) (Kj:List Qq) (ra:Option Addr) (rn rc:Nat) (d:Option Addr) (dc:Nat) (sl:List Qz) (hwl:Kj.length<=1048576) (hs6:sl.length<=1000) (hok:ActsOk (Q_ Kj)) (hg:GoodL Kj sl) (hN:Nodes w a Kj) (hS:RunsX w d sl):
  Calls Tryz.prog 58 #[.agg #[.slice a Kj.length cap],.agg #[.slice ra rn rc,.slice d sl.length dc]] w fun e w'=> CircEnd Kj sl w w' e:=by
 obtain ⟨WB,hWB⟩: ∃WB,WB= (w.alloc (.cells #[.slice a Kj.length cap] 37)).alloc (.cells #[.slice ra rn rc,.slice d sl.length dc] 53):= ⟨_,rfl⟩
 have kB:K_ w WB:=by rw [hWB];exact ((K_.refl _).alloc _).alloc _
 have hBs:WB.heap.size=w.heap.size+2:=by rw [hWB];simp
 have b0:WB.cell? ⟨w.heap.size,0,none⟩=some (.slice a Kj.length cap):=by rw [hWB,K_.cell (w:=w.alloc (.cells #[.slice a Kj.length cap] 37)) ((K_.refl _).alloc _) (by simp)];exact Xz w _ _ 0 _ rfl
 have s0:WB.cell? ⟨w.heap.size+1,0,none⟩=some (.slice ra rn rc):=by have:=Xz (w.alloc (.cells #[.slice a Kj.length cap] 37)) #[.slice ra rn rc,.slice d sl.length dc] 53 0 _ rfl;rw [World.size_alloc] at this;rw [hWB];exact this
 have s1:WB.cell? ⟨w.heap.size+1,1,none⟩=some (.slice d sl.length dc):=by have:=Xz (w.alloc (.cells #[.slice a Kj.length cap] 37)) #[.slice ra rn rc,.slice d sl.length dc] 53 1 _ rfl;rw [World.size_alloc] at this;rw [hWB];exact this
 have z0:w.heap.size < WB.heap.size:=by omega
 have z1:w.heap.size+1 < WB.heap.size:=by omega
 have HC:Hid (∀w',K_ WB w'->w'.cell? ⟨w.heap.size,0,none⟩=some (.slice a Kj.length cap)∧w'.cell? ⟨w.heap.size+1,0,none⟩=some (.slice ra rn rc)∧w'.cell? ⟨w.heap.size+1,1,none⟩=some (.slice d sl.length dc)∧w.heap.size < w'.heap.size∧w.heap.size+1 < w'.heap.size):=fun w' K=> ⟨(K.cell z0).trans b0,(K.cell z1).trans s0,(K.cell z1).trans s1,Nat.lt_of_lt_of_le z0 K.size,Nat.lt_of_lt_of_le z1 K.size⟩
 have hsl:sl.length<=1048576:=by omega
 obtain ⟨ic,hc0,hc1,hc2,hc3⟩:=xInfo_parts Tryz.xInfoStr
 obtain ⟨W0,hW0⟩: ∃W0,W0=WB.alloc (.cells #[] 9):= ⟨_,rfl⟩
 have k0:K_ WB W0:=by rw [hW0];exact (K_.refl _).alloc _
 have HKB:=Kz kB
 have HGd:=Kz hg
 clear kB hBs hg
 go_enter Tryz.func58,Tryz.ntmps58
 go_upto_region 1 with fail
 rw [<-hWB]
 clear hWB
 go_wp2
 rw [<-hW0]
 clear hW0 b0 s0 s1
 go_loopw [5,6] (fun x5 x6 wr=> ∃(i:Nat) (av:Option Addr) (cv:Nat) (best:List ByteArray),i<=sl.length∧x6= .int .i64 (i:Int)∧x5= .slice av best.length cv∧best.length<=cv∧Hid (Strs wr av best)∧Hid (BestR (WaitsX (Q_ Kj) (Qj sl)) ((sl.take i).map (·.name)) best)∧K_ WB wr) (fun _ x6 _=> sl.length - (intOf x6).toNat)
 case atStart=> exact ⟨0,_,_,[],Nat.zero_le _,rfl,rfl,Nat.zero_le _,Kz (fun q hq=> absurd hq (Nat.not_lt_zero q)),Kz (BestR.start _),k0⟩
 case round=>
  clear k0
  obtain ⟨i,av,cv,best,hi,rfl,rfl,hbc,HB,HR,Kr⟩:=hrel
  obtain ⟨c0,c1,c2,y0,y1⟩:=HC.out _ Kr
  by_cases hil:i < sl.length
  rotate_left
  ·have hie:i=sl.length:=by omega
   have HIe:=Kz hie
   have hgi: ¬((i:Int) < (sl.length:Int)):=by omega
   clear hie
   go_wp2_with fail
   go_ret
   refine ⟨av,cv,best,rfl,hbc,HB.out, ?_,HKB.out.trans Kr⟩
   have h:=HR.out
   rw [HIe.out,List.take_length] at h
   exact h
  have hii: (i:Int) < (sl.length:Int):=by omega
  obtain ⟨rb,ro,xa,xc,e1,hrb,hrc,_,_⟩:= (hS.kept (HKB.out.trans Kr)) i hil
  subst e1
  obtain ⟨x,hx⟩: ∃x,x=runN sl i:= ⟨_,rfl⟩
  have t0:=hrc 0 _ rfl
  rw [Nat.add_zero] at t0
  have t0':wr.cell? ⟨rb,ro+i * 7,none⟩=some (.string x):=by rw [hx];exact t0
  clear t0 hrc
  have t0:=t0'
  clear t0'
  have HX:=Kz hx
  clear hx
  go_wp2_with fail
  refine (l6Far_any wr a cap Kj ra rn rc (some ⟨rb,ro,none⟩) dc sl x hwl hs6 hok HGd.out (hN.kept (HKB.out.trans Kr)) (hS.kept (HKB.out.trans Kr))).mono ?_
  rintro e w2 ⟨fb,V,rfl,hF,hV,k2⟩
  have HF:=Kz hF
  have HV:=Kz hV
  have K2:=Kr.trans k2
  clear hF hV c0 c1 c2 t0
  dsimp only
  have HWh:Hid ((V i≠0->FarR (WaitsX (Q_ Kj) (Qj sl)) x (V i) x)∧∀m,FarR (WaitsX (Q_ Kj) (Qj sl)) x m x->V i=m):=by
   have h:=HV.out i hil
   rw [<-HX.out] at h
   exact RightV.whole (names:=sl.map (·.name)) waits_name (by rw [List.length_map];exact h) (lessX_irrefl x)
  have f0:=World.rowIs.cell HF.out hil
  try dsimp only at f0
  have fz:=HF.out.lt
  have HB2:=Kz (HB.out.kept k2)
  have HTk:Hid ((sl.take (i+1)).map (·.name)= (sl.take i).map (·.name)++ [x]):=by
   show _=_
   rw [List.take_succ_eq_append_getElem hil,List.map_append,HX.out]
   simp [runN,List.getD,hil]
  have HLt:Hid (∀y∈(sl.take i).map (·.name),lessX y x):=ascX_before HGd.out.asc hil HX.out
  obtain ⟨v,hv⟩: ∃v,v=V i:= ⟨_,rfl⟩
  rw [<-hv] at f0 HWh
  have HVv:=Kz hv
  clear hv HB k2
  by_cases hskip:v=0∨(0 < best.length∧best.length<=v)
  ·have HSk:Hid (∀n,FarR (WaitsX (Q_ Kj) (Qj sl)) x n x->best≠[]∧best.length<=n):=fun n hn=> by
    have e:=HWh.out.2 n hn
    have hp:=hn.1.pos
    rcases hskip with h | ⟨h1,h2⟩
    ·omega
    ·exact ⟨fun e0=> by rw [e0] at h1;simp at h1,by omega⟩
   have hsk2: ((v:Int) == 0)=true∨(((v:Int) == 0)=false∧(0:Int) < (best.length:Int)∧(best.length:Int)<=(v:Int)):=by
    by_cases h0:v=0
    ·exact .inl (by simp [h0])
    ·refine .inr ⟨by simp;omega, ?_⟩
     rcases hskip with h | ⟨h1,h2⟩
     ·exact absurd h h0
     ·omega
   clear hskip
   rcases hsk2 with h0 | ⟨h0,h1,h2⟩
   all_goals
    go_wp2_with fail
    go_roundw
    case rel=> exact ⟨i+1,av,cv,best,by omega,by go_num,rfl,hbc,HB2,Kz (by rw [HTk.out];exact BestR.skip HR.out HSk.out HLt.out),K2⟩
    case measure=> simp [intOf];omega
  have hv0:v≠0:=fun h=> hskip (.inl h)
  have HFv:=Kz (HWh.out.1 hv0)
  have HBv:Hid (best=[]∨v < best.length):=by
   by_cases h:best.length=0
   ·exact .inl (List.eq_nil_of_length_eq_zero h)
   ·refine .inr ?_
    have h2: ¬(0 < best.length∧best.length<=v):=fun h2=> hskip (.inr h2)
    omega
  have hgo: ((v:Int) == 0)=false∧(¬((0:Int) < (best.length:Int))∨((0:Int) < (best.length:Int)∧¬((best.length:Int)<=(v:Int)))):=by
   refine ⟨by simp;omega, ?_⟩
   have h2: ¬(0 < best.length∧best.length<=v):=fun h2=> hskip (.inr h2)
   omega
  have hvs:v<=sl.length:=by have:= (HFv.out).bound (names:=sl.map (·.name)) waits_name;rwa [List.length_map] at this
  clear hskip
  obtain ⟨W3,hW3⟩: ∃W3,W3=w2.alloc (.cells #[.string x] 9):= ⟨_,rfl⟩
  have K3:K_ w2 W3:=by rw [hW3];exact (K_.refl _).alloc _
  have HO3:Hid (W3.ownsRow w2.heap.size 9 1 (.slice (some ⟨w2.heap.size,0,none⟩) 1 1) [x].length ([x].map Value.string)):=by
   rw [hW3]
   exact ⟨rfl,.inr ⟨w2.heap.size,1,_,rfl,Nat.le_refl _,heap_alloc_new w2 _,Nat.le_refl _,by unfold maxLen;omega,rfl,rfl⟩⟩
  obtain ⟨h0,h12⟩:=hgo
  rcases h12 with h1 | ⟨h1,h2⟩
  all_goals
   go_upto_region 10 with fail
   rw [<-hW3]
   clear hW3
   go_loopg [10] v (fun gg x10 wr=> ∃(lst:List ByteArray) (a':ByteArray) (lv:Option Addr) (lc:Nat),x10= .slice lv lst.length lc∧Hid (PartR (WaitsX (Q_ Kj) (Qj sl)) x v lst a' gg)∧Hid (wr.ownsRow w2.heap.size 9 1 (.slice lv lst.length lc) lst.length (lst.map Value.string))∧K_ w2 wr)
   case atStart=> exact ⟨[x],x,_,_,rfl,Kz (PartR.start HFv.out),HO3,K3⟩
   case round=>
    obtain ⟨lst,a',lv,lc,rfl,HP,HO,Kw⟩:=hrel
    have hlen:=HP.out.len
    have hpos:=HP.out.pos
    by_cases hend:gk=1
    ·have hnlt: ¬((lst.length:Int) < (v:Int)):=by omega
     have HCi:Hid (CircR (WaitsX (Q_ Kj) (Qj sl)) x v x lst):=by have h:=HP.out;rw [hend] at h;exact h.done
     clear hend hlen hpos
     obtain ⟨a9,c9,e9,h9⟩:=owned_strs HO.out
     simp only [Value.slice.injEq,true_and] at e9
     rw [<-e9.1] at h9
     have H9:=Kz h9
     have HLc:Hid (lst.length<=lc):=by
      rcases HO.out.2 with ⟨e,h⟩ | ⟨_,_,_,e,_,_,h,_⟩
      ·simp only [Value.slice.injEq] at e;show lst.length<=lc;omega
      ·simp only [Value.slice.injEq] at e;show lst.length<=lc;omega
     clear e9 h9
     go_wp2_with fail
     go_roundw
     case rel=> exact ⟨i+1,lv,lc,lst,by omega,by go_num,rfl,HLc.out,H9,Kz (by rw [HTk.out];exact BestR.take HR.out HFv.out HCi.out HBv.out),K2.trans Kw⟩
     case measure=> simp [intOf];omega
    obtain ⟨q,hq⟩: ∃q,gk=q+1:= ⟨gk - 1,by omega⟩
    have hq1:1<=q:=by omega
    have HPq:Hid (PartR (WaitsX (Q_ Kj) (Qj sl)) x v lst a' (q+1)):=by have h:=HP.out;rw [hq] at h;exact h
    have HQ:=Kz hq
    have hlv: (lst.length:Int) < (v:Int):=by omega
    obtain ⟨m,hm⟩: ∃m,lst.length=m+1:= ⟨lst.length - 1,by have h:=HP.out.last;obtain ⟨l0,e⟩:=h;rw [e];simp⟩
    have hsub: (lst.length:Int) - 1= (m:Int):=by omega
    have hwr:IntKind.i64.wrap (m:Int)= (m:Int):=by rw [IntKind.wrap_i64];omega
    have him: (m:Int) < (lst.length:Int):=by omega
    have hlast:lst.getD m ByteArray.empty=a':=by
     obtain ⟨l0,e⟩:=HP.out.last
     have e2:m=l0.length:=by rw [e,List.length_append] at hm;simp at hm;omega
     rw [e,e2]
     simp [List.getD]
    obtain ⟨a9,c9,e9,h9⟩:=owned_strs HO.out
    simp only [Value.slice.injEq,true_and] at e9
    rw [<-e9.1] at h9
    obtain ⟨lb,lo,e1,hlb,hlc⟩:=h9 m (by omega)
    rw [hlast] at hlc
    subst e1
    have HLs:=Kz hlast
    have HM:=Kz hm
    clear e9 h9 hq hlast hm hend hlen hpos
    have HS11:Hid (∀u,K_ wr u->(u.cell? ⟨w.heap.size,0,none⟩=some (.slice a Kj.length cap)∧u.cell? ⟨w.heap.size+1,0,none⟩=some (.slice ra rn rc)∧u.cell? ⟨w.heap.size+1,1,none⟩=some (.slice (some ⟨rb,ro,none⟩) sl.length dc)∧u.cell? ⟨lb,lo+m,none⟩=some (.string a'))):=fun u K=> ⟨(HC.out u (K2.trans (Kw.trans K))).1,(HC.out u (K2.trans (Kw.trans K))).2.1,(HC.out u (K2.trans (Kw.trans K))).2.2.1,(K.cell hlb).trans hlc⟩
    go_upto_region 11 with fail
    refine Qx.rg 9 HS11.out fun wd KD Z_=> ?_
    refine Qx.tk 0 Z_ ?_
    refine Qx.tk 1 Z_ ?_
    refine Qx.tk 2 Z_ ?_
    refine Qx.tk 3 Z_ ?_
    refine Qx.tk 4 Z_ ?_
    refine Qx.tk 5 Z_ ?_
    refine Qx.tk 6 Z_ ?_
    refine Qx.tk 7 Z_ ?_
    refine Qx.nx 8 (fun K hK=> ?_)
    rw [if_pos (by rfl)]
    go_simp
    go_at_call 103
    refine (l6Waits_any wd a cap Kj ra rn rc (some ⟨rb,ro,none⟩) dc sl a' hwl hsl hok HGd.out (hN.kept (HKB.out.trans (K2.trans (Kw.trans KD)))) (hS.kept (HKB.out.trans (K2.trans (Kw.trans KD))))).mono ?_
    rintro e w4 ⟨⟨nb,no,nc,ns,rfl,hnc,hnS,hWL⟩,k4⟩
    have K4:=KD.trans k4
    dsimp only
    refine hK.out _ _ (fun _=> HS11.out _ K4) ?_
    clear hK K Z_
    try simp only [Act.put,upA,upB,upC]
    refine Qx.nx 9 (fun K hK=> ?_)
    go_simp
    refine hK.out _ _ (fun h=> absurd rfl h) ?_
    clear hK K
    try simp only [Act.put,upA,upB,upC]
    refine Qx.dn ?_
    have HWL:=Kz hWL
    have HNS:=Kz hnS
    have HO4:=Kz (ownsRow_kept' HO.out K4)
    have HF4:=Kz (HF.out.kept (Kw.trans K4))
    have Kw4:=Kw.trans K4
    have hl5:=hWL.len hok HGd.out.env
    clear hWL hnS HS11 hsub hwr him hlc k4 hlb
    go_wp2_with fail
    go_loopw [10,12] (fun x10 x12 wr=> ∃k:Nat,k<=ns.length∧x12= .int .i64 (k:Int)∧x10= .slice (some ⟨lb,lo,none⟩) lst.length lc∧Hid (∀y∈ns.take k,¬(WaitsX (Q_ Kj) (Qj sl) a' y∧lessX x y∧FarR (WaitsX (Q_ Kj) (Qj sl)) x q y))∧K_ w4 wr) (fun _ x12 _=> ns.length - (intOf x12).toNat)
    case atStart=> exact ⟨0,Nat.zero_le _,rfl,rfl,Kz (fun y hy=> by simp at hy),K_.refl _⟩
    case round=>
     obtain ⟨k,hk,rfl,rfl,HNo,Kn⟩:=hrel
     by_cases hkl:k < ns.length
     rotate_left
     ·exfalso
      obtain ⟨y,h1,h2,h3⟩:=HPq.out.more hq1
      have hy:y∈ns:= (HWL.out.2 y).2 h1
      refine HNo.out y ?_ ⟨h1,h2,h3⟩
      rw [List.take_of_length_le (by omega)]
      exact hy
     obtain ⟨lb1,lo1,e1,hlb1,hlc1⟩:= (HNS.out.kept Kn) k hkl
     cases e1
     obtain ⟨s,hs⟩: ∃s,s=ns.getD k ByteArray.empty:= ⟨_,rfl⟩
     rw [<-hs] at hlc1
     have hsg:ns[k]=s:=by rw [hs];simp [List.getD,hkl]
     have HSk:=Kz hsg
     have HEs:Hid (WaitsX (Q_ Kj) (Qj sl) a' s):= (HWL.out.2 s).1 (by rw [<-hsg];exact List.getElem_mem hkl)
     clear hs hsg
     have hkk: (k:Int) < (ns.length:Int):=by omega
     have HS15:Hid (∀u,K_ wr u->(u.cell? ⟨nb,no+k,none⟩=some (.string s)∧u.cell? ⟨w.heap.size+1,0,none⟩=some (.slice ra rn rc)∧u.cell? ⟨w.heap.size+1,1,none⟩=some (.slice (some ⟨rb,ro,none⟩) sl.length dc)∧Hid (NumRow u fb sl.length V))):=fun u K=> ⟨(K.cell hlb1).trans hlc1,(HC.out u (K2.trans (Kw4.trans (Kn.trans K)))).2.1,(HC.out u (K2.trans (Kw4.trans (Kn.trans K)))).2.2.1,Kz (HF4.out.kept (Kn.trans K))⟩
     go_upto_region 15 with fail
     clear hlc1
     by_cases hgt:lessX x s
     rotate_left
     ·have HNg:=Kz hgt
      have hcs:Op.bytesLess s.toList x.toList=true∨(Op.bytesLess s.toList x.toList=false∧(s.toList == x.toList)=true):=by
       rcases lessX_total s x with h | h | h
       ·exact .inl h
       ·right
        rw [h]
        exact ⟨by cases h2:Op.bytesLess x.toList x.toList;rfl;exact absurd (show lessX x x from h2) (lessX_irrefl x),by simp⟩
       ·exact absurd h hgt
      clear hgt
      rcases hcs with hl1 | ⟨hl1,he1⟩
      all_goals
       refine Qx.rg 21 HS15.out fun wd KD Z_=> ?_
       refine Qx.tk 0 Z_ ?_
       refine Qx.tk 1 Z_ ?_
       refine Qx.tk 2 Z_ ?_
       refine Qx.tk 3 Z_ ?_
       refine Qx.tk 4 Z_ ?_
       refine Qx.tk 5 Z_ ?_
       refine Qx.tk 6 Z_ ?_
       refine Qx.un 7 Z_ ?_
       refine Qx.un 8 Z_ ?_
       refine Qx.un 9 Z_ ?_
       refine Qx.un 10 Z_ ?_
       refine Qx.un 11 Z_ ?_
       refine Qx.un 12 Z_ ?_
       refine Qx.un 13 Z_ ?_
       refine Qx.un 14 Z_ ?_
       refine Qx.un 15 Z_ ?_
       refine Qx.un 16 Z_ ?_
       refine Qx.un 17 Z_ ?_
       refine Qx.un 18 Z_ ?_
       refine Qx.un 19 Z_ ?_
       refine Qx.un 20 Z_ ?_
       refine Qx.nx 21 (fun K hK=> ?_)
       go_simp
       refine hK.out _ _ (fun h=> absurd rfl h) ?_
       clear hK K
       try simp only [Act.put,upA,upB,upC]
       refine Qx.dn ?_
       go_wp2_with fail
       go_roundw
       case rel=> exact ⟨k+1,by omega,by go_num,rfl,Kz (fun y hy=> by
        rw [List.take_succ_eq_append_getElem hkl,HSk.out] at hy
        rcases List.mem_append.1 hy with hy | hy
        ·exact HNo.out y hy
        ·rw [List.mem_singleton] at hy
         rw [hy]
         exact fun h=> HNg.out h.2.1),Kn.trans KD⟩
       case measure=> simp [intOf];omega
     have HGt:Hid (lessX x s):=hgt
     have hl1:Op.bytesLess s.toList x.toList=false:=by
      cases h:Op.bytesLess s.toList x.toList
      ·rfl
      ·exact absurd (show lessX s x from h) (lessX_asymm hgt)
     have he1: (s.toList == x.toList)=false:=by
      cases h: (s.toList == x.toList)
      ·rfl
      ·exact absurd hgt (by rw [beq_yes h];exact lessX_irrefl _)
     clear hgt
     have hsubq: (v:Int) - (lst.length:Int)= (q:Int):=by have:=HPq.out.len;omega
     have hwq:IntKind.i64.wrap (q:Int)= (q:Int):=by rw [IntKind.wrap_i64];omega
     refine Qx.rg 21 HS15.out fun wd KD Z_=> ?_
     refine Qx.tk 0 Z_ ?_
     refine Qx.tk 1 Z_ ?_
     refine Qx.tk 2 Z_ ?_
     refine Qx.tk 3 Z_ ?_
     refine Qx.tk 4 Z_ ?_
     refine Qx.tk 5 Z_ ?_
     refine Qx.tk 6 Z_ ?_
     refine Qx.tk 7 Z_ ?_
     refine Qx.tk 8 Z_ ?_
     refine Qx.tk 9 Z_ ?_
     refine Qx.tk 10 Z_ ?_
     refine Qx.tk 11 Z_ ?_
     refine Qx.tk 12 Z_ ?_
     refine Qx.tk 16 Z_ ?_
     refine Qx.tk 17 Z_ ?_
     refine Qx.tk 18 Z_ ?_
     refine Qx.tk 19 Z_ ?_
     refine Qx.nx 13 (fun K hK=> ?_)
     rw [if_pos (by rfl)]
     go_simp
     go_at_call 52
     refine (l4At_place wd ra rn rc (some ⟨rb,ro,none⟩) dc sl s hsl (hS.kept (HKB.out.trans (K2.trans (Kw4.trans (Kn.trans KD)))))).mono ?_
     rintro e w5 ⟨⟨q5,rfl,hq5⟩,k5⟩
     have K5:=KD.trans k5
     obtain ⟨k',hk',rfl,henv',hkn'⟩: ∃k':Nat,k' < sl.length∧q5= (k':Int)∧Qj sl s=some (sl.getD k' Qz.zero)∧(sl.getD k' Qz.zero).name=s:=by
      rcases hq5 with ⟨k',h1,h2,h3,h4⟩ | ⟨_,h1⟩
      ·exact ⟨k',h1,h2,h3,h4⟩
      ·obtain ⟨_,_,_,_,_,_,_,y,hy,_⟩:=HEs.out
       rw [h1] at hy
       cases hy
     clear hq5
     have hki': (k':Int) < (sl.length:Int):=by omega
     have hk0: (0:Int)<=(k':Int):=by omega
     obtain ⟨p,hp⟩: ∃p,p=V k':= ⟨_,rfl⟩
     have HPQ:Hid (p=q↔FarR (WaitsX (Q_ Kj) (Qj sl)) x q s):=by
      show p=q↔_
      have h:=HV.out k' hk'
      have e2:runN sl k'=s:=hkn'
      rw [e2] at h
      have h2:=RightV.whole (names:=sl.map (·.name)) waits_name (by rw [List.length_map];exact h) (lessX_asymm HGt.out)
      rw [<-hp] at h2
      exact ⟨fun e=> by have h3:=h2.1 (by omega);rw [e] at h3;exact h3,fun hf=> h2.2 q hf⟩
     have HPp:=Kz hp
     clear hp henv' hkn'
     dsimp only
     refine hK.out _ _ (fun _=> HS15.out _ K5) ?_
     clear hK K
     try simp only [Act.put,upA,upB,upC]
     clear Z_
     have Z_:=HS15.out _ K5
     by_cases hpq:p=q
     ·have hpb: ((p:Int) == (q:Int))=true:=by simp [hpq]
      have HLe:Hid (LeastN (fun y=> WaitsX (Q_ Kj) (Qj sl) a' y∧lessX x y∧FarR (WaitsX (Q_ Kj) (Qj sl)) x q y) s):=by
       have h:=first_least (p:=fun y=> WaitsX (Q_ Kj) (Qj sl) a' y∧lessX x y∧FarR (WaitsX (Q_ Kj) (Qj sl)) x q y) HWL.out.1 (fun y hy=> (HWL.out.2 y).2 hy.1) hkl (by rw [HSk.out];exact ⟨HEs.out,HGt.out,HPQ.out.1 hpq⟩) HNo.out
       rw [HSk.out] at h
       exact h
      clear hpq
      refine Qx.tk 14 Z_ ?_
      refine Qx.take 15 [20,21] (v:= ?_) (by (simp only [List.getElem?_toArray,List.getElem?_cons_succ,List.getElem?_cons_zero];rfl)) (by kernel_rfl) (by kernel_rfl) (by kernel_rfl) (by kernel_rfl) (by exact fun _ _ _ h=> h) (Or.inl ⟨by rfl, ?_⟩) Z_ ?_
      rotate_left
      ·intro u hu
       try dsimp only at hu
       have f9:=World.rowIs.cell hu.2.2.2.out hk'
       try dsimp only at f9
       rw [<-HPp.out] at f9
       go_simp
       try with_reducible rfl
      try simp only [Act.put,upA,upB,upC]
      refine Qx.tk 20 Z_ ?_
      refine Qx.nx 21 (fun K hK=> ?_)
      go_simp
      refine hK.out _ _ (fun h=> absurd rfl h) ?_
      clear hK K
      try simp only [Act.put,upA,upB,upC]
      refine Qx.dn ?_
      have c5:= (HS15.out _ K5).1
      clear HS15 Z_
      have k1:K_ w5 (w5.alloc (.cells #[.string s] 9)):= (K_.refl _).alloc _
      have HOw:=Kz (ownsRow_kept' HO4.out (Kn.trans (K5.trans k1)))
      have KK:=Kz (Kw4.trans (Kn.trans (K5.trans k1)))
      have hbz:w2.heap.size<=(w5.alloc (.cells #[.string s] 9)).heap.size:=KK.out.size
      have HNw:Hid (∀j u,([.string s]:List Value)[j]? =some u->(w5.alloc (.cells #[.string s] 9)).cell? ((⟨w5.heap.size,0,none⟩:Addr).add j)=some u):=fun j u hu=> by rw [Addr.add_mid];exact Xz w5 #[.string s] 9 j u hu
      have HOne:Hid (∀u∈([.string s]:List Value),u.oneCell'=true):=fun u hu=> by simp only [List.mem_cons,List.not_mem_nil,or_false] at hu;subst hu;rfl
      clear k1
      go_wp2_with (at_builtin;refine wpList_append_own _ rfl (.tmp 91) (.tmp 96) 25 rfl w2.heap.size 9 ic _ 1 16 Tryz.underlying25 hc0 hc1 hc2 hc3 rfl (by decide) (.slice (some ⟨lb,lo,none⟩) lst.length lc) lst.length (lst.map Value.string) rfl HOw.out ⟨w5.heap.size,0,none⟩ 1 1 [.string s] rfl rfl HNw.out HOne.out (by unfold maxLen;omega) (by omega) hbz ?_;intro v' w6 hown2 hgr _;have KP:=kept_of_grown KK.out (Nat.le_refl _) HOw.out hgr;have HP2:=Kz hown2;obtain ⟨av2,cv2,rfl⟩:=own_slice hown2;clear hown2 hgr)
      go_roundg q
      case measure=> have:=HQ.out;omega
      case rel=> exact ⟨lst++ [s],s,av2,cv2,by rw [List.length_append];rfl,Kz (HPq.out.next hq1 HLe.out),Kz (by rw [List.map_append,List.length_append];exact HP2.out),KP⟩
     ·have hpb: ((p:Int) == (q:Int))=false:=by simp;omega
      have HNf:Hid (¬FarR (WaitsX (Q_ Kj) (Qj sl)) x q s):=fun h=> hpq (HPQ.out.2 h)
      clear hpq
      refine Qx.tk 14 Z_ ?_
      refine Qx.take 15 [20,21] (v:= ?_) (by (simp only [List.getElem?_toArray,List.getElem?_cons_succ,List.getElem?_cons_zero];rfl)) (by kernel_rfl) (by kernel_rfl) (by kernel_rfl) (by kernel_rfl) (by exact fun _ _ _ h=> h) (Or.inl ⟨by rfl, ?_⟩) Z_ ?_
      rotate_left
      ·intro u hu
       try dsimp only at hu
       have f9:=World.rowIs.cell hu.2.2.2.out hk'
       try dsimp only at f9
       rw [<-HPp.out] at f9
       go_simp
       try with_reducible rfl
      try simp only [Act.put,upA,upB,upC]
      refine Qx.tk 20 Z_ ?_
      refine Qx.nx 21 (fun K hK=> ?_)
      go_simp
      refine hK.out _ _ (fun h=> absurd rfl h) ?_
      clear hK K
      try simp only [Act.put,upA,upB,upC]
      refine Qx.dn ?_
      go_wp2_with fail
      go_roundw
      case rel=> exact ⟨k+1,by omega,by go_num,rfl,Kz (fun y hy=> by
       rw [List.take_succ_eq_append_getElem hkl,HSk.out] at hy
       rcases List.mem_append.1 hy with hy | hy
       ·exact HNo.out y hy
       ·rw [List.mem_singleton] at hy
        rw [hy]
        exact fun h=> HNf.out h.2.2),Kn.trans K5⟩
      case measure=> simp [intOf];omega
theorem Tryz.zeroWS (w:World): (zeroValue 25).run Tryz.prog w= .ok (.slice none 0 0) w:=by kernel_rfl
structure OutM (w:World) (base mo M:Nat) (g:ByteArray->Value) (ol:ByteArray->List ByteArray):Prop where
 map: ∃N D,N<=M∧w.ownsMap Tryz.prog 9 asIs mo N D∧(∀s:ByteArray,s.size<=maxLen->D.atKey (keyLit s) (.held (.slice none 0 0))= .held (g s))∧∀s:ByteArray,Maps.has D (keyLit s)=true↔ol s≠[]
 row: ∀s,w.ownsRow base 9 1 (g s) (ol s).length ((ol s).map Value.string)
 sep: ∀s s',s≠s'->∀x,(g s).ownBlock=some x->(g s').ownBlock≠some x
 low:base<=mo
section
variable {w w1 w' : World} {base mo M : Nat} {g : ByteArray -> Value} {ol : ByteArray -> List ByteArray}
theorem OutM.look (h:OutM w base mo M g ol) {s:ByteArray} (hs:s.size<=maxLen): (Instr.lookup 157 (.map (some mo)) (.string s) false).run Tryz.prog w= .ok (g s) w:=by
 obtain ⟨N,D,_,hM,hf⟩:=h.map
 obtain ⟨v,ps,hrun,hv⟩:=hM.lookup Tryz.keyed Tryz.underlying157 (Tryz.zeroWS w) (zd:= .held (.slice none 0 0)) (zp:=[]) rfl (WideMaps.keyOf_string_mk Tryz.underlying9 hs)
 have e:=hf.1 s hs
 unfold asIs at hv
 simp only [Option.some.injEq,Prod.mk.injEq] at hv
 have e2: (DataW.held v:DataW Value)= .held (g s):=hv.1.trans e
 cases e2
 exact hrun
theorem OutM.but {S:Nat->Prop} (h:OutM w base mo M g ol) (k:But S w w') (h1: ¬S mo) (h2: ∀s b,(g s).ownBlock=some b->¬S b):OutM w' base mo M g ol:=by
 obtain ⟨N,D,hN,hM,hf⟩:=h.map
 exact ⟨⟨N,D,hN,map_but hM k h1,hf⟩,fun s=> k.owns (h.row s) (h2 s),h.sep,h.low⟩
theorem OutM.kept (h:OutM w base mo M g ol) (k:K_ w w'):OutM w' base mo M g ol:=
 h.but (S:=fun _=> False) (But.of_kept k) id (fun _ _ _=> id)
theorem OutM.grown_look (h:OutM w base mo M g ol) {s:ByteArray} (hs:s.size<=maxLen) (hg:w.grownBy w1 (g s).ownBlock): (Instr.lookup 157 (.map (some mo)) (.string s) false).run Tryz.prog w1= .ok (g s) w1:=by
 obtain ⟨N,D,_,hM,hf⟩:=h.map
 have hM1:w1.ownsMap Tryz.prog 9 asIs mo N D:=map_but (S:=fun b=> (g s).ownBlock=some b) hM (But.of_grown hg (fun b e=> e)) (fun e=> map_ne hM (Yz (h.row s) e) rfl)
 obtain ⟨v,ps,hrun,hv⟩:=hM1.lookup Tryz.keyed Tryz.underlying157 (Tryz.zeroWS w1) (zd:= .held (.slice none 0 0)) (zp:=[]) rfl (WideMaps.keyOf_string_mk Tryz.underlying9 hs)
 have e:=hf.1 s hs
 unfold asIs at hv
 simp only [Option.some.injEq,Prod.mk.injEq] at hv
 have e2: (DataW.held v:DataW Value)= .held (g s):=hv.1.trans e
 cases e2
 exact hrun
theorem OutM.put (h:OutM w base mo M g ol) {s:ByteArray} (hs:s.size<=maxLen) {x:ByteArray} {v':Value} (ho:w1.ownsRow base 9 1 v' ((ol s).length+1) ((ol s).map Value.string++ [.string x])) (hg:w.grownBy w1 (g s).ownBlock) (hv: ∀b,v'.ownBlock=some b->(g s).ownBlock=some b∨w.heap.size<=b) (hmx:M<=1000000):
  ∃w2,(Instr.mapUpdate 157 (.map (some mo)) (.string s) v').run Tryz.prog w1= .ok () w2∧OutM w2 base mo (M+1) (fun n=> if n=s then v' else g n) (fun n=> if n=s then ol s++ [x] else ol n)∧But (fun b=> (g s).ownBlock=some b∨b=mo) w w2:=by
 obtain ⟨N,D,hNl,hM,hf⟩:=h.map
 have k1:But (fun b=> (g s).ownBlock=some b) w w1:=But.of_grown hg (fun b e=> e)
 have hM1:=map_but hM k1 (fun e=> map_ne hM (Yz (h.row s) e) rfl)
 obtain ⟨w2,hrun,hM2,hg2⟩:=hM1.update Tryz.keyed Tryz.underlying157 (by unfold maxLen;omega) (WideMaps.keyOf_string_mk Tryz.underlying9 hs) (d:= .held v') (ps:=[]) rfl
 have kS:But (fun b=> (g s).ownBlock=some b∨b=mo) w w2:= (k1.mono (fun b _ e=> .inl e)).trans (But.of_grown hg2 (fun b e=> .inr (Option.some.inj e).symm))
 have k2:But (fun b=> b=mo) w1 w2:=But.of_grown hg2 (fun b e=> (Option.some.inj e).symm)
 have ne1: ∀{b:Nat} {t:TypeId},TypeAt w1 b t->¬b=mo:=fun hu e=> map_ne hM1 hu e
 have hmp:Maps.IsMap D:=by obtain ⟨es,clock,_,_,_,rfl⟩:=hM;exact ⟨_,rfl⟩
 refine ⟨w2,hrun,⟨⟨N+1,_,by omega,hM2,fun n hn=> ?_,fun n=> ?_⟩,fun n=> ?_,fun n n' hnn y hy hy'=> ?_,h.low⟩,kS⟩
 ·by_cases e:n=s
  ·rw [if_pos e,e]
   exact Maps.atKey_put_same (k:=keyLit s) hmp (by show WideAt.IsKeyLit (.string _);exact trivial) _ _
  ·rw [if_neg e,<-hf.1 n hn]
   exact Maps.atKey_put_other (keyLit_ne e) _ _
 ·by_cases e:n=s
  ·rw [if_pos e,e]
   exact ⟨fun _=> by simp,fun _=> Maps.has_put_same (k:=keyLit s) hmp (by show WideAt.IsKeyLit (.string _);exact trivial) (.held v')⟩
  ·rw [if_neg e,<-hf.2 n]
   exact Eq.to_iff (congrArg (· =true) (Maps.has_put_other (keyLit_ne e) _))
 ·by_cases e:n=s
  ·simp only [if_pos e]
   have e1: (ol s++ [x]).length= (ol s).length+1:=by simp
   have e2: (ol s++ [x]).map Value.string= (ol s).map Value.string++ [.string x]:=by simp
   rw [e1,e2]
   exact k2.owns ho (fun b e=> ne1 (Yz ho e))
  ·simp only [if_neg e]
   refine kS.owns (h.row n) (fun b e1 e2=> ?_)
   rcases e2 with e2 | e2
   ·exact h.sep n s e b e1 e2
   ·exact map_ne hM (Yz (h.row n) e1) e2
 ·by_cases e:n=s
  ·rw [if_pos e] at hy
   rw [if_neg (fun e'=> hnn (e.trans e'.symm))] at hy'
   rcases hv y hy with q | q
   ·exact h.sep s n' (fun e'=> hnn (e.trans e')) y q hy'
   ·have:= ((h.row n').lt y hy').2;omega
  ·rw [if_neg e] at hy
   by_cases e':n'=s
   ·rw [if_pos e'] at hy'
    rcases hv y hy' with q | q
    ·exact h.sep n s e y hy q
    ·have:= ((h.row n).lt y hy).2;omega
   ·rw [if_neg e'] at hy'
    exact h.sep n n' hnn y hy hy'
theorem OutM.made {base:Nat} (hb:base<=w.heap.size):OutM (w.alloc (.map #[] 0)) base w.heap.size 0 (fun _=> .slice none 0 0) (fun _=> []):=
 ⟨⟨0,.map [],Nat.le_refl _,World.ownsMap_made w Tryz.prog 9 asIs,fun s _=> rfl,fun s=> by simp [Maps.has]⟩,fun s=> World.ownsRow_nil _ _ _ _,fun s s' _ x h=> (by cases h),hb⟩
end
section
variable {P : Program} {w : World}
theorem wp_append_rows {o:Oper} {a:Act} {K:Act->World->Prop} {Q:Exit->Act->World->Prop} (s x:Operand) (t:TypeId)
  (ho:o.op= .call { callee:= .builtin .append,args:= #[s,x],argTypes:= #[t,t] })
  (base:Nat) (e:TypeId) (i:TypeInfo) (z:Value) (size bytes:Nat) (ht:P.underlying t=some (.slice e)) (hi:P.info? e=some i) (hz:i.zero=some z)
  (hsize:i.size=size) (hby:i.bytes=bytes) (hzs:z.cells.size=size) (hsz:0 < size)
  (v:Value) (n:Nat) (xs:List Value) (hs:a.eval s=v) (hown:w.ownsRow base e size v n xs)
  (base2:Nat) (v2:Value) (m:Nat) (ys:List Value) (hx:a.eval x=v2) (hown2:w.ownsRow base2 e size v2 m ys) (h1: ∀u∈ys,u.oneCell'=true)
  (h63:n+m<=maxLen) (hbytes: (n+m) * bytes<=140737488355328) (hbase:base<=w.heap.size)
  (h: ∀v' w',w'.ownsRow base e size v' (n+m) (xs++ys)->w.grownBy w' v.ownBlock->(∀g,v'.ownBlock=some g->v.ownBlock=some g∨w.heap.size<=g)->K (a.put o.dst v') w'):o.wp P a w K Q:=by
 by_cases h0:m=0
 ·have e2: ∃x2 c2,v2= .slice x2 0 c2:=by
   rcases hown2.2 with ⟨e2,_⟩ | ⟨g,cap,cur,e2,_⟩
   ·exact ⟨none,0,e2⟩
   ·exact ⟨some ⟨g,0,none⟩,cap,by rw [e2,h0]⟩
  obtain ⟨x2,c2,e2⟩:=e2
  have hy:ys=[]:=List.length_eq_zero_iff.1 (by rw [hown2.1,h0,Nat.zero_mul])
  refine Go.Lib.wp_append_run w s x t t ho v _ hs (by rw [hx,e2]) v w (run_append_zero base t o.type e i size ht hi v n xs hown x2 c2) (h v w ?_ ⟨rfl,rfl,rfl,Nat.le_refl _,fun _ _ _=> rfl⟩ (fun g e=> .inl e))
  rw [hy,h0]
  simpa using hown
 ·rcases hown2.2 with ⟨_,e2⟩ | ⟨g,cap,cur,e2,_⟩
  ·exact absurd e2 h0
  ·refine wp_append_lies w s x t ho base e i z size bytes ht hi hz hsize hby hzs hsz v n xs hs hown ⟨g,0,none⟩ m cap ys (by rw [hx,e2]) hown2.1 (fun j u hu=> hown2.cells (g:=g) (by rw [e2];rfl) j u hu) h1 (by omega) h63 hbytes hbase w.heap.size rfl (fun g' cap' w' q1 q2 q3 q4=> h _ w' q1 q2 (fun g'' e3=> ?_))
   have e4:g'=g'':=by injection e3
   subst e4
   rcases q3 with q3 | q3
   ·exact .inl q3
   ·exact .inr (Nat.le_of_eq q3.symm)
theorem wpList_append_rows {ops:Array Oper} {rest:List Oper} {o:Oper} {a:Act} {Q:Exit->Act->World->Prop} (hgd:o.guard=none) (s x:Operand) (t:TypeId)
  (ho:o.op= .call { callee:= .builtin .append,args:= #[s,x],argTypes:= #[t,t] })
  (base:Nat) (e:TypeId) (i:TypeInfo) (z:Value) (size bytes:Nat) (ht:P.underlying t=some (.slice e)) (hi:P.info? e=some i) (hz:i.zero=some z)
  (hsize:i.size=size) (hby:i.bytes=bytes) (hzs:z.cells.size=size) (hsz:0 < size)
  (v:Value) (n:Nat) (xs:List Value) (hs:a.eval s=v) (hown:w.ownsRow base e size v n xs)
  (base2:Nat) (v2:Value) (m:Nat) (ys:List Value) (hx:a.eval x=v2) (hown2:w.ownsRow base2 e size v2 m ys) (h1: ∀u∈ys,u.oneCell'=true)
  (h63:n+m<=maxLen) (hbytes: (n+m) * bytes<=140737488355328) (hbase:base<=w.heap.size)
  (h: ∀v' w',w'.ownsRow base e size v' (n+m) (xs++ys)->w.grownBy w' v.ownBlock->(∀g,v'.ownBlock=some g->v.ownBlock=some g∨w.heap.size<=g)->wpList P ops Q rest (a.put o.dst v') w'):wpList P ops Q (o :: rest) a w:=
 wpList_plain hgd fun _ hK=> wp_append_rows s x t ho base e i z size bytes ht hi hz hsize hby hzs hsz v n xs hs hown base2 v2 m ys hx hown2 h1 h63 hbytes hbase fun v' w' h2 h3 h4=> hK _ _ (h v' w' h2 h3 h4)
end
