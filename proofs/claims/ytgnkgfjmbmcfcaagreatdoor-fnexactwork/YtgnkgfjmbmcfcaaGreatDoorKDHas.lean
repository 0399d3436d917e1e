import Derived.Test.YtgnkgfjmbmcfcaaGreatDoorKSRoots
import Derived.Deep.LoopGhost
set_option maxRecDepth 100000
set_option maxHeartbeats 25600000
namespace Go.Proofs.YtgnkgfjmbmcfcaaGreatDoor
open Go.RowKit
theorem has_beq {a b:ByteArray} (h: (a.toList == b.toList)=true):a=b:=by
 have h':a.toList=b.toList:=by simpa using h
 rw [ByteArray.toList_eq,ByteArray.toList_eq] at h'
 cases a;cases b
 simp at h'
 rw [h']
theorem l6Has_any (w:World) (a:Option Addr) (cap:Nat) (l:List ByteArray) (x:ByteArray) (hl:l.length<=1048576) (hS:Strs w a l):
  Calls Tryz.prog 100 #[.slice a l.length cap,.string x] w fun e w'=> Says e (x∈l)∧w'=w:=by
 go_enter Tryz.func100,Tryz.ntmps100
 go_wp2
 go_loopw [5] (fun i wr=> ∃k:Nat,k<=l.length∧i= .int .i64 (k:Int)∧Hid (x∉l.take k)∧wr=w) (fun i _=> l.length - (intOf i).toNat)
 case atStart=> exact ⟨0,Nat.zero_le _,rfl,Kz (by simp),rfl⟩
 case round=>
  obtain ⟨k,hk,rfl,HN,rfl⟩:=hrel
  by_cases hlt:k < l.length
  ·obtain ⟨b,o,e1,hb,hc⟩:=hS k hlt
   subst e1
   obtain ⟨y,hy⟩: ∃y,y=l.getD k ByteArray.empty:= ⟨_,rfl⟩
   rw [<-hy] at hc
   have hyg:l[k]=y:=by rw [hy];simp [List.getD,hlt]
   have HY:=Kz hyg
   have hki: (k:Int) < (l.length:Int):=by omega
   clear hy hyg
   cases heq: (y.toList == x.toList)
   ·go_wp2_with fail
    go_roundw
    case rel=>
     refine ⟨k+1,by omega,by go_num,Kz (fun h=> ?_),trivial⟩
     rw [List.take_succ_eq_append_getElem hlt,HY.out] at h
     rcases List.mem_append.1 h with h | h
     ·exact HN.out h
     ·rw [List.mem_singleton] at h
      rw [h] at heq
      simp at heq
    case measure=> simp [intOf];omega
   ·go_wp2_with fail
    go_ret
    exact ⟨Says.yes (by rw [<-has_beq heq,<-HY.out];exact List.getElem_mem hlt),rfl⟩
  ·have hnk: ¬((k:Int) < (l.length:Int)):=by omega
   have HAll:Hid (x∉l):=by have h:=HN.out;rw [List.take_of_length_le (by omega)] at h;exact h
   clear hlt
   go_wp2_with fail
   go_ret
   exact ⟨Says.no HAll.out,rfl⟩
