import Derived.Test.YtgnkgfjmbmcfcaaGreatDoorKCResO
import Derived.Test.YtgnkgfjmbmcfcaaGreatDoorKCDist
set_option maxRecDepth 100000
set_option maxHeartbeats 25600000
namespace Go.Proofs.YtgnkgfjmbmcfcaaGreatDoor
open Go.RowKit
theorem res_said {W:Acts} {σ:Env} (ho:OpenT σ) {n:ByteArray} {f:Bool} {t:ByteArray} {ok:Bool} (h:ansOf W σ n=if ok=true then some ⟨f,t⟩ else none) (hr:ok=false->∃r,σ n=some r∧f=r.fail∧t=r.text):resX W σ n= ⟨n,ok,f,t⟩:=by
 unfold resX
 cases ok
 ·rw [h]
  obtain ⟨r,h1,h2,h3⟩:=hr rfl
  have hov:r.over=false:=by
   unfold ansOf at h
   cases hW:W n with
   | none=> rw [hW] at h;cases h
   | some A=>
    rw [hW,h1] at h
    simp only at h
    cases hv:r.over
    ·rfl
    ·rw [hv] at h;cases h
  obtain ⟨h4,h5⟩:=ho n r h1 hov
  rw [h2,h3,h4,h5]
  rfl
 ·rw [h]
  rfl
section
variable {G : Ghost} {Kj : List Qq} {wz w w' : World} {bb : Nat} {a : Option Addr} {cap : Nat} {rd : Option Addr} {rn rc : Nat} {mb mx : Nat} {ts : List Zx} {d : Option Addr} {dc : Nat} {f : ByteArray -> Value} {ws : ByteArray -> List Nat}
theorem resultsOf_any (hB:BM G Kj wz w bb a cap rd rn rc mb mx ts d dc f ws) (hot:OpenT (Qj (Qk ts))) (hl:ts.length<=1048576) (ra:Option Addr) (rcap:Nat) (Kk:List ByteArray) (hrl:Kk.length<=1000) (hsz: ∀n∈Kk,n.size<=1000∧((∃t∈ts,t.r.name=n)∨Q_ Kj n=none)) (htx: ∀n∈Kk,(resX (Q_ Kj) (Qj (Qk ts)) n).text.size<=1048576) (hR:Strs w ra Kk):
  Calls Tryz.prog 78 #[.slice ra Kk.length rcap,.func (.func 79) #[.pointer (some ⟨bb,0,none⟩)] #[]] w fun e w'=> ∃a',e= .returned (.slice a' Kk.length Kk.length)∧RessIn w' w.heap.size w'.heap.size a' (Kk.map (resX (Q_ Kj) (Qj (Qk ts))))∧K_ w w':=by
 obtain ⟨R,hRx⟩: ∃R,R=resX (Q_ Kj) (Qj (Qk ts)):= ⟨_,rfl⟩
 rw [<-hRx] at htx⊢
 have HRx:=Kz hRx
 have HB:=Kz hB
 have HOt:=Kz hot
 have HSz:=Kz hsz
 have HTx:=Kz htx
 have HR:=Kz hR
 clear hRx hB hot hsz htx hR
 go_enter Tryz.func78,Tryz.ntmps78
 go_wp2
 go_loopw [5,12] (fun x5 x12 wr=> ∃(k:Nat) (av:Option Addr) (cv:Nat),k<=Kk.length∧x12= .int .i64 (k:Int)∧x5= .slice av k cv∧Hid (wr.ownsRow w.heap.size 116 4 (.slice av k cv) k (dResCells ((Kk.take k).map R)))∧K_ w wr) (fun _ x12 _=> Kk.length - (intOf x12).toNat)
 case atStart=> exact ⟨0,none,0,Nat.zero_le _,rfl,rfl,Kz (World.ownsRow_nil _ _ _ _),K_.refl _⟩
 case round=>
  obtain ⟨k,av,cv,hk,rfl,rfl,HO,Kr⟩:=hrel
  by_cases hlt:k < Kk.length
  rotate_left
  ·have hnk: ¬((k:Int) < (Kk.length:Int)):=by omega
   have hke:k=Kk.length:=by omega
   have HRe:Hid (Ress wr av (Kk.map R)):=by
    have h:=HO.out
    rw [hke,List.take_length] at h
    obtain ⟨a9,c9,e9,h9⟩:=owned_ress h
    simp only [Value.slice.injEq] at e9
    rw [e9.1]
    exact h9
   have hml: (Kk.map R).length=k:=by rw [List.length_map];exact hke.symm
   have HMl:=Kz hml
   have HKe:=Kz hke
   clear hlt hke hml
   go_wp2_with fail
   have hc:=copyRess_in wr av cv (Kk.map R) (by rw [List.length_map];omega) (fun c hc=> by
    obtain ⟨n,hn,rfl⟩:=List.mem_map.1 hc
    have h1:= (HSz.out n hn).1
    refine ⟨?_,HTx.out n hn⟩
    have: (R n).name=n:=by rw [HRx.out];unfold resX;cases ansOf (Q_ Kj) (Qj (Qk ts)) n <;> rfl
    rw [this];omega) HRe.out
   rw [HMl.out] at hc
   refine hc.mono ?_
   rintro e w2 ⟨a2,rfl,hI,k2⟩
   have HI:=Kz hI
   clear hI hc
   go_wp2_with fail
   go_ret
   exact ⟨a2,by rw [HKe.out];rfl,HI.out.mono Kr.size (Nat.le_refl _),Kr.trans k2⟩
  have hkk: (k:Int) < (Kk.length:Int):=by omega
  obtain ⟨sb,so,e1,hsb,hsc⟩:= (HR.out.kept Kr) k hlt
  subst e1
  obtain ⟨nm,hnm⟩: ∃nm,nm=Kk.getD k ByteArray.empty:= ⟨_,rfl⟩
  rw [<-hnm] at hsc
  have hng:Kk[k]=nm:=by rw [hnm];simp [List.getD,hlt]
  have hmem:nm∈Kk:=by rw [<-hng];exact List.getElem_mem hlt
  have HNg:=Kz hng
  have HMem:=Kz hmem
  clear hnm hng hmem
  go_wp2_with fail
  refine (benchAnswer_anyR (HB.out.kept Kr) nm hl (HSz.out nm HMem.out).1 (HSz.out nm HMem.out).2).mono ?_
  rintro e w3 ⟨⟨fl,tx,ok,rfl,hans,hopn⟩,k3⟩
  have HRes:Hid (R nm= ⟨nm,ok,fl,tx⟩):=by rw [HRx.out];exact res_said HOt.out hans hopn
  have k5:K_ w3 ((w3.alloc (.cells #[.bool fl,.string tx] 112)).alloc (.cells #[.string nm,.bool ok,.bool fl,.string tx] 116)):= ((K_.refl _).alloc _).alloc _
  have r0:=Xz w3 #[.bool fl,.string tx] 112 0 _ rfl
  have r1:=Xz w3 #[.bool fl,.string tx] 112 1 _ rfl
  simp only [Nat.zero_add] at r0 r1
  have HOw:=Kz (ownsRow_kept' HO.out (k3.trans k5))
  have hbz:w.heap.size<=((w3.alloc (.cells #[.bool fl,.string tx] 112)).alloc (.cells #[.string nm,.bool ok,.bool fl,.string tx] 116)).heap.size:= (Kr.trans (k3.trans k5)).size
  have HNw:Hid (∀j u,([.string nm,.bool ok,.bool fl,.string tx]:List Value)[j]? =some u->((w3.alloc (.cells #[.bool fl,.string tx] 112)).alloc (.cells #[.string nm,.bool ok,.bool fl,.string tx] 116)).cell? ((⟨w3.heap.size+1,0,none⟩:Addr).add j)=some u):=fun j u hu=> by have:=Xz (w3.alloc (.cells #[.bool fl,.string tx] 112)) #[.string nm,.bool ok,.bool fl,.string tx] 116 j u hu;rw [World.size_alloc] at this;rw [Addr.add_mid];exact this
  have HOne:Hid (∀u∈([.string nm,.bool ok,.bool fl,.string tx]:List Value),u.oneCell'=true):=fun u hu=> by simp only [List.mem_cons,List.not_mem_nil,or_false] at hu;rcases hu with rfl | rfl | rfl | rfl <;> rfl
  have KK:=Kz (Kr.trans (k3.trans k5))
  obtain ⟨ic,hc0,hc1,hc2,hc3⟩:=xInfo_parts Tryz.infoResult
  clear k3 k5 hans hopn hsc hsb
  go_wp2_with (at_builtin;refine wpList_append_own _ rfl (.tmp 22) (.tmp 30) 29 rfl w.heap.size 116 ic _ 4 40 Tryz.underlying29 hc0 hc1 hc2 hc3 rfl (by decide) (.slice av k cv) k (dResCells ((Kk.take k).map R)) rfl HOw.out ⟨w3.heap.size+1,0,none⟩ 1 1 [.string nm,.bool ok,.bool fl,.string tx] rfl rfl HNw.out HOne.out (by unfold maxLen;omega) (by omega) hbz ?_;intro v' w6 hown2 hgr _;have KP:=kept_of_grown KK.out (Nat.le_refl _) HOw.out hgr;have HP:=Kz hown2;obtain ⟨av2,cv2,rfl⟩:=own_slice hown2;clear hown2 hgr)
  go_roundw
  case rel=>
   refine ⟨k+1,av2,cv2,by omega,by go_num,rfl,Kz ?_,KP⟩
   rw [List.take_succ_eq_append_getElem hlt,List.map_append,List.map_cons,List.map_nil,HNg.out,HRes.out,dResCells_snoc]
   exact HP.out
  case measure=> simp [intOf];omega
end
