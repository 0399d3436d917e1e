import Derived.Test.YtieeffpandfpbaaGreatDoorKCResO
import Derived.Test.YtieeffpandfpbaaGreatDoorKCDist
set_option maxRecDepth 100000
set_option maxHeartbeats 25600000
namespace Go.Proofs.YtieeffpandfpbaaGreatDoor
open Go.RowKit
theorem res_said {W:Acts} {σ:Env} (ho:OpenT σ) {n:ByteArray} {f:Bool} {t:ByteArray} {ok:Bool} (h:ansOf W σ n=if ok=true then some ⟨f,t⟩ else none) (hr:ok=false->∃r,σ n=some r∧f=r.fail∧t=r.text):resX W σ n= ⟨n,ok,f,t⟩:=by
 unfold resX
 cases ok
 ·rw [h]
  obtain ⟨r,h1,h2,h3⟩:=hr rfl
  have hov:r.over=false:=by
   unfold ansOf at h
   cases hW:W n with
   | none=> rw [hW] at h;cases h
   | some A=>
    rw [hW,h1] at h
    simp only at h
    cases hv:r.over
    ·rfl
    ·rw [hv] at h;cases h
  obtain ⟨h4,h5⟩:=ho n r h1 hov
  rw [h2,h3,h4,h5]
  rfl
 ·rw [h]
  rfl
section
variable {G : Ghost} {Kk : List Qj} {wz w w' : World} {bb : Nat} {a : Option Addr} {cap : Nat} {rd : Option Addr} {rn rc : Nat} {mb mx : Nat} {ts : List X_} {d : Option Addr} {dc : Nat} {f : ByteArray -> Value} {ws : ByteArray -> List Nat}
theorem resultsOf_any (hB:BM G Kk wz w bb a cap rd rn rc mb mx ts d dc f ws) (hot:OpenT (Qk (Qx ts))) (hl:ts.length<=1048576) (ra:Option Addr) (rcap:Nat) (Q_:List ByteArray) (hrl:Q_.length<=1000) (hsz: ∀n∈Q_,n.size<=1000∧((∃t∈ts,t.r.name=n)∨Qz Kk n=none)) (htx: ∀n∈Q_,(resX (Qz Kk) (Qk (Qx ts)) n).text.size<=1048576) (hR:Strs w ra Q_):
  Calls Tryz.prog 70 #[.slice ra Q_.length rcap,.func (.func 71) #[.pointer (some ⟨bb,0,none⟩)] #[]] w fun e w'=> ∃a',e= .returned (.slice a' Q_.length Q_.length)∧RessIn w' w.heap.size w'.heap.size a' (Q_.map (resX (Qz Kk) (Qk (Qx ts))))∧K_ w w':=by
 obtain ⟨R,hRx⟩: ∃R,R=resX (Qz Kk) (Qk (Qx ts)):= ⟨_,rfl⟩
 rw [<-hRx] at htx⊢
 have HRx:=Kj hRx
 have HB:=Kj hB
 have HOt:=Kj hot
 have HSz:=Kj hsz
 have HTx:=Kj htx
 have HR:=Kj hR
 clear hRx hB hot hsz htx hR
 go_enter Tryz.func70,Tryz.ntmps70
 go_wp2
 go_loopw [5,12] (fun x5 x12 wr=> ∃(k:Nat) (av:Option Addr) (cv:Nat),k<=Q_.length∧x12= .int .i64 (k:Int)∧x5= .slice av k cv∧Hid (wr.ownsRow w.heap.size 79 4 (.slice av k cv) k (dResCells ((Q_.take k).map R)))∧K_ w wr) (fun _ x12 _=> Q_.length - (intOf x12).toNat)
 case atStart=> exact ⟨0,none,0,Nat.zero_le _,rfl,rfl,Kj (World.ownsRow_nil _ _ _ _),K_.refl _⟩
 case round=>
  obtain ⟨k,av,cv,hk,rfl,rfl,HO,Kr⟩:=hrel
  by_cases hlt:k < Q_.length
  rotate_left
  ·have hnk: ¬((k:Int) < (Q_.length:Int)):=by omega
   have hke:k=Q_.length:=by omega
   have HRe:Hid (Ress wr av (Q_.map R)):=by
    have h:=HO.out
    rw [hke,List.take_length] at h
    obtain ⟨a9,c9,e9,h9⟩:=owned_ress h
    simp only [Value.slice.injEq] at e9
    rw [e9.1]
    exact h9
   have hml: (Q_.map R).length=k:=by rw [List.length_map];exact hke.symm
   have HMl:=Kj hml
   have HKe:=Kj hke
   clear hlt hke hml
   go_wp2_with fail
   have hc:=copyRess_in wr av cv (Q_.map R) (by rw [List.length_map];omega) (fun c hc=> by
    obtain ⟨n,hn,rfl⟩:=List.mem_map.1 hc
    have h1:= (HSz.out n hn).1
    refine ⟨?_,HTx.out n hn⟩
    have: (R n).name=n:=by rw [HRx.out];unfold resX;cases ansOf (Qz Kk) (Qk (Qx ts)) n <;> rfl
    rw [this];omega) HRe.out
   rw [HMl.out] at hc
   refine hc.mono ?_
   rintro e w2 ⟨a2,rfl,hI,k2⟩
   have HI:=Kj hI
   clear hI hc
   go_wp2_with fail
   go_ret
   exact ⟨a2,by rw [HKe.out];rfl,HI.out.mono Kr.size (Nat.le_refl _),Kr.trans k2⟩
  have hkk: (k:Int) < (Q_.length:Int):=by omega
  obtain ⟨sb,so,e1,hsb,hsc⟩:= (HR.out.kept Kr) k hlt
  subst e1
  obtain ⟨nm,hnm⟩: ∃nm,nm=Q_.getD k ByteArray.empty:= ⟨_,rfl⟩
  rw [<-hnm] at hsc
  have hng:Q_[k]=nm:=by rw [hnm];simp [List.getD,hlt]
  have hmem:nm∈Q_:=by rw [<-hng];exact List.getElem_mem hlt
  have HNg:=Kj hng
  have HMem:=Kj hmem
  clear hnm hng hmem
  go_wp2_with fail
  refine (benchAnswer_anyR (HB.out.kept Kr) nm hl (HSz.out nm HMem.out).1 (HSz.out nm HMem.out).2).mono ?_
  rintro e w3 ⟨⟨fl,tx,ok,rfl,hans,hopn⟩,k3⟩
  have HRes:Hid (R nm= ⟨nm,ok,fl,tx⟩):=by rw [HRx.out];exact res_said HOt.out hans hopn
  have k5:K_ w3 ((w3.alloc (.cells #[.bool fl,.string tx] 75)).alloc (.cells #[.string nm,.bool ok,.bool fl,.string tx] 79)):= ((K_.refl _).alloc _).alloc _
  have r0:=Xq w3 #[.bool fl,.string tx] 75 0 _ rfl
  have r1:=Xq w3 #[.bool fl,.string tx] 75 1 _ rfl
  simp only [Nat.zero_add] at r0 r1
  have HOw:=Kj (ownsRow_kept' HO.out (k3.trans k5))
  have hbz:w.heap.size<=((w3.alloc (.cells #[.bool fl,.string tx] 75)).alloc (.cells #[.string nm,.bool ok,.bool fl,.string tx] 79)).heap.size:= (Kr.trans (k3.trans k5)).size
  have HNw:Hid (∀j u,([.string nm,.bool ok,.bool fl,.string tx]:List Value)[j]? =some u->((w3.alloc (.cells #[.bool fl,.string tx] 75)).alloc (.cells #[.string nm,.bool ok,.bool fl,.string tx] 79)).cell? ((⟨w3.heap.size+1,0,none⟩:Addr).add j)=some u):=fun j u hu=> by have:=Xq (w3.alloc (.cells #[.bool fl,.string tx] 75)) #[.string nm,.bool ok,.bool fl,.string tx] 79 j u hu;rw [World.size_alloc] at this;rw [Addr.add_mid];exact this
  have HOne:Hid (∀u∈([.string nm,.bool ok,.bool fl,.string tx]:List Value),u.oneCell'=true):=fun u hu=> by simp only [List.mem_cons,List.not_mem_nil,or_false] at hu;rcases hu with rfl | rfl | rfl | rfl <;> rfl
  have KK:=Kj (Kr.trans (k3.trans k5))
  obtain ⟨ic,hc0,hc1,hc2,hc3⟩:=xInfo_parts Tryz.infoResult
  clear k3 k5 hans hopn hsc hsb
  go_wp2_with (at_builtin;refine wpList_append_own _ rfl (.tmp 22) (.tmp 30) 31 rfl w.heap.size 79 ic _ 4 40 Tryz.underlying31 hc0 hc1 hc2 hc3 rfl (by decide) (.slice av k cv) k (dResCells ((Q_.take k).map R)) rfl HOw.out ⟨w3.heap.size+1,0,none⟩ 1 1 [.string nm,.bool ok,.bool fl,.string tx] rfl rfl HNw.out HOne.out (by unfold maxLen;omega) (by omega) hbz ?_;intro v' w6 hown2 hgr _;have KP:=kept_of_grown KK.out (Nat.le_refl _) HOw.out hgr;have HP:=Kj hown2;obtain ⟨av2,cv2,rfl⟩:=own_slice hown2;clear hown2 hgr)
  go_roundw
  case rel=>
   refine ⟨k+1,av2,cv2,by omega,by go_num,rfl,Kj ?_,KP⟩
   rw [List.take_succ_eq_append_getElem hlt,List.map_append,List.map_cons,List.map_nil,HNg.out,HRes.out,dResCells_snoc]
   exact HP.out
  case measure=> simp [intOf];omega
end
