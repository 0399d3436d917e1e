import Derived.Test.YtgnkgfjmbmcfcaaGreatDoorKFImpl2
import Derived.Test.YtgnkgfjmbmcfcaaGreatDoorKBSame
set_option maxRecDepth 100000
set_option maxHeartbeats 25600000
namespace Go.Proofs.YtgnkgfjmbmcfcaaGreatDoor
open Go.RowKit
def ToldEnd (nm:List ByteArray) (ps:List Nat) (w w':World) (e:Ending):Prop:=
 ∃da:Option Addr,e= .returned (.slice da (ps.map (nameOf nm)).length (ps.map (nameOf nm)).length)∧StrsIn w' w.heap.size w'.heap.size da (ps.map (nameOf nm))∧K_ w w'
theorem told_any (w:World) (na:Option Addr) (nc:Nat) (nm:List ByteArray) (v1 v2:Value) (_h1c:v1.oneCell'=true) (_h2c:v2.oneCell'=true) (pa:Option Addr) (pc:Nat) (ps:List Nat) (hps: ∀p∈ps,p < nm.length) (hpl:ps.length<=1000) (_hnl:nm.length<=1000) (hns: ∀s∈nm,s.size<=1048576) (hN:Strs w na nm) (hP:Nats w pa ps):
  Calls Tryz.prog 133 #[.agg #[.slice na nm.length nc,v1,v2],.slice pa ps.length pc] w fun e w'=> ToldEnd nm ps w w' e:=by
 obtain ⟨ic,hc0,hc1,hc2,hc3⟩:=xInfo_parts Tryz.xInfoStr
 obtain ⟨W0,hW0⟩: ∃W0,W0=w.alloc (.cells #[.slice na nm.length nc,v1,v2] 203):= ⟨_,rfl⟩
 have k0:K_ w W0:=by rw [hW0];exact (K_.refl _).alloc _
 have c0:W0.cell? ⟨w.heap.size,0,none⟩=some (.slice na nm.length nc):=by rw [hW0];exact Xz w #[.slice na nm.length nc,v1,v2] 203 0 _ rfl
 have z0:w.heap.size < W0.heap.size:=by rw [hW0];simp
 go_enter Tryz.func133,Tryz.ntmps133
 go_upto_region 1 with fail
 rw [<-hW0]
 clear hW0
 go_wp2_with fail
 go_loopg [5,10] ps.length (fun gg x5 x10 wr=> ∃(i:Nat) (av:Option Addr) (cv:Nat),x5= .slice av i cv∧x10= .int .i64 (i:Int)∧i+gg=ps.length∧K_ W0 wr∧Hid (wr.ownsRow W0.heap.size 9 1 (.slice av i cv) i (((ps.take i).map (nameOf nm)).map Value.string)))
 case atStart=> exact ⟨0,none,0,rfl,rfl,by omega,K_.refl _,World.ownsRow_nil _ _ _ _⟩
 case round=>
  obtain ⟨i,av,cv,rfl,rfl,hi,Kr,HO⟩:=hrel
  by_cases hlt: (i:Int) < (ps.length:Int)
  ·have hil:i < ps.length:=by omega
   obtain ⟨pb,po,e1,hpb,hpc⟩:= (hP.kept (k0.trans Kr)) i hil
   subst e1
   obtain ⟨p,hp⟩: ∃p,p=ps.getD i 0:= ⟨_,rfl⟩
   rw [<-hp] at hpc
   have hpm:p < nm.length:=hps p (by rw [hp];simp [List.getD,hil])
   obtain ⟨sb,so,e2,hsb,hsc⟩:= (hN.kept (k0.trans Kr)) p hpm
   subst e2
   obtain ⟨s,hs⟩: ∃s,s=nm.getD p ByteArray.empty:= ⟨_,rfl⟩
   rw [<-hs] at hsc
   have HTk:Hid ((ps.take (i+1)).map (nameOf nm)= (ps.take i).map (nameOf nm)++ [s]):=by
    show _=_
    rw [List.take_succ_eq_append_getElem hil,List.map_append,hs,hp]
    simp [nameOf,List.getD,hil]
   have d0:= (Kr.cell z0).trans c0
   have hpi: (p:Int) < (nm.length:Int):=by omega
   clear hp hs
   have k1:K_ wr (wr.alloc (.cells #[.string s] 9)):= (K_.refl _).alloc _
   have HOw:=Kz (ownsRow_kept' HO.out k1)
   have KK:=Kz (Kr.trans k1)
   have hbz:W0.heap.size<=(wr.alloc (.cells #[.string s] 9)).heap.size:=KK.out.size
   have HNw:Hid (∀j u,([.string s]:List Value)[j]? =some u->(wr.alloc (.cells #[.string s] 9)).cell? ((⟨wr.heap.size,0,none⟩:Addr).add j)=some u):=fun j u hu=> by rw [Addr.add_mid];exact Xz wr #[.string s] 9 j u hu
   have HOne:Hid (∀u∈([.string s]:List Value),u.oneCell'=true):=fun u hu=> by simp only [List.mem_cons,List.not_mem_nil,or_false] at hu;subst hu;rfl
   clear k1
   go_wp2_with (at_builtin;refine wpList_append_own _ rfl (.tmp 14) (.tmp 20) 25 rfl W0.heap.size 9 ic _ 1 16 Tryz.underlying25 hc0 hc1 hc2 hc3 rfl (by decide) (.slice av i cv) i (((ps.take i).map (nameOf nm)).map Value.string) rfl HOw.out ⟨wr.heap.size,0,none⟩ 1 1 [.string s] rfl rfl HNw.out HOne.out (by unfold maxLen;omega) (by omega) hbz ?_;intro v' w6 hown2 hgr _;have KP:=kept_of_grown KK.out (Nat.le_refl _) HOw.out hgr;have HP2:=Kz hown2;obtain ⟨av2,cv2,rfl⟩:=own_slice hown2;clear hown2 hgr)
   go_roundg (gk - 1)
   case measure=> omega
   case rel=> exact ⟨i+1,av2,cv2,rfl,by go_num,by omega,KP,Kz (by rw [HTk.out,List.map_append];exact HP2.out)⟩
  ·have hie:i=ps.length:=by omega
   subst hie
   rw [List.take_length] at HO
   obtain ⟨a9,c9,e9,h9⟩:=owned_strs HO.out
   simp only [Value.slice.injEq] at e9
   rw [<-e9.1] at h9
   have H9:=Kz h9
   obtain ⟨ns,hns'⟩: ∃ns,ns=ps.map (nameOf nm):= ⟨_,rfl⟩
   have hnn:ps.length=ns.length:=by rw [hns'];simp
   rw [<-hns'] at H9
   have HNn:=Kz hns'
   have HSm:Hid (∀s∈ns,s.size<=1048576):=fun s hs=> by
    rw [HNn.out] at hs
    obtain ⟨p,hp,rfl⟩:=List.mem_map.1 hs
    have:=hps p hp
    exact hns _ (by rw [nameOf_at this];exact List.getElem_mem this)
   have HCp:Hid (Calls Tryz.prog 165 #[.slice av ps.length cv,.func (.func 127) #[] #[]] wr fun e w'=> ∃da,e= .returned (.slice da ns.length ns.length)∧StrsIn w' wr.heap.size w'.heap.size da ns∧K_ wr w'):=by
    show Calls _ _ _ _ _
    rw [hnn]
    exact copyStrs_in wr av cv ns (by omega) HSm.out H9.out
   clear e9 h9 hns' hnn
   go_wp2_with fail
   refine HCp.out.mono ?_
   rintro e w5 ⟨da5,rfl,hS5,k5⟩
   have HS5:=Kz hS5
   clear hS5
   go_wp2_with fail
   go_ret
   refine ⟨da5,by rw [HNn.out];rfl, ?_,(k0.trans Kr).trans k5⟩
   have h:=HS5.out
   rw [<-HNn.out]
   have hz:= (k0.trans Kr).size
   exact h.mono hz (Nat.le_refl _)
