import Derived.Test.YtieeffpandfpbaaGreatDoorKXWaits
import Derived.Deep.OwnRows
import Derived.Maps.RangeWalk
set_option maxRecDepth 100000
set_option maxHeartbeats 25600000
namespace Go.Proofs.YtieeffpandfpbaaGreatDoor
open Go.RowKit
theorem Tryz.infoIntF : (Tryz.prog.info? 3).map (fun i=> (i.zero,i.size,i.bytes))=some (some (.int .i64 0),1,8):=by kernel_rfl
def runN (sl:List Qq) (p:Nat):ByteArray:= (sl.getD p Qq.zero).name
def NumRow (w:World) (fb n:Nat) (V:Nat->Nat):Prop:=w.rowIs fb 3 n (fun i=> .int .i64 (V i:Int))
theorem NumRow.kept {w w':World} {fb n:Nat} {V:Nat->Nat} (h:NumRow w fb n V) (k:K_ w w'):NumRow w' fb n V:=by
 obtain ⟨c,h1,h2⟩:=h
 exact ⟨c,(k.block fb (heap_lt h1)).trans h1,h2⟩
theorem NumRow.lt {w:World} {fb n:Nat} {V:Nat->Nat} (h:NumRow w fb n V):fb < w.heap.size:=by obtain ⟨c,h1,_⟩:=h;exact heap_lt h1
theorem NumRow.put {w:World} {fb n:Nat} {V:Nat->Nat} (h:NumRow w fb n V) (i v:Nat):NumRow (w.setCell ⟨fb,i,none⟩ (.int .i64 (v:Int))) fb n (fun p=> if p=i then v else V p):=by
 obtain ⟨c,h1,h2,h3⟩:=World.rowIs.set h i (.int .i64 (v:Int))
 refine ⟨c,h1,h2,fun p hp=> ?_⟩
 rw [h3 p hp]
 by_cases e:p=i
 ·simp [e]
 ·simp [e]
theorem NumRow.ne {w:World} {fb n:Nat} {V:Nat->Nat} (h:NumRow w fb n V) {b o:Nat} {s:ByteArray} (hc:w.cell? ⟨b,o,none⟩=some (.string s)):b≠fb:=by
 rintro rfl
 by_cases ho:o < n
 ·rw [World.rowIs.cell h ho] at hc
  cases hc
 ·obtain ⟨c,h1,h2,_⟩:=h
  simp [World.cell?,h1] at hc
  have:= (Array.getElem?_eq_some_iff.1 hc).1
  omega
theorem NumRow.strs {w:World} {fb n:Nat} {V:Nat->Nat} (h:NumRow w fb n V) {b o:Nat} {l:List ByteArray} (hl:Strs w (some ⟨b,o,none⟩) l) (i:Nat) (v:Value):Strs (w.setCell ⟨fb,i,none⟩ v) (some ⟨b,o,none⟩) l:=fun q hq=> by
 obtain ⟨b',o',e,hb,hc⟩:=hl q hq
 cases e
 exact ⟨b,o,rfl,by rw [size_setCell];exact hb,by rw [Zx (h.ne hc)];exact hc⟩
def FarEnd (Kk:List Qj) (sl:List Qq) (goal:ByteArray) (w w':World) (e:Ending):Prop:= ∃fb V,e= .returned (.slice (some ⟨fb,0,none⟩) sl.length sl.length)∧NumRow w' fb sl.length V∧(∀p,p < sl.length->RightV (WaitsX (Qz Kk) (Qk sl)) goal (sl.length+1) (runN sl p) (V p))∧K_ w w'
theorem l6Far_any (w:World) (a:Option Addr) (cap:Nat) (Kk:List Qj) (ra:Option Addr) (rn rc:Nat) (d:Option Addr) (dc:Nat) (sl:List Qq) (goal:ByteArray) (hwl:Kk.length<=1048576) (hs6:sl.length<=1000) (hok:ActsOk (Qz Kk)) (hg:GoodL Kk sl) (hN:Nodes w a Kk) (hS:RunsX w d sl):
  Calls Tryz.prog 88 #[.agg #[.slice a Kk.length cap],.agg #[.slice ra rn rc,.slice d sl.length dc],.string goal] w fun e w'=> FarEnd Kk sl goal w w' e:=by
 obtain ⟨WB,hWB⟩: ∃WB,WB= (w.alloc (.cells #[.slice a Kk.length cap] 37)).alloc (.cells #[.slice ra rn rc,.slice d sl.length dc] 41):= ⟨_,rfl⟩
 have kB:K_ w WB:=by rw [hWB];exact ((K_.refl _).alloc _).alloc _
 have hBs:WB.heap.size=w.heap.size+2:=by rw [hWB];simp
 have b0:WB.cell? ⟨w.heap.size,0,none⟩=some (.slice a Kk.length cap):=by rw [hWB,K_.cell (w:=w.alloc (.cells #[.slice a Kk.length cap] 37)) ((K_.refl _).alloc _) (by simp)];exact Xq w _ _ 0 _ rfl
 have s0:WB.cell? ⟨w.heap.size+1,0,none⟩=some (.slice ra rn rc):=by have:=Xq (w.alloc (.cells #[.slice a Kk.length cap] 37)) #[.slice ra rn rc,.slice d sl.length dc] 41 0 _ rfl;rw [World.size_alloc] at this;rw [hWB];exact this
 have s1:WB.cell? ⟨w.heap.size+1,1,none⟩=some (.slice d sl.length dc):=by have:=Xq (w.alloc (.cells #[.slice a Kk.length cap] 37)) #[.slice ra rn rc,.slice d sl.length dc] 41 1 _ rfl;rw [World.size_alloc] at this;rw [hWB];exact this
 have z0:w.heap.size < WB.heap.size:=by omega
 have z1:w.heap.size+1 < WB.heap.size:=by omega
 have HC:Hid (∀w',K_ WB w'->w'.cell? ⟨w.heap.size,0,none⟩=some (.slice a Kk.length cap)∧w'.cell? ⟨w.heap.size+1,0,none⟩=some (.slice ra rn rc)∧w'.cell? ⟨w.heap.size+1,1,none⟩=some (.slice d sl.length dc)∧w.heap.size < w'.heap.size∧w.heap.size+1 < w'.heap.size):=fun w' K=> ⟨(K.cell z0).trans b0,(K.cell z1).trans s0,(K.cell z1).trans s1,Nat.lt_of_lt_of_le z0 K.size,Nat.lt_of_lt_of_le z1 K.size⟩
 have hsl:sl.length<=1048576:=by omega
 have hmk:=run_make_row' (P:=Tryz.prog) 152 3 _ _ Tryz.underlying152 Tryz.infoIntF rfl .i64 .i64 sl.length (by omega) (by omega)
 obtain ⟨W0,hW0⟩: ∃W0,W0=WB.alloc (.cells (madeCells #[.int .i64 0] sl.length) 3):= ⟨_,rfl⟩
 have k0:K_ WB W0:=by rw [hW0];exact (K_.refl _).alloc _
 have HF0:Hid (NumRow W0 WB.heap.size sl.length (fun _=> 0)):=by
  rw [hW0]
  exact World.rowIs_made WB (.int .i64 0) sl.length 3
 have HKB:=Kj kB
 have HGd:=Kj hg
 clear kB hBs hg
 go_enter Tryz.func88,Tryz.ntmps88
 go_upto_region 1 with fail
 rw [<-hWB]
 clear hWB
 go_wp2
 rw [<-hW0]
 clear hW0 hmk b0 s0 s1
 obtain ⟨fb,hfb⟩: ∃fb,fb=WB.heap.size:= ⟨_,rfl⟩
 rw [<-hfb] at HF0⊢
 have hfw:WB.heap.size<=fb:=Nat.le_of_eq hfb.symm
 have hfw1:w.heap.size+1 < fb:=by omega
 clear hfb
 go_loopw [8] (fun x8 wr=> ∃(n:Nat) (V:Nat->Nat),1<=n∧n<=sl.length+1∧x8= .int .i64 (n:Int)∧Hid (NumRow wr fb sl.length V)∧Hid (∀p,p < sl.length->RightV (WaitsX (Qz Kk) (Qk sl)) goal n (runN sl p) (V p))∧K_ WB wr) (fun x8 _=> sl.length+1 - (intOf x8).toNat)
 case atStart=> exact ⟨1,_,Nat.le_refl _,by omega,rfl,HF0,Kj (fun p _=> RightV.start),k0⟩
 case round=>
  clear HF0 k0
  obtain ⟨n,V,hn1,hn2,rfl,HF,HV,Kr⟩:=hrel
  obtain ⟨c0,c1,c2,y0,y1⟩:=HC.out _ Kr
  by_cases hlt:n<=sl.length
  rotate_left
  ·have hne:n=sl.length+1:=by omega
   have HNe:=Kj hne
   have hgt: ¬((n:Int)<=(sl.length:Int)):=by omega
   clear hne
   go_wp2_with fail
   go_ret
   refine ⟨fb,V,rfl,HF.out,fun p hp=> ?_,HKB.out.trans Kr⟩
   rw [<-HNe.out]
   exact HV.out p hp
  have hle: (n:Int)<=(sl.length:Int):=by omega
  go_upto_region 6 with fail
  go_loopw [9] (fun x9 wr=> ∃(i:Nat) (V:Nat->Nat),i<=sl.length∧x9= .int .i64 (i:Int)∧Hid (NumRow wr fb sl.length V)∧Hid (∀p,p < sl.length->RightV (WaitsX (Qz Kk) (Qk sl)) goal (if p < i then n+1 else n) (runN sl p) (V p))∧K_ WB wr) (fun x9 _=> sl.length - (intOf x9).toNat)
  case atStart=> exact ⟨0,V,Nat.zero_le _,rfl,HF,Kj (fun p hp=> by rw [if_neg (Nat.not_lt_zero _)];exact HV.out p hp),Kr⟩
  case round=>
   clear HF HV c0 c1 c2 y0 y1 Kr V
   obtain ⟨i,V,hi,rfl,HF,HV,Kr⟩:=hrel
   obtain ⟨c0,c1,c2,y0,y1⟩:=HC.out _ Kr
   by_cases hil:i < sl.length
   rotate_left
   ·have hie:i=sl.length:=by omega
    have HIe:=Kj hie
    have hgi: ¬((i:Int) < (sl.length:Int)):=by omega
    clear hie
    go_wp2_with fail
    go_roundw
    case rel=> exact ⟨n+1,V,by omega,by omega,by go_num,HF,Kj (fun p hp=> by have h:=HV.out p hp;rw [if_pos (by rw [HIe.out];exact hp)] at h;exact h),Kr⟩
    case measure=> simp [intOf];omega
   have hii: (i:Int) < (sl.length:Int):=by omega
   obtain ⟨rb,ro,xa,xc,e1,hrb,hrc,_,_⟩:= (hS.kept (HKB.out.trans Kr)) i hil
   subst e1
   obtain ⟨x,hx⟩: ∃x,x=runN sl i:= ⟨_,rfl⟩
   have t0:=hrc 0 _ rfl
   rw [Nat.add_zero] at t0
   have t0':wr.cell? ⟨rb,ro+i * 7,none⟩=some (.string x):=by rw [hx];exact t0
   clear t0 hrc
   have t0:=t0'
   clear t0'
   have f0:=World.rowIs.cell HF.out hil
   try dsimp only at f0
   have fz:=HF.out.lt
   have HX:=Kj hx
   have HVi:Hid (RightV (WaitsX (Qz Kk) (Qk sl)) goal n x (V i)):=by have h:=HV.out i hil;rw [if_neg (Nat.lt_irrefl _),<-hx] at h;exact h
   clear hx
   by_cases hskip:V i≠0∨lessX x goal
   ·have HSk:=Kj hskip
    have HNext:Hid (∀p,p < sl.length->RightV (WaitsX (Qz Kk) (Qk sl)) goal (if p < i+1 then n+1 else n) (runN sl p) (V p)):=fun p hp=> by
     by_cases e:p=i
     ·subst e
      rw [if_pos (by omega),<-HX.out]
      exact HVi.out.keep HSk.out
     ·have h:=HV.out p hp
      by_cases e2:p < i
      ·rw [if_pos e2] at h;rw [if_pos (by omega)];exact h
      ·rw [if_neg e2] at h;rw [if_neg (by omega)];exact h
    have hsk2: (0:Int) < (V i:Int)∨(¬((0:Int) < (V i:Int))∧Op.bytesLess x.toList goal.toList=true):=by
     by_cases h0:V i=0
     ·refine .inr ⟨by omega, ?_⟩
      rcases hskip with h | h
      ·exact absurd h0 h
      ·exact h
     ·exact .inl (by omega)
    obtain ⟨v,hv⟩: ∃v,v=V i:= ⟨_,rfl⟩
    rw [<-hv] at f0 hsk2
    clear hskip hv
    rcases hsk2 with hp | ⟨hp,hb⟩
    ·go_wp2_with fail
     go_roundw
     case rel=> exact ⟨i+1,V,by omega,by go_num,HF,HNext,Kr⟩
     case measure=> simp [intOf];omega
    ·go_wp2_with fail
     go_roundw
     case rel=> exact ⟨i+1,V,by omega,by go_num,HF,HNext,Kr⟩
     case measure=> simp [intOf];omega
   have hv0:V i=0:=by
    by_cases h:V i=0
    ·exact h
    ·exact absurd (.inl h) hskip
   have hxg: ¬lessX x goal:=fun h=> hskip (.inr h)
   have hbf:Op.bytesLess x.toList goal.toList=false:=by
    cases h:Op.bytesLess x.toList goal.toList
    ·rfl
    ·exact absurd h hxg
   rw [hv0] at HVi f0
   have HV0:=Kj hv0
   have HXg:=Kj hxg
   clear hskip hv0 hxg
   have HS9:Hid (∀w',K_ wr w'->w'.cell? ⟨w.heap.size,0,none⟩=some (.slice a Kk.length cap)∧w'.cell? ⟨w.heap.size+1,0,none⟩=some (.slice ra rn rc)∧w'.cell? ⟨w.heap.size+1,1,none⟩=some (.slice (some ⟨rb,ro,none⟩) sl.length dc)∧w'.cell? ⟨rb,ro+i * 7,none⟩=some (.string x)):=fun w' K=> ⟨(HC.out w' (Kr.trans K)).1,(HC.out w' (Kr.trans K)).2.1,(HC.out w' (Kr.trans K)).2.2.1,(K.cell hrb).trans t0⟩
   go_upto_region 9 with fail
   refine Z_.rg 9 HS9.out fun wd KD Zz=> ?_
   refine Z_.tk 0 Zz ?_
   refine Z_.tk 1 Zz ?_
   refine Z_.tk 2 Zz ?_
   refine Z_.tk 3 Zz ?_
   refine Z_.tk 4 Zz ?_
   refine Z_.tk 5 Zz ?_
   refine Z_.tk 6 Zz ?_
   refine Z_.tk 7 Zz ?_
   refine Z_.nx 8 (fun K hK=> ?_)
   rw [if_pos (by rfl)]
   go_simp
   go_at_call 89
   refine (l6Waits_any wd a cap Kk ra rn rc (some ⟨rb,ro,none⟩) dc sl x hwl hsl hok HGd.out (hN.kept (HKB.out.trans (Kr.trans KD))) (hS.kept (HKB.out.trans (Kr.trans KD)))).mono ?_
   rintro e w2 ⟨⟨lb,lo,lc,ns,rfl,hlc,hlS,hWL⟩,k2⟩
   have K2:=KD.trans k2
   refine hK.out _ _ (fun _=> HS9.out _ K2) ?_
   clear hK K Zz
   try simp only [Act.put,upA,upB,upC]
   refine Z_.nx 9 (fun K hK=> ?_)
   go_simp
   refine hK.out _ _ (fun h=> absurd rfl h) ?_
   clear hK K
   try simp only [Act.put,upA,upB,upC]
   refine Z_.dn ?_
   have HWL:=Kj hWL
   have HLS:=Kj hlS
   have HF2:=Kj (HF.out.kept K2)
   have Kw2:=Kr.trans K2
   have hl5:=hWL.len hok HGd.out.env
   have HVv:=Kj (fun p hp=> HV.out p hp)
   clear hWL hlS f0 fz t0 c0 c1 c2 y0 y1 HS9 k2
   go_wp2_with fail
   go_loopw [11] (fun x11 wr=> ∃(k v:Nat),k<=ns.length∧x11= .int .i64 (k:Int)∧Hid (NumRow wr fb sl.length (fun p=> if p=i then v else V p))∧Hid ((v=n∧∃s,Hit (WaitsX (Qz Kk) (Qk sl)) goal n x s)∨(v=0∧∀s∈ns.take k,¬Hit (WaitsX (Qz Kk) (Qk sl)) goal n x s))∧Hid (Strs wr (some ⟨lb,lo,none⟩) ns)∧K_ WB wr) (fun x11 _=> ns.length - (intOf x11).toNat)
   case atStart=> exact ⟨0,0,Nat.zero_le _,rfl,Kj (World.rowIs.congr HF2.out (fun p hp=> by by_cases e:p=i;(subst e;simp [HV0.out]);simp [e])),Kj (.inr ⟨rfl,fun s hs=> by simp at hs⟩),HLS,Kw2⟩
   case round=>
    clear HF2 HLS Kw2
    obtain ⟨k,v,hk,rfl,HF3,HHit,HLS3,Kr3⟩:=hrel
    by_cases hkl:k < ns.length
    rotate_left
    ·have hke:ns.take k=ns:=List.take_of_length_le (by omega)
     have hgk: ¬((k:Int) < (ns.length:Int)):=by omega
     have HKe:=Kj hke
     clear hke
     go_wp2_with fail
     go_roundw
     case rel=>
      refine ⟨i+1,fun p=> if p=i then v else V p,by omega,by go_num,HF3,Kj (fun p hp=> ?_),Kr3⟩
      by_cases e:p=i
      ·subst e
       dsimp only
       rw [if_pos (by omega),if_pos rfl,<-HX.out]
       rcases HHit.out with ⟨rfl,h2⟩ | ⟨rfl,h2⟩
       ·exact RightV.hit hn1 HVi.out HXg.out h2
       ·refine RightV.miss hn1 HVi.out HXg.out (fun ⟨z,hz⟩=> ?_)
        rw [HKe.out] at h2
        exact h2 z ((HWL.out.2 z).2 hz.1) hz
      ·dsimp only
       rw [if_neg e]
       have h:=HVv.out p hp
       by_cases e2:p < i
       ·rw [if_pos e2] at h;rw [if_pos (by omega)];exact h
       ·rw [if_neg e2] at h;rw [if_neg (by omega)];exact h
     case measure=> simp [intOf];omega
    obtain ⟨lb1,lo1,e1,hlb,hlc1⟩:=HLS3.out k hkl
    cases e1
    obtain ⟨s,hs⟩: ∃s,s=ns.getD k ByteArray.empty:= ⟨_,rfl⟩
    rw [<-hs] at hlc1
    have hsg:ns[k]=s:=by rw [hs];simp [List.getD,hkl]
    have HSk:=Kj hsg
    have HEs:Hid (WaitsX (Qz Kk) (Qk sl) x s):= (HWL.out.2 s).1 (by rw [<-hsg];exact List.getElem_mem hkl)
    clear hs hsg
    have hkk: (k:Int) < (ns.length:Int):=by omega
    obtain ⟨_,c1,c2,y0,y1⟩:=HC.out _ Kr3
    have HS13:Hid (∀w',K_ wr w'->w'.cell? ⟨lb,lo+k,none⟩=some (.string s)∧w'.cell? ⟨w.heap.size+1,0,none⟩=some (.slice ra rn rc)∧w'.cell? ⟨w.heap.size+1,1,none⟩=some (.slice (some ⟨rb,ro,none⟩) sl.length dc)∧Hid (NumRow w' fb sl.length (fun p=> if p=i then v else V p))):=fun w' K=> ⟨(K.cell hlb).trans hlc1,(HC.out w' (Kr3.trans K)).2.1,(HC.out w' (Kr3.trans K)).2.2.1,Kj (HF3.out.kept K)⟩
    go_upto_region 13 with fail
    clear c1 c2 y0 y1 hlc1
    by_cases hn:n=1
    ·have HN:=Kj hn
     have hn1b: ((n:Int) == 1)=true:=by simp [hn]
     have hngt: ¬((1:Int) < (n:Int)):=by omega
     clear hn
     cases heq: (s.toList == goal.toList)
     ·have HNh:Hid (¬Hit (WaitsX (Qz Kk) (Qk sl)) goal n x s):=fun h=> by
       rcases h.2 with ⟨_,e⟩ | ⟨e,_⟩
       ·exact beq_no heq e
       ·have:=HN.out;omega
      refine Z_.rg 35 HS13.out fun wd KD Zz=> ?_
      refine Z_.tk 0 Zz ?_
      refine Z_.tk 1 Zz ?_
      refine Z_.tk 2 Zz ?_
      refine Z_.tk 3 Zz ?_
      refine Z_.tk 4 Zz ?_
      refine Z_.tk 5 Zz ?_
      refine Z_.tk 6 Zz ?_
      refine Z_.tk 7 Zz ?_
      refine Z_.tk 8 Zz ?_
      refine Z_.tk 9 Zz ?_
      refine Z_.tk 10 Zz ?_
      refine Z_.tk 11 Zz ?_
      refine Z_.tk 12 Zz ?_
      refine Z_.tk 13 Zz ?_
      refine Z_.un 14 Zz ?_
      refine Z_.un 15 Zz ?_
      refine Z_.un 16 Zz ?_
      refine Z_.un 17 Zz ?_
      refine Z_.un 18 Zz ?_
      refine Z_.un 19 Zz ?_
      refine Z_.tk 20 Zz ?_
      refine Z_.tk 21 Zz ?_
      refine Z_.un 22 Zz ?_
      refine Z_.un 23 Zz ?_
      refine Z_.un 24 Zz ?_
      refine Z_.un 25 Zz ?_
      refine Z_.un 26 Zz ?_
      refine Z_.un 27 Zz ?_
      refine Z_.un 28 Zz ?_
      refine Z_.un 29 Zz ?_
      refine Z_.un 30 Zz ?_
      refine Z_.un 31 Zz ?_
      refine Z_.un 32 Zz ?_
      refine Z_.un 33 Zz ?_
      refine Z_.tk 34 Zz ?_
      refine Z_.nx 35 (fun K hK=> ?_)
      go_simp
      refine hK.out _ _ (fun h=> absurd rfl h) ?_
      clear hK K
      try simp only [Act.put,upA,upB,upC]
      refine Z_.dn ?_
      go_wp2_with fail
      go_roundw
      case rel=>
       refine ⟨k+1,v,by omega,by go_num,Kj (HF3.out.kept KD),Kj ?_,Kj (HLS3.out.kept KD),Kr3.trans KD⟩
       rcases HHit.out with h | ⟨h1,h2⟩
       ·exact .inl h
       ·refine .inr ⟨h1,fun z hz=> ?_⟩
        rw [List.take_succ_eq_append_getElem hkl,HSk.out] at hz
        rcases List.mem_append.1 hz with hz | hz
        ·exact h2 z hz
        ·rw [List.mem_singleton] at hz
         rw [hz]
         exact HNh.out
      case measure=> simp [intOf];omega
     ·have HHs:Hid (Hit (WaitsX (Qz Kk) (Qk sl)) goal n x s):= ⟨HEs.out,.inl ⟨HN.out,beq_yes heq⟩⟩
      refine Z_.rg 35 HS13.out fun wd KD Zz=> ?_
      refine Z_.tk 0 Zz ?_
      refine Z_.tk 1 Zz ?_
      refine Z_.tk 2 Zz ?_
      refine Z_.tk 3 Zz ?_
      refine Z_.tk 4 Zz ?_
      refine Z_.tk 5 Zz ?_
      refine Z_.tk 6 Zz ?_
      refine Z_.tk 7 Zz ?_
      refine Z_.tk 8 Zz ?_
      refine Z_.tk 9 Zz ?_
      refine Z_.tk 10 Zz ?_
      refine Z_.un 11 Zz ?_
      refine Z_.un 12 Zz ?_
      refine Z_.un 13 Zz ?_
      refine Z_.un 14 Zz ?_
      refine Z_.un 15 Zz ?_
      refine Z_.un 16 Zz ?_
      refine Z_.un 17 Zz ?_
      refine Z_.un 18 Zz ?_
      refine Z_.un 19 Zz ?_
      refine Z_.un 20 Zz ?_
      refine Z_.un 21 Zz ?_
      refine Z_.un 22 Zz ?_
      refine Z_.un 23 Zz ?_
      refine Z_.un 24 Zz ?_
      refine Z_.un 25 Zz ?_
      refine Z_.un 26 Zz ?_
      refine Z_.un 27 Zz ?_
      refine Z_.un 28 Zz ?_
      refine Z_.un 29 Zz ?_
      refine Z_.un 30 Zz ?_
      refine Z_.un 31 Zz ?_
      refine Z_.un 32 Zz ?_
      refine Z_.un 33 Zz ?_
      refine Z_.un 34 Zz ?_
      refine Z_.nx 35 (fun K hK=> ?_)
      go_simp
      refine hK.out _ _ (fun h=> absurd rfl h) ?_
      clear hK K
      try simp only [Act.put,upA,upB,upC]
      refine Z_.dn ?_
      have HFw:=Kj (HF3.out.kept KD)
      have HLw:=Kj (HLS3.out.kept KD)
      have hold:=World.rowIs.cell HFw.out hil
      have hfz:=World.rowIs.frozen HFw.out i
      have fz:=HFw.out.lt
      dsimp only at hold
      rw [if_pos rfl] at hold
      go_wp2_with fail
      go_roundw
      case rel=>
       refine ⟨k+1,n,by omega,by go_num,Kj ?_,Kj (.inl ⟨rfl,s,HHs.out⟩),Kj (HFw.out.strs HLw.out i _),Below.setCell (Kr3.trans KD) (p:= ⟨fb,i,none⟩) hfw _⟩
       exact World.rowIs.congr (HFw.out.put i n) (fun p hp=> by by_cases e:p=i <;> simp [e])
      case measure=> simp [intOf];omega
    ·have HN:=Kj hn
     have hn1b: ((n:Int) == 1)=false:=by simp;omega
     have hngt: (1:Int) < (n:Int):=by omega
     clear hn
     by_cases hgt:lessX goal s
     ·have hwn:IntKind.i64.wrap ((n:Int) - 1)= (n:Int) - 1:=by rw [IntKind.wrap_i64];omega
      have HGt:Hid (lessX goal s):=hgt
      have hl1:Op.bytesLess s.toList goal.toList=false:=by
       cases h:Op.bytesLess s.toList goal.toList
       ·rfl
       ·exact absurd (show lessX s goal from h) (lessX_asymm hgt)
      have he1: (s.toList == goal.toList)=false:=by
       cases h: (s.toList == goal.toList)
       ·rfl
       ·exact absurd hgt (by rw [beq_yes h];exact lessX_irrefl _)
      clear hgt
      refine Z_.rg 35 HS13.out fun wd KD Zz=> ?_
      refine Z_.tk 0 Zz ?_
      refine Z_.tk 1 Zz ?_
      refine Z_.tk 2 Zz ?_
      refine Z_.un 3 Zz ?_
      refine Z_.un 4 Zz ?_
      refine Z_.un 5 Zz ?_
      refine Z_.un 6 Zz ?_
      refine Z_.un 7 Zz ?_
      refine Z_.un 8 Zz ?_
      refine Z_.tk 9 Zz ?_
      refine Z_.tk 10 Zz ?_
      refine Z_.tk 11 Zz ?_
      refine Z_.tk 12 Zz ?_
      refine Z_.tk 13 Zz ?_
      refine Z_.tk 14 Zz ?_
      refine Z_.tk 15 Zz ?_
      refine Z_.tk 16 Zz ?_
      refine Z_.tk 17 Zz ?_
      refine Z_.tk 18 Zz ?_
      refine Z_.tk 19 Zz ?_
      refine Z_.tk 20 Zz ?_
      refine Z_.tk 21 Zz ?_
      refine Z_.tk 22 Zz ?_
      refine Z_.tk 23 Zz ?_
      refine Z_.tk 24 Zz ?_
      refine Z_.tk 25 Zz ?_
      refine Z_.tk 26 Zz ?_
      refine Z_.tk 27 Zz ?_
      refine Z_.tk 31 Zz ?_
      refine Z_.tk 32 Zz ?_
      refine Z_.nx 28 (fun K hK=> ?_)
      rw [if_pos (by rfl)]
      go_simp
      go_at_call 58
      refine (l4At_place wd ra rn rc (some ⟨rb,ro,none⟩) dc sl s hsl (hS.kept (HKB.out.trans (Kr3.trans KD)))).mono ?_
      rintro e w3 ⟨⟨q,rfl,hq⟩,k3⟩
      have K3:=KD.trans k3
      obtain ⟨k',hk',rfl,henv',hkn'⟩: ∃k':Nat,k' < sl.length∧q= (k':Int)∧Qk sl s=some (sl.getD k' Qq.zero)∧(sl.getD k' Qq.zero).name=s:=by
       rcases hq with ⟨k',h1,h2,h3,h4⟩ | ⟨_,h1⟩
       ·exact ⟨k',h1,h2,h3,h4⟩
       ·obtain ⟨_,_,_,_,_,_,_,y,hy,_⟩:=HEs.out
        rw [h1] at hy
        cases hy
      clear hq
      have hfk:=World.rowIs.cell (HF3.out.kept K3) hk'
      dsimp only at hfk
      have fz3:= (HF3.out.kept K3).lt
      have hki': (k':Int) < (sl.length:Int):=by omega
      have hk0: (0:Int)<=(k':Int):=by omega
      obtain ⟨q,hqq⟩: ∃q,q= (if k'=i then v else V k'):= ⟨_,rfl⟩
      rw [<-hqq] at hfk
      have HQ:Hid (q=n - 1↔FarR (WaitsX (Qz Kk) (Qk sl)) goal (n - 1) s):=by
       show q=n - 1↔_
       by_cases e:k'=i
       ·have hsx:s=x:=by rw [HX.out,<-e];exact hkn'.symm
        rw [hqq,if_pos e,hsx]
        refine ⟨fun h=> ?_,fun h=> ?_⟩
        ·rcases HHit.out with ⟨h1,_⟩ | ⟨h1,_⟩ <;> omega
        ·have:= (HVi.out.2 HXg.out).2 (n - 1) (by omega) h
         have:=h.1.pos
         omega
       ·rw [hqq,if_neg e]
        have h:=HVv.out k' hk'
        have e2:runN sl k'=s:=hkn'
        rw [e2] at h
        exact h.ask HGt.out (by omega) (by split <;> omega)
      have HQQ:=Kj hqq
      clear hqq henv' hkn'
      dsimp only
      refine hK.out _ _ (fun _=> HS13.out _ K3) ?_
      clear hK K
      try simp only [Act.put,upA,upB,upC]
      clear Zz
      have Zz:=HS13.out _ K3
      by_cases hqn:q=n - 1
      ·have hqb: ((q:Int) == (n:Int) - 1)=true:=by simp;omega
       have HHs:Hid (Hit (WaitsX (Qz Kk) (Qk sl)) goal n x s):= ⟨HEs.out,.inr ⟨by omega,HGt.out,HQ.out.1 hqn⟩⟩
       clear hqn
       refine Z_.tk 29 Zz ?_
       refine Z_.take 30 [33,34,35] (v:= ?_) (by (simp only [List.getElem?_toArray,List.getElem?_cons_succ,List.getElem?_cons_zero];rfl)) (by kernel_rfl) (by kernel_rfl) (by kernel_rfl) (by kernel_rfl) (by exact fun _ _ _ h=> h) (Or.inl ⟨by rfl, ?_⟩) Zz ?_
       rotate_left
       ·intro u hu
        try dsimp only at hu
        have f9:=World.rowIs.cell hu.2.2.2.out hk'
        try dsimp only at f9
        rw [<-HQQ.out] at f9
        go_simp
        try with_reducible rfl
       try simp only [Act.put,upA,upB,upC]
       refine Z_.tk 33 Zz ?_
       refine Z_.tk 34 Zz ?_
       refine Z_.nx 35 (fun K hK=> ?_)
       go_simp
       refine hK.out _ _ (fun h=> absurd rfl h) ?_
       clear hK K
       try simp only [Act.put,upA,upB,upC]
       refine Z_.dn ?_
       clear Zz hfk
       have HFw:=Kj (HF3.out.kept K3)
       have HLw:=Kj (HLS3.out.kept K3)
       have hold:=World.rowIs.cell HFw.out hil
       have hfz:=World.rowIs.frozen HFw.out i
       have fz:=HFw.out.lt
       dsimp only at hold
       rw [if_pos rfl] at hold
       go_wp2_with fail
       go_roundw
       case rel=>
        refine ⟨k+1,n,by omega,by go_num,Kj ?_,Kj (.inl ⟨rfl,s,HHs.out⟩),Kj (HFw.out.strs HLw.out i _),Below.setCell (Kr3.trans K3) (p:= ⟨fb,i,none⟩) hfw _⟩
        exact World.rowIs.congr (HFw.out.put i n) (fun p hp=> by by_cases e:p=i <;> simp [e])
       case measure=> simp [intOf];omega
      ·have hqb: ((q:Int) == (n:Int) - 1)=false:=by simp;omega
       have HNh:Hid (¬Hit (WaitsX (Qz Kk) (Qk sl)) goal n x s):=fun h=> by
        rcases h.2 with ⟨e,_⟩ | ⟨_,_,e⟩
        ·exact HN.out e
        ·exact hqn (HQ.out.2 e)
       clear hqn
       refine Z_.tk 29 Zz ?_
       refine Z_.take 30 [33,34,35] (v:= ?_) (by (simp only [List.getElem?_toArray,List.getElem?_cons_succ,List.getElem?_cons_zero];rfl)) (by kernel_rfl) (by kernel_rfl) (by kernel_rfl) (by kernel_rfl) (by exact fun _ _ _ h=> h) (Or.inl ⟨by rfl, ?_⟩) Zz ?_
       rotate_left
       ·intro u hu
        try dsimp only at hu
        have f9:=World.rowIs.cell hu.2.2.2.out hk'
        try dsimp only at f9
        rw [<-HQQ.out] at f9
        go_simp
        try with_reducible rfl
       try simp only [Act.put,upA,upB,upC]
       refine Z_.tk 33 Zz ?_
       refine Z_.tk 34 Zz ?_
       refine Z_.nx 35 (fun K hK=> ?_)
       go_simp
       refine hK.out _ _ (fun h=> absurd rfl h) ?_
       clear hK K
       try simp only [Act.put,upA,upB,upC]
       refine Z_.dn ?_
       clear Zz hfk
       go_wp2_with fail
       go_roundw
       case rel=>
        refine ⟨k+1,v,by omega,by go_num,Kj (HF3.out.kept K3),Kj ?_,Kj (HLS3.out.kept K3),Kr3.trans K3⟩
        rcases HHit.out with h | ⟨h1,h2⟩
        ·exact .inl h
        ·refine .inr ⟨h1,fun z hz=> ?_⟩
         rw [List.take_succ_eq_append_getElem hkl,HSk.out] at hz
         rcases List.mem_append.1 hz with hz | hz
         ·exact h2 z hz
         ·rw [List.mem_singleton] at hz
          rw [hz]
          exact HNh.out
       case measure=> simp [intOf];omega
     ·have HNg:=Kj hgt
      have hcs:Op.bytesLess s.toList goal.toList=true∨(Op.bytesLess s.toList goal.toList=false∧(s.toList == goal.toList)=true):=by
       rcases lessX_total s goal with h | h | h
       ·exact .inl h
       ·right
        subst h
        exact ⟨by cases h2:Op.bytesLess s.toList s.toList;rfl;exact absurd (show lessX s s from h2) (lessX_irrefl s),by simp⟩
       ·exact absurd h hgt
      clear hgt
      rcases hcs with hl1 | ⟨hl1,he1⟩
      ·have HNh:Hid (¬Hit (WaitsX (Qz Kk) (Qk sl)) goal n x s):=fun h=> by
        rcases h.2 with ⟨e,_⟩ | ⟨_,e,_⟩
        ·exact HN.out e
        ·exact HNg.out e
       refine Z_.rg 35 HS13.out fun wd KD Zz=> ?_
       refine Z_.tk 0 Zz ?_
       refine Z_.tk 1 Zz ?_
       refine Z_.tk 2 Zz ?_
       refine Z_.un 3 Zz ?_
       refine Z_.un 4 Zz ?_
       refine Z_.un 5 Zz ?_
       refine Z_.un 6 Zz ?_
       refine Z_.un 7 Zz ?_
       refine Z_.un 8 Zz ?_
       refine Z_.tk 9 Zz ?_
       refine Z_.tk 10 Zz ?_
       refine Z_.tk 11 Zz ?_
       refine Z_.tk 12 Zz ?_
       refine Z_.tk 13 Zz ?_
       refine Z_.tk 14 Zz ?_
       refine Z_.tk 15 Zz ?_
       refine Z_.tk 16 Zz ?_
       refine Z_.tk 17 Zz ?_
       refine Z_.tk 18 Zz ?_
       refine Z_.tk 19 Zz ?_
       refine Z_.tk 20 Zz ?_
       refine Z_.tk 21 Zz ?_
       refine Z_.un 22 Zz ?_
       refine Z_.un 23 Zz ?_
       refine Z_.un 24 Zz ?_
       refine Z_.un 25 Zz ?_
       refine Z_.un 26 Zz ?_
       refine Z_.un 27 Zz ?_
       refine Z_.un 28 Zz ?_
       refine Z_.un 29 Zz ?_
       refine Z_.un 30 Zz ?_
       refine Z_.un 31 Zz ?_
       refine Z_.un 32 Zz ?_
       refine Z_.un 33 Zz ?_
       refine Z_.tk 34 Zz ?_
       refine Z_.nx 35 (fun K hK=> ?_)
       go_simp
       refine hK.out _ _ (fun h=> absurd rfl h) ?_
       clear hK K
       try simp only [Act.put,upA,upB,upC]
       refine Z_.dn ?_
       go_wp2_with fail
       go_roundw
       case rel=>
        refine ⟨k+1,v,by omega,by go_num,Kj (HF3.out.kept KD),Kj ?_,Kj (HLS3.out.kept KD),Kr3.trans KD⟩
        rcases HHit.out with h | ⟨h1,h2⟩
        ·exact .inl h
        ·refine .inr ⟨h1,fun z hz=> ?_⟩
         rw [List.take_succ_eq_append_getElem hkl,HSk.out] at hz
         rcases List.mem_append.1 hz with hz | hz
         ·exact h2 z hz
         ·rw [List.mem_singleton] at hz
          rw [hz]
          exact HNh.out
       case measure=> simp [intOf];omega
      ·have HNh:Hid (¬Hit (WaitsX (Qz Kk) (Qk sl)) goal n x s):=fun h=> by
        rcases h.2 with ⟨e,_⟩ | ⟨_,e,_⟩
        ·exact HN.out e
        ·exact HNg.out e
       refine Z_.rg 35 HS13.out fun wd KD Zz=> ?_
       refine Z_.tk 0 Zz ?_
       refine Z_.tk 1 Zz ?_
       refine Z_.tk 2 Zz ?_
       refine Z_.un 3 Zz ?_
       refine Z_.un 4 Zz ?_
       refine Z_.un 5 Zz ?_
       refine Z_.un 6 Zz ?_
       refine Z_.un 7 Zz ?_
       refine Z_.un 8 Zz ?_
       refine Z_.tk 9 Zz ?_
       refine Z_.tk 10 Zz ?_
       refine Z_.tk 11 Zz ?_
       refine Z_.tk 12 Zz ?_
       refine Z_.tk 13 Zz ?_
       refine Z_.tk 14 Zz ?_
       refine Z_.tk 15 Zz ?_
       refine Z_.tk 16 Zz ?_
       refine Z_.tk 17 Zz ?_
       refine Z_.tk 18 Zz ?_
       refine Z_.tk 19 Zz ?_
       refine Z_.tk 20 Zz ?_
       refine Z_.tk 21 Zz ?_
       refine Z_.un 22 Zz ?_
       refine Z_.un 23 Zz ?_
       refine Z_.un 24 Zz ?_
       refine Z_.un 25 Zz ?_
       refine Z_.un 26 Zz ?_
       refine Z_.un 27 Zz ?_
       refine Z_.un 28 Zz ?_
       refine Z_.un 29 Zz ?_
       refine Z_.un 30 Zz ?_
       refine Z_.un 31 Zz ?_
       refine Z_.un 32 Zz ?_
       refine Z_.un 33 Zz ?_
       refine Z_.tk 34 Zz ?_
       refine Z_.nx 35 (fun K hK=> ?_)
       go_simp
       refine hK.out _ _ (fun h=> absurd rfl h) ?_
       clear hK K
       try simp only [Act.put,upA,upB,upC]
       refine Z_.dn ?_
       go_wp2_with fail
       go_roundw
       case rel=>
        refine ⟨k+1,v,by omega,by go_num,Kj (HF3.out.kept KD),Kj ?_,Kj (HLS3.out.kept KD),Kr3.trans KD⟩
        rcases HHit.out with h | ⟨h1,h2⟩
        ·exact .inl h
        ·refine .inr ⟨h1,fun z hz=> ?_⟩
         rw [List.take_succ_eq_append_getElem hkl,HSk.out] at hz
         rcases List.mem_append.1 hz with hz | hz
         ·exact h2 z hz
         ·rw [List.mem_singleton] at hz
          rw [hz]
          exact HNh.out
       case measure=> simp [intOf];omega
theorem waits_name {Kk:List Qj} {sl:List Qq} (x y:ByteArray) (h:WaitsX (Qz Kk) (Qk sl) x y):x∈sl.map (·.name):=by
 obtain ⟨r,A,h1,_⟩:=h
 have h2:=env_mem h1
 rw [<-h2.2]
 exact List.mem_map.2 ⟨r,h2.1,rfl⟩
theorem ascX_before {sl:List Qq} (ha:AscX sl) {i:Nat} (hi:i < sl.length) {x:ByteArray} (hx:x=runN sl i): ∀y∈(sl.take i).map (·.name),lessX y x:=fun y hy=> by
 obtain ⟨r,hr,rfl⟩:=List.mem_map.1 hy
 obtain ⟨j,hj,rfl⟩:=List.mem_take_iff_getElem.1 hr
 have hji:j < i:=by omega
 rw [hx,show runN sl i=sl[i].name by simp [runN,List.getD,hi]]
 exact List.pairwise_iff_getElem.1 ha j i (by omega) hi hji
def CircEnd (Kk:List Qj) (sl:List Qq) (w w':World) (e:Ending):Prop:= ∃av cv ns,e= .returned (.slice av ns.length cv)∧ns.length<=cv∧Strs w' av ns∧BestR (WaitsX (Qz Kk) (Qk sl)) (sl.map (·.name)) ns∧K_ w w'
theorem l6Circle_any (w:World) (a:Option Addr) (cap:Nat) (Kk:List Qj) (ra:Option Addr) (rn rc:Nat) (d:Option Addr) (dc:Nat) (sl:List Qq) (hwl:Kk.length<=1048576) (hs6:sl.length<=1000) (hok:ActsOk (Qz Kk)) (hg:GoodL Kk sl) (hN:Nodes w a Kk) (hS:RunsX w d sl):
  Calls Tryz.prog 45 #[.agg #[.slice a Kk.length cap],.agg #[.slice ra rn rc,.slice d sl.length dc]] w fun e w'=> CircEnd Kk sl w w' e:=by
 obtain ⟨WB,hWB⟩: ∃WB,WB= (w.alloc (.cells #[.slice a Kk.length cap] 37)).alloc (.cells #[.slice ra rn rc,.slice d sl.length dc] 41):= ⟨_,rfl⟩
 have kB:K_ w WB:=by rw [hWB];exact ((K_.refl _).alloc _).alloc _
 have hBs:WB.heap.size=w.heap.size+2:=by rw [hWB];simp
 have b0:WB.cell? ⟨w.heap.size,0,none⟩=some (.slice a Kk.length cap):=by rw [hWB,K_.cell (w:=w.alloc (.cells #[.slice a Kk.length cap] 37)) ((K_.refl _).alloc _) (by simp)];exact Xq w _ _ 0 _ rfl
 have s0:WB.cell? ⟨w.heap.size+1,0,none⟩=some (.slice ra rn rc):=by have:=Xq (w.alloc (.cells #[.slice a Kk.length cap] 37)) #[.slice ra rn rc,.slice d sl.length dc] 41 0 _ rfl;rw [World.size_alloc] at this;rw [hWB];exact this
 have s1:WB.cell? ⟨w.heap.size+1,1,none⟩=some (.slice d sl.length dc):=by have:=Xq (w.alloc (.cells #[.slice a Kk.length cap] 37)) #[.slice ra rn rc,.slice d sl.length dc] 41 1 _ rfl;rw [World.size_alloc] at this;rw [hWB];exact this
 have z0:w.heap.size < WB.heap.size:=by omega
 have z1:w.heap.size+1 < WB.heap.size:=by omega
 have HC:Hid (∀w',K_ WB w'->w'.cell? ⟨w.heap.size,0,none⟩=some (.slice a Kk.length cap)∧w'.cell? ⟨w.heap.size+1,0,none⟩=some (.slice ra rn rc)∧w'.cell? ⟨w.heap.size+1,1,none⟩=some (.slice d sl.length dc)∧w.heap.size < w'.heap.size∧w.heap.size+1 < w'.heap.size):=fun w' K=> ⟨(K.cell z0).trans b0,(K.cell z1).trans s0,(K.cell z1).trans s1,Nat.lt_of_lt_of_le z0 K.size,Nat.lt_of_lt_of_le z1 K.size⟩
 have hsl:sl.length<=1048576:=by omega
 obtain ⟨ic,hc0,hc1,hc2,hc3⟩:=xInfo_parts Tryz.xInfoStr
 obtain ⟨W0,hW0⟩: ∃W0,W0=WB.alloc (.cells #[] 9):= ⟨_,rfl⟩
 have k0:K_ WB W0:=by rw [hW0];exact (K_.refl _).alloc _
 have HKB:=Kj kB
 have HGd:=Kj hg
 clear kB hBs hg
 go_enter Tryz.func45,Tryz.ntmps45
 go_upto_region 1 with fail
 rw [<-hWB]
 clear hWB
 go_wp2
 rw [<-hW0]
 clear hW0 b0 s0 s1
 go_loopw [5,6] (fun x5 x6 wr=> ∃(i:Nat) (av:Option Addr) (cv:Nat) (best:List ByteArray),i<=sl.length∧x6= .int .i64 (i:Int)∧x5= .slice av best.length cv∧best.length<=cv∧Hid (Strs wr av best)∧Hid (BestR (WaitsX (Qz Kk) (Qk sl)) ((sl.take i).map (·.name)) best)∧K_ WB wr) (fun _ x6 _=> sl.length - (intOf x6).toNat)
 case atStart=> exact ⟨0,_,_,[],Nat.zero_le _,rfl,rfl,Nat.zero_le _,Kj (fun q hq=> absurd hq (Nat.not_lt_zero q)),Kj (BestR.start _),k0⟩
 case round=>
  clear k0
  obtain ⟨i,av,cv,best,hi,rfl,rfl,hbc,HB,HR,Kr⟩:=hrel
  obtain ⟨c0,c1,c2,y0,y1⟩:=HC.out _ Kr
  by_cases hil:i < sl.length
  rotate_left
  ·have hie:i=sl.length:=by omega
   have HIe:=Kj hie
   have hgi: ¬((i:Int) < (sl.length:Int)):=by omega
   clear hie
   go_wp2_with fail
   go_ret
   refine ⟨av,cv,best,rfl,hbc,HB.out, ?_,HKB.out.trans Kr⟩
   have h:=HR.out
   rw [HIe.out,List.take_length] at h
   exact h
  have hii: (i:Int) < (sl.length:Int):=by omega
  obtain ⟨rb,ro,xa,xc,e1,hrb,hrc,_,_⟩:= (hS.kept (HKB.out.trans Kr)) i hil
  subst e1
  obtain ⟨x,hx⟩: ∃x,x=runN sl i:= ⟨_,rfl⟩
  have t0:=hrc 0 _ rfl
  rw [Nat.add_zero] at t0
  have t0':wr.cell? ⟨rb,ro+i * 7,none⟩=some (.string x):=by rw [hx];exact t0
  clear t0 hrc
  have t0:=t0'
  clear t0'
  have HX:=Kj hx
  clear hx
  go_wp2_with fail
  refine (l6Far_any wr a cap Kk ra rn rc (some ⟨rb,ro,none⟩) dc sl x hwl hs6 hok HGd.out (hN.kept (HKB.out.trans Kr)) (hS.kept (HKB.out.trans Kr))).mono ?_
  rintro e w2 ⟨fb,V,rfl,hF,hV,k2⟩
  have HF:=Kj hF
  have HV:=Kj hV
  have K2:=Kr.trans k2
  clear hF hV c0 c1 c2 t0
  dsimp only
  have HWh:Hid ((V i≠0->FarR (WaitsX (Qz Kk) (Qk sl)) x (V i) x)∧∀m,FarR (WaitsX (Qz Kk) (Qk sl)) x m x->V i=m):=by
   have h:=HV.out i hil
   rw [<-HX.out] at h
   exact RightV.whole (names:=sl.map (·.name)) waits_name (by rw [List.length_map];exact h) (lessX_irrefl x)
  have f0:=World.rowIs.cell HF.out hil
  try dsimp only at f0
  have fz:=HF.out.lt
  have HB2:=Kj (HB.out.kept k2)
  have HTk:Hid ((sl.take (i+1)).map (·.name)= (sl.take i).map (·.name)++ [x]):=by
   show _=_
   rw [List.take_succ_eq_append_getElem hil,List.map_append,HX.out]
   simp [runN,List.getD,hil]
  have HLt:Hid (∀y∈(sl.take i).map (·.name),lessX y x):=ascX_before HGd.out.asc hil HX.out
  obtain ⟨v,hv⟩: ∃v,v=V i:= ⟨_,rfl⟩
  rw [<-hv] at f0 HWh
  have HVv:=Kj hv
  clear hv HB k2
  by_cases hskip:v=0∨(0 < best.length∧best.length<=v)
  ·have HSk:Hid (∀n,FarR (WaitsX (Qz Kk) (Qk sl)) x n x->best≠[]∧best.length<=n):=fun n hn=> by
    have e:=HWh.out.2 n hn
    have hp:=hn.1.pos
    rcases hskip with h | ⟨h1,h2⟩
    ·omega
    ·exact ⟨fun e0=> by rw [e0] at h1;simp at h1,by omega⟩
   have hsk2: ((v:Int) == 0)=true∨(((v:Int) == 0)=false∧(0:Int) < (best.length:Int)∧(best.length:Int)<=(v:Int)):=by
    by_cases h0:v=0
    ·exact .inl (by simp [h0])
    ·refine .inr ⟨by simp;omega, ?_⟩
     rcases hskip with h | ⟨h1,h2⟩
     ·exact absurd h h0
     ·omega
   clear hskip
   rcases hsk2 with h0 | ⟨h0,h1,h2⟩
   all_goals
    go_wp2_with fail
    go_roundw
    case rel=> exact ⟨i+1,av,cv,best,by omega,by go_num,rfl,hbc,HB2,Kj (by rw [HTk.out];exact BestR.skip HR.out HSk.out HLt.out),K2⟩
    case measure=> simp [intOf];omega
  have hv0:v≠0:=fun h=> hskip (.inl h)
  have HFv:=Kj (HWh.out.1 hv0)
  have HBv:Hid (best=[]∨v < best.length):=by
   by_cases h:best.length=0
   ·exact .inl (List.eq_nil_of_length_eq_zero h)
   ·refine .inr ?_
    have h2: ¬(0 < best.length∧best.length<=v):=fun h2=> hskip (.inr h2)
    omega
  have hgo: ((v:Int) == 0)=false∧(¬((0:Int) < (best.length:Int))∨((0:Int) < (best.length:Int)∧¬((best.length:Int)<=(v:Int)))):=by
   refine ⟨by simp;omega, ?_⟩
   have h2: ¬(0 < best.length∧best.length<=v):=fun h2=> hskip (.inr h2)
   omega
  have hvs:v<=sl.length:=by have:= (HFv.out).bound (names:=sl.map (·.name)) waits_name;rwa [List.length_map] at this
  clear hskip
  obtain ⟨W3,hW3⟩: ∃W3,W3=w2.alloc (.cells #[.string x] 9):= ⟨_,rfl⟩
  have K3:K_ w2 W3:=by rw [hW3];exact (K_.refl _).alloc _
  have HO3:Hid (W3.ownsRow w2.heap.size 9 1 (.slice (some ⟨w2.heap.size,0,none⟩) 1 1) [x].length ([x].map Value.string)):=by
   rw [hW3]
   exact ⟨rfl,.inr ⟨w2.heap.size,1,_,rfl,Nat.le_refl _,heap_alloc_new w2 _,Nat.le_refl _,by unfold maxLen;omega,rfl,rfl⟩⟩
  obtain ⟨h0,h12⟩:=hgo
  rcases h12 with h1 | ⟨h1,h2⟩
  all_goals
   go_upto_region 10 with fail
   rw [<-hW3]
   clear hW3
   go_loopg [10] v (fun gg x10 wr=> ∃(lst:List ByteArray) (a':ByteArray) (lv:Option Addr) (lc:Nat),x10= .slice lv lst.length lc∧Hid (PartR (WaitsX (Qz Kk) (Qk sl)) x v lst a' gg)∧Hid (wr.ownsRow w2.heap.size 9 1 (.slice lv lst.length lc) lst.length (lst.map Value.string))∧K_ w2 wr)
   case atStart=> exact ⟨[x],x,_,_,rfl,Kj (PartR.start HFv.out),HO3,K3⟩
   case round=>
    obtain ⟨lst,a',lv,lc,rfl,HP,HO,Kw⟩:=hrel
    have hlen:=HP.out.len
    have hpos:=HP.out.pos
    by_cases hend:gk=1
    ·have hnlt: ¬((lst.length:Int) < (v:Int)):=by omega
     have HCi:Hid (CircR (WaitsX (Qz Kk) (Qk sl)) x v x lst):=by have h:=HP.out;rw [hend] at h;exact h.done
     clear hend hlen hpos
     obtain ⟨a9,c9,e9,h9⟩:=owned_strs HO.out
     simp only [Value.slice.injEq,true_and] at e9
     rw [<-e9.1] at h9
     have H9:=Kj h9
     have HLc:Hid (lst.length<=lc):=by
      rcases HO.out.2 with ⟨e,h⟩ | ⟨_,_,_,e,_,_,h,_⟩
      ·simp only [Value.slice.injEq] at e;show lst.length<=lc;omega
      ·simp only [Value.slice.injEq] at e;show lst.length<=lc;omega
     clear e9 h9
     go_wp2_with fail
     go_roundw
     case rel=> exact ⟨i+1,lv,lc,lst,by omega,by go_num,rfl,HLc.out,H9,Kj (by rw [HTk.out];exact BestR.take HR.out HFv.out HCi.out HBv.out),K2.trans Kw⟩
     case measure=> simp [intOf];omega
    obtain ⟨q,hq⟩: ∃q,gk=q+1:= ⟨gk - 1,by omega⟩
    have hq1:1<=q:=by omega
    have HPq:Hid (PartR (WaitsX (Qz Kk) (Qk sl)) x v lst a' (q+1)):=by have h:=HP.out;rw [hq] at h;exact h
    have HQ:=Kj hq
    have hlv: (lst.length:Int) < (v:Int):=by omega
    obtain ⟨m,hm⟩: ∃m,lst.length=m+1:= ⟨lst.length - 1,by have h:=HP.out.last;obtain ⟨l0,e⟩:=h;rw [e];simp⟩
    have hsub: (lst.length:Int) - 1= (m:Int):=by omega
    have hwr:IntKind.i64.wrap (m:Int)= (m:Int):=by rw [IntKind.wrap_i64];omega
    have him: (m:Int) < (lst.length:Int):=by omega
    have hlast:lst.getD m ByteArray.empty=a':=by
     obtain ⟨l0,e⟩:=HP.out.last
     have e2:m=l0.length:=by rw [e,List.length_append] at hm;simp at hm;omega
     rw [e,e2]
     simp [List.getD]
    obtain ⟨a9,c9,e9,h9⟩:=owned_strs HO.out
    simp only [Value.slice.injEq,true_and] at e9
    rw [<-e9.1] at h9
    obtain ⟨lb,lo,e1,hlb,hlc⟩:=h9 m (by omega)
    rw [hlast] at hlc
    subst e1
    have HLs:=Kj hlast
    have HM:=Kj hm
    clear e9 h9 hq hlast hm hend hlen hpos
    have HS11:Hid (∀u,K_ wr u->(u.cell? ⟨w.heap.size,0,none⟩=some (.slice a Kk.length cap)∧u.cell? ⟨w.heap.size+1,0,none⟩=some (.slice ra rn rc)∧u.cell? ⟨w.heap.size+1,1,none⟩=some (.slice (some ⟨rb,ro,none⟩) sl.length dc)∧u.cell? ⟨lb,lo+m,none⟩=some (.string a'))):=fun u K=> ⟨(HC.out u (K2.trans (Kw.trans K))).1,(HC.out u (K2.trans (Kw.trans K))).2.1,(HC.out u (K2.trans (Kw.trans K))).2.2.1,(K.cell hlb).trans hlc⟩
    go_upto_region 11 with fail
    refine Z_.rg 9 HS11.out fun wd KD Zz=> ?_
    refine Z_.tk 0 Zz ?_
    refine Z_.tk 1 Zz ?_
    refine Z_.tk 2 Zz ?_
    refine Z_.tk 3 Zz ?_
    refine Z_.tk 4 Zz ?_
    refine Z_.tk 5 Zz ?_
    refine Z_.tk 6 Zz ?_
    refine Z_.tk 7 Zz ?_
    refine Z_.nx 8 (fun K hK=> ?_)
    rw [if_pos (by rfl)]
    go_simp
    go_at_call 89
    refine (l6Waits_any wd a cap Kk ra rn rc (some ⟨rb,ro,none⟩) dc sl a' hwl hsl hok HGd.out (hN.kept (HKB.out.trans (K2.trans (Kw.trans KD)))) (hS.kept (HKB.out.trans (K2.trans (Kw.trans KD))))).mono ?_
    rintro e w4 ⟨⟨nb,no,nc,ns,rfl,hnc,hnS,hWL⟩,k4⟩
    have K4:=KD.trans k4
    dsimp only
    refine hK.out _ _ (fun _=> HS11.out _ K4) ?_
    clear hK K Zz
    try simp only [Act.put,upA,upB,upC]
    refine Z_.nx 9 (fun K hK=> ?_)
    go_simp
    refine hK.out _ _ (fun h=> absurd rfl h) ?_
    clear hK K
    try simp only [Act.put,upA,upB,upC]
    refine Z_.dn ?_
    have HWL:=Kj hWL
    have HNS:=Kj hnS
    have HO4:=Kj (ownsRow_kept' HO.out K4)
    have HF4:=Kj (HF.out.kept (Kw.trans K4))
    have Kw4:=Kw.trans K4
    have hl5:=hWL.len hok HGd.out.env
    clear hWL hnS HS11 hsub hwr him hlc k4 hlb
    go_wp2_with fail
    go_loopw [10,12] (fun x10 x12 wr=> ∃k:Nat,k<=ns.length∧x12= .int .i64 (k:Int)∧x10= .slice (some ⟨lb,lo,none⟩) lst.length lc∧Hid (∀y∈ns.take k,¬(WaitsX (Qz Kk) (Qk sl) a' y∧lessX x y∧FarR (WaitsX (Qz Kk) (Qk sl)) x q y))∧K_ w4 wr) (fun _ x12 _=> ns.length - (intOf x12).toNat)
    case atStart=> exact ⟨0,Nat.zero_le _,rfl,rfl,Kj (fun y hy=> by simp at hy),K_.refl _⟩
    case round=>
     obtain ⟨k,hk,rfl,rfl,HNo,Kn⟩:=hrel
     by_cases hkl:k < ns.length
     rotate_left
     ·exfalso
      obtain ⟨y,h1,h2,h3⟩:=HPq.out.more hq1
      have hy:y∈ns:= (HWL.out.2 y).2 h1
      refine HNo.out y ?_ ⟨h1,h2,h3⟩
      rw [List.take_of_length_le (by omega)]
      exact hy
     obtain ⟨lb1,lo1,e1,hlb1,hlc1⟩:= (HNS.out.kept Kn) k hkl
     cases e1
     obtain ⟨s,hs⟩: ∃s,s=ns.getD k ByteArray.empty:= ⟨_,rfl⟩
     rw [<-hs] at hlc1
     have hsg:ns[k]=s:=by rw [hs];simp [List.getD,hkl]
     have HSk:=Kj hsg
     have HEs:Hid (WaitsX (Qz Kk) (Qk sl) a' s):= (HWL.out.2 s).1 (by rw [<-hsg];exact List.getElem_mem hkl)
     clear hs hsg
     have hkk: (k:Int) < (ns.length:Int):=by omega
     have HS15:Hid (∀u,K_ wr u->(u.cell? ⟨nb,no+k,none⟩=some (.string s)∧u.cell? ⟨w.heap.size+1,0,none⟩=some (.slice ra rn rc)∧u.cell? ⟨w.heap.size+1,1,none⟩=some (.slice (some ⟨rb,ro,none⟩) sl.length dc)∧Hid (NumRow u fb sl.length V))):=fun u K=> ⟨(K.cell hlb1).trans hlc1,(HC.out u (K2.trans (Kw4.trans (Kn.trans K)))).2.1,(HC.out u (K2.trans (Kw4.trans (Kn.trans K)))).2.2.1,Kj (HF4.out.kept (Kn.trans K))⟩
     go_upto_region 15 with fail
     clear hlc1
     by_cases hgt:lessX x s
     rotate_left
     ·have HNg:=Kj hgt
      have hcs:Op.bytesLess s.toList x.toList=true∨(Op.bytesLess s.toList x.toList=false∧(s.toList == x.toList)=true):=by
       rcases lessX_total s x with h | h | h
       ·exact .inl h
       ·right
        rw [h]
        exact ⟨by cases h2:Op.bytesLess x.toList x.toList;rfl;exact absurd (show lessX x x from h2) (lessX_irrefl x),by simp⟩
       ·exact absurd h hgt
      clear hgt
      rcases hcs with hl1 | ⟨hl1,he1⟩
      all_goals
       refine Z_.rg 21 HS15.out fun wd KD Zz=> ?_
       refine Z_.tk 0 Zz ?_
       refine Z_.tk 1 Zz ?_
       refine Z_.tk 2 Zz ?_
       refine Z_.tk 3 Zz ?_
       refine Z_.tk 4 Zz ?_
       refine Z_.tk 5 Zz ?_
       refine Z_.tk 6 Zz ?_
       refine Z_.un 7 Zz ?_
       refine Z_.un 8 Zz ?_
       refine Z_.un 9 Zz ?_
       refine Z_.un 10 Zz ?_
       refine Z_.un 11 Zz ?_
       refine Z_.un 12 Zz ?_
       refine Z_.un 13 Zz ?_
       refine Z_.un 14 Zz ?_
       refine Z_.un 15 Zz ?_
       refine Z_.un 16 Zz ?_
       refine Z_.un 17 Zz ?_
       refine Z_.un 18 Zz ?_
       refine Z_.un 19 Zz ?_
       refine Z_.un 20 Zz ?_
       refine Z_.nx 21 (fun K hK=> ?_)
       go_simp
       refine hK.out _ _ (fun h=> absurd rfl h) ?_
       clear hK K
       try simp only [Act.put,upA,upB,upC]
       refine Z_.dn ?_
       go_wp2_with fail
       go_roundw
       case rel=> exact ⟨k+1,by omega,by go_num,rfl,Kj (fun y hy=> by
        rw [List.take_succ_eq_append_getElem hkl,HSk.out] at hy
        rcases List.mem_append.1 hy with hy | hy
        ·exact HNo.out y hy
        ·rw [List.mem_singleton] at hy
         rw [hy]
         exact fun h=> HNg.out h.2.1),Kn.trans KD⟩
       case measure=> simp [intOf];omega
     have HGt:Hid (lessX x s):=hgt
     have hl1:Op.bytesLess s.toList x.toList=false:=by
      cases h:Op.bytesLess s.toList x.toList
      ·rfl
      ·exact absurd (show lessX s x from h) (lessX_asymm hgt)
     have he1: (s.toList == x.toList)=false:=by
      cases h: (s.toList == x.toList)
      ·rfl
      ·exact absurd hgt (by rw [beq_yes h];exact lessX_irrefl _)
     clear hgt
     have hsubq: (v:Int) - (lst.length:Int)= (q:Int):=by have:=HPq.out.len;omega
     have hwq:IntKind.i64.wrap (q:Int)= (q:Int):=by rw [IntKind.wrap_i64];omega
     refine Z_.rg 21 HS15.out fun wd KD Zz=> ?_
     refine Z_.tk 0 Zz ?_
     refine Z_.tk 1 Zz ?_
     refine Z_.tk 2 Zz ?_
     refine Z_.tk 3 Zz ?_
     refine Z_.tk 4 Zz ?_
     refine Z_.tk 5 Zz ?_
     refine Z_.tk 6 Zz ?_
     refine Z_.tk 7 Zz ?_
     refine Z_.tk 8 Zz ?_
     refine Z_.tk 9 Zz ?_
     refine Z_.tk 10 Zz ?_
     refine Z_.tk 11 Zz ?_
     refine Z_.tk 12 Zz ?_
     refine Z_.tk 16 Zz ?_
     refine Z_.tk 17 Zz ?_
     refine Z_.tk 18 Zz ?_
     refine Z_.tk 19 Zz ?_
     refine Z_.nx 13 (fun K hK=> ?_)
     rw [if_pos (by rfl)]
     go_simp
     go_at_call 58
     refine (l4At_place wd ra rn rc (some ⟨rb,ro,none⟩) dc sl s hsl (hS.kept (HKB.out.trans (K2.trans (Kw4.trans (Kn.trans KD)))))).mono ?_
     rintro e w5 ⟨⟨q5,rfl,hq5⟩,k5⟩
     have K5:=KD.trans k5
     obtain ⟨k',hk',rfl,henv',hkn'⟩: ∃k':Nat,k' < sl.length∧q5= (k':Int)∧Qk sl s=some (sl.getD k' Qq.zero)∧(sl.getD k' Qq.zero).name=s:=by
      rcases hq5 with ⟨k',h1,h2,h3,h4⟩ | ⟨_,h1⟩
      ·exact ⟨k',h1,h2,h3,h4⟩
      ·obtain ⟨_,_,_,_,_,_,_,y,hy,_⟩:=HEs.out
       rw [h1] at hy
       cases hy
     clear hq5
     have hki': (k':Int) < (sl.length:Int):=by omega
     have hk0: (0:Int)<=(k':Int):=by omega
     obtain ⟨p,hp⟩: ∃p,p=V k':= ⟨_,rfl⟩
     have HPQ:Hid (p=q↔FarR (WaitsX (Qz Kk) (Qk sl)) x q s):=by
      show p=q↔_
      have h:=HV.out k' hk'
      have e2:runN sl k'=s:=hkn'
      rw [e2] at h
      have h2:=RightV.whole (names:=sl.map (·.name)) waits_name (by rw [List.length_map];exact h) (lessX_asymm HGt.out)
      rw [<-hp] at h2
      exact ⟨fun e=> by have h3:=h2.1 (by omega);rw [e] at h3;exact h3,fun hf=> h2.2 q hf⟩
     have HPp:=Kj hp
     clear hp henv' hkn'
     dsimp only
     refine hK.out _ _ (fun _=> HS15.out _ K5) ?_
     clear hK K
     try simp only [Act.put,upA,upB,upC]
     clear Zz
     have Zz:=HS15.out _ K5
     by_cases hpq:p=q
     ·have hpb: ((p:Int) == (q:Int))=true:=by simp [hpq]
      have HLe:Hid (LeastN (fun y=> WaitsX (Qz Kk) (Qk sl) a' y∧lessX x y∧FarR (WaitsX (Qz Kk) (Qk sl)) x q y) s):=by
       have h:=first_least (p:=fun y=> WaitsX (Qz Kk) (Qk sl) a' y∧lessX x y∧FarR (WaitsX (Qz Kk) (Qk sl)) x q y) HWL.out.1 (fun y hy=> (HWL.out.2 y).2 hy.1) hkl (by rw [HSk.out];exact ⟨HEs.out,HGt.out,HPQ.out.1 hpq⟩) HNo.out
       rw [HSk.out] at h
       exact h
      clear hpq
      refine Z_.tk 14 Zz ?_
      refine Z_.take 15 [20,21] (v:= ?_) (by (simp only [List.getElem?_toArray,List.getElem?_cons_succ,List.getElem?_cons_zero];rfl)) (by kernel_rfl) (by kernel_rfl) (by kernel_rfl) (by kernel_rfl) (by exact fun _ _ _ h=> h) (Or.inl ⟨by rfl, ?_⟩) Zz ?_
      rotate_left
      ·intro u hu
       try dsimp only at hu
       have f9:=World.rowIs.cell hu.2.2.2.out hk'
       try dsimp only at f9
       rw [<-HPp.out] at f9
       go_simp
       try with_reducible rfl
      try simp only [Act.put,upA,upB,upC]
      refine Z_.tk 20 Zz ?_
      refine Z_.nx 21 (fun K hK=> ?_)
      go_simp
      refine hK.out _ _ (fun h=> absurd rfl h) ?_
      clear hK K
      try simp only [Act.put,upA,upB,upC]
      refine Z_.dn ?_
      have c5:= (HS15.out _ K5).1
      clear HS15 Zz
      have k1:K_ w5 (w5.alloc (.cells #[.string s] 9)):= (K_.refl _).alloc _
      have HOw:=Kj (ownsRow_kept' HO4.out (Kn.trans (K5.trans k1)))
      have KK:=Kj (Kw4.trans (Kn.trans (K5.trans k1)))
      have hbz:w2.heap.size<=(w5.alloc (.cells #[.string s] 9)).heap.size:=KK.out.size
      have HNw:Hid (∀j u,([.string s]:List Value)[j]? =some u->(w5.alloc (.cells #[.string s] 9)).cell? ((⟨w5.heap.size,0,none⟩:Addr).add j)=some u):=fun j u hu=> by rw [Addr.add_mid];exact Xq w5 #[.string s] 9 j u hu
      have HOne:Hid (∀u∈([.string s]:List Value),u.oneCell'=true):=fun u hu=> by simp only [List.mem_cons,List.not_mem_nil,or_false] at hu;subst hu;rfl
      clear k1
      go_wp2_with (at_builtin;refine wpList_append_own _ rfl (.tmp 91) (.tmp 96) 25 rfl w2.heap.size 9 ic _ 1 16 Tryz.underlying25 hc0 hc1 hc2 hc3 rfl (by decide) (.slice (some ⟨lb,lo,none⟩) lst.length lc) lst.length (lst.map Value.string) rfl HOw.out ⟨w5.heap.size,0,none⟩ 1 1 [.string s] rfl rfl HNw.out HOne.out (by unfold maxLen;omega) (by omega) hbz ?_;intro v' w6 hown2 hgr _;have KP:=kept_of_grown KK.out (Nat.le_refl _) HOw.out hgr;have HP2:=Kj hown2;obtain ⟨av2,cv2,rfl⟩:=own_slice hown2;clear hown2 hgr)
      go_roundg q
      case measure=> have:=HQ.out;omega
      case rel=> exact ⟨lst++ [s],s,av2,cv2,by rw [List.length_append];rfl,Kj (HPq.out.next hq1 HLe.out),Kj (by rw [List.map_append,List.length_append];exact HP2.out),KP⟩
     ·have hpb: ((p:Int) == (q:Int))=false:=by simp;omega
      have HNf:Hid (¬FarR (WaitsX (Qz Kk) (Qk sl)) x q s):=fun h=> hpq (HPQ.out.2 h)
      clear hpq
      refine Z_.tk 14 Zz ?_
      refine Z_.take 15 [20,21] (v:= ?_) (by (simp only [List.getElem?_toArray,List.getElem?_cons_succ,List.getElem?_cons_zero];rfl)) (by kernel_rfl) (by kernel_rfl) (by kernel_rfl) (by kernel_rfl) (by exact fun _ _ _ h=> h) (Or.inl ⟨by rfl, ?_⟩) Zz ?_
      rotate_left
      ·intro u hu
       try dsimp only at hu
       have f9:=World.rowIs.cell hu.2.2.2.out hk'
       try dsimp only at f9
       rw [<-HPp.out] at f9
       go_simp
       try with_reducible rfl
      try simp only [Act.put,upA,upB,upC]
      refine Z_.tk 20 Zz ?_
      refine Z_.nx 21 (fun K hK=> ?_)
      go_simp
      refine hK.out _ _ (fun h=> absurd rfl h) ?_
      clear hK K
      try simp only [Act.put,upA,upB,upC]
      refine Z_.dn ?_
      go_wp2_with fail
      go_roundw
      case rel=> exact ⟨k+1,by omega,by go_num,rfl,Kj (fun y hy=> by
       rw [List.take_succ_eq_append_getElem hkl,HSk.out] at hy
       rcases List.mem_append.1 hy with hy | hy
       ·exact HNo.out y hy
       ·rw [List.mem_singleton] at hy
        rw [hy]
        exact fun h=> HNf.out h.2.2),Kn.trans K5⟩
      case measure=> simp [intOf];omega
theorem Tryz.zeroWS (w:World): (zeroValue 25).run Tryz.prog w= .ok (.slice none 0 0) w:=by kernel_rfl
structure OutM (w:World) (base mo M:Nat) (g:ByteArray->Value) (ol:ByteArray->List ByteArray):Prop where
 map: ∃N D,N<=M∧w.ownsMap Tryz.prog 9 asIs mo N D∧(∀s:ByteArray,s.size<=maxLen->D.atKey (keyLit s) (.held (.slice none 0 0))= .held (g s))∧∀s:ByteArray,Maps.has D (keyLit s)=true↔ol s≠[]
 row: ∀s,w.ownsRow base 9 1 (g s) (ol s).length ((ol s).map Value.string)
 sep: ∀s s',s≠s'->∀x,(g s).ownBlock=some x->(g s').ownBlock≠some x
 low:base<=mo
section
variable {w w1 w' : World} {base mo M : Nat} {g : ByteArray -> Value} {ol : ByteArray -> List ByteArray}
theorem OutM.look (h:OutM w base mo M g ol) {s:ByteArray} (hs:s.size<=maxLen): (Instr.lookup 139 (.map (some mo)) (.string s) false).run Tryz.prog w= .ok (g s) w:=by
 obtain ⟨N,D,_,hM,hf⟩:=h.map
 obtain ⟨v,ps,hrun,hv⟩:=hM.lookup Tryz.keyed Tryz.underlying139 (Tryz.zeroWS w) (zd:= .held (.slice none 0 0)) (zp:=[]) rfl (WideMaps.keyOf_string_mk Tryz.underlying9 hs)
 have e:=hf.1 s hs
 unfold asIs at hv
 simp only [Option.some.injEq,Prod.mk.injEq] at hv
 have e2: (DataW.held v:DataW Value)= .held (g s):=hv.1.trans e
 cases e2
 exact hrun
theorem OutM.but {S:Nat->Prop} (h:OutM w base mo M g ol) (k:But S w w') (h1: ¬S mo) (h2: ∀s b,(g s).ownBlock=some b->¬S b):OutM w' base mo M g ol:=by
 obtain ⟨N,D,hN,hM,hf⟩:=h.map
 exact ⟨⟨N,D,hN,map_but hM k h1,hf⟩,fun s=> k.owns (h.row s) (h2 s),h.sep,h.low⟩
theorem OutM.kept (h:OutM w base mo M g ol) (k:K_ w w'):OutM w' base mo M g ol:=
 h.but (S:=fun _=> False) (But.of_kept k) id (fun _ _ _=> id)
theorem OutM.grown_look (h:OutM w base mo M g ol) {s:ByteArray} (hs:s.size<=maxLen) (hg:w.grownBy w1 (g s).ownBlock): (Instr.lookup 139 (.map (some mo)) (.string s) false).run Tryz.prog w1= .ok (g s) w1:=by
 obtain ⟨N,D,_,hM,hf⟩:=h.map
 have hM1:w1.ownsMap Tryz.prog 9 asIs mo N D:=map_but (S:=fun b=> (g s).ownBlock=some b) hM (But.of_grown hg (fun b e=> e)) (fun e=> map_ne hM (Yq (h.row s) e) rfl)
 obtain ⟨v,ps,hrun,hv⟩:=hM1.lookup Tryz.keyed Tryz.underlying139 (Tryz.zeroWS w1) (zd:= .held (.slice none 0 0)) (zp:=[]) rfl (WideMaps.keyOf_string_mk Tryz.underlying9 hs)
 have e:=hf.1 s hs
 unfold asIs at hv
 simp only [Option.some.injEq,Prod.mk.injEq] at hv
 have e2: (DataW.held v:DataW Value)= .held (g s):=hv.1.trans e
 cases e2
 exact hrun
theorem OutM.put (h:OutM w base mo M g ol) {s:ByteArray} (hs:s.size<=maxLen) {x:ByteArray} {v':Value} (ho:w1.ownsRow base 9 1 v' ((ol s).length+1) ((ol s).map Value.string++ [.string x])) (hg:w.grownBy w1 (g s).ownBlock) (hv: ∀b,v'.ownBlock=some b->(g s).ownBlock=some b∨w.heap.size<=b) (hmx:M<=1000000):
  ∃w2,(Instr.mapUpdate 139 (.map (some mo)) (.string s) v').run Tryz.prog w1= .ok () w2∧OutM w2 base mo (M+1) (fun n=> if n=s then v' else g n) (fun n=> if n=s then ol s++ [x] else ol n)∧But (fun b=> (g s).ownBlock=some b∨b=mo) w w2:=by
 obtain ⟨N,D,hNl,hM,hf⟩:=h.map
 have k1:But (fun b=> (g s).ownBlock=some b) w w1:=But.of_grown hg (fun b e=> e)
 have hM1:=map_but hM k1 (fun e=> map_ne hM (Yq (h.row s) e) rfl)
 obtain ⟨w2,hrun,hM2,hg2⟩:=hM1.update Tryz.keyed Tryz.underlying139 (by unfold maxLen;omega) (WideMaps.keyOf_string_mk Tryz.underlying9 hs) (d:= .held v') (ps:=[]) rfl
 have kS:But (fun b=> (g s).ownBlock=some b∨b=mo) w w2:= (k1.mono (fun b _ e=> .inl e)).trans (But.of_grown hg2 (fun b e=> .inr (Option.some.inj e).symm))
 have k2:But (fun b=> b=mo) w1 w2:=But.of_grown hg2 (fun b e=> (Option.some.inj e).symm)
 have ne1: ∀{b:Nat} {t:TypeId},TypeAt w1 b t->¬b=mo:=fun hu e=> map_ne hM1 hu e
 have hmp:Maps.IsMap D:=by obtain ⟨es,clock,_,_,_,rfl⟩:=hM;exact ⟨_,rfl⟩
 refine ⟨w2,hrun,⟨⟨N+1,_,by omega,hM2,fun n hn=> ?_,fun n=> ?_⟩,fun n=> ?_,fun n n' hnn y hy hy'=> ?_,h.low⟩,kS⟩
 ·by_cases e:n=s
  ·rw [if_pos e,e]
   exact Maps.atKey_put_same (k:=keyLit s) hmp (by show WideAt.IsKeyLit (.string _);exact trivial) _ _
  ·rw [if_neg e,<-hf.1 n hn]
   exact Maps.atKey_put_other (keyLit_ne e) _ _
 ·by_cases e:n=s
  ·rw [if_pos e,e]
   exact ⟨fun _=> by simp,fun _=> Maps.has_put_same (k:=keyLit s) hmp (by show WideAt.IsKeyLit (.string _);exact trivial) (.held v')⟩
  ·rw [if_neg e,<-hf.2 n]
   exact Eq.to_iff (congrArg (· =true) (Maps.has_put_other (keyLit_ne e) _))
 ·by_cases e:n=s
  ·simp only [if_pos e]
   have e1: (ol s++ [x]).length= (ol s).length+1:=by simp
   have e2: (ol s++ [x]).map Value.string= (ol s).map Value.string++ [.string x]:=by simp
   rw [e1,e2]
   exact k2.owns ho (fun b e=> ne1 (Yq ho e))
  ·simp only [if_neg e]
   refine kS.owns (h.row n) (fun b e1 e2=> ?_)
   rcases e2 with e2 | e2
   ·exact h.sep n s e b e1 e2
   ·exact map_ne hM (Yq (h.row n) e1) e2
 ·by_cases e:n=s
  ·rw [if_pos e] at hy
   rw [if_neg (fun e'=> hnn (e.trans e'.symm))] at hy'
   rcases hv y hy with q | q
   ·exact h.sep s n' (fun e'=> hnn (e.trans e')) y q hy'
   ·have:= ((h.row n').lt y hy').2;omega
  ·rw [if_neg e] at hy
   by_cases e':n'=s
   ·rw [if_pos e'] at hy'
    rcases hv y hy' with q | q
    ·exact h.sep n s e y hy q
    ·have:= ((h.row n).lt y hy).2;omega
   ·rw [if_neg e'] at hy'
    exact h.sep n n' hnn y hy hy'
theorem OutM.made {base:Nat} (hb:base<=w.heap.size):OutM (w.alloc (.map #[] 0)) base w.heap.size 0 (fun _=> .slice none 0 0) (fun _=> []):=
 ⟨⟨0,.map [],Nat.le_refl _,World.ownsMap_made w Tryz.prog 9 asIs,fun s _=> rfl,fun s=> by simp [Maps.has]⟩,fun s=> World.ownsRow_nil _ _ _ _,fun s s' _ x h=> (by cases h),hb⟩
end
