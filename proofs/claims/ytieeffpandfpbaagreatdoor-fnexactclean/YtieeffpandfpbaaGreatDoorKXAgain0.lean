import Derived.Test.YtieeffpandfpbaaGreatDoorKXWaits
import Derived.Deep.OwnRows
set_option maxRecDepth 100000
set_option maxHeartbeats 25600000
namespace Go.Proofs.YtieeffpandfpbaaGreatDoor
open Go.RowKit
theorem Tryz.infoIntF : (Tryz.prog.info? 3).map (fun i=> (i.zero,i.size,i.bytes))=some (some (.int .i64 0),1,8):=by kernel_rfl
def runN (sl:List Qz) (p:Nat):ByteArray:= (sl.getD p Qz.zero).name
def NumRow (w:World) (fb n:Nat) (V:Nat->Nat):Prop:=w.rowIs fb 3 n (fun i=> .int .i64 (V i:Int))
theorem NumRow.kept {w w':World} {fb n:Nat} {V:Nat->Nat} (h:NumRow w fb n V) (k:K_ w w'):NumRow w' fb n V:=by
 obtain ⟨c,h1,h2⟩:=h
 exact ⟨c,(k.block fb (heap_lt h1)).trans h1,h2⟩
theorem NumRow.lt {w:World} {fb n:Nat} {V:Nat->Nat} (h:NumRow w fb n V):fb < w.heap.size:=by obtain ⟨c,h1,_⟩:=h;exact heap_lt h1
theorem NumRow.put {w:World} {fb n:Nat} {V:Nat->Nat} (h:NumRow w fb n V) (i v:Nat):NumRow (w.setCell ⟨fb,i,none⟩ (.int .i64 (v:Int))) fb n (fun p=> if p=i then v else V p):=by
 obtain ⟨c,h1,h2,h3⟩:=World.rowIs.set h i (.int .i64 (v:Int))
 refine ⟨c,h1,h2,fun p hp=> ?_⟩
 rw [h3 p hp]
 by_cases e:p=i
 ·simp [e]
 ·simp [e]
theorem NumRow.ne {w:World} {fb n:Nat} {V:Nat->Nat} (h:NumRow w fb n V) {b o:Nat} {s:ByteArray} (hc:w.cell? ⟨b,o,none⟩=some (.string s)):b≠fb:=by
 rintro rfl
 by_cases ho:o < n
 ·rw [World.rowIs.cell h ho] at hc
  cases hc
 ·obtain ⟨c,h1,h2,_⟩:=h
  simp [World.cell?,h1] at hc
  have:= (Array.getElem?_eq_some_iff.1 hc).1
  omega
theorem NumRow.strs {w:World} {fb n:Nat} {V:Nat->Nat} (h:NumRow w fb n V) {b o:Nat} {l:List ByteArray} (hl:Strs w (some ⟨b,o,none⟩) l) (i:Nat) (v:Value):Strs (w.setCell ⟨fb,i,none⟩ v) (some ⟨b,o,none⟩) l:=fun q hq=> by
 obtain ⟨b',o',e,hb,hc⟩:=hl q hq
 cases e
 exact ⟨b,o,rfl,by rw [size_setCell];exact hb,by rw [Zk (h.ne hc)];exact hc⟩
def FarEnd (Kj:List Qq) (sl:List Qz) (goal:ByteArray) (w w':World) (e:Ending):Prop:= ∃fb V,e= .returned (.slice (some ⟨fb,0,none⟩) sl.length sl.length)∧NumRow w' fb sl.length V∧(∀p,p < sl.length->RightV (WaitsX (Q_ Kj) (Qj sl)) goal (sl.length+1) (runN sl p) (V p))∧K_ w w'
theorem l6Far_any (w:World) (a:Option Addr) (cap:Nat) (Kj:List Qq) (ra:Option Addr) (rn rc:Nat) (d:Option Addr) (dc:Nat) (sl:List Qz) (goal:ByteArray) (hwl:Kj.length<=1048576) (hs6:sl.length<=1000) (hok:ActsOk (Q_ Kj)) (hg:GoodL Kj sl) (hN:Nodes w a Kj) (hS:RunsX w d sl):
  Calls Tryz.prog 88 #[.agg #[.slice a Kj.length cap],.agg #[.slice ra rn rc,.slice d sl.length dc],.string goal] w fun e w'=> FarEnd Kj sl goal w w' e:=by
 obtain ⟨WB,hWB⟩: ∃WB,WB= (w.alloc (.cells #[.slice a Kj.length cap] 37)).alloc (.cells #[.slice ra rn rc,.slice d sl.length dc] 41):= ⟨_,rfl⟩
 have kB:K_ w WB:=by rw [hWB];exact ((K_.refl _).alloc _).alloc _
 have hBs:WB.heap.size=w.heap.size+2:=by rw [hWB];simp
 have b0:WB.cell? ⟨w.heap.size,0,none⟩=some (.slice a Kj.length cap):=by rw [hWB,K_.cell (w:=w.alloc (.cells #[.slice a Kj.length cap] 37)) ((K_.refl _).alloc _) (by simp)];exact Xz w _ _ 0 _ rfl
 have s0:WB.cell? ⟨w.heap.size+1,0,none⟩=some (.slice ra rn rc):=by have:=Xz (w.alloc (.cells #[.slice a Kj.length cap] 37)) #[.slice ra rn rc,.slice d sl.length dc] 41 0 _ rfl;rw [World.size_alloc] at this;rw [hWB];exact this
 have s1:WB.cell? ⟨w.heap.size+1,1,none⟩=some (.slice d sl.length dc):=by have:=Xz (w.alloc (.cells #[.slice a Kj.length cap] 37)) #[.slice ra rn rc,.slice d sl.length dc] 41 1 _ rfl;rw [World.size_alloc] at this;rw [hWB];exact this
 have z0:w.heap.size < WB.heap.size:=by omega
 have z1:w.heap.size+1 < WB.heap.size:=by omega
 have HC:Hid (∀w',K_ WB w'->w'.cell? ⟨w.heap.size,0,none⟩=some (.slice a Kj.length cap)∧w'.cell? ⟨w.heap.size+1,0,none⟩=some (.slice ra rn rc)∧w'.cell? ⟨w.heap.size+1,1,none⟩=some (.slice d sl.length dc)∧w.heap.size < w'.heap.size∧w.heap.size+1 < w'.heap.size):=fun w' K=> ⟨(K.cell z0).trans b0,(K.cell z1).trans s0,(K.cell z1).trans s1,Nat.lt_of_lt_of_le z0 K.size,Nat.lt_of_lt_of_le z1 K.size⟩
 have hsl:sl.length<=1048576:=by omega
 have hmk:=run_make_row' (P:=Tryz.prog) 152 3 _ _ Tryz.underlying152 Tryz.infoIntF rfl .i64 .i64 sl.length (by omega) (by omega)
 obtain ⟨W0,hW0⟩: ∃W0,W0=WB.alloc (.cells (madeCells #[.int .i64 0] sl.length) 3):= ⟨_,rfl⟩
 have k0:K_ WB W0:=by rw [hW0];exact (K_.refl _).alloc _
 have HF0:Hid (NumRow W0 WB.heap.size sl.length (fun _=> 0)):=by
  rw [hW0]
  exact World.rowIs_made WB (.int .i64 0) sl.length 3
 have HKB:=Kz kB
 have HGd:=Kz hg
 clear kB hBs hg
 go_enter Tryz.func88,Tryz.ntmps88
 go_upto_region 1 with fail
 rw [<-hWB]
 clear hWB
 go_wp2
 rw [<-hW0]
 clear hW0 hmk b0 s0 s1
 obtain ⟨fb,hfb⟩: ∃fb,fb=WB.heap.size:= ⟨_,rfl⟩
 rw [<-hfb] at HF0⊢
 have hfw:WB.heap.size<=fb:=Nat.le_of_eq hfb.symm
 have hfw1:w.heap.size+1 < fb:=by omega
 clear hfb
 go_loopw [8] (fun x8 wr=> ∃(n:Nat) (V:Nat->Nat),1<=n∧n<=sl.length+1∧x8= .int .i64 (n:Int)∧Hid (NumRow wr fb sl.length V)∧Hid (∀p,p < sl.length->RightV (WaitsX (Q_ Kj) (Qj sl)) goal n (runN sl p) (V p))∧K_ WB wr) (fun x8 _=> sl.length+1 - (intOf x8).toNat)
 case atStart=> exact ⟨1,_,Nat.le_refl _,by omega,rfl,HF0,Kz (fun p _=> RightV.start),k0⟩
 case round=>
  clear HF0 k0
  obtain ⟨n,V,hn1,hn2,rfl,HF,HV,Kr⟩:=hrel
  obtain ⟨c0,c1,c2,y0,y1⟩:=HC.out _ Kr
  by_cases hlt:n<=sl.length
  rotate_left
  ·have hne:n=sl.length+1:=by omega
   have HNe:=Kz hne
   have hgt: ¬((n:Int)<=(sl.length:Int)):=by omega
   clear hne
   go_wp2_with fail
   go_ret
   refine ⟨fb,V,rfl,HF.out,fun p hp=> ?_,HKB.out.trans Kr⟩
   rw [<-HNe.out]
   exact HV.out p hp
  have hle: (n:Int)<=(sl.length:Int):=by omega
  go_upto_region 6 with fail
  go_loopw [9] (fun x9 wr=> ∃(i:Nat) (V:Nat->Nat),i<=sl.length∧x9= .int .i64 (i:Int)∧Hid (NumRow wr fb sl.length V)∧Hid (∀p,p < sl.length->RightV (WaitsX (Q_ Kj) (Qj sl)) goal (if p < i then n+1 else n) (runN sl p) (V p))∧K_ WB wr) (fun x9 _=> sl.length - (intOf x9).toNat)
  case atStart=> exact ⟨0,V,Nat.zero_le _,rfl,HF,Kz (fun p hp=> by rw [if_neg (Nat.not_lt_zero _)];exact HV.out p hp),Kr⟩
  case round=>
   clear HF HV c0 c1 c2 y0 y1 Kr V
   obtain ⟨i,V,hi,rfl,HF,HV,Kr⟩:=hrel
   obtain ⟨c0,c1,c2,y0,y1⟩:=HC.out _ Kr
   by_cases hil:i < sl.length
   rotate_left
   ·have hie:i=sl.length:=by omega
    have HIe:=Kz hie
    have hgi: ¬((i:Int) < (sl.length:Int)):=by omega
    clear hie
    go_wp2_with fail
    go_roundw
    case rel=> exact ⟨n+1,V,by omega,by omega,by go_num,HF,Kz (fun p hp=> by have h:=HV.out p hp;rw [if_pos (by rw [HIe.out];exact hp)] at h;exact h),Kr⟩
    case measure=> simp [intOf];omega
   have hii: (i:Int) < (sl.length:Int):=by omega
   obtain ⟨rb,ro,xa,xc,e1,hrb,hrc,_,_⟩:= (hS.kept (HKB.out.trans Kr)) i hil
   subst e1
   obtain ⟨x,hx⟩: ∃x,x=runN sl i:= ⟨_,rfl⟩
   have t0:=hrc 0 _ rfl
   rw [Nat.add_zero] at t0
   have t0':wr.cell? ⟨rb,ro+i * 7,none⟩=some (.string x):=by rw [hx];exact t0
   clear t0 hrc
   have t0:=t0'
   clear t0'
   have f0:=World.rowIs.cell HF.out hil
   try dsimp only at f0
   have fz:=HF.out.lt
   have HX:=Kz hx
   have HVi:Hid (RightV (WaitsX (Q_ Kj) (Qj sl)) goal n x (V i)):=by have h:=HV.out i hil;rw [if_neg (Nat.lt_irrefl _),<-hx] at h;exact h
   clear hx
   by_cases hskip:V i≠0∨lessX x goal
   ·have HSk:=Kz hskip
    have HNext:Hid (∀p,p < sl.length->RightV (WaitsX (Q_ Kj) (Qj sl)) goal (if p < i+1 then n+1 else n) (runN sl p) (V p)):=fun p hp=> by
     by_cases e:p=i
     ·subst e
      rw [if_pos (by omega),<-HX.out]
      exact HVi.out.keep HSk.out
     ·have h:=HV.out p hp
      by_cases e2:p < i
      ·rw [if_pos e2] at h;rw [if_pos (by omega)];exact h
      ·rw [if_neg e2] at h;rw [if_neg (by omega)];exact h
    have hsk2: (0:Int) < (V i:Int)∨(¬((0:Int) < (V i:Int))∧Op.bytesLess x.toList goal.toList=true):=by
     by_cases h0:V i=0
     ·refine .inr ⟨by omega, ?_⟩
      rcases hskip with h | h
      ·exact absurd h0 h
      ·exact h
     ·exact .inl (by omega)
    obtain ⟨v,hv⟩: ∃v,v=V i:= ⟨_,rfl⟩
    rw [<-hv] at f0 hsk2
    clear hskip hv
    rcases hsk2 with hp | ⟨hp,hb⟩
    ·go_wp2_with fail
     go_roundw
     case rel=> exact ⟨i+1,V,by omega,by go_num,HF,HNext,Kr⟩
     case measure=> simp [intOf];omega
    ·go_wp2_with fail
     go_roundw
     case rel=> exact ⟨i+1,V,by omega,by go_num,HF,HNext,Kr⟩
     case measure=> simp [intOf];omega
   have hv0:V i=0:=by
    by_cases h:V i=0
    ·exact h
    ·exact absurd (.inl h) hskip
   have hxg: ¬lessX x goal:=fun h=> hskip (.inr h)
   have hbf:Op.bytesLess x.toList goal.toList=false:=by
    cases h:Op.bytesLess x.toList goal.toList
    ·rfl
    ·exact absurd h hxg
   rw [hv0] at HVi f0
   have HV0:=Kz hv0
   have HXg:=Kz hxg
   clear hskip hv0 hxg
   have HS9:Hid (∀w',K_ wr w'->w'.cell? ⟨w.heap.size,0,none⟩=some (.slice a Kj.length cap)∧w'.cell? ⟨w.heap.size+1,0,none⟩=some (.slice ra rn rc)∧w'.cell? ⟨w.heap.size+1,1,none⟩=some (.slice (some ⟨rb,ro,none⟩) sl.length dc)∧w'.cell? ⟨rb,ro+i * 7,none⟩=some (.string x)):=fun w' K=> ⟨(HC.out w' (Kr.trans K)).1,(HC.out w' (Kr.trans K)).2.1,(HC.out w' (Kr.trans K)).2.2.1,(K.cell hrb).trans t0⟩
   go_upto_region 9 with fail
   refine Qx.rg 9 HS9.out fun wd KD Z_=> ?_
   refine Qx.tk 0 Z_ ?_
   refine Qx.tk 1 Z_ ?_
   refine Qx.tk 2 Z_ ?_
   refine Qx.tk 3 Z_ ?_
   refine Qx.tk 4 Z_ ?_
   refine Qx.tk 5 Z_ ?_
   refine Qx.tk 6 Z_ ?_
   refine Qx.tk 7 Z_ ?_
   refine Qx.nx 8 (fun K hK=> ?_)
   rw [if_pos (by rfl)]
   go_simp
   go_at_call 89
   refine (l6Waits_any wd a cap Kj ra rn rc (some ⟨rb,ro,none⟩) dc sl x hwl hsl hok HGd.out (hN.kept (HKB.out.trans (Kr.trans KD))) (hS.kept (HKB.out.trans (Kr.trans KD)))).mono ?_
   rintro e w2 ⟨⟨lb,lo,lc,ns,rfl,hlc,hlS,hWL⟩,k2⟩
   have K2:=KD.trans k2
   refine hK.out _ _ (fun _=> HS9.out _ K2) ?_
   clear hK K Z_
   try simp only [Act.put,upA,upB,upC]
   refine Qx.nx 9 (fun K hK=> ?_)
   go_simp
   refine hK.out _ _ (fun h=> absurd rfl h) ?_
   clear hK K
   try simp only [Act.put,upA,upB,upC]
   refine Qx.dn ?_
   have HWL:=Kz hWL
   have HLS:=Kz hlS
   have HF2:=Kz (HF.out.kept K2)
   have Kw2:=Kr.trans K2
   have hl5:=hWL.len hok HGd.out.env
   have HVv:=Kz (fun p hp=> HV.out p hp)
   clear hWL hlS f0 fz t0 c0 c1 c2 y0 y1 HS9 k2
   go_wp2_with fail
   go_loopw [11] (fun x11 wr=> ∃(k v:Nat),k<=ns.length∧x11= .int .i64 (k:Int)∧Hid (NumRow wr fb sl.length (fun p=> if p=i then v else V p))∧Hid ((v=n∧∃s,Hit (WaitsX (Q_ Kj) (Qj sl)) goal n x s)∨(v=0∧∀s∈ns.take k,¬Hit (WaitsX (Q_ Kj) (Qj sl)) goal n x s))∧Hid (Strs wr (some ⟨lb,lo,none⟩) ns)∧K_ WB wr) (fun x11 _=> ns.length - (intOf x11).toNat)
   case atStart=> exact ⟨0,0,Nat.zero_le _,rfl,Kz (World.rowIs.congr HF2.out (fun p hp=> by by_cases e:p=i;(subst e;simp [HV0.out]);simp [e])),Kz (.inr ⟨rfl,fun s hs=> by simp at hs⟩),HLS,Kw2⟩
   case round=>
    clear HF2 HLS Kw2
    obtain ⟨k,v,hk,rfl,HF3,HHit,HLS3,Kr3⟩:=hrel
    by_cases hkl:k < ns.length
    rotate_left
    ·have hke:ns.take k=ns:=List.take_of_length_le (by omega)
     have hgk: ¬((k:Int) < (ns.length:Int)):=by omega
     have HKe:=Kz hke
     clear hke
     go_wp2_with fail
     go_roundw
     case rel=>
      refine ⟨i+1,fun p=> if p=i then v else V p,by omega,by go_num,HF3,Kz (fun p hp=> ?_),Kr3⟩
      by_cases e:p=i
      ·subst e
       dsimp only
       rw [if_pos (by omega),if_pos rfl,<-HX.out]
       rcases HHit.out with ⟨rfl,h2⟩ | ⟨rfl,h2⟩
       ·exact RightV.hit hn1 HVi.out HXg.out h2
       ·refine RightV.miss hn1 HVi.out HXg.out (fun ⟨z,hz⟩=> ?_)
        rw [HKe.out] at h2
        exact h2 z ((HWL.out.2 z).2 hz.1) hz
      ·dsimp only
       rw [if_neg e]
       have h:=HVv.out p hp
       by_cases e2:p < i
       ·rw [if_pos e2] at h;rw [if_pos (by omega)];exact h
       ·rw [if_neg e2] at h;rw [if_neg (by omega)];exact h
     case measure=> simp [intOf];omega
    obtain ⟨lb1,lo1,e1,hlb,hlc1⟩:=HLS3.out k hkl
    cases e1
    obtain ⟨s,hs⟩: ∃s,s=ns.getD k ByteArray.empty:= ⟨_,rfl⟩
    rw [<-hs] at hlc1
    have hsg:ns[k]=s:=by rw [hs];simp [List.getD,hkl]
    have HSk:=Kz hsg
    have HEs:Hid (WaitsX (Q_ Kj) (Qj sl) x s):= (HWL.out.2 s).1 (by rw [<-hsg];exact List.getElem_mem hkl)
    clear hs hsg
    have hkk: (k:Int) < (ns.length:Int):=by omega
    obtain ⟨_,c1,c2,y0,y1⟩:=HC.out _ Kr3
    have HS13:Hid (∀w',K_ wr w'->w'.cell? ⟨lb,lo+k,none⟩=some (.string s)∧w'.cell? ⟨w.heap.size+1,0,none⟩=some (.slice ra rn rc)∧w'.cell? ⟨w.heap.size+1,1,none⟩=some (.slice (some ⟨rb,ro,none⟩) sl.length dc)∧Hid (NumRow w' fb sl.length (fun p=> if p=i then v else V p))):=fun w' K=> ⟨(K.cell hlb).trans hlc1,(HC.out w' (Kr3.trans K)).2.1,(HC.out w' (Kr3.trans K)).2.2.1,Kz (HF3.out.kept K)⟩
    go_upto_region 13 with fail
    clear c1 c2 y0 y1 hlc1
    by_cases hn:n=1
    ·have HN:=Kz hn
     have hn1b: ((n:Int) == 1)=true:=by simp [hn]
     have hngt: ¬((1:Int) < (n:Int)):=by omega
     clear hn
     cases heq: (s.toList == goal.toList)
     ·have HNh:Hid (¬Hit (WaitsX (Q_ Kj) (Qj sl)) goal n x s):=fun h=> by
       rcases h.2 with ⟨_,e⟩ | ⟨e,_⟩
       ·exact beq_no heq e
       ·have:=HN.out;omega
      refine Qx.rg 35 HS13.out fun wd KD Z_=> ?_
      refine Qx.tk 0 Z_ ?_
      refine Qx.tk 1 Z_ ?_
      refine Qx.tk 2 Z_ ?_
      refine Qx.tk 3 Z_ ?_
      refine Qx.tk 4 Z_ ?_
      refine Qx.tk 5 Z_ ?_
      refine Qx.tk 6 Z_ ?_
      refine Qx.tk 7 Z_ ?_
      refine Qx.tk 8 Z_ ?_
      refine Qx.tk 9 Z_ ?_
      refine Qx.tk 10 Z_ ?_
      refine Qx.tk 11 Z_ ?_
      refine Qx.tk 12 Z_ ?_
      refine Qx.tk 13 Z_ ?_
      refine Qx.un 14 Z_ ?_
      refine Qx.un 15 Z_ ?_
      refine Qx.un 16 Z_ ?_
      refine Qx.un 17 Z_ ?_
      refine Qx.un 18 Z_ ?_
      refine Qx.un 19 Z_ ?_
      refine Qx.tk 20 Z_ ?_
      refine Qx.tk 21 Z_ ?_
      refine Qx.un 22 Z_ ?_
      refine Qx.un 23 Z_ ?_
      refine Qx.un 24 Z_ ?_
      refine Qx.un 25 Z_ ?_
      refine Qx.un 26 Z_ ?_
      refine Qx.un 27 Z_ ?_
      refine Qx.un 28 Z_ ?_
      refine Qx.un 29 Z_ ?_
      refine Qx.un 30 Z_ ?_
      refine Qx.un 31 Z_ ?_
      refine Qx.un 32 Z_ ?_
      refine Qx.un 33 Z_ ?_
      refine Qx.tk 34 Z_ ?_
      refine Qx.nx 35 (fun K hK=> ?_)
      go_simp
      refine hK.out _ _ (fun h=> absurd rfl h) ?_
      clear hK K
      try simp only [Act.put,upA,upB,upC]
      refine Qx.dn ?_
      go_wp2_with fail
      go_roundw
      case rel=>
       refine ⟨k+1,v,by omega,by go_num,Kz (HF3.out.kept KD),Kz ?_,Kz (HLS3.out.kept KD),Kr3.trans KD⟩
       rcases HHit.out with h | ⟨h1,h2⟩
       ·exact .inl h
       ·refine .inr ⟨h1,fun z hz=> ?_⟩
        rw [List.take_succ_eq_append_getElem hkl,HSk.out] at hz
        rcases List.mem_append.1 hz with hz | hz
        ·exact h2 z hz
        ·rw [List.mem_singleton] at hz
         rw [hz]
         exact HNh.out
      case measure=> simp [intOf];omega
     ·have HHs:Hid (Hit (WaitsX (Q_ Kj) (Qj sl)) goal n x s):= ⟨HEs.out,.inl ⟨HN.out,beq_yes heq⟩⟩
      refine Qx.rg 35 HS13.out fun wd KD Z_=> ?_
      refine Qx.tk 0 Z_ ?_
      refine Qx.tk 1 Z_ ?_
      refine Qx.tk 2 Z_ ?_
      refine Qx.tk 3 Z_ ?_
      refine Qx.tk 4 Z_ ?_
      refine Qx.tk 5 Z_ ?_
      refine Qx.tk 6 Z_ ?_
      refine Qx.tk 7 Z_ ?_
      refine Qx.tk 8 Z_ ?_
      refine Qx.tk 9 Z_ ?_
      refine Qx.tk 10 Z_ ?_
      refine Qx.un 11 Z_ ?_
      refine Qx.un 12 Z_ ?_
      refine Qx.un 13 Z_ ?_
      refine Qx.un 14 Z_ ?_
      refine Qx.un 15 Z_ ?_
      refine Qx.un 16 Z_ ?_
      refine Qx.un 17 Z_ ?_
      refine Qx.un 18 Z_ ?_
      refine Qx.un 19 Z_ ?_
      refine Qx.un 20 Z_ ?_
      refine Qx.un 21 Z_ ?_
      refine Qx.un 22 Z_ ?_
      refine Qx.un 23 Z_ ?_
      refine Qx.un 24 Z_ ?_
      refine Qx.un 25 Z_ ?_
      refine Qx.un 26 Z_ ?_
      refine Qx.un 27 Z_ ?_
      refine Qx.un 28 Z_ ?_
      refine Qx.un 29 Z_ ?_
      refine Qx.un 30 Z_ ?_
      refine Qx.un 31 Z_ ?_
      refine Qx.un 32 Z_ ?_
      refine Qx.un 33 Z_ ?_
      refine Qx.un 34 Z_ ?_
      refine Qx.nx 35 (fun K hK=> ?_)
      go_simp
      refine hK.out _ _ (fun h=> absurd rfl h) ?_
      clear hK K
      try simp only [Act.put,upA,upB,upC]
      refine Qx.dn ?_
      have HFw:=Kz (HF3.out.kept KD)
      have HLw:=Kz (HLS3.out.kept KD)
      have hold:=World.rowIs.cell HFw.out hil
      have hfz:=World.rowIs.frozen HFw.out i
      have fz:=HFw.out.lt
      dsimp only at hold
      rw [if_pos rfl] at hold
      go_wp2_with fail
      go_roundw
      case rel=>
       refine ⟨k+1,n,by omega,by go_num,Kz ?_,Kz (.inl ⟨rfl,s,HHs.out⟩),Kz (HFw.out.strs HLw.out i _),Below.setCell (Kr3.trans KD) (p:= ⟨fb,i,none⟩) hfw _⟩
       exact World.rowIs.congr (HFw.out.put i n) (fun p hp=> by by_cases e:p=i <;> simp [e])
      case measure=> simp [intOf];omega
    ·have HN:=Kz hn
     have hn1b: ((n:Int) == 1)=false:=by simp;omega
     have hngt: (1:Int) < (n:Int):=by omega
     clear hn
     by_cases hgt:lessX goal s
     ·have hwn:IntKind.i64.wrap ((n:Int) - 1)= (n:Int) - 1:=by rw [IntKind.wrap_i64];omega
      have HGt:Hid (lessX goal s):=hgt
      have hl1:Op.bytesLess s.toList goal.toList=false:=by
       cases h:Op.bytesLess s.toList goal.toList
       ·rfl
       ·exact absurd (show lessX s goal from h) (lessX_asymm hgt)
      have he1: (s.toList == goal.toList)=false:=by
       cases h: (s.toList == goal.toList)
       ·rfl
       ·exact absurd hgt (by rw [beq_yes h];exact lessX_irrefl _)
      clear hgt
      refine Qx.rg 35 HS13.out fun wd KD Z_=> ?_
      refine Qx.tk 0 Z_ ?_
      refine Qx.tk 1 Z_ ?_
      refine Qx.tk 2 Z_ ?_
      refine Qx.un 3 Z_ ?_
      refine Qx.un 4 Z_ ?_
      refine Qx.un 5 Z_ ?_
      refine Qx.un 6 Z_ ?_
      refine Qx.un 7 Z_ ?_
      refine Qx.un 8 Z_ ?_
      refine Qx.tk 9 Z_ ?_
      refine Qx.tk 10 Z_ ?_
      refine Qx.tk 11 Z_ ?_
      refine Qx.tk 12 Z_ ?_
      refine Qx.tk 13 Z_ ?_
      refine Qx.tk 14 Z_ ?_
      refine Qx.tk 15 Z_ ?_
      refine Qx.tk 16 Z_ ?_
      refine Qx.tk 17 Z_ ?_
      refine Qx.tk 18 Z_ ?_
      refine Qx.tk 19 Z_ ?_
      refine Qx.tk 20 Z_ ?_
      refine Qx.tk 21 Z_ ?_
      refine Qx.tk 22 Z_ ?_
      refine Qx.tk 23 Z_ ?_
      refine Qx.tk 24 Z_ ?_
      refine Qx.tk 25 Z_ ?_
      refine Qx.tk 26 Z_ ?_
      refine Qx.tk 27 Z_ ?_
      refine Qx.tk 31 Z_ ?_
      refine Qx.tk 32 Z_ ?_
      refine Qx.nx 28 (fun K hK=> ?_)
      rw [if_pos (by rfl)]
      go_simp
      go_at_call 58
      refine (l4At_place wd ra rn rc (some ⟨rb,ro,none⟩) dc sl s hsl (hS.kept (HKB.out.trans (Kr3.trans KD)))).mono ?_
      rintro e w3 ⟨⟨q,rfl,hq⟩,k3⟩
      have K3:=KD.trans k3
      obtain ⟨k',hk',rfl,henv',hkn'⟩: ∃k':Nat,k' < sl.length∧q= (k':Int)∧Qj sl s=some (sl.getD k' Qz.zero)∧(sl.getD k' Qz.zero).name=s:=by
       rcases hq with ⟨k',h1,h2,h3,h4⟩ | ⟨_,h1⟩
       ·exact ⟨k',h1,h2,h3,h4⟩
       ·obtain ⟨_,_,_,_,_,_,_,y,hy,_⟩:=HEs.out
        rw [h1] at hy
        cases hy
      clear hq
      have hfk:=World.rowIs.cell (HF3.out.kept K3) hk'
      dsimp only at hfk
      have fz3:= (HF3.out.kept K3).lt
      have hki': (k':Int) < (sl.length:Int):=by omega
      have hk0: (0:Int)<=(k':Int):=by omega
      obtain ⟨q,hqq⟩: ∃q,q= (if k'=i then v else V k'):= ⟨_,rfl⟩
      rw [<-hqq] at hfk
      have HQ:Hid (q=n - 1↔FarR (WaitsX (Q_ Kj) (Qj sl)) goal (n - 1) s):=by
       show q=n - 1↔_
       by_cases e:k'=i
       ·have hsx:s=x:=by rw [HX.out,<-e];exact hkn'.symm
        rw [hqq,if_pos e,hsx]
        refine ⟨fun h=> ?_,fun h=> ?_⟩
        ·rcases HHit.out with ⟨h1,_⟩ | ⟨h1,_⟩ <;> omega
        ·have:= (HVi.out.2 HXg.out).2 (n - 1) (by omega) h
         have:=h.1.pos
         omega
       ·rw [hqq,if_neg e]
        have h:=HVv.out k' hk'
        have e2:runN sl k'=s:=hkn'
        rw [e2] at h
        exact h.ask HGt.out (by omega) (by split <;> omega)
      have HQQ:=Kz hqq
      clear hqq henv' hkn'
      dsimp only
      refine hK.out _ _ (fun _=> HS13.out _ K3) ?_
      clear hK K
      try simp only [Act.put,upA,upB,upC]
      clear Z_
      have Z_:=HS13.out _ K3
      by_cases hqn:q=n - 1
      ·have hqb: ((q:Int) == (n:Int) - 1)=true:=by simp;omega
       have HHs:Hid (Hit (WaitsX (Q_ Kj) (Qj sl)) goal n x s):= ⟨HEs.out,.inr ⟨by omega,HGt.out,HQ.out.1 hqn⟩⟩
       clear hqn
       refine Qx.tk 29 Z_ ?_
       refine Qx.take 30 [33,34,35] (v:= ?_) (by (simp only [List.getElem?_toArray,List.getElem?_cons_succ,List.getElem?_cons_zero];rfl)) (by kernel_rfl) (by kernel_rfl) (by kernel_rfl) (by kernel_rfl) (by exact fun _ _ _ h=> h) (Or.inl ⟨by rfl, ?_⟩) Z_ ?_
       rotate_left
       ·intro u hu
        try dsimp only at hu
        have f9:=World.rowIs.cell hu.2.2.2.out hk'
        try dsimp only at f9
        rw [<-HQQ.out] at f9
        go_simp
        try with_reducible rfl
       try simp only [Act.put,upA,upB,upC]
       refine Qx.tk 33 Z_ ?_
       refine Qx.tk 34 Z_ ?_
       refine Qx.nx 35 (fun K hK=> ?_)
       go_simp
       refine hK.out _ _ (fun h=> absurd rfl h) ?_
       clear hK K
       try simp only [Act.put,upA,upB,upC]
       refine Qx.dn ?_
       clear Z_ hfk
       have HFw:=Kz (HF3.out.kept K3)
       have HLw:=Kz (HLS3.out.kept K3)
       have hold:=World.rowIs.cell HFw.out hil
       have hfz:=World.rowIs.frozen HFw.out i
       have fz:=HFw.out.lt
       dsimp only at hold
       rw [if_pos rfl] at hold
       go_wp2_with fail
       go_roundw
       case rel=>
        refine ⟨k+1,n,by omega,by go_num,Kz ?_,Kz (.inl ⟨rfl,s,HHs.out⟩),Kz (HFw.out.strs HLw.out i _),Below.setCell (Kr3.trans K3) (p:= ⟨fb,i,none⟩) hfw _⟩
        exact World.rowIs.congr (HFw.out.put i n) (fun p hp=> by by_cases e:p=i <;> simp [e])
       case measure=> simp [intOf];omega
      ·have hqb: ((q:Int) == (n:Int) - 1)=false:=by simp;omega
       have HNh:Hid (¬Hit (WaitsX (Q_ Kj) (Qj sl)) goal n x s):=fun h=> by
        rcases h.2 with ⟨e,_⟩ | ⟨_,_,e⟩
        ·exact HN.out e
        ·exact hqn (HQ.out.2 e)
       clear hqn
       refine Qx.tk 29 Z_ ?_
       refine Qx.take 30 [33,34,35] (v:= ?_) (by (simp only [List.getElem?_toArray,List.getElem?_cons_succ,List.getElem?_cons_zero];rfl)) (by kernel_rfl) (by kernel_rfl) (by kernel_rfl) (by kernel_rfl) (by exact fun _ _ _ h=> h) (Or.inl ⟨by rfl, ?_⟩) Z_ ?_
       rotate_left
       ·intro u hu
        try dsimp only at hu
        have f9:=World.rowIs.cell hu.2.2.2.out hk'
        try dsimp only at f9
        rw [<-HQQ.out] at f9
        go_simp
        try with_reducible rfl
       try simp only [Act.put,upA,upB,upC]
       refine Qx.tk 33 Z_ ?_
       refine Qx.tk 34 Z_ ?_
       refine Qx.nx 35 (fun K hK=> ?_)
       go_simp
       refine hK.out _ _ (fun h=> absurd rfl h) ?_
       clear hK K
       try simp only [Act.put,upA,upB,upC]
       refine Qx.dn ?_
       clear Z_ hfk
       go_wp2_with fail
       go_roundw
       case rel=>
        refine ⟨k+1,v,by omega,by go_num,Kz (HF3.out.kept K3),Kz ?_,Kz (HLS3.out.kept K3),Kr3.trans K3⟩
        rcases HHit.out with h | ⟨h1,h2⟩
        ·exact .inl h
        ·refine .inr ⟨h1,fun z hz=> ?_⟩
         rw [List.take_succ_eq_append_getElem hkl,HSk.out] at hz
         rcases List.mem_append.1 hz with hz | hz
         ·exact h2 z hz
         ·rw [List.mem_singleton] at hz
          rw [hz]
          exact HNh.out
       case measure=> simp [intOf];omega
     ·have HNg:=Kz hgt
      have hcs:Op.bytesLess s.toList goal.toList=true∨(Op.bytesLess s.toList goal.toList=false∧(s.toList == goal.toList)=true):=by
       rcases lessX_total s goal with h | h | h
       ·exact .inl h
       ·right
        subst h
        exact ⟨by cases h2:Op.bytesLess s.toList s.toList;rfl;exact absurd (show lessX s s from h2) (lessX_irrefl s),by simp⟩
       ·exact absurd h hgt
      clear hgt
      rcases hcs with hl1 | ⟨hl1,he1⟩
      ·have HNh:Hid (¬Hit (WaitsX (Q_ Kj) (Qj sl)) goal n x s):=fun h=> by
        rcases h.2 with ⟨e,_⟩ | ⟨_,e,_⟩
        ·exact HN.out e
        ·exact HNg.out e
       refine Qx.rg 35 HS13.out fun wd KD Z_=> ?_
       refine Qx.tk 0 Z_ ?_
       refine Qx.tk 1 Z_ ?_
       refine Qx.tk 2 Z_ ?_
       refine Qx.un 3 Z_ ?_
       refine Qx.un 4 Z_ ?_
       refine Qx.un 5 Z_ ?_
       refine Qx.un 6 Z_ ?_
       refine Qx.un 7 Z_ ?_
       refine Qx.un 8 Z_ ?_
       refine Qx.tk 9 Z_ ?_
       refine Qx.tk 10 Z_ ?_
       refine Qx.tk 11 Z_ ?_
       refine Qx.tk 12 Z_ ?_
       refine Qx.tk 13 Z_ ?_
       refine Qx.tk 14 Z_ ?_
       refine Qx.tk 15 Z_ ?_
       refine Qx.tk 16 Z_ ?_
       refine Qx.tk 17 Z_ ?_
       refine Qx.tk 18 Z_ ?_
       refine Qx.tk 19 Z_ ?_
       refine Qx.tk 20 Z_ ?_
       refine Qx.tk 21 Z_ ?_
       refine Qx.un 22 Z_ ?_
       refine Qx.un 23 Z_ ?_
       refine Qx.un 24 Z_ ?_
       refine Qx.un 25 Z_ ?_
       refine Qx.un 26 Z_ ?_
       refine Qx.un 27 Z_ ?_
       refine Qx.un 28 Z_ ?_
       refine Qx.un 29 Z_ ?_
       refine Qx.un 30 Z_ ?_
       refine Qx.un 31 Z_ ?_
       refine Qx.un 32 Z_ ?_
       refine Qx.un 33 Z_ ?_
       refine Qx.tk 34 Z_ ?_
       refine Qx.nx 35 (fun K hK=> ?_)
       go_simp
       refine hK.out _ _ (fun h=> absurd rfl h) ?_
       clear hK K
       try simp only [Act.put,upA,upB,upC]
       refine Qx.dn ?_
       go_wp2_with fail
       go_roundw
       case rel=>
        refine ⟨k+1,v,by omega,by go_num,Kz (HF3.out.kept KD),Kz ?_,Kz (HLS3.out.kept KD),Kr3.trans KD⟩
        rcases HHit.out with h | ⟨h1,h2⟩
        ·exact .inl h
        ·refine .inr ⟨h1,fun z hz=> ?_⟩
         rw [List.take_succ_eq_append_getElem hkl,HSk.out] at hz
         rcases List.mem_append.1 hz with hz | hz
         ·exact h2 z hz
         ·rw [List.mem_singleton] at hz
          rw [hz]
          exact HNh.out
       case measure=> simp [intOf];omega
      ·have HNh:Hid (¬Hit (WaitsX (Q_ Kj) (Qj sl)) goal n x s):=fun h=> by
        rcases h.2 with ⟨e,_⟩ | ⟨_,e,_⟩
        ·exact HN.out e
        ·exact HNg.out e
       refine Qx.rg 35 HS13.out fun wd KD Z_=> ?_
       refine Qx.tk 0 Z_ ?_
       refine Qx.tk 1 Z_ ?_
       refine Qx.tk 2 Z_ ?_
       refine Qx.un 3 Z_ ?_
       refine Qx.un 4 Z_ ?_
       refine Qx.un 5 Z_ ?_
       refine Qx.un 6 Z_ ?_
       refine Qx.un 7 Z_ ?_
       refine Qx.un 8 Z_ ?_
       refine Qx.tk 9 Z_ ?_
       refine Qx.tk 10 Z_ ?_
       refine Qx.tk 11 Z_ ?_
       refine Qx.tk 12 Z_ ?_
       refine Qx.tk 13 Z_ ?_
       refine Qx.tk 14 Z_ ?_
       refine Qx.tk 15 Z_ ?_
       refine Qx.tk 16 Z_ ?_
       refine Qx.tk 17 Z_ ?_
       refine Qx.tk 18 Z_ ?_
       refine Qx.tk 19 Z_ ?_
       refine Qx.tk 20 Z_ ?_
       refine Qx.tk 21 Z_ ?_
       refine Qx.un 22 Z_ ?_
       refine Qx.un 23 Z_ ?_
       refine Qx.un 24 Z_ ?_
       refine Qx.un 25 Z_ ?_
       refine Qx.un 26 Z_ ?_
       refine Qx.un 27 Z_ ?_
       refine Qx.un 28 Z_ ?_
       refine Qx.un 29 Z_ ?_
       refine Qx.un 30 Z_ ?_
       refine Qx.un 31 Z_ ?_
       refine Qx.un 32 Z_ ?_
       refine Qx.un 33 Z_ ?_
       refine Qx.tk 34 Z_ ?_
       refine Qx.nx 35 (fun K hK=> ?_)
       go_simp
       refine hK.out _ _ (fun h=> absurd rfl h) ?_
       clear hK K
       try simp only [Act.put,upA,upB,upC]
       refine Qx.dn ?_
       go_wp2_with fail
       go_roundw
       case rel=>
        refine ⟨k+1,v,by omega,by go_num,Kz (HF3.out.kept KD),Kz ?_,Kz (HLS3.out.kept KD),Kr3.trans KD⟩
        rcases HHit.out with h | ⟨h1,h2⟩
        ·exact .inl h
        ·refine .inr ⟨h1,fun z hz=> ?_⟩
         rw [List.take_succ_eq_append_getElem hkl,HSk.out] at hz
         rcases List.mem_append.1 hz with hz | hz
         ·exact h2 z hz
         ·rw [List.mem_singleton] at hz
          rw [hz]
          exact HNh.out
       case measure=> simp [intOf];omega
theorem waits_name {Kj:List Qq} {sl:List Qz} (x y:ByteArray) (h:WaitsX (Q_ Kj) (Qj sl) x y):x∈sl.map (·.name):=by
 obtain ⟨r,A,h1,_⟩:=h
 have h2:=env_mem h1
 rw [<-h2.2]
 exact List.mem_map.2 ⟨r,h2.1,rfl⟩
theorem ascX_before {sl:List Qz} (ha:AscX sl) {i:Nat} (hi:i < sl.length) {x:ByteArray} (hx:x=runN sl i): ∀y∈(sl.take i).map (·.name),lessX y x:=fun y hy=> by
 obtain ⟨r,hr,rfl⟩:=List.mem_map.1 hy
 obtain ⟨j,hj,rfl⟩:=List.mem_take_iff_getElem.1 hr
 have hji:j < i:=by omega
 rw [hx,show runN sl i=sl[i].name by simp [runN,List.getD,hi]]
 exact List.pairwise_iff_getElem.1 ha j i (by omega) hi hji
def CircEnd (Kj:List Qq) (sl:List Qz) (w w':World) (e:Ending):Prop:= ∃av cv ns,e= .returned (.slice av ns.length cv)∧ns.length<=cv∧Strs w' av ns∧BestR (WaitsX (Q_ Kj) (Qj sl)) (sl.map (·.name)) ns∧K_ w w'
theorem l6Circle_any (w:World) (a:Option Addr) (cap:Nat) (Kj:List Qq) (ra:Option Addr) (rn rc:Nat) (d:Option Addr) (dc:Nat) (sl:List Qz) (hwl:Kj.length<=1048576) (hs6:sl.length<=1000) (hok:ActsOk (Q_ Kj)) (hg:GoodL Kj sl) (hN:Nodes w a Kj) (hS:RunsX w d sl):
  Calls Tryz.prog 45 #[.agg #[.slice a Kj.length cap],.agg #[.slice ra rn rc,.slice d sl.length dc]] w fun e w'=> CircEnd Kj sl w w' e:=by
 obtain ⟨WB,hWB⟩: ∃WB,WB= (w.alloc (.cells #[.slice a Kj.length cap] 37)).alloc (.cells #[.slice ra rn rc,.slice d sl.length dc] 41):= ⟨_,rfl⟩
 have kB:K_ w WB:=by rw [hWB];exact ((K_.refl _).alloc _).alloc _
 have hBs:WB.heap.size=w.heap.size+2:=by rw [hWB];simp
 have b0:WB.cell? ⟨w.heap.size,0,none⟩=some (.slice a Kj.length cap):=by rw [hWB,K_.cell (w:=w.alloc (.cells #[.slice a Kj.length cap] 37)) ((K_.refl _).alloc _) (by simp)];exact Xz w _ _ 0 _ rfl
 have s0:WB.cell? ⟨w.heap.size+1,0,none⟩=some (.slice ra rn rc):=by have:=Xz (w.alloc (.cells #[.slice a Kj.length cap] 37)) #[.slice ra rn rc,.slice d sl.length dc] 41 0 _ rfl;rw [World.size_alloc] at this;rw [hWB];exact this
 have s1:WB.cell? ⟨w.heap.size+1,1,none⟩=some (.slice d sl.length dc):=by have:=Xz (w.alloc (.cells #[.slice a Kj.length cap] 37)) #[.slice ra rn rc,.slice d sl.length dc] 41 1 _ rfl;rw [World.size_alloc] at this;rw [hWB];exact this
 have z0:w.heap.size < WB.heap.size:=by omega
 have z1:w.heap.size+1 < WB.heap.size:=by omega
 have HC:Hid (∀w',K_ WB w'->w'.cell? ⟨w.heap.size,0,none⟩=some (.slice a Kj.length cap)∧w'.cell? ⟨w.heap.size+1,0,none⟩=some (.slice ra rn rc)∧w'.cell? ⟨w.heap.size+1,1,none⟩=some (.slice d sl.length dc)∧w.heap.size < w'.heap.size∧w.heap.size+1 < w'.heap.size):=fun w' K=> ⟨(K.cell z0).trans b0,(K.cell z1).trans s0,(K.cell z1).trans s1,Nat.lt_of_lt_of_le z0 K.size,Nat.lt_of_lt_of_le z1 K.size⟩
 have hsl:sl.length<=1048576:=by omega
 obtain ⟨ic,hc0,hc1,hc2,hc3⟩:=xInfo_parts Tryz.xInfoStr
 obtain ⟨W0,hW0⟩: ∃W0,W0=WB.alloc (.cells #[] 9):= ⟨_,rfl⟩
 have k0:K_ WB W0:=by rw [hW0];exact (K_.refl _).alloc _
 have HKB:=Kz kB
 have HGd:=Kz hg
 clear kB hBs hg
 go_enter Tryz.func45,Tryz.ntmps45
 go_upto_region 1 with fail
 rw [<-hWB]
 clear hWB
 go_wp2
 rw [<-hW0]
 clear hW0 b0 s0 s1
 go_loopw [5,6] (fun x5 x6 wr=> ∃(i:Nat) (av:Option Addr) (cv:Nat) (best:List ByteArray),i<=sl.length∧x6= .int .i64 (i:Int)∧x5= .slice av best.length cv∧best.length<=cv∧Hid (Strs wr av best)∧Hid (BestR (WaitsX (Q_ Kj) (Qj sl)) ((sl.take i).map (·.name)) best)∧K_ WB wr) (fun _ x6 _=> sl.length - (intOf x6).toNat)
 case atStart=> exact ⟨0,_,_,[],Nat.zero_le _,rfl,rfl,Nat.zero_le _,Kz (fun q hq=> absurd hq (Nat.not_lt_zero q)),Kz (BestR.start _),k0⟩
 case round=>
  clear k0
  obtain ⟨i,av,cv,best,hi,rfl,rfl,hbc,HB,HR,Kr⟩:=hrel
  obtain ⟨c0,c1,c2,y0,y1⟩:=HC.out _ Kr
  by_cases hil:i < sl.length
  rotate_left
  ·have hie:i=sl.length:=by omega
   have HIe:=Kz hie
   have hgi: ¬((i:Int) < (sl.length:Int)):=by omega
   clear hie
   go_wp2_with fail
   go_ret
   refine ⟨av,cv,best,rfl,hbc,HB.out, ?_,HKB.out.trans Kr⟩
   have h:=HR.out
   rw [HIe.out,List.take_length] at h
   exact h
  have hii: (i:Int) < (sl.length:Int):=by omega
  obtain ⟨rb,ro,xa,xc,e1,hrb,hrc,_,_⟩:= (hS.kept (HKB.out.trans Kr)) i hil
  subst e1
  obtain ⟨x,hx⟩: ∃x,x=runN sl i:= ⟨_,rfl⟩
  have t0:=hrc 0 _ rfl
  rw [Nat.add_zero] at t0
  have t0':wr.cell? ⟨rb,ro+i * 7,none⟩=some (.string x):=by rw [hx];exact t0
  clear t0 hrc
  have t0:=t0'
  clear t0'
  have HX:=Kz hx
  clear hx
  go_wp2_with fail
  refine (l6Far_any wr a cap Kj ra rn rc (some ⟨rb,ro,none⟩) dc sl x hwl hs6 hok HGd.out (hN.kept (HKB.out.trans Kr)) (hS.kept (HKB.out.trans Kr))).mono ?_
  rintro e w2 ⟨fb,V,rfl,hF,hV,k2⟩
  have HF:=Kz hF
  have HV:=Kz hV
  have K2:=Kr.trans k2
  clear hF hV c0 c1 c2 t0
  dsimp only
  have HWh:Hid ((V i≠0->FarR (WaitsX (Q_ Kj) (Qj sl)) x (V i) x)∧∀m,FarR (WaitsX (Q_ Kj) (Qj sl)) x m x->V i=m):=by
   have h:=HV.out i hil
   rw [<-HX.out] at h
   exact RightV.whole (names:=sl.map (·.name)) waits_name (by rw [List.length_map];exact h) (lessX_irrefl x)
  have f0:=World.rowIs.cell HF.out hil
  try dsimp only at f0
  have fz:=HF.out.lt
  have HB2:=Kz (HB.out.kept k2)
  have HTk:Hid ((sl.take (i+1)).map (·.name)= (sl.take i).map (·.name)++ [x]):=by
   show _=_
   rw [List.take_succ_eq_append_getElem hil,List.map_append,HX.out]
   simp [runN,List.getD,hil]
  have HLt:Hid (∀y∈(sl.take i).map (·.name),lessX y x):=ascX_before HGd.out.asc hil HX.out
  obtain ⟨v,hv⟩: ∃v,v=V i:= ⟨_,rfl⟩
  rw [<-hv] at f0 HWh
  have HVv:=Kz hv
  clear hv HB k2
  by_cases hskip:v=0∨(0 < best.length∧best.length<=v)
  ·have HSk:Hid (∀n,FarR (WaitsX (Q_ Kj) (Qj sl)) x n x->best≠[]∧best.length<=n):=fun n hn=> by
    have e:=HWh.out.2 n hn
    have hp:=hn.1.pos
    rcases hskip with h | ⟨h1,h2⟩
    ·omega
    ·exact ⟨fun e0=> by rw [e0] at h1;simp at h1,by omega⟩
   have hsk2: ((v:Int) == 0)=true∨(((v:Int) == 0)=false∧(0:Int) < (best.length:Int)∧(best.length:Int)<=(v:Int)):=by
    by_cases h0:v=0
    ·exact .inl (by simp [h0])
    ·refine .inr ⟨by simp;omega, ?_⟩
     rcases hskip with h | ⟨h1,h2⟩
     ·exact absurd h h0
     ·omega
   clear hskip
   rcases hsk2 with h0 | ⟨h0,h1,h2⟩
   all_goals
    go_wp2_with fail
    go_roundw
    case rel=> exact ⟨i+1,av,cv,best,by omega,by go_num,rfl,hbc,HB2,Kz (by rw [HTk.out];exact BestR.skip HR.out HSk.out HLt.out),K2⟩
    case measure=> simp [intOf];omega
  have hv0:v≠0:=fun h=> hskip (.inl h)
  have HFv:=Kz (HWh.out.1 hv0)
  have HBv:Hid (best=[]∨v < best.length):=by
   by_cases h:best.length=0
   ·exact .inl (List.eq_nil_of_length_eq_zero h)
   ·refine .inr ?_
    have h2: ¬(0 < best.length∧best.length<=v):=fun h2=> hskip (.inr h2)
    omega
  have hgo: ((v:Int) == 0)=false∧(¬((0:Int) < (best.length:Int))∨((0:Int) < (best.length:Int)∧¬((best.length:Int)<=(v:Int)))):=by
   refine ⟨by simp;omega, ?_⟩
   have h2: ¬(0 < best.length∧best.length<=v):=fun h2=> hskip (.inr h2)
   omega
  have hvs:v<=sl.length:=by have:= (HFv.out).bound (names:=sl.map (·.name)) waits_name;rwa [List.length_map] at this
  clear hskip
  obtain ⟨W3,hW3⟩: ∃W3,W3=w2.alloc (.cells #[.string x] 9):= ⟨_,rfl⟩
  have K3:K_ w2 W3:=by rw [hW3];exact (K_.refl _).alloc _
  have HO3:Hid (W3.ownsRow w2.heap.size 9 1 (.slice (some ⟨w2.heap.size,0,none⟩) 1 1) [x].length ([x].map Value.string)):=by
   rw [hW3]
   exact ⟨rfl,.inr ⟨w2.heap.size,1,_,rfl,Nat.le_refl _,heap_alloc_new w2 _,Nat.le_refl _,by unfold maxLen;omega,rfl,rfl⟩⟩
  obtain ⟨h0,h12⟩:=hgo
  rcases h12 with h1 | ⟨h1,h2⟩
  all_goals
   go_upto_region 10 with fail
   rw [<-hW3]
   clear hW3
   go_loopg [10] v (fun gg x10 wr=> ∃(lst:List ByteArray) (a':ByteArray) (lv:Option Addr) (lc:Nat),x10= .slice lv lst.length lc∧Hid (PartR (WaitsX (Q_ Kj) (Qj sl)) x v lst a' gg)∧Hid (wr.ownsRow w2.heap.size 9 1 (.slice lv lst.length lc) lst.length (lst.map Value.string))∧K_ w2 wr)
   case atStart=> exact ⟨[x],x,_,_,rfl,Kz (PartR.start HFv.out),HO3,K3⟩
   case round=>
    obtain ⟨lst,a',lv,lc,rfl,HP,HO,Kw⟩:=hrel
    have hlen:=HP.out.len
    have hpos:=HP.out.pos
    by_cases hend:gk=1
    ·have hnlt: ¬((lst.length:Int) < (v:Int)):=by omega
     have HCi:Hid (CircR (WaitsX (Q_ Kj) (Qj sl)) x v x lst):=by have h:=HP.out;rw [hend] at h;exact h.done
     clear hend hlen hpos
     obtain ⟨a9,c9,e9,h9⟩:=owned_strs HO.out
     simp only [Value.slice.injEq,true_and] at e9
     rw [<-e9.1] at h9
     have H9:=Kz h9
     have HLc:Hid (lst.length<=lc):=by
      rcases HO.out.2 with ⟨e,h⟩ | ⟨_,_,_,e,_,_,h,_⟩
      ·simp only [Value.slice.injEq] at e;show lst.length<=lc;omega
      ·simp only [Value.slice.injEq] at e;show lst.length<=lc;omega
     clear e9 h9
     go_wp2_with fail
     go_roundw
     case rel=> exact ⟨i+1,lv,lc,lst,by omega,by go_num,rfl,HLc.out,H9,Kz (by rw [HTk.out];exact BestR.take HR.out HFv.out HCi.out HBv.out),K2.trans Kw⟩
     case measure=> simp [intOf];omega
    obtain ⟨q,hq⟩: ∃q,gk=q+1:= ⟨gk - 1,by omega⟩
    have hq1:1<=q:=by omega
    have HPq:Hid (PartR (WaitsX (Q_ Kj) (Qj sl)) x v lst a' (q+1)):=by have h:=HP.out;rw [hq] at h;exact h
    have HQ:=Kz hq
    have hlv: (lst.length:Int) < (v:Int):=by omega
    obtain ⟨m,hm⟩: ∃m,lst.length=m+1:= ⟨lst.length - 1,by have h:=HP.out.last;obtain ⟨l0,e⟩:=h;rw [e];simp⟩
    have hsub: (lst.length:Int) - 1= (m:Int):=by omega
    have hwr:IntKind.i64.wrap (m:Int)= (m:Int):=by rw [IntKind.wrap_i64];omega
    have him: (m:Int) < (lst.length:Int):=by omega
    have hlast:lst.getD m ByteArray.empty=a':=by
     obtain ⟨l0,e⟩:=HP.out.last
     have e2:m=l0.length:=by rw [e,List.length_append] at hm;simp at hm;omega
     rw [e,e2]
     simp [List.getD]
    obtain ⟨a9,c9,e9,h9⟩:=owned_strs HO.out
    simp only [Value.slice.injEq,true_and] at e9
    rw [<-e9.1] at h9
    obtain ⟨lb,lo,e1,hlb,hlc⟩:=h9 m (by omega)
    rw [hlast] at hlc
    subst e1
    have HLs:=Kz hlast
    have HM:=Kz hm
    clear e9 h9 hq hlast hm hend hlen hpos
    have HS11:Hid (∀u,K_ wr u->(u.cell? ⟨w.heap.size,0,none⟩=some (.slice a Kj.length cap)∧u.cell? ⟨w.heap.size+1,0,none⟩=some (.slice ra rn rc)∧u.cell? ⟨w.heap.size+1,1,none⟩=some (.slice (some ⟨rb,ro,none⟩) sl.length dc)∧u.cell? ⟨lb,lo+m,none⟩=some (.string a'))):=fun u K=> ⟨(HC.out u (K2.trans (Kw.trans K))).1,(HC.out u (K2.trans (Kw.trans K))).2.1,(HC.out u (K2.trans (Kw.trans K))).2.2.1,(K.cell hlb).trans hlc⟩
    go_upto_region 11 with fail
    refine Qx.rg 9 HS11.out fun wd KD Z_=> ?_
    refine Qx.tk 0 Z_ ?_
    refine Qx.tk 1 Z_ ?_
    refine Qx.tk 2 Z_ ?_
    refine Qx.tk 3 Z_ ?_
    refine Qx.tk 4 Z_ ?_
    refine Qx.tk 5 Z_ ?_
    refine Qx.tk 6 Z_ ?_
    refine Qx.tk 7 Z_ ?_
    refine Qx.nx 8 (fun K hK=> ?_)
    rw [if_pos (by rfl)]
    go_simp
    go_at_call 89
    refine (l6Waits_any wd a cap Kj ra rn rc (some ⟨rb,ro,none⟩) dc sl a' hwl hsl hok HGd.out (hN.kept (HKB.out.trans (K2.trans (Kw.trans KD)))) (hS.kept (HKB.out.trans (K2.trans (Kw.trans KD))))).mono ?_
    rintro e w4 ⟨⟨nb,no,nc,ns,rfl,hnc,hnS,hWL⟩,k4⟩
    have K4:=KD.trans k4
    dsimp only
    refine hK.out _ _ (fun _=> HS11.out _ K4) ?_
    clear hK K Z_
    try simp only [Act.put,upA,upB,upC]
    refine Qx.nx 9 (fun K hK=> ?_)
    go_simp
    refine hK.out _ _ (fun h=> absurd rfl h) ?_
    clear hK K
    try simp only [Act.put,upA,upB,upC]
    refine Qx.dn ?_
    have HWL:=Kz hWL
    have HNS:=Kz hnS
    have HO4:=Kz (ownsRow_kept' HO.out K4)
    have HF4:=Kz (HF.out.kept (Kw.trans K4))
    have Kw4:=Kw.trans K4
    have hl5:=hWL.len hok HGd.out.env
    clear hWL hnS HS11 hsub hwr him hlc k4 hlb
    go_wp2_with fail
    go_loopw [10,12] (fun x10 x12 wr=> ∃k:Nat,k<=ns.length∧x12= .int .i64 (k:Int)∧x10= .slice (some ⟨lb,lo,none⟩) lst.length lc∧Hid (∀y∈ns.take k,¬(WaitsX (Q_ Kj) (Qj sl) a' y∧lessX x y∧FarR (WaitsX (Q_ Kj) (Qj sl)) x q y))∧K_ w4 wr) (fun _ x12 _=> ns.length - (intOf x12).toNat)
    case atStart=> exact ⟨0,Nat.zero_le _,rfl,rfl,Kz (fun y hy=> by simp at hy),K_.refl _⟩
    case round=>
     obtain ⟨k,hk,rfl,rfl,HNo,Kn⟩:=hrel
     by_cases hkl:k < ns.length
     rotate_left
     ·exfalso
      obtain ⟨y,h1,h2,h3⟩:=HPq.out.more hq1
      have hy:y∈ns:= (HWL.out.2 y).2 h1
      refine HNo.out y ?_ ⟨h1,h2,h3⟩
      rw [List.take_of_length_le (by omega)]
      exact hy
     obtain ⟨lb1,lo1,e1,hlb1,hlc1⟩:= (HNS.out.kept Kn) k hkl
     cases e1
     obtain ⟨s,hs⟩: ∃s,s=ns.getD k ByteArray.empty:= ⟨_,rfl⟩
     rw [<-hs] at hlc1
     have hsg:ns[k]=s:=by rw [hs];simp [List.getD,hkl]
     have HSk:=Kz hsg
     have HEs:Hid (WaitsX (Q_ Kj) (Qj sl) a' s):= (HWL.out.2 s).1 (by rw [<-hsg];exact List.getElem_mem hkl)
     clear hs hsg
     have hkk: (k:Int) < (ns.length:Int):=by omega
     have HS15:Hid (∀u,K_ wr u->(u.cell? ⟨nb,no+k,none⟩=some (.string s)∧u.cell? ⟨w.heap.size+1,0,none⟩=some (.slice ra rn rc)∧u.cell? ⟨w.heap.size+1,1,none⟩=some (.slice (some ⟨rb,ro,none⟩) sl.length dc)∧Hid (NumRow u fb sl.length V))):=fun u K=> ⟨(K.cell hlb1).trans hlc1,(HC.out u (K2.trans (Kw4.trans (Kn.trans K)))).2.1,(HC.out u (K2.trans (Kw4.trans (Kn.trans K)))).2.2.1,Kz (HF4.out.kept (Kn.trans K))⟩
     go_upto_region 15 with fail
     clear hlc1
     by_cases hgt:lessX x s
     rotate_left
     ·have HNg:=Kz hgt
      have hcs:Op.bytesLess s.toList x.toList=true∨(Op.bytesLess s.toList x.toList=false∧(s.toList == x.toList)=true):=by
       rcases lessX_total s x with h | h | h
       ·exact .inl h
       ·right
        rw [h]
        exact ⟨by cases h2:Op.bytesLess x.toList x.toList;rfl;exact absurd (show lessX x x from h2) (lessX_irrefl x),by simp⟩
       ·exact absurd h hgt
      clear hgt
      rcases hcs with hl1 | ⟨hl1,he1⟩
      all_goals
       refine Qx.rg 21 HS15.out fun wd KD Z_=> ?_
       refine Qx.tk 0 Z_ ?_
       refine Qx.tk 1 Z_ ?_
       refine Qx.tk 2 Z_ ?_
       refine Qx.tk 3 Z_ ?_
       refine Qx.tk 4 Z_ ?_
       refine Qx.tk 5 Z_ ?_
       refine Qx.tk 6 Z_ ?_
       refine Qx.un 7 Z_ ?_
       refine Qx.un 8 Z_ ?_
       refine Qx.un 9 Z_ ?_
       refine Qx.un 10 Z_ ?_
       refine Qx.un 11 Z_ ?_
       refine Qx.un 12 Z_ ?_
       refine Qx.un 13 Z_ ?_
       refine Qx.un 14 Z_ ?_
       refine Qx.un 15 Z_ ?_
       refine Qx.un 16 Z_ ?_
       refine Qx.un 17 Z_ ?_
       refine Qx.un 18 Z_ ?_
       refine Qx.un 19 Z_ ?_
       refine Qx.un 20 Z_ ?_
       refine Qx.nx 21 (fun K hK=> ?_)
       go_simp
       refine hK.out _ _ (fun h=> absurd rfl h) ?_
       clear hK K
       try simp only [Act.put,upA,upB,upC]
       refine Qx.dn ?_
       go_wp2_with fail
       go_roundw
       case rel=> exact ⟨k+1,by omega,by go_num,rfl,Kz (fun y hy=> by
        rw [List.take_succ_eq_append_getElem hkl,HSk.out] at hy
        rcases List.mem_append.1 hy with hy | hy
        ·exact HNo.out y hy
        ·rw [List.mem_singleton] at hy
         rw [hy]
         exact fun h=> HNg.out h.2.1),Kn.trans KD⟩
       case measure=> simp [intOf];omega
     have HGt:Hid (lessX x s):=hgt
     have hl1:Op.bytesLess s.toList x.toList=false:=by
      cases h:Op.bytesLess s.toList x.toList
      ·rfl
      ·exact absurd (show lessX s x from h) (lessX_asymm hgt)
     have he1: (s.toList == x.toList)=false:=by
      cases h: (s.toList == x.toList)
      ·rfl
      ·exact absurd hgt (by rw [beq_yes h];exact lessX_irrefl _)
     clear hgt
     have hsubq: (v:Int) - (lst.length:Int)= (q:Int):=by have:=HPq.out.len;omega
     have hwq:IntKind.i64.wrap (q:Int)= (q:Int):=by rw [IntKind.wrap_i64];omega
     refine Qx.rg 21 HS15.out fun wd KD Z_=> ?_
     refine Qx.tk 0 Z_ ?_
     refine Qx.tk 1 Z_ ?_
     refine Qx.tk 2 Z_ ?_
     refine Qx.tk 3 Z_ ?_
     refine Qx.tk 4 Z_ ?_
     refine Qx.tk 5 Z_ ?_
     refine Qx.tk 6 Z_ ?_
     refine Qx.tk 7 Z_ ?_
     refine Qx.tk 8 Z_ ?_
     refine Qx.tk 9 Z_ ?_
     refine Qx.tk 10 Z_ ?_
     refine Qx.tk 11 Z_ ?_
     refine Qx.tk 12 Z_ ?_
     refine Qx.tk 16 Z_ ?_
     refine Qx.tk 17 Z_ ?_
     refine Qx.tk 18 Z_ ?_
     refine Qx.tk 19 Z_ ?_
     refine Qx.nx 13 (fun K hK=> ?_)
     rw [if_pos (by rfl)]
     go_simp
     go_at_call 58
     refine (l4At_place wd ra rn rc (some ⟨rb,ro,none⟩) dc sl s hsl (hS.kept (HKB.out.trans (K2.trans (Kw4.trans (Kn.trans KD)))))).mono ?_
     rintro e w5 ⟨⟨q5,rfl,hq5⟩,k5⟩
     have K5:=KD.trans k5
     obtain ⟨k',hk',rfl,henv',hkn'⟩: ∃k':Nat,k' < sl.length∧q5= (k':Int)∧Qj sl s=some (sl.getD k' Qz.zero)∧(sl.getD k' Qz.zero).name=s:=by
      rcases hq5 with ⟨k',h1,h2,h3,h4⟩ | ⟨_,h1⟩
      ·exact ⟨k',h1,h2,h3,h4⟩
      ·obtain ⟨_,_,_,_,_,_,_,y,hy,_⟩:=HEs.out
       rw [h1] at hy
       cases hy
     clear hq5
     have hki': (k':Int) < (sl.length:Int):=by omega
     have hk0: (0:Int)<=(k':Int):=by omega
     obtain ⟨p,hp⟩: ∃p,p=V k':= ⟨_,rfl⟩
     have HPQ:Hid (p=q↔FarR (WaitsX (Q_ Kj) (Qj sl)) x q s):=by
      show p=q↔_
      have h:=HV.out k' hk'
      have e2:runN sl k'=s:=hkn'
      rw [e2] at h
      have h2:=RightV.whole (names:=sl.map (·.name)) waits_name (by rw [List.length_map];exact h) (lessX_asymm HGt.out)
      rw [<-hp] at h2
      exact ⟨fun e=> by have h3:=h2.1 (by omega);rw [e] at h3;exact h3,fun hf=> h2.2 q hf⟩
     have HPp:=Kz hp
     clear hp henv' hkn'
     dsimp only
     refine hK.out _ _ (fun _=> HS15.out _ K5) ?_
     clear hK K
     try simp only [Act.put,upA,upB,upC]
     clear Z_
     have Z_:=HS15.out _ K5
     by_cases hpq:p=q
     ·have hpb: ((p:Int) == (q:Int))=true:=by simp [hpq]
      have HLe:Hid (LeastN (fun y=> WaitsX (Q_ Kj) (Qj sl) a' y∧lessX x y∧FarR (WaitsX (Q_ Kj) (Qj sl)) x q y) s):=by
       have h:=first_least (p:=fun y=> WaitsX (Q_ Kj) (Qj sl) a' y∧lessX x y∧FarR (WaitsX (Q_ Kj) (Qj sl)) x q y) HWL.out.1 (fun y hy=> (HWL.out.2 y).2 hy.1) hkl (by rw [HSk.out];exact ⟨HEs.out,HGt.out,HPQ.out.1 hpq⟩) HNo.out
       rw [HSk.out] at h
       exact h
      clear hpq
      refine Qx.tk 14 Z_ ?_
      refine Qx.take 15 [20,21] (v:= ?_) (by (simp only [List.getElem?_toArray,List.getElem?_cons_succ,List.getElem?_cons_zero];rfl)) (by kernel_rfl) (by kernel_rfl) (by kernel_rfl) (by kernel_rfl) (by exact fun _ _ _ h=> h) (Or.inl ⟨by rfl, ?_⟩) Z_ ?_
      rotate_left
      ·intro u hu
       try dsimp only at hu
       have f9:=World.rowIs.cell hu.2.2.2.out hk'
       try dsimp only at f9
       rw [<-HPp.out] at f9
       go_simp
       try with_reducible rfl
      try simp only [Act.put,upA,upB,upC]
      refine Qx.tk 20 Z_ ?_
      refine Qx.nx 21 (fun K hK=> ?_)
      go_simp
      refine hK.out _ _ (fun h=> absurd rfl h) ?_
      clear hK K
      try simp only [Act.put,upA,upB,upC]
      refine Qx.dn ?_
      have c5:= (HS15.out _ K5).1
      clear HS15 Z_
      have k1:K_ w5 (w5.alloc (.cells #[.string s] 9)):= (K_.refl _).alloc _
      have HOw:=Kz (ownsRow_kept' HO4.out (Kn.trans (K5.trans k1)))
      have KK:=Kz (Kw4.trans (Kn.trans (K5.trans k1)))
      have hbz:w2.heap.size<=(w5.alloc (.cells #[.string s] 9)).heap.size:=KK.out.size
      have HNw:Hid (∀j u,([.string s]:List Value)[j]? =some u->(w5.alloc (.cells #[.string s] 9)).cell? ((⟨w5.heap.size,0,none⟩:Addr).add j)=some u):=fun j u hu=> by rw [Addr.add_mid];exact Xz w5 #[.string s] 9 j u hu
      have HOne:Hid (∀u∈([.string s]:List Value),u.oneCell'=true):=fun u hu=> by simp only [List.mem_cons,List.not_mem_nil,or_false] at hu;subst hu;rfl
      clear k1
      go_wp2_with (at_builtin;refine wpList_append_own _ rfl (.tmp 91) (.tmp 96) 25 rfl w2.heap.size 9 ic _ 1 16 Tryz.underlying25 hc0 hc1 hc2 hc3 rfl (by decide) (.slice (some ⟨lb,lo,none⟩) lst.length lc) lst.length (lst.map Value.string) rfl HOw.out ⟨w5.heap.size,0,none⟩ 1 1 [.string s] rfl rfl HNw.out HOne.out (by unfold maxLen;omega) (by omega) hbz ?_;intro v' w6 hown2 hgr _;have KP:=kept_of_grown KK.out (Nat.le_refl _) HOw.out hgr;have HP2:=Kz hown2;obtain ⟨av2,cv2,rfl⟩:=own_slice hown2;clear hown2 hgr)
      go_roundg q
      case measure=> have:=HQ.out;omega
      case rel=> exact ⟨lst++ [s],s,av2,cv2,by rw [List.length_append];rfl,Kz (HPq.out.next hq1 HLe.out),Kz (by rw [List.map_append,List.length_append];exact HP2.out),KP⟩
     ·have hpb: ((p:Int) == (q:Int))=false:=by simp;omega
      have HNf:Hid (¬FarR (WaitsX (Q_ Kj) (Qj sl)) x q s):=fun h=> hpq (HPQ.out.2 h)
      clear hpq
      refine Qx.tk 14 Z_ ?_
      refine Qx.take 15 [20,21] (v:= ?_) (by (simp only [List.getElem?_toArray,List.getElem?_cons_succ,List.getElem?_cons_zero];rfl)) (by kernel_rfl) (by kernel_rfl) (by kernel_rfl) (by kernel_rfl) (by exact fun _ _ _ h=> h) (Or.inl ⟨by rfl, ?_⟩) Z_ ?_
      rotate_left
      ·intro u hu
       try dsimp only at hu
       have f9:=World.rowIs.cell hu.2.2.2.out hk'
       try dsimp only at f9
       rw [<-HPp.out] at f9
       go_simp
       try with_reducible rfl
      try simp only [Act.put,upA,upB,upC]
      refine Qx.tk 20 Z_ ?_
      refine Qx.nx 21 (fun K hK=> ?_)
      go_simp
      refine hK.out _ _ (fun h=> absurd rfl h) ?_
      clear hK K
      try simp only [Act.put,upA,upB,upC]
      refine Qx.dn ?_
      go_wp2_with fail
      go_roundw
      case rel=> exact ⟨k+1,by omega,by go_num,rfl,Kz (fun y hy=> by
       rw [List.take_succ_eq_append_getElem hkl,HSk.out] at hy
       rcases List.mem_append.1 hy with hy | hy
       ·exact HNo.out y hy
       ·rw [List.mem_singleton] at hy
        rw [hy]
        exact fun h=> HNf.out h.2.2),Kn.trans K5⟩
      case measure=> simp [intOf];omega
structure AgM (w0 wr:World) (rb zb ab:Nat) (cost:Int) (sa:Option Addr) (sn sc:Nat) (r:Qz) (xa:Option Addr) (xc:Nat) (qv:Value) (L:List ByteArray):Prop where
 kw:K_ w0 wr
 box:RBox wr rb r xa xc
 res:RowT wr zb 83 7
 act:RowT wr ab 86 2
 a0:wr.cell? ⟨ab,0,none⟩=some (.int .i64 cost)
 a1:wr.cell? ⟨ab,1,none⟩=some (.slice sa sn sc)
 rl:w0.heap.size<=rb
 zl:w0.heap.size<=zb
 al:w0.heap.size<=ab
 rz:rb≠zb
 txt:wr.ownsRow w0.heap.size 9 1 (.slice xa r.texts.length xc) r.texts.length (r.texts.map Value.string)
 ask:wr.ownsRow w0.heap.size 9 1 qv L.length (L.map Value.string)
 sep: ∀x,(Value.slice xa r.texts.length xc).ownBlock=some x->qv.ownBlock≠some x
section
variable {w0 wr w' : World} {rb zb ab : Nat} {cost : Int} {sa : Option Addr} {sn sc : Nat} {r r' : Qz} {xa xa' : Option Addr} {xc xc' : Nat} {qv qv' : Value} {L : List ByteArray}
theorem AgM.kept (h:AgM w0 wr rb zb ab cost sa sn sc r xa xc qv L) (k:K_ wr w'):AgM w0 w' rb zb ab cost sa sn sc r xa xc qv L:=
 ⟨h.kw.trans k,h.box.kept k,h.res.kept k,h.act.kept k,(k.cell h.act.lt).trans h.a0,(k.cell h.act.lt).trans h.a1,h.rl,h.zl,h.al,h.rz,ownsRow_kept' h.txt k,ownsRow_kept' h.ask k,h.sep⟩
theorem AgM.ar (h:AgM w0 wr rb zb ab cost sa sn sc r xa xc qv L):ab≠rb:=type_ne h.act.type h.box.row.type (by decide)
theorem AgM.put (h:AgM w0 wr rb zb ab cost sa sn sc r xa xc qv L) {o:Nat} {v:Value} (ho:o < 7) (e:r'.cells xa xc= (r.cells xa xc).set o v) (ht:r'.texts=r.texts):AgM w0 (wr.setCell ⟨rb,o,none⟩ v) rb zb ab cost sa sn sc r' xa xc qv L:=by
 have kb:But (fun b=> b=rb) wr (wr.setCell ⟨rb,o,none⟩ v):=But.set (S:=fun b=> b=rb) (But.of_kept (K_.refl _)) (p:= ⟨rb,o,none⟩) rfl v
 have tn: ∀{b:Nat},TypeAt wr b 9->¬b=rb:=fun hb e=> type_ne hb h.box.row.type (by decide) e
 refine ⟨Below.setCell h.kw (p:= ⟨rb,o,none⟩) h.rl v,h.box.put ho e,kb.row h.res (fun e=> h.rz e.symm),kb.row h.act h.ar,(kb.cell h.act.lt h.ar).trans h.a0,(kb.cell h.act.lt h.ar).trans h.a1,h.rl,h.zl,h.al,h.rz, ?_,kb.owns h.ask (fun b e=> tn (Yz h.ask e)),by rw [ht];exact h.sep⟩
 rw [ht]
 exact kb.owns h.txt (fun b e=> tn (Yz h.txt e))
theorem AgM.texts (h:AgM w0 wr rb zb ab cost sa sn sc r xa xc qv L) {w1:World} {l:List ByteArray} (ho:w1.ownsRow w0.heap.size 9 1 (.slice xa' (r.texts.length+l.length) xc') (r.texts.length+l.length) (r.texts.map Value.string++l.map Value.string)) (hg:wr.grownBy w1 (Value.slice xa r.texts.length xc).ownBlock) (hv: ∀g,(Value.slice xa' (r.texts.length+l.length) xc').ownBlock=some g->(Value.slice xa r.texts.length xc).ownBlock=some g∨wr.heap.size<=g):
  AgM w0 (w1.setCell ⟨rb,6,none⟩ (.slice xa' (r.texts.length+l.length) xc')) rb zb ab cost sa sn sc { r with texts:=r.texts++l } xa' xc' qv L:=by
 have k1:But (fun b=> (Value.slice xa r.texts.length xc).ownBlock=some b) wr w1:=But.of_grown hg (fun b e=> e)
 have tn: ∀{b:Nat} {u:TypeId},TypeAt wr b u->u≠9->¬(Value.slice xa r.texts.length xc).ownBlock=some b:=fun hb hu e=> type_ne hb (Yz h.txt e) hu rfl
 have r1:=k1.row h.box.row (tn h.box.row.type (by decide))
 have c1:w1.rangeAt rb 0 (r.cells xa xc):=k1.range h.box.row (tn h.box.row.type (by decide)) h.box.rng
 have z1:=k1.row h.res (tn h.res.type (by decide))
 have a1:=k1.row h.act (tn h.act.type (by decide))
 have e0:= (k1.cell h.act.lt (tn h.act.type (by decide)) (o:=0)).trans h.a0
 have e1:= (k1.cell h.act.lt (tn h.act.type (by decide)) (o:=1)).trans h.a1
 have q1:=k1.owns h.ask (fun b e e2=> h.sep b e2 e)
 have K1:K_ w0 w1:=k1.kept h.kw (fun b e=> (h.txt.lt b e).1)
 have kb:But (fun b=> b=rb) w1 (w1.setCell ⟨rb,6,none⟩ (.slice xa' (r.texts.length+l.length) xc')):=But.set (S:=fun b=> b=rb) (But.of_kept (K_.refl _)) (p:= ⟨rb,6,none⟩) rfl _
 have sn1: ∀{b:Nat},TypeAt w1 b 9->¬b=rb:=fun hb e=> type_ne hb r1.type (by decide) e
 have hlen: (r.texts++l).length=r.texts.length+l.length:=List.length_append
 refine ⟨Below.setCell K1 (p:= ⟨rb,6,none⟩) h.rl _,⟨r1.set _, ?_⟩,kb.row z1 (fun e=> h.rz e.symm),kb.row a1 h.ar,(kb.cell a1.lt h.ar).trans e0,(kb.cell a1.lt h.ar).trans e1,h.rl,h.zl,h.al,h.rz, ?_,kb.owns q1 (fun b e=> sn1 (Yz q1 e)),fun x hx hq=> ?_⟩
 ·have e2:Qz.cells { r with texts:=r.texts++l } xa' xc'= (r.cells xa xc).set 6 (.slice xa' (r.texts.length+l.length) xc'):=by
   unfold Qz.cells
   simp
  rw [e2]
  exact range_set c1 r1.row (by omega) _
 ·show World.ownsRow _ _ _ _ (.slice xa' (r.texts++l).length xc') (r.texts++l).length ((r.texts++l).map Value.string)
  rw [hlen,List.map_append]
  exact kb.owns ho (fun b e=> sn1 (Yz ho e))
 ·have hx': (Value.slice xa' (r.texts.length+l.length) xc').ownBlock=some x:=by rw [<-hlen];exact hx
  rcases hv x hx' with g | g
  ·exact h.sep x g hq
  ·have:= (h.ask.lt x hq).2;omega
theorem AgM.asks (h:AgM w0 wr rb zb ab cost sa sn sc r xa xc qv L) {w1:World} {l:List ByteArray} (ho:w1.ownsRow w0.heap.size 9 1 qv' (L.length+l.length) (L.map Value.string++l.map Value.string)) (hg:wr.grownBy w1 qv.ownBlock) (hv: ∀g,qv'.ownBlock=some g->qv.ownBlock=some g∨wr.heap.size<=g):
  AgM w0 w1 rb zb ab cost sa sn sc r xa xc qv' (L++l):=by
 have k1:But (fun b=> qv.ownBlock=some b) wr w1:=But.of_grown hg (fun b e=> e)
 have tn: ∀{b:Nat} {u:TypeId},TypeAt wr b u->u≠9->¬qv.ownBlock=some b:=fun hb hu e=> type_ne hb (Yz h.ask e) hu rfl
 have na:=tn h.act.type (by decide)
 have nr:=tn h.box.row.type (by decide)
 refine ⟨k1.kept h.kw (fun b e=> (h.ask.lt b e).1),⟨k1.row h.box.row nr,k1.range h.box.row nr h.box.rng⟩,k1.row h.res (tn h.res.type (by decide)),k1.row h.act na,(k1.cell h.act.lt na).trans h.a0,(k1.cell h.act.lt na).trans h.a1,h.rl,h.zl,h.al,h.rz,k1.owns h.txt (fun b e e2=> h.sep b e e2), ?_,fun x hx hq=> ?_⟩
 ·rw [List.length_append,List.map_append];exact ho
 ·rcases hv x hq with g | g
  ·exact h.sep x hx g
  ·have:= (h.txt.lt x hx).2;omega
end
def AgainSaid (W:Acts) (σ:Env) (name:ByteArray) (w':World) (e:Ending):Prop:=
 ∃(k:Nat) (xa:Option Addr) (xc:Nat) (qa:Option Addr) (qc:Nat),e= .returned (.tuple #[.agg ((againN W σ name k).1.cells xa xc).toArray,.slice qa (againN W σ name k).2.length qc])∧(∀j,j < k->CanGo W σ (againN W σ name j).1)∧¬CanGo W σ (againN W σ name k).1∧(TStrs w' 9 xa (againN W σ name k).1.texts∧(xa=none->xc=0)∧TStrs w' 9 qa (againN W σ name k).2)∧Strs w' qa (againN W σ name k).2
theorem againN_good {Kj:List Qq} (hok:ActsOk (Q_ Kj)) {σ:Env} (hg:GoodEnv Kj σ) {n:ByteArray} (hn: (Q_ Kj n).isSome=true): ∀{k:Nat},(∀j,j < k->CanGo (Q_ Kj) σ (againN (Q_ Kj) σ n j).1)->(againN (Q_ Kj) σ n k).1.Good Kj
 | 0,_=> fresh_good hok hn
 | k+1,h=> nextOf_good hok hg (againN_good hok hg hn (fun j hj=> h j (by omega))) (h k (by omega))
theorem nextOf_asks {Kj:List Qq} (hok:ActsOk (Q_ Kj)) {σ:Env} {r:Qz} (hg:GoodEnv Kj σ) (hr:r.Good Kj) (hc:CanGo (Q_ Kj) σ r): (Y_ (Q_ Kj) σ r).2.length<=5:=by
 obtain ⟨A,hA,h0,h1⟩:= (nextOf_good hok hg hr hc).act
 rw [nextOf_name] at hA
 have h5:= (asks_ok (hok _ _ hA).1 h0 h1).1
 by_cases ho: (Y_ (Q_ Kj) σ r).2=[]
 ·rw [ho];simp
 ·have e: (Y_ (Q_ Kj) σ r).2= (stepOf A (Y_ (Q_ Kj) σ r).1.at').asks:=by
   unfold Y_ at ho⊢
   rw [hA] at ho⊢
   simp only at ho⊢
   have ar: ∀q:Qz,(arrive A q).2= (stepOf A (arrive A q).1.at').asks:=fun q=> by
    unfold arrive
    simp only
    split <;> rfl
   by_cases hv:r.Zj=0
   ·rw [if_pos hv];exact ar _
   ·rw [if_neg hv] at ho⊢
    rcases hc.2 with e | ⟨A',xs,hA',hxs⟩
    ·exact absurd e hv
    ·rw [hA] at hA'
     cases hA'
     rw [hxs] at ho⊢
     simp only at ho⊢
     by_cases h20:r.Zj=20
     ·rw [if_pos h20] at ho;exact absurd rfl ho
     ·rw [if_neg h20] at ho⊢
      by_cases hgo: (goOnF (stepOf A r.at') xs).over=true
      ·rw [if_pos hgo] at ho;exact absurd rfl ho
      ·rw [if_neg hgo];exact ar _
  rw [e]
  exact h5
theorem againN_len {Kj:List Qq} (hok:ActsOk (Q_ Kj)) {σ:Env} (hg:GoodEnv Kj σ) {n:ByteArray} (hn: (Q_ Kj n).isSome=true): ∀{k:Nat},(∀j,j < k->CanGo (Q_ Kj) σ (againN (Q_ Kj) σ n j).1)->(againN (Q_ Kj) σ n k).2.length<=5 * k
 | 0,_=> Nat.le_refl _
 | k+1,h=> by
  have h1:=againN_len hok hg hn (k:=k) (fun j hj=> h j (by omega))
  have h2:=nextOf_asks hok hg (againN_good hok hg hn (fun j hj=> h j (by omega))) (h k (by omega))
  show ((againN (Q_ Kj) σ n k).2++ (Y_ (Q_ Kj) σ (againN (Q_ Kj) σ n k).1).2).length<=5 * (k+1)
  rw [List.length_append]
  omega
theorem againN_units {Kj:List Qq} (hok:ActsOk (Q_ Kj)) {σ:Env} (hg:GoodEnv Kj σ) {n:ByteArray} (hn: (Q_ Kj n).isSome=true) {k:Nat} (h: ∀j,j < k->CanGo (Q_ Kj) σ (againN (Q_ Kj) σ n j).1):k<=21:=by
 cases k with
 | zero=> omega
 | succ k=>
  have h1:=againN_visits hn (k:=k) (fun j hj=> h j (by omega)) (h k (by omega)).1
  have h2:= (againN_good hok hg hn (k:=k) (fun j hj=> h j (by omega))).hi
  omega
theorem but_sets {g:Nat}: ∀(vs:List Value) (o:Nat) {w u:World},But (fun b=> b=g) w u->But (fun b=> b=g) w (u.setCells g o vs)
 | [],_,_,_,h=> h
 | v :: r,o,_,_,h=> by rw [World.setCells];exact but_sets r (o+1) (h.set (p:= ⟨g,o,none⟩) rfl v)
theorem AgM.ends {W:Acts} {σ:Env} {name:ByteArray} {w0 wr:World} {rb zb ab:Nat} {cost:Int} {sa:Option Addr} {sn sc:Nat} {r:Qz} {xa:Option Addr} {xc:Nat} {qa:Option Addr} {qn qc:Nat} {L:List ByteArray} {k:Nat} {e:Ending} (h:AgM w0 wr rb zb ab cost sa sn sc r xa xc (.slice qa qn qc) L) (hk:againN W σ name k= (r,L)) (hc: ∀j,j < k->CanGo W σ (againN W σ name j).1) (hn: ¬CanGo W σ r)
  (he:e= .returned (.tuple #[.agg (r.cells xa xc).toArray,.slice qa qn qc])):AgainSaid W σ name (wr.setCells zb 0 (r.cells xa xc)) e∧K_ w0 (wr.setCells zb 0 (r.cells xa xc)):=by
 have kb:But (fun b=> b=zb) wr (wr.setCells zb 0 (r.cells xa xc)):=but_sets _ _ (But.of_kept (K_.refl _))
 have tn: ∀{b:Nat},TypeAt wr b 9->¬b=zb:=fun hb e=> type_ne hb h.res.type (by decide) e
 have h1:=tstrs_owned (kb.owns h.txt (fun b e=> tn (Yz h.txt e)))
 have q2:=kb.owns h.ask (fun b e=> tn (Yz h.ask e))
 obtain ⟨a2,c2,e2,h2⟩:=owned_strs q2
 simp only [Value.slice.injEq] at e2
 obtain ⟨rfl,rfl,_⟩:=e2
 have h3:=tstrs_owned q2
 refine ⟨⟨k,xa,xc,qa,qc, ?_,hc, ?_, ?_, ?_⟩,kb.kept h.kw (fun b e=> by rw [e];exact h.zl)⟩
 ·rw [hk];exact he
 ·rw [hk];exact hn
 ·rw [hk];exact ⟨h1.1,h1.2.1,h3.1⟩
 ·rw [hk];exact h2
theorem AgM.start {w wc:World} {zb ab:Nat} {cost:Int} {sa:Option Addr} {sn sc:Nat} (name:ByteArray) (kw:K_ w wc) (hres:RowT wc zb 83 7) (hact:RowT wc ab 86 2) (h0:wc.cell? ⟨ab,0,none⟩=some (.int .i64 cost)) (h1:wc.cell? ⟨ab,1,none⟩=some (.slice sa sn sc)) (zl:w.heap.size<=zb) (al:w.heap.size<=ab):
  AgM w ((wc.alloc (.cells #[.string name,.bool false,.bool false,.string ⟨#[]⟩,.int .i64 0,.int .i64 0,.slice none 0 0] 83)).alloc (.cells #[] 9)) wc.heap.size zb ab cost sa sn sc (Qz.fresh name) none 0 (.slice (some ⟨wc.heap.size+1,0,none⟩) 0 0) []:=by
 have k1:K_ wc (wc.alloc (.cells #[.string name,.bool false,.bool false,.string ⟨#[]⟩,.int .i64 0,.int .i64 0,.slice none 0 0] 83)):= (K_.refl _).alloc _
 have k2:K_ (wc.alloc (.cells #[.string name,.bool false,.bool false,.string ⟨#[]⟩,.int .i64 0,.int .i64 0,.slice none 0 0] 83)) ((wc.alloc (.cells #[.string name,.bool false,.bool false,.string ⟨#[]⟩,.int .i64 0,.int .i64 0,.slice none 0 0] 83)).alloc (.cells #[] 9)):= (K_.refl _).alloc _
 have hb:RBox (wc.alloc (.cells #[.string name,.bool false,.bool false,.string ⟨#[]⟩,.int .i64 0,.int .i64 0,.slice none 0 0] 83)) wc.heap.size (Qz.fresh name) none 0:= ⟨RowT.made wc _ _,Xz wc _ _⟩
 have ho:=World.ownsRow_made (base:=w.heap.size) (e:=9) (size:=1) (wc.alloc (.cells #[.string name,.bool false,.bool false,.string ⟨#[]⟩,.int .i64 0,.int .i64 0,.slice none 0 0] 83)) #[] 0 (Nat.le_trans kw.size k1.size) (Nat.zero_le _) rfl
 rw [World.size_alloc] at ho
 exact ⟨kw.trans (k1.trans k2),hb.kept k2,hres.kept (k1.trans k2),hact.kept (k1.trans k2),((k1.trans k2).cell hact.lt).trans h0,((k1.trans k2).cell hact.lt).trans h1,kw.size,zl,al,by have:=hres.lt;omega,World.ownsRow_nil _ _ _ _,ho,fun x h=> by cases h⟩
