import Derived.Test.YteknkpfbjapoiaaGreatDoorKRTo
import Derived.Test.YteknkpfbjapoiaaGreatDoorKVLead
namespace Go.Proofs.YteknkpfbjapoiaaGreatDoor
open Go.RowKit
set_option maxRecDepth 100000 in
set_option maxHeartbeats 3200000 in
theorem markRunSX_any (w:World) (lo hi:Nat) (a:Option Addr) (cap:Nat) (l:List RunX) (k:Nat) (h0:0 < k) (h1:k+ (l.map cntRun).sum≤4611686018427387904) (hS:RunsInX w lo hi a l):
  Calls Tryz.prog 43 #[.slice a l.length cap,.int .i64 k] w fun e w'=> e= .returned (.int .i64 ((k+ (l.map cntRun).sum:Nat):Int))∧RunsInX w' lo hi a (markRunsX l k)∧KeptBut lo hi w w':=by
 have hlen:=len_le_runs l
 rcases hS with rfl | ⟨B,c,rfl,hlo,hBc,hhi,hr,hmono,hf⟩
 ·go_enter Tryz.func43,Tryz.ntmps43
  go_wp2
  go_loopw [1,5] (fun x i wr=> x= .int .i64 k∧i= .int .i64 0∧wr=w) (fun _ _ _=> 0)
  case atStart=> exact ⟨rfl,rfl,rfl⟩
  case round=>
   obtain ⟨rfl,rfl,rfl⟩:=hrel
   go_wp2
   go_ret
   exact ⟨by simp,.inl rfl,KeptBut.refl _ _ _⟩
 ·have HMono:=hide hmono
  clear hmono
  go_enter Tryz.func43,Tryz.ntmps43
  go_wp2
  go_loopw [1,5] (fun x i wr=> ∃j m:Nat,j≤l.length∧i= .int .i64 j∧x= .int .i64 m∧m=k+sumTo cntRun l j∧KeptBut lo hi w wr∧Row wr B (l.length * 7)∧∀t,t < l.length→RunInX wr B t (c t) (c (t+1)) (runMixX l k j t)) (fun _ i _=> l.length - (intOf i).toNat)
  case atStart=> exact ⟨0,k,Nat.zero_le _,rfl,rfl,by rw [sumTo_zero];omega,KeptBut.refl _ _ _,hr,fun t ht=> by simpa [runMixX] using hf t ht⟩
  case round=>
   obtain ⟨j,m,hj,rfl,rfl,hm,hw,hr',hf'⟩:=hrel
   clear hr hf
   have HMn:=hide hm
   have HF:=hide hf'
   by_cases hlt:j < l.length
   ·have hst:=hf' j hlt
    have hmix:runMixX l k j j=l.getD j RunX.zero:=by simp [runMixX]
    rw [hmix] at hst
    have hsum:=sumTo_succ cntRun l RunX.zero j hlt
    have hsl:=sumTo_le cntRun l (j+1)
    obtain ⟨xa,ca,g3,g4,g6⟩:=hst
    obtain ⟨s,hsd⟩: ∃s,s=l.getD j RunX.zero:= ⟨_,rfl⟩
    rw [←hsd] at g3 g4 hsum
    have hcs:cntRun s=6+s.texts.length:=rfl
    have hmb:m+6+s.texts.length≤4611686018427387904:=by omega
    have hm0:0 < m:=by omega
    have HSd:=hide hsd
    have HSum:=hide hsum
    have HG6:=hide g6
    have hBj:B < c j:=Nat.lt_of_lt_of_le hBc (HMono.out 0 j (Nat.zero_le _))
    have hcc:c j≤c (j+1):=HMono.out j (j+1) (by omega)
    have hBs:=hr'.lt
    have c6:=g3 6 _ rfl
    clear hf' g3 hm hmix hsd hsum hsl hcs g6
    obtain ⟨txt,htx,hmt⟩: ∃txt,txt=mtext m∧∀W,Calls Tryz.prog 49 #[.int .i64 (m:Int)] W fun e w'=> e= .returned (.string txt)∧Kept W w':= ⟨_,rfl,fun W=> markText_any W m hm0 (by omega)⟩
    obtain ⟨tx2,htx2,hmt2⟩: ∃txt,txt=mtext (m+3)∧∀z:Int,z= ((m+3:Nat):Int)→∀W,Calls Tryz.prog 49 #[.int .i64 z] W fun e w'=> e= .returned (.string txt)∧Kept W w':= ⟨_,rfl,fun z hz W=> by rw [hz];exact markText_any W _ (by omega) (by omega)⟩
    have HTX:=hide htx
    have HMT:=hide hmt
    have HTX2:=hide htx2
    have HMT2:=hide hmt2
    have HMN:Hid (∀z:Int,z= ((m+6:Nat):Int)→∀W,StrsIn W (c j) (c (j+1)) xa s.texts→Calls Tryz.prog 23 #[.slice xa s.texts.length ca,.int .i64 z] W fun e w'=> e= .returned (.int .i64 ((m+6+s.texts.length:Nat):Int))∧StrsIn w' (c j) (c (j+1)) xa (markStrs s.texts (m+6))∧KeptBut (c j) (c (j+1)) W w'):=fun z hz W hW=> by rw [hz];exact markStringS_any W (c j) (c (j+1)) xa ca s.texts (m+6) (by omega) (by omega) hW
    clear htx hmt htx2 hmt2
    go_wp2_with fail
    refine (HMT.out _).mono ?_
    rintro e w1 ⟨rfl,k1⟩
    have hr1:=hr'.kept k1
    have d6:= (k1.cell hBs).trans c6
    obtain ⟨⟨_,f0c⟩,f0⟩:=hr1.at (i:=j * 7) (by omega)
    obtain ⟨⟨_,f1c⟩,f1⟩:=hr1.at (i:=j * 7+1) (by omega)
    obtain ⟨⟨_,f2c⟩,f2⟩:=hr1.at (i:=j * 7+2) (by omega)
    have t1:= (Turn.refl B (j * 7) (j * 7+7) (c j) (c (j+1)) wr).kept k1 hBs
    have HG1:=hide (g4.same (k1.same _ _))
    have HR1:=hide hr1
    have HT1:=hide t1
    clear c6 hr' k1 HMT hr1 t1 g4
    go_wp2_with fail
    refine (HMT2.out _ (by omega) _).mono ?_
    rintro e w2 ⟨rfl,k2⟩
    have rA:=HR1.out.set ⟨B,j * 7,none⟩ rfl (.string txt)
    have rB:=rA.set ⟨B,j * 7+1,none⟩ rfl (.bool (((m:Int)+1) % 3 == 0))
    have rC:=rB.set ⟨B,j * 7+2,none⟩ rfl (.bool (((m:Int)+1+1) % 3 == 0))
    have e0:w2.cell? ⟨B,j * 7,none⟩=some (.string txt):=by rw [k2.cell rC.lt,set_miss (by omega),set_miss (by omega)];exact set_hit HR1.out (by omega) _
    have e1:w2.cell? ⟨B,j * 7+1,none⟩=some (.bool (((m:Int)+1) % 3 == 0)):=by rw [k2.cell rC.lt,set_miss (by omega)];exact set_hit rA (by omega) _
    have e2:w2.cell? ⟨B,j * 7+2,none⟩=some (.bool (((m:Int)+1+1) % 3 == 0)):=by rw [k2.cell rC.lt];exact set_hit rB (by omega) _
    have e6:w2.cell? ⟨B,j * 7+6,none⟩=some (.slice xa s.texts.length ca):=by rw [k2.cell rC.lt,set_miss (by omega),set_miss (by omega),set_miss (by omega)];exact d6
    have t2:= (((HT1.out.setCell (o:=j * 7) (by omega) (by omega) (.string txt)).setCell (o:=j * 7+1) (by omega) (by omega) (.bool (((m:Int)+1) % 3 == 0))).setCell (o:=j * 7+2) (by omega) (by omega) (.bool (((m:Int)+1+1) % 3 == 0))).kept k2 rC.lt
    have HG2:=hide ((((HG1.out.same (Same.setCell _ (p:= ⟨B,j * 7,none⟩) (.inl hBj) (.string txt))).same (Same.setCell _ (p:= ⟨B,j * 7+1,none⟩) (.inl hBj) (.bool (((m:Int)+1) % 3 == 0)))).same (Same.setCell _ (p:= ⟨B,j * 7+2,none⟩) (.inl hBj) (.bool (((m:Int)+1+1) % 3 == 0)))).same (k2.same _ _))
    have hr2:=rC.kept k2
    obtain ⟨⟨_,f3c⟩,f3⟩:=hr2.at (i:=j * 7+3) (by omega)
    obtain ⟨⟨_,f4c⟩,f4⟩:=hr2.at (i:=j * 7+4) (by omega)
    obtain ⟨⟨_,f5c⟩,f5⟩:=hr2.at (i:=j * 7+5) (by omega)
    have HR2:=hide hr2
    have HT2:=hide t2
    have HE:=hide (And.intro e0 (And.intro e1 e2))
    clear e0 e1 e2 rA rB rC t2 hr2 k2 HR1 HT1 HMT2 f0 f0c f1 f1c f2 f2c d6 HG1
    go_wp2_with fail
    refine (HMN.out _ (by omega) _ (((HG2.out.same (Same.setCell _ (p:= ⟨B,j * 7+3,none⟩) (.inl hBj) _)).same (Same.setCell _ (p:= ⟨B,j * 7+4,none⟩) (.inl hBj) _)).same (Same.setCell _ (p:= ⟨B,j * 7+5,none⟩) (.inl hBj) _))).mono ?_
    rintro e w3 ⟨rfl,hS3,kb3⟩
    have rA:=HR2.out.set ⟨B,j * 7+3,none⟩ rfl (.string tx2)
    have rB:=rA.set ⟨B,j * 7+4,none⟩ rfl (.int .i64 ((m:Int)+1+1+1+1))
    have rC:=rB.set ⟨B,j * 7+5,none⟩ rfl (.int .i64 ((m:Int)+1+1+1+1+1))
    have s3:=kb3.same (l2:=B) (h2:=B+1) (by omega)
    have q3:w3.cell? ⟨B,j * 7+3,none⟩=some (.string tx2):=by rw [s3.cell (Nat.le_refl _) (by omega) rC.lt,set_miss (by omega),set_miss (by omega)];exact set_hit HR2.out (by omega) _
    have q4:w3.cell? ⟨B,j * 7+4,none⟩=some (.int .i64 ((m:Int)+1+1+1+1)):=by rw [s3.cell (Nat.le_refl _) (by omega) rC.lt,set_miss (by omega)];exact set_hit rA (by omega) _
    have q5:w3.cell? ⟨B,j * 7+5,none⟩=some (.int .i64 ((m:Int)+1+1+1+1+1)):=by rw [s3.cell (Nat.le_refl _) (by omega) rC.lt];exact set_hit rB (by omega) _
    have q6:w3.cell? ⟨B,j * 7+6,none⟩=some (.slice xa s.texts.length ca):=by rw [s3.cell (Nat.le_refl _) (by omega) rC.lt,set_miss (by omega),set_miss (by omega),set_miss (by omega)];exact e6
    obtain ⟨e0,e1,e2⟩:=HE.out
    have q0:w3.cell? ⟨B,j * 7,none⟩=some (.string txt):=by rw [s3.cell (Nat.le_refl _) (by omega) rC.lt,set_miss (by omega),set_miss (by omega),set_miss (by omega)];exact e0
    have q1:w3.cell? ⟨B,j * 7+1,none⟩=some (.bool (((m:Int)+1) % 3 == 0)):=by rw [s3.cell (Nat.le_refl _) (by omega) rC.lt,set_miss (by omega),set_miss (by omega),set_miss (by omega)];exact e1
    have q2:w3.cell? ⟨B,j * 7+2,none⟩=some (.bool (((m:Int)+1+1) % 3 == 0)):=by rw [s3.cell (Nat.le_refl _) (by omega) rC.lt,set_miss (by omega),set_miss (by omega),set_miss (by omega)];exact e2
    rw [mod3 m 1 _ (by omega)] at q1
    rw [mod3 m 2 _ (by omega)] at q2
    rw [show (m:Int)+1+1+1+1= ((m+4:Nat):Int) by omega] at q4
    rw [show (m:Int)+1+1+1+1+1= ((m+5:Nat):Int) by omega] at q5
    rw [HTX.out] at q0
    rw [HTX2.out] at q3
    have HQ:=hide (range7x q0 q1 q2 q3 q4 q5 q6)
    have t3:= (((HT2.out.setCell (o:=j * 7+3) (by omega) (by omega) (.string tx2)).setCell (o:=j * 7+4) (by omega) (by omega) (.int .i64 ((m:Int)+1+1+1+1))).setCell (o:=j * 7+5) (by omega) (by omega) (.int .i64 ((m:Int)+1+1+1+1+1))).but kb3 (Nat.le_refl _) (Nat.le_refl _) (.inl hBj) rC.lt
    have HR3:=hide (s3.row (Nat.le_refl _) (by omega) rC)
    have HT3:=hide t3
    have HS3:=hide hS3
    obtain ⟨m6,hm6⟩: ∃m6,m6=m+6+s.texts.length:= ⟨_,rfl⟩
    rw [←hm6]
    have HM6:=hide hm6
    have hm6b:m6≤4611686018427387904:=by omega
    clear q0 q1 q2 q3 q4 q5 q6 e0 e1 e2 e6 rA rB rC t3 kb3 s3 f3 f3c f4 f4c f5 f5c HR2 HT2 HE HMN hm6 hS3 HG2
    go_wp2
    go_roundw
    case rel=>
     have tF:=HT3.out
     have hmono:=HMono.out
     refine ⟨j+1,m6,by omega,by go_num,by go_num,by have h1:=HMn.out;have h2:=HM6.out;have h3:=HSum.out;have h4:cntRun s=6+s.texts.length:=rfl;omega,hw.trans (tF.keptBut (by omega) (by have:=hmono (j+1) l.length (by omega);omega) (by omega) (by have:=hmono 0 l.length (Nat.zero_le _);omega)),HR3.out,fun t ht=> ?_⟩
     by_cases e:t=j
     ·subst e
      refine ⟨xa,ca, ?_, ?_,HG6.out⟩
      ·have em: (runMixX l k (t+1) t).cells xa ca=[.string (mtext m),.bool (decide ((m+1) % 3=0)),.bool (decide ((m+2) % 3=0)),.string (mtext (m+3)),.int .i64 ((m+4:Nat):Int),.int .i64 ((m+5:Nat):Int),.slice xa s.texts.length ca]:=by
        unfold runMixX
        rw [if_pos (by omega),←HMn.out,←HSd.out]
        simp [markRunX,RunX.cells,markStrs_length]
       rw [em]
       exact HQ.out
      ·have em: (runMixX l k (t+1) t).texts=markStrs s.texts (m+6):=by
        unfold runMixX
        rw [if_pos (by omega),←HMn.out,←HSd.out]
        rfl
       rw [em]
       exact HS3.out
     ·have em:runMixX l k (j+1) t=runMixX l k j t:=by
       unfold runMixX
       by_cases h:t < j
       ·rw [if_pos h,if_pos (by omega)]
       ·rw [if_neg h,if_neg (by omega)]
      rw [em]
      obtain ⟨x,cx,z1,z2,z3⟩:=HF.out t ht
      have hBt:B < c t:=Nat.lt_of_lt_of_le hBc (hmono 0 t (Nat.zero_le _))
      refine ⟨x,cx,tF.range (by simp [RunX.cells];omega) z1,z2.same (tF.same ?_ (.inl hBt)),z3⟩
      rcases Nat.lt_or_gt_of_ne e with h | h
      ·left;exact hmono (t+1) j (by omega)
      ·right;exact hmono (j+1) t (by omega)
    case measure=> simp [intOf];omega
   ·have:j=l.length:=by omega
    subst this
    go_wp2
    go_ret
    refine ⟨ret_int (by have:=HMn.out;rw [sumTo_all] at this;omega),.inr ⟨B,c,rfl,hlo,hBc,by rw [markRunsX_length];exact hhi,by rw [markRunsX_length];exact hr',HMono.out,fun i hi'=> ?_⟩,hw⟩
    rw [markRunsX_length] at hi'
    have:=HF.out i hi'
    rw [markRunsX_getD _ _ _ hi']
    unfold runMixX at this
    rw [if_pos hi'] at this
    exact this
set_option maxHeartbeats 800000 in
theorem markStateX_any (w:World) (lo mid hi:Nat) (a d:Option Addr) (cap e0:Nat) (roots:List ByteArray) (l:List RunX) (k:Nat) (h0:0 < k) (h1:k+roots.length+ (l.map cntRun).sum≤4611686018427387904) (hm1:lo≤mid) (hm2:mid≤hi) (hhi:hi≤w.heap.size) (hR:StrsIn w lo mid a roots) (hS:RunsInX w mid hi d l):
  Calls Tryz.prog 17 #[.agg #[.slice a roots.length cap,.slice d l.length e0],.int .i64 k] w fun e w'=> e= .returned (.int .i64 ((k+roots.length+ (l.map cntRun).sum:Nat):Int))∧StrsIn w' lo mid a (markStrs roots k)∧RunsInX w' mid hi d (markRunsX l (k+roots.length))∧KeptBut lo hi w w':=by
 obtain ⟨W0,hW0⟩: ∃W0,W0=w.alloc (.cells #[.slice a roots.length cap,.slice d l.length e0] 41):= ⟨_,rfl⟩
 have k0:Kept w W0:=by rw [hW0];exact (Kept.refl _).alloc _
 have b0:W0.cell? ⟨w.heap.size,0,none⟩=some (.slice a roots.length cap):= (twoCells (w:=w) (by rw [hW0];exact Kept.refl _)).1
 have b1:W0.cell? ⟨w.heap.size,1,none⟩=some (.slice d l.length e0):= (twoCells (w:=w) (by rw [hW0];exact Kept.refl _)).2
 have z0:w.heap.size < W0.heap.size:=by rw [hW0];simp
 go_enter Tryz.func17,Tryz.ntmps17
 go_wp2_with fail
 rw [←hW0]
 clear hW0
 refine (markStringS_any _ lo mid a cap roots k h0 (by omega) (hR.same (k0.same _ _))).mono ?_
 rintro e w1 ⟨rfl,hR1,kb1⟩
 have s1:=kb1.same (l2:=w.heap.size) (h2:=w.heap.size+1) (by omega)
 have c1:= (s1.cell (o:=1) (Nat.le_refl _) (by omega) z0).trans b1
 obtain ⟨m,hm⟩: ∃m,m=k+roots.length:= ⟨_,rfl⟩
 rw [←hm]
 have hmb:m+ (l.map cntRun).sum≤4611686018427387904:=by omega
 have hm0:0 < m:=by omega
 have HS1:=hide ((hS.same (k0.same _ _)).same (kb1.same (l2:=mid) (h2:=hi) (by omega)))
 have HR1:=hide hR1
 have HM:=hide hm
 have hz1:=kb1.size
 clear hm b0 b1 hR1 s1
 go_wp2_with fail
 refine (markRunSX_any _ mid hi d e0 l m hm0 hmb HS1.out).mono ?_
 rintro e w2 ⟨rfl,hS2,kb2⟩
 have HS2:=hide hS2
 have HR2:=hide (HR1.out.same (kb2.same (l2:=lo) (h2:=mid) (by omega)))
 have HK:=hide (((KeptBut.of_kept k0).trans (kb1.mono (Nat.le_refl _) hm2)).trans (kb2.mono hm1 (Nat.le_refl _)))
 clear hS2 kb2 kb1 k0
 go_wp2
 go_ret
 rw [←HM.out]
 exact ⟨rfl,HR2.out,HS2.out,HK.out⟩
section
variable (E : ByteArray → ByteArray → Prop)
end
section
variable {E : ByteArray → ByteArray → Prop}
end
end Go.Proofs.YteknkpfbjapoiaaGreatDoor
