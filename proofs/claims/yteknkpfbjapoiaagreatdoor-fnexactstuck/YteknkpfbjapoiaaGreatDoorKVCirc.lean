import Derived.Test.YteknkpfbjapoiaaGreatDoorKRTo
import Derived.Test.YteknkpfbjapoiaaGreatDoorKVLead
namespace Go.Proofs.YteknkpfbjapoiaaGreatDoor
open Go.RowKit
set_option maxRecDepth 100000 in
set_option maxHeartbeats 3200000 in
theorem markRunSX_any (w:World) (lo hi:Nat) (a:Option Addr) (cap:Nat) (l:List RunX) (k:Nat) (h0:0 < k) (h1:k+ (l.map cntRun).sum≤4611686018427387904) (hS:RunsInX w lo hi a l):
  Calls Tryz.prog 43 #[.slice a l.length cap,.int .i64 k] w fun e w'=> e= .returned (.int .i64 ((k+ (l.map cntRun).sum:Nat):Int))∧RunsInX w' lo hi a (markRunsX l k)∧KeptBut lo hi w w':=by
 have hlen:=len_le_runs l
 rcases hS with rfl | ⟨B,c,rfl,hlo,hBc,hhi,hr,hmono,hf⟩
 ·go_enter Tryz.func43,Tryz.ntmps43
  go_wp2
  go_loopw [1,5] (fun x i wr=> x= .int .i64 k∧i= .int .i64 0∧wr=w) (fun _ _ _=> 0)
  case atStart=> exact ⟨rfl,rfl,rfl⟩
  case round=>
   obtain ⟨rfl,rfl,rfl⟩:=hrel
   go_wp2
   go_ret
   exact ⟨by simp,.inl rfl,KeptBut.refl _ _ _⟩
 ·have HMono:=hide hmono
  clear hmono
  go_enter Tryz.func43,Tryz.ntmps43
  go_wp2
  go_loopw [1,5] (fun x i wr=> ∃j m:Nat,j≤l.length∧i= .int .i64 j∧x= .int .i64 m∧m=k+sumTo cntRun l j∧KeptBut lo hi w wr∧Row wr B (l.length * 7)∧∀t,t < l.length→RunInX wr B t (c t) (c (t+1)) (runMixX l k j t)) (fun _ i _=> l.length - (intOf i).toNat)
  case atStart=> exact ⟨0,k,Nat.zero_le _,rfl,rfl,by rw [sumTo_zero];omega,KeptBut.refl _ _ _,hr,fun t ht=> by simpa [runMixX] using hf t ht⟩
  case round=>
   obtain ⟨j,m,hj,rfl,rfl,hm,hw,hr',hf'⟩:=hrel
   clear hr hf
   have HMn:=hide hm
   have HF:=hide hf'
   by_cases hlt:j < l.length
   ·have hst:=hf' j hlt
    have hmix:runMixX l k j j=l.getD j RunX.zero:=by simp [runMixX]
    rw [hmix] at hst
    have hsum:=sumTo_succ cntRun l RunX.zero j hlt
    have hsl:=sumTo_le cntRun l (j+1)
    obtain ⟨xa,ca,g3,g4,g6⟩:=hst
    obtain ⟨s,hsd⟩: ∃s,s=l.getD j RunX.zero:= ⟨_,rfl⟩
    rw [←hsd] at g3 g4 hsum
    have hcs:cntRun s=6+s.texts.length:=rfl
    have hmb:m+6+s.texts.length≤4611686018427387904:=by omega
    have hm0:0 < m:=by omega
    have HSd:=hide hsd
    have HSum:=hide hsum
    have HG6:=hide g6
    have hBj:B < c j:=Nat.lt_of_lt_of_le hBc (HMono.out 0 j (Nat.zero_le _))
    have hcc:c j≤c (j+1):=HMono.out j (j+1) (by omega)
    have hBs:=hr'.lt
    have c6:=g3 6 _ rfl
    clear hf' g3 hm hmix hsd hsum hsl hcs g6
    obtain ⟨txt,htx,hmt⟩: ∃txt,txt=mtext m∧∀W,Calls Tryz.prog 49 #[.int .i64 (m:Int)] W fun e w'=> e= .returned (.string txt)∧Kept W w':= ⟨_,rfl,fun W=> markText_any W m hm0 (by omega)⟩
    obtain ⟨tx2,htx2,hmt2⟩: ∃txt,txt=mtext (m+3)∧∀z:Int,z= ((m+3:Nat):Int)→∀W,Calls Tryz.prog 49 #[.int .i64 z] W fun e w'=> e= .returned (.string txt)∧Kept W w':= ⟨_,rfl,fun z hz W=> by rw [hz];exact markText_any W _ (by omega) (by omega)⟩
    have HTX:=hide htx
    have HMT:=hide hmt
    have HTX2:=hide htx2
    have HMT2:=hide hmt2
    have HMN:Hid (∀z:Int,z= ((m+6:Nat):Int)→∀W,StrsIn W (c j) (c (j+1)) xa s.texts→Calls Tryz.prog 23 #[.slice xa s.texts.length ca,.int .i64 z] W fun e w'=> e= .returned (.int .i64 ((m+6+s.texts.length:Nat):Int))∧StrsIn w' (c j) (c (j+1)) xa (markStrs s.texts (m+6))∧KeptBut (c j) (c (j+1)) W w'):=fun z hz W hW=> by rw [hz];exact markStringS_any W (c j) (c (j+1)) xa ca s.texts (m+6) (by omega) (by omega) hW
    clear htx hmt htx2 hmt2
    go_wp2_with fail
    refine (HMT.out _).mono ?_
    rintro e w1 ⟨rfl,k1⟩
    have hr1:=hr'.kept k1
    have d6:= (k1.cell hBs).trans c6
    obtain ⟨⟨_,f0c⟩,f0⟩:=hr1.at (i:=j * 7) (by omega)
    obtain ⟨⟨_,f1c⟩,f1⟩:=hr1.at (i:=j * 7+1) (by omega)
    obtain ⟨⟨_,f2c⟩,f2⟩:=hr1.at (i:=j * 7+2) (by omega)
    have t1:= (Turn.refl B (j * 7) (j * 7+7) (c j) (c (j+1)) wr).kept k1 hBs
    have HG1:=hide (g4.same (k1.same _ _))
    have HR1:=hide hr1
    have HT1:=hide t1
    clear c6 hr' k1 HMT hr1 t1 g4
    go_wp2_with fail
    refine (HMT2.out _ (by omega) _).mono ?_
    rintro e w2 ⟨rfl,k2⟩
    have rA:=HR1.out.set ⟨B,j * 7,none⟩ rfl (.string txt)
    have rB:=rA.set ⟨B,j * 7+1,none⟩ rfl (.bool (((m:Int)+1) % 3 == 0))
    have rC:=rB.set ⟨B,j * 7+2,none⟩ rfl (.bool (((m:Int)+1+1) % 3 == 0))
    have e0:w2.cell? ⟨B,j * 7,none⟩=some (.string txt):=by rw [k2.cell rC.lt,set_miss (by omega),set_miss (by omega)];exact set_hit HR1.out (by omega) _
    have e1:w2.cell? ⟨B,j * 7+1,none⟩=some (.bool (((m:Int)+1) % 3 == 0)):=by rw [k2.cell rC.lt,set_miss (by omega)];exact set_hit rA (by omega) _
    have e2:w2.cell? ⟨B,j * 7+2,none⟩=some (.bool (((m:Int)+1+1) % 3 == 0)):=by rw [k2.cell rC.lt];exact set_hit rB (by omega) _
    have e6:w2.cell? ⟨B,j * 7+6,none⟩=some (.slice xa s.texts.length ca):=by rw [k2.cell rC.lt,set_miss (by omega),set_miss (by omega),set_miss (by omega)];exact d6
    have t2:= (((HT1.out.setCell (o:=j * 7) (by omega) (by omega) (.string txt)).setCell (o:=j * 7+1) (by omega) (by omega) (.bool (((m:Int)+1) % 3 == 0))).setCell (o:=j * 7+2) (by omega) (by omega) (.bool (((m:Int)+1+1) % 3 == 0))).kept k2 rC.lt
    have HG2:=hide ((((HG1.out.same (Same.setCell _ (p:= ⟨B,j * 7,none⟩) (.inl hBj) (.string txt))).same (Same.setCell _ (p:= ⟨B,j * 7+1,none⟩) (.inl hBj) (.bool (((m:Int)+1) % 3 == 0)))).same (Same.setCell _ (p:= ⟨B,j * 7+2,none⟩) (.inl hBj) (.bool (((m:Int)+1+1) % 3 == 0)))).same (k2.same _ _))
    have hr2:=rC.kept k2
    obtain ⟨⟨_,f3c⟩,f3⟩:=hr2.at (i:=j * 7+3) (by omega)
    obtain ⟨⟨_,f4c⟩,f4⟩:=hr2.at (i:=j * 7+4) (by omega)
    obtain ⟨⟨_,f5c⟩,f5⟩:=hr2.at (i:=j * 7+5) (by omega)
    have HR2:=hide hr2
    have HT2:=hide t2
    have HE:=hide (And.intro e0 (And.intro e1 e2))
    clear e0 e1 e2 rA rB rC t2 hr2 k2 HR1 HT1 HMT2 f0 f0c f1 f1c f2 f2c d6 HG1
    go_wp2_with fail
    refine (HMN.out _ (by omega) _ (((HG2.out.same (Same.setCell _ (p:= ⟨B,j * 7+3,none⟩) (.inl hBj) _)).same (Same.setCell _ (p:= ⟨B,j * 7+4,none⟩) (.inl hBj) _)).same (Same.setCell _ (p:= ⟨B,j * 7+5,none⟩) (.inl hBj) _))).mono ?_
    rintro e w3 ⟨rfl,hS3,kb3⟩
    have rA:=HR2.out.set ⟨B,j * 7+3,none⟩ rfl (.string tx2)
    have rB:=rA.set ⟨B,j * 7+4,none⟩ rfl (.int .i64 ((m:Int)+1+1+1+1))
    have rC:=rB.set ⟨B,j * 7+5,none⟩ rfl (.int .i64 ((m:Int)+1+1+1+1+1))
    have s3:=kb3.same (l2:=B) (h2:=B+1) (by omega)
    have q3:w3.cell? ⟨B,j * 7+3,none⟩=some (.string tx2):=by rw [s3.cell (Nat.le_refl _) (by omega) rC.lt,set_miss (by omega),set_miss (by omega)];exact set_hit HR2.out (by omega) _
    have q4:w3.cell? ⟨B,j * 7+4,none⟩=some (.int .i64 ((m:Int)+1+1+1+1)):=by rw [s3.cell (Nat.le_refl _) (by omega) rC.lt,set_miss (by omega)];exact set_hit rA (by omega) _
    have q5:w3.cell? ⟨B,j * 7+5,none⟩=some (.int .i64 ((m:Int)+1+1+1+1+1)):=by rw [s3.cell (Nat.le_refl _) (by omega) rC.lt];exact set_hit rB (by omega) _
    have q6:w3.cell? ⟨B,j * 7+6,none⟩=some (.slice xa s.texts.length ca):=by rw [s3.cell (Nat.le_refl _) (by omega) rC.lt,set_miss (by omega),set_miss (by omega),set_miss (by omega)];exact e6
    obtain ⟨e0,e1,e2⟩:=HE.out
    have q0:w3.cell? ⟨B,j * 7,none⟩=some (.string txt):=by rw [s3.cell (Nat.le_refl _) (by omega) rC.lt,set_miss (by omega),set_miss (by omega),set_miss (by omega)];exact e0
    have q1:w3.cell? ⟨B,j * 7+1,none⟩=some (.bool (((m:Int)+1) % 3 == 0)):=by rw [s3.cell (Nat.le_refl _) (by omega) rC.lt,set_miss (by omega),set_miss (by omega),set_miss (by omega)];exact e1
    have q2:w3.cell? ⟨B,j * 7+2,none⟩=some (.bool (((m:Int)+1+1) % 3 == 0)):=by rw [s3.cell (Nat.le_refl _) (by omega) rC.lt,set_miss (by omega),set_miss (by omega),set_miss (by omega)];exact e2
    rw [mod3 m 1 _ (by omega)] at q1
    rw [mod3 m 2 _ (by omega)] at q2
    rw [show (m:Int)+1+1+1+1= ((m+4:Nat):Int) by omega] at q4
    rw [show (m:Int)+1+1+1+1+1= ((m+5:Nat):Int) by omega] at q5
    rw [HTX.out] at q0
    rw [HTX2.out] at q3
    have HQ:=hide (range7x q0 q1 q2 q3 q4 q5 q6)
    have t3:= (((HT2.out.setCell (o:=j * 7+3) (by omega) (by omega) (.string tx2)).setCell (o:=j * 7+4) (by omega) (by omega) (.int .i64 ((m:Int)+1+1+1+1))).setCell (o:=j * 7+5) (by omega) (by omega) (.int .i64 ((m:Int)+1+1+1+1+1))).but kb3 (Nat.le_refl _) (Nat.le_refl _) (.inl hBj) rC.lt
    have HR3:=hide (s3.row (Nat.le_refl _) (by omega) rC)
    have HT3:=hide t3
    have HS3:=hide hS3
    obtain ⟨m6,hm6⟩: ∃m6,m6=m+6+s.texts.length:= ⟨_,rfl⟩
    rw [←hm6]
    have HM6:=hide hm6
    have hm6b:m6≤4611686018427387904:=by omega
    clear q0 q1 q2 q3 q4 q5 q6 e0 e1 e2 e6 rA rB rC t3 kb3 s3 f3 f3c f4 f4c f5 f5c HR2 HT2 HE HMN hm6 hS3 HG2
    go_wp2
    go_roundw
    case rel=>
     have tF:=HT3.out
     have hmono:=HMono.out
     refine ⟨j+1,m6,by omega,by go_num,by go_num,by have h1:=HMn.out;have h2:=HM6.out;have h3:=HSum.out;have h4:cntRun s=6+s.texts.length:=rfl;omega,hw.trans (tF.keptBut (by omega) (by have:=hmono (j+1) l.length (by omega);omega) (by omega) (by have:=hmono 0 l.length (Nat.zero_le _);omega)),HR3.out,fun t ht=> ?_⟩
     by_cases e:t=j
     ·subst e
      refine ⟨xa,ca, ?_, ?_,HG6.out⟩
      ·have em: (runMixX l k (t+1) t).cells xa ca=[.string (mtext m),.bool (decide ((m+1) % 3=0)),.bool (decide ((m+2) % 3=0)),.string (mtext (m+3)),.int .i64 ((m+4:Nat):Int),.int .i64 ((m+5:Nat):Int),.slice xa s.texts.length ca]:=by
        unfold runMixX
        rw [if_pos (by omega),←HMn.out,←HSd.out]
        simp [markRunX,RunX.cells,markStrs_length]
       rw [em]
       exact HQ.out
      ·have em: (runMixX l k (t+1) t).texts=markStrs s.texts (m+6):=by
        unfold runMixX
        rw [if_pos (by omega),←HMn.out,←HSd.out]
        rfl
       rw [em]
       exact HS3.out
     ·have em:runMixX l k (j+1) t=runMixX l k j t:=by
       unfold runMixX
       by_cases h:t < j
       ·rw [if_pos h,if_pos (by omega)]
       ·rw [if_neg h,if_neg (by omega)]
      rw [em]
      obtain ⟨x,cx,z1,z2,z3⟩:=HF.out t ht
      have hBt:B < c t:=Nat.lt_of_lt_of_le hBc (hmono 0 t (Nat.zero_le _))
      refine ⟨x,cx,tF.range (by simp [RunX.cells];omega) z1,z2.same (tF.same ?_ (.inl hBt)),z3⟩
      rcases Nat.lt_or_gt_of_ne e with h | h
      ·left;exact hmono (t+1) j (by omega)
      ·right;exact hmono (j+1) t (by omega)
    case measure=> simp [intOf];omega
   ·have:j=l.length:=by omega
    subst this
    go_wp2
    go_ret
    refine ⟨ret_int (by have:=HMn.out;rw [sumTo_all] at this;omega),.inr ⟨B,c,rfl,hlo,hBc,by rw [markRunsX_length];exact hhi,by rw [markRunsX_length];exact hr',HMono.out,fun i hi'=> ?_⟩,hw⟩
    rw [markRunsX_length] at hi'
    have:=HF.out i hi'
    rw [markRunsX_getD _ _ _ hi']
    unfold runMixX at this
    rw [if_pos hi'] at this
    exact this
set_option maxHeartbeats 800000 in
theorem markStateX_any (w:World) (lo mid hi:Nat) (a d:Option Addr) (cap e0:Nat) (roots:List ByteArray) (l:List RunX) (k:Nat) (h0:0 < k) (h1:k+roots.length+ (l.map cntRun).sum≤4611686018427387904) (hm1:lo≤mid) (hm2:mid≤hi) (hhi:hi≤w.heap.size) (hR:StrsIn w lo mid a roots) (hS:RunsInX w mid hi d l):
  Calls Tryz.prog 17 #[.agg #[.slice a roots.length cap,.slice d l.length e0],.int .i64 k] w fun e w'=> e= .returned (.int .i64 ((k+roots.length+ (l.map cntRun).sum:Nat):Int))∧StrsIn w' lo mid a (markStrs roots k)∧RunsInX w' mid hi d (markRunsX l (k+roots.length))∧KeptBut lo hi w w':=by
 obtain ⟨W0,hW0⟩: ∃W0,W0=w.alloc (.cells #[.slice a roots.length cap,.slice d l.length e0] 41):= ⟨_,rfl⟩
 have k0:Kept w W0:=by rw [hW0];exact (Kept.refl _).alloc _
 have b0:W0.cell? ⟨w.heap.size,0,none⟩=some (.slice a roots.length cap):= (twoCells (w:=w) (by rw [hW0];exact Kept.refl _)).1
 have b1:W0.cell? ⟨w.heap.size,1,none⟩=some (.slice d l.length e0):= (twoCells (w:=w) (by rw [hW0];exact Kept.refl _)).2
 have z0:w.heap.size < W0.heap.size:=by rw [hW0];simp
 go_enter Tryz.func17,Tryz.ntmps17
 go_wp2_with fail
 rw [←hW0]
 clear hW0
 refine (markStringS_any _ lo mid a cap roots k h0 (by omega) (hR.same (k0.same _ _))).mono ?_
 rintro e w1 ⟨rfl,hR1,kb1⟩
 have s1:=kb1.same (l2:=w.heap.size) (h2:=w.heap.size+1) (by omega)
 have c1:= (s1.cell (o:=1) (Nat.le_refl _) (by omega) z0).trans b1
 obtain ⟨m,hm⟩: ∃m,m=k+roots.length:= ⟨_,rfl⟩
 rw [←hm]
 have hmb:m+ (l.map cntRun).sum≤4611686018427387904:=by omega
 have hm0:0 < m:=by omega
 have HS1:=hide ((hS.same (k0.same _ _)).same (kb1.same (l2:=mid) (h2:=hi) (by omega)))
 have HR1:=hide hR1
 have HM:=hide hm
 have hz1:=kb1.size
 clear hm b0 b1 hR1 s1
 go_wp2_with fail
 refine (markRunSX_any _ mid hi d e0 l m hm0 hmb HS1.out).mono ?_
 rintro e w2 ⟨rfl,hS2,kb2⟩
 have HS2:=hide hS2
 have HR2:=hide (HR1.out.same (kb2.same (l2:=lo) (h2:=mid) (by omega)))
 have HK:=hide (((KeptBut.of_kept k0).trans (kb1.mono (Nat.le_refl _) hm2)).trans (kb2.mono hm1 (Nat.le_refl _)))
 clear hS2 kb2 kb1 k0
 go_wp2
 go_ret
 rw [←HM.out]
 exact ⟨rfl,HR2.out,HS2.out,HK.out⟩
def pickX (picks:List Int) (i:Nat):Int:=if picks=[] then 0 else if picks.getD (i % picks.length) 0 < 0 then 0 else picks.getD (i % picks.length) 0
def placeX (picks:List Int) (i n:Nat):Nat:= (pickX picks i).toNat % n
theorem placeX_lt (picks:List Int) (i:Nat) {n:Nat} (h:0 < n):placeX picks i n < n:=Nat.mod_lt _ h
inductive OrdW (webl:List NodeD) (picks:List Int):List RunX→List ByteArray→List RunX→List ByteArray→Prop
 | stop {T:List RunX} {D:List ByteArray} (h:ReadyL (actsOf webl) (envOf T) T []):OrdW webl picks T D T D
 | step {T T':List RunX} {D D' ns:List ByteArray} {r:RunX} (h:ReadyL (actsOf webl) (envOf T) T ns) (hn:0 < ns.length) (hr:envOf T (ns.getD (placeX picks D.length ns.length) ByteArray.empty)=some r)
   (hw:OrdW webl picks (doL (actsOf webl) T r) (D++ [ns.getD (placeX picks D.length ns.length) ByteArray.empty]) T' D'):OrdW webl picks T D T' D'
theorem OrdW.unique {webl:List NodeD} {picks:List Int} {T T1 T2:List RunX} {D D1 D2:List ByteArray} (h:OrdW webl picks T D T1 D1) (g:OrdW webl picks T D T2 D2):T1=T2∧D1=D2:=by
 induction h with
 | stop h=>
  cases g with
  | stop=> exact ⟨rfl,rfl⟩
  | step h' hn=>
   rw [h'.unique h] at hn
   exact absurd hn (Nat.lt_irrefl 0)
 | step h hn hr _ ih=>
  cases g with
  | stop h'=>
   rw [h.unique h'] at hn
   exact absurd hn (Nat.lt_irrefl 0)
  | step h' hn' hr' hw'=>
   obtain rfl:=h.unique h'
   rw [hr] at hr'
   obtain rfl:=Option.some.inj hr'
   exact ih hw'
theorem potOf_le23 (x:Option RunX):potOf x≤23:=by
 cases x with
 | none=> exact Nat.le_refl _
 | some r=>
  show (if r.over=true then 0 else 22 - r.visits.toNat)≤23
  split <;> omega
theorem potAll_le23 (σ:Env): ∀l:List ByteArray,potAll l σ≤23 * l.length
 | []=> Nat.zero_le _
 | n :: l=> by
  have h:=potAll_le23 σ l
  have h2:=potOf_le23 (σ n)
  have e:potAll (n :: l) σ=potOf (σ n)+potAll l σ:=by simp [potAll]
  rw [e,List.length_cons]
  omega
theorem potL_le23 (webl:List NodeD) (l:List RunX):potL webl l≤23 * webl.length:=by
 have h:=potAll_le23 (envOf l) (webl.map (·.name))
 rw [List.length_map] at h
 exact h
structure OrdI (webl:List NodeD) (picks:List Int) (T0 T:List RunX) (D:List ByteArray):Prop where
 good:GoodL webl T
 fits:D.length+potL webl T≤potL webl T0
 on: ∀T' D',OrdW webl picks T D T' D'→OrdW webl picks T0 [] T' D'
theorem OrdI.start {webl:List NodeD} {picks:List Int} {T:List RunX} (h:GoodL webl T):OrdI webl picks T T []:= ⟨h,by simp,fun _ _ h=> h⟩
theorem OrdI.next {webl:List NodeD} {picks:List Int} {T0 T:List RunX} {D ns:List ByteArray} (h:OrdI webl picks T0 T D) (hok:ActsOk (actsOf webl)) (hR:ReadyL (actsOf webl) (envOf T) T ns) (hn:0 < ns.length):
  ∃r,envOf T (ns.getD (placeX picks D.length ns.length) ByteArray.empty)=some r∧CanGo (actsOf webl) (envOf T) r∧OrdI webl picks T0 (doL (actsOf webl) T r) (D++ [ns.getD (placeX picks D.length ns.length) ByteArray.empty])∧potL webl (doL (actsOf webl) T r) < potL webl T:=by
 have hm:ns.getD (placeX picks D.length ns.length) ByteArray.empty∈ns:=by
  have hk:=placeX_lt picks D.length hn
  simp only [List.getD,List.getElem?_eq_getElem hk,Option.getD_some]
  exact List.getElem_mem hk
 obtain ⟨r,hr,hc⟩:= (hR.ready h.good.asc _).1 hm
 have hp:=potL_do h.good hr hc
 refine ⟨r,hr,hc,⟨doL_good hok h.good (env_mem hr).1 hc, ?_,fun T' D' hw=> h.on T' D' (.step hR hn hr hw)⟩,hp⟩
 have:=h.fits
 rw [List.length_append]
 show D.length+1+_≤_
 omega
end Go.Proofs.YteknkpfbjapoiaaGreatDoor
namespace Go.Proofs.YteknkpfbjapoiaaGreatDoor
section
variable (E : ByteArray → ByteArray → Prop)
inductive RW (g:ByteArray):Nat→ByteArray→Prop
 | one {a:ByteArray} (h:E a g):RW g 1 a
 | step {n:Nat} {a b:ByteArray} (h:E a b) (hb:lessX g b) (r:RW g n b):RW g (n+1) a
def FarR (g:ByteArray) (n:Nat) (a:ByteArray):Prop:=RW E g n a∧∀m,m < n→¬RW E g m a
def LeastN (p:ByteArray→Prop) (x:ByteArray):Prop:=p x∧∀y,p y→¬lessX y x
inductive CircR (g:ByteArray):Nat→ByteArray→List ByteArray→Prop
 | stop (a:ByteArray):CircR g 1 a [a]
 | step {n:Nat} {a x:ByteArray} {l:List ByteArray} (h:LeastN (fun y=> E a y∧lessX g y∧FarR E g n y) x) (r:CircR g n x l):CircR g (n+1) a (a :: l)
inductive CircU (g:ByteArray):Nat→ByteArray→List ByteArray→Prop
 | stop (a:ByteArray):CircU g 1 a [a]
 | step {n:Nat} {a x:ByteArray} {l:List ByteArray} (h:LeastN (fun y=> E a y∧Far E g n y) x) (r:CircU g n x l):CircU g (n+1) a (a :: l)
def CircX (l:List ByteArray):Prop:=
 ((∀x n,1≤n→¬WalkN E n x x)∧l=[])∨∃m t,1≤m∧(∀x n,1≤n→WalkN E n x x→m≤n)∧LeastN (fun x=> WalkN E m x x) t∧CircU E t m t l
end
section
variable {E : ByteArray → ByteArray → Prop}
theorem LeastN.unique {p q:ByteArray→Prop} (hpq: ∀x,p x↔q x) {x y:ByteArray} (h:LeastN p x) (k:LeastN q y):x=y:=by
 rcases lessX_total x y with e | e | e
 ·exact absurd e (k.2 x ((hpq x).1 h.1))
 ·exact e
 ·exact absurd e (h.2 y ((hpq y).2 k.1))
theorem LeastN.iff {p q:ByteArray→Prop} (hpq: ∀x,p x↔q x) {x:ByteArray} (h:LeastN p x):LeastN q x:= ⟨(hpq x).1 h.1,fun y hy=> h.2 y ((hpq y).2 hy)⟩
theorem RW.pos {g a:ByteArray} {n:Nat} (h:RW E g n a):1≤n:=by cases h <;> omega
theorem RW.walk {g a:ByteArray} {n:Nat} (h:RW E g n a):WalkN E n a g:=by
 induction h with
 | one h=> exact WalkN.one h
 | step h _ _ ih=> exact .step h ih
theorem RW.far {g:ByteArray}: ∀{n:Nat} {a:ByteArray},RW E g n a→∃m,m≤n∧FarR E g m a:=by
 intro n
 induction n using Nat.strongRecOn with
 | ind n ih=>
  intro a h
  by_cases hm: ∃m,m < n∧RW E g m a
  ·obtain ⟨m,h1,h2⟩:=hm
   obtain ⟨q,h3,h4⟩:=ih m h1 h2
   exact ⟨q,by omega,h4⟩
  ·exact ⟨n,Nat.le_refl _,h,fun m h1 h2=> hm ⟨m,h1,h2⟩⟩
theorem FarR.unique {g a:ByteArray} {n m:Nat} (h:FarR E g n a) (k:FarR E g m a):n=m:=by
 rcases Nat.lt_trichotomy n m with e | e | e
 ·exact absurd h.1 (k.2 n e)
 ·exact e
 ·exact absurd k.1 (h.2 m e)
theorem FarR.one {g a:ByteArray}:FarR E g 1 a↔E a g:=by
 constructor
 ·intro h
  generalize hn: (1:Nat)=n at h
  have h1:=h.1
  cases h1 with
  | one h=> exact h
  | step _ _ r=> have:=r.pos;omega
 ·intro h
  exact ⟨.one h,fun m hm hr=> by have:=hr.pos;omega⟩
theorem FarR.succ {g a:ByteArray} {n:Nat} (hn:1≤n):FarR E g (n+1) a↔(∃b,E a b∧lessX g b∧FarR E g n b)∧∀m,m≤n→¬FarR E g m a:=by
 constructor
 ·intro h
  refine ⟨?_,fun m hm hf=> h.2 m (by omega) hf.1⟩
  have h1:=h.1
  generalize hk:n+1=k at h1
  cases h1 with
  | one h=> omega
  | @step q _ b h1 hb r=>
   have hq:q=n:=by omega
   subst hq
   obtain ⟨m,h2,h3⟩:=r.far
   rcases Nat.lt_or_ge m q with e | e
   ·exact absurd (RW.step h1 hb h3.1) (h.2 (m+1) (by omega))
   ·have:m=q:=by omega
    subst this
    exact ⟨b,h1,hb,h3⟩
 ·rintro ⟨⟨b,h1,h2,h3⟩,h4⟩
  refine ⟨.step h1 h2 h3.1,fun m hm hr=> ?_⟩
  obtain ⟨q,h5,h6⟩:=hr.far
  exact h4 q (by omega) h6
theorem FarR.levels {g:ByteArray}: ∀{n:Nat} {a:ByteArray},FarR E g n a→∃l:List ByteArray,l.length=n∧(∀x∈l,∃y,E x y)∧(∀i (hi:i < l.length),FarR E g (i+1) l[i]):=by
 intro n
 induction n with
 | zero=> intro a h;have:=h.1.pos;omega
 | succ n ih=>
  intro a h
  have hstep: ∃y,E a y:=by
   have h1:=h.1
   cases h1 with
   | one h=> exact ⟨_,h⟩
   | step h _ _=> exact ⟨_,h⟩
  by_cases hn:n=0
  ·subst hn
   exact ⟨[a],rfl,fun x hx=> by rw [List.mem_singleton] at hx;rw [hx];exact hstep,fun i hi=> by
    simp at hi
    subst hi
    exact h⟩
  ·obtain ⟨⟨b,h1,_,h3⟩,_⟩:= (FarR.succ (by omega)).1 h
   obtain ⟨l,e1,e2,e3⟩:=ih h3
   refine ⟨l++ [a],by simp [e1],fun x hx=> ?_,fun i hi=> ?_⟩
   ·rcases List.mem_append.1 hx with g | g
    ·exact e2 x g
    ·rw [List.mem_singleton] at g;rw [g];exact hstep
   ·by_cases e:i < l.length
    ·rw [List.getElem_append_left e];exact e3 i e
    ·have:i=l.length:=by simp at hi;omega
     subst this
     simp only [List.getElem_append_right (Nat.le_refl _),Nat.sub_self,List.getElem_cons_zero]
     rw [e1]
     exact h
theorem FarR.bound {g a:ByteArray} {n:Nat} (h:FarR E g n a) {names:List ByteArray} (hn: ∀x y,E x y→x∈names):n≤names.length:=by
 obtain ⟨l,e1,e2,e3⟩:=h.levels
 rw [←e1]
 refine List.Nodup.length_le_of_subset ?_ (fun x hx=> by obtain ⟨y,hy⟩:=e2 x hx;exact hn x y hy)
 rw [List.Nodup,List.pairwise_iff_getElem]
 intro i j hi hj hij e
 have h1:=e3 i hi
 rw [e] at h1
 have:=h1.unique (e3 j hj)
 omega
theorem CircU.unique {g:ByteArray} {n:Nat} {a:ByteArray} {l m:List ByteArray} (h:CircU E g n a l) (k:CircU E g n a m):l=m:=by
 induction h generalizing m with
 | stop a=>
  generalize hn: (1:Nat)=n at k
  cases k with
  | stop=> rfl
  | step _ r=> have:1≤_:= (show∀{q x l},CircU E g q x l→1≤q from fun c=> by cases c <;> omega) r;omega
 | @step n a x l h r ih=>
  generalize hn:n+1=n' at k
  cases k with
  | stop=> have:1≤n:= (show∀{q x l},CircU E g q x l→1≤q from fun c=> by cases c <;> omega) r;omega
  | @step q _ y l' h' r'=>
   have e:q=n:=by omega
   subst e
   have:=LeastN.unique (fun _=> Iff.rfl) h h'
   subst this
   rw [ih r']
theorem CircX.unique {l m:List ByteArray} (h:CircX E l) (k:CircX E m):l=m:=by
 rcases h with ⟨h1,rfl⟩ | ⟨m1,t,h0,h1,h2,h3⟩ <;> rcases k with ⟨k1,rfl⟩ | ⟨m2,u,k0,k1,k2,k3⟩
 ·rfl
 ·exact absurd k2.1 (h1 u m2 k0)
 ·exact absurd h2.1 (k1 t m1 h0)
 ·have e:m1=m2:=by
   have a1:=h1 u m2 k0 k2.1
   have a2:=k1 t m1 h0 h2.1
   omega
  subst e
  have e2:=LeastN.unique (fun _=> Iff.rfl) h2 k2
  subst e2
  exact h3.unique k3
structure BestR (E:ByteArray→ByteArray→Prop) (gs:List ByteArray) (best:List ByteArray):Prop where
 no:best=[]→∀g∈gs,∀n,¬FarR E g n g
 yes:best≠[]→∃g n,g∈gs∧FarR E g n g∧CircR E g n g best∧best.length=n∧(∀h∈gs,∀k,FarR E h k h→n≤k∧(lessX h g→n < k))
end
end Go.Proofs.YteknkpfbjapoiaaGreatDoor
