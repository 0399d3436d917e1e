import Derived.Test.YteknkpfbjapoiaaGreatDoorKBBehind
import Derived.Test.YteknkpfbjapoiaaGreatDoorKXSame2
import Derived.Test.YteknkpfbjapoiaaGreatDoorKBSem
import Derived.Maps.RangeWalk
import Derived.Test.YteknkpfbjapoiaaGreatDoorKXNext
import Derived.Test.YteknkpfbjapoiaaGreatDoorKRTo
import Derived.Test.YteknkpfbjapoiaaGreatDoorKVUses
import Derived.Test.YteknkpfbjapoiaaGreatDoorKXValid0
import Derived.Test.YteknkpfbjapoiaaGreatDoorKXHas
namespace Go.Proofs.YteknkpfbjapoiaaGreatDoor
open Go.RowKit
set_option maxRecDepth 100000 in
set_option maxHeartbeats 3200000 in
theorem equalTexts_any (w:World) (a a':Option Addr) (c c':Nat) (l l':List ByteArray) (hl:l.length≤1048576) (_hl':l'.length≤1048576) (hS:Strs w a l) (hS':Strs w a' l'):
  Calls Tryz.prog 127 #[.slice a l.length c,.slice a' l'.length c'] w fun e w'=> e= .returned (.bool (decide (l=l')))∧Kept w w':=by
 go_enter Tryz.func127,Tryz.ntmps127
 by_cases hlen:l.length=l'.length
 ·have hlb: ((l.length:Int) != (l'.length:Int))=false:=by simp [hlen]
  have hle: (l.length:Int)= (l'.length:Int):=by omega
  go_wp2
  go_loopw [13] (fun i wr=> ∃k:Nat,k≤l.length∧i= .int .i64 k∧Hid (∀j,j < k→l.getD j ByteArray.empty=l'.getD j ByteArray.empty)∧Kept w wr) (fun i _=> l.length - (intOf i).toNat)
  case atStart=> exact ⟨0,Nat.zero_le _,rfl,hide fun j hj=> absurd hj (Nat.not_lt_zero _),Kept.refl _⟩
  case round=>
   obtain ⟨k,hk,rfl,HG,KW⟩:=hrel
   by_cases hlt:k < l.length
   ·obtain ⟨b,o,rfl,hb,hc⟩:=hS.kept KW k hlt
    obtain ⟨b',o',rfl,hb',hc'⟩:=hS'.kept KW k (by omega)
    have i0: (k:Int) < (l.length:Int):=by omega
    have i1: (k:Int) < (l'.length:Int):=by omega
    obtain ⟨x,hx⟩: ∃x,x=l.getD k ByteArray.empty:= ⟨_,rfl⟩
    obtain ⟨y,hy⟩: ∃y,y=l'.getD k ByteArray.empty:= ⟨_,rfl⟩
    rw [←hx] at hc
    rw [←hy] at hc'
    have HX:=hide hx
    have HY:=hide hy
    clear hx hy
    cases hne: (x.toList == y.toList)
    ·have hnb: (x.toList != y.toList)=true:=by rw [bne,hne];rfl
     go_upto_region 6 with fail
     go_quiet (fail)
     go_wp2_with fail
     go_ret
     have hnn: ¬l=l':=fun e=> by
      have h1:=beq_no hne
      rw [HX.out,HY.out,e] at h1
      exact h1 rfl
     exact ⟨by rw [decide_eq_false hnn];rfl,KW.drewN _⟩
    ·have hnb: (x.toList != y.toList)=false:=by rw [bne,hne];rfl
     go_upto_region 6 with fail
     go_quiet (fail)
     go_wp2_with fail
     go_roundw
     case rel=>
      refine ⟨k+1,by omega,by go_num,hide fun j hj=> ?_,KW.drewN _⟩
      by_cases e:j=k
      ·rw [e,←HX.out,←HY.out];exact beq_yes hne
      ·exact HG.out j (by omega)
     case measure=> simp [intOf];omega
   ·go_wp2_with fail
    go_ret
    have hee:l=l':=list_ext_getD hlen fun j hj=> HG.out j (by omega)
    exact ⟨by rw [decide_eq_true hee];rfl,KW⟩
 ·have hlb: ((l.length:Int) != (l'.length:Int))=true:=by simp;omega
  have hle: ¬(l.length:Int)= (l'.length:Int):=by omega
  have hnn: ¬l=l':=fun e=> hlen (by rw [e])
  have HN:=hide hnn
  clear hnn
  go_wp2
  go_ret
  exact ⟨by rw [decide_eq_false HN.out];rfl,Kept.refl _⟩
set_option maxRecDepth 100000 in
set_option maxHeartbeats 6400000 in
theorem sameRunB_any (w:World) (tb:Nat) (r r':RunX) (ta xa:Option Addr) (tc xc:Nat) (ht:tb < w.heap.size) (hc:w.rangeAt tb 0 (r.cells ta tc)) (hl:r.texts.length≤1048576) (hl':r'.texts.length≤1048576) (hS:Strs w ta r.texts) (hS':Strs w xa r'.texts):
  Calls Tryz.prog 77 #[.pointer (some ⟨tb,0,none⟩),.agg #[.string r'.name,.bool r'.over,.bool r'.fail,.string r'.text,.int .i64 r'.at',.int .i64 r'.visits,.slice xa r'.texts.length xc]] w
   fun e w'=> Says e (r=r')∧Kept w w':=by
 obtain ⟨n,ov,fl,tx,at1,vi,ts⟩:=r
 obtain ⟨n',ov',fl',tx',at1',vi',ts'⟩:=r'
 dsimp only at hl hl' hS hS'⊢
 have k0:Kept w (w.alloc (.cells #[.string n',.bool ov',.bool fl',.string tx',.int .i64 at1',.int .i64 vi',.slice xa ts'.length xc] 76)):= (Kept.refl _).alloc _
 have hne: ¬tb=w.heap.size:=by omega
 have htW:tb < (w.alloc (.cells #[.string n',.bool ov',.bool fl',.string tx',.int .i64 at1',.int .i64 vi',.slice xa ts'.length xc] 76)).heap.size:=by simp;omega
 have hxW:w.heap.size < (w.alloc (.cells #[.string n',.bool ov',.bool fl',.string tx',.int .i64 at1',.int .i64 vi',.slice xa ts'.length xc] 76)).heap.size:=by simp
 have c0: (w.alloc (.cells #[.string n',.bool ov',.bool fl',.string tx',.int .i64 at1',.int .i64 vi',.slice xa ts'.length xc] 76)).cell? ⟨tb,0,none⟩=some (.string n):= (k0.cell ht).trans (by have h:=hc 0 _ rfl;simpa using h)
 have d0: (w.alloc (.cells #[.string n',.bool ov',.bool fl',.string tx',.int .i64 at1',.int .i64 vi',.slice xa ts'.length xc] 76)).cell? ⟨w.heap.size,0,none⟩=some (.string n'):=range_new w #[.string n',.bool ov',.bool fl',.string tx',.int .i64 at1',.int .i64 vi',.slice xa ts'.length xc] 76 0 _ rfl
 have c1: (w.alloc (.cells #[.string n',.bool ov',.bool fl',.string tx',.int .i64 at1',.int .i64 vi',.slice xa ts'.length xc] 76)).cell? ⟨tb,1,none⟩=some (.bool ov):= (k0.cell ht).trans (by have h:=hc 1 _ rfl;simpa using h)
 have d1: (w.alloc (.cells #[.string n',.bool ov',.bool fl',.string tx',.int .i64 at1',.int .i64 vi',.slice xa ts'.length xc] 76)).cell? ⟨w.heap.size,1,none⟩=some (.bool ov'):=range_new w #[.string n',.bool ov',.bool fl',.string tx',.int .i64 at1',.int .i64 vi',.slice xa ts'.length xc] 76 1 _ rfl
 have c2: (w.alloc (.cells #[.string n',.bool ov',.bool fl',.string tx',.int .i64 at1',.int .i64 vi',.slice xa ts'.length xc] 76)).cell? ⟨tb,2,none⟩=some (.bool fl):= (k0.cell ht).trans (by have h:=hc 2 _ rfl;simpa using h)
 have d2: (w.alloc (.cells #[.string n',.bool ov',.bool fl',.string tx',.int .i64 at1',.int .i64 vi',.slice xa ts'.length xc] 76)).cell? ⟨w.heap.size,2,none⟩=some (.bool fl'):=range_new w #[.string n',.bool ov',.bool fl',.string tx',.int .i64 at1',.int .i64 vi',.slice xa ts'.length xc] 76 2 _ rfl
 have c3: (w.alloc (.cells #[.string n',.bool ov',.bool fl',.string tx',.int .i64 at1',.int .i64 vi',.slice xa ts'.length xc] 76)).cell? ⟨tb,3,none⟩=some (.string tx):= (k0.cell ht).trans (by have h:=hc 3 _ rfl;simpa using h)
 have d3: (w.alloc (.cells #[.string n',.bool ov',.bool fl',.string tx',.int .i64 at1',.int .i64 vi',.slice xa ts'.length xc] 76)).cell? ⟨w.heap.size,3,none⟩=some (.string tx'):=range_new w #[.string n',.bool ov',.bool fl',.string tx',.int .i64 at1',.int .i64 vi',.slice xa ts'.length xc] 76 3 _ rfl
 have c4: (w.alloc (.cells #[.string n',.bool ov',.bool fl',.string tx',.int .i64 at1',.int .i64 vi',.slice xa ts'.length xc] 76)).cell? ⟨tb,4,none⟩=some (.int .i64 at1):= (k0.cell ht).trans (by have h:=hc 4 _ rfl;simpa using h)
 have d4: (w.alloc (.cells #[.string n',.bool ov',.bool fl',.string tx',.int .i64 at1',.int .i64 vi',.slice xa ts'.length xc] 76)).cell? ⟨w.heap.size,4,none⟩=some (.int .i64 at1'):=range_new w #[.string n',.bool ov',.bool fl',.string tx',.int .i64 at1',.int .i64 vi',.slice xa ts'.length xc] 76 4 _ rfl
 have c5: (w.alloc (.cells #[.string n',.bool ov',.bool fl',.string tx',.int .i64 at1',.int .i64 vi',.slice xa ts'.length xc] 76)).cell? ⟨tb,5,none⟩=some (.int .i64 vi):= (k0.cell ht).trans (by have h:=hc 5 _ rfl;simpa using h)
 have d5: (w.alloc (.cells #[.string n',.bool ov',.bool fl',.string tx',.int .i64 at1',.int .i64 vi',.slice xa ts'.length xc] 76)).cell? ⟨w.heap.size,5,none⟩=some (.int .i64 vi'):=range_new w #[.string n',.bool ov',.bool fl',.string tx',.int .i64 at1',.int .i64 vi',.slice xa ts'.length xc] 76 5 _ rfl
 have c6: (w.alloc (.cells #[.string n',.bool ov',.bool fl',.string tx',.int .i64 at1',.int .i64 vi',.slice xa ts'.length xc] 76)).cell? ⟨tb,6,none⟩=some (.slice ta ts.length tc):= (k0.cell ht).trans (by have h:=hc 6 _ rfl;simpa using h)
 have d6: (w.alloc (.cells #[.string n',.bool ov',.bool fl',.string tx',.int .i64 at1',.int .i64 vi',.slice xa ts'.length xc] 76)).cell? ⟨w.heap.size,6,none⟩=some (.slice xa ts'.length xc):=range_new w #[.string n',.bool ov',.bool fl',.string tx',.int .i64 at1',.int .i64 vi',.slice xa ts'.length xc] 76 6 _ rfl
 clear hc
 go_enter Tryz.func77,Tryz.ntmps77
 go_upto_region 1 with fail
 generalize hW: (w.alloc (.cells #[.string n',.bool ov',.bool fl',.string tx',.int .i64 at1',.int .i64 vi',.slice xa ts'.length xc] 76))=W at *
 clear hW
 go_cut [5] from 7 to 34 (fun s5 wx=> Kept W wx∧s5= .bool (decide (ov=ov'∧fl=fl'∧tx=tx')))
 case first=>
  by_cases h1:ov=ov'
  ·have b1: (ov == ov')=true:=by simp [h1]
   by_cases h2:fl=fl'
   ·have b2: (fl == fl')=true:=by simp [h2]
    have H1:=hide h1
    have H2:=hide h2
    clear h1 h2
    cases h3: (tx.toList == tx'.toList)
    ·go_region
     all_goals
      go_wp2_with fail
      go_meet
      exact ⟨(Kept.refl _).drew,by rw [decide_eq_false (fun h=> beq_no h3 (by rw [h.2.2]))]⟩
    ·go_region
     all_goals
      go_wp2_with fail
      go_meet
      exact ⟨(Kept.refl _).drew,by rw [decide_eq_true ⟨H1.out,H2.out,beq_yes h3⟩]⟩
   ·have b2: (fl == fl')=false:=by simp [h2]
    have H1:=hide h1
    have H2:=hide h2
    clear h1 h2
    go_region
    all_goals
     go_wp2_with fail
     go_meet
     exact ⟨(Kept.refl _).drew,by rw [decide_eq_false (fun h=> H2.out h.2.1)]⟩
  ·have b1: (ov == ov')=false:=by simp [h1]
   have H1:=hide h1
   clear h1
   go_region
   all_goals
    go_wp2_with fail
    go_meet
    exact ⟨(Kept.refl _).drew,by rw [decide_eq_false (fun h=> H1.out h.1)]⟩
 case rest=>
  obtain ⟨kk,rfl⟩:=hcut
  generalize hE:decide (ov=ov'∧fl=fl'∧tx=tx')=sE
  have HE:=hide hE
  clear hE
  obtain ⟨wA,rfl⟩: ∃wA,wA=wc:= ⟨_,rfl⟩
  have t0:wA.cell? ⟨tb,0,none⟩=some (.string n):= (kk.cell htW).trans c0
  have x0:wA.cell? ⟨w.heap.size,0,none⟩=some (.string n'):= (kk.cell hxW).trans d0
  have t1:wA.cell? ⟨tb,1,none⟩=some (.bool ov):= (kk.cell htW).trans c1
  have x1:wA.cell? ⟨w.heap.size,1,none⟩=some (.bool ov'):= (kk.cell hxW).trans d1
  have t2:wA.cell? ⟨tb,2,none⟩=some (.bool fl):= (kk.cell htW).trans c2
  have x2:wA.cell? ⟨w.heap.size,2,none⟩=some (.bool fl'):= (kk.cell hxW).trans d2
  have t3:wA.cell? ⟨tb,3,none⟩=some (.string tx):= (kk.cell htW).trans c3
  have x3:wA.cell? ⟨w.heap.size,3,none⟩=some (.string tx'):= (kk.cell hxW).trans d3
  have t4:wA.cell? ⟨tb,4,none⟩=some (.int .i64 at1):= (kk.cell htW).trans c4
  have x4:wA.cell? ⟨w.heap.size,4,none⟩=some (.int .i64 at1'):= (kk.cell hxW).trans d4
  have t5:wA.cell? ⟨tb,5,none⟩=some (.int .i64 vi):= (kk.cell htW).trans c5
  have x5:wA.cell? ⟨w.heap.size,5,none⟩=some (.int .i64 vi'):= (kk.cell hxW).trans d5
  have t6:wA.cell? ⟨tb,6,none⟩=some (.slice ta ts.length tc):= (kk.cell htW).trans c6
  have x6:wA.cell? ⟨w.heap.size,6,none⟩=some (.slice xa ts'.length xc):= (kk.cell hxW).trans d6
  clear c0 c1 c2 c3 c4 c5 c6 d0 d1 d2 d3 d4 d5 d6
  have K1:=k0.trans kk
  have htA:tb < wA.heap.size:=Nat.lt_of_lt_of_le htW kk.size
  have hxA:w.heap.size < wA.heap.size:=Nat.lt_of_lt_of_le hxW kk.size
  clear kk htW hxW k0
  go_upto_region 2 with fail
  go_cut [6] from 35 to 52 (fun s6 wx=> Kept wA wx∧s6= .bool (decide (at1=at1'∧vi=vi')))
  case first=>
   by_cases h1:at1=at1'
   ·have b1: (at1 == at1')=true:=by simp [h1]
    have H1:=hide h1
    clear h1
    by_cases h2:vi=vi'
    ·have b2: (vi == vi')=true:=by simp [h2]
     have H2:=hide h2
     clear h2
     go_region
     all_goals
      go_wp2_with fail
      go_meet
      exact ⟨(Kept.refl _).drew,by rw [decide_eq_true ⟨H1.out,H2.out⟩]⟩
    ·have b2: (vi == vi')=false:=by simp [h2]
     have H2:=hide h2
     clear h2
     go_region
     all_goals
      go_wp2_with fail
      go_meet
      exact ⟨(Kept.refl _).drew,by rw [decide_eq_false (fun h=> H2.out h.2)]⟩
   ·have b1: (at1 == at1')=false:=by simp [h1]
    have H1:=hide h1
    clear h1
    go_region
    all_goals
     go_wp2_with fail
     go_meet
     exact ⟨(Kept.refl _).drew,by rw [decide_eq_false (fun h=> H1.out h.1)]⟩
  case rest=>
   obtain ⟨kk,rfl⟩:=hcut
   obtain ⟨wB,rfl⟩: ∃wB,wB=wc:= ⟨_,rfl⟩
   generalize hP:decide (at1=at1'∧vi=vi')=sP
   have HP:=hide hP
   clear hP
   have u0:wB.cell? ⟨tb,0,none⟩=some (.string n):= (kk.cell htA).trans t0
   have y0:wB.cell? ⟨w.heap.size,0,none⟩=some (.string n'):= (kk.cell hxA).trans x0
   have u1:wB.cell? ⟨tb,1,none⟩=some (.bool ov):= (kk.cell htA).trans t1
   have y1:wB.cell? ⟨w.heap.size,1,none⟩=some (.bool ov'):= (kk.cell hxA).trans x1
   have u2:wB.cell? ⟨tb,2,none⟩=some (.bool fl):= (kk.cell htA).trans t2
   have y2:wB.cell? ⟨w.heap.size,2,none⟩=some (.bool fl'):= (kk.cell hxA).trans x2
   have u3:wB.cell? ⟨tb,3,none⟩=some (.string tx):= (kk.cell htA).trans t3
   have y3:wB.cell? ⟨w.heap.size,3,none⟩=some (.string tx'):= (kk.cell hxA).trans x3
   have u4:wB.cell? ⟨tb,4,none⟩=some (.int .i64 at1):= (kk.cell htA).trans t4
   have y4:wB.cell? ⟨w.heap.size,4,none⟩=some (.int .i64 at1'):= (kk.cell hxA).trans x4
   have u5:wB.cell? ⟨tb,5,none⟩=some (.int .i64 vi):= (kk.cell htA).trans t5
   have y5:wB.cell? ⟨w.heap.size,5,none⟩=some (.int .i64 vi'):= (kk.cell hxA).trans x5
   have u6:wB.cell? ⟨tb,6,none⟩=some (.slice ta ts.length tc):= (kk.cell htA).trans t6
   have y6:wB.cell? ⟨w.heap.size,6,none⟩=some (.slice xa ts'.length xc):= (kk.cell hxA).trans x6
   have K2:=K1.trans kk
   have htB:tb < wB.heap.size:=Nat.lt_of_lt_of_le htA kk.size
   have hxB:w.heap.size < wB.heap.size:=Nat.lt_of_lt_of_le hxA kk.size
   clear kk htA hxA K1 t0 t1 t2 t3 t4 t5 t6 x0 x1 x2 x3 x4 x5 x6
   have hT:=hS.kept K2
   have hX:=hS'.kept K2
   clear hS hS'
   go_upto_region 3 with fail
   cases h0: (n.toList == n'.toList)
   ·go_region
    all_goals
     go_wp2_with fail
     go_ret
     exact ⟨Says.no (by simp [beq_no h0]),K2.drew⟩
   ·have E0:=hide (beq_yes h0)
    cases sE
    ·have hno:=of_decide_eq_false HE.out
     have HN:=hide hno
     clear hno
     go_region
     all_goals
      go_wp2_with fail
      go_ret
      exact ⟨Says.no (fun h=> absurd (by first | exact ⟨h.2.1,h.2.2.1,h.2.2.2.1⟩ | (rw [RunX.mk.injEq] at h;exact ⟨h.2.1,h.2.2.1,h.2.2.2.1⟩)) HN.out),K2.drew⟩
    ·cases sP
     ·have hno:=of_decide_eq_false HP.out
      have HN:=hide hno
      clear hno
      go_region
      all_goals
       go_wp2_with fail
       go_ret
       exact ⟨Says.no (fun h=> absurd (by first | exact ⟨h.2.2.2.2.1,h.2.2.2.2.2.1⟩ | (rw [RunX.mk.injEq] at h;exact ⟨h.2.2.2.2.1,h.2.2.2.2.2.1⟩)) HN.out),K2.drew⟩
     ·have HS0:True:=trivial
      have hSof: ∀w',Kept wB w'→(fun w'=> w'.cell? ⟨tb,0,none⟩=some (.string n)∧w'.cell? ⟨w.heap.size,0,none⟩=some (.string n')∧w'.cell? ⟨tb,6,none⟩=some (.slice ta ts.length tc)∧w'.cell? ⟨w.heap.size,6,none⟩=some (.slice xa ts'.length xc)) w':=fun w' kk=> ⟨(kk.cell htB).trans u0,(kk.cell hxB).trans y0,(kk.cell htB).trans u6,(kk.cell hxB).trans y6⟩
      have HSO:=hide hSof
      clear hSof
      refine UpTo.region (by kernel_rfl) (fun w'=> w'.cell? ⟨tb,0,none⟩=some (.string n)∧w'.cell? ⟨w.heap.size,0,none⟩=some (.string n')∧w'.cell? ⟨tb,6,none⟩=some (.slice ta ts.length tc)∧w'.cell? ⟨w.heap.size,6,none⟩=some (.slice xa ts'.length xc)) 24 (HSO.out _ ((Kept.refl wB).drew)) (fun hHeld=> ?_)
      have KD:Kept wB wB.drew:= (Kept.refl wB).drew
      generalize hwd:wB.drew=wd at hHeld KD⊢
      clear hwd
      refine UpTo.tk 0 [1,2,3,4,7,8,9,10,11,12,13,14,15,16,17,18,19,20,21,22,23,24] hHeld ?_
      try simp only [Act.put,upA,upB,upC]
      refine UpTo.tk 1 [2,3,4,7,8,9,10,11,12,13,14,15,16,17,18,19,20,21,22,23,24] hHeld ?_
      try simp only [Act.put,upA,upB,upC]
      refine UpTo.tk 2 [3,4,7,8,9,10,11,12,13,14,15,16,17,18,19,20,21,22,23,24] hHeld ?_
      try simp only [Act.put,upA,upB,upC]
      refine UpTo.tk 3 [4,7,8,9,10,11,12,13,14,15,16,17,18,19,20,21,22,23,24] hHeld ?_
      try simp only [Act.put,upA,upB,upC]
      refine UpTo.tk 4 [7,8,9,10,11,12,13,14,15,16,17,18,19,20,21,22,23,24] hHeld ?_
      try simp only [Act.put,upA,upB,upC]
      refine UpTo.tk 5 [6,7,8,9,10,11,12,13,14,15,16,17,18,19,20,21,22,23,24] hHeld ?_
      try simp only [Act.put,upA,upB,upC]
      refine UpTo.tk 6 [7,8,9,10,11,12,13,14,15,16,17,18,19,20,21,22,23,24] hHeld ?_
      try simp only [Act.put,upA,upB,upC]
      refine UpTo.tk 7 [8,9,10,11,12,13,14,15,16,17,18,19,20,21,22,23,24] hHeld ?_
      try simp only [Act.put,upA,upB,upC]
      refine UpTo.tk 8 [9,10,11,12,13,14,15,16,17,18,19,20,21,22,23,24] hHeld ?_
      try simp only [Act.put,upA,upB,upC]
      refine UpTo.tk 9 [10,11,12,13,14,15,16,17,18,19,20,21,22,23,24] hHeld ?_
      try simp only [Act.put,upA,upB,upC]
      refine UpTo.tk 10 [11,12,13,14,15,16,17,18,19,20,21,22,23,24] hHeld ?_
      try simp only [Act.put,upA,upB,upC]
      refine UpTo.tk 11 [12,13,14,15,16,17,18,19,20,21,22,23,24] hHeld ?_
      try simp only [Act.put,upA,upB,upC]
      refine UpTo.tk 12 [13,14,15,16,17,18,19,20,21,22,23,24] hHeld ?_
      try simp only [Act.put,upA,upB,upC]
      refine UpTo.tk 13 [14,15,16,17,18,19,20,21,22,23,24] hHeld ?_
      try simp only [Act.put,upA,upB,upC]
      refine UpTo.tk 14 [15,16,17,18,19,20,21,22,23,24] hHeld ?_
      try simp only [Act.put,upA,upB,upC]
      refine UpTo.tk 15 [16,17,18,19,22,23,24] hHeld ?_
      try simp only [Act.put,upA,upB,upC]
      refine UpTo.tk 16 [17,18,19,22,23,24] hHeld ?_
      try simp only [Act.put,upA,upB,upC]
      refine UpTo.tk 17 [18,19,22,23,24] hHeld ?_
      try simp only [Act.put,upA,upB,upC]
      refine UpTo.tk 18 [19,22,23,24] hHeld ?_
      try simp only [Act.put,upA,upB,upC]
      refine UpTo.tk 19 [22,23,24] hHeld ?_
      try simp only [Act.put,upA,upB,upC]
      refine UpTo.tk 20 [21,22,23,24] hHeld ?_
      try simp only [Act.put,upA,upB,upC]
      refine UpTo.tk 21 [22,23,24] hHeld ?_
      try simp only [Act.put,upA,upB,upC]
      refine UpTo.nx 22 (fun K hK=> ?_)
      rw [if_pos (by rfl)]
      go_simp
      go_at_call 127
      refine (equalTexts_any _ ta xa tc xc ts ts' hl hl' (hT.kept KD) (hX.kept KD)).mono ?_
      rintro e w1 ⟨rfl,k1⟩
      refine hK.out _ _ (fun _=> HSO.out _ (KD.trans k1)) ?_
      clear hK K
      try simp only [Act.put,upA,upB,upC]
      refine UpTo.nx 23 (fun K hK=> ?_)
      go_simp
      refine hK.out _ _ (fun _=> HSO.out _ (KD.trans k1)) ?_
      clear hK K
      try simp only [Act.put,upA,upB,upC]
      refine UpTo.nx 24 (fun K hK=> ?_)
      go_simp
      refine hK.out _ _ (fun h=> absurd rfl h) ?_
      clear hK K
      try simp only [Act.put,upA,upB,upC]
      refine UpTo.done (by kernel_rfl) ?_
      go_wp2_with fail
      go_ret
      have h1:=of_decide_eq_true HE.out
      have h2:=of_decide_eq_true HP.out
      exact ⟨says_dec (by simp [E0.out,h1.1,h1.2.1,h1.2.2,h2.1,h2.2]),(K2.trans KD).trans k1⟩
theorem Tryz.zeroWS (w:World): (zeroValue 25).run Tryz.prog w= .ok (.slice none 0 0) w:=by kernel_rfl
section
variable {w w1 w' : World} {base mo M : Nat} {g : ByteArray → Value} {ol : ByteArray → List ByteArray}
end
set_option maxHeartbeats 1600000 in
theorem sIndex_any (w:World) (a:Option Addr) (cap:Nat) (l:List ByteArray) (x:ByteArray) (hl:l.length≤1048576) (hS:Strs w a l):
  Calls Tryz.prog 147 #[.slice a l.length cap,.string x] w fun e w'=> (∃i:Int,e= .returned (.int .i64 i)∧(0≤i↔x∈l))∧w'=w:=by
 go_enter Tryz.func147,Tryz.ntmps147
 go_wp2
 go_loopw [8] (fun i wr=> ∃k:Nat,k≤l.length∧i= .int .i64 (k:Int)∧Hid (x∉l.take k)∧wr=w) (fun i _=> l.length - (intOf i).toNat)
 case atStart=> exact ⟨0,Nat.zero_le _,rfl,hide (by simp),rfl⟩
 case round=>
  obtain ⟨k,hk,rfl,HN,rfl⟩:=hrel
  by_cases hlt:k < l.length
  ·obtain ⟨b,o,e1,hb,hc⟩:=hS k hlt
   subst e1
   obtain ⟨y,hy⟩: ∃y,y=l.getD k ByteArray.empty:= ⟨_,rfl⟩
   rw [←hy] at hc
   have hyg:l[k]=y:=by rw [hy];simp [List.getD,hlt]
   have HY:=hide hyg
   have hki: (k:Int) < (l.length:Int):=by omega
   clear hy hyg
   cases heq: (x.toList == y.toList)
   ·go_wp2_with fail
    go_roundw
    case rel=>
     refine ⟨k+1,by omega,by go_num,hide (fun h=> ?_),trivial⟩
     rw [List.take_succ_eq_append_getElem hlt,HY.out] at h
     rcases List.mem_append.1 h with h | h
     ·exact HN.out h
     ·rw [List.mem_singleton] at h
      rw [h] at heq
      simp at heq
    case measure=> simp [intOf];omega
   ·go_wp2_with fail
    go_ret
    exact ⟨⟨_,rfl,fun _=> by rw [beq_yes heq,←HY.out];exact List.getElem_mem hlt,fun _=> by omega⟩,rfl⟩
  ·have hnk: ¬((k:Int) < (l.length:Int)):=by omega
   have HAll:Hid (x∉l):=by have h:=HN.out;rw [List.take_of_length_le (by omega)] at h;exact h
   clear hlt
   go_wp2_with fail
   go_ret
   exact ⟨⟨_,rfl,fun h=> by omega,fun h=> absurd h HAll.out⟩,rfl⟩
theorem sContains_any (w:World) (a:Option Addr) (cap:Nat) (l:List ByteArray) (x:ByteArray) (hl:l.length≤1048576) (hS:Strs w a l):
  Calls Tryz.prog 102 #[.slice a l.length cap,.string x] w fun e w'=> Says e (x∈l)∧w'=w:=by
 go_enter Tryz.func102,Tryz.ntmps102
 go_wp2_with fail
 refine (sIndex_any w a cap l x hl hS).mono ?_
 rintro e w1 ⟨⟨i,rfl,hi⟩,hw1⟩
 rw [hw1]
 cases h0:decide ((0:Int)≤i)
 ·have HI:Hid (x∉l):=fun h=> by have:=hi.2 h;simp [this] at h0
  clear hi hw1
  go_wp2_with fail
  go_ret
  exact ⟨Says.no HI.out,rfl⟩
 ·have HI:=hide (hi.1 (by simpa using h0))
  clear hi hw1
  go_wp2_with fail
  go_ret
  exact ⟨Says.yes HI.out,rfl⟩
structure AgM (w0 wr:World) (rb zb ab:Nat) (cost:Int) (sa:Option Addr) (sn sc:Nat) (r:RunX) (xa:Option Addr) (xc:Nat) (qv:Value) (L:List ByteArray):Prop where
 kw:Kept w0 wr
 box:RBox wr rb r xa xc
 res:RowT wr zb 76 7
 act:RowT wr ab 110 2
 a0:wr.cell? ⟨ab,0,none⟩=some (.int .i64 cost)
 a1:wr.cell? ⟨ab,1,none⟩=some (.slice sa sn sc)
 rl:w0.heap.size≤rb
 zl:w0.heap.size≤zb
 al:w0.heap.size≤ab
 rz:rb≠zb
 txt:wr.ownsRow w0.heap.size 9 1 (.slice xa r.texts.length xc) r.texts.length (r.texts.map Value.string)
 ask:wr.ownsRow w0.heap.size 9 1 qv L.length (L.map Value.string)
 sep: ∀x,(Value.slice xa r.texts.length xc).ownBlock=some x→qv.ownBlock≠some x
section
variable {w0 wr w' : World} {rb zb ab : Nat} {cost : Int} {sa : Option Addr} {sn sc : Nat} {r r' : RunX} {xa xa' : Option Addr} {xc xc' : Nat} {qv qv' : Value} {L : List ByteArray}
theorem AgM.kept (h:AgM w0 wr rb zb ab cost sa sn sc r xa xc qv L) (k:Kept wr w'):AgM w0 w' rb zb ab cost sa sn sc r xa xc qv L:=
 ⟨h.kw.trans k,h.box.kept k,h.res.kept k,h.act.kept k,(k.cell h.act.lt).trans h.a0,(k.cell h.act.lt).trans h.a1,h.rl,h.zl,h.al,h.rz,ownsRow_kept' h.txt k,ownsRow_kept' h.ask k,h.sep⟩
theorem AgM.ar (h:AgM w0 wr rb zb ab cost sa sn sc r xa xc qv L):ab≠rb:=type_ne h.act.type h.box.row.type (by decide)
theorem AgM.put (h:AgM w0 wr rb zb ab cost sa sn sc r xa xc qv L) {o:Nat} {v:Value} (ho:o < 7) (e:r'.cells xa xc= (r.cells xa xc).set o v) (ht:r'.texts=r.texts):AgM w0 (wr.setCell ⟨rb,o,none⟩ v) rb zb ab cost sa sn sc r' xa xc qv L:=by
 have kb:But (fun b=> b=rb) wr (wr.setCell ⟨rb,o,none⟩ v):=But.set (S:=fun b=> b=rb) (But.of_kept (Kept.refl _)) (p:= ⟨rb,o,none⟩) rfl v
 have tn: ∀{b:Nat},TypeAt wr b 9→¬b=rb:=fun hb e=> type_ne hb h.box.row.type (by decide) e
 refine ⟨Below.setCell h.kw (p:= ⟨rb,o,none⟩) h.rl v,h.box.put ho e,kb.row h.res (fun e=> h.rz e.symm),kb.row h.act h.ar,(kb.cell h.act.lt h.ar).trans h.a0,(kb.cell h.act.lt h.ar).trans h.a1,h.rl,h.zl,h.al,h.rz, ?_,kb.owns h.ask (fun b e=> tn (owns_type h.ask e)),by rw [ht];exact h.sep⟩
 rw [ht]
 exact kb.owns h.txt (fun b e=> tn (owns_type h.txt e))
theorem AgM.texts (h:AgM w0 wr rb zb ab cost sa sn sc r xa xc qv L) {w1:World} {l:List ByteArray} (ho:w1.ownsRow w0.heap.size 9 1 (.slice xa' (r.texts.length+l.length) xc') (r.texts.length+l.length) (r.texts.map Value.string++l.map Value.string)) (hg:wr.grownBy w1 (Value.slice xa r.texts.length xc).ownBlock) (hv: ∀g,(Value.slice xa' (r.texts.length+l.length) xc').ownBlock=some g→(Value.slice xa r.texts.length xc).ownBlock=some g∨wr.heap.size≤g):
  AgM w0 (w1.setCell ⟨rb,6,none⟩ (.slice xa' (r.texts.length+l.length) xc')) rb zb ab cost sa sn sc { r with texts:=r.texts++l } xa' xc' qv L:=by
 have k1:But (fun b=> (Value.slice xa r.texts.length xc).ownBlock=some b) wr w1:=But.of_grown hg (fun b e=> e)
 have tn: ∀{b:Nat} {u:TypeId},TypeAt wr b u→u≠9→¬(Value.slice xa r.texts.length xc).ownBlock=some b:=fun hb hu e=> type_ne hb (owns_type h.txt e) hu rfl
 have r1:=k1.row h.box.row (tn h.box.row.type (by decide))
 have c1:w1.rangeAt rb 0 (r.cells xa xc):=k1.range h.box.row (tn h.box.row.type (by decide)) h.box.rng
 have z1:=k1.row h.res (tn h.res.type (by decide))
 have a1:=k1.row h.act (tn h.act.type (by decide))
 have e0:= (k1.cell h.act.lt (tn h.act.type (by decide)) (o:=0)).trans h.a0
 have e1:= (k1.cell h.act.lt (tn h.act.type (by decide)) (o:=1)).trans h.a1
 have q1:=k1.owns h.ask (fun b e e2=> h.sep b e2 e)
 have K1:Kept w0 w1:=k1.kept h.kw (fun b e=> (h.txt.lt b e).1)
 have kb:But (fun b=> b=rb) w1 (w1.setCell ⟨rb,6,none⟩ (.slice xa' (r.texts.length+l.length) xc')):=But.set (S:=fun b=> b=rb) (But.of_kept (Kept.refl _)) (p:= ⟨rb,6,none⟩) rfl _
 have sn1: ∀{b:Nat},TypeAt w1 b 9→¬b=rb:=fun hb e=> type_ne hb r1.type (by decide) e
 have hlen: (r.texts++l).length=r.texts.length+l.length:=List.length_append
 refine ⟨Below.setCell K1 (p:= ⟨rb,6,none⟩) h.rl _,⟨r1.set _, ?_⟩,kb.row z1 (fun e=> h.rz e.symm),kb.row a1 h.ar,(kb.cell a1.lt h.ar).trans e0,(kb.cell a1.lt h.ar).trans e1,h.rl,h.zl,h.al,h.rz, ?_,kb.owns q1 (fun b e=> sn1 (owns_type q1 e)),fun x hx hq=> ?_⟩
 ·have e2:RunX.cells { r with texts:=r.texts++l } xa' xc'= (r.cells xa xc).set 6 (.slice xa' (r.texts.length+l.length) xc'):=by
   unfold RunX.cells
   simp
  rw [e2]
  exact range_set c1 r1.row (by omega) _
 ·show World.ownsRow _ _ _ _ (.slice xa' (r.texts++l).length xc') (r.texts++l).length ((r.texts++l).map Value.string)
  rw [hlen,List.map_append]
  exact kb.owns ho (fun b e=> sn1 (owns_type ho e))
 ·have hx': (Value.slice xa' (r.texts.length+l.length) xc').ownBlock=some x:=by rw [←hlen];exact hx
  rcases hv x hx' with g | g
  ·exact h.sep x g hq
  ·have:= (h.ask.lt x hq).2;omega
theorem AgM.asks (h:AgM w0 wr rb zb ab cost sa sn sc r xa xc qv L) {w1:World} {l:List ByteArray} (ho:w1.ownsRow w0.heap.size 9 1 qv' (L.length+l.length) (L.map Value.string++l.map Value.string)) (hg:wr.grownBy w1 qv.ownBlock) (hv: ∀g,qv'.ownBlock=some g→qv.ownBlock=some g∨wr.heap.size≤g):
  AgM w0 w1 rb zb ab cost sa sn sc r xa xc qv' (L++l):=by
 have k1:But (fun b=> qv.ownBlock=some b) wr w1:=But.of_grown hg (fun b e=> e)
 have tn: ∀{b:Nat} {u:TypeId},TypeAt wr b u→u≠9→¬qv.ownBlock=some b:=fun hb hu e=> type_ne hb (owns_type h.ask e) hu rfl
 have na:=tn h.act.type (by decide)
 have nr:=tn h.box.row.type (by decide)
 refine ⟨k1.kept h.kw (fun b e=> (h.ask.lt b e).1),⟨k1.row h.box.row nr,k1.range h.box.row nr h.box.rng⟩,k1.row h.res (tn h.res.type (by decide)),k1.row h.act na,(k1.cell h.act.lt na).trans h.a0,(k1.cell h.act.lt na).trans h.a1,h.rl,h.zl,h.al,h.rz,k1.owns h.txt (fun b e e2=> h.sep b e e2), ?_,fun x hx hq=> ?_⟩
 ·rw [List.length_append,List.map_append];exact ho
 ·rcases hv x hq with g | g
  ·exact h.sep x hx g
  ·have:= (h.txt.lt x hx).2;omega
end
def AgainSaid (W:Acts) (σ:Env) (name:ByteArray) (w':World) (e:Ending):Prop:=
 ∃(k:Nat) (xa:Option Addr) (xc:Nat) (qa:Option Addr) (qc:Nat),e= .returned (.tuple #[.agg ((againN W σ name k).1.cells xa xc).toArray,.slice qa (againN W σ name k).2.length qc])∧(∀j,j < k→CanGo W σ (againN W σ name j).1)∧¬CanGo W σ (againN W σ name k).1∧Strs w' xa (againN W σ name k).1.texts∧Strs w' qa (againN W σ name k).2
theorem againN_good {webl:List NodeD} (hok:ActsOk (actsOf webl)) {σ:Env} (hg:GoodEnv webl σ) {n:ByteArray} (hn: (actsOf webl n).isSome=true): ∀{k:Nat},(∀j,j < k→CanGo (actsOf webl) σ (againN (actsOf webl) σ n j).1)→(againN (actsOf webl) σ n k).1.Good webl
 | 0,_=> fresh_good hok hn
 | k+1,h=> nextOf_good hok hg (againN_good hok hg hn (fun j hj=> h j (by omega))) (h k (by omega))
theorem nextOf_asks {webl:List NodeD} (hok:ActsOk (actsOf webl)) {σ:Env} {r:RunX} (hg:GoodEnv webl σ) (hr:r.Good webl) (hc:CanGo (actsOf webl) σ r): (nextOf (actsOf webl) σ r).2.length≤5:=by
 obtain ⟨A,hA,h0,h1⟩:= (nextOf_good hok hg hr hc).act
 rw [nextOf_name] at hA
 have h5:= (asks_ok (hok _ _ hA).1 h0 h1).1
 by_cases ho: (nextOf (actsOf webl) σ r).2=[]
 ·rw [ho];simp
 ·have e: (nextOf (actsOf webl) σ r).2= (stepOf A (nextOf (actsOf webl) σ r).1.at').asks:=by
   unfold nextOf at ho⊢
   rw [hA] at ho⊢
   simp only at ho⊢
   have ar: ∀q:RunX,(arrive A q).2= (stepOf A (arrive A q).1.at').asks:=fun q=> by
    unfold arrive
    simp only
    split <;> rfl
   by_cases hv:r.visits=0
   ·rw [if_pos hv];exact ar _
   ·rw [if_neg hv] at ho⊢
    rcases hc.2 with e | ⟨A',xs,hA',hxs⟩
    ·exact absurd e hv
    ·rw [hA] at hA'
     cases hA'
     rw [hxs] at ho⊢
     simp only at ho⊢
     by_cases h20:r.visits=20
     ·rw [if_pos h20] at ho;exact absurd rfl ho
     ·rw [if_neg h20] at ho⊢
      by_cases hgo: (goOnF (stepOf A r.at') xs).over=true
      ·rw [if_pos hgo] at ho;exact absurd rfl ho
      ·rw [if_neg hgo];exact ar _
  rw [e]
  exact h5
theorem againN_len {webl:List NodeD} (hok:ActsOk (actsOf webl)) {σ:Env} (hg:GoodEnv webl σ) {n:ByteArray} (hn: (actsOf webl n).isSome=true): ∀{k:Nat},(∀j,j < k→CanGo (actsOf webl) σ (againN (actsOf webl) σ n j).1)→(againN (actsOf webl) σ n k).2.length≤5 * k
 | 0,_=> Nat.le_refl _
 | k+1,h=> by
  have h1:=againN_len hok hg hn (k:=k) (fun j hj=> h j (by omega))
  have h2:=nextOf_asks hok hg (againN_good hok hg hn (fun j hj=> h j (by omega))) (h k (by omega))
  show ((againN (actsOf webl) σ n k).2++ (nextOf (actsOf webl) σ (againN (actsOf webl) σ n k).1).2).length≤5 * (k+1)
  rw [List.length_append]
  omega
theorem againN_units {webl:List NodeD} (hok:ActsOk (actsOf webl)) {σ:Env} (hg:GoodEnv webl σ) {n:ByteArray} (hn: (actsOf webl n).isSome=true) {k:Nat} (h: ∀j,j < k→CanGo (actsOf webl) σ (againN (actsOf webl) σ n j).1):k≤21:=by
 cases k with
 | zero=> omega
 | succ k=>
  have h1:=againN_visits hn (k:=k) (fun j hj=> h j (by omega)) (h k (by omega)).1
  have h2:= (againN_good hok hg hn (k:=k) (fun j hj=> h j (by omega))).hi
  omega
theorem but_sets {g:Nat}: ∀(vs:List Value) (o:Nat) {w u:World},But (fun b=> b=g) w u→But (fun b=> b=g) w (u.setCells g o vs)
 | [],_,_,_,h=> h
 | v :: r,o,_,_,h=> by rw [World.setCells];exact but_sets r (o+1) (h.set (p:= ⟨g,o,none⟩) rfl v)
theorem AgM.ends {W:Acts} {σ:Env} {name:ByteArray} {w0 wr:World} {rb zb ab:Nat} {cost:Int} {sa:Option Addr} {sn sc:Nat} {r:RunX} {xa:Option Addr} {xc:Nat} {qa:Option Addr} {qn qc:Nat} {L:List ByteArray} {k:Nat} {e:Ending} (h:AgM w0 wr rb zb ab cost sa sn sc r xa xc (.slice qa qn qc) L) (hk:againN W σ name k= (r,L)) (hc: ∀j,j < k→CanGo W σ (againN W σ name j).1) (hn: ¬CanGo W σ r)
  (he:e= .returned (.tuple #[.agg (r.cells xa xc).toArray,.slice qa qn qc])):AgainSaid W σ name (wr.setCells zb 0 (r.cells xa xc)) e∧Kept w0 (wr.setCells zb 0 (r.cells xa xc)):=by
 have kb:But (fun b=> b=zb) wr (wr.setCells zb 0 (r.cells xa xc)):=but_sets _ _ (But.of_kept (Kept.refl _))
 have tn: ∀{b:Nat},TypeAt wr b 9→¬b=zb:=fun hb e=> type_ne hb h.res.type (by decide) e
 obtain ⟨a1,c1,e1,h1⟩:=owned_strs (kb.owns h.txt (fun b e=> tn (owns_type h.txt e)))
 obtain ⟨a2,c2,e2,h2⟩:=owned_strs (kb.owns h.ask (fun b e=> tn (owns_type h.ask e)))
 simp only [Value.slice.injEq] at e1 e2
 obtain ⟨rfl,_,_⟩:=e1
 obtain ⟨rfl,rfl,_⟩:=e2
 refine ⟨⟨k,xa,xc,qa,qc, ?_,hc, ?_, ?_, ?_⟩,kb.kept h.kw (fun b e=> by rw [e];exact h.zl)⟩
 ·rw [hk];exact he
 ·rw [hk];exact hn
 ·rw [hk];exact h1
 ·rw [hk];exact h2
theorem AgM.start {w wc:World} {zb ab:Nat} {cost:Int} {sa:Option Addr} {sn sc:Nat} (name:ByteArray) (kw:Kept w wc) (hres:RowT wc zb 76 7) (hact:RowT wc ab 110 2) (h0:wc.cell? ⟨ab,0,none⟩=some (.int .i64 cost)) (h1:wc.cell? ⟨ab,1,none⟩=some (.slice sa sn sc)) (zl:w.heap.size≤zb) (al:w.heap.size≤ab):
  AgM w ((wc.alloc (.cells #[.string name,.bool false,.bool false,.string ⟨#[]⟩,.int .i64 0,.int .i64 0,.slice none 0 0] 76)).alloc (.cells #[] 9)) wc.heap.size zb ab cost sa sn sc (RunX.fresh name) none 0 (.slice (some ⟨wc.heap.size+1,0,none⟩) 0 0) []:=by
 have k1:Kept wc (wc.alloc (.cells #[.string name,.bool false,.bool false,.string ⟨#[]⟩,.int .i64 0,.int .i64 0,.slice none 0 0] 76)):= (Kept.refl _).alloc _
 have k2:Kept (wc.alloc (.cells #[.string name,.bool false,.bool false,.string ⟨#[]⟩,.int .i64 0,.int .i64 0,.slice none 0 0] 76)) ((wc.alloc (.cells #[.string name,.bool false,.bool false,.string ⟨#[]⟩,.int .i64 0,.int .i64 0,.slice none 0 0] 76)).alloc (.cells #[] 9)):= (Kept.refl _).alloc _
 have hb:RBox (wc.alloc (.cells #[.string name,.bool false,.bool false,.string ⟨#[]⟩,.int .i64 0,.int .i64 0,.slice none 0 0] 76)) wc.heap.size (RunX.fresh name) none 0:= ⟨RowT.made wc _ _,range_new wc _ _⟩
 have ho:=World.ownsRow_made (base:=w.heap.size) (e:=9) (size:=1) (wc.alloc (.cells #[.string name,.bool false,.bool false,.string ⟨#[]⟩,.int .i64 0,.int .i64 0,.slice none 0 0] 76)) #[] 0 (Nat.le_trans kw.size k1.size) (Nat.zero_le _) rfl
 rw [World.size_alloc] at ho
 exact ⟨kw.trans (k1.trans k2),hb.kept k2,hres.kept (k1.trans k2),hact.kept (k1.trans k2),((k1.trans k2).cell hact.lt).trans h0,((k1.trans k2).cell hact.lt).trans h1,kw.size,zl,al,by have:=hres.lt;omega,World.ownsRow_nil _ _ _ _,ho,fun x h=> by cases h⟩
set_option maxRecDepth 100000 in
set_option maxHeartbeats 12800000 in
theorem again_any (w:World) (kb:Nat) (a:Option Addr) (cap:Nat) (webl:List NodeD) (d:Option Addr) (dc:Nat) (l:List RunX) (name:ByteArray) (hwl:webl.length≤1048576) (hll:l.length≤1048576) (hsz:SmallAsks webl) (hok:ActsOk (actsOf webl)) (hft: ∀y∈webl,y.Fits) (hge:GoodEnv webl (envOf l)) (hin: (actsOf webl name).isSome=true)
  (hK:KnownX w kb a webl.length cap d l.length dc) (hN:Nodes w a webl) (hS:RunsX w d l):
  Calls Tryz.prog 98 #[.pointer (some ⟨kb,0,none⟩),.string name] w fun e w'=> AgainSaid (actsOf webl) (envOf l) name w' e∧Kept w w':=by
 obtain ⟨A,hA⟩:=Option.isSome_iff_exists.1 hin
 obtain ⟨k,hk,hkn,hkf,rfl⟩:=acts_first hA
 obtain ⟨y,hy⟩: ∃y,y=webl.getD k NodeD.zero:= ⟨_,rfl⟩
 rw [←hy] at hA hkn
 obtain ⟨WB,hWB⟩: ∃WB,WB=w.alloc (.cells #[.string ⟨#[]⟩,.bool false,.bool false,.string ⟨#[]⟩,.int .i64 0,.int .i64 0,.slice none 0 0] 76):= ⟨_,rfl⟩
 have kB:Kept w WB:=by rw [hWB];exact (Kept.refl _).alloc _
 obtain ⟨zb,hzb⟩: ∃zb,zb=w.heap.size:= ⟨_,rfl⟩
 have hres:RowT WB zb 76 7:=by rw [hWB,hzb];exact RowT.made w _ _
 have HZb:Hid (w.heap.size≤zb):=Nat.le_of_eq hzb.symm
 obtain ⟨nb,nq,cs,e1,hnb0,hcs,na,nc,rfl,hSt⟩:=hN k hk
 rw [←hy] at hcs hSt
 have hnb:nb < WB.heap.size:=Nat.lt_of_lt_of_le hnb0 kB.size
 have n1:= (kB.cell hnb0).trans (hcs 1 _ rfl)
 have n2:= (kB.cell hnb0).trans (hcs 2 _ rfl)
 subst e1
 have HKw:=hide hK
 have HKn:=hide (hK.kept kB)
 have HNB:=hide (hN.kept kB)
 have HNw:=hide hN
 have HSw:=hide hS
 have HStw:=hide hSt
 have HKB:=hide kB
 have HRes:=hide hres
 have HY:=hide hy
 have HAct:=hide hA
 have b0:=HKn.out.web
 have bz:=HKn.out.row.lt
 have hym:y∈webl:=by rw [hy];simp [List.getD,hk]
 clear hcs hSt hy hA kB hres hK hN hS hnb0
 go_enter Tryz.func98,Tryz.ntmps98
 go_upto_region 1 with fail
 rw [←hWB,←hzb]
 clear hWB hzb
 go_cut [6] from 14 to 27 (fun s6 wx=> ∃ab,s6= .pointer (some ⟨ab,0,none⟩)∧Kept WB wx∧WB.heap.size≤ab∧RowT wx ab 110 2∧wx.cell? ⟨ab,0,none⟩=some (.int .i64 y.cost)∧wx.cell? ⟨ab,1,none⟩=some (.slice na y.steps.length nc))
 case first=>
  have HSO:Hid (∀w',Kept WB w'→w'.cell? ⟨kb,0,none⟩=some (.slice (some ⟨nb,nq,none⟩) webl.length cap)∧w'.cell? ⟨nb,nq+k * 3+1,none⟩=some (.int .i64 y.cost)∧w'.cell? ⟨nb,nq+k * 3+2,none⟩=some (.slice na y.steps.length nc)):=fun w' K=> ⟨(K.cell bz).trans b0,(K.cell hnb).trans n1,(K.cell hnb).trans n2⟩
  have hki: (k:Int) < (webl.length:Int):=by omega
  refine UpTo.region (by kernel_rfl) (fun w'=> w'.cell? ⟨kb,0,none⟩=some (.slice (some ⟨nb,nq,none⟩) webl.length cap)∧w'.cell? ⟨nb,nq+k * 3+1,none⟩=some (.int .i64 y.cost)∧w'.cell? ⟨nb,nq+k * 3+2,none⟩=some (.slice na y.steps.length nc)) 15 (HSO.out _ ((Kept.refl WB).drew)) (fun hHeld=> ?_)
  have KD:Kept WB WB.drew:= (Kept.refl WB).drew
  generalize hwd:WB.drew=wd at hHeld KD⊢
  clear hwd
  refine UpTo.tk 0 [1,2,3,4,11,12,13,15] hHeld ?_
  try simp only [Act.put,upA,upB,upC]
  refine UpTo.tk 1 [2,3,4,11,12,13,15] hHeld ?_
  try simp only [Act.put,upA,upB,upC]
  refine UpTo.tk 2 [3,4,11,12,13,15] hHeld ?_
  try simp only [Act.put,upA,upB,upC]
  refine UpTo.tk 3 [4,11,12,13,15] hHeld ?_
  try simp only [Act.put,upA,upB,upC]
  refine UpTo.tk 4 [11,12,13,15] hHeld ?_
  try simp only [Act.put,upA,upB,upC]
  refine UpTo.tk 5 [6,7,8,10,11,12,13,15] hHeld ?_
  try simp only [Act.put,upA,upB,upC]
  refine UpTo.tk 6 [7,8,10,11,12,13,15] hHeld ?_
  try simp only [Act.put,upA,upB,upC]
  refine UpTo.tk 7 [8,10,11,12,13,15] hHeld ?_
  try simp only [Act.put,upA,upB,upC]
  refine UpTo.tk 8 [10,11,12,13,15] hHeld ?_
  try simp only [Act.put,upA,upB,upC]
  refine UpTo.tk 9 [10,11,12,13,15] hHeld ?_
  try simp only [Act.put,upA,upB,upC]
  refine UpTo.two 10 14 (by kernel_rfl) (by (simp only [List.getElem?_toArray,List.getElem?_cons_succ,List.getElem?_cons_zero];rfl)) (by (simp only [List.getElem?_toArray,List.getElem?_cons_succ,List.getElem?_cons_zero];rfl)) (fun K hK=> ?_) (fun K hK=> ?_)
  ·rw [if_pos (by rfl)]
   go_simp
   go_at_call 69
   refine (l2At_place wd (some ⟨nb,nq,none⟩) cap webl name hwl (HNB.out.kept KD)).mono ?_
   rintro e w2 ⟨⟨q,rfl,hq⟩,k2⟩
   have K2:=KD.trans k2
   obtain rfl:q= (k:Int):=by
    rcases hq with ⟨k',_,e',_,h1,h2⟩ | ⟨_,h1⟩
    ·rw [e',first_unique (by rw [←HY.out];exact hkn) hkf h1 h2]
    ·rw [HAct.out] at h1;cases h1
   clear hq
   dsimp only
   refine hK.out _ _ (fun _=> HSO.out _ K2) ?_
   clear hK K
   try simp only [Act.put,upA,upB,upC]
   clear hHeld
   have hHeld:=HSO.out _ K2
   refine UpTo.tk 11 [12,13,15] hHeld ?_
   try simp only [Act.put,upA,upB,upC]
   refine UpTo.tk 12 [13,15] hHeld ?_
   try simp only [Act.put,upA,upB,upC]
   refine UpTo.tk 13 [15] hHeld ?_
   try simp only [Act.put,upA,upB,upC]
   refine UpTo.nx 14 (fun K hK=> ?_)
   go_simp
   have K3:Kept w2 (w2.alloc (.cells #[.int .i64 0,.slice none 0 0] 110)):= (Kept.refl _).alloc _
   refine hK.out _ _ (fun _=> HSO.out _ (K2.trans K3)) ?_
   clear hK K
   try simp only [Act.put,upA,upB,upC]
   have hRw:RowT (w2.alloc (.cells #[.int .i64 0,.slice none 0 0] 110)) w2.heap.size 110 2:=RowT.made w2 _ _
   have KE:=K2.trans K3
   generalize hwe:w2.alloc (.cells #[.int .i64 0,.slice none 0 0] 110)=wE at hRw KE⊢
   clear hwe K3
   obtain ⟨⟨_,v0⟩,f0⟩:=hRw.row.at (i:=0) (by omega)
   obtain ⟨⟨_,v1⟩,f1⟩:=hRw.row.at (i:=1) (by omega)
   have vz:=hRw.lt
   refine UpTo.nx 15 (fun K hK=> ?_)
   go_simp
   refine hK.out _ _ (fun h=> absurd rfl h) ?_
   clear hK K
   try simp only [Act.put,upA,upB,upC]
   refine UpTo.done (by kernel_rfl) ?_
   go_wp2_with fail
   go_meet
   exact ⟨w2.heap.size,rfl,Below.setCell (Below.setCell KE (p:= ⟨w2.heap.size,0,none⟩) K2.size _) (p:= ⟨w2.heap.size,1,none⟩) K2.size _,K2.size,(hRw.set _).set _,(set_miss (by omega) _).trans (set_hit hRw.row (by omega) _),set_hit (hRw.set _).row (by omega) _⟩
  ·rw [if_pos (by rfl)]
   go_simp
   have K3:Kept wd (wd.alloc (.cells #[.int .i64 0,.slice none 0 0] 110)):= (Kept.refl _).alloc _
   have K3b:=KD.trans K3
   refine hK.out _ _ (fun _=> HSO.out _ K3b) ?_
   clear hK K
   try simp only [Act.put,upA,upB,upC]
   refine UpTo.nx 10 (fun K hK=> ?_)
   rw [if_pos (by rfl)]
   go_simp
   go_at_call 69
   refine (l2At_place (wd.alloc (.cells #[.int .i64 0,.slice none 0 0] 110)) (some ⟨nb,nq,none⟩) cap webl name hwl (HNB.out.kept K3b)).mono ?_
   rintro e w2 ⟨⟨q,rfl,hq⟩,k2⟩
   have K2:=K3b.trans k2
   obtain rfl:q= (k:Int):=by
    rcases hq with ⟨k',_,e',_,h1,h2⟩ | ⟨_,h1⟩
    ·rw [e',first_unique (by rw [←HY.out];exact hkn) hkf h1 h2]
    ·rw [HAct.out] at h1;cases h1
   clear hq
   dsimp only
   refine hK.out _ _ (fun _=> HSO.out _ K2) ?_
   clear hK K
   try simp only [Act.put,upA,upB,upC]
   clear hHeld
   have hHeld:=HSO.out _ K2
   refine UpTo.tk 11 [12,13,15] hHeld ?_
   try simp only [Act.put,upA,upB,upC]
   refine UpTo.tk 12 [13,15] hHeld ?_
   try simp only [Act.put,upA,upB,upC]
   refine UpTo.tk 13 [15] hHeld ?_
   try simp only [Act.put,upA,upB,upC]
   have hRw:RowT w2 wd.heap.size 110 2:= (RowT.made wd #[.int .i64 0,.slice none 0 0] 110).kept k2
   obtain ⟨⟨_,v0⟩,f0⟩:=hRw.row.at (i:=0) (by omega)
   obtain ⟨⟨_,v1⟩,f1⟩:=hRw.row.at (i:=1) (by omega)
   have vz:=hRw.lt
   refine UpTo.nx 15 (fun K hK=> ?_)
   go_simp
   refine hK.out _ _ (fun h=> absurd rfl h) ?_
   clear hK K
   try simp only [Act.put,upA,upB,upC]
   refine UpTo.done (by kernel_rfl) ?_
   go_wp2_with fail
   go_meet
   exact ⟨wd.heap.size,rfl,Below.setCell (Below.setCell K2 (p:= ⟨wd.heap.size,0,none⟩) KD.size _) (p:= ⟨wd.heap.size,1,none⟩) KD.size _,KD.size,(hRw.set _).set _,(set_miss (by omega) _).trans (set_hit hRw.row (by omega) _),set_hit (hRw.set _).row (by omega) _⟩
 case rest=>
  obtain ⟨ab,rfl,Kx,habl,hRa,ha0,ha1⟩:=hcut
  have HSt0:=hide (AgM.start name (HKB.out.trans Kx) (HRes.out.kept Kx) hRa ha0 ha1 HZb.out (Nat.le_trans HKB.out.size habl))
  clear habl hRa ha0 ha1 n1 n2 b0 bz hnb HKn HNB HRes Kx HZb
  go_upto_region 3 with fail
  obtain ⟨rb,hrb⟩: ∃rb,rb=wc.heap.size:= ⟨_,rfl⟩
  have hsz1: (wc.alloc (.cells #[.string name,.bool false,.bool false,.string ⟨#[]⟩,.int .i64 0,.int .i64 0,.slice none 0 0] 76)).heap.size=rb+1:=by rw [hrb];simp
  rw [←hrb] at HSt0⊢
  have HZ1:=hide hsz1
  clear hsz1
  generalize hw1:wc.alloc (.cells #[.string name,.bool false,.bool false,.string ⟨#[]⟩,.int .i64 0,.int .i64 0,.slice none 0 0] 76)=w1 at HSt0 HZ1⊢
  clear hw1 hrb
  go_wp2_with fail
  rw [HZ1.out]
  clear HZ1
  generalize hw2:w1.alloc (.cells #[] 9)=w2 at HSt0⊢
  clear hw2
  go_loopg [8] 22 (fun gg x8 wr=> ∃(j:Nat) (xa:Option Addr) (xc:Nat) (qa:Option Addr) (qc:Nat),x8= .slice qa (againN (actsOf webl) (envOf l) name j).2.length qc∧j+gg=22∧Hid (∀i,i < j→CanGo (actsOf webl) (envOf l) (againN (actsOf webl) (envOf l) name i).1)∧Hid (AgM w wr rb zb ab y.cost na y.steps.length nc (againN (actsOf webl) (envOf l) name j).1 xa xc (.slice qa (againN (actsOf webl) (envOf l) name j).2.length qc) (againN (actsOf webl) (envOf l) name j).2))
  case atStart=> exact ⟨0,none,0,some ⟨rb+1,0,none⟩,0,rfl,rfl,hide (fun i hi=> absurd hi (Nat.not_lt_zero _)),HSt0⟩
  case round=>
   clear HSt0
   obtain ⟨j,xa,xc,qa,qc,rfl,hgg,HCj,HM⟩:=hrel
   have HGd:=hide (againN_good hok hge hin HCj.out)
   have hLl:=againN_len hok hge hin HCj.out
   have HNm:=hide (againN_name (W:=actsOf webl) (σ:=envOf l) (n:=name) j)
   obtain ⟨r,hr⟩: ∃r,r= (againN (actsOf webl) (envOf l) name j).1:= ⟨_,rfl⟩
   obtain ⟨L,hL⟩: ∃L,L= (againN (actsOf webl) (envOf l) name j).2:= ⟨_,rfl⟩
   rw [←hr,←hL] at HM
   rw [←hr] at HGd HNm
   rw [←hL] at hLl⊢
   have HAg:Hid (againN (actsOf webl) (envOf l) name j= (r,L)):=by show _=_;rw [hr,hL]
   have HActR:Hid (actsOf webl r.name=some ⟨y.cost,y.steps⟩):=by show _=_;rw [HNm.out];exact HAct.out
   have HNxt:Hid (againN (actsOf webl) (envOf l) name (j+1)= ((nextOf (actsOf webl) (envOf l) r).1,L++ (nextOf (actsOf webl) (envOf l) r).2)):=by show _=_;unfold againN;rw [HAg.out]
   clear hr hL HNm
   obtain ⟨q0,q1,q2,q3,q4,q5,q6⟩:=HM.out.box.all
   have qz:=HM.out.box.row.lt
   by_cases hov:r.over=true
   ·have HOv:=hide hov
    clear q0 q1 q2 q3 q4 q5 q6 qz
    have q1:wr.cell? ⟨rb,1,none⟩=some (.bool true):=by have h:=HM.out.box.all.2.1;rw [HOv.out] at h;exact h
    have qz:=HM.out.box.row.lt
    clear hov
    go_upto_region 31 with fail
    clear q1 qz
    obtain ⟨cs,hcs⟩: ∃cs,cs=RunX.cells (r) xa xc:= ⟨_,rfl⟩
    have hlen:cs.length=7:=by rw [hcs];rfl
    have HOne:Hid (cs.toArray.all (·.oneCell')=true):=by show _=_;rw [hcs];exact all_oneCell_toArray (by simp [RunX.cells,Value.oneCell'])
    have HRg:Hid (wr.rangeAt rb 0 cs):=by show World.rangeAt _ _ _ _;rw [hcs];exact HM.out.box.rng
    have qz:=HM.out.box.row.lt
    have HSZ:Hid ((Tryz.prog.info? 76).map (·.size)=some cs.toArray.size):=by show _=_;rw [Tryz.xSizeRun];simp [hlen]
    have HSZ2:Hid ((Tryz.prog.info? 76).map (·.size)=some cs.length):=by show _=_;rw [Tryz.xSizeRun,hlen]
    have HTh:Hid (wr.there zb 0 cs.toArray.size):=by show World.there _ _ _ _;simpa [hlen] using HM.out.res.row.there (o:=0) (m:=7) (Nat.le_refl _)
    have HCs:=hide hcs
    have HLen:=hide hlen
    clear hcs hlen
    go_wp2_with (first | (refine wpList_load_mid rfl 76 _ rfl rb 0 rfl cs _ HRg.out Tryz.underlying76 rfl HSZ2.out ?_) | (refine wpList_store_mid rfl 76 _ _ rfl zb 0 cs.toArray rfl rfl HTh.out HSZ.out HOne.out ?_;rw [List.toList_toArray]))
    have hR:=World.rangeAt_setCells_same wr zb 0 cs (by have:=HTh.out;simpa using this)
    refine bodyPost_ret_c2 cs _ _ Tryz.results98 rfl hR Tryz.underlying76 rfl HSZ2.out rfl rfl ?_
    have hce:=HCs.out
    subst hce
    exact HM.out.ends HAg.out HCj.out (fun h=> by have h1:=h.1;rw [HOv.out] at h1;cases h1) rfl
   have HOv:Hid (r.over=false):=by cases h:r.over;rfl;exact absurd h hov
   rw [HOv.out] at q1
   clear hov
   have lo:=HGd.out.lo
   have hi20:=HGd.out.hi
   have tl:=HGd.out.tl
   obtain ⟨ha0,ha1⟩:0≤r.at'∧r.at' < y.steps.length:=by
    obtain ⟨A2,hA2,h1,h2⟩:=HGd.out.act
    rw [HActR.out] at hA2
    cases hA2
    exact ⟨h1,h2⟩
   have hj20:j≤20:=by have h:=againN_visits hin HCj.out (by rw [HAg.out];exact HOv.out);rw [HAg.out] at h;dsimp only at h;omega
   go_upto_if 36 with fail
   go_cut [9,10,11,12] from 36 to 87 (fun _ _ _ _ wx=> ∃(r1:RunX) (xa1:Option Addr) (xc1:Nat),Hid (AgM w wx rb zb ab y.cost na y.steps.length nc r1 xa1 xc1 (.slice qa L.length qc) L)∧Hid (nextOf (actsOf webl) (envOf l) r=arrive ⟨y.cost,y.steps⟩ r1)∧0≤r1.at'∧r1.at' < y.steps.length∧0≤r1.visits∧r1.visits < 20∧r1.texts.length≤200∧Hid (∀t∈r1.texts,t.size≤200)∧Hid (CanGo (actsOf webl) (envOf l) r))
   case first=>
    by_cases hv:r.visits=0
    ·have hv0: ¬(0:Int) < r.visits:=by omega
     have HV:=hide hv
     clear hv
     go_wp2_with fail
     go_meet
     exact ⟨r,xa,xc,HM,hide (by unfold nextOf;rw [HActR.out];simp [HV.out]),ha0,ha1,lo,by omega,by omega,hide HGd.out.ts,hide ⟨HOv.out,.inl HV.out⟩⟩
    ·have hvp: (0:Int) < r.visits:=by omega
     obtain ⟨ix,hix⟩: ∃ix:Nat,r.at'= (ix:Int):= ⟨r.at'.toNat,by omega⟩
     have hixl:ix < y.steps.length:=by omega
     have hii: (ix:Int) < (y.steps.length:Int):=by omega
     obtain ⟨tb,tq,cs2,rfl,htb,hcs2,aa,ca,ac,cc,rfl,hAs,hCs,_⟩:= (Steps.kept HStw.out HM.out.kw) ix hixl
     obtain ⟨s,hs⟩: ∃s,s=y.steps.getD ix StepD.zero:= ⟨_,rfl⟩
     rw [←hs] at hcs2 hAs hCs
     have t0:=hcs2 0 _ rfl
     have t1:=hcs2 1 _ rfl
     have t2:=hcs2 2 _ rfl
     have t3:=hcs2 3 _ rfl
     have t4:=hcs2 4 _ rfl
     have t5:=hcs2 5 _ rfl
     have t6:=hcs2 6 _ rfl
     have t7:=hcs2 7 _ rfl
     rw [Nat.add_zero] at t0
     have hsm:s∈y.steps:=by rw [hs];simp [List.getD,hixl]
     have hal:= (hsz y hym s hsm).1
     have has:= (hsz y hym s hsm).2
     have hfy:=hft y hym
     have HStep:Hid (stepOf ⟨y.cost,y.steps⟩ r.at'=s):=by show _=_;unfold stepOf;rw [hix,hs];rfl
     have p1:=HM.out.a1
     have pz:=HM.out.act.lt
     rw [hix] at q4
     have HAs:=hide hAs
     clear hcs2 hAs hCs hs
     have HIx:=hide hix
     clear hix
     go_upto_region 7 with fail
     have kS:Kept wr (wr.alloc (.cells #[.slice aa s.asks.length ca,.int .i64 s.on,.slice ac s.cases.length cc,.int .i64 s.els,.int .i64 s.fall,.bool s.fin,.bool s.bad,.string s.give] 166)):= (Kept.refl _).alloc _
     have HM1:=hide (HM.out.kept kS)
     have HAs1:=hide (HAs.out.kept kS)
     have hRs: (wr.alloc (.cells #[.slice aa s.asks.length ca,.int .i64 s.on,.slice ac s.cases.length cc,.int .i64 s.els,.int .i64 s.fall,.bool s.fin,.bool s.bad,.string s.give] 166)).rangeAt wr.heap.size 0 #[.slice aa s.asks.length ca,.int .i64 s.on,.slice ac s.cases.length cc,.int .i64 s.els,.int .i64 s.fall,.bool s.fin,.bool s.bad,.string s.give].toList:=range_new wr _ _
     have v0:=range_new wr #[.slice aa s.asks.length ca,.int .i64 s.on,.slice ac s.cases.length cc,.int .i64 s.els,.int .i64 s.fall,.bool s.fin,.bool s.bad,.string s.give] 166 0 _ rfl
     have v1:=range_new wr #[.slice aa s.asks.length ca,.int .i64 s.on,.slice ac s.cases.length cc,.int .i64 s.els,.int .i64 s.fall,.bool s.fin,.bool s.bad,.string s.give] 166 1 _ rfl
     have v2:=range_new wr #[.slice aa s.asks.length ca,.int .i64 s.on,.slice ac s.cases.length cc,.int .i64 s.els,.int .i64 s.fall,.bool s.fin,.bool s.bad,.string s.give] 166 2 _ rfl
     have v3:=range_new wr #[.slice aa s.asks.length ca,.int .i64 s.on,.slice ac s.cases.length cc,.int .i64 s.els,.int .i64 s.fall,.bool s.fin,.bool s.bad,.string s.give] 166 3 _ rfl
     have v4:=range_new wr #[.slice aa s.asks.length ca,.int .i64 s.on,.slice ac s.cases.length cc,.int .i64 s.els,.int .i64 s.fall,.bool s.fin,.bool s.bad,.string s.give] 166 4 _ rfl
     have v5:=range_new wr #[.slice aa s.asks.length ca,.int .i64 s.on,.slice ac s.cases.length cc,.int .i64 s.els,.int .i64 s.fall,.bool s.fin,.bool s.bad,.string s.give] 166 5 _ rfl
     have v6:=range_new wr #[.slice aa s.asks.length ca,.int .i64 s.on,.slice ac s.cases.length cc,.int .i64 s.els,.int .i64 s.fall,.bool s.fin,.bool s.bad,.string s.give] 166 6 _ rfl
     have v7:=range_new wr #[.slice aa s.asks.length ca,.int .i64 s.on,.slice ac s.cases.length cc,.int .i64 s.els,.int .i64 s.fall,.bool s.fin,.bool s.bad,.string s.give] 166 7 _ rfl
     simp only [Nat.zero_add] at v0 v1 v2 v3 v4 v5 v6 v7
     have vz:wr.heap.size < (wr.alloc (.cells #[.slice aa s.asks.length ca,.int .i64 s.on,.slice ac s.cases.length cc,.int .i64 s.els,.int .i64 s.fall,.bool s.fin,.bool s.bad,.string s.give] 166)).heap.size:=by simp
     obtain ⟨sb,hsb⟩: ∃sb,sb=wr.heap.size:= ⟨_,rfl⟩
     rw [←hsb] at v0 v1 v2 v3 v4 v5 v6 v7 vz⊢
     generalize hgw:wr.alloc (.cells #[.slice aa s.asks.length ca,.int .i64 s.on,.slice ac s.cases.length cc,.int .i64 s.els,.int .i64 s.fall,.bool s.fin,.bool s.bad,.string s.give] 166)=w1 at HM1 HAs1 v0 v1 v2 v3 v4 v5 v6 v7 vz⊢
     clear hgw hRs kS hsb t0 t1 t2 t3 t4 t5 t6 t7 p1 pz HM HAs q1 htb
     clear q0 q2 q3 q4 q5 q6 qz
     go_wp2_with fail
     refine (answers_any w1 kb (some ⟨nb,nq,none⟩) cap webl d dc l s aa ac ca cc hwl hll hal has (HKw.out.kept HM1.out.kw) (HNw.out.kept HM1.out.kw) (HSw.out.kept HM1.out.kw) HAs1.out).mono ?_
     rintro e w3 ⟨⟨d3,n3,c3,ok,rfl,hyes,hno⟩,k3⟩
     have HM3:=hide (HM1.out.kept k3)
     clear v0 v1 v2 v3 v4 v5 v6 v7 vz HM1 HAs1
     have hvn:r.visits≠0:=hv
     have HVn:=hide hvn
     clear hvn
     cases ok
     ·have HNo:=hide (hno rfl)
      clear hyes hno k3
      go_upto_region 9 with fail
      obtain ⟨cs,hcs⟩: ∃cs,cs=RunX.cells (r) xa xc:= ⟨_,rfl⟩
      have hlen:cs.length=7:=by rw [hcs];rfl
      have HOne:Hid (cs.toArray.all (·.oneCell')=true):=by show _=_;rw [hcs];exact all_oneCell_toArray (by simp [RunX.cells,Value.oneCell'])
      have HRg:Hid (w3.rangeAt rb 0 cs):=by show World.rangeAt _ _ _ _;rw [hcs];exact HM3.out.box.rng
      have qz:=HM3.out.box.row.lt
      have HSZ:Hid ((Tryz.prog.info? 76).map (·.size)=some cs.toArray.size):=by show _=_;rw [Tryz.xSizeRun];simp [hlen]
      have HSZ2:Hid ((Tryz.prog.info? 76).map (·.size)=some cs.length):=by show _=_;rw [Tryz.xSizeRun,hlen]
      have HTh:Hid (w3.there zb 0 cs.toArray.size):=by show World.there _ _ _ _;simpa [hlen] using HM3.out.res.row.there (o:=0) (m:=7) (Nat.le_refl _)
      have HCs:=hide hcs
      have HLen:=hide hlen
      clear hcs hlen
      go_wp2_with (first | (refine wpList_load_mid rfl 76 _ rfl rb 0 rfl cs _ HRg.out Tryz.underlying76 rfl HSZ2.out ?_) | (refine wpList_store_mid rfl 76 _ _ rfl zb 0 cs.toArray rfl rfl HTh.out HSZ.out HOne.out ?_;rw [List.toList_toArray]))
      have hR:=World.rangeAt_setCells_same w3 zb 0 cs (by have:=HTh.out;simpa using this)
      refine bodyPost_ret_c2 cs _ _ Tryz.results98 rfl hR Tryz.underlying76 rfl HSZ2.out rfl rfl ?_
      have hce:=HCs.out
      subst hce
      exact HM3.out.ends HAg.out HCj.out (fun h=> by rcases h.2 with g | ⟨A2,xs,g1,g2⟩;exact HVn.out g;rw [HActR.out] at g1;cases g1;rw [HStep.out,HNo.out] at g2;cases g2) rfl
     ·obtain ⟨xs,hx2,rfl,hAn⟩:=hyes rfl
      have HXs:=hide hx2
      have HAn:=hide hAn
      clear hyes hno hx2 hAn k3
      have HCan:Hid (CanGo (actsOf webl) (envOf l) r):= ⟨HOv.out,.inr ⟨_,xs,HActR.out,by rw [HStep.out];exact HXs.out⟩⟩
      have HCj1:Hid (∀i,i < j+1→CanGo (actsOf webl) (envOf l) (againN (actsOf webl) (envOf l) name i).1):=fun i hi=> by
       rcases Nat.lt_or_ge i j with g | g
       ·exact HCj.out i g
       ·obtain rfl:i=j:=by omega
        rw [HAg.out]
        exact HCan.out
      by_cases h20:r.visits=20
      ·have e20: (r.visits == 20)=true:=by simp [h20]
       have H20:=hide h20
       clear h20
       obtain ⟨q0,q1,q2,q3,q4,q5,q6⟩:=HM3.out.box.all
       have qz:=HM3.out.box.row.lt
       go_upto_region 11 with fail
       clear q0 q1 q2 q3 q4 q5 q6 qz
       obtain ⟨q0,q1,q2,q3,q4,q5,q6⟩:=HM3.out.box.all
       have qz:=HM3.out.box.row.lt
       obtain ⟨_,g1⟩:=HM3.out.box.row.row.at (i:=1) (by omega)
       go_upto_region 12 with fail
       have HM4:Hid (AgM w (w3.setCell ⟨rb,1,none⟩ (.bool true)) rb zb ab y.cost (some ⟨tb,tq,none⟩) y.steps.length nc ({ r with over:=true }) xa xc (.slice qa L.length qc) L):=HM3.out.put (by omega) rfl rfl
       generalize hgw:w3.setCell ⟨rb,1,none⟩ (.bool true)=w4 at HM4  ⊢
       clear hgw
       clear q0 q1 q2 q3 q4 q5 q6 qz
       clear g1
       obtain ⟨q0,q1,q2,q3,q4,q5,q6⟩:=HM4.out.box.all
       have qz:=HM4.out.box.row.lt
       obtain ⟨_,g2⟩:=HM4.out.box.row.row.at (i:=2) (by omega)
       go_upto_region 13 with fail
       have HM5:Hid (AgM w (w4.setCell ⟨rb,2,none⟩ (.bool true)) rb zb ab y.cost (some ⟨tb,tq,none⟩) y.steps.length nc ({ r with over:=true,fail:=true }) xa xc (.slice qa L.length qc) L):=HM4.out.put (by omega) rfl rfl
       generalize hgw:w4.setCell ⟨rb,2,none⟩ (.bool true)=w5 at HM5  ⊢
       clear hgw
       clear q0 q1 q2 q3 q4 q5 q6 qz
       clear g2
       obtain ⟨q0,q1,q2,q3,q4,q5,q6⟩:=HM5.out.box.all
       have qz:=HM5.out.box.row.lt
       obtain ⟨_,g3⟩:=HM5.out.box.row.row.at (i:=3) (by omega)
       go_upto_region 14 with fail
       have HM6:Hid (AgM w (w5.setCell ⟨rb,3,none⟩ (.string ⟨#[115,112,101,110,116]⟩)) rb zb ab y.cost (some ⟨tb,tq,none⟩) y.steps.length nc ({ r with over:=true,fail:=true,text:=spentB }) xa xc (.slice qa L.length qc) L):=HM5.out.put (by omega) rfl rfl
       generalize hgw:w5.setCell ⟨rb,3,none⟩ (.string ⟨#[115,112,101,110,116]⟩)=w6 at HM6  ⊢
       clear hgw
       clear q0 q1 q2 q3 q4 q5 q6 qz
       clear g3
       have HNe:Hid (nextOf (actsOf webl) (envOf l) r= ({ r with over:=true,fail:=true,text:=spentB },[])):=by show _=_;unfold nextOf;rw [HActR.out];simp only;rw [if_neg HVn.out,HStep.out,HXs.out];simp [H20.out]
       obtain ⟨cs,hcs⟩: ∃cs,cs=RunX.cells ({ r with over:=true,fail:=true,text:=spentB }) xa xc:= ⟨_,rfl⟩
       have hlen:cs.length=7:=by rw [hcs];rfl
       have HOne:Hid (cs.toArray.all (·.oneCell')=true):=by show _=_;rw [hcs];exact all_oneCell_toArray (by simp [RunX.cells,Value.oneCell'])
       have HRg:Hid (w6.rangeAt rb 0 cs):=by show World.rangeAt _ _ _ _;rw [hcs];exact HM6.out.box.rng
       have qz:=HM6.out.box.row.lt
       have HSZ:Hid ((Tryz.prog.info? 76).map (·.size)=some cs.toArray.size):=by show _=_;rw [Tryz.xSizeRun];simp [hlen]
       have HSZ2:Hid ((Tryz.prog.info? 76).map (·.size)=some cs.length):=by show _=_;rw [Tryz.xSizeRun,hlen]
       have HTh:Hid (w6.there zb 0 cs.toArray.size):=by show World.there _ _ _ _;simpa [hlen] using HM6.out.res.row.there (o:=0) (m:=7) (Nat.le_refl _)
       have HCs:=hide hcs
       have HLen:=hide hlen
       clear hcs hlen
       go_wp2_with (first | (refine wpList_load_mid rfl 76 _ rfl rb 0 rfl cs _ HRg.out Tryz.underlying76 rfl HSZ2.out ?_) | (refine wpList_store_mid rfl 76 _ _ rfl zb 0 cs.toArray rfl rfl HTh.out HSZ.out HOne.out ?_;rw [List.toList_toArray]))
       have hR:=World.rangeAt_setCells_same w6 zb 0 cs (by have:=HTh.out;simpa using this)
       refine bodyPost_ret_c2 cs _ _ Tryz.results98 rfl hR Tryz.underlying76 rfl HSZ2.out rfl rfl ?_
       have hce:=HCs.out
       subst hce
       exact HM6.out.ends (HNxt.out.trans (by rw [HNe.out,List.append_nil])) HCj1.out (fun h=> by have h1:=h.1;cases h1) rfl
      ·have e20: (r.visits == 20)=false:=by simpa using h20
       have H20:=hide h20
       clear h20
       have hAok:= (hok _ _ HActR.out).1
       obtain ⟨hal5,han⟩:=asks_ok hAok ha0 ha1
       rw [HStep.out] at hal5 han
       have han2: ∀n∈s.asks,n.size≤20:=fun n hn=> (han n hn).2.1
       obtain ⟨hAns,hxt⟩:=answers_ok hge han2 HXs.out
       have hxl5:xs.length≤5:=by rw [hAns.1];exact hal5
       have HW:Hid (WentOn y.cost y.steps r.at' xs (goOnF s xs)):= .inr ⟨⟨hAok,⟨ha0,ha1⟩,HGd.out.stp _ HActR.out HOv.out HVn.out⟩,by have e:stepAt y.steps r.at'=s:=HStep.out;rw [e];exact goOnF_followed hAns⟩
       have HXt:=hide hxt
       clear hxt hAok han han2 hAns
       have hxl2:xs.length≤maxLen:=by unfold maxLen;omega
       have hxs2: ∀c∈xs,c.text.size≤maxLen:=fun c hc=> by have:=HXt.out c hc;unfold maxLen;omega
       have p0:=HM3.out.a0
       have p1:=HM3.out.a1
       have pz3:=HM3.out.act.lt
       obtain ⟨q0,q1,q2,q3,q4,q5,q6⟩:=HM3.out.box.all
       have qz:=HM3.out.box.row.lt
       go_wp2_with fail
       refine (specGoOn_any _ y.cost r.at' (some ⟨tb,tq,none⟩) d3 nc c3 y.steps xs hfy.steps hfy.each (Steps.kept HStw.out HM3.out.kw) hxl2 hxs2 HAn.out).mono ?_
       rintro e w5 ⟨⟨G,rfl,hG⟩,k5⟩
       have hGe:G=goOnF s xs:=hG.unique HW.out
       obtain ⟨gc,go,gt,gx⟩:=G
       have HGe:=hide hGe
       have hcells: (GoneD.mk gc go gt gx).cells.toArray= #[.int .i64 gc,.bool go,.int .i64 gt,.string gx]:=rfl
       rw [hcells]
       clear hcells hG hGe
       have k6:Kept w5 (w5.alloc (.cells #[.int .i64 gc,.bool go,.int .i64 gt,.string gx] 168)):= (Kept.refl _).alloc _
       have hk53:=k5.size
       have K6:=k5.trans k6
       have HM6:=hide (HM3.out.kept K6)
       have e1:=range_new w5 #[.int .i64 gc,.bool go,.int .i64 gt,.string gx] 168 1 _ rfl
       have e2:=range_new w5 #[.int .i64 gc,.bool go,.int .i64 gt,.string gx] 168 2 _ rfl
       have e3:=range_new w5 #[.int .i64 gc,.bool go,.int .i64 gt,.string gx] 168 3 _ rfl
       simp only [Nat.zero_add] at e1 e2 e3
       have e3z:w5.heap.size < (w5.alloc (.cells #[.int .i64 gc,.bool go,.int .i64 gt,.string gx] 168)).heap.size:=by simp
       have hgne:w5.heap.size≠rb:=by have:= (HM3.out.kept k5).box.row.lt;omega
       have HAn6:=hide (HAn.out.kept K6)
       clear q0 q1 q2 q3 q4 q5 q6 qz
       clear p0 p1 pz3 k5 k6 hxl2 hxs2 HAn
       cases go
       ·go_upto_region 22 with fail
        generalize hgw:w5.alloc (.cells #[.int .i64 gc,.bool false,.int .i64 gt,.string gx] 168)=w6 at HM6 HAn6 e1 e2 e3 e3z K6⊢
        clear hgw e1 e3 K6
        have hg2:= (HW.out.goodX).1
        rw [←HGe.out] at hg2
        have hgc:gc=0:=by have h2:=goOnF_code s xs;rw [←HGe.out] at h2;exact h2
        obtain ⟨hgt0,hgt1⟩:=hg2 hgc rfl
        dsimp only at hgt0 hgt1
        clear hg2 hgc
        have htl:r.texts.length≤100:=by omega
        have hgl:=goodOf_len xs
        obtain ⟨ic,hc0,hc1,hc2,hc3⟩:=xInfo_parts Tryz.xInfoStr
        have HSO2:Hid (∀w',Kept w6 w'→w'.cell? ⟨rb,6,none⟩=some (.slice xa r.texts.length xc)):=fun w' K=> (HM6.out.kept K).box.all.2.2.2.2.2.2
        refine UpTo.region (by kernel_rfl) (fun w'=> w'.cell? ⟨rb,6,none⟩=some (.slice xa r.texts.length xc)) 6 (HSO2.out _ ((Kept.refl w6).drew)) (fun hHeld=> ?_)
        have KD:Kept w6 w6.drew:= (Kept.refl w6).drew
        generalize hwd:w6.drew=wd at hHeld KD⊢
        clear hwd
        refine UpTo.tk 0 [1,4,5,6] hHeld ?_
        try simp only [Act.put,upA,upB,upC]
        refine UpTo.tk 1 [4,5,6] hHeld ?_
        try simp only [Act.put,upA,upB,upC]
        refine UpTo.tk 2 [3,4,5,6] hHeld ?_
        try simp only [Act.put,upA,upB,upC]
        refine UpTo.nx 3 (fun K hK=> ?_)
        rw [if_pos (by rfl)]
        go_simp
        go_at_call 145
        refine (good_any wd d3 c3 xs (by omega) (HAn6.out.kept KD)).mono ?_
        rintro e w9 ⟨⟨g9,c9,rfl,hG9⟩,k9⟩
        have K9:=KD.trans k9
        have HG9:=hide hG9
        have HM9:=hide (HM6.out.kept K9)
        clear k9 hG9
        dsimp only
        refine hK.out _ _ (fun _=> HSO2.out _ K9) ?_
        clear hK K
        try simp only [Act.put,upA,upB,upC]
        refine UpTo.nx 4 (fun K hK=> ?_)
        have hz9:w.heap.size≤w9.heap.size:=HM9.out.kw.size
        refine wp_append_strs (.tmp 80) (.tmp 82) 25 rfl w.heap.size 9 ic _ 16 Tryz.underlying25 hc0 hc1 hc2 hc3 rfl (.slice xa r.texts.length xc) r.texts.length (r.texts.map Value.string) rfl HM9.out.txt (some ⟨g9,0,none⟩) c9 (goodOf xs) rfl HG9.out (by unfold maxLen;omega) (by omega) hz9 ?_
        intro v2 w10 hown2 hgr hv2
        obtain ⟨av2,cv2,rfl⟩:=own_slice hown2
        have HM11:=hide (HM9.out.texts hown2 hgr hv2)
        have kg:But (fun b=> (Value.slice xa r.texts.length xc).ownBlock=some b) w9 w10:=But.of_grown hgr (fun b e=> e)
        have hnr: ¬(Value.slice xa r.texts.length xc).ownBlock=some rb:=fun e=> type_ne (owns_type HM9.out.txt e) HM9.out.box.row.type (by decide) rfl
        have hr10:=kg.row HM9.out.box.row hnr
        have hc10:w10.cell? ⟨rb,6,none⟩=some (.slice xa r.texts.length xc):= (kg.cell HM9.out.box.row.lt hnr).trans HM9.out.box.all.2.2.2.2.2.2
        have hng: ¬(Value.slice xa r.texts.length xc).ownBlock=some w5.heap.size:=fun e=> by
         have h1:= (HM3.out.txt.lt _ e).2
         have h2:w3.heap.size≤w5.heap.size:=hk53
         omega
        have e2b:w10.cell? ⟨w5.heap.size,2,none⟩=some (.int .i64 gt):= (kg.cell (Nat.lt_of_lt_of_le e3z K9.size) hng).trans ((K9.cell e3z).trans e2)
        have e2bz:w5.heap.size < w10.heap.size:=Nat.lt_of_lt_of_le (Nat.lt_of_lt_of_le e3z K9.size) kg.size
        refine hK.out _ _ (fun _=> hc10) ?_
        clear hK K
        try simp only [Act.put,upA,upB,upC]
        clear hown2 hgr hv2 kg hnr
        refine UpTo.nx 5 (fun K hK=> ?_)
        go_simp
        refine hK.out _ _ (fun _=> hc10) ?_
        clear hK K
        try simp only [Act.put,upA,upB,upC]
        obtain ⟨_,g6⟩:=hr10.row.at (i:=6) (by omega)
        have hz10:=hr10.lt
        refine UpTo.nx 6 (fun K hK=> ?_)
        go_simp
        refine hK.out _ _ (fun h=> absurd rfl h) ?_
        clear hK K
        try simp only [Act.put,upA,upB,upC]
        refine UpTo.done (by kernel_rfl) ?_
        have e2c: (w10.setCell ⟨rb,6,none⟩ (.slice av2 (r.texts.length+ (goodOf xs).length) cv2)).cell? ⟨w5.heap.size,2,none⟩=some (.int .i64 gt):=by rw [cell_set_ne hgne];exact e2b
        have e2cz:w5.heap.size < (w10.setCell ⟨rb,6,none⟩ (.slice av2 (r.texts.length+ (goodOf xs).length) cv2)).heap.size:=by rw [size_setCell];exact e2bz
        generalize hgw:w10.setCell ⟨rb,6,none⟩ (.slice av2 (r.texts.length+ (goodOf xs).length) cv2)=w11 at HM11 e2c e2cz⊢
        clear hgw hc10 hr10 g6 hz10 e2 e3z e2b e2bz hHeld HSO2 KD K9 HM9 HG9 HM6 HAn6
        obtain ⟨q0,q1,q2,q3,q4,q5,q6⟩:=HM11.out.box.all
        have qz:=HM11.out.box.row.lt
        obtain ⟨_,g4⟩:=HM11.out.box.row.row.at (i:=4) (by omega)
        go_wp2_with fail
        go_meet
        refine ⟨{ r with texts:=r.texts++goodOf xs,at':=gt },av2,cv2,hide (HM11.out.put (by omega) rfl rfl),hide (by unfold nextOf;rw [HActR.out];simp only;rw [if_neg HVn.out,HStep.out,HXs.out];simp only;rw [if_neg H20.out,←HGe.out,if_neg (by simp)]),hgt0,hgt1,lo,(by show r.visits < 20;have:=H20.out;omega),(by show (r.texts++goodOf xs).length≤200;rw [List.length_append];omega),hide (fun t ht=> ?_),HCan⟩
        rcases List.mem_append.1 ht with ht | ht
        ·exact HGd.out.ts t ht
        ·obtain ⟨x,hx,rfl⟩:=goodOf_mem ht
         exact HXt.out x hx
       ·go_upto_region 17 with fail
        generalize hgw:w5.alloc (.cells #[.int .i64 gc,.bool true,.int .i64 gt,.string gx] 168)=w6 at HM6 HAn6 e1 e2 e3 e3z K6⊢
        clear hgw e1 e2 HAn6 K6
        obtain ⟨q0,q1,q2,q3,q4,q5,q6⟩:=HM6.out.box.all
        have qz:=HM6.out.box.row.lt
        obtain ⟨_,g5⟩:=HM6.out.box.row.row.at (i:=5) (by omega)
        go_upto_region 18 with fail
        have HM7:Hid (AgM w (w6.setCell ⟨rb,5,none⟩ (.int .i64 (r.visits+1))) rb zb ab y.cost (some ⟨tb,tq,none⟩) y.steps.length nc ({ r with visits:=r.visits+1 }) xa xc (.slice qa L.length qc) L):=HM6.out.put (by omega) rfl rfl
        have e32: (w6.setCell ⟨rb,5,none⟩ (.int .i64 (r.visits+1))).cell? ⟨w5.heap.size,3,none⟩=some (.string gx):=by rw [cell_set_ne hgne];exact e3
        have e3z2:w5.heap.size < (w6.setCell ⟨rb,5,none⟩ (.int .i64 (r.visits+1))).heap.size:=by rw [size_setCell];exact e3z
        generalize hgw:w6.setCell ⟨rb,5,none⟩ (.int .i64 (r.visits+1))=w7 at HM7 e32 e3z2⊢
        clear hgw
        clear q0 q1 q2 q3 q4 q5 q6 qz
        clear g5
        clear e3 e3z
        have e3:=e32
        have e3z:=e3z2
        clear e32 e3z2
        obtain ⟨q0,q1,q2,q3,q4,q5,q6⟩:=HM7.out.box.all
        have qz:=HM7.out.box.row.lt
        obtain ⟨_,g1⟩:=HM7.out.box.row.row.at (i:=1) (by omega)
        go_upto_region 19 with fail
        have HM8:Hid (AgM w (w7.setCell ⟨rb,1,none⟩ (.bool true)) rb zb ab y.cost (some ⟨tb,tq,none⟩) y.steps.length nc ({ r with visits:=r.visits+1,over:=true }) xa xc (.slice qa L.length qc) L):=HM7.out.put (by omega) rfl rfl
        have e32: (w7.setCell ⟨rb,1,none⟩ (.bool true)).cell? ⟨w5.heap.size,3,none⟩=some (.string gx):=by rw [cell_set_ne hgne];exact e3
        have e3z2:w5.heap.size < (w7.setCell ⟨rb,1,none⟩ (.bool true)).heap.size:=by rw [size_setCell];exact e3z
        generalize hgw:w7.setCell ⟨rb,1,none⟩ (.bool true)=w8 at HM8 e32 e3z2⊢
        clear hgw
        clear q0 q1 q2 q3 q4 q5 q6 qz
        clear g1
        clear e3 e3z
        have e3:=e32
        have e3z:=e3z2
        clear e32 e3z2
        obtain ⟨q0,q1,q2,q3,q4,q5,q6⟩:=HM8.out.box.all
        have qz:=HM8.out.box.row.lt
        obtain ⟨_,g2⟩:=HM8.out.box.row.row.at (i:=2) (by omega)
        go_upto_region 20 with fail
        have HM9:Hid (AgM w (w8.setCell ⟨rb,2,none⟩ (.bool true)) rb zb ab y.cost (some ⟨tb,tq,none⟩) y.steps.length nc ({ r with visits:=r.visits+1,over:=true,fail:=true }) xa xc (.slice qa L.length qc) L):=HM8.out.put (by omega) rfl rfl
        have e32: (w8.setCell ⟨rb,2,none⟩ (.bool true)).cell? ⟨w5.heap.size,3,none⟩=some (.string gx):=by rw [cell_set_ne hgne];exact e3
        have e3z2:w5.heap.size < (w8.setCell ⟨rb,2,none⟩ (.bool true)).heap.size:=by rw [size_setCell];exact e3z
        generalize hgw:w8.setCell ⟨rb,2,none⟩ (.bool true)=w9 at HM9 e32 e3z2⊢
        clear hgw
        clear q0 q1 q2 q3 q4 q5 q6 qz
        clear g2
        clear e3 e3z
        have e3:=e32
        have e3z:=e3z2
        clear e32 e3z2
        obtain ⟨q0,q1,q2,q3,q4,q5,q6⟩:=HM9.out.box.all
        have qz:=HM9.out.box.row.lt
        obtain ⟨_,g3⟩:=HM9.out.box.row.row.at (i:=3) (by omega)
        go_upto_region 21 with fail
        have HM10:Hid (AgM w (w9.setCell ⟨rb,3,none⟩ (.string gx)) rb zb ab y.cost (some ⟨tb,tq,none⟩) y.steps.length nc ({ r with visits:=r.visits+1,over:=true,fail:=true,text:=gx }) xa xc (.slice qa L.length qc) L):=HM9.out.put (by omega) rfl rfl
        have e32: (w9.setCell ⟨rb,3,none⟩ (.string gx)).cell? ⟨w5.heap.size,3,none⟩=some (.string gx):=by rw [cell_set_ne hgne];exact e3
        have e3z2:w5.heap.size < (w9.setCell ⟨rb,3,none⟩ (.string gx)).heap.size:=by rw [size_setCell];exact e3z
        generalize hgw:w9.setCell ⟨rb,3,none⟩ (.string gx)=w10 at HM10 e32 e3z2⊢
        clear hgw
        clear q0 q1 q2 q3 q4 q5 q6 qz
        clear g3
        clear e3 e3z
        have e3:=e32
        have e3z:=e3z2
        clear e32 e3z2
        have HNe:Hid (nextOf (actsOf webl) (envOf l) r= ({ r with visits:=r.visits+1,over:=true,fail:=true,text:=gx },[])):=by show _=_;unfold nextOf;rw [HActR.out];simp only;rw [if_neg HVn.out,HStep.out,HXs.out];simp only;rw [if_neg H20.out,←HGe.out,if_pos rfl]
        obtain ⟨cs,hcs⟩: ∃cs,cs=RunX.cells ({ r with visits:=r.visits+1,over:=true,fail:=true,text:=gx }) xa xc:= ⟨_,rfl⟩
        have hlen:cs.length=7:=by rw [hcs];rfl
        have HOne:Hid (cs.toArray.all (·.oneCell')=true):=by show _=_;rw [hcs];exact all_oneCell_toArray (by simp [RunX.cells,Value.oneCell'])
        have HRg:Hid (w10.rangeAt rb 0 cs):=by show World.rangeAt _ _ _ _;rw [hcs];exact HM10.out.box.rng
        have qz:=HM10.out.box.row.lt
        have HSZ:Hid ((Tryz.prog.info? 76).map (·.size)=some cs.toArray.size):=by show _=_;rw [Tryz.xSizeRun];simp [hlen]
        have HSZ2:Hid ((Tryz.prog.info? 76).map (·.size)=some cs.length):=by show _=_;rw [Tryz.xSizeRun,hlen]
        have HTh:Hid (w10.there zb 0 cs.toArray.size):=by show World.there _ _ _ _;simpa [hlen] using HM10.out.res.row.there (o:=0) (m:=7) (Nat.le_refl _)
        have HCs:=hide hcs
        have HLen:=hide hlen
        clear hcs hlen
        go_wp2_with (first | (refine wpList_load_mid rfl 76 _ rfl rb 0 rfl cs _ HRg.out Tryz.underlying76 rfl HSZ2.out ?_) | (refine wpList_store_mid rfl 76 _ _ rfl zb 0 cs.toArray rfl rfl HTh.out HSZ.out HOne.out ?_;rw [List.toList_toArray]))
        have hR:=World.rangeAt_setCells_same w10 zb 0 cs (by have:=HTh.out;simpa using this)
        refine bodyPost_ret_c2 cs _ _ Tryz.results98 rfl hR Tryz.underlying76 rfl HSZ2.out rfl rfl ?_
        have hce:=HCs.out
        subst hce
        exact HM10.out.ends (HNxt.out.trans (by rw [HNe.out,List.append_nil])) HCj1.out (fun h=> by have h1:=h.1;cases h1) rfl
   case rest=>
    clear q0 q1 q2 q3 q4 q5 q6 qz
    clear HM lo hi20 tl ha0 ha1
    obtain ⟨r1,xa1,xc1,HM,HNx,hb0,hb1,hv0,hv1,htl1,HTs,HCan⟩:=hcut
    obtain ⟨wM,rfl⟩: ∃wM,wM=wc:= ⟨_,rfl⟩
    have HCj1:Hid (∀i,i < j+1→CanGo (actsOf webl) (envOf l) (againN (actsOf webl) (envOf l) name i).1):=fun i hi=> by
     rcases Nat.lt_or_ge i j with g | g
     ·exact HCj.out i g
     ·obtain rfl:i=j:=by omega
      rw [HAg.out]
      exact HCan.out
    go_upto_region 24 with fail
    obtain ⟨q0,q1,q2,q3,q4,q5,q6⟩:=HM.out.box.all
    have qz:=HM.out.box.row.lt
    obtain ⟨_,g5⟩:=HM.out.box.row.row.at (i:=5) (by omega)
    go_upto_region 25 with fail
    have HM2:Hid (AgM w (wM.setCell ⟨rb,5,none⟩ (.int .i64 (r1.visits+1))) rb zb ab y.cost na y.steps.length nc ({ r1 with visits:=r1.visits+1 }) xa1 xc1 (.slice qa L.length qc) L):=HM.out.put (by omega) rfl rfl
    generalize hgw:wM.setCell ⟨rb,5,none⟩ (.int .i64 (r1.visits+1))=wP at HM2  ⊢
    clear hgw
    clear q0 q1 q2 q3 q4 q5 q6 qz
    clear g5
    obtain ⟨q0,q1,q2,q3,q4,q5,q6⟩:=HM2.out.box.all
    have qz:=HM2.out.box.row.lt
    dsimp only at q4
    obtain ⟨ix,hix⟩: ∃ix:Nat,r1.at'= (ix:Int):= ⟨r1.at'.toNat,by omega⟩
    have hixl:ix < y.steps.length:=by omega
    have hii: (ix:Int) < (y.steps.length:Int):=by omega
    obtain ⟨tb,tq,cs2,rfl,htb,hcs2,aa,ca,ac,cc,rfl,hAs,hCs,_⟩:= (Steps.kept HStw.out HM2.out.kw) ix hixl
    obtain ⟨s,hs⟩: ∃s,s=y.steps.getD ix StepD.zero:= ⟨_,rfl⟩
    rw [←hs] at hcs2 hAs hCs
    have t0:=hcs2 0 _ rfl
    have t1:=hcs2 1 _ rfl
    have t2:=hcs2 2 _ rfl
    have t3:=hcs2 3 _ rfl
    have t4:=hcs2 4 _ rfl
    have t5:=hcs2 5 _ rfl
    have t6:=hcs2 6 _ rfl
    have t7:=hcs2 7 _ rfl
    rw [Nat.add_zero] at t0
    have hsm:s∈y.steps:=by rw [hs];simp [List.getD,hixl]
    have hal:= (hsz y hym s hsm).1
    have has:= (hsz y hym s hsm).2
    have hfy:=hft y hym
    have HStep:Hid (stepOf ⟨y.cost,y.steps⟩ r1.at'=s):=by show _=_;unfold stepOf;rw [hix,hs];rfl
    have p1:=HM2.out.a1
    have pz:=HM2.out.act.lt
    rw [hix] at q4
    have HAs:=hide hAs
    clear hcs2 hAs hCs hs
    have hfs:=hfy.each s hsm
    clear hix
    go_upto_region 26 with fail
    have kS:Kept wP (wP.alloc (.cells #[.slice aa s.asks.length ca,.int .i64 s.on,.slice ac s.cases.length cc,.int .i64 s.els,.int .i64 s.fall,.bool s.fin,.bool s.bad,.string s.give] 166)):= (Kept.refl _).alloc _
    have HM3:=hide (HM2.out.kept kS)
    have HAs3:=hide (HAs.out.kept kS)
    have v0:=range_new wP #[.slice aa s.asks.length ca,.int .i64 s.on,.slice ac s.cases.length cc,.int .i64 s.els,.int .i64 s.fall,.bool s.fin,.bool s.bad,.string s.give] 166 0 _ rfl
    have v5:=range_new wP #[.slice aa s.asks.length ca,.int .i64 s.on,.slice ac s.cases.length cc,.int .i64 s.els,.int .i64 s.fall,.bool s.fin,.bool s.bad,.string s.give] 166 5 _ rfl
    have v6:=range_new wP #[.slice aa s.asks.length ca,.int .i64 s.on,.slice ac s.cases.length cc,.int .i64 s.els,.int .i64 s.fall,.bool s.fin,.bool s.bad,.string s.give] 166 6 _ rfl
    have v7:=range_new wP #[.slice aa s.asks.length ca,.int .i64 s.on,.slice ac s.cases.length cc,.int .i64 s.els,.int .i64 s.fall,.bool s.fin,.bool s.bad,.string s.give] 166 7 _ rfl
    simp only [Nat.zero_add] at v0 v5 v6 v7
    have v0z:wP.heap.size < (wP.alloc (.cells #[.slice aa s.asks.length ca,.int .i64 s.on,.slice ac s.cases.length cc,.int .i64 s.els,.int .i64 s.fall,.bool s.fin,.bool s.bad,.string s.give] 166)).heap.size:=by simp
    obtain ⟨sb,hsb⟩: ∃sb,sb=wP.heap.size:= ⟨_,rfl⟩
    have hsv:sb≠rb:=by rw [hsb];omega
    have HTy:Hid (TypeAt (wP.alloc (.cells #[.slice aa s.asks.length ca,.int .i64 s.on,.slice ac s.cases.length cc,.int .i64 s.els,.int .i64 s.fall,.bool s.fin,.bool s.bad,.string s.give] 166)) sb 166):=by rw [hsb];exact (RowT.made wP _ _).type
    rw [←hsb] at v0 v5 v6 v7 v0z⊢
    generalize hgw:wP.alloc (.cells #[.slice aa s.asks.length ca,.int .i64 s.on,.slice ac s.cases.length cc,.int .i64 s.els,.int .i64 s.fall,.bool s.fin,.bool s.bad,.string s.give] 166)=wQ at HM3 HAs3 HTy v0 v5 v6 v7 v0z⊢
    clear hgw kS hsb t0 t1 t2 t3 t4 t5 t6 t7 p1 pz htb HAs HM2
    clear q0 q1 q2 q3 q4 q5 q6 qz
    obtain ⟨ic,hc0,hc1,hc2,hc3⟩:=xInfo_parts Tryz.xInfoStr
    have hzQ:w.heap.size≤wQ.heap.size:=HM3.out.kw.size
    go_upto_region 27 with (at_builtin;refine wpList_append_strs rfl (.tmp 98) (.tmp 100) 25 rfl w.heap.size 9 ic _ 16 Tryz.underlying25 hc0 hc1 hc2 hc3 rfl (.slice qa L.length qc) L.length (L.map Value.string) rfl HM3.out.ask aa ca s.asks rfl HAs3.out (by unfold maxLen;omega) (by omega) hzQ ?_;intro vA wA hoA hgA hvA;obtain ⟨qa2,qc2,rfl⟩:=own_slice hoA;have HM4:=hide (HM3.out.asks hoA hgA hvA);have kA:But (fun b=> (Value.slice qa L.length qc).ownBlock=some b) wQ wA:=But.of_grown hgA (fun b e=> e);have HnA:Hid (¬(Value.slice qa L.length qc).ownBlock=some sb):=fun e=> type_ne HTy.out (owns_type HM3.out.ask e) (by decide) rfl)
    have u5:= (kA.cell v0z HnA.out (o:=5)).trans v5
    have u6:= (kA.cell v0z HnA.out (o:=6)).trans v6
    have u7:= (kA.cell v0z HnA.out (o:=7)).trans v7
    have u5z:=Nat.lt_of_lt_of_le v0z kA.size
    have u6z:=u5z
    have u7z:=u5z
    clear v0 v5 v6 v7 v0z kA HnA hoA hgA hvA HM3 HAs3 HTy hzQ hc0 hc1 hc2 hc3
    have hlen2: (L++s.asks).length=L.length+s.asks.length:=List.length_append
    have HL2:=hide hlen2
    clear hlen2
    cases hfin:s.fin
    ·rw [hfin] at u5
     go_wp2_with fail
     go_roundg (gk - 1)
     case measure=> omega
     case rel=>
      have HNe:againN (actsOf webl) (envOf l) name (j+1)= ({ r1 with visits:=r1.visits+1 },L++s.asks):=by rw [HNxt.out,HNx.out];unfold arrive;rw [HStep.out,hfin];rfl
      exact ⟨j+1,xa1,xc1,qa2,qc2,by rw [HNe,HL2.out],by omega,HCj1,hide (by rw [HNe];dsimp only;rw [HL2.out];exact HM4.out)⟩
    ·rw [hfin] at u5
     go_upto_region 28 with fail
     obtain ⟨q0,q1,q2,q3,q4,q5,q6⟩:=HM4.out.box.all
     have qz:=HM4.out.box.row.lt
     obtain ⟨_,g1⟩:=HM4.out.box.row.row.at (i:=1) (by omega)
     go_upto_region 29 with fail
     have HM5:Hid (AgM w (wA.setCell ⟨rb,1,none⟩ (.bool true)) rb zb ab y.cost (some ⟨tb,tq,none⟩) y.steps.length nc ({ r1 with visits:=r1.visits+1,over:=true }) xa1 xc1 (.slice qa2 (L.length+s.asks.length) qc2) (L++s.asks)):=HM4.out.put (by omega) rfl rfl
     have u62: (wA.setCell ⟨rb,1,none⟩ (.bool true)).cell? ⟨sb,6,none⟩=some (.bool s.bad):=by rw [cell_set_ne hsv];exact u6
     have u6z2:sb < (wA.setCell ⟨rb,1,none⟩ (.bool true)).heap.size:=by rw [size_setCell];exact u6z
     have u72: (wA.setCell ⟨rb,1,none⟩ (.bool true)).cell? ⟨sb,7,none⟩=some (.string s.give):=by rw [cell_set_ne hsv];exact u7
     have u7z2:sb < (wA.setCell ⟨rb,1,none⟩ (.bool true)).heap.size:=by rw [size_setCell];exact u7z
     generalize hgw:wA.setCell ⟨rb,1,none⟩ (.bool true)=wR at HM5 u62 u6z2 u72 u7z2⊢
     clear hgw
     clear q0 q1 q2 q3 q4 q5 q6 qz
     clear g1
     clear u6 u6z
     have u6:=u62
     have u6z:=u6z2
     clear u62 u6z2
     clear u7 u7z
     have u7:=u72
     have u7z:=u7z2
     clear u72 u7z2
     obtain ⟨q0,q1,q2,q3,q4,q5,q6⟩:=HM5.out.box.all
     have qz:=HM5.out.box.row.lt
     obtain ⟨_,g2⟩:=HM5.out.box.row.row.at (i:=2) (by omega)
     go_upto_region 30 with fail
     have HM6:Hid (AgM w (wR.setCell ⟨rb,2,none⟩ (.bool s.bad)) rb zb ab y.cost (some ⟨tb,tq,none⟩) y.steps.length nc ({ r1 with visits:=r1.visits+1,over:=true,fail:=s.bad }) xa1 xc1 (.slice qa2 (L.length+s.asks.length) qc2) (L++s.asks)):=HM5.out.put (by omega) rfl rfl
     have u62: (wR.setCell ⟨rb,2,none⟩ (.bool s.bad)).cell? ⟨sb,6,none⟩=some (.bool s.bad):=by rw [cell_set_ne hsv];exact u6
     have u6z2:sb < (wR.setCell ⟨rb,2,none⟩ (.bool s.bad)).heap.size:=by rw [size_setCell];exact u6z
     have u72: (wR.setCell ⟨rb,2,none⟩ (.bool s.bad)).cell? ⟨sb,7,none⟩=some (.string s.give):=by rw [cell_set_ne hsv];exact u7
     have u7z2:sb < (wR.setCell ⟨rb,2,none⟩ (.bool s.bad)).heap.size:=by rw [size_setCell];exact u7z
     generalize hgw:wR.setCell ⟨rb,2,none⟩ (.bool s.bad)=wS at HM6 u62 u6z2 u72 u7z2⊢
     clear hgw
     clear q0 q1 q2 q3 q4 q5 q6 qz
     clear g2
     clear u6 u6z
     have u6:=u62
     have u6z:=u6z2
     clear u62 u6z2
     clear u7 u7z
     have u7:=u72
     have u7z:=u7z2
     clear u72 u7z2
     obtain ⟨q0,q1,q2,q3,q4,q5,q6⟩:=HM6.out.box.all
     have qz:=HM6.out.box.row.lt
     have hgs:s.give.size≤maxLen:=hfs.give
     have htl2:r1.texts.length≤maxLen:=by unfold maxLen;omega
     have hts2: ∀t∈r1.texts,t.size≤maxLen:=fun t ht=> by have:=HTs.out t ht;unfold maxLen;omega
     have HTS:Hid (Strs wS xa1 r1.texts):=by
      obtain ⟨ta,tc,hte,htS⟩:=owned_strs HM6.out.txt
      simp only [Value.slice.injEq] at hte
      rw [hte.1]
      exact htS
     go_wp2_with fail
     refine (specFinish_any wS s.give xa1 xc1 r1.texts hgs htl2 hts2 HTS.out).mono ?_
     rintro e wT ⟨rfl,kT⟩
     have HM7:=hide (HM6.out.kept kT)
     clear u6 u7 u6z u7z kT hts2 HTS
     clear q0 q1 q2 q3 q4 q5 q6 qz
     obtain ⟨fb,hfb⟩: ∃fb,fb=finB s.give r1.texts:= ⟨_,rfl⟩
     rw [←hfb]
     have HFb:=hide hfb
     clear hfb
     obtain ⟨q0,q1,q2,q3,q4,q5,q6⟩:=HM7.out.box.all
     have qz:=HM7.out.box.row.lt
     obtain ⟨_,g3⟩:=HM7.out.box.row.row.at (i:=3) (by omega)
     go_wp2_with fail
     have HM8:Hid (AgM w (wT.setCell ⟨rb,3,none⟩ (.string fb)) rb zb ab y.cost (some ⟨tb,tq,none⟩) y.steps.length nc ({ r1 with visits:=r1.visits+1,over:=true,fail:=s.bad,text:=fb }) xa1 xc1 (.slice qa2 (L.length+s.asks.length) qc2) (L++s.asks)):=HM7.out.put (by omega) rfl rfl
     go_roundg (gk - 1)
     case measure=> omega
     case rel=>
      have HNe:againN (actsOf webl) (envOf l) name (j+1)= ({ r1 with visits:=r1.visits+1,over:=true,fail:=s.bad,text:=fb },L++s.asks):=by rw [HNxt.out,HNx.out];unfold arrive;rw [HStep.out,hfin,HFb.out];rfl
      exact ⟨j+1,xa1,xc1,qa2,qc2,by rw [HNe,HL2.out],by omega,HCj1,hide (by rw [HNe];dsimp only;rw [HL2.out];exact HM8.out)⟩
theorem run_one {sl:List RunX} (h:AscX sl) {i j:Nat} (hi:i < sl.length) (hj:j < sl.length) (e:sl.getD i RunX.zero=sl.getD j RunX.zero):i=j:=by
 have hp:=List.pairwise_iff_getElem.1 h
 simp only [List.getD,List.getElem?_eq_getElem hi,List.getElem?_eq_getElem hj,Option.getD_some] at e
 rcases Nat.lt_trichotomy i j with g | g | g
 ·exact absurd (congrArg RunX.name e) (lessX_ne (hp i j hi hj g))
 ·exact g
 ·exact absurd (congrArg RunX.name e).symm (lessX_ne (hp j i hj hi g))
theorem kept_sets' {w u:World} {b:Nat} {v0 v1 v2 v3 v4 v5 v6:Value} (k:Kept w u) (hb:w.heap.size≤b):Kept w (((((((u.setCell ⟨b,0,none⟩ v0).setCell ⟨b,1,none⟩ v1).setCell ⟨b,2,none⟩ v2).setCell ⟨b,3,none⟩ v3).setCell ⟨b,4,none⟩ v4).setCell ⟨b,5,none⟩ v5).setCell ⟨b,6,none⟩ v6):=
 kept_sets hb [v0,v1,v2,v3,v4,v5,v6] 0 k
theorem rbox_sets {u:World} {b:Nat} {r:RunX} {xa:Option Addr} {xc:Nat} (h:RowT u b 76 7):RBox (((((((u.setCell ⟨b,0,none⟩ (.string r.name)).setCell ⟨b,1,none⟩ (.bool r.over)).setCell ⟨b,2,none⟩ (.bool r.fail)).setCell ⟨b,3,none⟩ (.string r.text)).setCell ⟨b,4,none⟩ (.int .i64 r.at')).setCell ⟨b,5,none⟩ (.int .i64 r.visits)).setCell ⟨b,6,none⟩ (.slice xa r.texts.length xc)) b r xa xc:=
 ⟨((((((h.set _).set _).set _).set _).set _).set _).set _,World.rangeAt_setCells_same u b 0 (r.cells xa xc) (h.row.there (o:=0) (m:=7) (Nat.le_refl _))⟩
theorem next_at {W:Acts} {σ:Env} {r:RunX} {A:ActionD} (hA:W r.name=some A) (hc:CanGo W σ r) (ho: (nextOf W σ r).1.over=false): (r.visits=0∧(nextOf W σ r).1.at'=r.at')∨(r.visits≠0∧∃xs,answersOf W σ (stepOf A r.at').asks=some xs∧(nextOf W σ r).1.at'= (goOnF (stepOf A r.at') xs).at'):=by
 have ar: ∀q:RunX,(arrive A q).1.at'=q.at':=fun q=> by
  unfold arrive
  simp only
  split <;> rfl
 unfold nextOf at ho⊢
 rw [hA] at ho⊢
 simp only at ho⊢
 by_cases hv:r.visits=0
 ·rw [if_pos hv];exact .inl ⟨hv,ar r⟩
 ·rw [if_neg hv] at ho⊢
  rcases hc.2 with e | ⟨A',xs,hA',hxs⟩
  ·exact absurd e hv
  ·rw [hA] at hA'
   cases hA'
   rw [hxs] at ho⊢
   simp only at ho⊢
   by_cases h20:r.visits=20
   ·rw [if_pos h20] at ho;cases ho
   ·rw [if_neg h20] at ho⊢
    by_cases hgo: (goOnF (stepOf A r.at') xs).over=true
    ·rw [if_pos hgo] at ho;cases ho
    ·rw [if_neg hgo];exact .inr ⟨hv,xs,rfl,ar _⟩
theorem Traj.over_visits {W:Acts} {σ:Env} {r:RunX} {L:List ByteArray} (hw: (W r.name).isSome=true) (h:Traj W σ r L) (ho:r.over=true):r.visits≠0:=by
 obtain ⟨k,h1,h2⟩:=h
 cases k with
 | zero=>
  have h3:= (Prod.mk.inj h1).1
  rw [←h3] at ho
  cases ho
 | succ k=>
  have hk:=h2 k (by omega)
  have hv:=againN_visits hw (k:=k) (fun j hj=> h2 j (by omega)) hk.1
  have h3: (nextOf W σ (againN W σ r.name k).1).1=r:= (Prod.mk.inj h1).1
  rcases nextOf_visits hk (by rw [againN_name];exact hw) with g | ⟨_,g,_⟩
  ·rw [h3,hv] at g;omega
  ·rw [h3] at g;omega
def AskedEnd (L:List ByteArray) (w':World) (e:Ending):Prop:= ∃(qa:Option Addr) (qc:Nat),e= .returned (.slice qa L.length qc)∧Strs w' qa L
set_option maxRecDepth 100000 in
set_option maxHeartbeats 12800000 in
theorem l6Asked_any (w:World) (a:Option Addr) (cap:Nat) (webl:List NodeD) (ra:Option Addr) (rn rc:Nat) (d:Option Addr) (dc:Nat) (sl:List RunX) (name:ByteArray) (hwl:webl.length≤1048576) (hsl:sl.length≤1048576) (hsz:SmallAsks webl) (hok:ActsOk (actsOf webl)) (hft: ∀y∈webl,y.Fits) (hge:GoodEnv webl (envOf sl)) (hasc:AscX sl) {r:RunX} {L:List ByteArray} (hr:envOf sl name=some r) (ht:Traj (actsOf webl) (envOf sl) r L)
  (hN:Nodes w a webl) (hS:RunsX w d sl):
  Calls Tryz.prog 56 #[.agg #[.slice a webl.length cap],.agg #[.slice ra rn rc,.slice d sl.length dc],.string name] w fun e w'=> AskedEnd L w' e∧Kept w w':=by
 obtain ⟨WB,hWB⟩: ∃WB,WB= (w.alloc (.cells #[.slice a webl.length cap] 37)).alloc (.cells #[.slice ra rn rc,.slice d sl.length dc] 41):= ⟨_,rfl⟩
 have kB:Kept w WB:=by rw [hWB];exact ((Kept.refl _).alloc _).alloc _
 have hBs:WB.heap.size=w.heap.size+2:=by rw [hWB];simp
 have b0:WB.cell? ⟨w.heap.size,0,none⟩=some (.slice a webl.length cap):=by rw [hWB,Kept.cell (w:=w.alloc (.cells #[.slice a webl.length cap] 37)) ((Kept.refl _).alloc _) (by simp)];exact range_new w _ _ 0 _ rfl
 have s0:WB.cell? ⟨w.heap.size+1,0,none⟩=some (.slice ra rn rc):=by have:=range_new (w.alloc (.cells #[.slice a webl.length cap] 37)) #[.slice ra rn rc,.slice d sl.length dc] 41 0 _ rfl;rw [World.size_alloc] at this;rw [hWB];exact this
 have s1:WB.cell? ⟨w.heap.size+1,1,none⟩=some (.slice d sl.length dc):=by have:=range_new (w.alloc (.cells #[.slice a webl.length cap] 37)) #[.slice ra rn rc,.slice d sl.length dc] 41 1 _ rfl;rw [World.size_alloc] at this;rw [hWB];exact this
 have z0:w.heap.size < WB.heap.size:=by omega
 have z1:w.heap.size+1 < WB.heap.size:=by omega
 have HC:Hid (∀w',Kept WB w'→w'.cell? ⟨w.heap.size,0,none⟩=some (.slice a webl.length cap)∧w'.cell? ⟨w.heap.size+1,0,none⟩=some (.slice ra rn rc)∧w'.cell? ⟨w.heap.size+1,1,none⟩=some (.slice d sl.length dc)∧w.heap.size < w'.heap.size∧w.heap.size+1 < w'.heap.size):=fun w' K=> ⟨(K.cell z0).trans b0,(K.cell z1).trans s0,(K.cell z1).trans s1,Nat.lt_of_lt_of_le z0 K.size,Nat.lt_of_lt_of_le z1 K.size⟩
 have HKB:=hide kB
 have hrn:r.name=name:= (hge name r hr).1
 have HGd:=hide (hge name r hr).2
 obtain ⟨A,hA⟩: ∃A,actsOf webl name=some A:=by
  obtain ⟨A,hA,_⟩:=HGd.out.act
  rw [hrn] at hA
  exact ⟨A,hA⟩
 have hin: (actsOf webl name).isSome=true:=by rw [hA];rfl
 obtain ⟨k,hk,hkn,hkf,rfl⟩:=acts_first hA
 obtain ⟨y,hy⟩: ∃y,y=webl.getD k NodeD.zero:= ⟨_,rfl⟩
 rw [←hy] at hA hkn
 have hym:y∈webl:=by rw [hy];simp [List.getD,hk]
 obtain ⟨nb,nq,cs,e1,hnb0,hcs,na,nc,rfl,hSt⟩:=hN k hk
 rw [←hy] at hcs hSt
 subst e1
 have n1:=hcs 1 _ rfl
 have n2:=hcs 2 _ rfl
 obtain ⟨i,hi,hie⟩: ∃i,i < sl.length∧sl.getD i RunX.zero=r:=by
  have h:=List.mem_of_find?_eq_some hr
  obtain ⟨i,hi,e⟩:=List.getElem_of_mem h
  exact ⟨i,hi,by simp [List.getD,hi,e]⟩
 obtain ⟨rb,ro,xa,xc,e1,hrb,hrc,_,_⟩:=hS i hi
 rw [hie] at hrc
 subst e1
 have HAct:=hide hA
 have HNw:=hide hN
 have HSw:=hide hS
 have HStw:=hide hSt
 have HY:=hide hy
 have HRn:=hide hrn
 have HT:=hide ht
 have HR:=hide hr
 have HIe:=hide hie
 have x0:=hrc 0 _ rfl
 have x1:=hrc 1 _ rfl
 have x2:=hrc 2 _ rfl
 have x3:=hrc 3 _ rfl
 have x4:=hrc 4 _ rfl
 have x5:=hrc 5 _ rfl
 have x6:=hrc 6 _ rfl
 rw [Nat.add_zero] at x0
 clear kB hBs b0 s0 s1 hcs hSt hA hN hS hy hrc hrn ht hr hie
 go_enter Tryz.func56,Tryz.ntmps56
 go_upto_region 1 with fail
 rw [←hWB]
 clear hWB
 obtain ⟨b0,s0,s1,_,_⟩:=HC.out _ (Kept.refl WB)
 go_wp2_with fail
 refine (l4Known_any WB (some ⟨nb,nq,none⟩) webl.length cap ra rn rc (some ⟨rb,ro,none⟩) sl.length dc).mono ?_
 rintro e w1 ⟨kb,rfl,hK1,k1⟩
 have HK1:=hide hK1
 have K1:=hide k1
 clear hK1 k1 b0 s0 s1 z0 z1
 go_wp2_with fail
 refine (again_any w1 kb (some ⟨nb,nq,none⟩) cap webl (some ⟨rb,ro,none⟩) dc sl name hwl hsl hsz hok hft hge hin HK1.out (HNw.out.kept (HKB.out.trans K1.out)) (HSw.out.kept (HKB.out.trans K1.out))).mono ?_
 rintro e w2 ⟨⟨kk,ya,yc,qa,qc,rfl,hc1,hc2,_,hq⟩,k2⟩
 obtain ⟨rx,hrx⟩: ∃rx,rx= (againN (actsOf webl) (envOf sl) name kk).1:= ⟨_,rfl⟩
 obtain ⟨Lx,hLx⟩: ∃Lx,Lx= (againN (actsOf webl) (envOf sl) name kk).2:= ⟨_,rfl⟩
 have HLx:Hid (r.over=true→Lx=L):=fun ho=> by
  have h:=HT.out.last ho (k:=kk) (by rw [HRn.out];exact hc1) (by rw [HRn.out];exact hc2)
  rw [HRn.out] at h
  rw [hLx,h]
 rw [←hLx] at hq
 rw [←hrx,←hLx]
 have hcells: (RunX.cells rx ya yc).toArray= #[.string rx.name,.bool rx.over,.bool rx.fail,.string rx.text,.int .i64 rx.at',.int .i64 rx.visits,.slice ya rx.texts.length yc]:=rfl
 rw [hcells]
 have HQ:=hide hq
 have K2:=hide (K1.out.trans k2)
 clear hcells hrx hLx hc1 hc2 hq k2 K1 HK1
 go_upto_region 2 with fail
 have kR:Kept w2 (w2.alloc (.cells #[.string rx.name,.bool rx.over,.bool rx.fail,.string rx.text,.int .i64 rx.at',.int .i64 rx.visits,.slice ya rx.texts.length yc] 76)):= (Kept.refl _).alloc _
 have K3:=hide (K2.out.trans kR)
 have HQ3:=hide (HQ.out.kept kR)
 generalize hgw:w2.alloc (.cells #[.string rx.name,.bool rx.over,.bool rx.fail,.string rx.text,.int .i64 rx.at',.int .i64 rx.visits,.slice ya rx.texts.length yc] 76)=w3 at K3 HQ3⊢
 clear hgw kR K2 HQ
 have HS2:Hid (∀w',Kept w3 w'→w'.cell? ⟨w.heap.size+1,0,none⟩=some (.slice ra rn rc)∧w'.cell? ⟨w.heap.size+1,1,none⟩=some (.slice (some ⟨rb,ro,none⟩) sl.length dc)∧w'.cell? ⟨rb,ro+i * 7,none⟩=some (.string r.name)∧w'.cell? ⟨rb,ro+i * 7+1,none⟩=some (.bool r.over)∧w'.cell? ⟨rb,ro+i * 7+2,none⟩=some (.bool r.fail)∧w'.cell? ⟨rb,ro+i * 7+3,none⟩=some (.string r.text)∧w'.cell? ⟨rb,ro+i * 7+4,none⟩=some (.int .i64 r.at')∧w'.cell? ⟨rb,ro+i * 7+5,none⟩=some (.int .i64 r.visits)∧w'.cell? ⟨rb,ro+i * 7+6,none⟩=some (.slice xa r.texts.length xc)):=fun w' K=> ⟨(HC.out w' (K3.out.trans K)).2.1,(HC.out w' (K3.out.trans K)).2.2.1,((HKB.out.trans (K3.out.trans K)).cell hrb).trans x0,((HKB.out.trans (K3.out.trans K)).cell hrb).trans x1,((HKB.out.trans (K3.out.trans K)).cell hrb).trans x2,((HKB.out.trans (K3.out.trans K)).cell hrb).trans x3,((HKB.out.trans (K3.out.trans K)).cell hrb).trans x4,((HKB.out.trans (K3.out.trans K)).cell hrb).trans x5,((HKB.out.trans (K3.out.trans K)).cell hrb).trans x6⟩
 have hii: (i:Int) < (sl.length:Int):=by omega
 clear x0 x1 x2 x3 x4 x5 x6
 go_cut [9] from 24 to 30 (fun s9 wx=> ∃rb9,s9= .pointer (some ⟨rb9,0,none⟩)∧Kept w3 wx∧w3.heap.size≤rb9∧RBox wx rb9 r xa xc)
 case first=>
  refine UpTo.region (by kernel_rfl) (fun w'=> w'.cell? ⟨w.heap.size+1,0,none⟩=some (.slice ra rn rc)∧w'.cell? ⟨w.heap.size+1,1,none⟩=some (.slice (some ⟨rb,ro,none⟩) sl.length dc)∧w'.cell? ⟨rb,ro+i * 7,none⟩=some (.string r.name)∧w'.cell? ⟨rb,ro+i * 7+1,none⟩=some (.bool r.over)∧w'.cell? ⟨rb,ro+i * 7+2,none⟩=some (.bool r.fail)∧w'.cell? ⟨rb,ro+i * 7+3,none⟩=some (.string r.text)∧w'.cell? ⟨rb,ro+i * 7+4,none⟩=some (.int .i64 r.at')∧w'.cell? ⟨rb,ro+i * 7+5,none⟩=some (.int .i64 r.visits)∧w'.cell? ⟨rb,ro+i * 7+6,none⟩=some (.slice xa r.texts.length xc)) 8 (HS2.out _ ((Kept.refl w3).drew)) (fun hHeld=> ?_)
  have KD:Kept w3 w3.drew:= (Kept.refl w3).drew
  generalize hwd:w3.drew=wd at hHeld KD⊢
  clear hwd
  refine UpTo.tk 0 [1,5,6,8] hHeld ?_
  try simp only [Act.put,upA,upB,upC]
  refine UpTo.tk 1 [5,6,8] hHeld ?_
  try simp only [Act.put,upA,upB,upC]
  refine UpTo.tk 2 [4,5,6,8] hHeld ?_
  try simp only [Act.put,upA,upB,upC]
  refine UpTo.tk 3 [4,5,6,8] hHeld ?_
  try simp only [Act.put,upA,upB,upC]
  refine UpTo.two 4 7 (by kernel_rfl) (by (simp only [List.getElem?_toArray,List.getElem?_cons_succ,List.getElem?_cons_zero];rfl)) (by (simp only [List.getElem?_toArray,List.getElem?_cons_succ,List.getElem?_cons_zero];rfl)) (fun K hK=> ?_) (fun K hK=> ?_)
  ·rw [if_pos (by rfl)]
   go_simp
   go_at_call 64
   refine (l4At_place wd ra rn rc (some ⟨rb,ro,none⟩) dc sl name hsl (HSw.out.kept (HKB.out.trans (K3.out.trans KD)))).mono ?_
   rintro e w4 ⟨⟨q,rfl,hq⟩,k2⟩
   have K4:=KD.trans k2
   obtain ⟨i2,hi2,rfl,hq1,hq2⟩: ∃i2:Nat,i2 < sl.length∧q= (i2:Int)∧sl.getD i2 RunX.zero=r∧(sl.getD i2 RunX.zero).name=name:=by
    rcases hq with ⟨i2,h1,h2,h3,h4⟩ | ⟨_,h1⟩
    ·rw [HR.out] at h3;exact ⟨i2,h1,h2,(Option.some.inj h3).symm,h4⟩
    ·rw [HR.out] at h1;cases h1
   obtain rfl:i2=i:=run_one hasc hi2 hi (by rw [hq1,HIe.out])
   clear hq hq1 hq2 hi2
   dsimp only
   refine hK.out _ _ (fun _=> HS2.out _ K4) ?_
   clear hK K
   try simp only [Act.put,upA,upB,upC]
   clear hHeld
   have hHeld:=HS2.out _ K4
   refine UpTo.tk 5 [6,8] hHeld ?_
   try simp only [Act.put,upA,upB,upC]
   refine UpTo.tk 6 [8] hHeld ?_
   try simp only [Act.put,upA,upB,upC]
   refine UpTo.nx 7 (fun K hK=> ?_)
   go_simp
   have K5:Kept w4 (w4.alloc (.cells #[.string ⟨#[]⟩,.bool false,.bool false,.string ⟨#[]⟩,.int .i64 0,.int .i64 0,.slice none 0 0] 76)):= (Kept.refl _).alloc _
   refine hK.out _ _ (fun _=> HS2.out _ (K4.trans K5)) ?_
   clear hK K
   try simp only [Act.put,upA,upB,upC]
   have hRw:RowT (w4.alloc (.cells #[.string ⟨#[]⟩,.bool false,.bool false,.string ⟨#[]⟩,.int .i64 0,.int .i64 0,.slice none 0 0] 76)) w4.heap.size 76 7:=RowT.made w4 _ _
   have KE:=K4.trans K5
   generalize hwe:w4.alloc (.cells #[.string ⟨#[]⟩,.bool false,.bool false,.string ⟨#[]⟩,.int .i64 0,.int .i64 0,.slice none 0 0] 76)=wE at hRw KE⊢
   clear hwe K5
   obtain ⟨⟨_,v0⟩,f0⟩:=hRw.row.at (i:=0) (by omega)
   obtain ⟨⟨_,v1⟩,f1⟩:=hRw.row.at (i:=1) (by omega)
   obtain ⟨⟨_,v2⟩,f2⟩:=hRw.row.at (i:=2) (by omega)
   obtain ⟨⟨_,v3⟩,f3⟩:=hRw.row.at (i:=3) (by omega)
   obtain ⟨⟨_,v4⟩,f4⟩:=hRw.row.at (i:=4) (by omega)
   obtain ⟨⟨_,v5⟩,f5⟩:=hRw.row.at (i:=5) (by omega)
   obtain ⟨⟨_,v6⟩,f6⟩:=hRw.row.at (i:=6) (by omega)
   have vz:=hRw.lt
   refine UpTo.nx 8 (fun K hK=> ?_)
   go_simp
   refine hK.out _ _ (fun h=> absurd rfl h) ?_
   clear hK K
   try simp only [Act.put,upA,upB,upC]
   refine UpTo.done (by kernel_rfl) ?_
   go_wp2_with fail
   go_meet
   exact ⟨w4.heap.size,rfl,kept_sets' KE K4.size,K4.size,rbox_sets hRw⟩
  ·rw [if_pos (by rfl)]
   go_simp
   have K5:Kept wd (wd.alloc (.cells #[.string ⟨#[]⟩,.bool false,.bool false,.string ⟨#[]⟩,.int .i64 0,.int .i64 0,.slice none 0 0] 76)):= (Kept.refl _).alloc _
   have K5b:=KD.trans K5
   refine hK.out _ _ (fun _=> HS2.out _ K5b) ?_
   clear hK K
   try simp only [Act.put,upA,upB,upC]
   refine UpTo.nx 4 (fun K hK=> ?_)
   rw [if_pos (by rfl)]
   go_simp
   go_at_call 64
   refine (l4At_place (wd.alloc (.cells #[.string ⟨#[]⟩,.bool false,.bool false,.string ⟨#[]⟩,.int .i64 0,.int .i64 0,.slice none 0 0] 76)) ra rn rc (some ⟨rb,ro,none⟩) dc sl name hsl (HSw.out.kept (HKB.out.trans (K3.out.trans K5b)))).mono ?_
   rintro e w4 ⟨⟨q,rfl,hq⟩,k2⟩
   have K4:=K5b.trans k2
   obtain ⟨i2,hi2,rfl,hq1,hq2⟩: ∃i2:Nat,i2 < sl.length∧q= (i2:Int)∧sl.getD i2 RunX.zero=r∧(sl.getD i2 RunX.zero).name=name:=by
    rcases hq with ⟨i2,h1,h2,h3,h4⟩ | ⟨_,h1⟩
    ·rw [HR.out] at h3;exact ⟨i2,h1,h2,(Option.some.inj h3).symm,h4⟩
    ·rw [HR.out] at h1;cases h1
   obtain rfl:i2=i:=run_one hasc hi2 hi (by rw [hq1,HIe.out])
   clear hq hq1 hq2 hi2
   dsimp only
   refine hK.out _ _ (fun _=> HS2.out _ K4) ?_
   clear hK K
   try simp only [Act.put,upA,upB,upC]
   clear hHeld
   have hHeld:=HS2.out _ K4
   refine UpTo.tk 5 [6,8] hHeld ?_
   try simp only [Act.put,upA,upB,upC]
   refine UpTo.tk 6 [8] hHeld ?_
   try simp only [Act.put,upA,upB,upC]
   have hRw:RowT w4 wd.heap.size 76 7:= (RowT.made wd #[.string ⟨#[]⟩,.bool false,.bool false,.string ⟨#[]⟩,.int .i64 0,.int .i64 0,.slice none 0 0] 76).kept k2
   obtain ⟨⟨_,v0⟩,f0⟩:=hRw.row.at (i:=0) (by omega)
   obtain ⟨⟨_,v1⟩,f1⟩:=hRw.row.at (i:=1) (by omega)
   obtain ⟨⟨_,v2⟩,f2⟩:=hRw.row.at (i:=2) (by omega)
   obtain ⟨⟨_,v3⟩,f3⟩:=hRw.row.at (i:=3) (by omega)
   obtain ⟨⟨_,v4⟩,f4⟩:=hRw.row.at (i:=4) (by omega)
   obtain ⟨⟨_,v5⟩,f5⟩:=hRw.row.at (i:=5) (by omega)
   obtain ⟨⟨_,v6⟩,f6⟩:=hRw.row.at (i:=6) (by omega)
   have vz:=hRw.lt
   refine UpTo.nx 8 (fun K hK=> ?_)
   go_simp
   refine hK.out _ _ (fun h=> absurd rfl h) ?_
   clear hK K
   try simp only [Act.put,upA,upB,upC]
   refine UpTo.done (by kernel_rfl) ?_
   go_wp2_with fail
   go_meet
   exact ⟨wd.heap.size,rfl,kept_sets' K4 KD.size,KD.size,rbox_sets hRw⟩
 case rest=>
  obtain ⟨rb9,rfl,Kc,hlow9,hbox⟩:=hcut
  have HBox:=hide hbox
  have K4:=hide (K3.out.trans Kc)
  have HQ4:=hide (HQ3.out.kept Kc)
  skip
  clear hbox Kc HQ3 HS2 K3 hlow9 hii
  obtain ⟨q0,q1,q2,q3,q4,q5,q6⟩:=HBox.out.all
  have qz:=HBox.out.row.lt
  have lo:=HGd.out.lo
  have hi20:=HGd.out.hi
  cases hov:r.over
  ·rw [hov] at q1
   by_cases hv:r.visits=0
   ·have hv0: (r.visits == 0)=true:=by simp [hv]
    have HLe:Hid (L=[]):=HT.out.zero (by rw [HRn.out];exact hin) hv hov
    clear hv hov
    go_wp2_with fail
    go_ret
    exact ⟨⟨_,0,by rw [HLe.out];rfl,by rw [HLe.out];exact fun i hi=> by cases hi⟩,HKB.out.trans (K4.out.trans ((Kept.refl _).alloc _))⟩
   ·have hv0: (r.visits == 0)=false:=by simpa using hv
    obtain ⟨K,hK1,hK2,hK3⟩:=HT.out.here (by rw [HRn.out];exact hin) hov
    rw [HRn.out] at hK2 hK3
    have HKv:=hide hK1
    have HKa:=hide hK2
    have HKc:=hide hK3
    have HOv:=hide hov
    have hK20:K≤20:=by omega
    clear hv hov hK1 hK2 hK3 HLx HQ4
    go_upto_region 7 with fail
    have HS7:Hid (∀w',Kept wc w'→w'.cell? ⟨w.heap.size,0,none⟩=some (.slice (some ⟨nb,nq,none⟩) webl.length cap)∧w'.cell? ⟨nb,nq+k * 3+1,none⟩=some (.int .i64 y.cost)∧w'.cell? ⟨nb,nq+k * 3+2,none⟩=some (.slice na y.steps.length nc)):=fun w' K=> ⟨(HC.out w' (K4.out.trans K)).1,((HKB.out.trans (K4.out.trans K)).cell hnb0).trans n1,((HKB.out.trans (K4.out.trans K)).cell hnb0).trans n2⟩
    have hki: (k:Int) < (webl.length:Int):=by omega
    clear q0 q1 q2 q3 q4 q5 q6 qz
    go_cut [10] from 31 to 50 (fun s10 wx=> ∃ab,s10= .pointer (some ⟨ab,0,none⟩)∧Kept wc wx∧RowT wx ab 110 2∧wx.cell? ⟨ab,0,none⟩=some (.int .i64 y.cost)∧wx.cell? ⟨ab,1,none⟩=some (.slice na y.steps.length nc))
    case first=>
     refine UpTo.region (by kernel_rfl) (fun w'=> w'.cell? ⟨w.heap.size,0,none⟩=some (.slice (some ⟨nb,nq,none⟩) webl.length cap)∧w'.cell? ⟨nb,nq+k * 3+1,none⟩=some (.int .i64 y.cost)∧w'.cell? ⟨nb,nq+k * 3+2,none⟩=some (.slice na y.steps.length nc)) 9 (HS7.out _ ((Kept.refl wc).drew)) (fun hHeld=> ?_)
     have KD:Kept wc wc.drew:= (Kept.refl wc).drew
     generalize hwd:wc.drew=wd at hHeld KD⊢
     clear hwd
     refine UpTo.tk 0 [1,5,6,7,9] hHeld ?_
     try simp only [Act.put,upA,upB,upC]
     refine UpTo.tk 1 [5,6,7,9] hHeld ?_
     try simp only [Act.put,upA,upB,upC]
     refine UpTo.tk 2 [4,5,6,7,9] hHeld ?_
     try simp only [Act.put,upA,upB,upC]
     refine UpTo.tk 3 [4,5,6,7,9] hHeld ?_
     try simp only [Act.put,upA,upB,upC]
     refine UpTo.two 4 8 (by kernel_rfl) (by (simp only [List.getElem?_toArray,List.getElem?_cons_succ,List.getElem?_cons_zero];rfl)) (by (simp only [List.getElem?_toArray,List.getElem?_cons_succ,List.getElem?_cons_zero];rfl)) (fun K hK=> ?_) (fun K hK=> ?_)
     ·rw [if_pos (by rfl)]
      go_simp
      go_at_call 69
      refine (l2At_place wd (some ⟨nb,nq,none⟩) cap webl name hwl (HNw.out.kept (HKB.out.trans (K4.out.trans KD)))).mono ?_
      rintro e w2 ⟨⟨q,rfl,hq⟩,k2⟩
      have K2:=KD.trans k2
      obtain rfl:q= (k:Int):=by
       rcases hq with ⟨k',_,e',_,h1,h2⟩ | ⟨_,h1⟩
       ·rw [e',first_unique (by rw [←HY.out];exact hkn) hkf h1 h2]
       ·rw [HAct.out] at h1;cases h1
      clear hq
      dsimp only
      refine hK.out _ _ (fun _=> HS7.out _ K2) ?_
      clear hK K
      try simp only [Act.put,upA,upB,upC]
      clear hHeld
      have hHeld:=HS7.out _ K2
      refine UpTo.tk 5 [6,7,9] hHeld ?_
      try simp only [Act.put,upA,upB,upC]
      refine UpTo.tk 6 [7,9] hHeld ?_
      try simp only [Act.put,upA,upB,upC]
      refine UpTo.tk 7 [9] hHeld ?_
      try simp only [Act.put,upA,upB,upC]
      refine UpTo.nx 8 (fun K hK=> ?_)
      go_simp
      have K3:Kept w2 (w2.alloc (.cells #[.int .i64 0,.slice none 0 0] 110)):= (Kept.refl _).alloc _
      refine hK.out _ _ (fun _=> HS7.out _ (K2.trans K3)) ?_
      clear hK K
      try simp only [Act.put,upA,upB,upC]
      have hRw:RowT (w2.alloc (.cells #[.int .i64 0,.slice none 0 0] 110)) w2.heap.size 110 2:=RowT.made w2 _ _
      have KE:=K2.trans K3
      generalize hwe:w2.alloc (.cells #[.int .i64 0,.slice none 0 0] 110)=wE at hRw KE⊢
      clear hwe K3
      obtain ⟨⟨_,v0⟩,f0⟩:=hRw.row.at (i:=0) (by omega)
      obtain ⟨⟨_,v1⟩,f1⟩:=hRw.row.at (i:=1) (by omega)
      have vz:=hRw.lt
      refine UpTo.nx 9 (fun K hK=> ?_)
      go_simp
      refine hK.out _ _ (fun h=> absurd rfl h) ?_
      clear hK K
      try simp only [Act.put,upA,upB,upC]
      refine UpTo.done (by kernel_rfl) ?_
      go_wp2_with fail
      go_meet
      exact ⟨w2.heap.size,rfl,Below.setCell (Below.setCell KE (p:= ⟨w2.heap.size,0,none⟩) K2.size _) (p:= ⟨w2.heap.size,1,none⟩) K2.size _,(hRw.set _).set _,(set_miss (by omega) _).trans (set_hit hRw.row (by omega) _),set_hit (hRw.set _).row (by omega) _⟩
     ·rw [if_pos (by rfl)]
      go_simp
      have K3:Kept wd (wd.alloc (.cells #[.int .i64 0,.slice none 0 0] 110)):= (Kept.refl _).alloc _
      have K3b:=KD.trans K3
      refine hK.out _ _ (fun _=> HS7.out _ K3b) ?_
      clear hK K
      try simp only [Act.put,upA,upB,upC]
      refine UpTo.nx 4 (fun K hK=> ?_)
      rw [if_pos (by rfl)]
      go_simp
      go_at_call 69
      refine (l2At_place (wd.alloc (.cells #[.int .i64 0,.slice none 0 0] 110)) (some ⟨nb,nq,none⟩) cap webl name hwl (HNw.out.kept (HKB.out.trans (K4.out.trans K3b)))).mono ?_
      rintro e w2 ⟨⟨q,rfl,hq⟩,k2⟩
      have K2:=K3b.trans k2
      obtain rfl:q= (k:Int):=by
       rcases hq with ⟨k',_,e',_,h1,h2⟩ | ⟨_,h1⟩
       ·rw [e',first_unique (by rw [←HY.out];exact hkn) hkf h1 h2]
       ·rw [HAct.out] at h1;cases h1
      clear hq
      dsimp only
      refine hK.out _ _ (fun _=> HS7.out _ K2) ?_
      clear hK K
      try simp only [Act.put,upA,upB,upC]
      clear hHeld
      have hHeld:=HS7.out _ K2
      refine UpTo.tk 5 [6,7,9] hHeld ?_
      try simp only [Act.put,upA,upB,upC]
      refine UpTo.tk 6 [7,9] hHeld ?_
      try simp only [Act.put,upA,upB,upC]
      refine UpTo.tk 7 [9] hHeld ?_
      try simp only [Act.put,upA,upB,upC]
      have hRw:RowT w2 wd.heap.size 110 2:= (RowT.made wd #[.int .i64 0,.slice none 0 0] 110).kept k2
      obtain ⟨⟨_,v0⟩,f0⟩:=hRw.row.at (i:=0) (by omega)
      obtain ⟨⟨_,v1⟩,f1⟩:=hRw.row.at (i:=1) (by omega)
      have vz:=hRw.lt
      refine UpTo.nx 9 (fun K hK=> ?_)
      go_simp
      refine hK.out _ _ (fun h=> absurd rfl h) ?_
      clear hK K
      try simp only [Act.put,upA,upB,upC]
      refine UpTo.done (by kernel_rfl) ?_
      go_wp2_with fail
      go_meet
      exact ⟨wd.heap.size,rfl,Below.setCell (Below.setCell K2 (p:= ⟨wd.heap.size,0,none⟩) KD.size _) (p:= ⟨wd.heap.size,1,none⟩) KD.size _,(hRw.set _).set _,(set_miss (by omega) _).trans (set_hit hRw.row (by omega) _),set_hit (hRw.set _).row (by omega) _⟩
    case rest=>
     obtain ⟨ab,rfl,Kd,hRa,ha0,ha1⟩:=hcut
     obtain ⟨w7,rfl⟩: ∃w7,w7=wc:= ⟨_,rfl⟩
     have K7:=hide (K4.out.trans Kd)
     have HBox7:=hide (HBox.out.kept Kd)
     have HC7:Hid (∀u,Kept w7 u→u.cell? ⟨w.heap.size,0,none⟩=some (.slice (some ⟨nb,nq,none⟩) webl.length cap)∧u.cell? ⟨w.heap.size+1,0,none⟩=some (.slice ra rn rc)∧u.cell? ⟨w.heap.size+1,1,none⟩=some (.slice (some ⟨rb,ro,none⟩) sl.length dc)∧u.cell? ⟨rb9,5,none⟩=some (.int .i64 r.visits)∧u.cell? ⟨ab,0,none⟩=some (.int .i64 y.cost)∧u.cell? ⟨ab,1,none⟩=some (.slice na y.steps.length nc)∧rb9 < u.heap.size∧ab < u.heap.size):=fun u k=> ⟨(HC.out u (K7.out.trans k)).1,(HC.out u (K7.out.trans k)).2.1,(HC.out u (K7.out.trans k)).2.2.1,(HBox7.out.kept k).all.2.2.2.2.2.1,(k.cell hRa.lt).trans ha0,(k.cell hRa.lt).trans ha1,(HBox7.out.kept k).row.lt,(hRa.kept k).lt⟩
     have HOE:Hid ((w7.alloc (.cells #[] 9)).ownsRow w7.heap.size 9 1 (.slice (some ⟨w7.heap.size,0,none⟩) 0 0) 0 (([]:List ByteArray).map Value.string)):=World.ownsRow_made w7 #[] 0 (Nat.le_refl _) (Nat.zero_le _) rfl
     have kE:Kept w7 (w7.alloc (.cells #[] 9)):= (Kept.refl _).alloc _
     obtain ⟨ic,hc0,hc1,hc2,hc3⟩:=xInfo_parts Tryz.xInfoStr
     clear hRa ha0 ha1 Kd K4 HS7 n1 n2 HBox
     go_wp2_with fail
     go_loopw [11,12,13] (fun x11 x12 x13 wr=> ∃(m:Nat) (qo:Option Addr) (qp:Nat),m≤K∧x13= .int .i64 ((m:Int)+1)∧x12= .int .i64 (againN (actsOf webl) (envOf sl) name m).1.at'∧x11= (.slice qo (againN (actsOf webl) (envOf sl) name m).2.length qp)∧Hid (wr.ownsRow w7.heap.size 9 1 (.slice qo (againN (actsOf webl) (envOf sl) name m).2.length qp) (againN (actsOf webl) (envOf sl) name m).2.length ((againN (actsOf webl) (envOf sl) name m).2.map Value.string))∧Kept w7 wr) (fun _ _ x13 _=> K+1 - (intOf x13).toNat)
     case atStart=> exact ⟨0,some ⟨w7.heap.size,0,none⟩,0,Nat.zero_le _,rfl,rfl,rfl,HOE,kE⟩
     case round=>
      clear HOE kE
      obtain ⟨m,qo,qp,hm,rfl,rfl,rfl,HO,Kr⟩:=hrel
      obtain ⟨c0,c1,c2,c5,a0,a1,rz9,az⟩:=HC7.out _ Kr
      rw [HKv.out] at c5
      by_cases hmk:m < K
      rotate_left
      ·have hnk: ¬((m:Int)+1≤(K:Int)):=by omega
       have HLe:Hid ((againN (actsOf webl) (envOf sl) name m).2=L):=by show _=_;rw [show m=K by omega,HKa.out]
       have HS9:Hid (Strs wr qo (againN (actsOf webl) (envOf sl) name m).2):=by
        obtain ⟨da,dc2,e9,h9⟩:=owned_strs HO.out
        simp only [Value.slice.injEq] at e9
        rw [e9.1]
        exact h9
       clear hmk
       go_wp2_with fail
       go_ret
       exact ⟨⟨qo,qp,by rw [HLe.out];rfl,by rw [←HLe.out];exact HS9.out⟩,HKB.out.trans (K7.out.trans Kr)⟩
      have hmi: (m:Int)+1≤(K:Int):=by omega
      have HCm:=hide (HKc.out m hmk)
      have HGm:=hide (againN_good hok hge hin (k:=m) (fun j hj=> HKc.out j (by omega)))
      have HVm:Hid ((againN (actsOf webl) (envOf sl) name m).1.visits=m):=againN_visits hin (fun j hj=> HKc.out j (by omega)) HCm.out.1
      have HOm:Hid ((againN (actsOf webl) (envOf sl) name (m+1)).1.over=false):=by
       show _=_
       by_cases e:m+1=K
       ·rw [e,HKa.out];exact HOv.out
       ·exact (HKc.out (m+1) (by omega)).1
      have HGm1:=hide (againN_good hok hge hin (k:=m+1) (fun j hj=> HKc.out j (by omega)))
      have hLm:=againN_len hok hge hin (k:=m) (fun j hj=> HKc.out j (by omega))
      obtain ⟨r0,hr0⟩: ∃r0,r0= (againN (actsOf webl) (envOf sl) name m).1:= ⟨_,rfl⟩
      obtain ⟨r1,hr1⟩: ∃r1,r1= (againN (actsOf webl) (envOf sl) name (m+1)).1:= ⟨_,rfl⟩
      obtain ⟨L0,hL0⟩: ∃L0,L0= (againN (actsOf webl) (envOf sl) name m).2:= ⟨_,rfl⟩
      have HN0:Hid (r0.name=name):=by show _=_;rw [hr0];exact againN_name m
      have HA0:Hid (actsOf webl r0.name=some ⟨y.cost,y.steps⟩):=by show _=_;rw [HN0.out];exact HAct.out
      have HNx:Hid (r1= (nextOf (actsOf webl) (envOf sl) r0).1):=by show _=_;rw [hr1,hr0];rfl
      have HLn:Hid ((againN (actsOf webl) (envOf sl) name (m+1)).2=L0++ (nextOf (actsOf webl) (envOf sl) r0).2):=by show _=_;rw [hL0,hr0];rfl
      rw [←hr0] at HCm HGm HVm⊢
      rw [←hr1] at HOm HGm1
      rw [←hL0] at hLm HO⊢
      have HR1:=hide hr1
      clear hr0 hr1 hL0
      have HAsk:Hid ((nextOf (actsOf webl) (envOf sl) r0).2= (stepOf ⟨y.cost,y.steps⟩ r1.at').asks):=by show _=_;rw [HNx.out];exact next_asksX HA0.out HCm.out (by rw [←HNx.out];exact HOm.out)
      obtain ⟨hb0,hb1⟩:0≤r1.at'∧r1.at' < y.steps.length:=by
       obtain ⟨A2,hA2,h1,h2⟩:=HGm1.out.act
       rw [HNx.out,nextOf_name,HA0.out] at hA2
       cases hA2
       rw [HNx.out] at h1 h2⊢
       exact ⟨h1,h2⟩
      obtain ⟨hz0,hz1⟩:0≤r0.at'∧r0.at' < y.steps.length:=by
       obtain ⟨A2,hA2,h1,h2⟩:=HGm.out.act
       rw [HA0.out] at hA2
       cases hA2
       exact ⟨h1,h2⟩
      have HAt:=hide (next_at HA0.out HCm.out (by rw [←HNx.out];exact HOm.out))
      go_upto_if 59 with fail
      go_cut [12,14,15] from 59 to 76 (fun s12 _ _ wx=> s12= .int .i64 r1.at'∧Kept wr wx)
      case first=>
       by_cases hm0:m=0
       ·have hg1: ¬((1:Int) < (m:Int)+1):=by omega
        have HE:Hid (r0.at'=r1.at'):=by
         show r0.at'=r1.at'
         rcases HAt.out with ⟨_,h⟩ | ⟨h,_⟩
         ·rw [HNx.out,h]
         ·exact absurd (by rw [HVm.out,hm0];rfl) h
        clear hm0
        go_wp2_with fail
        rw [HE.out]
        go_meet
        exact ⟨rfl,Kept.refl _⟩
       ·have hg1: (1:Int) < (m:Int)+1:=by omega
        obtain ⟨xs,hxs,hat⟩: ∃xs,answersOf (actsOf webl) (envOf sl) (stepOf ⟨y.cost,y.steps⟩ r0.at').asks=some xs∧r1.at'= (goOnF (stepOf ⟨y.cost,y.steps⟩ r0.at') xs).at':=by
         rcases HAt.out with ⟨h,_⟩ | ⟨_,xs,h1,h2⟩
         ·rw [HVm.out] at h;omega
         ·exact ⟨xs,h1,by rw [HNx.out];exact h2⟩
        obtain ⟨ix,hix⟩: ∃ix:Nat,r0.at'= (ix:Int):= ⟨r0.at'.toNat,by omega⟩
        have hixl:ix < y.steps.length:=by omega
        have hii: (ix:Int) < (y.steps.length:Int):=by omega
        obtain ⟨tb,tq,cs2,rfl,htb,hcs2,aa,ca,ac,cc,rfl,hAs,hCs,_⟩:= (Steps.kept HStw.out (HKB.out.trans (K7.out.trans Kr))) ix hixl
        obtain ⟨s,hs⟩: ∃s,s=y.steps.getD ix StepD.zero:= ⟨_,rfl⟩
        rw [←hs] at hcs2 hAs hCs
        have t0:=hcs2 0 _ rfl
        have t1:=hcs2 1 _ rfl
        have t2:=hcs2 2 _ rfl
        have t3:=hcs2 3 _ rfl
        have t4:=hcs2 4 _ rfl
        have t5:=hcs2 5 _ rfl
        have t6:=hcs2 6 _ rfl
        have t7:=hcs2 7 _ rfl
        rw [Nat.add_zero] at t0
        have hsm:s∈y.steps:=by rw [hs];simp [List.getD,hixl]
        have hal:= (hsz y hym s hsm).1
        have has:= (hsz y hym s hsm).2
        have hfy:=hft y hym
        have HStep:Hid (stepOf ⟨y.cost,y.steps⟩ r0.at'=s):=by show _=_;unfold stepOf;rw [hix,hs];rfl
        rw [HStep.out] at hxs hat
        have HXs:=hide hxs
        have HAte:=hide hat
        have HAs:=hide hAs
        have HIx:=hide hix
        rw [hix]
        have HS14:Hid (∀w',Kept wr w'→w'.cell? ⟨w.heap.size,0,none⟩=some (.slice (some ⟨nb,nq,none⟩) webl.length cap)∧w'.cell? ⟨w.heap.size+1,0,none⟩=some (.slice ra rn rc)∧w'.cell? ⟨w.heap.size+1,1,none⟩=some (.slice (some ⟨rb,ro,none⟩) sl.length dc)∧w'.cell? ⟨ab,1,none⟩=some (.slice (some ⟨tb,tq,none⟩) y.steps.length nc)∧w'.cell? ⟨tb,tq+ix * 8,none⟩=some (.slice aa s.asks.length ca)∧w'.cell? ⟨tb,tq+ix * 8+1,none⟩=some (.int .i64 s.on)∧w'.cell? ⟨tb,tq+ix * 8+2,none⟩=some (.slice ac s.cases.length cc)∧w'.cell? ⟨tb,tq+ix * 8+3,none⟩=some (.int .i64 s.els)∧w'.cell? ⟨tb,tq+ix * 8+4,none⟩=some (.int .i64 s.fall)∧w'.cell? ⟨tb,tq+ix * 8+5,none⟩=some (.bool s.fin)∧w'.cell? ⟨tb,tq+ix * 8+6,none⟩=some (.bool s.bad)∧w'.cell? ⟨tb,tq+ix * 8+7,none⟩=some (.string s.give)):=fun w' K=> ⟨(HC7.out w' (Kr.trans K)).1,(HC7.out w' (Kr.trans K)).2.1,(HC7.out w' (Kr.trans K)).2.2.1,(HC7.out w' (Kr.trans K)).2.2.2.2.2.1,(K.cell htb).trans t0,(K.cell htb).trans t1,(K.cell htb).trans t2,(K.cell htb).trans t3,(K.cell htb).trans t4,(K.cell htb).trans t5,(K.cell htb).trans t6,(K.cell htb).trans t7⟩
        clear hcs2 hAs hCs hs hix hxs hat t0 t1 t2 t3 t4 t5 t6 t7 htb c0 c1 c2 c5 a0 a1
        go_upto_region 14 with fail
        refine UpTo.region (by kernel_rfl) (fun w'=> w'.cell? ⟨w.heap.size,0,none⟩=some (.slice (some ⟨nb,nq,none⟩) webl.length cap)∧w'.cell? ⟨w.heap.size+1,0,none⟩=some (.slice ra rn rc)∧w'.cell? ⟨w.heap.size+1,1,none⟩=some (.slice (some ⟨rb,ro,none⟩) sl.length dc)∧w'.cell? ⟨ab,1,none⟩=some (.slice (some ⟨tb,tq,none⟩) y.steps.length nc)∧w'.cell? ⟨tb,tq+ix * 8,none⟩=some (.slice aa s.asks.length ca)∧w'.cell? ⟨tb,tq+ix * 8+1,none⟩=some (.int .i64 s.on)∧w'.cell? ⟨tb,tq+ix * 8+2,none⟩=some (.slice ac s.cases.length cc)∧w'.cell? ⟨tb,tq+ix * 8+3,none⟩=some (.int .i64 s.els)∧w'.cell? ⟨tb,tq+ix * 8+4,none⟩=some (.int .i64 s.fall)∧w'.cell? ⟨tb,tq+ix * 8+5,none⟩=some (.bool s.fin)∧w'.cell? ⟨tb,tq+ix * 8+6,none⟩=some (.bool s.bad)∧w'.cell? ⟨tb,tq+ix * 8+7,none⟩=some (.string s.give)) 13 (HS14.out _ ((Kept.refl wr).drew)) (fun hHeld=> ?_)
        have KD:Kept wr wr.drew:= (Kept.refl wr).drew
        generalize hwd:wr.drew=wd at hHeld KD⊢
        clear hwd
        refine UpTo.tk 0 [2,8,9,10,11,12,13] hHeld ?_
        try simp only [Act.put,upA,upB,upC]
        refine UpTo.tk 1 [2,8,9,10,11,12,13] hHeld ?_
        try simp only [Act.put,upA,upB,upC]
        refine UpTo.tk 3 [4,6,7,8,9,10,11,12,13] hHeld ?_
        try simp only [Act.put,upA,upB,upC]
        refine UpTo.tk 4 [6,7,8,9,10,11,12,13] hHeld ?_
        try simp only [Act.put,upA,upB,upC]
        refine UpTo.tk 5 [6,7,8,9,10,11,12,13] hHeld ?_
        try simp only [Act.put,upA,upB,upC]
        refine UpTo.tk 6 [7,8,9,10,11,12,13] hHeld ?_
        try simp only [Act.put,upA,upB,upC]
        refine UpTo.tk 7 [8,9,10,11,12,13] hHeld ?_
        try simp only [Act.put,upA,upB,upC]
        refine UpTo.nx 2 (fun K hK=> ?_)
        rw [if_pos (by rfl)]
        go_simp
        go_at_call 67
        refine (l4Known_any wd (some ⟨nb,nq,none⟩) webl.length cap ra rn rc (some ⟨rb,ro,none⟩) sl.length dc).mono ?_
        rintro e w1 ⟨kb,rfl,hK1,k1⟩
        have K1:=KD.trans k1
        have HK1:=hide hK1
        clear hK1 k1
        dsimp only
        refine hK.out _ _ (fun _=> HS14.out _ K1) ?_
        clear hK K
        try simp only [Act.put,upA,upB,upC]
        clear hHeld
        refine UpTo.nx 8 (fun K hK=> ?_)
        rw [if_pos (by rfl)]
        go_simp
        go_at_call 99
        refine (answers_any w1 kb (some ⟨nb,nq,none⟩) cap webl (some ⟨rb,ro,none⟩) dc sl s aa ac ca cc hwl hsl hal has HK1.out (HNw.out.kept (HKB.out.trans (K7.out.trans (Kr.trans K1)))) (HSw.out.kept (HKB.out.trans (K7.out.trans (Kr.trans K1)))) (HAs.out.kept K1)).mono ?_
        rintro e w3 ⟨⟨d3,n3,c3,ok,rfl,hyes,hno⟩,k3⟩
        have K3:=K1.trans k3
        clear k3
        obtain rfl:ok=true:=by cases ok with | true=> rfl | false=> rw [hno rfl] at HXs;cases HXs.out
        obtain ⟨xs2,hx2,rfl,hAn⟩:=hyes rfl
        obtain rfl:xs=xs2:=Option.some.inj (HXs.out.symm.trans hx2)
        have HAn:=hide hAn
        clear hyes hno hx2 hAn
        dsimp only
        refine hK.out _ _ (fun _=> HS14.out _ K3) ?_
        clear hK K
        try simp only [Act.put,upA,upB,upC]
        refine UpTo.nx 9 (fun K hK=> ?_)
        go_simp
        refine hK.out _ _ (fun _=> HS14.out _ K3) ?_
        clear hK K
        try simp only [Act.put,upA,upB,upC]
        have hHeld:=HS14.out _ K3
        refine UpTo.tk 10 [12,13] hHeld ?_
        try simp only [Act.put,upA,upB,upC]
        refine UpTo.tk 11 [13] hHeld ?_
        try simp only [Act.put,upA,upB,upC]
        refine UpTo.nx 12 (fun K hK=> ?_)
        go_simp
        refine hK.out _ _ (fun _=> HS14.out _ K3) ?_
        clear hK K
        try simp only [Act.put,upA,upB,upC]
        refine UpTo.nx 13 (fun K hK=> ?_)
        go_simp
        refine hK.out _ _ (fun h=> absurd rfl h) ?_
        clear hK K
        try simp only [Act.put,upA,upB,upC]
        refine UpTo.done (by kernel_rfl) ?_
        have hAok:= (hok _ _ HA0.out).1
        obtain ⟨hal5,han⟩:=asks_ok hAok hz0 hz1
        rw [HStep.out] at hal5 han
        have han2: ∀n∈s.asks,n.size≤20:=fun n hn=> (han n hn).2.1
        obtain ⟨hAns,hxt⟩:=answers_ok hge han2 HXs.out
        have hxl5:xs.length≤5:=by rw [hAns.1];exact hal5
        have hvm:r0.visits≠0:=by rw [HVm.out];omega
        have HW:Hid (WentOn y.cost y.steps r0.at' xs (goOnF s xs)):= .inr ⟨⟨hAok,⟨hz0,hz1⟩,HGm.out.stp _ HA0.out HCm.out.1 hvm⟩,by have e:stepAt y.steps r0.at'=s:=HStep.out;rw [e];exact goOnF_followed hAns⟩
        have hxl2:xs.length≤maxLen:=by unfold maxLen;omega
        have hxs2: ∀c∈xs,c.text.size≤maxLen:=fun c hc=> by have:=hxt c hc;unfold maxLen;omega
        obtain ⟨c0,c1,c2,c5,a0,a1,rz9b,azb⟩:=HC7.out _ (Kr.trans K3)
        clear hAok han han2 hAns hxt hvm hHeld HS14 KD K1 HK1
        go_wp2_with fail
        refine (specGoOn_any _ y.cost (ix:Int) (some ⟨tb,tq,none⟩) d3 nc c3 y.steps xs hfy.steps hfy.each (Steps.kept HStw.out (HKB.out.trans (K7.out.trans (Kr.trans K3)))) hxl2 hxs2 HAn.out).mono ?_
        rintro e w5 ⟨⟨G,rfl,hG⟩,k5⟩
        have hGe:G=goOnF s xs:=hG.unique (by have h:=HW.out;rw [HIx.out] at h;exact h)
        obtain ⟨gc,go,gt,gx⟩:=G
        have hcells: (GoneD.mk gc go gt gx).cells.toArray= #[.int .i64 gc,.bool go,.int .i64 gt,.string gx]:=rfl
        rw [hcells]
        have HGt:Hid (gt=r1.at'):=by show _=_;rw [HAte.out,←hGe]
        clear hcells hG hGe c0 c1 c2 c5 a0 a1
        have hfld: (Instr.field 168 (.agg #[.int .i64 gc,.bool go,.int .i64 gt,.string gx]) 2).run Tryz.prog w5= .ok (.int .i64 gt) w5:=by kernel_rfl
        go_wp2_with fail
        rw [HGt.out]
        go_meet
        exact ⟨rfl,K3.trans k5⟩
      case rest=>
       obtain ⟨rfl,Kx⟩:=hcut
       obtain ⟨wx,rfl⟩: ∃wx,wx=wc:= ⟨_,rfl⟩
       have HO2:=hide (ownsRow_kept' HO.out Kx)
       clear c0 c1 c2 c5 a0 a1 rz9 az HO
       obtain ⟨c0,c1,c2,c5,a0,a1,rz9,az⟩:=HC7.out _ (Kr.trans Kx)
       obtain ⟨ix,hix⟩: ∃ix:Nat,r1.at'= (ix:Int):= ⟨r1.at'.toNat,by omega⟩
       have hixl:ix < y.steps.length:=by omega
       have hii: (ix:Int) < (y.steps.length:Int):=by omega
       obtain ⟨tb,tq,cs2,rfl,htb,hcs2,aa,ca,ac,cc,rfl,hAs,_,_⟩:= (Steps.kept HStw.out (HKB.out.trans (K7.out.trans (Kr.trans Kx)))) ix hixl
       obtain ⟨s,hs⟩: ∃s,s=y.steps.getD ix StepD.zero:= ⟨_,rfl⟩
       rw [←hs] at hcs2 hAs
       have t0:=hcs2 0 _ rfl
       rw [Nat.add_zero] at t0
       have hsm:s∈y.steps:=by rw [hs];simp [List.getD,hixl]
       have hal:= (hsz y hym s hsm).1
       have HStep:Hid (stepOf ⟨y.cost,y.steps⟩ r1.at'=s):=by show _=_;unfold stepOf;rw [hix,hs];rfl
       have HAs:=hide hAs
       have HIx:=hide hix
       have hz7:w7.heap.size≤wx.heap.size:= (Kr.trans Kx).size
       rw [hix]
       clear hcs2 hAs hs hix
       go_wp2_with (at_builtin;refine wpList_append_strs rfl (.tmp 77) (.tmp 83) 25 rfl w7.heap.size 9 ic _ 16 Tryz.underlying25 hc0 hc1 hc2 hc3 rfl (.slice qo L0.length qp) L0.length (L0.map Value.string) rfl HO2.out aa ca s.asks rfl HAs.out (by unfold maxLen;omega) (by omega) hz7 ?_;intro vA wA hoA hgA hvA;obtain ⟨qa2,qc2,rfl⟩:=own_slice hoA;have HOA:=hide hoA;have KA:Kept w7 wA:=kept_of_grown (Kr.trans Kx) (Nat.le_refl _) HO2.out hgA;clear hoA hgA hvA)
       have HLe:Hid ((againN (actsOf webl) (envOf sl) name (m+1)).2=L0++s.asks):=by show _=_;rw [HLn.out,HAsk.out,HStep.out]
       go_roundw
       case rel=> exact ⟨m+1,qa2,qc2,by omega,by go_num,by rw [←HR1.out,HIx.out],by rw [HLe.out,List.length_append],hide (by rw [HLe.out,List.length_append,List.map_append];exact HOA.out),KA⟩
       case measure=> simp [intOf];omega
  ·rw [hov] at q1
   have hvn: (r.visits == 0)=false:=by have:=HT.out.over_visits (by rw [HRn.out];exact hin) hov;simpa using this
   have HLe:=hide (HLx.out hov)
   go_wp2_with fail
   go_ret
   exact ⟨⟨qa,qc,by rw [HLe.out];rfl,by rw [←HLe.out];exact HQ4.out⟩,HKB.out.trans K4.out⟩
theorem owns_low {w:World} {base base':Nat} {e:TypeId} {size n:Nat} {v:Value} {xs:List Value} (h:w.ownsRow base e size v n xs) (hb:base'≤base):w.ownsRow base' e size v n xs:=by
 refine ⟨h.1, ?_⟩
 rcases h.2 with h2 | ⟨g,cap,cur,h3,h4,h5⟩
 ·exact .inl h2
 ·exact .inr ⟨g,cap,cur,h3,Nat.le_trans hb h4,h5⟩
def StaysOwn (w w':World) (v v':Value) (l r:List ByteArray):Prop:= ∀B,B≤w.heap.size→w.ownsRow B 9 1 v l.length (l.map Value.string)→w'.ownsRow B 9 1 v' r.length (r.map Value.string)
set_option maxRecDepth 100000 in
set_option maxHeartbeats 3200000 in
theorem l6Put_own (w:World) (b o cap:Nat) (l:List ByteArray) (x:ByteArray) (hl:l.length≤100000) (hcl:l.length≤cap) (ha:AscB l) (hS:Strs w (some ⟨b,o,none⟩) l):
  Calls Tryz.prog 52 #[.slice (some ⟨b,o,none⟩) l.length cap,.string x] w fun e w'=> ∃b' o' c' r,e= .returned (.slice (some ⟨b',o',none⟩) r.length c')∧r.length≤c'∧PutB l x r∧Strs w' (some ⟨b',o',none⟩) r∧StaysOwn w w' (.slice (some ⟨b,o,none⟩) l.length cap) (.slice (some ⟨b',o',none⟩) r.length c') l r∧Kept w w':=by
 have HA:=hide ha
 clear ha
 go_enter Tryz.func52,Tryz.ntmps52
 go_wp2
 go_loop [5] (fun i=> ∃k:Nat,k≤l.length∧i= .int .i64 k∧Hid (∀y∈l.take k,lessX y x)) (fun i=> l.length - (intOf i).toNat)
 case atStart=> exact ⟨0,Nat.zero_le _,rfl,hide fun y hy=> by cases hy⟩
 case round=>
  obtain ⟨k,hk,rfl,HLs⟩:=hrel
  by_cases hlt:k < l.length
  ·obtain ⟨b1,o1,e1,hb,hc⟩:=hS k hlt
   cases e1
   obtain ⟨y,hy⟩: ∃y,y=l.getD k ByteArray.empty:= ⟨_,rfl⟩
   rw [←hy] at hc
   have hyg:l[k]=y:=by rw [hy];simp [List.getD,hlt]
   have HY:=hide hyg
   clear hy hyg
   have hki: (k:Int) < (l.length:Int):=by omega
   cases hle: (Op.bytesLess y.toList x.toList)
   ·have HLe:=hide hle
    cases heq: (y.toList == x.toList)
    ·have HEq:=hide heq
     have HGr:Hid (∀z∈l.drop k,lessX x z):=fun z hz=> by
      have hxy:lessX x y:=by
       rcases lessX_total x y with g | g | g
       ·exact g
       ·exact absurd g.symm (beq_no HEq.out)
       ·unfold lessX at g;rw [HLe.out] at g;cases g
      rw [List.drop_eq_getElem_cons hlt,HY.out] at hz
      rcases List.mem_cons.1 hz with rfl | hz
      ·exact hxy
      ·obtain ⟨j,hj,rfl⟩:=List.getElem_of_mem hz
       rw [List.getElem_drop]
       have h2:=List.pairwise_iff_getElem.1 HA.out k (k+1+j) hlt (by simp at hj;omega) (by omega)
       rw [HY.out] at h2
       exact lessX_trans hxy h2
     have HNo:Hid (x∉l):=fun h=> by
      rw [←List.take_append_drop k l] at h
      rcases List.mem_append.1 h with h | h
      ·exact lessX_irrefl x (HLs.out x h)
      ·exact lessX_irrefl x (HGr.out x h)
     obtain ⟨l1,l2,hll,hk1⟩: ∃l1 l2,l=l1++l2∧k=l1.length:= ⟨l.take k,l.drop k,(List.take_append_drop k l).symm,by simp;omega⟩
     subst hk1
     have HPt:Hid (PutB l x (l1++x :: l2)):=by
      have e1:l.take l1.length=l1:=by rw [hll];simp
      have e2:l.drop l1.length=l2:=by rw [hll];simp
      refine .inr ⟨HNo.out,l1.length,hk,by rw [e1,e2],HLs.out,HGr.out⟩
     have hl2:l.length=l1.length+l2.length:=by rw [hll,List.length_append]
     have HS1:Hid (∀W,Kept w W→Strs W (some ⟨b,o,none⟩) l1):=fun W K i hi=> by
      obtain ⟨b',o',e',hb',hc'⟩:= (hS.kept K) i (by omega)
      refine ⟨b',o',e',hb', ?_⟩
      rw [hc',hll]
      simp [List.getD,List.getElem?_append_left hi]
     have HS2:Hid (∀W,Kept w W→Strs W (if cap=l1.length then (some ⟨b,o,none⟩:Option Addr) else some ⟨b,o+l1.length,none⟩) l2):=fun W K i hi=> by
      obtain ⟨b',o',e',hb',hc'⟩:= (hS.kept K) (l1.length+i) (by omega)
      cases e'
      rw [if_neg (by omega)]
      refine ⟨b,o+l1.length,rfl,hb', ?_⟩
      rw [Nat.add_assoc,hc',hll]
      simp [List.getD,List.getElem?_append_right]
     have hdl:l.length - l1.length=l2.length:=by omega
     have hc1:l1.length≤cap:=by omega
     have hc2:l1.length≤l.length:=by omega
     have hb1:l1.length≤100000:=by omega
     have hb2:l2.length≤100000:=by omega
     have HDl:=hide hdl
     obtain ⟨ic,hi0,hi1,hi2,hi3⟩:=xInfo_parts Tryz.xInfoStr
     have HOE:Hid ((w.alloc (.cells #[] 9)).ownsRow w.heap.size 9 1 (.slice (some ⟨w.heap.size,0,none⟩) 0 0) 0 (([]:List ByteArray).map Value.string)):=World.ownsRow_made w #[] 0 (Nat.le_refl _) (Nat.zero_le _) rfl
     have hzE:w.heap.size≤(w.alloc (.cells #[] 9)).heap.size:=by simp
     have HKE:Hid (Kept w (w.alloc (.cells #[] 9))):= (Kept.refl _).alloc _
     clear hll hl2 hdl
     go_upto_region 7 with (at_builtin;refine wpList_append_strs rfl (.tmp 34) (.tmp 37) 25 rfl w.heap.size 9 ic _ 16 Tryz.underlying25 hi0 hi1 hi2 hi3 rfl (.slice (some ⟨w.heap.size,0,none⟩) 0 0) 0 (([]:List ByteArray).map Value.string) rfl HOE.out (some ⟨b,o,none⟩) cap l1 rfl (HS1.out _ HKE.out) (by unfold maxLen;omega) (by omega) hzE ?_;intro v1 w1 ho1 hg1 hv1;rw [Nat.zero_add] at ho1;have HO1:=hide ho1;have KP1:=kept_of_grown HKE.out (Nat.le_refl _) HOE.out hg1;obtain ⟨av1,cv1,rfl⟩:=own_slice ho1;clear ho1 hg1 hv1)
     refine UpTo.region (by kernel_rfl) (fun _=> True) 8 trivial (fun hHeld=> ?_)
     have KD:Kept w1 w1.drew:= (Kept.refl w1).drew
     generalize hwd:w1.drew=wd at KD⊢
     clear hwd
     refine UpTo.tk 0 [3,7,8] hHeld ?_
     try simp only [Act.put,upA,upB,upC]
     refine UpTo.tk 1 [2,3,7,8] hHeld ?_
     try simp only [Act.put,upA,upB,upC]
     refine UpTo.tk 4 [6,7,8] hHeld ?_
     try simp only [Act.put,upA,upB,upC]
     refine UpTo.tk 5 [6,7,8] hHeld ?_
     try simp only [Act.put,upA,upB,upC]
     refine UpTo.tk 6 [7,8] hHeld ?_
     try simp only [Act.put,upA,upB,upC]
     generalize hgd: (if cap=l1.length then (some ⟨b,o,none⟩:Option Addr) else some ⟨b,o+l1.length,none⟩)=ad2 at HS2⊢
     clear hgd
     refine UpTo.nx 2 (fun K hK=> ?_)
     go_simp
     have K5:Kept wd (wd.alloc (.cells #[.string x] 9)):= (Kept.refl _).alloc _
     have HNs:Hid (Strs (wd.alloc (.cells #[.string x] 9)) (some ⟨wd.heap.size,0,none⟩) [x]):=fun q hq=> by
      obtain rfl:q=0:=by simpa using hq
      exact ⟨wd.heap.size,0,rfl,by simp,range_new wd #[.string x] 9 0 _ rfl⟩
     refine hK.out _ _ (fun _=> trivial) ?_
     clear hK K hHeld
     have K5b:=KD.trans K5
     have HO5:=hide (ownsRow_kept' HO1.out K5b)
     obtain ⟨eb,heb⟩: ∃eb,eb=wd.heap.size:= ⟨_,rfl⟩
     rw [←heb] at HNs⊢
     generalize hwe:wd.alloc (.cells #[.string x] 9)=w5 at HNs K5b HO5⊢
     clear hwe K5 heb
     have KP5:=KP1.trans K5b
     have hz5:=KP5.size
     try simp only [Act.put,upA,upB,upC]
     refine UpTo.nx 3 (fun K hK=> ?_)
     rw [if_pos (by rfl)]
     refine wp_append_strs (.tmp 39) (.tmp 41) 25 rfl w.heap.size 9 ic _ 16 Tryz.underlying25 hi0 hi1 hi2 hi3 rfl (.slice av1 l1.length cv1) l1.length (([]:List ByteArray).map Value.string++l1.map Value.string) rfl HO5.out (some ⟨eb,0,none⟩) 1 [x] rfl HNs.out (by unfold maxLen;simp;omega) (by simp;omega) hz5 ?_
     intro v6 w6 ho6 hg6 hv6
     have HO6:=hide ho6
     have KP6:=kept_of_grown KP5 (Nat.le_refl _) HO5.out hg6
     obtain ⟨av6,cv6,rfl⟩:=own_slice ho6
     have hz6:=KP6.size
     refine hK.out _ _ (fun _=> trivial) ?_
     clear hK K ho6 hg6 hv6
     try simp only [Act.put,upA,upB,upC]
     refine UpTo.nx 7 (fun K hK=> ?_)
     rw [if_pos (by rfl)]
     refine wp_append_strs (.tmp 42) (.tmp 45) 25 rfl w.heap.size 9 ic _ 16 Tryz.underlying25 hi0 hi1 hi2 hi3 rfl (.slice av6 (l1.length+ [x].length) cv6) (l1.length+ [x].length) ((([]:List ByteArray).map Value.string++l1.map Value.string)++ [x].map Value.string) rfl HO6.out ad2 (cap - l1.length) l2 (by rw [←HDl.out];rfl) (HS2.out _ KP6) (by unfold maxLen;simp;omega) (by simp;omega) hz6 ?_
     intro v7 w7 ho7 hg7 hv7
     have HO7:=hide ho7
     have KP7:=kept_of_grown KP6 (Nat.le_refl _) HO6.out hg7
     refine hK.out _ _ (fun _=> trivial) ?_
     clear hK K ho7 hg7 hv7
     try simp only [Act.put,upA,upB,upC]
     refine UpTo.nx 8 (fun K hK=> ?_)
     go_simp
     refine hK.out _ _ (fun h=> absurd rfl h) ?_
     clear hK K
     try simp only [Act.put,upA,upB,upC]
     refine UpTo.done (by kernel_rfl) ?_
     go_wp2
     go_ret
     have hlen: (l1++x :: l2).length=l1.length+ [x].length+l2.length:=by simp;omega
     have ho:w7.ownsRow w.heap.size 9 1 v7 (l1++x :: l2).length ((l1++x :: l2).map Value.string):=by
      have h:=HO7.out
      rw [hlen]
      have e: (l1++x :: l2).map Value.string= ((([]:List ByteArray).map Value.string++l1.map Value.string)++ [x].map Value.string)++l2.map Value.string:=by simp
      rw [e]
      exact h
     rcases ho.2 with ⟨_,h0⟩ | ⟨g,cap7,cur7,e7,_,_,hn7,_,_,_⟩
     ·simp at h0
     ·obtain ⟨a9,c9,e9,h9⟩:=owned_strs ho
      rw [e7] at e9
      simp only [Value.slice.injEq,true_and] at e9
      rw [←e9.1] at h9
      exact ⟨g,0,cap7,_,by rw [e7];rfl,hn7,HPt.out,h9,fun B hB _=> by rw [←e7];exact owns_low ho hB,KP7⟩
    ·have HEq:=hide (beq_yes heq)
     go_wp2
     go_ret
     exact ⟨b,o,cap,l,rfl,hcl,.inl ⟨by rw [←HEq.out,←HY.out];exact List.getElem_mem hlt,rfl⟩,hS,fun _ _ h=> h,Kept.refl _⟩
   ·have HLe:=hide hle
    go_wp2
    go_round
    case rel=>
     refine ⟨k+1,by omega,by go_num,hide fun z hz=> ?_⟩
     rw [List.take_succ_eq_append_getElem hlt] at hz
     rcases List.mem_append.1 hz with hz | hz
     ·exact HLs.out z hz
     ·rw [List.mem_singleton,HY.out] at hz
      rw [hz];exact HLe.out
    case measure=> simp [intOf];omega
  ·have hke:k=l.length:=by omega
   have HGr:Hid (∀z∈l.drop k,lessX x z):=fun z hz=> by rw [hke,List.drop_length] at hz;cases hz
   have HNo:Hid (x∉l):=fun h=> by
    rw [←List.take_append_drop k l] at h
    rcases List.mem_append.1 h with h | h
    ·exact lessX_irrefl x (HLs.out x h)
    ·exact lessX_irrefl x (HGr.out x h)
   obtain ⟨l1,l2,hll,hk1⟩: ∃l1 l2,l=l1++l2∧k=l1.length:= ⟨l.take k,l.drop k,(List.take_append_drop k l).symm,by simp;omega⟩
   subst hk1
   have HPt:Hid (PutB l x (l1++x :: l2)):=by
    have e1:l.take l1.length=l1:=by rw [hll];simp
    have e2:l.drop l1.length=l2:=by rw [hll];simp
    refine .inr ⟨HNo.out,l1.length,hk,by rw [e1,e2],HLs.out,HGr.out⟩
   have hl2:l.length=l1.length+l2.length:=by rw [hll,List.length_append]
   have HS1:Hid (∀W,Kept w W→Strs W (some ⟨b,o,none⟩) l1):=fun W K i hi=> by
    obtain ⟨b',o',e',hb',hc'⟩:= (hS.kept K) i (by omega)
    refine ⟨b',o',e',hb', ?_⟩
    rw [hc',hll]
    simp [List.getD,List.getElem?_append_left hi]
   have HS2:Hid (∀W,Kept w W→Strs W (if cap=l1.length then (some ⟨b,o,none⟩:Option Addr) else some ⟨b,o+l1.length,none⟩) l2):=fun W K i hi=> by
    obtain ⟨b',o',e',hb',hc'⟩:= (hS.kept K) (l1.length+i) (by omega)
    cases e'
    rw [if_neg (by omega)]
    refine ⟨b,o+l1.length,rfl,hb', ?_⟩
    rw [Nat.add_assoc,hc',hll]
    simp [List.getD,List.getElem?_append_right]
   have hdl:l.length - l1.length=l2.length:=by omega
   have hc1:l1.length≤cap:=by omega
   have hc2:l1.length≤l.length:=by omega
   have hb1:l1.length≤100000:=by omega
   have hb2:l2.length≤100000:=by omega
   have HDl:=hide hdl
   obtain ⟨ic,hi0,hi1,hi2,hi3⟩:=xInfo_parts Tryz.xInfoStr
   have HOE:Hid ((w.alloc (.cells #[] 9)).ownsRow w.heap.size 9 1 (.slice (some ⟨w.heap.size,0,none⟩) 0 0) 0 (([]:List ByteArray).map Value.string)):=World.ownsRow_made w #[] 0 (Nat.le_refl _) (Nat.zero_le _) rfl
   have hzE:w.heap.size≤(w.alloc (.cells #[] 9)).heap.size:=by simp
   have HKE:Hid (Kept w (w.alloc (.cells #[] 9))):= (Kept.refl _).alloc _
   clear hll hl2 hdl hke
   go_upto_region 7 with (at_builtin;refine wpList_append_strs rfl (.tmp 34) (.tmp 37) 25 rfl w.heap.size 9 ic _ 16 Tryz.underlying25 hi0 hi1 hi2 hi3 rfl (.slice (some ⟨w.heap.size,0,none⟩) 0 0) 0 (([]:List ByteArray).map Value.string) rfl HOE.out (some ⟨b,o,none⟩) cap l1 rfl (HS1.out _ HKE.out) (by unfold maxLen;omega) (by omega) hzE ?_;intro v1 w1 ho1 hg1 hv1;rw [Nat.zero_add] at ho1;have HO1:=hide ho1;have KP1:=kept_of_grown HKE.out (Nat.le_refl _) HOE.out hg1;obtain ⟨av1,cv1,rfl⟩:=own_slice ho1;clear ho1 hg1 hv1)
   refine UpTo.region (by kernel_rfl) (fun _=> True) 8 trivial (fun hHeld=> ?_)
   have KD:Kept w1 w1.drew:= (Kept.refl w1).drew
   generalize hwd:w1.drew=wd at KD⊢
   clear hwd
   refine UpTo.tk 0 [3,7,8] hHeld ?_
   try simp only [Act.put,upA,upB,upC]
   refine UpTo.tk 1 [2,3,7,8] hHeld ?_
   try simp only [Act.put,upA,upB,upC]
   refine UpTo.tk 4 [6,7,8] hHeld ?_
   try simp only [Act.put,upA,upB,upC]
   refine UpTo.tk 5 [6,7,8] hHeld ?_
   try simp only [Act.put,upA,upB,upC]
   refine UpTo.tk 6 [7,8] hHeld ?_
   try simp only [Act.put,upA,upB,upC]
   generalize hgd: (if cap=l1.length then (some ⟨b,o,none⟩:Option Addr) else some ⟨b,o+l1.length,none⟩)=ad2 at HS2⊢
   clear hgd
   refine UpTo.nx 2 (fun K hK=> ?_)
   go_simp
   have K5:Kept wd (wd.alloc (.cells #[.string x] 9)):= (Kept.refl _).alloc _
   have HNs:Hid (Strs (wd.alloc (.cells #[.string x] 9)) (some ⟨wd.heap.size,0,none⟩) [x]):=fun q hq=> by
    obtain rfl:q=0:=by simpa using hq
    exact ⟨wd.heap.size,0,rfl,by simp,range_new wd #[.string x] 9 0 _ rfl⟩
   refine hK.out _ _ (fun _=> trivial) ?_
   clear hK K hHeld
   have K5b:=KD.trans K5
   have HO5:=hide (ownsRow_kept' HO1.out K5b)
   obtain ⟨eb,heb⟩: ∃eb,eb=wd.heap.size:= ⟨_,rfl⟩
   rw [←heb] at HNs⊢
   generalize hwe:wd.alloc (.cells #[.string x] 9)=w5 at HNs K5b HO5⊢
   clear hwe K5 heb
   have KP5:=KP1.trans K5b
   have hz5:=KP5.size
   try simp only [Act.put,upA,upB,upC]
   refine UpTo.nx 3 (fun K hK=> ?_)
   rw [if_pos (by rfl)]
   refine wp_append_strs (.tmp 39) (.tmp 41) 25 rfl w.heap.size 9 ic _ 16 Tryz.underlying25 hi0 hi1 hi2 hi3 rfl (.slice av1 l1.length cv1) l1.length (([]:List ByteArray).map Value.string++l1.map Value.string) rfl HO5.out (some ⟨eb,0,none⟩) 1 [x] rfl HNs.out (by unfold maxLen;simp;omega) (by simp;omega) hz5 ?_
   intro v6 w6 ho6 hg6 hv6
   have HO6:=hide ho6
   have KP6:=kept_of_grown KP5 (Nat.le_refl _) HO5.out hg6
   obtain ⟨av6,cv6,rfl⟩:=own_slice ho6
   have hz6:=KP6.size
   refine hK.out _ _ (fun _=> trivial) ?_
   clear hK K ho6 hg6 hv6
   try simp only [Act.put,upA,upB,upC]
   refine UpTo.nx 7 (fun K hK=> ?_)
   rw [if_pos (by rfl)]
   refine wp_append_strs (.tmp 42) (.tmp 45) 25 rfl w.heap.size 9 ic _ 16 Tryz.underlying25 hi0 hi1 hi2 hi3 rfl (.slice av6 (l1.length+ [x].length) cv6) (l1.length+ [x].length) ((([]:List ByteArray).map Value.string++l1.map Value.string)++ [x].map Value.string) rfl HO6.out ad2 (cap - l1.length) l2 (by rw [←HDl.out];rfl) (HS2.out _ KP6) (by unfold maxLen;simp;omega) (by simp;omega) hz6 ?_
   intro v7 w7 ho7 hg7 hv7
   have HO7:=hide ho7
   have KP7:=kept_of_grown KP6 (Nat.le_refl _) HO6.out hg7
   refine hK.out _ _ (fun _=> trivial) ?_
   clear hK K ho7 hg7 hv7
   try simp only [Act.put,upA,upB,upC]
   refine UpTo.nx 8 (fun K hK=> ?_)
   go_simp
   refine hK.out _ _ (fun h=> absurd rfl h) ?_
   clear hK K
   try simp only [Act.put,upA,upB,upC]
   refine UpTo.done (by kernel_rfl) ?_
   go_wp2
   go_ret
   have hlen: (l1++x :: l2).length=l1.length+ [x].length+l2.length:=by simp;omega
   have ho:w7.ownsRow w.heap.size 9 1 v7 (l1++x :: l2).length ((l1++x :: l2).map Value.string):=by
    have h:=HO7.out
    rw [hlen]
    have e: (l1++x :: l2).map Value.string= ((([]:List ByteArray).map Value.string++l1.map Value.string)++ [x].map Value.string)++l2.map Value.string:=by simp
    rw [e]
    exact h
   rcases ho.2 with ⟨_,h0⟩ | ⟨g,cap7,cur7,e7,_,_,hn7,_,_,_⟩
   ·simp at h0
   ·obtain ⟨a9,c9,e9,h9⟩:=owned_strs ho
    rw [e7] at e9
    simp only [Value.slice.injEq,true_and] at e9
    rw [←e9.1] at h9
    exact ⟨g,0,cap7,_,by rw [e7];rfl,hn7,HPt.out,h9,fun B hB _=> by rw [←e7];exact owns_low ho hB,KP7⟩
theorem l6Put_any (w:World) (b o cap:Nat) (l:List ByteArray) (x:ByteArray) (hl:l.length≤100000) (hcl:l.length≤cap) (ha:AscB l) (hS:Strs w (some ⟨b,o,none⟩) l):
  Calls Tryz.prog 52 #[.slice (some ⟨b,o,none⟩) l.length cap,.string x] w fun e w'=> ∃b' o' c' r,e= .returned (.slice (some ⟨b',o',none⟩) r.length c')∧r.length≤c'∧PutB l x r∧Strs w' (some ⟨b',o',none⟩) r∧Kept w w':=
 (l6Put_own w b o cap l x hl hcl ha hS).mono fun _e _w' ⟨b',o',c',r,h1,h2,h3,h4,_,h5⟩=> ⟨b',o',c',r,h1,h2,h3,h4,h5⟩
def UsesEndS (webl:List NodeD) (roots:List ByteArray) (sl:List RunX) (name:ByteArray) (w':World) (e:Ending):Prop:=
 ∃(da:Option Addr) (c:Nat) (ns:List ByteArray),e= .returned (.slice da ns.length c)∧Strs w' da ns∧UsesAns webl roots sl name ns
theorem asks_from {webl:List NodeD} {sl:List RunX} (x y:ByteArray) (h:AsksX (actsOf webl) (envOf sl) x y):x∈sl.map (·.name):=by
 obtain ⟨r,_,hr,_⟩:=h
 have h2:=env_mem hr
 rw [←h2.2]
 exact List.mem_map.2 ⟨r,h2.1,rfl⟩
def UseO (webl:List NodeD) (sl:List RunX) (name:ByteArray) (out:List ByteArray) (bg:Bool):Prop:=UseI (AsksX (actsOf webl) (envOf sl)) (sl.map (·.name)) name out.length [] out false∧(bg=false→UsesL (AsksX (actsOf webl) (envOf sl)) (sl.map (·.name)) name out)
set_option maxRecDepth 100000 in
set_option maxHeartbeats 12800000 in
theorem specUses_any (w:World) (a:Option Addr) (cap:Nat) (webl:List NodeD) (ra:Option Addr) (rc:Nat) (roots:List ByteArray) (d:Option Addr) (dc:Nat) (sl:List RunX) (name:ByteArray) (hwl:webl.length≤1048576) (hft: ∀y∈webl,y.Fits) (hrl:roots.length≤1048576) (hrs: ∀s∈roots,s.size≤maxLen) (hsl:sl.length≤1048576) (hst: ∀x∈sl,x.texts.length≤1048576)
  (hN:Nodes w a webl) (hS:RunsX w d sl) (hR:Strs w ra roots):
  Calls Tryz.prog 27 #[.agg #[.slice a webl.length cap],.agg #[.slice ra roots.length rc,.slice d sl.length dc],.string name] w fun e w'=> UsesEndS webl roots sl name w' e∧Kept w w':=by
 obtain ⟨WB,hWB⟩: ∃WB,WB= (w.alloc (.cells #[.slice a webl.length cap] 37)).alloc (.cells #[.slice ra roots.length rc,.slice d sl.length dc] 41):= ⟨_,rfl⟩
 have kB:Kept w WB:=by rw [hWB];exact ((Kept.refl _).alloc _).alloc _
 have hBs:WB.heap.size=w.heap.size+2:=by rw [hWB];simp
 have b0:WB.cell? ⟨w.heap.size,0,none⟩=some (.slice a webl.length cap):=by rw [hWB,Kept.cell (w:=w.alloc (.cells #[.slice a webl.length cap] 37)) ((Kept.refl _).alloc _) (by simp)];exact range_new w _ _ 0 _ rfl
 have s0:WB.cell? ⟨w.heap.size+1,0,none⟩=some (.slice ra roots.length rc):=by have:=range_new (w.alloc (.cells #[.slice a webl.length cap] 37)) #[.slice ra roots.length rc,.slice d sl.length dc] 41 0 _ rfl;rw [World.size_alloc] at this;rw [hWB];exact this
 have s1:WB.cell? ⟨w.heap.size+1,1,none⟩=some (.slice d sl.length dc):=by have:=range_new (w.alloc (.cells #[.slice a webl.length cap] 37)) #[.slice ra roots.length rc,.slice d sl.length dc] 41 1 _ rfl;rw [World.size_alloc] at this;rw [hWB];exact this
 have z0:w.heap.size < WB.heap.size:=by omega
 have z1:w.heap.size+1 < WB.heap.size:=by omega
 have HC:Hid (∀w',Kept WB w'→w'.cell? ⟨w.heap.size,0,none⟩=some (.slice a webl.length cap)∧w'.cell? ⟨w.heap.size+1,0,none⟩=some (.slice ra roots.length rc)∧w'.cell? ⟨w.heap.size+1,1,none⟩=some (.slice d sl.length dc)∧w.heap.size < w'.heap.size∧w.heap.size+1 < w'.heap.size):=fun w' K=> ⟨(K.cell z0).trans b0,(K.cell z1).trans s0,(K.cell z1).trans s1,Nat.lt_of_lt_of_le z0 K.size,Nat.lt_of_lt_of_le z1 K.size⟩
 have HKB:=hide kB
 have HE1:Hid (Strs (WB.alloc (.cells #[] 9)) (some ⟨WB.heap.size,0,none⟩) []):=fun i hi=> by cases hi
 have kE:Kept WB (WB.alloc (.cells #[] 9)):= (Kept.refl _).alloc _
 clear kB hBs b0 s0 s1
 go_enter Tryz.func27,Tryz.ntmps27
 go_upto_region 1 with fail
 rw [←hWB]
 clear hWB
 go_upto_region 2 with fail
 obtain ⟨WE,hWE⟩: ∃WE,WE=WB.alloc (.cells #[] 9):= ⟨_,rfl⟩
 rw [←hWE] at kE HE1⊢
 clear hWE
 obtain ⟨eb,heb⟩: ∃eb,eb=WB.heap.size:= ⟨_,rfl⟩
 rw [←heb] at HE1⊢
 clear heb
 obtain ⟨b0,s0,s1,_,_⟩:=HC.out _ kE
 go_wp2_with fail
 refine (validState_any _ a cap webl ra rc roots d dc sl hwl hft hrl hrs hsl hst (hN.kept (HKB.out.trans kE)) (hS.kept (HKB.out.trans kE)) (hR.kept (HKB.out.trans kE))).mono ?_
 rintro e w1 ⟨⟨bv,rfl,hv⟩,k1⟩
 have HV:=hide hv
 have K1:=kE.trans k1
 have HE2:=hide (HE1.out.kept k1)
 clear hv b0 s0 s1 z0 z1 kE HE1
 cases bv
 ·go_wp2_with fail
  go_ret
  exact ⟨⟨some ⟨eb,0,none⟩,0,[],rfl,HE2.out,Nat.zero_le _,.inr ⟨fun h=> (by have:=HV.out.2 h;cases this),rfl⟩⟩,HKB.out.trans K1⟩
 have HVal:=hide (HV.out.1 rfl)
 have HGd:=hide HVal.out.good
 have HTr:=hide HVal.out.traj
 have hok:=web_acts HVal.out.1
 have hsz:=web_small HVal.out.1
 have hs60:sl.length≤60:=Nat.le_trans HGd.out.len (web_len HVal.out.1)
 clear HV
 go_wp2_with fail
 go_loopg [7,8] 121 (fun gg x7 x8 wr=> ∃(bg:Bool) (b o c:Nat) (out:List ByteArray),x8= .bool bg∧x7= .slice (some ⟨b,o,none⟩) out.length c∧gg=2 * (60 - out.length)+bg.toNat∧out.length≤c∧Hid (Strs wr (some ⟨b,o,none⟩) out)∧Hid (UseO webl sl name out bg)∧Kept w1 wr)
 case atStart=> exact ⟨true,eb,0,0,[],rfl,rfl,rfl,Nat.le_refl _,HE2,hide ⟨UseI.start _ _ _ List.Pairwise.nil (fun s hs=> by cases hs),fun h=> by cases h⟩,Kept.refl _⟩
 case round=>
  clear HE2
  obtain ⟨bg,b,o,c,out,rfl,rfl,hgg,hoc,HSo,HO,Kr⟩:=hrel
  have hol:out.length≤60:=by have h:=HO.out.1.len;rw [List.length_map] at h;omega
  cases bg
  ·have HLw:=hide (HO.out.2 rfl)
   go_wp2_with fail
   go_ret
   exact ⟨⟨_,c,out,rfl,HSo.out,hol,.inl ⟨HVal.out,HLw.out⟩⟩,HKB.out.trans (K1.trans Kr)⟩
  have HI0:=hide HO.out.1
  obtain ⟨l0,hl0⟩: ∃l0,l0=out.length:= ⟨_,rfl⟩
  rw [←hl0] at HI0
  have HL0:=hide hl0
  clear hl0 HO
  have hgl:gk=2 * (60 - l0)+1:=by rw [HL0.out];exact hgg
  obtain ⟨wo,rfl⟩: ∃wo,wo=wr:= ⟨_,rfl⟩
  have hl60:l0≤60:=by rw [HL0.out];exact hol
  clear hgg
  go_upto_region 8 with fail
  go_loopw [7,8,9] (fun x7 x8 x9 wr=> ∃(bg:Bool) (i b o c:Nat) (out:List ByteArray),i≤sl.length∧x9= .int .i64 (i:Int)∧x8= .bool bg∧x7= .slice (some ⟨b,o,none⟩) out.length c∧out.length≤c∧Hid (Strs wr (some ⟨b,o,none⟩) out)∧Hid (UseI (AsksX (actsOf webl) (envOf sl)) (sl.map (·.name)) name l0 ((sl.take i).map (·.name)) out bg)∧Kept w1 wr) (fun _ _ x9 _=> sl.length - (intOf x9).toNat)
  case atStart=> exact ⟨false,0,b,o,c,out,Nat.zero_le _,rfl,rfl,rfl,hoc,HSo,HI0,Kr⟩
  case round=>
   clear HSo HI0 HL0 Kr
   obtain ⟨bg,i,b,o,c,out,hi,rfl,rfl,rfl,hoc,HSo,HI,Kr⟩:=hrel
   obtain ⟨c0,c1,c2,y0,y1⟩:=HC.out _ (K1.trans Kr)
   have hol:out.length≤60:=by have h:=HI.out.len;rw [List.length_map] at h;omega
   by_cases hil:i < sl.length
   rotate_left
   ·have hni: ¬((i:Int) < (sl.length:Int)):=by omega
    have HIw:Hid (UseI (AsksX (actsOf webl) (envOf sl)) (sl.map (·.name)) name l0 (sl.map (·.name)) out bg):=by have h:=HI.out;rw [show i=sl.length by omega,List.take_length] at h;exact h
    have HO2:Hid (UseO webl sl name out bg):= ⟨UseI.start _ _ _ HIw.out.asc HIw.out.sub,fun hb=> by subst hb;exact HIw.out.whole asks_from⟩
    have hgr:bg=true→l0 < out.length:=HIw.out.gr
    have hle:=HIw.out.le
    clear hil
    go_wp2_with fail
    go_roundg (2 * (60 - out.length)+bg.toNat)
    case measure=>
     cases bg
     ·simp;omega
     ·have:=hgr rfl;simp;omega
    case rel=> exact ⟨bg,b,o,c,out,rfl,rfl,rfl,hoc,HSo,HO2,Kr⟩
   have hii: (i:Int) < (sl.length:Int):=by omega
   obtain ⟨rb,ro,xa,xc,e1,hrb,hrc,_,_⟩:= (hS.kept (HKB.out.trans (K1.trans Kr))) i hil
   subst e1
   obtain ⟨x,hx⟩: ∃x,x= (sl.getD i RunX.zero).name:= ⟨_,rfl⟩
   have t0:=hrc 0 _ rfl
   rw [Nat.add_zero] at t0
   have t0':wr.cell? ⟨rb,ro+i * 7,none⟩=some (.string x):=by rw [hx];exact t0
   clear t0 hrc
   have HTk:Hid ((sl.take (i+1)).map (·.name)= (sl.take i).map (·.name)++ [x]):=by
    show _=_
    rw [List.take_succ_eq_append_getElem hil,List.map_append,hx]
    simp [List.getD,hil]
   have hxr:envOf sl x=some sl[i]:=by
    have h:=asc_env HGd.out.asc (List.getElem_mem hil)
    rw [hx]
    simpa [List.getD,hil] using h
   have HXn:Hid (x∈(sl.map (·.name))):=by show _∈_;rw [hx];exact List.mem_map.2 ⟨sl[i],List.getElem_mem hil,by simp [List.getD,hil]⟩
   obtain ⟨asks,htr⟩:= (HTr.out x _ hxr).2
   have hrn:= (HTr.out x _ hxr).1
   have hin: (actsOf webl sl[i].name).isSome=true:=by obtain ⟨A,hA,_⟩:= (HGd.out.good _ (List.getElem_mem hil)).act;rw [hA];rfl
   have HE:Hid (∀y,y∈asks↔AsksX (actsOf webl) (envOf sl) x y):=asksX_iff hxr hin htr
   have HAl:Hid (asks.length≤1000):=by
    show asks.length≤1000
    obtain ⟨kk,h1,h2⟩:=htr
    have h3:=againN_len hok HGd.out.env hin h2
    have h4:=againN_units hok HGd.out.env hin h2
    rw [h1] at h3
    dsimp only at h3
    omega
   obtain ⟨rx,hrx⟩: ∃rx,rx=sl[i]:= ⟨_,rfl⟩
   rw [←hrx] at hxr htr
   have HXr:=hide hxr
   have HTj:=hide htr
   have HS10:Hid (∀u,Kept wr u→(u.cell? ⟨w.heap.size,0,none⟩=some (.slice a webl.length cap)∧u.cell? ⟨w.heap.size+1,0,none⟩=some (.slice ra roots.length rc)∧u.cell? ⟨w.heap.size+1,1,none⟩=some (.slice (some ⟨rb,ro,none⟩) sl.length dc)∧u.cell? ⟨rb,ro+i * 7,none⟩=some (.string x))):=fun u K=> ⟨(HC.out u (K1.trans (Kr.trans K))).1,(HC.out u (K1.trans (Kr.trans K))).2.1,(HC.out u (K1.trans (Kr.trans K))).2.2.1,(K.cell hrb).trans t0'⟩
   clear hx t0' hxr htr hrx hin hrn
   go_upto_region 10 with fail
   clear c0 c1 c2
   refine UpTo.region (by kernel_rfl) (fun u=> u.cell? ⟨w.heap.size,0,none⟩=some (.slice a webl.length cap)∧u.cell? ⟨w.heap.size+1,0,none⟩=some (.slice ra roots.length rc)∧u.cell? ⟨w.heap.size+1,1,none⟩=some (.slice (some ⟨rb,ro,none⟩) sl.length dc)∧u.cell? ⟨rb,ro+i * 7,none⟩=some (.string x)) 9 (HS10.out _ ((Kept.refl wr).drew)) (fun hHeld=> ?_)
   have KD:Kept wr wr.drew:= (Kept.refl wr).drew
   generalize hwd:wr.drew=wd at hHeld KD⊢
   clear hwd
   refine UpTo.tk 0 [8,9] hHeld ?_
   try simp only [Act.put,upA,upB,upC]
   refine UpTo.tk 1 [8,9] hHeld ?_
   try simp only [Act.put,upA,upB,upC]
   refine UpTo.tk 2 [3,5,6,7,8,9] hHeld ?_
   try simp only [Act.put,upA,upB,upC]
   refine UpTo.tk 3 [5,6,7,8,9] hHeld ?_
   try simp only [Act.put,upA,upB,upC]
   refine UpTo.tk 4 [5,6,7,8,9] hHeld ?_
   try simp only [Act.put,upA,upB,upC]
   refine UpTo.tk 5 [6,7,8,9] hHeld ?_
   try simp only [Act.put,upA,upB,upC]
   refine UpTo.tk 6 [7,8,9] hHeld ?_
   try simp only [Act.put,upA,upB,upC]
   refine UpTo.tk 7 [8,9] hHeld ?_
   try simp only [Act.put,upA,upB,upC]
   refine UpTo.nx 8 (fun K hK=> ?_)
   rw [if_pos (by rfl)]
   go_simp
   go_at_call 56
   refine (l6Asked_any wd a cap webl ra roots.length rc (some ⟨rb,ro,none⟩) dc sl x hwl (by omega) hsz hok hft HGd.out.env HGd.out.asc HXr.out HTj.out (hN.kept (HKB.out.trans (K1.trans (Kr.trans KD)))) (hS.kept (HKB.out.trans (K1.trans (Kr.trans KD))))).mono ?_
   rintro e w4 ⟨⟨qa,qc,rfl,hSa⟩,k4⟩
   have K4:=KD.trans k4
   have HSa:=hide hSa
   clear hSa
   dsimp only
   refine hK.out _ _ (fun _=> HS10.out _ K4) ?_
   clear hK K
   try simp only [Act.put,upA,upB,upC]
   refine UpTo.nx 9 (fun K hK=> ?_)
   go_simp
   refine hK.out _ _ (fun h=> absurd rfl h) ?_
   clear hK K
   try simp only [Act.put,upA,upB,upC]
   refine UpTo.done (by kernel_rfl) ?_
   have HI4:Hid (UseJ (AsksX (actsOf webl) (envOf sl)) (sl.map (·.name)) name l0 ((sl.take i).map (·.name)) x asks 0 out bg):=HI.out.enter x asks
   have hal:=HAl.out
   have HSo4:=hide (HSo.out.kept K4)
   clear hHeld HSo HI
   go_wp2_with fail
   go_loopw [7,8,11] (fun x7 x8 x11 wr=> ∃(bg:Bool) (k b o c:Nat) (out:List ByteArray),k≤asks.length∧x11= .int .i64 (k:Int)∧x8= .bool bg∧x7= .slice (some ⟨b,o,none⟩) out.length c∧out.length≤c∧Hid (Strs wr (some ⟨b,o,none⟩) out)∧Hid (UseJ (AsksX (actsOf webl) (envOf sl)) (sl.map (·.name)) name l0 ((sl.take i).map (·.name)) x asks k out bg)∧Kept w4 wr) (fun _ _ x11 _=> asks.length - (intOf x11).toNat)
   case atStart=> exact ⟨bg,0,b,o,c,out,Nat.zero_le _,rfl,rfl,rfl,hoc,HSo4,HI4,Kept.refl _⟩
   case round=>
    clear HSo4 HI4
    obtain ⟨bg,k,b,o,c,out,hk,rfl,rfl,rfl,hoc,HSo,HJ,Kk⟩:=hrel
    have hol:out.length≤60:=by have h:=HJ.out.i.len;rw [List.length_map] at h;omega
    by_cases hkl:k < asks.length
    rotate_left
    ·have hnk: ¬((k:Int) < (asks.length:Int)):=by omega
     have HIn:Hid (UseI (AsksX (actsOf webl) (envOf sl)) (sl.map (·.name)) name l0 ((sl.take (i+1)).map (·.name)) out bg):=by
      rw [HTk.out]
      exact HJ.out.leave (by omega) (fun y hy=> (HE.out y).2 hy)
     clear hkl
     go_wp2_with fail
     go_roundw
     case rel=> exact ⟨bg,i+1,b,o,c,out,by omega,by go_num,rfl,rfl,hoc,HSo,HIn,Kr.trans (K4.trans Kk)⟩
     case measure=> simp [intOf];omega
    obtain ⟨qb,qo,e1,hqb,hqc⟩:= (HSa.out.kept Kk) k hkl
    subst e1
    obtain ⟨y,hy⟩: ∃y,y=asks.getD k ByteArray.empty:= ⟨_,rfl⟩
    rw [←hy] at hqc
    have hyg:asks[k]=y:=by rw [hy];simp [List.getD,hkl]
    have HYg:=hide hyg
    have hkk: (k:Int) < (asks.length:Int):=by omega
    obtain ⟨c0,c1,c2,hxc⟩:=HS10.out _ (K4.trans Kk)
    obtain ⟨_,_,_,y0,y1⟩:=HC.out _ (K1.trans (Kr.trans (K4.trans Kk)))
    have hrbz:rb < wr.heap.size:=Nat.lt_of_lt_of_le hrb (K4.trans Kk).size
    clear hy hyg
    cases heq: (y.toList == name.toList)
    ·have HNe:Hid (y≠name):=fun e=> by rw [e] at heq;simp at heq
     go_wp2_with fail
     refine (l6Has_any wr (some ⟨b,o,none⟩) c out y (by omega) HSo.out).mono ?_
     rintro e w5 ⟨⟨b1,rfl,hb1⟩,hw5⟩
     rw [hw5]
     have HB1:=hide hb1
     clear hw5 hb1
     cases b1
     ·have HNo:Hid (UseJ (AsksX (actsOf webl) (envOf sl)) (sl.map (·.name)) name l0 ((sl.take i).map (·.name)) x asks (k+1) out bg):=HJ.out.skip hkl (by
       rw [HYg.out]
       rintro ⟨h | h,_⟩
       ·exact HNe.out h
       ·have h2:=HB1.out.2 h;cases h2)
      go_wp2_with fail
      go_roundw
      case rel=> exact ⟨bg,k+1,b,o,c,out,by omega,by go_num,rfl,rfl,hoc,HSo,HNo,Kk⟩
      case measure=> simp [intOf];omega
     ·have HYes:Hid (asks[k]=name∨asks[k]∈out):=by rw [HYg.out];exact .inr (HB1.out.1 rfl)
      clear HB1 HNe
      go_wp2_with fail
      refine (l6Has_any wr (some ⟨b,o,none⟩) c out x (by omega) HSo.out).mono ?_
      rintro e w6 ⟨⟨b2,rfl,hb2⟩,hw6⟩
      rw [hw6]
      have HB2:=hide hb2
      clear hw6 hb2
      cases b2
      ·have HNi:Hid (x∉out):=fun h=> by have h2:=HB2.out.2 h;cases h2
       clear HB2
       go_wp2_with fail
       refine (l6Put_any wr b o c out x (by omega) hoc HJ.out.i.asc HSo.out).mono ?_
       rintro e w7 ⟨b5,o5,c5,r5,rfl,hc5,hp5,hs5,k5⟩
       obtain ⟨ha5,hm5⟩:=hp5.asc HJ.out.i.asc
       have HS5:=hide hs5
       have HN5:Hid (UseJ (AsksX (actsOf webl) (envOf sl)) (sl.map (·.name)) name l0 ((sl.take i).map (·.name)) x asks (k+1) r5 true):=HJ.out.put hkl HXn.out (fun z hz=> (HE.out z).1 hz) HYes.out HNi.out ha5 hm5
       clear hs5 ha5 hm5 hp5 c0 c1 c2 hxc
       go_wp2_with fail
       go_roundw
       case rel=> exact ⟨true,k+1,b5,o5,c5,r5,by omega,by go_num,rfl,rfl,hc5,HS5,HN5,Kk.trans k5⟩
       case measure=> simp [intOf];omega
      ·have HNo:Hid (UseJ (AsksX (actsOf webl) (envOf sl)) (sl.map (·.name)) name l0 ((sl.take i).map (·.name)) x asks (k+1) out bg):=HJ.out.skip hkl (fun h=> h.2 (HB2.out.1 rfl))
       clear HB2
       go_wp2_with fail
       go_roundw
       case rel=> exact ⟨bg,k+1,b,o,c,out,by omega,by go_num,rfl,rfl,hoc,HSo,HNo,Kk⟩
       case measure=> simp [intOf];omega
    ·have HYes:Hid (asks[k]=name∨asks[k]∈out):=by rw [HYg.out];exact .inl (beq_yes heq)
     go_wp2_with fail
     refine (l6Has_any wr (some ⟨b,o,none⟩) c out x (by omega) HSo.out).mono ?_
     rintro e w6 ⟨⟨b2,rfl,hb2⟩,hw6⟩
     rw [hw6]
     have HB2:=hide hb2
     clear hw6 hb2
     cases b2
     ·have HNi:Hid (x∉out):=fun h=> by have h2:=HB2.out.2 h;cases h2
      clear HB2
      go_wp2_with fail
      refine (l6Put_any wr b o c out x (by omega) hoc HJ.out.i.asc HSo.out).mono ?_
      rintro e w7 ⟨b5,o5,c5,r5,rfl,hc5,hp5,hs5,k5⟩
      obtain ⟨ha5,hm5⟩:=hp5.asc HJ.out.i.asc
      have HS5:=hide hs5
      have HN5:Hid (UseJ (AsksX (actsOf webl) (envOf sl)) (sl.map (·.name)) name l0 ((sl.take i).map (·.name)) x asks (k+1) r5 true):=HJ.out.put hkl HXn.out (fun z hz=> (HE.out z).1 hz) HYes.out HNi.out ha5 hm5
      clear hs5 ha5 hm5 hp5 c0 c1 c2 hxc
      go_wp2_with fail
      go_roundw
      case rel=> exact ⟨true,k+1,b5,o5,c5,r5,by omega,by go_num,rfl,rfl,hc5,HS5,HN5,Kk.trans k5⟩
      case measure=> simp [intOf];omega
     ·have HNo:Hid (UseJ (AsksX (actsOf webl) (envOf sl)) (sl.map (·.name)) name l0 ((sl.take i).map (·.name)) x asks (k+1) out bg):=HJ.out.skip hkl (fun h=> h.2 (HB2.out.1 rfl))
      clear HB2
      go_wp2_with fail
      go_roundw
      case rel=> exact ⟨bg,k+1,b,o,c,out,by omega,by go_num,rfl,rfl,hoc,HSo,HNo,Kk⟩
      case measure=> simp [intOf];omega
end Go.Proofs.YteknkpfbjapoiaaGreatDoor
