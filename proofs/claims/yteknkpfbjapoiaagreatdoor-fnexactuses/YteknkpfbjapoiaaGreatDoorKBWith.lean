import Derived.Test.YteknkpfbjapoiaaGreatDoorKCLead
import Derived.Test.YteknkpfbjapoiaaGreatDoorKOConcat
import Derived.Deep.RegionHeld
namespace Go.Proofs.YteknkpfbjapoiaaGreatDoor
open Go.RowKit
theorem Tryz.infoPtrB : (Tryz.prog.info? 124).map (fun i=> (i.zero,i.size,i.bytes))=some (some (.pointer none),1,8):=by kernel_rfl
set_option maxRecDepth 100000 in
set_option maxHeartbeats 800000 in
theorem growB_any (w:World) (n:Nat) (hn:n≤3145728):
  Calls Tryz.prog 207 #[.slice none 0 0,.int .i64 n] w fun e w'=> ∃v,e= .returned v∧w'.ownsRow w.heap.size 124 1 v 0 []∧Kept w w':=by
 by_cases h0:n=0
 ·subst h0
  go_enter Tryz.func207,Tryz.ntmps207
  go_wp2
  go_ret
  exact ⟨_,rfl,World.ownsRow_nil _ _ _ _,Kept.refl _⟩
 ·obtain ⟨i0,hi,hz0,hz1,hz2⟩:=info_parts Tryz.infoPtrB
  have hrun:=fun ty=> Lib.run_append_nil_zeros (P:=Tryz.prog) w 123 3 ty 124 i0 _ .i64 .i64 Tryz.underlying123 Tryz.undInt hi hz0 n (by omega) (by rw [hz1];omega) (by omega) (by rw [hz2];omega)
  have hge:=grownCap_ge w n 0 124
  have hle:=grownCap_le_maxLen w n 0 124 (by unfold maxLen;omega)
  have HRun:=hide hrun
  clear hrun
  have hp: (0:Int) < (n:Int):=by omega
  go_enter Tryz.func207,Tryz.ntmps207
  go_wp2_with (at_builtin;refine Lib.wpList_append_run _ rfl (.tmp 20) (.tmp 21) _ _ rfl _ _ rfl rfl _ _ (HRun.out _) ?_)
  go_ret
  refine ⟨_,rfl,World.ownsRow.drew (World.ownsRow_made w _ _ (Nat.le_refl _) hle ?_),((Kept.refl _).alloc _).drew⟩
  simp only [Array.size_append,size_zeroCells]
  have e3: (#[Value.pointer none]:Array Value).size=1:=rfl
  rw [e3,←Nat.add_mul]
  congr 1
  omega
def RowsB (w:World) (b:Nat) (LL:List (List Value)) (P:Nat→Option Addr) (C:Nat→Nat):Prop:=
 b < w.heap.size∧∀i,i < LL.length→w.cell? ⟨b,i,none⟩=some (.slice (P i) (LL.getD i []).length (C i))∧((P i=none∧C i=0∧LL.getD i []=[])∨∃p1 p2,P i=some ⟨p1,p2,none⟩∧∀j u,(LL.getD i [])[j]? =some u→w.cell? ⟨p1,p2+j,none⟩=some u)
theorem RowsB.kept {w w':World} {b:Nat} {LL:List (List Value)} {P:Nat→Option Addr} {C:Nat→Nat} (h:RowsB w b LL P C) (k:Kept w w'):RowsB w' b LL P C:=
 ⟨Nat.lt_of_lt_of_le h.1 k.size,fun i hi=> ⟨by rw [k.cell h.1];exact (h.2 i hi).1,by
  rcases (h.2 i hi).2 with g | ⟨p1,p2,e,g⟩
  ·exact .inl g
  ·exact .inr ⟨p1,p2,e,fun j u hu=> by rw [k.cell (World.block_lt_of_cell? _ _ (g j u hu))];exact g j u hu⟩⟩⟩
theorem flatB_succ (LL:List (List Value)) (k:Nat) (h:k < LL.length): (LL.take (k+1)).flatten= (LL.take k).flatten++LL.getD k []:=by
 rw [List.take_succ_eq_append_getElem h,List.flatten_append]
 simp [List.getD,h]
theorem flatB_len (LL:List (List Value)) (k:Nat): (LL.take k).flatten.length=sumTo List.length LL k:=by
 unfold sumTo
 rw [List.length_flatten]
set_option maxRecDepth 100000 in
set_option maxHeartbeats 1600000 in
theorem concatB_any (w:World) (b cap:Nat) (LL:List (List Value)) (P:Nat→Option Addr) (C:Nat→Nat) (hm:LL.length≤3) (hn: (LL.map List.length).sum≤3145728) (hone: ∀l∈LL,∀u∈l,u.oneCell'=true) (hR:RowsB w b LL P C):
  Calls Tryz.prog 181 #[.slice (some ⟨b,0,none⟩) LL.length cap] w fun e w'=> ∃v,e= .returned v∧w'.ownsRow w.heap.size 124 1 v LL.flatten.length LL.flatten∧Kept w w':=by
 go_enter Tryz.func181,Tryz.ntmps181
 go_wp2
 go_loop [3,11] (fun x i=> ∃k:Nat,k≤LL.length∧i= .int .i64 k∧x= .int .i64 (sumTo List.length LL k:Nat)) (fun _ i=> LL.length - (intOf i).toNat)
 case atStart=> exact ⟨0,Nat.zero_le _,rfl,by rw [sumTo_zero];rfl⟩
 case round=>
  obtain ⟨k,hk,rfl,rfl⟩:=hrel
  by_cases hlt:k < LL.length
  ·have hc:= (hR.2 k hlt).1
   have HS:Hid (sumTo List.length LL (k+1)=sumTo List.length LL k+ (LL.getD k []).length):=sumTo_succ _ LL _ k hlt
   have HT:=sumTo_le List.length LL (k+1)
   have hst:sumTo List.length LL k+ (LL.getD k []).length≤3145728:=by have:=HS.out;omega
   generalize sumTo List.length LL k=z at *
   generalize (LL.getD k []).length=y at *
   generalize P k=pk at *
   clear HT
   go_wp2
   go_round
   case rel=> exact ⟨k+1,by omega,by go_num,by rw [HS.out];go_num⟩
   case measure=> simp [intOf];omega
  ·have hkl:k=LL.length:=by omega
   subst hkl
   have hz:sumTo List.length LL LL.length≤3145728:=by rw [sumTo_all];exact hn
   generalize sumTo List.length LL LL.length=z at *
   go_wp2_with fail
   refine (growB_any _ z hz).mono ?_
   rintro e w1 ⟨v1,rfl,hown,k1⟩
   go_wp2
   go_loopw [6,27] (fun x i wr=> ∃(k:Nat),k≤LL.length∧i= .int .i64 k∧wr.ownsRow w.heap.size 124 1 x (LL.take k).flatten.length (LL.take k).flatten∧Kept w wr) (fun _ i _=> LL.length - (intOf i).toNat)
   case atStart=> exact ⟨0,Nat.zero_le _,rfl,by simpa using hown,k1⟩
   case round=>
    obtain ⟨k,hk,rfl,hown,hw⟩:=hrel
    by_cases hlt:k < LL.length
    ·have hc:= ((hR.kept hw).2 k hlt).1
     have hbr:= (hR.kept hw).1
     have hsrc:= ((hR.kept hw).2 k hlt).2
     have hflat:=flatB_succ LL k hlt
     have hln:=flatB_len LL (k+1)
     have hle:=sumTo_le List.length LL (k+1)
     rw [hflat,List.length_append] at hln
     have hon:=hone (LL.getD k []) (by simp [List.getD,hlt])
     obtain ⟨y,hy⟩: ∃y,y=LL.getD k []:= ⟨_,rfl⟩
     obtain ⟨x0,hx0⟩: ∃x0,x0= (LL.take k).flatten:= ⟨_,rfl⟩
     rw [←hy] at hc hsrc hln hflat hon
     rw [←hx0] at hown hln hflat
     have hb1:x0.length+y.length≤3145728:=by omega
     have HFl:=hide hflat
     have HOw:=hide hown
     have hbase:=hw.size
     clear hln hle hflat hy hx0
     rcases hsrc with ⟨e1,e2,e3⟩ | ⟨p1,p2,e1,hcs⟩
     ·rw [e1,e2,e3] at hc
      rw [e3,List.append_nil] at HFl
      rcases hown.2 with ⟨ev,h0⟩ | ⟨g,cp,cur,ev,hb0,hg,hnc,_,_,_⟩
      ·subst ev
       simp only [List.length_nil] at hc
       clear hown
       go_wp2
       go_roundw
       case rel=> exact ⟨k+1,by omega,by go_num,by rw [HFl.out];exact HOw.out,hw⟩
       case measure=> simp [intOf];omega
      ·subst ev
       simp only [List.length_nil] at hc
       have hnc': (x0.length:Int)≤(cp:Int):=by omega
       have hgl:=heap_lt hg
       clear hown hg
       go_wp2
       go_roundw
       case rel=> exact ⟨k+1,by omega,by go_num,by rw [HFl.out];exact HOw.out,hw⟩
       case measure=> simp [intOf];omega
     ·rw [e1] at hc
      have hnw: ∀j u,y[j]? =some u→wr.cell? ((⟨p1,p2,none⟩:Addr).add j)=some u:=fun j u hu=> by
       rw [Addr.add_mid]
       exact hcs j u hu
      obtain ⟨i0,hi,hz0,hz1,hz2⟩:=info_parts Tryz.infoPtrB
      have HN2:=hide hnw
      have HON:=hide hon
      obtain ⟨m,hm'⟩: ∃m,m=y.length:= ⟨_,rfl⟩
      rw [←hm'] at hc
      have HM:=hide hm'
      clear hnw hon hcs hown hm'
      go_wp2_with (at_builtin;refine wpList_append_own _ rfl (.tmp 31) (.tmp 32) 123 rfl w.heap.size 124 i0 _ 1 8 Tryz.underlying123 hi hz0 hz1 hz2 rfl (by decide) _ x0.length x0 rfl HOw.out ⟨p1,p2,none⟩ m (C k) y rfl (by have:=HM.out;omega) HN2.out HON.out (by have:=HM.out;unfold maxLen;omega) (by have:=HM.out;omega) hbase ?_;intro v' w2 hown2 hgr _)
      go_roundw
      case rel=> exact ⟨k+1,by omega,by go_num,by rw [HFl.out,List.length_append,←HM.out];exact hown2,kept_of_grown hw (Nat.le_refl _) HOw.out hgr⟩
      case measure=> simp [intOf];omega
    ·have hkl:k=LL.length:=by omega
     subst hkl
     rw [List.take_length] at hown
     have HOw:=hide hown
     clear hown
     go_wp2
     go_ret
     exact ⟨_,rfl,HOw.out,hw⟩
theorem Tryz.sizeSortedB : (Tryz.prog.info? 127).map (·.size)=some 2:=by kernel_rfl
def PartB (w:World) (A:Option Addr) (c:Nat) (ys:List Value):Prop:= (A=none∧c=0∧ys=[])∨∃p1 p2,A=some ⟨p1,p2,none⟩∧∀j u,ys[j]? =some u→w.cell? ⟨p1,p2+j,none⟩=some u
theorem concatB_with {w2:World} {xs:List Value} {p n c1 c3 tb:Nat} {A1 A3:Option Addr} (hn:xs.length=n) (hl:n≤1000) (hp:p≤n) (hone: ∀u∈xs,u.oneCell'=true) (h1:PartB w2 A1 c1 (xs.take p)) (h3:PartB w2 A3 c3 (xs.drop p)) {m:Nat} (hm:m=n+1):
  Calls Tryz.prog 181 #[.slice (some ⟨w2.heap.size+1,0,none⟩) 3 3] ((w2.alloc (.cells #[.pointer (some ⟨tb,0,none⟩)] 124)).alloc (.cells #[.slice A1 p c1,.slice (some ⟨w2.heap.size,0,none⟩) 1 1,.slice A3 (n - p) c3] 123)).drew
   fun e w'=> ∃a' cap' base,e= .returned (.slice a' m cap')∧w2.heap.size≤base∧w'.ownsRow base 124 1 (.slice a' m cap') m (xs.take p++ .pointer (some ⟨tb,0,none⟩) :: xs.drop p)∧Kept w2 w':=by
 have k1:Kept w2 ((w2.alloc (.cells #[.pointer (some ⟨tb,0,none⟩)] 124)).alloc (.cells #[.slice A1 p c1,.slice (some ⟨w2.heap.size,0,none⟩) 1 1,.slice A3 (n - p) c3] 123)).drew:= (((Kept.refl _).alloc _).alloc _).drew
 have a2:=xBoxCell (w:=w2) (x:= .pointer (some ⟨tb,0,none⟩)) (t:=124) (((Kept.refl _).alloc (.cells #[.slice A1 p c1,.slice (some ⟨w2.heap.size,0,none⟩) 1 1,.slice A3 (n - p) c3] 123)).drew)
 have part: ∀{A c ys},PartB w2 A c ys→∀W,Kept w2 W→(A=none∧c=0∧ys=[])∨∃p1 p2,A=some ⟨p1,p2,none⟩∧∀j u,ys[j]? =some u→W.cell? ⟨p1,p2+j,none⟩=some u:=by
  intro A c ys h W k
  rcases h with h | ⟨p1,p2,e,g⟩
  ·exact .inl h
  ·exact .inr ⟨p1,p2,e,fun j u hu=> by rw [k.cell (World.block_lt_of_cell? _ _ (g j u hu))];exact g j u hu⟩
 have hfl: ([xs.take p,[.pointer (some ⟨tb,0,none⟩)],xs.drop p]:List (List Value)).flatten=xs.take p++ .pointer (some ⟨tb,0,none⟩) :: xs.drop p:=by simp
 refine (concatB_any _ (w2.heap.size+1) 3 [xs.take p,[.pointer (some ⟨tb,0,none⟩)],xs.drop p] (fun i=> if i=0 then A1 else if i=1 then some ⟨w2.heap.size,0,none⟩ else A3) (fun i=> if i=0 then c1 else if i=1 then 1 else c3) (by simp) (by simp [List.length_take,List.length_drop];omega) ?_ ⟨?_,fun i hi=> ?_⟩).mono ?_
 ·intro l hl u hu
  simp only [List.mem_cons,List.not_mem_nil,or_false] at hl
  rcases hl with rfl | rfl | rfl
  ·exact hone u (List.mem_of_mem_take hu)
  ·simp at hu;subst hu;rfl
  ·exact hone u (List.mem_of_mem_drop hu)
 ·show w2.heap.size+1 < ((w2.alloc _).alloc _).heap.size
  simp
 ·match i,hi with
  | 0,_=> exact ⟨by simp [List.length_take,Nat.min_eq_left (hn ▸ hp)],part h1 _ k1⟩
  | 1,_=> exact ⟨by simp,.inr ⟨w2.heap.size,0,rfl,fun j u hu=> by
    match j,hu with
    | 0,hu=> simp at hu;subst hu;exact a2
    | j+1,hu=> simp at hu⟩⟩
  | 2,_=> exact ⟨by simp [List.length_drop,hn],part h3 _ k1⟩
  | i+3,hi=> exfalso;simp at hi;omega
 ·rintro e w' ⟨v,rfl,hO,k⟩
  rw [hfl] at hO
  have hlen: (xs.take p++ .pointer (some ⟨tb,0,none⟩) :: xs.drop p).length=m:=by rw [List.length_append,List.length_cons,List.length_take,List.length_drop];omega
  rw [hlen] at hO
  obtain ⟨a',cap',rfl⟩:=own_slice hO
  exact ⟨a',cap',_,rfl,k1.size,hO,k1.trans k⟩
def WithEndB (l:List NodeD) (n:ByteArray) (tb:Nat) (xs:List Value) (w w':World) (e:Ending):Prop:=
 ∃(m:Nat) (a:Option Addr) (cap base p:Nat),m=l.length+1∧e= .returned (.agg #[.slice a m cap,.func (.func 121) #[] #[]])∧w.heap.size≤base∧w'.ownsRow base 124 1 (.slice a m cap) m (xs.take p++ .pointer (some ⟨tb,0,none⟩) :: xs.drop p)∧Place l n.toList p∧Kept w w'
theorem xBoxCells2 {w wi:World} {x y:Value} {t:TypeId} (K:Kept (w.alloc (.cells #[x,y] t)) wi):wi.cell? ⟨w.heap.size,0,none⟩=some x∧wi.cell? ⟨w.heap.size,1,none⟩=some y:=
 ⟨(K.cell (by simp)).trans (range_new w #[x,y] t 0 _ rfl),(K.cell (by simp)).trans (range_new w #[x,y] t 1 _ rfl)⟩
theorem PackedN.one {w:World} {xs:List Value} {l:List NodeD} (h:PackedN w xs l): ∀u∈xs,u.oneCell'=true:=by
 intro u hu
 obtain ⟨i,hi,rfl⟩:=List.getElem_of_mem hu
 obtain ⟨tb,_,_,e,_⟩:=h.2 i (by rw [←h.1];exact hi)
 rw [List.getElem?_eq_getElem hi] at e
 rw [Option.some.inj e]
 rfl
abbrev withBW (w:World) (a:Option Addr) (n cap:Nat):World:= (w.alloc (.cells #[.slice a n cap,.func (.func 121) #[] #[]] 127)).alloc (.cells #[.slice none 0 0,.nilFunc] 127)
set_option maxRecDepth 100000 in
set_option maxHeartbeats 1600000 in
theorem withB_any (w:World) (a:Option Addr) (cap:Nat) (l:List NodeD) (d:NodeD) (xs:List Value) (base0 tb:Nat) (hl:l.length≤100) (hr:Rises l) (hno: ∀j,j < l.length→nameAt l j≠d.name.toList) (hO0:w.ownsRow base0 124 1 (.slice a l.length cap) l.length xs) (hP:PackedN w xs l) (htl:tb < w.heap.size) (htn:w.cell? ⟨tb,0,none⟩=some (.string d.name)):
  Calls Tryz.prog 158 #[.agg #[.slice a l.length cap,.func (.func 121) #[] #[]],.pointer (some ⟨tb,0,none⟩)] w fun e w'=> WithEndB l d.name tb xs w w' e:=by
 have hCells:=cellsB_of_owned hO0
 have hxl:xs.length=l.length:=by have:=hO0.1;omega
 have K0:Kept w (withBW w a l.length cap):= ((Kept.refl _).alloc _).alloc _
 have HSO:Hid (∀w',Kept (withBW w a l.length cap) w'→(fun w'=> w'.cell? ⟨w.heap.size,0,none⟩=some (.slice a l.length cap)∧w'.cell? ⟨w.heap.size,1,none⟩=some (.func (.func 121) #[] #[])) w'):=fun w' kk=> xBoxCells2 (w:=w) (Kept.trans ((Kept.refl _).alloc _) kk)
 have HRo:Hid (Row (withBW w a l.length cap) (w.heap.size+1) 2):=by have:=Row.made (w.alloc (.cells #[.slice a l.length cap,.func (.func 121) #[] #[]] 127)) #[.slice none 0 0,.nilFunc] 127;show Row _ _ _;simpa using this
 go_enter Tryz.func158,Tryz.ntmps158
 go_wp2
 go_region_held (fun w'=> w'.cell? ⟨w.heap.size,0,none⟩=some (.slice a l.length cap)∧w'.cell? ⟨w.heap.size,1,none⟩=some (.func (.func 121) #[] #[])) (exact unhide HSO _ (by repeat (first | (with_reducible exact Kept.refl _) | (with_reducible assumption) | apply Kept.drew))) ((first | (go_at_call 121;refine (taskName_b _ tb d.name ((Kept.cell (K0.trans (by repeat (first | (with_reducible exact Kept.refl _) | (with_reducible assumption) | apply Kept.drew))) htl).trans htn)).mono ?_;rintro e w1 ⟨rfl,rfl⟩) | (go_at_call 167;refine (findB_any _ a cap l d.name (by omega) hr xs (hP.kept (K0.trans (by repeat (first | (with_reducible exact Kept.refl _) | (with_reducible assumption) | apply Kept.drew)))) (hCells.kept (K0.trans (by repeat (first | (with_reducible exact Kept.refl _) | (with_reducible assumption) | apply Kept.drew))))).mono ?_;rintro e w2 ⟨hfo,hk2⟩;obtain ⟨p,f,rfl,hp,hf⟩:=hfo;have k2:Kept (withBW w a l.length cap) w2:=Kept.trans (by repeat (first | (with_reducible exact Kept.refl _) | (with_reducible assumption) | apply Kept.drew)) hk2;have HP:=hide hp;have HF:=hide hf;clear hp hf hk2)))
 all_goals
  have hff:f=false:=by
   cases f
   ·rfl
   ·have:=HF.out.1 rfl
    exact absurd this.2 (hno p this.1)
  subst hff
  have z2:=k2.size
  simp only [withBW,World.size_alloc] at z2
  have K2:=K0.trans k2
  have S2:=HSO.out w2 k2
  have hrow:=HRo.out.kept k2
  obtain ⟨⟨_,x0⟩,g0⟩:=hrow.at (i:=0) (by omega)
  obtain ⟨⟨_,x1⟩,g1⟩:=hrow.at (i:=1) (by omega)
  have HR2:=hide hrow
  have hple:=HP.out.le
  clear hrow
  obtain ⟨m,hm⟩: ∃m,m=l.length+1:= ⟨_,rfl⟩
  have HM:=hide hm
  have HSO2:Hid (∀w',KeptBut (w.heap.size+1) (w.heap.size+2) w2 w'→(fun w'=> w'.cell? ⟨w.heap.size,0,none⟩=some (.slice a l.length cap)∧w'.cell? ⟨w.heap.size,1,none⟩=some (.func (.func 121) #[] #[])) w'):=fun w' kk=>
   have ks:=kk.same (l2:=w.heap.size) (h2:=w.heap.size+1) (by omega)
   ⟨(ks.cell (Nat.le_refl _) (by omega) (by omega)).trans S2.1,(ks.cell (Nat.le_refl _) (by omega) (by omega)).trans S2.2⟩
  obtain ⟨s1,s2⟩:=S2
  have hone:=hP.one
  have hCs:=hCells.kept K2
  have u0:w.heap.size < w2.heap.size:=by omega
  have u2:w.heap.size+1 < w2.heap.size:=by omega
  rcases hO0.2 with ⟨ev,h0⟩ | ⟨g,cp,cu2,ev,_,hg,hncp,_,_,_⟩
  ·simp only [Value.slice.injEq] at ev
   obtain ⟨ea,_,ec⟩:=ev
   subst ea ec
   have hp0:p=0:=by omega
   subst hp0
   have hx0:xs=[]:=List.eq_nil_of_length_eq_zero (by omega)
   have hC:=concatB_with (w2:=w2) (c1:=0) (c3:=0) (tb:=tb) (A1:=none) (A3:=none) hxl (by omega) hple hone (.inl ⟨rfl,rfl,by rw [hx0];rfl⟩) (.inl ⟨rfl,rfl,by rw [hx0];rfl⟩) hm
   obtain rfl:l=[]:=List.eq_nil_of_length_eq_zero h0
   simp only [List.length_nil,Nat.zero_sub] at hC s1
   have HC:=hide hC
   clear hC hx0 hone hCs hm
   go_wp2
   go_region_held (fun w'=> w'.cell? ⟨w.heap.size,0,none⟩=some (.slice none 0 0)∧w'.cell? ⟨w.heap.size,1,none⟩=some (.func (.func 121) #[] #[])) (exact unhide HSO2 _ (by repeat (first | exact KeptBut.refl _ _ _ | exact KeptBut.of_kept (by assumption) | apply KeptBut.drew | (refine KeptBut.setCell ?_ (by simp) (by simp) _) | apply KeptBut.alloc))) ((go_at_call 181;refine (unhide HC).mono ?_;rintro e w3 ⟨a',cap',base,rfl,hbase,hO,kk⟩;have HR3:=hide (HR2.out.kept kk);obtain ⟨⟨_,y0⟩,e0⟩:=HR3.out.at (i:=0) (by omega);obtain ⟨⟨_,y1⟩,e1⟩:=HR3.out.at (i:=1) (by omega);have HO:=hide hO;clear hO))
   all_goals
    go_wp2
    have hR:=World.rangeAt_setCells_same w3 (w.heap.size+1) 0 [.slice a' m cap',.func (.func 121) #[] #[]] (HR3.out.there (o:=0) (m:=2) (Nat.le_refl _))
    have kf:Kept w ((w3.setCell ⟨w.heap.size+1,0,none⟩ (.slice a' m cap')).setCell ⟨w.heap.size+1,1,none⟩ (.func (.func 121) #[] #[])):= ((K2.trans kk).setCell (by simp) _).setCell (by simp) _
    have hO2:=owns_set (owns_set HO.out (p:= ⟨w.heap.size+1,0,none⟩) (by simp <;> omega) (.slice a' m cap')) (p:= ⟨w.heap.size+1,1,none⟩) (by simp <;> omega) (.func (.func 121) #[] #[])
    exact bodyPost_ret_cell [.slice a' m cap',.func (.func 121) #[] #[]] _ Tryz.results158 rfl hR Tryz.underlying127 rfl Tryz.sizeSortedB rfl ⟨m,a',cap',base,_,HM.out,rfl,by omega,hO2,HP.out,kf⟩
  ·simp only [Value.slice.injEq] at ev
   obtain ⟨ea,_,ec⟩:=ev
   subst ea ec
   have hsrc: ∀j u,xs[j]? =some u→w2.cell? ⟨g,0+j,none⟩=some u:=fun j u hu=> by
    obtain ⟨b',o',e',_,hc'⟩:=hCs j (List.getElem?_eq_some_iff.1 hu).1
    simp only [Option.some.injEq,Addr.mk.injEq,and_true] at e'
    obtain ⟨rfl,rfl⟩:=e'
    exact hc' j u hu
   have hp1:PartB w2 (some ⟨g,0,none⟩) cap (xs.take p):= .inr ⟨g,0,rfl,fun j u hu=> hsrc j u (by rw [List.getElem?_take] at hu;split at hu;exact hu;cases hu)⟩
   have i1: (p:Int)≤(cap:Int):=by omega
   have i2: (p:Int)≤(l.length:Int):=by omega
   by_cases hce:cap=p
   ·have hlp:l.length=p:=by omega
    have hC:=concatB_with (w2:=w2) (c1:=p) (c3:=0) (tb:=tb) (A1:=some ⟨g,0,none⟩) (A3:=some ⟨g,0,none⟩) hxl (by omega) hple hone (hce ▸ hp1) (.inr ⟨g,0,rfl,fun j u hu=> by rw [List.drop_eq_nil_of_le (by omega)] at hu;simp at hu⟩) hm
    rw [show l.length - p=0 by omega] at hC
    have HC:=hide hC
    clear hC hone hCs hsrc hp1 hm
    go_wp2
    go_region_held (fun w'=> w'.cell? ⟨w.heap.size,0,none⟩=some (.slice (some ⟨g,0,none⟩) l.length cap)∧w'.cell? ⟨w.heap.size,1,none⟩=some (.func (.func 121) #[] #[])) (exact unhide HSO2 _ (by repeat (first | exact KeptBut.refl _ _ _ | exact KeptBut.of_kept (by assumption) | apply KeptBut.drew | (refine KeptBut.setCell ?_ (by simp) (by simp) _) | apply KeptBut.alloc))) ((go_at_call 181;refine (unhide HC).mono ?_;rintro e w3 ⟨a',cap',base,rfl,hbase,hO,kk⟩;have HR3:=hide (HR2.out.kept kk);obtain ⟨⟨_,y0⟩,e0⟩:=HR3.out.at (i:=0) (by omega);obtain ⟨⟨_,y1⟩,e1⟩:=HR3.out.at (i:=1) (by omega);have HO:=hide hO;clear hO))
    all_goals
     go_wp2
     have hR:=World.rangeAt_setCells_same w3 (w.heap.size+1) 0 [.slice a' m cap',.func (.func 121) #[] #[]] (HR3.out.there (o:=0) (m:=2) (Nat.le_refl _))
     have kf:Kept w ((w3.setCell ⟨w.heap.size+1,0,none⟩ (.slice a' m cap')).setCell ⟨w.heap.size+1,1,none⟩ (.func (.func 121) #[] #[])):= ((K2.trans kk).setCell (by simp) _).setCell (by simp) _
     have hO2:=owns_set (owns_set HO.out (p:= ⟨w.heap.size+1,0,none⟩) (by simp <;> omega) (.slice a' m cap')) (p:= ⟨w.heap.size+1,1,none⟩) (by simp <;> omega) (.func (.func 121) #[] #[])
     exact bodyPost_ret_cell [.slice a' m cap',.func (.func 121) #[] #[]] _ Tryz.results158 rfl hR Tryz.underlying127 rfl Tryz.sizeSortedB rfl ⟨m,a',cap',base,_,HM.out,rfl,by omega,hO2,HP.out,kf⟩
   ·have hC:=concatB_with (w2:=w2) (c1:=cap) (c3:=cap - p) (tb:=tb) (A1:=some ⟨g,0,none⟩) (A3:=some ⟨g,0+p * 1,none⟩) hxl (by omega) hple hone hp1 (.inr ⟨g,0+p * 1,rfl,fun j u hu=> by rw [List.getElem?_drop] at hu;have:=hsrc _ u hu;rw [show 0+p * 1+j=0+ (p+j) by omega];exact this⟩) hm
    simp only [Nat.mul_one,Nat.zero_add] at hC
    have HC:=hide hC
    clear hC hone hCs hsrc hp1 hm
    go_wp2
    go_region_held (fun w'=> w'.cell? ⟨w.heap.size,0,none⟩=some (.slice (some ⟨g,0,none⟩) l.length cap)∧w'.cell? ⟨w.heap.size,1,none⟩=some (.func (.func 121) #[] #[])) (exact unhide HSO2 _ (by repeat (first | exact KeptBut.refl _ _ _ | exact KeptBut.of_kept (by assumption) | apply KeptBut.drew | (refine KeptBut.setCell ?_ (by simp) (by simp) _) | apply KeptBut.alloc))) ((go_at_call 181;refine (unhide HC).mono ?_;rintro e w3 ⟨a',cap',base,rfl,hbase,hO,kk⟩;have HR3:=hide (HR2.out.kept kk);obtain ⟨⟨_,y0⟩,e0⟩:=HR3.out.at (i:=0) (by omega);obtain ⟨⟨_,y1⟩,e1⟩:=HR3.out.at (i:=1) (by omega);have HO:=hide hO;clear hO))
    all_goals
     go_wp2
     have hR:=World.rangeAt_setCells_same w3 (w.heap.size+1) 0 [.slice a' m cap',.func (.func 121) #[] #[]] (HR3.out.there (o:=0) (m:=2) (Nat.le_refl _))
     have kf:Kept w ((w3.setCell ⟨w.heap.size+1,0,none⟩ (.slice a' m cap')).setCell ⟨w.heap.size+1,1,none⟩ (.func (.func 121) #[] #[])):= ((K2.trans kk).setCell (by simp) _).setCell (by simp) _
     have hO2:=owns_set (owns_set HO.out (p:= ⟨w.heap.size+1,0,none⟩) (by simp <;> omega) (.slice a' m cap')) (p:= ⟨w.heap.size+1,1,none⟩) (by simp <;> omega) (.func (.func 121) #[] #[])
     exact bodyPost_ret_cell [.slice a' m cap',.func (.func 121) #[] #[]] _ Tryz.results158 rfl hR Tryz.underlying127 rfl Tryz.sizeSortedB rfl ⟨m,a',cap',base,_,HM.out,rfl,by omega,hO2,HP.out,kf⟩
end Go.Proofs.YteknkpfbjapoiaaGreatDoor
