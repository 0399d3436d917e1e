import Derived.Test.YtgnkgfjmbmcfcaaGreatDoorKCDist
import Derived.Test.YtgnkgfjmbmcfcaaGreatDoorKOConcat
import Derived.Deep.RegionHeld
import Derived.Deep.AppendLies
import Derived.Laws.OwnMore
set_option maxRecDepth 100000
set_option maxHeartbeats 25600000
namespace Go.Proofs.YtgnkgfjmbmcfcaaGreatDoor
open Go.RowKit
theorem Tryz.infoPtrB : (Tryz.prog.info? 145).map (fun i=> (i.zero,i.size,i.bytes))=some (some (.pointer none),1,8):=by kernel_rfl
theorem growB_any (w:World) (n:Nat) (hn:n<=3145728):
  Calls Tryz.prog 177 #[.slice none 0 0,.int .i64 n] w fun e w'=> ∃v,e= .returned v∧w'.ownsRow w.heap.size 145 1 v 0 []∧K_ w w':=by
 by_cases h0:n=0
 ·subst h0
  go_enter Tryz.func177,Tryz.ntmps177
  go_wp2
  go_ret
  exact ⟨_,rfl,World.ownsRow_nil _ _ _ _,K_.refl _⟩
 ·obtain ⟨i0,hi,hz0,hz1,hz2⟩:=info_parts Tryz.infoPtrB
  have hrun:=fun ty=> Lib.run_append_nil_zeros (P:=Tryz.prog) w 123 3 ty 145 i0 _ .i64 .i64 Tryz.underlying123 Tryz.undInt hi hz0 n (by omega) (by rw [hz1];omega) (by omega) (by rw [hz2];omega)
  have hge:=grownCap_ge w n 0 145
  have hle:=grownCap_le_maxLen w n 0 145 (by unfold maxLen;omega)
  have HRun:=Kz hrun
  clear hrun
  have hp: (0:Int) < (n:Int):=by omega
  go_enter Tryz.func177,Tryz.ntmps177
  go_wp2_with (at_builtin;refine Lib.wpList_append_run _ rfl (.tmp 20) (.tmp 21) _ _ rfl _ _ rfl rfl _ _ (HRun.out _) ?_)
  go_ret
  refine ⟨_,rfl,World.ownsRow.drew (World.ownsRow_made w _ _ (Nat.le_refl _) hle ?_),((K_.refl _).alloc _).drew⟩
  simp only [Array.size_append,size_zeroCells]
  have e3: (#[Value.pointer none]:Array Value).size=1:=rfl
  rw [e3,<-Nat.add_mul]
  congr 1
  omega
def RowsB (w:World) (b:Nat) (LL:List (List Value)) (P:Nat->Option Addr) (C:Nat->Nat):Prop:=
 b < w.heap.size∧∀i,i < LL.length->w.cell? ⟨b,i,none⟩=some (.slice (P i) (LL.getD i []).length (C i))∧((P i=none∧C i=0∧LL.getD i []=[])∨∃p1 p2,P i=some ⟨p1,p2,none⟩∧∀j u,(LL.getD i [])[j]? =some u->w.cell? ⟨p1,p2+j,none⟩=some u)
theorem RowsB.kept {w w':World} {b:Nat} {LL:List (List Value)} {P:Nat->Option Addr} {C:Nat->Nat} (h:RowsB w b LL P C) (k:K_ w w'):RowsB w' b LL P C:=
 ⟨Nat.lt_of_lt_of_le h.1 k.size,fun i hi=> ⟨by rw [k.cell h.1];exact (h.2 i hi).1,by
  rcases (h.2 i hi).2 with g | ⟨p1,p2,e,g⟩
  ·exact .inl g
  ·exact .inr ⟨p1,p2,e,fun j u hu=> by rw [k.cell (World.block_lt_of_cell? _ _ (g j u hu))];exact g j u hu⟩⟩⟩
theorem flatB_succ (LL:List (List Value)) (k:Nat) (h:k < LL.length): (LL.take (k+1)).flatten= (LL.take k).flatten++LL.getD k []:=by
 rw [List.take_succ_eq_append_getElem h,List.flatten_append]
 simp [List.getD,h]
theorem flatB_len (LL:List (List Value)) (k:Nat): (LL.take k).flatten.length=sumTo List.length LL k:=by
 unfold sumTo
 rw [List.length_flatten]
theorem concatB_any (w:World) (b cap:Nat) (LL:List (List Value)) (P:Nat->Option Addr) (C:Nat->Nat) (hm:LL.length<=3) (hn: (LL.map List.length).sum<=3145728) (hone: ∀l∈LL,∀u∈l,u.oneCell'=true) (hR:RowsB w b LL P C):
  Calls Tryz.prog 150 #[.slice (some ⟨b,0,none⟩) LL.length cap] w fun e w'=> ∃v,e= .returned v∧w'.ownsRow w.heap.size 145 1 v LL.flatten.length LL.flatten∧K_ w w':=by
 go_enter Tryz.func150,Tryz.ntmps150
 go_wp2
 go_loop [3,11] (fun x i=> ∃k:Nat,k<=LL.length∧i= .int .i64 k∧x= .int .i64 (sumTo List.length LL k:Nat)) (fun _ i=> LL.length - (intOf i).toNat)
 case atStart=> exact ⟨0,Nat.zero_le _,rfl,by rw [sumTo_zero];rfl⟩
 case round=>
  obtain ⟨k,hk,rfl,rfl⟩:=hrel
  by_cases hlt:k < LL.length
  ·have hc:= (hR.2 k hlt).1
   have HS:Hid (sumTo List.length LL (k+1)=sumTo List.length LL k+ (LL.getD k []).length):=sumTo_succ _ LL _ k hlt
   have HT:=sumTo_le List.length LL (k+1)
   have hst:sumTo List.length LL k+ (LL.getD k []).length<=3145728:=by have:=HS.out;omega
   generalize sumTo List.length LL k=z at *
   generalize (LL.getD k []).length=y at *
   generalize P k=pk at *
   clear HT
   go_wp2
   go_round
   case rel=> exact ⟨k+1,by omega,by go_num,by rw [HS.out];go_num⟩
   case measure=> simp [intOf];omega
  ·have hkl:k=LL.length:=by omega
   subst hkl
   have hz:sumTo List.length LL LL.length<=3145728:=by rw [sumTo_all];exact hn
   generalize sumTo List.length LL LL.length=z at *
   go_wp2_with fail
   refine (growB_any _ z hz).mono ?_
   rintro e w1 ⟨v1,rfl,hown,k1⟩
   go_wp2
   go_loopw [6,27] (fun x i wr=> ∃(k:Nat),k<=LL.length∧i= .int .i64 k∧wr.ownsRow w.heap.size 145 1 x (LL.take k).flatten.length (LL.take k).flatten∧K_ w wr) (fun _ i _=> LL.length - (intOf i).toNat)
   case atStart=> exact ⟨0,Nat.zero_le _,rfl,by simpa using hown,k1⟩
   case round=>
    obtain ⟨k,hk,rfl,hown,hw⟩:=hrel
    by_cases hlt:k < LL.length
    ·have hc:= ((hR.kept hw).2 k hlt).1
     have hbr:= (hR.kept hw).1
     have hsrc:= ((hR.kept hw).2 k hlt).2
     have hflat:=flatB_succ LL k hlt
     have hln:=flatB_len LL (k+1)
     have hle:=sumTo_le List.length LL (k+1)
     rw [hflat,List.length_append] at hln
     have hon:=hone (LL.getD k []) (by simp [List.getD,hlt])
     obtain ⟨y,hy⟩: ∃y,y=LL.getD k []:= ⟨_,rfl⟩
     obtain ⟨x0,hx0⟩: ∃x0,x0= (LL.take k).flatten:= ⟨_,rfl⟩
     rw [<-hy] at hc hsrc hln hflat hon
     rw [<-hx0] at hown hln hflat
     have hb1:x0.length+y.length<=3145728:=by omega
     have HFl:=Kz hflat
     have HOw:=Kz hown
     have hbase:=hw.size
     clear hln hle hflat hy hx0
     rcases hsrc with ⟨e1,e2,e3⟩ | ⟨p1,p2,e1,hcs⟩
     ·rw [e1,e2,e3] at hc
      rw [e3,List.append_nil] at HFl
      rcases hown.2 with ⟨ev,h0⟩ | ⟨g,cp,cur,ev,hb0,hg,hnc,_,_,_⟩
      ·subst ev
       simp only [List.length_nil] at hc
       clear hown
       go_wp2
       go_roundw
       case rel=> exact ⟨k+1,by omega,by go_num,by rw [HFl.out];exact HOw.out,hw⟩
       case measure=> simp [intOf];omega
      ·subst ev
       simp only [List.length_nil] at hc
       have hnc': (x0.length:Int)<=(cp:Int):=by omega
       have hgl:=heap_lt hg
       clear hown hg
       go_wp2
       go_roundw
       case rel=> exact ⟨k+1,by omega,by go_num,by rw [HFl.out];exact HOw.out,hw⟩
       case measure=> simp [intOf];omega
     ·rw [e1] at hc
      have hnw: ∀j u,y[j]? =some u->wr.cell? ((⟨p1,p2,none⟩:Addr).add j)=some u:=fun j u hu=> by
       rw [Addr.add_mid]
       exact hcs j u hu
      obtain ⟨i0,hi,hz0,hz1,hz2⟩:=info_parts Tryz.infoPtrB
      have HN2:=Kz hnw
      have HON:=Kz hon
      obtain ⟨m,hm'⟩: ∃m,m=y.length:= ⟨_,rfl⟩
      rw [<-hm'] at hc
      have HM:=Kz hm'
      clear hnw hon hcs hown hm'
      go_wp2_with (at_builtin;refine wpList_append_own _ rfl (.tmp 31) (.tmp 32) 123 rfl w.heap.size 145 i0 _ 1 8 Tryz.underlying123 hi hz0 hz1 hz2 rfl (by decide) _ x0.length x0 rfl HOw.out ⟨p1,p2,none⟩ m (C k) y rfl (by have:=HM.out;omega) HN2.out HON.out (by have:=HM.out;unfold maxLen;omega) (by have:=HM.out;omega) hbase ?_;intro v' w2 hown2 hgr _)
      go_roundw
      case rel=> exact ⟨k+1,by omega,by go_num,by rw [HFl.out,List.length_append,<-HM.out];exact hown2,kept_of_grown hw (Nat.le_refl _) HOw.out hgr⟩
      case measure=> simp [intOf];omega
    ·have hkl:k=LL.length:=by omega
     subst hkl
     rw [List.take_length] at hown
     have HOw:=Kz hown
     clear hown
     go_wp2
     go_ret
     exact ⟨_,rfl,HOw.out,hw⟩
theorem Tryz.sizeSortedB : (Tryz.prog.info? 126).map (·.size)=some 2:=by kernel_rfl
def PartB (w:World) (A:Option Addr) (c:Nat) (ys:List Value):Prop:= (A=none∧c=0∧ys=[])∨∃p1 p2,A=some ⟨p1,p2,none⟩∧∀j u,ys[j]? =some u->w.cell? ⟨p1,p2+j,none⟩=some u
theorem concatB_with {w2:World} {xs:List Value} {p n c1 c3 tb:Nat} {A1 A3:Option Addr} (hn:xs.length=n) (hl:n<=1000) (hp:p<=n) (hone: ∀u∈xs,u.oneCell'=true) (h1:PartB w2 A1 c1 (xs.take p)) (h3:PartB w2 A3 c3 (xs.drop p)) {m:Nat} (hm:m=n+1):
  Calls Tryz.prog 150 #[.slice (some ⟨w2.heap.size+1,0,none⟩) 3 3] ((w2.alloc (.cells #[.pointer (some ⟨tb,0,none⟩)] 145)).alloc (.cells #[.slice A1 p c1,.slice (some ⟨w2.heap.size,0,none⟩) 1 1,.slice A3 (n - p) c3] 123)).drew
   fun e w'=> ∃a' cap' base,e= .returned (.slice a' m cap')∧w2.heap.size<=base∧w'.ownsRow base 145 1 (.slice a' m cap') m (xs.take p++ .pointer (some ⟨tb,0,none⟩) :: xs.drop p)∧K_ w2 w':=by
 have k1:K_ w2 ((w2.alloc (.cells #[.pointer (some ⟨tb,0,none⟩)] 145)).alloc (.cells #[.slice A1 p c1,.slice (some ⟨w2.heap.size,0,none⟩) 1 1,.slice A3 (n - p) c3] 123)).drew:= (((K_.refl _).alloc _).alloc _).drew
 have a2:=xBoxCell (w:=w2) (x:= .pointer (some ⟨tb,0,none⟩)) (t:=145) (((K_.refl _).alloc (.cells #[.slice A1 p c1,.slice (some ⟨w2.heap.size,0,none⟩) 1 1,.slice A3 (n - p) c3] 123)).drew)
 have part: ∀{A c ys},PartB w2 A c ys->∀W,K_ w2 W->(A=none∧c=0∧ys=[])∨∃p1 p2,A=some ⟨p1,p2,none⟩∧∀j u,ys[j]? =some u->W.cell? ⟨p1,p2+j,none⟩=some u:=by
  intro A c ys h W k
  rcases h with h | ⟨p1,p2,e,g⟩
  ·exact .inl h
  ·exact .inr ⟨p1,p2,e,fun j u hu=> by rw [k.cell (World.block_lt_of_cell? _ _ (g j u hu))];exact g j u hu⟩
 have hfl: ([xs.take p,[.pointer (some ⟨tb,0,none⟩)],xs.drop p]:List (List Value)).flatten=xs.take p++ .pointer (some ⟨tb,0,none⟩) :: xs.drop p:=by simp
 refine (concatB_any _ (w2.heap.size+1) 3 [xs.take p,[.pointer (some ⟨tb,0,none⟩)],xs.drop p] (fun i=> if i=0 then A1 else if i=1 then some ⟨w2.heap.size,0,none⟩ else A3) (fun i=> if i=0 then c1 else if i=1 then 1 else c3) (by simp) (by simp [List.length_take,List.length_drop];omega) ?_ ⟨?_,fun i hi=> ?_⟩).mono ?_
 ·intro l hl u hu
  simp only [List.mem_cons,List.not_mem_nil,or_false] at hl
  rcases hl with rfl | rfl | rfl
  ·exact hone u (List.mem_of_mem_take hu)
  ·simp at hu;subst hu;rfl
  ·exact hone u (List.mem_of_mem_drop hu)
 ·show w2.heap.size+1 < ((w2.alloc _).alloc _).heap.size
  simp
 ·match i,hi with
  | 0,_=> exact ⟨by simp [List.length_take,Nat.min_eq_left (hn ▸ hp)],part h1 _ k1⟩
  | 1,_=> exact ⟨by simp,.inr ⟨w2.heap.size,0,rfl,fun j u hu=> by
    match j,hu with
    | 0,hu=> simp at hu;subst hu;exact a2
    | j+1,hu=> simp at hu⟩⟩
  | 2,_=> exact ⟨by simp [List.length_drop,hn],part h3 _ k1⟩
  | i+3,hi=> exfalso;simp at hi;omega
 ·rintro e w' ⟨v,rfl,hO,k⟩
  rw [hfl] at hO
  have hlen: (xs.take p++ .pointer (some ⟨tb,0,none⟩) :: xs.drop p).length=m:=by rw [List.length_append,List.length_cons,List.length_take,List.length_drop];omega
  rw [hlen] at hO
  obtain ⟨a',cap',rfl⟩:=own_slice hO
  exact ⟨a',cap',_,rfl,k1.size,hO,k1.trans k⟩
def WithEndB (l:List Qq) (n:ByteArray) (tb:Nat) (xs:List Value) (w w':World) (e:Ending):Prop:=
 ∃(m:Nat) (a:Option Addr) (cap base p:Nat),m=l.length+1∧e= .returned (.agg #[.slice a m cap,.func (.func 63) #[] #[]])∧w.heap.size<=base∧w'.ownsRow base 145 1 (.slice a m cap) m (xs.take p++ .pointer (some ⟨tb,0,none⟩) :: xs.drop p)∧Place l n.toList p∧K_ w w'
theorem xBoxCells2 {w wi:World} {x y:Value} {t:TypeId} (K:K_ (w.alloc (.cells #[x,y] t)) wi):wi.cell? ⟨w.heap.size,0,none⟩=some x∧wi.cell? ⟨w.heap.size,1,none⟩=some y:=
 ⟨(K.cell (by simp)).trans (Xz w #[x,y] t 0 _ rfl),(K.cell (by simp)).trans (Xz w #[x,y] t 1 _ rfl)⟩
theorem PackedN.one {w:World} {xs:List Value} {l:List Qq} (h:PackedN w xs l): ∀u∈xs,u.oneCell'=true:=by
 intro u hu
 obtain ⟨i,hi,rfl⟩:=List.getElem_of_mem hu
 obtain ⟨tb,_,_,e,_⟩:=h.2 i (by rw [<-h.1];exact hi)
 rw [List.getElem?_eq_getElem hi] at e
 rw [Option.some.inj e]
 rfl
abbrev withBW (w:World) (a:Option Addr) (n cap:Nat):World:= (w.alloc (.cells #[.slice a n cap,.func (.func 63) #[] #[]] 126)).alloc (.cells #[.slice none 0 0,.nilFunc] 126)
theorem withB_any (w:World) (a:Option Addr) (cap:Nat) (l:List Qq) (d:Qq) (xs:List Value) (base0 tb:Nat) (hl:l.length<=100) (hr:Rises l) (hno: ∀j,j < l.length->nameAt l j≠d.name.toList) (hO0:w.ownsRow base0 145 1 (.slice a l.length cap) l.length xs) (hP:PackedN w xs l) (htl:tb < w.heap.size) (htn:w.cell? ⟨tb,0,none⟩=some (.string d.name)):
  Calls Tryz.prog 114 #[.agg #[.slice a l.length cap,.func (.func 63) #[] #[]],.pointer (some ⟨tb,0,none⟩)] w fun e w'=> WithEndB l d.name tb xs w w' e:=by
 have hCells:=cellsB_of_owned hO0
 have hxl:xs.length=l.length:=by have:=hO0.1;omega
 have K0:K_ w (withBW w a l.length cap):= ((K_.refl _).alloc _).alloc _
 have Zz:Hid (∀w',K_ (withBW w a l.length cap) w'->(fun w'=> w'.cell? ⟨w.heap.size,0,none⟩=some (.slice a l.length cap)∧w'.cell? ⟨w.heap.size,1,none⟩=some (.func (.func 63) #[] #[])) w'):=fun w' kk=> xBoxCells2 (w:=w) (K_.trans ((K_.refl _).alloc _) kk)
 have HRo:Hid (Row (withBW w a l.length cap) (w.heap.size+1) 2):=by have:=Row.made (w.alloc (.cells #[.slice a l.length cap,.func (.func 63) #[] #[]] 126)) #[.slice none 0 0,.nilFunc] 126;show Row _ _ _;simpa using this
 go_enter Tryz.func114,Tryz.ntmps114
 go_wp2
 go_region_held (fun w'=> w'.cell? ⟨w.heap.size,0,none⟩=some (.slice a l.length cap)∧w'.cell? ⟨w.heap.size,1,none⟩=some (.func (.func 63) #[] #[])) (exact unhide Zz _ (by repeat (first | (with_reducible exact K_.refl _) | (with_reducible assumption) | apply K_.drew))) ((first | (go_at_call 63;refine (taskName_b _ tb d.name ((K_.cell (K0.trans (by repeat (first | (with_reducible exact K_.refl _) | (with_reducible assumption) | apply K_.drew))) htl).trans htn)).mono ?_;rintro e w1 ⟨rfl,rfl⟩) | (go_at_call 149;refine (findB_any _ a cap l d.name (by omega) hr xs (hP.kept (K0.trans (by repeat (first | (with_reducible exact K_.refl _) | (with_reducible assumption) | apply K_.drew)))) (hCells.kept (K0.trans (by repeat (first | (with_reducible exact K_.refl _) | (with_reducible assumption) | apply K_.drew))))).mono ?_;rintro e w2 ⟨hfo,hk2⟩;obtain ⟨p,f,rfl,hp,hf⟩:=hfo;have k2:K_ (withBW w a l.length cap) w2:=K_.trans (by repeat (first | (with_reducible exact K_.refl _) | (with_reducible assumption) | apply K_.drew)) hk2;have HP:=Kz hp;have HF:=Kz hf;clear hp hf hk2)))
 all_goals
  have hff:f=false:=by
   cases f
   ·rfl
   ·have:=HF.out.1 rfl
    exact absurd this.2 (hno p this.1)
  subst hff
  have z2:=k2.size
  simp only [withBW,World.size_alloc] at z2
  have K2:=K0.trans k2
  have S2:=Zz.out w2 k2
  have hrow:=HRo.out.kept k2
  obtain ⟨⟨_,x0⟩,g0⟩:=hrow.at (i:=0) (by omega)
  obtain ⟨⟨_,x1⟩,g1⟩:=hrow.at (i:=1) (by omega)
  have HR2:=Kz hrow
  have hple:=HP.out.le
  clear hrow
  obtain ⟨m,hm⟩: ∃m,m=l.length+1:= ⟨_,rfl⟩
  have HM:=Kz hm
  have HSO2:Hid (∀w',Xk (w.heap.size+1) (w.heap.size+2) w2 w'->(fun w'=> w'.cell? ⟨w.heap.size,0,none⟩=some (.slice a l.length cap)∧w'.cell? ⟨w.heap.size,1,none⟩=some (.func (.func 63) #[] #[])) w'):=fun w' kk=>
   have ks:=kk.same (l2:=w.heap.size) (h2:=w.heap.size+1) (by omega)
   ⟨(ks.cell (Nat.le_refl _) (by omega) (by omega)).trans S2.1,(ks.cell (Nat.le_refl _) (by omega) (by omega)).trans S2.2⟩
  obtain ⟨s1,s2⟩:=S2
  have hone:=hP.one
  have hCs:=hCells.kept K2
  have u0:w.heap.size < w2.heap.size:=by omega
  have u2:w.heap.size+1 < w2.heap.size:=by omega
  rcases hO0.2 with ⟨ev,h0⟩ | ⟨g,cp,cu2,ev,_,hg,hncp,_,_,_⟩
  ·simp only [Value.slice.injEq] at ev
   obtain ⟨ea,_,ec⟩:=ev
   subst ea ec
   have hp0:p=0:=by omega
   subst hp0
   have hx0:xs=[]:=List.eq_nil_of_length_eq_zero (by omega)
   have hC:=concatB_with (w2:=w2) (c1:=0) (c3:=0) (tb:=tb) (A1:=none) (A3:=none) hxl (by omega) hple hone (.inl ⟨rfl,rfl,by rw [hx0];rfl⟩) (.inl ⟨rfl,rfl,by rw [hx0];rfl⟩) hm
   obtain rfl:l=[]:=List.eq_nil_of_length_eq_zero h0
   simp only [List.length_nil,Nat.zero_sub] at hC s1
   have HC:=Kz hC
   clear hC hx0 hone hCs hm
   go_wp2
   go_region_held (fun w'=> w'.cell? ⟨w.heap.size,0,none⟩=some (.slice none 0 0)∧w'.cell? ⟨w.heap.size,1,none⟩=some (.func (.func 63) #[] #[])) (exact unhide HSO2 _ (by repeat (first | exact Xk.refl _ _ _ | exact Xk.of_kept (by assumption) | apply Xk.drew | (refine Xk.setCell ?_ (by simp) (by simp) _) | apply Xk.alloc))) ((go_at_call 150;refine (unhide HC).mono ?_;rintro e w3 ⟨a',cap',base,rfl,hbase,hO,kk⟩;have HR3:=Kz (HR2.out.kept kk);obtain ⟨⟨_,y0⟩,e0⟩:=HR3.out.at (i:=0) (by omega);obtain ⟨⟨_,y1⟩,e1⟩:=HR3.out.at (i:=1) (by omega);have HO:=Kz hO;clear hO))
   all_goals
    go_wp2
    have hR:=World.rangeAt_setCells_same w3 (w.heap.size+1) 0 [.slice a' m cap',.func (.func 63) #[] #[]] (HR3.out.there (o:=0) (m:=2) (Nat.le_refl _))
    have kf:K_ w ((w3.setCell ⟨w.heap.size+1,0,none⟩ (.slice a' m cap')).setCell ⟨w.heap.size+1,1,none⟩ (.func (.func 63) #[] #[])):= ((K2.trans kk).setCell (by simp) _).setCell (by simp) _
    have hO2:=owns_set (owns_set HO.out (p:= ⟨w.heap.size+1,0,none⟩) (by simp <;> omega) (.slice a' m cap')) (p:= ⟨w.heap.size+1,1,none⟩) (by simp <;> omega) (.func (.func 63) #[] #[])
    exact X_ [.slice a' m cap',.func (.func 63) #[] #[]] _ Tryz.results114 rfl hR Tryz.underlying126 rfl Tryz.sizeSortedB rfl ⟨m,a',cap',base,_,HM.out,rfl,by omega,hO2,HP.out,kf⟩
  ·simp only [Value.slice.injEq] at ev
   obtain ⟨ea,_,ec⟩:=ev
   subst ea ec
   have hsrc: ∀j u,xs[j]? =some u->w2.cell? ⟨g,0+j,none⟩=some u:=fun j u hu=> by
    obtain ⟨b',o',e',_,hc'⟩:=hCs j (List.getElem?_eq_some_iff.1 hu).1
    simp only [Option.some.injEq,Addr.mk.injEq,and_true] at e'
    obtain ⟨rfl,rfl⟩:=e'
    exact hc' j u hu
   have hp1:PartB w2 (some ⟨g,0,none⟩) cap (xs.take p):= .inr ⟨g,0,rfl,fun j u hu=> hsrc j u (by rw [List.getElem?_take] at hu;split at hu;exact hu;cases hu)⟩
   have i1: (p:Int)<=(cap:Int):=by omega
   have i2: (p:Int)<=(l.length:Int):=by omega
   by_cases hce:cap=p
   ·have hlp:l.length=p:=by omega
    have hC:=concatB_with (w2:=w2) (c1:=p) (c3:=0) (tb:=tb) (A1:=some ⟨g,0,none⟩) (A3:=some ⟨g,0,none⟩) hxl (by omega) hple hone (hce ▸ hp1) (.inr ⟨g,0,rfl,fun j u hu=> by rw [List.drop_eq_nil_of_le (by omega)] at hu;simp at hu⟩) hm
    rw [show l.length - p=0 by omega] at hC
    have HC:=Kz hC
    clear hC hone hCs hsrc hp1 hm
    go_wp2
    go_region_held (fun w'=> w'.cell? ⟨w.heap.size,0,none⟩=some (.slice (some ⟨g,0,none⟩) l.length cap)∧w'.cell? ⟨w.heap.size,1,none⟩=some (.func (.func 63) #[] #[])) (exact unhide HSO2 _ (by repeat (first | exact Xk.refl _ _ _ | exact Xk.of_kept (by assumption) | apply Xk.drew | (refine Xk.setCell ?_ (by simp) (by simp) _) | apply Xk.alloc))) ((go_at_call 150;refine (unhide HC).mono ?_;rintro e w3 ⟨a',cap',base,rfl,hbase,hO,kk⟩;have HR3:=Kz (HR2.out.kept kk);obtain ⟨⟨_,y0⟩,e0⟩:=HR3.out.at (i:=0) (by omega);obtain ⟨⟨_,y1⟩,e1⟩:=HR3.out.at (i:=1) (by omega);have HO:=Kz hO;clear hO))
    all_goals
     go_wp2
     have hR:=World.rangeAt_setCells_same w3 (w.heap.size+1) 0 [.slice a' m cap',.func (.func 63) #[] #[]] (HR3.out.there (o:=0) (m:=2) (Nat.le_refl _))
     have kf:K_ w ((w3.setCell ⟨w.heap.size+1,0,none⟩ (.slice a' m cap')).setCell ⟨w.heap.size+1,1,none⟩ (.func (.func 63) #[] #[])):= ((K2.trans kk).setCell (by simp) _).setCell (by simp) _
     have hO2:=owns_set (owns_set HO.out (p:= ⟨w.heap.size+1,0,none⟩) (by simp <;> omega) (.slice a' m cap')) (p:= ⟨w.heap.size+1,1,none⟩) (by simp <;> omega) (.func (.func 63) #[] #[])
     exact X_ [.slice a' m cap',.func (.func 63) #[] #[]] _ Tryz.results114 rfl hR Tryz.underlying126 rfl Tryz.sizeSortedB rfl ⟨m,a',cap',base,_,HM.out,rfl,by omega,hO2,HP.out,kf⟩
   ·have hC:=concatB_with (w2:=w2) (c1:=cap) (c3:=cap - p) (tb:=tb) (A1:=some ⟨g,0,none⟩) (A3:=some ⟨g,0+p * 1,none⟩) hxl (by omega) hple hone hp1 (.inr ⟨g,0+p * 1,rfl,fun j u hu=> by rw [List.getElem?_drop] at hu;have:=hsrc _ u hu;rw [show 0+p * 1+j=0+ (p+j) by omega];exact this⟩) hm
    simp only [Nat.mul_one,Nat.zero_add] at hC
    have HC:=Kz hC
    clear hC hone hCs hsrc hp1 hm
    go_wp2
    go_region_held (fun w'=> w'.cell? ⟨w.heap.size,0,none⟩=some (.slice (some ⟨g,0,none⟩) l.length cap)∧w'.cell? ⟨w.heap.size,1,none⟩=some (.func (.func 63) #[] #[])) (exact unhide HSO2 _ (by repeat (first | exact Xk.refl _ _ _ | exact Xk.of_kept (by assumption) | apply Xk.drew | (refine Xk.setCell ?_ (by simp) (by simp) _) | apply Xk.alloc))) ((go_at_call 150;refine (unhide HC).mono ?_;rintro e w3 ⟨a',cap',base,rfl,hbase,hO,kk⟩;have HR3:=Kz (HR2.out.kept kk);obtain ⟨⟨_,y0⟩,e0⟩:=HR3.out.at (i:=0) (by omega);obtain ⟨⟨_,y1⟩,e1⟩:=HR3.out.at (i:=1) (by omega);have HO:=Kz hO;clear hO))
    all_goals
     go_wp2
     have hR:=World.rangeAt_setCells_same w3 (w.heap.size+1) 0 [.slice a' m cap',.func (.func 63) #[] #[]] (HR3.out.there (o:=0) (m:=2) (Nat.le_refl _))
     have kf:K_ w ((w3.setCell ⟨w.heap.size+1,0,none⟩ (.slice a' m cap')).setCell ⟨w.heap.size+1,1,none⟩ (.func (.func 63) #[] #[])):= ((K2.trans kk).setCell (by simp) _).setCell (by simp) _
     have hO2:=owns_set (owns_set HO.out (p:= ⟨w.heap.size+1,0,none⟩) (by simp <;> omega) (.slice a' m cap')) (p:= ⟨w.heap.size+1,1,none⟩) (by simp <;> omega) (.func (.func 63) #[] #[])
     exact X_ [.slice a' m cap',.func (.func 63) #[] #[]] _ Tryz.results114 rfl hR Tryz.underlying126 rfl Tryz.sizeSortedB rfl ⟨m,a',cap',base,_,HM.out,rfl,by omega,hO2,HP.out,kf⟩
def Zx.fresh (nb:Nat) (n:ByteArray) (cost:Int) (steps:List Xj) (sa:Option Addr) (sc:Nat):Zx:= ⟨nb,Qz.fresh n,cost,steps,sa,sc,0,.slice none 0 0,.slice none 0 0,[],⟨#[]⟩⟩
def WantR (Kj:List Qq) (ts:List Zx) (n:ByteArray) (ts':List Zx):Prop:=
 (ts'=ts∧(Q_ Kj n=none∨∃t∈ts,t.r.name=n))∨(∃p new,ts'=ts.take p++new :: ts.drop p∧new.r=Qz.fresh n∧(new.op=0∧new.bq= (⟨#[]⟩,[]))∧(∀t∈ts,t.r.name≠n)∧(Q_ Kj n).isSome=true)
theorem asc_insert {l:List Qz} {p:Nat} {r:Qz} (h:AscX l) (h1: ∀x∈l.take p,lessX x.name r.name) (h2: ∀x∈l.drop p,lessX r.name x.name):AscX (l.take p++r :: l.drop p):=by
 have h3:AscX (l.take p++l.drop p):=by rw [List.take_append_drop];exact h
 unfold AscX at h3⊢
 rw [List.pairwise_append] at h3⊢
 refine ⟨h3.1,List.pairwise_cons.2 ⟨h2,h3.2.1⟩,fun x hx y hy=> ?_⟩
 rcases List.mem_cons.1 hy with rfl | hy
 ·exact h1 x hx
 ·exact h3.2.2 x hx y hy
section
variable {G : Ghost} {Kj : List Qq} {wz w w' : World} {bb : Nat} {a : Option Addr} {cap : Nat} {rd : Option Addr} {rn rc : Nat} {mb mx : Nat} {ts : List Zx} {d : Option Addr} {dc : Nat} {f : ByteArray -> Value} {ws : ByteArray -> List Nat}
theorem BM.insert (h:BM G Kj wz w bb a cap rd rn rc mb mx ts d dc f ws) {w8:World} {n:ByteArray} {new:Zx} (k:K_ w w8) (hT:TaskAt wz.heap.size w8 new) (hnm:new.r.name=n) (hact:Q_ Kj n=some ⟨new.cost,new.steps⟩) (hst:Steps wz new.sa new.steps) (hno: ∀t∈ts,t.r.name≠n) (hnb:w.heap.size<=new.tb) (hown:new.own=[]) (hqs:new.qs=[]) {a8:Option Addr} {cap8 base m q:Nat} (hbase:w.heap.size<=base) (hm:m=ts.length+1) (hO:w8.ownsRow base 145 1 (.slice a8 m cap8) m ((ts.map Zx.ptr).take q++ .pointer (some ⟨new.tb,0,none⟩) :: (ts.map Zx.ptr).drop q)) (hq:Place (namesN ts) n.toList q):
  BM G Kj wz ((w8.setCell ⟨bb,3,none⟩ (.slice a8 m cap8)).setCell ⟨bb,4,none⟩ (.func (.func 63) #[] #[])) bb a cap rd rn rc mb mx (ts.take q++new :: ts.drop q) a8 cap8 f ws:=by
 have h8:=h.kept k
 have zb:=h.row.lt
 have kb:But (fun b=> b=bb) w8 ((w8.setCell ⟨bb,3,none⟩ (.slice a8 m cap8)).setCell ⟨bb,4,none⟩ (.func (.func 63) #[] #[])):=But.set (S:=fun b=> b=bb) (But.set (S:=fun b=> b=bb) (But.of_kept (K_.refl w8)) (p:= ⟨bb,3,none⟩) rfl _) (p:= ⟨bb,4,none⟩) rfl _
 have hlen: (ts.take q++new :: ts.drop q).length=m:=by have:=hq.le;rw [namesN_len] at this;simp [List.length_take,List.length_drop];omega
 have hmem: ∀u,u∈ts.take q++new :: ts.drop q↔u=new∨u∈ts:=fun u=> by
  rw [List.mem_append,List.mem_cons]
  constructor
  ·rintro (h | h | h)
   ·exact .inr (List.mem_of_mem_take h)
   ·exact .inl h
   ·exact .inr (List.mem_of_mem_drop h)
  ·rintro (h | h)
   ·exact .inr (.inl h)
   ·rw [<-List.take_append_drop q ts] at h
    rcases List.mem_append.1 h with h | h
    ·exact .inl h
    ·exact .inr (.inr h)
 have nb: ∀{b:Nat} {t:TypeId},TypeAt w8 b t->t≠128->¬b=bb:=fun hu hn e=> type_ne hu h8.row.type hn e
 obtain ⟨N,D,hN,hM,hf⟩:=h8.map
 have nm: ¬mb=bb:=fun e=> map_ne hM h8.row.type e.symm
 have task: ∀u∈ts.take q++new :: ts.drop q,TaskAt wz.heap.size ((w8.setCell ⟨bb,3,none⟩ (.slice a8 m cap8)).setCell ⟨bb,4,none⟩ (.func (.func 63) #[] #[])) u:=fun u hu=> by
  rcases (hmem u).1 hu with rfl | hu
  ·exact hT.but kb (nb hT.row.type (by decide)) (fun x hx=> nb (hT.own_type hx).1 (by decide))
  ·have ht:=h8.task u hu
   exact ht.but kb (nb ht.row.type (by decide)) (fun x hx=> nb (ht.own_type hx).1 (by decide))
 have hfen:Fen G ((w8.setCell ⟨bb,3,none⟩ (.slice a8 m cap8)).setCell ⟨bb,4,none⟩ (.func (.func 63) #[] #[])) bb mb (ts.take q++new :: ts.drop q) f:=by
  have h0:=h8.oth.but kb (fun b e=> by rw [e];exact h.oth.nb)
  refine ⟨h0.size,h0.lt,h0.same,h0.nb,h0.nm,fun u hu=> ?_,h0.nf,fun p hp=> by obtain ⟨u,hu,g⟩:=h.oth.has p hp;exact ⟨u,(hmem u).2 (.inr hu),g⟩⟩
  rcases (hmem u).1 hu with rfl | hu
  ·exact ⟨h.oth.far hnb,fun x hx=> by rw [hown] at hx;cases hx⟩
  ·exact h.oth.nt u hu
 refine ⟨kb.kept h8.kw (fun b e=> by rw [e];exact h.low),(h8.row.set _).set _, ?_, ?_, ?_, ?_,set_hit (h8.row.set _).row (by omega) _, ?_,h.low, ?_,task, ?_, ?_, ?_, ?_, ?_,⟨N,D,hN,map_but hM kb nm,hf⟩,h.mlow,fun s=> kb.owns (h8.wrow s) (fun b e=> nb (Yz (h8.wrow s) e) (by decide)),h.wsep,fun s x hx e=> ?_,fun u hu=> by rcases (hmem u).1 hu with rfl | hu;rw [hqs];exact Nat.zero_le _;exact h.qb u hu,hfen,fun x hx hik=> h.oth.far (Nat.le_trans hbase (hO.lt x (by rw [hlen] at hx;exact hx)).1) hik.2⟩
 ·rw [Xx (by omega),Xx (by omega)];exact h8.c0
 ·rw [Xx (by omega),Xx (by omega)];exact h8.c1
 ·rw [Xx (by omega),Xx (by omega)];exact h8.c2
 ·rw [Xx (by omega),hlen];exact set_hit h8.row.row (by omega) _
 ·rw [Xx (by omega),Xx (by omega)];exact h8.c5
 ·rw [hlen]
  have e: (ts.take q++new :: ts.drop q).map Zx.ptr= (ts.map Zx.ptr).take q++ .pointer (some ⟨new.tb,0,none⟩) :: (ts.map Zx.ptr).drop q:=by simp [List.map_take,List.map_drop,Zx.ptr]
  rw [e]
  exact kb.owns (owns_base hO (Nat.le_trans h.kw.size hbase)) (fun b e=> nb (Yz hO e) (by decide))
 ·intro u hu
  rcases (hmem u).1 hu with rfl | hu
  ·rw [hnm];exact ⟨hact,hst⟩
  ·exact h.act u hu
 ·have e:Qk (ts.take q++new :: ts.drop q)= (Qk ts).take q++new.r :: (Qk ts).drop q:=by simp [Qk,List.map_take,List.map_drop]
  rw [e]
  refine asc_insert h.asc (fun x hx=> ?_) (fun x hx=> ?_)
  ·obtain ⟨j,hj,rfl⟩:=List.getElem_of_mem hx
   rw [List.length_take] at hj
   rw [List.getElem_take]
   have hjt:j < ts.length:=by simp [Qk] at hj;omega
   have:=hq.before j (by omega)
   unfold nameAt at this
   rw [namesN_at hjt] at this
   rw [hnm]
   simpa [Qk,lessX] using this
  ·obtain ⟨j,hj,rfl⟩:=List.getElem_of_mem hx
   rw [List.length_drop] at hj
   rw [List.getElem_drop]
   have hjt:q+j < ts.length:=by simp [Qk] at hj;omega
   have:=hq.behind (q+j) (by omega) (by rw [namesN_len];exact hjt)
   unfold nameAt at this
   rw [namesN_at hjt] at this
   rw [hnm]
   have e2: (Qk ts)[q+j]=ts[q+j].r:=by simp [Qk]
   rw [e2]
   rcases lessX_total n ts[q+j].r.name with g | g | g
   ·exact g
   ·exact absurd g.symm (hno _ (List.getElem_mem hjt))
   ·unfold lessX at g;rw [this] at g;cases g
 ·have e: (ts.take q++new :: ts.drop q).map (·.tb)= (ts.map (·.tb)).take q++new.tb :: (ts.map (·.tb)).drop q:=by simp [List.map_take,List.map_drop]
  rw [e]
  have hlt: ∀x∈ts.map (·.tb),x < new.tb:=fun x hx=> by
   obtain ⟨t,ht,rfl⟩:=List.mem_map.1 hx
   have:= (h.task t ht).row.lt
   omega
  have h3: ((ts.map (·.tb)).take q++ (ts.map (·.tb)).drop q).Nodup:=by rw [List.take_append_drop];exact h.tbs
  rw [List.nodup_append] at h3⊢
  refine ⟨h3.1,List.nodup_cons.2 ⟨fun hx=> ?_,h3.2.1⟩,fun x hx y hy=> ?_⟩
  ·have:=hlt _ (List.mem_of_mem_drop hx);omega
  ·rcases List.mem_cons.1 hy with rfl | hy
   ·have:=hlt _ (List.mem_of_mem_take hx);omega
   ·exact h3.2.2 x hx y hy
 ·have h3: (ts.take q++ts.drop q).Pairwise fun t u=> ∀x∈t.own,x∉u.own:=by rw [List.take_append_drop];exact h.sep
  rw [List.pairwise_append] at h3⊢
  refine ⟨h3.1,List.pairwise_cons.2 ⟨fun u _ x hx=> (by rw [hown] at hx;cases hx),h3.2.1⟩,fun t ht u hu x hx=> ?_⟩
  rcases List.mem_cons.1 hu with rfl | hu
  ·rw [hown];simp
  ·exact h3.2.2 t ht u hu x hx
 ·intro u hu
  rcases (hmem u).1 hu with rfl | hu
  ·rw [hown];exact List.nodup_nil
  ·exact h.sep2 u hu
 ·have h1:= ((h.wrow s).lt x hx).2
  rw [hlen] at e
  have h2:= (hO.lt x e).1
  omega
theorem benchWant_b (hB:BM G Kj wz w bb a cap rd rn rc mb mx ts d dc f ws) (n:ByteArray) (hl:ts.length<=90) (hwl:Kj.length<=1048576) (hwr:Rises Kj) (hN:Nodes wz a Kj):
  Calls Tryz.prog 64 #[.pointer (some ⟨bb,0,none⟩),.string n] w fun e w'=> e= .returned (.tuple #[])∧∃ts' d' dc',BM G Kj wz w' bb a cap rd rn rc mb mx ts' d' dc' f ws∧WantR Kj ts n ts':=by
 have b0:=hB.c0
 have b1:=hB.c1
 have zk:=hB.row.lt
 have HB:=Kz hB
 clear hB
 go_enter Tryz.func64,Tryz.ntmps64
 go_wp2_with fail
 refine (find_any _ a cap Kj n hwl hwr (hN.kept HB.out.kw)).mono ?_
 rintro e w1 ⟨⟨p,fd,rfl,hp,hf⟩,k1⟩
 have HP:=Kz hp
 have HF:=Kz hf
 have zk1:= (HB.out.kept k1).row.lt
 clear hp hf b0 b1
 cases fd
 ·go_wp2_with fail
  refine bodyPost_ret (results_none rfl _ _ _) rfl ?_
  refine ⟨rfl,ts,d,dc,HB.out.kept k1,.inl ⟨rfl,.inl (acts_none fun j hj e=> ?_)⟩⟩
  have hna:nameAt Kj j=n.toList:=by unfold nameAt;rw [e]
  have e2:=Place.only hwr HP.out hj hna
  rw [e2] at hj hna
  have:=HF.out.2 ⟨hj,hna⟩
  cases this
 have hpl:= (HF.out.1 rfl).1
 have HAct:Hid (Q_ Kj n=some ⟨(Kj.getD p Qq.zero).cost,(Kj.getD p Qq.zero).steps⟩):=acts_at hpl (toList_inj.1 (HF.out.1 rfl).2) (fun j hj e=> by
  have hna:nameAt Kj j=n.toList:=by unfold nameAt;rw [e]
  have:=Place.only hwr HP.out (by omega) hna
  omega)
 go_wp2_with fail
 refine (benchTask_any (HB.out.kept k1) n (by omega)).mono ?_
 rintro e w2 ⟨⟨i,hi,hin,rfl⟩ | ⟨hno,rfl⟩,k2⟩
 ·have hpt:ts[i].ptr= .pointer (some ⟨ts[i].tb,0,none⟩):=rfl
  rw [hpt]
  clear hpt
  go_wp2_with fail
  refine bodyPost_ret (results_none rfl _ _ _) rfl ?_
  exact ⟨rfl,ts,d,dc,HB.out.kept (k1.trans k2),.inl ⟨rfl,.inr ⟨ts[i],List.getElem_mem hi,hin⟩⟩⟩
 have k12:=k1.trans k2
 have hB2:=HB.out.kept k12
 obtain ⟨b,o,cs,rfl,hb0,hcs,aa,ca,rfl,hA⟩:=hN p hpl
 obtain ⟨y,hy⟩: ∃y,y=Kj.getD p Qq.zero:= ⟨_,rfl⟩
 rw [<-hy] at hcs hA HAct
 have hb:b < w2.heap.size:=Nat.lt_of_lt_of_le hb0 hB2.kw.size
 have c1:w2.cell? ⟨b,o+p * 3+1,none⟩=some (.int .i64 y.cost):= (hB2.kw.cell hb0).trans (hcs 1 _ rfl)
 have c2:w2.cell? ⟨b,o+p * 3+2,none⟩=some (.slice aa y.steps.length ca):= (hB2.kw.cell hb0).trans (hcs 2 _ rfl)
 have m0:=hB2.c0
 have m3:=hB2.c3
 have m4:=hB2.c4
 have zb:=hB2.row.lt
 have HB2:=Kz hB2
 have HNo:=Kz hno
 have HA:=Kz hA
 have Zz:Hid (∀w',K_ w2 w'->w'.cell? ⟨bb,0,none⟩=some (.slice (some ⟨b,o,none⟩) Kj.length cap)∧w'.cell? ⟨bb,3,none⟩=some (.slice d ts.length dc)∧w'.cell? ⟨bb,4,none⟩=some (.func (.func 63) #[] #[])∧w'.cell? ⟨b,o+p * 3+1,none⟩=some (.int .i64 y.cost)∧w'.cell? ⟨b,o+p * 3+2,none⟩=some (.slice aa y.steps.length ca)):=fun w' kk=> ⟨(kk.cell zb).trans m0,(kk.cell zb).trans m3,(kk.cell zb).trans m4,(kk.cell hb).trans c1,(kk.cell hb).trans c2⟩
 have hpi: (p:Int) < (Kj.length:Int):=by omega
 clear hcs hA hy hB2 hno c1 c2 m0 m3 m4
 go_upto_region 2 with fail
 refine Qx.rg 21 Zz.out fun wd KD Z_=> ?_
 refine Qx.tk 0 Z_ ?_
 refine Qx.tk 1 Z_ ?_
 refine Qx.tk 2 Z_ ?_
 refine Qx.tk 3 Z_ ?_
 refine Qx.tk 4 Z_ ?_
 refine Qx.tk 5 Z_ ?_
 refine Qx.tk 6 Z_ ?_
 refine Qx.tk 7 Z_ ?_
 refine Qx.tk 8 Z_ ?_
 refine Qx.tk 9 Z_ ?_
 refine Qx.tk 10 Z_ ?_
 refine Qx.tk 11 Z_ ?_
 refine Qx.tk 12 Z_ ?_
 refine Qx.tk 13 Z_ ?_
 refine Qx.tk 14 Z_ ?_
 refine Qx.tk 15 Z_ ?_
 refine Qx.tk 16 Z_ ?_
 refine Qx.nx 17 (fun K hK=> ?_)
 go_simp
 have K3:K_ wd (wd.alloc (.cells #[.string n,.bool false,.bool false,.string ⟨#[]⟩,.int .i64 0,.int .i64 0,.slice none 0 0,.int .i64 y.cost,.slice aa y.steps.length ca,.int .i64 0,.slice none 0 0,.string ⟨#[]⟩] 153)):= (K_.refl _).alloc _
 have hRw:RowT (wd.alloc (.cells #[.string n,.bool false,.bool false,.string ⟨#[]⟩,.int .i64 0,.int .i64 0,.slice none 0 0,.int .i64 y.cost,.slice aa y.steps.length ca,.int .i64 0,.slice none 0 0,.string ⟨#[]⟩] 153)) wd.heap.size 153 12:=RowT.made wd _ _
 have hRg: (wd.alloc (.cells #[.string n,.bool false,.bool false,.string ⟨#[]⟩,.int .i64 0,.int .i64 0,.slice none 0 0,.int .i64 y.cost,.slice aa y.steps.length ca,.int .i64 0,.slice none 0 0,.string ⟨#[]⟩] 153)).rangeAt wd.heap.size 0 [.string n,.bool false,.bool false,.string ⟨#[]⟩,.int .i64 0,.int .i64 0,.slice none 0 0,.int .i64 y.cost,.slice aa y.steps.length ca,.int .i64 0,.slice none 0 0,.string ⟨#[]⟩]:=Xz wd _ _
 have KF:=KD.trans K3
 refine hK.out _ _ (fun _=> Zz.out _ KF) ?_
 clear hK K Z_
 have zd:=KD.size
 obtain ⟨nb,hnb⟩: ∃nb,nb=wd.heap.size:= ⟨_,rfl⟩
 have hnz:w2.heap.size<=nb:=by omega
 rw [<-hnb] at hRw hRg⊢
 generalize hwe:wd.alloc (.cells #[.string n,.bool false,.bool false,.string ⟨#[]⟩,.int .i64 0,.int .i64 0,.slice none 0 0,.int .i64 y.cost,.slice aa y.steps.length ca,.int .i64 0,.slice none 0 0,.string ⟨#[]⟩] 153)=w3 at hRw hRg KF⊢
 clear hwe K3 hnb
 have htn:w3.cell? ⟨nb,0,none⟩=some (.string n):=hRg 0 _ rfl
 have HWi:=Kz (withB_any w3 d dc (namesN ts) ⟨n,0,[]⟩ (ts.map Zx.ptr) wz.heap.size nb (by rw [namesN_len];omega) (rises_asc HB2.out.asc) (fun j hj e=> by rw [namesN_len] at hj;unfold nameAt at e;rw [namesN_at hj] at e;exact HNo.out _ (List.getElem_mem hj) (toList_inj.1 e)) (by rw [namesN_len];exact (HB2.out.kept KF).items) (HB2.out.kept KF).packed hRw.lt htn)
 rw [namesN_len] at HWi
 have HTn:Hid (TaskAt wz.heap.size w3 (Zx.fresh nb n y.cost y.steps aa ca)):= ⟨hRw,hRg,World.ownsRow_nil _ _ _ _,World.ownsRow_nil _ _ _ _,by have:=HB2.out.kw.size;show wz.heap.size<=nb;omega⟩
 clear htn hRg hRw
 try simp only [Act.put,upA,upB,upC]
 refine Qx.nx 18 (fun K hK=> ?_)
 rw [if_pos (by rfl)]
 go_simp
 go_at_call 114
 refine HWi.out.mono ?_
 rintro e w8 ⟨m,a8,cap8,base,q,hm,rfl,hbase,hO8,hq,k8⟩
 have K8:=KF.trans k8
 have hB8:=HB2.out.kept K8
 obtain ⟨⟨_,x3⟩,f3⟩:=hB8.row.row.at (i:=3) (by omega)
 obtain ⟨⟨_,x4⟩,f4⟩:=hB8.row.row.at (i:=4) (by omega)
 have zb8:=hB8.row.lt
 have HI:=Kz (HB2.out.insert (n:=n) (new:=Zx.fresh nb n y.cost y.steps aa ca) K8 (HTn.out.but (S:=fun _=> False) (But.of_kept k8) id (fun _ _=> id)) rfl HAct.out HA.out HNo.out hnz rfl rfl (by have h1:=KF.size;exact Nat.le_trans h1 hbase) (by rw [<-namesN_len ts];exact hm) hO8 hq)
 clear hO8 hB8 hq hm HWi HTn
 refine hK.out _ _ (fun _=> Zz.out _ K8) ?_
 clear hK K
 have Z_:=Zz.out _ K8
 try simp only [Act.put,upA,upB,upC]
 refine Qx.tk 19 Z_ ?_
 refine Qx.tk 20 Z_ ?_
 refine Qx.nx 21 (fun K hK=> ?_)
 go_simp
 refine hK.out _ _ (fun h=> absurd rfl h) ?_
 clear hK K
 try simp only [Act.put,upA,upB,upC]
 refine Qx.dn ?_
 go_wp2
 go_end0
 exact ⟨rfl,_,a8,cap8,HI.out,.inr ⟨q,Zx.fresh nb n y.cost y.steps aa ca,rfl,rfl,⟨rfl,rfl⟩,HNo.out,by rw [HAct.out];rfl⟩⟩
end
section
variable {P : Program} {w : World}
theorem run_append_zero (base:Nat) (t ty e:TypeId) (i:TypeInfo) (size:Nat) (ht:P.underlying t=some (.slice e)) (hi:P.info? e=some i)
  (v:Value) (n:Nat) (xs:List Value) (hown:w.ownsRow base e size v n xs) (x:Option Addr) (c:Nat):
  (Builtin.append_ #[t,t] ty #[v,.slice x 0 c]).run P w= .ok v w:=by
 rcases hown.2 with ⟨rfl,rfl⟩ | ⟨g,cap,cur,rfl,_,_,hnc,_⟩
 ·cases x <;> simp [Builtin.append_,run_underlying ht,sizeOf,typeInfo,hi,Builtin.lenOf,Builtin.firstCells,loadCells,loadCellsFrom]
 ·cases x <;> simp [Builtin.append_,run_underlying ht,sizeOf,typeInfo,hi,Builtin.lenOf,Builtin.firstCells,hnc,storeCells,loadCells,loadCellsFrom]
theorem wp_append_strs {o:Oper} {a:Act} {K:Act->World->Prop} {Q:Exit->Act->World->Prop} (s x:Operand) (t:TypeId)
  (ho:o.op= .call { callee:= .builtin .append,args:= #[s,x],argTypes:= #[t,t] })
  (base:Nat) (e:TypeId) (i:TypeInfo) (z:Value) (bytes:Nat) (ht:P.underlying t=some (.slice e)) (hi:P.info? e=some i) (hz:i.zero=some z)
  (hsize:i.size=1) (hby:i.bytes=bytes) (hzs:z.cells.size=1)
  (v:Value) (n:Nat) (xs:List Value) (hs:a.eval s=v) (hown:w.ownsRow base e 1 v n xs)
  (ad:Option Addr) (c:Nat) (l:List ByteArray) (hx:a.eval x= .slice ad l.length c) (hl:Strs w ad l)
  (h63:n+l.length<=maxLen) (hbytes: (n+l.length) * bytes<=140737488355328) (hbase:base<=w.heap.size)
  (h: ∀v' w',w'.ownsRow base e 1 v' (n+l.length) (xs++l.map Value.string)->w.grownBy w' v.ownBlock->(∀g,v'.ownBlock=some g->v.ownBlock=some g∨w.heap.size<=g)->K (a.put o.dst v') w'):o.wp P a w K Q:=by
 by_cases h0:l.length=0
 ·have hl0:=List.length_eq_zero_iff.1 h0
  rw [h0] at hx
  refine Go.Lib.wp_append_run w s x t t ho v _ hs hx v w (run_append_zero base t o.type e i 1 ht hi v n xs hown ad c) (h v w ?_ ⟨rfl,rfl,rfl,Nat.le_refl _,fun _ _ _=> rfl⟩ (fun g e=> .inl e))
  rw [hl0]
  simpa using hown
 ·obtain ⟨b,q,e1,hb,_⟩:=hl 0 (by omega)
  refine wp_append_lies w s x t ho base e i z 1 bytes ht hi hz hsize hby hzs (by decide) v n xs hs hown ⟨b,q,none⟩ l.length c (l.map Value.string) (by rw [hx,e1]) (by simp) (fun j u hu=> ?_) (fun u hu=> by obtain ⟨x,_,rfl⟩:=List.mem_map.1 hu;rfl) (by omega) h63 hbytes hbase w.heap.size rfl (fun g cap w' h1 h2 h3 h4=> h _ w' h1 h2 (fun g' e=> ?_))
  ·have hj:j < l.length:=by have:= (List.getElem?_eq_some_iff.1 hu).1;simpa using this
   obtain ⟨b',q',e2,_,hc⟩:=hl j hj
   rw [e1] at e2
   simp only [Option.some.injEq,Addr.mk.injEq,and_true] at e2
   obtain ⟨rfl,rfl⟩:=e2
   rw [Addr.add_mid,hc]
   simp [hj] at hu
   simp [List.getD,hj,hu]
  ·simp only [Value.ownBlock,Option.some.injEq] at e
   subst e
   rcases h3 with h3 | h3
   ·exact .inl h3
   ·exact .inr (Nat.le_of_eq h3.symm)
theorem wpList_append_strs {ops:Array Oper} {rest:List Oper} {o:Oper} {a:Act} {Q:Exit->Act->World->Prop} (hgd:o.guard=none) (s x:Operand) (t:TypeId)
  (ho:o.op= .call { callee:= .builtin .append,args:= #[s,x],argTypes:= #[t,t] })
  (base:Nat) (e:TypeId) (i:TypeInfo) (z:Value) (bytes:Nat) (ht:P.underlying t=some (.slice e)) (hi:P.info? e=some i) (hz:i.zero=some z)
  (hsize:i.size=1) (hby:i.bytes=bytes) (hzs:z.cells.size=1)
  (v:Value) (n:Nat) (xs:List Value) (hs:a.eval s=v) (hown:w.ownsRow base e 1 v n xs)
  (ad:Option Addr) (c:Nat) (l:List ByteArray) (hx:a.eval x= .slice ad l.length c) (hl:Strs w ad l)
  (h63:n+l.length<=maxLen) (hbytes: (n+l.length) * bytes<=140737488355328) (hbase:base<=w.heap.size)
  (h: ∀v' w',w'.ownsRow base e 1 v' (n+l.length) (xs++l.map Value.string)->w.grownBy w' v.ownBlock->(∀g,v'.ownBlock=some g->v.ownBlock=some g∨w.heap.size<=g)->wpList P ops Q rest (a.put o.dst v') w'):wpList P ops Q (o :: rest) a w:=
 wpList_plain hgd fun _ hK=> wp_append_strs s x t ho base e i z bytes ht hi hz hsize hby hzs v n xs hs hown ad c l hx hl h63 hbytes hbase fun v' w' h2 h3 h4=> hK _ _ (h v' w' h2 h3 h4)
end
section
variable {G : Ghost} {Kj : List Qq} {wz w w' : World} {bb : Nat} {a : Option Addr} {cap : Nat} {rd : Option Addr} {rn rc : Nat} {mb mx : Nat} {ts : List Zx} {d : Option Addr} {dc : Nat} {f : ByteArray -> Value} {ws : ByteArray -> List Nat}
theorem BM.asked (h:BM G Kj wz w bb a cap rd rn rc mb mx ts d dc f ws) {i:Nat} {t:Zx} (hi:ts[i]? =some t) {w1:World} {v':Value} {l:List Value} (ho:w1.ownsRow wz.heap.size 9 1 v' (t.qs.length+l.length) (t.qs++l)) (hg:w.grownBy w1 t.qv.ownBlock) (hv: ∀g,v'.ownBlock=some g->t.qv.ownBlock=some g∨w.heap.size<=g) (hl5:l.length<=5):
  BM G Kj wz (w1.setCell ⟨t.tb,10,none⟩ v') bb a cap rd rn rc mb (mx+1) (ts.set i { t with qv:=v',qs:=t.qs++l }) d dc f ws:=by
 obtain ⟨hl,rfl⟩:=List.getElem?_eq_some_iff.1 hi
 have hT:=h.task _ (List.getElem_mem hl)
 have hn:=h.sep2 _ (List.getElem_mem hl)
 have k1:But (fun b=> b=ts[i].tb∨b∈ts[i].own) w w1:=But.of_grown hg (fun b e=> .inr (List.mem_append.2 (.inr (Option.mem_toList.2 e))))
 have k:But (fun b=> b=ts[i].tb∨b∈ts[i].own) w (w1.setCell ⟨ts[i].tb,10,none⟩ v'):=But.set k1 (p:= ⟨ts[i].tb,10,none⟩) (.inl rfl) v'
 have hq: ∀b,ts[i].qv.ownBlock=some b->ts[i].tb≠b:=fun b e=> type_ne hT.row.type (Yz hT.ask e) (by decide)
 have hb1:w1.heap[ts[i].tb]? =w.heap[ts[i].tb]? :=hg.block _ hT.row.lt (fun e=> hq _ e.symm rfl)
 have hr1:RowT w1 ts[i].tb 153 12:=hT.row.block hb1
 have hc1:w1.rangeAt ts[i].tb 0 ts[i].cells:=fun j u hu=> (World.cell?_of_block (w:=w) hb1).trans (hT.rng j u hu)
 have ne1: ∀{b:Nat},TypeAt w1 b 9->b≠ts[i].tb:=fun hu=> type_ne hu hr1.type (by decide)
 have kt:But (fun b=> b=ts[i].tb) w1 (w1.setCell ⟨ts[i].tb,10,none⟩ v'):=But.set (S:=fun b=> b=ts[i].tb) (But.of_kept (K_.refl w1)) (p:= ⟨ts[i].tb,10,none⟩) rfl v'
 have txt1:w1.ownsRow wz.heap.size 9 1 ts[i].tv ts[i].r.texts.length (ts[i].r.texts.map Value.string):= (But.of_grown (S:=fun b=> ts[i].qv.ownBlock=some b) hg (fun b e=> e)).owns hT.txt (fun b e e2=> by
  have h1:b∈ts[i].tv.ownBlock.toList:=Option.mem_toList.2 e
  have h2:b∈ts[i].qv.ownBlock.toList:=Option.mem_toList.2 e2
  unfold Zx.own at hn
  exact (List.nodup_append.1 hn).2.2 b h1 b h2 rfl)
 refine (h.more (Nat.le_succ mx)).turn hl k (fun b hb=> hb) ⟨hr1.set v',range_set hc1 hr1.row (by omega) v',kt.owns txt1 (fun b e=> ne1 (Yz txt1 e)), ?_,hT.low⟩ rfl rfl rfl rfl rfl (fun x hx=> ?_) ?_ (by have:=h.qb _ (List.getElem_mem hl);show (ts[i].qs++l).length<=5 * (mx+1);rw [List.length_append];omega)
 ·have e: ({ ts[i] with qv:=v',qs:=ts[i].qs++l }:Zx).qs.length=ts[i].qs.length+l.length:=by simp
  rw [e]
  exact kt.owns ho (fun b e=> ne1 (Yz ho e))
 ·unfold Zx.own at hx⊢
  rcases List.mem_append.1 hx with hx | hx
  ·exact .inl (List.mem_append.2 (.inl hx))
  ·rcases hv x (Option.mem_toList.1 hx) with e | e
   ·exact .inl (List.mem_append.2 (.inr (Option.mem_toList.2 e)))
   ·exact .inr e
 ·unfold Zx.own at hn⊢
  rw [List.nodup_append] at hn⊢
  refine ⟨hn.1, ?_,fun x hx y hy=> ?_⟩
  ·show (v'.ownBlock.toList).Nodup
   cases v'.ownBlock <;> simp
  ·rcases hv y (Option.mem_toList.1 hy) with e | e
   ·exact hn.2.2 x hx y (Option.mem_toList.2 e)
   ·have:= (hT.txt.lt x (Option.mem_toList.1 hx)).2
    omega
end
section
variable {G : Ghost} {Kj : List Qq} {wz w w' : World} {bb : Nat} {a : Option Addr} {cap : Nat} {rd : Option Addr} {rn rc : Nat} {mb mx : Nat} {ts : List Zx} {d : Option Addr} {dc : Nat} {f : ByteArray -> Value} {ws : ByteArray -> List Nat}
theorem BM.grown_look (h:BM G Kj wz w bb a cap rd rn rc mb mx ts d dc f ws) {s:ByteArray} (hs:s.size<=maxLen) {w1:World} (hg:w.grownBy w1 (f s).ownBlock): (Instr.lookup 122 (.map (some mb)) (.string s) false).run Tryz.prog w1= .ok (f s) w1:=by
 obtain ⟨N,D,_,hM,hf⟩:=h.map
 have hM1:w1.ownsMap Tryz.prog 9 asIs mb N D:=map_but (S:=fun b=> (f s).ownBlock=some b) hM (But.of_grown hg (fun b e=> e)) (fun e=> map_ne hM (Yz (h.wrow s) e) rfl)
 obtain ⟨v,ps,hrun,hv⟩:=hM1.lookup Tryz.keyed Tryz.underlying122 (Tryz.zeroW w1) (zd:= .held (.slice none 0 0)) (zp:=[]) rfl (WideMaps.keyOf_string_mk Tryz.underlying9 hs)
 have e:=hf s hs
 unfold asIs at hv
 simp only [Option.some.injEq,Prod.mk.injEq] at hv
 have e2: (DataW.held v:DataW Value)= .held (f s):=hv.1.trans e
 cases e2
 exact hrun
theorem BM.wait (h:BM G Kj wz w bb a cap rd rn rc mb mx ts d dc f ws) {s:ByteArray} (hs:s.size<=maxLen) {tb:Nat} {w1:World} {v':Value} (ho:w1.ownsRow wz.heap.size 145 1 v' ((ws s).length+1) ((ws s).map ptrB++ [ptrB tb])) (hg:w.grownBy w1 (f s).ownBlock) (hv: ∀g,v'.ownBlock=some g->(f s).ownBlock=some g∨w.heap.size<=g) (hmx:mx<=1000000):
  ∃w2,(Instr.mapUpdate 122 (.map (some mb)) (.string s) v').run Tryz.prog w1= .ok () w2∧BM G Kj wz w2 bb a cap rd rn rc mb (mx+1) ts d dc (fun n=> if n=s then v' else f n) (fun n=> if n=s then ws s++ [tb] else ws n):=by
 obtain ⟨N,D,hNl,hM,hf⟩:=h.map
 have k1:But (fun b=> (f s).ownBlock=some b) w w1:=But.of_grown hg (fun b e=> e)
 have hM1:=map_but hM k1 (fun e=> map_ne hM (Yz (h.wrow s) e) rfl)
 obtain ⟨w2,hrun,hM2,hg2⟩:=hM1.update Tryz.keyed Tryz.underlying122 (by unfold maxLen;omega) (WideMaps.keyOf_string_mk Tryz.underlying9 hs) (d:= .held v') (ps:=[]) rfl
 refine ⟨w2,hrun, ?_⟩
 have kS:But (fun b=> (f s).ownBlock=some b∨b=mb) w w2:= (k1.mono (fun b _ e=> .inl e)).trans (But.of_grown hg2 (fun b e=> .inr (Option.some.inj e).symm))
 have k2:But (fun b=> b=mb) w1 w2:=But.of_grown hg2 (fun b e=> (Option.some.inj e).symm)
 have ne: ∀{b:Nat} {t:TypeId},TypeAt w b t->t≠145->¬((f s).ownBlock=some b∨b=mb):=fun hu hn e=> by
  rcases e with e | e
  ·exact type_ne hu (Yz (h.wrow s) e) hn rfl
  ·exact map_ne hM hu e
 have ne1: ∀{b:Nat} {t:TypeId},TypeAt w1 b t->¬b=mb:=fun hu e=> map_ne hM1 hu e
 have hb:=h.row.lt
 have nb:=ne h.row.type (by decide)
 have hmp:Maps.IsMap D:=by obtain ⟨es,clock,_,_,_,rfl⟩:=hM;exact ⟨_,rfl⟩
 have hfen:Fen G w2 bb mb ts (fun n=> if n=s then v' else f n):=by
  have h0:=h.oth.but kS (fun b e=> by
   rcases e with e | e
   ·exact h.oth.nf s b e
   ·rw [e];exact h.oth.nm)
  refine ⟨h0.size,h0.lt,h0.same,h0.nb,h0.nm,h0.nt,fun n x hx=> ?_,h0.has⟩
  by_cases e:n=s
  ·simp only [if_pos e] at hx
   rcases hv x hx with g | g
   ·exact h.oth.nf s x g
   ·exact h.oth.far g
  ·simp only [if_neg e] at hx
   exact h.oth.nf n x hx
 refine ⟨kS.kept h.kw (fun b e=> ?_),kS.row h.row nb,(kS.cell hb nb).trans h.c0,(kS.cell hb nb).trans h.c1,(kS.cell hb nb).trans h.c2,(kS.cell hb nb).trans h.c3,(kS.cell hb nb).trans h.c4,(kS.cell hb nb).trans h.c5,h.low,kS.owns h.items (fun b e e2=> ?_),fun t ht=> (h.task t ht).but kS (ne (h.task t ht).row.type (by decide)) (fun x hx=> ne ((h.task t ht).own_type hx).1 (by decide)),h.act,h.asc,h.tbs,h.sep,h.sep2,⟨N+1,_,by omega,hM2,fun n hn=> ?_⟩,h.mlow,fun n=> ?_,fun n n' hnn x hx hx'=> ?_,fun n x hx e=> ?_,fun t ht=> Nat.le_trans (h.qb t ht) (by omega),hfen,h.gi⟩
 ·rcases e with e | e
  ·exact ((h.wrow s).lt b e).1
  ·rw [e];exact h.mlow
 ·rcases e2 with e2 | e2
  ·exact h.isep s b e2 e
  ·exact map_ne hM (Yz h.items e) e2
 ·by_cases e:n=s
  ·rw [if_pos e,e]
   exact Maps.atKey_put_same (k:=keyLit s) hmp (by show WideAt.IsKeyLit (.string _);exact trivial) _ _
  ·rw [if_neg e,<-hf n hn]
   exact Maps.atKey_put_other (keyLit_ne e) _ _
 ·by_cases e:n=s
  ·simp only [if_pos e]
   have e1: (ws s++ [tb]).length= (ws s).length+1:=by simp
   have e2: (ws s++ [tb]).map ptrB= (ws s).map ptrB++ [ptrB tb]:=by simp
   rw [e1,e2]
   exact k2.owns ho (fun b e=> ne1 (Yz ho e))
  ·simp only [if_neg e]
   refine kS.owns (h.wrow n) (fun b e1 e2=> ?_)
   rcases e2 with e2 | e2
   ·exact h.wsep n s e b e1 e2
   ·exact map_ne hM (Yz (h.wrow n) e1) e2
 ·by_cases e:n=s
  ·rw [if_pos e] at hx
   rw [if_neg (fun e'=> hnn (e.trans e'.symm))] at hx'
   rcases hv x hx with g | g
   ·exact h.wsep s n' (fun e'=> hnn (e.trans e')) x g hx'
   ·have:= ((h.wrow n').lt x hx').2;omega
  ·rw [if_neg e] at hx
   by_cases e':n'=s
   ·rw [if_pos e'] at hx'
    rcases hv x hx' with g | g
    ·exact h.wsep n s e x hx g
    ·have:= ((h.wrow n).lt x hx).2;omega
   ·rw [if_neg e'] at hx'
    exact h.wsep n n' hnn x hx hx'
 ·by_cases e':n=s
  ·rw [if_pos e'] at hx
   rcases hv x hx with g | g
   ·exact h.isep s x g e
   ·have:= (h.items.lt x e).2;omega
  ·rw [if_neg e'] at hx
   exact h.isep n x hx e
end
def unans (Kj:List Qq) (ts:List Zx) (l:List ByteArray):List ByteArray:=l.filter fun a=> (ansOf (Q_ Kj) (Qj (Qk ts)) a).isNone
structure AskI (Kj:List Qq) (ts0:List Zx) (ws0:ByteArray->List Nat) (tb:Nat) (L1 L2:List ByteArray) (ts:List Zx) (ws:ByteArray->List Nat):Prop where
 env: ∀n,Qj (Qk ts) n=match Qj (Qk ts0) n with | some x=> some x | none=> if hasN L1 n=true∧(Q_ Kj n).isSome=true then some (Qz.fresh n) else none
 me: ∃t0∈ts0,∃t∈ts,t0.tb=tb∧t.tb=tb∧t.r=t0.r∧t.op=t0.op+ (unans Kj ts0 L2).length∧t.bq=t0.bq
 other: ∀t∈ts,t.tb≠tb->(∃t0∈ts0,t0.tb=t.tb∧t0.r=t.r∧t0.op=t.op∧t0.bq=t.bq)∨(t.r=Qz.fresh t.r.name∧(t.op=0∧t.bq= (⟨#[]⟩,[]))∧Qj (Qk ts0) t.r.name=none)
 old: ∀t0∈ts0,∃t∈ts,t.tb=t0.tb∧t.r=t0.r
 wt: ∀s,ws s=if hasN (unans Kj ts0 L2) s=true then ws0 s++ [tb] else ws0 s
theorem AskI.start {Kj:List Qq} {ts0:List Zx} {ws0:ByteArray->List Nat} {t:Zx} (h:t∈ts0):AskI Kj ts0 ws0 t.tb [] [] ts0 ws0:=
 ⟨fun n=> by cases Qj (Qk ts0) n <;> simp [hasN],⟨t,h,t,h,rfl,rfl,rfl,rfl,rfl⟩,fun u hu _=> .inl ⟨u,hu,rfl,rfl,rfl,rfl⟩,fun u hu=> ⟨u,hu,rfl,rfl⟩,fun s=> by simp [unans,hasN]⟩
theorem env_none_iff {ts:List Zx} {n:ByteArray}:Qj (Qk ts) n=none↔∀t∈ts,t.r.name≠n:=by
 unfold Qj
 rw [List.find?_eq_none]
 simp [Qk]
theorem AskI.want {Kj:List Qq} {ts0 ts ts':List Zx} {ws0 ws:ByteArray->List Nat} {tb:Nat} {L1 L2:List ByteArray} (h:AskI Kj ts0 ws0 tb L1 L2 ts ws) {n:ByteArray} (ha:AscX (Qk ts)) (ha':AscX (Qk ts')) (hn: (ts'.map (·.tb)).Nodup) (hw:WantR Kj ts n ts'):AskI Kj ts0 ws0 tb (L1++ [n]) L2 ts' ws:=by
 have hL: ∀m,hasN (L1++ [n]) m=true↔hasN L1 m=true∨m=n:=fun m=> by simp [hasN_iff]
 rcases hw with ⟨rfl,hw⟩ | ⟨p,new,rfl,hr,hop,hno,hsome⟩
 ·refine ⟨fun m=> ?_,h.me,h.other,h.old,h.wt⟩
  rw [h.env m]
  cases h0:Qj (Qk ts0) m with
  | some x=> rfl
  | none=>
   simp only
   by_cases e:m=n
   ·subst e
    rcases hw with hw | ⟨t,ht,e⟩
    ·rw [if_neg (by rw [hw];simp),if_neg (by rw [hw];simp)]
    ·by_cases hc:hasN L1 m=true∧(Q_ Kj m).isSome=true
     ·rw [if_pos hc,if_pos ⟨(hL m).2 (.inl hc.1),hc.2⟩]
     ·have:=h.env m
      rw [h0] at this
      simp only at this
      rw [if_neg hc] at this
      exact absurd e (env_none_iff.1 this t ht)
   ·by_cases hc:hasN L1 m=true∧(Q_ Kj m).isSome=true
    ·rw [if_pos hc,if_pos ⟨(hL m).2 (.inl hc.1),hc.2⟩]
    ·rw [if_neg hc,if_neg]
     rintro ⟨h1,h2⟩
     rcases (hL m).1 h1 with g | g
     ·exact hc ⟨g,h2⟩
     ·exact e g
 ·have hmem: ∀u,u∈ts.take p++new :: ts.drop p↔u=new∨u∈ts:=fun u=> by
   rw [List.mem_append,List.mem_cons]
   constructor
   ·rintro (h | h | h)
    ·exact .inr (List.mem_of_mem_take h)
    ·exact .inl h
    ·exact .inr (List.mem_of_mem_drop h)
   ·rintro (h | h)
    ·exact .inr (.inl h)
    ·rw [<-List.take_append_drop p ts] at h
     rcases List.mem_append.1 h with h | h
     ·exact .inl h
     ·exact .inr (.inr h)
  have hnone:Qj (Qk ts) n=none:=env_none_iff.2 hno
  have h0n:Qj (Qk ts0) n=none:=by
   have:=h.env n
   rw [hnone] at this
   cases h0:Qj (Qk ts0) n with
   | none=> rfl
   | some x=> rw [h0] at this;cases this
  have henv: ∀m,Qj (Qk (ts.take p++new :: ts.drop p)) m=if m=n then some (Qz.fresh n) else Qj (Qk ts) m:=fun m=> by
   by_cases e:m=n
   ·rw [if_pos e,e]
    have:=asc_env ha' (r:=new.r) (List.mem_map_of_mem ((hmem new).2 (.inl rfl)))
    rw [hr] at this
    exact this
   ·rw [if_neg e]
    cases h1:Qj (Qk ts) m with
    | some x=>
     obtain ⟨g1,g2⟩:=env_mem h1
     obtain ⟨u,hu,rfl⟩:=List.mem_map.1 g1
     have:=asc_env ha' (r:=u.r) (List.mem_map_of_mem ((hmem u).2 (.inr hu)))
     rw [g2] at this
     exact this
    | none=>
     rw [env_none_iff] at h1⊢
     intro u hu
     rcases (hmem u).1 hu with rfl | hu
     ·rw [hr];exact fun e2=> e e2.symm
     ·exact h1 u hu
  have htb: ∀u∈ts,u.tb≠new.tb:=fun u hu e=> by
   have e1: (ts.take p++new :: ts.drop p).map (·.tb)= (ts.take p).map (·.tb)++new.tb :: (ts.drop p).map (·.tb):=by simp
   rw [e1] at hn
   have h2:=List.nodup_append.1 hn
   rw [<-List.take_append_drop p ts] at hu
   rcases List.mem_append.1 hu with hu | hu
   ·exact h2.2.2 _ (List.mem_map_of_mem hu) _ (by simp) e
   ·exact (List.nodup_cons.1 h2.2.1).1 (by rw [<-e];exact List.mem_map_of_mem hu)
  refine ⟨fun m=> ?_, ?_,fun u hu hne=> ?_,fun t0 ht0=> ?_,h.wt⟩
  ·rw [henv m]
   by_cases e:m=n
   ·rw [if_pos e,e,h0n]
    simp only
    rw [if_pos ⟨(hL n).2 (.inr rfl),hsome⟩]
   ·rw [if_neg e,h.env m]
    cases h0:Qj (Qk ts0) m with
    | some x=> rfl
    | none=>
     simp only
     by_cases hc:hasN L1 m=true∧(Q_ Kj m).isSome=true
     ·rw [if_pos hc,if_pos ⟨(hL m).2 (.inl hc.1),hc.2⟩]
     ·rw [if_neg hc,if_neg]
      rintro ⟨h1,h2⟩
      rcases (hL m).1 h1 with g | g
      ·exact hc ⟨g,h2⟩
      ·exact e g
  ·obtain ⟨t0,h1,t,h2,h3⟩:=h.me
   exact ⟨t0,h1,t,(hmem t).2 (.inr h2),h3⟩
  ·rcases (hmem u).1 hu with rfl | hu
   ·exact .inr ⟨by rw [hr];rfl,hop,by rw [hr];exact h0n⟩
   ·exact h.other u hu hne
  ·obtain ⟨t,h1,h2⟩:=h.old t0 ht0
   exact ⟨t,(hmem t).2 (.inr h1),h2⟩
theorem AskI.ans {Kj:List Qq} {ts0 ts:List Zx} {ws0 ws:ByteArray->List Nat} {tb:Nat} {L1 L2:List ByteArray} (h:AskI Kj ts0 ws0 tb L1 L2 ts ws) (n:ByteArray):ansOf (Q_ Kj) (Qj (Qk ts)) n=ansOf (Q_ Kj) (Qj (Qk ts0)) n:=by
 unfold ansOf
 cases hA:Q_ Kj n with
 | none=> rfl
 | some A=>
  simp only
  rw [h.env n]
  cases h0:Qj (Qk ts0) n with
  | some x=> rfl
  | none=>
   simp only
   split
   ·rename_i r hr
    split at hr
    ·cases hr;rfl
    ·cases hr
   ·rfl
theorem AskI.skip {Kj:List Qq} {ts0 ts:List Zx} {ws0 ws:ByteArray->List Nat} {tb:Nat} {L1 L2:List ByteArray} (h:AskI Kj ts0 ws0 tb L1 L2 ts ws) {n:ByteArray} (hn: (ansOf (Q_ Kj) (Qj (Qk ts0)) n).isSome=true):AskI Kj ts0 ws0 tb L1 (L2++ [n]) ts ws:=by
 have e:unans Kj ts0 (L2++ [n])=unans Kj ts0 L2:=by
  unfold unans
  rw [List.filter_append]
  cases ha:ansOf (Q_ Kj) (Qj (Qk ts0)) n with
  | none=> rw [ha] at hn;cases hn
  | some x=> simp [ha]
 exact ⟨h.env,by rw [e];exact h.me,h.other,h.old,by rw [e];exact h.wt⟩
theorem AskI.wait {Kj:List Qq} {ts0 ts:List Zx} {ws0 ws:ByteArray->List Nat} {tb:Nat} {L1 L2:List ByteArray} (h:AskI Kj ts0 ws0 tb L1 L2 ts ws) {n:ByteArray} (hn:ansOf (Q_ Kj) (Qj (Qk ts0)) n=none) (hni:n∉L2) {i:Nat} {t t':Zx} (hi:ts[i]? =some t) (ht:t.tb=tb) (hnd: (ts.map (·.tb)).Nodup) (e1:t'.tb=tb) (e2:t'.r=t.r) (e3:t'.op=t.op+1) (e0:t'.bq=t.bq):AskI Kj ts0 ws0 tb L1 (L2++ [n]) (ts.set i t') (fun m=> if m=n then ws n++ [tb] else ws m):=by
 obtain ⟨hl,rfl⟩:=List.getElem?_eq_some_iff.1 hi
 have e:unans Kj ts0 (L2++ [n])=unans Kj ts0 L2++ [n]:=by
  unfold unans
  rw [List.filter_append]
  simp [hn]
 have hni2:n∉unans Kj ts0 L2:=fun h=> hni (List.mem_filter.1 h).1
 have hru:Qk (ts.set i t')=Qk ts:=by
  rw [runs_set hl,e2]
  have e0:ts[i].r= (Qk ts)[i]'(by simpa [Qk] using hl):=by simp [Qk]
  rw [e0,List.set_getElem_self]
 have mem: ∀u∈ts.set i t',u=t'∨(u∈ts∧u.tb≠tb):=fun u hu=> by
  obtain ⟨j,hj,rfl⟩:=List.getElem_of_mem hu
  rw [List.length_set] at hj
  rw [List.getElem_set]
  split
  ·exact .inl rfl
  ·rename_i hne
   refine .inr ⟨List.getElem_mem hj,fun e=> ?_⟩
   have hnd2:=List.pairwise_iff_getElem.1 hnd
   rcases Nat.lt_or_gt_of_ne hne with g | g
   ·have:=hnd2 i j (by simpa using hl) (by simpa using hj) g
    simp at this
    exact this (ht.trans e.symm)
   ·have:=hnd2 j i (by simpa using hj) (by simpa using hl) g
    simp at this
    exact this (e.trans ht.symm)
 have one: ∀u∈ts,u.tb=tb->u=ts[i]:=fun u hu e=> by
  obtain ⟨j,hj,rfl⟩:=List.getElem_of_mem hu
  by_cases hij:i=j
  ·subst hij;rfl
  ·have hnd2:=List.pairwise_iff_getElem.1 hnd
   rcases Nat.lt_or_gt_of_ne hij with g | g
   ·have:=hnd2 i j (by simpa using hl) (by simpa using hj) g
    simp at this
    exact absurd (ht.trans e.symm) this
   ·have:=hnd2 j i (by simpa using hj) (by simpa using hl) g
    simp at this
    exact absurd (e.trans ht.symm) this
 have hin:t'∈ts.set i t':=List.mem_iff_getElem.2 ⟨i,by rw [List.length_set];exact hl,by simp⟩
 have keep: ∀u∈ts,u.tb≠tb->u∈ts.set i t':=fun u hu hne=> by
  obtain ⟨j,hj,rfl⟩:=List.getElem_of_mem hu
  refine List.mem_iff_getElem.2 ⟨j,by rw [List.length_set];exact hj, ?_⟩
  rw [List.getElem_set,if_neg (fun e=> hne (by subst e;exact ht))]
 refine ⟨by rw [hru];exact h.env, ?_,fun u hu hne=> ?_,fun t0 ht0=> ?_,fun s=> ?_⟩
 ·obtain ⟨t0,h1,t,h2,h3,h4,h5,h6,h7⟩:=h.me
  have:=one t h2 h4
  subst this
  exact ⟨t0,h1,t',hin,h3,e1,by rw [e2,h5],by rw [e3,h6,e];simp;omega,e0.trans h7⟩
 ·rcases mem u hu with rfl | ⟨hu,_⟩
  ·exact absurd e1 hne
  ·exact h.other u hu hne
 ·obtain ⟨t,h1,h2,h3⟩:=h.old t0 ht0
  by_cases e4:t.tb=tb
  ·have:=one t h1 e4
   subst this
   exact ⟨t',hin,by rw [e1,<-e4,h2],by rw [e2,h3]⟩
  ·exact ⟨t,keep t h1 e4,h2,h3⟩
 ·rw [e]
  by_cases e4:s=n
  ·subst e4
   rw [if_pos rfl,if_pos (hasN_iff.2 (by simp)),h.wt s,if_neg (fun g=> hni2 (hasN_iff.1 g))]
  ·rw [if_neg e4,h.wt s]
   by_cases h5:hasN (unans Kj ts0 L2) s=true
   ·rw [if_pos h5,if_pos (hasN_iff.2 (List.mem_append.2 (.inl (hasN_iff.1 h5))))]
   ·rw [if_neg h5,if_neg (fun g=> by
     rcases List.mem_append.1 (hasN_iff.1 g) with g | g
     ·exact h5 (hasN_iff.2 g)
     ·exact e4 (List.mem_singleton.1 g))]
section
variable {G : Ghost} {Kj : List Qq} {wz w w' : World} {bb : Nat} {a : Option Addr} {cap : Nat} {rd : Option Addr} {rn rc : Nat} {mb mx : Nat} {ts : List Zx} {d : Option Addr} {dc : Nat} {f : ByteArray -> Value} {ws : ByteArray -> List Nat}
theorem BM.len (h:BM G Kj wz w bb a cap rd rn rc mb mx ts d dc f ws) (hw:Kj.length<=60):ts.length<=60:=by
 have h1:=List.Nodup.length_le_of_subset (asc_nodup h.asc) (l₂:=Kj.map (·.name)) (fun n hn=> by
  obtain ⟨r,hr,rfl⟩:=List.mem_map.1 hn
  obtain ⟨t,ht,rfl⟩:=List.mem_map.1 hr
  exact acts_in (by rw [(h.act t ht).1];rfl))
 simp [Qk] at h1
 omega
def AskEnd (G:Ghost) (Kj:List Qq) (wz:World) (bb:Nat) (a:Option Addr) (cap:Nat) (rd:Option Addr) (rn rc mb mx:Nat) (ts0:List Zx) (ws0:ByteArray->List Nat) (i:Nat) (t:Zx) (asks:List ByteArray) (w':World):Prop:=
 ∃(ts0' ts:List Zx) (d:Option Addr) (dc:Nat) (f:ByteArray->Value) (ws:ByteArray->List Nat),(ts0'.map fun t=> (t.tb,t.r,t.op,t.bq))= ((ts0.set i { t with qs:=t.qs++asks.map Value.string }).map fun t=> (t.tb,t.r,t.op,t.bq))∧BM G Kj wz w' bb a cap rd rn rc mb (mx+6) ts d dc f ws∧AskI Kj ts0' ws0 t.tb asks asks ts ws
theorem benchAsk_any (hB:BM G Kj wz w bb a cap rd rn rc mb mx ts d dc f ws) {i:Nat} {t:Zx} (hi:ts[i]? =some t) (aa:Option Addr) (ca:Nat) (asks:List ByteArray) (hal:asks.length<=5) (hsz: ∀x∈asks,x.size<=20) (hnd:asks.Nodup) (hA:Strs wz aa asks) (hmx:mx<=100000) (hwl:Kj.length<=60) (hwr:Rises Kj) (hN:Nodes wz a Kj) (_hww: ∀s b,b∈ws s->∃t∈ts,t.tb=b) (hwn: ∀s,(ws s).length<=1000) (hop0:t.op<=1000):
  Calls Tryz.prog 181 #[.pointer (some ⟨bb,0,none⟩),.pointer (some ⟨t.tb,0,none⟩),.slice aa asks.length ca] w fun e w'=> e= .returned (.tuple #[])∧AskEnd G Kj wz bb a cap rd rn rc mb mx ts ws i t asks w':=by
 obtain ⟨is,hst0,hst1,hst2,hst3⟩:=xInfo_parts Tryz.xInfoStr
 obtain ⟨ip,hp0,hp1,hp2,hp3⟩:=xInfo_parts Tryz.infoPtrB
 have hT:=hB.at hi
 have q10:w.cell? ⟨t.tb,10,none⟩=some t.qv:=hT.rng 10 _ rfl
 have tz:=hT.row.lt
 have hqb:=hB.qb t (List.mem_of_getElem? hi)
 have hzw:=hB.kw.size
 have HB:=Kz hB
 have HI:=Kz hi
 have HT:=Kz hT
 clear hB hi hT
 go_enter Tryz.func181,Tryz.ntmps181
 go_wp2_with (at_builtin;refine wpList_append_strs rfl (.tmp 14) (.tmp 15) 25 rfl wz.heap.size 9 is _ 16 Tryz.underlying25 hst0 hst1 hst2 hst3 rfl t.qv t.qs.length t.qs rfl HT.out.ask aa ca asks rfl (hA.kept HB.out.kw) (by unfold maxLen;omega) (by omega) hzw ?_;intro v1 w1 ho1 hg1 hv1;obtain ⟨av1,cv1,rfl⟩:=own_slice ho1;have hb1:w1.heap[t.tb]? =w.heap[t.tb]? :=hg1.block _ tz (fun e=> type_ne HT.out.row.type (Yz HT.out.ask e.symm) (by decide) rfl);have hr1:=HT.out.row.block hb1;obtain ⟨⟨_,x10⟩,f10⟩:=hr1.row.at (i:=10) (by omega);have tz1:=hr1.lt;have HB1:=Kz (HB.out.asked HI.out (l:=asks.map Value.string) (by rw [List.length_map];exact ho1) hg1 hv1 (by simpa using hal));clear ho1 hg1 hv1 hb1 hr1)
 obtain ⟨n0,hn0⟩: ∃n0,n0=asks.length:= ⟨_,rfl⟩
 obtain ⟨ts1,hts1⟩: ∃ts1,ts1=ts.set i { t with qv:= .slice av1 (t.qs.length+asks.length) cv1,qs:=t.qs++asks.map Value.string }:= ⟨_,rfl⟩
 rw [<-hts1] at HB1
 have HMp:Hid ((ts1.map fun t=> (t.tb,t.r,t.op,t.bq))= ((ts.set i { t with qs:=t.qs++asks.map Value.string }).map fun t=> (t.tb,t.r,t.op,t.bq))):=by
  show _=_
  rw [hts1,List.map_set,List.map_set]
  rfl
 have HNd:Hid (ts1.map (·.tb)).Nodup:=HB1.out.tbs
 have HT1:Hid (∃u∈ts1,u.tb=t.tb∧u.op=t.op):=by
  obtain ⟨hl,rfl⟩:=List.getElem?_eq_some_iff.1 HI.out
  exact ⟨{ ts[i] with qv:= .slice av1 (ts[i].qs.length+asks.length) cv1,qs:=ts[i].qs++asks.map Value.string },by rw [hts1];exact List.mem_iff_getElem.2 ⟨i,by rw [List.length_set];exact hl,by rw [List.getElem_set_self]⟩,rfl,rfl⟩
 obtain ⟨W1,hW1⟩: ∃W1,W1=w1.setCell ⟨t.tb,10,none⟩ (.slice av1 (t.qs.length+asks.length) cv1):= ⟨_,rfl⟩
 rw [<-hW1] at HB1⊢
 obtain ⟨tb,htb⟩: ∃tb,tb=t.tb:= ⟨_,rfl⟩
 rw [<-htb] at HT1⊢
 have HTB:=Kz htb
 have hop:t.op<=1000:=hop0
 obtain ⟨op0,hop1⟩: ∃op0,op0=t.op:= ⟨_,rfl⟩
 rw [<-hop1] at HT1 hop
 have Hn0:=Kz hn0
 rw [<-hn0]
 have hn5:n0<=5:=by omega
 clear hW1 hts1 htb x10 f10 tz1 q10 tz HT HI HB hqb hzw hop1 hn0
 go_wp2
 go_loopw [21] (fun x wr=> ∃(k:Nat) (ts2:List Zx) (d2:Option Addr) (dc2:Nat) (f2:ByteArray->Value) (ws2:ByteArray->List Nat),k<=n0∧x= .int .i64 k∧BM G Kj wz wr bb a cap rd rn rc mb (mx+1+k) ts2 d2 dc2 f2 ws2∧AskI Kj ts1 ws tb (asks.take k) (asks.take k) ts2 ws2) (fun x _=> n0 - (intOf x).toNat)
 case atStart=>
  obtain ⟨u,hu,e1,_⟩:=HT1.out
  exact ⟨0,ts1,d,dc,f,ws,Nat.zero_le _,rfl,HB1.out,by rw [<-e1];exact AskI.start hu⟩
 case round=>
  clear HB1
  obtain ⟨k,ts2,d2,dc2,f2,ws2,hk,rfl,hB2,hI2⟩:=hrel
  by_cases hlt:k < n0
  rotate_left
  ·obtain rfl:k=n0:=by omega
   have htk:asks.take k=asks:=by rw [Hn0.out];exact List.take_length
   rw [htk] at hI2
   go_wp2
   go_end0
   exact ⟨rfl,ts1,ts2,d2,dc2,f2,ws2,HMp.out,hB2.more (by omega),by rw [<-HTB.out];exact hI2⟩
  obtain ⟨n,hn⟩: ∃n,asks[k]? =some n:= ⟨_,List.getElem?_eq_getElem (by have:=Hn0.out;omega)⟩
  have hmem:n∈asks:=List.mem_of_getElem? hn
  have hnsz:=hsz n hmem
  have htk:asks.take (k+1)=asks.take k++ [n]:=by
   obtain ⟨h1,h2⟩:=List.getElem?_eq_some_iff.1 hn
   rw [List.take_succ_eq_append_getElem h1,h2]
  have hni:n∉asks.take k:=fun h=> by
   obtain ⟨h1,h2⟩:=List.getElem?_eq_some_iff.1 hn
   obtain ⟨q,hq,e⟩:=List.getElem_of_mem h
   rw [List.length_take] at hq
   rw [List.getElem_take] at e
   exact List.pairwise_iff_getElem.1 hnd q k (by omega) h1 (by omega) (e.trans h2.symm)
  obtain ⟨b,o,rfl,hb0,hc0⟩:=hA k (by have:=Hn0.out;omega)
  have c0:wr.cell? ⟨b,o+k,none⟩=some (.string n):=by
   rw [hB2.kw.cell hb0,hc0]
   simp [List.getD,hn]
  have hl2:=hB2.len hwl
  have i0: (k:Int) < (n0:Int):=by omega
  have HTk:=Kz htk
  have HNi:=Kz hni
  have HB2:=Kz hB2
  have HI2:=Kz hI2
  clear hn htk hni hc0 hB2 hI2
  go_wp2_with fail
  refine (benchWant_b HB2.out n (by omega) (by omega) hwr hN).mono ?_
  rintro e w3 ⟨rfl,ts3,d3,dc3,hB3,hw3⟩
  have hl3:=hB3.len hwl
  have HI3:=Kz (HI2.out.want HB2.out.asc hB3.asc hB3.tbs hw3)
  have HAn:Hid ((∃t∈ts3,t.r.name=n)∨Q_ Kj n=none):=by
   rcases hw3 with ⟨rfl,h | h⟩ | ⟨p,new,rfl,hr,_⟩
   ·exact .inr h
   ·exact .inl h
   ·exact .inl ⟨new,List.mem_append.2 (.inr (by simp)),by rw [hr];rfl⟩
  have HB3:=Kz hB3
  clear hB3 hw3 c0
  go_wp2_with fail
  refine (benchAnswer_any HB3.out n (by omega) (by omega) HAn.out).mono ?_
  rintro e w4 ⟨⟨fa,tx,ok,rfl,hans⟩,k4⟩
  rw [HI3.out.ans n] at hans
  have HAns:=Kz hans
  have HB4:=Kz (HB3.out.kept k4)
  clear hans
  cases ok
  rotate_left
  ·go_wp2
   go_roundw
   case rel=> exact ⟨k+1,ts3,d3,dc3,f2,ws2,by omega,by go_num,(HB4.out.more (by omega)).kept ((K_.refl _).alloc _),by rw [HTk.out];exact HI3.out.skip (by rw [HAns.out];rfl)⟩
   case measure=> simp [intOf];omega
  obtain ⟨va,vc,hf⟩:=own_slice (HB4.out.wrow n)
  obtain ⟨j,t4,hj4,htb4,hop4⟩: ∃(j:Nat) (t4:Zx),ts3[j]? =some t4∧t4.tb=tb∧t4.op<=2000:=by
   obtain ⟨t0,h0,t4,h4,e1,e2,e3,e4⟩:=HI3.out.me
   obtain ⟨j,hj,rfl⟩:=List.getElem_of_mem h4
   refine ⟨j,ts3[j],List.getElem?_eq_getElem hj,e2, ?_⟩
   obtain ⟨u,hu,g1,g2⟩:=HT1.out
   have hun: (unans Kj ts1 (asks.take k)).length<=5:=Nat.le_trans (List.length_filter_le _ _) (by rw [List.length_take];omega)
   have h01:t0.op=op0:=by
    rw [<-g2]
    have hnd1:=HNd.out
    obtain ⟨p1,hp1',rfl⟩:=List.getElem_of_mem h0
    obtain ⟨p2,hp2',rfl⟩:=List.getElem_of_mem hu
    have:p1=p2:=by
     rcases Nat.lt_trichotomy p1 p2 with g | g | g
     ·have:=List.pairwise_iff_getElem.1 hnd1 p1 p2 (by simpa using hp1') (by simpa using hp2') g
      simp at this
      exact absurd (e1.trans g1.symm) this
     ·exact g
     ·have:=List.pairwise_iff_getElem.1 hnd1 p2 p1 (by simpa using hp2') (by simpa using hp1') g
      simp at this
      exact absurd (g1.trans e1.symm) this
    subst this
    rfl
   omega
  have hwn2: (ws2 n).length<=1001:=by
   rw [HI3.out.wt n]
   have:=hwn n
   split
   ·rw [List.length_append];simp;omega
   ·omega
  have Hf:=Kz hf
  have HJ4:=Kz hj4
  have HTb:=Kz htb4
  clear hf hj4 htb4
  obtain ⟨W4,hW4⟩: ∃W4,W4=w4.alloc (.cells #[.bool fa,.string tx] 112):= ⟨_,rfl⟩
  have HB5:Hid (BM G Kj wz W4 bb a cap rd rn rc mb (mx+1+k) ts3 d3 dc3 f2 ws2):=by rw [hW4];exact HB4.out.kept ((K_.refl _).alloc _)
  have Zz:Hid (∀w',K_ W4 w'->w'.cell? ⟨bb,5,none⟩=some (.map (some mb))∧(Instr.lookup 122 (.map (some mb)) (.string n) false).run Tryz.prog w'= .ok (.slice va (ws2 n).length vc) w'):=fun w' K=> ⟨(HB5.out.kept K).c5,by rw [<-Hf.out];exact (HB5.out.kept K).look (by unfold maxLen;omega)⟩
  go_upto_region 7 with fail
  rw [<-hW4]
  clear hW4 k4
  refine Qx.rg 14 Zz.out fun wd KD Z_=> ?_
  refine Qx.tk 0 Z_ ?_
  refine Qx.tk 1 Z_ ?_
  refine Qx.tk 2 Z_ ?_
  refine Qx.tk 3 Z_ ?_
  refine Qx.tk 4 Z_ ?_
  refine Qx.tk 5 Z_ ?_
  refine Qx.tk 6 Z_ ?_
  refine Qx.tk 7 Z_ ?_
  refine Qx.tk 8 Z_ ?_
  refine Qx.tk 9 Z_ ?_
  refine Qx.tk 10 Z_ ?_
  refine Qx.tk 11 Z_ ?_
  refine Qx.nx 12 (fun K hK=> ?_)
  go_simp
  have K5:K_ wd (wd.alloc (.cells #[.pointer (some ⟨tb,0,none⟩)] 145)):= (K_.refl _).alloc _
  have hc5: (wd.alloc (.cells #[.pointer (some ⟨tb,0,none⟩)] 145)).cell? ⟨wd.heap.size,0,none⟩=some (.pointer (some ⟨tb,0,none⟩)):=Xz wd #[.pointer (some ⟨tb,0,none⟩)] 145 0 _ rfl
  have K5b:=KD.trans K5
  refine hK.out _ _ (fun _=> Zz.out _ K5b) ?_
  clear hK K Z_
  have HB6:=Kz (HB5.out.kept K5b)
  obtain ⟨eb,heb⟩: ∃eb,eb=wd.heap.size:= ⟨_,rfl⟩
  rw [<-heb] at hc5⊢
  generalize hwe:wd.alloc (.cells #[.pointer (some ⟨tb,0,none⟩)] 145)=w6 at hc5 K5b HB6⊢
  clear hwe K5 heb
  have hrow6:=HB6.out.wrow n
  rw [Hf.out] at hrow6
  have HR6:=Kz hrow6
  have hz6:=HB6.out.kw.size
  clear hrow6
  try simp only [Act.put,upA,upB,upC]
  refine Qx.nx 13 (fun K hK=> ?_)
  refine step_append_lies _ rfl (.tmp 46) (.tmp 48) 123 rfl wz.heap.size 145 ip _ 1 8 Tryz.underlying123 hp0 hp1 hp2 hp3 rfl (by decide) (.slice va (ws2 n).length vc) (ws2 n).length ((ws2 n).map ptrB) rfl HR6.out ⟨eb,0,none⟩ 1 1 [ptrB tb] rfl rfl (fun j u hu=> ?_) (fun u hu=> ?_) (by decide) (by unfold maxLen;omega) (by omega) hz6 w6.heap.size rfl ?_
  ·match j,hu with
   | 0,hu=> simp at hu;subst hu;rw [Addr.add_mid];exact hc5
   | j+1,hu=> simp at hu
  ·simp at hu;subst hu;rfl
  intro g gc w7 ho7 hg7 hv7 hgz7
  rw [<-Hf.out] at hg7 hv7
  obtain ⟨w8,hrun,hB8⟩:=HB6.out.wait (s:=n) (tb:=tb) (by unfold maxLen;omega) ho7 hg7 (fun x e=> by simp only [Value.ownBlock,Option.some.injEq] at e;subst e;rcases hv7 with h | h;exact .inl h;exact .inr (Nat.le_of_eq h.symm)) (by omega)
  have HB8:=Kz hB8
  have k67:But (fun b=> (f2 n).ownBlock=some b) w6 w7:=But.of_grown hg7 (fun b e=> e)
  have HS7b:Hid (w7.cell? ⟨bb,5,none⟩=some (.map (some mb))∧(Instr.lookup 122 (.map (some mb)) (.string n) false).run Tryz.prog w7= .ok (.slice va (ws2 n).length vc) w7):=by
   have w':=w7
   exact ⟨(k67.cell HB6.out.row.lt (fun e=> type_ne HB6.out.row.type (Yz (HB6.out.wrow n) e) (by decide) rfl)).trans HB6.out.c5,by have h:=HB6.out.grown_look (s:=n) (by unfold maxLen;omega) hg7;rw [Hf.out] at h;exact h⟩
  refine hK.out _ _ (fun _=> HS7b.out) ?_
  clear hK K hB8 ho7 hg7 hv7 k67
  try simp only [Act.put,upA,upB,upC]
  refine Qx.nx 14 (fun K hK=> ?_)
  go_simp
  refine hK.out _ _ (fun h=> absurd rfl h) ?_
  clear hK K
  try simp only [Act.put,upA,upB,upC]
  refine Qx.dn ?_
  have hT8:=HB8.out.at HJ4.out
  have o9:w8.cell? ⟨tb,9,none⟩=some (.int .i64 (t4.op:Int)):=by rw [<-HTb.out];exact hT8.rng 9 _ rfl
  have uz:tb < w8.heap.size:=by rw [<-HTb.out];exact hT8.row.lt
  obtain ⟨_,g9⟩:=hT8.row.row.at (i:=9) (by omega)
  rw [HTb.out] at g9
  have HSt:=Kz (HB8.out.store (t':= { t4 with op:=t4.op+1 }) HJ4.out (o:=9) (v:= .int .i64 ((t4.op+1:Nat):Int)) (by omega) rfl rfl rfl rfl rfl rfl rfl rfl rfl rfl)
  have hnum: ((t4.op+1:Nat):Int)= (t4.op:Int)+1:=by omega
  rw [hnum,HTb.out] at HSt
  have HFi:=Kz (HI3.out.wait (n:=n) (by rw [HAns.out];rfl) HNi.out HJ4.out HTb.out HB5.out.tbs (t':= { t4 with op:=t4.op+1 }) HTb.out rfl rfl rfl)
  rw [HTb.out] at HFi
  clear hT8 hnum
  go_wp2
  go_roundw
  case rel=> exact ⟨k+1,_,d3,dc3,_,_,by omega,by go_num,HSt.out,by rw [HTk.out];exact HFi.out⟩
  case measure=> simp [intOf];omega
end
def GoodsI (xs:List Xq) (w':World) (e:Ending):Prop:= ∃(a:Option Addr) (c:Nat),e= .returned (.slice a (goodOf xs).length c)∧Strs w' a (goodOf xs)
theorem goodTexts_any (w:World) (d:Option Addr) (dc:Nat) (xs:List Xq) (hxl:xs.length<=1000) (hS:Answers w d xs):
  Calls Tryz.prog 197 #[.slice d xs.length dc] w fun e w'=> GoodsI xs w' e∧K_ w w':=by
 obtain ⟨ic,hc0,hc1,hc2,hc3⟩:=xInfo_parts Tryz.xInfoStr
 go_enter Tryz.func197,Tryz.ntmps197
 go_wp2
 go_loopg [3,8] xs.length (fun gg x3 x8 wr=> ∃(i:Nat) (av:Option Addr) (cv:Nat),x3= .slice av (goodOf (xs.take i)).length cv∧x8= .int .i64 (i:Int)∧i+gg=xs.length∧(goodOf (xs.take i)).length<=i∧K_ w wr∧Hid (wr.ownsRow w.heap.size 9 1 (.slice av (goodOf (xs.take i)).length cv) (goodOf (xs.take i)).length ((goodOf (xs.take i)).map Value.string)))
 case atStart=> exact ⟨0,none,0,rfl,rfl,by omega,Nat.le_refl _,K_.refl _,World.ownsRow_nil _ _ _ _⟩
 case round=>
  obtain ⟨i,av,cv,rfl,rfl,hi,hnl,Kr,HO⟩:=hrel
  by_cases hlt: (i:Int) < (xs.length:Int)
  ·have hil:i < xs.length:=by omega
   obtain ⟨b,o,rfl,hb,hc⟩:= (hS.kept Kr) i hil
   obtain ⟨x,hx⟩: ∃x,x=xs.getD i Xq.zero:= ⟨_,rfl⟩
   rw [<-hx] at hc
   have t0:=hc 0 _ rfl
   have t1:=hc 1 _ rfl
   rw [Nat.add_zero] at t0
   have HT:Hid (xs.take (i+1)=xs.take i++ [x]):=by show _=_;rw [List.take_succ_eq_append_getElem hil,hx];simp [List.getD,hil]
   obtain ⟨ns,hns⟩: ∃ns,ns=goodOf (xs.take i):= ⟨_,rfl⟩
   rw [<-hns] at hnl HO⊢
   have HNs:=Kz hns
   clear hc hx hns
   obtain ⟨W2,hW2⟩: ∃W2,W2=wr.alloc (.cells #[.bool x.fail,.string x.text] 112):= ⟨_,rfl⟩
   have K2:K_ wr W2:=by rw [hW2];exact (K_.refl _).alloc _
   have q0:W2.cell? ⟨wr.heap.size,0,none⟩=some (.bool x.fail):=by rw [hW2];exact Xz wr #[.bool x.fail,.string x.text] 112 0 _ rfl
   have q1:W2.cell? ⟨wr.heap.size,1,none⟩=some (.string x.text):=by rw [hW2];exact Xz wr #[.bool x.fail,.string x.text] 112 1 _ rfl
   have qz:wr.heap.size < W2.heap.size:=by rw [hW2];simp
   go_upto_region 5 with fail
   rw [<-hW2]
   clear hW2
   obtain ⟨fb,hfb⟩: ∃fb,fb=wr.heap.size:= ⟨_,rfl⟩
   rw [<-hfb] at q0 q1 qz⊢
   clear hfb
   have HO2:=Kz (ownsRow_kept' HO.out K2)
   have KW2:=Kr.trans K2
   cases hf:x.fail
   ·rw [hf] at q0
    have k1:K_ W2 (W2.alloc (.cells #[.string x.text] 9)):= (K_.refl _).alloc _
    have HOw:=Kz (ownsRow_kept' HO2.out k1)
    have KK:=Kz (KW2.trans k1)
    have hbz:w.heap.size<=(W2.alloc (.cells #[.string x.text] 9)).heap.size:=KK.out.size
    have HNw:Hid (∀j u,([.string x.text]:List Value)[j]? =some u->(W2.alloc (.cells #[.string x.text] 9)).cell? ((⟨W2.heap.size,0,none⟩:Addr).add j)=some u):=fun j u hu=> by rw [Addr.add_mid];exact Xz W2 #[.string x.text] 9 j u hu
    have HOne:Hid (∀u∈([.string x.text]:List Value),u.oneCell'=true):=fun u hu=> by simp only [List.mem_cons,List.not_mem_nil,or_false] at hu;subst hu;rfl
    clear k1
    go_wp2_with (at_builtin;refine wpList_append_own _ rfl (.tmp 15) (.tmp 18) 25 rfl w.heap.size 9 ic _ 1 16 Tryz.underlying25 hc0 hc1 hc2 hc3 rfl (by decide) (.slice av ns.length cv) ns.length (ns.map Value.string) rfl HOw.out ⟨W2.heap.size,0,none⟩ 1 1 [.string x.text] rfl rfl HNw.out HOne.out (by unfold maxLen;omega) (by omega) hbz ?_;intro v' w6 hown2 hgr _;have KP:=kept_of_grown KK.out (Nat.le_refl _) HOw.out hgr;have HP:=Kz hown2;obtain ⟨av2,cv2,rfl⟩:=own_slice hown2;clear hown2 hgr)
    go_roundg (gk - 1)
    case measure=> omega
    case rel=>
     have e:goodOf (xs.take (i+1))=ns++ [x.text]:=by rw [HT.out,goodOf_snoc,<-HNs.out,hf];rfl
     exact ⟨i+1,av2,cv2,by rw [e,List.length_append];rfl,by go_num,by omega,by rw [e,List.length_append];show ns.length+1<=i+1;omega,KP,Kz (by rw [e,List.map_append,List.length_append];exact HP.out)⟩
   ·rw [hf] at q0
    go_wp2
    go_roundg (gk - 1)
    case measure=> omega
    case rel=>
     have e:goodOf (xs.take (i+1))=ns:=by rw [HT.out,goodOf_snoc,<-HNs.out,hf];simp
     exact ⟨i+1,av,cv,by rw [e],by go_num,by omega,by rw [e];omega,KW2,Kz (by rw [e];exact HO2.out)⟩
  ·have hie:i=xs.length:=by omega
   obtain ⟨a9,c9,e9,h9⟩:=owned_strs HO.out
   simp only [Value.slice.injEq,true_and] at e9
   rw [<-e9.1] at h9
   have H9:=Kz h9
   clear h9 e9
   go_wp2_with fail
   go_ret
   rw [hie,List.take_length] at H9
   exact ⟨⟨av,cv,rfl,H9.out⟩,Kr⟩
section
variable {G : Ghost} {Kj : List Qq} {wz w w' : World} {bb : Nat} {a : Option Addr} {cap : Nat} {rd : Option Addr} {rn rc : Nat} {mb mx : Nat} {ts : List Zx} {d : Option Addr} {dc : Nat} {f : ByteArray -> Value} {ws : ByteArray -> List Nat}
theorem BM.texts (h:BM G Kj wz w bb a cap rd rn rc mb mx ts d dc f ws) {i:Nat} {t:Zx} (hi:ts[i]? =some t) {w1:World} {v':Value} {l:List ByteArray} (ho:w1.ownsRow wz.heap.size 9 1 v' (t.r.texts.length+l.length) (t.r.texts.map Value.string++l.map Value.string)) (hg:w.grownBy w1 t.tv.ownBlock) (hv: ∀g,v'.ownBlock=some g->t.tv.ownBlock=some g∨w.heap.size<=g):
  BM G Kj wz (w1.setCell ⟨t.tb,6,none⟩ v') bb a cap rd rn rc mb mx (ts.set i { t with tv:=v',r:= { t.r with texts:=t.r.texts++l } }) d dc f ws:=by
 obtain ⟨hl,rfl⟩:=List.getElem?_eq_some_iff.1 hi
 have hT:=h.task _ (List.getElem_mem hl)
 have hn:=h.sep2 _ (List.getElem_mem hl)
 have k1:But (fun b=> b=ts[i].tb∨b∈ts[i].own) w w1:=But.of_grown hg (fun b e=> .inr (List.mem_append.2 (.inl (Option.mem_toList.2 e))))
 have k:But (fun b=> b=ts[i].tb∨b∈ts[i].own) w (w1.setCell ⟨ts[i].tb,6,none⟩ v'):=But.set k1 (p:= ⟨ts[i].tb,6,none⟩) (.inl rfl) v'
 have hb1:w1.heap[ts[i].tb]? =w.heap[ts[i].tb]? :=hg.block _ hT.row.lt (fun e=> type_ne hT.row.type (Yz hT.txt e.symm) (by decide) rfl)
 have hr1:RowT w1 ts[i].tb 153 12:=hT.row.block hb1
 have hc1:w1.rangeAt ts[i].tb 0 ts[i].cells:=fun j u hu=> (World.cell?_of_block (w:=w) hb1).trans (hT.rng j u hu)
 have ne1: ∀{b:Nat},TypeAt w1 b 9->b≠ts[i].tb:=fun hu=> type_ne hu hr1.type (by decide)
 have kt:But (fun b=> b=ts[i].tb) w1 (w1.setCell ⟨ts[i].tb,6,none⟩ v'):=But.set (S:=fun b=> b=ts[i].tb) (But.of_kept (K_.refl w1)) (p:= ⟨ts[i].tb,6,none⟩) rfl v'
 have ask1:w1.ownsRow wz.heap.size 9 1 ts[i].qv ts[i].qs.length ts[i].qs:= (But.of_grown (S:=fun b=> ts[i].tv.ownBlock=some b) hg (fun b e=> e)).owns hT.ask (fun b e e2=> by
  have h1:b∈ts[i].tv.ownBlock.toList:=Option.mem_toList.2 e2
  have h2:b∈ts[i].qv.ownBlock.toList:=Option.mem_toList.2 e
  unfold Zx.own at hn
  exact (List.nodup_append.1 hn).2.2 b h1 b h2 rfl)
 refine h.turn hl k (fun b hb=> hb) ⟨hr1.set v',range_set hc1 hr1.row (by omega) v', ?_,kt.owns ask1 (fun b e=> ne1 (Yz ask1 e)),hT.low⟩ rfl rfl rfl rfl rfl (fun x hx=> ?_) ?_ (by have:=h.qb ts[i] (List.getElem_mem hl);exact this)
 ·show World.ownsRow _ _ _ _ v' (ts[i].r.texts++l).length ((ts[i].r.texts++l).map Value.string)
  rw [List.length_append,List.map_append]
  exact kt.owns ho (fun b e=> ne1 (Yz ho e))
 ·unfold Zx.own at hx⊢
  rcases List.mem_append.1 hx with hx | hx
  ·rcases hv x (Option.mem_toList.1 hx) with e | e
   ·exact .inl (List.mem_append.2 (.inl (Option.mem_toList.2 e)))
   ·exact .inr e
  ·exact .inl (List.mem_append.2 (.inr hx))
 ·unfold Zx.own at hn⊢
  rw [List.nodup_append] at hn⊢
  refine ⟨?_,hn.2.1,fun x hx y hy=> ?_⟩
  ·show (v'.ownBlock.toList).Nodup
   cases v'.ownBlock <;> simp
  ·rcases hv x (Option.mem_toList.1 hx) with e | e
   ·exact hn.2.2 x (Option.mem_toList.2 e) y hy
   ·have:= (hT.ask.lt y (Option.mem_toList.1 hy)).2
    omega
end
theorem answers_at {W:Acts} {σ:Env}: ∀{l:List ByteArray} {xs:List Xq},Yq W σ l=some xs->xs.length=l.length∧∀k,k < l.length->ansOf W σ (l.getD k ByteArray.empty)=some (xs.getD k Xq.zero)
 | [],xs,h=> by
  unfold Yq at h
  cases h
  exact ⟨rfl,fun k hk=> absurd hk (Nat.not_lt_zero _)⟩
 | n :: l,xs,h=> by
  unfold Yq at h
  cases ha:ansOf W σ n with
  | none=> rw [ha] at h;cases h
  | some x=>
   rw [ha] at h
   simp only at h
   cases hl:Yq W σ l with
   | none=> rw [hl] at h;cases h
   | some ys=>
    rw [hl] at h
    simp only [Option.some.injEq] at h
    subst h
    obtain ⟨h1,h2⟩:=answers_at hl
    refine ⟨by simp [h1],fun k hk=> ?_⟩
    cases k with
    | zero=> simpa using ha
    | succ k=> simpa using h2 k (by simpa using hk)
section
variable {G : Ghost} {Kj : List Qq} {wz w w' : World} {bb : Nat} {a : Option Addr} {cap : Nat} {rd : Option Addr} {rn rc : Nat} {mb mx : Nat} {ts : List Zx} {d : Option Addr} {dc : Nat} {f : ByteArray -> Value} {ws : ByteArray -> List Nat}
def GoOnEnd (G:Ghost) (Kj:List Qq) (wz:World) (bb:Nat) (a:Option Addr) (cap:Nat) (rd:Option Addr) (rn rc mb mx:Nat) (ts:List Zx) (d:Option Addr) (dc:Nat) (f:ByteArray->Value) (ws:ByteArray->List Nat) (i:Nat) (t:Zx) (g:GoneD) (xs:List Xq) (w':World) (e:Ending):Prop:=
 (g.over=true∧e= .returned (.bool false)∧∃bl,(bl∈(stepOf ⟨t.cost,t.steps⟩ t.r.at').asks∧g.text= (⟨#[98,101,108,111,119,32]⟩:ByteArray)++bl)∧BM G Kj wz w' bb a cap rd rn rc mb mx (decT (ts.set i (({ t with bl:=bl }:Zx).ended true g.text)) (ws t.r.name)) d dc (fun n=> if n=t.r.name then .slice none 0 0 else f n) (fun n=> if n=t.r.name then [] else ws n))∨
 (g.over=false∧e= .returned (.bool true)∧∃tv',BM G Kj wz w' bb a cap rd rn rc mb mx (ts.set i { t with tv:=tv',r:= { t.r with at':=g.at',texts:=t.r.texts++goodOf xs } }) d dc f ws)
theorem benchGoOn_any (hB:BM G Kj wz w bb a cap rd rn rc mb mx ts d dc f ws) {i:Nat} {t:Zx} (hi:ts[i]? =some t) (s:Xj) (hs:s=stepOf ⟨t.cost,t.steps⟩ t.r.at') (h0:0<=t.r.at') (h1:t.r.at' < t.steps.length) (hfin:s.fin=false) (xs:List Xq) (hxs:Yq (Q_ Kj) (Qj (Qk ts)) s.asks=some xs) (hxt: ∀x∈xs,x.text.size<=200) (hfo:Followed s xs (goOnF s xs)) (hF:s.Fits) (hal:s.asks.length<=5) (hasz: ∀x∈s.asks,x.size<=20) (hon:s.asks.length≠0->0<=s.on∧s.on < s.asks.length) (hwl:Kj.length<=60) (htx:t.r.texts.length<=1000)
  (hsz:t.r.name.size<=1000) (hwn: (ws t.r.name).length<=1000) (hw: ∀b∈ws t.r.name,∃(j:Nat) (u:Zx),j≠i∧ts[j]? =some u∧u.tb=b∧1<=u.op∧u.op<=1000) (hwd: (ws t.r.name).Nodup):
  Calls Tryz.prog 179 #[.pointer (some ⟨bb,0,none⟩),.pointer (some ⟨t.tb,0,none⟩)] w fun e w'=> GoOnEnd G Kj wz bb a cap rd rn rc mb mx ts d dc f ws i t (goOnF s xs) xs w' e:=by
 obtain ⟨ia,ha0,ha1,ha2,ha3⟩:=xInfo_parts Tryz.dInfoAns
 obtain ⟨is,hst0,hst1,hst2,hst3⟩:=xInfo_parts Tryz.xInfoStr
 obtain ⟨ix,hix⟩: ∃ix:Nat,t.r.at'= (ix:Int):= ⟨t.r.at'.toNat,by omega⟩
 have hixl:ix < t.steps.length:=by omega
 have hT:=hB.at hi
 have hact:=hB.act t (List.mem_of_getElem? hi)
 obtain ⟨sb,so,cs,esa,hsb,hcs,aa,ca,ac,cc,rfl,hAs,hCs,_⟩:=hact.2 ix hixl
 have hse:t.steps.getD ix Xj.zero=s:=by rw [hs];unfold stepOf;rw [hix];rfl
 rw [hse] at hcs hAs hCs
 have c8:w.cell? ⟨t.tb,8,none⟩=some (.slice t.sa t.steps.length t.sc):=hT.rng 8 _ rfl
 have c4:w.cell? ⟨t.tb,4,none⟩=some (.int .i64 t.r.at'):=hT.rng 4 _ rfl
 rw [esa] at c8
 rw [hix] at c4
 have tz:=hT.row.lt
 have sz:sb < w.heap.size:=Nat.lt_of_lt_of_le hsb hB.kw.size
 have t0:w.cell? ⟨sb,so+ix * 8,none⟩=some (.slice aa s.asks.length ca):= (hB.kw.cell hsb).trans (hcs 0 _ rfl)
 have t1:w.cell? ⟨sb,so+ix * 8+1,none⟩=some (.int .i64 s.on):= (hB.kw.cell hsb).trans (hcs 1 _ rfl)
 have t2:w.cell? ⟨sb,so+ix * 8+2,none⟩=some (.slice ac s.cases.length cc):= (hB.kw.cell hsb).trans (hcs 2 _ rfl)
 have t3:w.cell? ⟨sb,so+ix * 8+3,none⟩=some (.int .i64 s.els):= (hB.kw.cell hsb).trans (hcs 3 _ rfl)
 have t4:w.cell? ⟨sb,so+ix * 8+4,none⟩=some (.int .i64 s.fall):= (hB.kw.cell hsb).trans (hcs 4 _ rfl)
 have t5:w.cell? ⟨sb,so+ix * 8+5,none⟩=some (.bool false):=by rw [<-hfin];exact (hB.kw.cell hsb).trans (hcs 5 _ rfl)
 have t6:w.cell? ⟨sb,so+ix * 8+6,none⟩=some (.bool s.bad):= (hB.kw.cell hsb).trans (hcs 6 _ rfl)
 have t7:w.cell? ⟨sb,so+ix * 8+7,none⟩=some (.string s.give):= (hB.kw.cell hsb).trans (hcs 7 _ rfl)
 have Zz:Hid (∀w',K_ w w'->w'.cell? ⟨t.tb,8,none⟩=some (.slice (some ⟨sb,so,none⟩) t.steps.length t.sc)∧w'.cell? ⟨t.tb,4,none⟩=some (.int .i64 (ix:Int))∧w'.cell? ⟨sb,so+ix * 8,none⟩=some (.slice aa s.asks.length ca)∧w'.cell? ⟨sb,so+ix * 8+1,none⟩=some (.int .i64 s.on)∧w'.cell? ⟨sb,so+ix * 8+2,none⟩=some (.slice ac s.cases.length cc)∧w'.cell? ⟨sb,so+ix * 8+3,none⟩=some (.int .i64 s.els)∧w'.cell? ⟨sb,so+ix * 8+4,none⟩=some (.int .i64 s.fall)∧w'.cell? ⟨sb,so+ix * 8+5,none⟩=some (.bool false)∧w'.cell? ⟨sb,so+ix * 8+6,none⟩=some (.bool s.bad)∧w'.cell? ⟨sb,so+ix * 8+7,none⟩=some (.string s.give)):=fun w' K=> ⟨(K.cell tz).trans c8,(K.cell tz).trans c4,(K.cell sz).trans t0,(K.cell sz).trans t1,(K.cell sz).trans t2,(K.cell sz).trans t3,(K.cell sz).trans t4,(K.cell sz).trans t5,(K.cell sz).trans t6,(K.cell sz).trans t7⟩
 obtain ⟨hxl,hxa⟩:=answers_at hxs
 have HXa:=Kz hxa
 have HB:=Kz hB
 have HI:=Kz hi
 have HAs:=Kz hAs
 have HCs:=Kz hCs
 have HFo:=Kz hfo
 have HW:=Kz hw
 have HSe:=Kz hs
 have hbz:=hB.kw.size
 have hii: (ix:Int) < (t.steps.length:Int):=by omega
 have hn6:=hB.len hwl
 clear hB hi hT hact esa hcs hAs hCs hse c8 c4 t0 t1 t2 t3 t4 t5 t6 t7 hxa hfo hw hix hs
 go_enter Tryz.func179,Tryz.ntmps179
 go_upto_region 1 with fail
 refine Qx.rg 13 Zz.out fun wd KD Z_=> ?_
 refine Qx.tk 0 Z_ ?_
 refine Qx.tk 1 Z_ ?_
 refine Qx.tk 2 Z_ ?_
 refine Qx.tk 3 Z_ ?_
 refine Qx.tk 4 Z_ ?_
 refine Qx.tk 5 Z_ ?_
 refine Qx.tk 6 Z_ ?_
 refine Qx.tk 7 Z_ ?_
 refine Qx.tk 8 Z_ ?_
 refine Qx.tk 9 Z_ ?_
 refine Qx.tk 10 Z_ ?_
 refine Qx.tk 11 Z_ ?_
 refine Qx.nx 12 (fun K hK=> ?_)
 go_simp
 have K2:K_ wd (wd.alloc (.cells #[.slice none 0 0,.int .i64 0,.slice none 0 0,.int .i64 0,.int .i64 0,.bool false,.bool false,.string ⟨#[]⟩] 172)):= (K_.refl _).alloc _
 have hRw:RowT (wd.alloc (.cells #[.slice none 0 0,.int .i64 0,.slice none 0 0,.int .i64 0,.int .i64 0,.bool false,.bool false,.string ⟨#[]⟩] 172)) wd.heap.size 172 8:=RowT.made wd _ _
 have KE:=KD.trans K2
 have nz:=KD.size
 obtain ⟨gb,hgb⟩: ∃gb,gb=wd.heap.size:= ⟨_,rfl⟩
 refine hK.out _ _ (fun _=> Zz.out _ KE) ?_
 clear hK K Z_
 rw [<-hgb] at hRw nz⊢
 generalize hwe:wd.alloc (.cells #[.slice none 0 0,.int .i64 0,.slice none 0 0,.int .i64 0,.int .i64 0,.bool false,.bool false,.string ⟨#[]⟩] 172)=wE at hRw KE⊢
 clear hwe K2 hgb
 try simp only [Act.put,upA,upB,upC]
 obtain ⟨⟨_,v0⟩,f0⟩:=hRw.row.at (i:=0) (by omega)
 obtain ⟨⟨_,v1⟩,f1⟩:=hRw.row.at (i:=1) (by omega)
 obtain ⟨⟨_,v2⟩,f2⟩:=hRw.row.at (i:=2) (by omega)
 obtain ⟨⟨_,v3⟩,f3⟩:=hRw.row.at (i:=3) (by omega)
 obtain ⟨⟨_,v4⟩,f4⟩:=hRw.row.at (i:=4) (by omega)
 obtain ⟨⟨_,v5⟩,f5⟩:=hRw.row.at (i:=5) (by omega)
 obtain ⟨⟨_,v6⟩,f6⟩:=hRw.row.at (i:=6) (by omega)
 obtain ⟨⟨_,v7⟩,f7⟩:=hRw.row.at (i:=7) (by omega)
 have vz:=hRw.lt
 refine Qx.nx 13 (fun K hK=> ?_)
 go_simp
 refine hK.out _ _ (fun h=> absurd rfl h) ?_
 clear hK K
 try simp only [Act.put,upA,upB,upC]
 refine Qx.dn ?_
 have HR2:=Kz (World.rangeAt_setCells_same wE gb 0 [.slice aa s.asks.length ca,.int .i64 s.on,.slice ac s.cases.length cc,.int .i64 s.els,.int .i64 s.fall,.bool false,.bool s.bad,.string s.give] (hRw.row.there (o:=0) (m:=8) (Nat.le_refl _)))
 have HK2:=Kz (kept_sets (g:=gb) nz [.slice aa s.asks.length ca,.int .i64 s.on,.slice ac s.cases.length cc,.int .i64 s.els,.int .i64 s.fall,.bool false,.bool s.bad,.string s.give] 0 KE)
 have HRw2:=Kz (RowT.sets [.slice aa s.asks.length ca,.int .i64 s.on,.slice ac s.cases.length cc,.int .i64 s.els,.int .i64 s.fall,.bool false,.bool s.bad,.string s.give] 0 hRw)
 obtain ⟨w2,hw2⟩: ∃w2,w2=wE.setCells gb 0 [.slice aa s.asks.length ca,.int .i64 s.on,.slice ac s.cases.length cc,.int .i64 s.els,.int .i64 s.fall,.bool false,.bool s.bad,.string s.give]:= ⟨_,rfl⟩
 rw [<-hw2] at HR2 HK2 HRw2
 go_upto_region 2 with fail
 have e2: ((((((((wE.setCell ⟨gb,0,none⟩ (.slice aa s.asks.length ca)).setCell ⟨gb,1,none⟩ (.int .i64 s.on)).setCell ⟨gb,2,none⟩ (.slice ac s.cases.length cc)).setCell ⟨gb,3,none⟩ (.int .i64 s.els)).setCell ⟨gb,4,none⟩ (.int .i64 s.fall)).setCell ⟨gb,5,none⟩ (.bool false)).setCell ⟨gb,6,none⟩ (.bool s.bad)).setCell ⟨gb,7,none⟩ (.string s.give))=w2:=by rw [hw2];rfl
 rw [e2]
 clear e2 hw2 v0 v1 v2 v3 v4 v5 v6 v7 f0 f1 f2 f3 f4 f5 f6 f7 vz hRw KE nz KD
 have HB2:=Kz (HB.out.kept HK2.out)
 have q0:w2.cell? ⟨gb,0,none⟩=some (.slice aa s.asks.length ca):=HR2.out 0 _ rfl
 have gz:=HRw2.out.lt
 have HSL:Hid (∀w',K_ w2 w'->w'.cell? ⟨gb,0,none⟩=some (.slice aa s.asks.length ca)∧w'.cell? ⟨gb,1,none⟩=some (.int .i64 s.on)∧w'.cell? ⟨gb,2,none⟩=some (.slice ac s.cases.length cc)∧w'.cell? ⟨gb,3,none⟩=some (.int .i64 s.els)∧w'.cell? ⟨gb,4,none⟩=some (.int .i64 s.fall)∧w'.cell? ⟨gb,5,none⟩=some (.bool false)∧w'.cell? ⟨gb,6,none⟩=some (.bool s.bad)∧w'.cell? ⟨gb,7,none⟩=some (.string s.give)):=fun w' K=> ⟨(K.cell gz).trans (HR2.out 0 _ rfl),(K.cell gz).trans (HR2.out 1 _ rfl),(K.cell gz).trans (HR2.out 2 _ rfl),(K.cell gz).trans (HR2.out 3 _ rfl),(K.cell gz).trans (HR2.out 4 _ rfl),(K.cell gz).trans (HR2.out 5 _ rfl),(K.cell gz).trans (HR2.out 6 _ rfl),(K.cell gz).trans (HR2.out 7 _ rfl)⟩
 go_wp2
 go_loopg [6,27] s.asks.length (fun gg x6 x27 wr=> ∃(k:Nat) (av:Option Addr) (cv:Nat),x6= .slice av k cv∧x27= .int .i64 (k:Int)∧k+gg=s.asks.length∧K_ w2 wr∧Hid (wr.ownsRow w2.heap.size 112 2 (.slice av k cv) k (dAnsCells (xs.take k))))
 case atStart=> exact ⟨0,none,0,rfl,rfl,by omega,K_.refl _,World.ownsRow_nil _ _ _ _⟩
 case round=>
  obtain ⟨k,av,cv,rfl,rfl,hkg,Kr,HO⟩:=hrel
  by_cases hlt: (k:Int) < (s.asks.length:Int)
  ·have hkl:k < s.asks.length:=by omega
   obtain ⟨n,hn⟩: ∃n,n=s.asks.getD k ByteArray.empty:= ⟨_,rfl⟩
   obtain ⟨x,hx⟩: ∃x,x=xs.getD k Xq.zero:= ⟨_,rfl⟩
   have hans:=HXa.out k hkl
   rw [<-hn,<-hx] at hans
   obtain ⟨b,o,rfl,hb0,hc0⟩:=HAs.out k hkl
   rw [<-hn] at hc0
   have KWr:=HB.out.kw.trans (HK2.out.trans Kr)
   have c0:wr.cell? ⟨b,o+k,none⟩=some (.string n):= (KWr.cell hb0).trans hc0
   have hnsz:n.size<=20:=by rw [hn];simp only [List.getD,List.getElem?_eq_getElem hkl,Option.getD_some];exact hasz _ (List.getElem_mem hkl)
   have HTk:Hid (xs.take (k+1)=xs.take k++ [x]):=by
    show _=_
    rw [List.take_succ_eq_append_getElem (by omega),hx]
    simp [List.getD,(by omega:k < xs.length)]
   have HAn:Hid ((∃t∈ts,t.r.name=n)∨Q_ Kj n=none):=by
    cases hA:Q_ Kj n with
    | none=> exact .inr rfl
    | some A=>
     refine .inl ?_
     unfold ansOf at hans
     rw [hA] at hans
     simp only at hans
     cases he:Qj (Qk ts) n with
     | none=> rw [he] at hans;cases hans
     | some r=>
      obtain ⟨h1,h2⟩:=env_mem he
      obtain ⟨u,hu,rfl⟩:=List.mem_map.1 h1
      exact ⟨u,hu,h2⟩
   have HAns:=Kz hans
   clear hn hx hans hc0
   go_wp2_with fail
   refine (benchAnswer_any (HB2.out.kept Kr) n (by omega) (by omega) HAn.out).mono ?_
   rintro e w4 ⟨⟨fa,tx,ok,rfl,ha4⟩,k4⟩
   rw [HAns.out] at ha4
   cases ok
   ·simp at ha4
   simp only [if_true,Option.some.injEq] at ha4
   have K4:=Kr.trans k4
   have HO4:=Kz (ownsRow_kept' HO.out k4)
   have HX:Hid (x= ⟨fa,tx⟩):=ha4
   clear ha4 c0
   obtain ⟨W5,hW5⟩: ∃W5,W5= (w4.alloc (.cells #[.bool fa,.string tx] 112)).alloc (.cells #[.bool fa,.string tx] 112):= ⟨_,rfl⟩
   have K5:K_ w4 W5:=by rw [hW5];exact ((K_.refl _).alloc _).alloc _
   have HOw:=Kz (ownsRow_kept' HO4.out K5)
   have KK:=Kz (K4.trans K5)
   have hbz5:w2.heap.size<=W5.heap.size:=KK.out.size
   have HNw:Hid (∀j u,([.bool fa,.string tx]:List Value)[j]? =some u->W5.cell? ((⟨w4.heap.size+1,0,none⟩:Addr).add j)=some u):=fun j u hu=> by
    rw [Addr.add_mid,hW5]
    have:=Xz (w4.alloc (.cells #[.bool fa,.string tx] 112)) #[.bool fa,.string tx] 112 j u hu
    rw [World.size_alloc] at this
    exact this
   have HOne:Hid (∀u∈([.bool fa,.string tx]:List Value),u.oneCell'=true):=fun u hu=> by simp only [List.mem_cons,List.not_mem_nil,or_false] at hu;rcases hu with rfl | rfl <;> rfl
   have hk5:k<=5:=by omega
   have HW5:=Kz hW5
   clear hW5
   go_wp2_with (at_builtin;rw [<-HW5.out];refine wpList_append_own _ rfl (.tmp 37) (.tmp 39) 216 rfl w2.heap.size 112 ia _ 2 24 Tryz.underlying216 ha0 ha1 ha2 ha3 rfl (by decide) (.slice av k cv) k (dAnsCells (xs.take k)) rfl HOw.out ⟨w4.heap.size+1,0,none⟩ 1 1 [.bool fa,.string tx] rfl rfl HNw.out HOne.out (by unfold maxLen;omega) (by omega) hbz5 ?_;intro v' w6 hown2 hgr _;have KP:=kept_of_grown KK.out (Nat.le_refl _) HOw.out hgr;have HP:=Kz hown2;obtain ⟨av2,cv2,rfl⟩:=own_slice hown2;clear hown2 hgr)
   go_roundg (gk - 1)
   case measure=> omega
   case rel=> exact ⟨k+1,av2,cv2,rfl,by go_num,by omega,KP,Kz (by rw [HTk.out,dAnsCells_snoc,HX.out];exact HP.out)⟩
  ·have hxk:xs.length=k:=by omega
   have HXk:=Kz hxk
   have hO:=HO.out
   rw [List.take_of_length_le (by omega)] at hO
   obtain ⟨a9,c9,e9,_,hTA⟩:=d_tans_of_owned hO
   simp only [Value.slice.injEq] at e9
   obtain ⟨rfl,hq9,rfl⟩:=e9
   clear hq9
   have HTA:=Kz hTA
   have HAn0:=Kz hTA.answers
   obtain ⟨u0,u1,u2,u3,u4,u5,u6,u7⟩:=HSL.out wr Kr
   have gzr:=Nat.lt_of_lt_of_le gz Kr.size
   clear hO hTA q0 hxk
   go_wp2_with fail
   refine (kindOf_ask wr s aa ac ca cc).mono ?_
   rintro e w5 ⟨rfl,k5⟩
   have K5:=Kr.trans k5
   clear u0 u1 u2 u3 u4 u5 u6 u7
   go_wp2_with fail
   have hfol:=follow_ask w5 s hfin aa ac av ca cc cv xs hF (HAs.out.kept (HB.out.kw.trans (HK2.out.trans K5))) (HCs.out.kept (HB.out.kw.trans (HK2.out.trans K5))) (by unfold maxLen;omega) (fun c hc=> by have:=hxt c hc;unfold maxLen;omega) (HAn0.out.kept k5) hon (fun q hq=> by simp only [List.getD,List.getElem?_eq_getElem hq,Option.getD_some];exact hasz _ (List.getElem_mem hq))
   rw [HXk.out] at hfol
   refine hfol.mono ?_
   rintro e w6 ⟨⟨g,rfl,hfg⟩,k6⟩
   have hgg:goOnF s xs=g:=HFo.out.unique hfg
   have HGG:=Kz hgg
   have HFg:=Kz hfg
   dsimp only [GoneD.cells]
   have K6:=K5.trans k6
   clear hfol hfg hgg
   obtain ⟨w7,hw7⟩: ∃w7,w7=w6.alloc (.cells #[.int .i64 g.code,.bool g.over,.int .i64 g.at',.string g.text] 244):= ⟨_,rfl⟩
   have K67:K_ w6 w7:=by rw [hw7];exact (K_.refl _).alloc _
   have p1:w7.cell? ⟨w6.heap.size,1,none⟩=some (.bool g.over):=by rw [hw7];exact Xz w6 #[.int .i64 g.code,.bool g.over,.int .i64 g.at',.string g.text] 244 1 _ rfl
   have p2:w7.cell? ⟨w6.heap.size,2,none⟩=some (.int .i64 g.at'):=by rw [hw7];exact Xz w6 #[.int .i64 g.code,.bool g.over,.int .i64 g.at',.string g.text] 244 2 _ rfl
   have p3:w7.cell? ⟨w6.heap.size,3,none⟩=some (.string g.text):=by rw [hw7];exact Xz w6 #[.int .i64 g.code,.bool g.over,.int .i64 g.at',.string g.text] 244 3 _ rfl
   have hz67:w6.heap.size < w7.heap.size:=by rw [hw7];simp
   go_upto_region 10 with fail
   rw [<-hw7]
   clear hw7
   have K7:=K6.trans K67
   have k57:K_ wr w7:= (k5.trans k6).trans K67
   have HAn:=HAn0
   have HAs8:Hid (∀(v:Value) (b:Nat),b < w2.heap.size->Answers (w7.setCell ⟨b,4,none⟩ v) av xs):=fun v b hb=> by
    have h1:=ownsRow_kept' HO.out k57
    rw [List.take_of_length_le (by have:=HXk.out;omega)] at h1
    obtain ⟨a9,c9,e9,_,hTA⟩:=d_tans_of_owned (owns_set h1 (p:= ⟨b,4,none⟩) hb v)
    simp only [Value.slice.injEq] at e9
    rw [e9.1]
    exact hTA.answers
   cases hgo:g.over
   ·rw [hgo] at p1
    have hB7:=HB2.out.kept K7
    have hT7:=hB7.at HI.out
    obtain ⟨⟨_,x4⟩,f4⟩:=hT7.row.row.at (i:=4) (by omega)
    have tz7:=hT7.row.lt
    have HB8:=Kz (hB7.store (t':= { t with r:= { t.r with at':=g.at' } }) HI.out (o:=4) (v:= .int .i64 g.at') (by omega) rfl rfl rfl rfl rfl rfl rfl rfl rfl rfl)
    clear hB7 hT7
    go_upto_region 15 with fail
    obtain ⟨w8,hw8⟩: ∃w8,w8=w7.setCell ⟨t.tb,4,none⟩ (.int .i64 g.at'):= ⟨_,rfl⟩
    have htn8:t.tb < w2.heap.size:=Nat.lt_of_lt_of_le tz HK2.out.size
    have HA8:Hid (Answers w8 av xs):=by rw [hw8];exact HAs8.out _ _ htn8
    rw [<-hw8] at HB8⊢
    clear hw8 x4 f4 tz7 p1 p2 p3
    have hil:i < ts.length:= (List.getElem?_eq_some_iff.1 HI.out).1
    have HI8:Hid ((ts.set i { t with r:= { t.r with at':=g.at' } })[i]? =some { t with r:= { t.r with at':=g.at' } }):=List.getElem?_set_self hil
    have HT8:=Kz (HB8.out.at HI8.out)
    obtain ⟨ta,tc,htv⟩:=own_slice HT8.out.txt
    have Htv:=Kz htv
    have HS15:Hid (∀w',K_ w8 w'->w'.cell? ⟨t.tb,6,none⟩=some (t.tv)):=fun w' K=> ((HB8.out.kept K).at HI8.out).rng 6 _ rfl
    refine Qx.rg 12 HS15.out fun wd KD Z_=> ?_
    refine Qx.tk 0 Z_ ?_
    refine Qx.tk 1 Z_ ?_
    refine Qx.tk 2 Z_ ?_
    refine Qx.tk 3 Z_ ?_
    refine Qx.tk 4 Z_ ?_
    refine Qx.tk 5 Z_ ?_
    refine Qx.tk 6 Z_ ?_
    refine Qx.nx 7 (fun K hK=> ?_)
    rw [if_pos (by rfl)]
    go_simp
    go_at_call 197
    have hgt:=goodTexts_any wd av cv xs (by omega) (HA8.out.kept KD)
    rw [HXk.out] at hgt
    refine hgt.mono ?_
    rintro e w9 ⟨⟨ga,gc,rfl,hG9⟩,k9⟩
    have K9:=KD.trans k9
    have HB9:=Kz (HB8.out.kept K9)
    have HT9:=Kz (HB9.out.at HI8.out)
    have HG9:=Kz hG9
    have hz9:=HB9.out.kw.size
    have hgl: (goodOf xs).length<=5:=by have:=List.length_filter_le (fun x:Xq=> !x.fail) xs;unfold goodOf;rw [List.length_map];omega
    refine hK.out _ _ (fun _=> HS15.out _ K9) ?_
    clear hK K Z_ hgt hG9
    try simp only [Act.put,upA,upB,upC]
    refine Qx.nx 8 (fun K hK=> ?_)
    rw [if_pos (by rfl)]
    refine wp_append_strs (.tmp 73) (.tmp 75) 25 rfl wz.heap.size 9 is _ 16 Tryz.underlying25 hst0 hst1 hst2 hst3 rfl t.tv t.r.texts.length (t.r.texts.map Value.string) rfl HT9.out.txt ga gc (goodOf xs) rfl HG9.out (by unfold maxLen;omega) (by omega) hz9 ?_
    intro v' wA hoA hgA hvA
    obtain ⟨va,vc,rfl⟩:=own_slice hoA
    have HBA:=Kz (HB9.out.texts (l:=goodOf xs) HI8.out hoA hgA hvA)
    have hbA:wA.heap[t.tb]? =w9.heap[t.tb]? :=hgA.block _ HT9.out.row.lt (fun e=> type_ne HT9.out.row.type (Yz HT9.out.txt e.symm) (by decide) rfl)
    have hrA:RowT wA t.tb 153 12:=HT9.out.row.block hbA
    have HSA:Hid (wA.cell? ⟨t.tb,6,none⟩=some t.tv):= (World.cell?_of_block (w:=w9) hbA).trans (HT9.out.rng 6 _ rfl)
    obtain ⟨⟨_,x6⟩,f6⟩:=hrA.row.at (i:=6) (by omega)
    have tzA:=hrA.lt
    refine hK.out _ _ (fun _=> HSA.out) ?_
    clear hK K hoA hgA hvA hbA hrA
    have Z_:=HSA.out
    try simp only [Act.put,upA,upB,upC]
    refine Qx.tk 9 Z_ ?_
    refine Qx.tk 10 Z_ ?_
    refine Qx.tk 11 Z_ ?_
    refine Qx.nx 12 (fun K hK=> ?_)
    go_simp
    refine hK.out _ _ (fun h=> absurd rfl h) ?_
    clear hK K Z_
    try simp only [Act.put,upA,upB,upC]
    refine Qx.dn ?_
    have hBA:=HBA.out
    rw [List.set_set] at hBA
    have HBB:=Kz hBA
    clear hBA
    go_wp2_with fail
    go_ret
    rw [HGG.out]
    exact .inr ⟨hgo,rfl,.slice va (t.r.texts.length+ (goodOf xs).length) vc,HBB.out⟩
   ·rw [hgo] at p1
    obtain ⟨q,hql,hqf,hqn,hqt⟩: ∃q,q < xs.length∧IsFail (xs.getD q Xq.zero)∧NoneTo xs IsFail q∧g.text=belowOf s q:=by
     rcases HFg.out with ⟨_,e⟩ | ⟨_,⟨q,h1,h2,h3,⟨_,e⟩ | ⟨_,e⟩⟩ | ⟨_,r,_,e⟩⟩
     ·rw [e] at hgo;cases hgo
     ·exact ⟨q,h1,h2,h3,by rw [e]⟩
     ·rw [e] at hgo;cases hgo
     ·rw [e] at hgo;cases hgo
    have hqa:q < s.asks.length:=by omega
    obtain ⟨b,o,rfl,hb0,hc0⟩:=HAs.out q hqa
    obtain ⟨nm,hnm⟩: ∃nm,nm=s.asks.getD q ByteArray.empty:= ⟨_,rfl⟩
    rw [<-hnm] at hc0
    have HBl:Hid (nm∈(stepOf ⟨t.cost,t.steps⟩ t.r.at').asks∧g.text= (⟨#[98,101,108,111,119,32]⟩:ByteArray)++nm):=by
     refine ⟨?_,by rw [hqt,hnm];rfl⟩
     rw [<-HSe.out,hnm]
     simp only [List.getD,List.getElem?_eq_getElem hqa,Option.getD_some]
     exact List.getElem_mem hqa
    have HS11:Hid (∀w',K_ w7 w'->w'.cell? ⟨gb,0,none⟩=some (.slice (some ⟨b,o,none⟩) s.asks.length ca)∧w'.cell? ⟨b,o+q,none⟩=some (.string nm)):=fun w' K=> ⟨(HSL.out w' (K7.trans K)).1,((HB.out.kw.trans (HK2.out.trans (K7.trans K))).cell hb0).trans hc0⟩
    have HFq:Hid (∀r,FirstAt xs IsFail r->r= (q:Int)):=fun r hr=> by
     rcases hr with ⟨j,hj,rfl,hp,hn⟩ | ⟨_,hn⟩
     ·rcases Nat.lt_trichotomy j q with h | h | h
      ·exact absurd hp (hqn j h)
      ·rw [h]
      ·exact absurd hqf (hn q h)
     ·exact absurd hqf (hn q hql)
    have hqi: (q:Int) < (s.asks.length:Int):=by omega
    clear hc0 hnm hqf hqn hqt
    go_upto_region 11 with fail
    refine Qx.rg 9 HS11.out fun wd KD Z_=> ?_
    refine Qx.tk 0 Z_ ?_
    refine Qx.tk 1 Z_ ?_
    refine Qx.tk 2 Z_ ?_
    refine Qx.tk 3 Z_ ?_
    refine Qx.nx 4 (fun K hK=> ?_)
    rw [if_pos (by rfl)]
    go_simp
    go_at_call 195
    have hixf:=indexFail wd av cv xs (by unfold maxLen;omega) (fun c hc=> by have:=hxt c hc;unfold maxLen;omega) (HAn.out.kept (k57.trans KD))
    rw [HXk.out] at hixf
    refine hixf.mono ?_
    rintro e w8 ⟨⟨r8,rfl,hr8⟩,k8⟩
    obtain rfl:=HFq.out r8 hr8
    have K8:=KD.trans k8
    refine hK.out _ _ (fun _=> HS11.out _ K8) ?_
    clear hK K Z_ hr8 hixf
    have Z_:=HS11.out _ K8
    try simp only [Act.put,upA,upB,upC]
    refine Qx.tk 5 Z_ ?_
    refine Qx.tk 6 Z_ ?_
    refine Qx.tk 7 Z_ ?_
    refine Qx.tk 8 Z_ ?_
    have hB8:=HB2.out.kept (K7.trans K8)
    have hT8:=hB8.at HI.out
    obtain ⟨⟨_,x11⟩,f11⟩:=hT8.row.row.at (i:=11) (by omega)
    have tz8:=hT8.row.lt
    have HB9:=Kz (hB8.store (t':= { t with bl:=nm }) HI.out (o:=11) (v:= .string nm) (by omega) rfl rfl rfl rfl rfl rfl rfl rfl rfl rfl)
    have p3:= (K8.cell (b:=w6.heap.size) (o:=3) hz67).trans p3
    have hz8:w6.heap.size < w8.heap.size:=Nat.lt_of_lt_of_le hz67 K8.size
    have hne8:w6.heap.size≠t.tb:=by have:= (HB.out.at HI.out).row.lt;have h9:= (HK2.out.trans K6).size;omega
    clear hB8 hT8
    refine Qx.nx 9 (fun K hK=> ?_)
    go_simp
    refine hK.out _ _ (fun h=> absurd rfl h) ?_
    clear hK K Z_
    try simp only [Act.put,upA,upB,upC]
    refine Qx.dn ?_
    have hil:i < ts.length:= (List.getElem?_eq_some_iff.1 HI.out).1
    have p3b: (w8.setCell ⟨t.tb,11,none⟩ (.string nm)).cell? ⟨w6.heap.size,3,none⟩=some (.string g.text):=by rw [Zk hne8];exact p3
    have hz9:w6.heap.size < (w8.setCell ⟨t.tb,11,none⟩ (.string nm)).heap.size:=by rw [size_setCell];exact hz8
    obtain ⟨w9,hw9⟩: ∃w9,w9=w8.setCell ⟨t.tb,11,none⟩ (.string nm):= ⟨_,rfl⟩
    rw [<-hw9] at HB9 p3b hz9⊢
    clear hw9 p3 x11 f11 tz8 hz8
    go_wp2_with fail
    refine (benchEnd_any HB9.out (i:=i) (t:= { t with bl:=nm }) (List.getElem?_set_self hil) true g.text hsz hwn (fun b hb=> ?_) hwd).mono ?_
    ·obtain ⟨j,u,hji,hju,h3,h4,h5⟩:=HW.out b hb
     exact ⟨j,u,by rw [List.getElem?_set_ne (Ne.symm hji),List.getElem?_set_ne (Ne.symm hji)];exact hju,h3,h4,h5⟩
    rintro e wF ⟨rfl,hBF⟩
    rw [List.set_set] at hBF
    have HBF:=Kz hBF
    clear hBF
    go_wp2_with fail
    go_ret
    rw [HGG.out]
    exact .inl ⟨hgo,rfl,nm,HBl.out,HBF.out⟩
end
theorem set_mem {ts:List Zx} {i:Nat} {t t':Zx} (hi:ts[i]? =some t) (hn: (ts.map (·.tb)).Nodup): ∀u∈ts.set i t',u=t'∨(u∈ts∧u.tb≠t.tb):=fun u hu=> by
 obtain ⟨hl,rfl⟩:=List.getElem?_eq_some_iff.1 hi
 obtain ⟨j,hj,rfl⟩:=List.getElem_of_mem hu
 rw [List.length_set] at hj
 rw [List.getElem_set]
 split
 ·exact .inl rfl
 ·rename_i hne
  refine .inr ⟨List.getElem_mem hj,fun e=> ?_⟩
  have hnd2:=List.pairwise_iff_getElem.1 hn
  rcases Nat.lt_or_gt_of_ne hne with g | g
  ·have:=hnd2 i j (by simpa using hl) (by simpa using hj) g
   simp at this
   exact this e.symm
  ·have:=hnd2 j i (by simpa using hj) (by simpa using hl) g
   simp at this
   exact this e
theorem set_in {ts:List Zx} {i:Nat} {t t':Zx} (hi:ts[i]? =some t):t'∈ts.set i t'∧∀u∈ts,u.tb≠t.tb->u∈ts.set i t':=by
 obtain ⟨hl,rfl⟩:=List.getElem?_eq_some_iff.1 hi
 refine ⟨List.mem_iff_getElem.2 ⟨i,by rw [List.length_set];exact hl,by simp⟩,fun u hu hne=> ?_⟩
 obtain ⟨j,hj,rfl⟩:=List.getElem_of_mem hu
 refine List.mem_iff_getElem.2 ⟨j,by rw [List.length_set];exact hj, ?_⟩
 rw [List.getElem_set,if_neg (fun e=> hne (by subst e;rfl))]
theorem decT_mem {ts:List Zx} {l:List Nat} {u:Zx}:u∈decT ts l↔∃v∈ts,u=if v.tb∈l then { v with op:=v.op - 1 } else v:=by
 unfold decT
 rw [List.mem_map]
 constructor
 ·rintro ⟨v,h1,h2⟩;exact ⟨v,h1,h2.symm⟩
 ·rintro ⟨v,h1,h2⟩;exact ⟨v,h1,h2.symm⟩
theorem dec_bl {v:Zx} {l:List Nat}: (if v.tb∈l then { v with op:=v.op - 1 } else v:Zx).bl=v.bl:=by
 by_cases h:v.tb∈l
 ·rw [if_pos h]
 ·rw [if_neg h]
theorem dec_bq {v:Zx} {l:List Nat}: (if v.tb∈l then { v with op:=v.op - 1 } else v:Zx).qs=v.qs:=by
 by_cases h:v.tb∈l
 ·rw [if_pos h]
 ·rw [if_neg h]
theorem dec_same {v:Zx} {l:List Nat}: (if v.tb∈l then { v with op:=v.op - 1 } else v:Zx).tb=v.tb∧(if v.tb∈l then { v with op:=v.op - 1 } else v:Zx).r=v.r:=by
 by_cases h:v.tb∈l
 ·rw [if_pos h];exact ⟨rfl,rfl⟩
 ·rw [if_neg h];exact ⟨rfl,rfl⟩
theorem runs_dec (ts:List Zx) (l:List Nat):Qk (decT ts l)=Qk ts:=by
 unfold Qk decT
 rw [List.map_map]
 congr 1
 funext v
 exact dec_same.2
theorem env_set {l:List Qz} {i:Nat} {r r':Qz} (ha:AscX l) (hi:l[i]? =some r) (hn:r'.name=r.name) (m:ByteArray):Qj (l.set i r') m=if m=r.name then some r' else Qj l m:=by
 obtain ⟨hl,rfl⟩:=List.getElem?_eq_some_iff.1 hi
 have ha':=asc_set ha hl hn
 have hin:r'∈l.set i r':=List.mem_iff_getElem.2 ⟨i,by rw [List.length_set];exact hl,by simp⟩
 by_cases e:m=l[i].name
 ·rw [if_pos e]
  have:=asc_env ha' hin
  rw [hn,<-e] at this
  exact this
 ·rw [if_neg e]
  cases h:Qj l m with
  | some x=>
   obtain ⟨h1,h2⟩:=env_mem h
   obtain ⟨j,hj,rfl⟩:=List.getElem_of_mem h1
   have hji:i≠j:=fun e2=> e (by subst e2;exact h2.symm)
   have hx:l[j]∈l.set i r':=List.mem_iff_getElem.2 ⟨j,by rw [List.length_set];exact hj,by rw [List.getElem_set,if_neg hji]⟩
   have:=asc_env ha' hx
   rw [h2] at this
   exact this
  | none=>
   unfold Qj at h⊢
   rw [List.find?_eq_none] at h⊢
   intro x hx
   obtain ⟨j,hj,rfl⟩:=List.getElem_of_mem hx
   rw [List.length_set] at hj
   rw [List.getElem_set]
   split
   ·rw [hn];simpa using fun e2=> e e2.symm
   ·exact h _ (List.getElem_mem hj)
theorem filter_ne_len {l:List ByteArray} {n:ByteArray} (h:l.Nodup): (l.filter fun a=> !decide (a=n)).length=if hasN l n=true then l.length - 1 else l.length:=by
 induction l with
 | nil=> simp [hasN]
 | cons x l ih=>
  rw [List.nodup_cons] at h
  have ih:=ih h.2
  by_cases e:x=n
  ·subst e
   have hno: ¬hasN l x=true:=fun g=> h.1 (hasN_iff.1 g)
   rw [if_neg hno] at ih
   rw [if_pos (hasN_iff.2 (by simp))]
   simp [ih]
  ·have e1:hasN (x :: l) n=hasN l n:=by simp [hasN,e]
   rw [e1]
   simp only [List.filter_cons,e,decide_false,Bool.not_false,if_true,List.length_cons]
   rw [ih]
   by_cases g:hasN l n=true
   ·rw [if_pos g,if_pos g]
    have:0 < l.length:=List.length_pos_of_mem (hasN_iff.1 g)
    omega
   ·rw [if_neg g,if_neg g]
theorem BS.self {Kj:List Qq} {ts:List Zx} {ws:ByteArray->List Nat} (h:BS Kj ts ws) {t:Zx} (ht:t∈ts) (hc:CanGo (Q_ Kj) (Qj (Qk ts)) t.r):t.op=0∧pend (Q_ Kj) (Qj (Qk ts)) t.r=[]∧∀s,t.tb∉ws s:=by
 have hg:=h.good.good t.r (List.mem_map_of_mem ht)
 obtain ⟨A,hA,_⟩:=hg.act
 have hp:= ((canGo_iff (by rw [hA];rfl)).1 hc).2
 refine ⟨by rw [h.op t ht,hp];rfl,hp,fun s hs=> ?_⟩
 have:= (h.wt s t ht).1 hs
 rw [hp] at this
 cases this
theorem BS.ended {Kj:List Qq} (hok:ActsOk (Q_ Kj)) {ts:List Zx} {ws:ByteArray->List Nat} (h:BS Kj ts ws) (hn: (ts.map (·.tb)).Nodup) {i:Nat} {t t':Zx} (hi:ts[i]? =some t) (hc:CanGo (Q_ Kj) (Qj (Qk ts)) t.r) (hr:t'.r= (Y_ (Q_ Kj) (Qj (Qk ts)) t.r).1) (ho:t'.r.over=true) (ha: (Y_ (Q_ Kj) (Qj (Qk ts)) t.r).2=[]) (htb:t'.tb=t.tb) (hop:t'.op=t.op) (hbl:BlOk (Q_ Kj) t'.r t'.bl) (hqs:t'.qs=t.qs):
  BS Kj (decT (ts.set i t') (ws t.r.name)) (fun n=> if n=t.r.name then [] else ws n)∧Qj (Qk (decT (ts.set i t') (ws t.r.name)))=doX (Q_ Kj) (Qj (Qk ts)) t.r.name:=by
 have ht:t∈ts:=List.mem_of_getElem? hi
 obtain ⟨h1,h2,h3⟩:=h.self ht hc
 have hlr: (Qk ts)[i]? =some t.r:=by unfold Qk;rw [List.getElem?_map,hi];rfl
 have hli:i < ts.length:= (List.getElem?_eq_some_iff.1 hi).1
 have hnm:t'.r.name=t.r.name:=by rw [hr,nextOf_name]
 have hruns:Qk (decT (ts.set i t') (ws t.r.name))= (Qk ts).set i t'.r:=by rw [runs_dec,runs_set hli]
 have he0:Qj (Qk ts) t.r.name=some t.r:=asc_env h.good.asc (List.mem_map_of_mem ht)
 have henv:Qj (Qk (decT (ts.set i t') (ws t.r.name)))=doX (Q_ Kj) (Qj (Qk ts)) t.r.name:=by
  funext m
  rw [hruns,env_set h.good.asc hlr hnm,doX_eq he0,hr]
  by_cases e:m=t.r.name
  ·rw [if_pos e,if_pos e]
  ·rw [if_neg e,if_neg e]
   cases Qj (Qk ts) m with
   | some x=> rfl
   | none=>
    simp only
    rw [if_neg (by rw [ha];simp [hasN])]
 have hg:=h.good.good t.r (List.mem_map_of_mem ht)
 have hw: (Q_ Kj t.r.name).isSome=true:=by obtain ⟨A,hA,_⟩:=hg.act;rw [hA];rfl
 have hpo: ∀x:Qz,pend (Q_ Kj) (Qj (Qk (decT (ts.set i t') (ws t.r.name)))) x= (pend (Q_ Kj) (Qj (Qk ts)) x).filter (fun a=> !decide (a=t.r.name)):=fun x=> by
  rw [henv,pend_do he0 hc.1 hw,<-hr,if_pos ho]
 have hpt: ∀σ,pend (Q_ Kj) σ t'.r=[]:=fun σ=> by unfold pend;rw [if_pos (.inl ho)]
 have hnd: ∀u∈ts,(pend (Q_ Kj) (Qj (Qk ts)) u.r).Nodup:=fun u hu=> by
  obtain ⟨A,hA,g0,g1⟩:= (h.good.good u.r (List.mem_map_of_mem hu)).act
  exact pend_nodup hok hA g0 g1
 have hmem: ∀u∈decT (ts.set i t') (ws t.r.name),u=t'∨∃v∈ts,v.tb≠t.tb∧u=if v.tb∈ws t.r.name then { v with op:=v.op - 1 } else v:=fun u hu=> by
  obtain ⟨v,hv,rfl⟩:=decT_mem.1 hu
  rcases set_mem hi hn v hv with rfl | ⟨g1,g2⟩
  ·left
   rw [if_neg (by rw [htb];exact h3 _)]
  ·exact .inr ⟨v,g1,g2,rfl⟩
 refine ⟨⟨⟨by rw [hruns];exact asc_set h.good.asc (List.getElem?_eq_some_iff.1 hlr).1 (hnm.trans (congrArg Qz.name (List.getElem?_eq_some_iff.1 hlr).2).symm),fun x hx=> ?_⟩,fun u hu=> ?_,fun s u hu=> ?_,fun s=> ?_,fun s b hb=> ?_,fun u hu=> ?_,fun u hu=> ?_⟩,henv⟩
 rotate_right
 ·rw [henv]
  rcases hmem u hu with rfl | ⟨v,hv,_,rfl⟩
  ·have:= (h.qs t ht).unit hc
   rw [ha,List.map_nil,List.append_nil,<-hr,<-hqs] at this
   exact this.mono ⟨t.r,he0,hc⟩
  ·rw [dec_same.2,dec_bq];exact (h.qs v hv).mono ⟨t.r,he0,hc⟩
 rotate_right
 ·rcases hmem u hu with rfl | ⟨v,hv,_,rfl⟩
  ·exact hbl
  ·rw [dec_same.2,dec_bl];exact h.bl v hv
 ·obtain ⟨u,hu,rfl⟩:=List.mem_map.1 hx
  rcases hmem u hu with rfl | ⟨v,hv,_,rfl⟩
  ·rw [hr];exact nextOf_good hok h.good.env hg hc
  ·rw [dec_same.2];exact h.good.good v.r (List.mem_map_of_mem hv)
 ·rcases hmem u hu with rfl | ⟨v,hv,hne,rfl⟩
  ·rw [hpt,hop,h1];rfl
  ·rw [dec_same.2,hpo,filter_ne_len (hnd v hv)]
   by_cases g:v.tb∈ws t.r.name
   ·rw [if_pos g,if_pos (hasN_iff.2 ((h.wt _ v hv).1 g))]
    show v.op - 1=_
    rw [h.op v hv]
   ·rw [if_neg g,if_neg (fun g2=> g ((h.wt _ v hv).2 (hasN_iff.1 g2)))]
    exact h.op v hv
 ·rcases hmem u hu with rfl | ⟨v,hv,hne,rfl⟩
  ·rw [hpt]
   simp only [List.not_mem_nil,iff_false]
   intro g
   split at g
   ·cases g
   ·rw [htb] at g;exact h3 _ g
  ·rw [dec_same.1,dec_same.2,hpo,List.mem_filter]
   by_cases e:s=t.r.name
   ·simp [e]
   ·simp only [e,if_false]
    rw [h.wt s v hv]
    simp
 ·by_cases e:s=t.r.name
  ·rw [if_pos e];exact List.nodup_nil
  ·rw [if_neg e];exact h.wn s
 ·split at hb
  ·cases hb
  ·obtain ⟨v,hv,e⟩:=h.ww s b hb
   by_cases g:v.tb=t.tb
   ·exact absurd hb (by rw [<-e,g];exact h3 s)
   ·exact ⟨_,decT_mem.2 ⟨v,(set_in hi).2 v hv g,rfl⟩,by rw [dec_same.1];exact e⟩
theorem tb_one {ts:List Zx} (hn: (ts.map (·.tb)).Nodup) {u v:Zx} (hu:u∈ts) (hv:v∈ts) (e:u.tb=v.tb):u=v:=by
 obtain ⟨i,hi,rfl⟩:=List.getElem_of_mem hu
 obtain ⟨j,hj,rfl⟩:=List.getElem_of_mem hv
 have hnd2:=List.pairwise_iff_getElem.1 hn
 rcases Nat.lt_trichotomy i j with g | g | g
 ·have:=hnd2 i j (by simpa using hi) (by simpa using hj) g
  simp at this
  exact absurd e this
 ·subst g;rfl
 ·have:=hnd2 j i (by simpa using hj) (by simpa using hi) g
  simp at this
  exact absurd e.symm this
theorem alike_mem {ts ts':List Zx} (h: (ts'.map fun t=> (t.tb,t.r,t.op,t.bq))= (ts.map fun t=> (t.tb,t.r,t.op,t.bq))): (∀u∈ts',∃v∈ts,v.tb=u.tb∧v.r=u.r∧v.op=u.op∧v.bq=u.bq)∧(∀v∈ts,∃u∈ts',u.tb=v.tb∧u.r=v.r∧u.op=v.op∧u.bq=v.bq):=by
 constructor
 ·intro u hu
  have: (u.tb,u.r,u.op,u.bq)∈ts'.map fun t=> (t.tb,t.r,t.op,t.bq):=List.mem_map.2 ⟨u,hu,rfl⟩
  rw [h] at this
  obtain ⟨v,hv,e⟩:=List.mem_map.1 this
  simp only [Prod.mk.injEq] at e
  exact ⟨v,hv,e.1,e.2.1,e.2.2.1,e.2.2.2⟩
 ·intro v hv
  have: (v.tb,v.r,v.op,v.bq)∈ts.map fun t=> (t.tb,t.r,t.op,t.bq):=List.mem_map.2 ⟨v,hv,rfl⟩
  rw [<-h] at this
  obtain ⟨u,hu,e⟩:=List.mem_map.1 this
  simp only [Prod.mk.injEq] at e
  exact ⟨u,hu,e.1,e.2.1,e.2.2.1,e.2.2.2⟩
theorem alike_runs {ts ts':List Zx} (h: (ts'.map fun t=> (t.tb,t.r,t.op,t.bq))= (ts.map fun t=> (t.tb,t.r,t.op,t.bq))):Qk ts'=Qk ts:=by
 have:=congrArg (List.map fun p:Nat×Qz×Nat×ByteArray×List Value=> p.2.1) h
 rw [List.map_map,List.map_map] at this
 exact this
theorem BS.asked {Kj:List Qq} (hok:ActsOk (Q_ Kj)) {ts ts0 ts':List Zx} {ws ws':ByteArray->List Nat} (h:BS Kj ts ws) (hn: (ts.map (·.tb)).Nodup) {i:Nat} {t t1:Zx} (hi:ts[i]? =some t) (hc:CanGo (Q_ Kj) (Qj (Qk ts)) t.r) (hr:t1.r= (Y_ (Q_ Kj) (Qj (Qk ts)) t.r).1) (ho:t1.r.over=false) (hv:t1.r.Zj≠0) (htb:t1.tb=t.tb) (hop:t1.op=t.op∧t1.bl=t.bl∧t1.qs=t.qs++ (Y_ (Q_ Kj) (Qj (Qk ts)) t.r).2.map Value.string)
  (hal: (ts0.map fun t=> (t.tb,t.r,t.op,t.bq))= ((ts.set i t1).map fun t=> (t.tb,t.r,t.op,t.bq))) (ha':AscX (Qk ts')) (hn': (ts'.map (·.tb)).Nodup) {A:ActionD} (hA:Q_ Kj t.r.name=some A) (has: (Y_ (Q_ Kj) (Qj (Qk ts)) t.r).2= (stepOf A t1.r.at').asks) (hI:AskI Kj ts0 ws t.tb (Y_ (Q_ Kj) (Qj (Qk ts)) t.r).2 (Y_ (Q_ Kj) (Qj (Qk ts)) t.r).2 ts' ws'):
  BS Kj ts' ws'∧Qj (Qk ts')=doX (Q_ Kj) (Qj (Qk ts)) t.r.name:=by
 have ht:t∈ts:=List.mem_of_getElem? hi
 obtain ⟨h1,h2,h3⟩:=h.self ht hc
 have hlr: (Qk ts)[i]? =some t.r:=by unfold Qk;rw [List.getElem?_map,hi];rfl
 have hli:i < ts.length:= (List.getElem?_eq_some_iff.1 hi).1
 have hnm:t1.r.name=t.r.name:=by rw [hr,nextOf_name]
 have hr0:Qk ts0= (Qk ts).set i t1.r:=by rw [alike_runs hal,runs_set hli]
 have he0:Qj (Qk ts) t.r.name=some t.r:=asc_env h.good.asc (List.mem_map_of_mem ht)
 have hen0: ∀m,Qj (Qk ts0) m=if m=t.r.name then some t1.r else Qj (Qk ts) m:=fun m=> by rw [hr0];exact env_set h.good.asc hlr hnm m
 have henv:Qj (Qk ts')=doX (Q_ Kj) (Qj (Qk ts)) t.r.name:=by
  funext m
  rw [hI.env m,hen0,doX_eq he0,hr]
  by_cases e:m=t.r.name
  ·rw [if_pos e,if_pos e]
  ·rw [if_neg e,if_neg e]
   cases Qj (Qk ts) m <;> rfl
 have hg:=h.good.good t.r (List.mem_map_of_mem ht)
 have hw: (Q_ Kj t.r.name).isSome=true:=by rw [hA];rfl
 have hpo: ∀x:Qz,pend (Q_ Kj) (Qj (Qk ts')) x=pend (Q_ Kj) (Qj (Qk ts)) x:=fun x=> by
  rw [henv,pend_do he0 hc.1 hw,<-hr,if_neg (by rw [ho];simp)]
 have hpt:pend (Q_ Kj) (Qj (Qk ts')) t1.r=unans Kj ts0 (Y_ (Q_ Kj) (Qj (Qk ts)) t.r).2:=by
  unfold pend unans
  rw [if_neg (by rw [ho];simp [hv]),hnm,hA]
  simp only
  rw [has]
  congr 1
  funext a
  rw [hI.ans a]
 obtain ⟨t0,ht0,tm,htm,e1,e2,e3,e4,e5⟩:=hI.me
 obtain ⟨al1,al2⟩:=alike_mem hal
 have hr3:tm.r=t1.r∧t0.op=0∧tm.bl=t.bl∧tm.qs=t1.qs:=by
  obtain ⟨v,hv1,g1,g2,g3,g5⟩:=al1 t0 ht0
  rcases set_mem hi hn v hv1 with rfl | ⟨_,g4⟩
  ·exact ⟨by rw [e3,<-g2],by rw [<-g3,hop.1,h1],(congrArg Prod.fst (e5.trans g5.symm)).trans hop.2.1,congrArg Prod.snd (e5.trans g5.symm)⟩
  ·exact absurd (g1.trans e1) g4
 have old: ∀u∈ts',u.tb≠t.tb->(∃v∈ts,v.tb=u.tb∧v.r=u.r∧v.op=u.op∧v.bq=u.bq)∨(u.r=Qz.fresh u.r.name∧(u.op=0∧u.bq= (⟨#[]⟩,[]))∧Qj (Qk ts) u.r.name=none):=fun u hu hne=> by
  rcases hI.other u hu hne with ⟨u0,hu0,g1,g2,g3,g5⟩ | ⟨g1,g2,g3⟩
  ·obtain ⟨v,hv1,k1,k2,k3,k5⟩:=al1 u0 hu0
   rcases set_mem hi hn v hv1 with rfl | ⟨k4,_⟩
   ·exact absurd (g1.symm.trans (k1.symm.trans htb)) hne
   ·exact .inl ⟨v,k4,k1.trans g1,k2.trans g2,k3.trans g3,k5.trans g5⟩
  ·refine .inr ⟨g1,g2, ?_⟩
   rw [hen0] at g3
   split at g3
   ·cases g3
   ·exact g3
 have keep: ∀v∈ts,v.tb≠t.tb->∃u∈ts',u.tb=v.tb∧u.r=v.r:=fun v hv1 hne=> by
  obtain ⟨u0,hu0,g1,g2,_⟩:=al2 v ((set_in hi).2 v hv1 hne)
  obtain ⟨u,hu,k1,k2⟩:=hI.old u0 hu0
  exact ⟨u,hu,k1.trans g1,k2.trans g2⟩
 have hws: ∀s b,b∈ws' s↔b∈ws s∨(hasN (unans Kj ts0 (Y_ (Q_ Kj) (Qj (Qk ts)) t.r).2) s=true∧b=t.tb):=fun s b=> by
  rw [hI.wt s]
  split
  ·rename_i g;simp [g]
  ·rename_i g;simp [g]
 refine ⟨⟨⟨ha',fun x hx=> ?_⟩,fun u hu=> ?_,fun s u hu=> ?_,fun s=> ?_,fun s b hb=> ?_,fun u hu=> ?_,fun u hu=> ?_⟩,henv⟩
 rotate_right
 ·rw [henv]
  by_cases g:u.tb=t.tb
  ·have:=tb_one hn' hu htm (g.trans e2.symm)
   rw [this,hr3.1,hr3.2.2.2,hr,hop.2.2]
   exact ((h.qs t ht).unit hc).mono ⟨t.r,he0,hc⟩
  ·rcases old u hu g with ⟨v,hv1,_,g2,_,g3⟩ | ⟨g1,g2,_⟩
   ·rw [<-g2,<-show v.qs=u.qs from congrArg Prod.snd g3];exact (h.qs v hv1).mono ⟨t.r,he0,hc⟩
   ·exact QsOk.still (congrArg Prod.snd g2.2) g1
 rotate_right
 ·by_cases g:u.tb=t.tb
  ·have:=tb_one hn' hu htm (g.trans e2.symm)
   rw [this,hr3.1,hr3.2.2.1]
   exact BlOk.still ((h.bl t ht).open hc.1) ho
  ·rcases old u hu g with ⟨v,hv1,_,g2,_,g3⟩ | ⟨g1,g2,_⟩
   ·rw [<-g2,<-show v.bl=u.bl from congrArg Prod.fst g3];exact h.bl v hv1
   ·exact BlOk.still (congrArg Prod.fst g2.2) (by rw [g1];rfl)
 ·obtain ⟨u,hu,rfl⟩:=List.mem_map.1 hx
  by_cases g:u.tb=t.tb
  ·have:=tb_one hn' hu htm (g.trans e2.symm)
   rw [this,hr3.1,hr]
   exact nextOf_good hok h.good.env hg hc
  ·rcases old u hu g with ⟨v,hv1,_,g2,_⟩ | ⟨g1,_,_⟩
   ·rw [<-g2];exact h.good.good v.r (List.mem_map_of_mem hv1)
   ·have hsome: (Q_ Kj u.r.name).isSome=true:=by
     have h5:=asc_env ha' hx
     rw [hI.env] at h5
     rcases hI.other u hu g with ⟨u0,hu0,k1,k2,_⟩ | ⟨_,_,k3⟩
     ·obtain ⟨v,hv1,m1,m2,_⟩:=al1 u0 hu0
      rcases set_mem hi hn v hv1 with rfl | ⟨m4,_⟩
      ·exact absurd (k1.symm.trans (m1.symm.trans htb)) g
      ·obtain ⟨B,hB,_⟩:= (h.good.good v.r (List.mem_map_of_mem m4)).act
       rw [<-k2,<-m2,hB];rfl
     ·rw [k3] at h5
      simp only at h5
      split at h5
      ·rename_i h6;exact h6.2
      ·cases h5
    rw [g1]
    exact fresh_good hok hsome
 ·by_cases g:u.tb=t.tb
  ·have:=tb_one hn' hu htm (g.trans e2.symm)
   rw [this,hr3.1,hpt,e4,hr3.2.1,Nat.zero_add]
  ·rw [hpo]
   rcases old u hu g with ⟨v,hv1,_,g2,g3,_⟩ | ⟨g1,g2,_⟩
   ·rw [<-g2,<-g3];exact h.op v hv1
   ·rw [g1,g2.1,pend_fresh];rfl
 ·by_cases g:u.tb=t.tb
  ·have:=tb_one hn' hu htm (g.trans e2.symm)
   rw [this,hr3.1,hpt,hws,e2,hasN_iff]
   exact ⟨fun k=> by rcases k with k | k;exact absurd k (h3 s);exact k.1,fun k=> .inr ⟨k,rfl⟩⟩
  ·rw [hpo,hws]
   rcases old u hu g with ⟨v,hv1,g1,g2,g3⟩ | ⟨g1,g2,g3⟩
   ·rw [<-g1,<-g2,<-h.wt s v hv1]
    exact ⟨fun k=> by rcases k with k | ⟨_,k⟩;exact k;exact absurd (g1.symm.trans k) g,.inl⟩
   ·rw [g1,pend_fresh]
    simp only [List.not_mem_nil,iff_false]
    rintro (k | ⟨_,k⟩)
    ·obtain ⟨v,hv1,m1⟩:=h.ww s u.tb k
     obtain ⟨u2,hu2,m2,m3⟩:=keep v hv1 (fun e=> g (m1.symm.trans e))
     have:=tb_one hn' hu hu2 (m1.symm.trans m2.symm)
     have h5:=asc_env h.good.asc (List.mem_map_of_mem (f:=fun t:Zx=> t.r) hv1)
     rw [<-m3,<-this,g3] at h5
     cases h5
    ·exact g k
 ·rw [hI.wt s]
  split
  ·rw [List.nodup_append]
   exact ⟨h.wn s,by simp,fun x hx y hy e=> by rw [List.mem_singleton] at hy;rw [e,hy] at hx;exact h3 s hx⟩
  ·exact h.wn s
 ·rcases (hws s b).1 hb with k | ⟨_,k⟩
  ·obtain ⟨v,hv1,m1⟩:=h.ww s b k
   by_cases g:v.tb=t.tb
   ·exact absurd k (by rw [<-m1,g];exact h3 s)
   ·obtain ⟨u2,hu2,m2,_⟩:=keep v hv1 g
    exact ⟨u2,hu2,m2.trans m1⟩
  ·exact ⟨tm,htm,e2.trans k.symm⟩
def FinishOk (wz:World):Prop:= ∀(W:World) (give:ByteArray) (a:Option Addr) (cap:Nat) (l:List ByteArray),K_ wz W->give.size<=maxLen->l.length<=maxLen->Strs W a l->l.length<=cap->Calls Tryz.prog 180 #[.string give,.slice a l.length cap] W fun e w'=> e= .returned (.string (finB give l))∧K_ W w'
theorem spent_any (w:World) (tb:Nat) (v:Int) (hc:w.cell? ⟨tb,5,none⟩=some (.int .i64 v)):
  Calls Tryz.prog 118 #[.pointer (some ⟨tb,0,none⟩)] w fun e w'=> Says e (v=20)∧w'=w:=by
 go_enter Tryz.func118,Tryz.ntmps118
 go_wp2
 go_ret
 exact ⟨by simp [Says],rfl⟩
theorem canGo_answers {W:Acts} {σ:Env} {r:Qz} {A:ActionD} (h:CanGo W σ r) (hA:W r.name=some A) (hv:r.Zj≠0): ∃xs,Yq W σ (stepOf A r.at').asks=some xs:=by
 rcases h.2 with h | ⟨A',xs,hA',hx⟩
 ·exact absurd h hv
 ·rw [hA] at hA'
  cases hA'
  exact ⟨xs,hx⟩
theorem BS.wlen {Kj:List Qq} {ts:List Zx} {ws:ByteArray->List Nat} (h:BS Kj ts ws) (s:ByteArray): (ws s).length<=ts.length:=by
 have h1:=List.Nodup.length_le_of_subset (h.wn s) (l₂:=ts.map (·.tb)) (fun b hb=> by
  obtain ⟨t,ht,e⟩:=h.ww s b hb
  exact List.mem_map.2 ⟨t,ht,e⟩)
 simpa using h1
theorem BS.waiters {Kj:List Qq} (hok:ActsOk (Q_ Kj)) {ts:List Zx} {ws:ByteArray->List Nat} (h:BS Kj ts ws) (_hn: (ts.map (·.tb)).Nodup) {i:Nat} {t:Zx} (hi:ts[i]? =some t) (hc:CanGo (Q_ Kj) (Qj (Qk ts)) t.r): ∀b∈ws t.r.name,∃(j:Nat) (u:Zx),j≠i∧ts[j]? =some u∧u.tb=b∧1<=u.op∧u.op<=1000:=fun b hb=> by
 obtain ⟨u,hu,e⟩:=h.ww _ b hb
 obtain ⟨_,_,h3⟩:=h.self (List.mem_of_getElem? hi) hc
 obtain ⟨j,hj,rfl⟩:=List.getElem_of_mem hu
 have hp:= (h.wt t.r.name ts[j] hu).1 (by rw [e];exact hb)
 have ho:=h.op ts[j] hu
 refine ⟨j,ts[j],fun e2=> ?_,List.getElem?_eq_getElem hj,e, ?_, ?_⟩
 ·subst e2
  rw [List.getElem?_eq_getElem hj] at hi
  cases hi
  exact h3 _ (by rw [e];exact hb)
 ·rw [ho];exact List.length_pos_of_mem hp
 ·rw [ho]
  obtain ⟨A,hA,g0,g1⟩:= (h.good.good ts[j].r (List.mem_map_of_mem hu)).act
  have h5:= (asks_ok (hok _ _ hA).1 g0 g1).1
  unfold pend
  split
  ·exact Nat.zero_le _
  ·rw [hA]
   simp only
   have:=List.length_filter_le (fun a=> (ansOf (Q_ Kj) (Qj (Qk ts)) a).isNone) (stepOf A ts[j].r.at').asks
   omega
structure DoArr (Kj:List Qq) (σ:Env) (t t2:Zx):Prop where
 nx:Y_ (Q_ Kj) σ t.r= (if (stepOf ⟨t.cost,t.steps⟩ t2.r.at').fin=true then { t2.r with over:=true,fail:= (stepOf ⟨t.cost,t.steps⟩ t2.r.at').bad,text:=finB (stepOf ⟨t.cost,t.steps⟩ t2.r.at').give t2.r.texts } else t2.r,(stepOf ⟨t.cost,t.steps⟩ t2.r.at').asks)
 lo:0<=t2.r.at'
 hi:t2.r.at' < t.steps.length
 ov:t2.r.over=false
 vi:t2.r.Zj≠0
 nm:t2.r.name=t.r.name
theorem DoArr.first {Kj:List Qq} {σ:Env} {t t1:Zx} (h1:t1= { t with r:= { t.r with Zj:=t.r.Zj+1 } }) (hv:t.r.Zj=0) (hA:Q_ Kj t.r.name=some ⟨t.cost,t.steps⟩) (hc:CanGo (Q_ Kj) σ t.r) (h0:0<=t.r.at') (hl:t.r.at' < t.steps.length):DoArr Kj σ t t1:=by
 subst h1
 refine ⟨?_,h0,hl,hc.1,by show t.r.Zj+1≠0;omega,rfl⟩
 unfold Y_
 rw [hA]
 simp only
 rw [if_pos hv]
 rfl
theorem next_over {Kj:List Qq} {σ:Env} {t:Zx} {xs:List Xq} (hA:Q_ Kj t.r.name=some ⟨t.cost,t.steps⟩) (hv:t.r.Zj≠0) (h20:t.r.Zj < 20) (hx:Yq (Q_ Kj) σ (stepOf ⟨t.cost,t.steps⟩ t.r.at').asks=some xs) (hg: (goOnF (stepOf ⟨t.cost,t.steps⟩ t.r.at') xs).over=true):Y_ (Q_ Kj) σ t.r= ({ t.r with Zj:=t.r.Zj+1,over:=true,fail:=true,text:= (goOnF (stepOf ⟨t.cost,t.steps⟩ t.r.at') xs).text },[]):=by
 unfold Y_
 rw [hA]
 simp only
 rw [if_neg hv,hx]
 simp only
 rw [if_neg (by omega),if_pos hg]
theorem DoArr.gone {Kj:List Qq} {ts:List Zx} {t t2:Zx} {xs:List Xq} (hok:ActsOk (Q_ Kj)) (hgl:GoodL Kj (Qk ts)) (hgd:t.r.Good Kj) (hA:Q_ Kj t.r.name=some ⟨t.cost,t.steps⟩) (hc:CanGo (Q_ Kj) (Qj (Qk ts)) t.r) (hv:t.r.Zj≠0) (h20:t.r.Zj < 20) (hx:Yq (Q_ Kj) (Qj (Qk ts)) (stepOf ⟨t.cost,t.steps⟩ t.r.at').asks=some xs) (hg: (goOnF (stepOf ⟨t.cost,t.steps⟩ t.r.at') xs).over=false) (h2:t2.r= { t.r with Zj:=t.r.Zj+1,at':= (goOnF (stepOf ⟨t.cost,t.steps⟩ t.r.at') xs).at',texts:=t.r.texts++goodOf xs }):DoArr Kj (Qj (Qk ts)) t t2:=by
 have hnx:Y_ (Q_ Kj) (Qj (Qk ts)) t.r= (if (stepOf ⟨t.cost,t.steps⟩ t2.r.at').fin=true then { t2.r with over:=true,fail:= (stepOf ⟨t.cost,t.steps⟩ t2.r.at').bad,text:=finB (stepOf ⟨t.cost,t.steps⟩ t2.r.at').give t2.r.texts } else t2.r,(stepOf ⟨t.cost,t.steps⟩ t2.r.at').asks):=by
  unfold Y_
  rw [hA]
  simp only
  rw [if_neg hv,hx]
  simp only
  rw [if_neg (by omega),if_neg (by rw [hg];simp),h2]
  rfl
 have h3:= (nextOf_good hok hgl.env hgd hc).act
 obtain ⟨A',hA',g0,g1⟩:=h3
 rw [nextOf_name,hA] at hA'
 cases hA'
 have e: (Y_ (Q_ Kj) (Qj (Qk ts)) t.r).1.at'=t2.r.at':=by rw [hnx];simp only;split <;> rfl
 rw [e] at g0 g1
 exact ⟨hnx,g0,g1,by rw [h2];exact hc.1,by rw [h2];show t.r.Zj+1≠0;have:=hgd.lo;omega,by rw [h2]⟩
theorem answersOf_congr {W:Acts} {σ σ':Env} (h: ∀a,ansOf W σ' a=ansOf W σ a): ∀l,Yq W σ' l=Yq W σ l
 | []=> rfl
 | a :: l=> by unfold Yq;rw [h a,answersOf_congr h l]
theorem answers_visit {Kj:List Qq} {ts:List Zx} {i:Nat} {t t1:Zx} (ha:AscX (Qk ts)) (hi:ts[i]? =some t) (_ho:t.r.over=false) (h1:t1= { t with r:= { t.r with Zj:=t.r.Zj+1 } }) {l:List ByteArray}:Yq (Q_ Kj) (Qj (Qk (ts.set i t1))) l=Yq (Q_ Kj) (Qj (Qk ts)) l:=by
 refine answersOf_congr (fun n=> ?_) l
 have hli:i < ts.length:= (List.getElem?_eq_some_iff.1 hi).1
 have hlr: (Qk ts)[i]? =some t.r:=by unfold Qk;rw [List.getElem?_map,hi];rfl
 unfold ansOf
 cases Q_ Kj n with
 | none=> rfl
 | some A=>
  simp only
  rw [runs_set hli,env_set ha hlr (by rw [h1])]
  by_cases e:n=t.r.name
  ·rw [if_pos e,e,asc_env ha (List.mem_of_getElem? hlr),h1]
  ·rw [if_neg e]
theorem step_facts {Kj:List Qq} {ts:List Zx} {t:Zx} {s:Xj} {xs:List Xq} (hok:ActsOk (Q_ Kj)) (hft: ∀y∈Kj,y.Fits) (hA:Q_ Kj t.r.name=some ⟨t.cost,t.steps⟩) (hgd:t.r.Good Kj) (hc:CanGo (Q_ Kj) (Qj (Qk ts)) t.r) (hgl:GoodL Kj (Qk ts)) (hv:t.r.Zj≠0) (hs:s=stepOf ⟨t.cost,t.steps⟩ t.r.at') (hx:Yq (Q_ Kj) (Qj (Qk ts)) s.asks=some xs):
  s.Fits∧s.fin=false∧s.asks.length<=5∧(∀x∈s.asks,x.size<=20)∧(s.asks.length≠0->0<=s.on∧s.on < s.asks.length)∧AnsOk s xs∧∀x∈xs,x.text.size<=200:=by
 obtain ⟨A',hA',h0,h1⟩:=hgd.act
 rw [hA] at hA'
 cases hA'
 have hfin:s.fin=false:=by rw [hs];exact hgd.stp _ hA hc.1 hv
 obtain ⟨g1,g2⟩:=asks_ok (hok _ _ hA).1 h0 h1
 rw [<-hs] at g1 g2
 have g3: ∀x∈s.asks,x.size<=20:=fun x hx=> (g2 x hx).2.1
 obtain ⟨a1,a2⟩:=answers_ok hgl.env g3 hx
 have hst:= (hok _ _ hA).1.2.2 t.r.at'.toNat (by dsimp only at h1⊢;omega)
 have hst2:StepOk s t.steps.length:=by rw [hs];exact hst
 have hon:= (hst2.2 hfin).1.2.2.2.2.2.2.2
 refine ⟨?_,hfin,g1,g3,fun hne=> ?_,a1,a2⟩
 ·obtain ⟨k,hk,_,_,e⟩:=acts_first hA
  simp only [ActionD.mk.injEq] at e
  have hy:=hft _ (List.getElem_mem hk)
  have hin:s∈(Kj.getD k Qq.zero).steps:=by
   rw [hs,<-e.2]
   unfold stepOf
   dsimp only at h1⊢
   have hlt:t.r.at'.toNat < t.steps.length:=by omega
   simp only [List.getD,List.getElem?_eq_getElem hlt,Option.getD_some]
   exact List.getElem_mem hlt
  simp only [List.getD,List.getElem?_eq_getElem hk,Option.getD_some] at hin
  exact hy.each s hin
 ·rcases hon with h | h
  ·rw [h];omega
  ·exact h
theorem step_ok {Kj:List Qq} {t:Zx} {s:Xj} {x:Int} (hok:ActsOk (Q_ Kj)) (hA:Q_ Kj t.r.name=some ⟨t.cost,t.steps⟩) (h0:0<=x) (h1:x < t.steps.length) (hs:s=stepOf ⟨t.cost,t.steps⟩ x):StepOk s t.steps.length:=by
 rw [hs]
 exact (hok _ _ hA).1.2.2 x.toNat (by dsimp only;omega)
theorem step_end_asks {Kj:List Qq} {t:Zx} {s:Xj} {x:Int} (hok:ActsOk (Q_ Kj)) (hA:Q_ Kj t.r.name=some ⟨t.cost,t.steps⟩) (h0:0<=x) (h1:x < t.steps.length) (hs:s=stepOf ⟨t.cost,t.steps⟩ x) (hf:s.fin=true):s.asks=[]:=
 List.length_eq_zero_iff.1 ((step_ok hok hA h0 h1 hs).1 hf).1
theorem step_asks_nodup {Kj:List Qq} {t:Zx} {s:Xj} {x:Int} (hok:ActsOk (Q_ Kj)) (hA:Q_ Kj t.r.name=some ⟨t.cost,t.steps⟩) (h0:0<=x) (h1:x < t.steps.length) (hs:s=stepOf ⟨t.cost,t.steps⟩ x):s.asks.Nodup:=by
 have h:=step_ok hok hA h0 h1 hs
 cases hf:s.fin with
 | true=> rw [List.length_eq_zero_iff.1 (h.1 hf).1];exact List.nodup_nil
 | false=>
  have hn:= (h.2 hf).1.2.2.2.1
  rw [List.Nodup,List.pairwise_iff_getElem]
  intro i j hi hj hij e
  have:= (hn j hj).2 i hij
  simp only [List.getD,List.getElem?_eq_getElem hi,List.getElem?_eq_getElem hj,Option.getD_some] at this
  exact this e
theorem step_give {Kj:List Qq} {t:Zx} {s:Xj} {x:Int} (hft: ∀y∈Kj,y.Fits) (hA:Q_ Kj t.r.name=some ⟨t.cost,t.steps⟩) (h0:0<=x) (h1:x < t.steps.length) (hs:s=stepOf ⟨t.cost,t.steps⟩ x):s.give.size<=maxLen:=by
 obtain ⟨k,hk,_,_,e⟩:=acts_first hA
 simp only [ActionD.mk.injEq] at e
 have hy:=hft _ (List.getElem_mem hk)
 have hin:s∈(Kj.getD k Qq.zero).steps:=by
  rw [hs,<-e.2]
  unfold stepOf
  dsimp only
  have hlt:x.toNat < t.steps.length:=by omega
  simp only [List.getD,List.getElem?_eq_getElem hlt,Option.getD_some]
  exact List.getElem_mem hlt
 simp only [List.getD,List.getElem?_eq_getElem hk,Option.getD_some] at hin
 exact (hy.each s hin).give
theorem arr_texts {Kj:List Qq} {ts:List Zx} {t t2:Zx} (hok:ActsOk (Q_ Kj)) (hgl:GoodL Kj (Qk ts)) (hgd:t.r.Good Kj) (hc:CanGo (Q_ Kj) (Qj (Qk ts)) t.r) (h:DoArr Kj (Qj (Qk ts)) t t2):t2.r.texts.length<=1000:=by
 have hg:=nextOf_good hok hgl.env hgd hc
 have e: (Y_ (Q_ Kj) (Qj (Qk ts)) t.r).1.texts=t2.r.texts:=by rw [h.nx];simp only;split <;> rfl
 have h1:=hg.tl
 have h2:=hg.hi
 rw [e] at h1
 omega
def DoMid (G:Ghost) (Kj:List Qq) (wz:World) (bb:Nat) (a:Option Addr) (cap:Nat) (rd:Option Addr) (rn rc mb mx:Nat) (ts:List Zx) (d:Option Addr) (dc:Nat) (f:ByteArray->Value) (ws:ByteArray->List Nat) (i:Nat) (t:Zx) (b:Bool) (w':World):Prop:=
 (b=true∧∃ts' f' ws',BM G Kj wz w' bb a cap rd rn rc mb mx ts' d dc f' ws'∧BS Kj ts' ws'∧Qj (Qk ts')=doX (Q_ Kj) (Qj (Qk ts)) t.r.name)∨
 (b=false∧∃t2,BM G Kj wz w' bb a cap rd rn rc mb mx (ts.set i t2) d dc f ws∧t2.tb=t.tb∧(t2.op=t.op∧t2.bl=t.bl∧t2.qs=t.qs)∧t2.cost=t.cost∧t2.steps=t.steps∧DoArr Kj (Qj (Qk ts)) t t2)
section
variable {G : Ghost} {Kj : List Qq} {wz w w' : World} {bb : Nat} {a : Option Addr} {cap : Nat} {rd : Option Addr} {rn rc : Nat} {mb mx : Nat} {ts : List Zx} {d : Option Addr} {dc : Nat} {f : ByteArray -> Value} {ws : ByteArray -> List Nat}
theorem benchDo_any (hB:BM G Kj wz w bb a cap rd rn rc mb mx ts d dc f ws) (hS:BS Kj ts ws) {i:Nat} {t:Zx} (hi:ts[i]? =some t) (hc:CanGo (Q_ Kj) (Qj (Qk ts)) t.r) (hok:ActsOk (Q_ Kj)) (hft: ∀y∈Kj,y.Fits) (hwl:Kj.length<=60) (hwr:Rises Kj) (hN:Nodes wz a Kj) (hmx:mx<=90000) (hFi:FinishOk wz):
  Calls Tryz.prog 154 #[.pointer (some ⟨bb,0,none⟩),.pointer (some ⟨t.tb,0,none⟩)] w fun e w'=> e= .returned (.tuple #[])∧∃ts' d' dc' f' ws',BM G Kj wz w' bb a cap rd rn rc mb (mx+6) ts' d' dc' f' ws'∧BS Kj ts' ws'∧Qj (Qk ts')=doX (Q_ Kj) (Qj (Qk ts)) t.r.name:=by
 have ht:t∈ts:=List.mem_of_getElem? hi
 obtain ⟨hop0,hpe0,hnw0⟩:=hS.self ht hc
 have hgd:=hS.good.good t.r (List.mem_map_of_mem ht)
 have hA:= (hB.act t ht).1
 obtain ⟨A',hA',hat0,hat1⟩:=hgd.act
 rw [hA] at hA'
 cases hA'
 dsimp only at hat1
 have hT:=hB.at hi
 have c5:w.cell? ⟨t.tb,5,none⟩=some (.int .i64 t.r.Zj):=hT.rng 5 _ rfl
 have tz:=hT.row.lt
 obtain ⟨_,f5⟩:=hT.row.row.at (i:=5) (by omega)
 have lo:=hgd.lo
 have hi20:=hgd.hi
 have hn6:=hB.len hwl
 have hil:i < ts.length:= (List.getElem?_eq_some_iff.1 hi).1
 have HWt:=Kz (hS.waiters hok hB.tbs hi hc)
 have hwl6:=hS.wlen t.r.name
 have hnsz:t.r.name.size<=1000:=by have:= (hok _ _ hA).2.2.1;omega
 have HB:=Kz hB
 have HS:=Kz hS
 have HI:=Kz hi
 have HC:=Kz hc
 have HA:=Kz hA
 have HG:=Kz hgd
 clear hB hS hi hc hA hT hgd hpe0
 go_enter Tryz.func154,Tryz.ntmps154
 go_wp2_with fail
 refine (spent_any w t.tb t.r.Zj c5).mono ?_
 rintro e w0 ⟨hsay,hw0⟩
 rw [hw0]
 clear hw0 w0
 rcases hsay.cases with ⟨rfl,hsp⟩ | ⟨rfl,hsp⟩
 ·have HSp:=Kz hsp
  clear hsp hsay
  go_wp2_with fail
  refine (benchEnd_any HB.out HI.out true spentB hnsz (by omega) (fun b hb=> ?_) (HS.out.wn _)).mono ?_
  ·obtain ⟨j,u,hji,hju,h3,h4,h5⟩:=HWt.out b hb
   exact ⟨j,u,by rw [List.getElem?_set_ne (Ne.symm hji)];exact hju,h3,h4,h5⟩
  rintro e wF ⟨rfl,hBF⟩
  have HBF:=Kz hBF
  clear hBF
  go_wp2_with fail
  refine bodyPost_ret (results_none rfl _ _ _) rfl ?_
  obtain ⟨xs,hxs⟩:=canGo_answers HC.out HA.out (by have:=HSp.out;omega)
  have hnx:Y_ (Q_ Kj) (Qj (Qk ts)) t.r= ({ t.r with over:=true,fail:=true,text:=spentB },[]):=by
   unfold Y_
   rw [HA.out]
   simp only
   rw [if_neg (by have:=HSp.out;omega),hxs]
   simp only
   rw [if_pos HSp.out]
  obtain ⟨q1,q2⟩:=HS.out.ended hok HB.out.tbs (t':=t.ended true spentB) HI.out HC.out (by rw [hnx];rfl) rfl (by rw [hnx]) rfl rfl (.inl ⟨(HS.out.bl t (List.mem_of_getElem? HI.out)).open HC.out.1,fun _ _=> .inl rfl⟩) rfl
  exact ⟨rfl,_,d,dc,_,_,HBF.out.more (by omega),q1,q2⟩
 ·have HSp:=Kz hsp
  have hv20:t.r.Zj < 20:=by omega
  clear hsp hsay
  obtain ⟨t1,ht1⟩: ∃t1:Zx,t1= { t with r:= { t.r with Zj:=t.r.Zj+1 } }:= ⟨_,rfl⟩
  obtain ⟨W1,hW1⟩: ∃W1,W1=w.setCell ⟨t.tb,5,none⟩ (.int .i64 (t.r.Zj+1)):= ⟨_,rfl⟩
  have HB1:Hid (BM G Kj wz W1 bb a cap rd rn rc mb mx (ts.set i t1) d dc f ws):=by rw [hW1,ht1];exact HB.out.store HI.out (by omega) rfl rfl rfl rfl rfl rfl rfl rfl rfl rfl
  have HI1:Hid ((ts.set i t1)[i]? =some t1):=List.getElem?_set_self hil
  go_upto_region 3 with fail
  rw [<-hW1]
  clear hW1
  have c5b:W1.cell? ⟨t.tb,5,none⟩=some (.int .i64 (t.r.Zj+1)):=by have h:= (HB1.out.at HI1.out).rng 5 _ rfl;rw [ht1] at h;exact h
  have HT1:=Kz ht1
  clear ht1
  go_cut [30] from 19 to 29 (fun s30 wx=> ∃b:Bool,s30= .bool b∧DoMid G Kj wz bb a cap rd rn rc mb mx ts d dc f ws i t b wx)
  case first=>
   by_cases hv0:t.r.Zj=0
   ·have hlt: ¬(1:Int) < t.r.Zj+1:=by omega
    have HV0:=Kz hv0
    clear hv0
    go_wp2_with fail
    go_meet
    exact ⟨false,rfl,.inr ⟨rfl,t1,HB1.out,by rw [HT1.out],by rw [HT1.out];exact ⟨rfl,rfl,rfl⟩,by rw [HT1.out],by rw [HT1.out],DoArr.first HT1.out HV0.out HA.out HC.out hat0 hat1⟩⟩
   ·have hlt: (1:Int) < t.r.Zj+1:=by omega
    have HVn:=Kz hv0
    obtain ⟨xs,hxs⟩:=canGo_answers HC.out HA.out hv0
    obtain ⟨s,hs⟩: ∃s,s=stepOf ⟨t.cost,t.steps⟩ t.r.at':= ⟨_,rfl⟩
    rw [<-hs] at hxs
    obtain ⟨hF,hfin,hal,hasz,hon,hAn,hxt⟩:=step_facts hok hft HA.out HG.out HC.out HS.out.good hv0 hs hxs
    have hxs1:Yq (Q_ Kj) (Qj (Qk (ts.set i t1))) s.asks=some xs:=by rw [answers_visit HS.out.good.asc HI.out HC.out.1 HT1.out];exact hxs
    have htl:t.r.texts.length<=1000:=by have:=HG.out.tl;omega
    have HXs:=Kz hxs
    have HSs:=Kz hs
    have HGn:=Kz (benchGoOn_any HB1.out (t:=t1) HI1.out s (by rw [HT1.out];exact hs) (by rw [HT1.out];exact hat0) (by rw [HT1.out];exact hat1) hfin xs hxs1 hxt (goOnF_followed hAn) hF hal hasz hon hwl (by rw [HT1.out];exact htl) (by rw [HT1.out];exact hnsz) (by rw [HT1.out];show (ws t.r.name).length<=1000;omega) (fun b hb=> by
     rw [HT1.out] at hb
     obtain ⟨j,u,hji,hju,h3,h4,h5⟩:=HWt.out b hb
     exact ⟨j,u,hji,by rw [List.getElem?_set_ne (Ne.symm hji)];exact hju,h3,h4,h5⟩) (by rw [HT1.out];exact HS.out.wn _))
    have HTb:Hid (t1.tb=t.tb):=by rw [HT1.out];rfl
    rw [HTb.out] at HGn
    clear hv0 hxs hs hF hfin hal hasz hon hAn hxt hxs1
    go_wp2_with fail
    refine HGn.out.mono ?_
    rintro e w4 (⟨hgo,rfl,bl,hbl,hB4⟩ | ⟨hgo,rfl,tv',hB4⟩)
    ·have HBl:=Kz hbl
     clear hbl
     have HB4:=Kz hB4
     have HGo:=Kz hgo
     clear hB4 hgo
     go_wp2_with fail
     go_meet
     have hB5:=HB4.out
     rw [HT1.out,List.set_set] at hB5
     have hnx:=next_over HA.out HVn.out hv20 (by rw [<-HSs.out];exact HXs.out) (by rw [<-HSs.out];exact HGo.out)
     obtain ⟨q1,q2⟩:=HS.out.ended hok HB.out.tbs (t':= (({ t with bl:=bl,r:= { t.r with Zj:=t.r.Zj+1 } }:Zx).ended true (goOnF s xs).text)) HI.out HC.out (by rw [hnx,HSs.out];rfl) rfl (by rw [hnx]) rfl rfl (.inr ⟨rfl,rfl,⟨⟨t.cost,t.steps⟩,HA.out,HG.out.stp _ HA.out HC.out.1 HVn.out,by have h:=HBl.out.1;rw [HT1.out] at h;exact h⟩,HBl.out.2⟩) rfl
     exact ⟨true,rfl,.inl ⟨rfl,_,_,_,hB5,q1,q2⟩⟩
    ·have HB4:=Kz hB4
     have HGo:=Kz hgo
     clear hB4 hgo
     go_wp2_with fail
     go_meet
     have hB5:=HB4.out
     rw [HT1.out,List.set_set] at hB5
     exact ⟨false,rfl,.inr ⟨rfl,_,hB5,rfl,⟨rfl,rfl,rfl⟩,rfl,rfl,DoArr.gone hok HS.out.good HG.out HA.out HC.out HVn.out hv20 (by rw [<-HSs.out];exact HXs.out) (by rw [<-HSs.out];exact HGo.out) (by rw [<-HSs.out])⟩⟩
  case rest=>
   obtain ⟨b,rfl,hm⟩:=hcut
   obtain ⟨w4,rfl⟩: ∃w4,w4=wc:= ⟨_,rfl⟩
   rcases hm with ⟨rfl,ts',f',ws',hB',hS',he'⟩ | ⟨rfl,t2,hB2,e1,e2,e3,e4,hArr⟩
   ·have HB':=Kz hB'
    have HS':=Kz hS'
    have HE':=Kz he'
    clear hB' hS' he'
    go_wp2_with fail
    refine bodyPost_ret (results_none rfl _ _ _) rfl ?_
    exact ⟨rfl,ts',d,dc,f',ws',HB'.out.more (by omega),HS'.out,HE'.out⟩
   have hi2: (ts.set i t2)[i]? =some t2:=List.getElem?_set_self hil
   have hT2:=hB2.at hi2
   have hac2:=hB2.act t2 (List.mem_of_getElem? hi2)
   obtain ⟨ix,hix⟩: ∃ix:Nat,t2.r.at'= (ix:Int):= ⟨t2.r.at'.toNat,by have:=hArr.lo;omega⟩
   have hixl:ix < t2.steps.length:=by have:=hArr.hi;rw [e4];omega
   obtain ⟨sb,so,cs,esa,hsb,hcs,aa,ca,ac,cc,rfl,hAs,hCs,_⟩:=hac2.2 ix hixl
   obtain ⟨s,hs⟩: ∃s,s=stepOf ⟨t.cost,t.steps⟩ t2.r.at':= ⟨_,rfl⟩
   have hse:t2.steps.getD ix Xj.zero=s:=by rw [hs,e4];unfold stepOf;rw [hix];rfl
   rw [hse] at hcs hAs hCs
   have c8:w4.cell? ⟨t.tb,8,none⟩=some (.slice t2.sa t2.steps.length t2.sc):=by rw [<-e1];exact hT2.rng 8 _ rfl
   have c4:w4.cell? ⟨t.tb,4,none⟩=some (.int .i64 t2.r.at'):=by rw [<-e1];exact hT2.rng 4 _ rfl
   rw [esa] at c8
   rw [hix] at c4
   have tz4:t.tb < w4.heap.size:=by rw [<-e1];exact hT2.row.lt
   have sz:sb < w4.heap.size:=Nat.lt_of_lt_of_le hsb hB2.kw.size
   have y0:w4.cell? ⟨sb,so+ix * 8,none⟩=some (.slice aa s.asks.length ca):= (hB2.kw.cell hsb).trans (hcs 0 _ rfl)
   have y1:w4.cell? ⟨sb,so+ix * 8+1,none⟩=some (.int .i64 s.on):= (hB2.kw.cell hsb).trans (hcs 1 _ rfl)
   have y2:w4.cell? ⟨sb,so+ix * 8+2,none⟩=some (.slice ac s.cases.length cc):= (hB2.kw.cell hsb).trans (hcs 2 _ rfl)
   have y3:w4.cell? ⟨sb,so+ix * 8+3,none⟩=some (.int .i64 s.els):= (hB2.kw.cell hsb).trans (hcs 3 _ rfl)
   have y4:w4.cell? ⟨sb,so+ix * 8+4,none⟩=some (.int .i64 s.fall):= (hB2.kw.cell hsb).trans (hcs 4 _ rfl)
   have y5:w4.cell? ⟨sb,so+ix * 8+5,none⟩=some (.bool s.fin):= (hB2.kw.cell hsb).trans (hcs 5 _ rfl)
   have y6:w4.cell? ⟨sb,so+ix * 8+6,none⟩=some (.bool s.bad):= (hB2.kw.cell hsb).trans (hcs 6 _ rfl)
   have y7:w4.cell? ⟨sb,so+ix * 8+7,none⟩=some (.string s.give):= (hB2.kw.cell hsb).trans (hcs 7 _ rfl)
   have Zz:Hid (∀w',K_ w4 w'->w'.cell? ⟨t.tb,8,none⟩=some (.slice (some ⟨sb,so,none⟩) t2.steps.length t2.sc)∧w'.cell? ⟨t.tb,4,none⟩=some (.int .i64 (ix:Int))∧w'.cell? ⟨sb,so+ix * 8,none⟩=some (.slice aa s.asks.length ca)∧w'.cell? ⟨sb,so+ix * 8+1,none⟩=some (.int .i64 s.on)∧w'.cell? ⟨sb,so+ix * 8+2,none⟩=some (.slice ac s.cases.length cc)∧w'.cell? ⟨sb,so+ix * 8+3,none⟩=some (.int .i64 s.els)∧w'.cell? ⟨sb,so+ix * 8+4,none⟩=some (.int .i64 s.fall)∧w'.cell? ⟨sb,so+ix * 8+5,none⟩=some (.bool s.fin)∧w'.cell? ⟨sb,so+ix * 8+6,none⟩=some (.bool s.bad)∧w'.cell? ⟨sb,so+ix * 8+7,none⟩=some (.string s.give)):=fun w' K=> ⟨(K.cell tz4).trans c8,(K.cell tz4).trans c4,(K.cell sz).trans y0,(K.cell sz).trans y1,(K.cell sz).trans y2,(K.cell sz).trans y3,(K.cell sz).trans y4,(K.cell sz).trans y5,(K.cell sz).trans y6,(K.cell sz).trans y7⟩
   have HB2:=Kz hB2
   have HI2:=Kz hi2
   have HAs:=Kz hAs
   have HAr:=Kz hArr
   have HSe:=Kz hs
   have E1:=Kz e1
   have E2:=Kz e2
   have hii: (ix:Int) < (t2.steps.length:Int):=by omega
   obtain ⟨g1,g2⟩:=asks_ok (hok _ _ HA.out).1 hArr.lo (by exact hArr.hi)
   rw [<-hs] at g1 g2
   have hgiv:s.give.size<=maxLen:=step_give hft HA.out hArr.lo hArr.hi hs
   have hpk2:t2.r.texts.length<=1000:=arr_texts hok HS.out.good HG.out HC.out hArr
   clear hB2 hi2 hT2 hac2 esa hcs hAs hCs hse c8 c4 y0 y1 y2 y3 y4 y5 y6 y7 hArr hix hs e1 e2 e3 e4 c5b
   go_upto_region 4 with fail
   refine Qx.rg 13 Zz.out fun wd KD Z_=> ?_
   refine Qx.tk 0 Z_ ?_
   refine Qx.tk 1 Z_ ?_
   refine Qx.tk 2 Z_ ?_
   refine Qx.tk 3 Z_ ?_
   refine Qx.tk 4 Z_ ?_
   refine Qx.tk 5 Z_ ?_
   refine Qx.tk 6 Z_ ?_
   refine Qx.tk 7 Z_ ?_
   refine Qx.tk 8 Z_ ?_
   refine Qx.tk 9 Z_ ?_
   refine Qx.tk 10 Z_ ?_
   refine Qx.tk 11 Z_ ?_
   refine Qx.nx 12 (fun K hK=> ?_)
   go_simp
   have K2:K_ wd (wd.alloc (.cells #[.slice none 0 0,.int .i64 0,.slice none 0 0,.int .i64 0,.int .i64 0,.bool false,.bool false,.string ⟨#[]⟩] 172)):= (K_.refl _).alloc _
   have hRw:RowT (wd.alloc (.cells #[.slice none 0 0,.int .i64 0,.slice none 0 0,.int .i64 0,.int .i64 0,.bool false,.bool false,.string ⟨#[]⟩] 172)) wd.heap.size 172 8:=RowT.made wd _ _
   have KE:=KD.trans K2
   have nz:=KD.size
   obtain ⟨gb,hgb⟩: ∃gb,gb=wd.heap.size:= ⟨_,rfl⟩
   refine hK.out _ _ (fun _=> Zz.out _ KE) ?_
   clear hK K Z_
   rw [<-hgb] at hRw nz⊢
   generalize hwe:wd.alloc (.cells #[.slice none 0 0,.int .i64 0,.slice none 0 0,.int .i64 0,.int .i64 0,.bool false,.bool false,.string ⟨#[]⟩] 172)=wE at hRw KE⊢
   clear hwe K2 hgb
   try simp only [Act.put,upA,upB,upC]
   obtain ⟨⟨_,v0⟩,f0⟩:=hRw.row.at (i:=0) (by omega)
   obtain ⟨⟨_,v1⟩,f1⟩:=hRw.row.at (i:=1) (by omega)
   obtain ⟨⟨_,v2⟩,f2⟩:=hRw.row.at (i:=2) (by omega)
   obtain ⟨⟨_,v3⟩,f3⟩:=hRw.row.at (i:=3) (by omega)
   obtain ⟨⟨_,v4⟩,f4⟩:=hRw.row.at (i:=4) (by omega)
   obtain ⟨⟨_,v5⟩,f5⟩:=hRw.row.at (i:=5) (by omega)
   obtain ⟨⟨_,v6⟩,f6⟩:=hRw.row.at (i:=6) (by omega)
   obtain ⟨⟨_,v7⟩,f7⟩:=hRw.row.at (i:=7) (by omega)
   have vz:=hRw.lt
   refine Qx.nx 13 (fun K hK=> ?_)
   go_simp
   refine hK.out _ _ (fun h=> absurd rfl h) ?_
   clear hK K
   try simp only [Act.put,upA,upB,upC]
   refine Qx.dn ?_
   have HR2:=Kz (World.rangeAt_setCells_same wE gb 0 [.slice aa s.asks.length ca,.int .i64 s.on,.slice ac s.cases.length cc,.int .i64 s.els,.int .i64 s.fall,.bool s.fin,.bool s.bad,.string s.give] (hRw.row.there (o:=0) (m:=8) (Nat.le_refl _)))
   have HK2:=Kz (kept_sets (g:=gb) nz [.slice aa s.asks.length ca,.int .i64 s.on,.slice ac s.cases.length cc,.int .i64 s.els,.int .i64 s.fall,.bool s.fin,.bool s.bad,.string s.give] 0 KE)
   have HRw2:=Kz (RowT.sets [.slice aa s.asks.length ca,.int .i64 s.on,.slice ac s.cases.length cc,.int .i64 s.els,.int .i64 s.fall,.bool s.fin,.bool s.bad,.string s.give] 0 hRw)
   obtain ⟨w5,hw5⟩: ∃w5,w5=wE.setCells gb 0 [.slice aa s.asks.length ca,.int .i64 s.on,.slice ac s.cases.length cc,.int .i64 s.els,.int .i64 s.fall,.bool s.fin,.bool s.bad,.string s.give]:= ⟨_,rfl⟩
   rw [<-hw5] at HR2 HK2 HRw2
   go_upto_region 5 with fail
   have e5: ((((((((wE.setCell ⟨gb,0,none⟩ (.slice aa s.asks.length ca)).setCell ⟨gb,1,none⟩ (.int .i64 s.on)).setCell ⟨gb,2,none⟩ (.slice ac s.cases.length cc)).setCell ⟨gb,3,none⟩ (.int .i64 s.els)).setCell ⟨gb,4,none⟩ (.int .i64 s.fall)).setCell ⟨gb,5,none⟩ (.bool s.fin)).setCell ⟨gb,6,none⟩ (.bool s.bad)).setCell ⟨gb,7,none⟩ (.string s.give))=w5:=by rw [hw5];rfl
   rw [e5]
   clear e5 hw5 v0 v1 v2 v3 v4 v5 v6 v7 f0 f1 f2 f3 f4 f5 f6 f7 vz hRw KE nz KD
   have HB5:=Kz (HB2.out.kept HK2.out)
   have q5:w5.cell? ⟨gb,5,none⟩=some (.bool s.fin):=HR2.out 5 _ rfl
   have gz:=HRw2.out.lt
   cases hfin:s.fin
   ·rw [hfin] at q5
    have q0:w5.cell? ⟨gb,0,none⟩=some (.slice aa s.asks.length ca):=HR2.out 0 _ rfl
    have HAk:=Kz (benchAsk_any HB5.out HI2.out aa ca s.asks g1 (fun x hx=> (g2 x hx).2.1) (step_asks_nodup hok HA.out HAr.out.lo HAr.out.hi HSe.out) HAs.out (by omega) hwl hwr hN (fun s' b hb=> ?_) (fun s'=> by have:=HS.out.wlen s';omega) (by rw [E2.out.1];omega))
    rotate_left
    ·obtain ⟨v,hv,e⟩:=HS.out.ww s' b hb
     by_cases g:v.tb=t.tb
     ·exact ⟨t2,(set_in HI.out).1,by rw [E1.out,<-g,e]⟩
     ·exact ⟨v,(set_in HI.out).2 v hv g,e⟩
    rw [E1.out] at HAk
    go_wp2_with fail
    refine HAk.out.mono ?_
    rintro e w6 ⟨rfl,ts0,ts',d',dc',f',ws',hal,hB6,hI6⟩
    have HB6:=Kz hB6
    have HI6:=Kz hI6
    have HAl:=Kz hal
    clear hB6 hI6 hal
    go_wp2_with fail
    go_end0
    have hnx:=HAr.out.nx
    rw [<-HSe.out,hfin] at hnx
    simp only [Bool.false_eq_true,if_false] at hnx
    obtain ⟨z1,z2⟩:=HS.out.asked hok HB.out.tbs (ts0:=ts0) (t1:= { t2 with qs:=t2.qs++s.asks.map Value.string }) HI.out HC.out (by show t2.r=_;rw [hnx]) HAr.out.ov HAr.out.vi E1.out ⟨E2.out.1,E2.out.2.1,by show t2.qs++_=_;rw [hnx,E2.out.2.2]⟩ (by have h:=HAl.out;rw [List.set_set] at h;exact h) HB6.out.asc HB6.out.tbs HA.out (by show _= (stepOf _ t2.r.at').asks;rw [hnx,HSe.out]) (by have h:=HI6.out;rw [E1.out] at h;rw [hnx];exact h)
    exact ⟨rfl,ts',d',dc',f',ws',HB6.out,z1,z2⟩
   ·rw [hfin] at q5
    have HS6:Hid (∀w',K_ w5 w'->w'.cell? ⟨gb,6,none⟩=some (.bool s.bad)∧w'.cell? ⟨gb,7,none⟩=some (.string s.give)∧w'.cell? ⟨t.tb,6,none⟩=some (t2.tv)):=fun w' K=> ⟨(K.cell gz).trans (HR2.out 6 _ rfl),(K.cell gz).trans (HR2.out 7 _ rfl),by rw [<-E1.out];exact ((HB5.out.kept K).at HI2.out).rng 6 _ rfl⟩
    obtain ⟨ta,tc,htv⟩:=own_slice (HB5.out.at HI2.out).txt
    have Htv:=Kz htv
    have HCp:Hid (t2.r.texts.length<=tc∧∀W,K_ w5 W->Strs W ta t2.r.texts):=by
     refine ⟨?_,fun W K=> ?_⟩
     ·have h1:= (HB5.out.at HI2.out).txt
      rw [htv] at h1
      rcases h1.2 with ⟨e,h0⟩ | ⟨g,cp,cur,e,_,_,hnc,_⟩
      ·omega
      ·simp only [Value.slice.injEq] at e;omega
     ·obtain ⟨a9,c9,e9,h9⟩:=owned_strs ((HB5.out.kept K).at HI2.out).txt
      rw [htv] at e9
      simp only [Value.slice.injEq] at e9
      rw [e9.1]
      exact h9
    clear htv
    go_upto_region 6 with fail
    refine Qx.rg 12 HS6.out fun wd KD Z_=> ?_
    refine Qx.tk 0 Z_ ?_
    refine Qx.tk 1 Z_ ?_
    refine Qx.tk 2 Z_ ?_
    refine Qx.tk 3 Z_ ?_
    refine Qx.tk 4 Z_ ?_
    refine Qx.tk 5 Z_ ?_
    refine Qx.tk 6 Z_ ?_
    refine Qx.tk 7 Z_ ?_
    refine Qx.tk 8 Z_ ?_
    refine Qx.tk 9 Z_ ?_
    refine Qx.tk 10 Z_ ?_
    refine Qx.nx 11 (fun K hK=> ?_)
    rw [if_pos (by rfl)]
    go_simp
    go_at_call 180
    rw [Htv.out]
    refine (hFi wd s.give ta tc t2.r.texts (HB2.out.kw.trans (HK2.out.trans KD)) hgiv (by unfold maxLen;omega) (HCp.out.2 _ KD) HCp.out.1).mono ?_
    rintro e w6 ⟨rfl,k6⟩
    have K6:=KD.trans k6
    refine hK.out _ _ (fun _=> HS6.out _ K6) ?_
    clear hK K Z_
    try simp only [Act.put,upA,upB,upC]
    refine Qx.nx 12 (fun K hK=> ?_)
    rw [if_pos (by rfl)]
    go_simp
    go_at_call 178
    have hnm2:=HAr.out.nm
    have hEn:=benchEnd_any (HB5.out.kept K6) HI2.out s.bad (finB s.give t2.r.texts) (by rw [hnm2];exact hnsz) (by rw [hnm2];omega) (fun b hb=> by
     rw [hnm2] at hb
     obtain ⟨j,u,hji,hju,h3,h4,h5⟩:=HWt.out b hb
     exact ⟨j,u,by rw [List.getElem?_set_ne (Ne.symm hji),List.getElem?_set_ne (Ne.symm hji)];exact hju,h3,h4,h5⟩) (by rw [hnm2];exact HS.out.wn _)
    rw [E1.out,hnm2] at hEn
    refine hEn.mono ?_
    rintro e wF ⟨rfl,hBF⟩
    rw [List.set_set] at hBF
    have HBF:=Kz hBF
    clear hBF hEn hnm2
    refine hK.out _ _ (fun h=> absurd rfl h) ?_
    clear hK K
    try simp only [Act.put,upA,upB,upC]
    refine Qx.dn ?_
    go_wp2_with fail
    refine bodyPost_ret (results_none rfl _ _ _) rfl ?_
    have hnx:=HAr.out.nx
    rw [<-HSe.out,hfin] at hnx
    simp only [if_true] at hnx
    have hno:s.asks=[]:=step_end_asks hok HA.out HAr.out.lo HAr.out.hi HSe.out hfin
    obtain ⟨z1,z2⟩:=HS.out.ended hok HB.out.tbs (t':=t2.ended s.bad (finB s.give t2.r.texts)) HI.out HC.out (by rw [hnx];rfl) rfl (by rw [hnx];exact hno) E1.out E2.out.1 (.inl ⟨E2.out.2.1.trans ((HS.out.bl t (List.mem_of_getElem? HI.out)).open HC.out.1),fun _ _=> .inr ⟨⟨t.cost,t.steps⟩,by show Q_ Kj t2.r.name=_;rw [HAr.out.nm];exact HA.out,by show (stepOf ⟨t.cost,t.steps⟩ t2.r.at').fin=true;rw [<-HSe.out];exact hfin⟩⟩) E2.out.2.2
    exact ⟨rfl,_,d,dc,_,_,HBF.out.more (by omega),z1,z2⟩
end
theorem rises_code {l:List Qq} (h:WebCode l 0):Rises l:=by
 have hn: ¬SomeFalls l:=by
  rcases h with ⟨_,e⟩ | ⟨_,_,e⟩ | ⟨_,_,_,e⟩ | ⟨_,_,_,_,e⟩ | ⟨_,_,h3,_,_⟩
  ·omega
  ·omega
  ·omega
  ·omega
  ·exact h3
 refine rises_of fun i hi=> ?_
 cases hq:Op.bytesLess (nameAt l i) (nameAt l (i+1))
 ·exact absurd ⟨i,hi,hq⟩ hn
 ·rfl
structure BegI (Kj:List Qq) (L:List ByteArray) (ts:List Zx):Prop where
 env: ∀n,Qj (Qk ts) n=if hasN L n=true∧(Q_ Kj n).isSome=true then some (Qz.fresh n) else none
 fr: ∀t∈ts,t.r=Qz.fresh t.r.name∧t.op=0∧t.bq= (⟨#[]⟩,[])
theorem BegI.nil (Kj:List Qq):BegI Kj [] []:= ⟨fun n=> by rw [if_neg (by simp [hasN])];rfl,fun t h=> by cases h⟩
theorem BegI.want {Kj:List Qq} {L:List ByteArray} {ts ts':List Zx} {n:ByteArray} (h:BegI Kj L ts) (ha:AscX (Qk ts)) (ha':AscX (Qk ts')) (hw:WantR Kj ts n ts'):BegI Kj (L++ [n]) ts':=by
 have hL: ∀m,hasN (L++ [n]) m=true↔hasN L m=true∨m=n:=fun m=> by simp [hasN_iff]
 rcases hw with ⟨rfl,hw⟩ | ⟨p,new,rfl,hr,hop,hno,hsome⟩
 ·refine ⟨fun m=> ?_,h.fr⟩
  rw [h.env m]
  by_cases hc:hasN L m=true∧(Q_ Kj m).isSome=true
  ·rw [if_pos hc,if_pos ⟨(hL m).2 (.inl hc.1),hc.2⟩]
  ·rw [if_neg hc,if_neg]
   rintro ⟨h1,h2⟩
   rcases (hL m).1 h1 with g | g
   ·exact hc ⟨g,h2⟩
   ·subst g
    rcases hw with hw | ⟨t,ht,e⟩
    ·rw [hw] at h2;cases h2
    ·have:=h.env m
     rw [if_neg hc] at this
     exact env_none_iff.1 this t ht e
 ·have hmem: ∀u,u∈ts.take p++new :: ts.drop p↔u=new∨u∈ts:=fun u=> by
   rw [List.mem_append,List.mem_cons]
   constructor
   ·rintro (h | h | h)
    ·exact .inr (List.mem_of_mem_take h)
    ·exact .inl h
    ·exact .inr (List.mem_of_mem_drop h)
   ·rintro (h | h)
    ·exact .inr (.inl h)
    ·rw [<-List.take_append_drop p ts] at h
     rcases List.mem_append.1 h with h | h
     ·exact .inl h
     ·exact .inr (.inr h)
  refine ⟨fun m=> ?_,fun u hu=> ?_⟩
  ·by_cases e:m=n
   ·subst e
    rw [if_pos ⟨(hL m).2 (.inr rfl),hsome⟩]
    have:=asc_env ha' (r:=new.r) (List.mem_map_of_mem ((hmem new).2 (.inl rfl)))
    rw [hr] at this
    exact this
   ·have e1:Qj (Qk (ts.take p++new :: ts.drop p)) m=Qj (Qk ts) m:=by
     cases h1:Qj (Qk ts) m with
     | some x=>
      obtain ⟨g1,g2⟩:=env_mem h1
      obtain ⟨u,hu,rfl⟩:=List.mem_map.1 g1
      have:=asc_env ha' (r:=u.r) (List.mem_map_of_mem ((hmem u).2 (.inr hu)))
      rw [g2] at this
      exact this
     | none=>
      rw [env_none_iff] at h1⊢
      intro u hu
      rcases (hmem u).1 hu with rfl | hu
      ·rw [hr];exact fun e2=> e e2.symm
      ·exact h1 u hu
    rw [e1,h.env m]
    by_cases hc:hasN L m=true∧(Q_ Kj m).isSome=true
    ·rw [if_pos hc,if_pos ⟨(hL m).2 (.inl hc.1),hc.2⟩]
    ·rw [if_neg hc,if_neg]
     rintro ⟨h1,h2⟩
     rcases (hL m).1 h1 with g | g
     ·exact hc ⟨g,h2⟩
     ·exact e g
  ·rcases (hmem u).1 hu with rfl | hu
   ·exact ⟨by rw [hr];rfl,hop⟩
   ·exact h.fr u hu
theorem BegI.done {Kj:List Qq} {Kk:List ByteArray} {ts:List Zx} (h:BegI Kj Kk ts) (hok:ActsOk (Q_ Kj)) (ha:AscX (Qk ts)):BS Kj ts (fun _=> [])∧Qj (Qk ts)=Qj (startL Kj Kk):=by
 refine ⟨⟨⟨ha,fun r hr=> ?_⟩,fun t ht=> ?_,fun s t ht=> ?_,fun _=> List.nodup_nil,fun s b hb=> (by cases hb),fun t ht=> BlOk.still (congrArg Prod.fst (h.fr t ht).2.2) (by rw [(h.fr t ht).1];rfl),fun t ht=> QsOk.still (congrArg Prod.snd (h.fr t ht).2.2) (h.fr t ht).1⟩, ?_⟩
 ·have h1:=asc_env ha hr
  rw [h.env] at h1
  split at h1
  ·rename_i h2
   have e2:Qz.fresh r.name=r:=Option.some.inj h1
   rw [<-e2]
   exact fresh_good hok h2.2
  ·cases h1
 ·obtain ⟨h1,h2⟩:=h.fr t ht
  rw [h1,pend_fresh,h2.1]
  rfl
 ·obtain ⟨h1,_⟩:=h.fr t ht
  rw [h1,pend_fresh]
  simp
 ·funext n
  rw [h.env n,startL_env]
theorem BM.begun {Kj:List Qq} {w3:World} {a:Option Addr} {cap:Nat} {rd:Option Addr} {rn rc:Nat} (hrb:RowT ((w3.alloc (.map #[] 0)).alloc (.cells #[.slice a Kj.length cap,.func (.func 111) #[] #[],.slice rd rn rc,.slice none 0 0,.func (.func 63) #[] #[],.map (some w3.heap.size)] 128)) (w3.heap.size+1) 128 6) (hcb: ((w3.alloc (.map #[] 0)).alloc (.cells #[.slice a Kj.length cap,.func (.func 111) #[] #[],.slice rd rn rc,.slice none 0 0,.func (.func 63) #[] #[],.map (some w3.heap.size)] 128)).rangeAt (w3.heap.size+1) 0 [.slice a Kj.length cap,.func (.func 111) #[] #[],.slice rd rn rc,.slice none 0 0,.func (.func 63) #[] #[],.map (some w3.heap.size)]):
  BM (Ghost.no w3) Kj w3 ((w3.alloc (.map #[] 0)).alloc (.cells #[.slice a Kj.length cap,.func (.func 111) #[] #[],.slice rd rn rc,.slice none 0 0,.func (.func 63) #[] #[],.map (some w3.heap.size)] 128)) (w3.heap.size+1) a cap rd rn rc w3.heap.size 0 [] none 0 (fun _=> .slice none 0 0) (fun _=> []):=
 ⟨((K_.refl _).alloc _).alloc _,hrb,hcb 0 _ rfl,hcb 1 _ rfl,hcb 2 _ rfl,hcb 3 _ rfl,hcb 4 _ rfl,hcb 5 _ rfl,Nat.le_succ _,World.ownsRow_nil _ _ _ _,fun t h=> (by cases h),fun t h=> (by cases h),List.Pairwise.nil,List.nodup_nil,List.Pairwise.nil,fun t h=> (by cases h),⟨0,.map [],Nat.le_refl _,(World.ownsMap_made w3 Tryz.prog 9 asIs).alloc _,fun s _=> rfl⟩,Nat.le_refl _,fun s=> World.ownsRow_nil _ _ _ _,fun s s' _ x h=> (by cases h),fun s x h=> (by cases h),fun t h=> (by cases h),Fen.no (by simp only [World.size_alloc];omega),fun _ h=> (by cases h)⟩
def BeginB (Kj:List Qq) (Kk:List ByteArray) (a:Option Addr) (cap:Nat) (rd:Option Addr) (rc:Nat) (w w':World) (e:Ending):Prop:=
 K_ w w'∧((¬(WebCode Kj 0∧RootsOk Kk)∧e= .returned (.tuple #[.pointer none,.bool false]))∨
  (WebCode Kj 0∧RootsOk Kk∧∃wz bb mb ts d dc,e= .returned (.tuple #[.pointer (some ⟨bb,0,none⟩),.bool true])∧K_ w wz∧BM (Ghost.no wz) Kj wz w' bb a cap rd Kk.length rc mb 0 ts d dc (fun _=> .slice none 0 0) (fun _=> [])∧BS Kj ts (fun _=> [])∧Qj (Qk ts)=Qj (startL Kj Kk)))
theorem beginB_any (w:World) (a:Option Addr) (cap:Nat) (Kj:List Qq) (rd:Option Addr) (rc:Nat) (Kk:List ByteArray) (hl:Kj.length<=1048576) (hf: ∀s∈Kj,s.Fits) (hrl:Kk.length<=maxLen) (hrc:Kk.length<=rc) (hrs: ∀s∈Kk,s.size<=maxLen) (hS:Nodes w a Kj) (hR:Strs w rd Kk):
  Calls Tryz.prog 28 #[.agg #[.slice a Kj.length cap],.slice rd Kk.length rc] w fun e w'=> BeginB Kj Kk a cap rd rc w w' e:=by
 have hl':Kj.length<=maxLen:=by unfold maxLen;omega
 go_enter Tryz.func28,Tryz.ntmps28
 go_wp2_with fail
 refine (implCheckWeb_any ascSaid _ a cap Kj hl' hf (hS.kept (by repeat (first | apply K_.alloc | exact K_.refl _)))).mono ?_
 rintro e w1 ⟨⟨c,rfl,hc⟩,k1⟩
 have K1:K_ w w1:=K_.trans ((K_.refl _).alloc _) k1
 have z1:=k1.size
 simp only [World.size_alloc] at z1
 have q0:=xBoxCell (w:=w) k1
 have HC:=Kz hc
 clear hc k1
 have hw1:w.heap.size < w1.heap.size:=by omega
 by_cases hc0:c=0
 ·subst hc0
  go_wp2_with fail
  refine (validRoots_any _ rd rc Kk hrl hrc hrs (hR.kept K1)).mono ?_
  rintro e w2 ⟨hsay,k2⟩
  have q2:= (k2.cell (o:=0) hw1).trans q0
  have K2:=K1.trans k2
  have z2:=k2.size
  clear q0 K1 k2
  have hw2:w.heap.size < w2.heap.size:=by omega
  rcases hsay.cases with ⟨rfl,hyes⟩ | ⟨rfl,hno⟩
  ·have HY:=Kz hyes
   clear hyes hsay
   go_wp2_with fail
   refine (listOf_any _ a Kj.length cap).mono ?_
   rintro e w3 ⟨rfl,k3⟩
   have K3:=K2.trans k3
   have z3:=k3.size
   clear q2 k3 K2
   have hmm: (Instr.makeMap 122 none).run Tryz.prog w3= .ok (.map (some w3.heap.size)) (w3.alloc (.map #[] 0)):=rfl
   go_wp2
   clear hmm
   have KB:K_ w ((w3.alloc (.map #[] 0)).alloc (.cells #[.slice a Kj.length cap,.func (.func 111) #[] #[],.slice rd Kk.length rc,.slice none 0 0,.func (.func 63) #[] #[],.map (some w3.heap.size)] 128)):= (K3.alloc _).alloc _
   have hcb:=Xz (w3.alloc (.map #[] 0)) #[.slice a Kj.length cap,.func (.func 111) #[] #[],.slice rd Kk.length rc,.slice none 0 0,.func (.func 63) #[] #[],.map (some w3.heap.size)] 128
   simp only [World.size_alloc] at hcb
   have hrb:=RowT.made (w3.alloc (.map #[] 0)) #[.slice a Kj.length cap,.func (.func 111) #[] #[],.slice rd Kk.length rc,.slice none 0 0,.func (.func 63) #[] #[],.map (some w3.heap.size)] 128
   simp only [World.size_alloc] at hrb
   have hSt0:BM (Ghost.no w3) Kj w3 ((w3.alloc (.map #[] 0)).alloc (.cells #[.slice a Kj.length cap,.func (.func 111) #[] #[],.slice rd Kk.length rc,.slice none 0 0,.func (.func 63) #[] #[],.map (some w3.heap.size)] 128)) (w3.heap.size+1) a cap rd Kk.length rc w3.heap.size 0 [] none 0 (fun _=> .slice none 0 0) (fun _=> []):=BM.begun hrb hcb
   have HSt0:=Kz hSt0
   have HKB:=Kz KB
   clear hcb hrb hSt0 KB
   have hwl6:=web_len HC.out
   go_loopw [29] (fun i wr=> ∃(k:Nat) (ts:List Zx) (d:Option Addr) (dc:Nat),k<=Kk.length∧i= .int .i64 k∧BM (Ghost.no w3) Kj w3 wr (w3.heap.size+1) a cap rd Kk.length rc w3.heap.size 0 ts d dc (fun _=> .slice none 0 0) (fun _=> [])∧BegI Kj (Kk.take k) ts) (fun i _=> Kk.length - (intOf i).toNat)
   case atStart=> exact ⟨0,[],none,0,Nat.zero_le _,rfl,HSt0.out,BegI.nil Kj⟩
   case round=>
    obtain ⟨k,ts,d,dc,hk,rfl,hSt,hBe⟩:=hrel
    have hts:=hSt.len hwl6
    have hk10:Kk.length<=10:=HY.out.2.1
    by_cases hlt:k < Kk.length
    ·obtain ⟨b,o,rfl,hb,hc⟩:=hR k hlt
     obtain ⟨v,hv⟩: ∃v,v=Kk.getD k ByteArray.empty:= ⟨_,rfl⟩
     rw [<-hv] at hc
     have c0:wr.cell? ⟨b,o+k,none⟩=some (.string v):= ((K3.trans hSt.kw).cell hb).trans hc
     have htk:Hid (Kk.take (k+1)=Kk.take k++ [v]):=by show _=_;rw [List.take_succ_eq_append_getElem hlt,hv];simp [List.getD,hlt]
     have HW:=Kz (benchWant_b hSt v (by omega) hl (rises_code HC.out) (hS.kept K3))
     have HAs:=Kz hSt.asc
     have HBe:=Kz hBe
     have i0: (k:Int) < (Kk.length:Int):=by omega
     clear hv hSt hBe hc
     go_wp2_with fail
     refine (unhide HW).mono ?_
     rintro e w5 ⟨rfl,ts5,d5,dc5,hSt5,hw5⟩
     have HSt5:=Kz hSt5
     have HB5:=Kz (HBe.out.want HAs.out hSt5.asc hw5)
     clear hSt5 hw5
     go_wp2
     go_roundw
     case rel=> exact ⟨k+1,ts5,d5,dc5,by omega,by go_num,HSt5.out,by rw [htk.out];exact HB5.out⟩
     case measure=> simp [intOf];omega
    ·have hkl:k=Kk.length:=by omega
     subst hkl
     rw [List.take_length] at hBe
     have HSt2:=Kz hSt
     have HBe:=Kz hBe
     clear hSt hBe
     go_wp2
     go_ret2
     exact ⟨K3.trans HSt2.out.kw,.inr ⟨HC.out,HY.out,w3,_,_,ts,d,dc,rfl,K3,HSt2.out,(HBe.out.done (web_acts HC.out) HSt2.out.asc).1,(HBe.out.done (web_acts HC.out) HSt2.out.asc).2⟩⟩
  ·have HY:=Kz hno
   clear hno hsay
   go_wp2
   go_ret2
   exact ⟨K2,.inl ⟨fun h=> HY.out h.2,rfl⟩⟩
 ·have hcb: (c == 0)=false:=by simpa using hc0
  go_wp2
  go_ret2
  exact ⟨K1,.inl ⟨fun h=> hc0 (HC.out.unique h.1),rfl⟩⟩
