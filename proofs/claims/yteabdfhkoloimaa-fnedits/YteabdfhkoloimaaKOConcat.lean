import Derived.Test.YteabdfhkoloimaaKOTo2
import Derived.Lib.AppendZeros
set_option maxRecDepth 100000
set_option maxHeartbeats 25600000
namespace Go.Proofs.Yteabdfhkoloimaa
open Go.RowKit
theorem Try.undInt :Try.prog.underlying 3=some (.int .i64):=by kernel_rfl
theorem grow_any (w:World) (n:Nat) (hn:n<=3145728):
  Calls Try.prog 54 #[.slice none 0 0,.int .i64 n] w fun e w'=> ∃v,e= .returned v∧w'.ownsRow w.heap.size 30 3 v 0 []∧K_ w w':=by
 by_cases h0:n=0
 ·subst h0
  go_enter Try.func54,Try.ntmps54
  go_wp2
  go_ret
  exact ⟨_,rfl,World.ownsRow_nil _ _ _ _,K_.refl _⟩
 ·obtain ⟨i0,hi,hz0,hz1,hz2⟩:=info_parts Try.infoNode
  have hrun:=fun ty=> Lib.run_append_nil_zeros (P:=Try.prog) w 23 3 ty 30 i0 _ .i64 .i64 Try.underlying23 Try.undInt hi hz0 n (by omega) (by rw [hz1];omega) (by omega) (by rw [hz2];omega)
  have hge:=grownCap_ge w n 0 30
  have hle:=grownCap_le_maxLen w n 0 30 (by unfold maxLen;omega)
  have HRun:=Kz hrun
  clear hrun
  have hp: (0:Int) < (n:Int):=by omega
  go_enter Try.func54,Try.ntmps54
  go_wp2_with (at_builtin;refine Lib.wpList_append_run _ rfl (.tmp 20) (.tmp 21) _ _ rfl _ _ rfl rfl _ _ (HRun.out _) ?_)
  go_ret
  refine ⟨_,rfl,World.ownsRow.drew (World.ownsRow_made w _ _ (Nat.le_refl _) hle ?_),((K_.refl _).alloc _).drew⟩
  simp only [Array.size_append,size_zeroCells]
  have e3: (#[Value.string ⟨#[]⟩,Value.int .i64 0,Value.slice none 0 0]:Array Value).size=3:=rfl
  rw [e3,<-Nat.add_mul]
  congr 1
  omega
def Rows2 (w w0:World) (b:Nat) (LL:List (List Q_)) (P:Nat->Nat×Nat) (C:Nat->Nat):Prop:=
 b < w.heap.size∧∀i,i < LL.length->w.cell? ⟨b,i,none⟩=some (.slice (some ⟨(P i).1,(P i).2,none⟩) (LL.getD i []).length (C i))∧∃news,Packed w0 news (LL.getD i [])∧∀j u,news[j]? =some u->w.cell? ⟨(P i).1,(P i).2+j,none⟩=some u
theorem Rows2.kept {w w' w0:World} {b:Nat} {LL:List (List Q_)} {P:Nat->Nat×Nat} {C:Nat->Nat} (h:Rows2 w w0 b LL P C) (k:K_ w w'):Rows2 w' w0 b LL P C:=
 ⟨Nat.lt_of_lt_of_le h.1 k.size,fun i hi=> ⟨by rw [k.cell h.1];exact (h.2 i hi).1,let ⟨news,h1,h2⟩:= (h.2 i hi).2;⟨news,h1,fun j u hu=> by rw [k.cell (World.block_lt_of_cell? _ _ (h2 j u hu))];exact h2 j u hu⟩⟩⟩
theorem flat_take_succ (LL:List (List Q_)) (k:Nat) (h:k < LL.length): (LL.take (k+1)).flatten= (LL.take k).flatten++LL.getD k []:=by
 rw [List.take_succ_eq_append_getElem h,List.flatten_append]
 simp [List.getD,h]
theorem flat_len (LL:List (List Q_)) (k:Nat): (LL.take k).flatten.length=sumTo List.length LL k:=by
 unfold sumTo
 rw [List.length_flatten]
theorem concat_any (w w0:World) (b cap:Nat) (LL:List (List Q_)) (P:Nat->Nat×Nat) (C:Nat->Nat) (hm:LL.length<=3) (hn: (LL.map List.length).sum<=3145728) (hR:Rows2 w w0 b LL P C):
  Calls Try.prog 41 #[.slice (some ⟨b,0,none⟩) LL.length cap] w fun e w'=> ∃v xs,e= .returned v∧w'.ownsRow w.heap.size 30 3 v LL.flatten.length xs∧Packed w0 xs LL.flatten∧K_ w w':=by
 go_enter Try.func41,Try.ntmps41
 go_wp2
 go_loop [3,11] (fun x i=> ∃k:Nat,k<=LL.length∧i= .int .i64 k∧x= .int .i64 (sumTo List.length LL k:Nat)) (fun _ i=> LL.length - (intOf i).toNat)
 case atStart=> exact ⟨0,Nat.zero_le _,rfl,by rw [sumTo_zero];rfl⟩
 case round=>
  obtain ⟨k,hk,rfl,rfl⟩:=hrel
  by_cases hlt:k < LL.length
  ·have hc:= (hR.2 k hlt).1
   have HS:Hid (sumTo List.length LL (k+1)=sumTo List.length LL k+ (LL.getD k []).length):=sumTo_succ _ LL _ k hlt
   have HT:=sumTo_le List.length LL (k+1)
   have hst:sumTo List.length LL k+ (LL.getD k []).length<=3145728:=by have:=HS.out;omega
   generalize sumTo List.length LL k=z at *
   generalize (LL.getD k []).length=y at *
   obtain ⟨p1,p2⟩:=P k
   clear HT
   go_wp2
   go_round
   case rel=> exact ⟨k+1,by omega,by go_num,by rw [HS.out];go_num⟩
   case measure=> simp [intOf];omega
  ·have hkl:k=LL.length:=by omega
   subst hkl
   have hz:sumTo List.length LL LL.length<=3145728:=by rw [sumTo_all];exact hn
   generalize sumTo List.length LL LL.length=z at *
   go_wp2_with fail
   refine (grow_any _ z hz).mono ?_
   rintro e w1 ⟨v1,rfl,hown,k1⟩
   go_wp2
   go_loopw [6,27] (fun x i wr=> ∃(k n:Nat) (xs:List Value),k<=LL.length∧i= .int .i64 k∧wr.ownsRow w.heap.size 30 3 x n xs∧Packed w0 xs (LL.take k).flatten∧K_ w wr) (fun _ i _=> LL.length - (intOf i).toNat)
   case atStart=> exact ⟨0,0,[],Nat.zero_le _,rfl,hown,by simpa using Packed.nil _,k1⟩
   case round=>
    obtain ⟨k,n,xs,hk,rfl,hown,hP,hw⟩:=hrel
    by_cases hlt:k < LL.length
    ·have hc:= ((hR.kept hw).2 k hlt).1
     have hbr:= (hR.kept hw).1
     obtain ⟨news,hnP,hnc⟩:= ((hR.kept hw).2 k hlt).2
     obtain ⟨p1,hp1⟩: ∃p1,p1= (P k).1:= ⟨_,rfl⟩
     obtain ⟨p2,hp2⟩: ∃p2,p2= (P k).2:= ⟨_,rfl⟩
     rw [<-hp1,<-hp2] at hc hnc
     clear hp1 hp2
     have hnw: ∀j u,news[j]? =some u->wr.cell? ((⟨p1,p2,none⟩:Addr).add j)=some u:=fun j u hu=> by
      rw [Addr.add_mid]
      exact hnc j u hu
     have hflat:=flat_take_succ LL k hlt
     have hln:=flat_len LL (k+1)
     have hle:=sumTo_le List.length LL (k+1)
     have hnl:n= (LL.take k).flatten.length:=by have q1:=hown.1;have q2:=hP.1;omega
     rw [hflat,List.length_append] at hln
     have hPn:Packed w0 (xs++news) (LL.take (k+1)).flatten:=by rw [hflat];exact hP.append hnP
     have hnl2:news.length= (LL.getD k []).length * 3:=hnP.1
     have hone:=hnP.2.1
     obtain ⟨y,hy⟩: ∃y,y= (LL.getD k []).length:= ⟨_,rfl⟩
     rw [<-hy] at hc hnl2 hln
     have hb1:n+y<=3145728:=by omega
     obtain ⟨i0,hi,hz0,hz1,hz2⟩:=info_parts Try.infoNode
     have HPn:=Kz hPn
     have HN2:=Kz hnw
     have HON:=Kz hone
     have HOw:=Kz hown
     have hbase:=hw.size
     clear hPn hnw hone hy hnl hln hle hflat hnc hnP hP
     go_wp2_with (at_builtin;refine wpList_append_own _ rfl (.tmp 31) (.tmp 32) 23 rfl w.heap.size 30 i0 _ 3 48 Try.underlying23 hi hz0 hz1 hz2 rfl (by decide) _ n xs rfl HOw.out ⟨p1,p2,none⟩ y (C k) news rfl hnl2 HN2.out HON.out (by unfold maxLen;omega) (by omega) hbase ?_;intro v' w2 hown2 hgr _)
     go_roundw
     case rel=> exact ⟨k+1,n+y,xs++news,by omega,by go_num,hown2,HPn.out,kept_of_grown hw (Nat.le_refl _) HOw.out hgr⟩
     case measure=> simp [intOf];omega
    ·have hkl:k=LL.length:=by omega
     subst hkl
     rw [List.take_length] at hP
     have hn:n=LL.flatten.length:=by have q1:=hown.1;have q2:=hP.1;omega
     subst hn
     have HOw:=Kz hown
     have HP:=Kz hP
     clear hown hP
     go_wp2
     go_ret
     exact ⟨_,xs,rfl,HOw.out,HP.out,hw⟩
