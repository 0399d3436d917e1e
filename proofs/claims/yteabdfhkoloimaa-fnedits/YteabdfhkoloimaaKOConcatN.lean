import Derived.Test.YteabdfhkoloimaaKOConcat
import Derived.Laws.AppendOwnNone
set_option maxRecDepth 100000
set_option maxHeartbeats 25600000
namespace Go.Proofs.Yteabdfhkoloimaa
open Go.RowKit
def RowsN (w w0:World) (b:Nat) (LL:List (List Q_)) (A:Nat->Option Addr) (C:Nat->Nat):Prop:=
 b < w.heap.size∧∀i,i < LL.length->w.cell? ⟨b,i,none⟩=some (.slice (A i) (LL.getD i []).length (C i))∧(match A i with
  | none=> LL.getD i []=[]∧C i=0
  | some ad=> ∃news,Packed w0 news (LL.getD i [])∧∀j u,news[j]? =some u->w.cell? (ad.add j)=some u)
theorem RowsN.kept {w w' w0:World} {b:Nat} {LL:List (List Q_)} {A:Nat->Option Addr} {C:Nat->Nat} (h:RowsN w w0 b LL A C) (k:K_ w w'):RowsN w' w0 b LL A C:=by
 refine ⟨Nat.lt_of_lt_of_le h.1 k.size,fun i hi=> ⟨by rw [k.cell h.1];exact (h.2 i hi).1, ?_⟩⟩
 have h2:= (h.2 i hi).2
 cases hA:A i with
 | none=> rw [hA] at h2;exact h2
 | some ad=>
  rw [hA] at h2
  obtain ⟨news,h3,h4⟩:=h2
  exact ⟨news,h3,fun j u hu=> by
   have:=h4 j u hu
   rw [Below.cell k (World.block_lt_of_cell? _ _ this)]
   exact this⟩
theorem concatN_any (w w0:World) (b cap:Nat) (LL:List (List Q_)) (A:Nat->Option Addr) (C:Nat->Nat) (hm:LL.length<=3) (hn: (LL.map List.length).sum<=3145728) (hR:RowsN w w0 b LL A C):
  Calls Try.prog 41 #[.slice (some ⟨b,0,none⟩) LL.length cap] w fun e w'=> ∃v xs,e= .returned v∧w'.ownsRow w.heap.size 30 3 v LL.flatten.length xs∧Packed w0 xs LL.flatten∧K_ w w':=by
 go_enter Try.func41,Try.ntmps41
 go_wp2
 go_loop [3,11] (fun x i=> ∃k:Nat,k<=LL.length∧i= .int .i64 k∧x= .int .i64 (sumTo List.length LL k:Nat)) (fun _ i=> LL.length - (intOf i).toNat)
 case atStart=> exact ⟨0,Nat.zero_le _,rfl,by rw [sumTo_zero];rfl⟩
 case round=>
  obtain ⟨k,hk,rfl,rfl⟩:=hrel
  by_cases hlt:k < LL.length
  ·have hc:= (hR.2 k hlt).1
   have HS:Hid (sumTo List.length LL (k+1)=sumTo List.length LL k+ (LL.getD k []).length):=sumTo_succ _ LL _ k hlt
   have HT:=sumTo_le List.length LL (k+1)
   have hst:sumTo List.length LL k+ (LL.getD k []).length<=3145728:=by have:=HS.out;omega
   generalize sumTo List.length LL k=z at *
   generalize (LL.getD k []).length=y at *
   generalize A k=ak at *
   clear HT
   go_wp2
   go_round
   case rel=> exact ⟨k+1,by omega,by go_num,by rw [HS.out];go_num⟩
   case measure=> simp [intOf];omega
  ·have hkl:k=LL.length:=by omega
   subst hkl
   have hz:sumTo List.length LL LL.length<=3145728:=by rw [sumTo_all];exact hn
   generalize sumTo List.length LL LL.length=z at *
   go_wp2_with fail
   refine (grow_any _ z hz).mono ?_
   rintro e w1 ⟨v1,rfl,hown,k1⟩
   go_wp2
   go_loopw [6,27] (fun x i wr=> ∃(k n:Nat) (xs:List Value),k<=LL.length∧i= .int .i64 k∧wr.ownsRow w.heap.size 30 3 x n xs∧Packed w0 xs (LL.take k).flatten∧K_ w wr) (fun _ i _=> LL.length - (intOf i).toNat)
   case atStart=> exact ⟨0,0,[],Nat.zero_le _,rfl,hown,by simpa using Packed.nil _,k1⟩
   case round=>
    obtain ⟨k,n,xs,hk,rfl,hown,hP,hw⟩:=hrel
    by_cases hlt:k < LL.length
    ·have hc:= ((hR.kept hw).2 k hlt).1
     have hbr:= (hR.kept hw).1
     have hrest:= ((hR.kept hw).2 k hlt).2
     generalize hA:A k=ak at *
     cases ak with
     | none=>
      obtain ⟨hnil,hc0⟩:=hrest
      rw [hnil,hc0] at hc
      obtain ⟨i0,hi,hz0,hz1,hz2⟩:=info_parts Try.infoNode
      have hflat:=flat_take_succ LL k hlt
      rw [hnil,List.append_nil] at hflat
      have HP1:Hid (Packed w0 xs (LL.take (k+1)).flatten):=by show Packed _ _ _;rw [hflat];exact hP
      have HOw:=Kz hown
      clear hflat hP hown hnil hc0
      go_wp2_with (at_builtin;refine wpList_append_own_none rfl (.tmp 31) (.tmp 32) 23 rfl w.heap.size 30 i0 3 Try.underlying23 hi _ n xs rfl HOw.out rfl ?_)
      go_roundw
      case rel=> exact ⟨k+1,n,xs,by omega,by go_num,HOw.out,HP1.out,hw⟩
      case measure=> simp [intOf];omega
     | some ad=>
      obtain ⟨news,hnP,hnw⟩:=hrest
      have hflat:=flat_take_succ LL k hlt
      have hln:=flat_len LL (k+1)
      have hle:=sumTo_le List.length LL (k+1)
      have hnl:n= (LL.take k).flatten.length:=by have q1:=hown.1;have q2:=hP.1;omega
      rw [hflat,List.length_append] at hln
      have hPn:Packed w0 (xs++news) (LL.take (k+1)).flatten:=by rw [hflat];exact hP.append hnP
      have hnl2:news.length= (LL.getD k []).length * 3:=hnP.1
      have hone:=hnP.2.1
      obtain ⟨y,hy⟩: ∃y,y= (LL.getD k []).length:= ⟨_,rfl⟩
      rw [<-hy] at hc hnl2 hln
      have hb1:n+y<=3145728:=by omega
      obtain ⟨i0,hi,hz0,hz1,hz2⟩:=info_parts Try.infoNode
      have HPn:=Kz hPn
      have HN2:=Kz hnw
      have HON:=Kz hone
      have HOw:=Kz hown
      have hbase:=hw.size
      clear hPn hnw hone hy hnl hln hle hflat hnP hP
      go_wp2_with (at_builtin;refine wpList_append_own _ rfl (.tmp 31) (.tmp 32) 23 rfl w.heap.size 30 i0 _ 3 48 Try.underlying23 hi hz0 hz1 hz2 rfl (by decide) _ n xs rfl HOw.out ad y (C k) news rfl hnl2 HN2.out HON.out (by unfold maxLen;omega) (by omega) hbase ?_;intro v' w2 hown2 hgr _)
      go_roundw
      case rel=> exact ⟨k+1,n+y,xs++news,by omega,by go_num,hown2,HPn.out,kept_of_grown hw (Nat.le_refl _) HOw.out hgr⟩
      case measure=> simp [intOf];omega
    ·have hkl:k=LL.length:=by omega
     subst hkl
     rw [List.take_length] at hP
     have hn:n=LL.flatten.length:=by have q1:=hown.1;have q2:=hP.1;omega
     subst hn
     have HOw:=Kz hown
     have HP:=Kz hP
     clear hown hP
     go_wp2
     go_ret
     exact ⟨_,xs,rfl,HOw.out,HP.out,hw⟩
