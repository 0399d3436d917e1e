import Derived.Test.YteabdfhkoloimaaKOTo2
import Derived.Test.YteabdfhkoloimaaKWImpl5
import Derived.Test.YteabdfhkoloimaaKWSpec5
set_option maxRecDepth 100000
set_option maxHeartbeats 25600000
namespace Go.Proofs.Yteabdfhkoloimaa
open Go.RowKit
def NoneN (l:List Q_) (p:Q_->Prop) (k:Nat):Prop:= ∀j,j < k->¬p (l.getD j Q_.zero)
def SomeN (l:List Q_) (p:Q_->Prop):Prop:= ∃i,i < l.length∧p (l.getD i Q_.zero)
def FirstN (l:List Q_) (p:Q_->Prop) (r:Int):Prop:=
 (∃i,i < l.length∧r= (i:Int)∧p (l.getD i Q_.zero))∨(r= -1∧NoneN l p l.length)
def BadName (d:Q_):Prop:= ¬NameOk d.name
def BadMade (d:Q_):Prop:= ¬ActionOk ⟨d.cost,d.steps⟩
theorem badlyNamed_any (w:World) (d:Q_) (a:Option Addr) (cap:Nat) (hd:d.Fits):
  Calls Try.prog 17 #[.agg #[.string d.name,.int .i64 d.cost,.slice a d.steps.length cap]] w fun e w'=> Says e (BadName d)∧K_ w w':=by
 have k0:K_ w (w.alloc (.cells #[.string d.name,.int .i64 d.cost,.slice a d.steps.length cap] 30)):= (K_.refl _).alloc _
 go_enter Try.func17,Try.ntmps17
 go_wp2_with fail
 refine (validName_any _ d.name hd.name).mono ?_
 rintro e w1 ⟨hsay,k1⟩
 have k2:=k0.trans k1
 clear k0 k1
 rcases hsay.cases with ⟨rfl,hyes⟩ | ⟨rfl,hno⟩
 ·have HY:=Kz hyes
  clear hyes hsay
  go_wp2
  go_ret
  exact ⟨Says.no fun h=> h HY.out,k2⟩
 ·have HY:=Kz hno
  clear hno hsay
  go_wp2
  go_ret
  exact ⟨Says.yes HY.out,k2⟩
theorem badlyMade_any (w:World) (d:Q_) (a:Option Addr) (cap:Nat) (hd:d.Fits) (hS:Steps w a d.steps):
  Calls Try.prog 18 #[.agg #[.string d.name,.int .i64 d.cost,.slice a d.steps.length cap]] w fun e w'=> Says e (BadMade d)∧K_ w w':=by
 have k0:K_ w (w.alloc (.cells #[.string d.name,.int .i64 d.cost,.slice a d.steps.length cap] 30)):= (K_.refl _).alloc _
 go_enter Try.func18,Try.ntmps18
 go_wp2_with fail
 refine (implValidAction_any _ d.cost a cap d.steps hd.steps hd.each (hS.kept k0)).mono ?_
 rintro e w1 ⟨hsay,k1⟩
 have k2:=k0.trans k1
 clear k0 k1
 rcases hsay.cases with ⟨rfl,hyes⟩ | ⟨rfl,hno⟩
 ·have HY:=Kz hyes
  clear hyes hsay
  go_wp2
  go_ret
  exact ⟨Says.no fun h=> h HY.out,k2⟩
 ·have HY:=Kz hno
  clear hno hsay
  go_wp2
  go_ret
  exact ⟨Says.yes HY.out,k2⟩
theorem indexNamed (w:World) (a:Option Addr) (cap:Nat) (l:List Q_) (hl:l.length<=maxLen) (hs: ∀c∈l,c.Fits) (hS:Nodes w a l):
  Calls Try.prog 47 #[.slice a l.length cap,.func (.func 17) #[] #[]] w fun e w'=> (∃r,e= .returned (.int .i64 r)∧FirstN l BadName r)∧K_ w w':=by
 unfold maxLen at hl
 go_enter Try.func47,Try.ntmps47
 go_wp2
 go_loopw [8] (fun i wr=> ∃k:Nat,k<=l.length∧i= .int .i64 k∧K_ w wr∧NoneN l BadName k) (fun i _=> l.length - (intOf i).toNat)
 case atStart=> exact ⟨0,Nat.zero_le _,rfl,K_.refl _,fun j hj=> absurd hj (Nat.not_lt_zero _)⟩
 case round=>
  obtain ⟨k,hk,rfl,hw,hg⟩:=hrel
  have HG:=Kz hg
  clear hg
  by_cases hlt:k < l.length
  ·obtain ⟨b,o,cs,rfl,hb,hc,aa,ca,rfl,hA⟩:=hS.kept hw k hlt
   have hsz:=hs (l.getD k Q_.zero) (by simp [List.getD,hlt])
   obtain ⟨c,hck⟩: ∃c,c=l.getD k Q_.zero:= ⟨_,rfl⟩
   rw [<-hck] at hc hsz hA
   have HCK:=Kz hck
   clear hck
   have c0:=hc 0 _ rfl
   have c1:=hc 1 _ rfl
   have c2:=hc 2 _ rfl
   simp only [Nat.add_zero] at c0
   clear hc
   go_wp2_with fail
   refine (badlyNamed_any _ c aa ca hsz).mono ?_
   rintro e w1 ⟨hsay,hw1⟩
   have hw2:=hw.trans hw1
   clear c0 c1 c2 hw hw1
   rcases hsay.cases with ⟨rfl,hyes⟩ | ⟨rfl,hno⟩
   ·have HY:=Kz hyes
    clear hyes hsay
    go_wp2
    go_ret
    exact ⟨⟨k,rfl,Or.inl ⟨k,hlt,rfl,by rw [<-HCK.out];exact HY.out⟩⟩,hw2⟩
   ·have HN:=Kz hno
    clear hno hsay
    go_wp2
    go_roundw
    case rel=>
     refine ⟨k+1,by omega,by go_num,hw2,fun j hj=> ?_⟩
     by_cases e:j=k
     ·subst e
      rw [<-HCK.out]
      exact HN.out
     ·exact HG.out j (by omega)
    case measure=> simp [intOf];omega
  ·go_wp2
   go_ret
   exact ⟨⟨-1,rfl,Or.inr ⟨rfl,fun j hj=> HG.out j (by omega)⟩⟩,hw⟩
theorem indexMade (w:World) (a:Option Addr) (cap:Nat) (l:List Q_) (hl:l.length<=maxLen) (hs: ∀c∈l,c.Fits) (hS:Nodes w a l):
  Calls Try.prog 47 #[.slice a l.length cap,.func (.func 18) #[] #[]] w fun e w'=> (∃r,e= .returned (.int .i64 r)∧FirstN l BadMade r)∧K_ w w':=by
 unfold maxLen at hl
 go_enter Try.func47,Try.ntmps47
 go_wp2
 go_loopw [8] (fun i wr=> ∃k:Nat,k<=l.length∧i= .int .i64 k∧K_ w wr∧NoneN l BadMade k) (fun i _=> l.length - (intOf i).toNat)
 case atStart=> exact ⟨0,Nat.zero_le _,rfl,K_.refl _,fun j hj=> absurd hj (Nat.not_lt_zero _)⟩
 case round=>
  obtain ⟨k,hk,rfl,hw,hg⟩:=hrel
  have HG:=Kz hg
  clear hg
  by_cases hlt:k < l.length
  ·obtain ⟨b,o,cs,rfl,hb,hc,aa,ca,rfl,hA⟩:=hS.kept hw k hlt
   have hsz:=hs (l.getD k Q_.zero) (by simp [List.getD,hlt])
   obtain ⟨c,hck⟩: ∃c,c=l.getD k Q_.zero:= ⟨_,rfl⟩
   rw [<-hck] at hc hsz hA
   have HCK:=Kz hck
   clear hck
   have c0:=hc 0 _ rfl
   have c1:=hc 1 _ rfl
   have c2:=hc 2 _ rfl
   simp only [Nat.add_zero] at c0
   clear hc
   go_wp2_with fail
   refine (badlyMade_any _ c aa ca hsz hA).mono ?_
   rintro e w1 ⟨hsay,hw1⟩
   have hw2:=hw.trans hw1
   clear c0 c1 c2 hw hw1
   rcases hsay.cases with ⟨rfl,hyes⟩ | ⟨rfl,hno⟩
   ·have HY:=Kz hyes
    clear hyes hsay
    go_wp2
    go_ret
    exact ⟨⟨k,rfl,Or.inl ⟨k,hlt,rfl,by rw [<-HCK.out];exact HY.out⟩⟩,hw2⟩
   ·have HN:=Kz hno
    clear hno hsay
    go_wp2
    go_roundw
    case rel=>
     refine ⟨k+1,by omega,by go_num,hw2,fun j hj=> ?_⟩
     by_cases e:j=k
     ·subst e
      rw [<-HCK.out]
      exact HN.out
     ·exact HG.out j (by omega)
    case measure=> simp [intOf];omega
  ·go_wp2
   go_ret
   exact ⟨⟨-1,rfl,Or.inr ⟨rfl,fun j hj=> HG.out j (by omega)⟩⟩,hw⟩
theorem containsNamed (w:World) (a:Option Addr) (cap:Nat) (l:List Q_) (hl:l.length<=maxLen) (hs: ∀c∈l,c.Fits) (hS:Nodes w a l):
  Calls Try.prog 28 #[.slice a l.length cap,.func (.func 17) #[] #[]] w fun e w'=> Says e (SomeN l BadName)∧K_ w w':=by
 go_enter Try.func28,Try.ntmps28
 go_wp2_with fail
 refine (indexNamed _ a cap l hl hs hS).mono ?_
 rintro e w1 ⟨⟨r,rfl,hr⟩,k1⟩
 have HR:=Kz hr
 clear hr
 by_cases h0:0<=r
 ·have h1:decide (0<=r)=true:=by simpa using h0
  go_wp2
  go_ret
  exact ⟨Says.yes (by rcases HR.out with ⟨i,hi,_,hp⟩ | ⟨rfl,_⟩;exact ⟨i,hi,hp⟩;omega),k1⟩
 ·have h1:decide (0<=r)=false:=by simpa using h0
  go_wp2
  go_ret
  exact ⟨Says.no (by rcases HR.out with ⟨i,hi,rfl,hp⟩ | ⟨rfl,hno⟩;omega;exact fun ⟨i,hi,hp⟩=> hno i hi hp),k1⟩
theorem containsMade (w:World) (a:Option Addr) (cap:Nat) (l:List Q_) (hl:l.length<=maxLen) (hs: ∀c∈l,c.Fits) (hS:Nodes w a l):
  Calls Try.prog 28 #[.slice a l.length cap,.func (.func 18) #[] #[]] w fun e w'=> Says e (SomeN l BadMade)∧K_ w w':=by
 go_enter Try.func28,Try.ntmps28
 go_wp2_with fail
 refine (indexMade _ a cap l hl hs hS).mono ?_
 rintro e w1 ⟨⟨r,rfl,hr⟩,k1⟩
 have HR:=Kz hr
 clear hr
 by_cases h0:0<=r
 ·have h1:decide (0<=r)=true:=by simpa using h0
  go_wp2
  go_ret
  exact ⟨Says.yes (by rcases HR.out with ⟨i,hi,_,hp⟩ | ⟨rfl,_⟩;exact ⟨i,hi,hp⟩;omega),k1⟩
 ·have h1:decide (0<=r)=false:=by simpa using h0
  go_wp2
  go_ret
  exact ⟨Says.no (by rcases HR.out with ⟨i,hi,rfl,hp⟩ | ⟨rfl,hno⟩;omega;exact fun ⟨i,hi,hp⟩=> hno i hi hp),k1⟩
def FallsAt (l:List Q_) (i:Nat):Prop:=Op.bytesLess (l.getD i Q_.zero).name.toList (l.getD (i+1) Q_.zero).name.toList=false
def SomeFalls (l:List Q_):Prop:= ∃i,i+1 < l.length∧FallsAt l i
def RisesTo (l:List Q_) (k:Nat):Prop:= ∀j,j+1 < k->¬FallsAt l j
def WebCode (l:List Q_) (c:Int):Prop:=
 (60 < l.length∧c=1)∨(¬60 < l.length∧SomeN l BadName∧c=2)∨(¬60 < l.length∧¬SomeN l BadName∧SomeFalls l∧c=3)∨
 (¬60 < l.length∧¬SomeN l BadName∧¬SomeFalls l∧SomeN l BadMade∧c=4)∨(¬60 < l.length∧¬SomeN l BadName∧¬SomeFalls l∧¬SomeN l BadMade∧c=0)
theorem WebCode.unique {l:List Q_} {c c':Int} (h:WebCode l c) (h':WebCode l c'):c=c':=by
 rcases h with ⟨h1,rfl⟩ | ⟨h1,h2,rfl⟩ | ⟨h1,h2,h3,rfl⟩ | ⟨h1,h2,h3,h4,rfl⟩ | ⟨h1,h2,h3,h4,rfl⟩ <;>
  rcases h' with ⟨g1,rfl⟩ | ⟨g1,g2,rfl⟩ | ⟨g1,g2,g3,rfl⟩ | ⟨g1,g2,g3,g4,rfl⟩ | ⟨g1,g2,g3,g4,rfl⟩ <;> first | rfl | contradiction
theorem specCheckWeb_any (w:World) (a:Option Addr) (cap:Nat) (l:List Q_) (hl:l.length<=maxLen) (hs: ∀s∈l,s.Fits) (hS:Nodes w a l):
  Calls Try.prog 22 #[.agg #[.slice a l.length cap]] w fun e w'=> (∃c,e= .returned (.int .i64 c)∧WebCode l c)∧K_ w w':=by
 unfold maxLen at hl
 have k0:K_ w (w.alloc (.cells #[.slice a l.length cap] 25)):= (K_.refl _).alloc _
 by_cases a1: (60:Int) < l.length
 ·go_enter Try.func22,Try.ntmps22
  go_wp2
  go_ret
  exact ⟨⟨1,rfl,Or.inl ⟨by omega,rfl⟩⟩,k0⟩
 ·have a2:decide ((60:Int) < l.length)=false:=by simpa using a1
  go_enter Try.func22,Try.ntmps22
  go_wp2
  clear a2
  go_loopw [3] (fun i wr=> ∃k:Nat,k<=l.length∧i= .int .i64 k∧K_ (w.alloc (.cells #[.slice a l.length cap] 25)) wr∧NoneN l BadName k) (fun i _=> l.length - (intOf i).toNat)
  case atStart=> exact ⟨0,Nat.zero_le _,rfl,K_.refl _,fun j hj=> absurd hj (Nat.not_lt_zero _)⟩
  case round=>
   obtain ⟨k,hk,rfl,hw,hg⟩:=hrel
   have HG:=Kz hg
   clear hg
   obtain ⟨hc1,hf1⟩:=hw.rules
   have hz1:=hw.size
   simp only [World.size_alloc] at hz1
   by_cases hlt:k < l.length
   ·obtain ⟨b,o,cs,rfl,hb,hc,aa,ca,rfl,hA⟩:= (hS.kept k0).kept hw k hlt
    have hsz:=hs (l.getD k Q_.zero) (by simp [List.getD,hlt])
    obtain ⟨d,hdk⟩: ∃d,d=l.getD k Q_.zero:= ⟨_,rfl⟩
    rw [<-hdk] at hc hsz
    have HDK:=Kz hdk
    clear hdk
    have c0:=hc 0 _ rfl
    simp only [Nat.add_zero] at c0
    clear hc hA
    go_wp2_with fail
    refine (l1NameOk_any _ d.name hsz.name).mono ?_
    rintro e w1 ⟨hsay,hw1⟩
    have hw1':=Eq.symm hw1
    clear hw1
    subst hw1'
    rcases hsay.cases with ⟨rfl,hyes⟩ | ⟨rfl,hno⟩
    ·have HY:=Kz hyes
     clear hyes hsay c0
     go_wp2
     go_roundw
     case rel=>
      refine ⟨k+1,by omega,by go_num,hw,fun j hj=> ?_⟩
      by_cases e:j=k
      ·subst e
       rw [<-HDK.out]
       exact fun h=> h HY.out
      ·exact HG.out j (by omega)
     case measure=> simp [intOf];omega
    ·have HN:=Kz hno
     clear hno hsay c0
     go_wp2
     go_ret
     exact ⟨⟨2,rfl,Or.inr (Or.inl ⟨by omega,⟨k,hlt,by rw [<-HDK.out];exact HN.out⟩,rfl⟩)⟩,k0.trans hw⟩
   ·have HB:Hid (¬SomeN l BadName):=fun ⟨i,hi,h⟩=> HG.out i (by omega) h
    clear HG
    go_wp2
    clear hc1 hf1 hz1
    go_loopw [4] (fun i wr'=> ∃n:Nat,1<=n∧n<=l.length+1∧i= .int .i64 n∧K_ (w.alloc (.cells #[.slice a l.length cap] 25)) wr'∧RisesTo l n) (fun i _=> l.length+2 - (intOf i).toNat)
    case atStart=> exact ⟨1,by omega,by omega,rfl,hw,fun j hj=> absurd hj (by omega)⟩
    case round=>
     clear hw hk hlt
     obtain ⟨n,hn1,hn2,rfl,hw,hg⟩:=hrel
     have HG:=Kz hg
     clear hg
     obtain ⟨hc1,hf1⟩:=hw.rules
     have hz1:=hw.size
     simp only [World.size_alloc] at hz1
     by_cases hlt:n < l.length
     ·obtain ⟨b,o,cs,rfl,hb,hc,aa,ca,rfl,hA⟩:= (hS.kept k0).kept hw (n - 1) (by omega)
      obtain ⟨b',o',cs',e',hb',hc',ba,da,rfl,hA'⟩:= (hS.kept k0).kept hw n hlt
      simp only [Option.some.injEq,Addr.mk.injEq,and_true] at e'
      obtain ⟨rfl,rfl⟩:=e'
      obtain ⟨x,hxk⟩: ∃x,x= (l.getD (n - 1) Q_.zero):= ⟨_,rfl⟩
      obtain ⟨y,hyk⟩: ∃y,y= (l.getD n Q_.zero):= ⟨_,rfl⟩
      rw [<-hxk] at hc
      rw [<-hyk] at hc'
      have HX:Hid (l.getD (n - 1) Q_.zero=x):=hxk.symm
      have HYK:Hid (l.getD (n - 1+1) Q_.zero=y):=by rw [hyk,show n - 1+1=n by omega];exact rfl
      clear hxk hyk hA hA'
      have c0:=hc 0 _ rfl
      have d0:=hc' 0 _ rfl
      simp only [Nat.add_zero] at c0 d0
      clear hc hc'
      have i0: (0:Int)<=(n:Int) - 1:=by omega
      have i1: (n:Int) - 1 < (l.length:Int):=by omega
      cases hbl:Op.bytesLess x.name.toList y.name.toList
      ·go_wp2
       go_region
       all_goals
        go_wp2
        go_ret
        exact ⟨⟨3,rfl,Or.inr (Or.inr (Or.inl ⟨by omega,HB.out,⟨n - 1,by omega,by unfold FallsAt;rw [HX.out,HYK.out];exact hbl⟩,rfl⟩))⟩,k0.trans (by repeat (first | apply K_.drew | exact hw))⟩
      ·go_wp2
       go_region
       all_goals
        go_wp2
        go_roundw
        case rel=>
         refine ⟨n+1,by omega,by omega,by go_num,by repeat (first | apply K_.drew | exact hw),fun j hj=> ?_⟩
         by_cases e:j=n - 1
         ·subst e
          unfold FallsAt
          rw [HX.out,HYK.out,hbl]
          simp
         ·exact HG.out j (by omega)
        case measure=> simp [intOf];omega
     ·have HC:Hid (¬SomeFalls l):=fun ⟨i,hi,h⟩=> HG.out i (by omega) h
      clear HG
      go_wp2
      clear hc1 hf1 hz1
      go_loopw [5] (fun i wr'=> ∃k:Nat,k<=l.length∧i= .int .i64 k∧K_ (w.alloc (.cells #[.slice a l.length cap] 25)) wr'∧NoneN l BadMade k) (fun i _=> l.length - (intOf i).toNat)
      case atStart=> exact ⟨0,Nat.zero_le _,rfl,hw,fun j hj=> absurd hj (Nat.not_lt_zero _)⟩
      case round=>
       clear hw hlt
       obtain ⟨k,hk,rfl,hw,hg⟩:=hrel
       have HG:=Kz hg
       clear hg
       obtain ⟨hc1,hf1⟩:=hw.rules
       have hz1:=hw.size
       simp only [World.size_alloc] at hz1
       by_cases hlt:k < l.length
       ·obtain ⟨b,o,cs,rfl,hb,hc,aa,ca,rfl,hA⟩:= (hS.kept k0).kept hw k hlt
        have hsz:=hs (l.getD k Q_.zero) (by simp [List.getD,hlt])
        obtain ⟨d,hdk⟩: ∃d,d=l.getD k Q_.zero:= ⟨_,rfl⟩
        rw [<-hdk] at hc hsz hA
        have HDK:=Kz hdk
        clear hdk
        have c0:=hc 0 _ rfl
        have c1:=hc 1 _ rfl
        have c2:=hc 2 _ rfl
        simp only [Nat.add_zero] at c0
        clear hc
        go_wp2_with fail
        refine (specValidAction_any _ d.cost aa ca d.steps hsz.steps hsz.each hA).mono ?_
        rintro e w1 ⟨hsay,hw1⟩
        have hw2:=hw.trans hw1
        clear hw hw1 c0 c1 c2 hA hc1 hf1
        rcases hsay.cases with ⟨rfl,hyes⟩ | ⟨rfl,hno⟩
        ·have HY:=Kz hyes
         clear hyes hsay
         go_wp2
         go_roundw
         case rel=>
          refine ⟨k+1,by omega,by go_num,hw2,fun j hj=> ?_⟩
          by_cases e:j=k
          ·subst e
           rw [<-HDK.out]
           exact fun h=> h HY.out
          ·exact HG.out j (by omega)
         case measure=> simp [intOf];omega
        ·have HN:=Kz hno
         clear hno hsay
         go_wp2
         go_ret
         exact ⟨⟨4,rfl,Or.inr (Or.inr (Or.inr (Or.inl ⟨by omega,HB.out,HC.out,⟨k,hlt,by rw [<-HDK.out];exact HN.out⟩,rfl⟩)))⟩,k0.trans hw2⟩
       ·go_wp2
        go_ret
        exact ⟨⟨0,rfl,Or.inr (Or.inr (Or.inr (Or.inr ⟨by omega,HB.out,HC.out,fun ⟨i,hi,h⟩=> HG.out i (by omega) h,rfl⟩)))⟩,k0.trans hw⟩
theorem less_trans : ∀(x y z:List UInt8),Op.bytesLess x y=true->Op.bytesLess y z=true->Op.bytesLess x z=true
 | [],[],_,h,_=> by simp [Op.bytesLess] at h
 | [],_ :: _,[],_,h=> by simp [Op.bytesLess] at h
 | [],_ :: _,_ :: _,_,_=> by simp [Op.bytesLess]
 | _ :: _,[],_,h,_=> by simp [Op.bytesLess] at h
 | _ :: _,_ :: _,[],_,h=> by simp [Op.bytesLess] at h
 | a :: x,b :: y,c :: z,h1,h2=> by
  have ih:=less_trans x y z
  simp only [Op.bytesLess,Bool.or_eq_true,Bool.and_eq_true,decide_eq_true_eq,beq_iff_eq] at h1 h2⊢
  rcases h1 with h1 | ⟨rfl,h1⟩
  ·rcases h2 with h2 | ⟨rfl,h2⟩
   ·exact .inl (UInt8.lt_trans h1 h2)
   ·exact .inl h1
  ·rcases h2 with h2 | ⟨rfl,h2⟩
   ·exact .inl h2
   ·exact .inr ⟨rfl,ih h1 h2⟩
theorem less_irrefl : ∀x:List UInt8,Op.bytesLess x x=false
 | []=> rfl
 | a :: x=> by
  have ih:=less_irrefl x
  simp [Op.bytesLess,ih]
theorem less_total : ∀x y:List UInt8,Op.bytesLess x y=false->x≠y->Op.bytesLess y x=true
 | [],[],_,h=> absurd rfl h
 | [],_ :: _,h,_=> by simp [Op.bytesLess] at h
 | _ :: _,[],_,_=> rfl
 | a :: x,b :: y,h,hne=> by
  have ih:=less_total x y
  simp only [Op.bytesLess,Bool.or_eq_false_iff,decide_eq_false_iff_not,Bool.and_eq_false_iff,beq_eq_false_iff_ne] at h
  simp only [Op.bytesLess,Bool.or_eq_true,Bool.and_eq_true,decide_eq_true_eq,beq_iff_eq]
  by_cases e:a=b
  ·subst e
   right
   refine ⟨rfl,ih ?_ (fun e=> hne (by rw [e]))⟩
   rcases h.2 with h2 | h2
   ·exact absurd rfl h2
   ·exact h2
  ·left
   have h1:=h.1
   rw [UInt8.not_lt] at h1
   exact UInt8.lt_of_le_of_ne h1 (fun e'=> e e'.symm)
def nameAt (l:List Q_) (i:Nat):List UInt8:= (l.getD i Q_.zero).name.toList
def Rises (l:List Q_):Prop:= ∀i j,i < j->j < l.length->Op.bytesLess (nameAt l i) (nameAt l j)=true
theorem rises_of {l:List Q_} (h: ∀i,i+1 < l.length->Op.bytesLess (nameAt l i) (nameAt l (i+1))=true):Rises l:=by
 intro i j hij hj
 induction j with
 | zero=> omega
 | succ j ih=>
  by_cases e:i=j
  ·subst e;exact h i hj
  ·exact less_trans _ _ _ (ih (by omega) (by omega)) (h j hj)
structure Place (l:List Q_) (key:List UInt8) (p:Nat):Prop where
 le:p<=l.length
 before: ∀j,j < p->Op.bytesLess (nameAt l j) key=true
 behind: ∀j,p<=j->j < l.length->Op.bytesLess (nameAt l j) key=false
theorem Place.only {l:List Q_} {key:List UInt8} {p j:Nat} (hr:Rises l) (h:Place l key p) (hj:j < l.length) (e:nameAt l j=key):j=p:=by
 by_cases h1:j < p
 ·have:=h.before j h1
  rw [e,less_irrefl] at this
  cases this
 ·by_cases h2:p < j
  ·have h3:=hr p j h2 hj
   rw [e] at h3
   have:=h.behind p (Nat.le_refl _) (by omega)
   rw [h3] at this
   cases this
  ·omega
theorem boxCells3 {w wi:World} {x y z:Value} {t:TypeId} (K:K_ (w.alloc (.cells #[x,y,z] t)) wi):wi.cell? ⟨w.heap.size,0,none⟩=some x∧wi.cell? ⟨w.heap.size,1,none⟩=some y∧wi.cell? ⟨w.heap.size,2,none⟩=some z:=by
 refine ⟨?_, ?_, ?_⟩
 ·rw [K.cell (by simp)];simp
 ·rw [K.cell (by simp)];simp
 ·rw [K.cell (by simp)];simp
theorem K_.un {X w':World} (k:K_ X.drew w'):K_ X w':=K_.trans ((K_.refl _).drew) k
theorem rowAlloc {X w':World} {c:Array Value} {t:TypeId} (k:K_ (X.alloc (.cells c t)) w'):RowT w' X.heap.size t c.size:= (RowT.made X c t).kept k
theorem rowDrawn {X w':World} {c:Array Value} {t:TypeId} (k:K_ (X.alloc (.cells c t)).drew w'):RowT w' X.heap.size t c.size:=rowAlloc k.un
