import Derived.Test.YteabdfhkoloimaaKWImpl
set_option maxRecDepth 100000
set_option maxHeartbeats 25600000
namespace Go.Proofs.Yteabdfhkoloimaa
open Go.RowKit
theorem Strs.take {w:World} {a:Option Addr} {l:List ByteArray} (h:Strs w a l) (k:Nat):Strs w a (l.take k):=by
 intro i hi
 have hi':i < l.length:=by simp at hi;omega
 have hk:i < k:=by simp at hi;omega
 obtain ⟨b,o,ha,hb,hc⟩:=h i hi'
 refine ⟨b,o,ha,hb, ?_⟩
 rw [hc]
 simp [List.getD,hk]
theorem has_take {l:List ByteArray} {k:Nat} (hk:k<=l.length) {v:ByteArray}:Has (l.take k) v↔∃i,i < k∧l.getD i ByteArray.empty=v:=by
 unfold Has
 constructor
 ·rintro ⟨i,hi,e⟩
  have hk':i < k:=by simp at hi;omega
  exact ⟨i,hk',by rw [<-e];simp [List.getD,hk']⟩
 ·rintro ⟨i,hi,e⟩
  exact ⟨i,by simp;omega,by rw [<-e];simp [List.getD,hi]⟩
theorem contains_take (w:World) (a:Option Addr) (cap k:Nat) (l:List ByteArray) (v:ByteArray) (hl:l.length<=maxLen) (hk:k<=l.length) (hS:Strs w a l):
  Calls Try.prog 83 #[.slice a k cap,.string v] w fun e w'=> Says e (∃i,i < k∧l.getD i ByteArray.empty=v)∧w'=w:=by
 have e: (l.take k).length=k:=by simp;omega
 have:=contains_any w a cap (l.take k) v (by rw [e];omega) (hS.take k)
 rw [e] at this
 exact this.mono fun e w' ⟨h,hw⟩=> ⟨h.congr (has_take hk),hw⟩
def AsksOk (s:Xz):Prop:=s.asks.length<=5∧NamesOk s.asks∧(s.on=0∨(0<=s.on∧s.on < s.asks.length))
def NameOkAt (l:List ByteArray) (j:Nat):Prop:=NameOk (l.getD j ByteArray.empty)∧∀m,m < j->l.getD m ByteArray.empty≠l.getD j ByteArray.empty
theorem soundAsks_any (w:World) (s:Xz) (aa ac:Option Addr) (ca cc:Nat) (hs:s.Fits) (hA:Strs w aa s.asks) (hca:s.asks.length<=ca):
  Calls Try.prog 81 #[.agg #[.slice aa s.asks.length ca,.int .i64 s.on,.slice ac s.cases.length cc,.int .i64 s.els,.int .i64 s.fall,.bool s.fin,.bool s.bad,.string s.give]] w fun e w'=> Says e (AsksOk s)∧K_ w w':=by
 have h1:=hs.asks
 unfold maxLen at h1
 have k0:K_ w (w.alloc (.cells #[.slice aa s.asks.length ca,.int .i64 s.on,.slice ac s.cases.length cc,.int .i64 s.els,.int .i64 s.fall,.bool s.fin,.bool s.bad,.string s.give] 100)):= (K_.refl _).alloc _
 by_cases a1: (s.asks.length:Int)<=5
 ·go_enter Try.func81,Try.ntmps81
  go_wp2
  go_loopw [14] (fun i wr=> ∃k:Nat,k<=s.asks.length∧i= .int .i64 k∧K_ (w.alloc (.cells #[.slice aa s.asks.length ca,.int .i64 s.on,.slice ac s.cases.length cc,.int .i64 s.els,.int .i64 s.fall,.bool s.fin,.bool s.bad,.string s.give] 100)) wr∧∀j,j < k->NameOkAt s.asks j) (fun i _=> s.asks.length - (intOf i).toNat)
  case atStart=> exact ⟨0,Nat.zero_le _,rfl,K_.refl _,fun j hj=> absurd hj (Nat.not_lt_zero _)⟩
  case round=>
   obtain ⟨k,hk,rfl,hw,hg⟩:=hrel
   have HG:=Kz hg
   clear hg
   have hz1:=hw.size
   simp only [World.size_alloc] at hz1
   by_cases hlt:k < s.asks.length
   ·obtain ⟨b,o,rfl,hb,hc⟩:= (hA.kept k0).kept hw k hlt
    have hsz: (s.asks.getD k ByteArray.empty).size<=maxLen:=hs.askEach _ (by simp [List.getD,hlt])
    obtain ⟨v,hvk⟩: ∃v,v=s.asks.getD k ByteArray.empty:= ⟨_,rfl⟩
    rw [<-hvk] at hc hsz
    have HVK:=Kz hvk
    clear hvk
    go_wp2_with fail
    refine (validName_any _ v hsz).mono ?_
    rintro e w1 ⟨hsay,hw1⟩
    have hw2:=hw.trans hw1
    have hA1:= (hA.kept k0).kept hw2
    clear hc hb
    rcases hsay.cases with ⟨rfl,hyes⟩ | ⟨rfl,hno⟩
    ·have HY:=Kz hyes
     clear hyes hsay hw hw1
     obtain ⟨hc1,hf1⟩:=hw2.rules
     have hkc:k<=ca:=by omega
     go_wp2_with fail
     refine (contains_take _ _ ca k s.asks v hs.asks (by omega) hA1).mono ?_
     rintro e w2 ⟨hsay,rfl⟩
     rcases hsay.cases with ⟨rfl,hyes⟩ | ⟨rfl,hno⟩
     ·have HN:=Kz hyes
      clear hyes hsay hA1 hc1 hf1
      go_wp2
      go_ret
      exact ⟨Says.no fun h=> by obtain ⟨i,hi,e⟩:=HN.out;exact (h.2.1 k hlt).2 i hi (by rw [e,HVK.out]),k0.trans hw2⟩
     ·have HN:=Kz hno
      clear hno hsay hA1 hc1 hf1
      go_wp2
      go_roundw
      case rel=>
       refine ⟨k+1,by omega,by go_num,hw2,fun j hj=> ?_⟩
       by_cases e:j=k
       ·subst e
        exact ⟨by rw [<-HVK.out];exact HY.out,fun m hm h=> HN.out ⟨m,hm,by rw [h,HVK.out]⟩⟩
       ·exact unhide HG j (by omega)
      case measure=> simp [intOf];omega
    ·have HN:=Kz hno
     clear hno hsay hw hw1
     go_wp2
     go_ret
     exact ⟨Says.no fun h=> HN.out (by rw [HVK.out];exact (h.2.1 k hlt).1),k0.trans hw2⟩
   ·obtain ⟨hc1,hf1⟩:=hw.rules
    have hnames:Hid (NamesOk s.asks):=fun j hj=> unhide HG j (by omega)
    clear HG
    go_wp2
    ·go_ret
     exact ⟨(Says.dec _).congr ⟨fun h=> ⟨by omega,hnames.out,by omega⟩,fun h=> by have:=h.2.2;omega⟩,k0.trans hw⟩
    ·go_ret
     exact ⟨(Says.dec _).congr ⟨fun h=> ⟨by omega,hnames.out,by omega⟩,fun h=> by have:=h.2.2;omega⟩,k0.trans hw⟩
    all_goals
     go_ret
     exact ⟨Says.no fun h=> by have:=h.2.2;omega,k0.trans hw⟩
 ·go_enter Try.func81,Try.ntmps81
  go_wp2
  go_ret
  exact ⟨Says.no fun h=> by have:=h.1;omega,k0⟩
def WaysOk (s:Xz) (n:Int):Prop:=s.cases.length<=5∧CasesOk s n∧(0<=s.els∧s.els < n)∧(-1<=s.fall∧s.fall < n)
theorem soundWays_any (w:World) (s:Xz) (aa ac:Option Addr) (ca cc:Nat) (n:Int) (hs:s.Fits) (hn:1<=n∧n<=20) (hC:Cases w ac s.cases):
  Calls Try.prog 82 #[.agg #[.slice aa s.asks.length ca,.int .i64 s.on,.slice ac s.cases.length cc,.int .i64 s.els,.int .i64 s.fall,.bool s.fin,.bool s.bad,.string s.give],.int .i64 n] w fun e w'=> Says e (WaysOk s n)∧K_ w w':=by
 have h1:=hs.cases
 unfold maxLen at h1
 obtain ⟨hn0,hn1⟩:=hn
 have k0:K_ w (w.alloc (.cells #[.slice aa s.asks.length ca,.int .i64 s.on,.slice ac s.cases.length cc,.int .i64 s.els,.int .i64 s.fall,.bool s.fin,.bool s.bad,.string s.give] 100)):= (K_.refl _).alloc _
 by_cases a1: (s.cases.length:Int)<=5
 ·go_enter Try.func82,Try.ntmps82
  go_wp2
  go_loopw [16] (fun i wr=> ∃k:Nat,k<=s.cases.length∧i= .int .i64 k∧K_ (w.alloc (.cells #[.slice aa s.asks.length ca,.int .i64 s.on,.slice ac s.cases.length cc,.int .i64 s.els,.int .i64 s.fall,.bool s.fin,.bool s.bad,.string s.give] 100)) wr∧∀j,j < k->CaseOkAt s n j) (fun i _=> s.cases.length - (intOf i).toNat)
  case atStart=> exact ⟨0,Nat.zero_le _,rfl,K_.refl _,fun j hj=> absurd hj (Nat.not_lt_zero _)⟩
  case round=>
   obtain ⟨k,hk,rfl,hw,hg⟩:=hrel
   have HG:=Kz hg
   clear hg
   have hz1:=hw.size
   simp only [World.size_alloc] at hz1
   by_cases hlt:k < s.cases.length
   ·obtain ⟨b,o,rfl,hb,hc⟩:= (hC.kept k0).kept hw k hlt
    have hce: (s.cases.getD k CaseD.zero).text.size<=maxLen:= (hs.caseEach _ (by simp [List.getD,hlt])).1
    obtain ⟨c,hck⟩: ∃c,c=s.cases.getD k CaseD.zero:= ⟨_,rfl⟩
    rw [<-hck] at hc hce
    have HCK:=Kz hck
    clear hck
    unfold maxLen at hce
    have c0:=hc 0 _ rfl
    have c1:=hc 1 _ rfl
    simp only [Nat.add_zero] at c0
    clear hc
    by_cases d1: (c.text.size:Int)<=200
    ·by_cases d2:0<=c.goto
     ·cases d3:decide (c.goto < n)
      ·have d3':n<=c.goto:=by simpa using d3
       go_wp2
       go_ret
       exact ⟨Says.no fun h=> by have:=h.2.1 k hlt;unfold CaseOkAt at this;rw [<-HCK.out] at this;obtain ⟨q1,q2,q3⟩:=this;omega,k0.trans (hw.alloc _)⟩
      ·have d3':c.goto < n:=by simpa using d3
       go_wp2
       go_roundw
       case rel=>
        refine ⟨k+1,by omega,by go_num,hw.alloc _,fun j hj=> ?_⟩
        by_cases e:j=k
        ·subst e
         unfold CaseOkAt
         rw [<-HCK.out]
         exact ⟨by omega,by omega,by omega⟩
        ·exact unhide HG j (by omega)
       case measure=> simp [intOf];omega
     ·go_wp2
      go_ret
      exact ⟨Says.no fun h=> by have:=h.2.1 k hlt;unfold CaseOkAt at this;rw [<-HCK.out] at this;obtain ⟨q1,q2,q3⟩:=this;omega,k0.trans (hw.alloc _)⟩
    ·go_wp2
     go_ret
     exact ⟨Says.no fun h=> by have:=h.2.1 k hlt;unfold CaseOkAt at this;rw [<-HCK.out] at this;obtain ⟨q1,q2,q3⟩:=this;omega,k0.trans (hw.alloc _)⟩
   ·obtain ⟨hc1,hf1⟩:=hw.rules
    have hcs:Hid (CasesOk s n):=fun j hj=> unhide HG j (by omega)
    clear HG
    by_cases b1:0<=s.els
    ·cases b2:decide (s.els < n)
     ·have b2':n<=s.els:=by simpa using b2
      go_wp2
      go_ret
      exact ⟨Says.no fun h=> by have:=h.2.2;omega,k0.trans hw⟩
     ·have b2':s.els < n:=by simpa using b2
      cases b3: (s.fall == -1)
      ·by_cases b4:0<=s.fall
       ·cases b5:decide (s.fall < n)
        ·have b5':n<=s.fall:=by simpa using b5
         go_wp2
         go_ret
         exact ⟨Says.no fun h=> by have:=h.2.2;omega,k0.trans hw⟩
        ·have b5':s.fall < n:=by simpa using b5
         go_wp2
         go_ret
         exact ⟨Says.yes ⟨by omega,hcs.out,⟨by omega,by omega⟩,⟨by omega,by omega⟩⟩,k0.trans hw⟩
       ·go_wp2
        go_ret
        exact ⟨Says.no fun h=> by have:=h.2.2;simp at b3;omega,k0.trans hw⟩
      ·go_wp2
       go_ret
       exact ⟨Says.yes ⟨by omega,hcs.out,⟨by omega,by omega⟩,by simp at b3;omega⟩,k0.trans hw⟩
    ·go_wp2
     go_ret
     exact ⟨Says.no fun h=> by have:=h.2.2;omega,k0.trans hw⟩
 ·go_enter Try.func82,Try.ntmps82
  go_wp2
  go_ret
  exact ⟨Says.no fun h=> by have:=h.1;omega,k0⟩
