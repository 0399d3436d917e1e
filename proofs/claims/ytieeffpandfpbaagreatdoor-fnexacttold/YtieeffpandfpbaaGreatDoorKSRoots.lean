import Derived.Test.YtieeffpandfpbaaGreatDoorKWSpec3
set_option maxRecDepth 100000
set_option maxHeartbeats 25600000
namespace Go.Proofs.YtieeffpandfpbaaGreatDoor
open Go.RowKit
theorem l1StepOk_askYes (w:World) (s:Xk) (aa ac:Option Addr) (ca cc:Nat) (n:Int) (hs:s.Fits) (hn:0<=n∧n<=20)
  (hA:Strs w aa s.asks) (hC:Cases w ac s.cases) (hfin:s.fin=false) (hF:FrontOk s n):
  Calls Tryz.prog 129 #[.agg #[.slice aa s.asks.length ca,.int .i64 s.on,.slice ac s.cases.length cc,.int .i64 s.els,.int .i64 s.fall,.bool s.fin,.bool s.bad,.string s.give],.int .i64 n] w
   fun e w'=> Says e (CasesOk s n)∧K_ w w':=by
 rw [hfin]
 obtain ⟨hn0,hn1⟩:=hn
 have h1:=hs.asks
 have h2:=hs.cases
 have h3:=hs.give
 unfold maxLen at h1 h2 h3
 have hgive:=empty_iff s.give
 have HGV:=Kj hgive
 clear hgive
 obtain ⟨hbad,hgv,ha5,hnames,b1,⟨b2,b3⟩,⟨b4,b5⟩,hon⟩:=hF
 have hge:s.give.toList=[]:=HGV.out.2 hgv
 have HN:=Kj hnames
 rw [hbad]
 have k0:K_ w (w.alloc (.cells #[.slice aa s.asks.length ca,.int .i64 s.on,.slice ac s.cases.length cc,.int .i64 s.els,.int .i64 s.fall,.bool false,.bool false,.string s.give] 191)):= (K_.refl _).alloc _
 clear hgv hnames HGV
 have b3':s.els<=n - 1:=by omega
 have b5':s.fall<=n - 1:=by omega
 have HON:=Kj hon
 clear hon
 go_enter Tryz.func129,Tryz.ntmps129
 go_wp2_with fail
 refine (l1Names_any _ aa ca s.asks hs.asks hs.askEach (hA.kept k0)).mono ?_
 rintro e w1 ⟨hsay,k1⟩
 have k2:=k0.trans k1
 rcases hsay.cases with ⟨rfl,hyes⟩ | ⟨rfl,hno⟩
 ·clear hyes hsay
  obtain ⟨hc1,hf1⟩:=k1.rules
  have hz1:=k1.size
  simp only [World.size_alloc] at hz1
  clear k0 k1
  have hC2:=hC.kept k2
  clear hC hA
  by_cases hz:s.on=0
  ·have ho: (s.on != 0)=false:=by rw [hz];rfl
   clear hz
   go_wp2
   go_loop [5] (fun i=> ∃k:Nat,k<=s.cases.length∧i= .int .i64 k∧∀j,j < k->CaseOkAt s n j) (fun i=> s.cases.length - (intOf i).toNat)
   case atStart=> exact ⟨0,Nat.zero_le _,rfl,fun j hj=> absurd hj (Nat.not_lt_zero _)⟩
   case round=>
    obtain ⟨k,hk,rfl,hg⟩:=hrel
    have HG:=Kj hg
    clear hg
    by_cases hlt:k < s.cases.length
    ·obtain ⟨b,o,rfl,hb,hc⟩:=hC2 k hlt
     have hce: (s.cases.getD k CaseD.zero).text.size<=maxLen:= (hs.caseEach _ (by simp [List.getD,hlt])).1
     obtain ⟨c,hck⟩: ∃c,c=s.cases.getD k CaseD.zero:= ⟨_,rfl⟩
     rw [<-hck] at hc hce
     have HCK:=Kj hck
     clear hck
     unfold maxLen at hce
     have c0:=hc 0 _ rfl
     have c1:=hc 1 _ rfl
     simp only [Nat.add_zero] at c0
     clear hc
     by_cases d1: (c.text.size:Int)<=200
     ·by_cases d2:0<=c.goto
      ·cases d3:decide (c.goto<=n - 1)
       ·have d3':n - 1 < c.goto:=by simpa using d3
        go_wp2
        go_ret
        exact ⟨Says.no fun h=> by have:=h k hlt;unfold CaseOkAt at this;rw [<-HCK.out] at this;obtain ⟨q1,q2,q3⟩:=this;omega,k2⟩
       ·have d3':c.goto<=n - 1:=by simpa using d3
        go_wp2
        go_round
        case rel=>
         refine ⟨k+1,by omega,by go_num,fun j hj=> ?_⟩
         by_cases e:j=k
         ·subst e
          unfold CaseOkAt
          rw [<-HCK.out]
          exact ⟨by omega,by omega,by omega⟩
         ·exact unhide HG j (by omega)
        case measure=> simp [intOf];omega
      ·go_wp2
       go_ret
       exact ⟨Says.no fun h=> by have:=h k hlt;unfold CaseOkAt at this;rw [<-HCK.out] at this;obtain ⟨q1,q2,q3⟩:=this;omega,k2⟩
     ·go_wp2
      go_ret
      exact ⟨Says.no fun h=> by have:=h k hlt;unfold CaseOkAt at this;rw [<-HCK.out] at this;obtain ⟨q1,q2,q3⟩:=this;omega,k2⟩
    ·go_wp2
     go_ret
     exact ⟨Says.yes fun j hj=> unhide HG j (by omega),k2⟩
  ·have ho: (s.on != 0)=true:=bne_iff_ne.2 hz
   have o1:0<=s.on:=by have:=HON.out;omega
   have o3:s.on<=(s.asks.length:Int) - 1:=by have:=HON.out;omega
   clear hz
   go_wp2
   go_loop [5] (fun i=> ∃k:Nat,k<=s.cases.length∧i= .int .i64 k∧∀j,j < k->CaseOkAt s n j) (fun i=> s.cases.length - (intOf i).toNat)
   case atStart=> exact ⟨0,Nat.zero_le _,rfl,fun j hj=> absurd hj (Nat.not_lt_zero _)⟩
   case round=>
    obtain ⟨k,hk,rfl,hg⟩:=hrel
    have HG:=Kj hg
    clear hg
    by_cases hlt:k < s.cases.length
    ·obtain ⟨b,o,rfl,hb,hc⟩:=hC2 k hlt
     have hce: (s.cases.getD k CaseD.zero).text.size<=maxLen:= (hs.caseEach _ (by simp [List.getD,hlt])).1
     obtain ⟨c,hck⟩: ∃c,c=s.cases.getD k CaseD.zero:= ⟨_,rfl⟩
     rw [<-hck] at hc hce
     have HCK:=Kj hck
     clear hck
     unfold maxLen at hce
     have c0:=hc 0 _ rfl
     have c1:=hc 1 _ rfl
     simp only [Nat.add_zero] at c0
     clear hc
     by_cases d1: (c.text.size:Int)<=200
     ·by_cases d2:0<=c.goto
      ·cases d3:decide (c.goto<=n - 1)
       ·have d3':n - 1 < c.goto:=by simpa using d3
        go_wp2
        go_ret
        exact ⟨Says.no fun h=> by have:=h k hlt;unfold CaseOkAt at this;rw [<-HCK.out] at this;obtain ⟨q1,q2,q3⟩:=this;omega,k2⟩
       ·have d3':c.goto<=n - 1:=by simpa using d3
        go_wp2
        go_round
        case rel=>
         refine ⟨k+1,by omega,by go_num,fun j hj=> ?_⟩
         by_cases e:j=k
         ·subst e
          unfold CaseOkAt
          rw [<-HCK.out]
          exact ⟨by omega,by omega,by omega⟩
         ·exact unhide HG j (by omega)
        case measure=> simp [intOf];omega
      ·go_wp2
       go_ret
       exact ⟨Says.no fun h=> by have:=h k hlt;unfold CaseOkAt at this;rw [<-HCK.out] at this;obtain ⟨q1,q2,q3⟩:=this;omega,k2⟩
     ·go_wp2
      go_ret
      exact ⟨Says.no fun h=> by have:=h k hlt;unfold CaseOkAt at this;rw [<-HCK.out] at this;obtain ⟨q1,q2,q3⟩:=this;omega,k2⟩
    ·go_wp2
     go_ret
     exact ⟨Says.yes fun j hj=> unhide HG j (by omega),k2⟩
 ·exact absurd HN.out hno
theorem l1In_yes (w:World) (n lo hi:Int) (h1:lo<=n) (h2:n<=hi):
  Calls Tryz.prog 83 #[.int .i64 n,.int .i64 lo,.int .i64 hi] w fun e w'=> e= .returned (.bool true)∧w'=w:=by
 go_enter Tryz.func83,Tryz.ntmps83
 go_wp2
 go_ret
 exact ⟨rfl,rfl⟩
theorem l1StepOk_any (w:World) (s:Xk) (aa ac:Option Addr) (ca cc:Nat) (n:Int) (hs:s.Fits) (hn:0<=n∧n<=20)
  (hA:Strs w aa s.asks) (hC:Cases w ac s.cases):
  Calls Tryz.prog 129 #[.agg #[.slice aa s.asks.length ca,.int .i64 s.on,.slice ac s.cases.length cc,.int .i64 s.els,.int .i64 s.fall,.bool s.fin,.bool s.bad,.string s.give],.int .i64 n] w
   fun e w'=> Says e (StepOk s n)∧K_ w w':=by
 cases hfin:s.fin
 ·rw [<-hfin]
  by_cases hF:FrontOk s n
  ·refine (l1StepOk_askYes w s aa ac ca cc n hs hn hA hC hfin hF).mono ?_
   rintro e w' ⟨h,k⟩
   exact ⟨h.congr ⟨fun h=> ⟨fun e=> (by rw [hfin] at e;cases e),fun _=> ⟨hF,h⟩⟩,fun h=> (h.2 hfin).2⟩,k⟩
  ·refine (l1StepOk_askNo w s aa ac ca cc n hs hn hA hC hfin hF).mono ?_
   rintro e w' ⟨rfl,k⟩
   exact ⟨Says.no fun h=> hF (h.2 hfin).1,k⟩
 ·refine (l1StepOk_end w s.asks.length s.on s.cases.length s.els s.fall s.bad s.give aa ac ca cc n hs.asks hs.cases hs.give).mono ?_
  rintro e w' ⟨h,k⟩
  exact ⟨h.congr ⟨fun h=> ⟨fun _=> h,fun e=> (by rw [hfin] at e;cases e)⟩,fun h=> h.1 hfin⟩,k⟩
theorem specValidAction_any (w:World) (cost:Int) (a:Option Addr) (cap:Nat) (l:List Xk) (hl:l.length<=maxLen) (hs: ∀s∈l,s.Fits) (hS:Steps w a l):
  Calls Tryz.prog 82 #[.agg #[.int .i64 cost,.slice a l.length cap]] w fun e w'=> Says e (ActionOk ⟨cost,l⟩)∧K_ w w':=by
 unfold maxLen at hl
 have k0:K_ w (w.alloc (.cells #[.int .i64 cost,.slice a l.length cap] 86)):= (K_.refl _).alloc _
 by_cases a1:1<=cost
 ·by_cases a2:cost<=20
  ·by_cases a3: (1:Int)<=l.length
   ·by_cases a4: (l.length:Int)<=20
    ·go_enter Tryz.func82,Tryz.ntmps82
     go_wp2_with (go_at_call 83;refine (l1In_yes _ _ _ _ (by omega) (by omega)).mono ?_;rintro e w' ⟨rfl,rfl⟩)
     go_loopw [4] (fun i wr=> ∃k:Nat,k<=l.length∧i= .int .i64 k∧K_ (w.alloc (.cells #[.int .i64 cost,.slice a l.length cap] 86)) wr∧∀j,j < k->StepOk (l.getD j Xk.zero) l.length) (fun i _=> l.length - (intOf i).toNat)
     case atStart=> exact ⟨0,Nat.zero_le _,rfl,K_.refl _,fun j hj=> absurd hj (Nat.not_lt_zero _)⟩
     case round=>
      obtain ⟨k,hk,rfl,hw,hg⟩:=hrel
      have HG:=Kj hg
      clear hg
      obtain ⟨hc1,hf1⟩:=hw.rules
      have hz1:=hw.size
      simp only [World.size_alloc] at hz1
      by_cases hlt:k < l.length
      ·obtain ⟨b,o,cs,rfl,hb,hc,aa,ca,ac,cc,rfl,hA,hC,hca⟩:= (hS.kept k0).kept hw k hlt
       have hsz:=hs (l.getD k Xk.zero) (by simp [List.getD,hlt])
       obtain ⟨s,hsk⟩: ∃s,s=l.getD k Xk.zero:= ⟨_,rfl⟩
       rw [<-hsk] at hc hsz hA hC
       have HSK:=Kj hsk
       clear hsk
       have c0:=hc 0 _ rfl
       have c1:=hc 1 _ rfl
       have c2:=hc 2 _ rfl
       have c3:=hc 3 _ rfl
       have c4:=hc 4 _ rfl
       have c5:=hc 5 _ rfl
       have c6:=hc 6 _ rfl
       have c7:=hc 7 _ rfl
       simp only [Nat.add_zero] at c0
       clear hc
       go_wp2_with fail
       refine (l1StepOk_any _ s aa ac ca cc _ hsz ⟨by omega,by omega⟩ hA hC).mono ?_
       rintro e w1 ⟨hsay,hw1⟩
       have hw2:=hw.trans hw1
       clear c0 c1 c2 c3 c4 c5 c6 c7 hA hC hw hw1 hc1 hf1
       rcases hsay.cases with ⟨rfl,hyes⟩ | ⟨rfl,hno⟩
       ·have HY:=Kj hyes
        clear hyes hsay
        go_wp2
        go_roundw
        case rel=>
         refine ⟨k+1,by omega,by go_num,hw2,fun j hj=> ?_⟩
         by_cases e:j=k
         ·subst e
          rw [<-HSK.out]
          exact HY.out
         ·exact unhide HG j (by omega)
        case measure=> simp [intOf];omega
       ·have HN:=Kj hno
        clear hno hsay
        go_wp2
        go_ret
        exact ⟨Says.no fun h=> HN.out (by rw [HSK.out];exact h.2.2 k hlt),k0.trans hw2⟩
      ·go_wp2
       go_ret
       exact ⟨Says.yes ⟨⟨a1,a2⟩,⟨by show 1<=l.length;omega,by show l.length<=20;omega⟩,fun j (hj:j < l.length)=> unhide HG j (by omega)⟩,k0.trans hw⟩
    ·go_enter Tryz.func82,Tryz.ntmps82
     go_wp2
     go_ret
     exact ⟨Says.no fun h=> by have:=h.2.1.2;simp at this;omega,k0⟩
   ·go_enter Tryz.func82,Tryz.ntmps82
    go_wp2
    go_ret
    exact ⟨Says.no fun h=> by have:=h.2.1.1;simp at this;omega,k0⟩
  ·go_enter Tryz.func82,Tryz.ntmps82
   go_wp2
   go_ret
   exact ⟨Says.no fun h=> by have:=h.1.2;simp at this;omega,k0⟩
 ·go_enter Tryz.func82,Tryz.ntmps82
  go_wp2
  go_ret
  exact ⟨Says.no fun h=> by have:=h.1.1;simp at this;omega,k0⟩
def Has (l:List ByteArray) (v:ByteArray):Prop:= ∃i,i < l.length∧l.getD i ByteArray.empty=v
theorem index_any (w:World) (a:Option Addr) (cap:Nat) (l:List ByteArray) (v:ByteArray) (hl:l.length<=maxLen) (hS:Strs w a l):
  Calls Tryz.prog 137 #[.slice a l.length cap,.string v] w fun e w'=> (∃r,e= .returned (.int .i64 r)∧(0<=r↔Has l v))∧w'=w:=by
 unfold maxLen at hl
 go_enter Tryz.func137,Tryz.ntmps137
 go_wp2
 go_loop [8] (fun i=> ∃k:Nat,k<=l.length∧i= .int .i64 k∧∀j,j < k->l.getD j ByteArray.empty≠v) (fun i=> l.length - (intOf i).toNat)
 case atStart=> exact ⟨0,Nat.zero_le _,rfl,fun j hj=> absurd hj (Nat.not_lt_zero _)⟩
 case round=>
  obtain ⟨k,hk,rfl,hg⟩:=hrel
  have HG:=Kj hg
  clear hg
  by_cases hlt:k < l.length
  ·obtain ⟨b,o,rfl,hb,hc⟩:=hS k hlt
   obtain ⟨s,hsk⟩: ∃s,s=l.getD k ByteArray.empty:= ⟨_,rfl⟩
   rw [<-hsk] at hc
   have HSK:=Kj hsk
   clear hsk
   cases hvs: (v.toList == s.toList)
   ·go_wp2
    go_round
    case rel=>
     refine ⟨k+1,by omega,by go_num,fun j hj=> ?_⟩
     by_cases e:j=k
     ·subst e
      rw [<-HSK.out]
      exact (bytes_ne hvs).symm
     ·exact unhide HG j (by omega)
    case measure=> simp [intOf];omega
   ·go_wp2
    go_ret
    exact ⟨⟨_,rfl,⟨fun _=> ⟨k,hlt,by rw [<-HSK.out];exact (bytes_eq.1 hvs).symm⟩,fun _=> by omega⟩⟩,rfl⟩
  ·go_wp2
   go_ret
   exact ⟨⟨_,rfl,⟨fun h=> by omega,fun ⟨i,hi,e⟩=> absurd e (unhide HG i (by omega))⟩⟩,rfl⟩
theorem contains_any (w:World) (a:Option Addr) (cap:Nat) (l:List ByteArray) (v:ByteArray) (hl:l.length<=maxLen) (hS:Strs w a l):
  Calls Tryz.prog 96 #[.slice a l.length cap,.string v] w fun e w'=> Says e (Has l v)∧w'=w:=by
 go_enter Tryz.func96,Tryz.ntmps96
 go_wp2_with fail
 refine (index_any _ a cap l v hl hS).mono ?_
 rintro e w1 ⟨⟨r,rfl,hr⟩,rfl⟩
 have HR:=Kj hr
 clear hr
 by_cases h0:0<=r
 ·have h1:decide (0<=r)=true:=by simpa using h0
  go_wp2
  go_ret
  exact ⟨Says.congr (p:=True) (Says.yes trivial) ⟨fun _=> HR.out.1 h0,fun _=> trivial⟩,rfl⟩
 ·have h1:decide (0<=r)=false:=by simpa using h0
  go_wp2
  go_ret
  exact ⟨Says.congr (p:=False) (Says.no id) ⟨False.elim,fun h=> by have:=HR.out.2 h;omega⟩,rfl⟩
theorem soundEnd_any (w:World) (asks:Nat) (on:Int) (cases:Nat) (els fall:Int) (fin bad:Bool) (give:ByteArray) (aa ac:Option Addr) (ca cc:Nat) (h1:asks<=maxLen) (h2:cases<=maxLen) (h3:give.size<=maxLen):
  Calls Tryz.prog 274 #[.agg #[.slice aa asks ca,.int .i64 on,.slice ac cases cc,.int .i64 els,.int .i64 fall,.bool fin,.bool bad,.string give]] w
   fun e w'=> Says e (asks=0∧on=0∧cases=0∧els=0∧fall=0∧give.size<=30)∧K_ w w':=by
 unfold maxLen at h1 h2 h3
 cases a1: ((asks:Int) == 0)
 ·go_enter Tryz.func274,Tryz.ntmps274
  go_wp2
  all_goals
   go_ret
   exact ⟨Says.no fun h=> by simp at a1;omega,(K_.refl _).alloc _⟩
 ·obtain rfl:asks=0:=by simp at a1;omega
  clear a1
  cases a2: (on == 0)
  ·go_enter Tryz.func274,Tryz.ntmps274
   go_wp2
   all_goals
    go_ret
    exact ⟨Says.no fun h=> by simp at a2;omega,(K_.refl _).alloc _⟩
  ·obtain rfl:on=0:=by simpa using a2
   clear a2
   cases a3: ((cases:Int) == 0)
   ·go_enter Tryz.func274,Tryz.ntmps274
    go_wp2
    go_ret
    exact ⟨Says.no fun h=> by simp at a3;omega,(K_.refl _).alloc _⟩
   ·obtain rfl:cases=0:=by simp at a3;omega
    clear a3
    cases a4: (els == 0)
    ·go_enter Tryz.func274,Tryz.ntmps274
     go_wp2
     go_ret
     exact ⟨Says.no fun h=> by simp at a4;omega,(K_.refl _).alloc _⟩
    ·obtain rfl:els=0:=by simpa using a4
     clear a4
     cases a5: (fall == 0)
     ·go_enter Tryz.func274,Tryz.ntmps274
      go_wp2
      go_ret
      exact ⟨Says.no fun h=> by simp at a5;omega,(K_.refl _).alloc _⟩
     ·obtain rfl:fall=0:=by simpa using a5
      clear a5
      by_cases a6: (give.size:Int)<=30
      ·go_enter Tryz.func274,Tryz.ntmps274
       go_wp2
       go_ret
       exact ⟨Says.yes (by simp;omega),(K_.refl _).alloc _⟩
      ·go_enter Tryz.func274,Tryz.ntmps274
       go_wp2
       go_ret
       exact ⟨Says.no fun h=> by omega,(K_.refl _).alloc _⟩
theorem Strs.take {w:World} {a:Option Addr} {l:List ByteArray} (h:Strs w a l) (k:Nat):Strs w a (l.take k):=by
 intro i hi
 have hi':i < l.length:=by simp at hi;omega
 have hk:i < k:=by simp at hi;omega
 obtain ⟨b,o,ha,hb,hc⟩:=h i hi'
 refine ⟨b,o,ha,hb, ?_⟩
 rw [hc]
 simp [List.getD,hk]
theorem has_take {l:List ByteArray} {k:Nat} (hk:k<=l.length) {v:ByteArray}:Has (l.take k) v↔∃i,i < k∧l.getD i ByteArray.empty=v:=by
 unfold Has
 constructor
 ·rintro ⟨i,hi,e⟩
  have hk':i < k:=by simp at hi;omega
  exact ⟨i,hk',by rw [<-e];simp [List.getD,hk']⟩
 ·rintro ⟨i,hi,e⟩
  exact ⟨i,by simp;omega,by rw [<-e];simp [List.getD,hi]⟩
theorem contains_take (w:World) (a:Option Addr) (cap k:Nat) (l:List ByteArray) (v:ByteArray) (hl:l.length<=maxLen) (hk:k<=l.length) (hS:Strs w a l):
  Calls Tryz.prog 96 #[.slice a k cap,.string v] w fun e w'=> Says e (∃i,i < k∧l.getD i ByteArray.empty=v)∧w'=w:=by
 have e: (l.take k).length=k:=by simp;omega
 have:=contains_any w a cap (l.take k) v (by rw [e];omega) (hS.take k)
 rw [e] at this
 exact this.mono fun e w' ⟨h,hw⟩=> ⟨h.congr (has_take hk),hw⟩
def AsksOk (s:Xk):Prop:=s.asks.length<=5∧NamesOk s.asks∧(s.on=0∨(0<=s.on∧s.on < s.asks.length))
def NameOkAt (l:List ByteArray) (j:Nat):Prop:=NameOk (l.getD j ByteArray.empty)∧∀m,m < j->l.getD m ByteArray.empty≠l.getD j ByteArray.empty
theorem soundAsks_any (w:World) (s:Xk) (aa ac:Option Addr) (ca cc:Nat) (hs:s.Fits) (hA:Strs w aa s.asks) (hca:s.asks.length<=ca):
  Calls Tryz.prog 270 #[.agg #[.slice aa s.asks.length ca,.int .i64 s.on,.slice ac s.cases.length cc,.int .i64 s.els,.int .i64 s.fall,.bool s.fin,.bool s.bad,.string s.give]] w fun e w'=> Says e (AsksOk s)∧K_ w w':=by
 have h1:=hs.asks
 unfold maxLen at h1
 have k0:K_ w (w.alloc (.cells #[.slice aa s.asks.length ca,.int .i64 s.on,.slice ac s.cases.length cc,.int .i64 s.els,.int .i64 s.fall,.bool s.fin,.bool s.bad,.string s.give] 239)):= (K_.refl _).alloc _
 by_cases a1: (s.asks.length:Int)<=5
 ·go_enter Tryz.func270,Tryz.ntmps270
  go_wp2
  go_loopw [14] (fun i wr=> ∃k:Nat,k<=s.asks.length∧i= .int .i64 k∧K_ (w.alloc (.cells #[.slice aa s.asks.length ca,.int .i64 s.on,.slice ac s.cases.length cc,.int .i64 s.els,.int .i64 s.fall,.bool s.fin,.bool s.bad,.string s.give] 239)) wr∧∀j,j < k->NameOkAt s.asks j) (fun i _=> s.asks.length - (intOf i).toNat)
  case atStart=> exact ⟨0,Nat.zero_le _,rfl,K_.refl _,fun j hj=> absurd hj (Nat.not_lt_zero _)⟩
  case round=>
   obtain ⟨k,hk,rfl,hw,hg⟩:=hrel
   have HG:=Kj hg
   clear hg
   have hz1:=hw.size
   simp only [World.size_alloc] at hz1
   by_cases hlt:k < s.asks.length
   ·obtain ⟨b,o,rfl,hb,hc⟩:= (hA.kept k0).kept hw k hlt
    have hsz: (s.asks.getD k ByteArray.empty).size<=maxLen:=hs.askEach _ (by simp [List.getD,hlt])
    obtain ⟨v,hvk⟩: ∃v,v=s.asks.getD k ByteArray.empty:= ⟨_,rfl⟩
    rw [<-hvk] at hc hsz
    have HVK:=Kj hvk
    clear hvk
    go_wp2_with fail
    refine (validName_any _ v hsz).mono ?_
    rintro e w1 ⟨hsay,hw1⟩
    have hw2:=hw.trans hw1
    have hA1:= (hA.kept k0).kept hw2
    clear hc hb
    rcases hsay.cases with ⟨rfl,hyes⟩ | ⟨rfl,hno⟩
    ·have HY:=Kj hyes
     clear hyes hsay hw hw1
     obtain ⟨hc1,hf1⟩:=hw2.rules
     have hkc:k<=ca:=by omega
     go_wp2_with fail
     refine (contains_take _ _ ca k s.asks v hs.asks (by omega) hA1).mono ?_
     rintro e w2 ⟨hsay,rfl⟩
     rcases hsay.cases with ⟨rfl,hyes⟩ | ⟨rfl,hno⟩
     ·have HN:=Kj hyes
      clear hyes hsay hA1 hc1 hf1
      go_wp2
      go_ret
      exact ⟨Says.no fun h=> by obtain ⟨i,hi,e⟩:=HN.out;exact (h.2.1 k hlt).2 i hi (by rw [e,HVK.out]),k0.trans hw2⟩
     ·have HN:=Kj hno
      clear hno hsay hA1 hc1 hf1
      go_wp2
      go_roundw
      case rel=>
       refine ⟨k+1,by omega,by go_num,hw2,fun j hj=> ?_⟩
       by_cases e:j=k
       ·subst e
        exact ⟨by rw [<-HVK.out];exact HY.out,fun m hm h=> HN.out ⟨m,hm,by rw [h,HVK.out]⟩⟩
       ·exact unhide HG j (by omega)
      case measure=> simp [intOf];omega
    ·have HN:=Kj hno
     clear hno hsay hw hw1
     go_wp2
     go_ret
     exact ⟨Says.no fun h=> HN.out (by rw [HVK.out];exact (h.2.1 k hlt).1),k0.trans hw2⟩
   ·obtain ⟨hc1,hf1⟩:=hw.rules
    have hnames:Hid (NamesOk s.asks):=fun j hj=> unhide HG j (by omega)
    clear HG
    go_wp2
    ·go_ret
     exact ⟨(Says.dec _).congr ⟨fun h=> ⟨by omega,hnames.out,by omega⟩,fun h=> by have:=h.2.2;omega⟩,k0.trans hw⟩
    ·go_ret
     exact ⟨(Says.dec _).congr ⟨fun h=> ⟨by omega,hnames.out,by omega⟩,fun h=> by have:=h.2.2;omega⟩,k0.trans hw⟩
    all_goals
     go_ret
     exact ⟨Says.no fun h=> by have:=h.2.2;omega,k0.trans hw⟩
 ·go_enter Tryz.func270,Tryz.ntmps270
  go_wp2
  go_ret
  exact ⟨Says.no fun h=> by have:=h.1;omega,k0⟩
def WaysOk (s:Xk) (n:Int):Prop:=s.cases.length<=5∧CasesOk s n∧(0<=s.els∧s.els < n)∧(-1<=s.fall∧s.fall < n)
theorem soundWays_any (w:World) (s:Xk) (aa ac:Option Addr) (ca cc:Nat) (n:Int) (hs:s.Fits) (hn:1<=n∧n<=20) (hC:Cases w ac s.cases):
  Calls Tryz.prog 271 #[.agg #[.slice aa s.asks.length ca,.int .i64 s.on,.slice ac s.cases.length cc,.int .i64 s.els,.int .i64 s.fall,.bool s.fin,.bool s.bad,.string s.give],.int .i64 n] w fun e w'=> Says e (WaysOk s n)∧K_ w w':=by
 have h1:=hs.cases
 unfold maxLen at h1
 obtain ⟨hn0,hn1⟩:=hn
 have k0:K_ w (w.alloc (.cells #[.slice aa s.asks.length ca,.int .i64 s.on,.slice ac s.cases.length cc,.int .i64 s.els,.int .i64 s.fall,.bool s.fin,.bool s.bad,.string s.give] 239)):= (K_.refl _).alloc _
 by_cases a1: (s.cases.length:Int)<=5
 ·go_enter Tryz.func271,Tryz.ntmps271
  go_wp2
  go_loopw [16] (fun i wr=> ∃k:Nat,k<=s.cases.length∧i= .int .i64 k∧K_ (w.alloc (.cells #[.slice aa s.asks.length ca,.int .i64 s.on,.slice ac s.cases.length cc,.int .i64 s.els,.int .i64 s.fall,.bool s.fin,.bool s.bad,.string s.give] 239)) wr∧∀j,j < k->CaseOkAt s n j) (fun i _=> s.cases.length - (intOf i).toNat)
  case atStart=> exact ⟨0,Nat.zero_le _,rfl,K_.refl _,fun j hj=> absurd hj (Nat.not_lt_zero _)⟩
  case round=>
   obtain ⟨k,hk,rfl,hw,hg⟩:=hrel
   have HG:=Kj hg
   clear hg
   have hz1:=hw.size
   simp only [World.size_alloc] at hz1
   by_cases hlt:k < s.cases.length
   ·obtain ⟨b,o,rfl,hb,hc⟩:= (hC.kept k0).kept hw k hlt
    have hce: (s.cases.getD k CaseD.zero).text.size<=maxLen:= (hs.caseEach _ (by simp [List.getD,hlt])).1
    obtain ⟨c,hck⟩: ∃c,c=s.cases.getD k CaseD.zero:= ⟨_,rfl⟩
    rw [<-hck] at hc hce
    have HCK:=Kj hck
    clear hck
    unfold maxLen at hce
    have c0:=hc 0 _ rfl
    have c1:=hc 1 _ rfl
    simp only [Nat.add_zero] at c0
    clear hc
    by_cases d1: (c.text.size:Int)<=200
    ·by_cases d2:0<=c.goto
     ·cases d3:decide (c.goto < n)
      ·have d3':n<=c.goto:=by simpa using d3
       go_wp2
       go_ret
       exact ⟨Says.no fun h=> by have:=h.2.1 k hlt;unfold CaseOkAt at this;rw [<-HCK.out] at this;obtain ⟨q1,q2,q3⟩:=this;omega,k0.trans (hw.alloc _)⟩
      ·have d3':c.goto < n:=by simpa using d3
       go_wp2
       go_roundw
       case rel=>
        refine ⟨k+1,by omega,by go_num,hw.alloc _,fun j hj=> ?_⟩
        by_cases e:j=k
        ·subst e
         unfold CaseOkAt
         rw [<-HCK.out]
         exact ⟨by omega,by omega,by omega⟩
        ·exact unhide HG j (by omega)
       case measure=> simp [intOf];omega
     ·go_wp2
      go_ret
      exact ⟨Says.no fun h=> by have:=h.2.1 k hlt;unfold CaseOkAt at this;rw [<-HCK.out] at this;obtain ⟨q1,q2,q3⟩:=this;omega,k0.trans (hw.alloc _)⟩
    ·go_wp2
     go_ret
     exact ⟨Says.no fun h=> by have:=h.2.1 k hlt;unfold CaseOkAt at this;rw [<-HCK.out] at this;obtain ⟨q1,q2,q3⟩:=this;omega,k0.trans (hw.alloc _)⟩
   ·obtain ⟨hc1,hf1⟩:=hw.rules
    have hcs:Hid (CasesOk s n):=fun j hj=> unhide HG j (by omega)
    clear HG
    by_cases b1:0<=s.els
    ·cases b2:decide (s.els < n)
     ·have b2':n<=s.els:=by simpa using b2
      go_wp2
      go_ret
      exact ⟨Says.no fun h=> by have:=h.2.2;omega,k0.trans hw⟩
     ·have b2':s.els < n:=by simpa using b2
      cases b3: (s.fall == -1)
      ·by_cases b4:0<=s.fall
       ·cases b5:decide (s.fall < n)
        ·have b5':n<=s.fall:=by simpa using b5
         go_wp2
         go_ret
         exact ⟨Says.no fun h=> by have:=h.2.2;omega,k0.trans hw⟩
        ·have b5':s.fall < n:=by simpa using b5
         go_wp2
         go_ret
         exact ⟨Says.yes ⟨by omega,hcs.out,⟨by omega,by omega⟩,⟨by omega,by omega⟩⟩,k0.trans hw⟩
       ·go_wp2
        go_ret
        exact ⟨Says.no fun h=> by have:=h.2.2;simp at b3;omega,k0.trans hw⟩
      ·go_wp2
       go_ret
       exact ⟨Says.yes ⟨by omega,hcs.out,⟨by omega,by omega⟩,by simp at b3;omega⟩,k0.trans hw⟩
    ·go_wp2
     go_ret
     exact ⟨Says.no fun h=> by have:=h.2.2;omega,k0.trans hw⟩
 ·go_enter Tryz.func271,Tryz.ntmps271
  go_wp2
  go_ret
  exact ⟨Says.no fun h=> by have:=h.1;omega,k0⟩
theorem questionSound_any (w:World) (s:Xk) (aa ac:Option Addr) (ca cc:Nat) (n:Int) (hs:s.Fits) (hn:1<=n∧n<=20) (hA:Strs w aa s.asks) (hC:Cases w ac s.cases) (hca:s.asks.length<=ca):
  Calls Tryz.prog 269 #[.agg #[.slice aa s.asks.length ca,.int .i64 s.on,.slice ac s.cases.length cc,.int .i64 s.els,.int .i64 s.fall,.bool s.fin,.bool s.bad,.string s.give],.int .i64 n] w fun e w'=> Says e (AskOk s n)∧K_ w w':=by
 have k0:K_ w (w.alloc (.cells #[.slice aa s.asks.length ca,.int .i64 s.on,.slice ac s.cases.length cc,.int .i64 s.els,.int .i64 s.fall,.bool s.fin,.bool s.bad,.string s.give] 239)):= (K_.refl _).alloc _
 have hgive:=empty_iff s.give
 have HGV:=Kj hgive
 clear hgive
 cases hbad:s.bad
 ·rw [hbad] at k0
  cases hg:s.give.toList.isEmpty
  ·go_enter Tryz.func269,Tryz.ntmps269
   go_wp2
   go_ret
   exact ⟨Says.no fun h=> by have:=HGV.out.2 h.1.2.1;simp [this] at hg,k0⟩
  ·have HE:Hid (s.give.size=0):=HGV.out.1 (List.isEmpty_iff.1 hg)
   go_enter Tryz.func269,Tryz.ntmps269
   go_wp2_with fail
   have hask:=soundAsks_any (w.alloc (.cells #[.slice aa s.asks.length ca,.int .i64 s.on,.slice ac s.cases.length cc,.int .i64 s.els,.int .i64 s.fall,.bool s.fin,.bool s.bad,.string s.give] 239)) s aa ac ca cc hs (hA.kept ((K_.refl _).alloc _)) hca
   rw [hbad] at hask
   refine hask.mono ?_
   clear hask
   rintro e w1 ⟨hsay,k1⟩
   have k2:=k0.trans k1
   rcases hsay.cases with ⟨rfl,hyes⟩ | ⟨rfl,hno⟩
   ·have HY:=Kj hyes
    clear hyes hsay
    obtain ⟨hc1,hf1⟩:=k1.rules
    have hz1:=k1.size
    simp only [World.size_alloc] at hz1
    clear k0 k1
    have hz:w.heap.size < w1.heap.size:=by omega
    go_wp2_with fail
    have hways:=soundWays_any w1 s aa ac ca cc n hs hn (hC.kept k2)
    rw [hbad] at hways
    refine hways.mono ?_
    clear hways
    rintro e w2 ⟨hsay,k3⟩
    have k4:=k2.trans k3
    rcases hsay.cases with ⟨rfl,hyes⟩ | ⟨rfl,hno⟩
    ·have HW:=Kj hyes
     clear hyes hsay hc1 hf1
     go_wp2
     go_ret
     exact ⟨Says.yes ⟨⟨hbad,HE.out,HY.out.1,HY.out.2.1,HW.out.1,HW.out.2.2.1,HW.out.2.2.2,HY.out.2.2⟩,HW.out.2.1⟩,k4⟩
    ·have HW:=Kj hno
     clear hno hsay hc1 hf1
     go_wp2
     go_ret
     exact ⟨Says.no fun h=> HW.out ⟨h.1.2.2.2.2.1,h.2,h.1.2.2.2.2.2.1,h.1.2.2.2.2.2.2.1⟩,k4⟩
   ·have HW:=Kj hno
    clear hno hsay k0 k1
    go_wp2
    go_ret
    exact ⟨Says.no fun h=> HW.out ⟨h.1.2.2.1,h.1.2.2.2.1,h.1.2.2.2.2.2.2.2⟩,k2⟩
 ·go_enter Tryz.func269,Tryz.ntmps269
  go_wp2
  go_ret
  exact ⟨Says.no fun h=> by have:=h.1.1;simp [hbad] at this,(K_.refl _).alloc _⟩
theorem goodSound_any (w:World) (s:Xk) (aa ac:Option Addr) (ca cc:Nat) (n:Int) (hs:s.Fits):
  Calls Tryz.prog 273 #[.agg #[.slice aa s.asks.length ca,.int .i64 s.on,.slice ac s.cases.length cc,.int .i64 s.els,.int .i64 s.fall,.bool s.fin,.bool s.bad,.string s.give],.int .i64 n] w fun e w'=> Says e (EndOk s)∧K_ w w':=by
 have k0:K_ w (w.alloc (.cells #[.slice aa s.asks.length ca,.int .i64 s.on,.slice ac s.cases.length cc,.int .i64 s.els,.int .i64 s.fall,.bool s.fin,.bool s.bad,.string s.give] 241)):= (K_.refl _).alloc _
 go_enter Tryz.func273,Tryz.ntmps273
 go_wp2_with fail
 refine (soundEnd_any _ s.asks.length s.on s.cases.length s.els s.fall s.fin s.bad s.give aa ac ca cc hs.asks hs.cases hs.give).mono ?_
 rintro e w1 ⟨⟨r,rfl,hr⟩,k1⟩
 have HR:=Kj hr
 have k2:=k0.trans k1
 clear hr k0 k1
 go_wp2
 go_ret
 exact ⟨⟨r,rfl,HR.out⟩,k2⟩
theorem badSound_any (w:World) (s:Xk) (aa ac:Option Addr) (ca cc:Nat) (n:Int) (hs:s.Fits):
  Calls Tryz.prog 275 #[.agg #[.slice aa s.asks.length ca,.int .i64 s.on,.slice ac s.cases.length cc,.int .i64 s.els,.int .i64 s.fall,.bool s.fin,.bool s.bad,.string s.give],.int .i64 n] w fun e w'=> Says e (EndOk s)∧K_ w w':=by
 have k0:K_ w (w.alloc (.cells #[.slice aa s.asks.length ca,.int .i64 s.on,.slice ac s.cases.length cc,.int .i64 s.els,.int .i64 s.fall,.bool s.fin,.bool s.bad,.string s.give] 242)):= (K_.refl _).alloc _
 go_enter Tryz.func275,Tryz.ntmps275
 go_wp2_with fail
 refine (soundEnd_any _ s.asks.length s.on s.cases.length s.els s.fall s.fin s.bad s.give aa ac ca cc hs.asks hs.cases hs.give).mono ?_
 rintro e w1 ⟨⟨r,rfl,hr⟩,k1⟩
 have HR:=Kj hr
 have k2:=k0.trans k1
 clear hr k0 k1
 go_wp2
 go_ret
 exact ⟨⟨r,rfl,HR.out⟩,k2⟩
theorem kindOf_ask (w:World) (s:Xk) (aa ac:Option Addr) (ca cc:Nat):
  Calls Tryz.prog 144 #[.agg #[.slice aa s.asks.length ca,.int .i64 s.on,.slice ac s.cases.length cc,.int .i64 s.els,.int .i64 s.fall,.bool false,.bool s.bad,.string s.give]] w fun e w'=> e= .returned (.iface 239 (.agg #[.slice aa s.asks.length ca,.int .i64 s.on,.slice ac s.cases.length cc,.int .i64 s.els,.int .i64 s.fall,.bool false,.bool s.bad,.string s.give]))∧K_ w w':=by
 go_enter Tryz.func144,Tryz.ntmps144
 go_wp2
 go_ret
 exact ⟨rfl,(K_.refl _).alloc _⟩
theorem kindOf_bad (w:World) (s:Xk) (aa ac:Option Addr) (ca cc:Nat):
  Calls Tryz.prog 144 #[.agg #[.slice aa s.asks.length ca,.int .i64 s.on,.slice ac s.cases.length cc,.int .i64 s.els,.int .i64 s.fall,.bool true,.bool true,.string s.give]] w fun e w'=> e= .returned (.iface 242 (.agg #[.slice aa s.asks.length ca,.int .i64 s.on,.slice ac s.cases.length cc,.int .i64 s.els,.int .i64 s.fall,.bool true,.bool true,.string s.give]))∧K_ w w':=by
 go_enter Tryz.func144,Tryz.ntmps144
 go_wp2
 go_ret
 exact ⟨rfl,(K_.refl _).alloc _⟩
theorem kindOf_good (w:World) (s:Xk) (aa ac:Option Addr) (ca cc:Nat):
  Calls Tryz.prog 144 #[.agg #[.slice aa s.asks.length ca,.int .i64 s.on,.slice ac s.cases.length cc,.int .i64 s.els,.int .i64 s.fall,.bool true,.bool false,.string s.give]] w fun e w'=> e= .returned (.iface 241 (.agg #[.slice aa s.asks.length ca,.int .i64 s.on,.slice ac s.cases.length cc,.int .i64 s.els,.int .i64 s.fall,.bool true,.bool false,.string s.give]))∧K_ w w':=by
 go_enter Tryz.func144,Tryz.ntmps144
 go_wp2
 go_ret
 exact ⟨rfl,(K_.refl _).alloc _⟩
theorem ta_qq (vs:Array Value) (W:World): (Instr.typeAssert (.iface 239 (.agg vs)) 213 239 true).run Tryz.prog W= .ok (.tuple #[.agg vs,.bool true]) W:=by kernel_rfl
theorem follow_ask (w:World) (s:Xk) (hfin:s.fin=false) (aa ac a:Option Addr) (ca cc cap:Nat) (ans:List Xj) (hs:s.Fits) (hA:Strs w aa s.asks) (hC:Cases w ac s.cases) (hl:ans.length<=maxLen) (hal: ∀c∈ans,c.text.size<=maxLen) (hS:Answers w a ans)
  (hon:s.asks.length≠0->0<=s.on∧s.on < s.asks.length) (h20: ∀i,i < s.asks.length->(s.asks.getD i ByteArray.empty).size<=20):
  Calls Tryz.prog 143 #[.iface 239 (.agg #[.slice aa s.asks.length ca,.int .i64 s.on,.slice ac s.cases.length cc,.int .i64 s.els,.int .i64 s.fall,.bool false,.bool s.bad,.string s.give]),.slice a ans.length cap] w fun e w'=> (∃g,e= .returned (.agg g.cells.toArray)∧Followed s ans g)∧K_ w w':=by
 have hq: ∀W,K_ w W->Calls Tryz.prog 172 #[.agg #[.slice aa s.asks.length ca,.int .i64 s.on,.slice ac s.cases.length cc,.int .i64 s.els,.int .i64 s.fall,.bool false,.bool s.bad,.string s.give],.slice a ans.length cap] W fun e w'=> (∃g,e= .returned (.agg g.cells.toArray)∧Followed s ans g)∧K_ W w':=fun W hW=> by
  have h:=qfollow_any W s aa ac a ca cc cap ans hs (hA.kept hW) (hC.kept hW) hl hal (hS.kept hW) hon h20
  rw [hfin] at h
  exact h
 have HQ:=Kj hq
 clear hq hon h20
 have t1:=ta_qq
 go_enter Tryz.func143,Tryz.ntmps143
 go_wp2_with fail
 refine (unhide HQ _ (by repeat (first | apply K_.alloc | exact K_.refl _))).mono ?_
 rintro e w1 ⟨⟨g,rfl,hg⟩,k1⟩
 have hrow1:Row w1 w.heap.size 4:=Row.kept (Row.alloc (by have:=Row.made w #[.int .i64 0,.bool false,.int .i64 0,.string ⟨#[]⟩] 198;simpa using this) _) k1
 have K1:K_ w w1:=K_.trans (by repeat (first | apply K_.alloc | exact K_.refl _)) k1
 obtain ⟨c,o,t,x⟩:=g
 have HG:=Kj hg
 have HROW:=Kj hrow1
 clear hg hrow1
 obtain ⟨hc1,hf1⟩:=k1.rules
 have hz1:=k1.size
 simp only [World.size_alloc] at hz1
 clear k1
 have hcells: (GoneD.mk c o t x).cells.toArray= #[.int .i64 c,.bool o,.int .i64 t,.string x]:=rfl
 rw [hcells]
 clear hcells
 go_wp2
 have hR:=World.rangeAt_setCells_same w1 w.heap.size 0 (GoneD.mk c o t x).cells (HROW.out.there (o:=0) (m:=4) (Nat.le_refl _))
 exact Xz (GoneD.mk c o t x).cells _ Tryz.results143 rfl hR Tryz.underlying198 rfl Tryz.sizeGone rfl ⟨⟨_,rfl,HG.out⟩,K_.setCells (g:=w.heap.size) (by omega) (GoneD.mk c o t x).cells 0 K1⟩
def RootsOk (l:List ByteArray):Prop:=1<=l.length∧l.length<=10∧NamesOk l
theorem l1In_no (w:World) (n lo hi:Int) (h:n < lo∨hi < n):
  Calls Tryz.prog 83 #[.int .i64 n,.int .i64 lo,.int .i64 hi] w fun e w'=> e= .returned (.bool false)∧w'=w:=by
 by_cases h1:lo<=n
 ·have h2: ¬n<=hi:=by omega
  go_enter Tryz.func83,Tryz.ntmps83
  go_wp2
  go_ret
  exact ⟨rfl,rfl⟩
 ·go_enter Tryz.func83,Tryz.ntmps83
  go_wp2
  go_ret
  exact ⟨rfl,rfl⟩
theorem l3RootsOk_any (w:World) (a:Option Addr) (cap:Nat) (l:List ByteArray) (hl:l.length<=maxLen) (hs: ∀s∈l,s.size<=maxLen) (hS:Strs w a l):
  Calls Tryz.prog 41 #[.slice a l.length cap] w fun e w'=> Says e (RootsOk l)∧K_ w w':=by
 by_cases h:1<=l.length∧l.length<=10
 ·go_enter Tryz.func41,Tryz.ntmps41
  go_wp2_with (go_at_call 83;refine (l1In_yes _ _ _ _ (by omega) (by omega)).mono ?_;rintro e w' ⟨rfl,rfl⟩)
  refine (l1Names_any _ a cap l hl hs hS).mono ?_
  rintro e w1 ⟨hsay,k1⟩
  rcases hsay.cases with ⟨rfl,hyes⟩ | ⟨rfl,hno⟩
  ·have HY:=Kj hyes
   clear hyes hsay
   go_wp2
   go_ret
   exact ⟨Says.yes ⟨h.1,h.2,HY.out⟩,k1⟩
  ·have HY:=Kj hno
   clear hno hsay
   go_wp2
   go_ret
   exact ⟨Says.no fun g=> HY.out g.2.2,k1⟩
 ·go_enter Tryz.func41,Tryz.ntmps41
  go_wp2_with (go_at_call 83;refine (l1In_no _ _ _ _ (by omega)).mono ?_;rintro e w' ⟨rfl,rfl⟩)
  go_ret
  exact ⟨Says.no fun g=> h ⟨g.1,g.2.1⟩,K_.refl _⟩
theorem validRoots_any (w:World) (a:Option Addr) (cap:Nat) (l:List ByteArray) (hl:l.length<=maxLen) (hcap:l.length<=cap) (hs: ∀s∈l,s.size<=maxLen) (hS:Strs w a l):
  Calls Tryz.prog 48 #[.slice a l.length cap] w fun e w'=> Says e (RootsOk l)∧K_ w w':=by
 have hl':=hl
 unfold maxLen at hl'
 by_cases h1: (l.length:Int) < 1
 ·go_enter Tryz.func48,Tryz.ntmps48
  go_wp2
  go_ret
  exact ⟨Says.no fun g=> by have:=g.1;omega,K_.refl _⟩
 ·by_cases h2: (10:Int) < l.length
  ·go_enter Tryz.func48,Tryz.ntmps48
   go_wp2
   go_ret
   exact ⟨Says.no fun g=> by have:=g.2.1;omega,K_.refl _⟩
  ·have hb1:decide ((l.length:Int) < 1)=false:=by simpa using h1
   have hb2:decide ((10:Int) < l.length)=false:=by simpa using h2
   go_enter Tryz.func48,Tryz.ntmps48
   go_wp2
   clear hb1 hb2
   go_loopw [15] (fun i wr=> ∃k:Nat,k<=l.length∧i= .int .i64 k∧K_ w wr∧∀j,j < k->NameOkAt l j) (fun i _=> l.length - (intOf i).toNat)
   case atStart=> exact ⟨0,Nat.zero_le _,rfl,K_.refl _,fun j hj=> absurd hj (Nat.not_lt_zero _)⟩
   case round=>
    obtain ⟨k,hk,rfl,hw,hg⟩:=hrel
    have HG:=Kj hg
    clear hg
    by_cases hlt:k < l.length
    ·obtain ⟨b,o,rfl,hb,hc⟩:=hS.kept hw k hlt
     have hsz: (l.getD k ByteArray.empty).size<=maxLen:=hs _ (by simp [List.getD,hlt])
     obtain ⟨v,hvk⟩: ∃v,v=l.getD k ByteArray.empty:= ⟨_,rfl⟩
     rw [<-hvk] at hc hsz
     have HVK:=Kj hvk
     clear hvk
     go_wp2_with fail
     refine (validName_any _ v hsz).mono ?_
     rintro e w1 ⟨hsay,hw1⟩
     have hw2:=hw.trans hw1
     have hA1:=hS.kept hw2
     clear hc hb
     rcases hsay.cases with ⟨rfl,hyes⟩ | ⟨rfl,hno⟩
     ·have HY:=Kj hyes
      clear hyes hsay hw hw1
      have hkc:k<=cap:=by omega
      go_wp2_with fail
      refine (contains_take _ _ cap k l v hl (by omega) hA1).mono ?_
      rintro e w2 ⟨hsay,rfl⟩
      rcases hsay.cases with ⟨rfl,hyes⟩ | ⟨rfl,hno⟩
      ·have HN:=Kj hyes
       clear hyes hsay hA1
       go_wp2
       go_ret
       exact ⟨Says.no fun h=> by obtain ⟨i,hi,e⟩:=HN.out;exact (h.2.2 k hlt).2 i hi (by rw [e,HVK.out]),hw2⟩
      ·have HN:=Kj hno
       clear hno hsay hA1
       go_wp2
       go_roundw
       case rel=>
        refine ⟨k+1,by omega,by go_num,hw2,fun j hj=> ?_⟩
        by_cases e:j=k
        ·subst e
         exact ⟨by rw [<-HVK.out];exact HY.out,fun m hm h=> HN.out ⟨m,hm,by rw [h,HVK.out]⟩⟩
        ·exact unhide HG j (by omega)
       case measure=> simp [intOf];omega
     ·have HN:=Kj hno
      clear hno hsay hw hw1
      go_wp2
      go_ret
      exact ⟨Says.no fun h=> HN.out (by rw [HVK.out];exact (h.2.2 k hlt).1),hw2⟩
    ·go_wp2
     go_ret
     exact ⟨Says.yes ⟨by omega,by omega,fun j hj=> unhide HG j (by omega)⟩,hw⟩
