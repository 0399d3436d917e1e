import Derived.Test.YtgnkgfjmbmcfcaaGreatDoorKVBfs
import Derived.Test.YtgnkgfjmbmcfcaaGreatDoorProg
import Derived.WalkSpells
import Derived.WalkLawsBesides
import Derived.Laws.IdiomStrings
import Derived.WalkKit
import Derived.Deep.OwnRows
set_option maxRecDepth 100000
set_option maxHeartbeats 25600000
namespace Go.Proofs.YtgnkgfjmbmcfcaaGreatDoor
open Go.RowKit
structure GoneD where
 code:Int
 over:Bool
 at':Int
 text:ByteArray
def GoneD.cells (g:GoneD):List Value:=[.int .i64 g.code,.bool g.over,.int .i64 g.at',.string g.text]
theorem longAnswer_any (w:World) (c:Xq) (hc:c.text.size<=maxLen):
  Calls Tryz.prog 230 #[.agg #[.bool c.fail,.string c.text]] w fun e w'=> Says e (200 < c.text.size)∧K_ w w':=by
 unfold maxLen at hc
 go_enter Tryz.func230,Tryz.ntmps230
 go_wp2
 go_ret
 exact ⟨(Says.dec _).congr ⟨fun h=> by omega,fun h=> by omega⟩,(K_.refl _).alloc _⟩
theorem failed_any (w:World) (c:Xq):
  Calls Tryz.prog 196 #[.agg #[.bool c.fail,.string c.text]] w fun e w'=> Says e (c.fail=true)∧K_ w w':=by
 go_enter Tryz.func196,Tryz.ntmps196
 go_wp2
 go_ret
 exact ⟨⟨c.fail,rfl,Iff.rfl⟩,(K_.refl _).alloc _⟩
def FirstAt (l:List Xq) (p:Xq->Prop) (r:Int):Prop:=
 (∃i,i < l.length∧r= (i:Int)∧p (l.getD i Xq.zero)∧∀j,j < i->¬p (l.getD j Xq.zero))∨(r= -1∧∀j,j < l.length->¬p (l.getD j Xq.zero))
def NoneTo (l:List Xq) (p:Xq->Prop) (k:Nat):Prop:= ∀j,j < k->¬p (l.getD j Xq.zero)
def IsLong (c:Xq):Prop:=200 < c.text.size
def IsFail (c:Xq):Prop:=c.fail=true
theorem indexLong (w:World) (a:Option Addr) (cap:Nat) (l:List Xq) (hl:l.length<=maxLen) (hs: ∀c∈l,c.text.size<=maxLen) (hS:Answers w a l):
  Calls Tryz.prog 195 #[.slice a l.length cap,.func (.func 230) #[] #[]] w fun e w'=> (∃r,e= .returned (.int .i64 r)∧FirstAt l IsLong r)∧K_ w w':=by
 unfold maxLen at hl
 go_enter Tryz.func195,Tryz.ntmps195
 go_wp2
 go_loopw [8] (fun i wr=> ∃k:Nat,k<=l.length∧i= .int .i64 k∧K_ w wr∧NoneTo l IsLong k) (fun i _=> l.length - (intOf i).toNat)
 case atStart=> exact ⟨0,Nat.zero_le _,rfl,K_.refl _,fun j hj=> absurd hj (Nat.not_lt_zero _)⟩
 case round=>
  obtain ⟨k,hk,rfl,hw,hg⟩:=hrel
  have HG:=Kz hg
  clear hg
  by_cases hlt:k < l.length
  ·obtain ⟨b,o,rfl,hb,hc⟩:=hS.kept hw k hlt
   have hsz: (l.getD k Xq.zero).text.size<=maxLen:=hs _ (by simp [List.getD,hlt])
   obtain ⟨c,hck⟩: ∃c,c=l.getD k Xq.zero:= ⟨_,rfl⟩
   rw [<-hck] at hc hsz
   have HCK:=Kz hck
   clear hck
   have c0:=hc 0 _ rfl
   have c1:=hc 1 _ rfl
   simp only [Nat.add_zero] at c0
   clear hc
   go_wp2_with fail
   refine (longAnswer_any _ c hsz).mono ?_
   rintro e w1 ⟨hsay,hw1⟩
   have hw2:=hw.trans hw1
   clear c0 c1 hw hw1
   rcases hsay.cases with ⟨rfl,hyes⟩ | ⟨rfl,hno⟩
   ·have HY:=Kz hyes
    clear hyes hsay
    go_wp2
    go_ret
    exact ⟨⟨k,rfl,Or.inl ⟨k,hlt,rfl,by rw [<-HCK.out];exact HY.out,HG.out⟩⟩,hw2⟩
   ·have HN:=Kz hno
    clear hno hsay
    go_wp2
    go_roundw
    case rel=>
     refine ⟨k+1,by omega,by go_num,hw2,fun j hj=> ?_⟩
     by_cases e:j=k
     ·subst e
      rw [<-HCK.out]
      exact HN.out
     ·exact HG.out j (by omega)
    case measure=> simp [intOf];omega
  ·go_wp2
   go_ret
   exact ⟨⟨-1,rfl,Or.inr ⟨rfl,fun j hj=> HG.out j (by omega)⟩⟩,hw⟩
theorem indexFail (w:World) (a:Option Addr) (cap:Nat) (l:List Xq) (hl:l.length<=maxLen) (hs: ∀c∈l,c.text.size<=maxLen) (hS:Answers w a l):
  Calls Tryz.prog 195 #[.slice a l.length cap,.func (.func 196) #[] #[]] w fun e w'=> (∃r,e= .returned (.int .i64 r)∧FirstAt l IsFail r)∧K_ w w':=by
 unfold maxLen at hl
 go_enter Tryz.func195,Tryz.ntmps195
 go_wp2
 go_loopw [8] (fun i wr=> ∃k:Nat,k<=l.length∧i= .int .i64 k∧K_ w wr∧NoneTo l IsFail k) (fun i _=> l.length - (intOf i).toNat)
 case atStart=> exact ⟨0,Nat.zero_le _,rfl,K_.refl _,fun j hj=> absurd hj (Nat.not_lt_zero _)⟩
 case round=>
  obtain ⟨k,hk,rfl,hw,hg⟩:=hrel
  have HG:=Kz hg
  clear hg
  by_cases hlt:k < l.length
  ·obtain ⟨b,o,rfl,hb,hc⟩:=hS.kept hw k hlt
   have hsz: (l.getD k Xq.zero).text.size<=maxLen:=hs _ (by simp [List.getD,hlt])
   obtain ⟨c,hck⟩: ∃c,c=l.getD k Xq.zero:= ⟨_,rfl⟩
   rw [<-hck] at hc hsz
   have HCK:=Kz hck
   clear hck
   have c0:=hc 0 _ rfl
   have c1:=hc 1 _ rfl
   simp only [Nat.add_zero] at c0
   clear hc
   go_wp2_with fail
   refine (failed_any _ c).mono ?_
   rintro e w1 ⟨hsay,hw1⟩
   have hw2:=hw.trans hw1
   clear c0 c1 hw hw1
   rcases hsay.cases with ⟨rfl,hyes⟩ | ⟨rfl,hno⟩
   ·have HY:=Kz hyes
    clear hyes hsay
    go_wp2
    go_ret
    exact ⟨⟨k,rfl,Or.inl ⟨k,hlt,rfl,by rw [<-HCK.out];exact HY.out,HG.out⟩⟩,hw2⟩
   ·have HN:=Kz hno
    clear hno hsay
    go_wp2
    go_roundw
    case rel=>
     refine ⟨k+1,by omega,by go_num,hw2,fun j hj=> ?_⟩
     by_cases e:j=k
     ·subst e
      rw [<-HCK.out]
      exact HN.out
     ·exact HG.out j (by omega)
    case measure=> simp [intOf];omega
  ·go_wp2
   go_ret
   exact ⟨⟨-1,rfl,Or.inr ⟨rfl,fun j hj=> HG.out j (by omega)⟩⟩,hw⟩
theorem containsLong (w:World) (a:Option Addr) (cap:Nat) (l:List Xq) (hl:l.length<=maxLen) (hs: ∀c∈l,c.text.size<=maxLen) (hS:Answers w a l):
  Calls Tryz.prog 229 #[.slice a l.length cap,.func (.func 230) #[] #[]] w fun e w'=> Says e (∃i,i < l.length∧IsLong (l.getD i Xq.zero))∧K_ w w':=by
 go_enter Tryz.func229,Tryz.ntmps229
 go_wp2_with fail
 refine (indexLong _ a cap l hl hs hS).mono ?_
 rintro e w1 ⟨⟨r,rfl,hr⟩,k1⟩
 have HR:=Kz hr
 clear hr
 by_cases h0:0<=r
 ·have h1:decide (0<=r)=true:=by simpa using h0
  go_wp2
  go_ret
  exact ⟨Says.yes (by rcases HR.out with ⟨i,hi,_,hp,_⟩ | ⟨rfl,_⟩;exact ⟨i,hi,hp⟩;omega),k1⟩
 ·have h1:decide (0<=r)=false:=by simpa using h0
  go_wp2
  go_ret
  exact ⟨Says.no (by rcases HR.out with ⟨i,hi,rfl,hp,_⟩ | ⟨rfl,hno⟩;omega;exact fun ⟨i,hi,hp⟩=> hno i hi hp),k1⟩
def CaseIs (s:Xj) (t:ByteArray) (i:Nat):Prop:= (s.cases.getD i CaseD.zero).text=t
def CaseTo (s:Xj) (t:ByteArray) (k:Nat):Prop:= ∀j,j < k->¬CaseIs s t j
def gotoOf (s:Xj) (i:Nat):Int:= (s.cases.getD i CaseD.zero).goto
def textAt (ans:List Xq) (i:Int):ByteArray:= (ans.getD i.toNat Xq.zero).text
def Chosen (s:Xj) (ans:List Xq) (r:Int):Prop:=
 (ans.length=0∧r=s.els)∨
 (ans.length≠0∧((∃i,i < s.cases.length∧CaseIs s (textAt ans s.on) i∧CaseTo s (textAt ans s.on) i∧r=gotoOf s i)∨(CaseTo s (textAt ans s.on) s.cases.length∧r=s.els)))
theorem Chosen.unique {s:Xj} {ans:List Xq} {r r':Int} (h:Chosen s ans r) (h':Chosen s ans r'):r=r':=by
 rcases h with ⟨h0,rfl⟩ | ⟨h0,⟨i,hi,hp,hn,rfl⟩ | ⟨hn,rfl⟩⟩ <;> rcases h' with ⟨g0,rfl⟩ | ⟨g0,⟨j,hj,gp,gn,rfl⟩ | ⟨gn,rfl⟩⟩
 all_goals first | rfl | (exfalso;omega) | skip
 ·rcases Nat.lt_trichotomy i j with h | rfl | h
  ·exact absurd hp (gn i h)
  ·rfl
  ·exact absurd gp (hn j h)
 ·exact absurd hp (gn i hi)
 ·exact absurd gp (hn j hj)
theorem choose_any (w:World) (s:Xj) (aa ac a:Option Addr) (ca cc cap:Nat) (ans:List Xq) (hs:s.cases.length<=maxLen) (hC:Cases w ac s.cases) (_hl:ans.length<=maxLen) (hS:Answers w a ans)
  (hon:ans.length≠0->0<=s.on∧s.on < ans.length):
  Calls Tryz.prog 231 #[.agg #[.slice aa s.asks.length ca,.int .i64 s.on,.slice ac s.cases.length cc,.int .i64 s.els,.int .i64 s.fall,.bool s.fin,.bool s.bad,.string s.give],.slice a ans.length cap] w fun e w'=> (∃r,e= .returned (.int .i64 r)∧Chosen s ans r)∧K_ w w':=by
 unfold maxLen at _hl hs
 have k0:K_ w (w.alloc (.cells #[.slice aa s.asks.length ca,.int .i64 s.on,.slice ac s.cases.length cc,.int .i64 s.els,.int .i64 s.fall,.bool s.fin,.bool s.bad,.string s.give] 270)):= (K_.refl _).alloc _
 cases a1: ((ans.length:Int) == 0)
 ·have hne:ans.length≠0:=by simp at a1;simpa using a1
  obtain ⟨o1,o2⟩:=hon hne
  clear hon
  have HNE:=Kz hne
  clear hne
  obtain ⟨t,htk⟩: ∃t,t=textAt ans s.on:= ⟨_,rfl⟩
  have HTK:=Kz htk
  clear htk
  obtain ⟨n,hn⟩:=Int.eq_ofNat_of_zero_le o1
  have HN:=Kz hn
  go_enter Tryz.func231,Tryz.ntmps231
  rw [hn] at o1 o2⊢
  clear hn
  go_wp2
  go_loopw [17] (fun i wr=> ∃k:Nat,k<=s.cases.length∧i= .int .i64 k∧K_ (w.alloc (.cells #[.slice aa s.asks.length ca,.int .i64 n,.slice ac s.cases.length cc,.int .i64 s.els,.int .i64 s.fall,.bool s.fin,.bool s.bad,.string s.give] 270)) wr∧CaseTo s t k) (fun i _=> s.cases.length - (intOf i).toNat)
  case atStart=> exact ⟨0,Nat.zero_le _,rfl,K_.refl _,fun j hj=> absurd hj (Nat.not_lt_zero _)⟩
  case round=>
   obtain ⟨k,hk,rfl,hw,hg⟩:=hrel
   have HG:=Kz hg
   clear hg
   have hz1:=hw.size
   simp only [World.size_alloc] at hz1
   have k1:K_ w wr:=K_.trans ((K_.refl _).alloc _) hw
   obtain ⟨hc1,hf1⟩:=hw.rules
   by_cases hlt:k < s.cases.length
   ·obtain ⟨b,o,rfl,hb,hc⟩:=hC.kept k1 k hlt
    obtain ⟨b',o',rfl,hb',hc'⟩:=hS.kept k1 n (by omega)
    obtain ⟨c,hck⟩: ∃c,c=s.cases.getD k CaseD.zero:= ⟨_,rfl⟩
    rw [<-hck] at hc
    have HCK:=Kz hck
    clear hck
    have c0:=hc 0 _ rfl
    have c1:=hc 1 _ rfl
    have d1:=hc' 1 _ rfl
    simp only [Nat.add_zero] at c0
    have htn: (ans.getD n Xq.zero).text=t:=by have h1:=HTK.out;have h2:=HN.out;unfold textAt at h1;rw [h2] at h1;exact h1.symm
    rw [htn] at d1
    clear hc hc' htn
    have z0:w.heap.size < wr.heap.size:=by omega
    have z1:w.heap.size < wr.heap.size+1:=by omega
    have z2:b' < wr.heap.size+1:=by omega
    cases hct: (c.text.toList == t.toList)
    ·go_wp2
     go_region
     all_goals
      go_wp2
      go_roundw
      case rel=>
       refine ⟨k+1,by omega,by go_num,by repeat (first | apply K_.drew | apply K_.alloc | exact hw),fun j hj=> ?_⟩
       by_cases e:j=k
       ·subst e
        unfold CaseIs
        rw [<-HCK.out]
        exact bytes_ne hct
       ·exact HG.out j (by omega)
      case measure=> simp [intOf];omega
    ·go_wp2
     go_region
     all_goals
      go_wp2
      go_ret
      exact ⟨⟨c.goto,rfl,Or.inr ⟨HNE.out,Or.inl ⟨k,hlt,by unfold CaseIs;rw [<-HCK.out,<-HTK.out];exact bytes_eq.1 hct,by rw [<-HTK.out];exact HG.out,by unfold gotoOf;rw [<-HCK.out]⟩⟩⟩,by repeat (first | apply K_.drew | apply K_.alloc | exact k1)⟩
   ·go_wp2
    go_ret
    exact ⟨⟨s.els,rfl,Or.inr ⟨HNE.out,Or.inr ⟨by rw [<-HTK.out];exact fun j hj=> HG.out j (by omega),rfl⟩⟩⟩,k1⟩
 ·go_enter Tryz.func231,Tryz.ntmps231
  go_wp2
  go_ret
  exact ⟨⟨s.els,rfl,Or.inl ⟨by simp at a1;simpa using a1,rfl⟩⟩,k0⟩
def GoneD.none :GoneD:= ⟨1,false,0,⟨#[]⟩⟩
def belowOf (s:Xj) (i:Nat):ByteArray:= (⟨#[98,101,108,111,119,32]⟩:ByteArray)++s.asks.getD i ByteArray.empty
def AnsOk (s:Xj) (ans:List Xq):Prop:=ans.length=s.asks.length∧¬∃i,i < ans.length∧IsLong (ans.getD i Xq.zero)
def Followed (s:Xj) (ans:List Xq) (g:GoneD):Prop:=
 (¬AnsOk s ans∧g=GoneD.none)∨
 (AnsOk s ans∧((∃i,i < ans.length∧IsFail (ans.getD i Xq.zero)∧NoneTo ans IsFail i∧((s.fall= -1∧g= ⟨0,true,0,belowOf s i⟩)∨(s.fall≠ -1∧g= ⟨0,false,s.fall,⟨#[]⟩⟩)))∨
  (NoneTo ans IsFail ans.length∧∃r,Chosen s ans r∧g= ⟨0,false,r,⟨#[]⟩⟩)))
theorem Followed.unique {s:Xj} {ans:List Xq} {g g':GoneD} (h:Followed s ans g) (h':Followed s ans g'):g=g':=by
 rcases h with ⟨h0,rfl⟩ | ⟨h0,⟨i,hi,hp,hn,⟨f1,rfl⟩ | ⟨f1,rfl⟩⟩ | ⟨hn,r,hr,rfl⟩⟩ <;> rcases h' with ⟨g0,rfl⟩ | ⟨g0,⟨j,hj,gp,gn,⟨e1,rfl⟩ | ⟨e1,rfl⟩⟩ | ⟨gn,q,gq,rfl⟩⟩
 all_goals first | rfl | exact absurd g0 h0 | exact absurd h0 g0 | exact absurd e1 f1 | exact absurd f1 e1 | exact absurd hp (gn i hi) | exact absurd gp (hn j hj) | skip
 ·rcases Nat.lt_trichotomy i j with h | rfl | h
  ·exact absurd hp (gn i h)
  ·rfl
  ·exact absurd gp (hn j h)
 ·rw [hr.unique gq]
theorem Tryz.sizeGone : (Tryz.prog.info? 244).map (·.size)=some 4:=by kernel_rfl
theorem qfollow_any (w:World) (s:Xj) (aa ac a:Option Addr) (ca cc cap:Nat) (ans:List Xq) (hs:s.Fits) (hA:Strs w aa s.asks) (hC:Cases w ac s.cases) (hl:ans.length<=maxLen) (hal: ∀c∈ans,c.text.size<=maxLen) (hS:Answers w a ans)
  (hon:s.asks.length≠0->0<=s.on∧s.on < s.asks.length) (h20: ∀i,i < s.asks.length->(s.asks.getD i ByteArray.empty).size<=20):
  Calls Tryz.prog 211 #[.agg #[.slice aa s.asks.length ca,.int .i64 s.on,.slice ac s.cases.length cc,.int .i64 s.els,.int .i64 s.fall,.bool s.fin,.bool s.bad,.string s.give],.slice a ans.length cap] w fun e w'=> (∃g,e= .returned (.agg g.cells.toArray)∧Followed s ans g)∧K_ w w':=by
 have hl':=hl
 have hl2:=hs.asks
 unfold maxLen at hl' hl2
 have k0:K_ w ((w.alloc (.cells #[.slice aa s.asks.length ca,.int .i64 s.on,.slice ac s.cases.length cc,.int .i64 s.els,.int .i64 s.fall,.bool s.fin,.bool s.bad,.string s.give] 270)).alloc (.cells #[.int .i64 0,.bool false,.int .i64 0,.string ⟨#[]⟩] 244)):= ((K_.refl _).alloc _).alloc _
 cases a1: ((ans.length:Int) != (s.asks.length:Int))
 ·have hlen:ans.length=s.asks.length:=by simp at a1;omega
  have HLEN:=Kz hlen
  clear hlen
  go_enter Tryz.func211,Tryz.ntmps211
  go_wp2_with fail
  refine (containsLong _ a cap ans hl hal (hS.kept k0)).mono ?_
  rintro e w1 ⟨hsay,k1⟩
  have K1:=k0.trans k1
  have hrow1:Row w1 (w.heap.size+1) 4:=Row.kept (by have:=Row.made (w.alloc (.cells #[.slice aa s.asks.length ca,.int .i64 s.on,.slice ac s.cases.length cc,.int .i64 s.els,.int .i64 s.fall,.bool s.fin,.bool s.bad,.string s.give] 270)) #[.int .i64 0,.bool false,.int .i64 0,.string ⟨#[]⟩] 244;simpa using this) k1
  have HROW:=Kz hrow1
  clear hrow1
  obtain ⟨hc1,hf1⟩:=k1.rules
  have hz1:=k1.size
  simp only [World.size_alloc] at hz1
  rcases hsay.cases with ⟨rfl,hyes⟩ | ⟨rfl,hno⟩
  ·have HY:=Kz hyes
   clear hyes hsay k0 k1
   go_wp2
   have hR:=World.rangeAt_setCells_same w1 (w.heap.size+1) 0 GoneD.none.cells (HROW.out.there (o:=0) (m:=4) (Nat.le_refl _))
   exact X_ GoneD.none.cells _ Tryz.results211 rfl hR Tryz.underlying244 rfl Tryz.sizeGone rfl ⟨⟨_,rfl,Or.inl ⟨fun h=> h.2 HY.out,rfl⟩⟩,K_.setCells (g:=w.heap.size+1) (by omega) GoneD.none.cells 0 K1⟩
  ·have HN:=Kz hno
   clear hno hsay k0 k1
   have z0:w.heap.size < w1.heap.size:=by omega
   have z1:w.heap.size+1 < w1.heap.size:=by omega
   go_wp2_with fail
   refine (indexFail _ a cap ans hl hal (hS.kept K1)).mono ?_
   rintro e w2 ⟨⟨r,rfl,hr⟩,k2⟩
   have K2:=K1.trans k2
   have hrow2:=HROW.out.kept k2
   have HROW2:=Kz hrow2
   obtain ⟨hc2,hf2⟩:=k2.rules
   have hz2:=k2.size
   have y0:w.heap.size < w2.heap.size:=by omega
   have y1:w.heap.size+1 < w2.heap.size:=by omega
   clear hrow2 HROW k2 K1
   have HOK:Hid (AnsOk s ans):= ⟨HLEN.out,HN.out⟩
   rcases hr with ⟨i,hi,rfl,hp,hnone⟩ | ⟨rfl,hnone⟩
   ·have HP:=Kz hp
    have HNO:=Kz hnone
    clear hp hnone
    cases b1: (s.fall == -1)
    ·go_wp2
     have hR:=World.rangeAt_setCells_same w2 (w.heap.size+1) 0 [.int .i64 0,.bool false,.int .i64 s.fall,.string ⟨#[]⟩] (HROW2.out.there (o:=0) (m:=4) (Nat.le_refl _))
     exact X_ [.int .i64 0,.bool false,.int .i64 s.fall,.string ⟨#[]⟩] _ Tryz.results211 rfl hR Tryz.underlying244 rfl Tryz.sizeGone rfl ⟨⟨⟨0,false,s.fall,⟨#[]⟩⟩,rfl,Or.inr ⟨HOK.out,Or.inl ⟨i,hi,HP.out,HNO.out,Or.inr ⟨by simpa using b1,rfl⟩⟩⟩⟩,K_.setCells (g:=w.heap.size+1) (by omega) [.int .i64 0,.bool false,.int .i64 s.fall,.string ⟨#[]⟩] 0 K2⟩
    ·obtain ⟨ba,oa,rfl,hba,hca⟩:=hA.kept K2 i (by have:=HLEN.out;omega)
     have hia:i < s.asks.length:=by have:=HLEN.out;omega
     obtain ⟨v,hv⟩: ∃v,v=s.asks.getD i ByteArray.empty:= ⟨_,rfl⟩
     have hv20:=h20 i hia
     rw [<-hv] at hca hv20
     have HV:=Kz hv
     clear hv
     go_wp2
     have hR:=World.rangeAt_setCells_same w2 (w.heap.size+1) 0 [.int .i64 0,.bool true,.int .i64 0,.string ((⟨#[98,101,108,111,119,32]⟩:ByteArray)++v)] (HROW2.out.there (o:=0) (m:=4) (Nat.le_refl _))
     exact X_ [.int .i64 0,.bool true,.int .i64 0,.string ((⟨#[98,101,108,111,119,32]⟩:ByteArray)++v)] _ Tryz.results211 rfl hR Tryz.underlying244 rfl Tryz.sizeGone rfl ⟨⟨⟨0,true,0,_⟩,rfl,Or.inr ⟨HOK.out,Or.inl ⟨i,hi,HP.out,HNO.out,Or.inl ⟨by simpa using b1,by unfold belowOf;rw [<-HV.out]⟩⟩⟩⟩,K_.setCells (g:=w.heap.size+1) (by omega) [.int .i64 0,.bool true,.int .i64 0,.string ((⟨#[98,101,108,111,119,32]⟩:ByteArray)++v)] 0 K2⟩
   ·have HNO:=Kz hnone
    clear hnone
    go_wp2_with fail
    refine (choose_any _ s aa ac a ca cc cap ans hs.cases (hC.kept K2) hl (hS.kept K2) (fun h=> by have h1:=HLEN.out;have h2:=hon (by omega);omega)).mono ?_
    rintro e w3 ⟨⟨q,rfl,hq⟩,k3⟩
    have K3:=K2.trans k3
    have hrow3:=HROW2.out.kept k3
    have HROW3:=Kz hrow3
    have HQ:=Kz hq
    obtain ⟨hc3,hf3⟩:=k3.rules
    have hz3:=k3.size
    clear hrow3 HROW2 k3 K2 hq
    go_wp2
    have hR:=World.rangeAt_setCells_same w3 (w.heap.size+1) 0 [.int .i64 0,.bool false,.int .i64 q,.string ⟨#[]⟩] (HROW3.out.there (o:=0) (m:=4) (Nat.le_refl _))
    exact X_ [.int .i64 0,.bool false,.int .i64 q,.string ⟨#[]⟩] _ Tryz.results211 rfl hR Tryz.underlying244 rfl Tryz.sizeGone rfl ⟨⟨⟨0,false,q,⟨#[]⟩⟩,rfl,Or.inr ⟨HOK.out,Or.inr ⟨HNO.out,q,HQ.out,rfl⟩⟩⟩,K_.setCells (g:=w.heap.size+1) (by omega) [.int .i64 0,.bool false,.int .i64 q,.string ⟨#[]⟩] 0 K3⟩
 ·go_enter Tryz.func211,Tryz.ntmps211
  go_wp2
  have hR:=Xz (w.alloc (.cells #[.slice aa s.asks.length ca,.int .i64 s.on,.slice ac s.cases.length cc,.int .i64 s.els,.int .i64 s.fall,.bool s.fin,.bool s.bad,.string s.give] 270)) #[.int .i64 1,.bool false,.int .i64 0,.string ⟨#[]⟩] 244
  rw [World.size_alloc] at hR
  exact X_ GoneD.none.cells _ Tryz.results211 rfl hR Tryz.underlying244 rfl Tryz.sizeGone rfl ⟨⟨_,rfl,Or.inl ⟨fun h=> by simp at a1;exact a1 (by have:=h.1;omega),rfl⟩⟩,((K_.refl _).alloc _).alloc _⟩
theorem convBytes (w:World) (s:ByteArray): ∃cap C fr,(convert 9 166 (.string s)).run Tryz.prog w= .ok (.slice (some ⟨w.heap.size,0,none⟩) s.size cap) (w.drew.alloc (.cells C 5 fr))∧
  ∀j (h:j < s.size),(w.alloc (.cells C 5 fr)).cell? ⟨w.heap.size,j,none⟩=some (.int .u8 (s[j].toNat:Int)):=by
 refine ⟨_,_,_,run_bytes_of_string (P:=Tryz.prog) w 9 166 5 s Tryz.underlying9 Tryz.underlying166 Tryz.underlying5,fun j h=> ?_⟩
 rw [World.cell?_alloc_mark]
 unfold bytesRow
 have h':j < s.data.size:=h
 rw [Array.getElem?_append_left (by simpa using h')]
 simp only [Array.getElem?_map,Array.getElem?_eq_getElem h',Option.map_some]
 rfl
def szStrs (l:List ByteArray):Nat:=l.length+ (l.map (·.size)).sum
theorem szStringS_any (w:World) (a:Option Addr) (cap:Nat) (l:List ByteArray) (left:Int) (hl:l.length<=maxLen) (hs: ∀s∈l,s.size<=maxLen)
  (hS:Strs w a l) (h0:0<=left) (h1:left<=1048576):
  Calls Tryz.prog 5 #[.slice a l.length cap,.int .i64 left] w fun e w'=> e= .returned (.int .i64 (szL (szStrs l) left))∧w'=w:=by
 unfold maxLen at hl
 go_enter Tryz.func5,Tryz.ntmps5
 go_wp2
 ·go_ret
  exact ⟨ret_int (szL_neg (by unfold szStrs;omega)).symm,rfl⟩
 ·go_loop [1,5] (fun x i=> ∃k:Nat,k<=l.length∧i= .int .i64 k∧x= .int .i64 (left - l.length - sumTo (·.size) l k)∧0<=left - l.length - sumTo (·.size) l k) (fun _ i=> l.length - (intOf i).toNat)
  case atStart=> exact ⟨0,Nat.zero_le _,rfl,by simp [sumTo_zero],by simp [sumTo_zero];omega⟩
  case round=>
   obtain ⟨k,hk,rfl,rfl,hge⟩:=hrel
   by_cases hlt:k < l.length
   ·obtain ⟨b,o,rfl,hb,hc⟩:=hS k hlt
    have hsz: (l.getD k ByteArray.empty).size<=maxLen:=hs _ (by simp [List.getD,hlt])
    have HS:Hid (sumTo (·.size) l (k+1)=sumTo (·.size) l k+ (l.getD k ByteArray.empty).size):=sumTo_succ _ l _ k hlt
    have HT:=sumTo_le (·.size) l (k+1)
    generalize l.getD k ByteArray.empty=s at *
    unfold maxLen at hsz
    go_wp2
    ·go_ret
     exact ⟨ret_int (szL_neg (by unfold szStrs;have:=HS.out;omega)).symm,rfl⟩
    ·go_round
     case rel=> exact ⟨k+1,by omega,by go_num,by rw [HS.out];go_num,by rw [HS.out];omega⟩
     case measure=> simp [intOf];omega
   ·go_wp2
    go_ret
    have:k=l.length:=by omega
    subst this
    rw [sumTo_all] at hge⊢
    exact ⟨ret_int (by rw [szL_pos (by unfold szStrs;omega)];unfold szStrs;omega),rfl⟩
theorem eqStringS_yes (w:World) (a a':Option Addr) (cap cap':Nat) (l:List ByteArray) (hl:l.length<=maxLen)
  (hS:Strs w a l) (hS':Strs w a' l):
  Calls Tryz.prog 12 #[.slice a l.length cap,.slice a' l.length cap'] w fun e w'=> e= .returned (.bool true)∧K_ w w':=by
 unfold maxLen at hl
 go_enter Tryz.func12,Tryz.ntmps12
 go_wp2
 go_loopw [5] (fun i wr=> ∃k:Nat,k<=l.length∧i= .int .i64 k∧K_ w wr) (fun i _=> l.length - (intOf i).toNat)
 case atStart=> exact ⟨0,Nat.zero_le _,rfl,K_.refl _⟩
 case round=>
  obtain ⟨k,hk,rfl,hw⟩:=hrel
  by_cases hlt:k < l.length
  ·obtain ⟨b,o,rfl,hb,hc⟩:=hS.kept hw k hlt
   obtain ⟨b',o',rfl,hb',hc'⟩:=hS'.kept hw k hlt
   generalize l.getD k ByteArray.empty=s at *
   go_wp2
   go_region
   all_goals
    go_wp2
    go_roundw
    case rel=> exact ⟨k+1,by omega,by go_num,Below.drew hw⟩
    case measure=> simp [intOf];omega
  ·go_wp2
   go_ret
   exact ⟨rfl,hw⟩
theorem Tryz.infoStr : (Tryz.prog.info? 9).map (fun i=> (i.zero,i.size,i.bytes))=some (some (.string ByteArray.empty),1,16):=by kernel_rfl
theorem toStringS_any (w:World) (a:Option Addr) (cap:Nat) (l:List ByteArray) (hl:l.length<=1048576)
  (hS:Strs w a l):
  Calls Tryz.prog 8 #[.slice a l.length cap] w fun e w'=> ∃b,e= .returned (.slice (some ⟨b,0,none⟩) l.length l.length)∧Strs w' (some ⟨b,0,none⟩) l∧K_ w w'∧w.heap.size<=b:=by
 have hmk:=run_make_row' (P:=Tryz.prog) 25 9 _ _ Tryz.underlying25 Tryz.infoStr rfl .i64 .i64 l.length (by omega) (by omega)
 go_enter Tryz.func8,Tryz.ntmps8
 go_wp2
 clear hmk
 have hrow:=World.rowIs_made w (.string ByteArray.empty) l.length 9
 have hkept:K_ w (w.alloc (.cells (madeCells #[.string ByteArray.empty] l.length) 9)):=Below.alloc (Below.refl _ _) (Nat.le_refl _) _
 go_loopw [4] (fun i wr=> ∃k:Nat,k<=l.length∧i= .int .i64 k∧K_ w wr∧(∃f,wr.rowIs w.heap.size 9 l.length f)∧∀j,j < k->wr.cell? ⟨w.heap.size,j,none⟩=some (.string (l.getD j ByteArray.empty))) (fun i _=> l.length - (intOf i).toNat)
 case atStart=> exact ⟨0,Nat.zero_le _,rfl,hkept,⟨_,hrow⟩,fun j hj=> absurd hj (Nat.not_lt_zero _)⟩
 case round=>
  obtain ⟨k,hk,rfl,hw,⟨f,hr⟩,hf⟩:=hrel
  clear hrow hkept
  by_cases hlt:k < l.length
  ·obtain ⟨b,o,rfl,hb,hc⟩:=hS.kept hw k hlt
   have hfr:=hr.frozen k
   have hold:=hr.cell hlt
   have HR:=Kz hr
   have HF:=Kz hf
   clear hr hf
   generalize hs:l.getD k ByteArray.empty=s at *
   have HSs:=Kz hs
   clear hs
   go_wp2
   go_roundw
   case rel=>
    refine ⟨k+1,by omega,by go_num,Below.setCell hw (Nat.le_refl _) _,⟨_,(unhide HR).set k (.string s)⟩,fun j hj=> ?_⟩
    by_cases e:j=k
    ·subst e
     rw [World.cell?_setCell_same _ _ _ hold,unhide HSs]
    ·rw [World.cell?_setCell_other _ _ _ _ (by simp <;> omega)]
     exact unhide HF j (by omega)
   case measure=> simp [intOf];omega
  ·go_wp2
   go_ret
   have:k=l.length:=by omega
   subst this
   exact ⟨w.heap.size,rfl,fun j hj=> ⟨w.heap.size,0,rfl,hr.lt,by rw [Nat.zero_add];exact hf j hj⟩,hw,Nat.le_refl _⟩
theorem ta_qq (vs:Array Value) (W:World): (Instr.typeAssert (.iface 270 (.agg vs)) 250 270 true).run Tryz.prog W= .ok (.tuple #[.agg vs,.bool true]) W:=by kernel_rfl
theorem follow_ask (w:World) (s:Xj) (hfin:s.fin=false) (aa ac a:Option Addr) (ca cc cap:Nat) (ans:List Xq) (hs:s.Fits) (hA:Strs w aa s.asks) (hC:Cases w ac s.cases) (hl:ans.length<=maxLen) (hal: ∀c∈ans,c.text.size<=maxLen) (hS:Answers w a ans)
  (hon:s.asks.length≠0->0<=s.on∧s.on < s.asks.length) (h20: ∀i,i < s.asks.length->(s.asks.getD i ByteArray.empty).size<=20):
  Calls Tryz.prog 194 #[.iface 270 (.agg #[.slice aa s.asks.length ca,.int .i64 s.on,.slice ac s.cases.length cc,.int .i64 s.els,.int .i64 s.fall,.bool false,.bool s.bad,.string s.give]),.slice a ans.length cap] w fun e w'=> (∃g,e= .returned (.agg g.cells.toArray)∧Followed s ans g)∧K_ w w':=by
 have hq: ∀W,K_ w W->Calls Tryz.prog 211 #[.agg #[.slice aa s.asks.length ca,.int .i64 s.on,.slice ac s.cases.length cc,.int .i64 s.els,.int .i64 s.fall,.bool false,.bool s.bad,.string s.give],.slice a ans.length cap] W fun e w'=> (∃g,e= .returned (.agg g.cells.toArray)∧Followed s ans g)∧K_ W w':=fun W hW=> by
  have h:=qfollow_any W s aa ac a ca cc cap ans hs (hA.kept hW) (hC.kept hW) hl hal (hS.kept hW) hon h20
  rw [hfin] at h
  exact h
 have HQ:=Kz hq
 clear hq hon h20
 have t1:=ta_qq
 go_enter Tryz.func194,Tryz.ntmps194
 go_wp2_with fail
 refine (unhide HQ _ (by repeat (first | apply K_.alloc | exact K_.refl _))).mono ?_
 rintro e w1 ⟨⟨g,rfl,hg⟩,k1⟩
 have hrow1:Row w1 w.heap.size 4:=Row.kept (Row.alloc (by have:=Row.made w #[.int .i64 0,.bool false,.int .i64 0,.string ⟨#[]⟩] 244;simpa using this) _) k1
 have K1:K_ w w1:=K_.trans (by repeat (first | apply K_.alloc | exact K_.refl _)) k1
 obtain ⟨c,o,t,x⟩:=g
 have HG:=Kz hg
 have HROW:=Kz hrow1
 clear hg hrow1
 obtain ⟨hc1,hf1⟩:=k1.rules
 have hz1:=k1.size
 simp only [World.size_alloc] at hz1
 clear k1
 have hcells: (GoneD.mk c o t x).cells.toArray= #[.int .i64 c,.bool o,.int .i64 t,.string x]:=rfl
 rw [hcells]
 clear hcells
 go_wp2
 have hR:=World.rangeAt_setCells_same w1 w.heap.size 0 (GoneD.mk c o t x).cells (HROW.out.there (o:=0) (m:=4) (Nat.le_refl _))
 exact X_ (GoneD.mk c o t x).cells _ Tryz.results194 rfl hR Tryz.underlying244 rfl Tryz.sizeGone rfl ⟨⟨_,rfl,HG.out⟩,K_.setCells (g:=w.heap.size) (by omega) (GoneD.mk c o t x).cells 0 K1⟩
theorem l1NameOk_any (w:World) (s:ByteArray) (hs:s.size<=maxLen):
  Calls Tryz.prog 44 #[.string s] w fun e w'=> Says e (NameOk s)∧w'=w:=by
 unfold maxLen at hs
 by_cases h1: (1:Int)<=s.size
 ·by_cases h2: (s.size:Int)<=20
  ·cases h3: (s.toList == [45])
   ·go_enter Tryz.func44,Tryz.ntmps44
    go_wp2
    go_loop [3] (fun i=> ∃k:Nat,k<=s.size∧i= .int .i64 k∧∀j (h:j < s.size),j < k->GoodByte s[j]) (fun i=> s.size - (intOf i).toNat)
    case atStart=> exact ⟨0,Nat.zero_le _,rfl,fun j _ hj=> absurd hj (Nat.not_lt_zero _)⟩
    case round=>
     obtain ⟨k,hk,rfl,hg⟩:=hrel
     have HG:=Kz hg
     clear hg
     by_cases hlt:k < s.size
     ·by_cases b1: (s[k].toNat:Int) < 33
      ·go_wp2
       go_ret
       exact ⟨Says.no fun h=> by have:=h.2.2.2 k hlt;unfold GoodByte at this;omega,rfl⟩
      ·by_cases b2:126 < (s[k].toNat:Int)
       ·go_wp2
        go_ret
        exact ⟨Says.no fun h=> by have:=h.2.2.2 k hlt;unfold GoodByte at this;omega,rfl⟩
       ·cases b3: ((s[k].toNat:Int) == 44)
        ·go_wp2
         go_round
         case rel=>
          refine ⟨k+1,by omega,by go_num,fun j hj hjk=> ?_⟩
          by_cases e:j=k
          ·subst e
           exact ⟨by omega,by omega,by simpa using b3⟩
          ·exact unhide HG j hj (by omega)
         case measure=> simp [intOf];omega
        ·go_wp2
         go_ret
         exact ⟨Says.no fun h=> by have:=h.2.2.2 k hlt;unfold GoodByte at this;simp at b3;omega,rfl⟩
     ·go_wp2
      go_ret
      exact ⟨Says.yes ⟨by omega,by omega,h3,fun j hj=> unhide HG j hj (by omega)⟩,rfl⟩
   ·go_enter Tryz.func44,Tryz.ntmps44
    go_wp2
    go_ret
    exact ⟨Says.no fun h=> by have:=h.2.2.1;simp [h3] at this,rfl⟩
  ·go_enter Tryz.func44,Tryz.ntmps44
   go_wp2
   go_ret
   exact ⟨Says.no fun h=> by have:=h.2.1;omega,rfl⟩
 ·go_enter Tryz.func44,Tryz.ntmps44
  go_wp2
  go_ret
  exact ⟨Says.no fun h=> by have:=h.1;omega,rfl⟩
theorem validName_any (w:World) (s:ByteArray) (hs:s.size<=maxLen):
  Calls Tryz.prog 109 #[.string s] w fun e w'=> Says e (NameOk s)∧K_ w w':=by
 unfold maxLen at hs
 by_cases h1: (1:Int)<=s.size
 ·by_cases h2: (s.size:Int)<=20
  ·cases h3: (s.toList == [45])
   ·obtain ⟨cap,C,fr,hconv,hcell⟩:=convBytes w s
    go_enter Tryz.func109,Tryz.ntmps109
    go_wp2
    clear hconv
    go_loopw [20] (fun i wr=> ∃k:Nat,k<=s.size∧i= .int .i64 k∧(∀j (h:j < s.size),j < k->GoodByte s[j])∧wr= (w.alloc (.cells C 5 fr)).drew) (fun i _=> s.size - (intOf i).toNat)
    case atStart=> exact ⟨0,Nat.zero_le _,rfl,fun j _ hj=> absurd hj (Nat.not_lt_zero _),rfl⟩
    case round=>
     obtain ⟨k,hk,rfl,hg,rfl⟩:=hrel
     have HG:=Kz hg
     clear hg
     by_cases hlt:k < s.size
     ·have hc:=hcell k hlt
      clear hcell
      by_cases b1: (s[k].toNat:Int) < 33
      ·go_wp2
       go_ret
       exact ⟨Says.no fun h=> by have:=h.2.2.2 k hlt;unfold GoodByte at this;omega,((K_.refl _).alloc _).drew⟩
      ·by_cases b2:126 < (s[k].toNat:Int)
       ·go_wp2
        go_ret
        exact ⟨Says.no fun h=> by have:=h.2.2.2 k hlt;unfold GoodByte at this;omega,((K_.refl _).alloc _).drew⟩
       ·cases b3: ((s[k].toNat:Int) == 44)
        ·go_wp2
         go_roundw
         case rel=>
          refine ⟨k+1,by omega,by go_num,fun j hj hjk=> ?_,by first | rfl | trivial⟩
          by_cases e:j=k
          ·subst e
           exact ⟨by omega,by omega,by simpa using b3⟩
          ·exact unhide HG j hj (by omega)
         case measure=> simp [intOf];omega
        ·go_wp2
         go_ret
         exact ⟨Says.no fun h=> by have:=h.2.2.2 k hlt;unfold GoodByte at this;simp at b3;omega,((K_.refl _).alloc _).drew⟩
     ·go_wp2
      go_ret
      exact ⟨Says.yes ⟨by omega,by omega,h3,fun j hj=> unhide HG j hj (by omega)⟩,((K_.refl _).alloc _).drew⟩
   ·go_enter Tryz.func109,Tryz.ntmps109
    go_wp2
    go_ret
    exact ⟨Says.no fun h=> by have:=h.2.2.1;simp [h3] at this,K_.refl _⟩
  ·go_enter Tryz.func109,Tryz.ntmps109
   go_wp2
   go_ret
   exact ⟨Says.no fun h=> by have:=h.2.1;omega,K_.refl _⟩
 ·go_enter Tryz.func109,Tryz.ntmps109
  go_wp2
  go_ret
  exact ⟨Says.no fun h=> by have:=h.1;omega,K_.refl _⟩
def Has (l:List ByteArray) (v:ByteArray):Prop:= ∃i,i < l.length∧l.getD i ByteArray.empty=v
theorem index_any (w:World) (a:Option Addr) (cap:Nat) (l:List ByteArray) (v:ByteArray) (hl:l.length<=maxLen) (hS:Strs w a l):
  Calls Tryz.prog 145 #[.slice a l.length cap,.string v] w fun e w'=> (∃r,e= .returned (.int .i64 r)∧(0<=r↔Has l v))∧w'=w:=by
 unfold maxLen at hl
 go_enter Tryz.func145,Tryz.ntmps145
 go_wp2
 go_loop [8] (fun i=> ∃k:Nat,k<=l.length∧i= .int .i64 k∧∀j,j < k->l.getD j ByteArray.empty≠v) (fun i=> l.length - (intOf i).toNat)
 case atStart=> exact ⟨0,Nat.zero_le _,rfl,fun j hj=> absurd hj (Nat.not_lt_zero _)⟩
 case round=>
  obtain ⟨k,hk,rfl,hg⟩:=hrel
  have HG:=Kz hg
  clear hg
  by_cases hlt:k < l.length
  ·obtain ⟨b,o,rfl,hb,hc⟩:=hS k hlt
   obtain ⟨s,hsk⟩: ∃s,s=l.getD k ByteArray.empty:= ⟨_,rfl⟩
   rw [<-hsk] at hc
   have HSK:=Kz hsk
   clear hsk
   cases hvs: (v.toList == s.toList)
   ·go_wp2
    go_round
    case rel=>
     refine ⟨k+1,by omega,by go_num,fun j hj=> ?_⟩
     by_cases e:j=k
     ·subst e
      rw [<-HSK.out]
      exact (bytes_ne hvs).symm
     ·exact unhide HG j (by omega)
    case measure=> simp [intOf];omega
   ·go_wp2
    go_ret
    exact ⟨⟨_,rfl,⟨fun _=> ⟨k,hlt,by rw [<-HSK.out];exact (bytes_eq.1 hvs).symm⟩,fun _=> by omega⟩⟩,rfl⟩
  ·go_wp2
   go_ret
   exact ⟨⟨_,rfl,⟨fun h=> by omega,fun ⟨i,hi,e⟩=> absurd e (unhide HG i (by omega))⟩⟩,rfl⟩
theorem contains_any (w:World) (a:Option Addr) (cap:Nat) (l:List ByteArray) (v:ByteArray) (hl:l.length<=maxLen) (hS:Strs w a l):
  Calls Tryz.prog 110 #[.slice a l.length cap,.string v] w fun e w'=> Says e (Has l v)∧w'=w:=by
 go_enter Tryz.func110,Tryz.ntmps110
 go_wp2_with fail
 refine (index_any _ a cap l v hl hS).mono ?_
 rintro e w1 ⟨⟨r,rfl,hr⟩,rfl⟩
 have HR:=Kz hr
 clear hr
 by_cases h0:0<=r
 ·have h1:decide (0<=r)=true:=by simpa using h0
  go_wp2
  go_ret
  exact ⟨Says.congr (p:=True) (Says.yes trivial) ⟨fun _=> HR.out.1 h0,fun _=> trivial⟩,rfl⟩
 ·have h1:decide (0<=r)=false:=by simpa using h0
  go_wp2
  go_ret
  exact ⟨Says.congr (p:=False) (Says.no id) ⟨False.elim,fun h=> by have:=HR.out.2 h;omega⟩,rfl⟩
theorem soundEnd_any (w:World) (asks:Nat) (on:Int) (cases:Nat) (els fall:Int) (fin bad:Bool) (give:ByteArray) (aa ac:Option Addr) (ca cc:Nat) (h1:asks<=maxLen) (h2:cases<=maxLen) (h3:give.size<=maxLen):
  Calls Tryz.prog 281 #[.agg #[.slice aa asks ca,.int .i64 on,.slice ac cases cc,.int .i64 els,.int .i64 fall,.bool fin,.bool bad,.string give]] w
   fun e w'=> Says e (asks=0∧on=0∧cases=0∧els=0∧fall=0∧give.size<=30)∧K_ w w':=by
 unfold maxLen at h1 h2 h3
 cases a1: ((asks:Int) == 0)
 ·go_enter Tryz.func281,Tryz.ntmps281
  go_wp2
  all_goals
   go_ret
   exact ⟨Says.no fun h=> by simp at a1;omega,(K_.refl _).alloc _⟩
 ·obtain rfl:asks=0:=by simp at a1;omega
  clear a1
  cases a2: (on == 0)
  ·go_enter Tryz.func281,Tryz.ntmps281
   go_wp2
   all_goals
    go_ret
    exact ⟨Says.no fun h=> by simp at a2;omega,(K_.refl _).alloc _⟩
  ·obtain rfl:on=0:=by simpa using a2
   clear a2
   cases a3: ((cases:Int) == 0)
   ·go_enter Tryz.func281,Tryz.ntmps281
    go_wp2
    go_ret
    exact ⟨Says.no fun h=> by simp at a3;omega,(K_.refl _).alloc _⟩
   ·obtain rfl:cases=0:=by simp at a3;omega
    clear a3
    cases a4: (els == 0)
    ·go_enter Tryz.func281,Tryz.ntmps281
     go_wp2
     go_ret
     exact ⟨Says.no fun h=> by simp at a4;omega,(K_.refl _).alloc _⟩
    ·obtain rfl:els=0:=by simpa using a4
     clear a4
     cases a5: (fall == 0)
     ·go_enter Tryz.func281,Tryz.ntmps281
      go_wp2
      go_ret
      exact ⟨Says.no fun h=> by simp at a5;omega,(K_.refl _).alloc _⟩
     ·obtain rfl:fall=0:=by simpa using a5
      clear a5
      by_cases a6: (give.size:Int)<=30
      ·go_enter Tryz.func281,Tryz.ntmps281
       go_wp2
       go_ret
       exact ⟨Says.yes (by simp;omega),(K_.refl _).alloc _⟩
      ·go_enter Tryz.func281,Tryz.ntmps281
       go_wp2
       go_ret
       exact ⟨Says.no fun h=> by omega,(K_.refl _).alloc _⟩
theorem Strs.take {w:World} {a:Option Addr} {l:List ByteArray} (h:Strs w a l) (k:Nat):Strs w a (l.take k):=by
 intro i hi
 have hi':i < l.length:=by simp at hi;omega
 have hk:i < k:=by simp at hi;omega
 obtain ⟨b,o,ha,hb,hc⟩:=h i hi'
 refine ⟨b,o,ha,hb, ?_⟩
 rw [hc]
 simp [List.getD,hk]
theorem has_take {l:List ByteArray} {k:Nat} (hk:k<=l.length) {v:ByteArray}:Has (l.take k) v↔∃i,i < k∧l.getD i ByteArray.empty=v:=by
 unfold Has
 constructor
 ·rintro ⟨i,hi,e⟩
  have hk':i < k:=by simp at hi;omega
  exact ⟨i,hk',by rw [<-e];simp [List.getD,hk']⟩
 ·rintro ⟨i,hi,e⟩
  exact ⟨i,by simp;omega,by rw [<-e];simp [List.getD,hi]⟩
theorem contains_take (w:World) (a:Option Addr) (cap k:Nat) (l:List ByteArray) (v:ByteArray) (hl:l.length<=maxLen) (hk:k<=l.length) (hS:Strs w a l):
  Calls Tryz.prog 110 #[.slice a k cap,.string v] w fun e w'=> Says e (∃i,i < k∧l.getD i ByteArray.empty=v)∧w'=w:=by
 have e: (l.take k).length=k:=by simp;omega
 have:=contains_any w a cap (l.take k) v (by rw [e];omega) (hS.take k)
 rw [e] at this
 exact this.mono fun e w' ⟨h,hw⟩=> ⟨h.congr (has_take hk),hw⟩
def AsksOk (s:Xj):Prop:=s.asks.length<=5∧NamesOk s.asks∧(s.on=0∨(0<=s.on∧s.on < s.asks.length))
def NameOkAt (l:List ByteArray) (j:Nat):Prop:=NameOk (l.getD j ByteArray.empty)∧∀m,m < j->l.getD m ByteArray.empty≠l.getD j ByteArray.empty
theorem soundAsks_any (w:World) (s:Xj) (aa ac:Option Addr) (ca cc:Nat) (hs:s.Fits) (hA:Strs w aa s.asks) (hca:s.asks.length<=ca):
  Calls Tryz.prog 277 #[.agg #[.slice aa s.asks.length ca,.int .i64 s.on,.slice ac s.cases.length cc,.int .i64 s.els,.int .i64 s.fall,.bool s.fin,.bool s.bad,.string s.give]] w fun e w'=> Says e (AsksOk s)∧K_ w w':=by
 have h1:=hs.asks
 unfold maxLen at h1
 have k0:K_ w (w.alloc (.cells #[.slice aa s.asks.length ca,.int .i64 s.on,.slice ac s.cases.length cc,.int .i64 s.els,.int .i64 s.fall,.bool s.fin,.bool s.bad,.string s.give] 270)):= (K_.refl _).alloc _
 by_cases a1: (s.asks.length:Int)<=5
 ·go_enter Tryz.func277,Tryz.ntmps277
  go_wp2
  go_loopw [14] (fun i wr=> ∃k:Nat,k<=s.asks.length∧i= .int .i64 k∧K_ (w.alloc (.cells #[.slice aa s.asks.length ca,.int .i64 s.on,.slice ac s.cases.length cc,.int .i64 s.els,.int .i64 s.fall,.bool s.fin,.bool s.bad,.string s.give] 270)) wr∧∀j,j < k->NameOkAt s.asks j) (fun i _=> s.asks.length - (intOf i).toNat)
  case atStart=> exact ⟨0,Nat.zero_le _,rfl,K_.refl _,fun j hj=> absurd hj (Nat.not_lt_zero _)⟩
  case round=>
   obtain ⟨k,hk,rfl,hw,hg⟩:=hrel
   have HG:=Kz hg
   clear hg
   have hz1:=hw.size
   simp only [World.size_alloc] at hz1
   by_cases hlt:k < s.asks.length
   ·obtain ⟨b,o,rfl,hb,hc⟩:= (hA.kept k0).kept hw k hlt
    have hsz: (s.asks.getD k ByteArray.empty).size<=maxLen:=hs.askEach _ (by simp [List.getD,hlt])
    obtain ⟨v,hvk⟩: ∃v,v=s.asks.getD k ByteArray.empty:= ⟨_,rfl⟩
    rw [<-hvk] at hc hsz
    have HVK:=Kz hvk
    clear hvk
    go_wp2_with fail
    refine (validName_any _ v hsz).mono ?_
    rintro e w1 ⟨hsay,hw1⟩
    have hw2:=hw.trans hw1
    have hA1:= (hA.kept k0).kept hw2
    clear hc hb
    rcases hsay.cases with ⟨rfl,hyes⟩ | ⟨rfl,hno⟩
    ·have HY:=Kz hyes
     clear hyes hsay hw hw1
     obtain ⟨hc1,hf1⟩:=hw2.rules
     have hkc:k<=ca:=by omega
     go_wp2_with fail
     refine (contains_take _ _ ca k s.asks v hs.asks (by omega) hA1).mono ?_
     rintro e w2 ⟨hsay,rfl⟩
     rcases hsay.cases with ⟨rfl,hyes⟩ | ⟨rfl,hno⟩
     ·have HN:=Kz hyes
      clear hyes hsay hA1 hc1 hf1
      go_wp2
      go_ret
      exact ⟨Says.no fun h=> by obtain ⟨i,hi,e⟩:=HN.out;exact (h.2.1 k hlt).2 i hi (by rw [e,HVK.out]),k0.trans hw2⟩
     ·have HN:=Kz hno
      clear hno hsay hA1 hc1 hf1
      go_wp2
      go_roundw
      case rel=>
       refine ⟨k+1,by omega,by go_num,hw2,fun j hj=> ?_⟩
       by_cases e:j=k
       ·subst e
        exact ⟨by rw [<-HVK.out];exact HY.out,fun m hm h=> HN.out ⟨m,hm,by rw [h,HVK.out]⟩⟩
       ·exact unhide HG j (by omega)
      case measure=> simp [intOf];omega
    ·have HN:=Kz hno
     clear hno hsay hw hw1
     go_wp2
     go_ret
     exact ⟨Says.no fun h=> HN.out (by rw [HVK.out];exact (h.2.1 k hlt).1),k0.trans hw2⟩
   ·obtain ⟨hc1,hf1⟩:=hw.rules
    have hnames:Hid (NamesOk s.asks):=fun j hj=> unhide HG j (by omega)
    clear HG
    go_wp2
    ·go_ret
     exact ⟨(Says.dec _).congr ⟨fun h=> ⟨by omega,hnames.out,by omega⟩,fun h=> by have:=h.2.2;omega⟩,k0.trans hw⟩
    ·go_ret
     exact ⟨(Says.dec _).congr ⟨fun h=> ⟨by omega,hnames.out,by omega⟩,fun h=> by have:=h.2.2;omega⟩,k0.trans hw⟩
    all_goals
     go_ret
     exact ⟨Says.no fun h=> by have:=h.2.2;omega,k0.trans hw⟩
 ·go_enter Tryz.func277,Tryz.ntmps277
  go_wp2
  go_ret
  exact ⟨Says.no fun h=> by have:=h.1;omega,k0⟩
def WaysOk (s:Xj) (n:Int):Prop:=s.cases.length<=5∧CasesOk s n∧(0<=s.els∧s.els < n)∧(-1<=s.fall∧s.fall < n)
theorem soundWays_any (w:World) (s:Xj) (aa ac:Option Addr) (ca cc:Nat) (n:Int) (hs:s.Fits) (hn:1<=n∧n<=20) (hC:Cases w ac s.cases):
  Calls Tryz.prog 278 #[.agg #[.slice aa s.asks.length ca,.int .i64 s.on,.slice ac s.cases.length cc,.int .i64 s.els,.int .i64 s.fall,.bool s.fin,.bool s.bad,.string s.give],.int .i64 n] w fun e w'=> Says e (WaysOk s n)∧K_ w w':=by
 have h1:=hs.cases
 unfold maxLen at h1
 obtain ⟨hn0,hn1⟩:=hn
 have k0:K_ w (w.alloc (.cells #[.slice aa s.asks.length ca,.int .i64 s.on,.slice ac s.cases.length cc,.int .i64 s.els,.int .i64 s.fall,.bool s.fin,.bool s.bad,.string s.give] 270)):= (K_.refl _).alloc _
 by_cases a1: (s.cases.length:Int)<=5
 ·go_enter Tryz.func278,Tryz.ntmps278
  go_wp2
  go_loopw [16] (fun i wr=> ∃k:Nat,k<=s.cases.length∧i= .int .i64 k∧K_ (w.alloc (.cells #[.slice aa s.asks.length ca,.int .i64 s.on,.slice ac s.cases.length cc,.int .i64 s.els,.int .i64 s.fall,.bool s.fin,.bool s.bad,.string s.give] 270)) wr∧∀j,j < k->CaseOkAt s n j) (fun i _=> s.cases.length - (intOf i).toNat)
  case atStart=> exact ⟨0,Nat.zero_le _,rfl,K_.refl _,fun j hj=> absurd hj (Nat.not_lt_zero _)⟩
  case round=>
   obtain ⟨k,hk,rfl,hw,hg⟩:=hrel
   have HG:=Kz hg
   clear hg
   have hz1:=hw.size
   simp only [World.size_alloc] at hz1
   by_cases hlt:k < s.cases.length
   ·obtain ⟨b,o,rfl,hb,hc⟩:= (hC.kept k0).kept hw k hlt
    have hce: (s.cases.getD k CaseD.zero).text.size<=maxLen:= (hs.caseEach _ (by simp [List.getD,hlt])).1
    obtain ⟨c,hck⟩: ∃c,c=s.cases.getD k CaseD.zero:= ⟨_,rfl⟩
    rw [<-hck] at hc hce
    have HCK:=Kz hck
    clear hck
    unfold maxLen at hce
    have c0:=hc 0 _ rfl
    have c1:=hc 1 _ rfl
    simp only [Nat.add_zero] at c0
    clear hc
    by_cases d1: (c.text.size:Int)<=200
    ·by_cases d2:0<=c.goto
     ·cases d3:decide (c.goto < n)
      ·have d3':n<=c.goto:=by simpa using d3
       go_wp2
       go_ret
       exact ⟨Says.no fun h=> by have:=h.2.1 k hlt;unfold CaseOkAt at this;rw [<-HCK.out] at this;obtain ⟨q1,q2,q3⟩:=this;omega,k0.trans (hw.alloc _)⟩
      ·have d3':c.goto < n:=by simpa using d3
       go_wp2
       go_roundw
       case rel=>
        refine ⟨k+1,by omega,by go_num,hw.alloc _,fun j hj=> ?_⟩
        by_cases e:j=k
        ·subst e
         unfold CaseOkAt
         rw [<-HCK.out]
         exact ⟨by omega,by omega,by omega⟩
        ·exact unhide HG j (by omega)
       case measure=> simp [intOf];omega
     ·go_wp2
      go_ret
      exact ⟨Says.no fun h=> by have:=h.2.1 k hlt;unfold CaseOkAt at this;rw [<-HCK.out] at this;obtain ⟨q1,q2,q3⟩:=this;omega,k0.trans (hw.alloc _)⟩
    ·go_wp2
     go_ret
     exact ⟨Says.no fun h=> by have:=h.2.1 k hlt;unfold CaseOkAt at this;rw [<-HCK.out] at this;obtain ⟨q1,q2,q3⟩:=this;omega,k0.trans (hw.alloc _)⟩
   ·obtain ⟨hc1,hf1⟩:=hw.rules
    have hcs:Hid (CasesOk s n):=fun j hj=> unhide HG j (by omega)
    clear HG
    by_cases b1:0<=s.els
    ·cases b2:decide (s.els < n)
     ·have b2':n<=s.els:=by simpa using b2
      go_wp2
      go_ret
      exact ⟨Says.no fun h=> by have:=h.2.2;omega,k0.trans hw⟩
     ·have b2':s.els < n:=by simpa using b2
      cases b3: (s.fall == -1)
      ·by_cases b4:0<=s.fall
       ·cases b5:decide (s.fall < n)
        ·have b5':n<=s.fall:=by simpa using b5
         go_wp2
         go_ret
         exact ⟨Says.no fun h=> by have:=h.2.2;omega,k0.trans hw⟩
        ·have b5':s.fall < n:=by simpa using b5
         go_wp2
         go_ret
         exact ⟨Says.yes ⟨by omega,hcs.out,⟨by omega,by omega⟩,⟨by omega,by omega⟩⟩,k0.trans hw⟩
       ·go_wp2
        go_ret
        exact ⟨Says.no fun h=> by have:=h.2.2;simp at b3;omega,k0.trans hw⟩
      ·go_wp2
       go_ret
       exact ⟨Says.yes ⟨by omega,hcs.out,⟨by omega,by omega⟩,by simp at b3;omega⟩,k0.trans hw⟩
    ·go_wp2
     go_ret
     exact ⟨Says.no fun h=> by have:=h.2.2;omega,k0.trans hw⟩
 ·go_enter Tryz.func278,Tryz.ntmps278
  go_wp2
  go_ret
  exact ⟨Says.no fun h=> by have:=h.1;omega,k0⟩
theorem questionSound_any (w:World) (s:Xj) (aa ac:Option Addr) (ca cc:Nat) (n:Int) (hs:s.Fits) (hn:1<=n∧n<=20) (hA:Strs w aa s.asks) (hC:Cases w ac s.cases) (hca:s.asks.length<=ca):
  Calls Tryz.prog 276 #[.agg #[.slice aa s.asks.length ca,.int .i64 s.on,.slice ac s.cases.length cc,.int .i64 s.els,.int .i64 s.fall,.bool s.fin,.bool s.bad,.string s.give],.int .i64 n] w fun e w'=> Says e (AskOk s n)∧K_ w w':=by
 have k0:K_ w (w.alloc (.cells #[.slice aa s.asks.length ca,.int .i64 s.on,.slice ac s.cases.length cc,.int .i64 s.els,.int .i64 s.fall,.bool s.fin,.bool s.bad,.string s.give] 270)):= (K_.refl _).alloc _
 have hgive:=empty_iff s.give
 have HGV:=Kz hgive
 clear hgive
 cases hbad:s.bad
 ·rw [hbad] at k0
  cases hg:s.give.toList.isEmpty
  ·go_enter Tryz.func276,Tryz.ntmps276
   go_wp2
   go_ret
   exact ⟨Says.no fun h=> by have:=HGV.out.2 h.1.2.1;simp [this] at hg,k0⟩
  ·have HE:Hid (s.give.size=0):=HGV.out.1 (List.isEmpty_iff.1 hg)
   go_enter Tryz.func276,Tryz.ntmps276
   go_wp2_with fail
   have hask:=soundAsks_any (w.alloc (.cells #[.slice aa s.asks.length ca,.int .i64 s.on,.slice ac s.cases.length cc,.int .i64 s.els,.int .i64 s.fall,.bool s.fin,.bool s.bad,.string s.give] 270)) s aa ac ca cc hs (hA.kept ((K_.refl _).alloc _)) hca
   rw [hbad] at hask
   refine hask.mono ?_
   clear hask
   rintro e w1 ⟨hsay,k1⟩
   have k2:=k0.trans k1
   rcases hsay.cases with ⟨rfl,hyes⟩ | ⟨rfl,hno⟩
   ·have HY:=Kz hyes
    clear hyes hsay
    obtain ⟨hc1,hf1⟩:=k1.rules
    have hz1:=k1.size
    simp only [World.size_alloc] at hz1
    clear k0 k1
    have hz:w.heap.size < w1.heap.size:=by omega
    go_wp2_with fail
    have hways:=soundWays_any w1 s aa ac ca cc n hs hn (hC.kept k2)
    rw [hbad] at hways
    refine hways.mono ?_
    clear hways
    rintro e w2 ⟨hsay,k3⟩
    have k4:=k2.trans k3
    rcases hsay.cases with ⟨rfl,hyes⟩ | ⟨rfl,hno⟩
    ·have HW:=Kz hyes
     clear hyes hsay hc1 hf1
     go_wp2
     go_ret
     exact ⟨Says.yes ⟨⟨hbad,HE.out,HY.out.1,HY.out.2.1,HW.out.1,HW.out.2.2.1,HW.out.2.2.2,HY.out.2.2⟩,HW.out.2.1⟩,k4⟩
    ·have HW:=Kz hno
     clear hno hsay hc1 hf1
     go_wp2
     go_ret
     exact ⟨Says.no fun h=> HW.out ⟨h.1.2.2.2.2.1,h.2,h.1.2.2.2.2.2.1,h.1.2.2.2.2.2.2.1⟩,k4⟩
   ·have HW:=Kz hno
    clear hno hsay k0 k1
    go_wp2
    go_ret
    exact ⟨Says.no fun h=> HW.out ⟨h.1.2.2.1,h.1.2.2.2.1,h.1.2.2.2.2.2.2.2⟩,k2⟩
 ·go_enter Tryz.func276,Tryz.ntmps276
  go_wp2
  go_ret
  exact ⟨Says.no fun h=> by have:=h.1.1;simp [hbad] at this,(K_.refl _).alloc _⟩
theorem goodSound_any (w:World) (s:Xj) (aa ac:Option Addr) (ca cc:Nat) (n:Int) (hs:s.Fits):
  Calls Tryz.prog 282 #[.agg #[.slice aa s.asks.length ca,.int .i64 s.on,.slice ac s.cases.length cc,.int .i64 s.els,.int .i64 s.fall,.bool s.fin,.bool s.bad,.string s.give],.int .i64 n] w fun e w'=> Says e (EndOk s)∧K_ w w':=by
 have k0:K_ w (w.alloc (.cells #[.slice aa s.asks.length ca,.int .i64 s.on,.slice ac s.cases.length cc,.int .i64 s.els,.int .i64 s.fall,.bool s.fin,.bool s.bad,.string s.give] 272)):= (K_.refl _).alloc _
 go_enter Tryz.func282,Tryz.ntmps282
 go_wp2_with fail
 refine (soundEnd_any _ s.asks.length s.on s.cases.length s.els s.fall s.fin s.bad s.give aa ac ca cc hs.asks hs.cases hs.give).mono ?_
 rintro e w1 ⟨⟨r,rfl,hr⟩,k1⟩
 have HR:=Kz hr
 have k2:=k0.trans k1
 clear hr k0 k1
 go_wp2
 go_ret
 exact ⟨⟨r,rfl,HR.out⟩,k2⟩
theorem badSound_any (w:World) (s:Xj) (aa ac:Option Addr) (ca cc:Nat) (n:Int) (hs:s.Fits):
  Calls Tryz.prog 280 #[.agg #[.slice aa s.asks.length ca,.int .i64 s.on,.slice ac s.cases.length cc,.int .i64 s.els,.int .i64 s.fall,.bool s.fin,.bool s.bad,.string s.give],.int .i64 n] w fun e w'=> Says e (EndOk s)∧K_ w w':=by
 have k0:K_ w (w.alloc (.cells #[.slice aa s.asks.length ca,.int .i64 s.on,.slice ac s.cases.length cc,.int .i64 s.els,.int .i64 s.fall,.bool s.fin,.bool s.bad,.string s.give] 271)):= (K_.refl _).alloc _
 go_enter Tryz.func280,Tryz.ntmps280
 go_wp2_with fail
 refine (soundEnd_any _ s.asks.length s.on s.cases.length s.els s.fall s.fin s.bad s.give aa ac ca cc hs.asks hs.cases hs.give).mono ?_
 rintro e w1 ⟨⟨r,rfl,hr⟩,k1⟩
 have HR:=Kz hr
 have k2:=k0.trans k1
 clear hr k0 k1
 go_wp2
 go_ret
 exact ⟨⟨r,rfl,HR.out⟩,k2⟩
theorem kindOf_ask (w:World) (s:Xj) (aa ac:Option Addr) (ca cc:Nat):
  Calls Tryz.prog 173 #[.agg #[.slice aa s.asks.length ca,.int .i64 s.on,.slice ac s.cases.length cc,.int .i64 s.els,.int .i64 s.fall,.bool false,.bool s.bad,.string s.give]] w fun e w'=> e= .returned (.iface 270 (.agg #[.slice aa s.asks.length ca,.int .i64 s.on,.slice ac s.cases.length cc,.int .i64 s.els,.int .i64 s.fall,.bool false,.bool s.bad,.string s.give]))∧K_ w w':=by
 go_enter Tryz.func173,Tryz.ntmps173
 go_wp2
 go_ret
 exact ⟨rfl,(K_.refl _).alloc _⟩
theorem kindOf_bad (w:World) (s:Xj) (aa ac:Option Addr) (ca cc:Nat):
  Calls Tryz.prog 173 #[.agg #[.slice aa s.asks.length ca,.int .i64 s.on,.slice ac s.cases.length cc,.int .i64 s.els,.int .i64 s.fall,.bool true,.bool true,.string s.give]] w fun e w'=> e= .returned (.iface 271 (.agg #[.slice aa s.asks.length ca,.int .i64 s.on,.slice ac s.cases.length cc,.int .i64 s.els,.int .i64 s.fall,.bool true,.bool true,.string s.give]))∧K_ w w':=by
 go_enter Tryz.func173,Tryz.ntmps173
 go_wp2
 go_ret
 exact ⟨rfl,(K_.refl _).alloc _⟩
theorem kindOf_good (w:World) (s:Xj) (aa ac:Option Addr) (ca cc:Nat):
  Calls Tryz.prog 173 #[.agg #[.slice aa s.asks.length ca,.int .i64 s.on,.slice ac s.cases.length cc,.int .i64 s.els,.int .i64 s.fall,.bool true,.bool false,.string s.give]] w fun e w'=> e= .returned (.iface 272 (.agg #[.slice aa s.asks.length ca,.int .i64 s.on,.slice ac s.cases.length cc,.int .i64 s.els,.int .i64 s.fall,.bool true,.bool false,.string s.give]))∧K_ w w':=by
 go_enter Tryz.func173,Tryz.ntmps173
 go_wp2
 go_ret
 exact ⟨rfl,(K_.refl _).alloc _⟩
theorem l1Names_any (w:World) (a:Option Addr) (cap:Nat) (l:List ByteArray) (hl:l.length<=maxLen) (hs: ∀s∈l,s.size<=maxLen) (hS:Strs w a l):
  Calls Tryz.prog 46 #[.slice a l.length cap] w fun e w'=> Says e (NamesOk l)∧K_ w w':=by
 unfold maxLen at hl
 go_enter Tryz.func46,Tryz.ntmps46
 go_wp2
 go_loopw [3] (fun i wr=> ∃k:Nat,k<=l.length∧i= .int .i64 k∧K_ w wr∧∀j,j < k->NameOk (l.getD j ByteArray.empty)∧∀m,m < j->l.getD m ByteArray.empty≠l.getD j ByteArray.empty) (fun i _=> l.length - (intOf i).toNat)
 case atStart=> exact ⟨0,Nat.zero_le _,rfl,K_.refl _,fun j hj=> absurd hj (Nat.not_lt_zero _)⟩
 case round=>
  obtain ⟨k,hk,rfl,hw,hg⟩:=hrel
  have HG:=Kz hg
  clear hg
  by_cases hlt:k < l.length
  ·obtain ⟨b,o,rfl,hb,hc⟩:=hS.kept hw k hlt
   have hsz: (l.getD k ByteArray.empty).size<=maxLen:=hs _ (by simp [List.getD,hlt])
   obtain ⟨s,hsk⟩: ∃s,s=l.getD k ByteArray.empty:= ⟨_,rfl⟩
   rw [<-hsk] at hc hsz
   have HSK:=Kz hsk
   clear hsk
   go_wp2_with fail
   refine (l1NameOk_any _ s hsz).mono ?_
   rintro e w1 ⟨hsay,rfl⟩
   rcases hsay.cases with ⟨rfl,hyes⟩ | ⟨rfl,hno⟩
   ·have HY:=Kz hyes
    clear hyes hsay
    go_wp2
    clear hc
    go_loopw [4] (fun m wr=> ∃q:Nat,q<=k∧m= .int .i64 q∧K_ w wr∧∀t,t < q->l.getD t ByteArray.empty≠s) (fun m _=> k - (intOf m).toNat)
    case atStart=> exact ⟨0,Nat.zero_le _,rfl,hw,fun j hj=> absurd hj (Nat.not_lt_zero _)⟩
    case round=>
     obtain ⟨q,hq,rfl,hw2,hd⟩:=hrel
     have HD:=Kz hd
     clear hd hw
     by_cases hqlt:q < k
     ·obtain ⟨b',o',e1,hb',hc'⟩:=hS.kept hw2 k hlt
      simp only [Option.some.injEq,Addr.mk.injEq,and_true] at e1
      obtain ⟨rfl,rfl⟩:=e1
      obtain ⟨b',o',e1,hb'',hd'⟩:=hS.kept hw2 q (by omega)
      simp only [Option.some.injEq,Addr.mk.injEq,and_true] at e1
      obtain ⟨rfl,rfl⟩:=e1
      rw [<-HSK.out] at hc'
      obtain ⟨t,htk⟩: ∃t,t=l.getD q ByteArray.empty:= ⟨_,rfl⟩
      rw [<-htk] at hd'
      have HTK:=Kz htk
      clear htk
      cases hts: (t.toList == s.toList)
      ·go_wp2
       go_region
       all_goals
        go_wp2
        go_roundw
        case rel=>
         refine ⟨q+1,by omega,by go_num,by repeat (first | apply K_.drew | exact hw2),fun j hj=> ?_⟩
         by_cases e:j=q
         ·subst e
          rw [<-HTK.out]
          exact bytes_ne hts
         ·exact unhide HD j (by omega)
        case measure=> simp [intOf];omega
      ·go_wp2
       go_region
       all_goals
        go_wp2
        go_ret
        exact ⟨Says.no fun h=> (h k hlt).2 q hqlt (by rw [<-HTK.out,<-HSK.out];exact bytes_eq.1 hts),by repeat (first | apply K_.drew | exact hw2)⟩
     ·go_wp2
      go_roundw
      case rel=>
       refine ⟨k+1,by omega,by go_num,hw2,fun j hj=> ?_⟩
       by_cases e:j=k
       ·subst e
        rw [<-HSK.out]
        exact ⟨HY.out,fun m hm=> unhide HD m (by omega)⟩
       ·exact unhide HG j (by omega)
      case measure=> simp [intOf];omega
   ·go_wp2
    go_ret
    exact ⟨Says.no fun h=> hno (by rw [HSK.out];exact (h k hlt).1),hw⟩
  ·go_wp2
   go_ret
   exact ⟨Says.yes fun j hj=> unhide HG j (by omega),hw⟩
theorem l1StepOk_end (w:World) (asks:Nat) (on:Int) (cases:Nat) (els fall:Int) (bad:Bool) (give:ByteArray) (aa ac:Option Addr) (ca cc:Nat) (n:Int) (h1:asks<=maxLen) (h2:cases<=maxLen) (h3:give.size<=maxLen):
  Calls Tryz.prog 96 #[.agg #[.slice aa asks ca,.int .i64 on,.slice ac cases cc,.int .i64 els,.int .i64 fall,.bool true,.bool bad,.string give],.int .i64 n] w
   fun e w'=> Says e (asks=0∧on=0∧cases=0∧els=0∧fall=0∧give.size<=30)∧K_ w w':=by
 unfold maxLen at h1 h2 h3
 have k0:K_ w (w.alloc (.cells #[.slice aa asks ca,.int .i64 on,.slice ac cases cc,.int .i64 els,.int .i64 fall,.bool true,.bool bad,.string give] 172)):= (K_.refl _).alloc _
 cases a1: ((asks:Int) == 0)
 ·go_enter Tryz.func96,Tryz.ntmps96
  go_wp2
  go_ret
  exact ⟨Says.no fun h=> by simp at a1;omega,k0⟩
 ·obtain rfl:asks=0:=by simp at a1;omega
  clear a1
  cases a2: (on == 0)
  ·go_enter Tryz.func96,Tryz.ntmps96
   go_wp2
   go_ret
   exact ⟨Says.no fun h=> by simp at a2;omega,k0⟩
  ·obtain rfl:on=0:=by simpa using a2
   clear a2
   cases a3: ((cases:Int) == 0)
   ·go_enter Tryz.func96,Tryz.ntmps96
    go_wp2
    go_ret
    exact ⟨Says.no fun h=> by simp at a3;omega,k0⟩
   ·obtain rfl:cases=0:=by simp at a3;omega
    clear a3
    cases a4: (els == 0)
    ·go_enter Tryz.func96,Tryz.ntmps96
     go_wp2
     go_ret
     exact ⟨Says.no fun h=> by simp at a4;omega,k0⟩
    ·obtain rfl:els=0:=by simpa using a4
     clear a4
     cases a5: (fall == 0)
     ·go_enter Tryz.func96,Tryz.ntmps96
      go_wp2
      go_ret
      exact ⟨Says.no fun h=> by simp at a5;omega,k0⟩
     ·obtain rfl:fall=0:=by simpa using a5
      clear a5
      by_cases a6: (give.size:Int)<=30
      ·go_enter Tryz.func96,Tryz.ntmps96
       go_wp2
       go_ret
       exact ⟨Says.yes (by simp;omega),k0⟩
      ·go_enter Tryz.func96,Tryz.ntmps96
       go_wp2
       go_ret
       exact ⟨Says.no fun h=> by omega,k0⟩
theorem l1StepOk_askNo (w:World) (s:Xj) (aa ac:Option Addr) (ca cc:Nat) (n:Int) (hs:s.Fits) (hn:0<=n∧n<=20)
  (hA:Strs w aa s.asks) (hC:Cases w ac s.cases) (hfin:s.fin=false) (hF:Hid (¬FrontOk s n)):
  Calls Tryz.prog 96 #[.agg #[.slice aa s.asks.length ca,.int .i64 s.on,.slice ac s.cases.length cc,.int .i64 s.els,.int .i64 s.fall,.bool s.fin,.bool s.bad,.string s.give],.int .i64 n] w
   fun e w'=> e= .returned (.bool false)∧K_ w w':=by
 rw [hfin]
 obtain ⟨hn0,hn1⟩:=hn
 have h1:=hs.asks
 have h2:=hs.cases
 have h3:=hs.give
 unfold maxLen at h1 h2 h3
 have hgive:=empty_iff s.give
 have HGV:=Kz hgive
 clear hgive
 cases hbad:s.bad
 ·have k0:K_ w (w.alloc (.cells #[.slice aa s.asks.length ca,.int .i64 s.on,.slice ac s.cases.length cc,.int .i64 s.els,.int .i64 s.fall,.bool false,.bool false,.string s.give] 172)):= (K_.refl _).alloc _
  go_enter Tryz.func96,Tryz.ntmps96
  go_wp2_with fail
  ·have HE:Hid (s.give.size=0):=HGV.out.1 (by assumption)
   refine (l1Names_any _ aa ca s.asks hs.asks hs.askEach (hA.kept k0)).mono ?_
   rintro e w1 ⟨hsay,k1⟩
   have k2:=k0.trans k1
   rcases hsay.cases with ⟨rfl,hyes⟩ | ⟨rfl,hno⟩
   ·have HY:=Kz hyes
    clear hyes hsay
    obtain ⟨hc1,hf1⟩:=k1.rules
    have hz1:=k1.size
    simp only [World.size_alloc] at hz1
    clear k0 k1
    have hC2:=hC.kept k2
    clear hC hA
    by_cases b1: (s.cases.length:Int)<=5
    ·by_cases b2:0<=s.els
     ·cases b3:decide (s.els<=n - 1)
      ·have b3':n - 1 < s.els:=by simpa using b3
       go_wp2
       go_ret
       exact ⟨rfl,k2⟩
      ·have b3':s.els<=n - 1:=by simpa using b3
       by_cases b4: -1<=s.fall
       ·cases b5:decide (s.fall<=n - 1)
        ·have b5':n - 1 < s.fall:=by simpa using b5
         go_wp2
         go_ret
         exact ⟨rfl,k2⟩
        ·have b5':s.fall<=n - 1:=by simpa using b5
         have hon: ¬(s.on=0∨(0<=s.on∧s.on < s.asks.length)):=fun hon=> hF.out ⟨hbad,HE.out,by omega,HY.out,by omega,⟨by omega,by omega⟩,⟨by omega,by omega⟩,hon⟩
         have ho: (s.on != 0)=true:=bne_iff_ne.2 (by omega)
         by_cases o1:0<=s.on
         ·have o2:s.asks.length - 1 < s.on:=by omega
          have o3:decide (s.on<=(s.asks.length:Int) - 1)=false:=by simp;omega
          clear hon
          go_wp2
          go_ret
          exact ⟨rfl,k2⟩
         ·clear hon
          go_wp2
          go_ret
          exact ⟨rfl,k2⟩
       ·go_wp2
        go_ret
        exact ⟨rfl,k2⟩
     ·go_wp2
      go_ret
      exact ⟨rfl,k2⟩
    ·go_wp2
     go_ret
     exact ⟨rfl,k2⟩
   ·clear hsay k0 k1
    go_wp2
    go_ret
    exact ⟨rfl,k2⟩
  ·go_ret
   exact ⟨rfl,k0⟩
  ·go_ret
   exact ⟨rfl,k0⟩
 ·go_enter Tryz.func96,Tryz.ntmps96
  go_wp2
  go_ret
  exact ⟨rfl,(K_.refl _).alloc _⟩
theorem l1StepOk_askYes (w:World) (s:Xj) (aa ac:Option Addr) (ca cc:Nat) (n:Int) (hs:s.Fits) (hn:0<=n∧n<=20)
  (hA:Strs w aa s.asks) (hC:Cases w ac s.cases) (hfin:s.fin=false) (hF:FrontOk s n):
  Calls Tryz.prog 96 #[.agg #[.slice aa s.asks.length ca,.int .i64 s.on,.slice ac s.cases.length cc,.int .i64 s.els,.int .i64 s.fall,.bool s.fin,.bool s.bad,.string s.give],.int .i64 n] w
   fun e w'=> Says e (CasesOk s n)∧K_ w w':=by
 rw [hfin]
 obtain ⟨hn0,hn1⟩:=hn
 have h1:=hs.asks
 have h2:=hs.cases
 have h3:=hs.give
 unfold maxLen at h1 h2 h3
 have hgive:=empty_iff s.give
 have HGV:=Kz hgive
 clear hgive
 obtain ⟨hbad,hgv,ha5,hnames,b1,⟨b2,b3⟩,⟨b4,b5⟩,hon⟩:=hF
 have hge:s.give.toList=[]:=HGV.out.2 hgv
 have HN:=Kz hnames
 rw [hbad]
 have k0:K_ w (w.alloc (.cells #[.slice aa s.asks.length ca,.int .i64 s.on,.slice ac s.cases.length cc,.int .i64 s.els,.int .i64 s.fall,.bool false,.bool false,.string s.give] 172)):= (K_.refl _).alloc _
 clear hgv hnames HGV
 have b3':s.els<=n - 1:=by omega
 have b5':s.fall<=n - 1:=by omega
 have HON:=Kz hon
 clear hon
 go_enter Tryz.func96,Tryz.ntmps96
 go_wp2_with fail
 refine (l1Names_any _ aa ca s.asks hs.asks hs.askEach (hA.kept k0)).mono ?_
 rintro e w1 ⟨hsay,k1⟩
 have k2:=k0.trans k1
 rcases hsay.cases with ⟨rfl,hyes⟩ | ⟨rfl,hno⟩
 ·clear hyes hsay
  obtain ⟨hc1,hf1⟩:=k1.rules
  have hz1:=k1.size
  simp only [World.size_alloc] at hz1
  clear k0 k1
  have hC2:=hC.kept k2
  clear hC hA
  by_cases hz:s.on=0
  ·have ho: (s.on != 0)=false:=by rw [hz];rfl
   clear hz
   go_wp2
   go_loop [5] (fun i=> ∃k:Nat,k<=s.cases.length∧i= .int .i64 k∧∀j,j < k->CaseOkAt s n j) (fun i=> s.cases.length - (intOf i).toNat)
   case atStart=> exact ⟨0,Nat.zero_le _,rfl,fun j hj=> absurd hj (Nat.not_lt_zero _)⟩
   case round=>
    obtain ⟨k,hk,rfl,hg⟩:=hrel
    have HG:=Kz hg
    clear hg
    by_cases hlt:k < s.cases.length
    ·obtain ⟨b,o,rfl,hb,hc⟩:=hC2 k hlt
     have hce: (s.cases.getD k CaseD.zero).text.size<=maxLen:= (hs.caseEach _ (by simp [List.getD,hlt])).1
     obtain ⟨c,hck⟩: ∃c,c=s.cases.getD k CaseD.zero:= ⟨_,rfl⟩
     rw [<-hck] at hc hce
     have HCK:=Kz hck
     clear hck
     unfold maxLen at hce
     have c0:=hc 0 _ rfl
     have c1:=hc 1 _ rfl
     simp only [Nat.add_zero] at c0
     clear hc
     by_cases d1: (c.text.size:Int)<=200
     ·by_cases d2:0<=c.goto
      ·cases d3:decide (c.goto<=n - 1)
       ·have d3':n - 1 < c.goto:=by simpa using d3
        go_wp2
        go_ret
        exact ⟨Says.no fun h=> by have:=h k hlt;unfold CaseOkAt at this;rw [<-HCK.out] at this;obtain ⟨q1,q2,q3⟩:=this;omega,k2⟩
       ·have d3':c.goto<=n - 1:=by simpa using d3
        go_wp2
        go_round
        case rel=>
         refine ⟨k+1,by omega,by go_num,fun j hj=> ?_⟩
         by_cases e:j=k
         ·subst e
          unfold CaseOkAt
          rw [<-HCK.out]
          exact ⟨by omega,by omega,by omega⟩
         ·exact unhide HG j (by omega)
        case measure=> simp [intOf];omega
      ·go_wp2
       go_ret
       exact ⟨Says.no fun h=> by have:=h k hlt;unfold CaseOkAt at this;rw [<-HCK.out] at this;obtain ⟨q1,q2,q3⟩:=this;omega,k2⟩
     ·go_wp2
      go_ret
      exact ⟨Says.no fun h=> by have:=h k hlt;unfold CaseOkAt at this;rw [<-HCK.out] at this;obtain ⟨q1,q2,q3⟩:=this;omega,k2⟩
    ·go_wp2
     go_ret
     exact ⟨Says.yes fun j hj=> unhide HG j (by omega),k2⟩
  ·have ho: (s.on != 0)=true:=bne_iff_ne.2 hz
   have o1:0<=s.on:=by have:=HON.out;omega
   have o3:s.on<=(s.asks.length:Int) - 1:=by have:=HON.out;omega
   clear hz
   go_wp2
   go_loop [5] (fun i=> ∃k:Nat,k<=s.cases.length∧i= .int .i64 k∧∀j,j < k->CaseOkAt s n j) (fun i=> s.cases.length - (intOf i).toNat)
   case atStart=> exact ⟨0,Nat.zero_le _,rfl,fun j hj=> absurd hj (Nat.not_lt_zero _)⟩
   case round=>
    obtain ⟨k,hk,rfl,hg⟩:=hrel
    have HG:=Kz hg
    clear hg
    by_cases hlt:k < s.cases.length
    ·obtain ⟨b,o,rfl,hb,hc⟩:=hC2 k hlt
     have hce: (s.cases.getD k CaseD.zero).text.size<=maxLen:= (hs.caseEach _ (by simp [List.getD,hlt])).1
     obtain ⟨c,hck⟩: ∃c,c=s.cases.getD k CaseD.zero:= ⟨_,rfl⟩
     rw [<-hck] at hc hce
     have HCK:=Kz hck
     clear hck
     unfold maxLen at hce
     have c0:=hc 0 _ rfl
     have c1:=hc 1 _ rfl
     simp only [Nat.add_zero] at c0
     clear hc
     by_cases d1: (c.text.size:Int)<=200
     ·by_cases d2:0<=c.goto
      ·cases d3:decide (c.goto<=n - 1)
       ·have d3':n - 1 < c.goto:=by simpa using d3
        go_wp2
        go_ret
        exact ⟨Says.no fun h=> by have:=h k hlt;unfold CaseOkAt at this;rw [<-HCK.out] at this;obtain ⟨q1,q2,q3⟩:=this;omega,k2⟩
       ·have d3':c.goto<=n - 1:=by simpa using d3
        go_wp2
        go_round
        case rel=>
         refine ⟨k+1,by omega,by go_num,fun j hj=> ?_⟩
         by_cases e:j=k
         ·subst e
          unfold CaseOkAt
          rw [<-HCK.out]
          exact ⟨by omega,by omega,by omega⟩
         ·exact unhide HG j (by omega)
        case measure=> simp [intOf];omega
      ·go_wp2
       go_ret
       exact ⟨Says.no fun h=> by have:=h k hlt;unfold CaseOkAt at this;rw [<-HCK.out] at this;obtain ⟨q1,q2,q3⟩:=this;omega,k2⟩
     ·go_wp2
      go_ret
      exact ⟨Says.no fun h=> by have:=h k hlt;unfold CaseOkAt at this;rw [<-HCK.out] at this;obtain ⟨q1,q2,q3⟩:=this;omega,k2⟩
    ·go_wp2
     go_ret
     exact ⟨Says.yes fun j hj=> unhide HG j (by omega),k2⟩
 ·exact absurd HN.out hno
theorem l1In_yes (w:World) (n lo hi:Int) (h1:lo<=n) (h2:n<=hi):
  Calls Tryz.prog 20 #[.int .i64 n,.int .i64 lo,.int .i64 hi] w fun e w'=> e= .returned (.bool true)∧w'=w:=by
 go_enter Tryz.func20,Tryz.ntmps20
 go_wp2
 go_ret
 exact ⟨rfl,rfl⟩
theorem l1StepOk_any (w:World) (s:Xj) (aa ac:Option Addr) (ca cc:Nat) (n:Int) (hs:s.Fits) (hn:0<=n∧n<=20)
  (hA:Strs w aa s.asks) (hC:Cases w ac s.cases):
  Calls Tryz.prog 96 #[.agg #[.slice aa s.asks.length ca,.int .i64 s.on,.slice ac s.cases.length cc,.int .i64 s.els,.int .i64 s.fall,.bool s.fin,.bool s.bad,.string s.give],.int .i64 n] w
   fun e w'=> Says e (StepOk s n)∧K_ w w':=by
 cases hfin:s.fin
 ·rw [<-hfin]
  by_cases hF:FrontOk s n
  ·refine (l1StepOk_askYes w s aa ac ca cc n hs hn hA hC hfin hF).mono ?_
   rintro e w' ⟨h,k⟩
   exact ⟨h.congr ⟨fun h=> ⟨fun e=> (by rw [hfin] at e;cases e),fun _=> ⟨hF,h⟩⟩,fun h=> (h.2 hfin).2⟩,k⟩
  ·refine (l1StepOk_askNo w s aa ac ca cc n hs hn hA hC hfin hF).mono ?_
   rintro e w' ⟨rfl,k⟩
   exact ⟨Says.no fun h=> hF (h.2 hfin).1,k⟩
 ·refine (l1StepOk_end w s.asks.length s.on s.cases.length s.els s.fall s.bad s.give aa ac ca cc n hs.asks hs.cases hs.give).mono ?_
  rintro e w' ⟨h,k⟩
  exact ⟨h.congr ⟨fun h=> ⟨fun _=> h,fun e=> (by rw [hfin] at e;cases e)⟩,fun h=> h.1 hfin⟩,k⟩
theorem specValidAction_any (w:World) (cost:Int) (a:Option Addr) (cap:Nat) (l:List Xj) (hl:l.length<=maxLen) (hs: ∀s∈l,s.Fits) (hS:Steps w a l):
  Calls Tryz.prog 45 #[.agg #[.int .i64 cost,.slice a l.length cap]] w fun e w'=> Says e (ActionOk ⟨cost,l⟩)∧K_ w w':=by
 unfold maxLen at hl
 have k0:K_ w (w.alloc (.cells #[.int .i64 cost,.slice a l.length cap] 88)):= (K_.refl _).alloc _
 by_cases a1:1<=cost
 ·by_cases a2:cost<=20
  ·by_cases a3: (1:Int)<=l.length
   ·by_cases a4: (l.length:Int)<=20
    ·go_enter Tryz.func45,Tryz.ntmps45
     go_wp2_with (go_at_call 20;refine (l1In_yes _ _ _ _ (by omega) (by omega)).mono ?_;rintro e w' ⟨rfl,rfl⟩)
     go_loopw [4] (fun i wr=> ∃k:Nat,k<=l.length∧i= .int .i64 k∧K_ (w.alloc (.cells #[.int .i64 cost,.slice a l.length cap] 88)) wr∧∀j,j < k->StepOk (l.getD j Xj.zero) l.length) (fun i _=> l.length - (intOf i).toNat)
     case atStart=> exact ⟨0,Nat.zero_le _,rfl,K_.refl _,fun j hj=> absurd hj (Nat.not_lt_zero _)⟩
     case round=>
      obtain ⟨k,hk,rfl,hw,hg⟩:=hrel
      have HG:=Kz hg
      clear hg
      obtain ⟨hc1,hf1⟩:=hw.rules
      have hz1:=hw.size
      simp only [World.size_alloc] at hz1
      by_cases hlt:k < l.length
      ·obtain ⟨b,o,cs,rfl,hb,hc,aa,ca,ac,cc,rfl,hA,hC,hca⟩:= (hS.kept k0).kept hw k hlt
       have hsz:=hs (l.getD k Xj.zero) (by simp [List.getD,hlt])
       obtain ⟨s,hsk⟩: ∃s,s=l.getD k Xj.zero:= ⟨_,rfl⟩
       rw [<-hsk] at hc hsz hA hC
       have HSK:=Kz hsk
       clear hsk
       have c0:=hc 0 _ rfl
       have c1:=hc 1 _ rfl
       have c2:=hc 2 _ rfl
       have c3:=hc 3 _ rfl
       have c4:=hc 4 _ rfl
       have c5:=hc 5 _ rfl
       have c6:=hc 6 _ rfl
       have c7:=hc 7 _ rfl
       simp only [Nat.add_zero] at c0
       clear hc
       go_wp2_with fail
       refine (l1StepOk_any _ s aa ac ca cc _ hsz ⟨by omega,by omega⟩ hA hC).mono ?_
       rintro e w1 ⟨hsay,hw1⟩
       have hw2:=hw.trans hw1
       clear c0 c1 c2 c3 c4 c5 c6 c7 hA hC hw hw1 hc1 hf1
       rcases hsay.cases with ⟨rfl,hyes⟩ | ⟨rfl,hno⟩
       ·have HY:=Kz hyes
        clear hyes hsay
        go_wp2
        go_roundw
        case rel=>
         refine ⟨k+1,by omega,by go_num,hw2,fun j hj=> ?_⟩
         by_cases e:j=k
         ·subst e
          rw [<-HSK.out]
          exact HY.out
         ·exact unhide HG j (by omega)
        case measure=> simp [intOf];omega
       ·have HN:=Kz hno
        clear hno hsay
        go_wp2
        go_ret
        exact ⟨Says.no fun h=> HN.out (by rw [HSK.out];exact h.2.2 k hlt),k0.trans hw2⟩
      ·go_wp2
       go_ret
       exact ⟨Says.yes ⟨⟨a1,a2⟩,⟨by show 1<=l.length;omega,by show l.length<=20;omega⟩,fun j (hj:j < l.length)=> unhide HG j (by omega)⟩,k0.trans hw⟩
    ·go_enter Tryz.func45,Tryz.ntmps45
     go_wp2
     go_ret
     exact ⟨Says.no fun h=> by have:=h.2.1.2;simp at this;omega,k0⟩
   ·go_enter Tryz.func45,Tryz.ntmps45
    go_wp2
    go_ret
    exact ⟨Says.no fun h=> by have:=h.2.1.1;simp at this;omega,k0⟩
  ·go_enter Tryz.func45,Tryz.ntmps45
   go_wp2
   go_ret
   exact ⟨Says.no fun h=> by have:=h.1.2;simp at this;omega,k0⟩
 ·go_enter Tryz.func45,Tryz.ntmps45
  go_wp2
  go_ret
  exact ⟨Says.no fun h=> by have:=h.1.1;simp at this;omega,k0⟩
def RootsOk (l:List ByteArray):Prop:=1<=l.length∧l.length<=10∧NamesOk l
theorem l1In_no (w:World) (n lo hi:Int) (h:n < lo∨hi < n):
  Calls Tryz.prog 20 #[.int .i64 n,.int .i64 lo,.int .i64 hi] w fun e w'=> e= .returned (.bool false)∧w'=w:=by
 by_cases h1:lo<=n
 ·have h2: ¬n<=hi:=by omega
  go_enter Tryz.func20,Tryz.ntmps20
  go_wp2
  go_ret
  exact ⟨rfl,rfl⟩
 ·go_enter Tryz.func20,Tryz.ntmps20
  go_wp2
  go_ret
  exact ⟨rfl,rfl⟩
theorem l3RootsOk_any (w:World) (a:Option Addr) (cap:Nat) (l:List ByteArray) (hl:l.length<=maxLen) (hs: ∀s∈l,s.size<=maxLen) (hS:Strs w a l):
  Calls Tryz.prog 19 #[.slice a l.length cap] w fun e w'=> Says e (RootsOk l)∧K_ w w':=by
 by_cases h:1<=l.length∧l.length<=10
 ·go_enter Tryz.func19,Tryz.ntmps19
  go_wp2_with (go_at_call 20;refine (l1In_yes _ _ _ _ (by omega) (by omega)).mono ?_;rintro e w' ⟨rfl,rfl⟩)
  refine (l1Names_any _ a cap l hl hs hS).mono ?_
  rintro e w1 ⟨hsay,k1⟩
  rcases hsay.cases with ⟨rfl,hyes⟩ | ⟨rfl,hno⟩
  ·have HY:=Kz hyes
   clear hyes hsay
   go_wp2
   go_ret
   exact ⟨Says.yes ⟨h.1,h.2,HY.out⟩,k1⟩
  ·have HY:=Kz hno
   clear hno hsay
   go_wp2
   go_ret
   exact ⟨Says.no fun g=> HY.out g.2.2,k1⟩
 ·go_enter Tryz.func19,Tryz.ntmps19
  go_wp2_with (go_at_call 20;refine (l1In_no _ _ _ _ (by omega)).mono ?_;rintro e w' ⟨rfl,rfl⟩)
  go_ret
  exact ⟨Says.no fun g=> h ⟨g.1,g.2.1⟩,K_.refl _⟩
theorem validRoots_any (w:World) (a:Option Addr) (cap:Nat) (l:List ByteArray) (hl:l.length<=maxLen) (hcap:l.length<=cap) (hs: ∀s∈l,s.size<=maxLen) (hS:Strs w a l):
  Calls Tryz.prog 61 #[.slice a l.length cap] w fun e w'=> Says e (RootsOk l)∧K_ w w':=by
 have hl':=hl
 unfold maxLen at hl'
 by_cases h1: (l.length:Int) < 1
 ·go_enter Tryz.func61,Tryz.ntmps61
  go_wp2
  go_ret
  exact ⟨Says.no fun g=> by have:=g.1;omega,K_.refl _⟩
 ·by_cases h2: (10:Int) < l.length
  ·go_enter Tryz.func61,Tryz.ntmps61
   go_wp2
   go_ret
   exact ⟨Says.no fun g=> by have:=g.2.1;omega,K_.refl _⟩
  ·have hb1:decide ((l.length:Int) < 1)=false:=by simpa using h1
   have hb2:decide ((10:Int) < l.length)=false:=by simpa using h2
   go_enter Tryz.func61,Tryz.ntmps61
   go_wp2
   clear hb1 hb2
   go_loopw [15] (fun i wr=> ∃k:Nat,k<=l.length∧i= .int .i64 k∧K_ w wr∧∀j,j < k->NameOkAt l j) (fun i _=> l.length - (intOf i).toNat)
   case atStart=> exact ⟨0,Nat.zero_le _,rfl,K_.refl _,fun j hj=> absurd hj (Nat.not_lt_zero _)⟩
   case round=>
    obtain ⟨k,hk,rfl,hw,hg⟩:=hrel
    have HG:=Kz hg
    clear hg
    by_cases hlt:k < l.length
    ·obtain ⟨b,o,rfl,hb,hc⟩:=hS.kept hw k hlt
     have hsz: (l.getD k ByteArray.empty).size<=maxLen:=hs _ (by simp [List.getD,hlt])
     obtain ⟨v,hvk⟩: ∃v,v=l.getD k ByteArray.empty:= ⟨_,rfl⟩
     rw [<-hvk] at hc hsz
     have HVK:=Kz hvk
     clear hvk
     go_wp2_with fail
     refine (validName_any _ v hsz).mono ?_
     rintro e w1 ⟨hsay,hw1⟩
     have hw2:=hw.trans hw1
     have hA1:=hS.kept hw2
     clear hc hb
     rcases hsay.cases with ⟨rfl,hyes⟩ | ⟨rfl,hno⟩
     ·have HY:=Kz hyes
      clear hyes hsay hw hw1
      have hkc:k<=cap:=by omega
      go_wp2_with fail
      refine (contains_take _ _ cap k l v hl (by omega) hA1).mono ?_
      rintro e w2 ⟨hsay,rfl⟩
      rcases hsay.cases with ⟨rfl,hyes⟩ | ⟨rfl,hno⟩
      ·have HN:=Kz hyes
       clear hyes hsay hA1
       go_wp2
       go_ret
       exact ⟨Says.no fun h=> by obtain ⟨i,hi,e⟩:=HN.out;exact (h.2.2 k hlt).2 i hi (by rw [e,HVK.out]),hw2⟩
      ·have HN:=Kz hno
       clear hno hsay hA1
       go_wp2
       go_roundw
       case rel=>
        refine ⟨k+1,by omega,by go_num,hw2,fun j hj=> ?_⟩
        by_cases e:j=k
        ·subst e
         exact ⟨by rw [<-HVK.out];exact HY.out,fun m hm h=> HN.out ⟨m,hm,by rw [h,HVK.out]⟩⟩
        ·exact unhide HG j (by omega)
       case measure=> simp [intOf];omega
     ·have HN:=Kz hno
      clear hno hsay hw hw1
      go_wp2
      go_ret
      exact ⟨Says.no fun h=> HN.out (by rw [HVK.out];exact (h.2.2 k hlt).1),hw2⟩
    ·go_wp2
     go_ret
     exact ⟨Says.yes ⟨by omega,by omega,fun j hj=> unhide HG j (by omega)⟩,hw⟩
