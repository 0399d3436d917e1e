import Derived.Test.YtgnkgfjmbmcfcaaGreatDoorKWCheck4
import Derived.Deep.RegionHeld
set_option maxRecDepth 100000
set_option maxHeartbeats 25600000
namespace Go.Proofs.YtgnkgfjmbmcfcaaGreatDoor
open Go.RowKit
theorem nodeName_any (w:World) (x y z:Value) (s:ByteArray) (hx:x= .string s):
  Calls Tryz.prog 111 #[.agg #[x,y,z]] w fun e w'=> e= .returned (.string s)∧K_ w w':=by
 subst hx
 go_enter Tryz.func111,Tryz.ntmps111
 go_wp2
 go_ret
 exact ⟨rfl,(K_.refl _).alloc _⟩
theorem boxCells2 {w wi:World} {x y:Value} {t:TypeId} (K:K_ (w.alloc (.cells #[x,y] t)) wi):wi.cell? ⟨w.heap.size,0,none⟩=some x∧wi.cell? ⟨w.heap.size,1,none⟩=some y:=by
 constructor
 ·rw [K.cell (by simp)];simp
 ·rw [K.cell (by simp)];simp
theorem wrap_i64_in {m:Int} (h1: -9223372036854775808<=m) (h2:m<=9223372036854775807):IntKind.i64.wrap m=m:=by
 simp only [IntKind.wrap,IntKind.signed,IntKind.bits]
 first | omega | (simp;omega)
theorem ascending_any (w:World) (a:Option Addr) (cap:Nat) (l:List Qq) (hl:l.length<=maxLen) (hS:Nodes w a l):
  Calls Tryz.prog 107 #[.agg #[.slice a l.length cap,.func (.func 111) #[] #[]]] w fun e w'=> Says e (¬SomeFalls l)∧K_ w w':=by
 unfold maxLen at hl
 have k0:K_ w (w.alloc (.cells #[.slice a l.length cap,.func (.func 111) #[] #[]] 120)):= (K_.refl _).alloc _
 go_enter Tryz.func107,Tryz.ntmps107
 go_wp2
 go_loopw [3] (fun i wr=> ∃n:Nat,1<=n∧n<=l.length+1∧i= .int .i64 n∧K_ (w.alloc (.cells #[.slice a l.length cap,.func (.func 111) #[] #[]] 120)) wr∧RisesTo l n) (fun i _=> l.length+2 - (intOf i).toNat)
 case atStart=> exact ⟨1,by omega,by omega,rfl,K_.refl _,fun j hj=> absurd hj (by omega)⟩
 case round=>
  obtain ⟨n,hn1,hn2,rfl,hw,hg⟩:=hrel
  have HG:=Kz hg
  clear hg
  have hz1:=hw.size
  simp only [World.size_alloc] at hz1
  have z0:w.heap.size < wr.heap.size:=by omega
  obtain ⟨p0,p1⟩:=boxCells2 hw
  by_cases hlt:n < l.length
  ·have k1:K_ w wr:=k0.trans hw
   obtain ⟨b,o,cs,rfl,hb,hc,aa,ca,rfl,hA⟩:=hS.kept k1 (n - 1) (by omega)
   obtain ⟨b',o',cs',e',hb',hc',ba,da,rfl,hA'⟩:=hS.kept k1 n hlt
   simp only [Option.some.injEq,Addr.mk.injEq,and_true] at e'
   obtain ⟨rfl,rfl⟩:=e'
   obtain ⟨x,hxk⟩: ∃x,x= (l.getD (n - 1) Qq.zero):= ⟨_,rfl⟩
   obtain ⟨y,hyk⟩: ∃y,y= (l.getD n Qq.zero):= ⟨_,rfl⟩
   rw [<-hxk] at hc
   rw [<-hyk] at hc'
   have HX:Hid (l.getD (n - 1) Qq.zero=x):=hxk.symm
   have HYK:Hid (l.getD (n - 1+1) Qq.zero=y):=by rw [hyk,show n - 1+1=n by omega];exact rfl
   clear hxk hyk hA hA'
   have c0:=hc 0 _ rfl
   have c1:=hc 1 _ rfl
   have c2:=hc 2 _ rfl
   have d0:=hc' 0 _ rfl
   have d1:=hc' 1 _ rfl
   have d2:=hc' 2 _ rfl
   simp only [Nat.add_zero] at c0 d0
   clear hc hc'
   have i0: (0:Int)<=(n:Int) - 1:=by omega
   have i1: (n:Int) - 1 < (l.length:Int):=by omega
   have i2: (n:Int) < (l.length:Int):=by omega
   have i5: (1:Int)<=(n:Int):=by omega
   have i6: (n:Int)<=(l.length:Int):=by omega
   have i7:n<=l.length:=by omega
   have i3: ((n:Int) - 1).toNat=n - 1:=by omega
   have i4:IntKind.i64.wrap ((n:Int) - 1)= (n:Int) - 1:=wrap_i64_in (by omega) (by omega)
   have hSof: ∀w',K_ wr w'->(fun w'=> w'.cell? ⟨b,o+ (n - 1) * 3,none⟩=some (.string x.name)∧w'.cell? ⟨b,o+ (n - 1) * 3+1,none⟩=some (.int .i64 x.cost)∧w'.cell? ⟨b,o+ (n - 1) * 3+2,none⟩=some (.slice aa x.steps.length ca)∧w'.cell? ⟨b,o+n * 3,none⟩=some (.string y.name)∧w'.cell? ⟨b,o+n * 3+1,none⟩=some (.int .i64 y.cost)∧w'.cell? ⟨b,o+n * 3+2,none⟩=some (.slice ba y.steps.length da)∧w'.cell? ⟨w.heap.size,0,none⟩=some (.slice (some ⟨b,o,none⟩) l.length cap)∧w'.cell? ⟨w.heap.size,1,none⟩=some (.func (.func 111) #[] #[])) w':=fun w' kk=> ⟨(K_.cell kk hb).trans c0,(K_.cell kk hb).trans c1,(K_.cell kk hb).trans c2,(K_.cell kk hb).trans d0,(K_.cell kk hb).trans d1,(K_.cell kk hb).trans d2,(K_.cell kk z0).trans p0,(K_.cell kk z0).trans p1⟩
   have Zz:=Kz hSof
   clear hSof
   cases hbl:Op.bytesLess x.name.toList y.name.toList
   ·go_wp2
    go_region_held (fun w'=> w'.cell? ⟨b,o+ (n - 1) * 3,none⟩=some (.string x.name)∧w'.cell? ⟨b,o+ (n - 1) * 3+1,none⟩=some (.int .i64 x.cost)∧w'.cell? ⟨b,o+ (n - 1) * 3+2,none⟩=some (.slice aa x.steps.length ca)∧w'.cell? ⟨b,o+n * 3,none⟩=some (.string y.name)∧w'.cell? ⟨b,o+n * 3+1,none⟩=some (.int .i64 y.cost)∧w'.cell? ⟨b,o+n * 3+2,none⟩=some (.slice ba y.steps.length da)∧w'.cell? ⟨w.heap.size,0,none⟩=some (.slice (some ⟨b,o,none⟩) l.length cap)∧w'.cell? ⟨w.heap.size,1,none⟩=some (.func (.func 111) #[] #[])) (exact unhide Zz _ (by repeat (first | apply K_.drew | exact K_.refl _ | assumption))) ((go_at_call 111;refine (nodeName_any _ _ _ _ _ rfl).mono ?_;rintro e w1 ⟨rfl,hw1⟩;have kk:K_ wr w1:=K_.trans (by repeat (first | apply K_.drew | exact K_.refl _ | assumption)) hw1))
    all_goals
     have kf:=hw.trans kk
     go_wp2
     go_ret
     exact ⟨Says.no fun h=> h ⟨n - 1,by omega,by unfold FallsAt;rw [HX.out,HYK.out];exact hbl⟩,k0.trans (by repeat (first | apply K_.drew | exact kf))⟩
   ·go_wp2
    go_region_held (fun w'=> w'.cell? ⟨b,o+ (n - 1) * 3,none⟩=some (.string x.name)∧w'.cell? ⟨b,o+ (n - 1) * 3+1,none⟩=some (.int .i64 x.cost)∧w'.cell? ⟨b,o+ (n - 1) * 3+2,none⟩=some (.slice aa x.steps.length ca)∧w'.cell? ⟨b,o+n * 3,none⟩=some (.string y.name)∧w'.cell? ⟨b,o+n * 3+1,none⟩=some (.int .i64 y.cost)∧w'.cell? ⟨b,o+n * 3+2,none⟩=some (.slice ba y.steps.length da)∧w'.cell? ⟨w.heap.size,0,none⟩=some (.slice (some ⟨b,o,none⟩) l.length cap)∧w'.cell? ⟨w.heap.size,1,none⟩=some (.func (.func 111) #[] #[])) (exact unhide Zz _ (by repeat (first | apply K_.drew | exact K_.refl _ | assumption))) ((go_at_call 111;refine (nodeName_any _ _ _ _ _ rfl).mono ?_;rintro e w1 ⟨rfl,hw1⟩;have kk:K_ wr w1:=K_.trans (by repeat (first | apply K_.drew | exact K_.refl _ | assumption)) hw1))
    all_goals
     have kf:=hw.trans kk
     go_wp2
     go_roundw
     case rel=>
      refine ⟨n+1,by omega,by omega,by go_num,by repeat (first | apply K_.drew | exact kf),fun j hj=> ?_⟩
      by_cases e:j=n - 1
      ·subst e
       unfold FallsAt
       rw [HX.out,HYK.out,hbl]
       simp
      ·exact HG.out j (by omega)
     case measure=> simp [intOf];omega
  ·go_wp2
   go_ret
   exact ⟨Says.yes fun ⟨i,hi,h⟩=> HG.out i (by omega) h,k0.trans hw⟩
theorem ascSaid :AscSaid:=fun w a cap l hl hS=> ascending_any w a cap l hl hS
def cmpD (x y:List UInt8):Int:=if Op.bytesLess x y=true then -1 else if x=y then 0 else 1
theorem compare_any (w:World) (x y:ByteArray):Calls Tryz.prog 148 #[.string x,.string y] w fun e w'=> e= .returned (.int .i64 (cmpD x.toList y.toList))∧w'=w:=by
 cases h1:Op.bytesLess x.toList y.toList
 ·cases h2: (x.toList == y.toList)
  ·go_enter Tryz.func148,Tryz.ntmps148
   go_wp2
   go_ret
   exact ⟨ret_int (by unfold cmpD;rw [if_neg (by rw [h1];simp),if_neg (by simpa using h2)]),rfl⟩
  ·go_enter Tryz.func148,Tryz.ntmps148
   go_wp2
   go_ret
   exact ⟨ret_int (by unfold cmpD;rw [if_neg (by rw [h1];simp),if_pos (by simpa using h2)]),rfl⟩
 ·go_enter Tryz.func148,Tryz.ntmps148
  go_wp2
  go_ret
  exact ⟨ret_int (by unfold cmpD;rw [if_pos h1]),rfl⟩
theorem findLit_any (w:World) (g:Nat) (d:Qq) (a:Option Addr) (cap:Nat) (key:ByteArray) (hg:g < w.heap.size) (hc:w.cell? ⟨g,1,none⟩=some (.func (.func 111) #[] #[])):
  Calls Tryz.prog 147 #[.agg #[.string d.name,.int .i64 d.cost,.slice a d.steps.length cap],.string key,.pointer (some ⟨g,0,none⟩)] w fun e w'=> e= .returned (.int .i64 (cmpD d.name.toList key.toList))∧K_ w w':=by
 go_enter Tryz.func147,Tryz.ntmps147
 go_wp2_with fail
 refine (nodeName_any _ _ _ _ d.name rfl).mono ?_
 rintro e w1 ⟨rfl,k1⟩
 have K1:K_ w w1:=K_.trans (by repeat (first | apply K_.alloc | exact K_.refl _)) k1
 clear k1
 go_wp2_with fail
 refine (compare_any _ d.name key).mono ?_
 rintro e w2 ⟨rfl,rfl⟩
 go_wp2
 go_ret
 exact ⟨rfl,K1⟩
theorem cmpD_neg {x y:List UInt8}:cmpD x y < 0↔Op.bytesLess x y=true:=by
 unfold cmpD
 by_cases h:Op.bytesLess x y=true
 ·rw [if_pos h];exact ⟨fun _=> h,fun _=> by omega⟩
 ·rw [if_neg h]
  refine ⟨fun g=> ?_,fun g=> absurd g h⟩
  split at g <;> omega
theorem cmpD_zero {x y:List UInt8}:cmpD x y=0↔x=y:=by
 unfold cmpD
 by_cases h:Op.bytesLess x y=true
 ·rw [if_pos h]
  refine ⟨fun g=> by omega,fun g=> ?_⟩
  rw [g,less_irrefl] at h
  cases h
 ·rw [if_neg h]
  by_cases e:x=y
  ·rw [if_pos e];exact ⟨fun _=> e,fun _=> rfl⟩
  ·rw [if_neg e];exact ⟨fun g=> by omega,fun g=> absurd g e⟩
def Found (l:List Qq) (key:List UInt8) (e:Ending):Prop:= ∃(p:Nat) (f:Bool),e= .returned (.tuple #[.int .i64 p,.bool f])∧Place l key p∧(f=true↔p < l.length∧nameAt l p=key)
theorem Found.mk {l:List Qq} {key:List UInt8} {e:Ending} (p:Nat) (f:Bool) (h1:e= .returned (.tuple #[.int .i64 p,.bool f])) (h2:Place l key p) (h3:f=true↔p < l.length∧nameAt l p=key):Found l key e:= ⟨p,f,h1,h2,h3⟩
theorem search_any (w:World) (g:Nat) (a:Option Addr) (cap:Nat) (l:List Qq) (key:ByteArray) (hl:l.length<=1048576) (hr:Rises l) (hg:g < w.heap.size) (hc:w.cell? ⟨g,1,none⟩=some (.func (.func 111) #[] #[])) (hS:Nodes w a l):
  Calls Tryz.prog 146 #[.slice a l.length cap,.string key,.func (.func 147) #[] #[.pointer (some ⟨g,0,none⟩)]] w
   fun e w'=> Found l key.toList e∧K_ w w':=by
 have HRi:=Kz hr
 clear hr
 go_enter Tryz.func146,Tryz.ntmps146
 go_wp2
 go_loopw [9,10] (fun x y wr=> ∃i j:Nat,x= .int .i64 i∧y= .int .i64 j∧i<=j∧j<=l.length∧(∀t,t < i->Op.bytesLess (nameAt l t) key.toList=true)∧(∀t,j<=t->t < l.length->Op.bytesLess (nameAt l t) key.toList=false)∧K_ w wr) (fun x y _=> (intOf y).toNat - (intOf x).toNat)
 case atStart=> exact ⟨0,l.length,rfl,rfl,Nat.zero_le _,Nat.le_refl _,fun t ht=> absurd ht (Nat.not_lt_zero _),fun t h1 h2=> by omega,K_.refl _⟩
 case round=>
  obtain ⟨i,j,rfl,rfl,hij,hjn,hbe,hbh,hw⟩:=hrel
  have HB:=Kz (And.intro hbe hbh)
  clear hbe hbh
  by_cases hlt: (i:Int) < j
  ·obtain ⟨h,hh⟩: ∃h:Nat,h= (i+j) / 2:= ⟨_,rfl⟩
   have hhlt:h < l.length:=by omega
   have hhi:i<=h:=by omega
   have hhj:h < j:=by omega
   obtain ⟨b,o,cs,rfl,hb,hcs,aa,ca,rfl,hA⟩:=hS.kept hw h hhlt
   obtain ⟨d,hd⟩: ∃d,d=l.getD h Qq.zero:= ⟨_,rfl⟩
   rw [<-hd] at hcs
   have HD:=Kz hd
   clear hd hA
   have c0:=hcs 0 _ rfl
   have c1:=hcs 1 _ rfl
   have c2:=hcs 2 _ rfl
   simp only [Nat.add_zero] at c0
   clear hcs
   have hmid: ((i:Int)+ (j:Int)) / 2= (h:Int):=by omega
   have HH:=Kz hh
   clear hh
   have hg':g < wr.heap.size:=Nat.lt_of_lt_of_le hg hw.size
   have hc':wr.cell? ⟨g,1,none⟩=some (.func (.func 111) #[] #[]):=by rw [hw.cell hg];exact hc
   go_wp2_with fail
   refine (findLit_any _ g d aa ca key hg' hc').mono ?_
   rintro e w1 ⟨rfl,k1⟩
   have hnm:nameAt l h=d.name.toList:=by unfold nameAt;rw [<-HD.out]
   have HC:Hid (cmpD d.name.toList key.toList < 0↔Op.bytesLess (nameAt l h) key.toList=true):=by rw [hnm];exact cmpD_neg
   clear c0 c1 c2 hnm
   generalize cmpD d.name.toList key.toList=r at *
   have hw1:=hw.trans k1
   clear hw k1
   by_cases hneg:r < 0
   ·go_wp2
    go_roundw
    case rel=>
     obtain ⟨hbe,hbh⟩:=HB.out
     refine ⟨h+1,j,by go_num,rfl,by omega,hjn,fun t ht=> ?_,hbh,hw1⟩
     have hle:=HC.out.1 hneg
     by_cases e:t=h
     ·subst e;exact hle
     ·exact less_trans _ _ _ (HRi.out t h (by omega) hhlt) hle
    case measure=> simp [intOf];omega
   ·go_wp2
    go_roundw
    case rel=>
     obtain ⟨hbe,hbh⟩:=HB.out
     refine ⟨i,h,rfl,by go_num,hhi,by omega,hbe,fun t h1 h2=> ?_,hw1⟩
     have hle:Op.bytesLess (nameAt l h) key.toList=false:=by
      cases hq:Op.bytesLess (nameAt l h) key.toList
      ·rfl
      ·have:=HC.out.2 hq
       omega
     by_cases e:t=h
     ·subst e;exact hle
     ·cases hq:Op.bytesLess (nameAt l t) key.toList
      ·rfl
      ·rw [less_trans _ _ _ (HRi.out h t (by omega) h2) hq] at hle
       cases hle
    case measure=> simp [intOf];omega
  ·have hij':i=j:=by omega
   subst hij'
   have HPl:Hid (Place l key.toList i):= ⟨hjn,HB.out.1,HB.out.2⟩
   clear HB
   by_cases hin:i < l.length
   ·obtain ⟨b,o,cs,rfl,hb,hcs,aa,ca,rfl,hA⟩:=hS.kept hw i hin
    obtain ⟨d,hd⟩: ∃d,d=l.getD i Qq.zero:= ⟨_,rfl⟩
    rw [<-hd] at hcs
    have HD:=Kz hd
    clear hd hA
    have c0:=hcs 0 _ rfl
    have c1:=hcs 1 _ rfl
    have c2:=hcs 2 _ rfl
    simp only [Nat.add_zero] at c0
    clear hcs
    have hg':g < wr.heap.size:=Nat.lt_of_lt_of_le hg hw.size
    have hc':wr.cell? ⟨g,1,none⟩=some (.func (.func 111) #[] #[]):=by rw [hw.cell hg];exact hc
    have hin': (i:Int) < l.length:=by omega
    go_wp2_with fail
    refine (findLit_any _ g d aa ca key hg' hc').mono ?_
    rintro e w1 ⟨rfl,k1⟩
    have hnm:nameAt l i=d.name.toList:=by unfold nameAt;rw [<-HD.out]
    have HC:Hid (cmpD d.name.toList key.toList=0↔nameAt l i=key.toList):=by rw [hnm];exact cmpD_zero
    clear c0 c1 c2 hnm
    generalize cmpD d.name.toList key.toList=r at *
    have hw1:=hw.trans k1
    clear hw k1
    go_wp2
    go_ret2
    refine ⟨Found.mk i _ rfl HPl.out ?_,hw1⟩
    rw [<-HC.out]
    simp [hin]
   ·have hin': ¬(i:Int) < l.length:=by omega
    go_wp2
    go_ret2
    exact ⟨Found.mk i false rfl HPl.out (by simp;intro h;exact absurd h hin),hw⟩
theorem find_any (w:World) (a:Option Addr) (cap:Nat) (l:List Qq) (key:ByteArray) (hl:l.length<=1048576) (hr:Rises l) (hS:Nodes w a l):
  Calls Tryz.prog 112 #[.agg #[.slice a l.length cap,.func (.func 111) #[] #[]],.string key] w
   fun e w'=> Found l key.toList e∧K_ w w':=by
 have k0:K_ w (w.alloc (.cells #[.slice a l.length cap,.func (.func 111) #[] #[]] 120)):= (K_.refl _).alloc _
 go_enter Tryz.func112,Tryz.ntmps112
 go_wp2_with fail
 refine (search_any _ w.heap.size a cap l key hl hr (by simp) (by simp) (hS.kept k0)).mono ?_
 rintro e w1 ⟨hfo,k1⟩
 obtain ⟨p,f,rfl,hp,hf⟩:=hfo
 have HP:=Kz hp
 have HF:=Kz hf
 clear hp hf
 go_wp2
 go_ret2
 exact ⟨Found.mk p f rfl HP.out HF.out,k0.trans k1⟩
theorem small_of_szN {l:List Qq} {n:Nat} (h:szNodesD l<=n):l.length<=n∧∀s∈l,s.steps.length<=n∧∀x∈s.steps,x.asks.length<=n∧x.cases.length<=n:=by
 unfold szNodesD at h
 refine ⟨by omega,fun s hs=> ?_⟩
 have h1:=le_sum szNodeD hs
 have h2:szNodeD s=s.name.size+szSteps s.steps:=rfl
 have h3:=small_of_sz (l:=s.steps) (n:=n) (by omega)
 exact h3
