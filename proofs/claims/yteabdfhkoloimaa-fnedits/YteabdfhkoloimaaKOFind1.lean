import Derived.Test.YteabdfhkoloimaaKWCheck4
import Derived.Deep.RegionHeld
set_option maxRecDepth 100000
set_option maxHeartbeats 25600000
namespace Go.Proofs.Yteabdfhkoloimaa
open Go.RowKit
theorem nodeName_any (w:World) (x y z:Value) (s:ByteArray) (hx:x= .string s):
  Calls Try.prog 39 #[.agg #[x,y,z]] w fun e w'=> e= .returned (.string s)∧K_ w w':=by
 subst hx
 go_enter Try.func39,Try.ntmps39
 go_wp2
 go_ret
 exact ⟨rfl,(K_.refl _).alloc _⟩
theorem boxCells2 {w wi:World} {x y:Value} {t:TypeId} (K:K_ (w.alloc (.cells #[x,y] t)) wi):wi.cell? ⟨w.heap.size,0,none⟩=some x∧wi.cell? ⟨w.heap.size,1,none⟩=some y:=by
 constructor
 ·rw [K.cell (by simp)];simp
 ·rw [K.cell (by simp)];simp
theorem wrap_i64_in {m:Int} (h1: -9223372036854775808<=m) (h2:m<=9223372036854775807):IntKind.i64.wrap m=m:=by
 simp only [IntKind.wrap,IntKind.signed,IntKind.bits]
 first | omega | (simp;omega)
theorem ascending_any (w:World) (a:Option Addr) (cap:Nat) (l:List Q_) (hl:l.length<=maxLen) (hS:Nodes w a l):
  Calls Try.prog 29 #[.agg #[.slice a l.length cap,.func (.func 39) #[] #[]]] w fun e w'=> Says e (¬SomeFalls l)∧K_ w w':=by
 unfold maxLen at hl
 have k0:K_ w (w.alloc (.cells #[.slice a l.length cap,.func (.func 39) #[] #[]] 51)):= (K_.refl _).alloc _
 go_enter Try.func29,Try.ntmps29
 go_wp2
 go_loopw [3] (fun i wr=> ∃n:Nat,1<=n∧n<=l.length+1∧i= .int .i64 n∧K_ (w.alloc (.cells #[.slice a l.length cap,.func (.func 39) #[] #[]] 51)) wr∧RisesTo l n) (fun i _=> l.length+2 - (intOf i).toNat)
 case atStart=> exact ⟨1,by omega,by omega,rfl,K_.refl _,fun j hj=> absurd hj (by omega)⟩
 case round=>
  obtain ⟨n,hn1,hn2,rfl,hw,hg⟩:=hrel
  have HG:=Kz hg
  clear hg
  have hz1:=hw.size
  simp only [World.size_alloc] at hz1
  have z0:w.heap.size < wr.heap.size:=by omega
  obtain ⟨p0,p1⟩:=boxCells2 hw
  by_cases hlt:n < l.length
  ·have k1:K_ w wr:=k0.trans hw
   obtain ⟨b,o,cs,rfl,hb,hc,aa,ca,rfl,hA⟩:=hS.kept k1 (n - 1) (by omega)
   obtain ⟨b',o',cs',e',hb',hc',ba,da,rfl,hA'⟩:=hS.kept k1 n hlt
   simp only [Option.some.injEq,Addr.mk.injEq,and_true] at e'
   obtain ⟨rfl,rfl⟩:=e'
   obtain ⟨x,hxk⟩: ∃x,x= (l.getD (n - 1) Q_.zero):= ⟨_,rfl⟩
   obtain ⟨y,hyk⟩: ∃y,y= (l.getD n Q_.zero):= ⟨_,rfl⟩
   rw [<-hxk] at hc
   rw [<-hyk] at hc'
   have HX:Hid (l.getD (n - 1) Q_.zero=x):=hxk.symm
   have HYK:Hid (l.getD (n - 1+1) Q_.zero=y):=by rw [hyk,show n - 1+1=n by omega];exact rfl
   clear hxk hyk hA hA'
   have c0:=hc 0 _ rfl
   have c1:=hc 1 _ rfl
   have c2:=hc 2 _ rfl
   have d0:=hc' 0 _ rfl
   have d1:=hc' 1 _ rfl
   have d2:=hc' 2 _ rfl
   simp only [Nat.add_zero] at c0 d0
   clear hc hc'
   have i0: (0:Int)<=(n:Int) - 1:=by omega
   have i1: (n:Int) - 1 < (l.length:Int):=by omega
   have i2: (n:Int) < (l.length:Int):=by omega
   have i5: (1:Int)<=(n:Int):=by omega
   have i6: (n:Int)<=(l.length:Int):=by omega
   have i7:n<=l.length:=by omega
   have i3: ((n:Int) - 1).toNat=n - 1:=by omega
   have i4:IntKind.i64.wrap ((n:Int) - 1)= (n:Int) - 1:=wrap_i64_in (by omega) (by omega)
   have hSof: ∀w',K_ wr w'->(fun w'=> w'.cell? ⟨b,o+ (n - 1) * 3,none⟩=some (.string x.name)∧w'.cell? ⟨b,o+ (n - 1) * 3+1,none⟩=some (.int .i64 x.cost)∧w'.cell? ⟨b,o+ (n - 1) * 3+2,none⟩=some (.slice aa x.steps.length ca)∧w'.cell? ⟨b,o+n * 3,none⟩=some (.string y.name)∧w'.cell? ⟨b,o+n * 3+1,none⟩=some (.int .i64 y.cost)∧w'.cell? ⟨b,o+n * 3+2,none⟩=some (.slice ba y.steps.length da)∧w'.cell? ⟨w.heap.size,0,none⟩=some (.slice (some ⟨b,o,none⟩) l.length cap)∧w'.cell? ⟨w.heap.size,1,none⟩=some (.func (.func 39) #[] #[])) w':=fun w' kk=> ⟨(K_.cell kk hb).trans c0,(K_.cell kk hb).trans c1,(K_.cell kk hb).trans c2,(K_.cell kk hb).trans d0,(K_.cell kk hb).trans d1,(K_.cell kk hb).trans d2,(K_.cell kk z0).trans p0,(K_.cell kk z0).trans p1⟩
   have Qx:=Kz hSof
   clear hSof
   cases hbl:Op.bytesLess x.name.toList y.name.toList
   ·go_wp2
    go_region_held (fun w'=> w'.cell? ⟨b,o+ (n - 1) * 3,none⟩=some (.string x.name)∧w'.cell? ⟨b,o+ (n - 1) * 3+1,none⟩=some (.int .i64 x.cost)∧w'.cell? ⟨b,o+ (n - 1) * 3+2,none⟩=some (.slice aa x.steps.length ca)∧w'.cell? ⟨b,o+n * 3,none⟩=some (.string y.name)∧w'.cell? ⟨b,o+n * 3+1,none⟩=some (.int .i64 y.cost)∧w'.cell? ⟨b,o+n * 3+2,none⟩=some (.slice ba y.steps.length da)∧w'.cell? ⟨w.heap.size,0,none⟩=some (.slice (some ⟨b,o,none⟩) l.length cap)∧w'.cell? ⟨w.heap.size,1,none⟩=some (.func (.func 39) #[] #[])) (exact unhide Qx _ (by repeat (first | apply K_.drew | exact K_.refl _ | assumption))) ((go_at_call 39;refine (nodeName_any _ _ _ _ _ rfl).mono ?_;rintro e w1 ⟨rfl,hw1⟩;have kk:K_ wr w1:=K_.trans (by repeat (first | apply K_.drew | exact K_.refl _ | assumption)) hw1))
    all_goals
     have kf:=hw.trans kk
     go_wp2
     go_ret
     exact ⟨Says.no fun h=> h ⟨n - 1,by omega,by unfold FallsAt;rw [HX.out,HYK.out];exact hbl⟩,k0.trans (by repeat (first | apply K_.drew | exact kf))⟩
   ·go_wp2
    go_region_held (fun w'=> w'.cell? ⟨b,o+ (n - 1) * 3,none⟩=some (.string x.name)∧w'.cell? ⟨b,o+ (n - 1) * 3+1,none⟩=some (.int .i64 x.cost)∧w'.cell? ⟨b,o+ (n - 1) * 3+2,none⟩=some (.slice aa x.steps.length ca)∧w'.cell? ⟨b,o+n * 3,none⟩=some (.string y.name)∧w'.cell? ⟨b,o+n * 3+1,none⟩=some (.int .i64 y.cost)∧w'.cell? ⟨b,o+n * 3+2,none⟩=some (.slice ba y.steps.length da)∧w'.cell? ⟨w.heap.size,0,none⟩=some (.slice (some ⟨b,o,none⟩) l.length cap)∧w'.cell? ⟨w.heap.size,1,none⟩=some (.func (.func 39) #[] #[])) (exact unhide Qx _ (by repeat (first | apply K_.drew | exact K_.refl _ | assumption))) ((go_at_call 39;refine (nodeName_any _ _ _ _ _ rfl).mono ?_;rintro e w1 ⟨rfl,hw1⟩;have kk:K_ wr w1:=K_.trans (by repeat (first | apply K_.drew | exact K_.refl _ | assumption)) hw1))
    all_goals
     have kf:=hw.trans kk
     go_wp2
     go_roundw
     case rel=>
      refine ⟨n+1,by omega,by omega,by go_num,by repeat (first | apply K_.drew | exact kf),fun j hj=> ?_⟩
      by_cases e:j=n - 1
      ·subst e
       unfold FallsAt
       rw [HX.out,HYK.out,hbl]
       simp
      ·exact HG.out j (by omega)
     case measure=> simp [intOf];omega
  ·go_wp2
   go_ret
   exact ⟨Says.yes fun ⟨i,hi,h⟩=> HG.out i (by omega) h,k0.trans hw⟩
theorem ascSaid :AscSaid:=fun w a cap l hl hS=> ascending_any w a cap l hl hS
def cmpD (x y:List UInt8):Int:=if Op.bytesLess x y=true then -1 else if x=y then 0 else 1
theorem compare_any (w:World) (x y:ByteArray):Calls Try.prog 53 #[.string x,.string y] w fun e w'=> e= .returned (.int .i64 (cmpD x.toList y.toList))∧w'=w:=by
 cases h1:Op.bytesLess x.toList y.toList
 ·cases h2: (x.toList == y.toList)
  ·go_enter Try.func53,Try.ntmps53
   go_wp2
   go_ret
   exact ⟨ret_int (by unfold cmpD;rw [if_neg (by rw [h1];simp),if_neg (by simpa using h2)]),rfl⟩
  ·go_enter Try.func53,Try.ntmps53
   go_wp2
   go_ret
   exact ⟨ret_int (by unfold cmpD;rw [if_neg (by rw [h1];simp),if_pos (by simpa using h2)]),rfl⟩
 ·go_enter Try.func53,Try.ntmps53
  go_wp2
  go_ret
  exact ⟨ret_int (by unfold cmpD;rw [if_pos h1]),rfl⟩
theorem findLit_any (w:World) (g:Nat) (d:Q_) (a:Option Addr) (cap:Nat) (key:ByteArray) (hg:g < w.heap.size) (hc:w.cell? ⟨g,1,none⟩=some (.func (.func 39) #[] #[])):
  Calls Try.prog 52 #[.agg #[.string d.name,.int .i64 d.cost,.slice a d.steps.length cap],.string key,.pointer (some ⟨g,0,none⟩)] w fun e w'=> e= .returned (.int .i64 (cmpD d.name.toList key.toList))∧K_ w w':=by
 go_enter Try.func52,Try.ntmps52
 go_wp2_with fail
 refine (nodeName_any _ _ _ _ d.name rfl).mono ?_
 rintro e w1 ⟨rfl,k1⟩
 have K1:K_ w w1:=K_.trans (by repeat (first | apply K_.alloc | exact K_.refl _)) k1
 clear k1
 go_wp2_with fail
 refine (compare_any _ d.name key).mono ?_
 rintro e w2 ⟨rfl,rfl⟩
 go_wp2
 go_ret
 exact ⟨rfl,K1⟩
