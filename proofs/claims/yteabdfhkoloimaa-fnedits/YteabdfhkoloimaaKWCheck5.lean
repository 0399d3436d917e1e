import Derived.Test.YteabdfhkoloimaaKOFind1
set_option maxRecDepth 100000
set_option maxHeartbeats 25600000
namespace Go.Proofs.Yteabdfhkoloimaa
open Go.RowKit
theorem cmpD_neg {x y:List UInt8}:cmpD x y < 0↔Op.bytesLess x y=true:=by
 unfold cmpD
 by_cases h:Op.bytesLess x y=true
 ·rw [if_pos h];exact ⟨fun _=> h,fun _=> by omega⟩
 ·rw [if_neg h]
  refine ⟨fun g=> ?_,fun g=> absurd g h⟩
  split at g <;> omega
theorem cmpD_zero {x y:List UInt8}:cmpD x y=0↔x=y:=by
 unfold cmpD
 by_cases h:Op.bytesLess x y=true
 ·rw [if_pos h]
  refine ⟨fun g=> by omega,fun g=> ?_⟩
  rw [g,less_irrefl] at h
  cases h
 ·rw [if_neg h]
  by_cases e:x=y
  ·rw [if_pos e];exact ⟨fun _=> e,fun _=> rfl⟩
  ·rw [if_neg e];exact ⟨fun g=> by omega,fun g=> absurd g e⟩
def Found (l:List Q_) (key:List UInt8) (e:Ending):Prop:= ∃(p:Nat) (f:Bool),e= .returned (.tuple #[.int .i64 p,.bool f])∧Place l key p∧(f=true↔p < l.length∧nameAt l p=key)
theorem Found.mk {l:List Q_} {key:List UInt8} {e:Ending} (p:Nat) (f:Bool) (h1:e= .returned (.tuple #[.int .i64 p,.bool f])) (h2:Place l key p) (h3:f=true↔p < l.length∧nameAt l p=key):Found l key e:= ⟨p,f,h1,h2,h3⟩
theorem search_any (w:World) (g:Nat) (a:Option Addr) (cap:Nat) (l:List Q_) (key:ByteArray) (hl:l.length<=1048576) (hr:Rises l) (hg:g < w.heap.size) (hc:w.cell? ⟨g,1,none⟩=some (.func (.func 39) #[] #[])) (hS:Nodes w a l):
  Calls Try.prog 51 #[.slice a l.length cap,.string key,.func (.func 52) #[] #[.pointer (some ⟨g,0,none⟩)]] w
   fun e w'=> Found l key.toList e∧K_ w w':=by
 have HRi:=Kz hr
 clear hr
 go_enter Try.func51,Try.ntmps51
 go_wp2
 go_loopw [9,10] (fun x y wr=> ∃i j:Nat,x= .int .i64 i∧y= .int .i64 j∧i<=j∧j<=l.length∧(∀t,t < i->Op.bytesLess (nameAt l t) key.toList=true)∧(∀t,j<=t->t < l.length->Op.bytesLess (nameAt l t) key.toList=false)∧K_ w wr) (fun x y _=> (intOf y).toNat - (intOf x).toNat)
 case atStart=> exact ⟨0,l.length,rfl,rfl,Nat.zero_le _,Nat.le_refl _,fun t ht=> absurd ht (Nat.not_lt_zero _),fun t h1 h2=> by omega,K_.refl _⟩
 case round=>
  obtain ⟨i,j,rfl,rfl,hij,hjn,hbe,hbh,hw⟩:=hrel
  have HB:=Kz (And.intro hbe hbh)
  clear hbe hbh
  by_cases hlt: (i:Int) < j
  ·obtain ⟨h,hh⟩: ∃h:Nat,h= (i+j) / 2:= ⟨_,rfl⟩
   have hhlt:h < l.length:=by omega
   have hhi:i<=h:=by omega
   have hhj:h < j:=by omega
   obtain ⟨b,o,cs,rfl,hb,hcs,aa,ca,rfl,hA⟩:=hS.kept hw h hhlt
   obtain ⟨d,hd⟩: ∃d,d=l.getD h Q_.zero:= ⟨_,rfl⟩
   rw [<-hd] at hcs
   have HD:=Kz hd
   clear hd hA
   have c0:=hcs 0 _ rfl
   have c1:=hcs 1 _ rfl
   have c2:=hcs 2 _ rfl
   simp only [Nat.add_zero] at c0
   clear hcs
   have hmid: ((i:Int)+ (j:Int)) / 2= (h:Int):=by omega
   have HH:=Kz hh
   clear hh
   have hg':g < wr.heap.size:=Nat.lt_of_lt_of_le hg hw.size
   have hc':wr.cell? ⟨g,1,none⟩=some (.func (.func 39) #[] #[]):=by rw [hw.cell hg];exact hc
   go_wp2_with fail
   refine (findLit_any _ g d aa ca key hg' hc').mono ?_
   rintro e w1 ⟨rfl,k1⟩
   have hnm:nameAt l h=d.name.toList:=by unfold nameAt;rw [<-HD.out]
   have HC:Hid (cmpD d.name.toList key.toList < 0↔Op.bytesLess (nameAt l h) key.toList=true):=by rw [hnm];exact cmpD_neg
   clear c0 c1 c2 hnm
   generalize cmpD d.name.toList key.toList=r at *
   have hw1:=hw.trans k1
   clear hw k1
   by_cases hneg:r < 0
   ·go_wp2
    go_roundw
    case rel=>
     obtain ⟨hbe,hbh⟩:=HB.out
     refine ⟨h+1,j,by go_num,rfl,by omega,hjn,fun t ht=> ?_,hbh,hw1⟩
     have hle:=HC.out.1 hneg
     by_cases e:t=h
     ·subst e;exact hle
     ·exact less_trans _ _ _ (HRi.out t h (by omega) hhlt) hle
    case measure=> simp [intOf];omega
   ·go_wp2
    go_roundw
    case rel=>
     obtain ⟨hbe,hbh⟩:=HB.out
     refine ⟨i,h,rfl,by go_num,hhi,by omega,hbe,fun t h1 h2=> ?_,hw1⟩
     have hle:Op.bytesLess (nameAt l h) key.toList=false:=by
      cases hq:Op.bytesLess (nameAt l h) key.toList
      ·rfl
      ·have:=HC.out.2 hq
       omega
     by_cases e:t=h
     ·subst e;exact hle
     ·cases hq:Op.bytesLess (nameAt l t) key.toList
      ·rfl
      ·rw [less_trans _ _ _ (HRi.out h t (by omega) h2) hq] at hle
       cases hle
    case measure=> simp [intOf];omega
  ·have hij':i=j:=by omega
   subst hij'
   have HPl:Hid (Place l key.toList i):= ⟨hjn,HB.out.1,HB.out.2⟩
   clear HB
   by_cases hin:i < l.length
   ·obtain ⟨b,o,cs,rfl,hb,hcs,aa,ca,rfl,hA⟩:=hS.kept hw i hin
    obtain ⟨d,hd⟩: ∃d,d=l.getD i Q_.zero:= ⟨_,rfl⟩
    rw [<-hd] at hcs
    have HD:=Kz hd
    clear hd hA
    have c0:=hcs 0 _ rfl
    have c1:=hcs 1 _ rfl
    have c2:=hcs 2 _ rfl
    simp only [Nat.add_zero] at c0
    clear hcs
    have hg':g < wr.heap.size:=Nat.lt_of_lt_of_le hg hw.size
    have hc':wr.cell? ⟨g,1,none⟩=some (.func (.func 39) #[] #[]):=by rw [hw.cell hg];exact hc
    have hin': (i:Int) < l.length:=by omega
    go_wp2_with fail
    refine (findLit_any _ g d aa ca key hg' hc').mono ?_
    rintro e w1 ⟨rfl,k1⟩
    have hnm:nameAt l i=d.name.toList:=by unfold nameAt;rw [<-HD.out]
    have HC:Hid (cmpD d.name.toList key.toList=0↔nameAt l i=key.toList):=by rw [hnm];exact cmpD_zero
    clear c0 c1 c2 hnm
    generalize cmpD d.name.toList key.toList=r at *
    have hw1:=hw.trans k1
    clear hw k1
    go_wp2
    go_ret2
    refine ⟨Found.mk i _ rfl HPl.out ?_,hw1⟩
    rw [<-HC.out]
    simp [hin]
   ·have hin': ¬(i:Int) < l.length:=by omega
    go_wp2
    go_ret2
    exact ⟨Found.mk i false rfl HPl.out (by simp;intro h;exact absurd h hin),hw⟩
theorem find_any (w:World) (a:Option Addr) (cap:Nat) (l:List Q_) (key:ByteArray) (hl:l.length<=1048576) (hr:Rises l) (hS:Nodes w a l):
  Calls Try.prog 40 #[.agg #[.slice a l.length cap,.func (.func 39) #[] #[]],.string key] w
   fun e w'=> Found l key.toList e∧K_ w w':=by
 have k0:K_ w (w.alloc (.cells #[.slice a l.length cap,.func (.func 39) #[] #[]] 51)):= (K_.refl _).alloc _
 go_enter Try.func40,Try.ntmps40
 go_wp2_with fail
 refine (search_any _ w.heap.size a cap l key hl hr (by simp) (by simp) (hS.kept k0)).mono ?_
 rintro e w1 ⟨hfo,k1⟩
 obtain ⟨p,f,rfl,hp,hf⟩:=hfo
 have HP:=Kz hp
 have HF:=Kz hf
 clear hp hf
 go_wp2
 go_ret2
 exact ⟨Found.mk p f rfl HP.out HF.out,k0.trans k1⟩
theorem boxCell {w wi:World} {x:Value} {t:TypeId} (K:K_ (w.alloc (.cells #[x] t)) wi):wi.cell? ⟨w.heap.size,0,none⟩=some x:=by
 rw [K.cell (by simp)];simp
