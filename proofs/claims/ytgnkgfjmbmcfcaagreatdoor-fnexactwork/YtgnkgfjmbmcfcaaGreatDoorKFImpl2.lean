import Derived.Test.YtgnkgfjmbmcfcaaGreatDoorKOMark4
import Derived.Test.YtgnkgfjmbmcfcaaGreatDoorKShelf
import Derived.Test.YtgnkgfjmbmcfcaaGreatDoorKFFmt2
set_option maxRecDepth 100000
set_option maxHeartbeats 25600000
namespace Go.Proofs.YtgnkgfjmbmcfcaaGreatDoor
open Go.RowKit
theorem clone_any (w:World) (s:ByteArray) (hs:s.size<=1048576):Calls Tryz.prog 127 #[.string s] w fun e w'=> e= .returned (.string s)∧K_ w w':=by
 go_enter Tryz.func127,Tryz.ntmps127
 go_wp2_with fail
 refine (Tryz.stringslite_Clone s _ (by omega)).mono ?_
 rintro e w1 ⟨rfl,k1⟩
 go_wp2
 go_ret
 exact ⟨rfl,k1⟩
theorem copyStrs_in (w:World) (a:Option Addr) (cap:Nat) (l:List ByteArray) (hl:l.length<=1048576) (hs: ∀s∈l,s.size<=1048576) (hS:Strs w a l):
  Calls Tryz.prog 165 #[.slice a l.length cap,.func (.func 127) #[] #[]] w fun e w'=> ∃a',e= .returned (.slice a' l.length l.length)∧StrsIn w' w.heap.size w'.heap.size a' l∧K_ w w':=by
 by_cases h0:l.length=0
 ·have hnil:l=[]:=List.eq_nil_of_length_eq_zero h0
  subst hnil
  go_enter Tryz.func165,Tryz.ntmps165
  go_wp2
  go_ret
  exact ⟨none,rfl,.inl rfl,K_.refl _⟩
 ·have hmk:=run_make_row' (P:=Tryz.prog) 25 9 _ _ Tryz.underlying25 Tryz.infoStr rfl .i64 .i64 l.length (by omega) (by omega)
  have h00: ((l.length:Int) == 0)=false:=by simpa using h0
  go_enter Tryz.func165,Tryz.ntmps165
  go_wp2
  clear hmk h00
  have hrow:Row (w.alloc (.cells (madeCells #[.string ByteArray.empty] l.length) 9)) w.heap.size l.length:= ⟨_,_,World.rowIs_made w (.string ByteArray.empty) l.length 9⟩
  have hkept:K_ w (w.alloc (.cells (madeCells #[.string ByteArray.empty] l.length) 9)):=Below.alloc (Below.refl _ _) (Nat.le_refl _) _
  go_loopw [16] (fun i wr=> ∃k:Nat,k<=l.length∧i= .int .i64 k∧K_ w wr∧Row wr w.heap.size l.length∧∀j,j < k->wr.cell? ⟨w.heap.size,j,none⟩=some (.string (l.getD j ByteArray.empty))) (fun i _=> l.length - (intOf i).toNat)
  case atStart=> exact ⟨0,Nat.zero_le _,rfl,hkept,hrow,fun j hj=> absurd hj (Nat.not_lt_zero _)⟩
  case round=>
   obtain ⟨k,hk,rfl,hw,hr,hf⟩:=hrel
   clear hrow hkept
   have HF:=Kz hf
   by_cases hlt:k < l.length
   ·obtain ⟨b,o,rfl,hb,hc⟩:=hS.kept hw k hlt
    have hsz:=hs (l.getD k ByteArray.empty) (by simp [List.getD,hlt])
    obtain ⟨s,hsd⟩: ∃s,s=l.getD k ByteArray.empty:= ⟨_,rfl⟩
    rw [<-hsd] at hc hsz
    have HSd:=Kz hsd
    clear hsd hf
    have hrl:=hr.lt
    go_wp2_with fail
    refine (clone_any _ s hsz).mono ?_
    rintro e w1 ⟨rfl,k1⟩
    have hr1:=hr.kept k1
    have HR1:=Kz hr1
    have HF1:Hid (∀j,j < k->w1.cell? ⟨w.heap.size,j,none⟩=some (.string (l.getD j ByteArray.empty))):=fun j hj=> by rw [k1.cell hrl];exact HF.out j hj
    obtain ⟨⟨old,hcell⟩,hfroz⟩:=hr1.at hlt
    have hw1:=hw.trans k1
    clear HF hr hr1 hw k1 hc
    go_wp2
    go_roundw
    case rel=>
     refine ⟨k+1,by omega,by go_num,hw1.setCell (Nat.le_refl _) _,HR1.out.set _ rfl _,fun j hj=> ?_⟩
     by_cases e:j=k
     ·subst e
      rw [World.cell?_setCell_same _ _ _ hcell,HSd.out]
     ·rw [World.cell?_setCell_other _ _ _ _ (by simp <;> omega)]
      exact HF1.out j (by omega)
    case measure=> simp [intOf];omega
   ·have:k=l.length:=by omega
    subst this
    go_wp2
    go_ret
    exact ⟨_,rfl,.inr ⟨w.heap.size,rfl,Nat.le_refl _,hr.lt,hr,HF.out⟩,hw⟩
theorem formatUint_in (w:World) (v:Nat) (hv:v < 18446744073709551616) (hT:TabOk w):
  Calls Tryz.prog 234 #[.int .u64 v,.int .i64 16] w fun e w'=> (∃(n:Nat) (b:ByteArray),e= .returned (.string b)∧b.data.toList=hexL n v∧1<=n∧n<=16∧v < 16 ^ n)∧K_ w w':=by
 go_enter Tryz.func234,Tryz.ntmps234
 go_wp2_with fail
 refine (formatBits_16 _ v hv hT).mono ?_
 rintro e w1 ⟨⟨n,b,rfl,h1,h2,h3,h4⟩,k1⟩
 have H1:=Kz h1
 have H4:=Kz h4
 clear h1 h4
 go_wp2
 go_ret
 exact ⟨⟨n,b,rfl,H1.out,h2,h3,H4.out⟩,k1⟩
theorem formatUint_any (w:World) (v:Nat) (hv:v < 18446744073709551616) (hT:TabOk w):
  Calls Tryz.prog 216 #[.int .u64 v,.int .i64 16] w fun e w'=> (∃(n:Nat) (b:ByteArray),e= .returned (.string b)∧b.data.toList=hexL n v∧1<=n∧n<=16∧v < 16 ^ n)∧K_ w w':=by
 go_enter Tryz.func216,Tryz.ntmps216
 go_wp2_with fail
 refine (formatUint_in _ v hv hT).mono ?_
 rintro e w1 ⟨⟨n,b,rfl,h1,h2,h3,h4⟩,k1⟩
 have H1:=Kz h1
 have H4:=Kz h4
 clear h1 h4
 go_wp2
 go_ret
 exact ⟨⟨n,b,rfl,H1.out,h2,h3,H4.out⟩,k1⟩
theorem digits_any (w:World) (v:Nat) (hv:v < 18446744073709551616) (hT:TabOk w):
  Calls Tryz.prog 201 #[.int .u64 v,.int .i64 16] w fun e w'=> (∃b:ByteArray,e= .returned (.string b)∧b.data.toList=hexL 16 v)∧K_ w w':=by
 go_enter Tryz.func201,Tryz.ntmps201
 go_wp2_with fail
 refine (formatUint_any _ v hv hT).mono ?_
 rintro e w1 ⟨⟨n,b,rfl,h1,h2,h3,h4⟩,k1⟩
 have hbn:b.size=n:=by have:=congrArg List.length h1;rw [hexL_length] at this;simpa using this
 have H1:=Kz h1
 have H4:=Kz h4
 clear h1 h4
 obtain ⟨m,hm⟩: ∃m:Nat,m+n=16:= ⟨16 - n,by omega⟩
 have hsub: (16:Int) - (n:Int)= (m:Int):=by omega
 have e1: (⟨#[48]⟩:ByteArray).data.toList=[48]:=rfl
 have hz: (⟨#[48]⟩:ByteArray).size * m<=140737488355328:=by rw [show (⟨#[48]⟩:ByteArray).size=1 from rfl];omega
 have h63: (m:Int)<=9223372036854775807:=by omega
 go_wp2_with fail
 refine (Tryz.strings_Repeat ⟨#[48]⟩ m _ (by omega) hz).mono ?_
 rintro e w2 ⟨rfl,k2⟩
 have hrs: (⟨(Lib.repeatL [48] m).toArray⟩:ByteArray).size<=16:=by show (Lib.repeatL [48] m).toArray.size<=16;rw [List.size_toArray,Lib.repeatL_length];simp;omega
 go_wp2
 go_ret
 refine ⟨⟨_,rfl, ?_⟩,K_.trans k1 k2⟩
 rw [ba_append,H1.out,<-hm,hexL_pad n v H4.out m]
 congr 1
 have:=Lib.repeatL_replicate 48 1 m
 simpa using this
def Long (s:ByteArray):Prop:=200 < s.size
theorem longText_any (w:World) (s:ByteArray):Calls Tryz.prog 199 #[.string s] w fun e w'=> Says e (Long s)∧w'=w:=by
 by_cases h: (200:Int) < s.size
 ·have h1:decide ((200:Int) < s.size)=true:=by simpa using h
  go_enter Tryz.func199,Tryz.ntmps199
  go_wp2
  go_ret
  exact ⟨Says.congr (p:=True) (Says.yes trivial) ⟨fun _=> by unfold Long;omega,fun _=> trivial⟩,rfl⟩
 ·have h1:decide ((200:Int) < s.size)=false:=by simpa using h
  go_enter Tryz.func199,Tryz.ntmps199
  go_wp2
  go_ret
  exact ⟨Says.congr (p:=False) (Says.no id) ⟨False.elim,fun g=> by unfold Long at g;omega⟩,rfl⟩
def SomeLong (l:List ByteArray):Prop:= ∃i,i < l.length∧Long (l.getD i ByteArray.empty)
theorem indexLong_any (w:World) (a:Option Addr) (cap:Nat) (l:List ByteArray) (hl:l.length<=maxLen) (hS:Strs w a l):
  Calls Tryz.prog 212 #[.slice a l.length cap,.func (.func 199) #[] #[]] w fun e w'=> (∃r,e= .returned (.int .i64 r)∧(0<=r↔SomeLong l))∧w'=w:=by
 unfold maxLen at hl
 go_enter Tryz.func212,Tryz.ntmps212
 go_wp2
 go_loop [8] (fun i=> ∃k:Nat,k<=l.length∧i= .int .i64 k∧∀j,j < k->¬Long (l.getD j ByteArray.empty)) (fun i=> l.length - (intOf i).toNat)
 case atStart=> exact ⟨0,Nat.zero_le _,rfl,fun j hj=> absurd hj (Nat.not_lt_zero _)⟩
 case round=>
  obtain ⟨k,hk,rfl,hg⟩:=hrel
  have HG:=Kz hg
  clear hg
  by_cases hlt:k < l.length
  ·obtain ⟨b,o,rfl,hb,hc⟩:=hS k hlt
   obtain ⟨c,hck⟩: ∃c,c=l.getD k ByteArray.empty:= ⟨_,rfl⟩
   rw [<-hck] at hc
   have HCK:=Kz hck
   clear hck
   go_wp2_with fail
   refine (longText_any _ c).mono ?_
   rintro e w1 ⟨hsay,rfl⟩
   rcases hsay.cases with ⟨rfl,hyes⟩ | ⟨rfl,hno⟩
   ·have HY:=Kz hyes
    clear hyes hsay
    go_wp2
    go_ret
    exact ⟨⟨k,rfl,⟨fun _=> ⟨k,hlt,by rw [<-HCK.out];exact HY.out⟩,fun _=> by omega⟩⟩,rfl⟩
   ·have HN:=Kz hno
    clear hno hsay
    go_wp2
    go_round
    case rel=>
     refine ⟨k+1,by omega,by go_num,fun j hj=> ?_⟩
     by_cases e:j=k
     ·subst e
      rw [<-HCK.out]
      exact HN.out
     ·exact HG.out j (by omega)
    case measure=> simp [intOf];omega
  ·go_wp2
   go_ret
   exact ⟨⟨-1,rfl,⟨fun h=> by omega,fun ⟨i,hi,e⟩=> absurd e (HG.out i (by omega))⟩⟩,rfl⟩
theorem containsLong_any (w:World) (a:Option Addr) (cap:Nat) (l:List ByteArray) (hl:l.length<=maxLen) (hS:Strs w a l):
  Calls Tryz.prog 198 #[.slice a l.length cap,.func (.func 199) #[] #[]] w fun e w'=> Says e (SomeLong l)∧w'=w:=by
 go_enter Tryz.func198,Tryz.ntmps198
 go_wp2_with fail
 refine (indexLong_any _ a cap l hl hS).mono ?_
 rintro e w1 ⟨⟨r,rfl,hr⟩,rfl⟩
 have HR:=Kz hr
 clear hr
 by_cases h0:0<=r
 ·have h1:decide (0<=r)=true:=by simpa using h0
  go_wp2
  go_ret
  exact ⟨Says.congr (p:=True) (Says.yes trivial) ⟨fun _=> HR.out.1 h0,fun _=> trivial⟩,rfl⟩
 ·have h1:decide (0<=r)=false:=by simpa using h0
  go_wp2
  go_ret
  exact ⟨Says.congr (p:=False) (Says.no id) ⟨False.elim,fun h=> by have:=HR.out.2 h;omega⟩,rfl⟩
theorem join_any (w:World) (a:Option Addr) (cap:Nat) (l:List ByteArray) (hcap:l.length<=cap) (hN:l.length<=100) (hlen: (Lib.join (texts l) [44]).length<=140737488355328) (hS:Strs w a l):
  Calls Tryz.prog 200 #[.slice a l.length cap,.string ⟨#[44]⟩] w fun e w'=> (∃b:ByteArray,e= .returned (.string b)∧b.data.toList=Lib.join (texts l) [44])∧K_ w w':=by
 by_cases h0:l.length=0
 ·have hnil:l=[]:=List.eq_nil_of_length_eq_zero h0
  subst hnil
  refine (Tryz.strings_Join_none a cap ⟨#[44]⟩ w).mono ?_
  rintro e w' ⟨rfl,rfl⟩
  exact ⟨⟨_,rfl,rfl⟩,K_.refl _⟩
 ·obtain ⟨b,o,rfl,hb,_⟩:=hS 0 (by omega)
  refine (Tryz.strings_Join b o cap l ⟨#[44]⟩ w (fun j x hx=> ?_) hb (by omega) hcap hlen).mono ?_
  ·obtain ⟨hj,hx'⟩:=List.getElem?_eq_some_iff.1 hx
   obtain ⟨b',o',e,_,hc⟩:=hS j hj
   simp only [Option.some.injEq,Addr.mk.injEq,and_true] at e
   obtain ⟨rfl,rfl⟩:=e
   rw [hc]
   simp [List.getD,hj,hx']
  ·rintro e w' ⟨rfl,k⟩
   exact ⟨⟨_,rfl,rfl⟩,k⟩
theorem finish_any (w:World) (give:ByteArray) (a:Option Addr) (cap:Nat) (l:List ByteArray) (hg:give.size<=maxLen) (hl:l.length<=maxLen) (hS:Strs w a l) (hcap:l.length<=cap) (hT:TabOk w):
  Calls Tryz.prog 180 #[.string give,.slice a l.length cap] w fun e w'=> e= .returned (.string (finB give l))∧K_ w w':=by
 have hl':=hl
 unfold maxLen at hg hl
 by_cases h1: (30:Int) < give.size
 ·have h1':decide ((30:Int) < give.size)=true:=by simpa using h1
  go_enter Tryz.func180,Tryz.ntmps180
  go_wp2
  go_ret
  exact ⟨ret_str (finB_none (.inl (by omega))).symm,K_.refl _⟩
 ·have h1':decide ((30:Int) < give.size)=false:=by simpa using h1
  by_cases h2: (100:Int) < l.length
  ·have h2':decide ((100:Int) < l.length)=true:=by simpa using h2
   go_enter Tryz.func180,Tryz.ntmps180
   go_wp2
   go_ret
   exact ⟨ret_str (finB_none (.inr (.inl (by omega)))).symm,K_.refl _⟩
  ·have h2':decide ((100:Int) < l.length)=false:=by simpa using h2
   go_enter Tryz.func180,Tryz.ntmps180
   go_wp2_with fail
   refine (containsLong_any _ a cap l hl' hS).mono ?_
   rintro e w1 ⟨hsay,rfl⟩
   rcases hsay.cases with ⟨rfl,hyes⟩ | ⟨rfl,hno⟩
   ·have HY:=Kz hyes
    clear hyes hsay h1' h2'
    go_wp2
    go_ret
    obtain ⟨i,hi,hlo⟩:=HY.out
    exact ⟨ret_str (finB_none (.inr (.inr ⟨i,hi,hlo⟩))).symm,K_.refl _⟩
   ·have HN:Hid (FinFits give l):= ⟨by omega,by omega,fun i hi=> by
     apply Decidable.byContradiction
     intro hc
     exact hno ⟨i,hi,by unfold Long;omega⟩⟩
    clear hno hsay h1' h2'
    have hjl: (Lib.join (texts l) [44]).length<=100 * 201:=by
     have:=join_le (texts l) 200 (fun t ht=> by
      simp only [texts,List.mem_map] at ht
      obtain ⟨x,hx,rfl⟩:=ht
      obtain ⟨i,hi,rfl⟩:=List.getElem_of_mem hx
      have:=HN.out.2.2 i hi
      simpa [List.getD,hi] using this)
     rw [texts_length] at this
     omega
    go_wp2_with fail
    refine (join_any _ a cap l hcap (by omega) (by omega) hS).mono ?_
    rintro e w2 ⟨⟨j,rfl,hj⟩,k2⟩
    have hjs:j.size<=20100:=by have:=congrArg List.length hj;simp at this;omega
    have HW:Hid ((give++ ⟨#[40]⟩++j++ ⟨#[41]⟩).data.toList=wholeOf give.data.toList (texts l)):=by
     show _=_
     rw [ba_append,ba_append,ba_append,hj]
     simp [wholeOf]
    clear hj hjl
    have hws: (give++ ⟨#[40]⟩++j++ ⟨#[41]⟩:ByteArray).size<=30000:=by
     have e0: (⟨#[40]⟩:ByteArray).size=1:=rfl
     have e1: (⟨#[41]⟩:ByteArray).size=1:=rfl
     simp only [ByteArray.size_append,e0,e1]
     omega
    go_wp2_with fail
    generalize (give++ ⟨#[40]⟩++j++ ⟨#[41]⟩:ByteArray)=c at *
    refine (longText_any _ c).mono ?_
    rintro e w3 ⟨hsay,rfl⟩
    rcases hsay.cases with ⟨rfl,hyes⟩ | ⟨rfl,hno⟩
    ·have HY:Hid (200 < c.size):=hyes
     clear hyes hsay
     go_wp2_with fail
     refine (sum_any _ c (by unfold maxLen;omega)).mono ?_
     rintro e w4 ⟨rfl,k4⟩
     have k24:=K_.trans k2 k4
     have hsb:=sumOf_bounds c.data.toList
     have HFin:Hid (finB give l= ⟨(35 :: hexL 16 (sumOf c.data.toList).toNat).toArray⟩):=finB_long HN.out HW.out HY.out
     generalize sumOf c.data.toList=V at *
     obtain ⟨v,rfl⟩: ∃v:Nat,V=v:= ⟨V.toNat,by omega⟩
     rw [Int.toNat_natCast] at HFin
     go_wp2_with fail
     refine (digits_any _ v (by omega) (hT.kept k24)).mono ?_
     rintro e w5 ⟨⟨d,rfl,hd⟩,k5⟩
     have hds:d.size=16:=by have:=congrArg List.length hd;rw [hexL_length] at this;simpa using this
     have HD:=Kz hd
     clear hd
     go_wp2
     go_ret
     exact ⟨ret_str (by rw [HFin.out];apply ba_ext;rw [ba_append,HD.out];rfl),K_.trans k24 k5⟩
    ·have HY:Hid (¬200 < c.size):=hno
     clear hno hsay
     go_wp2
     go_ret
     exact ⟨ret_str (finB_short HN.out HW.out (by have:=HY.out;omega)).symm,k2⟩
