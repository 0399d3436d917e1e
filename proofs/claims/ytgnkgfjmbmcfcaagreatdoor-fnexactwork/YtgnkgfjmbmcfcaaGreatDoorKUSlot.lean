import Derived.Test.YtgnkgfjmbmcfcaaGreatDoorKRMark
import Derived.Deep.RegionHeld
set_option maxRecDepth 100000
set_option maxHeartbeats 25600000
namespace Go.Proofs.YtgnkgfjmbmcfcaaGreatDoor
open Go.RowKit
def SlotD.zero :SlotD:= ⟨0,0,⟨#[]⟩⟩
def SlotD.cells (r:SlotD):List Value:=[.int .i64 r.at',.int .i64 (r.worker:Int),.string r.name]
def Slts (w:World) (a:Option Addr) (l:List SlotD):Prop:=
 ∀i,i < l.length->∃b o,a=some ⟨b,o,none⟩∧b < w.heap.size∧w.rangeAt b (o+i * 3) (l.getD i SlotD.zero).cells
theorem Slts.kept {w w':World} {a:Option Addr} {l:List SlotD} (h:Slts w a l) (k:K_ w w'):Slts w' a l:=by
 intro i hi
 obtain ⟨b,o,ha,hb,hc⟩:=h i hi
 exact ⟨b,o,ha,Nat.lt_of_lt_of_le hb k.size,k.range hb hc⟩
def SltsIn (w:World) (lo hi:Nat) (a:Option Addr) (l:List SlotD):Prop:=
 l=[]∨∃b,a=some ⟨b,0,none⟩∧lo<=b∧b < hi∧Row w b (l.length * 3)∧∀i,i < l.length->w.rangeAt b (i * 3) (l.getD i SlotD.zero).cells
theorem SltsIn.same {w w':World} {lo hi:Nat} {a:Option Addr} {l:List SlotD} (h:SltsIn w lo hi a l) (k:Same lo hi w w'):SltsIn w' lo hi a l:=by
 rcases h with h | ⟨b,ha,h1,h2,hr,hc⟩
 ·exact .inl h
 ·exact .inr ⟨b,ha,h1,h2,k.row h1 h2 hr,fun i hi=> k.range h1 h2 hr.lt (hc i hi)⟩
theorem SltsIn.mono {w:World} {lo hi lo' hi':Nat} {a:Option Addr} {l:List SlotD} (h:SltsIn w lo hi a l) (h1:lo'<=lo) (h2:hi<=hi'):SltsIn w lo' hi' a l:=by
 rcases h with h | ⟨b,ha,g1,g2,hr,hc⟩
 ·exact .inl h
 ·exact .inr ⟨b,ha,by omega,by omega,hr,hc⟩
theorem SltsIn.slts {w:World} {lo hi:Nat} {a:Option Addr} {l:List SlotD} (h:SltsIn w lo hi a l):Slts w a l:=by
 rcases h with rfl | ⟨b,ha,h1,h2,hr,hc⟩
 ·intro i hi
  simp at hi
 ·intro i hi
  exact ⟨b,0,ha,hr.lt,by rw [Nat.zero_add];exact hc i hi⟩
def markSlt (k:Nat):SlotD:= ⟨k,k+1,mtext (k+2)⟩
def markSlts (l:List SlotD) (k:Nat):List SlotD:=l.mapIdx fun i _=> markSlt (k+i * 3)
theorem markSlts_length (l:List SlotD) (k:Nat): (markSlts l k).length=l.length:=by simp [markSlts]
theorem markSlts_getD (l:List SlotD) (k i:Nat) (h:i < l.length): (markSlts l k).getD i SlotD.zero=markSlt (k+i * 3):=by simp [markSlts,List.getD,h]
theorem eqSlot_yes (w:World) (x y:Int) (z:ByteArray):
  Calls Tryz.prog 88 #[.agg #[.int .i64 x,.int .i64 y,.string z],.agg #[.int .i64 x,.int .i64 y,.string z]] w fun e w'=> e= .returned (.bool true)∧K_ w w':=by
 go_enter Tryz.func88,Tryz.ntmps88
 go_wp2
 go_ret
 exact ⟨rfl,by repeat (first | apply K_.alloc | apply K_.drew | exact K_.refl _)⟩
theorem eqSlotS_yes (w:World) (a a':Option Addr) (cap cap':Nat) (l:List SlotD) (hl:l.length<=maxLen)
  (hS:Slts w a l) (hS':Slts w a' l):
  Calls Tryz.prog 34 #[.slice a l.length cap,.slice a' l.length cap'] w fun e w'=> e= .returned (.bool true)∧K_ w w':=by
 unfold maxLen at hl
 go_enter Tryz.func34,Tryz.ntmps34
 go_wp2
 go_loopw [5] (fun i wr=> ∃k:Nat,k<=l.length∧i= .int .i64 k∧K_ w wr) (fun i _=> l.length - (intOf i).toNat)
 case atStart=> exact ⟨0,Nat.zero_le _,rfl,K_.refl _⟩
 case round=>
  obtain ⟨k,hk,rfl,hw⟩:=hrel
  by_cases hlt:k < l.length
  ·obtain ⟨b,o,rfl,hb,hc⟩:=hS.kept hw k hlt
   obtain ⟨b',o',rfl,hb',hc'⟩:=hS'.kept hw k hlt
   generalize l.getD k SlotD.zero=c at *
   have c0:=hc 0 _ rfl
   have c1:=hc 1 _ rfl
   have c2:=hc 2 _ rfl
   have d0:=hc' 0 _ rfl
   have d1:=hc' 1 _ rfl
   have d2:=hc' 2 _ rfl
   simp only [Nat.add_zero] at c0 d0
   clear hc hc'
   go_wp2
   go_region_with (go_at_call 88;refine (eqSlot_yes _ c.at' (c.worker:Int) c.name).mono ?_;rintro e w1 ⟨rfl,hw1⟩)
   all_goals
    go_wp2
    go_roundw
    case rel=> exact ⟨k+1,by omega,by go_num,by repeat (first | assumption | apply K_.drew | refine K_.trans ?_ (by assumption))⟩
    case measure=> simp [intOf];omega
  ·go_wp2
   go_ret
   exact ⟨rfl,hw⟩
theorem range3s {w:World} {b o:Nat} {x y z:Value} (h0:w.cell? ⟨b,o,none⟩=some x) (h1:w.cell? ⟨b,o+1,none⟩=some y) (h2:w.cell? ⟨b,o+2,none⟩=some z):w.rangeAt b o [x,y,z]:=by
 intro i v hv
 match i,hv with
 | 0,hv=> simp at hv;subst hv;exact h0
 | 1,hv=> simp at hv;subst hv;exact h1
 | 2,hv=> simp at hv;subst hv;exact h2
 | i+3,hv=> simp at hv
theorem markSlotS_any (w:World) (lo hi:Nat) (a:Option Addr) (cap:Nat) (l:List SlotD) (k:Nat) (h0:0 < k) (h1:k+l.length * 3<=4611686018427387904) (hS:SltsIn w lo hi a l):
  Calls Tryz.prog 39 #[.slice a l.length cap,.int .i64 k] w fun e w'=> e= .returned (.int .i64 ((k+l.length * 3:Nat):Int))∧SltsIn w' lo hi a (markSlts l k)∧Xk lo hi w w':=by
 rcases hS with rfl | ⟨B,rfl,hlo,hhi,hr,hf⟩
 ·go_enter Tryz.func39,Tryz.ntmps39
  go_wp2
  go_loopw [1,5] (fun x i wr=> x= .int .i64 k∧i= .int .i64 0∧wr=w) (fun _ _ _=> 0)
  case atStart=> exact ⟨rfl,rfl,rfl⟩
  case round=>
   obtain ⟨rfl,rfl,rfl⟩:=hrel
   go_wp2
   go_ret
   exact ⟨by simp,.inl rfl,Xk.refl _ _ _⟩
 ·clear hf
  go_enter Tryz.func39,Tryz.ntmps39
  go_wp2
  go_loopw [1,5] (fun x i wr=> ∃j m:Nat,j<=l.length∧i= .int .i64 j∧x= .int .i64 m∧m=k+j * 3∧Xk lo hi w wr∧Row wr B (l.length * 3)∧∀t,t < j->wr.rangeAt B (t * 3) (markSlt (k+t * 3)).cells) (fun _ i _=> l.length - (intOf i).toNat)
  case atStart=> exact ⟨0,k,Nat.zero_le _,rfl,rfl,by omega,Xk.refl _ _ _,hr,fun t ht=> absurd ht (Nat.not_lt_zero _)⟩
  case round=>
   obtain ⟨j,m,hj,rfl,rfl,hm,hw,hr',hf'⟩:=hrel
   clear hr
   have HMn:=Kz hm
   have HF:=Kz hf'
   by_cases hlt:j < l.length
   ·have hm0:0 < m:=by omega
    have hmb:m+3<=4611686018427387904:=by omega
    have hBs:=hr'.lt
    clear hf' hm
    obtain ⟨tx2,htx2,hmt2⟩: ∃txt,txt=mtext (m+2)∧∀z:Int,z= ((m+2:Nat):Int)->∀W,Calls Tryz.prog 38 #[.int .i64 z] W fun e w'=> e= .returned (.string txt)∧K_ W w':= ⟨_,rfl,fun z hz W=> by rw [hz];exact markText_any W _ (by omega) (by omega)⟩
    have HTX2:=Kz htx2
    have HMT2:=Kz hmt2
    obtain ⟨⟨_,f0c⟩,f0⟩:=hr'.at (i:=j * 3) (by omega)
    obtain ⟨⟨_,f1c⟩,f1⟩:=hr'.at (i:=j * 3+1) (by omega)
    have HR1:=Kz hr'
    clear htx2 hmt2 hr'
    go_wp2_with fail
    refine (HMT2.out _ (by omega) _).mono ?_
    rintro e w2 ⟨rfl,k2⟩
    have rA:=HR1.out.set ⟨B,j * 3,none⟩ rfl (.int .i64 (m:Int))
    have rB:=rA.set ⟨B,j * 3+1,none⟩ rfl (.int .i64 ((m:Int)+1))
    have e0:w2.cell? ⟨B,j * 3,none⟩=some (.int .i64 (m:Int)):=by rw [k2.cell rB.lt,Xx (by omega)];exact set_hit HR1.out (by omega) _
    have e1:w2.cell? ⟨B,j * 3+1,none⟩=some (.int .i64 ((m:Int)+1)):=by rw [k2.cell rB.lt];exact set_hit rA (by omega) _
    have t2:= (((Turn.refl B (j * 3) (j * 3+3) B B wr).setCell (o:=j * 3) (by omega) (by omega) (.int .i64 (m:Int))).setCell (o:=j * 3+1) (by omega) (by omega) (.int .i64 ((m:Int)+1))).kept k2 rB.lt
    have hr2:=rB.kept k2
    obtain ⟨⟨_,f3c⟩,f3⟩:=hr2.at (i:=j * 3+2) (by omega)
    have HR2:=Kz hr2
    have HT2:=Kz (t2.setCell (o:=j * 3+2) (by omega) (by omega) (.string tx2))
    have HE:=Kz (And.intro e0 e1)
    clear e0 e1 rA rB t2 hr2 k2 HR1 HMT2 f0 f0c f1 f1c
    go_wp2
    go_roundw
    case rel=>
     have tF:=HT2.out
     refine ⟨j+1,m+3,by omega,by go_num,by go_num,by have:=HMn.out;omega,hw.trans (tF.keptBut (by omega) (by omega) (by omega) (by omega)),HR2.out.set _ rfl _,fun t ht=> ?_⟩
     by_cases e:t=j
     ·subst e
      obtain ⟨e0,e1⟩:=HE.out
      have em:markSlt (k+t * 3)= ⟨(m:Int),m+1,mtext (m+2)⟩:=by unfold markSlt;rw [<-HMn.out]
      rw [em]
      have e3:=set_hit HR2.out (show t * 3+2 < l.length * 3 by omega) (.string tx2)
      rw [HTX2.out] at e3⊢
      exact range3s (by rw [Xx (by omega)];exact e0) (by rw [Xx (by omega),e1];rfl) e3
     ·exact tF.range (by simp [SlotD.cells];omega) (HF.out t (by omega))
    case measure=> simp [intOf];omega
   ·have:j=l.length:=by omega
    subst this
    go_wp2
    go_ret
    refine ⟨ret_int (by have:=HMn.out;omega),.inr ⟨B,rfl,hlo,hhi,by rw [markSlts_length];exact hr',fun i hi'=> ?_⟩,hw⟩
    rw [markSlts_length] at hi'
    rw [markSlts_getD _ _ _ hi']
    exact HF.out i hi'
theorem heldSlotS_yes (w:World) (a:Option Addr) (cap:Nat) (l:List SlotD) (k:Nat) (h0:0 < k) (h1:k+l.length * 3<=4611686018427387904) (hS:Slts w a (markSlts l k)):
  Calls Tryz.prog 41 #[.slice a l.length cap,.int .i64 k] w fun e w'=> e= .returned (.int .i64 ((k+l.length * 3:Nat):Int))∧K_ w w':=by
 go_enter Tryz.func41,Tryz.ntmps41
 go_wp2
 go_loopw [1,5] (fun x i wr=> ∃j m:Nat,j<=l.length∧i= .int .i64 j∧x= .int .i64 m∧m=k+j * 3∧K_ w wr) (fun _ i _=> l.length - (intOf i).toNat)
 case atStart=> exact ⟨0,k,Nat.zero_le _,rfl,rfl,by omega,K_.refl _⟩
 case round=>
  obtain ⟨j,m,hj,rfl,rfl,hm,hw⟩:=hrel
  have HMn:=Kz hm
  by_cases hlt:j < l.length
  ·obtain ⟨b,o,rfl,hb,hc⟩:=hS.kept hw j (by rw [markSlts_length];exact hlt)
   rw [markSlts_getD _ _ _ hlt,<-hm] at hc
   have hm4:m+3<=4611686018427387904:=by omega
   have hm0:0 < m:=by omega
   obtain ⟨tx2,htx2,hmt2⟩: ∃txt,txt=mtext (m+2)∧∀z:Int,z= ((m+2:Nat):Int)->∀W,Calls Tryz.prog 38 #[.int .i64 z] W fun e w'=> e= .returned (.string txt)∧K_ W w':= ⟨_,rfl,fun z hz W=> by rw [hz];exact markText_any W _ (by omega) (by omega)⟩
   have c0:wr.cell? ⟨b,o+j * 3+0,none⟩=some (.int .i64 (m:Int)):=hc 0 _ rfl
   have c1:wr.cell? ⟨b,o+j * 3+1,none⟩=some (.int .i64 ((m:Int)+1)):=hc 1 _ rfl
   have c2:=hc 2 (.string tx2) (by rw [htx2];rfl)
   rw [Nat.add_zero] at c0
   have HMT2:=Kz hmt2
   clear hc htx2 hmt2 hm
   have Zz:Hid (∀w',K_ wr w'->(fun w'=> w'.cell? ⟨b,o+j * 3+2,none⟩=some (.string tx2)) w'):=fun w' kk=> (kk.cell hb).trans c2
   go_wp2
   go_region_held (fun w'=> w'.cell? ⟨b,o+j * 3+2,none⟩=some (.string tx2)) (exact unhide Zz _ (by repeat (first | (with_reducible exact K_.refl _) | (with_reducible assumption) | apply K_.drew))) ((go_at_call 38;refine (HMT2.out _ (by omega) _).mono ?_;rintro e w1 ⟨rfl,kk1⟩;have k1:K_ wr w1:=K_.trans (by repeat (first | (with_reducible exact K_.refl _) | (with_reducible assumption) | apply K_.drew)) kk1))
   all_goals
    clear c0 c1 c2
    go_wp2
    go_roundw
    case rel=> exact ⟨j+1,m+3,by omega,by go_num,by go_num,by have:=HMn.out;omega,by repeat (first | exact hw.trans k1 | apply K_.drew)⟩
    case measure=> simp [intOf];omega
  ·have:j=l.length:=by omega
   subst this
   go_wp2
   go_ret
   exact ⟨ret_int (by have:=HMn.out;omega),hw⟩
