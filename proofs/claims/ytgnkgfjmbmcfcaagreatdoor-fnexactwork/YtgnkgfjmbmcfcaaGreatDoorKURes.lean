import Derived.Test.YtgnkgfjmbmcfcaaGreatDoorKOMark4
import Derived.Deep.RegionHeld
set_option maxRecDepth 100000
set_option maxHeartbeats 25600000
namespace Go.Proofs.YtgnkgfjmbmcfcaaGreatDoor
open Go.RowKit
structure ResD where
 name:ByteArray
 over:Bool
 fail:Bool
 text:ByteArray
def ResD.zero :ResD:= ⟨⟨#[]⟩,false,false,⟨#[]⟩⟩
def ResD.cells (r:ResD):List Value:=[.string r.name,.bool r.over,.bool r.fail,.string r.text]
def Ress (w:World) (a:Option Addr) (l:List ResD):Prop:=
 ∀i,i < l.length->∃b o,a=some ⟨b,o,none⟩∧b < w.heap.size∧w.rangeAt b (o+i * 4) (l.getD i ResD.zero).cells
theorem Ress.kept {w w':World} {a:Option Addr} {l:List ResD} (h:Ress w a l) (k:K_ w w'):Ress w' a l:=by
 intro i hi
 obtain ⟨b,o,ha,hb,hc⟩:=h i hi
 exact ⟨b,o,ha,Nat.lt_of_lt_of_le hb k.size,k.range hb hc⟩
def RessIn (w:World) (lo hi:Nat) (a:Option Addr) (l:List ResD):Prop:=
 l=[]∨∃b,a=some ⟨b,0,none⟩∧lo<=b∧b < hi∧Row w b (l.length * 4)∧∀i,i < l.length->w.rangeAt b (i * 4) (l.getD i ResD.zero).cells
theorem RessIn.same {w w':World} {lo hi:Nat} {a:Option Addr} {l:List ResD} (h:RessIn w lo hi a l) (k:Same lo hi w w'):RessIn w' lo hi a l:=by
 rcases h with h | ⟨b,ha,h1,h2,hr,hc⟩
 ·exact .inl h
 ·exact .inr ⟨b,ha,h1,h2,k.row h1 h2 hr,fun i hi=> k.range h1 h2 hr.lt (hc i hi)⟩
theorem RessIn.mono {w:World} {lo hi lo' hi':Nat} {a:Option Addr} {l:List ResD} (h:RessIn w lo hi a l) (h1:lo'<=lo) (h2:hi<=hi'):RessIn w lo' hi' a l:=by
 rcases h with h | ⟨b,ha,g1,g2,hr,hc⟩
 ·exact .inl h
 ·exact .inr ⟨b,ha,by omega,by omega,hr,hc⟩
theorem RessIn.ress {w:World} {lo hi:Nat} {a:Option Addr} {l:List ResD} (h:RessIn w lo hi a l):Ress w a l:=by
 rcases h with rfl | ⟨b,ha,h1,h2,hr,hc⟩
 ·intro i hi
  simp at hi
 ·intro i hi
  exact ⟨b,0,ha,hr.lt,by rw [Nat.zero_add];exact hc i hi⟩
def markRes (k:Nat):ResD:= ⟨mtext k,decide ((k+1) % 3=0),decide ((k+2) % 3=0),mtext (k+3)⟩
def markRess (l:List ResD) (k:Nat):List ResD:=l.mapIdx fun i _=> markRes (k+i * 4)
theorem markRess_length (l:List ResD) (k:Nat): (markRess l k).length=l.length:=by simp [markRess]
theorem markRess_getD (l:List ResD) (k i:Nat) (h:i < l.length): (markRess l k).getD i ResD.zero=markRes (k+i * 4):=by simp [markRess,List.getD,h]
theorem eqResult_yes (w:World) (r:ResD):
  Calls Tryz.prog 135 #[.agg #[.string r.name,.bool r.over,.bool r.fail,.string r.text],.agg #[.string r.name,.bool r.over,.bool r.fail,.string r.text]] w fun e w'=> e= .returned (.bool true)∧K_ w w':=by
 go_enter Tryz.func135,Tryz.ntmps135
 go_wp2
 go_ret
 exact ⟨rfl,by repeat (first | apply K_.alloc | apply K_.drew | exact K_.refl _)⟩
theorem eqResultS_yes (w:World) (a a':Option Addr) (cap cap':Nat) (l:List ResD) (hl:l.length<=maxLen)
  (hS:Ress w a l) (hS':Ress w a' l):
  Calls Tryz.prog 89 #[.slice a l.length cap,.slice a' l.length cap'] w fun e w'=> e= .returned (.bool true)∧K_ w w':=by
 unfold maxLen at hl
 go_enter Tryz.func89,Tryz.ntmps89
 go_wp2
 go_loopw [5] (fun i wr=> ∃k:Nat,k<=l.length∧i= .int .i64 k∧K_ w wr) (fun i _=> l.length - (intOf i).toNat)
 case atStart=> exact ⟨0,Nat.zero_le _,rfl,K_.refl _⟩
 case round=>
  obtain ⟨k,hk,rfl,hw⟩:=hrel
  by_cases hlt:k < l.length
  ·obtain ⟨b,o,rfl,hb,hc⟩:=hS.kept hw k hlt
   obtain ⟨b',o',rfl,hb',hc'⟩:=hS'.kept hw k hlt
   generalize l.getD k ResD.zero=c at *
   have c0:=hc 0 _ rfl
   have c1:=hc 1 _ rfl
   have c2:=hc 2 _ rfl
   have c3:=hc 3 _ rfl
   have d0:=hc' 0 _ rfl
   have d1:=hc' 1 _ rfl
   have d2:=hc' 2 _ rfl
   have d3:=hc' 3 _ rfl
   simp only [Nat.add_zero] at c0 d0
   clear hc hc'
   go_wp2
   go_region_with (go_at_call 135;refine (eqResult_yes _ c).mono ?_;rintro e w1 ⟨rfl,hw1⟩)
   all_goals
    go_wp2
    go_roundw
    case rel=> exact ⟨k+1,by omega,by go_num,by repeat (first | assumption | apply K_.drew | refine K_.trans ?_ (by assumption))⟩
    case measure=> simp [intOf];omega
  ·go_wp2
   go_ret
   exact ⟨rfl,hw⟩
theorem range4 {w:World} {b o:Nat} {x y z u:Value} (h0:w.cell? ⟨b,o,none⟩=some x) (h1:w.cell? ⟨b,o+1,none⟩=some y) (h2:w.cell? ⟨b,o+2,none⟩=some z) (h3:w.cell? ⟨b,o+3,none⟩=some u):w.rangeAt b o [x,y,z,u]:=by
 intro i v hv
 match i,hv with
 | 0,hv=> simp at hv;subst hv;exact h0
 | 1,hv=> simp at hv;subst hv;exact h1
 | 2,hv=> simp at hv;subst hv;exact h2
 | 3,hv=> simp at hv;subst hv;exact h3
 | i+4,hv=> simp at hv
theorem markResultS_any (w:World) (lo hi:Nat) (a:Option Addr) (cap:Nat) (l:List ResD) (k:Nat) (h0:0 < k) (h1:k+l.length * 4<=4611686018427387904) (hS:RessIn w lo hi a l):
  Calls Tryz.prog 92 #[.slice a l.length cap,.int .i64 k] w fun e w'=> e= .returned (.int .i64 ((k+l.length * 4:Nat):Int))∧RessIn w' lo hi a (markRess l k)∧Xk lo hi w w':=by
 rcases hS with rfl | ⟨B,rfl,hlo,hhi,hr,hf⟩
 ·go_enter Tryz.func92,Tryz.ntmps92
  go_wp2
  go_loopw [1,5] (fun x i wr=> x= .int .i64 k∧i= .int .i64 0∧wr=w) (fun _ _ _=> 0)
  case atStart=> exact ⟨rfl,rfl,rfl⟩
  case round=>
   obtain ⟨rfl,rfl,rfl⟩:=hrel
   go_wp2
   go_ret
   exact ⟨by simp,.inl rfl,Xk.refl _ _ _⟩
 ·clear hf
  go_enter Tryz.func92,Tryz.ntmps92
  go_wp2
  go_loopw [1,5] (fun x i wr=> ∃j m:Nat,j<=l.length∧i= .int .i64 j∧x= .int .i64 m∧m=k+j * 4∧Xk lo hi w wr∧Row wr B (l.length * 4)∧∀t,t < j->wr.rangeAt B (t * 4) (markRes (k+t * 4)).cells) (fun _ i _=> l.length - (intOf i).toNat)
  case atStart=> exact ⟨0,k,Nat.zero_le _,rfl,rfl,by omega,Xk.refl _ _ _,hr,fun t ht=> absurd ht (Nat.not_lt_zero _)⟩
  case round=>
   obtain ⟨j,m,hj,rfl,rfl,hm,hw,hr',hf'⟩:=hrel
   clear hr
   have HMn:=Kz hm
   have HF:=Kz hf'
   by_cases hlt:j < l.length
   ·have hm0:0 < m:=by omega
    have hmb:m+4<=4611686018427387904:=by omega
    have hBs:=hr'.lt
    clear hf' hm
    obtain ⟨txt,htx,hmt⟩:=markM m hm0 (by omega)
    obtain ⟨tx2,htx2,hmt2⟩: ∃txt,txt=mtext (m+3)∧∀z:Int,z= ((m+3:Nat):Int)->∀W,Calls Tryz.prog 38 #[.int .i64 z] W fun e w'=> e= .returned (.string txt)∧K_ W w':= ⟨_,rfl,fun z hz W=> by rw [hz];exact markText_any W _ (by omega) (by omega)⟩
    have HTX:=Kz htx
    have HMT:=Kz hmt
    have HTX2:=Kz htx2
    have HMT2:=Kz hmt2
    clear htx hmt htx2 hmt2
    go_wp2_with fail
    refine (HMT.out _).mono ?_
    rintro e w1 ⟨rfl,k1⟩
    have hr1:=hr'.kept k1
    obtain ⟨⟨_,f0c⟩,f0⟩:=hr1.at (i:=j * 4) (by omega)
    obtain ⟨⟨_,f1c⟩,f1⟩:=hr1.at (i:=j * 4+1) (by omega)
    obtain ⟨⟨_,f2c⟩,f2⟩:=hr1.at (i:=j * 4+2) (by omega)
    have t1:= (Turn.refl B (j * 4) (j * 4+4) B B wr).kept k1 hBs
    have HR1:=Kz hr1
    have HT1:=Kz t1
    clear hr' k1 HMT hr1 t1
    go_wp2_with fail
    refine (HMT2.out _ (by omega) _).mono ?_
    rintro e w2 ⟨rfl,k2⟩
    have rA:=HR1.out.set ⟨B,j * 4,none⟩ rfl (.string txt)
    have rB:=rA.set ⟨B,j * 4+1,none⟩ rfl (.bool (((m:Int)+1) % 3 == 0))
    have rC:=rB.set ⟨B,j * 4+2,none⟩ rfl (.bool (((m:Int)+1+1) % 3 == 0))
    have e0:w2.cell? ⟨B,j * 4,none⟩=some (.string txt):=by rw [k2.cell rC.lt,Xx (by omega),Xx (by omega)];exact set_hit HR1.out (by omega) _
    have e1:w2.cell? ⟨B,j * 4+1,none⟩=some (.bool (((m:Int)+1) % 3 == 0)):=by rw [k2.cell rC.lt,Xx (by omega)];exact set_hit rA (by omega) _
    have e2:w2.cell? ⟨B,j * 4+2,none⟩=some (.bool (((m:Int)+1+1) % 3 == 0)):=by rw [k2.cell rC.lt];exact set_hit rB (by omega) _
    have t2:= (((HT1.out.setCell (o:=j * 4) (by omega) (by omega) (.string txt)).setCell (o:=j * 4+1) (by omega) (by omega) (.bool (((m:Int)+1) % 3 == 0))).setCell (o:=j * 4+2) (by omega) (by omega) (.bool (((m:Int)+1+1) % 3 == 0))).kept k2 rC.lt
    have hr2:=rC.kept k2
    obtain ⟨⟨_,f3c⟩,f3⟩:=hr2.at (i:=j * 4+3) (by omega)
    have HR2:=Kz hr2
    have HT2:=Kz (t2.setCell (o:=j * 4+3) (by omega) (by omega) (.string tx2))
    have HE:=Kz (And.intro e0 (And.intro e1 e2))
    clear e0 e1 e2 rA rB rC t2 hr2 k2 HR1 HT1 HMT2 f0 f0c f1 f1c f2 f2c
    go_wp2
    go_roundw
    case rel=>
     have tF:=HT2.out
     refine ⟨j+1,m+4,by omega,by go_num,by go_num,by have:=HMn.out;omega,hw.trans (tF.keptBut (by omega) (by omega) (by omega) (by omega)),HR2.out.set _ rfl _,fun t ht=> ?_⟩
     by_cases e:t=j
     ·subst e
      obtain ⟨e0,e1,e2⟩:=HE.out
      rw [mod3 m 1 _ (by omega)] at e1
      rw [mod3 m 2 _ (by omega)] at e2
      rw [HTX.out] at e0
      have em:markRes (k+t * 4)= ⟨mtext m,decide ((m+1) % 3=0),decide ((m+2) % 3=0),mtext (m+3)⟩:=by unfold markRes;rw [<-HMn.out]
      rw [em]
      have e3:=set_hit HR2.out (show t * 4+3 < l.length * 4 by omega) (.string tx2)
      rw [HTX2.out] at e3⊢
      exact range4 (by rw [Xx (by omega)];exact e0) (by rw [Xx (by omega)];exact e1) (by rw [Xx (by omega)];exact e2) e3
     ·exact tF.range (by simp [ResD.cells];omega) (HF.out t (by omega))
    case measure=> simp [intOf];omega
   ·have:j=l.length:=by omega
    subst this
    go_wp2
    go_ret
    refine ⟨ret_int (by have:=HMn.out;omega),.inr ⟨B,rfl,hlo,hhi,by rw [markRess_length];exact hr',fun i hi'=> ?_⟩,hw⟩
    rw [markRess_length] at hi'
    rw [markRess_getD _ _ _ hi']
    exact HF.out i hi'
theorem heldResultS_yes (w:World) (a:Option Addr) (cap:Nat) (l:List ResD) (k:Nat) (h0:0 < k) (h1:k+l.length * 4<=4611686018427387904) (hS:Ress w a (markRess l k)):
  Calls Tryz.prog 93 #[.slice a l.length cap,.int .i64 k] w fun e w'=> e= .returned (.int .i64 ((k+l.length * 4:Nat):Int))∧K_ w w':=by
 go_enter Tryz.func93,Tryz.ntmps93
 go_wp2
 go_loopw [1,5] (fun x i wr=> ∃j m:Nat,j<=l.length∧i= .int .i64 j∧x= .int .i64 m∧m=k+j * 4∧K_ w wr) (fun _ i _=> l.length - (intOf i).toNat)
 case atStart=> exact ⟨0,k,Nat.zero_le _,rfl,rfl,by omega,K_.refl _⟩
 case round=>
  obtain ⟨j,m,hj,rfl,rfl,hm,hw⟩:=hrel
  have HMn:=Kz hm
  by_cases hlt:j < l.length
  ·obtain ⟨b,o,rfl,hb,hc⟩:=hS.kept hw j (by rw [markRess_length];exact hlt)
   rw [markRess_getD _ _ _ hlt,<-hm] at hc
   have hm4:m+4<=4611686018427387904:=by omega
   have hm0:0 < m:=by omega
   obtain ⟨txt,htx,hmt⟩:=markM m hm0 (by omega)
   obtain ⟨tx2,htx2,hmt2⟩: ∃txt,txt=mtext (m+3)∧∀z:Int,z= ((m+3:Nat):Int)->∀W,Calls Tryz.prog 38 #[.int .i64 z] W fun e w'=> e= .returned (.string txt)∧K_ W w':= ⟨_,rfl,fun z hz W=> by rw [hz];exact markText_any W _ (by omega) (by omega)⟩
   have c0:=hc 0 (.string txt) (by rw [htx];rfl)
   have c1:=hc 1 (.bool (decide ((m+1) % 3=0))) rfl
   have c2:=hc 2 (.bool (decide ((m+2) % 3=0))) rfl
   have c3:=hc 3 (.string tx2) (by rw [htx2];rfl)
   rw [<-mod3 m 1 ((m:Int)+1) (by omega)] at c1
   rw [<-mod3 m 2 ((m:Int)+1+1) (by omega)] at c2
   rw [Nat.add_zero] at c0
   have HMT:=Kz hmt
   have HMT2:=Kz hmt2
   clear hc htx hmt htx2 hmt2 hm
   have Zz:Hid (∀w',K_ wr w'->(fun w'=> w'.cell? ⟨b,o+j * 4,none⟩=some (.string txt)∧w'.cell? ⟨b,o+j * 4+3,none⟩=some (.string tx2)) w'):=fun w' kk=> ⟨(kk.cell hb).trans c0,(kk.cell hb).trans c3⟩
   go_wp2
   go_region_held (fun w'=> w'.cell? ⟨b,o+j * 4,none⟩=some (.string txt)∧w'.cell? ⟨b,o+j * 4+3,none⟩=some (.string tx2)) (exact unhide Zz _ (by repeat (first | (with_reducible exact K_.refl _) | (with_reducible assumption) | apply K_.drew))) ((go_at_call 38;refine (HMT.out _).mono ?_;rintro e w1 ⟨rfl,kk1⟩;have k1:K_ wr w1:=K_.trans (by repeat (first | (with_reducible exact K_.refl _) | (with_reducible assumption) | apply K_.drew)) kk1))
   all_goals
    have d0:= (k1.cell (o:=o+j * 4) hb).trans c0
    have d1:= (k1.cell (o:=o+j * 4+1) hb).trans c1
    have d2:= (k1.cell (o:=o+j * 4+2) hb).trans c2
    have d3:= (k1.cell (o:=o+j * 4+3) hb).trans c3
    have z1:=k1.size
    have hb1:b < w1.heap.size:=by omega
    have HSO1:Hid (∀w',K_ w1 w'->(fun w'=> w'.cell? ⟨b,o+j * 4,none⟩=some (.string txt)∧w'.cell? ⟨b,o+j * 4+3,none⟩=some (.string tx2)) w'):=fun w' kk=> Zz.out w' (k1.trans kk)
    go_wp2
    go_region_held (fun w'=> w'.cell? ⟨b,o+j * 4,none⟩=some (.string txt)∧w'.cell? ⟨b,o+j * 4+3,none⟩=some (.string tx2)) (exact unhide HSO1 _ (by repeat (first | (with_reducible exact K_.refl _) | (with_reducible assumption) | apply K_.drew))) ((go_at_call 38;refine (HMT2.out _ (by omega) _).mono ?_;rintro e w2 ⟨rfl,kk2⟩;have k2:K_ w1 w2:=K_.trans (by repeat (first | (with_reducible exact K_.refl _) | (with_reducible assumption) | apply K_.drew)) kk2))
    all_goals
     have k12:=k1.trans k2
     clear c0 c1 c2 c3 d0 d1 d2 d3
     go_wp2
     go_roundw
     case rel=> exact ⟨j+1,m+4,by omega,by go_num,by go_num,by have:=HMn.out;omega,by repeat (first | exact hw.trans k12 | apply K_.drew)⟩
     case measure=> simp [intOf];omega
  ·have:j=l.length:=by omega
   subst this
   go_wp2
   go_ret
   exact ⟨ret_int (by have:=HMn.out;omega),hw⟩
