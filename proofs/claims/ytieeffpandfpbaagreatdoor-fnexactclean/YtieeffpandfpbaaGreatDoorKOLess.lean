import Derived.Test.YtieeffpandfpbaaGreatDoorProg
import Derived.WalkKit
import Derived.WalkSpells
import Derived.WalkLawsBesides
import Derived.Deep.OwnRows
import Derived.Deep.RegionWith
import Derived.Test.YtieeffpandfpbaaGreatDoorKSRoots
set_option maxRecDepth 100000
set_option maxHeartbeats 25600000
namespace Go.Proofs.YtieeffpandfpbaaGreatDoor
open Go.RowKit
theorem szCase_any (w:World) (c:CaseD) (left:Int) (hs:c.text.size<=maxLen) (h0:0<=left) (h1:left<=1048576):
  Calls Tryz.prog 226 #[.agg #[.string c.text,.int .i64 c.goto],.int .i64 left] w fun e w'=> e= .returned (.int .i64 (szL c.text.size left))∧K_ w w':=by
 unfold maxLen at hs
 go_enter Tryz.func226,Tryz.ntmps226
 go_wp2
 ·go_ret
  exact ⟨ret_int (szL_neg (by omega)).symm,(K_.refl _).alloc _⟩
 ·go_ret
  exact ⟨ret_int (szL_pos (by omega)).symm,(K_.refl _).alloc _⟩
theorem toCase_any (w:World) (c:CaseD):
  Calls Tryz.prog 227 #[.agg #[.string c.text,.int .i64 c.goto]] w fun e w'=> e= .returned (.agg #[.string c.text,.int .i64 c.goto])∧K_ w w':=by
 go_enter Tryz.func227,Tryz.ntmps227
 go_wp2
 exact bodyPost_ret (v:= .agg #[.string c.text,.int .i64 c.goto]) (by simp [results,Tryz.results227,go_sem]) rfl ⟨rfl,by
  repeat (first | apply K_.alloc | (refine K_.setCell ?_ (by simp) _) | exact K_.refl _)⟩
theorem eqCase_yes (w:World) (c:CaseD):
  Calls Tryz.prog 234 #[.agg #[.string c.text,.int .i64 c.goto],.agg #[.string c.text,.int .i64 c.goto]] w fun e w'=> e= .returned (.bool true)∧K_ w w':=by
 go_enter Tryz.func234,Tryz.ntmps234
 go_wp2
 go_ret
 exact ⟨rfl,by repeat (first | apply K_.alloc | apply K_.drew | exact K_.refl _)⟩
def szCases (l:List CaseD):Nat:=l.length+ (l.map (·.text.size)).sum
theorem szCaseS_any (w:World) (a:Option Addr) (cap:Nat) (l:List CaseD) (left:Int) (hl:l.length<=maxLen) (hs: ∀c∈l,c.text.size<=maxLen)
  (hS:Cases w a l) (h0:0<=left) (h1:left<=1048576):
  Calls Tryz.prog 210 #[.slice a l.length cap,.int .i64 left] w fun e w'=> e= .returned (.int .i64 (szL (szCases l) left))∧K_ w w':=by
 unfold maxLen at hl
 go_enter Tryz.func210,Tryz.ntmps210
 go_wp2
 ·go_ret
  exact ⟨ret_int (szL_neg (by unfold szCases;omega)).symm,K_.refl _⟩
 ·go_loopw [1,5] (fun x i wr=> ∃k:Nat,k<=l.length∧i= .int .i64 k∧x= .int .i64 (left - l.length - sumTo (·.text.size) l k)∧0<=left - l.length - sumTo (·.text.size) l k∧K_ w wr) (fun _ i _=> l.length - (intOf i).toNat)
  case atStart=> exact ⟨0,Nat.zero_le _,rfl,by simp [sumTo_zero],by simp [sumTo_zero];omega,K_.refl _⟩
  case round=>
   obtain ⟨k,hk,rfl,rfl,hge,hw⟩:=hrel
   by_cases hlt:k < l.length
   ·obtain ⟨b,o,rfl,hb,hc⟩:=hS.kept hw k hlt
    have hsz: (l.getD k CaseD.zero).text.size<=maxLen:=hs _ (by simp [List.getD,hlt])
    have HS:Hid (sumTo (·.text.size) l (k+1)=sumTo (·.text.size) l k+ (l.getD k CaseD.zero).text.size):=sumTo_succ _ l _ k hlt
    have HT:=sumTo_le (·.text.size) l (k+1)
    generalize l.getD k CaseD.zero=c at *
    have c0:=hc 0 _ rfl
    have c1:=hc 1 _ rfl
    simp only [Nat.add_zero] at c0
    go_wp2_with fail
    refine (szCase_any _ c _ hsz (by omega) (by omega)).mono ?_
    rintro e w1 ⟨rfl,hw1⟩
    have hw2:=hw.trans hw1
    by_cases hle: (c.text.size:Int)<=left - l.length - sumTo (·.text.size) l k
    ·rw [szL_pos hle]
     clear c0 c1 hc hw hw1
     go_wp2
     go_roundw
     case rel=> exact ⟨k+1,by omega,by go_num,by rw [HS.out];go_num,by rw [HS.out];omega,hw2⟩
     case measure=> simp [intOf];omega
    ·rw [szL_neg (by omega)]
     clear c0 c1 hc hw hw1
     go_wp2
     go_ret
     exact ⟨ret_int (szL_neg (by unfold szCases;have:=HS.out;omega)).symm,hw2⟩
   ·go_wp2
    go_ret
    have:k=l.length:=by omega
    subst this
    rw [sumTo_all] at hge⊢
    exact ⟨ret_int (by rw [szL_pos (by unfold szCases;omega)];unfold szCases;omega),hw⟩
theorem eqCaseS_yes (w:World) (a a':Option Addr) (cap cap':Nat) (l:List CaseD) (hl:l.length<=maxLen)
  (hS:Cases w a l) (hS':Cases w a' l):
  Calls Tryz.prog 220 #[.slice a l.length cap,.slice a' l.length cap'] w fun e w'=> e= .returned (.bool true)∧K_ w w':=by
 unfold maxLen at hl
 go_enter Tryz.func220,Tryz.ntmps220
 go_wp2
 go_loopw [5] (fun i wr=> ∃k:Nat,k<=l.length∧i= .int .i64 k∧K_ w wr) (fun i _=> l.length - (intOf i).toNat)
 case atStart=> exact ⟨0,Nat.zero_le _,rfl,K_.refl _⟩
 case round=>
  obtain ⟨k,hk,rfl,hw⟩:=hrel
  by_cases hlt:k < l.length
  ·obtain ⟨b,o,rfl,hb,hc⟩:=hS.kept hw k hlt
   obtain ⟨b',o',rfl,hb',hc'⟩:=hS'.kept hw k hlt
   generalize l.getD k CaseD.zero=c at *
   have c0:=hc 0 _ rfl
   have c1:=hc 1 _ rfl
   have d0:=hc' 0 _ rfl
   have d1:=hc' 1 _ rfl
   simp only [Nat.add_zero] at c0 d0
   clear hc hc'
   go_wp2
   go_region_with (go_at_call 234;refine (eqCase_yes _ c).mono ?_;rintro e w1 ⟨rfl,hw1⟩)
   all_goals
    go_wp2
    go_roundw
    case rel=> exact ⟨k+1,by omega,by go_num,by repeat (first | assumption | apply K_.drew | refine K_.trans ?_ (by assumption))⟩
    case measure=> simp [intOf];omega
  ·go_wp2
   go_ret
   exact ⟨rfl,hw⟩
theorem Tryz.sizeCase : (Tryz.prog.info? 234).map (·.size)=some 2:=by kernel_rfl
theorem Tryz.infoCase : (Tryz.prog.info? 234).map (fun i=> (i.zero,i.size,i.bytes))=some (some (.agg #[.string ByteArray.empty,.int .i64 0]),2,24):=by kernel_rfl
theorem toCaseS_any (w:World) (a:Option Addr) (cap:Nat) (l:List CaseD) (hl:l.length<=1048576)
  (hS:Cases w a l):
  Calls Tryz.prog 211 #[.slice a l.length cap] w fun e w'=> ∃b,e= .returned (.slice (some ⟨b,0,none⟩) l.length l.length)∧Cases w' (some ⟨b,0,none⟩) l∧K_ w w'∧w.heap.size<=b:=by
 have hmk:=run_make_many (P:=Tryz.prog) 189 234 _ _ _ Tryz.underlying189 Tryz.infoCase .i64 .i64 l.length (by omega) (by omega)
 go_enter Tryz.func211,Tryz.ntmps211
 go_wp2
 clear hmk
 have hrow:=Row.made w (madeCells #[.string ByteArray.empty,.int .i64 0] (l.length * 2)) 234
 rw [size_madeCells] at hrow
 have hkept:K_ w (w.alloc (.cells (madeCells #[.string ByteArray.empty,.int .i64 0] (l.length * 2)) 234)):= (K_.refl _).alloc _
 go_loopw [4] (fun i wr=> ∃k:Nat,k<=l.length∧i= .int .i64 k∧K_ w wr∧Row wr w.heap.size (l.length * 2)∧∀j,j < k->wr.rangeAt w.heap.size (j * 2) (l.getD j CaseD.zero).cells) (fun i _=> l.length - (intOf i).toNat)
 case atStart=> exact ⟨0,Nat.zero_le _,rfl,hkept,hrow,fun j hj=> absurd hj (Nat.not_lt_zero _)⟩
 case round=>
  obtain ⟨k,hk,rfl,hw,hr,hf⟩:=hrel
  clear hrow hkept
  by_cases hlt:k < l.length
  ·obtain ⟨b,o,rfl,hb,hc⟩:=hS.kept hw k hlt
   have HF:=Kz hf
   clear hf
   generalize hs:l.getD k CaseD.zero=c at *
   have HSs:=Kz hs
   clear hs
   have c0:=hc 0 _ rfl
   have c1:=hc 1 _ rfl
   simp only [Nat.add_zero] at c0
   clear hc
   go_wp2_with fail
   refine (toCase_any _ c).mono ?_
   rintro e w1 ⟨rfl,hw1⟩
   have hw2:=hw.trans hw1
   have hr1:=hr.kept hw1
   have hth:=hr1.there (o:=k * 2) (m:=2) (by omega)
   have HR:Hid (Row w1 w.heap.size (l.length * 2)):=hr1
   have HF1:Hid (∀j,j < k->w1.rangeAt w.heap.size (j * 2) (l.getD j CaseD.zero).cells):=fun j hj=> hw1.range hr.lt (HF.out j hj)
   clear HF c0 c1 hw hw1 hr hr1
   go_wp2_with (refine wpList_store_mid rfl 234 _ _ rfl w.heap.size (k * 2) #[.string c.text,.int .i64 c.goto] rfl rfl hth Tryz.sizeCase (CaseD.one c) ?_)
   go_roundw
   case rel=>
    refine ⟨k+1,by omega,by go_num,K_.setCells (Nat.le_refl _) _ _ hw2,Row.setCells _ _ HR.out,fun j hj=> ?_⟩
    by_cases e:j=k
    ·subst e
     rw [unhide HSs]
     exact World.rangeAt_setCells_same _ _ _ _ hth
    ·exact World.rangeAt_setCells_apart (HF1.out j (by omega)) _ _ _ (by simp [CaseD.cells];omega)
   case measure=> simp [intOf];omega
  ·go_wp2
   go_ret
   have:k=l.length:=by omega
   subst this
   exact ⟨w.heap.size,rfl,fun j hj=> ⟨w.heap.size,0,rfl,hr.lt,by rw [Nat.zero_add];exact hf j hj⟩,hw,Nat.le_refl _⟩
def szStepD (s:Xj):Nat:=szStrs s.asks+szCases s.cases+s.give.size
theorem szStep_any (w:World) (s:Xj) (aa ac:Option Addr) (ca cc:Nat) (left:Int) (hs:s.Fits) (hA:Strs w aa s.asks) (hC:Cases w ac s.cases) (h0:0<=left) (h1:left<=1048576):
  Calls Tryz.prog 177 #[.agg #[.slice aa s.asks.length ca,.int .i64 s.on,.slice ac s.cases.length cc,.int .i64 s.els,.int .i64 s.fall,.bool s.fin,.bool s.bad,.string s.give],.int .i64 left] w fun e w'=> e= .returned (.int .i64 (szL (szStepD s) left))∧K_ w w':=by
 have hg:=hs.give
 unfold maxLen at hg
 have k0:K_ w (w.alloc (.cells #[.slice aa s.asks.length ca,.int .i64 s.on,.slice ac s.cases.length cc,.int .i64 s.els,.int .i64 s.fall,.bool s.fin,.bool s.bad,.string s.give] 250)):= (K_.refl _).alloc _
 go_enter Tryz.func177,Tryz.ntmps177
 go_wp2_with fail
 refine (szStringS_any _ _ _ _ _ hs.asks hs.askEach (hA.kept k0) h0 h1).mono ?_
 rintro e w1 ⟨rfl,rfl⟩
 by_cases hle: (szStrs s.asks:Int)<=left
 ·rw [szL_pos hle]
  go_wp2_with fail
  refine (szCaseS_any _ _ _ _ _ hs.cases (fun c hc=> (hs.caseEach c hc).1) (hC.kept k0) (by omega) (by omega)).mono ?_
  rintro e w1 ⟨rfl,k1⟩
  have k2:=k0.trans k1
  by_cases hle2: (szCases s.cases:Int)<=left - szStrs s.asks
  ·rw [szL_pos hle2]
   have hc: ∀o,w1.cell? ⟨w.heap.size,o,none⟩= (w.alloc (.cells #[.slice aa s.asks.length ca,.int .i64 s.on,.slice ac s.cases.length cc,.int .i64 s.els,.int .i64 s.fall,.bool s.fin,.bool s.bad,.string s.give] 250)).cell? ⟨w.heap.size,o,none⟩:=fun o=> k1.cell (by simp)
   go_wp2
   ·go_ret
    exact ⟨ret_int (szL_neg (by unfold szStepD;omega)).symm,k2⟩
   ·go_ret
    exact ⟨ret_int (by rw [szL_pos (by unfold szStepD;omega)];unfold szStepD;omega),k2⟩
  ·rw [szL_neg (by omega)]
   go_wp2
   go_ret
   exact ⟨ret_int (szL_neg (by unfold szStepD;omega)).symm,k2⟩
 ·rw [szL_neg (by omega)]
  go_wp2
  go_ret
  exact ⟨ret_int (szL_neg (by unfold szStepD;omega)).symm,k0⟩
theorem Tryz.sizeStep : (Tryz.prog.info? 191).map (·.size)=some 8:=by kernel_rfl
theorem toStep_any (w:World) (s:Xj) (aa ac:Option Addr) (ca cc:Nat) (h1:s.asks.length<=1048576) (h2:s.cases.length<=1048576) (hA:Strs w aa s.asks) (hC:Cases w ac s.cases):
  Calls Tryz.prog 178 #[.agg #[.slice aa s.asks.length ca,.int .i64 s.on,.slice ac s.cases.length cc,.int .i64 s.els,.int .i64 s.fall,.bool s.fin,.bool s.bad,.string s.give]] w fun e w'=> ∃b1 b2,e= .returned (.agg (s.cells (some ⟨b1,0,none⟩) s.asks.length (some ⟨b2,0,none⟩) s.cases.length).toArray)∧(Strs w' (some ⟨b1,0,none⟩) s.asks∧Cases w' (some ⟨b2,0,none⟩) s.cases∧w.heap.size<=b1∧w.heap.size<=b2)∧K_ w w':=by
 go_enter Tryz.func178,Tryz.ntmps178
 go_wp2_with fail
 refine (toStringS_any _ _ _ _ h1 (hA.kept (by repeat (first | apply K_.alloc | exact K_.refl _)))).mono ?_
 rintro e w1 ⟨b1,rfl,hS1,k1,hb1⟩
 obtain ⟨hc1,hf1⟩:=k1.rules
 have hz1:=k1.size
 simp only [World.size_alloc] at hb1 hz1
 have hrow1:Row w1 (w.heap.size+1) 8:=Row.kept (Row.alloc (by have:=Row.made (w.alloc (.cells #[.slice aa s.asks.length ca,.int .i64 s.on,.slice ac s.cases.length cc,.int .i64 s.els,.int .i64 s.fall,.bool s.fin,.bool s.bad,.string s.give] 250)) #[.slice none 0 0,.int .i64 0,.slice none 0 0,.int .i64 0,.int .i64 0,.bool false,.bool false,.string ⟨#[]⟩] 191;simpa using this) _) k1
 have K1:K_ w w1:=K_.trans (by repeat (first | apply K_.alloc | exact K_.refl _)) k1
 clear k1
 go_wp2_with fail
 refine (toCaseS_any _ _ _ _ h2 (hC.kept (by repeat (first | (refine K_.setCell ?_ (by simp <;> omega) _) | exact K1)))).mono ?_
 rintro e w2 ⟨b2,rfl,hS2,k2,hb2⟩
 obtain ⟨hc2,hf2⟩:=k2.rules
 have hz2:=k2.size
 simp only [size_setCell] at hb2 hz2 hc2 hf2
 have K2:K_ w w2:=K_.trans (by repeat (first | (refine K_.setCell ?_ (by simp <;> omega) _) | exact K1)) k2
 have hS1':=Strs.kept (Strs.setCell (Strs.setCell hS1 (p:= ⟨w.heap.size+1+1,0,none⟩) (by simp <;> omega) (.slice (some ⟨b1,0,none⟩) s.asks.length s.asks.length)) (p:= ⟨w.heap.size+1+1,1,none⟩) (by simp <;> omega) (.int .i64 s.on)) k2
 have HRow:Hid (Row w2 (w.heap.size+1) 8):=Row.kept (by repeat (first | refine Row.set ?_ _ rfl _ | exact hrow1)) k2
 clear k2 K1 hS1 hrow1
 have z0:w.heap.size < w1.heap.size:=by omega
 have z1:w.heap.size+1 < w1.heap.size:=by omega
 have z2:w.heap.size+1+1 < w1.heap.size:=by omega
 go_wp2
 have hX:Row ((((((w2.setCell ⟨w.heap.size+1+1,2,none⟩ (.slice (some ⟨b2,0,none⟩) s.cases.length s.cases.length)).setCell ⟨w.heap.size+1+1,3,none⟩ (.int .i64 s.els)).setCell ⟨w.heap.size+1+1,4,none⟩ (.int .i64 s.fall)).setCell ⟨w.heap.size+1+1,5,none⟩ (.bool s.fin)).setCell ⟨w.heap.size+1+1,6,none⟩ (.bool s.bad)).setCell ⟨w.heap.size+1+1,7,none⟩ (.string s.give)) (w.heap.size+1) 8:=by
  repeat (first | refine Row.set ?_ _ rfl _ | exact HRow.out)
 have hR:=World.rangeAt_setCells_same _ (w.heap.size+1) 0 (s.cells (some ⟨b1,0,none⟩) s.asks.length (some ⟨b2,0,none⟩) s.cases.length) (hX.there (o:=0) (m:=8) (Nat.le_refl _))
 refine X_ (s.cells (some ⟨b1,0,none⟩) s.asks.length (some ⟨b2,0,none⟩) s.cases.length) _ Tryz.results178 rfl hR Tryz.underlying191 rfl Tryz.sizeStep rfl ⟨b1,b2,rfl,⟨?_, ?_,by omega,by omega⟩, ?_⟩
 ·repeat (first | (refine Strs.setCell ?_ (by simp <;> omega) _) | exact hS1')
 ·repeat (first | (refine Cases.setCell ?_ (by simp <;> omega) _) | exact hS2)
 ·repeat (first | (refine K_.setCell ?_ (by simp <;> omega) _) | exact K2)
theorem eqStep_yes (w:World) (s:Xj) (aa ac ba bc:Option Addr) (ca cc da dc:Nat) (h1:s.asks.length<=maxLen) (h2:s.cases.length<=maxLen) (hA:Strs w aa s.asks) (hC:Cases w ac s.cases) (hA':Strs w ba s.asks) (hC':Cases w bc s.cases):
  Calls Tryz.prog 196 #[.agg #[.slice aa s.asks.length ca,.int .i64 s.on,.slice ac s.cases.length cc,.int .i64 s.els,.int .i64 s.fall,.bool s.fin,.bool s.bad,.string s.give],.agg #[.slice ba s.asks.length da,.int .i64 s.on,.slice bc s.cases.length dc,.int .i64 s.els,.int .i64 s.fall,.bool s.fin,.bool s.bad,.string s.give]] w fun e w'=> e= .returned (.bool true)∧K_ w w':=by
 go_enter Tryz.func196,Tryz.ntmps196
 go_wp2_with fail
 have k0:K_ w ((w.alloc (.cells #[.slice aa s.asks.length ca,.int .i64 s.on,.slice ac s.cases.length cc,.int .i64 s.els,.int .i64 s.fall,.bool s.fin,.bool s.bad,.string s.give] 191)).alloc (.cells #[.slice ba s.asks.length da,.int .i64 s.on,.slice bc s.cases.length dc,.int .i64 s.els,.int .i64 s.fall,.bool s.fin,.bool s.bad,.string s.give] 191)):=by repeat (first | apply K_.alloc | exact K_.refl _)
 refine (eqStringS_yes _ _ _ _ _ _ h1 (hA.kept k0) (hA'.kept k0)).mono ?_
 rintro e w1 ⟨rfl,k1⟩
 obtain ⟨hc1,hf1⟩:=k1.rules
 have K1:=k0.trans k1
 have hz1:=k1.size
 simp only [World.size_alloc] at hz1
 clear k0 k1
 have z0:w.heap.size < w1.heap.size:=by omega
 have z1:w.heap.size+1 < w1.heap.size:=by omega
 go_wp2_with fail
 refine (eqCaseS_yes _ _ _ _ _ _ h2 (hC.kept (by repeat (first | apply K_.drew | exact K1))) (hC'.kept (by repeat (first | apply K_.drew | exact K1)))).mono ?_
 rintro e w2 ⟨rfl,k2⟩
 obtain ⟨hc2,hf2⟩:=k2.rules
 have K2:K_ w w2:=K_.trans (by repeat (first | apply K_.drew | exact K1)) k2
 have hz2:=k2.size
 clear k2 K1
 have y0:w.heap.size < w2.heap.size:=by omega
 have y1:w.heap.size+1 < w2.heap.size:=by omega
 go_wp2
 go_ret
 exact ⟨rfl,by repeat (first | apply K_.drew | exact K2)⟩
def szSteps (l:List Xj):Nat:=l.length+ (l.map szStepD).sum
theorem szStepS_any (w:World) (a:Option Addr) (cap:Nat) (l:List Xj) (left:Int) (hl:l.length<=maxLen) (hs: ∀s∈l,s.Fits)
  (hS:Steps w a l) (h0:0<=left) (h1:left<=1048576):
  Calls Tryz.prog 153 #[.slice a l.length cap,.int .i64 left] w fun e w'=> e= .returned (.int .i64 (szL (szSteps l) left))∧K_ w w':=by
 unfold maxLen at hl
 go_enter Tryz.func153,Tryz.ntmps153
 go_wp2
 ·go_ret
  exact ⟨ret_int (szL_neg (by unfold szSteps;omega)).symm,K_.refl _⟩
 ·go_loopw [1,5] (fun x i wr=> ∃k:Nat,k<=l.length∧i= .int .i64 k∧x= .int .i64 (left - l.length - sumTo szStepD l k)∧0<=left - l.length - sumTo szStepD l k∧K_ w wr) (fun _ i _=> l.length - (intOf i).toNat)
  case atStart=> exact ⟨0,Nat.zero_le _,rfl,by simp [sumTo_zero],by simp [sumTo_zero];omega,K_.refl _⟩
  case round=>
   obtain ⟨k,hk,rfl,rfl,hge,hw⟩:=hrel
   by_cases hlt:k < l.length
   ·obtain ⟨b,o,cs,rfl,hb,hc,aa,ca,ac,cc,rfl,hA,hC,hca⟩:=hS.kept hw k hlt
    have hsz: (l.getD k Xj.zero).Fits:=hs _ (by simp [List.getD,hlt])
    have HS:Hid (sumTo szStepD l (k+1)=sumTo szStepD l k+szStepD (l.getD k Xj.zero)):=sumTo_succ _ l _ k hlt
    have HT:=sumTo_le szStepD l (k+1)
    generalize l.getD k Xj.zero=s at *
    have c0:=hc 0 _ rfl
    have c1:=hc 1 _ rfl
    have c2:=hc 2 _ rfl
    have c3:=hc 3 _ rfl
    have c4:=hc 4 _ rfl
    have c5:=hc 5 _ rfl
    have c6:=hc 6 _ rfl
    have c7:=hc 7 _ rfl
    simp only [Nat.add_zero] at c0
    clear hc
    go_wp2_with fail
    refine (szStep_any _ s aa ac ca cc _ hsz hA hC (by omega) (by omega)).mono ?_
    rintro e w1 ⟨rfl,hw1⟩
    have hw2:=hw.trans hw1
    by_cases hle: (szStepD s:Int)<=left - l.length - sumTo szStepD l k
    ·rw [szL_pos hle]
     clear c0 c1 c2 c3 c4 c5 c6 c7 hA hC hw hw1
     go_wp2
     go_roundw
     case rel=> exact ⟨k+1,by omega,by go_num,by rw [HS.out];go_num,by rw [HS.out];omega,hw2⟩
     case measure=> simp [intOf];omega
    ·rw [szL_neg (by omega)]
     clear c0 c1 c2 c3 c4 c5 c6 c7 hA hC hw hw1
     go_wp2
     go_ret
     exact ⟨ret_int (szL_neg (by unfold szSteps;have:=HS.out;omega)).symm,hw2⟩
   ·go_wp2
    go_ret
    have:k=l.length:=by omega
    subst this
    rw [sumTo_all] at hge⊢
    exact ⟨ret_int (by rw [szL_pos (by unfold szSteps;omega)];unfold szSteps;omega),hw⟩
theorem Tryz.infoStep : (Tryz.prog.info? 191).map (fun i=> (i.zero,i.size,i.bytes))=some (some (.agg #[.slice none 0 0,.int .i64 0,.slice none 0 0,.int .i64 0,.int .i64 0,.bool false,.bool false,.string ⟨#[]⟩]),8,96):=by kernel_rfl
def StepNew (w:World) (B j:Nat) (s:Xj):Prop:=
 ∃b1 b2,B < b1∧B < b2∧w.rangeAt B (j * 8) (s.cells (some ⟨b1,0,none⟩) s.asks.length (some ⟨b2,0,none⟩) s.cases.length)∧Strs w (some ⟨b1,0,none⟩) s.asks∧Cases w (some ⟨b2,0,none⟩) s.cases
theorem StepNew.kept {w w':World} {B j:Nat} {s:Xj} (h:StepNew w B j s) (k:K_ w w') (hB:B < w.heap.size):StepNew w' B j s:=by
 obtain ⟨b1,b2,h1,h2,h3,h4,h5⟩:=h
 exact ⟨b1,b2,h1,h2,k.range hB h3,h4.kept k,h5.kept k⟩
theorem StepNew.setCells {w:World} {B j o:Nat} {s:Xj} {vs:List Value} (h:StepNew w B j s) (ho:j * 8+8<=o∨o+vs.length<=j * 8):StepNew (w.setCells B o vs) B j s:=by
 obtain ⟨b1,b2,h1,h2,h3,h4,h5⟩:=h
 exact ⟨b1,b2,h1,h2,World.rangeAt_setCells_apart h3 _ _ _ (by right;simpa [Xj.cells] using ho),Strs.setCells (by omega) _ _ h4,Cases.setCells (by omega) _ _ h5⟩
theorem StepNew.setCell {w:World} {B j:Nat} {s:Xj} (h:StepNew w B j s) {p:Addr} (hp:p.block < B) (v:Value):StepNew (w.setCell p v) B j s:=by
 obtain ⟨b1,b2,h1,h2,h3,h4,h5⟩:=h
 exact ⟨b1,b2,h1,h2,fun i u hu=> by rw [World.cell?_setCell_other _ _ _ _ (fun e=> by rw [e] at hp;simp at hp)];exact h3 i u hu,Strs.setCell h4 (by omega) v,Cases.setCell h5 (by omega) v⟩
def StepsNew (w:World) (B:Nat) (l:List Xj):Prop:=B < w.heap.size∧∀j,j < l.length->StepNew w B j (l.getD j Xj.zero)
theorem StepsNew.setCell {w:World} {B:Nat} {l:List Xj} (h:StepsNew w B l) {p:Addr} (hp:p.block < B) (v:Value):StepsNew (w.setCell p v) B l:=
 ⟨by rw [size_setCell];exact h.1,fun j hj=> (h.2 j hj).setCell hp v⟩
theorem StepsNew.kept {w w':World} {B:Nat} {l:List Xj} (h:StepsNew w B l) (k:K_ w w'):StepsNew w' B l:=
 ⟨Nat.lt_of_lt_of_le h.1 k.size,fun j hj=> (h.2 j hj).kept k h.1⟩
theorem StepsNew.steps {w:World} {B:Nat} {l:List Xj} (h:StepsNew w B l):Steps w (some ⟨B,0,none⟩) l:=by
 intro j hj
 obtain ⟨b1,b2,_,_,g1,g2,g3⟩:=h.2 j hj
 exact ⟨B,0,_,rfl,h.1,by rw [Nat.zero_add];exact g1,_,_,_,_,rfl,g2,g3,Nat.le_refl _⟩
theorem toStepS_any (w:World) (a:Option Addr) (cap:Nat) (l:List Xj) (hl:l.length<=1048576) (hs: ∀s∈l,s.asks.length<=1048576∧s.cases.length<=1048576)
  (hS:Steps w a l):
  Calls Tryz.prog 154 #[.slice a l.length cap] w fun e w'=> ∃b,e= .returned (.slice (some ⟨b,0,none⟩) l.length l.length)∧StepsNew w' b l∧K_ w w'∧w.heap.size<=b:=by
 have hmk:=run_make_many (P:=Tryz.prog) 84 191 _ _ _ Tryz.underlying84 Tryz.infoStep .i64 .i64 l.length (by omega) (by omega)
 go_enter Tryz.func154,Tryz.ntmps154
 go_wp2
 clear hmk
 have hrow:=Row.made w (madeCells #[.slice none 0 0,.int .i64 0,.slice none 0 0,.int .i64 0,.int .i64 0,.bool false,.bool false,.string ⟨#[]⟩] (l.length * 8)) 191
 rw [size_madeCells] at hrow
 have hkept:K_ w (w.alloc (.cells (madeCells #[.slice none 0 0,.int .i64 0,.slice none 0 0,.int .i64 0,.int .i64 0,.bool false,.bool false,.string ⟨#[]⟩] (l.length * 8)) 191)):= (K_.refl _).alloc _
 go_loopw [4] (fun i wr=> ∃k:Nat,k<=l.length∧i= .int .i64 k∧K_ w wr∧Row wr w.heap.size (l.length * 8)∧∀j,j < k->StepNew wr w.heap.size j (l.getD j Xj.zero)) (fun i _=> l.length - (intOf i).toNat)
 case atStart=> exact ⟨0,Nat.zero_le _,rfl,hkept,hrow,fun j hj=> absurd hj (Nat.not_lt_zero _)⟩
 case round=>
  obtain ⟨k,hk,rfl,hw,hr,hf⟩:=hrel
  clear hrow hkept
  by_cases hlt:k < l.length
  ·obtain ⟨b,o,cs,rfl,hb,hc,aa,ca,ac,cc,rfl,hA,hC,hca⟩:=hS.kept hw k hlt
   have hsz:=hs (l.getD k Xj.zero) (by simp [List.getD,hlt])
   have HF:=Kz hf
   clear hf
   generalize hs:l.getD k Xj.zero=s at *
   have HSs:=Kz hs
   clear hs
   have c0:=hc 0 _ rfl
   have c1:=hc 1 _ rfl
   have c2:=hc 2 _ rfl
   have c3:=hc 3 _ rfl
   have c4:=hc 4 _ rfl
   have c5:=hc 5 _ rfl
   have c6:=hc 6 _ rfl
   have c7:=hc 7 _ rfl
   simp only [Nat.add_zero] at c0
   clear hc
   go_wp2_with fail
   refine (toStep_any _ s aa ac ca cc hsz.1 hsz.2 hA hC).mono ?_
   rintro e w1 ⟨b1,b2,rfl,⟨g1,g2,g3,g4⟩,hw1⟩
   have hrl:=hr.lt
   have hw2:=hw.trans hw1
   have hr1:=hr.kept hw1
   generalize hcs:s.cells (some ⟨b1,0,none⟩) s.asks.length (some ⟨b2,0,none⟩) s.cases.length=cs
   have hlen:cs.length=8:=by rw [<-hcs];rfl
   have hone:cs.toArray.all (·.oneCell')=true:=by rw [<-hcs];exact Xj.one s _ _ _ _
   have hth:w1.there w.heap.size (k * 8) cs.toArray.size:=by simpa [hlen] using hr1.there (o:=k * 8) (m:=8) (by omega)
   have hsize: (Tryz.prog.info? 191).map (·.size)=some cs.toArray.size:=by rw [Tryz.sizeStep];simp [hlen]
   have HCS:=Kz hcs
   have HLEN:=Kz hlen
   have HSZ:=Kz hsize
   clear hcs hlen hsize
   have HR:Hid (Row w1 w.heap.size (l.length * 8)):=hr1
   have HF1:Hid (∀j,j < k->StepNew w1 w.heap.size j (l.getD j Xj.zero)):=fun j hj=> (HF.out j hj).kept hw1 hr.lt
   clear HF c0 c1 c2 c3 c4 c5 c6 c7 hw hw1 hr hr1 hA hC
   go_wp2_with (refine wpList_store_mid rfl 191 _ _ rfl w.heap.size (k * 8) cs.toArray rfl rfl hth (unhide HSZ) hone ?_)
   go_roundw
   case rel=>
    refine ⟨k+1,by omega,by go_num,K_.setCells (Nat.le_refl _) _ _ hw2,Row.setCells _ _ HR.out,fun j hj=> ?_⟩
    by_cases e:j=k
    ·subst e
     rw [unhide HSs]
     exact ⟨b1,b2,by omega,by omega,by rw [HCS.out];exact World.rangeAt_setCells_same _ _ _ _ (by simpa using hth),Strs.setCells (by omega) _ _ g1,Cases.setCells (by omega) _ _ g2⟩
    ·exact (HF1.out j (by omega)).setCells (by rw [HLEN.out];omega)
   case measure=> simp [intOf];omega
  ·go_wp2
   go_ret
   have:k=l.length:=by omega
   subst this
   exact ⟨w.heap.size,rfl,⟨hr.lt,hf⟩,hw,Nat.le_refl _⟩
theorem eqStepS_yes (w:World) (a a':Option Addr) (cap cap':Nat) (l:List Xj) (hl:l.length<=maxLen) (hs: ∀s∈l,s.asks.length<=maxLen∧s.cases.length<=maxLen)
  (hS:Steps w a l) (hS':Steps w a' l):
  Calls Tryz.prog 170 #[.slice a l.length cap,.slice a' l.length cap'] w fun e w'=> e= .returned (.bool true)∧K_ w w':=by
 unfold maxLen at hl
 go_enter Tryz.func170,Tryz.ntmps170
 go_wp2
 go_loopw [5] (fun i wr=> ∃k:Nat,k<=l.length∧i= .int .i64 k∧K_ w wr) (fun i _=> l.length - (intOf i).toNat)
 case atStart=> exact ⟨0,Nat.zero_le _,rfl,K_.refl _⟩
 case round=>
  obtain ⟨k,hk,rfl,hw⟩:=hrel
  by_cases hlt:k < l.length
  ·obtain ⟨b,o,cs,rfl,hb,hc,aa,ca,ac,cc,rfl,hA,hC,hca⟩:=hS.kept hw k hlt
   obtain ⟨b',o',cs',rfl,hb',hc',ba,da,bc,dc,rfl,hA',hC',hca'⟩:=hS'.kept hw k hlt
   have hsz:=hs (l.getD k Xj.zero) (by simp [List.getD,hlt])
   clear hs
   generalize l.getD k Xj.zero=s at *
   have c0:=hc 0 _ rfl
   have c1:=hc 1 _ rfl
   have c2:=hc 2 _ rfl
   have c3:=hc 3 _ rfl
   have c4:=hc 4 _ rfl
   have c5:=hc 5 _ rfl
   have c6:=hc 6 _ rfl
   have c7:=hc 7 _ rfl
   have d0:=hc' 0 _ rfl
   have d1:=hc' 1 _ rfl
   have d2:=hc' 2 _ rfl
   have d3:=hc' 3 _ rfl
   have d4:=hc' 4 _ rfl
   have d5:=hc' 5 _ rfl
   have d6:=hc' 6 _ rfl
   have d7:=hc' 7 _ rfl
   simp only [Nat.add_zero] at c0 d0
   clear hc hc'
   go_wp2
   go_region_with (go_at_call 196;refine (eqStep_yes _ s aa ac ba bc ca cc da dc hsz.1 hsz.2 (hA.kept (by repeat (first | apply K_.drew | exact K_.refl _))) (hC.kept (by repeat (first | apply K_.drew | exact K_.refl _))) (hA'.kept (by repeat (first | apply K_.drew | exact K_.refl _))) (hC'.kept (by repeat (first | apply K_.drew | exact K_.refl _)))).mono ?_;rintro e w1 ⟨rfl,hw1⟩)
   all_goals
    go_wp2
    go_roundw
    case rel=> exact ⟨k+1,by omega,by go_num,by repeat (first | assumption | apply K_.drew | refine K_.trans ?_ (by assumption))⟩
    case measure=> simp [intOf];omega
  ·go_wp2
   go_ret
   exact ⟨rfl,hw⟩
theorem szAction_any (w:World) (cost:Int) (a:Option Addr) (cap:Nat) (l:List Xj) (left:Int) (hl:l.length<=maxLen) (hs: ∀s∈l,s.Fits)
  (hS:Steps w a l) (h0:0<=left) (h1:left<=1048576):
  Calls Tryz.prog 105 #[.agg #[.int .i64 cost,.slice a l.length cap],.int .i64 left] w fun e w'=> e= .returned (.int .i64 (szL (szSteps l) left))∧K_ w w':=by
 have k0:K_ w (w.alloc (.cells #[.int .i64 cost,.slice a l.length cap] 106)):= (K_.refl _).alloc _
 go_enter Tryz.func105,Tryz.ntmps105
 go_wp2_with fail
 refine (szStepS_any _ a cap l left hl hs (hS.kept k0) h0 h1).mono ?_
 rintro e w1 ⟨rfl,k1⟩
 have k2:=k0.trans k1
 clear k0 k1
 by_cases hle: (szSteps l:Int)<=left
 ·rw [szL_pos hle]
  go_wp2
  go_ret
  exact ⟨ret_int (szL_pos hle).symm,k2⟩
 ·rw [szL_neg (by omega)]
  go_wp2
  go_ret
  exact ⟨ret_int (szL_neg (by omega)).symm,k2⟩
theorem Tryz.sizeAction : (Tryz.prog.info? 86).map (·.size)=some 2:=by kernel_rfl
theorem toAction_any (w:World) (cost:Int) (a:Option Addr) (cap:Nat) (l:List Xj) (hl:l.length<=1048576) (hs: ∀s∈l,s.asks.length<=1048576∧s.cases.length<=1048576)
  (hS:Steps w a l):
  Calls Tryz.prog 111 #[.agg #[.int .i64 cost,.slice a l.length cap]] w fun e w'=> ∃b,e= .returned (.agg #[.int .i64 cost,.slice (some ⟨b,0,none⟩) l.length l.length])∧StepsNew w' b l∧K_ w w'∧w.heap.size<=b:=by
 go_enter Tryz.func111,Tryz.ntmps111
 go_wp2_with fail
 refine (toStepS_any _ a cap l hl hs (hS.kept (by repeat (first | apply K_.alloc | exact K_.refl _)))).mono ?_
 rintro e w1 ⟨b,rfl,hN,k1,hb⟩
 obtain ⟨hc1,hf1⟩:=k1.rules
 have hz1:=k1.size
 simp only [World.size_alloc] at hb hz1
 have K1:K_ w w1:=K_.trans (by repeat (first | apply K_.alloc | exact K_.refl _)) k1
 have hrow1:Row w1 (w.heap.size+1) 2:=Row.kept (Row.alloc (by have:=Row.made (w.alloc (.cells #[.int .i64 cost,.slice a l.length cap] 106)) #[.int .i64 0,.slice none 0 0] 86;simpa using this) _) k1
 have HRow:=Kz hrow1
 clear k1 hrow1
 go_wp2
 have hX:Row (w1.setCell ⟨w.heap.size+1+1,1,none⟩ (.slice (some ⟨b,0,none⟩) l.length l.length)) (w.heap.size+1) 2:=Row.set HRow.out _ rfl _
 have hR:=World.rangeAt_setCells_same _ (w.heap.size+1) 0 [.int .i64 cost,.slice (some ⟨b,0,none⟩) l.length l.length] (hX.there (o:=0) (m:=2) (Nat.le_refl _))
 refine X_ [.int .i64 cost,.slice (some ⟨b,0,none⟩) l.length l.length] _ Tryz.results111 rfl hR Tryz.underlying86 rfl Tryz.sizeAction rfl ⟨b,rfl, ?_, ?_,by omega⟩
 ·repeat (first | (refine StepsNew.setCell ?_ (by simp <;> omega) _) | exact hN)
 ·repeat (first | (refine K_.setCell ?_ (by simp <;> omega) _) | exact K1)
theorem eqAction_yes (w:World) (cost:Int) (a a':Option Addr) (cap cap':Nat) (l:List Xj) (hl:l.length<=maxLen) (hs: ∀s∈l,s.asks.length<=maxLen∧s.cases.length<=maxLen)
  (hS:Steps w a l) (hS':Steps w a' l):
  Calls Tryz.prog 127 #[.agg #[.int .i64 cost,.slice a l.length cap],.agg #[.int .i64 cost,.slice a' l.length cap']] w fun e w'=> e= .returned (.bool true)∧K_ w w':=by
 have k0:K_ w ((w.alloc (.cells #[.int .i64 cost,.slice a l.length cap] 86)).alloc (.cells #[.int .i64 cost,.slice a' l.length cap'] 86)):= ((K_.refl _).alloc _).alloc _
 go_enter Tryz.func127,Tryz.ntmps127
 go_wp2_with fail
 refine (eqStepS_yes _ a a' cap cap' l hl hs (hS.kept (by repeat (first | apply K_.drew | exact k0))) (hS'.kept (by repeat (first | apply K_.drew | exact k0)))).mono ?_
 rintro e w1 ⟨rfl,k1⟩
 have k2:K_ w w1:=K_.trans (by repeat (first | apply K_.drew | exact k0)) k1
 clear k0 k1
 go_wp2
 go_ret
 exact ⟨rfl,k2⟩
structure Qq where
 name:ByteArray
 cost:Int
 steps:List Xj
def Qq.zero :Qq:= ⟨ByteArray.empty,0,[]⟩
def Qq.cells (d:Qq) (a:Option Addr) (cap:Nat):List Value:=[.string d.name,.int .i64 d.cost,.slice a d.steps.length cap]
theorem Qq.one (d:Qq) (a:Option Addr) (cap:Nat): (d.cells a cap).toArray.all (·.oneCell')=true:=
 all_oneCell_toArray (by simp [Qq.cells,Value.oneCell'])
def NodeIs (w:World) (cs:List Value) (d:Qq):Prop:= ∃a cap,cs=d.cells a cap∧Steps w a d.steps
theorem NodeIs.kept {w w':World} {cs:List Value} {d:Qq} (h:NodeIs w cs d) (k:K_ w w'):NodeIs w' cs d:=by
 obtain ⟨a,cap,e,h1⟩:=h
 exact ⟨a,cap,e,h1.kept k⟩
def Nodes (w:World) (a:Option Addr) (l:List Qq):Prop:=
 ∀i,i < l.length->∃b o cs,a=some ⟨b,o,none⟩∧b < w.heap.size∧w.rangeAt b (o+i * 3) cs∧NodeIs w cs (l.getD i Qq.zero)
theorem Nodes.kept {w w':World} {a:Option Addr} {l:List Qq} (h:Nodes w a l) (k:K_ w w'):Nodes w' a l:=by
 intro i hi
 obtain ⟨b,o,cs,ha,hb,hc,hs⟩:=h i hi
 exact ⟨b,o,cs,ha,Nat.lt_of_lt_of_le hb k.size,k.range hb hc,hs.kept k⟩
structure Qq.Fits (d:Qq):Prop where
 name:d.name.size<=maxLen
 cost:In64 d.cost
 steps:d.steps.length<=maxLen
 each: ∀s∈d.steps,s.Fits
theorem StepNew.setCellsBelow {w:World} {B j g o:Nat} {s:Xj} {vs:List Value} (h:StepNew w B j s) (hg:g < B):StepNew (w.setCells g o vs) B j s:=by
 obtain ⟨b1,b2,h1,h2,h3,h4,h5⟩:=h
 exact ⟨b1,b2,h1,h2,World.rangeAt_setCells_apart h3 _ _ _ (by omega),Strs.setCells (by omega) _ _ h4,Cases.setCells (by omega) _ _ h5⟩
theorem size_setCells (g:Nat): ∀(vs:List Value) (o:Nat) (w:World),(w.setCells g o vs).heap.size=w.heap.size
 | [],_,_=> rfl
 | v :: r,o,w=> by rw [World.setCells,size_setCells g r (o+1),size_setCell]
theorem StepsNew.setCellsBelow {w:World} {B g o:Nat} {l:List Xj} {vs:List Value} (h:StepsNew w B l) (hg:g < B):StepsNew (w.setCells g o vs) B l:=
 ⟨by rw [size_setCells];exact h.1,fun j hj=> (h.2 j hj).setCellsBelow hg⟩
def NodeNew (w:World) (B j:Nat) (d:Qq):Prop:=
 ∃b1,B < b1∧w.rangeAt B (j * 3) (d.cells (some ⟨b1,0,none⟩) d.steps.length)∧StepsNew w b1 d.steps
theorem NodeNew.kept {w w':World} {B j:Nat} {d:Qq} (h:NodeNew w B j d) (k:K_ w w') (hB:B < w.heap.size):NodeNew w' B j d:=by
 obtain ⟨b1,h1,h2,h3⟩:=h
 exact ⟨b1,h1,k.range hB h2,h3.kept k⟩
theorem NodeNew.setCells {w:World} {B j o:Nat} {d:Qq} {vs:List Value} (h:NodeNew w B j d) (ho:j * 3+3<=o∨o+vs.length<=j * 3):NodeNew (w.setCells B o vs) B j d:=by
 obtain ⟨b1,h1,h2,h3⟩:=h
 exact ⟨b1,h1,World.rangeAt_setCells_apart h2 _ _ _ (by right;simpa [Qq.cells] using ho),h3.setCellsBelow h1⟩
theorem NodeNew.setCell {w:World} {B j:Nat} {d:Qq} (h:NodeNew w B j d) {p:Addr} (hp:p.block < B) (v:Value):NodeNew (w.setCell p v) B j d:=by
 obtain ⟨b1,h1,h2,h3⟩:=h
 exact ⟨b1,h1,fun i u hu=> by rw [World.cell?_setCell_other _ _ _ _ (fun e=> by rw [e] at hp;simp at hp)];exact h2 i u hu,h3.setCell (by omega) v⟩
def NodesNew (w:World) (B:Nat) (l:List Qq):Prop:=B < w.heap.size∧∀j,j < l.length->NodeNew w B j (l.getD j Qq.zero)
theorem NodesNew.setCell {w:World} {B:Nat} {l:List Qq} (h:NodesNew w B l) {p:Addr} (hp:p.block < B) (v:Value):NodesNew (w.setCell p v) B l:=
 ⟨by rw [size_setCell];exact h.1,fun j hj=> (h.2 j hj).setCell hp v⟩
theorem NodesNew.kept {w w':World} {B:Nat} {l:List Qq} (h:NodesNew w B l) (k:K_ w w'):NodesNew w' B l:=
 ⟨Nat.lt_of_lt_of_le h.1 k.size,fun j hj=> (h.2 j hj).kept k h.1⟩
theorem NodesNew.nodes {w:World} {B:Nat} {l:List Qq} (h:NodesNew w B l):Nodes w (some ⟨B,0,none⟩) l:=by
 intro j hj
 obtain ⟨b1,_,g1,g2⟩:=h.2 j hj
 exact ⟨B,0,_,rfl,h.1,by rw [Nat.zero_add];exact g1,_,_,rfl,g2.steps⟩
theorem meth_ask (vs : Array Value) (W : World) : (method 446 239 (.agg vs) "loop.example/kilnweb/impl.sound").run Tryz.prog W = .ok (269, .agg vs) W := by kernel_rfl
theorem meth_bad (vs : Array Value) (W : World) : (method 446 242 (.agg vs) "loop.example/kilnweb/impl.sound").run Tryz.prog W = .ok (275, .agg vs) W := by kernel_rfl
theorem meth_good (vs : Array Value) (W : World) : (method 446 241 (.agg vs) "loop.example/kilnweb/impl.sound").run Tryz.prog W = .ok (273, .agg vs) W := by kernel_rfl
theorem implValidAction_any (w:World) (cost:Int) (a:Option Addr) (cap:Nat) (l:List Xj) (hl:l.length<=maxLen) (hs: ∀s∈l,s.Fits) (hS:Steps w a l):
  Calls Tryz.prog 136 #[.agg #[.int .i64 cost,.slice a l.length cap]] w fun e w'=> Says e (ActionOk ⟨cost,l⟩)∧K_ w w':=by
 unfold maxLen at hl
 have k0:K_ w (w.alloc (.cells #[.int .i64 cost,.slice a l.length cap] 86)):= (K_.refl _).alloc _
 by_cases a1:1<=cost
 ·by_cases a2:cost<=20
  ·by_cases a3: (1:Int)<=l.length
   ·by_cases a4: (l.length:Int)<=20
    ·have e1:decide (cost < 1)=false:=by simp;omega
     have e2:decide (20 < cost)=false:=by simp;omega
     have e3:decide ((l.length:Int) < 1)=false:=by simp;omega
     have e4:decide (20 < (l.length:Int))=false:=by simp;omega
     go_enter Tryz.func136,Tryz.ntmps136
     go_wp2
     clear e1 e2 e3 e4
     go_loopw [28] (fun i wr=> ∃k:Nat,k<=l.length∧i= .int .i64 k∧K_ (w.alloc (.cells #[.int .i64 cost,.slice a l.length cap] 86)) wr∧∀j,j < k->StepOk (l.getD j Xj.zero) l.length) (fun i _=> l.length - (intOf i).toNat)
     case atStart=> exact ⟨0,Nat.zero_le _,rfl,K_.refl _,fun j hj=> absurd hj (Nat.not_lt_zero _)⟩
     case round=>
      obtain ⟨k,hk,rfl,hw,hg⟩:=hrel
      have HG:=Kz hg
      clear hg
      have hz1:=hw.size
      simp only [World.size_alloc] at hz1
      by_cases hlt:k < l.length
      ·obtain ⟨b,o,cs,rfl,hb,hc,aa,ca,ac,cc,rfl,hA,hC,hca⟩:= (hS.kept k0).kept hw k hlt
       have hsz:=hs (l.getD k Xj.zero) (by simp [List.getD,hlt])
       obtain ⟨s,hsk⟩: ∃s,s=l.getD k Xj.zero:= ⟨_,rfl⟩
       rw [<-hsk] at hc hsz hA hC hca
       have HSK:=Kz hsk
       clear hsk
       have c0:=hc 0 _ rfl
       have c1:=hc 1 _ rfl
       have c2:=hc 2 _ rfl
       have c3:=hc 3 _ rfl
       have c4:=hc 4 _ rfl
       have c5:=hc 5 _ rfl
       have c6:=hc 6 _ rfl
       have c7:=hc 7 _ rfl
       simp only [Nat.add_zero] at c0
       clear hc
       obtain ⟨hc1,hf1⟩:=hw.rules
       have z0:w.heap.size < wr.heap.size:=by omega
       have z1:w.heap.size < wr.heap.size+1:=by omega
       cases hfin:s.fin
       ·rw [hfin] at c5
        have hq: ∀W,K_ wr W->Calls Tryz.prog 269 #[.agg #[.slice aa s.asks.length ca,.int .i64 s.on,.slice ac s.cases.length cc,.int .i64 s.els,.int .i64 s.fall,.bool false,.bool s.bad,.string s.give],.int .i64 l.length] W fun e w'=> Says e (AskOk s l.length)∧K_ W w':=fun W hW=> by
         have h:=questionSound_any W s aa ac ca cc l.length hsz ⟨a3,a4⟩ (hA.kept hW) (hC.kept hW) hca
         rw [hfin] at h
         exact h
        have HQ:=Kz hq
        clear hq
        have hm:=meth_ask
        go_wp2
        go_region_with (first | (go_at_call 144;refine (kindOf_ask _ s aa ac ca cc).mono ?_;rintro e w1 ⟨rfl,hw1⟩;obtain ⟨hc2,hf2⟩:=hw1.rules;have hk1:K_ wr w1:=K_.trans (by repeat (first | apply K_.drew | apply K_.alloc | exact K_.refl _)) hw1) | (go_at_call 269;refine (unhide HQ _ (by repeat (first | apply K_.drew | assumption))).mono ?_;rintro e w2 ⟨⟨r,rfl,hr⟩,hw2⟩;have hk2:K_ wr w2:=K_.trans (by repeat (first | apply K_.drew | assumption)) hw2;have HR:=Kz hr;clear hr))
        all_goals
         clear hc1 hf1 hc2 hf2 hm c0 c1 c2 c3 c4 c5 c6 c7 hA hC
         cases r
         ·go_wp2
          go_ret
          exact ⟨Says.no fun h=> (by have h2:=h.2.2 k hlt;rw [<-HSK.out] at h2;have:=HR.out.2 (h2.2 hfin);cases this),k0.trans (by repeat (first | apply K_.drew | exact hw.trans hk2))⟩
         ·go_wp2
          go_roundw
          case rel=>
           refine ⟨k+1,by omega,by go_num,by repeat (first | apply K_.drew | exact hw.trans hk2),fun j hj=> ?_⟩
           by_cases e:j=k
           ·subst e
            rw [<-HSK.out]
            exact ⟨fun e=> (by rw [hfin] at e;cases e),fun _=> HR.out.1 rfl⟩
           ·exact unhide HG j (by omega)
          case measure=> simp [intOf];omega
       ·cases hbad:s.bad
        ·rw [hfin] at c5
         rw [hbad] at c6
         have hq: ∀W,K_ wr W->Calls Tryz.prog 273 #[.agg #[.slice aa s.asks.length ca,.int .i64 s.on,.slice ac s.cases.length cc,.int .i64 s.els,.int .i64 s.fall,.bool true,.bool false,.string s.give],.int .i64 l.length] W fun e w'=> Says e (EndOk s)∧K_ W w':=fun W hW=> by
          have h:=goodSound_any W s aa ac ca cc l.length hsz
          rw [hfin,hbad] at h
          exact h
         have HQ:=Kz hq
         clear hq
         have hm:=meth_good
         go_wp2
         go_region_with (first | (go_at_call 144;refine (kindOf_good _ s aa ac ca cc).mono ?_;rintro e w1 ⟨rfl,hw1⟩;obtain ⟨hc2,hf2⟩:=hw1.rules;have hk1:K_ wr w1:=K_.trans (by repeat (first | apply K_.drew | apply K_.alloc | exact K_.refl _)) hw1) | (go_at_call 273;refine (unhide HQ _ (by repeat (first | apply K_.drew | assumption))).mono ?_;rintro e w2 ⟨⟨r,rfl,hr⟩,hw2⟩;have hk2:K_ wr w2:=K_.trans (by repeat (first | apply K_.drew | assumption)) hw2;have HR:=Kz hr;clear hr))
         all_goals
          clear hc1 hf1 hc2 hf2 hm c0 c1 c2 c3 c4 c5 c6 c7 hA hC
          cases r
          ·go_wp2
           go_ret
           exact ⟨Says.no fun h=> (by have h2:=h.2.2 k hlt;rw [<-HSK.out] at h2;have:=HR.out.2 (h2.1 hfin);cases this),k0.trans (by repeat (first | apply K_.drew | exact hw.trans hk2))⟩
          ·go_wp2
           go_roundw
           case rel=>
            refine ⟨k+1,by omega,by go_num,by repeat (first | apply K_.drew | exact hw.trans hk2),fun j hj=> ?_⟩
            by_cases e:j=k
            ·subst e
             rw [<-HSK.out]
             exact ⟨fun _=> HR.out.1 rfl,fun e=> (by rw [hfin] at e;cases e)⟩
            ·exact unhide HG j (by omega)
           case measure=> simp [intOf];omega
        ·rw [hfin] at c5
         rw [hbad] at c6
         have hq: ∀W,K_ wr W->Calls Tryz.prog 275 #[.agg #[.slice aa s.asks.length ca,.int .i64 s.on,.slice ac s.cases.length cc,.int .i64 s.els,.int .i64 s.fall,.bool true,.bool true,.string s.give],.int .i64 l.length] W fun e w'=> Says e (EndOk s)∧K_ W w':=fun W hW=> by
          have h:=badSound_any W s aa ac ca cc l.length hsz
          rw [hfin,hbad] at h
          exact h
         have HQ:=Kz hq
         clear hq
         have hm:=meth_bad
         go_wp2
         go_region_with (first | (go_at_call 144;refine (kindOf_bad _ s aa ac ca cc).mono ?_;rintro e w1 ⟨rfl,hw1⟩;obtain ⟨hc2,hf2⟩:=hw1.rules;have hk1:K_ wr w1:=K_.trans (by repeat (first | apply K_.drew | apply K_.alloc | exact K_.refl _)) hw1) | (go_at_call 275;refine (unhide HQ _ (by repeat (first | apply K_.drew | assumption))).mono ?_;rintro e w2 ⟨⟨r,rfl,hr⟩,hw2⟩;have hk2:K_ wr w2:=K_.trans (by repeat (first | apply K_.drew | assumption)) hw2;have HR:=Kz hr;clear hr))
         all_goals
          clear hc1 hf1 hc2 hf2 hm c0 c1 c2 c3 c4 c5 c6 c7 hA hC
          cases r
          ·go_wp2
           go_ret
           exact ⟨Says.no fun h=> (by have h2:=h.2.2 k hlt;rw [<-HSK.out] at h2;have:=HR.out.2 (h2.1 hfin);cases this),k0.trans (by repeat (first | apply K_.drew | exact hw.trans hk2))⟩
          ·go_wp2
           go_roundw
           case rel=>
            refine ⟨k+1,by omega,by go_num,by repeat (first | apply K_.drew | exact hw.trans hk2),fun j hj=> ?_⟩
            by_cases e:j=k
            ·subst e
             rw [<-HSK.out]
             exact ⟨fun _=> HR.out.1 rfl,fun e=> (by rw [hfin] at e;cases e)⟩
            ·exact unhide HG j (by omega)
           case measure=> simp [intOf];omega
      ·go_wp2
       go_ret
       exact ⟨Says.yes ⟨⟨a1,a2⟩,⟨by show 1<=l.length;omega,by show l.length<=20;omega⟩,fun j (hj:j < l.length)=> unhide HG j (by omega)⟩,k0.trans hw⟩
    ·go_enter Tryz.func136,Tryz.ntmps136
     go_wp2
     go_ret
     exact ⟨Says.no fun h=> by have:=h.2.1.2;simp at this;omega,k0⟩
   ·go_enter Tryz.func136,Tryz.ntmps136
    go_wp2
    go_ret
    exact ⟨Says.no fun h=> by have:=h.2.1.1;simp at this;omega,k0⟩
  ·go_enter Tryz.func136,Tryz.ntmps136
   go_wp2
   go_ret
   exact ⟨Says.no fun h=> by have:=h.1.2;simp at this;omega,k0⟩
 ·go_enter Tryz.func136,Tryz.ntmps136
  go_wp2
  go_ret
  exact ⟨Says.no fun h=> by have:=h.1.1;simp at this;omega,k0⟩
theorem le_sum {α:Type} (f:α->Nat) {l:List α} {x:α} (h:x∈l):f x<=(l.map f).sum:=by
 induction l with
 | nil=> cases h
 | cons y r ih=>
  rcases List.mem_cons.1 h with rfl | h
  ·simp
  ·have:=ih h
   simp;omega
theorem small_of_sz {l:List Xj} {n:Nat} (h:szSteps l<=n):l.length<=n∧∀s∈l,s.asks.length<=n∧s.cases.length<=n:=by
 unfold szSteps at h
 refine ⟨by omega,fun s hs=> ?_⟩
 have h1:=le_sum szStepD hs
 have h2:szStepD s= (s.asks.length+ (s.asks.map (·.size)).sum)+ (s.cases.length+ (s.cases.map (·.text.size)).sum)+s.give.size:=rfl
 omega
def szNodeD (d:Qq):Nat:=d.name.size+szSteps d.steps
theorem szNode_any (w:World) (d:Qq) (a:Option Addr) (cap:Nat) (left:Int) (hd:d.Fits) (hS:Steps w a d.steps) (h0:0<=left) (h1:left<=1048576):
  Calls Tryz.prog 54 #[.agg #[.string d.name,.int .i64 d.cost,.slice a d.steps.length cap],.int .i64 left] w fun e w'=> e= .returned (.int .i64 (szL (szNodeD d) left))∧K_ w w':=by
 have hn:=hd.name
 unfold maxLen at hn
 have k0:K_ w (w.alloc (.cells #[.string d.name,.int .i64 d.cost,.slice a d.steps.length cap] 108)):= (K_.refl _).alloc _
 by_cases hle: (d.name.size:Int)<=left
 ·go_enter Tryz.func54,Tryz.ntmps54
  go_wp2_with fail
  refine (szAction_any _ d.cost a cap d.steps _ hd.steps hd.each (hS.kept k0) (by omega) (by omega)).mono ?_
  rintro e w1 ⟨rfl,k1⟩
  have k2:=k0.trans k1
  clear k0 k1
  by_cases hle2: (szSteps d.steps:Int)<=left - d.name.size
  ·rw [szL_pos hle2]
   go_wp2
   go_ret
   exact ⟨ret_int (by rw [szL_pos (by unfold szNodeD;omega)];unfold szNodeD;omega),k2⟩
  ·rw [szL_neg (by omega)]
   go_wp2
   go_ret
   exact ⟨ret_int (szL_neg (by unfold szNodeD;omega)).symm,k2⟩
 ·go_enter Tryz.func54,Tryz.ntmps54
  go_wp2
  go_ret
  exact ⟨ret_int (szL_neg (by unfold szNodeD;omega)).symm,k0⟩
theorem eqNode_yes (w:World) (d:Qq) (a a':Option Addr) (cap cap':Nat) (hd:d.Fits) (hS:Steps w a d.steps) (hS':Steps w a' d.steps):
  Calls Tryz.prog 78 #[.agg #[.string d.name,.int .i64 d.cost,.slice a d.steps.length cap],.agg #[.string d.name,.int .i64 d.cost,.slice a' d.steps.length cap']] w fun e w'=> e= .returned (.bool true)∧K_ w w':=by
 have k0:K_ w ((w.alloc (.cells #[.string d.name,.int .i64 d.cost,.slice a d.steps.length cap] 88)).alloc (.cells #[.string d.name,.int .i64 d.cost,.slice a' d.steps.length cap'] 88)):= ((K_.refl _).alloc _).alloc _
 go_enter Tryz.func78,Tryz.ntmps78
 go_wp2_with fail
 refine (eqAction_yes _ d.cost a a' cap cap' d.steps hd.steps (fun s hs=> ⟨(hd.each s hs).asks,(hd.each s hs).cases⟩) (hS.kept (by repeat (first | apply K_.drew | exact k0))) (hS'.kept (by repeat (first | apply K_.drew | exact k0)))).mono ?_
 rintro e w1 ⟨rfl,k1⟩
 have k2:K_ w w1:=K_.trans (by repeat (first | apply K_.drew | exact k0)) k1
 clear k0 k1
 go_wp2
 go_ret
 exact ⟨rfl,k2⟩
theorem Tryz.sizeNode : (Tryz.prog.info? 88).map (·.size)=some 3:=by kernel_rfl
theorem toNode_any (w:World) (d:Qq) (a:Option Addr) (cap:Nat) (hl:d.steps.length<=1048576) (hs: ∀s∈d.steps,s.asks.length<=1048576∧s.cases.length<=1048576) (hS:Steps w a d.steps):
  Calls Tryz.prog 62 #[.agg #[.string d.name,.int .i64 d.cost,.slice a d.steps.length cap]] w fun e w'=> ∃b,e= .returned (.agg (d.cells (some ⟨b,0,none⟩) d.steps.length).toArray)∧StepsNew w' b d.steps∧K_ w w'∧w.heap.size<=b:=by
 go_enter Tryz.func62,Tryz.ntmps62
 go_wp2_with fail
 refine (toAction_any _ d.cost a cap d.steps hl hs (hS.kept (by repeat (first | apply K_.alloc | exact K_.refl _)))).mono ?_
 rintro e w1 ⟨b,rfl,hN,k1,hb⟩
 obtain ⟨hc1,hf1⟩:=k1.rules
 have hz1:=k1.size
 simp only [World.size_alloc] at hb hz1
 have K1:K_ w w1:=K_.trans (by repeat (first | apply K_.alloc | exact K_.refl _)) k1
 have hrow1:Row w1 (w.heap.size+1) 3:=Row.kept (Row.alloc (by have:=Row.made (w.alloc (.cells #[.string d.name,.int .i64 d.cost,.slice a d.steps.length cap] 108)) #[.string ⟨#[]⟩,.int .i64 0,.slice none 0 0] 88;simpa using this) _) k1
 have HRow:=Kz hrow1
 clear k1 hrow1
 go_wp2
 have hX:Row ((w1.setCell ⟨w.heap.size+1+1,1,none⟩ (.int .i64 d.cost)).setCell ⟨w.heap.size+1+1,2,none⟩ (.slice (some ⟨b,0,none⟩) d.steps.length d.steps.length)) (w.heap.size+1) 3:=Row.set (Row.set HRow.out _ rfl _) _ rfl _
 have hR:=World.rangeAt_setCells_same _ (w.heap.size+1) 0 (d.cells (some ⟨b,0,none⟩) d.steps.length) (hX.there (o:=0) (m:=3) (Nat.le_refl _))
 refine X_ (d.cells (some ⟨b,0,none⟩) d.steps.length) _ Tryz.results62 rfl hR Tryz.underlying88 rfl Tryz.sizeNode rfl ⟨b,rfl, ?_, ?_,by omega⟩
 ·repeat (first | (refine StepsNew.setCell ?_ (by simp <;> omega) _) | exact hN)
 ·repeat (first | (refine K_.setCell ?_ (by simp <;> omega) _) | exact K1)
def szNodesD (l:List Qq):Nat:=l.length+ (l.map szNodeD).sum
theorem szNodeS_any (w:World) (a:Option Addr) (cap:Nat) (l:List Qq) (left:Int) (hl:l.length<=maxLen) (hs: ∀s∈l,s.Fits)
  (hS:Nodes w a l) (h0:0<=left) (h1:left<=1048576):
  Calls Tryz.prog 24 #[.slice a l.length cap,.int .i64 left] w fun e w'=> e= .returned (.int .i64 (szL (szNodesD l) left))∧K_ w w':=by
 unfold maxLen at hl
 go_enter Tryz.func24,Tryz.ntmps24
 go_wp2
 ·go_ret
  exact ⟨ret_int (szL_neg (by unfold szNodesD;omega)).symm,K_.refl _⟩
 ·go_loopw [1,5] (fun x i wr=> ∃k:Nat,k<=l.length∧i= .int .i64 k∧x= .int .i64 (left - l.length - sumTo szNodeD l k)∧0<=left - l.length - sumTo szNodeD l k∧K_ w wr) (fun _ i _=> l.length - (intOf i).toNat)
  case atStart=> exact ⟨0,Nat.zero_le _,rfl,by simp [sumTo_zero],by simp [sumTo_zero];omega,K_.refl _⟩
  case round=>
   obtain ⟨k,hk,rfl,rfl,hge,hw⟩:=hrel
   by_cases hlt:k < l.length
   ·obtain ⟨b,o,cs,rfl,hb,hc,aa,ca,rfl,hA⟩:=hS.kept hw k hlt
    have hsz: (l.getD k Qq.zero).Fits:=hs _ (by simp [List.getD,hlt])
    have HS:Hid (sumTo szNodeD l (k+1)=sumTo szNodeD l k+szNodeD (l.getD k Qq.zero)):=sumTo_succ _ l _ k hlt
    have HT:=sumTo_le szNodeD l (k+1)
    generalize l.getD k Qq.zero=s at *
    have c0:=hc 0 _ rfl
    have c1:=hc 1 _ rfl
    have c2:=hc 2 _ rfl
    simp only [Nat.add_zero] at c0
    clear hc
    go_wp2_with fail
    refine (szNode_any _ s aa ca _ hsz hA (by omega) (by omega)).mono ?_
    rintro e w1 ⟨rfl,hw1⟩
    have hw2:=hw.trans hw1
    by_cases hle: (szNodeD s:Int)<=left - l.length - sumTo szNodeD l k
    ·rw [szL_pos hle]
     clear c0 c1 c2 hA hw hw1
     go_wp2
     go_roundw
     case rel=> exact ⟨k+1,by omega,by go_num,by rw [HS.out];go_num,by rw [HS.out];omega,hw2⟩
     case measure=> simp [intOf];omega
    ·rw [szL_neg (by omega)]
     clear c0 c1 c2 hA hw hw1
     go_wp2
     go_ret
     exact ⟨ret_int (szL_neg (by unfold szNodesD;have:=HS.out;omega)).symm,hw2⟩
   ·go_wp2
    go_ret
    have:k=l.length:=by omega
    subst this
    rw [sumTo_all] at hge⊢
    exact ⟨ret_int (by rw [szL_pos (by unfold szNodesD;omega)];unfold szNodesD;omega),hw⟩
theorem Tryz.infoNode : (Tryz.prog.info? 88).map (fun i=> (i.zero,i.size,i.bytes))=some (some (.agg #[.string ⟨#[]⟩,.int .i64 0,.slice none 0 0]),3,48):=by kernel_rfl
theorem toNodeS_any (w:World) (a:Option Addr) (cap:Nat) (l:List Qq) (hl:l.length<=1048576) (hs: ∀s∈l,s.steps.length<=1048576∧∀x∈s.steps,x.asks.length<=1048576∧x.cases.length<=1048576)
  (hS:Nodes w a l):
  Calls Tryz.prog 28 #[.slice a l.length cap] w fun e w'=> ∃b,e= .returned (.slice (some ⟨b,0,none⟩) l.length l.length)∧NodesNew w' b l∧K_ w w'∧w.heap.size<=b:=by
 have hmk:=run_make_many (P:=Tryz.prog) 35 88 _ _ _ Tryz.underlying35 Tryz.infoNode .i64 .i64 l.length (by omega) (by omega)
 go_enter Tryz.func28,Tryz.ntmps28
 go_wp2
 clear hmk
 have hrow:=Row.made w (madeCells #[.string ⟨#[]⟩,.int .i64 0,.slice none 0 0] (l.length * 3)) 88
 rw [size_madeCells] at hrow
 have hkept:K_ w (w.alloc (.cells (madeCells #[.string ⟨#[]⟩,.int .i64 0,.slice none 0 0] (l.length * 3)) 88)):= (K_.refl _).alloc _
 go_loopw [4] (fun i wr=> ∃k:Nat,k<=l.length∧i= .int .i64 k∧K_ w wr∧Row wr w.heap.size (l.length * 3)∧∀j,j < k->NodeNew wr w.heap.size j (l.getD j Qq.zero)) (fun i _=> l.length - (intOf i).toNat)
 case atStart=> exact ⟨0,Nat.zero_le _,rfl,hkept,hrow,fun j hj=> absurd hj (Nat.not_lt_zero _)⟩
 case round=>
  obtain ⟨k,hk,rfl,hw,hr,hf⟩:=hrel
  clear hrow hkept
  by_cases hlt:k < l.length
  ·obtain ⟨b,o,cs,rfl,hb,hc,aa,ca,rfl,hA⟩:=hS.kept hw k hlt
   have hsz:=hs (l.getD k Qq.zero) (by simp [List.getD,hlt])
   have HF:=Kz hf
   clear hf
   generalize hs:l.getD k Qq.zero=s at *
   have HSs:=Kz hs
   clear hs
   have c0:=hc 0 _ rfl
   have c1:=hc 1 _ rfl
   have c2:=hc 2 _ rfl
   simp only [Nat.add_zero] at c0
   clear hc
   go_wp2_with fail
   refine (toNode_any _ s aa ca hsz.1 hsz.2 hA).mono ?_
   rintro e w1 ⟨b1,rfl,g1,hw1,g3⟩
   have hrl:=hr.lt
   have hw2:=hw.trans hw1
   have hr1:=hr.kept hw1
   generalize hcs:s.cells (some ⟨b1,0,none⟩) s.steps.length=cs
   have hlen:cs.length=3:=by rw [<-hcs];rfl
   have hone:cs.toArray.all (·.oneCell')=true:=by rw [<-hcs];exact Qq.one s _ _
   have hth:w1.there w.heap.size (k * 3) cs.toArray.size:=by simpa [hlen] using hr1.there (o:=k * 3) (m:=3) (by omega)
   have hsize: (Tryz.prog.info? 88).map (·.size)=some cs.toArray.size:=by rw [Tryz.sizeNode];simp [hlen]
   have HCS:=Kz hcs
   have HLEN:=Kz hlen
   have HSZ:=Kz hsize
   clear hcs hlen hsize
   have HR:Hid (Row w1 w.heap.size (l.length * 3)):=hr1
   have HF1:Hid (∀j,j < k->NodeNew w1 w.heap.size j (l.getD j Qq.zero)):=fun j hj=> (HF.out j hj).kept hw1 hr.lt
   clear HF c0 c1 c2 hw hw1 hr hr1 hA
   go_wp2_with (refine wpList_store_mid rfl 88 _ _ rfl w.heap.size (k * 3) cs.toArray rfl rfl hth (unhide HSZ) hone ?_)
   go_roundw
   case rel=>
    refine ⟨k+1,by omega,by go_num,K_.setCells (Nat.le_refl _) _ _ hw2,Row.setCells _ _ HR.out,fun j hj=> ?_⟩
    by_cases e:j=k
    ·subst e
     rw [unhide HSs]
     exact ⟨b1,by omega,by rw [HCS.out];exact World.rangeAt_setCells_same _ _ _ _ (by simpa using hth),StepsNew.setCellsBelow g1 (by omega)⟩
    ·exact (HF1.out j (by omega)).setCells (by rw [HLEN.out];omega)
   case measure=> simp [intOf];omega
  ·go_wp2
   go_ret
   have:k=l.length:=by omega
   subst this
   exact ⟨w.heap.size,rfl,⟨hr.lt,hf⟩,hw,Nat.le_refl _⟩
theorem eqNodeS_yes (w:World) (a a':Option Addr) (cap cap':Nat) (l:List Qq) (hl:l.length<=maxLen) (hs: ∀s∈l,s.Fits)
  (hS:Nodes w a l) (hS':Nodes w a' l):
  Calls Tryz.prog 33 #[.slice a l.length cap,.slice a' l.length cap'] w fun e w'=> e= .returned (.bool true)∧K_ w w':=by
 unfold maxLen at hl
 go_enter Tryz.func33,Tryz.ntmps33
 go_wp2
 go_loopw [5] (fun i wr=> ∃k:Nat,k<=l.length∧i= .int .i64 k∧K_ w wr) (fun i _=> l.length - (intOf i).toNat)
 case atStart=> exact ⟨0,Nat.zero_le _,rfl,K_.refl _⟩
 case round=>
  obtain ⟨k,hk,rfl,hw⟩:=hrel
  by_cases hlt:k < l.length
  ·obtain ⟨b,o,cs,rfl,hb,hc,aa,ca,rfl,hA⟩:=hS.kept hw k hlt
   obtain ⟨b',o',cs',rfl,hb',hc',ba,da,rfl,hA'⟩:=hS'.kept hw k hlt
   have hsz:=hs (l.getD k Qq.zero) (by simp [List.getD,hlt])
   clear hs
   generalize l.getD k Qq.zero=s at *
   have c0:=hc 0 _ rfl
   have c1:=hc 1 _ rfl
   have c2:=hc 2 _ rfl
   have d0:=hc' 0 _ rfl
   have d1:=hc' 1 _ rfl
   have d2:=hc' 2 _ rfl
   simp only [Nat.add_zero] at c0 d0
   clear hc hc'
   go_wp2
   go_region_with (go_at_call 78;refine (eqNode_yes _ s aa ba ca da hsz (hA.kept (by repeat (first | apply K_.drew | exact K_.refl _))) (hA'.kept (by repeat (first | apply K_.drew | exact K_.refl _)))).mono ?_;rintro e w1 ⟨rfl,hw1⟩)
   all_goals
    go_wp2
    go_roundw
    case rel=> exact ⟨k+1,by omega,by go_num,by repeat (first | assumption | apply K_.drew | refine K_.trans ?_ (by assumption))⟩
    case measure=> simp [intOf];omega
  ·go_wp2
   go_ret
   exact ⟨rfl,hw⟩
theorem szWeb_any (w:World) (a:Option Addr) (cap:Nat) (l:List Qq) (left:Int) (hl:l.length<=maxLen) (hs: ∀s∈l,s.Fits) (hS:Nodes w a l) (h0:0<=left) (h1:left<=1048576):
  Calls Tryz.prog 5 #[.agg #[.slice a l.length cap],.int .i64 left] w fun e w'=> e= .returned (.int .i64 (szL (szNodesD l) left))∧K_ w w':=by
 have k0:K_ w (w.alloc (.cells #[.slice a l.length cap] 24)):= (K_.refl _).alloc _
 go_enter Tryz.func5,Tryz.ntmps5
 go_wp2_with fail
 refine (szNodeS_any _ a cap l left hl hs (hS.kept k0) h0 h1).mono ?_
 rintro e w1 ⟨rfl,k1⟩
 have k2:=k0.trans k1
 clear k0 k1
 by_cases hle: (szNodesD l:Int)<=left
 ·rw [szL_pos hle]
  go_wp2
  go_ret
  exact ⟨ret_int (szL_pos hle).symm,k2⟩
 ·rw [szL_neg (by omega)]
  go_wp2
  go_ret
  exact ⟨ret_int (szL_neg (by omega)).symm,k2⟩
theorem Tryz.sizeWeb : (Tryz.prog.info? 37).map (·.size)=some 1:=by kernel_rfl
theorem toWeb_any (w:World) (a:Option Addr) (cap:Nat) (l:List Qq) (hl:l.length<=1048576) (hs: ∀s∈l,s.steps.length<=1048576∧∀x∈s.steps,x.asks.length<=1048576∧x.cases.length<=1048576) (hS:Nodes w a l):
  Calls Tryz.prog 8 #[.agg #[.slice a l.length cap]] w fun e w'=> ∃b,e= .returned (.agg #[.slice (some ⟨b,0,none⟩) l.length l.length])∧NodesNew w' b l∧K_ w w'∧w.heap.size<=b:=by
 go_enter Tryz.func8,Tryz.ntmps8
 go_wp2_with fail
 refine (toNodeS_any _ a cap l hl hs (hS.kept (by repeat (first | apply K_.alloc | exact K_.refl _)))).mono ?_
 rintro e w1 ⟨b,rfl,hN,k1,hb⟩
 obtain ⟨hc1,hf1⟩:=k1.rules
 have hz1:=k1.size
 simp only [World.size_alloc] at hb hz1
 have K1:K_ w w1:=K_.trans (by repeat (first | apply K_.alloc | exact K_.refl _)) k1
 have hrow1:Row w1 (w.heap.size+1) 1:=Row.kept (Row.alloc (by have:=Row.made (w.alloc (.cells #[.slice a l.length cap] 24)) #[.slice none 0 0] 37;simpa using this) _) k1
 have HRow:=Kz hrow1
 clear k1 hrow1
 go_wp2
 have hX:Row (w1.setCell ⟨w.heap.size+1+1,0,none⟩ (.slice (some ⟨b,0,none⟩) l.length l.length)) (w.heap.size+1) 1:=Row.set HRow.out _ rfl _
 have hR:=World.rangeAt_setCells_same _ (w.heap.size+1) 0 [.slice (some ⟨b,0,none⟩) l.length l.length] (hX.there (o:=0) (m:=1) (Nat.le_refl _))
 refine X_ [.slice (some ⟨b,0,none⟩) l.length l.length] _ Tryz.results8 rfl hR Tryz.underlying37 rfl Tryz.sizeWeb rfl ⟨b,rfl, ?_, ?_,by omega⟩
 ·repeat (first | (refine NodesNew.setCell ?_ (by simp <;> omega) _) | exact hN)
 ·repeat (first | (refine K_.setCell ?_ (by simp <;> omega) _) | exact K1)
theorem eqWeb_yes (w:World) (a a':Option Addr) (cap cap':Nat) (l:List Qq) (hl:l.length<=maxLen) (hs: ∀s∈l,s.Fits) (hS:Nodes w a l) (hS':Nodes w a' l):
  Calls Tryz.prog 12 #[.agg #[.slice a l.length cap],.agg #[.slice a' l.length cap']] w fun e w'=> e= .returned (.bool true)∧K_ w w':=by
 have k0:K_ w ((w.alloc (.cells #[.slice a l.length cap] 37)).alloc (.cells #[.slice a' l.length cap'] 37)):= ((K_.refl _).alloc _).alloc _
 go_enter Tryz.func12,Tryz.ntmps12
 go_wp2_with fail
 refine (eqNodeS_yes _ a a' cap cap' l hl hs (hS.kept (by repeat (first | apply K_.drew | exact k0))) (hS'.kept (by repeat (first | apply K_.drew | exact k0)))).mono ?_
 rintro e w1 ⟨rfl,k1⟩
 have k2:K_ w w1:=K_.trans (by repeat (first | apply K_.drew | exact k0)) k1
 clear k0 k1
 go_wp2
 go_ret
 exact ⟨rfl,k2⟩
theorem less_trans : ∀(x y z:List UInt8),Op.bytesLess x y=true->Op.bytesLess y z=true->Op.bytesLess x z=true
 | [],[],_,h,_=> by simp [Op.bytesLess] at h
 | [],_ :: _,[],_,h=> by simp [Op.bytesLess] at h
 | [],_ :: _,_ :: _,_,_=> by simp [Op.bytesLess]
 | _ :: _,[],_,h,_=> by simp [Op.bytesLess] at h
 | _ :: _,_ :: _,[],_,h=> by simp [Op.bytesLess] at h
 | a :: x,b :: y,c :: z,h1,h2=> by
  have ih:=less_trans x y z
  simp only [Op.bytesLess,Bool.or_eq_true,Bool.and_eq_true,decide_eq_true_eq,beq_iff_eq] at h1 h2⊢
  rcases h1 with h1 | ⟨rfl,h1⟩
  ·rcases h2 with h2 | ⟨rfl,h2⟩
   ·exact .inl (UInt8.lt_trans h1 h2)
   ·exact .inl h1
  ·rcases h2 with h2 | ⟨rfl,h2⟩
   ·exact .inl h2
   ·exact .inr ⟨rfl,ih h1 h2⟩
theorem less_irrefl : ∀x:List UInt8,Op.bytesLess x x=false
 | []=> rfl
 | a :: x=> by
  have ih:=less_irrefl x
  simp [Op.bytesLess,ih]
theorem less_total : ∀x y:List UInt8,Op.bytesLess x y=false->x≠y->Op.bytesLess y x=true
 | [],[],_,h=> absurd rfl h
 | [],_ :: _,h,_=> by simp [Op.bytesLess] at h
 | _ :: _,[],_,_=> rfl
 | a :: x,b :: y,h,hne=> by
  have ih:=less_total x y
  simp only [Op.bytesLess,Bool.or_eq_false_iff,decide_eq_false_iff_not,Bool.and_eq_false_iff,beq_eq_false_iff_ne] at h
  simp only [Op.bytesLess,Bool.or_eq_true,Bool.and_eq_true,decide_eq_true_eq,beq_iff_eq]
  by_cases e:a=b
  ·subst e
   right
   refine ⟨rfl,ih ?_ (fun e=> hne (by rw [e]))⟩
   rcases h.2 with h2 | h2
   ·exact absurd rfl h2
   ·exact h2
  ·left
   have h1:=h.1
   rw [UInt8.not_lt] at h1
   exact UInt8.lt_of_le_of_ne h1 (fun e'=> e e'.symm)
def nameAt (l:List Qq) (i:Nat):List UInt8:= (l.getD i Qq.zero).name.toList
def Rises (l:List Qq):Prop:= ∀i j,i < j->j < l.length->Op.bytesLess (nameAt l i) (nameAt l j)=true
theorem rises_of {l:List Qq} (h: ∀i,i+1 < l.length->Op.bytesLess (nameAt l i) (nameAt l (i+1))=true):Rises l:=by
 intro i j hij hj
 induction j with
 | zero=> omega
 | succ j ih=>
  by_cases e:i=j
  ·subst e;exact h i hj
  ·exact less_trans _ _ _ (ih (by omega) (by omega)) (h j hj)
structure Place (l:List Qq) (key:List UInt8) (p:Nat):Prop where
 le:p<=l.length
 before: ∀j,j < p->Op.bytesLess (nameAt l j) key=true
 behind: ∀j,p<=j->j < l.length->Op.bytesLess (nameAt l j) key=false
theorem Place.only {l:List Qq} {key:List UInt8} {p j:Nat} (hr:Rises l) (h:Place l key p) (hj:j < l.length) (e:nameAt l j=key):j=p:=by
 by_cases h1:j < p
 ·have:=h.before j h1
  rw [e,less_irrefl] at this
  cases this
 ·by_cases h2:p < j
  ·have h3:=hr p j h2 hj
   rw [e] at h3
   have:=h.behind p (Nat.le_refl _) (by omega)
   rw [h3] at this
   cases this
  ·omega
