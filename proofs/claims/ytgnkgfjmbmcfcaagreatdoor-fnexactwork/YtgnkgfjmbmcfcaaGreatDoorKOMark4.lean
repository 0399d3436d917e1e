import Derived.Test.YtgnkgfjmbmcfcaaGreatDoorProg
import Derived.WalkKit
import Derived.WalkSpells
import Derived.WalkLawsBesides
import Derived.Deep.OwnRows
import Derived.Deep.RegionWith
import Derived.Test.YtgnkgfjmbmcfcaaGreatDoorKSRoots
import Derived.OwnWalk
set_option maxRecDepth 100000
set_option maxHeartbeats 25600000
namespace Go.Proofs.YtgnkgfjmbmcfcaaGreatDoor
open Go.RowKit
theorem szCase_any (w:World) (c:CaseD) (left:Int) (hs:c.text.size<=maxLen) (h0:0<=left) (h1:left<=1048576):
  Calls Tryz.prog 209 #[.agg #[.string c.text,.int .i64 c.goto],.int .i64 left] w fun e w'=> e= .returned (.int .i64 (szL c.text.size left))∧K_ w w':=by
 unfold maxLen at hs
 go_enter Tryz.func209,Tryz.ntmps209
 go_wp2
 ·go_ret
  exact ⟨ret_int (szL_neg (by omega)).symm,(K_.refl _).alloc _⟩
 ·go_ret
  exact ⟨ret_int (szL_pos (by omega)).symm,(K_.refl _).alloc _⟩
theorem toCase_any (w:World) (c:CaseD):
  Calls Tryz.prog 210 #[.agg #[.string c.text,.int .i64 c.goto]] w fun e w'=> e= .returned (.agg #[.string c.text,.int .i64 c.goto])∧K_ w w':=by
 go_enter Tryz.func210,Tryz.ntmps210
 go_wp2
 exact bodyPost_ret (v:= .agg #[.string c.text,.int .i64 c.goto]) (by simp [results,Tryz.results210,go_sem]) rfl ⟨rfl,by
  repeat (first | apply K_.alloc | (refine K_.setCell ?_ (by simp) _) | exact K_.refl _)⟩
theorem eqCase_yes (w:World) (c:CaseD):
  Calls Tryz.prog 228 #[.agg #[.string c.text,.int .i64 c.goto],.agg #[.string c.text,.int .i64 c.goto]] w fun e w'=> e= .returned (.bool true)∧K_ w w':=by
 go_enter Tryz.func228,Tryz.ntmps228
 go_wp2
 go_ret
 exact ⟨rfl,by repeat (first | apply K_.alloc | apply K_.drew | exact K_.refl _)⟩
def szCases (l:List CaseD):Nat:=l.length+ (l.map (·.text.size)).sum
theorem szCaseS_any (w:World) (a:Option Addr) (cap:Nat) (l:List CaseD) (left:Int) (hl:l.length<=maxLen) (hs: ∀c∈l,c.text.size<=maxLen)
  (hS:Cases w a l) (h0:0<=left) (h1:left<=1048576):
  Calls Tryz.prog 192 #[.slice a l.length cap,.int .i64 left] w fun e w'=> e= .returned (.int .i64 (szL (szCases l) left))∧K_ w w':=by
 unfold maxLen at hl
 go_enter Tryz.func192,Tryz.ntmps192
 go_wp2
 ·go_ret
  exact ⟨ret_int (szL_neg (by unfold szCases;omega)).symm,K_.refl _⟩
 ·go_loopw [1,5] (fun x i wr=> ∃k:Nat,k<=l.length∧i= .int .i64 k∧x= .int .i64 (left - l.length - sumTo (·.text.size) l k)∧0<=left - l.length - sumTo (·.text.size) l k∧K_ w wr) (fun _ i _=> l.length - (intOf i).toNat)
  case atStart=> exact ⟨0,Nat.zero_le _,rfl,by simp [sumTo_zero],by simp [sumTo_zero];omega,K_.refl _⟩
  case round=>
   obtain ⟨k,hk,rfl,rfl,hge,hw⟩:=hrel
   by_cases hlt:k < l.length
   ·obtain ⟨b,o,rfl,hb,hc⟩:=hS.kept hw k hlt
    have hsz: (l.getD k CaseD.zero).text.size<=maxLen:=hs _ (by simp [List.getD,hlt])
    have HS:Hid (sumTo (·.text.size) l (k+1)=sumTo (·.text.size) l k+ (l.getD k CaseD.zero).text.size):=sumTo_succ _ l _ k hlt
    have HT:=sumTo_le (·.text.size) l (k+1)
    generalize l.getD k CaseD.zero=c at *
    have c0:=hc 0 _ rfl
    have c1:=hc 1 _ rfl
    simp only [Nat.add_zero] at c0
    go_wp2_with fail
    refine (szCase_any _ c _ hsz (by omega) (by omega)).mono ?_
    rintro e w1 ⟨rfl,hw1⟩
    have hw2:=hw.trans hw1
    by_cases hle: (c.text.size:Int)<=left - l.length - sumTo (·.text.size) l k
    ·rw [szL_pos hle]
     clear c0 c1 hc hw hw1
     go_wp2
     go_roundw
     case rel=> exact ⟨k+1,by omega,by go_num,by rw [HS.out];go_num,by rw [HS.out];omega,hw2⟩
     case measure=> simp [intOf];omega
    ·rw [szL_neg (by omega)]
     clear c0 c1 hc hw hw1
     go_wp2
     go_ret
     exact ⟨ret_int (szL_neg (by unfold szCases;have:=HS.out;omega)).symm,hw2⟩
   ·go_wp2
    go_ret
    have:k=l.length:=by omega
    subst this
    rw [sumTo_all] at hge⊢
    exact ⟨ret_int (by rw [szL_pos (by unfold szCases;omega)];unfold szCases;omega),hw⟩
theorem eqCaseS_yes (w:World) (a a':Option Addr) (cap cap':Nat) (l:List CaseD) (hl:l.length<=maxLen)
  (hS:Cases w a l) (hS':Cases w a' l):
  Calls Tryz.prog 208 #[.slice a l.length cap,.slice a' l.length cap'] w fun e w'=> e= .returned (.bool true)∧K_ w w':=by
 unfold maxLen at hl
 go_enter Tryz.func208,Tryz.ntmps208
 go_wp2
 go_loopw [5] (fun i wr=> ∃k:Nat,k<=l.length∧i= .int .i64 k∧K_ w wr) (fun i _=> l.length - (intOf i).toNat)
 case atStart=> exact ⟨0,Nat.zero_le _,rfl,K_.refl _⟩
 case round=>
  obtain ⟨k,hk,rfl,hw⟩:=hrel
  by_cases hlt:k < l.length
  ·obtain ⟨b,o,rfl,hb,hc⟩:=hS.kept hw k hlt
   obtain ⟨b',o',rfl,hb',hc'⟩:=hS'.kept hw k hlt
   generalize l.getD k CaseD.zero=c at *
   have c0:=hc 0 _ rfl
   have c1:=hc 1 _ rfl
   have d0:=hc' 0 _ rfl
   have d1:=hc' 1 _ rfl
   simp only [Nat.add_zero] at c0 d0
   clear hc hc'
   go_wp2
   go_region_with (go_at_call 228;refine (eqCase_yes _ c).mono ?_;rintro e w1 ⟨rfl,hw1⟩)
   all_goals
    go_wp2
    go_roundw
    case rel=> exact ⟨k+1,by omega,by go_num,by repeat (first | assumption | apply K_.drew | refine K_.trans ?_ (by assumption))⟩
    case measure=> simp [intOf];omega
  ·go_wp2
   go_ret
   exact ⟨rfl,hw⟩
theorem Tryz.sizeCase : (Tryz.prog.info? 212).map (·.size)=some 2:=by kernel_rfl
theorem Tryz.infoCase : (Tryz.prog.info? 212).map (fun i=> (i.zero,i.size,i.bytes))=some (some (.agg #[.string ByteArray.empty,.int .i64 0]),2,24):=by kernel_rfl
theorem toCaseS_any (w:World) (a:Option Addr) (cap:Nat) (l:List CaseD) (hl:l.length<=1048576)
  (hS:Cases w a l):
  Calls Tryz.prog 193 #[.slice a l.length cap] w fun e w'=> ∃b,e= .returned (.slice (some ⟨b,0,none⟩) l.length l.length)∧Cases w' (some ⟨b,0,none⟩) l∧K_ w w'∧w.heap.size<=b:=by
 have hmk:=run_make_many (P:=Tryz.prog) 170 212 _ _ _ Tryz.underlying170 Tryz.infoCase .i64 .i64 l.length (by omega) (by omega)
 go_enter Tryz.func193,Tryz.ntmps193
 go_wp2
 clear hmk
 have hrow:=Row.made w (madeCells #[.string ByteArray.empty,.int .i64 0] (l.length * 2)) 212
 rw [size_madeCells] at hrow
 have hkept:K_ w (w.alloc (.cells (madeCells #[.string ByteArray.empty,.int .i64 0] (l.length * 2)) 212)):= (K_.refl _).alloc _
 go_loopw [4] (fun i wr=> ∃k:Nat,k<=l.length∧i= .int .i64 k∧K_ w wr∧Row wr w.heap.size (l.length * 2)∧∀j,j < k->wr.rangeAt w.heap.size (j * 2) (l.getD j CaseD.zero).cells) (fun i _=> l.length - (intOf i).toNat)
 case atStart=> exact ⟨0,Nat.zero_le _,rfl,hkept,hrow,fun j hj=> absurd hj (Nat.not_lt_zero _)⟩
 case round=>
  obtain ⟨k,hk,rfl,hw,hr,hf⟩:=hrel
  clear hrow hkept
  by_cases hlt:k < l.length
  ·obtain ⟨b,o,rfl,hb,hc⟩:=hS.kept hw k hlt
   have HF:=Kz hf
   clear hf
   generalize hs:l.getD k CaseD.zero=c at *
   have HSs:=Kz hs
   clear hs
   have c0:=hc 0 _ rfl
   have c1:=hc 1 _ rfl
   simp only [Nat.add_zero] at c0
   clear hc
   go_wp2_with fail
   refine (toCase_any _ c).mono ?_
   rintro e w1 ⟨rfl,hw1⟩
   have hw2:=hw.trans hw1
   have hr1:=hr.kept hw1
   have hth:=hr1.there (o:=k * 2) (m:=2) (by omega)
   have HR:Hid (Row w1 w.heap.size (l.length * 2)):=hr1
   have HF1:Hid (∀j,j < k->w1.rangeAt w.heap.size (j * 2) (l.getD j CaseD.zero).cells):=fun j hj=> hw1.range hr.lt (HF.out j hj)
   clear HF c0 c1 hw hw1 hr hr1
   go_wp2_with (refine wpList_store_mid rfl 212 _ _ rfl w.heap.size (k * 2) #[.string c.text,.int .i64 c.goto] rfl rfl hth Tryz.sizeCase (CaseD.one c) ?_)
   go_roundw
   case rel=>
    refine ⟨k+1,by omega,by go_num,K_.setCells (Nat.le_refl _) _ _ hw2,Row.setCells _ _ HR.out,fun j hj=> ?_⟩
    by_cases e:j=k
    ·subst e
     rw [unhide HSs]
     exact World.rangeAt_setCells_same _ _ _ _ hth
    ·exact World.rangeAt_setCells_apart (HF1.out j (by omega)) _ _ _ (by simp [CaseD.cells];omega)
   case measure=> simp [intOf];omega
  ·go_wp2
   go_ret
   have:k=l.length:=by omega
   subst this
   exact ⟨w.heap.size,rfl,fun j hj=> ⟨w.heap.size,0,rfl,hr.lt,by rw [Nat.zero_add];exact hf j hj⟩,hw,Nat.le_refl _⟩
def szStepD (s:Xj):Nat:=szStrs s.asks+szCases s.cases+s.give.size
theorem szStep_any (w:World) (s:Xj) (aa ac:Option Addr) (ca cc:Nat) (left:Int) (hs:s.Fits) (hA:Strs w aa s.asks) (hC:Cases w ac s.cases) (h0:0<=left) (h1:left<=1048576):
  Calls Tryz.prog 168 #[.agg #[.slice aa s.asks.length ca,.int .i64 s.on,.slice ac s.cases.length cc,.int .i64 s.els,.int .i64 s.fall,.bool s.fin,.bool s.bad,.string s.give],.int .i64 left] w fun e w'=> e= .returned (.int .i64 (szL (szStepD s) left))∧K_ w w':=by
 have hg:=hs.give
 unfold maxLen at hg
 have k0:K_ w (w.alloc (.cells #[.slice aa s.asks.length ca,.int .i64 s.on,.slice ac s.cases.length cc,.int .i64 s.els,.int .i64 s.fall,.bool s.fin,.bool s.bad,.string s.give] 242)):= (K_.refl _).alloc _
 go_enter Tryz.func168,Tryz.ntmps168
 go_wp2_with fail
 refine (szStringS_any _ _ _ _ _ hs.asks hs.askEach (hA.kept k0) h0 h1).mono ?_
 rintro e w1 ⟨rfl,rfl⟩
 by_cases hle: (szStrs s.asks:Int)<=left
 ·rw [szL_pos hle]
  go_wp2_with fail
  refine (szCaseS_any _ _ _ _ _ hs.cases (fun c hc=> (hs.caseEach c hc).1) (hC.kept k0) (by omega) (by omega)).mono ?_
  rintro e w1 ⟨rfl,k1⟩
  have k2:=k0.trans k1
  by_cases hle2: (szCases s.cases:Int)<=left - szStrs s.asks
  ·rw [szL_pos hle2]
   have hc: ∀o,w1.cell? ⟨w.heap.size,o,none⟩= (w.alloc (.cells #[.slice aa s.asks.length ca,.int .i64 s.on,.slice ac s.cases.length cc,.int .i64 s.els,.int .i64 s.fall,.bool s.fin,.bool s.bad,.string s.give] 242)).cell? ⟨w.heap.size,o,none⟩:=fun o=> k1.cell (by simp)
   go_wp2
   ·go_ret
    exact ⟨ret_int (szL_neg (by unfold szStepD;omega)).symm,k2⟩
   ·go_ret
    exact ⟨ret_int (by rw [szL_pos (by unfold szStepD;omega)];unfold szStepD;omega),k2⟩
  ·rw [szL_neg (by omega)]
   go_wp2
   go_ret
   exact ⟨ret_int (szL_neg (by unfold szStepD;omega)).symm,k2⟩
 ·rw [szL_neg (by omega)]
  go_wp2
  go_ret
  exact ⟨ret_int (szL_neg (by unfold szStepD;omega)).symm,k0⟩
theorem Tryz.sizeStep : (Tryz.prog.info? 172).map (·.size)=some 8:=by kernel_rfl
theorem toStep_any (w:World) (s:Xj) (aa ac:Option Addr) (ca cc:Nat) (h1:s.asks.length<=1048576) (h2:s.cases.length<=1048576) (hA:Strs w aa s.asks) (hC:Cases w ac s.cases):
  Calls Tryz.prog 172 #[.agg #[.slice aa s.asks.length ca,.int .i64 s.on,.slice ac s.cases.length cc,.int .i64 s.els,.int .i64 s.fall,.bool s.fin,.bool s.bad,.string s.give]] w fun e w'=> ∃b1 b2,e= .returned (.agg (s.cells (some ⟨b1,0,none⟩) s.asks.length (some ⟨b2,0,none⟩) s.cases.length).toArray)∧(Strs w' (some ⟨b1,0,none⟩) s.asks∧Cases w' (some ⟨b2,0,none⟩) s.cases∧w.heap.size<=b1∧w.heap.size<=b2)∧K_ w w':=by
 go_enter Tryz.func172,Tryz.ntmps172
 go_wp2_with fail
 refine (toStringS_any _ _ _ _ h1 (hA.kept (by repeat (first | apply K_.alloc | exact K_.refl _)))).mono ?_
 rintro e w1 ⟨b1,rfl,hS1,k1,hb1⟩
 obtain ⟨hc1,hf1⟩:=k1.rules
 have hz1:=k1.size
 simp only [World.size_alloc] at hb1 hz1
 have hrow1:Row w1 (w.heap.size+1) 8:=Row.kept (Row.alloc (by have:=Row.made (w.alloc (.cells #[.slice aa s.asks.length ca,.int .i64 s.on,.slice ac s.cases.length cc,.int .i64 s.els,.int .i64 s.fall,.bool s.fin,.bool s.bad,.string s.give] 242)) #[.slice none 0 0,.int .i64 0,.slice none 0 0,.int .i64 0,.int .i64 0,.bool false,.bool false,.string ⟨#[]⟩] 172;simpa using this) _) k1
 have K1:K_ w w1:=K_.trans (by repeat (first | apply K_.alloc | exact K_.refl _)) k1
 clear k1
 go_wp2_with fail
 refine (toCaseS_any _ _ _ _ h2 (hC.kept (by repeat (first | (refine K_.setCell ?_ (by simp <;> omega) _) | exact K1)))).mono ?_
 rintro e w2 ⟨b2,rfl,hS2,k2,hb2⟩
 obtain ⟨hc2,hf2⟩:=k2.rules
 have hz2:=k2.size
 simp only [size_setCell] at hb2 hz2 hc2 hf2
 have K2:K_ w w2:=K_.trans (by repeat (first | (refine K_.setCell ?_ (by simp <;> omega) _) | exact K1)) k2
 have hS1':=Strs.kept (Strs.setCell (Strs.setCell hS1 (p:= ⟨w.heap.size+1+1,0,none⟩) (by simp <;> omega) (.slice (some ⟨b1,0,none⟩) s.asks.length s.asks.length)) (p:= ⟨w.heap.size+1+1,1,none⟩) (by simp <;> omega) (.int .i64 s.on)) k2
 have HRow:Hid (Row w2 (w.heap.size+1) 8):=Row.kept (by repeat (first | refine Row.set ?_ _ rfl _ | exact hrow1)) k2
 clear k2 K1 hS1 hrow1
 have z0:w.heap.size < w1.heap.size:=by omega
 have z1:w.heap.size+1 < w1.heap.size:=by omega
 have z2:w.heap.size+1+1 < w1.heap.size:=by omega
 go_wp2
 have hX:Row ((((((w2.setCell ⟨w.heap.size+1+1,2,none⟩ (.slice (some ⟨b2,0,none⟩) s.cases.length s.cases.length)).setCell ⟨w.heap.size+1+1,3,none⟩ (.int .i64 s.els)).setCell ⟨w.heap.size+1+1,4,none⟩ (.int .i64 s.fall)).setCell ⟨w.heap.size+1+1,5,none⟩ (.bool s.fin)).setCell ⟨w.heap.size+1+1,6,none⟩ (.bool s.bad)).setCell ⟨w.heap.size+1+1,7,none⟩ (.string s.give)) (w.heap.size+1) 8:=by
  repeat (first | refine Row.set ?_ _ rfl _ | exact HRow.out)
 have hR:=World.rangeAt_setCells_same _ (w.heap.size+1) 0 (s.cells (some ⟨b1,0,none⟩) s.asks.length (some ⟨b2,0,none⟩) s.cases.length) (hX.there (o:=0) (m:=8) (Nat.le_refl _))
 refine X_ (s.cells (some ⟨b1,0,none⟩) s.asks.length (some ⟨b2,0,none⟩) s.cases.length) _ Tryz.results172 rfl hR Tryz.underlying172 rfl Tryz.sizeStep rfl ⟨b1,b2,rfl,⟨?_, ?_,by omega,by omega⟩, ?_⟩
 ·repeat (first | (refine Strs.setCell ?_ (by simp <;> omega) _) | exact hS1')
 ·repeat (first | (refine Cases.setCell ?_ (by simp <;> omega) _) | exact hS2)
 ·repeat (first | (refine K_.setCell ?_ (by simp <;> omega) _) | exact K2)
theorem eqStep_yes (w:World) (s:Xj) (aa ac ba bc:Option Addr) (ca cc da dc:Nat) (h1:s.asks.length<=maxLen) (h2:s.cases.length<=maxLen) (hA:Strs w aa s.asks) (hC:Cases w ac s.cases) (hA':Strs w ba s.asks) (hC':Cases w bc s.cases):
  Calls Tryz.prog 191 #[.agg #[.slice aa s.asks.length ca,.int .i64 s.on,.slice ac s.cases.length cc,.int .i64 s.els,.int .i64 s.fall,.bool s.fin,.bool s.bad,.string s.give],.agg #[.slice ba s.asks.length da,.int .i64 s.on,.slice bc s.cases.length dc,.int .i64 s.els,.int .i64 s.fall,.bool s.fin,.bool s.bad,.string s.give]] w fun e w'=> e= .returned (.bool true)∧K_ w w':=by
 go_enter Tryz.func191,Tryz.ntmps191
 go_wp2_with fail
 have k0:K_ w ((w.alloc (.cells #[.slice aa s.asks.length ca,.int .i64 s.on,.slice ac s.cases.length cc,.int .i64 s.els,.int .i64 s.fall,.bool s.fin,.bool s.bad,.string s.give] 172)).alloc (.cells #[.slice ba s.asks.length da,.int .i64 s.on,.slice bc s.cases.length dc,.int .i64 s.els,.int .i64 s.fall,.bool s.fin,.bool s.bad,.string s.give] 172)):=by repeat (first | apply K_.alloc | exact K_.refl _)
 refine (eqStringS_yes _ _ _ _ _ _ h1 (hA.kept k0) (hA'.kept k0)).mono ?_
 rintro e w1 ⟨rfl,k1⟩
 obtain ⟨hc1,hf1⟩:=k1.rules
 have K1:=k0.trans k1
 have hz1:=k1.size
 simp only [World.size_alloc] at hz1
 clear k0 k1
 have z0:w.heap.size < w1.heap.size:=by omega
 have z1:w.heap.size+1 < w1.heap.size:=by omega
 go_wp2_with fail
 refine (eqCaseS_yes _ _ _ _ _ _ h2 (hC.kept (by repeat (first | apply K_.drew | exact K1))) (hC'.kept (by repeat (first | apply K_.drew | exact K1)))).mono ?_
 rintro e w2 ⟨rfl,k2⟩
 obtain ⟨hc2,hf2⟩:=k2.rules
 have K2:K_ w w2:=K_.trans (by repeat (first | apply K_.drew | exact K1)) k2
 have hz2:=k2.size
 clear k2 K1
 have y0:w.heap.size < w2.heap.size:=by omega
 have y1:w.heap.size+1 < w2.heap.size:=by omega
 go_wp2
 go_ret
 exact ⟨rfl,by repeat (first | apply K_.drew | exact K2)⟩
def szSteps (l:List Xj):Nat:=l.length+ (l.map szStepD).sum
theorem szStepS_any (w:World) (a:Option Addr) (cap:Nat) (l:List Xj) (left:Int) (hl:l.length<=maxLen) (hs: ∀s∈l,s.Fits)
  (hS:Steps w a l) (h0:0<=left) (h1:left<=1048576):
  Calls Tryz.prog 138 #[.slice a l.length cap,.int .i64 left] w fun e w'=> e= .returned (.int .i64 (szL (szSteps l) left))∧K_ w w':=by
 unfold maxLen at hl
 go_enter Tryz.func138,Tryz.ntmps138
 go_wp2
 ·go_ret
  exact ⟨ret_int (szL_neg (by unfold szSteps;omega)).symm,K_.refl _⟩
 ·go_loopw [1,5] (fun x i wr=> ∃k:Nat,k<=l.length∧i= .int .i64 k∧x= .int .i64 (left - l.length - sumTo szStepD l k)∧0<=left - l.length - sumTo szStepD l k∧K_ w wr) (fun _ i _=> l.length - (intOf i).toNat)
  case atStart=> exact ⟨0,Nat.zero_le _,rfl,by simp [sumTo_zero],by simp [sumTo_zero];omega,K_.refl _⟩
  case round=>
   obtain ⟨k,hk,rfl,rfl,hge,hw⟩:=hrel
   by_cases hlt:k < l.length
   ·obtain ⟨b,o,cs,rfl,hb,hc,aa,ca,ac,cc,rfl,hA,hC,hca⟩:=hS.kept hw k hlt
    have hsz: (l.getD k Xj.zero).Fits:=hs _ (by simp [List.getD,hlt])
    have HS:Hid (sumTo szStepD l (k+1)=sumTo szStepD l k+szStepD (l.getD k Xj.zero)):=sumTo_succ _ l _ k hlt
    have HT:=sumTo_le szStepD l (k+1)
    generalize l.getD k Xj.zero=s at *
    have c0:=hc 0 _ rfl
    have c1:=hc 1 _ rfl
    have c2:=hc 2 _ rfl
    have c3:=hc 3 _ rfl
    have c4:=hc 4 _ rfl
    have c5:=hc 5 _ rfl
    have c6:=hc 6 _ rfl
    have c7:=hc 7 _ rfl
    simp only [Nat.add_zero] at c0
    clear hc
    go_wp2_with fail
    refine (szStep_any _ s aa ac ca cc _ hsz hA hC (by omega) (by omega)).mono ?_
    rintro e w1 ⟨rfl,hw1⟩
    have hw2:=hw.trans hw1
    by_cases hle: (szStepD s:Int)<=left - l.length - sumTo szStepD l k
    ·rw [szL_pos hle]
     clear c0 c1 c2 c3 c4 c5 c6 c7 hA hC hw hw1
     go_wp2
     go_roundw
     case rel=> exact ⟨k+1,by omega,by go_num,by rw [HS.out];go_num,by rw [HS.out];omega,hw2⟩
     case measure=> simp [intOf];omega
    ·rw [szL_neg (by omega)]
     clear c0 c1 c2 c3 c4 c5 c6 c7 hA hC hw hw1
     go_wp2
     go_ret
     exact ⟨ret_int (szL_neg (by unfold szSteps;have:=HS.out;omega)).symm,hw2⟩
   ·go_wp2
    go_ret
    have:k=l.length:=by omega
    subst this
    rw [sumTo_all] at hge⊢
    exact ⟨ret_int (by rw [szL_pos (by unfold szSteps;omega)];unfold szSteps;omega),hw⟩
theorem Tryz.infoStep : (Tryz.prog.info? 172).map (fun i=> (i.zero,i.size,i.bytes))=some (some (.agg #[.slice none 0 0,.int .i64 0,.slice none 0 0,.int .i64 0,.int .i64 0,.bool false,.bool false,.string ⟨#[]⟩]),8,96):=by kernel_rfl
def StepNew (w:World) (B j:Nat) (s:Xj):Prop:=
 ∃b1 b2,B < b1∧B < b2∧w.rangeAt B (j * 8) (s.cells (some ⟨b1,0,none⟩) s.asks.length (some ⟨b2,0,none⟩) s.cases.length)∧Strs w (some ⟨b1,0,none⟩) s.asks∧Cases w (some ⟨b2,0,none⟩) s.cases
theorem StepNew.kept {w w':World} {B j:Nat} {s:Xj} (h:StepNew w B j s) (k:K_ w w') (hB:B < w.heap.size):StepNew w' B j s:=by
 obtain ⟨b1,b2,h1,h2,h3,h4,h5⟩:=h
 exact ⟨b1,b2,h1,h2,k.range hB h3,h4.kept k,h5.kept k⟩
theorem StepNew.setCells {w:World} {B j o:Nat} {s:Xj} {vs:List Value} (h:StepNew w B j s) (ho:j * 8+8<=o∨o+vs.length<=j * 8):StepNew (w.setCells B o vs) B j s:=by
 obtain ⟨b1,b2,h1,h2,h3,h4,h5⟩:=h
 exact ⟨b1,b2,h1,h2,World.rangeAt_setCells_apart h3 _ _ _ (by right;simpa [Xj.cells] using ho),Strs.setCells (by omega) _ _ h4,Cases.setCells (by omega) _ _ h5⟩
theorem StepNew.setCell {w:World} {B j:Nat} {s:Xj} (h:StepNew w B j s) {p:Addr} (hp:p.block < B) (v:Value):StepNew (w.setCell p v) B j s:=by
 obtain ⟨b1,b2,h1,h2,h3,h4,h5⟩:=h
 exact ⟨b1,b2,h1,h2,fun i u hu=> by rw [World.cell?_setCell_other _ _ _ _ (fun e=> by rw [e] at hp;simp at hp)];exact h3 i u hu,Strs.setCell h4 (by omega) v,Cases.setCell h5 (by omega) v⟩
def StepsNew (w:World) (B:Nat) (l:List Xj):Prop:=B < w.heap.size∧∀j,j < l.length->StepNew w B j (l.getD j Xj.zero)
theorem StepsNew.setCell {w:World} {B:Nat} {l:List Xj} (h:StepsNew w B l) {p:Addr} (hp:p.block < B) (v:Value):StepsNew (w.setCell p v) B l:=
 ⟨by rw [size_setCell];exact h.1,fun j hj=> (h.2 j hj).setCell hp v⟩
theorem StepsNew.kept {w w':World} {B:Nat} {l:List Xj} (h:StepsNew w B l) (k:K_ w w'):StepsNew w' B l:=
 ⟨Nat.lt_of_lt_of_le h.1 k.size,fun j hj=> (h.2 j hj).kept k h.1⟩
theorem StepsNew.steps {w:World} {B:Nat} {l:List Xj} (h:StepsNew w B l):Steps w (some ⟨B,0,none⟩) l:=by
 intro j hj
 obtain ⟨b1,b2,_,_,g1,g2,g3⟩:=h.2 j hj
 exact ⟨B,0,_,rfl,h.1,by rw [Nat.zero_add];exact g1,_,_,_,_,rfl,g2,g3,Nat.le_refl _⟩
theorem toStepS_any (w:World) (a:Option Addr) (cap:Nat) (l:List Xj) (hl:l.length<=1048576) (hs: ∀s∈l,s.asks.length<=1048576∧s.cases.length<=1048576)
  (hS:Steps w a l):
  Calls Tryz.prog 142 #[.slice a l.length cap] w fun e w'=> ∃b,e= .returned (.slice (some ⟨b,0,none⟩) l.length l.length)∧StepsNew w' b l∧K_ w w'∧w.heap.size<=b:=by
 have hmk:=run_make_many (P:=Tryz.prog) 86 172 _ _ _ Tryz.underlying86 Tryz.infoStep .i64 .i64 l.length (by omega) (by omega)
 go_enter Tryz.func142,Tryz.ntmps142
 go_wp2
 clear hmk
 have hrow:=Row.made w (madeCells #[.slice none 0 0,.int .i64 0,.slice none 0 0,.int .i64 0,.int .i64 0,.bool false,.bool false,.string ⟨#[]⟩] (l.length * 8)) 172
 rw [size_madeCells] at hrow
 have hkept:K_ w (w.alloc (.cells (madeCells #[.slice none 0 0,.int .i64 0,.slice none 0 0,.int .i64 0,.int .i64 0,.bool false,.bool false,.string ⟨#[]⟩] (l.length * 8)) 172)):= (K_.refl _).alloc _
 go_loopw [4] (fun i wr=> ∃k:Nat,k<=l.length∧i= .int .i64 k∧K_ w wr∧Row wr w.heap.size (l.length * 8)∧∀j,j < k->StepNew wr w.heap.size j (l.getD j Xj.zero)) (fun i _=> l.length - (intOf i).toNat)
 case atStart=> exact ⟨0,Nat.zero_le _,rfl,hkept,hrow,fun j hj=> absurd hj (Nat.not_lt_zero _)⟩
 case round=>
  obtain ⟨k,hk,rfl,hw,hr,hf⟩:=hrel
  clear hrow hkept
  by_cases hlt:k < l.length
  ·obtain ⟨b,o,cs,rfl,hb,hc,aa,ca,ac,cc,rfl,hA,hC,hca⟩:=hS.kept hw k hlt
   have hsz:=hs (l.getD k Xj.zero) (by simp [List.getD,hlt])
   have HF:=Kz hf
   clear hf
   generalize hs:l.getD k Xj.zero=s at *
   have HSs:=Kz hs
   clear hs
   have c0:=hc 0 _ rfl
   have c1:=hc 1 _ rfl
   have c2:=hc 2 _ rfl
   have c3:=hc 3 _ rfl
   have c4:=hc 4 _ rfl
   have c5:=hc 5 _ rfl
   have c6:=hc 6 _ rfl
   have c7:=hc 7 _ rfl
   simp only [Nat.add_zero] at c0
   clear hc
   go_wp2_with fail
   refine (toStep_any _ s aa ac ca cc hsz.1 hsz.2 hA hC).mono ?_
   rintro e w1 ⟨b1,b2,rfl,⟨g1,g2,g3,g4⟩,hw1⟩
   have hrl:=hr.lt
   have hw2:=hw.trans hw1
   have hr1:=hr.kept hw1
   generalize hcs:s.cells (some ⟨b1,0,none⟩) s.asks.length (some ⟨b2,0,none⟩) s.cases.length=cs
   have hlen:cs.length=8:=by rw [<-hcs];rfl
   have hone:cs.toArray.all (·.oneCell')=true:=by rw [<-hcs];exact Xj.one s _ _ _ _
   have hth:w1.there w.heap.size (k * 8) cs.toArray.size:=by simpa [hlen] using hr1.there (o:=k * 8) (m:=8) (by omega)
   have hsize: (Tryz.prog.info? 172).map (·.size)=some cs.toArray.size:=by rw [Tryz.sizeStep];simp [hlen]
   have HCS:=Kz hcs
   have HLEN:=Kz hlen
   have HSZ:=Kz hsize
   clear hcs hlen hsize
   have HR:Hid (Row w1 w.heap.size (l.length * 8)):=hr1
   have HF1:Hid (∀j,j < k->StepNew w1 w.heap.size j (l.getD j Xj.zero)):=fun j hj=> (HF.out j hj).kept hw1 hr.lt
   clear HF c0 c1 c2 c3 c4 c5 c6 c7 hw hw1 hr hr1 hA hC
   go_wp2_with (refine wpList_store_mid rfl 172 _ _ rfl w.heap.size (k * 8) cs.toArray rfl rfl hth (unhide HSZ) hone ?_)
   go_roundw
   case rel=>
    refine ⟨k+1,by omega,by go_num,K_.setCells (Nat.le_refl _) _ _ hw2,Row.setCells _ _ HR.out,fun j hj=> ?_⟩
    by_cases e:j=k
    ·subst e
     rw [unhide HSs]
     exact ⟨b1,b2,by omega,by omega,by rw [HCS.out];exact World.rangeAt_setCells_same _ _ _ _ (by simpa using hth),Strs.setCells (by omega) _ _ g1,Cases.setCells (by omega) _ _ g2⟩
    ·exact (HF1.out j (by omega)).setCells (by rw [HLEN.out];omega)
   case measure=> simp [intOf];omega
  ·go_wp2
   go_ret
   have:k=l.length:=by omega
   subst this
   exact ⟨w.heap.size,rfl,⟨hr.lt,hf⟩,hw,Nat.le_refl _⟩
theorem eqStepS_yes (w:World) (a a':Option Addr) (cap cap':Nat) (l:List Xj) (hl:l.length<=maxLen) (hs: ∀s∈l,s.asks.length<=maxLen∧s.cases.length<=maxLen)
  (hS:Steps w a l) (hS':Steps w a' l):
  Calls Tryz.prog 167 #[.slice a l.length cap,.slice a' l.length cap'] w fun e w'=> e= .returned (.bool true)∧K_ w w':=by
 unfold maxLen at hl
 go_enter Tryz.func167,Tryz.ntmps167
 go_wp2
 go_loopw [5] (fun i wr=> ∃k:Nat,k<=l.length∧i= .int .i64 k∧K_ w wr) (fun i _=> l.length - (intOf i).toNat)
 case atStart=> exact ⟨0,Nat.zero_le _,rfl,K_.refl _⟩
 case round=>
  obtain ⟨k,hk,rfl,hw⟩:=hrel
  by_cases hlt:k < l.length
  ·obtain ⟨b,o,cs,rfl,hb,hc,aa,ca,ac,cc,rfl,hA,hC,hca⟩:=hS.kept hw k hlt
   obtain ⟨b',o',cs',rfl,hb',hc',ba,da,bc,dc,rfl,hA',hC',hca'⟩:=hS'.kept hw k hlt
   have hsz:=hs (l.getD k Xj.zero) (by simp [List.getD,hlt])
   clear hs
   generalize l.getD k Xj.zero=s at *
   have c0:=hc 0 _ rfl
   have c1:=hc 1 _ rfl
   have c2:=hc 2 _ rfl
   have c3:=hc 3 _ rfl
   have c4:=hc 4 _ rfl
   have c5:=hc 5 _ rfl
   have c6:=hc 6 _ rfl
   have c7:=hc 7 _ rfl
   have d0:=hc' 0 _ rfl
   have d1:=hc' 1 _ rfl
   have d2:=hc' 2 _ rfl
   have d3:=hc' 3 _ rfl
   have d4:=hc' 4 _ rfl
   have d5:=hc' 5 _ rfl
   have d6:=hc' 6 _ rfl
   have d7:=hc' 7 _ rfl
   simp only [Nat.add_zero] at c0 d0
   clear hc hc'
   go_wp2
   go_region_with (go_at_call 191;refine (eqStep_yes _ s aa ac ba bc ca cc da dc hsz.1 hsz.2 (hA.kept (by repeat (first | apply K_.drew | exact K_.refl _))) (hC.kept (by repeat (first | apply K_.drew | exact K_.refl _))) (hA'.kept (by repeat (first | apply K_.drew | exact K_.refl _))) (hC'.kept (by repeat (first | apply K_.drew | exact K_.refl _)))).mono ?_;rintro e w1 ⟨rfl,hw1⟩)
   all_goals
    go_wp2
    go_roundw
    case rel=> exact ⟨k+1,by omega,by go_num,by repeat (first | assumption | apply K_.drew | refine K_.trans ?_ (by assumption))⟩
    case measure=> simp [intOf];omega
  ·go_wp2
   go_ret
   exact ⟨rfl,hw⟩
theorem szAction_any (w:World) (cost:Int) (a:Option Addr) (cap:Nat) (l:List Xj) (left:Int) (hl:l.length<=maxLen) (hs: ∀s∈l,s.Fits)
  (hS:Steps w a l) (h0:0<=left) (h1:left<=1048576):
  Calls Tryz.prog 95 #[.agg #[.int .i64 cost,.slice a l.length cap],.int .i64 left] w fun e w'=> e= .returned (.int .i64 (szL (szSteps l) left))∧K_ w w':=by
 have k0:K_ w (w.alloc (.cells #[.int .i64 cost,.slice a l.length cap] 82)):= (K_.refl _).alloc _
 go_enter Tryz.func95,Tryz.ntmps95
 go_wp2_with fail
 refine (szStepS_any _ a cap l left hl hs (hS.kept k0) h0 h1).mono ?_
 rintro e w1 ⟨rfl,k1⟩
 have k2:=k0.trans k1
 clear k0 k1
 by_cases hle: (szSteps l:Int)<=left
 ·rw [szL_pos hle]
  go_wp2
  go_ret
  exact ⟨ret_int (szL_pos hle).symm,k2⟩
 ·rw [szL_neg (by omega)]
  go_wp2
  go_ret
  exact ⟨ret_int (szL_neg (by omega)).symm,k2⟩
theorem Tryz.sizeAction : (Tryz.prog.info? 88).map (·.size)=some 2:=by kernel_rfl
theorem toAction_any (w:World) (cost:Int) (a:Option Addr) (cap:Nat) (l:List Xj) (hl:l.length<=1048576) (hs: ∀s∈l,s.asks.length<=1048576∧s.cases.length<=1048576)
  (hS:Steps w a l):
  Calls Tryz.prog 104 #[.agg #[.int .i64 cost,.slice a l.length cap]] w fun e w'=> ∃b,e= .returned (.agg #[.int .i64 cost,.slice (some ⟨b,0,none⟩) l.length l.length])∧StepsNew w' b l∧K_ w w'∧w.heap.size<=b:=by
 go_enter Tryz.func104,Tryz.ntmps104
 go_wp2_with fail
 refine (toStepS_any _ a cap l hl hs (hS.kept (by repeat (first | apply K_.alloc | exact K_.refl _)))).mono ?_
 rintro e w1 ⟨b,rfl,hN,k1,hb⟩
 obtain ⟨hc1,hf1⟩:=k1.rules
 have hz1:=k1.size
 simp only [World.size_alloc] at hb hz1
 have K1:K_ w w1:=K_.trans (by repeat (first | apply K_.alloc | exact K_.refl _)) k1
 have hrow1:Row w1 (w.heap.size+1) 2:=Row.kept (Row.alloc (by have:=Row.made (w.alloc (.cells #[.int .i64 cost,.slice a l.length cap] 82)) #[.int .i64 0,.slice none 0 0] 88;simpa using this) _) k1
 have HRow:=Kz hrow1
 clear k1 hrow1
 go_wp2
 have hX:Row (w1.setCell ⟨w.heap.size+1+1,1,none⟩ (.slice (some ⟨b,0,none⟩) l.length l.length)) (w.heap.size+1) 2:=Row.set HRow.out _ rfl _
 have hR:=World.rangeAt_setCells_same _ (w.heap.size+1) 0 [.int .i64 cost,.slice (some ⟨b,0,none⟩) l.length l.length] (hX.there (o:=0) (m:=2) (Nat.le_refl _))
 refine X_ [.int .i64 cost,.slice (some ⟨b,0,none⟩) l.length l.length] _ Tryz.results104 rfl hR Tryz.underlying88 rfl Tryz.sizeAction rfl ⟨b,rfl, ?_, ?_,by omega⟩
 ·repeat (first | (refine StepsNew.setCell ?_ (by simp <;> omega) _) | exact hN)
 ·repeat (first | (refine K_.setCell ?_ (by simp <;> omega) _) | exact K1)
theorem eqAction_yes (w:World) (cost:Int) (a a':Option Addr) (cap cap':Nat) (l:List Xj) (hl:l.length<=maxLen) (hs: ∀s∈l,s.asks.length<=maxLen∧s.cases.length<=maxLen)
  (hS:Steps w a l) (hS':Steps w a' l):
  Calls Tryz.prog 136 #[.agg #[.int .i64 cost,.slice a l.length cap],.agg #[.int .i64 cost,.slice a' l.length cap']] w fun e w'=> e= .returned (.bool true)∧K_ w w':=by
 have k0:K_ w ((w.alloc (.cells #[.int .i64 cost,.slice a l.length cap] 88)).alloc (.cells #[.int .i64 cost,.slice a' l.length cap'] 88)):= ((K_.refl _).alloc _).alloc _
 go_enter Tryz.func136,Tryz.ntmps136
 go_wp2_with fail
 refine (eqStepS_yes _ a a' cap cap' l hl hs (hS.kept (by repeat (first | apply K_.drew | exact k0))) (hS'.kept (by repeat (first | apply K_.drew | exact k0)))).mono ?_
 rintro e w1 ⟨rfl,k1⟩
 have k2:K_ w w1:=K_.trans (by repeat (first | apply K_.drew | exact k0)) k1
 clear k0 k1
 go_wp2
 go_ret
 exact ⟨rfl,k2⟩
structure Qq where
 name:ByteArray
 cost:Int
 steps:List Xj
def Qq.zero :Qq:= ⟨ByteArray.empty,0,[]⟩
def Qq.cells (d:Qq) (a:Option Addr) (cap:Nat):List Value:=[.string d.name,.int .i64 d.cost,.slice a d.steps.length cap]
theorem Qq.one (d:Qq) (a:Option Addr) (cap:Nat): (d.cells a cap).toArray.all (·.oneCell')=true:=
 all_oneCell_toArray (by simp [Qq.cells,Value.oneCell'])
def NodeIs (w:World) (cs:List Value) (d:Qq):Prop:= ∃a cap,cs=d.cells a cap∧Steps w a d.steps
theorem NodeIs.kept {w w':World} {cs:List Value} {d:Qq} (h:NodeIs w cs d) (k:K_ w w'):NodeIs w' cs d:=by
 obtain ⟨a,cap,e,h1⟩:=h
 exact ⟨a,cap,e,h1.kept k⟩
def Nodes (w:World) (a:Option Addr) (l:List Qq):Prop:=
 ∀i,i < l.length->∃b o cs,a=some ⟨b,o,none⟩∧b < w.heap.size∧w.rangeAt b (o+i * 3) cs∧NodeIs w cs (l.getD i Qq.zero)
theorem Nodes.kept {w w':World} {a:Option Addr} {l:List Qq} (h:Nodes w a l) (k:K_ w w'):Nodes w' a l:=by
 intro i hi
 obtain ⟨b,o,cs,ha,hb,hc,hs⟩:=h i hi
 exact ⟨b,o,cs,ha,Nat.lt_of_lt_of_le hb k.size,k.range hb hc,hs.kept k⟩
structure Qq.Fits (d:Qq):Prop where
 name:d.name.size<=maxLen
 cost:In64 d.cost
 steps:d.steps.length<=maxLen
 each: ∀s∈d.steps,s.Fits
theorem StepNew.setCellsBelow {w:World} {B j g o:Nat} {s:Xj} {vs:List Value} (h:StepNew w B j s) (hg:g < B):StepNew (w.setCells g o vs) B j s:=by
 obtain ⟨b1,b2,h1,h2,h3,h4,h5⟩:=h
 exact ⟨b1,b2,h1,h2,World.rangeAt_setCells_apart h3 _ _ _ (by omega),Strs.setCells (by omega) _ _ h4,Cases.setCells (by omega) _ _ h5⟩
theorem size_setCells (g:Nat): ∀(vs:List Value) (o:Nat) (w:World),(w.setCells g o vs).heap.size=w.heap.size
 | [],_,_=> rfl
 | v :: r,o,w=> by rw [World.setCells,size_setCells g r (o+1),size_setCell]
theorem StepsNew.setCellsBelow {w:World} {B g o:Nat} {l:List Xj} {vs:List Value} (h:StepsNew w B l) (hg:g < B):StepsNew (w.setCells g o vs) B l:=
 ⟨by rw [size_setCells];exact h.1,fun j hj=> (h.2 j hj).setCellsBelow hg⟩
def NodeNew (w:World) (B j:Nat) (d:Qq):Prop:=
 ∃b1,B < b1∧w.rangeAt B (j * 3) (d.cells (some ⟨b1,0,none⟩) d.steps.length)∧StepsNew w b1 d.steps
theorem NodeNew.kept {w w':World} {B j:Nat} {d:Qq} (h:NodeNew w B j d) (k:K_ w w') (hB:B < w.heap.size):NodeNew w' B j d:=by
 obtain ⟨b1,h1,h2,h3⟩:=h
 exact ⟨b1,h1,k.range hB h2,h3.kept k⟩
theorem NodeNew.setCells {w:World} {B j o:Nat} {d:Qq} {vs:List Value} (h:NodeNew w B j d) (ho:j * 3+3<=o∨o+vs.length<=j * 3):NodeNew (w.setCells B o vs) B j d:=by
 obtain ⟨b1,h1,h2,h3⟩:=h
 exact ⟨b1,h1,World.rangeAt_setCells_apart h2 _ _ _ (by right;simpa [Qq.cells] using ho),h3.setCellsBelow h1⟩
theorem NodeNew.setCell {w:World} {B j:Nat} {d:Qq} (h:NodeNew w B j d) {p:Addr} (hp:p.block < B) (v:Value):NodeNew (w.setCell p v) B j d:=by
 obtain ⟨b1,h1,h2,h3⟩:=h
 exact ⟨b1,h1,fun i u hu=> by rw [World.cell?_setCell_other _ _ _ _ (fun e=> by rw [e] at hp;simp at hp)];exact h2 i u hu,h3.setCell (by omega) v⟩
def NodesNew (w:World) (B:Nat) (l:List Qq):Prop:=B < w.heap.size∧∀j,j < l.length->NodeNew w B j (l.getD j Qq.zero)
theorem NodesNew.setCell {w:World} {B:Nat} {l:List Qq} (h:NodesNew w B l) {p:Addr} (hp:p.block < B) (v:Value):NodesNew (w.setCell p v) B l:=
 ⟨by rw [size_setCell];exact h.1,fun j hj=> (h.2 j hj).setCell hp v⟩
theorem NodesNew.kept {w w':World} {B:Nat} {l:List Qq} (h:NodesNew w B l) (k:K_ w w'):NodesNew w' B l:=
 ⟨Nat.lt_of_lt_of_le h.1 k.size,fun j hj=> (h.2 j hj).kept k h.1⟩
theorem NodesNew.nodes {w:World} {B:Nat} {l:List Qq} (h:NodesNew w B l):Nodes w (some ⟨B,0,none⟩) l:=by
 intro j hj
 obtain ⟨b1,_,g1,g2⟩:=h.2 j hj
 exact ⟨B,0,_,rfl,h.1,by rw [Nat.zero_add];exact g1,_,_,rfl,g2.steps⟩
theorem less_trans : ∀(x y z:List UInt8),Op.bytesLess x y=true->Op.bytesLess y z=true->Op.bytesLess x z=true
 | [],[],_,h,_=> by simp [Op.bytesLess] at h
 | [],_ :: _,[],_,h=> by simp [Op.bytesLess] at h
 | [],_ :: _,_ :: _,_,_=> by simp [Op.bytesLess]
 | _ :: _,[],_,h,_=> by simp [Op.bytesLess] at h
 | _ :: _,_ :: _,[],_,h=> by simp [Op.bytesLess] at h
 | a :: x,b :: y,c :: z,h1,h2=> by
  have ih:=less_trans x y z
  simp only [Op.bytesLess,Bool.or_eq_true,Bool.and_eq_true,decide_eq_true_eq,beq_iff_eq] at h1 h2⊢
  rcases h1 with h1 | ⟨rfl,h1⟩
  ·rcases h2 with h2 | ⟨rfl,h2⟩
   ·exact .inl (UInt8.lt_trans h1 h2)
   ·exact .inl h1
  ·rcases h2 with h2 | ⟨rfl,h2⟩
   ·exact .inl h2
   ·exact .inr ⟨rfl,ih h1 h2⟩
theorem less_irrefl : ∀x:List UInt8,Op.bytesLess x x=false
 | []=> rfl
 | a :: x=> by
  have ih:=less_irrefl x
  simp [Op.bytesLess,ih]
theorem less_total : ∀x y:List UInt8,Op.bytesLess x y=false->x≠y->Op.bytesLess y x=true
 | [],[],_,h=> absurd rfl h
 | [],_ :: _,h,_=> by simp [Op.bytesLess] at h
 | _ :: _,[],_,_=> rfl
 | a :: x,b :: y,h,hne=> by
  have ih:=less_total x y
  simp only [Op.bytesLess,Bool.or_eq_false_iff,decide_eq_false_iff_not,Bool.and_eq_false_iff,beq_eq_false_iff_ne] at h
  simp only [Op.bytesLess,Bool.or_eq_true,Bool.and_eq_true,decide_eq_true_eq,beq_iff_eq]
  by_cases e:a=b
  ·subst e
   right
   refine ⟨rfl,ih ?_ (fun e=> hne (by rw [e]))⟩
   rcases h.2 with h2 | h2
   ·exact absurd rfl h2
   ·exact h2
  ·left
   have h1:=h.1
   rw [UInt8.not_lt] at h1
   exact UInt8.lt_of_le_of_ne h1 (fun e'=> e e'.symm)
def nameAt (l:List Qq) (i:Nat):List UInt8:= (l.getD i Qq.zero).name.toList
def Rises (l:List Qq):Prop:= ∀i j,i < j->j < l.length->Op.bytesLess (nameAt l i) (nameAt l j)=true
theorem rises_of {l:List Qq} (h: ∀i,i+1 < l.length->Op.bytesLess (nameAt l i) (nameAt l (i+1))=true):Rises l:=by
 intro i j hij hj
 induction j with
 | zero=> omega
 | succ j ih=>
  by_cases e:i=j
  ·subst e;exact h i hj
  ·exact less_trans _ _ _ (ih (by omega) (by omega)) (h j hj)
structure Place (l:List Qq) (key:List UInt8) (p:Nat):Prop where
 le:p<=l.length
 before: ∀j,j < p->Op.bytesLess (nameAt l j) key=true
 behind: ∀j,p<=j->j < l.length->Op.bytesLess (nameAt l j) key=false
theorem Place.only {l:List Qq} {key:List UInt8} {p j:Nat} (hr:Rises l) (h:Place l key p) (hj:j < l.length) (e:nameAt l j=key):j=p:=by
 by_cases h1:j < p
 ·have:=h.before j h1
  rw [e,less_irrefl] at this
  cases this
 ·by_cases h2:p < j
  ·have h3:=hr p j h2 hj
   rw [e] at h3
   have:=h.behind p (Nat.le_refl _) (by omega)
   rw [h3] at this
   cases this
  ·omega
theorem meth_ask (vs : Array Value) (W : World) : (method 454 270 (.agg vs) "loop.example/kilnweb/impl.sound").run Tryz.prog W = .ok (276, .agg vs) W := by kernel_rfl
theorem meth_bad (vs : Array Value) (W : World) : (method 454 271 (.agg vs) "loop.example/kilnweb/impl.sound").run Tryz.prog W = .ok (280, .agg vs) W := by kernel_rfl
theorem meth_good (vs : Array Value) (W : World) : (method 454 272 (.agg vs) "loop.example/kilnweb/impl.sound").run Tryz.prog W = .ok (282, .agg vs) W := by kernel_rfl
theorem implValidAction_any (w:World) (cost:Int) (a:Option Addr) (cap:Nat) (l:List Xj) (hl:l.length<=maxLen) (hs: ∀s∈l,s.Fits) (hS:Steps w a l):
  Calls Tryz.prog 144 #[.agg #[.int .i64 cost,.slice a l.length cap]] w fun e w'=> Says e (ActionOk ⟨cost,l⟩)∧K_ w w':=by
 unfold maxLen at hl
 have k0:K_ w (w.alloc (.cells #[.int .i64 cost,.slice a l.length cap] 88)):= (K_.refl _).alloc _
 by_cases a1:1<=cost
 ·by_cases a2:cost<=20
  ·by_cases a3: (1:Int)<=l.length
   ·by_cases a4: (l.length:Int)<=20
    ·have e1:decide (cost < 1)=false:=by simp;omega
     have e2:decide (20 < cost)=false:=by simp;omega
     have e3:decide ((l.length:Int) < 1)=false:=by simp;omega
     have e4:decide (20 < (l.length:Int))=false:=by simp;omega
     go_enter Tryz.func144,Tryz.ntmps144
     go_wp2
     clear e1 e2 e3 e4
     go_loopw [28] (fun i wr=> ∃k:Nat,k<=l.length∧i= .int .i64 k∧K_ (w.alloc (.cells #[.int .i64 cost,.slice a l.length cap] 88)) wr∧∀j,j < k->StepOk (l.getD j Xj.zero) l.length) (fun i _=> l.length - (intOf i).toNat)
     case atStart=> exact ⟨0,Nat.zero_le _,rfl,K_.refl _,fun j hj=> absurd hj (Nat.not_lt_zero _)⟩
     case round=>
      obtain ⟨k,hk,rfl,hw,hg⟩:=hrel
      have HG:=Kz hg
      clear hg
      have hz1:=hw.size
      simp only [World.size_alloc] at hz1
      by_cases hlt:k < l.length
      ·obtain ⟨b,o,cs,rfl,hb,hc,aa,ca,ac,cc,rfl,hA,hC,hca⟩:= (hS.kept k0).kept hw k hlt
       have hsz:=hs (l.getD k Xj.zero) (by simp [List.getD,hlt])
       obtain ⟨s,hsk⟩: ∃s,s=l.getD k Xj.zero:= ⟨_,rfl⟩
       rw [<-hsk] at hc hsz hA hC hca
       have HSK:=Kz hsk
       clear hsk
       have c0:=hc 0 _ rfl
       have c1:=hc 1 _ rfl
       have c2:=hc 2 _ rfl
       have c3:=hc 3 _ rfl
       have c4:=hc 4 _ rfl
       have c5:=hc 5 _ rfl
       have c6:=hc 6 _ rfl
       have c7:=hc 7 _ rfl
       simp only [Nat.add_zero] at c0
       clear hc
       obtain ⟨hc1,hf1⟩:=hw.rules
       have z0:w.heap.size < wr.heap.size:=by omega
       have z1:w.heap.size < wr.heap.size+1:=by omega
       cases hfin:s.fin
       ·rw [hfin] at c5
        have hq: ∀W,K_ wr W->Calls Tryz.prog 276 #[.agg #[.slice aa s.asks.length ca,.int .i64 s.on,.slice ac s.cases.length cc,.int .i64 s.els,.int .i64 s.fall,.bool false,.bool s.bad,.string s.give],.int .i64 l.length] W fun e w'=> Says e (AskOk s l.length)∧K_ W w':=fun W hW=> by
         have h:=questionSound_any W s aa ac ca cc l.length hsz ⟨a3,a4⟩ (hA.kept hW) (hC.kept hW) hca
         rw [hfin] at h
         exact h
        have HQ:=Kz hq
        clear hq
        have hm:=meth_ask
        go_wp2
        go_region_with (first | (go_at_call 173;refine (kindOf_ask _ s aa ac ca cc).mono ?_;rintro e w1 ⟨rfl,hw1⟩;obtain ⟨hc2,hf2⟩:=hw1.rules;have hk1:K_ wr w1:=K_.trans (by repeat (first | apply K_.drew | apply K_.alloc | exact K_.refl _)) hw1) | (go_at_call 276;refine (unhide HQ _ (by repeat (first | apply K_.drew | assumption))).mono ?_;rintro e w2 ⟨⟨r,rfl,hr⟩,hw2⟩;have hk2:K_ wr w2:=K_.trans (by repeat (first | apply K_.drew | assumption)) hw2;have HR:=Kz hr;clear hr))
        all_goals
         clear hc1 hf1 hc2 hf2 hm c0 c1 c2 c3 c4 c5 c6 c7 hA hC
         cases r
         ·go_wp2
          go_ret
          exact ⟨Says.no fun h=> (by have h2:=h.2.2 k hlt;rw [<-HSK.out] at h2;have:=HR.out.2 (h2.2 hfin);cases this),k0.trans (by repeat (first | apply K_.drew | exact hw.trans hk2))⟩
         ·go_wp2
          go_roundw
          case rel=>
           refine ⟨k+1,by omega,by go_num,by repeat (first | apply K_.drew | exact hw.trans hk2),fun j hj=> ?_⟩
           by_cases e:j=k
           ·subst e
            rw [<-HSK.out]
            exact ⟨fun e=> (by rw [hfin] at e;cases e),fun _=> HR.out.1 rfl⟩
           ·exact unhide HG j (by omega)
          case measure=> simp [intOf];omega
       ·cases hbad:s.bad
        ·rw [hfin] at c5
         rw [hbad] at c6
         have hq: ∀W,K_ wr W->Calls Tryz.prog 282 #[.agg #[.slice aa s.asks.length ca,.int .i64 s.on,.slice ac s.cases.length cc,.int .i64 s.els,.int .i64 s.fall,.bool true,.bool false,.string s.give],.int .i64 l.length] W fun e w'=> Says e (EndOk s)∧K_ W w':=fun W hW=> by
          have h:=goodSound_any W s aa ac ca cc l.length hsz
          rw [hfin,hbad] at h
          exact h
         have HQ:=Kz hq
         clear hq
         have hm:=meth_good
         go_wp2
         go_region_with (first | (go_at_call 173;refine (kindOf_good _ s aa ac ca cc).mono ?_;rintro e w1 ⟨rfl,hw1⟩;obtain ⟨hc2,hf2⟩:=hw1.rules;have hk1:K_ wr w1:=K_.trans (by repeat (first | apply K_.drew | apply K_.alloc | exact K_.refl _)) hw1) | (go_at_call 282;refine (unhide HQ _ (by repeat (first | apply K_.drew | assumption))).mono ?_;rintro e w2 ⟨⟨r,rfl,hr⟩,hw2⟩;have hk2:K_ wr w2:=K_.trans (by repeat (first | apply K_.drew | assumption)) hw2;have HR:=Kz hr;clear hr))
         all_goals
          clear hc1 hf1 hc2 hf2 hm c0 c1 c2 c3 c4 c5 c6 c7 hA hC
          cases r
          ·go_wp2
           go_ret
           exact ⟨Says.no fun h=> (by have h2:=h.2.2 k hlt;rw [<-HSK.out] at h2;have:=HR.out.2 (h2.1 hfin);cases this),k0.trans (by repeat (first | apply K_.drew | exact hw.trans hk2))⟩
          ·go_wp2
           go_roundw
           case rel=>
            refine ⟨k+1,by omega,by go_num,by repeat (first | apply K_.drew | exact hw.trans hk2),fun j hj=> ?_⟩
            by_cases e:j=k
            ·subst e
             rw [<-HSK.out]
             exact ⟨fun _=> HR.out.1 rfl,fun e=> (by rw [hfin] at e;cases e)⟩
            ·exact unhide HG j (by omega)
           case measure=> simp [intOf];omega
        ·rw [hfin] at c5
         rw [hbad] at c6
         have hq: ∀W,K_ wr W->Calls Tryz.prog 280 #[.agg #[.slice aa s.asks.length ca,.int .i64 s.on,.slice ac s.cases.length cc,.int .i64 s.els,.int .i64 s.fall,.bool true,.bool true,.string s.give],.int .i64 l.length] W fun e w'=> Says e (EndOk s)∧K_ W w':=fun W hW=> by
          have h:=badSound_any W s aa ac ca cc l.length hsz
          rw [hfin,hbad] at h
          exact h
         have HQ:=Kz hq
         clear hq
         have hm:=meth_bad
         go_wp2
         go_region_with (first | (go_at_call 173;refine (kindOf_bad _ s aa ac ca cc).mono ?_;rintro e w1 ⟨rfl,hw1⟩;obtain ⟨hc2,hf2⟩:=hw1.rules;have hk1:K_ wr w1:=K_.trans (by repeat (first | apply K_.drew | apply K_.alloc | exact K_.refl _)) hw1) | (go_at_call 280;refine (unhide HQ _ (by repeat (first | apply K_.drew | assumption))).mono ?_;rintro e w2 ⟨⟨r,rfl,hr⟩,hw2⟩;have hk2:K_ wr w2:=K_.trans (by repeat (first | apply K_.drew | assumption)) hw2;have HR:=Kz hr;clear hr))
         all_goals
          clear hc1 hf1 hc2 hf2 hm c0 c1 c2 c3 c4 c5 c6 c7 hA hC
          cases r
          ·go_wp2
           go_ret
           exact ⟨Says.no fun h=> (by have h2:=h.2.2 k hlt;rw [<-HSK.out] at h2;have:=HR.out.2 (h2.1 hfin);cases this),k0.trans (by repeat (first | apply K_.drew | exact hw.trans hk2))⟩
          ·go_wp2
           go_roundw
           case rel=>
            refine ⟨k+1,by omega,by go_num,by repeat (first | apply K_.drew | exact hw.trans hk2),fun j hj=> ?_⟩
            by_cases e:j=k
            ·subst e
             rw [<-HSK.out]
             exact ⟨fun _=> HR.out.1 rfl,fun e=> (by rw [hfin] at e;cases e)⟩
            ·exact unhide HG j (by omega)
           case measure=> simp [intOf];omega
      ·go_wp2
       go_ret
       exact ⟨Says.yes ⟨⟨a1,a2⟩,⟨by show 1<=l.length;omega,by show l.length<=20;omega⟩,fun j (hj:j < l.length)=> unhide HG j (by omega)⟩,k0.trans hw⟩
    ·go_enter Tryz.func144,Tryz.ntmps144
     go_wp2
     go_ret
     exact ⟨Says.no fun h=> by have:=h.2.1.2;simp at this;omega,k0⟩
   ·go_enter Tryz.func144,Tryz.ntmps144
    go_wp2
    go_ret
    exact ⟨Says.no fun h=> by have:=h.2.1.1;simp at this;omega,k0⟩
  ·go_enter Tryz.func144,Tryz.ntmps144
   go_wp2
   go_ret
   exact ⟨Says.no fun h=> by have:=h.1.2;simp at this;omega,k0⟩
 ·go_enter Tryz.func144,Tryz.ntmps144
  go_wp2
  go_ret
  exact ⟨Says.no fun h=> by have:=h.1.1;simp at this;omega,k0⟩
def stepAt (l:List Xj) (at':Int):Xj:=l.getD at'.toNat Xj.zero
def FrontGo (cost:Int) (l:List Xj) (at':Int):Prop:=ActionOk ⟨cost,l⟩∧(0<=at'∧at' < l.length)∧(stepAt l at').fin=false
def WentOn (cost:Int) (l:List Xj) (at':Int) (ans:List Xq) (g:GoneD):Prop:=
 (¬FrontGo cost l at'∧g=GoneD.none)∨(FrontGo cost l at'∧Followed (stepAt l at') ans g)
theorem WentOn.unique {cost:Int} {l:List Xj} {at':Int} {ans:List Xq} {g g':GoneD} (h:WentOn cost l at' ans g) (h':WentOn cost l at' ans g'):g=g':=by
 rcases h with ⟨h0,rfl⟩ | ⟨h0,h1⟩ <;> rcases h' with ⟨g0,rfl⟩ | ⟨g0,g1⟩
 ·rfl
 ·exact absurd g0 h0
 ·exact absurd h0 g0
 ·exact h1.unique g1
theorem specGoOn_no (w:World) (cost at':Int) (a d:Option Addr) (cap dcap:Nat) (l:List Xj) (ans:List Xq) (hl:l.length<=maxLen) (hs: ∀s∈l,s.Fits) (hS:Steps w a l)
  (hal:ans.length<=maxLen) (_has: ∀c∈ans,c.text.size<=maxLen) (_hD:Answers w d ans)
  (hF:Hid (¬(FrontGo cost l at'∧ans.length= (stepAt l at').asks.length))):
  Calls Tryz.prog 169 #[.agg #[.int .i64 cost,.slice a l.length cap],.int .i64 at',.slice d ans.length dcap] w fun e w'=> (∃g,e= .returned (.agg g.cells.toArray)∧WentOn cost l at' ans g)∧K_ w w':=by
 have hl':=hl
 have hal':=hal
 unfold maxLen at hl' hal'
 have k0:K_ w ((w.alloc (.cells #[.int .i64 cost,.slice a l.length cap] 88)).alloc (.cells #[.int .i64 0,.bool false,.int .i64 0,.string ⟨#[]⟩] 244)):= ((K_.refl _).alloc _).alloc _
 go_enter Tryz.func169,Tryz.ntmps169
 go_wp2_with fail
 refine (specValidAction_any _ cost a cap l hl hs (hS.kept k0)).mono ?_
 rintro e w1 ⟨hsay,k1⟩
 have K1:=k0.trans k1
 have hrow1:Row w1 (w.heap.size+1) 4:=Row.kept (by have:=Row.made (w.alloc (.cells #[.int .i64 cost,.slice a l.length cap] 88)) #[.int .i64 0,.bool false,.int .i64 0,.string ⟨#[]⟩] 244;simpa using this) k1
 have HROW:=Kz hrow1
 clear hrow1
 obtain ⟨hc1,hf1⟩:=k1.rules
 have hz1:=k1.size
 simp only [World.size_alloc] at hz1
 have x0:w.heap.size < w1.heap.size:=by omega
 have x1:w.heap.size+1 < w1.heap.size:=by omega
 rcases hsay.cases with ⟨rfl,hyes⟩ | ⟨rfl,hno⟩
 ·have HV:=Kz hyes
  clear hyes hsay k0 k1
  by_cases p1:0<=at'
  ·cases p2:decide (at'<=(l.length:Int) - 1)
   ·have p2': (l.length:Int) - 1 < at':=by simpa using p2
    go_wp2
    have hR:=World.rangeAt_setCells_same w1 (w.heap.size+1) 0 GoneD.none.cells (HROW.out.there (o:=0) (m:=4) (Nat.le_refl _))
    exact X_ GoneD.none.cells _ Tryz.results169 rfl hR Tryz.underlying244 rfl Tryz.sizeGone rfl ⟨⟨_,rfl,Or.inl ⟨fun h=> (by have:=h.2.1;omega),rfl⟩⟩,K_.setCells (g:=w.heap.size+1) (by omega) GoneD.none.cells 0 K1⟩
   ·have p2':at'<=(l.length:Int) - 1:=by simpa using p2
    obtain ⟨n,rfl⟩:=Int.eq_ofNat_of_zero_le p1
    have hlt:n < l.length:=by omega
    obtain ⟨b,o,cs,rfl,hb,hc,aa,ca,ac,cc,rfl,hA,hC,hca⟩:=hS.kept K1 n hlt
    have hsz:=hs (l.getD n Xj.zero) (by simp [List.getD,hlt])
    obtain ⟨s,hsk⟩: ∃s,s=l.getD n Xj.zero:= ⟨_,rfl⟩
    rw [<-hsk] at hc hsz hA hC hca
    have HSK:Hid (stepAt l n=s):=by rw [hsk];show Hid (l.getD (n:Int).toNat Xj.zero=_);rw [Int.toNat_natCast];exact rfl
    have HOK:Hid (StepOk s l.length):=by rw [hsk];exact HV.out.2.2 n hlt
    clear hsk
    have c0:=hc 0 _ rfl
    have c1:=hc 1 _ rfl
    have c2:=hc 2 _ rfl
    have c3:=hc 3 _ rfl
    have c4:=hc 4 _ rfl
    have c5:=hc 5 _ rfl
    have c6:=hc 6 _ rfl
    have c7:=hc 7 _ rfl
    simp only [Nat.add_zero] at c0
    clear hc
    cases hfin:s.fin
    ·rw [hfin] at c5
     have HF:Hid (FrontGo cost l n):= ⟨HV.out,⟨by omega,by omega⟩,by rw [HSK.out];exact hfin⟩
     have hne:ans.length≠s.asks.length:=fun h=> hF.out ⟨HF.out,by rw [HSK.out];exact h⟩
     have hneq: ((ans.length:Int) != (s.asks.length:Int))=true:=by simp;omega
     have HNE:=Kz hne
     clear hne
     go_wp2
     have hR:=World.rangeAt_setCells_same w1 (w.heap.size+1) 0 GoneD.none.cells (HROW.out.there (o:=0) (m:=4) (Nat.le_refl _))
     exact X_ GoneD.none.cells _ Tryz.results169 rfl hR Tryz.underlying244 rfl Tryz.sizeGone rfl ⟨⟨_,rfl,Or.inr ⟨HF.out,Or.inl ⟨fun h=> HNE.out (by have:=h.1;rw [HSK.out] at this;exact this),rfl⟩⟩⟩,K_.setCells (g:=w.heap.size+1) (by omega) GoneD.none.cells 0 K1⟩
    ·rw [hfin] at c5
     go_wp2
     have hR:=World.rangeAt_setCells_same w1 (w.heap.size+1) 0 GoneD.none.cells (HROW.out.there (o:=0) (m:=4) (Nat.le_refl _))
     exact X_ GoneD.none.cells _ Tryz.results169 rfl hR Tryz.underlying244 rfl Tryz.sizeGone rfl ⟨⟨_,rfl,Or.inl ⟨fun h=> (by have:=h.2.2;rw [HSK.out,hfin] at this;cases this),rfl⟩⟩,K_.setCells (g:=w.heap.size+1) (by omega) GoneD.none.cells 0 K1⟩
  ·skip
   go_wp2
   have hR:=World.rangeAt_setCells_same w1 (w.heap.size+1) 0 GoneD.none.cells (HROW.out.there (o:=0) (m:=4) (Nat.le_refl _))
   exact X_ GoneD.none.cells _ Tryz.results169 rfl hR Tryz.underlying244 rfl Tryz.sizeGone rfl ⟨⟨_,rfl,Or.inl ⟨fun h=> (by have:=h.2.1;omega),rfl⟩⟩,K_.setCells (g:=w.heap.size+1) (by omega) GoneD.none.cells 0 K1⟩
 ·have HV:=Kz hno
  clear hno hsay k0 k1
  go_wp2
  have hR:=World.rangeAt_setCells_same w1 (w.heap.size+1) 0 GoneD.none.cells (HROW.out.there (o:=0) (m:=4) (Nat.le_refl _))
  exact X_ GoneD.none.cells _ Tryz.results169 rfl hR Tryz.underlying244 rfl Tryz.sizeGone rfl ⟨⟨_,rfl,Or.inl ⟨fun h=> HV.out h.1,rfl⟩⟩,K_.setCells (g:=w.heap.size+1) (by omega) GoneD.none.cells 0 K1⟩
theorem specGoOn_yes (w:World) (cost at':Int) (a d:Option Addr) (cap dcap:Nat) (l:List Xj) (ans:List Xq) (hl:l.length<=maxLen) (hs: ∀s∈l,s.Fits) (hS:Steps w a l)
  (hal:ans.length<=maxLen) (has: ∀c∈ans,c.text.size<=maxLen) (hD:Answers w d ans)
  (hF:FrontGo cost l at') (hE:ans.length= (stepAt l at').asks.length):
  Calls Tryz.prog 169 #[.agg #[.int .i64 cost,.slice a l.length cap],.int .i64 at',.slice d ans.length dcap] w fun e w'=> (∃g,e= .returned (.agg g.cells.toArray)∧WentOn cost l at' ans g)∧K_ w w':=by
 have HF0:=Kz hF
 have HE0:=Kz hE
 clear hF hE
 have hl':=hl
 have hal':=hal
 unfold maxLen at hl' hal'
 have k0:K_ w ((w.alloc (.cells #[.int .i64 cost,.slice a l.length cap] 88)).alloc (.cells #[.int .i64 0,.bool false,.int .i64 0,.string ⟨#[]⟩] 244)):= ((K_.refl _).alloc _).alloc _
 go_enter Tryz.func169,Tryz.ntmps169
 go_wp2_with fail
 refine (specValidAction_any _ cost a cap l hl hs (hS.kept k0)).mono ?_
 rintro e w1 ⟨hsay,k1⟩
 have K1:=k0.trans k1
 have hrow1:Row w1 (w.heap.size+1) 4:=Row.kept (by have:=Row.made (w.alloc (.cells #[.int .i64 cost,.slice a l.length cap] 88)) #[.int .i64 0,.bool false,.int .i64 0,.string ⟨#[]⟩] 244;simpa using this) k1
 have HROW:=Kz hrow1
 clear hrow1
 obtain ⟨hc1,hf1⟩:=k1.rules
 have hz1:=k1.size
 simp only [World.size_alloc] at hz1
 have x0:w.heap.size < w1.heap.size:=by omega
 have x1:w.heap.size+1 < w1.heap.size:=by omega
 rcases hsay.cases with ⟨rfl,hyes⟩ | ⟨rfl,hno⟩
 ·have HV:=Kz hyes
  clear hyes hsay k0 k1
  have p1:0<=at':=HF0.out.2.1.1
  have p2:at' < l.length:=HF0.out.2.1.2
  obtain ⟨n,rfl⟩:=Int.eq_ofNat_of_zero_le p1
  have hlt:n < l.length:=by omega
  obtain ⟨b,o,cs,rfl,hb,hc,aa,ca,ac,cc,rfl,hA,hC,hca⟩:=hS.kept K1 n hlt
  have hsz:=hs (l.getD n Xj.zero) (by simp [List.getD,hlt])
  obtain ⟨s,hsk⟩: ∃s,s=l.getD n Xj.zero:= ⟨_,rfl⟩
  rw [<-hsk] at hc hsz hA hC hca
  have HSK:Hid (stepAt l n=s):=by rw [hsk];show Hid (l.getD (n:Int).toNat Xj.zero=_);rw [Int.toNat_natCast];exact rfl
  have HOK:Hid (StepOk s l.length):=by rw [hsk];exact HV.out.2.2 n hlt
  clear hsk
  have c0:=hc 0 _ rfl
  have c1:=hc 1 _ rfl
  have c2:=hc 2 _ rfl
  have c3:=hc 3 _ rfl
  have c4:=hc 4 _ rfl
  have c5:=hc 5 _ rfl
  have c6:=hc 6 _ rfl
  have c7:=hc 7 _ rfl
  simp only [Nat.add_zero] at c0
  clear hc
  have hfin:s.fin=false:=by have:=HF0.out.2.2;rw [HSK.out] at this;exact this
  rw [hfin] at c5
  have HLEN:Hid (ans.length=s.asks.length):=by have:=HE0.out;rw [HSK.out] at this;exact this
  have hneq: ((ans.length:Int) != (s.asks.length:Int))=false:=by have:=HLEN.out;simp;omega
  have HF:Hid (FrontGo cost l n):=HF0.out
  have HAK:Hid (AskOk s l.length):=HOK.out.2 hfin
  clear HF0 HE0
  have kA:K_ w1 (w1.alloc (.cells #[.slice aa s.asks.length ca,.int .i64 s.on,.slice ac s.cases.length cc,.int .i64 s.els,.int .i64 s.fall,.bool false,.bool s.bad,.string s.give] 172)):= (K_.refl _).alloc _
  have K2:=K1.trans kA
  have HROW2:=Kz (HROW.out.kept kA)
  go_wp2_with (go_at_call 20;refine (l1In_yes _ _ _ _ (by omega) (by omega)).mono ?_;rintro e w' ⟨rfl,hw'⟩;have hw'':=Eq.symm hw';clear hw';subst hw'')
  clear c0 c1 c2 c3 c4 c5 c6 c7
  go_loop [8] (fun i=> ∃k:Nat,k<=ans.length∧i= .int .i64 k∧NoneTo ans IsLong k) (fun i=> ans.length - (intOf i).toNat)
  case atStart=> exact ⟨0,Nat.zero_le _,rfl,fun j hj=> absurd hj (Nat.not_lt_zero _)⟩
  case round=>
   obtain ⟨k,hk,rfl,hg⟩:=hrel
   have HG:=Kz hg
   clear hg
   by_cases hlt1:k < ans.length
   ·obtain ⟨b1,o1,rfl,hb1,hd⟩:=hD.kept K2 k hlt1
    have hsz1: (ans.getD k Xq.zero).text.size<=maxLen:=has _ (by simp [List.getD,hlt1])
    obtain ⟨c,hck⟩: ∃c,c=ans.getD k Xq.zero:= ⟨_,rfl⟩
    rw [<-hck] at hd hsz1
    have HCK:=Kz hck
    clear hck
    unfold maxLen at hsz1
    have d1:=hd 1 _ rfl
    clear hd
    by_cases hlong: (200:Int) < c.text.size
    ·skip
     go_wp2
     have hR:=World.rangeAt_alloc (World.rangeAt_setCells_same w1 (w.heap.size+1) 0 GoneD.none.cells (HROW.out.there (o:=0) (m:=4) (Nat.le_refl _))) (.cells #[.slice aa s.asks.length ca,.int .i64 s.on,.slice ac s.cases.length cc,.int .i64 s.els,.int .i64 s.fall,.bool false,.bool s.bad,.string s.give] 172)
     exact X_ GoneD.none.cells _ Tryz.results169 rfl hR Tryz.underlying244 rfl Tryz.sizeGone rfl ⟨⟨_,rfl,Or.inr ⟨HF.out,by rw [HSK.out];exact Or.inl ⟨fun h=> h.2 ⟨k,hlt1,by unfold IsLong;rw [<-HCK.out];omega⟩,rfl⟩⟩⟩,K_.alloc (K_.setCells (g:=w.heap.size+1) (by omega) GoneD.none.cells 0 K1) _⟩
    ·go_wp2
     go_round
     case rel=>
      refine ⟨k+1,by omega,by go_num,fun j hj=> ?_⟩
      by_cases e:j=k
      ·subst e
       unfold IsLong
       rw [<-HCK.out]
       omega
      ·exact HG.out j (by omega)
     case measure=> simp [intOf];omega
   ·have HAO:Hid (AnsOk s ans):= ⟨HLEN.out,fun ⟨i,hi,h⟩=> HG.out i (by omega) h⟩
    clear HG
    go_wp2
    go_loop [9] (fun i=> ∃k:Nat,k<=ans.length∧i= .int .i64 k∧NoneTo ans IsFail k) (fun i=> ans.length - (intOf i).toNat)
    case atStart=> exact ⟨0,Nat.zero_le _,rfl,fun j hj=> absurd hj (Nat.not_lt_zero _)⟩
    case round=>
     clear hk hlt1
     obtain ⟨k,hk,rfl,hg⟩:=hrel
     have HG:=Kz hg
     clear hg
     by_cases hlt2:k < ans.length
     ·obtain ⟨b1,o1,rfl,hb1,hd⟩:=hD.kept K2 k hlt2
      obtain ⟨c,hck⟩: ∃c,c=ans.getD k Xq.zero:= ⟨_,rfl⟩
      rw [<-hck] at hd
      have HCK:=Kz hck
      clear hck
      have d0:=hd 0 _ rfl
      simp only [Nat.add_zero] at d0
      clear hd
      cases hcf:c.fail
      ·rw [hcf] at d0
       go_wp2
       go_round
       case rel=>
        refine ⟨k+1,by omega,by go_num,fun j hj=> ?_⟩
        by_cases e:j=k
        ·subst e
         unfold IsFail
         rw [<-HCK.out,hcf]
         simp
        ·exact HG.out j (by omega)
       case measure=> simp [intOf];omega
      ·rw [hcf] at d0
       have HP:Hid (IsFail (ans.getD k Xq.zero)):=by rw [<-HCK.out];exact hcf
       cases b5: (s.fall == -1)
       ·skip
        go_wp2
        have hR:=World.rangeAt_alloc (World.rangeAt_setCells_same w1 (w.heap.size+1) 0 [.int .i64 0,.bool false,.int .i64 s.fall,.string ⟨#[]⟩] (HROW.out.there (o:=0) (m:=4) (Nat.le_refl _))) (.cells #[.slice aa s.asks.length ca,.int .i64 s.on,.slice ac s.cases.length cc,.int .i64 s.els,.int .i64 s.fall,.bool false,.bool s.bad,.string s.give] 172)
        exact X_ [.int .i64 0,.bool false,.int .i64 s.fall,.string ⟨#[]⟩] _ Tryz.results169 rfl hR Tryz.underlying244 rfl Tryz.sizeGone rfl ⟨⟨⟨0,false,s.fall,⟨#[]⟩⟩,rfl,Or.inr ⟨HF.out,by rw [HSK.out];exact Or.inr ⟨HAO.out,Or.inl ⟨k,hlt2,HP.out,HG.out,Or.inr ⟨by simpa using b5,rfl⟩⟩⟩⟩⟩,K_.alloc (K_.setCells (g:=w.heap.size+1) (by omega) [.int .i64 0,.bool false,.int .i64 s.fall,.string ⟨#[]⟩] 0 K1) _⟩
       ·have hia:k < s.asks.length:=by have:=HLEN.out;omega
        obtain ⟨b6,o6,rfl,hb6,ha6⟩:=hA.kept kA k hia
        have hv20: (s.asks.getD k ByteArray.empty).size<=20:= (HAK.out.1.2.2.2.1 k hia).1.2.1
        obtain ⟨v,hv⟩: ∃v,v=s.asks.getD k ByteArray.empty:= ⟨_,rfl⟩
        rw [<-hv] at ha6 hv20
        have HV2:=Kz hv
        clear hv
        go_wp2
        have hR:=World.rangeAt_setCells_same w1 (w.heap.size+1) 0 [.int .i64 0,.bool true,.int .i64 0,.string ((⟨#[98,101,108,111,119,32]⟩:ByteArray)++v)] (HROW.out.there (o:=0) (m:=4) (Nat.le_refl _))
        exact X_ [.int .i64 0,.bool true,.int .i64 0,.string ((⟨#[98,101,108,111,119,32]⟩:ByteArray)++v)] _ Tryz.results169 rfl (World.rangeAt_alloc hR _) Tryz.underlying244 rfl Tryz.sizeGone rfl ⟨⟨⟨0,true,0,_⟩,rfl,Or.inr ⟨HF.out,by rw [HSK.out];exact Or.inr ⟨HAO.out,Or.inl ⟨k,hlt2,HP.out,HG.out,Or.inl ⟨by simpa using b5,by unfold belowOf;rw [<-HV2.out]⟩⟩⟩⟩⟩,K_.alloc (K_.setCells (g:=w.heap.size+1) (by omega) [.int .i64 0,.bool true,.int .i64 0,.string ((⟨#[98,101,108,111,119,32]⟩:ByteArray)++v)] 0 K1) _⟩
     ·have HNF:Hid (NoneTo ans IsFail ans.length):=fun j hj=> HG.out j (by omega)
      clear HG
      cases a9: ((ans.length:Int) == 0)
      ·have hne:ans.length≠0:=by simp at a9;simpa using a9
       have HNE:=Kz hne
       have hon:0<=s.on∧s.on < ans.length:=by have h1:=HAK.out.1.2.2.2.2.2.2.2;have h2:=HLEN.out;omega
       obtain ⟨q1,q2⟩:=hon
       clear hne
       obtain ⟨t,htk⟩: ∃t,t=textAt ans s.on:= ⟨_,rfl⟩
       have HTK:=Kz htk
       clear htk
       have hm2:s.on.toNat < ans.length:=by omega
       have hcl:=hsz.cases
       unfold maxLen at hcl
       go_wp2
       go_loopw [10] (fun i wr=> ∃k:Nat,k<=s.cases.length∧i= .int .i64 k∧K_ (w1.alloc (.cells #[.slice aa s.asks.length ca,.int .i64 s.on,.slice ac s.cases.length cc,.int .i64 s.els,.int .i64 s.fall,.bool false,.bool s.bad,.string s.give] 172)) wr∧CaseTo s t k) (fun i _=> s.cases.length - (intOf i).toNat)
       case atStart=> exact ⟨0,Nat.zero_le _,rfl,K_.refl _,fun j hj=> absurd hj (Nat.not_lt_zero _)⟩
       case round=>
        obtain ⟨k,hk,rfl,hw,hg⟩:=hrel
        have HG:=Kz hg
        clear hg
        have k3:K_ w wr:=K2.trans hw
        obtain ⟨hc3,hf3⟩:=hw.rules
        have hz3:=hw.size
        simp only [World.size_alloc] at hz3
        have HROW3:=Kz (HROW2.out.kept hw)
        have v0:w.heap.size+1 < w1.heap.size+1:=by omega
        have v1:w1.heap.size < w1.heap.size+1:=by omega
        by_cases hlt3:k < s.cases.length
        ·obtain ⟨b3,o3,rfl,hb3,hcc⟩:= (hC.kept kA).kept hw k hlt3
         obtain ⟨b4,o4,e4,hb4,hd4⟩:=hD.kept k3 s.on.toNat hm2
         obtain ⟨c,hck⟩: ∃c,c=s.cases.getD k CaseD.zero:= ⟨_,rfl⟩
         rw [<-hck] at hcc
         have HCK:=Kz hck
         clear hck
         have g0:=hcc 0 _ rfl
         have g1:=hcc 1 _ rfl
         have d1:=hd4 1 _ rfl
         simp only [Nat.add_zero] at g0
         have htn: (ans.getD s.on.toNat Xq.zero).text=t:=by have h1:=HTK.out;unfold textAt at h1;exact h1.symm
         rw [htn] at d1
         subst e4
         clear hcc hd4 htn
         cases hct: (c.text.toList == t.toList)
         ·go_wp2
          go_region
          all_goals
           go_wp2
           go_roundw
           case rel=>
            refine ⟨k+1,by omega,by go_num,by repeat (first | apply K_.drew | exact hw),fun j hj=> ?_⟩
            by_cases e:j=k
            ·subst e
             unfold CaseIs
             rw [<-HCK.out]
             exact bytes_ne hct
            ·exact HG.out j (by omega)
           case measure=> simp [intOf];omega
         ·go_wp2
          go_region
          all_goals
           go_wp2
           have hR:=World.rangeAt_setCells_same wr.drew (w.heap.size+1) 0 [.int .i64 0,.bool false,.int .i64 c.goto,.string ⟨#[]⟩] (Row.there (Row.kept HROW3.out (K_.drew (K_.refl _))) (o:=0) (m:=4) (Nat.le_refl _))
           exact X_ [.int .i64 0,.bool false,.int .i64 c.goto,.string ⟨#[]⟩] _ Tryz.results169 rfl hR Tryz.underlying244 rfl Tryz.sizeGone rfl ⟨⟨⟨0,false,c.goto,⟨#[]⟩⟩,rfl,Or.inr ⟨HF.out,by rw [HSK.out];exact Or.inr ⟨HAO.out,Or.inr ⟨HNF.out,c.goto,Or.inr ⟨HNE.out,Or.inl ⟨k,hlt3,by unfold CaseIs;rw [<-HCK.out,<-HTK.out];exact bytes_eq.1 hct,by rw [<-HTK.out];exact HG.out,by unfold gotoOf;rw [<-HCK.out]⟩⟩,rfl⟩⟩⟩⟩,K_.setCells (g:=w.heap.size+1) (by omega) [.int .i64 0,.bool false,.int .i64 c.goto,.string ⟨#[]⟩] 0 k3.drew⟩
        ·skip
         go_wp2
         have hR:=World.rangeAt_setCells_same wr (w.heap.size+1) 0 [.int .i64 0,.bool false,.int .i64 s.els,.string ⟨#[]⟩] (HROW3.out.there (o:=0) (m:=4) (Nat.le_refl _))
         exact X_ [.int .i64 0,.bool false,.int .i64 s.els,.string ⟨#[]⟩] _ Tryz.results169 rfl hR Tryz.underlying244 rfl Tryz.sizeGone rfl ⟨⟨⟨0,false,s.els,⟨#[]⟩⟩,rfl,Or.inr ⟨HF.out,by rw [HSK.out];exact Or.inr ⟨HAO.out,Or.inr ⟨HNF.out,s.els,Or.inr ⟨HNE.out,Or.inr ⟨by rw [<-HTK.out];exact fun j hj=> HG.out j (by omega),rfl⟩⟩,rfl⟩⟩⟩⟩,K_.setCells (g:=w.heap.size+1) (by omega) [.int .i64 0,.bool false,.int .i64 s.els,.string ⟨#[]⟩] 0 k3⟩
      ·skip
       go_wp2
       have hR:=World.rangeAt_alloc (World.rangeAt_setCells_same w1 (w.heap.size+1) 0 [.int .i64 0,.bool false,.int .i64 s.els,.string ⟨#[]⟩] (HROW.out.there (o:=0) (m:=4) (Nat.le_refl _))) (.cells #[.slice aa s.asks.length ca,.int .i64 s.on,.slice ac s.cases.length cc,.int .i64 s.els,.int .i64 s.fall,.bool false,.bool s.bad,.string s.give] 172)
       exact X_ [.int .i64 0,.bool false,.int .i64 s.els,.string ⟨#[]⟩] _ Tryz.results169 rfl hR Tryz.underlying244 rfl Tryz.sizeGone rfl ⟨⟨⟨0,false,s.els,⟨#[]⟩⟩,rfl,Or.inr ⟨HF.out,by rw [HSK.out];exact Or.inr ⟨HAO.out,Or.inr ⟨HNF.out,s.els,Or.inl ⟨by simp at a9;simpa using a9,rfl⟩,rfl⟩⟩⟩⟩,K_.alloc (K_.setCells (g:=w.heap.size+1) (by omega) [.int .i64 0,.bool false,.int .i64 s.els,.string ⟨#[]⟩] 0 K1) _⟩
 ·exact absurd HF0.out.1 hno
theorem specGoOn_any (w:World) (cost at':Int) (a d:Option Addr) (cap dcap:Nat) (l:List Xj) (ans:List Xq) (hl:l.length<=maxLen) (hs: ∀s∈l,s.Fits) (hS:Steps w a l)
  (hal:ans.length<=maxLen) (has: ∀c∈ans,c.text.size<=maxLen) (hD:Answers w d ans):
  Calls Tryz.prog 169 #[.agg #[.int .i64 cost,.slice a l.length cap],.int .i64 at',.slice d ans.length dcap] w fun e w'=> (∃g,e= .returned (.agg g.cells.toArray)∧WentOn cost l at' ans g)∧K_ w w':=by
 by_cases h:FrontGo cost l at'∧ans.length= (stepAt l at').asks.length
 ·exact specGoOn_yes w cost at' a d cap dcap l ans hl hs hS hal has hD h.1 h.2
 ·exact specGoOn_no w cost at' a d cap dcap l ans hl hs hS hal has hD h
def szNodeD (d:Qq):Nat:=d.name.size+szSteps d.steps
theorem szNode_any (w:World) (d:Qq) (a:Option Addr) (cap:Nat) (left:Int) (hd:d.Fits) (hS:Steps w a d.steps) (h0:0<=left) (h1:left<=1048576):
  Calls Tryz.prog 43 #[.agg #[.string d.name,.int .i64 d.cost,.slice a d.steps.length cap],.int .i64 left] w fun e w'=> e= .returned (.int .i64 (szL (szNodeD d) left))∧K_ w w':=by
 have hn:=hd.name
 unfold maxLen at hn
 have k0:K_ w (w.alloc (.cells #[.string d.name,.int .i64 d.cost,.slice a d.steps.length cap] 84)):= (K_.refl _).alloc _
 by_cases hle: (d.name.size:Int)<=left
 ·go_enter Tryz.func43,Tryz.ntmps43
  go_wp2_with fail
  refine (szAction_any _ d.cost a cap d.steps _ hd.steps hd.each (hS.kept k0) (by omega) (by omega)).mono ?_
  rintro e w1 ⟨rfl,k1⟩
  have k2:=k0.trans k1
  clear k0 k1
  by_cases hle2: (szSteps d.steps:Int)<=left - d.name.size
  ·rw [szL_pos hle2]
   go_wp2
   go_ret
   exact ⟨ret_int (by rw [szL_pos (by unfold szNodeD;omega)];unfold szNodeD;omega),k2⟩
  ·rw [szL_neg (by omega)]
   go_wp2
   go_ret
   exact ⟨ret_int (szL_neg (by unfold szNodeD;omega)).symm,k2⟩
 ·go_enter Tryz.func43,Tryz.ntmps43
  go_wp2
  go_ret
  exact ⟨ret_int (szL_neg (by unfold szNodeD;omega)).symm,k0⟩
theorem eqNode_yes (w:World) (d:Qq) (a a':Option Addr) (cap cap':Nat) (hd:d.Fits) (hS:Steps w a d.steps) (hS':Steps w a' d.steps):
  Calls Tryz.prog 90 #[.agg #[.string d.name,.int .i64 d.cost,.slice a d.steps.length cap],.agg #[.string d.name,.int .i64 d.cost,.slice a' d.steps.length cap']] w fun e w'=> e= .returned (.bool true)∧K_ w w':=by
 have k0:K_ w ((w.alloc (.cells #[.string d.name,.int .i64 d.cost,.slice a d.steps.length cap] 90)).alloc (.cells #[.string d.name,.int .i64 d.cost,.slice a' d.steps.length cap'] 90)):= ((K_.refl _).alloc _).alloc _
 go_enter Tryz.func90,Tryz.ntmps90
 go_wp2_with fail
 refine (eqAction_yes _ d.cost a a' cap cap' d.steps hd.steps (fun s hs=> ⟨(hd.each s hs).asks,(hd.each s hs).cases⟩) (hS.kept (by repeat (first | apply K_.drew | exact k0))) (hS'.kept (by repeat (first | apply K_.drew | exact k0)))).mono ?_
 rintro e w1 ⟨rfl,k1⟩
 have k2:K_ w w1:=K_.trans (by repeat (first | apply K_.drew | exact k0)) k1
 clear k0 k1
 go_wp2
 go_ret
 exact ⟨rfl,k2⟩
theorem Tryz.sizeNode : (Tryz.prog.info? 90).map (·.size)=some 3:=by kernel_rfl
theorem toNode_any (w:World) (d:Qq) (a:Option Addr) (cap:Nat) (hl:d.steps.length<=1048576) (hs: ∀s∈d.steps,s.asks.length<=1048576∧s.cases.length<=1048576) (hS:Steps w a d.steps):
  Calls Tryz.prog 59 #[.agg #[.string d.name,.int .i64 d.cost,.slice a d.steps.length cap]] w fun e w'=> ∃b,e= .returned (.agg (d.cells (some ⟨b,0,none⟩) d.steps.length).toArray)∧StepsNew w' b d.steps∧K_ w w'∧w.heap.size<=b:=by
 go_enter Tryz.func59,Tryz.ntmps59
 go_wp2_with fail
 refine (toAction_any _ d.cost a cap d.steps hl hs (hS.kept (by repeat (first | apply K_.alloc | exact K_.refl _)))).mono ?_
 rintro e w1 ⟨b,rfl,hN,k1,hb⟩
 obtain ⟨hc1,hf1⟩:=k1.rules
 have hz1:=k1.size
 simp only [World.size_alloc] at hb hz1
 have K1:K_ w w1:=K_.trans (by repeat (first | apply K_.alloc | exact K_.refl _)) k1
 have hrow1:Row w1 (w.heap.size+1) 3:=Row.kept (Row.alloc (by have:=Row.made (w.alloc (.cells #[.string d.name,.int .i64 d.cost,.slice a d.steps.length cap] 84)) #[.string ⟨#[]⟩,.int .i64 0,.slice none 0 0] 90;simpa using this) _) k1
 have HRow:=Kz hrow1
 clear k1 hrow1
 go_wp2
 have hX:Row ((w1.setCell ⟨w.heap.size+1+1,1,none⟩ (.int .i64 d.cost)).setCell ⟨w.heap.size+1+1,2,none⟩ (.slice (some ⟨b,0,none⟩) d.steps.length d.steps.length)) (w.heap.size+1) 3:=Row.set (Row.set HRow.out _ rfl _) _ rfl _
 have hR:=World.rangeAt_setCells_same _ (w.heap.size+1) 0 (d.cells (some ⟨b,0,none⟩) d.steps.length) (hX.there (o:=0) (m:=3) (Nat.le_refl _))
 refine X_ (d.cells (some ⟨b,0,none⟩) d.steps.length) _ Tryz.results59 rfl hR Tryz.underlying90 rfl Tryz.sizeNode rfl ⟨b,rfl, ?_, ?_,by omega⟩
 ·repeat (first | (refine StepsNew.setCell ?_ (by simp <;> omega) _) | exact hN)
 ·repeat (first | (refine K_.setCell ?_ (by simp <;> omega) _) | exact K1)
def szNodesD (l:List Qq):Nat:=l.length+ (l.map szNodeD).sum
theorem szNodeS_any (w:World) (a:Option Addr) (cap:Nat) (l:List Qq) (left:Int) (hl:l.length<=maxLen) (hs: ∀s∈l,s.Fits)
  (hS:Nodes w a l) (h0:0<=left) (h1:left<=1048576):
  Calls Tryz.prog 17 #[.slice a l.length cap,.int .i64 left] w fun e w'=> e= .returned (.int .i64 (szL (szNodesD l) left))∧K_ w w':=by
 unfold maxLen at hl
 go_enter Tryz.func17,Tryz.ntmps17
 go_wp2
 ·go_ret
  exact ⟨ret_int (szL_neg (by unfold szNodesD;omega)).symm,K_.refl _⟩
 ·go_loopw [1,5] (fun x i wr=> ∃k:Nat,k<=l.length∧i= .int .i64 k∧x= .int .i64 (left - l.length - sumTo szNodeD l k)∧0<=left - l.length - sumTo szNodeD l k∧K_ w wr) (fun _ i _=> l.length - (intOf i).toNat)
  case atStart=> exact ⟨0,Nat.zero_le _,rfl,by simp [sumTo_zero],by simp [sumTo_zero];omega,K_.refl _⟩
  case round=>
   obtain ⟨k,hk,rfl,rfl,hge,hw⟩:=hrel
   by_cases hlt:k < l.length
   ·obtain ⟨b,o,cs,rfl,hb,hc,aa,ca,rfl,hA⟩:=hS.kept hw k hlt
    have hsz: (l.getD k Qq.zero).Fits:=hs _ (by simp [List.getD,hlt])
    have HS:Hid (sumTo szNodeD l (k+1)=sumTo szNodeD l k+szNodeD (l.getD k Qq.zero)):=sumTo_succ _ l _ k hlt
    have HT:=sumTo_le szNodeD l (k+1)
    generalize l.getD k Qq.zero=s at *
    have c0:=hc 0 _ rfl
    have c1:=hc 1 _ rfl
    have c2:=hc 2 _ rfl
    simp only [Nat.add_zero] at c0
    clear hc
    go_wp2_with fail
    refine (szNode_any _ s aa ca _ hsz hA (by omega) (by omega)).mono ?_
    rintro e w1 ⟨rfl,hw1⟩
    have hw2:=hw.trans hw1
    by_cases hle: (szNodeD s:Int)<=left - l.length - sumTo szNodeD l k
    ·rw [szL_pos hle]
     clear c0 c1 c2 hA hw hw1
     go_wp2
     go_roundw
     case rel=> exact ⟨k+1,by omega,by go_num,by rw [HS.out];go_num,by rw [HS.out];omega,hw2⟩
     case measure=> simp [intOf];omega
    ·rw [szL_neg (by omega)]
     clear c0 c1 c2 hA hw hw1
     go_wp2
     go_ret
     exact ⟨ret_int (szL_neg (by unfold szNodesD;have:=HS.out;omega)).symm,hw2⟩
   ·go_wp2
    go_ret
    have:k=l.length:=by omega
    subst this
    rw [sumTo_all] at hge⊢
    exact ⟨ret_int (by rw [szL_pos (by unfold szNodesD;omega)];unfold szNodesD;omega),hw⟩
theorem Tryz.infoNode : (Tryz.prog.info? 90).map (fun i=> (i.zero,i.size,i.bytes))=some (some (.agg #[.string ⟨#[]⟩,.int .i64 0,.slice none 0 0]),3,48):=by kernel_rfl
theorem toNodeS_any (w:World) (a:Option Addr) (cap:Nat) (l:List Qq) (hl:l.length<=1048576) (hs: ∀s∈l,s.steps.length<=1048576∧∀x∈s.steps,x.asks.length<=1048576∧x.cases.length<=1048576)
  (hS:Nodes w a l):
  Calls Tryz.prog 27 #[.slice a l.length cap] w fun e w'=> ∃b,e= .returned (.slice (some ⟨b,0,none⟩) l.length l.length)∧NodesNew w' b l∧K_ w w'∧w.heap.size<=b:=by
 have hmk:=run_make_many (P:=Tryz.prog) 35 90 _ _ _ Tryz.underlying35 Tryz.infoNode .i64 .i64 l.length (by omega) (by omega)
 go_enter Tryz.func27,Tryz.ntmps27
 go_wp2
 clear hmk
 have hrow:=Row.made w (madeCells #[.string ⟨#[]⟩,.int .i64 0,.slice none 0 0] (l.length * 3)) 90
 rw [size_madeCells] at hrow
 have hkept:K_ w (w.alloc (.cells (madeCells #[.string ⟨#[]⟩,.int .i64 0,.slice none 0 0] (l.length * 3)) 90)):= (K_.refl _).alloc _
 go_loopw [4] (fun i wr=> ∃k:Nat,k<=l.length∧i= .int .i64 k∧K_ w wr∧Row wr w.heap.size (l.length * 3)∧∀j,j < k->NodeNew wr w.heap.size j (l.getD j Qq.zero)) (fun i _=> l.length - (intOf i).toNat)
 case atStart=> exact ⟨0,Nat.zero_le _,rfl,hkept,hrow,fun j hj=> absurd hj (Nat.not_lt_zero _)⟩
 case round=>
  obtain ⟨k,hk,rfl,hw,hr,hf⟩:=hrel
  clear hrow hkept
  by_cases hlt:k < l.length
  ·obtain ⟨b,o,cs,rfl,hb,hc,aa,ca,rfl,hA⟩:=hS.kept hw k hlt
   have hsz:=hs (l.getD k Qq.zero) (by simp [List.getD,hlt])
   have HF:=Kz hf
   clear hf
   generalize hs:l.getD k Qq.zero=s at *
   have HSs:=Kz hs
   clear hs
   have c0:=hc 0 _ rfl
   have c1:=hc 1 _ rfl
   have c2:=hc 2 _ rfl
   simp only [Nat.add_zero] at c0
   clear hc
   go_wp2_with fail
   refine (toNode_any _ s aa ca hsz.1 hsz.2 hA).mono ?_
   rintro e w1 ⟨b1,rfl,g1,hw1,g3⟩
   have hrl:=hr.lt
   have hw2:=hw.trans hw1
   have hr1:=hr.kept hw1
   generalize hcs:s.cells (some ⟨b1,0,none⟩) s.steps.length=cs
   have hlen:cs.length=3:=by rw [<-hcs];rfl
   have hone:cs.toArray.all (·.oneCell')=true:=by rw [<-hcs];exact Qq.one s _ _
   have hth:w1.there w.heap.size (k * 3) cs.toArray.size:=by simpa [hlen] using hr1.there (o:=k * 3) (m:=3) (by omega)
   have hsize: (Tryz.prog.info? 90).map (·.size)=some cs.toArray.size:=by rw [Tryz.sizeNode];simp [hlen]
   have HCS:=Kz hcs
   have HLEN:=Kz hlen
   have HSZ:=Kz hsize
   clear hcs hlen hsize
   have HR:Hid (Row w1 w.heap.size (l.length * 3)):=hr1
   have HF1:Hid (∀j,j < k->NodeNew w1 w.heap.size j (l.getD j Qq.zero)):=fun j hj=> (HF.out j hj).kept hw1 hr.lt
   clear HF c0 c1 c2 hw hw1 hr hr1 hA
   go_wp2_with (refine wpList_store_mid rfl 90 _ _ rfl w.heap.size (k * 3) cs.toArray rfl rfl hth (unhide HSZ) hone ?_)
   go_roundw
   case rel=>
    refine ⟨k+1,by omega,by go_num,K_.setCells (Nat.le_refl _) _ _ hw2,Row.setCells _ _ HR.out,fun j hj=> ?_⟩
    by_cases e:j=k
    ·subst e
     rw [unhide HSs]
     exact ⟨b1,by omega,by rw [HCS.out];exact World.rangeAt_setCells_same _ _ _ _ (by simpa using hth),StepsNew.setCellsBelow g1 (by omega)⟩
    ·exact (HF1.out j (by omega)).setCells (by rw [HLEN.out];omega)
   case measure=> simp [intOf];omega
  ·go_wp2
   go_ret
   have:k=l.length:=by omega
   subst this
   exact ⟨w.heap.size,rfl,⟨hr.lt,hf⟩,hw,Nat.le_refl _⟩
theorem eqNodeS_yes (w:World) (a a':Option Addr) (cap cap':Nat) (l:List Qq) (hl:l.length<=maxLen) (hs: ∀s∈l,s.Fits)
  (hS:Nodes w a l) (hS':Nodes w a' l):
  Calls Tryz.prog 36 #[.slice a l.length cap,.slice a' l.length cap'] w fun e w'=> e= .returned (.bool true)∧K_ w w':=by
 unfold maxLen at hl
 go_enter Tryz.func36,Tryz.ntmps36
 go_wp2
 go_loopw [5] (fun i wr=> ∃k:Nat,k<=l.length∧i= .int .i64 k∧K_ w wr) (fun i _=> l.length - (intOf i).toNat)
 case atStart=> exact ⟨0,Nat.zero_le _,rfl,K_.refl _⟩
 case round=>
  obtain ⟨k,hk,rfl,hw⟩:=hrel
  by_cases hlt:k < l.length
  ·obtain ⟨b,o,cs,rfl,hb,hc,aa,ca,rfl,hA⟩:=hS.kept hw k hlt
   obtain ⟨b',o',cs',rfl,hb',hc',ba,da,rfl,hA'⟩:=hS'.kept hw k hlt
   have hsz:=hs (l.getD k Qq.zero) (by simp [List.getD,hlt])
   clear hs
   generalize l.getD k Qq.zero=s at *
   have c0:=hc 0 _ rfl
   have c1:=hc 1 _ rfl
   have c2:=hc 2 _ rfl
   have d0:=hc' 0 _ rfl
   have d1:=hc' 1 _ rfl
   have d2:=hc' 2 _ rfl
   simp only [Nat.add_zero] at c0 d0
   clear hc hc'
   go_wp2
   go_region_with (go_at_call 90;refine (eqNode_yes _ s aa ba ca da hsz (hA.kept (by repeat (first | apply K_.drew | exact K_.refl _))) (hA'.kept (by repeat (first | apply K_.drew | exact K_.refl _)))).mono ?_;rintro e w1 ⟨rfl,hw1⟩)
   all_goals
    go_wp2
    go_roundw
    case rel=> exact ⟨k+1,by omega,by go_num,by repeat (first | assumption | apply K_.drew | refine K_.trans ?_ (by assumption))⟩
    case measure=> simp [intOf];omega
  ·go_wp2
   go_ret
   exact ⟨rfl,hw⟩
theorem szWeb_any (w:World) (a:Option Addr) (cap:Nat) (l:List Qq) (left:Int) (hl:l.length<=maxLen) (hs: ∀s∈l,s.Fits) (hS:Nodes w a l) (h0:0<=left) (h1:left<=1048576):
  Calls Tryz.prog 4 #[.agg #[.slice a l.length cap],.int .i64 left] w fun e w'=> e= .returned (.int .i64 (szL (szNodesD l) left))∧K_ w w':=by
 have k0:K_ w (w.alloc (.cells #[.slice a l.length cap] 24)):= (K_.refl _).alloc _
 go_enter Tryz.func4,Tryz.ntmps4
 go_wp2_with fail
 refine (szNodeS_any _ a cap l left hl hs (hS.kept k0) h0 h1).mono ?_
 rintro e w1 ⟨rfl,k1⟩
 have k2:=k0.trans k1
 clear k0 k1
 by_cases hle: (szNodesD l:Int)<=left
 ·rw [szL_pos hle]
  go_wp2
  go_ret
  exact ⟨ret_int (szL_pos hle).symm,k2⟩
 ·rw [szL_neg (by omega)]
  go_wp2
  go_ret
  exact ⟨ret_int (szL_neg (by omega)).symm,k2⟩
theorem Tryz.sizeWeb : (Tryz.prog.info? 37).map (·.size)=some 1:=by kernel_rfl
theorem toWeb_any (w:World) (a:Option Addr) (cap:Nat) (l:List Qq) (hl:l.length<=1048576) (hs: ∀s∈l,s.steps.length<=1048576∧∀x∈s.steps,x.asks.length<=1048576∧x.cases.length<=1048576) (hS:Nodes w a l):
  Calls Tryz.prog 7 #[.agg #[.slice a l.length cap]] w fun e w'=> ∃b,e= .returned (.agg #[.slice (some ⟨b,0,none⟩) l.length l.length])∧NodesNew w' b l∧K_ w w'∧w.heap.size<=b:=by
 go_enter Tryz.func7,Tryz.ntmps7
 go_wp2_with fail
 refine (toNodeS_any _ a cap l hl hs (hS.kept (by repeat (first | apply K_.alloc | exact K_.refl _)))).mono ?_
 rintro e w1 ⟨b,rfl,hN,k1,hb⟩
 obtain ⟨hc1,hf1⟩:=k1.rules
 have hz1:=k1.size
 simp only [World.size_alloc] at hb hz1
 have K1:K_ w w1:=K_.trans (by repeat (first | apply K_.alloc | exact K_.refl _)) k1
 have hrow1:Row w1 (w.heap.size+1) 1:=Row.kept (Row.alloc (by have:=Row.made (w.alloc (.cells #[.slice a l.length cap] 24)) #[.slice none 0 0] 37;simpa using this) _) k1
 have HRow:=Kz hrow1
 clear k1 hrow1
 go_wp2
 have hX:Row (w1.setCell ⟨w.heap.size+1+1,0,none⟩ (.slice (some ⟨b,0,none⟩) l.length l.length)) (w.heap.size+1) 1:=Row.set HRow.out _ rfl _
 have hR:=World.rangeAt_setCells_same _ (w.heap.size+1) 0 [.slice (some ⟨b,0,none⟩) l.length l.length] (hX.there (o:=0) (m:=1) (Nat.le_refl _))
 refine X_ [.slice (some ⟨b,0,none⟩) l.length l.length] _ Tryz.results7 rfl hR Tryz.underlying37 rfl Tryz.sizeWeb rfl ⟨b,rfl, ?_, ?_,by omega⟩
 ·repeat (first | (refine NodesNew.setCell ?_ (by simp <;> omega) _) | exact hN)
 ·repeat (first | (refine K_.setCell ?_ (by simp <;> omega) _) | exact K1)
theorem eqWeb_yes (w:World) (a a':Option Addr) (cap cap':Nat) (l:List Qq) (hl:l.length<=maxLen) (hs: ∀s∈l,s.Fits) (hS:Nodes w a l) (hS':Nodes w a' l):
  Calls Tryz.prog 11 #[.agg #[.slice a l.length cap],.agg #[.slice a' l.length cap']] w fun e w'=> e= .returned (.bool true)∧K_ w w':=by
 have k0:K_ w ((w.alloc (.cells #[.slice a l.length cap] 37)).alloc (.cells #[.slice a' l.length cap'] 37)):= ((K_.refl _).alloc _).alloc _
 go_enter Tryz.func11,Tryz.ntmps11
 go_wp2_with fail
 refine (eqNodeS_yes _ a a' cap cap' l hl hs (hS.kept (by repeat (first | apply K_.drew | exact k0))) (hS'.kept (by repeat (first | apply K_.drew | exact k0)))).mono ?_
 rintro e w1 ⟨rfl,k1⟩
 have k2:K_ w w1:=K_.trans (by repeat (first | apply K_.drew | exact k0)) k1
 clear k0 k1
 go_wp2
 go_ret
 exact ⟨rfl,k2⟩
def NoneN (l:List Qq) (p:Qq->Prop) (k:Nat):Prop:= ∀j,j < k->¬p (l.getD j Qq.zero)
def SomeN (l:List Qq) (p:Qq->Prop):Prop:= ∃i,i < l.length∧p (l.getD i Qq.zero)
def FirstN (l:List Qq) (p:Qq->Prop) (r:Int):Prop:=
 (∃i,i < l.length∧r= (i:Int)∧p (l.getD i Qq.zero))∨(r= -1∧NoneN l p l.length)
def BadName (d:Qq):Prop:= ¬NameOk d.name
def BadMade (d:Qq):Prop:= ¬ActionOk ⟨d.cost,d.steps⟩
theorem badlyNamed_any (w:World) (d:Qq) (a:Option Addr) (cap:Nat) (hd:d.Fits):
  Calls Tryz.prog 106 #[.agg #[.string d.name,.int .i64 d.cost,.slice a d.steps.length cap]] w fun e w'=> Says e (BadName d)∧K_ w w':=by
 have k0:K_ w (w.alloc (.cells #[.string d.name,.int .i64 d.cost,.slice a d.steps.length cap] 90)):= (K_.refl _).alloc _
 go_enter Tryz.func106,Tryz.ntmps106
 go_wp2_with fail
 refine (validName_any _ d.name hd.name).mono ?_
 rintro e w1 ⟨hsay,k1⟩
 have k2:=k0.trans k1
 clear k0 k1
 rcases hsay.cases with ⟨rfl,hyes⟩ | ⟨rfl,hno⟩
 ·have HY:=Kz hyes
  clear hyes hsay
  go_wp2
  go_ret
  exact ⟨Says.no fun h=> h HY.out,k2⟩
 ·have HY:=Kz hno
  clear hno hsay
  go_wp2
  go_ret
  exact ⟨Says.yes HY.out,k2⟩
theorem badlyMade_any (w:World) (d:Qq) (a:Option Addr) (cap:Nat) (hd:d.Fits) (hS:Steps w a d.steps):
  Calls Tryz.prog 108 #[.agg #[.string d.name,.int .i64 d.cost,.slice a d.steps.length cap]] w fun e w'=> Says e (BadMade d)∧K_ w w':=by
 have k0:K_ w (w.alloc (.cells #[.string d.name,.int .i64 d.cost,.slice a d.steps.length cap] 90)):= (K_.refl _).alloc _
 go_enter Tryz.func108,Tryz.ntmps108
 go_wp2_with fail
 refine (implValidAction_any _ d.cost a cap d.steps hd.steps hd.each (hS.kept k0)).mono ?_
 rintro e w1 ⟨hsay,k1⟩
 have k2:=k0.trans k1
 clear k0 k1
 rcases hsay.cases with ⟨rfl,hyes⟩ | ⟨rfl,hno⟩
 ·have HY:=Kz hyes
  clear hyes hsay
  go_wp2
  go_ret
  exact ⟨Says.no fun h=> h HY.out,k2⟩
 ·have HY:=Kz hno
  clear hno hsay
  go_wp2
  go_ret
  exact ⟨Says.yes HY.out,k2⟩
theorem indexNamed (w:World) (a:Option Addr) (cap:Nat) (l:List Qq) (hl:l.length<=maxLen) (hs: ∀c∈l,c.Fits) (hS:Nodes w a l):
  Calls Tryz.prog 143 #[.slice a l.length cap,.func (.func 106) #[] #[]] w fun e w'=> (∃r,e= .returned (.int .i64 r)∧FirstN l BadName r)∧K_ w w':=by
 unfold maxLen at hl
 go_enter Tryz.func143,Tryz.ntmps143
 go_wp2
 go_loopw [8] (fun i wr=> ∃k:Nat,k<=l.length∧i= .int .i64 k∧K_ w wr∧NoneN l BadName k) (fun i _=> l.length - (intOf i).toNat)
 case atStart=> exact ⟨0,Nat.zero_le _,rfl,K_.refl _,fun j hj=> absurd hj (Nat.not_lt_zero _)⟩
 case round=>
  obtain ⟨k,hk,rfl,hw,hg⟩:=hrel
  have HG:=Kz hg
  clear hg
  by_cases hlt:k < l.length
  ·obtain ⟨b,o,cs,rfl,hb,hc,aa,ca,rfl,hA⟩:=hS.kept hw k hlt
   have hsz:=hs (l.getD k Qq.zero) (by simp [List.getD,hlt])
   obtain ⟨c,hck⟩: ∃c,c=l.getD k Qq.zero:= ⟨_,rfl⟩
   rw [<-hck] at hc hsz hA
   have HCK:=Kz hck
   clear hck
   have c0:=hc 0 _ rfl
   have c1:=hc 1 _ rfl
   have c2:=hc 2 _ rfl
   simp only [Nat.add_zero] at c0
   clear hc
   go_wp2_with fail
   refine (badlyNamed_any _ c aa ca hsz).mono ?_
   rintro e w1 ⟨hsay,hw1⟩
   have hw2:=hw.trans hw1
   clear c0 c1 c2 hw hw1
   rcases hsay.cases with ⟨rfl,hyes⟩ | ⟨rfl,hno⟩
   ·have HY:=Kz hyes
    clear hyes hsay
    go_wp2
    go_ret
    exact ⟨⟨k,rfl,Or.inl ⟨k,hlt,rfl,by rw [<-HCK.out];exact HY.out⟩⟩,hw2⟩
   ·have HN:=Kz hno
    clear hno hsay
    go_wp2
    go_roundw
    case rel=>
     refine ⟨k+1,by omega,by go_num,hw2,fun j hj=> ?_⟩
     by_cases e:j=k
     ·subst e
      rw [<-HCK.out]
      exact HN.out
     ·exact HG.out j (by omega)
    case measure=> simp [intOf];omega
  ·go_wp2
   go_ret
   exact ⟨⟨-1,rfl,Or.inr ⟨rfl,fun j hj=> HG.out j (by omega)⟩⟩,hw⟩
theorem indexMade (w:World) (a:Option Addr) (cap:Nat) (l:List Qq) (hl:l.length<=maxLen) (hs: ∀c∈l,c.Fits) (hS:Nodes w a l):
  Calls Tryz.prog 143 #[.slice a l.length cap,.func (.func 108) #[] #[]] w fun e w'=> (∃r,e= .returned (.int .i64 r)∧FirstN l BadMade r)∧K_ w w':=by
 unfold maxLen at hl
 go_enter Tryz.func143,Tryz.ntmps143
 go_wp2
 go_loopw [8] (fun i wr=> ∃k:Nat,k<=l.length∧i= .int .i64 k∧K_ w wr∧NoneN l BadMade k) (fun i _=> l.length - (intOf i).toNat)
 case atStart=> exact ⟨0,Nat.zero_le _,rfl,K_.refl _,fun j hj=> absurd hj (Nat.not_lt_zero _)⟩
 case round=>
  obtain ⟨k,hk,rfl,hw,hg⟩:=hrel
  have HG:=Kz hg
  clear hg
  by_cases hlt:k < l.length
  ·obtain ⟨b,o,cs,rfl,hb,hc,aa,ca,rfl,hA⟩:=hS.kept hw k hlt
   have hsz:=hs (l.getD k Qq.zero) (by simp [List.getD,hlt])
   obtain ⟨c,hck⟩: ∃c,c=l.getD k Qq.zero:= ⟨_,rfl⟩
   rw [<-hck] at hc hsz hA
   have HCK:=Kz hck
   clear hck
   have c0:=hc 0 _ rfl
   have c1:=hc 1 _ rfl
   have c2:=hc 2 _ rfl
   simp only [Nat.add_zero] at c0
   clear hc
   go_wp2_with fail
   refine (badlyMade_any _ c aa ca hsz hA).mono ?_
   rintro e w1 ⟨hsay,hw1⟩
   have hw2:=hw.trans hw1
   clear c0 c1 c2 hw hw1
   rcases hsay.cases with ⟨rfl,hyes⟩ | ⟨rfl,hno⟩
   ·have HY:=Kz hyes
    clear hyes hsay
    go_wp2
    go_ret
    exact ⟨⟨k,rfl,Or.inl ⟨k,hlt,rfl,by rw [<-HCK.out];exact HY.out⟩⟩,hw2⟩
   ·have HN:=Kz hno
    clear hno hsay
    go_wp2
    go_roundw
    case rel=>
     refine ⟨k+1,by omega,by go_num,hw2,fun j hj=> ?_⟩
     by_cases e:j=k
     ·subst e
      rw [<-HCK.out]
      exact HN.out
     ·exact HG.out j (by omega)
    case measure=> simp [intOf];omega
  ·go_wp2
   go_ret
   exact ⟨⟨-1,rfl,Or.inr ⟨rfl,fun j hj=> HG.out j (by omega)⟩⟩,hw⟩
theorem containsNamed (w:World) (a:Option Addr) (cap:Nat) (l:List Qq) (hl:l.length<=maxLen) (hs: ∀c∈l,c.Fits) (hS:Nodes w a l):
  Calls Tryz.prog 105 #[.slice a l.length cap,.func (.func 106) #[] #[]] w fun e w'=> Says e (SomeN l BadName)∧K_ w w':=by
 go_enter Tryz.func105,Tryz.ntmps105
 go_wp2_with fail
 refine (indexNamed _ a cap l hl hs hS).mono ?_
 rintro e w1 ⟨⟨r,rfl,hr⟩,k1⟩
 have HR:=Kz hr
 clear hr
 by_cases h0:0<=r
 ·have h1:decide (0<=r)=true:=by simpa using h0
  go_wp2
  go_ret
  exact ⟨Says.yes (by rcases HR.out with ⟨i,hi,_,hp⟩ | ⟨rfl,_⟩;exact ⟨i,hi,hp⟩;omega),k1⟩
 ·have h1:decide (0<=r)=false:=by simpa using h0
  go_wp2
  go_ret
  exact ⟨Says.no (by rcases HR.out with ⟨i,hi,rfl,hp⟩ | ⟨rfl,hno⟩;omega;exact fun ⟨i,hi,hp⟩=> hno i hi hp),k1⟩
theorem containsMade (w:World) (a:Option Addr) (cap:Nat) (l:List Qq) (hl:l.length<=maxLen) (hs: ∀c∈l,c.Fits) (hS:Nodes w a l):
  Calls Tryz.prog 105 #[.slice a l.length cap,.func (.func 108) #[] #[]] w fun e w'=> Says e (SomeN l BadMade)∧K_ w w':=by
 go_enter Tryz.func105,Tryz.ntmps105
 go_wp2_with fail
 refine (indexMade _ a cap l hl hs hS).mono ?_
 rintro e w1 ⟨⟨r,rfl,hr⟩,k1⟩
 have HR:=Kz hr
 clear hr
 by_cases h0:0<=r
 ·have h1:decide (0<=r)=true:=by simpa using h0
  go_wp2
  go_ret
  exact ⟨Says.yes (by rcases HR.out with ⟨i,hi,_,hp⟩ | ⟨rfl,_⟩;exact ⟨i,hi,hp⟩;omega),k1⟩
 ·have h1:decide (0<=r)=false:=by simpa using h0
  go_wp2
  go_ret
  exact ⟨Says.no (by rcases HR.out with ⟨i,hi,rfl,hp⟩ | ⟨rfl,hno⟩;omega;exact fun ⟨i,hi,hp⟩=> hno i hi hp),k1⟩
def FallsAt (l:List Qq) (i:Nat):Prop:=Op.bytesLess (l.getD i Qq.zero).name.toList (l.getD (i+1) Qq.zero).name.toList=false
def SomeFalls (l:List Qq):Prop:= ∃i,i+1 < l.length∧FallsAt l i
def RisesTo (l:List Qq) (k:Nat):Prop:= ∀j,j+1 < k->¬FallsAt l j
def WebCode (l:List Qq) (c:Int):Prop:=
 (60 < l.length∧c=1)∨(¬60 < l.length∧SomeN l BadName∧c=2)∨(¬60 < l.length∧¬SomeN l BadName∧SomeFalls l∧c=3)∨
 (¬60 < l.length∧¬SomeN l BadName∧¬SomeFalls l∧SomeN l BadMade∧c=4)∨(¬60 < l.length∧¬SomeN l BadName∧¬SomeFalls l∧¬SomeN l BadMade∧c=0)
theorem WebCode.unique {l:List Qq} {c c':Int} (h:WebCode l c) (h':WebCode l c'):c=c':=by
 rcases h with ⟨h1,rfl⟩ | ⟨h1,h2,rfl⟩ | ⟨h1,h2,h3,rfl⟩ | ⟨h1,h2,h3,h4,rfl⟩ | ⟨h1,h2,h3,h4,rfl⟩ <;>
  rcases h' with ⟨g1,rfl⟩ | ⟨g1,g2,rfl⟩ | ⟨g1,g2,g3,rfl⟩ | ⟨g1,g2,g3,g4,rfl⟩ | ⟨g1,g2,g3,g4,rfl⟩ <;> first | rfl | contradiction
theorem specCheckWeb_any (w:World) (a:Option Addr) (cap:Nat) (l:List Qq) (hl:l.length<=maxLen) (hs: ∀s∈l,s.Fits) (hS:Nodes w a l):
  Calls Tryz.prog 18 #[.agg #[.slice a l.length cap]] w fun e w'=> (∃c,e= .returned (.int .i64 c)∧WebCode l c)∧K_ w w':=by
 unfold maxLen at hl
 have k0:K_ w (w.alloc (.cells #[.slice a l.length cap] 37)):= (K_.refl _).alloc _
 by_cases a1: (60:Int) < l.length
 ·go_enter Tryz.func18,Tryz.ntmps18
  go_wp2
  go_ret
  exact ⟨⟨1,rfl,Or.inl ⟨by omega,rfl⟩⟩,k0⟩
 ·have a2:decide ((60:Int) < l.length)=false:=by simpa using a1
  go_enter Tryz.func18,Tryz.ntmps18
  go_wp2
  clear a2
  go_loopw [3] (fun i wr=> ∃k:Nat,k<=l.length∧i= .int .i64 k∧K_ (w.alloc (.cells #[.slice a l.length cap] 37)) wr∧NoneN l BadName k) (fun i _=> l.length - (intOf i).toNat)
  case atStart=> exact ⟨0,Nat.zero_le _,rfl,K_.refl _,fun j hj=> absurd hj (Nat.not_lt_zero _)⟩
  case round=>
   obtain ⟨k,hk,rfl,hw,hg⟩:=hrel
   have HG:=Kz hg
   clear hg
   obtain ⟨hc1,hf1⟩:=hw.rules
   have hz1:=hw.size
   simp only [World.size_alloc] at hz1
   by_cases hlt:k < l.length
   ·obtain ⟨b,o,cs,rfl,hb,hc,aa,ca,rfl,hA⟩:= (hS.kept k0).kept hw k hlt
    have hsz:=hs (l.getD k Qq.zero) (by simp [List.getD,hlt])
    obtain ⟨d,hdk⟩: ∃d,d=l.getD k Qq.zero:= ⟨_,rfl⟩
    rw [<-hdk] at hc hsz
    have HDK:=Kz hdk
    clear hdk
    have c0:=hc 0 _ rfl
    simp only [Nat.add_zero] at c0
    clear hc hA
    go_wp2_with fail
    refine (l1NameOk_any _ d.name hsz.name).mono ?_
    rintro e w1 ⟨hsay,hw1⟩
    have hw1':=Eq.symm hw1
    clear hw1
    subst hw1'
    rcases hsay.cases with ⟨rfl,hyes⟩ | ⟨rfl,hno⟩
    ·have HY:=Kz hyes
     clear hyes hsay c0
     go_wp2
     go_roundw
     case rel=>
      refine ⟨k+1,by omega,by go_num,hw,fun j hj=> ?_⟩
      by_cases e:j=k
      ·subst e
       rw [<-HDK.out]
       exact fun h=> h HY.out
      ·exact HG.out j (by omega)
     case measure=> simp [intOf];omega
    ·have HN:=Kz hno
     clear hno hsay c0
     go_wp2
     go_ret
     exact ⟨⟨2,rfl,Or.inr (Or.inl ⟨by omega,⟨k,hlt,by rw [<-HDK.out];exact HN.out⟩,rfl⟩)⟩,k0.trans hw⟩
   ·have HB:Hid (¬SomeN l BadName):=fun ⟨i,hi,h⟩=> HG.out i (by omega) h
    clear HG
    go_wp2
    clear hc1 hf1 hz1
    go_loopw [4] (fun i wr'=> ∃n:Nat,1<=n∧n<=l.length+1∧i= .int .i64 n∧K_ (w.alloc (.cells #[.slice a l.length cap] 37)) wr'∧RisesTo l n) (fun i _=> l.length+2 - (intOf i).toNat)
    case atStart=> exact ⟨1,by omega,by omega,rfl,hw,fun j hj=> absurd hj (by omega)⟩
    case round=>
     clear hw hk hlt
     obtain ⟨n,hn1,hn2,rfl,hw,hg⟩:=hrel
     have HG:=Kz hg
     clear hg
     obtain ⟨hc1,hf1⟩:=hw.rules
     have hz1:=hw.size
     simp only [World.size_alloc] at hz1
     by_cases hlt:n < l.length
     ·obtain ⟨b,o,cs,rfl,hb,hc,aa,ca,rfl,hA⟩:= (hS.kept k0).kept hw (n - 1) (by omega)
      obtain ⟨b',o',cs',e',hb',hc',ba,da,rfl,hA'⟩:= (hS.kept k0).kept hw n hlt
      simp only [Option.some.injEq,Addr.mk.injEq,and_true] at e'
      obtain ⟨rfl,rfl⟩:=e'
      obtain ⟨x,hxk⟩: ∃x,x= (l.getD (n - 1) Qq.zero):= ⟨_,rfl⟩
      obtain ⟨y,hyk⟩: ∃y,y= (l.getD n Qq.zero):= ⟨_,rfl⟩
      rw [<-hxk] at hc
      rw [<-hyk] at hc'
      have HX:Hid (l.getD (n - 1) Qq.zero=x):=hxk.symm
      have HYK:Hid (l.getD (n - 1+1) Qq.zero=y):=by rw [hyk,show n - 1+1=n by omega];exact rfl
      clear hxk hyk hA hA'
      have c0:=hc 0 _ rfl
      have d0:=hc' 0 _ rfl
      simp only [Nat.add_zero] at c0 d0
      clear hc hc'
      have i0: (0:Int)<=(n:Int) - 1:=by omega
      have i1: (n:Int) - 1 < (l.length:Int):=by omega
      cases hbl:Op.bytesLess x.name.toList y.name.toList
      ·go_wp2
       go_region
       all_goals
        go_wp2
        go_ret
        exact ⟨⟨3,rfl,Or.inr (Or.inr (Or.inl ⟨by omega,HB.out,⟨n - 1,by omega,by unfold FallsAt;rw [HX.out,HYK.out];exact hbl⟩,rfl⟩))⟩,k0.trans (by repeat (first | apply K_.drew | exact hw))⟩
      ·go_wp2
       go_region
       all_goals
        go_wp2
        go_roundw
        case rel=>
         refine ⟨n+1,by omega,by omega,by go_num,by repeat (first | apply K_.drew | exact hw),fun j hj=> ?_⟩
         by_cases e:j=n - 1
         ·subst e
          unfold FallsAt
          rw [HX.out,HYK.out,hbl]
          simp
         ·exact HG.out j (by omega)
        case measure=> simp [intOf];omega
     ·have HC:Hid (¬SomeFalls l):=fun ⟨i,hi,h⟩=> HG.out i (by omega) h
      clear HG
      go_wp2
      clear hc1 hf1 hz1
      go_loopw [5] (fun i wr'=> ∃k:Nat,k<=l.length∧i= .int .i64 k∧K_ (w.alloc (.cells #[.slice a l.length cap] 37)) wr'∧NoneN l BadMade k) (fun i _=> l.length - (intOf i).toNat)
      case atStart=> exact ⟨0,Nat.zero_le _,rfl,hw,fun j hj=> absurd hj (Nat.not_lt_zero _)⟩
      case round=>
       clear hw hlt
       obtain ⟨k,hk,rfl,hw,hg⟩:=hrel
       have HG:=Kz hg
       clear hg
       obtain ⟨hc1,hf1⟩:=hw.rules
       have hz1:=hw.size
       simp only [World.size_alloc] at hz1
       by_cases hlt:k < l.length
       ·obtain ⟨b,o,cs,rfl,hb,hc,aa,ca,rfl,hA⟩:= (hS.kept k0).kept hw k hlt
        have hsz:=hs (l.getD k Qq.zero) (by simp [List.getD,hlt])
        obtain ⟨d,hdk⟩: ∃d,d=l.getD k Qq.zero:= ⟨_,rfl⟩
        rw [<-hdk] at hc hsz hA
        have HDK:=Kz hdk
        clear hdk
        have c0:=hc 0 _ rfl
        have c1:=hc 1 _ rfl
        have c2:=hc 2 _ rfl
        simp only [Nat.add_zero] at c0
        clear hc
        go_wp2_with fail
        refine (specValidAction_any _ d.cost aa ca d.steps hsz.steps hsz.each hA).mono ?_
        rintro e w1 ⟨hsay,hw1⟩
        have hw2:=hw.trans hw1
        clear hw hw1 c0 c1 c2 hA hc1 hf1
        rcases hsay.cases with ⟨rfl,hyes⟩ | ⟨rfl,hno⟩
        ·have HY:=Kz hyes
         clear hyes hsay
         go_wp2
         go_roundw
         case rel=>
          refine ⟨k+1,by omega,by go_num,hw2,fun j hj=> ?_⟩
          by_cases e:j=k
          ·subst e
           rw [<-HDK.out]
           exact fun h=> h HY.out
          ·exact HG.out j (by omega)
         case measure=> simp [intOf];omega
        ·have HN:=Kz hno
         clear hno hsay
         go_wp2
         go_ret
         exact ⟨⟨4,rfl,Or.inr (Or.inr (Or.inr (Or.inl ⟨by omega,HB.out,HC.out,⟨k,hlt,by rw [<-HDK.out];exact HN.out⟩,rfl⟩)))⟩,k0.trans hw2⟩
       ·go_wp2
        go_ret
        exact ⟨⟨0,rfl,Or.inr (Or.inr (Or.inr (Or.inr ⟨by omega,HB.out,HC.out,fun ⟨i,hi,h⟩=> HG.out i (by omega) h,rfl⟩)))⟩,k0.trans hw⟩
def Packed (w:World) (cs:List Value) (l:List Qq):Prop:=
 cs.length=l.length * 3∧(∀u∈cs,u.oneCell'=true)∧∀i,i < l.length->∃a cap,Steps w a (l.getD i Qq.zero).steps∧∀t v,((l.getD i Qq.zero).cells a cap)[t]? =some v->cs[i * 3+t]? =some v
theorem Packed.nil (w:World):Packed w [] []:= ⟨rfl,(fun u hu=> by cases hu),(fun i hi=> by simp at hi)⟩
theorem Packed.kept {w w':World} {cs:List Value} {l:List Qq} (h:Packed w cs l) (k:K_ w w'):Packed w' cs l:=
 ⟨h.1,h.2.1,fun i hi=> by obtain ⟨a,cap,h1,h2⟩:=h.2.2 i hi;exact ⟨a,cap,h1.kept k,h2⟩⟩
theorem Packed.append {w:World} {c1 c2:List Value} {l1 l2:List Qq} (h1:Packed w c1 l1) (h2:Packed w c2 l2):Packed w (c1++c2) (l1++l2):=by
 refine ⟨by rw [List.length_append,List.length_append,h1.1,h2.1,Nat.add_mul],fun u hu=> ?_,fun i hi=> ?_⟩
 ·rcases List.mem_append.1 hu with h | h
  ·exact h1.2.1 u h
  ·exact h2.2.1 u h
 ·by_cases hlt:i < l1.length
  ·have e: (l1++l2).getD i Qq.zero=l1.getD i Qq.zero:=by simp [List.getD,List.getElem?_append_left hlt]
   rw [e]
   obtain ⟨a,cap,g1,g2⟩:=h1.2.2 i hlt
   refine ⟨a,cap,g1,fun t v hv=> ?_⟩
   have:=g2 t v hv
   rw [List.getElem?_append_left (List.getElem?_eq_some_iff.1 this).1]
   exact this
  ·have hi2:i - l1.length < l2.length:=by rw [List.length_append] at hi;omega
   have e: (l1++l2).getD i Qq.zero=l2.getD (i - l1.length) Qq.zero:=by simp [List.getD,List.getElem?_append_right (by omega:l1.length<=i)]
   rw [e]
   obtain ⟨a,cap,g1,g2⟩:=h2.2.2 _ hi2
   refine ⟨a,cap,g1,fun t v hv=> ?_⟩
   have:=g2 t v hv
   rw [List.getElem?_append_right (by rw [h1.1];omega),h1.1]
   have e2:i * 3+t - l1.length * 3= (i - l1.length) * 3+t:=by omega
   rw [e2]
   exact this
theorem conv1 (W:World) (c:UInt8) (cap:Nat): (convert 166 9 (.slice (some ⟨W.heap.size,0,none⟩) 1 cap)).run Tryz.prog (W.alloc (.cells #[.int .u8 (c.toNat:Int)] 5))= .ok (.string ⟨#[c]⟩) (W.alloc (.cells #[.int .u8 (c.toNat:Int)] 5)):=
 run_convert_bytes_back (P:=Tryz.prog) _ 166 9 5 ⟨W.heap.size,0,none⟩ cap [c] Tryz.underlying166 Tryz.underlying5 Tryz.underlying9 (fun i hi=> by
  obtain rfl:i=0:=by simpa using hi
  simp [Addr.add])
theorem cons_ba (c:UInt8) (l:List UInt8): (⟨#[c]⟩:ByteArray)++ ⟨l.toArray⟩= ⟨(c :: l).toArray⟩:=by
 have:=ByteArray.mk_append_mk [c] l
 simpa using this
theorem digit_u8 (m:Nat): ((UInt8.ofNat (48+m % 10)).toNat:Int)=48+ (m:Int) % 10:=by
 have: (UInt8.ofNat (48+m % 10)).toNat=48+m % 10:=by
  rw [UInt8.toNat_ofNat']
  omega
 rw [this];omega
theorem markText_any (w:World) (k:Nat) (h0:0 < k) (h1:k<=4611686018427387904):
  Calls Tryz.prog 38 #[.int .i64 k] w fun e w'=> e= .returned (.string (mtext k))∧K_ w w':=by
 go_enter Tryz.func38,Tryz.ntmps38
 go_wp2
 go_loopw [0,3] (fun x y wr=> ∃(m:Nat) (l:List UInt8),m<=k∧x= .int .i64 m∧y= .string ⟨l.toArray⟩∧mdig m l=mdig k []∧l.length+m<=4611686018427387904∧K_ w wr) (fun x _ _=> (intOf x).toNat)
 case atStart=> exact ⟨k,[],Nat.le_refl _,rfl,rfl,rfl,by simpa using h1,K_.refl _⟩
 case round=>
  obtain ⟨m,l,hm,rfl,rfl,hd,hlen,hw⟩:=hrel
  have HD:=Kz hd
  clear hd
  have hls: (⟨l.toArray⟩:ByteArray).size=l.length:=rfl
  by_cases hp: (0:Int) < m
  ·obtain ⟨c,hcd⟩: ∃c:UInt8,c=UInt8.ofNat (48+m % 10):= ⟨_,rfl⟩
   have hc:=conv1 wr c 1
   have hcn: (c.toNat:Int)=48+ (m:Int) % 10:=by rw [hcd];exact digit_u8 m
   rw [hcn] at hc
   have HC:=Kz hcd
   clear hcd hcn
   go_wp2
   go_roundw
   case rel=>
    refine ⟨m / 10,c :: l,by omega,by go_num,by rw [cons_ba], ?_,by simp;omega,hw.alloc _⟩
    rw [<-HD.out,mdig_pos (by omega:0 < m),HC.out]
   case measure=> simp [intOf];omega
  ·have hm0:m=0:=by omega
   subst hm0
   rw [mdig_zero] at HD
   go_wp2
   go_ret
   refine ⟨?_,hw⟩
   unfold mtext
   rw [<-HD.out,<-cons_ba]
   rfl
theorem markAt (k j:Nat) (h0:0 < k) (h1:k+j<=4611686018427387904): ∃s,s=mtext (k+j)∧∀W,Calls Tryz.prog 38 #[.int .i64 ((k:Int)+ (j:Int))] W fun e w'=> e= .returned (.string s)∧K_ W w':=
 ⟨_,rfl,fun W=> by
  have e0: (k:Int)+ (j:Int)= ((k+j:Nat):Int):=by omega
  rw [e0]
  exact markText_any W (k+j) (by omega) h1⟩
theorem markStringS_any (w:World) (lo hi:Nat) (a:Option Addr) (cap:Nat) (l:List ByteArray) (k:Nat) (h0:0 < k) (h1:k+l.length<=4611686018427387904) (hS:StrsIn w lo hi a l):
  Calls Tryz.prog 14 #[.slice a l.length cap,.int .i64 k] w fun e w'=> e= .returned (.int .i64 ((k+l.length:Nat):Int))∧StrsIn w' lo hi a (markStrs l k)∧Xk lo hi w w':=by
 rcases hS with rfl | ⟨B,rfl,hlo,hhi,hr,hf⟩
 ·go_enter Tryz.func14,Tryz.ntmps14
  go_wp2
  go_loopw [1,5] (fun x i wr=> x= .int .i64 k∧i= .int .i64 0∧wr=w) (fun _ _ _=> 0)
  case atStart=> exact ⟨rfl,rfl,rfl⟩
  case round=>
   obtain ⟨rfl,rfl,rfl⟩:=hrel
   go_wp2
   go_ret
   exact ⟨by simp,.inl rfl,Xk.refl _ _ _⟩
 ·go_enter Tryz.func14,Tryz.ntmps14
  go_wp2
  go_loopw [1,5] (fun x i wr=> ∃j:Nat,j<=l.length∧i= .int .i64 j∧x= .int .i64 ((k:Int)+j)∧Xk lo hi w wr∧Row wr B l.length∧∀t,t < j->wr.cell? ⟨B,t,none⟩=some (.string (mtext (k+t)))) (fun _ i _=> l.length - (intOf i).toNat)
  case atStart=> exact ⟨0,Nat.zero_le _,rfl,by simp,Xk.refl _ _ _,hr,fun t ht=> absurd ht (Nat.not_lt_zero _)⟩
  case round=>
   obtain ⟨j,hj,rfl,rfl,hw,hr',hf'⟩:=hrel
   clear hr hf
   have HR:=Kz hr'
   have HF:=Kz hf'
   clear hf'
   by_cases hlt:j < l.length
   ·have hrl:=hr'.lt
    have HM:Hid (∃s,s=mtext (k+j)∧∀W,Calls Tryz.prog 38 #[.int .i64 ((k:Int)+ (j:Int))] W fun e w'=> e= .returned (.string s)∧K_ W w'):=markAt k j h0 (by omega)
    obtain ⟨s,hs,hm⟩:=HM.out
    have HS:=Kz hs
    have HM1:=Kz hm
    clear hs hm HM
    go_wp2_with fail
    refine (HM1.out _).mono ?_
    rintro e w1 ⟨rfl,k1⟩
    have hr1:=HR.out.kept k1
    have HR1:=Kz hr1
    have HF1:Hid (∀t,t < j->w1.cell? ⟨B,t,none⟩=some (.string (mtext (k+t)))):=fun t ht=> by rw [k1.cell hrl];exact HF.out t ht
    obtain ⟨⟨old,hcell⟩,hfroz⟩:=hr1.at hlt
    have hw1:=hw.trans (.of_kept k1)
    clear HR HF hr' hr1 hw
    go_wp2
    go_roundw
    case rel=>
     refine ⟨j+1,by omega,by go_num,by go_num,hw1.setCell hlo hhi _,HR1.out.set _ rfl _,fun t ht=> ?_⟩
     by_cases e:t=j
     ·subst e
      rw [World.cell?_setCell_same _ _ _ hcell,HS.out]
     ·rw [World.cell?_setCell_other _ _ _ _ (by simp <;> omega)]
      exact HF1.out t (by omega)
    case measure=> simp [intOf];omega
   ·have:j=l.length:=by omega
    subst this
    go_wp2
    go_ret
    refine ⟨ret_int (by omega),.inr ⟨B,rfl,hlo,hhi,by rw [markStrs_length];exact HR.out,fun i hi'=> ?_⟩,hw⟩
    rw [markStrs_length] at hi'
    rw [markStrs_getD _ _ _ hi']
    exact HF.out i hi'
theorem heldStringS_yes (w:World) (a:Option Addr) (cap:Nat) (l:List ByteArray) (k:Nat) (h0:0 < k) (h1:k+l.length<=4611686018427387904) (hS:Strs w a (markStrs l k)):
  Calls Tryz.prog 94 #[.slice a l.length cap,.int .i64 k] w fun e w'=> e= .returned (.int .i64 ((k+l.length:Nat):Int))∧K_ w w':=by
 go_enter Tryz.func94,Tryz.ntmps94
 go_wp2
 go_loopw [1,5] (fun x i wr=> ∃j:Nat,j<=l.length∧i= .int .i64 j∧x= .int .i64 ((k:Int)+j)∧K_ w wr) (fun _ i _=> l.length - (intOf i).toNat)
 case atStart=> exact ⟨0,Nat.zero_le _,rfl,by simp,K_.refl _⟩
 case round=>
  obtain ⟨j,hj,rfl,rfl,hw⟩:=hrel
  by_cases hlt:j < l.length
  ·obtain ⟨b,o,rfl,hb,hc⟩:=hS j (by rw [markStrs_length];exact hlt)
   rw [markStrs_getD _ _ _ hlt] at hc
   have hbr:b < wr.heap.size:=Nat.lt_of_lt_of_le hb hw.size
   have hcr:wr.cell? ⟨b,o+j,none⟩=some (.string (mtext (k+j))):=by rw [hw.cell hb];exact hc
   clear hc
   obtain ⟨s,hs,hm⟩:=markAt k j h0 (by omega)
   rw [<-hs] at hcr
   have HM1:=Kz hm
   clear hs hm
   go_wp2
   go_region_with (go_at_call 38;refine (HM1.out _).mono ?_;rintro e w1 ⟨rfl,k1⟩;have kk:K_ wr w1:=K_.trans (by repeat (first | apply K_.drew | exact K_.refl _)) k1;have hc1:= (kk.cell hbr).trans hcr)
   all_goals
    go_wp2
    go_roundw
    case rel=> exact ⟨j+1,by omega,by go_num,by go_num,by repeat (first | exact hw.trans kk | apply K_.drew)⟩
    case measure=> simp [intOf];omega
  ·have:j=l.length:=by omega
   subst this
   go_wp2
   go_ret
   exact ⟨ret_int (by omega),hw⟩
theorem markM (m:Nat) (h0:0 < m) (h1:m<=4611686018427387904): ∃s,s=mtext m∧∀W,Calls Tryz.prog 38 #[.int .i64 (m:Int)] W fun e w'=> e= .returned (.string s)∧K_ W w':=
 ⟨_,rfl,fun W=> markText_any W m h0 h1⟩
theorem range2 {w:World} {b o:Nat} {x y:Value} (h0:w.cell? ⟨b,o,none⟩=some x) (h1:w.cell? ⟨b,o+1,none⟩=some y):w.rangeAt b o [x,y]:=by
 intro i v hv
 match i,hv with
 | 0,hv=> simp at hv;subst hv;exact h0
 | 1,hv=> simp at hv;subst hv;exact h1
 | i+2,hv=> simp at hv
theorem two_set {w:World} {b o:Nat} {x y old old1:Value} (h0:w.cell? ⟨b,o,none⟩=some old) (h1:w.cell? ⟨b,o+1,none⟩=some old1): ((w.setCell ⟨b,o,none⟩ x).setCell ⟨b,o+1,none⟩ y).rangeAt b o [x,y]:=by
 have h2: (w.setCell ⟨b,o,none⟩ x).cell? ⟨b,o+1,none⟩=some old1:=by rw [World.cell?_setCell_other _ _ _ _ (by simp)];exact h1
 refine range2 ?_ ?_
 ·rw [World.cell?_setCell_other _ _ _ _ (by simp),World.cell?_setCell_same _ _ _ h0]
 ·rw [World.cell?_setCell_same _ _ _ h2]
theorem markCaseS_any (w:World) (lo hi:Nat) (a:Option Addr) (cap:Nat) (l:List CaseD) (k:Nat) (h0:0 < k) (h1:k+l.length * 2<=4611686018427387904) (hS:CasesIn w lo hi a l):
  Calls Tryz.prog 137 #[.slice a l.length cap,.int .i64 k] w fun e w'=> e= .returned (.int .i64 ((k+l.length * 2:Nat):Int))∧CasesIn w' lo hi a (markCases l k)∧Xk lo hi w w':=by
 rcases hS with rfl | ⟨B,rfl,hlo,hhi,hr,hf⟩
 ·go_enter Tryz.func137,Tryz.ntmps137
  go_wp2
  go_loopw [1,5] (fun x i wr=> x= .int .i64 k∧i= .int .i64 0∧wr=w) (fun _ _ _=> 0)
  case atStart=> exact ⟨rfl,rfl,rfl⟩
  case round=>
   obtain ⟨rfl,rfl,rfl⟩:=hrel
   go_wp2
   go_ret
   exact ⟨by simp,.inl rfl,Xk.refl _ _ _⟩
 ·go_enter Tryz.func137,Tryz.ntmps137
  go_wp2
  go_loopw [1,5] (fun x i wr=> ∃j m:Nat,j<=l.length∧i= .int .i64 j∧x= .int .i64 m∧m=k+j * 2∧Xk lo hi w wr∧Row wr B (l.length * 2)∧∀t,t < j->wr.rangeAt B (t * 2) (markCase (k+t * 2)).cells) (fun _ i _=> l.length - (intOf i).toNat)
  case atStart=> exact ⟨0,k,Nat.zero_le _,rfl,rfl,by omega,Xk.refl _ _ _,hr,fun t ht=> absurd ht (Nat.not_lt_zero _)⟩
  case round=>
   obtain ⟨j,m,hj,rfl,rfl,hm,hw,hr',hf'⟩:=hrel
   clear hr hf
   have HR:=Kz hr'
   have HF:=Kz hf'
   have HMn:=Kz hm
   by_cases hlt:j < l.length
   ·have hrl:=hr'.lt
    have hm2:m+2<=4611686018427387904:=by omega
    obtain ⟨s,hs,hmt⟩:=markM m (by omega) (by omega)
    have HS:=Kz hs
    have HM1:=Kz hmt
    clear hs hmt hf' hm
    go_wp2_with fail
    refine (HM1.out _).mono ?_
    rintro e w1 ⟨rfl,k1⟩
    have hr1:=HR.out.kept k1
    have HR1:=Kz hr1
    have HF1:Hid (∀t,t < j->w1.rangeAt B (t * 2) (markCase (k+t * 2)).cells):=fun t ht=> k1.range hrl (HF.out t ht)
    obtain ⟨⟨old,hcell⟩,hfroz⟩:=hr1.at (i:=j * 2) (by omega)
    obtain ⟨⟨old1,hcell1⟩,hfroz1⟩:=hr1.at (i:=j * 2+1) (by omega)
    have hw1:=hw.trans (.of_kept k1)
    clear HR HF hr' hr1 hw
    go_wp2
    go_roundw
    case rel=>
     refine ⟨j+1,m+2,by omega,by go_num,by go_num,by have:=HMn.out;omega,(hw1.setCell hlo hhi _).setCell hlo hhi _,(HR1.out.set _ rfl _).set _ rfl _,fun t ht=> ?_⟩
     by_cases e:t=j
     ·subst e
      have e1:markCase (k+t * 2)= ⟨s,((m+1:Nat):Int)⟩:=by unfold markCase;rw [<-HMn.out,HS.out]
      rw [e1]
      exact two_set hcell hcell1
     ·intro i v hv
      have hi2:i < 2:=by have:= (List.getElem?_eq_some_iff.1 hv).1;simpa [CaseD.cells] using this
      rw [World.cell?_setCell_other _ _ _ _ (by simp <;> omega),World.cell?_setCell_other _ _ _ _ (by simp <;> omega)]
      exact HF1.out t (by omega) i v hv
    case measure=> simp [intOf];omega
   ·have:j=l.length:=by omega
    subst this
    go_wp2
    go_ret
    refine ⟨ret_int (by have:=HMn.out;omega),.inr ⟨B,rfl,hlo,hhi,by rw [markCases_length];exact HR.out,fun i hi'=> ?_⟩,hw⟩
    rw [markCases_length] at hi'
    rw [markCases_getD _ _ _ hi']
    exact HF.out i hi'
structure Turn (B p q lo hi:Nat) (w w':World):Prop where
 os:w'.os=w.os
 tape:w'.tape=w.tape
 output:w'.output=w.output
 size:w.heap.size<=w'.heap.size
 block: ∀k,k < w.heap.size->k≠B->(k < lo∨hi<=k)->w'.heap[k]? =w.heap[k]?
 cell: ∀o,(o < p∨q<=o)->w'.cell? ⟨B,o,none⟩=w.cell? ⟨B,o,none⟩
theorem Turn.refl (B p q lo hi:Nat) (w:World):Turn B p q lo hi w w:= ⟨rfl,rfl,rfl,Nat.le_refl _,fun _ _ _ _=> rfl,fun _ _=> rfl⟩
theorem Turn.but {B p q lo hi l2 h2:Nat} {a b c:World} (h:Turn B p q lo hi a b) (k:Xk l2 h2 b c) (h1:lo<=l2) (h3:h2<=hi) (hB:B < l2∨h2<=B) (hs:B < b.heap.size):Turn B p q lo hi a c:=
 ⟨k.os.trans h.os,k.tape.trans h.tape,k.output.trans h.output,Nat.le_trans h.size k.size,
  fun i hi' hn ho=> (k.block i (Nat.lt_of_lt_of_le hi' h.size) (by omega)).trans (h.block i hi' hn ho),
  fun o ho=> (World.cell?_of_block (w:=b) (k.block B hs hB)).trans (h.cell o ho)⟩
theorem Turn.kept {B p q lo hi:Nat} {a b c:World} (h:Turn B p q lo hi a b) (k:K_ b c) (hs:B < b.heap.size):Turn B p q lo hi a c:=
 ⟨k.os.trans h.os,k.tape.trans h.tape,k.output.trans h.output,Nat.le_trans h.size k.size,
  fun i hi' hn ho=> (k.block i (Nat.lt_of_lt_of_le hi' h.size)).trans (h.block i hi' hn ho),
  fun o ho=> (k.cell hs).trans (h.cell o ho)⟩
theorem Turn.drew {B p q lo hi:Nat} {a b:World} (h:Turn B p q lo hi a b):Turn B p q lo hi a b.drew:= ⟨h.os,h.tape,h.output,h.size,h.block,h.cell⟩
theorem Turn.setCell {B p q lo hi o:Nat} {a b:World} (h:Turn B p q lo hi a b) (h1:p<=o) (h2:o < q) (v:Value):Turn B p q lo hi a (b.setCell ⟨B,o,none⟩ v):=
 ⟨h.os,h.tape,h.output,by rw [size_setCell];exact h.size,fun k hk hn ho=> by rw [Below.heap_setCell _ _ _ _ hn];exact h.block k hk hn ho,
  fun t ht=> by rw [World.cell?_setCell_other _ _ _ _ (by simp <;> omega)];exact h.cell t ht⟩
theorem Turn.same {B p q lo hi l2 h2:Nat} {w w':World} (h:Turn B p q lo hi w w') (hd:h2<=lo∨hi<=l2) (hB:B < l2∨h2<=B):Same l2 h2 w w':=
 fun b h1 h2' hs=> h.block b hs (by omega) (by omega)
theorem Turn.keptBut {B p q lo hi l2 h2:Nat} {w w':World} (h:Turn B p q lo hi w w') (h1:l2<=lo) (h3:hi<=h2) (hB:l2<=B) (hB2:B < h2):Xk l2 h2 w w':=
 ⟨h.os,h.tape,h.output,h.size,fun k hk ho=> h.block k hk (by omega) (by omega)⟩
theorem Turn.range {B p q lo hi o:Nat} {w w':World} {cs:List Value} (h:Turn B p q lo hi w w') (ho:o+cs.length<=p∨q<=o) (hr:w.rangeAt B o cs):w'.rangeAt B o cs:=by
 intro i v hv
 have hi':= (List.getElem?_eq_some_iff.1 hv).1
 rw [h.cell (o+i) (by omega)]
 exact hr i v hv
theorem range8 {w:World} {b o:Nat} {x0 x1 x2 x3 x4 x5 x6 x7:Value} (h0:w.cell? ⟨b,o,none⟩=some x0) (h1:w.cell? ⟨b,o+1,none⟩=some x1) (h2:w.cell? ⟨b,o+2,none⟩=some x2) (h3:w.cell? ⟨b,o+3,none⟩=some x3)
  (h4:w.cell? ⟨b,o+4,none⟩=some x4) (h5:w.cell? ⟨b,o+5,none⟩=some x5) (h6:w.cell? ⟨b,o+6,none⟩=some x6) (h7:w.cell? ⟨b,o+7,none⟩=some x7):w.rangeAt b o [x0,x1,x2,x3,x4,x5,x6,x7]:=by
 intro i v hv
 match i,hv with
 | 0,hv=> simp at hv;subst hv;exact h0
 | 1,hv=> simp at hv;subst hv;exact h1
 | 2,hv=> simp at hv;subst hv;exact h2
 | 3,hv=> simp at hv;subst hv;exact h3
 | 4,hv=> simp at hv;subst hv;exact h4
 | 5,hv=> simp at hv;subst hv;exact h5
 | 6,hv=> simp at hv;subst hv;exact h6
 | 7,hv=> simp at hv;subst hv;exact h7
 | i+8,hv=> simp at hv
theorem range3 {w:World} {b o:Nat} {x0 x1 x2:Value} (h0:w.cell? ⟨b,o,none⟩=some x0) (h1:w.cell? ⟨b,o+1,none⟩=some x1) (h2:w.cell? ⟨b,o+2,none⟩=some x2):w.rangeAt b o [x0,x1,x2]:=by
 intro i v hv
 match i,hv with
 | 0,hv=> simp at hv;subst hv;exact h0
 | 1,hv=> simp at hv;subst hv;exact h1
 | 2,hv=> simp at hv;subst hv;exact h2
 | i+3,hv=> simp at hv
theorem four_set {w:World} {b n o:Nat} (h:Row w b n) (ho:o+7 < n) (v3 v4 v5 v6:Value): ∃W,W= (((w.setCell ⟨b,o+3,none⟩ v3).setCell ⟨b,o+4,none⟩ v4).setCell ⟨b,o+5,none⟩ v5).setCell ⟨b,o+6,none⟩ v6∧Row W b n∧
  W.cell? ⟨b,o,none⟩=w.cell? ⟨b,o,none⟩∧W.cell? ⟨b,o+1,none⟩=w.cell? ⟨b,o+1,none⟩∧W.cell? ⟨b,o+2,none⟩=w.cell? ⟨b,o+2,none⟩∧W.cell? ⟨b,o+3,none⟩=some v3∧W.cell? ⟨b,o+4,none⟩=some v4∧W.cell? ⟨b,o+5,none⟩=some v5∧W.cell? ⟨b,o+6,none⟩=some v6:=by
 have r1:=h.set ⟨b,o+3,none⟩ rfl v3
 have r2:=r1.set ⟨b,o+4,none⟩ rfl v4
 have r3:=r2.set ⟨b,o+5,none⟩ rfl v5
 refine ⟨_,rfl,r3.set _ rfl _, ?_, ?_, ?_, ?_, ?_, ?_, ?_⟩
 ·rw [Xx (by omega),Xx (by omega),Xx (by omega),Xx (by omega)]
 ·rw [Xx (by omega),Xx (by omega),Xx (by omega),Xx (by omega)]
 ·rw [Xx (by omega),Xx (by omega),Xx (by omega),Xx (by omega)]
 ·rw [Xx (by omega),Xx (by omega),Xx (by omega)];exact set_hit h (by omega) _
 ·rw [Xx (by omega),Xx (by omega)];exact set_hit r1 (by omega) _
 ·rw [Xx (by omega)];exact set_hit r2 (by omega) _
 ·exact set_hit r3 (by omega) _
theorem mod3 (m d:Nat) (z:Int) (h:z= ((m+d:Nat):Int)): (z % 3 == 0)=decide ((m+d) % 3=0):=by
 subst h
 rw [Bool.eq_iff_iff]
 simp
 omega
def stepMix (l:List Xj) (k j t:Nat):Xj:=if t < j then markStep (l.getD t Xj.zero) (k+sumTo cntStep l t) else l.getD t Xj.zero
theorem len_le_cnt (l:List Xj):l.length<=(l.map cntStep).sum:=by
 induction l with
 | nil=> simp
 | cons s r ih=>
  simp only [List.length_cons,List.map_cons,List.sum_cons]
  have:6<=cntStep s:=by unfold cntStep;omega
  omega
theorem markStep_cells (s:Xj) (k:Nat) (aa:Option Addr) (ca:Nat) (ac:Option Addr) (cc:Nat): (markStep s k).cells aa ca ac cc=
  [.slice aa s.asks.length ca,.int .i64 ((k+s.asks.length:Nat):Int),.slice ac s.cases.length cc,.int .i64 ((k+s.asks.length+1+s.cases.length * 2:Nat):Int),.int .i64 ((k+s.asks.length+1+s.cases.length * 2+1:Nat):Int),
   .bool (decide ((k+s.asks.length+1+s.cases.length * 2+2) % 3=0)),.bool (decide ((k+s.asks.length+1+s.cases.length * 2+3) % 3=0)),.string (mtext (k+s.asks.length+1+s.cases.length * 2+4))]:=by
 simp [markStep,Xj.cells,markStrs_length,markCases_length]
theorem markStepS_any (w:World) (lo hi:Nat) (a:Option Addr) (cap:Nat) (l:List Xj) (k:Nat) (h0:0 < k) (h1:k+ (l.map cntStep).sum<=4611686018427387904) (hS:StepsIn w lo hi a l):
  Calls Tryz.prog 91 #[.slice a l.length cap,.int .i64 k] w fun e w'=> e= .returned (.int .i64 ((k+ (l.map cntStep).sum:Nat):Int))∧StepsIn w' lo hi a (markSteps l k)∧Xk lo hi w w':=by
 have hlen:=len_le_cnt l
 rcases hS with rfl | ⟨B,c,rfl,hlo,hBc,hhi,hr,hmono,hf⟩
 ·go_enter Tryz.func91,Tryz.ntmps91
  go_wp2
  go_loopw [1,5] (fun x i wr=> x= .int .i64 k∧i= .int .i64 0∧wr=w) (fun _ _ _=> 0)
  case atStart=> exact ⟨rfl,rfl,rfl⟩
  case round=>
   obtain ⟨rfl,rfl,rfl⟩:=hrel
   go_wp2
   go_ret
   exact ⟨by simp,.inl rfl,Xk.refl _ _ _⟩
 ·have HMono:=Kz hmono
  clear hmono
  go_enter Tryz.func91,Tryz.ntmps91
  go_wp2
  go_loopw [1,5] (fun x i wr=> ∃j m:Nat,j<=l.length∧i= .int .i64 j∧x= .int .i64 m∧m=k+sumTo cntStep l j∧Xk lo hi w wr∧Row wr B (l.length * 8)∧∀t,t < l.length->StepIn wr B t (c t) (c (t+1)) (stepMix l k j t)) (fun _ i _=> l.length - (intOf i).toNat)
  case atStart=> exact ⟨0,k,Nat.zero_le _,rfl,rfl,by rw [sumTo_zero];omega,Xk.refl _ _ _,hr,fun t ht=> by simpa [stepMix] using hf t ht⟩
  case round=>
   obtain ⟨j,m,hj,rfl,rfl,hm,hw,hr',hf'⟩:=hrel
   clear hr hf
   have HMn:=Kz hm
   have HF:=Kz hf'
   by_cases hlt:j < l.length
   ·have hst:=hf' j hlt
    have hmix:stepMix l k j j=l.getD j Xj.zero:=by simp [stepMix]
    rw [hmix] at hst
    have hsum:=sumTo_succ cntStep l Xj.zero j hlt
    have hsl:=sumTo_le cntStep l (j+1)
    obtain ⟨aa,ca,ac,cc,mid,g1,g2,g3,g4,g5,g6⟩:=hst
    obtain ⟨s,hsd⟩: ∃s,s=l.getD j Xj.zero:= ⟨_,rfl⟩
    rw [<-hsd] at g3 g4 g5 g6 hsum
    have hcnt:m+cntStep s<=4611686018427387904:=by omega
    have hm0:0 < m:=by omega
    have hcs:cntStep s=s.asks.length+s.cases.length * 2+6:=rfl
    have HSd:=Kz hsd
    have HSum:=Kz hsum
    clear hf' hmix hsd hm hsum hsl
    have hBj:B < c j:=Nat.lt_of_lt_of_le hBc (HMono.out 0 j (Nat.zero_le _))
    have hBs:=hr'.lt
    have c0:=g3 0 _ rfl
    have c2:=g3 2 _ rfl
    rw [Nat.add_zero] at c0
    have HG5:=Kz g5
    go_wp2_with fail
    refine (markStringS_any _ (c j) mid aa ca s.asks m (by omega) (by omega) g4).mono ?_
    rintro e w1 ⟨rfl,hA1,kb1⟩
    obtain ⟨m1,hm1⟩: ∃m1,m1=m+s.asks.length:= ⟨_,rfl⟩
    rw [<-hm1]
    have hb1:m1+s.cases.length * 2+6<=4611686018427387904:=by omega
    have HM1:=Kz hm1
    clear hm1 hcnt hcs
    have t1:= (Turn.refl B (j * 8) (j * 8+8) (c j) (c (j+1)) wr).but kb1 (Nat.le_refl _) g2 (.inl hBj) hBs
    have hr1:Row w1 B (l.length * 8):= (kb1.same (l2:=B) (h2:=B+1) (by omega)).row (Nat.le_refl _) (by omega) hr'
    have s1:=kb1.same (l2:=B) (h2:=B+1) (by omega)
    have d0:= (s1.cell (o:=j * 8) (Nat.le_refl _) (by omega) hBs).trans c0
    have d2:= (s1.cell (o:=j * 8+2) (Nat.le_refl _) (by omega) hBs).trans c2
    obtain ⟨⟨_,f1c⟩,f1⟩:=hr1.at (i:=j * 8+1) (by omega)
    have HA1:=Kz hA1
    have HC1:=Kz (HG5.out.same (kb1.same (l2:=mid) (h2:=c (j+1)) (by omega)))
    have hmc: ∀W,CasesIn W mid (c (j+1)) ac s.cases->Calls Tryz.prog 137 #[.slice ac s.cases.length cc,.int .i64 ((m1:Int)+1)] W fun e w'=> e= .returned (.int .i64 ((m1+1+s.cases.length * 2:Nat):Int))∧CasesIn w' mid (c (j+1)) ac (markCases s.cases (m1+1))∧Xk mid (c (j+1)) W w':=by
     intro W hW
     have:=markCaseS_any W mid (c (j+1)) ac cc s.cases (m1+1) (by omega) (by omega) hW
     rw [show ((m1+1:Nat):Int)= (m1:Int)+1 by omega] at this
     exact this
    have HMC:=Kz hmc
    clear c0 c2 hr' g4 g5 hA1 hmc kb1 s1
    go_wp2_with fail
    refine (HMC.out _ (HC1.out.same (Same.setCell _ (.inl (by show B < mid;omega)) _))).mono ?_
    rintro e w2 ⟨rfl,hC2,kb2⟩
    obtain ⟨m2,hm2⟩: ∃m2,m2=m1+1+s.cases.length * 2:= ⟨_,rfl⟩
    rw [<-hm2]
    have hb2:m2+5<=4611686018427387904:=by omega
    have HM2:=Kz hm2
    clear hm2 hb1
    have hBs1:B < w1.heap.size:=hr1.lt
    have t2:= (t1.setCell (o:=j * 8+1) (by omega) (by omega) (.int .i64 (m1:Int))).but kb2 g1 (Nat.le_refl _) (.inl (by omega)) (by rw [size_setCell];exact hBs1)
    have hr1':Row (w1.setCell ⟨B,j * 8+1,none⟩ (.int .i64 (m1:Int))) B (l.length * 8):=hr1.set _ rfl _
    have s2:=kb2.same (l2:=B) (h2:=B+1) (by omega)
    have hr2:Row w2 B (l.length * 8):=s2.row (Nat.le_refl _) (by omega) hr1'
    have e0:w2.cell? ⟨B,j * 8,none⟩=some (.slice aa s.asks.length ca):=by rw [s2.cell (Nat.le_refl _) (by omega) hr1'.lt,Xx (by omega)];exact d0
    have e1:w2.cell? ⟨B,j * 8+1,none⟩=some (.int .i64 (m1:Int)):=by rw [s2.cell (Nat.le_refl _) (by omega) hr1'.lt];exact set_hit hr1 (by omega) _
    have e2:w2.cell? ⟨B,j * 8+2,none⟩=some (.slice ac s.cases.length cc):=by rw [s2.cell (Nat.le_refl _) (by omega) hr1'.lt,Xx (by omega)];exact d2
    have HA2:=Kz ((HA1.out.same (Same.setCell _ (.inl (by show B < c j;omega)) _)).same (kb2.same (l2:=c j) (h2:=mid) (by omega)))
    have HC2:=Kz hC2
    obtain ⟨⟨_,f3c⟩,f3⟩:=hr2.at (i:=j * 8+3) (by omega)
    obtain ⟨⟨_,f4c⟩,f4⟩:=hr2.at (i:=j * 8+4) (by omega)
    obtain ⟨⟨_,f5c⟩,f5⟩:=hr2.at (i:=j * 8+5) (by omega)
    obtain ⟨⟨_,f6c⟩,f6⟩:=hr2.at (i:=j * 8+6) (by omega)
    have HT2:=Kz t2
    have HR2:=Kz hr2
    obtain ⟨txt,htx,hmt⟩: ∃txt,txt=mtext (m2+4)∧∀z:Int,z= ((m2+4:Nat):Int)->∀W,Calls Tryz.prog 38 #[.int .i64 z] W fun e w'=> e= .returned (.string txt)∧K_ W w':= ⟨_,rfl,fun z hz W=> by rw [hz];exact markText_any W _ (by omega) (by omega)⟩
    have HTX:=Kz htx
    have HMT:=Kz hmt
    clear htx
    have HE0:=Kz e0
    have HE1:=Kz e1
    have HE2:=Kz e2
    clear HC1 HMC hC2 kb2 hr1 hr1' t1 t2 s2 d0 d2 f1 f1c hmt e0 e1 e2 hr2 HA1
    go_wp2_with fail
    obtain ⟨W3,hW3,hR3,q0,q1,q2,q3,q4,q5,q6⟩:=four_set (o:=j * 8) HR2.out (by omega) (.int .i64 (m2:Int)) (.int .i64 ((m2:Int)+1)) (.bool (((m2:Int)+1+1) % 3 == 0)) (.bool (((m2:Int)+1+1+1) % 3 == 0))
    have t3:Turn B (j * 8) (j * 8+8) (c j) (c (j+1)) wr W3:=by
     rw [hW3]
     exact (((HT2.out.setCell (by omega) (by omega) _).setCell (by omega) (by omega) _).setCell (by omega) (by omega) _).setCell (by omega) (by omega) _
    have HA3:Hid (StrsIn W3 (c j) mid aa (markStrs s.asks m)):=by
     have hB':B < c j:=hBj
     rw [hW3]
     exact (((HA2.out.same (Same.setCell _ (.inl hB') _)).same (Same.setCell _ (.inl hB') _)).same (Same.setCell _ (.inl hB') _)).same (Same.setCell _ (.inl hB') _)
    have HC3:Hid (CasesIn W3 mid (c (j+1)) ac (markCases s.cases (m1+1))):=by
     have hB':B < mid:=by omega
     rw [hW3]
     exact (((HC2.out.same (Same.setCell _ (.inl hB') _)).same (Same.setCell _ (.inl hB') _)).same (Same.setCell _ (.inl hB') _)).same (Same.setCell _ (.inl hB') _)
    rw [<-hW3]
    rw [HE0.out] at q0
    rw [HE1.out] at q1
    rw [HE2.out] at q2
    rw [mod3 m2 2 _ (by omega)] at q5
    rw [mod3 m2 3 _ (by omega)] at q6
    clear hW3 HE0 HE1 HE2 HT2 HR2 HA2 HC2 f3 f3c f4 f4c f5 f5c f6 f6c
    refine (HMT.out _ (by omega) _).mono ?_
    rintro e w3 ⟨rfl,k3⟩
    have hB3:=hR3.lt
    have hR4:=hR3.kept k3
    have y0:= (k3.cell hB3).trans q0
    have y1:= (k3.cell hB3).trans q1
    have y2:= (k3.cell hB3).trans q2
    have y3:= (k3.cell hB3).trans q3
    have y4:= (k3.cell hB3).trans q4
    have y5:= (k3.cell hB3).trans q5
    have y6:= (k3.cell hB3).trans q6
    have t4:=t3.kept k3 hB3
    have HA4:=Kz (HA3.out.same (k3.same _ _))
    have HC4:=Kz (HC3.out.same (k3.same _ _))
    obtain ⟨⟨_,f7c⟩,f7⟩:=hR4.at (i:=j * 8+7) (by omega)
    have HR4:=Kz hR4
    have HT4:=Kz t4
    have HY:=Kz (And.intro y0 (And.intro y1 (And.intro y2 (And.intro y3 (And.intro y4 (And.intro y5 y6))))))
    clear q0 q1 q2 q3 q4 q5 q6 y0 y1 y2 y3 y4 y5 y6 hR3 hR4 t3 t4 HA3 HC3 k3 HMT
    go_wp2
    go_roundw
    case rel=>
     obtain ⟨y0,y1,y2,y3,y4,y5,y6⟩:=HY.out
     have tF:=HT4.out.setCell (o:=j * 8+7) (by omega) (by omega) (.string txt)
     refine ⟨j+1,m2+5,by omega,by go_num,by go_num,by have e1:=HMn.out;have e2:=HSum.out;have e3:=HM1.out;have e4:=HM2.out;have e5:cntStep s=s.asks.length+s.cases.length * 2+6:=rfl;omega,hw.trans (tF.keptBut (by omega) (by have:=HMono.out (j+1) l.length (by omega);omega) hlo (by have:=HMono.out 0 l.length (by omega);omega)),HR4.out.set _ rfl _,fun t ht=> ?_⟩
     by_cases e:t=j
     ·subst e
      have em:stepMix l k (t+1) t=markStep s m:=by
       unfold stepMix
       rw [if_pos (by omega),<-HSd.out,<-HMn.out]
      rw [em]
      have hB':B < c t:=hBj
      have hB2:B < mid:=by omega
      refine ⟨aa,ca,ac,cc,mid,g1,g2, ?_,HA4.out.same (Same.setCell _ (.inl hB') _), ?_,by rw [show (markStep s m).asks=markStrs s.asks m from rfl,markStrs_length];exact g6⟩
      ·rw [markStep_cells,<-HM1.out,<-HM2.out,<-HTX.out]
       refine range8 ?_ ?_ ?_ ?_ ?_ ?_ ?_ (set_hit HR4.out (by omega) _)
       ·rw [Xx (by omega)];exact y0
       ·rw [Xx (by omega)];exact y1
       ·rw [Xx (by omega)];exact y2
       ·rw [Xx (by omega)];exact y3
       ·rw [Xx (by omega)];exact y4
       ·rw [Xx (by omega)];exact y5
       ·rw [Xx (by omega)];exact y6
      ·rw [show (markStep s m).cases=markCases s.cases (m+s.asks.length+1) from rfl,<-HM1.out]
       exact HC4.out.same (Same.setCell _ (.inl hB2) _)
     ·have em:stepMix l k (j+1) t=stepMix l k j t:=by
       unfold stepMix
       by_cases h:t < j
       ·rw [if_pos h,if_pos (by omega)]
       ·rw [if_neg h,if_neg (by omega)]
      rw [em]
      have hBt:B < c t:=Nat.lt_of_lt_of_le hBc (HMono.out 0 t (Nat.zero_le _))
      obtain ⟨aa',ca',ac',cc',mid',z1,z2,z3,z4,z5,z6⟩:=HF.out t ht
      have hd:c (t+1)<=c j∨c (j+1)<=c t:=by
       by_cases h:t < j
       ·exact .inl (HMono.out _ _ (by omega))
       ·exact .inr (HMono.out _ _ (by omega))
      exact ⟨aa',ca',ac',cc',mid',z1,z2,tF.range (by simp [Xj.cells];omega) z3,z4.same (tF.same (by omega) (.inl hBt)),z5.same (tF.same (by omega) (.inl (by omega))),z6⟩
    case measure=> simp [intOf];omega
   ·have:j=l.length:=by omega
    subst this
    go_wp2
    go_ret
    refine ⟨ret_int (by have:=HMn.out;rw [sumTo_all] at this;omega),.inr ⟨B,c,rfl,hlo,hBc,by rw [markSteps_length];exact hhi,by rw [markSteps_length];exact hr',HMono.out,fun i hi'=> ?_⟩,hw⟩
    rw [markSteps_length] at hi'
    have:=HF.out i hi'
    rw [markSteps_getD _ _ _ hi']
    unfold stepMix at this
    rw [if_pos hi'] at this
    exact this
def NodeIn (w:World) (B j lo hi:Nat) (d:Qq):Prop:= ∃a cap,w.rangeAt B (j * 3) (d.cells a cap)∧StepsIn w lo hi a d.steps
def NodesIn (w:World) (lo hi:Nat) (a:Option Addr) (l:List Qq):Prop:=
 l=[]∨∃(b:Nat) (c:Nat->Nat),a=some ⟨b,0,none⟩∧lo<=b∧b < c 0∧c l.length<=hi∧Row w b (l.length * 3)∧(∀i j,i<=j->c i<=c j)∧∀i,i < l.length->NodeIn w b i (c i) (c (i+1)) (l.getD i Qq.zero)
theorem NodesIn.same {w w':World} {lo hi:Nat} {a:Option Addr} {l:List Qq} (h:NodesIn w lo hi a l) (k:Same lo hi w w'):NodesIn w' lo hi a l:=by
 rcases h with h | ⟨b,c,ha,h1,h2,h3,hr,hm,hc⟩
 ·exact .inl h
 ·have hbh:b < hi:=Nat.lt_of_lt_of_le h2 (Nat.le_trans (hm 0 _ (Nat.zero_le _)) h3)
  refine .inr ⟨b,c,ha,h1,h2,h3,k.row h1 hbh hr,hm,fun i hi'=> ?_⟩
  obtain ⟨a',cap,g1,g2⟩:=hc i hi'
  refine ⟨a',cap,k.range h1 hbh hr.lt g1,g2.same (k.mono ?_ ?_)⟩
  ·have:=hm 0 i (Nat.zero_le _);omega
  ·have:=hm (i+1) l.length (by omega);omega
theorem NodesIn.mono {w:World} {lo hi lo' hi':Nat} {a:Option Addr} {l:List Qq} (h:NodesIn w lo hi a l) (h1:lo'<=lo) (h2:hi<=hi'):NodesIn w lo' hi' a l:=by
 rcases h with h | ⟨b,c,ha,g1,g2,g3,hr,hm,hc⟩
 ·exact .inl h
 ·exact .inr ⟨b,c,ha,by omega,g2,by omega,hr,hm,hc⟩
theorem NodesIn.nodes {w:World} {lo hi:Nat} {a:Option Addr} {l:List Qq} (h:NodesIn w lo hi a l):Nodes w a l:=by
 rcases h with rfl | ⟨b,c,ha,h1,h2,h3,hr,hm,hc⟩
 ·intro i hi
  simp at hi
 ·intro i hi
  obtain ⟨a',cap,g1,g2⟩:=hc i hi
  exact ⟨b,0,_,ha,hr.lt,by rw [Nat.zero_add];exact g1,a',cap,rfl,g2.steps⟩
def cntNode (d:Qq):Nat:= (d.steps.map cntStep).sum+2
def markNode (d:Qq) (k:Nat):Qq:= { name:=mtext k,cost:= ((k+1:Nat):Int),steps:=markSteps d.steps (k+2)}
def markNodes (l:List Qq) (k:Nat):List Qq:=l.mapIdx fun i d=> markNode d (k+sumTo cntNode l i)
theorem markNodes_length (l:List Qq) (k:Nat): (markNodes l k).length=l.length:=by simp [markNodes]
theorem markNodes_getD (l:List Qq) (k i:Nat) (h:i < l.length): (markNodes l k).getD i Qq.zero=markNode (l.getD i Qq.zero) (k+sumTo cntNode l i):=by simp [markNodes,List.getD,h]
theorem markNode_cells (d:Qq) (k:Nat) (a:Option Addr) (cap:Nat): (markNode d k).cells a cap=[.string (mtext k),.int .i64 ((k+1:Nat):Int),.slice a d.steps.length cap]:=by
 simp [markNode,Qq.cells,markSteps_length]
def nodeMix (l:List Qq) (k j t:Nat):Qq:=if t < j then markNode (l.getD t Qq.zero) (k+sumTo cntNode l t) else l.getD t Qq.zero
theorem len_le_cntN (l:List Qq):l.length<=(l.map cntNode).sum:=by
 induction l with
 | nil=> simp
 | cons s r ih=>
  simp only [List.length_cons,List.map_cons,List.sum_cons]
  have:2<=cntNode s:=by unfold cntNode;omega
  omega
theorem StrsIn.setCell {w:World} {lo hi:Nat} {a:Option Addr} {l:List ByteArray} (h:StrsIn w lo hi a l) {p:Addr} (hp:p.block < lo) (v:Value):StrsIn (w.setCell p v) lo hi a l:=h.same (Same.setCell _ (.inl hp) _)
theorem CasesIn.setCell {w:World} {lo hi:Nat} {a:Option Addr} {l:List CaseD} (h:CasesIn w lo hi a l) {p:Addr} (hp:p.block < lo) (v:Value):CasesIn (w.setCell p v) lo hi a l:=h.same (Same.setCell _ (.inl hp) _)
theorem StepsIn.setCell {w:World} {lo hi:Nat} {a:Option Addr} {l:List Xj} (h:StepsIn w lo hi a l) {p:Addr} (hp:p.block < lo) (v:Value):StepsIn (w.setCell p v) lo hi a l:=h.same (Same.setCell _ (.inl hp) _)
theorem NodesIn.setCell {w:World} {lo hi:Nat} {a:Option Addr} {l:List Qq} (h:NodesIn w lo hi a l) {p:Addr} (hp:p.block < lo) (v:Value):NodesIn (w.setCell p v) lo hi a l:=h.same (Same.setCell _ (.inl hp) _)
theorem Same.setCells {lo hi g:Nat} (hg:g < lo∨hi<=g): ∀(vs:List Value) (o:Nat) (w:World),Same lo hi w (w.setCells g o vs)
 | [],_,_=> fun _ _ _ _=> rfl
 | v :: r,o,w=> by
  rw [World.setCells]
  intro b h1 h2 h3
  have e:=Same.setCells hg r (o+1) (w.setCell ⟨g,o,none⟩ v) b h1 h2 (by rw [size_setCell];exact h3)
  exact e.trans (Same.setCell w (p:= ⟨g,o,none⟩) hg v b h1 h2 h3)
theorem toStringS_in (w:World) (a:Option Addr) (cap:Nat) (l:List ByteArray) (hl:l.length<=1048576)
  (hS:Strs w a l):
  Calls Tryz.prog 8 #[.slice a l.length cap] w fun e w'=> ∃b,e= .returned (.slice (some ⟨b,0,none⟩) l.length l.length)∧StrsIn w' w.heap.size w'.heap.size (some ⟨b,0,none⟩) l∧K_ w w':=by
 have hmk:=run_make_row' (P:=Tryz.prog) 25 9 _ _ Tryz.underlying25 Tryz.infoStr rfl .i64 .i64 l.length (by omega) (by omega)
 go_enter Tryz.func8,Tryz.ntmps8
 go_wp2
 clear hmk
 have hrow:=World.rowIs_made w (.string ByteArray.empty) l.length 9
 have hkept:K_ w (w.alloc (.cells (madeCells #[.string ByteArray.empty] l.length) 9)):=Below.alloc (Below.refl _ _) (Nat.le_refl _) _
 go_loopw [4] (fun i wr=> ∃k:Nat,k<=l.length∧i= .int .i64 k∧K_ w wr∧(∃f,wr.rowIs w.heap.size 9 l.length f)∧∀j,j < k->wr.cell? ⟨w.heap.size,j,none⟩=some (.string (l.getD j ByteArray.empty))) (fun i _=> l.length - (intOf i).toNat)
 case atStart=> exact ⟨0,Nat.zero_le _,rfl,hkept,⟨_,hrow⟩,fun j hj=> absurd hj (Nat.not_lt_zero _)⟩
 case round=>
  obtain ⟨k,hk,rfl,hw,⟨f,hr⟩,hf⟩:=hrel
  clear hrow hkept
  by_cases hlt:k < l.length
  ·obtain ⟨b,o,rfl,hb,hc⟩:=hS.kept hw k hlt
   have hfr:=hr.frozen k
   have hold:=hr.cell hlt
   have HR:=Kz hr
   have HF:=Kz hf
   clear hr hf
   generalize hs:l.getD k ByteArray.empty=s at *
   have HSs:=Kz hs
   clear hs
   go_wp2
   go_roundw
   case rel=>
    refine ⟨k+1,by omega,by go_num,Below.setCell hw (Nat.le_refl _) _,⟨_,(unhide HR).set k (.string s)⟩,fun j hj=> ?_⟩
    by_cases e:j=k
    ·subst e
     rw [World.cell?_setCell_same _ _ _ hold,unhide HSs]
    ·rw [World.cell?_setCell_other _ _ _ _ (by simp <;> omega)]
     exact unhide HF j (by omega)
   case measure=> simp [intOf];omega
  ·go_wp2
   go_ret
   have:k=l.length:=by omega
   subst this
   exact ⟨w.heap.size,rfl,.inr ⟨w.heap.size,rfl,Nat.le_refl _,hr.lt,⟨_,f,hr⟩,hf⟩,hw⟩
theorem toCaseS_in (w:World) (a:Option Addr) (cap:Nat) (l:List CaseD) (hl:l.length<=1048576)
  (hS:Cases w a l):
  Calls Tryz.prog 193 #[.slice a l.length cap] w fun e w'=> ∃b,e= .returned (.slice (some ⟨b,0,none⟩) l.length l.length)∧CasesIn w' w.heap.size w'.heap.size (some ⟨b,0,none⟩) l∧K_ w w':=by
 have hmk:=run_make_many (P:=Tryz.prog) 170 212 _ _ _ Tryz.underlying170 Tryz.infoCase .i64 .i64 l.length (by omega) (by omega)
 go_enter Tryz.func193,Tryz.ntmps193
 go_wp2
 clear hmk
 have hrow:=Row.made w (madeCells #[.string ByteArray.empty,.int .i64 0] (l.length * 2)) 212
 rw [size_madeCells] at hrow
 have hkept:K_ w (w.alloc (.cells (madeCells #[.string ByteArray.empty,.int .i64 0] (l.length * 2)) 212)):= (K_.refl _).alloc _
 go_loopw [4] (fun i wr=> ∃k:Nat,k<=l.length∧i= .int .i64 k∧K_ w wr∧Row wr w.heap.size (l.length * 2)∧∀j,j < k->wr.rangeAt w.heap.size (j * 2) (l.getD j CaseD.zero).cells) (fun i _=> l.length - (intOf i).toNat)
 case atStart=> exact ⟨0,Nat.zero_le _,rfl,hkept,hrow,fun j hj=> absurd hj (Nat.not_lt_zero _)⟩
 case round=>
  obtain ⟨k,hk,rfl,hw,hr,hf⟩:=hrel
  clear hrow hkept
  by_cases hlt:k < l.length
  ·obtain ⟨b,o,rfl,hb,hc⟩:=hS.kept hw k hlt
   have HF:=Kz hf
   clear hf
   generalize hs:l.getD k CaseD.zero=c at *
   have HSs:=Kz hs
   clear hs
   have c0:=hc 0 _ rfl
   have c1:=hc 1 _ rfl
   simp only [Nat.add_zero] at c0
   clear hc
   go_wp2_with fail
   refine (toCase_any _ c).mono ?_
   rintro e w1 ⟨rfl,hw1⟩
   have hw2:=hw.trans hw1
   have hr1:=hr.kept hw1
   have hth:=hr1.there (o:=k * 2) (m:=2) (by omega)
   have HR:Hid (Row w1 w.heap.size (l.length * 2)):=hr1
   have HF1:Hid (∀j,j < k->w1.rangeAt w.heap.size (j * 2) (l.getD j CaseD.zero).cells):=fun j hj=> hw1.range hr.lt (HF.out j hj)
   clear HF c0 c1 hw hw1 hr hr1
   go_wp2_with (refine wpList_store_mid rfl 212 _ _ rfl w.heap.size (k * 2) #[.string c.text,.int .i64 c.goto] rfl rfl hth Tryz.sizeCase (CaseD.one c) ?_)
   go_roundw
   case rel=>
    refine ⟨k+1,by omega,by go_num,K_.setCells (Nat.le_refl _) _ _ hw2,Row.setCells _ _ HR.out,fun j hj=> ?_⟩
    by_cases e:j=k
    ·subst e
     rw [unhide HSs]
     exact World.rangeAt_setCells_same _ _ _ _ hth
    ·exact World.rangeAt_setCells_apart (HF1.out j (by omega)) _ _ _ (by simp [CaseD.cells];omega)
   case measure=> simp [intOf];omega
  ·go_wp2
   go_ret
   have:k=l.length:=by omega
   subst this
   exact ⟨w.heap.size,rfl,.inr ⟨w.heap.size,rfl,Nat.le_refl _,hr.lt,hr,hf⟩,hw⟩
theorem toStep_in (w:World) (s:Xj) (aa ac:Option Addr) (ca cc:Nat) (h1:s.asks.length<=1048576) (h2:s.cases.length<=1048576) (hA:Strs w aa s.asks) (hC:Cases w ac s.cases):
  Calls Tryz.prog 172 #[.agg #[.slice aa s.asks.length ca,.int .i64 s.on,.slice ac s.cases.length cc,.int .i64 s.els,.int .i64 s.fall,.bool s.fin,.bool s.bad,.string s.give]] w fun e w'=> ∃b1 b2 mid hi,e= .returned (.agg (s.cells (some ⟨b1,0,none⟩) s.asks.length (some ⟨b2,0,none⟩) s.cases.length).toArray)∧(StrsIn w' w.heap.size mid (some ⟨b1,0,none⟩) s.asks∧CasesIn w' mid hi (some ⟨b2,0,none⟩) s.cases∧w.heap.size<=mid∧mid<=hi∧hi<=w'.heap.size)∧K_ w w':=by
 go_enter Tryz.func172,Tryz.ntmps172
 go_wp2_with fail
 refine (toStringS_in _ _ _ _ h1 (hA.kept (by repeat (first | apply K_.alloc | exact K_.refl _)))).mono ?_
 rintro e w1 ⟨b1,rfl,hS1,k1⟩
 obtain ⟨hc1,hf1⟩:=k1.rules
 have hz1:=k1.size
 simp only [World.size_alloc] at hS1 hz1
 have hrow1:Row w1 (w.heap.size+1) 8:=Row.kept (Row.alloc (by have:=Row.made (w.alloc (.cells #[.slice aa s.asks.length ca,.int .i64 s.on,.slice ac s.cases.length cc,.int .i64 s.els,.int .i64 s.fall,.bool s.fin,.bool s.bad,.string s.give] 242)) #[.slice none 0 0,.int .i64 0,.slice none 0 0,.int .i64 0,.int .i64 0,.bool false,.bool false,.string ⟨#[]⟩] 172;simpa using this) _) k1
 have K1:K_ w w1:=K_.trans (by repeat (first | apply K_.alloc | exact K_.refl _)) k1
 clear k1
 go_wp2_with fail
 refine (toCaseS_in _ _ _ _ h2 (hC.kept (by repeat (first | (refine K_.setCell ?_ (by simp <;> omega) _) | exact K1)))).mono ?_
 rintro e w2 ⟨b2,rfl,hS2,k2⟩
 obtain ⟨hc2,hf2⟩:=k2.rules
 have hz2:=k2.size
 simp only [size_setCell] at hS2 hz2 hc2 hf2
 have K2:K_ w w2:=K_.trans (by repeat (first | (refine K_.setCell ?_ (by simp <;> omega) _) | exact K1)) k2
 have hS1':= ((hS1.setCell (p:= ⟨w.heap.size+1+1,0,none⟩) (by simp <;> omega) (.slice (some ⟨b1,0,none⟩) s.asks.length s.asks.length)).setCell (p:= ⟨w.heap.size+1+1,1,none⟩) (by simp <;> omega) (.int .i64 s.on)).same (k2.same _ _)
 have HRow:Hid (Row w2 (w.heap.size+1) 8):=Row.kept (by repeat (first | refine Row.set ?_ _ rfl _ | exact hrow1)) k2
 clear k2 K1 hS1 hrow1
 have z0:w.heap.size < w1.heap.size:=by omega
 have z1:w.heap.size+1 < w1.heap.size:=by omega
 have z2:w.heap.size+1+1 < w1.heap.size:=by omega
 go_wp2
 have hX:Row ((((((w2.setCell ⟨w.heap.size+1+1,2,none⟩ (.slice (some ⟨b2,0,none⟩) s.cases.length s.cases.length)).setCell ⟨w.heap.size+1+1,3,none⟩ (.int .i64 s.els)).setCell ⟨w.heap.size+1+1,4,none⟩ (.int .i64 s.fall)).setCell ⟨w.heap.size+1+1,5,none⟩ (.bool s.fin)).setCell ⟨w.heap.size+1+1,6,none⟩ (.bool s.bad)).setCell ⟨w.heap.size+1+1,7,none⟩ (.string s.give)) (w.heap.size+1) 8:=by
  repeat (first | refine Row.set ?_ _ rfl _ | exact HRow.out)
 have hR:=World.rangeAt_setCells_same _ (w.heap.size+1) 0 (s.cells (some ⟨b1,0,none⟩) s.asks.length (some ⟨b2,0,none⟩) s.cases.length) (hX.there (o:=0) (m:=8) (Nat.le_refl _))
 refine X_ (s.cells (some ⟨b1,0,none⟩) s.asks.length (some ⟨b2,0,none⟩) s.cases.length) _ Tryz.results172 rfl hR Tryz.underlying172 rfl Tryz.sizeStep rfl ⟨b1,b2,w1.heap.size,w2.heap.size,rfl,⟨StrsIn.mono (lo:=w.heap.size+1+1+1) ?_ (by omega) (Nat.le_refl _), ?_,by omega,by omega,by simp⟩, ?_⟩
 ·repeat (first | (refine StrsIn.setCell ?_ (by simp <;> omega) _) | exact hS1')
 ·repeat (first | (refine CasesIn.setCell ?_ (by simp <;> omega) _) | exact hS2)
 ·repeat (first | (refine K_.setCell ?_ (by simp <;> omega) _) | exact K2)
def cutAt (c:Nat->Nat) (k z t:Nat):Nat:=if t<=k then c t else z
theorem cutAt_le {c:Nat->Nat} {k z t:Nat} (h:t<=k):cutAt c k z t=c t:=by simp [cutAt,h]
theorem cutAt_gt {c:Nat->Nat} {k z t:Nat} (h:k < t):cutAt c k z t=z:=by simp [cutAt];omega
theorem cutAt_mono {c:Nat->Nat} {k z:Nat} (h: ∀i j,i<=j->c i<=c j) (hz:c k<=z): ∀i j,i<=j->cutAt c k z i<=cutAt c k z j:=by
 intro i j hij
 by_cases h1:i<=k
 ·by_cases h2:j<=k
  ·rw [cutAt_le h1,cutAt_le h2];exact h i j hij
  ·rw [cutAt_le h1,cutAt_gt (by omega)];exact Nat.le_trans (h i k h1) hz
 ·rw [cutAt_gt (by omega),cutAt_gt (by omega)];exact Nat.le_refl _
theorem StepIn.kept {w w':World} {B j lo hi:Nat} {s:Xj} (h:StepIn w B j lo hi s) (k:K_ w w') (hB:B < w.heap.size):StepIn w' B j lo hi s:=
 h.same (k.same _ _) (rangeAt_of_block (k.block B hB) _)
theorem StepIn.setCells {w:World} {B j lo hi o:Nat} {s:Xj} {vs:List Value} (h:StepIn w B j lo hi s) (hB:B < lo) (ho:j * 8+8<=o∨o+vs.length<=j * 8):StepIn (w.setCells B o vs) B j lo hi s:=by
 obtain ⟨aa,ca,ac,cc,mid,h1,h2,h3,h4,h5,h6⟩:=h
 exact ⟨aa,ca,ac,cc,mid,h1,h2,World.rangeAt_setCells_apart h3 _ _ _ (by right;simpa [Xj.cells] using ho),h4.same (Same.setCells (.inl hB) _ _ _),h5.same (Same.setCells (.inl (by omega)) _ _ _),h6⟩
theorem NodeIn.kept {w w':World} {B j lo hi:Nat} {d:Qq} (h:NodeIn w B j lo hi d) (k:K_ w w') (hB:B < w.heap.size):NodeIn w' B j lo hi d:=by
 obtain ⟨a,cap,h1,h2⟩:=h
 exact ⟨a,cap,k.range hB h1,h2.same (k.same _ _)⟩
theorem NodeIn.setCells {w:World} {B j lo hi o:Nat} {d:Qq} {vs:List Value} (h:NodeIn w B j lo hi d) (hB:B < lo) (ho:j * 3+3<=o∨o+vs.length<=j * 3):NodeIn (w.setCells B o vs) B j lo hi d:=by
 obtain ⟨a,cap,h1,h2⟩:=h
 exact ⟨a,cap,World.rangeAt_setCells_apart h1 _ _ _ (by right;simpa [Qq.cells] using ho),h2.same (Same.setCells (.inl hB) _ _ _)⟩
theorem toStepS_in (w:World) (a:Option Addr) (cap:Nat) (l:List Xj) (hl:l.length<=1048576) (hs: ∀s∈l,s.asks.length<=1048576∧s.cases.length<=1048576)
  (hS:Steps w a l):
  Calls Tryz.prog 142 #[.slice a l.length cap] w fun e w'=> ∃b,e= .returned (.slice (some ⟨b,0,none⟩) l.length l.length)∧StepsIn w' w.heap.size w'.heap.size (some ⟨b,0,none⟩) l∧K_ w w':=by
 have hmk:=run_make_many (P:=Tryz.prog) 86 172 _ _ _ Tryz.underlying86 Tryz.infoStep .i64 .i64 l.length (by omega) (by omega)
 go_enter Tryz.func142,Tryz.ntmps142
 go_wp2
 clear hmk
 have hrow:=Row.made w (madeCells #[.slice none 0 0,.int .i64 0,.slice none 0 0,.int .i64 0,.int .i64 0,.bool false,.bool false,.string ⟨#[]⟩] (l.length * 8)) 172
 rw [size_madeCells] at hrow
 have hkept:K_ w (w.alloc (.cells (madeCells #[.slice none 0 0,.int .i64 0,.slice none 0 0,.int .i64 0,.int .i64 0,.bool false,.bool false,.string ⟨#[]⟩] (l.length * 8)) 172)):= (K_.refl _).alloc _
 go_loopw [4] (fun i wr=> ∃k:Nat,k<=l.length∧i= .int .i64 k∧K_ w wr∧Row wr w.heap.size (l.length * 8)∧∃c:Nat->Nat,w.heap.size < c 0∧c k<=wr.heap.size∧(∀i j,i<=j->c i<=c j)∧∀j,j < k->StepIn wr w.heap.size j (c j) (c (j+1)) (l.getD j Xj.zero)) (fun i _=> l.length - (intOf i).toNat)
 case atStart=> exact ⟨0,Nat.zero_le _,rfl,hkept,hrow,fun _=> w.heap.size+1,Nat.lt_succ_self _,by simp,fun _ _ _=> Nat.le_refl _,fun j hj=> absurd hj (Nat.not_lt_zero _)⟩
 case round=>
  obtain ⟨k,hk,rfl,hw,hr,c,hc0,hck,hmono,hf⟩:=hrel
  have HMono:=Kz hmono
  clear hmono
  clear hrow hkept
  by_cases hlt:k < l.length
  ·obtain ⟨b,o,cs,rfl,hb,hc,aa,ca,ac,cc,rfl,hA,hC,hca⟩:=hS.kept hw k hlt
   have hsz:=hs (l.getD k Xj.zero) (by simp [List.getD,hlt])
   have HF:=Kz hf
   clear hf
   generalize hs:l.getD k Xj.zero=s at *
   have HSs:=Kz hs
   clear hs
   have c0:=hc 0 _ rfl
   have c1:=hc 1 _ rfl
   have c2:=hc 2 _ rfl
   have c3:=hc 3 _ rfl
   have c4:=hc 4 _ rfl
   have c5:=hc 5 _ rfl
   have c6:=hc 6 _ rfl
   have c7:=hc 7 _ rfl
   simp only [Nat.add_zero] at c0
   clear hc
   go_wp2_with fail
   refine (toStep_in _ s aa ac ca cc hsz.1 hsz.2 hA hC).mono ?_
   rintro e w1 ⟨b1,b2,mid,hi,rfl,⟨g1,g2,g3,g4,g5⟩,hw1⟩
   have hz1:=hw1.size
   have hrl:=hr.lt
   have hw2:=hw.trans hw1
   have hr1:=hr.kept hw1
   generalize hcs:s.cells (some ⟨b1,0,none⟩) s.asks.length (some ⟨b2,0,none⟩) s.cases.length=cs
   have hlen:cs.length=8:=by rw [<-hcs];rfl
   have hone:cs.toArray.all (·.oneCell')=true:=by rw [<-hcs];exact Xj.one s _ _ _ _
   have hth:w1.there w.heap.size (k * 8) cs.toArray.size:=by simpa [hlen] using hr1.there (o:=k * 8) (m:=8) (by omega)
   have hsize: (Tryz.prog.info? 172).map (·.size)=some cs.toArray.size:=by rw [Tryz.sizeStep];simp [hlen]
   have HCS:=Kz hcs
   have HLEN:=Kz hlen
   have HSZ:=Kz hsize
   clear hcs hlen hsize
   have HR:Hid (Row w1 w.heap.size (l.length * 8)):=hr1
   have HF1:Hid (∀j,j < k->StepIn w1 w.heap.size j (c j) (c (j+1)) (l.getD j Xj.zero)):=fun j hj=> (HF.out j hj).kept hw1 hr.lt
   clear HF c0 c1 c2 c3 c4 c5 c6 c7 hw hw1 hr hr1 hA hC
   go_wp2_with (refine wpList_store_mid rfl 172 _ _ rfl w.heap.size (k * 8) cs.toArray rfl rfl hth (unhide HSZ) hone ?_)
   go_roundw
   case rel=>
    have hmono:=HMono.out
    refine ⟨k+1,by omega,by go_num,K_.setCells (Nat.le_refl _) _ _ hw2,Row.setCells _ _ HR.out,cutAt c k w1.heap.size,by rw [cutAt_le (Nat.zero_le _)];exact hc0,by rw [cutAt_gt (by omega),size_setCells];exact Nat.le_refl _,cutAt_mono hmono (by omega),fun j hj=> ?_⟩
    by_cases e:j=k
    ·subst e
     rw [unhide HSs,cutAt_le (Nat.le_refl _),cutAt_gt (by omega)]
     have hcj:w.heap.size < c j:=Nat.lt_of_lt_of_le hc0 (hmono 0 j (Nat.zero_le _))
     exact ⟨_,_,_,_,mid,by omega,by omega,by rw [HCS.out];exact World.rangeAt_setCells_same _ _ _ _ (by simpa using hth),(g1.mono hck (Nat.le_refl _)).same (Same.setCells (.inl hcj) _ _ _),(g2.mono (Nat.le_refl _) g5).same (Same.setCells (.inl (by omega)) _ _ _),Nat.le_refl _⟩
    ·rw [cutAt_le (by omega),cutAt_le (by omega)]
     exact (HF1.out j (by omega)).setCells (Nat.lt_of_lt_of_le hc0 (hmono 0 j (Nat.zero_le _))) (by rw [HLEN.out];omega)
   case measure=> simp [intOf];omega
  ·go_wp2
   go_ret
   have:k=l.length:=by omega
   subst this
   exact ⟨w.heap.size,rfl,.inr ⟨w.heap.size,c,rfl,Nat.le_refl _,hc0,hck,hr,HMono.out,hf⟩,hw⟩
theorem toAction_in (w:World) (cost:Int) (a:Option Addr) (cap:Nat) (l:List Xj) (hl:l.length<=1048576) (hs: ∀s∈l,s.asks.length<=1048576∧s.cases.length<=1048576)
  (hS:Steps w a l):
  Calls Tryz.prog 104 #[.agg #[.int .i64 cost,.slice a l.length cap]] w fun e w'=> ∃b,e= .returned (.agg #[.int .i64 cost,.slice (some ⟨b,0,none⟩) l.length l.length])∧StepsIn w' w.heap.size w'.heap.size (some ⟨b,0,none⟩) l∧K_ w w':=by
 go_enter Tryz.func104,Tryz.ntmps104
 go_wp2_with fail
 refine (toStepS_in _ a cap l hl hs (hS.kept (by repeat (first | apply K_.alloc | exact K_.refl _)))).mono ?_
 rintro e w1 ⟨b,rfl,hN,k1⟩
 obtain ⟨hc1,hf1⟩:=k1.rules
 have hz1:=k1.size
 simp only [World.size_alloc] at hN hz1
 have K1:K_ w w1:=K_.trans (by repeat (first | apply K_.alloc | exact K_.refl _)) k1
 have hrow1:Row w1 (w.heap.size+1) 2:=Row.kept (Row.alloc (by have:=Row.made (w.alloc (.cells #[.int .i64 cost,.slice a l.length cap] 82)) #[.int .i64 0,.slice none 0 0] 88;simpa using this) _) k1
 have HRow:=Kz hrow1
 clear k1 hrow1
 go_wp2
 have hX:Row (w1.setCell ⟨w.heap.size+1+1,1,none⟩ (.slice (some ⟨b,0,none⟩) l.length l.length)) (w.heap.size+1) 2:=Row.set HRow.out _ rfl _
 have hR:=World.rangeAt_setCells_same _ (w.heap.size+1) 0 [.int .i64 cost,.slice (some ⟨b,0,none⟩) l.length l.length] (hX.there (o:=0) (m:=2) (Nat.le_refl _))
 refine X_ [.int .i64 cost,.slice (some ⟨b,0,none⟩) l.length l.length] _ Tryz.results104 rfl hR Tryz.underlying88 rfl Tryz.sizeAction rfl ⟨b,rfl,StepsIn.mono (lo:=w.heap.size+1+1+1) (hi:=w1.heap.size) ?_ (by omega) (by simp), ?_⟩
 ·repeat (first | (refine StepsIn.setCell ?_ (by simp <;> omega) _) | exact hN)
 ·repeat (first | (refine K_.setCell ?_ (by simp <;> omega) _) | exact K1)
theorem toNode_in (w:World) (d:Qq) (a:Option Addr) (cap:Nat) (hl:d.steps.length<=1048576) (hs: ∀s∈d.steps,s.asks.length<=1048576∧s.cases.length<=1048576) (hS:Steps w a d.steps):
  Calls Tryz.prog 59 #[.agg #[.string d.name,.int .i64 d.cost,.slice a d.steps.length cap]] w fun e w'=> ∃b,e= .returned (.agg (d.cells (some ⟨b,0,none⟩) d.steps.length).toArray)∧StepsIn w' w.heap.size w'.heap.size (some ⟨b,0,none⟩) d.steps∧K_ w w':=by
 go_enter Tryz.func59,Tryz.ntmps59
 go_wp2_with fail
 refine (toAction_in _ d.cost a cap d.steps hl hs (hS.kept (by repeat (first | apply K_.alloc | exact K_.refl _)))).mono ?_
 rintro e w1 ⟨b,rfl,hN,k1⟩
 obtain ⟨hc1,hf1⟩:=k1.rules
 have hz1:=k1.size
 simp only [World.size_alloc] at hN hz1
 have K1:K_ w w1:=K_.trans (by repeat (first | apply K_.alloc | exact K_.refl _)) k1
 have hrow1:Row w1 (w.heap.size+1) 3:=Row.kept (Row.alloc (by have:=Row.made (w.alloc (.cells #[.string d.name,.int .i64 d.cost,.slice a d.steps.length cap] 84)) #[.string ⟨#[]⟩,.int .i64 0,.slice none 0 0] 90;simpa using this) _) k1
 have HRow:=Kz hrow1
 clear k1 hrow1
 go_wp2
 have hX:Row ((w1.setCell ⟨w.heap.size+1+1,1,none⟩ (.int .i64 d.cost)).setCell ⟨w.heap.size+1+1,2,none⟩ (.slice (some ⟨b,0,none⟩) d.steps.length d.steps.length)) (w.heap.size+1) 3:=Row.set (Row.set HRow.out _ rfl _) _ rfl _
 have hR:=World.rangeAt_setCells_same _ (w.heap.size+1) 0 (d.cells (some ⟨b,0,none⟩) d.steps.length) (hX.there (o:=0) (m:=3) (Nat.le_refl _))
 refine X_ (d.cells (some ⟨b,0,none⟩) d.steps.length) _ Tryz.results59 rfl hR Tryz.underlying90 rfl Tryz.sizeNode rfl ⟨b,rfl,StepsIn.mono (lo:=w.heap.size+1+1+1) (hi:=w1.heap.size) ?_ (by omega) (by simp), ?_⟩
 ·repeat (first | (refine StepsIn.setCell ?_ (by simp <;> omega) _) | exact hN)
 ·repeat (first | (refine K_.setCell ?_ (by simp <;> omega) _) | exact K1)
theorem toNodeS_in (w:World) (a:Option Addr) (cap:Nat) (l:List Qq) (hl:l.length<=1048576) (hs: ∀s∈l,s.steps.length<=1048576∧∀x∈s.steps,x.asks.length<=1048576∧x.cases.length<=1048576)
  (hS:Nodes w a l):
  Calls Tryz.prog 27 #[.slice a l.length cap] w fun e w'=> ∃b,e= .returned (.slice (some ⟨b,0,none⟩) l.length l.length)∧NodesIn w' w.heap.size w'.heap.size (some ⟨b,0,none⟩) l∧K_ w w':=by
 have hmk:=run_make_many (P:=Tryz.prog) 35 90 _ _ _ Tryz.underlying35 Tryz.infoNode .i64 .i64 l.length (by omega) (by omega)
 go_enter Tryz.func27,Tryz.ntmps27
 go_wp2
 clear hmk
 have hrow:=Row.made w (madeCells #[.string ⟨#[]⟩,.int .i64 0,.slice none 0 0] (l.length * 3)) 90
 rw [size_madeCells] at hrow
 have hkept:K_ w (w.alloc (.cells (madeCells #[.string ⟨#[]⟩,.int .i64 0,.slice none 0 0] (l.length * 3)) 90)):= (K_.refl _).alloc _
 go_loopw [4] (fun i wr=> ∃k:Nat,k<=l.length∧i= .int .i64 k∧K_ w wr∧Row wr w.heap.size (l.length * 3)∧∃c:Nat->Nat,w.heap.size < c 0∧c k<=wr.heap.size∧(∀i j,i<=j->c i<=c j)∧∀j,j < k->NodeIn wr w.heap.size j (c j) (c (j+1)) (l.getD j Qq.zero)) (fun i _=> l.length - (intOf i).toNat)
 case atStart=> exact ⟨0,Nat.zero_le _,rfl,hkept,hrow,fun _=> w.heap.size+1,Nat.lt_succ_self _,by simp,fun _ _ _=> Nat.le_refl _,fun j hj=> absurd hj (Nat.not_lt_zero _)⟩
 case round=>
  obtain ⟨k,hk,rfl,hw,hr,c,hc0,hck,hmono,hf⟩:=hrel
  have HMono:=Kz hmono
  clear hmono
  clear hrow hkept
  by_cases hlt:k < l.length
  ·obtain ⟨b,o,cs,rfl,hb,hc,aa,ca,rfl,hA⟩:=hS.kept hw k hlt
   have hsz:=hs (l.getD k Qq.zero) (by simp [List.getD,hlt])
   have HF:=Kz hf
   clear hf
   generalize hs:l.getD k Qq.zero=s at *
   have HSs:=Kz hs
   clear hs
   have c0:=hc 0 _ rfl
   have c1:=hc 1 _ rfl
   have c2:=hc 2 _ rfl
   simp only [Nat.add_zero] at c0
   clear hc
   go_wp2_with fail
   refine (toNode_in _ s aa ca hsz.1 hsz.2 hA).mono ?_
   rintro e w1 ⟨b1,rfl,g1,hw1⟩
   have hz1:=hw1.size
   have hrl:=hr.lt
   have hw2:=hw.trans hw1
   have hr1:=hr.kept hw1
   generalize hcs:s.cells (some ⟨b1,0,none⟩) s.steps.length=cs
   have hlen:cs.length=3:=by rw [<-hcs];rfl
   have hone:cs.toArray.all (·.oneCell')=true:=by rw [<-hcs];exact Qq.one s _ _
   have hth:w1.there w.heap.size (k * 3) cs.toArray.size:=by simpa [hlen] using hr1.there (o:=k * 3) (m:=3) (by omega)
   have hsize: (Tryz.prog.info? 90).map (·.size)=some cs.toArray.size:=by rw [Tryz.sizeNode];simp [hlen]
   have HCS:=Kz hcs
   have HLEN:=Kz hlen
   have HSZ:=Kz hsize
   clear hcs hlen hsize
   have HR:Hid (Row w1 w.heap.size (l.length * 3)):=hr1
   have HF1:Hid (∀j,j < k->NodeIn w1 w.heap.size j (c j) (c (j+1)) (l.getD j Qq.zero)):=fun j hj=> (HF.out j hj).kept hw1 hr.lt
   clear HF c0 c1 c2 hw hw1 hr hr1 hA
   go_wp2_with (refine wpList_store_mid rfl 90 _ _ rfl w.heap.size (k * 3) cs.toArray rfl rfl hth (unhide HSZ) hone ?_)
   go_roundw
   case rel=>
    have hmono:=HMono.out
    refine ⟨k+1,by omega,by go_num,K_.setCells (Nat.le_refl _) _ _ hw2,Row.setCells _ _ HR.out,cutAt c k w1.heap.size,by rw [cutAt_le (Nat.zero_le _)];exact hc0,by rw [cutAt_gt (by omega),size_setCells];exact Nat.le_refl _,cutAt_mono hmono (by omega),fun j hj=> ?_⟩
    by_cases e:j=k
    ·subst e
     rw [unhide HSs,cutAt_le (Nat.le_refl _),cutAt_gt (by omega)]
     have hcj:w.heap.size < c j:=Nat.lt_of_lt_of_le hc0 (hmono 0 j (Nat.zero_le _))
     exact ⟨_,_,by rw [HCS.out];exact World.rangeAt_setCells_same _ _ _ _ (by simpa using hth),(g1.mono hck (Nat.le_refl _)).same (Same.setCells (.inl hcj) _ _ _)⟩
    ·rw [cutAt_le (by omega),cutAt_le (by omega)]
     exact (HF1.out j (by omega)).setCells (Nat.lt_of_lt_of_le hc0 (hmono 0 j (Nat.zero_le _))) (by rw [HLEN.out];omega)
   case measure=> simp [intOf];omega
  ·go_wp2
   go_ret
   have:k=l.length:=by omega
   subst this
   exact ⟨w.heap.size,rfl,.inr ⟨w.heap.size,c,rfl,Nat.le_refl _,hc0,hck,hr,HMono.out,hf⟩,hw⟩
theorem toWeb_in (w:World) (a:Option Addr) (cap:Nat) (l:List Qq) (hl:l.length<=1048576) (hs: ∀s∈l,s.steps.length<=1048576∧∀x∈s.steps,x.asks.length<=1048576∧x.cases.length<=1048576) (hS:Nodes w a l):
  Calls Tryz.prog 7 #[.agg #[.slice a l.length cap]] w fun e w'=> ∃b,e= .returned (.agg #[.slice (some ⟨b,0,none⟩) l.length l.length])∧NodesIn w' w.heap.size w'.heap.size (some ⟨b,0,none⟩) l∧K_ w w':=by
 go_enter Tryz.func7,Tryz.ntmps7
 go_wp2_with fail
 refine (toNodeS_in _ a cap l hl hs (hS.kept (by repeat (first | apply K_.alloc | exact K_.refl _)))).mono ?_
 rintro e w1 ⟨b,rfl,hN,k1⟩
 obtain ⟨hc1,hf1⟩:=k1.rules
 have hz1:=k1.size
 simp only [World.size_alloc] at hN hz1
 have K1:K_ w w1:=K_.trans (by repeat (first | apply K_.alloc | exact K_.refl _)) k1
 have hrow1:Row w1 (w.heap.size+1) 1:=Row.kept (Row.alloc (by have:=Row.made (w.alloc (.cells #[.slice a l.length cap] 24)) #[.slice none 0 0] 37;simpa using this) _) k1
 have HRow:=Kz hrow1
 clear k1 hrow1
 go_wp2
 have hX:Row (w1.setCell ⟨w.heap.size+1+1,0,none⟩ (.slice (some ⟨b,0,none⟩) l.length l.length)) (w.heap.size+1) 1:=Row.set HRow.out _ rfl _
 have hR:=World.rangeAt_setCells_same _ (w.heap.size+1) 0 [.slice (some ⟨b,0,none⟩) l.length l.length] (hX.there (o:=0) (m:=1) (Nat.le_refl _))
 refine X_ [.slice (some ⟨b,0,none⟩) l.length l.length] _ Tryz.results7 rfl hR Tryz.underlying37 rfl Tryz.sizeWeb rfl ⟨b,rfl,NodesIn.mono (lo:=w.heap.size+1+1+1) (hi:=w1.heap.size) ?_ (by omega) (by simp), ?_⟩
 ·repeat (first | (refine NodesIn.setCell ?_ (by simp <;> omega) _) | exact hN)
 ·repeat (first | (refine K_.setCell ?_ (by simp <;> omega) _) | exact K1)
theorem le_sum {α:Type} (f:α->Nat) {l:List α} {x:α} (h:x∈l):f x<=(l.map f).sum:=by
 induction l with
 | nil=> cases h
 | cons y r ih=>
  rcases List.mem_cons.1 h with rfl | h
  ·simp
  ·have:=ih h
   simp;omega
theorem small_of_sz {l:List Xj} {n:Nat} (h:szSteps l<=n):l.length<=n∧∀s∈l,s.asks.length<=n∧s.cases.length<=n:=by
 unfold szSteps at h
 refine ⟨by omega,fun s hs=> ?_⟩
 have h1:=le_sum szStepD hs
 have h2:szStepD s= (s.asks.length+ (s.asks.map (·.size)).sum)+ (s.cases.length+ (s.cases.map (·.text.size)).sum)+s.give.size:=rfl
 omega
theorem markNodeS_any (w:World) (lo hi:Nat) (a:Option Addr) (cap:Nat) (l:List Qq) (k:Nat) (h0:0 < k) (h1:k+ (l.map cntNode).sum<=4611686018427387904) (hS:NodesIn w lo hi a l):
  Calls Tryz.prog 37 #[.slice a l.length cap,.int .i64 k] w fun e w'=> e= .returned (.int .i64 ((k+ (l.map cntNode).sum:Nat):Int))∧NodesIn w' lo hi a (markNodes l k)∧Xk lo hi w w':=by
 have hlen:=len_le_cntN l
 rcases hS with rfl | ⟨B,c,rfl,hlo,hBc,hhi,hr,hmono,hf⟩
 ·go_enter Tryz.func37,Tryz.ntmps37
  go_wp2
  go_loopw [1,5] (fun x i wr=> x= .int .i64 k∧i= .int .i64 0∧wr=w) (fun _ _ _=> 0)
  case atStart=> exact ⟨rfl,rfl,rfl⟩
  case round=>
   obtain ⟨rfl,rfl,rfl⟩:=hrel
   go_wp2
   go_ret
   exact ⟨by simp,.inl rfl,Xk.refl _ _ _⟩
 ·have HMono:=Kz hmono
  clear hmono
  go_enter Tryz.func37,Tryz.ntmps37
  go_wp2
  go_loopw [1,5] (fun x i wr=> ∃j m:Nat,j<=l.length∧i= .int .i64 j∧x= .int .i64 m∧m=k+sumTo cntNode l j∧Xk lo hi w wr∧Row wr B (l.length * 3)∧∀t,t < l.length->NodeIn wr B t (c t) (c (t+1)) (nodeMix l k j t)) (fun _ i _=> l.length - (intOf i).toNat)
  case atStart=> exact ⟨0,k,Nat.zero_le _,rfl,rfl,by rw [sumTo_zero];omega,Xk.refl _ _ _,hr,fun t ht=> by simpa [nodeMix] using hf t ht⟩
  case round=>
   obtain ⟨j,m,hj,rfl,rfl,hm,hw,hr',hf'⟩:=hrel
   clear hr hf
   have HMn:=Kz hm
   have HF:=Kz hf'
   by_cases hlt:j < l.length
   ·have hst:=hf' j hlt
    have hmix:nodeMix l k j j=l.getD j Qq.zero:=by simp [nodeMix]
    rw [hmix] at hst
    have hsum:=sumTo_succ cntNode l Qq.zero j hlt
    have hsl:=sumTo_le cntNode l (j+1)
    obtain ⟨aa,ca,g3,g4⟩:=hst
    obtain ⟨s,hsd⟩: ∃s,s=l.getD j Qq.zero:= ⟨_,rfl⟩
    rw [<-hsd] at g3 g4 hsum
    have hcnt:m+cntNode s<=4611686018427387904:=by omega
    have hm0:0 < m:=by omega
    have hcs:cntNode s= (s.steps.map cntStep).sum+2:=rfl
    have HSd:=Kz hsd
    have HSum:=Kz hsum
    clear hf' hmix hsd hm hsum hsl
    have hBj:B < c j:=Nat.lt_of_lt_of_le hBc (HMono.out 0 j (Nat.zero_le _))
    have hBs:=hr'.lt
    have c2:=g3 2 _ rfl
    have HG4:=Kz g4
    obtain ⟨txt,htx,hmt⟩:=markM m hm0 (by omega)
    have HTX:=Kz htx
    have HMT:=Kz hmt
    clear htx hmt g4 g3
    go_wp2_with fail
    refine (HMT.out _).mono ?_
    rintro e w1 ⟨rfl,k1⟩
    have hr1:=hr'.kept k1
    have d2:= (k1.cell hBs).trans c2
    have hB1:=hr1.lt
    obtain ⟨⟨_,f0c⟩,f0⟩:=hr1.at (i:=j * 3) (by omega)
    obtain ⟨⟨_,f1c⟩,f1⟩:=hr1.at (i:=j * 3+1) (by omega)
    have HG5:=Kz (HG4.out.same (k1.same _ _))
    have t1:= (Turn.refl B (j * 3) (j * 3+3) (c j) (c (j+1)) wr).kept k1 hBs
    have hms: ∀W,StepsIn W (c j) (c (j+1)) aa s.steps->Calls Tryz.prog 91 #[.slice aa s.steps.length ca,.int .i64 ((m:Int)+1+1)] W fun e w'=> e= .returned (.int .i64 ((m+2+ (s.steps.map cntStep).sum:Nat):Int))∧StepsIn w' (c j) (c (j+1)) aa (markSteps s.steps (m+2))∧Xk (c j) (c (j+1)) W w':=by
     intro W hW
     have:=markStepS_any W (c j) (c (j+1)) aa ca s.steps (m+2) (by omega) (by omega) hW
     rw [show ((m+2:Nat):Int)= (m:Int)+1+1 by omega] at this
     exact this
    have HMS:=Kz hms
    have HR1:=Kz hr1
    have HT1:=Kz t1
    clear hms c2 hr' HG4 k1 HMT hr1 t1
    go_wp2_with fail
    have hB':B < c j:=hBj
    refine (HMS.out _ ((HG5.out.same (Same.setCell _ (.inl hB') _)).same (Same.setCell _ (.inl hB') _))).mono ?_
    rintro e w2 ⟨rfl,hC2,kb2⟩
    obtain ⟨m2,hm2⟩: ∃m2,m2=m+2+ (s.steps.map cntStep).sum:= ⟨_,rfl⟩
    rw [<-hm2]
    have hb2:m2<=4611686018427387904:=by omega
    have HM2:=Kz hm2
    clear hm2 hcnt hcs
    have hrA:Row (w1.setCell ⟨B,j * 3,none⟩ (.string txt)) B (l.length * 3):=HR1.out.set _ rfl _
    have hrB:Row ((w1.setCell ⟨B,j * 3,none⟩ (.string txt)).setCell ⟨B,j * 3+1,none⟩ (.int .i64 ((m:Int)+1))) B (l.length * 3):=hrA.set _ rfl _
    have s2:=kb2.same (l2:=B) (h2:=B+1) (by omega)
    have hr2:Row w2 B (l.length * 3):=s2.row (Nat.le_refl _) (by omega) hrB
    have e0:w2.cell? ⟨B,j * 3,none⟩=some (.string txt):=by rw [s2.cell (Nat.le_refl _) (by omega) hrB.lt,Xx (by omega)];exact set_hit HR1.out (by omega) _
    have e1:w2.cell? ⟨B,j * 3+1,none⟩=some (.int .i64 ((m:Int)+1)):=by rw [s2.cell (Nat.le_refl _) (by omega) hrB.lt];exact set_hit hrA (by omega) _
    have e2:w2.cell? ⟨B,j * 3+2,none⟩=some (.slice aa s.steps.length ca):=by rw [s2.cell (Nat.le_refl _) (by omega) hrB.lt,Xx (by omega),Xx (by omega)];exact d2
    have tF:= ((HT1.out.setCell (o:=j * 3) (by omega) (by omega) (.string txt)).setCell (o:=j * 3+1) (by omega) (by omega) (.int .i64 ((m:Int)+1))).but kb2 (Nat.le_refl _) (Nat.le_refl _) (.inl hBj) hrB.lt
    have HE:=Kz (And.intro e0 (And.intro e1 e2))
    have HTF:=Kz tF
    have HC2:=Kz hC2
    have HR2:=Kz hr2
    clear e0 e1 e2 tF hC2 hr2 kb2 s2 hrA hrB f0 f0c f1 f1c d2 HR1 HT1 HG5 HMS
    go_wp2
    go_roundw
    case rel=>
     obtain ⟨e0,e1,e2⟩:=HE.out
     have tF:=HTF.out
     refine ⟨j+1,m2,by omega,by go_num,by go_num,by have q1:=HMn.out;have q2:=HSum.out;have q4:=HM2.out;have q5:cntNode s= (s.steps.map cntStep).sum+2:=rfl;omega,hw.trans (tF.keptBut (by omega) (by have:=HMono.out (j+1) l.length (by omega);omega) hlo (by have:=HMono.out 0 l.length (by omega);omega)),HR2.out,fun t ht=> ?_⟩
     by_cases e:t=j
     ·subst e
      have em:nodeMix l k (t+1) t=markNode s m:=by
       unfold nodeMix
       rw [if_pos (by omega),<-HSd.out,<-HMn.out]
      rw [em]
      refine ⟨aa,ca, ?_,HC2.out⟩
      rw [markNode_cells,<-HTX.out]
      exact range3 e0 (by rw [e1];simp) e2
     ·have em:nodeMix l k (j+1) t=nodeMix l k j t:=by
       unfold nodeMix
       by_cases h:t < j
       ·rw [if_pos h,if_pos (by omega)]
       ·rw [if_neg h,if_neg (by omega)]
      rw [em]
      have hBt:B < c t:=Nat.lt_of_lt_of_le hBc (HMono.out 0 t (Nat.zero_le _))
      obtain ⟨aa',ca',z3,z4⟩:=HF.out t ht
      have hd:c (t+1)<=c j∨c (j+1)<=c t:=by
       by_cases h:t < j
       ·exact .inl (HMono.out _ _ (by omega))
       ·exact .inr (HMono.out _ _ (by omega))
      exact ⟨aa',ca',tF.range (by simp [Qq.cells];omega) z3,z4.same (tF.same (by omega) (.inl hBt))⟩
    case measure=> simp [intOf];omega
   ·have:j=l.length:=by omega
    subst this
    go_wp2
    go_ret
    refine ⟨ret_int (by have:=HMn.out;rw [sumTo_all] at this;omega),.inr ⟨B,c,rfl,hlo,hBc,by rw [markNodes_length];exact hhi,by rw [markNodes_length];exact hr',HMono.out,fun i hi'=> ?_⟩,hw⟩
    rw [markNodes_length] at hi'
    have:=HF.out i hi'
    rw [markNodes_getD _ _ _ hi']
    unfold nodeMix at this
    rw [if_pos hi'] at this
    exact this
theorem markWeb_any (w:World) (lo hi:Nat) (a:Option Addr) (cap:Nat) (l:List Qq) (k:Nat) (h0:0 < k) (h1:k+ (l.map cntNode).sum<=4611686018427387904) (hS:NodesIn w lo hi a l):
  Calls Tryz.prog 13 #[.agg #[.slice a l.length cap],.int .i64 k] w fun e w'=> e= .returned (.int .i64 ((k+ (l.map cntNode).sum:Nat):Int))∧NodesIn w' lo hi a (markNodes l k)∧Xk lo hi w w':=by
 have k0:K_ w (w.alloc (.cells #[.slice a l.length cap] 37)):= (K_.refl _).alloc _
 go_enter Tryz.func13,Tryz.ntmps13
 go_wp2_with fail
 refine (markNodeS_any _ lo hi a cap l k h0 h1 (hS.same (k0.same _ _))).mono ?_
 rintro e w1 ⟨rfl,hN,kb⟩
 obtain ⟨m2,hm2⟩: ∃m2,m2=k+ (l.map cntNode).sum:= ⟨_,rfl⟩
 rw [<-hm2]
 have HM2:=Kz hm2
 clear hm2
 go_wp2
 go_ret
 exact ⟨ret_int (by rw [HM2.out]),hN,(Xk.of_kept k0).trans kb⟩
