import Derived.Test.YtgnkgfjmbmcfcaaGreatDoorKURes
import Derived.Test.YtgnkgfjmbmcfcaaGreatDoorKFImpl2
set_option maxRecDepth 100000
set_option maxHeartbeats 25600000
namespace Go.Proofs.YtgnkgfjmbmcfcaaGreatDoor
open Go.RowKit
theorem Tryz.sizeResult : (Tryz.prog.info? 116).map (·.size)=some 4:=by kernel_rfl
theorem Tryz.infoResult : (Tryz.prog.info? 116).map (fun i=> (i.zero,i.size,i.bytes))=some (some (.agg #[.string ByteArray.empty,.bool false,.bool false,.string ByteArray.empty]),4,40):=by kernel_rfl
theorem ResD.one (r:ResD): (#[.string r.name,.bool r.over,.bool r.fail,.string r.text]:Array Value).all (·.oneCell')=true:=
 all_oneCell_toArray (cs:=[.string r.name,.bool r.over,.bool r.fail,.string r.text]) (by simp [Value.oneCell'])
theorem copyResult_any (w:World) (r:ResD) (hs:r.name.size<=1048576) (ht:r.text.size<=1048576):
  Calls Tryz.prog 129 #[.agg #[.string r.name,.bool r.over,.bool r.fail,.string r.text]] w fun e w'=> e= .returned (.agg #[.string r.name,.bool r.over,.bool r.fail,.string r.text])∧K_ w w':=by
 go_enter Tryz.func129,Tryz.ntmps129
 go_wp2_with fail
 refine (clone_any _ r.name hs).mono ?_
 rintro e w1 ⟨rfl,k1⟩
 have hrow0:Row w1 w.heap.size 4:=Row.kept (Row.alloc (by have:=Row.made w #[.string r.name,.bool r.over,.bool r.fail,.string r.text] 116;simpa using this) _) k1
 have p0:w1.cell? ⟨w.heap.size,0,none⟩=some (.string r.name):=by rw [k1.cell (by simp <;> omega)];simp
 have p1:w1.cell? ⟨w.heap.size,1,none⟩=some (.bool r.over):=by rw [k1.cell (by simp <;> omega)];simp
 have p2:w1.cell? ⟨w.heap.size,2,none⟩=some (.bool r.fail):=by rw [k1.cell (by simp <;> omega)];simp
 have p3:w1.cell? ⟨w.heap.size,3,none⟩=some (.string r.text):=by rw [k1.cell (by simp <;> omega)];simp
 have hrow1:Row w1 (w.heap.size+1) 4:=Row.kept (by have:=Row.made (w.alloc (.cells #[.string r.name,.bool r.over,.bool r.fail,.string r.text] 116)) #[.string ⟨#[]⟩,.bool false,.bool false,.string ⟨#[]⟩] 116;simpa using this) k1
 have K1:K_ w w1:=K_.trans (by repeat (first | apply K_.alloc | exact K_.refl _)) k1
 have f0:= (hrow0.at (i:=0) (by omega)).2
 have hz1:=hrow0.lt
 have HR0:=Kz hrow0
 have HR1:=Kz hrow1
 have HP:=Kz (And.intro p1 (And.intro p2 p3))
 clear k1 hrow1 hrow0 p1 p2
 go_wp2_with fail
 have r1:Row (w1.setCell ⟨w.heap.size,0,none⟩ (.string r.name)) w.heap.size 4:=HR0.out.set _ rfl _
 refine (clone_any _ r.text ht).mono ?_
 rintro e w2 ⟨rfl,k2⟩
 have z1:=r1.lt
 have r2:=r1.kept k2
 have q0:w2.cell? ⟨w.heap.size,0,none⟩=some (.string r.name):=by rw [k2.cell z1];exact set_hit HR0.out (by omega) _
 have q1:w2.cell? ⟨w.heap.size,1,none⟩=some (.bool r.over):=by rw [k2.cell z1,Xx (by omega)];exact HP.out.1
 have q2:w2.cell? ⟨w.heap.size,2,none⟩=some (.bool r.fail):=by rw [k2.cell z1,Xx (by omega)];exact HP.out.2.1
 have q3:w2.cell? ⟨w.heap.size,3,none⟩=some (.string r.text):=by rw [k2.cell z1,Xx (by omega)];exact HP.out.2.2
 have HX:Hid (Row w2 (w.heap.size+1) 4):= (HR1.out.set _ rfl _).kept k2
 have HK2:Hid (K_ w w2):=K_.trans (K_.setCell K1 (by simp) _) k2
 have f3:= (r2.at (i:=3) (by omega)).2
 have z2:=r2.lt
 obtain ⟨⟨v0,x0⟩,g0⟩:=HX.out.at (i:=0) (by omega)
 obtain ⟨⟨v1,x1⟩,g1⟩:=HX.out.at (i:=1) (by omega)
 obtain ⟨⟨v2,x2⟩,g2⟩:=HX.out.at (i:=2) (by omega)
 obtain ⟨⟨v3,x3⟩,g3⟩:=HX.out.at (i:=3) (by omega)
 clear k2 r1 z1 p0 p3 hz1 f0 HR0 HR1 HP K1 r2
 go_wp2
 have hX:Row (w2.setCell ⟨w.heap.size,3,none⟩ (.string r.text)) (w.heap.size+1) 4:=Row.set HX.out _ rfl _
 have hR:=World.rangeAt_setCells_same _ (w.heap.size+1) 0 r.cells (hX.there (o:=0) (m:=4) (Nat.le_refl _))
 refine X_ r.cells _ Tryz.results129 rfl hR Tryz.underlying116 rfl Tryz.sizeResult rfl ⟨rfl, ?_⟩
 have K2:=HK2.out
 repeat (first | (refine K_.setCell ?_ (by simp <;> omega) _) | exact K2)
theorem copyRess_in (w:World) (a:Option Addr) (cap:Nat) (l:List ResD) (hl:l.length<=1048576) (hs: ∀c∈l,c.name.size<=1048576∧c.text.size<=1048576) (hS:Ress w a l):
  Calls Tryz.prog 128 #[.slice a l.length cap,.func (.func 129) #[] #[]] w fun e w'=> ∃a',e= .returned (.slice a' l.length l.length)∧RessIn w' w.heap.size w'.heap.size a' l∧K_ w w':=by
 by_cases h0:l.length=0
 ·have hnil:l=[]:=List.eq_nil_of_length_eq_zero h0
  subst hnil
  go_enter Tryz.func128,Tryz.ntmps128
  go_wp2
  go_ret
  exact ⟨none,rfl,.inl rfl,K_.refl _⟩
 ·have hmk:=run_make_many (P:=Tryz.prog) 29 116 _ _ _ Tryz.underlying29 Tryz.infoResult .i64 .i64 l.length (by omega) (by omega)
  have h00: ((l.length:Int) == 0)=false:=by simpa using h0
  go_enter Tryz.func128,Tryz.ntmps128
  go_wp2
  clear hmk h00
  have hrow:=Row.made w (madeCells #[.string ByteArray.empty,.bool false,.bool false,.string ByteArray.empty] (l.length * 4)) 116
  rw [size_madeCells] at hrow
  have hkept:K_ w (w.alloc (.cells (madeCells #[.string ByteArray.empty,.bool false,.bool false,.string ByteArray.empty] (l.length * 4)) 116)):= (K_.refl _).alloc _
  go_loopw [16] (fun i wr=> ∃k:Nat,k<=l.length∧i= .int .i64 k∧K_ w wr∧Row wr w.heap.size (l.length * 4)∧∀j,j < k->wr.rangeAt w.heap.size (j * 4) (l.getD j ResD.zero).cells) (fun i _=> l.length - (intOf i).toNat)
  case atStart=> exact ⟨0,Nat.zero_le _,rfl,hkept,hrow,fun j hj=> absurd hj (Nat.not_lt_zero _)⟩
  case round=>
   obtain ⟨k,hk,rfl,hw,hr,hf⟩:=hrel
   clear hrow hkept
   by_cases hlt:k < l.length
   ·obtain ⟨b,o,rfl,hb,hc⟩:=hS.kept hw k hlt
    have hsz:=hs (l.getD k ResD.zero) (by simp [List.getD,hlt])
    have HF:=Kz hf
    clear hf
    obtain ⟨c,hsd⟩: ∃c,c=l.getD k ResD.zero:= ⟨_,rfl⟩
    rw [<-hsd] at hc hsz
    have HSd:=Kz hsd
    clear hsd
    have c0:=hc 0 _ rfl
    have c1:=hc 1 _ rfl
    have c2:=hc 2 _ rfl
    have c3:=hc 3 _ rfl
    simp only [Nat.add_zero] at c0
    clear hc
    have hrl:=hr.lt
    go_wp2_with fail
    refine (copyResult_any _ c hsz.1 hsz.2).mono ?_
    rintro e w1 ⟨rfl,k1⟩
    have kk:K_ wr w1:=K_.trans (by repeat (first | (refine K_.setCell ?_ (by simp) _) | apply K_.alloc | exact K_.refl _)) k1
    have hw2:=hw.trans kk
    have hr1:=hr.kept kk
    have hth:=hr1.there (o:=k * 4) (m:=4) (by omega)
    have HTt:=Kz hth
    have HR:=Kz hr1
    have HF1:Hid (∀j,j < k->w1.rangeAt w.heap.size (j * 4) (l.getD j ResD.zero).cells):=fun j hj=> kk.range hrl (HF.out j hj)
    clear HF c0 c1 c2 c3 hw k1 kk hr hr1
    go_wp2_with (refine wpList_store_mid ?hgd 116 (.tmp 26) (.tmp 25) (by with_reducible rfl) w.heap.size (k * 4) #[.string c.name,.bool c.over,.bool c.fail,.string c.text] ?hx ?hy ?ht ?hi ?h1 ?_)
    case hgd=> rfl
    case hx=> rfl
    case hy=> rfl
    case ht=> exact hth
    case hi=> exact Tryz.sizeResult
    case h1=> exact ResD.one c
    generalize hw6:World.setCells w1 w.heap.size (k * 4) (Array.toList #[.string c.name,.bool c.over,.bool c.fail,.string c.text])=w6
    have HW6:=Kz hw6
    clear hw6 hth hsz
    go_wp2_with fail
    go_roundw
    case rel=>
     have hw6:=HW6.out
     subst hw6
     refine ⟨k+1,by omega,by go_num,K_.setCells (Nat.le_refl _) c.cells (k * 4) hw2,Row.setCells c.cells (k * 4) HR.out,fun j hj=> ?_⟩
     by_cases e:j=k
     ·subst e
      rw [<-HSd.out]
      exact World.rangeAt_setCells_same w1 w.heap.size (j * 4) c.cells HTt.out
     ·exact World.rangeAt_setCells_apart (HF1.out j (by omega)) w.heap.size (k * 4) c.cells (by simp [ResD.cells];omega)
    case measure=> simp [intOf];omega
   ·go_wp2
    go_ret
    have:k=l.length:=by omega
    subst this
    exact ⟨_,rfl,.inr ⟨w.heap.size,rfl,Nat.le_refl _,hr.lt,hr,hf⟩,hw⟩
theorem notOver_any (w:World) (r:ResD):
  Calls Tryz.prog 81 #[.agg #[.string r.name,.bool r.over,.bool r.fail,.string r.text]] w fun e w'=> e= .returned (.bool (!r.over))∧K_ w w':=by
 go_enter Tryz.func81,Tryz.ntmps81
 go_wp2
 go_ret
 exact ⟨rfl,(K_.refl _).alloc _⟩
theorem notOverAt_any (w:World) (a:Option Addr) (cap:Nat) (l:List ResD) (hl:l.length<=1048576) (hS:Ress w a l):
  Calls Tryz.prog 131 #[.slice a l.length cap,.func (.func 81) #[] #[]] w fun e w'=> (∃i:Int,e= .returned (.int .i64 i)∧(0<=i↔∃r∈l,r.over=false))∧K_ w w':=by
 go_enter Tryz.func131,Tryz.ntmps131
 go_wp2
 go_loopw [8] (fun i wr=> ∃k:Nat,k<=l.length∧i= .int .i64 (k:Int)∧Hid (∀r∈l.take k,r.over=true)∧K_ w wr) (fun i _=> l.length - (intOf i).toNat)
 case atStart=> exact ⟨0,Nat.zero_le _,rfl,Kz (fun r hr=> by simp at hr),K_.refl _⟩
 case round=>
  obtain ⟨k,hk,rfl,HN,hw⟩:=hrel
  by_cases hlt:k < l.length
  ·obtain ⟨b,o,rfl,hb,hc⟩:=hS.kept hw k hlt
   obtain ⟨c,hsd⟩: ∃c,c=l.getD k ResD.zero:= ⟨_,rfl⟩
   rw [<-hsd] at hc
   have hcg:l[k]=c:=by rw [hsd];simp [List.getD,hlt]
   have HC:=Kz hcg
   have c0:=hc 0 _ rfl
   have c1:=hc 1 _ rfl
   have c2:=hc 2 _ rfl
   have c3:=hc 3 _ rfl
   simp only [Nat.add_zero] at c0
   have hki: (k:Int) < (l.length:Int):=by omega
   clear hc hsd hcg
   go_wp2_with fail
   refine (notOver_any _ c).mono ?_
   rintro e w1 ⟨rfl,k1⟩
   have K1:=hw.trans k1
   clear c0 c1 c2 c3
   cases hov:c.over
   ·go_wp2_with fail
    go_ret
    exact ⟨⟨_,rfl,fun _=> ⟨c,by rw [<-HC.out];exact List.getElem_mem hlt,hov⟩,fun _=> by omega⟩,K1⟩
   ·have HN2:Hid (∀r∈l.take (k+1),r.over=true):=fun r hr=> by
     rw [List.take_succ_eq_append_getElem hlt,HC.out] at hr
     rcases List.mem_append.1 hr with h | h
     ·exact HN.out r h
     ·rw [List.mem_singleton] at h;rw [h];exact hov
    go_wp2_with fail
    go_roundw
    case rel=> exact ⟨k+1,by omega,by go_num,HN2,K1⟩
    case measure=> simp [intOf];omega
  ·have hnk: ¬((k:Int) < (l.length:Int)):=by omega
   have HAll:Hid (∀r∈l,r.over=true):=by have h:=HN.out;rw [List.take_of_length_le (by omega)] at h;exact h
   clear hlt
   go_wp2_with fail
   go_ret
   exact ⟨⟨_,rfl,fun h=> by omega,fun ⟨r,h1,h2⟩=> by have:=HAll.out r h1;rw [h2] at this;cases this⟩,hw⟩
theorem anyNotOver_any (w:World) (a:Option Addr) (cap:Nat) (l:List ResD) (hl:l.length<=1048576) (hS:Ress w a l):
  Calls Tryz.prog 80 #[.slice a l.length cap,.func (.func 81) #[] #[]] w fun e w'=> Says e (∃r∈l,r.over=false)∧K_ w w':=by
 go_enter Tryz.func80,Tryz.ntmps80
 go_wp2_with fail
 refine (notOverAt_any w a cap l hl hS).mono ?_
 rintro e w1 ⟨⟨i,rfl,hi⟩,k1⟩
 cases h0:decide ((0:Int)<=i)
 ·have HI:Hid (¬∃r∈l,r.over=false):=fun h=> by have:=hi.2 h;simp [this] at h0
  clear hi
  go_wp2_with fail
  go_ret
  exact ⟨Says.no HI.out,k1⟩
 ·have HI:=Kz (hi.1 (by simpa using h0))
  clear hi
  go_wp2_with fail
  go_ret
  exact ⟨Says.yes HI.out,k1⟩
