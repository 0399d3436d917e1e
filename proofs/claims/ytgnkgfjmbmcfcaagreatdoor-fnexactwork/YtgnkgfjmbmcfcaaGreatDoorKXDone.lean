import Derived.Test.YtgnkgfjmbmcfcaaGreatDoorKBSeq
import Derived.Test.YtgnkgfjmbmcfcaaGreatDoorKRCopy
import Derived.Test.YtgnkgfjmbmcfcaaGreatDoorKXJoin
import Derived.Test.YtgnkgfjmbmcfcaaGreatDoorKCResO
import Derived.Test.YtgnkgfjmbmcfcaaGreatDoorKDHas
set_option maxRecDepth 100000
set_option maxHeartbeats 25600000
namespace Go.Proofs.YtgnkgfjmbmcfcaaGreatDoor
open Go.RowKit
theorem Tryz.sizeSlot : (Tryz.prog.info? 109).map (·.size)=some 3:=by kernel_rfl
theorem Tryz.infoSlot : (Tryz.prog.info? 109).map (fun i=> (i.zero,i.size,i.bytes))=some (some (.agg #[.int .i64 0,.int .i64 0,.string ByteArray.empty]),3,32):=by kernel_rfl
theorem slot_one (x y:Int) (z:ByteArray): (#[.int .i64 x,.int .i64 y,.string z]:Array Value).all (·.oneCell')=true:=
 all_oneCell_toArray (cs:=[.int .i64 x,.int .i64 y,.string z]) (by simp [Value.oneCell'])
theorem copySlot_any (w:World) (x y:Int) (z:ByteArray) (hs:z.size<=1048576):
  Calls Tryz.prog 77 #[.agg #[.int .i64 x,.int .i64 y,.string z]] w fun e w'=> e= .returned (.agg #[.int .i64 x,.int .i64 y,.string z])∧K_ w w':=by
 go_enter Tryz.func77,Tryz.ntmps77
 go_wp2_with fail
 refine (clone_any _ z hs).mono ?_
 rintro e w1 ⟨rfl,k1⟩
 have hrow0:Row w1 w.heap.size 3:=Row.kept (Row.alloc (by have:=Row.made w #[.int .i64 x,.int .i64 y,.string z] 109;simpa using this) _) k1
 have p0:w1.cell? ⟨w.heap.size,0,none⟩=some (.int .i64 x):=by rw [k1.cell (by simp <;> omega)];simp
 have p1:w1.cell? ⟨w.heap.size,1,none⟩=some (.int .i64 y):=by rw [k1.cell (by simp <;> omega)];simp
 have p2:w1.cell? ⟨w.heap.size,2,none⟩=some (.string z):=by rw [k1.cell (by simp <;> omega)];simp
 have hrow1:Row w1 (w.heap.size+1) 3:=Row.kept (by have:=Row.made (w.alloc (.cells #[.int .i64 x,.int .i64 y,.string z] 109)) #[.int .i64 0,.int .i64 0,.string ⟨#[]⟩] 109;simpa using this) k1
 have HK1:Hid (K_ w w1):=K_.trans (by repeat (first | apply K_.alloc | exact K_.refl _)) k1
 have f2:= (hrow0.at (i:=2) (by omega)).2
 have hz1:=hrow0.lt
 have HX:=Kz hrow1
 obtain ⟨⟨v0,x0⟩,g0⟩:=hrow1.at (i:=0) (by omega)
 obtain ⟨⟨v1,x1⟩,g1⟩:=hrow1.at (i:=1) (by omega)
 obtain ⟨⟨v2,x2⟩,g2⟩:=hrow1.at (i:=2) (by omega)
 clear k1 hrow1 hrow0
 go_wp2
 have hX:Row (w1.setCell ⟨w.heap.size,2,none⟩ (.string z)) (w.heap.size+1) 3:=Row.set HX.out _ rfl _
 have hR:=World.rangeAt_setCells_same _ (w.heap.size+1) 0 [.int .i64 x,.int .i64 y,.string z] (hX.there (o:=0) (m:=3) (Nat.le_refl _))
 refine X_ [.int .i64 x,.int .i64 y,.string z] _ Tryz.results77 rfl hR Tryz.underlying109 rfl Tryz.sizeSlot rfl ⟨rfl, ?_⟩
 have K2:=HK1.out
 repeat (first | (refine K_.setCell ?_ (by simp <;> omega) _) | exact K2)
theorem copySlts_in (w:World) (a:Option Addr) (cap:Nat) (l:List SlotD) (hl:l.length<=1048576) (hs: ∀c∈l,c.name.size<=1048576) (hS:Slts w a l):
  Calls Tryz.prog 76 #[.slice a l.length cap,.func (.func 77) #[] #[]] w fun e w'=> ∃a',e= .returned (.slice a' l.length l.length)∧SltsIn w' w.heap.size w'.heap.size a' l∧K_ w w':=by
 by_cases h0:l.length=0
 ·have hnil:l=[]:=List.eq_nil_of_length_eq_zero h0
  subst hnil
  go_enter Tryz.func76,Tryz.ntmps76
  go_wp2
  go_ret
  exact ⟨none,rfl,.inl rfl,K_.refl _⟩
 ·have hmk:=run_make_many (P:=Tryz.prog) 28 109 _ _ _ Tryz.underlying28 Tryz.infoSlot .i64 .i64 l.length (by omega) (by omega)
  have h00: ((l.length:Int) == 0)=false:=by simpa using h0
  go_enter Tryz.func76,Tryz.ntmps76
  go_wp2
  clear hmk h00
  have hrow:=Row.made w (madeCells #[.int .i64 0,.int .i64 0,.string ByteArray.empty] (l.length * 3)) 109
  rw [size_madeCells] at hrow
  have hkept:K_ w (w.alloc (.cells (madeCells #[.int .i64 0,.int .i64 0,.string ByteArray.empty] (l.length * 3)) 109)):= (K_.refl _).alloc _
  go_loopw [16] (fun i wr=> ∃k:Nat,k<=l.length∧i= .int .i64 k∧K_ w wr∧Row wr w.heap.size (l.length * 3)∧∀j,j < k->wr.rangeAt w.heap.size (j * 3) (l.getD j SlotD.zero).cells) (fun i _=> l.length - (intOf i).toNat)
  case atStart=> exact ⟨0,Nat.zero_le _,rfl,hkept,hrow,fun j hj=> absurd hj (Nat.not_lt_zero _)⟩
  case round=>
   obtain ⟨k,hk,rfl,hw,hr,hf⟩:=hrel
   clear hrow hkept
   by_cases hlt:k < l.length
   ·obtain ⟨b,o,rfl,hb,hc⟩:=hS.kept hw k hlt
    have hsz:=hs (l.getD k SlotD.zero) (by simp [List.getD,hlt])
    have HF:=Kz hf
    clear hf
    obtain ⟨c,hsd⟩: ∃c,c=l.getD k SlotD.zero:= ⟨_,rfl⟩
    rw [<-hsd] at hc hsz
    have HSd:=Kz hsd
    clear hsd
    have c0:=hc 0 _ rfl
    have c1:=hc 1 _ rfl
    have c2:=hc 2 _ rfl
    simp only [Nat.add_zero] at c0
    clear hc
    have hrl:=hr.lt
    go_wp2_with fail
    refine (copySlot_any _ c.at' (c.worker:Int) c.name hsz).mono ?_
    rintro e w1 ⟨rfl,k1⟩
    have kk:K_ wr w1:=K_.trans (by repeat (first | (refine K_.setCell ?_ (by simp) _) | apply K_.alloc | exact K_.refl _)) k1
    have hw2:=hw.trans kk
    have hr1:=hr.kept kk
    have hth:=hr1.there (o:=k * 3) (m:=3) (by omega)
    have HTt:=Kz hth
    have HR:=Kz hr1
    have HF1:Hid (∀j,j < k->w1.rangeAt w.heap.size (j * 3) (l.getD j SlotD.zero).cells):=fun j hj=> kk.range hrl (HF.out j hj)
    clear HF c0 c1 c2 hw k1 kk hr hr1
    go_wp2_with (refine wpList_store_mid ?hgd 109 (.tmp 26) (.tmp 25) (by with_reducible rfl) w.heap.size (k * 3) #[.int .i64 c.at',.int .i64 (c.worker:Int),.string c.name] ?hx ?hy ?ht ?hi ?h1 ?_)
    case hgd=> rfl
    case hx=> rfl
    case hy=> rfl
    case ht=> exact hth
    case hi=> exact Tryz.sizeSlot
    case h1=> exact slot_one _ _ _
    generalize hw6:World.setCells w1 w.heap.size (k * 3) (Array.toList #[.int .i64 c.at',.int .i64 (c.worker:Int),.string c.name])=w6
    have HW6:=Kz hw6
    clear hw6 hth hsz
    go_wp2_with fail
    go_roundw
    case rel=>
     have hw6:=HW6.out
     subst hw6
     refine ⟨k+1,by omega,by go_num,K_.setCells (Nat.le_refl _) c.cells (k * 3) hw2,Row.setCells c.cells (k * 3) HR.out,fun j hj=> ?_⟩
     by_cases e:j=k
     ·subst e
      rw [<-HSd.out]
      exact World.rangeAt_setCells_same w1 w.heap.size (j * 3) c.cells HTt.out
     ·exact World.rangeAt_setCells_apart (HF1.out j (by omega)) w.heap.size (k * 3) c.cells (by simp [SlotD.cells];omega)
    case measure=> simp [intOf];omega
   ·go_wp2
    go_ret
    have:k=l.length:=by omega
    subst this
    exact ⟨_,rfl,.inr ⟨w.heap.size,rfl,Nat.le_refl _,hr.lt,hr,hf⟩,hw⟩
def slCells :List SlotD->List Value
 | []=> []
 | c :: r=> c.cells++slCells r
theorem slCells_snoc : ∀(l:List SlotD) (c:SlotD),slCells (l++ [c])=slCells l++c.cells
 | [],c=> by simp [slCells]
 | x :: l,c=> by simp [slCells,slCells_snoc l c]
theorem slCells_length : ∀(l:List SlotD),(slCells l).length=l.length * 3
 | []=> rfl
 | c :: r=> by simp [slCells,slCells_length r,SlotD.cells];omega
theorem slCells_get : ∀(l:List SlotD) (i j:Nat),i < l.length->j < 3->(slCells l)[i * 3+j]? = ((l.getD i SlotD.zero).cells)[j]?
 | [],_,_,h,_=> absurd h (Nat.not_lt_zero _)
 | c :: r,0,j,_,hj=> by
  have e:slCells (c :: r)=c.cells++slCells r:=rfl
  rw [e,Nat.zero_mul,Nat.zero_add,List.getElem?_append_left (by simpa [SlotD.cells] using hj)]
  rfl
 | c :: r,i+1,j,h,hj=> by
  have e:slCells (c :: r)=c.cells++slCells r:=rfl
  have hl:c.cells.length=3:=rfl
  rw [e,List.getElem?_append_right (by rw [hl];omega),hl,show (i+1) * 3+j - 3=i * 3+j by omega,slCells_get r i j (by simpa using h) hj]
  rfl
theorem owned_slts {w:World} {base:Nat} {t:TypeId} {a:Option Addr} {n cap:Nat} {l:List SlotD} (h:w.ownsRow base t 3 (.slice a n cap) n (slCells l)):n=l.length∧Slts w a l:=by
 have hn:n=l.length:=by have:=h.1;rw [slCells_length] at this;omega
 subst hn
 refine ⟨rfl, ?_⟩
 rcases h.2 with ⟨e,h0⟩ | ⟨g,cap',cur,e,hb,hg,hnc,_,_,_⟩
 ·exact fun i hi=> by omega
 ·injection e with e1 e2 e3
  subst e1 e3
  refine fun i hi=> ⟨g,0,rfl,heap_lt hg,fun j u hu=> ?_⟩
  have hj:j < 3:=by have:= (List.getElem?_eq_some_iff.1 hu).1;simpa [SlotD.cells] using this
  have:=h.cells (g:=g) rfl (i * 3+j) u (by rw [slCells_get l i j hi hj];exact hu)
  rw [Addr.add_mid,Nat.zero_add] at this
  rw [Nat.zero_add]
  exact this
def EffsOf (es:Nat->EffX) (l:List SlotD):Prop:= ∀i (hi:i < l.length),(es i).at'=l[i].at'∧(es i).worker= (l[i].worker:Int)∧(es i).name=l[i].name
theorem crewSlots_any {c:CrewC} {mx mq:Nat} {D:CrewD} {w:World} {l:List SlotD} (h:CrewW c mx mq l.length D w) (hE:EffsOf D.es l) (hl:l.length<=100000) (hs: ∀s∈l,s.name.size<=1048576):
  Calls Tryz.prog 31 #[.pointer (some ⟨c.cb,0,none⟩)] w fun e w'=> ∃a',e= .returned (.slice a' l.length l.length)∧SltsIn w' w.heap.size w'.heap.size a' l∧K_ w w':=by
 obtain ⟨cb,hcb⟩: ∃cb,cb=c.cb:= ⟨_,rfl⟩
 have hH:=h.effH
 rw [<-hcb] at hH⊢
 have c1:=hH.c0
 have HH:=Kz hH
 have HE:=Kz hE
 have HS:=Kz hs
 obtain ⟨ic,hi0,hi1,hi2,hi3⟩:=xInfo_parts Tryz.infoSlot
 clear h hE hs hcb hH
 obtain ⟨n,hn⟩: ∃n,n=l.length:= ⟨_,rfl⟩
 rw [<-hn] at c1 HH hl⊢
 have HN:=Kz hn
 clear hn
 obtain ⟨ea,hea⟩: ∃ea,ea=D.ea:= ⟨_,rfl⟩
 rw [<-hea] at c1 HH
 clear hea
 go_enter Tryz.func31,Tryz.ntmps31
 go_wp2
 go_loopw [3,11] (fun x3 x11 wr=> ∃(k:Nat) (av:Option Addr) (cv:Nat),k<=n∧x11= .int .i64 (k:Int)∧x3= .slice av k cv∧Hid (wr.ownsRow w.heap.size 109 3 (.slice av k cv) k (slCells (l.take k)))∧K_ w wr) (fun _ x11 _=> n - (intOf x11).toNat)
 case atStart=> exact ⟨0,none,0,Nat.zero_le _,rfl,rfl,Kz (World.ownsRow_nil _ _ _ _),K_.refl _⟩
 case round=>
  obtain ⟨k,av,cv,hk,rfl,rfl,HO,Kr⟩:=hrel
  by_cases hlt:k < n
  rotate_left
  ·have hnk: ¬((k:Int) < (n:Int)):=by omega
   have hke:k=n:=by omega
   have hle:k=l.length:=by rw [<-HN.out];exact hke
   have HSl:Hid (Slts wr av l):=by
    have h:=HO.out
    rw [hle,List.take_length] at h
    exact (owned_slts h).2
   have HKe:=Kz hke
   have hc:=copySlts_in wr av cv l (by omega) HS.out HSl.out
   rw [<-hle] at hc
   clear hlt hke hle
   go_wp2_with fail
   refine hc.mono ?_
   rintro e w2 ⟨a2,rfl,hI,k2⟩
   have HI:=Kz hI
   clear hI hc
   go_wp2_with fail
   go_ret
   exact ⟨a2,by rw [HKe.out];rfl,HI.out.mono Kr.size (Nat.le_refl _),Kr.trans k2⟩
  have hkk: (k:Int) < (n:Int):=by omega
  have hkl:k < l.length:=by rw [<-HN.out];exact hlt
  obtain ⟨g,rfl,hgl,_,_⟩:=HH.out.pos (by omega)
  obtain ⟨a1,a2,a3,a4,a5,a6,a7⟩:= (HH.out.kept Kr).cellE hlt
  obtain ⟨s,hsd⟩: ∃s,s=l[k]:= ⟨_,rfl⟩
  obtain ⟨e1,e2,e3⟩:=HE.out k hkl
  obtain ⟨x,hx⟩: ∃x,x=D.es k:= ⟨_,rfl⟩
  rw [<-hsd,<-hx] at e1 e2 e3
  rw [<-hx] at a1 a2 a3 a4 a5 a6 a7
  have HSd:Hid (l.take (k+1)=l.take k++ [s]):=by show _=_;rw [List.take_succ_eq_append_getElem hkl,hsd]
  rw [e1] at a1
  rw [e2] at a2
  rw [e3] at a3
  clear hx hsd e1 e2 e3 hkl
  obtain ⟨tb,htb⟩: ∃tb,tb=D.loc x.name:= ⟨_,rfl⟩
  rw [<-htb] at a4
  clear htb
  have k5:K_ wr ((wr.alloc (.cells #[.int .i64 s.at',.int .i64 (s.worker:Int),.string s.name,.pointer (some ⟨tb,0,none⟩),.int .i64 x.fin,.int .i64 x.place,.int .i64 x.cause] 147)).alloc (.cells #[.int .i64 s.at',.int .i64 (s.worker:Int),.string s.name] 109)):= ((K_.refl _).alloc _).alloc _
  have HOw:=Kz (ownsRow_kept' HO.out k5)
  have hbz:w.heap.size<=((wr.alloc (.cells #[.int .i64 s.at',.int .i64 (s.worker:Int),.string s.name,.pointer (some ⟨tb,0,none⟩),.int .i64 x.fin,.int .i64 x.place,.int .i64 x.cause] 147)).alloc (.cells #[.int .i64 s.at',.int .i64 (s.worker:Int),.string s.name] 109)).heap.size:= (Kr.trans k5).size
  have HNw:Hid (∀j u,([.int .i64 s.at',.int .i64 (s.worker:Int),.string s.name]:List Value)[j]? =some u->((wr.alloc (.cells #[.int .i64 s.at',.int .i64 (s.worker:Int),.string s.name,.pointer (some ⟨tb,0,none⟩),.int .i64 x.fin,.int .i64 x.place,.int .i64 x.cause] 147)).alloc (.cells #[.int .i64 s.at',.int .i64 (s.worker:Int),.string s.name] 109)).cell? ((⟨wr.heap.size+1,0,none⟩:Addr).add j)=some u):=fun j u hu=> by have:=Xz (wr.alloc (.cells #[.int .i64 s.at',.int .i64 (s.worker:Int),.string s.name,.pointer (some ⟨tb,0,none⟩),.int .i64 x.fin,.int .i64 x.place,.int .i64 x.cause] 147)) #[.int .i64 s.at',.int .i64 (s.worker:Int),.string s.name] 109 j u hu;rw [World.size_alloc] at this;rw [Addr.add_mid];exact this
  have HOne:Hid (∀u∈([.int .i64 s.at',.int .i64 (s.worker:Int),.string s.name]:List Value),u.oneCell'=true):=fun u hu=> by simp only [List.mem_cons,List.not_mem_nil,or_false] at hu;rcases hu with rfl | rfl | rfl <;> rfl
  have KK:=Kz (Kr.trans k5)
  clear k5
  go_wp2_with (at_builtin;refine wpList_append_own _ rfl (.tmp 15) (.tmp 18) 28 rfl w.heap.size 109 ic _ 3 32 Tryz.underlying28 hi0 hi1 hi2 hi3 rfl (by decide) (.slice av k cv) k (slCells (l.take k)) rfl HOw.out ⟨wr.heap.size+1,0,none⟩ 1 1 [.int .i64 s.at',.int .i64 (s.worker:Int),.string s.name] rfl rfl HNw.out HOne.out (by unfold maxLen;omega) (by omega) hbz ?_;intro v' w6 hown2 hgr _;have KP:=kept_of_grown KK.out (Nat.le_refl _) HOw.out hgr;have HP:=Kz hown2;obtain ⟨av2,cv2,rfl⟩:=own_slice hown2;clear hown2 hgr)
  go_roundw
  case rel=>
   refine ⟨k+1,av2,cv2,by omega,by go_num,rfl,Kz ?_,KP⟩
   rw [HSd.out,slCells_snoc]
   exact HP.out
  case measure=> simp [intOf];omega
def SlRow (w:World) (B g n cap:Nat) (f:Nat->SlotD):Prop:=w.ownsRow B 109 3 (.slice (some ⟨g,0,none⟩) n cap) n (flatH SlotD.cells f n)
def SlAt (u:World) (g k:Nat) (x:SlotD):Prop:=u.cell? ⟨g,k,none⟩=some (.int .i64 x.at')∧u.cell? ⟨g,k+1,none⟩=some (.int .i64 (x.worker:Int))∧u.cell? ⟨g,k+2,none⟩=some (.string x.name)
section
variable {w w' : World} {B g n cap : Nat} {f : Nat -> SlotD}
theorem slot_len (x:SlotD):x.cells.length=3:=rfl
theorem SlRow.kept (h:SlRow w B g n cap f) (k:K_ w w'):SlRow w' B g n cap f:=ownsRow_kept' h k
theorem SlRow.lt (h:SlRow w B g n cap f):g < w.heap.size∧B<=g:=by
 have:=World.ownsRow.lt h g rfl
 exact ⟨this.2,this.1⟩
theorem SlRow.at (h:SlRow w B g n cap f) {i:Nat} (hi:i < n):SlAt w g (i * 3) (f i):=by
 have hc: ∀j,j < 3->w.cell? ⟨g,i * 3+j,none⟩= ((f i).cells)[j]? :=fun j hj=> by
  have hl:i * 3+j < n * 3:=by omega
  rw [World.ownsRow.cellAt h _ hl]
  exact flatH_get slot_len f hi hj
 exact ⟨hc 0 (by omega),hc 1 (by omega),hc 2 (by omega)⟩
theorem SlRow.there (h:SlRow w B g n cap f) {i:Nat} (hi:i < n):w.there g (i * 3) 3:=by
 rcases h.2 with ⟨e,_⟩ | ⟨g',cap',cur,e,_,hg,hnc,_,hcs,_⟩
 ·cases e
 ·injection e with e1 e2 e3
  injection e1 with e1
  injection e1 with e1
  subst e1 e3
  have hr:RowT w g 109 (cap * 3):= ⟨cur,hg,hcs⟩
  exact hr.row.there (o:=i * 3) (m:=3) (by omega)
theorem SlRow.set (h:SlRow w B g n cap f) {i:Nat} (hi:i < n) (y:SlotD):SlRow (w.setCells g (i * 3) y.cells) B g n cap (fun k=> if k=i then y else f k):=by
 have hl:=flatH_len slot_len f n
 have hr:=owns_seg y.cells (i * 3) h (by rw [slot_len,hl];omega)
 rw [flatH_set slot_len f y hi] at hr
 exact hr
theorem SlRow.congr {f':Nat->SlotD} (h:SlRow w B g n cap f) (e: ∀i,i < n->f i=f' i):SlRow w B g n cap f':=by
 unfold SlRow at h⊢
 rw [<-flatH_congr e]
 exact h
end
theorem SlAt.cells {u u':World} {g k:Nat} {x:SlotD} (h:SlAt u g k x) (hc: ∀j,u'.cell? ⟨g,j,none⟩=u.cell? ⟨g,j,none⟩):SlAt u' g k x:= ⟨(hc _).trans h.1,(hc _).trans h.2.1,(hc _).trans h.2.2⟩
def revK (f:Nat->SlotD) (n k:Nat) (m:Nat):SlotD:=if m < k∨n<=m+k then f (n - 1 - m) else f m
theorem revK_step (f:Nat->SlotD) {n k:Nat} (h:k+1+k < n) (m:Nat) (hm:m < n): (if m=n - 1 - k then revK f n k k else if m=k then revK f n k (n - 1 - k) else revK f n k m)=revK f n (k+1) m:=by
 unfold revK
 by_cases h1:m=n - 1 - k
 ·rw [if_pos h1,if_neg (by omega),if_pos (by omega)]
  congr 1
  omega
 ·rw [if_neg h1]
  by_cases h2:m=k
  ·rw [if_pos h2,if_neg (by omega),if_pos (by omega)]
   congr 1
   omega
  ·rw [if_neg h2]
   by_cases h3:m < k∨n<=m+k
   ·rw [if_pos h3,if_pos (by omega)]
   ·rw [if_neg h3,if_neg (by omega)]
theorem reverse_any (w:World) (B g n cap:Nat) (f:Nat->SlotD) (h:SlRow w B g n cap f) (hn:n<=1000000):
  Calls Tryz.prog 87 #[.slice (some ⟨g,0,none⟩) n cap] w fun e w'=> e= .returned (.tuple #[])∧SlRow w' B g n cap (fun m=> f (n - 1 - m))∧But (fun x=> x=g) w w':=by
 have HO:=Kz h
 clear h
 have hsub:IntKind.i64.wrap ((n:Int) - 1)= (n:Int) - 1:=wrap_i64_in (by omega) (by omega)
 go_enter Tryz.func87,Tryz.ntmps87
 go_wp2
 go_loopw [2,3] (fun x2 x3 wr=> ∃k:Nat,x2= .int .i64 (k:Int)∧x3= .int .i64 ((n:Int) - 1 - (k:Int))∧2 * k<=n∧Hid (SlRow wr B g n cap (revK f n k))∧Hid (But (fun x=> x=g) w wr)) (fun x2 _ _=> n - (intOf x2).toNat)
 case atStart=> exact ⟨0,rfl,by simp,by omega,HO.out.congr (fun i hi=> by unfold revK;rw [if_neg (by omega)]),.of_kept (K_.refl w)⟩
 case round=>
  obtain ⟨k,rfl,rfl,hk,HR,HB⟩:=hrel
  clear hsub
  by_cases hlt:k+1+k < n
  ·have hlt2: (k:Int) < (n:Int) - 1 - (k:Int):=by omega
   obtain ⟨j,hj⟩: ∃j,j=n - 1 - k:= ⟨_,rfl⟩
   have hjj: (n:Int) - 1 - (k:Int)= (j:Int):=by omega
   rw [hjj] at hlt2⊢
   have hjn: (j:Int) < (n:Int):=by omega
   have hkn: (k:Int) < (n:Int):=by omega
   obtain ⟨F,hF⟩: ∃F,F=revK f n k:= ⟨_,rfl⟩
   rw [<-hF] at HR
   have HFF:=Kz hF
   have HJ:=Kz hj
   have HJJ:=Kz hjj
   obtain ⟨wd,hwd⟩: ∃wd,wd=wr.drew:= ⟨_,rfl⟩
   have kd:K_ wr wd:=by rw [hwd];exact (K_.refl wr).drew
   have HWD:=Kz hwd
   have hgl:=HR.out.lt.1
   have HH:Hid (∀u,K_ wr u->SlAt u g (k * 3) (F k)∧SlAt u g (j * 3) (F j)):=fun u ku=> ⟨((HR.out.kept ku).at (by omega)),((HR.out.kept ku).at (by omega))⟩
   have hd:=HR.out.kept kd
   obtain ⟨w1,hw1⟩: ∃w1,w1=wd.setCells g (k * 3) (F j).cells:= ⟨_,rfl⟩
   have h1:SlRow w1 B g n cap (fun m=> if m=k then F j else F m):=by rw [hw1];exact hd.set (by omega) (F j)
   have HT1:=Kz (hd.there (i:=k) (by omega))
   have HT2:=Kz (h1.there (i:=j) (by omega))
   have h2:=h1.set (i:=j) (by omega) (F k)
   have HFin:Hid (SlRow (w1.setCells g (j * 3) (F k).cells) B g n cap (revK f n (k+1))):=by
    refine h2.congr (fun m hm=> ?_)
    rw [<-revK_step f hlt m hm,<-hF,<-hj]
   have HBt:Hid (But (fun x=> x=g) w (w1.setCells g (j * 3) (F k).cells)):=by
    refine HB.out.trans ?_
    rw [hw1]
    exact But.setCells (S:=fun x=> x=g) rfl _ _ (But.setCells (S:=fun x=> x=g) rfl _ _ (.of_kept kd))
   have HW1:=Kz hw1
   clear hF hj hjj hwd kd hd hw1 h1 h2
   go_wp2_with fail
   refine UpZ.region (by kernel_rfl) (fun u=> SlAt u g (k * 3) (F k)∧SlAt u g (j * 3) (F j)) [13,15] (HH.out _ (K_.refl wr).drew) (fun Z_=> ?_)
   rw [<-HWD.out] at Z_⊢
   refine UpZ.take 0 [12,13,14,15] (v:= ?_) (by (simp only [List.getElem?_toArray,List.getElem?_cons_zero];rfl)) (by kernel_rfl) (by kernel_rfl) (by kernel_rfl) (by kernel_rfl) (by exact fun _ _ _ h=> h) (Or.inl ⟨by rfl, ?_⟩) Z_ ?_
   rotate_left
   ·intro u hu
    obtain ⟨⟨a1,a2,a3⟩,⟨b1,b2,b3⟩⟩:=hu
    go_simp
    try with_reducible rfl
   try simp only [Act.put,List.setIfInBounds_toArray,List.set_cons_zero,List.set_cons_succ]
   refine UpZ.take 1 [12,13,14,15] (v:= ?_) (by (simp only [List.getElem?_toArray,List.getElem?_cons_succ,List.getElem?_cons_zero];rfl)) (by kernel_rfl) (by kernel_rfl) (by kernel_rfl) (by kernel_rfl) (by exact fun _ _ _ h=> h) (Or.inl ⟨by rfl, ?_⟩) Z_ ?_
   rotate_left
   ·intro u hu
    obtain ⟨⟨a1,a2,a3⟩,⟨b1,b2,b3⟩⟩:=hu
    go_simp
    try with_reducible rfl
   try simp only [Act.put,List.setIfInBounds_toArray,List.set_cons_zero,List.set_cons_succ]
   refine UpZ.pure 2 (v:= ?_) (by (simp only [List.getElem?_toArray,List.getElem?_cons_succ,List.getElem?_cons_zero];rfl)) (by kernel_rfl) (by kernel_rfl) (by kernel_rfl) (by exact fun _ _ _ h=> h) (Or.inl ⟨by rfl, ?_⟩) ?_
   rotate_left
   ·intro u hu
    go_simp
    try with_reducible rfl
   try simp only [Act.put,List.setIfInBounds_toArray,List.set_cons_zero,List.set_cons_succ]
   refine UpZ.pure 3 (v:= ?_) (by (simp only [List.getElem?_toArray,List.getElem?_cons_succ,List.getElem?_cons_zero];rfl)) (by kernel_rfl) (by kernel_rfl) (by kernel_rfl) (by exact fun _ _ _ h=> h) (Or.inl ⟨by rfl, ?_⟩) ?_
   rotate_left
   ·intro u hu
    go_simp
    try with_reducible rfl
   try simp only [Act.put,List.setIfInBounds_toArray,List.set_cons_zero,List.set_cons_succ]
   refine UpZ.take 4 [6,7,12,13,14,15] (v:= ?_) (by (simp only [List.getElem?_toArray,List.getElem?_cons_succ,List.getElem?_cons_zero];rfl)) (by kernel_rfl) (by kernel_rfl) (by kernel_rfl) (by kernel_rfl) (by exact fun _ _ _ h=> h) (Or.inl ⟨by rfl, ?_⟩) Z_ ?_
   rotate_left
   ·intro u hu
    obtain ⟨⟨a1,a2,a3⟩,⟨b1,b2,b3⟩⟩:=hu
    go_simp
    try with_reducible rfl
   try simp only [Act.put,List.setIfInBounds_toArray,List.set_cons_zero,List.set_cons_succ]
   refine UpZ.take 5 [6,7,12,13,14,15] (v:= ?_) (by (simp only [List.getElem?_toArray,List.getElem?_cons_succ,List.getElem?_cons_zero];rfl)) (by kernel_rfl) (by kernel_rfl) (by kernel_rfl) (by kernel_rfl) (by exact fun _ _ _ h=> h) (Or.inl ⟨by rfl, ?_⟩) Z_ ?_
   rotate_left
   ·intro u hu
    obtain ⟨⟨a1,a2,a3⟩,⟨b1,b2,b3⟩⟩:=hu
    go_simp
    try with_reducible rfl
   try simp only [Act.put,List.setIfInBounds_toArray,List.set_cons_zero,List.set_cons_succ]
   refine UpZ.take 6 [7,12,13,14,15] (v:= ?_) (by (simp only [List.getElem?_toArray,List.getElem?_cons_succ,List.getElem?_cons_zero];rfl)) (by kernel_rfl) (by kernel_rfl) (by kernel_rfl) (by kernel_rfl) (by exact fun _ _ _ h=> h) (Or.inl ⟨by rfl, ?_⟩) Z_ ?_
   rotate_left
   ·intro u hu
    obtain ⟨⟨a1,a2,a3⟩,⟨b1,b2,b3⟩⟩:=hu
    go_simp
    try with_reducible rfl
   try simp only [Act.put,List.setIfInBounds_toArray,List.set_cons_zero,List.set_cons_succ]
   refine UpZ.take 7 [12,13,14,15] (v:= ?_) (by (simp only [List.getElem?_toArray,List.getElem?_cons_succ,List.getElem?_cons_zero];rfl)) (by kernel_rfl) (by kernel_rfl) (by kernel_rfl) (by kernel_rfl) (by exact fun _ _ _ h=> h) (Or.inl ⟨by rfl, ?_⟩) Z_ ?_
   rotate_left
   ·intro u hu
    obtain ⟨⟨a1,a2,a3⟩,⟨b1,b2,b3⟩⟩:=hu
    go_simp
    try with_reducible rfl
   try simp only [Act.put,List.setIfInBounds_toArray,List.set_cons_zero,List.set_cons_succ]
   refine UpZ.take 8 [10,11,12,13,14,15] (v:= ?_) (by (simp only [List.getElem?_toArray,List.getElem?_cons_succ,List.getElem?_cons_zero];rfl)) (by kernel_rfl) (by kernel_rfl) (by kernel_rfl) (by kernel_rfl) (by exact fun _ _ _ h=> h) (Or.inl ⟨by rfl, ?_⟩) Z_ ?_
   rotate_left
   ·intro u hu
    obtain ⟨⟨a1,a2,a3⟩,⟨b1,b2,b3⟩⟩:=hu
    go_simp
    try with_reducible rfl
   try simp only [Act.put,List.setIfInBounds_toArray,List.set_cons_zero,List.set_cons_succ]
   refine UpZ.take 9 [10,11,12,13,14,15] (v:= ?_) (by (simp only [List.getElem?_toArray,List.getElem?_cons_succ,List.getElem?_cons_zero];rfl)) (by kernel_rfl) (by kernel_rfl) (by kernel_rfl) (by kernel_rfl) (by exact fun _ _ _ h=> h) (Or.inl ⟨by rfl, ?_⟩) Z_ ?_
   rotate_left
   ·intro u hu
    obtain ⟨⟨a1,a2,a3⟩,⟨b1,b2,b3⟩⟩:=hu
    go_simp
    try with_reducible rfl
   try simp only [Act.put,List.setIfInBounds_toArray,List.set_cons_zero,List.set_cons_succ]
   refine UpZ.take 10 [11,12,13,14,15] (v:= ?_) (by (simp only [List.getElem?_toArray,List.getElem?_cons_succ,List.getElem?_cons_zero];rfl)) (by kernel_rfl) (by kernel_rfl) (by kernel_rfl) (by kernel_rfl) (by exact fun _ _ _ h=> h) (Or.inl ⟨by rfl, ?_⟩) Z_ ?_
   rotate_left
   ·intro u hu
    obtain ⟨⟨a1,a2,a3⟩,⟨b1,b2,b3⟩⟩:=hu
    go_simp
    try with_reducible rfl
   try simp only [Act.put,List.setIfInBounds_toArray,List.set_cons_zero,List.set_cons_succ]
   refine UpZ.take 11 [12,13,14,15] (v:= ?_) (by (simp only [List.getElem?_toArray,List.getElem?_cons_succ,List.getElem?_cons_zero];rfl)) (by kernel_rfl) (by kernel_rfl) (by kernel_rfl) (by kernel_rfl) (by exact fun _ _ _ h=> h) (Or.inl ⟨by rfl, ?_⟩) Z_ ?_
   rotate_left
   ·intro u hu
    obtain ⟨⟨a1,a2,a3⟩,⟨b1,b2,b3⟩⟩:=hu
    go_simp
    try with_reducible rfl
   try simp only [Act.put,List.setIfInBounds_toArray,List.set_cons_zero,List.set_cons_succ]
   refine UpZ.take 12 [13,14,15] (v:= ?_) (by (simp only [List.getElem?_toArray,List.getElem?_cons_succ,List.getElem?_cons_zero];rfl)) (by kernel_rfl) (by kernel_rfl) (by kernel_rfl) (by kernel_rfl) (by exact fun _ _ _ h=> h) (Or.inl ⟨by rfl, ?_⟩) Z_ ?_
   rotate_left
   ·intro u hu
    obtain ⟨⟨a1,a2,a3⟩,⟨b1,b2,b3⟩⟩:=hu
    go_simp
    try with_reducible rfl
   try simp only [Act.put,List.setIfInBounds_toArray,List.set_cons_zero,List.set_cons_succ]
   refine UpZ.next 13 (by kernel_rfl) (by (simp only [List.getElem?_toArray,List.getElem?_cons_succ,List.getElem?_cons_zero];rfl)) (fun K hK=> ?_)
   rw [if_pos (by rfl)]
   refine wp_store_mid 109 _ _ rfl g (k * 3) #[.int .i64 (F j).at',.int .i64 ((F j).worker:Int),.string (F j).name] (by rfl) (by rfl) HT1.out (by kernel_rfl) (slot_one _ _ _) ?_
   rw [show wd.setCells g (k * 3) (Array.toList #[.int .i64 (F j).at',.int .i64 ((F j).worker:Int),.string (F j).name])=w1 from HW1.out.symm]
   refine hK.out _ _ (fun h=> absurd (by decide) h) ?_
   clear hK K
   try simp only [Act.put,List.setIfInBounds_toArray,List.set_cons_zero,List.set_cons_succ]
   refine UpZ.pure 14 (v:= ?_) (by (simp only [List.getElem?_toArray,List.getElem?_cons_succ,List.getElem?_cons_zero];rfl)) (by kernel_rfl) (by kernel_rfl) (by kernel_rfl) (by exact fun _ _ _ h=> h) (Or.inl ⟨by rfl, ?_⟩) ?_
   rotate_left
   ·intro u hu
    go_simp
    try with_reducible rfl
   try simp only [Act.put,List.setIfInBounds_toArray,List.set_cons_zero,List.set_cons_succ]
   refine UpZ.next 15 (by kernel_rfl) (by (simp only [List.getElem?_toArray,List.getElem?_cons_succ,List.getElem?_cons_zero];rfl)) (fun K hK=> ?_)
   rw [if_pos (by rfl)]
   refine wp_store_mid 109 _ _ rfl g (j * 3) #[.int .i64 (F k).at',.int .i64 ((F k).worker:Int),.string (F k).name] (by rfl) (by rfl) HT2.out (by kernel_rfl) (slot_one _ _ _) ?_
   refine hK.out _ _ (fun h=> absurd (by decide) h) ?_
   clear hK K
   try simp only [Act.put,List.setIfInBounds_toArray,List.set_cons_zero,List.set_cons_succ]
   refine UpZ.done (by kernel_rfl) ?_
   go_wp2
   go_roundw
   case rel=> exact ⟨k+1,by go_num,by have:=HJJ.out;simp only [Value.int.injEq,true_and];omega,by omega,HFin,HBt⟩
   case measure=> simp [intOf];omega
  ·have hge: ¬(k:Int) < (n:Int) - 1 - (k:Int):=by omega
   go_wp2
   go_end0
   refine ⟨rfl,HR.out.congr (fun m hm=> ?_),HB.out⟩
   unfold revK
   by_cases e:m < k∨n<=m+k
   ·rw [if_pos e]
   ·rw [if_neg e]
    congr 1
    omega
theorem endsAt_any (w:World) (x:EffX) (loc:ByteArray->Nat) (bx:Nat) (t:Int) (hb:bx < w.heap.size) (hc:w.cell? ⟨bx,0,none⟩=some (.int .i64 t)):
  Calls Tryz.prog 86 #[effV loc x,.pointer (some ⟨bx,0,none⟩)] w fun e w'=> e= .returned (.bool (x.fin == t))∧K_ w w':=by
 unfold effV
 have hne:bx≠w.heap.size:=by omega
 go_enter Tryz.func86,Tryz.ntmps86
 go_wp2
 go_ret
 exact ⟨rfl,(K_.refl _).alloc _⟩
def FirstF (es:Nat->EffX) (n:Nat) (t:Int) (i:Int):Prop:= (i= -1∧∀p,p < n->(es p).fin≠t)∨∃p:Nat,i=p∧p < n∧(es p).fin=t∧∀q,q < p->(es q).fin≠t
def FirstEnds (es:Nat->EffX) (n:Nat) (t:Int) (w:World) (e:Ending) (w':World):Prop:= ∃i:Int,e= .returned (.int .i64 i)∧FirstF es n t i∧K_ w w'
theorem endIndex_any (w:World) {b o B:Nat} {loc:ByteArray->Nat} {fn:Value} {es:Nat->EffX} {n:Nat} {ea:Option Addr} {ec:Nat} (h:HeapM w b o B 147 7 (effC loc) fn es n ea ec) (hn:n<=100000) (bx:Nat) (t:Int) (hb:bx < w.heap.size) (hc:w.cell? ⟨bx,0,none⟩=some (.int .i64 t)):
  Calls Tryz.prog 85 #[.slice ea n ec,.func (.func 86) #[] #[.pointer (some ⟨bx,0,none⟩)]] w fun e w'=> FirstEnds es n t w e w':=by
 have HH:=Kz h
 have HC:=Kz hc
 clear h hc
 go_enter Tryz.func85,Tryz.ntmps85
 go_wp2
 go_loopw [8] (fun i wr=> ∃k:Nat,k<=n∧i= .int .i64 (k:Int)∧Hid (∀q,q < k->(es q).fin≠t)∧Hid (K_ w wr)) (fun i _=> n - (intOf i).toNat)
 case atStart=> exact ⟨0,Nat.zero_le _,rfl,fun q hq=> absurd hq (Nat.not_lt_zero _),K_.refl _⟩
 case round=>
  obtain ⟨k,hk,rfl,HN,Kr⟩:=hrel
  by_cases hlt:k < n
  ·have hkn: (k:Int) < (n:Int):=by omega
   obtain ⟨g,rfl,_,_,_⟩:=HH.out.pos (by omega)
   obtain ⟨a1,a2,a3,a4,a5,a6,a7⟩:= (HH.out.kept Kr.out).cellE hlt
   have hcl:=endsAt_any wr (es k) loc bx t (by have:=Kr.out.size;omega) ((Kr.out.cell hb).trans HC.out)
   unfold effV at hcl
   obtain ⟨x,hx⟩: ∃x,x=es k:= ⟨_,rfl⟩
   rw [<-hx] at a1 a2 a3 a4 a5 a6 a7 hcl
   have HX:=Kz hx
   have HCl:=Kz hcl
   clear hx hcl
   go_wp2_with fail
   refine HCl.out.mono ?_
   rintro e w1 ⟨rfl,k1⟩
   have HK1:=Kz (Kr.out.trans k1)
   clear k1 a1 a2 a3 a4 a5 a6 a7
   by_cases he:x.fin=t
   ·have heb: (x.fin == t)=true:=by simpa using he
    have HE:=Kz he
    clear he
    go_wp2
    go_ret
    exact ⟨k,rfl,.inr ⟨k,rfl,hlt,by rw [<-HX.out];exact HE.out,HN.out⟩,HK1.out⟩
   ·have heb: (x.fin == t)=false:=by simpa using he
    have HE:=Kz he
    clear he
    go_wp2
    go_roundw
    case rel=>
     refine ⟨k+1,by omega,by go_num,fun q hq=> ?_,HK1⟩
     by_cases e:q=k
     ·rw [e,<-HX.out];exact HE.out
     ·exact HN.out q (by omega)
    case measure=> simp [intOf];omega
  ·have hkn: ¬(k:Int) < (n:Int):=by omega
   go_wp2
   go_ret
   exact ⟨-1,rfl,.inl ⟨rfl,fun p hp=> HN.out p (by omega)⟩,Kr.out⟩
theorem flat_sl (l:List SlotD):flatH SlotD.cells (fun i=> l.getD i SlotD.zero) l.length=slCells l:=by
 refine List.ext_getElem? (fun k=> ?_)
 by_cases hk:k < l.length * 3
 ·have e:k=k / 3 * 3+k % 3:=by omega
  rw [e,flatH_get slot_len _ (by omega) (by omega),slCells_get l _ _ (by omega) (by omega)]
 ·rw [List.getElem?_eq_none (by rw [flatH_len slot_len];omega),List.getElem?_eq_none (by rw [slCells_length];omega)]
theorem reverse_none (w:World):Calls Tryz.prog 87 #[.slice none 0 0] w fun e w'=> e= .returned (.tuple #[])∧w'=w:=by
 go_enter Tryz.func87,Tryz.ntmps87
 go_wp2
 go_loopw [2,3] (fun x2 x3 wr=> x2= .int .i64 0∧x3= .int .i64 (-1)∧wr=w) (fun _ _ _=> 0)
 case atStart=> exact ⟨rfl,rfl,rfl⟩
 case round=>
  obtain ⟨rfl,rfl,rfl⟩:=hrel
  go_wp2
  go_end0
  exact ⟨rfl,rfl⟩
theorem reverse_sl (w:World) (B n cap:Nat) (a:Option Addr) (l:List SlotD) (h:w.ownsRow B 109 3 (.slice a n cap) n (slCells l)) (hn:n<=1000000):
  Calls Tryz.prog 87 #[.slice a n cap] w fun e w'=> e= .returned (.tuple #[])∧w'.ownsRow B 109 3 (.slice a n cap) n (slCells l.reverse)∧But (fun x=> B<=x) w w':=by
 have hl:= (owned_slts h).1
 subst hl
 rcases h.2 with ⟨e,h0⟩ | ⟨g,cap',cur,e,hb,hg,hnc,_,_,_⟩
 ·injection e with e1 e2 e3
  subst e1 e3
  have hnil:l=[]:=List.eq_nil_of_length_eq_zero h0
  subst hnil
  refine (reverse_none w).mono ?_
  rintro e w' ⟨rfl,rfl⟩
  exact ⟨rfl,h,.of_kept (K_.refl _)⟩
 ·injection e with e1 e2 e3
  subst e1 e3
  rw [<-flat_sl] at h
  refine (reverse_any w B g _ _ _ h hn).mono ?_
  rintro e w' ⟨rfl,h2,k⟩
  refine ⟨rfl, ?_,k.mono (fun x _ e=> by rw [e];exact hb)⟩
  have h3:SlRow w' B g l.length cap (fun i=> l.reverse.getD i SlotD.zero):=h2.congr (fun i hi=> by
   simp only [List.getD,List.getElem?_reverse hi])
  have h4:=flat_sl l.reverse
  rw [List.length_reverse] at h4
  unfold SlRow at h3
  rw [h4] at h3
  exact h3
def ChEnd (W:Acts) (l:List SlotD) (bk:List Int) (t:Int) (w:World) (e:Ending) (w':World):Prop:=
 ∃(a':Option Addr) (ch:List SlotD) (p:Int),e= .returned (.slice a' ch.length ch.length)∧FirstEnd W l t p∧ChR l bk p ch∧ch.length<=l.length∧SltsIn w' w.heap.size w'.heap.size a' ch∧K_ w w'
theorem FirstF.ends {W:Acts} {es:Nat->EffX} {l:List SlotD} {bk:List Int} {t i:Int} (h:FirstF es l.length t i) (hb:bk.length=l.length) (hE: ∀p,p < l.length->es p=effAt W l bk p):FirstEnd W l t i∧ -1<=i∧i < l.length:=by
 have hf: ∀p (hp:p < l.length),(es p).fin=l[p].at'+costW W l[p].name:=fun p hp=> by
  rw [hE p hp]
  unfold effAt
  rw [List.getElem?_eq_getElem hp,List.getElem?_eq_getElem (by omega)]
 rcases h with ⟨rfl,h⟩ | ⟨p,rfl,hp,h1,h2⟩
 ·refine ⟨.inl ⟨rfl,fun s hs=> ?_⟩,by omega,by omega⟩
  obtain ⟨p,hp,rfl⟩:=List.getElem_of_mem hs
  rw [<-hf p hp]
  exact h p hp
 ·refine ⟨.inr ⟨p,l[p],rfl,List.getElem?_eq_getElem hp,by rw [<-hf p hp];exact h1,fun j x hj hx=> ?_⟩,by omega,by omega⟩
  obtain ⟨hjl,rfl⟩:=List.getElem?_eq_some_iff.1 hx
  rw [<-hf j hjl]
  exact h2 j hj
theorem crewChain_any {c:CrewC} {mx mq:Nat} {D:CrewD} {w:World} {W:Acts} {l:List SlotD} {bk:List Int} {t:Int} (h:CrewW c mx mq l.length D w) (hE: ∀p,p < l.length->D.es p=effAt W l bk p) (hbk:bk.length=l.length) (hprev: ∀(p:Nat) (c:Int),bk[p]? =some c-> -1<=c∧c < p) (hl:l.length<=100000) (hs: ∀s∈l,s.name.size<=1048576):
  Calls Tryz.prog 33 #[.pointer (some ⟨c.cb,0,none⟩),.int .i64 t] w fun e w'=> ChEnd W l bk t w e w':=by
 obtain ⟨cb,hcb⟩: ∃cb,cb=c.cb:= ⟨_,rfl⟩
 have hH:=h.effH
 rw [<-hcb] at hH⊢
 obtain ⟨ea,hea⟩: ∃ea,ea=D.ea:= ⟨_,rfl⟩
 rw [<-hea] at hH
 obtain ⟨n,hn⟩: ∃n,n=l.length:= ⟨_,rfl⟩
 rw [<-hn] at hH hl
 have HH:=Kz hH
 have HE:=Kz hE
 have HS:=Kz hs
 have HN:=Kz hn
 have HBk:=Kz hbk
 have HPr:=Kz hprev
 have hcl:=hH.lt
 have c1:=hH.c0
 obtain ⟨W1,hW1⟩: ∃W1,W1=w.alloc (.cells #[.int .i64 t] 3):= ⟨_,rfl⟩
 have K1:K_ w W1:=by rw [hW1];exact (K_.refl _).alloc _
 have q0:= (box1 (w:=w) (v:= .int .i64 t) (t:=3) (w1:=W1) (by rw [hW1];exact K_.refl _)).1
 have z1:w.heap.size < W1.heap.size:=by rw [hW1];simp
 have HIx:=Kz (endIndex_any W1 (hH.kept K1) hl w.heap.size t z1 q0)
 have c11:= (K1.cell (o:=1) hcl).trans c1
 obtain ⟨ic,hi0,hi1,hi2,hi3⟩:=xInfo_parts Tryz.infoSlot
 have HW1:=Kz hW1
 clear h hE hs hcb hH hea hn hbk hprev hW1 q0
 go_enter Tryz.func33,Tryz.ntmps33
 go_wp2_with fail
 rw [<-HW1.out]
 refine HIx.out.mono ?_
 rintro e w2 ⟨i,rfl,hi,k2⟩
 have hfe:=hi
 rw [HN.out] at hfe
 obtain ⟨g1,g2,g3⟩:=hfe.ends HBk.out HE.out
 have HG1:=Kz g1
 have K2:=K1.trans k2
 clear hi hfe k2 c11
 go_wp2_with fail
 go_loopw [5,7] (fun x5 x7 wr=> ∃(q:Int) (o:List SlotD) (av:Option Addr) (m cv:Nat),x7= .int .i64 q∧x5= .slice av m cv∧ -1<=q∧q < (n:Int)∧Hid (wr.ownsRow w.heap.size 109 3 (.slice av m cv) m (slCells o))∧Hid (∀rest,ChR l bk q rest->ChR l bk i (rest++o.reverse))∧Hid (∀s∈o,s∈l)∧Hid ((m:Int)+q<=i)∧Hid (K_ w wr)) (fun _ x7 _=> (intOf x7+1).toNat)
 case atStart=> exact ⟨i,[],none,0,0,rfl,rfl,g2,by rw [HN.out];exact g3,World.ownsRow_nil _ _ _ _,fun rest h=> (by simpa using h),fun s hs=> (by simp at hs),by show ((0:Nat):Int)+i<=i;omega,K2⟩
 case round=>
  obtain ⟨q,o,av,m,cv,rfl,rfl,hq1,hq2,HO,HC,HM,HL,HKr⟩:=hrel
  have hml: (m:Int)<=100000:=by have:=HL.out;rw [<-HN.out] at g3;omega
  by_cases hq:0<=q
  ·obtain ⟨p,rfl⟩: ∃p:Nat,q=p:= ⟨q.toNat,by omega⟩
   have hpn:p < n:=by omega
   have hpl:p < l.length:=by rw [<-HN.out];exact hpn
   obtain ⟨s,hsd⟩: ∃s,s=l[p]:= ⟨_,rfl⟩
   obtain ⟨cc,hcc⟩: ∃cc,cc=bk[p]'(by rw [HBk.out];exact hpl):= ⟨_,rfl⟩
   have hes:D.es p= ⟨s.at',(s.worker:Int),s.name,s.at'+costW W s.name,p,cc⟩:=by
    rw [HE.out p hpl]
    unfold effAt
    rw [List.getElem?_eq_getElem hpl,List.getElem?_eq_getElem (by rw [HBk.out];exact hpl),<-hsd,<-hcc]
   have hbp:bk[p]? =some cc:=by rw [hcc];exact List.getElem?_eq_getElem _
   have hpr:=HPr.out p cc hbp
   have HStep:Hid (∀rest,ChR l bk cc rest->ChR l bk i (rest++ (o++ [s]).reverse)):=fun rest hr=> by
    have hlp:l[p]? =some s:=by rw [hsd];exact List.getElem?_eq_getElem hpl
    have h:=HC.out _ (ChR.go hlp hbp hr)
    rw [List.reverse_append,List.reverse_singleton]
    simpa using h
   have HMm:Hid (∀x∈o++ [s],x∈l):=fun x hx=> by
    rcases List.mem_append.1 hx with hx | hx
    ·exact HM.out x hx
    ·rw [List.mem_singleton.1 hx,hsd];exact List.getElem_mem hpl
   obtain ⟨g,rfl,hgl,_,_⟩:=HH.out.pos (by omega)
   have hat:=fun (u:World) (ku:K_ w u)=> (HH.out.kept ku).cellE hpn
   rw [hes] at hat
   have HAt:=Kz hat
   have HCc:=Kz hpr
   obtain ⟨a1,a2,a3,_,_,_,_⟩:=hat wr HKr.out
   have c1r:= (HKr.out.cell (o:=1) hcl).trans c1
   have hpi: (p:Int) < (n:Int):=by omega
   have k5:K_ wr (wr.alloc (.cells #[.int .i64 s.at',.int .i64 (s.worker:Int),.string s.name] 109)):= (K_.refl _).alloc _
   have HOw:=Kz (ownsRow_kept' HO.out k5)
   have hbz:w.heap.size<=(wr.alloc (.cells #[.int .i64 s.at',.int .i64 (s.worker:Int),.string s.name] 109)).heap.size:= (HKr.out.trans k5).size
   have HNw:Hid (∀j u,([.int .i64 s.at',.int .i64 (s.worker:Int),.string s.name]:List Value)[j]? =some u->(wr.alloc (.cells #[.int .i64 s.at',.int .i64 (s.worker:Int),.string s.name] 109)).cell? ((⟨wr.heap.size,0,none⟩:Addr).add j)=some u):=fun j u hu=> by have:=Xz wr #[.int .i64 s.at',.int .i64 (s.worker:Int),.string s.name] 109 j u hu;rw [Addr.add_mid];exact this
   have HOne:Hid (∀u∈([.int .i64 s.at',.int .i64 (s.worker:Int),.string s.name]:List Value),u.oneCell'=true):=fun u hu=> by simp only [List.mem_cons,List.not_mem_nil,or_false] at hu;rcases hu with rfl | rfl | rfl <;> rfl
   have KK:=Kz (HKr.out.trans k5)
   clear k5 hsd hcc hes hbp hpr hat hq1 hq2
   go_wp2_with (at_builtin;refine wpList_append_own _ rfl (.tmp 25) (.tmp 34) 28 rfl w.heap.size 109 ic _ 3 32 Tryz.underlying28 hi0 hi1 hi2 hi3 rfl (by decide) (.slice av m cv) m (slCells o) rfl HOw.out ⟨wr.heap.size,0,none⟩ 1 1 [.int .i64 s.at',.int .i64 (s.worker:Int),.string s.name] rfl rfl HNw.out HOne.out (by unfold maxLen;omega) (by omega) hbz ?_;intro v' w6 hown2 hgr _;have KP:=kept_of_grown KK.out (Nat.le_refl _) HOw.out hgr;have HP:=Kz hown2;obtain ⟨av2,cv2,rfl⟩:=own_slice hown2;have c16:= (KP.cell (o:=1) hcl).trans c1;obtain ⟨_,_,_,_,_,_,b7⟩:=HAt.out w6 KP;dsimp only at b7;clear hown2 hgr)
   go_roundw
   case rel=>
    have h1:=HCc.out
    have h2:=HL.out
    refine ⟨cc,o++ [s],av2,m+1,cv2,rfl,rfl,h1.1,by omega, ?_,HStep,HMm,by show ((m+1:Nat):Int)+cc<=i;omega,KP⟩
    show _
    rw [slCells_snoc]
    exact HP.out
   case measure=> have h1:=HCc.out;simp [intOf];omega
  ·have hqn: ¬0<=q:=hq
   have HCh:Hid (ChR l bk i o.reverse):=by have h:=HC.out [] (.stop (by omega));rw [List.nil_append] at h;exact h
   have hrv:=reverse_sl wr w.heap.size m cv av o HO.out (by omega)
   clear hq
   go_wp2_with fail
   refine hrv.mono ?_
   rintro e w3 ⟨rfl,ho3,k3⟩
   have K3:K_ w w3:=k3.kept HKr.out (fun b e=> e)
   obtain ⟨hm3,hS3⟩:=owned_slts ho3
   have hcp:=copySlts_in w3 av cv o.reverse (by omega) (fun s hs=> HS.out s (HM.out s (List.mem_reverse.1 hs))) hS3
   rw [<-hm3] at hcp
   have HM3:=Kz hm3
   clear hrv ho3 k3 hm3 hS3
   go_wp2_with fail
   refine hcp.mono ?_
   rintro e w4 ⟨a4,rfl,hI4,k4⟩
   have HI4:=Kz hI4
   clear hI4 hcp
   go_wp2_with fail
   go_ret
   exact ⟨a4,o.reverse,i,by rw [HM3.out];rfl,HG1.out,HCh.out,(by have h1:=HM3.out;have h2:=HL.out;omega),HI4.out.mono K3.size (Nat.le_refl _),K3.trans k4⟩
open Go.RowKit Go.Shelf
attribute [local go_sem] Oper.semAt_some
def RdI (w1:World) (c:Nat) (Kj:List Qq) (σ:Env) (rs:List Qz) (i:Nat) (W:World):Prop:=
 K_ w1 W∧c < W.heap.size∧∃(ns:List ByteArray) (v:Value),W.cell? ⟨c,0,none⟩=some v∧W.frozen? ⟨c,0,none⟩=false∧W.ownsRow (c+1) 9 1 v ns.length (ns.map Value.string)∧ReadyL (Q_ Kj) σ (rs.take i) ns
theorem RdI.calm {w1:World} {c:Nat} {Kj:List Qq} {σ:Env} {rs:List Qz} {i B:Nat} (hw:w1.heap.size<=c) (hc:c < B):Calm B (RdI w1 c Kj σ rs i):=by
 constructor
 ·rintro W o hB ⟨k,hz,ns,v,h1,h2,h3,h4⟩
  have ka:= (K_.refl W).alloc o
  exact ⟨k.trans ka,by rw [World.size_alloc];omega,ns,v,(ka.cell hz).trans h1,(ka.rules.2 c 0 hz).trans h2,(But.of_kept (S:=fun _=> False) ka).owns h3 (fun _ _=> id),h4⟩
 ·rintro W l o o' hl ho hn ⟨k,hz,ns,v,h1,h2,h3,h4⟩
  have kb:But (fun b=> b=l) W (W.putObj l o'):= ⟨rfl,rfl,rfl,by rw [World.putObj_size];exact Nat.le_refl _,fun b _ e=> World.putObj_heap_other e⟩
  refine ⟨kb.kept k (fun b e=> by rw [e];omega),by rw [World.putObj_size];exact hz,ns,v,(put_cell o' (by omega)).trans h1,(put_frozen o' (by omega)).trans h2,kb.owns h3 (fun b hb e=> ?_),h4⟩
  have:=type_cells (Yz h3 hb) (by rw [e];exact ho)
  rw [hn] at this
  cases this
def StEnd (Kk:List ByteArray) (T:List Qz) (w w':World) (e:Ending):Prop:=
 ∃ra ds mid,e= .returned (.agg #[.slice ra Kk.length Kk.length,.slice ds T.length T.length])∧StrsIn w' w.heap.size mid ra Kk∧RunsInX w' mid w'.heap.size ds T∧w.heap.size<=mid∧mid<=w'.heap.size∧K_ w w'
section
variable {G : Ghost} {Kj : List Qq} {wz w w' : World} {bb : Nat} {a : Option Addr} {cap : Nat} {rd : Option Addr} {rc : Nat} {mb mx : Nat} {ts : List Zx} {d : Option Addr} {dc : Nat} {f : ByteArray -> Value} {ws : ByteArray -> List Nat}
end
attribute [local go_sem] Oper.semAt_some
def DoIEnd (Kj:List Qq) (Kk:List ByteArray) (sl:List Qz) (name:ByteArray) (w w':World) (e:Ending):Prop:=
 (ValidX Kj Kk sl∧∃T,DoneX Kj sl name T∧StEnd Kk T w w' e)∨(¬ValidX Kj Kk sl∧e= .returned (.agg #[.slice none 0 0,.slice none 0 0])∧K_ w w')
def DoI1 (W0:World) (p:Nat->Prop) (i:Nat) (W:World):Prop:=K_ W0 W∧∀j,j < i->¬p j
theorem DoI1.calm {W0:World} {p:Nat->Prop} {i:Nat}:Calm W0.heap.size (DoI1 W0 p i):=by
 constructor
 ·rintro W o hB ⟨k,h⟩
  exact ⟨k.alloc o,h⟩
 ·rintro W l o o' hl ho hn ⟨k,h⟩
  have kb:But (fun b=> b=l) W (W.putObj l o'):= ⟨rfl,rfl,rfl,by rw [World.putObj_size];exact Nat.le_refl _,fun b _ e=> World.putObj_heap_other e⟩
  exact ⟨kb.kept k (fun b e=> by rw [e];exact hl),h⟩
def DoI2 (W0:World) (Kf Kc:Nat->Prop) (Kj:List Qq) (wz:World) (bb:Nat) (a:Option Addr) (cap:Nat) (rd:Option Addr) (rn rc mb:Nat) (σ:Env) (name:ByteArray) (c:Code) (W:World):Prop:=
 c= .exit 0∧∃(mx:Nat) (ts2:List Zx) (d2:Option Addr) (dc2:Nat) (f2:ByteArray->Value) (ws2:ByteArray->List Nat),InB W0.heap.size Kf Kc [] W0 Kj wz W bb a cap rd rn rc mb mx ts2 d2 dc2 f2 ws2∧BS Kj ts2 ws2∧Qj (Qk ts2)=doX (Q_ Kj) σ name∧ReadyX (Q_ Kj) σ name
theorem DoI2.calm {W0:World} {Kf Kc:Nat->Prop} {Kj:List Qq} {wz:World} {bb:Nat} {a:Option Addr} {cap:Nat} {rd:Option Addr} {rn rc mb:Nat} {σ:Env} {name:ByteArray} {c:Code}:Calm W0.heap.size (DoI2 W0 Kf Kc Kj wz bb a cap rd rn rc mb σ name c):=by
 constructor
 ·rintro W o hB ⟨hc,mx,ts2,d2,dc2,f2,ws2,h1,h2⟩
  exact ⟨hc,mx,ts2,d2,dc2,f2,ws2,h1.kept ((K_.refl W).alloc o),h2⟩
 ·rintro W l o o' hl ho hn ⟨hc,mx,ts2,d2,dc2,f2,ws2,h1,h2⟩
  exact ⟨hc,mx,ts2,d2,dc2,f2,ws2,h1.calm o' hl ho hn,h2⟩
theorem strs_sets {w u:World} {lo g:Nat} {vs:List Value} {a:Option Addr} {l:List ByteArray} (h:Strs w a l) (hb:l≠[]->∀ad:Addr,a=some ad->lo<=ad.block) (hg:g < lo∨w.heap.size<=g) (k:K_ w u):Strs (u.setCells g 0 vs) a l:=by
 intro i hi
 obtain ⟨b,o,rfl,h1,hc⟩:=h i hi
 have h2:lo<=b:=hb (by rintro rfl;simp at hi) _ rfl
 have h3:=k.size
 exact ⟨b,o,rfl,by rw [size_setCells];omega,by rw [World.cell?_setCells_out g vs 0 u _ (fun e _=> by simp at e;omega),k.cell h1];exact hc⟩
def RunsLo (w:World) (lo:Nat) (d:Option Addr) (l:List Qz):Prop:=
 ∀i,i < l.length->∃b o xa xc,d=some ⟨b,o,none⟩∧b < w.heap.size∧lo<=b∧w.rangeAt b (o+i * 7) ((l.getD i Qz.zero).cells xa xc)∧Strs w xa (l.getD i Qz.zero).texts∧(xa=none->xc=0)∧((l.getD i Qz.zero).texts≠[]->∀ad:Addr,xa=some ad->lo<=ad.block)
theorem RunsLo.sets {w u:World} {lo g:Nat} {vs:List Value} {d:Option Addr} {l:List Qz} (h:RunsLo w lo d l) (hg:g < lo∨w.heap.size<=g) (k:K_ w u):RunsX (u.setCells g 0 vs) d l:=by
 intro i hi
 obtain ⟨b,o,xa,xc,rfl,h1,h2,h3,h4,h5,h6⟩:=h i hi
 have hk:=k.size
 have h3u:u.rangeAt b (o+i * 7) ((l.getD i Qz.zero).cells xa xc):=fun j v hv=> (k.cell h1).trans (h3 j v hv)
 exact ⟨b,o,xa,xc,rfl,by rw [size_setCells];omega,World.rangeAt_setCells_apart h3u g 0 vs (.inl (by omega)),strs_sets h4 h6 hg k,h5⟩
theorem owns_lo {w:World} {base k m n c:Nat} {t:TypeId} {a:Option Addr} {xs:List Value} (h:w.ownsRow base t k (.slice a n c) m xs): ∀ad:Addr,a=some ad->base<=ad.block:=by
 intro ad e
 subst e
 rcases h.2 with ⟨e,_⟩ | ⟨g,cap,cur,e,hb,_⟩
 ·cases e
 ·cases e;exact hb
theorem RunsXP.lo {w:World} {lo:Nat} {d:Option Addr} {l:List Qz} (h:RunsXP w (fun b=> lo<=b) d l) (hd: ∀ad:Addr,d=some ad->lo<=ad.block):RunsLo w lo d l:=fun i hi=> by
 obtain ⟨b,o,xa,xc,e,h1,h2,h3,h4,h5⟩:=h i hi
 exact ⟨b,o,xa,xc,e,h1,hd _ e,h2,h3,h4,fun _=> h5⟩
theorem RunsInX.lo {w:World} {lo hi:Nat} {d:Option Addr} {l:List Qz} (h:RunsInX w lo hi d l):RunsLo w lo d l:=by
 rcases h with rfl | ⟨b,c,ha,h1,h2,h3,hr,hm,hc⟩
 ·intro i hi
  simp at hi
 ·intro i hi
  obtain ⟨xa,xc,g1,g2,g3⟩:=hc i hi
  refine ⟨b,0,xa,xc,ha,hr.lt,h1,by rw [Nat.zero_add];exact g1,g2.strs,g3,fun hne ad e=> ?_⟩
  have q:=hm 0 i (Nat.zero_le _)
  rcases g2 with g2 | ⟨b',e',q1,_⟩
  ·exact absurd g2 hne
  ·rw [e'] at e
   cases e
   show lo<=b'
   omega
theorem StrsIn.lo {w:World} {lo hi:Nat} {a:Option Addr} {l:List ByteArray} (h:StrsIn w lo hi a l):l≠[]->∀ad:Addr,a=some ad->lo<=ad.block:=by
 intro hne ad e
 rcases h with h | ⟨b',e',q1,_⟩
 ·exact absurd h hne
 ·rw [e'] at e
  cases e
  exact q1
def DoD (Kj:List Qq) (Kk:List ByteArray) (sl:List Qz) (name:ByteArray) (R:List ByteArray) (T:List Qz):Prop:=
 (ValidX Kj Kk sl∧R=Kk∧DoneX Kj sl name T)∨(¬ValidX Kj Kk sl∧R=[]∧T=[])
theorem DoD.one {Kj:List Qq} {Kk R R':List ByteArray} {sl T T':List Qz} {name:ByteArray} (h:DoD Kj Kk sl name R T) (k:DoD Kj Kk sl name R' T'):R'=R∧T'=T:=by
 rcases h with ⟨h1,rfl,h2⟩ | ⟨h1,rfl,rfl⟩
 ·rcases k with ⟨_,rfl,k2⟩ | ⟨k1,_⟩
  ·exact ⟨rfl,k2.unique h2⟩
  ·exact absurd h1 k1
 ·rcases k with ⟨k1,_⟩ | ⟨_,rfl,rfl⟩
  ·exact absurd k1 h1
  ·exact ⟨rfl,rfl⟩
theorem sum_le_len {α:Type} (f:α->Nat) (c:Nat): ∀l:List α,(∀x∈l,f x<=c)->(l.map f).sum<=c * l.length
 | [],_=> by simp
 | x :: r,h=> by
  have h1:=h x (List.mem_cons_self ..)
  have h2:=sum_le_len f c r fun y hy=> h y (List.mem_cons_of_mem _ hy)
  simp only [List.map_cons,List.sum_cons,List.length_cons,Nat.mul_add]
  omega
theorem DoD.small {Kj:List Qq} {Kk R:List ByteArray} {sl T:List Qz} {name:ByteArray} (h:DoD Kj Kk sl name R T) (hf: ∀s∈Kj,s.Fits):R.length<=Kk.length∧T.length<=60∧(∀r∈T,r.Fits)∧(T.map cntRun).sum<=60360:=by
 rcases h with ⟨h1,rfl,h2⟩ | ⟨h1,rfl,rfl⟩
 ·have g:=h2.good (web_acts h1.1) h1.good
  have hl:T.length<=60:=Nat.le_trans g.len (web_len h1.1)
  have hs:=sum_le_len cntRun 1006 T fun x hx=> by
   have:=g.texts x hx
   have e:cntRun x=6+x.texts.length:=rfl
   omega
  refine ⟨Nat.le_refl _,hl,fun r hr=> ?_,by omega⟩
  have q:=g.good r hr
  obtain ⟨A,hA,_⟩:=q.act
  obtain ⟨k,hk,hn,_⟩:=acts_first hA
  have q1:=g.texts r hr
  have q2:=q.tx
  refine ⟨?_,by unfold maxLen;omega,by unfold maxLen;omega,fun t ht=> by have:=q.ts t ht;unfold maxLen;omega⟩
  rw [<-hn]
  have hm:Kj.getD k Qq.zero∈Kj:=by
   simp only [List.getD,List.getElem?_eq_getElem hk,Option.getD_some]
   exact List.getElem_mem hk
  exact (hf _ hm).name
 ·exact ⟨Nat.zero_le _,Nat.zero_le _,(fun r hr=> by cases hr),by simp⟩
def DoOut (Kj:List Qq) (Kk:List ByteArray) (sl:List Qz) (name:ByteArray) (w w':World) (e:Ending):Prop:=
 ∃(R:List ByteArray) (T:List Qz) (ra:Option Addr) (rc:Nat) (d:Option Addr) (dc:Nat),e= .returned (.agg #[.slice ra R.length rc,.slice d T.length dc])∧DoD Kj Kk sl name R T∧(∀(u:World) (g:Nat) (vs:List Value),(g < w.heap.size∨w'.heap.size<=g)->K_ w' u->Strs (u.setCells g 0 vs) ra R∧RunsX (u.setCells g 0 vs) d T)∧K_ w w'
theorem DoEnd.out {Kj:List Qq} {Kk:List ByteArray} {sl:List Qz} {name:ByteArray} {w w':World} {e:Ending} (h:DoEnd Kj Kk sl name w w' e):DoOut Kj Kk sl name w w' e:=by
 rcases h with ⟨h1,T,h2,ra,rc,d,dc,xs,rfl,hO,hQ,hP,k⟩ | ⟨h1,rfl,k⟩
 ·refine ⟨Kk,T,ra,rc,d,dc,rfl,.inl ⟨h1,rfl,h2⟩,fun u g vs hg ku=> ?_,k⟩
  obtain ⟨a9,c9,e9,h9⟩:=owned_strs hO
  simp only [Value.slice.injEq,true_and] at e9
  rw [<-e9.1] at h9
  obtain ⟨_,a8,c8,e8,h8⟩:=PackedX.runs hQ hP (K_.refl _)
  simp only [Value.slice.injEq,true_and] at e8
  rw [<-e8.1] at h8
  exact ⟨strs_sets h9 (fun _=> owns_lo hO) hg ku,(h8.lo (owns_lo hQ)).sets hg ku⟩
 ·exact ⟨[],[],none,0,none,0,rfl,.inr ⟨h1,rfl,rfl⟩,fun u g vs _ _=> ⟨fun i hi=> by simp at hi,fun i hi=> by simp at hi⟩,k⟩
theorem DoIEnd.ins {Kj:List Qq} {Kk:List ByteArray} {sl:List Qz} {name:ByteArray} {w w':World} {e:Ending} (h:DoIEnd Kj Kk sl name w w' e): ∃(R:List ByteArray) (T:List Qz) (ra:Option Addr) (rc:Nat) (d:Option Addr) (dc mid:Nat),e= .returned (.agg #[.slice ra R.length rc,.slice d T.length dc])∧DoD Kj Kk sl name R T∧StrsIn w' w.heap.size mid ra R∧RunsInX w' mid w'.heap.size d T∧w.heap.size<=mid∧mid<=w'.heap.size∧K_ w w':=by
 rcases h with ⟨h1,T,h2,ra,ds,mid,rfl,hO,hQ,m1,m2,k⟩ | ⟨h1,rfl,k⟩
 ·exact ⟨Kk,T,ra,_,ds,_,mid,rfl,.inl ⟨h1,rfl,h2⟩,hO,hQ,m1,m2,k⟩
 ·exact ⟨[],[],none,0,none,0,w.heap.size,rfl,.inr ⟨h1,rfl,rfl⟩,.inl rfl,.inl rfl,Nat.le_refl _,k.size,k⟩
theorem DoIEnd.out {Kj:List Qq} {Kk:List ByteArray} {sl:List Qz} {name:ByteArray} {w w':World} {e:Ending} (h:DoIEnd Kj Kk sl name w w' e):DoOut Kj Kk sl name w w' e:=by
 obtain ⟨R,T,ra,rc,d,dc,mid,rfl,hD,hS,hR,m1,m2,k⟩:=h.ins
 exact ⟨R,T,ra,rc,d,dc,rfl,hD,fun u g vs hg ku=> ⟨strs_sets hS.strs hS.lo hg ku,(hR.mono m1 (Nat.le_refl _)).lo.sets hg ku⟩,k⟩
theorem RowT.there {w:World} {b n:Nat} {t:TypeId} (h:RowT w b t n):w.there b 0 n:=fun j hj=> by
 obtain ⟨⟨v,hv⟩,hf⟩:=h.row.at hj
 rw [Nat.zero_add]
 exact ⟨by rw [hv];rfl,hf⟩
theorem region_cut {P:Program} {id:Nat} {ops:Array Oper} {Q:Exit->Act->World->Prop} {a:Act} {w:World} (J:Act->Act->World->Prop) (h: (Code.region id ops true).wp P (fun x b u=> x= .normal∧J a b u) a w) (hJ: ∀b u,J a b u->Q .normal b u): (Code.region id ops true).wp P Q a w:=
 wp_mono h fun e b u hx=> by
  obtain ⟨rfl,hx⟩:=hx
  exact hJ b u hx
def NoStr (w:World) (g:Nat):Prop:= ∀o s,w.cell? ⟨g,o,none⟩≠some (.string s)
theorem NoStr.kept {w w':World} {g:Nat} (h:NoStr w g) (hg:g < w.heap.size) (k:K_ w w'):NoStr w' g:=fun o s e=> h o s ((k.cell hg).symm.trans e)
theorem NoStr.far {w:World} {g:Nat} (hg:w.heap.size<=g):NoStr w g:=fun o s e=> by
 have h: (⟨g,o,none⟩:Addr).block < w.heap.size:=by
  unfold World.cell? at e
  simp only at e
  rcases h:w.heap[g]? with _ | ob
  ·rw [h] at e;simp at e
  ·exact (Array.getElem?_eq_some_iff.1 h).1
 exact absurd h (by show¬g < _;omega)
theorem strs_set_no {w:World} {g o:Nat} {v:Value} {a:Option Addr} {l:List ByteArray} (h:Strs w a l) (hg:NoStr w g):Strs (w.setCell ⟨g,o,none⟩ v) a l:=by
 intro i hi
 obtain ⟨b,p,rfl,h1,hc⟩:=h i hi
 refine ⟨b,p,rfl,by rw [size_setCell];exact h1, ?_⟩
 rw [World.cell?_setCell_other _ _ _ _ (fun e=> ?_)]
 ·exact hc
 ·have e1:g=b:=congrArg Addr.block e
  subst e1
  exact hg _ _ hc
theorem ress_set_no {w:World} {g o:Nat} {v:Value} {a:Option Addr} {l:List ResD} (h:Ress w a l) (hg:NoStr w g):Ress (w.setCell ⟨g,o,none⟩ v) a l:=by
 intro i hi
 obtain ⟨b,p,rfl,h1,hc⟩:=h i hi
 refine ⟨b,p,rfl,by rw [size_setCell];exact h1,fun j u hu=> ?_⟩
 rw [World.cell?_setCell_other _ _ _ _ (fun e=> ?_)]
 ·exact hc j u hu
 ·have e1:g=b:=congrArg Addr.block e
  subst e1
  exact hg _ _ (hc 0 _ rfl)
theorem strs_sets_no {w:World} {g:Nat} {vs:List Value} {a:Option Addr} {l:List ByteArray} (h:Strs w a l) (hg:NoStr w g):Strs (w.setCells g 0 vs) a l:=by
 intro i hi
 obtain ⟨b,p,rfl,h1,hc⟩:=h i hi
 refine ⟨b,p,rfl,by rw [size_setCells];exact h1, ?_⟩
 rw [World.cell?_setCells_out g vs 0 w _ (fun e _=> ?_)]
 ·exact hc
 ·have e1:b=g:=e
  subst e1
  exact (hg _ _ hc).elim
theorem ress_sets_no {w:World} {g:Nat} {vs:List Value} {a:Option Addr} {l:List ResD} (h:Ress w a l) (hg:NoStr w g):Ress (w.setCells g 0 vs) a l:=by
 intro i hi
 obtain ⟨b,p,rfl,h1,hc⟩:=h i hi
 refine ⟨b,p,rfl,by rw [size_setCells];exact h1,fun j u hu=> ?_⟩
 rw [World.cell?_setCells_out g vs 0 w _ (fun e _=> ?_)]
 ·exact hc j u hu
 ·have e1:b=g:=e
  subst e1
  exact (hg _ _ (hc 0 _ rfl)).elim
def OutD.cells (o:OutD) (a f:Option Addr) (c e0:Nat):List Value:=[.int .i64 o.code,.slice a o.res.length c,.slice f o.chain.length e0,.int .i64 o.units,.int .i64 o.cost]
theorem noStr_new {w:World} {k m n:Int} {a f:Option Addr} {c e0 rl cl:Nat} {t:TypeId}:NoStr (w.alloc (.cells #[.int .i64 k,.slice a rl c,.slice f cl e0,.int .i64 m,.int .i64 n] t)) w.heap.size:=fun o s e=> by
 have hr:=Xz w #[.int .i64 k,.slice a rl c,.slice f cl e0,.int .i64 m,.int .i64 n] t
 match o,e with
 | 0,e=> have:=hr 0 _ rfl;rw [e] at this;cases this
 | 1,e=> have:=hr 1 _ rfl;rw [e] at this;cases this
 | 2,e=> have:=hr 2 _ rfl;rw [e] at this;cases this
 | 3,e=> have:=hr 3 _ rfl;rw [e] at this;cases this
 | 4,e=> have:=hr 4 _ rfl;rw [e] at this;cases this
 | o+5,e=>
  have h:=World.alloc_heap_new w (.cells #[.int .i64 k,.slice a rl c,.slice f cl e0,.int .i64 m,.int .i64 n] t)
  unfold World.cell? at e
  simp only [h] at e
  simp at e
theorem noStr_row {w:World} {b:Nat} {t:TypeId} (hr:RowT w b t 5) (h: ∀o,o < 5->∀s,w.cell? ⟨b,o,none⟩≠some (.string s)):NoStr w b:=fun o s e=> by
 by_cases ho:o < 5
 ·exact h o ho s e
 ·obtain ⟨cur,hc,hl⟩:=hr
  unfold World.cell? at e
  simp only [hc] at e
  simp only [Option.isSome_none,Bool.false_eq_true,if_false] at e
  have h9:= (Array.getElem?_eq_some_iff.1 e).1
  omega
def ToldOut (Kj:List Qq) (Kk:List ByteArray) (sl:List Qz) (w w':World) (e:Ending):Prop:=
 ∃(o:OutD) (a f:Option Addr) (c e0:Nat),e= .returned (.agg #[.int .i64 o.code,.slice a o.res.length c,.slice f o.chain.length e0,.int .i64 o.units,.int .i64 o.cost])∧ToldAns Kj Kk sl o∧Ress w' a o.res∧Strs w' f o.chain∧K_ w w'
theorem five_one (k m n:Int) (a f:Option Addr) (rl c cl e0:Nat): (#[Value.int .i64 k,Value.slice a rl c,Value.slice f cl e0,Value.int .i64 m,Value.int .i64 n].all (·.oneCell'))=true:=by simp [Value.oneCell']
theorem Tryz.sizeOutcome5 : (Tryz.prog.info? 31).map (·.size)=some 5:=by kernel_rfl
theorem But.after {S S':Nat->Prop} {w w' w'':World} (h:But S w w') (k:But S' w' w'') (hs: ∀b,b < w.heap.size->¬S b->¬S' b):But S w w'':=
 ⟨k.os.trans h.os,k.tape.trans h.tape,k.output.trans h.output,Nat.le_trans h.size k.size,fun b hb hn=> (k.block b (Nat.lt_of_lt_of_le hb h.size) (hs b hb hn)).trans (h.block b hb hn)⟩
theorem miss {w:World} {b o o':Nat} {x v:Value} (h:w.cell? ⟨b,o,none⟩=some x) (hn:o≠o'): (w.setCell ⟨b,o',none⟩ v).cell? ⟨b,o,none⟩=some x:=by rw [Xx (by omega)];exact h
structure OutB (W2:World) (ob:Nat) (w:World) (code:Int) (rv:Value) (units cost:Int):Prop where
 but:But (fun b=> b=ob) W2 w
 row:RowT w ob 31 5
 c0:w.cell? ⟨ob,0,none⟩=some (.int .i64 code)
 c1:w.cell? ⟨ob,1,none⟩=some rv
 c2:w.cell? ⟨ob,2,none⟩=some (.slice none 0 0)
 c3:w.cell? ⟨ob,3,none⟩=some (.int .i64 units)
 c4:w.cell? ⟨ob,4,none⟩=some (.int .i64 cost)
section
variable {W2 w w' : World} {ob : Nat} {code units cost : Int} {rv : Value}
theorem OutB.kept (h:OutB W2 ob w code rv units cost) (k:K_ w w'):OutB W2 ob w' code rv units cost:=
 ⟨h.but.trans (But.of_kept k),h.row.kept k,(k.cell h.row.lt).trans h.c0,(k.cell h.row.lt).trans h.c1,(k.cell h.row.lt).trans h.c2,(k.cell h.row.lt).trans h.c3,(k.cell h.row.lt).trans h.c4⟩
theorem OutB.alike (h:OutB W2 ob w code rv units cost) {S:Nat->Prop} (k:But S w w') (hs: ∀b,S b->W2.heap.size<=b) (ho:ob < W2.heap.size):OutB W2 ob w' code rv units cost:=
 have hn: ¬S ob:=fun e=> by have:=hs _ e;omega
 ⟨h.but.after k (fun b hb _ e=> by have:=hs _ e;omega),k.row h.row hn,(k.cell h.row.lt hn).trans h.c0,(k.cell h.row.lt hn).trans h.c1,(k.cell h.row.lt hn).trans h.c2,(k.cell h.row.lt hn).trans h.c3,(k.cell h.row.lt hn).trans h.c4⟩
theorem OutB.set0 (h:OutB W2 ob w code rv units cost) (x:Int):OutB W2 ob (w.setCell ⟨ob,0,none⟩ (.int .i64 x)) x rv units cost:=
 ⟨h.but.set rfl _,h.row.set _,set_hit h.row.row (by omega) _,miss h.c1 (by decide),miss h.c2 (by decide),miss h.c3 (by decide),miss h.c4 (by decide)⟩
theorem OutB.set1 (h:OutB W2 ob w code rv units cost) (x:Value):OutB W2 ob (w.setCell ⟨ob,1,none⟩ x) code x units cost:=
 ⟨h.but.set rfl _,h.row.set _,miss h.c0 (by decide),set_hit h.row.row (by omega) _,miss h.c2 (by decide),miss h.c3 (by decide),miss h.c4 (by decide)⟩
theorem OutB.set3 (h:OutB W2 ob w code rv units cost) (x:Int):OutB W2 ob (w.setCell ⟨ob,3,none⟩ (.int .i64 x)) code rv x cost:=
 ⟨h.but.set rfl _,h.row.set _,miss h.c0 (by decide),miss h.c1 (by decide),miss h.c2 (by decide),set_hit h.row.row (by omega) _,miss h.c4 (by decide)⟩
theorem OutB.set4 (h:OutB W2 ob w code rv units cost) (x:Int):OutB W2 ob (w.setCell ⟨ob,4,none⟩ (.int .i64 x)) code rv units x:=
 ⟨h.but.set rfl _,h.row.set _,miss h.c0 (by decide),miss h.c1 (by decide),miss h.c2 (by decide),miss h.c3 (by decide),set_hit h.row.row (by omega) _⟩
theorem OutB.no {ra:Option Addr} {rn rc:Nat} (h:OutB W2 ob w code (.slice ra rn rc) units cost):NoStr w ob:=noStr_row h.row fun o ho s e=> by
 match o,ho,e with
 | 0,_,e=> have:=h.c0;rw [e] at this;cases this
 | 1,_,e=> have:=h.c1;rw [e] at this;cases this
 | 2,_,e=> have:=h.c2;rw [e] at this;cases this
 | 3,_,e=> have:=h.c3;rw [e] at this;cases this
 | 4,_,e=> have:=h.c4;rw [e] at this;cases this
end
def CodeOf (l:List ResD) (code:Int):Prop:= (code=0∧¬∃r∈l,r.over=false)∨(code=2∧∃r∈l,r.over=false)
theorem CodeOf.yes {l:List ResD} {code:Int} (h:CodeOf l code) (r:ResD) (hr:r.over=true):CodeOf (l++ [r]) code:=by
 rcases h with ⟨h1,h2⟩ | ⟨h1,x,hx,h2⟩
 ·refine .inl ⟨h1,fun ⟨x,hx,h3⟩=> ?_⟩
  rcases List.mem_append.1 hx with h | h
  ·exact h2 ⟨x,h,h3⟩
  ·rw [List.mem_singleton] at h;rw [h,hr] at h3;cases h3
 ·exact .inr ⟨h1,x,List.mem_append.2 (.inl hx),h2⟩
theorem CodeOf.no (l:List ResD) (r:ResD) (hr:r.over=false):CodeOf (l++ [r]) 2:= .inr ⟨rfl,r,List.mem_append.2 (.inr (List.mem_singleton.2 rfl)),hr⟩
theorem l5Told_any (w:World) (a:Option Addr) (cap:Nat) (Kj:List Qq) (ra:Option Addr) (rc:Nat) (Kk:List ByteArray) (d:Option Addr) (dc:Nat) (sl:List Qz) (hwl:Kj.length<=1048576) (hv:ValidX Kj Kk sl)
  (hN:Nodes w a Kj) (hS:RunsX w d sl) (hR:Strs w ra Kk):
  Calls Tryz.prog 25 #[.agg #[.slice a Kj.length cap],.agg #[.slice ra Kk.length rc,.slice d sl.length dc]] w fun e w'=> ToldOut Kj Kk sl w w' e:=by
 have HVal:=Kz hv
 have HGd:=Kz hv.good
 have hok:=web_acts hv.1
 have hs60:sl.length<=60:=Nat.le_trans hv.good.len (web_len hv.1)
 have hr10:Kk.length<=10:=hv.2.1.2.1
 have HRn:Hid (∀n∈Kk,n.size<=20):=fun n hn=> by
  obtain ⟨i,hi,rfl⟩:=List.getElem_of_mem hn
  have h:= (hv.2.1.2.2 i hi).1.2.1
  simpa [List.getD,hi] using h
 clear hv
 obtain ⟨WB,hWB⟩: ∃WB,WB= ((w.alloc (.cells #[.slice a Kj.length cap] 37)).alloc (.cells #[.slice ra Kk.length rc,.slice d sl.length dc] 53)).alloc (.cells #[.int .i64 0,.slice none 0 0,.slice none 0 0,.int .i64 0,.int .i64 0] 31):= ⟨_,rfl⟩
 have kB:K_ w WB:=by rw [hWB];exact (((K_.refl _).alloc _).alloc _).alloc _
 have hBs:WB.heap.size=w.heap.size+3:=by rw [hWB];simp
 have b0:WB.cell? ⟨w.heap.size,0,none⟩=some (.slice a Kj.length cap):=by
  rw [hWB]
  exact (box1 (w:=w) (v:= .slice a Kj.length cap) (t:=37) (((K_.refl _).alloc _).alloc _)).1
 have s01:WB.cell? ⟨w.heap.size+1,0,none⟩=some (.slice ra Kk.length rc)∧WB.cell? ⟨w.heap.size+1,1,none⟩=some (.slice d sl.length dc):=by
  have h:=box2 (w:=w.alloc (.cells #[.slice a Kj.length cap] 37)) (v0:= .slice ra Kk.length rc) (v1:= .slice d sl.length dc) (t:=53) (w1:=WB) (by rw [hWB];exact (K_.refl _).alloc _)
  rw [World.size_alloc] at h
  exact h
 have HRes:Hid (RowT WB (w.heap.size+1+1) 31 5):=by
  have h:=RowT.made ((w.alloc (.cells #[.slice a Kj.length cap] 37)).alloc (.cells #[.slice ra Kk.length rc,.slice d sl.length dc] 53)) #[.int .i64 0,.slice none 0 0,.slice none 0 0,.int .i64 0,.int .i64 0] 31
  rw [World.size_alloc,World.size_alloc] at h
  rw [hWB]
  exact h
 have HNr0:Hid (NoStr WB (w.heap.size+1+1)):=by
  have h:=noStr_new (w:= (w.alloc (.cells #[.slice a Kj.length cap] 37)).alloc (.cells #[.slice ra Kk.length rc,.slice d sl.length dc] 53)) (k:=0) (m:=0) (n:=0) (a:=none) (f:=none) (c:=0) (e0:=0) (rl:=0) (cl:=0) (t:=31)
  rw [World.size_alloc,World.size_alloc] at h
  rw [hWB]
  exact h
 obtain ⟨ob,hob⟩: ∃ob,ob=WB.heap.size:= ⟨_,rfl⟩
 obtain ⟨WO,hWO⟩: ∃WO,WO=WB.alloc (.cells #[.int .i64 0,.slice none 0 0,.slice none 0 0,.int .i64 0,.int .i64 0] 31):= ⟨_,rfl⟩
 have kO:K_ WB WO:=by rw [hWO];exact (K_.refl _).alloc _
 have zO:ob < WO.heap.size:=by rw [hWO,hob];simp
 have HOB0:Hid (OutB WO ob WO 0 (.slice none 0 0) 0 0):=by
  obtain ⟨q0,q1,q2,q3,q4⟩:=fiveCells (w:=WB) (w1:=WO) (v0:= .int .i64 0) (v1:= .slice none 0 0) (v2:= .slice none 0 0) (v3:= .int .i64 0) (v4:= .int .i64 0) (t:=31) (by rw [hWO];exact K_.refl _)
  rw [<-hob] at q0 q1 q2 q3 q4
  exact ⟨But.of_kept (K_.refl _),by rw [hWO,hob];exact RowT.made WB _ _,q0,q1,q2,q3,q4⟩
 have z3:w.heap.size+1+1 < ob:=by omega
 have HKB:=Kz kB
 have zB:w.heap.size+1+1 < WB.heap.size:=by omega
 clear hBs
 go_enter Tryz.func25,Tryz.ntmps25
 go_upto_region 1 with fail
 rw [<-hWB]
 clear hWB
 go_upto_region 2 with fail
 rw [<-hWO,<-hob]
 have c0:= (kO.cell (o:=0) (b:=w.heap.size) (by omega)).trans b0
 have c1:= (kO.cell (o:=0) (b:=w.heap.size+1) (by omega)).trans s01.1
 have c2:= (kO.cell (o:=1) (b:=w.heap.size+1) (by omega)).trans s01.2
 clear hWO hob
 go_wp2_with fail
 refine (l4Known_any WO a Kj.length cap ra Kk.length rc d sl.length dc).mono ?_
 rintro e W2 ⟨kb,rfl,hK2,k2⟩
 have HK2:=Kz hK2
 have hkb2:=hK2.row.lt
 have HOB2:Hid (OutB W2 ob W2 0 (.slice none 0 0) 0 0):=by
  have h:=HOB0.out.kept k2
  exact ⟨But.of_kept (K_.refl _),h.row,h.c0,h.c1,h.c2,h.c3,h.c4⟩
 have KB2:K_ WB W2:=kO.trans k2
 have hob2:ob < W2.heap.size:=Nat.lt_of_lt_of_le zO k2.size
 have hkob: ¬kb=ob:=type_ne hK2.row.type HOB2.out.row.type (by decide)
 have z2:w.heap.size+1+1 < W2.heap.size:=by omega
 have HC:Hid (∀u,But (fun b=> b=ob) W2 u->u.cell? ⟨w.heap.size,0,none⟩=some (.slice a Kj.length cap)∧u.cell? ⟨w.heap.size+1,0,none⟩=some (.slice ra Kk.length rc)∧u.cell? ⟨w.heap.size+1,1,none⟩=some (.slice d sl.length dc)∧KnownX u kb a Kj.length cap d sl.length dc∧K_ w u∧RowT u (w.heap.size+1+1) 31 5∧NoStr u (w.heap.size+1+1)∧W2.heap.size<=u.heap.size):=fun u h=> by
  have hwb:w.heap.size+1+1 < WB.heap.size:=HRes.out.lt
  refine ⟨?_, ?_, ?_,⟨h.row HK2.out.row hkob,(h.cell hkb2 hkob).trans HK2.out.web,(h.cell hkb2 hkob).trans HK2.out.runs⟩,h.kept (HKB.out.trans KB2) (fun b e=> by rw [e];omega),h.row (HRes.out.kept KB2) (fun (e:w.heap.size+1+1=ob)=> by omega),fun o s e=> (HNr0.out.kept hwb KB2) o s ((h.cell z2 (fun (e:w.heap.size+1+1=ob)=> by omega)).symm.trans e),h.size⟩
  ·exact (h.cell (by omega) (fun (e:w.heap.size=ob)=> by omega)).trans ((KB2.cell (by omega)).trans b0)
  ·exact (h.cell (by omega) (fun (e:w.heap.size+1=ob)=> by omega)).trans ((KB2.cell (by omega)).trans s01.1)
  ·exact (h.cell (by omega) (fun (e:w.heap.size+1=ob)=> by omega)).trans ((KB2.cell (by omega)).trans s01.2)
 obtain ⟨R,hRx⟩: ∃R,R=resX (Q_ Kj) (Qj sl):= ⟨_,rfl⟩
 have HRx:=Kz hRx
 clear hRx c0 c1 c2 b0 s01 kB kO k2 KB2 HRes HNr0 HOB0 HK2 hK2 hkb2 HKB zO
 go_wp2_with fail
 go_loopw [7] (fun x7 wr=> ∃(k:Nat) (av:Option Addr) (cv:Nat) (code:Int),k<=Kk.length∧x7= .int .i64 (k:Int)∧Hid (CodeOf ((Kk.take k).map R) code)∧Hid (OutB W2 ob wr code (.slice av k cv) 0 0)∧Hid (wr.ownsRow W2.heap.size 116 4 (.slice av k cv) k (dResCells ((Kk.take k).map R)))) (fun x7 _=> Kk.length - (intOf x7).toNat)
 case atStart=> exact ⟨0,none,0,0,Nat.zero_le _,rfl,Kz (.inl ⟨rfl,fun ⟨_,h,_⟩=> by cases h⟩),HOB2,Kz (World.ownsRow_nil _ _ _ _)⟩
 case round=>
  clear HOB2
  obtain ⟨k,av,cv,code,hk,rfl,HCd,HO,HW⟩:=hrel
  obtain ⟨c0,c1,c2,hKr,Kr,hRr,hNr,hzr⟩:=HC.out wr HO.out.but
  have y0:w.heap.size < wr.heap.size:=by omega
  have y1:w.heap.size+1 < wr.heap.size:=by omega
  have HKr:=Kz hKr
  have HKw:=Kz Kr
  clear hKr hRr hNr
  by_cases hlt:k < Kk.length
  ·have hkk: (k:Int) < (Kk.length:Int):=by omega
   obtain ⟨sb,so,e1,hsw,hsc0⟩:=hR k hlt
   subst e1
   obtain ⟨nm,hnm⟩: ∃nm,nm=Kk.getD k ByteArray.empty:= ⟨_,rfl⟩
   rw [<-hnm] at hsc0
   have hsc:= (HKw.out.cell hsw).trans hsc0
   have hsb:sb < wr.heap.size:=Nat.lt_of_lt_of_le hsw HKw.out.size
   clear hsc0
   have hng:Kk[k]=nm:=by rw [hnm];simp [List.getD,hlt]
   have hmem:nm∈Kk:=by rw [<-hng];exact List.getElem_mem hlt
   have HNg:=Kz hng
   have hn20:=HRn.out nm hmem
   clear hnm hng hmem
   go_wp2_with fail
   refine (answer_anyO wr kb a cap Kj d dc sl nm hwl (by omega) (by omega) HKr.out (hN.kept HKw.out) (hS.kept HKw.out)).mono ?_
   rintro e w3 ⟨⟨fl,tx,ok,rfl,hans,hno⟩,k3⟩
   have HRes:Hid (R nm= ⟨nm,ok,fl,tx⟩):=by
    show R nm=_
    rw [HRx.out]
    unfold resX
    rw [hans]
    cases ok
    ·obtain ⟨h1,h2⟩:=hno rfl
     rw [h1,h2]
     rfl
    ·rfl
   have HTk:Hid ((Kk.take (k+1)).map R= (Kk.take k).map R++ [⟨nm,ok,fl,tx⟩]):=by
    show _=_
    rw [List.take_succ_eq_append_getElem hlt,List.map_append,HNg.out,<-HRes.out]
    rfl
   obtain ⟨W4,hW4⟩: ∃W4,W4=w3.alloc (.cells #[.bool fl,.string tx] 112):= ⟨_,rfl⟩
   have k4:K_ w3 W4:=by rw [hW4];exact (K_.refl _).alloc _
   obtain ⟨pb,hpb⟩: ∃pb,pb=w3.heap.size:= ⟨_,rfl⟩
   have p01:=box2 (w:=w3) (v0:= .bool fl) (v1:= .string tx) (t:=112) (w1:=W4) (by rw [hW4];exact K_.refl _)
   rw [<-hpb] at p01
   have K4:=k3.trans k4
   have hpw: ∀b,(Value.slice av k cv).ownBlock=some b->b≠pb:=fun b e=> by have h1:= (HW.out.lt b e).2;have h2:=k3.size;omega
   have hp4:pb < W4.heap.size:=by rw [hW4,hpb];simp
   have HO4:=Kz (HO.out.kept K4)
   have HW4:=Kz (ownsRow_kept' HW.out K4)
   have hsb4:sb < W4.heap.size:=Nat.lt_of_lt_of_le hsb K4.size
   have hz4:W2.heap.size<=W4.heap.size:=Nat.le_trans hzr K4.size
   have hob4:ob < W4.heap.size:=by omega
   have y14:w.heap.size+1 < W4.heap.size:=by omega
   have Zz:Hid (∀u:World,(∀b,b < W4.heap.size->¬W2.heap.size<=b∨b=pb->u.heap[b]? =W4.heap[b]?)->u.cell? ⟨ob,1,none⟩=some (.slice av k cv)∧u.cell? ⟨w.heap.size+1,0,none⟩=some (.slice (some ⟨sb,so,none⟩) Kk.length rc)∧u.cell? ⟨sb,so+k,none⟩=some (.string nm)∧u.cell? ⟨pb,0,none⟩=some (.bool fl)∧u.cell? ⟨pb,1,none⟩=some (.string tx)):=fun u hh=> by
    have s1:W4.cell? ⟨w.heap.size+1,0,none⟩=some (.slice (some ⟨sb,so,none⟩) Kk.length rc):= (K4.cell y1).trans c1
    exact ⟨(World.cell?_of_block (w:=W4) (hh ob hob4 (.inl (by omega)))).trans HO4.out.c1,(World.cell?_of_block (w:=W4) (hh _ y14 (.inl (by show¬_<=w.heap.size+1;omega)))).trans s1,(World.cell?_of_block (w:=W4) (hh sb hsb4 (.inl (by omega)))).trans ((K4.cell hsb).trans hsc),(World.cell?_of_block (w:=W4) (hh pb hp4 (.inr rfl))).trans p01.1,(World.cell?_of_block (w:=W4) (hh pb hp4 (.inr rfl))).trans p01.2⟩
   obtain ⟨ic,hc0,hc1,hc2,hc3⟩:=xInfo_parts Tryz.infoResult
   have k4w:=HKw.out.trans K4
   go_upto_region 7 with fail
   rw [<-hW4,<-hpb]
   clear hW4 hpb p01 k4 k3 hans hno c0 c1 c2 hsc HRes HNg
   refine Qx.rh 16 Zz.out (fun _ _ _=> rfl) fun wd KD Z_=> ?_
   refine Qx.tk 0 Z_ ?_
   refine Qx.tk 1 Z_ ?_
   refine Qx.tk 2 Z_ ?_
   refine Qx.tk 3 Z_ ?_
   refine Qx.tk 4 Z_ ?_
   refine Qx.tk 5 Z_ ?_
   refine Qx.tk 6 Z_ ?_
   refine Qx.tk 7 Z_ ?_
   refine Qx.tk 8 Z_ ?_
   refine Qx.tk 9 Z_ ?_
   refine Qx.tk 10 Z_ ?_
   refine Qx.tk 11 Z_ ?_
   refine Qx.tk 12 Z_ ?_
   refine Qx.nx 13 (fun K hK=> ?_)
   go_simp
   have K5:K_ wd (wd.alloc (.cells #[.string nm,.bool ok,.bool fl,.string tx] 116)):= (K_.refl _).alloc _
   have hc5:=Xz wd #[.string nm,.bool ok,.bool fl,.string tx] 116
   have K6:=KD.trans K5
   have hw6: ∀b,b < W4.heap.size->¬W2.heap.size<=b∨b=pb->(wd.alloc (.cells #[.string nm,.bool ok,.bool fl,.string tx] 116)).heap[b]? =W4.heap[b]? :=fun b hb _=> K6.block b hb
   refine hK.out _ _ (fun _=> Zz.out _ hw6) ?_
   clear hK K Z_
   obtain ⟨eb,heb⟩: ∃eb,eb=wd.heap.size:= ⟨_,rfl⟩
   rw [<-heb] at hc5⊢
   generalize hwe:wd.alloc (.cells #[.string nm,.bool ok,.bool fl,.string tx] 116)=w6 at hc5 K6 hw6⊢
   clear hwe K5 heb
   have HR6:=Kz (ownsRow_kept' HW4.out K6)
   have hz6:=K6.size
   try simp only [Act.put,upA,upB,upC]
   refine Qx.nx 14 (fun K hK=> ?_)
   refine step_append_lies _ rfl (.tmp 33) (.tmp 45) 29 rfl W2.heap.size 116 ic _ 4 40 Tryz.underlying29 hc0 hc1 hc2 hc3 rfl (by decide) (.slice av k cv) k (dResCells ((Kk.take k).map R)) (by simp [Act.eval]) HR6.out ⟨eb,0,none⟩ 1 1 [.string nm,.bool ok,.bool fl,.string tx] (by simp [Act.eval]) rfl (fun j u hu=> by rw [Addr.add_mid];exact hc5 j u hu) (fun u hu=> by simp only [List.mem_cons,List.not_mem_nil,or_false] at hu;rcases hu with rfl | rfl | rfl | rfl <;> rfl) (by omega) (by unfold maxLen;omega) (by omega) (by omega) _ rfl ?_
   intro g6 cap6 w8 hown8 hgr8 hat hlt8
   have hrow: ∀b,(Value.slice av k cv).ownBlock=some b->W2.heap.size<=b:=fun b e=> (HR6.out.lt b e).1
   have k68:But (fun b=> (Value.slice av k cv).ownBlock=some b) w6 w8:=But.of_grown hgr8 (fun b e=> e)
   have hw8: ∀b,b < W4.heap.size->¬W2.heap.size<=b∨b=pb->w8.heap[b]? =W4.heap[b]? :=fun b hb hn=> (k68.block b (by omega) (fun e=> by rcases hn with h | h;exact h (hrow b e);exact hpw b e h)).trans (hw6 b hb hn)
   have hO8:OutB W2 ob w8 code (.slice av k cv) 0 0:= (HO4.out.kept K6).alike k68 hrow hob2
   have hz8:=k68.size
   obtain ⟨⟨_,fo2⟩,fo1⟩:=hO8.row.row.at (i:=1) (by omega)
   have hob8:=hO8.row.lt
   obtain ⟨W8,hW8⟩: ∃W8,W8=w8.setCell ⟨ob,1,none⟩ (.slice (some ⟨g6,0,none⟩) (k+1) cap6):= ⟨_,rfl⟩
   have HN8:Hid (OutB W2 ob W8 code (.slice (some ⟨g6,0,none⟩) (k+1) cap6) 0 0):=by rw [hW8];exact hO8.set1 _
   have HG8:Hid (W8.ownsRow W2.heap.size 116 4 (.slice (some ⟨g6,0,none⟩) (k+1) cap6) (k+1) (dResCells ((Kk.take (k+1)).map R))):=by
    rw [hW8,HTk.out,dResCells_snoc]
    exact (But.set (S:=fun b=> b=ob) (But.of_kept (K_.refl w8)) (p:= ⟨ob,1,none⟩) rfl _).owns hown8 (fun b e e2=> by have:= (hown8.lt b e).1;omega)
   refine hK.out _ _ (fun _=> Zz.out _ hw8) ?_
   clear hK K hown8 hgr8 hat hO8
   try simp only [Act.put,upA,upB,upC]
   have Z_:=Zz.out _ hw8
   refine Qx.tk 15 Z_ ?_
   refine Qx.nx 16 (fun K hK=> ?_)
   go_simp
   rw [<-hW8]
   refine hK.out _ _ (fun h=> absurd rfl h) ?_
   clear hK K Z_
   try simp only [Act.put,upA,upB,upC]
   refine Qx.dn ?_
   clear hW8 fo1 fo2 hw8 hpw hrow k68 hc5 hw6 HR6 HO4 HW4 Zz HO HW KD K6 hob8
   cases ok
   ·have HC2:Hid (CodeOf ((Kk.take (k+1)).map R) 2):=by rw [HTk.out];exact CodeOf.no _ _ rfl
    have o0:=HN8.out.c0
    obtain ⟨⟨_,f0⟩,f1⟩:=HN8.out.row.row.at (i:=0) (by omega)
    have HF:=Kz (HN8.out.set0 2)
    have HG:Hid ((W8.setCell ⟨ob,0,none⟩ (.int .i64 2)).ownsRow W2.heap.size 116 4 (.slice (some ⟨g6,0,none⟩) (k+1) cap6) (k+1) (dResCells ((Kk.take (k+1)).map R))):= (But.set (S:=fun b=> b=ob) (But.of_kept (K_.refl W8)) (p:= ⟨ob,0,none⟩) rfl _).owns HG8.out (fun b e e2=> by have:= (HG8.out.lt b e).1;omega)
    clear HN8 HG8
    go_wp2
    go_roundw
    case rel=> exact ⟨k+1,some ⟨g6,0,none⟩,cap6,2,by omega,by go_num,HC2,HF,HG⟩
    case measure=> simp [intOf];omega
   ·have HC2:Hid (CodeOf ((Kk.take (k+1)).map R) code):=by rw [HTk.out];exact HCd.out.yes _ rfl
    go_wp2
    go_roundw
    case rel=> exact ⟨k+1,some ⟨g6,0,none⟩,cap6,code,by omega,by go_num,HC2,HN8,HG8⟩
    case measure=> simp [intOf];omega
  ·have hnk: ¬((k:Int) < (Kk.length:Int)):=by omega
   have hkr:k=Kk.length:=by omega
   have hall:Kk.take k=Kk:=by rw [hkr];exact List.take_length
   rw [hall] at HCd HW
   have HKe:=Kz hkr
   clear hlt hkr hall hk
   have HUs:Hid (0=unitsX (sl.take 0)∧0=costX (Q_ Kj) (sl.take 0)):= ⟨rfl,rfl⟩
   go_wp2_with fail
   go_loopw [10] (fun x10 wr=> ∃(i:Nat) (uu cc:Int),i<=sl.length∧x10= .int .i64 (i:Int)∧Hid (uu=unitsX (sl.take i)∧cc=costX (Q_ Kj) (sl.take i))∧Hid (OutB W2 ob wr code (.slice av k cv) uu cc)∧Hid (wr.ownsRow W2.heap.size 116 4 (.slice av k cv) k (dResCells (Kk.map R)))) (fun x10 _=> sl.length - (intOf x10).toNat)
   case atStart=> exact ⟨0,0,0,Nat.zero_le _,rfl,HUs,HO,HW⟩
   case round=>
    clear HUs HO HW c0 c1 c2 HKr HKw Kr hzr y0 y1
    obtain ⟨i,uu,cc,hi,rfl,HU,HO,HW⟩:=hrel
    obtain ⟨c0,c1,c2,hKr,Kr,hRr,hNr,hzr⟩:=HC.out wr HO.out.but
    have y0:w.heap.size < wr.heap.size:=by omega
    have y1:w.heap.size+1 < wr.heap.size:=by omega
    have HRr:=Kz hRr
    have HNr:=Kz hNr
    have HKw:=Kz Kr
    clear hKr hRr hNr Kr
    have hsum:=sums_le hok HGd.out hs60 i
    rw [<-HU.out.1,<-HU.out.2] at hsum
    by_cases hil:i < sl.length
    ·have hii: (i:Int) < (sl.length:Int):=by omega
     obtain ⟨rb,ro,xa,xc,e1,hrb,hrc,_,_⟩:= (hS.kept HKw.out) i hil
     obtain ⟨rb0,ro0,xa0,xc0,e2,hrb0,_⟩:=hS i hil
     rw [e1] at e2
     cases e2
     subst e1
     obtain ⟨x,hx⟩: ∃x,x=sl.getD i Qz.zero:= ⟨_,rfl⟩
     rw [<-hx] at hrc
     have hxg:sl[i]=x:=by rw [hx];simp [List.getD,hil]
     have hxm:x∈sl:=by rw [<-hxg];exact List.getElem_mem hil
     have t0:=hrc 0 _ rfl
     have t5:=hrc 5 _ rfl
     rw [Nat.add_zero] at t0
     have hxgd:=HGd.out.good x hxm
     obtain ⟨A,hA,_⟩:=hxgd.act
     have hcst:=costOf_le hok x.name
     have hvis:0<=x.Zj∧x.Zj<=20:= ⟨hxgd.lo,hxgd.hi⟩
     have hmul:=vc_le hvis hcst
     obtain ⟨nk,hnk,hnn,hnmin,hAe⟩:=acts_first hA
     obtain ⟨nb,no,cs,e3,hnb,hncs,na,ncap,e4,_⟩:= (hN.kept HKw.out) nk hnk
     obtain ⟨nb0,no0,cs0,e5,hnb0,_⟩:=hN nk hnk
     rw [e3] at e5
     cases e5
     subst e3
     have hce:costOf (Q_ Kj) x.name= (Kj.getD nk Qq.zero).cost:=by rw [costOf_some hA,hAe]
     have hnc:wr.cell? ⟨nb,no+nk * 3+1,none⟩=some (.int .i64 (costOf (Q_ Kj) x.name)):=by rw [hce];exact hncs 1 _ (by rw [e4];rfl)
     obtain ⟨cst,hcs⟩: ∃cst,cst=costOf (Q_ Kj) x.name:= ⟨_,rfl⟩
     rw [<-hcs] at hcst hmul hnc
     have HPl:Hid (∀r:Int,PlaceN Kj x.name r->r= (nk:Int)):=fun r hr=> by
      rcases hr with ⟨k2,h1,rfl,h3,h4,h5⟩ | ⟨_,h2⟩
      ·rcases Nat.lt_trichotomy k2 nk with h | h | h
       ·exact absurd h4 (hnmin _ h)
       ·rw [h]
       ·exact absurd hnn (h5 _ h)
      ·rw [hA] at h2;cases h2
     have hw1:IntKind.i64.wrap (uu+x.Zj)=uu+x.Zj:=wrap_i64_in (by omega) (by omega)
     have hw2:IntKind.i64.wrap (x.Zj * cst)=x.Zj * cst:=wrap_i64_in (by omega) (by omega)
     have hw3:IntKind.i64.wrap (cc+x.Zj * cst)=cc+x.Zj * cst:=wrap_i64_in (by omega) (by omega)
     have HUn:Hid (uu+x.Zj=unitsX (sl.take (i+1))∧cc+x.Zj * cst=costX (Q_ Kj) (sl.take (i+1))):=by
      rw [List.take_succ_eq_append_getElem hil,unitsX_snoc,costX_snoc,hxg,<-HU.out.1,<-HU.out.2,<-hcs]
      exact ⟨rfl,rfl⟩
     have hob1:=HO.out.row.lt
     have Zz:Hid (∀u:World,(∀b,b < w.heap.size+1+1∨b=ob->u.heap[b]? =wr.heap[b]?)->u.cell? ⟨ob,3,none⟩=some (.int .i64 uu)∧u.cell? ⟨ob,4,none⟩=some (.int .i64 cc)∧u.cell? ⟨w.heap.size+1,1,none⟩=some (.slice (some ⟨rb,ro,none⟩) sl.length dc)∧u.cell? ⟨rb,ro+i * 7,none⟩=some (.string x.name)∧u.cell? ⟨rb,ro+i * 7+5,none⟩=some (.int .i64 x.Zj)∧u.cell? ⟨w.heap.size,0,none⟩=some (.slice (some ⟨nb,no,none⟩) Kj.length cap)∧u.cell? ⟨nb,no+nk * 3+1,none⟩=some (.int .i64 cst)):=fun u hh=> ⟨(World.cell?_of_block (w:=wr) (hh ob (.inr rfl))).trans HO.out.c3,(World.cell?_of_block (w:=wr) (hh ob (.inr rfl))).trans HO.out.c4,(World.cell?_of_block (w:=wr) (hh (w.heap.size+1) (.inl (by omega)))).trans c2,(World.cell?_of_block (w:=wr) (hh rb (.inl (by omega)))).trans t0,(World.cell?_of_block (w:=wr) (hh rb (.inl (by omega)))).trans t5,(World.cell?_of_block (w:=wr) (hh w.heap.size (.inl (by omega)))).trans c0,(World.cell?_of_block (w:=wr) (hh nb (.inl (by omega)))).trans hnc⟩
     clear c0 c1 t0 t5 hnc hrc hncs hce hcs hx hxg hxm hxgd hA hAe hnn hnmin e4 HU
     have hobw: ¬ob=w.heap.size:=by omega
     go_upto_region 13 with fail
     clear c2
     refine Qx.rh 10 Zz.out (fun _ _=> rfl) fun wd KD Z_=> ?_
     obtain ⟨⟨_,fo2⟩,fo1⟩:= (HO.out.kept KD).row.row.at (i:=3) (by omega)
     have hobd:= (HO.out.kept KD).row.lt
     refine Qx.tk 0 Z_ ?_
     refine Qx.tk 1 Z_ ?_
     refine Qx.tk 2 Z_ ?_
     refine Qx.tk 3 Z_ ?_
     refine Qx.tk 4 Z_ ?_
     refine Qx.tk 5 Z_ ?_
     refine Qx.tk 6 Z_ ?_
     refine Qx.tk 7 Z_ ?_
     refine Qx.tk 8 Z_ ?_
     refine Qx.tk 9 Z_ ?_
     refine Qx.nx 10 (fun K hK=> ?_)
     go_simp
     refine hK.out _ _ (fun h=> absurd rfl h) ?_
     clear hK K
     try simp only [Act.put,upA,upB,upC]
     refine Qx.dn ?_
     clear fo1 fo2 hobd
     obtain ⟨W5,hW5⟩: ∃W5,W5=wd.setCell ⟨ob,3,none⟩ (.int .i64 (uu+x.Zj)):= ⟨_,rfl⟩
     rw [<-hW5]
     have HO5:Hid (OutB W2 ob W5 code (.slice av k cv) (uu+x.Zj) cc):=by rw [hW5];exact (HO.out.kept KD).set3 _
     have HW5:Hid (W5.ownsRow W2.heap.size 116 4 (.slice av k cv) k (dResCells (Kk.map R))):=by
      rw [hW5]
      have h:=ownsRow_kept' HW.out KD
      exact (But.set (S:=fun b=> b=ob) (But.of_kept (K_.refl wd)) (p:= ⟨ob,3,none⟩) rfl _).owns h (fun b e e2=> by have:= (h.lt b e).1;omega)
     have HB5:Hid (∀b,b≠ob->b < wr.heap.size->W5.heap[b]? =wr.heap[b]?):=fun b hb hz=> by rw [hW5,Below.heap_setCell _ _ _ _ hb];exact KD.block b hz
     have HS5:Hid (∀u:World,(∀b,b < w.heap.size+1+1∨b=ob->u.heap[b]? =W5.heap[b]?)->u.cell? ⟨ob,4,none⟩=some (.int .i64 cc)∧u.cell? ⟨w.heap.size+1,1,none⟩=some (.slice (some ⟨rb,ro,none⟩) sl.length dc)∧u.cell? ⟨rb,ro+i * 7,none⟩=some (.string x.name)∧u.cell? ⟨rb,ro+i * 7+5,none⟩=some (.int .i64 x.Zj)∧u.cell? ⟨w.heap.size,0,none⟩=some (.slice (some ⟨nb,no,none⟩) Kj.length cap)∧u.cell? ⟨nb,no+nk * 3+1,none⟩=some (.int .i64 cst)):=fun u hh=> by
      have ho:=Zz.out wr (fun _ _=> rfl)
      have q: ∀b o,b < w.heap.size+1+1->u.cell? ⟨b,o,none⟩=wr.cell? ⟨b,o,none⟩:=fun b o hb=> (World.cell?_of_block (w:=W5) (hh b (.inl hb))).trans (World.cell?_of_block (w:=wr) (HB5.out b (by omega) (by omega)))
      exact ⟨(World.cell?_of_block (w:=W5) (hh ob (.inr rfl))).trans HO5.out.c4,(q _ _ (by omega)).trans ho.2.2.1,(q _ _ (by omega)).trans ho.2.2.2.1,(q _ _ (by omega)).trans ho.2.2.2.2.1,(q _ _ (by omega)).trans ho.2.2.2.2.2.1,(q _ _ (by omega)).trans ho.2.2.2.2.2.2⟩
     have hz5:wr.heap.size<=W5.heap.size:=by rw [hW5,size_setCell];exact KD.size
     clear hW5 KD HO HW Zz Z_
     clear wd
     go_upto_region 14 with fail
     refine Qx.rh 25 HS5.out (fun _ _=> rfl) fun wd KD Z_=> ?_
     refine Qx.tk 0 Z_ ?_
     refine Qx.tk 1 Z_ ?_
     refine Qx.tk 2 Z_ ?_
     refine Qx.tk 3 Z_ ?_
     refine Qx.tk 4 Z_ ?_
     refine Qx.tk 5 Z_ ?_
     refine Qx.tk 6 Z_ ?_
     refine Qx.tk 7 Z_ ?_
     refine Qx.tk 8 Z_ ?_
     refine Qx.tk 9 Z_ ?_
     refine Qx.tk 10 Z_ ?_
     refine Qx.tk 11 Z_ ?_
     refine Qx.tk 12 Z_ ?_
     refine Qx.tk 13 Z_ ?_
     refine Qx.tk 14 Z_ ?_
     refine Qx.tk 15 Z_ ?_
     refine Qx.tk 16 Z_ ?_
     refine Qx.nx 17 (fun K hK=> ?_)
     rw [if_pos (by rfl)]
     go_simp
     go_at_call 55
     have KwD:K_ w wd:= (HC.out W5 HO5.out.but).2.2.2.2.1.trans KD
     refine (l2At_place wd (some ⟨nb,no,none⟩) cap Kj x.name hwl (hN.kept KwD)).mono ?_
     rintro e w6 ⟨⟨r,rfl,hr⟩,k6⟩
     rw [HPl.out r hr]
     have K6:=KD.trans k6
     have hw6: ∀b,b < w.heap.size+1+1∨b=ob->w6.heap[b]? =W5.heap[b]? :=fun b hb=> K6.block b (by omega)
     have hnki: (nk:Int) < (Kj.length:Int):=by omega
     clear hr
     dsimp only
     refine hK.out _ _ (fun _=> HS5.out _ hw6) ?_
     clear hK K Z_
     try simp only [Act.put,upA,upB,upC]
     have Z_:=HS5.out _ hw6
     refine Qx.tk 18 Z_ ?_
     refine Qx.tk 19 Z_ ?_
     refine Qx.tk 20 Z_ ?_
     refine Qx.tk 21 Z_ ?_
     refine Qx.tk 22 Z_ ?_
     refine Qx.tk 23 Z_ ?_
     refine Qx.tk 24 Z_ ?_
     obtain ⟨⟨_,fo2⟩,fo1⟩:= (HO5.out.kept K6).row.row.at (i:=4) (by omega)
     have hobd:= (HO5.out.kept K6).row.lt
     refine Qx.nx 25 (fun K hK=> ?_)
     go_simp
     refine hK.out _ _ (fun h=> absurd rfl h) ?_
     clear hK K
     try simp only [Act.put,upA,upB,upC]
     refine Qx.dn ?_
     have HO6:Hid (OutB W2 ob (w6.setCell ⟨ob,4,none⟩ (.int .i64 (cc+x.Zj * cst))) code (.slice av k cv) (uu+x.Zj) (cc+x.Zj * cst)):= (HO5.out.kept K6).set4 _
     have HW6:Hid ((w6.setCell ⟨ob,4,none⟩ (.int .i64 (cc+x.Zj * cst))).ownsRow W2.heap.size 116 4 (.slice av k cv) k (dResCells (Kk.map R))):=by
      have h:=ownsRow_kept' HW5.out K6
      exact (But.set (S:=fun b=> b=ob) (But.of_kept (K_.refl w6)) (p:= ⟨ob,4,none⟩) rfl _).owns h (fun b e e2=> by have:= (h.lt b e).1;omega)
     clear fo1 fo2 hobd Z_
     go_wp2
     go_roundw
     case rel=> exact ⟨i+1,uu+x.Zj,cc+x.Zj * cst,by omega,by go_num,HUn,HO6,HW6⟩
     case measure=> simp [intOf];omega
    ·have hni: ¬((i:Int) < (sl.length:Int)):=by omega
     have hie:i=sl.length:=by omega
     have HUe:Hid (uu=unitsX sl∧cc=costX (Q_ Kj) sl):=by have h:=HU.out;rw [hie,List.take_length] at h;exact h
     have HRs:Hid (Ress wr av (Kk.map R)):=by
      obtain ⟨a9,c9,e9,h9⟩:=owned_ress HW.out
      simp only [Value.slice.injEq] at e9
      rw [e9.1]
      exact h9
     have HNo:=Kz HO.out.no
     have HRl:Hid ((Kk.map R).length=k):=by show _=_;rw [List.length_map];exact HKe.out.symm
     have o0:=HO.out.c0
     have hob1:=HO.out.row.lt
     clear hil hie HU HW hi
     rcases HCd.out with ⟨hcd,hno⟩ | ⟨hcd,hyes⟩
     ·subst hcd
      have HN0:=Kz hno
      have o1:=HO.out.c1
      have o2:=HO.out.c2
      have o3:=HO.out.c3
      have o4:=HO.out.c4
      have HTo:Hid (ToldAns Kj Kk sl ⟨0,Kk.map R,[],uu,cc⟩):= ⟨⟨by rw [HRl.out];have:=HKe.out;omega,Nat.zero_le _⟩,.inl ⟨HVal.out,⟨by rw [HRx.out],HUe.out.1,HUe.out.2,.inl ⟨HN0.out,rfl,rfl⟩⟩⟩⟩
      clear hno
      obtain ⟨⟨_,fa0⟩,fb0⟩:=HRr.out.row.at (i:=0) (by omega)
      obtain ⟨⟨_,fa1⟩,fb1⟩:=HRr.out.row.at (i:=1) (by omega)
      obtain ⟨⟨_,fa2⟩,fb2⟩:=HRr.out.row.at (i:=2) (by omega)
      obtain ⟨⟨_,fa3⟩,fb3⟩:=HRr.out.row.at (i:=3) (by omega)
      obtain ⟨⟨_,fa4⟩,fb4⟩:=HRr.out.row.at (i:=4) (by omega)
      have hrz:=HRr.out.lt
      go_wp2
      have hX:=World.rangeAt_setCells_same wr (w.heap.size+1+1) 0 [.int .i64 0,.slice av k cv,.slice none 0 0,.int .i64 uu,.int .i64 cc] (HRr.out.row.there (o:=0) (m:=5) (Nat.le_refl _))
      refine X_ [.int .i64 0,.slice av k cv,.slice none 0 0,.int .i64 uu,.int .i64 cc] _ Tryz.results25 rfl hX Tryz.underlying31 rfl Tryz.sizeOutcome5 rfl ⟨_,av,none,cv,0, ?_,HTo.out, ?_, ?_, ?_⟩
      ·show Ending.returned _=Ending.returned _;rw [HRl.out];try rfl
      ·exact ress_sets_no (vs:=[.int .i64 0,.slice av k cv,.slice none 0 0,.int .i64 uu,.int .i64 cc]) HRs.out HNr.out
      ·exact (fun i hi=> by cases hi)
      ·exact kept_sets (g:=w.heap.size+1+1) (by omega) [.int .i64 0,.slice av k cv,.slice none 0 0,.int .i64 uu,.int .i64 cc] 0 HKw.out
     ·subst hcd
      have HY0:=Kz hyes
      clear hyes
      have hS60:=hs60
      go_wp2_with fail
      refine (ready_any wr a cap Kj ra Kk.length rc d dc sl hwl (by omega) (web_small HVal.out.1) (fun r hr _ _=> (HGd.out.good r hr).act) (hN.kept HKw.out) (hS.kept HKw.out)).mono ?_
      rintro e w5 ⟨⟨da,c5,ns,rfl,hrl,hown⟩,k5⟩
      have HO5:=Kz (HO.out.kept k5)
      have HRs5:=Kz (HRs.out.kept k5)
      have HRr5:=Kz (HRr.out.kept k5)
      have HNr5:=Kz (HNr.out.kept HRr.out.lt k5)
      have KW5:=HKw.out.trans k5
      have hob5:=HO5.out.row.lt
      have HMem:=Kz hrl.mem
      have hnl:=hrl.len
      obtain ⟨c0,c1,c2,_,_,_,_,hz5⟩:=HC.out w5 HO5.out.but
      have o0:=HO5.out.c0
      clear hrl hown HO HRs HRr o0 hob1
      by_cases hns:ns.length=0
      ·have hnb: ((ns.length:Int) == 0)=true:=by simpa using hns
       have HNn:Hid (¬∃r∈sl,CanGo (Q_ Kj) (Qj sl) r):=fun ⟨r,h1,h2⟩=> by
        have h:= (HMem.out r.name).2 ⟨r,h1,rfl,h2⟩
        rw [List.length_eq_zero_iff.1 hns] at h
        cases h
       have o0:=HO5.out.c0
       obtain ⟨⟨_,f0⟩,f1⟩:=HO5.out.row.row.at (i:=0) (by omega)
       obtain ⟨W6,hW6⟩: ∃W6,W6=w5.setCell ⟨ob,0,none⟩ (.int .i64 1):= ⟨_,rfl⟩
       have HO6:Hid (OutB W2 ob W6 1 (.slice av k cv) uu cc):=by rw [hW6];exact HO5.out.set0 1
       have HRs6:Hid (Ress W6 av (Kk.map R)):=by rw [hW6];exact ress_set_no HRs5.out HO5.out.no
       have hz6:W6.heap.size=w5.heap.size:=by rw [hW6,size_setCell]
       clear hns c0 c1 c2
       obtain ⟨c0,c1,c2,_,KW6,hRr6,hNr6,_⟩:=HC.out W6 HO6.out.but
       have HRr6:=Kz hRr6
       have HNr6:=Kz hNr6
       have HKW6:=Kz KW6
       clear hRr6 hNr6 KW6
       go_upto_region 17 with fail
       rw [<-hW6]
       clear hW6 f0 f1
       go_wp2_with fail
       refine (l6Circle_any W6 a cap Kj ra Kk.length rc d dc sl hwl (by omega) hok HGd.out (hN.kept HKW6.out) (hS.kept HKW6.out)).mono ?_
       rintro e w7 ⟨fa,fc,chn,rfl,hnc,hch,hBR,k7⟩
       have HO7:=Kz (HO6.out.kept k7)
       have HTo:Hid (ToldAns Kj Kk sl ⟨1,Kk.map R,chn,uu,cc⟩):= ⟨⟨by rw [HRl.out];have:=HKe.out;omega,by
        have h1:=hBR.len waits_name
        rw [List.length_map] at h1
        show chn.length<=60
        omega⟩,.inl ⟨HVal.out,⟨by rw [HRx.out],HUe.out.1,HUe.out.2,.inr (.inr ⟨HY0.out,HNn.out,rfl,hBR.circ waits_name⟩)⟩⟩⟩
       have HCh:=Kz (strs_set_no (g:=ob) (o:=2) (v:= .slice fa chn.length fc) hch HO7.out.no)
       have HRs7:=Kz (ress_set_no (g:=ob) (o:=2) (v:= .slice fa chn.length fc) (HRs6.out.kept k7) HO7.out.no)
       have HRr7:Hid (RowT (w7.setCell ⟨ob,2,none⟩ (.slice fa chn.length fc)) (w.heap.size+1+1) 31 5):= (HRr6.out.kept k7).block (Below.heap_setCell _ _ _ _ (by show w.heap.size+1+1≠ob;omega))
       have HNr7:Hid (NoStr (w7.setCell ⟨ob,2,none⟩ (.slice fa chn.length fc)) (w.heap.size+1+1)):=fun o s e=> HNr6.out.kept HRr6.out.lt k7 o s ((Zk (by omega)).symm.trans e)
       have HK7:Hid (K_ w (w7.setCell ⟨ob,2,none⟩ (.slice fa chn.length fc))):= (HKW6.out.trans k7).setCell (by show w.heap.size<=ob;omega) _
       have ⟨q0,q1,q3,q4⟩: (w7.setCell ⟨ob,2,none⟩ (.slice fa chn.length fc)).cell? ⟨ob,0,none⟩=some (.int .i64 1)∧(w7.setCell ⟨ob,2,none⟩ (.slice fa chn.length fc)).cell? ⟨ob,1,none⟩=some (.slice av k cv)∧(w7.setCell ⟨ob,2,none⟩ (.slice fa chn.length fc)).cell? ⟨ob,3,none⟩=some (.int .i64 uu)∧(w7.setCell ⟨ob,2,none⟩ (.slice fa chn.length fc)).cell? ⟨ob,4,none⟩=some (.int .i64 cc):= ⟨miss HO7.out.c0 (by decide),miss HO7.out.c1 (by decide),miss HO7.out.c3 (by decide),miss HO7.out.c4 (by decide)⟩
       have q2: (w7.setCell ⟨ob,2,none⟩ (.slice fa chn.length fc)).cell? ⟨ob,2,none⟩=some (.slice fa chn.length fc):=set_hit HO7.out.row.row (by omega) _
       have hob7:ob < (w7.setCell ⟨ob,2,none⟩ (.slice fa chn.length fc)).heap.size:=by rw [size_setCell];exact HO7.out.row.lt
       obtain ⟨⟨_,f0⟩,f1⟩:=HO7.out.row.row.at (i:=2) (by omega)
       have hob77:=HO7.out.row.lt
       obtain ⟨W8,hW8⟩: ∃W8,W8=w7.setCell ⟨ob,2,none⟩ (.slice fa chn.length fc):= ⟨_,rfl⟩
       rw [<-hW8] at HCh HRs7 HRr7 HNr7 HK7 q0 q1 q2 q3 q4 hob7
       clear hnc hch hBR c0 c1 c2 HO7
       go_upto_region 18 with fail
       rw [<-hW8]
       clear hW8 f0 f1
       obtain ⟨⟨_,fa0⟩,fb0⟩:=HRr7.out.row.at (i:=0) (by omega)
       obtain ⟨⟨_,fa1⟩,fb1⟩:=HRr7.out.row.at (i:=1) (by omega)
       obtain ⟨⟨_,fa2⟩,fb2⟩:=HRr7.out.row.at (i:=2) (by omega)
       obtain ⟨⟨_,fa3⟩,fb3⟩:=HRr7.out.row.at (i:=3) (by omega)
       obtain ⟨⟨_,fa4⟩,fb4⟩:=HRr7.out.row.at (i:=4) (by omega)
       have hrz:=HRr7.out.lt
       go_wp2
       have hX:=World.rangeAt_setCells_same W8 (w.heap.size+1+1) 0 [.int .i64 1,.slice av k cv,.slice fa chn.length fc,.int .i64 uu,.int .i64 cc] (HRr7.out.row.there (o:=0) (m:=5) (Nat.le_refl _))
       refine X_ [.int .i64 1,.slice av k cv,.slice fa chn.length fc,.int .i64 uu,.int .i64 cc] _ Tryz.results25 rfl hX Tryz.underlying31 rfl Tryz.sizeOutcome5 rfl ⟨_,av,fa,cv,fc, ?_,HTo.out, ?_, ?_, ?_⟩
       ·show Ending.returned _=Ending.returned _;rw [HRl.out];try rfl
       ·exact ress_sets_no (vs:=[.int .i64 1,.slice av k cv,.slice fa chn.length fc,.int .i64 uu,.int .i64 cc]) HRs7.out HNr7.out
       ·exact strs_sets_no (vs:=[.int .i64 1,.slice av k cv,.slice fa chn.length fc,.int .i64 uu,.int .i64 cc]) HCh.out HNr7.out
       ·exact kept_sets (g:=w.heap.size+1+1) (by omega) [.int .i64 1,.slice av k cv,.slice fa chn.length fc,.int .i64 uu,.int .i64 cc] 0 HK7.out
      ·have hnb: ((ns.length:Int) == 0)=false:=by simpa using hns
       have HYn:Hid (∃r∈sl,CanGo (Q_ Kj) (Qj sl) r):=by
        obtain ⟨n,hn⟩: ∃n,n∈ns:=List.exists_mem_of_ne_nil _ (fun e=> hns (by rw [e];rfl))
        obtain ⟨r,h1,_,h2⟩:= (HMem.out n).1 hn
        exact ⟨r,h1,h2⟩
       have o0:=HO5.out.c0
       have o1:=HO5.out.c1
       have o2:=HO5.out.c2
       have o3:=HO5.out.c3
       have o4:=HO5.out.c4
       have HTo:Hid (ToldAns Kj Kk sl ⟨2,Kk.map R,[],uu,cc⟩):= ⟨⟨by rw [HRl.out];have:=HKe.out;omega,Nat.zero_le _⟩,.inl ⟨HVal.out,⟨by rw [HRx.out],HUe.out.1,HUe.out.2,.inr (.inl ⟨HY0.out,HYn.out,rfl,rfl⟩)⟩⟩⟩
       clear hns c0 c1 c2
       obtain ⟨⟨_,fa0⟩,fb0⟩:=HRr5.out.row.at (i:=0) (by omega)
       obtain ⟨⟨_,fa1⟩,fb1⟩:=HRr5.out.row.at (i:=1) (by omega)
       obtain ⟨⟨_,fa2⟩,fb2⟩:=HRr5.out.row.at (i:=2) (by omega)
       obtain ⟨⟨_,fa3⟩,fb3⟩:=HRr5.out.row.at (i:=3) (by omega)
       obtain ⟨⟨_,fa4⟩,fb4⟩:=HRr5.out.row.at (i:=4) (by omega)
       have hrz:=HRr5.out.lt
       go_wp2
       have hX:=World.rangeAt_setCells_same w5 (w.heap.size+1+1) 0 [.int .i64 2,.slice av k cv,.slice none 0 0,.int .i64 uu,.int .i64 cc] (HRr5.out.row.there (o:=0) (m:=5) (Nat.le_refl _))
       refine X_ [.int .i64 2,.slice av k cv,.slice none 0 0,.int .i64 uu,.int .i64 cc] _ Tryz.results25 rfl hX Tryz.underlying31 rfl Tryz.sizeOutcome5 rfl ⟨_,av,none,cv,0, ?_,HTo.out, ?_, ?_, ?_⟩
       ·show Ending.returned _=Ending.returned _;rw [HRl.out];try rfl
       ·exact ress_sets_no (vs:=[.int .i64 2,.slice av k cv,.slice none 0 0,.int .i64 uu,.int .i64 cc]) HRs5.out HNr5.out
       ·exact (fun i hi=> by cases hi)
       ·exact kept_sets (g:=w.heap.size+1+1) (by omega) [.int .i64 2,.slice av k cv,.slice none 0 0,.int .i64 uu,.int .i64 cc] 0 KW5
attribute [local go_sem] Oper.semAt_some
theorem results_cell1 {P:Program} {fn:Func} {tmps:Array Value} {w:World} {p:Tmp} {ty:TypeId} {b:Nat} (v:Value) (d:TypeDesc) (h:fn.results= #[.cell p ty])
  (hp:tmps.getD p undef= .pointer (some ⟨b,0,none⟩)) (hc:w.cell? ⟨b,0,none⟩=some v) (hu:P.underlying ty=some d) (hd:d.isRow=false): (results fn tmps).run P w= .ok v w:=by
 have hp':tmps[p]?.getD undef= .pointer (some ⟨b,0,none⟩):=by simpa using hp
 have hagg: (isAgg ty).run P w= .ok false w:=by
  unfold isAgg
  rw [Sem.run_bind,run_underlying hu w]
  cases d <;> simp_all
 have hl: (loadVar ty ⟨b,0,none⟩).run P w= .ok v w:=by simp [loadVar,Sem.run_bind,hagg,hc]
 simp only [results,h]
 simp [hp',asAddr,hl]
def AnI (w1:World) (c:Nat) (Kj:List Qq) (ts:List Zx) (i:Nat) (W:World):Prop:=
 K_ w1 W∧RowT W c 4 1∧∀r∈(Qk ts).take i,¬CanGo (Q_ Kj) (Qj (Qk ts)) r
def AnX (w1:World) (c:Nat) (Kj:List Qq) (ts:List Zx) (x:Code) (W:World):Prop:=
 x= .ret∧K_ w1 W∧RowT W c 4 1∧W.cell? ⟨c,0,none⟩=some (.bool true)∧∃r∈Qk ts,CanGo (Q_ Kj) (Qj (Qk ts)) r
theorem AnI.calm {w1:World} {c:Nat} {Kj:List Qq} {ts:List Zx} {i B:Nat} (hw:w1.heap.size<=c) (hc:c < B):Calm B (AnI w1 c Kj ts i):=by
 constructor
 ·rintro W o hB ⟨k,h1,h2⟩
  have ka:= (K_.refl W).alloc o
  exact ⟨k.trans ka,h1.kept ka,h2⟩
 ·rintro W l o o' hl ho hn ⟨k,h1,h2⟩
  have kb:But (fun b=> b=l) W (W.putObj l o'):= ⟨rfl,rfl,rfl,by rw [World.putObj_size];exact Nat.le_refl _,fun b _ e=> World.putObj_heap_other e⟩
  exact ⟨kb.kept k (fun b e=> by rw [e];omega),kb.row h1 (fun (e:c=l)=> by omega),h2⟩
theorem AnX.calm {w1:World} {c:Nat} {Kj:List Qq} {ts:List Zx} {x:Code} {B:Nat} (hw:w1.heap.size<=c) (hc:c < B):Calm B (AnX w1 c Kj ts x):=by
 constructor
 ·rintro W o hB ⟨hx,k,h1,h2,h3⟩
  have ka:= (K_.refl W).alloc o
  exact ⟨hx,k.trans ka,h1.kept ka,(ka.cell h1.lt).trans h2,h3⟩
 ·rintro W l o o' hl ho hn ⟨hx,k,h1,h2,h3⟩
  have kb:But (fun b=> b=l) W (W.putObj l o'):= ⟨rfl,rfl,rfl,by rw [World.putObj_size];exact Nat.le_refl _,fun b _ e=> World.putObj_heap_other e⟩
  exact ⟨hx,kb.kept k (fun b e=> by rw [e];omega),kb.row h1 (fun (e:c=l)=> by omega),(put_cell o' (by omega)).trans h2,h3⟩
section
variable {G : Ghost} {Kj : List Qq} {wz w w' : World} {bb : Nat} {a : Option Addr} {cap : Nat} {rd : Option Addr} {rn rc : Nat} {mb mx : Nat} {ts : List Zx} {d : Option Addr} {dc : Nat} {f : ByteArray -> Value} {ws : ByteArray -> List Nat}
theorem anyReady_any (hB:BM G Kj wz w bb a cap rd rn rc mb mx ts d dc f ws) (hBS:BS Kj ts ws) (hts:ts.length<=60):
  Calls Tryz.prog 82 #[.pointer (some ⟨bb,0,none⟩)] w fun e w'=> Says e (∃r∈Qk ts,CanGo (Q_ Kj) (Qj (Qk ts)) r)∧K_ w w':=by
 have HB:=Kz hB
 have HBS:=Kz hBS
 refine (callsIn_wide (n:=9)).1 ?_
 refine callsIn_of_wp_marks Tryz.func82 rfl trivial ?_ rfl
 simp only [Tryz.ntmps82,List.size_toArray,List.length_cons,List.length_nil,Nat.reduceAdd,Nat.reduceSub,Array.replicate_succ,Array.replicate_zero,List.push_toArray,List.append_toArray,List.nil_append,List.cons_append]
 gi_wp2_with fail
 obtain ⟨W0,hW0⟩: ∃W0,w.alloc (.cells #[.bool false] 4)=W0:= ⟨_,rfl⟩
 rw [hW0]
 have K0:K_ w W0:=by rw [<-hW0];exact (K_.refl _).alloc _
 have z0:W0.heap.size=w.heap.size+1:=by rw [<-hW0];simp
 have HR0:Hid (RowT W0 w.heap.size 4 1):=by rw [<-hW0];exact RowT.made w #[.bool false] 4
 have bbz:=HB.out.row.lt
 have c30:= (HB.out.kept K0).c3
 refine loop_looks (ready_looks bb d ts.length dc (tbOf ts) (by omega)) rfl (enters_of Tryz.func117 (by kernel_rfl) rfl) (bb_calm (by omega)) c30 (fun _=> rfl)
  (AnI w w.heap.size Kj ts) (AnX w w.heap.size Kj ts) (fun i=> AnI.calm (Nat.le_refl _) (by omega)) (fun _=> AnX.calm (Nat.le_refl _) (by omega))
  ⟨K0,HR0.out,fun r hr=> by simp at hr⟩
  (fun i=> { tmps:= #[.pointer (some ⟨bb,0,none⟩),undef,.pointer (some ⟨w.heap.size,0,none⟩),.pointer (some ⟨bb,0,none⟩),.func (.func 117) #[.pointer (some ⟨bb,0,none⟩)] #[],.pointer (some ⟨tbOf ts i,0,none⟩)],defers:=[] }) ?assign (fun i=> sees_calm (fun g e=> by have:= (HB.out.apart e).1;omega)) ?step ?done ?stop
 case assign=>
  intro l i W K hK
  gi_wp2
  simpa using hK
 case step=>
  rintro i W hi ⟨k,h1,h2⟩
  have hnx: (Qk ts).take (i+1)= (Qk ts).take i++ [ts[i].r]:=by
   rw [List.take_succ_eq_append_getElem (by simpa [Qk] using hi)]
   simp [Qk]
  rcases (HB.out.kept k).sees HBS.out hi with ⟨hv,hr⟩ | ⟨hn,hr⟩
  rotate_left
  ·refine .inr ⟨hn,k,h1,fun r hm=> ?_⟩
   rw [hnx] at hm
   rcases List.mem_append.1 hm with h | h
   ·exact h2 r h
   ·rw [List.mem_singleton] at h;rw [h];exact hr
  refine .inl ⟨hv, ?_⟩
  have HR:Hid (∃r∈Qk ts,CanGo (Q_ Kj) (Qj (Qk ts)) r):= ⟨_,List.mem_map.2 ⟨ts[i],List.getElem_mem hi,rfl⟩,hr⟩
  clear hv hr hnx h2 h1 k
  clear W
  rintro l W _ ⟨k,h1,h2⟩ hzW
  obtain ⟨⟨_,g1⟩,g2⟩:=h1.row.at (i:=0) (by omega)
  have gz:=h1.lt
  have HKF:Hid (KeepsFrom W0.heap.size W (W.setCell ⟨w.heap.size,0,none⟩ (.bool true))):= ((KeepsOthers.refl W).trans (KeepsOthers.setCell _ _ _)).from _
  have HFin:Hid (AnX w w.heap.size Kj ts .ret (W.setCell ⟨w.heap.size,0,none⟩ (.bool true))):= ⟨rfl,k.setCell (Nat.le_refl _) _,h1.set _,set_hit h1.row (by omega) _,HR.out⟩
  clear h1 h2 k
  gi_wp2
  exact ⟨HKF.out,HFin.out⟩
 case done=>
  rintro D W hD ⟨k,h1,h2⟩ hdef
  have hall: (Qk ts).take ts.length=Qk ts:=List.take_of_length_le (by simp [Qk])
  rw [hall] at h2
  have H2:Hid (¬∃r∈Qk ts,CanGo (Q_ Kj) (Qj (Qk ts)) r):=fun ⟨r,g1,g2⟩=> h2 r g1 g2
  obtain ⟨⟨_,g1⟩,g2⟩:=h1.row.at (i:=0) (by omega)
  have gz:=h1.lt
  have hwD:w.heap.size < D:=by omega
  have HR1:=Kz h1
  have HFin:Hid (K_ w ((W.setCell ⟨w.heap.size,0,none⟩ (.bool false)).putObj D (.deferred none))):=by
   have kb:But (fun b=> b=D) (W.setCell ⟨w.heap.size,0,none⟩ (.bool false)) ((W.setCell ⟨w.heap.size,0,none⟩ (.bool false)).putObj D (.deferred none)):= ⟨rfl,rfl,rfl,by rw [World.putObj_size];exact Nat.le_refl _,fun b _ e=> World.putObj_heap_other e⟩
   exact kb.kept (k.setCell (Nat.le_refl _) _) (fun b e=> by rw [e];omega)
  have hdef2: (W.setCell ⟨w.heap.size,0,none⟩ (.bool false)).heap[D]? =some (.deferred (some [])):= (Below.heap_setCell _ _ _ _ (by show D≠w.heap.size;omega)).trans hdef
  have HC:Hid (((W.setCell ⟨w.heap.size,0,none⟩ (.bool false)).putObj D (.deferred none)).cell? ⟨w.heap.size,0,none⟩=some (.bool false)):= (put_cell _ (by omega)).trans (set_hit h1.row (by omega) _)
  clear h1 h2 hall k
  gi_wp2
  exact ⟨by simp,.inl ⟨_,_,rfl,run_takeDeferred hdef2,_,results_cell1 (b:=w.heap.size) (.bool false) _ Tryz.results82 rfl HC.out Tryz.underlying4 rfl,Says.no H2.out,HFin.out⟩⟩
 case stop=>
  rintro D x W hD ⟨rfl,k,h1,h2,h3⟩ hdef
  have hwD:w.heap.size < D:=by omega
  have HFin:Hid (K_ w (W.putObj D (.deferred none))):=by
   have kb:But (fun b=> b=D) W (W.putObj D (.deferred none)):= ⟨rfl,rfl,rfl,by rw [World.putObj_size];exact Nat.le_refl _,fun b _ e=> World.putObj_heap_other e⟩
   exact kb.kept k (fun b e=> by rw [e];omega)
  have HC:Hid ((W.putObj D (.deferred none)).cell? ⟨w.heap.size,0,none⟩=some (.bool true)):= (put_cell _ (by omega)).trans h2
  have H3:=Kz h3
  clear h1 h2 h3 k
  gi_wp2
  exact ⟨by simp,.inl ⟨_,_,rfl,run_takeDeferred hdef,_,results_cell1 (b:=w.heap.size) (.bool true) _ Tryz.results82 rfl HC.out Tryz.underlying4 rfl,Says.yes H3.out,HFin.out⟩⟩
end
def StrsP (w:World) (lo hi:Nat) (a:Option Addr) (l:List ByteArray):Prop:= ∀i,i < l.length->∃b o,a=some ⟨b,o,none⟩∧(lo<=b∧b < hi)∧b < w.heap.size∧w.cell? ⟨b,o+i,none⟩=some (.string (l.getD i ByteArray.empty))
def RunsP (w:World) (lo hi:Nat) (a:Option Addr) (l:List Qz):Prop:=
 ∀i,i < l.length->∃b o xa xc,a=some ⟨b,o,none⟩∧(lo<=b∧b < hi)∧b < w.heap.size∧w.rangeAt b (o+i * 7) ((l.getD i Qz.zero).cells xa xc)∧StrsP w lo hi xa (l.getD i Qz.zero).texts∧(xa=none->xc=0)
section
variable {w w' : World} {lo hi : Nat} {a : Option Addr}
theorem StrsP.but {l:List ByteArray} {P:Nat->Prop} (h:StrsP w lo hi a l) (k:But P w w') (hP: ∀x,P x->¬(lo<=x∧x < hi)):StrsP w' lo hi a l:=fun i hl=> by
 obtain ⟨b,o,e,h1,h2,h3⟩:=h i hl
 exact ⟨b,o,e,h1,Nat.lt_of_lt_of_le h2 k.size,(k.cell h2 (fun x=> hP b x h1)).trans h3⟩
theorem StrsP.strs {l:List ByteArray} (h:StrsP w lo hi a l):Strs w a l:=fun i hl=> by
 obtain ⟨b,o,e,_,h2,h3⟩:=h i hl
 exact ⟨b,o,e,h2,h3⟩
theorem RunsP.but {l:List Qz} {P:Nat->Prop} (h:RunsP w lo hi a l) (k:But P w w') (hP: ∀x,P x->¬(lo<=x∧x < hi)):RunsP w' lo hi a l:=fun i hl=> by
 obtain ⟨b,o,xa,xc,e,h1,h2,h3,h4,h5⟩:=h i hl
 exact ⟨b,o,xa,xc,e,h1,Nat.lt_of_lt_of_le h2 k.size,fun j v hv=> (k.cell h2 (fun x=> hP b x h1)).trans (h3 j v hv),h4.but k hP,h5⟩
theorem RunsP.runs {l:List Qz} (h:RunsP w lo hi a l):RunsX w a l:=fun i hl=> by
 obtain ⟨b,o,xa,xc,e,_,h2,h3,h4,h5⟩:=h i hl
 exact ⟨b,o,xa,xc,e,h2,h3,h4.strs,h5⟩
end
theorem StateX.stretch {Kk:List ByteArray} {T:List Qz} {w w':World} {e:Ending} (h:StateX Kk T w w' e): ∃ra rc d dc,e= .returned (.agg #[.slice ra Kk.length rc,.slice d T.length dc])∧StrsP w' w.heap.size w'.heap.size ra Kk∧RunsP w' w.heap.size w'.heap.size d T∧K_ w w':=by
 obtain ⟨ra,rc,d,dc,xs,rfl,h1,h2,h3,k⟩:=h
 refine ⟨ra,rc,d,dc,rfl,fun i hl=> ?_,fun i hl=> ?_,k⟩
 ·rcases h1.2 with ⟨e,h0⟩ | ⟨g,cap,cur,e,hb,hg,hnc,_,_,_⟩
  ·rw [h0] at hl;exact absurd hl (Nat.not_lt_zero _)
  ·injection e with e1 e2 e3
   subst e1 e3
   have:=h1.cells (g:=g) rfl i (.string (Kk.getD i ByteArray.empty)) (by simp [List.getD,hl])
   rw [Addr.add_mid] at this
   exact ⟨g,0,rfl,⟨hb,heap_lt hg⟩,heap_lt hg,this⟩
 ·obtain ⟨_,a',cap',ev,hR⟩:=PackedX.runs h2 h3 (K_.refl w')
  injection ev with e1 e2 e3
  subst e1
  obtain ⟨b,o,xa,xc,e,hb,hr,hs,hx,hp⟩:=hR i hl
  have hbl:w.heap.size<=b:=by
   have:=h2.lt b (by rw [e];rcases h2.2 with ⟨e4,h0⟩ | ⟨g,cap,cur,e4,_⟩;(injection e4 with e5;rw [e] at e5;cases e5);(injection e4 with e5;rw [e] at e5;injection e5 with e5;injection e5 with e6 e7;subst e6 e7;rfl))
   exact this.1
  refine ⟨b,o,xa,xc,e,⟨hbl,hb⟩,hb,hr,fun j hj=> ?_,hx⟩
  obtain ⟨b',o',e',hb',hc'⟩:=hs j hj
  exact ⟨b',o',e',⟨hp _ e',hb'⟩,hb',hc'⟩
def bzCells :Option EffD->List Value
 | some e=> [.string e.name,.int .i64 e.fin,.int .i64 (e.slot:Int)]
 | none=> [.string ⟨#[]⟩,.int .i64 0,.int .i64 0]
theorem bz_len (x:Option EffD): (bzCells x).length=3:=by cases x <;> rfl
def clCells :List (ByteArray×Int)->List Value
 | []=> []
 | c :: r=> .string c.1 :: .int .i64 c.2 :: clCells r
theorem clCells_get : ∀(l:List (ByteArray×Int)) (i:Nat) (h:i < l.length),(clCells l)[i * 2]? =some (.string l[i].1)∧(clCells l)[i * 2+1]? =some (.int .i64 l[i].2)
 | [],_,h=> absurd h (Nat.not_lt_zero _)
 | c :: r,0,_=> ⟨rfl,rfl⟩
 | c :: r,i+1,h=> by
  have:=clCells_get r i (by simpa using h)
  rw [show (i+1) * 2=i * 2+1+1 by omega]
  simpa [clCells] using this
def lookC :List (ByteArray×Int)->ByteArray->Int
 | [],_=> -1
 | c :: r,n=> if c.1=n then c.2 else lookC r n
structure ShopC where
 Kj:List Qq
 Kk:List ByteArray
 wk:Nat
 w0:World
 hb:Nat
 bsb:Nat
 a:Option Addr
 cap:Nat
 ob:Nat
structure ShopD where
 ra:Option Addr
 rc:Nat
 d:Option Addr
 dc:Nat
 lo:Nat
 hi:Nat
 sa:Option Addr
 sc:Nat
 ba:Option Addr
 bc:Nat
 ca:Option Addr
 cc:Nat
 cl:List (ByteArray×Int)
def ShopD.own (D:ShopD) (c:ShopC) (S:Shop) (x:Nat):Prop:=x=c.hb∨x=c.bsb∨(Value.slice D.sa S.slots.length D.sc).ownBlock=some x∨(Value.slice D.ba S.back.length D.bc).ownBlock=some x
structure ShopM (c:ShopC) (S:Shop) (D:ShopD) (w:World):Prop where
 kw:K_ c.w0 w
 row:RowT w c.hb 59 7
 cel:w.rangeAt c.hb 0 [.slice c.a c.Kj.length c.cap,.slice D.ra c.Kk.length D.rc,.slice D.d S.T.length D.dc,.slice (some ⟨c.bsb,0,none⟩) c.wk c.wk,.slice D.sa S.slots.length D.sc,.slice D.ba S.back.length D.bc,.slice D.ca D.cl.length D.cc]
 hlow:c.w0.heap.size<=c.hb
 blow:c.w0.heap.size<=c.bsb
 len:S.busy.length=c.wk
 brow:RowT w c.bsb 98 (c.wk * 3)
 bsy: ∀k,k < c.wk->w.rangeAt c.bsb (k * 3) (bzCells (S.busy.getD k none))
 slt:w.ownsRow c.w0.heap.size 109 3 (.slice D.sa S.slots.length D.sc) S.slots.length (slCells S.slots)
 bak:w.ownsRow c.w0.heap.size 3 1 (.slice D.ba S.back.length D.bc) S.back.length (S.back.map (Value.int .i64))
 cau:w.ownsRow c.w0.heap.size 177 2 (.slice D.ca D.cl.length D.cc) D.cl.length (clCells D.cl)
 run:RunsP w D.lo D.hi D.d S.T
 rts:StrsP w D.lo D.hi D.ra c.Kk
 sep: ∀x,D.own c S x->¬(D.lo<=x∧x < D.hi)
 top:D.hi<=w.heap.size
 obw:c.w0.heap.size<=c.ob
 obl:c.ob < w.heap.size
 obs: ¬(D.lo<=c.ob∧c.ob < D.hi)
section
variable {c : ShopC} {S : Shop} {D : ShopD} {w w' : World}
theorem ShopM.at (h:ShopM c S D w):w.cell? ⟨c.hb,0,none⟩=some (.slice c.a c.Kj.length c.cap)∧w.cell? ⟨c.hb,1,none⟩=some (.slice D.ra c.Kk.length D.rc)∧w.cell? ⟨c.hb,2,none⟩=some (.slice D.d S.T.length D.dc)∧w.cell? ⟨c.hb,3,none⟩=some (.slice (some ⟨c.bsb,0,none⟩) c.wk c.wk)∧w.cell? ⟨c.hb,4,none⟩=some (.slice D.sa S.slots.length D.sc)∧w.cell? ⟨c.hb,5,none⟩=some (.slice D.ba S.back.length D.bc)∧w.cell? ⟨c.hb,6,none⟩=some (.slice D.ca D.cl.length D.cc):=
 ⟨h.cel 0 _ rfl,h.cel 1 _ rfl,h.cel 2 _ rfl,h.cel 3 _ rfl,h.cel 4 _ rfl,h.cel 5 _ rfl,h.cel 6 _ rfl⟩
theorem ShopM.low (h:ShopM c S D w) {x:Nat} (hx:D.own c S x):c.w0.heap.size<=x∧x < w.heap.size:=by
 rcases hx with rfl | rfl | e | e
 ·exact ⟨h.hlow,h.row.lt⟩
 ·exact ⟨h.blow,h.brow.lt⟩
 ·exact h.slt.lt x e
 ·exact h.bak.lt x e
theorem ShopM.ne (h:ShopM c S D w):c.bsb≠c.hb∧(∀x,(Value.slice D.sa S.slots.length D.sc).ownBlock=some x->x≠c.hb∧x≠c.bsb)∧(∀x,(Value.slice D.ba S.back.length D.bc).ownBlock=some x->x≠c.hb∧x≠c.bsb∧(Value.slice D.sa S.slots.length D.sc).ownBlock≠some x)∧∀x,(Value.slice D.ca D.cl.length D.cc).ownBlock=some x->¬D.own c S x:=by
 refine ⟨type_ne h.brow.type h.row.type (by decide),fun x e=> ⟨type_ne (Yz h.slt e) h.row.type (by decide),type_ne (Yz h.slt e) h.brow.type (by decide)⟩,fun x e=> ⟨type_ne (Yz h.bak e) h.row.type (by decide),type_ne (Yz h.bak e) h.brow.type (by decide),fun e2=> type_ne (Yz h.bak e) (Yz h.slt e2) (by decide) rfl⟩,fun x e hx=> ?_⟩
 rcases hx with e2 | e2 | e2 | e2
 ·exact type_ne (Yz h.cau e) h.row.type (by decide) e2
 ·exact type_ne (Yz h.cau e) h.brow.type (by decide) e2
 ·exact type_ne (Yz h.cau e) (Yz h.slt e2) (by decide) rfl
 ·exact type_ne (Yz h.cau e) (Yz h.bak e2) (by decide) rfl
theorem ShopM.stays {P:Nat->Prop} (h:ShopM c S D w) (k:But P w w') (hP: ∀x,P x->D.own c S x):K_ c.w0 w'∧RunsP w' D.lo D.hi D.d S.T∧StrsP w' D.lo D.hi D.ra c.Kk∧w'.ownsRow c.w0.heap.size 177 2 (.slice D.ca D.cl.length D.cc) D.cl.length (clCells D.cl):=
 ⟨k.kept h.kw (fun b hb=> (h.low (hP b hb)).1),h.run.but k (fun x hx=> h.sep x (hP x hx)),h.rts.but k (fun x hx=> h.sep x (hP x hx)),k.owns h.cau (fun x e hx=> h.ne.2.2.2 x e (hP x hx))⟩
theorem ShopM.kept (h:ShopM c S D w) (k:K_ w w'):ShopM c S D w':=by
 have kk:But (fun _=> False) w w':= .of_kept k
 obtain ⟨s1,s2,s3,s4⟩:=h.stays kk (fun _ e=> e.elim)
 exact ⟨s1,h.row.kept k,k.range h.row.lt h.cel,h.hlow,h.blow,h.len,h.brow.kept k,fun j hj=> k.range h.brow.lt (h.bsy j hj),kk.owns h.slt (fun _ _=> id),kk.owns h.bak (fun _ _=> id),s4,s2,s3,h.sep,Nat.le_trans h.top k.size,h.obw,Nat.lt_of_lt_of_le h.obl k.size,h.obs⟩
theorem ShopM.beside (h:ShopM c S D w) (hT:TypeAt w c.ob 33) (k:But (fun x=> x=c.ob) w w'):ShopM c S D w':=by
 have n1: ¬c.hb=c.ob:=fun e=> type_ne h.row.type hT (by decide) e
 have n2: ¬c.bsb=c.ob:=fun e=> type_ne h.brow.type hT (by decide) e
 have nI: ∀x,x=c.ob->¬(D.lo<=x∧x < D.hi):=fun x e=> by rw [e];exact h.obs
 exact ⟨k.kept h.kw (fun b e=> by rw [e];exact h.obw),k.row h.row n1,k.range h.row n1 h.cel,h.hlow,h.blow,h.len,k.row h.brow n2,fun j hj=> k.range h.brow n2 (h.bsy j hj),k.owns h.slt (fun x e e2=> type_ne (Yz h.slt e) hT (by decide) e2),k.owns h.bak (fun x e e2=> type_ne (Yz h.bak e) hT (by decide) e2),k.owns h.cau (fun x e e2=> type_ne (Yz h.cau e) hT (by decide) e2),h.run.but k nI,h.rts.but k nI,h.sep,Nat.le_trans h.top k.size,h.obw,Nat.lt_of_lt_of_le h.obl k.size,h.obs⟩
theorem range_set7 {w:World} {b:Nat} {t:TypeId} {xs:List Value} (hr:RowT w b t 7) (h:w.rangeAt b 0 xs) {o:Nat} (ho:o < 7) (v:Value): (w.setCell ⟨b,o,none⟩ v).rangeAt b 0 (xs.set o v):=fun i u hu=> by
 rw [Nat.zero_add]
 by_cases e:i=o
 ·subst e
  by_cases hl:i < xs.length
  ·rw [List.getElem?_set_self hl] at hu
   cases hu
   exact World.rangeAt_setCells_same w b i [v] (hr.row.there (o:=i) (m:=1) (by omega)) 0 _ rfl
  ·rw [List.getElem?_eq_none (by rw [List.length_set];omega)] at hu
   cases hu
 ·rw [List.getElem?_set_ne (fun x=> e x.symm)] at hu
  rw [World.cell?_setCell_other _ _ _ _ (by intro e2;injection e2 with _ e3 _;omega)]
  have:=h i u hu
  rwa [Nat.zero_add] at this
theorem ShopM.state (h:ShopM c S D w) {w1:World} (k:K_ w w1) {T:List Qz} {ra d:Option Addr} {rc dc:Nat} (hr:StrsP w1 w.heap.size w1.heap.size ra c.Kk) (hs:RunsP w1 w.heap.size w1.heap.size d T) {S':Shop} (e1:S'.T=T) (e2:S'.busy=S.busy) (e3:S'.slots=S.slots) (e4:S'.back=S.back):
  ShopM c S' { D with ra:=ra,rc:=rc,d:=d,dc:=dc,lo:=w.heap.size,hi:=w1.heap.size } ((w1.setCell ⟨c.hb,1,none⟩ (.slice ra c.Kk.length rc)).setCell ⟨c.hb,2,none⟩ (.slice d T.length dc)):=by
 have h1:=h.kept k
 have kb:But (fun x=> x=c.hb) w1 ((w1.setCell ⟨c.hb,1,none⟩ (.slice ra c.Kk.length rc)).setCell ⟨c.hb,2,none⟩ (.slice d T.length dc)):=But.set (S:=fun x=> x=c.hb) (But.set (S:=fun x=> x=c.hb) (.of_kept (K_.refl w1)) (p:= ⟨c.hb,1,none⟩) rfl _) (p:= ⟨c.hb,2,none⟩) rfl _
 obtain ⟨s1,_,_,s4⟩:=h1.stays kb (fun x e=> .inl e)
 have hbl:=h.row.lt
 have nI: ∀x,x=c.hb->¬(w.heap.size<=x∧x < w1.heap.size):=fun x e=> by omega
 obtain ⟨T0,b0,sl0,bk0,cs0⟩:=S'
 dsimp only at e1 e2 e3 e4
 subst e1 e2 e3 e4
 refine ⟨s1,(h1.row.set _).set _, ?_,h.hlow,h.blow,h.len,kb.row h1.brow h.ne.1,fun j hj=> kb.range h1.brow h.ne.1 (h1.bsy j hj),kb.owns h1.slt (fun x e e2=> (h.ne.2.1 x e).1 e2),kb.owns h1.bak (fun x e e2=> (h.ne.2.2.1 x e).1 e2),s4,hs.but kb nI,hr.but kb nI,fun x hx e=> ?_, ?_,h.obw,Nat.lt_of_lt_of_le h1.obl kb.size,fun e=> ?_⟩
 ·exact range_set7 (h1.row.set _) (range_set7 h1.row h1.cel (o:=1) (by omega) _) (o:=2) (by omega) _
 ·have:= (h.low (x:=x) hx).2
  dsimp only at e
  omega
 ·show w1.heap.size<=_
  rw [size_setCell,size_setCell]
  exact Nat.le_refl _
 ·have:=h.obl
  dsimp only at e
  omega
theorem ShopM.causes (h:ShopM c S D w) {w1:World} (k:K_ w w1) {ca:Option Addr} {cc:Nat} {cl:List (ByteArray×Int)} (ho:w1.ownsRow c.w0.heap.size 177 2 (.slice ca cl.length cc) cl.length (clCells cl)):ShopM c S { D with ca:=ca,cc:=cc,cl:=cl } (w1.setCell ⟨c.hb,6,none⟩ (.slice ca cl.length cc)):=by
 have h1:=h.kept k
 have kb:But (fun x=> x=c.hb) w1 (w1.setCell ⟨c.hb,6,none⟩ (.slice ca cl.length cc)):=But.set (S:=fun x=> x=c.hb) (.of_kept (K_.refl w1)) (p:= ⟨c.hb,6,none⟩) rfl _
 obtain ⟨s1,s2,s3,_⟩:=h1.stays kb (fun x e=> .inl e)
 exact ⟨s1,h1.row.set _,range_set7 h1.row h1.cel (o:=6) (by omega) _,h.hlow,h.blow,h.len,kb.row h1.brow h.ne.1,fun j hj=> kb.range h1.brow h.ne.1 (h1.bsy j hj),kb.owns h1.slt (fun x e e2=> (h.ne.2.1 x e).1 e2),kb.owns h1.bak (fun x e e2=> (h.ne.2.2.1 x e).1 e2),kb.owns ho (fun x e e2=> type_ne (Yz ho e) h1.row.type (by decide) e2),s2,s3,h1.sep,by show D.hi<=_;rw [size_setCell];exact h1.top,h.obw,Nat.lt_of_lt_of_le h1.obl kb.size,h.obs⟩
theorem ShopM.worker (h:ShopM c S D w) {k:Nat} (hk:k < c.wk) (x:Option EffD):ShopM c { S with busy:=S.busy.set k x } D (w.setCells c.bsb (k * 3) (bzCells x)):=by
 have kb:But (fun y=> y=c.bsb) w (w.setCells c.bsb (k * 3) (bzCells x)):=But.setCells (S:=fun y=> y=c.bsb) rfl _ _ (.of_kept (K_.refl w))
 obtain ⟨s1,s2,s3,s4⟩:=h.stays kb (fun y e=> .inr (.inl e))
 have nh: ¬c.hb=c.bsb:=fun e=> h.ne.1 e.symm
 refine ⟨s1,kb.row h.row nh,kb.range h.row nh h.cel,h.hlow,h.blow,by show (S.busy.set k x).length=_;rw [List.length_set];exact h.len,RowT.sets _ _ h.brow,fun j hj=> ?_,kb.owns h.slt (fun y e e2=> (h.ne.2.1 y e).2 e2),kb.owns h.bak (fun y e e2=> (h.ne.2.2.1 y e).2.1 e2),s4,s2,s3,h.sep,Nat.le_trans h.top kb.size,h.obw,Nat.lt_of_lt_of_le h.obl kb.size,h.obs⟩
 show (w.setCells c.bsb (k * 3) (bzCells x)).rangeAt c.bsb (j * 3) (bzCells ((S.busy.set k x).getD j none))
 by_cases e:j=k
 ·subst e
  have e1: (S.busy.set j x).getD j none=x:=by simp [List.getD,h.len,hk]
  rw [e1]
  exact World.rangeAt_setCells_same w c.bsb (j * 3) (bzCells x) (by rw [bz_len];exact h.brow.row.there (o:=j * 3) (m:=3) (by omega))
 ·have e1: (S.busy.set k x).getD j none=S.busy.getD j none:=by simp only [List.getD];rw [List.getElem?_set_ne (fun y=> e y.symm)]
  rw [e1]
  exact World.rangeAt_setCells_apart (h.bsy j hj) c.bsb (k * 3) (bzCells x) (by rw [bz_len,bz_len];omega)
theorem ShopM.slotMore (h:ShopM c S D w) {wB w1:World} (kB:K_ w wB) {g cp:Nat} {s:SlotD} (ho:w1.ownsRow c.w0.heap.size 109 3 (.slice (some ⟨g,0,none⟩) (S.slots.length+1) cp) (S.slots.length+1) (slCells S.slots++s.cells)) (hg:wB.grownBy w1 (Value.slice D.sa S.slots.length D.sc).ownBlock) (hv: (Value.slice D.sa S.slots.length D.sc).ownBlock=some g∨g=wB.heap.size):
  ShopM c { S with slots:=S.slots++ [s] } { D with sa:=some ⟨g,0,none⟩,sc:=cp } (w1.setCell ⟨c.hb,4,none⟩ (.slice (some ⟨g,0,none⟩) (S.slots.length+1) cp))∧w1.frozen? ⟨c.hb,4,none⟩=false:=by
 have hB:=h.kept kB
 have k1:But (fun x=> (Value.slice D.sa S.slots.length D.sc).ownBlock=some x) wB w1:= .of_grown hg (fun _ e=> e)
 have kb:But (fun x=> x=c.hb∨(Value.slice D.sa S.slots.length D.sc).ownBlock=some x) wB (w1.setCell ⟨c.hb,4,none⟩ (.slice (some ⟨g,0,none⟩) (S.slots.length+1) cp)):= (k1.mono (fun _ _ e=> .inr e)).set (p:= ⟨c.hb,4,none⟩) (.inl rfl) _
 have kc:But (fun x=> x=c.hb) w1 (w1.setCell ⟨c.hb,4,none⟩ (.slice (some ⟨g,0,none⟩) (S.slots.length+1) cp)):=But.set (S:=fun x=> x=c.hb) (.of_kept (K_.refl w1)) (p:= ⟨c.hb,4,none⟩) rfl _
 obtain ⟨s1,s2,s3,s4⟩:=hB.stays kb (fun x e=> by rcases e with e | e;exact .inl e;exact .inr (.inr (.inl e)))
 have nh: ¬(Value.slice D.sa S.slots.length D.sc).ownBlock=some c.hb:=fun e=> (h.ne.2.1 _ e).1 rfl
 have hrow1:=k1.row hB.row nh
 have nb: ¬(c.bsb=c.hb∨(Value.slice D.sa S.slots.length D.sc).ownBlock=some c.bsb):=by
  rintro (e | e)
  ·exact h.ne.1 e
  ·exact (h.ne.2.1 _ e).2 rfl
 have hl: (S.slots++ [s]).length=S.slots.length+1:=by simp
 have hfz:= (hrow1.row.at (i:=4) (by omega)).2
 refine ⟨⟨s1,hrow1.set _, ?_,h.hlow,h.blow,h.len,kb.row hB.brow nb,fun j hj=> kb.range hB.brow nb (hB.bsy j hj), ?_,kb.owns hB.bak (fun x e e2=> ?_),s4,s2,s3,fun x hx=> ?_,Nat.le_trans hB.top kb.size,h.obw,Nat.lt_of_lt_of_le hB.obl kb.size,h.obs⟩,hfz⟩
 ·show (w1.setCell _ _).rangeAt c.hb 0 [_,_,_,_,.slice (some ⟨g,0,none⟩) (S.slots++ [s]).length cp,_,_]
  rw [hl]
  exact range_set7 hrow1 (k1.range hB.row nh hB.cel) (o:=4) (by omega) _
 ·show (w1.setCell _ _).ownsRow _ _ 3 (.slice (some ⟨g,0,none⟩) (S.slots++ [s]).length cp) (S.slots++ [s]).length (slCells (S.slots++ [s]))
  rw [hl,slCells_snoc]
  exact kc.owns ho (fun x e e2=> by rw [e2] at e;exact type_ne (Yz ho e) hrow1.type (by decide) rfl)
 ·rcases e2 with e2 | e2
  ·exact (h.ne.2.2.1 x e).1 e2
  ·exact (h.ne.2.2.1 x e).2.2 e2
 ·rcases hx with e | e | e | e
  ·exact h.sep x (.inl e)
  ·exact h.sep x (.inr (.inl e))
  ·have e1:g=x:=by injection e
   rcases hv with e2 | e2
   ·exact h.sep x (.inr (.inr (.inl (by rw [e2,e1]))))
   ·have h1:=h.top
    have h2:=kB.size
    intro h3
    dsimp only at h3
    omega
  ·exact h.sep x (.inr (.inr (.inr e)))
theorem ShopM.backMore (h:ShopM c S D w) {wB w1:World} (kB:K_ w wB) {g cp:Nat} {s:Int} (ho:w1.ownsRow c.w0.heap.size 3 1 (.slice (some ⟨g,0,none⟩) (S.back.length+1) cp) (S.back.length+1) (S.back.map (Value.int .i64)++ [.int .i64 s])) (hg:wB.grownBy w1 (Value.slice D.ba S.back.length D.bc).ownBlock) (hv: (Value.slice D.ba S.back.length D.bc).ownBlock=some g∨g=wB.heap.size):
  ShopM c { S with back:=S.back++ [s] } { D with ba:=some ⟨g,0,none⟩,bc:=cp } (w1.setCell ⟨c.hb,5,none⟩ (.slice (some ⟨g,0,none⟩) (S.back.length+1) cp))∧w1.frozen? ⟨c.hb,5,none⟩=false:=by
 have hB:=h.kept kB
 have k1:But (fun x=> (Value.slice D.ba S.back.length D.bc).ownBlock=some x) wB w1:= .of_grown hg (fun _ e=> e)
 have kb:But (fun x=> x=c.hb∨(Value.slice D.ba S.back.length D.bc).ownBlock=some x) wB (w1.setCell ⟨c.hb,5,none⟩ (.slice (some ⟨g,0,none⟩) (S.back.length+1) cp)):= (k1.mono (fun _ _ e=> .inr e)).set (p:= ⟨c.hb,5,none⟩) (.inl rfl) _
 have kc:But (fun x=> x=c.hb) w1 (w1.setCell ⟨c.hb,5,none⟩ (.slice (some ⟨g,0,none⟩) (S.back.length+1) cp)):=But.set (S:=fun x=> x=c.hb) (.of_kept (K_.refl w1)) (p:= ⟨c.hb,5,none⟩) rfl _
 obtain ⟨s1,s2,s3,s4⟩:=hB.stays kb (fun x e=> by rcases e with e | e;exact .inl e;exact .inr (.inr (.inr e)))
 have nh: ¬(Value.slice D.ba S.back.length D.bc).ownBlock=some c.hb:=fun e=> (h.ne.2.2.1 _ e).1 rfl
 have hrow1:=k1.row hB.row nh
 have nb: ¬(c.bsb=c.hb∨(Value.slice D.ba S.back.length D.bc).ownBlock=some c.bsb):=by
  rintro (e | e)
  ·exact h.ne.1 e
  ·exact (h.ne.2.2.1 _ e).2.1 rfl
 have hl: (S.back++ [s]).length=S.back.length+1:=by simp
 have hfz:= (hrow1.row.at (i:=5) (by omega)).2
 refine ⟨⟨s1,hrow1.set _, ?_,h.hlow,h.blow,h.len,kb.row hB.brow nb,fun j hj=> kb.range hB.brow nb (hB.bsy j hj),kb.owns hB.slt (fun x e e2=> ?_), ?_,s4,s2,s3,fun x hx=> ?_,Nat.le_trans hB.top kb.size,h.obw,Nat.lt_of_lt_of_le hB.obl kb.size,h.obs⟩,hfz⟩
 ·show (w1.setCell _ _).rangeAt c.hb 0 [_,_,_,_,_,.slice (some ⟨g,0,none⟩) (S.back++ [s]).length cp,_]
  rw [hl]
  exact range_set7 hrow1 (k1.range hB.row nh hB.cel) (o:=5) (by omega) _
 ·rcases e2 with e2 | e2
  ·exact (h.ne.2.1 x e).1 e2
  ·exact (h.ne.2.2.1 x e2).2.2 e
 ·show (w1.setCell _ _).ownsRow _ _ 1 (.slice (some ⟨g,0,none⟩) (S.back++ [s]).length cp) (S.back++ [s]).length ((S.back++ [s]).map (Value.int .i64))
  rw [hl,List.map_append]
  exact kc.owns ho (fun x e e2=> by rw [e2] at e;exact type_ne (Yz ho e) hrow1.type (by decide) rfl)
 ·rcases hx with e | e | e | e
  ·exact h.sep x (.inl e)
  ·exact h.sep x (.inr (.inl e))
  ·exact h.sep x (.inr (.inr (.inl e)))
  ·have e1:g=x:=by injection e
   rcases hv with e2 | e2
   ·exact h.sep x (.inr (.inr (.inr (by rw [e2,e1]))))
   ·have h1:=h.top
    have h2:=kB.size
    intro h3
    dsimp only at h3
    omega
end
theorem ReadyL.asc {W:Acts} {σ:Env} {l:List Qz} {ns:List ByteArray} (h:ReadyL W σ l ns) (ha:AscX l):ns.Pairwise lessX:=by
 induction h with
 | nil=> exact .nil
 | yes h hr ih=>
  rename_i l ns r
  have ha':=List.pairwise_append.1 ha
  refine List.pairwise_append.2 ⟨ih ha'.1,List.pairwise_singleton _ _,fun a h1 b h2=> ?_⟩
  rw [List.mem_singleton] at h2
  subst h2
  obtain ⟨x,g1,rfl,_⟩:= (h.mem a).1 h1
  exact ha'.2.2 x g1 r (by simp)
 | no h hr ih=> exact ih (List.pairwise_append.1 ha).1
def busyN :List (Option EffD)->Nat
 | []=> 0
 | none :: l=> busyN l
 | some _ :: l=> busyN l+1
theorem busyN_free : ∀{b:List (Option EffD)} {k:Nat} {e:EffD},b[k]? =some (some e)->busyN (b.set k none)+1=busyN b
 | x :: b,0,e,h=> by
  simp only [List.getElem?_cons_zero,Option.some.injEq] at h
  subst h
  rfl
 | x :: b,k+1,e,h=> by
  have:=busyN_free (b:=b) (k:=k) (e:=e) (by simpa using h)
  cases x <;> simp only [List.set_cons_succ,busyN] <;> omega
theorem busyN_take : ∀{b:List (Option EffD)} {k:Nat} (e:EffD),b[k]? =some none->busyN (b.set k (some e))=busyN b+1
 | x :: b,0,e,h=> by
  simp only [List.getElem?_cons_zero,Option.some.injEq] at h
  subst h
  rfl
 | x :: b,k+1,e,h=> by
  have:=busyN_take (b:=b) (k:=k) e (by simpa using h)
  cases x <;> simp only [List.set_cons_succ,busyN] <;> omega
theorem busyN_le : ∀(b:List (Option EffD)),busyN b<=b.length
 | []=> Nat.le_refl _
 | none :: b=> by have:=busyN_le b;simp only [busyN,List.length_cons];omega
 | some _ :: b=> by have:=busyN_le b;simp only [busyN,List.length_cons];omega
structure Bnd8 (Kj:List Qq) (S:Shop):Prop where
 sl:S.slots.length+potL Kj S.T<=2000+busyN S.busy
 fin: ∀(k:Nat) (e:EffD),S.busy[k]? =some (some e)->0<=e.fin∧e.fin<=20 * (S.slots.length:Int)
section
variable {Kj : List Qq} {wk : Nat} {S A : Shop}
theorem pot_done (hg:GoodL Kj S.T) {n:ByteArray} {j:Int} (hn:Rdy (Q_ Kj) S n):potL Kj (doneS (Q_ Kj) S n j).T < potL Kj S.T:=by
 obtain ⟨r,hr,hc⟩:=hn
 show potL Kj (doN (Q_ Kj) S.T n) < _
 unfold doN
 rw [hr]
 exact potL_do hg hr hc
theorem Fin8.bnd (hok:ActsOk (Q_ Kj)) {t:Int} (h:Fin8 (Q_ Kj) t S A):Live8 Kj wk S->Bnd8 Kj S->Bnd8 Kj A∧A.slots=S.slots:=by
 induction h with
 | stop=> exact fun _ hb=> ⟨hb,rfl⟩
 | @go S S' k e hk he _ _ ih=>
  intro hl hb
  obtain ⟨h1,h2,h3⟩:=hl.free hk
  obtain ⟨h4,h5⟩:=h1.done hok h2 h3 (j:=e.slot) ⟨by omega,by have:=hl.sane.slot k e hk;show ((e.slot:Nat):Int) < ((S.slots.length:Nat):Int);omega⟩
  have hp:=pot_done h1.good (j:= (e.slot:Int)) h2
  have hf:=busyN_free hk
  have hs:=hb.sl
  refine ih h4 ⟨?_,fun k' e' hk'=> ?_⟩
  ·show S.slots.length+potL Kj (doneS (Q_ Kj) { S with busy:=S.busy.set k none } e.name e.slot).T<=2000+busyN (S.busy.set k none)
   have hp':potL Kj (doneS (Q_ Kj) { S with busy:=S.busy.set k none } e.name e.slot).T < potL Kj S.T:=hp
   omega
  ·rcases set_get hk' with ⟨_,x⟩ | ⟨_,x⟩
   ·cases x
   ·exact hb.fin k' e' x
theorem Spt8.bnd (hok:ActsOk (Q_ Kj)) (h:Spt8 (Q_ Kj) S A):Live8 Kj wk S->Bnd8 Kj S->Bnd8 Kj A∧A.slots=S.slots:=by
 induction h with
 | stop=> exact fun _ hb=> ⟨hb,rfl⟩
 | @go S S' n hn _ ih=>
  intro hl hb
  obtain ⟨h4,h5⟩:=hl.done hok hn.1.ready (fun hb=> hl.nsp n hb hn.1) (hl.sane.caus n)
  have hp:=pot_done hl.good (j:=S.cause n) hn.1.ready
  have hs:=hb.sl
  refine ih h4 ⟨?_,hb.fin⟩
  show S.slots.length+potL Kj (doneS (Q_ Kj) S n (S.cause n)).T<=2000+busyN S.busy
  omega
theorem Beg8.bnd {t:Int} (h:Beg8 (Q_ Kj) t S A): (∀n,ReadyX (Q_ Kj) (Qj S.T) n->0<=costW (Q_ Kj) n∧costW (Q_ Kj) n<=20)->(0<=t∧t<=20 * (S.slots.length:Int))->Bnd8 Kj S->Bnd8 Kj A∧S.slots.length<=A.slots.length:=by
 induction h with
 | stop=> exact fun _ _ hb=> ⟨hb,Nat.le_refl _⟩
 | @go S S' k n hk hl hn _ ih=>
  intro hc ht hb
  have hcn:=hc n hn.1.1
  have hl1: (S.slots++ [(⟨t,k,n⟩:SlotD)]).length=S.slots.length+1:=by simp
  obtain ⟨i1,i2⟩:=ih hc ⟨ht.1,by show t<=20 * (((S.slots++ [(⟨t,k,n⟩:SlotD)]).length:Nat):Int);rw [hl1];omega⟩ ⟨by
   show (S.slots++ [(⟨t,k,n⟩:SlotD)]).length+potL Kj S.T<=2000+busyN (S.busy.set k (some _))
   rw [hl1,busyN_take _ hk]
   have:=hb.sl
   omega,fun k' e' hk'=> by
   show 0<=e'.fin∧e'.fin<=20 * (((S.slots++ [(⟨t,k,n⟩:SlotD)]).length:Nat):Int)
   rw [hl1]
   rcases set_get hk' with ⟨_,x⟩ | ⟨_,x⟩
   ·simp only [Option.some.injEq] at x
    subst x
    simp only
    omega
   ·have:=hb.fin k' e' x
    omega⟩
  refine ⟨i1,Nat.le_trans ?_ i2⟩
  show S.slots.length<=(S.slots++ [(⟨t,k,n⟩:SlotD)]).length
  rw [hl1]
  exact Nat.le_succ _
end
open Classical in
def CausAt (was ns:List ByteArray) (n:ByteArray) (j:Int) (cl:List (ByteArray×Int)) (i:Nat) (cl':List (ByteArray×Int)):Prop:=
 cl'.length<=cl.length+i∧∀m,lookC cl' m=if m∈ns.take i∧(m=n∨m∉was) then j else lookC cl m
section
variable {was ns : List ByteArray} {n : ByteArray} {j : Int} {cl cl' : List (ByteArray × Int)} {i : Nat}
theorem CausAt.start :CausAt was ns n j cl 0 cl:= ⟨Nat.le_refl _,fun m=> by rw [if_neg (by simp)]⟩
theorem CausAt.yes (h:CausAt was ns n j cl i cl') (hi:i < ns.length) (hy:ns[i]=n∨ns[i]∉was):CausAt was ns n j cl (i+1) ((ns[i],j) :: cl'):=by
 refine ⟨by have:=h.1;simp only [List.length_cons];omega,fun m=> ?_⟩
 rw [List.take_succ_eq_append_getElem hi]
 show (if ns[i]=m then j else lookC cl' m)=_
 by_cases e:ns[i]=m
 ·rw [if_pos e,if_pos ⟨by rw [e];simp,by rw [<-e];exact hy⟩]
 ·rw [if_neg e,h.2 m]
  by_cases g:m∈ns.take i∧(m=n∨m∉was)
  ·rw [if_pos g,if_pos ⟨List.mem_append.2 (.inl g.1),g.2⟩]
  ·rw [if_neg g,if_neg (fun x=> g ⟨(List.mem_append.1 x.1).resolve_right (fun y=> e (List.mem_singleton.1 y).symm),x.2⟩)]
theorem CausAt.no (h:CausAt was ns n j cl i cl') (hi:i < ns.length) (hy: ¬(ns[i]=n∨ns[i]∉was)):CausAt was ns n j cl (i+1) cl':=by
 refine ⟨by have:=h.1;omega,fun m=> ?_⟩
 rw [List.take_succ_eq_append_getElem hi,h.2 m]
 by_cases g:m∈ns.take i∧(m=n∨m∉was)
 ·rw [if_pos g,if_pos ⟨List.mem_append.2 (.inl g.1),g.2⟩]
 ·rw [if_neg g,if_neg (fun x=> ?_)]
  rcases List.mem_append.1 x.1 with y | y
  ·exact g ⟨y,x.2⟩
  ·rw [List.mem_singleton] at y
   exact hy (y ▸ x.2)
end
structure ShopK (c:ShopC):Prop where
 ok:ActsOk (Q_ c.Kj)
 fits: ∀y∈c.Kj,y.Fits
 len:c.Kj.length<=60
 sml:SmallAsks c.Kj
 rts:1<=c.Kk.length∧c.Kk.length<=10
 nodes:Nodes c.w0 c.a c.Kj
 wk:1<=c.wk∧c.wk<=60
structure ShopI (c:ShopC) (S:Shop) (D:ShopD) (w:World):Prop where
 mem:ShopM c S D w
 live:Live8 c.Kj c.wk S
 cau: ∀n,Rdy (Q_ c.Kj) S n->lookC D.cl n=S.cause n
 bud:D.cl.length+60 * potL c.Kj S.T<=90000
def ShopA (c:ShopC) (S:Shop) (w:World):Prop:= ∃D,ShopI c S D w
section
variable {c : ShopC} {S : Shop} {D : ShopD} {w w' : World}
theorem ShopI.kept (h:ShopI c S D w) (k:K_ w w'):ShopI c S D w':= ⟨h.mem.kept k,h.live,h.cau,h.bud⟩
theorem ShopI.len (h:ShopI c S D w) (hk:ShopK c):S.T.length<=60:=Nat.le_trans h.live.good.len hk.len
theorem ShopI.cost (h:ShopI c S D w) (hk:ShopK c) {n:ByteArray} {r:Qz} (hn:Qj S.T n=some r):0 < costW (Q_ c.Kj) n∧costW (Q_ c.Kj) n<=20∧0 < n.size∧n.size<=maxLen:=by
 obtain ⟨A,hA⟩:=Option.isSome_iff_exists.1 (h.live.sane.ok.known n r hn)
 have h1:= (hk.ok n A hA).1.1
 have h2:= (hk.ok n A hA).2
 have h3:=h2.1
 have h4:=h2.2.1
 unfold costW maxLen
 rw [hA]
 simp only
 omega
end
theorem ShopM.causAt {c:ShopC} {S:Shop} {D:ShopD} {w:World} (h:ShopM c S D w) {i:Nat} (hi:i < D.cl.length): ∃g,D.ca=some ⟨g,0,none⟩∧g < w.heap.size∧w.cell? ⟨g,i * 2,none⟩=some (.string D.cl[i].1)∧w.cell? ⟨g,i * 2+1,none⟩=some (.int .i64 D.cl[i].2):=by
 rcases h.cau.2 with ⟨_,h0⟩ | ⟨g,cap,cur,e,_,hg,_⟩
 ·rw [h0] at hi;exact absurd hi (Nat.not_lt_zero _)
 ·injection e with e1 e2 e3
  obtain ⟨g0,g1⟩:=clCells_get D.cl i hi
  have a0:=h.cau.cells (g:=g) (by rw [e1];rfl) (i * 2) _ g0
  have a1:=h.cau.cells (g:=g) (by rw [e1];rfl) (i * 2+1) _ g1
  rw [Addr.add_mid,Nat.zero_add] at a0 a1
  exact ⟨g,e1,heap_lt hg,a0,a1⟩
theorem because_any {c:ShopC} {S:Shop} {D:ShopD} {w:World} (h:ShopM c S D w) (n:ByteArray) (hl:D.cl.length<=1000000):
  Calls Tryz.prog 53 #[.pointer (some ⟨c.hb,0,none⟩),.string n] w fun e w'=> e= .returned (.int .i64 (lookC D.cl n))∧w'=w:=by
 obtain ⟨hb,hhb⟩: ∃hb,hb=c.hb:= ⟨_,rfl⟩
 have c6:=h.at.2.2.2.2.2.2
 have hz:=h.row.lt
 have HX:Hid (∀i,(hi:i < D.cl.length)->∃g,D.ca=some ⟨g,0,none⟩∧g < w.heap.size∧w.cell? ⟨g,i * 2,none⟩=some (.string D.cl[i].1)∧w.cell? ⟨g,i * 2+1,none⟩=some (.int .i64 D.cl[i].2)):=fun i hi=> h.causAt hi
 rw [<-hhb] at c6 hz⊢
 obtain ⟨cl,hcl⟩: ∃cl,cl=D.cl:= ⟨_,rfl⟩
 obtain ⟨ca,hca⟩: ∃ca,ca=D.ca:= ⟨_,rfl⟩
 obtain ⟨cc,hcc⟩: ∃cc,cc=D.cc:= ⟨_,rfl⟩
 rw [<-hcl,<-hca] at HX
 rw [<-hcl,<-hca,<-hcc] at c6
 rw [<-hcl] at hl⊢
 clear h hhb hcl hca hcc
 go_enter Tryz.func53,Tryz.ntmps53
 go_wp2_with fail
 go_loopw [5] (fun i wr=> ∃k:Nat,k<=cl.length∧i= .int .i64 (k:Int)∧Hid (lookC cl n=lookC (cl.drop k) n)∧wr=w) (fun i _=> cl.length - (intOf i).toNat)
 case atStart=> exact ⟨0,Nat.zero_le _,rfl,Kz (by simp),rfl⟩
 case round=>
  obtain ⟨k,hk,rfl,HN,rfl⟩:=hrel
  by_cases hlt:k < cl.length
  ·obtain ⟨g,e1,hg,x0,x1⟩:=HX.out k hlt
   subst e1
   obtain ⟨y,hy⟩: ∃y,y=cl[k].1:= ⟨_,rfl⟩
   obtain ⟨z,hz'⟩: ∃z,z=cl[k].2:= ⟨_,rfl⟩
   rw [<-hy] at x0
   rw [<-hz'] at x1
   have hki: (k:Int) < (cl.length:Int):=by omega
   have HD:Hid (lookC (cl.drop k) n=if y=n then z else lookC (cl.drop (k+1)) n):=by
    show _=_
    rw [List.drop_eq_getElem_cons hlt,hy,hz']
    rfl
   clear hy hz'
   cases heq: (y.toList == n.toList)
   ·go_wp2_with fail
    go_roundw
    case rel=>
     refine ⟨k+1,by omega,by go_num,Kz ?_,trivial⟩
     rw [HN.out,HD.out,if_neg (fun e=> by rw [e] at heq;simp at heq)]
    case measure=> simp [intOf];omega
   ·go_wp2_with fail
    go_ret
    exact ⟨by rw [HN.out,HD.out,if_pos (has_beq heq)];rfl,rfl⟩
  ·have hnk: ¬((k:Int) < (cl.length:Int)):=by omega
   have HAll:Hid (lookC cl n= -1):=by
    have h:=HN.out
    rw [List.drop_of_length_le (by omega)] at h
    exact h
   clear hlt
   go_wp2_with fail
   go_ret
   exact ⟨by rw [HAll.out];rfl,rfl⟩
section
variable {c : ShopC} {S : Shop} {D : ShopD} {w : World}
theorem ShopM.ready (h:ShopM c S D w) (hg:GoodL c.Kj S.T) (hk:ShopK c):Calls Tryz.prog 51 #[.agg #[.slice c.a c.Kj.length c.cap],.agg #[.slice D.ra c.Kk.length D.rc,.slice D.d S.T.length D.dc]] w fun e w'=> ReadySaid w.heap.size c.Kj S.T w' e∧K_ w w':=
 ready_any w c.a c.cap c.Kj D.ra c.Kk.length D.rc D.d D.dc S.T (by have:=hk.len;omega) (by have:=hg.len;have:=hk.len;omega) hk.sml (fun r hr _ _=> (hg.good r hr).act) (hk.nodes.kept h.kw) h.run.runs
theorem ShopM.doOne (h:ShopM c S D w) (hg:GoodL c.Kj S.T) (hk:ShopK c) {n:ByteArray} {r:Qz} (hr:Qj S.T n=some r) (hc:CanGo (Q_ c.Kj) (Qj S.T) r):Calls Tryz.prog 99 #[.agg #[.slice c.a c.Kj.length c.cap],.agg #[.slice D.ra c.Kk.length D.rc,.slice D.d S.T.length D.dc],.string n] w fun e w'=> StateX c.Kk (doL (Q_ c.Kj) S.T r) w w' e:=by
 obtain ⟨rb,ro,e,_⟩:=h.rts 0 (by have:=hk.rts;omega)
 have hR:=h.rts.strs
 have hl:=hg.len
 have hl2:=hk.len
 rw [e] at hR⊢
 exact doX_any w c.a c.cap c.Kj rb ro D.rc c.Kk D.d D.dc S.T n r (by omega) (by omega) hk.sml hk.ok hk.fits hk.rts.2 hg hr hc (hk.nodes.kept h.kw) h.run.runs hR
end
theorem clCells_one : ∀(l:List (ByteArray×Int)) (u:Value),u∈clCells l->u.oneCell'=true
 | [],u,h=> by cases h
 | c :: r,u,h=> by
  simp only [clCells,List.mem_cons] at h
  rcases h with rfl | rfl | h
  ·rfl
  ·rfl
  ·exact clCells_one r u h
theorem Tryz.infoCause : (Tryz.prog.info? 177).map (fun i=> (i.zero,i.size,i.bytes))=some (some (.agg #[.string ByteArray.empty,.int .i64 0]),2,24):=by kernel_rfl
theorem shopDone_any {c:ShopC} {S:Shop} {D:ShopD} {w:World} {n:ByteArray} {j:Int} (h:ShopI c S D w) (hk:ShopK c) (hn:Rdy (Q_ c.Kj) S n) (hnb: ¬Bz S n) (hj: -1<=j∧j < S.slots.length):
  Calls Tryz.prog 50 #[.pointer (some ⟨c.hb,0,none⟩),.string n,.int .i64 j] w fun e w'=> e= .returned (.tuple #[])∧ShopA c (doneS (Q_ c.Kj) S n j) w'∧But (fun x=> x=c.hb) w w':=by
 obtain ⟨ic,hc0,hc1,hc2,hc3⟩:=xInfo_parts Tryz.infoCause
 have hlive:= (h.live.done hk.ok hn hnb hj).1
 have hpot:=pot_done h.live.good (j:=j) hn
 obtain ⟨S',hS'⟩: ∃S',S'=doneS (Q_ c.Kj) S n j:= ⟨_,rfl⟩
 rw [<-hS'] at hlive hpot⊢
 have hT': ∃r,Qj S.T n=some r∧CanGo (Q_ c.Kj) (Qj S.T) r∧S'.T=doL (Q_ c.Kj) S.T r:=by
  obtain ⟨r,hr,hc⟩:=hn
  refine ⟨r,hr,hc, ?_⟩
  rw [hS']
  show doN (Q_ c.Kj) S.T n=_
  unfold doN
  rw [hr]
 obtain ⟨r,hr,hcan,hTr⟩:=hT'
 have HFr:Hid (S'.busy=S.busy∧S'.slots=S.slots∧S'.back=S.back):=by rw [hS'];exact ⟨rfl,rfl,rfl⟩
 have HRdy:=Kz (fun u (k:K_ w u)=> (h.mem.kept k).ready h.live.good hk)
 have HDo:=Kz (fun u (k:K_ w u)=> (h.mem.kept k).doOne h.live.good hk hr hcan)
 obtain ⟨hb,hhb⟩: ∃hb,hb=c.hb:= ⟨_,rfl⟩
 have Zz:Hid (∀u,K_ w u->u.cell? ⟨hb,0,none⟩=some (.slice c.a c.Kj.length c.cap)∧u.cell? ⟨hb,1,none⟩=some (.slice D.ra c.Kk.length D.rc)∧u.cell? ⟨hb,2,none⟩=some (.slice D.d S.T.length D.dc)):=fun u k=> by
  have hm:= (h.mem.kept k).at
  rw [hhb]
  exact ⟨hm.1,hm.2.1,hm.2.2.1⟩
 have HRow:Hid (RowT w hb 59 7):=by rw [hhb];exact h.mem.row
 have hbl:hb < w.heap.size:=HRow.out.lt
 have HI:=Kz h
 have HK:=Kz hk
 have HLv:=Kz hlive
 have HPt:=Kz hpot
 have HTr:=Kz hTr
 have HHB:=Kz hhb
 have HSd:=Kz hS'
 rw [<-hhb]
 clear h hk hlive hpot hTr hhb hS' hn hnb hj hr hcan
 go_enter Tryz.func50,Tryz.ntmps50
 go_wp2_with fail
 refine Qx.region (by kernel_rfl) (fun u=> u.cell? ⟨hb,0,none⟩=some (.slice c.a c.Kj.length c.cap)∧u.cell? ⟨hb,1,none⟩=some (.slice D.ra c.Kk.length D.rc)∧u.cell? ⟨hb,2,none⟩=some (.slice D.d S.T.length D.dc)) 9 (Zz.out _ (K_.refl w).drew) (fun Z_=> ?_)
 have KD:K_ w w.drew:= (K_.refl w).drew
 generalize hwd:w.drew=wd at Z_ KD⊢
 clear hwd
 refine Qx.tk 0 Z_ ?_
 refine Qx.tk 1 Z_ ?_
 refine Qx.tk 2 Z_ ?_
 refine Qx.tk 3 Z_ ?_
 refine Qx.tk 4 Z_ ?_
 refine Qx.tk 5 Z_ ?_
 refine Qx.tk 6 Z_ ?_
 refine Qx.tk 7 Z_ ?_
 refine Qx.nx 8 (fun K hK=> ?_)
 rw [if_pos (by rfl)]
 go_simp
 go_at_call 51
 refine (HRdy.out _ KD).mono ?_
 rintro e w1 ⟨⟨wasa,wasc,was,rfl,hwas,waso⟩,k10⟩
 have k1:=KD.trans k10
 have Hwas:=Kz hwas
 have Hwaso:=Kz (owns_base (base':=w.heap.size) waso KD.size)
 clear k10 hwas waso KD
 dsimp only
 refine hK.out _ _ (fun _=> Zz.out _ k1) ?_
 clear hK K Z_
 try simp only [Act.put,upA,upB,upC]
 refine Qx.nx 9 (fun K hK=> ?_)
 rw [if_pos (by rfl)]
 go_simp
 refine hK.out _ _ (fun h=> absurd rfl h) ?_
 clear hK K
 try simp only [Act.put,upA,upB,upC]
 refine Qx.dn ?_
 go_wp2_with fail
 refine Qx.rk 13 Zz.out (k1.trans (K_.refl w1).drew) (fun Z_=> ?_)
 have KE:K_ w w1.drew:=k1.trans (K_.refl w1).drew
 have HKd:=Kz ((K_.refl w1).drew)
 generalize hwe:w1.drew=we at Z_ KE HKd⊢
 clear hwe
 refine Qx.tk 0 Z_ ?_
 refine Qx.tk 1 Z_ ?_
 refine Qx.tk 2 Z_ ?_
 refine Qx.tk 3 Z_ ?_
 refine Qx.tk 4 Z_ ?_
 refine Qx.tk 5 Z_ ?_
 refine Qx.tk 6 Z_ ?_
 refine Qx.tk 7 Z_ ?_
 refine Qx.tk 8 Z_ ?_
 refine Qx.tk 9 Z_ ?_
 refine Qx.nx 10 (fun K hK=> ?_)
 rw [if_pos (by rfl)]
 go_simp
 go_at_call 99
 refine (HDo.out _ KE).mono ?_
 rintro e w2 hst
 obtain ⟨ra2,rc2,d2,dc2,rfl,hr2,hs2,k2⟩:=hst.stretch
 clear hst
 have HR2:=Kz hr2
 have HS2:=Kz hs2
 have HK2:=Kz k2
 have k12:=KE.trans k2
 clear hr2 hs2 k2
 dsimp only
 refine hK.out _ _ (fun _=> Zz.out _ k12) ?_
 clear hK K Z_
 try simp only [Act.put,upA,upB,upC]
 have Z_:=Zz.out _ k12
 refine Qx.tk 11 Z_ ?_
 refine Qx.tk 12 Z_ ?_
 obtain ⟨⟨_,fa1⟩,fb1⟩:= (HRow.out.kept k12).row.at (i:=1) (by omega)
 obtain ⟨⟨_,fa2⟩,fb2⟩:= (HRow.out.kept k12).row.at (i:=2) (by omega)
 have hbl2:=Nat.lt_of_lt_of_le hbl k12.size
 clear Z_
 refine Qx.nx 13 (fun K hK=> ?_)
 rw [if_pos (by rfl)]
 go_simp
 refine hK.out _ _ (fun h=> absurd rfl h) ?_
 clear hK K
 try simp only [Act.put,upA,upB,upC]
 refine Qx.dn ?_
 obtain ⟨w3,hw3⟩: ∃w3,w3= (w2.setCell ⟨hb,1,none⟩ (.slice ra2 c.Kk.length rc2)).setCell ⟨hb,2,none⟩ (.slice d2 (doL (Q_ c.Kj) S.T r).length dc2):= ⟨_,rfl⟩
 have HM3:Hid (ShopM c S' { D with ra:=ra2,rc:=rc2,d:=d2,dc:=dc2,lo:=we.heap.size,hi:=w2.heap.size } w3):=by
  have h:= (HI.out.mem.kept KE).state (S':=S') HK2.out HR2.out HS2.out (rc:=rc2) (dc:=dc2) HTr.out HFr.out.1 HFr.out.2.1 HFr.out.2.2
  rw [hw3,HHB.out]
  exact h
 have HB3:Hid (But (fun x=> x=hb) w w3):=by
  rw [hw3]
  exact But.set (S:=fun x=> x=hb) (But.set (S:=fun x=> x=hb) (.of_kept k12) (p:= ⟨hb,1,none⟩) rfl _) (p:= ⟨hb,2,none⟩) rfl _
 have HW3:Hid (w3.ownsRow w.heap.size 9 1 (.slice wasa was.length wasc) was.length (was.map Value.string)):=by
  have h:=ownsRow_kept' Hwaso.out (HKd.out.trans HK2.out)
  rw [hw3]
  exact owns_set (owns_set h (p:= ⟨hb,1,none⟩) hbl _) (p:= ⟨hb,2,none⟩) hbl _
 try simp only [World.setCells]
 rw [<-hw3]
 clear hw3 fa1 fb1 fa2 fb2 hbl2 k12 HR2 HS2 HK2 HKd Zz HRdy HDo KE k1 HRow Hwaso
 obtain ⟨D3,hD3⟩: ∃D3:ShopD,D3= { D with ra:=ra2,rc:=rc2,d:=d2,dc:=dc2,lo:=we.heap.size,hi:=w2.heap.size }:= ⟨_,rfl⟩
 rw [<-hD3] at HM3
 have HCl:=Kz (congrArg ShopD.cl hD3)
 clear hD3
 have HRdy:=Kz (fun u (k:K_ w3 u)=> (HM3.out.kept k).ready HLv.out.good HK.out)
 have Zz:Hid (∀u,K_ w3 u->u.cell? ⟨hb,0,none⟩=some (.slice c.a c.Kj.length c.cap)∧u.cell? ⟨hb,1,none⟩=some (.slice D3.ra c.Kk.length D3.rc)∧u.cell? ⟨hb,2,none⟩=some (.slice D3.d S'.T.length D3.dc)):=fun u k=> by
  have hm:= (HM3.out.kept k).at
  rw [HHB.out]
  exact ⟨hm.1,hm.2.1,hm.2.2.1⟩
 go_wp2_with fail
 refine Qx.region (by kernel_rfl) (fun u=> u.cell? ⟨hb,0,none⟩=some (.slice c.a c.Kj.length c.cap)∧u.cell? ⟨hb,1,none⟩=some (.slice D3.ra c.Kk.length D3.rc)∧u.cell? ⟨hb,2,none⟩=some (.slice D3.d S'.T.length D3.dc)) 9 (Zz.out _ (K_.refl w3).drew) (fun Z_=> ?_)
 have KD:K_ w3 w3.drew:= (K_.refl w3).drew
 generalize hwd:w3.drew=wd at Z_ KD⊢
 clear hwd
 refine Qx.tk 0 Z_ ?_
 refine Qx.tk 1 Z_ ?_
 refine Qx.tk 2 Z_ ?_
 refine Qx.tk 3 Z_ ?_
 refine Qx.tk 4 Z_ ?_
 refine Qx.tk 5 Z_ ?_
 refine Qx.tk 6 Z_ ?_
 refine Qx.tk 7 Z_ ?_
 refine Qx.nx 8 (fun K hK=> ?_)
 rw [if_pos (by rfl)]
 go_simp
 go_at_call 51
 refine (HRdy.out _ KD).mono ?_
 rintro e w4 ⟨⟨nsa,nsc,ns,rfl,hns,nso⟩,k40⟩
 have k4:=KD.trans k40
 have Hns:=Kz hns
 have Hnso:=Kz (owns_base (base':=w3.heap.size) nso KD.size)
 clear k40 hns nso KD
 dsimp only
 refine hK.out _ _ (fun _=> Zz.out _ k4) ?_
 clear hK K Z_
 try simp only [Act.put,upA,upB,upC]
 refine Qx.nx 9 (fun K hK=> ?_)
 rw [if_pos (by rfl)]
 go_simp
 refine hK.out _ _ (fun h=> absurd rfl h) ?_
 clear hK K
 try simp only [Act.put,upA,upB,upC]
 refine Qx.dn ?_
 go_wp2_with fail
 have hnl:ns.length<=60:=by
  have h1:=Hns.out.len
  have h2:=HLv.out.good.len
  have h3:=HK.out.len
  omega
 have hwl:was.length<=60:=by
  have h1:=Hwas.out.len
  have h2:=HI.out.live.good.len
  have h3:=HK.out.len
  omega
 have hbud:=HI.out.bud
 go_loopg [8] ns.length (fun gk x8 wr=> ∃(i:Nat) (Di:ShopD),x8= .int .i64 (i:Int)∧i+gk=ns.length∧Hid (ShopM c S' Di wr)∧Hid (CausAt was ns n j D.cl i Di.cl)∧Hid (But (fun x=> x=hb) w wr)∧Hid (wr.ownsRow w.heap.size 9 1 (.slice wasa was.length wasc) was.length (was.map Value.string))∧Hid (wr.ownsRow w.heap.size 9 1 (.slice nsa ns.length nsc) ns.length (ns.map Value.string)))
 case atStart=> exact ⟨0,D3,rfl,by omega,Kz (HM3.out.kept k4),Kz (by rw [HCl.out];exact .start),Kz (HB3.out.trans (.of_kept k4)),Kz (ownsRow_kept' HW3.out k4),Kz (owns_base Hnso.out HB3.out.size)⟩
 case round=>
  obtain ⟨i,Di,rfl,hgk,HMi,HCi,HBi,HWas,HNow⟩:=hrel
  by_cases hi:i < ns.length
  ·obtain ⟨_,_,ey,hys⟩:=owned_strs HNow.out
   simp only [Value.slice.injEq,true_and] at ey
   rw [<-ey.1] at hys
   clear ey
   obtain ⟨yb,yo,eya,hyb,hyc0⟩:=hys i hi
   subst eya
   obtain ⟨y,hy⟩: ∃y,y=ns[i]:= ⟨_,rfl⟩
   have HY:Hid (ns[i]=y):=hy.symm
   have hyc:wr.cell? ⟨yb,yo+i,none⟩=some (.string y):=by rw [hyc0,hy];simp [List.getD,hi]
   have hii: (i:Int) < (ns.length:Int):=by omega
   have q6:=HMi.out.at.2.2.2.2.2.2
   rw [<-HHB.out] at q6
   have hbr:hb < wr.heap.size:=Nat.lt_of_lt_of_le hbl HBi.out.size
   have hcl:Di.cl.length<=100000:=by have:=HCi.out.1;omega
   obtain ⟨_,_,ew,hws⟩:=owned_strs HWas.out
   simp only [Value.slice.injEq,true_and] at ew
   rw [<-ew.1] at hws
   clear ew
   clear hy hys hyc0
   cases heq: (y.toList == n.toList)
   ·have hhas:=l6Has_any wr wasa wasc was y (by omega) hws
    clear hws
    go_wp2_with fail
    refine hhas.mono ?_
    rintro e w5 ⟨hsay,hw5⟩
    rw [hw5]
    clear hw5 w5
    rcases hsay.cases with ⟨rfl,hyes⟩ | ⟨rfl,hno⟩
    ·have HNo:Hid (¬(ns[i]=n∨ns[i]∉was)):=by
      rw [HY.out]
      rintro (e | e)
      ·rw [e] at heq;simp at heq
      ·exact e hyes
     clear hyes hhas hsay
     go_wp2_with fail
     go_roundg (gk - 1)
     case measure=> omega
     case rel=> exact ⟨i+1,Di,by go_num,by omega,HMi,Kz (HCi.out.no hi HNo.out),HBi,HWas,HNow⟩
    ·have HYes:Hid (ns[i]=n∨ns[i]∉was):= .inr (by rw [HY.out];exact hno)
     clear hno hhas hsay
     go_wp2_with fail
     have HS7:Hid (∀u,K_ wr u->u.cell? ⟨hb,6,none⟩=some (.slice Di.ca Di.cl.length Di.cc)∧u.cell? ⟨yb,yo+i,none⟩=some (.string y)):=fun u ku=> ⟨(ku.cell hbr).trans q6,(ku.cell hyb).trans hyc⟩
     refine Qx.region (by kernel_rfl) (fun u=> u.cell? ⟨hb,6,none⟩=some (.slice Di.ca Di.cl.length Di.cc)∧u.cell? ⟨yb,yo+i,none⟩=some (.string y)) 15 (HS7.out _ (K_.refl wr).drew) (fun Z_=> ?_)
     have KD:K_ wr wr.drew:= (K_.refl wr).drew
     generalize hwd:wr.drew=wd at Z_ KD⊢
     clear hwd
     refine Qx.tk 0 Z_ ?_
     refine Qx.tk 1 Z_ ?_
     refine Qx.tk 2 Z_ ?_
     refine Qx.tk 3 Z_ ?_
     refine Qx.tk 4 Z_ ?_
     refine Qx.tk 5 Z_ ?_
     refine Qx.tk 6 Z_ ?_
     refine Qx.tk 8 Z_ ?_
     refine Qx.tk 9 Z_ ?_
     refine Qx.tk 10 Z_ ?_
     refine Qx.tk 11 Z_ ?_
     refine Qx.nx 7 (fun K hK=> ?_)
     rw [if_pos (by rfl)]
     go_simp
     have KA:K_ wr (wd.alloc (.cells #[.string y,.int .i64 j] 177)):=KD.alloc _
     refine hK.out _ _ (fun _=> HS7.out _ KA) ?_
     clear hK K Z_
     try simp only [Act.put,upA,upB,upC]
     have Z_:=HS7.out _ KA
     have HLit:Hid ((wd.alloc (.cells #[.string y,.int .i64 j] 177)).ownsRow wr.heap.size 177 2 (.slice (some ⟨wd.heap.size,0,none⟩) 1 1) 1 [.string y,.int .i64 j]):= ⟨rfl,.inr ⟨wd.heap.size,1,_,rfl,KD.size,heap_alloc_new wd _,Nat.le_refl _,by unfold maxLen;omega,rfl,rfl⟩⟩
     have HOld:=Kz (ownsRow_kept' HMi.out.cau KA)
     have HX3:Hid (wr.heap.size<=(wd.alloc (.cells #[.string y,.int .i64 j] 177)).heap.size):=KA.size
     have HX1:Hid (1+Di.cl.length<=maxLen):=by show _<=_;unfold maxLen;omega
     have HX2:Hid ((1+Di.cl.length) * 24<=140737488355328):=by show _<=_;omega
     refine Qx.nx 12 (fun K hK=> ?_)
     rw [if_pos (by rfl)]
     refine wp_append_rows (.tmp 68) (.tmp 72) 57 rfl wr.heap.size 177 ic (.agg #[.string ByteArray.empty,.int .i64 0]) 2 24 Tryz.underlying57 hc0 hc1 hc2 hc3 rfl (by decide) (.slice (some ⟨wd.heap.size,0,none⟩) 1 1) 1 [.string y,.int .i64 j] rfl HLit.out c.w0.heap.size (.slice Di.ca Di.cl.length Di.cc) Di.cl.length (clCells Di.cl) rfl HOld.out (clCells_one Di.cl) HX1.out HX2.out HX3.out ?_
     intro v6 w6 ho6 hg6 _
     have K6:K_ wr w6:=kept_of_grown KA (Nat.le_refl _) HLit.out hg6
     obtain ⟨ca6,cc6,rfl⟩:=own_slice ho6
     have HO6:=Kz ho6
     clear ho6 hg6
     refine hK.out _ _ (fun _=> HS7.out _ K6) ?_
     clear hK K Z_
     try simp only [Act.put,upA,upB,upC]
     have Z_:=HS7.out _ K6
     refine Qx.tk 13 Z_ ?_
     refine Qx.tk 14 Z_ ?_
     obtain ⟨⟨_,fa6⟩,fb6⟩:= (HMi.out.row.kept K6).row.at (i:=6) (by omega)
     rw [<-HHB.out] at fa6 fb6
     have hbl6:=Nat.lt_of_lt_of_le hbr K6.size
     clear Z_
     refine Qx.nx 15 (fun K hK=> ?_)
     rw [if_pos (by rfl)]
     go_simp
     refine hK.out _ _ (fun h=> absurd rfl h) ?_
     clear hK K
     try simp only [Act.put,upA,upB,upC]
     refine Qx.dn ?_
     have HM6:=Kz (HMi.out.causes K6 (ca:=ca6) (cc:=cc6) (cl:= (y,j) :: Di.cl) (by rw [List.length_cons,Nat.add_comm];exact owns_base HO6.out HMi.out.kw.size))
     have HB6:Hid (But (fun x=> x=hb) w (w6.setCell ⟨hb,6,none⟩ (.slice ca6 (1+Di.cl.length) cc6))):= (HBi.out.trans (.of_kept K6)).set (p:= ⟨hb,6,none⟩) rfl _
     have HBr:Hid (But (fun x=> x=hb) wr (w6.setCell ⟨hb,6,none⟩ (.slice ca6 (1+Di.cl.length) cc6))):=But.set (S:=fun x=> x=hb) (But.of_kept K6) (p:= ⟨hb,6,none⟩) rfl _
     rw [<-HHB.out,List.length_cons,Nat.add_comm Di.cl.length 1] at HM6
     clear fa6 fb6 hbl6 HS7 KA KD HLit HOld HX1 HX2 HX3 HO6 q6 hyc
     go_wp2_with fail
     go_roundg (gk - 1)
     case measure=> omega
     case rel=> exact ⟨i+1,_,by go_num,by omega,HM6,Kz (by have h:=HCi.out.yes (by omega) HYes.out;rw [HY.out] at h;exact h),HB6,HBr.out.owns HWas.out (fun x e e2=> by have:= (HWas.out.lt x e).1;omega),HBr.out.owns HNow.out (fun x e e2=> by have:= (HNow.out.lt x e).1;omega)⟩
   ·have HYes:Hid (ns[i]=n∨ns[i]∉was):= .inl (by rw [HY.out];exact has_beq heq)
    clear hws
    go_wp2_with fail
    have HS7:Hid (∀u,K_ wr u->u.cell? ⟨hb,6,none⟩=some (.slice Di.ca Di.cl.length Di.cc)∧u.cell? ⟨yb,yo+i,none⟩=some (.string y)):=fun u ku=> ⟨(ku.cell hbr).trans q6,(ku.cell hyb).trans hyc⟩
    refine Qx.region (by kernel_rfl) (fun u=> u.cell? ⟨hb,6,none⟩=some (.slice Di.ca Di.cl.length Di.cc)∧u.cell? ⟨yb,yo+i,none⟩=some (.string y)) 15 (HS7.out _ (K_.refl wr).drew) (fun Z_=> ?_)
    have KD:K_ wr wr.drew:= (K_.refl wr).drew
    generalize hwd:wr.drew=wd at Z_ KD⊢
    clear hwd
    refine Qx.tk 0 Z_ ?_
    refine Qx.tk 1 Z_ ?_
    refine Qx.tk 2 Z_ ?_
    refine Qx.tk 3 Z_ ?_
    refine Qx.tk 4 Z_ ?_
    refine Qx.tk 5 Z_ ?_
    refine Qx.tk 6 Z_ ?_
    refine Qx.tk 8 Z_ ?_
    refine Qx.tk 9 Z_ ?_
    refine Qx.tk 10 Z_ ?_
    refine Qx.tk 11 Z_ ?_
    refine Qx.nx 7 (fun K hK=> ?_)
    rw [if_pos (by rfl)]
    go_simp
    have KA:K_ wr (wd.alloc (.cells #[.string y,.int .i64 j] 177)):=KD.alloc _
    refine hK.out _ _ (fun _=> HS7.out _ KA) ?_
    clear hK K Z_
    try simp only [Act.put,upA,upB,upC]
    have Z_:=HS7.out _ KA
    have HLit:Hid ((wd.alloc (.cells #[.string y,.int .i64 j] 177)).ownsRow wr.heap.size 177 2 (.slice (some ⟨wd.heap.size,0,none⟩) 1 1) 1 [.string y,.int .i64 j]):= ⟨rfl,.inr ⟨wd.heap.size,1,_,rfl,KD.size,heap_alloc_new wd _,Nat.le_refl _,by unfold maxLen;omega,rfl,rfl⟩⟩
    have HOld:=Kz (ownsRow_kept' HMi.out.cau KA)
    have HX3:Hid (wr.heap.size<=(wd.alloc (.cells #[.string y,.int .i64 j] 177)).heap.size):=KA.size
    have HX1:Hid (1+Di.cl.length<=maxLen):=by show _<=_;unfold maxLen;omega
    have HX2:Hid ((1+Di.cl.length) * 24<=140737488355328):=by show _<=_;omega
    refine Qx.nx 12 (fun K hK=> ?_)
    rw [if_pos (by rfl)]
    refine wp_append_rows (.tmp 68) (.tmp 72) 57 rfl wr.heap.size 177 ic (.agg #[.string ByteArray.empty,.int .i64 0]) 2 24 Tryz.underlying57 hc0 hc1 hc2 hc3 rfl (by decide) (.slice (some ⟨wd.heap.size,0,none⟩) 1 1) 1 [.string y,.int .i64 j] rfl HLit.out c.w0.heap.size (.slice Di.ca Di.cl.length Di.cc) Di.cl.length (clCells Di.cl) rfl HOld.out (clCells_one Di.cl) HX1.out HX2.out HX3.out ?_
    intro v6 w6 ho6 hg6 _
    have K6:K_ wr w6:=kept_of_grown KA (Nat.le_refl _) HLit.out hg6
    obtain ⟨ca6,cc6,rfl⟩:=own_slice ho6
    have HO6:=Kz ho6
    clear ho6 hg6
    refine hK.out _ _ (fun _=> HS7.out _ K6) ?_
    clear hK K Z_
    try simp only [Act.put,upA,upB,upC]
    have Z_:=HS7.out _ K6
    refine Qx.tk 13 Z_ ?_
    refine Qx.tk 14 Z_ ?_
    obtain ⟨⟨_,fa6⟩,fb6⟩:= (HMi.out.row.kept K6).row.at (i:=6) (by omega)
    rw [<-HHB.out] at fa6 fb6
    have hbl6:=Nat.lt_of_lt_of_le hbr K6.size
    clear Z_
    refine Qx.nx 15 (fun K hK=> ?_)
    rw [if_pos (by rfl)]
    go_simp
    refine hK.out _ _ (fun h=> absurd rfl h) ?_
    clear hK K
    try simp only [Act.put,upA,upB,upC]
    refine Qx.dn ?_
    have HM6:=Kz (HMi.out.causes K6 (ca:=ca6) (cc:=cc6) (cl:= (y,j) :: Di.cl) (by rw [List.length_cons,Nat.add_comm];exact owns_base HO6.out HMi.out.kw.size))
    have HB6:Hid (But (fun x=> x=hb) w (w6.setCell ⟨hb,6,none⟩ (.slice ca6 (1+Di.cl.length) cc6))):= (HBi.out.trans (.of_kept K6)).set (p:= ⟨hb,6,none⟩) rfl _
    have HBr:Hid (But (fun x=> x=hb) wr (w6.setCell ⟨hb,6,none⟩ (.slice ca6 (1+Di.cl.length) cc6))):=But.set (S:=fun x=> x=hb) (But.of_kept K6) (p:= ⟨hb,6,none⟩) rfl _
    rw [<-HHB.out,List.length_cons,Nat.add_comm Di.cl.length 1] at HM6
    clear fa6 fb6 hbl6 HS7 KA KD HLit HOld HX1 HX2 HX3 HO6 q6 hyc
    go_wp2_with fail
    go_roundg (gk - 1)
    case measure=> omega
    case rel=> exact ⟨i+1,_,by go_num,by omega,HM6,Kz (by have h:=HCi.out.yes (by omega) HYes.out;rw [HY.out] at h;exact h),HB6,HBr.out.owns HWas.out (fun x e e2=> by have:= (HWas.out.lt x e).1;omega),HBr.out.owns HNow.out (fun x e e2=> by have:= (HNow.out.lt x e).1;omega)⟩
  ·have hni: ¬((i:Int) < (ns.length:Int)):=by omega
   have hie:i=ns.length:=by omega
   go_wp2_with fail
   go_end0
   refine ⟨rfl,⟨Di,HMi.out,HLv.out,fun m hm=> ?_, ?_⟩,HBi.out⟩
   ·have h1:=HCi.out.2 m
    rw [hie,List.take_length] at h1
    have h2:m∈ns:= (Hns.out.ready HLv.out.sane.ok.asc m).2 hm
    have h3:=Hwas.out.ready HI.out.live.sane.ok.asc m
    rw [h1]
    show _=S'.cause m
    have hm':ReadyX (Q_ c.Kj) (Qj (doN (Q_ c.Kj) S.T n)) m:=by
     have hm2:=hm
     rw [HSd.out] at hm2
     exact hm2
    by_cases hc:m=n∨m∉was
    ·rw [if_pos ⟨h2,hc⟩,HSd.out]
     unfold doneS
     dsimp only
     rw [if_pos ⟨hm',hc.imp id (fun x y=> x (h3.2 y))⟩]
    ·rw [if_neg (fun x=> hc x.2),HSd.out]
     unfold doneS
     dsimp only
     rw [if_neg (fun x=> hc (x.2.imp id (fun y z=> y (h3.1 z))))]
     exact HI.out.cau m (h3.1 (by by_cases e:m∈was;exact e;exact absurd (.inr e) hc))
   ·have h1:=HCi.out.1
    have h2:=HPt.out
    omega
