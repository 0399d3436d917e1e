import Derived.Test.YteabdfhkoloimaaKDLit
import Derived.Deep.CutBlock
set_option maxRecDepth 100000
set_option maxHeartbeats 25600000
namespace Go.Proofs.Yteabdfhkoloimaa
open Go.RowKit
section
variable {M : Nat} {w wr : World} {rb ob sb : Nat} {a : Option Addr} {cap : Nat} {bs : List UInt8} {p : Nat} {cost : Int} {v : Value} {L : List Xz} {xs : List Value} {k : Nat} {va vc : Value} {s : Xz}
theorem SpSt.fin (h:SpSt M w wr rb ob sb a cap bs p cost v L xs k va vc s) (x:Bool):SpSt M w (wr.setCell ⟨sb,5,none⟩ (.bool x)) rb ob sb a cap bs p cost v L xs k va vc { s with fin:=x }:=
 h.field (h.st.box.fin x) rfl rfl ⟨h.st.tiny.asks,h.st.tiny.askEach,h.st.tiny.on,h.st.tiny.cases,h.st.tiny.caseEach,h.st.tiny.els,h.st.tiny.fall,h.st.tiny.give⟩
theorem SpSt.bad (h:SpSt M w wr rb ob sb a cap bs p cost v L xs k va vc s) (x:Bool):SpSt M w (wr.setCell ⟨sb,6,none⟩ (.bool x)) rb ob sb a cap bs p cost v L xs k va vc { s with bad:=x }:=
 h.field (h.st.box.bad x) rfl rfl ⟨h.st.tiny.asks,h.st.tiny.askEach,h.st.tiny.on,h.st.tiny.cases,h.st.tiny.caseEach,h.st.tiny.els,h.st.tiny.fall,h.st.tiny.give⟩
theorem SpSt.give (h:SpSt M w wr rb ob sb a cap bs p cost v L xs k va vc s) (x:ByteArray) (hx:x.size<=300):SpSt M w (wr.setCell ⟨sb,7,none⟩ (.string x)) rb ob sb a cap bs p cost v L xs k va vc { s with give:=x }:=
 h.field (h.st.box.give x) rfl rfl ⟨h.st.tiny.asks,h.st.tiny.askEach,h.st.tiny.on,h.st.tiny.cases,h.st.tiny.caseEach,h.st.tiny.els,h.st.tiny.fall,hx⟩
theorem SpSt.on (h:SpSt M w wr rb ob sb a cap bs p cost v L xs k va vc s) (x:Int) (hx: -1000<=x∧x<=1000):SpSt M w (wr.setCell ⟨sb,1,none⟩ (.int .i64 x)) rb ob sb a cap bs p cost v L xs k va vc { s with on:=x }:=
 h.field (h.st.box.on x) rfl rfl ⟨h.st.tiny.asks,h.st.tiny.askEach,hx,h.st.tiny.cases,h.st.tiny.caseEach,h.st.tiny.els,h.st.tiny.fall,h.st.tiny.give⟩
theorem SpSt.els (h:SpSt M w wr rb ob sb a cap bs p cost v L xs k va vc s) (x:Int) (hx:In64 x):SpSt M w (wr.setCell ⟨sb,3,none⟩ (.int .i64 x)) rb ob sb a cap bs p cost v L xs k va vc { s with els:=x }:=
 h.field (h.st.box.els x) rfl rfl ⟨h.st.tiny.asks,h.st.tiny.askEach,h.st.tiny.on,h.st.tiny.cases,h.st.tiny.caseEach,hx,h.st.tiny.fall,h.st.tiny.give⟩
theorem SpSt.fall (h:SpSt M w wr rb ob sb a cap bs p cost v L xs k va vc s) (x:Int) (hx: -1000<=x∧x<=1000):SpSt M w (wr.setCell ⟨sb,4,none⟩ (.int .i64 x)) rb ob sb a cap bs p cost v L xs k va vc { s with fall:=x }:=
 h.field (h.st.box.fall x) rfl rfl ⟨h.st.tiny.asks,h.st.tiny.askEach,h.st.tiny.on,h.st.tiny.cases,h.st.tiny.caseEach,h.st.tiny.els,hx,h.st.tiny.give⟩
end
theorem SpSt.grownC1 {M:Nat} {w wr w1 w2:World} {rb ob sb:Nat} {a:Option Addr} {cap:Nat} {bs:List UInt8} {p:Nat} {cost:Int} {v:Value} {L:List Xz} {xs:List Value} {k:Nat} {va vc:Value} {s:Xz} (h:SpSt M w wr rb ob sb a cap bs p cost v L xs k va vc s) (k1:K_ wr w1) (hg:w1.grownBy w2 vc.ownBlock):w2.cell? ⟨ob,1,none⟩=some v:=by
 have h1:=h.kept k1
 exact ((h1.row.sameT (SameKind.of_grown h1.st.cases hg) (by decide)).2 1).trans h1.c1
theorem SpSt.cut {M:Nat} {w wr:World} {rb ob sb:Nat} {a:Option Addr} {cap:Nat} {bs:List UInt8} {p:Nat} {cost:Int} {L:List Xz} {xs:List Value} {k g cv:Nat} {va vc:Value} {s:Xz} (h:SpSt M w wr rb ob sb a cap bs p cost (.slice (some ⟨g,0,none⟩) L.length cv) L xs k va vc s):
  FinSt M w (wr.setCell ⟨ob,1,none⟩ (.slice (some ⟨g,0,none⟩) k cv)) rb ob a cap bs p cost (.slice (some ⟨g,0,none⟩) k cv) (L.take k):=by
 have hkl:=h.kl
 have hk:=h.row.same (o:=1) (.slice (some ⟨g,0,none⟩) k cv)
 have hbl:Below w.heap.size wr (wr.setCell ⟨ob,1,none⟩ (.slice (some ⟨g,0,none⟩) k cv)):= (Below.refl _ _).setCell h.obl _
 obtain ⟨p0,h0⟩:=h.st.rd0
 have hl: (L.take k).length=k:=by rw [List.length_take];omega
 rcases h.own.2 with ⟨e,_⟩ | ⟨g',cap',cur,e,hb,hg,hnc,_,hcz,_⟩
 ·simp at e
 simp only [Value.slice.injEq,Option.some.injEq,Addr.mk.injEq,and_true,true_and] at e
 obtain ⟨rfl,rfl⟩:=e
 refine ⟨h.st.rd.below h0 hbl h.st.kb.size,h.st.kb.below hbl,h.row.set _,(Xj (by omega) _).trans h.c0,set_hit h.row.row (by omega) _,StW.same ⟨some ⟨g,0,none⟩,cv,by rw [hl],by rw [hl];omega,fun i hi=> ?_⟩ hk (by decide) (by decide) (by decide),fun t ht=> h.tiny t (List.mem_of_mem_take ht)⟩
 rw [hl] at hi
 have ho:= (h.oth i (by omega) (by omega)).1
 have e1: (L.take k).getD i Xz.zero=L.getD i Xz.zero:=by simp [List.getD,hi]
 rw [e1]
 exact ⟨g,0,cur,_,segS xs i,rfl,hg,seg_cells h.own i,ho.step,ho.nils⟩
theorem AStN.fin {M:Nat} {w wr:World} {rb ab:Nat} {a:Option Addr} {cap:Nat} {bs:List UInt8} {p:Nat} {cost:Int} {v:Value} {L:List Xz} {xs:List Value} (h:AStN M w wr rb ab a cap bs p cost v L xs):FinSt M w wr rb ab a cap bs p cost v L:=
 ⟨h.rd,h.kb,h.row,h.c0,h.c1,StW.of_owned h.own h.pack h.nils,h.tiny⟩
theorem SpSt.act {M:Nat} {w wr:World} {rb ob sb:Nat} {a:Option Addr} {cap:Nat} {bs:List UInt8} {p:Nat} {cost:Int} {v:Value} {L:List Xz} {xs:List Value} {k:Nat} {va vc:Value} {s:Xz} (h:SpSt M w wr rb ob sb a cap bs p cost v L xs k va vc s) (hp:PackedO wr w.heap.size xs L):AStN M w wr rb ob a cap bs p cost v L xs:=
 ⟨h.st.rd,h.st.rd0,h.obl,h.st.kb,h.row,h.c0,h.c1,h.own,hp.packed,h.tiny,hp.nils⟩
def Spoilt (M:Nat) (A0 wx:World) (rb ob sb:Nat) (a:Option Addr) (cap:Nat) (bs:List UInt8) (p:Nat) (v:Value) (L:List Xz) (xs:List Value) (k:Nat):Prop:=
 ∃(cost:Int) (va vc:Value) (s:Xz) (p':Nat),(-1000<=cost∧cost<=1000)∧p<=p'∧p'<=p+4∧SpSt M A0 wx rb ob sb a cap bs p' cost v L xs k va vc s
theorem spoil_any (mN:Nat) (hmN:mN<=900) (w:World) (rb:Nat) (a:Option Addr) (cap:Nat) (bs:List UInt8) (p:Nat) (cost:Int) (sa:Option Addr) (scap:Nat) (L:List Xz) (hR:Rd w rb a cap bs p) (hp:p<=800000) (hbl:bs.length<=2000) (hL:L.length<=21) (hco: -1000<=cost∧cost<=1000) (hty: ∀s∈L,s.TinyN mN) (hS:StepsN w sa L):
  Calls Try.prog 15 #[.pointer (some ⟨rb,0,none⟩),.agg #[.int .i64 cost,.slice sa L.length scap]] w fun e w'=> DrewW (mN+10) w w' rb a cap bs p 10 e:=by
 obtain ⟨A0,hA0⟩: ∃A0,A0= (w.alloc (.cells #[.int .i64 cost,.slice sa L.length scap] 28)).alloc (.cells #[.int .i64 0,.slice none 0 0] 28):= ⟨_,rfl⟩
 have k0:K_ w A0:=by rw [hA0];exact ((K_.refl _).alloc _).alloc _
 have hA0s:A0.heap.size=w.heap.size+2:=by rw [hA0];simp
 have HRes:Hid (RowT A0 (w.heap.size+1) 28 2):=by
  rw [hA0]
  refine Kz ?_
  have:=RowT.made (w.alloc (.cells #[.int .i64 cost,.slice sa L.length scap] 28)) #[.int .i64 0,.slice none 0 0] 28
  simpa using this
 have a0:A0.cell? ⟨w.heap.size,0,none⟩=some (.int .i64 cost):=by
  rw [hA0,K_.cell (w:=w.alloc (.cells #[.int .i64 cost,.slice sa L.length scap] 28)) ((K_.refl _).alloc _) (by simp)]
  exact Zx w _ _ 0 _ rfl
 have a1:A0.cell? ⟨w.heap.size,1,none⟩=some (.slice sa L.length scap):=by
  rw [hA0,K_.cell (w:=w.alloc (.cells #[.int .i64 cost,.slice sa L.length scap] 28)) ((K_.refl _).alloc _) (by simp)]
  exact Zx w _ _ 1 _ rfl
 have az:w.heap.size < A0.heap.size:=by omega
 have HR0:=Kz hR
 have HRA:=Kz (hR.kept k0)
 have hrb:=hR.row.lt
 have HTm:=Kz hty
 have HTy:Hid (∀s∈L,s.TinyN (mN+10)):=fun s hs=> (hty s hs).mono (by omega)
 clear hR hty
 go_enter Try.func15,Try.ntmps15
 go_upto_region 1 with fail
 rw [<-hA0]
 have HA0s:=Kz hA0s
 clear hA0 hA0s
 go_wp2_with fail
 refine (copy_any _ cost sa scap L (by omega) (mN:=mN) (by omega) HTm.out (hS.kept k0)).mono ?_
 rintro e w1 ⟨v1,xs,rfl,hown,hpk,k1⟩
 obtain ⟨av,cv,rfl⟩:=own_slice hown
 have kk:K_ w1 (w1.alloc (.cells #[.int .i64 cost,.slice av L.length cv] 28)):= (K_.refl _).alloc _
 have HK1:=Kz (k1.trans kk)
 have HOw:=Kz (ownsRow_kept' hown kk)
 have HPk:=Kz (hpk.same (u:=65) (SameKind.of_kept kk) (by decide) (by decide))
 have HRow:Hid (RowT (w1.alloc (.cells #[.int .i64 cost,.slice av L.length cv] 28)) w1.heap.size 28 2):=RowT.made w1 _ _
 have HC0:Hid ((w1.alloc (.cells #[.int .i64 cost,.slice av L.length cv] 28)).cell? ⟨w1.heap.size,0,none⟩=some (.int .i64 cost)):=Zx w1 _ _ 0 _ rfl
 have HC1:Hid ((w1.alloc (.cells #[.int .i64 cost,.slice av L.length cv] 28)).cell? ⟨w1.heap.size,1,none⟩=some (.slice av L.length cv)):=Zx w1 _ _ 1 _ rfl
 have hob:A0.heap.size<=w1.heap.size:=k1.size
 clear hown hpk k1 kk
 go_upto_region 2 with fail
 obtain ⟨W2,hW2⟩: ∃W2,W2=w1.alloc (.cells #[.int .i64 cost,.slice av L.length cv] 28):= ⟨_,rfl⟩
 rw [<-hW2] at HK1 HOw HPk HRow HC0 HC1⊢
 clear hW2
 have o1:=HC1.out
 have oz:=HRow.out.lt
 by_cases hL0:L.length=0
 ·have eL0: ((L.length:Int) == 0)=true:=by simp [hL0]
  have HF:=Kz (FinSt.made (HRA.out.kept HK1.out) (.of_kept HK1.out) HRow.out HC0.out HC1.out HOw.out HPk.out HTy.out)
  clear hL0
  have HRs:=Kz (HRes.out.kept HK1.out)
  obtain ⟨⟨_,x0⟩,g0⟩:=HRs.out.row.at (i:=0) (by omega)
  obtain ⟨⟨_,x1⟩,g1⟩:=HRs.out.row.at (i:=1) (by omega)
  have xz:=HRs.out.lt
  have o0:=HC0.out
  go_wp2
  have hR:=World.rangeAt_setCells_same W2 (w.heap.size+1) 0 [.int .i64 cost,.slice av L.length cv] (HRs.out.row.there (o:=0) (m:=2) (Nat.le_refl _))
  exact Zk [.int .i64 cost,.slice av L.length cv] _ Try.results15 rfl hR Try.underlying28 rfl Try.dSizeAction rfl (HF.out.ends HRs.out (by omega) k0 HR0.out rfl (Nat.le_refl _) (by omega) (by omega) hco)
 ·have eL0: ((L.length:Int) == 0)=false:=by simpa using hL0
  go_wp2_with fail
  refine (pick_at _ rb a cap bs p _ L.length rfl (HRA.out.kept HK1.out) (by omega) (by omega) hbl).mono ?_
  rintro e w3 ⟨k,rfl,hk,hR3,kb3⟩
  have hkL:k < L.length:=by omega
  have hk3:=kb3.sameKind (HRA.out.kept HK1.out)
  have HR3:=Kz hR3
  have HKB:Hid (Xq rb (rb+1) A0 w3):= (Xq.of_kept HK1.out).trans kb3
  have hrow3:=HRow.out.sameT hk3 (by decide)
  have HRow3:=Kz hrow3.1
  have o0:= (hrow3.2 0).trans HC0.out
  have o1':= (hrow3.2 1).trans HC1.out
  have HOw3:=Kz (owns_kept HOw.out hk3 (by decide))
  have HPk3:=Kz (HPk.out.same hk3 (by decide) (by decide))
  have oz3:=HRow3.out.lt
  obtain ⟨s,hsd⟩: ∃s,s=L.getD k Xz.zero:= ⟨_,rfl⟩
  have hOk:=HPk3.out.each k hkL
  rw [<-hsd] at hOk
  obtain ⟨aa,ca,ac,cc,ecs,g1,g2⟩:=hOk
  rcases HOw3.out.2 with ⟨_,e0⟩ | ⟨g,cv',cur,ev,hbg,hgb,hnc,_,hcz,_⟩
  ·exact absurd e0 hL0
  simp only [Value.slice.injEq,true_and] at ev
  obtain ⟨rfl,rfl⟩:=ev
  have hseg:=seg_cells HOw3.out k
  rw [ecs] at hseg
  have c0:=hseg 0 _ rfl
  have c1:=hseg 1 _ rfl
  have c2:=hseg 2 _ rfl
  have c3:=hseg 3 _ rfl
  have c4:=hseg 4 _ rfl
  have c5:=hseg 5 _ rfl
  have c6:=hseg 6 _ rfl
  have c7:=hseg 7 _ rfl
  rw [Nat.add_zero] at c0
  simp only [Nat.zero_add] at c0 c1 c2 c3 c4 c5 c6 c7
  have gz:=heap_lt hgb
  have HSp:=Kz (SpSt.made HR3.out HRA.out HKB.out hob HRow3.out o0 o1' HOw3.out HPk3.out hkL HTy.out hsd ecs)
  have HGr:Hid (RowT w3 g 68 (cv * 8)):= ⟨cur,hgb,hcz⟩
  have hncv:L.length<=cv:=hnc
  have hk': (k:Int) < (L.length:Int):=by omega
  have hsm:s.TinyN mN:=HTm.out s (by rw [hsd];simp [List.getD,hkL])
  have hsma:=hsm.asks
  have hsmc:=hsm.cases
  clear hsm
  have HSd:=Kz hsd
  clear hseg hgb hcz g1 g2 ecs hnc hR3 kb3 hk3 hrow3 hsd
  go_wp2_with fail
  refine (pick_at _ rb a cap bs (p+1) _ 14 rfl HSp.out.st.rd (by omega) (by omega) hbl).mono ?_
  rintro e w4 ⟨u,rfl,hu,hR4,kb4⟩
  have HX:=Kz (HSp.out.drawn hR4 kb4)
  have hk4:=kb4.sameKind HSp.out.st.rd
  have kal:K_ w3 (w3.alloc (.cells #[.slice aa s.asks.length ca,.int .i64 s.on,.slice ac s.cases.length cc,.int .i64 s.els,.int .i64 s.fall,.bool s.fin,.bool s.bad,.string s.give] 68)):= (K_.refl _).alloc _
  have HPk4:=Kz ((HPk3.out.same (u:=65) (SameKind.of_kept kal) (by decide) (by decide)).same hk4 (by decide) (by decide))
  have hsb:w3.heap.size < w4.heap.size:=HX.out.st.box.row.lt
  clear hR4 kb4 HSp HPk3 HPk c0 c1 c2 c3 c4 c5 c6 c7 HGr HRow3 HOw3 o0 o1' o1 HC0 HC1 HRow HOw kal hk4 HR3 gz oz3 oz
  go_upto_block 0 with fail
  go_cut [8,9,10] from 31 to 198 (fun _ _ _ wx=> Spoilt (mN+10) A0 wx rb w1.heap.size w3.heap.size a cap bs (p+2) (.slice (some ⟨g,0,none⟩) L.length cv) L xs k)
  case first=>
   have hcs:u=0∨u=1∨u=2∨u=3∨u=4∨u=5∨u=6∨u=7∨u=8∨u=9∨u=10∨u=11∨u=12∨u=13:=by omega
   have y5:=HX.out.st.box.c5
   have y6:=HX.out.st.box.c6
   have y3:=HX.out.st.box.c3
   obtain ⟨_,f5⟩:=HX.out.st.box.cell (o:=5) (by omega)
   obtain ⟨_,f6⟩:=HX.out.st.box.cell (o:=6) (by omega)
   obtain ⟨_,f3⟩:=HX.out.st.box.cell (o:=3) (by omega)
   obtain ⟨_,f7⟩:=HX.out.st.box.cell (o:=7) (by omega)
   clear hu
   obtain rfl | rfl | rfl | rfl | rfl | rfl | rfl | rfl | rfl | rfl | rfl | rfl | rfl | rfl:=hcs
   ·have kal:K_ w4 (w4.alloc (.cells #[.int .i64 0,.int .i64 20,.int .i64 21] 3)):= (K_.refl _).alloc _
    have HX1:=Kz (HX.out.kept kal)
    go_wp2_with fail
    refine (pick_at _ rb a cap bs (p+2) _ 3 rfl HX1.out.st.rd (by omega) (by omega) hbl).mono ?_
    rintro e w5 ⟨q,rfl,hq,hR5,kb5⟩
    have HX2:=Kz (HX1.out.drawn hR5 kb5)
    obtain ⟨c,hc,hc1,hc2⟩:=lit_int [0,20,21] kb5 HX.out.st.rd.row.lt q (by show q < 3;omega) (by decide)
    obtain ⟨⟨_,r0⟩,f0⟩:=HX2.out.row.row.at (i:=0) (by omega)
    have rz:=HX2.out.row.lt
    have lz:w4.heap.size < w5.heap.size:=Nat.lt_of_lt_of_le (by simp) kb5.size
    have hq3: (q:Int) < 3:=by omega
    clear hR5 kb5 HX1 kal
    go_wp2_with fail
    go_meet
    exact ⟨c,_,_,_,p+3,⟨hc1,hc2⟩,by omega,by omega,HX2.out.cost⟩
   ·go_wp2_with fail
    go_meet
    exact ⟨cost,_,_,_,p+2,hco,by omega,by omega,HX.out.fin _⟩
   ·go_wp2_with fail
    go_meet
    exact ⟨cost,_,_,_,p+2,hco,by omega,by omega,HX.out.bad _⟩
   ·go_wp2_with fail
    refine (pick_at _ rb a cap bs (p+2) _ 2 rfl HX.out.st.rd (by omega) (by omega) hbl).mono ?_
    rintro e w5 ⟨q,rfl,hq,hR5,kb5⟩
    have HX2:=Kz (HX.out.drawn hR5 kb5)
    obtain ⟨⟨_,r7⟩,f7'⟩:=HX2.out.st.box.cell (o:=7) (by omega)
    have rz:=HX2.out.st.box.row.lt
    clear hR5 kb5
    go_wp2_with fail
    refine (many_at _ ⟨#[103]⟩ _ (30+q) (by push_cast;rfl) (by omega) (by decide)).mono ?_
    rintro e w6 ⟨⟨x,rfl,hx⟩,rfl⟩
    have hx':x.size<=300:=by have e1: (⟨#[103]⟩:ByteArray).size=1:=rfl;rw [e1] at hx;omega
    go_wp2_with fail
    go_meet
    exact ⟨cost,_,_,_,p+3,hco,by omega,by omega,HX2.out.give _ hx'⟩
   ·have HX1:=Kz (HX.out.kept ((K_.refl w4).drew))
    have y0:=HX1.out.st.box.c0
    go_upto_region 17 with fail
    refine Qj.region (by kernel_rfl) (fun w'=> w'.cell? ⟨w3.heap.size,0,none⟩=some (.slice aa s.asks.length ca)) 14 y0 (fun Qk=> ?_)
    generalize hwd:w4.drew=wd at HX1 Qk⊢
    clear hwd y0
    refine Qj.tk 0 Qk ?_
    refine Qj.tk 1 Qk ?_
    refine Qj.tk 2 Qk ?_
    refine Qj.tk 7 Qk ?_
    refine Qj.nx 3 (fun K hK=> ?_)
    rw [if_pos (by rfl)]
    go_simp
    go_at_call 13
    refine (pick_at _ rb a cap bs (p+2) _ 2 rfl HX1.out.st.rd (by omega) (by omega) hbl).mono ?_
    rintro e w5 ⟨q,rfl,hq,hR5,kb5⟩
    have HX2:=Kz (HX1.out.drawn hR5 kb5)
    clear hR5 kb5
    dsimp only
    refine hK.out _ _ (fun _=> HX2.out.st.box.c0) ?_
    clear hK K
    try simp only [Act.put,upA,upB,upC]
    clear Qk HX1
    have Qk:=HX2.out.st.box.c0
    have e4:IntKind.i64.wrap (20+ (q:Int))=20+ (q:Int):=by simp [IntKind.wrap,IntKind.bits,IntKind.signed];omega
    refine Qj.take 4 [5,6,8,9,10,11,12,13,14] (v:= .int .i64 (20+ (q:Int))) (by (simp only [List.getElem?_toArray,List.getElem?_cons_succ,List.getElem?_cons_zero];rfl)) (by kernel_rfl) (by kernel_rfl) (by kernel_rfl) (by kernel_rfl) (by exact fun _ _ _ h=> h) (Or.inl ⟨by rfl, ?_⟩) Qk ?_
    ·intro u hu
     try dsimp only at hu
     go_simp
     try with_reducible rfl
    try simp only [Act.put,upA,upB,upC]
    refine Qj.nx 5 (fun K hK=> ?_)
    rw [if_pos (by rfl)]
    go_simp
    go_at_call 37
    refine (many_at _ ⟨#[110]⟩ _ (20+q) (by push_cast;rfl) (by omega) (by decide)).mono ?_
    rintro e w6 ⟨⟨x,rfl,hx⟩,hw6⟩
    have hx':x.size<=300:=by have e1: (⟨#[110]⟩:ByteArray).size=1:=rfl;rw [e1] at hx;omega
    subst hw6
    dsimp only
    refine hK.out _ _ (fun _=> HX2.out.st.box.c0) ?_
    clear hK K
    try simp only [Act.put,upA,upB,upC]
    have hlits: ∀c∈([⟨#[]⟩,⟨#[45]⟩,⟨#[97,44,98]⟩,⟨#[120,32,121]⟩,x,⟨#[97]⟩]:List ByteArray),c.size<=300:=by
     intro c hc
     simp only [List.mem_cons,List.not_mem_nil,or_false] at hc
     rcases hc with rfl | rfl | rfl | rfl | rfl | rfl <;> first | exact hx' | decide
    refine Qj.tw 6 8 (fun K hK=> ?_) (fun K hK=> ?_)
    ·rw [if_pos (by rfl)]
     go_simp
     have K3:K_ w6 (w6.alloc (.cells #[.string ⟨#[]⟩,.string ⟨#[45]⟩,.string ⟨#[97,44,98]⟩,.string ⟨#[120,32,121]⟩,.string x,.string ⟨#[97]⟩] 9)):= (K_.refl _).alloc _
     have HX3:=Kz (HX2.out.kept K3)
     refine hK.out _ _ (fun _=> HX3.out.st.box.c0) ?_
     clear hK K
     try simp only [Act.put,upA,upB,upC]
     clear Qk K3
     refine Qj.nx 8 (fun K hK=> ?_)
     rw [if_pos (by rfl)]
     go_simp
     go_at_call 13
     refine (pick_at _ rb a cap bs (p+3) _ 6 rfl HX3.out.st.rd (by omega) (by omega) hbl).mono ?_
     rintro e wE ⟨q2,rfl,hq2,hR5,kb5⟩
     have HX4:=Kz (HX3.out.drawn hR5 kb5)
     obtain ⟨c,hc,hcz⟩:=lit_str [⟨#[]⟩,⟨#[45]⟩,⟨#[97,44,98]⟩,⟨#[120,32,121]⟩,x,⟨#[97]⟩] kb5 HX2.out.st.rd.row.lt q2 (by show q2 < 6;omega) hlits
     have lz:w6.heap.size < wE.heap.size:=Nat.lt_of_lt_of_le (by simp) kb5.size
     clear hR5 kb5
     dsimp only
     refine hK.out _ _ (fun _=> HX4.out.st.box.c0) ?_
     clear hK K
     try simp only [Act.put,upA,upB,upC]
     have hqn: (q2:Int) < 6:=by omega
     refine Qj.nx 9 (fun K hK=> ?_)
     go_simp
     refine hK.out _ _ (fun _=> HX4.out.st.box.c0) ?_
     clear hK K
     try simp only [Act.put,upA,upB,upC]
     refine Qj.nx 10 (fun K hK=> ?_)
     go_simp
     refine hK.out _ _ (fun _=> HX4.out.st.box.c0) ?_
     clear hK K
     try simp only [Act.put,upA,upB,upC]
     refine Qj.nx 11 (fun K hK=> ?_)
     go_simp
     have K17:K_ wE (wE.alloc (.cells #[.string c] 9)):= (K_.refl _).alloc _
     have HX5:=Kz (HX4.out.kept K17)
     have HK17:=Kz K17
     refine hK.out _ _ (fun _=> HX5.out.st.box.c0) ?_
     clear hK K
     try simp only [Act.put,upA,upB,upC]
     clear K17
     obtain ⟨ic,hc0,hc1,hc2,hc3⟩:=dInfo_parts Try.dInfoStr
     refine Qj.nx 12 (fun K hK=> ?_)
     refine step_append_lies _ rfl (.tmp 65) (.tmp 75) 45 rfl A0.heap.size 9 ic _ 1 16 Try.underlying45 hc0 hc1 hc2 hc3 rfl (by decide) (.slice aa s.asks.length ca) s.asks.length (s.asks.map Value.string) (by simp [Act.eval]) HX5.out.st.asks ⟨wE.heap.size,0,none⟩ 1 1 [.string c] (by simp [Act.eval]) rfl (boxStr wE c) (oneStr c) (by omega) (by unfold maxLen;omega) (by omega) HX5.out.st.kb.size _ rfl ?_
     intro g2 cap3 w8 hown3 hgr3 hat hlt3
     have HB6:=Kz (HX4.out.st.askBox HK17.out hgr3)
     have HX6:=Kz (HX4.out.addAsk (x:=c) HK17.out hown3 hgr3 (at_blk hat) (by omega) hcz)
     have z6:=HB6.out.row.lt
     have y6:=HB6.out.c0
     obtain ⟨_,f6⟩:=HB6.out.cell (o:=0) (by omega)
     clear hown3 hgr3 hat hlt3
     refine hK.out _ _ (fun _=> HB6.out.c0) ?_
     clear hK K
     try simp only [Act.put,upA,upB,upC]
     have Qk:=HB6.out.c0
     refine Qj.tk 13 Qk ?_
     refine Qj.nx 14 (fun K hK=> ?_)
     go_simp
     refine hK.out _ _ (fun h=> absurd rfl h) ?_
     clear hK K
     try simp only [Act.put,upA,upB,upC]
     refine Qj.dn ?_
     go_wp2_with fail
     go_meet
     exact ⟨cost,_,_,_,p+4,hco,by omega,by omega,HX6.out⟩
    ·rw [if_pos (by rfl)]
     go_simp
     go_at_call 13
     refine (pick_at _ rb a cap bs (p+3) _ 6 rfl HX2.out.st.rd (by omega) (by omega) hbl).mono ?_
     rintro e w7 ⟨q2,rfl,hq2,hR5,kb5⟩
     have HX3:=Kz (HX2.out.drawn hR5 kb5)
     clear hR5 kb5
     dsimp only
     refine hK.out _ _ (fun _=> HX3.out.st.box.c0) ?_
     clear hK K
     try simp only [Act.put,upA,upB,upC]
     clear Qk
     refine Qj.nx 6 (fun K hK=> ?_)
     rw [if_pos (by rfl)]
     go_simp
     have K3:K_ w7 (w7.alloc (.cells #[.string ⟨#[]⟩,.string ⟨#[45]⟩,.string ⟨#[97,44,98]⟩,.string ⟨#[120,32,121]⟩,.string x,.string ⟨#[97]⟩] 9)):= (K_.refl _).alloc _
     have HX4:=Kz (HX3.out.kept K3)
     obtain ⟨c,hc,hcz⟩:=lit_str0 w7 9 [⟨#[]⟩,⟨#[45]⟩,⟨#[97,44,98]⟩,⟨#[120,32,121]⟩,x,⟨#[97]⟩] q2 (by show q2 < 6;omega) hlits
     clear K3
     have hc': (w7.alloc (.cells #[.string ⟨#[]⟩,.string ⟨#[45]⟩,.string ⟨#[97,44,98]⟩,.string ⟨#[120,32,121]⟩,.string x,.string ⟨#[97]⟩] 9)).cell? ⟨w7.heap.size,q2,none⟩=some (.string c):=hc
     have lz:w7.heap.size < (w7.alloc (.cells #[.string ⟨#[]⟩,.string ⟨#[45]⟩,.string ⟨#[97,44,98]⟩,.string ⟨#[120,32,121]⟩,.string x,.string ⟨#[97]⟩] 9)).heap.size:=by simp
     clear hc
     refine hK.out _ _ (fun _=> HX4.out.st.box.c0) ?_
     clear hK K
     try simp only [Act.put,upA,upB,upC]
     generalize hwe:w7.alloc (.cells #[.string ⟨#[]⟩,.string ⟨#[45]⟩,.string ⟨#[97,44,98]⟩,.string ⟨#[120,32,121]⟩,.string x,.string ⟨#[97]⟩] 9)=wE at HX4 hc' lz⊢
     clear hwe
     have hqn: (q2:Int) < 6:=by omega
     refine Qj.nx 9 (fun K hK=> ?_)
     go_simp
     refine hK.out _ _ (fun _=> HX4.out.st.box.c0) ?_
     clear hK K
     try simp only [Act.put,upA,upB,upC]
     refine Qj.nx 10 (fun K hK=> ?_)
     go_simp
     refine hK.out _ _ (fun _=> HX4.out.st.box.c0) ?_
     clear hK K
     try simp only [Act.put,upA,upB,upC]
     refine Qj.nx 11 (fun K hK=> ?_)
     go_simp
     have K17:K_ wE (wE.alloc (.cells #[.string c] 9)):= (K_.refl _).alloc _
     have HX5:=Kz (HX4.out.kept K17)
     have HK17:=Kz K17
     refine hK.out _ _ (fun _=> HX5.out.st.box.c0) ?_
     clear hK K
     try simp only [Act.put,upA,upB,upC]
     clear K17
     obtain ⟨ic,hc0,hc1,hc2,hc3⟩:=dInfo_parts Try.dInfoStr
     refine Qj.nx 12 (fun K hK=> ?_)
     refine step_append_lies _ rfl (.tmp 65) (.tmp 75) 45 rfl A0.heap.size 9 ic _ 1 16 Try.underlying45 hc0 hc1 hc2 hc3 rfl (by decide) (.slice aa s.asks.length ca) s.asks.length (s.asks.map Value.string) (by simp [Act.eval]) HX5.out.st.asks ⟨wE.heap.size,0,none⟩ 1 1 [.string c] (by simp [Act.eval]) rfl (boxStr wE c) (oneStr c) (by omega) (by unfold maxLen;omega) (by omega) HX5.out.st.kb.size _ rfl ?_
     intro g2 cap3 w8 hown3 hgr3 hat hlt3
     have HB6:=Kz (HX4.out.st.askBox HK17.out hgr3)
     have HX6:=Kz (HX4.out.addAsk (x:=c) HK17.out hown3 hgr3 (at_blk hat) (by omega) hcz)
     have z6:=HB6.out.row.lt
     have y6:=HB6.out.c0
     obtain ⟨_,f6⟩:=HB6.out.cell (o:=0) (by omega)
     clear hown3 hgr3 hat hlt3
     refine hK.out _ _ (fun _=> HB6.out.c0) ?_
     clear hK K
     try simp only [Act.put,upA,upB,upC]
     have Qk:=HB6.out.c0
     refine Qj.tk 13 Qk ?_
     refine Qj.nx 14 (fun K hK=> ?_)
     go_simp
     refine hK.out _ _ (fun h=> absurd rfl h) ?_
     clear hK K
     try simp only [Act.put,upA,upB,upC]
     refine Qj.dn ?_
     go_wp2_with fail
     go_meet
     exact ⟨cost,_,_,_,p+4,hco,by omega,by omega,HX6.out⟩
   ·have HX1:=Kz (HX.out.kept ((K_.refl w4).drew))
    have y0:=HX1.out.st.box.c0
    have hal:s.asks.length<=900:=by omega
    go_upto_region 19 with fail
    refine Qj.region (by kernel_rfl) (fun w'=> w'.cell? ⟨w3.heap.size,0,none⟩=some (.slice aa s.asks.length ca)) 9 y0 (fun Qk=> ?_)
    generalize hwd:w4.drew=wd at HX1 Qk⊢
    clear hwd y0
    refine Qj.tk 0 Qk ?_
    refine Qj.tk 1 Qk ?_
    refine Qj.tk 2 Qk ?_
    refine Qj.tk 4 Qk ?_
    refine Qj.tw 3 5 (fun K hK=> ?_) (fun K hK=> ?_)
    ·rw [if_pos (by rfl)]
     go_simp
     have K3:K_ wd (wd.alloc (.cells #[.int .i64 (-1),.int .i64 (s.asks.length:Int),.int .i64 0,.int .i64 1] 3)):= (K_.refl _).alloc _
     have HX2:=Kz (HX1.out.kept K3)
     refine hK.out _ _ (fun _=> HX2.out.st.box.c0) ?_
     clear hK K
     try simp only [Act.put,upA,upB,upC]
     clear Qk K3
     refine Qj.nx 5 (fun K hK=> ?_)
     rw [if_pos (by rfl)]
     go_simp
     go_at_call 13
     refine (pick_at _ rb a cap bs (p+2) _ 4 rfl HX2.out.st.rd (by omega) (by omega) hbl).mono ?_
     rintro e w5 ⟨q,rfl,hq,hR5,kb5⟩
     have HX3:=Kz (HX2.out.drawn hR5 kb5)
     obtain ⟨c,hc,hc1,hc2⟩:=lit_int [-1,(s.asks.length:Int),0,1] kb5 HX1.out.st.rd.row.lt q (by show q < 4;omega) (fun c hc=> by simp at hc;omega)
     have lz:wd.heap.size < w5.heap.size:=Nat.lt_of_lt_of_le (by simp) kb5.size
     clear hR5 kb5
     dsimp only
     refine hK.out _ _ (fun _=> HX3.out.st.box.c0) ?_
     clear hK K
     try simp only [Act.put,upA,upB,upC]
     have hqn: (q:Int) < 4:=by omega
     refine Qj.nx 6 (fun K hK=> ?_)
     go_simp
     refine hK.out _ _ (fun _=> HX3.out.st.box.c0) ?_
     clear hK K
     try simp only [Act.put,upA,upB,upC]
     refine Qj.nx 7 (fun K hK=> ?_)
     go_simp
     refine hK.out _ _ (fun _=> HX3.out.st.box.c0) ?_
     clear hK K
     try simp only [Act.put,upA,upB,upC]
     have Qk:=HX3.out.st.box.c0
     refine Qj.tk 8 Qk ?_
     obtain ⟨_,f1⟩:=HX3.out.st.box.cell (o:=1) (by omega)
     obtain ⟨⟨_,r1⟩,_⟩:=HX3.out.st.box.cell (o:=1) (by omega)
     have rz:=HX3.out.st.box.row.lt
     refine Qj.nx 9 (fun K hK=> ?_)
     go_simp
     refine hK.out _ _ (fun h=> absurd rfl h) ?_
     clear hK K
     try simp only [Act.put,upA,upB,upC]
     refine Qj.dn ?_
     go_wp2_with fail
     go_meet
     exact ⟨cost,_,_,_,p+3,hco,by omega,by omega,HX3.out.on c ⟨hc1,hc2⟩⟩
    ·rw [if_pos (by rfl)]
     go_simp
     go_at_call 13
     refine (pick_at _ rb a cap bs (p+2) _ 4 rfl HX1.out.st.rd (by omega) (by omega) hbl).mono ?_
     rintro e w5 ⟨q,rfl,hq,hR5,kb5⟩
     have HX2:=Kz (HX1.out.drawn hR5 kb5)
     clear hR5 kb5
     dsimp only
     refine hK.out _ _ (fun _=> HX2.out.st.box.c0) ?_
     clear hK K
     try simp only [Act.put,upA,upB,upC]
     clear Qk
     refine Qj.nx 3 (fun K hK=> ?_)
     rw [if_pos (by rfl)]
     go_simp
     have K3:K_ w5 (w5.alloc (.cells #[.int .i64 (-1),.int .i64 (s.asks.length:Int),.int .i64 0,.int .i64 1] 3)):= (K_.refl _).alloc _
     have HX3:=Kz (HX2.out.kept K3)
     obtain ⟨c,hc,hc1,hc2⟩:=lit_int0 w5 3 [-1,(s.asks.length:Int),0,1] q (by show q < 4;omega) (fun c hc=> by simp at hc;omega)
     clear K3
     have hc': (w5.alloc (.cells #[.int .i64 (-1),.int .i64 (s.asks.length:Int),.int .i64 0,.int .i64 1] 3)).cell? ⟨w5.heap.size,q,none⟩=some (.int .i64 c):=hc
     have lz:w5.heap.size < (w5.alloc (.cells #[.int .i64 (-1),.int .i64 (s.asks.length:Int),.int .i64 0,.int .i64 1] 3)).heap.size:=by simp
     clear hc
     refine hK.out _ _ (fun _=> HX3.out.st.box.c0) ?_
     clear hK K
     try simp only [Act.put,upA,upB,upC]
     generalize hwe:w5.alloc (.cells #[.int .i64 (-1),.int .i64 (s.asks.length:Int),.int .i64 0,.int .i64 1] 3)=wE at HX3 hc' lz⊢
     clear hwe
     have hqn: (q:Int) < 4:=by omega
     refine Qj.nx 6 (fun K hK=> ?_)
     go_simp
     refine hK.out _ _ (fun _=> HX3.out.st.box.c0) ?_
     clear hK K
     try simp only [Act.put,upA,upB,upC]
     refine Qj.nx 7 (fun K hK=> ?_)
     go_simp
     refine hK.out _ _ (fun _=> HX3.out.st.box.c0) ?_
     clear hK K
     try simp only [Act.put,upA,upB,upC]
     have Qk:=HX3.out.st.box.c0
     refine Qj.tk 8 Qk ?_
     obtain ⟨_,f1⟩:=HX3.out.st.box.cell (o:=1) (by omega)
     obtain ⟨⟨_,r1⟩,_⟩:=HX3.out.st.box.cell (o:=1) (by omega)
     have rz:=HX3.out.st.box.row.lt
     refine Qj.nx 9 (fun K hK=> ?_)
     go_simp
     refine hK.out _ _ (fun h=> absurd rfl h) ?_
     clear hK K
     try simp only [Act.put,upA,upB,upC]
     refine Qj.dn ?_
     go_wp2_with fail
     go_meet
     exact ⟨cost,_,_,_,p+3,hco,by omega,by omega,HX3.out.on c ⟨hc1,hc2⟩⟩
   ·have HX1:=Kz (HX.out.kept ((K_.refl w4).drew))
    have y0:=HX1.out.c1
    have eL1:IntKind.i64.wrap ((L.length:Int) - 1)= (L.length:Int) - 1:=by simp [IntKind.wrap,IntKind.bits,IntKind.signed];omega
    go_upto_region 21 with fail
    refine Qj.region (by kernel_rfl) (fun w'=> w'.cell? ⟨w1.heap.size,1,none⟩=some (.slice (some ⟨g,0,none⟩) L.length cv)) 13 y0 (fun Qk=> ?_)
    generalize hwd:w4.drew=wd at HX1 Qk⊢
    clear hwd y0
    refine Qj.tk 0 Qk ?_
    refine Qj.tk 1 Qk ?_
    refine Qj.tk 2 Qk ?_
    refine Qj.tk 3 Qk ?_
    refine Qj.tk 4 Qk ?_
    refine Qj.tk 5 Qk ?_
    refine Qj.take 6 [7,10,11,12,13] (v:= .int .i64 ((L.length:Int) - 1)) (by (simp only [List.getElem?_toArray,List.getElem?_cons_succ,List.getElem?_cons_zero];rfl)) (by kernel_rfl) (by kernel_rfl) (by kernel_rfl) (by kernel_rfl) (by exact fun _ _ _ h=> h) (Or.inl ⟨by rfl, ?_⟩) Qk ?_
    ·intro u hu
     try dsimp only at hu
     go_simp
     try with_reducible rfl
    try simp only [Act.put,upA,upB,upC]
    refine Qj.tk 8 Qk ?_
    refine Qj.tw 7 9 (fun K hK=> ?_) (fun K hK=> ?_)
    ·rw [if_pos (by rfl)]
     go_simp
     have K3:K_ wd (wd.alloc (.cells #[.int .i64 (-1),.int .i64 (L.length:Int),.int .i64 ((L.length:Int) - 1)] 3)):= (K_.refl _).alloc _
     have HX2:=Kz (HX1.out.kept K3)
     refine hK.out _ _ (fun _=> HX2.out.c1) ?_
     clear hK K
     try simp only [Act.put,upA,upB,upC]
     clear Qk K3
     refine Qj.nx 9 (fun K hK=> ?_)
     rw [if_pos (by rfl)]
     go_simp
     go_at_call 13
     refine (pick_at _ rb a cap bs (p+2) _ 3 rfl HX2.out.st.rd (by omega) (by omega) hbl).mono ?_
     rintro e w5 ⟨q,rfl,hq,hR5,kb5⟩
     have HX3:=Kz (HX2.out.drawn hR5 kb5)
     obtain ⟨c,hc,hc1,hc2⟩:=lit_int [-1,(L.length:Int),(L.length:Int) - 1] kb5 HX1.out.st.rd.row.lt q (by show q < 3;omega) (fun c hc=> by simp at hc;omega)
     have lz:wd.heap.size < w5.heap.size:=Nat.lt_of_lt_of_le (by simp) kb5.size
     clear hR5 kb5
     dsimp only
     refine hK.out _ _ (fun _=> HX3.out.c1) ?_
     clear hK K
     try simp only [Act.put,upA,upB,upC]
     have hqn: (q:Int) < 3:=by omega
     refine Qj.nx 10 (fun K hK=> ?_)
     go_simp
     refine hK.out _ _ (fun _=> HX3.out.c1) ?_
     clear hK K
     try simp only [Act.put,upA,upB,upC]
     refine Qj.nx 11 (fun K hK=> ?_)
     go_simp
     refine hK.out _ _ (fun _=> HX3.out.c1) ?_
     clear hK K
     try simp only [Act.put,upA,upB,upC]
     have Qk:=HX3.out.c1
     refine Qj.tk 12 Qk ?_
     obtain ⟨_,f1⟩:=HX3.out.st.box.cell (o:=3) (by omega)
     obtain ⟨⟨_,r1⟩,_⟩:=HX3.out.st.box.cell (o:=3) (by omega)
     have rz:=HX3.out.st.box.row.lt
     refine Qj.nx 13 (fun K hK=> ?_)
     go_simp
     refine hK.out _ _ (fun h=> absurd rfl h) ?_
     clear hK K
     try simp only [Act.put,upA,upB,upC]
     refine Qj.dn ?_
     go_wp2_with fail
     go_meet
     exact ⟨cost,_,_,_,p+3,hco,by omega,by omega,HX3.out.els c (in64_of ⟨hc1,hc2⟩)⟩
    ·rw [if_pos (by rfl)]
     go_simp
     go_at_call 13
     refine (pick_at _ rb a cap bs (p+2) _ 3 rfl HX1.out.st.rd (by omega) (by omega) hbl).mono ?_
     rintro e w5 ⟨q,rfl,hq,hR5,kb5⟩
     have HX2:=Kz (HX1.out.drawn hR5 kb5)
     clear hR5 kb5
     dsimp only
     refine hK.out _ _ (fun _=> HX2.out.c1) ?_
     clear hK K
     try simp only [Act.put,upA,upB,upC]
     clear Qk
     refine Qj.nx 7 (fun K hK=> ?_)
     rw [if_pos (by rfl)]
     go_simp
     have K3:K_ w5 (w5.alloc (.cells #[.int .i64 (-1),.int .i64 (L.length:Int),.int .i64 ((L.length:Int) - 1)] 3)):= (K_.refl _).alloc _
     have HX3:=Kz (HX2.out.kept K3)
     obtain ⟨c,hc,hc1,hc2⟩:=lit_int0 w5 3 [-1,(L.length:Int),(L.length:Int) - 1] q (by show q < 3;omega) (fun c hc=> by simp at hc;omega)
     clear K3
     have hc': (w5.alloc (.cells #[.int .i64 (-1),.int .i64 (L.length:Int),.int .i64 ((L.length:Int) - 1)] 3)).cell? ⟨w5.heap.size,q,none⟩=some (.int .i64 c):=hc
     have lz:w5.heap.size < (w5.alloc (.cells #[.int .i64 (-1),.int .i64 (L.length:Int),.int .i64 ((L.length:Int) - 1)] 3)).heap.size:=by simp
     clear hc
     refine hK.out _ _ (fun _=> HX3.out.c1) ?_
     clear hK K
     try simp only [Act.put,upA,upB,upC]
     generalize hwe:w5.alloc (.cells #[.int .i64 (-1),.int .i64 (L.length:Int),.int .i64 ((L.length:Int) - 1)] 3)=wE at HX3 hc' lz⊢
     clear hwe
     have hqn: (q:Int) < 3:=by omega
     refine Qj.nx 10 (fun K hK=> ?_)
     go_simp
     refine hK.out _ _ (fun _=> HX3.out.c1) ?_
     clear hK K
     try simp only [Act.put,upA,upB,upC]
     refine Qj.nx 11 (fun K hK=> ?_)
     go_simp
     refine hK.out _ _ (fun _=> HX3.out.c1) ?_
     clear hK K
     try simp only [Act.put,upA,upB,upC]
     have Qk:=HX3.out.c1
     refine Qj.tk 12 Qk ?_
     obtain ⟨_,f1⟩:=HX3.out.st.box.cell (o:=3) (by omega)
     obtain ⟨⟨_,r1⟩,_⟩:=HX3.out.st.box.cell (o:=3) (by omega)
     have rz:=HX3.out.st.box.row.lt
     refine Qj.nx 13 (fun K hK=> ?_)
     go_simp
     refine hK.out _ _ (fun h=> absurd rfl h) ?_
     clear hK K
     try simp only [Act.put,upA,upB,upC]
     refine Qj.dn ?_
     go_wp2_with fail
     go_meet
     exact ⟨cost,_,_,_,p+3,hco,by omega,by omega,HX3.out.els c (in64_of ⟨hc1,hc2⟩)⟩
   ·have HX1:=Kz (HX.out.kept ((K_.refl w4).drew))
    have y0:=HX1.out.c1
    have eL1:IntKind.i64.wrap ((L.length:Int) - 1)= (L.length:Int) - 1:=by simp [IntKind.wrap,IntKind.bits,IntKind.signed];omega
    go_upto_region 23 with fail
    refine Qj.region (by kernel_rfl) (fun w'=> w'.cell? ⟨w1.heap.size,1,none⟩=some (.slice (some ⟨g,0,none⟩) L.length cv)) 13 y0 (fun Qk=> ?_)
    generalize hwd:w4.drew=wd at HX1 Qk⊢
    clear hwd y0
    refine Qj.tk 0 Qk ?_
    refine Qj.tk 1 Qk ?_
    refine Qj.tk 2 Qk ?_
    refine Qj.tk 3 Qk ?_
    refine Qj.tk 4 Qk ?_
    refine Qj.tk 5 Qk ?_
    refine Qj.take 6 [7,10,11,12,13] (v:= .int .i64 ((L.length:Int) - 1)) (by (simp only [List.getElem?_toArray,List.getElem?_cons_succ,List.getElem?_cons_zero];rfl)) (by kernel_rfl) (by kernel_rfl) (by kernel_rfl) (by kernel_rfl) (by exact fun _ _ _ h=> h) (Or.inl ⟨by rfl, ?_⟩) Qk ?_
    ·intro u hu
     try dsimp only at hu
     go_simp
     try with_reducible rfl
    try simp only [Act.put,upA,upB,upC]
    refine Qj.tk 8 Qk ?_
    refine Qj.tw 7 9 (fun K hK=> ?_) (fun K hK=> ?_)
    ·rw [if_pos (by rfl)]
     go_simp
     have K3:K_ wd (wd.alloc (.cells #[.int .i64 (-2),.int .i64 (-1),.int .i64 (L.length:Int),.int .i64 ((L.length:Int) - 1)] 3)):= (K_.refl _).alloc _
     have HX2:=Kz (HX1.out.kept K3)
     refine hK.out _ _ (fun _=> HX2.out.c1) ?_
     clear hK K
     try simp only [Act.put,upA,upB,upC]
     clear Qk K3
     refine Qj.nx 9 (fun K hK=> ?_)
     rw [if_pos (by rfl)]
     go_simp
     go_at_call 13
     refine (pick_at _ rb a cap bs (p+2) _ 4 rfl HX2.out.st.rd (by omega) (by omega) hbl).mono ?_
     rintro e w5 ⟨q,rfl,hq,hR5,kb5⟩
     have HX3:=Kz (HX2.out.drawn hR5 kb5)
     obtain ⟨c,hc,hc1,hc2⟩:=lit_int [-2, -1,(L.length:Int),(L.length:Int) - 1] kb5 HX1.out.st.rd.row.lt q (by show q < 4;omega) (fun c hc=> by simp at hc;omega)
     have lz:wd.heap.size < w5.heap.size:=Nat.lt_of_lt_of_le (by simp) kb5.size
     clear hR5 kb5
     dsimp only
     refine hK.out _ _ (fun _=> HX3.out.c1) ?_
     clear hK K
     try simp only [Act.put,upA,upB,upC]
     have hqn: (q:Int) < 4:=by omega
     refine Qj.nx 10 (fun K hK=> ?_)
     go_simp
     refine hK.out _ _ (fun _=> HX3.out.c1) ?_
     clear hK K
     try simp only [Act.put,upA,upB,upC]
     refine Qj.nx 11 (fun K hK=> ?_)
     go_simp
     refine hK.out _ _ (fun _=> HX3.out.c1) ?_
     clear hK K
     try simp only [Act.put,upA,upB,upC]
     have Qk:=HX3.out.c1
     refine Qj.tk 12 Qk ?_
     obtain ⟨_,f1⟩:=HX3.out.st.box.cell (o:=4) (by omega)
     obtain ⟨⟨_,r1⟩,_⟩:=HX3.out.st.box.cell (o:=4) (by omega)
     have rz:=HX3.out.st.box.row.lt
     refine Qj.nx 13 (fun K hK=> ?_)
     go_simp
     refine hK.out _ _ (fun h=> absurd rfl h) ?_
     clear hK K
     try simp only [Act.put,upA,upB,upC]
     refine Qj.dn ?_
     go_wp2_with fail
     go_meet
     exact ⟨cost,_,_,_,p+3,hco,by omega,by omega,HX3.out.fall c ⟨hc1,hc2⟩⟩
    ·rw [if_pos (by rfl)]
     go_simp
     go_at_call 13
     refine (pick_at _ rb a cap bs (p+2) _ 4 rfl HX1.out.st.rd (by omega) (by omega) hbl).mono ?_
     rintro e w5 ⟨q,rfl,hq,hR5,kb5⟩
     have HX2:=Kz (HX1.out.drawn hR5 kb5)
     clear hR5 kb5
     dsimp only
     refine hK.out _ _ (fun _=> HX2.out.c1) ?_
     clear hK K
     try simp only [Act.put,upA,upB,upC]
     clear Qk
     refine Qj.nx 7 (fun K hK=> ?_)
     rw [if_pos (by rfl)]
     go_simp
     have K3:K_ w5 (w5.alloc (.cells #[.int .i64 (-2),.int .i64 (-1),.int .i64 (L.length:Int),.int .i64 ((L.length:Int) - 1)] 3)):= (K_.refl _).alloc _
     have HX3:=Kz (HX2.out.kept K3)
     obtain ⟨c,hc,hc1,hc2⟩:=lit_int0 w5 3 [-2, -1,(L.length:Int),(L.length:Int) - 1] q (by show q < 4;omega) (fun c hc=> by simp at hc;omega)
     clear K3
     have hc': (w5.alloc (.cells #[.int .i64 (-2),.int .i64 (-1),.int .i64 (L.length:Int),.int .i64 ((L.length:Int) - 1)] 3)).cell? ⟨w5.heap.size,q,none⟩=some (.int .i64 c):=hc
     have lz:w5.heap.size < (w5.alloc (.cells #[.int .i64 (-2),.int .i64 (-1),.int .i64 (L.length:Int),.int .i64 ((L.length:Int) - 1)] 3)).heap.size:=by simp
     clear hc
     refine hK.out _ _ (fun _=> HX3.out.c1) ?_
     clear hK K
     try simp only [Act.put,upA,upB,upC]
     generalize hwe:w5.alloc (.cells #[.int .i64 (-2),.int .i64 (-1),.int .i64 (L.length:Int),.int .i64 ((L.length:Int) - 1)] 3)=wE at HX3 hc' lz⊢
     clear hwe
     have hqn: (q:Int) < 4:=by omega
     refine Qj.nx 10 (fun K hK=> ?_)
     go_simp
     refine hK.out _ _ (fun _=> HX3.out.c1) ?_
     clear hK K
     try simp only [Act.put,upA,upB,upC]
     refine Qj.nx 11 (fun K hK=> ?_)
     go_simp
     refine hK.out _ _ (fun _=> HX3.out.c1) ?_
     clear hK K
     try simp only [Act.put,upA,upB,upC]
     have Qk:=HX3.out.c1
     refine Qj.tk 12 Qk ?_
     obtain ⟨_,f1⟩:=HX3.out.st.box.cell (o:=4) (by omega)
     obtain ⟨⟨_,r1⟩,_⟩:=HX3.out.st.box.cell (o:=4) (by omega)
     have rz:=HX3.out.st.box.row.lt
     refine Qj.nx 13 (fun K hK=> ?_)
     go_simp
     refine hK.out _ _ (fun h=> absurd rfl h) ?_
     clear hK K
     try simp only [Act.put,upA,upB,upC]
     refine Qj.dn ?_
     go_wp2_with fail
     go_meet
     exact ⟨cost,_,_,_,p+3,hco,by omega,by omega,HX3.out.fall c ⟨hc1,hc2⟩⟩
   ·have HX1:=Kz (HX.out.kept ((K_.refl w4).drew))
    have y0:=HX1.out.st.box.c2
    have y1:=HX1.out.c1
    have eL2:IntKind.i64.wrap ((L.length:Int)+2)= (L.length:Int)+2:=by simp [IntKind.wrap,IntKind.bits,IntKind.signed];omega
    go_upto_region 25 with fail
    refine Qj.region (by kernel_rfl) (fun w'=> w'.cell? ⟨w3.heap.size,2,none⟩=some (.slice ac s.cases.length cc)∧w'.cell? ⟨w1.heap.size,1,none⟩=some (.slice (some ⟨g,0,none⟩) L.length cv)) 17 ⟨y0,y1⟩ (fun Qk=> ?_)
    generalize hwd:w4.drew=wd at HX1 Qk⊢
    clear hwd y0 y1
    refine Qj.tk 0 Qk ?_
    refine Qj.tk 1 Qk ?_
    refine Qj.tk 2 Qk ?_
    refine Qj.tk 6 Qk ?_
    refine Qj.tk 7 Qk ?_
    refine Qj.tk 8 Qk ?_
    refine Qj.tk 9 Qk ?_
    refine Qj.take 10 [11,12,13,14,15,16,17] (v:= .int .i64 ((L.length:Int)+2)) (by (simp only [List.getElem?_toArray,List.getElem?_cons_succ,List.getElem?_cons_zero];rfl)) (by kernel_rfl) (by kernel_rfl) (by kernel_rfl) (by kernel_rfl) (by exact fun _ _ _ h=> h) (Or.inl ⟨by rfl, ?_⟩) Qk ?_
    ·intro u hu
     try dsimp only at hu
     go_simp
     try with_reducible rfl
    try simp only [Act.put,upA,upB,upC]
    refine Qj.nx 3 (fun K hK=> ?_)
    rw [if_pos (by rfl)]
    go_simp
    go_at_call 13
    refine (pick_at _ rb a cap bs (p+2) _ 2 rfl HX1.out.st.rd (by omega) (by omega) hbl).mono ?_
    rintro e w5 ⟨q,rfl,hq,hR5,kb5⟩
    have HX2:=Kz (HX1.out.drawn hR5 kb5)
    clear hR5 kb5
    dsimp only
    refine hK.out _ _ (fun _=> ⟨HX2.out.st.box.c2,HX2.out.c1⟩) ?_
    clear hK K
    try simp only [Act.put,upA,upB,upC]
    clear Qk HX1
    have Qk:= (show _∧_ from ⟨HX2.out.st.box.c2,HX2.out.c1⟩)
    have e4:IntKind.i64.wrap (200+ (q:Int))=200+ (q:Int):=by simp [IntKind.wrap,IntKind.bits,IntKind.signed];omega
    refine Qj.take 4 [5,11,12,13,14,15,16,17] (v:= .int .i64 (200+ (q:Int))) (by (simp only [List.getElem?_toArray,List.getElem?_cons_succ,List.getElem?_cons_zero];rfl)) (by kernel_rfl) (by kernel_rfl) (by kernel_rfl) (by kernel_rfl) (by exact fun _ _ _ h=> h) (Or.inl ⟨by rfl, ?_⟩) Qk ?_
    ·intro u hu
     try dsimp only at hu
     go_simp
     try with_reducible rfl
    try simp only [Act.put,upA,upB,upC]
    refine Qj.nx 5 (fun K hK=> ?_)
    rw [if_pos (by rfl)]
    go_simp
    go_at_call 37
    refine (many_at _ ⟨#[116]⟩ _ (200+q) (by push_cast;rfl) (by omega) (by decide)).mono ?_
    rintro e w6 ⟨⟨x,rfl,hx⟩,hw6⟩
    have hx':x.size<=300:=by have e1: (⟨#[116]⟩:ByteArray).size=1:=rfl;rw [e1] at hx;omega
    subst hw6
    dsimp only
    refine hK.out _ _ (fun _=> ⟨HX2.out.st.box.c2,HX2.out.c1⟩) ?_
    clear hK K
    try simp only [Act.put,upA,upB,upC]
    refine Qj.nx 11 (fun K hK=> ?_)
    rw [if_pos (by rfl)]
    go_simp
    go_at_call 13
    refine (pick_at _ rb a cap bs (p+3) _ (L.length+2) (by push_cast;rfl) HX2.out.st.rd (by omega) (by omega) hbl).mono ?_
    rintro e w7 ⟨q2,rfl,hq2,hR7,kb7⟩
    have HX3:=Kz (HX2.out.drawn hR7 kb7)
    clear hR7 kb7
    dsimp only
    refine hK.out _ _ (fun _=> ⟨HX3.out.st.box.c2,HX3.out.c1⟩) ?_
    clear hK K
    try simp only [Act.put,upA,upB,upC]
    clear Qk
    have Qk:= (show _∧_ from ⟨HX3.out.st.box.c2,HX3.out.c1⟩)
    have e12:IntKind.i64.wrap ((q2:Int) - 1)= (q2:Int) - 1:=by simp [IntKind.wrap,IntKind.bits,IntKind.signed];omega
    refine Qj.take 12 [13,14,15,16,17] (v:= .int .i64 ((q2:Int) - 1)) (by (simp only [List.getElem?_toArray,List.getElem?_cons_succ,List.getElem?_cons_zero];rfl)) (by kernel_rfl) (by kernel_rfl) (by kernel_rfl) (by kernel_rfl) (by exact fun _ _ _ h=> h) (Or.inl ⟨by rfl, ?_⟩) Qk ?_
    ·intro u hu
     try dsimp only at hu
     go_simp
     try with_reducible rfl
    try simp only [Act.put,upA,upB,upC]
    refine Qj.tk 13 Qk ?_
    refine Qj.nx 14 (fun K hK=> ?_)
    go_simp
    have K17:K_ w7 (w7.alloc (.cells #[.string x,.int .i64 ((q2:Int) - 1)] 72)):= (K_.refl _).alloc _
    have HX4:=Kz (HX3.out.kept K17)
    have HK17:=Kz K17
    refine hK.out _ _ (fun _=> ⟨HX4.out.st.box.c2,HX4.out.c1⟩) ?_
    clear hK K
    try simp only [Act.put,upA,upB,upC]
    clear Qk K17
    obtain ⟨ic,hc0,hc1,hc2,hc3⟩:=dInfo_parts Try.dInfoCase
    refine Qj.nx 15 (fun K hK=> ?_)
    refine step_append_lies _ rfl (.tmp 122) (.tmp 135) 66 rfl A0.heap.size 72 ic _ 2 24 Try.underlying66 hc0 hc1 hc2 hc3 rfl (by decide) (.slice ac s.cases.length cc) s.cases.length (dCaseCells s.cases) (by simp [Act.eval]) HX4.out.st.cases ⟨w7.heap.size,0,none⟩ 1 1 [.string x,.int .i64 ((q2:Int) - 1)] (by simp [Act.eval]) rfl (fun j u hu=> by rw [Addr.add_mid];exact Zx w7 #[.string x,.int .i64 ((q2:Int) - 1)] 72 j u (by simpa using hu)) (fun u hu=> by simp at hu;rcases hu with rfl | rfl <;> rfl) (by omega) (by unfold maxLen;omega) (by omega) HX4.out.st.kb.size _ rfl ?_
    intro g2 cap3 w8 hown3 hgr3 hat hlt3
    have HB6:=Kz (HX3.out.st.caseBox HK17.out hgr3)
    have HX5:=Kz (HX3.out.addCase (x:= ⟨x,(q2:Int) - 1⟩) HK17.out hown3 hgr3 (at_blk hat) (by omega) ⟨hx',by show -1000<=(q2:Int) - 1;omega,by show (q2:Int) - 1<=1000;omega⟩)
    have HC1:=Kz (HX3.out.grownC1 HK17.out hgr3)
    have z6:=HB6.out.row.lt
    have y6:=HB6.out.c2
    obtain ⟨_,f6⟩:=HB6.out.cell (o:=2) (by omega)
    clear hown3 hgr3 hat hlt3
    refine hK.out _ _ (fun _=> ⟨HB6.out.c2,HC1.out⟩) ?_
    clear hK K
    try simp only [Act.put,upA,upB,upC]
    have Qk:= (show _∧_ from ⟨HB6.out.c2,HC1.out⟩)
    refine Qj.tk 16 Qk ?_
    refine Qj.nx 17 (fun K hK=> ?_)
    go_simp
    refine hK.out _ _ (fun h=> absurd rfl h) ?_
    clear hK K
    try simp only [Act.put,upA,upB,upC]
    refine Qj.dn ?_
    go_wp2_with fail
    go_meet
    exact ⟨cost,_,_,_,p+4,hco,by omega,by omega,HX5.out⟩
   ·go_wp2_with fail
    refine (pick_at _ rb a cap bs (p+2) _ 2 rfl HX.out.st.rd (by omega) (by omega) hbl).mono ?_
    rintro e w5 ⟨q,rfl,hq,hR5,kb5⟩
    have HX2:=Kz (HX.out.drawn hR5 kb5)
    clear hR5 kb5 hsb y5 y6 y3 f5 f6 f3 f7
    go_wp2
    go_loopg [] (5+q - s.cases.length) (fun gg wr=> ∃(vc:Value) (s':Xz),gg=5+q - s'.cases.length∧SpSt (mN+10) A0 wr rb w1.heap.size w3.heap.size a cap bs (p+3) cost (.slice (some ⟨g,0,none⟩) L.length cv) L xs k (.slice aa s.asks.length ca) vc s')
    case atStart=> exact ⟨_,s,rfl,HX2.out⟩
    case round=>
     clear HX2
     obtain ⟨vc,s',hgg,hS⟩:=hrel
     have HS:=Kz hS
     clear hS
     obtain ⟨ac',cc',rfl⟩:=own_slice HS.out.st.cases
     have y2:=HS.out.st.box.c2
     have yz:=HS.out.st.box.row.lt
     by_cases hlt: (s'.cases.length:Int) < 5+ (q:Int)
     ·have k1:K_ wr (wr.alloc (.cells #[.string ⟨#[118,48,40,41]⟩,.int .i64 0] 72)):= (K_.refl _).alloc _
      have HK1:=Kz k1
      have HOw:=Kz (HS.out.kept k1).st.cases
      have hbz:A0.heap.size<=(wr.alloc (.cells #[.string ⟨#[118,48,40,41]⟩,.int .i64 0] 72)).heap.size:= (HS.out.kept k1).st.kb.size
      have HNw:Hid (∀j u,([.string ⟨#[118,48,40,41]⟩,.int .i64 0]:List Value)[j]? =some u->(wr.alloc (.cells #[.string ⟨#[118,48,40,41]⟩,.int .i64 0] 72)).cell? ((⟨wr.heap.size,0,none⟩:Addr).add j)=some u):=fun j u hu=> by rw [Addr.add_mid];exact Zx wr #[.string ⟨#[118,48,40,41]⟩,.int .i64 0] 72 j u hu
      have HOne:Hid (∀u∈([.string ⟨#[118,48,40,41]⟩,.int .i64 0]:List Value),u.oneCell'=true):=fun u hu=> by simp at hu;rcases hu with rfl | rfl <;> rfl
      obtain ⟨ic,hc0,hc1,hc2,hc3⟩:=dInfo_parts Try.dInfoCase
      clear k1
      go_wp2_with (at_builtin;refine wpList_append_lies _ rfl (.tmp 149) (.tmp 151) 66 rfl A0.heap.size 72 ic _ 2 24 Try.underlying66 hc0 hc1 hc2 hc3 rfl (by decide) (.slice ac' s'.cases.length cc') s'.cases.length (dCaseCells s'.cases) rfl HOw.out ⟨wr.heap.size,0,none⟩ 1 1 [.string ⟨#[118,48,40,41]⟩,.int .i64 0] rfl rfl HNw.out HOne.out (by omega) (by unfold maxLen;omega) (by omega) hbz _ rfl ?_;intro g2 cap3 w2 hown2 hgr hat hlt3;have hb2:=HS.out.st.caseBox HK1.out hgr;have y4:=hb2.c2;have z2:=hb2.row.lt;obtain ⟨_,f2⟩:=hb2.cell (o:=2) (by omega);have HO2:=Kz hown2;have HG2:=Kz hgr;have HA2:=Kz hat;clear hown2 hgr hb2 hat hlt3)
      go_roundg (gk - 1)
      case measure=> omega
      case rel=> exact ⟨_,{ s' with cases:=s'.cases++ [⟨⟨#[118,48,40,41]⟩,0⟩] },by show gk - 1=5+q - (s'.cases++ [_]).length;rw [List.length_append];show gk - 1=5+q - (s'.cases.length+1);omega,HS.out.addCase (x:= ⟨⟨#[118,48,40,41]⟩,0⟩) HK1.out HO2.out HG2.out (at_blk HA2.out) (by omega) ⟨by decide,by decide,by decide⟩⟩
     ·go_wp2_with fail
      go_meet
      exact ⟨cost,_,_,s',p+3,hco,by omega,by omega,HS.out⟩
   ·go_wp2_with fail
    refine (pick_at _ rb a cap bs (p+2) _ 2 rfl HX.out.st.rd (by omega) (by omega) hbl).mono ?_
    rintro e w5 ⟨q,rfl,hq,hR5,kb5⟩
    have HX2:=Kz (HX.out.drawn hR5 kb5)
    clear hR5 kb5 hsb y5 y6 y3 f5 f6 f3 f7
    go_wp2
    go_loopg [10] (5+q - s.asks.length) (fun gg x wr=> ∃(i:Nat) (va:Value) (s':Xz),x= .int .i64 (i:Int)∧gg=5+q - s'.asks.length∧i+s.asks.length=s'.asks.length∧SpSt (mN+10) A0 wr rb w1.heap.size w3.heap.size a cap bs (p+3) cost (.slice (some ⟨g,0,none⟩) L.length cv) L xs k va (.slice ac s.cases.length cc) s')
    case atStart=> exact ⟨0,_,s,rfl,rfl,by omega,HX2.out⟩
    case round=>
     clear HX2
     obtain ⟨i,va,s',rfl,hgg,hi,hS⟩:=hrel
     have HS:=Kz hS
     have HI:=Kz hi
     clear hS hi
     obtain ⟨aa',ca',rfl⟩:=own_slice HS.out.st.asks
     have y2:=HS.out.st.box.c0
     have yz:=HS.out.st.box.row.lt
     by_cases hlt: (s'.asks.length:Int) < 5+ (q:Int)
     ·have hi9:i < 10:=by have:=HI.out;omega
      have HS1:=Kz (HS.out.kept ((K_.refl wr).drew))
      have y0:=HS1.out.st.box.c0
      go_upto_region 35 with fail
      refine Qj.region (by kernel_rfl) (fun w'=> w'.cell? ⟨w3.heap.size,0,none⟩=some (.slice aa' s'.asks.length ca')) 8 y0 (fun Qk=> ?_)
      generalize hwd:wr.drew=wd at HS1 Qk⊢
      clear hwd y0
      refine Qj.tk 0 Qk ?_
      refine Qj.tk 1 Qk ?_
      refine Qj.tk 2 Qk ?_
      refine Qj.nx 3 (fun K hK=> ?_)
      rw [if_pos (by rfl)]
      go_simp
      go_at_call 35
      refine (dec_small _ i hi9).mono ?_
      rintro e w12 ⟨t,rfl,ht,k12⟩
      have HS2:=Kz (HS1.out.kept k12)
      clear k12
      dsimp only
      refine hK.out _ _ (fun _=> HS2.out.st.box.c0) ?_
      clear hK K
      try simp only [Act.put,upA,upB,upC]
      clear Qk HS1
      have Qk:=HS2.out.st.box.c0
      obtain ⟨tx,htx⟩: ∃tx:ByteArray,(⟨#[109,97,110,121]⟩:ByteArray)++t=tx:= ⟨_,rfl⟩
      have htz:tx.size<=300:=by rw [<-htx,ByteArray.size_append];show 4+t.size<=300;omega
      have f5: ¬9223372036854775807 < 4+t.size:=by omega
      refine Qj.take 4 [5,6,7,8] (v:= .string tx) (by (simp only [List.getElem?_toArray,List.getElem?_cons_succ,List.getElem?_cons_zero];rfl)) (by kernel_rfl) (by kernel_rfl) (by kernel_rfl) (by kernel_rfl) (by exact fun _ _ _ h=> h) (Or.inl ⟨by rfl, ?_⟩) Qk ?_
      ·intro u hu
       try dsimp only at hu
       go_simp
       try with_reducible rfl
      try simp only [Act.put,upA,upB,upC]
      clear htx f5 ht
      refine Qj.nx 5 (fun K hK=> ?_)
      go_simp
      have K17:K_ w12 (w12.alloc (.cells #[.string tx] 9)):= (K_.refl _).alloc _
      have HS5:=Kz (HS2.out.kept K17)
      have HK17:=Kz K17
      refine hK.out _ _ (fun _=> HS5.out.st.box.c0) ?_
      clear hK K
      try simp only [Act.put,upA,upB,upC]
      clear K17 Qk
      obtain ⟨ic,hc0,hc1,hc2,hc3⟩:=dInfo_parts Try.dInfoStr
      refine Qj.nx 6 (fun K hK=> ?_)
      refine step_append_lies _ rfl (.tmp 167) (.tmp 171) 45 rfl A0.heap.size 9 ic _ 1 16 Try.underlying45 hc0 hc1 hc2 hc3 rfl (by decide) (.slice aa' s'.asks.length ca') s'.asks.length (s'.asks.map Value.string) (by simp [Act.eval]) HS5.out.st.asks ⟨w12.heap.size,0,none⟩ 1 1 [.string tx] (by simp [Act.eval]) rfl (boxStr w12 tx) (oneStr tx) (by omega) (by unfold maxLen;omega) (by omega) HS5.out.st.kb.size _ rfl ?_
      intro g2 cap3 w8 hown3 hgr3 hat hlt3
      have HB6:=Kz (HS2.out.st.askBox HK17.out hgr3)
      have HS6:=Kz (HS2.out.addAsk (x:=tx) HK17.out hown3 hgr3 (at_blk hat) (by omega) htz)
      have z6:=HB6.out.row.lt
      have y6:=HB6.out.c0
      obtain ⟨_,f6⟩:=HB6.out.cell (o:=0) (by omega)
      clear hown3 hgr3 hat hlt3
      refine hK.out _ _ (fun _=> HB6.out.c0) ?_
      clear hK K
      try simp only [Act.put,upA,upB,upC]
      have Qk:=HB6.out.c0
      refine Qj.tk 7 Qk ?_
      refine Qj.nx 8 (fun K hK=> ?_)
      go_simp
      refine hK.out _ _ (fun h=> absurd rfl h) ?_
      clear hK K
      try simp only [Act.put,upA,upB,upC]
      refine Qj.dn ?_
      go_wp2
      go_roundg (gk - 1)
      case measure=> omega
      case rel=> exact ⟨i+1,_,{ s' with asks:=s'.asks++ [tx] },by go_num,by show gk - 1=5+q - (s'.asks++ [_]).length;rw [List.length_append];show gk - 1=5+q - (s'.asks.length+1);omega,by show i+1+s.asks.length= (s'.asks++ [_]).length;rw [List.length_append];have:=HI.out;show i+1+s.asks.length=s'.asks.length+1;omega,HS6.out⟩
     ·go_wp2_with fail
      go_meet
      exact ⟨cost,_,_,s',p+3,hco,by omega,by omega,HS.out⟩
   ·have HAc:=Kz (HX.out.act HPk4.out)
    go_wp2_with fail
    refine (pick_at _ rb a cap bs (p+2) _ 2 rfl HAc.out.rd (by omega) (by omega) hbl).mono ?_
    rintro e w5 ⟨q,rfl,hq,hR5,kb5⟩
    have HA2:=Kz (HAc.out.drawn hR5 kb5)
    clear hR5 kb5 hsb y5 y6 y3 f5 f6 f3 f7 HAc
    go_wp2
    go_loopg [] (20+q - L.length) (fun gg wr=> ∃(v':Value) (L':List Xz) (xs':List Value),gg=20+q - L'.length∧L'.length<=21∧AStN (mN+10) A0 wr rb w1.heap.size a cap bs (p+3) cost v' L' xs')
    case atStart=> exact ⟨_,L,xs,rfl,hL,HA2.out⟩
    case round=>
     clear HA2
     obtain ⟨v',L',xs',hgg,hL',hS⟩:=hrel
     have HS:=Kz hS
     clear hS
     obtain ⟨av,cv',rfl⟩:=own_slice HS.out.own
     have y1:=HS.out.c1
     have yz:=HS.out.row.lt
     by_cases hlt: (L'.length:Int) < 20+ (q:Int)
     ·have k1:K_ wr (wr.alloc (.cells #[.slice none 0 0,.int .i64 0,.slice none 0 0,.int .i64 0,.int .i64 0,.bool true,.bool false,.string ⟨#[]⟩] 68)):= (K_.refl _).alloc _
      have HK1:=Kz k1
      have HOw:=Kz (HS.out.kept k1).own
      have hbz:A0.heap.size<=(wr.alloc (.cells #[.slice none 0 0,.int .i64 0,.slice none 0 0,.int .i64 0,.int .i64 0,.bool true,.bool false,.string ⟨#[]⟩] 68)).heap.size:= (HS.out.kept k1).kb.size
      have HNw:Hid (∀j u,([.slice none 0 0,.int .i64 0,.slice none 0 0,.int .i64 0,.int .i64 0,.bool true,.bool false,.string ⟨#[]⟩]:List Value)[j]? =some u->(wr.alloc (.cells #[.slice none 0 0,.int .i64 0,.slice none 0 0,.int .i64 0,.int .i64 0,.bool true,.bool false,.string ⟨#[]⟩] 68)).cell? ((⟨wr.heap.size,0,none⟩:Addr).add j)=some u):=fun j u hu=> by rw [Addr.add_mid];exact Zx wr #[.slice none 0 0,.int .i64 0,.slice none 0 0,.int .i64 0,.int .i64 0,.bool true,.bool false,.string ⟨#[]⟩] 68 j u hu
      have HOne:Hid (∀u∈([.slice none 0 0,.int .i64 0,.slice none 0 0,.int .i64 0,.int .i64 0,.bool true,.bool false,.string ⟨#[]⟩]:List Value),u.oneCell'=true):=d_step_one ⟨[],0,[],0,0,true,false,⟨#[]⟩⟩ none 0 none 0
      obtain ⟨ic,hc0,hc1,hc2,hc3⟩:=dInfo_parts Try.dInfoStep
      clear k1
      go_wp2_with (at_builtin;refine wpList_append_own _ rfl (.tmp 185) (.tmp 187) 26 rfl A0.heap.size 68 ic _ 8 96 Try.underlying26 hc0 hc1 hc2 hc3 rfl (by decide) (.slice av L'.length cv') L'.length xs' rfl HOw.out ⟨wr.heap.size,0,none⟩ 1 1 [.slice none 0 0,.int .i64 0,.slice none 0 0,.int .i64 0,.int .i64 0,.bool true,.bool false,.string ⟨#[]⟩] rfl rfl HNw.out HOne.out (by unfold maxLen;omega) (by omega) hbz ?_;intro v2 w2 hown2 hgr _;have hb2:=HS.out.pushRow HK1.out hgr;have z2:=hb2.2.lt;obtain ⟨⟨_,y2⟩,f2⟩:=hb2.2.row.at (i:=1) (by omega);have HO2:=Kz hown2;obtain ⟨av2,cv2,rfl⟩:=own_slice hown2;have HG2:=Kz hgr;clear hown2 hgr hb2)
      go_roundg (gk - 1)
      case measure=> omega
      case rel=> exact ⟨_,L'++ [⟨[],0,[],0,0,true,false,⟨#[]⟩⟩],_,by rw [List.length_append];show gk - 1=20+q - (L'.length+1);omega,by rw [List.length_append];show L'.length+1<=21;omega,HS.out.push (s:= ⟨[],0,[],0,0,true,false,⟨#[]⟩⟩) (cs:=[.slice none 0 0,.int .i64 0,.slice none 0 0,.int .i64 0,.int .i64 0,.bool true,.bool false,.string ⟨#[]⟩]) HK1.out ⟨none,0,none,0,rfl,.inl rfl,.inl rfl,Nat.le_refl _⟩ ⟨by simp,fun x hx=> by simp at hx,⟨by show (-1000:Int)<=0;omega,by show (0:Int)<=1000;omega⟩,by simp,fun x hx=> by simp at hx,in64_of ⟨by show (-1000:Int)<=0;omega,by show (0:Int)<=1000;omega⟩,⟨by show (-1000:Int)<=0;omega,by show (0:Int)<=1000;omega⟩,by decide⟩ (nil_cells (s:= ⟨[],0,[],0,0,true,false,⟨#[]⟩⟩) (fun _=> ⟨rfl,rfl⟩) (fun _=> ⟨rfl,rfl⟩)) HO2.out HG2.out⟩
     ·have HF:=Kz HS.out.fin
      have HRs:=Kz (HRes.out.but HF.out.kb (by omega))
      have o0:=HF.out.c0
      obtain ⟨⟨_,x0⟩,g0⟩:=HRs.out.row.at (i:=0) (by omega)
      obtain ⟨⟨_,x1⟩,g1⟩:=HRs.out.row.at (i:=1) (by omega)
      have xz:=HRs.out.lt
      go_wp2_with fail
      have hR:=World.rangeAt_setCells_same wr (w.heap.size+1) 0 [.int .i64 cost,.slice av L'.length cv'] (HRs.out.row.there (o:=0) (m:=2) (Nat.le_refl _))
      exact Zk [.int .i64 cost,.slice av L'.length cv'] _ Try.results15 rfl hR Try.underlying28 rfl Try.dSizeAction rfl (HF.out.ends HRs.out (by omega) k0 HR0.out rfl (by omega) (by omega) hL' hco)
   ·have o1:=HX.out.c1
    have oz:=HX.out.row.lt
    obtain ⟨_,fo⟩:=HX.out.row.row.at (i:=1) (by omega)
    have HF:=Kz HX.out.cut
    have HRs:=Kz (HRes.out.but HF.out.kb (by omega))
    have o0:=HF.out.c0
    have o2:=HF.out.c1
    have oz2:=HF.out.row.lt
    obtain ⟨⟨_,x0⟩,g0⟩:=HRs.out.row.at (i:=0) (by omega)
    obtain ⟨⟨_,x1⟩,g1⟩:=HRs.out.row.at (i:=1) (by omega)
    have xz:=HRs.out.lt
    have hkc: (k:Int)<=(cv:Int):=by omega
    go_wp2_with fail
    have hR:=World.rangeAt_setCells_same (w4.setCell ⟨w1.heap.size,1,none⟩ (.slice (some ⟨g,0,none⟩) k cv)) (w.heap.size+1) 0 [.int .i64 cost,.slice (some ⟨g,0,none⟩) k cv] (HRs.out.row.there (o:=0) (m:=2) (Nat.le_refl _))
    exact Zk [.int .i64 cost,.slice (some ⟨g,0,none⟩) k cv] _ Try.results15 rfl hR Try.underlying28 rfl Try.dSizeAction rfl (HF.out.ends HRs.out (by omega) k0 HR0.out rfl (by omega) (by omega) (by rw [List.length_take];omega) hco)
   ·go_wp2_with fail
    go_meet
    exact ⟨cost,_,_,_,p+2,hco,by omega,by omega,HX.out.els _ (in64_wrap64 _)⟩
  case rest=>
   clear HX HPk4 hsb
   obtain ⟨cost',va,vc,s',p',hco',hp1,hp2,hX⟩:=hcut
   obtain ⟨aa',ca',rfl⟩:=own_slice hX.st.asks
   obtain ⟨ac',cc',rfl⟩:=own_slice hX.st.cases
   have HX:=Kz hX
   clear hX
   have o1:=HX.out.c1
   have oz:=HX.out.row.lt
   have sz:=HX.out.st.box.row.lt
   obtain ⟨cs,hcs⟩: ∃cs,cs=s'.cells aa' ca' ac' cc':= ⟨_,rfl⟩
   have hlen:cs.length=8:=by rw [hcs];rfl
   have hone:cs.toArray.all (·.oneCell')=true:=by rw [hcs];exact Xz.one s' _ _ _ _
   have hrg:wc.rangeAt w3.heap.size 0 cs:=by
    rw [hcs]
    have hb:=HX.out.st.box
    intro j x hx
    rw [Nat.zero_add]
    match j,hx with
    | 0,hx=> simp [Xz.cells] at hx;subst hx;exact hb.c0
    | 1,hx=> simp [Xz.cells] at hx;subst hx;exact hb.c1
    | 2,hx=> simp [Xz.cells] at hx;subst hx;exact hb.c2
    | 3,hx=> simp [Xz.cells] at hx;subst hx;exact hb.c3
    | 4,hx=> simp [Xz.cells] at hx;subst hx;exact hb.c4
    | 5,hx=> simp [Xz.cells] at hx;subst hx;exact hb.c5
    | 6,hx=> simp [Xz.cells] at hx;subst hx;exact hb.c6
    | 7,hx=> simp [Xz.cells] at hx;subst hx;exact hb.c7
    | j+8,hx=> simp [Xz.cells] at hx
   have HRg:=Kz hrg
   have hgr:RowT wc g 68 (cv * 8):=by
    rcases HX.out.own.2 with ⟨e,_⟩ | ⟨g',cv',cur',e,_,hg',_,_,hz',_⟩
    ·simp at e
    ·simp only [Value.slice.injEq,Option.some.injEq,Addr.mk.injEq,and_true,true_and] at e
     obtain ⟨rfl,rfl⟩:=e
     exact ⟨cur',hg',hz'⟩
   have gz:=hgr.lt
   have hth:wc.there g (k * 8) cs.toArray.size:=by simpa [hlen] using hgr.row.there (o:=k * 8) (m:=8) (by omega)
   have hsize: (Try.prog.info? 68).map (·.size)=some cs.toArray.size:=by rw [Try.dSizeStep];simp [hlen]
   have hsize2: (Try.prog.info? 68).map (·.size)=some cs.length:=by rw [Try.dSizeStep,hlen]
   have HSZ:=Kz hsize
   have HSZ2:=Kz hsize2
   have HTh:=Kz hth
   have HOne:=Kz hone
   have HF0:=HX.out.store
   rw [<-hcs] at HF0
   have HF:=Kz HF0
   have HRs:=Kz (HRes.out.but HF.out.kb (by omega))
   have o0:=HF.out.c0
   have o2:=HF.out.c1
   have oz2:=HF.out.row.lt
   obtain ⟨⟨_,x0⟩,g0⟩:=HRs.out.row.at (i:=0) (by omega)
   obtain ⟨⟨_,x1⟩,g1⟩:=HRs.out.row.at (i:=1) (by omega)
   have xz:=HRs.out.lt
   clear hcs hlen hone hrg hgr hth hsize hsize2 HF0
   go_wp2_with (first | (refine wpList_load_mid rfl 68 _ rfl w3.heap.size 0 rfl cs _ HRg.out Try.underlying68 rfl HSZ2.out ?_) | (refine wpList_store_mid rfl 68 _ _ rfl g (k * 8) cs.toArray rfl rfl HTh.out HSZ.out HOne.out ?_;rw [List.toList_toArray]))
   have hR:=World.rangeAt_setCells_same (wc.setCells g (k * 8) cs) (w.heap.size+1) 0 [.int .i64 cost',.slice (some ⟨g,0,none⟩) L.length cv] (HRs.out.row.there (o:=0) (m:=2) (Nat.le_refl _))
   refine Zk [.int .i64 cost',.slice (some ⟨g,0,none⟩) L.length cv] _ Try.results15 rfl hR Try.underlying28 rfl Try.dSizeAction rfl (HF.out.ends HRs.out (by omega) k0 HR0.out rfl (by omega) (by omega) (by rw [List.length_set];omega) hco')
