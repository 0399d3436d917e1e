import Derived.Test.YteabdfhkoloimaaKDWithout
import Derived.Deep.RegionLaw
import Derived.Deep.CutRange
import Derived.Deep.QuietTactic
import Derived.BigQuiet
set_option maxRecDepth 100000
set_option maxHeartbeats 25600000
namespace Go.Proofs.Yteabdfhkoloimaa
open Go.RowKit
def PutEndG (l:List Q_) (d:Q_) (w w':World) (e:Ending):Prop:=
 ∃a cap c r xs base,e= .returned (.tuple #[.agg #[.slice a r.length cap],.int .i64 c])∧PutR l d c r∧w.heap.size<=base∧w'.ownsRow base 30 3 (.slice a r.length cap) r.length xs∧PackedG w' xs r∧K_ w w'
theorem PutEndG.none {l:List Q_} {d:Q_} {w w':World} {e:Ending} (c:Int) (he:e= .returned (.tuple #[.agg #[.slice none 0 0],.int .i64 c])) (h:PutR l d c []) (k:K_ w w'):PutEndG l d w w' e:= ⟨Option.none,0,c,[],[],_,he,h,Nat.le_refl _,World.ownsRow_nil _ _ _ _,PackedG.nil _,k⟩
theorem SameKind.of_butG {t:TypeId} {w w':World} {b n:Nat} (h:Xq b (b+1) w w') (hr:RowT w b t n):SameKind t w w':=by
 intro x cur u fr hu hx
 rw [h.block x (heap_lt hx) ?_]
 ·exact hx
 ·obtain ⟨c,hc,_⟩:=hr
  by_cases e:x=b
  ·subst e
   rw [hx] at hc
   simp only [Option.some.injEq,Obj.cells.injEq] at hc
   exact absurd hc.2.1 hu
  ·omega
theorem other_getG {l:List Q_} {d:Q_} (hr:Rises l) (k:Nat) (hk:k < (l.filter (otherN d.name.toList)).length):
  (k < aheadN l d->Op.bytesLess ((l.filter (otherN d.name.toList)).getD k Q_.zero).name.toList d.name.toList=true∧(putIn l d).getD k Q_.zero= (l.filter (otherN d.name.toList)).getD k Q_.zero)∧
  (aheadN l d<=k->(Op.bytesLess ((l.filter (otherN d.name.toList)).getD k Q_.zero).name.toList d.name.toList=false∧(((l.filter (otherN d.name.toList)).getD k Q_.zero).name.toList == d.name.toList)=false)∧(putIn l d).getD (k+1) Q_.zero= (l.filter (otherN d.name.toList)).getD k Q_.zero):=by
 rw [filter_other _ hr] at hk⊢
 unfold putIn aheadN
 rw [List.length_append] at hk
 constructor
 ·intro h
  have e1: (l.filter (lessN d.name.toList)++l.filter (moreN d.name.toList)).getD k Q_.zero= (l.filter (lessN d.name.toList))[k]:=by simp [List.getD,List.getElem?_append_left h,h]
  rw [e1]
  refine ⟨?_,by simp [List.getD,List.getElem?_append_left h,h]⟩
  have:=List.getElem_mem h
  exact (List.mem_filter.1 this).2
 ·intro h
  have hlt:k - (l.filter (lessN d.name.toList)).length < (l.filter (moreN d.name.toList)).length:=by omega
  have e1: (l.filter (lessN d.name.toList)++l.filter (moreN d.name.toList)).getD k Q_.zero= (l.filter (moreN d.name.toList))[k - (l.filter (lessN d.name.toList)).length]:=by simp [List.getD,List.getElem?_append_right h,hlt]
  rw [e1]
  have hm:Op.bytesLess d.name.toList (l.filter (moreN d.name.toList))[k - (l.filter (lessN d.name.toList)).length].name.toList=true:= (List.mem_filter.1 (List.getElem_mem hlt)).2
  refine ⟨⟨less_asymm hm, ?_⟩, ?_⟩
  ·rw [beq_eq_false_iff_ne]
   intro e
   rw [e,less_irrefl] at hm
   cases hm
  have e2:k+1 - (l.filter (lessN d.name.toList)).length= (k - (l.filter (lessN d.name.toList)).length)+1:=by omega
  simp [List.getD,List.getElem?_append_right (show (l.filter (lessN d.name.toList)).length<=k+1 by omega),e2,hlt]
def othersG (l:List Q_) (d:Q_):List Q_:=l.filter (otherN d.name.toList)
theorem PackedG.at {w:World} {base:Nat} {ao:Option Addr} {n co:Nat} {xs:List Value} {l:List Q_} (hO:w.ownsRow base 30 3 (.slice ao n co) n xs) (h:PackedG w xs l) {k:Nat} (hk:k < l.length):
  ∃g cur fr a c,ao=some ⟨g,0,none⟩∧w.heap[g]? =some (Obj.cells cur 30 fr)∧w.cell? ⟨g,k * 3,none⟩=some (.string (l.getD k Q_.zero).name)∧w.cell? ⟨g,k * 3+1,none⟩=some (.int .i64 (l.getD k Q_.zero).cost)∧
   w.cell? ⟨g,k * 3+2,none⟩=some (.slice a (l.getD k Q_.zero).steps.length c)∧GSteps w (.slice a (l.getD k Q_.zero).steps.length c) (l.getD k Q_.zero).steps:=by
 have hn:n=l.length:=by have q1:=hO.1;have q2:=h.1;omega
 rcases hO.2 with ⟨_,h0⟩ | ⟨g,cap,cur,e,hb,hg,hnc,_,_,_⟩
 ·omega
 ·simp only [Value.slice.injEq] at e
  obtain ⟨rfl,_,rfl⟩:=e
  obtain ⟨v,e,hT⟩:=h.2 k hk
  obtain ⟨a,c,rfl⟩:=hT.slice
  have hc: ∀j u,((xs.drop (k * 3)).take 3)[j]? =some u->j < 3->w.cell? ⟨g,k * 3+j,none⟩=some u:=fun j u hu hj=> by
   rw [List.getElem?_take,if_pos hj,List.getElem?_drop] at hu
   have:=hO.cells (g:=g) rfl _ _ hu
   rw [Addr.add_mid,Nat.zero_add] at this
   exact this
  rw [e] at hc
  exact ⟨g,cur,_,a,c,rfl,hg,hc 0 _ rfl (by decide),hc 1 _ rfl (by decide),hc 2 _ rfl (by decide),hT⟩
structure PutGt (wc wr:World) (outb:Nat) (T:List Q_) (m:Nat) (av:Option Addr) (cv:Nat) (xs:List Value):Prop where
 kb:Xq outb (outb+1) wc wr
 row:RowT wr outb 25 1
 cell:wr.cell? ⟨outb,0,none⟩=some (.slice av m cv)
 own:wr.ownsRow wc.heap.size 30 3 (.slice av m cv) m xs
 pack:PackedG wc xs (T.take m)
theorem PutGt.grown {wc wr W w6:World} {outb m cv:Nat} {av:Option Addr} {xs:List Value} {T:List Q_} (h:PutGt wc wr outb T m av cv xs) (KW:K_ wr W) (hgr:W.grownBy w6 (Value.slice av m cv).ownBlock):Below wc.heap.size wr w6:=
 have hz:=h.kb.size
 have hW:=KW.size
 (Below.mono KW (by omega)).trans (Below.grown (Below.refl _ _) hgr (by omega) (fun g hg=> ((ownsRow_kept' h.own KW).lt g hg).1))
theorem PutGt.next {wc wr W w6:World} {outb m cv cv6:Nat} {av av6:Option Addr} {xs:List Value} {T:List Q_} {x:Q_} {a2:Option Addr} {ca2:Nat} (h:PutGt wc wr outb T m av cv xs) (hol:outb < wc.heap.size) (KW:K_ wr W) (hgr:W.grownBy w6 (Value.slice av m cv).ownBlock)
  (hO6:w6.ownsRow wc.heap.size 30 3 (.slice av6 (m+1) cv6) (m+1) (xs++ [.string x.name,.int .i64 x.cost,.slice a2 x.steps.length ca2])) (hm:m < T.length) (hx:T.getD m Q_.zero=x) (hTx:GSteps wc (.slice a2 x.steps.length ca2) x.steps):
  PutGt wc (w6.setCell ⟨outb,0,none⟩ (.slice av6 (m+1) cv6)) outb T (m+1) av6 cv6 (xs++ [.string x.name,.int .i64 x.cost,.slice a2 x.steps.length ca2]):=by
 have bl:=h.grown KW hgr
 have hr6:RowT w6 outb 25 1:=h.row.block (bl.block outb hol)
 refine ⟨(h.kb.below bl).setCell (Nat.le_refl _) (Nat.lt_succ_self _) _,hr6.set _,set_hit hr6.row (by omega) _,owns_set hO6 hol _, ?_⟩
 rw [take_snoc hm,hx]
 exact h.pack.snoc hTx
theorem PutGt.drewN {wc wr:World} {outb m cv:Nat} {av:Option Addr} {xs:List Value} {T:List Q_} (h:PutGt wc wr outb T m av cv xs) (n:Nat):PutGt wc (wr.drewN n) outb T m av cv xs:=
 ⟨⟨h.kb.os,h.kb.tape,h.kb.output,h.kb.size,h.kb.block⟩,h.row,h.cell,h.own,h.pack⟩
theorem PutGt.fin {w wc wn:World} {outb resb n cv:Nat} {av:Option Addr} {xs:List Value} {T l:List Q_} {d:Q_} (h:PutGt wc wn outb T n av cv xs) (hout:RowT wc outb 25 1) (hres:RowT wc resb 25 1) (hne:resb≠outb) (K:K_ w wc) (h1:w.heap.size<=resb) (h2:w.heap.size<=outb)
  (hn:T.length=n) (hT:T=putIn l d) (c1:WebCode l 0) (c2:NameOk d.name) (c3:ActionOk ⟨d.cost,d.steps⟩) (c4:n<=60):
  (wn.setCell ⟨resb,0,none⟩ (.slice av n cv)).rangeAt resb 0 [.slice av n cv]∧PutEndG l d w (wn.setCell ⟨resb,0,none⟩ (.slice av n cv)) (.returned (.tuple #[.agg #[.slice av n cv],.int .i64 0])):=by
 have hrw:RowT wn resb 25 1:=hres.block (h.kb.block resb hres.lt (by omega))
 have hO:=owns_set h.own (p:= ⟨resb,0,none⟩) hres.lt (.slice av n cv)
 have hP:=h.pack
 rw [List.take_of_length_le (by omega)] at hP
 have hP2:= (hP.same (SameKind.of_butG h.kb hout) (by decide) (by decide) (by decide)).same (hrw.same (o:=0) (.slice av n cv)) (by decide) (by decide) (by decide)
 refine ⟨World.rangeAt_setCells_same wn resb 0 [.slice av n cv] (hrw.row.there (o:=0) (m:=1) (Nat.le_refl _)), ?_⟩
 subst hn
 exact ⟨av,cv,0,T,xs,wc.heap.size,rfl,.inr (.inr (.inr ⟨c1,c2,c3,hT ▸ c4,rfl,hT⟩)),K.size,hO,hP2,(h.kb.kept K h2).setCell h1 _⟩
structure PutGo (W6 Wl:World) (d:Q_) (oneb:Nat) (a2:Option Addr) (ca2:Nat):Prop where
 kept:K_ W6 Wl
 ge:W6.heap.size<=oneb
 lt:oneb < Wl.heap.size
 name:Wl.cell? ⟨oneb,0,none⟩=some (.string d.name)
 cost:Wl.cell? ⟨oneb,1,none⟩=some (.int .i64 d.cost)
 steps:Wl.cell? ⟨oneb,2,none⟩=some (.slice a2 d.steps.length ca2)
 one:GSteps Wl (.slice a2 d.steps.length ca2) d.steps
def PutGc (W6:World) (d:Q_) (s8:Value) (Wl:World):Prop:= ∃oneb a2 ca2,s8= .pointer (some ⟨oneb,0,none⟩)∧PutGo W6 Wl d oneb a2 ca2
theorem putG_any (w:World) (a0:Option Addr) (cap:Nat) (l:List Q_) (d:Q_) (aA:Option Addr) (ca:Nat) {mN:Nat} (hmN:mN<=1000) (hl:l.length<=1000) (hs: ∀d∈l,d.TinyN mN) (hds:d.TinyN mN) (hS:NodesG w a0 l) (hN:Nodes w a0 l) (hA:StepsN w aA d.steps) (hAs:Steps w aA d.steps):
  Calls Try.prog 6 #[.agg #[.slice a0 l.length cap],.agg #[.string d.name,.int .i64 d.cost,.slice aA d.steps.length ca]] w fun e w'=> PutEndG l d w w' e:=by
 have hl':l.length<=maxLen:=by unfold maxLen;omega
 have hf: ∀s∈l,s.Fits:=fun s hs'=> (hs s hs').fits hmN
 have hdf:=hds.fits hmN
 go_enter Try.func6,Try.ntmps6
 go_wp2_with fail
 refine (specCheckWeb_any _ a0 cap l hl' hf (hN.kept (by repeat (first | apply K_.alloc | exact K_.refl _)))).mono ?_
 rintro e w1 ⟨⟨c,rfl,hc⟩,k1⟩
 have K1:K_ w w1:=K_.trans (by repeat (first | apply K_.alloc | exact K_.refl _)) k1
 have z1:=k1.size
 simp only [World.size_alloc] at z1
 have q0:=boxCell (w:=w) (K_.trans (((K_.refl _).alloc _).alloc _) k1)
 have nn:=boxCells3 (w:=w.alloc (.cells #[.slice a0 l.length cap] 25)) (K_.trans ((K_.refl _).alloc _) k1)
 simp only [World.size_alloc] at nn
 obtain ⟨n0,n1,n2⟩:=nn
 have hrow1:RowT w1 (w.heap.size+2) 25 1:=RowT.kept (by have:=RowT.made ((w.alloc (.cells #[.slice a0 l.length cap] 25)).alloc (.cells #[.string d.name,.int .i64 d.cost,.slice aA d.steps.length ca] 30)) #[.slice none 0 0] 25;simpa using this) k1
 obtain ⟨⟨_,x0⟩,g0⟩:=hrow1.row.at (i:=0) (by omega)
 have HR1:=Kz hrow1
 have HC:=Kz hc
 clear hrow1 hc k1
 by_cases hc0:c=0
 ·subst hc0
  have hw1:w.heap.size < w1.heap.size:=by omega
  have hw2:w.heap.size+1 < w1.heap.size:=by omega
  have hw3:w.heap.size+2 < w1.heap.size:=by omega
  go_wp2_with fail
  refine (l1NameOk_any _ d.name hdf.name).mono ?_
  rintro e w2 ⟨hsay,rfl⟩
  rcases hsay.cases with ⟨rfl,hyes⟩ | ⟨rfl,hno⟩
  ·have HY:=Kz hyes
   clear hyes hsay
   go_wp2_with fail
   refine (specValidAction_any _ d.cost aA ca d.steps hdf.steps hdf.each (hAs.kept K1)).mono ?_
   rintro e w3 ⟨hsay,k3⟩
   have q3:= (k3.cell (o:=0) hw1).trans q0
   have p0:= (k3.cell (o:=0) hw2).trans n0
   have p1:= (k3.cell (o:=1) hw2).trans n1
   have p2:= (k3.cell (o:=2) hw2).trans n2
   have HR3:=Kz (HR1.out.kept k3)
   have K3:=K1.trans k3
   have z3:=k3.size
   obtain ⟨⟨_,y0⟩,e0⟩:=HR3.out.row.at (i:=0) (by omega)
   clear q0 n0 n1 n2 x0 g0 HR1 K1 k3
   rcases hsay.cases with ⟨rfl,hyes⟩ | ⟨rfl,hno⟩
   ·have HM:=Kz hyes
    clear hyes hsay
    have hu1:w.heap.size < w3.heap.size:=by omega
    have hu2:w.heap.size+1 < w3.heap.size:=by omega
    have hu3:w.heap.size+2 < w3.heap.size:=by omega
    have hrise:=Kz (rises_of_code HC.out)
    go_wp2_with fail
    refine (withoutG_any _ a0 cap l d.name hmN hl hs (hS.kept K3)).mono ?_
    rintro e w4 ⟨a4,c4,xs4,base4,rfl,hba,hO4,hN4,k4⟩
    obtain ⟨old,hold⟩: ∃old,old=othersG l d:= ⟨_,rfl⟩
    rw [show l.filter (otherN d.name.toList)=old from hold.symm] at hO4 hN4⊢
    have hol:old.length<=l.length:=by rw [hold];exact List.length_filter_le _ _
    have HOld:=Kz hold
    have HO4:=Kz hO4
    have HN4:=Kz hN4
    have K4:=K3.trans k4
    have q4:= (k4.cell (o:=0) hu1).trans q3
    have r0:= (k4.cell (o:=0) hu2).trans p0
    have r1:= (k4.cell (o:=1) hu2).trans p1
    have r2:= (k4.cell (o:=2) hu2).trans p2
    have HR4:=Kz (HR3.out.kept k4)
    have z4:=k4.size
    obtain ⟨⟨_,v0⟩,u0⟩:=HR4.out.row.at (i:=0) (by omega)
    clear hold hO4 hN4 q3 p0 p1 p2 y0 e0 HR3 K3 k4
    have hz1:w.heap.size < w4.heap.size:=by omega
    have hz2:w.heap.size+1 < w4.heap.size:=by omega
    have hz3:w.heap.size+2 < w4.heap.size:=by omega
    by_cases hlong:60<=old.length
    ·have hlong': (60:Int)<=(old.length:Int):=by omega
     go_wp2
     have hR1:=World.rangeAt_setCells_same w4 (w.heap.size+2) 0 [.slice none 0 0] (HR4.out.row.there (o:=0) (m:=1) (Nat.le_refl _))
     have hR0: ((w4.setCell ⟨w.heap.size+2,0,none⟩ (.slice none 0 0)).alloc (.cells #[.slice a4 old.length c4] 25)).rangeAt (w.heap.size+2) 0 [.slice none 0 0]:=K_.range ((K_.refl _).alloc _) (by rw [size_setCell];omega) hR1
     refine bodyPost_ret_cell2 [.slice none 0 0] _ (.int .i64 3) Try.results6 rfl hR0 Try.underlying25 rfl Try.sizeWeb rfl rfl (PutEndG.none 3 rfl (.inr (.inr (.inl ⟨HC.out,HY.out,HM.out, ?_,rfl,rfl⟩))) ?_)
     ·rw [putIn_length hrise.out,show l.filter (otherN d.name.toList)=old from HOld.out.symm]
      omega
     ·exact (K4.setCell (by simp <;> omega) _).alloc _
    ·have hlong': ¬(60:Int)<=(old.length:Int):=by omega
     have Qx:Hid (∀w',K_ ((w4.alloc (.cells #[.slice a4 old.length c4] 25)).alloc (.cells #[.slice none 0 0] 25)) w'->(fun w'=> w'.cell? ⟨w.heap.size+1,0,none⟩=some (.string d.name)∧w'.cell? ⟨w.heap.size+1,1,none⟩=some (.int .i64 d.cost)∧w'.cell? ⟨w.heap.size+1,2,none⟩=some (.slice aA d.steps.length ca)) w'):=fun w' kk=> by
      have k5:K_ w4 w':=K_.trans (((K_.refl _).alloc _).alloc _) kk
      exact ⟨(k5.cell hz2).trans r0,(k5.cell hz2).trans r1,(k5.cell hz2).trans r2⟩
     have KA:K_ w ((w4.alloc (.cells #[.slice a4 old.length c4] 25)).alloc (.cells #[.slice none 0 0] 25)):= (K4.alloc _).alloc _
     go_upto_region 9 with fail
     go_cut [8] from 36 to 41 (fun s8 wx=> PutGc ((w4.alloc (.cells #[.slice a4 old.length c4] 25)).alloc (.cells #[.slice none 0 0] 25)) d s8 wx)
     case first=>
      go_region_held (fun w'=> w'.cell? ⟨w.heap.size+1,0,none⟩=some (.string d.name)∧w'.cell? ⟨w.heap.size+1,1,none⟩=some (.int .i64 d.cost)∧w'.cell? ⟨w.heap.size+1,2,none⟩=some (.slice aA d.steps.length ca)) (exact unhide Qx _ (by repeat (first | (refine K_.setCell ?_ (by simp <;> omega) _) | (with_reducible exact K_.refl _) | (with_reducible assumption) | apply K_.drew | apply K_.alloc))) ((go_at_call 26;refine (copyG_lit _ d.cost aA ca d.steps hmN hds.steps hds.each (hA.kept (KA.trans (by repeat (first | (with_reducible exact K_.refl _) | (with_reducible assumption) | apply K_.drew | apply K_.alloc))))).mono ?_;rintro e w7 ⟨a2,ca2,rfl,hT2,kk7⟩;have k7:K_ ((w4.alloc (.cells #[.slice a4 old.length c4] 25)).alloc (.cells #[.slice none 0 0] 25)) w7:=K_.trans (by repeat (first | (with_reducible exact K_.refl _) | (with_reducible assumption) | apply K_.drew | apply K_.alloc)) kk7;have HT2:=Kz hT2;clear hT2;(first | (have hrT:=rowDrawn (t:=30) (c:= #[.string ⟨#[]⟩,.int .i64 0,.slice none 0 0]) kk7;simp only [World.size_alloc] at hrT;have HRT:=Kz hrT;obtain ⟨⟨_,t0⟩,f0⟩:=hrT.row.at (i:=0) (by decide);obtain ⟨⟨_,t1⟩,f1⟩:=hrT.row.at (i:=1) (by decide);obtain ⟨⟨_,t2⟩,f2⟩:=hrT.row.at (i:=2) (by decide);clear hrT) | skip)))
      ·go_wp2_with fail
       go_meet
       refine ⟨w7.heap.size,a2,ca2,rfl,k7.alloc _,k7.size,by simp,by simp,by simp,by simp, ?_⟩
       exact HT2.out.same (u:=30) (.of_kept ((K_.refl _).alloc _)) (by decide) (by decide) (by decide)
      ·go_wp2_with fail
       go_meet
       have hR:=World.rangeAt_setCells_same w7 (w4.heap.size+1+1) 0 [.string d.name,.int .i64 d.cost,.slice a2 d.steps.length ca2] (HRT.out.row.there (o:=0) (m:=3) (Nat.le_refl _))
       refine ⟨w4.heap.size+1+1,a2,ca2,rfl,((k7.setCell (by simp) _).setCell (by simp) _).setCell (by simp) _,by simp,by simp only [size_setCell];exact HRT.out.lt,hR 0 _ rfl,hR 1 _ rfl,hR 2 _ rfl, ?_⟩
       exact HT2.out.same (((HRT.out.same _).trans ((HRT.out.set _).same _)).trans (((HRT.out.set _).set _).same _)) (by decide) (by decide) (by decide)
     case rest=>
      obtain ⟨oneb,a2,ca2,rfl,hOne⟩:=hcut
      have kw4:K_ w4 wc:=K_.trans (((K_.refl _).alloc _).alloc _) hOne.kept
      have zc:=hOne.kept.size
      have zo:=hOne.ge
      simp only [World.size_alloc] at zc zo
      have co:=boxCell (w:=w4) (K_.trans ((K_.refl _).alloc _) hOne.kept)
      have cu:=boxCell (w:=w4.alloc (.cells #[.slice a4 old.length c4] 25)) hOne.kept
      simp only [World.size_alloc] at cu
      have cn:= (kw4.cell (o:=0) hz2).trans r0
      have hro:=rowAlloc (X:=w4.alloc (.cells #[.slice a4 old.length c4] 25)) hOne.kept
      simp only [World.size_alloc] at hro
      have HOut:Hid (RowT wc (w4.heap.size+1) 25 1):=hro
      have HRes:=Kz (HR4.out.kept kw4)
      have HO5:=Kz (ownsRow_kept' HO4.out kw4)
      have HN5:=Kz (HN4.out.same (SameKind.of_kept (t:=30) kw4) (by decide) (by decide) (by decide))
      have HOne:=Kz hOne
      obtain ⟨T,hT⟩: ∃T,T=putIn l d:= ⟨_,rfl⟩
      obtain ⟨ah,hah⟩: ∃ah,ah=aheadN l d:= ⟨_,rfl⟩
      have hoo:l.filter (otherN d.name.toList)=old:=HOld.out.symm
      have HTl:Hid (T.length=old.length+1):=by rw [hT,<-hoo];exact putIn_length hrise.out
      have hah2:ah<=old.length:=by rw [hah,<-hoo];exact aheadN_le hrise.out
      have HAt:Hid (T.getD ah Q_.zero=d):=by rw [hT,hah];exact putIn_at l d
      have HGet:Hid (∀k,k < old.length->(k < ah->Op.bytesLess (old.getD k Q_.zero).name.toList d.name.toList=true∧T.getD k Q_.zero=old.getD k Q_.zero)∧(ah<=k->(Op.bytesLess (old.getD k Q_.zero).name.toList d.name.toList=false∧((old.getD k Q_.zero).name.toList == d.name.toList)=false)∧T.getD (k+1) Q_.zero=old.getD k Q_.zero)):=by
       rw [hT,hah,<-hoo]
       exact fun k hk=> other_getG hrise.out k hk
      have HT:=Kz hT
      clear hT hah hoo hOne hro HO4 HN4 HR4 v0 u0 q4 Qx KA
      have K5:=K4.trans kw4
      go_wp2
      go_loopw [9,10] (fun dn i wr=> ∃(k m:Nat) (av:Option Addr) (cv:Nat) (xs:List Value),k<=old.length∧i= .int .i64 k∧((dn= .bool true∧ah < k∧m=k+1)∨(dn= .bool false∧k<=ah∧m=k))∧PutGt wc wr (w4.heap.size+1) T m av cv xs) (fun _ i _=> old.length - (intOf i).toNat)
      case atStart=> exact ⟨0,0,none,0,[],Nat.zero_le _,rfl,.inr ⟨rfl,Nat.zero_le _,rfl⟩,Xq.refl _ _ _,HOut.out,cu,World.ownsRow_nil _ _ _ _,PackedG.nil _⟩
      case round=>
       obtain ⟨k,m,av,cv,xs,hk,rfl,hdn,hSt0⟩:=hrel
       have hsk:=Kz (SameKind.of_butG hSt0.kb HOut.out)
       have zr:=hSt0.kb.size
       have ks1:=hSt0.kb.same (l2:=0) (h2:=w4.heap.size+1) (by omega)
       have ks2:=hSt0.kb.same (l2:=w4.heap.size+1+1) (h2:=wc.heap.size) (by omega)
       have eo:= (ks1.cell (o:=0) (Nat.zero_le _) (by omega:w4.heap.size < w4.heap.size+1) (by omega)).trans co
       have en:= (ks1.cell (o:=0) (Nat.zero_le _) (by omega:w.heap.size+1 < w4.heap.size+1) (by omega)).trans cn
       have e1:= (ks2.cell (o:=0) zo HOne.out.lt HOne.out.lt).trans HOne.out.name
       have e2:= (ks2.cell (o:=1) zo HOne.out.lt HOne.out.lt).trans HOne.out.cost
       have e3:= (ks2.cell (o:=2) zo HOne.out.lt HOne.out.lt).trans HOne.out.steps
       have ol:=HOne.out.lt
       have eu:=hSt0.cell
       obtain ⟨⟨_,eu1⟩,eu2⟩:=hSt0.row.row.at (i:=0) (by omega)
       have HSt0:=Kz hSt0
       clear hSt0 ks1 ks2 eu1
       have hb1:w4.heap.size+1 < wr.heap.size:=by omega
       have hb0:w4.heap.size < wr.heap.size:=by omega
       have hbo:oneb < wr.heap.size:=by omega
       have hbn:w.heap.size+1 < wr.heap.size:=by omega
       by_cases hlt:k < old.length
       ·obtain ⟨g,cur,fr,a3,c3,rfl,hg,c0,c1,c2,hTx⟩:=PackedG.at HO5.out HN5.out hlt
        have hgr:=hsk.out g cur _ fr (by decide) hg
        have hgl:=heap_lt hgr
        have HG:=Kz (HGet.out k hlt)
        obtain ⟨x,hx⟩: ∃x,x=old.getD k Q_.zero:= ⟨_,rfl⟩
        rw [<-hx] at c0 c1 c2 hTx HG
        have C0:=Kz (And.intro c0 (And.intro c1 c2))
        have D0:Hid (wr.cell? ⟨g,k * 3,none⟩=some (.string x.name)):=by show _=_;rw [World.cell?_of_block (hgr.trans hg.symm)];exact c0
        have d0:=D0.out
        have i0: (k:Int) < (old.length:Int):=by omega
        have HTx:=Kz hTx
        clear hx hTx c0 c1 c2 hgr
        rcases hdn with ⟨rfl,hka,hm⟩ | ⟨rfl,hka,hm'⟩
        ·subst hm
         have HX2:=Kz (HG.out.2 (by omega)).2
         go_wp2
         go_quiet (fail)
         obtain ⟨wq,hwq⟩: ∃wq,wq=wr.drewN nq:= ⟨_,rfl⟩
         rw [<-hwq]
         have hSt:PutGt wc wq (w4.heap.size+1) T (k+1) av cv xs:=by rw [hwq];exact HSt0.out.drewN nq
         clear hwq eo en e1 e2 e3 eu eu2 d0
         have sk2:=SameKind.of_butG hSt.kb HOut.out
         have hgq:=sk2 g cur _ fr (by decide) hg
         have ksq:=hSt.kb.same (l2:=0) (h2:=w4.heap.size+1) (by omega)
         have f0:= (ksq.cell (o:=0) (Nat.zero_le _) (by omega:w4.heap.size < w4.heap.size+1) (by omega)).trans co
         have c0:wq.cell? ⟨g,k * 3,none⟩=some (.string x.name):=by rw [World.cell?_of_block (hgq.trans hg.symm)];exact C0.out.1
         have c1:wq.cell? ⟨g,k * 3+1,none⟩=some (.int .i64 x.cost):=by rw [World.cell?_of_block (hgq.trans hg.symm)];exact C0.out.2.1
         have c2:wq.cell? ⟨g,k * 3+2,none⟩=some (.slice a3 x.steps.length c3):=by rw [World.cell?_of_block (hgq.trans hg.symm)];exact C0.out.2.2
         have f1:=hSt.cell
         have zq:=hSt.kb.size
         have HSt:=Kz hSt
         have gl:=heap_lt hg
         have hb1:w4.heap.size+1 < wq.heap.size:=by omega
         have hb0:w4.heap.size < wq.heap.size:=by omega
         have hbg:g < wq.heap.size:=by omega
         have Qx:Hid (∀w',Below wc.heap.size wq w'->(fun w'=> w'.cell? ⟨w4.heap.size+1,0,none⟩=some (.slice av (k+1) cv)∧w'.cell? ⟨w4.heap.size,0,none⟩=some (.slice (some ⟨g,0,none⟩) old.length c4)∧w'.cell? ⟨g,k * 3,none⟩=some (.string x.name)∧w'.cell? ⟨g,k * 3+1,none⟩=some (.int .i64 x.cost)∧w'.cell? ⟨g,k * 3+2,none⟩=some (.slice a3 x.steps.length c3)) w'):=fun w' bl=> ⟨(Below.cell bl (p:= ⟨w4.heap.size+1,0,none⟩) (by simp <;> omega)).trans f1,(Below.cell bl (p:= ⟨w4.heap.size,0,none⟩) (by simp <;> omega)).trans f0,(Below.cell bl (p:= ⟨g,k * 3,none⟩) (by simp <;> omega)).trans c0,(Below.cell bl (p:= ⟨g,k * 3+1,none⟩) (by simp <;> omega)).trans c1,(Below.cell bl (p:= ⟨g,k * 3+2,none⟩) (by simp <;> omega)).trans c2⟩
         clear hSt sk2 hgq ksq
         obtain ⟨ino,hn0,hn1,hn2,hn3⟩:=info_parts Try.infoNode
         go_wp2
         refine Qj.region (by kernel_rfl) (fun w'=> w'.cell? ⟨w4.heap.size+1,0,none⟩=some (.slice av (k+1) cv)∧w'.cell? ⟨w4.heap.size,0,none⟩=some (.slice (some ⟨g,0,none⟩) old.length c4)∧w'.cell? ⟨g,k * 3,none⟩=some (.string x.name)∧w'.cell? ⟨g,k * 3+1,none⟩=some (.int .i64 x.cost)∧w'.cell? ⟨g,k * 3+2,none⟩=some (.slice a3 x.steps.length c3)) 10 ⟨f1,f0,c0,c1,c2⟩ (fun Qk=> ?_)
         refine Qj.tk 0 Qk ?_
         refine Qj.tk 1 Qk ?_
         refine Qj.tk 2 Qk ?_
         refine Qj.tk 3 Qk ?_
         refine Qj.tk 4 Qk ?_
         refine Qj.tk 5 Qk ?_
         refine Qj.tk 6 Qk ?_
         refine Qj.nx 7 (fun K hK=> ?_)
         go_simp
         have KW:K_ wq (wq.alloc (.cells #[.string x.name,.int .i64 x.cost,.slice a3 x.steps.length c3] 30)).drew:= ((K_.refl _).alloc _).drew
         refine hK.out _ _ (fun _=> Qx.out _ (Below.mono KW (by omega))) ?_
         clear hK K Qk
         try simp only [Act.put,upA,upB,upC]
         refine Qj.nx 8 (fun K hK=> ?_)
         refine step_append_lies _ rfl (.tmp 69) (.tmp 75) 23 rfl wc.heap.size 30 ino _ 3 48 Try.underlying23 hn0 hn1 hn2 hn3 rfl (by decide) (.slice av (k+1) cv) (k+1) xs (by simp [Act.eval]) (ownsRow_kept' HSt.out.own KW) ⟨wq.heap.size,0,none⟩ 1 1 [.string x.name,.int .i64 x.cost,.slice a3 x.steps.length c3] (by simp [Act.eval]) rfl (fun j u hu=> by rw [Addr.add_mid];exact Zx wq #[.string x.name,.int .i64 x.cost,.slice a3 x.steps.length c3] 30 j u (by simpa using hu)) (node_one x a3 c3) (by omega) (by unfold maxLen;omega) (by omega) (by simp;omega) _ rfl ?_
         intro g6 cap6 w8 hown8 hgr8 hat hlt8
         have bl8:=HSt.out.grown KW hgr8
         have hr8:RowT w8 (w4.heap.size+1) 25 1:=HSt.out.row.block (bl8.block _ (by omega))
         obtain ⟨⟨_,fo2⟩,fo1⟩:=hr8.row.at (i:=0) (by omega)
         have HO8:=Kz hown8
         have HGr:=Kz hgr8
         clear hown8 hgr8 hat hr8
         refine hK.out _ _ (fun _=> Qx.out _ bl8) ?_
         clear hK K
         try simp only [Act.put,upA,upB,upC]
         have Qk:=Qx.out _ bl8
         refine Qj.tk 9 Qk ?_
         refine Qj.nx 10 (fun K hK=> ?_)
         go_simp
         refine hK.out _ _ (fun h=> absurd rfl h) ?_
         clear hK K
         try simp only [Act.put,upA,upB,upC]
         refine Qj.dn ?_
         go_wp2
         go_roundw
         case rel=> exact ⟨k+1,k+1+1,_,cap6,_,by omega,by go_num,.inl ⟨rfl,by omega,by omega⟩,PutGt.next HSt.out (by omega) KW HGr.out HO8.out (by have:=HTl.out;omega) HX2.out HTx.out⟩
         case measure=> simp [intOf];omega
        ·have hm:=hm'.symm
         subst hm
         by_cases hkk:k < ah
         ·have hbl:= (HG.out.1 hkk).1
          have HX2:=Kz (HG.out.1 hkk).2
          go_wp2
          go_quiet (fail)
          obtain ⟨wq,hwq⟩: ∃wq,wq=wr.drewN nq:= ⟨_,rfl⟩
          rw [<-hwq]
          have hSt:PutGt wc wq (w4.heap.size+1) T (k) av cv xs:=by rw [hwq];exact HSt0.out.drewN nq
          clear hwq eo en e1 e2 e3 eu eu2 d0
          have sk2:=SameKind.of_butG hSt.kb HOut.out
          have hgq:=sk2 g cur _ fr (by decide) hg
          have ksq:=hSt.kb.same (l2:=0) (h2:=w4.heap.size+1) (by omega)
          have f0:= (ksq.cell (o:=0) (Nat.zero_le _) (by omega:w4.heap.size < w4.heap.size+1) (by omega)).trans co
          have c0:wq.cell? ⟨g,k * 3,none⟩=some (.string x.name):=by rw [World.cell?_of_block (hgq.trans hg.symm)];exact C0.out.1
          have c1:wq.cell? ⟨g,k * 3+1,none⟩=some (.int .i64 x.cost):=by rw [World.cell?_of_block (hgq.trans hg.symm)];exact C0.out.2.1
          have c2:wq.cell? ⟨g,k * 3+2,none⟩=some (.slice a3 x.steps.length c3):=by rw [World.cell?_of_block (hgq.trans hg.symm)];exact C0.out.2.2
          have f1:=hSt.cell
          have zq:=hSt.kb.size
          have HSt:=Kz hSt
          have gl:=heap_lt hg
          have hb1:w4.heap.size+1 < wq.heap.size:=by omega
          have hb0:w4.heap.size < wq.heap.size:=by omega
          have hbg:g < wq.heap.size:=by omega
          have Qx:Hid (∀w',Below wc.heap.size wq w'->(fun w'=> w'.cell? ⟨w4.heap.size+1,0,none⟩=some (.slice av (k) cv)∧w'.cell? ⟨w4.heap.size,0,none⟩=some (.slice (some ⟨g,0,none⟩) old.length c4)∧w'.cell? ⟨g,k * 3,none⟩=some (.string x.name)∧w'.cell? ⟨g,k * 3+1,none⟩=some (.int .i64 x.cost)∧w'.cell? ⟨g,k * 3+2,none⟩=some (.slice a3 x.steps.length c3)) w'):=fun w' bl=> ⟨(Below.cell bl (p:= ⟨w4.heap.size+1,0,none⟩) (by simp <;> omega)).trans f1,(Below.cell bl (p:= ⟨w4.heap.size,0,none⟩) (by simp <;> omega)).trans f0,(Below.cell bl (p:= ⟨g,k * 3,none⟩) (by simp <;> omega)).trans c0,(Below.cell bl (p:= ⟨g,k * 3+1,none⟩) (by simp <;> omega)).trans c1,(Below.cell bl (p:= ⟨g,k * 3+2,none⟩) (by simp <;> omega)).trans c2⟩
          clear hSt sk2 hgq ksq
          obtain ⟨ino,hn0,hn1,hn2,hn3⟩:=info_parts Try.infoNode
          go_wp2
          refine Qj.region (by kernel_rfl) (fun w'=> w'.cell? ⟨w4.heap.size+1,0,none⟩=some (.slice av (k) cv)∧w'.cell? ⟨w4.heap.size,0,none⟩=some (.slice (some ⟨g,0,none⟩) old.length c4)∧w'.cell? ⟨g,k * 3,none⟩=some (.string x.name)∧w'.cell? ⟨g,k * 3+1,none⟩=some (.int .i64 x.cost)∧w'.cell? ⟨g,k * 3+2,none⟩=some (.slice a3 x.steps.length c3)) 10 ⟨f1,f0,c0,c1,c2⟩ (fun Qk=> ?_)
          refine Qj.tk 0 Qk ?_
          refine Qj.tk 1 Qk ?_
          refine Qj.tk 2 Qk ?_
          refine Qj.tk 3 Qk ?_
          refine Qj.tk 4 Qk ?_
          refine Qj.tk 5 Qk ?_
          refine Qj.tk 6 Qk ?_
          refine Qj.nx 7 (fun K hK=> ?_)
          go_simp
          have KW:K_ wq (wq.alloc (.cells #[.string x.name,.int .i64 x.cost,.slice a3 x.steps.length c3] 30)).drew:= ((K_.refl _).alloc _).drew
          refine hK.out _ _ (fun _=> Qx.out _ (Below.mono KW (by omega))) ?_
          clear hK K Qk
          try simp only [Act.put,upA,upB,upC]
          refine Qj.nx 8 (fun K hK=> ?_)
          refine step_append_lies _ rfl (.tmp 69) (.tmp 75) 23 rfl wc.heap.size 30 ino _ 3 48 Try.underlying23 hn0 hn1 hn2 hn3 rfl (by decide) (.slice av (k) cv) (k) xs (by simp [Act.eval]) (ownsRow_kept' HSt.out.own KW) ⟨wq.heap.size,0,none⟩ 1 1 [.string x.name,.int .i64 x.cost,.slice a3 x.steps.length c3] (by simp [Act.eval]) rfl (fun j u hu=> by rw [Addr.add_mid];exact Zx wq #[.string x.name,.int .i64 x.cost,.slice a3 x.steps.length c3] 30 j u (by simpa using hu)) (node_one x a3 c3) (by omega) (by unfold maxLen;omega) (by omega) (by simp;omega) _ rfl ?_
          intro g6 cap6 w8 hown8 hgr8 hat hlt8
          have bl8:=HSt.out.grown KW hgr8
          have hr8:RowT w8 (w4.heap.size+1) 25 1:=HSt.out.row.block (bl8.block _ (by omega))
          obtain ⟨⟨_,fo2⟩,fo1⟩:=hr8.row.at (i:=0) (by omega)
          have HO8:=Kz hown8
          have HGr:=Kz hgr8
          clear hown8 hgr8 hat hr8
          refine hK.out _ _ (fun _=> Qx.out _ bl8) ?_
          clear hK K
          try simp only [Act.put,upA,upB,upC]
          have Qk:=Qx.out _ bl8
          refine Qj.tk 9 Qk ?_
          refine Qj.nx 10 (fun K hK=> ?_)
          go_simp
          refine hK.out _ _ (fun h=> absurd rfl h) ?_
          clear hK K
          try simp only [Act.put,upA,upB,upC]
          refine Qj.dn ?_
          go_wp2
          go_roundw
          case rel=> exact ⟨k+1,k+1,_,cap6,_,by omega,by go_num,.inr ⟨rfl,by omega,by omega⟩,PutGt.next HSt.out (by omega) KW HGr.out HO8.out (by have:=HTl.out;omega) HX2.out HTx.out⟩
          case measure=> simp [intOf];omega
         ·obtain ⟨hbl,hbe⟩:= (HG.out.2 (by omega)).1
          have HX2:=Kz (HG.out.2 (by omega)).2
          go_wp2
          go_quiet (fail)
          obtain ⟨ino,hn0,hn1,hn2,hn3⟩:=info_parts Try.infoNode
          go_wp2_with (at_builtin;refine wpList_append_own _ rfl (.tmp 63) (.tmp 65) 23 rfl wc.heap.size 30 ino _ 3 48 Try.underlying23 hn0 hn1 hn2 hn3 rfl (by decide) _ k xs rfl (ownsRow_kept' HSt0.out.own (by repeat (first | (with_reducible exact K_.refl _) | apply K_.alloc | apply K_.drewN | apply K_.drew))) ⟨wr.heap.size,0,none⟩ 1 1 [.string d.name,.int .i64 d.cost,.slice a2 d.steps.length ca2] rfl rfl (fun j u hu=> (by rw [Addr.add_mid];exact Zx wr #[.string d.name,.int .i64 d.cost,.slice a2 d.steps.length ca2] 30 j u (by simpa using hu))) (node_one d a2 ca2) (by unfold maxLen;omega) (by omega) (by simp;omega) ?_;intro v6 w6 hown6 hgr6 _;obtain ⟨av6,cv6,rfl⟩:=own_slice hown6;have KW6:K_ wr ((wr.drewN nq).alloc (.cells #[.string d.name,.int .i64 d.cost,.slice a2 d.steps.length ca2] 30)):= ((K_.refl _).drewN nq).alloc _;have bl6:=HSt0.out.grown KW6 hgr6;have hr6:RowT w6 (w4.heap.size+1) 25 1:=HSt0.out.row.block (bl6.block _ (by omega));obtain ⟨⟨_,fp2⟩,fp1⟩:=hr6.row.at (i:=0) (by omega);have HN6:=Kz (PutGt.next HSt0.out (by omega) KW6 hgr6 hown6 (by have:=HTl.out;omega) (by have:=HAt.out;rw [show k=ah by omega];exact this) HOne.out.one);clear hown6 hgr6 hr6)
          obtain ⟨wq,hwq⟩: ∃wq,wq=w6.setCell ⟨w4.heap.size+1,0,none⟩ (.slice av6 (k+1) cv6):= ⟨_,rfl⟩
          rw [<-hwq]
          have hSt:PutGt wc wq (w4.heap.size+1) T (k+1) av6 cv6 (xs++ [.string d.name,.int .i64 d.cost,.slice a2 d.steps.length ca2]):=by rw [hwq];exact HN6.out
          clear hwq eo en e1 e2 e3 eu eu2 d0 fp1 fp2 bl6 KW6 HN6
          clear ino hn0 hn1 hn2 hn3
          have sk2:=SameKind.of_butG hSt.kb HOut.out
          have hgq:=sk2 g cur _ fr (by decide) hg
          have ksq:=hSt.kb.same (l2:=0) (h2:=w4.heap.size+1) (by omega)
          have f0:= (ksq.cell (o:=0) (Nat.zero_le _) (by omega:w4.heap.size < w4.heap.size+1) (by omega)).trans co
          have c0:wq.cell? ⟨g,k * 3,none⟩=some (.string x.name):=by rw [World.cell?_of_block (hgq.trans hg.symm)];exact C0.out.1
          have c1:wq.cell? ⟨g,k * 3+1,none⟩=some (.int .i64 x.cost):=by rw [World.cell?_of_block (hgq.trans hg.symm)];exact C0.out.2.1
          have c2:wq.cell? ⟨g,k * 3+2,none⟩=some (.slice a3 x.steps.length c3):=by rw [World.cell?_of_block (hgq.trans hg.symm)];exact C0.out.2.2
          have f1:=hSt.cell
          have zq:=hSt.kb.size
          have HSt:=Kz hSt
          have gl:=heap_lt hg
          have hb1:w4.heap.size+1 < wq.heap.size:=by omega
          have hb0:w4.heap.size < wq.heap.size:=by omega
          have hbg:g < wq.heap.size:=by omega
          have Qx:Hid (∀w',Below wc.heap.size wq w'->(fun w'=> w'.cell? ⟨w4.heap.size+1,0,none⟩=some (.slice av6 (k+1) cv6)∧w'.cell? ⟨w4.heap.size,0,none⟩=some (.slice (some ⟨g,0,none⟩) old.length c4)∧w'.cell? ⟨g,k * 3,none⟩=some (.string x.name)∧w'.cell? ⟨g,k * 3+1,none⟩=some (.int .i64 x.cost)∧w'.cell? ⟨g,k * 3+2,none⟩=some (.slice a3 x.steps.length c3)) w'):=fun w' bl=> ⟨(Below.cell bl (p:= ⟨w4.heap.size+1,0,none⟩) (by simp <;> omega)).trans f1,(Below.cell bl (p:= ⟨w4.heap.size,0,none⟩) (by simp <;> omega)).trans f0,(Below.cell bl (p:= ⟨g,k * 3,none⟩) (by simp <;> omega)).trans c0,(Below.cell bl (p:= ⟨g,k * 3+1,none⟩) (by simp <;> omega)).trans c1,(Below.cell bl (p:= ⟨g,k * 3+2,none⟩) (by simp <;> omega)).trans c2⟩
          clear hSt sk2 hgq ksq
          obtain ⟨ino,hn0,hn1,hn2,hn3⟩:=info_parts Try.infoNode
          go_wp2
          refine Qj.region (by kernel_rfl) (fun w'=> w'.cell? ⟨w4.heap.size+1,0,none⟩=some (.slice av6 (k+1) cv6)∧w'.cell? ⟨w4.heap.size,0,none⟩=some (.slice (some ⟨g,0,none⟩) old.length c4)∧w'.cell? ⟨g,k * 3,none⟩=some (.string x.name)∧w'.cell? ⟨g,k * 3+1,none⟩=some (.int .i64 x.cost)∧w'.cell? ⟨g,k * 3+2,none⟩=some (.slice a3 x.steps.length c3)) 10 ⟨f1,f0,c0,c1,c2⟩ (fun Qk=> ?_)
          refine Qj.tk 0 Qk ?_
          refine Qj.tk 1 Qk ?_
          refine Qj.tk 2 Qk ?_
          refine Qj.tk 3 Qk ?_
          refine Qj.tk 4 Qk ?_
          refine Qj.tk 5 Qk ?_
          refine Qj.tk 6 Qk ?_
          refine Qj.nx 7 (fun K hK=> ?_)
          go_simp
          have KW:K_ wq (wq.alloc (.cells #[.string x.name,.int .i64 x.cost,.slice a3 x.steps.length c3] 30)).drew:= ((K_.refl _).alloc _).drew
          refine hK.out _ _ (fun _=> Qx.out _ (Below.mono KW (by omega))) ?_
          clear hK K Qk
          try simp only [Act.put,upA,upB,upC]
          refine Qj.nx 8 (fun K hK=> ?_)
          refine step_append_lies _ rfl (.tmp 69) (.tmp 75) 23 rfl wc.heap.size 30 ino _ 3 48 Try.underlying23 hn0 hn1 hn2 hn3 rfl (by decide) (.slice av6 (k+1) cv6) (k+1) (xs++ [.string d.name,.int .i64 d.cost,.slice a2 d.steps.length ca2]) (by simp [Act.eval]) (ownsRow_kept' HSt.out.own KW) ⟨wq.heap.size,0,none⟩ 1 1 [.string x.name,.int .i64 x.cost,.slice a3 x.steps.length c3] (by simp [Act.eval]) rfl (fun j u hu=> by rw [Addr.add_mid];exact Zx wq #[.string x.name,.int .i64 x.cost,.slice a3 x.steps.length c3] 30 j u (by simpa using hu)) (node_one x a3 c3) (by omega) (by unfold maxLen;omega) (by omega) (by simp;omega) _ rfl ?_
          intro g6 cap6 w8 hown8 hgr8 hat hlt8
          have bl8:=HSt.out.grown KW hgr8
          have hr8:RowT w8 (w4.heap.size+1) 25 1:=HSt.out.row.block (bl8.block _ (by omega))
          obtain ⟨⟨_,fo2⟩,fo1⟩:=hr8.row.at (i:=0) (by omega)
          have HO8:=Kz hown8
          have HGr:=Kz hgr8
          clear hown8 hgr8 hat hr8
          refine hK.out _ _ (fun _=> Qx.out _ bl8) ?_
          clear hK K
          try simp only [Act.put,upA,upB,upC]
          have Qk:=Qx.out _ bl8
          refine Qj.tk 9 Qk ?_
          refine Qj.nx 10 (fun K hK=> ?_)
          go_simp
          refine hK.out _ _ (fun h=> absurd rfl h) ?_
          clear hK K
          try simp only [Act.put,upA,upB,upC]
          refine Qj.dn ?_
          go_wp2
          go_roundw
          case rel=> exact ⟨k+1,k+1+1,_,cap6,_,by omega,by go_num,.inl ⟨rfl,by omega,by omega⟩,PutGt.next HSt.out (by omega) KW HGr.out HO8.out (by have:=HTl.out;omega) HX2.out HTx.out⟩
          case measure=> simp [intOf];omega
       ·have hkl:k=old.length:=by omega
        subst hkl
        rcases hdn with ⟨rfl,hka,hm⟩ | ⟨rfl,hka,hm'⟩
        ·subst hm
         obtain ⟨hR,hEnd⟩:=HSt0.out.fin HOut.out HRes.out (by omega) K5 (by omega) (by omega) HTl.out HT.out HC.out HY.out HM.out (by omega)
         have hRes:=HRes.out.block (HSt0.out.kb.block _ (by omega) (by omega))
         obtain ⟨⟨_,t0⟩,t1⟩:=hRes.row.at (i:=0) (by omega)
         have HRs:=Kz hR
         have HEnd:=Kz hEnd
         clear hRes hR hEnd
         go_wp2
         exact bodyPost_ret_cell2 [.slice av (old.length+1) cv] _ (.int .i64 0) Try.results6 rfl HRs.out Try.underlying25 rfl Try.sizeWeb rfl rfl HEnd.out
        ·have hm:=hm'.symm
         subst hm
         obtain ⟨ino,hn0,hn1,hn2,hn3⟩:=info_parts Try.infoNode
         have hbr:w.heap.size+2 < wr.heap.size:=by omega
         go_wp2_with (at_builtin;refine wpList_append_own _ rfl (.tmp 81) (.tmp 83) 23 rfl wc.heap.size 30 ino _ 3 48 Try.underlying23 hn0 hn1 hn2 hn3 rfl (by decide) _ old.length xs rfl (ownsRow_kept' HSt0.out.own (by repeat (first | (with_reducible exact K_.refl _) | apply K_.alloc | apply K_.drewN | apply K_.drew))) ⟨wr.heap.size,0,none⟩ 1 1 [.string d.name,.int .i64 d.cost,.slice a2 d.steps.length ca2] rfl rfl (fun j u hu=> (by rw [Addr.add_mid];exact Zx wr #[.string d.name,.int .i64 d.cost,.slice a2 d.steps.length ca2] 30 j u (by simpa using hu))) (node_one d a2 ca2) (by unfold maxLen;omega) (by omega) (by simp;omega) ?_;intro v6 w6 hown6 hgr6 _;obtain ⟨av6,cv6,rfl⟩:=own_slice hown6;have KW6:K_ wr (wr.alloc (.cells #[.string d.name,.int .i64 d.cost,.slice a2 d.steps.length ca2] 30)):= (K_.refl _).alloc _;have bl6:=HSt0.out.grown KW6 hgr6;have hr6:RowT w6 (w4.heap.size+1) 25 1:=HSt0.out.row.block (bl6.block _ (by omega));obtain ⟨⟨_,fp2⟩,fp1⟩:=hr6.row.at (i:=0) (by omega);have hs6:RowT w6 (w.heap.size+2) 25 1:= (HRes.out.block (HSt0.out.kb.block _ (by omega) (by omega))).block (bl6.block _ (by omega));obtain ⟨⟨_,fq2⟩,fq1⟩:=hs6.row.at (i:=0) (by omega);have HN6:=Kz (PutGt.next HSt0.out (by omega) KW6 hgr6 hown6 (by have:=HTl.out;omega) (by have:=HAt.out;rw [show old.length=ah by omega];exact this) HOne.out.one);clear hown6 hgr6 hr6 hs6)
         obtain ⟨hR,hEnd⟩:=HN6.out.fin HOut.out HRes.out (by omega) K5 (by omega) (by omega) HTl.out HT.out HC.out HY.out HM.out (by omega)
         exact bodyPost_ret_cell2 [.slice av6 (old.length+1) cv6] _ (.int .i64 0) Try.results6 rfl hR Try.underlying25 rfl Try.sizeWeb rfl rfl hEnd
   ·have HM:=Kz hno
    clear hno hsay
    go_wp2
    have hR:=World.rangeAt_setCells_same w3 (w.heap.size+2) 0 [.slice none 0 0] (HR3.out.row.there (o:=0) (m:=1) (Nat.le_refl _))
    refine bodyPost_ret_cell2 [.slice none 0 0] _ (.int .i64 2) Try.results6 rfl hR Try.underlying25 rfl Try.sizeWeb rfl rfl (PutEndG.none 2 rfl (.inr (.inl ⟨HC.out,.inr HM.out,rfl,rfl⟩)) ?_)
    repeat (first | (refine K_.setCell ?_ (by simp <;> omega) _) | exact K3)
  ·have HY:=Kz hno
   clear hno hsay
   go_wp2
   have hR:=World.rangeAt_setCells_same w2 (w.heap.size+2) 0 [.slice none 0 0] (HR1.out.row.there (o:=0) (m:=1) (Nat.le_refl _))
   refine bodyPost_ret_cell2 [.slice none 0 0] _ (.int .i64 2) Try.results6 rfl hR Try.underlying25 rfl Try.sizeWeb rfl rfl (PutEndG.none 2 rfl (.inr (.inl ⟨HC.out,.inl HY.out,rfl,rfl⟩)) ?_)
   repeat (first | (refine K_.setCell ?_ (by simp <;> omega) _) | exact K1)
 ·have hcb: (c == 0)=false:=by simpa using hc0
  go_wp2
  have hR:=World.rangeAt_setCells_same w1 (w.heap.size+2) 0 [.slice none 0 0] (HR1.out.row.there (o:=0) (m:=1) (Nat.le_refl _))
  refine bodyPost_ret_cell2 [.slice none 0 0] _ (.int .i64 1) Try.results6 rfl hR Try.underlying25 rfl Try.sizeWeb rfl rfl (PutEndG.none 1 rfl (.inl ⟨fun h=> hc0 (HC.out.unique h),rfl,rfl⟩) ?_)
  repeat (first | (refine K_.setCell ?_ (by simp <;> omega) _) | exact K1)
