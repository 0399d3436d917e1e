import Derived.Test.YteabdfhkoloimaaKDWebS
import Derived.Test.YteabdfhkoloimaaKOPut0
import Derived.Deep.RegionLaw
set_option maxRecDepth 100000
set_option maxHeartbeats 25600000
namespace Go.Proofs.Yteabdfhkoloimaa
open Go.RowKit
theorem copyG_lit (w:World) (cost:Int) (a:Option Addr) (cap:Nat) (l:List Xz) {mN:Nat} (hmN:mN<=1000) (hl:l.length<=21) (hs: ∀s∈l,s.TinyN mN) (hS:StepsN w a l):
  Calls Try.prog 26 #[.agg #[.int .i64 cost,.slice a l.length cap]] w fun e w'=> ∃a2 c2,e= .returned (.agg #[.int .i64 cost,.slice a2 l.length c2])∧GSteps w' (.slice a2 l.length c2) l∧K_ w w':=by
 refine (copy_any w cost a cap l (by omega) hmN hs hS).mono ?_
 rintro e w' ⟨v,xs,rfl,hO,hP,k⟩
 obtain ⟨a2,c2,rfl⟩:=own_slice hO
 exact ⟨a2,c2,rfl,(StW.of_owned hO hP.packed hP.nils).g,k⟩
structure AfterG (w wr w6:World) (a0:Option Addr) (n cap:Nat):Prop where
 kept:K_ w w6
 size:w.heap.size+3<=w6.heap.size
 arg:w6.cell? ⟨w.heap.size,0,none⟩=some (.slice a0 n cap)
 res:RowT w6 (w.heap.size+1) 25 1
 out:RowT w6 (w.heap.size+2) 25 1
 below:Below (w.heap.size+3) wr w6
theorem AfterG.of {w wr W w6:World} {a0:Option Addr} {n cap m cv:Nat} {av:Option Addr} {xs:List Value} (hw:K_ w wr) (hz:w.heap.size+3<=wr.heap.size) (KW:K_ wr W)
  (p0:wr.cell? ⟨w.heap.size,0,none⟩=some (.slice a0 n cap)) (hr1:RowT wr (w.heap.size+1) 25 1) (hr2:RowT wr (w.heap.size+2) 25 1)
  (hO:W.ownsRow (w.heap.size+3) 30 3 (.slice av m cv) m xs) (hgr:W.grownBy w6 (Value.slice av m cv).ownBlock):AfterG w wr w6 a0 n cap:=by
 have hzW:=KW.size
 have bl:Below (w.heap.size+3) wr w6:= (Below.mono KW (by omega)).trans (Below.grown (Below.refl _ _) hgr (by omega) (fun g hg=> (hO.lt g hg).1))
 refine ⟨kept_of_grown (hw.trans KW) (by omega) hO hgr,Nat.le_trans hz bl.size, ?_,hr1.block (bl.block _ (by omega)),hr2.block (bl.block _ (by omega)),bl⟩
 rw [Below.cell bl (p:= ⟨w.heap.size,0,none⟩) (by simp <;> omega)]
 exact p0
theorem packG_next {wr W w2 w6:World} {base m cv ca:Nat} {av a2:Option Addr} {xs:List Value} {l:List Q_} {d:Q_} (KW:K_ wr W) (K2:K_ w2 W) (hP:PackedG wr xs l) (hT:GSteps w2 (.slice a2 d.steps.length ca) d.steps)
  (hO:W.ownsRow base 30 3 (.slice av m cv) m xs) (hgr:W.grownBy w6 (Value.slice av m cv).ownBlock):PackedG w6 (xs++ [.string d.name,.int .i64 d.cost,.slice a2 d.steps.length ca]) (l++ [d]):=by
 have kb:SameKind 30 W w6:=SameKind.of_grown hO hgr
 exact (hP.same ((SameKind.of_kept KW).trans kb) (by decide) (by decide) (by decide)).snoc (hT.same ((SameKind.of_kept K2).trans kb) (by decide) (by decide) (by decide))
theorem withoutG_any (w:World) (a0:Option Addr) (cap:Nat) (l:List Q_) (key:ByteArray) {mN:Nat} (hmN:mN<=1000) (hl:l.length<=1000) (hs: ∀d∈l,d.TinyN mN) (hS:NodesG w a0 l):
  Calls Try.prog 25 #[.agg #[.slice a0 l.length cap],.string key] w fun e w'=> ∃a c xs base,e= .returned (.agg #[.slice a (l.filter (otherN key.toList)).length c])∧w.heap.size<=base∧w'.ownsRow base 30 3 (.slice a (l.filter (otherN key.toList)).length c) (l.filter (otherN key.toList)).length xs∧PackedG w' xs (l.filter (otherN key.toList))∧K_ w w':=by
 go_enter Try.func25,Try.ntmps25
 go_wp2
 have k0:K_ w (((w.alloc (.cells #[.slice a0 l.length cap] 25)).alloc (.cells #[.slice none 0 0] 25)).alloc (.cells #[.slice none 0 0] 25)):= (((K_.refl _).alloc _).alloc _).alloc _
 go_loopw [6] (fun i wr=> ∃(k m:Nat) (av:Option Addr) (cv:Nat) (xs:List Value),k<=l.length∧i= .int .i64 k∧K_ w wr∧w.heap.size+3<=wr.heap.size∧wr.cell? ⟨w.heap.size,0,none⟩=some (.slice a0 l.length cap)∧RowT wr (w.heap.size+1) 25 1∧RowT wr (w.heap.size+2) 25 1∧
   wr.cell? ⟨w.heap.size+2,0,none⟩=some (.slice av m cv)∧m= ((l.take k).filter (otherN key.toList)).length∧wr.ownsRow (w.heap.size+3) 30 3 (.slice av m cv) m xs∧PackedG wr xs ((l.take k).filter (otherN key.toList))) (fun i _=> l.length - (intOf i).toNat)
 case atStart=>
  have hO:=Zx ((w.alloc (.cells #[.slice a0 l.length cap] 25)).alloc (.cells #[.slice none 0 0] 25)) #[.slice none 0 0] 25
  simp only [World.size_alloc] at hO
  refine ⟨0,0,none,0,[],Nat.zero_le _,rfl,k0, ?_, ?_, ?_, ?_,hO 0 _ rfl,rfl,World.ownsRow_nil _ _ _ _,PackedG.nil _⟩
  ·simp only [World.size_alloc];omega
  ·rw [K_.cell (w:=w.alloc (.cells #[.slice a0 l.length cap] 25)) (((K_.refl _).alloc _).alloc _) (by simp)]
   exact Zx w _ _ 0 _ rfl
  ·exact RowT.kept (by have:=RowT.made (w.alloc (.cells #[.slice a0 l.length cap] 25)) #[.slice none 0 0] 25;simpa using this) ((K_.refl _).alloc _)
  ·have:=RowT.made ((w.alloc (.cells #[.slice a0 l.length cap] 25)).alloc (.cells #[.slice none 0 0] 25)) #[.slice none 0 0] 25
   simpa using this
 case round=>
  clear k0
  obtain ⟨k,m,av,cv,xs,hk,rfl,hw,hz,p0,hr1,hr2,o0,hm,hown,hP⟩:=hrel
  have hNs:w.heap.size < wr.heap.size:=by omega
  have HR1:=Kz hr1
  have HR2:=Kz hr2
  have HOw:=Kz hown
  have HP:=Kz hP
  have HMe:=Kz hm
  have hml:m<=l.length:=by rw [hm];exact Nat.le_trans (List.length_filter_le _ _) (by rw [List.length_take];omega)
  clear hr1 hr2 hown hP hm
  by_cases hlt:k < l.length
  ·obtain ⟨B,oB,sa,sc,ha0,hBw,hrg0,hSt0⟩:=hS k hlt
   have hrg:=hw.range hBw hrg0
   have hSt:=hSt0.kept hw
   subst ha0
   have hBs:B < wr.heap.size:=Nat.lt_of_lt_of_le hBw hw.size
   clear hrg0 hSt0
   have hsz:=hs (l.getD k Q_.zero) (by simp [List.getD,hlt])
   have hfs:=filter_take_succ (otherN key.toList) l k hlt
   obtain ⟨d,hdd⟩: ∃d,d=l.getD k Q_.zero:= ⟨_,rfl⟩
   rw [<-hdd] at hrg hSt hsz hfs
   have HFs:=Kz hfs
   have c0:=hrg 0 _ rfl
   have c1:=hrg 1 _ rfl
   have c2:=hrg 2 _ rfl
   rw [Nat.add_zero] at c0
   clear hrg hdd hfs
   cases hne: (d.name.toList == key.toList)
   ·have Qx:Hid (∀w',Below (w.heap.size+3) wr w'->w'.cell? ⟨w.heap.size+2,0,none⟩=some (.slice av m cv)∧w'.cell? ⟨w.heap.size,0,none⟩=some (.slice (some ⟨B,oB,none⟩) l.length cap)∧w'.cell? ⟨B,oB+k * 3,none⟩=some (.string d.name)∧w'.cell? ⟨B,oB+k * 3+1,none⟩=some (.int .i64 d.cost)∧w'.cell? ⟨B,oB+k * 3+2,none⟩=some (.slice sa d.steps.length sc)):=fun w' bl=> ⟨(Below.cell bl (p:= ⟨w.heap.size+2,0,none⟩) (by simp)).trans o0,(Below.cell bl (p:= ⟨w.heap.size,0,none⟩) (by simp <;> omega)).trans p0,(Below.cell bl (p:= ⟨B,oB+k * 3,none⟩) (by simp <;> omega)).trans c0,(Below.cell bl (p:= ⟨B,oB+k * 3+1,none⟩) (by simp <;> omega)).trans c1,(Below.cell bl (p:= ⟨B,oB+k * 3+2,none⟩) (by simp <;> omega)).trans c2⟩
    have hz2:w.heap.size+2 < wr.heap.size:=by omega
    obtain ⟨ino,hn0,hn1,hn2,hn3⟩:=info_parts Try.infoNode
    go_wp2
    refine Qj.region (by kernel_rfl) (fun w'=> w'.cell? ⟨w.heap.size+2,0,none⟩=some (.slice av m cv)∧w'.cell? ⟨w.heap.size,0,none⟩=some (.slice (some ⟨B,oB,none⟩) l.length cap)∧w'.cell? ⟨B,oB+k * 3,none⟩=some (.string d.name)∧w'.cell? ⟨B,oB+k * 3+1,none⟩=some (.int .i64 d.cost)∧w'.cell? ⟨B,oB+k * 3+2,none⟩=some (.slice sa d.steps.length sc)) 19 ⟨o0,p0,c0,c1,c2⟩ (fun Qk=> ?_)
    refine Qj.tk 0 Qk ?_
    refine Qj.tk 1 Qk ?_
    refine Qj.tk 2 Qk ?_
    refine Qj.tk 3 Qk ?_
    refine Qj.tk 4 Qk ?_
    refine Qj.tk 5 Qk ?_
    refine Qj.tk 6 Qk ?_
    refine Qj.tk 7 Qk ?_
    refine Qj.tk 8 Qk ?_
    refine Qj.tk 9 Qk ?_
    refine Qj.tk 10 Qk ?_
    refine Qj.tk 11 Qk ?_
    refine Qj.tk 12 Qk ?_
    refine Qj.tk 13 Qk ?_
    refine Qj.nx 14 (fun K hK=> ?_)
    rw [if_pos (by rfl)]
    go_simp
    go_at_call 26
    refine (copyG_lit _ d.cost sa sc d.steps hmN hsz.steps hsz.each (hSt.kept (by repeat (first | apply K_.drew | apply K_.alloc | exact K_.refl _)))).mono ?_
    rintro e w2 ⟨a2,ca2,rfl,hT2,k2⟩
    have kk:K_ wr w2:=K_.trans (by repeat (first | apply K_.drew | apply K_.alloc | exact K_.refl _)) k2
    have bl2:Below (w.heap.size+3) wr w2:=Below.mono kk (by omega)
    have hzz:=kk.size
    have hz22:w.heap.size+2 < w2.heap.size:=by omega
    have HT2:=Kz hT2
    clear hT2 k2
    dsimp only
    refine hK.out _ _ (fun _=> Qx.out w2 bl2) ?_
    clear hK K Qk
    have Qk:=Qx.out w2 bl2
    try simp only [Act.put,upA,upB,upC]
    refine Qj.tk 15 Qk ?_
    refine Qj.nx 16 (fun K hK=> ?_)
    go_simp
    have KW:K_ wr (w2.alloc (.cells #[.string d.name,.int .i64 d.cost,.slice a2 d.steps.length ca2] 30)):=kk.alloc _
    refine hK.out _ _ (fun _=> Qx.out _ (Below.mono KW (by omega))) ?_
    clear hK K Qk
    try simp only [Act.put,upA,upB,upC]
    refine Qj.nx 17 (fun K hK=> ?_)
    refine step_append_lies _ rfl (.tmp 24) (.tmp 39) 23 rfl (w.heap.size+3) 30 ino _ 3 48 Try.underlying23 hn0 hn1 hn2 hn3 rfl (by decide) (.slice av m cv) m xs (by simp [Act.eval]) (ownsRow_kept' HOw.out KW) ⟨w2.heap.size,0,none⟩ 1 1 [.string d.name,.int .i64 d.cost,.slice a2 d.steps.length ca2] (by simp [Act.eval]) rfl (fun j u hu=> by rw [Addr.add_mid];exact Zx w2 #[.string d.name,.int .i64 d.cost,.slice a2 d.steps.length ca2] 30 j u (by simpa using hu)) (node_one d a2 ca2) (by omega) (by unfold maxLen;omega) (by omega) (by simp;omega) _ rfl ?_
    intro g cap3 w6 hown3 hgr3 hat hlt3
    have K2W:K_ w2 (w2.alloc (.cells #[.string d.name,.int .i64 d.cost,.slice a2 d.steps.length ca2] 30)):= (K_.refl _).alloc _
    have hOW:=ownsRow_kept' HOw.out KW
    have HAn:=Kz (AfterG.of hw hz KW p0 HR1.out HR2.out hOW hgr3)
    have HPk:=Kz (packG_next KW K2W HP.out HT2.out hOW hgr3)
    have HO3:=Kz hown3
    have bl6:Below (w.heap.size+3) wr w6:=HAn.out.below
    have fo:=HAn.out.out.row.at (i:=0) (by omega)
    have fo1:=fo.2
    obtain ⟨vo,fo2⟩:=fo.1
    clear fo KW K2W hOW hown3 hgr3 hat
    refine hK.out _ _ (fun _=> Qx.out _ bl6) ?_
    clear hK K
    try simp only [Act.put,upA,upB,upC]
    have Qk:=Qx.out _ bl6
    refine Qj.tk 18 Qk ?_
    refine Qj.nx 19 (fun K hK=> ?_)
    go_simp
    refine hK.out _ _ (fun h=> absurd rfl h) ?_
    clear hK K
    try simp only [Act.put,upA,upB,upC]
    refine Qj.dn ?_
    go_wp2
    go_roundw
    case rel=>
     have T3:=HAn.out
     have ef: (l.take (k+1)).filter (otherN key.toList)= (l.take k).filter (otherN key.toList)++ [d]:=by rw [HFs.out,if_pos (by simp [otherN,hne])]
     refine ⟨k+1,m+1,_,cap3,_,by omega,by go_num,T3.kept.setCell (by simp <;> omega) _,by rw [size_setCell];exact T3.size, ?_,T3.res.block (Below.heap_setCell _ _ _ _ (by simp)),T3.out.set _,set_hit T3.out.row (by omega) _,by rw [ef,List.length_append,<-HMe.out];rfl,owns_set HO3.out (by simp) _, ?_⟩
     ·rw [World.cell?_setCell_other _ _ _ _ (by simp)];exact T3.arg
     ·rw [ef];exact HPk.out.same (T3.out.same _) (by decide) (by decide) (by decide)
    case measure=> simp [intOf];omega
   ·go_wp2
    go_roundw
    case rel=>
     have e: (l.take (k+1)).filter (otherN key.toList)= (l.take k).filter (otherN key.toList):=by rw [HFs.out,if_neg (by simp [otherN,hne])];simp
     exact ⟨k+1,m,av,cv,xs,by omega,by go_num,hw,hz,p0,HR1.out,HR2.out,o0,by rw [e];exact HMe.out,HOw.out,by rw [e];exact HP.out⟩
    case measure=> simp [intOf];omega
  ·have hkl:k=l.length:=by omega
   subst hkl
   rw [List.take_length] at HP HMe
   obtain ⟨⟨_,x0⟩,g0⟩:=HR1.out.row.at (i:=0) (by omega)
   go_wp2
   have hR:=World.rangeAt_setCells_same wr (w.heap.size+1) 0 [.slice av m cv] (HR1.out.row.there (o:=0) (m:=1) (Nat.le_refl _))
   have hO:=owns_set HOw.out (p:= ⟨w.heap.size+1,0,none⟩) (by simp) (.slice av m cv)
   have hPk:=HP.out.same (HR1.out.same (o:=0) (.slice av m cv)) (by decide) (by decide) (by decide)
   have hme:=HMe.out
   subst hme
   exact Zk [.slice av _ cv] _ Try.results25 rfl hR Try.underlying25 rfl Try.sizeWeb rfl ⟨av,cv,xs,w.heap.size+3,rfl,by omega,hO,hPk,hw.setCell (by simp) _⟩
