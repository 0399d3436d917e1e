import Derived.Test.YteabdfhkoloimaaKDPut
import Derived.Test.YteabdfhkoloimaaKDLit
set_option maxRecDepth 100000
set_option maxHeartbeats 25600000
namespace Go.Proofs.Yteabdfhkoloimaa
open Go.RowKit
theorem GNodes.at {w:World} {a:Option Addr} {n cap:Nat} {l:List Q_} (h:GNodes w (.slice a n cap) l) {k:Nat} (hk:k < l.length):
  ∃B oB sa sc,a=some ⟨B,oB,none⟩∧B < w.heap.size∧w.rangeAt B (oB+k * 3) ((l.getD k Q_.zero).cells sa sc)∧StepsN w sa (l.getD k Q_.zero).steps∧Steps w sa (l.getD k Q_.zero).steps:=by
 obtain ⟨a',cap',e,hc,hz,g⟩:=h
 simp only [Value.slice.injEq] at e
 obtain ⟨rfl,rfl,rfl⟩:=e
 obtain ⟨b,o,cur,fr,u,ea,hb,hr,ht⟩:=g k hk
 obtain ⟨sa,sc,rfl,_,hs⟩:=ht.stepsN
 exact ⟨b,o,sa,sc,ea,heap_lt hb,hr,hs,ht.steps⟩
def SortedEnd (mN:Nat) (w w':World) (e:Ending):Prop:=
 ∃(v:Value) (r:List Q_),e= .returned (.agg #[v])∧r.length<=60∧(∀d∈r,d.TinyN mN)∧GNodes w' v r∧K_ w w'∧Fresh w.heap.size v r
def SortCut (mN:Nat) (wr:World) (s5 s6:Value) (wx:World):Prop:=
 ∃(xb:Nat) (v:Value) (c:Int) (r:List Q_),s5= .pointer (some ⟨xb,0,none⟩)∧s6= .int .i64 c∧K_ wr wx∧xb < wx.heap.size∧wx.cell? ⟨xb,0,none⟩=some v∧GNodes wx v r∧r.length<=60∧(∀d∈r,d.TinyN mN)∧Fresh wr.heap.size v r
theorem PutR.tiny {mN:Nat} {l r:List Q_} {d:Q_} {c:Int} (h:PutR l d c r) (hl: ∀d∈l,d.TinyN mN) (hd:d.TinyN mN): ∀x∈r,x.TinyN mN:=fun x hx=> by
 rcases h.mem hx with rfl | hx
 ·exact hd
 ·exact hl x hx
theorem sortedG_any (w:World) (a0:Option Addr) (cap:Nat) (l:List Q_) {mN:Nat} (hmN:mN<=1000) (hl:l.length<=1000) (hs: ∀d∈l,d.TinyN mN) (hG:GNodes w (.slice a0 l.length cap) l):
  Calls Try.prog 58 #[.agg #[.slice a0 l.length cap]] w fun e w'=> SortedEnd mN w w' e:=by
 go_enter Try.func58,Try.ntmps58
 go_wp2
 have k0:K_ w (((w.alloc (.cells #[.slice a0 l.length cap] 25)).alloc (.cells #[.slice none 0 0] 25)).alloc (.cells #[.slice none 0 0] 25)):= (((K_.refl _).alloc _).alloc _).alloc _
 go_loopw [4] (fun i wr=> ∃(k:Nat) (v:Value) (r:List Q_),k<=l.length∧i= .int .i64 k∧K_ w wr∧wr.cell? ⟨w.heap.size,0,none⟩=some (.slice a0 l.length cap)∧RowT wr (w.heap.size+1) 25 1∧RowT wr (w.heap.size+2) 25 1∧
   wr.cell? ⟨w.heap.size+2,0,none⟩=some v∧GNodes wr v r∧r.length<=60∧(∀d∈r,d.TinyN mN)∧Fresh w.heap.size v r) (fun i _=> l.length - (intOf i).toNat)
 case atStart=>
  have hO:=Zx ((w.alloc (.cells #[.slice a0 l.length cap] 25)).alloc (.cells #[.slice none 0 0] 25)) #[.slice none 0 0] 25
  simp only [World.size_alloc] at hO
  refine ⟨0,.slice none 0 0,[],Nat.zero_le _,rfl,k0, ?_, ?_, ?_,hO 0 _ rfl,GNodes.nil _,by simp,(fun d hd=> by simp at hd),(fun h0=> by simp at h0)⟩
  ·rw [K_.cell (w:=w.alloc (.cells #[.slice a0 l.length cap] 25)) (((K_.refl _).alloc _).alloc _) (by simp)]
   exact Zx w _ _ 0 _ rfl
  ·exact RowT.kept (by have:=RowT.made (w.alloc (.cells #[.slice a0 l.length cap] 25)) #[.slice none 0 0] 25;simpa using this) ((K_.refl _).alloc _)
  ·have:=RowT.made ((w.alloc (.cells #[.slice a0 l.length cap] 25)).alloc (.cells #[.slice none 0 0] 25)) #[.slice none 0 0] 25
   simpa using this
 case round=>
  clear k0
  obtain ⟨k,v,r,hk,rfl,hw,p0,hr1,hr2,o0,hGr,hrl,hrt,hfr⟩:=hrel
  obtain ⟨wO,rfl⟩: ∃wO,wO=wr:= ⟨_,rfl⟩
  have z2:=hr2.lt
  have HR1:=Kz hr1
  have HR2:=Kz hr2
  have HG:=Kz hGr
  have HT:=Kz hrt
  clear hr1 hr2 hGr hrt
  by_cases hlt:k < l.length
  ·have hlt': (k:Int) < (l.length:Int):=by omega
   obtain ⟨B,oB,sa,sc,ha0,hBw,hrg0,hSt0,hSs0⟩:=hG.at hlt
   subst ha0
   obtain ⟨av,cv,rfl,hcv,hcz⟩:=HG.out.slice
   have hrg:=hw.range hBw hrg0
   have hBs:B < wO.heap.size:=Nat.lt_of_lt_of_le hBw hw.size
   have hdt:=hs (l.getD k Q_.zero) (by simp [List.getD,hlt])
   obtain ⟨d,hdd⟩: ∃d,d=l.getD k Q_.zero:= ⟨_,rfl⟩
   rw [<-hdd] at hrg hSt0 hSs0 hdt
   have c0:=hrg 0 _ rfl
   have c1:=hrg 1 _ rfl
   have c2:=hrg 2 _ rfl
   rw [Nat.add_zero] at c0
   have HSt:=Kz (hSt0.kept hw)
   have HSs:=Kz (hSs0.kept hw)
   clear hrg hdd hrg0 hSt0 hSs0
   have Qx:Hid (∀w',K_ wO w'->(fun w'=> w'.cell? ⟨w.heap.size+2,0,none⟩=some (.slice av r.length cv)∧w'.cell? ⟨w.heap.size,0,none⟩=some (.slice (some ⟨B,oB,none⟩) l.length cap)∧w'.cell? ⟨B,oB+k * 3,none⟩=some (.string d.name)∧w'.cell? ⟨B,oB+k * 3+1,none⟩=some (.int .i64 d.cost)∧w'.cell? ⟨B,oB+k * 3+2,none⟩=some (.slice sa d.steps.length sc)) w'):=fun w' kk=> ⟨(kk.cell z2).trans o0,(kk.cell (by omega)).trans p0,(kk.cell hBs).trans c0,(kk.cell hBs).trans c1,(kk.cell hBs).trans c2⟩
   go_upto_region 5 with fail
   go_cut [5,6] from 15 to 24 (fun s5 s6 wx=> SortCut mN wO s5 s6 wx)
   case first=>
    go_region_held (fun w'=> w'.cell? ⟨w.heap.size+2,0,none⟩=some (.slice av r.length cv)∧w'.cell? ⟨w.heap.size,0,none⟩=some (.slice (some ⟨B,oB,none⟩) l.length cap)∧w'.cell? ⟨B,oB+k * 3,none⟩=some (.string d.name)∧w'.cell? ⟨B,oB+k * 3+1,none⟩=some (.int .i64 d.cost)∧w'.cell? ⟨B,oB+k * 3+2,none⟩=some (.slice sa d.steps.length sc)) (exact unhide Qx _ (by repeat (first | (refine K_.setCell ?_ (by simp <;> omega) _) | (with_reducible exact K_.refl _) | (with_reducible assumption) | apply K_.drew | apply K_.alloc))) ((go_at_call 6;refine (putG_any _ av cv r d sa sc hmN (by omega) HT.out hdt (HG.out.nodesG.kept (by repeat (first | (with_reducible exact K_.refl _) | (with_reducible assumption) | apply K_.drew | apply K_.alloc))) (HG.out.nodes.kept (by repeat (first | (with_reducible exact K_.refl _) | (with_reducible assumption) | apply K_.drew | apply K_.alloc))) (HSt.out.kept (by repeat (first | (with_reducible exact K_.refl _) | (with_reducible assumption) | apply K_.drew | apply K_.alloc))) (HSs.out.kept (by repeat (first | (with_reducible exact K_.refl _) | (with_reducible assumption) | apply K_.drew | apply K_.alloc)))).mono ?_;rintro e w7 ⟨a2,ca2,c,r2,xs2,base2,rfl,hPR,hb2,hO2,hP2,kk7⟩;have k7:K_ wO w7:=K_.trans (by repeat (first | (with_reducible exact K_.refl _) | (with_reducible assumption) | apply K_.drew | apply K_.alloc)) kk7;have HG2:=Kz (GNodes.of_owned hO2 hP2);have hz2:wO.heap.size<=base2:=Nat.le_trans (K_.size (by repeat (first | (with_reducible exact K_.refl _) | (with_reducible assumption) | apply K_.drew | apply K_.alloc))) hb2;have HFr:=Kz ((Fresh.of_owned (L:=r2) hO2).mono hz2);have HPR:=Kz hPR;clear hPR hO2 hP2 hb2 hz2;(first | (have hrT:=rowDrawn (t:=25) (c:= #[.slice none 0 0]) kk7;(try simp only [World.size_alloc] at hrT);have HRT:=Kz hrT;obtain ⟨⟨_,t0⟩,f0⟩:=hrT.row.at (i:=0) (by decide);clear hrT) | skip)))
    ·go_wp2_with fail
     go_meet
     exact ⟨_,_,c,r2,rfl,rfl,k7.alloc _,by simp,by simp,HG2.out.kept ((K_.refl _).alloc _),HPR.out.len,HPR.out.tiny HT.out hdt,HFr.out⟩
    ·go_wp2_with fail
     go_meet
     have hR:=World.rangeAt_setCells_same w7 wO.heap.size 0 [.slice a2 r2.length ca2] (HRT.out.row.there (o:=0) (m:=1) (Nat.le_refl _))
     exact ⟨_,_,c,r2,rfl,rfl,k7.setCell (by simp) _,by rw [size_setCell];exact HRT.out.lt,hR 0 _ rfl,HG2.out.same (HRT.out.same (o:=0) _) (by decide) (by decide) (by decide) (by decide),HPR.out.len,HPR.out.tiny HT.out hdt,HFr.out⟩
   case rest=>
    obtain ⟨xb,v7,c,r7,rfl,rfl,k7,zx,x0,hG7,hl7,ht7,hf7⟩:=hcut
    obtain ⟨w7,rfl⟩: ∃w7,w7=wc:= ⟨_,rfl⟩
    have z7:=Nat.lt_of_lt_of_le z2 k7.size
    have o7:= (k7.cell (o:=0) z2).trans o0
    have p7:= (k7.cell (o:=0) (by omega:w.heap.size < wO.heap.size)).trans p0
    obtain ⟨a7,c7,rfl,_,_⟩:=hG7.slice
    have HG7:=Kz hG7
    have HT7:=Kz ht7
    have HR17:=Kz (HR1.out.kept k7)
    have HR27:=Kz (HR2.out.kept k7)
    have HGO:=Kz (HG.out.kept k7)
    have hw7:=hw.trans k7
    have hzw:=hw.size
    obtain ⟨⟨_,u0⟩,g0⟩:=HR27.out.row.at (i:=0) (by omega)
    clear hG7 ht7 Qx c0 c1 c2 o0 p0 HR1 HR2 HG k7 hw
    by_cases hc:c=0
    ·have e0: (c == 0)=true:=by simp [hc]
     clear hc
     go_wp2_with fail
     go_roundw
     case rel=>
      refine ⟨k+1,_,r7,by omega,by go_num,hw7.setCell (by simp <;> omega) _, ?_,HR17.out.block (Below.heap_setCell _ _ _ _ (by simp)),HR27.out.set _,set_hit HR27.out.row (by omega) _,HG7.out.same (HR27.out.same (o:=0) _) (by decide) (by decide) (by decide) (by decide),hl7,HT7.out,hf7.mono hzw⟩
      rw [World.cell?_setCell_other _ _ _ _ (by simp)];exact p7
     case measure=> simp [intOf];omega
    ·have e0: (c == 0)=false:=by simpa using hc
     clear hc
     go_wp2_with fail
     go_roundw
     case rel=> exact ⟨k+1,_,r,by omega,by go_num,hw7,p7,HR17.out,HR27.out,o7,HGO.out,hrl,HT.out,hfr⟩
     case measure=> simp [intOf];omega
  ·have hlt': ¬(k:Int) < (l.length:Int):=by omega
   obtain ⟨⟨_,x0⟩,g0⟩:=HR1.out.row.at (i:=0) (by omega)
   have z1:=HR1.out.lt
   obtain ⟨av,cv,rfl,_,_⟩:=HG.out.slice
   go_wp2
   have hR:=World.rangeAt_setCells_same wO (w.heap.size+1) 0 [.slice av r.length cv] (HR1.out.row.there (o:=0) (m:=1) (Nat.le_refl _))
   exact Zk [.slice av r.length cv] _ Try.results58 rfl hR Try.underlying25 rfl Try.sizeWeb rfl ⟨_,r,rfl,hrl,HT.out,HG.out.same (HR1.out.same (o:=0) _) (by decide) (by decide) (by decide) (by decide),hw.setCell (by simp) _,hfr⟩
theorem WStN.sorted {M:Nat} {w A0 w5 w6:World} {rb wb:Nat} {a:Option Addr} {cap:Nat} {bs:List UInt8} {p p' t:Nat} {v:Value} {L:List Q_} {xs:List Value} {e:Ending} (h:WStN M A0 w5 rb wb a cap bs p' v L xs) (hs:SortedEnd M w5 w6 e) {res:Nat} (hr:RowT w5 res 25 1) (hres:w.heap.size<=res) (k0:K_ w A0) {pw:Nat} (hw:Rd w rb a cap bs pw)
  (h1:p<=p') (h2:p'<=p+t): ∃va vn vc,e= .returned (.agg #[.slice va vn vc])∧RowT w6 res 25 1∧DrewWeb M 60 w (w6.setCell ⟨res,0,none⟩ (.slice va vn vc)) rb a cap bs p t e:=by
 obtain ⟨v2,r,he,hrl,hrt,hG,k6,hf⟩:=hs
 obtain ⟨va,vc,rfl,_,_⟩:=hG.slice
 have hr6:=hr.kept k6
 have hk:=hr6.same (o:=0) (.slice va r.length vc)
 have hbl:Below w.heap.size w6 (w6.setCell ⟨res,0,none⟩ (.slice va r.length vc)):= (Below.refl _ _).setCell (p:= ⟨res,0,none⟩) hres _
 have hkb:Xq rb (rb+1) w w6:=Xq.and_kept ⟨h.kb.os.trans k0.os,h.kb.tape.trans k0.tape,h.kb.output.trans k0.output,Nat.le_trans k0.size h.kb.size,fun i hi ho=> (h.kb.block i (Nat.lt_of_lt_of_le hi k0.size) ho).trans (k0.block i hi)⟩ k6
 exact ⟨va,r.length,vc,he,hr6,_,r,p',he,h1,h2,hrl,hrt,hG.same hk (by decide) (by decide) (by decide) (by decide),(h.rd.kept k6).below hw hbl hkb.size,hkb.below hbl,hf.mono (Nat.le_trans k0.size h.kb.size)⟩
def endStep (g:ByteArray):Xz:= ⟨[],0,[],0,0,true,false,g⟩
theorem endStep_tiny {m:Nat} {g:ByteArray} (hg:g.size<=300): (endStep g).TinyN m:= ⟨Nat.zero_le _,(fun x hx=> by simp [endStep] at hx),by show (-1000:Int)<=0∧(0:Int)<=1000;decide,Nat.zero_le _,(fun c hc=> by simp [endStep] at hc),by show (-9223372036854775808:Int)<=0∧(0:Int)<=9223372036854775807;decide,by show (-1000:Int)<=0∧(0:Int)<=1000;decide,hg⟩
theorem endStep_t (w:World) (g:ByteArray):TStep w 9 72 ((endStep g).cells none 0 none 0) (endStep g):= ⟨none,0,none,0,rfl,.inl rfl,.inl rfl,Nat.le_refl _⟩
theorem endStep_nil (g:ByteArray):NilOk ((endStep g).cells none 0 none 0):=nil_cells (fun _=> ⟨rfl,rfl⟩) (fun _=> ⟨rfl,rfl⟩)
theorem boxStep (w:World) (c:Array Value): ∀j u,c.toList[j]? =some u->(w.alloc (.cells c 68)).cell? ((⟨w.heap.size,0,none⟩:Addr).add j)=some u:=fun j u hu=> by
 rw [Addr.add_mid]
 exact Zx w c 68 j u hu
theorem AStN.g {mN:Nat} {w wr:World} {rb ab:Nat} {a:Option Addr} {cap:Nat} {bs:List UInt8} {p:Nat} {cost:Int} {v:Value} {L:List Xz} {xs:List Value} (h:AStN mN w wr rb ab a cap bs p cost v L xs):GSteps wr v L:= (StW.of_owned h.own h.pack h.nils).g
