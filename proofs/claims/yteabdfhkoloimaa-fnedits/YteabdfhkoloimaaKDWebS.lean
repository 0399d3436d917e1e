import Derived.Test.YteabdfhkoloimaaKDStep
import Derived.Deep.CutRange
import Derived.Deep.LoopGhost
import Derived.Deep.RegionLaw
import Derived.Deep.AppendLies
import Derived.Laws.AppendOwnNone
import Derived.Test.YteabdfhkoloimaaKOMark2
set_option maxRecDepth 100000
set_option maxHeartbeats 25600000
namespace Go.Proofs.Yteabdfhkoloimaa
open Go.RowKit
def TStepsN (w:World) (v:Value) (L:List Xz):Prop:= ∃base xs,w.ownsRow base 68 8 v L.length xs∧PackedS w 9 72 xs L∧NilOk xs
def DrewAction (w w':World) (rb:Nat) (a:Option Addr) (cap:Nat) (bs:List UInt8) (p t:Nat) (e:Ending):Prop:=
 ∃(cost:Int) (v:Value) (L:List Xz) (p':Nat),e= .returned (.agg #[.int .i64 cost,v])∧p<=p'∧p'<=p+t∧1<=L.length∧L.length<=20∧(-1000<=cost∧cost<=1000)∧(∀s∈L,s.Tiny)∧
  TStepsN w' v L∧Rd w' rb a cap bs p'∧Xq rb (rb+1) w w'
theorem ASt.made {w w1:World} {rb:Nat} {a:Option Addr} {cap:Nat} {bs:List UInt8} {p p0:Nat} (h0:Rd w rb a cap bs p0) (h:Rd w1 rb a cap bs p) (k:Xq rb (rb+1) w w1) (cost:Int):
  ASt w (w1.alloc (.cells #[.int .i64 cost,.slice none 0 0] 28)) rb w1.heap.size a cap bs p cost (.slice none 0 0) [] []:=by
 have hr:=Zx w1 #[.int .i64 cost,.slice none 0 0] 28
 have hk:K_ w1 (w1.alloc (.cells #[.int .i64 cost,.slice none 0 0] 28)):= (K_.refl _).alloc _
 exact ⟨h.kept hk,⟨p0,h0⟩,k.size,k.and_kept hk,RowT.made w1 _ _,hr 0 _ rfl,hr 1 _ rfl,World.ownsRow_nil _ _ _ _,PackedS.nil _ _ _,fun s hs=> by simp at hs,fun n c hm=> by simp at hm⟩
theorem SSt.made {W:World} {rb:Nat} {a:Option Addr} {cap:Nat} {bs:List UInt8} {p:Nat} (h:Rd W rb a cap bs p) {els fall:Int} (he: -1000<=els∧els<=1000) (hf: -1000<=fall∧fall<=1000):
  SSt W (W.alloc (.cells #[.slice none 0 0,.int .i64 0,.slice none 0 0,.int .i64 els,.int .i64 fall,.bool false,.bool false,.string ⟨#[]⟩] 68)) rb W.heap.size a cap bs p (.slice none 0 0) (.slice none 0 0) ⟨[],0,[],els,fall,false,false,⟨#[]⟩⟩:=by
 have hk:K_ W (W.alloc (.cells #[.slice none 0 0,.int .i64 0,.slice none 0 0,.int .i64 els,.int .i64 fall,.bool false,.bool false,.string ⟨#[]⟩] 68)):= (K_.refl _).alloc _
 exact ⟨h.kept hk,⟨p,h⟩,Nat.le_refl _,.of_kept hk,SBox.made W els fall,World.ownsRow_nil _ _ _ _,World.ownsRow_nil _ _ _ _,⟨by simp,fun x hx=> by simp at hx,⟨by show (-1000:Int)<=0;omega,by show (0:Int)<=1000;omega⟩,by simp,fun x hx=> by simp at hx,in64_of he,hf,by show (⟨#[]⟩:ByteArray).size<=300;decide⟩⟩
theorem l1Names_len (w:World) (a:Option Addr) (cap m:Nat) (l:List ByteArray) (hm:l.length=m) (hl:l.length<=1000) (hs: ∀s∈l,s.size<=1000) (hS:Strs w a l):
  Calls Try.prog 34 #[.slice a m cap] w fun e w'=> (∃b:Bool,e= .returned (.bool b))∧K_ w w':=by
 subst hm
 refine (l1Names_any w a cap l (by unfold maxLen;omega) (fun s h=> by have:=hs s h;unfold maxLen;omega) hS).mono ?_
 rintro e w' ⟨⟨r,rfl,_⟩,k⟩
 exact ⟨⟨r,rfl⟩,k⟩
theorem boxStr (w:World) (x:ByteArray): ∀j u,([.string x]:List Value)[j]? =some u->(w.alloc (.cells #[.string x] 9)).cell? ((⟨w.heap.size,0,none⟩:Addr).add j)=some u:=fun j u hu=> by
 rw [Addr.add_mid]
 exact Zx w #[.string x] 9 j u hu
theorem oneStr (x:ByteArray): ∀u∈([.string x]:List Value),u.oneCell'=true:=fun u hu=> by simp at hu;subst hu;rfl
theorem AStN.ends {w w5:World} {rb ab:Nat} {a:Option Addr} {cap:Nat} {bs:List UInt8} {p p' t:Nat} {cost:Int} {v:Value} {L':List Xz} {xs:List Value} {A0:World} {e:Ending} (h:AStN 20 A0 w5 rb ab a cap bs p' cost v L' xs) (hr:RowT w5 w.heap.size 28 2) (k0:K_ w A0) {pw:Nat} (hw:Rd w rb a cap bs pw)
  (he:e= .returned (.agg #[.int .i64 cost,v])) (h1:p<=p') (h2:p'<=p+t) (h3:1<=L'.length) (h4:L'.length<=20) (h5: -1000<=cost∧cost<=1000):DrewAction w ((w5.setCell ⟨w.heap.size,0,none⟩ (.int .i64 cost)).setCell ⟨w.heap.size,1,none⟩ v) rb a cap bs p t e:=by
 have hk1:=hr.same (o:=0) (.int .i64 cost)
 have hk2:= (hr.set (o:=0) (.int .i64 cost)).same (o:=1) v
 have hk:=hk1.trans hk2
 have hbl:Below w.heap.size w5 ((w5.setCell ⟨w.heap.size,0,none⟩ (.int .i64 cost)).setCell ⟨w.heap.size,1,none⟩ v):= ((Below.refl _ _).setCell (p:= ⟨w.heap.size,0,none⟩) (Nat.le_refl _) _).setCell (p:= ⟨w.heap.size,1,none⟩) (Nat.le_refl _) _
 have hkb:Xq rb (rb+1) w w5:= ⟨h.kb.os.trans k0.os,h.kb.tape.trans k0.tape,h.kb.output.trans k0.output,Nat.le_trans k0.size h.kb.size,fun i hi ho=> (h.kb.block i (Nat.lt_of_lt_of_le hi k0.size) ho).trans (k0.block i hi)⟩
 exact ⟨cost,v,L',p',he,h1,h2,h3,h4,h5,h.tiny,⟨_,xs,owns_kept h.own hk (by decide),h.pack.same hk (by decide) (by decide),h.nils⟩,h.rd.below hw hbl hkb.size,hkb.below hbl⟩
def Begun (A0:World) (ab rb:Nat) (a:Option Addr) (cap:Nat) (bs:List UInt8) (p:Nat) (s8:Value) (wx:World):Prop:=
 ∃(n1:Nat) (cost:Int) (p':Nat),s8= .int .i64 (1+ (n1:Int))∧n1<=3∧(1<=cost∧cost<=20)∧p<=p'∧p'<=p+4∧ASt A0 wx rb ab a cap bs p' cost (.slice none 0 0) [] []
def Priced (A0:World) (ab rb:Nat) (a:Option Addr) (cap:Nat) (bs:List UInt8) (p:Nat) (s7:Value) (wx:World):Prop:=
 ∃(cost:Int),s7= .pointer (some ⟨ab,0,none⟩)∧(1<=cost∧cost<=20)∧ASt A0 wx rb ab a cap bs (p+2) cost (.slice none 0 0) [] []
theorem d_strs_news {w:World} {ad:Addr} {l:List ByteArray} (h:Strs w (some ad) l): ∀j u,(l.map Value.string)[j]? =some u->w.cell? (ad.add j)=some u:=by
 intro j u hu
 rw [List.getElem?_map] at hu
 obtain ⟨x,hx,rfl⟩:=Option.map_eq_some_iff.1 hu
 obtain ⟨hj,hx'⟩:=List.getElem?_eq_some_iff.1 hx
 obtain ⟨b',o',e,_,hc⟩:=h j hj
 simp only [Option.some.injEq] at e
 subst e
 rw [Addr.add_mid,hc]
 simp [List.getD,hj,hx']
theorem d_cases_news {w:World} {ad:Addr} {l:List CaseD} (h:Cases w (some ad) l): ∀j u,(dCaseCells l)[j]? =some u->w.cell? (ad.add j)=some u:=by
 intro j u hu
 have hj:j < l.length * 2:=by rw [<-dCaseCells_length];exact (List.getElem?_eq_some_iff.1 hu).1
 have hi:j / 2 < l.length:=by omega
 have e:=dCaseCells_get l (j / 2) (j % 2) hi (by omega)
 rw [show j / 2 * 2+j % 2=j by omega,hu] at e
 obtain ⟨b',o',e',_,hc⟩:=h (j / 2) hi
 simp only [Option.some.injEq] at e'
 subst e'
 have:=hc (j % 2) u e.symm
 rw [Addr.add_mid]
 rw [show o'+j / 2 * 2+j % 2=o'+j by omega] at this
 exact this
def StepsN (w:World) (a:Option Addr) (l:List Xz):Prop:=
 ∀i,i < l.length->∃b o aa ca ac cc,a=some ⟨b,o,none⟩∧b < w.heap.size∧w.rangeAt b (o+i * 8) ((l.getD i Xz.zero).cells aa ca ac cc)∧Strs w aa (l.getD i Xz.zero).asks∧Cases w ac (l.getD i Xz.zero).cases∧
  (aa=none->(l.getD i Xz.zero).asks.length=0∧ca=0)∧(ac=none->(l.getD i Xz.zero).cases.length=0∧cc=0)
theorem StepsN.kept {w w':World} {a:Option Addr} {l:List Xz} (h:StepsN w a l) (k:K_ w w'):StepsN w' a l:=by
 intro i hi
 obtain ⟨b,o,aa,ca,ac,cc,ha,hb,hr,hs,hc,h1,h2⟩:=h i hi
 exact ⟨b,o,aa,ca,ac,cc,ha,Nat.lt_of_lt_of_le hb k.size,k.range hb hr,hs.kept k,hc.kept k,h1,h2⟩
def OStep (w:World) (base:Nat) (cs:List Value) (s:Xz):Prop:=
 ∃aa ca ac cc,cs=s.cells aa ca ac cc∧w.ownsRow base 9 1 (.slice aa s.asks.length ca) s.asks.length (s.asks.map Value.string)∧w.ownsRow base 72 2 (.slice ac s.cases.length cc) s.cases.length (dCaseCells s.cases)
theorem OStep.same {w w':World} {base:Nat} {cs:List Value} {s:Xz} (h:OStep w base cs s) {u:TypeId} (k:SameKind u w w') (h1:9≠u) (h2:72≠u):OStep w' base cs s:=by
 obtain ⟨aa,ca,ac,cc,e,g1,g2⟩:=h
 exact ⟨aa,ca,ac,cc,e,owns_kept g1 k h1,owns_kept g2 k h2⟩
theorem OStep.base {w:World} {base base':Nat} {cs:List Value} {s:Xz} (h:OStep w base cs s) (hb:base'<=base):OStep w base' cs s:=by
 obtain ⟨aa,ca,ac,cc,e,g1,g2⟩:=h
 exact ⟨aa,ca,ac,cc,e,owns_base g1 hb,owns_base g2 hb⟩
theorem OStep.step {w:World} {base:Nat} {cs:List Value} {s:Xz} (h:OStep w base cs s):TStep w 9 72 cs s:=by
 obtain ⟨aa,ca,ac,cc,e,g1,g2⟩:=h
 obtain ⟨a1,c1,e1,h1,t1⟩:=d_tstrs_of_owned g1
 obtain ⟨a2,c2,e2,t2⟩:=d_tcases_of_owned g2
 simp only [Value.slice.injEq,true_and] at e1 e2
 obtain ⟨rfl,rfl⟩:=e1
 obtain ⟨rfl,rfl⟩:=e2
 exact ⟨_,_,_,_,e,t1,t2,h1⟩
theorem OStep.nils {w:World} {base:Nat} {cs:List Value} {s:Xz} (h:OStep w base cs s):NilOk cs:=by
 obtain ⟨aa,ca,ac,cc,rfl,g1,g2⟩:=h
 exact nil_cells (fun e=> by subst e;exact nil_of_owned g1) (fun e=> by subst e;exact nil_of_owned g2)
def askBlk (cs:List Value):Option Nat:= (cs.getD 0 undef).ownBlock
def caseBlk (cs:List Value):Option Nat:= (cs.getD 2 undef).ownBlock
theorem OStep.blks {w:World} {base:Nat} {cs:List Value} {s:Xz} (h:OStep w base cs s): (∀b,askBlk cs=some b->base<=b∧b < w.heap.size)∧∀b,caseBlk cs=some b->base<=b∧b < w.heap.size:=by
 obtain ⟨aa,ca,ac,cc,rfl,g1,g2⟩:=h
 exact ⟨fun b hb=> g1.lt b hb,fun b hb=> g2.lt b hb⟩
def segS (xs:List Value) (i:Nat):List Value:= (xs.drop (i * 8)).take 8
structure PackedO (w:World) (base:Nat) (xs:List Value) (l:List Xz):Prop where
 len:xs.length=l.length * 8
 each: ∀i,i < l.length->OStep w base (segS xs i) (l.getD i Xz.zero)
 apart: ∀i j,i < l.length->j < l.length->i≠j->(∀b,askBlk (segS xs i)=some b->askBlk (segS xs j)≠some b)∧∀b,caseBlk (segS xs i)=some b->caseBlk (segS xs j)≠some b
theorem PackedO.nil (w:World) (base:Nat):PackedO w base [] []:= ⟨rfl,fun i hi=> by simp at hi,fun i j hi=> by simp at hi⟩
theorem PackedO.same {w w':World} {base:Nat} {xs:List Value} {l:List Xz} (h:PackedO w base xs l) {u:TypeId} (k:SameKind u w w') (h1:9≠u) (h2:72≠u):PackedO w' base xs l:=
 ⟨h.len,fun i hi=> (h.each i hi).same k h1 h2,h.apart⟩
theorem PackedO.packed {w:World} {base:Nat} {xs:List Value} {l:List Xz} (h:PackedO w base xs l):PackedS w 9 72 xs l:= ⟨h.len,fun i hi=> (h.each i hi).step⟩
theorem PackedO.push {w:World} {base H:Nat} {xs cs:List Value} {l:List Xz} {s:Xz} (h:PackedO w base xs l) (hs:OStep w H cs s) (hb:base<=H) (hold: ∀i,i < l.length->(∀b,askBlk (segS xs i)=some b->b < H)∧∀b,caseBlk (segS xs i)=some b->b < H):PackedO w base (xs++cs) (l++ [s]):=by
 have hcl:cs.length=8:=by obtain ⟨_,_,_,_,rfl,_⟩:=hs;rfl
 have hxl:=h.len
 have old: ∀i,i < l.length->segS (xs++cs) i=segS xs i∧(l++ [s]).getD i Xz.zero=l.getD i Xz.zero:=by
  intro i hi
  refine ⟨?_,by simp [List.getD,List.getElem?_append_left hi]⟩
  unfold segS
  rw [List.drop_append_of_le_length (by omega),List.take_append_of_le_length (by rw [List.length_drop];omega)]
 have new:segS (xs++cs) l.length=cs∧(l++ [s]).getD l.length Xz.zero=s:=by
  refine ⟨?_,by simp [List.getD]⟩
  unfold segS
  rw [<-hxl,List.drop_left,List.take_of_length_le (by omega)]
 refine ⟨by simp only [List.length_append,List.length_cons,List.length_nil,hxl,hcl];omega,fun i hi=> ?_,fun i j hi hj hij=> ?_⟩
 ·by_cases e:i < l.length
  ·rw [(old i e).1,(old i e).2];exact h.each i e
  ·obtain rfl:i=l.length:=by simp at hi;omega
   rw [new.1,new.2];exact hs.base hb
 ·simp only [List.length_append,List.length_cons,List.length_nil] at hi hj
  by_cases e:i < l.length
  ·by_cases e2:j < l.length
   ·rw [(old i e).1,(old j e2).1];exact h.apart i j e e2 hij
   ·obtain rfl:j=l.length:=by omega
    rw [(old i e).1,new.1]
    exact ⟨fun b hb hc=> by have:= (hold i e).1 b hb;have:= (hs.blks.1 b hc).1;omega,fun b hb hc=> by have:= (hold i e).2 b hb;have:= (hs.blks.2 b hc).1;omega⟩
  ·obtain rfl:i=l.length:=by omega
   have e2:j < l.length:=by omega
   rw [new.1,(old j e2).1]
   exact ⟨fun b hb hc=> by have:= (hold j e2).1 b hc;have:= (hs.blks.1 b hb).1;omega,fun b hb hc=> by have:= (hold j e2).2 b hc;have:= (hs.blks.2 b hb).1;omega⟩
structure CSt (w wr:World) (a:Option Addr) (n cap:Nat) (cost:Int) (v:Value) (L:List Xz) (xs:List Value):Prop where
 kept:K_ w wr
 argr:RowT wr w.heap.size 28 2
 arg:wr.cell? ⟨w.heap.size,1,none⟩=some (.slice a n cap)
 res:RowT wr (w.heap.size+1) 28 2
 out:RowT wr (w.heap.size+2) 28 2
 o0:wr.cell? ⟨w.heap.size+2,0,none⟩=some (.int .i64 cost)
 o1:wr.cell? ⟨w.heap.size+2,1,none⟩=some v
 own:wr.ownsRow w.heap.size 68 8 v L.length xs
 pack:PackedO wr w.heap.size xs L
theorem CSt.of_kept {w wr w':World} {a:Option Addr} {n cap:Nat} {cost:Int} {v:Value} {L:List Xz} {xs:List Value} (h:CSt w wr a n cap cost v L xs) (k:K_ wr w'):CSt w w' a n cap cost v L xs:=
 ⟨h.kept.trans k,h.argr.kept k,(k.cell h.argr.lt).trans h.arg,h.res.kept k,h.out.kept k,(k.cell h.out.lt).trans h.o0,(k.cell h.out.lt).trans h.o1,ownsRow_kept' h.own k,h.pack.same (u:=65) (SameKind.of_kept k) (by decide) (by decide)⟩
theorem CSt.pushRow {w wr w1 w2:World} {a:Option Addr} {n cap:Nat} {cost:Int} {v:Value} {L:List Xz} {xs:List Value} (h:CSt w wr a n cap cost v L xs) (k1:K_ wr w1) (hg:w1.grownBy w2 v.ownBlock):w2.cell? ⟨w.heap.size+2,1,none⟩=some v∧RowT w2 (w.heap.size+2) 28 2:=by
 have h1:=h.of_kept k1
 have hk:SameKind 68 w1 w2:=SameKind.of_grown h1.own hg
 obtain ⟨cur,g1,g2⟩:=h1.out
 have hb:=hk _ cur _ _ (by decide) g1
 exact ⟨by rw [World.cell?_of_block (w:=w1) (hb.trans g1.symm)];exact h1.o1,cur,hb,g2⟩
theorem CSt.push {w wr w4 w1 w2:World} {a:Option Addr} {n cap:Nat} {cost:Int} {v v':Value} {L:List Xz} {xs cs:List Value} {s:Xz} (h:CSt w wr a n cap cost v L xs) (k4:K_ wr w4) (k1:K_ w4 w1) (hs:OStep w4 wr.heap.size cs s)
  (hown:w2.ownsRow w.heap.size 68 8 v' (L.length+1) (xs++cs)) (hg:w1.grownBy w2 v.ownBlock):CSt w (w2.setCell ⟨w.heap.size+2,1,none⟩ v') a n cap cost v' (L++ [s]) (xs++cs):=by
 have h1:=h.of_kept (k4.trans k1)
 have hk:SameKind 68 w1 w2:=SameKind.of_grown h1.own hg
 have row: ∀b,RowT w1 b 28 2->RowT w2 b 28 2∧∀o,w2.cell? ⟨b,o,none⟩=w1.cell? ⟨b,o,none⟩:=by
  intro b hr
  obtain ⟨cur,g1,g2⟩:=hr
  have hb:=hk _ cur _ _ (by decide) g1
  exact ⟨⟨cur,hb,g2⟩,fun o=> World.cell?_of_block (w:=w1) (hb.trans g1.symm)⟩
 have ra:=row _ h1.argr
 have rr:=row _ h1.res
 have ro:=row _ h1.out
 have hk2:=ro.1.same (o:=1) v'
 have hz:=h.kept.size
 have hpk:PackedO w1 w.heap.size (xs++cs) (L++ [s]):=h1.pack.push (hs.same (u:=65) (SameKind.of_kept k1) (by decide) (by decide)) hz (fun i hi=> ⟨fun b hb=> ((h.pack.each i hi).blks.1 b hb).2,fun b hb=> ((h.pack.each i hi).blks.2 b hb).2⟩)
 refine ⟨(kept_of_grown h1.kept (Nat.le_refl _) h1.own hg).setCell (by simp) _,ra.1.block (Below.heap_setCell _ _ _ _ (by simp)), ?_,rr.1.block (Below.heap_setCell _ _ _ _ (by simp)),ro.1.set _,(Xj (by omega) _).trans ((ro.2 0).trans h1.o0),set_hit ro.1.row (by omega) _, ?_,(hpk.same hk (by decide) (by decide)).same hk2 (by decide) (by decide)⟩
 ·rw [World.cell?_setCell_other _ _ _ _ (by simp)];exact (ra.2 1).trans h1.arg
 ·have:=owns_kept hown hk2 (by decide)
  simpa using this
def CS1 (wr wx:World) (s:Xz) (v1 v2:Value):Prop:=K_ wr wx∧SBox wx wr.heap.size v1 v2 s∧wx.ownsRow wr.heap.size 9 1 v1 s.asks.length (s.asks.map Value.string)
def CS2 (wr wx:World) (s:Xz) (v1 v2:Value):Prop:=CS1 wr wx s v1 v2∧wx.ownsRow wr.heap.size 72 2 v2 s.cases.length (dCaseCells s.cases)
def Copied (w w':World) (cost:Int) (L:List Xz) (e:Ending):Prop:=
 ∃(v:Value) (xs:List Value),e= .returned (.agg #[.int .i64 cost,v])∧w'.ownsRow w.heap.size 68 8 v L.length xs∧PackedO w' w.heap.size xs L∧K_ w w'
theorem SBox.copied (w:World) (s:Xz) (aa:Option Addr) (ca:Nat) (ac:Option Addr) (cc:Nat):SBox (w.alloc (.cells #[.slice aa s.asks.length ca,.int .i64 s.on,.slice ac s.cases.length cc,.int .i64 s.els,.int .i64 s.fall,.bool s.fin,.bool s.bad,.string s.give] 68)) w.heap.size (.slice aa s.asks.length ca) (.slice ac s.cases.length cc) s:=by
 have hr:=Zx w #[.slice aa s.asks.length ca,.int .i64 s.on,.slice ac s.cases.length cc,.int .i64 s.els,.int .i64 s.fall,.bool s.fin,.bool s.bad,.string s.give] 68
 have hc: ∀j v,(#[.slice aa s.asks.length ca,.int .i64 s.on,.slice ac s.cases.length cc,.int .i64 s.els,.int .i64 s.fall,.bool s.fin,.bool s.bad,.string s.give]:Array Value).toList[j]? =some v->(w.alloc (.cells #[.slice aa s.asks.length ca,.int .i64 s.on,.slice ac s.cases.length cc,.int .i64 s.els,.int .i64 s.fall,.bool s.fin,.bool s.bad,.string s.give] 68)).cell? ⟨w.heap.size,j,none⟩=some v:=fun j v hv=> by
  have:=hr j v hv
  rw [Nat.zero_add] at this
  exact this
 exact ⟨RowT.made w _ _,hc 0 _ rfl,hc 1 _ rfl,hc 2 _ rfl,hc 3 _ rfl,hc 4 _ rfl,hc 5 _ rfl,hc 6 _ rfl,hc 7 _ rfl⟩
theorem CS1.mk' {wr W1 w1 w2:World} {s:Xz} {v0 v1 v2:Value} (k1:K_ wr W1) (hb:SBox W1 wr.heap.size v0 v2 s) {n0:Nat} {xs0:List Value} {u0:Value} (k2:K_ W1 w1) (hO0:w1.ownsRow wr.heap.size 9 1 u0 n0 xs0) (hg:w1.grownBy w2 u0.ownBlock)
  (hO:w2.ownsRow wr.heap.size 9 1 v1 s.asks.length (s.asks.map Value.string)):CS1 wr (w2.setCell ⟨wr.heap.size,0,none⟩ v1) s v1 v2:=by
 have hb2:SBox w2 wr.heap.size v0 v2 s:= (hb.kept k2).same (SameKind.of_grown hO0 hg) (by decide)
 exact ⟨(kept_of_grown (k1.trans k2) (Nat.le_refl _) hO0 hg).setCell (Nat.le_refl _) _,hb2.asks v1 s.asks,owns_kept hO (hb2.row.same _) (by decide)⟩
theorem CS1.box {wr W1 w1 w2:World} {s:Xz} {v0 v2:Value} (hb:SBox W1 wr.heap.size v0 v2 s) {n0:Nat} {xs0:List Value} {u0:Value} (k2:K_ W1 w1) (hO0:w1.ownsRow wr.heap.size 9 1 u0 n0 xs0) (hg:w1.grownBy w2 u0.ownBlock):SBox w2 wr.heap.size v0 v2 s:=
 (hb.kept k2).same (SameKind.of_grown hO0 hg) (by decide)
theorem CS2.mk' {wr W1 w1 w2:World} {s:Xz} {v1 v0 v2:Value} (h:CS1 wr W1 s v1 v0) {n0:Nat} {xs0:List Value} {u0:Value} (k2:K_ W1 w1) (hO0:w1.ownsRow wr.heap.size 72 2 u0 n0 xs0) (hg:w1.grownBy w2 u0.ownBlock)
  (hO:w2.ownsRow wr.heap.size 72 2 v2 s.cases.length (dCaseCells s.cases)):CS2 wr (w2.setCell ⟨wr.heap.size,2,none⟩ v2) s v1 v2:=by
 obtain ⟨h1,h2,h3⟩:=h
 have hk:=SameKind.of_grown hO0 hg
 have hb2:SBox w2 wr.heap.size v1 v0 s:= (h2.kept k2).same hk (by decide)
 exact ⟨⟨(kept_of_grown (h1.trans k2) (Nat.le_refl _) hO0 hg).setCell (Nat.le_refl _) _,hb2.cases v2 s.cases,owns_kept (owns_kept (ownsRow_kept' h3 k2) hk (by decide)) (hb2.row.same _) (by decide)⟩,owns_kept hO (hb2.row.same _) (by decide)⟩
theorem CS2.box {wr W1 w1 w2:World} {s:Xz} {v1 v0:Value} (h:CS1 wr W1 s v1 v0) {n0:Nat} {xs0:List Value} {u0:Value} (k2:K_ W1 w1) (hO0:w1.ownsRow wr.heap.size 72 2 u0 n0 xs0) (hg:w1.grownBy w2 u0.ownBlock):SBox w2 wr.heap.size v1 v0 s:=
 (h.2.1.kept k2).same (SameKind.of_grown hO0 hg) (by decide)
theorem grown_refl (w:World) (r:Option Nat):w.grownBy w r:= ⟨rfl,rfl,rfl,Nat.le_refl _,fun _ _ _=> rfl⟩
theorem emptyRow (w:World) {base:Nat} (hb:base<=w.heap.size) (t:TypeId) (size:Nat): (w.alloc (.cells #[] t)).ownsRow base t size (.slice (some ⟨w.heap.size,0,none⟩) 0 0) 0 []:=
 World.ownsRow_made w #[] 0 hb (Nat.zero_le _) (by simp)
theorem copy_any (w:World) (cost:Int) (a:Option Addr) (cap:Nat) (l:List Xz) (hl:l.length<=1000) {mN:Nat} (hmN:mN<=1000) (hs: ∀s∈l,s.TinyN mN) (hS:StepsN w a l):
  Calls Try.prog 26 #[.agg #[.int .i64 cost,.slice a l.length cap]] w fun e w'=> Copied w w' cost l e:=by
 go_enter Try.func26,Try.ntmps26
 go_wp2
 have k0:K_ w (((w.alloc (.cells #[.int .i64 cost,.slice a l.length cap] 28)).alloc (.cells #[.int .i64 0,.slice none 0 0] 28)).alloc (.cells #[.int .i64 cost,.slice none 0 0] 28)):= (((K_.refl _).alloc _).alloc _).alloc _
 go_loopg [4] l.length (fun g i wr=> ∃(k:Nat) (v:Value) (xs:List Value),k+g=l.length∧i= .int .i64 k∧CSt w wr a l.length cap cost v (l.take k) xs)
 case atStart=>
  have hO:=Zx ((w.alloc (.cells #[.int .i64 cost,.slice a l.length cap] 28)).alloc (.cells #[.int .i64 0,.slice none 0 0] 28)) #[.int .i64 cost,.slice none 0 0] 28
  simp only [World.size_alloc] at hO
  refine ⟨0,.slice none 0 0,[],by omega,rfl,⟨k0, ?_, ?_, ?_, ?_,hO 0 _ rfl,hO 1 _ rfl,World.ownsRow_nil _ _ _ _,PackedO.nil _ _⟩⟩
  ·exact RowT.kept (RowT.made w #[.int .i64 cost,.slice a l.length cap] 28) (((K_.refl _).alloc _).alloc _)
  ·rw [K_.cell (w:=w.alloc (.cells #[.int .i64 cost,.slice a l.length cap] 28)) (((K_.refl _).alloc _).alloc _) (by simp)]
   exact Zx w _ _ 1 _ rfl
  ·exact RowT.kept (by have:=RowT.made (w.alloc (.cells #[.int .i64 cost,.slice a l.length cap] 28)) #[.int .i64 0,.slice none 0 0] 28;simpa using this) ((K_.refl _).alloc _)
  ·have:=RowT.made ((w.alloc (.cells #[.int .i64 cost,.slice a l.length cap] 28)).alloc (.cells #[.int .i64 0,.slice none 0 0] 28)) #[.int .i64 cost,.slice none 0 0] 28
   simpa using this
 case round=>
  clear k0
  obtain ⟨k,v,xs,hk,rfl,hC⟩:=hrel
  have HC:=Kz hC
  have p1:=hC.arg
  have zp:=hC.argr.lt
  clear hC
  by_cases hlt:k < l.length
  ·obtain ⟨b,o,aa,ca,ac,cc,rfl,hb,hrg,hA,hCs,hna,hnc⟩:= (hS.kept HC.out.kept) k hlt
   have hty:=hs (l.getD k Xz.zero) (by simp [List.getD,hlt])
   obtain ⟨s,hsd⟩: ∃s,s=l.getD k Xz.zero:= ⟨_,rfl⟩
   rw [<-hsd] at hrg hA hCs hty hna hnc
   have HSd:=Kz hsd
   clear hsd
   have c0:=hrg 0 _ rfl
   have c1:=hrg 1 _ rfl
   have c2:=hrg 2 _ rfl
   have c3:=hrg 3 _ rfl
   have c4:=hrg 4 _ rfl
   have c5:=hrg 5 _ rfl
   have c6:=hrg 6 _ rfl
   have c7:=hrg 7 _ rfl
   rw [Nat.add_zero] at c0
   clear hrg
   have HA:=Kz hA
   have HCs:=Kz hCs
   have HB0:=Kz (SBox.copied wr s aa ca ac cc)
   have HK0:Hid (K_ wr (wr.alloc (.cells #[.slice aa s.asks.length ca,.int .i64 s.on,.slice ac s.cases.length cc,.int .i64 s.els,.int .i64 s.fall,.bool s.fin,.bool s.bad,.string s.give] 68))):= (K_.refl _).alloc _
   have hal:=hty.asks
   have hcl:=hty.cases
   have HTy:=Kz hty
   clear hA hCs hty
   have hlt': (k:Int) < l.length:=by omega
   go_upto_region 6 with fail
   obtain ⟨W1,hW1⟩: ∃W1,W1=wr.alloc (.cells #[.slice aa s.asks.length ca,.int .i64 s.on,.slice ac s.cases.length cc,.int .i64 s.els,.int .i64 s.fall,.bool s.fin,.bool s.bad,.string s.give] 68):= ⟨_,rfl⟩
   rw [<-hW1] at HB0 HK0⊢
   clear hW1 c0 c1 c2 c3 c4 c5 c6 c7 p1
   have y0:=HB0.out.c0
   have zs:=HB0.out.row.lt
   have hW1s:=HK0.out.size
   obtain ⟨_,f0⟩:=HB0.out.cell (o:=0) (by omega)
   obtain ⟨ia,ha0,ha1,ha2,ha3⟩:=dInfo_parts Try.dInfoStr
   obtain ⟨ic,hc0,hc1,hc2,hc3⟩:=dInfo_parts Try.dInfoCase
   have HE:=Kz (emptyRow W1 (base:=wr.heap.size) HK0.out.size 9 1)
   have HKE:Hid (K_ W1 (W1.alloc (.cells #[] 9))):= (K_.refl _).alloc _
   go_cut [5] from 9 to 36 (fun s5 wx=> ∃v1,s5= .pointer (some ⟨wr.heap.size,0,none⟩)∧CS1 wr wx s v1 (.slice ac s.cases.length cc))
   case first=>
    rcases aa with _ | ad
    ·obtain ⟨hn0,hca0⟩:=hna rfl
     have HNil:Hid (s.asks=[]):=List.eq_nil_of_length_eq_zero hn0
     rw [hn0,hca0] at y0
     clear hna hnc hal hn0 hca0
     go_wp2_with fail
     go_meet
     rw [<-World.setCell_alloc_past _ _ _ _ zs]
     exact ⟨_,rfl,CS1.mk' HK0.out HB0.out HKE.out HE.out (grown_refl _ _) (by rw [HNil.out];exact HE.out)⟩
    ·have HNw:=Kz (d_strs_news ((HA.out.kept HK0.out).kept HKE.out))
     have hbs:wr.heap.size<=(W1.alloc (.cells #[] 9)).heap.size:= (HK0.out.trans HKE.out).size
     clear hna hnc
     go_wp2_with (at_builtin;refine wpList_append_own _ rfl (.tmp 21) (.tmp 23) 45 rfl wr.heap.size 9 ia _ 1 16 Try.underlying45 ha0 ha1 ha2 ha3 rfl (by decide) (.slice (some ⟨W1.heap.size,0,none⟩) 0 0) 0 [] rfl HE.out ad s.asks.length ca (s.asks.map Value.string) rfl (by simp) HNw.out (d_strs_one _) (by unfold maxLen;omega) (by omega) hbs ?_;intro v1 w2 hown1 hgr1 _;rw [Nat.zero_add,List.nil_append] at hown1;obtain ⟨av1,cv1,rfl⟩:=own_slice hown1;have hb2:=CS1.box HB0.out HKE.out HE.out hgr1;have y2:=hb2.c0;have z2:=hb2.row.lt;obtain ⟨_,f2⟩:=hb2.cell (o:=0) (by omega);have HO1:=Kz hown1;have HG1:=Kz hgr1;clear hown1 hgr1 hb2)
     go_meet
     exact ⟨_,rfl,CS1.mk' HK0.out HB0.out HKE.out HE.out HG1.out HO1.out⟩
   case rest=>
    clear HE HKE y0 zs f0 hW1s
    obtain ⟨v1,rfl,h1⟩:=hcut
    obtain ⟨wd,rfl⟩: ∃wd,wd=wc:= ⟨_,rfl⟩
    have H1:=Kz h1
    clear h1 HB0 HK0
    have y2:=H1.out.2.1.c2
    have zs:=H1.out.2.1.row.lt
    obtain ⟨_,f2⟩:=H1.out.2.1.cell (o:=2) (by omega)
    have HE:=Kz (emptyRow wd (base:=wr.heap.size) H1.out.1.size 72 2)
    have HKE:Hid (K_ wd (wd.alloc (.cells #[] 72))):= (K_.refl _).alloc _
    go_upto_region 7 with fail
    go_cut [5] from 9 to 36 (fun s5 wx=> ∃v2,s5= .pointer (some ⟨wr.heap.size,0,none⟩)∧CS2 wr wx s v1 v2)
    case first=>
     rcases ac with _ | ad
     ·obtain ⟨hn0,hca0⟩:=hnc rfl
      have HNil:Hid (s.cases=[]):=List.eq_nil_of_length_eq_zero hn0
      rw [hn0,hca0] at y2
      clear hna hnc hcl hn0 hca0
      go_wp2_with fail
      go_meet
      rw [<-World.setCell_alloc_past _ _ _ _ zs]
      exact ⟨_,rfl,CS2.mk' H1.out HKE.out HE.out (grown_refl _ _) (by rw [HNil.out];exact HE.out)⟩
     ·have HNw:=Kz (d_cases_news ((HCs.out.kept H1.out.1).kept HKE.out))
      have hbs:wr.heap.size<=(wd.alloc (.cells #[] 72)).heap.size:= (H1.out.1.trans HKE.out).size
      clear hna hnc
      go_wp2_with (at_builtin;refine wpList_append_own _ rfl (.tmp 26) (.tmp 28) 66 rfl wr.heap.size 72 ic _ 2 24 Try.underlying66 hc0 hc1 hc2 hc3 rfl (by decide) (.slice (some ⟨wd.heap.size,0,none⟩) 0 0) 0 [] rfl HE.out ad s.cases.length cc (dCaseCells s.cases) rfl (dCaseCells_length _) HNw.out (dCaseCells_one _) (by unfold maxLen;omega) (by omega) hbs ?_;intro v2 w2 hown1 hgr1 _;rw [Nat.zero_add,List.nil_append] at hown1;obtain ⟨av1,cv1,rfl⟩:=own_slice hown1;have hb2:=CS2.box H1.out HKE.out HE.out hgr1;have y2:=hb2.c2;have z2:=hb2.row.lt;obtain ⟨_,f2⟩:=hb2.cell (o:=2) (by omega);have HO1:=Kz hown1;have HG1:=Kz hgr1;clear hown1 hgr1 hb2)
      go_meet
      exact ⟨_,rfl,CS2.mk' H1.out HKE.out HE.out HG1.out HO1.out⟩
    case rest=>
     clear HE HKE y2 zs f2 H1
     obtain ⟨v2,rfl,h2⟩:=hcut
     obtain ⟨⟨k4,hb4,hO1⟩,hO2⟩:=h2
     obtain ⟨aa1,ca1,rfl⟩:=own_slice hO1
     obtain ⟨ac1,cc1,rfl⟩:=own_slice hO2
     have HOS:Hid (OStep wc wr.heap.size (s.cells aa1 ca1 ac1 cc1) s):= ⟨aa1,ca1,ac1,cc1,rfl,hO1,hO2⟩
     have HB4:=Kz hb4
     have HK4:=Kz k4
     clear hO1 hO2
     have c0:=hb4.c0
     have c1:=hb4.c1
     have c2:=hb4.c2
     have c3:=hb4.c3
     have c4:=hb4.c4
     have c5:=hb4.c5
     have c6:=hb4.c6
     have c7:=hb4.c7
     have cz:=hb4.row.lt
     clear hb4 k4
     have hC4:=HC.out.of_kept HK4.out
     obtain ⟨av0,cv0,rfl⟩:=own_slice HC.out.own
     have o1:=hC4.o1
     have oz:=hC4.out.lt
     have k1:K_ wc (wc.alloc (.cells #[.slice aa1 s.asks.length ca1,.int .i64 s.on,.slice ac1 s.cases.length cc1,.int .i64 s.els,.int .i64 s.fall,.bool s.fin,.bool s.bad,.string s.give] 68)):= (K_.refl _).alloc _
     have HK1:=Kz k1
     have HOw:=Kz (hC4.of_kept k1).own
     have HBz:=Kz (hC4.of_kept k1).kept.size
     have hnews: ∀j u,(s.cells aa1 ca1 ac1 cc1)[j]? =some u->(wc.alloc (.cells #[.slice aa1 s.asks.length ca1,.int .i64 s.on,.slice ac1 s.cases.length cc1,.int .i64 s.els,.int .i64 s.fall,.bool s.fin,.bool s.bad,.string s.give] 68)).cell? ((⟨wc.heap.size,0,none⟩:Addr).add j)=some u:=fun j u hu=> by rw [Addr.add_mid];exact Zx wc #[.slice aa1 s.asks.length ca1,.int .i64 s.on,.slice ac1 s.cases.length cc1,.int .i64 s.els,.int .i64 s.fall,.bool s.fin,.bool s.bad,.string s.give] 68 j u hu
     have HNw:=Kz hnews
     obtain ⟨is,hs0,hs1,hs2,hs3⟩:=dInfo_parts Try.dInfoStep
     have htl: (l.take k).length=k:=by rw [List.length_take];omega
     rw [htl] at o1 HOw HC
     have hkb:k<=1000:=by omega
     have HTl:=Kz htl
     have HKK:=Kz (HK4.out.trans k1)
     clear k1 hnews hC4 hna hnc htl
     go_wp2_with (at_builtin;refine wpList_append_own _ rfl (.tmp 32) (.tmp 34) 26 rfl w.heap.size 68 is _ 8 96 Try.underlying26 hs0 hs1 hs2 hs3 rfl (by decide) (.slice av0 k cv0) k xs rfl HOw.out ⟨wc.heap.size,0,none⟩ 1 1 (s.cells aa1 ca1 ac1 cc1) rfl rfl HNw.out (d_step_one s aa1 ca1 ac1 cc1) (by unfold maxLen;omega) (by omega) HBz.out ?_;intro v' w2 hown2 hgr _;have hb2:=HC.out.pushRow HKK.out hgr;have z2:=hb2.2.lt;obtain ⟨⟨_,y2⟩,f2⟩:=hb2.2.row.at (i:=1) (by omega);have HO2:=Kz hown2;obtain ⟨av,cv,rfl⟩:=own_slice hown2;have HG2:=Kz hgr;clear hown2 hgr hb2)
     go_roundg (gk - 1)
     case measure=> omega
     case rel=>
      have et:l.take (k+1)=l.take k++ [s]:=by
       rw [List.take_succ_eq_append_getElem hlt,HSd.out]
       simp [List.getD,hlt]
      refine ⟨k+1,.slice av (k+1) cv,xs++s.cells aa1 ca1 ac1 cc1,by omega,by go_num, ?_⟩
      rw [et]
      exact HC.out.push HK4.out HK1.out HOS.out (by rw [HTl.out];exact HO2.out) HG2.out
  ·have hkl:k=l.length:=by omega
   subst hkl
   rw [List.take_length] at HC
   have o0:=HC.out.o0
   obtain ⟨av,cv,rfl⟩:=own_slice HC.out.own
   have o1:=HC.out.o1
   have oz:=HC.out.out.lt
   obtain ⟨⟨_,x0⟩,g0⟩:=HC.out.res.row.at (i:=0) (by omega)
   obtain ⟨⟨_,x1⟩,g1⟩:=HC.out.res.row.at (i:=1) (by omega)
   have rz:=HC.out.res.lt
   go_wp2
   have hR:=World.rangeAt_setCells_same wr (w.heap.size+1) 0 [.int .i64 cost,.slice av l.length cv] (HC.out.res.row.there (o:=0) (m:=2) (Nat.le_refl _))
   have hk1:=HC.out.res.same (o:=0) (.int .i64 cost)
   have hk2:= (HC.out.res.set (o:=0) (.int .i64 cost)).same (o:=1) (.slice av l.length cv)
   have hk:=hk1.trans hk2
   exact Zk [.int .i64 cost,.slice av l.length cv] _ Try.results26 rfl hR Try.underlying28 rfl Try.dSizeAction rfl ⟨_,xs,rfl,owns_kept HC.out.own hk (by decide),HC.out.pack.same hk (by decide) (by decide),(HC.out.kept.setCell (by simp) _).setCell (by simp) _⟩
theorem Try.dSizeStep : (Try.prog.info? 68).map (·.size)=some 8:=by kernel_rfl
def StW (w:World) (v:Value) (L:List Xz):Prop:=
 ∃a cap,v= .slice a L.length cap∧L.length<=cap∧∀i,i < L.length->∃b o cur fr cs,a=some ⟨b,o,none⟩∧w.heap[b]? =some (Obj.cells cur 68 fr)∧w.rangeAt b (o+i * 8) cs∧TStep w 9 72 cs (L.getD i Xz.zero)∧NilOk cs
theorem StW.same {w w':World} {v:Value} {L:List Xz} (h:StW w v L) {u:TypeId} (k:SameKind u w w') (h0:68≠u) (h1:9≠u) (h2:72≠u):StW w' v L:=by
 obtain ⟨a,cap,e,hc,g⟩:=h
 refine ⟨a,cap,e,hc,fun i hi=> ?_⟩
 obtain ⟨b,o,cur,fr,cs,ea,hb,hr,ht,hn⟩:=g i hi
 have hb':=k b cur _ fr h0 hb
 exact ⟨b,o,cur,fr,cs,ea,hb',fun j x hx=> by rw [World.cell?_of_block (w:=w) (hb'.trans hb.symm)];exact hr j x hx,ht.same k h1 h2,hn⟩
theorem seg_cells {w:World} {base g n cap:Nat} {xs:List Value} (h:w.ownsRow base 68 8 (.slice (some ⟨g,0,none⟩) n cap) n xs) (i:Nat):w.rangeAt g (0+i * 8) (segS xs i):=by
 intro j u hu
 unfold segS at hu
 have hj:j < 8:=by have:= (List.getElem?_eq_some_iff.1 hu).1;rw [List.length_take] at this;omega
 rw [List.getElem?_take,if_pos hj,List.getElem?_drop] at hu
 have:=h.cells (g:=g) rfl _ _ hu
 rw [Addr.add_mid] at this
 rw [Nat.add_assoc]
 exact this
theorem seg_mem {xs:List Value} {i:Nat} {u:Value} (h:u∈segS xs i):u∈xs:=List.mem_of_mem_drop (List.mem_of_mem_take h)
theorem StW.of_owned {w:World} {base:Nat} {v:Value} {L:List Xz} {xs:List Value} (h:w.ownsRow base 68 8 v L.length xs) (hp:PackedS w 9 72 xs L) (hn:NilOk xs):StW w v L:=by
 rcases h.2 with ⟨rfl,h0⟩ | ⟨g,cap,cur,rfl,hb,hg,hnc,_,_,_⟩
 ·exact ⟨none,0,by rw [h0],by omega,fun i hi=> by omega⟩
 ·exact ⟨_,cap,rfl,hnc,fun i hi=> ⟨g,0,cur,_,_,rfl,hg,seg_cells h i,hp.2 i hi,fun n c hm=> hn n c (seg_mem hm)⟩⟩
theorem PackedO.nils {w:World} {base:Nat} {xs:List Value} {l:List Xz} (h:PackedO w base xs l):NilOk xs:=by
 intro n c hm
 obtain ⟨j,hj,e⟩:=List.getElem_of_mem hm
 have hl:=h.len
 have hi:j / 8 < l.length:=by omega
 refine (h.each (j / 8) hi).nils n c ?_
 rw [<-e]
 unfold segS
 refine List.mem_of_getElem? (i:=j % 8) ?_
 rw [List.getElem?_take,if_pos (by omega),List.getElem?_drop,show j / 8 * 8+j % 8=j by omega,List.getElem?_eq_getElem hj]
def DrewW (M:Nat) (w w':World) (rb:Nat) (a:Option Addr) (cap:Nat) (bs:List UInt8) (p t:Nat) (e:Ending):Prop:=
 ∃(cost:Int) (v:Value) (L:List Xz) (p':Nat),e= .returned (.agg #[.int .i64 cost,v])∧p<=p'∧p'<=p+t∧L.length<=21∧(-1000<=cost∧cost<=1000)∧(∀s∈L,s.TinyN M)∧StW w' v L∧Rd w' rb a cap bs p'∧Xq rb (rb+1) w w'
theorem owns_other {w w':World} {base size:Nat} {e:TypeId} {v:Value} {n:Nat} {xs:List Value} (h:w.ownsRow base e size v n xs) (hb: ∀b,v.ownBlock=some b->w'.heap[b]? =w.heap[b]?):w'.ownsRow base e size v n xs:=by
 refine ⟨h.1, ?_⟩
 rcases h.2 with h2 | ⟨g,cap,cur,rfl,hb',hg,rest⟩
 ·exact .inl h2
 ·exact .inr ⟨g,cap,cur,rfl,hb',(hb g rfl).trans hg,rest⟩
def Oth (w:World) (base:Nat) (va vc:Value) (cs:List Value) (t:Xz):Prop:=OStep w base cs t∧(∀b,askBlk cs=some b->va.ownBlock≠some b)∧∀b,caseBlk cs=some b->vc.ownBlock≠some b
theorem Oth.same {w w':World} {base:Nat} {va vc:Value} {cs:List Value} {t:Xz} (h:Oth w base va vc cs t) {u:TypeId} (k:SameKind u w w') (h1:9≠u) (h2:72≠u):Oth w' base va vc cs t:= ⟨h.1.same k h1 h2,h.2⟩
theorem Oth.grownAsk {w1 w2:World} {base:Nat} {va vc v':Value} {cs:List Value} {t:Xz} (h:Oth w1 base va vc cs t) {n:Nat} {xs:List Value} (ho:w1.ownsRow base 9 1 va n xs) (hg:w1.grownBy w2 va.ownBlock) (hat:v'.ownBlock=va.ownBlock∨v'.ownBlock=some w1.heap.size):Oth w2 base v' vc cs t:=by
 have hb:=h.1.blks
 obtain ⟨⟨aa,ca,ac,cc,rfl,g1,g2⟩,d1,d2⟩:=h
 refine ⟨⟨aa,ca,ac,cc,rfl,owns_other g1 (fun b hb'=> hg.block b (hb.1 b hb').2 (fun e=> d1 b hb' e.symm)),owns_kept g2 (SameKind.of_grown ho hg) (by decide)⟩,fun b hb'=> ?_,d2⟩
 rcases hat with e | e
 ·rw [e];exact d1 b hb'
 ·rw [e];intro e2;have:= (hb.1 b hb').2;simp only [Option.some.injEq] at e2;omega
theorem Oth.grownCase {w1 w2:World} {base:Nat} {va vc v':Value} {cs:List Value} {t:Xz} (h:Oth w1 base va vc cs t) {n:Nat} {xs:List Value} (ho:w1.ownsRow base 72 2 vc n xs) (hg:w1.grownBy w2 vc.ownBlock) (hat:v'.ownBlock=vc.ownBlock∨v'.ownBlock=some w1.heap.size):Oth w2 base va v' cs t:=by
 have hb:=h.1.blks
 obtain ⟨⟨aa,ca,ac,cc,rfl,g1,g2⟩,d1,d2⟩:=h
 refine ⟨⟨aa,ca,ac,cc,rfl,owns_kept g1 (SameKind.of_grown ho hg) (by decide),owns_other g2 (fun b hb'=> hg.block b (hb.2 b hb').2 (fun e=> d2 b hb' e.symm))⟩,d1,fun b hb'=> ?_⟩
 rcases hat with e | e
 ·rw [e];exact d2 b hb'
 ·rw [e];intro e2;have:= (hb.2 b hb').2;simp only [Option.some.injEq] at e2;omega
structure SpSt (M:Nat) (w wr:World) (rb ob sb:Nat) (a:Option Addr) (cap:Nat) (bs:List UInt8) (p:Nat) (cost:Int) (v:Value) (L:List Xz) (xs:List Value) (k:Nat) (va vc:Value) (s:Xz):Prop where
 st:SStN M w wr rb sb a cap bs p va vc s
 obl:w.heap.size<=ob
 row:RowT wr ob 28 2
 c0:wr.cell? ⟨ob,0,none⟩=some (.int .i64 cost)
 c1:wr.cell? ⟨ob,1,none⟩=some v
 own:wr.ownsRow w.heap.size 68 8 v L.length xs
 sbn:v.ownBlock≠some sb
 len:xs.length=L.length * 8
 kl:k < L.length
 oth: ∀i,i < L.length->i≠k->Oth wr w.heap.size va vc (segS xs i) (L.getD i Xz.zero)
 tiny: ∀s∈L,s.TinyN M
theorem RowT.sameT {w w':World} {b n:Nat} {t u:TypeId} (h:RowT w b t n) (k:SameKind u w w') (hu:t≠u):RowT w' b t n∧∀o,w'.cell? ⟨b,o,none⟩=w.cell? ⟨b,o,none⟩:=by
 obtain ⟨cur,g1,g2⟩:=h
 have hb:=k _ cur _ _ hu g1
 exact ⟨⟨cur,hb,g2⟩,fun o=> World.cell?_of_block (w:=w) (hb.trans g1.symm)⟩
theorem SpSt.drawn {M:Nat} {w wr w':World} {rb ob sb:Nat} {a:Option Addr} {cap:Nat} {bs:List UInt8} {p p':Nat} {cost:Int} {v:Value} {L:List Xz} {xs:List Value} {k:Nat} {va vc:Value} {s:Xz} (h:SpSt M w wr rb ob sb a cap bs p cost v L xs k va vc s) (hR:Rd w' rb a cap bs p') (kb:Xq rb (rb+1) wr w'):SpSt M w w' rb ob sb a cap bs p' cost v L xs k va vc s:=by
 have hk:=kb.sameKind h.st.rd
 have hr:=h.row.sameT hk (by decide)
 exact ⟨h.st.drawn hR kb,h.obl,hr.1,(hr.2 0).trans h.c0,(hr.2 1).trans h.c1,owns_kept h.own hk (by decide),h.sbn,h.len,h.kl,fun i hi hn=> (h.oth i hi hn).same hk (by decide) (by decide),h.tiny⟩
theorem SpSt.kept {M:Nat} {w wr w':World} {rb ob sb:Nat} {a:Option Addr} {cap:Nat} {bs:List UInt8} {p:Nat} {cost:Int} {v:Value} {L:List Xz} {xs:List Value} {k:Nat} {va vc:Value} {s:Xz} (h:SpSt M w wr rb ob sb a cap bs p cost v L xs k va vc s) (kk:K_ wr w'):SpSt M w w' rb ob sb a cap bs p cost v L xs k va vc s:=h.drawn (h.st.rd.kept kk) (.of_kept kk)
theorem SpSt.field {M:Nat} {w wr:World} {rb ob sb:Nat} {a:Option Addr} {cap:Nat} {bs:List UInt8} {p:Nat} {cost:Int} {v:Value} {L:List Xz} {xs:List Value} {k:Nat} {va vc:Value} {s s':Xz} (h:SpSt M w wr rb ob sb a cap bs p cost v L xs k va vc s) {o:Nat} {x:Value} (hb:SBox (wr.setCell ⟨sb,o,none⟩ x) sb va vc s') (ha:s'.asks=s.asks) (hc:s'.cases=s.cases) (ht:s'.TinyN M):SpSt M w (wr.setCell ⟨sb,o,none⟩ x) rb ob sb a cap bs p cost v L xs k va vc s':=by
 have hk:=h.st.box.row.same (o:=o) x
 have hr:=h.row.sameT hk (by decide)
 exact ⟨h.st.field hb ha hc ht,h.obl,hr.1,(hr.2 0).trans h.c0,(hr.2 1).trans h.c1,owns_other h.own (fun b hb'=> Below.heap_setCell _ _ _ _ (fun e=> h.sbn (by rw [hb',e]))),h.sbn,h.len,h.kl,fun i hi hn=> (h.oth i hi hn).same hk (by decide) (by decide),h.tiny⟩
theorem SpSt.addAsk {M:Nat} {w wr w1 w2:World} {rb ob sb:Nat} {a:Option Addr} {cap:Nat} {bs:List UInt8} {p:Nat} {cost:Int} {v:Value} {L:List Xz} {xs:List Value} {k:Nat} {va vc v':Value} {s:Xz} {x:ByteArray} (h:SpSt M w wr rb ob sb a cap bs p cost v L xs k va vc s) (k1:K_ wr w1)
  (hown:w2.ownsRow w.heap.size 9 1 v' (s.asks.length+1) (s.asks.map Value.string++ [.string x])) (hg:w1.grownBy w2 va.ownBlock) (hat:v'.ownBlock=va.ownBlock∨v'.ownBlock=some w1.heap.size) (hl:s.asks.length+1<=M) (hx:x.size<=300):SpSt M w (w2.setCell ⟨sb,0,none⟩ v') rb ob sb a cap bs p cost v L xs k v' vc { s with asks:=s.asks++ [x] }:=by
 have h1:=h.kept k1
 have hk:SameKind 9 w1 w2:=SameKind.of_grown h1.st.asks hg
 have hb2:=h1.st.box.same hk (by decide)
 have hk2:=hb2.row.same (o:=0) v'
 have hr1:=h1.row.sameT hk (by decide)
 have hr2:=hr1.1.sameT hk2 (by decide)
 exact ⟨h.st.addAsk k1 hown hg hl hx,h.obl,hr2.1,(hr2.2 0).trans ((hr1.2 0).trans h1.c0),(hr2.2 1).trans ((hr1.2 1).trans h1.c1),owns_other (owns_kept h1.own hk (by decide)) (fun b hb'=> Below.heap_setCell _ _ _ _ (fun e=> h.sbn (by rw [hb',e]))),h.sbn,h.len,h.kl,
  fun i hi hn=> ((h1.oth i hi hn).grownAsk h1.st.asks hg hat).same hk2 (by decide) (by decide),h.tiny⟩
theorem SpSt.addCase {M:Nat} {w wr w1 w2:World} {rb ob sb:Nat} {a:Option Addr} {cap:Nat} {bs:List UInt8} {p:Nat} {cost:Int} {v:Value} {L:List Xz} {xs:List Value} {k:Nat} {va vc v':Value} {s:Xz} {x:CaseD} (h:SpSt M w wr rb ob sb a cap bs p cost v L xs k va vc s) (k1:K_ wr w1)
  (hown:w2.ownsRow w.heap.size 72 2 v' (s.cases.length+1) (dCaseCells s.cases++x.cells)) (hg:w1.grownBy w2 vc.ownBlock) (hat:v'.ownBlock=vc.ownBlock∨v'.ownBlock=some w1.heap.size) (hl:s.cases.length+1<=M) (hx:x.Tiny):SpSt M w (w2.setCell ⟨sb,2,none⟩ v') rb ob sb a cap bs p cost v L xs k va v' { s with cases:=s.cases++ [x] }:=by
 have h1:=h.kept k1
 have hk:SameKind 72 w1 w2:=SameKind.of_grown h1.st.cases hg
 have hb2:=h1.st.box.same hk (by decide)
 have hk2:=hb2.row.same (o:=2) v'
 have hr1:=h1.row.sameT hk (by decide)
 have hr2:=hr1.1.sameT hk2 (by decide)
 exact ⟨h.st.addCase k1 hown hg hl hx,h.obl,hr2.1,(hr2.2 0).trans ((hr1.2 0).trans h1.c0),(hr2.2 1).trans ((hr1.2 1).trans h1.c1),owns_other (owns_kept h1.own hk (by decide)) (fun b hb'=> Below.heap_setCell _ _ _ _ (fun e=> h.sbn (by rw [hb',e]))),h.sbn,h.len,h.kl,
  fun i hi hn=> ((h1.oth i hi hn).grownCase h1.st.cases hg hat).same hk2 (by decide) (by decide),h.tiny⟩
theorem SpSt.cost {M:Nat} {w wr:World} {rb ob sb:Nat} {a:Option Addr} {cap:Nat} {bs:List UInt8} {p:Nat} {cost x:Int} {v:Value} {L:List Xz} {xs:List Value} {k:Nat} {va vc:Value} {s:Xz} (h:SpSt M w wr rb ob sb a cap bs p cost v L xs k va vc s):SpSt M w (wr.setCell ⟨ob,0,none⟩ (.int .i64 x)) rb ob sb a cap bs p x v L xs k va vc s:=by
 have hk:=h.row.same (o:=0) (.int .i64 x)
 have hbl:Below w.heap.size wr (wr.setCell ⟨ob,0,none⟩ (.int .i64 x)):= (Below.refl _ _).setCell h.obl _
 obtain ⟨p0,h0⟩:=h.st.rd0
 have st:SStN M w (wr.setCell ⟨ob,0,none⟩ (.int .i64 x)) rb sb a cap bs p va vc s:= ⟨h.st.rd.below h0 hbl h.st.kb.size,h.st.rd0,h.st.sbl,h.st.kb.below hbl,h.st.box.same hk (by decide),owns_kept h.st.asks hk (by decide),owns_kept h.st.cases hk (by decide),h.st.tiny⟩
 exact ⟨st,h.obl,h.row.set _,set_hit h.row.row (by omega) _,(Xj (by omega) _).trans h.c1,owns_kept h.own hk (by decide),h.sbn,h.len,h.kl,fun i hi hn=> (h.oth i hi hn).same hk (by decide) (by decide),h.tiny⟩
theorem RowT.setCells {g n:Nat} {t:TypeId}: ∀(vs:List Value) (o:Nat) {w:World},RowT w g t n->RowT (w.setCells g o vs) g t n∧SameKind t w (w.setCells g o vs)
 | [],_,_,h=> ⟨h,SameKind.refl _ _⟩
 | v :: r,o,_,h=> by
  rw [World.setCells]
  have:=RowT.setCells r (o+1) (h.set (o:=o) v)
  exact ⟨this.1,(h.same (o:=o) v).trans this.2⟩
theorem Below.setCells' {B g:Nat} (hg:B<=g): ∀(vs:List Value) (o:Nat) {a w:World},Below B a w->Below B a (w.setCells g o vs)
 | [],_,_,_,h=> h
 | v :: r,o,_,_,h=> by
  rw [World.setCells]
  exact Below.setCells' hg r (o+1) (h.setCell (p:= ⟨g,o,none⟩) hg v)
structure FinSt (M:Nat) (w wr:World) (rb ob:Nat) (a:Option Addr) (cap:Nat) (bs:List UInt8) (p:Nat) (cost:Int) (v:Value) (L:List Xz):Prop where
 rd:Rd wr rb a cap bs p
 kb:Xq rb (rb+1) w wr
 row:RowT wr ob 28 2
 c0:wr.cell? ⟨ob,0,none⟩=some (.int .i64 cost)
 c1:wr.cell? ⟨ob,1,none⟩=some v
 stw:StW wr v L
 tiny: ∀s∈L,s.TinyN M
theorem SpSt.store {M:Nat} {w wr:World} {rb ob sb:Nat} {a:Option Addr} {cap:Nat} {bs:List UInt8} {p:Nat} {cost:Int} {L:List Xz} {xs:List Value} {k g cv:Nat} {aa ac:Option Addr} {ca cc:Nat} {s:Xz} (h:SpSt M w wr rb ob sb a cap bs p cost (.slice (some ⟨g,0,none⟩) L.length cv) L xs k (.slice aa s.asks.length ca) (.slice ac s.cases.length cc) s):
  FinSt M w (wr.setCells g (k * 8) (s.cells aa ca ac cc)) rb ob a cap bs p cost (.slice (some ⟨g,0,none⟩) L.length cv) (L.set k s):=by
 have hkl:=h.kl
 have hlen:=h.len
 rcases h.own.2 with ⟨e,_⟩ | ⟨g',cap',cur,e,hb,hg,hnc,_,hcz,_⟩
 ·simp at e
 simp only [Value.slice.injEq,Option.some.injEq,Addr.mk.injEq,and_true,true_and] at e
 obtain ⟨rfl,rfl⟩:=e
 have hrow:RowT wr g 68 (cv * 8):= ⟨cur,hg,hcz⟩
 have hs:=RowT.setCells (s.cells aa ca ac cc) (k * 8) hrow
 have hr:=h.row.sameT hs.2 (by decide)
 have hbl:Below w.heap.size wr (wr.setCells g (k * 8) (s.cells aa ca ac cc)):=Below.setCells' hb _ _ (Below.refl _ _)
 obtain ⟨p0,h0⟩:=h.st.rd0
 obtain ⟨cur',hg',_⟩:=hs.1
 refine ⟨h.st.rd.below h0 hbl h.st.kb.size,h.st.kb.below hbl,hr.1,(hr.2 0).trans h.c0,(hr.2 1).trans h.c1,⟨some ⟨g,0,none⟩,cv,by rw [List.length_set],by rw [List.length_set];exact hnc,fun i hi=> ?_⟩,fun t ht=> ?_⟩
 ·rw [List.length_set] at hi
  by_cases e:i=k
  ·subst e
   refine ⟨g,0,cur',_,s.cells aa ca ac cc,rfl,hg', ?_, ?_, ?_⟩
   ·rw [Nat.zero_add]
    exact World.rangeAt_setCells_same wr g (i * 8) (s.cells aa ca ac cc) (hrow.row.there (by show i * 8+8<=cv * 8;omega))
   ·have e1: (L.set i s).getD i Xz.zero=s:=by simp [List.getD,hi]
    rw [e1]
    exact (OStep.step ⟨aa,ca,ac,cc,rfl,h.st.asks,h.st.cases⟩).same hs.2 (by decide) (by decide)
   ·exact OStep.nils ⟨aa,ca,ac,cc,rfl,h.st.asks,h.st.cases⟩
  ·have ho:= (h.oth i hi e).1
   have hcl: (segS xs i).length=8:=by obtain ⟨_,_,_,_,e',_⟩:=ho;rw [e'];rfl
   refine ⟨g,0,cur',_,segS xs i,rfl,hg', ?_, ?_,ho.nils⟩
   ·refine World.rangeAt_setCells_apart (seg_cells h.own i) g (k * 8) _ (.inr ?_)
    show 0+i * 8+ (segS xs i).length<=k * 8∨k * 8+8<=0+i * 8
    rw [hcl]
    omega
   ·have e1: (L.set k s).getD i Xz.zero=L.getD i Xz.zero:=by simp [List.getD,Ne.symm e]
    rw [e1]
    exact ho.step.same hs.2 (by decide) (by decide)
 ·rcases List.mem_or_eq_of_mem_set ht with h1 | rfl
  ·exact h.tiny t h1
  ·exact h.st.tiny
theorem FinSt.ends {M:Nat} {w A0 wr:World} {rb ob qb:Nat} {a:Option Addr} {cap:Nat} {bs:List UInt8} {p p' t:Nat} {cost:Int} {v:Value} {L:List Xz} {e:Ending} (h:FinSt M A0 wr rb ob a cap bs p' cost v L) (hr:RowT wr qb 28 2) (hq:w.heap.size<=qb) (k0:K_ w A0) {pw:Nat} (hw:Rd w rb a cap bs pw)
  (he:e= .returned (.agg #[.int .i64 cost,v])) (h1:p<=p') (h2:p'<=p+t) (h4:L.length<=21) (h5: -1000<=cost∧cost<=1000):DrewW M w ((wr.setCell ⟨qb,0,none⟩ (.int .i64 cost)).setCell ⟨qb,1,none⟩ v) rb a cap bs p t e:=by
 have hk1:=hr.same (o:=0) (.int .i64 cost)
 have hk2:= (hr.set (o:=0) (.int .i64 cost)).same (o:=1) v
 have hk:=hk1.trans hk2
 have hbl:Below w.heap.size wr ((wr.setCell ⟨qb,0,none⟩ (.int .i64 cost)).setCell ⟨qb,1,none⟩ v):= ((Below.refl _ _).setCell (p:= ⟨qb,0,none⟩) hq _).setCell (p:= ⟨qb,1,none⟩) hq _
 have hkb:Xq rb (rb+1) w wr:= ⟨h.kb.os.trans k0.os,h.kb.tape.trans k0.tape,h.kb.output.trans k0.output,Nat.le_trans k0.size h.kb.size,fun i hi ho=> (h.kb.block i (Nat.lt_of_lt_of_le hi k0.size) ho).trans (k0.block i hi)⟩
 exact ⟨cost,v,L,p',he,h1,h2,h4,h5,h.tiny,h.stw.same hk (by decide) (by decide) (by decide),h.rd.below hw hbl hkb.size,hkb.below hbl⟩
theorem SpSt.made {M:Nat} {A0 w3:World} {rb ob:Nat} {a:Option Addr} {cap:Nat} {bs:List UInt8} {p p0:Nat} {cost:Int} {v:Value} {L:List Xz} {xs:List Value} {k:Nat} {s:Xz} {aa ac:Option Addr} {ca cc:Nat} (hR:Rd w3 rb a cap bs p) (hR0:Rd A0 rb a cap bs p0) (kb:Xq rb (rb+1) A0 w3) (hob:A0.heap.size<=ob) (hrow:RowT w3 ob 28 2)
  (c0:w3.cell? ⟨ob,0,none⟩=some (.int .i64 cost)) (c1:w3.cell? ⟨ob,1,none⟩=some v) (own:w3.ownsRow A0.heap.size 68 8 v L.length xs) (pk:PackedO w3 A0.heap.size xs L) (hk:k < L.length) (hty: ∀s∈L,s.TinyN M) (hs:s=L.getD k Xz.zero) (hcs:segS xs k=s.cells aa ca ac cc):
  SpSt M A0 (w3.alloc (.cells #[.slice aa s.asks.length ca,.int .i64 s.on,.slice ac s.cases.length cc,.int .i64 s.els,.int .i64 s.fall,.bool s.fin,.bool s.bad,.string s.give] 68)) rb ob w3.heap.size a cap bs p cost v L xs k (.slice aa s.asks.length ca) (.slice ac s.cases.length cc) s:=by
 have kk:K_ w3 (w3.alloc (.cells #[.slice aa s.asks.length ca,.int .i64 s.on,.slice ac s.cases.length cc,.int .i64 s.els,.int .i64 s.fall,.bool s.fin,.bool s.bad,.string s.give] 68)):= (K_.refl _).alloc _
 have hst:s.TinyN M:=hty s (by rw [hs];simp [List.getD,hk])
 have hO:=pk.each k hk
 rw [hcs,<-hs] at hO
 obtain ⟨aa',ca',ac',cc',e,g1,g2⟩:=hO
 simp only [Xz.cells,List.cons.injEq,Value.slice.injEq,true_and,and_true] at e
 obtain ⟨⟨rfl,rfl⟩,rfl,rfl⟩:=e
 refine ⟨⟨hR.kept kk,⟨p0,hR0⟩,kb.size,kb.and_kept kk,SBox.copied w3 s aa ca ac cc,ownsRow_kept' g1 kk,ownsRow_kept' g2 kk,hst⟩,hob,hrow.kept kk,(kk.cell hrow.lt).trans c0,(kk.cell hrow.lt).trans c1,ownsRow_kept' own kk,fun e=> ?_,pk.len,hk,fun i hi hn=> ⟨(pk.each i hi).same (u:=65) (SameKind.of_kept kk) (by decide) (by decide),fun b hb=> ?_,fun b hb=> ?_⟩,hty⟩
 ·have:= (own.lt _ e).2;omega
 ·have:= (pk.apart i k hi hk hn).1 b hb
  rw [hcs] at this
  exact this
 ·have:= (pk.apart i k hi hk hn).2 b hb
  rw [hcs] at this
  exact this
theorem FinSt.made {M:Nat} {A0 wr:World} {rb ob:Nat} {a:Option Addr} {cap:Nat} {bs:List UInt8} {p:Nat} {cost:Int} {v:Value} {L:List Xz} {xs:List Value} (hR:Rd wr rb a cap bs p) (kb:Xq rb (rb+1) A0 wr) (hrow:RowT wr ob 28 2)
  (c0:wr.cell? ⟨ob,0,none⟩=some (.int .i64 cost)) (c1:wr.cell? ⟨ob,1,none⟩=some v) (own:wr.ownsRow A0.heap.size 68 8 v L.length xs) (pk:PackedO wr A0.heap.size xs L) (hty: ∀s∈L,s.TinyN M):FinSt M A0 wr rb ob a cap bs p cost v L:=
 ⟨hR,kb,hrow,c0,c1,StW.of_owned own pk.packed pk.nils,hty⟩
theorem lit_int {w w5:World} {rb:Nat} {t:TypeId} (cs:List Int) (k:Xq rb (rb+1) (w.alloc (.cells (cs.map (Value.int .i64)).toArray t)) w5) (hrb:rb < w.heap.size) (q:Nat) (hq:q < cs.length) (hb: ∀c∈cs, -1000<=c∧c<=1000): ∃c,w5.cell? ⟨w.heap.size,q,none⟩=some (.int .i64 c)∧ -1000<=c∧c<=1000:=by
 refine ⟨cs[q], ?_,hb _ (List.getElem_mem hq)⟩
 rw [k.cell (by simp) (by omega),World.cell?_alloc_mark]
 simp [hq]
def GStrs (w:World) (a:Option Addr) (l:List ByteArray):Prop:=
 l=[]∨∃b o cur fr,a=some ⟨b,o,none⟩∧w.heap[b]? =some (Obj.cells cur 9 fr)∧∀i,i < l.length->w.cell? ⟨b,o+i,none⟩=some (.string (l.getD i ByteArray.empty))
theorem GStrs.same {w w':World} {u:TypeId} {a:Option Addr} {l:List ByteArray} (h:GStrs w a l) (k:SameKind u w w') (hu:9≠u):GStrs w' a l:=by
 rcases h with h | ⟨b,o,cur,fr,ha,hb,hc⟩
 ·exact .inl h
 ·have hb':=k b cur _ fr hu hb
  exact .inr ⟨b,o,cur,fr,ha,hb',fun i hi=> by rw [World.cell?_of_block (w:=w) (hb'.trans hb.symm)];exact hc i hi⟩
theorem GStrs.strs {w:World} {a:Option Addr} {l:List ByteArray} (h:GStrs w a l):Strs w a l:=by
 rcases h with rfl | ⟨b,o,cur,fr,ha,hb,hc⟩
 ·intro i hi;simp at hi
 ·exact fun i hi=> ⟨b,o,ha,heap_lt hb,hc i hi⟩
theorem TStrs.g {w:World} {a:Option Addr} {l:List ByteArray} (h:TStrs w 9 a l):GStrs w a l:=by
 rcases h with h | ⟨b,cur,fr,ha,hb,hc⟩
 ·exact .inl h
 ·exact .inr ⟨b,0,cur,fr,ha,hb,fun i hi=> by rw [Nat.zero_add];exact hc i hi⟩
theorem GStrs.tail {w:World} {b o n:Nat} {l:List ByteArray} {cur:Array Value} {fr:Nat×Nat} (hb:w.heap[b]? =some (Obj.cells cur 9 fr)) (hc: ∀i,i < l.length->w.cell? ⟨b,o+i,none⟩=some (.string (l.getD i ByteArray.empty))) {a:Option Addr} (ha:l.drop n≠[]->a=some ⟨b,o+n,none⟩):GStrs w a (l.drop n):=by
 by_cases h:l.drop n=[]
 ·exact .inl h
 ·refine .inr ⟨b,o+n,cur,fr,ha h,hb,fun i hi=> ?_⟩
  rw [List.length_drop] at hi
  have:=hc (n+i) (by omega)
  rw [Nat.add_assoc,this]
  simp [List.getD,List.getElem?_drop]
def GStep (w:World) (cs:List Value) (s:Xz):Prop:= ∃aa ca ac cc,cs=s.cells aa ca ac cc∧GStrs w aa s.asks∧TCases w 72 ac s.cases∧s.asks.length<=ca
theorem GStep.same {w w':World} {u:TypeId} {cs:List Value} {s:Xz} (h:GStep w cs s) (k:SameKind u w w') (h1:9≠u) (h2:72≠u):GStep w' cs s:=by
 obtain ⟨aa,ca,ac,cc,e,g1,g2,g3⟩:=h
 exact ⟨aa,ca,ac,cc,e,g1.same k h1,g2.same k h2,g3⟩
theorem TStep.g {w:World} {cs:List Value} {s:Xz} (h:TStep w 9 72 cs s):GStep w cs s:=by
 obtain ⟨aa,ca,ac,cc,e,g1,g2,g3⟩:=h
 exact ⟨aa,ca,ac,cc,e,g1.g,g2,g3⟩
def GSteps (w:World) (v:Value) (L:List Xz):Prop:=
 ∃a cap,v= .slice a L.length cap∧L.length<=cap∧∀i,i < L.length->∃b o cur fr cs,a=some ⟨b,o,none⟩∧w.heap[b]? =some (Obj.cells cur 68 fr)∧w.rangeAt b (o+i * 8) cs∧GStep w cs (L.getD i Xz.zero)∧NilOk cs
theorem GSteps.same {w w':World} {v:Value} {L:List Xz} (h:GSteps w v L) {u:TypeId} (k:SameKind u w w') (h0:68≠u) (h1:9≠u) (h2:72≠u):GSteps w' v L:=by
 obtain ⟨a,cap,e,hc,g⟩:=h
 refine ⟨a,cap,e,hc,fun i hi=> ?_⟩
 obtain ⟨b,o,cur,fr,cs,ea,hb,hr,ht,hn⟩:=g i hi
 have hb':=k b cur _ fr h0 hb
 exact ⟨b,o,cur,fr,cs,ea,hb',fun j x hx=> by rw [World.cell?_of_block (w:=w) (hb'.trans hb.symm)];exact hr j x hx,ht.same k h1 h2,hn⟩
theorem StW.g {w:World} {v:Value} {L:List Xz} (h:StW w v L):GSteps w v L:=by
 obtain ⟨a,cap,e,hc,g⟩:=h
 refine ⟨a,cap,e,hc,fun i hi=> ?_⟩
 obtain ⟨b,o,cur,fr,cs,ea,hb,hr,ht,hn⟩:=g i hi
 exact ⟨b,o,cur,fr,cs,ea,hb,hr,ht.g,hn⟩
theorem GSteps.stepsN {w:World} {v:Value} {L:List Xz} (h:GSteps w v L): ∃a cap,v= .slice a L.length cap∧L.length<=cap∧StepsN w a L:=by
 obtain ⟨a,cap,e,hc,g⟩:=h
 refine ⟨a,cap,e,hc,fun i hi=> ?_⟩
 obtain ⟨b,o,cur,fr,cs,ea,hb,hr,⟨aa,ca,ac,cc,rfl,s1,s2,s3⟩,hn⟩:=g i hi
 refine ⟨b,o,aa,ca,ac,cc,ea,heap_lt hb,hr,s1.strs,s2.cases,fun ha=> ?_,fun ha=> ?_⟩
 ·subst ha;exact hn _ _ (by simp [Xz.cells])
 ·subst ha;exact hn _ _ (by simp [Xz.cells])
theorem GSteps.steps {w:World} {a:Option Addr} {n cap:Nat} {L:List Xz} (h:GSteps w (.slice a n cap) L):Steps w a L:=by
 obtain ⟨a',cap',e,hc,g⟩:=h
 simp only [Value.slice.injEq] at e
 obtain ⟨rfl,rfl,rfl⟩:=e
 intro i hi
 obtain ⟨b,o,cur,fr,cs,ea,hb,hr,⟨aa,ca,ac,cc,rfl,s1,s2,s3⟩,hn⟩:=g i hi
 exact ⟨b,o,_,ea,heap_lt hb,hr,aa,ca,ac,cc,rfl,s1.strs,s2.cases,s3⟩
theorem GSteps.slice {w:World} {v:Value} {L:List Xz} (h:GSteps w v L): ∃a cap,v= .slice a L.length cap:=let ⟨a,cap,e,_⟩:=h;⟨a,cap,e⟩
def PackedG (w:World) (xs:List Value) (l:List Q_):Prop:=
 xs.length=l.length * 3∧∀i,i < l.length->∃v,(xs.drop (i * 3)).take 3=[.string (l.getD i Q_.zero).name,.int .i64 (l.getD i Q_.zero).cost,v]∧GSteps w v (l.getD i Q_.zero).steps
theorem PackedG.nil (w:World):PackedG w [] []:= ⟨rfl,fun i hi=> by simp at hi⟩
theorem PackedG.same {w w':World} {u:TypeId} {xs:List Value} {l:List Q_} (h:PackedG w xs l) (k:SameKind u w w') (h0:68≠u) (h1:9≠u) (h2:72≠u):PackedG w' xs l:=
 ⟨h.1,fun i hi=> by obtain ⟨v,e,g⟩:=h.2 i hi;exact ⟨v,e,g.same k h0 h1 h2⟩⟩
theorem PackedG.snoc {w:World} {xs:List Value} {l:List Q_} {d:Q_} {v:Value} (h:PackedG w xs l) (hv:GSteps w v d.steps):PackedG w (xs++ [.string d.name,.int .i64 d.cost,v]) (l++ [d]):=by
 refine ⟨by simp [h.1];omega,fun i hi=> ?_⟩
 rw [List.length_append] at hi
 simp only [List.length_cons,List.length_nil] at hi
 by_cases e:i < l.length
 ·have e1: (l++ [d]).getD i Q_.zero=l.getD i Q_.zero:=by simp [List.getD,List.getElem?_append_left e]
  have e2: ((xs++ [.string d.name,.int .i64 d.cost,v]).drop (i * 3)).take 3= (xs.drop (i * 3)).take 3:=by
   rw [List.drop_append_of_le_length (by rw [h.1];omega),List.take_append_of_le_length (by rw [List.length_drop,h.1];omega)]
  rw [e1,e2]
  exact h.2 i e
 ·obtain rfl:i=l.length:=by omega
  have e1: (l++ [d]).getD l.length Q_.zero=d:=by simp [List.getD]
  have e2: ((xs++ [.string d.name,.int .i64 d.cost,v]).drop (l.length * 3)).take 3=[.string d.name,.int .i64 d.cost,v]:=by
   rw [<-h.1,List.drop_left]
   rfl
  rw [e1,e2]
  exact ⟨v,rfl,hv⟩
def NodesG (w:World) (a:Option Addr) (l:List Q_):Prop:=
 ∀i,i < l.length->∃b o sa sc,a=some ⟨b,o,none⟩∧b < w.heap.size∧w.rangeAt b (o+i * 3) ((l.getD i Q_.zero).cells sa sc)∧StepsN w sa (l.getD i Q_.zero).steps
theorem NodesG.kept {w w':World} {a:Option Addr} {l:List Q_} (h:NodesG w a l) (k:K_ w w'):NodesG w' a l:=by
 intro i hi
 obtain ⟨b,o,sa,sc,ha,hb,hr,hs⟩:=h i hi
 exact ⟨b,o,sa,sc,ha,Nat.lt_of_lt_of_le hb k.size,k.range hb hr,hs.kept k⟩
def GNodes (w:World) (v:Value) (l:List Q_):Prop:=
 ∃a cap,v= .slice a l.length cap∧l.length<=cap∧((a=none->cap=0)∧∀ad,a=some ad->ad.spot=none)∧∀i,i < l.length->∃b o cur fr u,a=some ⟨b,o,none⟩∧w.heap[b]? =some (Obj.cells cur 30 fr)∧
  w.rangeAt b (o+i * 3) [.string (l.getD i Q_.zero).name,.int .i64 (l.getD i Q_.zero).cost,u]∧GSteps w u (l.getD i Q_.zero).steps
theorem GNodes.same {w w':World} {v:Value} {l:List Q_} (h:GNodes w v l) {u:TypeId} (k:SameKind u w w') (hn:30≠u) (h0:68≠u) (h1:9≠u) (h2:72≠u):GNodes w' v l:=by
 obtain ⟨a,cap,e,hc,hz,g⟩:=h
 refine ⟨a,cap,e,hc,hz,fun i hi=> ?_⟩
 obtain ⟨b,o,cur,fr,x,ea,hb,hr,ht⟩:=g i hi
 have hb':=k b cur _ fr hn hb
 exact ⟨b,o,cur,fr,x,ea,hb',fun j y hy=> by rw [World.cell?_of_block (w:=w) (hb'.trans hb.symm)];exact hr j y hy,ht.same k h0 h1 h2⟩
theorem GNodes.kept {w w':World} {v:Value} {l:List Q_} (h:GNodes w v l) (k:K_ w w'):GNodes w' v l:=h.same (u:=25) (.of_kept k) (by decide) (by decide) (by decide) (by decide)
theorem GNodes.slice {w:World} {v:Value} {l:List Q_} (h:GNodes w v l): ∃a cap,v= .slice a l.length cap∧l.length<=cap∧((a=none->cap=0)∧∀ad,a=some ad->ad.spot=none):=let ⟨a,cap,e,h1,h2,_⟩:=h;⟨a,cap,e,h1,h2⟩
theorem GNodes.nodesG {w:World} {a:Option Addr} {n cap:Nat} {l:List Q_} (h:GNodes w (.slice a n cap) l):NodesG w a l:=by
 obtain ⟨a',cap',e,hc,hz,g⟩:=h
 simp only [Value.slice.injEq] at e
 obtain ⟨rfl,rfl,rfl⟩:=e
 intro i hi
 obtain ⟨b,o,cur,fr,u,ea,hb,hr,ht⟩:=g i hi
 obtain ⟨sa,sc,rfl,_,hs⟩:=ht.stepsN
 exact ⟨b,o,sa,sc,ea,heap_lt hb,hr,hs⟩
theorem GNodes.nodes {w:World} {a:Option Addr} {n cap:Nat} {l:List Q_} (h:GNodes w (.slice a n cap) l):Nodes w a l:=by
 obtain ⟨a',cap',e,hc,hz,g⟩:=h
 simp only [Value.slice.injEq] at e
 obtain ⟨rfl,rfl,rfl⟩:=e
 intro i hi
 obtain ⟨b,o,cur,fr,u,ea,hb,hr,ht⟩:=g i hi
 obtain ⟨sa,sc,rfl⟩:=ht.slice
 exact ⟨b,o,_,ea,heap_lt hb,hr,sa,sc,rfl,ht.steps⟩
theorem GNodes.of_owned {w:World} {base:Nat} {v:Value} {xs:List Value} {l:List Q_} (hO:w.ownsRow base 30 3 v l.length xs) (h:PackedG w xs l):GNodes w v l:=by
 rcases hO.2 with ⟨rfl,h0⟩ | ⟨g,cap,cur,rfl,hb,hg,hnc,_,_,_⟩
 ·exact ⟨none,0,by rw [h0],by omega,⟨fun _=> rfl,fun _ e=> by cases e⟩,fun i hi=> by omega⟩
 ·refine ⟨_,cap,rfl,hnc,⟨fun e=> by simp at e,fun _ e=> by cases e;rfl⟩,fun i hi=> ?_⟩
  obtain ⟨u,e,hT⟩:=h.2 i hi
  refine ⟨g,0,cur,_,u,rfl,hg,fun j x hx=> ?_,hT⟩
  have hj:j < 3:=by have:= (List.getElem?_eq_some_iff.1 hx).1;simpa using this
  have hx': ((xs.drop (i * 3)).take 3)[j]? =some x:=by rw [e];exact hx
  rw [List.getElem?_take,if_pos hj,List.getElem?_drop] at hx'
  have:=hO.cells (g:=g) rfl _ _ hx'
  rw [Addr.add_mid] at this
  rw [Nat.zero_add] at this⊢
  exact this
theorem GNodes.nil (w:World):GNodes w (.slice none 0 0) []:= ⟨none,0,rfl,Nat.le_refl _,⟨fun _=> rfl,fun _ e=> by cases e⟩,fun i hi=> by simp at hi⟩
structure Q_.TinyN (m:Nat) (d:Q_):Prop where
 name:d.name.size<=300
 cost: -1000<=d.cost∧d.cost<=1000
 steps:d.steps.length<=21
 each: ∀s∈d.steps,s.TinyN m
theorem Q_.TinyN.fits {m:Nat} {d:Q_} (h:d.TinyN m) (hm:m<=1000):d.Fits:=by
 have h1:=h.name;have h2:=h.steps
 exact ⟨by unfold maxLen;omega,in64_of h.cost,by unfold maxLen;omega,fun s hs=> (h.each s hs).fits hm⟩
theorem Q_.TinyN.mono {m n:Nat} {d:Q_} (h:d.TinyN m) (hn:m<=n):d.TinyN n:= ⟨h.name,h.cost,h.steps,fun s hs=> (h.each s hs).mono hn⟩
def Fresh (lo:Nat) (v:Value) (L:List Q_):Prop:=0 < L.length->∀g n c,v= .slice (some g) n c->lo<=g.block
theorem Fresh.mono {lo lo':Nat} {v:Value} {L:List Q_} (h:Fresh lo v L) (hl:lo'<=lo):Fresh lo' v L:=fun h0 g n c e=> Nat.le_trans hl (h h0 g n c e)
theorem Fresh.of_owned {w:World} {base n:Nat} {v:Value} {xs:List Value} {L:List Q_} (h:w.ownsRow base 30 3 v n xs):Fresh base v L:=fun _ g n c e=> (h.lt g.block (by rw [e];rfl)).1
def DrewWeb (M N:Nat) (w w':World) (rb:Nat) (a:Option Addr) (cap:Nat) (bs:List UInt8) (p t:Nat) (e:Ending):Prop:=
 ∃(v:Value) (L:List Q_) (p':Nat),e= .returned (.agg #[v])∧p<=p'∧p'<=p+t∧L.length<=N∧(∀d∈L,d.TinyN M)∧GNodes w' v L∧Rd w' rb a cap bs p'∧Xq rb (rb+1) w w'∧Fresh w.heap.size v L
theorem Try.infoNodeW : (Try.prog.info? 30).map (fun i=> (i.zero,i.size,i.bytes))=some (some (.agg #[.string ⟨#[]⟩,.int .i64 0,.slice none 0 0]),3,48):=by kernel_rfl
theorem Try.sizeWebW : (Try.prog.info? 25).map (·.size)=some 1:=by kernel_rfl
structure WStN (m:Nat) (w wr:World) (rb wb:Nat) (a:Option Addr) (cap:Nat) (bs:List UInt8) (p:Nat) (v:Value) (L:List Q_) (xs:List Value):Prop where
 rd:Rd wr rb a cap bs p
 rd0: ∃p0,Rd w rb a cap bs p0
 wbl:w.heap.size<=wb
 kb:Xq rb (rb+1) w wr
 row:RowT wr wb 25 1
 c0:wr.cell? ⟨wb,0,none⟩=some v
 own:wr.ownsRow w.heap.size 30 3 v L.length xs
 pack:PackedG wr xs L
 tiny: ∀d∈L,d.TinyN m
theorem WStN.rbl {mN:Nat} {w wr:World} {rb wb:Nat} {a:Option Addr} {cap:Nat} {bs:List UInt8} {p:Nat} {v:Value} {L:List Q_} {xs:List Value} (h:WStN mN w wr rb wb a cap bs p v L xs):rb < w.heap.size:=let ⟨_,h0⟩:=h.rd0;h0.row.lt
theorem WStN.drawn {mN:Nat} {w wr w':World} {rb wb:Nat} {a:Option Addr} {cap:Nat} {bs:List UInt8} {p p':Nat} {v:Value} {L:List Q_} {xs:List Value} (h:WStN mN w wr rb wb a cap bs p v L xs) (hR:Rd w' rb a cap bs p') (k:Xq rb (rb+1) wr w'):WStN mN w w' rb wb a cap bs p' v L xs:=by
 have hk:=k.sameKind h.rd
 have:=h.rbl
 have:=h.wbl
 exact ⟨hR,h.rd0,h.wbl,h.kb.trans k,h.row.but k (by omega),(k.cell h.row.lt (by omega)).trans h.c0,owns_kept h.own hk (by decide),h.pack.same hk (by decide) (by decide) (by decide),h.tiny⟩
theorem WStN.kept {mN:Nat} {w wr w':World} {rb wb:Nat} {a:Option Addr} {cap:Nat} {bs:List UInt8} {p:Nat} {v:Value} {L:List Q_} {xs:List Value} (h:WStN mN w wr rb wb a cap bs p v L xs) (k:K_ wr w'):WStN mN w w' rb wb a cap bs p v L xs:=h.drawn (h.rd.kept k) (.of_kept k)
theorem WStN.made {mN:Nat} {w w1:World} {rb:Nat} {a:Option Addr} {cap:Nat} {bs:List UInt8} {p p0:Nat} (h0:Rd w rb a cap bs p0) (h:Rd w1 rb a cap bs p) (k:Xq rb (rb+1) w w1):
  WStN mN w (w1.alloc (.cells #[.slice none 0 0] 25)) rb w1.heap.size a cap bs p (.slice none 0 0) [] []:=by
 have hr:=Zx w1 #[.slice none 0 0] 25
 have hk:K_ w1 (w1.alloc (.cells #[.slice none 0 0] 25)):= (K_.refl _).alloc _
 exact ⟨h.kept hk,⟨p0,h0⟩,k.size,k.and_kept hk,RowT.made w1 _ _,hr 0 _ rfl,World.ownsRow_nil _ _ _ _,PackedG.nil _,fun s hs=> by simp at hs⟩
theorem WStN.pushRow {mN:Nat} {w wr w1 w2:World} {rb wb:Nat} {a:Option Addr} {cap:Nat} {bs:List UInt8} {p:Nat} {v:Value} {L:List Q_} {xs:List Value} (h:WStN mN w wr rb wb a cap bs p v L xs) (k1:K_ wr w1) (hg:w1.grownBy w2 v.ownBlock):w2.cell? ⟨wb,0,none⟩=some v∧RowT w2 wb 25 1:=by
 have h1:=h.kept k1
 have hk:SameKind 30 w1 w2:=SameKind.of_grown h1.own hg
 obtain ⟨cur,g1,g2⟩:=h1.row
 have hb:=hk wb cur _ _ (by decide) g1
 exact ⟨by rw [World.cell?_of_block (w:=w1) (hb.trans g1.symm)];exact h1.c0,cur,hb,g2⟩
theorem WStN.push {mN:Nat} {w wr w1 w2:World} {rb wb:Nat} {a:Option Addr} {cap:Nat} {bs:List UInt8} {p:Nat} {v v' u:Value} {L:List Q_} {xs:List Value} {d:Q_} (h:WStN mN w wr rb wb a cap bs p v L xs) (k1:K_ wr w1) (hs:GSteps w1 u d.steps) (ht:d.TinyN mN)
  (hown:w2.ownsRow w.heap.size 30 3 v' (L.length+1) (xs++ [.string d.name,.int .i64 d.cost,u])) (hg:w1.grownBy w2 v.ownBlock):WStN mN w (w2.setCell ⟨wb,0,none⟩ v') rb wb a cap bs p v' (L++ [d]) (xs++ [.string d.name,.int .i64 d.cost,u]):=by
 have h1:=h.kept k1
 have hk:SameKind 30 w1 w2:=SameKind.of_grown h1.own hg
 have hr2:RowT w2 wb 25 1:= (h.pushRow k1 hg).2
 have hk2:=hr2.same (o:=0) v'
 have hbl:Below w.heap.size w1 (w2.setCell ⟨wb,0,none⟩ v'):= ((Below.refl _ _).grown hg h1.kb.size (fun k hk=> (h1.own.lt k hk).1)).setCell h.wbl v'
 obtain ⟨p0,h0⟩:=h.rd0
 refine ⟨h1.rd.below h0 hbl h1.kb.size,h.rd0,h.wbl,h1.kb.below hbl,hr2.set _,set_hit hr2.row (by omega) _, ?_, ?_,fun y hy=> ?_⟩
 ·have:=owns_kept hown hk2 (by decide)
  simpa using this
 ·exact ((h1.pack.snoc hs).same hk (by decide) (by decide) (by decide)).same hk2 (by decide) (by decide) (by decide)
 ·simp only [List.mem_append,List.mem_singleton] at hy
  rcases hy with hy | rfl
  ·exact h.tiny y hy
  ·exact ht
theorem WStN.web {mN:Nat} {w wr:World} {rb wb:Nat} {a:Option Addr} {cap:Nat} {bs:List UInt8} {p:Nat} {v:Value} {L:List Q_} {xs:List Value} (h:WStN mN w wr rb wb a cap bs p v L xs):GNodes wr v L:=GNodes.of_owned h.own h.pack
theorem boxNode (w:World) (n:ByteArray) (c:Int) (u:Value): ∀j x,([.string n,.int .i64 c,u]:List Value)[j]? =some x->(w.alloc (.cells #[.string n,.int .i64 c,u] 30)).cell? ((⟨w.heap.size,0,none⟩:Addr).add j)=some x:=fun j x hx=> by
 rw [Addr.add_mid]
 exact Zx w #[.string n,.int .i64 c,u] 30 j x hx
theorem oneNode (n:ByteArray) (c:Int) (a:Option Addr) (m k:Nat): ∀u∈([.string n,.int .i64 c,.slice a m k]:List Value),u.oneCell'=true:=fun u hu=> by
 simp only [List.mem_cons,List.not_mem_nil,or_false] at hu
 rcases hu with rfl | rfl | rfl <;> rfl
theorem TStepsN.g {w:World} {v:Value} {L:List Xz} (h:TStepsN w v L):GSteps w v L:=by
 obtain ⟨base,xs,g1,g2,g3⟩:=h
 exact (StW.of_owned g1 g2 g3).g
theorem WStN.ends {M N:Nat} {w w5:World} {rb wb:Nat} {a:Option Addr} {cap:Nat} {bs:List UInt8} {p p' t:Nat} {v:Value} {L:List Q_} {xs:List Value} {A0:World} {e:Ending} (h:WStN M A0 w5 rb wb a cap bs p' v L xs) {res:Nat} (hr:RowT w5 res 25 1) (hres:w.heap.size<=res) (k0:K_ w A0) {pw:Nat} (hw:Rd w rb a cap bs pw)
  (he:e= .returned (.agg #[v])) (h1:p<=p') (h2:p'<=p+t) (h3:L.length<=N):DrewWeb M N w (w5.setCell ⟨res,0,none⟩ v) rb a cap bs p t e:=by
 have hk:=hr.same (o:=0) v
 have hbl:Below w.heap.size w5 (w5.setCell ⟨res,0,none⟩ v):= (Below.refl _ _).setCell (p:= ⟨res,0,none⟩) hres _
 have hkb:Xq rb (rb+1) w w5:= ⟨h.kb.os.trans k0.os,h.kb.tape.trans k0.tape,h.kb.output.trans k0.output,Nat.le_trans k0.size h.kb.size,fun i hi ho=> (h.kb.block i (Nat.lt_of_lt_of_le hi k0.size) ho).trans (k0.block i hi)⟩
 exact ⟨v,L,p',he,h1,h2,h3,h.tiny,h.web.same hk (by decide) (by decide) (by decide) (by decide),h.rd.below hw hbl hkb.size,hkb.below hbl,(Fresh.of_owned h.own).mono k0.size⟩
