import Derived.Test.YteabdfhkoloimaaKDSpoil
set_option maxRecDepth 100000
set_option maxHeartbeats 25600000
namespace Go.Proofs.Yteabdfhkoloimaa
open Go.RowKit
structure FinW (m:Nat) (w wr:World) (rb wb:Nat) (a:Option Addr) (cap:Nat) (bs:List UInt8) (p:Nat) (v:Value) (L:List Q_):Prop where
 rd:Rd wr rb a cap bs p
 rd0: ∃p0,Rd w rb a cap bs p0
 wbl:w.heap.size<=wb
 kb:Xq rb (rb+1) w wr
 row:RowT wr wb 25 1
 c0:wr.cell? ⟨wb,0,none⟩=some v
 web:GNodes wr v L
 tiny: ∀d∈L,d.TinyN m
 fr:Fresh w.heap.size v L
theorem WStN.fin {m:Nat} {w wr:World} {rb wb:Nat} {a:Option Addr} {cap:Nat} {bs:List UInt8} {p:Nat} {v:Value} {L:List Q_} {xs:List Value} (h:WStN m w wr rb wb a cap bs p v L xs):FinW m w wr rb wb a cap bs p v L:=
 ⟨h.rd,h.rd0,h.wbl,h.kb,h.row,h.c0,h.web,h.tiny,Fresh.of_owned h.own⟩
theorem FinW.mono {m n:Nat} {w wr:World} {rb wb:Nat} {a:Option Addr} {cap:Nat} {bs:List UInt8} {p:Nat} {v:Value} {L:List Q_} (h:FinW m w wr rb wb a cap bs p v L) (hm:m<=n):FinW n w wr rb wb a cap bs p v L:=
 ⟨h.rd,h.rd0,h.wbl,h.kb,h.row,h.c0,h.web,(fun d hd=> (h.tiny d hd).mono hm),h.fr⟩
theorem FinW.ends {M N:Nat} {w w5:World} {rb wb:Nat} {a:Option Addr} {cap:Nat} {bs:List UInt8} {p p' t:Nat} {v:Value} {L:List Q_} {A0:World} {e:Ending} (h:FinW M A0 w5 rb wb a cap bs p' v L) {res:Nat} (hr:RowT w5 res 25 1) (hres:w.heap.size<=res) (k0:K_ w A0) {pw:Nat} (hw:Rd w rb a cap bs pw)
  (he:e= .returned (.agg #[v])) (h1:p<=p') (h2:p'<=p+t) (h3:L.length<=N):DrewWeb M N w (w5.setCell ⟨res,0,none⟩ v) rb a cap bs p t e:=by
 have hk:=hr.same (o:=0) v
 have hbl:Below w.heap.size w5 (w5.setCell ⟨res,0,none⟩ v):= (Below.refl _ _).setCell (p:= ⟨res,0,none⟩) hres _
 have hkb:Xq rb (rb+1) w w5:= ⟨h.kb.os.trans k0.os,h.kb.tape.trans k0.tape,h.kb.output.trans k0.output,Nat.le_trans k0.size h.kb.size,fun i hi ho=> (h.kb.block i (Nat.lt_of_lt_of_le hi k0.size) ho).trans (k0.block i hi)⟩
 exact ⟨v,L,p',he,h1,h2,h3,h.tiny,h.web.same hk (by decide) (by decide) (by decide) (by decide),h.rd.below hw hbl hkb.size,hkb.below hbl,h.fr.mono k0.size⟩
theorem GNodes.put {w:World} {g c n k N o:Nat} {L:List Q_} {d:Q_} {u:Value} {vs:List Value} (h:GNodes w (.slice (some ⟨g,0,none⟩) n c) L) (hk:k < L.length) (hrow:RowT w g 30 N) (ho:k * 3<=o∧o+vs.length<=k * 3+3)
  (hnew: (w.setCells g o vs).rangeAt g (k * 3) [.string d.name,.int .i64 d.cost,u]) (hs:GSteps w u d.steps):GNodes (w.setCells g o vs) (.slice (some ⟨g,0,none⟩) n c) (L.set k d):=by
 obtain ⟨hr',hk'⟩:=hrow.setCells vs o
 obtain ⟨a',cap',e,hc,hz,q⟩:=h
 simp only [Value.slice.injEq] at e
 obtain ⟨rfl,rfl,rfl⟩:=e
 refine ⟨_,c,by rw [List.length_set],by rw [List.length_set];exact hc,hz,fun i hi=> ?_⟩
 rw [List.length_set] at hi
 obtain ⟨cur',hcur',_⟩:=hr'
 by_cases e:i=k
 ·subst e
  have e1: (L.set i d).getD i Q_.zero=d:=by simp [List.getD,hi]
  rw [e1]
  exact ⟨g,0,cur',_,u,rfl,hcur',by rw [Nat.zero_add];exact hnew,hs.same hk' (by decide) (by decide) (by decide)⟩
 ·have e1: (L.set k d).getD i Q_.zero=L.getD i Q_.zero:=by simp [List.getD,Ne.symm e]
  rw [e1]
  obtain ⟨b,o2,cur,fr,x,ea,hb,hrg,ht⟩:=q i hi
  simp only [Option.some.injEq,Addr.mk.injEq,and_true] at ea
  obtain ⟨rfl,rfl⟩:=ea
  exact ⟨g,0,cur',_,x,rfl,hcur',World.rangeAt_setCells_apart hrg _ _ _ (by right;simp;omega),ht.same hk' (by decide) (by decide) (by decide)⟩
theorem mem_set_tiny {m:Nat} {L:List Q_} {k:Nat} {d:Q_} (hL: ∀x∈L,x.TinyN m) (hd:d.TinyN m): ∀x∈L.set k d,x.TinyN m:=fun x hx=> by
 rcases List.mem_or_eq_of_mem_set hx with h | rfl
 ·exact hL x h
 ·exact hd
theorem FinW.put {m:Nat} {A0 wr:World} {rb wb:Nat} {a:Option Addr} {cap:Nat} {bs:List UInt8} {p g c n k N o:Nat} {L:List Q_} {d:Q_} {u:Value} {vs:List Value} (h:FinW m A0 wr rb wb a cap bs p (.slice (some ⟨g,0,none⟩) n c) L) (hg:A0.heap.size<=g) (hk:k < L.length) (hrow:RowT wr g 30 N) (ho:k * 3<=o∧o+vs.length<=k * 3+3)
  (hnew: (wr.setCells g o vs).rangeAt g (k * 3) [.string d.name,.int .i64 d.cost,u]) (hs:GSteps wr u d.steps) (ht:d.TinyN m):FinW m A0 (wr.setCells g o vs) rb wb a cap bs p (.slice (some ⟨g,0,none⟩) n c) (L.set k d):=by
 obtain ⟨p0,h0⟩:=h.rd0
 have hbl:Below A0.heap.size wr (wr.setCells g o vs):=Below.setCells' hg vs o (Below.refl _ _)
 obtain ⟨_,hk'⟩:=hrow.setCells vs o
 have hr:=h.row.sameT hk' (by decide)
 exact ⟨h.rd.below h0 hbl h.kb.size,h.rd0,h.wbl,h.kb.below hbl,hr.1,(hr.2 0).trans h.c0,h.web.put hk hrow ho hnew hs,mem_set_tiny h.tiny ht,fun hl=> h.fr (by rw [List.length_set] at hl;exact hl)⟩
theorem GNodes.cells {w:World} {g n c k:Nat} {L:List Q_} (h:GNodes w (.slice (some ⟨g,0,none⟩) n c) L) (hk:k < L.length):
  ∃sa sc,w.rangeAt g (k * 3) [.string (L.getD k Q_.zero).name,.int .i64 (L.getD k Q_.zero).cost,.slice sa (L.getD k Q_.zero).steps.length sc]∧GSteps w (.slice sa (L.getD k Q_.zero).steps.length sc) (L.getD k Q_.zero).steps:=by
 obtain ⟨a',cap',e,hc,hz,q⟩:=h
 simp only [Value.slice.injEq] at e
 obtain ⟨rfl,rfl,rfl⟩:=e
 obtain ⟨b,o2,cur,fr,x,ea,hb,hrg,ht⟩:=q k hk
 simp only [Option.some.injEq,Addr.mk.injEq,and_true] at ea
 obtain ⟨rfl,rfl⟩:=ea
 obtain ⟨sa,sc,rfl⟩:=ht.slice
 rw [Nat.zero_add] at hrg
 exact ⟨sa,sc,hrg,ht⟩
theorem range_one {w:World} {b q:Nat} {v:Value} (h:w.cell? ⟨b,q,none⟩=some v):w.rangeAt b q [v]:=fun j x hx=> by
 match j,hx with
 | 0,hx=> simp at hx;subst hx;exact h
 | j+1,hx=> simp at hx
theorem range_three {w:World} {b q:Nat} {x y z:Value} (h0:w.cell? ⟨b,q,none⟩=some x) (h1:w.cell? ⟨b,q+1,none⟩=some y) (h2:w.cell? ⟨b,q+2,none⟩=some z):w.rangeAt b q [x,y,z]:=fun j v hv=> by
 match j,hv with
 | 0,hv=> simp at hv;subst hv;exact h0
 | 1,hv=> simp at hv;subst hv;exact h1
 | 2,hv=> simp at hv;subst hv;exact h2
 | j+3,hv=> simp at hv
theorem set_one (w:World) (g o:Nat) (v:Value):w.setCells g o [v]=w.setCell ⟨g,o,none⟩ v:=rfl
theorem FinW.setName {m:Nat} {A0 wr:World} {rb wb:Nat} {a:Option Addr} {cap:Nat} {bs:List UInt8} {p g c n k N:Nat} {L:List Q_} (h:FinW m A0 wr rb wb a cap bs p (.slice (some ⟨g,0,none⟩) n c) L) (hg:A0.heap.size<=g) (hk:k < L.length) (hrow:RowT wr g 30 N) (hN:k * 3+3<=N) {s:ByteArray} (hs:s.size<=300):
  FinW m A0 (wr.setCell ⟨g,k * 3,none⟩ (.string s)) rb wb a cap bs p (.slice (some ⟨g,0,none⟩) n c) (L.set k ⟨s,(L.getD k Q_.zero).cost,(L.getD k Q_.zero).steps⟩):=by
 obtain ⟨sa,sc,hr,hG⟩:=h.web.cells hk
 have ht:=h.tiny (L.getD k Q_.zero) (by simp [List.getD,hk])
 rw [<-set_one]
 refine h.put (d:= ⟨s,(L.getD k Q_.zero).cost,(L.getD k Q_.zero).steps⟩) hg hk hrow ⟨Nat.le_refl _,by simp⟩ ?_ hG ⟨hs,ht.cost,ht.steps,ht.each⟩
 rw [set_one]
 exact range_three (set_hit hrow.row (by omega) _) ((Xj (by omega) _).trans (hr 1 _ rfl)) ((Xj (by omega) _).trans (hr 2 _ rfl))
theorem FinW.setAction {m:Nat} {A0 wr:World} {rb wb:Nat} {a:Option Addr} {cap:Nat} {bs:List UInt8} {p g c n k N:Nat} {L:List Q_} (h:FinW m A0 wr rb wb a cap bs p (.slice (some ⟨g,0,none⟩) n c) L) (hg:A0.heap.size<=g) (hk:k < L.length) (hrow:RowT wr g 30 N) (hN:k * 3+3<=N) {cost:Int} {u:Value} {LS:List Xz} (hG:GSteps wr u LS) (hco: -1000<=cost∧cost<=1000) (hl:LS.length<=21) (hS: ∀s∈LS,s.TinyN m):
  FinW m A0 (wr.setCells g (k * 3+1) [.int .i64 cost,u]) rb wb a cap bs p (.slice (some ⟨g,0,none⟩) n c) (L.set k ⟨(L.getD k Q_.zero).name,cost,LS⟩):=by
 obtain ⟨sa,sc,hr,_⟩:=h.web.cells hk
 have ht:=h.tiny (L.getD k Q_.zero) (by simp [List.getD,hk])
 refine h.put (d:= ⟨(L.getD k Q_.zero).name,cost,LS⟩) hg hk hrow ⟨by omega,by simp⟩ ?_ hG ⟨ht.name,hco,hl,hS⟩
 have hn:=World.rangeAt_setCells_same wr g (k * 3+1) [.int .i64 cost,u] (hrow.row.there (by simp;omega))
 exact range_three (World.rangeAt_setCells_apart (range_one (q:=k * 3) (v:= .string (L.getD k Q_.zero).name) (by have:=hr 0 _ rfl;rwa [Nat.add_zero] at this)) _ _ _ (by right;simp only [List.length_cons,List.length_nil];omega) 0 _ rfl) (hn 0 _ rfl) (hn 1 _ rfl)
theorem FinW.setNode {m:Nat} {A0 wr:World} {rb wb:Nat} {a:Option Addr} {cap:Nat} {bs:List UInt8} {p g c n k N:Nat} {L:List Q_} (h:FinW m A0 wr rb wb a cap bs p (.slice (some ⟨g,0,none⟩) n c) L) (hg:A0.heap.size<=g) (hk:k < L.length) (hrow:RowT wr g 30 N) (hN:k * 3+3<=N) {d:Q_} {u:Value} (hG:GSteps wr u d.steps) (ht:d.TinyN m):
  FinW m A0 (wr.setCells g (k * 3) [.string d.name,.int .i64 d.cost,u]) rb wb a cap bs p (.slice (some ⟨g,0,none⟩) n c) (L.set k d):=
 h.put hg hk hrow ⟨Nat.le_refl _,by simp⟩ (World.rangeAt_setCells_same wr g (k * 3) _ (hrow.row.there (by simp;omega))) hG ht
theorem WStN.rowG {m:Nat} {w wr:World} {rb wb:Nat} {a:Option Addr} {cap:Nat} {bs:List UInt8} {p:Nat} {v:Value} {L:List Q_} {xs:List Value} (h:WStN m w wr rb wb a cap bs p v L xs) (hl:0 < L.length): ∃g c,v= .slice (some ⟨g,0,none⟩) L.length c∧w.heap.size<=g∧RowT wr g 30 (c * 3)∧L.length<=c:=by
 rcases h.own.2 with ⟨_,e⟩ | ⟨g,c,cur,e,hb,hg,hn,_,hz,_⟩
 ·omega
 ·exact ⟨g,c,e,hb,⟨cur,hg,hz⟩,hn⟩
