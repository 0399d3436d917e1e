import Derived.Test.YteabdfhkoloimaaKDDraw
set_option maxRecDepth 100000
set_option maxHeartbeats 25600000
namespace Go.Proofs.Yteabdfhkoloimaa
open Go.RowKit
theorem drawAction_at (w:World) (rb:Nat) (a:Option Addr) (cap:Nat) (bs:List UInt8) (p i n:Nat) (ii nn:Int) (hii:ii= (i:Int)) (hnn:nn= (n:Int)) (hR:Rd w rb a cap bs p) (hp:p<=800000) (hi:i<=100000) (hn:n<=100000) (hbl:bs.length<=2000):
  Calls Try.prog 14 #[.pointer (some ⟨rb,0,none⟩),.int .i64 ii,.int .i64 nn] w fun e w'=> DrewAction w w' rb a cap bs p 100 e:=by
 rw [hii,hnn]
 exact drawAction_any w rb a cap bs p i n hR hp hi hn hbl
theorem label_at (w:World) (i:Nat) (ii:Int) (hii:ii= (i:Int)) (hi:i<=100000):
  Calls Try.prog 12 #[.int .i64 ii] w fun e w'=> Labelled w w' e:=by
 rw [hii]
 exact label_any w i hi
def WebSaid (F t M N B:Nat):Prop:= ∀(w:World) (rb:Nat) (a:Option Addr) (cap:Nat) (bs:List UInt8) (p:Nat),Rd w rb a cap bs p->p<=B->bs.length<=2000->
 Calls Try.prog F #[.pointer (some ⟨rb,0,none⟩)] w fun e w'=> DrewWeb M N w w' rb a cap bs p t e
theorem DrewWeb.via {M N:Nat} {w A0 w1 w2:World} {rb:Nat} {a:Option Addr} {cap:Nat} {bs:List UInt8} {p p1 t t':Nat} {e:Ending} (h:DrewWeb M N w1 w2 rb a cap bs p1 t e) (kb:Xq rb (rb+1) A0 w1) (k0:K_ w A0) (h1:p<=p1) (h2:p1+t<=p+t') (hw:Rd w rb a cap bs p) {res:Nat} (hres:w.heap.size<=res) (hr:RowT w1 res 25 1) (hne:res≠rb):
  ∃v,e= .returned (.agg #[v])∧RowT w2 res 25 1∧(∃va vn vc,v= .slice va vn vc)∧DrewWeb M N w (w2.setCell ⟨res,0,none⟩ v) rb a cap bs p t' e:=by
 obtain ⟨v,L,p',he,g1,g2,g3,g4,g5,g6,g7,g8⟩:=h
 have hr2:RowT w2 res 25 1:=hr.but g7 (by omega)
 have hk:=hr2.same (o:=0) v
 have hbl:Below w.heap.size w2 (w2.setCell ⟨res,0,none⟩ v):= (Below.refl _ _).setCell (p:= ⟨res,0,none⟩) hres _
 have hkb1:Xq rb (rb+1) w w1:= ⟨kb.os.trans k0.os,kb.tape.trans k0.tape,kb.output.trans k0.output,Nat.le_trans k0.size kb.size,fun i hi ho=> (kb.block i (Nat.lt_of_lt_of_le hi k0.size) ho).trans (k0.block i hi)⟩
 have hkb:=hkb1.trans g7
 obtain ⟨va,vc,rfl,_,_⟩:=g5.slice
 exact ⟨_,he,hr2,⟨_,_,_,rfl⟩,_,L,p',he,by omega,by omega,g3,g4,g5.same hk (by decide) (by decide) (by decide) (by decide),g6.below hw hbl hkb.size,hkb.below hbl,g8.mono hkb1.size⟩
theorem drawW_any (hRing:Hid (WebSaid 48 400 20 60 700000)) (hWide:Hid (WebSaid 49 400 20 60 700000)):WebSaid 32 1100 20 60 600000:=by
 intro w rb a cap bs p hR hp hbl
 have k0:K_ w (w.alloc (.cells #[.slice none 0 0] 25)):= (K_.refl _).alloc _
 have HA0:Hid (Rd (w.alloc (.cells #[.slice none 0 0] 25)) rb a cap bs p):=hR.kept k0
 have HRes:Hid (RowT (w.alloc (.cells #[.slice none 0 0] 25)) w.heap.size 25 1):=RowT.made w _ _
 have hrb:=hR.row.lt
 have HR0:=Kz hR
 clear hR
 go_enter Try.func32,Try.ntmps32
 go_wp2_with fail
 refine (pick_at _ rb a cap bs p _ 10 rfl HA0.out (by omega) (by omega) hbl).mono ?_
 rintro e w1 ⟨v1,rfl,hv1,hR1,kb1⟩
 have HR1:=Kz hR1
 have HK1:=Kz kb1
 have HRes1:=Kz (HRes.out.but kb1 (by omega))
 clear hR1 kb1
 by_cases h0:v1=0
 ·have e0: ((v1:Int) == 0)=true:=by simp [h0]
  clear h0
  go_wp2_with fail
  refine (hRing.out _ rb a cap bs (p+1) HR1.out (by omega) hbl).mono ?_
  intro e w2 hd
  obtain ⟨v,rfl,hr2,⟨va,vn,vc,rfl⟩,hD⟩:=hd.via (p:=p) HK1.out k0 (by omega) (by omega) HR0.out (Nat.le_refl _) HRes1.out (by omega) (t':=1100)
  have HD:=Kz hD
  have HR2:=Kz hr2
  have z2:=hr2.lt
  obtain ⟨⟨_,u0⟩,f0⟩:=hr2.row.at (i:=0) (by omega)
  clear hD hd hr2
  go_wp2
  have hR:=World.rangeAt_setCells_same w2 w.heap.size 0 [.slice va vn vc] (HR2.out.row.there (o:=0) (m:=1) (Nat.le_refl _))
  exact Zk [.slice va vn vc] _ Try.results32 rfl hR Try.underlying25 rfl Try.sizeWebW rfl HD.out
 have e0: ((v1:Int) == 0)=false:=by simpa using h0
 clear h0
 by_cases h4: (v1:Int) < 4
 ·go_wp2_with fail
  refine (hWide.out _ rb a cap bs (p+1) HR1.out (by omega) hbl).mono ?_
  intro e w2 hd
  obtain ⟨v,rfl,hr2,⟨va,vn,vc,rfl⟩,hD⟩:=hd.via (p:=p) HK1.out k0 (by omega) (by omega) HR0.out (Nat.le_refl _) HRes1.out (by omega) (t':=1100)
  have HD:=Kz hD
  have HR2:=Kz hr2
  have z2:=hr2.lt
  obtain ⟨⟨_,u0⟩,f0⟩:=hr2.row.at (i:=0) (by omega)
  clear hD hd hr2
  go_wp2
  have hR:=World.rangeAt_setCells_same w2 w.heap.size 0 [.slice va vn vc] (HR2.out.row.there (o:=0) (m:=1) (Nat.le_refl _))
  exact Zk [.slice va vn vc] _ Try.results32 rfl hR Try.underlying25 rfl Try.sizeWebW rfl HD.out
 have HS1:Hid (WStN 20 (w.alloc (.cells #[.slice none 0 0] 25)) (w1.alloc (.cells #[.slice none 0 0] 25)) rb w1.heap.size a cap bs (p+1) (.slice none 0 0) [] []):=WStN.made HA0.out HR1.out HK1.out
 have HRes2:Hid (RowT (w1.alloc (.cells #[.slice none 0 0] 25)) w.heap.size 25 1):=HRes1.out.kept ((K_.refl _).alloc _)
 go_wp2_with fail
 refine (pick_at _ rb a cap bs (p+1) _ 9 rfl HS1.out.rd (by omega) (by omega) hbl).mono ?_
 rintro e w2 ⟨v2,rfl,hv2,hR2,kb2⟩
 have HS2:=Kz (HS1.out.drawn hR2 kb2)
 have HRes3:=Kz (HRes2.out.but kb2 (by omega))
 have hwb:w.heap.size≠w1.heap.size:=fun e=> by have:=HRes1.out.lt;omega
 obtain ⟨n1,hn1⟩: ∃n1:Nat,n1=2+v2:= ⟨_,rfl⟩
 clear hR2 kb2 HS1 HRes2 HRes1 HR1 HK1
 go_wp2
 go_loopg [6] n1 (fun g x wr=> ∃(k:Nat) (p':Nat) (v:Value) (L:List Q_) (xs:List Value),x= .int .i64 (k:Int)∧k+g=n1∧L.length=k∧p<=p'∧p'<=p+2+100 * k∧RowT wr w.heap.size 25 1∧WStN 20 (w.alloc (.cells #[.slice none 0 0] 25)) wr rb w1.heap.size a cap bs p' v L xs)
 case atStart=> exact ⟨0,p+2,_,[],[],rfl,by omega,rfl,by omega,by omega,HRes3.out,HS2.out⟩
 case round=>
  clear HS2 HRes3
  obtain ⟨k,p7,v,L,xs,rfl,hk,hL,hp7,hp7',hres,hS⟩:=hrel
  obtain ⟨wO,rfl⟩: ∃wO,wO=wr:= ⟨_,rfl⟩
  have HO:=Kz hS
  have HLk:=Kz hL
  have HRes:=Kz hres
  obtain ⟨av,cv,rfl⟩:=own_slice hS.own
  have y0:=hS.c0
  have zb:=hS.row.lt
  have hz0:=hS.kb.size
  rw [hL] at y0
  clear hS hL hres
  by_cases hlt: (k:Int) < 2+ (v2:Int)
  ·have Qx:Hid (∀v:World,v.cell? ⟨w1.heap.size,0,none⟩=wO.cell? ⟨w1.heap.size,0,none⟩->(fun (v:World)=> v.cell? ⟨w1.heap.size,0,none⟩=some (.slice av k cv)) v):=fun v hv=> hv.trans y0
   obtain ⟨ino,hn0,hn1',hn2,hn3⟩:=dInfo_parts Try.infoNodeW
   go_wp2
   refine Qj.region (by kernel_rfl) (fun (v:World)=> v.cell? ⟨w1.heap.size,0,none⟩=some (.slice av k cv)) 12 y0 (fun Qk=> ?_)
   refine Qj.tk 0 Qk ?_
   refine Qj.tk 1 Qk ?_
   refine Qj.tk 2 Qk ?_
   refine Qj.tk 4 Qk ?_
   refine Qj.tk 5 Qk ?_
   refine Qj.tk 6 Qk ?_
   refine Qj.nx 3 (fun K hK=> ?_)
   rw [if_pos (by rfl)]
   go_simp
   go_at_call 12
   refine (label_at _ k _ rfl (by omega)).mono ?_
   rintro e w3 ⟨nm,rfl,hnm,k3⟩
   have K3:K_ wO w3:= ((K_.refl _).drew).trans k3
   dsimp only
   refine hK.out _ _ (fun _=> Qx.out w3 (K3.cell zb)) ?_
   clear hK K Qk k3
   have HO3:=Kz (HO.out.kept K3)
   have HRes3:=Kz (HRes.out.kept K3)
   have y3:= (K3.cell (o:=0) zb).trans y0
   have zb3:=HO3.out.row.lt
   have Qk:=y3
   try simp only [Act.put,upA,upB,upC]
   refine Qj.nx 7 (fun K hK=> ?_)
   rw [if_pos (by rfl)]
   go_simp
   go_at_call 14
   refine (drawAction_at _ rb a cap bs p7 k n1 _ _ rfl (by omega) HO3.out.rd (by omega) (by omega) (by omega) hbl).mono ?_
   rintro e w4 ⟨cost,us,LS,p8,rfl,hp8,hp8',hl1,hl20,hcost,hty,hTS,hR4,kb4⟩
   have HO4:=Kz (HO3.out.drawn hR4 kb4)
   have HRes4:=Kz (HRes3.out.but kb4 (by omega))
   have y4:=HO4.out.c0
   rw [HLk.out] at y4
   have HT4:=Kz hTS.g
   obtain ⟨sa,sc,rfl⟩:=HT4.out.slice
   have HTy:Hid (Q_.TinyN 20 ⟨nm,cost,LS⟩):= ⟨by show nm.size<=300;omega,hcost,by show LS.length<=21;omega,hty⟩
   dsimp only
   refine hK.out _ _ (fun _=> y4) ?_
   clear hK K Qk hTS hR4 kb4 hl1 hl20 hcost hty y3 HO3 HRes3
   have zb4:=HO4.out.row.lt
   have Qk:=y4
   try simp only [Act.put,upA,upB,upC]
   refine Qj.tk 8 Qk ?_
   refine Qj.nx 9 (fun K hK=> ?_)
   go_simp
   have KW:K_ w4 (w4.alloc (.cells #[.string nm,.int .i64 cost,.slice sa LS.length sc] 30)):= (K_.refl _).alloc _
   refine hK.out _ _ (fun _=> (KW.cell zb4).trans y4) ?_
   clear hK K Qk
   try simp only [Act.put,upA,upB,upC]
   refine Qj.nx 10 (fun K hK=> ?_)
   have HW5:=Kz (HO4.out.kept KW)
   have hOW:=HW5.out.own
   rw [HLk.out] at hOW
   have zw4: (w.alloc (.cells #[.slice none 0 0] 25)).heap.size<=(w4.alloc (.cells #[.string nm,.int .i64 cost,.slice sa LS.length sc] 30)).heap.size:=HW5.out.kb.size
   refine step_append_lies _ rfl (.tmp 27) (.tmp 35) 23 rfl (w.alloc (.cells #[.slice none 0 0] 25)).heap.size 30 ino _ 3 48 Try.underlying23 hn0 hn1' hn2 hn3 rfl (by decide) (.slice av k cv) k xs (by simp [Act.eval]) hOW ⟨w4.heap.size,0,none⟩ 1 1 [.string nm,.int .i64 cost,.slice sa LS.length sc] (by simp [Act.eval]) rfl (boxNode _ _ _ _) (oneNode _ _ _ _ _) (by omega) (by unfold maxLen;omega) (by omega) zw4 _ rfl ?_
   intro g cap3 w6 hown3 hgr3 hat hlt3
   have hPR:=HO4.out.pushRow KW (by rw [HLk.out];exact hgr3)
   have y6:=hPR.1
   rw [HLk.out] at y6
   have zb6:=hPR.2.lt
   have fo1:= (hPR.2.row.at (i:=0) (by omega)).2
   obtain ⟨vo,fo2⟩:= (hPR.2.row.at (i:=0) (by omega)).1
   have HP6:Hid (WStN 20 (w.alloc (.cells #[.slice none 0 0] 25)) (w6.setCell ⟨w1.heap.size,0,none⟩ (.slice (some ⟨g,0,none⟩) (k+1) cap3)) rb w1.heap.size a cap bs p8 (.slice (some ⟨g,0,none⟩) (k+1) cap3) (L++ [⟨nm,cost,LS⟩]) (xs++ [.string nm,.int .i64 cost,.slice sa LS.length sc])):=
    HO4.out.push (d:= ⟨nm,cost,LS⟩) KW (HT4.out.same (u:=25) (.of_kept KW) (by decide) (by decide) (by decide)) HTy.out (by rw [HLk.out];exact hown3) (by rw [HLk.out];exact hgr3)
   have hk6:SameKind 30 (w4.alloc (.cells #[.string nm,.int .i64 cost,.slice sa LS.length sc] 30)) w6:=SameKind.of_grown hOW hgr3
   have HRes6:Hid (RowT w6 w.heap.size 25 1):=by
    obtain ⟨cur,g1,g2⟩:=HRes4.out.kept KW
    exact ⟨cur,hk6 _ cur _ _ (by decide) g1,g2⟩
   clear hPR hOW hown3 hgr3 hat hk6 KW
   refine hK.out _ _ (fun _=> y6) ?_
   clear hK K
   try simp only [Act.put,upA,upB,upC]
   have Qk:=y6
   refine Qj.tk 11 Qk ?_
   refine Qj.nx 12 (fun K hK=> ?_)
   go_simp
   refine hK.out _ _ (fun h=> absurd rfl h) ?_
   clear hK K
   try simp only [Act.put,upA,upB,upC]
   refine Qj.dn ?_
   go_wp2
   go_roundg (gk - 1)
   case rel=> exact ⟨k+1,p8,_,_,_,by go_num,by omega,by rw [List.length_append,HLk.out];rfl,by omega,by omega,HRes6.out.block (Below.heap_setCell _ _ _ _ (by simpa using hwb)),HP6.out⟩
   case measure=> omega
  ·obtain ⟨⟨_,x0⟩,g0⟩:=HRes.out.row.at (i:=0) (by omega)
   have z1:=HRes.out.lt
   go_wp2
   have hR:=World.rangeAt_setCells_same wO w.heap.size 0 [.slice av k cv] (HRes.out.row.there (o:=0) (m:=1) (Nat.le_refl _))
   have hE:=HO.out.ends (N:=60) (p:=p) (t:=1100) HRes.out (Nat.le_refl _) k0 HR0.out rfl (by omega) (by omega) (by have:=HLk.out;omega)
   rw [HLk.out] at hE
   exact Zk [.slice av k cv] _ Try.results32 rfl hR Try.underlying25 rfl Try.sizeWebW rfl hE
theorem in64_wrap64 (x:Int):In64 (wrap64 x):=by
 unfold In64 wrap64
 omega
theorem many_at (w:World) (s:ByteArray) (m:Int) (n:Nat) (hm:m= (n:Int)) (hn:n<=1000) (hs:s.size<=100):
  Calls Try.prog 37 #[.string s,.int .i64 m] w fun e w'=> (∃t:ByteArray,e= .returned (.string t)∧t.size<=n * s.size)∧w'=w:=by
 rw [hm]
 exact many_any w s n hn hs
theorem lit_int0 (w:World) (t:TypeId) (cs:List Int) (q:Nat) (hq:q < cs.length) (hb: ∀c∈cs, -1000<=c∧c<=1000): ∃c,(w.alloc (.cells (cs.map (Value.int .i64)).toArray t)).cell? ⟨w.heap.size,q,none⟩=some (.int .i64 c)∧ -1000<=c∧c<=1000:=by
 refine ⟨cs[q], ?_,hb _ (List.getElem_mem hq)⟩
 rw [World.cell?_alloc_mark]
 simp [hq]
theorem at_blk {v:Value} {g H n cap:Nat} (h:v.ownBlock=some g∨g=H): (Value.slice (some ⟨g,0,none⟩) n cap).ownBlock=v.ownBlock∨(Value.slice (some ⟨g,0,none⟩) n cap).ownBlock=some H:=by
 rcases h with h | rfl
 ·exact .inl h.symm
 ·exact .inr rfl
theorem lit_str {w w5:World} {rb:Nat} {t:TypeId} (cs:List ByteArray) (k:Xq rb (rb+1) (w.alloc (.cells (cs.map Value.string).toArray t)) w5) (hrb:rb < w.heap.size) (q:Nat) (hq:q < cs.length) (hb: ∀c∈cs,c.size<=300): ∃c,w5.cell? ⟨w.heap.size,q,none⟩=some (.string c)∧c.size<=300:=by
 refine ⟨cs[q], ?_,hb _ (List.getElem_mem hq)⟩
 rw [k.cell (by simp) (by omega),World.cell?_alloc_mark]
 simp [hq]
theorem lit_str0 (w:World) (t:TypeId) (cs:List ByteArray) (q:Nat) (hq:q < cs.length) (hb: ∀c∈cs,c.size<=300): ∃c,(w.alloc (.cells (cs.map Value.string).toArray t)).cell? ⟨w.heap.size,q,none⟩=some (.string c)∧c.size<=300:=by
 refine ⟨cs[q], ?_,hb _ (List.getElem_mem hq)⟩
 rw [World.cell?_alloc_mark]
 simp [hq]
