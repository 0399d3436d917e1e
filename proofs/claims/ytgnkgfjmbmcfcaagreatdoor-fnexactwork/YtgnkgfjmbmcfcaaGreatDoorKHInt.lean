import Derived.Test.YtgnkgfjmbmcfcaaGreatDoorKXPut
import Derived.Deep.RegionLaw
import Derived.Test.YtgnkgfjmbmcfcaaGreatDoorKXWant
import Derived.Test.YtgnkgfjmbmcfcaaGreatDoorKXNext
import Derived.Maps.Own
import Derived.Maps.OwnSet
import Derived.Maps.Views
import Derived.Laws.OwnMore
set_option maxRecDepth 100000
set_option maxHeartbeats 25600000
namespace Go.Proofs.YtgnkgfjmbmcfcaaGreatDoor
open Go.RowKit
theorem Tryz.xSizeState : (Tryz.prog.info? 53).map (·.size)=some 2:=by kernel_rfl
theorem PackedX.set {w:World} {P:Nat->Prop} {xs:List Value} {l:List Qz} {c p:Nat} (h:PackedX w P xs l) (hc: ∀b,P b->b≠c) (u:Value):PackedX (w.setCell ⟨c,p,none⟩ u) P xs l:=by
 refine ⟨h.1,fun i hi=> ?_⟩
 obtain ⟨xa,xc,e,hs,hx,hp⟩:=h.2 i hi
 refine ⟨xa,xc,e,(fun j hj=> ?_),hx,hp⟩
 obtain ⟨b,o,rfl,hb,hcl⟩:=hs j hj
 exact ⟨b,o,rfl,by rw [size_setCell];exact hb,by rw [Zk (hc b (hp _ rfl))];exact hcl⟩
theorem owns_but {w w':World} {base size sb m n:Nat} {e t:TypeId} {v:Value} {xs:List Value} (h:w.ownsRow base e size v n xs) (k:Xk sb (sb+1) w w') (hr:RowT w sb t m) (ht:t≠e):w'.ownsRow base e size v n xs:=by
 refine ⟨h.1, ?_⟩
 rcases h.2 with h2 | ⟨g,cap,cur,rfl,hb,hg,rest⟩
 ·exact .inl h2
 ·refine .inr ⟨g,cap,cur,rfl,hb, ?_,rest⟩
  have hne:g≠sb:=by
   rintro rfl
   obtain ⟨c2,h2,_⟩:=hr
   rw [hg] at h2
   simp only [Option.some.injEq,Obj.cells.injEq] at h2
   exact ht h2.2.1.symm
  rw [k.block g (heap_lt hg) (by omega)]
  exact hg
theorem owned_strs {w:World} {base:Nat} {t:TypeId} {v:Value} {n:Nat} {l:List ByteArray} (h:w.ownsRow base t 1 v n (l.map Value.string)): ∃a cap,v= .slice a l.length cap∧Strs w a l:=by
 have hn:n=l.length:=by have:=h.1;simp at this;omega
 subst hn
 rcases h.2 with ⟨rfl,h0⟩ | ⟨g,cap,cur,rfl,hb,hg,hnc,_,_,_⟩
 ·exact ⟨none,0,by rw [h0],fun i hi=> by omega⟩
 ·refine ⟨_,cap,rfl,fun i hi=> ⟨g,0,rfl,heap_lt hg, ?_⟩⟩
  have:=h.cells (g:=g) rfl i (.string (l.getD i ByteArray.empty)) (by simp [List.getD,hi])
  rw [Addr.add_mid] at this
  exact this
structure StX (W1 wr:World) (sb:Nat) (ra:Option Addr) (n rc:Nat) (d:Option Addr) (t:List Qz) (dc:Nat) (xs:List Value):Prop where
 kb:Xk sb (sb+1) W1 wr
 row:RowT wr sb 53 2
 Kk:wr.cell? ⟨sb,0,none⟩=some (.slice ra n rc)
 runs:wr.cell? ⟨sb,1,none⟩=some (.slice d t.length dc)
 own:wr.ownsRow W1.heap.size 103 7 (.slice d t.length dc) t.length xs
 pack:PackedX wr (fun b=> sb < b) xs t
def StateX (Kk:List ByteArray) (T:List Qz) (w w':World) (e:Ending):Prop:=
 ∃ra rc d dc xs,e= .returned (.agg #[.slice ra Kk.length rc,.slice d T.length dc])∧w'.ownsRow w.heap.size 9 1 (.slice ra Kk.length rc) Kk.length (Kk.map Value.string)∧w'.ownsRow w.heap.size 103 7 (.slice d T.length dc) T.length xs∧PackedX w' (fun b=> w.heap.size<=b) xs T∧K_ w w'
theorem foldl_asc : ∀(l t:List Qz),AscX t->AscX (l.foldl insX t)
 | [],_,h=> h
 | x :: l,t,h=> foldl_asc l (insX t x) (insX_asc h)
theorem stateX_any (w:World) (rb ro rc:Nat) (Kk:List ByteArray) (a:Option Addr) (cap:Nat) (R:List Qz) (hrl:Kk.length<=10) (hRl:R.length<=10000) (hTt: ∀r∈R,r.texts.length<=1000) (hfl: ∀k,((R.take k).foldl insX []).length<=10000) (hR:Strs w (some ⟨rb,ro,none⟩) Kk) (hS:RunsX w a R):
  Calls Tryz.prog 48 #[.slice (some ⟨rb,ro,none⟩) Kk.length rc,.slice a R.length cap] w fun e w'=> StateX Kk (R.foldl insX []) w w' e:=by
 obtain ⟨is,hi,hz0,hz1,hz2⟩:=xInfo_parts Tryz.xInfoStr
 obtain ⟨W0,hW0⟩: ∃W0,W0=w.alloc (.cells #[.slice none 0 0,.slice none 0 0] 53):= ⟨_,rfl⟩
 have KW0:K_ w W0:=by rw [hW0];exact (K_.refl _).alloc _
 have hres0:RowT W0 w.heap.size 53 2:=by rw [hW0];exact RowT.made w #[.slice none 0 0,.slice none 0 0] 53
 have hW0s:w.heap.size+1<=W0.heap.size:=hres0.lt
 have HRes0:=Kz hres0
 have HKE:Hid (K_ W0 (W0.alloc (.cells #[] 9))):= (K_.refl _).alloc _
 have HO0:Hid ((W0.alloc (.cells #[] 9)).ownsRow W0.heap.size 9 1 (.slice (some ⟨W0.heap.size,0,none⟩) 0 0) 0 (([]:List ByteArray).map Value.string)):=World.ownsRow_made W0 #[] 0 (Nat.le_refl _) (Nat.zero_le _) rfl
 have HNews:Hid (∀j u,(Kk.map Value.string)[j]? =some u->(W0.alloc (.cells #[] 9)).cell? ((⟨rb,ro,none⟩:Addr).add j)=some u):=fun j u hu=> by
  have hj:j < Kk.length:=by have:= (List.getElem?_eq_some_iff.1 hu).1;simpa using this
  obtain ⟨b,o,e,hb,hc⟩:= (hR.kept (KW0.trans HKE.out)) j hj
  simp only [Option.some.injEq] at e
  rw [e,Addr.add_mid,hc]
  simp [hj] at hu
  simp [List.getD,hj,hu]
 have HOnes:Hid (∀u∈Kk.map Value.string,u.oneCell'=true):=fun u hu=> by obtain ⟨x,_,rfl⟩:=List.mem_map.1 hu;rfl
 have hbs:W0.heap.size<=(W0.alloc (.cells #[] 9)).heap.size:=HKE.out.size
 clear hres0
 go_enter Tryz.func48,Tryz.ntmps48
 go_upto_region 1 with fail
 rw [<-hW0]
 clear hW0
 go_wp2_with (at_builtin;refine wpList_append_own _ rfl (.tmp 7) (.tmp 8) 25 rfl W0.heap.size 9 is _ 1 16 Tryz.underlying25 hi hz0 hz1 hz2 rfl (by decide) (.slice (some ⟨W0.heap.size,0,none⟩) 0 0) 0 [] rfl HO0.out ⟨rb,ro,none⟩ Kk.length rc (Kk.map Value.string) rfl (by simp) HNews.out HOnes.out (by unfold maxLen;omega) (by omega) hbs ?_;intro v6 w6 hown6 hgr6 _;have kw6:K_ W0 w6:=kept_of_grown HKE.out (Nat.le_refl _) HO0.out hgr6;rw [Nat.zero_add,List.nil_append] at hown6;obtain ⟨ra,rc6,rfl⟩:=own_slice hown6;have HT6:=Kz hown6;clear hown6 hgr6)
 obtain ⟨W1,hW1⟩: ∃W1,W1=w6.alloc (.cells #[.slice ra Kk.length rc6,.slice none 0 0] 53):= ⟨_,rfl⟩
 obtain ⟨sb,hsb⟩: ∃sb,sb=w6.heap.size:= ⟨_,rfl⟩
 have KE1:K_ w6 W1:=by rw [hW1];exact (K_.refl _).alloc _
 have HSr:Hid (RowT W1 sb 53 2):=by rw [hW1,hsb];exact RowT.made w6 #[.slice ra Kk.length rc6,.slice none 0 0] 53
 have hcs:W1.rangeAt sb 0 [.slice ra Kk.length rc6,.slice none 0 0]:=by rw [hW1,hsb];exact Xz w6 #[.slice ra Kk.length rc6,.slice none 0 0] 53
 have HCs:=Kz hcs
 have HRes:=Kz (HRes0.out.kept (kw6.trans KE1))
 have HT7:=Kz (ownsRow_kept' HT6.out KE1)
 have K1:K_ w W1:= (KW0.trans kw6).trans KE1
 have hz6:=kw6.size
 have hs1:sb+1<=W1.heap.size:=HSr.out.lt
 have hs0:w.heap.size < sb:=by omega
 rw [<-hW1,<-hsb]
 clear hcs HT6 HO0 HNews HRes0 hW1 hsb HOnes hbs HKE KE1 kw6 hz6 KW0
 go_loopw [6] (fun i wr=> ∃(k:Nat) (d:Option Addr) (dc:Nat) (xs:List Value),k<=R.length∧i= .int .i64 k∧StX W1 wr sb ra Kk.length rc6 d ((R.take k).foldl insX []) dc xs) (fun i _=> R.length - (intOf i).toNat)
 case atStart=>
  have hc:=HCs.out
  exact ⟨0,none,0,[],Nat.zero_le _,rfl,⟨Xk.refl _ _ _,HSr.out,hc 0 _ rfl,hc 1 _ rfl,World.ownsRow_nil _ _ _ _,PackedX.nil _ _⟩⟩
 case round=>
  obtain ⟨k,d,dc,xs,hk,rfl,hSt⟩:=hrel
  have hfk:=hfl k
  by_cases hlt:k < R.length
  ·have Kr:K_ w wr:=hSt.kb.kept K1 (by omega)
   obtain ⟨b,o,xa,ca,rfl,hb,hc,hTk,hXk⟩:=hS.kept Kr k hlt
   obtain ⟨t,ht⟩: ∃t,t= (R.take k).foldl insX []:= ⟨_,rfl⟩
   obtain ⟨y,hy⟩: ∃y,y=R.getD k Qz.zero:= ⟨_,rfl⟩
   have HSc:Hid ((R.take (k+1)).foldl insX []=insX t y):=by show _=_;rw [List.take_succ_eq_append_getElem hlt,List.foldl_append,ht,hy];simp [List.getD,hlt]
   have hTr:AscX t:=by rw [ht];exact foldl_asc _ _ List.Pairwise.nil
   have hyt:y.texts.length<=1000:=by rw [hy];simp only [List.getD,hlt,List.getElem?_eq_getElem,Option.getD_some];exact hTt _ (List.getElem_mem hlt)
   rw [<-ht] at hSt hfk
   rw [<-hy] at hc hTk
   have HSt:=Kz hSt
   have zr:=hSt.kb.size
   have HRt:Hid (RunsXP wr (fun b=> sb < b) d t):=by
    obtain ⟨_,a9,c9,ev,h⟩:=PackedX.runs hSt.own hSt.pack (K_.refl _)
    simp only [Value.slice.injEq,true_and] at ev
    rw [ev.1]
    exact h
   have HPut:Hid (∀W,K_ wr W->Calls Tryz.prog 98 #[.slice d t.length dc,.agg #[.string y.name,.bool y.over,.bool y.fail,.string y.text,.int .i64 y.at',.int .i64 y.Zj,.slice xa y.texts.length ca]] W fun e w'=> ∃v,e= .returned v∧RunsO W w' (fun b=> sb < b) v (insX t y)∧K_ W w'):=fun W hW=> xPut_any W d dc t y xa ca (by omega) hyt hTr (fun b=> sb < b) (fun b hb=> by have:=hW.size;omega) (HRt.out.kept hW) (hTk.kept hW) hXk
   have c0:wr.cell? ⟨b,o+k * 7+0,none⟩=some (.string y.name):=hc 0 _ rfl
   have c1:wr.cell? ⟨b,o+k * 7+1,none⟩=some (.bool y.over):=hc 1 _ rfl
   have c2:wr.cell? ⟨b,o+k * 7+2,none⟩=some (.bool y.fail):=hc 2 _ rfl
   have c3:wr.cell? ⟨b,o+k * 7+3,none⟩=some (.string y.text):=hc 3 _ rfl
   have c4:wr.cell? ⟨b,o+k * 7+4,none⟩=some (.int .i64 y.at'):=hc 4 _ rfl
   have c5:wr.cell? ⟨b,o+k * 7+5,none⟩=some (.int .i64 y.Zj):=hc 5 _ rfl
   have c6:wr.cell? ⟨b,o+k * 7+6,none⟩=some (.slice xa y.texts.length ca):=hc 6 _ rfl
   rw [Nat.add_zero] at c0
   have m1:=hSt.runs
   have hsb:=hSt.row.lt
   clear hc hy ht hTr hSt hTk hXk
   have i0: (k:Int) < (R.length:Int):=by omega
   have Zz:Hid (∀w',K_ wr w'->(fun w'=> w'.cell? ⟨sb,1,none⟩=some (.slice d t.length dc)∧w'.cell? ⟨b,o+k * 7,none⟩=some (.string y.name)∧w'.cell? ⟨b,o+k * 7+1,none⟩=some (.bool y.over)∧w'.cell? ⟨b,o+k * 7+2,none⟩=some (.bool y.fail)∧w'.cell? ⟨b,o+k * 7+3,none⟩=some (.string y.text)∧w'.cell? ⟨b,o+k * 7+4,none⟩=some (.int .i64 y.at')∧w'.cell? ⟨b,o+k * 7+5,none⟩=some (.int .i64 y.Zj)∧w'.cell? ⟨b,o+k * 7+6,none⟩=some (.slice xa y.texts.length ca)) w'):=fun w' kk=> ⟨(kk.cell hsb).trans m1,(kk.cell hb).trans c0,(kk.cell hb).trans c1,(kk.cell hb).trans c2,(kk.cell hb).trans c3,(kk.cell hb).trans c4,(kk.cell hb).trans c5,(kk.cell hb).trans c6⟩
   go_wp2
   refine Qx.region (by kernel_rfl) (fun w'=> w'.cell? ⟨sb,1,none⟩=some (.slice d t.length dc)∧w'.cell? ⟨b,o+k * 7,none⟩=some (.string y.name)∧w'.cell? ⟨b,o+k * 7+1,none⟩=some (.bool y.over)∧w'.cell? ⟨b,o+k * 7+2,none⟩=some (.bool y.fail)∧w'.cell? ⟨b,o+k * 7+3,none⟩=some (.string y.text)∧w'.cell? ⟨b,o+k * 7+4,none⟩=some (.int .i64 y.at')∧w'.cell? ⟨b,o+k * 7+5,none⟩=some (.int .i64 y.Zj)∧w'.cell? ⟨b,o+k * 7+6,none⟩=some (.slice xa y.texts.length ca)) 8 ⟨m1,c0,c1,c2,c3,c4,c5,c6⟩ (fun Z_=> ?_)
   refine Qx.tk 0 Z_ ?_
   refine Qx.tk 1 Z_ ?_
   refine Qx.tk 2 Z_ ?_
   refine Qx.tk 3 Z_ ?_
   refine Qx.tk 4 Z_ ?_
   refine Qx.tk 5 Z_ ?_
   refine Qx.nx 6 (fun K hK=> ?_)
   rw [if_pos (by rfl)]
   go_simp
   go_at_call 98
   refine (HPut.out _ (by repeat (first | (with_reducible exact K_.refl _) | (with_reducible assumption) | apply K_.drew))).mono ?_
   rintro e w2 ⟨v2,rfl,hO2,kk2⟩
   have k2:K_ wr w2:=K_.trans (by repeat (first | (with_reducible exact K_.refl _) | (with_reducible assumption) | apply K_.drew)) kk2
   have z2:=k2.size
   obtain ⟨wy,xs2,ky1,ky2,hO3,hP3⟩:=hO2
   have zy:=ky1.size
   have hwy:W1.heap.size<=wy.heap.size:=Nat.le_trans zr (Nat.le_trans (Nat.le_of_eq (by rfl)) zy)
   have hO2':=owns_base (base':=W1.heap.size) hO3 hwy
   obtain ⟨d2,dc2,rfl⟩:=own_slice hO3
   have HO2:=Kz hO2'
   have HP2:=Kz (hP3.kept ky2)
   have hr2:=HSt.out.row.kept k2
   obtain ⟨⟨_,fo2⟩,fo1⟩:=hr2.row.at (i:=1) (by omega)
   have HRw:=Kz hr2
   clear hO2' hO3 hP3 hr2 ky1 ky2 zy hwy
   dsimp only
   refine hK.out _ _ (fun _=> Zz.out w2 k2) ?_
   clear hK K Z_
   have Z_:=Zz.out w2 k2
   try simp only [Act.put,upA,upB,upC]
   refine Qx.tk 7 Z_ ?_
   refine Qx.nx 8 (fun K hK=> ?_)
   go_simp
   refine hK.out _ _ (fun h=> absurd rfl h) ?_
   clear hK K
   try simp only [Act.put,upA,upB,upC]
   refine Qx.dn ?_
   go_wp2
   go_roundw
   case rel=> exact ⟨k+1,d2,dc2,xs2,by omega,by go_num,by rw [HSc.out];exact ⟨(HSt.out.kb.trans (Xk.of_kept k2)).setCell (Nat.le_refl _) (Nat.lt_succ_self _) _,HRw.out.set _,by rw [Xx (by omega),k2.cell HSt.out.row.lt];exact HSt.out.Kk,set_hit HRw.out.row (by omega) _,owns_set (p:= ⟨sb,1,none⟩) HO2.out hs1 _,HP2.out.set (fun b h=> by omega) _⟩⟩
   case measure=> simp [intOf];omega
  ·have hkl:k=R.length:=by omega
   subst hkl
   rw [List.take_length] at hSt hfk
   obtain ⟨t,ht⟩: ∃t,t=R.foldl insX []:= ⟨_,rfl⟩
   rw [<-ht] at hSt hfk
   have m0:=hSt.Kk
   have m1:=hSt.runs
   have hrs:=HRes.out.block (hSt.kb.block _ HRes.out.lt (by omega))
   obtain ⟨⟨_,t0⟩,f0⟩:=hrs.row.at (i:=0) (by omega)
   obtain ⟨⟨_,t1⟩,f1⟩:=hrs.row.at (i:=1) (by omega)
   have HRs:=Kz hrs
   have HSt:=Kz hSt
   have hsb:=hSt.row.lt
   have hwb:=hrs.lt
   clear hrs hSt
   go_wp2
   have hR9:=World.rangeAt_setCells_same wr w.heap.size 0 [.slice ra Kk.length rc6,.slice d t.length dc] (HRs.out.row.there (o:=0) (m:=2) (Nat.le_refl _))
   have hO:=owns_set (owns_set HSt.out.own (p:= ⟨w.heap.size,0,none⟩) (by show w.heap.size < _;omega) (.slice ra Kk.length rc6)) (p:= ⟨w.heap.size,1,none⟩) (by show w.heap.size < _;omega) (.slice d t.length dc)
   have hT8:=owns_but HT7.out HSt.out.kb HSr.out (by decide)
   have hT9:=owns_set (owns_set hT8 (p:= ⟨w.heap.size,0,none⟩) (by show w.heap.size < _;omega) (.slice ra Kk.length rc6)) (p:= ⟨w.heap.size,1,none⟩) (by show w.heap.size < _;omega) (.slice d t.length dc)
   have hP9:= (HSt.out.pack.set (c:=w.heap.size) (p:=0) (fun b h=> by omega) (.slice ra Kk.length rc6)).set (c:=w.heap.size) (p:=1) (fun b h=> by omega) (.slice d t.length dc)
   subst ht
   refine X_ [.slice ra Kk.length rc6,.slice d (R.foldl insX []).length dc] _ Tryz.results48 rfl hR9 Tryz.underlying53 rfl Tryz.xSizeState rfl ⟨ra,rc6,d,dc,xs,rfl,owns_base hT9 (by omega),owns_base hO (by omega),⟨hP9.1,fun i hi=> by obtain ⟨xa,xc,e,h1,h2,h3⟩:=hP9.2 i hi;exact ⟨xa,xc,e,h1,h2,fun ad e=> by have:=h3 ad e;omega⟩⟩, ?_⟩
   exact ((HSt.out.kb.kept K1 (by omega)).setCell (Nat.le_refl _) _).setCell (Nat.le_refl _) _
theorem xBoxCell {w wi:World} {x:Value} {t:TypeId} (K:K_ (w.alloc (.cells #[x] t)) wi):wi.cell? ⟨w.heap.size,0,none⟩=some x:=
 (K.cell (by simp)).trans (Xz w #[x] t 0 _ rfl)
theorem xRowAlloc {X w':World} {c:Array Value} {t:TypeId} (k:K_ (X.alloc (.cells c t)) w'):RowT w' X.heap.size t c.size:= (RowT.made X c t).kept k
theorem filter_two {α:Type} (p q:α->Bool) (h: ∀x,¬(p x=true∧q x=true)): ∀l:List α,(l.filter p).length+ (l.filter q).length<=l.length
 | []=> Nat.le_refl _
 | x :: l=> by
  have ih:=filter_two p q h l
  have hx:=h x
  simp only [List.filter_cons]
  by_cases h1:p x=true
  ·have h2: ¬q x=true:=fun h2=> hx ⟨h1,h2⟩
   rw [if_pos h1,if_neg h2,List.length_cons,List.length_cons]
   omega
  ·rw [if_neg h1]
   by_cases h2:q x=true
   ·rw [if_pos h2,List.length_cons,List.length_cons];omega
   ·rw [if_neg h2,List.length_cons];omega
theorem ins_len1 (l:List Qz) (r:Qz): (insX l r).length<=l.length+1:=by
 unfold insX
 rw [List.length_append,List.length_cons]
 have:=filter_two (fun x:Qz=> Op.bytesLess x.name.toList r.name.toList) (fun x:Qz=> Op.bytesLess r.name.toList x.name.toList) (fun x h=> lessX_asymm h.1 h.2) l
 omega
theorem foldl_len : ∀(l t:List Qz),(l.foldl insX t).length<=t.length+l.length
 | [],_=> Nat.le_refl _
 | x :: l,t=> by
  have h1:=foldl_len l (insX t x)
  have h2:=ins_len1 t x
  show (l.foldl insX (insX t x)).length<=_
  rw [List.length_cons]
  omega
theorem take_foldl_len (R:List Qz) (k:Nat): ((R.take k).foldl insX []).length<=R.length:=by
 have h1:=foldl_len (R.take k) []
 have h2: (R.take k).length<=R.length:=by rw [List.length_take];omega
 simp only [List.length_nil] at h1
 omega
theorem wantL_mem (W:Acts): ∀(bs:List ByteArray) (l:List Qz) (x:Qz),x∈wantL W l bs->x∈l∨∃n,x=Qz.fresh n
 | [],_,_,h=> .inl h
 | a :: bs,l,x,h=> by
  rcases wantL_mem W bs _ x h with h1 | h1
  ·by_cases hc: (W a).isSome=true∧(Qj l a).isNone=true
   ·rw [if_pos hc] at h1
    rcases List.mem_append.1 h1 with h2 | h2
    ·exact .inl h2
    ·rw [List.mem_singleton] at h2
     exact .inr ⟨a,h2⟩
   ·rw [if_neg hc] at h1
    exact .inl h1
  ·exact .inr h1
theorem packedX_weak {w:World} {P Q:Nat->Prop} {xs:List Value} {l:List Qz} (h:PackedX w P xs l) (hq: ∀b,P b->Q b):PackedX w Q xs l:=
 ⟨h.1,fun i hi=> by obtain ⟨xa,xc,e,h1,h2,h3⟩:=h.2 i hi;exact ⟨xa,xc,e,h1,h2,fun ad e=> hq _ (h3 ad e)⟩⟩
theorem startX_any (w:World) (a:Option Addr) (cap:Nat) (Kj:List Qq) (rb ro rc:Nat) (Kk:List ByteArray) (hl:Kj.length<=1048576) (hf: ∀s∈Kj,s.Fits) (hw:WebCode Kj 0) (hro:RootsOk Kk) (hrs: ∀s∈Kk,s.size<=maxLen) (hS:Nodes w a Kj) (hR:Strs w (some ⟨rb,ro,none⟩) Kk):
  Calls Tryz.prog 21 #[.agg #[.slice a Kj.length cap],.slice (some ⟨rb,ro,none⟩) Kk.length rc] w fun e w'=> StateX Kk (startL Kj Kk) w w' e:=by
 have hl':Kj.length<=maxLen:=by unfold maxLen;omega
 have hrl:Kk.length<=maxLen:=by have:=hro.1;have:=hro.2.1;unfold maxLen;omega
 go_enter Tryz.func21,Tryz.ntmps21
 go_wp2_with fail
 refine (specCheckWeb_any _ a cap Kj hl' hf (hS.kept (by repeat (first | apply K_.alloc | exact K_.refl _)))).mono ?_
 rintro e w1 ⟨⟨c,rfl,hc⟩,k1⟩
 have K1:K_ w w1:=K_.trans (by repeat (first | apply K_.alloc | exact K_.refl _)) k1
 have z1:=k1.size
 simp only [World.size_alloc] at z1
 have q0:=xBoxCell (w:=w) (K_.trans ((K_.refl _).alloc _) k1)
 have hrow1:=xRowAlloc k1
 simp only [World.size_alloc] at hrow1
 have HR1:Hid (RowT w1 (w.heap.size+1) 53 2):=hrow1
 obtain ⟨⟨_,x0⟩,g0⟩:=HR1.out.row.at (i:=0) (by omega)
 obtain ⟨⟨_,x1⟩,g1⟩:=HR1.out.row.at (i:=1) (by omega)
 have hc0:c=0:=hc.unique hw
 clear hrow1 hc k1
 have hw1:w.heap.size < w1.heap.size:=by omega
 have hw2:w.heap.size+1 < w1.heap.size:=by omega
 subst hc0
 go_wp2_with fail
 refine (l3RootsOk_any _ (some ⟨rb,ro,none⟩) rc Kk hrl hrs (hR.kept K1)).mono ?_
 rintro e w2 ⟨hsay,k2⟩
 have q2:= (k2.cell (o:=0) hw1).trans q0
 have HR2:=Kz (HR1.out.kept k2)
 have K2:=K1.trans k2
 have z2:=k2.size
 obtain ⟨⟨_,y0⟩,e0⟩:=HR2.out.row.at (i:=0) (by omega)
 obtain ⟨⟨_,y1⟩,e1⟩:=HR2.out.row.at (i:=1) (by omega)
 clear q0 x0 x1 g0 g1 HR1 K1 k2
 rcases hsay.cases with ⟨rfl,hyes⟩ | ⟨rfl,hno⟩
 ·have HY:=Kz hyes
  clear hyes hsay
  have hv1:w.heap.size < w2.heap.size:=by omega
  have HKn0:Hid (KnX w2 (w2.alloc (.cells #[.slice a Kj.length cap,.slice none 0 0] 94)) w2.heap.size a Kj.length cap [] none 0 []):= ⟨(K_.refl _).alloc _,⟨RowT.made w2 _ _,Xz w2 #[.slice a Kj.length cap,.slice none 0 0] 94 0 _ rfl,Xz w2 #[.slice a Kj.length cap,.slice none 0 0] 94 1 _ rfl⟩,World.ownsRow_nil _ _ _ _,PackedX.nil _ _⟩
  go_wp2_with fail
  refine (wantX_any w2 _ w2.heap.size (Nat.le_refl _) a cap Kj (some ⟨rb,ro,none⟩) rc Kk [] none 0 [] hl (by have:=HY.out.2.1;omega) (by simp) HKn0.out (hS.kept K2) (hR.kept K2)).mono ?_
  rintro e w3 ⟨rfl,d,dc,xs,hKn⟩
  have k3:K_ w2 w3:=hKn.kw
  have K3:=K2.trans k3
  have z3:=k3.size
  have m1:=hKn.known.runs
  have hkb:=hKn.known.row.lt
  have HRz:=Kz hKn.runs
  have HR3:=Kz (HR2.out.kept k3)
  obtain ⟨R,hRR⟩: ∃R,R=wantL (Q_ Kj) [] Kk:= ⟨_,rfl⟩
  have hRl:R.length<=10:=by have:=wantL_len (Q_ Kj) Kk [];have:=HY.out.2.1;rw [hRR];simp at *;omega
  have hRt: ∀r∈R,r.texts.length<=1000:=fun r hr=> by
   rw [hRR] at hr
   rcases wantL_mem _ _ _ _ hr with h | ⟨n,rfl⟩
   ·cases h
   ·exact Nat.zero_le _
  have HRR:Hid (R.foldl insX []=startL Kj Kk):=by show _=_;rw [hRR];rfl
  rw [<-hRR] at HRz m1
  have HRt:=Kz hRt
  clear hKn y0 y1 e0 e1 HR2 q2 hRR hRt
  go_wp2_with fail
  refine (stateX_any _ rb ro rc Kk d dc R (by have:=HY.out.2.1;omega) (by omega) HRt.out (fun k=> by have:=take_foldl_len R k;omega) (hR.kept K3) HRz.out).mono ?_
  rintro e w4 hEnd
  rw [HRR.out] at hEnd
  obtain ⟨ra,rc4,d4,dc4,xs4,rfl,hT4,hO4,hP4,k4⟩:=hEnd
  have K4:=K3.trans k4
  have HR4:=Kz (HR3.out.kept k4)
  have z4:=k4.size
  obtain ⟨⟨_,t0⟩,f0⟩:=HR4.out.row.at (i:=0) (by omega)
  obtain ⟨⟨_,t1⟩,f1⟩:=HR4.out.row.at (i:=1) (by omega)
  have HT4:=Kz hT4
  have HO4:=Kz hO4
  have HP4:=Kz hP4
  obtain ⟨T,hTT⟩: ∃T,T=startL Kj Kk:= ⟨_,rfl⟩
  rw [<-hTT] at HO4 HP4⊢
  have HTT:=Kz hTT
  clear hT4 hO4 hP4 HR3 m1 hTT HRR
  go_wp2
  have hR9:=World.rangeAt_setCells_same w4 (w.heap.size+1) 0 [.slice ra Kk.length rc4,.slice d4 T.length dc4] (HR4.out.row.there (o:=0) (m:=2) (Nat.le_refl _))
  have hO:=owns_set (owns_set HO4.out (p:= ⟨w.heap.size+1,0,none⟩) (by simp;omega) (.slice ra Kk.length rc4)) (p:= ⟨w.heap.size+1,1,none⟩) (by simp;omega) (.slice d4 T.length dc4)
  have hT9:=owns_set (owns_set HT4.out (p:= ⟨w.heap.size+1,0,none⟩) (by simp;omega) (.slice ra Kk.length rc4)) (p:= ⟨w.heap.size+1,1,none⟩) (by simp;omega) (.slice d4 T.length dc4)
  have hP9:= (HP4.out.set (c:=w.heap.size+1) (p:=0) (fun b h=> by omega) (.slice ra Kk.length rc4)).set (c:=w.heap.size+1) (p:=1) (fun b h=> by omega) (.slice d4 T.length dc4)
  obtain rfl:=HTT.out
  exact X_ [.slice ra Kk.length rc4,.slice d4 (startL Kj Kk).length dc4] _ Tryz.results21 rfl hR9 Tryz.underlying53 rfl Tryz.xSizeState rfl ⟨ra,rc4,d4,dc4,xs4,rfl,owns_base hT9 (by omega),owns_base hO (by omega),packedX_weak hP9 (fun b h=> by omega),(K4.setCell (by simp) _).setCell (by simp) _⟩
 ·exact absurd hro hno
def StrsB (w:World) (nb:Nat) (a:Option Addr) (l:List ByteArray):Prop:= ∀i,i < l.length->∃b o,a=some ⟨b,o,none⟩∧b < w.heap.size∧b≠nb∧w.cell? ⟨b,o+i,none⟩=some (.string (l.getD i ByteArray.empty))
theorem StrsB.new {w w':World} {a:Option Addr} {l:List ByteArray} (h:Strs w a l) (k:K_ w w'):StrsB w' w.heap.size a l:=fun i hi=> by
 obtain ⟨b,o,e,hb,hc⟩:=h i hi
 exact ⟨b,o,e,Nat.lt_of_lt_of_le hb k.size,by omega,(k.cell hb).trans hc⟩
theorem StrsB.of_A {n0 c nb:Nat} {w:World} {a:Option Addr} {l:List ByteArray} (h:StrsA n0 w c a l) (h1:n0<=nb) (h2:nb < c+2):StrsB w nb a l:=fun i hi=> by
 obtain ⟨b,o,e,hb,h3,hc⟩:=h i hi
 exact ⟨b,o,e,hb,by omega,hc⟩
theorem StrsB.sets' {nb:Nat} {a:Option Addr} {l:List ByteArray}: ∀(vs:List Value) (p:Nat) {w:World},StrsB w nb a l->StrsB (w.setCells nb p vs) nb a l
 | [],_,_,h=> h
 | v :: r,p,w,h=> by
  rw [World.setCells]
  refine StrsB.sets' r (p+1) fun i hi=> ?_
  obtain ⟨b,o,e,hb,h1,hc⟩:=h i hi
  exact ⟨b,o,e,by rw [size_setCell];exact hb,h1,by rw [Zk h1];exact hc⟩
theorem StrsB.sets {nb:Nat} {a:Option Addr} {l:List ByteArray} {w:World} (h:StrsB w nb a l) (vs:List Value) (p:Nat):Strs (w.setCells nb p vs) a l:=fun i hi=> by
 obtain ⟨b,o,e,hb,_,hc⟩:=StrsB.sets' vs p h i hi
 exact ⟨b,o,e,hb,hc⟩
theorem RowT.sets {b n:Nat} {t:TypeId}: ∀(vs:List Value) (p:Nat) {w:World},RowT w b t n->RowT (w.setCells b p vs) b t n
 | [],_,_,h=> h
 | v :: r,p,_,h=> by rw [World.setCells];exact RowT.sets r (p+1) (h.set v)
theorem RBox.laid {w:World} {nb:Nat} (h:RowT w nb 103 7) {q:Qz} {xq:Option Addr} {cq:Nat}:RBox (w.setCells nb 0 (q.cells xq cq)) nb q xq cq:=
 ⟨RowT.sets _ _ h,World.rangeAt_setCells_same w nb 0 (q.cells xq cq) (h.row.there (o:=0) (m:=7) (Nat.le_refl _))⟩
theorem next_asks {W:Acts} {σ:Env} {r:Qz}: (Y_ W σ r).2=[]∨∃A,W r.name=some A∧(Y_ W σ r).2= (stepOf A (Y_ W σ r).1.at').asks:=by
 unfold Y_
 cases hA:W r.name with
 | none=> exact .inl rfl
 | some A=>
  simp only
  by_cases h0:r.Zj=0
  ·rw [if_pos h0]
   refine .inr ⟨A,rfl, ?_⟩
   unfold arrive
   split <;> rfl
  ·rw [if_neg h0]
   cases Yq W σ (stepOf A r.at').asks with
   | none=> exact .inl rfl
   | some xs=>
    simp only
    by_cases h20:r.Zj=20
    ·rw [if_pos h20];exact .inl rfl
    ·rw [if_neg h20]
     by_cases hg: (goOnF (stepOf A r.at') xs).over=true
     ·rw [if_pos hg];exact .inl rfl
     ·rw [if_neg hg]
      refine .inr ⟨A,rfl, ?_⟩
      unfold arrive
      split <;> rfl
theorem next_asks_len {Kj:List Qq} {σ:Env} {r:Qz} (hok:ActsOk (Q_ Kj)) (hg:GoodEnv Kj σ) (h:r.Good Kj) (hc:CanGo (Q_ Kj) σ r): (Y_ (Q_ Kj) σ r).2.length<=5:=by
 rcases next_asks (W:=Q_ Kj) (σ:=σ) (r:=r) with e | ⟨A,hA,e⟩
 ·rw [e];exact Nat.zero_le _
 ·obtain ⟨A',hA',h0,h1⟩:= (nextOf_good hok hg h hc).act
  rw [nextOf_name] at hA'
  rw [hA] at hA'
  cases hA'
  rw [e]
  exact (asks_ok (hok _ _ hA).1 h0 h1).1
theorem doX_any (w:World) (a:Option Addr) (cap:Nat) (Kj:List Qq) (rb ro rc:Nat) (Kk:List ByteArray) (d:Option Addr) (dc:Nat) (l:List Qz) (name:ByteArray) (r:Qz) (hwl:Kj.length<=1000) (hlw:l.length<=900) (hsz:SmallAsks Kj) (hok:ActsOk (Q_ Kj)) (hft: ∀y∈Kj,y.Fits) (hrl:Kk.length<=10)
  (hgl:GoodL Kj l) (hr:Qj l name=some r) (hcg:CanGo (Q_ Kj) (Qj l) r) (hN:Nodes w a Kj) (hS:RunsX w d l) (hR:Strs w (some ⟨rb,ro,none⟩) Kk):
  Calls Tryz.prog 99 #[.agg #[.slice a Kj.length cap],.agg #[.slice (some ⟨rb,ro,none⟩) Kk.length rc,.slice d l.length dc],.string name] w fun e w'=> StateX Kk (doL (Q_ Kj) l r) w w' e:=by
 obtain ⟨k,hk,hke⟩: ∃k,k < l.length∧l.getD k Qz.zero=r:=by
  obtain ⟨k,h1,h2⟩:=List.getElem_of_mem (env_mem hr).1
  exact ⟨k,h1,by simp only [List.getD,List.getElem?_eq_getElem h1,Option.getD_some,h2]⟩
 have hgr:=hgl.good r (env_mem hr).1
 have hge:=hgl.env
 have hll:l.length<=1048576:=by omega
 have hwb:Kj.length<=1048576:=by omega
 obtain ⟨b,o,xa,xc,rfl,hb0,hcs,hTx,hXn⟩:=hS k hk
 rw [hke] at hcs hTx
 have HXn:=Kz hXn
 clear hXn
 obtain ⟨WB,hWB⟩: ∃WB,WB= ((w.alloc (.cells #[.slice a Kj.length cap] 37)).alloc (.cells #[.slice (some ⟨rb,ro,none⟩) Kk.length rc,.slice (some ⟨b,o,none⟩) l.length dc] 53)).alloc (.cells #[.slice none 0 0,.slice none 0 0] 53):= ⟨_,rfl⟩
 have kB:K_ w WB:=by rw [hWB];exact (((K_.refl _).alloc _).alloc _).alloc _
 have hBs:WB.heap.size=w.heap.size+3:=by rw [hWB];simp
 have b0:WB.cell? ⟨w.heap.size,0,none⟩=some (.slice a Kj.length cap):=by rw [hWB,K_.cell (w:=w.alloc (.cells #[.slice a Kj.length cap] 37)) (((K_.refl _).alloc _).alloc _) (by simp)];exact Xz w _ _ 0 _ rfl
 have s0:WB.cell? ⟨w.heap.size+1,0,none⟩=some (.slice (some ⟨rb,ro,none⟩) Kk.length rc):=by have:=Xz (w.alloc (.cells #[.slice a Kj.length cap] 37)) #[.slice (some ⟨rb,ro,none⟩) Kk.length rc,.slice (some ⟨b,o,none⟩) l.length dc] 53 0 _ rfl;rw [World.size_alloc] at this;rw [hWB,K_.cell (w:= (w.alloc (.cells #[.slice a Kj.length cap] 37)).alloc (.cells #[.slice (some ⟨rb,ro,none⟩) Kk.length rc,.slice (some ⟨b,o,none⟩) l.length dc] 53)) ((K_.refl _).alloc _) (by simp)];exact this
 have s1:WB.cell? ⟨w.heap.size+1,1,none⟩=some (.slice (some ⟨b,o,none⟩) l.length dc):=by have:=Xz (w.alloc (.cells #[.slice a Kj.length cap] 37)) #[.slice (some ⟨rb,ro,none⟩) Kk.length rc,.slice (some ⟨b,o,none⟩) l.length dc] 53 1 _ rfl;rw [World.size_alloc] at this;rw [hWB,K_.cell (w:= (w.alloc (.cells #[.slice a Kj.length cap] 37)).alloc (.cells #[.slice (some ⟨rb,ro,none⟩) Kk.length rc,.slice (some ⟨b,o,none⟩) l.length dc] 53)) ((K_.refl _).alloc _) (by simp)];exact this
 have HRes:Hid (RowT WB (w.heap.size+1+1) 53 2):=by
  have h1:=RowT.made ((w.alloc (.cells #[.slice a Kj.length cap] 37)).alloc (.cells #[.slice (some ⟨rb,ro,none⟩) Kk.length rc,.slice (some ⟨b,o,none⟩) l.length dc] 53)) #[.slice none 0 0,.slice none 0 0] 53
  simp only [World.size_alloc] at h1
  rw [hWB]
  exact h1
 have z0:w.heap.size < WB.heap.size:=by omega
 have z1:w.heap.size+1 < WB.heap.size:=by omega
 have hbB:b < WB.heap.size:=Nat.lt_of_lt_of_le hb0 kB.size
 have t0:WB.cell? ⟨b,o+k * 7,none⟩=some (.string r.name):= (kB.cell hb0).trans (hcs 0 _ rfl)
 have t1:WB.cell? ⟨b,o+k * 7+1,none⟩=some (.bool r.over):= (kB.cell hb0).trans (hcs 1 _ rfl)
 have t2:WB.cell? ⟨b,o+k * 7+2,none⟩=some (.bool r.fail):= (kB.cell hb0).trans (hcs 2 _ rfl)
 have t3:WB.cell? ⟨b,o+k * 7+3,none⟩=some (.string r.text):= (kB.cell hb0).trans (hcs 3 _ rfl)
 have t4:WB.cell? ⟨b,o+k * 7+4,none⟩=some (.int .i64 r.at'):= (kB.cell hb0).trans (hcs 4 _ rfl)
 have t5:WB.cell? ⟨b,o+k * 7+5,none⟩=some (.int .i64 r.Zj):= (kB.cell hb0).trans (hcs 5 _ rfl)
 have t6:WB.cell? ⟨b,o+k * 7+6,none⟩=some (.slice xa r.texts.length xc):= (kB.cell hb0).trans (hcs 6 _ rfl)
 have Zz:Hid (∀w',K_ WB w'->w'.cell? ⟨w.heap.size,0,none⟩=some (.slice a Kj.length cap)∧w'.cell? ⟨w.heap.size+1,0,none⟩=some (.slice (some ⟨rb,ro,none⟩) Kk.length rc)∧w'.cell? ⟨w.heap.size+1,1,none⟩=some (.slice (some ⟨b,o,none⟩) l.length dc)∧w'.cell? ⟨b,o+k * 7,none⟩=some (.string r.name)∧w'.cell? ⟨b,o+k * 7+1,none⟩=some (.bool r.over)∧w'.cell? ⟨b,o+k * 7+2,none⟩=some (.bool r.fail)∧w'.cell? ⟨b,o+k * 7+3,none⟩=some (.string r.text)∧w'.cell? ⟨b,o+k * 7+4,none⟩=some (.int .i64 r.at')∧w'.cell? ⟨b,o+k * 7+5,none⟩=some (.int .i64 r.Zj)∧w'.cell? ⟨b,o+k * 7+6,none⟩=some (.slice xa r.texts.length xc)):=fun w' K=> ⟨(K.cell z0).trans b0,(K.cell z1).trans s0,(K.cell z1).trans s1,(K.cell hbB).trans t0,(K.cell hbB).trans t1,(K.cell hbB).trans t2,(K.cell hbB).trans t3,(K.cell hbB).trans t4,(K.cell hbB).trans t5,(K.cell hbB).trans t6⟩
 have HCan:Hid (∀W,K_ WB W->Calls Tryz.prog 101 #[.agg #[.slice a Kj.length cap],.agg #[.slice (some ⟨rb,ro,none⟩) Kk.length rc,.slice (some ⟨b,o,none⟩) l.length dc],.agg #[.string r.name,.bool r.over,.bool r.fail,.string r.text,.int .i64 r.at',.int .i64 r.Zj,.slice xa r.texts.length xc]] W fun e w'=> Says e (CanGo (Q_ Kj) (Qj l) r)∧K_ W w'):=fun W K=> canGo_any W a cap Kj (some ⟨rb,ro,none⟩) Kk.length rc (some ⟨b,o,none⟩) dc l r xa xc hwb hll hsz (fun _ _=> hgr.act) (hN.kept (kB.trans K)) (hS.kept (kB.trans K))
 have HNxt:Hid (∀W,K_ WB W->Calls Tryz.prog 140 #[.agg #[.slice a Kj.length cap],.agg #[.slice (some ⟨rb,ro,none⟩) Kk.length rc,.slice (some ⟨b,o,none⟩) l.length dc],.agg #[.string r.name,.bool r.over,.bool r.fail,.string r.text,.int .i64 r.at',.int .i64 r.Zj,.slice xa r.texts.length xc]] W fun e w'=> NextSaid w.heap.size (W.heap.size+2) (Q_ Kj) (Qj l) r w' e∧K_ W w'):=fun W K=> next_old w W (kB.trans K) a cap Kj (some ⟨rb,ro,none⟩) Kk.length rc (some ⟨b,o,none⟩) dc l r xa xc hwb hll hsz hok hft hgr hge hcg hN (hS.kept (kB.trans K)) hTx HXn.out
 have HKB:=Kz kB
 have HN:=Kz hN
 have HS:=Kz hS
 have HRt0:=Kz hR
 have HCg:=Kz hcg
 have HGr:=Kz hgr
 have HEr:=Kz hr
 have HKe:=Kz hke
 clear hr hke
 clear kB hBs hcs hN hS hR hcg hTx t0 t1 t2 t3 t4 t5 t6 b0 s0 s1
 go_enter Tryz.func99,Tryz.ntmps99
 go_upto_region 1 with fail
 rw [<-hWB]
 clear hWB
 obtain ⟨b0,s0,s1,_⟩:=Zz.out _ (K_.refl _)
 go_wp2_with fail
 refine (l4At_place _ (some ⟨rb,ro,none⟩) Kk.length rc (some ⟨b,o,none⟩) dc l name hll (HS.out.kept HKB.out)).mono ?_
 rintro e w1 ⟨⟨q1,rfl,hq1⟩,K1⟩
 obtain rfl:q1= (k:Int):=by
  rcases hq1 with ⟨j,hj,e1,h1,h2⟩ | ⟨_,h1⟩
  ·rw [e1]
   have e2:l.getD j Qz.zero=l.getD k Qz.zero:=by rw [HEr.out] at h1;rw [<-Option.some.inj h1,HKe.out]
   simp only [List.getD,List.getElem?_eq_getElem hj,List.getElem?_eq_getElem hk,Option.getD_some] at e2
   have e3:=congrArg Qz.name e2
   have hasc:=List.pairwise_iff_getElem.1 hgl.asc
   rcases Nat.lt_trichotomy j k with h | h | h
   ·exact absurd e3 (lessX_ne (hasc j k hj hk h))
   ·rw [h]
   ·exact absurd e3.symm (lessX_ne (hasc k j hk hj h))
  ·rw [HEr.out] at h1;cases h1
 clear hq1 b0 s0 s1
 have hk0: ¬(k:Int) < 0:=by omega
 have hkl: (k:Int) < (l.length:Int):=by omega
 go_upto_region 2 with fail
 refine Qx.rk 12 Zz.out (K1.drew) (fun Z_=> ?_)
 have KD:K_ w1 w1.drew:= (K_.refl w1).drew
 generalize hwd:w1.drew=wd at Z_ KD⊢
 clear hwd
 refine Qx.tk 0 Z_ ?_
 refine Qx.tk 1 Z_ ?_
 refine Qx.tk 2 Z_ ?_
 refine Qx.tk 3 Z_ ?_
 refine Qx.tk 4 Z_ ?_
 refine Qx.tk 5 Z_ ?_
 refine Qx.tk 6 Z_ ?_
 refine Qx.tk 7 Z_ ?_
 refine Qx.tk 8 Z_ ?_
 refine Qx.tk 9 Z_ ?_
 refine Qx.nx 10 (fun K hK=> ?_)
 rw [if_pos (by rfl)]
 go_simp
 go_at_call 101
 refine (HCan.out wd (K1.trans KD)).mono ?_
 rintro e w2 ⟨hsay,k2⟩
 have K2:= (K1.trans KD).trans k2
 rcases hsay.cases with ⟨rfl,_⟩ | ⟨rfl,hno⟩
 rotate_left
 ·exact absurd HCg.out hno
 clear hsay k2
 dsimp only
 refine hK.out _ _ (fun _=> Zz.out _ K2) ?_
 clear hK K Z_ KD K1
 have Z_:=Zz.out _ K2
 try simp only [Act.put,upA,upB,upC]
 refine Qx.tk 11 Z_ ?_
 refine Qx.nx 12 (fun K hK=> ?_)
 go_simp
 refine hK.out _ _ (fun h=> absurd rfl h) ?_
 clear hK K
 try simp only [Act.put,upA,upB,upC]
 refine Qx.dn ?_
 clear Z_
 go_upto_region 4 with fail
 go_cut [8,9] from 29 to 39 (fun s8 s9 wx=> ∃nb q xq cq ka kc,s8= .pointer (some ⟨nb,0,none⟩)∧s9= .slice ka (Y_ (Q_ Kj) (Qj l) r).2.length kc∧q= (Y_ (Q_ Kj) (Qj l) r).1∧K_ WB wx∧WB.heap.size<=nb∧RBox wx nb q xq cq∧Strs wx xq q.texts∧(xq=none->cq=0)∧Strs wx ka (Y_ (Q_ Kj) (Qj l) r).2)
 case first=>
  refine Qx.rk 13 Zz.out (K2.drew) (fun Z_=> ?_)
  have KD:K_ w2 w2.drew:= (K_.refl w2).drew
  generalize hwd:w2.drew=wd at Z_ KD⊢
  clear hwd
  refine Qx.tk 0 Z_ ?_
  refine Qx.tk 1 Z_ ?_
  refine Qx.tk 2 Z_ ?_
  refine Qx.tk 3 Z_ ?_
  refine Qx.tk 4 Z_ ?_
  refine Qx.tk 5 Z_ ?_
  refine Qx.tk 6 Z_ ?_
  refine Qx.tw 7 11 (fun K hK=> ?_) (fun K hK=> ?_)
  ·rw [if_pos (by rfl)]
   go_simp
   go_at_call 140
   refine (HNxt.out wd (K2.trans KD)).mono ?_
   rintro e w3 ⟨⟨xq,cq,ka,kc,rfl,hTq,hXq,hTk⟩,k3⟩
   obtain ⟨q,hq⟩: ∃q,q= (Y_ (Q_ Kj) (Qj l) r).1:= ⟨_,rfl⟩
   obtain ⟨asks,has⟩: ∃asks,asks= (Y_ (Q_ Kj) (Qj l) r).2:= ⟨_,rfl⟩
   rw [<-hq] at hTq⊢
   rw [<-has] at hTk⊢
   have HQ:=Kz hq
   have HA:=Kz has
   have HTq:=Kz hTq
   have HTk:=Kz hTk
   have HXq:=Kz hXq
   clear hTq hTk hXq hq has
   dsimp only [Qz.cells]
   have K3:= (K2.trans KD).trans k3
   refine hK.out _ _ (fun _=> Zz.out _ K3) ?_
   clear hK K Z_
   have Z_:=Zz.out _ K3
   try simp only [Act.put,upA,upB,upC]
   refine Qx.tk 8 Z_ ?_
   refine Qx.tk 9 Z_ ?_
   refine Qx.tk 10 Z_ ?_
   refine Qx.nx 11 (fun K hK=> ?_)
   go_simp
   have K4:K_ w3 (w3.alloc (.cells #[.string ⟨#[]⟩,.bool false,.bool false,.string ⟨#[]⟩,.int .i64 0,.int .i64 0,.slice none 0 0] 103)):= (K_.refl _).alloc _
   refine hK.out _ _ (fun _=> Zz.out _ (K3.trans K4)) ?_
   clear hK K
   try simp only [Act.put,upA,upB,upC]
   have hRw:RowT (w3.alloc (.cells #[.string ⟨#[]⟩,.bool false,.bool false,.string ⟨#[]⟩,.int .i64 0,.int .i64 0,.slice none 0 0] 103)) w3.heap.size 103 7:=RowT.made w3 _ _
   have KE:=K3.trans K4
   have HTq2:=Kz (StrsB.new HTq.out.strs K4)
   have HTk2:=Kz (StrsB.new HTk.out.strs K4)
   have nz:=K3.size
   obtain ⟨nb,hnb⟩: ∃nb,nb=w3.heap.size:= ⟨_,rfl⟩
   rw [<-hnb] at hRw HTq2 HTk2 nz⊢
   generalize hwe:w3.alloc (.cells #[.string ⟨#[]⟩,.bool false,.bool false,.string ⟨#[]⟩,.int .i64 0,.int .i64 0,.slice none 0 0] 103)=wE at hRw KE HTq2 HTk2⊢
   clear hwe K4 hnb HTq HTk
   obtain ⟨⟨_,v0⟩,f0⟩:=hRw.row.at (i:=0) (by omega)
   obtain ⟨⟨_,v1⟩,f1⟩:=hRw.row.at (i:=1) (by omega)
   obtain ⟨⟨_,v2⟩,f2⟩:=hRw.row.at (i:=2) (by omega)
   obtain ⟨⟨_,v3⟩,f3⟩:=hRw.row.at (i:=3) (by omega)
   obtain ⟨⟨_,v4⟩,f4⟩:=hRw.row.at (i:=4) (by omega)
   obtain ⟨⟨_,v5⟩,f5⟩:=hRw.row.at (i:=5) (by omega)
   obtain ⟨⟨_,v6⟩,f6⟩:=hRw.row.at (i:=6) (by omega)
   have vz:=hRw.lt
   refine Qx.nx 12 (fun K hK=> ?_)
   go_simp
   refine hK.out _ _ ?_ ?_
   ·exact fun _=> Zz.out _ (kept_sets (g:=nb) nz [.string q.name,.bool q.over,.bool q.fail,.string q.text,.int .i64 q.at',.int .i64 q.Zj,.slice xq q.texts.length cq] 0 KE)
   clear hK K
   try simp only [Act.put,upA,upB,upC]
   refine Qx.nx 13 (fun K hK=> ?_)
   go_simp
   refine hK.out _ _ (fun h=> absurd rfl h) ?_
   clear hK K
   try simp only [Act.put,upA,upB,upC]
   refine Qx.dn ?_
   go_wp2_with fail
   go_meet
   exact ⟨nb,q,xq,cq,ka,kc,rfl,by rw [HA.out],HQ.out,kept_sets (g:=nb) nz [.string q.name,.bool q.over,.bool q.fail,.string q.text,.int .i64 q.at',.int .i64 q.Zj,.slice xq q.texts.length cq] 0 KE,nz,RBox.laid hRw,HTq2.out.sets [.string q.name,.bool q.over,.bool q.fail,.string q.text,.int .i64 q.at',.int .i64 q.Zj,.slice xq q.texts.length cq] 0,HXq.out,by rw [<-HA.out];exact HTk2.out.sets [.string q.name,.bool q.over,.bool q.fail,.string q.text,.int .i64 q.at',.int .i64 q.Zj,.slice xq q.texts.length cq] 0⟩
  ·rw [if_pos (by rfl)]
   go_simp
   have K3a:K_ wd (wd.alloc (.cells #[.string ⟨#[]⟩,.bool false,.bool false,.string ⟨#[]⟩,.int .i64 0,.int .i64 0,.slice none 0 0] 103)):= (K_.refl _).alloc _
   have K3b:= (K2.trans KD).trans K3a
   have hRw0:RowT (wd.alloc (.cells #[.string ⟨#[]⟩,.bool false,.bool false,.string ⟨#[]⟩,.int .i64 0,.int .i64 0,.slice none 0 0] 103)) wd.heap.size 103 7:=RowT.made wd _ _
   have nz:= (K2.trans KD).size
   obtain ⟨nb,hnb⟩: ∃nb,nb=wd.heap.size:= ⟨_,rfl⟩
   rw [<-hnb] at hRw0 nz⊢
   generalize hwe:wd.alloc (.cells #[.string ⟨#[]⟩,.bool false,.bool false,.string ⟨#[]⟩,.int .i64 0,.int .i64 0,.slice none 0 0] 103)=wF at hRw0 K3b⊢
   clear hwe K3a hnb
   refine hK.out _ _ (fun _=> Zz.out _ K3b) ?_
   clear hK K
   try simp only [Act.put,upA,upB,upC]
   refine Qx.nx 7 (fun K hK=> ?_)
   rw [if_pos (by rfl)]
   go_simp
   go_at_call 140
   refine (HNxt.out wF K3b).mono ?_
   rintro e w3 ⟨⟨xq,cq,ka,kc,rfl,hTq,hXq,hTk⟩,k3⟩
   obtain ⟨q,hq⟩: ∃q,q= (Y_ (Q_ Kj) (Qj l) r).1:= ⟨_,rfl⟩
   obtain ⟨asks,has⟩: ∃asks,asks= (Y_ (Q_ Kj) (Qj l) r).2:= ⟨_,rfl⟩
   rw [<-hq] at hTq⊢
   rw [<-has] at hTk⊢
   have HQ:=Kz hq
   have HA:=Kz has
   have HTq:=Kz hTq
   have HTk:=Kz hTk
   have HXq:=Kz hXq
   clear hTq hTk hXq hq has
   dsimp only [Qz.cells]
   have K3:=K3b.trans k3
   refine hK.out _ _ (fun _=> Zz.out _ K3) ?_
   clear hK K Z_
   have Z_:=Zz.out _ K3
   try simp only [Act.put,upA,upB,upC]
   refine Qx.tk 8 Z_ ?_
   refine Qx.tk 9 Z_ ?_
   refine Qx.tk 10 Z_ ?_
   have hRw:=hRw0.kept k3
   have KE:=K3
   have hFz:=hRw0.lt
   have HTq2:=Kz (StrsB.of_A (nb:=nb) HTq.out (by omega) (by omega))
   have HTk2:=Kz (StrsB.of_A (nb:=nb) HTk.out (by omega) (by omega))
   obtain ⟨⟨_,v0⟩,f0⟩:=hRw.row.at (i:=0) (by omega)
   obtain ⟨⟨_,v1⟩,f1⟩:=hRw.row.at (i:=1) (by omega)
   obtain ⟨⟨_,v2⟩,f2⟩:=hRw.row.at (i:=2) (by omega)
   obtain ⟨⟨_,v3⟩,f3⟩:=hRw.row.at (i:=3) (by omega)
   obtain ⟨⟨_,v4⟩,f4⟩:=hRw.row.at (i:=4) (by omega)
   obtain ⟨⟨_,v5⟩,f5⟩:=hRw.row.at (i:=5) (by omega)
   obtain ⟨⟨_,v6⟩,f6⟩:=hRw.row.at (i:=6) (by omega)
   have vz:=hRw.lt
   refine Qx.nx 12 (fun K hK=> ?_)
   go_simp
   refine hK.out _ _ ?_ ?_
   ·exact fun _=> Zz.out _ (kept_sets (g:=nb) nz [.string q.name,.bool q.over,.bool q.fail,.string q.text,.int .i64 q.at',.int .i64 q.Zj,.slice xq q.texts.length cq] 0 KE)
   clear hK K
   try simp only [Act.put,upA,upB,upC]
   refine Qx.nx 13 (fun K hK=> ?_)
   go_simp
   refine hK.out _ _ (fun h=> absurd rfl h) ?_
   clear hK K
   try simp only [Act.put,upA,upB,upC]
   refine Qx.dn ?_
   go_wp2_with fail
   go_meet
   exact ⟨nb,q,xq,cq,ka,kc,rfl,by rw [HA.out],HQ.out,kept_sets (g:=nb) nz [.string q.name,.bool q.over,.bool q.fail,.string q.text,.int .i64 q.at',.int .i64 q.Zj,.slice xq q.texts.length cq] 0 KE,nz,RBox.laid hRw,HTq2.out.sets [.string q.name,.bool q.over,.bool q.fail,.string q.text,.int .i64 q.at',.int .i64 q.Zj,.slice xq q.texts.length cq] 0,HXq.out,by rw [<-HA.out];exact HTk2.out.sets [.string q.name,.bool q.over,.bool q.fail,.string q.text,.int .i64 q.at',.int .i64 q.Zj,.slice xq q.texts.length cq] 0⟩
 case rest=>
  obtain ⟨nb,q,xq,cq,ka,kc,rfl,rfl,hq,Kx,hnb,hbx,hTq,hXq,hTk⟩:=hcut
  obtain ⟨w4,rfl⟩: ∃w4,w4=wc:= ⟨_,rfl⟩
  have hqg:q.Good Kj:=by rw [hq];exact nextOf_good hok hge HGr.out HCg.out
  have hal: (Y_ (Q_ Kj) (Qj l) r).2.length<=5:=next_asks_len hok hge HGr.out HCg.out
  obtain ⟨asks,has⟩: ∃asks,asks= (Y_ (Q_ Kj) (Qj l) r).2:= ⟨_,rfl⟩
  rw [<-has] at hal hTk⊢
  have HDo:Hid ((wantL (Q_ Kj) (insX l q) asks).foldl insX []=doL (Q_ Kj) l r):=by show _=_;rw [has,hq];rfl
  have hqt:q.texts.length<=1000:=by have h1:=hqg.tl;have h2:=hqg.hi;omega
  obtain ⟨g0,g1,g2,g3,g4,g5,g6⟩:=hbx.all
  have gz:=hbx.row.lt
  have HTk:=Kz hTk
  have HQg:=Kz hqg
  have HPut:Hid (∀W,K_ w4 W->Calls Tryz.prog 98 #[.slice (some ⟨b,o,none⟩) l.length dc,.agg #[.string q.name,.bool q.over,.bool q.fail,.string q.text,.int .i64 q.at',.int .i64 q.Zj,.slice xq q.texts.length cq]] W fun e w'=> ∃v,e= .returned v∧RunsO W w' (fun _=> True) v (insX l q)∧K_ W w'):=fun W hW=> xPut_any W (some ⟨b,o,none⟩) dc l q xq cq (by omega) hqt hgl.asc (fun _=> True) (fun _ _=> trivial) ((HS.out.kept (HKB.out.trans (Kx.trans hW))).all) (hTq.kept hW) hXq
  obtain ⟨b0,s0,s1,_⟩:=Zz.out _ Kx
  have z0x:=Nat.lt_of_lt_of_le z0 Kx.size
  have z1x:=Nat.lt_of_lt_of_le z1 Kx.size
  have HS5:Hid (∀w',K_ w4 w'->w'.cell? ⟨w.heap.size,0,none⟩=some (.slice a Kj.length cap)∧w'.cell? ⟨w.heap.size+1,1,none⟩=some (.slice (some ⟨b,o,none⟩) l.length dc)∧w'.cell? ⟨nb,0,none⟩=some (.string q.name)∧w'.cell? ⟨nb,1,none⟩=some (.bool q.over)∧w'.cell? ⟨nb,2,none⟩=some (.bool q.fail)∧w'.cell? ⟨nb,3,none⟩=some (.string q.text)∧w'.cell? ⟨nb,4,none⟩=some (.int .i64 q.at')∧w'.cell? ⟨nb,5,none⟩=some (.int .i64 q.Zj)∧w'.cell? ⟨nb,6,none⟩=some (.slice xq q.texts.length cq)):=fun w' K=> ⟨(K.cell z0x).trans b0,(K.cell z1x).trans s1,(K.cell gz).trans g0,(K.cell gz).trans g1,(K.cell gz).trans g2,(K.cell gz).trans g3,(K.cell gz).trans g4,(K.cell gz).trans g5,(K.cell gz).trans g6⟩
  clear hq has hTk hqg hTq hXq hbx g0 g1 g2 g3 g4 g5 g6 b0 s0 s1 HNxt HCan
  go_upto_region 5 with fail
  refine Qx.rg 7 HS5.out fun wd KD Z_=> ?_
  refine Qx.tk 0 Z_ ?_
  refine Qx.tk 1 Z_ ?_
  refine Qx.tk 2 Z_ ?_
  refine Qx.tk 3 Z_ ?_
  refine Qx.nx 4 (fun K hK=> ?_)
  rw [if_pos (by rfl)]
  go_simp
  go_at_call 98
  refine (HPut.out wd KD).mono ?_
  rintro e w5 ⟨v5,rfl,hO5,k5⟩
  have K5:=KD.trans k5
  obtain ⟨w6,xs6,ky1,ky2,hO6,hP6⟩:=hO5
  obtain ⟨av,cv,rfl⟩:=own_slice hO6
  have HO6:=Kz hO6
  have HP6:=Kz hP6
  have HN6:=Kz (HN.out.kept (HKB.out.trans (Kx.trans (KD.trans ky1))))
  have HT6:=Kz (HTk.out.kept (KD.trans ky1))
  have HK6:=Kz ky2
  have HK46:=Kz (KD.trans ky1)
  have hz6:=ky2.size
  clear hO6 hP6 ky1 ky2
  refine hK.out _ _ (fun _=> HS5.out _ K5) ?_
  clear hK K Z_
  have Z_:=HS5.out _ K5
  try simp only [Act.put,upA,upB,upC]
  refine Qx.tk 5 Z_ ?_
  refine Qx.nx 6 (fun K hK=> ?_)
  go_simp
  have K7a:K_ w5 (w5.alloc (.cells #[.slice a Kj.length cap,.slice av (insX l q).length cv] 94)):= (K_.refl _).alloc _
  have HKn:Hid (KnX w6 (w5.alloc (.cells #[.slice a Kj.length cap,.slice av (insX l q).length cv] 94)) w5.heap.size a Kj.length cap (insX l q) av cv xs6):= ⟨HK6.out.trans K7a,⟨RowT.made w5 _ _,Xz w5 #[.slice a Kj.length cap,.slice av (insX l q).length cv] 94 0 _ rfl,Xz w5 #[.slice a Kj.length cap,.slice av (insX l q).length cv] 94 1 _ rfl⟩,ownsRow_kept' HO6.out K7a,HP6.out⟩
  have K7:=K5.trans K7a
  obtain ⟨kb,hkb⟩: ∃kb,kb=w5.heap.size:= ⟨_,rfl⟩
  have hkz:w6.heap.size<=kb:=by omega
  refine hK.out _ _ (fun _=> HS5.out _ K7) ?_
  clear hK K Z_
  rw [<-hkb] at HKn⊢
  generalize hwe:w5.alloc (.cells #[.slice a Kj.length cap,.slice av (insX l q).length cv] 94)=w7 at HKn K7⊢
  clear hwe K7a hkb
  try simp only [Act.put,upA,upB,upC]
  refine Qx.nx 7 (fun K hK=> ?_)
  go_simp
  refine hK.out _ _ (fun h=> absurd rfl h) ?_
  clear hK K
  try simp only [Act.put,upA,upB,upC]
  refine Qx.dn ?_
  go_wp2_with fail
  refine (wantX_any w6 w7 kb hkz a cap Kj ka kc asks (insX l q) av cv xs6 hwb (by omega) (by have:=ins_len1 l q;omega) HKn.out HN6.out HT6.out).mono ?_
  rintro e w8 ⟨rfl,d8,dc8,xs8,hKn8⟩
  have k8:K_ w4 w8:=HK46.out.trans hKn8.kw
  have m1:=hKn8.known.runs
  have kz:=hKn8.known.row.lt
  have HRz:=Kz hKn8.runs
  obtain ⟨R,hRR⟩: ∃R,R=wantL (Q_ Kj) (insX l q) asks:= ⟨_,rfl⟩
  have hRl:R.length<=1000:=by have h1:=wantL_len (Q_ Kj) asks (insX l q);have h2:=ins_len1 l q;rw [hRR];omega
  have HRt:Hid (∀x∈R,x.texts.length<=1000):=fun x hx=> by
   rw [hRR] at hx
   rcases wantL_mem _ _ _ _ hx with h | ⟨n,rfl⟩
   ·rcases insX_mem.1 h with rfl | ⟨h1,_⟩
    ·exact hqt
    ·have h2:= (hgl.good x h1).tl;have h3:= (hgl.good x h1).hi;omega
   ·exact Nat.zero_le _
  have HRD:Hid (R.foldl insX []=doL (Q_ Kj) l r):=by show _=_;rw [hRR];exact HDo.out
  rw [<-hRR] at HRz m1
  have K8:=Kx.trans k8
  have HSt:Hid (∀W,K_ w8 W->Calls Tryz.prog 48 #[.slice (some ⟨rb,ro,none⟩) Kk.length rc,.slice d8 R.length dc8] W fun e w'=> StateX Kk (doL (Q_ Kj) l r) W w' e):=fun W hW=> by
   have h:=stateX_any W rb ro rc Kk d8 dc8 R hrl (by omega) HRt.out (fun j=> by have:=take_foldl_len R j;omega) (HRt0.out.kept (HKB.out.trans (K8.trans hW))) (HRz.out.kept hW)
   rw [HRD.out] at h
   exact h
  obtain ⟨_,s0,_⟩:=Zz.out _ K8
  have z18:=Nat.lt_of_lt_of_le z1 K8.size
  have HS7:Hid (∀w',K_ w8 w'->w'.cell? ⟨w.heap.size+1,0,none⟩=some (.slice (some ⟨rb,ro,none⟩) Kk.length rc)∧w'.cell? ⟨kb,1,none⟩=some (.slice d8 R.length dc8)):=fun w' K=> ⟨(K.cell z18).trans s0,(K.cell kz).trans m1⟩
  have HR8:=Kz (HRes.out.kept K8)
  have K08:=HKB.out.trans K8
  clear hKn8 hRR HRz HRD HRt HDo m1 s0 k8 HKn HN6 HT6 HK6 HK46 HO6 HP6 HPut HS5 Zz HRes HN HS HTk HQg
  go_upto_region 7 with fail
  refine Qx.rg 7 HS7.out fun wd KD Z_=> ?_
  refine Qx.tk 0 Z_ ?_
  refine Qx.tk 1 Z_ ?_
  refine Qx.tk 2 Z_ ?_
  refine Qx.tk 3 Z_ ?_
  refine Qx.tk 4 Z_ ?_
  refine Qx.tk 5 Z_ ?_
  refine Qx.nx 6 (fun K hK=> ?_)
  rw [if_pos (by rfl)]
  go_simp
  go_at_call 48
  refine (HSt.out wd KD).mono ?_
  rintro e w9 ⟨ra,rc9,d9,dc9,xs9,rfl,hT9,hO9,hP9,k9⟩
  obtain ⟨T,hTT⟩: ∃T,T=doL (Q_ Kj) l r:= ⟨_,rfl⟩
  rw [<-hTT] at hO9 hP9⊢
  have HTT:=Kz hTT
  have K9:=KD.trans k9
  have z9:=K9.size
  have zd:=KD.size
  have HT9:=Kz hT9
  have HO9:=Kz hO9
  have HP9:=Kz hP9
  have HR9:=Kz (HR8.out.kept K9)
  obtain ⟨⟨_,x0⟩,f0⟩:=HR9.out.row.at (i:=0) (by omega)
  obtain ⟨⟨_,x1⟩,f1⟩:=HR9.out.row.at (i:=1) (by omega)
  have hrz:=HR8.out.lt
  have hrz9:=HR9.out.lt
  clear hT9 hO9 hP9 hTT
  refine hK.out _ _ (fun _=> HS7.out _ K9) ?_
  clear hK K Z_
  try simp only [Act.put,upA,upB,upC]
  refine Qx.nx 7 (fun K hK=> ?_)
  go_simp
  refine hK.out _ _ (fun h=> absurd rfl h) ?_
  clear hK K
  try simp only [Act.put,upA,upB,upC]
  refine Qx.dn ?_
  go_wp2_with fail
  have hRg:=World.rangeAt_setCells_same w9 (w.heap.size+1+1) 0 [.slice ra Kk.length rc9,.slice d9 T.length dc9] (HR9.out.row.there (o:=0) (m:=2) (Nat.le_refl _))
  have hO:=owns_set (owns_set HO9.out (p:= ⟨w.heap.size+1+1,0,none⟩) (by show w.heap.size+1+1 < _;omega) (.slice ra Kk.length rc9)) (p:= ⟨w.heap.size+1+1,1,none⟩) (by show w.heap.size+1+1 < _;omega) (.slice d9 T.length dc9)
  have hT:=owns_set (owns_set HT9.out (p:= ⟨w.heap.size+1+1,0,none⟩) (by show w.heap.size+1+1 < _;omega) (.slice ra Kk.length rc9)) (p:= ⟨w.heap.size+1+1,1,none⟩) (by show w.heap.size+1+1 < _;omega) (.slice d9 T.length dc9)
  have hP:= (HP9.out.set (c:=w.heap.size+1+1) (p:=0) (fun b h=> by omega) (.slice ra Kk.length rc9)).set (c:=w.heap.size+1+1) (p:=1) (fun b h=> by omega) (.slice d9 T.length dc9)
  obtain rfl:=HTT.out
  exact X_ [.slice ra Kk.length rc9,.slice d9 (doL (Q_ Kj) l r).length dc9] _ Tryz.results99 rfl hRg Tryz.underlying53 rfl Tryz.xSizeState rfl ⟨ra,rc9,d9,dc9,xs9,rfl,owns_base hT (by omega),owns_base hO (by omega),packedX_weak hP (fun b h=> by omega),kept_sets (g:=w.heap.size+1+1) (by omega) [.slice ra Kk.length rc9,.slice d9 (doL (Q_ Kj) l r).length dc9] 0 (K08.trans K9)⟩
def PackedY (w:World) (P:Nat->Prop) (xs:List Value) (l:List Qz):Prop:=xs.length=l.length * 7∧∀i,i < l.length->∃xa xc,(xs.drop (i * 7)).take 7= (l.getD i Qz.zero).cells xa xc∧TStrs w 9 xa (l.getD i Qz.zero).texts∧(xa=none->xc=0)∧(∀ad:Addr,xa=some ad->P ad.block)
theorem PackedY.nil (w:World) (P:Nat->Prop):PackedY w P [] []:= ⟨rfl,fun i hi=> by simp at hi⟩
theorem PackedY.same {w w':World} {P:Nat->Prop} {xs:List Value} {l:List Qz} {u:TypeId} (h:PackedY w P xs l) (k:SameKind u w w') (hu:9≠u):PackedY w' P xs l:= ⟨h.1,fun i hi=> by obtain ⟨xa,xc,e,hs,hx⟩:=h.2 i hi;exact ⟨xa,xc,e,hs.same k hu,hx⟩⟩
theorem PackedY.kept {w w':World} {P:Nat->Prop} {xs:List Value} {l:List Qz} (h:PackedY w P xs l) (k:K_ w w'):PackedY w' P xs l:=h.same (u:=103) (SameKind.of_kept k) (by decide)
theorem PackedY.plain {w:World} {P:Nat->Prop} {xs:List Value} {l:List Qz} (h:PackedY w P xs l):PackedX w P xs l:= ⟨h.1,fun i hi=> by obtain ⟨xa,xc,e,hs,hx⟩:=h.2 i hi;exact ⟨xa,xc,e,hs.strs,hx⟩⟩
theorem PackedY.snoc {w:World} {P:Nat->Prop} {xs:List Value} {l:List Qz} {r:Qz} {xa:Option Addr} {xc:Nat} (h:PackedY w P xs l) (hs:TStrs w 9 xa r.texts) (hx:xa=none->xc=0) (hp: ∀ad:Addr,xa=some ad->P ad.block):PackedY w P (xs++r.cells xa xc) (l++ [r]):=by
 refine ⟨by simp [h.1,Qz.cells];omega,fun i hi=> ?_⟩
 rw [List.length_append] at hi
 simp only [List.length_cons,List.length_nil] at hi
 by_cases e:i < l.length
 ·have e1: (l++ [r]).getD i Qz.zero=l.getD i Qz.zero:=by simp [List.getD,List.getElem?_append_left e]
  have e2: ((xs++r.cells xa xc).drop (i * 7)).take 7= (xs.drop (i * 7)).take 7:=by
   rw [List.drop_append_of_le_length (by rw [h.1];omega),List.take_append_of_le_length (by rw [List.length_drop,h.1];omega)]
  rw [e1,e2]
  exact h.2 i e
 ·obtain rfl:i=l.length:=by omega
  have e1: (l++ [r]).getD l.length Qz.zero=r:=by simp [List.getD]
  have e2: ((xs++r.cells xa xc).drop (l.length * 7)).take 7=r.cells xa xc:=by
   rw [<-h.1,List.drop_left]
   rfl
  rw [e1,e2]
  exact ⟨xa,xc,rfl,hs,hx,hp⟩
structure CpX (W1 wr:World) (sb:Nat) (ra:Option Addr) (n rc:Nat) (d:Option Addr) (t:List Qz) (dc:Nat) (xs:List Value):Prop where
 kb:Xk sb (sb+1) W1 wr
 row:RowT wr sb 53 2
 Kk:wr.cell? ⟨sb,0,none⟩=some (.slice ra n rc)
 runs:wr.cell? ⟨sb,1,none⟩=some (.slice d t.length dc)
 own:wr.ownsRow W1.heap.size 103 7 (.slice d t.length dc) t.length xs
 pack:PackedY wr (fun b=> sb < b) xs t
theorem CpX.kept {W1 wr w':World} {sb n rc dc:Nat} {ra d:Option Addr} {t:List Qz} {xs:List Value} (h:CpX W1 wr sb ra n rc d t dc xs) (k:K_ wr w'):CpX W1 w' sb ra n rc d t dc xs:=
 ⟨h.kb.trans (Xk.of_kept k),h.row.kept k,(k.cell h.row.lt).trans h.Kk,(k.cell h.row.lt).trans h.runs,ownsRow_kept' h.own k,h.pack.kept k⟩
theorem cp_ne {w:World} {sb base n:Nat} {v:Value} {xs:List Value} (hr:RowT w sb 53 2) (h:w.ownsRow base 103 7 v n xs):some sb≠v.ownBlock:=by
 rcases h.2 with ⟨rfl,_⟩ | ⟨g,cap,cur,rfl,_,hg,_⟩
 ·intro e;cases e
 ·intro e
  simp only [Value.ownBlock,Option.some.injEq] at e
  subst e
  obtain ⟨c2,h2,_⟩:=hr
  rw [hg] at h2
  simp only [Option.some.injEq,Obj.cells.injEq] at h2
  exact absurd h2.2.1 (by decide)
theorem CpX.next {W1 wr W w6:World} {sb n rc dc cv:Nat} {ra d av:Option Addr} {t:List Qz} {xs:List Value} {y:Qz} {xa:Option Addr} {xc:Nat} (h:CpX W1 wr sb ra n rc d t dc xs) (hsb:sb < W1.heap.size) (KW:K_ wr W) (hgr:W.grownBy w6 (Value.slice d t.length dc).ownBlock)
  (hO6:w6.ownsRow W1.heap.size 103 7 (.slice av (t.length+1) cv) (t.length+1) (xs++y.cells xa xc)) (hs:TStrs W 9 xa y.texts) (hx:xa=none->xc=0) (hp: ∀ad:Addr,xa=some ad->sb < ad.block):
  CpX W1 (w6.setCell ⟨sb,1,none⟩ (.slice av (t.length+1) cv)) sb ra n rc av (t++ [y]) cv (xs++y.cells xa xc):=by
 have hW:=h.kept KW
 have hb:w6.heap[sb]? =W.heap[sb]? :=hgr.block sb hW.row.lt (cp_ne hW.row hW.own)
 have hl: (t++ [y]).length=t.length+1:=by simp
 have hr6:=hW.row.block hb
 have sk:= (SameKind.of_grown hW.own hgr)
 refine ⟨?_,hr6.set _, ?_, ?_, ?_, ?_⟩
 ·refine Xk.setCell ⟨hgr.os.trans hW.kb.os,hgr.tape.trans hW.kb.tape,hgr.output.trans hW.kb.output,Nat.le_trans hW.kb.size hgr.size,fun b hb' hn=> (hgr.block b (Nat.lt_of_lt_of_le hb' hW.kb.size) (fun e=> ?_)).trans (hW.kb.block b hb' hn)⟩ (Nat.le_refl _) (Nat.lt_succ_self _) _
  have:= (hW.own.lt b e.symm).1
  omega
 ·rw [Xx (by omega),World.cell?_of_block (w:=W) hb];exact hW.Kk
 ·rw [hl];exact set_hit hr6.row (by omega) _
 ·rw [hl];exact owns_set hO6 hsb _
 ·exact ((hW.pack.same sk (by decide)).snoc (hs.same sk (by decide)) hx hp).same (hr6.same (o:=1) _) (by decide)
structure But (S:Nat->Prop) (w w':World):Prop where
 os:w'.os=w.os
 tape:w'.tape=w.tape
 output:w'.output=w.output
 size:w.heap.size<=w'.heap.size
 block: ∀b,b < w.heap.size->¬S b->w'.heap[b]? =w.heap[b]?
section
variable {S : Nat -> Prop} {w w' w'' wz : World}
theorem But.of_kept (h:K_ w w'):But S w w':= ⟨h.os,h.tape,h.output,h.size,fun b hb _=> h.block b hb⟩
theorem But.of_grown {row:Option Nat} (h:w.grownBy w' row) (hs: ∀b,row=some b->S b):But S w w':= ⟨h.os,h.tape,h.output,h.size,fun b hb hn=> h.block b hb (fun e=> hn (hs b e.symm))⟩
theorem But.trans (h:But S w w') (k:But S w' w''):But S w w'':= ⟨k.os.trans h.os,k.tape.trans h.tape,k.output.trans h.output,Nat.le_trans h.size k.size,fun b hb hn=> (k.block b (Nat.lt_of_lt_of_le hb h.size) hn).trans (h.block b hb hn)⟩
theorem But.set (h:But S w w') {p:Addr} (hs:S p.block) (v:Value):But S w (w'.setCell p v):= ⟨h.os,h.tape,h.output,by rw [size_setCell];exact h.size,fun b hb hn=> by rw [Below.heap_setCell _ _ _ _ (fun e=> hn (by rw [e];exact hs))];exact h.block b hb hn⟩
theorem But.mono {S':Nat->Prop} (h:But S w w') (hs: ∀b,b < w.heap.size->S b->S' b):But S' w w':= ⟨h.os,h.tape,h.output,h.size,fun b hb hn=> h.block b hb (fun e=> hn (hs b hb e))⟩
theorem But.kept (h:But S w w') (k:K_ wz w) (hs: ∀b,S b->wz.heap.size<=b):K_ wz w':=
 ⟨h.os.trans k.os,h.tape.trans k.tape,h.output.trans k.output,Nat.le_trans k.size h.size,fun b hb=> (h.block b (Nat.lt_of_lt_of_le hb k.size) (fun e=> by have:=hs b e;omega)).trans (k.block b hb)⟩
theorem But.cell (h:But S w w') {b o:Nat} (hb:b < w.heap.size) (hn: ¬S b):w'.cell? ⟨b,o,none⟩=w.cell? ⟨b,o,none⟩:=World.cell?_of_block (w:=w) (h.block b hb hn)
theorem But.row (h:But S w w') {b n:Nat} {t:TypeId} (hr:RowT w b t n) (hn: ¬S b):RowT w' b t n:=hr.block (h.block b hr.lt hn)
theorem But.range (h:But S w w') {b o n:Nat} {t:TypeId} (hr:RowT w b t n) (hn: ¬S b) {cs:List Value} (hc:w.rangeAt b o cs):w'.rangeAt b o cs:=fun j v hv=> (h.cell hr.lt hn).trans (hc j v hv)
theorem But.owns (h:But S w w') {base size n:Nat} {e:TypeId} {v:Value} {xs:List Value} (ho:w.ownsRow base e size v n xs) (hn: ∀b,v.ownBlock=some b->¬S b):w'.ownsRow base e size v n xs:=by
 refine ⟨ho.1, ?_⟩
 rcases ho.2 with h2 | ⟨g,cap,cur,rfl,hb,hg,rest⟩
 ·exact .inl h2
 ·exact .inr ⟨g,cap,cur,rfl,hb,by rw [h.block g (heap_lt hg) (hn g rfl)];exact hg,rest⟩
end
def TypeAt (w:World) (b:Nat) (t:TypeId):Prop:= ∃cur fr,w.heap[b]? =some (Obj.cells cur t fr)
theorem RowT.type {w:World} {b n:Nat} {t:TypeId} (h:RowT w b t n):TypeAt w b t:=let ⟨cur,h1,_⟩:=h;⟨cur,_,h1⟩
theorem Yz {w:World} {base size n:Nat} {e:TypeId} {v:Value} {xs:List Value} (h:w.ownsRow base e size v n xs) {b:Nat} (hb:v.ownBlock=some b):TypeAt w b e:=by
 rcases h.2 with ⟨rfl,_⟩ | ⟨g,cap,cur,rfl,_,hg,_⟩
 ·cases hb
 ·simp only [Value.ownBlock,Option.some.injEq] at hb
  subst hb
  exact ⟨cur,_,hg⟩
theorem type_ne {w:World} {b c:Nat} {t u:TypeId} (h:TypeAt w b t) (k:TypeAt w c u) (hn:t≠u):b≠c:=by
 rintro rfl
 obtain ⟨c1,f1,h1⟩:=h
 obtain ⟨c2,f2,h2⟩:=k
 rw [h1] at h2
 simp only [Option.some.injEq,Obj.cells.injEq] at h2
 exact hn h2.2.1
structure Zx where
 tb:Nat
 r:Qz
 cost:Int
 steps:List Xj
 sa:Option Addr
 sc:Nat
 op:Nat
 tv:Value
 qv:Value
 qs:List Value
 bl:ByteArray
def Zx.cells (t:Zx):List Value:=[.string t.r.name,.bool t.r.over,.bool t.r.fail,.string t.r.text,.int .i64 t.r.at',.int .i64 t.r.Zj,t.tv,.int .i64 t.cost,.slice t.sa t.steps.length t.sc,.int .i64 (t.op:Int),t.qv,.string t.bl]
def Zx.ptr (t:Zx):Value:= .pointer (some ⟨t.tb,0,none⟩)
def Zx.own (t:Zx):List Nat:=t.tv.ownBlock.toList++t.qv.ownBlock.toList
def ptrB (b:Nat):Value:= .pointer (some ⟨b,0,none⟩)
structure TaskAt (base:Nat) (w:World) (t:Zx):Prop where
 row:RowT w t.tb 153 12
 rng:w.rangeAt t.tb 0 t.cells
 txt:w.ownsRow base 9 1 t.tv t.r.texts.length (t.r.texts.map Value.string)
 ask:w.ownsRow base 9 1 t.qv t.qs.length t.qs
 low:base<=t.tb
theorem TaskAt.own_type {base:Nat} {w:World} {t:Zx} (h:TaskAt base w t) {x:Nat} (hx:x∈t.own):TypeAt w x 9∧base<=x∧x < w.heap.size:=by
 unfold Zx.own at hx
 rcases List.mem_append.1 hx with hx | hx
 ·have e:=Option.mem_toList.1 hx
  exact ⟨Yz h.txt e,h.txt.lt x e⟩
 ·have e:=Option.mem_toList.1 hx
  exact ⟨Yz h.ask e,h.ask.lt x e⟩
theorem TaskAt.but {base:Nat} {S:Nat->Prop} {w w':World} {t:Zx} (h:TaskAt base w t) (k:But S w w') (h1: ¬S t.tb) (h2: ∀x∈t.own,¬S x):TaskAt base w' t:=
 ⟨k.row h.row h1,k.range h.row h1 h.rng,k.owns h.txt (fun b hb=> h2 b (List.mem_append.2 (.inl (Option.mem_toList.2 hb)))),k.owns h.ask (fun b hb=> h2 b (List.mem_append.2 (.inr (Option.mem_toList.2 hb)))),h.low⟩
def asIs (v:Value):Option (DataW Value×List MemPlace):=some (.held v,[])
def keyLit (s:ByteArray):Lit:= .string s.data.toList
def Qk (ts:List Zx):List Qz:=ts.map (·.r)
structure Ghost where
 wo:World
 K:Nat->Prop
 ps:List (Nat×ByteArray)
 I:Nat->Prop
def Ghost.no (w:World):Ghost:= ⟨w,fun _=> False,[],fun _=> False⟩
structure Fen (G:Ghost) (w:World) (bb mb:Nat) (ts:List Zx) (f:ByteArray->Value):Prop where
 size:G.wo.heap.size<=w.heap.size
 lt: ∀k,G.K k->k < G.wo.heap.size
 same: ∀k,G.K k->w.heap[k]? =G.wo.heap[k]?
 nb: ¬G.K bb
 nm: ¬G.K mb
 nt: ∀t∈ts,¬G.K t.tb∧∀x∈t.own,¬G.K x
 nf: ∀s x,(f s).ownBlock=some x->¬G.K x
 has: ∀p∈G.ps,∃t∈ts,t.tb=p.1∧t.r.name=p.2
theorem Fen.but {G:Ghost} {S:Nat->Prop} {w w':World} {bb mb:Nat} {ts:List Zx} {f:ByteArray->Value} (h:Fen G w bb mb ts f) (k:But S w w') (hS: ∀b,S b->¬G.K b):Fen G w' bb mb ts f:=
 ⟨Nat.le_trans h.size k.size,h.lt,fun b hb=> (k.block b (Nat.lt_of_lt_of_le (h.lt b hb) h.size) (fun e=> hS b e hb)).trans (h.same b hb),h.nb,h.nm,h.nt,h.nf,h.has⟩
theorem Fen.far {G:Ghost} {w:World} {bb mb:Nat} {ts:List Zx} {f:ByteArray->Value} (h:Fen G w bb mb ts f) {x:Nat} (hx:w.heap.size<=x): ¬G.K x:=fun hk=> by
 have h1:=h.lt x hk
 have h2:=h.size
 omega
theorem Fen.no {w w':World} {bb mb:Nat} {ts:List Zx} {f:ByteArray->Value} (h:w.heap.size<=w'.heap.size):Fen (Ghost.no w) w' bb mb ts f:=
 ⟨h,fun _ e=> e.elim,fun _ e=> e.elim,id,id,fun _ _=> ⟨id,fun _ _=> id⟩,fun _ _ _=> id,fun _ h=> (by cases h)⟩
structure BM (G:Ghost) (Kj:List Qq) (wz w:World) (bb:Nat) (a:Option Addr) (cap:Nat) (rd:Option Addr) (rn rc:Nat) (mb mx:Nat) (ts:List Zx) (d:Option Addr) (dc:Nat) (f:ByteArray->Value) (ws:ByteArray->List Nat):Prop where
 kw:K_ wz w
 row:RowT w bb 128 6
 c0:w.cell? ⟨bb,0,none⟩=some (.slice a Kj.length cap)
 c1:w.cell? ⟨bb,1,none⟩=some (.func (.func 111) #[] #[])
 c2:w.cell? ⟨bb,2,none⟩=some (.slice rd rn rc)
 c3:w.cell? ⟨bb,3,none⟩=some (.slice d ts.length dc)
 c4:w.cell? ⟨bb,4,none⟩=some (.func (.func 63) #[] #[])
 c5:w.cell? ⟨bb,5,none⟩=some (.map (some mb))
 low:wz.heap.size<=bb
 items:w.ownsRow wz.heap.size 145 1 (.slice d ts.length dc) ts.length (ts.map Zx.ptr)
 task: ∀t∈ts,TaskAt wz.heap.size w t
 act: ∀t∈ts,Q_ Kj t.r.name=some ⟨t.cost,t.steps⟩∧Steps wz t.sa t.steps
 asc:AscX (Qk ts)
 tbs: (ts.map (·.tb)).Nodup
 sep:ts.Pairwise fun t u=> ∀x∈t.own,x∉u.own
 sep2: ∀t∈ts,t.own.Nodup
 map: ∃N D,N<=mx∧w.ownsMap Tryz.prog 9 asIs mb N D∧∀s:ByteArray,s.size<=maxLen->D.atKey (keyLit s) (.held (.slice none 0 0))= .held (f s)
 mlow:wz.heap.size<=mb
 wrow: ∀s,w.ownsRow wz.heap.size 145 1 (f s) (ws s).length ((ws s).map ptrB)
 wsep: ∀s s',s≠s'->∀x,(f s).ownBlock=some x->(f s').ownBlock≠some x
 isep: ∀s x,(f s).ownBlock=some x->(Value.slice d ts.length dc).ownBlock≠some x
 qb: ∀t∈ts,t.qs.length<=5 * mx
 oth:Fen G w bb mb ts f
 gi: ∀x,(Value.slice d ts.length dc).ownBlock=some x->¬(G.I x∧G.K x)
theorem map_but {S:Nat->Prop} {w w':World} {mb N:Nat} {D:DataW Value} (h:w.ownsMap Tryz.prog 9 asIs mb N D) (k:But S w w') (hn: ¬S mb):w'.ownsMap Tryz.prog 9 asIs mb N D:=by
 obtain ⟨es,clock,hb,F,hs,hD⟩:=h
 exact ⟨es,clock,by rw [k.block mb (heap_lt hb) hn];exact hb,F,hs,hD⟩
theorem map_ne {w:World} {mb N b:Nat} {D:DataW Value} {t:TypeId} (h:w.ownsMap Tryz.prog 9 asIs mb N D) (k:TypeAt w b t):b≠mb:=by
 rintro rfl
 obtain ⟨es,clock,hb,_⟩:=h
 obtain ⟨cur,fr,hc⟩:=k
 rw [hb] at hc
 cases hc
section
variable {G : Ghost} {Kj : List Qq} {wz w w' : World} {bb : Nat} {a : Option Addr} {cap : Nat} {rd : Option Addr} {rn rc : Nat} {mb mx : Nat} {ts : List Zx} {d : Option Addr} {dc : Nat} {f : ByteArray -> Value} {ws : ByteArray -> List Nat}
theorem BM.but {S:Nat->Prop} (h:BM G Kj wz w bb a cap rd rn rc mb mx ts d dc f ws) (k:But S w w') (hs: ∀b,S b->wz.heap.size<=b) (h1: ¬S bb) (h2: ¬S mb) (h3: ∀b,(Value.slice d ts.length dc).ownBlock=some b->¬S b) (h4: ∀s b,(f s).ownBlock=some b->¬S b) (h5: ∀t∈ts,¬S t.tb∧∀x∈t.own,¬S x) (h6: ∀b,S b->¬G.K b):BM G Kj wz w' bb a cap rd rn rc mb mx ts d dc f ws:=by
 have hb:=h.row.lt
 refine ⟨k.kept h.kw hs,k.row h.row h1,(k.cell hb h1).trans h.c0,(k.cell hb h1).trans h.c1,(k.cell hb h1).trans h.c2,(k.cell hb h1).trans h.c3,(k.cell hb h1).trans h.c4,(k.cell hb h1).trans h.c5,h.low,k.owns h.items h3,fun t ht=> (h.task t ht).but k (h5 t ht).1 (h5 t ht).2,h.act,h.asc,h.tbs,h.sep,h.sep2, ?_,h.mlow,fun s=> k.owns (h.wrow s) (h4 s),h.wsep,h.isep,h.qb,h.oth.but k h6,h.gi⟩
 obtain ⟨N,D,hN,hM,hf⟩:=h.map
 exact ⟨N,D,hN,map_but hM k h2,hf⟩
theorem BM.kept (h:BM G Kj wz w bb a cap rd rn rc mb mx ts d dc f ws) (k:K_ w w'):BM G Kj wz w' bb a cap rd rn rc mb mx ts d dc f ws:=
 h.but (S:=fun _=> False) (But.of_kept k) (fun _ h=> h.elim) id id (fun _ _=> id) (fun _ _ _=> id) (fun _ _=> ⟨id,fun _ _=> id⟩) (fun _ h=> h.elim)
theorem BM.more {mx':Nat} (h:BM G Kj wz w bb a cap rd rn rc mb mx ts d dc f ws) (hm:mx<=mx'):BM G Kj wz w bb a cap rd rn rc mb mx' ts d dc f ws:=
 ⟨h.kw,h.row,h.c0,h.c1,h.c2,h.c3,h.c4,h.c5,h.low,h.items,h.task,h.act,h.asc,h.tbs,h.sep,h.sep2,(by obtain ⟨N,D,h1,h2⟩:=h.map;exact ⟨N,D,Nat.le_trans h1 hm,h2⟩),h.mlow,h.wrow,h.wsep,h.isep,fun t ht=> Nat.le_trans (h.qb t ht) (Nat.mul_le_mul_left 5 hm),h.oth,h.gi⟩
theorem getElem_mem' {α:Type} {l:List α} {i:Nat} (h:i < l.length):l[i]∈l:=List.getElem_mem h
theorem runs_set {t':Zx} {i:Nat} (_hi:i < ts.length):Qk (ts.set i t')= (Qk ts).set i t'.r:=by simp [Qk,List.map_set]
theorem asc_set {l:List Qz} {i:Nat} {r':Qz} (h:AscX l) (hi:i < l.length) (hn:r'.name=l[i].name):AscX (l.set i r'):=by
 unfold AscX at h⊢
 rw [List.pairwise_iff_getElem] at h⊢
 intro p q hp hq hpq
 rw [List.length_set] at hp hq
 rw [List.getElem_set,List.getElem_set]
 have:=h p q hp hq hpq
 split <;> split
 ·omega
 ·rename_i e _;subst e;rw [hn];exact this
 ·rename_i _ e;subst e;rw [hn];exact this
 ·exact this
theorem BM.turn {S:Nat->Prop} (h:BM G Kj wz w bb a cap rd rn rc mb mx ts d dc f ws) {i:Nat} (hi:i < ts.length) (k:But S w w') (hS: ∀b,S b->b=ts[i].tb∨b∈ts[i].own) {t':Zx} (ht:TaskAt wz.heap.size w' t') (e1:t'.tb=ts[i].tb) (e2:t'.r.name=ts[i].r.name) (e3:t'.cost=ts[i].cost) (e4:t'.steps=ts[i].steps) (e5:t'.sa=ts[i].sa) (ho: ∀x∈t'.own,x∈ts[i].own∨w.heap.size<=x) (hn:t'.own.Nodup) (hqb:t'.qs.length<=5 * mx):BM G Kj wz w' bb a cap rd rn rc mb mx (ts.set i t') d dc f ws:=by
 have hb:=h.row.lt
 have hti:=h.task ts[i] (getElem_mem' hi)
 have hl: (ts.set i t').length=ts.length:=List.length_set ..
 have nS: ∀{b:Nat} {u:TypeId},TypeAt w b u->u≠153->u≠9->¬S b:=fun hu h1 h2 hs=> by
  rcases hS _ hs with e | e
  ·exact type_ne hu hti.row.type h1 e
  ·exact type_ne hu (hti.own_type e).1 h2 rfl
 have hm:=h.map
 obtain ⟨N,D,hN,hM,hf⟩:=hm
 have sMb: ¬S mb:=fun hs=> by
  rcases hS _ hs with e | e
  ·exact map_ne hM hti.row.type e.symm
  ·exact map_ne hM (hti.own_type e).1 rfl
 have sBb: ¬S bb:=nS h.row.type (by decide) (by decide)
 have other: ∀(j:Nat) (hj:j < ts.length),j≠i->¬S ts[j].tb∧∀x∈ts[j].own,¬S x:=fun j hj hji=> by
  have htj:=h.task ts[j] (getElem_mem' hj)
  refine ⟨fun hs=> ?_,fun x hx hs=> ?_⟩
  ·rcases hS _ hs with e | e
   ·have hnd:=List.pairwise_iff_getElem.1 h.tbs
    rcases Nat.lt_or_gt_of_ne hji with hlt | hlt
    ·have:=hnd j i (by simpa using hj) (by simpa using hi) hlt
     simp at this
     exact this e
    ·have:=hnd i j (by simpa using hi) (by simpa using hj) hlt
     simp at this
     exact this e.symm
   ·exact type_ne htj.row.type (hti.own_type e).1 (by decide) rfl
  ·rcases hS _ hs with e | e
   ·exact type_ne (htj.own_type hx).1 hti.row.type (by decide) e
   ·have hsp:=List.pairwise_iff_getElem.1 h.sep
    rcases Nat.lt_or_gt_of_ne hji with hlt | hlt
    ·exact hsp j i hj hi hlt x hx e
    ·exact hsp i j hi hj hlt x e hx
 have mem: ∀u∈ts.set i t',u=t'∨∃(j:Nat) (hj:j < ts.length),j≠i∧u=ts[j]:=fun u hu=> by
  obtain ⟨j,hj,rfl⟩:=List.getElem_of_mem hu
  rw [hl] at hj
  rw [List.getElem_set]
  split
  ·exact .inl rfl
  ·rename_i e;exact .inr ⟨j,hj,Ne.symm e,rfl⟩
 have hsz: ∀b,S b->wz.heap.size<=b:=fun b hs=> by
  rcases hS b hs with e | e
  ·rw [e];exact hti.low
  ·exact (hti.own_type e).2.1
 have hKS: ∀b,S b->¬G.K b:=fun b hs=> by
  rcases hS b hs with e | e
  ·rw [e];exact (h.oth.nt _ (getElem_mem' hi)).1
  ·exact (h.oth.nt _ (getElem_mem' hi)).2 b e
 have hfen:Fen G w' bb mb (ts.set i t') f:=by
  have h0:=h.oth.but k hKS
  refine ⟨h0.size,h0.lt,h0.same,h0.nb,h0.nm,fun u hu=> ?_,h0.nf,fun p hp=> ?_⟩
  rotate_left
  ·obtain ⟨u,hu,g1,g2⟩:=h.oth.has p hp
   obtain ⟨j,hj,rfl⟩:=List.getElem_of_mem hu
   by_cases e:j=i
   ·subst e
    exact ⟨t',List.mem_set hj _,by rw [e1];exact g1,by rw [e2];exact g2⟩
   ·refine ⟨ts[j], ?_,g1,g2⟩
    have e3: (ts.set i t')[j]'(by rw [hl];exact hj)=ts[j]:=by rw [List.getElem_set,if_neg (Ne.symm e)]
    rw [<-e3]
    exact List.getElem_mem _
  rcases mem u hu with rfl | ⟨j,hj,hji,rfl⟩
  ·refine ⟨by rw [e1];exact (h.oth.nt _ (getElem_mem' hi)).1,fun x hx=> ?_⟩
   rcases ho x hx with g | g
   ·exact (h.oth.nt _ (getElem_mem' hi)).2 x g
   ·exact h.oth.far g
  ·exact h.oth.nt _ (getElem_mem' hj)
 refine ⟨k.kept h.kw hsz,k.row h.row sBb,(k.cell hb sBb).trans h.c0,(k.cell hb sBb).trans h.c1,(k.cell hb sBb).trans h.c2,by rw [hl];exact (k.cell hb sBb).trans h.c3,(k.cell hb sBb).trans h.c4,(k.cell hb sBb).trans h.c5,h.low, ?_, ?_, ?_, ?_, ?_, ?_, ?_,⟨N,D,hN,map_but hM k sMb,hf⟩,h.mlow,fun s=> k.owns (h.wrow s) (fun b e=> nS (Yz (h.wrow s) e) (by decide) (by decide)),h.wsep,by rw [hl];exact h.isep,fun u hu=> by rcases mem u hu with rfl | ⟨j,hj,hji,rfl⟩;exact hqb;exact h.qb _ (getElem_mem' hj),hfen,by rw [hl];exact h.gi⟩
 ·have e: (ts.set i t').map Zx.ptr=ts.map Zx.ptr:=by
   rw [List.map_set]
   have e0:t'.ptr= (ts.map Zx.ptr)[i]'(by simpa using hi):=by simp [Zx.ptr,e1]
   rw [e0,List.set_getElem_self]
  rw [hl,e]
  exact k.owns h.items (fun b e=> nS (Yz h.items e) (by decide) (by decide))
 ·intro u hu
  rcases mem u hu with rfl | ⟨j,hj,hji,rfl⟩
  ·exact ht
  ·exact (h.task _ (getElem_mem' hj)).but k (other j hj hji).1 (other j hj hji).2
 ·intro u hu
  rcases mem u hu with rfl | ⟨j,hj,hji,rfl⟩
  ·rw [e2,e3,e4,e5];exact h.act _ (getElem_mem' hi)
  ·exact h.act _ (getElem_mem' hj)
 ·rw [runs_set hi]
  exact asc_set h.asc (by simpa [Qk] using hi) (by simp [Qk,e2])
 ·have e: (ts.set i t').map (·.tb)=ts.map (·.tb):=by
   rw [List.map_set]
   have e0:t'.tb= (ts.map (·.tb))[i]'(by simpa using hi):=by simp [e1]
   rw [e0,List.set_getElem_self]
  rw [e]
  exact h.tbs
 ·rw [List.pairwise_iff_getElem]
  have hsp:=List.pairwise_iff_getElem.1 h.sep
  intro p q hp hq hpq x hx
  rw [hl] at hp hq
  rw [List.getElem_set] at hx⊢
  split at hx
  ·rename_i e
   subst e
   rw [if_neg (by omega)]
   rcases ho x hx with g | g
   ·exact hsp i q hi hq hpq x g
   ·intro g2
    have:= ((h.task _ (getElem_mem' hq)).own_type g2).2.2
    omega
  ·split
   ·rename_i e
    subst e
    intro g
    rcases ho x g with g | g
    ·exact hsp p i hp hi hpq x hx g
    ·have:= ((h.task _ (getElem_mem' hp)).own_type hx).2.2
     omega
   ·exact hsp p q hp hq hpq x hx
 ·intro u hu
  rcases mem u hu with rfl | ⟨j,hj,hji,rfl⟩
  ·exact hn
  ·exact h.sep2 _ (getElem_mem' hj)
end
def BlOk (W:Acts) (r:Qz) (bl:ByteArray):Prop:=
 (bl= ⟨#[]⟩∧(r.over=true->r.fail=true->r.text=spentB∨∃A,W r.name=some A∧(stepOf A r.at').fin=true))∨
 (r.over=true∧r.fail=true∧(∃A,W r.name=some A∧(stepOf A r.at').fin=false∧bl∈(stepOf A r.at').asks)∧r.text= (⟨#[98,101,108,111,119,32]⟩:ByteArray)++bl)
theorem BlOk.open {W:Acts} {r:Qz} {bl:ByteArray} (h:BlOk W r bl) (ho:r.over=false):bl= ⟨#[]⟩:=by
 rcases h with h | ⟨h,_⟩
 ·exact h.1
 ·rw [ho] at h;cases h
theorem BlOk.still {W:Acts} {r:Qz} {bl:ByteArray} (hb:bl= ⟨#[]⟩) (ho:r.over=false):BlOk W r bl:= .inl ⟨hb,fun h=> by rw [ho] at h;cases h⟩
def QsOk (W:Acts) (σ:Env) (r:Qz) (qs:List Value):Prop:= ∃L,Traj W σ r L∧qs=L.map Value.string
theorem QsOk.mono {W:Acts} {σ:Env} {m:ByteArray} {r:Qz} {qs:List Value} (h:QsOk W σ r qs) (hr:ReadyX W σ m):QsOk W (doX W σ m) r qs:=by
 obtain ⟨L,h1,h2⟩:=h
 exact ⟨L,h1.mono hr,h2⟩
theorem QsOk.unit {W:Acts} {σ:Env} {r:Qz} {qs:List Value} (h:QsOk W σ r qs) (hc:CanGo W σ r):QsOk W σ (Y_ W σ r).1 (qs++ (Y_ W σ r).2.map Value.string):=by
 obtain ⟨L,h1,h2⟩:=h
 exact ⟨_,h1.unit hc,by rw [h2,List.map_append]⟩
theorem QsOk.still {W:Acts} {σ:Env} {r:Qz} {qs:List Value} (hq:qs=[]) (hr:r=Qz.fresh r.name):QsOk W σ r qs:= ⟨[],by rw [hr];exact Traj.start _,hq⟩
def Zx.bq (t:Zx):ByteArray×List Value:= (t.bl,t.qs)
structure BS (Kj:List Qq) (ts:List Zx) (ws:ByteArray->List Nat):Prop where
 good:GoodL Kj (Qk ts)
 op: ∀t∈ts,t.op= (pend (Q_ Kj) (Qj (Qk ts)) t.r).length
 wt: ∀s,∀t∈ts,(t.tb∈ws s↔s∈pend (Q_ Kj) (Qj (Qk ts)) t.r)
 wn: ∀s,(ws s).Nodup
 ww: ∀s b,b∈ws s->∃t∈ts,t.tb=b
 bl: ∀t∈ts,BlOk (Q_ Kj) t.r t.bl
 qs: ∀t∈ts,QsOk (Q_ Kj) (Qj (Qk ts)) t.r t.qs
section
variable {α : Type} {cells : α -> List Value} {sz : Nat}
def flatH (cells:α->List Value) (f:Nat->α):Nat->List Value
 | 0=> []
 | n+1=> flatH cells f n++cells (f n)
theorem flatH_len (hs: ∀x,(cells x).length=sz) (f:Nat->α): ∀n,(flatH cells f n).length=n * sz
 | 0=> by simp [flatH]
 | n+1=> by simp [flatH,flatH_len hs f n,hs,Nat.succ_mul]
theorem flatH_congr {f g:Nat->α}: ∀{n:Nat},(∀i,i < n->f i=g i)->flatH cells f n=flatH cells g n
 | 0,_=> rfl
 | n+1,h=> by simp only [flatH];rw [flatH_congr (fun i hi=> h i (by omega)),h n (by omega)]
theorem flatH_get (hs: ∀x,(cells x).length=sz) (f:Nat->α): ∀{n i j:Nat},i < n->j < sz->(flatH cells f n)[i * sz+j]? = (cells (f i))[j]?
 | n+1,i,j,hi,hj=> by
  have hl:=flatH_len hs f n
  simp only [flatH]
  by_cases e:i < n
  ·have:i * sz+j < n * sz:=by
    have:=Nat.mul_le_mul_right sz (show i+1<=n by omega)
    rw [Nat.succ_mul] at this
    omega
   rw [List.getElem?_append_left (by omega)]
   exact flatH_get hs f e hj
  ·obtain rfl:i=n:=by omega
   rw [List.getElem?_append_right (by omega),hl]
   congr 1
   omega
theorem flatH_take (hs: ∀x,(cells x).length=sz) (f:Nat->α) (n:Nat): (flatH cells f (n+1)).take (n * sz)=flatH cells f n:=by
 simp only [flatH]
 rw [<-flatH_len hs f n,List.take_left]
def setSeg (xs:List Value) (o:Nat) (cs:List Value):List Value:=xs.take o++cs++xs.drop (o+cs.length)
theorem setSeg_cons (xs:List Value) {o:Nat} (ho:o < xs.length) (c:Value) (cs:List Value):setSeg (xs.set o c) (o+1) cs=setSeg xs o (c :: cs):=by
 unfold setSeg
 rw [List.drop_set,if_pos (by omega),List.take_succ_eq_append_getElem (by simpa using ho)]
 rw [List.take_set]
 have e1: (xs.take o).set o c=xs.take o:=List.set_eq_of_length_le (by rw [List.length_take];omega)
 rw [e1,List.getElem_set_self]
 simp only [List.length_cons,List.append_assoc,List.cons_append,List.nil_append]
 rw [show o+1+cs.length=o+ (cs.length+1) by omega]
theorem setSeg_left {xs ys:List Value} {o:Nat} {cs:List Value} (h:o+cs.length<=xs.length):setSeg (xs++ys) o cs=setSeg xs o cs++ys:=by
 unfold setSeg
 rw [List.take_append_of_le_length (by omega),List.drop_append_of_le_length h]
 simp
theorem setSeg_right {xs ys:List Value} {cs:List Value} (h:cs.length=ys.length):setSeg (xs++ys) xs.length cs=xs++cs:=by
 unfold setSeg
 rw [List.take_left,List.drop_eq_nil_of_le (by rw [List.length_append];omega)]
 simp
theorem flatH_set (hs: ∀x,(cells x).length=sz) (f:Nat->α) (y:α): ∀{n i:Nat},i < n->setSeg (flatH cells f n) (i * sz) (cells y)=flatH cells (fun k=> if k=i then y else f k) n
 | n+1,i,hi=> by
  have hl:=flatH_len hs f n
  simp only [flatH]
  by_cases e:i < n
  ·have h1:=Nat.mul_le_mul_right sz (show i+1<=n by omega)
   rw [Nat.succ_mul] at h1
   rw [setSeg_left (by rw [hs,hl];exact h1),flatH_set hs f y e,if_neg (by omega)]
  ·obtain rfl:i=n:=by omega
   rw [<-hl,setSeg_right (by rw [hs,hs]),if_pos rfl]
   rw [flatH_congr (f:=fun k=> if k=i then y else f k) (g:=f) (fun k hk=> by rw [if_neg (by omega)])]
end
theorem owns_seg {B sz g n cap:Nat} {e:TypeId}: ∀(cs:List Value) (o:Nat) {w:World} {xs:List Value},w.ownsRow B e sz (.slice (some ⟨g,0,none⟩) n cap) n xs->o+cs.length<=xs.length->(w.setCells g o cs).ownsRow B e sz (.slice (some ⟨g,0,none⟩) n cap) n (setSeg xs o cs)
 | [],o,w,xs,h,_=> by
  have:setSeg xs o []=xs:=by unfold setSeg;simp
  rw [this]
  exact h
 | c :: cs,o,w,xs,h,hl=> by
  simp only [List.length_cons] at hl
  have:=owns_seg cs (o+1) (h.stored o c).1 (by rw [List.length_set];omega)
  rw [setSeg_cons xs (by omega)] at this
  exact this
theorem But.setCells {S:Nat->Prop} {w:World} {g:Nat} (hs:S g): ∀(cs:List Value) (o:Nat) {w':World},But S w w'->But S w (w'.setCells g o cs)
 | [],_,_,h=> h
 | _ :: cs,o,_,h=> But.setCells hs cs (o+1) (h.set (p:= ⟨g,o,none⟩) hs _)
structure HeapM {α:Type} (w:World) (b o B:Nat) (e:TypeId) (sz:Nat) (cells:α->List Value) (fn:Value) (f:Nat->α) (n:Nat) (a:Option Addr) (cap:Nat):Prop where
 c0:w.cell? ⟨b,o,none⟩=some (.slice a n cap)
 c1:w.cell? ⟨b,o+1,none⟩=some fn
 row:w.ownsRow B e sz (.slice a n cap) n (flatH cells f n)
 lt:b < w.heap.size
 blk: ∃t m,RowT w b t m∧o+1 < m
 ne: (Value.slice a n cap).ownBlock≠some b
 one: ∀x,∀u∈cells x,u.oneCell'=true
 sz: ∀x,(cells x).length=sz
section
variable {α : Type} {w w' : World} {b o B : Nat} {e : TypeId} {sz : Nat} {cells : α -> List Value} {fn : Value} {f : Nat -> α} {n : Nat} {a : Option Addr} {cap g : Nat}
theorem HeapM.pos (h:HeapM w b o B e sz cells fn f n a cap) (hn:0 < n): ∃g,a=some ⟨g,0,none⟩∧g < w.heap.size∧b≠g∧n<=cap:=by
 rcases h.row.2 with ⟨_,e0⟩ | ⟨g,cap',cur,e0,_,hg,hnc,_⟩
 ·omega
 ·injection e0 with e1 e2 e3
  subst e1 e3
  exact ⟨g,rfl,heap_lt hg,fun x=> h.ne (by rw [x];rfl),hnc⟩
theorem HeapM.at (h:HeapM w b o B e sz cells fn f n (some ⟨g,0,none⟩) cap) {i j:Nat} (hi:i < n) (hj:j < sz):w.cell? ⟨g,i * sz+j,none⟩= (cells (f i))[j]? :=by
 have hl:i * sz+j < n * sz:=by
  have:=Nat.mul_le_mul_right sz (show i+1<=n by omega)
  rw [Nat.succ_mul] at this
  omega
 rw [h.row.cellAt _ hl]
 exact flatH_get h.sz f hi hj
theorem HeapM.but {S:Nat->Prop} (h:HeapM w b o B e sz cells fn f n a cap) (k:But S w w') (hb: ¬S b) (hg: ∀x,(Value.slice a n cap).ownBlock=some x->¬S x):HeapM w' b o B e sz cells fn f n a cap:=
 ⟨(k.cell h.lt hb).trans h.c0,(k.cell h.lt hb).trans h.c1,k.owns h.row hg,Nat.lt_of_lt_of_le h.lt k.size,let ⟨t,m,hr,hm⟩:=h.blk;⟨t,m,k.row hr hb,hm⟩,h.ne,h.one,h.sz⟩
theorem HeapM.set (h:HeapM w b o B e sz cells fn f n (some ⟨g,0,none⟩) cap) {i:Nat} (hi:i < n) (y:α):HeapM (w.setCells g (i * sz) (cells y)) b o B e sz cells fn (fun k=> if k=i then y else f k) n (some ⟨g,0,none⟩) cap:=by
 have hbg:b≠g:=fun x=> h.ne (by rw [x];rfl)
 have hl:=flatH_len h.sz f n
 have hk:=But.setCells (S:=fun x=> x=g) (g:=g) (w:=w) rfl (cells y) (i * sz) (But.of_kept (K_.refl w))
 have h1:=Nat.mul_le_mul_right sz (show i+1<=n by omega)
 rw [Nat.succ_mul] at h1
 have hr:=owns_seg (cells y) (i * sz) h.row (by rw [h.sz,hl];exact h1)
 rw [flatH_set h.sz f y hi] at hr
 exact ⟨(hk.cell h.lt hbg).trans h.c0,(hk.cell h.lt hbg).trans h.c1,hr,Nat.lt_of_lt_of_le h.lt hk.size,let ⟨t,m,hr,hm⟩:=h.blk;⟨t,m,hk.row hr hbg,hm⟩,h.ne,h.one,h.sz⟩
theorem swp_eq {f:Nat->α} (i j:Nat): (fun k=> if k=j then f i else (fun k=> if k=i then f j else f k) k)=swp f j i:=by
 funext k
 unfold swp
 by_cases h1:k=j
 ·simp [h1]
 ·simp [h1]
theorem swp_comm (f:Nat->α) (i j:Nat):swp f i j=swp f j i:=by
 funext k
 unfold swp
 by_cases h1:k=i <;> by_cases h2:k=j
 ·rw [if_pos h1,if_pos h2,<-h1,<-h2]
 ·rw [if_pos h1,if_neg h2,if_pos h1]
 ·rw [if_neg h1,if_pos h2,if_pos h2]
 ·rw [if_neg h1,if_neg h2,if_neg h2,if_neg h1]
theorem HeapM.swap (h:HeapM w b o B e sz cells fn f n (some ⟨g,0,none⟩) cap) {i j:Nat} (hi:i < n) (hj:j < n):HeapM ((w.setCells g (i * sz) (cells (f j))).setCells g (j * sz) (cells (f i))) b o B e sz cells fn (swp f i j) n (some ⟨g,0,none⟩) cap:=by
 have:= (h.set hi (f j)).set hj (f i)
 rw [swp_eq i j,swp_comm] at this
 exact this
theorem HeapM.kept (h:HeapM w b o B e sz cells fn f n a cap) (k:K_ w w'):HeapM w' b o B e sz cells fn f n a cap:=h.but (S:=fun _=> False) (.of_kept k) id (fun _ _=> id)
theorem HeapM.told {a':Option Addr} {n' cap':Nat} {f':Nat->α} (h:HeapM w b o B e sz cells fn f n a cap) (k:But (fun x=> (Value.slice a n cap).ownBlock=some x) w w') (ho:w'.ownsRow B e sz (.slice a' n' cap') n' (flatH cells f' n')) (hne: (Value.slice a' n' cap').ownBlock≠some b):
  HeapM (w'.setCell ⟨b,o,none⟩ (.slice a' n' cap')) b o B e sz cells fn f' n' a' cap'∧But (fun x=> x=b∨(Value.slice a n cap).ownBlock=some x) w (w'.setCell ⟨b,o,none⟩ (.slice a' n' cap'))∧(∀i,i≠o->(w'.setCell ⟨b,o,none⟩ (.slice a' n' cap')).cell? ⟨b,i,none⟩=w.cell? ⟨b,i,none⟩)∧∀t m,RowT w b t m->RowT (w'.setCell ⟨b,o,none⟩ (.slice a' n' cap')) b t m:=by
 obtain ⟨t,m,hr,hm⟩:=h.blk
 have hr':=k.row hr h.ne
 have hcell: ∀i,w'.cell? ⟨b,i,none⟩=w.cell? ⟨b,i,none⟩:=fun i=> k.cell h.lt h.ne
 have hoth: ∀i,i≠o->(w'.setCell ⟨b,o,none⟩ (.slice a' n' cap')).cell? ⟨b,i,none⟩=w.cell? ⟨b,i,none⟩:=fun i hi=> by
  rw [World.cell?_setCell_other _ _ _ _ (by intro e;injection e with _ e2 _;omega)]
  exact hcell i
 have hk:But (fun x=> x=b∨(Value.slice a n cap).ownBlock=some x) w (w'.setCell ⟨b,o,none⟩ (.slice a' n' cap')):= (k.mono (fun _ _ h=> .inr h)).set (p:= ⟨b,o,none⟩) (.inl rfl) _
 have hk2:But (fun x=> x=b) w' (w'.setCell ⟨b,o,none⟩ (.slice a' n' cap')):= (But.of_kept (K_.refl w')).set (S:=fun x=> x=b) (p:= ⟨b,o,none⟩) rfl _
 exact ⟨⟨World.rangeAt_setCells_same w' b o [.slice a' n' cap'] (hr'.row.there (o:=o) (m:=1) (by omega)) 0 _ rfl,(hoth (o+1) (by omega)).trans h.c1,hk2.owns ho (fun x hx e=> hne (by rw [hx,e])),Nat.lt_of_lt_of_le h.lt hk.size,⟨t,m,hr'.set _,hm⟩,hne,h.one,h.sz⟩,hk,hoth,fun _ _ hr=> (k.row hr h.ne).set _⟩
end
theorem owns_less {α:Type} {w:World} {B sz g n cap:Nat} {e:TypeId} {cells:α->List Value} {f:Nat->α} (hs: ∀x,(cells x).length=sz) (h:w.ownsRow B e sz (.slice (some ⟨g,0,none⟩) (n+1) cap) (n+1) (flatH cells f (n+1))):w.ownsRow B e sz (.slice (some ⟨g,0,none⟩) n cap) n (flatH cells f n):=by
 refine ⟨flatH_len hs f n, ?_⟩
 rcases h.2 with ⟨e0,_⟩ | ⟨g',cap',cur,e0,hb,hg,hnc,hcm,hcs,ht⟩
 ·cases e0
 ·injection e0 with e1 e2 e3
  injection e1 with e1
  injection e1 with e1
  subst e1 e3
  refine .inr ⟨g,cap,cur,rfl,hb,hg,by omega,hcm,hcs, ?_⟩
  rw [<-flatH_take hs f n,<-ht,List.take_take,Nat.min_eq_left (Nat.mul_le_mul_right sz (by omega))]
structure ToH (w w':World) (b o:Nat) (a:Option Addr) (n cap:Nat) (a':Option Addr) (n' cap':Nat):Prop where
 but:But (fun x=> x=b∨(Value.slice a n cap).ownBlock=some x) w w'
 oth: ∀i,i≠o->w'.cell? ⟨b,i,none⟩=w.cell? ⟨b,i,none⟩
 row: ∀t m,RowT w b t m->RowT w' b t m
 new: ∀x,(Value.slice a' n' cap').ownBlock=some x->(Value.slice a n cap).ownBlock=some x∨w.heap.size<=x
theorem ToH.next {w w1 w2:World} {b o n cap n' cap':Nat} {a a':Option Addr} (h:ToH w w1 b o a n cap a' n' cap') (k:But (fun x=> (Value.slice a' n' cap').ownBlock=some x) w1 w2) (hb:b < w.heap.size) (hne: (Value.slice a' n' cap').ownBlock≠some b):ToH w w2 b o a n cap a' n' cap':=
 ⟨⟨k.os.trans h.but.os,k.tape.trans h.but.tape,k.output.trans h.but.output,Nat.le_trans h.but.size k.size,fun x hx hn=> (k.block x (Nat.lt_of_lt_of_le hx h.but.size) (fun e=> by
   rcases h.new x e with e | e
   ·exact hn (.inr e)
   ·omega)).trans (h.but.block x hx hn)⟩,fun i hi=> (k.cell (Nat.lt_of_lt_of_le hb h.but.size) hne).trans (h.oth i hi),fun t m hr=> k.row (h.row t m hr) hne,h.new⟩
def LedAtH {α:Type} (ah:α->α->Bool) (f:Nat->α) (n k q p:Nat):Prop:= (q=2 * k+1∧p=k)∨(q=2 * k+2∧p=lead1 ah f n k)∨(q=2 * k+3∧p=leadF ah f n k)
def AheadM {α:Type} (fid:Nat) (val:α->Value) (ah:α->α->Bool) (Ok:α->World->Prop):Prop:=
 ∀x y u,Ok x u->Ok y u->Calls Tryz.prog fid #[val x,val y] u fun e u'=> e= .returned (.bool (ah x y))∧K_ u u'
theorem Tryz.infoHT : (Tryz.prog.info? 145).map (fun i=> (i.zero,i.size,i.bytes))=some (some (.pointer none),1,8):=by kernel_rfl
section
variable {α : Type} {loc : α -> Nat} {b o B n cap : Nat} {fn : Value} {f : Nat -> α} {a : Option Addr}
theorem HeapM.cellT {w:World} {g:Nat} (h:HeapM w b o B 145 1 (fun x=> [(.pointer (some ⟨loc (x),0,none⟩))]) fn f n (some ⟨g,0,none⟩) cap) {i:Nat} (hi:i < n):w.cell? ⟨g,i,none⟩=some ((.pointer (some ⟨loc (f i),0,none⟩))):=by
 have:=h.at hi (j:=0) (by omega)
 rw [Nat.mul_one] at this
 exact this
theorem emptyT_any (w:World) (h:HeapM w b o B 145 1 (fun x=> [(.pointer (some ⟨loc (x),0,none⟩))]) fn f n a cap):
  Calls Tryz.prog 122 #[.pointer (some ⟨b,o,none⟩)] w fun e w'=> e= .returned (.bool (decide (n=0)))∧w'=w:=by
 have c0:=h.c0
 have hn: ((n:Int) == 0)=decide (n=0):=by
  by_cases e:n=0
  ·subst e;rfl
  ·rw [decide_eq_false e];simpa using e
 go_enter Tryz.func122,Tryz.ntmps122
 go_wp2
 go_ret
 exact ⟨rfl,rfl⟩
theorem firstT_any (w:World) (h:HeapM w b o B 145 1 (fun x=> [(.pointer (some ⟨loc (x),0,none⟩))]) fn f n a cap) (hn:0 < n):
  Calls Tryz.prog 155 #[.pointer (some ⟨b,o,none⟩)] w fun e w'=> e= .returned ((.pointer (some ⟨loc (f 0),0,none⟩)))∧w'=w:=by
 obtain ⟨g,rfl,hgl,hbg,hnc⟩:=h.pos hn
 have c0:=h.c0
 have c1:=h.cellT hn
 have hi: (0:Int) < (n:Int):=by omega
 go_enter Tryz.func155,Tryz.ntmps155
 go_wp2
 go_ret
 exact ⟨rfl,rfl⟩
theorem swapT_any (w:World) (h:HeapM w b o B 145 1 (fun x=> [(.pointer (some ⟨loc (x),0,none⟩))]) fn f n a cap) {i j:Nat} (hi:i < n) (hj:j < n) (hn:n<=1000000):
  Calls Tryz.prog 151 #[.pointer (some ⟨b,o,none⟩),.int .i64 (i:Int),.int .i64 (j:Int)] w fun e w'=> e= .returned (.tuple #[])∧HeapM w' b o B 145 1 (fun x=> [(.pointer (some ⟨loc (x),0,none⟩))]) fn (swp f i j) n a cap∧But (fun x=> (Value.slice a n cap).ownBlock=some x) w w':=by
 obtain ⟨g,rfl,hgl,hbg,hnc⟩:=h.pos (by omega)
 have HH:Hid (∀u,K_ w u->(u.cell? ⟨b,o,none⟩=some (.slice (some ⟨g,0,none⟩) n cap)∧u.cell? ⟨g,i,none⟩=some ((.pointer (some ⟨loc (f i),0,none⟩)))∧u.cell? ⟨g,j,none⟩=some ((.pointer (some ⟨loc (f j),0,none⟩))))):=fun u k=> ⟨(k.cell h.lt).trans h.c0,(k.cell hgl).trans (h.cellT hi),(k.cell hgl).trans (h.cellT hj)⟩
 have hi': (i:Int) < (n:Int):=by omega
 have hj': (j:Int) < (n:Int):=by omega
 obtain ⟨wd,hwd⟩: ∃wd,wd=w.drew:= ⟨_,rfl⟩
 have kd:K_ w wd:=by rw [hwd];exact (K_.refl w).drew
 have HWD:=Kz hwd
 clear hwd
 have hd:=h.kept kd
 have fi:=hd.row.frozenAt i
 have ci:=hd.cellT hi
 obtain ⟨w1,hw1⟩: ∃w1,w1=wd.setCell ⟨g,i,none⟩ ((.pointer (some ⟨loc (f j),0,none⟩))):= ⟨_,rfl⟩
 have h1:HeapM w1 b o B 145 1 (fun x=> [(.pointer (some ⟨loc (x),0,none⟩))]) fn (fun k=> if k=i then f j else f k) n (some ⟨g,0,none⟩) cap:=by have:=hd.set hi (f j);rw [Nat.mul_one] at this;rw [hw1];exact this
 have fj:=h1.row.frozenAt j
 have cj:=h1.cellT hj
 have HFin:Hid (HeapM (w1.setCell ⟨g,j,none⟩ ((.pointer (some ⟨loc (f i),0,none⟩)))) b o B 145 1 (fun x=> [(.pointer (some ⟨loc (x),0,none⟩))]) fn (swp f i j) n (some ⟨g,0,none⟩) cap∧But (fun x=> (Value.slice (some ⟨g,0,none⟩) n cap).ownBlock=some x) w (w1.setCell ⟨g,j,none⟩ ((.pointer (some ⟨loc (f i),0,none⟩))))):=by
  have:=hd.swap hi hj
  simp only [Nat.mul_one] at this
  rw [hw1]
  exact ⟨this,((But.of_kept (S:=fun x=> (Value.slice (some ⟨g,0,none⟩) n cap).ownBlock=some x) kd).set (p:= ⟨g,i,none⟩) rfl _).set (p:= ⟨g,j,none⟩) rfl _⟩
 have HW1:=Kz hw1
 clear h hd h1 kd hw1
 go_enter Tryz.func151,Tryz.ntmps151
 go_wp2
 refine UpZ.region (by kernel_rfl) (fun u=> u.cell? ⟨b,o,none⟩=some (.slice (some ⟨g,0,none⟩) n cap)∧u.cell? ⟨g,i,none⟩=some ((.pointer (some ⟨loc (f i),0,none⟩)))∧u.cell? ⟨g,j,none⟩=some ((.pointer (some ⟨loc (f j),0,none⟩)))) [25,27] (HH.out _ (K_.refl w).drew) (fun Z_=> ?_)
 rw [<-HWD.out] at Z_⊢
 refine UpZ.take 0 [1,2,3,24,25,26,27] (v:= ?_) (by (simp only [List.getElem?_toArray,List.getElem?_cons_zero];rfl)) (by kernel_rfl) (by kernel_rfl) (by kernel_rfl) (by kernel_rfl) (by exact fun _ _ _ h=> h) (Or.inl ⟨by rfl, ?_⟩) Z_ ?_
 rotate_left
 ·intro u hu
  try dsimp only at hu
  go_simp
  try with_reducible rfl
 try simp only [Act.put,upA,upB,upC]
 refine UpZ.take 1 [2,3,24,25,26,27] (v:= ?_) (by (simp only [List.getElem?_toArray,List.getElem?_cons_succ,List.getElem?_cons_zero];rfl)) (by kernel_rfl) (by kernel_rfl) (by kernel_rfl) (by kernel_rfl) (by exact fun _ _ _ h=> h) (Or.inl ⟨by rfl, ?_⟩) Z_ ?_
 rotate_left
 ·intro u hu
  try dsimp only at hu
  go_simp
  try with_reducible rfl
 try simp only [Act.put,upA,upB,upC]
 refine UpZ.take 2 [3,24,25,26,27] (v:= ?_) (by (simp only [List.getElem?_toArray,List.getElem?_cons_succ,List.getElem?_cons_zero];rfl)) (by kernel_rfl) (by kernel_rfl) (by kernel_rfl) (by kernel_rfl) (by exact fun _ _ _ h=> h) (Or.inl ⟨by rfl, ?_⟩) Z_ ?_
 rotate_left
 ·intro u hu
  try dsimp only at hu
  go_simp
  try with_reducible rfl
 try simp only [Act.put,upA,upB,upC]
 refine UpZ.take 3 [24,25,26,27] (v:= ?_) (by (simp only [List.getElem?_toArray,List.getElem?_cons_succ,List.getElem?_cons_zero];rfl)) (by kernel_rfl) (by kernel_rfl) (by kernel_rfl) (by kernel_rfl) (by exact fun _ _ _ h=> h) (Or.inl ⟨by rfl, ?_⟩) Z_ ?_
 rotate_left
 ·intro u hu
  try dsimp only at hu
  go_simp
  try with_reducible rfl
 try simp only [Act.put,upA,upB,upC]
 refine UpZ.take 4 [24,25,26,27] (v:= ?_) (by (simp only [List.getElem?_toArray,List.getElem?_cons_succ,List.getElem?_cons_zero];rfl)) (by kernel_rfl) (by kernel_rfl) (by kernel_rfl) (by kernel_rfl) (by exact fun _ _ _ h=> h) (Or.inl ⟨by rfl, ?_⟩) Z_ ?_
 rotate_left
 ·intro u hu
  try dsimp only at hu
  go_simp
  try with_reducible rfl
 try simp only [Act.put,upA,upB,upC]
 refine UpZ.take 5 [6,7,8,24,25,26,27] (v:= ?_) (by (simp only [List.getElem?_toArray,List.getElem?_cons_succ,List.getElem?_cons_zero];rfl)) (by kernel_rfl) (by kernel_rfl) (by kernel_rfl) (by kernel_rfl) (by exact fun _ _ _ h=> h) (Or.inl ⟨by rfl, ?_⟩) Z_ ?_
 rotate_left
 ·intro u hu
  try dsimp only at hu
  go_simp
  try with_reducible rfl
 try simp only [Act.put,upA,upB,upC]
 refine UpZ.take 6 [7,8,24,25,26,27] (v:= ?_) (by (simp only [List.getElem?_toArray,List.getElem?_cons_succ,List.getElem?_cons_zero];rfl)) (by kernel_rfl) (by kernel_rfl) (by kernel_rfl) (by kernel_rfl) (by exact fun _ _ _ h=> h) (Or.inl ⟨by rfl, ?_⟩) Z_ ?_
 rotate_left
 ·intro u hu
  try dsimp only at hu
  go_simp
  try with_reducible rfl
 try simp only [Act.put,upA,upB,upC]
 refine UpZ.take 7 [8,24,25,26,27] (v:= ?_) (by (simp only [List.getElem?_toArray,List.getElem?_cons_succ,List.getElem?_cons_zero];rfl)) (by kernel_rfl) (by kernel_rfl) (by kernel_rfl) (by kernel_rfl) (by exact fun _ _ _ h=> h) (Or.inl ⟨by rfl, ?_⟩) Z_ ?_
 rotate_left
 ·intro u hu
  try dsimp only at hu
  go_simp
  try with_reducible rfl
 try simp only [Act.put,upA,upB,upC]
 refine UpZ.take 8 [24,25,26,27] (v:= ?_) (by (simp only [List.getElem?_toArray,List.getElem?_cons_succ,List.getElem?_cons_zero];rfl)) (by kernel_rfl) (by kernel_rfl) (by kernel_rfl) (by kernel_rfl) (by exact fun _ _ _ h=> h) (Or.inl ⟨by rfl, ?_⟩) Z_ ?_
 rotate_left
 ·intro u hu
  try dsimp only at hu
  go_simp
  try with_reducible rfl
 try simp only [Act.put,upA,upB,upC]
 refine UpZ.pure 9 (v:= ?_) (by (simp only [List.getElem?_toArray,List.getElem?_cons_succ,List.getElem?_cons_zero];rfl)) (by kernel_rfl) (by kernel_rfl) (by kernel_rfl) (by exact fun _ _ _ h=> h) (Or.inl ⟨by rfl, ?_⟩) ?_
 rotate_left
 ·intro u hu
  go_simp
  try with_reducible rfl
 try simp only [Act.put,upA,upB,upC]
 refine UpZ.take 10 [11,12,13,15,16,24,25,26,27] (v:= ?_) (by (simp only [List.getElem?_toArray,List.getElem?_cons_succ,List.getElem?_cons_zero];rfl)) (by kernel_rfl) (by kernel_rfl) (by kernel_rfl) (by kernel_rfl) (by exact fun _ _ _ h=> h) (Or.inl ⟨by rfl, ?_⟩) Z_ ?_
 rotate_left
 ·intro u hu
  try dsimp only at hu
  go_simp
  try with_reducible rfl
 try simp only [Act.put,upA,upB,upC]
 refine UpZ.take 11 [12,13,15,16,24,25,26,27] (v:= ?_) (by (simp only [List.getElem?_toArray,List.getElem?_cons_succ,List.getElem?_cons_zero];rfl)) (by kernel_rfl) (by kernel_rfl) (by kernel_rfl) (by kernel_rfl) (by exact fun _ _ _ h=> h) (Or.inl ⟨by rfl, ?_⟩) Z_ ?_
 rotate_left
 ·intro u hu
  try dsimp only at hu
  go_simp
  try with_reducible rfl
 try simp only [Act.put,upA,upB,upC]
 refine UpZ.take 12 [13,15,16,24,25,26,27] (v:= ?_) (by (simp only [List.getElem?_toArray,List.getElem?_cons_succ,List.getElem?_cons_zero];rfl)) (by kernel_rfl) (by kernel_rfl) (by kernel_rfl) (by kernel_rfl) (by exact fun _ _ _ h=> h) (Or.inl ⟨by rfl, ?_⟩) Z_ ?_
 rotate_left
 ·intro u hu
  try dsimp only at hu
  go_simp
  try with_reducible rfl
 try simp only [Act.put,upA,upB,upC]
 refine UpZ.take 13 [15,16,24,25,26,27] (v:= ?_) (by (simp only [List.getElem?_toArray,List.getElem?_cons_succ,List.getElem?_cons_zero];rfl)) (by kernel_rfl) (by kernel_rfl) (by kernel_rfl) (by kernel_rfl) (by exact fun _ _ _ h=> h) (Or.inl ⟨by rfl, ?_⟩) Z_ ?_
 rotate_left
 ·intro u hu
  try dsimp only at hu
  go_simp
  try with_reducible rfl
 try simp only [Act.put,upA,upB,upC]
 refine UpZ.take 14 [15,16,24,25,26,27] (v:= ?_) (by (simp only [List.getElem?_toArray,List.getElem?_cons_succ,List.getElem?_cons_zero];rfl)) (by kernel_rfl) (by kernel_rfl) (by kernel_rfl) (by kernel_rfl) (by exact fun _ _ _ h=> h) (Or.inl ⟨by rfl, ?_⟩) Z_ ?_
 rotate_left
 ·intro u hu
  try dsimp only at hu
  go_simp
  try with_reducible rfl
 try simp only [Act.put,upA,upB,upC]
 refine UpZ.take 15 [16,24,25,26,27] (v:= ?_) (by (simp only [List.getElem?_toArray,List.getElem?_cons_succ,List.getElem?_cons_zero];rfl)) (by kernel_rfl) (by kernel_rfl) (by kernel_rfl) (by kernel_rfl) (by exact fun _ _ _ h=> h) (Or.inl ⟨by rfl, ?_⟩) Z_ ?_
 rotate_left
 ·intro u hu
  try dsimp only at hu
  go_simp
  try with_reducible rfl
 try simp only [Act.put,upA,upB,upC]
 refine UpZ.take 16 [24,25,26,27] (v:= ?_) (by (simp only [List.getElem?_toArray,List.getElem?_cons_succ,List.getElem?_cons_zero];rfl)) (by kernel_rfl) (by kernel_rfl) (by kernel_rfl) (by kernel_rfl) (by exact fun _ _ _ h=> h) (Or.inl ⟨by rfl, ?_⟩) Z_ ?_
 rotate_left
 ·intro u hu
  try dsimp only at hu
  go_simp
  try with_reducible rfl
 try simp only [Act.put,upA,upB,upC]
 refine UpZ.take 17 [18,19,20,22,23,24,25,26,27] (v:= ?_) (by (simp only [List.getElem?_toArray,List.getElem?_cons_succ,List.getElem?_cons_zero];rfl)) (by kernel_rfl) (by kernel_rfl) (by kernel_rfl) (by kernel_rfl) (by exact fun _ _ _ h=> h) (Or.inl ⟨by rfl, ?_⟩) Z_ ?_
 rotate_left
 ·intro u hu
  try dsimp only at hu
  go_simp
  try with_reducible rfl
 try simp only [Act.put,upA,upB,upC]
 refine UpZ.take 18 [19,20,22,23,24,25,26,27] (v:= ?_) (by (simp only [List.getElem?_toArray,List.getElem?_cons_succ,List.getElem?_cons_zero];rfl)) (by kernel_rfl) (by kernel_rfl) (by kernel_rfl) (by kernel_rfl) (by exact fun _ _ _ h=> h) (Or.inl ⟨by rfl, ?_⟩) Z_ ?_
 rotate_left
 ·intro u hu
  try dsimp only at hu
  go_simp
  try with_reducible rfl
 try simp only [Act.put,upA,upB,upC]
 refine UpZ.take 19 [20,22,23,24,25,26,27] (v:= ?_) (by (simp only [List.getElem?_toArray,List.getElem?_cons_succ,List.getElem?_cons_zero];rfl)) (by kernel_rfl) (by kernel_rfl) (by kernel_rfl) (by kernel_rfl) (by exact fun _ _ _ h=> h) (Or.inl ⟨by rfl, ?_⟩) Z_ ?_
 rotate_left
 ·intro u hu
  try dsimp only at hu
  go_simp
  try with_reducible rfl
 try simp only [Act.put,upA,upB,upC]
 refine UpZ.take 20 [22,23,24,25,26,27] (v:= ?_) (by (simp only [List.getElem?_toArray,List.getElem?_cons_succ,List.getElem?_cons_zero];rfl)) (by kernel_rfl) (by kernel_rfl) (by kernel_rfl) (by kernel_rfl) (by exact fun _ _ _ h=> h) (Or.inl ⟨by rfl, ?_⟩) Z_ ?_
 rotate_left
 ·intro u hu
  try dsimp only at hu
  go_simp
  try with_reducible rfl
 try simp only [Act.put,upA,upB,upC]
 refine UpZ.take 21 [22,23,24,25,26,27] (v:= ?_) (by (simp only [List.getElem?_toArray,List.getElem?_cons_succ,List.getElem?_cons_zero];rfl)) (by kernel_rfl) (by kernel_rfl) (by kernel_rfl) (by kernel_rfl) (by exact fun _ _ _ h=> h) (Or.inl ⟨by rfl, ?_⟩) Z_ ?_
 rotate_left
 ·intro u hu
  try dsimp only at hu
  go_simp
  try with_reducible rfl
 try simp only [Act.put,upA,upB,upC]
 refine UpZ.take 22 [23,24,25,26,27] (v:= ?_) (by (simp only [List.getElem?_toArray,List.getElem?_cons_succ,List.getElem?_cons_zero];rfl)) (by kernel_rfl) (by kernel_rfl) (by kernel_rfl) (by kernel_rfl) (by exact fun _ _ _ h=> h) (Or.inl ⟨by rfl, ?_⟩) Z_ ?_
 rotate_left
 ·intro u hu
  try dsimp only at hu
  go_simp
  try with_reducible rfl
 try simp only [Act.put,upA,upB,upC]
 refine UpZ.take 23 [24,25,26,27] (v:= ?_) (by (simp only [List.getElem?_toArray,List.getElem?_cons_succ,List.getElem?_cons_zero];rfl)) (by kernel_rfl) (by kernel_rfl) (by kernel_rfl) (by kernel_rfl) (by exact fun _ _ _ h=> h) (Or.inl ⟨by rfl, ?_⟩) Z_ ?_
 rotate_left
 ·intro u hu
  try dsimp only at hu
  go_simp
  try with_reducible rfl
 try simp only [Act.put,upA,upB,upC]
 refine UpZ.take 24 [25,26,27] (v:= ?_) (by (simp only [List.getElem?_toArray,List.getElem?_cons_succ,List.getElem?_cons_zero];rfl)) (by kernel_rfl) (by kernel_rfl) (by kernel_rfl) (by kernel_rfl) (by exact fun _ _ _ h=> h) (Or.inl ⟨by rfl, ?_⟩) Z_ ?_
 rotate_left
 ·intro u hu
  try dsimp only at hu
  go_simp
  try with_reducible rfl
 try simp only [Act.put,upA,upB,upC]
 refine UpZ.next 25 (by kernel_rfl) (by (simp only [List.getElem?_toArray,List.getElem?_cons_succ,List.getElem?_cons_zero];rfl)) (fun K hK=> ?_)
 rw [if_pos (by rfl)]
 go_simp
 rw [<-HW1.out]
 refine hK.out _ _ (fun h=> absurd (by decide) h) ?_
 clear hK K
 try simp only [Act.put,upA,upB,upC]
 refine UpZ.pure 26 (v:= ?_) (by (simp only [List.getElem?_toArray,List.getElem?_cons_succ,List.getElem?_cons_zero];rfl)) (by kernel_rfl) (by kernel_rfl) (by kernel_rfl) (by exact fun _ _ _ h=> h) (Or.inl ⟨by rfl, ?_⟩) ?_
 rotate_left
 ·intro u hu
  go_simp
  try with_reducible rfl
 try simp only [Act.put,upA,upB,upC]
 refine UpZ.next 27 (by kernel_rfl) (by (simp only [List.getElem?_toArray,List.getElem?_cons_succ,List.getElem?_cons_zero];rfl)) (fun K hK=> ?_)
 rw [if_pos (by rfl)]
 go_simp
 refine hK.out _ _ (fun h=> absurd (by decide) h) ?_
 clear hK K
 try simp only [Act.put,upA,upB,upC]
 refine UpZ.done (by kernel_rfl) ?_
 go_wp2
 go_end0
 exact ⟨rfl,HFin.out.1,HFin.out.2⟩
def LookT (loc:α->Nat) (fid b o g n cap:Nat) (f:Nat->α) (q p:Nat) (u:World):Prop:=u.cell? ⟨b,o+1,none⟩=some (.func (.func fid) #[] #[])∧u.cell? ⟨b,o,none⟩=some (.slice (some ⟨g,0,none⟩) n cap)∧u.cell? ⟨g,q,none⟩=some ((.pointer (some ⟨loc (f q),0,none⟩)))∧u.cell? ⟨g,p,none⟩=some ((.pointer (some ⟨loc (f p),0,none⟩)))
theorem leadT_any (w:World) {fid:Nat} {ah:α->α->Bool} {Ok:α->World->Prop} (h:HeapM w b o B 145 1 (fun x=> [(.pointer (some ⟨loc (x),0,none⟩))]) (.func (.func fid) #[] #[]) f n a cap) (hA:AheadM fid (fun x=> (.pointer (some ⟨loc (x),0,none⟩))) ah Ok) (hf:fid=65∨fid=66) (hok: ∀i,i < n->∀u,K_ w u->Ok (f i) u) {k:Nat} (hk:k<=n) (hn:n<=1000000):
  Calls Tryz.prog 156 #[.pointer (some ⟨b,o,none⟩),.int .i64 (k:Int)] w fun e w'=> e= .returned (.int .i64 (leadF ah f n k:Nat))∧K_ w w':=by
 have HM:=Kz h
 have HA:=Kz hA
 have HOk:=Kz hok
 clear h hA hok
 rcases hf with rfl | rfl
 all_goals
  go_enter Tryz.func156,Tryz.ntmps156
  go_wp2
  go_loopw [5,6] (fun x y wr=> ∃p q:Nat,x= .int .i64 (p:Int)∧y= .int .i64 (q:Int)∧Hid (LedAtH ah f n k q p)∧Hid (K_ w wr)) (fun _ y _=> 2 * k+3 - (intOf y).toNat)
  case atStart=> exact ⟨k,2 * k+1,rfl,by go_num,.inl ⟨rfl,rfl⟩,K_.refl w⟩
  case round=>
   obtain ⟨p,q,rfl,rfl,HL,HKr⟩:=hrel
   have c0:= (HM.out.kept HKr.out).c0
   by_cases hc:q<=2 * k+2∧q < n
   ·have hq1: (q:Int)<=2 * (k:Int)+2:=by omega
    have hq2: (q:Int) < (n:Int):=by omega
    obtain ⟨g,rfl,hgl,hbg,hnc⟩:=HM.out.pos (by omega)
    have hpn:p < n:=by
     rcases HL.out with ⟨h1,h2⟩ | ⟨h1,h2⟩ | ⟨h1,h2⟩
     ·omega
     ·rw [h2];unfold lead1;split <;> omega
     ·omega
    have hp1: (p:Int) < (n:Int):=by omega
    have HH:Hid (∀u,K_ w u->LookT loc _ b o g n cap f q p u):=fun u k=> ⟨((HM.out.kept k)).c1,((HM.out.kept k)).c0,(HM.out.kept k).cellT hc.2,(HM.out.kept k).cellT hpn⟩
    go_wp2
    refine Qx.region (by kernel_rfl) _ 18 (HH.out _ (HKr.out.drew)) (fun Z_=> ?_)
    refine Qx.take 0 [1,2,3,18] (v:= ?_) (by (simp only [List.getElem?_toArray,List.getElem?_cons_zero];rfl)) (by kernel_rfl) (by kernel_rfl) (by kernel_rfl) (by kernel_rfl) (by exact fun _ _ _ h=> h) (Or.inl ⟨by rfl, ?_⟩) Z_ ?_
    rotate_left
    ·intro u hu
     obtain ⟨hu1,hu2,hu3,hu4⟩:=hu
     go_simp
     try with_reducible rfl
    try simp only [Act.put,upA,upB,upC]
    refine Qx.take 1 [2,3,18] (v:= ?_) (by (simp only [List.getElem?_toArray,List.getElem?_cons_succ,List.getElem?_cons_zero];rfl)) (by kernel_rfl) (by kernel_rfl) (by kernel_rfl) (by kernel_rfl) (by exact fun _ _ _ h=> h) (Or.inl ⟨by rfl, ?_⟩) Z_ ?_
    rotate_left
    ·intro u hu
     obtain ⟨hu1,hu2,hu3,hu4⟩:=hu
     go_simp
     try with_reducible rfl
    try simp only [Act.put,upA,upB,upC]
    refine Qx.take 2 [3,18] (v:= ?_) (by (simp only [List.getElem?_toArray,List.getElem?_cons_succ,List.getElem?_cons_zero];rfl)) (by kernel_rfl) (by kernel_rfl) (by kernel_rfl) (by kernel_rfl) (by exact fun _ _ _ h=> h) (Or.inl ⟨by rfl, ?_⟩) Z_ ?_
    rotate_left
    ·intro u hu
     obtain ⟨hu1,hu2,hu3,hu4⟩:=hu
     go_simp
     try with_reducible rfl
    try simp only [Act.put,upA,upB,upC]
    refine Qx.take 3 [18] (v:= ?_) (by (simp only [List.getElem?_toArray,List.getElem?_cons_succ,List.getElem?_cons_zero];rfl)) (by kernel_rfl) (by kernel_rfl) (by kernel_rfl) (by kernel_rfl) (by exact fun _ _ _ h=> h) (Or.inl ⟨by rfl, ?_⟩) Z_ ?_
    rotate_left
    ·intro u hu
     obtain ⟨hu1,hu2,hu3,hu4⟩:=hu
     go_simp
     try with_reducible rfl
    try simp only [Act.put,upA,upB,upC]
    refine Qx.take 4 [5,6,7,9,10,18] (v:= ?_) (by (simp only [List.getElem?_toArray,List.getElem?_cons_succ,List.getElem?_cons_zero];rfl)) (by kernel_rfl) (by kernel_rfl) (by kernel_rfl) (by kernel_rfl) (by exact fun _ _ _ h=> h) (Or.inl ⟨by rfl, ?_⟩) Z_ ?_
    rotate_left
    ·intro u hu
     obtain ⟨hu1,hu2,hu3,hu4⟩:=hu
     go_simp
     try with_reducible rfl
    try simp only [Act.put,upA,upB,upC]
    refine Qx.take 5 [6,7,9,10,18] (v:= ?_) (by (simp only [List.getElem?_toArray,List.getElem?_cons_succ,List.getElem?_cons_zero];rfl)) (by kernel_rfl) (by kernel_rfl) (by kernel_rfl) (by kernel_rfl) (by exact fun _ _ _ h=> h) (Or.inl ⟨by rfl, ?_⟩) Z_ ?_
    rotate_left
    ·intro u hu
     obtain ⟨hu1,hu2,hu3,hu4⟩:=hu
     go_simp
     try with_reducible rfl
    try simp only [Act.put,upA,upB,upC]
    refine Qx.take 6 [7,9,10,18] (v:= ?_) (by (simp only [List.getElem?_toArray,List.getElem?_cons_succ,List.getElem?_cons_zero];rfl)) (by kernel_rfl) (by kernel_rfl) (by kernel_rfl) (by kernel_rfl) (by exact fun _ _ _ h=> h) (Or.inl ⟨by rfl, ?_⟩) Z_ ?_
    rotate_left
    ·intro u hu
     obtain ⟨hu1,hu2,hu3,hu4⟩:=hu
     go_simp
     try with_reducible rfl
    try simp only [Act.put,upA,upB,upC]
    refine Qx.take 7 [9,10,18] (v:= ?_) (by (simp only [List.getElem?_toArray,List.getElem?_cons_succ,List.getElem?_cons_zero];rfl)) (by kernel_rfl) (by kernel_rfl) (by kernel_rfl) (by kernel_rfl) (by exact fun _ _ _ h=> h) (Or.inl ⟨by rfl, ?_⟩) Z_ ?_
    rotate_left
    ·intro u hu
     obtain ⟨hu1,hu2,hu3,hu4⟩:=hu
     go_simp
     try with_reducible rfl
    try simp only [Act.put,upA,upB,upC]
    refine Qx.take 8 [9,10,18] (v:= ?_) (by (simp only [List.getElem?_toArray,List.getElem?_cons_succ,List.getElem?_cons_zero];rfl)) (by kernel_rfl) (by kernel_rfl) (by kernel_rfl) (by kernel_rfl) (by exact fun _ _ _ h=> h) (Or.inl ⟨by rfl, ?_⟩) Z_ ?_
    rotate_left
    ·intro u hu
     obtain ⟨hu1,hu2,hu3,hu4⟩:=hu
     go_simp
     try with_reducible rfl
    try simp only [Act.put,upA,upB,upC]
    refine Qx.take 9 [10,18] (v:= ?_) (by (simp only [List.getElem?_toArray,List.getElem?_cons_succ,List.getElem?_cons_zero];rfl)) (by kernel_rfl) (by kernel_rfl) (by kernel_rfl) (by kernel_rfl) (by exact fun _ _ _ h=> h) (Or.inl ⟨by rfl, ?_⟩) Z_ ?_
    rotate_left
    ·intro u hu
     obtain ⟨hu1,hu2,hu3,hu4⟩:=hu
     go_simp
     try with_reducible rfl
    try simp only [Act.put,upA,upB,upC]
    refine Qx.take 10 [18] (v:= ?_) (by (simp only [List.getElem?_toArray,List.getElem?_cons_succ,List.getElem?_cons_zero];rfl)) (by kernel_rfl) (by kernel_rfl) (by kernel_rfl) (by kernel_rfl) (by exact fun _ _ _ h=> h) (Or.inl ⟨by rfl, ?_⟩) Z_ ?_
    rotate_left
    ·intro u hu
     obtain ⟨hu1,hu2,hu3,hu4⟩:=hu
     go_simp
     try with_reducible rfl
    try simp only [Act.put,upA,upB,upC]
    refine Qx.take 11 [12,13,14,16,17,18] (v:= ?_) (by (simp only [List.getElem?_toArray,List.getElem?_cons_succ,List.getElem?_cons_zero];rfl)) (by kernel_rfl) (by kernel_rfl) (by kernel_rfl) (by kernel_rfl) (by exact fun _ _ _ h=> h) (Or.inl ⟨by rfl, ?_⟩) Z_ ?_
    rotate_left
    ·intro u hu
     obtain ⟨hu1,hu2,hu3,hu4⟩:=hu
     go_simp
     try with_reducible rfl
    try simp only [Act.put,upA,upB,upC]
    refine Qx.take 12 [13,14,16,17,18] (v:= ?_) (by (simp only [List.getElem?_toArray,List.getElem?_cons_succ,List.getElem?_cons_zero];rfl)) (by kernel_rfl) (by kernel_rfl) (by kernel_rfl) (by kernel_rfl) (by exact fun _ _ _ h=> h) (Or.inl ⟨by rfl, ?_⟩) Z_ ?_
    rotate_left
    ·intro u hu
     obtain ⟨hu1,hu2,hu3,hu4⟩:=hu
     go_simp
     try with_reducible rfl
    try simp only [Act.put,upA,upB,upC]
    refine Qx.take 13 [14,16,17,18] (v:= ?_) (by (simp only [List.getElem?_toArray,List.getElem?_cons_succ,List.getElem?_cons_zero];rfl)) (by kernel_rfl) (by kernel_rfl) (by kernel_rfl) (by kernel_rfl) (by exact fun _ _ _ h=> h) (Or.inl ⟨by rfl, ?_⟩) Z_ ?_
    rotate_left
    ·intro u hu
     obtain ⟨hu1,hu2,hu3,hu4⟩:=hu
     go_simp
     try with_reducible rfl
    try simp only [Act.put,upA,upB,upC]
    refine Qx.take 14 [16,17,18] (v:= ?_) (by (simp only [List.getElem?_toArray,List.getElem?_cons_succ,List.getElem?_cons_zero];rfl)) (by kernel_rfl) (by kernel_rfl) (by kernel_rfl) (by kernel_rfl) (by exact fun _ _ _ h=> h) (Or.inl ⟨by rfl, ?_⟩) Z_ ?_
    rotate_left
    ·intro u hu
     obtain ⟨hu1,hu2,hu3,hu4⟩:=hu
     go_simp
     try with_reducible rfl
    try simp only [Act.put,upA,upB,upC]
    refine Qx.take 15 [16,17,18] (v:= ?_) (by (simp only [List.getElem?_toArray,List.getElem?_cons_succ,List.getElem?_cons_zero];rfl)) (by kernel_rfl) (by kernel_rfl) (by kernel_rfl) (by kernel_rfl) (by exact fun _ _ _ h=> h) (Or.inl ⟨by rfl, ?_⟩) Z_ ?_
    rotate_left
    ·intro u hu
     obtain ⟨hu1,hu2,hu3,hu4⟩:=hu
     go_simp
     try with_reducible rfl
    try simp only [Act.put,upA,upB,upC]
    refine Qx.take 16 [17,18] (v:= ?_) (by (simp only [List.getElem?_toArray,List.getElem?_cons_succ,List.getElem?_cons_zero];rfl)) (by kernel_rfl) (by kernel_rfl) (by kernel_rfl) (by kernel_rfl) (by exact fun _ _ _ h=> h) (Or.inl ⟨by rfl, ?_⟩) Z_ ?_
    rotate_left
    ·intro u hu
     obtain ⟨hu1,hu2,hu3,hu4⟩:=hu
     go_simp
     try with_reducible rfl
    try simp only [Act.put,upA,upB,upC]
    refine Qx.take 17 [18] (v:= ?_) (by (simp only [List.getElem?_toArray,List.getElem?_cons_succ,List.getElem?_cons_zero];rfl)) (by kernel_rfl) (by kernel_rfl) (by kernel_rfl) (by kernel_rfl) (by exact fun _ _ _ h=> h) (Or.inl ⟨by rfl, ?_⟩) Z_ ?_
    rotate_left
    ·intro u hu
     obtain ⟨hu1,hu2,hu3,hu4⟩:=hu
     go_simp
     try with_reducible rfl
    try simp only [Act.put,upA,upB,upC]
    refine Qx.nx 18 (fun K hK=> ?_)
    rw [if_pos (by rfl)]
    go_simp
    refine (HA.out (f q) (f p) _ (HOk.out q (by omega) _ HKr.out.drew) (HOk.out p (by omega) _ HKr.out.drew)).mono ?_
    rintro e w8 ⟨rfl,k8⟩
    dsimp only
    have HK8:=Kz (HKr.out.drew.trans k8)
    refine hK.out _ _ (fun h=> absurd rfl h) ?_
    clear hK K
    try simp only [Act.put,upA,upB,upC]
    refine Qx.dn ?_
    cases hx:ah (f q) (f p)
    ·have HN:Hid (LedAtH ah f n k (q+1) p):=by
      rcases HL.out with ⟨h1,h2⟩ | ⟨h1,h2⟩ | ⟨h1,h2⟩
      ·exact .inr (.inl ⟨by omega,by unfold lead1;rw [if_neg (by rw [<-h1,<-h2,hx];simp)];exact h2⟩)
      ·exact .inr (.inr ⟨by omega,by unfold leadF;rw [if_neg (by rw [<-h1,<-h2,hx];simp)];exact h2⟩)
      ·omega
     go_wp2
     go_roundw
     case rel=> exact ⟨p,q+1,rfl,by go_num,HN,HK8⟩
     case measure=> simp [intOf];omega
    ·have HN:Hid (LedAtH ah f n k (q+1) q):=by
      rcases HL.out with ⟨h1,h2⟩ | ⟨h1,h2⟩ | ⟨h1,h2⟩
      ·exact .inr (.inl ⟨by omega,by unfold lead1;rw [if_pos ⟨by omega,by rw [<-h1,<-h2,hx]⟩];exact h1⟩)
      ·exact .inr (.inr ⟨by omega,by unfold leadF;rw [if_pos ⟨by omega,by rw [<-h1,<-h2,hx]⟩];exact h1⟩)
      ·omega
     go_wp2
     go_roundw
     case rel=> exact ⟨q,q+1,rfl,by go_num,HN,HK8⟩
     case measure=> simp [intOf];omega
   ·have hE:Hid (p=leadF ah f n k):=by
     show _=_
     rcases HL.out with ⟨h1,h2⟩ | ⟨h1,h2⟩ | ⟨h1,h2⟩
     ·unfold leadF lead1;rw [if_neg (by omega),if_neg (by omega)];exact h2
     ·unfold leadF;rw [if_neg (by omega)];exact h2
     ·exact h2
    by_cases hq:q<=2 * k+2
    ·have hq1: (q:Int)<=2 * (k:Int)+2:=by omega
     have hq2: ¬(q:Int) < (n:Int):=by omega
     go_wp2
     go_ret
     exact ⟨by rw [hE.out];rfl,HKr.out⟩
    ·have hq1: ¬(q:Int)<=2 * (k:Int)+2:=by omega
     go_wp2
     go_ret
     exact ⟨by rw [hE.out];rfl,HKr.out⟩
theorem putT_any (w:World) {fid:Nat} {ah:α->α->Bool} {Ok:α->World->Prop} (h:HeapM w b o B 145 1 (fun x=> [(.pointer (some ⟨loc (x),0,none⟩))]) (.func (.func fid) #[] #[]) f n a cap) (hA:AheadM fid (fun x=> (.pointer (some ⟨loc (x),0,none⟩))) ah Ok) (hf:fid=65∨fid=66) (x:α) (hok: ∀y u,(y=x∨MemH f n y)->But (fun z=> z=b∨(Value.slice a n cap).ownBlock=some z) w u->Ok y u) (hn:n < 1000000) (hB:B<=w.heap.size):
  Calls Tryz.prog 119 #[.pointer (some ⟨b,o,none⟩),(.pointer (some ⟨loc (x),0,none⟩))] w fun e w'=> e= .returned (.tuple #[])∧∃a' cap',HeapM w' b o B 145 1 (fun x=> [(.pointer (some ⟨loc (x),0,none⟩))]) (.func (.func fid) #[] #[]) (putF ah f n x) (n+1) a' cap'∧ToH w w' b o a n cap a' (n+1) cap':=by
 obtain ⟨ie,hi0,hi1,hi2,hi3⟩:=info_parts Tryz.infoHT
 have HM:=Kz h
 have HA:=Kz hA
 have HOk:=Kz hok
 have c0:=h.c0
 have hbl:=h.lt
 obtain ⟨t0,m0,hr0,hm0⟩:=h.blk
 have HOw:=Kz (h.row.alloc (.cells #[(.pointer (some ⟨loc (x),0,none⟩))] 145))
 have HBx:Hid (∀j u,([(.pointer (some ⟨loc (x),0,none⟩))]:List Value)[j]? =some u->(w.alloc (.cells #[(.pointer (some ⟨loc (x),0,none⟩))] 145)).cell? ((⟨w.heap.size,0,none⟩:Addr).add j)=some u):=fun j u hj=> by rw [Addr.add_mid];exact Xz w #[(.pointer (some ⟨loc (x),0,none⟩))] 145 j u hj
 have HOne:Hid (∀u∈([(.pointer (some ⟨loc (x),0,none⟩))]:List Value),u.oneCell'=true):=fun u hu=> by rw [List.mem_singleton] at hu;subst hu;rfl
 have HX1:Hid (n+1<=maxLen):=by show _<=_;unfold maxLen;omega
 have HX2:Hid ((n+1) * 8<=140737488355328):=by show _<=_;omega
 have HX3:Hid (B<=(w.alloc (.cells #[(.pointer (some ⟨loc (x),0,none⟩))] 145)).heap.size):=by show _<=_;rw [World.size_alloc];omega
 have HAp:Hid (∀g1 cap1 (w1:World),w1.ownsRow B 145 1 (.slice (some ⟨g1,0,none⟩) (n+1) cap1) (n+1) (flatH (fun x=> [(.pointer (some ⟨loc (x),0,none⟩))]) f n++ [(.pointer (some ⟨loc (x),0,none⟩))])->(w.alloc (.cells #[(.pointer (some ⟨loc (x),0,none⟩))] 145)).grownBy w1 (Value.slice a n cap).ownBlock->((Value.slice a n cap).ownBlock=some g1∨g1= (w.alloc (.cells #[(.pointer (some ⟨loc (x),0,none⟩))] 145)).heap.size)->
   (HeapM (w1.setCell ⟨b,o,none⟩ (.slice (some ⟨g1,0,none⟩) (n+1) cap1)) b o B 145 1 (fun x=> [(.pointer (some ⟨loc (x),0,none⟩))]) (.func (.func fid) #[] #[]) (fun i=> if i=n then x else f i) (n+1) (some ⟨g1,0,none⟩) cap1∧ToH w (w1.setCell ⟨b,o,none⟩ (.slice (some ⟨g1,0,none⟩) (n+1) cap1)) b o a n cap (some ⟨g1,0,none⟩) (n+1) cap1)∧w1.frozen? ⟨b,o,none⟩=false∧∃v,w1.cell? ⟨b,o,none⟩=some v):=fun g1 cap1 w1 hown hgr hloc=> by
  have kA:K_ w (w.alloc (.cells #[(.pointer (some ⟨loc (x),0,none⟩))] 145)):= (K_.refl w).alloc _
  have k1:But (fun z=> (Value.slice a n cap).ownBlock=some z) w w1:= (But.of_kept kA).trans (.of_grown hgr (fun _ h=> h))
  have hne: (Value.slice (some ⟨g1,0,none⟩) (n+1) cap1).ownBlock≠some b:=fun e=> by
   have e1:g1=b:=by injection e
   rcases hloc with e2 | e2
   ·exact h.ne (by rw [e2,e1])
   ·rw [World.size_alloc] at e2;omega
  have ho:w1.ownsRow B 145 1 (.slice (some ⟨g1,0,none⟩) (n+1) cap1) (n+1) (flatH (fun x=> [(.pointer (some ⟨loc (x),0,none⟩))]) (fun i=> if i=n then x else f i) (n+1)):=by
   have e1:flatH (fun x=> [(.pointer (some ⟨loc (x),0,none⟩))]) (fun i=> if i=n then x else f i) (n+1)=flatH (fun x=> [(.pointer (some ⟨loc (x),0,none⟩))]) f n++ [(.pointer (some ⟨loc (x),0,none⟩))]:=by
    simp only [flatH,if_true]
    rw [flatH_congr (fun i hi=> by rw [if_neg (by omega)])]
   rw [e1]
   exact hown
  obtain ⟨j1,j2,j3,j4⟩:=h.told k1 ho hne
  have hr1:=k1.row hr0 h.ne
  obtain ⟨⟨v,x0⟩,f0⟩:=hr1.row.at (i:=o) (by omega)
  refine ⟨⟨j1,j2,j3,j4,fun z hz=> ?_⟩,f0,v,x0⟩
  have e1:g1=z:=by injection hz
  subst e1
  rcases hloc with e2 | e2
  ·exact .inl e2
  ·exact .inr (by rw [World.size_alloc] at e2;omega)
 obtain ⟨fv,hfv⟩: ∃fv,fv=Value.func (.func fid) #[] #[]:= ⟨_,rfl⟩
 have HFV:=Kz hfv
 clear h hA hok hr0 hfv
 rcases hf with rfl | rfl
 all_goals
  go_enter Tryz.func119,Tryz.ntmps119
  go_wp2_with (at_builtin;refine wpList_append_lies _ rfl (.tmp 10) (.tmp 12) 123 rfl B 145 ie (.pointer none) 1 8 Tryz.underlying123 hi0 hi1 hi2 hi3 rfl (by decide) (.slice a n cap) n _ rfl HOw.out ⟨w.heap.size,0,none⟩ 1 1 [(.pointer (some ⟨loc (x),0,none⟩))] rfl rfl HBx.out HOne.out (by decide) HX1.out HX2.out HX3.out _ rfl ?_;intro g1 cap1 w1 hown1 hgr1 hloc1 _;obtain ⟨hJ,f0,v0,x0⟩:=HAp.out g1 cap1 w1 hown1 hgr1 hloc1;have HJ:=Kz hJ;have c1:=hJ.1.c0;clear hown1 hgr1 hloc1 hJ c0)
  generalize hw2:w1.setCell ⟨b,o,none⟩ (.slice (some ⟨g1,0,none⟩) (n+1) cap1)=w2 at HJ c1⊢
  clear hw2 f0 x0 v0
  go_loopw [4] (fun y wr=> ∃(k m:Nat) (f1:Nat->α),y= .int .i64 (k:Int)∧k<=n∧k<=m∧Hid (HeapM wr b o B 145 1 (fun x=> [(.pointer (some ⟨loc (x),0,none⟩))]) fv f1 (n+1) (some ⟨g1,0,none⟩) cap1)∧Hid (upF ah m f1 k=putF ah f n x)∧Hid (∀i,i < n+1->f1 i=x∨MemH f n (f1 i))∧Hid (ToH w wr b o a n cap (some ⟨g1,0,none⟩) (n+1) cap1)) (fun y _=> (intOf y).toNat)
  case atStart=>
  refine ⟨n,n,fun i=> if i=n then x else f i,by go_num,Nat.le_refl _,Nat.le_refl _,by rw [HFV.out];exact HJ.out.1,rfl,fun i hi=> ?_,HJ.out.2⟩
  by_cases e:i=n
  ·exact .inl (if_pos e)
  ·exact .inr ⟨i,by omega,by simp only [if_neg e]⟩
  case round=>
  obtain ⟨k,m,f1,rfl,hk,hm,HF1,HU,HMem,HTo⟩:=hrel
  clear c1
  have c0:=HF1.out.c0
  by_cases hk0:k=0
  ·subst hk0
   have HE:Hid (f1=putF ah f n x):=by
    show _=_
    rw [<-HU.out]
    cases m <;> simp [upF]
   go_wp2
   go_end0
   exact ⟨rfl,_,_,by rw [<-HE.out,<-HFV.out];exact HF1.out,HTo.out⟩
  ·obtain ⟨m,rfl⟩: ∃m',m=m'+1:= ⟨m - 1,by omega⟩
   obtain ⟨p,hp⟩: ∃p,p=parH k:= ⟨_,rfl⟩
   have hpk:p < k:=by rw [hp];unfold parH;omega
   have hd1: ((k:Int) - 1).tdiv 2= (p:Int):=by rw [hp];unfold parH;rw [Int.tdiv_eq_ediv_of_nonneg (by omega)];omega
   have hd2: ((k:Int) - 1) / 2= (p:Int):=by rw [hp];unfold parH;omega
   have hk1: (0:Int) < (k:Int):=by omega
   have hk2: (k:Int) < (n:Int)+1:=by omega
   have hp2: (p:Int) < (n:Int)+1:=by omega
   have HUp:Hid (if ah (f1 k) (f1 p)=true then upF ah m (swp f1 k p) p=putF ah f n x else f1=putF ah f n x):=by
    have e:=HU.out
    simp only [upF,if_neg hk0] at e
    rw [<-hp] at e
    show if _ then _ else _
    split
    ·next g=> rw [if_pos g] at e;exact e
    ·next g=> rw [if_neg g] at e;exact e
   have HBu:=Kz HTo.out.but
   have HH:Hid (∀u,K_ wr u->LookT loc _ b o g1 (n+1) cap1 f1 k p u):=fun u ku=> ⟨by have:= (HF1.out.kept ku).c1;rw [HFV.out] at this;exact this,((HF1.out.kept ku)).c0,(HF1.out.kept ku).cellT (by omega),(HF1.out.kept ku).cellT (by omega)⟩
   clear hp hk0
   go_wp2
   refine Qx.region (by kernel_rfl) _ 19 (HH.out _ (K_.refl _).drew) (fun Z_=> ?_)
   refine Qx.take 0 [1,2,3,18,19] (v:= ?_) (by (simp only [List.getElem?_toArray,List.getElem?_cons_zero];rfl)) (by kernel_rfl) (by kernel_rfl) (by kernel_rfl) (by kernel_rfl) (by exact fun _ _ _ h=> h) (Or.inl ⟨by rfl, ?_⟩) Z_ ?_
   rotate_left
   ·intro u hu
    obtain ⟨hu1,hu2,hu3,hu4⟩:=hu
    go_simp
    try with_reducible rfl
   try simp only [Act.put,upA,upB,upC]
   refine Qx.take 1 [2,3,18,19] (v:= ?_) (by (simp only [List.getElem?_toArray,List.getElem?_cons_succ,List.getElem?_cons_zero];rfl)) (by kernel_rfl) (by kernel_rfl) (by kernel_rfl) (by kernel_rfl) (by exact fun _ _ _ h=> h) (Or.inl ⟨by rfl, ?_⟩) Z_ ?_
   rotate_left
   ·intro u hu
    obtain ⟨hu1,hu2,hu3,hu4⟩:=hu
    go_simp
    try with_reducible rfl
   try simp only [Act.put,upA,upB,upC]
   refine Qx.take 2 [3,18,19] (v:= ?_) (by (simp only [List.getElem?_toArray,List.getElem?_cons_succ,List.getElem?_cons_zero];rfl)) (by kernel_rfl) (by kernel_rfl) (by kernel_rfl) (by kernel_rfl) (by exact fun _ _ _ h=> h) (Or.inl ⟨by rfl, ?_⟩) Z_ ?_
   rotate_left
   ·intro u hu
    obtain ⟨hu1,hu2,hu3,hu4⟩:=hu
    go_simp
    try with_reducible rfl
   try simp only [Act.put,upA,upB,upC]
   refine Qx.take 3 [18,19] (v:= ?_) (by (simp only [List.getElem?_toArray,List.getElem?_cons_succ,List.getElem?_cons_zero];rfl)) (by kernel_rfl) (by kernel_rfl) (by kernel_rfl) (by kernel_rfl) (by exact fun _ _ _ h=> h) (Or.inl ⟨by rfl, ?_⟩) Z_ ?_
   rotate_left
   ·intro u hu
    obtain ⟨hu1,hu2,hu3,hu4⟩:=hu
    go_simp
    try with_reducible rfl
   try simp only [Act.put,upA,upB,upC]
   refine Qx.take 4 [5,6,7,9,10,18,19] (v:= ?_) (by (simp only [List.getElem?_toArray,List.getElem?_cons_succ,List.getElem?_cons_zero];rfl)) (by kernel_rfl) (by kernel_rfl) (by kernel_rfl) (by kernel_rfl) (by exact fun _ _ _ h=> h) (Or.inl ⟨by rfl, ?_⟩) Z_ ?_
   rotate_left
   ·intro u hu
    obtain ⟨hu1,hu2,hu3,hu4⟩:=hu
    go_simp
    try with_reducible rfl
   try simp only [Act.put,upA,upB,upC]
   refine Qx.take 5 [6,7,9,10,18,19] (v:= ?_) (by (simp only [List.getElem?_toArray,List.getElem?_cons_succ,List.getElem?_cons_zero];rfl)) (by kernel_rfl) (by kernel_rfl) (by kernel_rfl) (by kernel_rfl) (by exact fun _ _ _ h=> h) (Or.inl ⟨by rfl, ?_⟩) Z_ ?_
   rotate_left
   ·intro u hu
    obtain ⟨hu1,hu2,hu3,hu4⟩:=hu
    go_simp
    try with_reducible rfl
   try simp only [Act.put,upA,upB,upC]
   refine Qx.take 6 [7,9,10,18,19] (v:= ?_) (by (simp only [List.getElem?_toArray,List.getElem?_cons_succ,List.getElem?_cons_zero];rfl)) (by kernel_rfl) (by kernel_rfl) (by kernel_rfl) (by kernel_rfl) (by exact fun _ _ _ h=> h) (Or.inl ⟨by rfl, ?_⟩) Z_ ?_
   rotate_left
   ·intro u hu
    obtain ⟨hu1,hu2,hu3,hu4⟩:=hu
    go_simp
    try with_reducible rfl
   try simp only [Act.put,upA,upB,upC]
   refine Qx.take 7 [9,10,18,19] (v:= ?_) (by (simp only [List.getElem?_toArray,List.getElem?_cons_succ,List.getElem?_cons_zero];rfl)) (by kernel_rfl) (by kernel_rfl) (by kernel_rfl) (by kernel_rfl) (by exact fun _ _ _ h=> h) (Or.inl ⟨by rfl, ?_⟩) Z_ ?_
   rotate_left
   ·intro u hu
    obtain ⟨hu1,hu2,hu3,hu4⟩:=hu
    go_simp
    try with_reducible rfl
   try simp only [Act.put,upA,upB,upC]
   refine Qx.take 8 [9,10,18,19] (v:= ?_) (by (simp only [List.getElem?_toArray,List.getElem?_cons_succ,List.getElem?_cons_zero];rfl)) (by kernel_rfl) (by kernel_rfl) (by kernel_rfl) (by kernel_rfl) (by exact fun _ _ _ h=> h) (Or.inl ⟨by rfl, ?_⟩) Z_ ?_
   rotate_left
   ·intro u hu
    obtain ⟨hu1,hu2,hu3,hu4⟩:=hu
    go_simp
    try with_reducible rfl
   try simp only [Act.put,upA,upB,upC]
   refine Qx.take 9 [10,18,19] (v:= ?_) (by (simp only [List.getElem?_toArray,List.getElem?_cons_succ,List.getElem?_cons_zero];rfl)) (by kernel_rfl) (by kernel_rfl) (by kernel_rfl) (by kernel_rfl) (by exact fun _ _ _ h=> h) (Or.inl ⟨by rfl, ?_⟩) Z_ ?_
   rotate_left
   ·intro u hu
    obtain ⟨hu1,hu2,hu3,hu4⟩:=hu
    go_simp
    try with_reducible rfl
   try simp only [Act.put,upA,upB,upC]
   refine Qx.take 10 [18,19] (v:= ?_) (by (simp only [List.getElem?_toArray,List.getElem?_cons_succ,List.getElem?_cons_zero];rfl)) (by kernel_rfl) (by kernel_rfl) (by kernel_rfl) (by kernel_rfl) (by exact fun _ _ _ h=> h) (Or.inl ⟨by rfl, ?_⟩) Z_ ?_
   rotate_left
   ·intro u hu
    obtain ⟨hu1,hu2,hu3,hu4⟩:=hu
    go_simp
    try with_reducible rfl
   try simp only [Act.put,upA,upB,upC]
   refine Qx.take 11 [12,13,14,16,17,18,19] (v:= ?_) (by (simp only [List.getElem?_toArray,List.getElem?_cons_succ,List.getElem?_cons_zero];rfl)) (by kernel_rfl) (by kernel_rfl) (by kernel_rfl) (by kernel_rfl) (by exact fun _ _ _ h=> h) (Or.inl ⟨by rfl, ?_⟩) Z_ ?_
   rotate_left
   ·intro u hu
    obtain ⟨hu1,hu2,hu3,hu4⟩:=hu
    go_simp
    try with_reducible rfl
   try simp only [Act.put,upA,upB,upC]
   refine Qx.take 12 [13,14,16,17,18,19] (v:= ?_) (by (simp only [List.getElem?_toArray,List.getElem?_cons_succ,List.getElem?_cons_zero];rfl)) (by kernel_rfl) (by kernel_rfl) (by kernel_rfl) (by kernel_rfl) (by exact fun _ _ _ h=> h) (Or.inl ⟨by rfl, ?_⟩) Z_ ?_
   rotate_left
   ·intro u hu
    obtain ⟨hu1,hu2,hu3,hu4⟩:=hu
    go_simp
    try with_reducible rfl
   try simp only [Act.put,upA,upB,upC]
   refine Qx.take 13 [14,16,17,18,19] (v:= ?_) (by (simp only [List.getElem?_toArray,List.getElem?_cons_succ,List.getElem?_cons_zero];rfl)) (by kernel_rfl) (by kernel_rfl) (by kernel_rfl) (by kernel_rfl) (by exact fun _ _ _ h=> h) (Or.inl ⟨by rfl, ?_⟩) Z_ ?_
   rotate_left
   ·intro u hu
    obtain ⟨hu1,hu2,hu3,hu4⟩:=hu
    go_simp
    try with_reducible rfl
   try simp only [Act.put,upA,upB,upC]
   refine Qx.take 14 [16,17,18,19] (v:= ?_) (by (simp only [List.getElem?_toArray,List.getElem?_cons_succ,List.getElem?_cons_zero];rfl)) (by kernel_rfl) (by kernel_rfl) (by kernel_rfl) (by kernel_rfl) (by exact fun _ _ _ h=> h) (Or.inl ⟨by rfl, ?_⟩) Z_ ?_
   rotate_left
   ·intro u hu
    obtain ⟨hu1,hu2,hu3,hu4⟩:=hu
    go_simp
    try with_reducible rfl
   try simp only [Act.put,upA,upB,upC]
   refine Qx.take 15 [16,17,18,19] (v:= ?_) (by (simp only [List.getElem?_toArray,List.getElem?_cons_succ,List.getElem?_cons_zero];rfl)) (by kernel_rfl) (by kernel_rfl) (by kernel_rfl) (by kernel_rfl) (by exact fun _ _ _ h=> h) (Or.inl ⟨by rfl, ?_⟩) Z_ ?_
   rotate_left
   ·intro u hu
    obtain ⟨hu1,hu2,hu3,hu4⟩:=hu
    go_simp
    try with_reducible rfl
   try simp only [Act.put,upA,upB,upC]
   refine Qx.take 16 [17,18,19] (v:= ?_) (by (simp only [List.getElem?_toArray,List.getElem?_cons_succ,List.getElem?_cons_zero];rfl)) (by kernel_rfl) (by kernel_rfl) (by kernel_rfl) (by kernel_rfl) (by exact fun _ _ _ h=> h) (Or.inl ⟨by rfl, ?_⟩) Z_ ?_
   rotate_left
   ·intro u hu
    obtain ⟨hu1,hu2,hu3,hu4⟩:=hu
    go_simp
    try with_reducible rfl
   try simp only [Act.put,upA,upB,upC]
   refine Qx.take 17 [18,19] (v:= ?_) (by (simp only [List.getElem?_toArray,List.getElem?_cons_succ,List.getElem?_cons_zero];rfl)) (by kernel_rfl) (by kernel_rfl) (by kernel_rfl) (by kernel_rfl) (by exact fun _ _ _ h=> h) (Or.inl ⟨by rfl, ?_⟩) Z_ ?_
   rotate_left
   ·intro u hu
    obtain ⟨hu1,hu2,hu3,hu4⟩:=hu
    go_simp
    try with_reducible rfl
   try simp only [Act.put,upA,upB,upC]
   refine Qx.nx 18 (fun K hK=> ?_)
   rw [if_pos (by rfl)]
   go_simp
   refine (HA.out (f1 k) (f1 p) _ (HOk.out _ _ (HMem.out k (by omega)) (HBu.out.trans (.of_kept (K_.refl _).drew))) (HOk.out _ _ (HMem.out p (by omega)) (HBu.out.trans (.of_kept (K_.refl _).drew)))).mono ?_
   rintro e w8 ⟨rfl,k8⟩
   dsimp only
   have HK8:=Kz ((K_.refl wr).drew.trans k8)
   refine hK.out _ _ (fun _=> HH.out _ HK8.out) ?_
   clear hK K Z_
   try simp only [Act.put,upA,upB,upC]
   have Z_:=HH.out _ HK8.out
   refine Qx.nx 19 (fun K hK=> ?_)
   rw [if_pos (by rfl)]
   go_simp
   refine hK.out _ _ (fun h=> absurd rfl h) ?_
   clear hK K
   try simp only [Act.put,upA,upB,upC]
   refine Qx.dn ?_
   cases hx:ah (f1 k) (f1 p)
   ·have HE:=Kz (show f1=putF ah f n x by have e:=HUp.out;rw [hx] at e;simpa using e)
    go_wp2
    try simp only [Exit.inBlock,Exit.then]
    refine bodyPost_ret (results_none rfl _ _ _) rfl ?_
    exact ⟨rfl,_,_,by rw [<-HE.out,<-HFV.out];exact HF1.out.kept HK8.out,HTo.out.next (.of_kept HK8.out) hbl (HF1.out.ne)⟩
   ·have HE:=Kz (show upF ah m (swp f1 k p) p=putF ah f n x by have e:=HUp.out;rw [hx] at e;simpa using e)
    go_wp2_with fail
    refine (swapT_any _ (HF1.out.kept HK8.out) (i:=k) (j:=p) (by omega) (by omega) (by omega)).mono ?_
    rintro e w9 ⟨rfl,hF9,k9⟩
    have HF9:=Kz hF9
    have HT9:=Kz ((HTo.out.next (.of_kept HK8.out) hbl (HF1.out.ne)).next k9 hbl (HF1.out.ne))
    have HM9:Hid (∀i,i < n+1->swp f1 k p i=x∨MemH f n (swp f1 k p i)):=fun i hi=> by
     unfold swp
     split
     ·exact HMem.out p (by omega)
     ·split
      ·exact HMem.out k (by omega)
      ·exact HMem.out i hi
    clear hF9 k9
    go_wp2
    go_roundw
    case rel=> exact ⟨p,m,swp f1 k p,rfl,by omega,by omega,HF9,HE,HM9,HT9⟩
    case measure=> simp [intOf];omega
theorem takeT_any (w:World) {fid:Nat} {ah:α->α->Bool} {Ok:α->World->Prop} (h:HeapM w b o B 145 1 (fun x=> [(.pointer (some ⟨loc (x),0,none⟩))]) (.func (.func fid) #[] #[]) f (n+1) a cap) (hA:AheadM fid (fun x=> (.pointer (some ⟨loc (x),0,none⟩))) ah Ok) (hf:fid=65∨fid=66) (hok: ∀y u,MemH f (n+1) y->But (fun z=> z=b∨(Value.slice a (n+1) cap).ownBlock=some z) w u->Ok y u) (hn:n < 1000000):
  Calls Tryz.prog 123 #[.pointer (some ⟨b,o,none⟩)] w fun e w'=> e= .returned ((.pointer (some ⟨loc (f 0),0,none⟩)))∧HeapM w' b o B 145 1 (fun x=> [(.pointer (some ⟨loc (x),0,none⟩))]) (.func (.func fid) #[] #[]) (takeF ah f n) n a cap∧ToH w w' b o a (n+1) cap a n cap:=by
 obtain ⟨g,rfl,hgl,hbg,hnc⟩:=h.pos (by omega)
 have HM:=Kz h
 have HA:=Kz hA
 have HOk:=Kz hok
 have hbl:=h.lt
 have hne:=h.ne
 have c0:=h.c0
 have hn1: (n:Int)<=(cap:Int):=by omega
 have hn2: (n:Int)+1 - 1= (n:Int):=by omega
 have HSt:Hid (∀w1:World,HeapM w1 b o B 145 1 (fun x=> [(.pointer (some ⟨loc (x),0,none⟩))]) (.func (.func fid) #[] #[]) (swp f 0 n) (n+1) (some ⟨g,0,none⟩) cap->But (fun x=> (Value.slice (some ⟨g,0,none⟩) (n+1) cap).ownBlock=some x) w w1->
   (HeapM (w1.setCell ⟨b,o,none⟩ (.slice (some ⟨g,0,none⟩) n cap)) b o B 145 1 (fun x=> [(.pointer (some ⟨loc (x),0,none⟩))]) (.func (.func fid) #[] #[]) (swp f 0 n) n (some ⟨g,0,none⟩) cap∧ToH w (w1.setCell ⟨b,o,none⟩ (.slice (some ⟨g,0,none⟩) n cap)) b o (some ⟨g,0,none⟩) (n+1) cap (some ⟨g,0,none⟩) n cap)∧w1.frozen? ⟨b,o,none⟩=false):=fun w1 h1 k1=> by
  obtain ⟨j1,j2,j3,j4⟩:=h1.told (.of_kept (K_.refl w1)) (owns_less (fun _=> rfl) h1.row) h1.ne
  obtain ⟨t0,m0,hr0,hm0⟩:=h1.blk
  refine ⟨⟨j1,⟨?_,fun i hi=> (j3 i hi).trans (k1.cell hbl hne),fun t m hr=> j4 t m (k1.row hr hne),fun x hx=> .inl hx⟩⟩,(hr0.row.at (i:=o) (by omega)).2⟩
  exact (k1.mono (fun _ _ h=> .inr h)).trans j2
 clear h hA hok
 obtain ⟨fv,hfv⟩: ∃fv,fv=Value.func (.func fid) #[] #[]:= ⟨_,rfl⟩
 have HFV:=Kz hfv
 clear hfv
 rcases hf with rfl | rfl
 all_goals
  go_enter Tryz.func123,Tryz.ntmps123
  go_wp2_with fail
  refine (firstT_any w HM.out (by omega)).mono ?_
  rintro e w0 ⟨rfl,h0⟩
  obtain rfl:=h0.symm
  go_wp2_with fail
  refine (swapT_any w HM.out (i:=0) (j:=n) (by omega) (by omega) (by omega)).mono ?_
  rintro e w1 ⟨rfl,hM1,k1⟩
  obtain ⟨hJ,f0⟩:=HSt.out w1 hM1 k1
  have HJ:=Kz hJ
  have c1:=hM1.c0
  clear hM1 k1 hJ c0
  go_wp2
  generalize hw2:w1.setCell ⟨b,o,none⟩ (.slice (some ⟨g,0,none⟩) n cap)=w2 at HJ⊢
  clear hw2 f0 c1
  go_loopw [5] (fun y wr=> ∃(k m:Nat) (f1:Nat->α),y= .int .i64 (k:Int)∧k<=n∧(k < n∨n=0)∧n<=k+m∧Hid (HeapM wr b o B 145 1 (fun x=> [(.pointer (some ⟨loc (x),0,none⟩))]) fv f1 n (some ⟨g,0,none⟩) cap)∧Hid (downF ah m f1 n k=takeF ah f n)∧Hid (∀i,i < n->MemH f (n+1) (f1 i))∧Hid (ToH w wr b o (some ⟨g,0,none⟩) (n+1) cap (some ⟨g,0,none⟩) n cap)) (fun y _=> n - (intOf y).toNat)
  case atStart=>
  refine ⟨0,n,swp f 0 n,rfl,by omega,by omega,by omega,by rw [HFV.out];exact HJ.out.1,rfl,fun i hi=> ?_,HJ.out.2⟩
  unfold swp
  split
  ·exact ⟨n,by omega,rfl⟩
  ·split
   ·omega
   ·exact ⟨i,by omega,rfl⟩
  case round=>
  obtain ⟨k,m,f1,rfl,hk,hkn,hm,HF1,HD,HMem,HTo⟩:=hrel
  go_wp2_with fail
  refine (leadT_any wr (by have:=HF1.out;rw [HFV.out] at this;exact this) HA.out (by simp) (fun i hi u ku=> HOk.out _ u (HMem.out i hi) (HTo.out.but.trans (.of_kept ku))) hk (by omega)).mono ?_
  rintro e w8 ⟨rfl,k8⟩
  have HK8:=Kz k8
  clear k8
  obtain ⟨q,hq⟩: ∃q,q=leadF ah f1 n k:= ⟨_,rfl⟩
  rw [<-hq]
  by_cases hqk:q=k
  ·have HE:=Kz (show f1=takeF ah f n by
    have e:=HD.out
    cases m with
    | zero=> exact e
    | succ m=> simp only [downF] at e;rw [if_pos (hq.symm.trans hqk)] at e;exact e)
   have e0: ((q:Int) == (k:Int))=true:=by rw [hqk];simp
   clear hqk hq
   go_wp2
   go_ret
   exact ⟨rfl,by rw [<-HE.out,<-HFV.out];exact HF1.out.kept HK8.out,HTo.out.next (.of_kept HK8.out) hbl (HF1.out.ne)⟩
  ·have hqn:q < n∧k < q:=by
    rcases leadF_cases (ah:=ah) f1 n k with e | ⟨e,e1⟩ | ⟨e,e1⟩
    ·exact absurd (hq.trans e) hqk
    ·omega
    ·omega
   obtain ⟨m,rfl⟩: ∃m',m=m'+1:= ⟨m - 1,by omega⟩
   have HE:=Kz (show downF ah m (swp f1 k q) n q=takeF ah f n by
    have e:=HD.out
    simp only [downF] at e
    rw [if_neg (fun x=> hqk (hq.trans x)),<-hq] at e
    exact e)
   have e0: ((q:Int) == (k:Int))=false:=by
    have: ¬(q:Int)= (k:Int):=by omega
    simpa using this
   clear hqk hq
   go_wp2_with fail
   refine (swapT_any w8 (HF1.out.kept HK8.out) (i:=k) (j:=q) (by omega) (by omega) (by omega)).mono ?_
   rintro e w9 ⟨rfl,hF9,k9⟩
   have HF9:=Kz hF9
   have HT9:=Kz ((HTo.out.next (.of_kept HK8.out) hbl (HF1.out.ne)).next k9 hbl (HF1.out.ne))
   have HM9:Hid (∀i,i < n->MemH f (n+1) (swp f1 k q i)):=fun i hi=> by
    unfold swp
    split
    ·exact HMem.out q (by omega)
    ·split
     ·exact HMem.out k (by omega)
     ·exact HMem.out i hi
   clear hF9 k9
   go_wp2
   go_roundw
   case rel=> exact ⟨q,m,swp f1 k q,rfl,by omega,by omega,by omega,HF9,HE,HM9,HT9⟩
   case measure=> simp [intOf];omega
end
theorem Tryz.infoHI : (Tryz.prog.info? 3).map (fun i=> (i.zero,i.size,i.bytes))=some (some (.int .i64 0),1,8):=by kernel_rfl
section
variable {α : Type} {num : α -> Int} {b o B n cap : Nat} {fn : Value} {f : Nat -> α} {a : Option Addr}
theorem HeapM.cellI {w:World} {g:Nat} (h:HeapM w b o B 3 1 (fun x=> [(.int .i64 (num (x)))]) fn f n (some ⟨g,0,none⟩) cap) {i:Nat} (hi:i < n):w.cell? ⟨g,i,none⟩=some ((.int .i64 (num (f i)))):=by
 have:=h.at hi (j:=0) (by omega)
 rw [Nat.mul_one] at this
 exact this
theorem emptyI_any (w:World) (h:HeapM w b o B 3 1 (fun x=> [(.int .i64 (num (x)))]) fn f n a cap):
  Calls Tryz.prog 124 #[.pointer (some ⟨b,o,none⟩)] w fun e w'=> e= .returned (.bool (decide (n=0)))∧w'=w:=by
 have c0:=h.c0
 have hn: ((n:Int) == 0)=decide (n=0):=by
  by_cases e:n=0
  ·subst e;rfl
  ·rw [decide_eq_false e];simpa using e
 go_enter Tryz.func124,Tryz.ntmps124
 go_wp2
 go_ret
 exact ⟨rfl,rfl⟩
theorem firstI_any (w:World) (h:HeapM w b o B 3 1 (fun x=> [(.int .i64 (num (x)))]) fn f n a cap) (hn:0 < n):
  Calls Tryz.prog 158 #[.pointer (some ⟨b,o,none⟩)] w fun e w'=> e= .returned ((.int .i64 (num (f 0))))∧w'=w:=by
 obtain ⟨g,rfl,hgl,hbg,hnc⟩:=h.pos hn
 have c0:=h.c0
 have c1:=h.cellI hn
 have hi: (0:Int) < (n:Int):=by omega
 go_enter Tryz.func158,Tryz.ntmps158
 go_wp2
 go_ret
 exact ⟨rfl,rfl⟩
theorem swapI_any (w:World) (h:HeapM w b o B 3 1 (fun x=> [(.int .i64 (num (x)))]) fn f n a cap) {i j:Nat} (hi:i < n) (hj:j < n) (hn:n<=1000000):
  Calls Tryz.prog 116 #[.pointer (some ⟨b,o,none⟩),.int .i64 (i:Int),.int .i64 (j:Int)] w fun e w'=> e= .returned (.tuple #[])∧HeapM w' b o B 3 1 (fun x=> [(.int .i64 (num (x)))]) fn (swp f i j) n a cap∧But (fun x=> (Value.slice a n cap).ownBlock=some x) w w':=by
 obtain ⟨g,rfl,hgl,hbg,hnc⟩:=h.pos (by omega)
 have HH:Hid (∀u,K_ w u->(u.cell? ⟨b,o,none⟩=some (.slice (some ⟨g,0,none⟩) n cap)∧u.cell? ⟨g,i,none⟩=some ((.int .i64 (num (f i))))∧u.cell? ⟨g,j,none⟩=some ((.int .i64 (num (f j)))))):=fun u k=> ⟨(k.cell h.lt).trans h.c0,(k.cell hgl).trans (h.cellI hi),(k.cell hgl).trans (h.cellI hj)⟩
 have hi': (i:Int) < (n:Int):=by omega
 have hj': (j:Int) < (n:Int):=by omega
 obtain ⟨wd,hwd⟩: ∃wd,wd=w.drew:= ⟨_,rfl⟩
 have kd:K_ w wd:=by rw [hwd];exact (K_.refl w).drew
 have HWD:=Kz hwd
 clear hwd
 have hd:=h.kept kd
 have fi:=hd.row.frozenAt i
 have ci:=hd.cellI hi
 obtain ⟨w1,hw1⟩: ∃w1,w1=wd.setCell ⟨g,i,none⟩ ((.int .i64 (num (f j)))):= ⟨_,rfl⟩
 have h1:HeapM w1 b o B 3 1 (fun x=> [(.int .i64 (num (x)))]) fn (fun k=> if k=i then f j else f k) n (some ⟨g,0,none⟩) cap:=by have:=hd.set hi (f j);rw [Nat.mul_one] at this;rw [hw1];exact this
 have fj:=h1.row.frozenAt j
 have cj:=h1.cellI hj
 have HFin:Hid (HeapM (w1.setCell ⟨g,j,none⟩ ((.int .i64 (num (f i))))) b o B 3 1 (fun x=> [(.int .i64 (num (x)))]) fn (swp f i j) n (some ⟨g,0,none⟩) cap∧But (fun x=> (Value.slice (some ⟨g,0,none⟩) n cap).ownBlock=some x) w (w1.setCell ⟨g,j,none⟩ ((.int .i64 (num (f i)))))):=by
  have:=hd.swap hi hj
  simp only [Nat.mul_one] at this
  rw [hw1]
  exact ⟨this,((But.of_kept (S:=fun x=> (Value.slice (some ⟨g,0,none⟩) n cap).ownBlock=some x) kd).set (p:= ⟨g,i,none⟩) rfl _).set (p:= ⟨g,j,none⟩) rfl _⟩
 have HW1:=Kz hw1
 clear h hd h1 kd hw1
 go_enter Tryz.func116,Tryz.ntmps116
 go_wp2
 refine UpZ.region (by kernel_rfl) (fun u=> u.cell? ⟨b,o,none⟩=some (.slice (some ⟨g,0,none⟩) n cap)∧u.cell? ⟨g,i,none⟩=some ((.int .i64 (num (f i))))∧u.cell? ⟨g,j,none⟩=some ((.int .i64 (num (f j))))) [25,27] (HH.out _ (K_.refl w).drew) (fun Z_=> ?_)
 rw [<-HWD.out] at Z_⊢
 refine UpZ.take 0 [1,2,3,24,25,26,27] (v:= ?_) (by (simp only [List.getElem?_toArray,List.getElem?_cons_zero];rfl)) (by kernel_rfl) (by kernel_rfl) (by kernel_rfl) (by kernel_rfl) (by exact fun _ _ _ h=> h) (Or.inl ⟨by rfl, ?_⟩) Z_ ?_
 rotate_left
 ·intro u hu
  try dsimp only at hu
  go_simp
  try with_reducible rfl
 try simp only [Act.put,upA,upB,upC]
 refine UpZ.take 1 [2,3,24,25,26,27] (v:= ?_) (by (simp only [List.getElem?_toArray,List.getElem?_cons_succ,List.getElem?_cons_zero];rfl)) (by kernel_rfl) (by kernel_rfl) (by kernel_rfl) (by kernel_rfl) (by exact fun _ _ _ h=> h) (Or.inl ⟨by rfl, ?_⟩) Z_ ?_
 rotate_left
 ·intro u hu
  try dsimp only at hu
  go_simp
  try with_reducible rfl
 try simp only [Act.put,upA,upB,upC]
 refine UpZ.take 2 [3,24,25,26,27] (v:= ?_) (by (simp only [List.getElem?_toArray,List.getElem?_cons_succ,List.getElem?_cons_zero];rfl)) (by kernel_rfl) (by kernel_rfl) (by kernel_rfl) (by kernel_rfl) (by exact fun _ _ _ h=> h) (Or.inl ⟨by rfl, ?_⟩) Z_ ?_
 rotate_left
 ·intro u hu
  try dsimp only at hu
  go_simp
  try with_reducible rfl
 try simp only [Act.put,upA,upB,upC]
 refine UpZ.take 3 [24,25,26,27] (v:= ?_) (by (simp only [List.getElem?_toArray,List.getElem?_cons_succ,List.getElem?_cons_zero];rfl)) (by kernel_rfl) (by kernel_rfl) (by kernel_rfl) (by kernel_rfl) (by exact fun _ _ _ h=> h) (Or.inl ⟨by rfl, ?_⟩) Z_ ?_
 rotate_left
 ·intro u hu
  try dsimp only at hu
  go_simp
  try with_reducible rfl
 try simp only [Act.put,upA,upB,upC]
 refine UpZ.take 4 [24,25,26,27] (v:= ?_) (by (simp only [List.getElem?_toArray,List.getElem?_cons_succ,List.getElem?_cons_zero];rfl)) (by kernel_rfl) (by kernel_rfl) (by kernel_rfl) (by kernel_rfl) (by exact fun _ _ _ h=> h) (Or.inl ⟨by rfl, ?_⟩) Z_ ?_
 rotate_left
 ·intro u hu
  try dsimp only at hu
  go_simp
  try with_reducible rfl
 try simp only [Act.put,upA,upB,upC]
 refine UpZ.take 5 [6,7,8,24,25,26,27] (v:= ?_) (by (simp only [List.getElem?_toArray,List.getElem?_cons_succ,List.getElem?_cons_zero];rfl)) (by kernel_rfl) (by kernel_rfl) (by kernel_rfl) (by kernel_rfl) (by exact fun _ _ _ h=> h) (Or.inl ⟨by rfl, ?_⟩) Z_ ?_
 rotate_left
 ·intro u hu
  try dsimp only at hu
  go_simp
  try with_reducible rfl
 try simp only [Act.put,upA,upB,upC]
 refine UpZ.take 6 [7,8,24,25,26,27] (v:= ?_) (by (simp only [List.getElem?_toArray,List.getElem?_cons_succ,List.getElem?_cons_zero];rfl)) (by kernel_rfl) (by kernel_rfl) (by kernel_rfl) (by kernel_rfl) (by exact fun _ _ _ h=> h) (Or.inl ⟨by rfl, ?_⟩) Z_ ?_
 rotate_left
 ·intro u hu
  try dsimp only at hu
  go_simp
  try with_reducible rfl
 try simp only [Act.put,upA,upB,upC]
 refine UpZ.take 7 [8,24,25,26,27] (v:= ?_) (by (simp only [List.getElem?_toArray,List.getElem?_cons_succ,List.getElem?_cons_zero];rfl)) (by kernel_rfl) (by kernel_rfl) (by kernel_rfl) (by kernel_rfl) (by exact fun _ _ _ h=> h) (Or.inl ⟨by rfl, ?_⟩) Z_ ?_
 rotate_left
 ·intro u hu
  try dsimp only at hu
  go_simp
  try with_reducible rfl
 try simp only [Act.put,upA,upB,upC]
 refine UpZ.take 8 [24,25,26,27] (v:= ?_) (by (simp only [List.getElem?_toArray,List.getElem?_cons_succ,List.getElem?_cons_zero];rfl)) (by kernel_rfl) (by kernel_rfl) (by kernel_rfl) (by kernel_rfl) (by exact fun _ _ _ h=> h) (Or.inl ⟨by rfl, ?_⟩) Z_ ?_
 rotate_left
 ·intro u hu
  try dsimp only at hu
  go_simp
  try with_reducible rfl
 try simp only [Act.put,upA,upB,upC]
 refine UpZ.pure 9 (v:= ?_) (by (simp only [List.getElem?_toArray,List.getElem?_cons_succ,List.getElem?_cons_zero];rfl)) (by kernel_rfl) (by kernel_rfl) (by kernel_rfl) (by exact fun _ _ _ h=> h) (Or.inl ⟨by rfl, ?_⟩) ?_
 rotate_left
 ·intro u hu
  go_simp
  try with_reducible rfl
 try simp only [Act.put,upA,upB,upC]
 refine UpZ.take 10 [11,12,13,15,16,24,25,26,27] (v:= ?_) (by (simp only [List.getElem?_toArray,List.getElem?_cons_succ,List.getElem?_cons_zero];rfl)) (by kernel_rfl) (by kernel_rfl) (by kernel_rfl) (by kernel_rfl) (by exact fun _ _ _ h=> h) (Or.inl ⟨by rfl, ?_⟩) Z_ ?_
 rotate_left
 ·intro u hu
  try dsimp only at hu
  go_simp
  try with_reducible rfl
 try simp only [Act.put,upA,upB,upC]
 refine UpZ.take 11 [12,13,15,16,24,25,26,27] (v:= ?_) (by (simp only [List.getElem?_toArray,List.getElem?_cons_succ,List.getElem?_cons_zero];rfl)) (by kernel_rfl) (by kernel_rfl) (by kernel_rfl) (by kernel_rfl) (by exact fun _ _ _ h=> h) (Or.inl ⟨by rfl, ?_⟩) Z_ ?_
 rotate_left
 ·intro u hu
  try dsimp only at hu
  go_simp
  try with_reducible rfl
 try simp only [Act.put,upA,upB,upC]
 refine UpZ.take 12 [13,15,16,24,25,26,27] (v:= ?_) (by (simp only [List.getElem?_toArray,List.getElem?_cons_succ,List.getElem?_cons_zero];rfl)) (by kernel_rfl) (by kernel_rfl) (by kernel_rfl) (by kernel_rfl) (by exact fun _ _ _ h=> h) (Or.inl ⟨by rfl, ?_⟩) Z_ ?_
 rotate_left
 ·intro u hu
  try dsimp only at hu
  go_simp
  try with_reducible rfl
 try simp only [Act.put,upA,upB,upC]
 refine UpZ.take 13 [15,16,24,25,26,27] (v:= ?_) (by (simp only [List.getElem?_toArray,List.getElem?_cons_succ,List.getElem?_cons_zero];rfl)) (by kernel_rfl) (by kernel_rfl) (by kernel_rfl) (by kernel_rfl) (by exact fun _ _ _ h=> h) (Or.inl ⟨by rfl, ?_⟩) Z_ ?_
 rotate_left
 ·intro u hu
  try dsimp only at hu
  go_simp
  try with_reducible rfl
 try simp only [Act.put,upA,upB,upC]
 refine UpZ.take 14 [15,16,24,25,26,27] (v:= ?_) (by (simp only [List.getElem?_toArray,List.getElem?_cons_succ,List.getElem?_cons_zero];rfl)) (by kernel_rfl) (by kernel_rfl) (by kernel_rfl) (by kernel_rfl) (by exact fun _ _ _ h=> h) (Or.inl ⟨by rfl, ?_⟩) Z_ ?_
 rotate_left
 ·intro u hu
  try dsimp only at hu
  go_simp
  try with_reducible rfl
 try simp only [Act.put,upA,upB,upC]
 refine UpZ.take 15 [16,24,25,26,27] (v:= ?_) (by (simp only [List.getElem?_toArray,List.getElem?_cons_succ,List.getElem?_cons_zero];rfl)) (by kernel_rfl) (by kernel_rfl) (by kernel_rfl) (by kernel_rfl) (by exact fun _ _ _ h=> h) (Or.inl ⟨by rfl, ?_⟩) Z_ ?_
 rotate_left
 ·intro u hu
  try dsimp only at hu
  go_simp
  try with_reducible rfl
 try simp only [Act.put,upA,upB,upC]
 refine UpZ.take 16 [24,25,26,27] (v:= ?_) (by (simp only [List.getElem?_toArray,List.getElem?_cons_succ,List.getElem?_cons_zero];rfl)) (by kernel_rfl) (by kernel_rfl) (by kernel_rfl) (by kernel_rfl) (by exact fun _ _ _ h=> h) (Or.inl ⟨by rfl, ?_⟩) Z_ ?_
 rotate_left
 ·intro u hu
  try dsimp only at hu
  go_simp
  try with_reducible rfl
 try simp only [Act.put,upA,upB,upC]
 refine UpZ.take 17 [18,19,20,22,23,24,25,26,27] (v:= ?_) (by (simp only [List.getElem?_toArray,List.getElem?_cons_succ,List.getElem?_cons_zero];rfl)) (by kernel_rfl) (by kernel_rfl) (by kernel_rfl) (by kernel_rfl) (by exact fun _ _ _ h=> h) (Or.inl ⟨by rfl, ?_⟩) Z_ ?_
 rotate_left
 ·intro u hu
  try dsimp only at hu
  go_simp
  try with_reducible rfl
 try simp only [Act.put,upA,upB,upC]
 refine UpZ.take 18 [19,20,22,23,24,25,26,27] (v:= ?_) (by (simp only [List.getElem?_toArray,List.getElem?_cons_succ,List.getElem?_cons_zero];rfl)) (by kernel_rfl) (by kernel_rfl) (by kernel_rfl) (by kernel_rfl) (by exact fun _ _ _ h=> h) (Or.inl ⟨by rfl, ?_⟩) Z_ ?_
 rotate_left
 ·intro u hu
  try dsimp only at hu
  go_simp
  try with_reducible rfl
 try simp only [Act.put,upA,upB,upC]
 refine UpZ.take 19 [20,22,23,24,25,26,27] (v:= ?_) (by (simp only [List.getElem?_toArray,List.getElem?_cons_succ,List.getElem?_cons_zero];rfl)) (by kernel_rfl) (by kernel_rfl) (by kernel_rfl) (by kernel_rfl) (by exact fun _ _ _ h=> h) (Or.inl ⟨by rfl, ?_⟩) Z_ ?_
 rotate_left
 ·intro u hu
  try dsimp only at hu
  go_simp
  try with_reducible rfl
 try simp only [Act.put,upA,upB,upC]
 refine UpZ.take 20 [22,23,24,25,26,27] (v:= ?_) (by (simp only [List.getElem?_toArray,List.getElem?_cons_succ,List.getElem?_cons_zero];rfl)) (by kernel_rfl) (by kernel_rfl) (by kernel_rfl) (by kernel_rfl) (by exact fun _ _ _ h=> h) (Or.inl ⟨by rfl, ?_⟩) Z_ ?_
 rotate_left
 ·intro u hu
  try dsimp only at hu
  go_simp
  try with_reducible rfl
 try simp only [Act.put,upA,upB,upC]
 refine UpZ.take 21 [22,23,24,25,26,27] (v:= ?_) (by (simp only [List.getElem?_toArray,List.getElem?_cons_succ,List.getElem?_cons_zero];rfl)) (by kernel_rfl) (by kernel_rfl) (by kernel_rfl) (by kernel_rfl) (by exact fun _ _ _ h=> h) (Or.inl ⟨by rfl, ?_⟩) Z_ ?_
 rotate_left
 ·intro u hu
  try dsimp only at hu
  go_simp
  try with_reducible rfl
 try simp only [Act.put,upA,upB,upC]
 refine UpZ.take 22 [23,24,25,26,27] (v:= ?_) (by (simp only [List.getElem?_toArray,List.getElem?_cons_succ,List.getElem?_cons_zero];rfl)) (by kernel_rfl) (by kernel_rfl) (by kernel_rfl) (by kernel_rfl) (by exact fun _ _ _ h=> h) (Or.inl ⟨by rfl, ?_⟩) Z_ ?_
 rotate_left
 ·intro u hu
  try dsimp only at hu
  go_simp
  try with_reducible rfl
 try simp only [Act.put,upA,upB,upC]
 refine UpZ.take 23 [24,25,26,27] (v:= ?_) (by (simp only [List.getElem?_toArray,List.getElem?_cons_succ,List.getElem?_cons_zero];rfl)) (by kernel_rfl) (by kernel_rfl) (by kernel_rfl) (by kernel_rfl) (by exact fun _ _ _ h=> h) (Or.inl ⟨by rfl, ?_⟩) Z_ ?_
 rotate_left
 ·intro u hu
  try dsimp only at hu
  go_simp
  try with_reducible rfl
 try simp only [Act.put,upA,upB,upC]
 refine UpZ.take 24 [25,26,27] (v:= ?_) (by (simp only [List.getElem?_toArray,List.getElem?_cons_succ,List.getElem?_cons_zero];rfl)) (by kernel_rfl) (by kernel_rfl) (by kernel_rfl) (by kernel_rfl) (by exact fun _ _ _ h=> h) (Or.inl ⟨by rfl, ?_⟩) Z_ ?_
 rotate_left
 ·intro u hu
  try dsimp only at hu
  go_simp
  try with_reducible rfl
 try simp only [Act.put,upA,upB,upC]
 refine UpZ.next 25 (by kernel_rfl) (by (simp only [List.getElem?_toArray,List.getElem?_cons_succ,List.getElem?_cons_zero];rfl)) (fun K hK=> ?_)
 rw [if_pos (by rfl)]
 go_simp
 rw [<-HW1.out]
 refine hK.out _ _ (fun h=> absurd (by decide) h) ?_
 clear hK K
 try simp only [Act.put,upA,upB,upC]
 refine UpZ.pure 26 (v:= ?_) (by (simp only [List.getElem?_toArray,List.getElem?_cons_succ,List.getElem?_cons_zero];rfl)) (by kernel_rfl) (by kernel_rfl) (by kernel_rfl) (by exact fun _ _ _ h=> h) (Or.inl ⟨by rfl, ?_⟩) ?_
 rotate_left
 ·intro u hu
  go_simp
  try with_reducible rfl
 try simp only [Act.put,upA,upB,upC]
 refine UpZ.next 27 (by kernel_rfl) (by (simp only [List.getElem?_toArray,List.getElem?_cons_succ,List.getElem?_cons_zero];rfl)) (fun K hK=> ?_)
 rw [if_pos (by rfl)]
 go_simp
 refine hK.out _ _ (fun h=> absurd (by decide) h) ?_
 clear hK K
 try simp only [Act.put,upA,upB,upC]
 refine UpZ.done (by kernel_rfl) ?_
 go_wp2
 go_end0
 exact ⟨rfl,HFin.out.1,HFin.out.2⟩
def LookI (num:α->Int) (fid b o g n cap:Nat) (f:Nat->α) (q p:Nat) (u:World):Prop:=u.cell? ⟨b,o+1,none⟩=some (.func (.func fid) #[] #[])∧u.cell? ⟨b,o,none⟩=some (.slice (some ⟨g,0,none⟩) n cap)∧u.cell? ⟨g,q,none⟩=some ((.int .i64 (num (f q))))∧u.cell? ⟨g,p,none⟩=some ((.int .i64 (num (f p))))
theorem leadI_any (w:World) {fid:Nat} {ah:α->α->Bool} {Ok:α->World->Prop} (h:HeapM w b o B 3 1 (fun x=> [(.int .i64 (num (x)))]) (.func (.func fid) #[] #[]) f n a cap) (hA:AheadM fid (fun x=> (.int .i64 (num (x)))) ah Ok) (hf:fid=68) (hok: ∀i,i < n->∀u,K_ w u->Ok (f i) u) {k:Nat} (hk:k<=n) (hn:n<=1000000):
  Calls Tryz.prog 159 #[.pointer (some ⟨b,o,none⟩),.int .i64 (k:Int)] w fun e w'=> e= .returned (.int .i64 (leadF ah f n k:Nat))∧K_ w w':=by
 have HM:=Kz h
 have HA:=Kz hA
 have HOk:=Kz hok
 clear h hA hok
 subst hf
 all_goals
  go_enter Tryz.func159,Tryz.ntmps159
  go_wp2
  go_loopw [5,6] (fun x y wr=> ∃p q:Nat,x= .int .i64 (p:Int)∧y= .int .i64 (q:Int)∧Hid (LedAtH ah f n k q p)∧Hid (K_ w wr)) (fun _ y _=> 2 * k+3 - (intOf y).toNat)
  case atStart=> exact ⟨k,2 * k+1,rfl,by go_num,.inl ⟨rfl,rfl⟩,K_.refl w⟩
  case round=>
   obtain ⟨p,q,rfl,rfl,HL,HKr⟩:=hrel
   have c0:= (HM.out.kept HKr.out).c0
   by_cases hc:q<=2 * k+2∧q < n
   ·have hq1: (q:Int)<=2 * (k:Int)+2:=by omega
    have hq2: (q:Int) < (n:Int):=by omega
    obtain ⟨g,rfl,hgl,hbg,hnc⟩:=HM.out.pos (by omega)
    have hpn:p < n:=by
     rcases HL.out with ⟨h1,h2⟩ | ⟨h1,h2⟩ | ⟨h1,h2⟩
     ·omega
     ·rw [h2];unfold lead1;split <;> omega
     ·omega
    have hp1: (p:Int) < (n:Int):=by omega
    have HH:Hid (∀u,K_ w u->LookI num _ b o g n cap f q p u):=fun u k=> ⟨((HM.out.kept k)).c1,((HM.out.kept k)).c0,(HM.out.kept k).cellI hc.2,(HM.out.kept k).cellI hpn⟩
    go_wp2
    refine Qx.region (by kernel_rfl) _ 18 (HH.out _ (HKr.out.drew)) (fun Z_=> ?_)
    refine Qx.take 0 [1,2,3,18] (v:= ?_) (by (simp only [List.getElem?_toArray,List.getElem?_cons_zero];rfl)) (by kernel_rfl) (by kernel_rfl) (by kernel_rfl) (by kernel_rfl) (by exact fun _ _ _ h=> h) (Or.inl ⟨by rfl, ?_⟩) Z_ ?_
    rotate_left
    ·intro u hu
     obtain ⟨hu1,hu2,hu3,hu4⟩:=hu
     go_simp
     try with_reducible rfl
    try simp only [Act.put,upA,upB,upC]
    refine Qx.take 1 [2,3,18] (v:= ?_) (by (simp only [List.getElem?_toArray,List.getElem?_cons_succ,List.getElem?_cons_zero];rfl)) (by kernel_rfl) (by kernel_rfl) (by kernel_rfl) (by kernel_rfl) (by exact fun _ _ _ h=> h) (Or.inl ⟨by rfl, ?_⟩) Z_ ?_
    rotate_left
    ·intro u hu
     obtain ⟨hu1,hu2,hu3,hu4⟩:=hu
     go_simp
     try with_reducible rfl
    try simp only [Act.put,upA,upB,upC]
    refine Qx.take 2 [3,18] (v:= ?_) (by (simp only [List.getElem?_toArray,List.getElem?_cons_succ,List.getElem?_cons_zero];rfl)) (by kernel_rfl) (by kernel_rfl) (by kernel_rfl) (by kernel_rfl) (by exact fun _ _ _ h=> h) (Or.inl ⟨by rfl, ?_⟩) Z_ ?_
    rotate_left
    ·intro u hu
     obtain ⟨hu1,hu2,hu3,hu4⟩:=hu
     go_simp
     try with_reducible rfl
    try simp only [Act.put,upA,upB,upC]
    refine Qx.take 3 [18] (v:= ?_) (by (simp only [List.getElem?_toArray,List.getElem?_cons_succ,List.getElem?_cons_zero];rfl)) (by kernel_rfl) (by kernel_rfl) (by kernel_rfl) (by kernel_rfl) (by exact fun _ _ _ h=> h) (Or.inl ⟨by rfl, ?_⟩) Z_ ?_
    rotate_left
    ·intro u hu
     obtain ⟨hu1,hu2,hu3,hu4⟩:=hu
     go_simp
     try with_reducible rfl
    try simp only [Act.put,upA,upB,upC]
    refine Qx.take 4 [5,6,7,9,10,18] (v:= ?_) (by (simp only [List.getElem?_toArray,List.getElem?_cons_succ,List.getElem?_cons_zero];rfl)) (by kernel_rfl) (by kernel_rfl) (by kernel_rfl) (by kernel_rfl) (by exact fun _ _ _ h=> h) (Or.inl ⟨by rfl, ?_⟩) Z_ ?_
    rotate_left
    ·intro u hu
     obtain ⟨hu1,hu2,hu3,hu4⟩:=hu
     go_simp
     try with_reducible rfl
    try simp only [Act.put,upA,upB,upC]
    refine Qx.take 5 [6,7,9,10,18] (v:= ?_) (by (simp only [List.getElem?_toArray,List.getElem?_cons_succ,List.getElem?_cons_zero];rfl)) (by kernel_rfl) (by kernel_rfl) (by kernel_rfl) (by kernel_rfl) (by exact fun _ _ _ h=> h) (Or.inl ⟨by rfl, ?_⟩) Z_ ?_
    rotate_left
    ·intro u hu
     obtain ⟨hu1,hu2,hu3,hu4⟩:=hu
     go_simp
     try with_reducible rfl
    try simp only [Act.put,upA,upB,upC]
    refine Qx.take 6 [7,9,10,18] (v:= ?_) (by (simp only [List.getElem?_toArray,List.getElem?_cons_succ,List.getElem?_cons_zero];rfl)) (by kernel_rfl) (by kernel_rfl) (by kernel_rfl) (by kernel_rfl) (by exact fun _ _ _ h=> h) (Or.inl ⟨by rfl, ?_⟩) Z_ ?_
    rotate_left
    ·intro u hu
     obtain ⟨hu1,hu2,hu3,hu4⟩:=hu
     go_simp
     try with_reducible rfl
    try simp only [Act.put,upA,upB,upC]
    refine Qx.take 7 [9,10,18] (v:= ?_) (by (simp only [List.getElem?_toArray,List.getElem?_cons_succ,List.getElem?_cons_zero];rfl)) (by kernel_rfl) (by kernel_rfl) (by kernel_rfl) (by kernel_rfl) (by exact fun _ _ _ h=> h) (Or.inl ⟨by rfl, ?_⟩) Z_ ?_
    rotate_left
    ·intro u hu
     obtain ⟨hu1,hu2,hu3,hu4⟩:=hu
     go_simp
     try with_reducible rfl
    try simp only [Act.put,upA,upB,upC]
    refine Qx.take 8 [9,10,18] (v:= ?_) (by (simp only [List.getElem?_toArray,List.getElem?_cons_succ,List.getElem?_cons_zero];rfl)) (by kernel_rfl) (by kernel_rfl) (by kernel_rfl) (by kernel_rfl) (by exact fun _ _ _ h=> h) (Or.inl ⟨by rfl, ?_⟩) Z_ ?_
    rotate_left
    ·intro u hu
     obtain ⟨hu1,hu2,hu3,hu4⟩:=hu
     go_simp
     try with_reducible rfl
    try simp only [Act.put,upA,upB,upC]
    refine Qx.take 9 [10,18] (v:= ?_) (by (simp only [List.getElem?_toArray,List.getElem?_cons_succ,List.getElem?_cons_zero];rfl)) (by kernel_rfl) (by kernel_rfl) (by kernel_rfl) (by kernel_rfl) (by exact fun _ _ _ h=> h) (Or.inl ⟨by rfl, ?_⟩) Z_ ?_
    rotate_left
    ·intro u hu
     obtain ⟨hu1,hu2,hu3,hu4⟩:=hu
     go_simp
     try with_reducible rfl
    try simp only [Act.put,upA,upB,upC]
    refine Qx.take 10 [18] (v:= ?_) (by (simp only [List.getElem?_toArray,List.getElem?_cons_succ,List.getElem?_cons_zero];rfl)) (by kernel_rfl) (by kernel_rfl) (by kernel_rfl) (by kernel_rfl) (by exact fun _ _ _ h=> h) (Or.inl ⟨by rfl, ?_⟩) Z_ ?_
    rotate_left
    ·intro u hu
     obtain ⟨hu1,hu2,hu3,hu4⟩:=hu
     go_simp
     try with_reducible rfl
    try simp only [Act.put,upA,upB,upC]
    refine Qx.take 11 [12,13,14,16,17,18] (v:= ?_) (by (simp only [List.getElem?_toArray,List.getElem?_cons_succ,List.getElem?_cons_zero];rfl)) (by kernel_rfl) (by kernel_rfl) (by kernel_rfl) (by kernel_rfl) (by exact fun _ _ _ h=> h) (Or.inl ⟨by rfl, ?_⟩) Z_ ?_
    rotate_left
    ·intro u hu
     obtain ⟨hu1,hu2,hu3,hu4⟩:=hu
     go_simp
     try with_reducible rfl
    try simp only [Act.put,upA,upB,upC]
    refine Qx.take 12 [13,14,16,17,18] (v:= ?_) (by (simp only [List.getElem?_toArray,List.getElem?_cons_succ,List.getElem?_cons_zero];rfl)) (by kernel_rfl) (by kernel_rfl) (by kernel_rfl) (by kernel_rfl) (by exact fun _ _ _ h=> h) (Or.inl ⟨by rfl, ?_⟩) Z_ ?_
    rotate_left
    ·intro u hu
     obtain ⟨hu1,hu2,hu3,hu4⟩:=hu
     go_simp
     try with_reducible rfl
    try simp only [Act.put,upA,upB,upC]
    refine Qx.take 13 [14,16,17,18] (v:= ?_) (by (simp only [List.getElem?_toArray,List.getElem?_cons_succ,List.getElem?_cons_zero];rfl)) (by kernel_rfl) (by kernel_rfl) (by kernel_rfl) (by kernel_rfl) (by exact fun _ _ _ h=> h) (Or.inl ⟨by rfl, ?_⟩) Z_ ?_
    rotate_left
    ·intro u hu
     obtain ⟨hu1,hu2,hu3,hu4⟩:=hu
     go_simp
     try with_reducible rfl
    try simp only [Act.put,upA,upB,upC]
    refine Qx.take 14 [16,17,18] (v:= ?_) (by (simp only [List.getElem?_toArray,List.getElem?_cons_succ,List.getElem?_cons_zero];rfl)) (by kernel_rfl) (by kernel_rfl) (by kernel_rfl) (by kernel_rfl) (by exact fun _ _ _ h=> h) (Or.inl ⟨by rfl, ?_⟩) Z_ ?_
    rotate_left
    ·intro u hu
     obtain ⟨hu1,hu2,hu3,hu4⟩:=hu
     go_simp
     try with_reducible rfl
    try simp only [Act.put,upA,upB,upC]
    refine Qx.take 15 [16,17,18] (v:= ?_) (by (simp only [List.getElem?_toArray,List.getElem?_cons_succ,List.getElem?_cons_zero];rfl)) (by kernel_rfl) (by kernel_rfl) (by kernel_rfl) (by kernel_rfl) (by exact fun _ _ _ h=> h) (Or.inl ⟨by rfl, ?_⟩) Z_ ?_
    rotate_left
    ·intro u hu
     obtain ⟨hu1,hu2,hu3,hu4⟩:=hu
     go_simp
     try with_reducible rfl
    try simp only [Act.put,upA,upB,upC]
    refine Qx.take 16 [17,18] (v:= ?_) (by (simp only [List.getElem?_toArray,List.getElem?_cons_succ,List.getElem?_cons_zero];rfl)) (by kernel_rfl) (by kernel_rfl) (by kernel_rfl) (by kernel_rfl) (by exact fun _ _ _ h=> h) (Or.inl ⟨by rfl, ?_⟩) Z_ ?_
    rotate_left
    ·intro u hu
     obtain ⟨hu1,hu2,hu3,hu4⟩:=hu
     go_simp
     try with_reducible rfl
    try simp only [Act.put,upA,upB,upC]
    refine Qx.take 17 [18] (v:= ?_) (by (simp only [List.getElem?_toArray,List.getElem?_cons_succ,List.getElem?_cons_zero];rfl)) (by kernel_rfl) (by kernel_rfl) (by kernel_rfl) (by kernel_rfl) (by exact fun _ _ _ h=> h) (Or.inl ⟨by rfl, ?_⟩) Z_ ?_
    rotate_left
    ·intro u hu
     obtain ⟨hu1,hu2,hu3,hu4⟩:=hu
     go_simp
     try with_reducible rfl
    try simp only [Act.put,upA,upB,upC]
    refine Qx.nx 18 (fun K hK=> ?_)
    rw [if_pos (by rfl)]
    go_simp
    refine (HA.out (f q) (f p) _ (HOk.out q (by omega) _ HKr.out.drew) (HOk.out p (by omega) _ HKr.out.drew)).mono ?_
    rintro e w8 ⟨rfl,k8⟩
    dsimp only
    have HK8:=Kz (HKr.out.drew.trans k8)
    refine hK.out _ _ (fun h=> absurd rfl h) ?_
    clear hK K
    try simp only [Act.put,upA,upB,upC]
    refine Qx.dn ?_
    cases hx:ah (f q) (f p)
    ·have HN:Hid (LedAtH ah f n k (q+1) p):=by
      rcases HL.out with ⟨h1,h2⟩ | ⟨h1,h2⟩ | ⟨h1,h2⟩
      ·exact .inr (.inl ⟨by omega,by unfold lead1;rw [if_neg (by rw [<-h1,<-h2,hx];simp)];exact h2⟩)
      ·exact .inr (.inr ⟨by omega,by unfold leadF;rw [if_neg (by rw [<-h1,<-h2,hx];simp)];exact h2⟩)
      ·omega
     go_wp2
     go_roundw
     case rel=> exact ⟨p,q+1,rfl,by go_num,HN,HK8⟩
     case measure=> simp [intOf];omega
    ·have HN:Hid (LedAtH ah f n k (q+1) q):=by
      rcases HL.out with ⟨h1,h2⟩ | ⟨h1,h2⟩ | ⟨h1,h2⟩
      ·exact .inr (.inl ⟨by omega,by unfold lead1;rw [if_pos ⟨by omega,by rw [<-h1,<-h2,hx]⟩];exact h1⟩)
      ·exact .inr (.inr ⟨by omega,by unfold leadF;rw [if_pos ⟨by omega,by rw [<-h1,<-h2,hx]⟩];exact h1⟩)
      ·omega
     go_wp2
     go_roundw
     case rel=> exact ⟨q,q+1,rfl,by go_num,HN,HK8⟩
     case measure=> simp [intOf];omega
   ·have hE:Hid (p=leadF ah f n k):=by
     show _=_
     rcases HL.out with ⟨h1,h2⟩ | ⟨h1,h2⟩ | ⟨h1,h2⟩
     ·unfold leadF lead1;rw [if_neg (by omega),if_neg (by omega)];exact h2
     ·unfold leadF;rw [if_neg (by omega)];exact h2
     ·exact h2
    by_cases hq:q<=2 * k+2
    ·have hq1: (q:Int)<=2 * (k:Int)+2:=by omega
     have hq2: ¬(q:Int) < (n:Int):=by omega
     go_wp2
     go_ret
     exact ⟨by rw [hE.out];rfl,HKr.out⟩
    ·have hq1: ¬(q:Int)<=2 * (k:Int)+2:=by omega
     go_wp2
     go_ret
     exact ⟨by rw [hE.out];rfl,HKr.out⟩
theorem putI_any (w:World) {fid:Nat} {ah:α->α->Bool} {Ok:α->World->Prop} (h:HeapM w b o B 3 1 (fun x=> [(.int .i64 (num (x)))]) (.func (.func fid) #[] #[]) f n a cap) (hA:AheadM fid (fun x=> (.int .i64 (num (x)))) ah Ok) (hf:fid=68) (x:α) (hok: ∀y u,(y=x∨MemH f n y)->But (fun z=> z=b∨(Value.slice a n cap).ownBlock=some z) w u->Ok y u) (hn:n < 1000000) (hB:B<=w.heap.size):
  Calls Tryz.prog 69 #[.pointer (some ⟨b,o,none⟩),(.int .i64 (num (x)))] w fun e w'=> e= .returned (.tuple #[])∧∃a' cap',HeapM w' b o B 3 1 (fun x=> [(.int .i64 (num (x)))]) (.func (.func fid) #[] #[]) (putF ah f n x) (n+1) a' cap'∧ToH w w' b o a n cap a' (n+1) cap':=by
 obtain ⟨ie,hi0,hi1,hi2,hi3⟩:=info_parts Tryz.infoHI
 have HM:=Kz h
 have HA:=Kz hA
 have HOk:=Kz hok
 have c0:=h.c0
 have hbl:=h.lt
 obtain ⟨t0,m0,hr0,hm0⟩:=h.blk
 have HOw:=Kz (h.row.alloc (.cells #[(.int .i64 (num (x)))] 3))
 have HBx:Hid (∀j u,([(.int .i64 (num (x)))]:List Value)[j]? =some u->(w.alloc (.cells #[(.int .i64 (num (x)))] 3)).cell? ((⟨w.heap.size,0,none⟩:Addr).add j)=some u):=fun j u hj=> by rw [Addr.add_mid];exact Xz w #[(.int .i64 (num (x)))] 3 j u hj
 have HOne:Hid (∀u∈([(.int .i64 (num (x)))]:List Value),u.oneCell'=true):=fun u hu=> by rw [List.mem_singleton] at hu;subst hu;rfl
 have HX1:Hid (n+1<=maxLen):=by show _<=_;unfold maxLen;omega
 have HX2:Hid ((n+1) * 8<=140737488355328):=by show _<=_;omega
 have HX3:Hid (B<=(w.alloc (.cells #[(.int .i64 (num (x)))] 3)).heap.size):=by show _<=_;rw [World.size_alloc];omega
 have HAp:Hid (∀g1 cap1 (w1:World),w1.ownsRow B 3 1 (.slice (some ⟨g1,0,none⟩) (n+1) cap1) (n+1) (flatH (fun x=> [(.int .i64 (num (x)))]) f n++ [(.int .i64 (num (x)))])->(w.alloc (.cells #[(.int .i64 (num (x)))] 3)).grownBy w1 (Value.slice a n cap).ownBlock->((Value.slice a n cap).ownBlock=some g1∨g1= (w.alloc (.cells #[(.int .i64 (num (x)))] 3)).heap.size)->
   (HeapM (w1.setCell ⟨b,o,none⟩ (.slice (some ⟨g1,0,none⟩) (n+1) cap1)) b o B 3 1 (fun x=> [(.int .i64 (num (x)))]) (.func (.func fid) #[] #[]) (fun i=> if i=n then x else f i) (n+1) (some ⟨g1,0,none⟩) cap1∧ToH w (w1.setCell ⟨b,o,none⟩ (.slice (some ⟨g1,0,none⟩) (n+1) cap1)) b o a n cap (some ⟨g1,0,none⟩) (n+1) cap1)∧w1.frozen? ⟨b,o,none⟩=false∧∃v,w1.cell? ⟨b,o,none⟩=some v):=fun g1 cap1 w1 hown hgr hloc=> by
  have kA:K_ w (w.alloc (.cells #[(.int .i64 (num (x)))] 3)):= (K_.refl w).alloc _
  have k1:But (fun z=> (Value.slice a n cap).ownBlock=some z) w w1:= (But.of_kept kA).trans (.of_grown hgr (fun _ h=> h))
  have hne: (Value.slice (some ⟨g1,0,none⟩) (n+1) cap1).ownBlock≠some b:=fun e=> by
   have e1:g1=b:=by injection e
   rcases hloc with e2 | e2
   ·exact h.ne (by rw [e2,e1])
   ·rw [World.size_alloc] at e2;omega
  have ho:w1.ownsRow B 3 1 (.slice (some ⟨g1,0,none⟩) (n+1) cap1) (n+1) (flatH (fun x=> [(.int .i64 (num (x)))]) (fun i=> if i=n then x else f i) (n+1)):=by
   have e1:flatH (fun x=> [(.int .i64 (num (x)))]) (fun i=> if i=n then x else f i) (n+1)=flatH (fun x=> [(.int .i64 (num (x)))]) f n++ [(.int .i64 (num (x)))]:=by
    simp only [flatH,if_true]
    rw [flatH_congr (fun i hi=> by rw [if_neg (by omega)])]
   rw [e1]
   exact hown
  obtain ⟨j1,j2,j3,j4⟩:=h.told k1 ho hne
  have hr1:=k1.row hr0 h.ne
  obtain ⟨⟨v,x0⟩,f0⟩:=hr1.row.at (i:=o) (by omega)
  refine ⟨⟨j1,j2,j3,j4,fun z hz=> ?_⟩,f0,v,x0⟩
  have e1:g1=z:=by injection hz
  subst e1
  rcases hloc with e2 | e2
  ·exact .inl e2
  ·exact .inr (by rw [World.size_alloc] at e2;omega)
 obtain ⟨fv,hfv⟩: ∃fv,fv=Value.func (.func fid) #[] #[]:= ⟨_,rfl⟩
 have HFV:=Kz hfv
 clear h hA hok hr0 hfv
 subst hf
 all_goals
  go_enter Tryz.func69,Tryz.ntmps69
  go_wp2_with (at_builtin;refine wpList_append_lies _ rfl (.tmp 10) (.tmp 12) 56 rfl B 3 ie (.int .i64 0) 1 8 Tryz.underlying56 hi0 hi1 hi2 hi3 rfl (by decide) (.slice a n cap) n _ rfl HOw.out ⟨w.heap.size,0,none⟩ 1 1 [(.int .i64 (num (x)))] rfl rfl HBx.out HOne.out (by decide) HX1.out HX2.out HX3.out _ rfl ?_;intro g1 cap1 w1 hown1 hgr1 hloc1 _;obtain ⟨hJ,f0,v0,x0⟩:=HAp.out g1 cap1 w1 hown1 hgr1 hloc1;have HJ:=Kz hJ;have c1:=hJ.1.c0;clear hown1 hgr1 hloc1 hJ c0)
  generalize hw2:w1.setCell ⟨b,o,none⟩ (.slice (some ⟨g1,0,none⟩) (n+1) cap1)=w2 at HJ c1⊢
  clear hw2 f0 x0 v0
  go_loopw [4] (fun y wr=> ∃(k m:Nat) (f1:Nat->α),y= .int .i64 (k:Int)∧k<=n∧k<=m∧Hid (HeapM wr b o B 3 1 (fun x=> [(.int .i64 (num (x)))]) fv f1 (n+1) (some ⟨g1,0,none⟩) cap1)∧Hid (upF ah m f1 k=putF ah f n x)∧Hid (∀i,i < n+1->f1 i=x∨MemH f n (f1 i))∧Hid (ToH w wr b o a n cap (some ⟨g1,0,none⟩) (n+1) cap1)) (fun y _=> (intOf y).toNat)
  case atStart=>
  refine ⟨n,n,fun i=> if i=n then x else f i,by go_num,Nat.le_refl _,Nat.le_refl _,by rw [HFV.out];exact HJ.out.1,rfl,fun i hi=> ?_,HJ.out.2⟩
  by_cases e:i=n
  ·exact .inl (if_pos e)
  ·exact .inr ⟨i,by omega,by simp only [if_neg e]⟩
  case round=>
  obtain ⟨k,m,f1,rfl,hk,hm,HF1,HU,HMem,HTo⟩:=hrel
  clear c1
  have c0:=HF1.out.c0
  by_cases hk0:k=0
  ·subst hk0
   have HE:Hid (f1=putF ah f n x):=by
    show _=_
    rw [<-HU.out]
    cases m <;> simp [upF]
   go_wp2
   go_end0
   exact ⟨rfl,_,_,by rw [<-HE.out,<-HFV.out];exact HF1.out,HTo.out⟩
  ·obtain ⟨m,rfl⟩: ∃m',m=m'+1:= ⟨m - 1,by omega⟩
   obtain ⟨p,hp⟩: ∃p,p=parH k:= ⟨_,rfl⟩
   have hpk:p < k:=by rw [hp];unfold parH;omega
   have hd1: ((k:Int) - 1).tdiv 2= (p:Int):=by rw [hp];unfold parH;rw [Int.tdiv_eq_ediv_of_nonneg (by omega)];omega
   have hd2: ((k:Int) - 1) / 2= (p:Int):=by rw [hp];unfold parH;omega
   have hk1: (0:Int) < (k:Int):=by omega
   have hk2: (k:Int) < (n:Int)+1:=by omega
   have hp2: (p:Int) < (n:Int)+1:=by omega
   have HUp:Hid (if ah (f1 k) (f1 p)=true then upF ah m (swp f1 k p) p=putF ah f n x else f1=putF ah f n x):=by
    have e:=HU.out
    simp only [upF,if_neg hk0] at e
    rw [<-hp] at e
    show if _ then _ else _
    split
    ·next g=> rw [if_pos g] at e;exact e
    ·next g=> rw [if_neg g] at e;exact e
   have HBu:=Kz HTo.out.but
   have HH:Hid (∀u,K_ wr u->LookI num _ b o g1 (n+1) cap1 f1 k p u):=fun u ku=> ⟨by have:= (HF1.out.kept ku).c1;rw [HFV.out] at this;exact this,((HF1.out.kept ku)).c0,(HF1.out.kept ku).cellI (by omega),(HF1.out.kept ku).cellI (by omega)⟩
   clear hp hk0
   go_wp2
   refine Qx.region (by kernel_rfl) _ 19 (HH.out _ (K_.refl _).drew) (fun Z_=> ?_)
   refine Qx.take 0 [1,2,3,18,19] (v:= ?_) (by (simp only [List.getElem?_toArray,List.getElem?_cons_zero];rfl)) (by kernel_rfl) (by kernel_rfl) (by kernel_rfl) (by kernel_rfl) (by exact fun _ _ _ h=> h) (Or.inl ⟨by rfl, ?_⟩) Z_ ?_
   rotate_left
   ·intro u hu
    obtain ⟨hu1,hu2,hu3,hu4⟩:=hu
    go_simp
    try with_reducible rfl
   try simp only [Act.put,upA,upB,upC]
   refine Qx.take 1 [2,3,18,19] (v:= ?_) (by (simp only [List.getElem?_toArray,List.getElem?_cons_succ,List.getElem?_cons_zero];rfl)) (by kernel_rfl) (by kernel_rfl) (by kernel_rfl) (by kernel_rfl) (by exact fun _ _ _ h=> h) (Or.inl ⟨by rfl, ?_⟩) Z_ ?_
   rotate_left
   ·intro u hu
    obtain ⟨hu1,hu2,hu3,hu4⟩:=hu
    go_simp
    try with_reducible rfl
   try simp only [Act.put,upA,upB,upC]
   refine Qx.take 2 [3,18,19] (v:= ?_) (by (simp only [List.getElem?_toArray,List.getElem?_cons_succ,List.getElem?_cons_zero];rfl)) (by kernel_rfl) (by kernel_rfl) (by kernel_rfl) (by kernel_rfl) (by exact fun _ _ _ h=> h) (Or.inl ⟨by rfl, ?_⟩) Z_ ?_
   rotate_left
   ·intro u hu
    obtain ⟨hu1,hu2,hu3,hu4⟩:=hu
    go_simp
    try with_reducible rfl
   try simp only [Act.put,upA,upB,upC]
   refine Qx.take 3 [18,19] (v:= ?_) (by (simp only [List.getElem?_toArray,List.getElem?_cons_succ,List.getElem?_cons_zero];rfl)) (by kernel_rfl) (by kernel_rfl) (by kernel_rfl) (by kernel_rfl) (by exact fun _ _ _ h=> h) (Or.inl ⟨by rfl, ?_⟩) Z_ ?_
   rotate_left
   ·intro u hu
    obtain ⟨hu1,hu2,hu3,hu4⟩:=hu
    go_simp
    try with_reducible rfl
   try simp only [Act.put,upA,upB,upC]
   refine Qx.take 4 [5,6,7,9,10,18,19] (v:= ?_) (by (simp only [List.getElem?_toArray,List.getElem?_cons_succ,List.getElem?_cons_zero];rfl)) (by kernel_rfl) (by kernel_rfl) (by kernel_rfl) (by kernel_rfl) (by exact fun _ _ _ h=> h) (Or.inl ⟨by rfl, ?_⟩) Z_ ?_
   rotate_left
   ·intro u hu
    obtain ⟨hu1,hu2,hu3,hu4⟩:=hu
    go_simp
    try with_reducible rfl
   try simp only [Act.put,upA,upB,upC]
   refine Qx.take 5 [6,7,9,10,18,19] (v:= ?_) (by (simp only [List.getElem?_toArray,List.getElem?_cons_succ,List.getElem?_cons_zero];rfl)) (by kernel_rfl) (by kernel_rfl) (by kernel_rfl) (by kernel_rfl) (by exact fun _ _ _ h=> h) (Or.inl ⟨by rfl, ?_⟩) Z_ ?_
   rotate_left
   ·intro u hu
    obtain ⟨hu1,hu2,hu3,hu4⟩:=hu
    go_simp
    try with_reducible rfl
   try simp only [Act.put,upA,upB,upC]
   refine Qx.take 6 [7,9,10,18,19] (v:= ?_) (by (simp only [List.getElem?_toArray,List.getElem?_cons_succ,List.getElem?_cons_zero];rfl)) (by kernel_rfl) (by kernel_rfl) (by kernel_rfl) (by kernel_rfl) (by exact fun _ _ _ h=> h) (Or.inl ⟨by rfl, ?_⟩) Z_ ?_
   rotate_left
   ·intro u hu
    obtain ⟨hu1,hu2,hu3,hu4⟩:=hu
    go_simp
    try with_reducible rfl
   try simp only [Act.put,upA,upB,upC]
   refine Qx.take 7 [9,10,18,19] (v:= ?_) (by (simp only [List.getElem?_toArray,List.getElem?_cons_succ,List.getElem?_cons_zero];rfl)) (by kernel_rfl) (by kernel_rfl) (by kernel_rfl) (by kernel_rfl) (by exact fun _ _ _ h=> h) (Or.inl ⟨by rfl, ?_⟩) Z_ ?_
   rotate_left
   ·intro u hu
    obtain ⟨hu1,hu2,hu3,hu4⟩:=hu
    go_simp
    try with_reducible rfl
   try simp only [Act.put,upA,upB,upC]
   refine Qx.take 8 [9,10,18,19] (v:= ?_) (by (simp only [List.getElem?_toArray,List.getElem?_cons_succ,List.getElem?_cons_zero];rfl)) (by kernel_rfl) (by kernel_rfl) (by kernel_rfl) (by kernel_rfl) (by exact fun _ _ _ h=> h) (Or.inl ⟨by rfl, ?_⟩) Z_ ?_
   rotate_left
   ·intro u hu
    obtain ⟨hu1,hu2,hu3,hu4⟩:=hu
    go_simp
    try with_reducible rfl
   try simp only [Act.put,upA,upB,upC]
   refine Qx.take 9 [10,18,19] (v:= ?_) (by (simp only [List.getElem?_toArray,List.getElem?_cons_succ,List.getElem?_cons_zero];rfl)) (by kernel_rfl) (by kernel_rfl) (by kernel_rfl) (by kernel_rfl) (by exact fun _ _ _ h=> h) (Or.inl ⟨by rfl, ?_⟩) Z_ ?_
   rotate_left
   ·intro u hu
    obtain ⟨hu1,hu2,hu3,hu4⟩:=hu
    go_simp
    try with_reducible rfl
   try simp only [Act.put,upA,upB,upC]
   refine Qx.take 10 [18,19] (v:= ?_) (by (simp only [List.getElem?_toArray,List.getElem?_cons_succ,List.getElem?_cons_zero];rfl)) (by kernel_rfl) (by kernel_rfl) (by kernel_rfl) (by kernel_rfl) (by exact fun _ _ _ h=> h) (Or.inl ⟨by rfl, ?_⟩) Z_ ?_
   rotate_left
   ·intro u hu
    obtain ⟨hu1,hu2,hu3,hu4⟩:=hu
    go_simp
    try with_reducible rfl
   try simp only [Act.put,upA,upB,upC]
   refine Qx.take 11 [12,13,14,16,17,18,19] (v:= ?_) (by (simp only [List.getElem?_toArray,List.getElem?_cons_succ,List.getElem?_cons_zero];rfl)) (by kernel_rfl) (by kernel_rfl) (by kernel_rfl) (by kernel_rfl) (by exact fun _ _ _ h=> h) (Or.inl ⟨by rfl, ?_⟩) Z_ ?_
   rotate_left
   ·intro u hu
    obtain ⟨hu1,hu2,hu3,hu4⟩:=hu
    go_simp
    try with_reducible rfl
   try simp only [Act.put,upA,upB,upC]
   refine Qx.take 12 [13,14,16,17,18,19] (v:= ?_) (by (simp only [List.getElem?_toArray,List.getElem?_cons_succ,List.getElem?_cons_zero];rfl)) (by kernel_rfl) (by kernel_rfl) (by kernel_rfl) (by kernel_rfl) (by exact fun _ _ _ h=> h) (Or.inl ⟨by rfl, ?_⟩) Z_ ?_
   rotate_left
   ·intro u hu
    obtain ⟨hu1,hu2,hu3,hu4⟩:=hu
    go_simp
    try with_reducible rfl
   try simp only [Act.put,upA,upB,upC]
   refine Qx.take 13 [14,16,17,18,19] (v:= ?_) (by (simp only [List.getElem?_toArray,List.getElem?_cons_succ,List.getElem?_cons_zero];rfl)) (by kernel_rfl) (by kernel_rfl) (by kernel_rfl) (by kernel_rfl) (by exact fun _ _ _ h=> h) (Or.inl ⟨by rfl, ?_⟩) Z_ ?_
   rotate_left
   ·intro u hu
    obtain ⟨hu1,hu2,hu3,hu4⟩:=hu
    go_simp
    try with_reducible rfl
   try simp only [Act.put,upA,upB,upC]
   refine Qx.take 14 [16,17,18,19] (v:= ?_) (by (simp only [List.getElem?_toArray,List.getElem?_cons_succ,List.getElem?_cons_zero];rfl)) (by kernel_rfl) (by kernel_rfl) (by kernel_rfl) (by kernel_rfl) (by exact fun _ _ _ h=> h) (Or.inl ⟨by rfl, ?_⟩) Z_ ?_
   rotate_left
   ·intro u hu
    obtain ⟨hu1,hu2,hu3,hu4⟩:=hu
    go_simp
    try with_reducible rfl
   try simp only [Act.put,upA,upB,upC]
   refine Qx.take 15 [16,17,18,19] (v:= ?_) (by (simp only [List.getElem?_toArray,List.getElem?_cons_succ,List.getElem?_cons_zero];rfl)) (by kernel_rfl) (by kernel_rfl) (by kernel_rfl) (by kernel_rfl) (by exact fun _ _ _ h=> h) (Or.inl ⟨by rfl, ?_⟩) Z_ ?_
   rotate_left
   ·intro u hu
    obtain ⟨hu1,hu2,hu3,hu4⟩:=hu
    go_simp
    try with_reducible rfl
   try simp only [Act.put,upA,upB,upC]
   refine Qx.take 16 [17,18,19] (v:= ?_) (by (simp only [List.getElem?_toArray,List.getElem?_cons_succ,List.getElem?_cons_zero];rfl)) (by kernel_rfl) (by kernel_rfl) (by kernel_rfl) (by kernel_rfl) (by exact fun _ _ _ h=> h) (Or.inl ⟨by rfl, ?_⟩) Z_ ?_
   rotate_left
   ·intro u hu
    obtain ⟨hu1,hu2,hu3,hu4⟩:=hu
    go_simp
    try with_reducible rfl
   try simp only [Act.put,upA,upB,upC]
   refine Qx.take 17 [18,19] (v:= ?_) (by (simp only [List.getElem?_toArray,List.getElem?_cons_succ,List.getElem?_cons_zero];rfl)) (by kernel_rfl) (by kernel_rfl) (by kernel_rfl) (by kernel_rfl) (by exact fun _ _ _ h=> h) (Or.inl ⟨by rfl, ?_⟩) Z_ ?_
   rotate_left
   ·intro u hu
    obtain ⟨hu1,hu2,hu3,hu4⟩:=hu
    go_simp
    try with_reducible rfl
   try simp only [Act.put,upA,upB,upC]
   refine Qx.nx 18 (fun K hK=> ?_)
   rw [if_pos (by rfl)]
   go_simp
   refine (HA.out (f1 k) (f1 p) _ (HOk.out _ _ (HMem.out k (by omega)) (HBu.out.trans (.of_kept (K_.refl _).drew))) (HOk.out _ _ (HMem.out p (by omega)) (HBu.out.trans (.of_kept (K_.refl _).drew)))).mono ?_
   rintro e w8 ⟨rfl,k8⟩
   dsimp only
   have HK8:=Kz ((K_.refl wr).drew.trans k8)
   refine hK.out _ _ (fun _=> HH.out _ HK8.out) ?_
   clear hK K Z_
   try simp only [Act.put,upA,upB,upC]
   have Z_:=HH.out _ HK8.out
   refine Qx.nx 19 (fun K hK=> ?_)
   rw [if_pos (by rfl)]
   go_simp
   refine hK.out _ _ (fun h=> absurd rfl h) ?_
   clear hK K
   try simp only [Act.put,upA,upB,upC]
   refine Qx.dn ?_
   cases hx:ah (f1 k) (f1 p)
   ·have HE:=Kz (show f1=putF ah f n x by have e:=HUp.out;rw [hx] at e;simpa using e)
    go_wp2
    try simp only [Exit.inBlock,Exit.then]
    refine bodyPost_ret (results_none rfl _ _ _) rfl ?_
    exact ⟨rfl,_,_,by rw [<-HE.out,<-HFV.out];exact HF1.out.kept HK8.out,HTo.out.next (.of_kept HK8.out) hbl (HF1.out.ne)⟩
   ·have HE:=Kz (show upF ah m (swp f1 k p) p=putF ah f n x by have e:=HUp.out;rw [hx] at e;simpa using e)
    go_wp2_with fail
    refine (swapI_any _ (HF1.out.kept HK8.out) (i:=k) (j:=p) (by omega) (by omega) (by omega)).mono ?_
    rintro e w9 ⟨rfl,hF9,k9⟩
    have HF9:=Kz hF9
    have HT9:=Kz ((HTo.out.next (.of_kept HK8.out) hbl (HF1.out.ne)).next k9 hbl (HF1.out.ne))
    have HM9:Hid (∀i,i < n+1->swp f1 k p i=x∨MemH f n (swp f1 k p i)):=fun i hi=> by
     unfold swp
     split
     ·exact HMem.out p (by omega)
     ·split
      ·exact HMem.out k (by omega)
      ·exact HMem.out i hi
    clear hF9 k9
    go_wp2
    go_roundw
    case rel=> exact ⟨p,m,swp f1 k p,rfl,by omega,by omega,HF9,HE,HM9,HT9⟩
    case measure=> simp [intOf];omega
theorem takeI_any (w:World) {fid:Nat} {ah:α->α->Bool} {Ok:α->World->Prop} (h:HeapM w b o B 3 1 (fun x=> [(.int .i64 (num (x)))]) (.func (.func fid) #[] #[]) f (n+1) a cap) (hA:AheadM fid (fun x=> (.int .i64 (num (x)))) ah Ok) (hf:fid=68) (hok: ∀y u,MemH f (n+1) y->But (fun z=> z=b∨(Value.slice a (n+1) cap).ownBlock=some z) w u->Ok y u) (hn:n < 1000000):
  Calls Tryz.prog 126 #[.pointer (some ⟨b,o,none⟩)] w fun e w'=> e= .returned ((.int .i64 (num (f 0))))∧HeapM w' b o B 3 1 (fun x=> [(.int .i64 (num (x)))]) (.func (.func fid) #[] #[]) (takeF ah f n) n a cap∧ToH w w' b o a (n+1) cap a n cap:=by
 obtain ⟨g,rfl,hgl,hbg,hnc⟩:=h.pos (by omega)
 have HM:=Kz h
 have HA:=Kz hA
 have HOk:=Kz hok
 have hbl:=h.lt
 have hne:=h.ne
 have c0:=h.c0
 have hn1: (n:Int)<=(cap:Int):=by omega
 have hn2: (n:Int)+1 - 1= (n:Int):=by omega
 have HSt:Hid (∀w1:World,HeapM w1 b o B 3 1 (fun x=> [(.int .i64 (num (x)))]) (.func (.func fid) #[] #[]) (swp f 0 n) (n+1) (some ⟨g,0,none⟩) cap->But (fun x=> (Value.slice (some ⟨g,0,none⟩) (n+1) cap).ownBlock=some x) w w1->
   (HeapM (w1.setCell ⟨b,o,none⟩ (.slice (some ⟨g,0,none⟩) n cap)) b o B 3 1 (fun x=> [(.int .i64 (num (x)))]) (.func (.func fid) #[] #[]) (swp f 0 n) n (some ⟨g,0,none⟩) cap∧ToH w (w1.setCell ⟨b,o,none⟩ (.slice (some ⟨g,0,none⟩) n cap)) b o (some ⟨g,0,none⟩) (n+1) cap (some ⟨g,0,none⟩) n cap)∧w1.frozen? ⟨b,o,none⟩=false):=fun w1 h1 k1=> by
  obtain ⟨j1,j2,j3,j4⟩:=h1.told (.of_kept (K_.refl w1)) (owns_less (fun _=> rfl) h1.row) h1.ne
  obtain ⟨t0,m0,hr0,hm0⟩:=h1.blk
  refine ⟨⟨j1,⟨?_,fun i hi=> (j3 i hi).trans (k1.cell hbl hne),fun t m hr=> j4 t m (k1.row hr hne),fun x hx=> .inl hx⟩⟩,(hr0.row.at (i:=o) (by omega)).2⟩
  exact (k1.mono (fun _ _ h=> .inr h)).trans j2
 clear h hA hok
 obtain ⟨fv,hfv⟩: ∃fv,fv=Value.func (.func fid) #[] #[]:= ⟨_,rfl⟩
 have HFV:=Kz hfv
 clear hfv
 subst hf
 all_goals
  go_enter Tryz.func126,Tryz.ntmps126
  go_wp2_with fail
  refine (firstI_any w HM.out (by omega)).mono ?_
  rintro e w0 ⟨rfl,h0⟩
  obtain rfl:=h0.symm
  go_wp2_with fail
  refine (swapI_any w HM.out (i:=0) (j:=n) (by omega) (by omega) (by omega)).mono ?_
  rintro e w1 ⟨rfl,hM1,k1⟩
  obtain ⟨hJ,f0⟩:=HSt.out w1 hM1 k1
  have HJ:=Kz hJ
  have c1:=hM1.c0
  clear hM1 k1 hJ c0
  go_wp2
  generalize hw2:w1.setCell ⟨b,o,none⟩ (.slice (some ⟨g,0,none⟩) n cap)=w2 at HJ⊢
  clear hw2 f0 c1
  go_loopw [5] (fun y wr=> ∃(k m:Nat) (f1:Nat->α),y= .int .i64 (k:Int)∧k<=n∧(k < n∨n=0)∧n<=k+m∧Hid (HeapM wr b o B 3 1 (fun x=> [(.int .i64 (num (x)))]) fv f1 n (some ⟨g,0,none⟩) cap)∧Hid (downF ah m f1 n k=takeF ah f n)∧Hid (∀i,i < n->MemH f (n+1) (f1 i))∧Hid (ToH w wr b o (some ⟨g,0,none⟩) (n+1) cap (some ⟨g,0,none⟩) n cap)) (fun y _=> n - (intOf y).toNat)
  case atStart=>
  refine ⟨0,n,swp f 0 n,rfl,by omega,by omega,by omega,by rw [HFV.out];exact HJ.out.1,rfl,fun i hi=> ?_,HJ.out.2⟩
  unfold swp
  split
  ·exact ⟨n,by omega,rfl⟩
  ·split
   ·omega
   ·exact ⟨i,by omega,rfl⟩
  case round=>
  obtain ⟨k,m,f1,rfl,hk,hkn,hm,HF1,HD,HMem,HTo⟩:=hrel
  go_wp2_with fail
  refine (leadI_any wr (by have:=HF1.out;rw [HFV.out] at this;exact this) HA.out rfl (fun i hi u ku=> HOk.out _ u (HMem.out i hi) (HTo.out.but.trans (.of_kept ku))) hk (by omega)).mono ?_
  rintro e w8 ⟨rfl,k8⟩
  have HK8:=Kz k8
  clear k8
  obtain ⟨q,hq⟩: ∃q,q=leadF ah f1 n k:= ⟨_,rfl⟩
  rw [<-hq]
  by_cases hqk:q=k
  ·have HE:=Kz (show f1=takeF ah f n by
    have e:=HD.out
    cases m with
    | zero=> exact e
    | succ m=> simp only [downF] at e;rw [if_pos (hq.symm.trans hqk)] at e;exact e)
   have e0: ((q:Int) == (k:Int))=true:=by rw [hqk];simp
   clear hqk hq
   go_wp2
   go_ret
   exact ⟨rfl,by rw [<-HE.out,<-HFV.out];exact HF1.out.kept HK8.out,HTo.out.next (.of_kept HK8.out) hbl (HF1.out.ne)⟩
  ·have hqn:q < n∧k < q:=by
    rcases leadF_cases (ah:=ah) f1 n k with e | ⟨e,e1⟩ | ⟨e,e1⟩
    ·exact absurd (hq.trans e) hqk
    ·omega
    ·omega
   obtain ⟨m,rfl⟩: ∃m',m=m'+1:= ⟨m - 1,by omega⟩
   have HE:=Kz (show downF ah m (swp f1 k q) n q=takeF ah f n by
    have e:=HD.out
    simp only [downF] at e
    rw [if_neg (fun x=> hqk (hq.trans x)),<-hq] at e
    exact e)
   have e0: ((q:Int) == (k:Int))=false:=by
    have: ¬(q:Int)= (k:Int):=by omega
    simpa using this
   clear hqk hq
   go_wp2_with fail
   refine (swapI_any w8 (HF1.out.kept HK8.out) (i:=k) (j:=q) (by omega) (by omega) (by omega)).mono ?_
   rintro e w9 ⟨rfl,hF9,k9⟩
   have HF9:=Kz hF9
   have HT9:=Kz ((HTo.out.next (.of_kept HK8.out) hbl (HF1.out.ne)).next k9 hbl (HF1.out.ne))
   have HM9:Hid (∀i,i < n->MemH f (n+1) (swp f1 k q i)):=fun i hi=> by
    unfold swp
    split
    ·exact HMem.out q (by omega)
    ·split
     ·exact HMem.out k (by omega)
     ·exact HMem.out i hi
   clear hF9 k9
   go_wp2
   go_roundw
   case rel=> exact ⟨q,m,swp f1 k q,rfl,by omega,by omega,by omega,HF9,HE,HM9,HT9⟩
   case measure=> simp [intOf];omega
end
