import Derived.Test.YtieeffpandfpbaaGreatDoorKXPut
import Derived.Deep.RegionLaw
import Derived.Test.YtieeffpandfpbaaGreatDoorKXWant
import Derived.Test.YtieeffpandfpbaaGreatDoorKXNext
import Derived.Maps.Own
import Derived.Maps.OwnSet
import Derived.Maps.Views
import Derived.Test.YtieeffpandfpbaaGreatDoorKXSame3
import Derived.Deep.QuietTactic
import Derived.BigQuiet
import Derived.Test.YtieeffpandfpbaaGreatDoorKURes
set_option maxRecDepth 100000
set_option maxHeartbeats 25600000
namespace Go.Proofs.YtieeffpandfpbaaGreatDoor
open Go.RowKit
theorem Tryz.xSizeState : (Tryz.prog.info? 41).map (·.size)=some 2:=by kernel_rfl
theorem PackedX.set {w:World} {P:Nat->Prop} {xs:List Value} {l:List Qz} {c p:Nat} (h:PackedX w P xs l) (hc: ∀b,P b->b≠c) (u:Value):PackedX (w.setCell ⟨c,p,none⟩ u) P xs l:=by
 refine ⟨h.1,fun i hi=> ?_⟩
 obtain ⟨xa,xc,e,hs,hx,hp⟩:=h.2 i hi
 refine ⟨xa,xc,e,(fun j hj=> ?_),hx,hp⟩
 obtain ⟨b,o,rfl,hb,hcl⟩:=hs j hj
 exact ⟨b,o,rfl,by rw [size_setCell];exact hb,by rw [Zk (hc b (hp _ rfl))];exact hcl⟩
theorem owns_but {w w':World} {base size sb m n:Nat} {e t:TypeId} {v:Value} {xs:List Value} (h:w.ownsRow base e size v n xs) (k:Xk sb (sb+1) w w') (hr:RowT w sb t m) (ht:t≠e):w'.ownsRow base e size v n xs:=by
 refine ⟨h.1, ?_⟩
 rcases h.2 with h2 | ⟨g,cap,cur,rfl,hb,hg,rest⟩
 ·exact .inl h2
 ·refine .inr ⟨g,cap,cur,rfl,hb, ?_,rest⟩
  have hne:g≠sb:=by
   rintro rfl
   obtain ⟨c2,h2,_⟩:=hr
   rw [hg] at h2
   simp only [Option.some.injEq,Obj.cells.injEq] at h2
   exact ht h2.2.1.symm
  rw [k.block g (heap_lt hg) (by omega)]
  exact hg
theorem owned_strs {w:World} {base:Nat} {t:TypeId} {v:Value} {n:Nat} {l:List ByteArray} (h:w.ownsRow base t 1 v n (l.map Value.string)): ∃a cap,v= .slice a l.length cap∧Strs w a l:=by
 have hn:n=l.length:=by have:=h.1;simp at this;omega
 subst hn
 rcases h.2 with ⟨rfl,h0⟩ | ⟨g,cap,cur,rfl,hb,hg,hnc,_,_,_⟩
 ·exact ⟨none,0,by rw [h0],fun i hi=> by omega⟩
 ·refine ⟨_,cap,rfl,fun i hi=> ⟨g,0,rfl,heap_lt hg, ?_⟩⟩
  have:=h.cells (g:=g) rfl i (.string (l.getD i ByteArray.empty)) (by simp [List.getD,hi])
  rw [Addr.add_mid] at this
  exact this
structure StX (W1 wr:World) (sb:Nat) (ra:Option Addr) (n rc:Nat) (d:Option Addr) (t:List Qz) (dc:Nat) (xs:List Value):Prop where
 kb:Xk sb (sb+1) W1 wr
 row:RowT wr sb 41 2
 Kk:wr.cell? ⟨sb,0,none⟩=some (.slice ra n rc)
 runs:wr.cell? ⟨sb,1,none⟩=some (.slice d t.length dc)
 own:wr.ownsRow W1.heap.size 83 7 (.slice d t.length dc) t.length xs
 pack:PackedX wr (fun b=> sb < b) xs t
def StateX (Kk:List ByteArray) (T:List Qz) (w w':World) (e:Ending):Prop:=
 ∃ra rc d dc xs,e= .returned (.agg #[.slice ra Kk.length rc,.slice d T.length dc])∧w'.ownsRow w.heap.size 9 1 (.slice ra Kk.length rc) Kk.length (Kk.map Value.string)∧w'.ownsRow w.heap.size 83 7 (.slice d T.length dc) T.length xs∧PackedX w' (fun b=> w.heap.size<=b) xs T∧K_ w w'
theorem foldl_asc : ∀(l t:List Qz),AscX t->AscX (l.foldl insX t)
 | [],_,h=> h
 | x :: l,t,h=> foldl_asc l (insX t x) (insX_asc h)
theorem stateX_any (w:World) (rb ro rc:Nat) (Kk:List ByteArray) (a:Option Addr) (cap:Nat) (R:List Qz) (hrl:Kk.length<=10) (hRl:R.length<=10000) (hTt: ∀r∈R,r.texts.length<=1000) (hfl: ∀k,((R.take k).foldl insX []).length<=10000) (hR:Strs w (some ⟨rb,ro,none⟩) Kk) (hS:RunsX w a R):
  Calls Tryz.prog 46 #[.slice (some ⟨rb,ro,none⟩) Kk.length rc,.slice a R.length cap] w fun e w'=> StateX Kk (R.foldl insX []) w w' e:=by
 obtain ⟨is,hi,hz0,hz1,hz2⟩:=xInfo_parts Tryz.xInfoStr
 obtain ⟨W0,hW0⟩: ∃W0,W0=w.alloc (.cells #[.slice none 0 0,.slice none 0 0] 41):= ⟨_,rfl⟩
 have KW0:K_ w W0:=by rw [hW0];exact (K_.refl _).alloc _
 have hres0:RowT W0 w.heap.size 41 2:=by rw [hW0];exact RowT.made w #[.slice none 0 0,.slice none 0 0] 41
 have hW0s:w.heap.size+1<=W0.heap.size:=hres0.lt
 have HRes0:=Kz hres0
 have HKE:Hid (K_ W0 (W0.alloc (.cells #[] 9))):= (K_.refl _).alloc _
 have HO0:Hid ((W0.alloc (.cells #[] 9)).ownsRow W0.heap.size 9 1 (.slice (some ⟨W0.heap.size,0,none⟩) 0 0) 0 (([]:List ByteArray).map Value.string)):=World.ownsRow_made W0 #[] 0 (Nat.le_refl _) (Nat.zero_le _) rfl
 have HNews:Hid (∀j u,(Kk.map Value.string)[j]? =some u->(W0.alloc (.cells #[] 9)).cell? ((⟨rb,ro,none⟩:Addr).add j)=some u):=fun j u hu=> by
  have hj:j < Kk.length:=by have:= (List.getElem?_eq_some_iff.1 hu).1;simpa using this
  obtain ⟨b,o,e,hb,hc⟩:= (hR.kept (KW0.trans HKE.out)) j hj
  simp only [Option.some.injEq] at e
  rw [e,Addr.add_mid,hc]
  simp [hj] at hu
  simp [List.getD,hj,hu]
 have HOnes:Hid (∀u∈Kk.map Value.string,u.oneCell'=true):=fun u hu=> by obtain ⟨x,_,rfl⟩:=List.mem_map.1 hu;rfl
 have hbs:W0.heap.size<=(W0.alloc (.cells #[] 9)).heap.size:=HKE.out.size
 clear hres0
 go_enter Tryz.func46,Tryz.ntmps46
 go_upto_region 1 with fail
 rw [<-hW0]
 clear hW0
 go_wp2_with (at_builtin;refine wpList_append_own _ rfl (.tmp 7) (.tmp 8) 25 rfl W0.heap.size 9 is _ 1 16 Tryz.underlying25 hi hz0 hz1 hz2 rfl (by decide) (.slice (some ⟨W0.heap.size,0,none⟩) 0 0) 0 [] rfl HO0.out ⟨rb,ro,none⟩ Kk.length rc (Kk.map Value.string) rfl (by simp) HNews.out HOnes.out (by unfold maxLen;omega) (by omega) hbs ?_;intro v6 w6 hown6 hgr6 _;have kw6:K_ W0 w6:=kept_of_grown HKE.out (Nat.le_refl _) HO0.out hgr6;rw [Nat.zero_add,List.nil_append] at hown6;obtain ⟨ra,rc6,rfl⟩:=own_slice hown6;have HT6:=Kz hown6;clear hown6 hgr6)
 obtain ⟨W1,hW1⟩: ∃W1,W1=w6.alloc (.cells #[.slice ra Kk.length rc6,.slice none 0 0] 41):= ⟨_,rfl⟩
 obtain ⟨sb,hsb⟩: ∃sb,sb=w6.heap.size:= ⟨_,rfl⟩
 have KE1:K_ w6 W1:=by rw [hW1];exact (K_.refl _).alloc _
 have HSr:Hid (RowT W1 sb 41 2):=by rw [hW1,hsb];exact RowT.made w6 #[.slice ra Kk.length rc6,.slice none 0 0] 41
 have hcs:W1.rangeAt sb 0 [.slice ra Kk.length rc6,.slice none 0 0]:=by rw [hW1,hsb];exact Xz w6 #[.slice ra Kk.length rc6,.slice none 0 0] 41
 have HCs:=Kz hcs
 have HRes:=Kz (HRes0.out.kept (kw6.trans KE1))
 have HT7:=Kz (ownsRow_kept' HT6.out KE1)
 have K1:K_ w W1:= (KW0.trans kw6).trans KE1
 have hz6:=kw6.size
 have hs1:sb+1<=W1.heap.size:=HSr.out.lt
 have hs0:w.heap.size < sb:=by omega
 rw [<-hW1,<-hsb]
 clear hcs HT6 HO0 HNews HRes0 hW1 hsb HOnes hbs HKE KE1 kw6 hz6 KW0
 go_loopw [6] (fun i wr=> ∃(k:Nat) (d:Option Addr) (dc:Nat) (xs:List Value),k<=R.length∧i= .int .i64 k∧StX W1 wr sb ra Kk.length rc6 d ((R.take k).foldl insX []) dc xs) (fun i _=> R.length - (intOf i).toNat)
 case atStart=>
  have hc:=HCs.out
  exact ⟨0,none,0,[],Nat.zero_le _,rfl,⟨Xk.refl _ _ _,HSr.out,hc 0 _ rfl,hc 1 _ rfl,World.ownsRow_nil _ _ _ _,PackedX.nil _ _⟩⟩
 case round=>
  obtain ⟨k,d,dc,xs,hk,rfl,hSt⟩:=hrel
  have hfk:=hfl k
  by_cases hlt:k < R.length
  ·have Kr:K_ w wr:=hSt.kb.kept K1 (by omega)
   obtain ⟨b,o,xa,ca,rfl,hb,hc,hTk,hXk⟩:=hS.kept Kr k hlt
   obtain ⟨t,ht⟩: ∃t,t= (R.take k).foldl insX []:= ⟨_,rfl⟩
   obtain ⟨y,hy⟩: ∃y,y=R.getD k Qz.zero:= ⟨_,rfl⟩
   have HSc:Hid ((R.take (k+1)).foldl insX []=insX t y):=by show _=_;rw [List.take_succ_eq_append_getElem hlt,List.foldl_append,ht,hy];simp [List.getD,hlt]
   have hTr:AscX t:=by rw [ht];exact foldl_asc _ _ List.Pairwise.nil
   have hyt:y.texts.length<=1000:=by rw [hy];simp only [List.getD,hlt,List.getElem?_eq_getElem,Option.getD_some];exact hTt _ (List.getElem_mem hlt)
   rw [<-ht] at hSt hfk
   rw [<-hy] at hc hTk
   have HSt:=Kz hSt
   have zr:=hSt.kb.size
   have HRt:Hid (RunsXP wr (fun b=> sb < b) d t):=by
    obtain ⟨_,a9,c9,ev,h⟩:=PackedX.runs hSt.own hSt.pack (K_.refl _)
    simp only [Value.slice.injEq,true_and] at ev
    rw [ev.1]
    exact h
   have HPut:Hid (∀W,K_ wr W->Calls Tryz.prog 90 #[.slice d t.length dc,.agg #[.string y.name,.bool y.over,.bool y.fail,.string y.text,.int .i64 y.at',.int .i64 y.Zj,.slice xa y.texts.length ca]] W fun e w'=> ∃v,e= .returned v∧RunsO W w' (fun b=> sb < b) v (insX t y)∧K_ W w'):=fun W hW=> xPut_any W d dc t y xa ca (by omega) hyt hTr (fun b=> sb < b) (fun b hb=> by have:=hW.size;omega) (HRt.out.kept hW) (hTk.kept hW) hXk
   have c0:wr.cell? ⟨b,o+k * 7+0,none⟩=some (.string y.name):=hc 0 _ rfl
   have c1:wr.cell? ⟨b,o+k * 7+1,none⟩=some (.bool y.over):=hc 1 _ rfl
   have c2:wr.cell? ⟨b,o+k * 7+2,none⟩=some (.bool y.fail):=hc 2 _ rfl
   have c3:wr.cell? ⟨b,o+k * 7+3,none⟩=some (.string y.text):=hc 3 _ rfl
   have c4:wr.cell? ⟨b,o+k * 7+4,none⟩=some (.int .i64 y.at'):=hc 4 _ rfl
   have c5:wr.cell? ⟨b,o+k * 7+5,none⟩=some (.int .i64 y.Zj):=hc 5 _ rfl
   have c6:wr.cell? ⟨b,o+k * 7+6,none⟩=some (.slice xa y.texts.length ca):=hc 6 _ rfl
   rw [Nat.add_zero] at c0
   have m1:=hSt.runs
   have hsb:=hSt.row.lt
   clear hc hy ht hTr hSt hTk hXk
   have i0: (k:Int) < (R.length:Int):=by omega
   have Zz:Hid (∀w',K_ wr w'->(fun w'=> w'.cell? ⟨sb,1,none⟩=some (.slice d t.length dc)∧w'.cell? ⟨b,o+k * 7,none⟩=some (.string y.name)∧w'.cell? ⟨b,o+k * 7+1,none⟩=some (.bool y.over)∧w'.cell? ⟨b,o+k * 7+2,none⟩=some (.bool y.fail)∧w'.cell? ⟨b,o+k * 7+3,none⟩=some (.string y.text)∧w'.cell? ⟨b,o+k * 7+4,none⟩=some (.int .i64 y.at')∧w'.cell? ⟨b,o+k * 7+5,none⟩=some (.int .i64 y.Zj)∧w'.cell? ⟨b,o+k * 7+6,none⟩=some (.slice xa y.texts.length ca)) w'):=fun w' kk=> ⟨(kk.cell hsb).trans m1,(kk.cell hb).trans c0,(kk.cell hb).trans c1,(kk.cell hb).trans c2,(kk.cell hb).trans c3,(kk.cell hb).trans c4,(kk.cell hb).trans c5,(kk.cell hb).trans c6⟩
   go_wp2
   refine Qx.region (by kernel_rfl) (fun w'=> w'.cell? ⟨sb,1,none⟩=some (.slice d t.length dc)∧w'.cell? ⟨b,o+k * 7,none⟩=some (.string y.name)∧w'.cell? ⟨b,o+k * 7+1,none⟩=some (.bool y.over)∧w'.cell? ⟨b,o+k * 7+2,none⟩=some (.bool y.fail)∧w'.cell? ⟨b,o+k * 7+3,none⟩=some (.string y.text)∧w'.cell? ⟨b,o+k * 7+4,none⟩=some (.int .i64 y.at')∧w'.cell? ⟨b,o+k * 7+5,none⟩=some (.int .i64 y.Zj)∧w'.cell? ⟨b,o+k * 7+6,none⟩=some (.slice xa y.texts.length ca)) 8 ⟨m1,c0,c1,c2,c3,c4,c5,c6⟩ (fun Z_=> ?_)
   refine Qx.tk 0 Z_ ?_
   refine Qx.tk 1 Z_ ?_
   refine Qx.tk 2 Z_ ?_
   refine Qx.tk 3 Z_ ?_
   refine Qx.tk 4 Z_ ?_
   refine Qx.tk 5 Z_ ?_
   refine Qx.nx 6 (fun K hK=> ?_)
   rw [if_pos (by rfl)]
   go_simp
   go_at_call 90
   refine (HPut.out _ (by repeat (first | (with_reducible exact K_.refl _) | (with_reducible assumption) | apply K_.drew))).mono ?_
   rintro e w2 ⟨v2,rfl,hO2,kk2⟩
   have k2:K_ wr w2:=K_.trans (by repeat (first | (with_reducible exact K_.refl _) | (with_reducible assumption) | apply K_.drew)) kk2
   have z2:=k2.size
   obtain ⟨wy,xs2,ky1,ky2,hO3,hP3⟩:=hO2
   have zy:=ky1.size
   have hwy:W1.heap.size<=wy.heap.size:=Nat.le_trans zr (Nat.le_trans (Nat.le_of_eq (by rfl)) zy)
   have hO2':=owns_base (base':=W1.heap.size) hO3 hwy
   obtain ⟨d2,dc2,rfl⟩:=own_slice hO3
   have HO2:=Kz hO2'
   have HP2:=Kz (hP3.kept ky2)
   have hr2:=HSt.out.row.kept k2
   obtain ⟨⟨_,fo2⟩,fo1⟩:=hr2.row.at (i:=1) (by omega)
   have HRw:=Kz hr2
   clear hO2' hO3 hP3 hr2 ky1 ky2 zy hwy
   dsimp only
   refine hK.out _ _ (fun _=> Zz.out w2 k2) ?_
   clear hK K Z_
   have Z_:=Zz.out w2 k2
   try simp only [Act.put,upA,upB,upC]
   refine Qx.tk 7 Z_ ?_
   refine Qx.nx 8 (fun K hK=> ?_)
   go_simp
   refine hK.out _ _ (fun h=> absurd rfl h) ?_
   clear hK K
   try simp only [Act.put,upA,upB,upC]
   refine Qx.dn ?_
   go_wp2
   go_roundw
   case rel=> exact ⟨k+1,d2,dc2,xs2,by omega,by go_num,by rw [HSc.out];exact ⟨(HSt.out.kb.trans (Xk.of_kept k2)).setCell (Nat.le_refl _) (Nat.lt_succ_self _) _,HRw.out.set _,by rw [Xx (by omega),k2.cell HSt.out.row.lt];exact HSt.out.Kk,set_hit HRw.out.row (by omega) _,owns_set (p:= ⟨sb,1,none⟩) HO2.out hs1 _,HP2.out.set (fun b h=> by omega) _⟩⟩
   case measure=> simp [intOf];omega
  ·have hkl:k=R.length:=by omega
   subst hkl
   rw [List.take_length] at hSt hfk
   obtain ⟨t,ht⟩: ∃t,t=R.foldl insX []:= ⟨_,rfl⟩
   rw [<-ht] at hSt hfk
   have m0:=hSt.Kk
   have m1:=hSt.runs
   have hrs:=HRes.out.block (hSt.kb.block _ HRes.out.lt (by omega))
   obtain ⟨⟨_,t0⟩,f0⟩:=hrs.row.at (i:=0) (by omega)
   obtain ⟨⟨_,t1⟩,f1⟩:=hrs.row.at (i:=1) (by omega)
   have HRs:=Kz hrs
   have HSt:=Kz hSt
   have hsb:=hSt.row.lt
   have hwb:=hrs.lt
   clear hrs hSt
   go_wp2
   have hR9:=World.rangeAt_setCells_same wr w.heap.size 0 [.slice ra Kk.length rc6,.slice d t.length dc] (HRs.out.row.there (o:=0) (m:=2) (Nat.le_refl _))
   have hO:=owns_set (owns_set HSt.out.own (p:= ⟨w.heap.size,0,none⟩) (by show w.heap.size < _;omega) (.slice ra Kk.length rc6)) (p:= ⟨w.heap.size,1,none⟩) (by show w.heap.size < _;omega) (.slice d t.length dc)
   have hT8:=owns_but HT7.out HSt.out.kb HSr.out (by decide)
   have hT9:=owns_set (owns_set hT8 (p:= ⟨w.heap.size,0,none⟩) (by show w.heap.size < _;omega) (.slice ra Kk.length rc6)) (p:= ⟨w.heap.size,1,none⟩) (by show w.heap.size < _;omega) (.slice d t.length dc)
   have hP9:= (HSt.out.pack.set (c:=w.heap.size) (p:=0) (fun b h=> by omega) (.slice ra Kk.length rc6)).set (c:=w.heap.size) (p:=1) (fun b h=> by omega) (.slice d t.length dc)
   subst ht
   refine X_ [.slice ra Kk.length rc6,.slice d (R.foldl insX []).length dc] _ Tryz.results46 rfl hR9 Tryz.underlying41 rfl Tryz.xSizeState rfl ⟨ra,rc6,d,dc,xs,rfl,owns_base hT9 (by omega),owns_base hO (by omega),⟨hP9.1,fun i hi=> by obtain ⟨xa,xc,e,h1,h2,h3⟩:=hP9.2 i hi;exact ⟨xa,xc,e,h1,h2,fun ad e=> by have:=h3 ad e;omega⟩⟩, ?_⟩
   exact ((HSt.out.kb.kept K1 (by omega)).setCell (Nat.le_refl _) _).setCell (Nat.le_refl _) _
theorem filter_two {α:Type} (p q:α->Bool) (h: ∀x,¬(p x=true∧q x=true)): ∀l:List α,(l.filter p).length+ (l.filter q).length<=l.length
 | []=> Nat.le_refl _
 | x :: l=> by
  have ih:=filter_two p q h l
  have hx:=h x
  simp only [List.filter_cons]
  by_cases h1:p x=true
  ·have h2: ¬q x=true:=fun h2=> hx ⟨h1,h2⟩
   rw [if_pos h1,if_neg h2,List.length_cons,List.length_cons]
   omega
  ·rw [if_neg h1]
   by_cases h2:q x=true
   ·rw [if_pos h2,List.length_cons,List.length_cons];omega
   ·rw [if_neg h2,List.length_cons];omega
theorem ins_len1 (l:List Qz) (r:Qz): (insX l r).length<=l.length+1:=by
 unfold insX
 rw [List.length_append,List.length_cons]
 have:=filter_two (fun x:Qz=> Op.bytesLess x.name.toList r.name.toList) (fun x:Qz=> Op.bytesLess r.name.toList x.name.toList) (fun x h=> lessX_asymm h.1 h.2) l
 omega
theorem foldl_len : ∀(l t:List Qz),(l.foldl insX t).length<=t.length+l.length
 | [],_=> Nat.le_refl _
 | x :: l,t=> by
  have h1:=foldl_len l (insX t x)
  have h2:=ins_len1 t x
  show (l.foldl insX (insX t x)).length<=_
  rw [List.length_cons]
  omega
theorem take_foldl_len (R:List Qz) (k:Nat): ((R.take k).foldl insX []).length<=R.length:=by
 have h1:=foldl_len (R.take k) []
 have h2: (R.take k).length<=R.length:=by rw [List.length_take];omega
 simp only [List.length_nil] at h1
 omega
def StrsB (w:World) (nb:Nat) (a:Option Addr) (l:List ByteArray):Prop:= ∀i,i < l.length->∃b o,a=some ⟨b,o,none⟩∧b < w.heap.size∧b≠nb∧w.cell? ⟨b,o+i,none⟩=some (.string (l.getD i ByteArray.empty))
theorem StrsB.new {w w':World} {a:Option Addr} {l:List ByteArray} (h:Strs w a l) (k:K_ w w'):StrsB w' w.heap.size a l:=fun i hi=> by
 obtain ⟨b,o,e,hb,hc⟩:=h i hi
 exact ⟨b,o,e,Nat.lt_of_lt_of_le hb k.size,by omega,(k.cell hb).trans hc⟩
theorem StrsB.sets' {nb:Nat} {a:Option Addr} {l:List ByteArray}: ∀(vs:List Value) (p:Nat) {w:World},StrsB w nb a l->StrsB (w.setCells nb p vs) nb a l
 | [],_,_,h=> h
 | v :: r,p,w,h=> by
  rw [World.setCells]
  refine StrsB.sets' r (p+1) fun i hi=> ?_
  obtain ⟨b,o,e,hb,h1,hc⟩:=h i hi
  exact ⟨b,o,e,by rw [size_setCell];exact hb,h1,by rw [Zk h1];exact hc⟩
theorem StrsB.sets {nb:Nat} {a:Option Addr} {l:List ByteArray} {w:World} (h:StrsB w nb a l) (vs:List Value) (p:Nat):Strs (w.setCells nb p vs) a l:=fun i hi=> by
 obtain ⟨b,o,e,hb,_,hc⟩:=StrsB.sets' vs p h i hi
 exact ⟨b,o,e,hb,hc⟩
theorem RowT.sets {b n:Nat} {t:TypeId}: ∀(vs:List Value) (p:Nat) {w:World},RowT w b t n->RowT (w.setCells b p vs) b t n
 | [],_,_,h=> h
 | v :: r,p,_,h=> by rw [World.setCells];exact RowT.sets r (p+1) (h.set v)
theorem RBox.laid {w:World} {nb:Nat} (h:RowT w nb 83 7) {q:Qz} {xq:Option Addr} {cq:Nat}:RBox (w.setCells nb 0 (q.cells xq cq)) nb q xq cq:=
 ⟨RowT.sets _ _ h,World.rangeAt_setCells_same w nb 0 (q.cells xq cq) (h.row.there (o:=0) (m:=7) (Nat.le_refl _))⟩
def PackedY (w:World) (P:Nat->Prop) (xs:List Value) (l:List Qz):Prop:=xs.length=l.length * 7∧∀i,i < l.length->∃xa xc,(xs.drop (i * 7)).take 7= (l.getD i Qz.zero).cells xa xc∧TStrs w 9 xa (l.getD i Qz.zero).texts∧(xa=none->xc=0)∧(∀ad:Addr,xa=some ad->P ad.block)
theorem PackedY.nil (w:World) (P:Nat->Prop):PackedY w P [] []:= ⟨rfl,fun i hi=> by simp at hi⟩
theorem PackedY.same {w w':World} {P:Nat->Prop} {xs:List Value} {l:List Qz} {u:TypeId} (h:PackedY w P xs l) (k:SameKind u w w') (hu:9≠u):PackedY w' P xs l:= ⟨h.1,fun i hi=> by obtain ⟨xa,xc,e,hs,hx⟩:=h.2 i hi;exact ⟨xa,xc,e,hs.same k hu,hx⟩⟩
theorem PackedY.kept {w w':World} {P:Nat->Prop} {xs:List Value} {l:List Qz} (h:PackedY w P xs l) (k:K_ w w'):PackedY w' P xs l:=h.same (u:=83) (SameKind.of_kept k) (by decide)
theorem PackedY.plain {w:World} {P:Nat->Prop} {xs:List Value} {l:List Qz} (h:PackedY w P xs l):PackedX w P xs l:= ⟨h.1,fun i hi=> by obtain ⟨xa,xc,e,hs,hx⟩:=h.2 i hi;exact ⟨xa,xc,e,hs.strs,hx⟩⟩
theorem PackedY.snoc {w:World} {P:Nat->Prop} {xs:List Value} {l:List Qz} {r:Qz} {xa:Option Addr} {xc:Nat} (h:PackedY w P xs l) (hs:TStrs w 9 xa r.texts) (hx:xa=none->xc=0) (hp: ∀ad:Addr,xa=some ad->P ad.block):PackedY w P (xs++r.cells xa xc) (l++ [r]):=by
 refine ⟨by simp [h.1,Qz.cells];omega,fun i hi=> ?_⟩
 rw [List.length_append] at hi
 simp only [List.length_cons,List.length_nil] at hi
 by_cases e:i < l.length
 ·have e1: (l++ [r]).getD i Qz.zero=l.getD i Qz.zero:=by simp [List.getD,List.getElem?_append_left e]
  have e2: ((xs++r.cells xa xc).drop (i * 7)).take 7= (xs.drop (i * 7)).take 7:=by
   rw [List.drop_append_of_le_length (by rw [h.1];omega),List.take_append_of_le_length (by rw [List.length_drop,h.1];omega)]
  rw [e1,e2]
  exact h.2 i e
 ·obtain rfl:i=l.length:=by omega
  have e1: (l++ [r]).getD l.length Qz.zero=r:=by simp [List.getD]
  have e2: ((xs++r.cells xa xc).drop (l.length * 7)).take 7=r.cells xa xc:=by
   rw [<-h.1,List.drop_left]
   rfl
  rw [e1,e2]
  exact ⟨xa,xc,rfl,hs,hx,hp⟩
theorem tstrs_owned {w:World} {base:Nat} {t:TypeId} {a:Option Addr} {cap n:Nat} {l:List ByteArray} (h:w.ownsRow base t 1 (.slice a n cap) n (l.map Value.string)):TStrs w t a l∧(a=none->cap=0)∧∀ad:Addr,a=some ad->base<=ad.block:=by
 have hn:n=l.length:=by have:=h.1;simp at this;omega
 rcases h.2 with ⟨e,h0⟩ | ⟨g,c2,cur,e,hb,hg,hnc,_,_,_⟩
 ·simp only [Value.slice.injEq] at e
  obtain ⟨rfl,_,rfl⟩:=e
  refine ⟨.inl (List.length_eq_zero_iff.1 (by omega)),fun _=> rfl,fun _ e=> by cases e⟩
 ·simp only [Value.slice.injEq] at e
  obtain ⟨rfl,_,rfl⟩:=e
  refine ⟨.inr ⟨g,cur,_,rfl,hg,fun i hi=> ?_⟩,fun e=> (by cases e),fun ad e=> by cases e;exact hb⟩
  have:=h.cells (g:=g) rfl i (.string (l.getD i ByteArray.empty)) (by simp [List.getD,hi])
  rw [Addr.add_mid,Nat.zero_add] at this
  exact this
structure CpX (W1 wr:World) (sb:Nat) (ra:Option Addr) (n rc:Nat) (d:Option Addr) (t:List Qz) (dc:Nat) (xs:List Value):Prop where
 kb:Xk sb (sb+1) W1 wr
 row:RowT wr sb 41 2
 Kk:wr.cell? ⟨sb,0,none⟩=some (.slice ra n rc)
 runs:wr.cell? ⟨sb,1,none⟩=some (.slice d t.length dc)
 own:wr.ownsRow W1.heap.size 83 7 (.slice d t.length dc) t.length xs
 pack:PackedY wr (fun b=> sb < b) xs t
theorem CpX.kept {W1 wr w':World} {sb n rc dc:Nat} {ra d:Option Addr} {t:List Qz} {xs:List Value} (h:CpX W1 wr sb ra n rc d t dc xs) (k:K_ wr w'):CpX W1 w' sb ra n rc d t dc xs:=
 ⟨h.kb.trans (Xk.of_kept k),h.row.kept k,(k.cell h.row.lt).trans h.Kk,(k.cell h.row.lt).trans h.runs,ownsRow_kept' h.own k,h.pack.kept k⟩
theorem cp_ne {w:World} {sb base n:Nat} {v:Value} {xs:List Value} (hr:RowT w sb 41 2) (h:w.ownsRow base 83 7 v n xs):some sb≠v.ownBlock:=by
 rcases h.2 with ⟨rfl,_⟩ | ⟨g,cap,cur,rfl,_,hg,_⟩
 ·intro e;cases e
 ·intro e
  simp only [Value.ownBlock,Option.some.injEq] at e
  subst e
  obtain ⟨c2,h2,_⟩:=hr
  rw [hg] at h2
  simp only [Option.some.injEq,Obj.cells.injEq] at h2
  exact absurd h2.2.1 (by decide)
theorem CpX.next {W1 wr W w6:World} {sb n rc dc cv:Nat} {ra d av:Option Addr} {t:List Qz} {xs:List Value} {y:Qz} {xa:Option Addr} {xc:Nat} (h:CpX W1 wr sb ra n rc d t dc xs) (hsb:sb < W1.heap.size) (KW:K_ wr W) (hgr:W.grownBy w6 (Value.slice d t.length dc).ownBlock)
  (hO6:w6.ownsRow W1.heap.size 83 7 (.slice av (t.length+1) cv) (t.length+1) (xs++y.cells xa xc)) (hs:TStrs W 9 xa y.texts) (hx:xa=none->xc=0) (hp: ∀ad:Addr,xa=some ad->sb < ad.block):
  CpX W1 (w6.setCell ⟨sb,1,none⟩ (.slice av (t.length+1) cv)) sb ra n rc av (t++ [y]) cv (xs++y.cells xa xc):=by
 have hW:=h.kept KW
 have hb:w6.heap[sb]? =W.heap[sb]? :=hgr.block sb hW.row.lt (cp_ne hW.row hW.own)
 have hl: (t++ [y]).length=t.length+1:=by simp
 have hr6:=hW.row.block hb
 have sk:= (SameKind.of_grown hW.own hgr)
 refine ⟨?_,hr6.set _, ?_, ?_, ?_, ?_⟩
 ·refine Xk.setCell ⟨hgr.os.trans hW.kb.os,hgr.tape.trans hW.kb.tape,hgr.output.trans hW.kb.output,Nat.le_trans hW.kb.size hgr.size,fun b hb' hn=> (hgr.block b (Nat.lt_of_lt_of_le hb' hW.kb.size) (fun e=> ?_)).trans (hW.kb.block b hb' hn)⟩ (Nat.le_refl _) (Nat.lt_succ_self _) _
  have:= (hW.own.lt b e.symm).1
  omega
 ·rw [Xx (by omega),World.cell?_of_block (w:=W) hb];exact hW.Kk
 ·rw [hl];exact set_hit hr6.row (by omega) _
 ·rw [hl];exact owns_set hO6 hsb _
 ·exact ((hW.pack.same sk (by decide)).snoc (hs.same sk (by decide)) hx hp).same (hr6.same (o:=1) _) (by decide)
structure But (S:Nat->Prop) (w w':World):Prop where
 os:w'.os=w.os
 tape:w'.tape=w.tape
 output:w'.output=w.output
 size:w.heap.size<=w'.heap.size
 block: ∀b,b < w.heap.size->¬S b->w'.heap[b]? =w.heap[b]?
section
variable {S : Nat -> Prop} {w w' w'' wz : World}
theorem But.of_kept (h:K_ w w'):But S w w':= ⟨h.os,h.tape,h.output,h.size,fun b hb _=> h.block b hb⟩
theorem But.of_grown {row:Option Nat} (h:w.grownBy w' row) (hs: ∀b,row=some b->S b):But S w w':= ⟨h.os,h.tape,h.output,h.size,fun b hb hn=> h.block b hb (fun e=> hn (hs b e.symm))⟩
theorem But.trans (h:But S w w') (k:But S w' w''):But S w w'':= ⟨k.os.trans h.os,k.tape.trans h.tape,k.output.trans h.output,Nat.le_trans h.size k.size,fun b hb hn=> (k.block b (Nat.lt_of_lt_of_le hb h.size) hn).trans (h.block b hb hn)⟩
theorem But.set (h:But S w w') {p:Addr} (hs:S p.block) (v:Value):But S w (w'.setCell p v):= ⟨h.os,h.tape,h.output,by rw [size_setCell];exact h.size,fun b hb hn=> by rw [Below.heap_setCell _ _ _ _ (fun e=> hn (by rw [e];exact hs))];exact h.block b hb hn⟩
theorem But.mono {S':Nat->Prop} (h:But S w w') (hs: ∀b,b < w.heap.size->S b->S' b):But S' w w':= ⟨h.os,h.tape,h.output,h.size,fun b hb hn=> h.block b hb (fun e=> hn (hs b hb e))⟩
theorem But.kept (h:But S w w') (k:K_ wz w) (hs: ∀b,S b->wz.heap.size<=b):K_ wz w':=
 ⟨h.os.trans k.os,h.tape.trans k.tape,h.output.trans k.output,Nat.le_trans k.size h.size,fun b hb=> (h.block b (Nat.lt_of_lt_of_le hb k.size) (fun e=> by have:=hs b e;omega)).trans (k.block b hb)⟩
theorem But.cell (h:But S w w') {b o:Nat} (hb:b < w.heap.size) (hn: ¬S b):w'.cell? ⟨b,o,none⟩=w.cell? ⟨b,o,none⟩:=World.cell?_of_block (w:=w) (h.block b hb hn)
theorem But.row (h:But S w w') {b n:Nat} {t:TypeId} (hr:RowT w b t n) (hn: ¬S b):RowT w' b t n:=hr.block (h.block b hr.lt hn)
theorem But.range (h:But S w w') {b o n:Nat} {t:TypeId} (hr:RowT w b t n) (hn: ¬S b) {cs:List Value} (hc:w.rangeAt b o cs):w'.rangeAt b o cs:=fun j v hv=> (h.cell hr.lt hn).trans (hc j v hv)
theorem But.owns (h:But S w w') {base size n:Nat} {e:TypeId} {v:Value} {xs:List Value} (ho:w.ownsRow base e size v n xs) (hn: ∀b,v.ownBlock=some b->¬S b):w'.ownsRow base e size v n xs:=by
 refine ⟨ho.1, ?_⟩
 rcases ho.2 with h2 | ⟨g,cap,cur,rfl,hb,hg,rest⟩
 ·exact .inl h2
 ·exact .inr ⟨g,cap,cur,rfl,hb,by rw [h.block g (heap_lt hg) (hn g rfl)];exact hg,rest⟩
end
def TypeAt (w:World) (b:Nat) (t:TypeId):Prop:= ∃cur fr,w.heap[b]? =some (Obj.cells cur t fr)
theorem RowT.type {w:World} {b n:Nat} {t:TypeId} (h:RowT w b t n):TypeAt w b t:=let ⟨cur,h1,_⟩:=h;⟨cur,_,h1⟩
theorem Yz {w:World} {base size n:Nat} {e:TypeId} {v:Value} {xs:List Value} (h:w.ownsRow base e size v n xs) {b:Nat} (hb:v.ownBlock=some b):TypeAt w b e:=by
 rcases h.2 with ⟨rfl,_⟩ | ⟨g,cap,cur,rfl,_,hg,_⟩
 ·cases hb
 ·simp only [Value.ownBlock,Option.some.injEq] at hb
  subst hb
  exact ⟨cur,_,hg⟩
theorem type_ne {w:World} {b c:Nat} {t u:TypeId} (h:TypeAt w b t) (k:TypeAt w c u) (hn:t≠u):b≠c:=by
 rintro rfl
 obtain ⟨c1,f1,h1⟩:=h
 obtain ⟨c2,f2,h2⟩:=k
 rw [h1] at h2
 simp only [Option.some.injEq,Obj.cells.injEq] at h2
 exact hn h2.2.1
structure Zx where
 tb:Nat
 r:Qz
 cost:Int
 steps:List Xj
 sa:Option Addr
 sc:Nat
 op:Nat
 tv:Value
 qv:Value
 qs:List Value
 bl:ByteArray
def Zx.cells (t:Zx):List Value:=[.string t.r.name,.bool t.r.over,.bool t.r.fail,.string t.r.text,.int .i64 t.r.at',.int .i64 t.r.Zj,t.tv,.int .i64 t.cost,.slice t.sa t.steps.length t.sc,.int .i64 (t.op:Int),t.qv,.string t.bl]
def Zx.ptr (t:Zx):Value:= .pointer (some ⟨t.tb,0,none⟩)
def Zx.own (t:Zx):List Nat:=t.tv.ownBlock.toList++t.qv.ownBlock.toList
def ptrB (b:Nat):Value:= .pointer (some ⟨b,0,none⟩)
structure TaskAt (base:Nat) (w:World) (t:Zx):Prop where
 row:RowT w t.tb 135 12
 rng:w.rangeAt t.tb 0 t.cells
 txt:w.ownsRow base 9 1 t.tv t.r.texts.length (t.r.texts.map Value.string)
 ask:w.ownsRow base 9 1 t.qv t.qs.length t.qs
 low:base<=t.tb
theorem TaskAt.own_type {base:Nat} {w:World} {t:Zx} (h:TaskAt base w t) {x:Nat} (hx:x∈t.own):TypeAt w x 9∧base<=x∧x < w.heap.size:=by
 unfold Zx.own at hx
 rcases List.mem_append.1 hx with hx | hx
 ·have e:=Option.mem_toList.1 hx
  exact ⟨Yz h.txt e,h.txt.lt x e⟩
 ·have e:=Option.mem_toList.1 hx
  exact ⟨Yz h.ask e,h.ask.lt x e⟩
theorem TaskAt.but {base:Nat} {S:Nat->Prop} {w w':World} {t:Zx} (h:TaskAt base w t) (k:But S w w') (h1: ¬S t.tb) (h2: ∀x∈t.own,¬S x):TaskAt base w' t:=
 ⟨k.row h.row h1,k.range h.row h1 h.rng,k.owns h.txt (fun b hb=> h2 b (List.mem_append.2 (.inl (Option.mem_toList.2 hb)))),k.owns h.ask (fun b hb=> h2 b (List.mem_append.2 (.inr (Option.mem_toList.2 hb)))),h.low⟩
def asIs (v:Value):Option (DataW Value×List MemPlace):=some (.held v,[])
def keyLit (s:ByteArray):Lit:= .string s.data.toList
def Qk (ts:List Zx):List Qz:=ts.map (·.r)
structure Ghost where
 wo:World
 K:Nat->Prop
 ps:List (Nat×ByteArray)
def Ghost.no (w:World):Ghost:= ⟨w,fun _=> False,[]⟩
structure Fen (G:Ghost) (w:World) (bb mb:Nat) (ts:List Zx) (f:ByteArray->Value):Prop where
 size:G.wo.heap.size<=w.heap.size
 lt: ∀k,G.K k->k < G.wo.heap.size
 same: ∀k,G.K k->w.heap[k]? =G.wo.heap[k]?
 nb: ¬G.K bb
 nm: ¬G.K mb
 nt: ∀t∈ts,¬G.K t.tb∧∀x∈t.own,¬G.K x
 nf: ∀s x,(f s).ownBlock=some x->¬G.K x
 has: ∀p∈G.ps,∃t∈ts,t.tb=p.1∧t.r.name=p.2
theorem Fen.but {G:Ghost} {S:Nat->Prop} {w w':World} {bb mb:Nat} {ts:List Zx} {f:ByteArray->Value} (h:Fen G w bb mb ts f) (k:But S w w') (hS: ∀b,S b->¬G.K b):Fen G w' bb mb ts f:=
 ⟨Nat.le_trans h.size k.size,h.lt,fun b hb=> (k.block b (Nat.lt_of_lt_of_le (h.lt b hb) h.size) (fun e=> hS b e hb)).trans (h.same b hb),h.nb,h.nm,h.nt,h.nf,h.has⟩
theorem Fen.far {G:Ghost} {w:World} {bb mb:Nat} {ts:List Zx} {f:ByteArray->Value} (h:Fen G w bb mb ts f) {x:Nat} (hx:w.heap.size<=x): ¬G.K x:=fun hk=> by
 have h1:=h.lt x hk
 have h2:=h.size
 omega
theorem Fen.no {w w':World} {bb mb:Nat} {ts:List Zx} {f:ByteArray->Value} (h:w.heap.size<=w'.heap.size):Fen (Ghost.no w) w' bb mb ts f:=
 ⟨h,fun _ e=> e.elim,fun _ e=> e.elim,id,id,fun _ _=> ⟨id,fun _ _=> id⟩,fun _ _ _=> id,fun _ h=> (by cases h)⟩
structure BM (G:Ghost) (Kj:List Qq) (wz w:World) (bb:Nat) (a:Option Addr) (cap:Nat) (rd:Option Addr) (rn rc:Nat) (mb mx:Nat) (ts:List Zx) (d:Option Addr) (dc:Nat) (f:ByteArray->Value) (ws:ByteArray->List Nat):Prop where
 kw:K_ wz w
 row:RowT w bb 131 6
 c0:w.cell? ⟨bb,0,none⟩=some (.slice a Kj.length cap)
 c1:w.cell? ⟨bb,1,none⟩=some (.func (.func 97) #[] #[])
 c2:w.cell? ⟨bb,2,none⟩=some (.slice rd rn rc)
 c3:w.cell? ⟨bb,3,none⟩=some (.slice d ts.length dc)
 c4:w.cell? ⟨bb,4,none⟩=some (.func (.func 112) #[] #[])
 c5:w.cell? ⟨bb,5,none⟩=some (.map (some mb))
 low:wz.heap.size<=bb
 items:w.ownsRow wz.heap.size 125 1 (.slice d ts.length dc) ts.length (ts.map Zx.ptr)
 task: ∀t∈ts,TaskAt wz.heap.size w t
 act: ∀t∈ts,Q_ Kj t.r.name=some ⟨t.cost,t.steps⟩∧Steps wz t.sa t.steps
 asc:AscX (Qk ts)
 tbs: (ts.map (·.tb)).Nodup
 sep:ts.Pairwise fun t u=> ∀x∈t.own,x∉u.own
 sep2: ∀t∈ts,t.own.Nodup
 map: ∃N D,N<=mx∧w.ownsMap Tryz.prog 9 asIs mb N D∧∀s:ByteArray,s.size<=maxLen->D.atKey (keyLit s) (.held (.slice none 0 0))= .held (f s)
 mlow:wz.heap.size<=mb
 wrow: ∀s,w.ownsRow wz.heap.size 125 1 (f s) (ws s).length ((ws s).map ptrB)
 wsep: ∀s s',s≠s'->∀x,(f s).ownBlock=some x->(f s').ownBlock≠some x
 isep: ∀s x,(f s).ownBlock=some x->(Value.slice d ts.length dc).ownBlock≠some x
 qb: ∀t∈ts,t.qs.length<=5 * mx
 oth:Fen G w bb mb ts f
theorem map_but {S:Nat->Prop} {w w':World} {mb N:Nat} {D:DataW Value} (h:w.ownsMap Tryz.prog 9 asIs mb N D) (k:But S w w') (hn: ¬S mb):w'.ownsMap Tryz.prog 9 asIs mb N D:=by
 obtain ⟨es,clock,hb,F,hs,hD⟩:=h
 exact ⟨es,clock,by rw [k.block mb (heap_lt hb) hn];exact hb,F,hs,hD⟩
theorem map_ne {w:World} {mb N b:Nat} {D:DataW Value} {t:TypeId} (h:w.ownsMap Tryz.prog 9 asIs mb N D) (k:TypeAt w b t):b≠mb:=by
 rintro rfl
 obtain ⟨es,clock,hb,_⟩:=h
 obtain ⟨cur,fr,hc⟩:=k
 rw [hb] at hc
 cases hc
section
variable {G : Ghost} {Kj : List Qq} {wz w w' : World} {bb : Nat} {a : Option Addr} {cap : Nat} {rd : Option Addr} {rn rc : Nat} {mb mx : Nat} {ts : List Zx} {d : Option Addr} {dc : Nat} {f : ByteArray -> Value} {ws : ByteArray -> List Nat}
theorem BM.but {S:Nat->Prop} (h:BM G Kj wz w bb a cap rd rn rc mb mx ts d dc f ws) (k:But S w w') (hs: ∀b,S b->wz.heap.size<=b) (h1: ¬S bb) (h2: ¬S mb) (h3: ∀b,(Value.slice d ts.length dc).ownBlock=some b->¬S b) (h4: ∀s b,(f s).ownBlock=some b->¬S b) (h5: ∀t∈ts,¬S t.tb∧∀x∈t.own,¬S x) (h6: ∀b,S b->¬G.K b):BM G Kj wz w' bb a cap rd rn rc mb mx ts d dc f ws:=by
 have hb:=h.row.lt
 refine ⟨k.kept h.kw hs,k.row h.row h1,(k.cell hb h1).trans h.c0,(k.cell hb h1).trans h.c1,(k.cell hb h1).trans h.c2,(k.cell hb h1).trans h.c3,(k.cell hb h1).trans h.c4,(k.cell hb h1).trans h.c5,h.low,k.owns h.items h3,fun t ht=> (h.task t ht).but k (h5 t ht).1 (h5 t ht).2,h.act,h.asc,h.tbs,h.sep,h.sep2, ?_,h.mlow,fun s=> k.owns (h.wrow s) (h4 s),h.wsep,h.isep,h.qb,h.oth.but k h6⟩
 obtain ⟨N,D,hN,hM,hf⟩:=h.map
 exact ⟨N,D,hN,map_but hM k h2,hf⟩
theorem BM.kept (h:BM G Kj wz w bb a cap rd rn rc mb mx ts d dc f ws) (k:K_ w w'):BM G Kj wz w' bb a cap rd rn rc mb mx ts d dc f ws:=
 h.but (S:=fun _=> False) (But.of_kept k) (fun _ h=> h.elim) id id (fun _ _=> id) (fun _ _ _=> id) (fun _ _=> ⟨id,fun _ _=> id⟩) (fun _ h=> h.elim)
theorem BM.more {mx':Nat} (h:BM G Kj wz w bb a cap rd rn rc mb mx ts d dc f ws) (hm:mx<=mx'):BM G Kj wz w bb a cap rd rn rc mb mx' ts d dc f ws:=
 ⟨h.kw,h.row,h.c0,h.c1,h.c2,h.c3,h.c4,h.c5,h.low,h.items,h.task,h.act,h.asc,h.tbs,h.sep,h.sep2,(by obtain ⟨N,D,h1,h2⟩:=h.map;exact ⟨N,D,Nat.le_trans h1 hm,h2⟩),h.mlow,h.wrow,h.wsep,h.isep,fun t ht=> Nat.le_trans (h.qb t ht) (Nat.mul_le_mul_left 5 hm),h.oth⟩
theorem getElem_mem' {α:Type} {l:List α} {i:Nat} (h:i < l.length):l[i]∈l:=List.getElem_mem h
theorem runs_set {t':Zx} {i:Nat} (_hi:i < ts.length):Qk (ts.set i t')= (Qk ts).set i t'.r:=by simp [Qk,List.map_set]
theorem asc_set {l:List Qz} {i:Nat} {r':Qz} (h:AscX l) (hi:i < l.length) (hn:r'.name=l[i].name):AscX (l.set i r'):=by
 unfold AscX at h⊢
 rw [List.pairwise_iff_getElem] at h⊢
 intro p q hp hq hpq
 rw [List.length_set] at hp hq
 rw [List.getElem_set,List.getElem_set]
 have:=h p q hp hq hpq
 split <;> split
 ·omega
 ·rename_i e _;subst e;rw [hn];exact this
 ·rename_i _ e;subst e;rw [hn];exact this
 ·exact this
theorem BM.turn {S:Nat->Prop} (h:BM G Kj wz w bb a cap rd rn rc mb mx ts d dc f ws) {i:Nat} (hi:i < ts.length) (k:But S w w') (hS: ∀b,S b->b=ts[i].tb∨b∈ts[i].own) {t':Zx} (ht:TaskAt wz.heap.size w' t') (e1:t'.tb=ts[i].tb) (e2:t'.r.name=ts[i].r.name) (e3:t'.cost=ts[i].cost) (e4:t'.steps=ts[i].steps) (e5:t'.sa=ts[i].sa) (ho: ∀x∈t'.own,x∈ts[i].own∨w.heap.size<=x) (hn:t'.own.Nodup) (hqb:t'.qs.length<=5 * mx):BM G Kj wz w' bb a cap rd rn rc mb mx (ts.set i t') d dc f ws:=by
 have hb:=h.row.lt
 have hti:=h.task ts[i] (getElem_mem' hi)
 have hl: (ts.set i t').length=ts.length:=List.length_set ..
 have nS: ∀{b:Nat} {u:TypeId},TypeAt w b u->u≠135->u≠9->¬S b:=fun hu h1 h2 hs=> by
  rcases hS _ hs with e | e
  ·exact type_ne hu hti.row.type h1 e
  ·exact type_ne hu (hti.own_type e).1 h2 rfl
 have hm:=h.map
 obtain ⟨N,D,hN,hM,hf⟩:=hm
 have sMb: ¬S mb:=fun hs=> by
  rcases hS _ hs with e | e
  ·exact map_ne hM hti.row.type e.symm
  ·exact map_ne hM (hti.own_type e).1 rfl
 have sBb: ¬S bb:=nS h.row.type (by decide) (by decide)
 have other: ∀(j:Nat) (hj:j < ts.length),j≠i->¬S ts[j].tb∧∀x∈ts[j].own,¬S x:=fun j hj hji=> by
  have htj:=h.task ts[j] (getElem_mem' hj)
  refine ⟨fun hs=> ?_,fun x hx hs=> ?_⟩
  ·rcases hS _ hs with e | e
   ·have hnd:=List.pairwise_iff_getElem.1 h.tbs
    rcases Nat.lt_or_gt_of_ne hji with hlt | hlt
    ·have:=hnd j i (by simpa using hj) (by simpa using hi) hlt
     simp at this
     exact this e
    ·have:=hnd i j (by simpa using hi) (by simpa using hj) hlt
     simp at this
     exact this e.symm
   ·exact type_ne htj.row.type (hti.own_type e).1 (by decide) rfl
  ·rcases hS _ hs with e | e
   ·exact type_ne (htj.own_type hx).1 hti.row.type (by decide) e
   ·have hsp:=List.pairwise_iff_getElem.1 h.sep
    rcases Nat.lt_or_gt_of_ne hji with hlt | hlt
    ·exact hsp j i hj hi hlt x hx e
    ·exact hsp i j hi hj hlt x e hx
 have mem: ∀u∈ts.set i t',u=t'∨∃(j:Nat) (hj:j < ts.length),j≠i∧u=ts[j]:=fun u hu=> by
  obtain ⟨j,hj,rfl⟩:=List.getElem_of_mem hu
  rw [hl] at hj
  rw [List.getElem_set]
  split
  ·exact .inl rfl
  ·rename_i e;exact .inr ⟨j,hj,Ne.symm e,rfl⟩
 have hsz: ∀b,S b->wz.heap.size<=b:=fun b hs=> by
  rcases hS b hs with e | e
  ·rw [e];exact hti.low
  ·exact (hti.own_type e).2.1
 have hKS: ∀b,S b->¬G.K b:=fun b hs=> by
  rcases hS b hs with e | e
  ·rw [e];exact (h.oth.nt _ (getElem_mem' hi)).1
  ·exact (h.oth.nt _ (getElem_mem' hi)).2 b e
 have hfen:Fen G w' bb mb (ts.set i t') f:=by
  have h0:=h.oth.but k hKS
  refine ⟨h0.size,h0.lt,h0.same,h0.nb,h0.nm,fun u hu=> ?_,h0.nf,fun p hp=> ?_⟩
  rotate_left
  ·obtain ⟨u,hu,g1,g2⟩:=h.oth.has p hp
   obtain ⟨j,hj,rfl⟩:=List.getElem_of_mem hu
   by_cases e:j=i
   ·subst e
    exact ⟨t',List.mem_set hj _,by rw [e1];exact g1,by rw [e2];exact g2⟩
   ·refine ⟨ts[j], ?_,g1,g2⟩
    have e3: (ts.set i t')[j]'(by rw [hl];exact hj)=ts[j]:=by rw [List.getElem_set,if_neg (Ne.symm e)]
    rw [<-e3]
    exact List.getElem_mem _
  rcases mem u hu with rfl | ⟨j,hj,hji,rfl⟩
  ·refine ⟨by rw [e1];exact (h.oth.nt _ (getElem_mem' hi)).1,fun x hx=> ?_⟩
   rcases ho x hx with g | g
   ·exact (h.oth.nt _ (getElem_mem' hi)).2 x g
   ·exact h.oth.far g
  ·exact h.oth.nt _ (getElem_mem' hj)
 refine ⟨k.kept h.kw hsz,k.row h.row sBb,(k.cell hb sBb).trans h.c0,(k.cell hb sBb).trans h.c1,(k.cell hb sBb).trans h.c2,by rw [hl];exact (k.cell hb sBb).trans h.c3,(k.cell hb sBb).trans h.c4,(k.cell hb sBb).trans h.c5,h.low, ?_, ?_, ?_, ?_, ?_, ?_, ?_,⟨N,D,hN,map_but hM k sMb,hf⟩,h.mlow,fun s=> k.owns (h.wrow s) (fun b e=> nS (Yz (h.wrow s) e) (by decide) (by decide)),h.wsep,by rw [hl];exact h.isep,fun u hu=> by rcases mem u hu with rfl | ⟨j,hj,hji,rfl⟩;exact hqb;exact h.qb _ (getElem_mem' hj),hfen⟩
 ·have e: (ts.set i t').map Zx.ptr=ts.map Zx.ptr:=by
   rw [List.map_set]
   have e0:t'.ptr= (ts.map Zx.ptr)[i]'(by simpa using hi):=by simp [Zx.ptr,e1]
   rw [e0,List.set_getElem_self]
  rw [hl,e]
  exact k.owns h.items (fun b e=> nS (Yz h.items e) (by decide) (by decide))
 ·intro u hu
  rcases mem u hu with rfl | ⟨j,hj,hji,rfl⟩
  ·exact ht
  ·exact (h.task _ (getElem_mem' hj)).but k (other j hj hji).1 (other j hj hji).2
 ·intro u hu
  rcases mem u hu with rfl | ⟨j,hj,hji,rfl⟩
  ·rw [e2,e3,e4,e5];exact h.act _ (getElem_mem' hi)
  ·exact h.act _ (getElem_mem' hj)
 ·rw [runs_set hi]
  exact asc_set h.asc (by simpa [Qk] using hi) (by simp [Qk,e2])
 ·have e: (ts.set i t').map (·.tb)=ts.map (·.tb):=by
   rw [List.map_set]
   have e0:t'.tb= (ts.map (·.tb))[i]'(by simpa using hi):=by simp [e1]
   rw [e0,List.set_getElem_self]
  rw [e]
  exact h.tbs
 ·rw [List.pairwise_iff_getElem]
  have hsp:=List.pairwise_iff_getElem.1 h.sep
  intro p q hp hq hpq x hx
  rw [hl] at hp hq
  rw [List.getElem_set] at hx⊢
  split at hx
  ·rename_i e
   subst e
   rw [if_neg (by omega)]
   rcases ho x hx with g | g
   ·exact hsp i q hi hq hpq x g
   ·intro g2
    have:= ((h.task _ (getElem_mem' hq)).own_type g2).2.2
    omega
  ·split
   ·rename_i e
    subst e
    intro g
    rcases ho x g with g | g
    ·exact hsp p i hp hi hpq x hx g
    ·have:= ((h.task _ (getElem_mem' hp)).own_type hx).2.2
     omega
   ·exact hsp p q hp hq hpq x hx
 ·intro u hu
  rcases mem u hu with rfl | ⟨j,hj,hji,rfl⟩
  ·exact hn
  ·exact h.sep2 _ (getElem_mem' hj)
end
def BlOk (W:Acts) (r:Qz) (bl:ByteArray):Prop:=
 (bl= ⟨#[]⟩∧(r.over=true->r.fail=true->r.text=spentB∨∃A,W r.name=some A∧(stepOf A r.at').fin=true))∨
 (r.over=true∧r.fail=true∧(∃A,W r.name=some A∧(stepOf A r.at').fin=false∧bl∈(stepOf A r.at').asks)∧r.text= (⟨#[98,101,108,111,119,32]⟩:ByteArray)++bl)
theorem BlOk.open {W:Acts} {r:Qz} {bl:ByteArray} (h:BlOk W r bl) (ho:r.over=false):bl= ⟨#[]⟩:=by
 rcases h with h | ⟨h,_⟩
 ·exact h.1
 ·rw [ho] at h;cases h
theorem BlOk.still {W:Acts} {r:Qz} {bl:ByteArray} (hb:bl= ⟨#[]⟩) (ho:r.over=false):BlOk W r bl:= .inl ⟨hb,fun h=> by rw [ho] at h;cases h⟩
def QsOk (W:Acts) (σ:Env) (r:Qz) (qs:List Value):Prop:= ∃L,Traj W σ r L∧qs=L.map Value.string
theorem QsOk.mono {W:Acts} {σ:Env} {m:ByteArray} {r:Qz} {qs:List Value} (h:QsOk W σ r qs) (hr:ReadyX W σ m):QsOk W (doX W σ m) r qs:=by
 obtain ⟨L,h1,h2⟩:=h
 exact ⟨L,h1.mono hr,h2⟩
theorem QsOk.unit {W:Acts} {σ:Env} {r:Qz} {qs:List Value} (h:QsOk W σ r qs) (hc:CanGo W σ r):QsOk W σ (Y_ W σ r).1 (qs++ (Y_ W σ r).2.map Value.string):=by
 obtain ⟨L,h1,h2⟩:=h
 exact ⟨_,h1.unit hc,by rw [h2,List.map_append]⟩
theorem QsOk.still {W:Acts} {σ:Env} {r:Qz} {qs:List Value} (hq:qs=[]) (hr:r=Qz.fresh r.name):QsOk W σ r qs:= ⟨[],by rw [hr];exact Traj.start _,hq⟩
def Zx.bq (t:Zx):ByteArray×List Value:= (t.bl,t.qs)
structure BS (Kj:List Qq) (ts:List Zx) (ws:ByteArray->List Nat):Prop where
 good:GoodL Kj (Qk ts)
 op: ∀t∈ts,t.op= (pend (Q_ Kj) (Qj (Qk ts)) t.r).length
 wt: ∀s,∀t∈ts,(t.tb∈ws s↔s∈pend (Q_ Kj) (Qj (Qk ts)) t.r)
 wn: ∀s,(ws s).Nodup
 ww: ∀s b,b∈ws s->∃t∈ts,t.tb=b
 bl: ∀t∈ts,BlOk (Q_ Kj) t.r t.bl
 qs: ∀t∈ts,QsOk (Q_ Kj) (Qj (Qk ts)) t.r t.qs
theorem web_len {Kj:List Qq} (h:WebCode Kj 0):Kj.length<=60:=by
 rcases h with ⟨_,h⟩ | ⟨_,_,h⟩ | ⟨_,_,_,h⟩ | ⟨_,_,_,_,h⟩ | ⟨h,_⟩
 ·cases h
 ·cases h
 ·cases h
 ·cases h
 ·omega
theorem web_node {Kj:List Qq} (h:WebCode Kj 0) {k:Nat} (hk:k < Kj.length):NameOk (Kj.getD k Qq.zero).name∧ActionOk ⟨(Kj.getD k Qq.zero).cost,(Kj.getD k Qq.zero).steps⟩:=by
 rcases h with ⟨_,h⟩ | ⟨_,_,h⟩ | ⟨_,_,_,h⟩ | ⟨_,_,_,_,h⟩ | ⟨_,h1,_,h2,_⟩
 ·cases h
 ·cases h
 ·cases h
 ·cases h
 ·refine ⟨Classical.byContradiction fun hc=> h1 ⟨k,hk,hc⟩,Classical.byContradiction fun hc=> h2 ⟨k,hk,hc⟩⟩
theorem web_acts {Kj:List Qq} (h:WebCode Kj 0):ActsOk (Q_ Kj):=fun n A hA=> by
 obtain ⟨k,h1,h2,_,rfl⟩:=acts_first hA
 obtain ⟨g1,g2⟩:=web_node h h1
 rw [h2] at g1
 exact ⟨g2,g1⟩
theorem web_small {Kj:List Qq} (h:WebCode Kj 0):SmallAsks Kj:=fun y hy s hs=> by
 obtain ⟨k,hk,rfl⟩:=List.getElem_of_mem hy
 have h1:= (web_node h hk).2
 simp only [List.getD,List.getElem?_eq_getElem hk,Option.getD_some] at h1
 obtain ⟨i,hi,rfl⟩:=List.getElem_of_mem hs
 have h2:=asks_ok (i:= (i:Int)) h1 (by omega) (by show (i:Int) < ((Kj[k].steps.length:Nat):Int);omega)
 have e:stepOf ⟨Kj[k].cost,Kj[k].steps⟩ (i:Int)=Kj[k].steps[i]:=by simp [stepOf,List.getD,hi]
 rw [e] at h2
 exact ⟨by omega,fun x hx=> by have:= (h2.2 x hx).2.1;omega⟩
structure XVar (wr:World) (xb:Nat) (Kk:List ByteArray) (L:List Qz) (ra:Option Addr) (rc:Nat) (d:Option Addr) (dc:Nat):Prop where
 row:RowT wr xb 41 2
 c0:wr.cell? ⟨xb,0,none⟩=some (.slice ra Kk.length rc)
 c1:wr.cell? ⟨xb,1,none⟩=some (.slice d L.length dc)
 rts:Strs wr ra Kk
 rns:RunsX wr d L
theorem XVar.kept {w w':World} {xb rc dc:Nat} {Kk:List ByteArray} {L:List Qz} {ra d:Option Addr} (h:XVar w xb Kk L ra rc d dc) (k:K_ w w'):XVar w' xb Kk L ra rc d dc:=
 ⟨h.row.kept k,(k.cell h.row.lt).trans h.c0,(k.cell h.row.lt).trans h.c1,h.rts.kept k,h.rns.kept k⟩
theorem XVar.made {w:World} {rc dc:Nat} {Kk:List ByteArray} {L:List Qz} {ra d:Option Addr} (hT:Strs w ra Kk) (hS:RunsX w d L):XVar (w.alloc (.cells #[.slice ra Kk.length rc,.slice d L.length dc] 41)) w.heap.size Kk L ra rc d dc:=
 ⟨RowT.made w _ _,Xz w #[.slice ra Kk.length rc,.slice d L.length dc] 41 0 _ rfl,Xz w #[.slice ra Kk.length rc,.slice d L.length dc] 41 1 _ rfl,hT.kept ((K_.refl _).alloc _),hS.kept ((K_.refl _).alloc _)⟩
theorem XVar.laid {W w':World} {rc dc xb:Nat} {Kk:List ByteArray} {L:List Qz} {ra d:Option Addr} {xs:List Value} (hx:xb < W.heap.size) (hr:RowT w' xb 41 2) (hT:w'.ownsRow W.heap.size 9 1 (.slice ra Kk.length rc) Kk.length (Kk.map Value.string)) (hO:w'.ownsRow W.heap.size 83 7 (.slice d L.length dc) L.length xs) (hP:PackedX w' (fun b=> W.heap.size<=b) xs L):XVar (w'.setCells xb 0 [.slice ra Kk.length rc,.slice d L.length dc]) xb Kk L ra rc d dc:=by
 have hR:=World.rangeAt_setCells_same w' xb 0 [.slice ra Kk.length rc,.slice d L.length dc] (hr.row.there (o:=0) (m:=2) (Nat.le_refl _))
 refine ⟨RowT.sets _ _ hr,hR 0 _ rfl,hR 1 _ rfl, ?_, ?_⟩
 ·have h1:=owns_set (owns_set hT (p:= ⟨xb,0,none⟩) hx (.slice ra Kk.length rc)) (p:= ⟨xb,1,none⟩) hx (.slice d L.length dc)
  obtain ⟨a9,c9,e9,h9⟩:=owned_strs h1
  simp only [Value.slice.injEq,true_and] at e9
  rw [<-e9.1] at h9
  exact h9
 ·have h1:=owns_set (owns_set hO (p:= ⟨xb,0,none⟩) hx (.slice ra Kk.length rc)) (p:= ⟨xb,1,none⟩) hx (.slice d L.length dc)
  have h2:= (hP.set (c:=xb) (p:=0) (fun b h=> by omega) (.slice ra Kk.length rc)).set (c:=xb) (p:=1) (fun b h=> by omega) (.slice d L.length dc)
  obtain ⟨_,a9,c9,e9,h9⟩:=PackedX.runs h1 h2 (K_.refl _)
  simp only [Value.slice.injEq,true_and] at e9
  rw [<-e9.1] at h9
  exact h9.runs
theorem StrsB.but {w w':World} {xb:Nat} {a:Option Addr} {l:List ByteArray} (h:StrsB w xb a l) (k:Xk xb (xb+1) w w'):StrsB w' xb a l:=fun i hi=> by
 obtain ⟨b,o,e,hb,h1,hc⟩:=h i hi
 exact ⟨b,o,e,Nat.lt_of_lt_of_le hb k.size,h1,by rw [World.cell?_of_block (w:=w) (k.block b hb (by omega))];exact hc⟩
theorem StrsB.strs {w:World} {xb:Nat} {a:Option Addr} {l:List ByteArray} (h:StrsB w xb a l):Strs w a l:=fun i hi=> by
 obtain ⟨b,o,e,hb,_,hc⟩:=h i hi
 exact ⟨b,o,e,hb,hc⟩
theorem StrsB.owned {w:World} {base xb:Nat} {t:TypeId} {a:Option Addr} {c:Nat} {l:List ByteArray} (h:w.ownsRow base t 1 (.slice a l.length c) l.length (l.map Value.string)) (hx:xb < base):StrsB w xb a l:=by
 rcases h.2 with ⟨e,h0⟩ | ⟨g,cap,cur,e,hb,hg,hnc,_,_,_⟩
 ·intro i hi;rw [h0] at hi;exact absurd hi (Nat.not_lt_zero _)
 ·intro i hi
  simp only [Value.slice.injEq] at e
  obtain ⟨rfl,_,rfl⟩:=e
  refine ⟨g,0,rfl,heap_lt hg,by omega, ?_⟩
  have:=h.cells (g:=g) rfl i (.string (l.getD i ByteArray.empty)) (by simp [List.getD,hi])
  rw [Addr.add_mid] at this
  exact this
theorem Xk.sets {lo hi:Nat} {a:World} {g:Nat} (h1:lo<=g) (h2:g < hi): ∀(vs:List Value) (o:Nat) {u:World},Xk lo hi a u->Xk lo hi a (u.setCells g o vs)
 | [],_,_,h=> h
 | v :: r,o,_,h=> by rw [World.setCells];exact Xk.sets h1 h2 r (o+1) (h.setCell (p:= ⟨g,o,none⟩) h1 h2 v)
def ValidX (Kj:List Qq) (Kk:List ByteArray) (sl:List Qz):Prop:=WebCode Kj 0∧RootsOk Kk∧sl.length<=Kj.length∧GoalX Kj Kk sl
structure OutV (Kj:List Qq) (Kk:List ByteArray) (sl:List Qz) (L:List Qz) (bb:Bool) (gg:Nat):Prop where
 good:GoodL Kj L
 led: ∃k,Leads (Behind (W:=Q_ Kj) behindS (Qj sl)) (doX (Q_ Kj)) (Qj (startL Kj Kk)) (Qj L) k
 fin:bb=false->AtEnd (Behind (W:=Q_ Kj) behindS (Qj sl)) (Qj L)
 pot:gg=2 * potL Kj L+ (if bb=true then 1 else 0)
theorem OutV.begin {Kj:List Qq} (hw:WebCode Kj 0) (Kk:List ByteArray) (sl:List Qz):OutV Kj Kk sl (startL Kj Kk) true (2 * potL Kj (startL Kj Kk)+1):=
 ⟨startL_good (web_acts hw) Kk,⟨0,.here _⟩,fun h=> (by cases h),rfl⟩
theorem OutV.next {Kj:List Qq} {Kk:List ByteArray} {sl L0 L:List Qz} {ns:List ByteArray} {b:Bool} {gg:Nat} (h0:OutV Kj Kk sl L0 true gg) (hn:ReadyL (Q_ Kj) (Qj L0) L0 ns) (h:RoundX Kj (Qj sl) (Qj (startL Kj Kk)) ns L0 L ns.length b):OutV Kj Kk sl L b (2 * potL Kj L+ (if b=true then 1 else 0))∧2 * potL Kj L+ (if b=true then 1 else 0) < gg:=by
 refine ⟨⟨h.good,h.led,fun hb=> ?_,rfl⟩, ?_⟩
 ·subst hb
  exact (h.atEnd h0.good hn).2
 ·rw [h0.pot]
  cases b with
  | true=> have:=h.yes rfl;simp only [if_true];omega
  | false=> rw [(h.no rfl).1];simp
theorem ValidX.good {Kj:List Qq} {Kk:List ByteArray} {sl:List Qz} (h:ValidX Kj Kk sl):GoodL Kj sl:=by
 obtain ⟨_,_,_,k,L,hg,_,_,rfl⟩:=h
 exact hg
theorem GoodL.texts {Kj:List Qq} {l:List Qz} (h:GoodL Kj l): ∀r∈l,r.texts.length<=1000:=fun r hr=> by
 have h1:= (h.good r hr).tl
 have h2:= (h.good r hr).hi
 omega
def DoneX (Kj:List Qq) (sl:List Qz) (name:ByteArray) (T:List Qz):Prop:=
 (∃r,Qj sl name=some r∧CanGo (Q_ Kj) (Qj sl) r∧T=doL (Q_ Kj) sl r)∨(¬ReadyX (Q_ Kj) (Qj sl) name∧T=sl)
theorem DoneX.good {Kj:List Qq} {sl T:List Qz} {name:ByteArray} (h:DoneX Kj sl name T) (hok:ActsOk (Q_ Kj)) (hg:GoodL Kj sl):GoodL Kj T:=by
 rcases h with ⟨r,h1,h2,rfl⟩ | ⟨_,rfl⟩
 ·exact doL_good hok hg (env_mem h1).1 h2
 ·exact hg
theorem DoneX.unique {Kj:List Qq} {sl T T':List Qz} {name:ByteArray} (h:DoneX Kj sl name T) (h':DoneX Kj sl name T'):T=T':=by
 rcases h with ⟨r,h1,h2,rfl⟩ | ⟨h1,rfl⟩ <;> rcases h' with ⟨r',g1,g2,rfl⟩ | ⟨g1,rfl⟩
 ·rw [h1] at g1;cases g1;rfl
 ·exact absurd ⟨r,h1,h2⟩ g1
 ·exact absurd ⟨r',g1,g2⟩ h1
 ·rfl
def DoEnd (Kj:List Qq) (Kk:List ByteArray) (sl:List Qz) (name:ByteArray) (w w':World) (e:Ending):Prop:=
 (ValidX Kj Kk sl∧∃T,DoneX Kj sl name T∧StateX Kk T w w' e)∨(¬ValidX Kj Kk sl∧e= .returned (.agg #[.slice none 0 0,.slice none 0 0])∧K_ w w')
structure OutD where
 code:Int
 res:List ResD
 chain:List ByteArray
 units:Int
 cost:Int
theorem fiveCells {w w1:World} {v0 v1 v2 v3 v4:Value} {t:TypeId} (k:K_ (w.alloc (.cells #[v0,v1,v2,v3,v4] t)) w1):w1.cell? ⟨w.heap.size,0,none⟩=some v0∧w1.cell? ⟨w.heap.size,1,none⟩=some v1∧w1.cell? ⟨w.heap.size,2,none⟩=some v2∧w1.cell? ⟨w.heap.size,3,none⟩=some v3∧w1.cell? ⟨w.heap.size,4,none⟩=some v4:=by
 have h:=Xz w #[v0,v1,v2,v3,v4] t
 have z:w.heap.size < (w.alloc (.cells #[v0,v1,v2,v3,v4] t)).heap.size:=by simp
 exact ⟨(k.cell z).trans (h 0 _ rfl),(k.cell z).trans (h 1 _ rfl),(k.cell z).trans (h 2 _ rfl),(k.cell z).trans (h 3 _ rfl),(k.cell z).trans (h 4 _ rfl)⟩
theorem eqOutcome_yes (w:World) (a a' f f':Option Addr) (cap cap' e0 e1:Nat) (o:OutD) (hl:o.res.length<=maxLen) (hc:o.chain.length<=maxLen) (hS:Ress w a o.res) (hS':Ress w a' o.res) (hF:Strs w f o.chain) (hF':Strs w f' o.chain):
  Calls Tryz.prog 11 #[.agg #[.int .i64 o.code,.slice a o.res.length cap,.slice f o.chain.length e0,.int .i64 o.units,.int .i64 o.cost],.agg #[.int .i64 o.code,.slice a' o.res.length cap',.slice f' o.chain.length e1,.int .i64 o.units,.int .i64 o.cost]] w fun e w'=> e= .returned (.bool true)∧K_ w w':=by
 obtain ⟨code,res,chain,units,cost⟩:=o
 dsimp only at *
 obtain ⟨W0,hW0⟩: ∃W0,W0= (w.alloc (.cells #[.int .i64 code,.slice a res.length cap,.slice f chain.length e0,.int .i64 units,.int .i64 cost] 33)).alloc (.cells #[.int .i64 code,.slice a' res.length cap',.slice f' chain.length e1,.int .i64 units,.int .i64 cost] 33):= ⟨_,rfl⟩
 have k0:K_ w W0:=by rw [hW0];exact ((K_.refl _).alloc _).alloc _
 have HP:Hid (∀u,K_ W0 u->(u.cell? ⟨w.heap.size,0,none⟩=some (.int .i64 code)∧u.cell? ⟨w.heap.size,1,none⟩=some (.slice a res.length cap)∧u.cell? ⟨w.heap.size,2,none⟩=some (.slice f chain.length e0)∧u.cell? ⟨w.heap.size,3,none⟩=some (.int .i64 units)∧u.cell? ⟨w.heap.size,4,none⟩=some (.int .i64 cost))∧(u.cell? ⟨w.heap.size+1,0,none⟩=some (.int .i64 code)∧u.cell? ⟨w.heap.size+1,1,none⟩=some (.slice a' res.length cap')∧u.cell? ⟨w.heap.size+1,2,none⟩=some (.slice f' chain.length e1)∧u.cell? ⟨w.heap.size+1,3,none⟩=some (.int .i64 units)∧u.cell? ⟨w.heap.size+1,4,none⟩=some (.int .i64 cost))):=fun u k=> by
  rw [hW0] at k
  refine ⟨fiveCells (w:=w) (t:=33) (K_.trans ((K_.refl _).alloc _) k), ?_⟩
  have h:=fiveCells (w:=w.alloc (.cells #[.int .i64 code,.slice a res.length cap,.slice f chain.length e0,.int .i64 units,.int .i64 cost] 33)) (t:=33) k
  rw [World.size_alloc] at h
  exact h
 have z0:w.heap.size < W0.heap.size:=by rw [hW0];simp;omega
 have z1:w.heap.size+1 < W0.heap.size:=by rw [hW0];simp
 go_enter Tryz.func11,Tryz.ntmps11
 go_upto_region 1 with fail
 rw [<-hW0]
 clear hW0
 obtain ⟨⟨p0,p1,p2,p3,p4⟩,r0,r1,r2,r3,r4⟩:=HP.out _ (K_.refl W0)
 go_wp2_with fail
 refine (eqResultS_yes W0 a a' cap cap' res hl (hS.kept k0) (hS'.kept k0)).mono ?_
 rintro e w1 ⟨rfl,k1⟩
 clear p0 p1 p2 p3 p4 r0 r1 r2 r3 r4
 obtain ⟨⟨p0,p1,p2,p3,p4⟩,r0,r1,r2,r3,r4⟩:=HP.out _ k1
 go_wp2_with fail
 refine (eqStringS_yes w1 f f' e0 e1 chain hc (hF.kept (k0.trans k1)) (hF'.kept (k0.trans k1))).mono ?_
 rintro e w2 ⟨rfl,k2⟩
 clear p0 p1 p2 p3 p4 r0 r1 r2 r3 r4
 obtain ⟨⟨p0,p1,p2,p3,p4⟩,r0,r1,r2,r3,r4⟩:=HP.out _ (k1.trans k2)
 go_wp2
 go_ret
 exact ⟨rfl,k0.trans (k1.trans k2)⟩
theorem markOutcome_any (w:World) (lo mid hi:Nat) (a f:Option Addr) (cap e0:Nat) (o:OutD) (k:Nat) (h0:0 < k) (h1:k+o.res.length * 4+o.chain.length<=4611686018427387904) (hm1:lo<=mid) (hm2:mid<=hi) (hhi:hi<=w.heap.size) (hS:RessIn w lo mid a o.res) (hF:StrsIn w mid hi f o.chain):
  Calls Tryz.prog 16 #[.agg #[.int .i64 o.code,.slice a o.res.length cap,.slice f o.chain.length e0,.int .i64 o.units,.int .i64 o.cost],.int .i64 k] w fun e w'=> e= .returned (.int .i64 ((k+o.res.length * 4+o.chain.length:Nat):Int))∧RessIn w' lo mid a (markRess o.res k)∧StrsIn w' mid hi f (markStrs o.chain (k+o.res.length * 4))∧Xk lo hi w w':=by
 obtain ⟨code,res,chain,units,cost⟩:=o
 dsimp only at *
 obtain ⟨W0,hW0⟩: ∃W0,W0=w.alloc (.cells #[.int .i64 code,.slice a res.length cap,.slice f chain.length e0,.int .i64 units,.int .i64 cost] 33):= ⟨_,rfl⟩
 have k0:K_ w W0:=by rw [hW0];exact (K_.refl _).alloc _
 obtain ⟨b0,b1,b2,b3,b4⟩:=fiveCells (w:=w) (w1:=W0) (v0:= .int .i64 code) (v1:= .slice a res.length cap) (v2:= .slice f chain.length e0) (v3:= .int .i64 units) (v4:= .int .i64 cost) (t:=33) (by rw [hW0];exact K_.refl _)
 have z0:w.heap.size < W0.heap.size:=by rw [hW0];simp
 go_enter Tryz.func16,Tryz.ntmps16
 go_wp2_with fail
 rw [<-hW0]
 clear hW0
 refine (markResultS_any _ lo mid a cap res k h0 (by omega) (hS.same (k0.same _ _))).mono ?_
 rintro e w1 ⟨rfl,hR1,kb1⟩
 have s1:=kb1.same (l2:=w.heap.size) (h2:=w.heap.size+1) (by omega)
 have c1:= (s1.cell (o:=2) (Nat.le_refl _) (by omega) z0).trans b2
 obtain ⟨m,hm⟩: ∃m,m=k+res.length * 4:= ⟨_,rfl⟩
 rw [<-hm]
 have hmb:m+chain.length<=4611686018427387904:=by omega
 have hm0:0 < m:=by omega
 have HF1:=Kz ((hF.same (k0.same _ _)).same (kb1.same (l2:=mid) (h2:=hi) (by omega)))
 have HR1:=Kz hR1
 have hz1:=kb1.size
 have HM:=Kz hm
 clear hm b0 b1 b2 b3 b4 hR1 s1
 go_wp2_with fail
 refine (markStringS_any _ mid hi f e0 chain m hm0 hmb HF1.out).mono ?_
 rintro e w2 ⟨rfl,hF2,kb2⟩
 have HF2:=Kz hF2
 have HR2:=Kz (HR1.out.same (kb2.same (l2:=lo) (h2:=mid) (by omega)))
 have KB:=Kz ((((Xk.of_kept k0:Xk lo hi w W0).trans (kb1.mono (Nat.le_refl _) hm2))).trans (kb2.mono hm1 (Nat.le_refl _)))
 obtain ⟨m2,hm2'⟩: ∃m2,m2=m+chain.length:= ⟨_,rfl⟩
 rw [<-hm2']
 have HM2:=Kz hm2'
 clear hm2' hF2 c1
 go_wp2
 go_ret
 exact ⟨ret_int (by have:=HM.out;have:=HM2.out;omega),HR2.out,by rw [<-HM.out];exact HF2.out,KB.out⟩
theorem heldOutcome_yes (w:World) (a f:Option Addr) (cap e0:Nat) (o:OutD) (k:Nat) (h0:0 < k) (h1:k+o.res.length * 4+o.chain.length<=4611686018427387904) (hS:Ress w a (markRess o.res k)) (hF:Strs w f (markStrs o.chain (k+o.res.length * 4))):
  Calls Tryz.prog 17 #[.agg #[.int .i64 o.code,.slice a o.res.length cap,.slice f o.chain.length e0,.int .i64 o.units,.int .i64 o.cost],.int .i64 k] w fun e w'=> e= .returned (.int .i64 ((k+o.res.length * 4+o.chain.length:Nat):Int))∧K_ w w':=by
 obtain ⟨code,res,chain,units,cost⟩:=o
 dsimp only at *
 obtain ⟨W0,hW0⟩: ∃W0,W0=w.alloc (.cells #[.int .i64 code,.slice a res.length cap,.slice f chain.length e0,.int .i64 units,.int .i64 cost] 33):= ⟨_,rfl⟩
 have k0:K_ w W0:=by rw [hW0];exact (K_.refl _).alloc _
 obtain ⟨b0,b1,b2,b3,b4⟩:=fiveCells (w:=w) (w1:=W0) (v0:= .int .i64 code) (v1:= .slice a res.length cap) (v2:= .slice f chain.length e0) (v3:= .int .i64 units) (v4:= .int .i64 cost) (t:=33) (by rw [hW0];exact K_.refl _)
 have z0:w.heap.size < W0.heap.size:=by rw [hW0];simp
 go_enter Tryz.func17,Tryz.ntmps17
 go_wp2_with fail
 rw [<-hW0]
 clear hW0
 refine (heldResultS_yes _ a cap res k h0 (by omega) (hS.kept k0)).mono ?_
 rintro e w1 ⟨rfl,k1⟩
 have c1:= (k1.cell (o:=2) z0).trans b2
 obtain ⟨m,hm⟩: ∃m,m=k+res.length * 4:= ⟨_,rfl⟩
 rw [<-hm]
 have hmb:m+chain.length<=4611686018427387904:=by omega
 have hm0:0 < m:=by omega
 have hmn: ¬((m:Int) < 0):=by omega
 have HM:=Kz hm
 have hz1:=k1.size
 have K1:=k0.trans k1
 have HF:=Kz (hF.kept K1)
 rw [<-hm] at HF
 clear hm b0 b1 b2 b3 b4 hF k0 k1
 go_wp2_with fail
 refine (heldStringS_yes _ f e0 chain m hm0 hmb HF.out).mono ?_
 rintro e w2 ⟨rfl,k2⟩
 obtain ⟨m2,hm2⟩: ∃m2,m2=m+chain.length:= ⟨_,rfl⟩
 rw [<-hm2]
 have hm2n: ¬((m2:Int) < 0):=by omega
 have HM2:=Kz hm2
 clear hm2 c1
 go_wp2
 go_ret
 exact ⟨ret_int (by have:=HM.out;have:=HM2.out;omega),K1.trans k2⟩
def resX (W:Acts) (σ:Env) (n:ByteArray):ResD:=
 match ansOf W σ n with
 | some x=> ⟨n,true,x.fail,x.text⟩
 | none=> ⟨n,false,false,⟨#[]⟩⟩
def OpenT (σ:Env):Prop:= ∀n r,σ n=some r->r.over=false->r.fail=false∧r.text= ⟨#[]⟩
theorem arrive_openT {A:ActionD} {r:Qz} (h:r.fail=false∧r.text= ⟨#[]⟩) (ho: (arrive A r).1.over=false): (arrive A r).1.fail=false∧(arrive A r).1.text= ⟨#[]⟩:=by
 unfold arrive at ho⊢
 simp only at ho⊢
 by_cases hf: (stepOf A r.at').fin=true
 ·rw [if_pos hf] at ho;cases ho
 ·rw [if_neg hf];exact h
theorem next_openT {W:Acts} {σ:Env} {r:Qz} (h:r.fail=false∧r.text= ⟨#[]⟩) (ho: (Y_ W σ r).1.over=false): (Y_ W σ r).1.fail=false∧(Y_ W σ r).1.text= ⟨#[]⟩:=by
 unfold Y_ at ho⊢
 cases hA:W r.name with
 | none=> exact h
 | some A=>
  rw [hA] at ho
  simp only at ho⊢
  by_cases hv:r.Zj=0
  ·rw [if_pos hv] at ho⊢;exact arrive_openT h ho
  ·rw [if_neg hv] at ho⊢
   cases hx:Yq W σ (stepOf A r.at').asks with
   | none=> exact h
   | some xs=>
    rw [hx] at ho
    simp only at ho⊢
    by_cases h20:r.Zj=20
    ·rw [if_pos h20] at ho;cases ho
    ·rw [if_neg h20] at ho⊢
     by_cases hgo: (goOnF (stepOf A r.at') xs).over=true
     ·rw [if_pos hgo] at ho;cases ho
     ·rw [if_neg hgo] at ho⊢;exact arrive_openT (by exact h) ho
theorem OpenT.did {W:Acts} {σ:Env} (h:OpenT σ) {n:ByteArray} (hn:ReadyX W σ n):OpenT (doX W σ n):=by
 obtain ⟨r,hr,hc⟩:=hn
 intro m q hq ho
 rw [doX_eq hr] at hq
 by_cases e:m=n
 ·rw [if_pos e] at hq
  cases hq
  exact next_openT (h n r hr hc.1) ho
 ·rw [if_neg e] at hq
  cases hm:σ m with
  | some x=> rw [hm] at hq;cases hq;exact h m _ hm ho
  | none=>
   rw [hm] at hq
   simp only at hq
   split at hq
   ·cases hq;exact ⟨rfl,rfl⟩
   ·cases hq
def dResCells (l:List ResD):List Value:= (l.map ResD.cells).flatten
theorem dResCells_length (l:List ResD): (dResCells l).length=l.length * 4:=by
 induction l with
 | nil=> rfl
 | cons c r ih=> simp only [dResCells,List.map_cons,List.flatten_cons,List.length_append,List.length_cons] at ih⊢;rw [ih];simp [ResD.cells];omega
theorem dResCells_snoc (l:List ResD) (c:ResD):dResCells (l++ [c])=dResCells l++c.cells:=by simp [dResCells]
theorem dResCells_get : ∀(l:List ResD) (i j:Nat),i < l.length->j < 4->(dResCells l)[i * 4+j]? = ((l.getD i ResD.zero).cells)[j]?
 | [],_,_,h,_=> absurd h (Nat.not_lt_zero _)
 | c :: r,0,j,_,hj=> by
  have e:dResCells (c :: r)=c.cells++dResCells r:=rfl
  rw [e,Nat.zero_mul,Nat.zero_add,List.getElem?_append_left (by simpa [ResD.cells] using hj)]
  rfl
 | c :: r,i+1,j,h,hj=> by
  have e:dResCells (c :: r)=c.cells++dResCells r:=rfl
  have hl:c.cells.length=4:=rfl
  rw [e,List.getElem?_append_right (by rw [hl];omega),hl,show (i+1) * 4+j - 4=i * 4+j by omega,dResCells_get r i j (by simpa using h) hj]
  rfl
theorem owned_ress {w:World} {base:Nat} {t:TypeId} {v:Value} {n:Nat} {l:List ResD} (h:w.ownsRow base t 4 v n (dResCells l)): ∃a cap,v= .slice a l.length cap∧Ress w a l:=by
 have hn:n=l.length:=by have:=h.1;rw [dResCells_length] at this;omega
 subst hn
 rcases h.2 with ⟨rfl,h0⟩ | ⟨g,cap,cur,rfl,hb,hg,hnc,_,_,_⟩
 ·exact ⟨none,0,by rw [h0],fun i hi=> by omega⟩
 ·refine ⟨_,cap,rfl,fun i hi=> ⟨g,0,rfl,heap_lt hg,fun j u hu=> ?_⟩⟩
  have hj:j < 4:=by have:= (List.getElem?_eq_some_iff.1 hu).1;simpa [ResD.cells] using this
  have:=h.cells (g:=g) rfl (i * 4+j) u (by rw [dResCells_get l i j hi hj];exact hu)
  rw [Addr.add_mid,Nat.zero_add] at this
  rw [Nat.zero_add]
  exact this
def belowB :ByteArray:= ⟨#[98,101,108,111,119,32]⟩
theorem below_inj {a b:ByteArray} (h:belowB++a=belowB++b):a=b:=by
 have h1:=congrArg (fun x:ByteArray=> x.data.toList) h
 simp only [ByteArray.data_append,Array.toList_append] at h1
 exact ByteArray.ext (Array.toList_inj.1 (List.append_cancel_left h1))
theorem below_spent {b:ByteArray}:belowB++b≠spentB:=fun h=> by
 have h1:=congrArg ByteArray.size h
 rw [ByteArray.size_append] at h1
 have h2:belowB.size=6:=by decide
 have h3:spentB.size=5:=by decide
 omega
section
variable (W : Acts) (σ : Env)
inductive WhyC :ByteArray->List ByteArray->Prop
 | gone {n:ByteArray} (h:σ n=none):WhyC n [n]
 | own {n:ByteArray} {r:Qz} {A:ActionD} (h:σ n=some r) (ho:r.over=true) (hf:r.fail=true) (hA:W n=some A) (he: (stepOf A r.at').fin=true∨r.text=spentB):WhyC n [n]
 | more {n b:ByteArray} {l:List ByteArray} {r:Qz} {A:ActionD} (h:σ n=some r) (ho:r.over=true) (hf:r.fail=true) (hA:W n=some A) (hn: (stepOf A r.at').fin=false) (ht:r.text=belowB++b) (hb:1<=b.size) (hc:WhyC b l):WhyC n (n :: l)
def WhyX (n:ByteArray) (out:List ByteArray):Prop:=
 (σ n=none∧out=[])∨(∃r,σ n=some r∧¬(r.over=true∧r.fail=true)∧out=[])∨(∃r,σ n=some r∧r.over=true∧r.fail=true∧WhyC W σ n out)
structure WhyInv (k:Nat) (ord:ByteArray->Nat):Prop where
 lt: ∀n r,σ n=some r->r.over=true->ord n < k
 ok: ∀n r,σ n=some r->r.over=true->r.fail=true->∃A,W n=some A∧(((stepOf A r.at').fin=true∨r.text=spentB)∨
  (∃b,(stepOf A r.at').fin=false∧b∈(stepOf A r.at').asks∧r.text=belowB++b∧((W b=none∧σ b=none)∨∃q,σ b=some q∧q.over=true∧q.fail=true∧ord b < ord n)))
end
theorem WhyC.unique {W:Acts} {σ:Env} {n:ByteArray} {l m:List ByteArray} (h:WhyC W σ n l) (g:WhyC W σ n m):l=m:=by
 induction h generalizing m with
 | gone h=>
  cases g with
  | gone=> rfl
  | own=> rfl
  | more h'=> rw [h] at h';cases h'
 | own h ho hf hA he=>
  cases g with
  | gone=> rfl
  | own=> rfl
  | more h' ho' hf' hA' hn' ht'=>
   rw [h] at h';cases h'
   rw [hA] at hA';cases hA'
   rcases he with e | e
   ·rw [hn'] at e;cases e
   ·rw [e] at ht';exact absurd ht'.symm below_spent
 | more h ho hf hA hn ht hb hc ih=>
  cases g with
  | gone h'=> rw [h] at h';cases h'
  | own h' ho' hf' hA' he'=>
   rw [h] at h';cases h'
   rw [hA] at hA';cases hA'
   rcases he' with e | e
   ·rw [hn] at e;cases e
   ·rw [e] at ht;exact absurd ht.symm below_spent
  | more h' ho' hf' hA' hn' ht' hb' hc'=>
   rw [h] at h';cases h'
   have e:=below_inj (ht.symm.trans ht')
   subst e
   rw [ih hc']
theorem WhyX.unique {W:Acts} {σ:Env} {n:ByteArray} {l m:List ByteArray} (h:WhyX W σ n l) (g:WhyX W σ n m):l=m:=by
 rcases h with ⟨h1,rfl⟩ | ⟨r,h1,h2,rfl⟩ | ⟨r,h1,h2,h3,h4⟩ <;> rcases g with ⟨g1,rfl⟩ | ⟨q,g1,g2,rfl⟩ | ⟨q,g1,g2,g3,g4⟩
 ·rfl
 ·rfl
 ·rw [h1] at g1;cases g1
 ·rfl
 ·rfl
 ·rw [h1] at g1;cases g1;exact absurd ⟨g2,g3⟩ h2
 ·rw [h1] at g1;cases g1
 ·rw [h1] at g1;cases g1;exact absurd ⟨h2,h3⟩ g2
 ·exact h4.unique g4
theorem WhyC.len {W:Acts} {σ:Env} {n:ByteArray} {l:List ByteArray} (h:WhyC W σ n l):1<=l.length:=by
 cases h <;> simp
theorem WhyC.head {W:Acts} {σ:Env} {n:ByteArray} {l:List ByteArray} (h:WhyC W σ n l): ∃m,l=n :: m:=by
 cases h with
 | gone=> exact ⟨[],rfl⟩
 | own=> exact ⟨[],rfl⟩
 | more=> exact ⟨_,rfl⟩
theorem answersOf_at {W:Acts} {σ:Env}: ∀{l:List ByteArray} {xs:List Xq},Yq W σ l=some xs->∀{i:Nat},i < xs.length->i < l.length∧ansOf W σ (l.getD i ByteArray.empty)=some (xs.getD i Xq.zero)
 | [],xs,h,i,hi=> by
  simp only [Yq,Option.some.injEq] at h
  subst h
  simp at hi
 | a :: l,xs,h,i,hi=> by
  unfold Yq at h
  cases ha:ansOf W σ a with
  | none=> simp [ha] at h
  | some x=>
   cases hl:Yq W σ l with
   | none=> simp [ha,hl] at h
   | some ys=>
    simp only [ha,hl,Option.some.injEq] at h
    subst h
    cases i with
    | zero=> exact ⟨by simp,by simpa using ha⟩
    | succ i=>
     obtain ⟨h1,h2⟩:=answersOf_at hl (i:=i) (by simpa using hi)
     exact ⟨by simpa using h1,by simpa using h2⟩
theorem goodEnv_do {Kj:List Qq} {σ:Env} {n:ByteArray} (hok:ActsOk (Q_ Kj)) (h:GoodEnv Kj σ) (hr:ReadyX (Q_ Kj) σ n):GoodEnv Kj (doX (Q_ Kj) σ n):=by
 obtain ⟨r,hr,hc⟩:=hr
 intro m q hq
 rw [doX_eq hr] at hq
 by_cases e:m=n
 ·rw [if_pos e] at hq
  cases hq
  exact ⟨by rw [nextOf_name,e];exact (h n r hr).1,nextOf_good hok h (h n r hr).2 hc⟩
 ·rw [if_neg e] at hq
  cases hm:σ m with
  | some x=>
   rw [hm] at hq
   cases hq
   exact h m _ hm
  | none=>
   rw [hm] at hq
   simp only at hq
   split at hq
   ·rename_i h2
    cases hq
    exact ⟨rfl,fresh_good hok h2.2⟩
   ·cases hq
theorem next_why {Kj:List Qq} {σ:Env} {r:Qz} (hg:GoodEnv Kj σ) (hr:σ r.name=some r) (hc:CanGo (Q_ Kj) σ r) (ho: (Y_ (Q_ Kj) σ r).1.over=true): ∃A,Q_ Kj r.name=some A∧(((stepOf A (Y_ (Q_ Kj) σ r).1.at').fin=true∨(Y_ (Q_ Kj) σ r).1.text=spentB)∨
  (∃b,(stepOf A (Y_ (Q_ Kj) σ r).1.at').fin=false∧b∈(stepOf A (Y_ (Q_ Kj) σ r).1.at').asks∧(Y_ (Q_ Kj) σ r).1.text=belowB++b∧∃x,ansOf (Q_ Kj) σ b=some x∧x.fail=true)):=by
 have hgd:= (hg _ _ hr).2
 obtain ⟨A,hA,_,_⟩:=hgd.act
 refine ⟨A,hA, ?_⟩
 have harr: ∀q:Qz,q.over=false->(arrive A q).1.over=true->(stepOf A (arrive A q).1.at').fin=true:=fun q hq h=> by
  unfold arrive at h⊢
  simp only at h⊢
  by_cases hf: (stepOf A q.at').fin=true
  ·rw [if_pos hf];exact hf
  ·rw [if_neg hf] at h;simp only at h;rw [hq] at h;cases h
 unfold Y_ at ho⊢
 rw [hA] at ho⊢
 simp only at ho⊢
 by_cases hv:r.Zj=0
 ·rw [if_pos hv] at ho⊢
  exact .inl (.inl (harr r hc.1 ho))
 ·rw [if_neg hv] at ho⊢
  rcases hc.2 with e | ⟨A',xs,hA',hxs⟩
  ·exact absurd e hv
  ·rw [hA] at hA'
   cases hA'
   rw [hxs] at ho⊢
   simp only at ho⊢
   by_cases h20:r.Zj=20
   ·rw [if_pos h20]
    exact .inl (.inr rfl)
   ·rw [if_neg h20] at ho⊢
    by_cases hgo: (goOnF (stepOf A r.at') xs).over=true
    ·rw [if_pos hgo]
     refine .inr ?_
     show∃b,(stepOf A r.at').fin=false∧b∈(stepOf A r.at').asks∧(goOnF (stepOf A r.at') xs).text=belowB++b∧_
     unfold goOnF at hgo⊢
     cases hf:failAt xs 0 with
     | none=> rw [hf] at hgo;simp at hgo
     | some i=>
      rw [hf] at hgo
      simp only at hgo⊢
      obtain ⟨j,e1,h2,h3,_⟩:=failAt_some hf
      have e2:i=j:=by omega
      subst e2
      by_cases hfa: (stepOf A r.at').fall= -1
      ·rw [if_pos hfa]
       obtain ⟨g1,g2⟩:=answersOf_at hxs h2
       refine ⟨(stepOf A r.at').asks.getD i ByteArray.empty,hgd.stp A hA hc.1 hv, ?_,rfl,_,g2,h3⟩
       simp only [List.getD,List.getElem?_eq_getElem g1,Option.getD_some]
       exact List.getElem_mem g1
      ·rw [if_neg hfa] at hgo;simp at hgo
    ·rw [if_neg hgo] at ho⊢
     exact .inl (.inl (harr { r with texts:=r.texts++goodOf xs,at':= (goOnF (stepOf A r.at') xs).at' } hc.1 ho))
theorem WhyInv.did {Kj:List Qq} {σ:Env} {k:Nat} {ord:ByteArray->Nat} (h:WhyInv (Q_ Kj) σ k ord) (hg:GoodEnv Kj σ) {n:ByteArray} (hn:ReadyX (Q_ Kj) σ n):WhyInv (Q_ Kj) (doX (Q_ Kj) σ n) (k+1) (fun m=> if m=n then k else ord m):=by
 obtain ⟨r,hr,hc⟩:=hn
 have hrn:r.name=n:= (hg n r hr).1
 have hwn: ∀m,Q_ Kj m=none->σ m=none:=fun m hm=> by
  cases h1:σ m with
  | none=> rfl
  | some q=>
   obtain ⟨g1,g2⟩:=hg m q h1
   obtain ⟨A,hA,_⟩:=g2.act
   rw [g1,hm] at hA
   cases hA
 have old: ∀m q,m≠n->doX (Q_ Kj) σ n m=some q->q.over=true->σ m=some q:=fun m q e hq ho=> by
  rw [doX_eq hr,if_neg e] at hq
  cases hm:σ m with
  | some x=> rw [hm] at hq;exact hq
  | none=>
   rw [hm] at hq
   simp only at hq
   split at hq
   ·cases hq;cases ho
   ·cases hq
 have keep: ∀b q,σ b=some q->q.over=true->b≠n∧doX (Q_ Kj) σ n b=some q:=fun b q hb ho=> by
  have hne:b≠n:=fun e=> by
   rw [e,hr] at hb
   cases hb
   rw [hc.1] at ho
   cases ho
  exact ⟨hne,doX_other hne hb⟩
 have none: ∀b,Q_ Kj b=none->doX (Q_ Kj) σ n b=none:=fun b hb=> by
  have hne:b≠n:=fun e=> by
   have:=hwn b hb
   rw [e,hr] at this
   cases this
  rw [doX_eq hr,if_neg hne,hwn b hb]
  simp only
  rw [if_neg (by rw [hb];simp)]
 refine ⟨fun m q hq ho=> ?_,fun m q hq ho hf=> ?_⟩
 ·by_cases e:m=n
  ·simp only [if_pos e];omega
  ·simp only [if_neg e]
   have:=h.lt m q (old m q e hq ho) ho
   omega
 ·by_cases e:m=n
  ·subst e
   rw [doX_here hr] at hq
   cases hq
   obtain ⟨A,hA,h2⟩:=next_why hg (by rw [hrn];exact hr) hc ho
   rw [hrn] at hA
   refine ⟨A,hA,h2.imp id ?_⟩
   rintro ⟨b,g1,g2,g3,x,g4,g5⟩
   refine ⟨b,g1,g2,g3, ?_⟩
   unfold ansOf at g4
   cases hb:Q_ Kj b with
   | none=> exact .inl ⟨rfl,none b hb⟩
   | some B=>
    rw [hb] at g4
    simp only at g4
    cases hs:σ b with
    | none=> rw [hs] at g4;cases g4
    | some q=>
     rw [hs] at g4
     simp only at g4
     by_cases hqo:q.over=true
     ·rw [if_pos hqo] at g4
      cases g4
      obtain ⟨k1,k2⟩:=keep b q hs hqo
      exact .inr ⟨q,k2,hqo,g5,by simp only [if_neg k1,if_true];exact h.lt b q hs hqo⟩
     ·rw [if_neg hqo] at g4
      cases g4
  ·obtain ⟨A,hA,h2⟩:=h.ok m q (old m q e hq ho) ho hf
   refine ⟨A,hA,h2.imp id ?_⟩
   rintro ⟨b,g1,g2,g3,⟨g4,_⟩ | ⟨p,g4,g5,g6,g7⟩⟩
   ·exact ⟨b,g1,g2,g3,.inl ⟨g4,none b g4⟩⟩
   ·obtain ⟨k1,k2⟩:=keep b p g4 g5
    exact ⟨b,g1,g2,g3,.inr ⟨p,k2,g5,g6,by simp only [if_neg k1,if_neg e];exact g7⟩⟩
theorem WhyInv.chain {Kj:List Qq} {σ:Env} {k:Nat} {ord:ByteArray->Nat} (hok:ActsOk (Q_ Kj)) (h:WhyInv (Q_ Kj) σ k ord) (hg:GoodEnv Kj σ): ∀(m:Nat) (n:ByteArray) (r:Qz),ord n<=m->σ n=some r->r.over=true->r.fail=true->∃l,WhyC (Q_ Kj) σ n l∧l.length<=ord n+2∧∀x∈l,1<=x.size∧x.size<=20:=by
 intro m
 induction m with
 | zero=>
  intro n r hm hr ho hf
  obtain ⟨A,hA,h2 | ⟨b,g1,g2,g3,⟨g4,g5⟩ | ⟨p,g4,g5,g6,g7⟩⟩⟩:=h.ok n r hr ho hf
  ·exact ⟨[n],.own hr ho hf hA h2,by simp,fun x hx=> by rw [List.mem_singleton] at hx;rw [hx];exact ⟨(hok n A hA).2.1,(hok n A hA).2.2.1⟩⟩
  ·obtain ⟨A',hA',h0,h1⟩:= (hg n r hr).2.act
   rw [(hg n r hr).1,hA] at hA'
   cases hA'
   have hb:= (asks_ok (hok n A hA).1 h0 h1).2 b g2
   exact ⟨[n,b],.more hr ho hf hA g1 g3 hb.1 (.gone g5),by simp,fun x hx=> by
    rcases List.mem_cons.1 hx with rfl | hx
    ·exact ⟨(hok x A hA).2.1,(hok x A hA).2.2.1⟩
    ·rw [List.mem_singleton] at hx;rw [hx];exact ⟨hb.1,hb.2.1⟩⟩
  ·omega
 | succ m ih=>
  intro n r hm hr ho hf
  obtain ⟨A,hA,h2 | ⟨b,g1,g2,g3,⟨g4,g5⟩ | ⟨p,g4,g5,g6,g7⟩⟩⟩:=h.ok n r hr ho hf
  ·exact ⟨[n],.own hr ho hf hA h2,by simp,fun x hx=> by rw [List.mem_singleton] at hx;rw [hx];exact ⟨(hok n A hA).2.1,(hok n A hA).2.2.1⟩⟩
  ·obtain ⟨A',hA',h0,h1⟩:= (hg n r hr).2.act
   rw [(hg n r hr).1,hA] at hA'
   cases hA'
   have hb:= (asks_ok (hok n A hA).1 h0 h1).2 b g2
   exact ⟨[n,b],.more hr ho hf hA g1 g3 hb.1 (.gone g5),by simp,fun x hx=> by
    rcases List.mem_cons.1 hx with rfl | hx
    ·exact ⟨(hok x A hA).2.1,(hok x A hA).2.2.1⟩
    ·rw [List.mem_singleton] at hx;rw [hx];exact ⟨hb.1,hb.2.1⟩⟩
  ·obtain ⟨l,k1,k2,k3⟩:=ih b p (by omega) g4 g5 g6
   obtain ⟨A',hA',h0,h1⟩:= (hg n r hr).2.act
   rw [(hg n r hr).1,hA] at hA'
   cases hA'
   have hb:= (asks_ok (hok n A hA).1 h0 h1).2 b g2
   exact ⟨n :: l,.more hr ho hf hA g1 g3 hb.1 k1,by simp only [List.length_cons];omega,fun x hx=> by
    rcases List.mem_cons.1 hx with rfl | hx
    ·exact ⟨(hok x A hA).2.1,(hok x A hA).2.2.1⟩
    ·exact k3 x hx⟩
def OpenOk (σ:Env):Prop:= ∀n r,σ n=some r->r.over=false->r.fail=false
theorem arrive_open {A:ActionD} {r:Qz} (h:r.fail=false) (ho: (arrive A r).1.over=false): (arrive A r).1.fail=false:=by
 unfold arrive at ho⊢
 simp only at ho⊢
 by_cases hf: (stepOf A r.at').fin=true
 ·rw [if_pos hf] at ho;cases ho
 ·rw [if_neg hf];exact h
theorem next_open {W:Acts} {σ:Env} {r:Qz} (h:r.fail=false) (ho: (Y_ W σ r).1.over=false): (Y_ W σ r).1.fail=false:=by
 unfold Y_ at ho⊢
 cases hA:W r.name with
 | none=> exact h
 | some A=>
  rw [hA] at ho
  simp only at ho⊢
  by_cases hv:r.Zj=0
  ·rw [if_pos hv] at ho⊢;exact arrive_open h ho
  ·rw [if_neg hv] at ho⊢
   cases hx:Yq W σ (stepOf A r.at').asks with
   | none=> exact h
   | some xs=>
    rw [hx] at ho
    simp only at ho⊢
    by_cases h20:r.Zj=20
    ·rw [if_pos h20] at ho;cases ho
    ·rw [if_neg h20] at ho⊢
     by_cases hgo: (goOnF (stepOf A r.at') xs).over=true
     ·rw [if_pos hgo] at ho;cases ho
     ·rw [if_neg hgo] at ho⊢;exact arrive_open (by exact h) ho
theorem OpenOk.did {W:Acts} {σ:Env} (h:OpenOk σ) {n:ByteArray} (hn:ReadyX W σ n):OpenOk (doX W σ n):=by
 obtain ⟨r,hr,hc⟩:=hn
 intro m q hq ho
 rw [doX_eq hr] at hq
 by_cases e:m=n
 ·rw [if_pos e] at hq
  cases hq
  exact next_open (h n r hr hc.1) ho
 ·rw [if_neg e] at hq
  cases hm:σ m with
  | some x=> rw [hm] at hq;cases hq;exact h m _ hm ho
  | none=>
   rw [hm] at hq
   simp only at hq
   split at hq
   ·cases hq;rfl
   ·cases hq
theorem ValidX.open {Kj:List Qq} {Kk:List ByteArray} {sl:List Qz} (hv:ValidX Kj Kk sl):OpenOk (Qj sl):=by
 obtain ⟨_,_,_,j,L,hgL,hl,_,rfl⟩:=hv
 refine hl.keeps (P:=OpenOk) (fun σ m h hm=> h.did hm.1) (fun m r hr ho=> ?_)
 rw [startL_env] at hr
 split at hr
 ·cases hr;rfl
 ·cases hr
theorem ValidX.why {Kj:List Qq} {Kk:List ByteArray} {sl:List Qz} (hv:ValidX Kj Kk sl) (n:ByteArray): ∃out,WhyX (Q_ Kj) (Qj sl) n out∧out.length<=1400∧∀x∈out,1<=x.size∧x.size<=20:=by
 have hok:=web_acts hv.1
 have hp:potL Kj (startL Kj Kk)<=1380:=by
  have h1:=potL_le23 Kj (startL Kj Kk)
  have h2:=web_len hv.1
  omega
 obtain ⟨_,_,_,j,L,hgL,hl,_,rfl⟩:=hv
 have hs:=startL_good hok Kk
 have hinv: (fun σ:Env=> GoodEnv Kj σ∧∃k ord,k+potAll (Kj.map (·.name)) σ<=1380∧WhyInv (Q_ Kj) σ k ord) (Qj L):=by
  refine hl.keeps (P:=fun σ:Env=> GoodEnv Kj σ∧∃k ord,k+potAll (Kj.map (·.name)) σ<=1380∧WhyInv (Q_ Kj) σ k ord) ?_ ⟨hs.env,0,fun _=> 0,by unfold potL at hp;omega,⟨fun m r hr ho=> ?_,fun m r hr ho=> ?_⟩⟩
  ·rintro σ m ⟨hg,k,ord,hk,hI⟩ hm
   have hwf:WfX (Q_ Kj) σ:=fun a r hr=> by
    obtain ⟨h1,h2⟩:=hg a r hr
    obtain ⟨A,hA,_⟩:=h2.act
    exact ⟨h1,by rw [<-h1,hA];rfl,h2.lo,h2.hi⟩
   refine ⟨goodEnv_do hok hg hm.1,k+1,_, ?_,hI.did hg hm.1⟩
   obtain ⟨r,hr,_⟩:=hm.1
   have:= (potAll_do hwf hm.1 (Kj.map (·.name))).2 (acts_in (hwf m r hr).web)
   omega
  ·rw [startL_env] at hr
   split at hr
   ·cases hr;cases ho
   ·cases hr
  ·rw [startL_env] at hr
   split at hr
   ·cases hr;cases ho
   ·cases hr
 obtain ⟨hg,k,ord,hk,hI⟩:=hinv
 cases hn:Qj L n with
 | none=> exact ⟨[],.inl ⟨hn,rfl⟩,by simp,fun x hx=> by cases hx⟩
 | some r=>
  by_cases hof:r.over=true∧r.fail=true
  ·obtain ⟨l,h1,h2,h3⟩:=hI.chain hok hg (ord n) n r (Nat.le_refl _) hn hof.1 hof.2
   have:=hI.lt n r hn hof.1
   exact ⟨l,.inr (.inr ⟨r,hn,hof.1,hof.2,h1⟩),by omega,h3⟩
  ·exact ⟨[],.inr (.inl ⟨r,hn,hof,rfl⟩),by simp,fun x hx=> by cases hx⟩
def WhyAns (Kj:List Qq) (Kk:List ByteArray) (sl:List Qz) (name:ByteArray) (ns:List ByteArray):Prop:= (ValidX Kj Kk sl∧WhyX (Q_ Kj) (Qj sl) name ns)∨(¬ValidX Kj Kk sl∧ns=[])
theorem WhyAns.len {Kj:List Qq} {Kk:List ByteArray} {sl:List Qz} {name:ByteArray} {ns:List ByteArray} (h:WhyAns Kj Kk sl name ns):ns.length<=1400:=by
 rcases h with ⟨h1,h2⟩ | ⟨_,rfl⟩
 ·obtain ⟨out,g1,g2,_⟩:=h1.why name
  rw [h2.unique g1]
  exact g2
 ·exact Nat.zero_le _
theorem WhyAns.one {Kj:List Qq} {Kk:List ByteArray} {sl:List Qz} {name:ByteArray} {ns ms:List ByteArray} (h:WhyAns Kj Kk sl name ns) (k:WhyAns Kj Kk sl name ms):ms=ns:=by
 rcases h with ⟨h1,h2⟩ | ⟨h1,h2⟩
 ·rcases k with ⟨k1,k2⟩ | ⟨k1,k2⟩
  ·exact k2.unique h2
  ·exact absurd h1 k1
 ·rcases k with ⟨k1,k2⟩ | ⟨k1,k2⟩
  ·exact absurd k1 h1
  ·rw [h2,k2]
def AscB (l:List ByteArray):Prop:=l.Pairwise lessX
theorem ascB_eq : ∀{l m:List ByteArray},AscB l->AscB m->(∀s,s∈l↔s∈m)->l=m
 | [],[],_,_,_=> rfl
 | [],y :: m,_,_,h=> by have:= (h y).2 (by simp);cases this
 | x :: l,[],_,_,h=> by have:= (h x).1 (by simp);cases this
 | x :: l,y :: m,hl,hm,h=> by
  obtain ⟨h1,h2⟩:=List.pairwise_cons.1 hl
  obtain ⟨g1,g2⟩:=List.pairwise_cons.1 hm
  have e:x=y:=by
   rcases List.mem_cons.1 ((h x).1 (by simp)) with e | e
   ·exact e
   ·rcases List.mem_cons.1 ((h y).2 (by simp)) with e' | e'
    ·exact e'.symm
    ·exact absurd (h1 y e') (lessX_asymm (g1 x e))
  subst e
  congr 1
  refine ascB_eq h2 g2 (fun s=> ?_)
  constructor
  ·intro hs
   rcases List.mem_cons.1 ((h s).1 (List.mem_cons_of_mem _ hs)) with e | e
   ·rw [e] at hs;exact absurd (h1 x hs) (lessX_irrefl x)
   ·exact e
  ·intro hs
   rcases List.mem_cons.1 ((h s).2 (List.mem_cons_of_mem _ hs)) with e | e
   ·rw [e] at hs;exact absurd (g1 x hs) (lessX_irrefl x)
   ·exact e
theorem AscB.nodup {l:List ByteArray} (h:AscB l):l.Nodup:=h.imp fun hx=> lessX_ne hx
def PutB (l:List ByteArray) (x:ByteArray) (r:List ByteArray):Prop:= (x∈l∧r=l)∨(x∉l∧∃k,k<=l.length∧r=l.take k++x :: l.drop k∧(∀y∈l.take k,lessX y x)∧∀y∈l.drop k,lessX x y)
theorem PutB.asc {l r:List ByteArray} {x:ByteArray} (h:PutB l x r) (ha:AscB l):AscB r∧∀s,s∈r↔s∈l∨s=x:=by
 rcases h with ⟨h1,rfl⟩ | ⟨h1,k,hk,rfl,h2,h3⟩
 ·exact ⟨ha,fun s=> ⟨.inl,fun h=> h.elim id (fun e=> by rw [e];exact h1)⟩⟩
 ·have h4:AscB (l.take k++l.drop k):=by rw [List.take_append_drop];exact ha
  unfold AscB at h4⊢
  rw [List.pairwise_append] at h4⊢
  refine ⟨⟨h4.1,List.pairwise_cons.2 ⟨h3,h4.2.1⟩,fun a ha b hb=> ?_⟩,fun s=> ?_⟩
  ·rcases List.mem_cons.1 hb with rfl | hb
   ·exact h2 a ha
   ·exact h4.2.2 a ha b hb
  ·rw [List.mem_append,List.mem_cons]
   constructor
   ·rintro (h | h | h)
    ·exact .inl (List.mem_of_mem_take h)
    ·exact .inr h
    ·exact .inl (List.mem_of_mem_drop h)
   ·rintro (h | h)
    ·rw [<-List.take_append_drop k l] at h
     rcases List.mem_append.1 h with h | h
     ·exact .inl h
     ·exact .inr (.inr h)
    ·exact .inr (.inl h)
section
variable (W : Acts) (σ : Env)
def OpenN (s:ByteArray):Prop:= ∃q,σ s=some q∧q.over=false
def WaitsX (n s:ByteArray):Prop:= ∃r A,σ n=some r∧r.over=false∧r.Zj≠0∧W n=some A∧s∈(stepOf A r.at').asks∧OpenN σ s
def WaitL (n:ByteArray) (ns:List ByteArray):Prop:=AscB ns∧∀s,s∈ns↔WaitsX W σ n s
def AskedOk :Prop:= ∀n r A,σ n=some r->r.over=false->r.Zj≠0->W n=some A->∀s∈(stepOf A r.at').asks,(W s).isSome=true->(σ s).isSome=true
end
theorem WaitL.unique {W:Acts} {σ:Env} {n:ByteArray} {l m:List ByteArray} (h:WaitL W σ n l) (g:WaitL W σ n m):l=m:=ascB_eq h.1 g.1 (fun s=> (h.2 s).trans (g.2 s).symm)
theorem arrive_asks {A:ActionD} {r:Qz}: (arrive A r).2= (stepOf A (arrive A r).1.at').asks:=by
 unfold arrive
 simp only
 split <;> rfl
theorem next_asksX {W:Acts} {σ:Env} {r:Qz} {A:ActionD} (hA:W r.name=some A) (hc:CanGo W σ r) (ho: (Y_ W σ r).1.over=false): (Y_ W σ r).2= (stepOf A (Y_ W σ r).1.at').asks:=by
 unfold Y_ at ho⊢
 rw [hA] at ho⊢
 simp only at ho⊢
 by_cases hv:r.Zj=0
 ·rw [if_pos hv];exact arrive_asks
 ·rw [if_neg hv] at ho⊢
  rcases hc.2 with e | ⟨A',xs,hA',hxs⟩
  ·exact absurd e hv
  ·rw [hA] at hA'
   cases hA'
   rw [hxs] at ho⊢
   simp only at ho⊢
   by_cases h20:r.Zj=20
   ·rw [if_pos h20] at ho;cases ho
   ·rw [if_neg h20] at ho⊢
    by_cases hgo: (goOnF (stepOf A r.at') xs).over=true
    ·rw [if_pos hgo] at ho;cases ho
    ·rw [if_neg hgo];exact arrive_asks
theorem AskedOk.did {Kj:List Qq} {σ:Env} (h:AskedOk (Q_ Kj) σ) (hg:GoodEnv Kj σ) {n:ByteArray} (hn:ReadyX (Q_ Kj) σ n):AskedOk (Q_ Kj) (doX (Q_ Kj) σ n):=by
 obtain ⟨r,hr,hc⟩:=hn
 have hrn:r.name=n:= (hg n r hr).1
 intro m q A hq ho hv hA s hs hsW
 rw [doX_eq hr] at hq
 rw [doX_eq hr]
 by_cases e:s=n
 ·rw [if_pos e];rfl
 rw [if_neg e]
 cases hss:σ s with
 | some x=> rfl
 | none=>
  simp only
  by_cases e2:m=n
  ·rw [if_pos e2] at hq
   cases hq
   subst e2
   have hh:hasN (Y_ (Q_ Kj) σ r).2 s=true:=by
    rw [hasN_iff,next_asksX (by rw [hrn];exact hA) hc ho]
    exact hs
   simp [hh,hsW]
  ·rw [if_neg e2] at hq
   cases hm:σ m with
   | some x=>
    rw [hm] at hq
    cases hq
    have h9:=h m _ A hm ho hv hA s hs hsW
    rw [hss] at h9
    exact absurd h9 (by simp)
   | none=>
    rw [hm] at hq
    simp only at hq
    split at hq
    ·cases hq;exact absurd rfl hv
    ·cases hq
theorem ValidX.asked {Kj:List Qq} {Kk:List ByteArray} {sl:List Qz} (hv:ValidX Kj Kk sl):AskedOk (Q_ Kj) (Qj sl):=by
 have hok:=web_acts hv.1
 obtain ⟨_,_,_,j,L,hgL,hl,_,rfl⟩:=hv
 have h:=hl.keeps (P:=fun σ:Env=> GoodEnv Kj σ∧AskedOk (Q_ Kj) σ) (fun σ m h hm=> ⟨goodEnv_do hok h.1 hm.1,h.2.did h.1 hm.1⟩) ⟨(startL_good hok Kk).env,fun n r A hr ho hv=> by
  rw [startL_env] at hr
  split at hr
  ·cases hr;exact absurd rfl hv
  ·cases hr⟩
 exact h.2
theorem WaitsX.size {Kj:List Qq} (hok:ActsOk (Q_ Kj)) {σ:Env} (hg:GoodEnv Kj σ) {n s:ByteArray} (h:WaitsX (Q_ Kj) σ n s):s.size<=20:=by
 obtain ⟨_,_,_,_,_,_,_,q,hq,_⟩:=h
 obtain ⟨hn,hgd⟩:=hg s q hq
 obtain ⟨A,hA,_⟩:=hgd.act
 rw [hn] at hA
 exact (hok s A hA).2.2.1
def WaitsAns (Kj:List Qq) (Kk:List ByteArray) (sl:List Qz) (name:ByteArray) (ns:List ByteArray):Prop:= (ValidX Kj Kk sl∧WaitL (Q_ Kj) (Qj sl) name ns)∨(¬ValidX Kj Kk sl∧ns=[])
theorem WaitL.len {Kj:List Qq} (hok:ActsOk (Q_ Kj)) {σ:Env} (hg:GoodEnv Kj σ) {n:ByteArray} {ns:List ByteArray} (h:WaitL (Q_ Kj) σ n ns):ns.length<=5:=by
 cases hns:ns with
 | nil=> simp
 | cons x l=>
  obtain ⟨r,A,hr,_,_,hA,_⟩:= (h.2 x).1 (by rw [hns];simp)
  obtain ⟨hn,hgd⟩:=hg n r hr
  obtain ⟨A',hA',h0,h1⟩:=hgd.act
  rw [hn,hA] at hA'
  cases hA'
  have h5:= (asks_ok (hok n A hA).1 h0 h1).1
  have:=List.Nodup.length_le_of_subset h.1.nodup (l₂:= (stepOf A r.at').asks) (fun s hs=> by
   obtain ⟨r',A',hr',_,_,hA',h2,_⟩:= (h.2 s).1 hs
   rw [hr] at hr'
   cases hr'
   rw [hA] at hA'
   cases hA'
   exact h2)
  rw [<-hns]
  omega
theorem WaitsAns.len {Kj:List Qq} {Kk:List ByteArray} {sl:List Qz} {name:ByteArray} {ns:List ByteArray} (h:WaitsAns Kj Kk sl name ns):ns.length<=5:=by
 rcases h with ⟨h1,h2⟩ | ⟨_,rfl⟩
 ·obtain ⟨hW,_,_,k,L,hg,_,_,rfl⟩:=h1
  exact h2.len (web_acts hW) hg.env
 ·exact Nat.zero_le _
theorem WaitsAns.one {Kj:List Qq} {Kk:List ByteArray} {sl:List Qz} {name:ByteArray} {ns ms:List ByteArray} (h:WaitsAns Kj Kk sl name ns) (k:WaitsAns Kj Kk sl name ms):ms=ns:=by
 rcases h with ⟨h1,h2⟩ | ⟨h1,h2⟩
 ·rcases k with ⟨k1,k2⟩ | ⟨k1,k2⟩
  ·exact k2.unique h2
  ·exact absurd h1 k1
 ·rcases k with ⟨k1,k2⟩ | ⟨k1,k2⟩
  ·exact absurd k1 h1
  ·rw [h2,k2]
