import Derived.Test.YtieeffpandfpbaaGreatDoorKXPut
import Derived.Deep.RegionLaw
import Derived.Test.YtieeffpandfpbaaGreatDoorKXWant
import Derived.Test.YtieeffpandfpbaaGreatDoorKXNext
import Derived.Maps.Own
import Derived.Maps.OwnSet
import Derived.Maps.Views
import Derived.Test.YtieeffpandfpbaaGreatDoorKXSame3
import Derived.Deep.QuietTactic
import Derived.BigQuiet
import Derived.Test.YtieeffpandfpbaaGreatDoorKURes
set_option maxRecDepth 100000
set_option maxHeartbeats 25600000
namespace Go.Proofs.YtieeffpandfpbaaGreatDoor
open Go.RowKit
theorem Tryz.xSizeState : (Tryz.prog.info? 41).map (·.size)=some 2:=by kernel_rfl
theorem PackedX.set {w:World} {P:Nat->Prop} {xs:List Value} {l:List Qq} {c p:Nat} (h:PackedX w P xs l) (hc: ∀b,P b->b≠c) (u:Value):PackedX (w.setCell ⟨c,p,none⟩ u) P xs l:=by
 refine ⟨h.1,fun i hi=> ?_⟩
 obtain ⟨xa,xc,e,hs,hx,hp⟩:=h.2 i hi
 refine ⟨xa,xc,e,(fun j hj=> ?_),hx,hp⟩
 obtain ⟨b,o,rfl,hb,hcl⟩:=hs j hj
 exact ⟨b,o,rfl,by rw [size_setCell];exact hb,by rw [Zx (hc b (hp _ rfl))];exact hcl⟩
theorem owns_but {w w':World} {base size sb m n:Nat} {e t:TypeId} {v:Value} {xs:List Value} (h:w.ownsRow base e size v n xs) (k:Xx sb (sb+1) w w') (hr:RowT w sb t m) (ht:t≠e):w'.ownsRow base e size v n xs:=by
 refine ⟨h.1, ?_⟩
 rcases h.2 with h2 | ⟨g,cap,cur,rfl,hb,hg,rest⟩
 ·exact .inl h2
 ·refine .inr ⟨g,cap,cur,rfl,hb, ?_,rest⟩
  have hne:g≠sb:=by
   rintro rfl
   obtain ⟨c2,h2,_⟩:=hr
   rw [hg] at h2
   simp only [Option.some.injEq,Obj.cells.injEq] at h2
   exact ht h2.2.1.symm
  rw [k.block g (heap_lt hg) (by omega)]
  exact hg
theorem owned_strs {w:World} {base:Nat} {t:TypeId} {v:Value} {n:Nat} {l:List ByteArray} (h:w.ownsRow base t 1 v n (l.map Value.string)): ∃a cap,v= .slice a l.length cap∧Strs w a l:=by
 have hn:n=l.length:=by have:=h.1;simp at this;omega
 subst hn
 rcases h.2 with ⟨rfl,h0⟩ | ⟨g,cap,cur,rfl,hb,hg,hnc,_,_,_⟩
 ·exact ⟨none,0,by rw [h0],fun i hi=> by omega⟩
 ·refine ⟨_,cap,rfl,fun i hi=> ⟨g,0,rfl,heap_lt hg, ?_⟩⟩
  have:=h.cells (g:=g) rfl i (.string (l.getD i ByteArray.empty)) (by simp [List.getD,hi])
  rw [Addr.add_mid] at this
  exact this
structure StX (W1 wr:World) (sb:Nat) (ra:Option Addr) (n rc:Nat) (d:Option Addr) (t:List Qq) (dc:Nat) (xs:List Value):Prop where
 kb:Xx sb (sb+1) W1 wr
 row:RowT wr sb 41 2
 Q_:wr.cell? ⟨sb,0,none⟩=some (.slice ra n rc)
 runs:wr.cell? ⟨sb,1,none⟩=some (.slice d t.length dc)
 own:wr.ownsRow W1.heap.size 83 7 (.slice d t.length dc) t.length xs
 pack:PackedX wr (fun b=> sb < b) xs t
def StateX (Q_:List ByteArray) (T:List Qq) (w w':World) (e:Ending):Prop:=
 ∃ra rc d dc xs,e= .returned (.agg #[.slice ra Q_.length rc,.slice d T.length dc])∧w'.ownsRow w.heap.size 9 1 (.slice ra Q_.length rc) Q_.length (Q_.map Value.string)∧w'.ownsRow w.heap.size 83 7 (.slice d T.length dc) T.length xs∧PackedX w' (fun b=> w.heap.size<=b) xs T∧K_ w w'
theorem foldl_asc : ∀(l t:List Qq),AscX t->AscX (l.foldl insX t)
 | [],_,h=> h
 | x :: l,t,h=> foldl_asc l (insX t x) (insX_asc h)
theorem stateX_any (w:World) (rb ro rc:Nat) (Q_:List ByteArray) (a:Option Addr) (cap:Nat) (R:List Qq) (hrl:Q_.length<=10) (hRl:R.length<=10000) (hTt: ∀r∈R,r.texts.length<=1000) (hfl: ∀k,((R.take k).foldl insX []).length<=10000) (hR:Strs w (some ⟨rb,ro,none⟩) Q_) (hS:RunsX w a R):
  Calls Tryz.prog 46 #[.slice (some ⟨rb,ro,none⟩) Q_.length rc,.slice a R.length cap] w fun e w'=> StateX Q_ (R.foldl insX []) w w' e:=by
 obtain ⟨is,hi,hz0,hz1,hz2⟩:=xInfo_parts Tryz.xInfoStr
 obtain ⟨W0,hW0⟩: ∃W0,W0=w.alloc (.cells #[.slice none 0 0,.slice none 0 0] 41):= ⟨_,rfl⟩
 have KW0:K_ w W0:=by rw [hW0];exact (K_.refl _).alloc _
 have hres0:RowT W0 w.heap.size 41 2:=by rw [hW0];exact RowT.made w #[.slice none 0 0,.slice none 0 0] 41
 have hW0s:w.heap.size+1<=W0.heap.size:=hres0.lt
 have HRes0:=Kj hres0
 have HKE:Hid (K_ W0 (W0.alloc (.cells #[] 9))):= (K_.refl _).alloc _
 have HO0:Hid ((W0.alloc (.cells #[] 9)).ownsRow W0.heap.size 9 1 (.slice (some ⟨W0.heap.size,0,none⟩) 0 0) 0 (([]:List ByteArray).map Value.string)):=World.ownsRow_made W0 #[] 0 (Nat.le_refl _) (Nat.zero_le _) rfl
 have HNews:Hid (∀j u,(Q_.map Value.string)[j]? =some u->(W0.alloc (.cells #[] 9)).cell? ((⟨rb,ro,none⟩:Addr).add j)=some u):=fun j u hu=> by
  have hj:j < Q_.length:=by have:= (List.getElem?_eq_some_iff.1 hu).1;simpa using this
  obtain ⟨b,o,e,hb,hc⟩:= (hR.kept (KW0.trans HKE.out)) j hj
  simp only [Option.some.injEq] at e
  rw [e,Addr.add_mid,hc]
  simp [hj] at hu
  simp [List.getD,hj,hu]
 have HOnes:Hid (∀u∈Q_.map Value.string,u.oneCell'=true):=fun u hu=> by obtain ⟨x,_,rfl⟩:=List.mem_map.1 hu;rfl
 have hbs:W0.heap.size<=(W0.alloc (.cells #[] 9)).heap.size:=HKE.out.size
 clear hres0
 go_enter Tryz.func46,Tryz.ntmps46
 go_upto_region 1 with fail
 rw [<-hW0]
 clear hW0
 go_wp2_with (at_builtin;refine wpList_append_own _ rfl (.tmp 7) (.tmp 8) 25 rfl W0.heap.size 9 is _ 1 16 Tryz.underlying25 hi hz0 hz1 hz2 rfl (by decide) (.slice (some ⟨W0.heap.size,0,none⟩) 0 0) 0 [] rfl HO0.out ⟨rb,ro,none⟩ Q_.length rc (Q_.map Value.string) rfl (by simp) HNews.out HOnes.out (by unfold maxLen;omega) (by omega) hbs ?_;intro v6 w6 hown6 hgr6 _;have kw6:K_ W0 w6:=kept_of_grown HKE.out (Nat.le_refl _) HO0.out hgr6;rw [Nat.zero_add,List.nil_append] at hown6;obtain ⟨ra,rc6,rfl⟩:=own_slice hown6;have HT6:=Kj hown6;clear hown6 hgr6)
 obtain ⟨W1,hW1⟩: ∃W1,W1=w6.alloc (.cells #[.slice ra Q_.length rc6,.slice none 0 0] 41):= ⟨_,rfl⟩
 obtain ⟨sb,hsb⟩: ∃sb,sb=w6.heap.size:= ⟨_,rfl⟩
 have KE1:K_ w6 W1:=by rw [hW1];exact (K_.refl _).alloc _
 have HSr:Hid (RowT W1 sb 41 2):=by rw [hW1,hsb];exact RowT.made w6 #[.slice ra Q_.length rc6,.slice none 0 0] 41
 have hcs:W1.rangeAt sb 0 [.slice ra Q_.length rc6,.slice none 0 0]:=by rw [hW1,hsb];exact Xq w6 #[.slice ra Q_.length rc6,.slice none 0 0] 41
 have HCs:=Kj hcs
 have HRes:=Kj (HRes0.out.kept (kw6.trans KE1))
 have HT7:=Kj (ownsRow_kept' HT6.out KE1)
 have K1:K_ w W1:= (KW0.trans kw6).trans KE1
 have hz6:=kw6.size
 have hs1:sb+1<=W1.heap.size:=HSr.out.lt
 have hs0:w.heap.size < sb:=by omega
 rw [<-hW1,<-hsb]
 clear hcs HT6 HO0 HNews HRes0 hW1 hsb HOnes hbs HKE KE1 kw6 hz6 KW0
 go_loopw [6] (fun i wr=> ∃(k:Nat) (d:Option Addr) (dc:Nat) (xs:List Value),k<=R.length∧i= .int .i64 k∧StX W1 wr sb ra Q_.length rc6 d ((R.take k).foldl insX []) dc xs) (fun i _=> R.length - (intOf i).toNat)
 case atStart=>
  have hc:=HCs.out
  exact ⟨0,none,0,[],Nat.zero_le _,rfl,⟨Xx.refl _ _ _,HSr.out,hc 0 _ rfl,hc 1 _ rfl,World.ownsRow_nil _ _ _ _,PackedX.nil _ _⟩⟩
 case round=>
  obtain ⟨k,d,dc,xs,hk,rfl,hSt⟩:=hrel
  have hfk:=hfl k
  by_cases hlt:k < R.length
  ·have Kr:K_ w wr:=hSt.kb.kept K1 (by omega)
   obtain ⟨b,o,xa,ca,rfl,hb,hc,hTk,hXk⟩:=hS.kept Kr k hlt
   obtain ⟨t,ht⟩: ∃t,t= (R.take k).foldl insX []:= ⟨_,rfl⟩
   obtain ⟨y,hy⟩: ∃y,y=R.getD k Qq.zero:= ⟨_,rfl⟩
   have HSc:Hid ((R.take (k+1)).foldl insX []=insX t y):=by show _=_;rw [List.take_succ_eq_append_getElem hlt,List.foldl_append,ht,hy];simp [List.getD,hlt]
   have hTr:AscX t:=by rw [ht];exact foldl_asc _ _ List.Pairwise.nil
   have hyt:y.texts.length<=1000:=by rw [hy];simp only [List.getD,hlt,List.getElem?_eq_getElem,Option.getD_some];exact hTt _ (List.getElem_mem hlt)
   rw [<-ht] at hSt hfk
   rw [<-hy] at hc hTk
   have HSt:=Kj hSt
   have zr:=hSt.kb.size
   have HRt:Hid (RunsXP wr (fun b=> sb < b) d t):=by
    obtain ⟨_,a9,c9,ev,h⟩:=PackedX.runs hSt.own hSt.pack (K_.refl _)
    simp only [Value.slice.injEq,true_and] at ev
    rw [ev.1]
    exact h
   have HPut:Hid (∀W,K_ wr W->Calls Tryz.prog 90 #[.slice d t.length dc,.agg #[.string y.name,.bool y.over,.bool y.fail,.string y.text,.int .i64 y.at',.int .i64 y.Zk,.slice xa y.texts.length ca]] W fun e w'=> ∃v,e= .returned v∧RunsO W w' (fun b=> sb < b) v (insX t y)∧K_ W w'):=fun W hW=> xPut_any W d dc t y xa ca (by omega) hyt hTr (fun b=> sb < b) (fun b hb=> by have:=hW.size;omega) (HRt.out.kept hW) (hTk.kept hW) hXk
   have c0:wr.cell? ⟨b,o+k * 7+0,none⟩=some (.string y.name):=hc 0 _ rfl
   have c1:wr.cell? ⟨b,o+k * 7+1,none⟩=some (.bool y.over):=hc 1 _ rfl
   have c2:wr.cell? ⟨b,o+k * 7+2,none⟩=some (.bool y.fail):=hc 2 _ rfl
   have c3:wr.cell? ⟨b,o+k * 7+3,none⟩=some (.string y.text):=hc 3 _ rfl
   have c4:wr.cell? ⟨b,o+k * 7+4,none⟩=some (.int .i64 y.at'):=hc 4 _ rfl
   have c5:wr.cell? ⟨b,o+k * 7+5,none⟩=some (.int .i64 y.Zk):=hc 5 _ rfl
   have c6:wr.cell? ⟨b,o+k * 7+6,none⟩=some (.slice xa y.texts.length ca):=hc 6 _ rfl
   rw [Nat.add_zero] at c0
   have m1:=hSt.runs
   have hsb:=hSt.row.lt
   clear hc hy ht hTr hSt hTk hXk
   have i0: (k:Int) < (R.length:Int):=by omega
   have Zq:Hid (∀w',K_ wr w'->(fun w'=> w'.cell? ⟨sb,1,none⟩=some (.slice d t.length dc)∧w'.cell? ⟨b,o+k * 7,none⟩=some (.string y.name)∧w'.cell? ⟨b,o+k * 7+1,none⟩=some (.bool y.over)∧w'.cell? ⟨b,o+k * 7+2,none⟩=some (.bool y.fail)∧w'.cell? ⟨b,o+k * 7+3,none⟩=some (.string y.text)∧w'.cell? ⟨b,o+k * 7+4,none⟩=some (.int .i64 y.at')∧w'.cell? ⟨b,o+k * 7+5,none⟩=some (.int .i64 y.Zk)∧w'.cell? ⟨b,o+k * 7+6,none⟩=some (.slice xa y.texts.length ca)) w'):=fun w' kk=> ⟨(kk.cell hsb).trans m1,(kk.cell hb).trans c0,(kk.cell hb).trans c1,(kk.cell hb).trans c2,(kk.cell hb).trans c3,(kk.cell hb).trans c4,(kk.cell hb).trans c5,(kk.cell hb).trans c6⟩
   go_wp2
   refine Z_.region (by kernel_rfl) (fun w'=> w'.cell? ⟨sb,1,none⟩=some (.slice d t.length dc)∧w'.cell? ⟨b,o+k * 7,none⟩=some (.string y.name)∧w'.cell? ⟨b,o+k * 7+1,none⟩=some (.bool y.over)∧w'.cell? ⟨b,o+k * 7+2,none⟩=some (.bool y.fail)∧w'.cell? ⟨b,o+k * 7+3,none⟩=some (.string y.text)∧w'.cell? ⟨b,o+k * 7+4,none⟩=some (.int .i64 y.at')∧w'.cell? ⟨b,o+k * 7+5,none⟩=some (.int .i64 y.Zk)∧w'.cell? ⟨b,o+k * 7+6,none⟩=some (.slice xa y.texts.length ca)) 8 ⟨m1,c0,c1,c2,c3,c4,c5,c6⟩ (fun Zz=> ?_)
   refine Z_.tk 0 Zz ?_
   refine Z_.tk 1 Zz ?_
   refine Z_.tk 2 Zz ?_
   refine Z_.tk 3 Zz ?_
   refine Z_.tk 4 Zz ?_
   refine Z_.tk 5 Zz ?_
   refine Z_.nx 6 (fun K hK=> ?_)
   rw [if_pos (by rfl)]
   go_simp
   go_at_call 90
   refine (HPut.out _ (by repeat (first | (with_reducible exact K_.refl _) | (with_reducible assumption) | apply K_.drew))).mono ?_
   rintro e w2 ⟨v2,rfl,hO2,kk2⟩
   have k2:K_ wr w2:=K_.trans (by repeat (first | (with_reducible exact K_.refl _) | (with_reducible assumption) | apply K_.drew)) kk2
   have z2:=k2.size
   obtain ⟨wy,xs2,ky1,ky2,hO3,hP3⟩:=hO2
   have zy:=ky1.size
   have hwy:W1.heap.size<=wy.heap.size:=Nat.le_trans zr (Nat.le_trans (Nat.le_of_eq (by rfl)) zy)
   have hO2':=owns_base (base':=W1.heap.size) hO3 hwy
   obtain ⟨d2,dc2,rfl⟩:=own_slice hO3
   have HO2:=Kj hO2'
   have HP2:=Kj (hP3.kept ky2)
   have hr2:=HSt.out.row.kept k2
   obtain ⟨⟨_,fo2⟩,fo1⟩:=hr2.row.at (i:=1) (by omega)
   have HRw:=Kj hr2
   clear hO2' hO3 hP3 hr2 ky1 ky2 zy hwy
   dsimp only
   refine hK.out _ _ (fun _=> Zq.out w2 k2) ?_
   clear hK K Zz
   have Zz:=Zq.out w2 k2
   try simp only [Act.put,upA,upB,upC]
   refine Z_.tk 7 Zz ?_
   refine Z_.nx 8 (fun K hK=> ?_)
   go_simp
   refine hK.out _ _ (fun h=> absurd rfl h) ?_
   clear hK K
   try simp only [Act.put,upA,upB,upC]
   refine Z_.dn ?_
   go_wp2
   go_roundw
   case rel=> exact ⟨k+1,d2,dc2,xs2,by omega,by go_num,by rw [HSc.out];exact ⟨(HSt.out.kb.trans (Xx.of_kept k2)).setCell (Nat.le_refl _) (Nat.lt_succ_self _) _,HRw.out.set _,by rw [Y_ (by omega),k2.cell HSt.out.row.lt];exact HSt.out.Q_,set_hit HRw.out.row (by omega) _,owns_set (p:= ⟨sb,1,none⟩) HO2.out hs1 _,HP2.out.set (fun b h=> by omega) _⟩⟩
   case measure=> simp [intOf];omega
  ·have hkl:k=R.length:=by omega
   subst hkl
   rw [List.take_length] at hSt hfk
   obtain ⟨t,ht⟩: ∃t,t=R.foldl insX []:= ⟨_,rfl⟩
   rw [<-ht] at hSt hfk
   have m0:=hSt.Q_
   have m1:=hSt.runs
   have hrs:=HRes.out.block (hSt.kb.block _ HRes.out.lt (by omega))
   obtain ⟨⟨_,t0⟩,f0⟩:=hrs.row.at (i:=0) (by omega)
   obtain ⟨⟨_,t1⟩,f1⟩:=hrs.row.at (i:=1) (by omega)
   have HRs:=Kj hrs
   have HSt:=Kj hSt
   have hsb:=hSt.row.lt
   have hwb:=hrs.lt
   clear hrs hSt
   go_wp2
   have hR9:=World.rangeAt_setCells_same wr w.heap.size 0 [.slice ra Q_.length rc6,.slice d t.length dc] (HRs.out.row.there (o:=0) (m:=2) (Nat.le_refl _))
   have hO:=owns_set (owns_set HSt.out.own (p:= ⟨w.heap.size,0,none⟩) (by show w.heap.size < _;omega) (.slice ra Q_.length rc6)) (p:= ⟨w.heap.size,1,none⟩) (by show w.heap.size < _;omega) (.slice d t.length dc)
   have hT8:=owns_but HT7.out HSt.out.kb HSr.out (by decide)
   have hT9:=owns_set (owns_set hT8 (p:= ⟨w.heap.size,0,none⟩) (by show w.heap.size < _;omega) (.slice ra Q_.length rc6)) (p:= ⟨w.heap.size,1,none⟩) (by show w.heap.size < _;omega) (.slice d t.length dc)
   have hP9:= (HSt.out.pack.set (c:=w.heap.size) (p:=0) (fun b h=> by omega) (.slice ra Q_.length rc6)).set (c:=w.heap.size) (p:=1) (fun b h=> by omega) (.slice d t.length dc)
   subst ht
   refine Xz [.slice ra Q_.length rc6,.slice d (R.foldl insX []).length dc] _ Tryz.results46 rfl hR9 Tryz.underlying41 rfl Tryz.xSizeState rfl ⟨ra,rc6,d,dc,xs,rfl,owns_base hT9 (by omega),owns_base hO (by omega),⟨hP9.1,fun i hi=> by obtain ⟨xa,xc,e,h1,h2,h3⟩:=hP9.2 i hi;exact ⟨xa,xc,e,h1,h2,fun ad e=> by have:=h3 ad e;omega⟩⟩, ?_⟩
   exact ((HSt.out.kb.kept K1 (by omega)).setCell (Nat.le_refl _) _).setCell (Nat.le_refl _) _
theorem xBoxCell {w wi:World} {x:Value} {t:TypeId} (K:K_ (w.alloc (.cells #[x] t)) wi):wi.cell? ⟨w.heap.size,0,none⟩=some x:=
 (K.cell (by simp)).trans (Xq w #[x] t 0 _ rfl)
theorem xRowAlloc {X w':World} {c:Array Value} {t:TypeId} (k:K_ (X.alloc (.cells c t)) w'):RowT w' X.heap.size t c.size:= (RowT.made X c t).kept k
theorem filter_two {α:Type} (p q:α->Bool) (h: ∀x,¬(p x=true∧q x=true)): ∀l:List α,(l.filter p).length+ (l.filter q).length<=l.length
 | []=> Nat.le_refl _
 | x :: l=> by
  have ih:=filter_two p q h l
  have hx:=h x
  simp only [List.filter_cons]
  by_cases h1:p x=true
  ·have h2: ¬q x=true:=fun h2=> hx ⟨h1,h2⟩
   rw [if_pos h1,if_neg h2,List.length_cons,List.length_cons]
   omega
  ·rw [if_neg h1]
   by_cases h2:q x=true
   ·rw [if_pos h2,List.length_cons,List.length_cons];omega
   ·rw [if_neg h2,List.length_cons];omega
theorem ins_len1 (l:List Qq) (r:Qq): (insX l r).length<=l.length+1:=by
 unfold insX
 rw [List.length_append,List.length_cons]
 have:=filter_two (fun x:Qq=> Op.bytesLess x.name.toList r.name.toList) (fun x:Qq=> Op.bytesLess r.name.toList x.name.toList) (fun x h=> lessX_asymm h.1 h.2) l
 omega
theorem foldl_len : ∀(l t:List Qq),(l.foldl insX t).length<=t.length+l.length
 | [],_=> Nat.le_refl _
 | x :: l,t=> by
  have h1:=foldl_len l (insX t x)
  have h2:=ins_len1 t x
  show (l.foldl insX (insX t x)).length<=_
  rw [List.length_cons]
  omega
theorem take_foldl_len (R:List Qq) (k:Nat): ((R.take k).foldl insX []).length<=R.length:=by
 have h1:=foldl_len (R.take k) []
 have h2: (R.take k).length<=R.length:=by rw [List.length_take];omega
 simp only [List.length_nil] at h1
 omega
theorem wantL_mem (W:Acts): ∀(bs:List ByteArray) (l:List Qq) (x:Qq),x∈wantL W l bs->x∈l∨∃n,x=Qq.fresh n
 | [],_,_,h=> .inl h
 | a :: bs,l,x,h=> by
  rcases wantL_mem W bs _ x h with h1 | h1
  ·by_cases hc: (W a).isSome=true∧(Qk l a).isNone=true
   ·rw [if_pos hc] at h1
    rcases List.mem_append.1 h1 with h2 | h2
    ·exact .inl h2
    ·rw [List.mem_singleton] at h2
     exact .inr ⟨a,h2⟩
   ·rw [if_neg hc] at h1
    exact .inl h1
  ·exact .inr h1
theorem packedX_weak {w:World} {P Q:Nat->Prop} {xs:List Value} {l:List Qq} (h:PackedX w P xs l) (hq: ∀b,P b->Q b):PackedX w Q xs l:=
 ⟨h.1,fun i hi=> by obtain ⟨xa,xc,e,h1,h2,h3⟩:=h.2 i hi;exact ⟨xa,xc,e,h1,h2,fun ad e=> hq _ (h3 ad e)⟩⟩
theorem startX_any (w:World) (a:Option Addr) (cap:Nat) (Kk:List Qj) (rb ro rc:Nat) (Q_:List ByteArray) (hl:Kk.length<=1048576) (hf: ∀s∈Kk,s.Fits) (hw:WebCode Kk 0) (hro:RootsOk Q_) (hrs: ∀s∈Q_,s.size<=maxLen) (hS:Nodes w a Kk) (hR:Strs w (some ⟨rb,ro,none⟩) Q_):
  Calls Tryz.prog 56 #[.agg #[.slice a Kk.length cap],.slice (some ⟨rb,ro,none⟩) Q_.length rc] w fun e w'=> StateX Q_ (startL Kk Q_) w w' e:=by
 have hl':Kk.length<=maxLen:=by unfold maxLen;omega
 have hrl:Q_.length<=maxLen:=by have:=hro.1;have:=hro.2.1;unfold maxLen;omega
 go_enter Tryz.func56,Tryz.ntmps56
 go_wp2_with fail
 refine (specCheckWeb_any _ a cap Kk hl' hf (hS.kept (by repeat (first | apply K_.alloc | exact K_.refl _)))).mono ?_
 rintro e w1 ⟨⟨c,rfl,hc⟩,k1⟩
 have K1:K_ w w1:=K_.trans (by repeat (first | apply K_.alloc | exact K_.refl _)) k1
 have z1:=k1.size
 simp only [World.size_alloc] at z1
 have q0:=xBoxCell (w:=w) (K_.trans ((K_.refl _).alloc _) k1)
 have hrow1:=xRowAlloc k1
 simp only [World.size_alloc] at hrow1
 have HR1:Hid (RowT w1 (w.heap.size+1) 41 2):=hrow1
 obtain ⟨⟨_,x0⟩,g0⟩:=HR1.out.row.at (i:=0) (by omega)
 obtain ⟨⟨_,x1⟩,g1⟩:=HR1.out.row.at (i:=1) (by omega)
 have hc0:c=0:=hc.unique hw
 clear hrow1 hc k1
 have hw1:w.heap.size < w1.heap.size:=by omega
 have hw2:w.heap.size+1 < w1.heap.size:=by omega
 subst hc0
 go_wp2_with fail
 refine (l3RootsOk_any _ (some ⟨rb,ro,none⟩) rc Q_ hrl hrs (hR.kept K1)).mono ?_
 rintro e w2 ⟨hsay,k2⟩
 have q2:= (k2.cell (o:=0) hw1).trans q0
 have HR2:=Kj (HR1.out.kept k2)
 have K2:=K1.trans k2
 have z2:=k2.size
 obtain ⟨⟨_,y0⟩,e0⟩:=HR2.out.row.at (i:=0) (by omega)
 obtain ⟨⟨_,y1⟩,e1⟩:=HR2.out.row.at (i:=1) (by omega)
 clear q0 x0 x1 g0 g1 HR1 K1 k2
 rcases hsay.cases with ⟨rfl,hyes⟩ | ⟨rfl,hno⟩
 ·have HY:=Kj hyes
  clear hyes hsay
  have hv1:w.heap.size < w2.heap.size:=by omega
  have HKn0:Hid (KnX w2 (w2.alloc (.cells #[.slice a Kk.length cap,.slice none 0 0] 81)) w2.heap.size a Kk.length cap [] none 0 []):= ⟨(K_.refl _).alloc _,⟨RowT.made w2 _ _,Xq w2 #[.slice a Kk.length cap,.slice none 0 0] 81 0 _ rfl,Xq w2 #[.slice a Kk.length cap,.slice none 0 0] 81 1 _ rfl⟩,World.ownsRow_nil _ _ _ _,PackedX.nil _ _⟩
  go_wp2_with fail
  refine (wantX_any w2 _ w2.heap.size (Nat.le_refl _) a cap Kk (some ⟨rb,ro,none⟩) rc Q_ [] none 0 [] hl (by have:=HY.out.2.1;omega) (by simp) HKn0.out (hS.kept K2) (hR.kept K2)).mono ?_
  rintro e w3 ⟨rfl,d,dc,xs,hKn⟩
  have k3:K_ w2 w3:=hKn.kw
  have K3:=K2.trans k3
  have z3:=k3.size
  have m1:=hKn.known.runs
  have hkb:=hKn.known.row.lt
  have HRz:=Kj hKn.runs
  have HR3:=Kj (HR2.out.kept k3)
  obtain ⟨R,hRR⟩: ∃R,R=wantL (Qz Kk) [] Q_:= ⟨_,rfl⟩
  have hRl:R.length<=10:=by have:=wantL_len (Qz Kk) Q_ [];have:=HY.out.2.1;rw [hRR];simp at *;omega
  have hRt: ∀r∈R,r.texts.length<=1000:=fun r hr=> by
   rw [hRR] at hr
   rcases wantL_mem _ _ _ _ hr with h | ⟨n,rfl⟩
   ·cases h
   ·exact Nat.zero_le _
  have HRR:Hid (R.foldl insX []=startL Kk Q_):=by show _=_;rw [hRR];rfl
  rw [<-hRR] at HRz m1
  have HRt:=Kj hRt
  clear hKn y0 y1 e0 e1 HR2 q2 hRR hRt
  go_wp2_with fail
  refine (stateX_any _ rb ro rc Q_ d dc R (by have:=HY.out.2.1;omega) (by omega) HRt.out (fun k=> by have:=take_foldl_len R k;omega) (hR.kept K3) HRz.out).mono ?_
  rintro e w4 hEnd
  rw [HRR.out] at hEnd
  obtain ⟨ra,rc4,d4,dc4,xs4,rfl,hT4,hO4,hP4,k4⟩:=hEnd
  have K4:=K3.trans k4
  have HR4:=Kj (HR3.out.kept k4)
  have z4:=k4.size
  obtain ⟨⟨_,t0⟩,f0⟩:=HR4.out.row.at (i:=0) (by omega)
  obtain ⟨⟨_,t1⟩,f1⟩:=HR4.out.row.at (i:=1) (by omega)
  have HT4:=Kj hT4
  have HO4:=Kj hO4
  have HP4:=Kj hP4
  obtain ⟨T,hTT⟩: ∃T,T=startL Kk Q_:= ⟨_,rfl⟩
  rw [<-hTT] at HO4 HP4⊢
  have HTT:=Kj hTT
  clear hT4 hO4 hP4 HR3 m1 hTT HRR
  go_wp2
  have hR9:=World.rangeAt_setCells_same w4 (w.heap.size+1) 0 [.slice ra Q_.length rc4,.slice d4 T.length dc4] (HR4.out.row.there (o:=0) (m:=2) (Nat.le_refl _))
  have hO:=owns_set (owns_set HO4.out (p:= ⟨w.heap.size+1,0,none⟩) (by simp;omega) (.slice ra Q_.length rc4)) (p:= ⟨w.heap.size+1,1,none⟩) (by simp;omega) (.slice d4 T.length dc4)
  have hT9:=owns_set (owns_set HT4.out (p:= ⟨w.heap.size+1,0,none⟩) (by simp;omega) (.slice ra Q_.length rc4)) (p:= ⟨w.heap.size+1,1,none⟩) (by simp;omega) (.slice d4 T.length dc4)
  have hP9:= (HP4.out.set (c:=w.heap.size+1) (p:=0) (fun b h=> by omega) (.slice ra Q_.length rc4)).set (c:=w.heap.size+1) (p:=1) (fun b h=> by omega) (.slice d4 T.length dc4)
  obtain rfl:=HTT.out
  exact Xz [.slice ra Q_.length rc4,.slice d4 (startL Kk Q_).length dc4] _ Tryz.results56 rfl hR9 Tryz.underlying41 rfl Tryz.xSizeState rfl ⟨ra,rc4,d4,dc4,xs4,rfl,owns_base hT9 (by omega),owns_base hO (by omega),packedX_weak hP9 (fun b h=> by omega),(K4.setCell (by simp) _).setCell (by simp) _⟩
 ·exact absurd hro hno
def StrsB (w:World) (nb:Nat) (a:Option Addr) (l:List ByteArray):Prop:= ∀i,i < l.length->∃b o,a=some ⟨b,o,none⟩∧b < w.heap.size∧b≠nb∧w.cell? ⟨b,o+i,none⟩=some (.string (l.getD i ByteArray.empty))
theorem StrsB.new {w w':World} {a:Option Addr} {l:List ByteArray} (h:Strs w a l) (k:K_ w w'):StrsB w' w.heap.size a l:=fun i hi=> by
 obtain ⟨b,o,e,hb,hc⟩:=h i hi
 exact ⟨b,o,e,Nat.lt_of_lt_of_le hb k.size,by omega,(k.cell hb).trans hc⟩
theorem StrsB.of_A {n0 c nb:Nat} {w:World} {a:Option Addr} {l:List ByteArray} (h:StrsA n0 w c a l) (h1:n0<=nb) (h2:nb < c+2):StrsB w nb a l:=fun i hi=> by
 obtain ⟨b,o,e,hb,h3,hc⟩:=h i hi
 exact ⟨b,o,e,hb,by omega,hc⟩
theorem StrsB.sets' {nb:Nat} {a:Option Addr} {l:List ByteArray}: ∀(vs:List Value) (p:Nat) {w:World},StrsB w nb a l->StrsB (w.setCells nb p vs) nb a l
 | [],_,_,h=> h
 | v :: r,p,w,h=> by
  rw [World.setCells]
  refine StrsB.sets' r (p+1) fun i hi=> ?_
  obtain ⟨b,o,e,hb,h1,hc⟩:=h i hi
  exact ⟨b,o,e,by rw [size_setCell];exact hb,h1,by rw [Zx h1];exact hc⟩
theorem StrsB.sets {nb:Nat} {a:Option Addr} {l:List ByteArray} {w:World} (h:StrsB w nb a l) (vs:List Value) (p:Nat):Strs (w.setCells nb p vs) a l:=fun i hi=> by
 obtain ⟨b,o,e,hb,_,hc⟩:=StrsB.sets' vs p h i hi
 exact ⟨b,o,e,hb,hc⟩
theorem RowT.sets {b n:Nat} {t:TypeId}: ∀(vs:List Value) (p:Nat) {w:World},RowT w b t n->RowT (w.setCells b p vs) b t n
 | [],_,_,h=> h
 | v :: r,p,_,h=> by rw [World.setCells];exact RowT.sets r (p+1) (h.set v)
theorem RBox.laid {w:World} {nb:Nat} (h:RowT w nb 83 7) {q:Qq} {xq:Option Addr} {cq:Nat}:RBox (w.setCells nb 0 (q.cells xq cq)) nb q xq cq:=
 ⟨RowT.sets _ _ h,World.rangeAt_setCells_same w nb 0 (q.cells xq cq) (h.row.there (o:=0) (m:=7) (Nat.le_refl _))⟩
theorem next_asks {W:Acts} {σ:Env} {r:Qq}: (Yz W σ r).2=[]∨∃A,W r.name=some A∧(Yz W σ r).2= (stepOf A (Yz W σ r).1.at').asks:=by
 unfold Yz
 cases hA:W r.name with
 | none=> exact .inl rfl
 | some A=>
  simp only
  by_cases h0:r.Zk=0
  ·rw [if_pos h0]
   refine .inr ⟨A,rfl, ?_⟩
   unfold arrive
   split <;> rfl
  ·rw [if_neg h0]
   cases Yj W σ (stepOf A r.at').asks with
   | none=> exact .inl rfl
   | some xs=>
    simp only
    by_cases h20:r.Zk=20
    ·rw [if_pos h20];exact .inl rfl
    ·rw [if_neg h20]
     by_cases hg: (goOnF (stepOf A r.at') xs).over=true
     ·rw [if_pos hg];exact .inl rfl
     ·rw [if_neg hg]
      refine .inr ⟨A,rfl, ?_⟩
      unfold arrive
      split <;> rfl
theorem next_asks_len {Kk:List Qj} {σ:Env} {r:Qq} (hok:ActsOk (Qz Kk)) (hg:GoodEnv Kk σ) (h:r.Good Kk) (hc:CanGo (Qz Kk) σ r): (Yz (Qz Kk) σ r).2.length<=5:=by
 rcases next_asks (W:=Qz Kk) (σ:=σ) (r:=r) with e | ⟨A,hA,e⟩
 ·rw [e];exact Nat.zero_le _
 ·obtain ⟨A',hA',h0,h1⟩:= (nextOf_good hok hg h hc).act
  rw [nextOf_name] at hA'
  rw [hA] at hA'
  cases hA'
  rw [e]
  exact (asks_ok (hok _ _ hA).1 h0 h1).1
theorem doX_any (w:World) (a:Option Addr) (cap:Nat) (Kk:List Qj) (rb ro rc:Nat) (Q_:List ByteArray) (d:Option Addr) (dc:Nat) (l:List Qq) (name:ByteArray) (r:Qq) (hwl:Kk.length<=1000) (hlw:l.length<=900) (hsz:SmallAsks Kk) (hok:ActsOk (Qz Kk)) (hft: ∀y∈Kk,y.Fits) (hrl:Q_.length<=10)
  (hgl:GoodL Kk l) (hr:Qk l name=some r) (hcg:CanGo (Qz Kk) (Qk l) r) (hN:Nodes w a Kk) (hS:RunsX w d l) (hR:Strs w (some ⟨rb,ro,none⟩) Q_):
  Calls Tryz.prog 59 #[.agg #[.slice a Kk.length cap],.agg #[.slice (some ⟨rb,ro,none⟩) Q_.length rc,.slice d l.length dc],.string name] w fun e w'=> StateX Q_ (doL (Qz Kk) l r) w w' e:=by
 obtain ⟨k,hk,hke⟩: ∃k,k < l.length∧l.getD k Qq.zero=r:=by
  obtain ⟨k,h1,h2⟩:=List.getElem_of_mem (env_mem hr).1
  exact ⟨k,h1,by simp only [List.getD,List.getElem?_eq_getElem h1,Option.getD_some,h2]⟩
 have hgr:=hgl.good r (env_mem hr).1
 have hge:=hgl.env
 have hll:l.length<=1048576:=by omega
 have hwb:Kk.length<=1048576:=by omega
 obtain ⟨b,o,xa,xc,rfl,hb0,hcs,hTx,hXn⟩:=hS k hk
 rw [hke] at hcs hTx
 have HXn:=Kj hXn
 clear hXn
 obtain ⟨WB,hWB⟩: ∃WB,WB= ((w.alloc (.cells #[.slice a Kk.length cap] 37)).alloc (.cells #[.slice (some ⟨rb,ro,none⟩) Q_.length rc,.slice (some ⟨b,o,none⟩) l.length dc] 41)).alloc (.cells #[.slice none 0 0,.slice none 0 0] 41):= ⟨_,rfl⟩
 have kB:K_ w WB:=by rw [hWB];exact (((K_.refl _).alloc _).alloc _).alloc _
 have hBs:WB.heap.size=w.heap.size+3:=by rw [hWB];simp
 have b0:WB.cell? ⟨w.heap.size,0,none⟩=some (.slice a Kk.length cap):=by rw [hWB,K_.cell (w:=w.alloc (.cells #[.slice a Kk.length cap] 37)) (((K_.refl _).alloc _).alloc _) (by simp)];exact Xq w _ _ 0 _ rfl
 have s0:WB.cell? ⟨w.heap.size+1,0,none⟩=some (.slice (some ⟨rb,ro,none⟩) Q_.length rc):=by have:=Xq (w.alloc (.cells #[.slice a Kk.length cap] 37)) #[.slice (some ⟨rb,ro,none⟩) Q_.length rc,.slice (some ⟨b,o,none⟩) l.length dc] 41 0 _ rfl;rw [World.size_alloc] at this;rw [hWB,K_.cell (w:= (w.alloc (.cells #[.slice a Kk.length cap] 37)).alloc (.cells #[.slice (some ⟨rb,ro,none⟩) Q_.length rc,.slice (some ⟨b,o,none⟩) l.length dc] 41)) ((K_.refl _).alloc _) (by simp)];exact this
 have s1:WB.cell? ⟨w.heap.size+1,1,none⟩=some (.slice (some ⟨b,o,none⟩) l.length dc):=by have:=Xq (w.alloc (.cells #[.slice a Kk.length cap] 37)) #[.slice (some ⟨rb,ro,none⟩) Q_.length rc,.slice (some ⟨b,o,none⟩) l.length dc] 41 1 _ rfl;rw [World.size_alloc] at this;rw [hWB,K_.cell (w:= (w.alloc (.cells #[.slice a Kk.length cap] 37)).alloc (.cells #[.slice (some ⟨rb,ro,none⟩) Q_.length rc,.slice (some ⟨b,o,none⟩) l.length dc] 41)) ((K_.refl _).alloc _) (by simp)];exact this
 have HRes:Hid (RowT WB (w.heap.size+1+1) 41 2):=by
  have h1:=RowT.made ((w.alloc (.cells #[.slice a Kk.length cap] 37)).alloc (.cells #[.slice (some ⟨rb,ro,none⟩) Q_.length rc,.slice (some ⟨b,o,none⟩) l.length dc] 41)) #[.slice none 0 0,.slice none 0 0] 41
  simp only [World.size_alloc] at h1
  rw [hWB]
  exact h1
 have z0:w.heap.size < WB.heap.size:=by omega
 have z1:w.heap.size+1 < WB.heap.size:=by omega
 have hbB:b < WB.heap.size:=Nat.lt_of_lt_of_le hb0 kB.size
 have t0:WB.cell? ⟨b,o+k * 7,none⟩=some (.string r.name):= (kB.cell hb0).trans (hcs 0 _ rfl)
 have t1:WB.cell? ⟨b,o+k * 7+1,none⟩=some (.bool r.over):= (kB.cell hb0).trans (hcs 1 _ rfl)
 have t2:WB.cell? ⟨b,o+k * 7+2,none⟩=some (.bool r.fail):= (kB.cell hb0).trans (hcs 2 _ rfl)
 have t3:WB.cell? ⟨b,o+k * 7+3,none⟩=some (.string r.text):= (kB.cell hb0).trans (hcs 3 _ rfl)
 have t4:WB.cell? ⟨b,o+k * 7+4,none⟩=some (.int .i64 r.at'):= (kB.cell hb0).trans (hcs 4 _ rfl)
 have t5:WB.cell? ⟨b,o+k * 7+5,none⟩=some (.int .i64 r.Zk):= (kB.cell hb0).trans (hcs 5 _ rfl)
 have t6:WB.cell? ⟨b,o+k * 7+6,none⟩=some (.slice xa r.texts.length xc):= (kB.cell hb0).trans (hcs 6 _ rfl)
 have Zq:Hid (∀w',K_ WB w'->w'.cell? ⟨w.heap.size,0,none⟩=some (.slice a Kk.length cap)∧w'.cell? ⟨w.heap.size+1,0,none⟩=some (.slice (some ⟨rb,ro,none⟩) Q_.length rc)∧w'.cell? ⟨w.heap.size+1,1,none⟩=some (.slice (some ⟨b,o,none⟩) l.length dc)∧w'.cell? ⟨b,o+k * 7,none⟩=some (.string r.name)∧w'.cell? ⟨b,o+k * 7+1,none⟩=some (.bool r.over)∧w'.cell? ⟨b,o+k * 7+2,none⟩=some (.bool r.fail)∧w'.cell? ⟨b,o+k * 7+3,none⟩=some (.string r.text)∧w'.cell? ⟨b,o+k * 7+4,none⟩=some (.int .i64 r.at')∧w'.cell? ⟨b,o+k * 7+5,none⟩=some (.int .i64 r.Zk)∧w'.cell? ⟨b,o+k * 7+6,none⟩=some (.slice xa r.texts.length xc)):=fun w' K=> ⟨(K.cell z0).trans b0,(K.cell z1).trans s0,(K.cell z1).trans s1,(K.cell hbB).trans t0,(K.cell hbB).trans t1,(K.cell hbB).trans t2,(K.cell hbB).trans t3,(K.cell hbB).trans t4,(K.cell hbB).trans t5,(K.cell hbB).trans t6⟩
 have HCan:Hid (∀W,K_ WB W->Calls Tryz.prog 106 #[.agg #[.slice a Kk.length cap],.agg #[.slice (some ⟨rb,ro,none⟩) Q_.length rc,.slice (some ⟨b,o,none⟩) l.length dc],.agg #[.string r.name,.bool r.over,.bool r.fail,.string r.text,.int .i64 r.at',.int .i64 r.Zk,.slice xa r.texts.length xc]] W fun e w'=> Says e (CanGo (Qz Kk) (Qk l) r)∧K_ W w'):=fun W K=> canGo_any W a cap Kk (some ⟨rb,ro,none⟩) Q_.length rc (some ⟨b,o,none⟩) dc l r xa xc hwb hll hsz (fun _ _=> hgr.act) (hN.kept (kB.trans K)) (hS.kept (kB.trans K))
 have HNxt:Hid (∀W,K_ WB W->Calls Tryz.prog 108 #[.agg #[.slice a Kk.length cap],.agg #[.slice (some ⟨rb,ro,none⟩) Q_.length rc,.slice (some ⟨b,o,none⟩) l.length dc],.agg #[.string r.name,.bool r.over,.bool r.fail,.string r.text,.int .i64 r.at',.int .i64 r.Zk,.slice xa r.texts.length xc]] W fun e w'=> NextSaid w.heap.size (W.heap.size+2) (Qz Kk) (Qk l) r w' e∧K_ W w'):=fun W K=> next_old w W (kB.trans K) a cap Kk (some ⟨rb,ro,none⟩) Q_.length rc (some ⟨b,o,none⟩) dc l r xa xc hwb hll hsz hok hft hgr hge hcg hN (hS.kept (kB.trans K)) hTx HXn.out
 have HKB:=Kj kB
 have HN:=Kj hN
 have HS:=Kj hS
 have HRt0:=Kj hR
 have HCg:=Kj hcg
 have HGr:=Kj hgr
 have HEr:=Kj hr
 have HKe:=Kj hke
 clear hr hke
 clear kB hBs hcs hN hS hR hcg hTx t0 t1 t2 t3 t4 t5 t6 b0 s0 s1
 go_enter Tryz.func59,Tryz.ntmps59
 go_upto_region 1 with fail
 rw [<-hWB]
 clear hWB
 obtain ⟨b0,s0,s1,_⟩:=Zq.out _ (K_.refl _)
 go_wp2_with fail
 refine (l4At_place _ (some ⟨rb,ro,none⟩) Q_.length rc (some ⟨b,o,none⟩) dc l name hll (HS.out.kept HKB.out)).mono ?_
 rintro e w1 ⟨⟨q1,rfl,hq1⟩,K1⟩
 obtain rfl:q1= (k:Int):=by
  rcases hq1 with ⟨j,hj,e1,h1,h2⟩ | ⟨_,h1⟩
  ·rw [e1]
   have e2:l.getD j Qq.zero=l.getD k Qq.zero:=by rw [HEr.out] at h1;rw [<-Option.some.inj h1,HKe.out]
   simp only [List.getD,List.getElem?_eq_getElem hj,List.getElem?_eq_getElem hk,Option.getD_some] at e2
   have e3:=congrArg Qq.name e2
   have hasc:=List.pairwise_iff_getElem.1 hgl.asc
   rcases Nat.lt_trichotomy j k with h | h | h
   ·exact absurd e3 (lessX_ne (hasc j k hj hk h))
   ·rw [h]
   ·exact absurd e3.symm (lessX_ne (hasc k j hk hj h))
  ·rw [HEr.out] at h1;cases h1
 clear hq1 b0 s0 s1
 have hk0: ¬(k:Int) < 0:=by omega
 have hkl: (k:Int) < (l.length:Int):=by omega
 go_upto_region 2 with fail
 refine Z_.rk 12 Zq.out (K1.drew) (fun Zz=> ?_)
 have KD:K_ w1 w1.drew:= (K_.refl w1).drew
 generalize hwd:w1.drew=wd at Zz KD⊢
 clear hwd
 refine Z_.tk 0 Zz ?_
 refine Z_.tk 1 Zz ?_
 refine Z_.tk 2 Zz ?_
 refine Z_.tk 3 Zz ?_
 refine Z_.tk 4 Zz ?_
 refine Z_.tk 5 Zz ?_
 refine Z_.tk 6 Zz ?_
 refine Z_.tk 7 Zz ?_
 refine Z_.tk 8 Zz ?_
 refine Z_.tk 9 Zz ?_
 refine Z_.nx 10 (fun K hK=> ?_)
 rw [if_pos (by rfl)]
 go_simp
 go_at_call 106
 refine (HCan.out wd (K1.trans KD)).mono ?_
 rintro e w2 ⟨hsay,k2⟩
 have K2:= (K1.trans KD).trans k2
 rcases hsay.cases with ⟨rfl,_⟩ | ⟨rfl,hno⟩
 rotate_left
 ·exact absurd HCg.out hno
 clear hsay k2
 dsimp only
 refine hK.out _ _ (fun _=> Zq.out _ K2) ?_
 clear hK K Zz KD K1
 have Zz:=Zq.out _ K2
 try simp only [Act.put,upA,upB,upC]
 refine Z_.tk 11 Zz ?_
 refine Z_.nx 12 (fun K hK=> ?_)
 go_simp
 refine hK.out _ _ (fun h=> absurd rfl h) ?_
 clear hK K
 try simp only [Act.put,upA,upB,upC]
 refine Z_.dn ?_
 clear Zz
 go_upto_region 4 with fail
 go_cut [8,9] from 29 to 39 (fun s8 s9 wx=> ∃nb q xq cq ka kc,s8= .pointer (some ⟨nb,0,none⟩)∧s9= .slice ka (Yz (Qz Kk) (Qk l) r).2.length kc∧q= (Yz (Qz Kk) (Qk l) r).1∧K_ WB wx∧WB.heap.size<=nb∧RBox wx nb q xq cq∧Strs wx xq q.texts∧(xq=none->cq=0)∧Strs wx ka (Yz (Qz Kk) (Qk l) r).2)
 case first=>
  refine Z_.rk 13 Zq.out (K2.drew) (fun Zz=> ?_)
  have KD:K_ w2 w2.drew:= (K_.refl w2).drew
  generalize hwd:w2.drew=wd at Zz KD⊢
  clear hwd
  refine Z_.tk 0 Zz ?_
  refine Z_.tk 1 Zz ?_
  refine Z_.tk 2 Zz ?_
  refine Z_.tk 3 Zz ?_
  refine Z_.tk 4 Zz ?_
  refine Z_.tk 5 Zz ?_
  refine Z_.tk 6 Zz ?_
  refine Z_.tw 7 11 (fun K hK=> ?_) (fun K hK=> ?_)
  ·rw [if_pos (by rfl)]
   go_simp
   go_at_call 108
   refine (HNxt.out wd (K2.trans KD)).mono ?_
   rintro e w3 ⟨⟨xq,cq,ka,kc,rfl,hTq,hXq,hTk⟩,k3⟩
   obtain ⟨q,hq⟩: ∃q,q= (Yz (Qz Kk) (Qk l) r).1:= ⟨_,rfl⟩
   obtain ⟨asks,has⟩: ∃asks,asks= (Yz (Qz Kk) (Qk l) r).2:= ⟨_,rfl⟩
   rw [<-hq] at hTq⊢
   rw [<-has] at hTk⊢
   have HQ:=Kj hq
   have HA:=Kj has
   have HTq:=Kj hTq
   have HTk:=Kj hTk
   have HXq:=Kj hXq
   clear hTq hTk hXq hq has
   dsimp only [Qq.cells]
   have K3:= (K2.trans KD).trans k3
   refine hK.out _ _ (fun _=> Zq.out _ K3) ?_
   clear hK K Zz
   have Zz:=Zq.out _ K3
   try simp only [Act.put,upA,upB,upC]
   refine Z_.tk 8 Zz ?_
   refine Z_.tk 9 Zz ?_
   refine Z_.tk 10 Zz ?_
   refine Z_.nx 11 (fun K hK=> ?_)
   go_simp
   have K4:K_ w3 (w3.alloc (.cells #[.string ⟨#[]⟩,.bool false,.bool false,.string ⟨#[]⟩,.int .i64 0,.int .i64 0,.slice none 0 0] 83)):= (K_.refl _).alloc _
   refine hK.out _ _ (fun _=> Zq.out _ (K3.trans K4)) ?_
   clear hK K
   try simp only [Act.put,upA,upB,upC]
   have hRw:RowT (w3.alloc (.cells #[.string ⟨#[]⟩,.bool false,.bool false,.string ⟨#[]⟩,.int .i64 0,.int .i64 0,.slice none 0 0] 83)) w3.heap.size 83 7:=RowT.made w3 _ _
   have KE:=K3.trans K4
   have HTq2:=Kj (StrsB.new HTq.out.strs K4)
   have HTk2:=Kj (StrsB.new HTk.out.strs K4)
   have nz:=K3.size
   obtain ⟨nb,hnb⟩: ∃nb,nb=w3.heap.size:= ⟨_,rfl⟩
   rw [<-hnb] at hRw HTq2 HTk2 nz⊢
   generalize hwe:w3.alloc (.cells #[.string ⟨#[]⟩,.bool false,.bool false,.string ⟨#[]⟩,.int .i64 0,.int .i64 0,.slice none 0 0] 83)=wE at hRw KE HTq2 HTk2⊢
   clear hwe K4 hnb HTq HTk
   obtain ⟨⟨_,v0⟩,f0⟩:=hRw.row.at (i:=0) (by omega)
   obtain ⟨⟨_,v1⟩,f1⟩:=hRw.row.at (i:=1) (by omega)
   obtain ⟨⟨_,v2⟩,f2⟩:=hRw.row.at (i:=2) (by omega)
   obtain ⟨⟨_,v3⟩,f3⟩:=hRw.row.at (i:=3) (by omega)
   obtain ⟨⟨_,v4⟩,f4⟩:=hRw.row.at (i:=4) (by omega)
   obtain ⟨⟨_,v5⟩,f5⟩:=hRw.row.at (i:=5) (by omega)
   obtain ⟨⟨_,v6⟩,f6⟩:=hRw.row.at (i:=6) (by omega)
   have vz:=hRw.lt
   refine Z_.nx 12 (fun K hK=> ?_)
   go_simp
   refine hK.out _ _ ?_ ?_
   ·exact fun _=> Zq.out _ (kept_sets (g:=nb) nz [.string q.name,.bool q.over,.bool q.fail,.string q.text,.int .i64 q.at',.int .i64 q.Zk,.slice xq q.texts.length cq] 0 KE)
   clear hK K
   try simp only [Act.put,upA,upB,upC]
   refine Z_.nx 13 (fun K hK=> ?_)
   go_simp
   refine hK.out _ _ (fun h=> absurd rfl h) ?_
   clear hK K
   try simp only [Act.put,upA,upB,upC]
   refine Z_.dn ?_
   go_wp2_with fail
   go_meet
   exact ⟨nb,q,xq,cq,ka,kc,rfl,by rw [HA.out],HQ.out,kept_sets (g:=nb) nz [.string q.name,.bool q.over,.bool q.fail,.string q.text,.int .i64 q.at',.int .i64 q.Zk,.slice xq q.texts.length cq] 0 KE,nz,RBox.laid hRw,HTq2.out.sets [.string q.name,.bool q.over,.bool q.fail,.string q.text,.int .i64 q.at',.int .i64 q.Zk,.slice xq q.texts.length cq] 0,HXq.out,by rw [<-HA.out];exact HTk2.out.sets [.string q.name,.bool q.over,.bool q.fail,.string q.text,.int .i64 q.at',.int .i64 q.Zk,.slice xq q.texts.length cq] 0⟩
  ·rw [if_pos (by rfl)]
   go_simp
   have K3a:K_ wd (wd.alloc (.cells #[.string ⟨#[]⟩,.bool false,.bool false,.string ⟨#[]⟩,.int .i64 0,.int .i64 0,.slice none 0 0] 83)):= (K_.refl _).alloc _
   have K3b:= (K2.trans KD).trans K3a
   have hRw0:RowT (wd.alloc (.cells #[.string ⟨#[]⟩,.bool false,.bool false,.string ⟨#[]⟩,.int .i64 0,.int .i64 0,.slice none 0 0] 83)) wd.heap.size 83 7:=RowT.made wd _ _
   have nz:= (K2.trans KD).size
   obtain ⟨nb,hnb⟩: ∃nb,nb=wd.heap.size:= ⟨_,rfl⟩
   rw [<-hnb] at hRw0 nz⊢
   generalize hwe:wd.alloc (.cells #[.string ⟨#[]⟩,.bool false,.bool false,.string ⟨#[]⟩,.int .i64 0,.int .i64 0,.slice none 0 0] 83)=wF at hRw0 K3b⊢
   clear hwe K3a hnb
   refine hK.out _ _ (fun _=> Zq.out _ K3b) ?_
   clear hK K
   try simp only [Act.put,upA,upB,upC]
   refine Z_.nx 7 (fun K hK=> ?_)
   rw [if_pos (by rfl)]
   go_simp
   go_at_call 108
   refine (HNxt.out wF K3b).mono ?_
   rintro e w3 ⟨⟨xq,cq,ka,kc,rfl,hTq,hXq,hTk⟩,k3⟩
   obtain ⟨q,hq⟩: ∃q,q= (Yz (Qz Kk) (Qk l) r).1:= ⟨_,rfl⟩
   obtain ⟨asks,has⟩: ∃asks,asks= (Yz (Qz Kk) (Qk l) r).2:= ⟨_,rfl⟩
   rw [<-hq] at hTq⊢
   rw [<-has] at hTk⊢
   have HQ:=Kj hq
   have HA:=Kj has
   have HTq:=Kj hTq
   have HTk:=Kj hTk
   have HXq:=Kj hXq
   clear hTq hTk hXq hq has
   dsimp only [Qq.cells]
   have K3:=K3b.trans k3
   refine hK.out _ _ (fun _=> Zq.out _ K3) ?_
   clear hK K Zz
   have Zz:=Zq.out _ K3
   try simp only [Act.put,upA,upB,upC]
   refine Z_.tk 8 Zz ?_
   refine Z_.tk 9 Zz ?_
   refine Z_.tk 10 Zz ?_
   have hRw:=hRw0.kept k3
   have KE:=K3
   have hFz:=hRw0.lt
   have HTq2:=Kj (StrsB.of_A (nb:=nb) HTq.out (by omega) (by omega))
   have HTk2:=Kj (StrsB.of_A (nb:=nb) HTk.out (by omega) (by omega))
   obtain ⟨⟨_,v0⟩,f0⟩:=hRw.row.at (i:=0) (by omega)
   obtain ⟨⟨_,v1⟩,f1⟩:=hRw.row.at (i:=1) (by omega)
   obtain ⟨⟨_,v2⟩,f2⟩:=hRw.row.at (i:=2) (by omega)
   obtain ⟨⟨_,v3⟩,f3⟩:=hRw.row.at (i:=3) (by omega)
   obtain ⟨⟨_,v4⟩,f4⟩:=hRw.row.at (i:=4) (by omega)
   obtain ⟨⟨_,v5⟩,f5⟩:=hRw.row.at (i:=5) (by omega)
   obtain ⟨⟨_,v6⟩,f6⟩:=hRw.row.at (i:=6) (by omega)
   have vz:=hRw.lt
   refine Z_.nx 12 (fun K hK=> ?_)
   go_simp
   refine hK.out _ _ ?_ ?_
   ·exact fun _=> Zq.out _ (kept_sets (g:=nb) nz [.string q.name,.bool q.over,.bool q.fail,.string q.text,.int .i64 q.at',.int .i64 q.Zk,.slice xq q.texts.length cq] 0 KE)
   clear hK K
   try simp only [Act.put,upA,upB,upC]
   refine Z_.nx 13 (fun K hK=> ?_)
   go_simp
   refine hK.out _ _ (fun h=> absurd rfl h) ?_
   clear hK K
   try simp only [Act.put,upA,upB,upC]
   refine Z_.dn ?_
   go_wp2_with fail
   go_meet
   exact ⟨nb,q,xq,cq,ka,kc,rfl,by rw [HA.out],HQ.out,kept_sets (g:=nb) nz [.string q.name,.bool q.over,.bool q.fail,.string q.text,.int .i64 q.at',.int .i64 q.Zk,.slice xq q.texts.length cq] 0 KE,nz,RBox.laid hRw,HTq2.out.sets [.string q.name,.bool q.over,.bool q.fail,.string q.text,.int .i64 q.at',.int .i64 q.Zk,.slice xq q.texts.length cq] 0,HXq.out,by rw [<-HA.out];exact HTk2.out.sets [.string q.name,.bool q.over,.bool q.fail,.string q.text,.int .i64 q.at',.int .i64 q.Zk,.slice xq q.texts.length cq] 0⟩
 case rest=>
  obtain ⟨nb,q,xq,cq,ka,kc,rfl,rfl,hq,Kx,hnb,hbx,hTq,hXq,hTk⟩:=hcut
  obtain ⟨w4,rfl⟩: ∃w4,w4=wc:= ⟨_,rfl⟩
  have hqg:q.Good Kk:=by rw [hq];exact nextOf_good hok hge HGr.out HCg.out
  have hal: (Yz (Qz Kk) (Qk l) r).2.length<=5:=next_asks_len hok hge HGr.out HCg.out
  obtain ⟨asks,has⟩: ∃asks,asks= (Yz (Qz Kk) (Qk l) r).2:= ⟨_,rfl⟩
  rw [<-has] at hal hTk⊢
  have HDo:Hid ((wantL (Qz Kk) (insX l q) asks).foldl insX []=doL (Qz Kk) l r):=by show _=_;rw [has,hq];rfl
  have hqt:q.texts.length<=1000:=by have h1:=hqg.tl;have h2:=hqg.hi;omega
  obtain ⟨g0,g1,g2,g3,g4,g5,g6⟩:=hbx.all
  have gz:=hbx.row.lt
  have HTk:=Kj hTk
  have HQg:=Kj hqg
  have HPut:Hid (∀W,K_ w4 W->Calls Tryz.prog 90 #[.slice (some ⟨b,o,none⟩) l.length dc,.agg #[.string q.name,.bool q.over,.bool q.fail,.string q.text,.int .i64 q.at',.int .i64 q.Zk,.slice xq q.texts.length cq]] W fun e w'=> ∃v,e= .returned v∧RunsO W w' (fun _=> True) v (insX l q)∧K_ W w'):=fun W hW=> xPut_any W (some ⟨b,o,none⟩) dc l q xq cq (by omega) hqt hgl.asc (fun _=> True) (fun _ _=> trivial) ((HS.out.kept (HKB.out.trans (Kx.trans hW))).all) (hTq.kept hW) hXq
  obtain ⟨b0,s0,s1,_⟩:=Zq.out _ Kx
  have z0x:=Nat.lt_of_lt_of_le z0 Kx.size
  have z1x:=Nat.lt_of_lt_of_le z1 Kx.size
  have HS5:Hid (∀w',K_ w4 w'->w'.cell? ⟨w.heap.size,0,none⟩=some (.slice a Kk.length cap)∧w'.cell? ⟨w.heap.size+1,1,none⟩=some (.slice (some ⟨b,o,none⟩) l.length dc)∧w'.cell? ⟨nb,0,none⟩=some (.string q.name)∧w'.cell? ⟨nb,1,none⟩=some (.bool q.over)∧w'.cell? ⟨nb,2,none⟩=some (.bool q.fail)∧w'.cell? ⟨nb,3,none⟩=some (.string q.text)∧w'.cell? ⟨nb,4,none⟩=some (.int .i64 q.at')∧w'.cell? ⟨nb,5,none⟩=some (.int .i64 q.Zk)∧w'.cell? ⟨nb,6,none⟩=some (.slice xq q.texts.length cq)):=fun w' K=> ⟨(K.cell z0x).trans b0,(K.cell z1x).trans s1,(K.cell gz).trans g0,(K.cell gz).trans g1,(K.cell gz).trans g2,(K.cell gz).trans g3,(K.cell gz).trans g4,(K.cell gz).trans g5,(K.cell gz).trans g6⟩
  clear hq has hTk hqg hTq hXq hbx g0 g1 g2 g3 g4 g5 g6 b0 s0 s1 HNxt HCan
  go_upto_region 5 with fail
  refine Z_.rg 7 HS5.out fun wd KD Zz=> ?_
  refine Z_.tk 0 Zz ?_
  refine Z_.tk 1 Zz ?_
  refine Z_.tk 2 Zz ?_
  refine Z_.tk 3 Zz ?_
  refine Z_.nx 4 (fun K hK=> ?_)
  rw [if_pos (by rfl)]
  go_simp
  go_at_call 90
  refine (HPut.out wd KD).mono ?_
  rintro e w5 ⟨v5,rfl,hO5,k5⟩
  have K5:=KD.trans k5
  obtain ⟨w6,xs6,ky1,ky2,hO6,hP6⟩:=hO5
  obtain ⟨av,cv,rfl⟩:=own_slice hO6
  have HO6:=Kj hO6
  have HP6:=Kj hP6
  have HN6:=Kj (HN.out.kept (HKB.out.trans (Kx.trans (KD.trans ky1))))
  have HT6:=Kj (HTk.out.kept (KD.trans ky1))
  have HK6:=Kj ky2
  have HK46:=Kj (KD.trans ky1)
  have hz6:=ky2.size
  clear hO6 hP6 ky1 ky2
  refine hK.out _ _ (fun _=> HS5.out _ K5) ?_
  clear hK K Zz
  have Zz:=HS5.out _ K5
  try simp only [Act.put,upA,upB,upC]
  refine Z_.tk 5 Zz ?_
  refine Z_.nx 6 (fun K hK=> ?_)
  go_simp
  have K7a:K_ w5 (w5.alloc (.cells #[.slice a Kk.length cap,.slice av (insX l q).length cv] 81)):= (K_.refl _).alloc _
  have HKn:Hid (KnX w6 (w5.alloc (.cells #[.slice a Kk.length cap,.slice av (insX l q).length cv] 81)) w5.heap.size a Kk.length cap (insX l q) av cv xs6):= ⟨HK6.out.trans K7a,⟨RowT.made w5 _ _,Xq w5 #[.slice a Kk.length cap,.slice av (insX l q).length cv] 81 0 _ rfl,Xq w5 #[.slice a Kk.length cap,.slice av (insX l q).length cv] 81 1 _ rfl⟩,ownsRow_kept' HO6.out K7a,HP6.out⟩
  have K7:=K5.trans K7a
  obtain ⟨kb,hkb⟩: ∃kb,kb=w5.heap.size:= ⟨_,rfl⟩
  have hkz:w6.heap.size<=kb:=by omega
  refine hK.out _ _ (fun _=> HS5.out _ K7) ?_
  clear hK K Zz
  rw [<-hkb] at HKn⊢
  generalize hwe:w5.alloc (.cells #[.slice a Kk.length cap,.slice av (insX l q).length cv] 81)=w7 at HKn K7⊢
  clear hwe K7a hkb
  try simp only [Act.put,upA,upB,upC]
  refine Z_.nx 7 (fun K hK=> ?_)
  go_simp
  refine hK.out _ _ (fun h=> absurd rfl h) ?_
  clear hK K
  try simp only [Act.put,upA,upB,upC]
  refine Z_.dn ?_
  go_wp2_with fail
  refine (wantX_any w6 w7 kb hkz a cap Kk ka kc asks (insX l q) av cv xs6 hwb (by omega) (by have:=ins_len1 l q;omega) HKn.out HN6.out HT6.out).mono ?_
  rintro e w8 ⟨rfl,d8,dc8,xs8,hKn8⟩
  have k8:K_ w4 w8:=HK46.out.trans hKn8.kw
  have m1:=hKn8.known.runs
  have kz:=hKn8.known.row.lt
  have HRz:=Kj hKn8.runs
  obtain ⟨R,hRR⟩: ∃R,R=wantL (Qz Kk) (insX l q) asks:= ⟨_,rfl⟩
  have hRl:R.length<=1000:=by have h1:=wantL_len (Qz Kk) asks (insX l q);have h2:=ins_len1 l q;rw [hRR];omega
  have HRt:Hid (∀x∈R,x.texts.length<=1000):=fun x hx=> by
   rw [hRR] at hx
   rcases wantL_mem _ _ _ _ hx with h | ⟨n,rfl⟩
   ·rcases insX_mem.1 h with rfl | ⟨h1,_⟩
    ·exact hqt
    ·have h2:= (hgl.good x h1).tl;have h3:= (hgl.good x h1).hi;omega
   ·exact Nat.zero_le _
  have HRD:Hid (R.foldl insX []=doL (Qz Kk) l r):=by show _=_;rw [hRR];exact HDo.out
  rw [<-hRR] at HRz m1
  have K8:=Kx.trans k8
  have HSt:Hid (∀W,K_ w8 W->Calls Tryz.prog 46 #[.slice (some ⟨rb,ro,none⟩) Q_.length rc,.slice d8 R.length dc8] W fun e w'=> StateX Q_ (doL (Qz Kk) l r) W w' e):=fun W hW=> by
   have h:=stateX_any W rb ro rc Q_ d8 dc8 R hrl (by omega) HRt.out (fun j=> by have:=take_foldl_len R j;omega) (HRt0.out.kept (HKB.out.trans (K8.trans hW))) (HRz.out.kept hW)
   rw [HRD.out] at h
   exact h
  obtain ⟨_,s0,_⟩:=Zq.out _ K8
  have z18:=Nat.lt_of_lt_of_le z1 K8.size
  have HS7:Hid (∀w',K_ w8 w'->w'.cell? ⟨w.heap.size+1,0,none⟩=some (.slice (some ⟨rb,ro,none⟩) Q_.length rc)∧w'.cell? ⟨kb,1,none⟩=some (.slice d8 R.length dc8)):=fun w' K=> ⟨(K.cell z18).trans s0,(K.cell kz).trans m1⟩
  have HR8:=Kj (HRes.out.kept K8)
  have K08:=HKB.out.trans K8
  clear hKn8 hRR HRz HRD HRt HDo m1 s0 k8 HKn HN6 HT6 HK6 HK46 HO6 HP6 HPut HS5 Zq HRes HN HS HTk HQg
  go_upto_region 7 with fail
  refine Z_.rg 7 HS7.out fun wd KD Zz=> ?_
  refine Z_.tk 0 Zz ?_
  refine Z_.tk 1 Zz ?_
  refine Z_.tk 2 Zz ?_
  refine Z_.tk 3 Zz ?_
  refine Z_.tk 4 Zz ?_
  refine Z_.tk 5 Zz ?_
  refine Z_.nx 6 (fun K hK=> ?_)
  rw [if_pos (by rfl)]
  go_simp
  go_at_call 46
  refine (HSt.out wd KD).mono ?_
  rintro e w9 ⟨ra,rc9,d9,dc9,xs9,rfl,hT9,hO9,hP9,k9⟩
  obtain ⟨T,hTT⟩: ∃T,T=doL (Qz Kk) l r:= ⟨_,rfl⟩
  rw [<-hTT] at hO9 hP9⊢
  have HTT:=Kj hTT
  have K9:=KD.trans k9
  have z9:=K9.size
  have zd:=KD.size
  have HT9:=Kj hT9
  have HO9:=Kj hO9
  have HP9:=Kj hP9
  have HR9:=Kj (HR8.out.kept K9)
  obtain ⟨⟨_,x0⟩,f0⟩:=HR9.out.row.at (i:=0) (by omega)
  obtain ⟨⟨_,x1⟩,f1⟩:=HR9.out.row.at (i:=1) (by omega)
  have hrz:=HR8.out.lt
  have hrz9:=HR9.out.lt
  clear hT9 hO9 hP9 hTT
  refine hK.out _ _ (fun _=> HS7.out _ K9) ?_
  clear hK K Zz
  try simp only [Act.put,upA,upB,upC]
  refine Z_.nx 7 (fun K hK=> ?_)
  go_simp
  refine hK.out _ _ (fun h=> absurd rfl h) ?_
  clear hK K
  try simp only [Act.put,upA,upB,upC]
  refine Z_.dn ?_
  go_wp2_with fail
  have hRg:=World.rangeAt_setCells_same w9 (w.heap.size+1+1) 0 [.slice ra Q_.length rc9,.slice d9 T.length dc9] (HR9.out.row.there (o:=0) (m:=2) (Nat.le_refl _))
  have hO:=owns_set (owns_set HO9.out (p:= ⟨w.heap.size+1+1,0,none⟩) (by show w.heap.size+1+1 < _;omega) (.slice ra Q_.length rc9)) (p:= ⟨w.heap.size+1+1,1,none⟩) (by show w.heap.size+1+1 < _;omega) (.slice d9 T.length dc9)
  have hT:=owns_set (owns_set HT9.out (p:= ⟨w.heap.size+1+1,0,none⟩) (by show w.heap.size+1+1 < _;omega) (.slice ra Q_.length rc9)) (p:= ⟨w.heap.size+1+1,1,none⟩) (by show w.heap.size+1+1 < _;omega) (.slice d9 T.length dc9)
  have hP:= (HP9.out.set (c:=w.heap.size+1+1) (p:=0) (fun b h=> by omega) (.slice ra Q_.length rc9)).set (c:=w.heap.size+1+1) (p:=1) (fun b h=> by omega) (.slice d9 T.length dc9)
  obtain rfl:=HTT.out
  exact Xz [.slice ra Q_.length rc9,.slice d9 (doL (Qz Kk) l r).length dc9] _ Tryz.results59 rfl hRg Tryz.underlying41 rfl Tryz.xSizeState rfl ⟨ra,rc9,d9,dc9,xs9,rfl,owns_base hT (by omega),owns_base hO (by omega),packedX_weak hP (fun b h=> by omega),kept_sets (g:=w.heap.size+1+1) (by omega) [.slice ra Q_.length rc9,.slice d9 (doL (Qz Kk) l r).length dc9] 0 (K08.trans K9)⟩
structure But (S:Nat->Prop) (w w':World):Prop where
 os:w'.os=w.os
 tape:w'.tape=w.tape
 output:w'.output=w.output
 size:w.heap.size<=w'.heap.size
 block: ∀b,b < w.heap.size->¬S b->w'.heap[b]? =w.heap[b]?
section
variable {S : Nat -> Prop} {w w' w'' wz : World}
theorem But.of_kept (h:K_ w w'):But S w w':= ⟨h.os,h.tape,h.output,h.size,fun b hb _=> h.block b hb⟩
theorem But.of_grown {row:Option Nat} (h:w.grownBy w' row) (hs: ∀b,row=some b->S b):But S w w':= ⟨h.os,h.tape,h.output,h.size,fun b hb hn=> h.block b hb (fun e=> hn (hs b e.symm))⟩
theorem But.trans (h:But S w w') (k:But S w' w''):But S w w'':= ⟨k.os.trans h.os,k.tape.trans h.tape,k.output.trans h.output,Nat.le_trans h.size k.size,fun b hb hn=> (k.block b (Nat.lt_of_lt_of_le hb h.size) hn).trans (h.block b hb hn)⟩
theorem But.set (h:But S w w') {p:Addr} (hs:S p.block) (v:Value):But S w (w'.setCell p v):= ⟨h.os,h.tape,h.output,by rw [size_setCell];exact h.size,fun b hb hn=> by rw [Below.heap_setCell _ _ _ _ (fun e=> hn (by rw [e];exact hs))];exact h.block b hb hn⟩
theorem But.mono {S':Nat->Prop} (h:But S w w') (hs: ∀b,b < w.heap.size->S b->S' b):But S' w w':= ⟨h.os,h.tape,h.output,h.size,fun b hb hn=> h.block b hb (fun e=> hn (hs b hb e))⟩
theorem But.kept (h:But S w w') (k:K_ wz w) (hs: ∀b,S b->wz.heap.size<=b):K_ wz w':=
 ⟨h.os.trans k.os,h.tape.trans k.tape,h.output.trans k.output,Nat.le_trans k.size h.size,fun b hb=> (h.block b (Nat.lt_of_lt_of_le hb k.size) (fun e=> by have:=hs b e;omega)).trans (k.block b hb)⟩
theorem But.cell (h:But S w w') {b o:Nat} (hb:b < w.heap.size) (hn: ¬S b):w'.cell? ⟨b,o,none⟩=w.cell? ⟨b,o,none⟩:=World.cell?_of_block (w:=w) (h.block b hb hn)
theorem But.row (h:But S w w') {b n:Nat} {t:TypeId} (hr:RowT w b t n) (hn: ¬S b):RowT w' b t n:=hr.block (h.block b hr.lt hn)
theorem But.range (h:But S w w') {b o n:Nat} {t:TypeId} (hr:RowT w b t n) (hn: ¬S b) {cs:List Value} (hc:w.rangeAt b o cs):w'.rangeAt b o cs:=fun j v hv=> (h.cell hr.lt hn).trans (hc j v hv)
theorem But.owns (h:But S w w') {base size n:Nat} {e:TypeId} {v:Value} {xs:List Value} (ho:w.ownsRow base e size v n xs) (hn: ∀b,v.ownBlock=some b->¬S b):w'.ownsRow base e size v n xs:=by
 refine ⟨ho.1, ?_⟩
 rcases ho.2 with h2 | ⟨g,cap,cur,rfl,hb,hg,rest⟩
 ·exact .inl h2
 ·exact .inr ⟨g,cap,cur,rfl,hb,by rw [h.block g (heap_lt hg) (hn g rfl)];exact hg,rest⟩
end
def TypeAt (w:World) (b:Nat) (t:TypeId):Prop:= ∃cur fr,w.heap[b]? =some (Obj.cells cur t fr)
theorem RowT.type {w:World} {b n:Nat} {t:TypeId} (h:RowT w b t n):TypeAt w b t:=let ⟨cur,h1,_⟩:=h;⟨cur,_,h1⟩
theorem Yq {w:World} {base size n:Nat} {e:TypeId} {v:Value} {xs:List Value} (h:w.ownsRow base e size v n xs) {b:Nat} (hb:v.ownBlock=some b):TypeAt w b e:=by
 rcases h.2 with ⟨rfl,_⟩ | ⟨g,cap,cur,rfl,_,hg,_⟩
 ·cases hb
 ·simp only [Value.ownBlock,Option.some.injEq] at hb
  subst hb
  exact ⟨cur,_,hg⟩
theorem type_ne {w:World} {b c:Nat} {t u:TypeId} (h:TypeAt w b t) (k:TypeAt w c u) (hn:t≠u):b≠c:=by
 rintro rfl
 obtain ⟨c1,f1,h1⟩:=h
 obtain ⟨c2,f2,h2⟩:=k
 rw [h1] at h2
 simp only [Option.some.injEq,Obj.cells.injEq] at h2
 exact hn h2.2.1
structure X_ where
 tb:Nat
 r:Qq
 cost:Int
 steps:List Xk
 sa:Option Addr
 sc:Nat
 op:Nat
 tv:Value
 qv:Value
 qs:List Value
 bl:ByteArray
def X_.cells (t:X_):List Value:=[.string t.r.name,.bool t.r.over,.bool t.r.fail,.string t.r.text,.int .i64 t.r.at',.int .i64 t.r.Zk,t.tv,.int .i64 t.cost,.slice t.sa t.steps.length t.sc,.int .i64 (t.op:Int),t.qv,.string t.bl]
def X_.ptr (t:X_):Value:= .pointer (some ⟨t.tb,0,none⟩)
def X_.own (t:X_):List Nat:=t.tv.ownBlock.toList++t.qv.ownBlock.toList
def ptrB (b:Nat):Value:= .pointer (some ⟨b,0,none⟩)
structure TaskAt (base:Nat) (w:World) (t:X_):Prop where
 row:RowT w t.tb 135 12
 rng:w.rangeAt t.tb 0 t.cells
 txt:w.ownsRow base 9 1 t.tv t.r.texts.length (t.r.texts.map Value.string)
 ask:w.ownsRow base 9 1 t.qv t.qs.length t.qs
 low:base<=t.tb
theorem TaskAt.own_type {base:Nat} {w:World} {t:X_} (h:TaskAt base w t) {x:Nat} (hx:x∈t.own):TypeAt w x 9∧base<=x∧x < w.heap.size:=by
 unfold X_.own at hx
 rcases List.mem_append.1 hx with hx | hx
 ·have e:=Option.mem_toList.1 hx
  exact ⟨Yq h.txt e,h.txt.lt x e⟩
 ·have e:=Option.mem_toList.1 hx
  exact ⟨Yq h.ask e,h.ask.lt x e⟩
theorem TaskAt.but {base:Nat} {S:Nat->Prop} {w w':World} {t:X_} (h:TaskAt base w t) (k:But S w w') (h1: ¬S t.tb) (h2: ∀x∈t.own,¬S x):TaskAt base w' t:=
 ⟨k.row h.row h1,k.range h.row h1 h.rng,k.owns h.txt (fun b hb=> h2 b (List.mem_append.2 (.inl (Option.mem_toList.2 hb)))),k.owns h.ask (fun b hb=> h2 b (List.mem_append.2 (.inr (Option.mem_toList.2 hb)))),h.low⟩
def asIs (v:Value):Option (DataW Value×List MemPlace):=some (.held v,[])
def keyLit (s:ByteArray):Lit:= .string s.data.toList
def Qx (ts:List X_):List Qq:=ts.map (·.r)
structure Ghost where
 wo:World
 K:Nat->Prop
 ps:List (Nat×ByteArray)
def Ghost.no (w:World):Ghost:= ⟨w,fun _=> False,[]⟩
structure Fen (G:Ghost) (w:World) (bb mb:Nat) (ts:List X_) (f:ByteArray->Value):Prop where
 size:G.wo.heap.size<=w.heap.size
 lt: ∀k,G.K k->k < G.wo.heap.size
 same: ∀k,G.K k->w.heap[k]? =G.wo.heap[k]?
 nb: ¬G.K bb
 nm: ¬G.K mb
 nt: ∀t∈ts,¬G.K t.tb∧∀x∈t.own,¬G.K x
 nf: ∀s x,(f s).ownBlock=some x->¬G.K x
 has: ∀p∈G.ps,∃t∈ts,t.tb=p.1∧t.r.name=p.2
theorem Fen.but {G:Ghost} {S:Nat->Prop} {w w':World} {bb mb:Nat} {ts:List X_} {f:ByteArray->Value} (h:Fen G w bb mb ts f) (k:But S w w') (hS: ∀b,S b->¬G.K b):Fen G w' bb mb ts f:=
 ⟨Nat.le_trans h.size k.size,h.lt,fun b hb=> (k.block b (Nat.lt_of_lt_of_le (h.lt b hb) h.size) (fun e=> hS b e hb)).trans (h.same b hb),h.nb,h.nm,h.nt,h.nf,h.has⟩
theorem Fen.far {G:Ghost} {w:World} {bb mb:Nat} {ts:List X_} {f:ByteArray->Value} (h:Fen G w bb mb ts f) {x:Nat} (hx:w.heap.size<=x): ¬G.K x:=fun hk=> by
 have h1:=h.lt x hk
 have h2:=h.size
 omega
theorem Fen.no {w w':World} {bb mb:Nat} {ts:List X_} {f:ByteArray->Value} (h:w.heap.size<=w'.heap.size):Fen (Ghost.no w) w' bb mb ts f:=
 ⟨h,fun _ e=> e.elim,fun _ e=> e.elim,id,id,fun _ _=> ⟨id,fun _ _=> id⟩,fun _ _ _=> id,fun _ h=> (by cases h)⟩
structure BM (G:Ghost) (Kk:List Qj) (wz w:World) (bb:Nat) (a:Option Addr) (cap:Nat) (rd:Option Addr) (rn rc:Nat) (mb mx:Nat) (ts:List X_) (d:Option Addr) (dc:Nat) (f:ByteArray->Value) (ws:ByteArray->List Nat):Prop where
 kw:K_ wz w
 row:RowT w bb 131 6
 c0:w.cell? ⟨bb,0,none⟩=some (.slice a Kk.length cap)
 c1:w.cell? ⟨bb,1,none⟩=some (.func (.func 97) #[] #[])
 c2:w.cell? ⟨bb,2,none⟩=some (.slice rd rn rc)
 c3:w.cell? ⟨bb,3,none⟩=some (.slice d ts.length dc)
 c4:w.cell? ⟨bb,4,none⟩=some (.func (.func 112) #[] #[])
 c5:w.cell? ⟨bb,5,none⟩=some (.map (some mb))
 low:wz.heap.size<=bb
 items:w.ownsRow wz.heap.size 125 1 (.slice d ts.length dc) ts.length (ts.map X_.ptr)
 task: ∀t∈ts,TaskAt wz.heap.size w t
 act: ∀t∈ts,Qz Kk t.r.name=some ⟨t.cost,t.steps⟩∧Steps wz t.sa t.steps
 asc:AscX (Qx ts)
 tbs: (ts.map (·.tb)).Nodup
 sep:ts.Pairwise fun t u=> ∀x∈t.own,x∉u.own
 sep2: ∀t∈ts,t.own.Nodup
 map: ∃N D,N<=mx∧w.ownsMap Tryz.prog 9 asIs mb N D∧∀s:ByteArray,s.size<=maxLen->D.atKey (keyLit s) (.held (.slice none 0 0))= .held (f s)
 mlow:wz.heap.size<=mb
 wrow: ∀s,w.ownsRow wz.heap.size 125 1 (f s) (ws s).length ((ws s).map ptrB)
 wsep: ∀s s',s≠s'->∀x,(f s).ownBlock=some x->(f s').ownBlock≠some x
 isep: ∀s x,(f s).ownBlock=some x->(Value.slice d ts.length dc).ownBlock≠some x
 qb: ∀t∈ts,t.qs.length<=5 * mx
 oth:Fen G w bb mb ts f
theorem map_but {S:Nat->Prop} {w w':World} {mb N:Nat} {D:DataW Value} (h:w.ownsMap Tryz.prog 9 asIs mb N D) (k:But S w w') (hn: ¬S mb):w'.ownsMap Tryz.prog 9 asIs mb N D:=by
 obtain ⟨es,clock,hb,F,hs,hD⟩:=h
 exact ⟨es,clock,by rw [k.block mb (heap_lt hb) hn];exact hb,F,hs,hD⟩
theorem map_ne {w:World} {mb N b:Nat} {D:DataW Value} {t:TypeId} (h:w.ownsMap Tryz.prog 9 asIs mb N D) (k:TypeAt w b t):b≠mb:=by
 rintro rfl
 obtain ⟨es,clock,hb,_⟩:=h
 obtain ⟨cur,fr,hc⟩:=k
 rw [hb] at hc
 cases hc
section
variable {G : Ghost} {Kk : List Qj} {wz w w' : World} {bb : Nat} {a : Option Addr} {cap : Nat} {rd : Option Addr} {rn rc : Nat} {mb mx : Nat} {ts : List X_} {d : Option Addr} {dc : Nat} {f : ByteArray -> Value} {ws : ByteArray -> List Nat}
theorem BM.but {S:Nat->Prop} (h:BM G Kk wz w bb a cap rd rn rc mb mx ts d dc f ws) (k:But S w w') (hs: ∀b,S b->wz.heap.size<=b) (h1: ¬S bb) (h2: ¬S mb) (h3: ∀b,(Value.slice d ts.length dc).ownBlock=some b->¬S b) (h4: ∀s b,(f s).ownBlock=some b->¬S b) (h5: ∀t∈ts,¬S t.tb∧∀x∈t.own,¬S x) (h6: ∀b,S b->¬G.K b):BM G Kk wz w' bb a cap rd rn rc mb mx ts d dc f ws:=by
 have hb:=h.row.lt
 refine ⟨k.kept h.kw hs,k.row h.row h1,(k.cell hb h1).trans h.c0,(k.cell hb h1).trans h.c1,(k.cell hb h1).trans h.c2,(k.cell hb h1).trans h.c3,(k.cell hb h1).trans h.c4,(k.cell hb h1).trans h.c5,h.low,k.owns h.items h3,fun t ht=> (h.task t ht).but k (h5 t ht).1 (h5 t ht).2,h.act,h.asc,h.tbs,h.sep,h.sep2, ?_,h.mlow,fun s=> k.owns (h.wrow s) (h4 s),h.wsep,h.isep,h.qb,h.oth.but k h6⟩
 obtain ⟨N,D,hN,hM,hf⟩:=h.map
 exact ⟨N,D,hN,map_but hM k h2,hf⟩
theorem BM.kept (h:BM G Kk wz w bb a cap rd rn rc mb mx ts d dc f ws) (k:K_ w w'):BM G Kk wz w' bb a cap rd rn rc mb mx ts d dc f ws:=
 h.but (S:=fun _=> False) (But.of_kept k) (fun _ h=> h.elim) id id (fun _ _=> id) (fun _ _ _=> id) (fun _ _=> ⟨id,fun _ _=> id⟩) (fun _ h=> h.elim)
theorem BM.more {mx':Nat} (h:BM G Kk wz w bb a cap rd rn rc mb mx ts d dc f ws) (hm:mx<=mx'):BM G Kk wz w bb a cap rd rn rc mb mx' ts d dc f ws:=
 ⟨h.kw,h.row,h.c0,h.c1,h.c2,h.c3,h.c4,h.c5,h.low,h.items,h.task,h.act,h.asc,h.tbs,h.sep,h.sep2,(by obtain ⟨N,D,h1,h2⟩:=h.map;exact ⟨N,D,Nat.le_trans h1 hm,h2⟩),h.mlow,h.wrow,h.wsep,h.isep,fun t ht=> Nat.le_trans (h.qb t ht) (Nat.mul_le_mul_left 5 hm),h.oth⟩
theorem getElem_mem' {α:Type} {l:List α} {i:Nat} (h:i < l.length):l[i]∈l:=List.getElem_mem h
theorem runs_set {t':X_} {i:Nat} (_hi:i < ts.length):Qx (ts.set i t')= (Qx ts).set i t'.r:=by simp [Qx,List.map_set]
theorem asc_set {l:List Qq} {i:Nat} {r':Qq} (h:AscX l) (hi:i < l.length) (hn:r'.name=l[i].name):AscX (l.set i r'):=by
 unfold AscX at h⊢
 rw [List.pairwise_iff_getElem] at h⊢
 intro p q hp hq hpq
 rw [List.length_set] at hp hq
 rw [List.getElem_set,List.getElem_set]
 have:=h p q hp hq hpq
 split <;> split
 ·omega
 ·rename_i e _;subst e;rw [hn];exact this
 ·rename_i _ e;subst e;rw [hn];exact this
 ·exact this
theorem BM.turn {S:Nat->Prop} (h:BM G Kk wz w bb a cap rd rn rc mb mx ts d dc f ws) {i:Nat} (hi:i < ts.length) (k:But S w w') (hS: ∀b,S b->b=ts[i].tb∨b∈ts[i].own) {t':X_} (ht:TaskAt wz.heap.size w' t') (e1:t'.tb=ts[i].tb) (e2:t'.r.name=ts[i].r.name) (e3:t'.cost=ts[i].cost) (e4:t'.steps=ts[i].steps) (e5:t'.sa=ts[i].sa) (ho: ∀x∈t'.own,x∈ts[i].own∨w.heap.size<=x) (hn:t'.own.Nodup) (hqb:t'.qs.length<=5 * mx):BM G Kk wz w' bb a cap rd rn rc mb mx (ts.set i t') d dc f ws:=by
 have hb:=h.row.lt
 have hti:=h.task ts[i] (getElem_mem' hi)
 have hl: (ts.set i t').length=ts.length:=List.length_set ..
 have nS: ∀{b:Nat} {u:TypeId},TypeAt w b u->u≠135->u≠9->¬S b:=fun hu h1 h2 hs=> by
  rcases hS _ hs with e | e
  ·exact type_ne hu hti.row.type h1 e
  ·exact type_ne hu (hti.own_type e).1 h2 rfl
 have hm:=h.map
 obtain ⟨N,D,hN,hM,hf⟩:=hm
 have sMb: ¬S mb:=fun hs=> by
  rcases hS _ hs with e | e
  ·exact map_ne hM hti.row.type e.symm
  ·exact map_ne hM (hti.own_type e).1 rfl
 have sBb: ¬S bb:=nS h.row.type (by decide) (by decide)
 have other: ∀(j:Nat) (hj:j < ts.length),j≠i->¬S ts[j].tb∧∀x∈ts[j].own,¬S x:=fun j hj hji=> by
  have htj:=h.task ts[j] (getElem_mem' hj)
  refine ⟨fun hs=> ?_,fun x hx hs=> ?_⟩
  ·rcases hS _ hs with e | e
   ·have hnd:=List.pairwise_iff_getElem.1 h.tbs
    rcases Nat.lt_or_gt_of_ne hji with hlt | hlt
    ·have:=hnd j i (by simpa using hj) (by simpa using hi) hlt
     simp at this
     exact this e
    ·have:=hnd i j (by simpa using hi) (by simpa using hj) hlt
     simp at this
     exact this e.symm
   ·exact type_ne htj.row.type (hti.own_type e).1 (by decide) rfl
  ·rcases hS _ hs with e | e
   ·exact type_ne (htj.own_type hx).1 hti.row.type (by decide) e
   ·have hsp:=List.pairwise_iff_getElem.1 h.sep
    rcases Nat.lt_or_gt_of_ne hji with hlt | hlt
    ·exact hsp j i hj hi hlt x hx e
    ·exact hsp i j hi hj hlt x e hx
 have mem: ∀u∈ts.set i t',u=t'∨∃(j:Nat) (hj:j < ts.length),j≠i∧u=ts[j]:=fun u hu=> by
  obtain ⟨j,hj,rfl⟩:=List.getElem_of_mem hu
  rw [hl] at hj
  rw [List.getElem_set]
  split
  ·exact .inl rfl
  ·rename_i e;exact .inr ⟨j,hj,Ne.symm e,rfl⟩
 have hsz: ∀b,S b->wz.heap.size<=b:=fun b hs=> by
  rcases hS b hs with e | e
  ·rw [e];exact hti.low
  ·exact (hti.own_type e).2.1
 have hKS: ∀b,S b->¬G.K b:=fun b hs=> by
  rcases hS b hs with e | e
  ·rw [e];exact (h.oth.nt _ (getElem_mem' hi)).1
  ·exact (h.oth.nt _ (getElem_mem' hi)).2 b e
 have hfen:Fen G w' bb mb (ts.set i t') f:=by
  have h0:=h.oth.but k hKS
  refine ⟨h0.size,h0.lt,h0.same,h0.nb,h0.nm,fun u hu=> ?_,h0.nf,fun p hp=> ?_⟩
  rotate_left
  ·obtain ⟨u,hu,g1,g2⟩:=h.oth.has p hp
   obtain ⟨j,hj,rfl⟩:=List.getElem_of_mem hu
   by_cases e:j=i
   ·subst e
    exact ⟨t',List.mem_set hj _,by rw [e1];exact g1,by rw [e2];exact g2⟩
   ·refine ⟨ts[j], ?_,g1,g2⟩
    have e3: (ts.set i t')[j]'(by rw [hl];exact hj)=ts[j]:=by rw [List.getElem_set,if_neg (Ne.symm e)]
    rw [<-e3]
    exact List.getElem_mem _
  rcases mem u hu with rfl | ⟨j,hj,hji,rfl⟩
  ·refine ⟨by rw [e1];exact (h.oth.nt _ (getElem_mem' hi)).1,fun x hx=> ?_⟩
   rcases ho x hx with g | g
   ·exact (h.oth.nt _ (getElem_mem' hi)).2 x g
   ·exact h.oth.far g
  ·exact h.oth.nt _ (getElem_mem' hj)
 refine ⟨k.kept h.kw hsz,k.row h.row sBb,(k.cell hb sBb).trans h.c0,(k.cell hb sBb).trans h.c1,(k.cell hb sBb).trans h.c2,by rw [hl];exact (k.cell hb sBb).trans h.c3,(k.cell hb sBb).trans h.c4,(k.cell hb sBb).trans h.c5,h.low, ?_, ?_, ?_, ?_, ?_, ?_, ?_,⟨N,D,hN,map_but hM k sMb,hf⟩,h.mlow,fun s=> k.owns (h.wrow s) (fun b e=> nS (Yq (h.wrow s) e) (by decide) (by decide)),h.wsep,by rw [hl];exact h.isep,fun u hu=> by rcases mem u hu with rfl | ⟨j,hj,hji,rfl⟩;exact hqb;exact h.qb _ (getElem_mem' hj),hfen⟩
 ·have e: (ts.set i t').map X_.ptr=ts.map X_.ptr:=by
   rw [List.map_set]
   have e0:t'.ptr= (ts.map X_.ptr)[i]'(by simpa using hi):=by simp [X_.ptr,e1]
   rw [e0,List.set_getElem_self]
  rw [hl,e]
  exact k.owns h.items (fun b e=> nS (Yq h.items e) (by decide) (by decide))
 ·intro u hu
  rcases mem u hu with rfl | ⟨j,hj,hji,rfl⟩
  ·exact ht
  ·exact (h.task _ (getElem_mem' hj)).but k (other j hj hji).1 (other j hj hji).2
 ·intro u hu
  rcases mem u hu with rfl | ⟨j,hj,hji,rfl⟩
  ·rw [e2,e3,e4,e5];exact h.act _ (getElem_mem' hi)
  ·exact h.act _ (getElem_mem' hj)
 ·rw [runs_set hi]
  exact asc_set h.asc (by simpa [Qx] using hi) (by simp [Qx,e2])
 ·have e: (ts.set i t').map (·.tb)=ts.map (·.tb):=by
   rw [List.map_set]
   have e0:t'.tb= (ts.map (·.tb))[i]'(by simpa using hi):=by simp [e1]
   rw [e0,List.set_getElem_self]
  rw [e]
  exact h.tbs
 ·rw [List.pairwise_iff_getElem]
  have hsp:=List.pairwise_iff_getElem.1 h.sep
  intro p q hp hq hpq x hx
  rw [hl] at hp hq
  rw [List.getElem_set] at hx⊢
  split at hx
  ·rename_i e
   subst e
   rw [if_neg (by omega)]
   rcases ho x hx with g | g
   ·exact hsp i q hi hq hpq x g
   ·intro g2
    have:= ((h.task _ (getElem_mem' hq)).own_type g2).2.2
    omega
  ·split
   ·rename_i e
    subst e
    intro g
    rcases ho x g with g | g
    ·exact hsp p i hp hi hpq x hx g
    ·have:= ((h.task _ (getElem_mem' hp)).own_type hx).2.2
     omega
   ·exact hsp p q hp hq hpq x hx
 ·intro u hu
  rcases mem u hu with rfl | ⟨j,hj,hji,rfl⟩
  ·exact hn
  ·exact h.sep2 _ (getElem_mem' hj)
end
def BlOk (W:Acts) (r:Qq) (bl:ByteArray):Prop:=
 (bl= ⟨#[]⟩∧(r.over=true->r.fail=true->r.text=spentB∨∃A,W r.name=some A∧(stepOf A r.at').fin=true))∨
 (r.over=true∧r.fail=true∧(∃A,W r.name=some A∧(stepOf A r.at').fin=false∧bl∈(stepOf A r.at').asks)∧r.text= (⟨#[98,101,108,111,119,32]⟩:ByteArray)++bl)
theorem BlOk.open {W:Acts} {r:Qq} {bl:ByteArray} (h:BlOk W r bl) (ho:r.over=false):bl= ⟨#[]⟩:=by
 rcases h with h | ⟨h,_⟩
 ·exact h.1
 ·rw [ho] at h;cases h
theorem BlOk.still {W:Acts} {r:Qq} {bl:ByteArray} (hb:bl= ⟨#[]⟩) (ho:r.over=false):BlOk W r bl:= .inl ⟨hb,fun h=> by rw [ho] at h;cases h⟩
def QsOk (W:Acts) (σ:Env) (r:Qq) (qs:List Value):Prop:= ∃L,Traj W σ r L∧qs=L.map Value.string
theorem QsOk.mono {W:Acts} {σ:Env} {m:ByteArray} {r:Qq} {qs:List Value} (h:QsOk W σ r qs) (hr:ReadyX W σ m):QsOk W (doX W σ m) r qs:=by
 obtain ⟨L,h1,h2⟩:=h
 exact ⟨L,h1.mono hr,h2⟩
theorem QsOk.unit {W:Acts} {σ:Env} {r:Qq} {qs:List Value} (h:QsOk W σ r qs) (hc:CanGo W σ r):QsOk W σ (Yz W σ r).1 (qs++ (Yz W σ r).2.map Value.string):=by
 obtain ⟨L,h1,h2⟩:=h
 exact ⟨_,h1.unit hc,by rw [h2,List.map_append]⟩
theorem QsOk.still {W:Acts} {σ:Env} {r:Qq} {qs:List Value} (hq:qs=[]) (hr:r=Qq.fresh r.name):QsOk W σ r qs:= ⟨[],by rw [hr];exact Traj.start _,hq⟩
def X_.bq (t:X_):ByteArray×List Value:= (t.bl,t.qs)
structure BS (Kk:List Qj) (ts:List X_) (ws:ByteArray->List Nat):Prop where
 good:GoodL Kk (Qx ts)
 op: ∀t∈ts,t.op= (pend (Qz Kk) (Qk (Qx ts)) t.r).length
 wt: ∀s,∀t∈ts,(t.tb∈ws s↔s∈pend (Qz Kk) (Qk (Qx ts)) t.r)
 wn: ∀s,(ws s).Nodup
 ww: ∀s b,b∈ws s->∃t∈ts,t.tb=b
 bl: ∀t∈ts,BlOk (Qz Kk) t.r t.bl
 qs: ∀t∈ts,QsOk (Qz Kk) (Qk (Qx ts)) t.r t.qs
theorem web_len {Kk:List Qj} (h:WebCode Kk 0):Kk.length<=60:=by
 rcases h with ⟨_,h⟩ | ⟨_,_,h⟩ | ⟨_,_,_,h⟩ | ⟨_,_,_,_,h⟩ | ⟨h,_⟩
 ·cases h
 ·cases h
 ·cases h
 ·cases h
 ·omega
theorem web_node {Kk:List Qj} (h:WebCode Kk 0) {k:Nat} (hk:k < Kk.length):NameOk (Kk.getD k Qj.zero).name∧ActionOk ⟨(Kk.getD k Qj.zero).cost,(Kk.getD k Qj.zero).steps⟩:=by
 rcases h with ⟨_,h⟩ | ⟨_,_,h⟩ | ⟨_,_,_,h⟩ | ⟨_,_,_,_,h⟩ | ⟨_,h1,_,h2,_⟩
 ·cases h
 ·cases h
 ·cases h
 ·cases h
 ·refine ⟨Classical.byContradiction fun hc=> h1 ⟨k,hk,hc⟩,Classical.byContradiction fun hc=> h2 ⟨k,hk,hc⟩⟩
theorem web_acts {Kk:List Qj} (h:WebCode Kk 0):ActsOk (Qz Kk):=fun n A hA=> by
 obtain ⟨k,h1,h2,_,rfl⟩:=acts_first hA
 obtain ⟨g1,g2⟩:=web_node h h1
 rw [h2] at g1
 exact ⟨g2,g1⟩
theorem web_small {Kk:List Qj} (h:WebCode Kk 0):SmallAsks Kk:=fun y hy s hs=> by
 obtain ⟨k,hk,rfl⟩:=List.getElem_of_mem hy
 have h1:= (web_node h hk).2
 simp only [List.getD,List.getElem?_eq_getElem hk,Option.getD_some] at h1
 obtain ⟨i,hi,rfl⟩:=List.getElem_of_mem hs
 have h2:=asks_ok (i:= (i:Int)) h1 (by omega) (by show (i:Int) < ((Kk[k].steps.length:Nat):Int);omega)
 have e:stepOf ⟨Kk[k].cost,Kk[k].steps⟩ (i:Int)=Kk[k].steps[i]:=by simp [stepOf,List.getD,hi]
 rw [e] at h2
 exact ⟨by omega,fun x hx=> by have:= (h2.2 x hx).2.1;omega⟩
structure XVar (wr:World) (xb:Nat) (Q_:List ByteArray) (L:List Qq) (ra:Option Addr) (rc:Nat) (d:Option Addr) (dc:Nat):Prop where
 row:RowT wr xb 41 2
 c0:wr.cell? ⟨xb,0,none⟩=some (.slice ra Q_.length rc)
 c1:wr.cell? ⟨xb,1,none⟩=some (.slice d L.length dc)
 rts:Strs wr ra Q_
 rns:RunsX wr d L
theorem XVar.kept {w w':World} {xb rc dc:Nat} {Q_:List ByteArray} {L:List Qq} {ra d:Option Addr} (h:XVar w xb Q_ L ra rc d dc) (k:K_ w w'):XVar w' xb Q_ L ra rc d dc:=
 ⟨h.row.kept k,(k.cell h.row.lt).trans h.c0,(k.cell h.row.lt).trans h.c1,h.rts.kept k,h.rns.kept k⟩
theorem XVar.made {w:World} {rc dc:Nat} {Q_:List ByteArray} {L:List Qq} {ra d:Option Addr} (hT:Strs w ra Q_) (hS:RunsX w d L):XVar (w.alloc (.cells #[.slice ra Q_.length rc,.slice d L.length dc] 41)) w.heap.size Q_ L ra rc d dc:=
 ⟨RowT.made w _ _,Xq w #[.slice ra Q_.length rc,.slice d L.length dc] 41 0 _ rfl,Xq w #[.slice ra Q_.length rc,.slice d L.length dc] 41 1 _ rfl,hT.kept ((K_.refl _).alloc _),hS.kept ((K_.refl _).alloc _)⟩
theorem XVar.laid {W w':World} {rc dc xb:Nat} {Q_:List ByteArray} {L:List Qq} {ra d:Option Addr} {xs:List Value} (hx:xb < W.heap.size) (hr:RowT w' xb 41 2) (hT:w'.ownsRow W.heap.size 9 1 (.slice ra Q_.length rc) Q_.length (Q_.map Value.string)) (hO:w'.ownsRow W.heap.size 83 7 (.slice d L.length dc) L.length xs) (hP:PackedX w' (fun b=> W.heap.size<=b) xs L):XVar (w'.setCells xb 0 [.slice ra Q_.length rc,.slice d L.length dc]) xb Q_ L ra rc d dc:=by
 have hR:=World.rangeAt_setCells_same w' xb 0 [.slice ra Q_.length rc,.slice d L.length dc] (hr.row.there (o:=0) (m:=2) (Nat.le_refl _))
 refine ⟨RowT.sets _ _ hr,hR 0 _ rfl,hR 1 _ rfl, ?_, ?_⟩
 ·have h1:=owns_set (owns_set hT (p:= ⟨xb,0,none⟩) hx (.slice ra Q_.length rc)) (p:= ⟨xb,1,none⟩) hx (.slice d L.length dc)
  obtain ⟨a9,c9,e9,h9⟩:=owned_strs h1
  simp only [Value.slice.injEq,true_and] at e9
  rw [<-e9.1] at h9
  exact h9
 ·have h1:=owns_set (owns_set hO (p:= ⟨xb,0,none⟩) hx (.slice ra Q_.length rc)) (p:= ⟨xb,1,none⟩) hx (.slice d L.length dc)
  have h2:= (hP.set (c:=xb) (p:=0) (fun b h=> by omega) (.slice ra Q_.length rc)).set (c:=xb) (p:=1) (fun b h=> by omega) (.slice d L.length dc)
  obtain ⟨_,a9,c9,e9,h9⟩:=PackedX.runs h1 h2 (K_.refl _)
  simp only [Value.slice.injEq,true_and] at e9
  rw [<-e9.1] at h9
  exact h9.runs
theorem StrsB.but {w w':World} {xb:Nat} {a:Option Addr} {l:List ByteArray} (h:StrsB w xb a l) (k:Xx xb (xb+1) w w'):StrsB w' xb a l:=fun i hi=> by
 obtain ⟨b,o,e,hb,h1,hc⟩:=h i hi
 exact ⟨b,o,e,Nat.lt_of_lt_of_le hb k.size,h1,by rw [World.cell?_of_block (w:=w) (k.block b hb (by omega))];exact hc⟩
theorem StrsB.owned {w:World} {base xb:Nat} {t:TypeId} {a:Option Addr} {c:Nat} {l:List ByteArray} (h:w.ownsRow base t 1 (.slice a l.length c) l.length (l.map Value.string)) (hx:xb < base):StrsB w xb a l:=by
 rcases h.2 with ⟨e,h0⟩ | ⟨g,cap,cur,e,hb,hg,hnc,_,_,_⟩
 ·intro i hi;rw [h0] at hi;exact absurd hi (Nat.not_lt_zero _)
 ·intro i hi
  simp only [Value.slice.injEq] at e
  obtain ⟨rfl,_,rfl⟩:=e
  refine ⟨g,0,rfl,heap_lt hg,by omega, ?_⟩
  have:=h.cells (g:=g) rfl i (.string (l.getD i ByteArray.empty)) (by simp [List.getD,hi])
  rw [Addr.add_mid] at this
  exact this
theorem Xx.sets {lo hi:Nat} {a:World} {g:Nat} (h1:lo<=g) (h2:g < hi): ∀(vs:List Value) (o:Nat) {u:World},Xx lo hi a u->Xx lo hi a (u.setCells g o vs)
 | [],_,_,h=> h
 | v :: r,o,_,h=> by rw [World.setCells];exact Xx.sets h1 h2 r (o+1) (h.setCell (p:= ⟨g,o,none⟩) h1 h2 v)
def ValidX (Kk:List Qj) (Q_:List ByteArray) (sl:List Qq):Prop:=WebCode Kk 0∧RootsOk Q_∧sl.length<=Kk.length∧GoalX Kk Q_ sl
structure OutV (Kk:List Qj) (Q_:List ByteArray) (sl:List Qq) (L:List Qq) (bb:Bool) (gg:Nat):Prop where
 good:GoodL Kk L
 led: ∃k,Leads (Behind (W:=Qz Kk) behindS (Qk sl)) (doX (Qz Kk)) (Qk (startL Kk Q_)) (Qk L) k
 fin:bb=false->AtEnd (Behind (W:=Qz Kk) behindS (Qk sl)) (Qk L)
 pot:gg=2 * potL Kk L+ (if bb=true then 1 else 0)
theorem OutV.begin {Kk:List Qj} (hw:WebCode Kk 0) (Q_:List ByteArray) (sl:List Qq):OutV Kk Q_ sl (startL Kk Q_) true (2 * potL Kk (startL Kk Q_)+1):=
 ⟨startL_good (web_acts hw) Q_,⟨0,.here _⟩,fun h=> (by cases h),rfl⟩
theorem OutV.next {Kk:List Qj} {Q_:List ByteArray} {sl L0 L:List Qq} {ns:List ByteArray} {b:Bool} {gg:Nat} (h0:OutV Kk Q_ sl L0 true gg) (hn:ReadyL (Qz Kk) (Qk L0) L0 ns) (h:RoundX Kk (Qk sl) (Qk (startL Kk Q_)) ns L0 L ns.length b):OutV Kk Q_ sl L b (2 * potL Kk L+ (if b=true then 1 else 0))∧2 * potL Kk L+ (if b=true then 1 else 0) < gg:=by
 refine ⟨⟨h.good,h.led,fun hb=> ?_,rfl⟩, ?_⟩
 ·subst hb
  exact (h.atEnd h0.good hn).2
 ·rw [h0.pot]
  cases b with
  | true=> have:=h.yes rfl;simp only [if_true];omega
  | false=> rw [(h.no rfl).1];simp
theorem not_behind_none {Kk:List Qj} {G σ:Env} {n:ByteArray} (h:G n=none): ¬Behind (W:=Qz Kk) behindS G σ n:=fun hb=> by
 obtain ⟨_,g,_,hg,_⟩:=hb.2
 rw [h] at hg
 cases hg
theorem not_behind {Kk:List Qj} {G σ:Env} {n:ByteArray} {r g:Qq} (hr:σ n=some r) (hg:G n=some g) (h: ¬behindS r g): ¬Behind (W:=Qz Kk) behindS G σ n:=fun hb=> by
 obtain ⟨r',g',hr',hg',hp⟩:=hb.2
 rw [hr] at hr'
 rw [hg] at hg'
 cases hr'
 cases hg'
 exact h hp
theorem place_at {l:List Qq} {n:ByteArray} {r:Qq} {j:Nat} {q:Int} (ha:AscX l) (hj:j < l.length) (hje:l.getD j Qq.zero=r) (hr:Qk l n=some r) (h:PlaceX l n q):q= (j:Int):=by
 rcases h with ⟨k,hk,e1,h1,h2⟩ | ⟨_,h1⟩
 ·rw [e1]
  have e2:l.getD k Qq.zero=l.getD j Qq.zero:=by rw [hr] at h1;rw [<-Option.some.inj h1,hje]
  simp only [List.getD,List.getElem?_eq_getElem hj,List.getElem?_eq_getElem hk,Option.getD_some] at e2
  have e3:=congrArg Qq.name e2
  have hasc:=List.pairwise_iff_getElem.1 ha
  rcases Nat.lt_trichotomy k j with h | h | h
  ·exact absurd e3 (lessX_ne (hasc k j hk hj h))
  ·rw [h]
  ·exact absurd e3.symm (lessX_ne (hasc j k hj hk h))
 ·rw [hr] at h1;cases h1
theorem validState_any (w:World) (a:Option Addr) (cap:Nat) (Kk:List Qj) (ra:Option Addr) (rc:Nat) (Q_:List ByteArray) (d:Option Addr) (dc:Nat) (sl:List Qq) (hwl:Kk.length<=1048576) (hft: ∀y∈Kk,y.Fits) (hrl:Q_.length<=1048576) (hrs: ∀s∈Q_,s.size<=maxLen) (hsl:sl.length<=1048576) (hst: ∀x∈sl,x.texts.length<=1048576)
  (hN:Nodes w a Kk) (hS:RunsX w d sl) (hR:Strs w ra Q_):
  Calls Tryz.prog 26 #[.agg #[.slice a Kk.length cap],.agg #[.slice ra Q_.length rc,.slice d sl.length dc]] w fun e w'=> SaidB e (ValidX Kk Q_ sl)∧K_ w w':=by
 obtain ⟨WB,hWB⟩: ∃WB,WB= (w.alloc (.cells #[.slice a Kk.length cap] 37)).alloc (.cells #[.slice ra Q_.length rc,.slice d sl.length dc] 41):= ⟨_,rfl⟩
 have kB:K_ w WB:=by rw [hWB];exact ((K_.refl _).alloc _).alloc _
 have hBs:WB.heap.size=w.heap.size+2:=by rw [hWB];simp
 have b0:WB.cell? ⟨w.heap.size,0,none⟩=some (.slice a Kk.length cap):=by rw [hWB,K_.cell (w:=w.alloc (.cells #[.slice a Kk.length cap] 37)) ((K_.refl _).alloc _) (by simp)];exact Xq w _ _ 0 _ rfl
 have s0:WB.cell? ⟨w.heap.size+1,0,none⟩=some (.slice ra Q_.length rc):=by have:=Xq (w.alloc (.cells #[.slice a Kk.length cap] 37)) #[.slice ra Q_.length rc,.slice d sl.length dc] 41 0 _ rfl;rw [World.size_alloc] at this;rw [hWB];exact this
 have s1:WB.cell? ⟨w.heap.size+1,1,none⟩=some (.slice d sl.length dc):=by have:=Xq (w.alloc (.cells #[.slice a Kk.length cap] 37)) #[.slice ra Q_.length rc,.slice d sl.length dc] 41 1 _ rfl;rw [World.size_alloc] at this;rw [hWB];exact this
 have z0:w.heap.size < WB.heap.size:=by omega
 have z1:w.heap.size+1 < WB.heap.size:=by omega
 have HC:Hid (∀w',K_ WB w'->w'.cell? ⟨w.heap.size,0,none⟩=some (.slice a Kk.length cap)∧w'.cell? ⟨w.heap.size+1,0,none⟩=some (.slice ra Q_.length rc)∧w'.cell? ⟨w.heap.size+1,1,none⟩=some (.slice d sl.length dc)∧w.heap.size < w'.heap.size∧w.heap.size+1 < w'.heap.size):=fun w' K=> ⟨(K.cell z0).trans b0,(K.cell z1).trans s0,(K.cell z1).trans s1,Nat.lt_of_lt_of_le z0 K.size,Nat.lt_of_lt_of_le z1 K.size⟩
 have HKB:=Kj kB
 clear kB hBs b0 s0 s1
 go_enter Tryz.func26,Tryz.ntmps26
 go_upto_region 1 with fail
 rw [<-hWB]
 clear hWB
 obtain ⟨b0,s0,s1,_,_⟩:=HC.out _ (K_.refl _)
 go_wp2_with fail
 refine (specCheckWeb_any _ a cap Kk (by unfold maxLen;omega) hft (hN.kept HKB.out)).mono ?_
 rintro e w1 ⟨⟨c,rfl,hc⟩,k1⟩
 clear b0 s0 s1 z0 z1
 obtain ⟨b0,s0,s1,z0,z1⟩:=HC.out _ k1
 by_cases hc0:c=0
 rotate_left
 ·have hcb: (c != 0)=true:=by simpa using hc0
  have HCn:Hid (¬WebCode Kk 0):=fun h=> hc0 (hc.unique h)
  clear hc0 hc
  go_wp2_with fail
  go_ret
  exact ⟨⟨false,rfl,by simp only [Bool.false_eq_true,false_iff];exact fun h=> HCn.out h.1⟩,HKB.out.trans k1⟩
 subst hc0
 have HW:=Kj hc
 clear hc
 go_wp2_with fail
 refine (l3RootsOk_any _ ra rc Q_ (by unfold maxLen;omega) hrs (hR.kept (HKB.out.trans k1))).mono ?_
 rintro e w2 ⟨hsay,k2⟩
 have K2:=k1.trans k2
 clear b0 s0 s1 z0 z1
 obtain ⟨b0,s0,s1,z0,z1⟩:=HC.out _ K2
 rcases hsay.cases with ⟨rfl,hyes⟩ | ⟨rfl,hno⟩
 rotate_left
 ·have HNo:=Kj hno
  clear hno hsay
  go_wp2_with fail
  go_ret
  exact ⟨⟨false,rfl,by simp only [Bool.false_eq_true,false_iff];exact fun h=> HNo.out h.2.1⟩,HKB.out.trans K2⟩
 have HY:=Kj hyes
 clear hyes hsay
 by_cases hle:sl.length<=Kk.length
 rotate_left
 ·have hgt: (Kk.length:Int) < (sl.length:Int):=by omega
  go_wp2_with fail
  go_ret
  exact ⟨⟨false,rfl,by simp only [Bool.false_eq_true,false_iff];exact fun h=> hle h.2.2.1⟩,HKB.out.trans K2⟩
 have hgt: ¬(Kk.length:Int) < (sl.length:Int):=by omega
 obtain ⟨rb,ro,rfl,_,_⟩:=hR 0 (by have:=HY.out.1;omega)
 have hwl6:=web_len HW.out
 have hrl1:=HY.out.2.1
 go_wp2_with fail
 refine (startX_any w2 a cap Kk rb ro rc Q_ (by omega) hft HW.out HY.out hrs (hN.kept (HKB.out.trans K2)) (hR.kept (HKB.out.trans K2))).mono ?_
 rintro e w3 ⟨xa,xc,xd,xe,xs,rfl,hT3,hO3,hP3,k3⟩
 have K3:=K2.trans k3
 have HX3:Hid (Strs w3 xa Q_∧RunsX w3 xd (startL Kk Q_)):=by
  obtain ⟨a9,c9,e9,h9⟩:=owned_strs hT3
  simp only [Value.slice.injEq,true_and] at e9
  rw [<-e9.1] at h9
  obtain ⟨_,a8,c8,e8,h8⟩:=PackedX.runs hO3 hP3 (K_.refl _)
  simp only [Value.slice.injEq,true_and] at e8
  rw [<-e8.1] at h8
  exact ⟨h9,h8.runs⟩
 clear hT3 hO3 hP3 k3
 obtain ⟨xb,hxb⟩: ∃xb,xb=w3.heap.size:= ⟨_,rfl⟩
 have hxz:w3.heap.size<=xb:=by omega
 have HXb:=Kj hxb
 clear b0 s0 s1 z0 z1
 go_upto_region 4 with fail
 rw [<-hxb]
 clear hxb
 go_wp2
 go_loopg [6] (2 * potL Kk (startL Kk Q_)+1) (fun gg x6 wr=> ∃(L:List Qq) (bb:Bool) (xa:Option Addr) (xc:Nat) (xd:Option Addr) (xe:Nat),x6= .bool bb∧K_ w3 wr∧XVar wr xb Q_ L xa xc xd xe∧Hid (OutV Kk Q_ sl L bb gg))
 case atStart=> exact ⟨startL Kk Q_,true,xa,xc,xd,xe,rfl,(K_.refl _).alloc _,by rw [HXb.out];exact XVar.made HX3.out.1 HX3.out.2,Kj (OutV.begin HW.out Q_ sl)⟩
 case round=>
  clear HX3 HXb
  obtain ⟨L,bb,xa,xc,xd,xe,rfl,Kr,hX,HV⟩:=hrel
  obtain ⟨wO,rfl⟩: ∃wO,wO=wr:= ⟨_,rfl⟩
  obtain ⟨gO,rfl⟩: ∃gO,gO=gk:= ⟨_,rfl⟩
  have hLl:L.length<=60:=by have:=HV.out.good.len;omega
  obtain ⟨b0,s0,s1,z0,z1⟩:=HC.out _ (K3.trans Kr)
  have m0:=hX.c0
  have m1:=hX.c1
  have mz:=hX.row.lt
  have HX:=Kj hX
  clear hX
  cases bb
  ·go_wp2_with fail
   refine (same_any wO xa (some ⟨rb,ro,none⟩) xd d xc rc xe dc Q_ Q_ L sl hrl hrl (by omega) hsl (fun x hx=> by have h1:= (HV.out.good.good x hx).tl;have h2:= (HV.out.good.good x hx).hi;omega) hst HX.out.rts (hR.kept (HKB.out.trans (K3.trans Kr))) HX.out.rns (hS.kept (HKB.out.trans (K3.trans Kr)))).mono ?_
   rintro e w5 ⟨⟨b5,rfl,h5⟩,k5⟩
   have H5:=Kj h5
   clear h5
   go_wp2_with fail
   go_ret
   refine ⟨⟨b5,rfl, ?_⟩,HKB.out.trans ((K3.trans Kr).trans k5)⟩
   rw [H5.out]
   obtain ⟨kk,hl⟩:=HV.out.led
   have h:=goalX_iff HV.out.good hl (HV.out.fin rfl)
   exact ⟨fun ⟨_,e⟩=> ⟨HW.out,HY.out,hle,h.1 e⟩,fun ⟨_,_,_,g⟩=> ⟨by trivial,h.2 g⟩⟩
  ·go_wp2_with fail
   refine (ready_any wO a cap Kk xa Q_.length xc xd xe L (by omega) (by omega) (web_small HW.out) (fun r hr _ _=> (HV.out.good.good r hr).act) (hN.kept (HKB.out.trans (K3.trans Kr))) HX.out.rns).mono ?_
   rintro e w6 ⟨⟨da,lc,ns,rfl,hRL,hOw⟩,k6⟩
   have HRL:=Kj hRL
   have HB6:=Kj (StrsB.owned (xb:=xb) hOw mz)
   have hnl:ns.length<=60:=by have:=hRL.len;omega
   have HX6:=Kj (HX.out.kept k6)
   have K6:=Kr.trans k6
   clear hRL hOw b0 s0 s1 z0 z1 m0 m1 mz HX k6
   obtain ⟨L0,hL0⟩: ∃L0,L0=L:= ⟨_,rfl⟩
   have HN6:Hid (RoundX Kk (Qk sl) (Qk (startL Kk Q_)) ns L0 L 0 false):=by rw [hL0];exact RoundX.start HV.out.good HV.out.led HRL.out
   rw [<-hL0] at HV HRL
   clear hL0 hLl
   go_wp2
   go_loopg [6,8] ns.length (fun gg x6 x8 wr=> ∃(i:Nat) (b:Bool) (L:List Qq) (xa:Option Addr) (xc:Nat) (xd:Option Addr) (xe:Nat),x6= .bool b∧x8= .int .i64 (i:Int)∧i+gg=ns.length∧Xx xb (xb+1) w6 wr∧XVar wr xb Q_ L xa xc xd xe∧Hid (RoundX Kk (Qk sl) (Qk (startL Kk Q_)) ns L0 L i b))
   case atStart=> exact ⟨0,false,L,xa,xc,xd,xe,rfl,rfl,by omega,Xx.refl _ _ _,HX6.out,HN6⟩
   case round=>
    clear HX6 HN6
    obtain ⟨i,b,L,xa,xc,xd,xe,rfl,rfl,hig,KB,hX,HV2⟩:=hrel
    obtain ⟨wI,rfl⟩: ∃wI,wI=wr:= ⟨_,rfl⟩
    have hLl:L.length<=60:=by have:=HV2.out.good.len;omega
    have Kr2:K_ w3 wI:=KB.kept K6 hxz
    by_cases hlt: (i:Int) < (ns.length:Int)
    rotate_left
    ·obtain rfl:i=ns.length:=by omega
     obtain ⟨h1,h2⟩:=HV.out.next HRL.out HV2.out
     have HV3:=Kj h1
     clear h1
     go_wp2_with fail
     go_roundg (2 * potL Kk L+ (if b=true then 1 else 0))
     case measure=> exact h2
     case rel=> exact ⟨L,b,xa,xc,xd,xe,rfl,Kr2,hX,HV3⟩
    have hil:i < ns.length:=by omega
    obtain ⟨n,hn⟩: ∃n,n=ns.getD i ByteArray.empty:= ⟨_,rfl⟩
    obtain ⟨lb,lo,rfl,hlb,hlx,hlc⟩:=HB6.out.but KB i hil
    rw [<-hn] at hlc
    obtain ⟨pb,po,rfl,_,_⟩:=hX.rts 0 (by have:=HY.out.1;omega)
    have hrd:=HV2.out.rest i (Nat.le_refl _) hil
    rw [<-hn] at hrd
    obtain ⟨r,hr,hcg⟩:=hrd
    obtain ⟨j,hj,hje⟩: ∃j,j < L.length∧L.getD j Qq.zero=r:=by
     obtain ⟨k,h1,h2⟩:=List.getElem_of_mem (env_mem hr).1
     exact ⟨k,h1,by simp only [List.getD,List.getElem?_eq_getElem h1,Option.getD_some,h2]⟩
    obtain ⟨fb,fo,ta,tc,rfl,hfb,hcs,hTx,hXn⟩:=hX.rns j hj
    rw [hje] at hcs hTx
    have HEr:=Kj hr
    have HCg:=Kj hcg
    have HN:=Kj hn
    have HJe:=Kj hje
    have m0:=hX.c0
    have m1:=hX.c1
    have mz:=hX.row.lt
    have HX:=Kj hX
    have t0:wI.cell? ⟨fb,fo+j * 7,none⟩=some (.string r.name):=hcs 0 _ rfl
    have t1:wI.cell? ⟨fb,fo+j * 7+1,none⟩=some (.bool r.over):=hcs 1 _ rfl
    have t2:wI.cell? ⟨fb,fo+j * 7+2,none⟩=some (.bool r.fail):=hcs 2 _ rfl
    have t3:wI.cell? ⟨fb,fo+j * 7+3,none⟩=some (.string r.text):=hcs 3 _ rfl
    have t4:wI.cell? ⟨fb,fo+j * 7+4,none⟩=some (.int .i64 r.at'):=hcs 4 _ rfl
    have t5:wI.cell? ⟨fb,fo+j * 7+5,none⟩=some (.int .i64 r.Zk):=hcs 5 _ rfl
    have t6:wI.cell? ⟨fb,fo+j * 7+6,none⟩=some (.slice ta r.texts.length tc):=hcs 6 _ rfl
    have HS11:Hid (∀w',K_ wI w'->w'.cell? ⟨w.heap.size+1,0,none⟩=some (.slice (some ⟨rb,ro,none⟩) Q_.length rc)∧w'.cell? ⟨w.heap.size+1,1,none⟩=some (.slice d sl.length dc)∧w'.cell? ⟨lb,lo+i,none⟩=some (.string n)):=fun w' K=> ⟨(HC.out _ (K3.trans (Kr2.trans K))).2.1,(HC.out _ (K3.trans (Kr2.trans K))).2.2.1,(K.cell hlb).trans hlc⟩
    have HS12:Hid (∀w',K_ wI w'->w'.cell? ⟨xb,0,none⟩=some (.slice (some ⟨pb,po,none⟩) Q_.length xc)∧w'.cell? ⟨xb,1,none⟩=some (.slice (some ⟨fb,fo,none⟩) L.length xe)∧w'.cell? ⟨lb,lo+i,none⟩=some (.string n)∧w'.cell? ⟨fb,fo+j * 7,none⟩=some (.string r.name)∧w'.cell? ⟨fb,fo+j * 7+1,none⟩=some (.bool r.over)∧w'.cell? ⟨fb,fo+j * 7+2,none⟩=some (.bool r.fail)∧w'.cell? ⟨fb,fo+j * 7+3,none⟩=some (.string r.text)∧w'.cell? ⟨fb,fo+j * 7+4,none⟩=some (.int .i64 r.at')∧w'.cell? ⟨fb,fo+j * 7+5,none⟩=some (.int .i64 r.Zk)∧w'.cell? ⟨fb,fo+j * 7+6,none⟩=some (.slice ta r.texts.length tc)):=fun w' K=> ⟨(K.cell mz).trans m0,(K.cell mz).trans m1,(K.cell hlb).trans hlc,(K.cell hfb).trans t0,(K.cell hfb).trans t1,(K.cell hfb).trans t2,(K.cell hfb).trans t3,(K.cell hfb).trans t4,(K.cell hfb).trans t5,(K.cell hfb).trans t6⟩
    have HS14:Hid (∀w',K_ wI w'->w'.cell? ⟨w.heap.size,0,none⟩=some (.slice a Kk.length cap)∧w'.cell? ⟨xb,0,none⟩=some (.slice (some ⟨pb,po,none⟩) Q_.length xc)∧w'.cell? ⟨xb,1,none⟩=some (.slice (some ⟨fb,fo,none⟩) L.length xe)∧w'.cell? ⟨lb,lo+i,none⟩=some (.string n)):=fun w' K=> ⟨(HC.out _ (K3.trans (Kr2.trans K))).1,(K.cell mz).trans m0,(K.cell mz).trans m1,(K.cell hlb).trans hlc⟩
    clear hr hcg hn hje hX hcs hTx hXn t0 t1 t2 t3 t4 t5 t6 m0 m1 hlc
    have i0: (i:Int) < (ns.length:Int):=hlt
    go_upto_region 11 with fail
    refine Z_.rg 6 HS11.out fun wd KD Zz=> ?_
    refine Z_.tk 0 Zz ?_
    refine Z_.tk 1 Zz ?_
    refine Z_.tk 2 Zz ?_
    refine Z_.tk 3 Zz ?_
    refine Z_.tk 4 Zz ?_
    refine Z_.nx 5 (fun K hK=> ?_)
    rw [if_pos (by rfl)]
    go_simp
    go_at_call 58
    refine (l4At_place wd (some ⟨rb,ro,none⟩) Q_.length rc d dc sl n hsl (hS.kept (HKB.out.trans (K3.trans (Kr2.trans KD))))).mono ?_
    rintro e w7 ⟨⟨q7,rfl,hq7⟩,k7⟩
    have K7:=KD.trans k7
    have HQ7:=Kj hq7
    refine hK.out _ _ (fun _=> HS11.out _ K7) ?_
    clear hK K Zz hq7
    try simp only [Act.put,upA,upB,upC]
    refine Z_.nx 6 (fun K hK=> ?_)
    go_simp
    refine hK.out _ _ (fun h=> absurd rfl h) ?_
    clear hK K
    try simp only [Act.put,upA,upB,upC]
    refine Z_.dn ?_
    clear KD k7
    go_upto_region 12 with fail
    go_cut [10] from 49 to 58 (fun s10 wx=> ∃gb,s10= .pointer (some ⟨gb,0,none⟩)∧K_ w7 wx∧RBox wx gb r ta tc)
    case first=>
     refine Z_.rk 11 HS12.out (K7.drew) (fun Zz=> ?_)
     have KD:K_ w7 w7.drew:= (K_.refl w7).drew
     generalize hwd:w7.drew=wd at Zz KD⊢
     clear hwd
     refine Z_.tk 0 Zz ?_
     refine Z_.tk 1 Zz ?_
     refine Z_.tk 2 Zz ?_
     refine Z_.tk 3 Zz ?_
     refine Z_.tk 4 Zz ?_
     refine Z_.tk 5 Zz ?_
     refine Z_.tk 6 Zz ?_
     refine Z_.tw 7 10 (fun K hK=> ?_) (fun K hK=> ?_)
     ·rw [if_pos (by rfl)]
      go_simp
      go_at_call 58
      refine (l4At_place wd (some ⟨pb,po,none⟩) Q_.length xc (some ⟨fb,fo,none⟩) xe L n (by omega) (HX.out.rns.kept (K7.trans KD))).mono ?_
      rintro e w8 ⟨⟨q8,rfl,hq8⟩,k8⟩
      obtain rfl:=place_at HV2.out.good.asc hj HJe.out HEr.out hq8
      have hjl: (j:Int) < (L.length:Int):=by omega
      have K8:= (K7.trans KD).trans k8
      refine hK.out _ _ (fun _=> HS12.out _ K8) ?_
      clear hK K Zz hq8
      have Zz:=HS12.out _ K8
      try simp only [Act.put,upA,upB,upC]
      refine Z_.tk 8 Zz ?_
      refine Z_.tk 9 Zz ?_
      refine Z_.nx 10 (fun K hK=> ?_)
      go_simp
      have K9:K_ w8 (w8.alloc (.cells #[.string ⟨#[]⟩,.bool false,.bool false,.string ⟨#[]⟩,.int .i64 0,.int .i64 0,.slice none 0 0] 83)):= (K_.refl _).alloc _
      have hRw:RowT (w8.alloc (.cells #[.string ⟨#[]⟩,.bool false,.bool false,.string ⟨#[]⟩,.int .i64 0,.int .i64 0,.slice none 0 0] 83)) w8.heap.size 83 7:=RowT.made w8 _ _
      have KE:= (KD.trans k8).trans K9
      have nz:= (KD.trans k8).size
      obtain ⟨gb,hgb⟩: ∃gb,gb=w8.heap.size:= ⟨_,rfl⟩
      refine hK.out _ _ (fun _=> HS12.out _ (K7.trans KE)) ?_
      clear hK K
      rw [<-hgb] at hRw nz⊢
      generalize hwe:w8.alloc (.cells #[.string ⟨#[]⟩,.bool false,.bool false,.string ⟨#[]⟩,.int .i64 0,.int .i64 0,.slice none 0 0] 83)=wE at hRw KE⊢
      clear hwe K9 hgb
      try simp only [Act.put,upA,upB,upC]
      obtain ⟨⟨_,v0⟩,f0⟩:=hRw.row.at (i:=0) (by omega)
      obtain ⟨⟨_,v1⟩,f1⟩:=hRw.row.at (i:=1) (by omega)
      obtain ⟨⟨_,v2⟩,f2⟩:=hRw.row.at (i:=2) (by omega)
      obtain ⟨⟨_,v3⟩,f3⟩:=hRw.row.at (i:=3) (by omega)
      obtain ⟨⟨_,v4⟩,f4⟩:=hRw.row.at (i:=4) (by omega)
      obtain ⟨⟨_,v5⟩,f5⟩:=hRw.row.at (i:=5) (by omega)
      obtain ⟨⟨_,v6⟩,f6⟩:=hRw.row.at (i:=6) (by omega)
      have vz:=hRw.lt
      refine Z_.nx 11 (fun K hK=> ?_)
      go_simp
      refine hK.out _ _ (fun h=> absurd rfl h) ?_
      clear hK K
      try simp only [Act.put,upA,upB,upC]
      refine Z_.dn ?_
      go_wp2_with fail
      go_meet
      exact ⟨gb,rfl,kept_sets (g:=gb) nz [.string r.name,.bool r.over,.bool r.fail,.string r.text,.int .i64 r.at',.int .i64 r.Zk,.slice ta r.texts.length tc] 0 KE,RBox.laid hRw⟩
     ·rw [if_pos (by rfl)]
      go_simp
      have K9:K_ wd (wd.alloc (.cells #[.string ⟨#[]⟩,.bool false,.bool false,.string ⟨#[]⟩,.int .i64 0,.int .i64 0,.slice none 0 0] 83)):= (K_.refl _).alloc _
      have hRw0:RowT (wd.alloc (.cells #[.string ⟨#[]⟩,.bool false,.bool false,.string ⟨#[]⟩,.int .i64 0,.int .i64 0,.slice none 0 0] 83)) wd.heap.size 83 7:=RowT.made wd _ _
      have KF:=KD.trans K9
      have nz:=KD.size
      obtain ⟨gb,hgb⟩: ∃gb,gb=wd.heap.size:= ⟨_,rfl⟩
      refine hK.out _ _ (fun _=> HS12.out _ (K7.trans KF)) ?_
      clear hK K
      rw [<-hgb] at hRw0 nz⊢
      generalize hwe:wd.alloc (.cells #[.string ⟨#[]⟩,.bool false,.bool false,.string ⟨#[]⟩,.int .i64 0,.int .i64 0,.slice none 0 0] 83)=wF at hRw0 KF⊢
      clear hwe K9 hgb
      try simp only [Act.put,upA,upB,upC]
      refine Z_.nx 7 (fun K hK=> ?_)
      rw [if_pos (by rfl)]
      go_simp
      go_at_call 58
      refine (l4At_place wF (some ⟨pb,po,none⟩) Q_.length xc (some ⟨fb,fo,none⟩) xe L n (by omega) (HX.out.rns.kept (K7.trans KF))).mono ?_
      rintro e w8 ⟨⟨q8,rfl,hq8⟩,k8⟩
      obtain rfl:=place_at HV2.out.good.asc hj HJe.out HEr.out hq8
      have hjl: (j:Int) < (L.length:Int):=by omega
      have K8:= (K7.trans KF).trans k8
      refine hK.out _ _ (fun _=> HS12.out _ K8) ?_
      clear hK K Zz hq8
      have Zz:=HS12.out _ K8
      try simp only [Act.put,upA,upB,upC]
      refine Z_.tk 8 Zz ?_
      refine Z_.tk 9 Zz ?_
      have hRw:=hRw0.kept k8
      have KE:=KF.trans k8
      obtain ⟨⟨_,v0⟩,f0⟩:=hRw.row.at (i:=0) (by omega)
      obtain ⟨⟨_,v1⟩,f1⟩:=hRw.row.at (i:=1) (by omega)
      obtain ⟨⟨_,v2⟩,f2⟩:=hRw.row.at (i:=2) (by omega)
      obtain ⟨⟨_,v3⟩,f3⟩:=hRw.row.at (i:=3) (by omega)
      obtain ⟨⟨_,v4⟩,f4⟩:=hRw.row.at (i:=4) (by omega)
      obtain ⟨⟨_,v5⟩,f5⟩:=hRw.row.at (i:=5) (by omega)
      obtain ⟨⟨_,v6⟩,f6⟩:=hRw.row.at (i:=6) (by omega)
      have vz:=hRw.lt
      refine Z_.nx 11 (fun K hK=> ?_)
      go_simp
      refine hK.out _ _ (fun h=> absurd rfl h) ?_
      clear hK K
      try simp only [Act.put,upA,upB,upC]
      refine Z_.dn ?_
      go_wp2_with fail
      go_meet
      exact ⟨gb,rfl,kept_sets (g:=gb) nz [.string r.name,.bool r.over,.bool r.fail,.string r.text,.int .i64 r.at',.int .i64 r.Zk,.slice ta r.texts.length tc] 0 KE,RBox.laid hRw⟩
    case rest=>
     obtain ⟨gb,rfl,k8,hbx⟩:=hcut
     obtain ⟨w8,rfl⟩: ∃w8,w8=wc:= ⟨_,rfl⟩
     have K8:=K7.trans k8
     obtain ⟨_,_,_,_,_,g5,_⟩:=hbx.all
     have gz:=hbx.row.lt
     obtain ⟨_,s1,_⟩:=HS11.out _ K8
     have z1:= (HC.out _ (K3.trans (Kr2.trans K8))).2.2.2.2
     have HSk:Hid (¬Behind (W:=Qz Kk) behindS (Qk sl) (Qk L) n->RoundX Kk (Qk sl) (Qk (startL Kk Q_)) ns L0 L (i+1) b):=fun h=> HV2.out.skip (by rw [<-HN.out];exact h)
     clear hbx k8
     go_upto_region 13 with fail
     rcases HQ7.out with ⟨q,hq,rfl,hge,_⟩ | ⟨rfl,hge⟩
     rotate_left
     ·have HGe:=Kj hge
      clear hge
      go_quiet (fail)
      go_wp2_with fail
      go_roundg (gk - 1)
      case measure=> omega
      case rel=> exact ⟨i+1,b,L,_,xc,_,xe,rfl,by go_num,by omega,(KB.trans (Xx.of_kept K8)).drewN nq,HX.out.kept (K8.drewN nq),Kj (HSk.out (not_behind_none HGe.out))⟩
     obtain ⟨g,hg⟩: ∃g,g=sl.getD q Qq.zero:= ⟨_,rfl⟩
     rw [<-hg] at hge
     have HGe:=Kj hge
     obtain ⟨hb,ho,ua,uc,rfl,hhb,hcs,_,_⟩:=hS q hq
     rw [<-hg] at hcs
     have KW:=HKB.out.trans (K3.trans (Kr2.trans K8))
     have u1:= (KW.cell hhb).trans (hcs 1 _ rfl)
     have u5:= (KW.cell hhb).trans (hcs 5 _ rfl)
     have uz:=Nat.lt_of_lt_of_le hhb KW.size
     have q0: ¬(q:Int) < 0:=by omega
     have ql: (q:Int) < (sl.length:Int):=by omega
     clear hge hcs hg
     by_cases h1:g.Zk < r.Zk
     ·go_quiet (fail)
      go_wp2_with fail
      go_roundg (gk - 1)
      case measure=> omega
      case rel=> exact ⟨i+1,b,L,_,xc,_,xe,rfl,by go_num,by omega,(KB.trans (Xx.of_kept K8)).drewN nq,HX.out.kept (K8.drewN nq),Kj (HSk.out (not_behind HEr.out HGe.out (by rintro (h | ⟨h,_⟩) <;> omega)))⟩
     by_cases h2:r.Zk=g.Zk
     ·have h2b: (r.Zk == g.Zk)=true:=by simp [h2]
      have H2:=Kj h2
      clear h2
      cases hov:g.over
      ·rw [hov] at u1
       go_quiet (fail)
       go_wp2_with fail
       go_roundg (gk - 1)
       case measure=> omega
       case rel=> exact ⟨i+1,b,L,_,xc,_,xe,rfl,by go_num,by omega,(KB.trans (Xx.of_kept K8)).drewN nq,HX.out.kept (K8.drewN nq),Kj (HSk.out (not_behind HEr.out HGe.out (by have:=H2.out;rintro (h | ⟨_,h,_⟩);omega;rw [hov] at h;cases h)))⟩
      ·rw [hov] at u1
       by_cases h3:r.Zk < 20
       ·go_quiet (fail)
        go_wp2_with fail
        go_roundg (gk - 1)
        case measure=> omega
        case rel=> exact ⟨i+1,b,L,_,xc,_,xe,rfl,by go_num,by omega,(KB.trans (Xx.of_kept K8)).drewN nq,HX.out.kept (K8.drewN nq),Kj (HSk.out (not_behind HEr.out HGe.out (by have:=H2.out;rintro (h | ⟨_,_,h⟩) <;> omega)))⟩
       ·have HBe:Hid (Behind (W:=Qz Kk) behindS (Qk sl) (Qk L) n):= ⟨⟨r,HEr.out,HCg.out⟩,r,g,HEr.out,HGe.out,.inr ⟨H2.out,hov,by omega⟩⟩
        go_quiet (fail)
        have K9:=K8.drewN nq
        generalize hw9:w8.drewN nq=w9 at K9⊢
        clear hw9
        go_upto_region 14 with fail
        refine Z_.rk 7 HS14.out (K9.drew) (fun Zz=> ?_)
        have KD:K_ w9 w9.drew:= (K_.refl w9).drew
        generalize hwd:w9.drew=wd at Zz KD⊢
        clear hwd
        refine Z_.tk 0 Zz ?_
        refine Z_.tk 1 Zz ?_
        refine Z_.tk 2 Zz ?_
        refine Z_.tk 3 Zz ?_
        refine Z_.tk 4 Zz ?_
        refine Z_.tk 5 Zz ?_
        refine Z_.nx 6 (fun K hK=> ?_)
        rw [if_pos (by rfl)]
        go_simp
        go_at_call 59
        have KX:=K9.trans KD
        refine (doX_any wd a cap Kk pb po xc Q_ (some ⟨fb,fo,none⟩) xe L n r (by omega) (by omega) (web_small HW.out) (web_acts HW.out) hft hrl1 HV2.out.good HEr.out HCg.out (hN.kept (HKB.out.trans (K3.trans (Kr2.trans KX)))) (HX.out.rns.kept KX) (HX.out.rts.kept KX)).mono ?_
        rintro e wA ⟨xa2,xc2,xd2,xe2,xs2,rfl,hTA,hOA,hPA,kA⟩
        have KA:=KX.trans kA
        have zA:=KX.size
        have HLa:=Kj (XVar.laid (by omega) (HX.out.row.kept KA) hTA hOA hPA)
        have HDd:Hid (RoundX Kk (Qk sl) (Qk (startL Kk Q_)) ns L0 (doL (Qz Kk) L r) (i+1) true):=HV2.out.did (web_acts HW.out) (HRL.out.nodup HV.out.good.asc) hil (by rw [<-HN.out];exact HBe.out) (by rw [<-HN.out];exact HEr.out)
        clear hTA hOA hPA kA
        obtain ⟨T,hTT⟩: ∃T,T=doL (Qz Kk) L r:= ⟨_,rfl⟩
        rw [<-hTT] at HLa HDd⊢
        clear hTT
        have hRA:=HX.out.row.kept KA
        obtain ⟨⟨_,x0⟩,f0⟩:=hRA.row.at (i:=0) (by omega)
        obtain ⟨⟨_,x1⟩,f1⟩:=hRA.row.at (i:=1) (by omega)
        have xzA:=hRA.lt
        clear hRA
        refine hK.out _ _ (fun _=> HS14.out _ KA) ?_
        clear hK K Zz
        try simp only [Act.put,upA,upB,upC]
        refine Z_.nx 7 (fun K hK=> ?_)
        go_simp
        refine hK.out _ _ (fun h=> absurd rfl h) ?_
        clear hK K
        try simp only [Act.put,upA,upB,upC]
        refine Z_.dn ?_
        go_wp2_with fail
        go_roundg (gk - 1)
        case measure=> omega
        case rel=> exact ⟨i+1,true,T,xa2,xc2,xd2,xe2,rfl,by go_num,by omega,Xx.sets (Nat.le_refl _) (Nat.lt_succ_self _) [.slice xa2 Q_.length xc2,.slice xd2 T.length xe2] 0 (KB.trans (Xx.of_kept KA)),HLa.out,HDd⟩
     ·have h2b: (r.Zk == g.Zk)=false:=by simpa using h2
      have h1':r.Zk < g.Zk:=by omega
      clear h2
      have HBe:Hid (Behind (W:=Qz Kk) behindS (Qk sl) (Qk L) n):= ⟨⟨r,HEr.out,HCg.out⟩,r,g,HEr.out,HGe.out,.inl h1'⟩
      go_quiet (fail)
      have K9:=K8.drewN nq
      generalize hw9:w8.drewN nq=w9 at K9⊢
      clear hw9
      go_upto_region 14 with fail
      refine Z_.rk 7 HS14.out (K9.drew) (fun Zz=> ?_)
      have KD:K_ w9 w9.drew:= (K_.refl w9).drew
      generalize hwd:w9.drew=wd at Zz KD⊢
      clear hwd
      refine Z_.tk 0 Zz ?_
      refine Z_.tk 1 Zz ?_
      refine Z_.tk 2 Zz ?_
      refine Z_.tk 3 Zz ?_
      refine Z_.tk 4 Zz ?_
      refine Z_.tk 5 Zz ?_
      refine Z_.nx 6 (fun K hK=> ?_)
      rw [if_pos (by rfl)]
      go_simp
      go_at_call 59
      have KX:=K9.trans KD
      refine (doX_any wd a cap Kk pb po xc Q_ (some ⟨fb,fo,none⟩) xe L n r (by omega) (by omega) (web_small HW.out) (web_acts HW.out) hft hrl1 HV2.out.good HEr.out HCg.out (hN.kept (HKB.out.trans (K3.trans (Kr2.trans KX)))) (HX.out.rns.kept KX) (HX.out.rts.kept KX)).mono ?_
      rintro e wA ⟨xa2,xc2,xd2,xe2,xs2,rfl,hTA,hOA,hPA,kA⟩
      have KA:=KX.trans kA
      have zA:=KX.size
      have HLa:=Kj (XVar.laid (by omega) (HX.out.row.kept KA) hTA hOA hPA)
      have HDd:Hid (RoundX Kk (Qk sl) (Qk (startL Kk Q_)) ns L0 (doL (Qz Kk) L r) (i+1) true):=HV2.out.did (web_acts HW.out) (HRL.out.nodup HV.out.good.asc) hil (by rw [<-HN.out];exact HBe.out) (by rw [<-HN.out];exact HEr.out)
      clear hTA hOA hPA kA
      obtain ⟨T,hTT⟩: ∃T,T=doL (Qz Kk) L r:= ⟨_,rfl⟩
      rw [<-hTT] at HLa HDd⊢
      clear hTT
      have hRA:=HX.out.row.kept KA
      obtain ⟨⟨_,x0⟩,f0⟩:=hRA.row.at (i:=0) (by omega)
      obtain ⟨⟨_,x1⟩,f1⟩:=hRA.row.at (i:=1) (by omega)
      have xzA:=hRA.lt
      clear hRA
      refine hK.out _ _ (fun _=> HS14.out _ KA) ?_
      clear hK K Zz
      try simp only [Act.put,upA,upB,upC]
      refine Z_.nx 7 (fun K hK=> ?_)
      go_simp
      refine hK.out _ _ (fun h=> absurd rfl h) ?_
      clear hK K
      try simp only [Act.put,upA,upB,upC]
      refine Z_.dn ?_
      go_wp2_with fail
      go_roundg (gk - 1)
      case measure=> omega
      case rel=> exact ⟨i+1,true,T,xa2,xc2,xd2,xe2,rfl,by go_num,by omega,Xx.sets (Nat.le_refl _) (Nat.lt_succ_self _) [.slice xa2 Q_.length xc2,.slice xd2 T.length xe2] 0 (KB.trans (Xx.of_kept KA)),HLa.out,HDd⟩
theorem ValidX.good {Kk:List Qj} {Q_:List ByteArray} {sl:List Qq} (h:ValidX Kk Q_ sl):GoodL Kk sl:=by
 obtain ⟨_,_,_,k,L,hg,_,_,rfl⟩:=h
 exact hg
structure OutD where
 code:Int
 res:List ResD
 chain:List ByteArray
 units:Int
 cost:Int
theorem fiveCells {w w1:World} {v0 v1 v2 v3 v4:Value} {t:TypeId} (k:K_ (w.alloc (.cells #[v0,v1,v2,v3,v4] t)) w1):w1.cell? ⟨w.heap.size,0,none⟩=some v0∧w1.cell? ⟨w.heap.size,1,none⟩=some v1∧w1.cell? ⟨w.heap.size,2,none⟩=some v2∧w1.cell? ⟨w.heap.size,3,none⟩=some v3∧w1.cell? ⟨w.heap.size,4,none⟩=some v4:=by
 have h:=Xq w #[v0,v1,v2,v3,v4] t
 have z:w.heap.size < (w.alloc (.cells #[v0,v1,v2,v3,v4] t)).heap.size:=by simp
 exact ⟨(k.cell z).trans (h 0 _ rfl),(k.cell z).trans (h 1 _ rfl),(k.cell z).trans (h 2 _ rfl),(k.cell z).trans (h 3 _ rfl),(k.cell z).trans (h 4 _ rfl)⟩
theorem eqOutcome_yes (w:World) (a a' f f':Option Addr) (cap cap' e0 e1:Nat) (o:OutD) (hl:o.res.length<=maxLen) (hc:o.chain.length<=maxLen) (hS:Ress w a o.res) (hS':Ress w a' o.res) (hF:Strs w f o.chain) (hF':Strs w f' o.chain):
  Calls Tryz.prog 11 #[.agg #[.int .i64 o.code,.slice a o.res.length cap,.slice f o.chain.length e0,.int .i64 o.units,.int .i64 o.cost],.agg #[.int .i64 o.code,.slice a' o.res.length cap',.slice f' o.chain.length e1,.int .i64 o.units,.int .i64 o.cost]] w fun e w'=> e= .returned (.bool true)∧K_ w w':=by
 obtain ⟨code,res,chain,units,cost⟩:=o
 dsimp only at *
 obtain ⟨W0,hW0⟩: ∃W0,W0= (w.alloc (.cells #[.int .i64 code,.slice a res.length cap,.slice f chain.length e0,.int .i64 units,.int .i64 cost] 33)).alloc (.cells #[.int .i64 code,.slice a' res.length cap',.slice f' chain.length e1,.int .i64 units,.int .i64 cost] 33):= ⟨_,rfl⟩
 have k0:K_ w W0:=by rw [hW0];exact ((K_.refl _).alloc _).alloc _
 have HP:Hid (∀u,K_ W0 u->(u.cell? ⟨w.heap.size,0,none⟩=some (.int .i64 code)∧u.cell? ⟨w.heap.size,1,none⟩=some (.slice a res.length cap)∧u.cell? ⟨w.heap.size,2,none⟩=some (.slice f chain.length e0)∧u.cell? ⟨w.heap.size,3,none⟩=some (.int .i64 units)∧u.cell? ⟨w.heap.size,4,none⟩=some (.int .i64 cost))∧(u.cell? ⟨w.heap.size+1,0,none⟩=some (.int .i64 code)∧u.cell? ⟨w.heap.size+1,1,none⟩=some (.slice a' res.length cap')∧u.cell? ⟨w.heap.size+1,2,none⟩=some (.slice f' chain.length e1)∧u.cell? ⟨w.heap.size+1,3,none⟩=some (.int .i64 units)∧u.cell? ⟨w.heap.size+1,4,none⟩=some (.int .i64 cost))):=fun u k=> by
  rw [hW0] at k
  refine ⟨fiveCells (w:=w) (t:=33) (K_.trans ((K_.refl _).alloc _) k), ?_⟩
  have h:=fiveCells (w:=w.alloc (.cells #[.int .i64 code,.slice a res.length cap,.slice f chain.length e0,.int .i64 units,.int .i64 cost] 33)) (t:=33) k
  rw [World.size_alloc] at h
  exact h
 have z0:w.heap.size < W0.heap.size:=by rw [hW0];simp;omega
 have z1:w.heap.size+1 < W0.heap.size:=by rw [hW0];simp
 go_enter Tryz.func11,Tryz.ntmps11
 go_upto_region 1 with fail
 rw [<-hW0]
 clear hW0
 obtain ⟨⟨p0,p1,p2,p3,p4⟩,r0,r1,r2,r3,r4⟩:=HP.out _ (K_.refl W0)
 go_wp2_with fail
 refine (eqResultS_yes W0 a a' cap cap' res hl (hS.kept k0) (hS'.kept k0)).mono ?_
 rintro e w1 ⟨rfl,k1⟩
 clear p0 p1 p2 p3 p4 r0 r1 r2 r3 r4
 obtain ⟨⟨p0,p1,p2,p3,p4⟩,r0,r1,r2,r3,r4⟩:=HP.out _ k1
 go_wp2_with fail
 refine (eqStringS_yes w1 f f' e0 e1 chain hc (hF.kept (k0.trans k1)) (hF'.kept (k0.trans k1))).mono ?_
 rintro e w2 ⟨rfl,k2⟩
 clear p0 p1 p2 p3 p4 r0 r1 r2 r3 r4
 obtain ⟨⟨p0,p1,p2,p3,p4⟩,r0,r1,r2,r3,r4⟩:=HP.out _ (k1.trans k2)
 go_wp2
 go_ret
 exact ⟨rfl,k0.trans (k1.trans k2)⟩
theorem markOutcome_any (w:World) (lo mid hi:Nat) (a f:Option Addr) (cap e0:Nat) (o:OutD) (k:Nat) (h0:0 < k) (h1:k+o.res.length * 4+o.chain.length<=4611686018427387904) (hm1:lo<=mid) (hm2:mid<=hi) (hhi:hi<=w.heap.size) (hS:RessIn w lo mid a o.res) (hF:StrsIn w mid hi f o.chain):
  Calls Tryz.prog 16 #[.agg #[.int .i64 o.code,.slice a o.res.length cap,.slice f o.chain.length e0,.int .i64 o.units,.int .i64 o.cost],.int .i64 k] w fun e w'=> e= .returned (.int .i64 ((k+o.res.length * 4+o.chain.length:Nat):Int))∧RessIn w' lo mid a (markRess o.res k)∧StrsIn w' mid hi f (markStrs o.chain (k+o.res.length * 4))∧Xx lo hi w w':=by
 obtain ⟨code,res,chain,units,cost⟩:=o
 dsimp only at *
 obtain ⟨W0,hW0⟩: ∃W0,W0=w.alloc (.cells #[.int .i64 code,.slice a res.length cap,.slice f chain.length e0,.int .i64 units,.int .i64 cost] 33):= ⟨_,rfl⟩
 have k0:K_ w W0:=by rw [hW0];exact (K_.refl _).alloc _
 obtain ⟨b0,b1,b2,b3,b4⟩:=fiveCells (w:=w) (w1:=W0) (v0:= .int .i64 code) (v1:= .slice a res.length cap) (v2:= .slice f chain.length e0) (v3:= .int .i64 units) (v4:= .int .i64 cost) (t:=33) (by rw [hW0];exact K_.refl _)
 have z0:w.heap.size < W0.heap.size:=by rw [hW0];simp
 go_enter Tryz.func16,Tryz.ntmps16
 go_wp2_with fail
 rw [<-hW0]
 clear hW0
 refine (markResultS_any _ lo mid a cap res k h0 (by omega) (hS.same (k0.same _ _))).mono ?_
 rintro e w1 ⟨rfl,hR1,kb1⟩
 have s1:=kb1.same (l2:=w.heap.size) (h2:=w.heap.size+1) (by omega)
 have c1:= (s1.cell (o:=2) (Nat.le_refl _) (by omega) z0).trans b2
 obtain ⟨m,hm⟩: ∃m,m=k+res.length * 4:= ⟨_,rfl⟩
 rw [<-hm]
 have hmb:m+chain.length<=4611686018427387904:=by omega
 have hm0:0 < m:=by omega
 have HF1:=Kj ((hF.same (k0.same _ _)).same (kb1.same (l2:=mid) (h2:=hi) (by omega)))
 have HR1:=Kj hR1
 have hz1:=kb1.size
 have HM:=Kj hm
 clear hm b0 b1 b2 b3 b4 hR1 s1
 go_wp2_with fail
 refine (markStringS_any _ mid hi f e0 chain m hm0 hmb HF1.out).mono ?_
 rintro e w2 ⟨rfl,hF2,kb2⟩
 have HF2:=Kj hF2
 have HR2:=Kj (HR1.out.same (kb2.same (l2:=lo) (h2:=mid) (by omega)))
 have KB:=Kj ((((Xx.of_kept k0:Xx lo hi w W0).trans (kb1.mono (Nat.le_refl _) hm2))).trans (kb2.mono hm1 (Nat.le_refl _)))
 obtain ⟨m2,hm2'⟩: ∃m2,m2=m+chain.length:= ⟨_,rfl⟩
 rw [<-hm2']
 have HM2:=Kj hm2'
 clear hm2' hF2 c1
 go_wp2
 go_ret
 exact ⟨ret_int (by have:=HM.out;have:=HM2.out;omega),HR2.out,by rw [<-HM.out];exact HF2.out,KB.out⟩
theorem heldOutcome_yes (w:World) (a f:Option Addr) (cap e0:Nat) (o:OutD) (k:Nat) (h0:0 < k) (h1:k+o.res.length * 4+o.chain.length<=4611686018427387904) (hS:Ress w a (markRess o.res k)) (hF:Strs w f (markStrs o.chain (k+o.res.length * 4))):
  Calls Tryz.prog 17 #[.agg #[.int .i64 o.code,.slice a o.res.length cap,.slice f o.chain.length e0,.int .i64 o.units,.int .i64 o.cost],.int .i64 k] w fun e w'=> e= .returned (.int .i64 ((k+o.res.length * 4+o.chain.length:Nat):Int))∧K_ w w':=by
 obtain ⟨code,res,chain,units,cost⟩:=o
 dsimp only at *
 obtain ⟨W0,hW0⟩: ∃W0,W0=w.alloc (.cells #[.int .i64 code,.slice a res.length cap,.slice f chain.length e0,.int .i64 units,.int .i64 cost] 33):= ⟨_,rfl⟩
 have k0:K_ w W0:=by rw [hW0];exact (K_.refl _).alloc _
 obtain ⟨b0,b1,b2,b3,b4⟩:=fiveCells (w:=w) (w1:=W0) (v0:= .int .i64 code) (v1:= .slice a res.length cap) (v2:= .slice f chain.length e0) (v3:= .int .i64 units) (v4:= .int .i64 cost) (t:=33) (by rw [hW0];exact K_.refl _)
 have z0:w.heap.size < W0.heap.size:=by rw [hW0];simp
 go_enter Tryz.func17,Tryz.ntmps17
 go_wp2_with fail
 rw [<-hW0]
 clear hW0
 refine (heldResultS_yes _ a cap res k h0 (by omega) (hS.kept k0)).mono ?_
 rintro e w1 ⟨rfl,k1⟩
 have c1:= (k1.cell (o:=2) z0).trans b2
 obtain ⟨m,hm⟩: ∃m,m=k+res.length * 4:= ⟨_,rfl⟩
 rw [<-hm]
 have hmb:m+chain.length<=4611686018427387904:=by omega
 have hm0:0 < m:=by omega
 have hmn: ¬((m:Int) < 0):=by omega
 have HM:=Kj hm
 have hz1:=k1.size
 have K1:=k0.trans k1
 have HF:=Kj (hF.kept K1)
 rw [<-hm] at HF
 clear hm b0 b1 b2 b3 b4 hF k0 k1
 go_wp2_with fail
 refine (heldStringS_yes _ f e0 chain m hm0 hmb HF.out).mono ?_
 rintro e w2 ⟨rfl,k2⟩
 obtain ⟨m2,hm2⟩: ∃m2,m2=m+chain.length:= ⟨_,rfl⟩
 rw [<-hm2]
 have hm2n: ¬((m2:Int) < 0):=by omega
 have HM2:=Kj hm2
 clear hm2 c1
 go_wp2
 go_ret
 exact ⟨ret_int (by have:=HM.out;have:=HM2.out;omega),K1.trans k2⟩
def resX (W:Acts) (σ:Env) (n:ByteArray):ResD:=
 match ansOf W σ n with
 | some x=> ⟨n,true,x.fail,x.text⟩
 | none=> ⟨n,false,false,⟨#[]⟩⟩
def OpenT (σ:Env):Prop:= ∀n r,σ n=some r->r.over=false->r.fail=false∧r.text= ⟨#[]⟩
theorem arrive_openT {A:ActionD} {r:Qq} (h:r.fail=false∧r.text= ⟨#[]⟩) (ho: (arrive A r).1.over=false): (arrive A r).1.fail=false∧(arrive A r).1.text= ⟨#[]⟩:=by
 unfold arrive at ho⊢
 simp only at ho⊢
 by_cases hf: (stepOf A r.at').fin=true
 ·rw [if_pos hf] at ho;cases ho
 ·rw [if_neg hf];exact h
theorem next_openT {W:Acts} {σ:Env} {r:Qq} (h:r.fail=false∧r.text= ⟨#[]⟩) (ho: (Yz W σ r).1.over=false): (Yz W σ r).1.fail=false∧(Yz W σ r).1.text= ⟨#[]⟩:=by
 unfold Yz at ho⊢
 cases hA:W r.name with
 | none=> exact h
 | some A=>
  rw [hA] at ho
  simp only at ho⊢
  by_cases hv:r.Zk=0
  ·rw [if_pos hv] at ho⊢;exact arrive_openT h ho
  ·rw [if_neg hv] at ho⊢
   cases hx:Yj W σ (stepOf A r.at').asks with
   | none=> exact h
   | some xs=>
    rw [hx] at ho
    simp only at ho⊢
    by_cases h20:r.Zk=20
    ·rw [if_pos h20] at ho;cases ho
    ·rw [if_neg h20] at ho⊢
     by_cases hgo: (goOnF (stepOf A r.at') xs).over=true
     ·rw [if_pos hgo] at ho;cases ho
     ·rw [if_neg hgo] at ho⊢;exact arrive_openT (by exact h) ho
theorem OpenT.did {W:Acts} {σ:Env} (h:OpenT σ) {n:ByteArray} (hn:ReadyX W σ n):OpenT (doX W σ n):=by
 obtain ⟨r,hr,hc⟩:=hn
 intro m q hq ho
 rw [doX_eq hr] at hq
 by_cases e:m=n
 ·rw [if_pos e] at hq
  cases hq
  exact next_openT (h n r hr hc.1) ho
 ·rw [if_neg e] at hq
  cases hm:σ m with
  | some x=> rw [hm] at hq;cases hq;exact h m _ hm ho
  | none=>
   rw [hm] at hq
   simp only at hq
   split at hq
   ·cases hq;exact ⟨rfl,rfl⟩
   ·cases hq
theorem ValidX.openT {Kk:List Qj} {Q_:List ByteArray} {sl:List Qq} (hv:ValidX Kk Q_ sl):OpenT (Qk sl):=by
 obtain ⟨_,_,_,j,L,hgL,hl,_,rfl⟩:=hv
 refine hl.keeps (P:=OpenT) (fun σ m h hm=> h.did hm.1) (fun m r hr ho=> ?_)
 rw [startL_env] at hr
 split at hr
 ·cases hr;exact ⟨rfl,rfl⟩
 ·cases hr
def dResCells (l:List ResD):List Value:= (l.map ResD.cells).flatten
theorem dResCells_length (l:List ResD): (dResCells l).length=l.length * 4:=by
 induction l with
 | nil=> rfl
 | cons c r ih=> simp only [dResCells,List.map_cons,List.flatten_cons,List.length_append,List.length_cons] at ih⊢;rw [ih];simp [ResD.cells];omega
theorem dResCells_snoc (l:List ResD) (c:ResD):dResCells (l++ [c])=dResCells l++c.cells:=by simp [dResCells]
theorem dResCells_get : ∀(l:List ResD) (i j:Nat),i < l.length->j < 4->(dResCells l)[i * 4+j]? = ((l.getD i ResD.zero).cells)[j]?
 | [],_,_,h,_=> absurd h (Nat.not_lt_zero _)
 | c :: r,0,j,_,hj=> by
  have e:dResCells (c :: r)=c.cells++dResCells r:=rfl
  rw [e,Nat.zero_mul,Nat.zero_add,List.getElem?_append_left (by simpa [ResD.cells] using hj)]
  rfl
 | c :: r,i+1,j,h,hj=> by
  have e:dResCells (c :: r)=c.cells++dResCells r:=rfl
  have hl:c.cells.length=4:=rfl
  rw [e,List.getElem?_append_right (by rw [hl];omega),hl,show (i+1) * 4+j - 4=i * 4+j by omega,dResCells_get r i j (by simpa using h) hj]
  rfl
theorem owned_ress {w:World} {base:Nat} {t:TypeId} {v:Value} {n:Nat} {l:List ResD} (h:w.ownsRow base t 4 v n (dResCells l)): ∃a cap,v= .slice a l.length cap∧Ress w a l:=by
 have hn:n=l.length:=by have:=h.1;rw [dResCells_length] at this;omega
 subst hn
 rcases h.2 with ⟨rfl,h0⟩ | ⟨g,cap,cur,rfl,hb,hg,hnc,_,_,_⟩
 ·exact ⟨none,0,by rw [h0],fun i hi=> by omega⟩
 ·refine ⟨_,cap,rfl,fun i hi=> ⟨g,0,rfl,heap_lt hg,fun j u hu=> ?_⟩⟩
  have hj:j < 4:=by have:= (List.getElem?_eq_some_iff.1 hu).1;simpa [ResD.cells] using this
  have:=h.cells (g:=g) rfl (i * 4+j) u (by rw [dResCells_get l i j hi hj];exact hu)
  rw [Addr.add_mid,Nat.zero_add] at this
  rw [Nat.zero_add]
  exact this
section
variable (W : Acts) (σ : Env)
end
theorem goodEnv_do {Kk:List Qj} {σ:Env} {n:ByteArray} (hok:ActsOk (Qz Kk)) (h:GoodEnv Kk σ) (hr:ReadyX (Qz Kk) σ n):GoodEnv Kk (doX (Qz Kk) σ n):=by
 obtain ⟨r,hr,hc⟩:=hr
 intro m q hq
 rw [doX_eq hr] at hq
 by_cases e:m=n
 ·rw [if_pos e] at hq
  cases hq
  exact ⟨by rw [nextOf_name,e];exact (h n r hr).1,nextOf_good hok h (h n r hr).2 hc⟩
 ·rw [if_neg e] at hq
  cases hm:σ m with
  | some x=>
   rw [hm] at hq
   cases hq
   exact h m _ hm
  | none=>
   rw [hm] at hq
   simp only at hq
   split at hq
   ·rename_i h2
    cases hq
    exact ⟨rfl,fresh_good hok h2.2⟩
   ·cases hq
def AscB (l:List ByteArray):Prop:=l.Pairwise lessX
theorem AscB.nodup {l:List ByteArray} (h:AscB l):l.Nodup:=h.imp fun hx=> lessX_ne hx
def PutB (l:List ByteArray) (x:ByteArray) (r:List ByteArray):Prop:= (x∈l∧r=l)∨(x∉l∧∃k,k<=l.length∧r=l.take k++x :: l.drop k∧(∀y∈l.take k,lessX y x)∧∀y∈l.drop k,lessX x y)
theorem PutB.asc {l r:List ByteArray} {x:ByteArray} (h:PutB l x r) (ha:AscB l):AscB r∧∀s,s∈r↔s∈l∨s=x:=by
 rcases h with ⟨h1,rfl⟩ | ⟨h1,k,hk,rfl,h2,h3⟩
 ·exact ⟨ha,fun s=> ⟨.inl,fun h=> h.elim id (fun e=> by rw [e];exact h1)⟩⟩
 ·have h4:AscB (l.take k++l.drop k):=by rw [List.take_append_drop];exact ha
  unfold AscB at h4⊢
  rw [List.pairwise_append] at h4⊢
  refine ⟨⟨h4.1,List.pairwise_cons.2 ⟨h3,h4.2.1⟩,fun a ha b hb=> ?_⟩,fun s=> ?_⟩
  ·rcases List.mem_cons.1 hb with rfl | hb
   ·exact h2 a ha
   ·exact h4.2.2 a ha b hb
  ·rw [List.mem_append,List.mem_cons]
   constructor
   ·rintro (h | h | h)
    ·exact .inl (List.mem_of_mem_take h)
    ·exact .inr h
    ·exact .inl (List.mem_of_mem_drop h)
   ·rintro (h | h)
    ·rw [<-List.take_append_drop k l] at h
     rcases List.mem_append.1 h with h | h
     ·exact .inl h
     ·exact .inr (.inr h)
    ·exact .inr (.inl h)
section
variable (W : Acts) (σ : Env)
def OpenN (s:ByteArray):Prop:= ∃q,σ s=some q∧q.over=false
def WaitsX (n s:ByteArray):Prop:= ∃r A,σ n=some r∧r.over=false∧r.Zk≠0∧W n=some A∧s∈(stepOf A r.at').asks∧OpenN σ s
def WaitL (n:ByteArray) (ns:List ByteArray):Prop:=AscB ns∧∀s,s∈ns↔WaitsX W σ n s
def AskedOk :Prop:= ∀n r A,σ n=some r->r.over=false->r.Zk≠0->W n=some A->∀s∈(stepOf A r.at').asks,(W s).isSome=true->(σ s).isSome=true
end
theorem arrive_asks {A:ActionD} {r:Qq}: (arrive A r).2= (stepOf A (arrive A r).1.at').asks:=by
 unfold arrive
 simp only
 split <;> rfl
theorem next_asksX {W:Acts} {σ:Env} {r:Qq} {A:ActionD} (hA:W r.name=some A) (hc:CanGo W σ r) (ho: (Yz W σ r).1.over=false): (Yz W σ r).2= (stepOf A (Yz W σ r).1.at').asks:=by
 unfold Yz at ho⊢
 rw [hA] at ho⊢
 simp only at ho⊢
 by_cases hv:r.Zk=0
 ·rw [if_pos hv];exact arrive_asks
 ·rw [if_neg hv] at ho⊢
  rcases hc.2 with e | ⟨A',xs,hA',hxs⟩
  ·exact absurd e hv
  ·rw [hA] at hA'
   cases hA'
   rw [hxs] at ho⊢
   simp only at ho⊢
   by_cases h20:r.Zk=20
   ·rw [if_pos h20] at ho;cases ho
   ·rw [if_neg h20] at ho⊢
    by_cases hgo: (goOnF (stepOf A r.at') xs).over=true
    ·rw [if_pos hgo] at ho;cases ho
    ·rw [if_neg hgo];exact arrive_asks
theorem AskedOk.did {Kk:List Qj} {σ:Env} (h:AskedOk (Qz Kk) σ) (hg:GoodEnv Kk σ) {n:ByteArray} (hn:ReadyX (Qz Kk) σ n):AskedOk (Qz Kk) (doX (Qz Kk) σ n):=by
 obtain ⟨r,hr,hc⟩:=hn
 have hrn:r.name=n:= (hg n r hr).1
 intro m q A hq ho hv hA s hs hsW
 rw [doX_eq hr] at hq
 rw [doX_eq hr]
 by_cases e:s=n
 ·rw [if_pos e];rfl
 rw [if_neg e]
 cases hss:σ s with
 | some x=> rfl
 | none=>
  simp only
  by_cases e2:m=n
  ·rw [if_pos e2] at hq
   cases hq
   subst e2
   have hh:hasN (Yz (Qz Kk) σ r).2 s=true:=by
    rw [hasN_iff,next_asksX (by rw [hrn];exact hA) hc ho]
    exact hs
   simp [hh,hsW]
  ·rw [if_neg e2] at hq
   cases hm:σ m with
   | some x=>
    rw [hm] at hq
    cases hq
    have h9:=h m _ A hm ho hv hA s hs hsW
    rw [hss] at h9
    exact absurd h9 (by simp)
   | none=>
    rw [hm] at hq
    simp only at hq
    split at hq
    ·cases hq;exact absurd rfl hv
    ·cases hq
theorem ValidX.asked {Kk:List Qj} {Q_:List ByteArray} {sl:List Qq} (hv:ValidX Kk Q_ sl):AskedOk (Qz Kk) (Qk sl):=by
 have hok:=web_acts hv.1
 obtain ⟨_,_,_,j,L,hgL,hl,_,rfl⟩:=hv
 have h:=hl.keeps (P:=fun σ:Env=> GoodEnv Kk σ∧AskedOk (Qz Kk) σ) (fun σ m h hm=> ⟨goodEnv_do hok h.1 hm.1,h.2.did h.1 hm.1⟩) ⟨(startL_good hok Q_).env,fun n r A hr ho hv=> by
  rw [startL_env] at hr
  split at hr
  ·cases hr;exact absurd rfl hv
  ·cases hr⟩
 exact h.2
theorem pend_iff {Kk:List Qj} {σ:Env} (hg:GoodEnv Kk σ) (ha:AskedOk (Qz Kk) σ) {n:ByteArray} {r:Qq} (hr:σ n=some r) (s:ByteArray):s∈pend (Qz Kk) σ r↔WaitsX (Qz Kk) σ n s:=by
 obtain ⟨hn,hgd⟩:=hg n r hr
 obtain ⟨A,hA,_⟩:=hgd.act
 rw [hn] at hA
 unfold pend
 constructor
 ·intro h
  split at h
  ·cases h
  ·rename_i h0
   rw [hn,hA] at h
   simp only [List.mem_filter] at h
   obtain ⟨h1,h2⟩:=h
   have ho:r.over=false:=by
    cases h3:r.over
    ·rfl
    ·exact absurd (.inl h3) h0
   have hv:r.Zk≠0:=fun e=> h0 (.inr e)
   refine ⟨r,A,hr,ho,hv,hA,h1, ?_⟩
   unfold ansOf at h2
   cases hW:Qz Kk s with
   | none=> rw [hW] at h2;cases h2
   | some B=>
    rw [hW] at h2
    simp only at h2
    have h4:=ha n r A hr ho hv hA s h1 (by rw [hW];rfl)
    cases hs:σ s with
    | none=> rw [hs] at h4;cases h4
    | some q=>
     rw [hs] at h2
     simp only at h2
     cases hq:q.over
     ·exact ⟨q,hs,hq⟩
     ·rw [if_pos hq] at h2;cases h2
 ·rintro ⟨r',A',hr',ho,hv,hA',h1,q,hq,hqo⟩
  rw [hr] at hr'
  cases hr'
  rw [hA] at hA'
  cases hA'
  rw [if_neg (by rw [ho];simp [hv]),hn,hA]
  simp only [List.mem_filter]
  refine ⟨h1, ?_⟩
  obtain ⟨hn2,hg2⟩:=hg s q hq
  obtain ⟨B,hB,_⟩:=hg2.act
  rw [hn2] at hB
  unfold ansOf
  rw [hB,hq]
  simp [hqo]
theorem WaitL.len {Kk:List Qj} (hok:ActsOk (Qz Kk)) {σ:Env} (hg:GoodEnv Kk σ) {n:ByteArray} {ns:List ByteArray} (h:WaitL (Qz Kk) σ n ns):ns.length<=5:=by
 cases hns:ns with
 | nil=> simp
 | cons x l=>
  obtain ⟨r,A,hr,_,_,hA,_⟩:= (h.2 x).1 (by rw [hns];simp)
  obtain ⟨hn,hgd⟩:=hg n r hr
  obtain ⟨A',hA',h0,h1⟩:=hgd.act
  rw [hn,hA] at hA'
  cases hA'
  have h5:= (asks_ok (hok n A hA).1 h0 h1).1
  have:=List.Nodup.length_le_of_subset h.1.nodup (l₂:= (stepOf A r.at').asks) (fun s hs=> by
   obtain ⟨r',A',hr',_,_,hA',h2,_⟩:= (h.2 s).1 hs
   rw [hr] at hr'
   cases hr'
   rw [hA] at hA'
   cases hA'
   exact h2)
  rw [<-hns]
  omega
