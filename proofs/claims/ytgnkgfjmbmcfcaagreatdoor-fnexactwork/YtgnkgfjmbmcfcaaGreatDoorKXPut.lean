import Derived.Test.YtgnkgfjmbmcfcaaGreatDoorKXWant0
import Derived.Laws.AppendOwnNone
import Derived.Deep.QuietTactic
import Derived.BigQuiet
set_option maxRecDepth 100000
set_option maxHeartbeats 25600000
namespace Go.Proofs.YtgnkgfjmbmcfcaaGreatDoor
open Go.RowKit
theorem xPut_any (w:World) (a:Option Addr) (cap:Nat) (l:List Qz) (r:Qz) (xa:Option Addr) (xc:Nat) (hl:l.length<=100000) (htl:r.texts.length<=1000) (hr:AscX l) (P:Nat->Prop) (hPn: ∀b,w.heap.size<=b->P b) (hS:RunsXP w P a l) (hT:Strs w xa r.texts) (hX:xa=none->xc=0):
  Calls Tryz.prog 98 #[.slice a l.length cap,.agg #[.string r.name,.bool r.over,.bool r.fail,.string r.text,.int .i64 r.at',.int .i64 r.Zj,.slice xa r.texts.length xc]] w
   fun e w'=> ∃v,e= .returned v∧RunsO w w' P v (insX l r)∧K_ w w':=by
 have HXn:=Kz hX
 have HAs:=Kz hr
 have HPn:=Kz hPn
 clear hX hr hPn
 obtain ⟨W1,hW1⟩: ∃W1,W1=w.alloc (.cells #[.string r.name,.bool r.over,.bool r.fail,.string r.text,.int .i64 r.at',.int .i64 r.Zj,.slice xa r.texts.length xc] 103):= ⟨_,rfl⟩
 have kB:K_ w W1:=by rw [hW1];exact (K_.refl _).alloc _
 have hBs:w.heap.size+1<=W1.heap.size:=by rw [hW1];simp
 have hbox:RBox W1 w.heap.size r xa xc:=by
  rw [hW1]
  exact ⟨RowT.made w #[.string r.name,.bool r.over,.bool r.fail,.string r.text,.int .i64 r.at',.int .i64 r.Zj,.slice xa r.texts.length xc] 103,Xz w _ _⟩
 have HKB:=Kz kB
 have HBox:=Kz hbox
 clear kB hbox
 go_enter Tryz.func98,Tryz.ntmps98
 go_upto_region 1 with fail
 rw [<-hW1]
 clear hW1
 have HKE:Hid (K_ W1 (W1.alloc (.cells #[] 9))):= (K_.refl _).alloc _
 have HOE:Hid ((W1.alloc (.cells #[] 9)).ownsRow W1.heap.size 9 1 (.slice (some ⟨W1.heap.size,0,none⟩) 0 0) 0 (([]:List ByteArray).map Value.string)):=World.ownsRow_made W1 #[] 0 (Nat.le_refl _) (Nat.zero_le _) rfl
 obtain ⟨ic,hc0,hc1,hc2,hc3⟩:=xInfo_parts Tryz.xInfoStr
 go_cut [3] from 8 to 57 (fun s3 wx=> ∃xa2 xc2,s3= .pointer (some ⟨w.heap.size,0,none⟩)∧K_ w wx∧RBox wx w.heap.size r xa2 xc2∧Strs wx xa2 r.texts∧(xa2=none->xc2=0)∧(∀ad:Addr,xa2=some ad->P ad.block))
 case first=>
  obtain ⟨q0,q1,q2,q3,q4,q5,q6⟩:=HBox.out.all
  have qz:=HBox.out.row.lt
  obtain ⟨_,g6⟩:=HBox.out.row.row.at (i:=6) (by omega)
  rcases (show xa=none∨∃ad,xa=some ad from by cases xa with | none=> exact .inl rfl | some x=> exact .inr ⟨x,rfl⟩) with rfl | ⟨ad,rfl⟩
  ·have h0:r.texts=[]:=by
    cases htx:r.texts with
    | nil=> rfl
    | cons t ts=> exfalso;obtain ⟨b,o,e,_⟩:=hT 0 (by rw [htx];simp);cases e
   have hxc:=HXn.out rfl
   have q6':W1.cell? ⟨w.heap.size,6,none⟩=some (.slice none 0 0):=by rw [q6,h0,hxc];rfl
   have H0:=Kz h0
   clear q6 h0 hxc
   have q6:=q6'
   clear q6'
   go_wp2_with (at_builtin;refine wpList_append_own_none _ rfl (.tmp 8) (.tmp 10) 25 rfl W1.heap.size 9 ic 1 Tryz.underlying25 hc0 (.slice (some ⟨W1.heap.size,0,none⟩) 0 0) 0 [] rfl HOE.out rfl ?_)
   go_meet
   exact ⟨_,_,rfl,K_.alloc (Below.setCell HKB.out (p:= ⟨w.heap.size,6,none⟩) (Nat.le_refl _) _) _,(HBox.out.put (xa':=some ⟨W1.heap.size,0,none⟩) (xc':=0) (by omega) (by simp [Qz.cells,H0.out])).kept ((K_.refl _).alloc _),(fun i hi=> by rw [H0.out] at hi;cases hi),(fun e=> by cases e),fun ad e=> by cases e;exact HPn.out _ (by show w.heap.size<=W1.heap.size;omega)⟩
  ·have HNws:Hid (∀j u,(r.texts.map Value.string)[j]? =some u->(W1.alloc (.cells #[] 9)).cell? (ad.add j)=some u):=fun j u hu=> by
    have hj:j < r.texts.length:=by have:= (List.getElem?_eq_some_iff.1 hu).1;simpa using this
    obtain ⟨b,o,e,hb,hc⟩:= (hT.kept (HKB.out.trans HKE.out)) j hj
    simp only [Option.some.injEq] at e
    subst e
    rw [Addr.add_mid,hc]
    simp [hj] at hu
    simp [List.getD,hj,hu]
   have HOnes:Hid (∀u∈r.texts.map Value.string,u.oneCell'=true):=fun u hu=> by obtain ⟨x,_,rfl⟩:=List.mem_map.1 hu;rfl
   have hbs:W1.heap.size<=(W1.alloc (.cells #[] 9)).heap.size:=HKE.out.size
   go_wp2_with (at_builtin;refine wpList_append_own _ rfl (.tmp 8) (.tmp 10) 25 rfl W1.heap.size 9 ic _ 1 16 Tryz.underlying25 hc0 hc1 hc2 hc3 rfl (by decide) (.slice (some ⟨W1.heap.size,0,none⟩) 0 0) 0 [] rfl HOE.out ad r.texts.length xc (r.texts.map Value.string) rfl (by simp) HNws.out HOnes.out (by unfold maxLen;omega) (by omega) hbs ?_;intro v1 w8 hown1 hgr1 _;rw [Nat.zero_add,List.nil_append] at hown1;have KP8:=kept_of_grown HKE.out (Nat.le_refl _) HOE.out hgr1;have HO8:=Kz hown1;obtain ⟨av1,cv1,rfl⟩:=own_slice hown1;have HB8:=Kz (HBox.out.kept KP8);have q6b:=HB8.out.all.2.2.2.2.2.2;have qzb:=HB8.out.row.lt;obtain ⟨_,g6b⟩:=HB8.out.row.row.at (i:=6) (by omega);clear hown1 hgr1)
   go_meet
   obtain ⟨xa2,xc2,ev,hs2,hn2,hp2⟩:=owned_set (c:=w.heap.size) (p:=6) (u:= .slice av1 r.texts.length cv1) HO8.out (by omega)
   simp only [Value.slice.injEq] at ev
   obtain ⟨rfl,_,rfl⟩:=ev
   exact ⟨_,_,rfl,Below.setCell (HKB.out.trans KP8) (p:= ⟨w.heap.size,6,none⟩) (Nat.le_refl _) _,HB8.out.put (by omega) rfl,hs2,hn2,fun ad e=> HPn.out _ (Nat.le_trans (by omega) (hp2 ad e))⟩
 case rest=>
  obtain ⟨xa2,xc2,rfl,k2,hbx,hs2,hx2,hp2⟩:=hcut
  obtain ⟨w2,rfl⟩: ∃w2,w2=wc:= ⟨_,rfl⟩
  obtain ⟨ino,hn0,hn1,hn2,hn3⟩:=xInfo_parts Tryz.xInfoRun
  have HBx:=Kz hbx
  have HS2:=Kz (hS.kept k2)
  have HK2:=Kz k2
  have HTs:=Kz hs2
  have HTx:=Kz hx2
  have HTp:=Kz hp2
  have hz2:=hbx.row.lt
  clear hs2 hx2 hp2 hbx k2 hS hT HXn HKB HBox HKE HOE hc0 hc1 hc2 hc3 hBs
  go_wp2_with fail
  go_loopw [5,6,7] (fun out dn i wr=> ∃k:Nat,k<=l.length∧i= .int .i64 k∧dn= .bool (putK l r k).2∧PutSt w2 wr P out (putK l r k)) (fun _ _ i _=> l.length - (intOf i).toNat)
  case atStart=>
   exact ⟨0,Nat.zero_le _,rfl,rfl,[],World.ownsRow_made w2 #[] 0 (Nat.le_refl _) (Nat.zero_le _) rfl,PackedX.nil _ _,(K_.refl _).alloc _⟩
  case round=>
   obtain ⟨k,hk,rfl,hdn,xs,hown,hP,KWR⟩:=hrel
   have hpl:=putK_len (l:=l) (r:=r) hk
   obtain ⟨p,hp⟩: ∃p,p=putK l r k:= ⟨_,rfl⟩
   rw [<-hp] at hdn hown hP hpl
   obtain ⟨po,pd⟩:=p
   dsimp only at hdn hown hP hpl
   subst hdn
   have HP:=Kz hP
   have HOw:=Kz hown
   have HPk:=Kz hp
   clear hP hown hp
   obtain ⟨r0,r1,r2,r3,r4,r5,r6⟩:= (HBx.out.kept KWR).all
   have rz:= (HBx.out.kept KWR).row.lt
   have hz:=KWR.size
   by_cases hlt:k < l.length
   ·obtain ⟨b,o,xa,ca,rfl,hb,hc,hTk,hXk,hPk⟩:=HS2.out k hlt
    have HSk:=Kz (putK_succ (r:=r) hlt)
    obtain ⟨x,hx⟩: ∃x,x=l.getD k Qz.zero:= ⟨_,rfl⟩
    rw [<-hx,<-HPk.out] at HSk
    rw [<-hx] at hc hTk
    have HC:Hid (∀w',K_ w2 w'->b < w'.heap.size∧w'.cell? ⟨b,o+k * 7,none⟩=some (.string x.name)∧w'.cell? ⟨b,o+k * 7+1,none⟩=some (.bool x.over)∧w'.cell? ⟨b,o+k * 7+2,none⟩=some (.bool x.fail)∧w'.cell? ⟨b,o+k * 7+3,none⟩=some (.string x.text)∧w'.cell? ⟨b,o+k * 7+4,none⟩=some (.int .i64 x.at')∧w'.cell? ⟨b,o+k * 7+5,none⟩=some (.int .i64 x.Zj)∧w'.cell? ⟨b,o+k * 7+6,none⟩=some (.slice xa x.texts.length ca)):=fun w' K=> ⟨Nat.lt_of_lt_of_le hb K.size,(K.cell hb).trans (hc 0 _ rfl),(K.cell hb).trans (hc 1 _ rfl),(K.cell hb).trans (hc 2 _ rfl),(K.cell hb).trans (hc 3 _ rfl),(K.cell hb).trans (hc 4 _ rfl),(K.cell hb).trans (hc 5 _ rfl),(K.cell hb).trans (hc 6 _ rfl)⟩
    have HTk:=Kz hTk
    have HXk:=Kz hXk
    have HPq:=Kz hPk
    clear hc hTk hXk hPk hx
    obtain ⟨hb,c0,c1,c2,c3,c4,c5,c6⟩:=HC.out wr KWR
    have i0: (k:Int) < (l.length:Int):=by omega
    go_upto_region 7 with fail
    go_cut [31] from 14 to 50 (fun c wx=> c= .bool (!pd && !Op.bytesLess x.name.toList r.name.toList)∧∃n,wx=wr.drewN n)
    case first=>
     cases pd
     ·cases hbl:Op.bytesLess x.name.toList r.name.toList
      ·go_quiet (fail)
       go_wp2_with fail
       go_meet
       exact ⟨by rw [hbl];rfl,nq,rfl⟩
      ·go_quiet (fail)
       go_wp2_with fail
       go_meet
       exact ⟨by rw [hbl];rfl,nq,rfl⟩
     ·go_quiet (fail)
      go_wp2_with fail
      go_meet
      exact ⟨rfl,nq,rfl⟩
    case rest=>
     obtain ⟨rfl,nq,hwq⟩:=hcut
     obtain ⟨wq,rfl⟩: ∃wq,wq=wc:= ⟨_,rfl⟩
     have KQ:K_ w2 wq:= (by rw [hwq];exact KWR.drewN nq)
     have HOq:Hid (wq.ownsRow w2.heap.size 103 7 u5 po.length xs):= (by rw [hwq];exact HOw.out)
     clear r0 r1 r2 r3 r4 r5 r6 rz hwq c0 c1 c2 c3 c4 c5 c6 hb
     obtain ⟨r0,r1,r2,r3,r4,r5,r6⟩:= (HBx.out.kept KQ).all
     have rz:= (HBx.out.kept KQ).row.lt
     have hzq:=KQ.size
     obtain ⟨cb,hcb⟩: ∃cb,cb= (!pd && !Op.bytesLess x.name.toList r.name.toList):= ⟨_,rfl⟩
     rw [<-hcb]
     have HCb:=Kz hcb
     clear hcb
     go_upto_if 31 with fail
     go_cut [5,6] from 14 to 50 (fun o6 d6 wx=> d6= .bool (putA r (po,pd) x).2∧PutSt w2 wx P o6 (putA r (po,pd) x))
     case first=>
      cases cb
      ·go_wp2_with fail
       go_meet
       have e:putA r (po,pd) x= (po,pd):= (by unfold putA;rw [if_neg];rintro ⟨h1,h2⟩;have h3:=HCb.out;dsimp only at h1;rw [h1,h2] at h3;cases h3)
       rw [e]
       exact ⟨rfl,xs,HOq.out,HP.out,KQ⟩
      ·go_wp2_with (at_builtin;refine wpList_append_own _ rfl (.tmp 32) (.tmp 34) 51 rfl w2.heap.size 103 ino _ 7 80 Tryz.underlying51 hn0 hn1 hn2 hn3 rfl (by decide) _ po.length _ rfl (ownsRow_kept' HOq.out (by repeat (first | (with_reducible exact K_.refl _) | apply K_.alloc | apply K_.drewN | apply K_.drew))) ⟨wq.heap.size,0,none⟩ 1 1 (r.cells xa2 xc2) rfl rfl (fun j u hu=> (by rw [Addr.add_mid];exact Xz wq (r.cells xa2 xc2).toArray 103 j u (by simpa using hu))) (Qz.one r xa2 xc2) (by unfold maxLen;omega) (by omega) (by simp;omega) ?_;intro v6 w6 hown6 hgr6 _;have kw6:K_ w2 w6:=kept_of_grown (KQ.trans (by repeat (first | (with_reducible exact K_.refl _) | apply K_.alloc | apply K_.drewN | apply K_.drew))) (by omega) (ownsRow_kept' HOq.out (by repeat (first | (with_reducible exact K_.refl _) | apply K_.alloc | apply K_.drewN | apply K_.drew))) hgr6;have HO6:=Kz hown6;clear hown6 hgr6)
       go_meet
       have e:putA r (po,pd) x= (po++ [r],true):= (by unfold putA;rw [if_pos];have h3:=HCb.out;cases pd <;> cases hbl:Op.bytesLess x.name.toList r.name.toList <;> simp [hbl] at h3⊢)
       rw [e]
       exact ⟨rfl,_,(by rw [List.length_append];exact HO6.out),HP.out.snoc HTs.out HTx.out HTp.out,kw6⟩
     case rest=>
      obtain ⟨rfl,xs2,hown,hP,KT⟩:=hcut
      obtain ⟨wt,rfl⟩: ∃wt,wt=wc:= ⟨_,rfl⟩
      have hql: (putA r (po,pd) x).1.length<=po.length+1:=by unfold putA;split <;> simp
      have HSk2:Hid (putK l r (k+1)=putB r (putA r (po,pd) x) x):=HSk.out
      obtain ⟨q,hq⟩: ∃q,q=putA r (po,pd) x:= ⟨_,rfl⟩
      rw [<-hq] at hown hP hql HSk2⊢
      obtain ⟨qo,qd⟩:=q
      dsimp only at hown hP hql
      dsimp only
      have HPt:=Kz hP
      have HOt:=Kz hown
      clear hP hown hq r0 r1 r2 r3 r4 r5 r6 rz HSk HP HOw HOq HCb
      obtain ⟨r0,r1,r2,r3,r4,r5,r6⟩:= (HBx.out.kept KT).all
      have rz:= (HBx.out.kept KT).row.lt
      have hzt:=KT.size
      obtain ⟨hb,c0,c1,c2,c3,c4,c5,c6⟩:=HC.out wt KT
      clear r1 r2 r3 r4 r5 r6 c1 c2 c3 c4 c5 c6
      cases hbe: (x.name.toList == r.name.toList)
      ·have hpb:putB r (qo,qd) x= (qo++ [x],qd):=by unfold putB;rw [hbe];rfl
       have HPb:=Kz hpb
       clear hpb
       go_upto_region 10 with fail
       go_quiet (fail)
       obtain ⟨wv,hwv⟩: ∃wv,wv=wt.drewN nq:= ⟨_,rfl⟩
       rw [<-hwv]
       have KV:K_ w2 wv:= (by rw [hwv];exact KT.drewN _)
       have HOv:Hid (wv.ownsRow w2.heap.size 103 7 u5 qo.length xs2):= (by rw [hwv];exact HOt.out)
       clear r0 rz hwv c0 hb
       obtain ⟨hb,c0,c1,c2,c3,c4,c5,c6⟩:=HC.out wv KV
       have hzv:=KV.size
       go_wp2_with (at_builtin;refine wpList_append_own _ rfl (.tmp 44) (.tmp 49) 51 rfl w2.heap.size 103 ino _ 7 80 Tryz.underlying51 hn0 hn1 hn2 hn3 rfl (by decide) _ qo.length _ rfl (ownsRow_kept' HOv.out (by repeat (first | (with_reducible exact K_.refl _) | apply K_.alloc | apply K_.drewN | apply K_.drew))) ⟨wv.heap.size,0,none⟩ 1 1 (x.cells xa ca) rfl rfl (fun j u hu=> (by rw [Addr.add_mid];exact Xz wv (x.cells xa ca).toArray 103 j u (by simpa using hu))) (Qz.one x xa ca) (by unfold maxLen;omega) (by omega) (by simp;omega) ?_;intro v6 w6 hown6 hgr6 _;have kw6:K_ w2 w6:=kept_of_grown (KV.trans (by repeat (first | (with_reducible exact K_.refl _) | apply K_.alloc | apply K_.drewN | apply K_.drew))) (by omega) (ownsRow_kept' HOv.out (by repeat (first | (with_reducible exact K_.refl _) | apply K_.alloc | apply K_.drewN | apply K_.drew))) hgr6;have HO6:=Kz hown6;clear hown6 hgr6)
       go_roundw
       case rel=> exact ⟨k+1,by omega,by go_num,by rw [HSk2.out,HPb.out],by rw [HSk2.out,HPb.out];exact ⟨_,(by rw [List.length_append];exact HO6.out),HPt.out.snoc HTk.out HXk.out HPq.out,kw6⟩⟩
       case measure=> simp [intOf];omega
      ·have hpb:putB r (qo,qd) x= (qo,qd):=by unfold putB;rw [hbe];rfl
       have HPb:=Kz hpb
       clear hpb
       go_upto_region 10 with fail
       go_quiet (fail)
       go_wp2_with fail
       go_roundw
       case rel=> exact ⟨k+1,by omega,by go_num,by rw [HSk2.out,HPb.out],by rw [HSk2.out,HPb.out];exact ⟨xs2,HOt.out,HPt.out,KT.drewN _⟩⟩
       case measure=> simp [intOf];omega
   ·have hkl:k=l.length:=by omega
    subst hkl
    have HE:=Kz (put_end (r:=r) HAs.out)
    rw [<-HPk.out] at HE
    cases pd
    ·go_wp2_with (at_builtin;refine wpList_append_own _ rfl (.tmp 53) (.tmp 55) 51 rfl w2.heap.size 103 ino _ 7 80 Tryz.underlying51 hn0 hn1 hn2 hn3 rfl (by decide) _ po.length _ rfl (ownsRow_kept' HOw.out (by repeat (first | (with_reducible exact K_.refl _) | apply K_.alloc | apply K_.drewN | apply K_.drew))) ⟨wr.heap.size,0,none⟩ 1 1 (r.cells xa2 xc2) rfl rfl (fun j u hu=> (by rw [Addr.add_mid];exact Xz wr (r.cells xa2 xc2).toArray 103 j u (by simpa using hu))) (Qz.one r xa2 xc2) (by unfold maxLen;omega) (by omega) (by simp;omega) ?_;intro v6 w6 hown6 hgr6 _;have kw6:K_ w2 w6:=kept_of_grown (KWR.trans (by repeat (first | (with_reducible exact K_.refl _) | apply K_.alloc | apply K_.drewN | apply K_.drew))) (by omega) (ownsRow_kept' HOw.out (by repeat (first | (with_reducible exact K_.refl _) | apply K_.alloc | apply K_.drewN | apply K_.drew))) hgr6;have HO6:=Kz hown6;clear hown6 hgr6)
     go_ret
     have e:insX l r=po++ [r]:=by rw [<-HE.out];rfl
     rw [e]
     exact ⟨v6,rfl,⟨w2,_,HK2.out,kw6,(by rw [List.length_append];exact HO6.out),HP.out.snoc HTs.out HTx.out HTp.out⟩,HK2.out.trans kw6⟩
    ·go_wp2_with fail
     go_ret
     have e:insX l r=po:=by rw [<-HE.out];rfl
     rw [e]
     exact ⟨_,rfl,⟨w2,xs,HK2.out,KWR,HOw.out,HP.out⟩,HK2.out.trans KWR⟩
