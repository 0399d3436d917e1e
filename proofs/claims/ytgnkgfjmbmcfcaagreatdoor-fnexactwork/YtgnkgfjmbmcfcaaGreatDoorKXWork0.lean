import Derived.Test.YtgnkgfjmbmcfcaaGreatDoorKXDone
set_option maxRecDepth 100000
set_option maxHeartbeats 25600000
namespace Go.Proofs.YtgnkgfjmbmcfcaaGreatDoor
open Go.RowKit
def PlanKept (w w':World):Prop:=w.heap.size<=w'.heap.size∧∀b,TypeAt w b 33->w'.heap[b]? =w.heap[b]?
theorem PlanKept.trans {w u v:World} (h:PlanKept w u) (g:PlanKept u v):PlanKept w v:= ⟨Nat.le_trans h.1 g.1,fun b hb=> by
 have e:=h.2 b hb
 obtain ⟨cur,fr,e2⟩:=hb
 exact (g.2 b ⟨cur,fr,e.trans e2⟩).trans e⟩
theorem PlanKept.refl (w:World):PlanKept w w:= ⟨Nat.le_refl _,fun _ _=> rfl⟩
theorem PlanKept.of_but {P:Nat->Prop} {w u:World} (h:But P w u) (hP: ∀b,TypeAt w b 33->¬P b):PlanKept w u:= ⟨h.size,fun b hb=> h.block b (by obtain ⟨_,_,e⟩:=hb;exact heap_lt e) (hP b hb)⟩
theorem PlanKept.of_kept {w u:World} (h:K_ w u):PlanKept w u:= .of_but (P:=fun _=> False) (.of_kept h) (fun _ _=> id)
theorem ShopM.planBut {c:ShopC} {S:Shop} {D:ShopD} {w u:World} (h:ShopM c S D w) (k:But (fun x=> x=c.hb) w u):PlanKept w u:= .of_but k (fun _ hb=> type_ne hb h.row.type (by decide))
theorem asc_place {l:List Qz} (h:AscX l) {k j:Nat} (hk:k < l.length) (hj:j < l.length) (e: (l.getD k Qz.zero).name= (l.getD j Qz.zero).name):k=j:=by
 have hp:=List.pairwise_iff_getElem.1 h
 simp only [List.getD,List.getElem?_eq_getElem hk,List.getElem?_eq_getElem hj,Option.getD_some] at e
 rcases Nat.lt_trichotomy k j with hl | hl | hl
 ·have:=hp k j hk hj hl
  rw [e] at this
  exact absurd this (lessX_irrefl _)
 ·exact hl
 ·have:=hp j k hj hk hl
  rw [e] at this
  exact absurd this (lessX_irrefl _)
theorem ShopM.runAt {c:ShopC} {S:Shop} {D:ShopD} {w:World} (h:ShopM c S D w) (hg:GoodL c.Kj S.T) (hk:ShopK c) {n:ByteArray} {r:Qz} (hr:Qj S.T n=some r): ∃(k rb ro:Nat),k < S.T.length∧D.d=some ⟨rb,ro,none⟩∧rb < w.heap.size∧w.cell? ⟨rb,ro+k * 7+5,none⟩=some (.int .i64 r.Zj)∧
  ∀u,K_ w u->Calls Tryz.prog 52 #[.agg #[.slice D.ra c.Kk.length D.rc,.slice D.d S.T.length D.dc],.string n] u fun e w'=> e= .returned (.int .i64 (k:Int))∧K_ u w':=by
 obtain ⟨h1,h2⟩:=env_mem hr
 obtain ⟨k,hk',e⟩:=List.getElem_of_mem h1
 have e':S.T.getD k Qz.zero=r:=by simp only [List.getD,List.getElem?_eq_getElem hk',Option.getD_some,e]
 obtain ⟨rb,ro,xa,xc,ed,_,hb,hc,_⟩:=h.run k hk'
 rw [e'] at hc
 refine ⟨k,rb,ro,hk',ed,hb,hc 5 _ rfl,fun u ku=> ?_⟩
 refine (l4At_place u D.ra c.Kk.length D.rc D.d D.dc S.T n (by have:=hg.len;have:=hk.len;omega) ((h.kept ku).run.runs)).mono ?_
 rintro e w' ⟨⟨q,rfl,hq⟩,kq⟩
 rcases hq with ⟨k',hk1,rfl,_,hk3⟩ | ⟨_,hk1⟩
 ·exact ⟨by rw [asc_place hg.asc hk1 hk' (by rw [hk3,e',h2])],kq⟩
 ·rw [hr] at hk1
  cases hk1
theorem shopSpent_any {c:ShopC} {S:Shop} {w:World} (hA:ShopA c S w) (hk:ShopK c):
  Calls Tryz.prog 23 #[.pointer (some ⟨c.hb,0,none⟩)] w fun e w'=> e= .returned (.tuple #[])∧∃S',Spt8 (Q_ c.Kj) S S'∧ShopA c S' w'∧PlanKept w w':=by
 obtain ⟨hb,hhb⟩: ∃hb,hb=c.hb:= ⟨_,rfl⟩
 have HHB:=Kz hhb
 have HK:=Kz hk
 have HA:=Kz hA
 rw [<-hhb]
 clear hA hk hhb
 go_enter Tryz.func23,Tryz.ntmps23
 go_wp2_with fail
 go_loopg [2] (potL c.Kj S.T+1) (fun gg x2 wr=> ∃(b:Bool) (S1:Shop),x2= .bool b∧Hid (gg=potL c.Kj S1.T+ (if b=true then 1 else 0))∧Hid (ShopA c S1 wr)∧Hid (∀A,Spt8 (Q_ c.Kj) S1 A->Spt8 (Q_ c.Kj) S A)∧Hid (b=false->∀n,¬Sp (Q_ c.Kj) S1 n)∧Hid (PlanKept w wr))
 case atStart=> exact ⟨true,S,rfl,rfl,HA,fun _ h=> h,(fun h=> by cases h),.refl w⟩
 case round=>
  obtain ⟨b,S1,rfl,Hgg,HA1,HG,HNs,HPk⟩:=hrel
  cases b
  ·go_wp2_with fail
   go_end0
   exact ⟨rfl,S1,HG.out _ (.stop (HNs.out trivial)),HA1.out,HPk.out⟩
  clear HNs
  obtain ⟨D1,hI1⟩:=HA1.out
  have HI:=Kz hI1
  have HRdy:=Kz (fun u (k:K_ wr u)=> (hI1.mem.kept k).ready hI1.live.good HK.out)
  have Zz:Hid (∀u,K_ wr u->u.cell? ⟨hb,0,none⟩=some (.slice c.a c.Kj.length c.cap)∧u.cell? ⟨hb,1,none⟩=some (.slice D1.ra c.Kk.length D1.rc)∧u.cell? ⟨hb,2,none⟩=some (.slice D1.d S1.T.length D1.dc)):=fun u k=> by
   have hm:= (hI1.mem.kept k).at
   rw [HHB.out]
   exact ⟨hm.1,hm.2.1,hm.2.2.1⟩
  clear hI1 HA1
  go_wp2_with fail
  refine Qx.region (by kernel_rfl) (fun u=> u.cell? ⟨hb,0,none⟩=some (.slice c.a c.Kj.length c.cap)∧u.cell? ⟨hb,1,none⟩=some (.slice D1.ra c.Kk.length D1.rc)∧u.cell? ⟨hb,2,none⟩=some (.slice D1.d S1.T.length D1.dc)) 9 (Zz.out _ (K_.refl wr).drew) (fun Z_=> ?_)
  have KD:K_ wr wr.drew:= (K_.refl wr).drew
  generalize hwd:wr.drew=wd at Z_ KD⊢
  clear hwd
  refine Qx.tk 0 Z_ ?_
  refine Qx.tk 1 Z_ ?_
  refine Qx.tk 2 Z_ ?_
  refine Qx.tk 3 Z_ ?_
  refine Qx.tk 4 Z_ ?_
  refine Qx.tk 5 Z_ ?_
  refine Qx.tk 6 Z_ ?_
  refine Qx.tk 7 Z_ ?_
  refine Qx.nx 8 (fun K hK=> ?_)
  rw [if_pos (by rfl)]
  go_simp
  go_at_call 51
  refine (HRdy.out _ KD).mono ?_
  rintro e w1 ⟨⟨nsa,nsc,ns,rfl,hns,nso⟩,k10⟩
  have k1:=KD.trans k10
  have Hns:=Kz hns
  have Hnso:=Kz (owns_base (base':=wr.heap.size) nso KD.size)
  clear k10 hns nso KD
  dsimp only
  refine hK.out _ _ (fun _=> Zz.out _ k1) ?_
  clear hK K Z_
  try simp only [Act.put,upA,upB,upC]
  refine Qx.nx 9 (fun K hK=> ?_)
  rw [if_pos (by rfl)]
  go_simp
  refine hK.out _ _ (fun h=> absurd rfl h) ?_
  clear hK K
  try simp only [Act.put,upA,upB,upC]
  refine Qx.dn ?_
  have hnl:ns.length<=60:=by
   have h1:=Hns.out.len
   have h2:=HI.out.live.good.len
   have h3:=HK.out.len
   omega
  have HMem:=Kz (fun m=> Hns.out.ready HI.out.live.sane.ok.asc m)
  have HAsc:=Kz (Hns.out.asc HI.out.live.sane.ok.asc)
  clear HRdy Zz Hns
  go_wp2_with fail
  go_loopg [2,4] (ns.length+1) (fun gk x2 x4 wi=> ∃(b:Bool) (i:Nat),x2= .bool b∧x4= .int .i64 (i:Int)∧i<=ns.length∧((b=false∧i+gk=ns.length+1∧Hid (K_ w1 wi)∧Hid (∀m∈ns.take i,¬Sp (Q_ c.Kj) S1 m))∨(b=true∧Hid (∃nm,Least (Sp (Q_ c.Kj) S1) lessX nm∧ShopA c (doneS (Q_ c.Kj) S1 nm (S1.cause nm)) wi)∧Hid (PlanKept w wi))))
  case atStart=> exact ⟨false,0,rfl,rfl,Nat.zero_le _,.inl ⟨rfl,by omega,K_.refl _,fun m hm=> by simp at hm⟩⟩
  case round=>
   obtain ⟨b,i,rfl,rfl,hil,hcase⟩:=hrel
   obtain ⟨wi,rfl⟩: ∃wi,wi=wr:= ⟨_,rfl⟩
   rcases hcase with ⟨rfl,hgk,HKi,HNo⟩ | ⟨rfl,HDn,HPd⟩
   rotate_left
   ·obtain ⟨nm,hle,hAd⟩:=HDn.out
    have HLe:=Kz hle
    have HAd:=Kz hAd
    have HPot:=Kz (pot_done HI.out.live.good (j:=S1.cause nm) hle.1.ready)
    clear hle hAd HDn
    by_cases hlt: (i:Int) < (ns.length:Int)
    ·go_wp2_with fail
     go_roundg (potL c.Kj (doneS (Q_ c.Kj) S1 nm (S1.cause nm)).T+1)
     case measure=> have h:=Hgg.out;have h2:=HPot.out;simp only [if_true] at h;omega
     case rel=> exact ⟨true,_,rfl,rfl,HAd,Kz (fun A h=> HG.out A (.go HLe.out h)),Kz (fun h=> by cases h),HPd⟩
    ·go_wp2_with fail
     go_roundg (potL c.Kj (doneS (Q_ c.Kj) S1 nm (S1.cause nm)).T+1)
     case measure=> have h:=Hgg.out;have h2:=HPot.out;simp only [if_true] at h;omega
     case rel=> exact ⟨true,_,rfl,rfl,HAd,Kz (fun A h=> HG.out A (.go HLe.out h)),Kz (fun h=> by cases h),HPd⟩
   have HKw:=Kz (k1.trans HKi.out)
   by_cases hlt:i < ns.length
   rotate_left
   ·have hni: ¬((i:Int) < (ns.length:Int)):=by omega
    have HNone:Hid (∀n,¬Sp (Q_ c.Kj) S1 n):=fun n hn=> HNo.out n (by rw [show i=ns.length by omega,List.take_length];exact (HMem.out n).2 hn.ready) hn
    go_wp2_with fail
    go_roundg (potL c.Kj S1.T)
    case measure=> have h:=Hgg.out;simp only [if_true] at h;omega
    case rel=> exact ⟨false,S1,rfl,rfl,Kz ⟨D1,HI.out.kept HKw.out⟩,HG,Kz (fun _=> HNone.out),Kz (HPk.out.trans (.of_kept HKw.out))⟩
   have hii: (i:Int) < (ns.length:Int):=by omega
   obtain ⟨_,_,ey,hys⟩:=owned_strs (ownsRow_kept' Hnso.out HKi.out)
   simp only [Value.slice.injEq,true_and] at ey
   rw [<-ey.1] at hys
   clear ey
   obtain ⟨yb,yo,eya,hyb,hyc0⟩:=hys i hlt
   subst eya
   obtain ⟨y,hy⟩: ∃y,y=ns[i]:= ⟨_,rfl⟩
   have HY:Hid (ns[i]=y):=hy.symm
   have hyc:wi.cell? ⟨yb,yo+i,none⟩=some (.string y):=by rw [hyc0,hy];simp [List.getD,hlt]
   have hrdy:Rdy (Q_ c.Kj) S1 y:= (HMem.out y).1 (by rw [hy];exact List.getElem_mem hlt)
   have hIi:=HI.out.kept HKw.out
   obtain ⟨r,hr,hcan⟩:=id hrdy
   obtain ⟨k,rb,ro,hkl,hd,hrb,hvc,hat⟩:=hIi.mem.runAt hIi.live.good HK.out hr
   obtain ⟨vs,hvs⟩: ∃vs,vs=r.Zj:= ⟨_,rfl⟩
   rw [<-hvs] at hvc
   have hm:=hIi.mem.at
   rw [hd] at hm hat
   rw [<-HHB.out] at hm
   have hbi:hb < wi.heap.size:=by rw [HHB.out];exact hIi.mem.row.lt
   have HS7:Hid (∀u,K_ wi u->u.cell? ⟨hb,1,none⟩=some (.slice D1.ra c.Kk.length D1.rc)∧u.cell? ⟨hb,2,none⟩=some (.slice (some ⟨rb,ro,none⟩) S1.T.length D1.dc)∧u.cell? ⟨yb,yo+i,none⟩=some (.string y)∧u.cell? ⟨rb,ro+k * 7+5,none⟩=some (.int .i64 vs)):=fun u ku=> ⟨(ku.cell hbi).trans hm.2.1,(ku.cell hbi).trans hm.2.2.1,(ku.cell hyb).trans hyc,(ku.cell hrb).trans hvc⟩
   have HAt:=Kz hat
   have HIi:=Kz hIi
   have HRd:=Kz hrdy
   have HSpI:Hid (Sp (Q_ c.Kj) S1 y↔vs=20):=by
    show _↔_
    rw [hvs]
    constructor
    ·rintro ⟨x,h1,_,h3⟩
     rw [hr] at h1
     cases h1
     exact h3
    ·exact fun e=> ⟨r,hr,hcan,e⟩
   have hkL:S1.T.length<=60:=hIi.len HK.out
   have hkI: (k:Int) < (S1.T.length:Int):=by omega
   clear hy hys hyc0 hat hIi hrdy hr hcan hvc hvs hm hyc hd
   cases h20: (vs == 20)
   ·have HNs:Hid (¬Sp (Q_ c.Kj) S1 y):=fun h=> by
     have:=HSpI.out.1 h
     rw [this] at h20
     simp at h20
    go_wp2_with fail
    refine Qx.region (by kernel_rfl) (fun u=> u.cell? ⟨hb,1,none⟩=some (.slice D1.ra c.Kk.length D1.rc)∧u.cell? ⟨hb,2,none⟩=some (.slice (some ⟨rb,ro,none⟩) S1.T.length D1.dc)∧u.cell? ⟨yb,yo+i,none⟩=some (.string y)∧u.cell? ⟨rb,ro+k * 7+5,none⟩=some (.int .i64 vs)) 17 (HS7.out _ (K_.refl wi).drew) (fun Z_=> ?_)
    have KD:K_ wi wi.drew:= (K_.refl wi).drew
    generalize hwd:wi.drew=wd at Z_ KD⊢
    clear hwd
    refine Qx.tk 0 Z_ ?_
    refine Qx.tk 1 Z_ ?_
    refine Qx.tk 2 Z_ ?_
    refine Qx.tk 3 Z_ ?_
    refine Qx.tk 4 Z_ ?_
    refine Qx.tk 5 Z_ ?_
    refine Qx.tk 6 Z_ ?_
    refine Qx.tk 7 Z_ ?_
    refine Qx.tk 8 Z_ ?_
    refine Qx.tk 9 Z_ ?_
    refine Qx.tk 10 Z_ ?_
    refine Qx.tk 11 Z_ ?_
    refine Qx.tk 12 Z_ ?_
    refine Qx.nx 13 (fun K hK=> ?_)
    rw [if_pos (by rfl)]
    go_simp
    go_at_call 52
    refine (HAt.out _ KD).mono ?_
    rintro e w5 ⟨rfl,k5⟩
    have K5:=KD.trans k5
    clear k5 KD
    dsimp only
    refine hK.out _ _ (fun _=> HS7.out _ K5) ?_
    clear hK K Z_
    try simp only [Act.put,upA,upB,upC]
    have Z_:=HS7.out _ K5
    refine Qx.tk 14 Z_ ?_
    refine Qx.tk 15 Z_ ?_
    refine Qx.tk 16 Z_ ?_
    refine Qx.nx 17 (fun K hK=> ?_)
    rw [if_pos (by rfl)]
    go_simp
    refine hK.out _ _ (fun h=> absurd rfl h) ?_
    clear hK K
    try simp only [Act.put,upA,upB,upC]
    refine Qx.dn ?_
    go_wp2_with fail
    go_roundg (gk - 1)
    case measure=> omega
    case rel=>
     refine ⟨false,i+1,rfl,by go_num,by omega,.inl ⟨rfl,by omega,Kz (HKi.out.trans K5),Kz (fun m hm=> ?_)⟩⟩
     rw [List.take_succ_eq_append_getElem hlt,HY.out] at hm
     rcases List.mem_append.1 hm with h | h
     ·exact HNo.out m h
     ·rw [List.mem_singleton.1 h]
      exact HNs.out
   ·have HSp:Hid (Sp (Q_ c.Kj) S1 y):=HSpI.out.2 (by simpa using h20)
    have HLe:Hid (Least (Sp (Q_ c.Kj) S1) lessX y):=by
     refine ⟨HSp.out,fun m hm hne=> ?_⟩
     have h1:= (HMem.out m).2 hm.ready
     obtain ⟨q,hq,e⟩:=List.getElem_of_mem h1
     have hp:=List.pairwise_iff_getElem.1 HAsc.out
     rcases Nat.lt_trichotomy q i with hl | hl | hl
     ·refine absurd hm (HNo.out m ?_)
      rw [<-e]
      have:q < (ns.take i).length:=by rw [List.length_take];omega
      have e2: (ns.take i)[q]=ns[q]:=List.getElem_take
      rw [<-e2]
      exact List.getElem_mem this
     ·subst hl
      exact absurd (e.symm.trans HY.out) hne
     ·have:=hp i q hlt hq hl
      rw [HY.out,e] at this
      exact this
    go_wp2_with fail
    refine Qx.region (by kernel_rfl) (fun u=> u.cell? ⟨hb,1,none⟩=some (.slice D1.ra c.Kk.length D1.rc)∧u.cell? ⟨hb,2,none⟩=some (.slice (some ⟨rb,ro,none⟩) S1.T.length D1.dc)∧u.cell? ⟨yb,yo+i,none⟩=some (.string y)∧u.cell? ⟨rb,ro+k * 7+5,none⟩=some (.int .i64 vs)) 17 (HS7.out _ (K_.refl wi).drew) (fun Z_=> ?_)
    have KD:K_ wi wi.drew:= (K_.refl wi).drew
    generalize hwd:wi.drew=wd at Z_ KD⊢
    clear hwd
    refine Qx.tk 0 Z_ ?_
    refine Qx.tk 1 Z_ ?_
    refine Qx.tk 2 Z_ ?_
    refine Qx.tk 3 Z_ ?_
    refine Qx.tk 4 Z_ ?_
    refine Qx.tk 5 Z_ ?_
    refine Qx.tk 6 Z_ ?_
    refine Qx.tk 7 Z_ ?_
    refine Qx.tk 8 Z_ ?_
    refine Qx.tk 9 Z_ ?_
    refine Qx.tk 10 Z_ ?_
    refine Qx.tk 11 Z_ ?_
    refine Qx.tk 12 Z_ ?_
    refine Qx.nx 13 (fun K hK=> ?_)
    rw [if_pos (by rfl)]
    go_simp
    go_at_call 52
    refine (HAt.out _ KD).mono ?_
    rintro e w5 ⟨rfl,k5⟩
    have K5:=KD.trans k5
    clear k5 KD
    dsimp only
    refine hK.out _ _ (fun _=> HS7.out _ K5) ?_
    clear hK K Z_
    try simp only [Act.put,upA,upB,upC]
    have Z_:=HS7.out _ K5
    refine Qx.tk 14 Z_ ?_
    refine Qx.tk 15 Z_ ?_
    refine Qx.tk 16 Z_ ?_
    refine Qx.nx 17 (fun K hK=> ?_)
    rw [if_pos (by rfl)]
    go_simp
    refine hK.out _ _ (fun h=> absurd rfl h) ?_
    clear hK K
    try simp only [Act.put,upA,upB,upC]
    refine Qx.dn ?_
    have HI5:=Kz (HIi.out.kept K5)
    have HBec:Hid (∀u,K_ w5 u->Calls Tryz.prog 53 #[.pointer (some ⟨hb,0,none⟩),.string y] u fun e w'=> e= .returned (.int .i64 (S1.cause y))∧w'=u):=fun u ku=> by
     have h:=because_any (HI5.out.kept ku).mem y (by have:=HI5.out.bud;omega)
     rw [HI5.out.cau y HRd.out,<-HHB.out] at h
     exact h
    have HDn:=Kz (fun u (ku:K_ w5 u)=> shopDone_any (HI5.out.kept ku) HK.out HRd.out (fun hb=> HI5.out.live.nsp y hb HSp.out) (HI5.out.live.sane.caus y))
    rw [<-HHB.out] at HDn
    have HS8:Hid (∀u,K_ w5 u->u.cell? ⟨yb,yo+i,none⟩=some (.string y)):=fun u ku=> (HS7.out u (K5.trans ku)).2.2.1
    have HPk5:Hid (PlanKept w w5):=HPk.out.trans (.of_kept (HKw.out.trans K5))
    clear Z_ h20 HSpI
    go_wp2_with fail
    refine Qx.region (by kernel_rfl) (fun u=> u.cell? ⟨yb,yo+i,none⟩=some (.string y)) 11 (HS8.out _ (K_.refl w5).drew) (fun Z_=> ?_)
    have KD:K_ w5 w5.drew:= (K_.refl w5).drew
    generalize hwd:w5.drew=wd at Z_ KD⊢
    clear hwd
    refine Qx.tk 0 Z_ ?_
    refine Qx.tk 1 Z_ ?_
    refine Qx.tk 2 Z_ ?_
    refine Qx.tk 3 Z_ ?_
    refine Qx.tk 4 Z_ ?_
    refine Qx.tk 5 Z_ ?_
    refine Qx.tk 6 Z_ ?_
    refine Qx.tk 7 Z_ ?_
    refine Qx.tk 8 Z_ ?_
    refine Qx.tk 9 Z_ ?_
    refine Qx.nx 10 (fun K hK=> ?_)
    rw [if_pos (by rfl)]
    go_simp
    go_at_call 53
    refine (HBec.out _ KD).mono ?_
    rintro e w6 ⟨rfl,rfl⟩
    dsimp only
    refine hK.out _ _ (fun _=> HS8.out _ KD) ?_
    clear hK K Z_
    try simp only [Act.put,upA,upB,upC]
    refine Qx.nx 11 (fun K hK=> ?_)
    rw [if_pos (by rfl)]
    go_simp
    go_at_call 50
    refine (HDn.out _ KD).mono ?_
    rintro e w7 ⟨rfl,hA7,hB7⟩
    have HA7:=Kz hA7
    have HB7:=Kz ((But.of_kept KD).trans hB7)
    clear hA7 hB7 KD
    dsimp only
    refine hK.out _ _ (fun h=> absurd rfl h) ?_
    clear hK K
    try simp only [Act.put,upA,upB,upC]
    refine Qx.dn ?_
    go_wp2_with fail
    go_roundg 0
    case measure=> omega
    case rel=> exact ⟨true,i+1,rfl,by go_num,by omega,.inr ⟨rfl,Kz ⟨y,HLe.out,HA7.out⟩,Kz (HPk5.out.trans (HI5.out.mem.planBut (by rw [<-HHB.out];exact HB7.out)))⟩⟩
theorem ShopM.nodeAt {c:ShopC} {S:Shop} {D:ShopD} {w:World} (h:ShopM c S D w) (hk:ShopK c) {n:ByteArray} (hn: (Q_ c.Kj n).isSome=true): ∃(k nb no:Nat),k < c.Kj.length∧c.a=some ⟨nb,no,none⟩∧nb < c.w0.heap.size∧w.cell? ⟨nb,no+k * 3+1,none⟩=some (.int .i64 (costW (Q_ c.Kj) n))∧
  ∀u,K_ c.w0 u->Calls Tryz.prog 55 #[.agg #[.slice c.a c.Kj.length c.cap],.string n] u fun e w'=> e= .returned (.int .i64 (k:Int))∧K_ u w':=by
 obtain ⟨A,hA⟩:=Option.isSome_iff_exists.1 hn
 obtain ⟨k,hk',h2,h3,rfl⟩:=acts_first hA
 obtain ⟨nb,no,cs,ea,hb,hc,xa,xc,rfl,_⟩:=hk.nodes k hk'
 refine ⟨k,nb,no,hk',ea,hb, ?_,fun u ku=> ?_⟩
 ·have h4:= (h.kw.cell (o:=no+k * 3+1) hb).trans (hc 1 _ rfl)
  unfold costW
  rw [hA]
  exact h4
 ·refine (l2At_place u c.a c.cap c.Kj n (by have:=hk.len;omega) (hk.nodes.kept ku)).mono ?_
  rintro e w' ⟨⟨q,rfl,hq⟩,kq⟩
  rcases hq with ⟨k',hk1,rfl,_,hk3,hk4⟩ | ⟨_,hk1⟩
  ·refine ⟨?_,kq⟩
   rcases Nat.lt_trichotomy k k' with hl | hl | hl
   ·exact absurd h2 (hk4 k hl)
   ·rw [hl]
   ·exact absurd hk3 (h3 k' hl)
  ·rw [hA] at hk1
   cases hk1
def SaidS (P:ByteArray->Prop) (e:Ending):Prop:= ∃bs,e= .returned (.string bs)∧P bs
def BestAt (W:Acts) (S:Shop) (l:List ByteArray) (bs:ByteArray) (co:Int):Prop:=
 (bs= ⟨#[]⟩∧co=0∧∀m∈l,¬Of W S m)∨(bs∈l∧Of W S bs∧co=costW W bs∧∀m∈l,Of W S m->m≠bs->Costs W bs m)
section
variable {W : Acts} {S : Shop} {l : List ByteArray} {bs y : ByteArray} {co : Int}
theorem BestAt.no (h:BestAt W S l bs co) (hn: ¬Of W S y):BestAt W S (l++ [y]) bs co:=by
 rcases h with ⟨h1,h2,h3⟩ | ⟨h1,h2,h3,h4⟩
 ·refine .inl ⟨h1,h2,fun m hm=> ?_⟩
  rcases List.mem_append.1 hm with g | g
  ·exact h3 m g
  ·rw [List.mem_singleton.1 g];exact hn
 ·refine .inr ⟨List.mem_append.2 (.inl h1),h2,h3,fun m hm ho hne=> ?_⟩
  rcases List.mem_append.1 hm with g | g
  ·exact h4 m g ho hne
  ·rw [List.mem_singleton.1 g] at ho;exact absurd ho hn
theorem BestAt.yes (h:BestAt W S l bs co) (hn:Of W S y) (hc:co < costW W y):BestAt W S (l++ [y]) y (costW W y):=by
 refine .inr ⟨List.mem_append.2 (.inr (List.mem_singleton.2 rfl)),hn,rfl,fun m hm ho hne=> .inl ?_⟩
 rcases List.mem_append.1 hm with g | g
 ·rcases h with ⟨h1,h2,h3⟩ | ⟨h1,h2,h3,h4⟩
  ·exact absurd ho (h3 m g)
  ·by_cases e:m=bs
   ·rw [e,<-h3];exact hc
   ·rcases h4 m g ho e with x | ⟨x,_⟩ <;> omega
 ·exact absurd (List.mem_singleton.1 g) hne
theorem BestAt.less (h:BestAt W S l bs co) (hc: ¬co < costW W y) (hp:0 < costW W y) (ha: ∀m∈l,lessX m y):BestAt W S (l++ [y]) bs co:=by
 rcases h with ⟨h1,h2,h3⟩ | ⟨h1,h2,h3,h4⟩
 ·omega
 ·refine .inr ⟨List.mem_append.2 (.inl h1),h2,h3,fun m hm ho hne=> ?_⟩
  rcases List.mem_append.1 hm with g | g
  ·exact h4 m g ho hne
  ·rw [List.mem_singleton.1 g]
   by_cases e:costW W y < costW W bs
   ·exact .inl e
   ·exact .inr ⟨by omega,ha bs h1⟩
end
theorem shopChoice_any {c:ShopC} {S:Shop} {D:ShopD} {w:World} (h:ShopI c S D w) (hk:ShopK c):
  Calls Tryz.prog 54 #[.pointer (some ⟨c.hb,0,none⟩)] w fun e w'=> SaidS (fun bs=> (bs= ⟨#[]⟩∧∀n,¬Of (Q_ c.Kj) S n)∨(0 < bs.size∧Least (Of (Q_ c.Kj) S) (Costs (Q_ c.Kj)) bs)) e∧K_ w w':=by
 obtain ⟨hb,hhb⟩: ∃hb,hb=c.hb:= ⟨_,rfl⟩
 obtain ⟨bsb,hbsb⟩: ∃bsb,bsb=c.bsb:= ⟨_,rfl⟩
 obtain ⟨wk,hwk⟩: ∃wk,wk=c.wk:= ⟨_,rfl⟩
 have HHB:=Kz hhb
 have HBS:=Kz hbsb
 have HWk:=Kz hwk
 have hwk6:wk<=60:=by rw [hwk];exact hk.wk.2
 have HK:=Kz hk
 have HI:=Kz h
 have HRdy:=Kz (fun u (k:K_ w u)=> (h.mem.kept k).ready h.live.good hk)
 have Zz:Hid (∀u,K_ w u->u.cell? ⟨hb,0,none⟩=some (.slice c.a c.Kj.length c.cap)∧u.cell? ⟨hb,1,none⟩=some (.slice D.ra c.Kk.length D.rc)∧u.cell? ⟨hb,2,none⟩=some (.slice D.d S.T.length D.dc)):=fun u k=> by
  have hm:= (h.mem.kept k).at
  rw [hhb]
  exact ⟨hm.1,hm.2.1,hm.2.2.1⟩
 rw [<-hhb]
 clear h hk hhb hbsb hwk
 go_enter Tryz.func54,Tryz.ntmps54
 go_wp2_with fail
 refine Qx.region (by kernel_rfl) (fun u=> u.cell? ⟨hb,0,none⟩=some (.slice c.a c.Kj.length c.cap)∧u.cell? ⟨hb,1,none⟩=some (.slice D.ra c.Kk.length D.rc)∧u.cell? ⟨hb,2,none⟩=some (.slice D.d S.T.length D.dc)) 9 (Zz.out _ (K_.refl w).drew) (fun Z_=> ?_)
 have KD:K_ w w.drew:= (K_.refl w).drew
 generalize hwd:w.drew=wd at Z_ KD⊢
 clear hwd
 refine Qx.tk 0 Z_ ?_
 refine Qx.tk 1 Z_ ?_
 refine Qx.tk 2 Z_ ?_
 refine Qx.tk 3 Z_ ?_
 refine Qx.tk 4 Z_ ?_
 refine Qx.tk 5 Z_ ?_
 refine Qx.tk 6 Z_ ?_
 refine Qx.tk 7 Z_ ?_
 refine Qx.nx 8 (fun K hK=> ?_)
 rw [if_pos (by rfl)]
 go_simp
 go_at_call 51
 refine (HRdy.out _ KD).mono ?_
 rintro e w1 ⟨⟨nsa,nsc,ns,rfl,hns,nso⟩,k10⟩
 have k1:=KD.trans k10
 have Hns:=Kz hns
 have Hnso:=Kz (owns_base (base':=w.heap.size) nso KD.size)
 clear k10 hns nso KD
 dsimp only
 refine hK.out _ _ (fun _=> Zz.out _ k1) ?_
 clear hK K Z_
 try simp only [Act.put,upA,upB,upC]
 refine Qx.nx 9 (fun K hK=> ?_)
 rw [if_pos (by rfl)]
 go_simp
 refine hK.out _ _ (fun h=> absurd rfl h) ?_
 clear hK K
 try simp only [Act.put,upA,upB,upC]
 refine Qx.dn ?_
 have HMem:=Kz (fun m=> Hns.out.ready HI.out.live.sane.ok.asc m)
 have HAsc:=Kz (Hns.out.asc HI.out.live.sane.ok.asc)
 have hnl:ns.length<=60:=by
  have h1:=Hns.out.len
  have h2:=HI.out.live.good.len
  have h3:=HK.out.len
  omega
 clear HRdy Zz Hns
 go_wp2_with fail
 go_loopg [3,4,6] ns.length (fun gk x3 x4 x6 wr=> ∃(i:Nat) (bs:ByteArray) (co:Int),x3= .string bs∧x4= .int .i64 co∧x6= .int .i64 (i:Int)∧i+gk=ns.length∧Hid (K_ w1 wr)∧Hid (BestAt (Q_ c.Kj) S (ns.take i) bs co))
 case atStart=> exact ⟨0,⟨#[]⟩,0,rfl,rfl,rfl,by omega,K_.refl _,.inl ⟨rfl,rfl,fun m hm=> by simp at hm⟩⟩
 case round=>
  obtain ⟨i,bs,co,rfl,rfl,rfl,hgk,HKr,HBt⟩:=hrel
  by_cases hlt:i < ns.length
  rotate_left
  ·have hni: ¬((i:Int) < (ns.length:Int)):=by omega
   go_wp2_with fail
   go_ret
   refine ⟨⟨bs,rfl, ?_⟩,k1.trans HKr.out⟩
   have hB:=HBt.out
   rw [show i=ns.length by omega,List.take_length] at hB
   rcases hB with ⟨h1,h2,h3⟩ | ⟨h1,h2,h3,h4⟩
   ·exact .inl ⟨h1,fun n hn=> h3 n ((HMem.out n).2 hn.1) hn⟩
   ·obtain ⟨r,hr,_⟩:=h2.1
    exact .inr ⟨(HI.out.cost HK.out hr).2.2.1,h2,fun m hm hne=> h4 m ((HMem.out m).2 hm.1) hm hne⟩
  have hii: (i:Int) < (ns.length:Int):=by omega
  obtain ⟨_,_,ey,hys⟩:=owned_strs (ownsRow_kept' Hnso.out HKr.out)
  simp only [Value.slice.injEq,true_and] at ey
  rw [<-ey.1] at hys
  clear ey
  obtain ⟨yb,yo,eya,hyb,hyc0⟩:=hys i hlt
  subst eya
  obtain ⟨y,hy⟩: ∃y,y=ns[i]:= ⟨_,rfl⟩
  have HY:Hid (ns[i]=y):=hy.symm
  have hyc:wr.cell? ⟨yb,yo+i,none⟩=some (.string y):=by rw [hyc0,hy];simp [List.getD,hlt]
  have hrdy:Rdy (Q_ c.Kj) S y:= (HMem.out y).1 (by rw [hy];exact List.getElem_mem hlt)
  obtain ⟨r,hr,hcan⟩:=id hrdy
  have HCost:=Kz (HI.out.cost HK.out hr)
  obtain ⟨k,nb,no,hkl,ha,hnb,hvc,hat⟩:= (HI.out.kept (k1.trans HKr.out)).mem.nodeAt HK.out (HI.out.live.sane.ok.known y r hr)
  have HNode:Hid (c.a=some ⟨nb,no,none⟩):=ha
  rw [ha] at hat
  have HVc:=Kz hvc
  have HAt0:=Kz hat
  have HKl:=Kz hkl
  have HNb:=Kz hnb
  have HYc:=Kz hyc
  have HRd:=Kz hrdy
  obtain ⟨wo,rfl⟩: ∃wo,wo=wr:= ⟨_,rfl⟩
  clear hy hys hyc0 hat hrdy hr hcan hvc ha hyc hkl hnb
  go_wp2_with fail
  go_loopg [7,8] wk (fun gk x7 x8 wr=> ∃(q:Nat) (b:Bool),x7= .bool b∧x8= .int .i64 (q:Int)∧q+gk=wk∧Hid (K_ wo wr)∧Hid (b=true↔∃(p:Nat) (e:EffD),p < q∧S.busy[p]? =some (some e)∧e.name=y))
  case atStart=> exact ⟨0,false,rfl,rfl,by omega,K_.refl _,Kz ⟨(fun h=> by cases h),fun ⟨p,e,hp,_⟩=> absurd hp (Nat.not_lt_zero _)⟩⟩
  case round=>
   obtain ⟨q,b,rfl,rfl,hqg,HKi,HB⟩:=hrel
   obtain ⟨wi,rfl⟩: ∃wi,wi=wr:= ⟨_,rfl⟩
   have HIi:=Kz (HI.out.kept (k1.trans (HKr.out.trans HKi.out)))
   have hm3:=HIi.out.mem.at.2.2.2.1
   rw [<-HHB.out,<-HBS.out,<-HWk.out] at hm3
   have hbi:hb < wi.heap.size:=by rw [HHB.out];exact HIi.out.mem.row.lt
   have hyi:wi.cell? ⟨yb,yo+i,none⟩=some (.string y):= (HKi.out.cell hyb).trans HYc.out
   by_cases hq:q < wk
   ·have hqi: (q:Int) < (wk:Int):=by omega
    obtain ⟨x,hx⟩: ∃x,x=S.busy.getD q none:= ⟨_,rfl⟩
    have hbz:=HIi.out.mem.bsy q (by rw [<-HWk.out];exact hq)
    rw [<-hx,<-HBS.out] at hbz
    have hbsl:bsb < wi.heap.size:=by rw [HBS.out];exact HIi.out.mem.brow.lt
    obtain ⟨z,hz⟩: ∃z,z= (match x with | some e=> e.name | none=> (⟨#[]⟩:ByteArray)):= ⟨_,rfl⟩
    have hzc:wi.cell? ⟨bsb,q * 3,none⟩=some (.string z):=by
     have:=hbz 0 (.string z) (by rw [hz];cases x <;> rfl)
     exact this
    have HZ:Hid ((∃e:EffD,S.busy[q]? =some (some e)∧e.name=y)↔z=y):=by
     have hl:q < S.busy.length:=by rw [HIi.out.mem.len,<-HWk.out];exact hq
     have hxg:S.busy[q]? =some x:=by rw [hx];simp [List.getD,hl]
     show _↔_
     rw [hxg,hz]
     constructor
     ·rintro ⟨e,h1,h2⟩
      simp only [Option.some.injEq] at h1
      rw [h1]
      exact h2
     ·intro h
      cases x with
      | some e=> exact ⟨e,rfl,h⟩
      | none=>
       have:=HCost.out.2.2.1
       rw [<-h] at this
       exact absurd this (by decide)
    have HNext:Hid (∀b2:Bool,b2= (b || (z.toList == y.toList))->(b2=true↔∃(p:Nat) (e:EffD),p < q+1∧S.busy[p]? =some (some e)∧e.name=y)):=fun b2 hb2=> by
     rw [hb2,Bool.or_eq_true,HB.out]
     constructor
     ·rintro (⟨p,e,h1,h2⟩ | h)
      ·exact ⟨p,e,by omega,h2⟩
      ·obtain ⟨e,h1⟩:=HZ.out.2 (has_beq h)
       exact ⟨q,e,by omega,h1⟩
     ·rintro ⟨p,e,h1,h2,h3⟩
      by_cases hp:p < q
      ·exact .inl ⟨p,e,hp,h2,h3⟩
      ·obtain rfl:p=q:=by omega
       rw [HZ.out.1 ⟨e,h2,h3⟩]
       exact .inr (by simp)
    clear hbz hx hz
    cases b
    ·cases hzy: (z.toList == y.toList)
     ·go_wp2_with fail
      go_region
      all_goals
       go_wp2_with fail
       go_roundg (gk - 1)
       case measure=> omega
       case rel=> exact ⟨q+1,false,rfl,by go_num,by omega,Kz ((HKi.out).drew),Kz (HNext.out false (by rw [hzy];rfl))⟩
     ·go_wp2_with fail
      go_region
      all_goals
       go_wp2_with fail
       go_roundg (gk - 1)
       case measure=> omega
       case rel=> exact ⟨q+1,true,rfl,by go_num,by omega,Kz ((HKi.out).drew),Kz (HNext.out true (by rw [hzy];rfl))⟩
    ·go_wp2_with fail
     go_region
     all_goals
      go_wp2_with fail
      go_roundg (gk - 1)
      case measure=> omega
      case rel=> exact ⟨q+1,true,rfl,by go_num,by omega,Kz ((HKi.out).drew),Kz (HNext.out true rfl)⟩
   ·have hnq: ¬((q:Int) < (wk:Int)):=by omega
    have HBz:Hid (b=true↔Bz S y):=by
     show _↔_
     rw [HB.out]
     constructor
     ·rintro ⟨p,e,_,h2⟩
      exact ⟨p,e,h2⟩
     ·rintro ⟨p,e,h2⟩
      refine ⟨p,e, ?_,h2⟩
      have:= (List.getElem?_eq_some_iff.1 h2.1).1
      rw [HIi.out.mem.len,<-HWk.out] at this
      omega
    have hm0:=HIi.out.mem.at.1
    rw [<-HHB.out,HNode.out] at hm0
    have hnbi:nb < wi.heap.size:=Nat.lt_of_lt_of_le HNb.out HIi.out.mem.kw.size
    have HS12:Hid (∀u,K_ wi u->u.cell? ⟨hb,0,none⟩=some (.slice (some ⟨nb,no,none⟩) c.Kj.length c.cap)∧u.cell? ⟨yb,yo+i,none⟩=some (.string y)∧u.cell? ⟨nb,no+k * 3+1,none⟩=some (.int .i64 (costW (Q_ c.Kj) y))):=fun u ku=> ⟨(ku.cell hbi).trans hm0,(ku.cell (Nat.lt_of_lt_of_le hyb HKi.out.size)).trans hyi,(ku.cell hnbi).trans ((HKi.out.cell (Nat.lt_of_lt_of_le HNb.out (HI.out.kept (k1.trans HKr.out)).mem.kw.size)).trans HVc.out)⟩
    have HAt:=Kz (fun u (ku:K_ wi u)=> HAt0.out u (HIi.out.mem.kw.trans ku))
    have hkI: (k:Int) < (c.Kj.length:Int):=by have:=HKl.out;omega
    have hweb:c.Kj.length<=60:=HK.out.len
    have HAscI:Hid (∀m∈ns.take i,lessX m y):=fun m hm=> by
     obtain ⟨p,hp,e⟩:=List.getElem_of_mem hm
     rw [List.length_take] at hp
     have:=List.pairwise_iff_getElem.1 HAsc.out p i (by omega) hlt (by omega)
     rw [<-e,List.getElem_take,<-HY.out]
     exact this
    clear hm0 hyi
    obtain ⟨cy,hcy⟩: ∃cy,cy=costW (Q_ c.Kj) y:= ⟨_,rfl⟩
    rw [<-hcy] at HS12
    have HCy:=Kz hcy
    clear hcy
    cases b
    ·have HOf:Hid (Of (Q_ c.Kj) S y):= ⟨HRd.out,fun h=> by have:=HBz.out.2 h;cases this⟩
     by_cases hgt:co < cy
     ·go_wp2_with fail
      refine Qx.region (by kernel_rfl) (fun u=> u.cell? ⟨hb,0,none⟩=some (.slice (some ⟨nb,no,none⟩) c.Kj.length c.cap)∧u.cell? ⟨yb,yo+i,none⟩=some (.string y)∧u.cell? ⟨nb,no+k * 3+1,none⟩=some (.int .i64 cy)) 18 (HS12.out _ ((K_.refl wi).drew)) (fun Z_=> ?_)
      have KD:K_ wi wi.drew:= (K_.refl wi).drew
      generalize hwd:wi.drew=wd at Z_ KD⊢
      clear hwd
      refine Qx.tk 0 Z_ ?_
      refine Qx.tk 1 Z_ ?_
      refine Qx.tk 2 Z_ ?_
      refine Qx.tk 3 Z_ ?_
      refine Qx.tk 4 Z_ ?_
      refine Qx.tk 5 Z_ ?_
      refine Qx.tk 6 Z_ ?_
      refine Qx.tk 7 Z_ ?_
      refine Qx.tk 8 Z_ ?_
      refine Qx.tk 9 Z_ ?_
      refine Qx.tk 10 Z_ ?_
      refine Qx.tk 11 Z_ ?_
      refine Qx.tk 12 Z_ ?_
      refine Qx.nx 13 (fun K hK=> ?_)
      rw [if_pos (by rfl)]
      go_simp
      go_at_call 55
      refine (HAt.out _ KD).mono ?_
      rintro e w5 ⟨rfl,k5⟩
      have K5:=KD.trans k5
      clear k5 KD
      dsimp only
      refine hK.out _ _ (fun _=> HS12.out _ K5) ?_
      clear hK K Z_
      try simp only [Act.put,upA,upB,upC]
      have Z_:=HS12.out _ K5
      refine Qx.tk 14 Z_ ?_
      refine Qx.tk 15 Z_ ?_
      refine Qx.tk 16 Z_ ?_
      refine Qx.tk 17 Z_ ?_
      refine Qx.nx 18 (fun K hK=> ?_)
      rw [if_pos (by rfl)]
      go_simp
      refine hK.out _ _ (fun h=> absurd rfl h) ?_
      clear hK K
      try simp only [Act.put,upA,upB,upC]
      refine Qx.dn ?_
      have hy5:=Z_.2.1
      clear Z_
      go_wp2_with fail
      go_roundg (ns.length - (i+1))
      case measure=> omega
      case rel=> exact ⟨i+1,y,cy,rfl,rfl,by go_num,by omega,Kz (HKr.out.trans (HKi.out.trans K5)),Kz (by rw [List.take_succ_eq_append_getElem hlt,HY.out,HCy.out];exact HBt.out.yes HOf.out (by rw [<-HCy.out];exact hgt))⟩
     ·go_wp2_with fail
      refine Qx.region (by kernel_rfl) (fun u=> u.cell? ⟨hb,0,none⟩=some (.slice (some ⟨nb,no,none⟩) c.Kj.length c.cap)∧u.cell? ⟨yb,yo+i,none⟩=some (.string y)∧u.cell? ⟨nb,no+k * 3+1,none⟩=some (.int .i64 cy)) 18 (HS12.out _ ((K_.refl wi).drew)) (fun Z_=> ?_)
      have KD:K_ wi wi.drew:= (K_.refl wi).drew
      generalize hwd:wi.drew=wd at Z_ KD⊢
      clear hwd
      refine Qx.tk 0 Z_ ?_
      refine Qx.tk 1 Z_ ?_
      refine Qx.tk 2 Z_ ?_
      refine Qx.tk 3 Z_ ?_
      refine Qx.tk 4 Z_ ?_
      refine Qx.tk 5 Z_ ?_
      refine Qx.tk 6 Z_ ?_
      refine Qx.tk 7 Z_ ?_
      refine Qx.tk 8 Z_ ?_
      refine Qx.tk 9 Z_ ?_
      refine Qx.tk 10 Z_ ?_
      refine Qx.tk 11 Z_ ?_
      refine Qx.tk 12 Z_ ?_
      refine Qx.nx 13 (fun K hK=> ?_)
      rw [if_pos (by rfl)]
      go_simp
      go_at_call 55
      refine (HAt.out _ KD).mono ?_
      rintro e w5 ⟨rfl,k5⟩
      have K5:=KD.trans k5
      clear k5 KD
      dsimp only
      refine hK.out _ _ (fun _=> HS12.out _ K5) ?_
      clear hK K Z_
      try simp only [Act.put,upA,upB,upC]
      have Z_:=HS12.out _ K5
      refine Qx.tk 14 Z_ ?_
      refine Qx.tk 15 Z_ ?_
      refine Qx.tk 16 Z_ ?_
      refine Qx.tk 17 Z_ ?_
      refine Qx.nx 18 (fun K hK=> ?_)
      rw [if_pos (by rfl)]
      go_simp
      refine hK.out _ _ (fun h=> absurd rfl h) ?_
      clear hK K
      try simp only [Act.put,upA,upB,upC]
      refine Qx.dn ?_
      clear Z_
      go_wp2_with fail
      go_roundg (ns.length - (i+1))
      case measure=> omega
      case rel=> exact ⟨i+1,bs,co,rfl,rfl,by go_num,by omega,Kz (HKr.out.trans (HKi.out.trans K5)),Kz (by rw [List.take_succ_eq_append_getElem hlt,HY.out];exact HBt.out.less (by rw [<-HCy.out];omega) HCost.out.1 HAscI.out)⟩
    ·have HOf:Hid (¬Of (Q_ c.Kj) S y):=fun h=> h.2 (HBz.out.1 rfl)
     go_wp2_with fail
     refine Qx.region (by kernel_rfl) (fun u=> u.cell? ⟨hb,0,none⟩=some (.slice (some ⟨nb,no,none⟩) c.Kj.length c.cap)∧u.cell? ⟨yb,yo+i,none⟩=some (.string y)∧u.cell? ⟨nb,no+k * 3+1,none⟩=some (.int .i64 cy)) 18 (HS12.out _ ((K_.refl wi).drew)) (fun Z_=> ?_)
     have KD:K_ wi wi.drew:= (K_.refl wi).drew
     generalize hwd:wi.drew=wd at Z_ KD⊢
     clear hwd
     refine Qx.tk 0 Z_ ?_
     refine Qx.tk 1 Z_ ?_
     refine Qx.tk 2 Z_ ?_
     refine Qx.tk 3 Z_ ?_
     refine Qx.tk 4 Z_ ?_
     refine Qx.tk 5 Z_ ?_
     refine Qx.tk 6 Z_ ?_
     refine Qx.tk 7 Z_ ?_
     refine Qx.tk 8 Z_ ?_
     refine Qx.tk 9 Z_ ?_
     refine Qx.tk 10 Z_ ?_
     refine Qx.tk 11 Z_ ?_
     refine Qx.tk 12 Z_ ?_
     refine Qx.nx 13 (fun K hK=> ?_)
     rw [if_pos (by rfl)]
     go_simp
     go_at_call 55
     refine (HAt.out _ KD).mono ?_
     rintro e w5 ⟨rfl,k5⟩
     have K5:=KD.trans k5
     clear k5 KD
     dsimp only
     refine hK.out _ _ (fun _=> HS12.out _ K5) ?_
     clear hK K Z_
     try simp only [Act.put,upA,upB,upC]
     have Z_:=HS12.out _ K5
     refine Qx.tk 14 Z_ ?_
     refine Qx.tk 15 Z_ ?_
     refine Qx.tk 16 Z_ ?_
     refine Qx.tk 17 Z_ ?_
     refine Qx.nx 18 (fun K hK=> ?_)
     rw [if_pos (by rfl)]
     go_simp
     refine hK.out _ _ (fun h=> absurd rfl h) ?_
     clear hK K
     try simp only [Act.put,upA,upB,upC]
     refine Qx.dn ?_
     clear Z_
     go_wp2_with fail
     go_roundg (ns.length - (i+1))
     case measure=> omega
     case rel=> exact ⟨i+1,bs,co,rfl,rfl,by go_num,by omega,Kz (HKr.out.trans (HKi.out.trans K5)),Kz (by rw [List.take_succ_eq_append_getElem hlt,HY.out];exact HBt.out.no HOf.out)⟩
theorem ShopM.planOwn {c:ShopC} {S:Shop} {D:ShopD} {w u:World} (h:ShopM c S D w) (k:But (fun x=> D.own c S x) w u):PlanKept w u:= .of_but k (fun b hb hx=> by
 rcases hx with e | e | e | e
 ·exact type_ne hb h.row.type (by decide) e
 ·exact type_ne hb h.brow.type (by decide) e
 ·exact type_ne hb (Yz h.slt e) (by decide) rfl
 ·exact type_ne hb (Yz h.bak e) (by decide) rfl)
theorem name_some {n:ByteArray} (h:0 < n.size): (n.toList == ([]:List UInt8))=false:=by
 cases h2: (n.toList == ([]:List UInt8))
 ·rfl
 ·have h3:n.toList=[]:=by simpa using h2
  rw [ByteArray.toList_eq] at h3
  have h4:n.size=0:=by
   show n.data.size=0
   rw [<-Array.length_toList,h3]
   rfl
  omega
theorem busy_one (n:ByteArray) (x y:Int): (#[Value.string n,.int .i64 x,.int .i64 y]).all (·.oneCell')=true:=by simp [Value.oneCell']
theorem Tryz.infoIntX : (Tryz.prog.info? 3).map (fun i=> (i.zero,i.size,i.bytes))=some (some (.int .i64 0),1,8):=by kernel_rfl
def BegEnd (c:ShopC) (S:Shop) (t:Int) (w w':World) (e:Ending):Prop:= ∃S',Says e (¬Idle8 S')∧Beg8 (Q_ c.Kj) t S S'∧ShopA c S' w'∧PlanKept w w'
structure BegW (c:ShopC) (S:Shop) (t:Int) (w:World) (q:Nat) (b:Bool) (S1:Shop) (wr:World):Prop where
 shop:ShopA c S1 wr
 goes: ∀A,Beg8 (Q_ c.Kj) t S1 A->Beg8 (Q_ c.Kj) t S A
 full: (∀p,p < q->S1.busy[p]?≠some none)∨∀n,¬Of (Q_ c.Kj) S1 n
 works:b=true↔∃(p:Nat) (e:EffD),p < q∧S1.busy[p]? =some (some e)
 spt: ∀n,¬Sp (Q_ c.Kj) S1 n
 len:S1.slots.length<=100000+q
 plan:PlanKept w wr
section
variable {c : ShopC} {S S1 : Shop} {t : Int} {w wr wu : World} {q : Nat} {b : Bool}
theorem BegW.works1 (h:BegW c S t w q b S1 wr) {e:EffD} (he:S1.busy[q]? =some (some e)):BegW c S t w (q+1) true S1 wr:=by
 refine ⟨h.shop,h.goes, ?_,⟨fun _=> ⟨q,e,by omega,he⟩,fun _=> rfl⟩,h.spt,by have:=h.len;omega,h.plan⟩
 rcases h.full with g | g
 ·refine .inl fun p hp=> ?_
  by_cases e2:p=q
  ·rw [e2,he];simp
  ·exact g p (by omega)
 ·exact .inr g
theorem BegW.idle1 (h:BegW c S t w q b S1 wr) (he:S1.busy[q]? =some none) (hn: ∀n,¬Of (Q_ c.Kj) S1 n) (k:K_ wr wu):BegW c S t w (q+1) b S1 wu:=by
 obtain ⟨D,hI⟩:=h.shop
 refine ⟨⟨D,hI.kept k⟩,h.goes,.inr hn, ?_,h.spt,by have:=h.len;omega,h.plan.trans (.of_kept k)⟩
 rw [h.works]
 constructor
 ·rintro ⟨p,e,h1,h2⟩
  exact ⟨p,e,by omega,h2⟩
 ·rintro ⟨p,e,h1,h2⟩
  refine ⟨p,e, ?_,h2⟩
  by_cases e2:p=q
  ·rw [e2,he] at h2;simp at h2
  ·omega
theorem BegW.begun (h:BegW c S t w q b S1 wr) {n:ByteArray} (he:S1.busy[q]? =some none) (hn:Least (Of (Q_ c.Kj) S1) (Costs (Q_ c.Kj)) n) (hs:ShopA c (beginS (Q_ c.Kj) S1 t q n) wu) (k:PlanKept wr wu):BegW c S t w (q+1) true (beginS (Q_ c.Kj) S1 t q n) wu:=by
 have hl: ∀p,p < q->S1.busy[p]?≠some none:=by
  rcases h.full with g | g
  ·exact g
  ·exact absurd hn.1 (g n)
 have hq:q < S1.busy.length:= (List.getElem?_eq_some_iff.1 he).1
 have hbq: (beginS (Q_ c.Kj) S1 t q n).busy[q]? =some (some ⟨n,t+costW (Q_ c.Kj) n,S1.slots.length⟩):=by
  show (S1.busy.set q _)[q]? =_
  rw [List.getElem?_set_self hq]
 refine ⟨hs,fun A hA=> h.goes A (.go he hl hn hA),.inl fun p hp=> ?_,⟨fun _=> ⟨q,_,by omega,hbq⟩,fun _=> rfl⟩,h.spt, ?_,h.plan.trans k⟩
 ·by_cases e2:p=q
  ·rw [e2,hbq];simp
  ·show (S1.busy.set q _)[p]?≠_
   rw [List.getElem?_set_ne (fun x=> e2 x.symm)]
   exact hl p (by omega)
 ·show (S1.slots++ [_]).length<=_
  rw [List.length_append]
  have:=h.len
  simp only [List.length_singleton]
  omega
end
theorem shopBegin_any {c:ShopC} {S:Shop} {w:World} {t:Int} (hA:ShopA c S w) (hk:ShopK c) (hs: ∀n,¬Sp (Q_ c.Kj) S n) (ht:0<=t∧t<=1000000) (hsl:S.slots.length<=100000):
  Calls Tryz.prog 24 #[.pointer (some ⟨c.hb,0,none⟩),.int .i64 t] w fun e w'=> BegEnd c S t w w' e:=by
 obtain ⟨is,hs0,hs1,hs2,hs3⟩:=xInfo_parts Tryz.infoSlot
 obtain ⟨ii,hi0,hi1,hi2,hi3⟩:=xInfo_parts Tryz.infoIntX
 obtain ⟨hb,hhb⟩: ∃hb,hb=c.hb:= ⟨_,rfl⟩
 obtain ⟨bsb,hbsb⟩: ∃bsb,bsb=c.bsb:= ⟨_,rfl⟩
 obtain ⟨wk,hwk⟩: ∃wk,wk=c.wk:= ⟨_,rfl⟩
 have HHB:=Kz hhb
 have HBS:=Kz hbsb
 have HWk:=Kz hwk
 have hwk6:wk<=60:=by rw [hwk];exact hk.wk.2
 have HK:=Kz hk
 have HIn:Hid (BegW c S t w 0 false S w):= ⟨hA,fun _ h=> h,.inl (fun p hp=> absurd hp (Nat.not_lt_zero _)),⟨(fun h=> by cases h),fun ⟨p,e,hp,_⟩=> absurd hp (Nat.not_lt_zero _)⟩,hs,by omega,.refl w⟩
 rw [<-hhb]
 clear hA hk hs hsl hhb hbsb hwk
 go_enter Tryz.func24,Tryz.ntmps24
 go_wp2_with fail
 go_loopg [5,6] wk (fun gk x5 x6 wr=> ∃(q:Nat) (b:Bool) (S1:Shop),x5= .bool b∧x6= .int .i64 (q:Int)∧q+gk=wk∧Hid (BegW c S t w q b S1 wr))
 case atStart=> exact ⟨0,false,S,rfl,rfl,by omega,HIn⟩
 case round=>
  obtain ⟨q,b,S1,rfl,rfl,hgk,HB⟩:=hrel
  obtain ⟨D1,hI1⟩:=HB.out.shop
  have hm3:=hI1.mem.at.2.2.2.1
  rw [<-HHB.out,<-HBS.out,<-HWk.out] at hm3
  have hbi:hb < wr.heap.size:=by rw [HHB.out];exact hI1.mem.row.lt
  have hbsl:bsb < wr.heap.size:=by rw [HBS.out];exact hI1.mem.brow.lt
  have HI:=Kz hI1
  clear hI1
  by_cases hq:q < wk
  rotate_left
  ·have hnq: ¬((q:Int) < (wk:Int)):=by omega
   have hqe:q=wk:=by omega
   have HEnd:Hid (b=true↔¬Idle8 S1):=by
    show _↔_
    rw [HB.out.works]
    constructor
    ·rintro ⟨p,e,_,h2⟩ hi
     exact hi p e h2
    ·intro hi
     by_cases hx: ∃(p:Nat) (e:EffD),p < q∧S1.busy[p]? =some (some e)
     ·exact hx
     ·refine absurd (fun p e hp=> hx ⟨p,e, ?_,hp⟩) hi
      have h1:= (List.getElem?_eq_some_iff.1 hp).1
      rw [HI.out.mem.len,<-HWk.out] at h1
      omega
   have HStop:Hid (Beg8 (Q_ c.Kj) t S S1):=by
    refine HB.out.goes _ (.stop ?_)
    rcases HB.out.full with g | g
    ·refine .inl fun p hp=> ?_
     have h1:= (List.getElem?_eq_some_iff.1 hp).1
     rw [HI.out.mem.len,<-HWk.out] at h1
     exact g p (by omega) hp
    ·exact .inr g
   cases b
   ·go_wp2_with fail
    go_ret
    exact ⟨S1,Says.no (fun h=> by have:=HEnd.out.2 h;cases this),HStop.out,⟨D1,HI.out⟩,HB.out.plan⟩
   ·go_wp2_with fail
    go_ret
    exact ⟨S1,Says.yes (HEnd.out.1 trivial),HStop.out,⟨D1,HI.out⟩,HB.out.plan⟩
  have hqi: (q:Int) < (wk:Int):=by omega
  have hbz:=HI.out.mem.bsy q (by rw [<-HWk.out];exact hq)
  rw [<-HBS.out] at hbz
  have hxl:S1.busy[q]? =some (S1.busy.getD q none):=by
   have hl:q < S1.busy.length:=by rw [HI.out.mem.len,<-HWk.out];exact hq
   simp [List.getD,hl]
  obtain ⟨x,hx⟩: ∃x,x=S1.busy.getD q none:= ⟨_,rfl⟩
  rw [<-hx] at hbz hxl
  have HXl:=Kz hxl
  clear hx hxl
  cases x with
  | some e=>
   have hzc:wr.cell? ⟨bsb,q * 3,none⟩=some (.string e.name):=hbz 0 _ rfl
   have hne: (e.name.toList == ([]:List UInt8))=false:=by
    obtain ⟨r,hr,_⟩:=HI.out.live.sane.rdy q e HXl.out
    exact name_some (HI.out.cost HK.out hr).2.2.1
   have hne2: (e.name.toList != ([]:List UInt8))=true:=by simp only [bne,hne];rfl
   clear hbz
   cases b
   ·go_wp2_with fail
    go_roundg (gk - 1)
    case measure=> omega
    case rel=> exact ⟨q+1,true,S1,rfl,by go_num,by omega,Kz (HB.out.works1 HXl.out)⟩
   ·go_wp2_with fail
    go_roundg (gk - 1)
    case measure=> omega
    case rel=> exact ⟨q+1,true,S1,rfl,by go_num,by omega,Kz (HB.out.works1 HXl.out)⟩
  | none=>
   have hzc:wr.cell? ⟨bsb,q * 3,none⟩=some (.string ⟨#[]⟩):=hbz 0 _ rfl
   have hch:=shopChoice_any HI.out HK.out
   rw [<-HHB.out] at hch
   have HCh:=Kz hch
   clear hbz hch
   go_wp2_with fail
   refine HCh.out.mono ?_
   rintro e w1 ⟨⟨nm,rfl,hcase⟩,k1⟩
   have HI1:=Kz (HI.out.kept k1)
   have hm31:w1.cell? ⟨hb,3,none⟩=some (.slice (some ⟨bsb,0,none⟩) wk wk):= (k1.cell hbi).trans hm3
   have hzc1:w1.cell? ⟨bsb,q * 3,none⟩=some (.string ⟨#[]⟩):= (k1.cell hbsl).trans hzc
   have HK1:=Kz k1
   clear hm3 hzc k1 HCh
   rcases hcase with ⟨rfl,hno⟩ | ⟨hsz,hle⟩
   ·have HNo:=Kz hno
    clear hno
    cases b
    ·go_wp2_with fail
     go_roundg (gk - 1)
     case measure=> omega
     case rel=> exact ⟨q+1,false,S1,rfl,by go_num,by omega,Kz (HB.out.idle1 HXl.out HNo.out HK1.out)⟩
    ·go_wp2_with fail
     go_roundg (gk - 1)
     case measure=> omega
     case rel=> exact ⟨q+1,true,S1,rfl,by go_num,by omega,Kz (HB.out.idle1 HXl.out HNo.out HK1.out)⟩
   ·have hnn:=name_some hsz
    have hnn2: (nm.toList != ([]:List UInt8))=true:=by simp only [bne,hnn];rfl
    have HLe:=Kz hle
    obtain ⟨r,hr,_⟩:=id hle.1.1
    have hcost:=HI1.out.cost HK.out hr
    have hkn:=HI1.out.live.sane.ok.known nm r hr
    obtain ⟨k,nb,no,hkl,ha,hnb,hvc,hat⟩:=HI1.out.mem.nodeAt HK.out hkn
    rw [ha] at hat
    have hm0:=HI1.out.mem.at.1
    have hm4:=HI1.out.mem.at.2.2.2.2.1
    rw [<-HHB.out] at hm0 hm4
    rw [ha] at hm0
    have hb1:=Nat.lt_of_lt_of_le hbi HK1.out.size
    have hnb1:nb < w1.heap.size:=Nat.lt_of_lt_of_le hnb HI1.out.mem.kw.size
    have HS8:Hid (∀u,K_ w1 u->u.cell? ⟨hb,3,none⟩=some (.slice (some ⟨bsb,0,none⟩) wk wk)∧u.cell? ⟨hb,0,none⟩=some (.slice (some ⟨nb,no,none⟩) c.Kj.length c.cap)∧u.cell? ⟨hb,4,none⟩=some (.slice D1.sa S1.slots.length D1.sc)∧u.cell? ⟨nb,no+k * 3+1,none⟩=some (.int .i64 (costW (Q_ c.Kj) nm))):=fun u ku=> ⟨(ku.cell hb1).trans hm31,(ku.cell hb1).trans hm0,(ku.cell hb1).trans hm4,(ku.cell hnb1).trans hvc⟩
    have HAt:=Kz (fun u (ku:K_ w1 u)=> hat u (HI1.out.mem.kw.trans ku))
    have hkI: (k:Int) < (c.Kj.length:Int):=by omega
    have hweb:c.Kj.length<=60:=HK.out.len
    have hadd:IntKind.i64.wrap (t+costW (Q_ c.Kj) nm)=t+costW (Q_ c.Kj) nm:=wrap_i64_in (by omega) (by omega)
    have hsl1:S1.slots.length<=100060:=by have:=HB.out.len;omega
    have hbk1:S1.back.length<=100060:=by rw [HI1.out.live.sane.back];exact hsl1
    have hcl1:D1.cl.length<=100000:=by have:=HI1.out.bud;omega
    have HBec0:Hid (lookC D1.cl nm=S1.cause nm):=HI1.out.cau nm hle.1.1
    clear hm0 hm4 hvc hat ha hr hle hcost hkn hm31 hzc1
    go_wp2_with fail
    refine Qx.rg 30 HS8.out fun wd KD Z_=> ?_
    refine Qx.tk 0 Z_ ?_
    refine Qx.tk 1 Z_ ?_
    refine Qx.tk 2 Z_ ?_
    refine Qx.tk 3 Z_ ?_
    refine Qx.tk 4 Z_ ?_
    refine Qx.tk 5 Z_ ?_
    refine Qx.tk 6 Z_ ?_
    refine Qx.tk 7 Z_ ?_
    refine Qx.tk 8 Z_ ?_
    refine Qx.tk 9 Z_ ?_
    refine Qx.tk 10 Z_ ?_
    refine Qx.tk 11 Z_ ?_
    refine Qx.tk 12 Z_ ?_
    refine Qx.tk 13 Z_ ?_
    refine Qx.tk 14 Z_ ?_
    refine Qx.tk 15 Z_ ?_
    refine Qx.tk 16 Z_ ?_
    refine Qx.tk 23 Z_ ?_
    refine Qx.tk 24 Z_ ?_
    refine Qx.tk 25 Z_ ?_
    refine Qx.tk 26 Z_ ?_
    refine Qx.tk 27 Z_ ?_
    refine Qx.nx 17 (fun K hK=> ?_)
    rw [if_pos (by rfl)]
    go_simp
    go_at_call 55
    refine (HAt.out _ KD).mono ?_
    rintro e w2 ⟨rfl,k2⟩
    have K2:=KD.trans k2
    clear k2 KD
    dsimp only
    refine hK.out _ _ (fun _=> HS8.out _ K2) ?_
    clear hK K Z_
    try simp only [Act.put,upA,upB,upC]
    have Z_:=HS8.out _ K2
    refine Qx.tk 18 Z_ ?_
    refine Qx.tk 19 Z_ ?_
    refine Qx.tk 20 Z_ ?_
    refine Qx.tk 21 Z_ ?_
    refine Qx.tk 22 Z_ ?_
    refine Qx.tk 28 Z_ ?_
    refine Qx.tk 29 Z_ ?_
    have HM2:=Kz (HI1.out.mem.kept K2)
    have HT3:Hid (w2.there bsb (q * 3) 3):=by rw [HBS.out];exact HM2.out.brow.row.there (o:=q * 3) (m:=3) (by rw [<-HWk.out];omega)
    clear Z_
    refine Qx.nx 30 (fun K hK=> ?_)
    rw [if_pos (by rfl)]
    refine wp_store_mid 98 _ _ rfl bsb (q * 3) #[.string nm,.int .i64 (t+costW (Q_ c.Kj) nm),.int .i64 (S1.slots.length:Int)] (by rfl) (by rfl) HT3.out (by kernel_rfl) (busy_one _ _ _) ?_
    refine hK.out _ _ (fun h=> absurd rfl h) ?_
    clear hK K
    try simp only [Act.put,upA,upB,upC]
    refine Qx.dn ?_
    have HM3:=Kz (HM2.out.worker (k:=q) (by rw [<-HWk.out];exact hq) (some ⟨nm,t+costW (Q_ c.Kj) nm,S1.slots.length⟩))
    have HP3:=Kz (HM2.out.planOwn (But.setCells (S:=fun x=> D1.own c S1 x) (g:=c.bsb) (.inr (.inl rfl)) (bzCells (some ⟨nm,t+costW (Q_ c.Kj) nm,S1.slots.length⟩)) (q * 3) (.of_kept (K_.refl w2))))
    have hwe:w2.setCells bsb (q * 3) [.string nm,.int .i64 (t+costW (Q_ c.Kj) nm),.int .i64 (S1.slots.length:Int)]=w2.setCells c.bsb (q * 3) (bzCells (some ⟨nm,t+costW (Q_ c.Kj) nm,S1.slots.length⟩)):=by rw [HBS.out];rfl
    rw [hwe]
    generalize hw3:w2.setCells c.bsb (q * 3) (bzCells (some ⟨nm,t+costW (Q_ c.Kj) nm,S1.slots.length⟩))=w3 at HM3 HP3⊢
    clear hw3 hwe HT3
    have hm4:=HM3.out.at.2.2.2.2.1
    rw [<-HHB.out] at hm4
    have hb3:hb < w3.heap.size:=by rw [HHB.out];exact HM3.out.row.lt
    have HKA:Hid (K_ w3 (w3.alloc (.cells #[.int .i64 t,.int .i64 (q:Int),.string nm] 109))):= (K_.refl _).alloc _
    have HOw:=Kz (ownsRow_kept' HM3.out.slt HKA.out)
    have HNw:Hid (∀j u,([.int .i64 t,.int .i64 (q:Int),.string nm]:List Value)[j]? =some u->(w3.alloc (.cells #[.int .i64 t,.int .i64 (q:Int),.string nm] 109)).cell? ((⟨w3.heap.size,0,none⟩:Addr).add j)=some u):=fun j u hu=> by rw [Addr.add_mid];exact Xz w3 #[.int .i64 t,.int .i64 (q:Int),.string nm] 109 j u hu
    have HOne:Hid (∀u∈([.int .i64 t,.int .i64 (q:Int),.string nm]:List Value),u.oneCell'=true):=fun u hu=> by
     simp only [List.mem_cons,List.not_mem_nil,or_false] at hu
     rcases hu with rfl | rfl | rfl <;> rfl
    have hbz:c.w0.heap.size<=(w3.alloc (.cells #[.int .i64 t,.int .i64 (q:Int),.string nm] 109)).heap.size:= (HM3.out.kept HKA.out).kw.size
    go_wp2_with (at_builtin;refine wpList_append_lies _ rfl (.tmp 64) (.tmp 69) 28 rfl c.w0.heap.size 109 is _ 3 32 Tryz.underlying28 hs0 hs1 hs2 hs3 rfl (by decide) (.slice D1.sa S1.slots.length D1.sc) S1.slots.length (slCells S1.slots) rfl HOw.out ⟨w3.heap.size,0,none⟩ 1 1 [.int .i64 t,.int .i64 (q:Int),.string nm] rfl rfl HNw.out HOne.out (by omega) (by unfold maxLen;omega) (by omega) hbz _ rfl ?_;intro g4 cap4 w4 hown hgr hat4 _;obtain ⟨hM4,f4⟩:=HM3.out.slotMore HKA.out (s:= ⟨t,q,nm⟩) hown hgr hat4;have kg:= (But.of_kept (S:=fun x=> (Value.slice D1.sa S1.slots.length D1.sc).ownBlock=some x) HKA.out).trans (.of_grown hgr (fun _ h=> h));have c4:w4.cell? ⟨hb,4,none⟩=some (.slice D1.sa S1.slots.length D1.sc):= (kg.cell hb3 (fun e=> (HM3.out.ne.2.1 _ e).1 HHB.out)).trans hm4;have hbz4:hb < w4.heap.size:=Nat.lt_of_lt_of_le hb3 kg.size;rw [<-HHB.out] at f4 hM4;have HM4:=Kz hM4;have HP4:Hid (PlanKept w3 (w4.setCell ⟨hb,4,none⟩ (.slice (some ⟨g4,0,none⟩) (S1.slots.length+1) cap4))):=HM3.out.planOwn ((kg.mono (fun _ _ e=> .inr (.inr (.inl e)))).set (p:= ⟨hb,4,none⟩) (.inl HHB.out) _);clear hown hgr hat4 hM4 kg)
    generalize hw5:w4.setCell ⟨hb,4,none⟩ (.slice (some ⟨g4,0,none⟩) (S1.slots.length+1) cap4)=w5 at HM4 HP4⊢
    clear hw5 c4 f4 hbz4 HKA HOw HNw HOne hbz hm4
    have HM5:=HM4
    have HBec:Hid (∀u,K_ w5 u->Calls Tryz.prog 53 #[.pointer (some ⟨hb,0,none⟩),.string nm] u fun e w'=> e= .returned (.int .i64 (S1.cause nm))∧w'=u):=fun u ku=> by
     have h:=because_any (HM5.out.kept ku) nm (by show D1.cl.length<=1000000;omega)
     rw [<-HHB.out] at h
     have e2:=HBec0.out
     rw [<-e2]
     exact h
    have hm5:=HM5.out.at.2.2.2.2.2.1
    rw [<-HHB.out] at hm5
    have hb5:hb < w5.heap.size:=by rw [HHB.out];exact HM5.out.row.lt
    have HS10:Hid (∀u,K_ w5 u->u.cell? ⟨hb,5,none⟩=some (.slice D1.ba S1.back.length D1.bc)):=fun u ku=> (ku.cell hb5).trans hm5
    clear hm5
    refine Qx.rg 12 HS10.out fun wd KD Z_=> ?_
    refine Qx.tk 0 Z_ ?_
    refine Qx.tk 1 Z_ ?_
    refine Qx.tk 2 Z_ ?_
    refine Qx.tk 3 Z_ ?_
    refine Qx.tk 4 Z_ ?_
    refine Qx.tk 5 Z_ ?_
    refine Qx.tk 6 Z_ ?_
    refine Qx.nx 7 (fun K hK=> ?_)
    rw [if_pos (by rfl)]
    go_simp
    go_at_call 53
    refine (HBec.out _ KD).mono ?_
    rintro e w6 ⟨rfl,hw6⟩
    rw [hw6]
    clear hw6 w6
    dsimp only
    refine hK.out _ _ (fun _=> HS10.out _ KD) ?_
    clear hK K Z_
    try simp only [Act.put,upA,upB,upC]
    have Z_:=HS10.out _ KD
    refine Qx.nx 8 (fun K hK=> ?_)
    rw [if_pos (by rfl)]
    go_simp
    have HKA:=Kz (KD.alloc (.cells #[.int .i64 (S1.cause nm)] 3))
    refine hK.out _ _ (fun _=> HS10.out _ HKA.out) ?_
    clear hK K Z_
    try simp only [Act.put,upA,upB,upC]
    have Z_:=HS10.out _ HKA.out
    have HOw:=Kz (ownsRow_kept' HM5.out.bak HKA.out)
    have HNw:Hid (∀j u,([.int .i64 (S1.cause nm)]:List Value)[j]? =some u->(wd.alloc (.cells #[.int .i64 (S1.cause nm)] 3)).cell? ((⟨wd.heap.size,0,none⟩:Addr).add j)=some u):=fun j u hu=> by rw [Addr.add_mid];exact Xz wd #[.int .i64 (S1.cause nm)] 3 j u hu
    have HOne:Hid (∀u∈([.int .i64 (S1.cause nm)]:List Value),u.oneCell'=true):=fun u hu=> by simp only [List.mem_cons,List.not_mem_nil,or_false] at hu;subst hu;rfl
    have HX3:Hid (c.w0.heap.size<=(wd.alloc (.cells #[.int .i64 (S1.cause nm)] 3)).heap.size):= (HM5.out.kept HKA.out).kw.size
    refine Qx.nx 9 (fun K hK=> ?_)
    rw [if_pos (by rfl)]
    refine wp_append_lies _ (.tmp 77) (.tmp 81) 56 rfl c.w0.heap.size 3 ii (.int .i64 0) 1 8 Tryz.underlying56 hi0 hi1 hi2 hi3 rfl (by decide) (.slice D1.ba S1.back.length D1.bc) S1.back.length _ rfl HOw.out ⟨wd.heap.size,0,none⟩ 1 1 [.int .i64 (S1.cause nm)] rfl rfl HNw.out HOne.out (by decide) (by unfold maxLen;omega) (by omega) HX3.out _ rfl ?_
    intro g7 cap7 w7 hown7 hgr7 hat7 _
    obtain ⟨hM7,f5⟩:=HM5.out.backMore (D:= { D1 with sa:=some ⟨g4,0,none⟩,sc:=cap4 }) HKA.out hown7 hgr7 hat7
    have kg:= (But.of_kept (S:=fun x=> (Value.slice D1.ba S1.back.length D1.bc).ownBlock=some x) HKA.out).trans (.of_grown hgr7 (fun _ h=> h))
    have c5:w7.cell? ⟨hb,5,none⟩=some (.slice D1.ba S1.back.length D1.bc):=by rw [HHB.out];exact (kg.cell HM5.out.row.lt (fun e=> (HM5.out.ne.2.2.1 _ e).1 rfl)).trans HM5.out.at.2.2.2.2.2.1
    have hbz7:hb < w7.heap.size:=by rw [HHB.out];exact Nat.lt_of_lt_of_le HM5.out.row.lt kg.size
    rw [<-HHB.out] at f5 hM7
    have HM7:=Kz hM7
    have HP7:Hid (PlanKept w5 (w7.setCell ⟨hb,5,none⟩ (.slice (some ⟨g7,0,none⟩) (S1.back.length+1) cap7))):=HM5.out.planOwn ((kg.mono (fun _ _ e=> .inr (.inr (.inr e)))).set (p:= ⟨hb,5,none⟩) (.inl HHB.out) _)
    clear hM7 kg hown7 hgr7 hat7
    refine hK.out _ _ (fun _=> c5) ?_
    clear hK K Z_
    try simp only [Act.put,upA,upB,upC]
    have Z_: (fun u:World=> u.cell? ⟨hb,5,none⟩=some (.slice D1.ba S1.back.length D1.bc)) w7:=c5
    refine Qx.tk 10 Z_ ?_
    refine Qx.tk 11 Z_ ?_
    clear Z_
    refine Qx.nx 12 (fun K hK=> ?_)
    rw [if_pos (by rfl)]
    go_simp
    refine hK.out _ _ (fun h=> absurd rfl h) ?_
    clear hK K
    try simp only [Act.put,upA,upB,upC]
    refine Qx.dn ?_
    generalize hw8:w7.setCell ⟨hb,5,none⟩ (.slice (some ⟨g7,0,none⟩) (S1.back.length+1) cap7)=w8 at HM7 HP7⊢
    clear hw8 c5 f5 hbz7
    have HM8:Hid (ShopM c (beginS (Q_ c.Kj) S1 t q nm) _ w8):=HM7
    have HS9:Hid (ShopA c (beginS (Q_ c.Kj) S1 t q nm) w8):= ⟨_,HM8.out,HI1.out.live.begin HXl.out HLe.out.1 HB.out.spt,HI1.out.cau,HI1.out.bud⟩
    have hm8:=HM8.out.at.2.2.2.1
    rw [<-HHB.out,<-HBS.out,<-HWk.out] at hm8
    have hz8:w8.cell? ⟨bsb,q * 3,none⟩=some (.string nm):=by
     have h:=HM8.out.bsy q (by rw [<-HWk.out];exact hq)
     have e2: (beginS (Q_ c.Kj) S1 t q nm).busy.getD q none=some ⟨nm,t+costW (Q_ c.Kj) nm,S1.slots.length⟩:=by
      have hl:q < S1.busy.length:= (List.getElem?_eq_some_iff.1 HXl.out).1
      show (S1.busy.set q _).getD q none=_
      simp [List.getD,hl]
     rw [e2,<-HBS.out] at h
     exact h 0 _ rfl
    have HP8:Hid (PlanKept wr w8):= (PlanKept.of_kept (HK1.out.trans K2)).trans (HP3.out.trans (HP4.out.trans HP7.out))
    cases b
    ·go_wp2_with fail
     go_roundg (gk - 1)
     case measure=> omega
     case rel=> exact ⟨q+1,true,_,rfl,by go_num,by omega,Kz (HB.out.begun HXl.out HLe.out HS9.out HP8.out)⟩
    ·go_wp2_with fail
     go_roundg (gk - 1)
     case measure=> omega
     case rel=> exact ⟨q+1,true,_,rfl,by go_num,by omega,Kz (HB.out.begun HXl.out HLe.out HS9.out HP8.out)⟩
theorem ends_list {b:List (Option EffD)} {t:Int}: ∀(l:List ByteArray),(∀m∈l,∃(k:Nat) (e:EffD),b[k]? =some (some e)∧e.fin=t∧e.name=m)->∃ps:List (Nat×EffD),ps.map (·.2.name)=l∧∀p∈ps,b[p.1]? =some (some p.2)∧p.2.fin=t
 | [],_=> ⟨[],rfl,fun _ h=> by cases h⟩
 | m :: l,h=> by
  obtain ⟨ps,h1,h2⟩:=ends_list l (fun x hx=> h x (List.mem_cons_of_mem _ hx))
  obtain ⟨k,e,h3,h4,h5⟩:=h m (List.mem_cons_self ..)
  refine ⟨(k,e) :: ps,by simp [h1,h5],fun p hp=> ?_⟩
  rcases List.mem_cons.1 hp with rfl | hp
  ·exact ⟨h3,h4⟩
  ·exact h2 p hp
theorem clear_snoc (b:List (Option EffD)) (ps:List (Nat×EffD)) (p:Nat×EffD):clearB b (ps++ [p])= (clearB b ps).set p.1 none:=by unfold clearB;rw [List.foldl_append];rfl
theorem clear_len : ∀(ps:List (Nat×EffD)) (b:List (Option EffD)),(clearB b ps).length=b.length
 | [],_=> rfl
 | p :: ps,b=> (clear_len ps (b.set p.1 none)).trans (List.length_set ..)
theorem clear_get : ∀{ps:List (Nat×EffD)} {b:List (Option EffD)} {k:Nat} {e:EffD},(clearB b ps)[k]? =some (some e)->b[k]? =some (some e)∧∀p∈ps,p.1≠k
 | [],_,_,_,h=> ⟨h,fun _ h=> by cases h⟩
 | p :: ps,b,k,e,h=> by
  obtain ⟨h1,h2⟩:=clear_get (ps:=ps) (b:=b.set p.1 none) h
  rcases set_get h1 with ⟨_,x⟩ | ⟨x1,x2⟩
  ·cases x
  ·refine ⟨x2,fun q hq=> ?_⟩
   rcases List.mem_cons.1 hq with rfl | hq
   ·exact fun e=> x1 e.symm
   ·exact h2 q hq
theorem clear_keep : ∀{ps:List (Nat×EffD)} {b:List (Option EffD)} {k:Nat},(∀p∈ps,p.1≠k)->(clearB b ps)[k]? =b[k]?
 | [],_,_,_=> rfl
 | p :: ps,b,k,h=> by
  refine (clear_keep (ps:=ps) (b:=b.set p.1 none) (fun q hq=> h q (List.mem_cons_of_mem _ hq))).trans ?_
  exact List.getElem?_set_ne (h p (List.mem_cons_self ..))
structure EndsOf (W:Acts) (S:Shop) (t:Int) (l:List ByteArray) (ps:List (Nat×EffD)):Prop where
 nm:ps.map (·.2.name)=l
 at': ∀p∈ps,S.busy[p.1]? =some (some p.2)∧p.2.fin=t
 mem: ∀(k:Nat) (e:EffD),(S.busy[k]? =some (some e)∧e.fin=t)↔(k,e)∈ps
 asc:ps.Pairwise (fun p q=> lessX p.2.name q.2.name)
section
variable {W : Acts} {Kj : List Qq} {wk : Nat} {S : Shop} {t : Int} {l : List ByteArray} {ps : List (Nat × EffD)}
theorem EndsOf.made (hs:Sane8 W wk S) (ha:AscB l) (hm: ∀m,m∈l↔∃(k:Nat) (e:EffD),S.busy[k]? =some (some e)∧e.fin=t∧e.name=m): ∃ps,EndsOf W S t l ps:=by
 obtain ⟨ps,h1,h2⟩:=ends_list l (fun m hm'=> (hm m).1 hm')
 refine ⟨ps,h1,h2,fun k e=> ⟨fun ⟨h3,h4⟩=> ?_,fun h=> h2 _ h⟩, ?_⟩
 ·have h5:= (hm e.name).2 ⟨k,e,h3,h4,rfl⟩
  rw [<-h1] at h5
  obtain ⟨p,hp,e2⟩:=List.mem_map.1 h5
  have h6:= (h2 p hp).1
  have e3:=hs.diff p.1 k p.2 e h6 h3 e2
  rw [e3,h3] at h6
  simp only [Option.some.injEq] at h6
  have:p= (k,e):=by rw [<-e3,h6]
  rw [<-this]
  exact hp
 ·have h3: (ps.map (·.2.name)).Pairwise lessX:=by rw [h1];exact ha
  exact List.pairwise_map.1 h3
theorem EndsOf.ne (h:EndsOf W S t l ps):ps.Pairwise (fun p q=> p.1≠q.1):=by
 refine List.Pairwise.imp_of_mem (fun {p q} hp hq hl e=> ?_) h.asc
 have h1:= (h.at' p hp).1
 have h2:= (h.at' q hq).1
 rw [e,h2] at h1
 simp only [Option.some.injEq] at h1
 rw [h1] at hl
 exact lessX_irrefl _ hl
theorem EndsOf.len (h:EndsOf W S t l ps):ps.length=l.length:=by rw [<-h.nm,List.length_map]
theorem EndsOf.name (h:EndsOf W S t l ps) {i:Nat} (hi:i < ps.length):l[i]'(by rw [<-h.len];exact hi)=ps[i].2.name:=by
 have: ∀(l':List ByteArray),l'=ps.map (·.2.name)->∀(hl:i < l'.length),l'[i]=ps[i].2.name:=fun l' e hl=> by subst e;simp
 exact this l h.nm.symm _
theorem EndsOf.here (h:EndsOf W S t l ps) {i:Nat} (hi:i < ps.length): (clearB S.busy (ps.take i))[ps[i].1]? =some (some ps[i].2):=by
 rw [clear_keep (fun p hp=> ?_)]
 ·exact (h.at' _ (List.getElem_mem hi)).1
 ·obtain ⟨j,hj,e⟩:=List.getElem_of_mem hp
  rw [List.length_take] at hj
  rw [<-e,List.getElem_take]
  exact List.pairwise_iff_getElem.1 h.ne j i (by omega) hi (by omega)
theorem EndsOf.other (h:EndsOf W S t l ps) (hs:Sane8 W wk S) {i j k:Nat} (hi:i < ps.length) (hk:k≠ps[i].1) {e:EffD} (he: (clearB S.busy (ps.take j))[k]? =some (some e)):e.name≠ps[i].2.name:=fun e2=>
 hk (hs.diff k ps[i].1 e ps[i].2 (clear_get he).1 (h.at' _ (List.getElem_mem hi)).1 e2)
theorem clear_live : ∀{ps:List (Nat×EffD)} {S:Shop},Live8 Kj wk S->(∀p∈ps,S.busy[p.1]? =some (some p.2))->ps.Pairwise (fun p q=> p.1≠q.1)->Live8 Kj wk { S with busy:=clearB S.busy ps }
 | [],_,h,_,_=> h
 | p :: ps,S,h,h1,h2=> by
  rw [List.pairwise_cons] at h2
  have h3:= (h.free (h1 p (List.mem_cons_self ..))).1
  exact clear_live (ps:=ps) (S:= { S with busy:=S.busy.set p.1 none }) h3 (fun q hq=> (List.getElem?_set_ne (h2.1 q hq)).trans (h1 q (List.mem_cons_of_mem _ hq))) h2.2
theorem dones_snoc (W:Acts) (S:Shop) (ps:List (Nat×EffD)) (p:Nat×EffD):dones W S (ps++ [p])=doneS W (dones W S ps) p.2.name p.2.slot:=by unfold dones;rw [List.foldl_append];rfl
end
def Left8 (Kj:List Qq) (A:Shop) (n:Nat) (ps:List (Nat×EffD)):Prop:=ps.Pairwise (fun p q=> lessX p.2.name q.2.name)∧∀p∈ps,Rdy (Q_ Kj) A p.2.name∧¬Bz A p.2.name∧p.2.slot < n
theorem Left8.next {Kj:List Qq} {A:Shop} {n:Nat} {p:Nat×EffD} {ps:List (Nat×EffD)} {j:Int} (h:Left8 Kj A n (p :: ps)) (ha:AscX A.T):Left8 Kj (doneS (Q_ Kj) A p.2.name j) n ps:=by
 obtain ⟨h1,h2⟩:=h
 rw [List.pairwise_cons] at h1
 refine ⟨h1.2,fun q hq=> ?_⟩
 obtain ⟨g1,g2,g3⟩:=h2 q (List.mem_cons_of_mem _ hq)
 exact ⟨ready_stays ha (h2 p (List.mem_cons_self ..)).1 g1 (fun e=> by have:=h1.1 q hq;rw [e] at this;exact lessX_irrefl _ this),g2,g3⟩
theorem EndsOf.left {Kj:List Qq} {wk:Nat} {S:Shop} {t:Int} {l:List ByteArray} {ps:List (Nat×EffD)} (h:EndsOf (Q_ Kj) S t l ps) (hl:Live8 Kj wk S):Live8 Kj wk { S with busy:=clearB S.busy ps }∧Left8 Kj { S with busy:=clearB S.busy ps } S.slots.length ps:=by
 refine ⟨clear_live hl (fun p hp=> (h.at' p hp).1) h.ne,h.asc,fun p hp=> ⟨hl.sane.rdy p.1 p.2 (h.at' p hp).1,fun ⟨k,e,h1,h2⟩=> ?_,hl.sane.slot p.1 p.2 (h.at' p hp).1⟩⟩
 obtain ⟨g1,g2⟩:=clear_get h1
 exact g2 p hp (hl.sane.diff p.1 k p.2 e (h.at' p hp).1 g1 h2.symm)
theorem ShopM.busyBut {c:ShopC} {S:Shop} {D:ShopD} {w w':World} (h:ShopM c S D w) (kb:But (fun x=> x=c.bsb) w w') (hr:RowT w' c.bsb 98 (c.wk * 3)) {b:List (Option EffD)} (hl:b.length=c.wk) (hb: ∀k,k < c.wk->w'.rangeAt c.bsb (k * 3) (bzCells (b.getD k none))):ShopM c { S with busy:=b } D w':=by
 obtain ⟨s1,s2,s3,s4⟩:=h.stays kb (fun y e=> .inr (.inl e))
 have nh: ¬c.hb=c.bsb:=fun e=> h.ne.1 e.symm
 exact ⟨s1,kb.row h.row nh,kb.range h.row nh h.cel,h.hlow,h.blow,hl,hr,hb,kb.owns h.slt (fun y e e2=> (h.ne.2.1 y e).2 e2),kb.owns h.bak (fun y e e2=> (h.ne.2.2.1 y e).2.1 e2),s4,s2,s3,h.sep,Nat.le_trans h.top kb.size,h.obw,Nat.lt_of_lt_of_le h.obl kb.size,h.obs⟩
def slV (ps:List (Nat×EffD)):List Value:=ps.map (fun p=> Value.int .i64 (p.2.slot:Int))
structure ClrI (c:ShopC) (S:Shop) (w:World) (l:List ByteArray) (ps:List (Nat×EffD)) (na:Option Addr) (nc:Nat) (j:Nat) (sa:Option Addr) (sc:Nat) (wr:World):Prop where
 but:But (fun x=> x=c.bsb) w wr
 row:RowT wr c.bsb 98 (c.wk * 3)
 bsy: ∀k,k < c.wk->wr.rangeAt c.bsb (k * 3) (bzCells ((clearB S.busy (ps.take j)).getD k none))
 sl:wr.ownsRow w.heap.size 3 1 (.slice sa j sc) j (slV (ps.take j))
 nms:wr.ownsRow w.heap.size 9 1 (.slice na l.length nc) l.length (l.map Value.string)
theorem ClrI.kept {c:ShopC} {S:Shop} {w:World} {l:List ByteArray} {ps:List (Nat×EffD)} {na:Option Addr} {nc:Nat} {j:Nat} {sa:Option Addr} {sc:Nat} {wr wu:World} (h:ClrI c S w l ps na nc j sa sc wr) (k:K_ wr wu):ClrI c S w l ps na nc j sa sc wu:=
 ⟨h.but.trans (.of_kept k),h.row.kept k,fun q hq=> k.range h.row.lt (h.bsy q hq),ownsRow_kept' h.sl k,ownsRow_kept' h.nms k⟩
theorem ClrI.more {c:ShopC} {S:Shop} {w:World} {l:List ByteArray} {ps:List (Nat×EffD)} {na:Option Addr} {nc:Nat} {j:Nat} {sa:Option Addr} {sc:Nat} {wr wB w1:World} (h:ClrI c S w l ps na nc j sa sc wr) (hbl:c.bsb < w.heap.size) (hj:j < ps.length) (hk:ps[j].1 < c.wk) (hlen:S.busy.length=c.wk) (kB:K_ wr wB) {g cp:Nat}
  (ho:w1.ownsRow w.heap.size 3 1 (.slice (some ⟨g,0,none⟩) (j+1) cp) (j+1) (slV (ps.take j)++ [.int .i64 (ps[j].2.slot:Int)])) (hg:wB.grownBy w1 (Value.slice sa j sc).ownBlock):
  ClrI c S w l ps na nc (j+1) (some ⟨g,0,none⟩) cp (w1.setCells c.bsb (ps[j].1 * 3) (bzCells none))∧RowT w1 c.bsb 98 (c.wk * 3):=by
 have hB:=h.kept kB
 have nb: ∀x,(Value.slice sa j sc).ownBlock=some x->w.heap.size<=x:=fun x e=> (h.sl.lt x e).1
 have kg:But (fun x=> (Value.slice sa j sc).ownBlock=some x) wB w1:= .of_grown hg (fun _ e=> e)
 have nbs: ¬(Value.slice sa j sc).ownBlock=some c.bsb:=fun e=> by have:=nb _ e;omega
 have hr1:=kg.row hB.row nbs
 have hb1:But (fun x=> x=c.bsb) w w1:= ⟨kg.os.trans hB.but.os,kg.tape.trans hB.but.tape,kg.output.trans hB.but.output,Nat.le_trans hB.but.size kg.size,fun b hb hn=> (kg.block b (Nat.lt_of_lt_of_le hb hB.but.size) (fun e=> by have:=nb _ e;omega)).trans (hB.but.block b hb hn)⟩
 have kc:But (fun x=> x=c.bsb) w1 (w1.setCells c.bsb (ps[j].1 * 3) (bzCells none)):=But.setCells (S:=fun y=> y=c.bsb) rfl _ _ (.of_kept (K_.refl w1))
 have ht:ps.take (j+1)=ps.take j++ [ps[j]]:=List.take_succ_eq_append_getElem hj
 refine ⟨⟨hb1.trans kc,RowT.sets _ _ hr1,fun q hq=> ?_, ?_, ?_⟩,hr1⟩
 ·rw [ht,clear_snoc]
  by_cases e:q=ps[j].1
  ·rw [e]
   have e1: ((clearB S.busy (ps.take j)).set ps[j].1 none).getD ps[j].1 none=none:=by simp [List.getD,clear_len,hlen,hk]
   rw [e1]
   exact World.rangeAt_setCells_same w1 c.bsb (ps[j].1 * 3) (bzCells none) (hr1.row.there (o:=ps[j].1 * 3) (m:=3) (by omega))
  ·have e1: ((clearB S.busy (ps.take j)).set ps[j].1 none).getD q none= (clearB S.busy (ps.take j)).getD q none:=by simp only [List.getD];rw [List.getElem?_set_ne (fun y=> e y.symm)]
   rw [e1]
   exact World.rangeAt_setCells_apart (kg.range hB.row nbs (hB.bsy q hq)) c.bsb (ps[j].1 * 3) (bzCells none) (by rw [bz_len,bz_len];omega)
 ·have e1:slV (ps.take (j+1))=slV (ps.take j)++ [.int .i64 (ps[j].2.slot:Int)]:=by unfold slV;rw [ht,List.map_append];rfl
  rw [e1]
  exact kc.owns ho (fun x e e2=> by have:= (ho.lt x e).1;omega)
 ·refine kc.owns (kg.owns hB.nms (fun x e e2=> ?_)) (fun x e e2=> by have:= (hB.nms.lt x e).1;omega)
  exact type_ne (Yz hB.nms e) (Yz hB.sl e2) (by decide) rfl
theorem Tryz.sizeBusy : (Tryz.prog.info? 98).map (·.size)=some 3:=by kernel_rfl
def FinEnd (c:ShopC) (S:Shop) (t:Int) (w w':World) (e:Ending):Prop:= ∃S',Says e (∃(k:Nat) (x:EffD),S.busy[k]? =some (some x)∧x.fin=t)∧Fin8 (Q_ c.Kj) t S S'∧ShopA c S' w'∧PlanKept w w'
def NmsAt (S:Shop) (t:Int) (q:Nat) (l:List ByteArray):Prop:=AscB l∧∀m,m∈l↔∃(p:Nat) (e:EffD),p < q∧S.busy[p]? =some (some e)∧e.fin=t∧e.name=m
theorem NmsAt.no {S:Shop} {t:Int} {q:Nat} {l:List ByteArray} (h:NmsAt S t q l) (hn: ∀e,S.busy[q]? =some (some e)->e.fin≠t):NmsAt S t (q+1) l:=by
 refine ⟨h.1,fun m=> ?_⟩
 rw [h.2]
 constructor
 ·rintro ⟨p,e,h1,h2⟩
  exact ⟨p,e,by omega,h2⟩
 ·rintro ⟨p,e,h1,h2,h3,h4⟩
  by_cases e2:p=q
  ·rw [e2] at h2
   exact absurd h3 (hn e h2)
  ·exact ⟨p,e,by omega,h2,h3,h4⟩
theorem NmsAt.yes {S:Shop} {t:Int} {q:Nat} {l r:List ByteArray} {e:EffD} (h:NmsAt S t q l) (he:S.busy[q]? =some (some e)) (hf:e.fin=t) (hp:PutB l e.name r):NmsAt S t (q+1) r:=by
 obtain ⟨h1,h2⟩:=hp.asc h.1
 refine ⟨h1,fun m=> ?_⟩
 rw [h2,h.2]
 constructor
 ·rintro (⟨p,x,g1,g2⟩ | rfl)
  ·exact ⟨p,x,by omega,g2⟩
  ·exact ⟨q,e,by omega,he,hf,rfl⟩
 ·rintro ⟨p,x,g1,g2,g3,g4⟩
  by_cases e2:p=q
  ·rw [e2,he] at g2
   simp only [Option.some.injEq] at g2
   rw [<-g4,<-g2]
   exact .inr rfl
  ·exact .inl ⟨p,x,by omega,g2,g3,g4⟩
theorem dones_slots (W:Acts): ∀(ps:List (Nat×EffD)) (S:Shop),(dones W S ps).slots=S.slots
 | [],_=> rfl
 | p :: ps,S=> dones_slots W ps (doneS W S p.2.name p.2.slot)
theorem putB_len {l r:List ByteArray} {x:ByteArray} (h:PutB l x r):r.length<=l.length+1:=by
 rcases h with ⟨_,rfl⟩ | ⟨_,k,hk,rfl,_⟩
 ·exact Nat.le_succ _
 ·simp only [List.length_append,List.length_take,List.length_cons,List.length_drop]
  omega
theorem shopEnds_any {c:ShopC} {S:Shop} {w:World} {t:Int} (hA:ShopA c S w) (hk:ShopK c):
  Calls Tryz.prog 22 #[.pointer (some ⟨c.hb,0,none⟩),.int .i64 t] w fun e w'=> FinEnd c S t w w' e:=by
 obtain ⟨D,hI⟩:=hA
 obtain ⟨ii,hi0,hi1,hi2,hi3⟩:=xInfo_parts Tryz.infoIntX
 obtain ⟨hb,hhb⟩: ∃hb,hb=c.hb:= ⟨_,rfl⟩
 obtain ⟨bsb,hbsb⟩: ∃bsb,bsb=c.bsb:= ⟨_,rfl⟩
 obtain ⟨wk,hwk⟩: ∃wk,wk=c.wk:= ⟨_,rfl⟩
 have HHB:=Kz hhb
 have HBS:=Kz hbsb
 have HWk:=Kz hwk
 have hwk6:wk<=60:=by rw [hwk];exact hk.wk.2
 have HK:=Kz hk
 have HI:=Kz hI
 obtain ⟨WB,hWB⟩: ∃WB,WB= (w.alloc (.cells #[] 9)).alloc (.cells #[] 3):= ⟨_,rfl⟩
 have kB:K_ w WB:=by rw [hWB];exact ((K_.refl _).alloc _).alloc _
 have HN0:Hid (WB.ownsRow w.heap.size 9 1 (.slice (some ⟨w.heap.size,0,none⟩) 0 0) 0 (([]:List ByteArray).map Value.string)):=by
  rw [hWB]
  exact ownsRow_kept' (World.ownsRow_made w #[] 0 (Nat.le_refl _) (Nat.zero_le _) rfl) ((K_.refl _).alloc _)
 have HL0:Hid (WB.ownsRow w.heap.size 3 1 (.slice (some ⟨w.heap.size+1,0,none⟩) 0 0) 0 []):=by
  rw [hWB]
  have h:=World.ownsRow_made (base:=w.heap.size) (e:=3) (size:=1) (w.alloc (.cells #[] 9)) #[] 0 (by rw [World.size_alloc];omega) (Nat.zero_le _) rfl
  rw [World.size_alloc] at h
  exact h
 rw [<-hhb]
 clear hI hk hhb hbsb hwk
 go_enter Tryz.func22,Tryz.ntmps22
 go_upto_region 3 with fail
 try simp only [World.size_alloc]
 rw [<-hWB]
 clear hWB
 go_wp2_with fail
 go_loopg [5,7] wk (fun gk x5 x7 wr=> ∃(q b o cp:Nat) (l:List ByteArray),x5= .slice (some ⟨b,o,none⟩) l.length cp∧x7= .int .i64 (q:Int)∧q+gk=wk∧l.length<=q∧l.length<=cp∧Hid (NmsAt S t q l)∧Hid (wr.ownsRow w.heap.size 9 1 (.slice (some ⟨b,o,none⟩) l.length cp) l.length (l.map Value.string))∧Hid (K_ WB wr))
 case atStart=> exact ⟨0,w.heap.size,0,0,[],rfl,rfl,by omega,Nat.le_refl _,Nat.le_refl _,Kz ⟨.nil,fun m=> ⟨(fun h=> by cases h),fun ⟨p,e,hp,_⟩=> absurd hp (Nat.not_lt_zero _)⟩⟩,HN0,K_.refl _⟩
 case round=>
  obtain ⟨q,b,o,cp,l,rfl,rfl,hgk,hlq,hlc,HNm,HNo,HKr⟩:=hrel
  have HIr:=Kz (HI.out.kept (kB.trans HKr.out))
  have hm3:=HIr.out.mem.at.2.2.2.1
  rw [<-HHB.out,<-HBS.out,<-HWk.out] at hm3
  have hbi:hb < wr.heap.size:=by rw [HHB.out];exact HIr.out.mem.row.lt
  have hbsl:bsb < wr.heap.size:=by rw [HBS.out];exact HIr.out.mem.brow.lt
  by_cases hq:q < wk
  ·have hqi: (q:Int) < (wk:Int):=by omega
   have hbz:=HIr.out.mem.bsy q (by rw [<-HWk.out];exact hq)
   rw [<-HBS.out] at hbz
   have hxl:S.busy[q]? =some (S.busy.getD q none):=by
    have hl:q < S.busy.length:=by rw [HIr.out.mem.len,<-HWk.out];exact hq
    simp [List.getD,hl]
   obtain ⟨x,hx⟩: ∃x,x=S.busy.getD q none:= ⟨_,rfl⟩
   rw [<-hx] at hbz hxl
   have HXl:=Kz hxl
   clear hx hxl
   cases x with
   | none=>
    have hzc:wr.cell? ⟨bsb,q * 3,none⟩=some (.string ⟨#[]⟩):=hbz 0 _ rfl
    clear hbz
    go_wp2_with fail
    go_roundg (gk - 1)
    case measure=> omega
    case rel=> exact ⟨q+1,b,o,cp,l,rfl,by go_num,by omega,by omega,hlc,Kz (HNm.out.no (fun e he=> by rw [HXl.out] at he;simp at he)),HNo,HKr⟩
   | some e=>
    have hzc:wr.cell? ⟨bsb,q * 3,none⟩=some (.string e.name):=hbz 0 _ rfl
    have hzf:wr.cell? ⟨bsb,q * 3+1,none⟩=some (.int .i64 e.fin):=hbz 1 _ rfl
    have hne: (e.name.toList == ([]:List UInt8))=false:=by
     obtain ⟨r,hr,_⟩:=HIr.out.live.sane.rdy q e HXl.out
     exact name_some (HIr.out.cost HK.out hr).2.2.1
    have hne2: (e.name.toList != ([]:List UInt8))=true:=by simp only [bne,hne];rfl
    clear hbz
    obtain ⟨fi,hfi⟩: ∃fi,fi=e.fin:= ⟨_,rfl⟩
    rw [<-hfi] at hzf
    have HFi:=Kz hfi
    clear hfi
    cases hft: (fi == t)
    ·go_wp2_with fail
     go_roundg (gk - 1)
     case measure=> omega
     case rel=> exact ⟨q+1,b,o,cp,l,rfl,by go_num,by omega,by omega,hlc,Kz (HNm.out.no (fun e' he=> by rw [HXl.out] at he;simp only [Option.some.injEq] at he;rw [<-he,<-HFi.out];simpa using hft)),HNo,HKr⟩
    ·have HFt:Hid (e.fin=t):=by show _=_;rw [<-HFi.out];simpa using hft
     obtain ⟨_,_,ey,hys⟩:=owned_strs HNo.out
     simp only [Value.slice.injEq,true_and] at ey
     rw [<-ey.1] at hys
     have HPut:=Kz (l6Put_own wr b o cp l e.name (by omega) hlc HNm.out.1 hys)
     clear ey hys
     go_wp2_with fail
     refine HPut.out.mono ?_
     rintro e5 w5 ⟨b',o',c',r,rfl,hrc,hpb,_,hso,k5⟩
     have HPb:=Kz hpb
     have HO5:=Kz (hso w.heap.size (kB.trans HKr.out).size HNo.out)
     have HK5:=Kz (HKr.out.trans k5)
     have hrl:=putB_len hpb
     clear hpb hso k5 HPut
     go_wp2_with fail
     go_roundg (gk - 1)
     case measure=> omega
     case rel=> exact ⟨q+1,b',o',c',r,rfl,by go_num,by omega,by omega,hrc,Kz (HNm.out.yes HXl.out HFt.out HPb.out),HO5,HK5⟩
  have hnq: ¬((q:Int) < (wk:Int)):=by omega
  have hqe:q=wk:=by omega
  obtain ⟨ps,hps⟩:=EndsOf.made (W:=Q_ c.Kj) (t:=t) (l:=l) HIr.out.live.sane HNm.out.1 (fun m=> by
   rw [HNm.out.2 m]
   constructor
   ·rintro ⟨p,e,_,h⟩
    exact ⟨p,e,h⟩
   ·rintro ⟨p,e,h⟩
    refine ⟨p,e, ?_,h⟩
    have h1:= (List.getElem?_eq_some_iff.1 h.1).1
    rw [HIr.out.mem.len,<-HWk.out] at h1
    omega)
  have HPs:=Kz hps
  have hpl:ps.length=l.length:=hps.len
  have hll:l.length<=60:=by omega
  obtain ⟨wA,rfl⟩: ∃wA,wA=wr:= ⟨_,rfl⟩
  have hbw:c.bsb < w.heap.size:=HI.out.mem.brow.lt
  have HC0:Hid (ClrI c S w l ps (some ⟨b,o,none⟩) cp 0 (some ⟨w.heap.size+1,0,none⟩) 0 wA):=by
   have kk:=kB.trans HKr.out
   refine ⟨.of_kept kk,HI.out.mem.brow.kept kk,fun k hk=> ?_,ownsRow_kept' HL0.out HKr.out,HNo.out⟩
   exact kk.range HI.out.mem.brow.lt (HI.out.mem.bsy k hk)
  have HPW:Hid (∀i,(hi:i < ps.length)->ps[i].1 < wk):=fun i hi=> by
   have h1:= (List.getElem?_eq_some_iff.1 (HPs.out.at' _ (List.getElem_mem hi)).1).1
   rw [HI.out.mem.len,<-HWk.out] at h1
   exact h1
  clear hps HL0 HN0 HNm
  go_wp2_with fail
  go_loopg [6,8] l.length (fun gk x6 x8 wr=> ∃(i:Nat) (sa:Option Addr) (sc:Nat),x6= .slice sa i sc∧x8= .int .i64 (i:Int)∧i+gk=l.length∧Hid (ClrI c S w l ps (some ⟨b,o,none⟩) cp i sa sc wr))
  case atStart=> exact ⟨0,_,_,rfl,rfl,by omega,HC0⟩
  case round=>
   obtain ⟨i,sa,sc,rfl,rfl,hig,HCi⟩:=hrel
   by_cases hil:i < l.length
   ·have hii: (i:Int) < (l.length:Int):=by omega
    have hip:i < ps.length:=by omega
    obtain ⟨wB,rfl⟩: ∃wB,wB=wr:= ⟨_,rfl⟩
    obtain ⟨kk,hkk⟩: ∃kk,kk=ps[i].1:= ⟨_,rfl⟩
    have hkw:kk < wk:=by rw [hkk];exact HPW.out i hip
    have HKk:=Kz hkk
    clear hkk
    go_wp2_with fail
    go_loopg [6,9] wk (fun gk x6 x9 wr=> ∃(q2 j:Nat) (sa:Option Addr) (sc:Nat),x6= .slice sa j sc∧x9= .int .i64 (q2:Int)∧q2+gk=wk∧((j=i∧q2<=kk)∨(j=i+1∧kk < q2))∧Hid (ClrI c S w l ps (some ⟨b,o,none⟩) cp j sa sc wr))
    case atStart=> exact ⟨0,i,sa,sc,rfl,rfl,by omega,.inl ⟨rfl,Nat.zero_le _⟩,HCi⟩
    case round=>
     obtain ⟨q2,j,sa2,sc2,rfl,rfl,hg2,hjc,HC⟩:=hrel
     have HSm:Hid (ShopM c { S with busy:=clearB S.busy (ps.take j)} D wr):=HI.out.mem.busyBut HC.out.but HC.out.row (by rw [clear_len];exact HI.out.mem.len) HC.out.bsy
     have hm3:=HSm.out.at.2.2.2.1
     rw [<-HHB.out,<-HBS.out,<-HWk.out] at hm3
     have hbi:hb < wr.heap.size:=by rw [HHB.out];exact HSm.out.row.lt
     have hbsl:bsb < wr.heap.size:=by rw [HBS.out];exact HSm.out.brow.lt
     by_cases hq2:q2 < wk
     ·have hq2i: (q2:Int) < (wk:Int):=by omega
      have hbz:=HC.out.bsy q2 (by rw [<-HWk.out];exact hq2)
      rw [<-HBS.out] at hbz
      have hxl: (clearB S.busy (ps.take j))[q2]? =some ((clearB S.busy (ps.take j)).getD q2 none):=by
       have hl:q2 < (clearB S.busy (ps.take j)).length:=by rw [clear_len,HI.out.mem.len,<-HWk.out];exact hq2
       simp [List.getD,hl]
      obtain ⟨x,hx⟩: ∃x,x= (clearB S.busy (ps.take j)).getD q2 none:= ⟨_,rfl⟩
      rw [<-hx] at hbz hxl
      obtain ⟨_,_,ey,hys⟩:=owned_strs HC.out.nms
      simp only [Value.slice.injEq,true_and] at ey
      rw [<-ey.1] at hys
      obtain ⟨yb,yo,eya,hyb,hyc0⟩:=hys i hil
      simp only [Option.some.injEq,Addr.mk.injEq,and_true] at eya
      obtain ⟨ey1,ey2⟩:=eya
      rw [<-ey1] at hyb hyc0
      rw [<-ey2] at hyc0
      obtain ⟨y,hy⟩: ∃y,y=ps[i].2.name:= ⟨_,rfl⟩
      have hyc:wr.cell? ⟨b,o+i,none⟩=some (.string y):=by
       rw [hyc0,hy,<-HPs.out.name hip]
       simp [List.getD,hil]
      have HY:=Kz hy
      have hysz:0 < y.size:=by
       have h1:=HPs.out.at' _ (List.getElem_mem hip)
       obtain ⟨r,hr,_⟩:=HI.out.live.sane.rdy _ _ h1.1
       rw [hy]
       exact (HI.out.cost HK.out hr).2.2.1
      by_cases hqk:q2=kk
      ·obtain rfl:i=j:=by rcases hjc with h | h <;> omega
       obtain rfl:kk=q2:=hqk.symm
       have hxe:x=some ps[i].2:=by
        rw [HKk.out,HPs.out.here hip] at hxl
        simpa using hxl.symm
       obtain ⟨ss,hss⟩: ∃ss:Int,ss= (ps[i].2.slot:Int):= ⟨_,rfl⟩
       have hzc:wr.cell? ⟨bsb,kk * 3,none⟩=some (.string y):=by rw [hxe] at hbz;rw [hy];exact hbz 0 _ rfl
       have hzs:wr.cell? ⟨bsb,kk * 3+2,none⟩=some (.int .i64 ss):=by rw [hxe] at hbz;rw [hss];exact hbz 2 _ rfl
       have hyy: (y.toList == y.toList)=true:=by simp
       have HSs:=Kz hss
       clear hbz hxl hx hys ey ey1 ey2 hyc0 hy hjc hxe hss
       go_wp2_with fail
       go_region
       all_goals
        have KD:K_ wr wr.drew:= (K_.refl wr).drew
        have HCd:=Kz (HC.out.kept KD)
        have hm3d:= (KD.cell (o:=3) hbi).trans hm3
        have hzsd:= (KD.cell (o:=kk * 3+2) hbsl).trans hzs
        have hbid:=Nat.lt_of_lt_of_le hbi KD.size
        have hbsd:=Nat.lt_of_lt_of_le hbsl KD.size
        generalize hwd:wr.drew=wd at HCd hm3d hzsd hbid hbsd KD⊢
        clear hwd KD HC HSm hm3 hzs hzc hyc hyb hbi hbsl
        have HKA:Hid (K_ wd (wd.alloc (.cells #[.int .i64 ss] 3))):= (K_.refl _).alloc _
        have HOw:=Kz (ownsRow_kept' HCd.out.sl HKA.out)
        have HNw:Hid (∀j u,([.int .i64 ss]:List Value)[j]? =some u->(wd.alloc (.cells #[.int .i64 ss] 3)).cell? ((⟨wd.heap.size,0,none⟩:Addr).add j)=some u):=fun j u hu=> by rw [Addr.add_mid];exact Xz wd #[.int .i64 ss] 3 j u hu
        have HOne:Hid (∀u∈([.int .i64 ss]:List Value),u.oneCell'=true):=fun u hu=> by simp only [List.mem_cons,List.not_mem_nil,or_false] at hu;subst hu;rfl
        have hbz:w.heap.size<=(wd.alloc (.cells #[.int .i64 ss] 3)).heap.size:= (HCd.out.kept HKA.out).but.size
        go_wp2_with (first | (refine wpList_store_mid rfl 98 (.tmp 98) (.tmp 97) rfl bsb (kk * 3) #[.string ⟨#[]⟩,.int .i64 0,.int .i64 0] rfl rfl HT6.out Tryz.sizeBusy (busy_one _ _ _) ?_) | (at_builtin;refine wpList_append_lies _ rfl (.tmp 81) (.tmp 90) 56 rfl w.heap.size 3 ii _ 1 8 Tryz.underlying56 hi0 hi1 hi2 hi3 rfl (by decide) (.slice sa2 i sc2) i (slV (ps.take i)) rfl HOw.out ⟨wd.heap.size,0,none⟩ 1 1 [.int .i64 ss] rfl rfl HNw.out HOne.out (by omega) (by unfold maxLen;omega) (by omega) hbz _ rfl ?_;intro g6 cap6 w6 hown hgr _ _;have hmore:=HCd.out.more (g:=g6) (cp:=cap6) hbw hip (by rw [<-HWk.out];exact HPW.out _ _) HI.out.mem.len HKA.out (by rw [<-HSs.out];exact hown) hgr;have HMo:=Kz hmore.1;have hr6:=hmore.2;have kg:= (But.of_kept (S:=fun x=> (Value.slice sa2 i sc2).ownBlock=some x) HKA.out).trans (.of_grown hgr (fun _ h=> h));have hm36:w6.cell? ⟨hb,3,none⟩=some (.slice (some ⟨bsb,0,none⟩) wk wk):= (kg.cell hbid (fun e=> by have h1:= (HCd.out.sl.lt _ e).1;have h2:=HI.out.mem.row.lt;rw [<-HHB.out] at h2;omega)).trans hm3d;have hb6:=Nat.lt_of_lt_of_le hbid kg.size;have HT6:Hid (w6.there bsb (kk * 3) 3):= (by rw [HBS.out];exact hr6.row.there (o:=kk * 3) (m:=3) (by rw [<-HWk.out];omega));clear hown hgr hmore hr6 kg))
        have hwe:World.setCells w6 bsb (kk * 3) (Array.toList #[.string ⟨#[]⟩,.int .i64 0,.int .i64 0])=w6.setCells c.bsb (ps[i].1 * 3) (bzCells none):=by rw [HBS.out,HKk.out];rfl
        rw [<-hwe] at HMo
        clear hwe
        go_roundg (gk - 1)
        case measure=> omega
        case rel=> exact ⟨kk+1,i+1,_,_,rfl,by go_num,by omega,.inr ⟨rfl,by omega⟩,HMo⟩
      ·obtain ⟨z,hz⟩: ∃z,z= (match x with | some e=> e.name | none=> (⟨#[]⟩:ByteArray)):= ⟨_,rfl⟩
       have hzc:wr.cell? ⟨bsb,q2 * 3,none⟩=some (.string z):=by
        have:=hbz 0 (.string z) (by rw [hz];cases x <;> rfl)
        exact this
       have hzy: (z.toList == y.toList)=false:=by
        cases h2: (z.toList == y.toList)
        ·rfl
        ·have h3:=has_beq h2
         cases x with
         | none=>
          rw [<-h3,hz] at hysz
          exact absurd hysz (by decide)
         | some e=>
          rw [hz,hy] at h3
          exact absurd h3 (HPs.out.other HI.out.live.sane hip (by rw [<-HKk.out];exact hqk) hxl)
       clear hbz hxl hx hys ey ey1 ey2 hyc0 hy hz hysz
       go_wp2_with fail
       go_region
       all_goals
        go_wp2_with fail
        go_roundg (gk - 1)
        case measure=> omega
        case rel=> exact ⟨q2+1,j,_,_,rfl,by go_num,by omega,(by rcases hjc with ⟨h1,h2⟩ | ⟨h1,h2⟩;exact .inl ⟨h1,by omega⟩;exact .inr ⟨h1,by omega⟩),Kz (HC.out.kept (K_.refl wr).drew)⟩
     ·have hnq2: ¬((q2:Int) < (wk:Int)):=by omega
      obtain rfl:i+1=j:=by rcases hjc with h | h <;> omega
      go_wp2_with fail
      go_roundg (l.length - (i+1))
      case measure=> omega
      case rel=> exact ⟨i+1,sa2,sc2,rfl,by go_num,by omega,HC⟩
   ·have hnil: ¬((i:Int) < (l.length:Int)):=by omega
    obtain rfl:l.length=i:=by omega
    have hall:ps.take l.length=ps:=List.take_of_length_le (by omega)
    have hC:=HCi.out
    obtain ⟨hbu,hrw,hbs,hsl,hnm⟩:=hC
    rw [hall] at hbs hsl
    have hlf:=HPs.out.left HI.out.live
    have HA0:Hid (ShopA c (dones (Q_ c.Kj) { S with busy:=clearB S.busy ps } (ps.take 0)) wr):= ⟨D,HI.out.mem.busyBut hbu hrw (by rw [clear_len];exact HI.out.mem.len) hbs,hlf.1,HI.out.cau,HI.out.bud⟩
    have HLf:Hid (Left8 c.Kj (dones (Q_ c.Kj) { S with busy:=clearB S.busy ps } (ps.take 0)) S.slots.length (ps.drop 0)):=hlf.2
    have HSl:=Kz hsl
    have HNm:=Kz hnm
    have HPk:Hid (PlanKept w wr):= .of_but hbu (fun x hx=> type_ne hx HI.out.mem.brow.type (by decide))
    clear hbu hrw hbs hsl hnm hlf
    go_wp2_with fail
    go_loopg [10] l.length (fun gk x10 wr=> ∃(i:Nat),x10= .int .i64 (i:Int)∧i+gk=l.length∧Hid (ShopA c (dones (Q_ c.Kj) { S with busy:=clearB S.busy ps } (ps.take i)) wr)∧Hid (Left8 c.Kj (dones (Q_ c.Kj) { S with busy:=clearB S.busy ps } (ps.take i)) S.slots.length (ps.drop i))∧Hid (wr.ownsRow w.heap.size 3 1 (.slice sa l.length sc) l.length (slV ps))∧Hid (wr.ownsRow w.heap.size 9 1 (.slice (some ⟨b,o,none⟩) l.length cp) l.length (l.map Value.string))∧Hid (PlanKept w wr))
    case atStart=> exact ⟨0,rfl,by omega,HA0,HLf,HSl,HNm,HPk⟩
    case round=>
     clear HA0 HLf HSl HNm HPk
     obtain ⟨i,rfl,hig3,HAi,HLf,HSl,HNm,HPk⟩:=hrel
     by_cases hil3:i < l.length
     ·have hii: (i:Int) < (l.length:Int):=by omega
      have hip:i < ps.length:=by omega
      obtain ⟨wi,rfl⟩: ∃wi,wi=wr:= ⟨_,rfl⟩
      obtain ⟨_,_,ey,hys⟩:=owned_strs HNm.out
      simp only [Value.slice.injEq,true_and] at ey
      rw [<-ey.1] at hys
      obtain ⟨yb,yo,eya,hyb,hyc0⟩:=hys i hil3
      simp only [Option.some.injEq,Addr.mk.injEq,and_true] at eya
      obtain ⟨ey1,ey2⟩:=eya
      rw [<-ey1] at hyb hyc0
      rw [<-ey2] at hyc0
      obtain ⟨y,hy⟩: ∃y,y=ps[i].2.name:= ⟨_,rfl⟩
      have hyc:wi.cell? ⟨b,o+i,none⟩=some (.string y):=by
       rw [hyc0,hy,<-HPs.out.name hip]
       simp [List.getD,hil3]
      obtain ⟨ss,hss⟩: ∃ss:Int,ss= (ps[i].2.slot:Int):= ⟨_,rfl⟩
      have hsg: ∃sg,sa=some ⟨sg,0,none⟩∧sg < wi.heap.size∧wi.cell? ⟨sg,i,none⟩=some (.int .i64 ss):=by
       rcases HSl.out.2 with ⟨_,h0⟩ | ⟨g,cap,cur,e,_,hg,_⟩
       ·omega
       ·injection e with e1 e2 e3
        have h:=HSl.out.cells (g:=g) (by rw [e1];rfl) i (.int .i64 ss) (by rw [hss];simp [slV,hip])
        rw [Addr.add_mid,Nat.zero_add] at h
        exact ⟨g,e1,heap_lt hg,h⟩
      obtain ⟨sg,rfl,hsgl,hsc⟩:=hsg
      have hd:ps.drop i=ps[i] :: ps.drop (i+1):=List.drop_eq_getElem_cons hip
      have hlf:=HLf.out
      rw [hd] at hlf
      obtain ⟨g1,g2,g3⟩:=hlf.2 ps[i] (List.mem_cons_self ..)
      obtain ⟨Di,hIi⟩:=HAi.out
      have hsle: (dones (Q_ c.Kj) { S with busy:=clearB S.busy ps } (ps.take i)).slots=S.slots:=dones_slots _ _ _
      have HNx:Hid (Left8 c.Kj (dones (Q_ c.Kj) { S with busy:=clearB S.busy ps } (ps.take (i+1))) S.slots.length (ps.drop (i+1))):=by
       rw [List.take_succ_eq_append_getElem hip,dones_snoc]
       exact hlf.next hIi.live.sane.ok.asc
      have hdn:=fun u (ku:K_ wi u)=> shopDone_any (j:=ss) (hIi.kept ku) HK.out (n:=y) (by rw [hy];exact g1) (by rw [hy];exact g2) (by rw [hss,hsle];exact ⟨by omega,by omega⟩)
      rw [hy,hss,<-dones_snoc (Q_ c.Kj) _ (ps.take i) ps[i],<-List.take_succ_eq_append_getElem hip,<-hy,<-hss,<-HHB.out] at hdn
      have HDn:=Kz hdn
      have HMi:=Kz hIi.mem
      have HS20:Hid (∀u,K_ wi u->u.cell? ⟨b,o+i,none⟩=some (.string y)∧u.cell? ⟨sg,i,none⟩=some (.int .i64 ss)):=fun u ku=> ⟨(ku.cell hyb).trans hyc,(ku.cell hsgl).trans hsc⟩
      clear hdn hIi g1 g2 g3 hlf hd hsc hss hyc hys ey ey1 ey2 hyc0 hy hsle
      go_wp2_with fail
      refine Qx.rg 9 HS20.out fun wd KD Z_=> ?_
      refine Qx.tk 0 Z_ ?_
      refine Qx.tk 1 Z_ ?_
      refine Qx.tk 2 Z_ ?_
      refine Qx.tk 3 Z_ ?_
      refine Qx.tk 4 Z_ ?_
      refine Qx.tk 5 Z_ ?_
      refine Qx.tk 6 Z_ ?_
      refine Qx.tk 7 Z_ ?_
      refine Qx.tk 8 Z_ ?_
      refine Qx.nx 9 (fun K hK=> ?_)
      rw [if_pos (by rfl)]
      go_simp
      go_at_call 50
      refine (HDn.out _ KD).mono ?_
      rintro e w7 ⟨rfl,hA7,hB7⟩
      have HA7:=Kz hA7
      have HB7:=Kz ((But.of_kept KD).trans hB7)
      have HPl:=Kz ((PlanKept.of_kept KD).trans ((HMi.out.kept KD).planBut (by rw [<-HHB.out];exact hB7)))
      clear hA7 hB7 KD
      dsimp only
      refine hK.out _ _ (fun h=> absurd rfl h) ?_
      clear hK K
      try simp only [Act.put,upA,upB,upC]
      refine Qx.dn ?_
      go_wp2_with fail
      go_roundg (gk - 1)
      case measure=> omega
      case rel=>
       have hhw:hb < w.heap.size:=by rw [HHB.out];exact HI.out.mem.row.lt
       exact ⟨i+1,by go_num,by omega,HA7,HNx,Kz (HB7.out.owns HSl.out (fun x e e2=> by have:= (HSl.out.lt x e).1;omega)),Kz (HB7.out.owns HNm.out (fun x e e2=> by have:= (HNm.out.lt x e).1;omega)),Kz (HPk.out.trans HPl.out)⟩
     ·have hni3: ¬((i:Int) < (l.length:Int)):=by omega
      have hall2:ps.take i=ps:=List.take_of_length_le (by omega)
      have HFin:=Kz (Fin8.batch (W:=Q_ c.Kj) (t:=t) ps S HPs.out.asc HPs.out.mem)
      have HAe:=HAi.out
      rw [hall2] at HAe
      have HEnd:=Kz HAe
      clear HAe hall2
      by_cases hl0:l.length=0
      ·have hgt: ¬((l.length:Int) > 0):=by omega
       have HNone:Hid (¬∃(k:Nat) (x:EffD),S.busy[k]? =some (some x)∧x.fin=t):=by
        rintro ⟨k,x,h1⟩
        have h2:= (HPs.out.mem k x).1 h1
        have h3:ps=[]:=List.length_eq_zero_iff.1 (by omega)
        rw [h3] at h2
        cases h2
       go_wp2_with fail
       go_ret
       exact ⟨_,Says.no HNone.out,HFin.out,HEnd.out,HPk.out⟩
      ·have hgt: ((l.length:Int) > 0):=by omega
       have hgt2:0 < l.length:=by omega
       have HSome:Hid (∃(k:Nat) (x:EffD),S.busy[k]? =some (some x)∧x.fin=t):=by
        have h1:=HPs.out.at' (ps[0]'(by omega)) (List.getElem_mem _)
        exact ⟨_,_,h1⟩
       go_wp2_with fail
       go_ret
       exact ⟨_,Says.yes HSome.out,HFin.out,HEnd.out,HPk.out⟩
def SlK (Kj:List Qq) (S:Shop):Prop:= ∀s∈S.slots,(Q_ Kj s.name).isSome=true∧0<=s.at'∧s.at'<=1000000
theorem Beg8.slk {Kj:List Qq} {S A:Shop} {t:Int} (h:Beg8 (Q_ Kj) t S A):Ok8 (Q_ Kj) S->0<=t∧t<=1000000->SlK Kj S->SlK Kj A:=by
 induction h with
 | stop=> exact fun _ _ h=> h
 | @go S S' k n hk hl hn _ ih=>
  intro ho ht hs
  refine ih ⟨ho.asc,ho.known⟩ ht (fun s hm=> ?_)
  rcases List.mem_append.1 hm with g | g
  ·exact hs s g
  ·rw [List.mem_singleton] at g
   subst g
   obtain ⟨r,hr,_⟩:=hn.1.1
   exact ⟨ho.known n r hr,ht⟩
section
variable {c : ShopC} {S : Shop} {D : ShopD} {w : World}
theorem ShopM.slotAt (h:ShopM c S D w) {i:Nat} (hi:i < S.slots.length): ∃g,D.sa=some ⟨g,0,none⟩∧g < w.heap.size∧w.cell? ⟨g,i * 3,none⟩=some (.int .i64 S.slots[i].at')∧w.cell? ⟨g,i * 3+1,none⟩=some (.int .i64 (S.slots[i].worker:Int))∧w.cell? ⟨g,i * 3+2,none⟩=some (.string S.slots[i].name):=by
 rcases h.slt.2 with ⟨_,h0⟩ | ⟨g,cap,cur,e,_,hg,_⟩
 ·rw [h0] at hi;exact absurd hi (Nat.not_lt_zero _)
 ·injection e with e1 e2 e3
  have hd:S.slots.getD i SlotD.zero=S.slots[i]:=by simp [List.getD,hi]
  have hc: ∀j,j < 3->∀u,S.slots[i].cells[j]? =some u->w.cell? ⟨g,i * 3+j,none⟩=some u:=fun j hj u hu=> by
   have:=h.slt.cells (g:=g) (by rw [e1];rfl) (i * 3+j) u (by rw [slCells_get S.slots i j hi hj,hd];exact hu)
   rw [Addr.add_mid,Nat.zero_add] at this
   exact this
  exact ⟨g,e1,heap_lt hg,hc 0 (by omega) _ rfl,hc 1 (by omega) _ rfl,hc 2 (by omega) _ rfl⟩
theorem ShopM.backAt (h:ShopM c S D w) {i:Nat} (hi:i < S.back.length): ∃g,D.ba=some ⟨g,0,none⟩∧g < w.heap.size∧w.cell? ⟨g,i,none⟩=some (.int .i64 S.back[i]):=by
 rcases h.bak.2 with ⟨_,h0⟩ | ⟨g,cap,cur,e,_,hg,_⟩
 ·rw [h0] at hi;exact absurd hi (Nat.not_lt_zero _)
 ·injection e with e1 e2 e3
  have:=h.bak.cells (g:=g) (by rw [e1];rfl) i (.int .i64 S.back[i]) (by simp [hi])
  rw [Addr.add_mid,Nat.zero_add] at this
  exact ⟨g,e1,heap_lt hg,this⟩
end
theorem slCells_one : ∀(l:List SlotD) (u:Value),u∈slCells l->u.oneCell'=true
 | [],u,h=> by cases h
 | c :: r,u,h=> by
  simp only [slCells,SlotD.cells,List.mem_append,List.mem_cons,List.not_mem_nil,or_false] at h
  rcases h with (rfl | rfl | rfl) | h
  ·rfl
  ·rfl
  ·rfl
  ·exact slCells_one r u h
def ChnEnd (c:ShopC) (S:Shop) (t:Int) (w w':World) (e:Ending):Prop:=
 ∃(ca:Option Addr) (cc:Nat) (ch:List SlotD) (p:Int),e= .returned (.slice ca ch.length cc)∧FirstEnd (Q_ c.Kj) S.slots t p∧ChR S.slots S.back p ch∧ch.length<=S.slots.length∧w'.ownsRow w.heap.size 109 3 (.slice ca ch.length cc) ch.length (slCells ch)∧K_ w w'
structure ChnI (S:Shop) (i:Nat) (p:Int) (ch:List SlotD) (gk:Nat):Prop where
 low: -1<=p
 top:p < S.slots.length
 num:p+1=gk
 len:ch.length+gk<=S.slots.length
 way: ∀l,ChR S.slots S.back p l->ChR S.slots S.back (i:Int) (l++ch)
theorem shopChain_any {c:ShopC} {S:Shop} {D:ShopD} {w:World} {t:Int} (h:ShopI c S D w) (hk:ShopK c) (hsl:S.slots.length<=100000) (hsn:SlK c.Kj S):
  Calls Tryz.prog 26 #[.pointer (some ⟨c.hb,0,none⟩),.int .i64 t] w fun e w'=> ChnEnd c S t w w' e:=by
 obtain ⟨is,hs0,hs1,hs2,hs3⟩:=xInfo_parts Tryz.infoSlot
 obtain ⟨hb,hhb⟩: ∃hb,hb=c.hb:= ⟨_,rfl⟩
 have HHB:=Kz hhb
 have HK:=Kz hk
 have HI:=Kz h
 have HSn:=Kz hsn
 have hbl:S.back.length=S.slots.length:=h.live.sane.back
 obtain ⟨WB,hWB⟩: ∃WB,WB=w.alloc (.cells #[] 109):= ⟨_,rfl⟩
 have kB:K_ w WB:=by rw [hWB];exact (K_.refl _).alloc _
 have HO0:Hid (WB.ownsRow w.heap.size 109 3 (.slice (some ⟨w.heap.size,0,none⟩) 0 0) 0 (slCells [])):=by
  rw [hWB]
  exact World.ownsRow_made w #[] 0 (Nat.le_refl _) (Nat.zero_le _) rfl
 rw [<-hhb]
 clear h hk hhb hsn
 go_enter Tryz.func26,Tryz.ntmps26
 go_upto_region 2 with fail
 rw [<-hWB]
 clear hWB
 go_wp2_with fail
 go_loopg [5,6] S.slots.length (fun gk x5 x6 wr=> ∃(i:Nat),x5= .slice (some ⟨w.heap.size,0,none⟩) 0 0∧x6= .int .i64 (i:Int)∧i+gk=S.slots.length∧Hid (K_ WB wr)∧Hid (∀s∈S.slots.take i,s.at'+costW (Q_ c.Kj) s.name≠t))
 case atStart=> exact ⟨0,rfl,rfl,by omega,K_.refl _,Kz (fun s hs=> by simp at hs)⟩
 case round=>
  obtain ⟨i,rfl,rfl,hig,HKr,HNo⟩:=hrel
  have HIr:=Kz (HI.out.kept (kB.trans HKr.out))
  have hm4:=HIr.out.mem.at.2.2.2.2.1
  rw [<-HHB.out] at hm4
  have hbi:hb < wr.heap.size:=by rw [HHB.out];exact HIr.out.mem.row.lt
  by_cases hil:i < S.slots.length
  rotate_left
  ·have hni: ¬((i:Int) < (S.slots.length:Int)):=by omega
   have hie:S.slots.take i=S.slots:=List.take_of_length_le (by omega)
   have HOe:=Kz (ownsRow_kept' HO0.out HKr.out)
   go_wp2_with fail
   go_ret
   exact ⟨_,_,[], -1,rfl,.inl ⟨rfl,fun s hs=> HNo.out s (by rw [hie];exact hs)⟩,.stop (by decide),Nat.zero_le _,HOe.out,kB.trans HKr.out⟩
  have hii: (i:Int) < (S.slots.length:Int):=by omega
  obtain ⟨sg,hsa,hsgl,q0,q1,q2⟩:=HIr.out.mem.slotAt hil
  have hsk:=HSn.out _ (List.getElem_mem hil)
  obtain ⟨k,nb,no,hkl,ha,hnb,hvc,hat⟩:=HIr.out.mem.nodeAt HK.out hsk.1
  have hcs:0<=costW (Q_ c.Kj) S.slots[i].name∧costW (Q_ c.Kj) S.slots[i].name<=20:=by
   obtain ⟨A,hA⟩:=Option.isSome_iff_exists.1 hsk.1
   have h1:= (HK.out.ok _ A hA).1.1
   unfold costW
   rw [hA]
   simp only
   omega
  obtain ⟨at0,hat0⟩: ∃at0,at0=S.slots[i].at':= ⟨_,rfl⟩
  obtain ⟨nm,hnm⟩: ∃nm,nm=S.slots[i].name:= ⟨_,rfl⟩
  obtain ⟨co,hco⟩: ∃co,co=costW (Q_ c.Kj) S.slots[i].name:= ⟨_,rfl⟩
  rw [<-hco] at hvc hcs
  rw [<-hat0] at q0 hsk
  rw [<-hnm] at q2 hat
  have hm0:=HIr.out.mem.at.1
  rw [<-HHB.out,ha] at hm0
  rw [hsa] at hm4
  rw [ha] at hat
  have hnbr:nb < wr.heap.size:=Nat.lt_of_lt_of_le hnb HIr.out.mem.kw.size
  have HS5:Hid (∀u,K_ wr u->u.cell? ⟨hb,4,none⟩=some (.slice (some ⟨sg,0,none⟩) S.slots.length D.sc)∧u.cell? ⟨hb,0,none⟩=some (.slice (some ⟨nb,no,none⟩) c.Kj.length c.cap)∧u.cell? ⟨sg,i * 3,none⟩=some (.int .i64 at0)∧u.cell? ⟨sg,i * 3+2,none⟩=some (.string nm)∧u.cell? ⟨nb,no+k * 3+1,none⟩=some (.int .i64 co)):=fun u ku=> ⟨(ku.cell hbi).trans hm4,(ku.cell hbi).trans hm0,(ku.cell hsgl).trans q0,(ku.cell hsgl).trans q2,(ku.cell hnbr).trans hvc⟩
  have HAt:=Kz (fun u (ku:K_ wr u)=> hat u (HIr.out.mem.kw.trans ku))
  have hkI: (k:Int) < (c.Kj.length:Int):=by omega
  have hweb:c.Kj.length<=60:=HK.out.len
  have hadd:IntKind.i64.wrap (at0+co)=at0+co:=wrap_i64_in (by omega) (by omega)
  have HSum:Hid (S.slots[i].at'+costW (Q_ c.Kj) S.slots[i].name=at0+co):=by show _=_;rw [hat0,hco]
  have HSa:=Kz hsa
  clear q0 q1 q2 hvc hat ha hm0 hsk hcs hat0 hnm hco hsa
  cases hst: (at0+co == t)
  ·go_wp2_with fail
   refine Qx.rg 32 HS5.out fun wd KD Z_=> ?_
   refine Qx.tk 0 Z_ ?_
   refine Qx.tk 1 Z_ ?_
   refine Qx.tk 2 Z_ ?_
   refine Qx.tk 3 Z_ ?_
   refine Qx.tk 4 Z_ ?_
   refine Qx.tk 5 Z_ ?_
   refine Qx.tk 6 Z_ ?_
   refine Qx.tk 7 Z_ ?_
   refine Qx.tk 8 Z_ ?_
   refine Qx.tk 9 Z_ ?_
   refine Qx.tk 10 Z_ ?_
   refine Qx.tk 11 Z_ ?_
   refine Qx.tk 12 Z_ ?_
   refine Qx.tk 13 Z_ ?_
   refine Qx.tk 14 Z_ ?_
   refine Qx.tk 15 Z_ ?_
   refine Qx.tk 16 Z_ ?_
   refine Qx.tk 17 Z_ ?_
   refine Qx.tk 18 Z_ ?_
   refine Qx.tk 19 Z_ ?_
   refine Qx.tk 20 Z_ ?_
   refine Qx.tk 21 Z_ ?_
   refine Qx.tk 22 Z_ ?_
   refine Qx.tk 23 Z_ ?_
   refine Qx.tk 24 Z_ ?_
   refine Qx.tk 31 Z_ ?_
   refine Qx.nx 25 (fun K hK=> ?_)
   rw [if_pos (by rfl)]
   go_simp
   go_at_call 55
   refine (HAt.out _ KD).mono ?_
   rintro e w5 ⟨rfl,k5⟩
   have K5:=KD.trans k5
   clear k5 KD
   dsimp only
   refine hK.out _ _ (fun _=> HS5.out _ K5) ?_
   clear hK K Z_
   try simp only [Act.put,upA,upB,upC]
   have Z_:=HS5.out _ K5
   refine Qx.tk 26 Z_ ?_
   refine Qx.tk 27 Z_ ?_
   refine Qx.tk 28 Z_ ?_
   refine Qx.tk 29 Z_ ?_
   refine Qx.tk 30 Z_ ?_
   refine Qx.nx 32 (fun K hK=> ?_)
   rw [if_pos (by rfl)]
   go_simp
   refine hK.out _ _ (fun h=> absurd rfl h) ?_
   clear hK K
   try simp only [Act.put,upA,upB,upC]
   refine Qx.dn ?_
   clear Z_
   go_wp2_with fail
   go_roundg (gk - 1)
   case measure=> omega
   case rel=>
    refine ⟨i+1,rfl,by go_num,by omega,Kz (HKr.out.trans K5),Kz (fun s hs=> ?_)⟩
    rw [List.take_succ_eq_append_getElem hil] at hs
    rcases List.mem_append.1 hs with g | g
    ·exact HNo.out s g
    ·rw [List.mem_singleton.1 g,HSum.out]
     simpa using hst
  ·have HFe:Hid (FirstEnd (Q_ c.Kj) S.slots t (i:Int)):=by
    refine .inr ⟨i,S.slots[i],rfl,List.getElem?_eq_getElem hil, ?_,fun j x hj hx=> HNo.out x ?_⟩
    ·rw [HSum.out];simpa using hst
    ·obtain ⟨hjl,e⟩:=List.getElem?_eq_some_iff.1 hx
     have h1:j < (S.slots.take i).length:=by rw [List.length_take];omega
     have h2: (S.slots.take i)[j]=x:=by rw [List.getElem_take];exact e
     rw [<-h2]
     exact List.getElem_mem h1
   go_wp2_with fail
   refine Qx.rg 32 HS5.out fun wd KD Z_=> ?_
   refine Qx.tk 0 Z_ ?_
   refine Qx.tk 1 Z_ ?_
   refine Qx.tk 2 Z_ ?_
   refine Qx.tk 3 Z_ ?_
   refine Qx.tk 4 Z_ ?_
   refine Qx.tk 5 Z_ ?_
   refine Qx.tk 6 Z_ ?_
   refine Qx.tk 7 Z_ ?_
   refine Qx.tk 8 Z_ ?_
   refine Qx.tk 9 Z_ ?_
   refine Qx.tk 10 Z_ ?_
   refine Qx.tk 11 Z_ ?_
   refine Qx.tk 12 Z_ ?_
   refine Qx.tk 13 Z_ ?_
   refine Qx.tk 14 Z_ ?_
   refine Qx.tk 15 Z_ ?_
   refine Qx.tk 16 Z_ ?_
   refine Qx.tk 17 Z_ ?_
   refine Qx.tk 18 Z_ ?_
   refine Qx.tk 19 Z_ ?_
   refine Qx.tk 20 Z_ ?_
   refine Qx.tk 21 Z_ ?_
   refine Qx.tk 22 Z_ ?_
   refine Qx.tk 23 Z_ ?_
   refine Qx.tk 24 Z_ ?_
   refine Qx.tk 31 Z_ ?_
   refine Qx.nx 25 (fun K hK=> ?_)
   rw [if_pos (by rfl)]
   go_simp
   go_at_call 55
   refine (HAt.out _ KD).mono ?_
   rintro e w5 ⟨rfl,k5⟩
   have K5:=KD.trans k5
   clear k5 KD
   dsimp only
   refine hK.out _ _ (fun _=> HS5.out _ K5) ?_
   clear hK K Z_
   try simp only [Act.put,upA,upB,upC]
   have Z_:=HS5.out _ K5
   refine Qx.tk 26 Z_ ?_
   refine Qx.tk 27 Z_ ?_
   refine Qx.tk 28 Z_ ?_
   refine Qx.tk 29 Z_ ?_
   refine Qx.tk 30 Z_ ?_
   refine Qx.nx 32 (fun K hK=> ?_)
   rw [if_pos (by rfl)]
   go_simp
   refine hK.out _ _ (fun h=> absurd rfl h) ?_
   clear hK K
   try simp only [Act.put,upA,upB,upC]
   refine Qx.dn ?_
   have HK5:=Kz (HKr.out.trans K5)
   have HO5:=Kz (ownsRow_kept' HO0.out HK5.out)
   have hm45:=Z_.1
   clear Z_ HS5 HAt hm4 HNo hst hadd
   go_wp2_with fail
   go_loopg [5,7] (i+1) (fun gk x5 x7 wr=> ∃(p:Int) (ch:List SlotD) (oa:Option Addr) (oc:Nat),x5= .slice oa ch.length oc∧x7= .int .i64 p∧Hid (ChnI S i p ch gk)∧Hid (wr.ownsRow w.heap.size 109 3 (.slice oa ch.length oc) ch.length (slCells ch))∧Hid (K_ w wr))
   case atStart=> exact ⟨(i:Int),[],_,_,rfl,rfl,Kz ⟨by omega,by omega,by omega,by simp;omega,fun l hl=> by rw [List.append_nil];exact hl⟩,HO5,Kz (kB.trans HK5.out)⟩
   case round=>
    obtain ⟨p,ch,oa,oc,rfl,rfl,HC,HO,HKw⟩:=hrel
    have HIw:=Kz (HI.out.kept HKw.out)
    by_cases hp:0<=p
    ·obtain ⟨pn,rfl⟩: ∃pn:Nat,p=pn:= ⟨p.toNat,by omega⟩
     have hpl:pn < S.slots.length:=by have:=HC.out.top;omega
     have hpI: (pn:Int) < (S.slots.length:Int):=by omega
     obtain ⟨sg2,hsa2,hsgl2,q0,q1,q2⟩:=HIw.out.mem.slotAt hpl
     obtain ⟨bg,hba,hbgl,q3⟩:=HIw.out.mem.backAt (i:=pn) (by omega)
     have hprev:=HIw.out.live.sane.prev pn S.back[pn] (List.getElem?_eq_getElem (by omega))
     have n4:=HIw.out.mem.at.2.2.2.2.1
     have n5:=HIw.out.mem.at.2.2.2.2.2.1
     rw [<-HHB.out] at n4 n5
     rw [hsa2] at n4
     rw [hba,hbl] at n5
     have hbw:hb < wr.heap.size:=by rw [HHB.out];exact HIw.out.mem.row.lt
     obtain ⟨s,hs⟩: ∃s,s=S.slots[pn]:= ⟨_,rfl⟩
     obtain ⟨pc,hpc⟩: ∃pc,pc=S.back[pn]:= ⟨_,rfl⟩
     rw [<-hs] at q0 q1 q2
     rw [<-hpc] at q3 hprev
     have HNx:Hid (ChnI S i pc (s :: ch) (pc+1).toNat):=by
      have h1:=HC.out
      refine ⟨hprev.1,by omega,by omega, ?_,fun l hl=> ?_⟩
      ·have h2:=h1.len
       have h3:=h1.num
       simp only [List.length_cons]
       omega
      ·have h2:=h1.way (l++ [s]) (.go (List.getElem?_eq_some_iff.2 ⟨hpl,hs.symm⟩) (List.getElem?_eq_some_iff.2 ⟨by omega,hpc.symm⟩) hl)
       rw [List.append_assoc] at h2
       exact h2
     have hmeas: (pc+1).toNat < gk:=by have h3:=HC.out.num;omega
     have hchl:ch.length<=100000:=by have h2:=HC.out.len;omega
     have HKA:Hid (K_ wr (wr.alloc (.cells #[.int .i64 s.at',.int .i64 (s.worker:Int),.string s.name] 109))):= (K_.refl _).alloc _
     have HLit:Hid ((wr.alloc (.cells #[.int .i64 s.at',.int .i64 (s.worker:Int),.string s.name] 109)).ownsRow w.heap.size 109 3 (.slice (some ⟨wr.heap.size,0,none⟩) 1 1) 1 [.int .i64 s.at',.int .i64 (s.worker:Int),.string s.name]):= ⟨rfl,.inr ⟨wr.heap.size,1,_,rfl,HKw.out.size,heap_alloc_new wr _,Nat.le_refl _,by unfold maxLen;omega,rfl,rfl⟩⟩
     have HOld:=Kz (ownsRow_kept' HO.out HKA.out)
     have hbz:w.heap.size<=(wr.alloc (.cells #[.int .i64 s.at',.int .i64 (s.worker:Int),.string s.name] 109)).heap.size:= (HKw.out.trans HKA.out).size
     clear hs hpc hprev HC HIw hsa2 hba
     go_wp2_with (at_builtin;refine wpList_append_rows rfl (.tmp 68) (.tmp 69) 28 rfl w.heap.size 109 is _ 3 32 Tryz.underlying28 hs0 hs1 hs2 hs3 rfl (by decide) (.slice (some ⟨wr.heap.size,0,none⟩) 1 1) 1 [.int .i64 s.at',.int .i64 (s.worker:Int),.string s.name] rfl HLit.out w.heap.size (.slice oa ch.length oc) ch.length (slCells ch) rfl HOld.out (slCells_one ch) (by unfold maxLen;omega) (by omega) hbz ?_;intro v6 w6 ho6 hg6 hv6;have K6:K_ w w6:=kept_of_grown (HKw.out.trans HKA.out) (Nat.le_refl _) HLit.out hg6;have kg:= (But.of_kept (S:=fun x=> (Value.slice (some (⟨wr.heap.size,0,none⟩:Addr)) 1 1).ownBlock=some x) HKA.out).trans (.of_grown hg6 (fun _ h=> h));obtain ⟨oa6,oc6,rfl⟩:=own_slice ho6;have n56:w6.cell? ⟨hb,5,none⟩=some (.slice (some ⟨bg,0,none⟩) S.slots.length D.bc):= (kg.cell hbw (fun e=> by injection e with e1;exact absurd e1 (by show¬wr.heap.size=hb;omega))).trans n5;have q36:w6.cell? ⟨bg,pn,none⟩=some (.int .i64 pc):= (kg.cell hbgl (fun e=> by injection e with e1;exact absurd e1 (by show¬wr.heap.size=bg;omega))).trans q3;have HO6:=Kz ho6;have hbw6:=Nat.lt_of_lt_of_le hbw kg.size;have hbg6:=Nat.lt_of_lt_of_le hbgl kg.size;have HK6:=Kz K6;clear ho6 hg6 hv6 kg K6)
     go_roundg (pc+1).toNat
     case measure=> exact hmeas
     case rel=> exact ⟨pc,s :: ch,oa6,oc6,by rw [List.length_cons,Nat.add_comm],rfl,HNx,Kz (by rw [List.length_cons,Nat.add_comm];exact HO6.out),HK6⟩
    ·have hpe:p= -1:=by have:=HC.out.low;omega
     have hgp: ¬(p≥0):=by omega
     have HCh:Hid (ChR S.slots S.back (i:Int) ch):=HC.out.way [] (.stop (by omega))
     have hchl:ch.length<=S.slots.length:=by have h2:=HC.out.len;omega
     go_wp2_with fail
     go_ret
     exact ⟨_,_,ch,(i:Int),rfl,HFe.out,HCh.out,hchl,HO.out,HKw.out⟩
theorem Tryz.infoBusy : (Tryz.prog.info? 98).map (fun i=> (i.zero,i.size,i.bytes))=some (some (.agg #[.string ByteArray.empty,.int .i64 0,.int .i64 0]),3,32):=by kernel_rfl
theorem range_setN {w:World} {b n:Nat} {t:TypeId} {xs:List Value} (hr:RowT w b t n) (h:w.rangeAt b 0 xs) {o:Nat} (ho:o < n) (v:Value): (w.setCell ⟨b,o,none⟩ v).rangeAt b 0 (xs.set o v):=fun i u hu=> by
 rw [Nat.zero_add]
 by_cases e:i=o
 ·subst e
  by_cases hl:i < xs.length
  ·rw [List.getElem?_set_self hl] at hu
   cases hu
   exact World.rangeAt_setCells_same w b i [v] (hr.row.there (o:=i) (m:=1) (by omega)) 0 _ rfl
  ·rw [List.getElem?_eq_none (by rw [List.length_set];omega)] at hu
   cases hu
 ·rw [List.getElem?_set_ne (fun x=> e x.symm)] at hu
  rw [World.cell?_setCell_other _ _ _ _ (by intro e2;injection e2 with _ e3 _;omega)]
  have:=h i u hu
  rwa [Nat.zero_add] at this
structure PlanV (u:World) (ob:Nat) (vs:List Value):Prop where
 row:RowT u ob 33 9
 at':u.rangeAt ob 0 vs
 len:vs.length=9
section
variable {w u : World} {ob : Nat} {vs : List Value}
theorem PlanV.keeps (h:PlanV w ob vs) (k:PlanKept w u):PlanV u ob vs:=by
 have e:=k.2 ob h.row.type
 exact ⟨h.row.block e,fun j v hv=> (World.cell?_of_block (w:=w) e).trans (h.at' j v hv),h.len⟩
theorem PlanV.kept (h:PlanV w ob vs) (k:K_ w u):PlanV u ob vs:=h.keeps (.of_kept k)
theorem PlanV.set (h:PlanV w ob vs) {o:Nat} (ho:o < 9) (v:Value):PlanV (w.setCell ⟨ob,o,none⟩ v) ob (vs.set o v):= ⟨h.row.set v,range_setN h.row h.at' ho v,by rw [List.length_set];exact h.len⟩
theorem PlanV.noStr (h:PlanV w ob vs) (hv: ∀u∈vs,∀s,u≠ .string s):NoStr w ob:=fun o s e=> by
 by_cases ho:o < 9
 ·have hl:o < vs.length:=by rw [h.len];exact ho
  have h1:=h.at' o vs[o] (List.getElem?_eq_getElem hl)
  rw [Nat.zero_add,e] at h1
  injection h1 with h1
  exact hv _ (List.getElem_mem hl) s h1.symm
 ·obtain ⟨cur,hc,hl⟩:=h.row
  unfold World.cell? at e
  simp only [hc] at e
  simp only [Option.isSome_none,Bool.false_eq_true,if_false] at e
  have h9:= (Array.getElem?_eq_some_iff.1 e).1
  omega
end
theorem strs_no {w w':World} {g:Nat} {a:Option Addr} {l:List ByteArray} (h:Strs w a l) (hg:NoStr w g) (k:But (fun x=> x=g) w w'):Strs w' a l:=fun i hi=> by
 obtain ⟨b,o,e,hb,hc⟩:=h i hi
 exact ⟨b,o,e,Nat.lt_of_lt_of_le hb k.size,(k.cell hb (fun x=> by subst x;exact hg _ _ hc)).trans hc⟩
theorem ress_no {w w':World} {g:Nat} {a:Option Addr} {l:List ResD} (h:Ress w a l) (hg:NoStr w g) (k:But (fun x=> x=g) w w'):Ress w' a l:=fun i hi=> by
 obtain ⟨b,p,e,hb,hc⟩:=h i hi
 exact ⟨b,p,e,Nat.lt_of_lt_of_le hb k.size,fun j u hu=> (k.cell hb (fun x=> by subst x;exact hg _ _ (hc 0 _ rfl))).trans (hc j u hu)⟩
theorem busy_made (w:World) (n:Nat):RowT (w.alloc (.cells (madeCells #[.string ByteArray.empty,.int .i64 0,.int .i64 0] (n * 3)) 98)) w.heap.size 98 (n * 3)∧∀k,k < n->(w.alloc (.cells (madeCells #[.string ByteArray.empty,.int .i64 0,.int .i64 0] (n * 3)) 98)).rangeAt w.heap.size (k * 3) (bzCells none):=by
 have hr:=RowT.made w (madeCells #[.string ByteArray.empty,.int .i64 0,.int .i64 0] (n * 3)) 98
 rw [size_madeCells] at hr
 refine ⟨hr,fun k hk j u hu=> ?_⟩
 have hj:j < 3:=by have:= (List.getElem?_eq_some_iff.1 hu).1;simpa [bzCells] using this
 have h:=Xz w (madeCells #[.string ByteArray.empty,.int .i64 0,.int .i64 0] (n * 3)) 98 (k * 3+j) u ?_
 ·rw [Nat.zero_add] at h
  exact h
 ·have hl:k * 3+j < n * 3:=by omega
  have hm: (k * 3+j) % 3=j:=by omega
  simp only [madeCells,Array.toList_map,List.getElem?_map,Array.getElem?_toList]
  rw [Array.getElem?_eq_getElem (by simpa using hl),Array.getElem_range]
  simp only [Option.map_some]
  show some (#[Value.string ByteArray.empty,.int .i64 0,.int .i64 0][(k * 3+j) % 3]!)=some u
  rw [hm]
  match j,hj,hu with
  | 0,_,hu=> exact hu
  | 1,_,hu=> exact hu
  | 2,_,hu=> exact hu
structure MadeS (wv:World) (Kj:List Qq) (Kk:List ByteArray) (wk:Nat) (a:Option Addr) (cap:Nat) (T:List Qz) (hb bsb:Nat) (ra:Option Addr) (rc:Nat) (d:Option Addr) (dc lo hi:Nat) (u:World):Prop where
 kw:K_ wv u
 row:RowT u hb 59 7
 cel:u.rangeAt hb 0 [.slice a Kj.length cap,.slice ra Kk.length rc,.slice d T.length dc,.slice (some ⟨bsb,0,none⟩) wk wk,.slice none 0 0,.slice none 0 0,.slice none 0 0]
 hlow:wv.heap.size<=hb
 blow:wv.heap.size<=bsb
 brow:RowT u bsb 98 (wk * 3)
 bsy: ∀k,k < wk->u.rangeAt bsb (k * 3) (bzCells none)
 run:RunsP u lo hi d T
 rts:StrsP u lo hi ra Kk
 sep: ∀x,x=hb∨x=bsb->¬(lo<=x∧x < hi)
 top:hi<=u.heap.size
theorem MadeS.box {wv w4:World} {Kj:List Qq} {Kk:List ByteArray} {wk:Nat} {a:Option Addr} {cap:Nat} {T:List Qz} {bsb:Nat} {ra:Option Addr} {rc:Nat} {d:Option Addr} {dc lo hi:Nat} (k:K_ wv w4) (hr:RowT w4 bsb 98 (wk * 3)) (hb: ∀k,k < wk->w4.rangeAt bsb (k * 3) (bzCells none)) (hl:wv.heap.size<=bsb) (hs:RunsP w4 lo hi d T) (ht:StrsP w4 lo hi ra Kk) (hn: ¬(lo<=bsb∧bsb < hi)) (hh:hi<=w4.heap.size):
  MadeS wv Kj Kk wk a cap T w4.heap.size bsb ra rc d dc lo hi (w4.alloc (.cells #[.slice a Kj.length cap,.slice ra Kk.length rc,.slice d T.length dc,.slice (some ⟨bsb,0,none⟩) wk wk,.slice none 0 0,.slice none 0 0,.slice none 0 0] 59)):=by
 have kA:K_ w4 (w4.alloc (.cells #[.slice a Kj.length cap,.slice ra Kk.length rc,.slice d T.length dc,.slice (some ⟨bsb,0,none⟩) wk wk,.slice none 0 0,.slice none 0 0,.slice none 0 0] 59)):= (K_.refl _).alloc _
 refine ⟨k.trans kA,RowT.made w4 _ _,Xz w4 _ _,k.size,hl,hr.kept kA,fun q hq=> kA.range hr.lt (hb q hq),hs.but (P:=fun _=> False) (.of_kept kA) (fun _ h=> h.elim),ht.but (P:=fun _=> False) (.of_kept kA) (fun _ h=> h.elim),fun x hx=> ?_,Nat.le_trans hh kA.size⟩
 rcases hx with rfl | rfl
 ·omega
 ·exact hn
theorem MadeS.shop {wv u w':World} {Kj:List Qq} {Kk:List ByteArray} {wk:Nat} {a:Option Addr} {cap:Nat} {T:List Qz} {hb bsb:Nat} {ra:Option Addr} {rc:Nat} {d:Option Addr} {dc lo hi:Nat} (h:MadeS wv Kj Kk wk a cap T hb bsb ra rc d dc lo hi u) (k:K_ u w') {ob:Nat} (h1:u.heap.size<=ob) (h2:ob < w'.heap.size):
  ShopM ⟨Kj,Kk,wk,wv,hb,bsb,a,cap,ob⟩ (start8 T wk) ⟨ra,rc,d,dc,lo,hi,none,0,none,0,none,0,[]⟩ w':=by
 have kk:But (fun _=> False) u w':= .of_kept k
 refine ⟨h.kw.trans k,h.row.kept k,k.range h.row.lt h.cel,h.hlow,h.blow, ?_,h.brow.kept k,fun q hq=> ?_,⟨rfl,.inl ⟨rfl,rfl⟩⟩,⟨rfl,.inl ⟨rfl,rfl⟩⟩,⟨rfl,.inl ⟨rfl,rfl⟩⟩,h.run.but kk (fun _ h=> h.elim),h.rts.but kk (fun _ h=> h.elim),fun x hx=> ?_,Nat.le_trans h.top k.size,Nat.le_trans h.kw.size h1,h2, ?_⟩
 ·show (List.replicate wk none).length=wk
  simp
 ·have e: (start8 T wk).busy.getD q none=none:=by
   show (List.replicate wk (none:Option EffD)).getD q none=none
   rw [List.getD,List.getElem?_replicate]
   split <;> rfl
  rw [e]
  exact k.range h.brow.lt (h.bsy q hq)
 ·rcases hx with e | e | e | e
  ·exact h.sep x (.inl e)
  ·exact h.sep x (.inr e)
  ·cases e
  ·cases e
 ·have:=h.top
  show¬(lo<=ob∧ob < hi)
  omega
def ShopJ (wv:World) (Kj:List Qq) (Kk:List ByteArray) (wk:Nat) (a:Option Addr) (cap:Nat) (T:List Qz) (x b:Act) (u:World):Prop:=
 ∃(v0 v1 v2 v3 v4 v5 v6 v7:Value) (hb bsb:Nat) (ra:Option Addr) (rc:Nat) (d:Option Addr) (dc lo hi:Nat),b= ((((((((x.put (some 24) v0).put (some 25) v1).put (some 26) v2).put (some 27) v3).put (some 28) v4).put (some 29) v5).put (some 30) v6).put (some 31) v7).put (some 7) (.pointer (some ⟨hb,0,none⟩))∧MadeS wv Kj Kk wk a cap T hb bsb ra rc d dc lo hi u
theorem last_tick {W:Acts} {t:Int} {S A:Shop} (h:Tick8 W t S A) (hr:t=0∨(Rest8 W (t - 1) S∧¬Idle8 S)) (hn: ¬∃(k:Nat) (e:EffD),S.busy[k]? =some (some e)∧e.fin=t) (hi:Idle8 A):t=0:=by
 rcases hr with hr | ⟨hr,hx⟩
 ·exact hr
 ·have:= (hr.tick (u:=t) (fun k e hk he=> hn ⟨k,e,hk,he⟩)).unique h
  rw [<-this] at hi
  exact absurd hi hx
structure WrkI (Kj:List Qq) (wk:Nat) (S0:Shop) (n:Nat) (S:Shop):Prop where
 frm:From8 (n:Int) S
 rst: (n:Int)=0∨(Rest8 (Q_ Kj) ((n:Int) - 1) S∧¬Idle8 S)
 way: ∀u A,Tck8 (Q_ Kj) (n:Int) S u A->Tck8 (Q_ Kj) 0 S0 u A
 bnd:Bnd8 Kj S
 slk:SlK Kj S
 tle: (n:Int)<=20 * (S.slots.length:Int)
theorem acts_paid {Kj:List Qq} (hok:ActsOk (Q_ Kj)):Paid (Q_ Kj):=fun n A hA=> by have:= (hok n A hA).1.1;omega
theorem Bnd8.few {Kj:List Qq} {wk:Nat} {S:Shop} (h:Bnd8 Kj S) (hl:Live8 Kj wk S) (hk:wk<=60):S.slots.length<=2060:=by
 have h1:=h.sl
 have h2:=busyN_le S.busy
 have h3:=hl.sane.len
 omega
theorem live_cost {Kj:List Qq} {wk:Nat} {S:Shop} (hok:ActsOk (Q_ Kj)) (hl:Live8 Kj wk S) (n:ByteArray) (hn:ReadyX (Q_ Kj) (Qj S.T) n):0<=costW (Q_ Kj) n∧costW (Q_ Kj) n<=20:=by
 obtain ⟨r,hr,_⟩:=hn
 obtain ⟨A,hA⟩:=Option.isSome_iff_exists.1 (hl.sane.ok.known n r hr)
 have h1:= (hok n A hA).1.1
 unfold costW
 rw [hA]
 simp only
 omega
section
variable {Kj : List Qq} {wk : Nat} {S0 S S1 S2 S3 : Shop} {n : Nat}
theorem WrkI.mid (h:WrkI Kj wk S0 n S) (hok:ActsOk (Q_ Kj)) (hl:Live8 Kj wk S) (h1:Fin8 (Q_ Kj) (n:Int) S S1) (h2:Spt8 (Q_ Kj) S1 S2):Live8 Kj wk S2∧Bnd8 Kj S2∧S2.slots=S.slots∧SlK Kj S2:=by
 obtain ⟨l1,_⟩:=h1.live hok hl
 obtain ⟨l2,_⟩:=h2.live hok l1
 obtain ⟨b1,e1⟩:=h1.bnd hok hl h.bnd
 obtain ⟨b2,e2⟩:=h2.bnd hok l1 b1
 refine ⟨l2,b2,e2.trans e1, ?_⟩
 unfold SlK
 rw [e2,e1]
 exact h.slk
theorem WrkI.tick (h:WrkI Kj wk S0 n S) (hok:ActsOk (Q_ Kj)) (hw:wk<=60) (hl:Live8 Kj wk S) (h1:Fin8 (Q_ Kj) (n:Int) S S1) (h2:Spt8 (Q_ Kj) S1 S2) (h3:Beg8 (Q_ Kj) (n:Int) S2 S3):Tick8 (Q_ Kj) (n:Int) S S3∧Bnd8 Kj S3∧SlK Kj S3∧Rest8 (Q_ Kj) (n:Int) S3∧S.slots.length<=S3.slots.length:=by
 obtain ⟨l2,b2,e2,k2⟩:=h.mid hok hl h1 h2
 have ht:Tick8 (Q_ Kj) (n:Int) S S3:= ⟨S1,S2,h1,h2,h3⟩
 obtain ⟨b3,e3⟩:=h3.bnd (live_cost hok l2) ⟨by omega,by rw [e2];exact h.tle⟩ b2
 have hf:=b2.few l2 hw
 have hn:=h.tle
 rw [<-e2] at hn
 refine ⟨ht,b3,h3.slk l2.sane.ok ⟨by omega,by omega⟩ k2,(ht.rest hl.sane.ok (acts_paid hok) h.frm).1,by rw [<-e2];exact e3⟩
theorem WrkI.next (h:WrkI Kj wk S0 n S) (ht:Tick8 (Q_ Kj) (n:Int) S S3) (hb:Bnd8 Kj S3) (hk:SlK Kj S3) (hr:Rest8 (Q_ Kj) (n:Int) S3) (hi: ¬Idle8 S3):WrkI Kj wk S0 (n+1) S3:=by
 have e1: ((n+1:Nat):Int) - 1= (n:Int):=by omega
 have e2: (n:Int)+1= ((n+1:Nat):Int):=by omega
 refine ⟨fun k e hk=> (by have:=hr.fin k e hk;omega),.inr ⟨by rw [e1];exact hr,hi⟩,fun u A hA=> h.way u A (.next ht hi (by rw [e2];exact hA)),hb,hk, ?_⟩
 by_cases hx: ∃(k:Nat) (e:EffD),S3.busy[k]? =some (some e)
 ·obtain ⟨k,e,hk⟩:=hx
  have h1:=hr.fin k e hk
  have h2:= (hb.fin k e hk).2
  omega
 ·exact absurd (fun k e hk=> hx ⟨k,e,hk⟩) hi
theorem WrkI.start {T:List Qz} (hg:GoodL Kj T) (hl:Kj.length<=60):WrkI Kj wk (start8 T wk) 0 (start8 T wk):=by
 have hb: ∀(k:Nat) (e:EffD),(start8 T wk).busy[k]?≠some (some e):=fun k e h=> by
  have h': (List.replicate wk (none:Option EffD))[k]? =some (some e):=h
  rw [List.getElem?_replicate] at h'
  split at h' <;> simp at h'
 refine ⟨fun k e hk=> absurd hk (hb k e),.inl rfl,fun u A h=> h,⟨?_,fun k e hk=> absurd hk (hb k e)⟩,(fun s hs=> by cases hs),(by show ((0:Nat):Int)<=20 * (((start8 T wk).slots.length:Nat):Int);omega)⟩
 show 0+potL Kj T<=2000+_
 have:=potL_le23 Kj T
 omega
end
