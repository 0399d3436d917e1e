import Derived.Test.YtgnkgfjmbmcfcaaGreatDoorKXAnswer
import Derived.Test.YtgnkgfjmbmcfcaaGreatDoorKDAns
import Derived.Deep.LoopGhost
import Derived.Deep.AppendLies
set_option maxRecDepth 100000
set_option maxHeartbeats 25600000
namespace Go.Proofs.YtgnkgfjmbmcfcaaGreatDoor
open Go.RowKit
theorem xInfo_parts {P:Program} {e:TypeId} {z:Value} {size bytes:Nat} (h: (P.info? e).map (fun i=> (i.zero,i.size,i.bytes))=some (some z,size,bytes)): ∃i,P.info? e=some i∧i.zero=some z∧i.size=size∧i.bytes=bytes:=by
 obtain ⟨i,hi,hzz⟩:=Option.map_eq_some_iff.1 h
 simp only [Prod.mk.injEq] at hzz
 exact ⟨i,hi,hzz.1,hzz.2.1,hzz.2.2⟩
theorem answersOf_snoc {W:Acts} {σ:Env} {a:ByteArray} {x:Xq}: ∀{l:List ByteArray} {xs:List Xq},Yq W σ l=some xs->ansOf W σ a=some x->Yq W σ (l++ [a])=some (xs++ [x])
 | [],xs,h,hx=> by
  simp only [Yq,Option.some.injEq] at h
  subst h
  simp [Yq,hx]
 | b :: l,xs,h,hx=> by
  unfold Yq at h
  cases hb:ansOf W σ b with
  | none=> simp [hb] at h
  | some y=>
   cases hl:Yq W σ l with
   | none=> simp [hb,hl] at h
   | some ys=>
    simp only [hb,hl,Option.some.injEq] at h
    subst h
    show Yq W σ (b :: (l++ [a]))=_
    unfold Yq
    rw [hb,answersOf_snoc hl hx]
    rfl
theorem answersOf_lack {W:Acts} {σ:Env} {a:ByteArray} (hx:ansOf W σ a=none): ∀{l:List ByteArray},a∈l->Yq W σ l=none
 | b :: l,h=> by
  unfold Yq
  rcases List.mem_cons.1 h with rfl | h
  ·rw [hx]
  ·cases hb:ansOf W σ b with
   | none=> rfl
   | some y=> simp only [answersOf_lack hx h]
def AnssSaid (Kj:List Qq) (l:List Qz) (asks:List ByteArray) (w':World) (e:Ending):Prop:=
 ∃(d:Option Addr) (n c:Nat) (ok:Bool),e= .returned (.tuple #[.slice d n c,.bool ok])∧(ok=true->∃xs,Yq (Q_ Kj) (Qj l) asks=some xs∧n=xs.length∧Answers w' d xs)∧(ok=false->Yq (Q_ Kj) (Qj l) asks=none)
theorem answers_any (w:World) (kb:Nat) (a:Option Addr) (cap:Nat) (Kj:List Qq) (d:Option Addr) (dc:Nat) (l:List Qz) (s:Xj) (aa ac:Option Addr) (ca cc:Nat) (hwl:Kj.length<=1048576) (hll:l.length<=1048576) (hal:s.asks.length<=1000) (has: ∀x∈s.asks,x.size<=1000)
  (hK:KnownX w kb a Kj.length cap d l.length dc) (hN:Nodes w a Kj) (hS:RunsX w d l) (hA:Strs w aa s.asks):
  Calls Tryz.prog 141 #[.pointer (some ⟨kb,0,none⟩),.agg #[.slice aa s.asks.length ca,.int .i64 s.on,.slice ac s.cases.length cc,.int .i64 s.els,.int .i64 s.fall,.bool s.fin,.bool s.bad,.string s.give]] w fun e w'=> AnssSaid Kj l s.asks w' e∧K_ w w':=by
 have k0:K_ w (w.alloc (.cells #[.slice aa s.asks.length ca,.int .i64 s.on,.slice ac s.cases.length cc,.int .i64 s.els,.int .i64 s.fall,.bool s.fin,.bool s.bad,.string s.give] 172)):= (K_.refl _).alloc _
 obtain ⟨W1,hW1⟩: ∃W1,W1=w.alloc (.cells #[.slice aa s.asks.length ca,.int .i64 s.on,.slice ac s.cases.length cc,.int .i64 s.els,.int .i64 s.fall,.bool s.fin,.bool s.bad,.string s.give] 172):= ⟨_,rfl⟩
 have q0:W1.cell? ⟨w.heap.size,0,none⟩=some (.slice aa s.asks.length ca):=by rw [hW1];exact Xz w _ _ 0 _ rfl
 have qz:w.heap.size < W1.heap.size:=by rw [hW1];simp
 rw [<-hW1] at k0
 have kE:K_ W1 (W1.alloc (.cells #[] 112)):= (K_.refl _).alloc _
 have HOwn:Hid ((W1.alloc (.cells #[] 112)).ownsRow W1.heap.size 112 2 (.slice (some ⟨W1.heap.size,0,none⟩) 0 0) 0 (dAnsCells [])):=World.ownsRow_made W1 #[] 0 (Nat.le_refl _) (Nat.zero_le _) rfl
 have HA1:=Kz (hA.kept k0)
 have HN1:=Kz (hN.kept k0)
 have HS1:=Kz (hS.kept k0)
 have HK1:=Kz (hK.kept k0)
 have HK0:=Kz k0
 clear hA hN hS hK k0
 go_enter Tryz.func141,Tryz.ntmps141
 go_upto_region 1 with fail
 rw [<-hW1]
 clear hW1
 go_wp2
 go_loopg [6,7] s.asks.length (fun gg x6 x7 wr=> ∃(i:Nat) (xs:List Xq),x7= .int .i64 (i:Int)∧i+gg=s.asks.length∧xs.length=i∧Hid (Yq (Q_ Kj) (Qj l) (s.asks.take i)=some xs)∧K_ W1 wr∧Hid (wr.ownsRow W1.heap.size 112 2 x6 xs.length (dAnsCells xs)))
 case atStart=> exact ⟨0,[],rfl,by omega,rfl,Kz rfl,kE,HOwn⟩
 case round=>
  clear HOwn kE
  obtain ⟨i,xs,rfl,hi,hxl,HA,Kr,HO⟩:=hrel
  have HXl:=Kz hxl
  clear hxl
  obtain ⟨av,cv,rfl⟩:=own_slice HO.out
  have c0:= (Kr.cell qz).trans q0
  have cz:w.heap.size < wr.heap.size:=Nat.lt_of_lt_of_le qz Kr.size
  by_cases hlt: (i:Int) < (s.asks.length:Int)
  ·have hil:i < s.asks.length:=by omega
   obtain ⟨sb,so,rfl,hsb,hsc⟩:= (HA1.out.kept Kr) i hil
   obtain ⟨nm,hnm⟩: ∃nm,nm=s.asks.getD i ByteArray.empty:= ⟨_,rfl⟩
   rw [<-hnm] at hsc
   have hnz:nm.size<=1000:=by rw [hnm];exact has _ (by simp [List.getD,hil])
   have HNm:=Kz hnm
   clear hnm
   go_wp2_with fail
   refine (answer_any wr kb a cap Kj d dc l nm hwl hll hnz (HK1.out.kept Kr) (HN1.out.kept Kr) (HS1.out.kept Kr)).mono ?_
   rintro e w3 ⟨⟨f,t,ok,rfl,hans⟩,k3⟩
   have HAns:=Kz hans
   clear hans hsc hsb
   have k4:K_ w3 (w3.alloc (.cells #[.bool f,.string t] 112)):= (K_.refl _).alloc _
   cases ok
   ·go_wp2_with fail
    go_ret2
    refine ⟨⟨av,_,cv,false,rfl,(fun h=> (by cases h)),fun _=> answersOf_lack (a:=nm) (by simpa using HAns.out) (by rw [HNm.out];simp [List.getD,hil])⟩,HK0.out.trans (Kr.trans (k3.trans k4))⟩
   ·have k5:K_ w3 ((w3.alloc (.cells #[.bool f,.string t] 112)).alloc (.cells #[.bool f,.string t] 112)):=k4.alloc _
    have r0:=Xz w3 #[.bool f,.string t] 112 0 _ rfl
    have r1:=Xz w3 #[.bool f,.string t] 112 1 _ rfl
    simp only [Nat.zero_add] at r0 r1
    have HOw:=Kz (ownsRow_kept' HO.out (k3.trans k5))
    have hbz:W1.heap.size<=((w3.alloc (.cells #[.bool f,.string t] 112)).alloc (.cells #[.bool f,.string t] 112)).heap.size:= (Kr.trans (k3.trans k5)).size
    have HNw:Hid (∀j u,([.bool f,.string t]:List Value)[j]? =some u->((w3.alloc (.cells #[.bool f,.string t] 112)).alloc (.cells #[.bool f,.string t] 112)).cell? ((⟨w3.heap.size+1,0,none⟩:Addr).add j)=some u):=fun j u hu=> by have:=Xz (w3.alloc (.cells #[.bool f,.string t] 112)) #[.bool f,.string t] 112 j u hu;rw [World.size_alloc] at this;rw [Addr.add_mid];exact this
    have HOne:Hid (∀u∈([.bool f,.string t]:List Value),u.oneCell'=true):=fun u hu=> by simp only [List.mem_cons,List.not_mem_nil,or_false] at hu;rcases hu with rfl | rfl <;> rfl
    have KK:=Kz (Kr.trans (k3.trans k5))
    have hxl:xs.length<=1000:=by have:=HXl.out;omega
    obtain ⟨ic,hc0,hc1,hc2,hc3⟩:=xInfo_parts Tryz.dInfoAns
    clear k3 k4 k5
    go_wp2_with (at_builtin;refine wpList_append_own _ rfl (.tmp 31) (.tmp 33) 216 rfl W1.heap.size 112 ic _ 2 24 Tryz.underlying216 hc0 hc1 hc2 hc3 rfl (by decide) (.slice av xs.length cv) xs.length (dAnsCells xs) rfl HOw.out ⟨w3.heap.size+1,0,none⟩ 1 1 [.bool f,.string t] rfl rfl HNw.out HOne.out (by unfold maxLen;omega) (by omega) hbz ?_;intro v' w6 hown2 hgr _;have KP:=kept_of_grown KK.out (Nat.le_refl _) HOw.out hgr;have HP:=Kz hown2;obtain ⟨av2,cv2,rfl⟩:=own_slice hown2;clear hown2 hgr)
    go_roundg (gk - 1)
    case measure=> omega
    case rel=> exact ⟨i+1,xs++ [⟨f,t⟩],by go_num,by omega,by rw [List.length_append,HXl.out];rfl,Kz (by rw [List.take_succ_eq_append_getElem hil];exact answersOf_snoc HA.out (by rw [HNm.out] at HAns;simpa [List.getD,hil] using HAns.out)),KP,Kz (by rw [dAnsCells_snoc,List.length_append];exact HP.out)⟩
  ·have hie:i=s.asks.length:=by omega
   go_wp2_with fail
   go_ret2
   refine ⟨⟨av,_,cv,true,rfl,fun _=> ⟨xs, ?_,rfl, ?_⟩,(fun h=> (by cases h))⟩,HK0.out.trans Kr⟩
   ·have:=HA.out;rw [hie,List.take_length] at this;exact this
   ·obtain ⟨d2,c2,e2,_,hT⟩:=d_tans_of_owned HO.out;simp only [Value.slice.injEq,true_and] at e2;obtain ⟨rfl,_⟩:=e2;exact hT.answers
def KnewX (w w':World) (a:Option Addr) (n cap:Nat) (d:Option Addr) (m dc:Nat) (e:Ending):Prop:= ∃kb,e= .returned (.pointer (some ⟨kb,0,none⟩))∧KnownX w' kb a n cap d m dc∧K_ w w'
theorem l4Known_any (w:World) (a:Option Addr) (n cap:Nat) (ra:Option Addr) (rn rc:Nat) (d:Option Addr) (m dc:Nat):
  Calls Tryz.prog 56 #[.agg #[.slice a n cap],.agg #[.slice ra rn rc,.slice d m dc]] w fun e w'=> KnewX w w' a n cap d m dc e:=by
 go_enter Tryz.func56,Tryz.ntmps56
 go_wp2
 go_ret
 have h:=RowT.made ((w.alloc (.cells #[.slice a n cap] 37)).alloc (.cells #[.slice ra rn rc,.slice d m dc] 53)) #[.slice a n cap,.slice d m dc] 94
 have h0:=Xz ((w.alloc (.cells #[.slice a n cap] 37)).alloc (.cells #[.slice ra rn rc,.slice d m dc] 53)) #[.slice a n cap,.slice d m dc] 94 0 _ rfl
 have h1:=Xz ((w.alloc (.cells #[.slice a n cap] 37)).alloc (.cells #[.slice ra rn rc,.slice d m dc] 53)) #[.slice a n cap,.slice d m dc] 94 1 _ rfl
 simp only [World.size_alloc,Nat.zero_add] at h h0 h1
 exact ⟨_,rfl,⟨h,h0,h1⟩,(((K_.refl w).alloc _).alloc _).alloc _⟩
def SmallAsks (Kj:List Qq):Prop:= ∀y∈Kj,∀s∈y.steps,s.asks.length<=1000∧∀x∈s.asks,x.size<=1000
theorem canGo_any (w:World) (a:Option Addr) (cap:Nat) (Kj:List Qq) (ra:Option Addr) (rn rc:Nat) (d:Option Addr) (dc:Nat) (l:List Qz) (r:Qz) (xa:Option Addr) (xc:Nat) (hwl:Kj.length<=1048576) (hll:l.length<=1048576) (hsz:SmallAsks Kj)
  (hin:r.over=false->r.Zj≠0->InAct Kj r) (hN:Nodes w a Kj) (hS:RunsX w d l):
  Calls Tryz.prog 101 #[.agg #[.slice a Kj.length cap],.agg #[.slice ra rn rc,.slice d l.length dc],.agg #[.string r.name,.bool r.over,.bool r.fail,.string r.text,.int .i64 r.at',.int .i64 r.Zj,.slice xa r.texts.length xc]] w fun e w'=> Says e (CanGo (Q_ Kj) (Qj l) r)∧K_ w w':=by
 obtain ⟨WB,hWB⟩: ∃WB,WB= ((w.alloc (.cells #[.slice a Kj.length cap] 37)).alloc (.cells #[.slice ra rn rc,.slice d l.length dc] 53)).alloc (.cells #[.string r.name,.bool r.over,.bool r.fail,.string r.text,.int .i64 r.at',.int .i64 r.Zj,.slice xa r.texts.length xc] 103):= ⟨_,rfl⟩
 have kB:K_ w WB:=by rw [hWB];exact (((K_.refl _).alloc _).alloc _).alloc _
 have hBs:WB.heap.size=w.heap.size+3:=by rw [hWB];simp
 have b0:WB.cell? ⟨w.heap.size,0,none⟩=some (.slice a Kj.length cap):=by rw [hWB,K_.cell (w:=w.alloc (.cells #[.slice a Kj.length cap] 37)) (((K_.refl _).alloc _).alloc _) (by simp)];exact Xz w _ _ 0 _ rfl
 have s0:WB.cell? ⟨w.heap.size+1,0,none⟩=some (.slice ra rn rc):=by have:=Xz (w.alloc (.cells #[.slice a Kj.length cap] 37)) #[.slice ra rn rc,.slice d l.length dc] 53 0 _ rfl;rw [World.size_alloc] at this;rw [hWB,K_.cell (w:= (w.alloc (.cells #[.slice a Kj.length cap] 37)).alloc (.cells #[.slice ra rn rc,.slice d l.length dc] 53)) ((K_.refl _).alloc _) (by simp)];exact this
 have s1:WB.cell? ⟨w.heap.size+1,1,none⟩=some (.slice d l.length dc):=by have:=Xz (w.alloc (.cells #[.slice a Kj.length cap] 37)) #[.slice ra rn rc,.slice d l.length dc] 53 1 _ rfl;rw [World.size_alloc] at this;rw [hWB,K_.cell (w:= (w.alloc (.cells #[.slice a Kj.length cap] 37)).alloc (.cells #[.slice ra rn rc,.slice d l.length dc] 53)) ((K_.refl _).alloc _) (by simp)];exact this
 have rr: ∀j v,(#[.string r.name,.bool r.over,.bool r.fail,.string r.text,.int .i64 r.at',.int .i64 r.Zj,.slice xa r.texts.length xc]:Array Value).toList[j]? =some v->WB.cell? ⟨w.heap.size+2,j,none⟩=some v:=fun j v hv=> by have:=Xz ((w.alloc (.cells #[.slice a Kj.length cap] 37)).alloc (.cells #[.slice ra rn rc,.slice d l.length dc] 53)) #[.string r.name,.bool r.over,.bool r.fail,.string r.text,.int .i64 r.at',.int .i64 r.Zj,.slice xa r.texts.length xc] 103 j v hv;rw [World.size_alloc,World.size_alloc,Nat.zero_add] at this;rw [hWB];exact this
 have r0:=rr 0 _ rfl
 have r1:=rr 1 _ rfl
 have r4:=rr 4 _ rfl
 have r5:=rr 5 _ rfl
 have z0:w.heap.size < WB.heap.size:=by omega
 have z1:w.heap.size+1 < WB.heap.size:=by omega
 have z2:w.heap.size+2 < WB.heap.size:=by omega
 have HKB:=Kz kB
 have HBs:=Kz hBs
 clear rr kB hBs
 go_enter Tryz.func101,Tryz.ntmps101
 go_upto_region 1 with fail
 rw [<-hWB]
 clear hWB
 cases ho:r.over
 ·rw [ho] at r1
  by_cases hv:r.Zj=0
  ·have hv0: (r.Zj == 0)=true:=by simp [hv]
   go_wp2
   go_ret
   exact ⟨.yes ⟨ho,.inl hv⟩,HKB.out⟩
  ·have hv0: (r.Zj == 0)=false:=by simpa using hv
   obtain ⟨A,hA,ha0,ha1⟩:=hin ho hv
   have Zz:Hid (∀w',K_ WB w'->w'.cell? ⟨w.heap.size,0,none⟩=some (.slice a Kj.length cap)∧w'.cell? ⟨w.heap.size+1,0,none⟩=some (.slice ra rn rc)∧w'.cell? ⟨w.heap.size+1,1,none⟩=some (.slice d l.length dc)∧w'.cell? ⟨w.heap.size+2,0,none⟩=some (.string r.name)∧w'.cell? ⟨w.heap.size+2,4,none⟩=some (.int .i64 r.at')):=fun w' K=> ⟨(K.cell z0).trans b0,(K.cell z1).trans s0,(K.cell z1).trans s1,(K.cell z2).trans r0,(K.cell z2).trans r4⟩
   go_upto_region 5 with fail
   refine Qx.rk 22 Zz.out ((K_.refl WB).drew) (fun Z_=> ?_)
   have KD:K_ WB WB.drew:= (K_.refl WB).drew
   generalize hwd:WB.drew=wd at Z_ KD⊢
   clear hwd b0 s0 s1 r0 r4 r1 r5
   refine Qx.tk 0 Z_ ?_
   refine Qx.tk 1 Z_ ?_
   refine Qx.tk 3 Z_ ?_
   refine Qx.tk 4 Z_ ?_
   refine Qx.tk 5 Z_ ?_
   refine Qx.tk 6 Z_ ?_
   refine Qx.tk 7 Z_ ?_
   refine Qx.tk 13 Z_ ?_
   refine Qx.tk 14 Z_ ?_
   refine Qx.nx 2 (fun K hK=> ?_)
   rw [if_pos (by rfl)]
   go_simp
   go_at_call 56
   refine (l4Known_any wd a Kj.length cap ra rn rc d l.length dc).mono ?_
   rintro e w1 ⟨kb,rfl,hK1,k1⟩
   have K1:=KD.trans k1
   have HK1:=Kz hK1
   clear hK1 k1
   dsimp only
   refine hK.out _ _ (fun _=> Zz.out _ K1) ?_
   clear hK K
   try simp only [Act.put,upA,upB,upC]
   clear Z_
   refine Qx.nx 8 (fun K hK=> ?_)
   rw [if_pos (by rfl)]
   go_simp
   go_at_call 55
   refine (l2At_place w1 a cap Kj r.name hwl ((hN.kept HKB.out).kept K1)).mono ?_
   rintro e w2 ⟨⟨q,rfl,hq⟩,k2⟩
   have K2:=K1.trans k2
   have HK2:=Kz (HK1.out.kept k2)
   clear k2
   rcases hq with ⟨k,hk,rfl,hact,_⟩ | ⟨rfl,hact⟩
   ·rw [hA] at hact
    simp only [Option.some.injEq] at hact
    have hN2:= (hN.kept HKB.out).kept K2
    obtain ⟨nb,nq,cs,rfl,hnb,hcs,na,nc,rfl,hSt⟩:=hN2 k hk
    obtain ⟨y,hy⟩: ∃y,y=Kj.getD k Qq.zero:= ⟨_,rfl⟩
    rw [<-hy] at hcs hSt hact
    have n2:=hcs 2 _ rfl
    subst hact
    obtain ⟨ix,hix⟩: ∃ix:Nat,r.at'= (ix:Int):= ⟨r.at'.toNat,by omega⟩
    have hixl:ix < y.steps.length:=by have h1:=ha1;rw [hix] at h1;dsimp only at h1;omega
    obtain ⟨tb,tq,cs2,rfl,htb,hcs2,aa,ca,ac,cc,rfl,hAs,hCs,_⟩:=hSt ix hixl
    obtain ⟨s,hs⟩: ∃s,s=y.steps.getD ix Xj.zero:= ⟨_,rfl⟩
    rw [<-hs] at hcs2 hAs hCs
    have t0:=hcs2 0 _ rfl
    have t1:=hcs2 1 _ rfl
    have t2:=hcs2 2 _ rfl
    have t3:=hcs2 3 _ rfl
    have t4:=hcs2 4 _ rfl
    have t5:=hcs2 5 _ rfl
    have t6:=hcs2 6 _ rfl
    have t7:=hcs2 7 _ rfl
    rw [Nat.add_zero] at t0
    have hki: (k:Int) < (Kj.length:Int):=by omega
    have hii: (ix:Int) < (y.steps.length:Int):=by omega
    have hsm:s∈y.steps:=by rw [hs];simp [List.getD,hixl]
    have hym:y∈Kj:=by rw [hy];simp [List.getD,hk]
    have hal:= (hsz y hym s hsm).1
    have has:= (hsz y hym s hsm).2
    have HAs:=Kz hAs
    have HS2:=Kz (hS.kept (HKB.out.trans K2))
    have HNN:=Kz hN2
    have HStep:Hid (stepOf ⟨y.cost,y.steps⟩ r.at'=s):=by show _=_;unfold stepOf;rw [hix,hs];rfl
    have HA:=Kz hA
    clear hcs hcs2 hAs hCs hSt hy hs hA hN2 ha0 ha1 hsm hym
    rw [hix]
    have HIx:=Kz hix
    clear hix
    dsimp only
    refine hK.out _ _ (fun _=> Zz.out _ K2) ?_
    clear hK K
    try simp only [Act.put,upA,upB,upC]
    refine Qx.nx 9 (fun K hK=> ?_)
    go_simp
    refine hK.out _ _ (fun _=> Zz.out _ K2) ?_
    clear hK K
    try simp only [Act.put,upA,upB,upC]
    refine Qx.nx 10 (fun K hK=> ?_)
    go_simp
    refine hK.out _ _ (fun _=> Zz.out _ K2) ?_
    clear hK K
    try simp only [Act.put,upA,upB,upC]
    refine Qx.nx 11 (fun K hK=> ?_)
    go_simp
    refine hK.out _ _ (fun _=> Zz.out _ K2) ?_
    clear hK K
    try simp only [Act.put,upA,upB,upC]
    refine Qx.nx 12 (fun K hK=> ?_)
    go_simp
    refine hK.out _ _ (fun _=> Zz.out _ K2) ?_
    clear hK K
    try simp only [Act.put,upA,upB,upC]
    refine Qx.nx 15 (fun K hK=> ?_)
    go_simp
    refine hK.out _ _ (fun _=> Zz.out _ K2) ?_
    clear hK K
    try simp only [Act.put,upA,upB,upC]
    refine Qx.nx 16 (fun K hK=> ?_)
    go_simp
    refine hK.out _ _ (fun _=> Zz.out _ K2) ?_
    clear hK K
    try simp only [Act.put,upA,upB,upC]
    refine Qx.nx 17 (fun K hK=> ?_)
    rw [if_pos (by rfl)]
    go_simp
    go_at_call 141
    refine (answers_any w2 kb (some ⟨nb,nq,none⟩) cap Kj d dc l s aa ac ca cc hwl hll hal has HK2.out HNN.out HS2.out HAs.out).mono ?_
    rintro e w3 ⟨⟨d3,n3,c3,ok,rfl,hyes,hno⟩,k3⟩
    have K3:=K2.trans k3
    have HY:=Kz hyes
    have HNo:=Kz hno
    clear hyes hno k3 t0 t1 t2 t3 t4 t5 t6 t7 n2
    dsimp only
    refine hK.out _ _ (fun _=> Zz.out _ K3) ?_
    clear hK K
    try simp only [Act.put,upA,upB,upC]
    refine Qx.nx 18 (fun K hK=> ?_)
    go_simp
    refine hK.out _ _ (fun _=> Zz.out _ K3) ?_
    clear hK K
    try simp only [Act.put,upA,upB,upC]
    have Z_:=Zz.out _ K3
    refine Qx.tk 19 Z_ ?_
    refine Qx.tk 20 Z_ ?_
    refine Qx.nx 21 (fun K hK=> ?_)
    go_simp
    refine hK.out _ _ (fun _=> Zz.out _ K3) ?_
    clear hK K
    try simp only [Act.put,upA,upB,upC]
    refine Qx.nx 22 (fun K hK=> ?_)
    go_simp
    refine hK.out _ _ (fun h=> absurd rfl h) ?_
    clear hK K
    try simp only [Act.put,upA,upB,upC]
    refine Qx.dn ?_
    go_wp2
    go_ret
    refine ⟨?_,HKB.out.trans K3⟩
    cases ok
    ·refine .no fun h=> ?_
     rcases h.2 with h | ⟨A',xs,h1,h2⟩
     ·exact hv h
     ·rw [HA.out] at h1;cases h1;rw [HStep.out,HNo.out rfl] at h2;cases h2
    ·obtain ⟨xs,h1,_⟩:=HY.out rfl
     exact .yes ⟨ho,.inr ⟨_,xs,HA.out,by rw [HStep.out];exact h1⟩⟩
   ·rw [hA] at hact
    cases hact
 ·rw [ho] at r1
  go_wp2
  go_ret
  exact ⟨.no (fun h=> (by have h1:=h.1;rw [ho] at h1;cases h1)),HKB.out⟩
theorem Tryz.xInfoStr : (Tryz.prog.info? 9).map (fun i=> (i.zero,i.size,i.bytes))=some (some (.string ByteArray.empty),1,16):=by kernel_rfl
theorem d_strs_of_owned {w:World} {base:Nat} {t:TypeId} {v:Value} {n:Nat} {l:List ByteArray} (h:w.ownsRow base t 1 v n (l.map Value.string)): ∃a cap,v= .slice a l.length cap∧l.length<=cap∧Strs w a l:=by
 have hn:n=l.length:=by have:=h.1;simp at this;omega
 subst hn
 rcases h.2 with ⟨rfl,h0⟩ | ⟨g,cap,cur,rfl,hb,hg,hnc,_,_,_⟩
 ·exact ⟨none,0,by rw [h0],by omega,fun i hi=> by omega⟩
 ·refine ⟨_,cap,rfl,hnc,fun i hi=> ⟨g,0,rfl,heap_lt hg, ?_⟩⟩
  have:=h.cells (g:=g) rfl i (.string (l.getD i ByteArray.empty)) (by simp [List.getD,hi])
  rw [Addr.add_mid] at this
  exact this
theorem take_next {l:List Qz} {i:Nat} (h:i < l.length):l.take (i+1)=l.take i++ [l.getD i Qz.zero]:=by
 rw [List.take_succ_eq_append_getElem h]
 simp [List.getD,h]
def ReadySaid (n0:Nat) (Kj:List Qq) (l:List Qz) (w':World) (e:Ending):Prop:= ∃(da:Option Addr) (c:Nat) (ns:List ByteArray),e= .returned (.slice da ns.length c)∧ReadyL (Q_ Kj) (Qj l) l ns∧w'.ownsRow n0 9 1 (.slice da ns.length c) ns.length (ns.map Value.string)
theorem ready_any (w:World) (a:Option Addr) (cap:Nat) (Kj:List Qq) (ra:Option Addr) (rn rc:Nat) (d:Option Addr) (dc:Nat) (l:List Qz) (hwl:Kj.length<=1048576) (hll:l.length<=1048576) (hsz:SmallAsks Kj)
  (hin: ∀r∈l,r.over=false->r.Zj≠0->InAct Kj r) (hN:Nodes w a Kj) (hS:RunsX w d l):
  Calls Tryz.prog 51 #[.agg #[.slice a Kj.length cap],.agg #[.slice ra rn rc,.slice d l.length dc]] w fun e w'=> ReadySaid w.heap.size Kj l w' e∧K_ w w':=by
 obtain ⟨WB,hWB⟩: ∃WB,WB= (w.alloc (.cells #[.slice a Kj.length cap] 37)).alloc (.cells #[.slice ra rn rc,.slice d l.length dc] 53):= ⟨_,rfl⟩
 have kB:K_ w WB:=by rw [hWB];exact ((K_.refl _).alloc _).alloc _
 have hBs:WB.heap.size=w.heap.size+2:=by rw [hWB];simp
 have b0:WB.cell? ⟨w.heap.size,0,none⟩=some (.slice a Kj.length cap):=by rw [hWB,K_.cell (w:=w.alloc (.cells #[.slice a Kj.length cap] 37)) ((K_.refl _).alloc _) (by simp)];exact Xz w _ _ 0 _ rfl
 have s0:WB.cell? ⟨w.heap.size+1,0,none⟩=some (.slice ra rn rc):=by have:=Xz (w.alloc (.cells #[.slice a Kj.length cap] 37)) #[.slice ra rn rc,.slice d l.length dc] 53 0 _ rfl;rw [World.size_alloc] at this;rw [hWB];exact this
 have s1:WB.cell? ⟨w.heap.size+1,1,none⟩=some (.slice d l.length dc):=by have:=Xz (w.alloc (.cells #[.slice a Kj.length cap] 37)) #[.slice ra rn rc,.slice d l.length dc] 53 1 _ rfl;rw [World.size_alloc] at this;rw [hWB];exact this
 have z0:w.heap.size < WB.heap.size:=by omega
 have z1:w.heap.size+1 < WB.heap.size:=by omega
 have kE:K_ WB (WB.alloc (.cells #[] 9)):= (K_.refl _).alloc _
 have HOwn:Hid ((WB.alloc (.cells #[] 9)).ownsRow WB.heap.size 9 1 (.slice (some ⟨WB.heap.size,0,none⟩) 0 0) 0 (([]:List ByteArray).map Value.string)):=World.ownsRow_made WB #[] 0 (Nat.le_refl _) (Nat.zero_le _) rfl
 have HKB:=Kz kB
 clear kB hBs
 go_enter Tryz.func51,Tryz.ntmps51
 go_upto_region 1 with fail
 rw [<-hWB]
 clear hWB
 go_wp2
 go_loopg [5,6] l.length (fun gg x5 x6 wr=> ∃(i:Nat) (ns:List ByteArray),x6= .int .i64 (i:Int)∧i+gg=l.length∧ns.length<=i∧Hid (ReadyL (Q_ Kj) (Qj l) (l.take i) ns)∧K_ WB wr∧Hid (wr.ownsRow WB.heap.size 9 1 x5 ns.length (ns.map Value.string)))
 case atStart=> exact ⟨0,[],rfl,by omega,Nat.le_refl _,Kz .nil,kE,HOwn⟩
 case round=>
  clear HOwn kE
  obtain ⟨i,ns,rfl,hi,hnl,HR,Kr,HO⟩:=hrel
  obtain ⟨av,cv,rfl⟩:=own_slice HO.out
  have c0:= (Kr.cell z0).trans b0
  have c1:= (Kr.cell z1).trans s0
  have c2:= (Kr.cell z1).trans s1
  have y0:w.heap.size < wr.heap.size:=Nat.lt_of_lt_of_le z0 Kr.size
  have y1:w.heap.size+1 < wr.heap.size:=Nat.lt_of_lt_of_le z1 Kr.size
  by_cases hlt: (i:Int) < (l.length:Int)
  ·have hil:i < l.length:=by omega
   obtain ⟨b,o,xa,xc,rfl,hb,hc,hT,hx⟩:= (hS.kept (HKB.out.trans Kr)) i hil
   obtain ⟨r,hr⟩: ∃r,r=l.getD i Qz.zero:= ⟨_,rfl⟩
   rw [<-hr] at hc hT
   have hrm:r∈l:=by rw [hr];simp [List.getD,hil]
   have t0:=hc 0 _ rfl
   have t1:=hc 1 _ rfl
   have t2:=hc 2 _ rfl
   have t3:=hc 3 _ rfl
   have t4:=hc 4 _ rfl
   have t5:=hc 5 _ rfl
   have t6:=hc 6 _ rfl
   rw [Nat.add_zero] at t0
   have HRr:=Kz hr
   clear hc hr
   have Zz:Hid (∀w',K_ wr w'->w'.cell? ⟨w.heap.size,0,none⟩=some (.slice a Kj.length cap)∧w'.cell? ⟨w.heap.size+1,0,none⟩=some (.slice ra rn rc)∧w'.cell? ⟨w.heap.size+1,1,none⟩=some (.slice (some ⟨b,o,none⟩) l.length dc)∧w'.cell? ⟨b,o+i * 7,none⟩=some (.string r.name)∧w'.cell? ⟨b,o+i * 7+1,none⟩=some (.bool r.over)∧w'.cell? ⟨b,o+i * 7+2,none⟩=some (.bool r.fail)∧w'.cell? ⟨b,o+i * 7+3,none⟩=some (.string r.text)∧w'.cell? ⟨b,o+i * 7+4,none⟩=some (.int .i64 r.at')∧w'.cell? ⟨b,o+i * 7+5,none⟩=some (.int .i64 r.Zj)∧w'.cell? ⟨b,o+i * 7+6,none⟩=some (.slice xa r.texts.length xc)):=fun w' K=> ⟨(K.cell y0).trans c0,(K.cell y1).trans c1,(K.cell y1).trans c2,(K.cell hb).trans t0,(K.cell hb).trans t1,(K.cell hb).trans t2,(K.cell hb).trans t3,(K.cell hb).trans t4,(K.cell hb).trans t5,(K.cell hb).trans t6⟩
   go_upto_region 5 with fail
   refine Qx.rg 7 Zz.out fun wd KD Z_=> ?_
   refine Qx.tk 0 Z_ ?_
   refine Qx.tk 1 Z_ ?_
   refine Qx.tk 2 Z_ ?_
   refine Qx.tk 3 Z_ ?_
   refine Qx.tk 4 Z_ ?_
   refine Qx.tk 5 Z_ ?_
   refine Qx.tk 6 Z_ ?_
   refine Qx.nx 7 (fun K hK=> ?_)
   rw [if_pos (by rfl)]
   go_simp
   go_at_call 101
   refine (canGo_any wd a cap Kj ra rn rc (some ⟨b,o,none⟩) dc l r xa xc hwl hll hsz (hin r hrm) (hN.kept (HKB.out.trans (Kr.trans KD))) (hS.kept (HKB.out.trans (Kr.trans KD)))).mono ?_
   rintro e w3 ⟨hsay,k3⟩
   have K3:=KD.trans k3
   clear k3
   rcases hsay.cases with ⟨rfl,hyes⟩ | ⟨rfl,hno⟩
   ·dsimp only
    refine hK.out _ _ (fun h=> absurd rfl h) ?_
    clear hK K Z_
    try simp only [Act.put,upA,upB,upC]
    refine Qx.dn ?_
    have HY:=Kz hyes
    clear hyes hsay t0 t1 t2 t3 t4 t5 t6 c0 c1 c2
    obtain ⟨u0,u1,u2,v0,_⟩:=Zz.out _ K3
    have hb3:=Nat.lt_of_lt_of_le hb K3.size
    have y13:=Nat.lt_of_lt_of_le y1 K3.size
    have k1:K_ w3 (w3.alloc (.cells #[.string r.name] 9)):= (K_.refl _).alloc _
    have HOw:=Kz (ownsRow_kept' HO.out (K3.trans k1))
    have KK:=Kz (Kr.trans (K3.trans k1))
    have hbz:WB.heap.size<=(w3.alloc (.cells #[.string r.name] 9)).heap.size:=KK.out.size
    have HNw:Hid (∀j u,([.string r.name]:List Value)[j]? =some u->(w3.alloc (.cells #[.string r.name] 9)).cell? ((⟨w3.heap.size,0,none⟩:Addr).add j)=some u):=fun j u hu=> by rw [Addr.add_mid];exact Xz w3 #[.string r.name] 9 j u hu
    have HOne:Hid (∀u∈([.string r.name]:List Value),u.oneCell'=true):=fun u hu=> by simp only [List.mem_cons,List.not_mem_nil,or_false] at hu;subst hu;rfl
    have hnl2:ns.length<=1048576:=by omega
    have hil2: (i:Int) < (l.length:Int):=hlt
    obtain ⟨ic,hc0,hc1,hc2,hc3⟩:=xInfo_parts Tryz.xInfoStr
    clear k1
    go_wp2_with (at_builtin;refine wpList_append_own _ rfl (.tmp 23) (.tmp 30) 25 rfl WB.heap.size 9 ic _ 1 16 Tryz.underlying25 hc0 hc1 hc2 hc3 rfl (by decide) (.slice av ns.length cv) ns.length (ns.map Value.string) rfl HOw.out ⟨w3.heap.size,0,none⟩ 1 1 [.string r.name] rfl rfl HNw.out HOne.out (by unfold maxLen;omega) (by omega) hbz ?_;intro v' w6 hown2 hgr _;have KP:=kept_of_grown KK.out (Nat.le_refl _) HOw.out hgr;have HP:=Kz hown2;obtain ⟨av2,cv2,rfl⟩:=own_slice hown2;clear hown2 hgr)
    go_roundg (gk - 1)
    case measure=> omega
    case rel=> exact ⟨i+1,ns++ [r.name],by go_num,by omega,by rw [List.length_append];show ns.length+1<=i+1;omega,Kz (by rw [take_next hil,<-HRr.out];exact HR.out.yes HY.out),KP,Kz (by rw [List.map_append,List.length_append];exact HP.out)⟩
   ·dsimp only
    refine hK.out _ _ (fun h=> absurd rfl h) ?_
    clear hK K Z_
    try simp only [Act.put,upA,upB,upC]
    refine Qx.dn ?_
    have HNo:=Kz hno
    clear hno hsay
    go_wp2
    go_roundg (gk - 1)
    case measure=> omega
    case rel=> exact ⟨i+1,ns,by go_num,by omega,by omega,Kz (by rw [take_next hil,<-HRr.out];exact HR.out.no HNo.out),Kr.trans K3,Kz (ownsRow_kept' HO.out K3)⟩
  ·have hie:i=l.length:=by omega
   have HT:=Kz (owns_base (base':=w.heap.size) HO.out HKB.out.size)
   go_wp2_with fail
   go_ret
   refine ⟨⟨av,cv,ns,rfl, ?_,HT.out⟩,HKB.out.trans Kr⟩
   have h:=HR.out
   rw [hie,List.take_length] at h
   exact h
theorem goodOf_snoc (l:List Xq) (x:Xq):goodOf (l++ [x])=goodOf l++if x.fail=true then [] else [x.text]:=by
 unfold goodOf
 rw [List.filter_append,List.map_append]
 cases hf:x.fail <;> simp [hf]
def GoodSaid (xs:List Xq) (w':World) (e:Ending):Prop:= ∃(g c:Nat),e= .returned (.slice (some ⟨g,0,none⟩) (goodOf xs).length c)∧Strs w' (some ⟨g,0,none⟩) (goodOf xs)
theorem good_any (w:World) (d:Option Addr) (dc:Nat) (xs:List Xq) (hxl:xs.length<=1000) (hS:Answers w d xs):
  Calls Tryz.prog 170 #[.slice d xs.length dc] w fun e w'=> GoodSaid xs w' e∧K_ w w':=by
 have kE:K_ w (w.alloc (.cells #[] 9)):= (K_.refl _).alloc _
 have HOwn:Hid ((w.alloc (.cells #[] 9)).ownsRow w.heap.size 9 1 (.slice (some ⟨w.heap.size,0,none⟩) 0 0) 0 (([]:List ByteArray).map Value.string)):=World.ownsRow_made w #[] 0 (Nat.le_refl _) (Nat.zero_le _) rfl
 go_enter Tryz.func170,Tryz.ntmps170
 go_wp2
 go_loopg [3,4] xs.length (fun gg x3 x4 wr=> ∃(i:Nat) (g cv:Nat),x3= .slice (some ⟨g,0,none⟩) (goodOf (xs.take i)).length cv∧x4= .int .i64 (i:Int)∧i+gg=xs.length∧(goodOf (xs.take i)).length<=i∧K_ w wr∧Hid (wr.ownsRow w.heap.size 9 1 (.slice (some ⟨g,0,none⟩) (goodOf (xs.take i)).length cv) (goodOf (xs.take i)).length ((goodOf (xs.take i)).map Value.string)))
 case atStart=> exact ⟨0,w.heap.size,0,rfl,rfl,by omega,Nat.le_refl _,kE,HOwn⟩
 case round=>
  clear HOwn kE
  obtain ⟨i,g,cv,rfl,rfl,hi,hnl,Kr,HO⟩:=hrel
  by_cases hlt: (i:Int) < (xs.length:Int)
  ·have hil:i < xs.length:=by omega
   obtain ⟨b,o,rfl,hb,hc⟩:= (hS.kept Kr) i hil
   obtain ⟨x,hx⟩: ∃x,x=xs.getD i Xq.zero:= ⟨_,rfl⟩
   rw [<-hx] at hc
   have t0:=hc 0 _ rfl
   have t1:=hc 1 _ rfl
   rw [Nat.add_zero] at t0
   have HT:Hid (xs.take (i+1)=xs.take i++ [x]):=by show _=_;rw [List.take_succ_eq_append_getElem hil,hx];simp [List.getD,hil]
   obtain ⟨ns,hns⟩: ∃ns,ns=goodOf (xs.take i):= ⟨_,rfl⟩
   rw [<-hns] at hnl HO⊢
   have HNs:=Kz hns
   clear hc hx hns
   cases hf:x.fail
   ·rw [hf] at t0
    have k1:K_ wr (wr.alloc (.cells #[.string x.text] 9)):= (K_.refl _).alloc _
    have HOw:=Kz (ownsRow_kept' HO.out k1)
    have KK:=Kz (Kr.trans k1)
    have hbz:w.heap.size<=(wr.alloc (.cells #[.string x.text] 9)).heap.size:=KK.out.size
    have HNw:Hid (∀j u,([.string x.text]:List Value)[j]? =some u->(wr.alloc (.cells #[.string x.text] 9)).cell? ((⟨wr.heap.size,0,none⟩:Addr).add j)=some u):=fun j u hu=> by rw [Addr.add_mid];exact Xz wr #[.string x.text] 9 j u hu
    have HOne:Hid (∀u∈([.string x.text]:List Value),u.oneCell'=true):=fun u hu=> by simp only [List.mem_cons,List.not_mem_nil,or_false] at hu;subst hu;rfl
    obtain ⟨ic,hc0,hc1,hc2,hc3⟩:=xInfo_parts Tryz.xInfoStr
    clear k1
    go_wp2_with (at_builtin;refine wpList_append_lies _ rfl (.tmp 18) (.tmp 24) 25 rfl w.heap.size 9 ic _ 1 16 Tryz.underlying25 hc0 hc1 hc2 hc3 rfl (by decide) (.slice (some ⟨g,0,none⟩) ns.length cv) ns.length (ns.map Value.string) rfl HOw.out ⟨wr.heap.size,0,none⟩ 1 1 [.string x.text] rfl rfl HNw.out HOne.out (by omega) (by unfold maxLen;omega) (by omega) hbz _ rfl ?_;intro g2 cv2 w6 hown2 hgr hat hlt2;have KP:=kept_of_grown KK.out (Nat.le_refl _) HOw.out hgr;have HP:=Kz hown2;clear hown2 hgr hat hlt2)
    go_roundg (gk - 1)
    case measure=> omega
    case rel=>
     have e:goodOf (xs.take (i+1))=ns++ [x.text]:=by rw [HT.out,goodOf_snoc,<-HNs.out,hf];rfl
     exact ⟨i+1,g2,cv2,by rw [e,List.length_append];rfl,by go_num,by omega,by rw [e,List.length_append];show ns.length+1<=i+1;omega,KP,Kz (by rw [e,List.map_append,List.length_append];exact HP.out)⟩
   ·rw [hf] at t0
    go_wp2
    go_roundg (gk - 1)
    case measure=> omega
    case rel=>
     have e:goodOf (xs.take (i+1))=ns:=by rw [HT.out,goodOf_snoc,<-HNs.out,hf];simp
     exact ⟨i+1,g,cv,by rw [e],by go_num,by omega,by rw [e];omega,Kr,Kz (by rw [e];exact HO.out)⟩
  ·have hie:i=xs.length:=by omega
   have e:goodOf (xs.take i)=goodOf xs:=by rw [hie,List.take_length]
   rw [e] at HO⊢
   obtain ⟨d2,c2,e2,hcc,hT⟩:=d_strs_of_owned HO.out
   simp only [Value.slice.injEq,true_and] at e2
   obtain ⟨rfl,rfl⟩:=e2
   have HT:=Kz hT
   clear hT e
   go_wp2_with fail
   go_ret
   exact ⟨⟨g,cv,rfl,HT.out⟩,Kr⟩
theorem Tryz.xSizeRun : (Tryz.prog.info? 103).map (·.size)=some 7:=by kernel_rfl
theorem range_set {w:World} {b o n:Nat} {cs:List Value} (h:w.rangeAt b 0 cs) (hr:Row w b n) (ho:o < n) (v:Value): (w.setCell ⟨b,o,none⟩ v).rangeAt b 0 (cs.set o v):=by
 intro j u hu
 rw [Nat.zero_add]
 rw [List.getElem?_set] at hu
 by_cases e:o=j
 ·subst e
  rw [if_pos rfl] at hu
  by_cases hl:o < cs.length
  ·rw [if_pos hl] at hu
   cases hu
   exact set_hit hr ho _
  ·rw [if_neg hl] at hu
   cases hu
 ·rw [if_neg e] at hu
  rw [Xx e]
  have:=h j u hu
  rw [Nat.zero_add] at this
  exact this
structure RBox (w:World) (b:Nat) (r:Qz) (xa:Option Addr) (xc:Nat):Prop where
 row:RowT w b 103 7
 rng:w.rangeAt b 0 (r.cells xa xc)
theorem RBox.all {w:World} {b:Nat} {r:Qz} {xa:Option Addr} {xc:Nat} (h:RBox w b r xa xc):w.cell? ⟨b,0,none⟩=some (.string r.name)∧w.cell? ⟨b,1,none⟩=some (.bool r.over)∧w.cell? ⟨b,2,none⟩=some (.bool r.fail)∧w.cell? ⟨b,3,none⟩=some (.string r.text)∧w.cell? ⟨b,4,none⟩=some (.int .i64 r.at')∧w.cell? ⟨b,5,none⟩=some (.int .i64 r.Zj)∧w.cell? ⟨b,6,none⟩=some (.slice xa r.texts.length xc):=by
 have hc: ∀j v,(r.cells xa xc)[j]? =some v->w.cell? ⟨b,j,none⟩=some v:=fun j v hv=> by have:=h.rng j v hv;rw [Nat.zero_add] at this;exact this
 exact ⟨hc 0 _ rfl,hc 1 _ rfl,hc 2 _ rfl,hc 3 _ rfl,hc 4 _ rfl,hc 5 _ rfl,hc 6 _ rfl⟩
theorem RBox.kept {w w':World} {b:Nat} {r:Qz} {xa:Option Addr} {xc:Nat} (h:RBox w b r xa xc) (k:K_ w w'):RBox w' b r xa xc:= ⟨h.row.kept k,k.range h.row.lt h.rng⟩
theorem RBox.put {w:World} {b:Nat} {r r':Qz} {xa xa':Option Addr} {xc xc' o:Nat} {v:Value} (h:RBox w b r xa xc) (ho:o < 7) (e:r'.cells xa' xc'= (r.cells xa xc).set o v):RBox (w.setCell ⟨b,o,none⟩ v) b r' xa' xc':= ⟨h.row.set _,by rw [e];exact range_set h.rng h.row.row ho v⟩
def StrsA (n0:Nat) (w:World) (c:Nat) (a:Option Addr) (l:List ByteArray):Prop:= ∀i,i < l.length->∃b o,a=some ⟨b,o,none⟩∧b < w.heap.size∧(b < n0∨c+2<=b)∧w.cell? ⟨b,o+i,none⟩=some (.string (l.getD i ByteArray.empty))
theorem StrsA.strs {n0:Nat} {w:World} {c:Nat} {a:Option Addr} {l:List ByteArray} (h:StrsA n0 w c a l):Strs w a l:=fun i hi=> by
 obtain ⟨b,o,e,hb,_,hc⟩:=h i hi
 exact ⟨b,o,e,hb,hc⟩
theorem StrsA.kept {n0:Nat} {w w':World} {c:Nat} {a:Option Addr} {l:List ByteArray} (h:StrsA n0 w c a l) (k:K_ w w'):StrsA n0 w' c a l:=fun i hi=> by
 obtain ⟨b,o,e,hb,h1,hc⟩:=h i hi
 exact ⟨b,o,e,Nat.lt_of_lt_of_le hb k.size,h1,(k.cell hb).trans hc⟩
theorem StrsA.set {n0:Nat} {w:World} {c p:Nat} (hn:n0<=c) {a:Option Addr} {l:List ByteArray} (h:StrsA n0 w c a l) (v:Value):StrsA n0 (w.setCell ⟨c,p,none⟩ v) c a l:=fun i hi=> by
 obtain ⟨b,o,e,hb,h1,hc⟩:=h i hi
 exact ⟨b,o,e,by rw [size_setCell];exact hb,h1,by rw [Zk (by omega)];exact hc⟩
theorem StrsA.set1 {n0:Nat} {w:World} {c p:Nat} (hn:n0<=c) {a:Option Addr} {l:List ByteArray} (h:StrsA n0 w c a l) (v:Value):StrsA n0 (w.setCell ⟨c+1,p,none⟩ v) c a l:=fun i hi=> by
 obtain ⟨b,o,e,hb,h1,hc⟩:=h i hi
 exact ⟨b,o,e,by rw [size_setCell];exact hb,h1,by rw [Zk (by omega)];exact hc⟩
theorem StrsA.sets {n0 c:Nat} (hn:n0<=c) {a:Option Addr} {l:List ByteArray}: ∀(vs:List Value) (p:Nat) {w:World},StrsA n0 w c a l->StrsA n0 (w.setCells (c+1) p vs) c a l
 | [],_,_,h=> h
 | v :: r,p,_,h=> by rw [World.setCells];exact StrsA.sets hn r (p+1) (h.set1 hn v)
theorem StrsA.old {n0:Nat} {w w':World} {c:Nat} {a:Option Addr} {l:List ByteArray} (h:Strs w a l) (k:K_ w w') (hc:w.heap.size<=n0):StrsA n0 w' c a l:=fun i hi=> by
 obtain ⟨b,o,e,hb,hcc⟩:=h i hi
 exact ⟨b,o,e,Nat.lt_of_lt_of_le hb k.size,by omega,(k.cell hb).trans hcc⟩
theorem StrsA.owned {n0:Nat} {w:World} {base c:Nat} {t:TypeId} {v:Value} {n:Nat} {l:List ByteArray} (h:w.ownsRow base t 1 v n (l.map Value.string)) (hc:c+2<=base): ∃a cap,v= .slice a l.length cap∧StrsA n0 w c a l∧(a=none->cap=0):=by
 have hn:n=l.length:=by have:=h.1;simp at this;omega
 subst hn
 rcases h.2 with ⟨rfl,h0⟩ | ⟨g,cap,cur,rfl,hb,hg,hnc,_,_,_⟩
 ·exact ⟨none,0,by rw [h0],(fun i hi=> by omega),fun _=> rfl⟩
 ·refine ⟨_,cap,rfl,(fun i hi=> ⟨g,0,rfl,heap_lt hg,by omega, ?_⟩),fun e=> by cases e⟩
  have:=h.cells (g:=g) rfl i (.string (l.getD i ByteArray.empty)) (by simp [List.getD,hi])
  rw [Addr.add_mid] at this
  exact this
structure NSt (n0:Nat) (w wr:World) (ab:Nat) (cost:Int) (sa:Option Addr) (sn sc:Nat) (r:Qz) (xa:Option Addr) (xc:Nat):Prop where
 kw:K_ w wr
 box:RBox wr (w.heap.size+2) r xa xc
 res:RowT wr (w.heap.size+2+1) 103 7
 a0:wr.cell? ⟨ab,0,none⟩=some (.int .i64 cost)
 a1:wr.cell? ⟨ab,1,none⟩=some (.slice sa sn sc)
 abl:w.heap.size+4<=ab
 abz:ab < wr.heap.size
 low:n0<=w.heap.size
 txt:StrsA n0 wr (w.heap.size+2) xa r.texts
 nil:xa=none->xc=0
section
variable {n0 : Nat} {w wr w' : World} {ab : Nat} {cost : Int} {sa : Option Addr} {sn sc : Nat} {r r' : Qz} {xa xa' : Option Addr} {xc xc' : Nat}
theorem NSt.kept (h:NSt n0 w wr ab cost sa sn sc r xa xc) (k:K_ wr w'):NSt n0 w w' ab cost sa sn sc r xa xc:=
 ⟨h.kw.trans k,h.box.kept k,h.res.kept k,(k.cell h.abz).trans h.a0,(k.cell h.abz).trans h.a1,h.abl,Nat.lt_of_lt_of_le h.abz k.size,h.low,h.txt.kept k,h.nil⟩
theorem NSt.putT (h:NSt n0 w wr ab cost sa sn sc r xa xc) {o:Nat} {v:Value} (ho:o < 7) (e:r'.cells xa' xc'= (r.cells xa xc).set o v) (ht:StrsA n0 wr (w.heap.size+2) xa' r'.texts) (hn:xa'=none->xc'=0):NSt n0 w (wr.setCell ⟨w.heap.size+2,o,none⟩ v) ab cost sa sn sc r' xa' xc':=by
 have hne:ab≠w.heap.size+2:=by have:=h.abl;omega
 have hne2:w.heap.size+2+1≠w.heap.size+2:=by omega
 exact ⟨Below.setCell h.kw (p:= ⟨w.heap.size+2,o,none⟩) (by show w.heap.size<=w.heap.size+2;omega) v,h.box.put ho e,h.res.block (Below.heap_setCell _ _ _ _ hne2),by rw [Zk hne];exact h.a0,by rw [Zk hne];exact h.a1,h.abl,by rw [size_setCell];exact h.abz,h.low,ht.set (by have:=h.low;omega) v,hn⟩
theorem NSt.put (h:NSt n0 w wr ab cost sa sn sc r xa xc) {o:Nat} {v:Value} (ho:o < 7) (e:r'.cells xa xc= (r.cells xa xc).set o v) (ht:r'.texts=r.texts):NSt n0 w (wr.setCell ⟨w.heap.size+2,o,none⟩ v) ab cost sa sn sc r' xa xc:=
 h.putT ho e (by rw [ht];exact h.txt) h.nil
end
theorem NSt.made {n0:Nat} {w WB wE:World} {ab:Nat} {cost:Int} {sa:Option Addr} {sn sc:Nat} {r:Qz} {xa:Option Addr} {xc:Nat} (kB:K_ w WB) (hBs:WB.heap.size=w.heap.size+4) (K:K_ WB wE) (hbox:RBox WB (w.heap.size+2) r xa xc) (hres:RowT WB (w.heap.size+2+1) 103 7) (hn0:n0<=w.heap.size) (ht:StrsA n0 WB (w.heap.size+2) xa r.texts) (hx:xa=none->xc=0) (hab:WB.heap.size<=ab) (hrow:RowT wE ab 88 2):
  K_ WB ((wE.setCell ⟨ab,0,none⟩ (.int .i64 cost)).setCell ⟨ab,1,none⟩ (.slice sa sn sc))∧NSt n0 w ((wE.setCell ⟨ab,0,none⟩ (.int .i64 cost)).setCell ⟨ab,1,none⟩ (.slice sa sn sc)) ab cost sa sn sc r xa xc:=by
 have K':K_ WB ((wE.setCell ⟨ab,0,none⟩ (.int .i64 cost)).setCell ⟨ab,1,none⟩ (.slice sa sn sc)):=Below.setCell (Below.setCell K (p:= ⟨ab,0,none⟩) hab _) (p:= ⟨ab,1,none⟩) hab _
 refine ⟨K',kB.trans K',hbox.kept K',hres.kept K',(Xx (by omega) _).trans (set_hit hrow.row (by omega) _),set_hit (hrow.set _).row (by omega) _,by omega, ?_,hn0,ht.kept K',hx⟩
 rw [size_setCell,size_setCell]
 exact hrow.lt
def NextSaid (n0 c:Nat) (W:Acts) (σ:Env) (r:Qz) (w':World) (e:Ending):Prop:=
 ∃(xa':Option Addr) (xc':Nat) (ka:Option Addr) (kc:Nat),e= .returned (.tuple #[.agg ((Y_ W σ r).1.cells xa' xc').toArray,.slice ka (Y_ W σ r).2.length kc])∧StrsA n0 w' c xa' (Y_ W σ r).1.texts∧(xa'=none->xc'=0)∧StrsA n0 w' c ka (Y_ W σ r).2
theorem kept_sets {w:World} {g:Nat} (hg:w.heap.size<=g): ∀(vs:List Value) (o:Nat) {u:World},K_ w u->K_ w (u.setCells g o vs)
 | [],_,_,h=> h
 | v :: r,o,_,h=> by rw [World.setCells];exact kept_sets hg r (o+1) (Below.setCell h (p:= ⟨g,o,none⟩) hg v)
theorem NSt.ends {n0:Nat} {W:Acts} {σ:Env} {w wr:World} {ab:Nat} {cost:Int} {sa:Option Addr} {sn sc:Nat} {r r':Qz} {xa:Option Addr} {xc:Nat} {asks:List ByteArray} {ka:Option Addr} {kn kc:Nat} {e:Ending} (h:NSt n0 w wr ab cost sa sn sc r' xa xc) (hx:Y_ W σ r= (r',asks)) (hk:StrsA n0 wr (w.heap.size+2) ka asks) (hkn:kn=asks.length)
  (he:e= .returned (.tuple #[.agg (r'.cells xa xc).toArray,.slice ka kn kc])):NextSaid n0 (w.heap.size+2) W σ r (wr.setCells (w.heap.size+2+1) 0 (r'.cells xa xc)) e∧K_ w (wr.setCells (w.heap.size+2+1) 0 (r'.cells xa xc)):=by
 refine ⟨⟨xa,xc,ka,kc, ?_, ?_,h.nil, ?_⟩,kept_sets (by omega) _ _ h.kw⟩
 ·rw [hx,he,hkn]
 ·rw [hx];exact h.txt.sets (by have:=h.low;omega) _ _
 ·rw [hx];exact hk.sets (by have:=h.low;omega) _ _
theorem Tryz.xInfoRun : (Tryz.prog.info? 103).map (fun i=> (i.zero,i.size,i.bytes))=some (some (.agg #[.string ⟨#[]⟩,.bool false,.bool false,.string ⟨#[]⟩,.int .i64 0,.int .i64 0,.slice none 0 0]),7,80):=by kernel_rfl
def RunsXP (w:World) (P:Nat->Prop) (a:Option Addr) (l:List Qz):Prop:=
 ∀i,i < l.length->∃b o xa xc,a=some ⟨b,o,none⟩∧b < w.heap.size∧w.rangeAt b (o+i * 7) ((l.getD i Qz.zero).cells xa xc)∧Strs w xa (l.getD i Qz.zero).texts∧(xa=none->xc=0)∧(∀ad:Addr,xa=some ad->P ad.block)
theorem RunsXP.kept {w w':World} {P:Nat->Prop} {a:Option Addr} {l:List Qz} (h:RunsXP w P a l) (k:K_ w w'):RunsXP w' P a l:=by
 intro i hi
 obtain ⟨b,o,xa,xc,e,hb,hr,hs,hx⟩:=h i hi
 exact ⟨b,o,xa,xc,e,Nat.lt_of_lt_of_le hb k.size,k.range hb hr,hs.kept k,hx⟩
theorem RunsXP.runs {w:World} {P:Nat->Prop} {a:Option Addr} {l:List Qz} (h:RunsXP w P a l):RunsX w a l:=by
 intro i hi
 obtain ⟨b,o,xa,xc,e,hb,hr,hs,hx,_⟩:=h i hi
 exact ⟨b,o,xa,xc,e,hb,hr,hs,hx⟩
theorem RunsX.all {w:World} {a:Option Addr} {l:List Qz} (h:RunsX w a l):RunsXP w (fun _=> True) a l:=by
 intro i hi
 obtain ⟨b,o,xa,xc,e,hb,hr,hs,hx⟩:=h i hi
 exact ⟨b,o,xa,xc,e,hb,hr,hs,hx,fun _ _=> trivial⟩
def PackedX (w:World) (P:Nat->Prop) (xs:List Value) (l:List Qz):Prop:=xs.length=l.length * 7∧∀i,i < l.length->∃xa xc,(xs.drop (i * 7)).take 7= (l.getD i Qz.zero).cells xa xc∧Strs w xa (l.getD i Qz.zero).texts∧(xa=none->xc=0)∧(∀ad:Addr,xa=some ad->P ad.block)
theorem PackedX.nil (w:World) (P:Nat->Prop):PackedX w P [] []:= ⟨rfl,fun i hi=> by simp at hi⟩
theorem PackedX.kept {w w':World} {P:Nat->Prop} {xs:List Value} {l:List Qz} (h:PackedX w P xs l) (k:K_ w w'):PackedX w' P xs l:= ⟨h.1,fun i hi=> by obtain ⟨xa,xc,e,hs,hx⟩:=h.2 i hi;exact ⟨xa,xc,e,hs.kept k,hx⟩⟩
theorem PackedX.snoc {w:World} {P:Nat->Prop} {xs:List Value} {l:List Qz} {r:Qz} {xa:Option Addr} {xc:Nat} (h:PackedX w P xs l) (hs:Strs w xa r.texts) (hx:xa=none->xc=0) (hp: ∀ad:Addr,xa=some ad->P ad.block):PackedX w P (xs++r.cells xa xc) (l++ [r]):=by
 refine ⟨by simp [h.1,Qz.cells];omega,fun i hi=> ?_⟩
 rw [List.length_append] at hi
 simp only [List.length_cons,List.length_nil] at hi
 by_cases e:i < l.length
 ·have e1: (l++ [r]).getD i Qz.zero=l.getD i Qz.zero:=by simp [List.getD,List.getElem?_append_left e]
  have e2: ((xs++r.cells xa xc).drop (i * 7)).take 7= (xs.drop (i * 7)).take 7:=by
   rw [List.drop_append_of_le_length (by rw [h.1];omega),List.take_append_of_le_length (by rw [List.length_drop,h.1];omega)]
  rw [e1,e2]
  exact h.2 i e
 ·obtain rfl:i=l.length:=by omega
  have e1: (l++ [r]).getD l.length Qz.zero=r:=by simp [List.getD]
  have e2: ((xs++r.cells xa xc).drop (l.length * 7)).take 7=r.cells xa xc:=by
   rw [<-h.1,List.drop_left]
   rfl
  rw [e1,e2]
  exact ⟨xa,xc,rfl,hs,hx,hp⟩
theorem PackedX.runs {w w':World} {P:Nat->Prop} {base n:Nat} {v:Value} {xs:List Value} {l:List Qz} (hO:w'.ownsRow base 103 7 v n xs) (h:PackedX w P xs l) (k:K_ w w'):n=l.length∧∃a cap,v= .slice a l.length cap∧RunsXP w' P a l:=by
 have hn:n=l.length:=by have q1:=hO.1;have q2:=h.1;omega
 subst hn
 refine ⟨rfl, ?_⟩
 rcases hO.2 with ⟨rfl,h0⟩ | ⟨g,cap,cur,rfl,hb,hg,hnc,_,_,_⟩
 ·exact ⟨none,0,by rw [h0],fun i hi=> by omega⟩
 ·refine ⟨_,cap,rfl,fun i hi=> ?_⟩
  obtain ⟨xa,xc,e,hs,hx⟩:=h.2 i hi
  refine ⟨g,0,xa,xc,rfl,heap_lt hg,(fun j u hu=> ?_),hs.kept k,hx⟩
  have hj:j < 7:=by have:= (List.getElem?_eq_some_iff.1 hu).1;simpa [Qz.cells] using this
  have hx': ((xs.drop (i * 7)).take 7)[j]? =some u:=by rw [e];exact hu
  rw [List.getElem?_take,if_pos hj,List.getElem?_drop] at hx'
  have:=hO.cells (g:=g) rfl _ _ hx'
  rw [Addr.add_mid] at this
  rw [Nat.zero_add] at this⊢
  exact this
theorem owned_set {w:World} {base c p:Nat} {t:TypeId} {v u:Value} {n:Nat} {l:List ByteArray} (h:w.ownsRow base t 1 v n (l.map Value.string)) (hc:c < base): ∃a cap,v= .slice a l.length cap∧Strs (w.setCell ⟨c,p,none⟩ u) a l∧(a=none->cap=0)∧(∀ad:Addr,a=some ad->base<=ad.block):=by
 have hn:n=l.length:=by have:=h.1;simp at this;omega
 subst hn
 rcases h.2 with ⟨rfl,h0⟩ | ⟨g,cap,cur,rfl,hb,hg,hnc,_,_,_⟩
 ·exact ⟨none,0,by rw [h0],(fun i hi=> by omega),(fun _=> rfl),fun ad e=> by cases e⟩
 ·refine ⟨_,cap,rfl,(fun i hi=> ⟨g,0,rfl,by rw [size_setCell];exact heap_lt hg, ?_⟩),(fun e=> by cases e),fun ad e=> by cases e;exact hb⟩
  have:=h.cells (g:=g) rfl i (.string (l.getD i ByteArray.empty)) (by simp [List.getD,hi])
  rw [Addr.add_mid] at this
  rw [Zk (by omega)]
  exact this
def PutSt (w2 wr:World) (P:Nat->Prop) (out:Value) (p:List Qz×Bool):Prop:= ∃xs,wr.ownsRow w2.heap.size 103 7 out p.1.length xs∧PackedX w2 P xs p.1∧K_ w2 wr
def RunsO (w w':World) (P:Nat->Prop) (v:Value) (l:List Qz):Prop:= ∃w2 xs,K_ w w2∧K_ w2 w'∧w'.ownsRow w2.heap.size 103 7 v l.length xs∧PackedX w2 P xs l
theorem RunsO.runs {w w':World} {P:Nat->Prop} {v:Value} {l:List Qz} (h:RunsO w w' P v l): ∃a cap,v= .slice a l.length cap∧RunsXP w' P a l:=by
 obtain ⟨w2,xs,_,k,hO,hP⟩:=h
 exact (hP.runs hO k).2
structure KnX (wz wr:World) (kb:Nat) (a:Option Addr) (n cap:Nat) (R:List Qz) (d:Option Addr) (dc:Nat) (xs:List Value):Prop where
 kw:K_ wz wr
 known:KnownX wr kb a n cap d R.length dc
 own:wr.ownsRow wz.heap.size 103 7 (.slice d R.length dc) R.length xs
 pack:PackedX wz (fun _=> True) xs R
theorem KnX.kept {wz wr w':World} {kb n cap dc:Nat} {a d:Option Addr} {R:List Qz} {xs:List Value} (h:KnX wz wr kb a n cap R d dc xs) (k:K_ wr w'):KnX wz w' kb a n cap R d dc xs:=
 ⟨h.kw.trans k,h.known.kept k,ownsRow_kept' h.own k,h.pack⟩
theorem KnX.runs {wz wr:World} {kb n cap dc:Nat} {a d:Option Addr} {R:List Qz} {xs:List Value} (h:KnX wz wr kb a n cap R d dc xs):RunsX wr d R:=by
 obtain ⟨_,a9,c9,ev,h9⟩:=PackedX.runs h.own h.pack h.kw
 simp only [Value.slice.injEq,true_and] at ev
 rw [ev.1]
 exact h9.runs
theorem own_ne {w:World} {kb base n:Nat} {v:Value} {xs:List Value} (hr:RowT w kb 94 2) (h:w.ownsRow base 103 7 v n xs):some kb≠v.ownBlock:=by
 rcases h.2 with ⟨rfl,_⟩ | ⟨g,cap,cur,rfl,_,hg,_⟩
 ·intro e;cases e
 ·intro e
  simp only [Value.ownBlock,Option.some.injEq] at e
  subst e
  obtain ⟨c2,h2,_⟩:=hr
  rw [hg] at h2
  simp only [Option.some.injEq,Obj.cells.injEq] at h2
  exact absurd h2.2.1 (by decide)
theorem KnX.block {wz wr W w6:World} {kb n cap dc:Nat} {a d:Option Addr} {R:List Qz} {xs:List Value} (h:KnX wz wr kb a n cap R d dc xs) (KW:K_ wr W) (hgr:W.grownBy w6 (Value.slice d R.length dc).ownBlock):w6.heap[kb]? =W.heap[kb]? :=
 hgr.block kb (h.known.kept KW).row.lt (own_ne (h.known.kept KW).row (ownsRow_kept' h.own KW))
theorem KnX.grown {wz wr W w6:World} {kb n cap dc:Nat} {a d:Option Addr} {R:List Qz} {xs:List Value} (h:KnX wz wr kb a n cap R d dc xs) (KW:K_ wr W) (hgr:W.grownBy w6 (Value.slice d R.length dc).ownBlock):K_ wz w6∧KnownX w6 kb a n cap d R.length dc:=by
 have hb:=h.block KW hgr
 have hk:=h.known.kept KW
 exact ⟨kept_of_grown (h.kw.trans KW) (Nat.le_refl _) (ownsRow_kept' h.own KW) hgr,hk.row.block hb,(World.cell?_of_block (w:=W) hb).trans hk.web,(World.cell?_of_block (w:=W) hb).trans hk.runs⟩
theorem owns_set2 {w:World} {base size:Nat} {e:TypeId} {v:Value} {n:Nat} {xs:List Value} (h:w.ownsRow base e size v n xs) {kb o:Nat} (hp:some kb≠v.ownBlock) (u:Value): (w.setCell ⟨kb,o,none⟩ u).ownsRow base e size v n xs:=by
 refine ⟨h.1, ?_⟩
 rcases h.2 with h2 | ⟨g,cap,cur,rfl,hb,hg,rest⟩
 ·exact .inl h2
 ·refine .inr ⟨g,cap,cur,rfl,hb, ?_,rest⟩
  rw [Below.heap_setCell _ _ _ _ (fun e=> hp (by simp [Value.ownBlock,e]))]
  exact hg
theorem KnX.next {wz wr W w6:World} {kb n cap dc cv6:Nat} {a d av6:Option Addr} {R:List Qz} {xs:List Value} {y:Qz} {xa:Option Addr} {xc:Nat} (h:KnX wz wr kb a n cap R d dc xs) (hk:wz.heap.size<=kb) (KW:K_ wr W) (hgr:W.grownBy w6 (Value.slice d R.length dc).ownBlock)
  (hO6:w6.ownsRow wz.heap.size 103 7 (.slice av6 (R.length+1) cv6) (R.length+1) (xs++y.cells xa xc)) (hs:Strs wz xa y.texts) (hx:xa=none->xc=0):
  KnX wz (w6.setCell ⟨kb,1,none⟩ (.slice av6 (R.length+1) cv6)) kb a n cap (R++ [y]) av6 cv6 (xs++y.cells xa xc):=by
 obtain ⟨k6,hK6⟩:=h.grown KW hgr
 have hl: (R++ [y]).length=R.length+1:=by simp
 refine ⟨Below.setCell k6 (p:= ⟨kb,1,none⟩) hk _,⟨hK6.row.set _, ?_, ?_⟩, ?_,h.pack.snoc hs hx (fun _ _=> trivial)⟩
 ·rw [Xx (by omega)]
  exact hK6.web
 ·rw [hl];exact set_hit hK6.row.row (by omega) _
 ·rw [hl];exact owns_set2 hO6 (own_ne hK6.row hO6) _
theorem wantL_snoc (W:Acts): ∀(bs:List ByteArray) (l:List Qz) (n:ByteArray),wantL W l (bs++ [n])=if (W n).isSome=true∧(Qj (wantL W l bs) n).isNone=true then wantL W l bs++ [Qz.fresh n] else wantL W l bs
 | [],_l,_n=> rfl
 | _b :: bs,_l,n=> wantL_snoc W bs _ n
theorem wantL_succ (W:Acts) (l:List Qz) {bs:List ByteArray} {k:Nat} (h:k < bs.length):wantL W l (bs.take (k+1))=if (W (bs.getD k ByteArray.empty)).isSome=true∧(Qj (wantL W l (bs.take k)) (bs.getD k ByteArray.empty)).isNone=true then wantL W l (bs.take k)++ [Qz.fresh (bs.getD k ByteArray.empty)] else wantL W l (bs.take k):=by
 rw [List.take_succ_eq_append_getElem h,wantL_snoc]
 simp [List.getD,h]
theorem wantL_len (W:Acts): ∀(bs:List ByteArray) (l:List Qz),(wantL W l bs).length<=l.length+bs.length
 | [],l=> by simp [wantL]
 | b :: bs,l=> by
  have h:=wantL_len W bs (if (W b).isSome=true∧(Qj l b).isNone=true then l++ [Qz.fresh b] else l)
  show (wantL W (if (W b).isSome=true∧(Qj l b).isNone=true then l++ [Qz.fresh b] else l) bs).length<=_
  split at h <;> rename_i hc
  ·rw [if_pos hc];simp at h⊢;omega
  ·rw [if_neg hc];simp at h⊢;omega
theorem l2At_inX (w:World) (a:Option Addr) (cap:Nat) (l:List Qq) (key:ByteArray) (hl:l.length<=1048576) (hS:Nodes w a l) (h: (Q_ l key).isSome=true):
  Calls Tryz.prog 55 #[.agg #[.slice a l.length cap],.string key] w fun e w'=> (∃r:Nat,e= .returned (.int .i64 (r:Int)))∧K_ w w':=by
 refine (l2At_place w a cap l key hl hS).mono ?_
 rintro e w' ⟨⟨r,rfl,hr⟩,k⟩
 rcases hr with ⟨i,_,rfl,_⟩ | ⟨_,hn⟩
 ·exact ⟨⟨i,rfl⟩,k⟩
 ·rw [hn] at h;cases h
theorem l2At_noX (w:World) (a:Option Addr) (cap:Nat) (l:List Qq) (key:ByteArray) (hl:l.length<=1048576) (hS:Nodes w a l) (h: ¬(Q_ l key).isSome=true):
  Calls Tryz.prog 55 #[.agg #[.slice a l.length cap],.string key] w fun e w'=> e= .returned (.int .i64 (-1))∧K_ w w':=by
 refine (l2At_place w a cap l key hl hS).mono ?_
 rintro e w' ⟨⟨r,rfl,hr⟩,k⟩
 rcases hr with ⟨i,_,rfl,hn,_⟩ | ⟨rfl,hn⟩
 ·rw [hn] at h;exact absurd rfl h
 ·exact ⟨rfl,k⟩
theorem find_noX (w:World) (kb:Nat) (a:Option Addr) (n cap:Nat) (d:Option Addr) (dc:Nat) (l:List Qz) (key:ByteArray) (hl:l.length<=1048576) (hK:KnownX w kb a n cap d l.length dc) (hS:RunsX w d l) (h: (Qj l key).isNone=true):
  Calls Tryz.prog 97 #[.pointer (some ⟨kb,0,none⟩),.string key] w fun e w'=> (∃r:Int,e= .returned (.int .i64 r)∧r < 0)∧w'=w:=by
 refine (findX w kb a n cap d dc l key hl hK hS).mono ?_
 rintro e w' ⟨⟨r,rfl,hr⟩,k⟩
 rcases hr with ⟨i,_,rfl,hn,_⟩ | ⟨rfl,_⟩
 ·rw [hn] at h;cases h
 ·exact ⟨⟨-1,rfl,by omega⟩,k⟩
theorem find_inX (w:World) (kb:Nat) (a:Option Addr) (n cap:Nat) (d:Option Addr) (dc:Nat) (l:List Qz) (key:ByteArray) (hl:l.length<=1048576) (hK:KnownX w kb a n cap d l.length dc) (hS:RunsX w d l) (h: ¬(Qj l key).isNone=true):
  Calls Tryz.prog 97 #[.pointer (some ⟨kb,0,none⟩),.string key] w fun e w'=> (∃r:Nat,e= .returned (.int .i64 (r:Int)))∧w'=w:=by
 refine (findX w kb a n cap d dc l key hl hK hS).mono ?_
 rintro e w' ⟨⟨r,rfl,hr⟩,k⟩
 rcases hr with ⟨i,_,rfl,_⟩ | ⟨_,hn⟩
 ·exact ⟨⟨i,rfl⟩,k⟩
 ·rw [hn] at h;exact absurd rfl h
