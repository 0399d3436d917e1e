import Derived.Test.YtgnkgfjmbmcfcaaGreatDoorKXJoin
import Derived.Sort.KeysCollected
set_option maxRecDepth 100000
set_option maxHeartbeats 25600000
namespace Go.Proofs.YtgnkgfjmbmcfcaaGreatDoor
open Go.RowKit
def WaitsOn (ts:List Zx) (ws:ByteArray->List Nat) (x s:ByteArray):Prop:= ∃t∈ts,t.r.name=x∧t.tb∈ws s
structure OutI (ts:List Zx) (ws:ByteArray->List Nat) (M:Nat) (P:ByteArray->Prop) (ol:ByteArray->List ByteArray):Prop where
 iff: ∀x s,s∈ol x↔P s∧WaitsOn ts ws x s
 nd: ∀x,(ol x).Nodup
 len: ∀x,(ol x).length<=M
theorem OutI.start {ts:List Zx} {ws:ByteArray->List Nat} {P:ByteArray->Prop} (h: ∀s,¬P s):OutI ts ws 0 P (fun _=> []):=
 ⟨fun x s=> ⟨fun e=> (by cases e),fun e=> (h s e.1).elim⟩,fun _=> List.nodup_nil,fun _=> Nat.le_refl _⟩
structure OutJ (ts:List Zx) (ws:ByteArray->List Nat) (M:Nat) (P:ByteArray->Prop) (s:ByteArray) (k:Nat) (ol:ByteArray->List ByteArray):Prop where
 iff: ∀x s',s'∈ol x↔(P s'∧WaitsOn ts ws x s')∨(s'=s∧∃t∈ts,t.r.name=x∧t.tb∈(ws s).take k)
 nd: ∀x,(ol x).Nodup
 len: ∀x,(ol x).length<=M
theorem OutI.enter {ts:List Zx} {ws:ByteArray->List Nat} {M:Nat} {P:ByteArray->Prop} {ol:ByteArray->List ByteArray} (h:OutI ts ws M P ol) (s:ByteArray):OutJ ts ws M P s 0 ol:=
 ⟨fun x s'=> by rw [h.iff];simp,h.nd,h.len⟩
theorem OutJ.leave {ts:List Zx} {ws:ByteArray->List Nat} {M:Nat} {P Q:ByteArray->Prop} {s:ByteArray} {k:Nat} {ol:ByteArray->List ByteArray} (h:OutJ ts ws M P s k ol) (hk: (ws s).length<=k) (hQ: ∀s',Q s'↔P s'∨s'=s):OutI ts ws M Q ol:=
 ⟨fun x s'=> by
  rw [h.iff,hQ,List.take_of_length_le hk]
  constructor
  ·rintro (⟨h1,h2⟩ | ⟨h1,h2⟩)
   ·exact ⟨.inl h1,h2⟩
   ·subst h1;exact ⟨.inr rfl,h2⟩
  ·rintro ⟨h1 | h1,h2⟩
   ·exact .inl ⟨h1,h2⟩
   ·subst h1;exact .inr ⟨rfl,h2⟩,h.nd,h.len⟩
theorem OutJ.put {ts:List Zx} {ws:ByteArray->List Nat} {M:Nat} {P:ByteArray->Prop} {s:ByteArray} {k:Nat} {ol:ByteArray->List ByteArray} (h:OutJ ts ws M P s k ol) (hP: ¬P s) (ha:AscX (Qk ts)) (hn: (ts.map (·.tb)).Nodup) (hw: (ws s).Nodup) {u:Zx} (hu:u∈ts) (hk: (ws s)[k]? =some u.tb):
  OutJ ts ws (M+1) P s (k+1) (fun n=> if n=u.r.name then ol u.r.name++ [s] else ol n):=by
 obtain ⟨hkl,hke⟩:=List.getElem?_eq_some_iff.1 hk
 have htk: (ws s).take (k+1)= (ws s).take k++ [u.tb]:=by rw [List.take_succ_eq_append_getElem hkl,hke]
 have one: ∀t∈ts,t.r.name=u.r.name->t=u:=fun t ht e=> by
  have h1:=asc_env ha (List.mem_map_of_mem (f:=fun t:Zx=> t.r) ht)
  have h2:=asc_env ha (List.mem_map_of_mem (f:=fun t:Zx=> t.r) hu)
  rw [e,h2] at h1
  obtain ⟨i,hi,rfl⟩:=List.getElem_of_mem ht
  obtain ⟨j,hj,rfl⟩:=List.getElem_of_mem hu
  rcases Nat.lt_trichotomy i j with g | g | g
  ·have:=List.pairwise_iff_getElem.1 ha i j (by simpa [Qk] using hi) (by simpa [Qk] using hj) g
   simp only [Qk,List.getElem_map] at this
   exact absurd e (lessX_ne this)
  ·subst g;rfl
  ·have:=List.pairwise_iff_getElem.1 ha j i (by simpa [Qk] using hj) (by simpa [Qk] using hi) g
   simp only [Qk,List.getElem_map] at this
   exact absurd e.symm (lessX_ne this)
 have hnin:u.tb∉(ws s).take k:=fun h=> by
  obtain ⟨q,hq,e⟩:=List.getElem_of_mem h
  rw [List.length_take] at hq
  rw [List.getElem_take] at e
  have:=List.pairwise_iff_getElem.1 hw q k (by omega) hkl (by omega)
  exact this (e.trans hke.symm)
 refine ⟨fun x s'=> ?_,fun x=> ?_,fun x=> ?_⟩
 ·by_cases e:x=u.r.name
  ·simp only [if_pos e]
   subst e
   rw [List.mem_append,List.mem_singleton,h.iff,htk]
   constructor
   ·rintro ((h1 | ⟨h1,t,h2,h3,h4⟩) | h1)
    ·exact .inl h1
    ·exact .inr ⟨h1,t,h2,h3,List.mem_append.2 (.inl h4)⟩
    ·exact .inr ⟨h1,u,hu,rfl,List.mem_append.2 (.inr (by simp))⟩
   ·rintro (h1 | ⟨h1,t,h2,h3,h4⟩)
    ·exact .inl (.inl h1)
    ·exact .inr h1
  ·simp only [if_neg e]
   rw [h.iff,htk]
   constructor
   ·rintro (h1 | ⟨h1,t,h2,h3,h4⟩)
    ·exact .inl h1
    ·exact .inr ⟨h1,t,h2,h3,List.mem_append.2 (.inl h4)⟩
   ·rintro (h1 | ⟨h1,t,h2,h3,h4⟩)
    ·exact .inl h1
    ·rcases List.mem_append.1 h4 with h4 | h4
     ·exact .inr ⟨h1,t,h2,h3,h4⟩
     ·rw [List.mem_singleton] at h4
      have:=tb_one hn h2 hu h4
      rw [this] at h3
      exact absurd h3.symm e
 ·by_cases e:x=u.r.name
  ·simp only [if_pos e]
   rw [List.nodup_append]
   refine ⟨h.nd _,by simp,fun a ha' b hb hab=> ?_⟩
   rw [List.mem_singleton] at hb
   rw [hab,hb,h.iff] at ha'
   rcases ha' with ⟨h1,_⟩ | ⟨_,t,h2,h3,h4⟩
   ·exact hP h1
   ·rw [one t h2 h3] at h4
    exact hnin h4
  ·simp only [if_neg e];exact h.nd x
 ·by_cases e:x=u.r.name
  ·simp only [if_pos e]
   rw [List.length_append]
   have:=h.len u.r.name
   show _+1<=M+1
   omega
  ·simp only [if_neg e]
   have:=h.len x
   omega
theorem ranges_but {H:Type} {P:Program} {k:TypeId} {Rr:Value->Option (DataW H×List MemPlace)} {w w':World} {b r n:Nat} {D:DataW H} {left:Lit->Bool} {cnt:Nat} {S:Nat->Prop} (h:w.ranges P k Rr b r n D left cnt) (q:But S w w') (hb: ¬S b) (hr: ¬S r):w'.ranges P k Rr b r n D left cnt:=by
 obtain ⟨es,clock,since,seen,c0,h1,h2,h3,h4,h5,h6⟩:=h
 exact ⟨es,clock,since,seen,c0,(q.block b (heap_lt h1) hb).trans h1,h2,h3,h4,(q.block r (heap_lt h5) hr).trans h5,h6⟩
theorem ranges_iter {H:Type} {P:Program} {k:TypeId} {Rr:Value->Option (DataW H×List MemPlace)} {w:World} {b r n:Nat} {D:DataW H} {left:Lit->Bool} {cnt:Nat} (h:w.ranges P k Rr b r n D left cnt) {t:TypeId}: ¬TypeAt w r t:=by
 obtain ⟨es,clock,since,seen,c0,_,_,_,_,h5,_⟩:=h
 rintro ⟨cur,fr,e⟩
 rw [h5] at e
 cases e
theorem ranges_map {H:Type} {P:Program} {k:TypeId} {Rr:Value->Option (DataW H×List MemPlace)} {w:World} {b r n:Nat} {D:DataW H} {left:Lit->Bool} {cnt:Nat} (h:w.ranges P k Rr b r n D left cnt) {t:TypeId}: ¬TypeAt w b t:=by
 obtain ⟨es,clock,since,seen,c0,h1,_⟩:=h
 rintro ⟨cur,fr,e⟩
 rw [h1] at e
 cases e
theorem BS.wname {Kj:List Qq} {ts:List Zx} {ws:ByteArray->List Nat} (h:BS Kj ts ws) (hok:ActsOk (Q_ Kj)) {t:Zx} (ht:t∈ts) {s:ByteArray} (hs:t.tb∈ws s):1<=s.size∧s.size<=20:=by
 have h1:= (h.wt s t ht).1 hs
 obtain ⟨A,hA,h2,h3⟩:= (h.good.good t.r (List.mem_map_of_mem ht)).act
 unfold pend at h1
 split at h1
 ·cases h1
 ·rw [hA] at h1
  have h4:= (asks_ok (hok _ _ hA).1 h2 h3).2 s (List.mem_filter.1 h1).1
  exact ⟨h4.1,h4.2.1⟩
theorem key_same {s s':ByteArray}: (keyLit s').sameKey (keyLit s)=true↔s'=s:=by
 constructor
 ·intro h
  by_cases e:s'=s
  ·exact e
  ·rw [Maps.sameKey_ne (keyLit_ne e)] at h;cases h
 ·rintro rfl
  simp [keyLit,Lit.sameKey]
def WaitsM (ts:List Zx) (ws:ByteArray->List Nat) (w w':World) (e:Ending):Prop:=
 ∃mo M g ol,e= .returned (.map (some mo))∧OutM w' w.heap.size mo M g ol∧OutI ts ws M (fun _=> True) ol∧M<=600000∧K_ w w'
section
variable {G : Ghost} {Kj : List Qq} {wz w w' : World} {bb : Nat} {a : Option Addr} {cap : Nat} {rd : Option Addr} {rn rc : Nat} {mb mx : Nat} {ts : List Zx} {d : Option Addr} {dc : Nat} {f : ByteArray -> Value} {ws : ByteArray -> List Nat}
theorem waits_any (hB:BM G Kj wz w bb a cap rd rn rc mb mx ts d dc f ws) (hS:BS Kj ts ws) (hok:ActsOk (Q_ Kj)) (hmx:mx<=9000) (hts:ts.length<=60):
  Calls Tryz.prog 84 #[.pointer (some ⟨bb,0,none⟩)] w fun e w'=> WaitsM ts ws w w' e:=by
 obtain ⟨N,D,hN,hM,hf⟩:=hB.map
 have hsz:=hM.size_le
 obtain ⟨WM,hWM⟩: ∃WM,WM=w.alloc (.map #[] 0):= ⟨_,rfl⟩
 have kM:K_ w WM:=by rw [hWM];exact (K_.refl _).alloc _
 have HO0:Hid (OutM WM w.heap.size w.heap.size 0 (fun _=> .slice none 0 0) (fun _=> [])):=by rw [hWM];exact OutM.made (Nat.le_refl _)
 have zM:WM.heap.size=w.heap.size+1:=by rw [hWM];simp
 have HM:=Kz (map_but (S:=fun _=> False) hM (But.of_kept kM) id)
 have c5:WM.cell? ⟨bb,5,none⟩=some (.map (some mb)):= (hB.kept kM).c5
 have bz:bb < WM.heap.size:= (hB.kept kM).row.lt
 have mbz:mb < w.heap.size:=hM.lt
 have HB:=Kz hB
 have HS:=Kz hS
 have HF:=Kz hf
 clear hB hS hM hf
 have hmm: (Instr.makeMap 157 none).run Tryz.prog w= .ok (.map (some w.heap.size)) (w.alloc (.map #[] 0)):=rfl
 go_enter Tryz.func84,Tryz.ntmps84
 go_upto_region 2 with fail
 clear hmm
 rw [<-hWM]
 clear hWM
 go_wp2_with (first | (at_range;refine wpList_range_own _ rfl _ 122 rfl 9 123 Tryz.keyed Tryz.underlying122 asIs mb N D rfl HM.out ?_;intro w0 hrg0 hg0 hs0))
 go_frame
 obtain ⟨ri,hri⟩: ∃ri,ri=WM.heap.size:= ⟨_,rfl⟩
 rw [<-hri] at hrg0 hs0⊢
 have K0:K_ w w0:= (But.of_grown (S:=fun _=> False) hg0 (fun b e=> by cases e)).kept kM (fun b e=> e.elim)
 have kG0:K_ WM w0:= (But.of_grown (S:=fun _=> False) hg0 (fun b e=> by cases e)).kept (K_.refl _) (fun b e=> e.elim)
 have HO1:=Kz (HO0.out.kept kG0)
 obtain ⟨mo,hmo⟩: ∃mo,mo=w.heap.size:= ⟨_,rfl⟩
 have HO1:Hid (OutM w0 w.heap.size mo 0 (fun _=> .slice none 0 0) (fun _=> [])):=by rw [hmo];exact HO1
 have hmr:mo < ri:=by omega
 have hwr:w.heap.size < ri:=by omega
 rw [<-hmo]
 have Hmo:Hid (w.heap.size<=mo):=Nat.le_of_eq hmo.symm
 clear hmo HO0 kG0 hg0 hs0 c5 hri zM kM HM
 go_loopw [4] (fun _ wr=> ∃(left:Lit->Bool) (cnt M:Nat) (g:ByteArray->Value) (ol:ByteArray->List ByteArray),wr.ranges Tryz.prog 9 asIs mb ri N D left cnt∧M+60 * cnt<=600000∧Hid (OutM wr w.heap.size mo M g ol)∧Hid (OutI ts ws M (fun s=> Maps.has D (keyLit s)=true∧left (keyLit s)=false) ol)∧K_ w wr) (fun _ wr=> wr.rangeLeft mb ri)
 case atStart=> exact ⟨_,_,0,_,_,hrg0,by omega,HO1,Kz (OutI.start fun s h=> by have h1:=h.1;have h2:=h.2;rw [h1] at h2;cases h2),K0⟩
 case round=>
  clear HO1 K0 hrg0
  obtain ⟨left,cnt,M,g,ol,hrg,hbud,HOm,HI,Kr⟩:=hrel
  go_wp2_with (first | (at_next;refine wpList_next_ranges (α:=ByteArray) (β:=Value) _ rfl _ rfl 9 Tryz.keyed asIs Value.string id (fun key kl hk=> by obtain ⟨x,hx,_⟩:=Maps.keyOf_str Tryz.underlying9 hk;exact ⟨_,hx⟩) (fun v y hv=> ⟨v,rfl⟩) mb ri N D left cnt rfl hrg ?_ ?_))
  ·intro hc0 hl0
   go_wp2
   go_ret
   refine ⟨mo,M,g,ol,rfl,HOm.out,⟨fun x s=> ?_,HI.out.nd,HI.out.len⟩,by omega,Kr⟩
   rw [HI.out.iff]
   refine ⟨fun h=> ⟨trivial,h.2⟩,fun h=> ⟨⟨?_,hl0 _⟩,h.2⟩⟩
   obtain ⟨t,ht,_,htw⟩:=h.2
   cases hh:Maps.has D (keyLit s)
   ·have hsm:= (HS.out.wname hok ht htw).2
    have h1:=HF.out s (by unfold maxLen;omega)
    rw [Maps.atKey_of_not_has hh] at h1
    have h2:f s= .slice none 0 0:=by injection h1 with h1;exact h1.symm
    have h3:=HB.out.wrow s
    rw [h2] at h3
    rcases h3.2 with ⟨_,h4⟩ | ⟨_,_,_,h4,_⟩
    ·rw [List.length_eq_zero_iff.1 h4] at htw;cases htw
    ·cases h4
   ·rfl
  ·intro s c kl yd yp w1 cnt1 hkey hlk hv hat hrg1 hlt hg1 hs1 hen
   have hsm:s.size<=maxLen∧kl=keyLit s:=by
    obtain ⟨x',e1,e2,e3⟩:=Maps.keyOf_str Tryz.underlying9 hkey
    unfold encStr at e1
    injection e1 with e1
    subst e1
    exact ⟨by show x'.toArray.size<=maxLen;simpa using e3,by rw [e2];unfold keyLit;simp⟩
   obtain ⟨hsm,rfl⟩:=hsm
   have hcf:c=f s:=by
    have h1:=hat (.held (.slice none 0 0))
    rw [HF.out s hsm] at h1
    unfold asIs at hv
    simp only [Option.some.injEq,Prod.mk.injEq] at hv
    rw [<-hv.1] at h1
    injection h1 with h1
    exact h1.symm
   obtain ⟨ua,uc,hu⟩:=own_slice (HB.out.wrow s)
   rw [hcf,hu] at hen
   have hh:Maps.has D (keyLit s)=true:=Maps.has_true_of_atKey hat
   have K1:K_ w w1:= (But.of_grown (S:=fun b=> b=ri) hg1 (fun b e=> (Option.some.inj e).symm)).kept Kr (fun b e=> by rw [e];omega)
   have HOm1:=Kz (HOm.out.but (But.of_grown (S:=fun b=> b=ri) hg1 (fun b e=> (Option.some.inj e).symm)) (by omega) (fun s' b e e2=> by rw [e2] at e;exact ranges_iter hrg (Yz (HOm.out.row s') e)))
   have Hu:=Kz hu
   have Hcf:=Kz hcf
   have HLk:=Kz hlk
   have HHas:=Kz hh
   have hwl:=HS.out.wlen s
   have HIJ:=Kz (HI.out.enter s)
   rw [hcf,hu]
   clear hu hcf hlk hh hv hat hkey hg1 hs1 HOm
   obtain ⟨n,hn⟩: ∃n,n= (ws s).length:= ⟨_,rfl⟩
   rw [<-hn] at hen hwl⊢
   have Hn:=Kz hn
   clear hn
   go_wp2_with fail
   clear hen
   go_loopw [21] (fun xi wr=> ∃(k M:Nat) (g:ByteArray->Value) (ol:ByteArray->List ByteArray),k<=n∧xi= .int .i64 (k:Int)∧wr.ranges Tryz.prog 9 asIs mb ri N D (fun z=> left z && !z.sameKey (keyLit s)) cnt1∧M+ (n - k)+60 * cnt1<=600000∧Hid (OutM wr w.heap.size mo M g ol)∧Hid (OutJ ts ws M (fun s=> Maps.has D (keyLit s)=true∧left (keyLit s)=false) s k ol)∧K_ w wr) (fun xi _=> n - (intOf xi).toNat)
   case atStart=> exact ⟨0,M,g,ol,Nat.zero_le _,rfl,hrg1,by omega,HOm1,HIJ,K1⟩
   case round=>
    clear HOm1 HIJ K1 HI
    obtain ⟨k,M,g,ol,hk,rfl,hrgq,hbq,HOm,HJ,Kq⟩:=hrel
    by_cases hlt2:k < n
    ·obtain ⟨bk,hbk⟩: ∃bk,(ws s)[k]? =some bk:= ⟨_,List.getElem?_eq_getElem (by have:=Hn.out;omega)⟩
     obtain ⟨u,hu,hub⟩:=HS.out.ww s bk (List.mem_of_getElem? hbk)
     have hBq:=HB.out.kept Kq
     have hT:=hBq.task u hu
     have hrow:=hBq.wrow s
     rw [Hu.out,<-Hn.out] at hrow
     obtain ⟨b,o,rfl,hb,hcs⟩:=cellsB_of_owned hrow k (by simp;have:=Hn.out;omega)
     have c0:wr.cell? ⟨b,o+k,none⟩=some (.pointer (some ⟨bk,0,none⟩)):=by rw [hcs k (ptrB bk) (by simp [hbk])];rfl
     obtain ⟨x,hx⟩: ∃x,x=u.r.name:= ⟨_,rfl⟩
     have n0:wr.cell? ⟨bk,0,none⟩=some (.string x):=by rw [<-hub,hx];exact hT.rng 0 _ rfl
     have hbkz:bk < w.heap.size:=by rw [<-hub];exact (HB.out.task u hu).row.lt
     have hbkq:bk < wr.heap.size:=Nat.lt_of_lt_of_le hbkz Kq.size
     have hxm:x.size<=maxLen:=by
      obtain ⟨A,hA,_⟩:= (HS.out.good.good u.r (List.mem_map_of_mem hu)).act
      have:= (hok _ _ hA).2.2.1
      rw [hx];unfold maxLen;omega
     obtain ⟨va,vc,hg⟩:=own_slice (HOm.out.row x)
     have Hg:=Kz hg
     have Zz:Hid (∀w',K_ wr w'->w'.cell? ⟨bk,0,none⟩=some (.string x)∧(Instr.lookup 157 (.map (some mo)) (.string x) false).run Tryz.prog w'= .ok (.slice va (ol x).length vc) w'):=fun w' K=> ⟨(K.cell hbkq).trans n0,by rw [<-Hg.out];exact (HOm.out.kept K).look hxm⟩
     have hlx:=HJ.out.len x
     have HNx:Hid (OutJ ts ws (M+1) (fun s=> Maps.has D (keyLit s)=true∧left (keyLit s)=false) s (k+1) (fun n=> if n=x then ol x++ [s] else ol n)):=by
      rw [hx]
      exact HJ.out.put (fun h=> by rw [HLk.out] at h;exact absurd h.2 (by simp)) HB.out.asc HB.out.tbs (HS.out.wn s) hu (by rw [hub];exact hbk)
     obtain ⟨ic,hc0,hc1,hc2,hc3⟩:=xInfo_parts Tryz.xInfoStr
     have hzq:=Kq.size
     have hki: (k:Int) < (n:Int):=by omega
     clear hT hBq hrow hcs hg hbk hub hx
     go_upto_region 8 with fail
     clear c0 n0
     refine Qx.rg 16 Zz.out fun wd KD Z_=> ?_
     refine Qx.tk 0 Z_ ?_
     refine Qx.tk 1 Z_ ?_
     refine Qx.tk 2 Z_ ?_
     refine Qx.tk 3 Z_ ?_
     refine Qx.tk 4 Z_ ?_
     refine Qx.tk 5 Z_ ?_
     refine Qx.tk 6 Z_ ?_
     refine Qx.tk 7 Z_ ?_
     refine Qx.tk 8 Z_ ?_
     refine Qx.tk 9 Z_ ?_
     refine Qx.tk 10 Z_ ?_
     refine Qx.tk 11 Z_ ?_
     refine Qx.tk 12 Z_ ?_
     refine Qx.tk 13 Z_ ?_
     refine Qx.nx 14 (fun K hK=> ?_)
     go_simp
     have K5:K_ wd (wd.alloc (.cells #[.string s] 9)):= (K_.refl _).alloc _
     have hc5: (wd.alloc (.cells #[.string s] 9)).cell? ⟨wd.heap.size,0,none⟩=some (.string s):=Xz wd #[.string s] 9 0 _ rfl
     have K5b:=KD.trans K5
     refine hK.out _ _ (fun _=> Zz.out _ K5b) ?_
     clear hK K Z_
     have HO6:=Kz (HOm.out.kept K5b)
     obtain ⟨eb,heb⟩: ∃eb,eb=wd.heap.size:= ⟨_,rfl⟩
     rw [<-heb] at hc5⊢
     generalize hwe:wd.alloc (.cells #[.string s] 9)=w6 at hc5 K5b HO6⊢
     clear hwe K5 heb
     have hrow6:=HO6.out.row x
     rw [Hg.out] at hrow6
     have HR6:=Kz hrow6
     have hz6:w.heap.size<=w6.heap.size:= (Kq.trans K5b).size
     clear hrow6
     try simp only [Act.put,upA,upB,upC]
     refine Qx.nx 15 (fun K hK=> ?_)
     refine step_append_lies _ rfl (.tmp 37) (.tmp 39) 25 rfl w.heap.size 9 ic _ 1 16 Tryz.underlying25 hc0 hc1 hc2 hc3 rfl (by decide) (.slice va (ol x).length vc) (ol x).length ((ol x).map Value.string) rfl HR6.out ⟨eb,0,none⟩ 1 1 [.string s] rfl rfl (fun j u hu=> ?_) (fun u hu=> ?_) (by decide) (by unfold maxLen;omega) (by omega) hz6 w6.heap.size rfl ?_
     ·match j,hu with
      | 0,hu=> simp at hu;subst hu;rw [Addr.add_mid];exact hc5
      | j+1,hu=> simp at hu
     ·simp at hu;subst hu;rfl
     intro gb gc w7 ho7 hg7 hv7 hgz7
     rw [<-Hg.out] at hg7 hv7
     obtain ⟨w8,hrun,hO8,hbut8⟩:=HO6.out.put (s:=x) (x:=s) hxm ho7 hg7 (fun y e=> by simp only [Value.ownBlock,Option.some.injEq] at e;subst e;rcases hv7 with h | h;exact .inl h;exact .inr (Nat.le_of_eq h.symm)) (by omega)
     have HO8:=Kz hO8
     have HBu:=Kz hbut8
     have k67:But (fun b=> (g x).ownBlock=some b) w6 w7:=But.of_grown hg7 (fun b e=> e)
     have hbk6:bk < w6.heap.size:=Nat.lt_of_lt_of_le hbkz (Kq.trans K5b).size
     have HS7b:Hid (w7.cell? ⟨bk,0,none⟩=some (.string x)∧(Instr.lookup 157 (.map (some mo)) (.string x) false).run Tryz.prog w7= .ok (.slice va (ol x).length vc) w7):=by
      exact ⟨(k67.cell hbk6 (fun e=> by have:= ((HO6.out.row x).lt bk e).1;omega)).trans (Zz.out _ K5b).1,by have h:=HO6.out.grown_look (s:=x) hxm hg7;rw [Hg.out] at h;exact h⟩
     refine hK.out _ _ (fun _=> HS7b.out) ?_
     clear hK K hO8 ho7 hg7 hv7 k67 hbut8
     try simp only [Act.put,upA,upB,upC]
     refine Qx.nx 16 (fun K hK=> ?_)
     go_simp
     refine hK.out _ _ (fun h=> absurd rfl h) ?_
     clear hK K
     try simp only [Act.put,upA,upB,upC]
     refine Qx.dn ?_
     have K8:K_ w w8:=HBu.out.kept (Kq.trans K5b) (fun b e=> by
      rcases e with e | e
      ·exact ((HO6.out.row x).lt b e).1
      ·rw [e];exact Hmo.out)
     have hrg6:=ranges_but (S:=fun _=> False) hrgq (But.of_kept K5b) id id
     have hrg8:=ranges_but hrg6 HBu.out (fun e=> by
      rcases e with e | e
      ·exact ranges_map hrg6 (Yz (HO6.out.row x) e)
      ·have:=Hmo.out;omega) (fun e=> by
      rcases e with e | e
      ·exact ranges_iter hrg6 (Yz (HO6.out.row x) e)
      ·omega)
     clear hrg6 hrun
     go_wp2_with fail
     go_roundw
     case rel=> exact ⟨k+1,M+1,_,_,by omega,by go_num,hrg8,by omega,HO8,HNx,K8⟩
     case measure=> simp [intOf];omega
    ·have hkn:k=n:=by omega
     go_wp2_with fail
     go_roundw
     case rel=>
      refine ⟨_,cnt1,M,g,ol,hrgq,by omega,HOm,Kz (HJ.out.leave (by rw [hkn,Hn.out];exact Nat.le_refl _) (fun s'=> ?_)),Kq⟩
      constructor
      ·rintro ⟨h1,h2⟩
       by_cases e:s'=s
       ·exact .inr e
       ·refine .inl ⟨h1, ?_⟩
        have h3: (keyLit s').sameKey (keyLit s)=false:=Maps.sameKey_ne (keyLit_ne e)
        rw [h3] at h2
        simpa using h2
      ·rintro (⟨h1,h2⟩ | rfl)
       ·exact ⟨h1,by rw [h2];rfl⟩
       ·exact ⟨HHas.out,by rw [key_same.2 rfl];simp⟩
     case measure=> rw [hrgq.left_eq,hrg.left_eq];exact hlt
end
