import Derived.Test.YtgnkgfjmbmcfcaaGreatDoorKWCheck5
import Derived.StringKeys
import Derived.Test.YtgnkgfjmbmcfcaaGreatDoorKVNeeds
import Derived.WalkMore
set_option maxRecDepth 100000
set_option maxHeartbeats 25600000
namespace Go.Proofs.YtgnkgfjmbmcfcaaGreatDoor
open Go.RowKit
def PackedN (w:World) (xs:List Value) (l:List Qq):Prop:=
 xs.length=l.length∧∀i,i < l.length->∃tb cur fr,xs[i]? =some (.pointer (some ⟨tb,0,none⟩))∧w.heap[tb]? =some (Obj.cells cur 153 fr)∧w.cell? ⟨tb,0,none⟩=some (.string (l.getD i Qq.zero).name)
theorem PackedN.kept {w w':World} {xs:List Value} {l:List Qq} (h:PackedN w xs l) (k:K_ w w'):PackedN w' xs l:=
 ⟨h.1,fun i hi=> by
  obtain ⟨tb,cur,fr,h1,h2,h3⟩:=h.2 i hi
  exact ⟨tb,cur,fr,h1,by rw [k.block tb (heap_lt h2)];exact h2,(k.cell (heap_lt h2)).trans h3⟩⟩
def CellsB (w:World) (a:Option Addr) (xs:List Value):Prop:= ∀i,i < xs.length->∃b o,a=some ⟨b,o,none⟩∧b < w.heap.size∧∀j u,xs[j]? =some u->w.cell? ⟨b,o+j,none⟩=some u
theorem CellsB.kept {w w':World} {a:Option Addr} {xs:List Value} (h:CellsB w a xs) (k:K_ w w'):CellsB w' a xs:=by
 intro i hi
 obtain ⟨b,o,e,hb,hc⟩:=h i hi
 exact ⟨b,o,e,Nat.lt_of_lt_of_le hb k.size,fun j u hu=> (k.cell hb).trans (hc j u hu)⟩
theorem cellsB_of_owned {w:World} {base n:Nat} {t:TypeId} {a:Option Addr} {cap:Nat} {xs:List Value} (h:w.ownsRow base t 1 (.slice a n cap) n xs):CellsB w a xs:=by
 have hl:xs.length=n:=by have:=h.1;omega
 rcases h.2 with ⟨e,h0⟩ | ⟨g,cap',cur,e,hb,hg,hnc,_,_,_⟩
 ·exact fun i hi=> by omega
 ·simp only [Value.slice.injEq] at e
  obtain ⟨rfl,_,rfl⟩:=e
  refine fun i hi=> ⟨g,0,rfl,heap_lt hg,fun j u hu=> ?_⟩
  have:=h.cells (g:=g) rfl _ _ hu
  rw [Addr.add_mid] at this
  exact this
theorem taskName_b (w:World) (tb:Nat) (n:ByteArray) (hn:w.cell? ⟨tb,0,none⟩=some (.string n)):
  Calls Tryz.prog 63 #[.pointer (some ⟨tb,0,none⟩)] w fun e w'=> e= .returned (.string n)∧w'=w:=by
 go_enter Tryz.func63,Tryz.ntmps63
 go_wp2
 go_ret
 exact ⟨rfl,rfl⟩
theorem findLitB_any (w:World) (g:Nat) (n:ByteArray) (tb:Nat) (key:ByteArray) (hg:g < w.heap.size) (ht:tb < w.heap.size) (hn:w.cell? ⟨tb,0,none⟩=some (.string n)) (hc:w.cell? ⟨g,1,none⟩=some (.func (.func 63) #[] #[])):
  Calls Tryz.prog 176 #[.pointer (some ⟨tb,0,none⟩),.string key,.pointer (some ⟨g,0,none⟩)] w fun e w'=> e= .returned (.int .i64 (cmpD n.toList key.toList))∧K_ w w':=by
 go_enter Tryz.func176,Tryz.ntmps176
 go_wp2_with fail
 refine (taskName_b _ tb n hn).mono ?_
 rintro e w1 ⟨rfl,rfl⟩
 go_wp2_with fail
 refine (compare_any _ n key).mono ?_
 rintro e w2 ⟨rfl,rfl⟩
 go_wp2
 go_ret
 exact ⟨rfl,K_.refl _⟩
theorem searchB_any (w:World) (g:Nat) (a:Option Addr) (cap:Nat) (l:List Qq) (key:ByteArray) (hl:l.length<=1048576) (hr:Rises l) (hg:g < w.heap.size) (hc:w.cell? ⟨g,1,none⟩=some (.func (.func 63) #[] #[])) (xs:List Value) (hP:PackedN w xs l) (hS:CellsB w a xs):
  Calls Tryz.prog 175 #[.slice a l.length cap,.string key,.func (.func 176) #[] #[.pointer (some ⟨g,0,none⟩)]] w
   fun e w'=> Found l key.toList e∧K_ w w':=by
 have HRi:=Kz hr
 clear hr
 go_enter Tryz.func175,Tryz.ntmps175
 go_wp2
 go_loopw [9,10] (fun x y wr=> ∃i j:Nat,x= .int .i64 i∧y= .int .i64 j∧i<=j∧j<=l.length∧(∀t,t < i->Op.bytesLess (nameAt l t) key.toList=true)∧(∀t,j<=t->t < l.length->Op.bytesLess (nameAt l t) key.toList=false)∧K_ w wr) (fun x y _=> (intOf y).toNat - (intOf x).toNat)
 case atStart=> exact ⟨0,l.length,rfl,rfl,Nat.zero_le _,Nat.le_refl _,fun t ht=> absurd ht (Nat.not_lt_zero _),fun t h1 h2=> by omega,K_.refl _⟩
 case round=>
  obtain ⟨i,j,rfl,rfl,hij,hjn,hbe,hbh,hw⟩:=hrel
  have HB:=Kz (And.intro hbe hbh)
  clear hbe hbh
  by_cases hlt: (i:Int) < j
  ·obtain ⟨h,hh⟩: ∃h:Nat,h= (i+j) / 2:= ⟨_,rfl⟩
   have hhlt:h < l.length:=by omega
   have hhi:i<=h:=by omega
   have hhj:h < j:=by omega
   obtain ⟨b,o,rfl,hb,hcs⟩:=hS.kept hw h (by rw [hP.1];exact hhlt)
   obtain ⟨tb,cur,fr,hx,htb,hrg⟩:= (hP.kept hw).2 h hhlt
   obtain ⟨d,hd⟩: ∃d,d=l.getD h Qq.zero:= ⟨_,rfl⟩
   rw [<-hd] at hrg
   have HD:=Kz hd
   have c0:=hcs _ _ hx
   have c1:wr.cell? ⟨tb,0,none⟩=some (.string d.name):=hrg
   have htl:=heap_lt htb
   clear hd hcs hrg hx htb
   have hmid: ((i:Int)+ (j:Int)) / 2= (h:Int):=by omega
   have HH:=Kz hh
   clear hh
   have hg':g < wr.heap.size:=Nat.lt_of_lt_of_le hg hw.size
   have hc':wr.cell? ⟨g,1,none⟩=some (.func (.func 63) #[] #[]):=by rw [hw.cell hg];exact hc
   go_wp2_with fail
   refine (findLitB_any _ g d.name tb key hg' htl c1 hc').mono ?_
   rintro e w1 ⟨rfl,k1⟩
   have hnm:nameAt l h=d.name.toList:=by unfold nameAt;rw [<-HD.out]
   have HC:Hid (cmpD d.name.toList key.toList < 0↔Op.bytesLess (nameAt l h) key.toList=true):=by rw [hnm];exact cmpD_neg
   clear c0 c1 hnm
   generalize cmpD d.name.toList key.toList=r at *
   have hw1:=hw.trans k1
   clear hw k1
   by_cases hneg:r < 0
   ·go_wp2
    go_roundw
    case rel=>
     obtain ⟨hbe,hbh⟩:=HB.out
     refine ⟨h+1,j,by go_num,rfl,by omega,hjn,fun t ht=> ?_,hbh,hw1⟩
     have hle:=HC.out.1 hneg
     by_cases e:t=h
     ·subst e;exact hle
     ·exact less_trans _ _ _ (HRi.out t h (by omega) hhlt) hle
    case measure=> simp [intOf];omega
   ·go_wp2
    go_roundw
    case rel=>
     obtain ⟨hbe,hbh⟩:=HB.out
     refine ⟨i,h,rfl,by go_num,hhi,by omega,hbe,fun t h1 h2=> ?_,hw1⟩
     have hle:Op.bytesLess (nameAt l h) key.toList=false:=by
      cases hq:Op.bytesLess (nameAt l h) key.toList
      ·rfl
      ·have:=HC.out.2 hq
       omega
     by_cases e:t=h
     ·subst e;exact hle
     ·cases hq:Op.bytesLess (nameAt l t) key.toList
      ·rfl
      ·rw [less_trans _ _ _ (HRi.out h t (by omega) h2) hq] at hle
       cases hle
    case measure=> simp [intOf];omega
  ·have hij':i=j:=by omega
   subst hij'
   have HPl:Hid (Place l key.toList i):= ⟨hjn,HB.out.1,HB.out.2⟩
   clear HB
   by_cases hin:i < l.length
   ·obtain ⟨b,o,rfl,hb,hcs⟩:=hS.kept hw i (by rw [hP.1];exact hin)
    obtain ⟨tb,cur,fr,hx,htb,hrg⟩:= (hP.kept hw).2 i hin
    obtain ⟨d,hd⟩: ∃d,d=l.getD i Qq.zero:= ⟨_,rfl⟩
    rw [<-hd] at hrg
    have HD:=Kz hd
    have c0:=hcs _ _ hx
    have c1:wr.cell? ⟨tb,0,none⟩=some (.string d.name):=hrg
    have htl:=heap_lt htb
    clear hd hcs hrg hx htb
    have hg':g < wr.heap.size:=Nat.lt_of_lt_of_le hg hw.size
    have hc':wr.cell? ⟨g,1,none⟩=some (.func (.func 63) #[] #[]):=by rw [hw.cell hg];exact hc
    have hin': (i:Int) < l.length:=by omega
    go_wp2_with fail
    refine (findLitB_any _ g d.name tb key hg' htl c1 hc').mono ?_
    rintro e w1 ⟨rfl,k1⟩
    have hnm:nameAt l i=d.name.toList:=by unfold nameAt;rw [<-HD.out]
    have HC:Hid (cmpD d.name.toList key.toList=0↔nameAt l i=key.toList):=by rw [hnm];exact cmpD_zero
    clear c0 c1 hnm
    generalize cmpD d.name.toList key.toList=r at *
    have hw1:=hw.trans k1
    clear hw k1
    go_wp2
    go_ret2
    refine ⟨Found.mk i _ rfl HPl.out ?_,hw1⟩
    rw [<-HC.out]
    simp [hin]
   ·have hin': ¬(i:Int) < l.length:=by omega
    go_wp2
    go_ret2
    exact ⟨Found.mk i false rfl HPl.out (by simp;intro h;exact absurd h hin),hw⟩
theorem findB_any (w:World) (a:Option Addr) (cap:Nat) (l:List Qq) (key:ByteArray) (hl:l.length<=1048576) (hr:Rises l) (xs:List Value) (hP:PackedN w xs l) (hS:CellsB w a xs):
  Calls Tryz.prog 149 #[.agg #[.slice a l.length cap,.func (.func 63) #[] #[]],.string key] w
   fun e w'=> Found l key.toList e∧K_ w w':=by
 have k0:K_ w (w.alloc (.cells #[.slice a l.length cap,.func (.func 63) #[] #[]] 126)):= (K_.refl _).alloc _
 go_enter Tryz.func149,Tryz.ntmps149
 go_wp2_with fail
 refine (searchB_any _ w.heap.size a cap l key hl hr (by simp) (by simp) xs (hP.kept k0) (hS.kept k0)).mono ?_
 rintro e w1 ⟨hfo,k1⟩
 obtain ⟨p,f,rfl,hp,hf⟩:=hfo
 have HP:=Kz hp
 have HF:=Kz hf
 clear hp hf
 go_wp2
 go_ret2
 exact ⟨Found.mk p f rfl HP.out HF.out,k0.trans k1⟩
def namesN (ts:List Zx):List Qq:=ts.map fun t=> ⟨t.r.name,0,[]⟩
theorem namesN_len (ts:List Zx): (namesN ts).length=ts.length:=by simp [namesN]
theorem namesN_at {ts:List Zx} {i:Nat} (h:i < ts.length): ((namesN ts).getD i Qq.zero).name=ts[i].r.name:=by simp [namesN,List.getD,h]
theorem rises_asc {ts:List Zx} (h:AscX (Qk ts)):Rises (namesN ts):=fun i j hij hj=> by
 rw [namesN_len] at hj
 unfold nameAt
 rw [namesN_at (by omega),namesN_at hj]
 have:=List.pairwise_iff_getElem.1 h i j (by simp [Qk];omega) (by simpa [Qk] using hj) hij
 unfold lessX at this
 simpa [Qk] using this
section
variable {G : Ghost} {Kj : List Qq} {wz w w' : World} {bb : Nat} {a : Option Addr} {cap : Nat} {rd : Option Addr} {rn rc : Nat} {mb mx : Nat} {ts : List Zx} {d : Option Addr} {dc : Nat} {f : ByteArray -> Value} {ws : ByteArray -> List Nat}
theorem BM.packed (h:BM G Kj wz w bb a cap rd rn rc mb mx ts d dc f ws):PackedN w (ts.map Zx.ptr) (namesN ts):=
 ⟨by simp [namesN],fun i hi=> by
  rw [namesN_len] at hi
  have ht:=h.task ts[i] (List.getElem_mem hi)
  obtain ⟨cur,hb,_⟩:=ht.row
  exact ⟨ts[i].tb,cur,_,by simp [hi,Zx.ptr],hb,by rw [namesN_at hi];exact ht.rng 0 _ rfl⟩⟩
def TaskSaid (ts:List Zx) (n:ByteArray) (e:Ending):Prop:= (∃(i:Nat) (hi:i < ts.length),ts[i].r.name=n∧e= .returned ts[i].ptr)∨((∀t∈ts,t.r.name≠n)∧e= .returned (.pointer none))
theorem benchTask_any (hB:BM G Kj wz w bb a cap rd rn rc mb mx ts d dc f ws) (n:ByteArray) (hl:ts.length<=1048576):
  Calls Tryz.prog 113 #[.pointer (some ⟨bb,0,none⟩),.string n] w fun e w'=> TaskSaid ts n e∧K_ w w':=by
 have c3:=hB.c3
 have c4:=hB.c4
 have bz:=hB.row.lt
 have hlen:=namesN_len ts
 have HB:=Kz hB
 clear hB
 go_enter Tryz.func113,Tryz.ntmps113
 go_wp2_with fail
 have hf:=findB_any w d dc (namesN ts) n (by omega) (rises_asc HB.out.asc) (ts.map Zx.ptr) HB.out.packed (cellsB_of_owned HB.out.items)
 rw [hlen] at hf
 refine hf.mono ?_
 rintro e w1 ⟨⟨p,fd,rfl,hp,hfd⟩,k1⟩
 have HP:=Kz hp
 have HF:=Kz hfd
 have HL:=Kz hlen
 clear hp hfd hf hlen c3 c4
 have hB1:=HB.out.kept k1
 have c3:=hB1.c3
 have bz1:=hB1.row.lt
 cases fd
 ·go_wp2_with fail
  go_ret
  refine ⟨.inr ⟨fun t ht e=> ?_,rfl⟩,k1⟩
  obtain ⟨i,hi,rfl⟩:=List.getElem_of_mem ht
  have hpl:=HP.out
  have hno: ¬(p < (namesN ts).length∧nameAt (namesN ts) p=n.toList):=fun h=> by have:=HF.out.2 h;cases this
  have hna:nameAt (namesN ts) i=n.toList:=by unfold nameAt;rw [namesN_at hi,e]
  have hip:i < (namesN ts).length:=by rw [namesN_len];exact hi
  have e2:=Place.only (rises_asc HB.out.asc) hpl hip hna
  rw [e2] at hip hna
  exact hno ⟨hip,hna⟩
 ·obtain ⟨hp1,hp2⟩:=HF.out.1 rfl
  rw [namesN_len] at hp1
  have hnm:ts[p].r.name=n:=by unfold nameAt at hp2;rw [namesN_at hp1] at hp2;exact toList_inj.1 hp2
  obtain ⟨b,o,rfl,hb,hcs⟩:=cellsB_of_owned hB1.items p (by simpa using hp1)
  have c0:w1.cell? ⟨b,o+p,none⟩=some ts[p].ptr:=hcs p _ (by simp [hp1])
  have hpi: (p:Int) < (ts.length:Int):=by omega
  have HNm:=Kz hnm
  clear hnm hcs hp2 hB1
  go_wp2_with fail
  go_ret
  exact ⟨.inl ⟨p,hp1,HNm.out,rfl⟩,k1⟩
theorem absent_any (w:World) (n:ByteArray) (hn:n.size<=1000):
  Calls Tryz.prog 130 #[.string n] w fun e w'=> e= .returned (.agg #[.bool true,.string (noOf n)])∧K_ w w':=by
 go_enter Tryz.func130,Tryz.ntmps130
 have hs: ¬9223372036854775807 < 3+n.size:=by omega
 go_wp2
 exact X_ [.bool true,.string (noOf n)] _ Tryz.results130 rfl (Xz w #[.bool true,.string (noOf n)] 112) Tryz.underlying112 rfl Tryz.xSizeAns rfl ⟨rfl,(K_.refl _).alloc _⟩
def AnsSaidR (Kj:List Qq) (l:List Qz) (n:ByteArray) (e:Ending):Prop:=
 ∃(f:Bool) (t:ByteArray) (ok:Bool),e= .returned (.tuple #[.agg #[.bool f,.string t],.bool ok])∧ansOf (Q_ Kj) (Qj l) n= (if ok=true then some ⟨f,t⟩ else none)∧(ok=false->∃r,Qj l n=some r∧f=r.fail∧t=r.text)
theorem benchAnswer_anyR (hB:BM G Kj wz w bb a cap rd rn rc mb mx ts d dc f ws) (n:ByteArray) (hl:ts.length<=1048576) (hsz:n.size<=1000) (hn: (∃t∈ts,t.r.name=n)∨Q_ Kj n=none):
  Calls Tryz.prog 79 #[.pointer (some ⟨bb,0,none⟩),.string n] w fun e w'=> AnsSaidR Kj (Qk ts) n e∧K_ w w':=by
 have k0:K_ w (w.alloc (.cells #[.bool false,.string ⟨#[]⟩] 112)):= (K_.refl _).alloc _
 go_enter Tryz.func79,Tryz.ntmps79
 go_wp2_with fail
 refine (benchTask_any (hB.kept k0) n hl).mono ?_
 rintro e w1 ⟨⟨i,hi,hin,rfl⟩ | ⟨hno,rfl⟩,k1⟩
 ·obtain ⟨t,ht⟩: ∃t,t=ts[i]:= ⟨_,rfl⟩
  have hT:=hB.task ts[i] (List.getElem_mem hi)
  rw [<-ht] at hT hin
  have hcs:=hT.rng
  have q1:w.cell? ⟨t.tb,1,none⟩=some (.bool t.r.over):=hcs 1 _ rfl
  have q2:w.cell? ⟨t.tb,2,none⟩=some (.bool t.r.fail):=hcs 2 _ rfl
  have q3:w.cell? ⟨t.tb,3,none⟩=some (.string t.r.text):=hcs 3 _ rfl
  have tz:=hT.row.lt
  have Zz:Hid (∀w',K_ w w'->w'.cell? ⟨t.tb,1,none⟩=some (.bool t.r.over)∧w'.cell? ⟨t.tb,2,none⟩=some (.bool t.r.fail)∧w'.cell? ⟨t.tb,3,none⟩=some (.string t.r.text)):=fun w' K=> ⟨(K.cell tz).trans q1,(K.cell tz).trans q2,(K.cell tz).trans q3⟩
  have HRw1:=Kz ((RowT.made w #[.bool false,.string ⟨#[]⟩] 112).kept k1)
  have KW:= (k0.trans k1)
  obtain ⟨hBp1,hBp2,hBp3⟩:=Zz.out _ KW
  have HIn:=Kz hin
  have HT:=Kz ht
  have he2:ts[i].ptr= .pointer (some ⟨t.tb,0,none⟩):=by rw [<-ht];rfl
  rw [he2]
  clear ht hin q1 q2 q3 hcs he2
  go_upto_region 4 with fail
  refine Qx.rk 17 Zz.out (KW.drew) (fun Z_=> ?_)
  have KD:K_ w w1.drew:=KW.drew
  have HRd:=Kz (HRw1.out.kept ((K_.refl w1).drew))
  generalize hwd:w1.drew=wd at Z_ KD HRd⊢
  clear hwd hBp1 hBp2 hBp3
  refine Qx.tk 0 Z_ ?_
  refine Qx.tk 1 Z_ ?_
  refine Qx.tk 2 Z_ ?_
  refine Qx.tk 3 Z_ ?_
  refine Qx.tk 4 Z_ ?_
  refine Qx.tk 5 Z_ ?_
  refine Qx.tk 6 Z_ ?_
  refine Qx.tk 7 Z_ ?_
  refine Qx.tk 8 Z_ ?_
  refine Qx.tk 9 Z_ ?_
  refine Qx.tk 10 Z_ ?_
  refine Qx.tk 11 Z_ ?_
  refine Qx.tk 12 Z_ ?_
  refine Qx.tk 13 Z_ ?_
  refine Qx.tk 14 Z_ ?_
  refine Qx.tk 15 Z_ ?_
  obtain ⟨⟨_,x0⟩,f0⟩:=HRd.out.row.at (i:=0) (by decide)
  obtain ⟨⟨_,x1⟩,f1⟩:=HRd.out.row.at (i:=1) (by decide)
  have xz:=HRd.out.lt
  refine Qx.nx 16 (fun K hK=> ?_)
  go_simp
  refine hK.out _ _ ?_ ?_
  ·exact fun _=> Zz.out _ (kept_sets (g:=w.heap.size) (Nat.le_refl _) [.bool t.r.fail,.string t.r.text] 0 KD)
  clear hK K
  try simp only [Act.put,upA,upB,upC]
  refine Qx.nx 17 (fun K hK=> ?_)
  go_simp
  refine hK.out _ _ (fun h=> absurd rfl h) ?_
  clear hK K
  try simp only [Act.put,upA,upB,upC]
  refine Qx.dn ?_
  go_wp2_with fail
  have hR:=World.rangeAt_setCells_same wd w.heap.size 0 [.bool t.r.fail,.string t.r.text] (HRd.out.row.there (o:=0) (m:=2) (Nat.le_refl _))
  refine bodyPost_ret_c2 [.bool t.r.fail,.string t.r.text] _ (.bool t.r.over) Tryz.results79 rfl hR Tryz.underlying112 rfl Tryz.xSizeAns rfl rfl ?_
  refine ⟨⟨t.r.fail,t.r.text,t.r.over,rfl, ?_⟩,kept_sets (g:=w.heap.size) (Nat.le_refl _) [.bool t.r.fail,.string t.r.text] 0 KD⟩
  have hA:= (hB.act ts[i] (List.getElem_mem hi)).1
  have hE:=asc_env hB.asc (List.mem_map_of_mem (List.getElem_mem hi):ts[i].r∈Qk ts)
  rw [<-HT.out,HIn.out] at hA hE
  refine ⟨by unfold ansOf;rw [hA,hE],fun _=> ⟨t.r,hE,rfl,rfl⟩⟩
 ·have HRw1:=Kz ((RowT.made w #[.bool false,.string ⟨#[]⟩] 112).kept k1)
  have KW:= (k0.trans k1)
  have HNo:=Kz hno
  clear hno
  go_wp2_with fail
  refine (absent_any w1 n hsz).mono ?_
  rintro e w2 ⟨rfl,k2⟩
  have HR2:=Kz (HRw1.out.kept k2)
  obtain ⟨⟨_,x0⟩,f0⟩:=HR2.out.row.at (i:=0) (by decide)
  obtain ⟨⟨_,x1⟩,f1⟩:=HR2.out.row.at (i:=1) (by decide)
  have xz:=HR2.out.lt
  go_wp2_with fail
  have hR:=World.rangeAt_setCells_same w2 w.heap.size 0 [.bool true,.string (noOf n)] (HR2.out.row.there (o:=0) (m:=2) (Nat.le_refl _))
  refine bodyPost_ret_c2 [.bool true,.string (noOf n)] _ (.bool true) Tryz.results79 rfl hR Tryz.underlying112 rfl Tryz.xSizeAns rfl rfl ?_
  refine ⟨⟨true,noOf n,true,rfl, ?_⟩,kept_sets (g:=w.heap.size) (Nat.le_refl _) [.bool true,.string (noOf n)] 0 (KW.trans k2)⟩
  rcases hn with ⟨t,ht,e⟩ | hn
  ·exact absurd e (HNo.out t ht)
  ·exact ⟨by unfold ansOf;rw [hn];rfl,fun h=> by cases h⟩
theorem benchAnswer_any (hB:BM G Kj wz w bb a cap rd rn rc mb mx ts d dc f ws) (n:ByteArray) (hl:ts.length<=1048576) (hsz:n.size<=1000) (hn: (∃t∈ts,t.r.name=n)∨Q_ Kj n=none):
  Calls Tryz.prog 79 #[.pointer (some ⟨bb,0,none⟩),.string n] w fun e w'=> AnsSaid Kj (Qk ts) n e∧K_ w w':=by
 refine (benchAnswer_anyR hB n hl hsz hn).mono ?_
 rintro e w' ⟨⟨f,t,ok,h1,h2,_⟩,k⟩
 exact ⟨⟨f,t,ok,h1,h2⟩,k⟩
end
section
variable {G : Ghost} {Kj : List Qq} {wz w w' : World} {bb : Nat} {a : Option Addr} {cap : Nat} {rd : Option Addr} {rn rc : Nat} {mb mx : Nat} {ts : List Zx} {d : Option Addr} {dc : Nat} {f : ByteArray -> Value} {ws : ByteArray -> List Nat}
theorem BM.store (h:BM G Kj wz w bb a cap rd rn rc mb mx ts d dc f ws) {i:Nat} {t t':Zx} (hi:ts[i]? =some t) {o:Nat} {v:Value} (ho:o < 12) (e:t'.cells=t.cells.set o v) (e1:t'.tb=t.tb) (e2:t'.r.name=t.r.name) (e3:t'.cost=t.cost) (e4:t'.steps=t.steps) (e5:t'.sa=t.sa) (e6:t'.tv=t.tv) (e7:t'.qv=t.qv) (e8:t'.qs=t.qs) (e9:t'.r.texts=t.r.texts):
  BM G Kj wz (w.setCell ⟨t.tb,o,none⟩ v) bb a cap rd rn rc mb mx (ts.set i t') d dc f ws:=by
 obtain ⟨hl,rfl⟩:=List.getElem?_eq_some_iff.1 hi
 have hT:=h.task _ (List.getElem_mem hl)
 have k:But (fun b=> b=ts[i].tb) w (w.setCell ⟨ts[i].tb,o,none⟩ v):=But.set (S:=fun b=> b=ts[i].tb) (But.of_kept (K_.refl w)) (p:= ⟨ts[i].tb,o,none⟩) rfl v
 have ne: ∀x∈ts[i].own,x≠ts[i].tb:=fun x hx=> type_ne (hT.own_type hx).1 hT.row.type (by decide)
 have hown:t'.own=ts[i].own:=by unfold Zx.own;rw [e6,e7]
 refine h.turn hl k (fun b hb=> .inl hb) ⟨by rw [e1];exact hT.row.set v,by rw [e1,e];exact range_set hT.rng hT.row.row ho v, ?_, ?_,by rw [e1];exact hT.low⟩ e1 e2 e3 e4 e5 (fun x hx=> .inl (by rw [<-hown];exact hx)) (by rw [hown];exact h.sep2 _ (List.getElem_mem hl)) (by rw [e8];exact h.qb _ (List.getElem_mem hl))
 ·rw [e6,e9]
  exact k.owns hT.txt (fun b hb=> ne b (List.mem_append.2 (.inl (Option.mem_toList.2 hb))))
 ·rw [e7,e8]
  exact k.owns hT.ask (fun b hb=> ne b (List.mem_append.2 (.inr (Option.mem_toList.2 hb))))
theorem BM.at (h:BM G Kj wz w bb a cap rd rn rc mb mx ts d dc f ws) {i:Nat} {t:Zx} (hi:ts[i]? =some t):TaskAt wz.heap.size w t:=h.task t (List.mem_of_getElem? hi)
theorem Tryz.zeroW (w:World): (zeroValue 123).run Tryz.prog w= .ok (.slice none 0 0) w:=by kernel_rfl
theorem Tryz.keyed :Maps.Keyed Tryz.prog 9:=Maps.string_keyed Tryz.underlying9
theorem BM.look (h:BM G Kj wz w bb a cap rd rn rc mb mx ts d dc f ws) {s:ByteArray} (hs:s.size<=maxLen): (Instr.lookup 122 (.map (some mb)) (.string s) false).run Tryz.prog w= .ok (f s) w:=by
 obtain ⟨N,D,_,hM,hf⟩:=h.map
 obtain ⟨v,ps,hrun,hv⟩:=hM.lookup Tryz.keyed Tryz.underlying122 (Tryz.zeroW w) (zd:= .held (.slice none 0 0)) (zp:=[]) rfl (WideMaps.keyOf_string_mk Tryz.underlying9 hs)
 have e:=hf s hs
 unfold asIs at hv
 simp only [Option.some.injEq,Prod.mk.injEq] at hv
 have e2: (DataW.held v:DataW Value)= .held (f s):=hv.1.trans e
 cases e2
 exact hrun
theorem keyLit_ne {s s':ByteArray} (h:s≠s'):keyLit s≠keyLit s':=fun e=> h (by
 unfold keyLit at e
 simp only [Lit.string.injEq] at e
 exact ba_ext e)
theorem BM.del (h:BM G Kj wz w bb a cap rd rn rc mb mx ts d dc f ws) {s:ByteArray} (hs:s.size<=maxLen) (ty:TypeId): ∃w',(Builtin.delete_ #[122,9] ty #[.map (some mb),.string s]).run Tryz.prog w= .ok (.tuple #[]) w'∧But (fun b=> b=mb) w w'∧BM G Kj wz w' bb a cap rd rn rc mb mx ts d dc (fun n=> if n=s then .slice none 0 0 else f n) (fun n=> if n=s then [] else ws n):=by
 obtain ⟨N,D,hN,hM,hf⟩:=h.map
 obtain ⟨w',hrun,hM',hg⟩:=hM.drop Tryz.keyed Tryz.underlying122 (WideMaps.keyOf_string_mk Tryz.underlying9 hs) ty
 have k:But (fun b=> b=mb) w w':=But.of_grown hg.grown (fun b e=> (Option.some.inj e).symm)
 refine ⟨w',hrun,k, ?_⟩
 have ne: ∀{b:Nat} {t:TypeId},TypeAt w b t->¬b=mb:=fun hu e=> map_ne hM hu e
 have hb:=h.row.lt
 have nb:=ne h.row.type
 have hfen:Fen G w' bb mb ts (fun n=> if n=s then .slice none 0 0 else f n):=by
  have h0:=h.oth.but k (fun b e=> by rw [e];exact h.oth.nm)
  refine ⟨h0.size,h0.lt,h0.same,h0.nb,h0.nm,h0.nt,fun n x hx=> ?_,h0.has⟩
  by_cases e:n=s
  ·simp only [if_pos e] at hx
   cases hx
  ·simp only [if_neg e] at hx
   exact h.oth.nf n x hx
 refine ⟨k.kept h.kw (fun b e=> by rw [e];exact h.mlow),k.row h.row nb,(k.cell hb nb).trans h.c0,(k.cell hb nb).trans h.c1,(k.cell hb nb).trans h.c2,(k.cell hb nb).trans h.c3,(k.cell hb nb).trans h.c4,(k.cell hb nb).trans h.c5,h.low,k.owns h.items (fun b e=> ne (Yz h.items e)),fun t ht=> (h.task t ht).but k (ne (h.task t ht).row.type) (fun x hx=> ne ((h.task t ht).own_type hx).1),h.act,h.asc,h.tbs,h.sep,h.sep2,⟨N,_,hN,hM',fun n hn=> ?_⟩,h.mlow,fun n=> ?_,fun n n' hnn x hx=> ?_,fun n x hx=> ?_,h.qb,hfen,h.gi⟩
 ·by_cases e:n=s
  ·rw [if_pos e,e]
   exact Maps.atKey_del_same _
  ·rw [if_neg e,<-hf n hn]
   exact Maps.atKey_del_other (keyLit_ne e) _
 ·by_cases e:n=s
  ·simp only [if_pos e]
   exact World.ownsRow_nil _ _ _ _
  ·simp only [if_neg e]
   exact k.owns (h.wrow n) (fun b e=> ne (Yz (h.wrow n) e))
 ·by_cases e:n=s
  ·rw [if_pos e] at hx;cases hx
  ·rw [if_neg e] at hx
   by_cases e':n'=s
   ·rw [if_pos e'];intro h;cases h
   ·rw [if_neg e'];exact h.wsep n n' hnn x hx
 ·by_cases e:n=s
  ·rw [if_pos e] at hx;cases hx
  ·rw [if_neg e] at hx;exact h.isep n x hx
end
def decT (ts:List Zx) (l:List Nat):List Zx:=ts.map fun t=> if t.tb∈l then { t with op:=t.op - 1 } else t
theorem decT_get {ts:List Zx} {l:List Nat} {i:Nat} (h:i < (decT ts l).length) (hi:i < ts.length): (decT ts l)[i]=if ts[i].tb∈l then { ts[i] with op:=ts[i].op - 1 } else ts[i]:=by simp [decT]
theorem decT_nil (ts:List Zx):decT ts []=ts:=by simp [decT]
theorem decT_snoc {ts:List Zx} {l:List Nat} {b j:Nat} {t:Zx} (hn: (ts.map (·.tb)).Nodup) (hb:b∉l) (hj:ts[j]? =some t) (ht:t.tb=b):decT ts (l++ [b])= (decT ts l).set j { t with op:=t.op - 1 }∧(decT ts l)[j]? =some t:=by
 obtain ⟨hl,rfl⟩:=List.getElem?_eq_some_iff.1 hj
 have hg: (decT ts l)[j]? =some ts[j]:=by
  unfold decT
  rw [List.getElem?_map,List.getElem?_eq_getElem hl]
  simp only [Option.map_some,Option.some.injEq]
  rw [if_neg (by rw [ht];exact hb)]
 refine ⟨?_,hg⟩
 apply List.ext_getElem
 ·simp [decT]
 ·intro i h1 h2
  have hi:i < ts.length:=by simpa [decT] using h1
  rw [List.getElem_set,decT_get h1 hi]
  by_cases e:j=i
  ·subst e
   rw [if_pos rfl,if_pos (by rw [ht];simp)]
  ·rw [if_neg e,decT_get (by simpa [decT] using hi) hi]
   have hne:ts[i].tb≠b:=by
    rw [<-ht]
    have hnd:=List.pairwise_iff_getElem.1 hn
    rcases Nat.lt_or_gt_of_ne e with h | h
    ·have:=hnd j i (by simpa using hl) (by simpa using hi) h
     simp at this
     exact fun e=> this e.symm
    ·have:=hnd i j (by simpa using hi) (by simpa using hl) h
     simpa using this
   by_cases h3:ts[i].tb∈l
   ·rw [if_pos h3,if_pos (List.mem_append.2 (.inl h3))]
   ·rw [if_neg h3,if_neg (by rw [List.mem_append,List.mem_singleton];rintro (h | h);exact h3 h;exact hne h)]
theorem Tryz.zeroI (w:World): (zeroValue 3).run Tryz.prog w= .ok (.int .i64 0) w:=by kernel_rfl
def CausM (w:World) (qb mx:Nat) (g:ByteArray->Option Int):Prop:=
 ∃N D,N<=mx∧w.ownsMap Tryz.prog 9 asIs qb N D∧(∀s:ByteArray,s.size<=maxLen->D.atKey (keyLit s) (.held (.int .i64 0))= .held (.int .i64 ((g s).getD 0)))∧∀s:ByteArray,Maps.has D (keyLit s)=true↔(g s).isSome=true
section
variable {w w' : World} {qb mx : Nat} {g : ByteArray -> Option Int}
theorem CausM.but {S:Nat->Prop} (h:CausM w qb mx g) (k:But S w w') (hn: ¬S qb):CausM w' qb mx g:=by
 obtain ⟨N,D,a1,a2,a3⟩:=h
 exact ⟨N,D,a1,map_but a2 k hn,a3⟩
theorem CausM.ne (h:CausM w qb mx g) {b:Nat} {t:TypeId} (k:TypeAt w b t):b≠qb:=by
 obtain ⟨N,D,_,a2,_⟩:=h
 exact map_ne a2 k
theorem CausM.lt (h:CausM w qb mx g):qb < w.heap.size:=by
 obtain ⟨N,D,_,a2,_⟩:=h
 exact a2.lt
theorem CausM.new (w:World):CausM (w.alloc (.map #[] 0)) w.heap.size 0 (fun _=> none):=
 ⟨0,_,Nat.le_refl _,World.ownsMap_made w _ _ _,fun _ _=> rfl,fun _=> Iff.intro (fun h=> by cases h) (fun h=> by cases h)⟩
theorem CausM.look (h:CausM w qb mx g) {s:ByteArray} (hs:s.size<=maxLen): (Instr.lookup 130 (.map (some qb)) (.string s) false).run Tryz.prog w= .ok (.int .i64 ((g s).getD 0)) w:=by
 obtain ⟨N,D,_,hM,hf,_⟩:=h
 obtain ⟨v,ps,hrun,hv⟩:=hM.lookup Tryz.keyed Tryz.underlying130 (Tryz.zeroI w) (zd:= .held (.int .i64 0)) (zp:=[]) rfl (WideMaps.keyOf_string_mk Tryz.underlying9 hs)
 have e:=hf s hs
 unfold asIs at hv
 simp only [Option.some.injEq,Prod.mk.injEq] at hv
 have e2: (DataW.held v:DataW Value)= .held (.int .i64 ((g s).getD 0)):=hv.1.trans e
 cases e2
 exact hrun
theorem CausM.look2 (h:CausM w qb mx g) {s:ByteArray} (hs:s.size<=maxLen): (Instr.lookup 130 (.map (some qb)) (.string s) true).run Tryz.prog w= .ok (.tuple #[.int .i64 ((g s).getD 0),.bool (g s).isSome]) w:=by
 obtain ⟨N,D,_,⟨es,clock,hb,F,_,rfl⟩,hf,hh⟩:=h
 have e:=hf s hs
 rcases Maps.fit_look true Tryz.keyed Tryz.underlying130 (Tryz.zeroI w) hb F (WideMaps.keyOf_string_mk Tryz.underlying9 hs) with ⟨hrun,hno,hat⟩ | ⟨e0,y,h1,h2,hrun,hRv,hat,h3⟩
 ·have e1:= (hat _).symm.trans e
  have h0:=Maps.has_false_of_atKey hat
  have hn: (g s).isSome=false:=by
   cases hx: (g s).isSome
   ·rfl
   ·have:= (hh s).2 hx
    exact absurd (h0.symm.trans this) (by simp)
  rw [hn,hrun]
  have e2: (Value.int .i64 0)= .int .i64 ((g s).getD 0):=by injection e1
  rw [<-e2]
  rfl
 ·have e1:= (hat _).symm.trans e
  have h0:= (hh s).1 (Maps.has_true_of_atKey hat)
  unfold asIs at hRv
  simp only [Option.some.injEq] at hRv
  subst hRv
  have e2:e0.val= .int .i64 ((g s).getD 0):=by injection e1
  rw [h0,hrun,e2]
  rfl
theorem CausM.put (h:CausM w qb mx g) {s:ByteArray} (hs:s.size<=maxLen) (c:Int) (hmx:mx<=1000000):
  ∃w2,(Instr.mapUpdate 130 (.map (some qb)) (.string s) (.int .i64 c)).run Tryz.prog w= .ok () w2∧CausM w2 qb (mx+1) (fun n=> if n=s then some c else g n)∧But (fun b=> b=qb) w w2:=by
 obtain ⟨N,D,hNl,hM,hf,hh⟩:=h
 obtain ⟨w2,hrun,hM2,hg2⟩:=hM.update Tryz.keyed Tryz.underlying130 (by unfold maxLen;omega) (WideMaps.keyOf_string_mk Tryz.underlying9 hs) (d:= .held (.int .i64 c)) (ps:=[]) rfl
 have k2:But (fun b=> b=qb) w w2:=But.of_grown hg2 (fun b e=> (Option.some.inj e).symm)
 have hmp:Maps.IsMap D:=by obtain ⟨es,clock,_,_,_,rfl⟩:=hM;exact ⟨_,rfl⟩
 refine ⟨w2,hrun,⟨N+1,_,by omega,hM2,fun n hn=> ?_,fun n=> ?_⟩,k2⟩
 ·by_cases e:n=s
  ·simp only [if_pos e]
   rw [e]
   exact Maps.atKey_put_same (k:=keyLit s) hmp (by show WideAt.IsKeyLit (.string _);exact trivial) _ _
  ·simp only [if_neg e]
   rw [<-hf n hn]
   exact Maps.atKey_put_other (keyLit_ne e) _ _
 ·by_cases e:n=s
  ·simp only [if_pos e]
   rw [e]
   exact ⟨fun _=> rfl,fun _=> Maps.has_put_same (k:=keyLit s) hmp (by show WideAt.IsKeyLit (.string _);exact trivial) _⟩
  ·simp only [if_neg e]
   rw [<-hh n]
   exact Eq.to_iff (congrArg (· =true) (Maps.has_put_other (keyLit_ne e) _))
theorem CausM.del (h:CausM w qb mx g) {s:ByteArray} (hs:s.size<=maxLen) (ty:TypeId):
  ∃w2,(Builtin.delete_ #[130,9] ty #[.map (some qb),.string s]).run Tryz.prog w= .ok (.tuple #[]) w2∧CausM w2 qb mx (fun n=> if n=s then none else g n)∧But (fun b=> b=qb) w w2:=by
 obtain ⟨N,D,hNl,hM,hf,hh⟩:=h
 obtain ⟨w2,hrun,hM2,hg⟩:=hM.drop Tryz.keyed Tryz.underlying130 (WideMaps.keyOf_string_mk Tryz.underlying9 hs) ty
 have k2:But (fun b=> b=qb) w w2:=But.of_grown hg.grown (fun b e=> (Option.some.inj e).symm)
 refine ⟨w2,hrun,⟨N,_,hNl,hM2,fun n hn=> ?_,fun n=> ?_⟩,k2⟩
 ·by_cases e:n=s
  ·simp only [if_pos e]
   rw [e]
   exact Maps.atKey_del_same _
  ·simp only [if_neg e]
   rw [<-hf n hn]
   exact Maps.atKey_del_other (keyLit_ne e) _
 ·by_cases e:n=s
  ·simp only [if_pos e]
   rw [e]
   exact Iff.intro (fun h=> by have h0:Maps.has (D.del (keyLit s)) (keyLit s)=false:=Maps.has_del_same;exact absurd (h0.symm.trans h) (by simp)) (fun h=> by cases h)
  ·simp only [if_neg e]
   rw [<-hh n]
   exact Eq.to_iff (congrArg (· =true) (Maps.has_del_other (keyLit_ne e)))
end
theorem decT_at {ts:List Zx} {l:List Nat} {i:Nat} {t:Zx} (h:ts[i]? =some t): ∃u,(decT ts l)[i]? =some u∧u.tb=t.tb∧u.r=t.r:=by
 refine ⟨if t.tb∈l then { t with op:=t.op - 1 } else t,by unfold decT;rw [List.getElem?_map,h];rfl, ?_, ?_⟩
 ·by_cases h:t.tb∈l
  ·rw [if_pos h]
  ·rw [if_neg h]
 ·by_cases h:t.tb∈l
  ·rw [if_pos h]
  ·rw [if_neg h]
def Zx.ended (t:Zx) (fl:Bool) (tx:ByteArray):Zx:= { t with r:= { t.r with over:=true,fail:=fl,text:=tx } }
section
variable {G : Ghost} {Kj : List Qq} {wz w w' : World} {bb : Nat} {a : Option Addr} {cap : Nat} {rd : Option Addr} {rn rc : Nat} {mb mx : Nat} {ts : List Zx} {d : Option Addr} {dc : Nat} {f : ByteArray -> Value} {ws : ByteArray -> List Nat}
theorem BM.ended (h:BM G Kj wz w bb a cap rd rn rc mb mx ts d dc f ws) {i:Nat} {t:Zx} (hi:ts[i]? =some t) (fl:Bool) (tx:ByteArray):BM G Kj wz (((w.setCell ⟨t.tb,1,none⟩ (.bool true)).setCell ⟨t.tb,2,none⟩ (.bool fl)).setCell ⟨t.tb,3,none⟩ (.string tx)) bb a cap rd rn rc mb mx (ts.set i (t.ended fl tx)) d dc f ws:=by
 have hl:i < ts.length:= (List.getElem?_eq_some_iff.1 hi).1
 have h1:=h.store (t':= { t with r:= { t.r with over:=true } }) hi (o:=1) (v:= .bool true) (by omega) rfl rfl rfl rfl rfl rfl rfl rfl rfl rfl
 have h2:=h1.store (t':= { t with r:= { t.r with over:=true,fail:=fl } }) (List.getElem?_set_self hl) (o:=2) (v:= .bool fl) (by omega) rfl rfl rfl rfl rfl rfl rfl rfl rfl rfl
 rw [List.set_set] at h2
 have h3:=h2.store (t':=t.ended fl tx) (List.getElem?_set_self hl) (o:=3) (v:= .string tx) (by omega) rfl rfl rfl rfl rfl rfl rfl rfl rfl rfl
 rw [List.set_set] at h3
 exact h3
theorem benchEnd_any (hB:BM G Kj wz w bb a cap rd rn rc mb mx ts d dc f ws) {i:Nat} {t:Zx} (hi:ts[i]? =some t) (fl:Bool) (tx:ByteArray) (hsz:t.r.name.size<=1000) (hwl: (ws t.r.name).length<=1000) (hw: ∀b∈ws t.r.name,∃(j:Nat) (u:Zx),(ts.set i (t.ended fl tx))[j]? =some u∧u.tb=b∧1<=u.op∧u.op<=1000) (hwn: (ws t.r.name).Nodup):
  Calls Tryz.prog 178 #[.pointer (some ⟨bb,0,none⟩),.pointer (some ⟨t.tb,0,none⟩),.bool fl,.string tx] w fun e w'=> e= .returned (.tuple #[])∧BM G Kj wz w' bb a cap rd rn rc mb mx (decT (ts.set i (t.ended fl tx)) (ws t.r.name)) d dc (fun n=> if n=t.r.name then .slice none 0 0 else f n) (fun n=> if n=t.r.name then [] else ws n):=by
 obtain ⟨m,hm⟩: ∃m,m= (ws t.r.name).length:= ⟨_,rfl⟩
 have hT:=hB.at hi
 obtain ⟨⟨_,x1⟩,f1⟩:=hT.row.row.at (i:=1) (by omega)
 obtain ⟨⟨_,x2⟩,f2⟩:=hT.row.row.at (i:=2) (by omega)
 obtain ⟨⟨_,x3⟩,f3⟩:=hT.row.row.at (i:=3) (by omega)
 have tz:=hT.row.lt
 obtain ⟨W1,hW1⟩: ∃W1,W1= ((w.setCell ⟨t.tb,1,none⟩ (.bool true)).setCell ⟨t.tb,2,none⟩ (.bool fl)).setCell ⟨t.tb,3,none⟩ (.string tx):= ⟨_,rfl⟩
 have hB1:BM G Kj wz W1 bb a cap rd rn rc mb mx (ts.set i (t.ended fl tx)) d dc f ws:=by
  rw [hW1]
  exact hB.ended hi fl tx
 obtain ⟨va,vc,hf⟩:=own_slice (hB1.wrow t.r.name)
 rw [<-hm] at hf
 have hil:i < ts.length:= (List.getElem?_eq_some_iff.1 hi).1
 have hi1: (ts.set i (t.ended fl tx))[i]? =some (t.ended fl tx):=by rw [List.getElem?_set_self hil]
 obtain ⟨T1,hT1⟩: ∃T1,T1=ts.set i (t.ended fl tx):= ⟨_,rfl⟩
 rw [<-hT1] at hB1 hi1 hw⊢
 have HT1:=Kz hT1
 have HB1:=Kz hB1
 have HI1:=Kz hi1
 have Hf:=Kz hf
 have Hm:=Kz hm
 have HW:=Kz hw
 have HN:=Kz hwn
 have hml:m<=1000:=by omega
 have Zz:Hid (∀w',K_ W1 w'->w'.cell? ⟨bb,5,none⟩=some (.map (some mb))∧w'.cell? ⟨t.tb,0,none⟩=some (.string t.r.name)∧(Instr.lookup 122 (.map (some mb)) (.string t.r.name) false).run Tryz.prog w'= .ok (.slice va m vc) w'):=fun w' K=> ⟨(HB1.out.kept K).c5,((HB1.out.kept K).at HI1.out).rng 0 _ rfl,by rw [<-Hf.out];exact (HB1.out.kept K).look (by unfold maxLen;omega)⟩
 clear hB hB1 hT hi hi1 hT1 hf hm hw hwn hil
 go_enter Tryz.func178,Tryz.ntmps178
 go_upto_region 1 with fail
 rw [<-hW1]
 clear hW1 x1 x2 x3 f1 f2 f3 tz
 refine Qx.rg 10 Zz.out fun wd KD Z_=> ?_
 refine Qx.tk 0 Z_ ?_
 refine Qx.tk 1 Z_ ?_
 refine Qx.tk 2 Z_ ?_
 refine Qx.tk 3 Z_ ?_
 refine Qx.tk 4 Z_ ?_
 refine Qx.tk 5 Z_ ?_
 refine Qx.tk 6 Z_ ?_
 refine Qx.tk 7 Z_ ?_
 refine Qx.tk 8 Z_ ?_
 refine Qx.tk 9 Z_ ?_
 refine Qx.tw 10 11 (fun K hK=> ?_) (fun K hK=> ?_)
 ·rw [if_pos (by rfl)]
  go_simp
  refine hK.out _ _ (fun _=> Zz.out _ KD) ?_
  clear hK K
  try simp only [Act.put,upA,upB,upC]
  refine Qx.nx 11 (fun K hK=> ?_)
  go_simp
  refine hK.out _ _ (fun _=> Zz.out _ KD) ?_
  clear hK K
  try simp only [Act.put,upA,upB,upC]
  refine Qx.dn ?_
  have HBd:=Kz (HB1.out.kept KD)
  clear Z_
  go_wp2
  go_loopw [35] (fun x wr=> ∃k:Nat,k<=m∧x= .int .i64 k∧BM G Kj wz wr bb a cap rd rn rc mb mx (decT T1 ((ws t.r.name).take k)) d dc f ws) (fun x _=> m - (intOf x).toNat)
  case atStart=> exact ⟨0,Nat.zero_le _,rfl,by rw [List.take_zero,decT_nil];exact HBd.out⟩
  case round=>
   clear HBd KD
   obtain ⟨k,hk,rfl,hBk⟩:=hrel
   by_cases hlt:k < m
   ·obtain ⟨bk,hbk⟩: ∃bk,(ws t.r.name)[k]? =some bk:= ⟨_,List.getElem?_eq_getElem (by have:=Hm.out;omega)⟩
    have hmem:bk∈ws t.r.name:=List.mem_of_getElem? hbk
    obtain ⟨j,u,hj,hu,ho1,ho2⟩:=HW.out bk hmem
    have htk: (ws t.r.name).take (k+1)= (ws t.r.name).take k++ [bk]:=by
     obtain ⟨h1,h2⟩:=List.getElem?_eq_some_iff.1 hbk
     rw [List.take_succ_eq_append_getElem h1,h2]
    have hnin:bk∉(ws t.r.name).take k:=fun h=> by
     have hn2:=HN.out
     obtain ⟨h1,h2⟩:=List.getElem?_eq_some_iff.1 hbk
     obtain ⟨q,hq,e⟩:=List.getElem_of_mem h
     rw [List.length_take] at hq
     rw [List.getElem_take] at e
     have:=List.pairwise_iff_getElem.1 hn2 q k (by omega) h1 (by omega)
     exact this (e.trans h2.symm)
    obtain ⟨hd1,hd2⟩:=decT_snoc HB1.out.tbs hnin hj hu
    rw [<-htk] at hd1
    have hUk:=hBk.at hd2
    have o9:wr.cell? ⟨u.tb,9,none⟩=some (.int .i64 (u.op:Int)):=hUk.rng 9 _ rfl
    have uz:=hUk.row.lt
    obtain ⟨_,g9⟩:=hUk.row.row.at (i:=9) (by omega)
    have hrow:=hBk.wrow t.r.name
    rw [Hf.out] at hrow
    obtain ⟨b,o,rfl,hb,hcs⟩:=cellsB_of_owned (by have:=hrow;rw [<-Hm.out] at this;exact this) k (by simp;have:=Hm.out;omega)
    have c0:wr.cell? ⟨b,o+k,none⟩=some (.pointer (some ⟨u.tb,0,none⟩)):=by rw [hcs k (ptrB bk) (by simp [hbk]),<-hu];rfl
    have HSt:=Kz (hBk.store (t':= { u with op:=u.op - 1 }) hd2 (o:=9) (v:= .int .i64 ((u.op - 1:Nat):Int)) (by omega) rfl rfl rfl rfl rfl rfl rfl rfl rfl rfl)
    rw [<-hd1] at HSt
    have hnum: ((u.op - 1:Nat):Int)= (u.op:Int) - 1:=by omega
    rw [hnum] at HSt
    have i0: (k:Int) < (m:Int):=by omega
    clear hcs hrow hUk hd1 hd2 htk hnin hmem hbk hj hu hnum hBk
    go_wp2
    go_roundw
    case rel=> exact ⟨k+1,by omega,by go_num,HSt.out⟩
    case measure=> simp [intOf];omega
   ·obtain rfl:k=m:=by omega
    have htk: (ws t.r.name).take k=ws t.r.name:=by rw [Hm.out];exact List.take_length
    rw [htk] at hBk
    have HBk:=Kz hBk
    clear hBk htk
    have HTk:=Kz (decT_at (l:=ws t.r.name) HI1.out)
    have HS6:Hid (∀w',K_ wr w'->w'.cell? ⟨bb,5,none⟩=some (.map (some mb))∧w'.cell? ⟨t.tb,0,none⟩=some (.string t.r.name)):=fun w' K=> ⟨(HBk.out.kept K).c5,by obtain ⟨u,h1,h2,h3⟩:=HTk.out;have h4:= ((HBk.out.kept K).at h1).rng 0 _ rfl;rw [h2,h3] at h4;exact h4⟩
    go_upto_region 6 with fail
    refine Qx.rg 9 HS6.out fun wd KD Z_=> ?_
    refine Qx.tk 0 Z_ ?_
    refine Qx.tk 1 Z_ ?_
    refine Qx.tk 2 Z_ ?_
    refine Qx.tk 3 Z_ ?_
    refine Qx.tk 4 Z_ ?_
    refine Qx.tk 5 Z_ ?_
    refine Qx.tk 6 Z_ ?_
    refine Qx.tk 7 Z_ ?_
    refine Qx.tk 8 Z_ ?_
    obtain ⟨w9,hrun,_,hB9⟩:= (HBk.out.kept KD).del (s:=t.r.name) (by unfold maxLen;omega) 0
    have HB9:=Kz hB9
    clear hB9
    refine Qx.nx 9 (fun K hK=> ?_)
    rw [if_pos (by rfl)]
    go_simp
    refine hK.out _ _ (fun h=> absurd rfl h) ?_
    clear hK K
    try simp only [Act.put,upA,upB,upC]
    refine Qx.dn ?_
    go_wp2
    go_end0
    exact ⟨rfl,HB9.out⟩
 ·rw [if_pos (by rfl)]
  go_simp
  refine hK.out _ _ (fun _=> Zz.out _ KD) ?_
  clear hK K
  try simp only [Act.put,upA,upB,upC]
  refine Qx.nx 10 (fun K hK=> ?_)
  go_simp
  refine hK.out _ _ (fun _=> Zz.out _ KD) ?_
  clear hK K
  try simp only [Act.put,upA,upB,upC]
  refine Qx.dn ?_
  have HBd:=Kz (HB1.out.kept KD)
  clear Z_
  go_wp2
  go_loopw [35] (fun x wr=> ∃k:Nat,k<=m∧x= .int .i64 k∧BM G Kj wz wr bb a cap rd rn rc mb mx (decT T1 ((ws t.r.name).take k)) d dc f ws) (fun x _=> m - (intOf x).toNat)
  case atStart=> exact ⟨0,Nat.zero_le _,rfl,by rw [List.take_zero,decT_nil];exact HBd.out⟩
  case round=>
   clear HBd KD
   obtain ⟨k,hk,rfl,hBk⟩:=hrel
   by_cases hlt:k < m
   ·obtain ⟨bk,hbk⟩: ∃bk,(ws t.r.name)[k]? =some bk:= ⟨_,List.getElem?_eq_getElem (by have:=Hm.out;omega)⟩
    have hmem:bk∈ws t.r.name:=List.mem_of_getElem? hbk
    obtain ⟨j,u,hj,hu,ho1,ho2⟩:=HW.out bk hmem
    have htk: (ws t.r.name).take (k+1)= (ws t.r.name).take k++ [bk]:=by
     obtain ⟨h1,h2⟩:=List.getElem?_eq_some_iff.1 hbk
     rw [List.take_succ_eq_append_getElem h1,h2]
    have hnin:bk∉(ws t.r.name).take k:=fun h=> by
     have hn2:=HN.out
     obtain ⟨h1,h2⟩:=List.getElem?_eq_some_iff.1 hbk
     obtain ⟨q,hq,e⟩:=List.getElem_of_mem h
     rw [List.length_take] at hq
     rw [List.getElem_take] at e
     have:=List.pairwise_iff_getElem.1 hn2 q k (by omega) h1 (by omega)
     exact this (e.trans h2.symm)
    obtain ⟨hd1,hd2⟩:=decT_snoc HB1.out.tbs hnin hj hu
    rw [<-htk] at hd1
    have hUk:=hBk.at hd2
    have o9:wr.cell? ⟨u.tb,9,none⟩=some (.int .i64 (u.op:Int)):=hUk.rng 9 _ rfl
    have uz:=hUk.row.lt
    obtain ⟨_,g9⟩:=hUk.row.row.at (i:=9) (by omega)
    have hrow:=hBk.wrow t.r.name
    rw [Hf.out] at hrow
    obtain ⟨b,o,rfl,hb,hcs⟩:=cellsB_of_owned (by have:=hrow;rw [<-Hm.out] at this;exact this) k (by simp;have:=Hm.out;omega)
    have c0:wr.cell? ⟨b,o+k,none⟩=some (.pointer (some ⟨u.tb,0,none⟩)):=by rw [hcs k (ptrB bk) (by simp [hbk]),<-hu];rfl
    have HSt:=Kz (hBk.store (t':= { u with op:=u.op - 1 }) hd2 (o:=9) (v:= .int .i64 ((u.op - 1:Nat):Int)) (by omega) rfl rfl rfl rfl rfl rfl rfl rfl rfl rfl)
    rw [<-hd1] at HSt
    have hnum: ((u.op - 1:Nat):Int)= (u.op:Int) - 1:=by omega
    rw [hnum] at HSt
    have i0: (k:Int) < (m:Int):=by omega
    clear hcs hrow hUk hd1 hd2 htk hnin hmem hbk hj hu hnum hBk
    go_wp2
    go_roundw
    case rel=> exact ⟨k+1,by omega,by go_num,HSt.out⟩
    case measure=> simp [intOf];omega
   ·obtain rfl:k=m:=by omega
    have htk: (ws t.r.name).take k=ws t.r.name:=by rw [Hm.out];exact List.take_length
    rw [htk] at hBk
    have HBk:=Kz hBk
    clear hBk htk
    have HTk:=Kz (decT_at (l:=ws t.r.name) HI1.out)
    have HS6:Hid (∀w',K_ wr w'->w'.cell? ⟨bb,5,none⟩=some (.map (some mb))∧w'.cell? ⟨t.tb,0,none⟩=some (.string t.r.name)):=fun w' K=> ⟨(HBk.out.kept K).c5,by obtain ⟨u,h1,h2,h3⟩:=HTk.out;have h4:= ((HBk.out.kept K).at h1).rng 0 _ rfl;rw [h2,h3] at h4;exact h4⟩
    go_upto_region 6 with fail
    refine Qx.rg 9 HS6.out fun wd KD Z_=> ?_
    refine Qx.tk 0 Z_ ?_
    refine Qx.tk 1 Z_ ?_
    refine Qx.tk 2 Z_ ?_
    refine Qx.tk 3 Z_ ?_
    refine Qx.tk 4 Z_ ?_
    refine Qx.tk 5 Z_ ?_
    refine Qx.tk 6 Z_ ?_
    refine Qx.tk 7 Z_ ?_
    refine Qx.tk 8 Z_ ?_
    obtain ⟨w9,hrun,_,hB9⟩:= (HBk.out.kept KD).del (s:=t.r.name) (by unfold maxLen;omega) 0
    have HB9:=Kz hB9
    clear hB9
    refine Qx.nx 9 (fun K hK=> ?_)
    rw [if_pos (by rfl)]
    go_simp
    refine hK.out _ _ (fun h=> absurd rfl h) ?_
    clear hK K
    try simp only [Act.put,upA,upB,upC]
    refine Qx.dn ?_
    go_wp2
    go_end0
    exact ⟨rfl,HB9.out⟩
end
theorem region_part {P:Program} {id:Nat} {ops:Array Oper} {Q:Exit->Act->World->Prop} {a:Act} {w:World} (J:Act->Act->World->Prop) (h: (Code.region id ops true).wp P (fun x b u=> x= .normal∧J a b u) a w) (hJ: ∀b u,J a b u->Q .normal b u): (Code.region id ops true).wp P Q a w:=
 wp_mono h fun e b u hx=> by
  obtain ⟨rfl,hx⟩:=hx
  exact hJ b u hx
def natV (n:Nat):Value:= .int .i64 (n:Int)
theorem rowIs_type {w:World} {b n:Nat} {t:TypeId} {F:Nat->Value} (h:w.rowIs b t n F):TypeAt w b t:=by
 obtain ⟨c,h1,_⟩:=h
 exact ⟨c,_,h1⟩
theorem rowIs_block {w w':World} {b n:Nat} {t:TypeId} {F:Nat->Value} (h:w.rowIs b t n F) (k:w'.heap[b]? =w.heap[b]?):w'.rowIs b t n F:=by
 obtain ⟨c,h1,h2⟩:=h
 exact ⟨c,k.trans h1,h2⟩
theorem rowIs_lt {w:World} {b n:Nat} {t:TypeId} {F:Nat->Value} (h:w.rowIs b t n F):b < w.heap.size:=by
 obtain ⟨c,h1,_⟩:=h
 exact heap_lt h1
theorem rowIs_ext {w:World} {b n:Nat} {t:TypeId} {F G:Nat->Value} (h:w.rowIs b t n F) (e: ∀p,p < n->G p=F p):w.rowIs b t n G:=by
 obtain ⟨c,h1,h2,h3⟩:=h
 exact ⟨c,h1,h2,fun p hp=> by rw [h3 p hp,e p hp]⟩
def Nats (w:World) (a:Option Addr) (l:List Nat):Prop:= ∀i,i < l.length->∃b o,a=some ⟨b,o,none⟩∧b < w.heap.size∧w.cell? ⟨b,o+i,none⟩=some (.int .i64 ((l.getD i 0:Nat):Int))
theorem Nats.kept {w w':World} {a:Option Addr} {l:List Nat} (h:Nats w a l) (k:K_ w w'):Nats w' a l:=fun i hi=> by
 obtain ⟨b,o,h1,h2,h3⟩:=h i hi
 exact ⟨b,o,h1,Nat.lt_of_lt_of_le h2 k.size,(k.cell h2).trans h3⟩
theorem owned_nats {w:World} {base:Nat} {t:TypeId} {v:Value} {n:Nat} {l:List Nat} (h:w.ownsRow base t 1 v n (l.map natV)) (hn:n=l.length): ∃a cap,v= .slice a l.length cap∧n<=cap∧Nats w a l:=by
 obtain ⟨a,cap,rfl⟩:=own_slice h
 refine ⟨a,cap,by rw [hn], ?_,fun i hi=> ?_⟩
 ·rcases h.2 with ⟨e,h1⟩ | ⟨_,_,_,e,_,_,h1,_⟩
  ·simp only [Value.slice.injEq] at e;omega
  ·simp only [Value.slice.injEq] at e;omega
 ·obtain ⟨b,o,h1,h2,h3⟩:=cellsB_of_owned h i (by simpa using hi)
  exact ⟨b,o,h1,h2,by have:=h3 i (natV (l.getD i 0)) (by simp [List.getD,hi]);exact this⟩
structure TabM (w:World) (base n:Nat) (blk:Bool->Nat) (g:Bool->Nat->Value) (L:Bool->Nat->List Nat):Prop where
 row: ∀c,w.rowIs (blk c) 56 n (g c)
 ne:blk true≠blk false
 own: ∀c p,w.ownsRow base 3 1 (g c p) (L c p).length ((L c p).map natV)
 sep: ∀c p c' p',¬(c'=c∧p'=p)->∀x,(g c p).ownBlock=some x->(g c' p').ownBlock≠some x
section
variable {w w1 w' : World} {base n : Nat} {blk : Bool -> Nat} {g : Bool -> Nat -> Value} {L : Bool -> Nat -> List Nat}
theorem TabM.but {S:Nat->Prop} (h:TabM w base n blk g L) (k:But S w w') (h1: ∀c,¬S (blk c)) (h2: ∀c p b,(g c p).ownBlock=some b->¬S b):TabM w' base n blk g L:=
 ⟨fun c=> rowIs_block (h.row c) (k.block _ (rowIs_lt (h.row c)) (h1 c)),h.ne,fun c p=> k.owns (h.own c p) (h2 c p),h.sep⟩
theorem TabM.kept (h:TabM w base n blk g L) (k:K_ w w'):TabM w' base n blk g L:=h.but (S:=fun _=> False) (But.of_kept k) (fun _=> id) (fun _ _ _ _=> id)
theorem TabM.put (h:TabM w base n blk g L) (b:Bool) (p:Nat) {v':Value} {x:Nat} (ho:w1.ownsRow base 3 1 v' ((L b p).length+1) ((L b p).map natV++ [natV x])) (hg:w.grownBy w1 (g b p).ownBlock) (hv: ∀y,v'.ownBlock=some y->(g b p).ownBlock=some y∨w.heap.size<=y):
  TabM (w1.setCell ⟨blk b,p,none⟩ v') base n blk (fun c q=> if c=b∧q=p then v' else g c q) (fun c q=> if c=b∧q=p then L b p++ [x] else L c q)∧But (fun y=> (g b p).ownBlock=some y∨y=blk b) w (w1.setCell ⟨blk b,p,none⟩ v'):=by
 have k1:But (fun y=> (g b p).ownBlock=some y) w w1:=But.of_grown hg (fun y e=> e)
 have hr1: ∀c,w1.rowIs (blk c) 56 n (g c):=fun c=> rowIs_block (h.row c) (k1.block _ (rowIs_lt (h.row c)) (fun e=> type_ne (rowIs_type (h.row c)) (Yz (h.own b p) e) (by decide) rfl))
 have ks:But (fun y=> y=blk b) w1 (w1.setCell ⟨blk b,p,none⟩ v'):=But.set (S:=fun y=> y=blk b) (But.of_kept (K_.refl w1)) (p:= ⟨blk b,p,none⟩) rfl v'
 have own1: ∀c q,¬(c=b∧q=p)->w1.ownsRow base 3 1 (g c q) (L c q).length ((L c q).map natV):=fun c q hne=> k1.owns (h.own c q) (fun y e e2=> h.sep c q b p (fun e3=> hne ⟨e3.1.symm,e3.2.symm⟩) y e e2)
 refine ⟨⟨fun c=> ?_,h.ne,fun c q=> ?_,fun c q c' q' hne y hy=> ?_⟩, ?_⟩
 ·by_cases e:c=b
  ·subst e
   exact row_put (hr1 c) p v' (fun q hq=> by simp)
  ·refine rowIs_ext (rowIs_block (hr1 c) (ks.block _ (rowIs_lt (hr1 c)) (fun e2=> ?_))) (fun q _=> by simp [e])
   have h3:=h.ne
   cases c <;> cases b <;> first | exact e rfl | exact h3 e2 | exact h3 e2.symm
 ·by_cases e:c=b∧q=p
  ·simp only [if_pos e,List.length_append,List.map_append,List.length_singleton,List.map_cons,List.map_nil]
   exact ks.owns ho (fun y e1 e2=> type_ne (Yz ho e1) (rowIs_type (hr1 b)) (by decide) e2)
  ·simp only [if_neg e]
   exact ks.owns (own1 c q e) (fun y e1 e2=> type_ne (Yz (own1 c q e) e1) (rowIs_type (hr1 b)) (by decide) e2)
 ·have hold: ∀c q,¬(c=b∧q=p)->∀y,v'.ownBlock=some y->(g c q).ownBlock≠some y:=fun c q hn y h1 h2=> by
   rcases hv y h1 with h3 | h3
   ·exact h.sep b p c q hn y h3 h2
   ·have:= ((h.own c q).lt y h2).2
    omega
  by_cases e:c=b∧q=p
  ·simp only [if_pos e] at hy
   have e2: ¬(c'=b∧q'=p):=fun e2=> hne ⟨e2.1.trans e.1.symm,e2.2.trans e.2.symm⟩
   simp only [if_neg e2]
   exact hold c' q' e2 y hy
  ·simp only [if_neg e] at hy
   by_cases e2:c'=b∧q'=p
   ·simp only [if_pos e2]
    exact fun h4=> hold c q e y h4 hy
   ·simp only [if_neg e2]
    exact h.sep c q c' q' hne y hy
 ·exact (k1.mono (fun y _ e=> Or.inl e)).trans (ks.mono (fun y _ e=> Or.inr e))
end
structure NeedV (w:World) (na:Option Addr) (nm:List ByteArray) (nb mb:Nat) (need back:Nat->List Nat):Prop where
 names:Strs w na nm
 nbl:nb < w.heap.size
 mbl:mb < w.heap.size
 fwd: ∀p,p < nm.length->∃a c,w.cell? ⟨nb,p,none⟩=some (.slice a (need p).length c)∧Nats w a (need p)
 bwd: ∀p,p < nm.length->∃a c,w.cell? ⟨mb,p,none⟩=some (.slice a (back p).length c)∧Nats w a (back p)
theorem NeedV.kept {w w':World} {na:Option Addr} {nm:List ByteArray} {nb mb:Nat} {need back:Nat->List Nat} (h:NeedV w na nm nb mb need back) (k:K_ w w'):NeedV w' na nm nb mb need back:=
 ⟨h.names.kept k,Nat.lt_of_lt_of_le h.nbl k.size,Nat.lt_of_lt_of_le h.mbl k.size,fun p hp=> by
  obtain ⟨a,c,h1,h2⟩:=h.fwd p hp
  exact ⟨a,c,(k.cell h.nbl).trans h1,h2.kept k⟩,fun p hp=> by
  obtain ⟨a,c,h1,h2⟩:=h.bwd p hp
  exact ⟨a,c,(k.cell h.mbl).trans h1,h2.kept k⟩⟩
theorem TabM.read {w:World} {base:Nat} {blk:Bool->Nat} {g:Bool->Nat->Value} {L:Bool->Nat->List Nat} {na:Option Addr} {nm:List ByteArray} (h:TabM w base nm.length blk g L) (hn:Strs w na nm):NeedV w na nm (blk true) (blk false) (L true) (L false):=by
 have key: ∀c p,p < nm.length->∃a cap,w.cell? ⟨blk c,p,none⟩=some (.slice a (L c p).length cap)∧Nats w a (L c p):=fun c p hp=> by
  obtain ⟨a,cap,h1,_,h2⟩:=owned_nats (h.own c p) rfl
  exact ⟨a,cap,by rw [(h.row c).cell hp,h1],h2⟩
 exact ⟨hn,rowIs_lt (h.row true),rowIs_lt (h.row false),key true,key false⟩
theorem count_less {l:List Nat} {p q:Nat->Bool} (h: ∀x,q x=true->p x=true) {s:Nat} (hs:s∈l) (h1:p s=true) (h2:q s=false):l.countP q+1<=l.countP p:=by
 induction l with
 | nil=> cases hs
 | cons a l ih=>
  rw [List.countP_cons,List.countP_cons]
  rcases List.mem_cons.1 hs with rfl | hs
  ·have:=List.countP_mono_left (l:=l) (p:=q) (q:=p) (fun x _=> h x)
   simp only [h1,h2,if_true]
   simp
   omega
  ·have h3:=ih hs
   have h4:=h a
   cases hq:q a
   ·simp;omega
   ·simp [h4 hq];omega
def unseen (A:Nat->Nat):Nat:= (List.range 60).countP (fun p=> A p == 0)
theorem unseen_put {A:Nat->Nat} {s v:Nat} (hs:s < 60) (h0:A s=0) (hv:v≠0):unseen (fun r=> if r=s then v else A r)+1<=unseen A:=by
 refine count_less (s:=s) (fun x hx=> ?_) (List.mem_range.2 hs) (by simp [h0]) (by simp [hv])
 by_cases e:x=s
 ·rw [e] at hx;simp [hv] at hx
 ·simpa [e] using hx
theorem queue_room {Q:List Nat} {s:Nat} (hn:Q.Nodup) (hq: ∀p∈Q,p < 60) (hs:s < 60) (hsq:s∉Q):Q.length < 60:=by
 have h: (s :: Q).Nodup:=List.nodup_cons.2 ⟨hsq,hn⟩
 have:=List.Nodup.length_le_of_subset (l₂:=List.range 60) h (fun x hx=> by
  rcases List.mem_cons.1 hx with rfl | hx
  ·exact List.mem_range.2 hs
  ·exact List.mem_range.2 (hq x hx))
 simp at this
 omega
def AwayM (w:World) (ab:Nat) (A:Nat->Nat):Prop:=w.rowIs ab 261 60 (fun i=> natV (A i))
theorem AwayM.put {w:World} {ab:Nat} {A:Nat->Nat} (h:AwayM w ab A) (i v:Nat):AwayM (w.setCell ⟨ab,i,none⟩ (.int .i64 (v:Int))) ab (fun r=> if r=i then v else A r):=
 row_put h i _ (fun p _=> by by_cases e:p=i <;> simp [e,natV])
theorem RingM.size {w:World} {rb:Nat} {Q:List Nat} (h:RingM w rb Q):w.cell? ⟨rb,61,none⟩=some (.int .i64 (Q.length:Int)):=by
 obtain ⟨V,f,_,_,hr,_⟩:=h.ex
 rw [hr.cell (by omega)]
 rfl
def awayV (A:Nat->Nat):Array Value:= ((List.range 60).map fun i=> natV (A i)).toArray
structure DistR (R:Nat->Nat->Prop) (t:Nat) (A:Nat->Nat) (size:Nat):Prop where
 no:size=0->∀n,¬SizeP R t n
 yes:size≠0->SizeP R t size∧∀r n,n+1<=size->(A r=n+1↔Far R t n r)
def DistEnd (R:Nat->Nat->Prop) (t:Nat) (w w':World) (e:Ending):Prop:= ∃(A:Nat->Nat) (size:Nat),e= .returned (.tuple #[.agg (awayV A),.int .i64 (size:Int)])∧DistR R t A size∧size<=60∧K_ w w'
theorem away_list {w:World} {ab:Nat} {A:Nat->Nat} (h:AwayM w ab A):w.rangeAt ab 0 ((List.range 60).map fun i=> natV (A i)):=fun j v hv=> by
 rw [List.getElem?_map] at hv
 by_cases hj:j < 60
 ·rw [List.getElem?_range hj] at hv
  simp only [Option.map_some,Option.some.injEq] at hv
  rw [Nat.zero_add,<-hv]
  exact h.cell hj
 ·rw [List.getElem?_eq_none (by simpa using hj)] at hv
  cases hv
theorem Tryz.size60 : (Tryz.prog.info? 261).map (·.size)=some 60:=by kernel_rfl
theorem ret_cell_tmp {P:Program} {fn:Func} {R:Ending->World->Prop} {a:Act} {w:World} {p q:Tmp} {ty:TypeId} {b:Nat} (cs:List Value) (d:TypeDesc) (v:Value) (h:fn.results= #[.cell p ty,.tmp q])
  (hp:a.tmps.getD p undef= .pointer (some ⟨b,0,none⟩)) (hr:w.rangeAt b 0 cs) (hu:P.underlying ty=some d) (hd:d.isRow=true) (hi: (P.info? ty).map (·.size)=some cs.length)
  (hq:a.tmps.getD q undef=v) (hdef:a.defers=[]) (hR:R (.returned (.tuple #[.agg cs.toArray,v])) w):bodyPost P fn R .ret a w:=by
 refine bodyPost_ret ?_ hdef hR
 have hp':a.tmps[p]?.getD undef= .pointer (some ⟨b,0,none⟩):=by simpa using hp
 have hq':a.tmps[q]?.getD undef=v:=by simpa using hq
 simp only [results,h]
 simp [hp',hq',asAddr,run_loadVar_mid w b 0 ty cs d hr hu hd hi]
theorem awayV_size (A:Nat->Nat): (awayV A).size=60:=by simp [awayV]
theorem awayV_one (A:Nat->Nat): (awayV A).all (·.oneCell')=true:=by simp [awayV,natV,Value.oneCell']
theorem z60 :List.toArray (Value.int .i64 0 :: Value.int .i64 0 :: Value.int .i64 0 :: Value.int .i64 0 :: Value.int .i64 0 :: Value.int .i64 0 :: Value.int .i64 0 :: Value.int .i64 0 :: Value.int .i64 0 :: Value.int .i64 0 :: Value.int .i64 0 :: Value.int .i64 0 :: Value.int .i64 0 :: Value.int .i64 0 :: Value.int .i64 0 :: Value.int .i64 0 :: Value.int .i64 0 :: Value.int .i64 0 :: Value.int .i64 0 :: Value.int .i64 0 :: Value.int .i64 0 :: Value.int .i64 0 :: Value.int .i64 0 :: Value.int .i64 0 :: Value.int .i64 0 :: Value.int .i64 0 :: Value.int .i64 0 :: Value.int .i64 0 :: Value.int .i64 0 :: Value.int .i64 0 :: Value.int .i64 0 :: Value.int .i64 0 :: Value.int .i64 0 :: Value.int .i64 0 :: Value.int .i64 0 :: Value.int .i64 0 :: Value.int .i64 0 :: Value.int .i64 0 :: Value.int .i64 0 :: Value.int .i64 0 :: Value.int .i64 0 :: Value.int .i64 0 :: Value.int .i64 0 :: Value.int .i64 0 :: Value.int .i64 0 :: Value.int .i64 0 :: Value.int .i64 0 :: Value.int .i64 0 :: Value.int .i64 0 :: Value.int .i64 0 :: Value.int .i64 0 :: Value.int .i64 0 :: Value.int .i64 0 :: Value.int .i64 0 :: Value.int .i64 0 :: Value.int .i64 0 :: Value.int .i64 0 :: Value.int .i64 0 :: Value.int .i64 0 :: Value.int .i64 0 :: [])=Array.replicate 60 (Value.int .i64 0):=rfl
theorem z62 :List.toArray (Value.int .i64 0 :: Value.int .i64 0 :: Value.int .i64 0 :: Value.int .i64 0 :: Value.int .i64 0 :: Value.int .i64 0 :: Value.int .i64 0 :: Value.int .i64 0 :: Value.int .i64 0 :: Value.int .i64 0 :: Value.int .i64 0 :: Value.int .i64 0 :: Value.int .i64 0 :: Value.int .i64 0 :: Value.int .i64 0 :: Value.int .i64 0 :: Value.int .i64 0 :: Value.int .i64 0 :: Value.int .i64 0 :: Value.int .i64 0 :: Value.int .i64 0 :: Value.int .i64 0 :: Value.int .i64 0 :: Value.int .i64 0 :: Value.int .i64 0 :: Value.int .i64 0 :: Value.int .i64 0 :: Value.int .i64 0 :: Value.int .i64 0 :: Value.int .i64 0 :: Value.int .i64 0 :: Value.int .i64 0 :: Value.int .i64 0 :: Value.int .i64 0 :: Value.int .i64 0 :: Value.int .i64 0 :: Value.int .i64 0 :: Value.int .i64 0 :: Value.int .i64 0 :: Value.int .i64 0 :: Value.int .i64 0 :: Value.int .i64 0 :: Value.int .i64 0 :: Value.int .i64 0 :: Value.int .i64 0 :: Value.int .i64 0 :: Value.int .i64 0 :: Value.int .i64 0 :: Value.int .i64 0 :: Value.int .i64 0 :: Value.int .i64 0 :: Value.int .i64 0 :: Value.int .i64 0 :: Value.int .i64 0 :: Value.int .i64 0 :: Value.int .i64 0 :: Value.int .i64 0 :: Value.int .i64 0 :: Value.int .i64 0 :: Value.int .i64 0 :: Value.int .i64 0 :: Value.int .i64 0 :: [])=Array.replicate 62 (Value.int .i64 0):=rfl
theorem distances_any (w:World) (na:Option Addr) (nc:Nat) (nm:List ByteArray) (nb mb:Nat) (need back:Nat->List Nat) (E:ByteArray->ByteArray->Prop) (M:Nat) (t:Nat) (ht:t < nm.length) (hn:nm.length<=60) (hM:M<=60000000) (hV:NeedV w na nm nb mb need back) (hR:NeedR E nm M need back):
  Calls Tryz.prog 188 #[.agg #[.slice na nm.length nc,.slice (some ⟨nb,0,none⟩) nm.length nm.length,.slice (some ⟨mb,0,none⟩) nm.length nm.length],.int .i64 (t:Int)] w fun e w'=> DistEnd (EdgeP E nm) t w w' e:=by
 go_enter Tryz.func188,Tryz.ntmps188
 go_upto_region 1 with fail
 rw [z60]
 go_step3
 go_upto_region 4 with fail
 rw [z60,z62]
 obtain ⟨W1,hW1⟩: ∃W1,W1=w.alloc (.cells #[.slice na nm.length nc,.slice (some ⟨nb,0,none⟩) nm.length nm.length,.slice (some ⟨mb,0,none⟩) nm.length nm.length] 203):= ⟨_,rfl⟩
 have k1:K_ w W1:=by rw [hW1];exact (K_.refl _).alloc _
 have s2:W1.cell? ⟨w.heap.size,2,none⟩=some (.slice (some ⟨mb,0,none⟩) nm.length nm.length):=by rw [hW1];exact Xz w #[.slice na nm.length nc,.slice (some ⟨nb,0,none⟩) nm.length nm.length,.slice (some ⟨mb,0,none⟩) nm.length nm.length] 203 2 _ rfl
 have z1:w.heap.size < W1.heap.size:=by rw [hW1];simp
 have hw1z:w.heap.size+1=W1.heap.size:=by rw [hW1];simp
 obtain ⟨W2,hW2⟩: ∃W2,W2=W1.alloc (.cells (Array.replicate 60 (.int .i64 0)) 261):= ⟨_,rfl⟩
 have k2:K_ W1 W2:=by rw [hW2];exact (K_.refl _).alloc _
 have HRes:Hid (RowT W2 W1.heap.size 261 60):=by have h:=RowT.made W1 (Array.replicate 60 (.int .i64 0)) 261;rw [Array.size_replicate] at h;rw [hW2];exact h
 have hw2z:W1.heap.size+1=W2.heap.size:=by rw [hW2];simp
 obtain ⟨W3,hW3⟩: ∃W3,W3=W2.alloc (.cells (Array.replicate 60 (.int .i64 0)) 261):= ⟨_,rfl⟩
 have k3:K_ W2 W3:=by rw [hW3];exact (K_.refl _).alloc _
 have a3:AwayM W3 W2.heap.size (fun _=> 0):=by
  have h:=World.rowIs_alloc W2 (Array.replicate 60 (.int .i64 0)) 261 (fun _=> natV 0) (fun i hi=> by simp at hi;simp [natV,hi])
  rw [Array.size_replicate] at h
  rw [hW3]
  exact h
 have hw3z:W2.heap.size+1=W3.heap.size:=by rw [hW3];simp
 obtain ⟨W4,hW4⟩: ∃W4,W4=W3.alloc (.cells (Array.replicate 62 (.int .i64 0)) 284):= ⟨_,rfl⟩
 have k4:K_ W3 W4:=by rw [hW4];exact (K_.refl _).alloc _
 have r4:RingM W4 W3.heap.size []:=by
  refine ⟨fun _=> 0,0,by omega,by simp, ?_,fun i hi=> absurd hi (Nat.not_lt_zero _)⟩
  have h:=World.rowIs_alloc W3 (Array.replicate 62 (.int .i64 0)) 284 (ringF (fun _=> 0) 0 0) (fun i hi=> by simp at hi;simp [ringF,hi])
  rw [Array.size_replicate] at h
  rw [hW4]
  exact h
 rw [<-hW1,<-hW2,<-hW3,<-hW4]
 obtain ⟨ab,hab⟩: ∃ab,ab=W2.heap.size:= ⟨_,rfl⟩
 obtain ⟨rb,hrb⟩: ∃rb,rb=W3.heap.size:= ⟨_,rfl⟩
 have e1:w.heap.size+1=W1.heap.size:=hw1z
 have e2:w.heap.size+1+1=ab:=by omega
 have e3:w.heap.size+1+1+1=rb:=by omega
 rw [e3,e2,e1]
 rw [<-hab] at a3
 rw [<-hrb] at r4
 have hne:ab≠rb:=by omega
 have A4:=Kz (row_kept a3 k4)
 have hf4:=A4.out.frozen t
 have ho4:=A4.out.cell (show t < 60 by omega)
 have hti: (t:Int) < 60:=by omega
 have K4:=k3.trans k4
 have HR4:=Kz r4
 have HA5:=Kz (AwayM.put A4.out t 1)
 have HB5:Hid (But (fun b=> b=ab∨b=rb) W4 (W4.setCell ⟨ab,t,none⟩ (.int .i64 (1:Int)))):=But.set (S:=fun b=> b=ab∨b=rb) (But.of_kept (K_.refl W4)) (p:= ⟨ab,t,none⟩) (.inl rfl) _
 have HK1:=Kz (k1.trans k2)
 have HK2:=Kz k2
 have HR5:=Kz (HR4.out.block (w':=W4.setCell ⟨ab,t,none⟩ (.int .i64 (1:Int))) (Below.heap_setCell _ _ _ _ (fun e=> hne (Eq.symm e))))
 have HAb:Hid (W2.heap.size<=ab):=by show W2.heap.size<=ab;omega
 have HRb:Hid (W2.heap.size<=rb):=by show W2.heap.size<=rb;omega
 have HZ:Hid (w.heap.size < W2.heap.size∧W1.heap.size < W2.heap.size∧w.heap.size < W1.heap.size):= ⟨by omega,by omega,by omega⟩
 have HS2:=Kz ((HK2.out.cell z1).trans s2)
 obtain ⟨b4,hb4⟩: ∃b4,b4=W1.heap.size:= ⟨_,rfl⟩
 rw [<-hb4] at HRes HZ⊢
 have HB4:=Kz hb4
 clear hW1 hW2 hW3 hW4 e1 e2 e3 a3 r4 k3 k4 k1 k2 hw3z hw2z hw1z hab hrb z1 s2 hb4
 go_upto_region 5 with fail
 have HK5:Hid (K_ W2 (W4.setCell ⟨ab,t,none⟩ (.int .i64 (1:Int)))):=HB5.out.kept K4 (fun b e=> by rcases e with e | e <;> rw [e] <;> first | exact HAb.out | exact HRb.out)
 generalize hW5:W4.setCell ⟨ab,t,none⟩ (.int .i64 (1:Int))=W5 at HA5 HB5 HR5 HK5⊢
 clear hW5 hf4 ho4 HB5 HR4 A4 K4
 go_wp2_with fail
 refine (put_any W5 rb [] t HR5.out (by simp)).mono ?_
 rintro e w6 ⟨rfl,hR6,hB6⟩
 have HR6:Hid (RingM w6 rb [t]):=hR6
 have HA6:Hid (AwayM w6 ab (fun r=> if r=t then 1 else (fun _=> 0) r)):=rowIs_block HA5.out (hB6.block _ (rowIs_lt HA5.out) (fun e=> hne e))
 have HK6:Hid (K_ W2 w6):=hB6.kept HK5.out (fun b e=> by rw [e];exact HRb.out)
 have HBf:Hid (Bfs (EdgeP E nm) t (fun r=> if r=t then 1 else (fun _=> 0) r) [t]):=Bfs.start _ t
 have HU0:Hid (∀r,(fun r=> if r=t then 1 else (fun _=> 0) r) r+unseen (fun r=> if r=t then 1 else (fun _=> 0) r)<=60):=fun r=> by
  have h1:=unseen_put (A:=fun _=> 0) (v:=1) (show t < 60 by omega) rfl (by omega)
  have h2:unseen (fun _=> 0)<=60:=by unfold unseen;have:=List.countP_le_length (l:=List.range 60) (p:=fun _=> (0:Nat) == 0);simp
  by_cases e:r=t
  ·simp only [e,if_true];omega
  ·simp only [if_neg e];omega
 clear hR6 hB6 HA5 HR5 HK5
 go_wp2_with fail
 go_step3
 go_wp2_with fail
 go_loopg [8] (2 * unseen (fun r=> if r=t then 1 else (fun _=> 0) r)+1) (fun gg x8 wr=> ∃(A:Nat->Nat) (Q:List Nat),x8= .int .i64 0∧Hid (2 * unseen A+Q.length=gg)∧Hid (∀r,A r+unseen A<=60)∧Hid (AwayM wr ab A)∧Hid (RingM wr rb Q)∧Hid (Bfs (EdgeP E nm) t A Q)∧Hid (∀p∈Q,p < nm.length)∧Hid (K_ W2 wr))
 case atStart=> exact ⟨_,[t],rfl,Kz rfl,HU0,HA6,HR6,HBf,Kz (fun p hp=> by rw [List.mem_singleton] at hp;rw [hp];exact ht),HK6⟩
 case round=>
  clear HA6 HR6 HBf HK6 HU0
  obtain ⟨A,Q,rfl,HG,HUn,HA,HR,HB,HQ,HK⟩:=hrel
  have c61:=HR.out.size
  cases Q with
  | nil=>
   have c62:wr.cell? ⟨rb,61,none⟩=some (.int .i64 0):=c61
   clear c61
   have HD:Hid (DistR (EdgeP E nm) t A 0):= ⟨fun _ n hs=> HB.out.none n hs.1 hs.2.1,fun h=> absurd rfl h⟩
   go_upto_region 17 with fail
   have hres:=HRes.out.kept HK.out
   have HTh:=Kz (hres.row.there (o:=0) (m:=60) (Nat.le_refl _))
   have HLs:=Kz (away_list HA.out)
   go_wp2_with (first | (refine wpList_load_mid rfl 261 (.tmp 6) rfl ab 0 rfl _ _ HLs.out Tryz.underlying261 rfl Tryz.size60 ?_) | (refine wpList_store_mid rfl 261 (.tmp 4) (.tmp 49) rfl b4 0 (awayV A) rfl rfl (by rw [awayV_size];exact HTh.out) (by rw [awayV_size];exact Tryz.size60) (awayV_one A) ?_))
   try rw [Exit.noGoto_ret]
   refine ret_cell_tmp ((List.range 60).map fun i=> natV (A i)) _ (.int .i64 ((0:Nat):Int)) Tryz.results188 rfl (World.rangeAt_setCells_same wr b4 0 ((List.range 60).map fun i=> natV (A i)) (by rw [List.length_map,List.length_range];exact HTh.out)) Tryz.underlying261 rfl (by rw [List.length_map,List.length_range];exact Tryz.size60) rfl rfl ⟨A,0,rfl,HD.out,by omega, ?_⟩
   exact K_.setCells (Nat.le_of_lt HZ.out.2.2) _ _ (HK1.out.trans HK.out)
  | cons p Q=>
   have hgt: (0:Int) < ((p :: Q).length:Int):=by simp
   have hpm:p < nm.length:=HQ.out p (by simp)
   obtain ⟨ba,bc,hbc,hbn⟩:=hV.bwd p hpm
   go_wp2_with fail
   refine (take_any wr rb Q p HR.out).mono ?_
   rintro e w1 ⟨rfl,hR1,hB1⟩
   have HR1:=Kz hR1
   have HA1:Hid (AwayM w1 ab A):=rowIs_block HA.out (hB1.block _ (rowIs_lt HA.out) (fun e=> hne e))
   have HKb:Hid (K_ W2 w1):=hB1.kept HK.out (fun b e=> by rw [e];exact HRb.out)
   have HIn:=Kz HB.out.take
   have HQ1:Hid (∀q∈Q,q < nm.length):=fun q hq=> HQ.out q (List.mem_cons_of_mem _ hq)
   have HGl:Hid (2 * unseen A+Q.length < gk):=by have h:=HG.out;rw [List.length_cons] at h;show 2 * unseen A+Q.length < gk;omega
   have HBn:=Kz hbn
   have q2:= (HKb.out.cell HZ.out.1).trans HS2.out
   have q3:= ((HK1.out.trans HKb.out).cell hV.mbl).trans hbc
   have hpi: (p:Int) < (nm.length:Int):=by omega
   have hbl:= (hR.len p).2
   clear hR1 hB1 hbn hbc c61 hgt HA HR HB HQ HK HG
   go_wp2_with fail
   clear q2 q3
   go_loopw [8,26] (fun x8 x26 wr=> ∃(i:Nat) (A:Nat->Nat) (Q:List Nat),x8= .int .i64 0∧x26= .int .i64 (i:Int)∧i<=(back p).length∧Hid (2 * unseen A+Q.length < gk)∧Hid (∀r,A r+unseen A<=60)∧Hid (AwayM wr ab A)∧Hid (RingM wr rb Q)∧Hid (BfsIn (EdgeP E nm) t p ((back p).take i) A Q)∧Hid (∀q∈Q,q < nm.length)∧Hid (K_ W2 wr)) (fun _ x26 _=> (back p).length - (intOf x26).toNat)
   case atStart=> exact ⟨0,A,Q,rfl,rfl,Nat.zero_le _,HGl,HUn,HA1,HR1,HIn,HQ1,HKb⟩
   case round=>
    clear HGl HUn HA1 HR1 HIn HQ1 HKb
    obtain ⟨i,A,Q,rfl,rfl,hi,HG,HUn,HA,HR,HIn,HQ,HK⟩:=hrel
    by_cases hil:i < (back p).length
    rotate_left
    ·have HEn:Hid (Bfs (EdgeP E nm) t A Q):=HIn.out.ends (fun s hs=> by rw [List.take_of_length_le (by omega)];exact (hR.bwd s p).2 hs)
     go_wp2_with fail
     go_roundg (2 * unseen A+Q.length)
     case measure=> exact HG.out
     case rel=> exact ⟨A,Q,rfl,Kz rfl,HUn,HA,HR,HEn,HQ,HK⟩
    obtain ⟨sb,so,e1,hsb,hsc⟩:= (HBn.out.kept (HK1.out.trans HK.out)) i hil
    subst e1
    obtain ⟨s,hs⟩: ∃s,s= (back p).getD i 0:= ⟨_,rfl⟩
    rw [<-hs] at hsc
    have hsg: (back p)[i]=s:=by rw [hs];simp [List.getD,hil]
    have HE:Hid (EdgeP E nm s p):= (hR.bwd s p).1 (by rw [<-hsg];exact List.getElem_mem hil)
    have hsm:s < nm.length:=HE.out.1
    have HTk:Hid ((back p).take (i+1)= (back p).take i++ [s]):=by show _=_;rw [List.take_succ_eq_append_getElem hil,hsg]
    have hii: (i:Int) < ((back p).length:Int):=by omega
    have cp:=HA.out.cell (show p < 60 by omega)
    have cs:=HA.out.cell (show s < 60 by omega)
    unfold natV at cp cs
    have hp60: (p:Int) < 60:=by omega
    have hs60: (s:Int) < 60:=by omega
    clear hs hsg
    by_cases hst:s=t
    ·have hstb: ((s:Int) == (t:Int))=true:=by simp [hst]
     have HFo:=Kz (HIn.out.found (by have h:=HE.out;rw [hst] at h;exact h))
     have HPo:=Kz HIn.out.pos
     have HD:Hid (DistR (EdgeP E nm) t A (A p)):= ⟨fun h=> absurd h HPo.out,fun _=> ⟨⟨by have:=HPo.out;omega,HFo.out.1,HFo.out.2.1⟩,HFo.out.2.2⟩⟩
     have hap:A p<=60:=by have:=HUn.out p;omega
     clear hst cs
     go_upto_region 17 with fail
     have hres:=HRes.out.kept HK.out
     have HTh:=Kz (hres.row.there (o:=0) (m:=60) (Nat.le_refl _))
     have HLs:=Kz (away_list HA.out)
     go_wp2_with (first | (refine wpList_load_mid rfl 261 (.tmp 6) rfl ab 0 rfl _ _ HLs.out Tryz.underlying261 rfl Tryz.size60 ?_) | (refine wpList_store_mid rfl 261 (.tmp 4) (.tmp 49) rfl b4 0 (awayV A) rfl rfl (by rw [awayV_size];exact HTh.out) (by rw [awayV_size];exact Tryz.size60) (awayV_one A) ?_))
     try rw [Exit.noGoto_ret]
     refine ret_cell_tmp ((List.range 60).map fun i=> natV (A i)) _ (.int .i64 ((A p:Nat):Int)) Tryz.results188 rfl (World.rangeAt_setCells_same wr b4 0 ((List.range 60).map fun i=> natV (A i)) (by rw [List.length_map,List.length_range];exact HTh.out)) Tryz.underlying261 rfl (by rw [List.length_map,List.length_range];exact Tryz.size60) rfl rfl ⟨A,A p,rfl,HD.out,hap, ?_⟩
     exact K_.setCells (Nat.le_of_lt HZ.out.2.2) _ _ (HK1.out.trans HK.out)
    have hstb: ((s:Int) == (t:Int))=false:=by simp;omega
    by_cases hs0:A s=0
    rotate_left
    ·have hs0b: ((A s:Int) == 0)=false:=by simp;omega
     have HOl:=Kz (HIn.out.old hs0 hst)
     clear hs0 hst cp
     go_wp2_with fail
     go_roundw
     case rel=> exact ⟨i+1,A,Q,rfl,by go_num,by omega,HG,HUn,HA,HR,Kz (by rw [HTk.out];exact HOl.out),HQ,HK⟩
     case measure=> simp [intOf];omega
    have hs0b: ((A s:Int) == 0)=true:=by simp [hs0]
    have HNw:=Kz (HIn.out.new HE.out hs0 hst)
    have hrm:Q.length < 60:=queue_room HIn.out.nd (fun q hq=> Nat.lt_of_lt_of_le (HQ.out q hq) hn) (by omega) (fun h=> HIn.out.q s h hs0)
    have HUp:=Kz (unseen_put (v:=A p+1) (show s < 60 by omega) hs0 (by omega))
    have hap:A p<=60:=by have:=HUn.out p;omega
    have fs:=HA.out.frozen s
    have HA7:=Kz (AwayM.put HA.out s (A p+1))
    have hw1: ((A p:Int)+1)= ((A p+1:Nat):Int):=by omega
    have HK7:Hid (K_ W2 (wr.setCell ⟨ab,s,none⟩ (.int .i64 ((A p+1:Nat):Int)))):= (But.set (S:=fun b=> b=ab) (But.of_kept (K_.refl wr)) (p:= ⟨ab,s,none⟩) rfl _).kept HK.out (fun b e=> by rw [e];exact HAb.out)
    have HR7:=Kz (HR.out.block (w':=wr.setCell ⟨ab,s,none⟩ (.int .i64 ((A p+1:Nat):Int))) (Below.heap_setCell _ _ _ _ (fun e=> hne (Eq.symm e))))
    have HSt:Hid (s≠t):=hst
    have HW1:=Kz hw1
    clear hst hs0 hw1
    go_upto_region 15 with fail
    rw [HW1.out]
    generalize hW7:wr.setCell ⟨ab,s,none⟩ (.int .i64 ((A p+1:Nat):Int))=w7 at HA7 HK7 HR7⊢
    clear hW7 fs cp cs
    go_wp2_with fail
    refine (put_any w7 rb Q s HR7.out hrm).mono ?_
    rintro e w8 ⟨rfl,hR8,hB8⟩
    have HR8:=Kz hR8
    have HA8:Hid (AwayM w8 ab (fun r=> if r=s then A p+1 else A r)):=rowIs_block HA7.out (hB8.block _ (rowIs_lt HA7.out) (fun e=> hne e))
    have HK8:Hid (K_ W2 w8):=hB8.kept HK7.out (fun b e=> by rw [e];exact HRb.out)
    have HG8:Hid (2 * unseen (fun r=> if r=s then A p+1 else A r)+ (Q++ [s]).length < gk):=by
     have h1:=HUp.out
     have h2:=HG.out
     rw [List.length_append]
     simp only [List.length_cons,List.length_nil]
     show _ < _
     omega
    have HU8:Hid (∀r,(fun r=> if r=s then A p+1 else A r) r+unseen (fun r=> if r=s then A p+1 else A r)<=60):=fun r=> by
     have h1:=HUp.out
     have h2:=HUn.out r
     have h3:=HUn.out p
     by_cases e:r=s
     ·simp only [e,if_true];omega
     ·simp only [if_neg e];omega
    have HQ8:Hid (∀q∈Q++ [s],q < nm.length):=fun q hq=> by
     rcases List.mem_append.1 hq with h | h
     ·exact HQ.out q h
     ·rw [List.mem_singleton] at h;rw [h];exact hsm
    clear hR8 hB8 HA7 HK7 HR7
    go_wp2_with fail
    go_roundw
    case rel=> exact ⟨i+1,_,_,rfl,by go_num,by omega,HG8,HU8,HA8,HR8,Kz (by rw [HTk.out];exact HNw.out),HQ8,HK8⟩
    case measure=> simp [intOf];omega
