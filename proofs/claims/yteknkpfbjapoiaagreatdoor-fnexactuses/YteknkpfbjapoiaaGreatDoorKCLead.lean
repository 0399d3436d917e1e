import Derived.Test.YteknkpfbjapoiaaGreatDoorKXValid0
import Derived.Test.YteknkpfbjapoiaaGreatDoorKWCheck5
import Derived.StringKeys
import Derived.Test.YteknkpfbjapoiaaGreatDoorKVUses
import Derived.WalkMore
import Derived.Test.YteknkpfbjapoiaaGreatDoorKVLead
namespace Go.Proofs.YteknkpfbjapoiaaGreatDoor
open Go.RowKit
def PackedN (w:World) (xs:List Value) (l:List NodeD):Prop:=
 xs.length=l.length∧∀i,i < l.length→∃tb cur fr,xs[i]? =some (.pointer (some ⟨tb,0,none⟩))∧w.heap[tb]? =some (Obj.cells cur 137 fr)∧w.cell? ⟨tb,0,none⟩=some (.string (l.getD i NodeD.zero).name)
theorem PackedN.kept {w w':World} {xs:List Value} {l:List NodeD} (h:PackedN w xs l) (k:Kept w w'):PackedN w' xs l:=
 ⟨h.1,fun i hi=> by
  obtain ⟨tb,cur,fr,h1,h2,h3⟩:=h.2 i hi
  exact ⟨tb,cur,fr,h1,by rw [k.block tb (heap_lt h2)];exact h2,(k.cell (heap_lt h2)).trans h3⟩⟩
def CellsB (w:World) (a:Option Addr) (xs:List Value):Prop:= ∀i,i < xs.length→∃b o,a=some ⟨b,o,none⟩∧b < w.heap.size∧∀j u,xs[j]? =some u→w.cell? ⟨b,o+j,none⟩=some u
theorem CellsB.kept {w w':World} {a:Option Addr} {xs:List Value} (h:CellsB w a xs) (k:Kept w w'):CellsB w' a xs:=by
 intro i hi
 obtain ⟨b,o,e,hb,hc⟩:=h i hi
 exact ⟨b,o,e,Nat.lt_of_lt_of_le hb k.size,fun j u hu=> (k.cell hb).trans (hc j u hu)⟩
theorem cellsB_of_owned {w:World} {base n:Nat} {t:TypeId} {a:Option Addr} {cap:Nat} {xs:List Value} (h:w.ownsRow base t 1 (.slice a n cap) n xs):CellsB w a xs:=by
 have hl:xs.length=n:=by have:=h.1;omega
 rcases h.2 with ⟨e,h0⟩ | ⟨g,cap',cur,e,hb,hg,hnc,_,_,_⟩
 ·exact fun i hi=> by omega
 ·simp only [Value.slice.injEq] at e
  obtain ⟨rfl,_,rfl⟩:=e
  refine fun i hi=> ⟨g,0,rfl,heap_lt hg,fun j u hu=> ?_⟩
  have:=h.cells (g:=g) rfl _ _ hu
  rw [Addr.add_mid] at this
  exact this
theorem taskName_b (w:World) (tb:Nat) (n:ByteArray) (hn:w.cell? ⟨tb,0,none⟩=some (.string n)):
  Calls Tryz.prog 121 #[.pointer (some ⟨tb,0,none⟩)] w fun e w'=> e= .returned (.string n)∧w'=w:=by
 go_enter Tryz.func121,Tryz.ntmps121
 go_wp2
 go_ret
 exact ⟨rfl,rfl⟩
theorem findLitB_any (w:World) (g:Nat) (n:ByteArray) (tb:Nat) (key:ByteArray) (hg:g < w.heap.size) (ht:tb < w.heap.size) (hn:w.cell? ⟨tb,0,none⟩=some (.string n)) (hc:w.cell? ⟨g,1,none⟩=some (.func (.func 121) #[] #[])):
  Calls Tryz.prog 193 #[.pointer (some ⟨tb,0,none⟩),.string key,.pointer (some ⟨g,0,none⟩)] w fun e w'=> e= .returned (.int .i64 (cmpD n.toList key.toList))∧Kept w w':=by
 go_enter Tryz.func193,Tryz.ntmps193
 go_wp2_with fail
 refine (taskName_b _ tb n hn).mono ?_
 rintro e w1 ⟨rfl,rfl⟩
 go_wp2_with fail
 refine (compare_any _ n key).mono ?_
 rintro e w2 ⟨rfl,rfl⟩
 go_wp2
 go_ret
 exact ⟨rfl,Kept.refl _⟩
set_option maxRecDepth 100000 in
set_option maxHeartbeats 1600000 in
theorem searchB_any (w:World) (g:Nat) (a:Option Addr) (cap:Nat) (l:List NodeD) (key:ByteArray) (hl:l.length≤1048576) (hr:Rises l) (hg:g < w.heap.size) (hc:w.cell? ⟨g,1,none⟩=some (.func (.func 121) #[] #[])) (xs:List Value) (hP:PackedN w xs l) (hS:CellsB w a xs):
  Calls Tryz.prog 192 #[.slice a l.length cap,.string key,.func (.func 193) #[] #[.pointer (some ⟨g,0,none⟩)]] w
   fun e w'=> Found l key.toList e∧Kept w w':=by
 have HRi:=hide hr
 clear hr
 go_enter Tryz.func192,Tryz.ntmps192
 go_wp2
 go_loopw [9,10] (fun x y wr=> ∃i j:Nat,x= .int .i64 i∧y= .int .i64 j∧i≤j∧j≤l.length∧(∀t,t < i→Op.bytesLess (nameAt l t) key.toList=true)∧(∀t,j≤t→t < l.length→Op.bytesLess (nameAt l t) key.toList=false)∧Kept w wr) (fun x y _=> (intOf y).toNat - (intOf x).toNat)
 case atStart=> exact ⟨0,l.length,rfl,rfl,Nat.zero_le _,Nat.le_refl _,fun t ht=> absurd ht (Nat.not_lt_zero _),fun t h1 h2=> by omega,Kept.refl _⟩
 case round=>
  obtain ⟨i,j,rfl,rfl,hij,hjn,hbe,hbh,hw⟩:=hrel
  have HB:=hide (And.intro hbe hbh)
  clear hbe hbh
  by_cases hlt: (i:Int) < j
  ·obtain ⟨h,hh⟩: ∃h:Nat,h= (i+j) / 2:= ⟨_,rfl⟩
   have hhlt:h < l.length:=by omega
   have hhi:i≤h:=by omega
   have hhj:h < j:=by omega
   obtain ⟨b,o,rfl,hb,hcs⟩:=hS.kept hw h (by rw [hP.1];exact hhlt)
   obtain ⟨tb,cur,fr,hx,htb,hrg⟩:= (hP.kept hw).2 h hhlt
   obtain ⟨d,hd⟩: ∃d,d=l.getD h NodeD.zero:= ⟨_,rfl⟩
   rw [←hd] at hrg
   have HD:=hide hd
   have c0:=hcs _ _ hx
   have c1:wr.cell? ⟨tb,0,none⟩=some (.string d.name):=hrg
   have htl:=heap_lt htb
   clear hd hcs hrg hx htb
   have hmid: ((i:Int)+ (j:Int)) / 2= (h:Int):=by omega
   have HH:=hide hh
   clear hh
   have hg':g < wr.heap.size:=Nat.lt_of_lt_of_le hg hw.size
   have hc':wr.cell? ⟨g,1,none⟩=some (.func (.func 121) #[] #[]):=by rw [hw.cell hg];exact hc
   go_wp2_with fail
   refine (findLitB_any _ g d.name tb key hg' htl c1 hc').mono ?_
   rintro e w1 ⟨rfl,k1⟩
   have hnm:nameAt l h=d.name.toList:=by unfold nameAt;rw [←HD.out]
   have HC:Hid (cmpD d.name.toList key.toList < 0↔Op.bytesLess (nameAt l h) key.toList=true):=by rw [hnm];exact cmpD_neg
   clear c0 c1 hnm
   generalize cmpD d.name.toList key.toList=r at *
   have hw1:=hw.trans k1
   clear hw k1
   by_cases hneg:r < 0
   ·go_wp2
    go_roundw
    case rel=>
     obtain ⟨hbe,hbh⟩:=HB.out
     refine ⟨h+1,j,by go_num,rfl,by omega,hjn,fun t ht=> ?_,hbh,hw1⟩
     have hle:=HC.out.1 hneg
     by_cases e:t=h
     ·subst e;exact hle
     ·exact less_trans _ _ _ (HRi.out t h (by omega) hhlt) hle
    case measure=> simp [intOf];omega
   ·go_wp2
    go_roundw
    case rel=>
     obtain ⟨hbe,hbh⟩:=HB.out
     refine ⟨i,h,rfl,by go_num,hhi,by omega,hbe,fun t h1 h2=> ?_,hw1⟩
     have hle:Op.bytesLess (nameAt l h) key.toList=false:=by
      cases hq:Op.bytesLess (nameAt l h) key.toList
      ·rfl
      ·have:=HC.out.2 hq
       omega
     by_cases e:t=h
     ·subst e;exact hle
     ·cases hq:Op.bytesLess (nameAt l t) key.toList
      ·rfl
      ·rw [less_trans _ _ _ (HRi.out h t (by omega) h2) hq] at hle
       cases hle
    case measure=> simp [intOf];omega
  ·have hij':i=j:=by omega
   subst hij'
   have HPl:Hid (Place l key.toList i):= ⟨hjn,HB.out.1,HB.out.2⟩
   clear HB
   by_cases hin:i < l.length
   ·obtain ⟨b,o,rfl,hb,hcs⟩:=hS.kept hw i (by rw [hP.1];exact hin)
    obtain ⟨tb,cur,fr,hx,htb,hrg⟩:= (hP.kept hw).2 i hin
    obtain ⟨d,hd⟩: ∃d,d=l.getD i NodeD.zero:= ⟨_,rfl⟩
    rw [←hd] at hrg
    have HD:=hide hd
    have c0:=hcs _ _ hx
    have c1:wr.cell? ⟨tb,0,none⟩=some (.string d.name):=hrg
    have htl:=heap_lt htb
    clear hd hcs hrg hx htb
    have hg':g < wr.heap.size:=Nat.lt_of_lt_of_le hg hw.size
    have hc':wr.cell? ⟨g,1,none⟩=some (.func (.func 121) #[] #[]):=by rw [hw.cell hg];exact hc
    have hin': (i:Int) < l.length:=by omega
    go_wp2_with fail
    refine (findLitB_any _ g d.name tb key hg' htl c1 hc').mono ?_
    rintro e w1 ⟨rfl,k1⟩
    have hnm:nameAt l i=d.name.toList:=by unfold nameAt;rw [←HD.out]
    have HC:Hid (cmpD d.name.toList key.toList=0↔nameAt l i=key.toList):=by rw [hnm];exact cmpD_zero
    clear c0 c1 hnm
    generalize cmpD d.name.toList key.toList=r at *
    have hw1:=hw.trans k1
    clear hw k1
    go_wp2
    go_ret2
    refine ⟨Found.mk i _ rfl HPl.out ?_,hw1⟩
    rw [←HC.out]
    simp [hin]
   ·have hin': ¬(i:Int) < l.length:=by omega
    go_wp2
    go_ret2
    exact ⟨Found.mk i false rfl HPl.out (by simp;intro h;exact absurd h hin),hw⟩
set_option maxRecDepth 100000 in
set_option maxHeartbeats 800000 in
theorem findB_any (w:World) (a:Option Addr) (cap:Nat) (l:List NodeD) (key:ByteArray) (hl:l.length≤1048576) (hr:Rises l) (xs:List Value) (hP:PackedN w xs l) (hS:CellsB w a xs):
  Calls Tryz.prog 167 #[.agg #[.slice a l.length cap,.func (.func 121) #[] #[]],.string key] w
   fun e w'=> Found l key.toList e∧Kept w w':=by
 have k0:Kept w (w.alloc (.cells #[.slice a l.length cap,.func (.func 121) #[] #[]] 127)):= (Kept.refl _).alloc _
 go_enter Tryz.func167,Tryz.ntmps167
 go_wp2_with fail
 refine (searchB_any _ w.heap.size a cap l key hl hr (by simp) (by simp) xs (hP.kept k0) (hS.kept k0)).mono ?_
 rintro e w1 ⟨hfo,k1⟩
 obtain ⟨p,f,rfl,hp,hf⟩:=hfo
 have HP:=hide hp
 have HF:=hide hf
 clear hp hf
 go_wp2
 go_ret2
 exact ⟨Found.mk p f rfl HP.out HF.out,k0.trans k1⟩
def namesN (ts:List TaskM):List NodeD:=ts.map fun t=> ⟨t.r.name,0,[]⟩
theorem namesN_len (ts:List TaskM): (namesN ts).length=ts.length:=by simp [namesN]
theorem namesN_at {ts:List TaskM} {i:Nat} (h:i < ts.length): ((namesN ts).getD i NodeD.zero).name=ts[i].r.name:=by simp [namesN,List.getD,h]
theorem rises_asc {ts:List TaskM} (h:AscX (runsOf ts)):Rises (namesN ts):=fun i j hij hj=> by
 rw [namesN_len] at hj
 unfold nameAt
 rw [namesN_at (by omega),namesN_at hj]
 have:=List.pairwise_iff_getElem.1 h i j (by simp [runsOf];omega) (by simpa [runsOf] using hj) hij
 unfold lessX at this
 simpa [runsOf] using this
section
variable {G : Ghost} {webl : List NodeD} {wz w w' : World} {bb : Nat} {a : Option Addr} {cap : Nat} {rd : Option Addr} {rn rc : Nat} {mb mx : Nat} {ts : List TaskM} {d : Option Addr} {dc : Nat} {f : ByteArray → Value} {ws : ByteArray → List Nat}
theorem BM.packed (h:BM G webl wz w bb a cap rd rn rc mb mx ts d dc f ws):PackedN w (ts.map TaskM.ptr) (namesN ts):=
 ⟨by simp [namesN],fun i hi=> by
  rw [namesN_len] at hi
  have ht:=h.task ts[i] (List.getElem_mem hi)
  obtain ⟨cur,hb,_⟩:=ht.row
  exact ⟨ts[i].tb,cur,_,by simp [hi,TaskM.ptr],hb,by rw [namesN_at hi];exact ht.rng 0 _ rfl⟩⟩
def TaskSaid (ts:List TaskM) (n:ByteArray) (e:Ending):Prop:= (∃(i:Nat) (hi:i < ts.length),ts[i].r.name=n∧e= .returned ts[i].ptr)∨((∀t∈ts,t.r.name≠n)∧e= .returned (.pointer none))
set_option maxRecDepth 100000 in
set_option maxHeartbeats 1600000 in
theorem benchTask_any (hB:BM G webl wz w bb a cap rd rn rc mb mx ts d dc f ws) (n:ByteArray) (hl:ts.length≤1048576):
  Calls Tryz.prog 130 #[.pointer (some ⟨bb,0,none⟩),.string n] w fun e w'=> TaskSaid ts n e∧Kept w w':=by
 have c3:=hB.c3
 have c4:=hB.c4
 have bz:=hB.row.lt
 have hlen:=namesN_len ts
 have HB:=hide hB
 clear hB
 go_enter Tryz.func130,Tryz.ntmps130
 go_wp2_with fail
 have hf:=findB_any w d dc (namesN ts) n (by omega) (rises_asc HB.out.asc) (ts.map TaskM.ptr) HB.out.packed (cellsB_of_owned HB.out.items)
 rw [hlen] at hf
 refine hf.mono ?_
 rintro e w1 ⟨⟨p,fd,rfl,hp,hfd⟩,k1⟩
 have HP:=hide hp
 have HF:=hide hfd
 have HL:=hide hlen
 clear hp hfd hf hlen c3 c4
 have hB1:=HB.out.kept k1
 have c3:=hB1.c3
 have bz1:=hB1.row.lt
 cases fd
 ·go_wp2_with fail
  go_ret
  refine ⟨.inr ⟨fun t ht e=> ?_,rfl⟩,k1⟩
  obtain ⟨i,hi,rfl⟩:=List.getElem_of_mem ht
  have hpl:=HP.out
  have hno: ¬(p < (namesN ts).length∧nameAt (namesN ts) p=n.toList):=fun h=> by have:=HF.out.2 h;cases this
  have hna:nameAt (namesN ts) i=n.toList:=by unfold nameAt;rw [namesN_at hi,e]
  have hip:i < (namesN ts).length:=by rw [namesN_len];exact hi
  have e2:=Place.only (rises_asc HB.out.asc) hpl hip hna
  rw [e2] at hip hna
  exact hno ⟨hip,hna⟩
 ·obtain ⟨hp1,hp2⟩:=HF.out.1 rfl
  rw [namesN_len] at hp1
  have hnm:ts[p].r.name=n:=by unfold nameAt at hp2;rw [namesN_at hp1] at hp2;exact toList_inj.1 hp2
  obtain ⟨b,o,rfl,hb,hcs⟩:=cellsB_of_owned hB1.items p (by simpa using hp1)
  have c0:w1.cell? ⟨b,o+p,none⟩=some ts[p].ptr:=hcs p _ (by simp [hp1])
  have hpi: (p:Int) < (ts.length:Int):=by omega
  have HNm:=hide hnm
  clear hnm hcs hp2 hB1
  go_wp2_with fail
  go_ret
  exact ⟨.inl ⟨p,hp1,HNm.out,rfl⟩,k1⟩
theorem absent_any (w:World) (n:ByteArray) (hn:n.size≤1000):
  Calls Tryz.prog 131 #[.string n] w fun e w'=> e= .returned (.agg #[.bool true,.string (noOf n)])∧Kept w w':=by
 go_enter Tryz.func131,Tryz.ntmps131
 have hs: ¬9223372036854775807 < 3+n.size:=by omega
 go_wp2
 exact bodyPost_ret_cell [.bool true,.string (noOf n)] _ Tryz.results131 rfl (range_new w #[.bool true,.string (noOf n)] 103) Tryz.underlying103 rfl Tryz.xSizeAns rfl ⟨rfl,(Kept.refl _).alloc _⟩
set_option maxRecDepth 100000 in
set_option maxHeartbeats 3200000 in
theorem benchAnswer_any (hB:BM G webl wz w bb a cap rd rn rc mb mx ts d dc f ws) (n:ByteArray) (hl:ts.length≤1048576) (hsz:n.size≤1000) (hn: (∃t∈ts,t.r.name=n)∨actsOf webl n=none):
  Calls Tryz.prog 79 #[.pointer (some ⟨bb,0,none⟩),.string n] w fun e w'=> AnsSaid webl (runsOf ts) n e∧Kept w w':=by
 have k0:Kept w (w.alloc (.cells #[.bool false,.string ⟨#[]⟩] 103)):= (Kept.refl _).alloc _
 go_enter Tryz.func79,Tryz.ntmps79
 go_wp2_with fail
 refine (benchTask_any (hB.kept k0) n hl).mono ?_
 rintro e w1 ⟨⟨i,hi,hin,rfl⟩ | ⟨hno,rfl⟩,k1⟩
 ·obtain ⟨t,ht⟩: ∃t,t=ts[i]:= ⟨_,rfl⟩
  have hT:=hB.task ts[i] (List.getElem_mem hi)
  rw [←ht] at hT hin
  have hcs:=hT.rng
  have q1:w.cell? ⟨t.tb,1,none⟩=some (.bool t.r.over):=hcs 1 _ rfl
  have q2:w.cell? ⟨t.tb,2,none⟩=some (.bool t.r.fail):=hcs 2 _ rfl
  have q3:w.cell? ⟨t.tb,3,none⟩=some (.string t.r.text):=hcs 3 _ rfl
  have tz:=hT.row.lt
  have HSO:Hid (∀w',Kept w w'→w'.cell? ⟨t.tb,1,none⟩=some (.bool t.r.over)∧w'.cell? ⟨t.tb,2,none⟩=some (.bool t.r.fail)∧w'.cell? ⟨t.tb,3,none⟩=some (.string t.r.text)):=fun w' K=> ⟨(K.cell tz).trans q1,(K.cell tz).trans q2,(K.cell tz).trans q3⟩
  have HRw1:=hide ((RowT.made w #[.bool false,.string ⟨#[]⟩] 103).kept k1)
  have KW:= (k0.trans k1)
  obtain ⟨hBp1,hBp2,hBp3⟩:=HSO.out _ KW
  have HIn:=hide hin
  have HT:=hide ht
  have he2:ts[i].ptr= .pointer (some ⟨t.tb,0,none⟩):=by rw [←ht];rfl
  rw [he2]
  clear ht hin q1 q2 q3 hcs he2
  go_upto_region 4 with fail
  refine UpTo.region (by kernel_rfl) (fun w'=> w'.cell? ⟨t.tb,1,none⟩=some (.bool t.r.over)∧w'.cell? ⟨t.tb,2,none⟩=some (.bool t.r.fail)∧w'.cell? ⟨t.tb,3,none⟩=some (.string t.r.text)) 17 (HSO.out _ (KW.drew)) (fun hHeld=> ?_)
  have KD:Kept w w1.drew:=KW.drew
  have HRd:=hide (HRw1.out.kept ((Kept.refl w1).drew))
  generalize hwd:w1.drew=wd at hHeld KD HRd⊢
  clear hwd hBp1 hBp2 hBp3
  refine UpTo.tk 0 [1,2,3,4,10,16,17] hHeld ?_
  try simp only [Act.put,upA,upB,upC]
  refine UpTo.tk 1 [2,3,4,10,16,17] hHeld ?_
  try simp only [Act.put,upA,upB,upC]
  refine UpTo.tk 2 [3,4,10,16,17] hHeld ?_
  try simp only [Act.put,upA,upB,upC]
  refine UpTo.tk 3 [4,10,16,17] hHeld ?_
  try simp only [Act.put,upA,upB,upC]
  refine UpTo.tk 4 [10,16,17] hHeld ?_
  try simp only [Act.put,upA,upB,upC]
  refine UpTo.tk 5 [6,7,8,9,10,16,17] hHeld ?_
  try simp only [Act.put,upA,upB,upC]
  refine UpTo.tk 6 [7,8,9,10,16,17] hHeld ?_
  try simp only [Act.put,upA,upB,upC]
  refine UpTo.tk 7 [8,9,10,16,17] hHeld ?_
  try simp only [Act.put,upA,upB,upC]
  refine UpTo.tk 8 [9,10,16,17] hHeld ?_
  try simp only [Act.put,upA,upB,upC]
  refine UpTo.tk 9 [10,16,17] hHeld ?_
  try simp only [Act.put,upA,upB,upC]
  refine UpTo.tk 10 [16,17] hHeld ?_
  try simp only [Act.put,upA,upB,upC]
  refine UpTo.tk 11 [12,13,14,15,17] hHeld ?_
  try simp only [Act.put,upA,upB,upC]
  refine UpTo.tk 12 [13,14,15,17] hHeld ?_
  try simp only [Act.put,upA,upB,upC]
  refine UpTo.tk 13 [14,15,17] hHeld ?_
  try simp only [Act.put,upA,upB,upC]
  refine UpTo.tk 14 [15,17] hHeld ?_
  try simp only [Act.put,upA,upB,upC]
  refine UpTo.tk 15 [17] hHeld ?_
  try simp only [Act.put,upA,upB,upC]
  obtain ⟨⟨_,x0⟩,f0⟩:=HRd.out.row.at (i:=0) (by decide)
  obtain ⟨⟨_,x1⟩,f1⟩:=HRd.out.row.at (i:=1) (by decide)
  have xz:=HRd.out.lt
  refine UpTo.nx 16 (fun K hK=> ?_)
  go_simp
  refine hK.out _ _ ?_ ?_
  ·exact fun _=> HSO.out _ (kept_sets (g:=w.heap.size) (Nat.le_refl _) [.bool t.r.fail,.string t.r.text] 0 KD)
  clear hK K
  try simp only [Act.put,upA,upB,upC]
  refine UpTo.nx 17 (fun K hK=> ?_)
  go_simp
  refine hK.out _ _ (fun h=> absurd rfl h) ?_
  clear hK K
  try simp only [Act.put,upA,upB,upC]
  refine UpTo.done (by kernel_rfl) ?_
  go_wp2_with fail
  have hR:=World.rangeAt_setCells_same wd w.heap.size 0 [.bool t.r.fail,.string t.r.text] (HRd.out.row.there (o:=0) (m:=2) (Nat.le_refl _))
  refine bodyPost_ret_c2 [.bool t.r.fail,.string t.r.text] _ (.bool t.r.over) Tryz.results79 rfl hR Tryz.underlying103 rfl Tryz.xSizeAns rfl rfl ?_
  refine ⟨⟨t.r.fail,t.r.text,t.r.over,rfl, ?_⟩,kept_sets (g:=w.heap.size) (Nat.le_refl _) [.bool t.r.fail,.string t.r.text] 0 KD⟩
  have hA:= (hB.act ts[i] (List.getElem_mem hi)).1
  have hE:=asc_env hB.asc (List.mem_map_of_mem (List.getElem_mem hi):ts[i].r∈runsOf ts)
  rw [←HT.out,HIn.out] at hA hE
  unfold ansOf
  rw [hA,hE]
 ·have HRw1:=hide ((RowT.made w #[.bool false,.string ⟨#[]⟩] 103).kept k1)
  have KW:= (k0.trans k1)
  have HNo:=hide hno
  clear hno
  go_wp2_with fail
  refine (absent_any w1 n hsz).mono ?_
  rintro e w2 ⟨rfl,k2⟩
  have HR2:=hide (HRw1.out.kept k2)
  obtain ⟨⟨_,x0⟩,f0⟩:=HR2.out.row.at (i:=0) (by decide)
  obtain ⟨⟨_,x1⟩,f1⟩:=HR2.out.row.at (i:=1) (by decide)
  have xz:=HR2.out.lt
  go_wp2_with fail
  have hR:=World.rangeAt_setCells_same w2 w.heap.size 0 [.bool true,.string (noOf n)] (HR2.out.row.there (o:=0) (m:=2) (Nat.le_refl _))
  refine bodyPost_ret_c2 [.bool true,.string (noOf n)] _ (.bool true) Tryz.results79 rfl hR Tryz.underlying103 rfl Tryz.xSizeAns rfl rfl ?_
  refine ⟨⟨true,noOf n,true,rfl, ?_⟩,kept_sets (g:=w.heap.size) (Nat.le_refl _) [.bool true,.string (noOf n)] 0 (KW.trans k2)⟩
  rcases hn with ⟨t,ht,e⟩ | hn
  ·exact absurd e (HNo.out t ht)
  ·unfold ansOf
   rw [hn]
   rfl
end
section
variable {G : Ghost} {webl : List NodeD} {wz w w' : World} {bb : Nat} {a : Option Addr} {cap : Nat} {rd : Option Addr} {rn rc : Nat} {mb mx : Nat} {ts : List TaskM} {d : Option Addr} {dc : Nat} {f : ByteArray → Value} {ws : ByteArray → List Nat}
theorem BM.store (h:BM G webl wz w bb a cap rd rn rc mb mx ts d dc f ws) {i:Nat} {t t':TaskM} (hi:ts[i]? =some t) {o:Nat} {v:Value} (ho:o < 12) (e:t'.cells=t.cells.set o v) (e1:t'.tb=t.tb) (e2:t'.r.name=t.r.name) (e3:t'.cost=t.cost) (e4:t'.steps=t.steps) (e5:t'.sa=t.sa) (e6:t'.tv=t.tv) (e7:t'.qv=t.qv) (e8:t'.qs=t.qs) (e9:t'.r.texts=t.r.texts):
  BM G webl wz (w.setCell ⟨t.tb,o,none⟩ v) bb a cap rd rn rc mb mx (ts.set i t') d dc f ws:=by
 obtain ⟨hl,rfl⟩:=List.getElem?_eq_some_iff.1 hi
 have hT:=h.task _ (List.getElem_mem hl)
 have k:But (fun b=> b=ts[i].tb) w (w.setCell ⟨ts[i].tb,o,none⟩ v):=But.set (S:=fun b=> b=ts[i].tb) (But.of_kept (Kept.refl w)) (p:= ⟨ts[i].tb,o,none⟩) rfl v
 have ne: ∀x∈ts[i].own,x≠ts[i].tb:=fun x hx=> type_ne (hT.own_type hx).1 hT.row.type (by decide)
 have hown:t'.own=ts[i].own:=by unfold TaskM.own;rw [e6,e7]
 refine h.turn hl k (fun b hb=> .inl hb) ⟨by rw [e1];exact hT.row.set v,by rw [e1,e];exact range_set hT.rng hT.row.row ho v, ?_, ?_,by rw [e1];exact hT.low⟩ e1 e2 e3 e4 e5 (fun x hx=> .inl (by rw [←hown];exact hx)) (by rw [hown];exact h.sep2 _ (List.getElem_mem hl)) (by rw [e8];exact h.qb _ (List.getElem_mem hl))
 ·rw [e6,e9]
  exact k.owns hT.txt (fun b hb=> ne b (List.mem_append.2 (.inl (Option.mem_toList.2 hb))))
 ·rw [e7,e8]
  exact k.owns hT.ask (fun b hb=> ne b (List.mem_append.2 (.inr (Option.mem_toList.2 hb))))
theorem BM.at (h:BM G webl wz w bb a cap rd rn rc mb mx ts d dc f ws) {i:Nat} {t:TaskM} (hi:ts[i]? =some t):TaskAt wz.heap.size w t:=h.task t (List.mem_of_getElem? hi)
theorem Tryz.zeroW (w:World): (zeroValue 123).run Tryz.prog w= .ok (.slice none 0 0) w:=by kernel_rfl
theorem Tryz.keyed :Maps.Keyed Tryz.prog 9:=Maps.string_keyed Tryz.underlying9
theorem BM.look (h:BM G webl wz w bb a cap rd rn rc mb mx ts d dc f ws) {s:ByteArray} (hs:s.size≤maxLen): (Instr.lookup 131 (.map (some mb)) (.string s) false).run Tryz.prog w= .ok (f s) w:=by
 obtain ⟨N,D,_,hM,hf⟩:=h.map
 obtain ⟨v,ps,hrun,hv⟩:=hM.lookup Tryz.keyed Tryz.underlying131 (Tryz.zeroW w) (zd:= .held (.slice none 0 0)) (zp:=[]) rfl (WideMaps.keyOf_string_mk Tryz.underlying9 hs)
 have e:=hf s hs
 unfold asIs at hv
 simp only [Option.some.injEq,Prod.mk.injEq] at hv
 have e2: (DataW.held v:DataW Value)= .held (f s):=hv.1.trans e
 cases e2
 exact hrun
theorem keyLit_ne {s s':ByteArray} (h:s≠s'):keyLit s≠keyLit s':=fun e=> h (by
 unfold keyLit at e
 simp only [Lit.string.injEq] at e
 exact ba_ext e)
theorem BM.del (h:BM G webl wz w bb a cap rd rn rc mb mx ts d dc f ws) {s:ByteArray} (hs:s.size≤maxLen) (ty:TypeId): ∃w',(Builtin.delete_ #[131,9] ty #[.map (some mb),.string s]).run Tryz.prog w= .ok (.tuple #[]) w'∧But (fun b=> b=mb) w w'∧BM G webl wz w' bb a cap rd rn rc mb mx ts d dc (fun n=> if n=s then .slice none 0 0 else f n) (fun n=> if n=s then [] else ws n):=by
 obtain ⟨N,D,hN,hM,hf⟩:=h.map
 obtain ⟨w',hrun,hM',hg⟩:=hM.drop Tryz.keyed Tryz.underlying131 (WideMaps.keyOf_string_mk Tryz.underlying9 hs) ty
 have k:But (fun b=> b=mb) w w':=But.of_grown hg.grown (fun b e=> (Option.some.inj e).symm)
 refine ⟨w',hrun,k, ?_⟩
 have ne: ∀{b:Nat} {t:TypeId},TypeAt w b t→¬b=mb:=fun hu e=> map_ne hM hu e
 have hb:=h.row.lt
 have nb:=ne h.row.type
 have hfen:Fen G w' bb mb ts (fun n=> if n=s then .slice none 0 0 else f n):=by
  have h0:=h.oth.but k (fun b e=> by rw [e];exact h.oth.nm)
  refine ⟨h0.size,h0.lt,h0.same,h0.nb,h0.nm,h0.nt,fun n x hx=> ?_,h0.has⟩
  by_cases e:n=s
  ·simp only [if_pos e] at hx
   cases hx
  ·simp only [if_neg e] at hx
   exact h.oth.nf n x hx
 refine ⟨k.kept h.kw (fun b e=> by rw [e];exact h.mlow),k.row h.row nb,(k.cell hb nb).trans h.c0,(k.cell hb nb).trans h.c1,(k.cell hb nb).trans h.c2,(k.cell hb nb).trans h.c3,(k.cell hb nb).trans h.c4,(k.cell hb nb).trans h.c5,h.low,k.owns h.items (fun b e=> ne (owns_type h.items e)),fun t ht=> (h.task t ht).but k (ne (h.task t ht).row.type) (fun x hx=> ne ((h.task t ht).own_type hx).1),h.act,h.asc,h.tbs,h.sep,h.sep2,⟨N,_,hN,hM',fun n hn=> ?_⟩,h.mlow,fun n=> ?_,fun n n' hnn x hx=> ?_,fun n x hx=> ?_,h.qb,hfen⟩
 ·by_cases e:n=s
  ·rw [if_pos e,e]
   exact Maps.atKey_del_same _
  ·rw [if_neg e,←hf n hn]
   exact Maps.atKey_del_other (keyLit_ne e) _
 ·by_cases e:n=s
  ·simp only [if_pos e]
   exact World.ownsRow_nil _ _ _ _
  ·simp only [if_neg e]
   exact k.owns (h.wrow n) (fun b e=> ne (owns_type (h.wrow n) e))
 ·by_cases e:n=s
  ·rw [if_pos e] at hx;cases hx
  ·rw [if_neg e] at hx
   by_cases e':n'=s
   ·rw [if_pos e'];intro h;cases h
   ·rw [if_neg e'];exact h.wsep n n' hnn x hx
 ·by_cases e:n=s
  ·rw [if_pos e] at hx;cases hx
  ·rw [if_neg e] at hx;exact h.isep n x hx
end
def decT (ts:List TaskM) (l:List Nat):List TaskM:=ts.map fun t=> if t.tb∈l then { t with op:=t.op - 1 } else t
theorem decT_get {ts:List TaskM} {l:List Nat} {i:Nat} (h:i < (decT ts l).length) (hi:i < ts.length): (decT ts l)[i]=if ts[i].tb∈l then { ts[i] with op:=ts[i].op - 1 } else ts[i]:=by simp [decT]
theorem decT_nil (ts:List TaskM):decT ts []=ts:=by simp [decT]
theorem decT_snoc {ts:List TaskM} {l:List Nat} {b j:Nat} {t:TaskM} (hn: (ts.map (·.tb)).Nodup) (hb:b∉l) (hj:ts[j]? =some t) (ht:t.tb=b):decT ts (l++ [b])= (decT ts l).set j { t with op:=t.op - 1 }∧(decT ts l)[j]? =some t:=by
 obtain ⟨hl,rfl⟩:=List.getElem?_eq_some_iff.1 hj
 have hg: (decT ts l)[j]? =some ts[j]:=by
  unfold decT
  rw [List.getElem?_map,List.getElem?_eq_getElem hl]
  simp only [Option.map_some,Option.some.injEq]
  rw [if_neg (by rw [ht];exact hb)]
 refine ⟨?_,hg⟩
 apply List.ext_getElem
 ·simp [decT]
 ·intro i h1 h2
  have hi:i < ts.length:=by simpa [decT] using h1
  rw [List.getElem_set,decT_get h1 hi]
  by_cases e:j=i
  ·subst e
   rw [if_pos rfl,if_pos (by rw [ht];simp)]
  ·rw [if_neg e,decT_get (by simpa [decT] using hi) hi]
   have hne:ts[i].tb≠b:=by
    rw [←ht]
    have hnd:=List.pairwise_iff_getElem.1 hn
    rcases Nat.lt_or_gt_of_ne e with h | h
    ·have:=hnd j i (by simpa using hl) (by simpa using hi) h
     simp at this
     exact fun e=> this e.symm
    ·have:=hnd i j (by simpa using hi) (by simpa using hl) h
     simpa using this
   by_cases h3:ts[i].tb∈l
   ·rw [if_pos h3,if_pos (List.mem_append.2 (.inl h3))]
   ·rw [if_neg h3,if_neg (by rw [List.mem_append,List.mem_singleton];rintro (h | h);exact h3 h;exact hne h)]
theorem decT_at {ts:List TaskM} {l:List Nat} {i:Nat} {t:TaskM} (h:ts[i]? =some t): ∃u,(decT ts l)[i]? =some u∧u.tb=t.tb∧u.r=t.r:=by
 refine ⟨if t.tb∈l then { t with op:=t.op - 1 } else t,by unfold decT;rw [List.getElem?_map,h];rfl, ?_, ?_⟩
 ·by_cases h:t.tb∈l
  ·rw [if_pos h]
  ·rw [if_neg h]
 ·by_cases h:t.tb∈l
  ·rw [if_pos h]
  ·rw [if_neg h]
def TaskM.ended (t:TaskM) (fl:Bool) (tx:ByteArray):TaskM:= { t with r:= { t.r with over:=true,fail:=fl,text:=tx } }
section
variable {G : Ghost} {webl : List NodeD} {wz w w' : World} {bb : Nat} {a : Option Addr} {cap : Nat} {rd : Option Addr} {rn rc : Nat} {mb mx : Nat} {ts : List TaskM} {d : Option Addr} {dc : Nat} {f : ByteArray → Value} {ws : ByteArray → List Nat}
theorem BM.ended (h:BM G webl wz w bb a cap rd rn rc mb mx ts d dc f ws) {i:Nat} {t:TaskM} (hi:ts[i]? =some t) (fl:Bool) (tx:ByteArray):BM G webl wz (((w.setCell ⟨t.tb,1,none⟩ (.bool true)).setCell ⟨t.tb,2,none⟩ (.bool fl)).setCell ⟨t.tb,3,none⟩ (.string tx)) bb a cap rd rn rc mb mx (ts.set i (t.ended fl tx)) d dc f ws:=by
 have hl:i < ts.length:= (List.getElem?_eq_some_iff.1 hi).1
 have h1:=h.store (t':= { t with r:= { t.r with over:=true } }) hi (o:=1) (v:= .bool true) (by omega) rfl rfl rfl rfl rfl rfl rfl rfl rfl rfl
 have h2:=h1.store (t':= { t with r:= { t.r with over:=true,fail:=fl } }) (List.getElem?_set_self hl) (o:=2) (v:= .bool fl) (by omega) rfl rfl rfl rfl rfl rfl rfl rfl rfl rfl
 rw [List.set_set] at h2
 have h3:=h2.store (t':=t.ended fl tx) (List.getElem?_set_self hl) (o:=3) (v:= .string tx) (by omega) rfl rfl rfl rfl rfl rfl rfl rfl rfl rfl
 rw [List.set_set] at h3
 exact h3
set_option maxRecDepth 100000 in
set_option maxHeartbeats 3200000 in
theorem benchEnd_any (hB:BM G webl wz w bb a cap rd rn rc mb mx ts d dc f ws) {i:Nat} {t:TaskM} (hi:ts[i]? =some t) (fl:Bool) (tx:ByteArray) (hsz:t.r.name.size≤1000) (hwl: (ws t.r.name).length≤1000) (hw: ∀b∈ws t.r.name,∃(j:Nat) (u:TaskM),(ts.set i (t.ended fl tx))[j]? =some u∧u.tb=b∧1≤u.op∧u.op≤1000) (hwn: (ws t.r.name).Nodup):
  Calls Tryz.prog 163 #[.pointer (some ⟨bb,0,none⟩),.pointer (some ⟨t.tb,0,none⟩),.bool fl,.string tx] w fun e w'=> e= .returned (.tuple #[])∧BM G webl wz w' bb a cap rd rn rc mb mx (decT (ts.set i (t.ended fl tx)) (ws t.r.name)) d dc (fun n=> if n=t.r.name then .slice none 0 0 else f n) (fun n=> if n=t.r.name then [] else ws n):=by
 obtain ⟨m,hm⟩: ∃m,m= (ws t.r.name).length:= ⟨_,rfl⟩
 have hT:=hB.at hi
 obtain ⟨⟨_,x1⟩,f1⟩:=hT.row.row.at (i:=1) (by omega)
 obtain ⟨⟨_,x2⟩,f2⟩:=hT.row.row.at (i:=2) (by omega)
 obtain ⟨⟨_,x3⟩,f3⟩:=hT.row.row.at (i:=3) (by omega)
 have tz:=hT.row.lt
 obtain ⟨W1,hW1⟩: ∃W1,W1= ((w.setCell ⟨t.tb,1,none⟩ (.bool true)).setCell ⟨t.tb,2,none⟩ (.bool fl)).setCell ⟨t.tb,3,none⟩ (.string tx):= ⟨_,rfl⟩
 have hB1:BM G webl wz W1 bb a cap rd rn rc mb mx (ts.set i (t.ended fl tx)) d dc f ws:=by
  rw [hW1]
  exact hB.ended hi fl tx
 obtain ⟨va,vc,hf⟩:=own_slice (hB1.wrow t.r.name)
 rw [←hm] at hf
 have hil:i < ts.length:= (List.getElem?_eq_some_iff.1 hi).1
 have hi1: (ts.set i (t.ended fl tx))[i]? =some (t.ended fl tx):=by rw [List.getElem?_set_self hil]
 obtain ⟨T1,hT1⟩: ∃T1,T1=ts.set i (t.ended fl tx):= ⟨_,rfl⟩
 rw [←hT1] at hB1 hi1 hw⊢
 have HT1:=hide hT1
 have HB1:=hide hB1
 have HI1:=hide hi1
 have Hf:=hide hf
 have Hm:=hide hm
 have HW:=hide hw
 have HN:=hide hwn
 have hml:m≤1000:=by omega
 have HSO:Hid (∀w',Kept W1 w'→w'.cell? ⟨bb,5,none⟩=some (.map (some mb))∧w'.cell? ⟨t.tb,0,none⟩=some (.string t.r.name)∧(Instr.lookup 131 (.map (some mb)) (.string t.r.name) false).run Tryz.prog w'= .ok (.slice va m vc) w'):=fun w' K=> ⟨(HB1.out.kept K).c5,((HB1.out.kept K).at HI1.out).rng 0 _ rfl,by rw [←Hf.out];exact (HB1.out.kept K).look (by unfold maxLen;omega)⟩
 clear hB hB1 hT hi hi1 hT1 hf hm hw hwn hil
 go_enter Tryz.func163,Tryz.ntmps163
 go_upto_region 1 with fail
 rw [←hW1]
 clear hW1 x1 x2 x3 f1 f2 f3 tz
 refine UpTo.region (by kernel_rfl) (fun w'=> w'.cell? ⟨bb,5,none⟩=some (.map (some mb))∧w'.cell? ⟨t.tb,0,none⟩=some (.string t.r.name)∧(Instr.lookup 131 (.map (some mb)) (.string t.r.name) false).run Tryz.prog w'= .ok (.slice va m vc) w') 10 (HSO.out _ ((Kept.refl W1).drew)) (fun hHeld=> ?_)
 have KD:Kept W1 W1.drew:= (Kept.refl W1).drew
 generalize hwd:W1.drew=wd at hHeld KD⊢
 clear hwd
 refine UpTo.tk 0 [1,2,3,9,10] hHeld ?_
 try simp only [Act.put,upA,upB,upC]
 refine UpTo.tk 1 [2,3,9,10] hHeld ?_
 try simp only [Act.put,upA,upB,upC]
 refine UpTo.tk 2 [3,9,10] hHeld ?_
 try simp only [Act.put,upA,upB,upC]
 refine UpTo.tk 3 [9,10] hHeld ?_
 try simp only [Act.put,upA,upB,upC]
 refine UpTo.tk 4 [5,6,7,8,9,10] hHeld ?_
 try simp only [Act.put,upA,upB,upC]
 refine UpTo.tk 5 [6,7,8,9,10] hHeld ?_
 try simp only [Act.put,upA,upB,upC]
 refine UpTo.tk 6 [7,8,9,10] hHeld ?_
 try simp only [Act.put,upA,upB,upC]
 refine UpTo.tk 7 [8,9,10] hHeld ?_
 try simp only [Act.put,upA,upB,upC]
 refine UpTo.tk 8 [9,10] hHeld ?_
 try simp only [Act.put,upA,upB,upC]
 refine UpTo.tk 9 [10] hHeld ?_
 try simp only [Act.put,upA,upB,upC]
 refine UpTo.two 10 11 (by kernel_rfl) (by (simp only [List.getElem?_toArray,List.getElem?_cons_succ,List.getElem?_cons_zero];rfl)) (by (simp only [List.getElem?_toArray,List.getElem?_cons_succ,List.getElem?_cons_zero];rfl)) (fun K hK=> ?_) (fun K hK=> ?_)
 ·rw [if_pos (by rfl)]
  go_simp
  refine hK.out _ _ (fun _=> HSO.out _ KD) ?_
  clear hK K
  try simp only [Act.put,upA,upB,upC]
  refine UpTo.nx 11 (fun K hK=> ?_)
  go_simp
  refine hK.out _ _ (fun _=> HSO.out _ KD) ?_
  clear hK K
  try simp only [Act.put,upA,upB,upC]
  refine UpTo.done (by kernel_rfl) ?_
  have HBd:=hide (HB1.out.kept KD)
  clear hHeld
  go_wp2
  go_loopw [35] (fun x wr=> ∃k:Nat,k≤m∧x= .int .i64 k∧BM G webl wz wr bb a cap rd rn rc mb mx (decT T1 ((ws t.r.name).take k)) d dc f ws) (fun x _=> m - (intOf x).toNat)
  case atStart=> exact ⟨0,Nat.zero_le _,rfl,by rw [List.take_zero,decT_nil];exact HBd.out⟩
  case round=>
   clear HBd KD
   obtain ⟨k,hk,rfl,hBk⟩:=hrel
   by_cases hlt:k < m
   ·obtain ⟨bk,hbk⟩: ∃bk,(ws t.r.name)[k]? =some bk:= ⟨_,List.getElem?_eq_getElem (by have:=Hm.out;omega)⟩
    have hmem:bk∈ws t.r.name:=List.mem_of_getElem? hbk
    obtain ⟨j,u,hj,hu,ho1,ho2⟩:=HW.out bk hmem
    have htk: (ws t.r.name).take (k+1)= (ws t.r.name).take k++ [bk]:=by
     obtain ⟨h1,h2⟩:=List.getElem?_eq_some_iff.1 hbk
     rw [List.take_succ_eq_append_getElem h1,h2]
    have hnin:bk∉(ws t.r.name).take k:=fun h=> by
     have hn2:=HN.out
     obtain ⟨h1,h2⟩:=List.getElem?_eq_some_iff.1 hbk
     obtain ⟨q,hq,e⟩:=List.getElem_of_mem h
     rw [List.length_take] at hq
     rw [List.getElem_take] at e
     have:=List.pairwise_iff_getElem.1 hn2 q k (by omega) h1 (by omega)
     exact this (e.trans h2.symm)
    obtain ⟨hd1,hd2⟩:=decT_snoc HB1.out.tbs hnin hj hu
    rw [←htk] at hd1
    have hUk:=hBk.at hd2
    have o9:wr.cell? ⟨u.tb,9,none⟩=some (.int .i64 (u.op:Int)):=hUk.rng 9 _ rfl
    have uz:=hUk.row.lt
    obtain ⟨_,g9⟩:=hUk.row.row.at (i:=9) (by omega)
    have hrow:=hBk.wrow t.r.name
    rw [Hf.out] at hrow
    obtain ⟨b,o,rfl,hb,hcs⟩:=cellsB_of_owned (by have:=hrow;rw [←Hm.out] at this;exact this) k (by simp;have:=Hm.out;omega)
    have c0:wr.cell? ⟨b,o+k,none⟩=some (.pointer (some ⟨u.tb,0,none⟩)):=by rw [hcs k (ptrB bk) (by simp [hbk]),←hu];rfl
    have HSt:=hide (hBk.store (t':= { u with op:=u.op - 1 }) hd2 (o:=9) (v:= .int .i64 ((u.op - 1:Nat):Int)) (by omega) rfl rfl rfl rfl rfl rfl rfl rfl rfl rfl)
    rw [←hd1] at HSt
    have hnum: ((u.op - 1:Nat):Int)= (u.op:Int) - 1:=by omega
    rw [hnum] at HSt
    have i0: (k:Int) < (m:Int):=by omega
    clear hcs hrow hUk hd1 hd2 htk hnin hmem hbk hj hu hnum hBk
    go_wp2
    go_roundw
    case rel=> exact ⟨k+1,by omega,by go_num,HSt.out⟩
    case measure=> simp [intOf];omega
   ·obtain rfl:k=m:=by omega
    have htk: (ws t.r.name).take k=ws t.r.name:=by rw [Hm.out];exact List.take_length
    rw [htk] at hBk
    have HBk:=hide hBk
    clear hBk htk
    have HTk:=hide (decT_at (l:=ws t.r.name) HI1.out)
    have HS6:Hid (∀w',Kept wr w'→w'.cell? ⟨bb,5,none⟩=some (.map (some mb))∧w'.cell? ⟨t.tb,0,none⟩=some (.string t.r.name)):=fun w' K=> ⟨(HBk.out.kept K).c5,by obtain ⟨u,h1,h2,h3⟩:=HTk.out;have h4:= ((HBk.out.kept K).at h1).rng 0 _ rfl;rw [h2,h3] at h4;exact h4⟩
    go_upto_region 6 with fail
    refine UpTo.region (by kernel_rfl) (fun w'=> w'.cell? ⟨bb,5,none⟩=some (.map (some mb))∧w'.cell? ⟨t.tb,0,none⟩=some (.string t.r.name)) 9 (HS6.out _ ((Kept.refl wr).drew)) (fun hHeld=> ?_)
    have KD:Kept wr wr.drew:= (Kept.refl wr).drew
    generalize hwd:wr.drew=wd at hHeld KD⊢
    clear hwd
    refine UpTo.tk 0 [1,2,3,9] hHeld ?_
    try simp only [Act.put,upA,upB,upC]
    refine UpTo.tk 1 [2,3,9] hHeld ?_
    try simp only [Act.put,upA,upB,upC]
    refine UpTo.tk 2 [3,9] hHeld ?_
    try simp only [Act.put,upA,upB,upC]
    refine UpTo.tk 3 [9] hHeld ?_
    try simp only [Act.put,upA,upB,upC]
    refine UpTo.tk 4 [5,6,7,8,9] hHeld ?_
    try simp only [Act.put,upA,upB,upC]
    refine UpTo.tk 5 [6,7,8,9] hHeld ?_
    try simp only [Act.put,upA,upB,upC]
    refine UpTo.tk 6 [7,8,9] hHeld ?_
    try simp only [Act.put,upA,upB,upC]
    refine UpTo.tk 7 [8,9] hHeld ?_
    try simp only [Act.put,upA,upB,upC]
    refine UpTo.tk 8 [9] hHeld ?_
    try simp only [Act.put,upA,upB,upC]
    obtain ⟨w9,hrun,_,hB9⟩:= (HBk.out.kept KD).del (s:=t.r.name) (by unfold maxLen;omega) 0
    have HB9:=hide hB9
    clear hB9
    refine UpTo.nx 9 (fun K hK=> ?_)
    rw [if_pos (by rfl)]
    go_simp
    refine hK.out _ _ (fun h=> absurd rfl h) ?_
    clear hK K
    try simp only [Act.put,upA,upB,upC]
    refine UpTo.done (by kernel_rfl) ?_
    go_wp2
    go_end0
    exact ⟨rfl,HB9.out⟩
 ·rw [if_pos (by rfl)]
  go_simp
  refine hK.out _ _ (fun _=> HSO.out _ KD) ?_
  clear hK K
  try simp only [Act.put,upA,upB,upC]
  refine UpTo.nx 10 (fun K hK=> ?_)
  go_simp
  refine hK.out _ _ (fun _=> HSO.out _ KD) ?_
  clear hK K
  try simp only [Act.put,upA,upB,upC]
  refine UpTo.done (by kernel_rfl) ?_
  have HBd:=hide (HB1.out.kept KD)
  clear hHeld
  go_wp2
  go_loopw [35] (fun x wr=> ∃k:Nat,k≤m∧x= .int .i64 k∧BM G webl wz wr bb a cap rd rn rc mb mx (decT T1 ((ws t.r.name).take k)) d dc f ws) (fun x _=> m - (intOf x).toNat)
  case atStart=> exact ⟨0,Nat.zero_le _,rfl,by rw [List.take_zero,decT_nil];exact HBd.out⟩
  case round=>
   clear HBd KD
   obtain ⟨k,hk,rfl,hBk⟩:=hrel
   by_cases hlt:k < m
   ·obtain ⟨bk,hbk⟩: ∃bk,(ws t.r.name)[k]? =some bk:= ⟨_,List.getElem?_eq_getElem (by have:=Hm.out;omega)⟩
    have hmem:bk∈ws t.r.name:=List.mem_of_getElem? hbk
    obtain ⟨j,u,hj,hu,ho1,ho2⟩:=HW.out bk hmem
    have htk: (ws t.r.name).take (k+1)= (ws t.r.name).take k++ [bk]:=by
     obtain ⟨h1,h2⟩:=List.getElem?_eq_some_iff.1 hbk
     rw [List.take_succ_eq_append_getElem h1,h2]
    have hnin:bk∉(ws t.r.name).take k:=fun h=> by
     have hn2:=HN.out
     obtain ⟨h1,h2⟩:=List.getElem?_eq_some_iff.1 hbk
     obtain ⟨q,hq,e⟩:=List.getElem_of_mem h
     rw [List.length_take] at hq
     rw [List.getElem_take] at e
     have:=List.pairwise_iff_getElem.1 hn2 q k (by omega) h1 (by omega)
     exact this (e.trans h2.symm)
    obtain ⟨hd1,hd2⟩:=decT_snoc HB1.out.tbs hnin hj hu
    rw [←htk] at hd1
    have hUk:=hBk.at hd2
    have o9:wr.cell? ⟨u.tb,9,none⟩=some (.int .i64 (u.op:Int)):=hUk.rng 9 _ rfl
    have uz:=hUk.row.lt
    obtain ⟨_,g9⟩:=hUk.row.row.at (i:=9) (by omega)
    have hrow:=hBk.wrow t.r.name
    rw [Hf.out] at hrow
    obtain ⟨b,o,rfl,hb,hcs⟩:=cellsB_of_owned (by have:=hrow;rw [←Hm.out] at this;exact this) k (by simp;have:=Hm.out;omega)
    have c0:wr.cell? ⟨b,o+k,none⟩=some (.pointer (some ⟨u.tb,0,none⟩)):=by rw [hcs k (ptrB bk) (by simp [hbk]),←hu];rfl
    have HSt:=hide (hBk.store (t':= { u with op:=u.op - 1 }) hd2 (o:=9) (v:= .int .i64 ((u.op - 1:Nat):Int)) (by omega) rfl rfl rfl rfl rfl rfl rfl rfl rfl rfl)
    rw [←hd1] at HSt
    have hnum: ((u.op - 1:Nat):Int)= (u.op:Int) - 1:=by omega
    rw [hnum] at HSt
    have i0: (k:Int) < (m:Int):=by omega
    clear hcs hrow hUk hd1 hd2 htk hnin hmem hbk hj hu hnum hBk
    go_wp2
    go_roundw
    case rel=> exact ⟨k+1,by omega,by go_num,HSt.out⟩
    case measure=> simp [intOf];omega
   ·obtain rfl:k=m:=by omega
    have htk: (ws t.r.name).take k=ws t.r.name:=by rw [Hm.out];exact List.take_length
    rw [htk] at hBk
    have HBk:=hide hBk
    clear hBk htk
    have HTk:=hide (decT_at (l:=ws t.r.name) HI1.out)
    have HS6:Hid (∀w',Kept wr w'→w'.cell? ⟨bb,5,none⟩=some (.map (some mb))∧w'.cell? ⟨t.tb,0,none⟩=some (.string t.r.name)):=fun w' K=> ⟨(HBk.out.kept K).c5,by obtain ⟨u,h1,h2,h3⟩:=HTk.out;have h4:= ((HBk.out.kept K).at h1).rng 0 _ rfl;rw [h2,h3] at h4;exact h4⟩
    go_upto_region 6 with fail
    refine UpTo.region (by kernel_rfl) (fun w'=> w'.cell? ⟨bb,5,none⟩=some (.map (some mb))∧w'.cell? ⟨t.tb,0,none⟩=some (.string t.r.name)) 9 (HS6.out _ ((Kept.refl wr).drew)) (fun hHeld=> ?_)
    have KD:Kept wr wr.drew:= (Kept.refl wr).drew
    generalize hwd:wr.drew=wd at hHeld KD⊢
    clear hwd
    refine UpTo.tk 0 [1,2,3,9] hHeld ?_
    try simp only [Act.put,upA,upB,upC]
    refine UpTo.tk 1 [2,3,9] hHeld ?_
    try simp only [Act.put,upA,upB,upC]
    refine UpTo.tk 2 [3,9] hHeld ?_
    try simp only [Act.put,upA,upB,upC]
    refine UpTo.tk 3 [9] hHeld ?_
    try simp only [Act.put,upA,upB,upC]
    refine UpTo.tk 4 [5,6,7,8,9] hHeld ?_
    try simp only [Act.put,upA,upB,upC]
    refine UpTo.tk 5 [6,7,8,9] hHeld ?_
    try simp only [Act.put,upA,upB,upC]
    refine UpTo.tk 6 [7,8,9] hHeld ?_
    try simp only [Act.put,upA,upB,upC]
    refine UpTo.tk 7 [8,9] hHeld ?_
    try simp only [Act.put,upA,upB,upC]
    refine UpTo.tk 8 [9] hHeld ?_
    try simp only [Act.put,upA,upB,upC]
    obtain ⟨w9,hrun,_,hB9⟩:= (HBk.out.kept KD).del (s:=t.r.name) (by unfold maxLen;omega) 0
    have HB9:=hide hB9
    clear hB9
    refine UpTo.nx 9 (fun K hK=> ?_)
    rw [if_pos (by rfl)]
    go_simp
    refine hK.out _ _ (fun h=> absurd rfl h) ?_
    clear hK K
    try simp only [Act.put,upA,upB,upC]
    refine UpTo.done (by kernel_rfl) ?_
    go_wp2
    go_end0
    exact ⟨rfl,HB9.out⟩
end
theorem region_part {P:Program} {id:Nat} {ops:Array Oper} {Q:Exit→Act→World→Prop} {a:Act} {w:World} (J:Act→Act→World→Prop) (h: (Code.region id ops true).wp P (fun x b u=> x= .normal∧J a b u) a w) (hJ: ∀b u,J a b u→Q .normal b u): (Code.region id ops true).wp P Q a w:=
 wp_mono h fun e b u hx=> by
  obtain ⟨rfl,hx⟩:=hx
  exact hJ b u hx
def natV (n:Nat):Value:= .int .i64 (n:Int)
theorem rowIs_type {w:World} {b n:Nat} {t:TypeId} {F:Nat→Value} (h:w.rowIs b t n F):TypeAt w b t:=by
 obtain ⟨c,h1,_⟩:=h
 exact ⟨c,_,h1⟩
theorem rowIs_block {w w':World} {b n:Nat} {t:TypeId} {F:Nat→Value} (h:w.rowIs b t n F) (k:w'.heap[b]? =w.heap[b]?):w'.rowIs b t n F:=by
 obtain ⟨c,h1,h2⟩:=h
 exact ⟨c,k.trans h1,h2⟩
theorem rowIs_lt {w:World} {b n:Nat} {t:TypeId} {F:Nat→Value} (h:w.rowIs b t n F):b < w.heap.size:=by
 obtain ⟨c,h1,_⟩:=h
 exact heap_lt h1
theorem rowIs_ext {w:World} {b n:Nat} {t:TypeId} {F G:Nat→Value} (h:w.rowIs b t n F) (e: ∀p,p < n→G p=F p):w.rowIs b t n G:=by
 obtain ⟨c,h1,h2,h3⟩:=h
 exact ⟨c,h1,h2,fun p hp=> by rw [h3 p hp,e p hp]⟩
def Nats (w:World) (a:Option Addr) (l:List Nat):Prop:= ∀i,i < l.length→∃b o,a=some ⟨b,o,none⟩∧b < w.heap.size∧w.cell? ⟨b,o+i,none⟩=some (.int .i64 ((l.getD i 0:Nat):Int))
theorem Nats.kept {w w':World} {a:Option Addr} {l:List Nat} (h:Nats w a l) (k:Kept w w'):Nats w' a l:=fun i hi=> by
 obtain ⟨b,o,h1,h2,h3⟩:=h i hi
 exact ⟨b,o,h1,Nat.lt_of_lt_of_le h2 k.size,(k.cell h2).trans h3⟩
theorem owned_nats {w:World} {base:Nat} {t:TypeId} {v:Value} {n:Nat} {l:List Nat} (h:w.ownsRow base t 1 v n (l.map natV)) (hn:n=l.length): ∃a cap,v= .slice a l.length cap∧n≤cap∧Nats w a l:=by
 obtain ⟨a,cap,rfl⟩:=own_slice h
 refine ⟨a,cap,by rw [hn], ?_,fun i hi=> ?_⟩
 ·rcases h.2 with ⟨e,h1⟩ | ⟨_,_,_,e,_,_,h1,_⟩
  ·simp only [Value.slice.injEq] at e;omega
  ·simp only [Value.slice.injEq] at e;omega
 ·obtain ⟨b,o,h1,h2,h3⟩:=cellsB_of_owned h i (by simpa using hi)
  exact ⟨b,o,h1,h2,by have:=h3 i (natV (l.getD i 0)) (by simp [List.getD,hi]);exact this⟩
structure TabM (w:World) (base n:Nat) (blk:Bool→Nat) (g:Bool→Nat→Value) (L:Bool→Nat→List Nat):Prop where
 row: ∀c,w.rowIs (blk c) 84 n (g c)
 ne:blk true≠blk false
 own: ∀c p,w.ownsRow base 3 1 (g c p) (L c p).length ((L c p).map natV)
 sep: ∀c p c' p',¬(c'=c∧p'=p)→∀x,(g c p).ownBlock=some x→(g c' p').ownBlock≠some x
section
variable {w w1 w' : World} {base n : Nat} {blk : Bool → Nat} {g : Bool → Nat → Value} {L : Bool → Nat → List Nat}
theorem TabM.but {S:Nat→Prop} (h:TabM w base n blk g L) (k:But S w w') (h1: ∀c,¬S (blk c)) (h2: ∀c p b,(g c p).ownBlock=some b→¬S b):TabM w' base n blk g L:=
 ⟨fun c=> rowIs_block (h.row c) (k.block _ (rowIs_lt (h.row c)) (h1 c)),h.ne,fun c p=> k.owns (h.own c p) (h2 c p),h.sep⟩
theorem TabM.kept (h:TabM w base n blk g L) (k:Kept w w'):TabM w' base n blk g L:=h.but (S:=fun _=> False) (But.of_kept k) (fun _=> id) (fun _ _ _ _=> id)
theorem TabM.put (h:TabM w base n blk g L) (b:Bool) (p:Nat) {v':Value} {x:Nat} (ho:w1.ownsRow base 3 1 v' ((L b p).length+1) ((L b p).map natV++ [natV x])) (hg:w.grownBy w1 (g b p).ownBlock) (hv: ∀y,v'.ownBlock=some y→(g b p).ownBlock=some y∨w.heap.size≤y):
  TabM (w1.setCell ⟨blk b,p,none⟩ v') base n blk (fun c q=> if c=b∧q=p then v' else g c q) (fun c q=> if c=b∧q=p then L b p++ [x] else L c q)∧But (fun y=> (g b p).ownBlock=some y∨y=blk b) w (w1.setCell ⟨blk b,p,none⟩ v'):=by
 have k1:But (fun y=> (g b p).ownBlock=some y) w w1:=But.of_grown hg (fun y e=> e)
 have hr1: ∀c,w1.rowIs (blk c) 84 n (g c):=fun c=> rowIs_block (h.row c) (k1.block _ (rowIs_lt (h.row c)) (fun e=> type_ne (rowIs_type (h.row c)) (owns_type (h.own b p) e) (by decide) rfl))
 have ks:But (fun y=> y=blk b) w1 (w1.setCell ⟨blk b,p,none⟩ v'):=But.set (S:=fun y=> y=blk b) (But.of_kept (Kept.refl w1)) (p:= ⟨blk b,p,none⟩) rfl v'
 have own1: ∀c q,¬(c=b∧q=p)→w1.ownsRow base 3 1 (g c q) (L c q).length ((L c q).map natV):=fun c q hne=> k1.owns (h.own c q) (fun y e e2=> h.sep c q b p (fun e3=> hne ⟨e3.1.symm,e3.2.symm⟩) y e e2)
 refine ⟨⟨fun c=> ?_,h.ne,fun c q=> ?_,fun c q c' q' hne y hy=> ?_⟩, ?_⟩
 ·by_cases e:c=b
  ·subst e
   exact row_put (hr1 c) p v' (fun q hq=> by simp)
  ·refine rowIs_ext (rowIs_block (hr1 c) (ks.block _ (rowIs_lt (hr1 c)) (fun e2=> ?_))) (fun q _=> by simp [e])
   have h3:=h.ne
   cases c <;> cases b <;> first | exact e rfl | exact h3 e2 | exact h3 e2.symm
 ·by_cases e:c=b∧q=p
  ·simp only [if_pos e,List.length_append,List.map_append,List.length_singleton,List.map_cons,List.map_nil]
   exact ks.owns ho (fun y e1 e2=> type_ne (owns_type ho e1) (rowIs_type (hr1 b)) (by decide) e2)
  ·simp only [if_neg e]
   exact ks.owns (own1 c q e) (fun y e1 e2=> type_ne (owns_type (own1 c q e) e1) (rowIs_type (hr1 b)) (by decide) e2)
 ·have hold: ∀c q,¬(c=b∧q=p)→∀y,v'.ownBlock=some y→(g c q).ownBlock≠some y:=fun c q hn y h1 h2=> by
   rcases hv y h1 with h3 | h3
   ·exact h.sep b p c q hn y h3 h2
   ·have:= ((h.own c q).lt y h2).2
    omega
  by_cases e:c=b∧q=p
  ·simp only [if_pos e] at hy
   have e2: ¬(c'=b∧q'=p):=fun e2=> hne ⟨e2.1.trans e.1.symm,e2.2.trans e.2.symm⟩
   simp only [if_neg e2]
   exact hold c' q' e2 y hy
  ·simp only [if_neg e] at hy
   by_cases e2:c'=b∧q'=p
   ·simp only [if_pos e2]
    exact fun h4=> hold c q e y h4 hy
   ·simp only [if_neg e2]
    exact h.sep c q c' q' hne y hy
 ·exact (k1.mono (fun y _ e=> Or.inl e)).trans (ks.mono (fun y _ e=> Or.inr e))
end
structure NeedV (w:World) (na:Option Addr) (nm:List ByteArray) (nb mb:Nat) (need back:Nat→List Nat):Prop where
 names:Strs w na nm
 nbl:nb < w.heap.size
 mbl:mb < w.heap.size
 fwd: ∀p,p < nm.length→∃a c,w.cell? ⟨nb,p,none⟩=some (.slice a (need p).length c)∧Nats w a (need p)
 bwd: ∀p,p < nm.length→∃a c,w.cell? ⟨mb,p,none⟩=some (.slice a (back p).length c)∧Nats w a (back p)
theorem NeedV.kept {w w':World} {na:Option Addr} {nm:List ByteArray} {nb mb:Nat} {need back:Nat→List Nat} (h:NeedV w na nm nb mb need back) (k:Kept w w'):NeedV w' na nm nb mb need back:=
 ⟨h.names.kept k,Nat.lt_of_lt_of_le h.nbl k.size,Nat.lt_of_lt_of_le h.mbl k.size,fun p hp=> by
  obtain ⟨a,c,h1,h2⟩:=h.fwd p hp
  exact ⟨a,c,(k.cell h.nbl).trans h1,h2.kept k⟩,fun p hp=> by
  obtain ⟨a,c,h1,h2⟩:=h.bwd p hp
  exact ⟨a,c,(k.cell h.mbl).trans h1,h2.kept k⟩⟩
theorem TabM.read {w:World} {base:Nat} {blk:Bool→Nat} {g:Bool→Nat→Value} {L:Bool→Nat→List Nat} {na:Option Addr} {nm:List ByteArray} (h:TabM w base nm.length blk g L) (hn:Strs w na nm):NeedV w na nm (blk true) (blk false) (L true) (L false):=by
 have key: ∀c p,p < nm.length→∃a cap,w.cell? ⟨blk c,p,none⟩=some (.slice a (L c p).length cap)∧Nats w a (L c p):=fun c p hp=> by
  obtain ⟨a,cap,h1,_,h2⟩:=owned_nats (h.own c p) rfl
  exact ⟨a,cap,by rw [(h.row c).cell hp,h1],h2⟩
 exact ⟨hn,rowIs_lt (h.row true),rowIs_lt (h.row false),key true,key false⟩
theorem count_less {l:List Nat} {p q:Nat→Bool} (h: ∀x,q x=true→p x=true) {s:Nat} (hs:s∈l) (h1:p s=true) (h2:q s=false):l.countP q+1≤l.countP p:=by
 induction l with
 | nil=> cases hs
 | cons a l ih=>
  rw [List.countP_cons,List.countP_cons]
  rcases List.mem_cons.1 hs with rfl | hs
  ·have:=List.countP_mono_left (l:=l) (p:=q) (q:=p) (fun x _=> h x)
   simp only [h1,h2,if_true]
   simp
   omega
  ·have h3:=ih hs
   have h4:=h a
   cases hq:q a
   ·simp;omega
   ·simp [h4 hq];omega
theorem queue_room {Q:List Nat} {s:Nat} (hn:Q.Nodup) (hq: ∀p∈Q,p < 60) (hs:s < 60) (hsq:s∉Q):Q.length < 60:=by
 have h: (s :: Q).Nodup:=List.nodup_cons.2 ⟨hsq,hn⟩
 have:=List.Nodup.length_le_of_subset (l₂:=List.range 60) h (fun x hx=> by
  rcases List.mem_cons.1 hx with rfl | hx
  ·exact List.mem_range.2 hs
  ·exact List.mem_range.2 (hq x hx))
 simp at this
 omega
theorem RingM.size {w:World} {rb:Nat} {Q:List Nat} (h:RingM w rb Q):w.cell? ⟨rb,61,none⟩=some (.int .i64 (Q.length:Int)):=by
 obtain ⟨V,f,_,_,hr,_⟩:=h.ex
 rw [hr.cell (by omega)]
 rfl
theorem z62 :List.toArray (Value.int .i64 0 :: Value.int .i64 0 :: Value.int .i64 0 :: Value.int .i64 0 :: Value.int .i64 0 :: Value.int .i64 0 :: Value.int .i64 0 :: Value.int .i64 0 :: Value.int .i64 0 :: Value.int .i64 0 :: Value.int .i64 0 :: Value.int .i64 0 :: Value.int .i64 0 :: Value.int .i64 0 :: Value.int .i64 0 :: Value.int .i64 0 :: Value.int .i64 0 :: Value.int .i64 0 :: Value.int .i64 0 :: Value.int .i64 0 :: Value.int .i64 0 :: Value.int .i64 0 :: Value.int .i64 0 :: Value.int .i64 0 :: Value.int .i64 0 :: Value.int .i64 0 :: Value.int .i64 0 :: Value.int .i64 0 :: Value.int .i64 0 :: Value.int .i64 0 :: Value.int .i64 0 :: Value.int .i64 0 :: Value.int .i64 0 :: Value.int .i64 0 :: Value.int .i64 0 :: Value.int .i64 0 :: Value.int .i64 0 :: Value.int .i64 0 :: Value.int .i64 0 :: Value.int .i64 0 :: Value.int .i64 0 :: Value.int .i64 0 :: Value.int .i64 0 :: Value.int .i64 0 :: Value.int .i64 0 :: Value.int .i64 0 :: Value.int .i64 0 :: Value.int .i64 0 :: Value.int .i64 0 :: Value.int .i64 0 :: Value.int .i64 0 :: Value.int .i64 0 :: Value.int .i64 0 :: Value.int .i64 0 :: Value.int .i64 0 :: Value.int .i64 0 :: Value.int .i64 0 :: Value.int .i64 0 :: Value.int .i64 0 :: Value.int .i64 0 :: Value.int .i64 0 :: Value.int .i64 0 :: [])=Array.replicate 62 (Value.int .i64 0):=rfl
def unseenB (S:Nat→Bool):Nat:= (List.range 60).countP (fun p=> !S p)
theorem unseenB_put {S:Nat→Bool} {s:Nat} (hs:s < 60) (h0:S s=false):unseenB (fun r=> if r=s then true else S r)+1≤unseenB S:=by
 refine count_less (s:=s) (fun x hx=> ?_) (List.mem_range.2 hs) (by simp [h0]) (by simp)
 by_cases e:x=s
 ·rw [e] at hx;simp at hx
 ·simpa [e] using hx
def SeenM (w:World) (sb:Nat) (S:Nat→Bool):Prop:=w.rowIs sb 203 60 (fun i=> .bool (S i))
theorem SeenM.put {w:World} {sb:Nat} {S:Nat→Bool} (h:SeenM w sb S) (i:Nat):SeenM (w.setCell ⟨sb,i,none⟩ (.bool true)) sb (fun r=> if r=i then true else S r):=
 row_put h i _ (fun p _=> by by_cases e:p=i <;> simp [e])
theorem SeenM.ext {w:World} {sb:Nat} {S T:Nat→Bool} (h:SeenM w sb S) (e: ∀p,T p=S p):SeenM w sb T:=rowIs_ext h (fun p _=> by rw [e p])
theorem zb60 :List.toArray (Value.bool false :: Value.bool false :: Value.bool false :: Value.bool false :: Value.bool false :: Value.bool false :: Value.bool false :: Value.bool false :: Value.bool false :: Value.bool false :: Value.bool false :: Value.bool false :: Value.bool false :: Value.bool false :: Value.bool false :: Value.bool false :: Value.bool false :: Value.bool false :: Value.bool false :: Value.bool false :: Value.bool false :: Value.bool false :: Value.bool false :: Value.bool false :: Value.bool false :: Value.bool false :: Value.bool false :: Value.bool false :: Value.bool false :: Value.bool false :: Value.bool false :: Value.bool false :: Value.bool false :: Value.bool false :: Value.bool false :: Value.bool false :: Value.bool false :: Value.bool false :: Value.bool false :: Value.bool false :: Value.bool false :: Value.bool false :: Value.bool false :: Value.bool false :: Value.bool false :: Value.bool false :: Value.bool false :: Value.bool false :: Value.bool false :: Value.bool false :: Value.bool false :: Value.bool false :: Value.bool false :: Value.bool false :: Value.bool false :: Value.bool false :: Value.bool false :: Value.bool false :: Value.bool false :: Value.bool false :: [])=Array.replicate 60 (Value.bool false):=rfl
theorem Tryz.infoIntL : (Tryz.prog.info? 3).map (fun i=> (i.zero,i.size,i.bytes))=some (some (.int .i64 0),1,8):=by kernel_rfl
def LeadJ (wr:World) (rb p:Nat) (Q:List Nat) (bx mb n:Nat) (ba:Option Addr) (bl bc:Nat) (a b:Act) (u:World):Prop:=
 b= { a with tmps:= ((((((a.tmps.setIfInBounds 27 (.pointer (some ⟨bx,2,none⟩))).setIfInBounds 28 (.slice (some ⟨mb,0,none⟩) n n)).setIfInBounds 29 (.int .i64 (p:Int))).setIfInBounds 30 (.pointer (some ⟨mb,p,none⟩))).setIfInBounds 31 (.slice ba bl bc)).setIfInBounds 32 (.int .i64 (bl:Int))).setIfInBounds 33 (.int .i64 0)}∧RingM u rb Q∧But (fun b=> b=rb) wr u
def LeadEnd (R:Nat→Nat→Prop) (n:Nat) (ps:List Nat) (w w':World) (e:Ending):Prop:= ∃(av:Option Addr) (cv:Nat) (l:List Nat),e= .returned (.slice av l.length cv)∧Nats w' av l∧l.length≤60∧l.Pairwise (· < ·)∧(∀p,p∈l↔p < n∧LeadsTo R ps p)∧Kept w w'
set_option maxRecDepth 100000 in
set_option maxHeartbeats 12800000 in
theorem leadingTo_any (w:World) (na:Option Addr) (nc:Nat) (nm:List ByteArray) (nb mb:Nat) (need back:Nat→List Nat) (E:ByteArray→ByteArray→Prop) (M:Nat) (pa:Option Addr) (pc:Nat) (ps:List Nat) (hps: ∀p∈ps,p < nm.length) (hpd:ps.Nodup) (hn:nm.length≤60) (hM:M≤60000000) (hV:NeedV w na nm nb mb need back) (hR:NeedR E nm M need back) (hP:Nats w pa ps):
  Calls Tryz.prog 97 #[.agg #[.slice na nm.length nc,.slice (some ⟨nb,0,none⟩) nm.length nm.length,.slice (some ⟨mb,0,none⟩) nm.length nm.length],.slice pa ps.length pc] w fun e w'=> LeadEnd (EdgeP E nm) nm.length ps w w' e:=by
 have hpl:ps.length≤60:=by
  have:=List.Nodup.length_le_of_subset (l₂:=List.range 60) hpd (fun x hx=> List.mem_range.2 (Nat.lt_of_lt_of_le (hps x hx) hn))
  simpa using this
 go_enter Tryz.func97,Tryz.ntmps97
 go_upto_region 3 with fail
 rw [zb60,z62]
 obtain ⟨W1,hW1⟩: ∃W1,W1=w.alloc (.cells #[.slice na nm.length nc,.slice (some ⟨nb,0,none⟩) nm.length nm.length,.slice (some ⟨mb,0,none⟩) nm.length nm.length] 81):= ⟨_,rfl⟩
 have k1:Kept w W1:=by rw [hW1];exact (Kept.refl _).alloc _
 have s0:W1.cell? ⟨w.heap.size,0,none⟩=some (.slice na nm.length nc):=by rw [hW1];exact range_new w #[.slice na nm.length nc,.slice (some ⟨nb,0,none⟩) nm.length nm.length,.slice (some ⟨mb,0,none⟩) nm.length nm.length] 81 0 _ rfl
 have s2:W1.cell? ⟨w.heap.size,2,none⟩=some (.slice (some ⟨mb,0,none⟩) nm.length nm.length):=by rw [hW1];exact range_new w #[.slice na nm.length nc,.slice (some ⟨nb,0,none⟩) nm.length nm.length,.slice (some ⟨mb,0,none⟩) nm.length nm.length] 81 2 _ rfl
 have z1:w.heap.size < W1.heap.size:=by rw [hW1];simp
 have hw1z:w.heap.size+1=W1.heap.size:=by rw [hW1];simp
 obtain ⟨W2,hW2⟩: ∃W2,W2=W1.alloc (.cells (Array.replicate 60 (.bool false)) 203):= ⟨_,rfl⟩
 have k2:Kept W1 W2:=by rw [hW2];exact (Kept.refl _).alloc _
 have a2:SeenM W2 W1.heap.size (fun _=> false):=by
  have h:=World.rowIs_alloc W1 (Array.replicate 60 (.bool false)) 203 (fun _=> .bool false) (fun i hi=> by simp at hi;simp [hi])
  rw [Array.size_replicate] at h
  rw [hW2]
  exact h
 have hw2z:W1.heap.size+1=W2.heap.size:=by rw [hW2];simp
 obtain ⟨W3,hW3⟩: ∃W3,W3=W2.alloc (.cells (Array.replicate 62 (.int .i64 0)) 200):= ⟨_,rfl⟩
 have k3:Kept W2 W3:=by rw [hW3];exact (Kept.refl _).alloc _
 have r3:RingM W3 W2.heap.size []:=by
  refine ⟨fun _=> 0,0,by omega,by simp, ?_,fun i hi=> absurd hi (Nat.not_lt_zero _)⟩
  have h:=World.rowIs_alloc W2 (Array.replicate 62 (.int .i64 0)) 200 (ringF (fun _=> 0) 0 0) (fun i hi=> by simp at hi;simp [ringF,hi])
  rw [Array.size_replicate] at h
  rw [hW3]
  exact h
 rw [←hW1,←hW2,←hW3]
 obtain ⟨sb,hsb⟩: ∃sb,sb=W1.heap.size:= ⟨_,rfl⟩
 obtain ⟨rb,hrb⟩: ∃rb,rb=W2.heap.size:= ⟨_,rfl⟩
 have e2:w.heap.size+1=sb:=by omega
 have e3:w.heap.size+1+1=rb:=by omega
 rw [e3,e2]
 rw [←hsb] at a2
 rw [←hrb] at r3
 have hne:sb≠rb:=by omega
 have HSb:Hid (W1.heap.size≤sb):=by show W1.heap.size≤sb;omega
 have HRb:Hid (W1.heap.size≤rb):=by show W1.heap.size≤rb;omega
 have HS3:Hid (SeenM W3 sb (fun p=> decide (p∈ps.take 0))):= (SeenM.ext (row_kept a2 k3) (fun p=> by simp))
 have HR3:Hid (RingM W3 rb (ps.take 0)):=r3
 have HK3:=hide (k2.trans k3)
 have HK1:=hide k1
 have HBx:Hid (∀u,Kept W1 u→u.cell? ⟨w.heap.size,0,none⟩=some (.slice na nm.length nc)∧u.cell? ⟨w.heap.size,2,none⟩=some (.slice (some ⟨mb,0,none⟩) nm.length nm.length)):=fun u k=> ⟨(k.cell z1).trans s0,(k.cell z1).trans s2⟩
 clear hW1 hW2 hW3 e2 e3 a2 r3 k1 k2 k3 hw1z hw2z hsb hrb s0 s2 z1
 go_wp2_with fail
 go_loopw [15] (fun x wr=> ∃i:Nat,i≤ps.length∧x= .int .i64 (i:Int)∧Hid (SeenM wr sb (fun p=> decide (p∈ps.take i)))∧Hid (RingM wr rb (ps.take i))∧Hid (Kept W1 wr)) (fun x _=> ps.length - (intOf x).toNat)
 case atStart=> exact ⟨0,Nat.zero_le _,rfl,HS3,HR3,HK3⟩
 case round=>
  clear HS3 HR3 HK3
  obtain ⟨i,hi,rfl,HS,HR,HK⟩:=hrel
  by_cases hil:i < ps.length
  ·obtain ⟨pb,po,e1,hpb,hpc⟩:= (hP.kept (HK1.out.trans HK.out)) i hil
   subst e1
   obtain ⟨p,hp⟩: ∃p,p=ps.getD i 0:= ⟨_,rfl⟩
   rw [←hp] at hpc
   have hpg:ps[i]=p:=by rw [hp];simp [List.getD,hil]
   have hpm:p < nm.length:=hps p (by rw [←hpg];exact List.getElem_mem hil)
   have HTk:Hid (ps.take (i+1)=ps.take i++ [p]):=by show _=_;rw [List.take_succ_eq_append_getElem hil,hpg]
   have hii: (i:Int) < (ps.length:Int):=by omega
   have hp60: (p:Int) < 60:=by omega
   have cp:=HS.out.cell (show p < 60 by omega)
   have fp:=HS.out.frozen p
   have HS7:=hide (SeenM.put HS.out p)
   have HK7:Hid (Kept W1 (wr.setCell ⟨sb,p,none⟩ (.bool true))):= (But.set (S:=fun b=> b=sb) (But.of_kept (Kept.refl wr)) (p:= ⟨sb,p,none⟩) rfl _).kept HK.out (fun b e=> by rw [e];exact HSb.out)
   have HR7:=hide (HR.out.block (w':=wr.setCell ⟨sb,p,none⟩ (.bool true)) (Below.heap_setCell _ _ _ _ (fun e=> hne (Eq.symm e))))
   have htl: (ps.take i).length < 60:=by rw [List.length_take];omega
   clear hp hpg
   go_upto_region 7 with fail
   generalize hW7:wr.setCell ⟨sb,p,none⟩ (.bool true)=w7 at HS7 HK7 HR7⊢
   clear hW7 cp fp
   go_wp2_with fail
   refine (put_any w7 rb (ps.take i) p HR7.out htl).mono ?_
   rintro e w8 ⟨rfl,hR8,hB8⟩
   have HR8:Hid (RingM w8 rb (ps.take (i+1))):=by rw [HTk.out];exact hR8
   have HS8:Hid (SeenM w8 sb (fun q=> decide (q∈ps.take (i+1)))):=by
    refine SeenM.ext (rowIs_block HS7.out (hB8.block _ (rowIs_lt HS7.out) (fun e=> hne e))) (fun q=> ?_)
    rw [HTk.out]
    by_cases e:q=p
    ·simp [e]
    ·simp [e]
   have HK8:Hid (Kept W1 w8):=hB8.kept HK7.out (fun b e=> by rw [e];exact HRb.out)
   clear hR8 hB8 HS7 HK7 HR7
   go_wp2_with fail
   go_roundw
   case rel=> exact ⟨i+1,by omega,by go_num,HS8,HR8,HK8⟩
   case measure=> simp [intOf];omega
  have hie:i=ps.length:=by omega
  have HL0:Hid (Lead (EdgeP E nm) ps (fun p=> decide (p∈ps)) ps):=Lead.start _ hpd
  have HS1:Hid (SeenM wr sb (fun p=> decide (p∈ps))):=by have h:=HS.out;rw [hie,List.take_length] at h;exact h
  have HR1:Hid (RingM wr rb ps):=by have h:=HR.out;rw [hie,List.take_length] at h;exact h
  have hni: ¬((i:Int) < (ps.length:Int)):=by omega
  clear HS HR hie hil
  go_wp2_with fail
  clear hni
  go_loopg [10] (2 * unseenB (fun p=> decide (p∈ps))+ps.length) (fun gg x10 wr=> ∃(S:Nat→Bool) (Q:List Nat),Hid (2 * unseenB S+Q.length=gg)∧Hid (SeenM wr sb S)∧Hid (RingM wr rb Q)∧Hid (Lead (EdgeP E nm) ps S Q)∧Hid (∀p∈Q,p < nm.length)∧Hid (Kept W1 wr)∧x10=x10)
  case atStart=> exact ⟨_,ps,hide rfl,HS1,HR1,HL0,hide hps,HK,rfl⟩
  case round=>
   clear HS1 HR1 HL0 HK
   obtain ⟨S,Q,HG,HS,HR,HB,HQ,HK,_⟩:=hrel
   have c61:=HR.out.size
   cases Q with
   | nil=>
    have c62:wr.cell? ⟨rb,61,none⟩=some (.int .i64 0):=c61
    clear c61
    obtain ⟨q0,q2⟩:=HBx.out _ HK.out
    have HSx:=HS
    have HKW:=hide (HK1.out.trans HK.out)
    obtain ⟨wr0,hwr0⟩: ∃wr0,wr0=wr:= ⟨_,rfl⟩
    rw [←hwr0] at HSx HKW q0 q2 c62⊢
    clear hwr0
    have HWh:Hid (∀p,S p=true↔LeadsTo (EdgeP E nm) ps p):=HB.out.whole
    go_wp2_with fail
    clear q0 q2 c62
    go_loopw [11,49] (fun x11 x49 wr=> ∃(i:Nat) (av:Option Addr) (cv:Nat),i≤nm.length∧x49= .int .i64 (i:Int)∧x11= .slice av ((List.range i).filter S).length cv∧Hid (SeenM wr sb S)∧Hid (wr.ownsRow wr0.heap.size 3 1 (.slice av ((List.range i).filter S).length cv) ((List.range i).filter S).length (((List.range i).filter S).map natV))∧Hid (Kept wr0 wr)) (fun _ x49 _=> nm.length - (intOf x49).toNat)
    case atStart=> exact ⟨0,none,0,Nat.zero_le _,rfl,rfl,HSx,World.ownsRow_nil _ _ _ _,hide (Kept.refl _)⟩
    case round=>
     obtain ⟨i,av,cv,hi,rfl,rfl,HSn,HO,HKx⟩:=hrel
     obtain ⟨l,hl⟩: ∃l,l= (List.range i).filter S:= ⟨_,rfl⟩
     have hll:l.length≤60:=by rw [hl];have:=List.length_filter_le S (List.range i);rw [List.length_range] at this;omega
     rw [←hl] at HO⊢
     have HLl:=hide hl
     clear hl
     by_cases hil:i < nm.length
     rotate_left
     ·have hnl: ¬((i:Int) < (nm.length:Int)):=by omega
      have HIe:Hid (i=nm.length):=by show i=nm.length;omega
      have HNt:Hid (Nats wr av l):=by
       obtain ⟨a9,c9,e9,_,h9⟩:=owned_nats HO.out rfl
       simp only [Value.slice.injEq,true_and] at e9
       rw [←e9.1] at h9
       exact h9
      clear hil
      go_wp2_with fail
      go_ret
      refine ⟨av,cv,l,rfl,HNt.out,hll, ?_,fun p=> ?_,HKW.out.trans HKx.out⟩
      ·rw [HLl.out];exact List.Pairwise.filter _ List.pairwise_lt_range
      ·rw [HLl.out,List.mem_filter,List.mem_range,HIe.out,HWh.out]
     have hii: (i:Int) < (nm.length:Int):=by omega
     have hi60: (i:Int) < 60:=by omega
     have ci:=HSn.out.cell (show i < 60 by omega)
     have HRn:Hid ((List.range (i+1)).filter S=if S i=true then l++ [i] else l):=by
      show _=_
      rw [List.range_succ,List.filter_append,←HLl.out]
      cases hs:S i <;> simp [hs]
     cases hsi:S i
     ·rw [hsi] at ci
      go_wp2_with fail
      go_roundw
      case rel=> exact ⟨i+1,av,cv,by omega,by go_num,by rw [HRn.out,hsi];rfl,HSn,hide (by rw [HRn.out,hsi];exact HO.out),HKx⟩
      case measure=> simp [intOf];omega
     ·rw [hsi] at ci
      obtain ⟨ic,hc0,hc1,hc2,hc3⟩:=info_parts Tryz.infoIntL
      have ka:Kept wr (wr.alloc (.cells #[.int .i64 (i:Int)] 3)):= (Kept.refl _).alloc _
      have HOw:=hide (ownsRow_kept' HO.out ka)
      have HKK:=hide (HKx.out.trans ka)
      have hbz:wr0.heap.size≤(wr.alloc (.cells #[.int .i64 (i:Int)] 3)).heap.size:=HKK.out.size
      have HNw:Hid (∀j u,([.int .i64 (i:Int)]:List Value)[j]? =some u→(wr.alloc (.cells #[.int .i64 (i:Int)] 3)).cell? ((⟨wr.heap.size,0,none⟩:Addr).add j)=some u):=fun j u hu=> by rw [Addr.add_mid];exact range_new wr #[.int .i64 (i:Int)] 3 j u hu
      have HOne:Hid (∀u∈([.int .i64 (i:Int)]:List Value),u.oneCell'=true):=fun u hu=> by simp only [List.mem_cons,List.not_mem_nil,or_false] at hu;subst hu;rfl
      have HSw:=hide (row_kept HSn.out ka)
      clear ka
      go_wp2_with (at_builtin;refine wpList_append_own _ rfl (.tmp 55) (.tmp 57) 84 rfl wr0.heap.size 3 ic _ 1 8 Tryz.underlying84 hc0 hc1 hc2 hc3 rfl (by decide) (.slice av l.length cv) l.length (l.map natV) rfl HOw.out ⟨wr.heap.size,0,none⟩ 1 1 [.int .i64 (i:Int)] rfl rfl HNw.out HOne.out (by unfold maxLen;omega) (by omega) hbz ?_;intro v' w6 hown2 hgr _;have KP:=kept_of_grown HKK.out (Nat.le_refl _) HOw.out hgr;have HS6:Hid (SeenM w6 sb S):=rowIs_block HSw.out ((But.of_grown (S:=fun b=> (Value.slice av l.length cv).ownBlock=some b) hgr (fun b e=> e)).block _ (rowIs_lt HSw.out) (fun e=> type_ne (rowIs_type HSw.out) (owns_type HOw.out e) (by decide) rfl));have HP2:=hide hown2;obtain ⟨av2,cv2,rfl⟩:=own_slice hown2;clear hown2 hgr)
      go_roundw
      case rel=> exact ⟨i+1,av2,cv2,by omega,by go_num,by rw [HRn.out,hsi];simp,HS6,hide (by rw [HRn.out,hsi];simp only [if_true,List.length_append,List.map_append];exact HP2.out),hide KP⟩
      case measure=> simp [intOf];omega
   | cons p Q=>
    have hgt: (0:Int) < ((p :: Q).length:Int):=by simp
    have hpm:p < nm.length:=HQ.out p (by simp)
    obtain ⟨ba,bc,hbc,hbn⟩:=hV.bwd p hpm
    obtain ⟨q0,q2⟩:=HBx.out _ HK.out
    have HMb:Hid (mb < w.heap.size):=hV.mbl
    have HBc:Hid (∀u,But (fun b=> b=rb) wr u→u.cell? ⟨w.heap.size,2,none⟩=some (.slice (some ⟨mb,0,none⟩) nm.length nm.length)∧u.cell? ⟨mb,p,none⟩=some (.slice ba (back p).length bc)):=fun u k=> by
     have kk:Kept W1 u:=k.kept HK.out (fun b e=> by rw [e];exact HRb.out)
     exact ⟨(HBx.out u kk).2,((HK1.out.trans kk).cell HMb.out).trans hbc⟩
    have hpi: (p:Int) < (nm.length:Int):=by omega
    have hbl:= (hR.len p).2
    have HBn:=hide hbn
    clear hbn hbc q0
    go_upto_region 10 with fail
    refine region_part (LeadJ wr rb p Q w.heap.size mb nm.length ba (back p).length bc) ?_ ?_
    ·refine UpTo.region (by kernel_rfl) (fun u=> u.cell? ⟨w.heap.size,2,none⟩=some (.slice (some ⟨mb,0,none⟩) nm.length nm.length)∧u.cell? ⟨mb,p,none⟩=some (.slice ba (back p).length bc)) 5 (HBc.out _ (But.of_kept ((Kept.refl wr).drew))) (fun hHeld=> ?_)
     have HRd:Hid (RingM wr.drew rb (p :: Q)):=HR.out.block (w':=wr.drew) rfl
     have HBD:Hid (But (fun b=> b=rb) wr wr.drew):=But.of_kept ((Kept.refl wr).drew)
     generalize hwd:wr.drew=wd at hHeld HRd HBD⊢
     clear hwd
     refine UpTo.take 0 [1,3,4,5] (v:= ?_) (by (simp only [List.getElem?_toArray,List.getElem?_cons_zero];rfl)) (by kernel_rfl) (by kernel_rfl) (by kernel_rfl) (by kernel_rfl) (by exact fun _ _ _ h=> nomatch h.1) (Or.inl ⟨by rfl, ?_⟩) hHeld ?_
     rotate_left
     ·intro u hu
      try dsimp only at hu
      go_simp
      try with_reducible rfl
     try simp only [Act.put,upA,upB,upC]
     refine UpTo.take 1 [3,4,5] (v:= ?_) (by (simp only [List.getElem?_toArray,List.getElem?_cons_succ,List.getElem?_cons_zero];rfl)) (by kernel_rfl) (by kernel_rfl) (by kernel_rfl) (by kernel_rfl) (by exact fun _ _ _ h=> nomatch h.1) (Or.inl ⟨by rfl, ?_⟩) hHeld ?_
     rotate_left
     ·intro u hu
      try dsimp only at hu
      go_simp
      try with_reducible rfl
     try simp only [Act.put,upA,upB,upC]
     refine UpTo.two 2 6 (by kernel_rfl) (by (simp only [List.getElem?_toArray,List.getElem?_cons_succ,List.getElem?_cons_zero];rfl)) (by (simp only [List.getElem?_toArray,List.getElem?_cons_succ,List.getElem?_cons_zero];rfl)) (fun K hK=> ?_) (fun K hK=> ?_)
     ·rw [if_pos (by rfl)]
      go_simp
      go_at_call 144
      refine (take_any wd rb Q p HRd.out).mono ?_
      rintro e w1 ⟨rfl,hR1,hB1⟩
      have HBd:=hide (But.trans HBD.out hB1)
      have HR1:=hide hR1
      clear hR1 hB1
      dsimp only
      refine hK.out _ _ (fun _=> HBc.out _ HBd.out) ?_
      clear hK K hHeld
      have hHeld:=HBc.out _ HBd.out
      try simp only [Act.put,upA,upB,upC]
      refine UpTo.take 3 [4,5] (v:= ?_) (by (simp only [List.getElem?_toArray,List.getElem?_cons_succ,List.getElem?_cons_zero];rfl)) (by kernel_rfl) (by kernel_rfl) (by kernel_rfl) (by kernel_rfl) (by exact fun _ _ _ h=> nomatch h.1) (Or.inl ⟨by rfl, ?_⟩) hHeld ?_
      rotate_left
      ·intro u hu
       try dsimp only at hu
       go_simp
       try with_reducible rfl
      try simp only [Act.put,upA,upB,upC]
      refine UpTo.take 4 [5] (v:= ?_) (by (simp only [List.getElem?_toArray,List.getElem?_cons_succ,List.getElem?_cons_zero];rfl)) (by kernel_rfl) (by kernel_rfl) (by kernel_rfl) (by kernel_rfl) (by exact fun _ _ _ h=> nomatch h.1) (Or.inl ⟨by rfl, ?_⟩) hHeld ?_
      rotate_left
      ·intro u hu
       try dsimp only at hu
       go_simp
       try with_reducible rfl
      try simp only [Act.put,upA,upB,upC]
      refine UpTo.two 5 6 (by kernel_rfl) (by (simp only [List.getElem?_toArray,List.getElem?_cons_succ,List.getElem?_cons_zero];rfl)) (by (simp only [List.getElem?_toArray,List.getElem?_cons_succ,List.getElem?_cons_zero];rfl)) (fun K hK=> ?_) (fun K hK=> ?_)
      ·go_simp
       refine hK.out _ _ (fun h=> absurd rfl h) ?_
       clear hK K
       try simp only [Act.put,upA,upB,upC]
       refine UpTo.nx 6 (fun K hK=> ?_)
       go_simp
       refine hK.out _ _ (fun _=> hHeld) ?_
       clear hK K
       try simp only [Act.put,upA,upB,upC]
       refine UpTo.done (by kernel_rfl) ?_
       refine ⟨rfl, ?_,HR1.out,HBd.out⟩
       simp only [List.setIfInBounds_toArray,List.set_cons_zero,List.set_cons_succ]
      ·go_simp
       refine hK.out _ _ (fun _=> hHeld) ?_
       clear hK K
       try simp only [Act.put,upA,upB,upC]
       refine UpTo.nx 5 (fun K hK=> ?_)
       go_simp
       refine hK.out _ _ (fun h=> absurd rfl h) ?_
       clear hK K
       try simp only [Act.put,upA,upB,upC]
       refine UpTo.done (by kernel_rfl) ?_
       refine ⟨rfl, ?_,HR1.out,HBd.out⟩
       simp only [List.setIfInBounds_toArray,List.set_cons_zero,List.set_cons_succ]
     ·go_simp
      refine hK.out _ _ (fun _=> hHeld) ?_
      clear hK K
      try simp only [Act.put,upA,upB,upC]
      refine UpTo.nx 2 (fun K hK=> ?_)
      rw [if_pos (by rfl)]
      go_simp
      go_at_call 144
      refine (take_any wd rb Q p HRd.out).mono ?_
      rintro e w1 ⟨rfl,hR1,hB1⟩
      have HBd:=hide (But.trans HBD.out hB1)
      have HR1:=hide hR1
      clear hR1 hB1
      dsimp only
      refine hK.out _ _ (fun _=> HBc.out _ HBd.out) ?_
      clear hK K hHeld
      have hHeld:=HBc.out _ HBd.out
      try simp only [Act.put,upA,upB,upC]
      refine UpTo.take 3 [4,5] (v:= ?_) (by (simp only [List.getElem?_toArray,List.getElem?_cons_succ,List.getElem?_cons_zero];rfl)) (by kernel_rfl) (by kernel_rfl) (by kernel_rfl) (by kernel_rfl) (by exact fun _ _ _ h=> nomatch h.1) (Or.inl ⟨by rfl, ?_⟩) hHeld ?_
      rotate_left
      ·intro u hu
       try dsimp only at hu
       go_simp
       try with_reducible rfl
      try simp only [Act.put,upA,upB,upC]
      refine UpTo.take 4 [5] (v:= ?_) (by (simp only [List.getElem?_toArray,List.getElem?_cons_succ,List.getElem?_cons_zero];rfl)) (by kernel_rfl) (by kernel_rfl) (by kernel_rfl) (by kernel_rfl) (by exact fun _ _ _ h=> nomatch h.1) (Or.inl ⟨by rfl, ?_⟩) hHeld ?_
      rotate_left
      ·intro u hu
       try dsimp only at hu
       go_simp
       try with_reducible rfl
      try simp only [Act.put,upA,upB,upC]
      refine UpTo.nx 5 (fun K hK=> ?_)
      go_simp
      refine hK.out _ _ (fun h=> absurd rfl h) ?_
      clear hK K
      try simp only [Act.put,upA,upB,upC]
      refine UpTo.done (by kernel_rfl) ?_
      refine ⟨rfl, ?_,HR1.out,HBd.out⟩
      simp only [List.setIfInBounds_toArray,List.set_cons_zero,List.set_cons_succ]
    rintro b u ⟨rfl,hRu,hBu⟩
    simp only [List.setIfInBounds_toArray,List.set_cons_zero,List.set_cons_succ]
    have HRu:=hide hRu
    have HSu:Hid (SeenM u sb S):=rowIs_block HS.out (hBu.block _ (rowIs_lt HS.out) (fun e=> hne e))
    have HKu:Hid (Kept W1 u):=hBu.kept HK.out (fun b e=> by rw [e];exact HRb.out)
    have HIn:=hide HB.out.take
    have HQ1:Hid (∀q∈Q,q < nm.length):=fun q hq=> HQ.out q (List.mem_cons_of_mem _ hq)
    have HGl:Hid (2 * unseenB S+Q.length < gk):=by have h:=HG.out;rw [List.length_cons] at h;show 2 * unseenB S+Q.length < gk;omega
    clear hRu hBu c61 hgt HS HR HB HQ HK HG q2
    go_wp2_with fail
    go_loopw [33] (fun x33 wr=> ∃(j:Nat) (S:Nat→Bool) (Q:List Nat),x33= .int .i64 (j:Int)∧j≤(back p).length∧Hid (2 * unseenB S+Q.length < gk)∧Hid (SeenM wr sb S)∧Hid (RingM wr rb Q)∧Hid (LeadIn (EdgeP E nm) ps p ((back p).take j) S Q)∧Hid (∀q∈Q,q < nm.length)∧Hid (Kept W1 wr)) (fun x33 _=> (back p).length - (intOf x33).toNat)
    case atStart=> exact ⟨0,S,Q,rfl,Nat.zero_le _,HGl,HSu,HRu,HIn,HQ1,HKu⟩
    case round=>
     clear HGl HSu HRu HIn HQ1 HKu
     obtain ⟨j,S,Q,rfl,hj,HG,HS,HR,HIn,HQ,HK⟩:=hrel
     by_cases hjl:j < (back p).length
     rotate_left
     ·have hnj: ¬((j:Int) < ((back p).length:Int)):=by omega
      have HEn:Hid (Lead (EdgeP E nm) ps S Q):=HIn.out.ends (fun s hs=> by rw [List.take_of_length_le (by omega)];exact (hR.bwd s p).2 hs)
      clear hjl
      go_wp2_with fail
      go_roundg (2 * unseenB S+Q.length)
      case measure=> exact HG.out
      case rel=> exact ⟨S,Q,hide rfl,HS,HR,HEn,HQ,HK,trivial⟩
     obtain ⟨xb,xo,e1,hxb,hxc⟩:= (HBn.out.kept (HK1.out.trans HK.out)) j hjl
     subst e1
     obtain ⟨s,hs⟩: ∃s,s= (back p).getD j 0:= ⟨_,rfl⟩
     rw [←hs] at hxc
     have hsg: (back p)[j]=s:=by rw [hs];simp [List.getD,hjl]
     have HE:Hid (EdgeP E nm s p):= (hR.bwd s p).1 (by rw [←hsg];exact List.getElem_mem hjl)
     have hsm:s < nm.length:=HE.out.1
     have HTk:Hid ((back p).take (j+1)= (back p).take j++ [s]):=by show _=_;rw [List.take_succ_eq_append_getElem hjl,hsg]
     have hji: (j:Int) < ((back p).length:Int):=by omega
     have cs:=HS.out.cell (show s < 60 by omega)
     have hs60: (s:Int) < 60:=by omega
     clear hs hsg
     cases hss:S s
     rotate_left
     ·rw [hss] at cs
      have HOl:=hide (HIn.out.old hss)
      go_wp2_with fail
      go_roundw
      case rel=> exact ⟨j+1,S,Q,by go_num,by omega,HG,HS,HR,hide (by rw [HTk.out];exact HOl.out),HQ,HK⟩
      case measure=> simp [intOf];omega
     rw [hss] at cs
     have HNw:=hide (HIn.out.new HE.out hss)
     have hrm:Q.length < 60:=queue_room HIn.out.nd (fun q hq=> Nat.lt_of_lt_of_le (HQ.out q hq) hn) (show s < 60 by omega) (fun h=> by have:=HIn.out.q s h;rw [hss] at this;cases this)
     have HUp:=hide (unseenB_put (show s < 60 by omega) hss)
     have fs:=HS.out.frozen s
     have HS7:=hide (SeenM.put HS.out s)
     have HK7:Hid (Kept W1 (wr.setCell ⟨sb,s,none⟩ (.bool true))):= (But.set (S:=fun b=> b=sb) (But.of_kept (Kept.refl wr)) (p:= ⟨sb,s,none⟩) rfl _).kept HK.out (fun b e=> by rw [e];exact HSb.out)
     have HR7:=hide (HR.out.block (w':=wr.setCell ⟨sb,s,none⟩ (.bool true)) (Below.heap_setCell _ _ _ _ (fun e=> hne (Eq.symm e))))
     go_upto_region 15 with fail
     generalize hW7:wr.setCell ⟨sb,s,none⟩ (.bool true)=w7 at HS7 HK7 HR7⊢
     clear hW7 fs cs
     go_wp2_with fail
     refine (put_any w7 rb Q s HR7.out hrm).mono ?_
     rintro e w8 ⟨rfl,hR8,hB8⟩
     have HR8:=hide hR8
     have HS8:Hid (SeenM w8 sb (fun r=> if r=s then true else S r)):=rowIs_block HS7.out (hB8.block _ (rowIs_lt HS7.out) (fun e=> hne e))
     have HK8:Hid (Kept W1 w8):=hB8.kept HK7.out (fun b e=> by rw [e];exact HRb.out)
     have HG8:Hid (2 * unseenB (fun r=> if r=s then true else S r)+ (Q++ [s]).length < gk):=by
      have h1:=HUp.out
      have h2:=HG.out
      rw [List.length_append]
      simp only [List.length_cons,List.length_nil]
      show _ < _
      omega
     have HQ8:Hid (∀q∈Q++ [s],q < nm.length):=fun q hq=> by
      rcases List.mem_append.1 hq with h | h
      ·exact HQ.out q h
      ·rw [List.mem_singleton] at h;rw [h];exact hsm
     clear hR8 hB8 HS7 HK7 HR7
     go_wp2_with fail
     go_roundw
     case rel=> exact ⟨j+1,_,_,by go_num,by omega,HG8,HS8,HR8,hide (by rw [HTk.out];exact HNw.out),HQ8,HK8⟩
     case measure=> simp [intOf];omega
end Go.Proofs.YteknkpfbjapoiaaGreatDoor
