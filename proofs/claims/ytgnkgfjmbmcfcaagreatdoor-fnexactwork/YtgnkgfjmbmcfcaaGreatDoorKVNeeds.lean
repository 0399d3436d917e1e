import Derived.Test.YtgnkgfjmbmcfcaaGreatDoorKHInt
import Derived.Deep.MidRow
import Derived.Test.YtgnkgfjmbmcfcaaGreatDoorKURes
import Derived.Test.YtgnkgfjmbmcfcaaGreatDoorKUSlot
import Derived.Test.YtgnkgfjmbmcfcaaGreatDoorKXSame3
import Derived.Deep.QuietTactic
import Derived.BigQuiet
set_option maxRecDepth 100000
set_option maxHeartbeats 25600000
namespace Go.Proofs.YtgnkgfjmbmcfcaaGreatDoor
open Go.RowKit
theorem namedLess_any (w:World) {ta tb:Nat} {x y:ByteArray} (hx:w.cell? ⟨ta,0,none⟩=some (.string x)) (hy:w.cell? ⟨tb,0,none⟩=some (.string y)):
  Calls Tryz.prog 66 #[.pointer (some ⟨ta,0,none⟩),.pointer (some ⟨tb,0,none⟩)] w fun e w'=> e= .returned (.bool (Op.bytesLess x.toList y.toList))∧K_ w w':=by
 go_enter Tryz.func66,Tryz.ntmps66
 go_wp2
 go_region
 all_goals
  go_wp2
  go_ret
  exact ⟨rfl,(K_.refl w).drew⟩
theorem costsMore_any (w:World) {ta tb:Nat} {x y:ByteArray} {c d:Int} (hx:w.cell? ⟨ta,0,none⟩=some (.string x)) (hy:w.cell? ⟨tb,0,none⟩=some (.string y)) (hc:w.cell? ⟨ta,7,none⟩=some (.int .i64 c)) (hd:w.cell? ⟨tb,7,none⟩=some (.int .i64 d)):
  Calls Tryz.prog 65 #[.pointer (some ⟨ta,0,none⟩),.pointer (some ⟨tb,0,none⟩)] w fun e w'=> e= .returned (.bool (aheadC c d x y))∧K_ w w':=by
 have HX:=Kz hx
 have HY:=Kz hy
 by_cases he:c=d
 ·have e0: (c == d)=true:=by simpa using he
  have HA:Hid (aheadC c d x y=Op.bytesLess x.toList y.toList):=by show _=_;unfold aheadC;rw [if_pos he]
  clear he
  go_enter Tryz.func65,Tryz.ntmps65
  go_wp2
  go_region
  all_goals
   go_wp2_with fail
   refine (namedLess_any w.drew HX.out HY.out).mono ?_
   rintro e w1 ⟨rfl,k1⟩
   go_wp2
   go_ret
   exact ⟨by rw [HA.out];rfl,K_.trans ((K_.refl w).drew) k1⟩
 ·have e0: (c == d)=false:=by simpa using he
  have HA:Hid (aheadC c d x y=decide (d < c)):=by show _=_;unfold aheadC;rw [if_neg he]
  clear he
  go_enter Tryz.func65,Tryz.ntmps65
  go_wp2
  go_region
  all_goals
   go_wp2
   go_region
   all_goals
    go_wp2
    go_ret
    exact ⟨by rw [HA.out];rfl,((K_.refl w).drew).drew⟩
theorem lessInt_any (w:World) (x y:Int):
  Calls Tryz.prog 68 #[.int .i64 x,.int .i64 y] w fun e w'=> e= .returned (.bool (decide (x < y)))∧K_ w w':=by
 go_enter Tryz.func68,Tryz.ntmps68
 go_wp2
 go_ret
 exact ⟨rfl,K_.refl w⟩
theorem Tryz.infoEff : (Tryz.prog.info? 147).map (fun i=> (i.zero,i.size,i.bytes))=some (some (.agg #[.int .i64 0,.int .i64 0,.string ⟨#[]⟩,.pointer none,.int .i64 0,.int .i64 0,.int .i64 0]),7,64):=by kernel_rfl
theorem Tryz.sizeEff : (Tryz.prog.info? 147).map (·.size)=some 7:=by kernel_rfl
section
variable {loc : ByteArray -> Nat}
def effC (loc:ByteArray->Nat) (x:EffX):List Value:=[.int .i64 (x).at',.int .i64 (x).worker,.string (x).name,.pointer (some ⟨loc (x).name,0,none⟩),.int .i64 (x).fin,.int .i64 (x).place,.int .i64 (x).cause]
def effV (loc:ByteArray->Nat) (x:EffX):Value:= .agg #[.int .i64 (x).at',.int .i64 (x).worker,.string (x).name,.pointer (some ⟨loc (x).name,0,none⟩),.int .i64 (x).fin,.int .i64 (x).place,.int .i64 (x).cause]
theorem eff_one (x:EffX): (#[.int .i64 (x).at',.int .i64 (x).worker,.string (x).name,.pointer (some ⟨loc (x).name,0,none⟩),.int .i64 (x).fin,.int .i64 (x).place,.int .i64 (x).cause]:Array Value).all (·.oneCell')=true:=all_oneCell_toArray (cs:=effC loc x) (by simp [effC,Value.oneCell'])
def EffAt (u:World) (g k:Nat) (loc:ByteArray->Nat) (x:EffX):Prop:=u.cell? ⟨g,k,none⟩=some (.int .i64 x.at')∧u.cell? ⟨g,k+1,none⟩=some (.int .i64 x.worker)∧u.cell? ⟨g,k+2,none⟩=some (.string x.name)∧u.cell? ⟨g,k+3,none⟩=some (.pointer (some ⟨loc x.name,0,none⟩))∧u.cell? ⟨g,k+4,none⟩=some (.int .i64 x.fin)∧u.cell? ⟨g,k+5,none⟩=some (.int .i64 x.place)∧u.cell? ⟨g,k+6,none⟩=some (.int .i64 x.cause)
theorem EffAt.cells {u u':World} {g k:Nat} {x:EffX} (h:EffAt u g k loc x) (hc: ∀j,u'.cell? ⟨g,j,none⟩=u.cell? ⟨g,j,none⟩):EffAt u' g k loc x:=by
 obtain ⟨a1,a2,a3,a4,a5,a6,a7⟩:=h
 exact ⟨(hc _).trans a1,(hc _).trans a2,(hc _).trans a3,(hc _).trans a4,(hc _).trans a5,(hc _).trans a6,(hc _).trans a7⟩
theorem EffAt.new (w:World) (x:EffX):EffAt (w.alloc (.cells #[.int .i64 (x).at',.int .i64 (x).worker,.string (x).name,.pointer (some ⟨loc (x).name,0,none⟩),.int .i64 (x).fin,.int .i64 (x).place,.int .i64 (x).cause] 147)) w.heap.size 0 loc x:=by
 have h:=Xz w #[.int .i64 (x).at',.int .i64 (x).worker,.string (x).name,.pointer (some ⟨loc (x).name,0,none⟩),.int .i64 (x).fin,.int .i64 (x).place,.int .i64 (x).cause] 147
 exact ⟨h 0 _ rfl,h 1 _ rfl,h 2 _ rfl,h 3 _ rfl,h 4 _ rfl,h 5 _ rfl,h 6 _ rfl⟩
variable {b o B n cap : Nat} {fn : Value} {f : Nat -> EffX} {a : Option Addr}
theorem HeapM.cellE {w:World} {g:Nat} (h:HeapM w b o B 147 7 (effC loc) fn f n (some ⟨g,0,none⟩) cap) {i:Nat} (hi:i < n):EffAt w g (i * 7) loc (f i):=
 ⟨h.at hi (j:=0) (by omega),h.at hi (j:=1) (by omega),h.at hi (j:=2) (by omega),h.at hi (j:=3) (by omega),h.at hi (j:=4) (by omega),h.at hi (j:=5) (by omega),h.at hi (j:=6) (by omega)⟩
theorem HeapM.there {w:World} {g:Nat} (h:HeapM w b o B 147 7 (effC loc) fn f n (some ⟨g,0,none⟩) cap) {i:Nat} (hi:i < n):w.there g (i * 7) 7∧RowT w g 147 (cap * 7):=by
 rcases h.row.2 with ⟨e,_⟩ | ⟨g',cap',cur,e,_,hg,hnc,_,hcs,_⟩
 ·cases e
 ·injection e with e1 e2 e3
  injection e1 with e1
  injection e1 with e1
  subst e1 e3
  have hr:RowT w g 147 (cap * 7):= ⟨cur,hg,hcs⟩
  exact ⟨hr.row.there (o:=i * 7) (m:=7) (by omega),hr⟩
def OkE (loc:ByteArray->Nat) (x:EffX) (u:World):Prop:=loc x.name < u.heap.size∧u.cell? ⟨loc x.name,0,none⟩=some (.string x.name)
theorem endsEarlier_any :AheadM 67 (effV loc) aheadE (OkE loc):=by
 intro x y w hx hy
 obtain ⟨W1,hW1⟩: ∃W1,W1= (w.alloc (.cells #[.int .i64 (x).at',.int .i64 (x).worker,.string (x).name,.pointer (some ⟨loc (x).name,0,none⟩),.int .i64 (x).fin,.int .i64 (x).place,.int .i64 (x).cause] 147)).alloc (.cells #[.int .i64 (y).at',.int .i64 (y).worker,.string (y).name,.pointer (some ⟨loc (y).name,0,none⟩),.int .i64 (y).fin,.int .i64 (y).place,.int .i64 (y).cause] 147):= ⟨_,rfl⟩
 have k1:K_ w W1:=by rw [hW1];exact ((K_.refl w).alloc _).alloc _
 have hEx:EffAt W1 w.heap.size 0 loc x:=by rw [hW1];exact (EffAt.new w x).cells (fun j=> ((K_.refl _).alloc _).cell (by simp))
 have hEy:EffAt W1 (w.heap.size+1) 0 loc y:=by have:=EffAt.new (loc:=loc) (w.alloc (.cells #[.int .i64 (x).at',.int .i64 (x).worker,.string (x).name,.pointer (some ⟨loc (x).name,0,none⟩),.int .i64 (x).fin,.int .i64 (x).place,.int .i64 (x).cause] 147)) y;rw [World.size_alloc] at this;rw [hW1];exact this
 have HX:=Kz ((k1.cell (o:=0) hx.1).trans hx.2)
 have HY:=Kz ((k1.cell (o:=0) hy.1).trans hy.2)
 have HK:=Kz k1
 obtain ⟨_,_,_,p1,q1,_,_⟩:=hEx
 obtain ⟨_,_,_,p2,q2,_,_⟩:=hEy
 simp only [Nat.zero_add] at p1 p2 q1 q2
 clear hx hy k1
 by_cases he:x.fin=y.fin
 ·have e0: (x.fin == y.fin)=true:=by simpa using he
  have HA:Hid (aheadE x y=Op.bytesLess x.name.toList y.name.toList):=by show _=_;unfold aheadE;rw [if_pos he]
  clear he
  unfold effV
  go_enter Tryz.func67,Tryz.ntmps67
  go_upto_region 1 with fail
  rw [<-hW1]
  clear hW1
  go_wp2_with fail
  refine (namedLess_any W1 HX.out HY.out).mono ?_
  rintro e w1 ⟨rfl,k1⟩
  go_wp2
  go_ret
  exact ⟨by rw [HA.out];rfl,HK.out.trans k1⟩
 ·have e0: (x.fin == y.fin)=false:=by simpa using he
  have HA:Hid (aheadE x y=decide (x.fin < y.fin)):=by show _=_;unfold aheadE;rw [if_neg he]
  clear he
  unfold effV
  go_enter Tryz.func67,Tryz.ntmps67
  go_upto_region 1 with fail
  rw [<-hW1]
  clear hW1
  go_wp2
  go_ret
  exact ⟨by rw [HA.out];rfl,HK.out⟩
theorem emptyE_any (w:World) (h:HeapM w b o B 147 7 (effC loc) fn f n a cap):
  Calls Tryz.prog 74 #[.pointer (some ⟨b,o,none⟩)] w fun e w'=> e= .returned (.bool (decide (n=0)))∧w'=w:=by
 have c0:=h.c0
 have hn: ((n:Int) == 0)=decide (n=0):=by
  by_cases e:n=0
  ·subst e;rfl
  ·rw [decide_eq_false e];simpa using e
 go_enter Tryz.func74,Tryz.ntmps74
 go_wp2
 go_ret
 exact ⟨rfl,rfl⟩
theorem firstE_any (w:World) (h:HeapM w b o B 147 7 (effC loc) fn f n a cap) (hn:0 < n):
  Calls Tryz.prog 75 #[.pointer (some ⟨b,o,none⟩)] w fun e w'=> e= .returned (effV loc (f 0))∧K_ w w':=by
 obtain ⟨g,rfl,hgl,hbg,hnc⟩:=h.pos hn
 have c0:=h.c0
 have hbl:=h.lt
 obtain ⟨a1,a2,a3,a4,a5,a6,a7⟩:=h.cellE hn
 simp only [Nat.zero_mul,Nat.zero_add] at a1 a2 a3 a4 a5 a6 a7
 have hi: (0:Int) < (n:Int):=by omega
 have HRg:=Kz (Xz w #[.int .i64 (f 0).at',.int .i64 (f 0).worker,.string (f 0).name,.pointer (some ⟨loc (f 0).name,0,none⟩),.int .i64 (f 0).fin,.int .i64 (f 0).place,.int .i64 (f 0).cause] 147)
 have HKf:=Kz ((K_.refl w).alloc (.cells #[.int .i64 (f 0).at',.int .i64 (f 0).worker,.string (f 0).name,.pointer (some ⟨loc (f 0).name,0,none⟩),.int .i64 (f 0).fin,.int .i64 (f 0).place,.int .i64 (f 0).cause] 147))
 go_enter Tryz.func75,Tryz.ntmps75
 go_wp2
 exact X_ [.int .i64 (f 0).at',.int .i64 (f 0).worker,.string (f 0).name,.pointer (some ⟨loc (f 0).name,0,none⟩),.int .i64 (f 0).fin,.int .i64 (f 0).place,.int .i64 (f 0).cause] _ Tryz.results75 rfl HRg.out Tryz.underlying147 rfl Tryz.sizeEff rfl ⟨rfl,HKf.out⟩
theorem swapE_any (w:World) (h:HeapM w b o B 147 7 (effC loc) fn f n a cap) {i j:Nat} (hi:i < n) (hj:j < n) (hn:n<=1000000):
  Calls Tryz.prog 152 #[.pointer (some ⟨b,o,none⟩),.int .i64 (i:Int),.int .i64 (j:Int)] w fun e w'=> e= .returned (.tuple #[])∧HeapM w' b o B 147 7 (effC loc) fn (swp f i j) n a cap∧But (fun x=> (Value.slice a n cap).ownBlock=some x) w w':=by
 obtain ⟨g,rfl,hgl,hbg,hnc⟩:=h.pos (by omega)
 have HH:Hid (∀u,K_ w u->(u.cell? ⟨b,o,none⟩=some (.slice (some ⟨g,0,none⟩) n cap)∧EffAt u g (i * 7) loc (f i)∧EffAt u g (j * 7) loc (f j))):=fun u k=> ⟨(k.cell h.lt).trans h.c0,(h.cellE hi).cells (fun _=> k.cell hgl),(h.cellE hj).cells (fun _=> k.cell hgl)⟩
 have hi': (i:Int) < (n:Int):=by omega
 have hj': (j:Int) < (n:Int):=by omega
 obtain ⟨wd,hwd⟩: ∃wd,wd=w.drew:= ⟨_,rfl⟩
 have kd:K_ w wd:=by rw [hwd];exact (K_.refl w).drew
 have HWD:=Kz hwd
 clear hwd
 have hd:=h.kept kd
 obtain ⟨w1,hw1⟩: ∃w1,w1=wd.setCells g (i * 7) (effC loc (f j)):= ⟨_,rfl⟩
 have h1:HeapM w1 b o B 147 7 (effC loc) fn (fun k=> if k=i then f j else f k) n (some ⟨g,0,none⟩) cap:=by rw [hw1];exact hd.set hi (f j)
 have HT1:=Kz (hd.there hi).1
 have HT2:=Kz (h1.there hj).1
 have HFin:Hid (HeapM (w1.setCells g (j * 7) (effC loc (f i))) b o B 147 7 (effC loc) fn (swp f i j) n (some ⟨g,0,none⟩) cap∧But (fun x=> (Value.slice (some ⟨g,0,none⟩) n cap).ownBlock=some x) w (w1.setCells g (j * 7) (effC loc (f i)))):=by
  rw [hw1]
  exact ⟨hd.swap hi hj,But.setCells (S:=fun x=> (Value.slice (some ⟨g,0,none⟩) n cap).ownBlock=some x) rfl _ _ (But.setCells (S:=fun x=> (Value.slice (some ⟨g,0,none⟩) n cap).ownBlock=some x) rfl _ _ (.of_kept kd))⟩
 have HW1:Hid (w1=wd.setCells g (i * 7) #[.int .i64 (f j).at',.int .i64 (f j).worker,.string (f j).name,.pointer (some ⟨loc (f j).name,0,none⟩),.int .i64 (f j).fin,.int .i64 (f j).place,.int .i64 (f j).cause].toList):=hw1
 clear h hd h1 kd hw1
 go_enter Tryz.func152,Tryz.ntmps152
 go_wp2
 refine UpZ.region (by kernel_rfl) (fun u=> u.cell? ⟨b,o,none⟩=some (.slice (some ⟨g,0,none⟩) n cap)∧EffAt u g (i * 7) loc (f i)∧EffAt u g (j * 7) loc (f j)) [25,27] (HH.out _ (K_.refl w).drew) (fun Z_=> ?_)
 rw [<-HWD.out] at Z_⊢
 refine UpZ.take 0 [1,2,3,24,25,26,27] (v:= ?_) (by (simp only [List.getElem?_toArray,List.getElem?_cons_zero];rfl)) (by kernel_rfl) (by kernel_rfl) (by kernel_rfl) (by kernel_rfl) (by exact fun _ _ _ h=> h) (Or.inl ⟨by rfl, ?_⟩) Z_ ?_
 rotate_left
 ·intro u hu
  obtain ⟨hu1,⟨a1,a2,a3,a4,a5,a6,a7⟩,⟨b1,b2,b3,b4,b5,b6,b7⟩⟩:=hu
  go_simp
  try with_reducible rfl
 try simp only [Act.put,upA,upB,upC]
 refine UpZ.take 1 [2,3,24,25,26,27] (v:= ?_) (by (simp only [List.getElem?_toArray,List.getElem?_cons_succ,List.getElem?_cons_zero];rfl)) (by kernel_rfl) (by kernel_rfl) (by kernel_rfl) (by kernel_rfl) (by exact fun _ _ _ h=> h) (Or.inl ⟨by rfl, ?_⟩) Z_ ?_
 rotate_left
 ·intro u hu
  obtain ⟨hu1,⟨a1,a2,a3,a4,a5,a6,a7⟩,⟨b1,b2,b3,b4,b5,b6,b7⟩⟩:=hu
  go_simp
  try with_reducible rfl
 try simp only [Act.put,upA,upB,upC]
 refine UpZ.take 2 [3,24,25,26,27] (v:= ?_) (by (simp only [List.getElem?_toArray,List.getElem?_cons_succ,List.getElem?_cons_zero];rfl)) (by kernel_rfl) (by kernel_rfl) (by kernel_rfl) (by kernel_rfl) (by exact fun _ _ _ h=> h) (Or.inl ⟨by rfl, ?_⟩) Z_ ?_
 rotate_left
 ·intro u hu
  obtain ⟨hu1,⟨a1,a2,a3,a4,a5,a6,a7⟩,⟨b1,b2,b3,b4,b5,b6,b7⟩⟩:=hu
  go_simp
  try with_reducible rfl
 try simp only [Act.put,upA,upB,upC]
 refine UpZ.take 3 [24,25,26,27] (v:= ?_) (by (simp only [List.getElem?_toArray,List.getElem?_cons_succ,List.getElem?_cons_zero];rfl)) (by kernel_rfl) (by kernel_rfl) (by kernel_rfl) (by kernel_rfl) (by exact fun _ _ _ h=> h) (Or.inl ⟨by rfl, ?_⟩) Z_ ?_
 rotate_left
 ·intro u hu
  obtain ⟨hu1,⟨a1,a2,a3,a4,a5,a6,a7⟩,⟨b1,b2,b3,b4,b5,b6,b7⟩⟩:=hu
  go_simp
  try with_reducible rfl
 try simp only [Act.put,upA,upB,upC]
 refine UpZ.take 4 [24,25,26,27] (v:= ?_) (by (simp only [List.getElem?_toArray,List.getElem?_cons_succ,List.getElem?_cons_zero];rfl)) (by kernel_rfl) (by kernel_rfl) (by kernel_rfl) (by kernel_rfl) (by exact fun _ _ _ h=> h) (Or.inl ⟨by rfl, ?_⟩) Z_ ?_
 rotate_left
 ·intro u hu
  obtain ⟨hu1,⟨a1,a2,a3,a4,a5,a6,a7⟩,⟨b1,b2,b3,b4,b5,b6,b7⟩⟩:=hu
  go_simp
  try with_reducible rfl
 try simp only [Act.put,upA,upB,upC]
 refine UpZ.take 5 [6,7,8,24,25,26,27] (v:= ?_) (by (simp only [List.getElem?_toArray,List.getElem?_cons_succ,List.getElem?_cons_zero];rfl)) (by kernel_rfl) (by kernel_rfl) (by kernel_rfl) (by kernel_rfl) (by exact fun _ _ _ h=> h) (Or.inl ⟨by rfl, ?_⟩) Z_ ?_
 rotate_left
 ·intro u hu
  obtain ⟨hu1,⟨a1,a2,a3,a4,a5,a6,a7⟩,⟨b1,b2,b3,b4,b5,b6,b7⟩⟩:=hu
  go_simp
  try with_reducible rfl
 try simp only [Act.put,upA,upB,upC]
 refine UpZ.take 6 [7,8,24,25,26,27] (v:= ?_) (by (simp only [List.getElem?_toArray,List.getElem?_cons_succ,List.getElem?_cons_zero];rfl)) (by kernel_rfl) (by kernel_rfl) (by kernel_rfl) (by kernel_rfl) (by exact fun _ _ _ h=> h) (Or.inl ⟨by rfl, ?_⟩) Z_ ?_
 rotate_left
 ·intro u hu
  obtain ⟨hu1,⟨a1,a2,a3,a4,a5,a6,a7⟩,⟨b1,b2,b3,b4,b5,b6,b7⟩⟩:=hu
  go_simp
  try with_reducible rfl
 try simp only [Act.put,upA,upB,upC]
 refine UpZ.take 7 [8,24,25,26,27] (v:= ?_) (by (simp only [List.getElem?_toArray,List.getElem?_cons_succ,List.getElem?_cons_zero];rfl)) (by kernel_rfl) (by kernel_rfl) (by kernel_rfl) (by kernel_rfl) (by exact fun _ _ _ h=> h) (Or.inl ⟨by rfl, ?_⟩) Z_ ?_
 rotate_left
 ·intro u hu
  obtain ⟨hu1,⟨a1,a2,a3,a4,a5,a6,a7⟩,⟨b1,b2,b3,b4,b5,b6,b7⟩⟩:=hu
  go_simp
  try with_reducible rfl
 try simp only [Act.put,upA,upB,upC]
 refine UpZ.take 8 [24,25,26,27] (v:= ?_) (by (simp only [List.getElem?_toArray,List.getElem?_cons_succ,List.getElem?_cons_zero];rfl)) (by kernel_rfl) (by kernel_rfl) (by kernel_rfl) (by kernel_rfl) (by exact fun _ _ _ h=> h) (Or.inl ⟨by rfl, ?_⟩) Z_ ?_
 rotate_left
 ·intro u hu
  obtain ⟨hu1,⟨a1,a2,a3,a4,a5,a6,a7⟩,⟨b1,b2,b3,b4,b5,b6,b7⟩⟩:=hu
  go_simp
  try with_reducible rfl
 try simp only [Act.put,upA,upB,upC]
 refine UpZ.pure 9 (v:= ?_) (by (simp only [List.getElem?_toArray,List.getElem?_cons_succ,List.getElem?_cons_zero];rfl)) (by kernel_rfl) (by kernel_rfl) (by kernel_rfl) (by exact fun _ _ _ h=> h) (Or.inl ⟨by rfl, ?_⟩) ?_
 rotate_left
 ·intro u hu
  go_simp
  try with_reducible rfl
 try simp only [Act.put,upA,upB,upC]
 refine UpZ.take 10 [11,12,13,15,16,24,25,26,27] (v:= ?_) (by (simp only [List.getElem?_toArray,List.getElem?_cons_succ,List.getElem?_cons_zero];rfl)) (by kernel_rfl) (by kernel_rfl) (by kernel_rfl) (by kernel_rfl) (by exact fun _ _ _ h=> h) (Or.inl ⟨by rfl, ?_⟩) Z_ ?_
 rotate_left
 ·intro u hu
  obtain ⟨hu1,⟨a1,a2,a3,a4,a5,a6,a7⟩,⟨b1,b2,b3,b4,b5,b6,b7⟩⟩:=hu
  go_simp
  try with_reducible rfl
 try simp only [Act.put,upA,upB,upC]
 refine UpZ.take 11 [12,13,15,16,24,25,26,27] (v:= ?_) (by (simp only [List.getElem?_toArray,List.getElem?_cons_succ,List.getElem?_cons_zero];rfl)) (by kernel_rfl) (by kernel_rfl) (by kernel_rfl) (by kernel_rfl) (by exact fun _ _ _ h=> h) (Or.inl ⟨by rfl, ?_⟩) Z_ ?_
 rotate_left
 ·intro u hu
  obtain ⟨hu1,⟨a1,a2,a3,a4,a5,a6,a7⟩,⟨b1,b2,b3,b4,b5,b6,b7⟩⟩:=hu
  go_simp
  try with_reducible rfl
 try simp only [Act.put,upA,upB,upC]
 refine UpZ.take 12 [13,15,16,24,25,26,27] (v:= ?_) (by (simp only [List.getElem?_toArray,List.getElem?_cons_succ,List.getElem?_cons_zero];rfl)) (by kernel_rfl) (by kernel_rfl) (by kernel_rfl) (by kernel_rfl) (by exact fun _ _ _ h=> h) (Or.inl ⟨by rfl, ?_⟩) Z_ ?_
 rotate_left
 ·intro u hu
  obtain ⟨hu1,⟨a1,a2,a3,a4,a5,a6,a7⟩,⟨b1,b2,b3,b4,b5,b6,b7⟩⟩:=hu
  go_simp
  try with_reducible rfl
 try simp only [Act.put,upA,upB,upC]
 refine UpZ.take 13 [15,16,24,25,26,27] (v:= ?_) (by (simp only [List.getElem?_toArray,List.getElem?_cons_succ,List.getElem?_cons_zero];rfl)) (by kernel_rfl) (by kernel_rfl) (by kernel_rfl) (by kernel_rfl) (by exact fun _ _ _ h=> h) (Or.inl ⟨by rfl, ?_⟩) Z_ ?_
 rotate_left
 ·intro u hu
  obtain ⟨hu1,⟨a1,a2,a3,a4,a5,a6,a7⟩,⟨b1,b2,b3,b4,b5,b6,b7⟩⟩:=hu
  go_simp
  try with_reducible rfl
 try simp only [Act.put,upA,upB,upC]
 refine UpZ.take 14 [15,16,24,25,26,27] (v:= ?_) (by (simp only [List.getElem?_toArray,List.getElem?_cons_succ,List.getElem?_cons_zero];rfl)) (by kernel_rfl) (by kernel_rfl) (by kernel_rfl) (by kernel_rfl) (by exact fun _ _ _ h=> h) (Or.inl ⟨by rfl, ?_⟩) Z_ ?_
 rotate_left
 ·intro u hu
  obtain ⟨hu1,⟨a1,a2,a3,a4,a5,a6,a7⟩,⟨b1,b2,b3,b4,b5,b6,b7⟩⟩:=hu
  go_simp
  try with_reducible rfl
 try simp only [Act.put,upA,upB,upC]
 refine UpZ.take 15 [16,24,25,26,27] (v:= ?_) (by (simp only [List.getElem?_toArray,List.getElem?_cons_succ,List.getElem?_cons_zero];rfl)) (by kernel_rfl) (by kernel_rfl) (by kernel_rfl) (by kernel_rfl) (by exact fun _ _ _ h=> h) (Or.inl ⟨by rfl, ?_⟩) Z_ ?_
 rotate_left
 ·intro u hu
  obtain ⟨hu1,⟨a1,a2,a3,a4,a5,a6,a7⟩,⟨b1,b2,b3,b4,b5,b6,b7⟩⟩:=hu
  go_simp
  try with_reducible rfl
 try simp only [Act.put,upA,upB,upC]
 refine UpZ.take 16 [24,25,26,27] (v:= ?_) (by (simp only [List.getElem?_toArray,List.getElem?_cons_succ,List.getElem?_cons_zero];rfl)) (by kernel_rfl) (by kernel_rfl) (by kernel_rfl) (by kernel_rfl) (by exact fun _ _ _ h=> h) (Or.inl ⟨by rfl, ?_⟩) Z_ ?_
 rotate_left
 ·intro u hu
  obtain ⟨hu1,⟨a1,a2,a3,a4,a5,a6,a7⟩,⟨b1,b2,b3,b4,b5,b6,b7⟩⟩:=hu
  go_simp
  try with_reducible rfl
 try simp only [Act.put,upA,upB,upC]
 refine UpZ.take 17 [18,19,20,22,23,24,25,26,27] (v:= ?_) (by (simp only [List.getElem?_toArray,List.getElem?_cons_succ,List.getElem?_cons_zero];rfl)) (by kernel_rfl) (by kernel_rfl) (by kernel_rfl) (by kernel_rfl) (by exact fun _ _ _ h=> h) (Or.inl ⟨by rfl, ?_⟩) Z_ ?_
 rotate_left
 ·intro u hu
  obtain ⟨hu1,⟨a1,a2,a3,a4,a5,a6,a7⟩,⟨b1,b2,b3,b4,b5,b6,b7⟩⟩:=hu
  go_simp
  try with_reducible rfl
 try simp only [Act.put,upA,upB,upC]
 refine UpZ.take 18 [19,20,22,23,24,25,26,27] (v:= ?_) (by (simp only [List.getElem?_toArray,List.getElem?_cons_succ,List.getElem?_cons_zero];rfl)) (by kernel_rfl) (by kernel_rfl) (by kernel_rfl) (by kernel_rfl) (by exact fun _ _ _ h=> h) (Or.inl ⟨by rfl, ?_⟩) Z_ ?_
 rotate_left
 ·intro u hu
  obtain ⟨hu1,⟨a1,a2,a3,a4,a5,a6,a7⟩,⟨b1,b2,b3,b4,b5,b6,b7⟩⟩:=hu
  go_simp
  try with_reducible rfl
 try simp only [Act.put,upA,upB,upC]
 refine UpZ.take 19 [20,22,23,24,25,26,27] (v:= ?_) (by (simp only [List.getElem?_toArray,List.getElem?_cons_succ,List.getElem?_cons_zero];rfl)) (by kernel_rfl) (by kernel_rfl) (by kernel_rfl) (by kernel_rfl) (by exact fun _ _ _ h=> h) (Or.inl ⟨by rfl, ?_⟩) Z_ ?_
 rotate_left
 ·intro u hu
  obtain ⟨hu1,⟨a1,a2,a3,a4,a5,a6,a7⟩,⟨b1,b2,b3,b4,b5,b6,b7⟩⟩:=hu
  go_simp
  try with_reducible rfl
 try simp only [Act.put,upA,upB,upC]
 refine UpZ.take 20 [22,23,24,25,26,27] (v:= ?_) (by (simp only [List.getElem?_toArray,List.getElem?_cons_succ,List.getElem?_cons_zero];rfl)) (by kernel_rfl) (by kernel_rfl) (by kernel_rfl) (by kernel_rfl) (by exact fun _ _ _ h=> h) (Or.inl ⟨by rfl, ?_⟩) Z_ ?_
 rotate_left
 ·intro u hu
  obtain ⟨hu1,⟨a1,a2,a3,a4,a5,a6,a7⟩,⟨b1,b2,b3,b4,b5,b6,b7⟩⟩:=hu
  go_simp
  try with_reducible rfl
 try simp only [Act.put,upA,upB,upC]
 refine UpZ.take 21 [22,23,24,25,26,27] (v:= ?_) (by (simp only [List.getElem?_toArray,List.getElem?_cons_succ,List.getElem?_cons_zero];rfl)) (by kernel_rfl) (by kernel_rfl) (by kernel_rfl) (by kernel_rfl) (by exact fun _ _ _ h=> h) (Or.inl ⟨by rfl, ?_⟩) Z_ ?_
 rotate_left
 ·intro u hu
  obtain ⟨hu1,⟨a1,a2,a3,a4,a5,a6,a7⟩,⟨b1,b2,b3,b4,b5,b6,b7⟩⟩:=hu
  go_simp
  try with_reducible rfl
 try simp only [Act.put,upA,upB,upC]
 refine UpZ.take 22 [23,24,25,26,27] (v:= ?_) (by (simp only [List.getElem?_toArray,List.getElem?_cons_succ,List.getElem?_cons_zero];rfl)) (by kernel_rfl) (by kernel_rfl) (by kernel_rfl) (by kernel_rfl) (by exact fun _ _ _ h=> h) (Or.inl ⟨by rfl, ?_⟩) Z_ ?_
 rotate_left
 ·intro u hu
  obtain ⟨hu1,⟨a1,a2,a3,a4,a5,a6,a7⟩,⟨b1,b2,b3,b4,b5,b6,b7⟩⟩:=hu
  go_simp
  try with_reducible rfl
 try simp only [Act.put,upA,upB,upC]
 refine UpZ.take 23 [24,25,26,27] (v:= ?_) (by (simp only [List.getElem?_toArray,List.getElem?_cons_succ,List.getElem?_cons_zero];rfl)) (by kernel_rfl) (by kernel_rfl) (by kernel_rfl) (by kernel_rfl) (by exact fun _ _ _ h=> h) (Or.inl ⟨by rfl, ?_⟩) Z_ ?_
 rotate_left
 ·intro u hu
  obtain ⟨hu1,⟨a1,a2,a3,a4,a5,a6,a7⟩,⟨b1,b2,b3,b4,b5,b6,b7⟩⟩:=hu
  go_simp
  try with_reducible rfl
 try simp only [Act.put,upA,upB,upC]
 refine UpZ.take 24 [25,26,27] (v:= ?_) (by (simp only [List.getElem?_toArray,List.getElem?_cons_succ,List.getElem?_cons_zero];rfl)) (by kernel_rfl) (by kernel_rfl) (by kernel_rfl) (by kernel_rfl) (by exact fun _ _ _ h=> h) (Or.inl ⟨by rfl, ?_⟩) Z_ ?_
 rotate_left
 ·intro u hu
  obtain ⟨hu1,⟨a1,a2,a3,a4,a5,a6,a7⟩,⟨b1,b2,b3,b4,b5,b6,b7⟩⟩:=hu
  go_simp
  try with_reducible rfl
 try simp only [Act.put,upA,upB,upC]
 refine UpZ.next 25 (by kernel_rfl) (by (simp only [List.getElem?_toArray,List.getElem?_cons_succ,List.getElem?_cons_zero];rfl)) (fun K hK=> ?_)
 rw [if_pos (by rfl)]
 refine wp_store_mid 147 _ _ rfl g (i * 7) #[.int .i64 (f j).at',.int .i64 (f j).worker,.string (f j).name,.pointer (some ⟨loc (f j).name,0,none⟩),.int .i64 (f j).fin,.int .i64 (f j).place,.int .i64 (f j).cause] (by rfl) (by rfl) HT1.out (by kernel_rfl) (eff_one _) ?_
 rw [<-HW1.out]
 refine hK.out _ _ (fun h=> absurd (by decide) h) ?_
 clear hK K
 try simp only [Act.put,upA,upB,upC]
 refine UpZ.pure 26 (v:= ?_) (by (simp only [List.getElem?_toArray,List.getElem?_cons_succ,List.getElem?_cons_zero];rfl)) (by kernel_rfl) (by kernel_rfl) (by kernel_rfl) (by exact fun _ _ _ h=> h) (Or.inl ⟨by rfl, ?_⟩) ?_
 rotate_left
 ·intro u hu
  go_simp
  try with_reducible rfl
 try simp only [Act.put,upA,upB,upC]
 refine UpZ.next 27 (by kernel_rfl) (by (simp only [List.getElem?_toArray,List.getElem?_cons_succ,List.getElem?_cons_zero];rfl)) (fun K hK=> ?_)
 rw [if_pos (by rfl)]
 refine wp_store_mid 147 _ _ rfl g (j * 7) #[.int .i64 (f i).at',.int .i64 (f i).worker,.string (f i).name,.pointer (some ⟨loc (f i).name,0,none⟩),.int .i64 (f i).fin,.int .i64 (f i).place,.int .i64 (f i).cause] (by rfl) (by rfl) HT2.out (by kernel_rfl) (eff_one _) ?_
 refine hK.out _ _ (fun h=> absurd (by decide) h) ?_
 clear hK K
 try simp only [Act.put,upA,upB,upC]
 refine UpZ.done (by kernel_rfl) ?_
 go_wp2
 go_end0
 exact ⟨rfl,HFin.out.1,HFin.out.2⟩
def LookE (loc:ByteArray->Nat) (b o g n cap:Nat) (f:Nat->EffX) (q p:Nat) (u:World):Prop:=u.cell? ⟨b,o+1,none⟩=some (.func (.func 67) #[] #[])∧u.cell? ⟨b,o,none⟩=some (.slice (some ⟨g,0,none⟩) n cap)∧EffAt u g (q * 7) loc (f q)∧EffAt u g (p * 7) loc (f p)
theorem leadE_any (w:World) (h:HeapM w b o B 147 7 (effC loc) (.func (.func 67) #[] #[]) f n a cap) (hok: ∀i,i < n->∀u,K_ w u->OkE loc (f i) u) {k:Nat} (hk:k<=n) (hn:n<=1000000):
  Calls Tryz.prog 153 #[.pointer (some ⟨b,o,none⟩),.int .i64 (k:Int)] w fun e w'=> e= .returned (.int .i64 (leadF aheadE f n k:Nat))∧K_ w w':=by
 have HM:=Kz h
 have HOk:=Kz hok
 clear h hok
 go_enter Tryz.func153,Tryz.ntmps153
 go_wp2
 go_loopw [5,6] (fun x y wr=> ∃p q:Nat,x= .int .i64 (p:Int)∧y= .int .i64 (q:Int)∧Hid (LedAtH aheadE f n k q p)∧Hid (K_ w wr)) (fun _ y _=> 2 * k+3 - (intOf y).toNat)
 case atStart=> exact ⟨k,2 * k+1,rfl,by go_num,.inl ⟨rfl,rfl⟩,K_.refl w⟩
 case round=>
  obtain ⟨p,q,rfl,rfl,HL,HKr⟩:=hrel
  have c0:= (HM.out.kept HKr.out).c0
  by_cases hc:q<=2 * k+2∧q < n
  ·have hq1: (q:Int)<=2 * (k:Int)+2:=by omega
   have hq2: (q:Int) < (n:Int):=by omega
   obtain ⟨g,rfl,hgl,hbg,hnc⟩:=HM.out.pos (by omega)
   have hpn:p < n:=by
    rcases HL.out with ⟨h1,h2⟩ | ⟨h1,h2⟩ | ⟨h1,h2⟩
    ·omega
    ·rw [h2];unfold lead1;split <;> omega
    ·omega
   have hp1: (p:Int) < (n:Int):=by omega
   have HH:Hid (∀u,K_ w u->LookE loc b o g n cap f q p u):=fun u k=> ⟨((HM.out.kept k)).c1,((HM.out.kept k)).c0,(HM.out.kept k).cellE hc.2,(HM.out.kept k).cellE hpn⟩
   go_wp2
   refine Qx.region (by kernel_rfl) _ 18 (HH.out _ (HKr.out.drew)) (fun Z_=> ?_)
   refine Qx.take 0 [1,2,3,18] (v:= ?_) (by (simp only [List.getElem?_toArray,List.getElem?_cons_zero];rfl)) (by kernel_rfl) (by kernel_rfl) (by kernel_rfl) (by kernel_rfl) (by exact fun _ _ _ h=> h) (Or.inl ⟨by rfl, ?_⟩) Z_ ?_
   rotate_left
   ·intro u hu
    obtain ⟨hu1,hu2,⟨a1,a2,a3,a4,a5,a6,a7⟩,⟨b1,b2,b3,b4,b5,b6,b7⟩⟩:=hu
    go_simp
    try with_reducible rfl
   try simp only [Act.put,upA,upB,upC]
   refine Qx.take 1 [2,3,18] (v:= ?_) (by (simp only [List.getElem?_toArray,List.getElem?_cons_succ,List.getElem?_cons_zero];rfl)) (by kernel_rfl) (by kernel_rfl) (by kernel_rfl) (by kernel_rfl) (by exact fun _ _ _ h=> h) (Or.inl ⟨by rfl, ?_⟩) Z_ ?_
   rotate_left
   ·intro u hu
    obtain ⟨hu1,hu2,⟨a1,a2,a3,a4,a5,a6,a7⟩,⟨b1,b2,b3,b4,b5,b6,b7⟩⟩:=hu
    go_simp
    try with_reducible rfl
   try simp only [Act.put,upA,upB,upC]
   refine Qx.take 2 [3,18] (v:= ?_) (by (simp only [List.getElem?_toArray,List.getElem?_cons_succ,List.getElem?_cons_zero];rfl)) (by kernel_rfl) (by kernel_rfl) (by kernel_rfl) (by kernel_rfl) (by exact fun _ _ _ h=> h) (Or.inl ⟨by rfl, ?_⟩) Z_ ?_
   rotate_left
   ·intro u hu
    obtain ⟨hu1,hu2,⟨a1,a2,a3,a4,a5,a6,a7⟩,⟨b1,b2,b3,b4,b5,b6,b7⟩⟩:=hu
    go_simp
    try with_reducible rfl
   try simp only [Act.put,upA,upB,upC]
   refine Qx.take 3 [18] (v:= ?_) (by (simp only [List.getElem?_toArray,List.getElem?_cons_succ,List.getElem?_cons_zero];rfl)) (by kernel_rfl) (by kernel_rfl) (by kernel_rfl) (by kernel_rfl) (by exact fun _ _ _ h=> h) (Or.inl ⟨by rfl, ?_⟩) Z_ ?_
   rotate_left
   ·intro u hu
    obtain ⟨hu1,hu2,⟨a1,a2,a3,a4,a5,a6,a7⟩,⟨b1,b2,b3,b4,b5,b6,b7⟩⟩:=hu
    go_simp
    try with_reducible rfl
   try simp only [Act.put,upA,upB,upC]
   refine Qx.take 4 [5,6,7,9,10,18] (v:= ?_) (by (simp only [List.getElem?_toArray,List.getElem?_cons_succ,List.getElem?_cons_zero];rfl)) (by kernel_rfl) (by kernel_rfl) (by kernel_rfl) (by kernel_rfl) (by exact fun _ _ _ h=> h) (Or.inl ⟨by rfl, ?_⟩) Z_ ?_
   rotate_left
   ·intro u hu
    obtain ⟨hu1,hu2,⟨a1,a2,a3,a4,a5,a6,a7⟩,⟨b1,b2,b3,b4,b5,b6,b7⟩⟩:=hu
    go_simp
    try with_reducible rfl
   try simp only [Act.put,upA,upB,upC]
   refine Qx.take 5 [6,7,9,10,18] (v:= ?_) (by (simp only [List.getElem?_toArray,List.getElem?_cons_succ,List.getElem?_cons_zero];rfl)) (by kernel_rfl) (by kernel_rfl) (by kernel_rfl) (by kernel_rfl) (by exact fun _ _ _ h=> h) (Or.inl ⟨by rfl, ?_⟩) Z_ ?_
   rotate_left
   ·intro u hu
    obtain ⟨hu1,hu2,⟨a1,a2,a3,a4,a5,a6,a7⟩,⟨b1,b2,b3,b4,b5,b6,b7⟩⟩:=hu
    go_simp
    try with_reducible rfl
   try simp only [Act.put,upA,upB,upC]
   refine Qx.take 6 [7,9,10,18] (v:= ?_) (by (simp only [List.getElem?_toArray,List.getElem?_cons_succ,List.getElem?_cons_zero];rfl)) (by kernel_rfl) (by kernel_rfl) (by kernel_rfl) (by kernel_rfl) (by exact fun _ _ _ h=> h) (Or.inl ⟨by rfl, ?_⟩) Z_ ?_
   rotate_left
   ·intro u hu
    obtain ⟨hu1,hu2,⟨a1,a2,a3,a4,a5,a6,a7⟩,⟨b1,b2,b3,b4,b5,b6,b7⟩⟩:=hu
    go_simp
    try with_reducible rfl
   try simp only [Act.put,upA,upB,upC]
   refine Qx.take 7 [9,10,18] (v:= ?_) (by (simp only [List.getElem?_toArray,List.getElem?_cons_succ,List.getElem?_cons_zero];rfl)) (by kernel_rfl) (by kernel_rfl) (by kernel_rfl) (by kernel_rfl) (by exact fun _ _ _ h=> h) (Or.inl ⟨by rfl, ?_⟩) Z_ ?_
   rotate_left
   ·intro u hu
    obtain ⟨hu1,hu2,⟨a1,a2,a3,a4,a5,a6,a7⟩,⟨b1,b2,b3,b4,b5,b6,b7⟩⟩:=hu
    go_simp
    try with_reducible rfl
   try simp only [Act.put,upA,upB,upC]
   refine Qx.take 8 [9,10,18] (v:= ?_) (by (simp only [List.getElem?_toArray,List.getElem?_cons_succ,List.getElem?_cons_zero];rfl)) (by kernel_rfl) (by kernel_rfl) (by kernel_rfl) (by kernel_rfl) (by exact fun _ _ _ h=> h) (Or.inl ⟨by rfl, ?_⟩) Z_ ?_
   rotate_left
   ·intro u hu
    obtain ⟨hu1,hu2,⟨a1,a2,a3,a4,a5,a6,a7⟩,⟨b1,b2,b3,b4,b5,b6,b7⟩⟩:=hu
    go_simp
    try with_reducible rfl
   try simp only [Act.put,upA,upB,upC]
   refine Qx.take 9 [10,18] (v:= ?_) (by (simp only [List.getElem?_toArray,List.getElem?_cons_succ,List.getElem?_cons_zero];rfl)) (by kernel_rfl) (by kernel_rfl) (by kernel_rfl) (by kernel_rfl) (by exact fun _ _ _ h=> h) (Or.inl ⟨by rfl, ?_⟩) Z_ ?_
   rotate_left
   ·intro u hu
    obtain ⟨hu1,hu2,⟨a1,a2,a3,a4,a5,a6,a7⟩,⟨b1,b2,b3,b4,b5,b6,b7⟩⟩:=hu
    go_simp
    try with_reducible rfl
   try simp only [Act.put,upA,upB,upC]
   refine Qx.take 10 [18] (v:= ?_) (by (simp only [List.getElem?_toArray,List.getElem?_cons_succ,List.getElem?_cons_zero];rfl)) (by kernel_rfl) (by kernel_rfl) (by kernel_rfl) (by kernel_rfl) (by exact fun _ _ _ h=> h) (Or.inl ⟨by rfl, ?_⟩) Z_ ?_
   rotate_left
   ·intro u hu
    obtain ⟨hu1,hu2,⟨a1,a2,a3,a4,a5,a6,a7⟩,⟨b1,b2,b3,b4,b5,b6,b7⟩⟩:=hu
    go_simp
    try with_reducible rfl
   try simp only [Act.put,upA,upB,upC]
   refine Qx.take 11 [12,13,14,16,17,18] (v:= ?_) (by (simp only [List.getElem?_toArray,List.getElem?_cons_succ,List.getElem?_cons_zero];rfl)) (by kernel_rfl) (by kernel_rfl) (by kernel_rfl) (by kernel_rfl) (by exact fun _ _ _ h=> h) (Or.inl ⟨by rfl, ?_⟩) Z_ ?_
   rotate_left
   ·intro u hu
    obtain ⟨hu1,hu2,⟨a1,a2,a3,a4,a5,a6,a7⟩,⟨b1,b2,b3,b4,b5,b6,b7⟩⟩:=hu
    go_simp
    try with_reducible rfl
   try simp only [Act.put,upA,upB,upC]
   refine Qx.take 12 [13,14,16,17,18] (v:= ?_) (by (simp only [List.getElem?_toArray,List.getElem?_cons_succ,List.getElem?_cons_zero];rfl)) (by kernel_rfl) (by kernel_rfl) (by kernel_rfl) (by kernel_rfl) (by exact fun _ _ _ h=> h) (Or.inl ⟨by rfl, ?_⟩) Z_ ?_
   rotate_left
   ·intro u hu
    obtain ⟨hu1,hu2,⟨a1,a2,a3,a4,a5,a6,a7⟩,⟨b1,b2,b3,b4,b5,b6,b7⟩⟩:=hu
    go_simp
    try with_reducible rfl
   try simp only [Act.put,upA,upB,upC]
   refine Qx.take 13 [14,16,17,18] (v:= ?_) (by (simp only [List.getElem?_toArray,List.getElem?_cons_succ,List.getElem?_cons_zero];rfl)) (by kernel_rfl) (by kernel_rfl) (by kernel_rfl) (by kernel_rfl) (by exact fun _ _ _ h=> h) (Or.inl ⟨by rfl, ?_⟩) Z_ ?_
   rotate_left
   ·intro u hu
    obtain ⟨hu1,hu2,⟨a1,a2,a3,a4,a5,a6,a7⟩,⟨b1,b2,b3,b4,b5,b6,b7⟩⟩:=hu
    go_simp
    try with_reducible rfl
   try simp only [Act.put,upA,upB,upC]
   refine Qx.take 14 [16,17,18] (v:= ?_) (by (simp only [List.getElem?_toArray,List.getElem?_cons_succ,List.getElem?_cons_zero];rfl)) (by kernel_rfl) (by kernel_rfl) (by kernel_rfl) (by kernel_rfl) (by exact fun _ _ _ h=> h) (Or.inl ⟨by rfl, ?_⟩) Z_ ?_
   rotate_left
   ·intro u hu
    obtain ⟨hu1,hu2,⟨a1,a2,a3,a4,a5,a6,a7⟩,⟨b1,b2,b3,b4,b5,b6,b7⟩⟩:=hu
    go_simp
    try with_reducible rfl
   try simp only [Act.put,upA,upB,upC]
   refine Qx.take 15 [16,17,18] (v:= ?_) (by (simp only [List.getElem?_toArray,List.getElem?_cons_succ,List.getElem?_cons_zero];rfl)) (by kernel_rfl) (by kernel_rfl) (by kernel_rfl) (by kernel_rfl) (by exact fun _ _ _ h=> h) (Or.inl ⟨by rfl, ?_⟩) Z_ ?_
   rotate_left
   ·intro u hu
    obtain ⟨hu1,hu2,⟨a1,a2,a3,a4,a5,a6,a7⟩,⟨b1,b2,b3,b4,b5,b6,b7⟩⟩:=hu
    go_simp
    try with_reducible rfl
   try simp only [Act.put,upA,upB,upC]
   refine Qx.take 16 [17,18] (v:= ?_) (by (simp only [List.getElem?_toArray,List.getElem?_cons_succ,List.getElem?_cons_zero];rfl)) (by kernel_rfl) (by kernel_rfl) (by kernel_rfl) (by kernel_rfl) (by exact fun _ _ _ h=> h) (Or.inl ⟨by rfl, ?_⟩) Z_ ?_
   rotate_left
   ·intro u hu
    obtain ⟨hu1,hu2,⟨a1,a2,a3,a4,a5,a6,a7⟩,⟨b1,b2,b3,b4,b5,b6,b7⟩⟩:=hu
    go_simp
    try with_reducible rfl
   try simp only [Act.put,upA,upB,upC]
   refine Qx.take 17 [18] (v:= ?_) (by (simp only [List.getElem?_toArray,List.getElem?_cons_succ,List.getElem?_cons_zero];rfl)) (by kernel_rfl) (by kernel_rfl) (by kernel_rfl) (by kernel_rfl) (by exact fun _ _ _ h=> h) (Or.inl ⟨by rfl, ?_⟩) Z_ ?_
   rotate_left
   ·intro u hu
    obtain ⟨hu1,hu2,⟨a1,a2,a3,a4,a5,a6,a7⟩,⟨b1,b2,b3,b4,b5,b6,b7⟩⟩:=hu
    go_simp
    try with_reducible rfl
   try simp only [Act.put,upA,upB,upC]
   refine Qx.nx 18 (fun K hK=> ?_)
   rw [if_pos (by rfl)]
   go_simp
   refine (endsEarlier_any (loc:=loc) (f q) (f p) _ (HOk.out q (by omega) _ HKr.out.drew) (HOk.out p (by omega) _ HKr.out.drew)).mono ?_
   rintro e w8 ⟨rfl,k8⟩
   dsimp only
   have HK8:=Kz (HKr.out.drew.trans k8)
   refine hK.out _ _ (fun h=> absurd rfl h) ?_
   clear hK K
   try simp only [Act.put,upA,upB,upC]
   refine Qx.dn ?_
   cases hx:aheadE (f q) (f p)
   ·have HN:Hid (LedAtH aheadE f n k (q+1) p):=by
     rcases HL.out with ⟨h1,h2⟩ | ⟨h1,h2⟩ | ⟨h1,h2⟩
     ·exact .inr (.inl ⟨by omega,by unfold lead1;rw [if_neg (by rw [<-h1,<-h2,hx];simp)];exact h2⟩)
     ·exact .inr (.inr ⟨by omega,by unfold leadF;rw [if_neg (by rw [<-h1,<-h2,hx];simp)];exact h2⟩)
     ·omega
    go_wp2
    go_roundw
    case rel=> exact ⟨p,q+1,rfl,by go_num,HN,HK8⟩
    case measure=> simp [intOf];omega
   ·have HN:Hid (LedAtH aheadE f n k (q+1) q):=by
     rcases HL.out with ⟨h1,h2⟩ | ⟨h1,h2⟩ | ⟨h1,h2⟩
     ·exact .inr (.inl ⟨by omega,by unfold lead1;rw [if_pos ⟨by omega,by rw [<-h1,<-h2,hx]⟩];exact h1⟩)
     ·exact .inr (.inr ⟨by omega,by unfold leadF;rw [if_pos ⟨by omega,by rw [<-h1,<-h2,hx]⟩];exact h1⟩)
     ·omega
    go_wp2
    go_roundw
    case rel=> exact ⟨q,q+1,rfl,by go_num,HN,HK8⟩
    case measure=> simp [intOf];omega
  ·have hE:Hid (p=leadF aheadE f n k):=by
    show _=_
    rcases HL.out with ⟨h1,h2⟩ | ⟨h1,h2⟩ | ⟨h1,h2⟩
    ·unfold leadF lead1;rw [if_neg (by omega),if_neg (by omega)];exact h2
    ·unfold leadF;rw [if_neg (by omega)];exact h2
    ·exact h2
   by_cases hq:q<=2 * k+2
   ·have hq1: (q:Int)<=2 * (k:Int)+2:=by omega
    have hq2: ¬(q:Int) < (n:Int):=by omega
    go_wp2
    go_ret
    exact ⟨by rw [hE.out];rfl,HKr.out⟩
   ·have hq1: ¬(q:Int)<=2 * (k:Int)+2:=by omega
    go_wp2
    go_ret
    exact ⟨by rw [hE.out];rfl,HKr.out⟩
theorem putE_any (w:World) (h:HeapM w b o B 147 7 (effC loc) (.func (.func 67) #[] #[]) f n a cap) (x:EffX) (hok: ∀y u,(y=x∨MemH f n y)->But (fun z=> z=b∨(Value.slice a n cap).ownBlock=some z) w u->OkE loc y u) (hn:n < 1000000) (hB:B<=w.heap.size):
  Calls Tryz.prog 157 #[.pointer (some ⟨b,o,none⟩),effV loc x] w fun e w'=> e= .returned (.tuple #[])∧∃a' cap',HeapM w' b o B 147 7 (effC loc) (.func (.func 67) #[] #[]) (putF aheadE f n x) (n+1) a' cap'∧ToH w w' b o a n cap a' (n+1) cap':=by
 obtain ⟨ie,hi0,hi1,hi2,hi3⟩:=info_parts Tryz.infoEff
 have HM:=Kz h
 have HOk:=Kz hok
 have hbl:=h.lt
 obtain ⟨t0,m0,hr0,hm0⟩:=h.blk
 obtain ⟨W1,hW1⟩: ∃W1,W1=w.alloc (.cells #[.int .i64 (x).at',.int .i64 (x).worker,.string (x).name,.pointer (some ⟨loc (x).name,0,none⟩),.int .i64 (x).fin,.int .i64 (x).place,.int .i64 (x).cause] 147):= ⟨_,rfl⟩
 have k1:K_ w W1:=by rw [hW1];exact (K_.refl w).alloc _
 have hbx:EffAt W1 w.heap.size 0 loc x:=by rw [hW1];exact EffAt.new w x
 have hwl:w.heap.size < W1.heap.size:=by rw [hW1];simp
 have HS0:Hid (∀u,K_ W1 u->(u.cell? ⟨b,o,none⟩=some (.slice a n cap)∧EffAt u w.heap.size 0 loc x)):=fun u ku=> ⟨((k1.trans ku).cell hbl).trans h.c0,hbx.cells (fun _=> ku.cell hwl)⟩
 obtain ⟨wd,hwd⟩: ∃wd,wd=W1.drew:= ⟨_,rfl⟩
 have kd:K_ W1 wd:=by rw [hwd];exact (K_.refl W1).drew
 have HWD:=Kz hwd
 have kB:K_ W1 (wd.alloc (.cells #[.int .i64 (x).at',.int .i64 (x).worker,.string (x).name,.pointer (some ⟨loc (x).name,0,none⟩),.int .i64 (x).fin,.int .i64 (x).place,.int .i64 (x).cause] 147)):=kd.alloc _
 have HKB:=Kz kB
 have kwB:=k1.trans kB
 have HOw:=Kz (ownsRow_kept' h.row kwB)
 have HBx:Hid (∀j u,([.int .i64 (x).at',.int .i64 (x).worker,.string (x).name,.pointer (some ⟨loc (x).name,0,none⟩),.int .i64 (x).fin,.int .i64 (x).place,.int .i64 (x).cause]:List Value)[j]? =some u->(wd.alloc (.cells #[.int .i64 (x).at',.int .i64 (x).worker,.string (x).name,.pointer (some ⟨loc (x).name,0,none⟩),.int .i64 (x).fin,.int .i64 (x).place,.int .i64 (x).cause] 147)).cell? ((⟨wd.heap.size,0,none⟩:Addr).add j)=some u):=fun j u hj=> by rw [Addr.add_mid];exact Xz wd #[.int .i64 (x).at',.int .i64 (x).worker,.string (x).name,.pointer (some ⟨loc (x).name,0,none⟩),.int .i64 (x).fin,.int .i64 (x).place,.int .i64 (x).cause] 147 j u hj
 have HOne:Hid (∀u∈([.int .i64 (x).at',.int .i64 (x).worker,.string (x).name,.pointer (some ⟨loc (x).name,0,none⟩),.int .i64 (x).fin,.int .i64 (x).place,.int .i64 (x).cause]:List Value),u.oneCell'=true):=fun u hu=> h.one x u hu
 have HX1:Hid (n+1<=maxLen):=by show _<=_;unfold maxLen;omega
 have HX2:Hid ((n+1) * 64<=140737488355328):=by show _<=_;omega
 have HX3:Hid (B<=(wd.alloc (.cells #[.int .i64 (x).at',.int .i64 (x).worker,.string (x).name,.pointer (some ⟨loc (x).name,0,none⟩),.int .i64 (x).fin,.int .i64 (x).place,.int .i64 (x).cause] 147)).heap.size):=Nat.le_trans hB kwB.size
 have HAp:Hid (∀g1 cap1 (w1:World),w1.ownsRow B 147 7 (.slice (some ⟨g1,0,none⟩) (n+1) cap1) (n+1) (flatH (effC loc) f n++ [.int .i64 (x).at',.int .i64 (x).worker,.string (x).name,.pointer (some ⟨loc (x).name,0,none⟩),.int .i64 (x).fin,.int .i64 (x).place,.int .i64 (x).cause])->(wd.alloc (.cells #[.int .i64 (x).at',.int .i64 (x).worker,.string (x).name,.pointer (some ⟨loc (x).name,0,none⟩),.int .i64 (x).fin,.int .i64 (x).place,.int .i64 (x).cause] 147)).grownBy w1 (Value.slice a n cap).ownBlock->((Value.slice a n cap).ownBlock=some g1∨g1= (wd.alloc (.cells #[.int .i64 (x).at',.int .i64 (x).worker,.string (x).name,.pointer (some ⟨loc (x).name,0,none⟩),.int .i64 (x).fin,.int .i64 (x).place,.int .i64 (x).cause] 147)).heap.size)->
   (HeapM (w1.setCell ⟨b,o,none⟩ (.slice (some ⟨g1,0,none⟩) (n+1) cap1)) b o B 147 7 (effC loc) (.func (.func 67) #[] #[]) (fun i=> if i=n then x else f i) (n+1) (some ⟨g1,0,none⟩) cap1∧ToH w (w1.setCell ⟨b,o,none⟩ (.slice (some ⟨g1,0,none⟩) (n+1) cap1)) b o a n cap (some ⟨g1,0,none⟩) (n+1) cap1)∧w1.frozen? ⟨b,o,none⟩=false∧(w1.cell? ⟨b,o,none⟩=some (.slice a n cap)∧EffAt w1 w.heap.size 0 loc x)∧∃v,w1.cell? ⟨b,o,none⟩=some v):=fun g1 cap1 w1 hown hgr hloc=> by
  have kk:But (fun z=> (Value.slice a n cap).ownBlock=some z) w w1:= (But.of_kept kwB).trans (.of_grown hgr (fun _ h=> h))
  have kk1:But (fun z=> (Value.slice a n cap).ownBlock=some z) W1 w1:= (But.of_kept kB).trans (.of_grown hgr (fun _ h=> h))
  have hsz:=kwB.size
  have hne: (Value.slice (some ⟨g1,0,none⟩) (n+1) cap1).ownBlock≠some b:=fun e=> by
   have e1:g1=b:=by injection e
   rcases hloc with e2 | e2
   ·exact h.ne (by rw [e2,e1])
   ·omega
  have hnw: (Value.slice a n cap).ownBlock≠some w.heap.size:=fun e=> by have:= (h.row.lt _ e).2;omega
  have ho:w1.ownsRow B 147 7 (.slice (some ⟨g1,0,none⟩) (n+1) cap1) (n+1) (flatH (effC loc) (fun i=> if i=n then x else f i) (n+1)):=by
   have e1:flatH (effC loc) (fun i=> if i=n then x else f i) (n+1)=flatH (effC loc) f n++effC loc x:=by
    simp only [flatH,if_true]
    rw [flatH_congr (fun i hi=> by rw [if_neg (by omega)])]
   rw [e1]
   exact hown
  obtain ⟨j1,j2,j3,j4⟩:=h.told kk ho hne
  have hr1:=kk.row hr0 h.ne
  obtain ⟨⟨v,x0⟩,f0⟩:=hr1.row.at (i:=o) (by omega)
  refine ⟨⟨j1,j2,j3,j4,fun z hz=> ?_⟩,f0,⟨(kk.cell hbl h.ne).trans h.c0,hbx.cells (fun _=> kk1.cell hwl hnw)⟩,v,x0⟩
  have e1:g1=z:=by injection hz
  subst e1
  rcases hloc with e2 | e2
  ·exact .inl e2
  ·exact .inr (by omega)
 have HW1:=Kz hW1
 clear h hok hr0 k1 hbx kd kB kwB hwd hW1
 unfold effV
 go_enter Tryz.func157,Tryz.ntmps157
 go_wp2
 rw [<-HW1.out]
 refine Qx.region (by kernel_rfl) (fun u=> u.cell? ⟨b,o,none⟩=some (.slice a n cap)∧EffAt u w.heap.size 0 loc x) 10 (HS0.out _ (K_.refl W1).drew) (fun Z_=> ?_)
 rw [<-HWD.out] at Z_⊢
 refine Qx.take 0 [8,9,10] (v:= ?_) (by (simp only [List.getElem?_toArray,List.getElem?_cons_zero];rfl)) (by kernel_rfl) (by kernel_rfl) (by kernel_rfl) (by kernel_rfl) (by exact fun _ _ _ h=> h) (Or.inl ⟨by rfl, ?_⟩) Z_ ?_
 rotate_left
 ·intro u hu
  obtain ⟨hu1,⟨a1,a2,a3,a4,a5,a6,a7⟩⟩:=hu;simp only [Nat.zero_add] at a2 a3 a4 a5 a6 a7
  go_simp
  try with_reducible rfl
 try simp only [Act.put,upA,upB,upC]
 refine Qx.take 1 [2,3,4,7,8,9,10] (v:= ?_) (by (simp only [List.getElem?_toArray,List.getElem?_cons_succ,List.getElem?_cons_zero];rfl)) (by kernel_rfl) (by kernel_rfl) (by kernel_rfl) (by kernel_rfl) (by exact fun _ _ _ h=> h) (Or.inl ⟨by rfl, ?_⟩) Z_ ?_
 rotate_left
 ·intro u hu
  obtain ⟨hu1,⟨a1,a2,a3,a4,a5,a6,a7⟩⟩:=hu;simp only [Nat.zero_add] at a2 a3 a4 a5 a6 a7
  go_simp
  try with_reducible rfl
 try simp only [Act.put,upA,upB,upC]
 refine Qx.take 2 [3,4,7,8,9,10] (v:= ?_) (by (simp only [List.getElem?_toArray,List.getElem?_cons_succ,List.getElem?_cons_zero];rfl)) (by kernel_rfl) (by kernel_rfl) (by kernel_rfl) (by kernel_rfl) (by exact fun _ _ _ h=> h) (Or.inl ⟨by rfl, ?_⟩) Z_ ?_
 rotate_left
 ·intro u hu
  obtain ⟨hu1,⟨a1,a2,a3,a4,a5,a6,a7⟩⟩:=hu;simp only [Nat.zero_add] at a2 a3 a4 a5 a6 a7
  go_simp
  try with_reducible rfl
 try simp only [Act.put,upA,upB,upC]
 refine Qx.take 3 [4,7,8,9,10] (v:= ?_) (by (simp only [List.getElem?_toArray,List.getElem?_cons_succ,List.getElem?_cons_zero];rfl)) (by kernel_rfl) (by kernel_rfl) (by kernel_rfl) (by kernel_rfl) (by exact fun _ _ _ h=> h) (Or.inl ⟨by rfl, ?_⟩) Z_ ?_
 rotate_left
 ·intro u hu
  obtain ⟨hu1,⟨a1,a2,a3,a4,a5,a6,a7⟩⟩:=hu;simp only [Nat.zero_add] at a2 a3 a4 a5 a6 a7
  go_simp
  try with_reducible rfl
 try simp only [Act.put,upA,upB,upC]
 refine Qx.take 4 [7,8,9,10] (v:= ?_) (by (simp only [List.getElem?_toArray,List.getElem?_cons_succ,List.getElem?_cons_zero];rfl)) (by kernel_rfl) (by kernel_rfl) (by kernel_rfl) (by kernel_rfl) (by exact fun _ _ _ h=> h) (Or.inl ⟨by rfl, ?_⟩) Z_ ?_
 rotate_left
 ·intro u hu
  obtain ⟨hu1,⟨a1,a2,a3,a4,a5,a6,a7⟩⟩:=hu;simp only [Nat.zero_add] at a2 a3 a4 a5 a6 a7
  go_simp
  try with_reducible rfl
 try simp only [Act.put,upA,upB,upC]
 refine Qx.take 5 [6,7,8,9,10] (v:= ?_) (by (simp only [List.getElem?_toArray,List.getElem?_cons_succ,List.getElem?_cons_zero];rfl)) (by kernel_rfl) (by kernel_rfl) (by kernel_rfl) (by kernel_rfl) (by exact fun _ _ _ h=> h) (Or.inl ⟨by rfl, ?_⟩) Z_ ?_
 rotate_left
 ·intro u hu
  obtain ⟨hu1,⟨a1,a2,a3,a4,a5,a6,a7⟩⟩:=hu;simp only [Nat.zero_add] at a2 a3 a4 a5 a6 a7
  go_simp
  try with_reducible rfl
 try simp only [Act.put,upA,upB,upC]
 refine Qx.nx 6 (fun K hK=> ?_)
 rw [if_pos (by rfl)]
 go_simp
 refine hK.out _ _ (fun _=> HS0.out _ HKB.out) ?_
 clear hK K Z_
 try simp only [Act.put,upA,upB,upC]
 have Z_:=HS0.out _ HKB.out
 refine Qx.nx 7 (fun K hK=> ?_)
 rw [if_pos (by rfl)]
 refine wp_append_lies _ (.tmp 10) (.tmp 12) 131 rfl B 147 ie (.agg #[.int .i64 0,.int .i64 0,.string ⟨#[]⟩,.pointer none,.int .i64 0,.int .i64 0,.int .i64 0]) 7 64 Tryz.underlying131 hi0 hi1 hi2 hi3 rfl (by decide) (.slice a n cap) n _ rfl HOw.out ⟨wd.heap.size,0,none⟩ 1 1 [.int .i64 (x).at',.int .i64 (x).worker,.string (x).name,.pointer (some ⟨loc (x).name,0,none⟩),.int .i64 (x).fin,.int .i64 (x).place,.int .i64 (x).cause] rfl rfl HBx.out HOne.out (by decide) HX1.out HX2.out HX3.out _ rfl ?_
 intro g1 cap1 w1 hown1 hgr1 hloc1 _
 obtain ⟨hJ,f0,hS1,v0,x0⟩:=HAp.out g1 cap1 w1 hown1 hgr1 hloc1
 have HJ:=Kz hJ
 clear hown1 hgr1 hloc1 hJ
 refine hK.out _ _ (fun _=> hS1) ?_
 clear hK K Z_
 try simp only [Act.put,upA,upB,upC]
 have Z_:=hS1
 clear hS1
 refine Qx.take 8 [9,10] (v:= ?_) (by (simp only [List.getElem?_toArray,List.getElem?_cons_succ,List.getElem?_cons_zero];rfl)) (by kernel_rfl) (by kernel_rfl) (by kernel_rfl) (by kernel_rfl) (by exact fun _ _ _ h=> h) (Or.inl ⟨by rfl, ?_⟩) Z_ ?_
 rotate_left
 ·intro u hu
  obtain ⟨hu1,⟨a1,a2,a3,a4,a5,a6,a7⟩⟩:=hu;simp only [Nat.zero_add] at a2 a3 a4 a5 a6 a7
  go_simp
  try with_reducible rfl
 try simp only [Act.put,upA,upB,upC]
 refine Qx.take 9 [10] (v:= ?_) (by (simp only [List.getElem?_toArray,List.getElem?_cons_succ,List.getElem?_cons_zero];rfl)) (by kernel_rfl) (by kernel_rfl) (by kernel_rfl) (by kernel_rfl) (by exact fun _ _ _ h=> h) (Or.inl ⟨by rfl, ?_⟩) Z_ ?_
 rotate_left
 ·intro u hu
  obtain ⟨hu1,⟨a1,a2,a3,a4,a5,a6,a7⟩⟩:=hu;simp only [Nat.zero_add] at a2 a3 a4 a5 a6 a7
  go_simp
  try with_reducible rfl
 try simp only [Act.put,upA,upB,upC]
 refine Qx.nx 10 (fun K hK=> ?_)
 rw [if_pos (by rfl)]
 go_simp
 refine hK.out _ _ (fun h=> absurd rfl h) ?_
 clear hK K
 try simp only [Act.put,upA,upB,upC]
 refine Qx.dn ?_
 go_wp2
 generalize hw2:w1.setCell ⟨b,o,none⟩ (.slice (some ⟨g1,0,none⟩) (n+1) cap1)=w2 at HJ⊢
 clear hw2 f0 x0 v0
 go_loopw [4] (fun y wr=> ∃(k m:Nat) (f1:Nat->EffX),y= .int .i64 (k:Int)∧k<=n∧k<=m∧Hid (HeapM wr b o B 147 7 (effC loc) (.func (.func 67) #[] #[]) f1 (n+1) (some ⟨g1,0,none⟩) cap1)∧Hid (upF aheadE m f1 k=putF aheadE f n x)∧Hid (∀i,i < n+1->f1 i=x∨MemH f n (f1 i))∧Hid (ToH w wr b o a n cap (some ⟨g1,0,none⟩) (n+1) cap1)) (fun y _=> (intOf y).toNat)
 case atStart=>
  refine ⟨n,n,fun i=> if i=n then x else f i,by go_num,Nat.le_refl _,Nat.le_refl _,HJ.out.1,rfl,fun i hi=> ?_,HJ.out.2⟩
  by_cases e:i=n
  ·exact .inl (if_pos e)
  ·exact .inr ⟨i,by omega,by simp only [if_neg e]⟩
 case round=>
  obtain ⟨k,m,f1,rfl,hk,hm,HF1,HU,HMem,HTo⟩:=hrel
  have c0:=HF1.out.c0
  by_cases hk0:k=0
  ·subst hk0
   have HE:Hid (f1=putF aheadE f n x):=by
    show _=_
    rw [<-HU.out]
    cases m <;> simp [upF]
   go_wp2
   go_end0
   exact ⟨rfl,_,_,by rw [<-HE.out];exact HF1.out,HTo.out⟩
  ·obtain ⟨m,rfl⟩: ∃m',m=m'+1:= ⟨m - 1,by omega⟩
   obtain ⟨p,hp⟩: ∃p,p=parH k:= ⟨_,rfl⟩
   have hpk:p < k:=by rw [hp];unfold parH;omega
   have hd1: ((k:Int) - 1).tdiv 2= (p:Int):=by rw [hp];unfold parH;rw [Int.tdiv_eq_ediv_of_nonneg (by omega)];omega
   have hd2: ((k:Int) - 1) / 2= (p:Int):=by rw [hp];unfold parH;omega
   have hk1: (0:Int) < (k:Int):=by omega
   have hk2: (k:Int) < (n:Int)+1:=by omega
   have hp2: (p:Int) < (n:Int)+1:=by omega
   have HUp:Hid (if aheadE (f1 k) (f1 p)=true then upF aheadE m (swp f1 k p) p=putF aheadE f n x else f1=putF aheadE f n x):=by
    have e:=HU.out
    simp only [upF,if_neg hk0] at e
    rw [<-hp] at e
    show if _ then _ else _
    split
    ·next g=> rw [if_pos g] at e;exact e
    ·next g=> rw [if_neg g] at e;exact e
   have HBu:=Kz HTo.out.but
   have HH:Hid (∀u,K_ wr u->LookE loc b o g1 (n+1) cap1 f1 k p u):=fun u ku=> ⟨((HF1.out.kept ku)).c1,((HF1.out.kept ku)).c0,(HF1.out.kept ku).cellE (by omega),(HF1.out.kept ku).cellE (by omega)⟩
   clear hp hk0
   go_wp2
   refine Qx.region (by kernel_rfl) _ 19 (HH.out _ (K_.refl _).drew) (fun Z_=> ?_)
   refine Qx.take 0 [1,2,3,18,19] (v:= ?_) (by (simp only [List.getElem?_toArray,List.getElem?_cons_zero];rfl)) (by kernel_rfl) (by kernel_rfl) (by kernel_rfl) (by kernel_rfl) (by exact fun _ _ _ h=> h) (Or.inl ⟨by rfl, ?_⟩) Z_ ?_
   rotate_left
   ·intro u hu
    obtain ⟨hu1,hu2,⟨a1,a2,a3,a4,a5,a6,a7⟩,⟨b1,b2,b3,b4,b5,b6,b7⟩⟩:=hu
    go_simp
    try with_reducible rfl
   try simp only [Act.put,upA,upB,upC]
   refine Qx.take 1 [2,3,18,19] (v:= ?_) (by (simp only [List.getElem?_toArray,List.getElem?_cons_succ,List.getElem?_cons_zero];rfl)) (by kernel_rfl) (by kernel_rfl) (by kernel_rfl) (by kernel_rfl) (by exact fun _ _ _ h=> h) (Or.inl ⟨by rfl, ?_⟩) Z_ ?_
   rotate_left
   ·intro u hu
    obtain ⟨hu1,hu2,⟨a1,a2,a3,a4,a5,a6,a7⟩,⟨b1,b2,b3,b4,b5,b6,b7⟩⟩:=hu
    go_simp
    try with_reducible rfl
   try simp only [Act.put,upA,upB,upC]
   refine Qx.take 2 [3,18,19] (v:= ?_) (by (simp only [List.getElem?_toArray,List.getElem?_cons_succ,List.getElem?_cons_zero];rfl)) (by kernel_rfl) (by kernel_rfl) (by kernel_rfl) (by kernel_rfl) (by exact fun _ _ _ h=> h) (Or.inl ⟨by rfl, ?_⟩) Z_ ?_
   rotate_left
   ·intro u hu
    obtain ⟨hu1,hu2,⟨a1,a2,a3,a4,a5,a6,a7⟩,⟨b1,b2,b3,b4,b5,b6,b7⟩⟩:=hu
    go_simp
    try with_reducible rfl
   try simp only [Act.put,upA,upB,upC]
   refine Qx.take 3 [18,19] (v:= ?_) (by (simp only [List.getElem?_toArray,List.getElem?_cons_succ,List.getElem?_cons_zero];rfl)) (by kernel_rfl) (by kernel_rfl) (by kernel_rfl) (by kernel_rfl) (by exact fun _ _ _ h=> h) (Or.inl ⟨by rfl, ?_⟩) Z_ ?_
   rotate_left
   ·intro u hu
    obtain ⟨hu1,hu2,⟨a1,a2,a3,a4,a5,a6,a7⟩,⟨b1,b2,b3,b4,b5,b6,b7⟩⟩:=hu
    go_simp
    try with_reducible rfl
   try simp only [Act.put,upA,upB,upC]
   refine Qx.take 4 [5,6,7,9,10,18,19] (v:= ?_) (by (simp only [List.getElem?_toArray,List.getElem?_cons_succ,List.getElem?_cons_zero];rfl)) (by kernel_rfl) (by kernel_rfl) (by kernel_rfl) (by kernel_rfl) (by exact fun _ _ _ h=> h) (Or.inl ⟨by rfl, ?_⟩) Z_ ?_
   rotate_left
   ·intro u hu
    obtain ⟨hu1,hu2,⟨a1,a2,a3,a4,a5,a6,a7⟩,⟨b1,b2,b3,b4,b5,b6,b7⟩⟩:=hu
    go_simp
    try with_reducible rfl
   try simp only [Act.put,upA,upB,upC]
   refine Qx.take 5 [6,7,9,10,18,19] (v:= ?_) (by (simp only [List.getElem?_toArray,List.getElem?_cons_succ,List.getElem?_cons_zero];rfl)) (by kernel_rfl) (by kernel_rfl) (by kernel_rfl) (by kernel_rfl) (by exact fun _ _ _ h=> h) (Or.inl ⟨by rfl, ?_⟩) Z_ ?_
   rotate_left
   ·intro u hu
    obtain ⟨hu1,hu2,⟨a1,a2,a3,a4,a5,a6,a7⟩,⟨b1,b2,b3,b4,b5,b6,b7⟩⟩:=hu
    go_simp
    try with_reducible rfl
   try simp only [Act.put,upA,upB,upC]
   refine Qx.take 6 [7,9,10,18,19] (v:= ?_) (by (simp only [List.getElem?_toArray,List.getElem?_cons_succ,List.getElem?_cons_zero];rfl)) (by kernel_rfl) (by kernel_rfl) (by kernel_rfl) (by kernel_rfl) (by exact fun _ _ _ h=> h) (Or.inl ⟨by rfl, ?_⟩) Z_ ?_
   rotate_left
   ·intro u hu
    obtain ⟨hu1,hu2,⟨a1,a2,a3,a4,a5,a6,a7⟩,⟨b1,b2,b3,b4,b5,b6,b7⟩⟩:=hu
    go_simp
    try with_reducible rfl
   try simp only [Act.put,upA,upB,upC]
   refine Qx.take 7 [9,10,18,19] (v:= ?_) (by (simp only [List.getElem?_toArray,List.getElem?_cons_succ,List.getElem?_cons_zero];rfl)) (by kernel_rfl) (by kernel_rfl) (by kernel_rfl) (by kernel_rfl) (by exact fun _ _ _ h=> h) (Or.inl ⟨by rfl, ?_⟩) Z_ ?_
   rotate_left
   ·intro u hu
    obtain ⟨hu1,hu2,⟨a1,a2,a3,a4,a5,a6,a7⟩,⟨b1,b2,b3,b4,b5,b6,b7⟩⟩:=hu
    go_simp
    try with_reducible rfl
   try simp only [Act.put,upA,upB,upC]
   refine Qx.take 8 [9,10,18,19] (v:= ?_) (by (simp only [List.getElem?_toArray,List.getElem?_cons_succ,List.getElem?_cons_zero];rfl)) (by kernel_rfl) (by kernel_rfl) (by kernel_rfl) (by kernel_rfl) (by exact fun _ _ _ h=> h) (Or.inl ⟨by rfl, ?_⟩) Z_ ?_
   rotate_left
   ·intro u hu
    obtain ⟨hu1,hu2,⟨a1,a2,a3,a4,a5,a6,a7⟩,⟨b1,b2,b3,b4,b5,b6,b7⟩⟩:=hu
    go_simp
    try with_reducible rfl
   try simp only [Act.put,upA,upB,upC]
   refine Qx.take 9 [10,18,19] (v:= ?_) (by (simp only [List.getElem?_toArray,List.getElem?_cons_succ,List.getElem?_cons_zero];rfl)) (by kernel_rfl) (by kernel_rfl) (by kernel_rfl) (by kernel_rfl) (by exact fun _ _ _ h=> h) (Or.inl ⟨by rfl, ?_⟩) Z_ ?_
   rotate_left
   ·intro u hu
    obtain ⟨hu1,hu2,⟨a1,a2,a3,a4,a5,a6,a7⟩,⟨b1,b2,b3,b4,b5,b6,b7⟩⟩:=hu
    go_simp
    try with_reducible rfl
   try simp only [Act.put,upA,upB,upC]
   refine Qx.take 10 [18,19] (v:= ?_) (by (simp only [List.getElem?_toArray,List.getElem?_cons_succ,List.getElem?_cons_zero];rfl)) (by kernel_rfl) (by kernel_rfl) (by kernel_rfl) (by kernel_rfl) (by exact fun _ _ _ h=> h) (Or.inl ⟨by rfl, ?_⟩) Z_ ?_
   rotate_left
   ·intro u hu
    obtain ⟨hu1,hu2,⟨a1,a2,a3,a4,a5,a6,a7⟩,⟨b1,b2,b3,b4,b5,b6,b7⟩⟩:=hu
    go_simp
    try with_reducible rfl
   try simp only [Act.put,upA,upB,upC]
   refine Qx.take 11 [12,13,14,16,17,18,19] (v:= ?_) (by (simp only [List.getElem?_toArray,List.getElem?_cons_succ,List.getElem?_cons_zero];rfl)) (by kernel_rfl) (by kernel_rfl) (by kernel_rfl) (by kernel_rfl) (by exact fun _ _ _ h=> h) (Or.inl ⟨by rfl, ?_⟩) Z_ ?_
   rotate_left
   ·intro u hu
    obtain ⟨hu1,hu2,⟨a1,a2,a3,a4,a5,a6,a7⟩,⟨b1,b2,b3,b4,b5,b6,b7⟩⟩:=hu
    go_simp
    try with_reducible rfl
   try simp only [Act.put,upA,upB,upC]
   refine Qx.take 12 [13,14,16,17,18,19] (v:= ?_) (by (simp only [List.getElem?_toArray,List.getElem?_cons_succ,List.getElem?_cons_zero];rfl)) (by kernel_rfl) (by kernel_rfl) (by kernel_rfl) (by kernel_rfl) (by exact fun _ _ _ h=> h) (Or.inl ⟨by rfl, ?_⟩) Z_ ?_
   rotate_left
   ·intro u hu
    obtain ⟨hu1,hu2,⟨a1,a2,a3,a4,a5,a6,a7⟩,⟨b1,b2,b3,b4,b5,b6,b7⟩⟩:=hu
    go_simp
    try with_reducible rfl
   try simp only [Act.put,upA,upB,upC]
   refine Qx.take 13 [14,16,17,18,19] (v:= ?_) (by (simp only [List.getElem?_toArray,List.getElem?_cons_succ,List.getElem?_cons_zero];rfl)) (by kernel_rfl) (by kernel_rfl) (by kernel_rfl) (by kernel_rfl) (by exact fun _ _ _ h=> h) (Or.inl ⟨by rfl, ?_⟩) Z_ ?_
   rotate_left
   ·intro u hu
    obtain ⟨hu1,hu2,⟨a1,a2,a3,a4,a5,a6,a7⟩,⟨b1,b2,b3,b4,b5,b6,b7⟩⟩:=hu
    go_simp
    try with_reducible rfl
   try simp only [Act.put,upA,upB,upC]
   refine Qx.take 14 [16,17,18,19] (v:= ?_) (by (simp only [List.getElem?_toArray,List.getElem?_cons_succ,List.getElem?_cons_zero];rfl)) (by kernel_rfl) (by kernel_rfl) (by kernel_rfl) (by kernel_rfl) (by exact fun _ _ _ h=> h) (Or.inl ⟨by rfl, ?_⟩) Z_ ?_
   rotate_left
   ·intro u hu
    obtain ⟨hu1,hu2,⟨a1,a2,a3,a4,a5,a6,a7⟩,⟨b1,b2,b3,b4,b5,b6,b7⟩⟩:=hu
    go_simp
    try with_reducible rfl
   try simp only [Act.put,upA,upB,upC]
   refine Qx.take 15 [16,17,18,19] (v:= ?_) (by (simp only [List.getElem?_toArray,List.getElem?_cons_succ,List.getElem?_cons_zero];rfl)) (by kernel_rfl) (by kernel_rfl) (by kernel_rfl) (by kernel_rfl) (by exact fun _ _ _ h=> h) (Or.inl ⟨by rfl, ?_⟩) Z_ ?_
   rotate_left
   ·intro u hu
    obtain ⟨hu1,hu2,⟨a1,a2,a3,a4,a5,a6,a7⟩,⟨b1,b2,b3,b4,b5,b6,b7⟩⟩:=hu
    go_simp
    try with_reducible rfl
   try simp only [Act.put,upA,upB,upC]
   refine Qx.take 16 [17,18,19] (v:= ?_) (by (simp only [List.getElem?_toArray,List.getElem?_cons_succ,List.getElem?_cons_zero];rfl)) (by kernel_rfl) (by kernel_rfl) (by kernel_rfl) (by kernel_rfl) (by exact fun _ _ _ h=> h) (Or.inl ⟨by rfl, ?_⟩) Z_ ?_
   rotate_left
   ·intro u hu
    obtain ⟨hu1,hu2,⟨a1,a2,a3,a4,a5,a6,a7⟩,⟨b1,b2,b3,b4,b5,b6,b7⟩⟩:=hu
    go_simp
    try with_reducible rfl
   try simp only [Act.put,upA,upB,upC]
   refine Qx.take 17 [18,19] (v:= ?_) (by (simp only [List.getElem?_toArray,List.getElem?_cons_succ,List.getElem?_cons_zero];rfl)) (by kernel_rfl) (by kernel_rfl) (by kernel_rfl) (by kernel_rfl) (by exact fun _ _ _ h=> h) (Or.inl ⟨by rfl, ?_⟩) Z_ ?_
   rotate_left
   ·intro u hu
    obtain ⟨hu1,hu2,⟨a1,a2,a3,a4,a5,a6,a7⟩,⟨b1,b2,b3,b4,b5,b6,b7⟩⟩:=hu
    go_simp
    try with_reducible rfl
   try simp only [Act.put,upA,upB,upC]
   refine Qx.nx 18 (fun K hK=> ?_)
   rw [if_pos (by rfl)]
   go_simp
   refine (endsEarlier_any (loc:=loc) (f1 k) (f1 p) _ (HOk.out _ _ (HMem.out k (by omega)) (HBu.out.trans (.of_kept (K_.refl _).drew))) (HOk.out _ _ (HMem.out p (by omega)) (HBu.out.trans (.of_kept (K_.refl _).drew)))).mono ?_
   rintro e w8 ⟨rfl,k8⟩
   dsimp only
   have HK8:=Kz ((K_.refl wr).drew.trans k8)
   refine hK.out _ _ (fun _=> HH.out _ HK8.out) ?_
   clear hK K Z_
   try simp only [Act.put,upA,upB,upC]
   have Z_:=HH.out _ HK8.out
   refine Qx.nx 19 (fun K hK=> ?_)
   rw [if_pos (by rfl)]
   go_simp
   refine hK.out _ _ (fun h=> absurd rfl h) ?_
   clear hK K
   try simp only [Act.put,upA,upB,upC]
   refine Qx.dn ?_
   cases hx:aheadE (f1 k) (f1 p)
   ·have HE:=Kz (show f1=putF aheadE f n x by have e:=HUp.out;rw [hx] at e;simpa using e)
    go_wp2
    try simp only [Exit.inBlock,Exit.then]
    refine bodyPost_ret (results_none rfl _ _ _) rfl ?_
    exact ⟨rfl,_,_,by rw [<-HE.out];exact HF1.out.kept HK8.out,HTo.out.next (.of_kept HK8.out) hbl (HF1.out.ne)⟩
   ·have HE:=Kz (show upF aheadE m (swp f1 k p) p=putF aheadE f n x by have e:=HUp.out;rw [hx] at e;simpa using e)
    go_wp2_with fail
    refine (swapE_any _ (HF1.out.kept HK8.out) (i:=k) (j:=p) (by omega) (by omega) (by omega)).mono ?_
    rintro e w9 ⟨rfl,hF9,k9⟩
    have HF9:=Kz hF9
    have HT9:=Kz ((HTo.out.next (.of_kept HK8.out) hbl (HF1.out.ne)).next k9 hbl (HF1.out.ne))
    have HM9:Hid (∀i,i < n+1->swp f1 k p i=x∨MemH f n (swp f1 k p i)):=fun i hi=> by
     unfold swp
     split
     ·exact HMem.out p (by omega)
     ·split
      ·exact HMem.out k (by omega)
      ·exact HMem.out i hi
    clear hF9 k9
    go_wp2
    go_roundw
    case rel=> exact ⟨p,m,swp f1 k p,rfl,by omega,by omega,HF9,HE,HM9,HT9⟩
    case measure=> simp [intOf];omega
theorem takeE_any (w:World) (h:HeapM w b o B 147 7 (effC loc) (.func (.func 67) #[] #[]) f (n+1) a cap) (hok: ∀y u,MemH f (n+1) y->But (fun z=> z=b∨(Value.slice a (n+1) cap).ownBlock=some z) w u->OkE loc y u) (hn:n < 1000000):
  Calls Tryz.prog 120 #[.pointer (some ⟨b,o,none⟩)] w fun e w'=> e= .returned (effV loc (f 0))∧HeapM w' b o B 147 7 (effC loc) (.func (.func 67) #[] #[]) (takeF aheadE f n) n a cap∧ToH w w' b o a (n+1) cap a n cap:=by
 obtain ⟨g,rfl,hgl,hbg,hnc⟩:=h.pos (by omega)
 have HM:=Kz h
 have HOk:=Kz hok
 have hbl:=h.lt
 have hne:=h.ne
 have hn1: (n:Int)<=(cap:Int):=by omega
 have hn2: (n:Int)+1 - 1= (n:Int):=by omega
 obtain ⟨W0,hW0⟩: ∃W0,W0=w.alloc (.cells #[.int .i64 0,.int .i64 0,.string ⟨#[]⟩,.pointer none,.int .i64 0,.int .i64 0,.int .i64 0] 147):= ⟨_,rfl⟩
 have k0:Hid (K_ w W0):=by rw [hW0];exact (K_.refl w).alloc _
 have HR0:Hid (RowT W0 w.heap.size 147 7):=by rw [hW0];exact RowT.made w _ _
 clear h hok
 go_enter Tryz.func120,Tryz.ntmps120
 go_wp2_with fail
 rw [<-hW0]
 clear hW0
 refine (firstE_any W0 (HM.out.kept k0.out) (by omega)).mono ?_
 rintro e w0 ⟨rfl,h0⟩
 unfold effV
 obtain ⟨W1,hW1⟩: ∃W1,W1=w0.alloc (.cells #[.int .i64 (f 0).at',.int .i64 (f 0).worker,.string (f 0).name,.pointer (some ⟨loc (f 0).name,0,none⟩),.int .i64 (f 0).fin,.int .i64 (f 0).place,.int .i64 (f 0).cause] 147):= ⟨_,rfl⟩
 have k1:K_ w0 W1:=by rw [hW1];exact (K_.refl w0).alloc _
 have HB:Hid (EffAt W1 w0.heap.size 0 loc (f 0)):=by rw [hW1];exact EffAt.new w0 (f 0)
 have HB1:Hid (w0.heap.size < W1.heap.size):=by show _ < _;rw [hW1];simp
 have K1:=Kz ((k0.out.trans h0).trans k1)
 have HR1:=Kz ((HR0.out.kept h0).kept k1)
 have hz0:= (k0.out.trans h0).size
 have hM1:=HM.out.kept K1.out
 have c0:=hM1.c0
 have hbW:=hM1.lt
 have hWz:=K1.out.size
 have HSt:Hid (∀w1:World,HeapM w1 b o B 147 7 (effC loc) (.func (.func 67) #[] #[]) (swp f 0 n) (n+1) (some ⟨g,0,none⟩) cap->But (fun x=> (Value.slice (some ⟨g,0,none⟩) (n+1) cap).ownBlock=some x) W1 w1->
   (HeapM (w1.setCell ⟨b,o,none⟩ (.slice (some ⟨g,0,none⟩) n cap)) b o B 147 7 (effC loc) (.func (.func 67) #[] #[]) (swp f 0 n) n (some ⟨g,0,none⟩) cap∧ToH W1 (w1.setCell ⟨b,o,none⟩ (.slice (some ⟨g,0,none⟩) n cap)) b o (some ⟨g,0,none⟩) (n+1) cap (some ⟨g,0,none⟩) n cap)∧w1.frozen? ⟨b,o,none⟩=false):=fun w1 h1 k1=> by
  obtain ⟨j1,j2,j3,j4⟩:=h1.told (.of_kept (K_.refl w1)) (owns_less (fun _=> rfl) h1.row) h1.ne
  obtain ⟨t0,m0,hr0,hm0⟩:=h1.blk
  refine ⟨⟨j1,⟨?_,fun i hi=> (j3 i hi).trans (k1.cell hbW hne),fun t m hr=> j4 t m (k1.row hr hne),fun x hx=> .inl hx⟩⟩,(hr0.row.at (i:=o) (by omega)).2⟩
  exact (k1.mono (fun _ _ h=> .inr h)).trans j2
 clear h0 k1
 go_upto_region 2 with fail
 rw [<-hW1]
 clear hW1
 go_wp2_with fail
 refine (swapE_any W1 hM1 (i:=0) (j:=n) (by omega) (by omega) (by omega)).mono ?_
 rintro e w1 ⟨rfl,hM2,k2⟩
 obtain ⟨hJ,f0⟩:=HSt.out w1 hM2 k2
 have HJ:=Kz hJ
 have c1:=hM2.c0
 clear hM2 k2 hJ c0 hM1
 go_wp2
 generalize hw2:w1.setCell ⟨b,o,none⟩ (.slice (some ⟨g,0,none⟩) n cap)=w2 at HJ⊢
 clear hw2 f0 c1
 go_loopw [5] (fun y wr=> ∃(k m:Nat) (f1:Nat->EffX),y= .int .i64 (k:Int)∧k<=n∧(k < n∨n=0)∧n<=k+m∧Hid (HeapM wr b o B 147 7 (effC loc) (.func (.func 67) #[] #[]) f1 n (some ⟨g,0,none⟩) cap)∧Hid (downF aheadE m f1 n k=takeF aheadE f n)∧Hid (∀i,i < n->MemH f (n+1) (f1 i))∧Hid (ToH W1 wr b o (some ⟨g,0,none⟩) (n+1) cap (some ⟨g,0,none⟩) n cap)) (fun y _=> n - (intOf y).toNat)
 case atStart=>
  refine ⟨0,n,swp f 0 n,rfl,by omega,by omega,by omega,HJ.out.1,rfl,fun i hi=> ?_,HJ.out.2⟩
  unfold swp
  split
  ·exact ⟨n,by omega,rfl⟩
  ·split
   ·omega
   ·exact ⟨i,by omega,rfl⟩
 case round=>
  obtain ⟨k,m,f1,rfl,hk,hkn,hm,HF1,HD,HMem,HTo⟩:=hrel
  go_wp2_with fail
  refine (leadE_any wr HF1.out (fun i hi u ku=> HOk.out _ u (HMem.out i hi) (((But.of_kept K1.out).trans HTo.out.but).trans (.of_kept ku))) hk (by omega)).mono ?_
  rintro e w8 ⟨rfl,k8⟩
  have HK8:=Kz k8
  clear k8
  obtain ⟨q,hq⟩: ∃q,q=leadF aheadE f1 n k:= ⟨_,rfl⟩
  rw [<-hq]
  by_cases hqk:q=k
  ·have HE:=Kz (show f1=takeF aheadE f n by
    have e:=HD.out
    cases m with
    | zero=> exact e
    | succ m=> simp only [downF] at e;rw [if_pos (hq.symm.trans hqk)] at e;exact e)
   have e0: ((q:Int) == (k:Int))=true:=by rw [hqk];simp
   clear hqk hq
   have HT8:=Kz (HTo.out.next (.of_kept HK8.out) hbW (HF1.out.ne))
   have hnb: ¬(w0.heap.size=b∨(Value.slice (some ⟨g,0,none⟩) (n+1) cap).ownBlock=some w0.heap.size):=by
    rintro (e | e)
    ·omega
    ·have e1:g=w0.heap.size:=by injection e
     omega
   have hnr: ¬(w.heap.size=b∨(Value.slice (some ⟨g,0,none⟩) (n+1) cap).ownBlock=some w.heap.size):=by
    rintro (e | e)
    ·omega
    ·have e1:g=w.heap.size:=by injection e
     omega
   obtain ⟨a1,a2,a3,a4,a5,a6,a7⟩:=HB.out.cells (fun _=> HT8.out.but.cell HB1.out hnb)
   simp only [Nat.zero_add] at a1 a2 a3 a4 a5 a6 a7
   have HR8:=Kz (HT8.out.but.row HR1.out hnr)
   have HRg:=Kz (World.rangeAt_setCells_same w8 w.heap.size 0 (effC loc (f 0)) (HR8.out.row.there (o:=0) (m:=7) (Nat.le_refl _)))
   have HF8:Hid (HeapM (w8.setCells w.heap.size 0 (effC loc (f 0))) b o B 147 7 (effC loc) (.func (.func 67) #[] #[]) (takeF aheadE f n) n (some ⟨g,0,none⟩) cap):=by
    rw [<-HE.out]
    exact (HF1.out.kept HK8.out).but (But.setCells (S:=fun x=> x=w.heap.size) (g:=w.heap.size) rfl (effC loc (f 0)) 0 (.of_kept (K_.refl w8))) (fun e=> by omega) (fun x hx e=> by
     have e1:g=x:=by injection hx
     omega)
   have HT9:Hid (ToH w (w8.setCells w.heap.size 0 (effC loc (f 0))) b o (some ⟨g,0,none⟩) (n+1) cap (some ⟨g,0,none⟩) n cap):=by
    have k9:But (fun x=> x=w.heap.size) w8 (w8.setCells w.heap.size 0 (effC loc (f 0))):=But.setCells (S:=fun x=> x=w.heap.size) (g:=w.heap.size) rfl (effC loc (f 0)) 0 (.of_kept (K_.refl w8))
    have kk:= (But.of_kept K1.out).trans HT8.out.but
    refine ⟨⟨k9.os.trans kk.os,k9.tape.trans kk.tape,k9.output.trans kk.output,Nat.le_trans kk.size k9.size,fun x hx hn=> (k9.block x (Nat.lt_of_lt_of_le hx kk.size) (by omega)).trans (kk.block x hx hn)⟩,fun i hi=> ?_,fun t m hr=> k9.row (HT8.out.row t m (hr.kept K1.out)) (by omega),fun x hx=> .inl hx⟩
    rw [k9.cell (Nat.lt_of_lt_of_le hbl kk.size) (by omega),HT8.out.oth i hi]
    exact K1.out.cell hbl
   obtain ⟨⟨_,y0⟩,g0⟩:=HR8.out.row.at (i:=0) (by omega)
   obtain ⟨⟨_,y1⟩,g1⟩:=HR8.out.row.at (i:=1) (by omega)
   obtain ⟨⟨_,y2⟩,g2⟩:=HR8.out.row.at (i:=2) (by omega)
   obtain ⟨⟨_,y3⟩,g3⟩:=HR8.out.row.at (i:=3) (by omega)
   obtain ⟨⟨_,y4⟩,g4⟩:=HR8.out.row.at (i:=4) (by omega)
   obtain ⟨⟨_,y5⟩,g5⟩:=HR8.out.row.at (i:=5) (by omega)
   obtain ⟨⟨_,y6⟩,g6⟩:=HR8.out.row.at (i:=6) (by omega)
   go_wp2
   exact X_ (effC loc (f 0)) _ Tryz.results120 rfl HRg.out Tryz.underlying147 rfl Tryz.sizeEff rfl ⟨rfl,HF8.out,HT9.out⟩
  ·have hqn:q < n∧k < q:=by
    rcases leadF_cases (ah:=aheadE) f1 n k with e | ⟨e,e1⟩ | ⟨e,e1⟩
    ·exact absurd (hq.trans e) hqk
    ·omega
    ·omega
   obtain ⟨m,rfl⟩: ∃m',m=m'+1:= ⟨m - 1,by omega⟩
   have HE:=Kz (show downF aheadE m (swp f1 k q) n q=takeF aheadE f n by
    have e:=HD.out
    simp only [downF] at e
    rw [if_neg (fun x=> hqk (hq.trans x)),<-hq] at e
    exact e)
   have e0: ((q:Int) == (k:Int))=false:=by
    have: ¬(q:Int)= (k:Int):=by omega
    simpa using this
   clear hqk hq
   go_wp2_with fail
   refine (swapE_any w8 (HF1.out.kept HK8.out) (i:=k) (j:=q) (by omega) (by omega) (by omega)).mono ?_
   rintro e w9 ⟨rfl,hF9,k9⟩
   have HF9:=Kz hF9
   have HT9:=Kz ((HTo.out.next (.of_kept HK8.out) hbW (HF1.out.ne)).next k9 hbW (HF1.out.ne))
   have HM9:Hid (∀i,i < n->MemH f (n+1) (swp f1 k q i)):=fun i hi=> by
    unfold swp
    split
    ·exact HMem.out q (by omega)
    ·split
     ·exact HMem.out k (by omega)
     ·exact HMem.out i hi
   clear hF9 k9
   go_wp2
   go_roundw
   case rel=> exact ⟨q,m,swp f1 k q,rfl,by omega,by omega,by omega,HF9,HE,HM9,HT9⟩
   case measure=> simp [intOf];omega
end
structure OutD where
 code:Int
 res:List ResD
 chain:List ByteArray
 units:Int
 cost:Int
theorem fiveCells {w w1:World} {v0 v1 v2 v3 v4:Value} {t:TypeId} (k:K_ (w.alloc (.cells #[v0,v1,v2,v3,v4] t)) w1):w1.cell? ⟨w.heap.size,0,none⟩=some v0∧w1.cell? ⟨w.heap.size,1,none⟩=some v1∧w1.cell? ⟨w.heap.size,2,none⟩=some v2∧w1.cell? ⟨w.heap.size,3,none⟩=some v3∧w1.cell? ⟨w.heap.size,4,none⟩=some v4:=by
 have h:=Xz w #[v0,v1,v2,v3,v4] t
 have z:w.heap.size < (w.alloc (.cells #[v0,v1,v2,v3,v4] t)).heap.size:=by simp
 exact ⟨(k.cell z).trans (h 0 _ rfl),(k.cell z).trans (h 1 _ rfl),(k.cell z).trans (h 2 _ rfl),(k.cell z).trans (h 3 _ rfl),(k.cell z).trans (h 4 _ rfl)⟩
theorem eqOutcome_yes (w:World) (a a' f f':Option Addr) (cap cap' e0 e1:Nat) (o:OutD) (hl:o.res.length<=maxLen) (hc:o.chain.length<=maxLen) (hS:Ress w a o.res) (hS':Ress w a' o.res) (hF:Strs w f o.chain) (hF':Strs w f' o.chain):
  Calls Tryz.prog 35 #[.agg #[.int .i64 o.code,.slice a o.res.length cap,.slice f o.chain.length e0,.int .i64 o.units,.int .i64 o.cost],.agg #[.int .i64 o.code,.slice a' o.res.length cap',.slice f' o.chain.length e1,.int .i64 o.units,.int .i64 o.cost]] w fun e w'=> e= .returned (.bool true)∧K_ w w':=by
 obtain ⟨code,res,chain,units,cost⟩:=o
 dsimp only at *
 obtain ⟨W0,hW0⟩: ∃W0,W0= (w.alloc (.cells #[.int .i64 code,.slice a res.length cap,.slice f chain.length e0,.int .i64 units,.int .i64 cost] 31)).alloc (.cells #[.int .i64 code,.slice a' res.length cap',.slice f' chain.length e1,.int .i64 units,.int .i64 cost] 31):= ⟨_,rfl⟩
 have k0:K_ w W0:=by rw [hW0];exact ((K_.refl _).alloc _).alloc _
 have HP:Hid (∀u,K_ W0 u->(u.cell? ⟨w.heap.size,0,none⟩=some (.int .i64 code)∧u.cell? ⟨w.heap.size,1,none⟩=some (.slice a res.length cap)∧u.cell? ⟨w.heap.size,2,none⟩=some (.slice f chain.length e0)∧u.cell? ⟨w.heap.size,3,none⟩=some (.int .i64 units)∧u.cell? ⟨w.heap.size,4,none⟩=some (.int .i64 cost))∧(u.cell? ⟨w.heap.size+1,0,none⟩=some (.int .i64 code)∧u.cell? ⟨w.heap.size+1,1,none⟩=some (.slice a' res.length cap')∧u.cell? ⟨w.heap.size+1,2,none⟩=some (.slice f' chain.length e1)∧u.cell? ⟨w.heap.size+1,3,none⟩=some (.int .i64 units)∧u.cell? ⟨w.heap.size+1,4,none⟩=some (.int .i64 cost))):=fun u k=> by
  rw [hW0] at k
  refine ⟨fiveCells (w:=w) (t:=31) (K_.trans ((K_.refl _).alloc _) k), ?_⟩
  have h:=fiveCells (w:=w.alloc (.cells #[.int .i64 code,.slice a res.length cap,.slice f chain.length e0,.int .i64 units,.int .i64 cost] 31)) (t:=31) k
  rw [World.size_alloc] at h
  exact h
 have z0:w.heap.size < W0.heap.size:=by rw [hW0];simp;omega
 have z1:w.heap.size+1 < W0.heap.size:=by rw [hW0];simp
 go_enter Tryz.func35,Tryz.ntmps35
 go_upto_region 1 with fail
 rw [<-hW0]
 clear hW0
 obtain ⟨⟨p0,p1,p2,p3,p4⟩,r0,r1,r2,r3,r4⟩:=HP.out _ (K_.refl W0)
 go_wp2_with fail
 refine (eqResultS_yes W0 a a' cap cap' res hl (hS.kept k0) (hS'.kept k0)).mono ?_
 rintro e w1 ⟨rfl,k1⟩
 clear p0 p1 p2 p3 p4 r0 r1 r2 r3 r4
 obtain ⟨⟨p0,p1,p2,p3,p4⟩,r0,r1,r2,r3,r4⟩:=HP.out _ k1
 go_wp2_with fail
 refine (eqStringS_yes w1 f f' e0 e1 chain hc (hF.kept (k0.trans k1)) (hF'.kept (k0.trans k1))).mono ?_
 rintro e w2 ⟨rfl,k2⟩
 clear p0 p1 p2 p3 p4 r0 r1 r2 r3 r4
 obtain ⟨⟨p0,p1,p2,p3,p4⟩,r0,r1,r2,r3,r4⟩:=HP.out _ (k1.trans k2)
 go_wp2
 go_ret
 exact ⟨rfl,k0.trans (k1.trans k2)⟩
theorem markOutcome_any (w:World) (lo mid hi:Nat) (a f:Option Addr) (cap e0:Nat) (o:OutD) (k:Nat) (h0:0 < k) (h1:k+o.res.length * 4+o.chain.length<=4611686018427387904) (hm1:lo<=mid) (hm2:mid<=hi) (hhi:hi<=w.heap.size) (hS:RessIn w lo mid a o.res) (hF:StrsIn w mid hi f o.chain):
  Calls Tryz.prog 40 #[.agg #[.int .i64 o.code,.slice a o.res.length cap,.slice f o.chain.length e0,.int .i64 o.units,.int .i64 o.cost],.int .i64 k] w fun e w'=> e= .returned (.int .i64 ((k+o.res.length * 4+o.chain.length:Nat):Int))∧RessIn w' lo mid a (markRess o.res k)∧StrsIn w' mid hi f (markStrs o.chain (k+o.res.length * 4))∧Xk lo hi w w':=by
 obtain ⟨code,res,chain,units,cost⟩:=o
 dsimp only at *
 obtain ⟨W0,hW0⟩: ∃W0,W0=w.alloc (.cells #[.int .i64 code,.slice a res.length cap,.slice f chain.length e0,.int .i64 units,.int .i64 cost] 31):= ⟨_,rfl⟩
 have k0:K_ w W0:=by rw [hW0];exact (K_.refl _).alloc _
 obtain ⟨b0,b1,b2,b3,b4⟩:=fiveCells (w:=w) (w1:=W0) (v0:= .int .i64 code) (v1:= .slice a res.length cap) (v2:= .slice f chain.length e0) (v3:= .int .i64 units) (v4:= .int .i64 cost) (t:=31) (by rw [hW0];exact K_.refl _)
 have z0:w.heap.size < W0.heap.size:=by rw [hW0];simp
 go_enter Tryz.func40,Tryz.ntmps40
 go_wp2_with fail
 rw [<-hW0]
 clear hW0
 refine (markResultS_any _ lo mid a cap res k h0 (by omega) (hS.same (k0.same _ _))).mono ?_
 rintro e w1 ⟨rfl,hR1,kb1⟩
 have s1:=kb1.same (l2:=w.heap.size) (h2:=w.heap.size+1) (by omega)
 have c1:= (s1.cell (o:=2) (Nat.le_refl _) (by omega) z0).trans b2
 obtain ⟨m,hm⟩: ∃m,m=k+res.length * 4:= ⟨_,rfl⟩
 rw [<-hm]
 have hmb:m+chain.length<=4611686018427387904:=by omega
 have hm0:0 < m:=by omega
 have HF1:=Kz ((hF.same (k0.same _ _)).same (kb1.same (l2:=mid) (h2:=hi) (by omega)))
 have HR1:=Kz hR1
 have hz1:=kb1.size
 have HM:=Kz hm
 clear hm b0 b1 b2 b3 b4 hR1 s1
 go_wp2_with fail
 refine (markStringS_any _ mid hi f e0 chain m hm0 hmb HF1.out).mono ?_
 rintro e w2 ⟨rfl,hF2,kb2⟩
 have HF2:=Kz hF2
 have HR2:=Kz (HR1.out.same (kb2.same (l2:=lo) (h2:=mid) (by omega)))
 have KB:=Kz ((((Xk.of_kept k0:Xk lo hi w W0).trans (kb1.mono (Nat.le_refl _) hm2))).trans (kb2.mono hm1 (Nat.le_refl _)))
 obtain ⟨m2,hm2'⟩: ∃m2,m2=m+chain.length:= ⟨_,rfl⟩
 rw [<-hm2']
 have HM2:=Kz hm2'
 clear hm2' hF2 c1
 go_wp2
 go_ret
 exact ⟨ret_int (by have:=HM.out;have:=HM2.out;omega),HR2.out,by rw [<-HM.out];exact HF2.out,KB.out⟩
theorem heldOutcome_yes (w:World) (a f:Option Addr) (cap e0:Nat) (o:OutD) (k:Nat) (h0:0 < k) (h1:k+o.res.length * 4+o.chain.length<=4611686018427387904) (hS:Ress w a (markRess o.res k)) (hF:Strs w f (markStrs o.chain (k+o.res.length * 4))):
  Calls Tryz.prog 42 #[.agg #[.int .i64 o.code,.slice a o.res.length cap,.slice f o.chain.length e0,.int .i64 o.units,.int .i64 o.cost],.int .i64 k] w fun e w'=> e= .returned (.int .i64 ((k+o.res.length * 4+o.chain.length:Nat):Int))∧K_ w w':=by
 obtain ⟨code,res,chain,units,cost⟩:=o
 dsimp only at *
 obtain ⟨W0,hW0⟩: ∃W0,W0=w.alloc (.cells #[.int .i64 code,.slice a res.length cap,.slice f chain.length e0,.int .i64 units,.int .i64 cost] 31):= ⟨_,rfl⟩
 have k0:K_ w W0:=by rw [hW0];exact (K_.refl _).alloc _
 obtain ⟨b0,b1,b2,b3,b4⟩:=fiveCells (w:=w) (w1:=W0) (v0:= .int .i64 code) (v1:= .slice a res.length cap) (v2:= .slice f chain.length e0) (v3:= .int .i64 units) (v4:= .int .i64 cost) (t:=31) (by rw [hW0];exact K_.refl _)
 have z0:w.heap.size < W0.heap.size:=by rw [hW0];simp
 go_enter Tryz.func42,Tryz.ntmps42
 go_wp2_with fail
 rw [<-hW0]
 clear hW0
 refine (heldResultS_yes _ a cap res k h0 (by omega) (hS.kept k0)).mono ?_
 rintro e w1 ⟨rfl,k1⟩
 have c1:= (k1.cell (o:=2) z0).trans b2
 obtain ⟨m,hm⟩: ∃m,m=k+res.length * 4:= ⟨_,rfl⟩
 rw [<-hm]
 have hmb:m+chain.length<=4611686018427387904:=by omega
 have hm0:0 < m:=by omega
 have hmn: ¬((m:Int) < 0):=by omega
 have HM:=Kz hm
 have hz1:=k1.size
 have K1:=k0.trans k1
 have HF:=Kz (hF.kept K1)
 rw [<-hm] at HF
 clear hm b0 b1 b2 b3 b4 hF k0 k1
 go_wp2_with fail
 refine (heldStringS_yes _ f e0 chain m hm0 hmb HF.out).mono ?_
 rintro e w2 ⟨rfl,k2⟩
 obtain ⟨m2,hm2⟩: ∃m2,m2=m+chain.length:= ⟨_,rfl⟩
 rw [<-hm2]
 have hm2n: ¬((m2:Int) < 0):=by omega
 have HM2:=Kz hm2
 clear hm2 c1
 go_wp2
 go_ret
 exact ⟨ret_int (by have:=HM.out;have:=HM2.out;omega),K1.trans k2⟩
structure PlanD where
 code:Int
 slots:List SlotD
 ticks:Int
 out:OutD
 chain:List SlotD
section
variable (code ticks oc units cost : Int) (slots chain : List SlotD) (res : List ResD) (och : List ByteArray)
theorem eqPlan_yes (w:World) (sa ra fa ca:Option Addr) (sc rc fc cc:Nat) (sa' ra' fa' ca':Option Addr) (sc' rc' fc' cc':Nat) (hl:slots.length<=maxLen) (hr:res.length<=maxLen) (ho:och.length<=maxLen) (hc:chain.length<=maxLen) (hS:Slts w sa slots) (hS':Slts w sa' slots) (hR:Ress w ra res) (hR':Ress w ra' res) (hF:Strs w fa och) (hF':Strs w fa' och) (hC:Slts w ca chain) (hC':Slts w ca' chain):
  Calls Tryz.prog 10 #[.agg #[.int .i64 code,.slice sa slots.length sc,.int .i64 ticks,.int .i64 oc,.slice ra res.length rc,.slice fa och.length fc,.int .i64 units,.int .i64 cost,.slice ca chain.length cc],.agg #[.int .i64 code,.slice sa' slots.length sc',.int .i64 ticks,.int .i64 oc,.slice ra' res.length rc',.slice fa' och.length fc',.int .i64 units,.int .i64 cost,.slice ca' chain.length cc']] w fun e w'=> e= .returned (.bool true)∧K_ w w':=by
 obtain ⟨W0,hW0⟩: ∃W0,W0= (w.alloc (.cells #[.int .i64 code,.slice sa slots.length sc,.int .i64 ticks,.int .i64 oc,.slice ra res.length rc,.slice fa och.length fc,.int .i64 units,.int .i64 cost,.slice ca chain.length cc] 33)).alloc (.cells #[.int .i64 code,.slice sa' slots.length sc',.int .i64 ticks,.int .i64 oc,.slice ra' res.length rc',.slice fa' och.length fc',.int .i64 units,.int .i64 cost,.slice ca' chain.length cc'] 33):= ⟨_,rfl⟩
 have k0:K_ w W0:=by rw [hW0];exact ((K_.refl _).alloc _).alloc _
 have z0:w.heap.size < W0.heap.size:=by rw [hW0];simp;omega
 have z1:w.heap.size+1 < W0.heap.size:=by rw [hW0];simp
 have HP:Hid (∀u,K_ W0 u->(u.cell? ⟨w.heap.size,0,none⟩=some (.int .i64 code)∧u.cell? ⟨w.heap.size,1,none⟩=some (.slice sa slots.length sc)∧u.cell? ⟨w.heap.size,2,none⟩=some (.int .i64 ticks)∧u.cell? ⟨w.heap.size,3,none⟩=some (.int .i64 oc)∧u.cell? ⟨w.heap.size,4,none⟩=some (.slice ra res.length rc)∧u.cell? ⟨w.heap.size,5,none⟩=some (.slice fa och.length fc)∧u.cell? ⟨w.heap.size,6,none⟩=some (.int .i64 units)∧u.cell? ⟨w.heap.size,7,none⟩=some (.int .i64 cost)∧u.cell? ⟨w.heap.size,8,none⟩=some (.slice ca chain.length cc))∧(u.cell? ⟨w.heap.size+1,0,none⟩=some (.int .i64 code)∧u.cell? ⟨w.heap.size+1,1,none⟩=some (.slice sa' slots.length sc')∧u.cell? ⟨w.heap.size+1,2,none⟩=some (.int .i64 ticks)∧u.cell? ⟨w.heap.size+1,3,none⟩=some (.int .i64 oc)∧u.cell? ⟨w.heap.size+1,4,none⟩=some (.slice ra' res.length rc')∧u.cell? ⟨w.heap.size+1,5,none⟩=some (.slice fa' och.length fc')∧u.cell? ⟨w.heap.size+1,6,none⟩=some (.int .i64 units)∧u.cell? ⟨w.heap.size+1,7,none⟩=some (.int .i64 cost)∧u.cell? ⟨w.heap.size+1,8,none⟩=some (.slice ca' chain.length cc'))):=fun u k=> by
  have g1:W0.rangeAt w.heap.size 0 [.int .i64 code,.slice sa slots.length sc,.int .i64 ticks,.int .i64 oc,.slice ra res.length rc,.slice fa och.length fc,.int .i64 units,.int .i64 cost,.slice ca chain.length cc]:=by
   rw [hW0]
   have h:=Xz w #[.int .i64 code,.slice sa slots.length sc,.int .i64 ticks,.int .i64 oc,.slice ra res.length rc,.slice fa och.length fc,.int .i64 units,.int .i64 cost,.slice ca chain.length cc] 33
   exact fun i v hv=> (((K_.refl _).alloc _).cell (by simp)).trans (h i v hv)
  have g2:W0.rangeAt (w.heap.size+1) 0 [.int .i64 code,.slice sa' slots.length sc',.int .i64 ticks,.int .i64 oc,.slice ra' res.length rc',.slice fa' och.length fc',.int .i64 units,.int .i64 cost,.slice ca' chain.length cc']:=by
   have h:=Xz (w.alloc (.cells #[.int .i64 code,.slice sa slots.length sc,.int .i64 ticks,.int .i64 oc,.slice ra res.length rc,.slice fa och.length fc,.int .i64 units,.int .i64 cost,.slice ca chain.length cc] 33)) #[.int .i64 code,.slice sa' slots.length sc',.int .i64 ticks,.int .i64 oc,.slice ra' res.length rc',.slice fa' och.length fc',.int .i64 units,.int .i64 cost,.slice ca' chain.length cc'] 33
   rw [World.size_alloc] at h
   rw [hW0]
   exact h
  have g1':=k.range z0 g1
  have g2':=k.range z1 g2
  exact ⟨⟨g1' 0 _ rfl,g1' 1 _ rfl,g1' 2 _ rfl,g1' 3 _ rfl,g1' 4 _ rfl,g1' 5 _ rfl,g1' 6 _ rfl,g1' 7 _ rfl,g1' 8 _ rfl⟩,g2' 0 _ rfl,g2' 1 _ rfl,g2' 2 _ rfl,g2' 3 _ rfl,g2' 4 _ rfl,g2' 5 _ rfl,g2' 6 _ rfl,g2' 7 _ rfl,g2' 8 _ rfl⟩
 go_enter Tryz.func10,Tryz.ntmps10
 go_upto_region 1 with fail
 rw [<-hW0]
 clear hW0
 obtain ⟨⟨p0,p1,p2,p3,p4,p5,p6,p7,p8⟩,r0,r1,r2,r3,r4,r5,r6,r7,r8⟩:=HP.out _ (K_.refl W0)
 go_wp2_with fail
 refine (eqSlotS_yes W0 sa sa' sc sc' slots hl (hS.kept k0) (hS'.kept k0)).mono ?_
 rintro e w1 ⟨rfl,k1⟩
 clear p0 p1 p2 p3 p4 p5 p6 p7 p8 r0 r1 r2 r3 r4 r5 r6 r7 r8
 obtain ⟨⟨p0,p1,p2,p3,p4,p5,p6,p7,p8⟩,r0,r1,r2,r3,r4,r5,r6,r7,r8⟩:=HP.out _ k1
 have z10:w.heap.size < w1.heap.size:=Nat.lt_of_lt_of_le z0 k1.size
 have z11:w.heap.size+1 < w1.heap.size:=Nat.lt_of_lt_of_le z1 k1.size
 have hoc:=eqOutcome_yes w1 ra ra' fa fa' rc rc' fc fc' ⟨oc,res,och,units,cost⟩ hr ho (hR.kept (k0.trans k1)) (hR'.kept (k0.trans k1)) (hF.kept (k0.trans k1)) (hF'.kept (k0.trans k1))
 dsimp only at hoc
 go_wp2_with fail
 refine hoc.mono ?_
 rintro e w2 ⟨rfl,k2⟩
 clear p0 p1 p2 p3 p4 p5 p6 p7 p8 r0 r1 r2 r3 r4 r5 r6 r7 r8 hoc
 have K2:=k1.trans k2
 obtain ⟨⟨p0,p1,p2,p3,p4,p5,p6,p7,p8⟩,r0,r1,r2,r3,r4,r5,r6,r7,r8⟩:=HP.out _ K2
 go_wp2_with fail
 refine (eqSlotS_yes w2 ca ca' cc cc' chain hc (hC.kept (k0.trans K2)) (hC'.kept (k0.trans K2))).mono ?_
 rintro e w3 ⟨rfl,k3⟩
 clear p0 p1 p2 p3 p4 p5 p6 p7 p8 r0 r1 r2 r3 r4 r5 r6 r7 r8
 go_wp2
 go_ret
 exact ⟨rfl,k0.trans (K2.trans k3)⟩
structure PlanAt (w:World) (lo m1 m2 m3 hi:Nat) (sa ra fa ca:Option Addr) (slots:List SlotD) (res:List ResD) (och:List ByteArray) (chain:List SlotD):Prop where
 sl:SltsIn w lo m1 sa slots
 rs:RessIn w m1 m2 ra res
 ch:StrsIn w m2 m3 fa och
 cn:SltsIn w m3 hi ca chain
 l1:lo<=m1
 l2:m1<=m2
 l3:m2<=m3
 l4:m3<=hi
theorem PlanAt.same {slots:List SlotD} {res:List ResD} {och:List ByteArray} {chain:List SlotD} {w w':World} {lo m1 m2 m3 hi:Nat} {sa ra fa ca:Option Addr} (h:PlanAt w lo m1 m2 m3 hi sa ra fa ca slots res och chain) (k:Same lo hi w w'):PlanAt w' lo m1 m2 m3 hi sa ra fa ca slots res och chain:=by
 have h1:=h.l1
 have h2:=h.l2
 have h3:=h.l3
 have h4:=h.l4
 exact ⟨h.sl.same (k.mono (Nat.le_refl _) (by omega)),h.rs.same (k.mono (by omega) (by omega)),h.ch.same (k.mono (by omega) (by omega)),h.cn.same (k.mono (by omega) (Nat.le_refl _)),h1,h2,h3,h4⟩
theorem PlanAt.strs {slots:List SlotD} {res:List ResD} {och:List ByteArray} {chain:List SlotD} {w:World} {lo m1 m2 m3 hi:Nat} {sa ra fa ca:Option Addr} (h:PlanAt w lo m1 m2 m3 hi sa ra fa ca slots res och chain):Slts w sa slots∧Ress w ra res∧Strs w fa och∧Slts w ca chain:= ⟨h.sl.slts,h.rs.ress,h.ch.strs,h.cn.slts⟩
theorem markPlan_any (w:World) (lo m1 m2 m3 hi:Nat) (sa ra fa ca:Option Addr) (sc rc fc cc:Nat) (k:Nat) (h0:0 < k) (h1:k+slots.length * 3+ (res.length * 4+och.length)+chain.length * 3<=4611686018427387904) (hhi:hi<=w.heap.size) (hP:PlanAt w lo m1 m2 m3 hi sa ra fa ca slots res och chain):
  Calls Tryz.prog 15 #[.agg #[.int .i64 code,.slice sa slots.length sc,.int .i64 ticks,.int .i64 oc,.slice ra res.length rc,.slice fa och.length fc,.int .i64 units,.int .i64 cost,.slice ca chain.length cc],.int .i64 k] w fun e w'=> e= .returned (.int .i64 ((k+slots.length * 3+ (res.length * 4+och.length)+chain.length * 3:Nat):Int))∧PlanAt w' lo m1 m2 m3 hi sa ra fa ca (markSlts slots k) (markRess res (k+slots.length * 3)) (markStrs och (k+slots.length * 3+res.length * 4)) (markSlts chain (k+slots.length * 3+ (res.length * 4+och.length)))∧Xk lo hi w w':=by
 obtain ⟨W0,hW0⟩: ∃W0,W0=w.alloc (.cells #[.int .i64 code,.slice sa slots.length sc,.int .i64 ticks,.int .i64 oc,.slice ra res.length rc,.slice fa och.length fc,.int .i64 units,.int .i64 cost,.slice ca chain.length cc] 33):= ⟨_,rfl⟩
 have k0:K_ w W0:=by rw [hW0];exact (K_.refl _).alloc _
 have hrg:=Xz w #[.int .i64 code,.slice sa slots.length sc,.int .i64 ticks,.int .i64 oc,.slice ra res.length rc,.slice fa och.length fc,.int .i64 units,.int .i64 cost,.slice ca chain.length cc] 33
 rw [<-hW0] at hrg
 have z0:w.heap.size < W0.heap.size:=by rw [hW0];simp
 obtain ⟨q1,q2,q3,q4⟩:=And.intro hP.l1 (And.intro hP.l2 (And.intro hP.l3 hP.l4))
 have b1:=hrg 1 _ rfl
 have b3:=hrg 3 _ rfl
 have b4:=hrg 4 _ rfl
 have b5:=hrg 5 _ rfl
 have b6:=hrg 6 _ rfl
 have b7:=hrg 7 _ rfl
 have b8:=hrg 8 _ rfl
 have HP:=Kz hP
 clear hrg hP
 go_enter Tryz.func15,Tryz.ntmps15
 go_wp2_with fail
 rw [<-hW0]
 clear hW0
 refine (markSlotS_any _ lo m1 sa sc slots k h0 (by omega) (HP.out.sl.same (k0.same _ _))).mono ?_
 rintro e w1 ⟨rfl,hS1,kb1⟩
 have s1:=kb1.same (l2:=w.heap.size) (h2:=w.heap.size+1) (by omega)
 have c3:= (s1.cell (o:=3) (Nat.le_refl _) (by omega) z0).trans b3
 have c4:= (s1.cell (o:=4) (Nat.le_refl _) (by omega) z0).trans b4
 have c5:= (s1.cell (o:=5) (Nat.le_refl _) (by omega) z0).trans b5
 have c6:= (s1.cell (o:=6) (Nat.le_refl _) (by omega) z0).trans b6
 have c7:= (s1.cell (o:=7) (Nat.le_refl _) (by omega) z0).trans b7
 have c8:= (s1.cell (o:=8) (Nat.le_refl _) (by omega) z0).trans b8
 obtain ⟨m,hm⟩: ∃m,m=k+slots.length * 3:= ⟨_,rfl⟩
 rw [<-hm] at h1⊢
 have hm0:0 < m:=by omega
 have hz1:=kb1.size
 have z01:w.heap.size < w1.heap.size:=by omega
 have HS1:=Kz hS1
 have HR1:=Kz ((HP.out.rs.same (k0.same _ _)).same (kb1.same (l2:=m1) (h2:=m2) (by omega)))
 have HF1:=Kz ((HP.out.ch.same (k0.same _ _)).same (kb1.same (l2:=m2) (h2:=m3) (by omega)))
 have HC1:=Kz ((HP.out.cn.same (k0.same _ _)).same (kb1.same (l2:=m3) (h2:=hi) (by omega)))
 have HB1:=Kz (((Xk.of_kept k0:Xk lo hi w W0).trans (kb1.mono (Nat.le_refl _) (by omega))))
 have HM:=Kz hm
 have hmo:=markOutcome_any w1 m1 m2 m3 ra fa rc fc ⟨oc,res,och,units,cost⟩ m hm0 (by dsimp only;omega) q2 q3 (by omega) HR1.out HF1.out
 dsimp only at hmo
 clear hm b1 b3 b4 b5 b6 b7 b8 hS1 s1 kb1
 go_wp2_with fail
 refine hmo.mono ?_
 rintro e w2 ⟨rfl,hR2,hF2,kb2⟩
 have s2:=kb2.same (l2:=w.heap.size) (h2:=w.heap.size+1) (by omega)
 have d8:= (s2.cell (o:=8) (Nat.le_refl _) (by omega) z01).trans c8
 obtain ⟨n,hn⟩: ∃n,n=m+res.length * 4+och.length:= ⟨_,rfl⟩
 rw [<-hn]
 have hn0:0 < n:=by omega
 have hnb:n+chain.length * 3<=4611686018427387904:=by omega
 have hz2:=kb2.size
 have HR2:=Kz hR2
 have HF2:=Kz hF2
 have HS2:=Kz (HS1.out.same (kb2.same (l2:=lo) (h2:=m1) (by omega)))
 have HC2:=Kz (HC1.out.same (kb2.same (l2:=m3) (h2:=hi) (by omega)))
 have HB2:=Kz (HB1.out.trans (kb2.mono q1 q4))
 have HN:=Kz hn
 clear hn hmo hR2 hF2 c3 c4 c5 c6 c7 c8 s2 kb2
 go_wp2_with fail
 refine (markSlotS_any _ m3 hi ca cc chain n hn0 hnb HC2.out).mono ?_
 rintro e w3 ⟨rfl,hC3,kb3⟩
 have hN:=HN.out
 have HPl:Hid (PlanAt w3 lo m1 m2 m3 hi sa ra fa ca (markSlts slots k) (markRess res m) (markStrs och (m+res.length * 4)) (markSlts chain (m+ (res.length * 4+och.length)))):=by
  refine ⟨HS2.out.same (kb3.same (l2:=lo) (h2:=m1) (by omega)),HR2.out.same (kb3.same (l2:=m1) (h2:=m2) (by omega)),HF2.out.same (kb3.same (l2:=m2) (h2:=m3) (by omega)), ?_,q1,q2,q3,q4⟩
  rw [<-Nat.add_assoc,<-hN]
  exact hC3
 have HB3:=Kz (HB2.out.trans (kb3.mono (by omega) (Nat.le_refl _)))
 obtain ⟨o,ho⟩: ∃o,o=n+chain.length * 3:= ⟨_,rfl⟩
 rw [<-ho]
 have HO:=Kz ho
 clear hC3 kb3 d8 ho hN
 go_wp2
 go_ret
 exact ⟨ret_int (by have:=HN.out;have:=HO.out;have:=HM.out;omega),by rw [<-HM.out];exact HPl.out,HB3.out⟩
theorem heldPlan_yes (w:World) (sa ra fa ca:Option Addr) (sc rc fc cc:Nat) (k:Nat) (h0:0 < k) (h1:k+slots.length * 3+ (res.length * 4+och.length)+chain.length * 3<=4611686018427387904) (hS:Slts w sa (markSlts slots k)) (hR:Ress w ra (markRess res (k+slots.length * 3))) (hF:Strs w fa (markStrs och (k+slots.length * 3+res.length * 4))) (hC:Slts w ca (markSlts chain (k+slots.length * 3+ (res.length * 4+och.length)))):
  Calls Tryz.prog 16 #[.agg #[.int .i64 code,.slice sa slots.length sc,.int .i64 ticks,.int .i64 oc,.slice ra res.length rc,.slice fa och.length fc,.int .i64 units,.int .i64 cost,.slice ca chain.length cc],.int .i64 k] w fun e w'=> e= .returned (.int .i64 ((k+slots.length * 3+ (res.length * 4+och.length)+chain.length * 3:Nat):Int))∧K_ w w':=by
 obtain ⟨W0,hW0⟩: ∃W0,W0=w.alloc (.cells #[.int .i64 code,.slice sa slots.length sc,.int .i64 ticks,.int .i64 oc,.slice ra res.length rc,.slice fa och.length fc,.int .i64 units,.int .i64 cost,.slice ca chain.length cc] 33):= ⟨_,rfl⟩
 have k0:K_ w W0:=by rw [hW0];exact (K_.refl _).alloc _
 have hrg:=Xz w #[.int .i64 code,.slice sa slots.length sc,.int .i64 ticks,.int .i64 oc,.slice ra res.length rc,.slice fa och.length fc,.int .i64 units,.int .i64 cost,.slice ca chain.length cc] 33
 rw [<-hW0] at hrg
 have z0:w.heap.size < W0.heap.size:=by rw [hW0];simp
 have b1:=hrg 1 _ rfl
 have b3:=hrg 3 _ rfl
 have b4:=hrg 4 _ rfl
 have b5:=hrg 5 _ rfl
 have b6:=hrg 6 _ rfl
 have b7:=hrg 7 _ rfl
 have b8:=hrg 8 _ rfl
 clear hrg
 go_enter Tryz.func16,Tryz.ntmps16
 go_wp2_with fail
 rw [<-hW0]
 clear hW0
 refine (heldSlotS_yes _ sa sc slots k h0 (by omega) (hS.kept k0)).mono ?_
 rintro e w1 ⟨rfl,k1⟩
 have c3:= (k1.cell (o:=3) z0).trans b3
 have c4:= (k1.cell (o:=4) z0).trans b4
 have c5:= (k1.cell (o:=5) z0).trans b5
 have c6:= (k1.cell (o:=6) z0).trans b6
 have c7:= (k1.cell (o:=7) z0).trans b7
 have c8:= (k1.cell (o:=8) z0).trans b8
 obtain ⟨m,hm⟩: ∃m,m=k+slots.length * 3:= ⟨_,rfl⟩
 rw [<-hm] at h1 hR hF hC⊢
 have hm0:0 < m:=by omega
 have hmn: ¬((m:Int) < 0):=by omega
 have K1:=k0.trans k1
 have z01:w.heap.size < w1.heap.size:=Nat.lt_of_lt_of_le z0 k1.size
 have HM:=Kz hm
 have hho:=heldOutcome_yes w1 ra fa rc fc ⟨oc,res,och,units,cost⟩ m hm0 (by dsimp only;omega) (hR.kept K1) (hF.kept K1)
 dsimp only at hho
 have HC:=Kz hC
 clear hm b1 b3 b4 b5 b6 b7 b8 k0 k1 hC hR hF hS
 go_wp2_with fail
 refine hho.mono ?_
 rintro e w2 ⟨rfl,k2⟩
 have d8:= (k2.cell (o:=8) z01).trans c8
 obtain ⟨n,hn⟩: ∃n,n=m+res.length * 4+och.length:= ⟨_,rfl⟩
 rw [<-hn]
 have hn0:0 < n:=by omega
 have hnn: ¬((n:Int) < 0):=by omega
 have hnb:n+chain.length * 3<=4611686018427387904:=by omega
 have HN:=Kz hn
 have K2:=K1.trans k2
 have HC2:Hid (Slts w2 ca (markSlts chain n)):=by
  have h:=HC.out.kept K2
  rw [<-Nat.add_assoc,<-hn] at h
  exact h
 clear hn hho c3 c4 c5 c6 c7 c8 k2
 go_wp2_with fail
 refine (heldSlotS_yes _ ca cc chain n hn0 hnb HC2.out).mono ?_
 rintro e w3 ⟨rfl,k3⟩
 obtain ⟨o,ho⟩: ∃o,o=n+chain.length * 3:= ⟨_,rfl⟩
 rw [<-ho]
 have hon: ¬((o:Int) < 0):=by omega
 have HO:=Kz ho
 clear ho d8
 go_wp2
 go_ret
 exact ⟨ret_int (by have:=HN.out;have:=HM.out;have:=HO.out;omega),K2.trans k3⟩
end
theorem web_len {Kj:List Qq} (h:WebCode Kj 0):Kj.length<=60:=by
 rcases h with ⟨_,h⟩ | ⟨_,_,h⟩ | ⟨_,_,_,h⟩ | ⟨_,_,_,_,h⟩ | ⟨h,_⟩
 ·cases h
 ·cases h
 ·cases h
 ·cases h
 ·omega
theorem web_node {Kj:List Qq} (h:WebCode Kj 0) {k:Nat} (hk:k < Kj.length):NameOk (Kj.getD k Qq.zero).name∧ActionOk ⟨(Kj.getD k Qq.zero).cost,(Kj.getD k Qq.zero).steps⟩:=by
 rcases h with ⟨_,h⟩ | ⟨_,_,h⟩ | ⟨_,_,_,h⟩ | ⟨_,_,_,_,h⟩ | ⟨_,h1,_,h2,_⟩
 ·cases h
 ·cases h
 ·cases h
 ·cases h
 ·refine ⟨Classical.byContradiction fun hc=> h1 ⟨k,hk,hc⟩,Classical.byContradiction fun hc=> h2 ⟨k,hk,hc⟩⟩
theorem web_acts {Kj:List Qq} (h:WebCode Kj 0):ActsOk (Q_ Kj):=fun n A hA=> by
 obtain ⟨k,h1,h2,_,rfl⟩:=acts_first hA
 obtain ⟨g1,g2⟩:=web_node h h1
 rw [h2] at g1
 exact ⟨g2,g1⟩
theorem web_small {Kj:List Qq} (h:WebCode Kj 0):SmallAsks Kj:=fun y hy s hs=> by
 obtain ⟨k,hk,rfl⟩:=List.getElem_of_mem hy
 have h1:= (web_node h hk).2
 simp only [List.getD,List.getElem?_eq_getElem hk,Option.getD_some] at h1
 obtain ⟨i,hi,rfl⟩:=List.getElem_of_mem hs
 have h2:=asks_ok (i:= (i:Int)) h1 (by omega) (by show (i:Int) < ((Kj[k].steps.length:Nat):Int);omega)
 have e:stepOf ⟨Kj[k].cost,Kj[k].steps⟩ (i:Int)=Kj[k].steps[i]:=by simp [stepOf,List.getD,hi]
 rw [e] at h2
 exact ⟨by omega,fun x hx=> by have:= (h2.2 x hx).2.1;omega⟩
structure XVar (wr:World) (xb:Nat) (Kk:List ByteArray) (L:List Qz) (ra:Option Addr) (rc:Nat) (d:Option Addr) (dc:Nat):Prop where
 row:RowT wr xb 53 2
 c0:wr.cell? ⟨xb,0,none⟩=some (.slice ra Kk.length rc)
 c1:wr.cell? ⟨xb,1,none⟩=some (.slice d L.length dc)
 rts:Strs wr ra Kk
 rns:RunsX wr d L
theorem XVar.kept {w w':World} {xb rc dc:Nat} {Kk:List ByteArray} {L:List Qz} {ra d:Option Addr} (h:XVar w xb Kk L ra rc d dc) (k:K_ w w'):XVar w' xb Kk L ra rc d dc:=
 ⟨h.row.kept k,(k.cell h.row.lt).trans h.c0,(k.cell h.row.lt).trans h.c1,h.rts.kept k,h.rns.kept k⟩
theorem XVar.made {w:World} {rc dc:Nat} {Kk:List ByteArray} {L:List Qz} {ra d:Option Addr} (hT:Strs w ra Kk) (hS:RunsX w d L):XVar (w.alloc (.cells #[.slice ra Kk.length rc,.slice d L.length dc] 53)) w.heap.size Kk L ra rc d dc:=
 ⟨RowT.made w _ _,Xz w #[.slice ra Kk.length rc,.slice d L.length dc] 53 0 _ rfl,Xz w #[.slice ra Kk.length rc,.slice d L.length dc] 53 1 _ rfl,hT.kept ((K_.refl _).alloc _),hS.kept ((K_.refl _).alloc _)⟩
theorem XVar.laid {W w':World} {rc dc xb:Nat} {Kk:List ByteArray} {L:List Qz} {ra d:Option Addr} {xs:List Value} (hx:xb < W.heap.size) (hr:RowT w' xb 53 2) (hT:w'.ownsRow W.heap.size 9 1 (.slice ra Kk.length rc) Kk.length (Kk.map Value.string)) (hO:w'.ownsRow W.heap.size 103 7 (.slice d L.length dc) L.length xs) (hP:PackedX w' (fun b=> W.heap.size<=b) xs L):XVar (w'.setCells xb 0 [.slice ra Kk.length rc,.slice d L.length dc]) xb Kk L ra rc d dc:=by
 have hR:=World.rangeAt_setCells_same w' xb 0 [.slice ra Kk.length rc,.slice d L.length dc] (hr.row.there (o:=0) (m:=2) (Nat.le_refl _))
 refine ⟨RowT.sets _ _ hr,hR 0 _ rfl,hR 1 _ rfl, ?_, ?_⟩
 ·have h1:=owns_set (owns_set hT (p:= ⟨xb,0,none⟩) hx (.slice ra Kk.length rc)) (p:= ⟨xb,1,none⟩) hx (.slice d L.length dc)
  obtain ⟨a9,c9,e9,h9⟩:=owned_strs h1
  simp only [Value.slice.injEq,true_and] at e9
  rw [<-e9.1] at h9
  exact h9
 ·have h1:=owns_set (owns_set hO (p:= ⟨xb,0,none⟩) hx (.slice ra Kk.length rc)) (p:= ⟨xb,1,none⟩) hx (.slice d L.length dc)
  have h2:= (hP.set (c:=xb) (p:=0) (fun b h=> by omega) (.slice ra Kk.length rc)).set (c:=xb) (p:=1) (fun b h=> by omega) (.slice d L.length dc)
  obtain ⟨_,a9,c9,e9,h9⟩:=PackedX.runs h1 h2 (K_.refl _)
  simp only [Value.slice.injEq,true_and] at e9
  rw [<-e9.1] at h9
  exact h9.runs
theorem StrsB.but {w w':World} {xb:Nat} {a:Option Addr} {l:List ByteArray} (h:StrsB w xb a l) (k:Xk xb (xb+1) w w'):StrsB w' xb a l:=fun i hi=> by
 obtain ⟨b,o,e,hb,h1,hc⟩:=h i hi
 exact ⟨b,o,e,Nat.lt_of_lt_of_le hb k.size,h1,by rw [World.cell?_of_block (w:=w) (k.block b hb (by omega))];exact hc⟩
theorem StrsB.strs {w:World} {xb:Nat} {a:Option Addr} {l:List ByteArray} (h:StrsB w xb a l):Strs w a l:=fun i hi=> by
 obtain ⟨b,o,e,hb,_,hc⟩:=h i hi
 exact ⟨b,o,e,hb,hc⟩
theorem StrsB.owned {w:World} {base xb:Nat} {t:TypeId} {a:Option Addr} {c:Nat} {l:List ByteArray} (h:w.ownsRow base t 1 (.slice a l.length c) l.length (l.map Value.string)) (hx:xb < base):StrsB w xb a l:=by
 rcases h.2 with ⟨e,h0⟩ | ⟨g,cap,cur,e,hb,hg,hnc,_,_,_⟩
 ·intro i hi;rw [h0] at hi;exact absurd hi (Nat.not_lt_zero _)
 ·intro i hi
  simp only [Value.slice.injEq] at e
  obtain ⟨rfl,_,rfl⟩:=e
  refine ⟨g,0,rfl,heap_lt hg,by omega, ?_⟩
  have:=h.cells (g:=g) rfl i (.string (l.getD i ByteArray.empty)) (by simp [List.getD,hi])
  rw [Addr.add_mid] at this
  exact this
theorem Xk.sets {lo hi:Nat} {a:World} {g:Nat} (h1:lo<=g) (h2:g < hi): ∀(vs:List Value) (o:Nat) {u:World},Xk lo hi a u->Xk lo hi a (u.setCells g o vs)
 | [],_,_,h=> h
 | v :: r,o,_,h=> by rw [World.setCells];exact Xk.sets h1 h2 r (o+1) (h.setCell (p:= ⟨g,o,none⟩) h1 h2 v)
def ValidX (Kj:List Qq) (Kk:List ByteArray) (sl:List Qz):Prop:=WebCode Kj 0∧RootsOk Kk∧sl.length<=Kj.length∧GoalX Kj Kk sl
structure OutV (Kj:List Qq) (Kk:List ByteArray) (sl:List Qz) (L:List Qz) (bb:Bool) (gg:Nat):Prop where
 good:GoodL Kj L
 led: ∃k,Leads (Behind (W:=Q_ Kj) behindS (Qj sl)) (doX (Q_ Kj)) (Qj (startL Kj Kk)) (Qj L) k
 fin:bb=false->AtEnd (Behind (W:=Q_ Kj) behindS (Qj sl)) (Qj L)
 pot:gg=2 * potL Kj L+ (if bb=true then 1 else 0)
theorem OutV.begin {Kj:List Qq} (hw:WebCode Kj 0) (Kk:List ByteArray) (sl:List Qz):OutV Kj Kk sl (startL Kj Kk) true (2 * potL Kj (startL Kj Kk)+1):=
 ⟨startL_good (web_acts hw) Kk,⟨0,.here _⟩,fun h=> (by cases h),rfl⟩
theorem OutV.next {Kj:List Qq} {Kk:List ByteArray} {sl L0 L:List Qz} {ns:List ByteArray} {b:Bool} {gg:Nat} (h0:OutV Kj Kk sl L0 true gg) (hn:ReadyL (Q_ Kj) (Qj L0) L0 ns) (h:RoundX Kj (Qj sl) (Qj (startL Kj Kk)) ns L0 L ns.length b):OutV Kj Kk sl L b (2 * potL Kj L+ (if b=true then 1 else 0))∧2 * potL Kj L+ (if b=true then 1 else 0) < gg:=by
 refine ⟨⟨h.good,h.led,fun hb=> ?_,rfl⟩, ?_⟩
 ·subst hb
  exact (h.atEnd h0.good hn).2
 ·rw [h0.pot]
  cases b with
  | true=> have:=h.yes rfl;simp only [if_true];omega
  | false=> rw [(h.no rfl).1];simp
theorem ValidX.good {Kj:List Qq} {Kk:List ByteArray} {sl:List Qz} (h:ValidX Kj Kk sl):GoodL Kj sl:=by
 obtain ⟨_,_,_,k,L,hg,_,_,rfl⟩:=h
 exact hg
theorem GoodL.texts {Kj:List Qq} {l:List Qz} (h:GoodL Kj l): ∀r∈l,r.texts.length<=1000:=fun r hr=> by
 have h1:= (h.good r hr).tl
 have h2:= (h.good r hr).hi
 omega
def DoneX (Kj:List Qq) (sl:List Qz) (name:ByteArray) (T:List Qz):Prop:=
 (∃r,Qj sl name=some r∧CanGo (Q_ Kj) (Qj sl) r∧T=doL (Q_ Kj) sl r)∨(¬ReadyX (Q_ Kj) (Qj sl) name∧T=sl)
theorem DoneX.good {Kj:List Qq} {sl T:List Qz} {name:ByteArray} (h:DoneX Kj sl name T) (hok:ActsOk (Q_ Kj)) (hg:GoodL Kj sl):GoodL Kj T:=by
 rcases h with ⟨r,h1,h2,rfl⟩ | ⟨_,rfl⟩
 ·exact doL_good hok hg (env_mem h1).1 h2
 ·exact hg
theorem DoneX.unique {Kj:List Qq} {sl T T':List Qz} {name:ByteArray} (h:DoneX Kj sl name T) (h':DoneX Kj sl name T'):T=T':=by
 rcases h with ⟨r,h1,h2,rfl⟩ | ⟨h1,rfl⟩ <;> rcases h' with ⟨r',g1,g2,rfl⟩ | ⟨g1,rfl⟩
 ·rw [h1] at g1;cases g1;rfl
 ·exact absurd ⟨r,h1,h2⟩ g1
 ·exact absurd ⟨r',g1,g2⟩ h1
 ·rfl
def DoEnd (Kj:List Qq) (Kk:List ByteArray) (sl:List Qz) (name:ByteArray) (w w':World) (e:Ending):Prop:=
 (ValidX Kj Kk sl∧∃T,DoneX Kj sl name T∧StateX Kk T w w' e)∨(¬ValidX Kj Kk sl∧e= .returned (.agg #[.slice none 0 0,.slice none 0 0])∧K_ w w')
section
variable {W : Acts}
theorem led_over {σ τ :Env} {k:Nat} (h:Leads (ReadyX W) (doX W) σ τ k) {n:ByteArray} {r:Qz} (hr:σ n=some r) (ho:r.over=true): τ n=some r:=by
 induction h with
 | here s=> exact hr
 | step s t i k hi _ ih=>
  refine ih ?_
  by_cases e:n=i
  ·subst e
   obtain ⟨r',h1,hc⟩:=hi
   rw [hr] at h1
   cases h1
   rw [hc.1] at ho
   cases ho
  ·exact doX_other e hr
theorem led_visits {σ τ :Env} {k:Nat} (h:Leads (ReadyX W) (doX W) σ τ k) (hw:WfX W σ) {n:ByteArray} {r:Qz} (hr:σ n=some r): ∃q, τ n=some q∧r.Zj<=q.Zj:=by
 induction h generalizing r with
 | here s=> exact ⟨r,hr,Int.le_refl _⟩
 | step s t i k hi _ ih=>
  have hw2:=doX_wf hw hi
  by_cases e:n=i
  ·subst e
   obtain ⟨r',h1,hc⟩:=hi
   rw [hr] at h1
   cases h1
   obtain ⟨q,h2,h3⟩:=ih hw2 (doX_here hr)
   have hk:=hw n r hr
   refine ⟨q,h2, ?_⟩
   rcases nextOf_visits hc (by rw [hk.name];exact hk.web) with e | ⟨e1,e,_⟩ <;> omega
  ·exact ih hw2 (doX_other e hr)
theorem led_goal {τ :Env}: ∀{j:Nat} {σ:Env},WfX W σ->Leads (ReadyX W) (doX W) σ τ j->Leads (Behind (W:=W) behindS τ) (doX W) σ τ j:=by
 intro j
 induction j with
 | zero=> intro σ _ h;cases h;exact .here _
 | succ j ih=>
  intro σ hw h
  cases h with
  | step _ _ n _ hn hr=>
   have hw2:=doX_wf hw hn
   have hb:Behind (W:=W) behindS τ σ n:=by
    obtain ⟨r,h2,hc⟩:=hn
    have hk:=hw n r h2
    obtain ⟨q,h7,h8⟩:=led_visits hr hw2 (doX_here h2)
    refine ⟨⟨r,h2,hc⟩,r,q,h2,h7, ?_⟩
    rcases nextOf_visits hc (by rw [hk.name];exact hk.web) with e | ⟨e1,e2,e3⟩
    ·exact .inl (by omega)
    ·have h9:=led_over hr (doX_here h2) e3
     rw [h9] at h7
     cases h7
     exact .inr ⟨e1.trans e2.symm,e3,by omega⟩
   exact .step _ _ n _ hb (ih hw2 hr)
end
theorem led_valid {Kj:List Qq} {Kk:List ByteArray} {L:List Qz} {k:Nat} (hw:WebCode Kj 0) (hr:RootsOk Kk) (hg:GoodL Kj L) (hs:WfX (Q_ Kj) (Qj (startL Kj Kk))) (hl:Leads (ReadyX (Q_ Kj)) (doX (Q_ Kj)) (Qj (startL Kj Kk)) (Qj L) k):ValidX Kj Kk L:=by
 refine ⟨hw,hr,hg.len,k,L,hg,led_goal hs hl,fun n hn=> ?_,rfl⟩
 obtain ⟨⟨r,h1,hc⟩,r',g,h2,h3,h4⟩:=hn
 rw [h1] at h2
 cases h2
 rw [h1] at h3
 cases h3
 rcases h4 with h | ⟨_,h,_⟩
 ·omega
 ·rw [hc.1] at h
  cases h
theorem sp_done {W:Acts} {S:Shop} {n m:ByteArray} {j:Int} (ha:AscX S.T) (hn:Rdy W S n) (hm:Rdy W S m) (h:m≠n):Sp W (doneS W S n j) m↔Sp W S m:=by
 obtain ⟨r,h1,h2⟩:=hm
 obtain ⟨r',h1',h2'⟩:=ready_stays ha hn ⟨r,h1,h2⟩ h
 have e:Qj (doN W S.T n) m=some r:=by
  obtain ⟨x,hx,_⟩:=hn
  unfold doN
  rw [hx]
  simp only
  rw [doL_env ha hx]
  exact doX_other h h1
 rw [e] at h1'
 cases h1'
 constructor
 ·rintro ⟨y,g1,g2,g3⟩
  have g1':Qj (doN W S.T n) m=some y:=g1
  rw [e] at g1'
  cases g1'
  exact ⟨r,h1,h2,g3⟩
 ·rintro ⟨y,g1,g2,g3⟩
  rw [h1] at g1
  cases g1
  exact ⟨r,e,h2',g3⟩
structure Live8 (Kj:List Qq) (wk:Nat) (S:Shop):Prop where
 sane:Sane8 (Q_ Kj) wk S
 good:GoodL Kj S.T
 nsp: ∀n,Bz S n->¬Sp (Q_ Kj) S n
section
variable {Kj : List Qq} {wk : Nat} {S A : Shop}
theorem Live8.done (hok:ActsOk (Q_ Kj)) (h:Live8 Kj wk S) {n:ByteArray} {j:Int} (hn:Rdy (Q_ Kj) S n) (hb: ¬Bz S n) (hj: -1<=j∧j < S.slots.length):Live8 Kj wk (doneS (Q_ Kj) S n j)∧Leads (ReadyX (Q_ Kj)) (doX (Q_ Kj)) (Qj S.T) (Qj (doneS (Q_ Kj) S n j).T) 1:=by
 have hs:=h.sane.done hn hb hj
 refine ⟨⟨hs, ?_,fun m hm=> ?_⟩, ?_⟩
 ·show GoodL Kj (doN (Q_ Kj) S.T n)
  obtain ⟨r,hr,hc⟩:=hn
  unfold doN
  rw [hr]
  exact doL_good hok h.good (env_mem hr).1 hc
 ·have hne:m≠n:=fun e=> hb (by rw [<-e];exact hm)
  obtain ⟨k,e,hk,he⟩:=hm
  intro hsp
  exact h.nsp m ⟨k,e,hk,he⟩ ((sp_done h.sane.ok.asc hn (by rw [<-he];exact h.sane.rdy k e hk) hne).1 hsp)
 ·have hn':=hn
  obtain ⟨r,hr,hc⟩:=hn
  show Leads _ _ _ (Qj (doN (Q_ Kj) S.T n)) 1
  unfold doN
  rw [hr]
  simp only
  rw [doL_env h.sane.ok.asc hr]
  exact .one hn'
theorem Live8.free (h:Live8 Kj wk S) {k:Nat} {e:EffD} (hk:S.busy[k]? =some (some e)):Live8 Kj wk { S with busy:=S.busy.set k none }∧Rdy (Q_ Kj) { S with busy:=S.busy.set k none } e.name∧¬Bz { S with busy:=S.busy.set k none } e.name:=by
 obtain ⟨h1,h2⟩:=h.sane.free hk
 refine ⟨⟨h1,h.good,fun n hn=> ?_⟩,h.sane.rdy k e hk,h2⟩
 obtain ⟨k',e',hk',he'⟩:=hn
 rcases set_get hk' with ⟨_,x⟩ | ⟨_,x⟩
 ·cases x
 ·exact h.nsp n ⟨k',e',x,he'⟩
theorem Fin8.live (hok:ActsOk (Q_ Kj)) {t:Int} (h:Fin8 (Q_ Kj) t S A):Live8 Kj wk S->Live8 Kj wk A∧∃j,Leads (ReadyX (Q_ Kj)) (doX (Q_ Kj)) (Qj S.T) (Qj A.T) j:=by
 induction h with
 | stop=> exact fun hl=> ⟨hl,0,.here _⟩
 | @go S S' k e hk he _ _ ih=>
  intro hl
  obtain ⟨h1,h2,h3⟩:=hl.free hk
  obtain ⟨h4,h5⟩:=h1.done hok h2 h3 (j:=e.slot) ⟨by omega,by have:=hl.sane.slot k e hk;show ((e.slot:Nat):Int) < ((S.slots.length:Nat):Int);omega⟩
  obtain ⟨h6,j,h7⟩:=ih h4
  exact ⟨h6,_,h5.trans h7⟩
theorem Spt8.live (hok:ActsOk (Q_ Kj)) (h:Spt8 (Q_ Kj) S A):Live8 Kj wk S->Live8 Kj wk A∧∃j,Leads (ReadyX (Q_ Kj)) (doX (Q_ Kj)) (Qj S.T) (Qj A.T) j:=by
 induction h with
 | stop=> exact fun hl=> ⟨hl,0,.here _⟩
 | @go S S' n hn _ ih=>
  intro hl
  obtain ⟨h4,h5⟩:=hl.done hok hn.1.ready (fun hb=> hl.nsp n hb hn.1) (hl.sane.caus n)
  obtain ⟨h6,j,h7⟩:=ih h4
  exact ⟨h6,_,h5.trans h7⟩
theorem Live8.begin (h:Live8 Kj wk S) {t:Int} {k:Nat} {n:ByteArray} (hk:S.busy[k]? =some none) (hn:Of (Q_ Kj) S n) (hs: ∀n,¬Sp (Q_ Kj) S n):Live8 Kj wk (beginS (Q_ Kj) S t k n):= ⟨h.sane.begin hk hn,h.good,fun m _ hm=> hs m hm⟩
theorem Beg8.live {t:Int} (h:Beg8 (Q_ Kj) t S A): (∀n,¬Sp (Q_ Kj) S n)->Live8 Kj wk S->Live8 Kj wk A∧A.T=S.T:=by
 induction h with
 | stop=> exact fun _ hl=> ⟨hl,rfl⟩
 | go hk _ hn _ ih=> exact fun hs hl=> ih hs (hl.begin hk hn.1 hs)
theorem Tick8.live (hok:ActsOk (Q_ Kj)) {t:Int} (h:Tick8 (Q_ Kj) t S A) (hl:Live8 Kj wk S):Live8 Kj wk A∧∃j,Leads (ReadyX (Q_ Kj)) (doX (Q_ Kj)) (Qj S.T) (Qj A.T) j:=by
 obtain ⟨S1,S2,h1,h2,h3⟩:=h
 obtain ⟨l1,j1,g1⟩:=h1.live hok hl
 obtain ⟨l2,j2,g2⟩:=h2.live hok l1
 obtain ⟨l3,e⟩:=h3.live h2.busy.2 l2
 exact ⟨l3,_,by rw [e];exact g1.trans g2⟩
theorem Wrk8.live (hok:ActsOk (Q_ Kj)) {t u:Int} (h:Wrk8 (Q_ Kj) t S u A):Live8 Kj wk S->Live8 Kj wk A∧∃j,Leads (ReadyX (Q_ Kj)) (doX (Q_ Kj)) (Qj S.T) (Qj A.T) j:=by
 induction h with
 | last h _=> exact fun hl=> h.live hok hl
 | next h _ _ _ ih=>
  intro hl
  obtain ⟨l1,j1,g1⟩:=h.live hok hl
  obtain ⟨l2,j2,g2⟩:=ih l1
  exact ⟨l2,_,g1.trans g2⟩
end
theorem start8_live {Kj:List Qq} {wk:Nat} {T:List Qz} (hg:GoodL Kj T):Live8 Kj wk (start8 T wk):=by
 refine ⟨start8_sane hg.asc (fun n r hr=> (hg.wf n r hr).web),hg,fun n ⟨k,e,h,_⟩=> ?_⟩
 have h': (List.replicate wk (none:Option EffD))[k]? =some (some e):=h
 rw [List.getElem?_replicate] at h'
 split at h' <;> simp at h'
def resX (W:Acts) (σ:Env) (n:ByteArray):ResD:=
 match ansOf W σ n with
 | some x=> ⟨n,true,x.fail,x.text⟩
 | none=> ⟨n,false,false,⟨#[]⟩⟩
def OpenT (σ:Env):Prop:= ∀n r,σ n=some r->r.over=false->r.fail=false∧r.text= ⟨#[]⟩
theorem arrive_openT {A:ActionD} {r:Qz} (h:r.fail=false∧r.text= ⟨#[]⟩) (ho: (arrive A r).1.over=false): (arrive A r).1.fail=false∧(arrive A r).1.text= ⟨#[]⟩:=by
 unfold arrive at ho⊢
 simp only at ho⊢
 by_cases hf: (stepOf A r.at').fin=true
 ·rw [if_pos hf] at ho;cases ho
 ·rw [if_neg hf];exact h
theorem next_openT {W:Acts} {σ:Env} {r:Qz} (h:r.fail=false∧r.text= ⟨#[]⟩) (ho: (Y_ W σ r).1.over=false): (Y_ W σ r).1.fail=false∧(Y_ W σ r).1.text= ⟨#[]⟩:=by
 unfold Y_ at ho⊢
 cases hA:W r.name with
 | none=> exact h
 | some A=>
  rw [hA] at ho
  simp only at ho⊢
  by_cases hv:r.Zj=0
  ·rw [if_pos hv] at ho⊢;exact arrive_openT h ho
  ·rw [if_neg hv] at ho⊢
   cases hx:Yq W σ (stepOf A r.at').asks with
   | none=> exact h
   | some xs=>
    rw [hx] at ho
    simp only at ho⊢
    by_cases h20:r.Zj=20
    ·rw [if_pos h20] at ho;cases ho
    ·rw [if_neg h20] at ho⊢
     by_cases hgo: (goOnF (stepOf A r.at') xs).over=true
     ·rw [if_pos hgo] at ho;cases ho
     ·rw [if_neg hgo] at ho⊢;exact arrive_openT (by exact h) ho
theorem OpenT.did {W:Acts} {σ:Env} (h:OpenT σ) {n:ByteArray} (hn:ReadyX W σ n):OpenT (doX W σ n):=by
 obtain ⟨r,hr,hc⟩:=hn
 intro m q hq ho
 rw [doX_eq hr] at hq
 by_cases e:m=n
 ·rw [if_pos e] at hq
  cases hq
  exact next_openT (h n r hr hc.1) ho
 ·rw [if_neg e] at hq
  cases hm:σ m with
  | some x=> rw [hm] at hq;cases hq;exact h m _ hm ho
  | none=>
   rw [hm] at hq
   simp only at hq
   split at hq
   ·cases hq;exact ⟨rfl,rfl⟩
   ·cases hq
theorem ValidX.openT {Kj:List Qq} {Kk:List ByteArray} {sl:List Qz} (hv:ValidX Kj Kk sl):OpenT (Qj sl):=by
 obtain ⟨_,_,_,j,L,hgL,hl,_,rfl⟩:=hv
 refine hl.keeps (P:=OpenT) (fun σ m h hm=> h.did hm.1) (fun m r hr ho=> ?_)
 rw [startL_env] at hr
 split at hr
 ·cases hr;exact ⟨rfl,rfl⟩
 ·cases hr
def dResCells (l:List ResD):List Value:= (l.map ResD.cells).flatten
theorem dResCells_length (l:List ResD): (dResCells l).length=l.length * 4:=by
 induction l with
 | nil=> rfl
 | cons c r ih=> simp only [dResCells,List.map_cons,List.flatten_cons,List.length_append,List.length_cons] at ih⊢;rw [ih];simp [ResD.cells];omega
theorem dResCells_snoc (l:List ResD) (c:ResD):dResCells (l++ [c])=dResCells l++c.cells:=by simp [dResCells]
theorem dResCells_get : ∀(l:List ResD) (i j:Nat),i < l.length->j < 4->(dResCells l)[i * 4+j]? = ((l.getD i ResD.zero).cells)[j]?
 | [],_,_,h,_=> absurd h (Nat.not_lt_zero _)
 | c :: r,0,j,_,hj=> by
  have e:dResCells (c :: r)=c.cells++dResCells r:=rfl
  rw [e,Nat.zero_mul,Nat.zero_add,List.getElem?_append_left (by simpa [ResD.cells] using hj)]
  rfl
 | c :: r,i+1,j,h,hj=> by
  have e:dResCells (c :: r)=c.cells++dResCells r:=rfl
  have hl:c.cells.length=4:=rfl
  rw [e,List.getElem?_append_right (by rw [hl];omega),hl,show (i+1) * 4+j - 4=i * 4+j by omega,dResCells_get r i j (by simpa using h) hj]
  rfl
theorem owned_ress {w:World} {base:Nat} {t:TypeId} {v:Value} {n:Nat} {l:List ResD} (h:w.ownsRow base t 4 v n (dResCells l)): ∃a cap,v= .slice a l.length cap∧Ress w a l:=by
 have hn:n=l.length:=by have:=h.1;rw [dResCells_length] at this;omega
 subst hn
 rcases h.2 with ⟨rfl,h0⟩ | ⟨g,cap,cur,rfl,hb,hg,hnc,_,_,_⟩
 ·exact ⟨none,0,by rw [h0],fun i hi=> by omega⟩
 ·refine ⟨_,cap,rfl,fun i hi=> ⟨g,0,rfl,heap_lt hg,fun j u hu=> ?_⟩⟩
  have hj:j < 4:=by have:= (List.getElem?_eq_some_iff.1 hu).1;simpa [ResD.cells] using this
  have:=h.cells (g:=g) rfl (i * 4+j) u (by rw [dResCells_get l i j hi hj];exact hu)
  rw [Addr.add_mid,Nat.zero_add] at this
  rw [Nat.zero_add]
  exact this
def belowB :ByteArray:= ⟨#[98,101,108,111,119,32]⟩
theorem below_inj {a b:ByteArray} (h:belowB++a=belowB++b):a=b:=by
 have h1:=congrArg (fun x:ByteArray=> x.data.toList) h
 simp only [ByteArray.data_append,Array.toList_append] at h1
 exact ByteArray.ext (Array.toList_inj.1 (List.append_cancel_left h1))
theorem below_spent {b:ByteArray}:belowB++b≠spentB:=fun h=> by
 have h1:=congrArg ByteArray.size h
 rw [ByteArray.size_append] at h1
 have h2:belowB.size=6:=by decide
 have h3:spentB.size=5:=by decide
 omega
section
variable (W : Acts) (σ : Env)
inductive WhyC :ByteArray->List ByteArray->Prop
 | gone {n:ByteArray} (h:σ n=none):WhyC n [n]
 | own {n:ByteArray} {r:Qz} {A:ActionD} (h:σ n=some r) (ho:r.over=true) (hf:r.fail=true) (hA:W n=some A) (he: (stepOf A r.at').fin=true∨r.text=spentB):WhyC n [n]
 | more {n b:ByteArray} {l:List ByteArray} {r:Qz} {A:ActionD} (h:σ n=some r) (ho:r.over=true) (hf:r.fail=true) (hA:W n=some A) (hn: (stepOf A r.at').fin=false) (ht:r.text=belowB++b) (hb:1<=b.size) (hc:WhyC b l):WhyC n (n :: l)
def WhyX (n:ByteArray) (out:List ByteArray):Prop:=
 (σ n=none∧out=[])∨(∃r,σ n=some r∧¬(r.over=true∧r.fail=true)∧out=[])∨(∃r,σ n=some r∧r.over=true∧r.fail=true∧WhyC W σ n out)
structure WhyInv (k:Nat) (ord:ByteArray->Nat):Prop where
 lt: ∀n r,σ n=some r->r.over=true->ord n < k
 ok: ∀n r,σ n=some r->r.over=true->r.fail=true->∃A,W n=some A∧(((stepOf A r.at').fin=true∨r.text=spentB)∨
  (∃b,(stepOf A r.at').fin=false∧b∈(stepOf A r.at').asks∧r.text=belowB++b∧((W b=none∧σ b=none)∨∃q,σ b=some q∧q.over=true∧q.fail=true∧ord b < ord n)))
end
theorem WhyC.unique {W:Acts} {σ:Env} {n:ByteArray} {l m:List ByteArray} (h:WhyC W σ n l) (g:WhyC W σ n m):l=m:=by
 induction h generalizing m with
 | gone h=>
  cases g with
  | gone=> rfl
  | own=> rfl
  | more h'=> rw [h] at h';cases h'
 | own h ho hf hA he=>
  cases g with
  | gone=> rfl
  | own=> rfl
  | more h' ho' hf' hA' hn' ht'=>
   rw [h] at h';cases h'
   rw [hA] at hA';cases hA'
   rcases he with e | e
   ·rw [hn'] at e;cases e
   ·rw [e] at ht';exact absurd ht'.symm below_spent
 | more h ho hf hA hn ht hb hc ih=>
  cases g with
  | gone h'=> rw [h] at h';cases h'
  | own h' ho' hf' hA' he'=>
   rw [h] at h';cases h'
   rw [hA] at hA';cases hA'
   rcases he' with e | e
   ·rw [hn] at e;cases e
   ·rw [e] at ht;exact absurd ht.symm below_spent
  | more h' ho' hf' hA' hn' ht' hb' hc'=>
   rw [h] at h';cases h'
   have e:=below_inj (ht.symm.trans ht')
   subst e
   rw [ih hc']
theorem WhyX.unique {W:Acts} {σ:Env} {n:ByteArray} {l m:List ByteArray} (h:WhyX W σ n l) (g:WhyX W σ n m):l=m:=by
 rcases h with ⟨h1,rfl⟩ | ⟨r,h1,h2,rfl⟩ | ⟨r,h1,h2,h3,h4⟩ <;> rcases g with ⟨g1,rfl⟩ | ⟨q,g1,g2,rfl⟩ | ⟨q,g1,g2,g3,g4⟩
 ·rfl
 ·rfl
 ·rw [h1] at g1;cases g1
 ·rfl
 ·rfl
 ·rw [h1] at g1;cases g1;exact absurd ⟨g2,g3⟩ h2
 ·rw [h1] at g1;cases g1
 ·rw [h1] at g1;cases g1;exact absurd ⟨h2,h3⟩ g2
 ·exact h4.unique g4
theorem WhyC.len {W:Acts} {σ:Env} {n:ByteArray} {l:List ByteArray} (h:WhyC W σ n l):1<=l.length:=by
 cases h <;> simp
theorem WhyC.head {W:Acts} {σ:Env} {n:ByteArray} {l:List ByteArray} (h:WhyC W σ n l): ∃m,l=n :: m:=by
 cases h with
 | gone=> exact ⟨[],rfl⟩
 | own=> exact ⟨[],rfl⟩
 | more=> exact ⟨_,rfl⟩
theorem answersOf_at {W:Acts} {σ:Env}: ∀{l:List ByteArray} {xs:List Xq},Yq W σ l=some xs->∀{i:Nat},i < xs.length->i < l.length∧ansOf W σ (l.getD i ByteArray.empty)=some (xs.getD i Xq.zero)
 | [],xs,h,i,hi=> by
  simp only [Yq,Option.some.injEq] at h
  subst h
  simp at hi
 | a :: l,xs,h,i,hi=> by
  unfold Yq at h
  cases ha:ansOf W σ a with
  | none=> simp [ha] at h
  | some x=>
   cases hl:Yq W σ l with
   | none=> simp [ha,hl] at h
   | some ys=>
    simp only [ha,hl,Option.some.injEq] at h
    subst h
    cases i with
    | zero=> exact ⟨by simp,by simpa using ha⟩
    | succ i=>
     obtain ⟨h1,h2⟩:=answersOf_at hl (i:=i) (by simpa using hi)
     exact ⟨by simpa using h1,by simpa using h2⟩
theorem goodEnv_do {Kj:List Qq} {σ:Env} {n:ByteArray} (hok:ActsOk (Q_ Kj)) (h:GoodEnv Kj σ) (hr:ReadyX (Q_ Kj) σ n):GoodEnv Kj (doX (Q_ Kj) σ n):=by
 obtain ⟨r,hr,hc⟩:=hr
 intro m q hq
 rw [doX_eq hr] at hq
 by_cases e:m=n
 ·rw [if_pos e] at hq
  cases hq
  exact ⟨by rw [nextOf_name,e];exact (h n r hr).1,nextOf_good hok h (h n r hr).2 hc⟩
 ·rw [if_neg e] at hq
  cases hm:σ m with
  | some x=>
   rw [hm] at hq
   cases hq
   exact h m _ hm
  | none=>
   rw [hm] at hq
   simp only at hq
   split at hq
   ·rename_i h2
    cases hq
    exact ⟨rfl,fresh_good hok h2.2⟩
   ·cases hq
theorem next_why {Kj:List Qq} {σ:Env} {r:Qz} (hg:GoodEnv Kj σ) (hr:σ r.name=some r) (hc:CanGo (Q_ Kj) σ r) (ho: (Y_ (Q_ Kj) σ r).1.over=true): ∃A,Q_ Kj r.name=some A∧(((stepOf A (Y_ (Q_ Kj) σ r).1.at').fin=true∨(Y_ (Q_ Kj) σ r).1.text=spentB)∨
  (∃b,(stepOf A (Y_ (Q_ Kj) σ r).1.at').fin=false∧b∈(stepOf A (Y_ (Q_ Kj) σ r).1.at').asks∧(Y_ (Q_ Kj) σ r).1.text=belowB++b∧∃x,ansOf (Q_ Kj) σ b=some x∧x.fail=true)):=by
 have hgd:= (hg _ _ hr).2
 obtain ⟨A,hA,_,_⟩:=hgd.act
 refine ⟨A,hA, ?_⟩
 have harr: ∀q:Qz,q.over=false->(arrive A q).1.over=true->(stepOf A (arrive A q).1.at').fin=true:=fun q hq h=> by
  unfold arrive at h⊢
  simp only at h⊢
  by_cases hf: (stepOf A q.at').fin=true
  ·rw [if_pos hf];exact hf
  ·rw [if_neg hf] at h;simp only at h;rw [hq] at h;cases h
 unfold Y_ at ho⊢
 rw [hA] at ho⊢
 simp only at ho⊢
 by_cases hv:r.Zj=0
 ·rw [if_pos hv] at ho⊢
  exact .inl (.inl (harr r hc.1 ho))
 ·rw [if_neg hv] at ho⊢
  rcases hc.2 with e | ⟨A',xs,hA',hxs⟩
  ·exact absurd e hv
  ·rw [hA] at hA'
   cases hA'
   rw [hxs] at ho⊢
   simp only at ho⊢
   by_cases h20:r.Zj=20
   ·rw [if_pos h20]
    exact .inl (.inr rfl)
   ·rw [if_neg h20] at ho⊢
    by_cases hgo: (goOnF (stepOf A r.at') xs).over=true
    ·rw [if_pos hgo]
     refine .inr ?_
     show∃b,(stepOf A r.at').fin=false∧b∈(stepOf A r.at').asks∧(goOnF (stepOf A r.at') xs).text=belowB++b∧_
     unfold goOnF at hgo⊢
     cases hf:failAt xs 0 with
     | none=> rw [hf] at hgo;simp at hgo
     | some i=>
      rw [hf] at hgo
      simp only at hgo⊢
      obtain ⟨j,e1,h2,h3,_⟩:=failAt_some hf
      have e2:i=j:=by omega
      subst e2
      by_cases hfa: (stepOf A r.at').fall= -1
      ·rw [if_pos hfa]
       obtain ⟨g1,g2⟩:=answersOf_at hxs h2
       refine ⟨(stepOf A r.at').asks.getD i ByteArray.empty,hgd.stp A hA hc.1 hv, ?_,rfl,_,g2,h3⟩
       simp only [List.getD,List.getElem?_eq_getElem g1,Option.getD_some]
       exact List.getElem_mem g1
      ·rw [if_neg hfa] at hgo;simp at hgo
    ·rw [if_neg hgo] at ho⊢
     exact .inl (.inl (harr { r with texts:=r.texts++goodOf xs,at':= (goOnF (stepOf A r.at') xs).at' } hc.1 ho))
theorem WhyInv.did {Kj:List Qq} {σ:Env} {k:Nat} {ord:ByteArray->Nat} (h:WhyInv (Q_ Kj) σ k ord) (hg:GoodEnv Kj σ) {n:ByteArray} (hn:ReadyX (Q_ Kj) σ n):WhyInv (Q_ Kj) (doX (Q_ Kj) σ n) (k+1) (fun m=> if m=n then k else ord m):=by
 obtain ⟨r,hr,hc⟩:=hn
 have hrn:r.name=n:= (hg n r hr).1
 have hwn: ∀m,Q_ Kj m=none->σ m=none:=fun m hm=> by
  cases h1:σ m with
  | none=> rfl
  | some q=>
   obtain ⟨g1,g2⟩:=hg m q h1
   obtain ⟨A,hA,_⟩:=g2.act
   rw [g1,hm] at hA
   cases hA
 have old: ∀m q,m≠n->doX (Q_ Kj) σ n m=some q->q.over=true->σ m=some q:=fun m q e hq ho=> by
  rw [doX_eq hr,if_neg e] at hq
  cases hm:σ m with
  | some x=> rw [hm] at hq;exact hq
  | none=>
   rw [hm] at hq
   simp only at hq
   split at hq
   ·cases hq;cases ho
   ·cases hq
 have keep: ∀b q,σ b=some q->q.over=true->b≠n∧doX (Q_ Kj) σ n b=some q:=fun b q hb ho=> by
  have hne:b≠n:=fun e=> by
   rw [e,hr] at hb
   cases hb
   rw [hc.1] at ho
   cases ho
  exact ⟨hne,doX_other hne hb⟩
 have none: ∀b,Q_ Kj b=none->doX (Q_ Kj) σ n b=none:=fun b hb=> by
  have hne:b≠n:=fun e=> by
   have:=hwn b hb
   rw [e,hr] at this
   cases this
  rw [doX_eq hr,if_neg hne,hwn b hb]
  simp only
  rw [if_neg (by rw [hb];simp)]
 refine ⟨fun m q hq ho=> ?_,fun m q hq ho hf=> ?_⟩
 ·by_cases e:m=n
  ·simp only [if_pos e];omega
  ·simp only [if_neg e]
   have:=h.lt m q (old m q e hq ho) ho
   omega
 ·by_cases e:m=n
  ·subst e
   rw [doX_here hr] at hq
   cases hq
   obtain ⟨A,hA,h2⟩:=next_why hg (by rw [hrn];exact hr) hc ho
   rw [hrn] at hA
   refine ⟨A,hA,h2.imp id ?_⟩
   rintro ⟨b,g1,g2,g3,x,g4,g5⟩
   refine ⟨b,g1,g2,g3, ?_⟩
   unfold ansOf at g4
   cases hb:Q_ Kj b with
   | none=> exact .inl ⟨rfl,none b hb⟩
   | some B=>
    rw [hb] at g4
    simp only at g4
    cases hs:σ b with
    | none=> rw [hs] at g4;cases g4
    | some q=>
     rw [hs] at g4
     simp only at g4
     by_cases hqo:q.over=true
     ·rw [if_pos hqo] at g4
      cases g4
      obtain ⟨k1,k2⟩:=keep b q hs hqo
      exact .inr ⟨q,k2,hqo,g5,by simp only [if_neg k1,if_true];exact h.lt b q hs hqo⟩
     ·rw [if_neg hqo] at g4
      cases g4
  ·obtain ⟨A,hA,h2⟩:=h.ok m q (old m q e hq ho) ho hf
   refine ⟨A,hA,h2.imp id ?_⟩
   rintro ⟨b,g1,g2,g3,⟨g4,_⟩ | ⟨p,g4,g5,g6,g7⟩⟩
   ·exact ⟨b,g1,g2,g3,.inl ⟨g4,none b g4⟩⟩
   ·obtain ⟨k1,k2⟩:=keep b p g4 g5
    exact ⟨b,g1,g2,g3,.inr ⟨p,k2,g5,g6,by simp only [if_neg k1,if_neg e];exact g7⟩⟩
theorem WhyInv.chain {Kj:List Qq} {σ:Env} {k:Nat} {ord:ByteArray->Nat} (hok:ActsOk (Q_ Kj)) (h:WhyInv (Q_ Kj) σ k ord) (hg:GoodEnv Kj σ): ∀(m:Nat) (n:ByteArray) (r:Qz),ord n<=m->σ n=some r->r.over=true->r.fail=true->∃l,WhyC (Q_ Kj) σ n l∧l.length<=ord n+2∧∀x∈l,1<=x.size∧x.size<=20:=by
 intro m
 induction m with
 | zero=>
  intro n r hm hr ho hf
  obtain ⟨A,hA,h2 | ⟨b,g1,g2,g3,⟨g4,g5⟩ | ⟨p,g4,g5,g6,g7⟩⟩⟩:=h.ok n r hr ho hf
  ·exact ⟨[n],.own hr ho hf hA h2,by simp,fun x hx=> by rw [List.mem_singleton] at hx;rw [hx];exact ⟨(hok n A hA).2.1,(hok n A hA).2.2.1⟩⟩
  ·obtain ⟨A',hA',h0,h1⟩:= (hg n r hr).2.act
   rw [(hg n r hr).1,hA] at hA'
   cases hA'
   have hb:= (asks_ok (hok n A hA).1 h0 h1).2 b g2
   exact ⟨[n,b],.more hr ho hf hA g1 g3 hb.1 (.gone g5),by simp,fun x hx=> by
    rcases List.mem_cons.1 hx with rfl | hx
    ·exact ⟨(hok x A hA).2.1,(hok x A hA).2.2.1⟩
    ·rw [List.mem_singleton] at hx;rw [hx];exact ⟨hb.1,hb.2.1⟩⟩
  ·omega
 | succ m ih=>
  intro n r hm hr ho hf
  obtain ⟨A,hA,h2 | ⟨b,g1,g2,g3,⟨g4,g5⟩ | ⟨p,g4,g5,g6,g7⟩⟩⟩:=h.ok n r hr ho hf
  ·exact ⟨[n],.own hr ho hf hA h2,by simp,fun x hx=> by rw [List.mem_singleton] at hx;rw [hx];exact ⟨(hok n A hA).2.1,(hok n A hA).2.2.1⟩⟩
  ·obtain ⟨A',hA',h0,h1⟩:= (hg n r hr).2.act
   rw [(hg n r hr).1,hA] at hA'
   cases hA'
   have hb:= (asks_ok (hok n A hA).1 h0 h1).2 b g2
   exact ⟨[n,b],.more hr ho hf hA g1 g3 hb.1 (.gone g5),by simp,fun x hx=> by
    rcases List.mem_cons.1 hx with rfl | hx
    ·exact ⟨(hok x A hA).2.1,(hok x A hA).2.2.1⟩
    ·rw [List.mem_singleton] at hx;rw [hx];exact ⟨hb.1,hb.2.1⟩⟩
  ·obtain ⟨l,k1,k2,k3⟩:=ih b p (by omega) g4 g5 g6
   obtain ⟨A',hA',h0,h1⟩:= (hg n r hr).2.act
   rw [(hg n r hr).1,hA] at hA'
   cases hA'
   have hb:= (asks_ok (hok n A hA).1 h0 h1).2 b g2
   exact ⟨n :: l,.more hr ho hf hA g1 g3 hb.1 k1,by simp only [List.length_cons];omega,fun x hx=> by
    rcases List.mem_cons.1 hx with rfl | hx
    ·exact ⟨(hok x A hA).2.1,(hok x A hA).2.2.1⟩
    ·exact k3 x hx⟩
def OpenOk (σ:Env):Prop:= ∀n r,σ n=some r->r.over=false->r.fail=false
theorem arrive_open {A:ActionD} {r:Qz} (h:r.fail=false) (ho: (arrive A r).1.over=false): (arrive A r).1.fail=false:=by
 unfold arrive at ho⊢
 simp only at ho⊢
 by_cases hf: (stepOf A r.at').fin=true
 ·rw [if_pos hf] at ho;cases ho
 ·rw [if_neg hf];exact h
theorem next_open {W:Acts} {σ:Env} {r:Qz} (h:r.fail=false) (ho: (Y_ W σ r).1.over=false): (Y_ W σ r).1.fail=false:=by
 unfold Y_ at ho⊢
 cases hA:W r.name with
 | none=> exact h
 | some A=>
  rw [hA] at ho
  simp only at ho⊢
  by_cases hv:r.Zj=0
  ·rw [if_pos hv] at ho⊢;exact arrive_open h ho
  ·rw [if_neg hv] at ho⊢
   cases hx:Yq W σ (stepOf A r.at').asks with
   | none=> exact h
   | some xs=>
    rw [hx] at ho
    simp only at ho⊢
    by_cases h20:r.Zj=20
    ·rw [if_pos h20] at ho;cases ho
    ·rw [if_neg h20] at ho⊢
     by_cases hgo: (goOnF (stepOf A r.at') xs).over=true
     ·rw [if_pos hgo] at ho;cases ho
     ·rw [if_neg hgo] at ho⊢;exact arrive_open (by exact h) ho
theorem OpenOk.did {W:Acts} {σ:Env} (h:OpenOk σ) {n:ByteArray} (hn:ReadyX W σ n):OpenOk (doX W σ n):=by
 obtain ⟨r,hr,hc⟩:=hn
 intro m q hq ho
 rw [doX_eq hr] at hq
 by_cases e:m=n
 ·rw [if_pos e] at hq
  cases hq
  exact next_open (h n r hr hc.1) ho
 ·rw [if_neg e] at hq
  cases hm:σ m with
  | some x=> rw [hm] at hq;cases hq;exact h m _ hm ho
  | none=>
   rw [hm] at hq
   simp only at hq
   split at hq
   ·cases hq;rfl
   ·cases hq
theorem ValidX.open {Kj:List Qq} {Kk:List ByteArray} {sl:List Qz} (hv:ValidX Kj Kk sl):OpenOk (Qj sl):=by
 obtain ⟨_,_,_,j,L,hgL,hl,_,rfl⟩:=hv
 refine hl.keeps (P:=OpenOk) (fun σ m h hm=> h.did hm.1) (fun m r hr ho=> ?_)
 rw [startL_env] at hr
 split at hr
 ·cases hr;rfl
 ·cases hr
theorem ValidX.why {Kj:List Qq} {Kk:List ByteArray} {sl:List Qz} (hv:ValidX Kj Kk sl) (n:ByteArray): ∃out,WhyX (Q_ Kj) (Qj sl) n out∧out.length<=1400∧∀x∈out,1<=x.size∧x.size<=20:=by
 have hok:=web_acts hv.1
 have hp:potL Kj (startL Kj Kk)<=1380:=by
  have h1:=potL_le23 Kj (startL Kj Kk)
  have h2:=web_len hv.1
  omega
 obtain ⟨_,_,_,j,L,hgL,hl,_,rfl⟩:=hv
 have hs:=startL_good hok Kk
 have hinv: (fun σ:Env=> GoodEnv Kj σ∧∃k ord,k+potAll (Kj.map (·.name)) σ<=1380∧WhyInv (Q_ Kj) σ k ord) (Qj L):=by
  refine hl.keeps (P:=fun σ:Env=> GoodEnv Kj σ∧∃k ord,k+potAll (Kj.map (·.name)) σ<=1380∧WhyInv (Q_ Kj) σ k ord) ?_ ⟨hs.env,0,fun _=> 0,by unfold potL at hp;omega,⟨fun m r hr ho=> ?_,fun m r hr ho=> ?_⟩⟩
  ·rintro σ m ⟨hg,k,ord,hk,hI⟩ hm
   have hwf:WfX (Q_ Kj) σ:=fun a r hr=> by
    obtain ⟨h1,h2⟩:=hg a r hr
    obtain ⟨A,hA,_⟩:=h2.act
    exact ⟨h1,by rw [<-h1,hA];rfl,h2.lo,h2.hi⟩
   refine ⟨goodEnv_do hok hg hm.1,k+1,_, ?_,hI.did hg hm.1⟩
   obtain ⟨r,hr,_⟩:=hm.1
   have:= (potAll_do hwf hm.1 (Kj.map (·.name))).2 (acts_in (hwf m r hr).web)
   omega
  ·rw [startL_env] at hr
   split at hr
   ·cases hr;cases ho
   ·cases hr
  ·rw [startL_env] at hr
   split at hr
   ·cases hr;cases ho
   ·cases hr
 obtain ⟨hg,k,ord,hk,hI⟩:=hinv
 cases hn:Qj L n with
 | none=> exact ⟨[],.inl ⟨hn,rfl⟩,by simp,fun x hx=> by cases hx⟩
 | some r=>
  by_cases hof:r.over=true∧r.fail=true
  ·obtain ⟨l,h1,h2,h3⟩:=hI.chain hok hg (ord n) n r (Nat.le_refl _) hn hof.1 hof.2
   have:=hI.lt n r hn hof.1
   exact ⟨l,.inr (.inr ⟨r,hn,hof.1,hof.2,h1⟩),by omega,h3⟩
  ·exact ⟨[],.inr (.inl ⟨r,hn,hof,rfl⟩),by simp,fun x hx=> by cases hx⟩
def WhyAns (Kj:List Qq) (Kk:List ByteArray) (sl:List Qz) (name:ByteArray) (ns:List ByteArray):Prop:= (ValidX Kj Kk sl∧WhyX (Q_ Kj) (Qj sl) name ns)∨(¬ValidX Kj Kk sl∧ns=[])
theorem WhyAns.len {Kj:List Qq} {Kk:List ByteArray} {sl:List Qz} {name:ByteArray} {ns:List ByteArray} (h:WhyAns Kj Kk sl name ns):ns.length<=1400:=by
 rcases h with ⟨h1,h2⟩ | ⟨_,rfl⟩
 ·obtain ⟨out,g1,g2,_⟩:=h1.why name
  rw [h2.unique g1]
  exact g2
 ·exact Nat.zero_le _
theorem WhyAns.one {Kj:List Qq} {Kk:List ByteArray} {sl:List Qz} {name:ByteArray} {ns ms:List ByteArray} (h:WhyAns Kj Kk sl name ns) (k:WhyAns Kj Kk sl name ms):ms=ns:=by
 rcases h with ⟨h1,h2⟩ | ⟨h1,h2⟩
 ·rcases k with ⟨k1,k2⟩ | ⟨k1,k2⟩
  ·exact k2.unique h2
  ·exact absurd h1 k1
 ·rcases k with ⟨k1,k2⟩ | ⟨k1,k2⟩
  ·exact absurd k1 h1
  ·rw [h2,k2]
def AscB (l:List ByteArray):Prop:=l.Pairwise lessX
theorem ascB_eq : ∀{l m:List ByteArray},AscB l->AscB m->(∀s,s∈l↔s∈m)->l=m
 | [],[],_,_,_=> rfl
 | [],y :: m,_,_,h=> by have:= (h y).2 (by simp);cases this
 | x :: l,[],_,_,h=> by have:= (h x).1 (by simp);cases this
 | x :: l,y :: m,hl,hm,h=> by
  obtain ⟨h1,h2⟩:=List.pairwise_cons.1 hl
  obtain ⟨g1,g2⟩:=List.pairwise_cons.1 hm
  have e:x=y:=by
   rcases List.mem_cons.1 ((h x).1 (by simp)) with e | e
   ·exact e
   ·rcases List.mem_cons.1 ((h y).2 (by simp)) with e' | e'
    ·exact e'.symm
    ·exact absurd (h1 y e') (lessX_asymm (g1 x e))
  subst e
  congr 1
  refine ascB_eq h2 g2 (fun s=> ?_)
  constructor
  ·intro hs
   rcases List.mem_cons.1 ((h s).1 (List.mem_cons_of_mem _ hs)) with e | e
   ·rw [e] at hs;exact absurd (h1 x hs) (lessX_irrefl x)
   ·exact e
  ·intro hs
   rcases List.mem_cons.1 ((h s).2 (List.mem_cons_of_mem _ hs)) with e | e
   ·rw [e] at hs;exact absurd (g1 x hs) (lessX_irrefl x)
   ·exact e
theorem AscB.nodup {l:List ByteArray} (h:AscB l):l.Nodup:=h.imp fun hx=> lessX_ne hx
def PutB (l:List ByteArray) (x:ByteArray) (r:List ByteArray):Prop:= (x∈l∧r=l)∨(x∉l∧∃k,k<=l.length∧r=l.take k++x :: l.drop k∧(∀y∈l.take k,lessX y x)∧∀y∈l.drop k,lessX x y)
theorem PutB.asc {l r:List ByteArray} {x:ByteArray} (h:PutB l x r) (ha:AscB l):AscB r∧∀s,s∈r↔s∈l∨s=x:=by
 rcases h with ⟨h1,rfl⟩ | ⟨h1,k,hk,rfl,h2,h3⟩
 ·exact ⟨ha,fun s=> ⟨.inl,fun h=> h.elim id (fun e=> by rw [e];exact h1)⟩⟩
 ·have h4:AscB (l.take k++l.drop k):=by rw [List.take_append_drop];exact ha
  unfold AscB at h4⊢
  rw [List.pairwise_append] at h4⊢
  refine ⟨⟨h4.1,List.pairwise_cons.2 ⟨h3,h4.2.1⟩,fun a ha b hb=> ?_⟩,fun s=> ?_⟩
  ·rcases List.mem_cons.1 hb with rfl | hb
   ·exact h2 a ha
   ·exact h4.2.2 a ha b hb
  ·rw [List.mem_append,List.mem_cons]
   constructor
   ·rintro (h | h | h)
    ·exact .inl (List.mem_of_mem_take h)
    ·exact .inr h
    ·exact .inl (List.mem_of_mem_drop h)
   ·rintro (h | h)
    ·rw [<-List.take_append_drop k l] at h
     rcases List.mem_append.1 h with h | h
     ·exact .inl h
     ·exact .inr (.inr h)
    ·exact .inr (.inl h)
section
variable (W : Acts) (σ : Env)
def OpenN (s:ByteArray):Prop:= ∃q,σ s=some q∧q.over=false
def WaitsX (n s:ByteArray):Prop:= ∃r A,σ n=some r∧r.over=false∧r.Zj≠0∧W n=some A∧s∈(stepOf A r.at').asks∧OpenN σ s
def WaitL (n:ByteArray) (ns:List ByteArray):Prop:=AscB ns∧∀s,s∈ns↔WaitsX W σ n s
def AskedOk :Prop:= ∀n r A,σ n=some r->r.over=false->r.Zj≠0->W n=some A->∀s∈(stepOf A r.at').asks,(W s).isSome=true->(σ s).isSome=true
end
theorem WaitL.unique {W:Acts} {σ:Env} {n:ByteArray} {l m:List ByteArray} (h:WaitL W σ n l) (g:WaitL W σ n m):l=m:=ascB_eq h.1 g.1 (fun s=> (h.2 s).trans (g.2 s).symm)
theorem arrive_asks {A:ActionD} {r:Qz}: (arrive A r).2= (stepOf A (arrive A r).1.at').asks:=by
 unfold arrive
 simp only
 split <;> rfl
theorem next_asksX {W:Acts} {σ:Env} {r:Qz} {A:ActionD} (hA:W r.name=some A) (hc:CanGo W σ r) (ho: (Y_ W σ r).1.over=false): (Y_ W σ r).2= (stepOf A (Y_ W σ r).1.at').asks:=by
 unfold Y_ at ho⊢
 rw [hA] at ho⊢
 simp only at ho⊢
 by_cases hv:r.Zj=0
 ·rw [if_pos hv];exact arrive_asks
 ·rw [if_neg hv] at ho⊢
  rcases hc.2 with e | ⟨A',xs,hA',hxs⟩
  ·exact absurd e hv
  ·rw [hA] at hA'
   cases hA'
   rw [hxs] at ho⊢
   simp only at ho⊢
   by_cases h20:r.Zj=20
   ·rw [if_pos h20] at ho;cases ho
   ·rw [if_neg h20] at ho⊢
    by_cases hgo: (goOnF (stepOf A r.at') xs).over=true
    ·rw [if_pos hgo] at ho;cases ho
    ·rw [if_neg hgo];exact arrive_asks
theorem AskedOk.did {Kj:List Qq} {σ:Env} (h:AskedOk (Q_ Kj) σ) (hg:GoodEnv Kj σ) {n:ByteArray} (hn:ReadyX (Q_ Kj) σ n):AskedOk (Q_ Kj) (doX (Q_ Kj) σ n):=by
 obtain ⟨r,hr,hc⟩:=hn
 have hrn:r.name=n:= (hg n r hr).1
 intro m q A hq ho hv hA s hs hsW
 rw [doX_eq hr] at hq
 rw [doX_eq hr]
 by_cases e:s=n
 ·rw [if_pos e];rfl
 rw [if_neg e]
 cases hss:σ s with
 | some x=> rfl
 | none=>
  simp only
  by_cases e2:m=n
  ·rw [if_pos e2] at hq
   cases hq
   subst e2
   have hh:hasN (Y_ (Q_ Kj) σ r).2 s=true:=by
    rw [hasN_iff,next_asksX (by rw [hrn];exact hA) hc ho]
    exact hs
   simp [hh,hsW]
  ·rw [if_neg e2] at hq
   cases hm:σ m with
   | some x=>
    rw [hm] at hq
    cases hq
    have h9:=h m _ A hm ho hv hA s hs hsW
    rw [hss] at h9
    exact absurd h9 (by simp)
   | none=>
    rw [hm] at hq
    simp only at hq
    split at hq
    ·cases hq;exact absurd rfl hv
    ·cases hq
theorem ValidX.asked {Kj:List Qq} {Kk:List ByteArray} {sl:List Qz} (hv:ValidX Kj Kk sl):AskedOk (Q_ Kj) (Qj sl):=by
 have hok:=web_acts hv.1
 obtain ⟨_,_,_,j,L,hgL,hl,_,rfl⟩:=hv
 have h:=hl.keeps (P:=fun σ:Env=> GoodEnv Kj σ∧AskedOk (Q_ Kj) σ) (fun σ m h hm=> ⟨goodEnv_do hok h.1 hm.1,h.2.did h.1 hm.1⟩) ⟨(startL_good hok Kk).env,fun n r A hr ho hv=> by
  rw [startL_env] at hr
  split at hr
  ·cases hr;exact absurd rfl hv
  ·cases hr⟩
 exact h.2
theorem pend_iff {Kj:List Qq} {σ:Env} (hg:GoodEnv Kj σ) (ha:AskedOk (Q_ Kj) σ) {n:ByteArray} {r:Qz} (hr:σ n=some r) (s:ByteArray):s∈pend (Q_ Kj) σ r↔WaitsX (Q_ Kj) σ n s:=by
 obtain ⟨hn,hgd⟩:=hg n r hr
 obtain ⟨A,hA,_⟩:=hgd.act
 rw [hn] at hA
 unfold pend
 constructor
 ·intro h
  split at h
  ·cases h
  ·rename_i h0
   rw [hn,hA] at h
   simp only [List.mem_filter] at h
   obtain ⟨h1,h2⟩:=h
   have ho:r.over=false:=by
    cases h3:r.over
    ·rfl
    ·exact absurd (.inl h3) h0
   have hv:r.Zj≠0:=fun e=> h0 (.inr e)
   refine ⟨r,A,hr,ho,hv,hA,h1, ?_⟩
   unfold ansOf at h2
   cases hW:Q_ Kj s with
   | none=> rw [hW] at h2;cases h2
   | some B=>
    rw [hW] at h2
    simp only at h2
    have h4:=ha n r A hr ho hv hA s h1 (by rw [hW];rfl)
    cases hs:σ s with
    | none=> rw [hs] at h4;cases h4
    | some q=>
     rw [hs] at h2
     simp only at h2
     cases hq:q.over
     ·exact ⟨q,hs,hq⟩
     ·rw [if_pos hq] at h2;cases h2
 ·rintro ⟨r',A',hr',ho,hv,hA',h1,q,hq,hqo⟩
  rw [hr] at hr'
  cases hr'
  rw [hA] at hA'
  cases hA'
  rw [if_neg (by rw [ho];simp [hv]),hn,hA]
  simp only [List.mem_filter]
  refine ⟨h1, ?_⟩
  obtain ⟨hn2,hg2⟩:=hg s q hq
  obtain ⟨B,hB,_⟩:=hg2.act
  rw [hn2] at hB
  unfold ansOf
  rw [hB,hq]
  simp [hqo]
theorem WaitsX.size {Kj:List Qq} (hok:ActsOk (Q_ Kj)) {σ:Env} (hg:GoodEnv Kj σ) {n s:ByteArray} (h:WaitsX (Q_ Kj) σ n s):s.size<=20:=by
 obtain ⟨_,_,_,_,_,_,_,q,hq,_⟩:=h
 obtain ⟨hn,hgd⟩:=hg s q hq
 obtain ⟨A,hA,_⟩:=hgd.act
 rw [hn] at hA
 exact (hok s A hA).2.2.1
def WaitsAns (Kj:List Qq) (Kk:List ByteArray) (sl:List Qz) (name:ByteArray) (ns:List ByteArray):Prop:= (ValidX Kj Kk sl∧WaitL (Q_ Kj) (Qj sl) name ns)∨(¬ValidX Kj Kk sl∧ns=[])
theorem WaitL.len {Kj:List Qq} (hok:ActsOk (Q_ Kj)) {σ:Env} (hg:GoodEnv Kj σ) {n:ByteArray} {ns:List ByteArray} (h:WaitL (Q_ Kj) σ n ns):ns.length<=5:=by
 cases hns:ns with
 | nil=> simp
 | cons x l=>
  obtain ⟨r,A,hr,_,_,hA,_⟩:= (h.2 x).1 (by rw [hns];simp)
  obtain ⟨hn,hgd⟩:=hg n r hr
  obtain ⟨A',hA',h0,h1⟩:=hgd.act
  rw [hn,hA] at hA'
  cases hA'
  have h5:= (asks_ok (hok n A hA).1 h0 h1).1
  have:=List.Nodup.length_le_of_subset h.1.nodup (l₂:= (stepOf A r.at').asks) (fun s hs=> by
   obtain ⟨r',A',hr',_,_,hA',h2,_⟩:= (h.2 s).1 hs
   rw [hr] at hr'
   cases hr'
   rw [hA] at hA'
   cases hA'
   exact h2)
  rw [<-hns]
  omega
theorem WaitsAns.len {Kj:List Qq} {Kk:List ByteArray} {sl:List Qz} {name:ByteArray} {ns:List ByteArray} (h:WaitsAns Kj Kk sl name ns):ns.length<=5:=by
 rcases h with ⟨h1,h2⟩ | ⟨_,rfl⟩
 ·obtain ⟨hW,_,_,k,L,hg,_,_,rfl⟩:=h1
  exact h2.len (web_acts hW) hg.env
 ·exact Nat.zero_le _
theorem WaitsAns.one {Kj:List Qq} {Kk:List ByteArray} {sl:List Qz} {name:ByteArray} {ns ms:List ByteArray} (h:WaitsAns Kj Kk sl name ns) (k:WaitsAns Kj Kk sl name ms):ms=ns:=by
 rcases h with ⟨h1,h2⟩ | ⟨h1,h2⟩
 ·rcases k with ⟨k1,k2⟩ | ⟨k1,k2⟩
  ·exact k2.unique h2
  ·exact absurd h1 k1
 ·rcases k with ⟨k1,k2⟩ | ⟨k1,k2⟩
  ·exact absurd k1 h1
  ·rw [h2,k2]
structure Places (E:ByteArray->ByteArray->Prop) (nm:List ByteArray):Prop where
 asc:AscB nm
 all: ∀x y,E x y->x∈nm
def EdgeP (E:ByteArray->ByteArray->Prop) (nm:List ByteArray) (p q:Nat):Prop:= ∃(hp:p < nm.length) (hq:q < nm.length),E nm[p] nm[q]
section
variable {E : ByteArray -> ByteArray -> Prop} {nm : List ByteArray}
theorem Places.less (h:Places E nm) {p q:Nat} (hp:p < nm.length) (hq:q < nm.length):lessX nm[p] nm[q]↔p < q:=by
 have hi:=List.pairwise_iff_getElem.1 h.asc
 constructor
 ·intro hl
  rcases Nat.lt_trichotomy p q with e | e | e
  ·exact e
  ·subst e;exact absurd hl (lessX_irrefl _)
  ·exact absurd hl (lessX_asymm (hi q p hq hp e))
 ·exact hi p q hp hq
theorem Places.inj (h:Places E nm) {p q:Nat} (hp:p < nm.length) (hq:q < nm.length) (e:nm[p]=nm[q]):p=q:=by
 rcases Nat.lt_trichotomy p q with g | g | g
 ·have:= (h.less hp hq).2 g;rw [e] at this;exact absurd this (lessX_irrefl _)
 ·exact g
 ·have:= (h.less hq hp).2 g;rw [e] at this;exact absurd this (lessX_irrefl _)
theorem Places.place (h:Places E nm) {x y:ByteArray} (hE:E x y): ∃(p:Nat) (hp:p < nm.length),nm[p]=x:=List.getElem_of_mem (h.all x y hE)
theorem walk_to {n:Nat} {p q:Nat} (h:WalkN (EdgeP E nm) n p q) (hp:p < nm.length): ∃hq:q < nm.length,WalkN E n nm[p] nm[q]:=by
 induction h with
 | here a=> exact ⟨hp,.here _⟩
 | step h _ ih=>
  obtain ⟨_,hb,hE⟩:=h
  obtain ⟨hq,hw⟩:=ih hb
  exact ⟨hq,.step hE hw⟩
theorem Places.back (h:Places E nm): ∀{n:Nat} {p q:Nat} (hp:p < nm.length) (hq:q < nm.length),WalkN E n nm[p] nm[q]->WalkN (EdgeP E nm) n p q:=by
 intro n
 induction n with
 | zero=> intro p q hp hq hw;rw [h.inj hp hq hw.zero];exact .here q
 | succ n ih=>
  intro p q hp hq hw
  obtain ⟨b,h1,h2⟩:=hw.first
  have: ∃(r:Nat) (hr:r < nm.length),nm[r]=b:=by
   cases n with
   | zero=> exact ⟨q,hq,h2.zero.symm⟩
   | succ m=>
    obtain ⟨c,h3,_⟩:=h2.first
    exact h.place h3
  obtain ⟨r,hr,rfl⟩:=this
  exact .step ⟨hp,hr,h1⟩ (ih hr hq h2)
theorem Places.far (h:Places E nm) {n:Nat} {p q:Nat} (hp:p < nm.length) (hq:q < nm.length):Far (EdgeP E nm) q n p↔Far E nm[q] n nm[p]:=by
 constructor
 ·intro hf
  exact ⟨(walk_to hf.1 hp).2,fun m hm hw=> hf.2 m hm (h.back hp hq hw)⟩
 ·intro hf
  exact ⟨h.back hp hq hf.1,fun m hm hw=> hf.2 m hm (walk_to hw hp).2⟩
def LeastP (p:Nat->Prop) (x:Nat):Prop:=p x∧∀y,p y->x<=y
inductive CircP (R:Nat->Nat->Prop) (t:Nat):Nat->Nat->List Nat->Prop
 | stop (a:Nat):CircP R t 1 a [a]
 | step {n:Nat} {a x:Nat} {l:List Nat} (h:LeastP (fun y=> R a y∧Far R t n y) x) (r:CircP R t n x l):CircP R t (n+1) a (a :: l)
def nameOf (nm:List ByteArray) (p:Nat):ByteArray:=nm.getD p ByteArray.empty
theorem nameOf_at {p:Nat} (hp:p < nm.length):nameOf nm p=nm[p]:=by simp [nameOf,List.getD,hp]
theorem CircP.names (h:Places E nm) {t:Nat} (ht:t < nm.length) {n a:Nat} {l:List Nat} (hc:CircP (EdgeP E nm) t n a l) (ha:a < nm.length):CircU E nm[t] n nm[a] (l.map (nameOf nm)):=by
 induction hc with
 | stop a=> rw [List.map_cons,List.map_nil,nameOf_at ha];exact .stop _
 | @step n a x l hl r ih=>
  obtain ⟨⟨⟨_,hx,hE⟩,hf⟩,hmin⟩:=hl
  rw [List.map_cons,nameOf_at ha]
  refine .step ⟨⟨hE,(h.far hx ht).1 hf⟩,fun y hy hlt=> ?_⟩ (ih hx)
  have hn:1<=n:=by cases r <;> omega
  obtain ⟨m,rfl⟩: ∃m,n=m+1:= ⟨n - 1,by omega⟩
  obtain ⟨z,hz,_⟩:=hy.2.next
  obtain ⟨p,hp,rfl⟩:=h.place hz
  have h1:=hmin p ⟨⟨ha,hp,hy.1⟩,(h.far hp ht).2 hy.2⟩
  have h2:= (h.less hp hx).1 hlt
  omega
def SizeP (R:Nat->Nat->Prop) (t n:Nat):Prop:=1<=n∧WalkN R n t t∧∀m,1<=m->m < n->¬WalkN R m t t
structure BestP (R:Nat->Nat->Prop) (k:Nat) (best:List Nat):Prop where
 no:best=[]->∀t,t < k->∀n,¬SizeP R t n
 yes:best≠[]->∃t n,t < k∧SizeP R t n∧CircP R t n t best∧best.length=n∧(∀h,h < k->∀j,SizeP R h j->n<=j∧(h < t->n < j))
theorem BestP.start (R:Nat->Nat->Prop):BestP R 0 []:= ⟨fun _ _t ht=> absurd ht (Nat.not_lt_zero _),fun h=> absurd rfl h⟩
theorem SizeP.unique {R:Nat->Nat->Prop} {t n m:Nat} (h:SizeP R t n) (g:SizeP R t m):n=m:=by
 rcases Nat.lt_trichotomy n m with e | e | e
 ·exact absurd h.2.1 (g.2.2 n h.1 e)
 ·exact e
 ·exact absurd g.2.1 (h.2.2 m g.1 e)
theorem BestP.skip {R:Nat->Nat->Prop} {k:Nat} {best:List Nat} (h:BestP R k best) (hn: ∀n,SizeP R k n->best≠[]∧best.length<=n):BestP R (k+1) best:=by
 refine ⟨fun e t ht n hs=> ?_,fun e=> ?_⟩
 ·by_cases g:t=k
  ·subst g;exact (hn n hs).1 e
  ·exact h.no e t (by omega) n hs
 ·obtain ⟨t,n,h1,h2,h3,h4,h5⟩:=h.yes e
  refine ⟨t,n,by omega,h2,h3,h4,fun q hq j hj=> ?_⟩
  by_cases g:q=k
  ·subst g
   have:= (hn j hj).2
   exact ⟨by omega,fun hlt=> by omega⟩
  ·exact h5 q (by omega) j hj
theorem BestP.take {R:Nat->Nat->Prop} {k n:Nat} {best l:List Nat} (h:BestP R k best) (hs:SizeP R k n) (hc:CircP R k n k l) (hl:l.length=n) (hb:best=[]∨n < best.length):BestP R (k+1) l:=by
 have hl0:l≠[]:=by cases hc <;> simp
 refine ⟨fun e=> absurd e hl0,fun _=> ⟨k,n,by omega,hs,hc,hl,fun q hq j hj=> ?_⟩⟩
 by_cases g:q=k
 ·subst g
  have:=hs.unique hj
  exact ⟨by omega,fun hlt=> by omega⟩
 ·rcases hb with rfl | hb
  ·exact absurd hj (h.no rfl q (by omega) j)
  ·obtain ⟨t,m,h1,h2,h3,h4,h5⟩:=h.yes (by intro e;rw [e] at hb;simp at hb)
   have:= (h5 q (by omega) j hj).1
   exact ⟨by omega,fun _=> by omega⟩
theorem BestP.circ (h:Places E nm) {best:List Nat} (hb:BestP (EdgeP E nm) nm.length best):CircX E (best.map (nameOf nm)):=by
 have hplace: ∀x n,1<=n->WalkN E n x x->∃(p:Nat) (hp:p < nm.length),nm[p]=x:=fun x n hn hw=> by
  obtain ⟨m,rfl⟩: ∃m,n=m+1:= ⟨n - 1,by omega⟩
  obtain ⟨b,hb,_⟩:=hw.first
  exact h.place hb
 have hsize: ∀n p (hp:p < nm.length),1<=n->WalkN E n nm[p] nm[p]->∃m,m<=n∧SizeP (EdgeP E nm) p m:=by
  intro n
  induction n using Nat.strongRecOn with
  | ind n ih=>
   intro p hp hn hw
   by_cases hs: ∃m,1<=m∧m < n∧WalkN (EdgeP E nm) m p p
   ·obtain ⟨m,h1,h2,h3⟩:=hs
    obtain ⟨q,h4,h5⟩:=ih m h2 p hp h1 (walk_to h3 hp).2
    exact ⟨q,by omega,h5⟩
   ·exact ⟨n,Nat.le_refl _,hn,h.back hp hp hw,fun m h1 h2 h3=> hs ⟨m,h1,h2,h3⟩⟩
 by_cases he:best=[]
 ·refine .inl ⟨fun x n hn hw=> ?_,by rw [he];rfl⟩
  obtain ⟨p,hp,rfl⟩:=hplace x n hn hw
  obtain ⟨m,_,hs⟩:=hsize n p hp hn hw
  exact hb.no he p hp m hs
 ·obtain ⟨t,n,ht,hs,hc,_,hl⟩:=hb.yes he
  refine .inr ⟨n,nm[t],hs.1,fun x k hk hw=> ?_,⟨(walk_to hs.2.1 ht).2,fun y hy hlt=> ?_⟩,hc.names h ht ht⟩
  ·obtain ⟨p,hp,rfl⟩:=hplace x k hk hw
   obtain ⟨m,h1,h2⟩:=hsize k p hp hk hw
   have:= (hl p hp m h2).1
   omega
  ·obtain ⟨p,hp,rfl⟩:=hplace y n hs.1 hy
   obtain ⟨m,h1,h2⟩:=hsize n p hp hs.1 hy
   have:= (hl p hp m h2).2 ((h.less hp ht).1 hlt)
   omega
end
section
variable (E : ByteArray -> ByteArray -> Prop) (g : ByteArray)
def RightV (b:Nat) (x:ByteArray) (v:Nat):Prop:= (lessX x g->v=0)∧(¬lessX x g->(v≠0->FarR E g v x∧v < b)∧∀m,m < b->FarR E g m x->v=m)
end
section
variable {E : ByteArray -> ByteArray -> Prop} {g : ByteArray}
theorem RightV.start {x:ByteArray}:RightV E g 1 x 0:= ⟨fun _=> rfl,fun _=> ⟨fun h=> absurd rfl h,fun m hm hf=> by have:=hf.1.pos;omega⟩⟩
theorem RightV.keep {n:Nat} {x:ByteArray} {v:Nat} (h:RightV E g n x v) (hv:v≠0∨lessX x g):RightV E g (n+1) x v:=by
 refine ⟨h.1,fun hn=> ?_⟩
 rcases hv with hv | hv
 ·obtain ⟨h1,h2⟩:=h.2 hn
  obtain ⟨h3,h4⟩:=h1 hv
  exact ⟨fun _=> ⟨h3,by omega⟩,fun m _ hf=> h3.unique hf⟩
 ·exact absurd hv hn
def Hit (E:ByteArray->ByteArray->Prop) (g:ByteArray) (n:Nat) (x s:ByteArray):Prop:=E x s∧((n=1∧s=g)∨(1 < n∧lessX g s∧FarR E g (n - 1) s))
theorem hit_far {n:Nat} {x:ByteArray} (hn:1<=n) (hno: ∀m,m < n->¬FarR E g m x): (∃s,Hit E g n x s)↔FarR E g n x:=by
 rcases Nat.lt_or_ge 1 n with h1 | h1
 ·obtain ⟨q,rfl⟩: ∃q,n=q+1:= ⟨n - 1,by omega⟩
  rw [FarR.succ (by omega)]
  constructor
  ·rintro ⟨s,hE,⟨h2,_⟩ | ⟨_,h2,h3⟩⟩
   ·omega
   ·exact ⟨⟨s,hE,h2,by simpa using h3⟩,fun m hm=> hno m (by omega)⟩
  ·rintro ⟨⟨s,hE,h2,h3⟩,_⟩
   exact ⟨s,hE,.inr ⟨h1,h2,by simpa using h3⟩⟩
 ·have:n=1:=by omega
  subst this
  rw [FarR.one]
  constructor
  ·rintro ⟨s,hE,⟨_,rfl⟩ | ⟨h2,_⟩⟩
   ·exact hE
   ·omega
  ·intro hE
   exact ⟨g,hE,.inl ⟨rfl,rfl⟩⟩
theorem RightV.hit {n:Nat} {x:ByteArray} (hn:1<=n) (h:RightV E g n x 0) (hx: ¬lessX x g) (hs: ∃s,Hit E g n x s):RightV E g (n+1) x n:=by
 have hno: ∀m,m < n->¬FarR E g m x:=fun m hm hf=> by
  have:= (h.2 hx).2 m hm hf
  have:=hf.1.pos
  omega
 have hf:= (hit_far hn hno).1 hs
 exact ⟨fun e=> absurd e hx,fun _=> ⟨fun _=> ⟨hf,by omega⟩,fun m _ hm=> hf.unique hm⟩⟩
theorem RightV.miss {n:Nat} {x:ByteArray} (hn:1<=n) (h:RightV E g n x 0) (hx: ¬lessX x g) (hs: ¬∃s,Hit E g n x s):RightV E g (n+1) x 0:=by
 have hno: ∀m,m < n->¬FarR E g m x:=fun m hm hf=> by
  have:= (h.2 hx).2 m hm hf
  have:=hf.1.pos
  omega
 refine ⟨fun _=> rfl,fun _=> ⟨fun e=> absurd rfl e,fun m hm hf=> ?_⟩⟩
 rcases Nat.lt_or_ge m n with e | e
 ·exact absurd hf (hno m e)
 ·have:m=n:=by omega
  subst this
  exact absurd ((hit_far hn hno).2 hf) hs
theorem RightV.ask {b n:Nat} {s:ByteArray} {v:Nat} (h:RightV E g b s v) (hs:lessX g s) (hn:1 < n) (hb:n<=b):v=n - 1↔FarR E g (n - 1) s:=by
 have hx: ¬lessX s g:=lessX_asymm hs
 constructor
 ·intro e
  have:= ((h.2 hx).1 (by omega)).1
  rw [e] at this
  exact this
 ·exact (h.2 hx).2 (n - 1) (by omega)
theorem RightV.whole {names:List ByteArray} (hn: ∀x y,E x y->x∈names) {x:ByteArray} {v:Nat} (h:RightV E g (names.length+1) x v) (hx: ¬lessX x g): (v≠0->FarR E g v x)∧(∀m,FarR E g m x->v=m):=
 ⟨fun hv=> ((h.2 hx).1 hv).1,fun m hf=> (h.2 hx).2 m (by have:=hf.bound hn;omega) hf⟩
theorem BestR.start (E:ByteArray->ByteArray->Prop):BestR E [] []:= ⟨fun _ g h=> (by cases h),fun h=> absurd rfl h⟩
theorem CircR.len {n:Nat} {a:ByteArray} {l:List ByteArray} (h:CircR E g n a l):l.length=n:=by
 induction h with
 | stop=> rfl
 | step _ _ ih=> simp [ih]
theorem BestR.skip {gs best:List ByteArray} (h:BestR E gs best) {g:ByteArray} (hn: ∀n,FarR E g n g->best≠[]∧best.length<=n) (hlt: ∀x∈gs,lessX x g):BestR E (gs++ [g]) best:=by
 refine ⟨fun e x hx n hf=> ?_,fun e=> ?_⟩
 ·rcases List.mem_append.1 hx with q | q
  ·exact h.no e x q n hf
  ·rw [List.mem_singleton] at q;subst q;exact (hn n hf).1 e
 ·obtain ⟨t,n,h1,h2,h3,h4,h5⟩:=h.yes e
  refine ⟨t,n,List.mem_append.2 (.inl h1),h2,h3,h4,fun x hx k hk=> ?_⟩
  rcases List.mem_append.1 hx with q | q
  ·exact h5 x q k hk
  ·rw [List.mem_singleton] at q
   subst q
   have:= (hn k hk).2
   exact ⟨by omega,fun hl=> absurd hl (lessX_asymm (hlt t h1))⟩
theorem BestR.take {gs best l:List ByteArray} (h:BestR E gs best) {g:ByteArray} {n:Nat} (hf:FarR E g n g) (hc:CircR E g n g l) (hb:best=[]∨n < best.length):BestR E (gs++ [g]) l:=by
 have hl:=hc.len
 have hl0:l≠[]:=fun e=> by rw [e] at hl;have:=hf.1.pos;simp at hl;omega
 refine ⟨fun e=> absurd e hl0,fun _=> ⟨g,n,List.mem_append.2 (.inr (by simp)),hf,hc,hl,fun x hx k hk=> ?_⟩⟩
 rcases List.mem_append.1 hx with q | q
 ·rcases hb with rfl | hb
  ·exact absurd hk (h.no rfl x q k)
  ·obtain ⟨t,m,h1,h2,h3,h4,h5⟩:=h.yes (by intro e;rw [e] at hb;simp at hb)
   have:= (h5 x q k hk).1
   exact ⟨by omega,fun _=> by omega⟩
 ·rw [List.mem_singleton] at q
  subst q
  have:=hf.unique hk
  exact ⟨by omega,fun hl=> absurd hl (lessX_irrefl _)⟩
end
section
variable {E : ByteArray -> ByteArray -> Prop} {g : ByteArray}
structure PartR (E:ByteArray->ByteArray->Prop) (g:ByteArray) (n:Nat) (l:List ByteArray) (a:ByteArray) (q:Nat):Prop where
 len:l.length+q=n+1
 pos:1<=q
 far:FarR E g q a
 last: ∃l0,l=l0++ [a]
 rest: ∀r,CircR E g q a r->CircR E g n g (l.dropLast++r)
theorem PartR.start {n:Nat} (h:FarR E g n g):PartR E g n [g] g n:=
 ⟨by simp;omega,h.1.pos,h,⟨[],rfl⟩,fun r hr=> hr⟩
theorem PartR.next {n q:Nat} {l:List ByteArray} {a x:ByteArray} (h:PartR E g n l a (q+1)) (hq:1<=q) (hx:LeastN (fun y=> E a y∧lessX g y∧FarR E g q y) x):PartR E g n (l++ [x]) x q:=by
 obtain ⟨l0,hl0⟩:=h.last
 refine ⟨by have:=h.len;rw [List.length_append];simp;omega,hq,hx.1.2.2,⟨l,rfl⟩,fun r hr=> ?_⟩
 have h1:=h.rest (a :: r) (CircR.step hx hr)
 rw [List.dropLast_concat]
 rw [hl0,List.dropLast_concat] at h1
 rw [hl0,List.append_assoc]
 exact h1
theorem PartR.done {n:Nat} {l:List ByteArray} {a:ByteArray} (h:PartR E g n l a 1):CircR E g n g l:=by
 obtain ⟨l0,hl0⟩:=h.last
 have h1:=h.rest [a] (CircR.stop a)
 rw [hl0,List.dropLast_concat] at h1
 rw [hl0]
 exact h1
theorem PartR.more {n q:Nat} {l:List ByteArray} {a:ByteArray} (h:PartR E g n l a (q+1)) (hq:1<=q): ∃y,E a y∧lessX g y∧FarR E g q y:= ((FarR.succ hq).1 h.far).1
theorem first_least {p:ByteArray->Prop} {l:List ByteArray} (ha:AscB l) (hp: ∀y,p y->y∈l) {k:Nat} (hk:k < l.length) (h:p l[k]) (hno: ∀y∈l.take k,¬p y):LeastN p l[k]:=by
 refine ⟨h,fun y hy hlt=> ?_⟩
 obtain ⟨j,hj,rfl⟩:=List.getElem_of_mem (hp y hy)
 rcases Nat.lt_trichotomy j k with h1 | rfl | h1
 ·exact hno l[j] (by rw [List.mem_take_iff_getElem];exact ⟨j,by omega,rfl⟩) hy
 ·exact lessX_irrefl _ hlt
 ·exact lessX_asymm hlt (List.pairwise_iff_getElem.1 ha k j hk hj h1)
end
def CircleAns (Kj:List Qq) (Kk:List ByteArray) (sl:List Qz) (ns:List ByteArray):Prop:=ns.length<=60∧((ValidX Kj Kk sl∧CircX (WaitsX (Q_ Kj) (Qj sl)) ns)∨(¬ValidX Kj Kk sl∧ns=[]))
theorem CircleAns.len {Kj:List Qq} {Kk:List ByteArray} {sl:List Qz} {ns:List ByteArray} (h:CircleAns Kj Kk sl ns):ns.length<=60:=h.1
theorem CircleAns.one {Kj:List Qq} {Kk:List ByteArray} {sl:List Qz} {ns ms:List ByteArray} (h:CircleAns Kj Kk sl ns) (k:CircleAns Kj Kk sl ms):ms=ns:=by
 rcases h.2 with ⟨h1,h2⟩ | ⟨h1,h2⟩
 ·rcases k.2 with ⟨k1,k2⟩ | ⟨k1,k2⟩
  ·exact k2.unique h2
  ·exact absurd h1 k1
 ·rcases k.2 with ⟨k1,k2⟩ | ⟨k1,k2⟩
  ·exact absurd k1 h1
  ·rw [h2,k2]
theorem BestR.len {E:ByteArray->ByteArray->Prop} {names best:List ByteArray} (h:BestR E names best) (hn: ∀x y,E x y->x∈names):best.length<=names.length:=by
 by_cases e:best=[]
 ·rw [e];exact Nat.zero_le _
 ·obtain ⟨t,n,_,h2,_,h4,_⟩:=h.yes e
  have:=h2.bound hn
  omega
def costOf (W:Acts) (n:ByteArray):Int:=match W n with | some A=> A.cost | none=> 0
theorem costOf_some {W:Acts} {n:ByteArray} {A:ActionD} (h:W n=some A):costOf W n=A.cost:=by unfold costOf;rw [h]
def unitsX (l:List Qz):Int:= (l.map fun r=> r.Zj).sum
def costX (W:Acts) (l:List Qz):Int:= (l.map fun r=> r.Zj * costOf W r.name).sum
theorem unitsX_snoc (l:List Qz) (r:Qz):unitsX (l++ [r])=unitsX l+r.Zj:=by simp [unitsX]
theorem costX_snoc (W:Acts) (l:List Qz) (r:Qz):costX W (l++ [r])=costX W l+r.Zj * costOf W r.name:=by simp [costX]
theorem costOf_le {W:Acts} (hok:ActsOk W) (n:ByteArray):0<=costOf W n∧costOf W n<=20:=by
 unfold costOf
 cases h:W n with
 | none=> exact ⟨Int.le_refl _,by decide⟩
 | some A=> have:= (hok n A h).1.1;show 0<=A.cost∧A.cost<=20;exact ⟨by omega,this.2⟩
theorem units_le : ∀{l:List Qz},(∀r∈l,0<=r.Zj∧r.Zj<=20)->0<=unitsX l∧unitsX l<=20 * (l.length:Int)
 | [],_=> ⟨Int.le_refl _,Int.le_refl _⟩
 | r :: l,h=> by
  have h1:=units_le (l:=l) (fun x hx=> h x (List.mem_cons_of_mem _ hx))
  have h2:=h r (List.mem_cons_self ..)
  have e:unitsX (r :: l)=r.Zj+unitsX l:=by simp [unitsX]
  rw [e,List.length_cons]
  omega
theorem vc_le {v c:Int} (h1:0<=v∧v<=20) (h2:0<=c∧c<=20):0<=v * c∧v * c<=400:=by
 refine ⟨Int.mul_nonneg h1.1 h2.1, ?_⟩
 have h3:v * c<=20 * c:=Int.mul_le_mul_of_nonneg_right h1.2 h2.1
 omega
theorem cost_le {W:Acts} (hok:ActsOk W): ∀{l:List Qz},(∀r∈l,0<=r.Zj∧r.Zj<=20)->0<=costX W l∧costX W l<=400 * (l.length:Int)
 | [],_=> ⟨Int.le_refl _,Int.le_refl _⟩
 | r :: l,h=> by
  have h1:=cost_le hok (l:=l) (fun x hx=> h x (List.mem_cons_of_mem _ hx))
  have h2:=vc_le (h r (List.mem_cons_self ..)) (costOf_le hok r.name)
  have e:costX W (r :: l)=r.Zj * costOf W r.name+costX W l:=by simp [costX]
  rw [e,List.length_cons]
  omega
theorem sums_le {Kj:List Qq} (hok:ActsOk (Q_ Kj)) {l:List Qz} (hg:GoodL Kj l) (hl:l.length<=60) (k:Nat):0<=unitsX (l.take k)∧unitsX (l.take k)<=1200∧0<=costX (Q_ Kj) (l.take k)∧costX (Q_ Kj) (l.take k)<=24000:=by
 have h: ∀r∈l.take k,0<=r.Zj∧r.Zj<=20:=fun r hr=> ⟨(hg.good r (List.mem_of_mem_take hr)).lo,(hg.good r (List.mem_of_mem_take hr)).hi⟩
 have h1:=units_le h
 have h2:=cost_le hok h
 have h3: (l.take k).length<=60:=by rw [List.length_take];omega
 exact ⟨h1.1,by omega,h2.1,by omega⟩
structure ToldV (Kj:List Qq) (Kk:List ByteArray) (sl:List Qz) (o:OutD):Prop where
 res:o.res=Kk.map (resX (Q_ Kj) (Qj sl))
 units:o.units=unitsX sl
 cost:o.cost=costX (Q_ Kj) sl
 rest: ((¬∃r∈o.res,r.over=false)∧o.code=0∧o.chain=[])∨((∃r∈o.res,r.over=false)∧(∃r∈sl,CanGo (Q_ Kj) (Qj sl) r)∧o.code=2∧o.chain=[])∨((∃r∈o.res,r.over=false)∧(¬∃r∈sl,CanGo (Q_ Kj) (Qj sl) r)∧o.code=1∧CircX (WaitsX (Q_ Kj) (Qj sl)) o.chain)
theorem OutD.ext' {o p:OutD} (h0:o.code=p.code) (h1:o.res=p.res) (h2:o.chain=p.chain) (h3:o.units=p.units) (h4:o.cost=p.cost):o=p:=by
 cases o;cases p
 simp only at h0 h1 h2 h3 h4
 rw [h0,h1,h2,h3,h4]
theorem ToldV.one {Kj:List Qq} {Kk:List ByteArray} {sl:List Qz} {o p:OutD} (h:ToldV Kj Kk sl o) (k:ToldV Kj Kk sl p):p=o:=by
 have er:p.res=o.res:=k.res.trans h.res.symm
 have hk:=k.rest
 rw [er] at hk
 have hc:p.code=o.code∧p.chain=o.chain:=by
  rcases h.rest with ⟨a1,a2,a3⟩ | ⟨a1,a0,a2,a3⟩ | ⟨a1,a0,a2,a3⟩ <;> rcases hk with ⟨b1,b2,b3⟩ | ⟨b1,b0,b2,b3⟩ | ⟨b1,b0,b2,b3⟩
  ·exact ⟨b2.trans a2.symm,b3.trans a3.symm⟩
  ·exact absurd b1 a1
  ·exact absurd b1 a1
  ·exact absurd a1 b1
  ·exact ⟨b2.trans a2.symm,b3.trans a3.symm⟩
  ·exact absurd a0 b0
  ·exact absurd a1 b1
  ·exact absurd b0 a0
  ·exact ⟨b2.trans a2.symm,b3.unique a3⟩
 exact OutD.ext' hc.1 er hc.2 (k.units.trans h.units.symm) (k.cost.trans h.cost.symm)
def outNo :OutD:= ⟨9,[],[],0,0⟩
def ToldAns (Kj:List Qq) (Kk:List ByteArray) (sl:List Qz) (o:OutD):Prop:= (o.res.length<=10∧o.chain.length<=60)∧((ValidX Kj Kk sl∧ToldV Kj Kk sl o)∨(¬ValidX Kj Kk sl∧o=outNo))
theorem ToldAns.one {Kj:List Qq} {Kk:List ByteArray} {sl:List Qz} {o p:OutD} (h:ToldAns Kj Kk sl o) (k:ToldAns Kj Kk sl p):p=o:=by
 rcases h.2 with ⟨h1,h2⟩ | ⟨h1,h2⟩
 ·rcases k.2 with ⟨k1,k2⟩ | ⟨k1,k2⟩
  ·exact h2.one k2
  ·exact absurd h1 k1
 ·rcases k.2 with ⟨k1,k2⟩ | ⟨k1,k2⟩
  ·exact absurd k1 h1
  ·rw [h2,k2]
theorem resX_size {Kj:List Qq} {sl:List Qz} (hg:GoodL Kj sl) {n:ByteArray} (hn:n.size<=20): (resX (Q_ Kj) (Qj sl) n).text.size<=200:=by
 unfold resX
 cases h:ansOf (Q_ Kj) (Qj sl) n with
 | none=> exact Nat.zero_le _
 | some x=> exact ansOf_size hg.env hn h
theorem ValidX.rootsIn {Kj:List Qq} {Kk:List ByteArray} {sl:List Qz} (hv:ValidX Kj Kk sl): ∀n∈Kk,(∃r∈sl,r.name=n)∨Q_ Kj n=none:=by
 obtain ⟨_,_,_,j,L,hgL,hl,_,rfl⟩:=hv
 have h:=hl.keeps (P:=fun σ=> ∀n∈Kk,(σ n).isSome=true∨Q_ Kj n=none) (fun σ m h hm n hn=> by
  rcases h n hn with h1 | h1
  ·refine .inl ?_
   obtain ⟨r,hr,_⟩:=hm.1
   rw [doX_eq hr]
   by_cases e:n=m
   ·rw [if_pos e];rfl
   ·rw [if_neg e]
    cases hx:σ n with
    | none=> rw [hx] at h1;cases h1
    | some x=> rfl
  ·exact .inr h1) (fun n hn=> by
  rw [startL_env]
  cases hA:Q_ Kj n with
  | none=> exact .inr rfl
  | some A=> rw [if_pos ⟨hasN_iff.2 hn,rfl⟩];exact .inl rfl)
 intro n hn
 rcases h n hn with h1 | h1
 ·obtain ⟨r,hr⟩:=Option.isSome_iff_exists.1 h1
  exact .inl ⟨r,(env_mem hr).1,(env_mem hr).2⟩
 ·exact .inr h1
def planNo :PlanD:= ⟨9,[],0,⟨0,[],[],0,0⟩,[]⟩
def PlanAns (Kj:List Qq) (Kk:List ByteArray) (k:Int) (p:PlanD):Prop:=
 (p.slots.length<=3000∧p.out.res.length<=10∧p.out.chain.length<=60∧p.chain.length<=3000)∧
 (((WebCode Kj 0∧RootsOk Kk∧1<=k∧k<=60)∧p.code=0∧∃T,WorkX (Q_ Kj) (startL Kj Kk) k.toNat p.slots p.ticks T p.chain∧ToldAns Kj Kk T p.out)∨
  (¬(WebCode Kj 0∧RootsOk Kk∧1<=k∧k<=60)∧p=planNo))
theorem PlanAns.one {Kj:List Qq} {Kk:List ByteArray} {k:Int} {p q:PlanD} (h:PlanAns Kj Kk k p) (g:PlanAns Kj Kk k q):q=p:=by
 rcases h.2 with ⟨h1,h2,T,h3,h4⟩ | ⟨h1,h2⟩
 ·rcases g.2 with ⟨_,g2,T',g3,g4⟩ | ⟨g1,_⟩
  ·obtain ⟨e1,e2,e3,e4⟩:=h3.unique g3
   subst e3
   have e5:=h4.one g4
   obtain ⟨pc,ps,pt,po,pn⟩:=p
   obtain ⟨qc,qs,qt,qo,qn⟩:=q
   dsimp only at h2 g2 e1 e2 e4 e5
   rw [h2,g2,e1,e2,e4,e5]
  ·exact absurd h1 g1
 ·rcases g.2 with ⟨g1,_⟩ | ⟨_,g2⟩
  ·exact absurd g1 h1
  ·rw [h2,g2]
def PlanIn (P:PlanD->Prop) (w w':World) (e:Ending):Prop:=
 ∃(p:PlanD) (sa ra fa ca:Option Addr) (sc rc fc cc m1 m2 m3:Nat),e= .returned (.agg #[.int .i64 p.code,.slice sa p.slots.length sc,.int .i64 p.ticks,.int .i64 p.out.code,.slice ra p.out.res.length rc,.slice fa p.out.chain.length fc,.int .i64 p.out.units,.int .i64 p.out.cost,.slice ca p.chain.length cc])∧P p∧PlanAt w' w.heap.size m1 m2 m3 w'.heap.size sa ra fa ca p.slots p.out.res p.out.chain p.chain∧K_ w w'
def ringF (V:Nat->Nat) (f n i:Nat):Value:= .int .i64 ((if i < 60 then V i else if i=60 then f else n:Nat):Int)
structure RingM (w:World) (rb:Nat) (Q:List Nat):Prop where
 ex: ∃V f,f < 60∧Q.length<=60∧w.rowIs rb 284 62 (ringF V f Q.length)∧∀i,i < Q.length->V ((f+i) % 60)=Q.getD i 0
theorem RingM.lt {w:World} {rb:Nat} {Q:List Nat} (h:RingM w rb Q):rb < w.heap.size:=by obtain ⟨V,f,_,_,⟨c,h1,_⟩,_⟩:=h;exact heap_lt h1
theorem RingM.block {w w':World} {rb:Nat} {Q:List Nat} (h:RingM w rb Q) (k:w'.heap[rb]? =w.heap[rb]?):RingM w' rb Q:=by
 obtain ⟨V,f,h1,h2,⟨c,h3,h4⟩,h5⟩:=h
 exact ⟨V,f,h1,h2,⟨c,k.trans h3,h4⟩,h5⟩
theorem row_put {w:World} {b n:Nat} {t:TypeId} {F G:Nat->Value} (h:w.rowIs b t n F) (i:Nat) (v:Value) (hG: ∀p,p < n->G p=if p=i then v else F p): (w.setCell ⟨b,i,none⟩ v).rowIs b t n G:=by
 obtain ⟨c,h1,h2,h3⟩:=World.rowIs.set h i v
 refine ⟨c,h1,h2,fun p hp=> ?_⟩
 rw [h3 p hp,hG p hp]
theorem row_kept {w w':World} {b n:Nat} {t:TypeId} {F:Nat->Value} (h:w.rowIs b t n F) (k:K_ w w'):w'.rowIs b t n F:=by
 obtain ⟨c,h1,h2⟩:=h
 exact ⟨c,(k.block b (heap_lt h1)).trans h1,h2⟩
theorem put_any (w:World) (rb:Nat) (Q:List Nat) (p:Nat) (hR:RingM w rb Q) (hl:Q.length < 60):
  Calls Tryz.prog 206 #[.pointer (some ⟨rb,0,none⟩),.int .i64 (p:Int)] w fun e w'=> e= .returned (.tuple #[])∧RingM w' rb (Q++ [p])∧But (fun b=> b=rb) w w':=by
 obtain ⟨V,f,hf,hn,hr,hV⟩:=hR.ex
 obtain ⟨n,hnn⟩: ∃n,n=Q.length:= ⟨_,rfl⟩
 rw [<-hnn] at hr hl
 obtain ⟨k,hk⟩: ∃k,k= (f+n) % 60:= ⟨_,rfl⟩
 have hk60:k < 60:=by omega
 have c1:w.cell? ⟨rb,60,none⟩=some (.int .i64 (f:Int)):=by rw [hr.cell (by omega)];rfl
 have c2:w.cell? ⟨rb,61,none⟩=some (.int .i64 (n:Int)):=by rw [hr.cell (by omega)];rfl
 have hdm: ((f:Int)+ (n:Int)).tmod 60= (k:Int):=by rw [Int.tmod_eq_emod_of_nonneg (by omega)];omega
 have hfr:=fun i=> hr.frozen i
 have f0:=hfr k
 have f1:=hfr 61
 have hki: (k:Int) < 60:=by omega
 have o0:=hr.cell (show k < 62 by omega)
 have hw1:=row_put hr k (.int .i64 (p:Int)) (G:=ringF (fun i=> if i=k then p else V i) f n) (fun i hi=> by
  unfold ringF
  by_cases e:i=k
  ·subst e;simp [hk60]
  ·simp [e])
 obtain ⟨w1,hw1e⟩: ∃w1,w1=w.setCell ⟨rb,k,none⟩ (.int .i64 (p:Int)):= ⟨_,rfl⟩
 rw [<-hw1e] at hw1
 have kb1:But (fun b=> b=rb) w w1:=by rw [hw1e];exact But.set (S:=fun b=> b=rb) (But.of_kept (K_.refl w)) (p:= ⟨rb,k,none⟩) rfl _
 have HW1:=Kz hw1
 have HKb:=Kz kb1
 have HV:Hid (∀i,i < Q.length->V ((f+i) % 60)=Q.getD i 0):=hV
 have HK:Hid (k= (f+n) % 60):=hk
 have HN:Hid (n=Q.length):=hnn
 clear hr hfr hw1 kb1 hV hk hnn hR
 go_enter Tryz.func206,Tryz.ntmps206
 go_wp2
 go_region
 rw [<-hw1e]
 have KD:K_ w1 w1.drew:= (K_.refl w1).drew
 generalize hwd:w1.drew=w2 at KD⊢
 clear hw1e hwd c1 c2 f0 f1 o0 hdm
 have hr2:=row_kept HW1.out KD
 have c2:w2.cell? ⟨rb,61,none⟩=some (.int .i64 (n:Int)):=by rw [hr2.cell (by omega)];rfl
 have f1:=hr2.frozen 61
 have HR2:=Kz hr2
 have HK2:=Kz (HKb.out.trans (But.of_kept KD))
 clear hr2 KD
 go_wp2_with fail
 go_end0
 refine ⟨rfl,⟨fun i=> if i=k then p else V i,f,hf,by rw [List.length_append];simp;have:=HN.out;omega, ?_,fun i hi=> ?_⟩,But.set (S:=fun b=> b=rb) HK2.out (p:= ⟨rb,61,none⟩) rfl _⟩
 ·rw [List.length_append]
  refine row_put HR2.out 61 _ (fun i hi=> ?_)
  unfold ringF
  have hn2:=HN.out
  by_cases e:i=61
  ·subst e;simp [hn2]
  ·have e2: ¬i < 60->i=60:=by omega
   by_cases e3:i < 60
   ·simp [e3,e]
   ·simp [e2 e3]
 ·rw [List.length_append] at hi
  have hn2:=HN.out
  have hk2:=HK.out
  by_cases e:i=Q.length
  ·subst e
   simp only [<-hn2,<-hk2,if_true,List.getD]
   rw [hn2]
   simp
  ·have hiq:i < Q.length:=by simp at hi;omega
   have hne: (f+i) % 60≠k:=by omega
   simp only [if_neg hne,HV.out i hiq,List.getD,List.getElem?_append_left hiq]
theorem take_any (w:World) (rb:Nat) (Q:List Nat) (p:Nat) (hR:RingM w rb (p :: Q)):
  Calls Tryz.prog 207 #[.pointer (some ⟨rb,0,none⟩)] w fun e w'=> e= .returned (.int .i64 (p:Int))∧RingM w' rb Q∧But (fun b=> b=rb) w w':=by
 obtain ⟨V,f,hf,hn,hr,hV⟩:=hR.ex
 obtain ⟨n,hnn⟩: ∃n,n=Q.length:= ⟨_,rfl⟩
 have hp:V f=p:=by have:=hV 0 (by simp);simpa [Nat.mod_eq_of_lt hf] using this
 rw [List.length_cons,<-hnn] at hr
 rw [List.length_cons,<-hnn] at hn
 have hfi: (f:Int) < 60:=by omega
 have HC0:Hid (∀u,w.rowIs rb 284 62 (ringF V f (n+1))->K_ w u->u.cell? ⟨rb,60,none⟩=some (.int .i64 (f:Int))∧u.cell? ⟨rb,f,none⟩=some (.int .i64 (p:Int))):=fun u hr k=> by
  have h2:=row_kept hr k
  refine ⟨by rw [h2.cell (by omega)];rfl, ?_⟩
  rw [h2.cell (by omega)]
  unfold ringF
  rw [if_pos hf,hp]
 obtain ⟨c1,c2⟩:=HC0.out w hr (K_.refl w)
 have HR:=Kz hr
 have HV:Hid (∀i,i < Q.length->V ((f+ (i+1)) % 60)=Q.getD i 0):=fun i hi=> by have:=hV (i+1) (by simp;omega);simpa using this
 have HN:Hid (n=Q.length):=hnn
 clear hr hV hnn hR hp HC0
 go_enter Tryz.func207,Tryz.ntmps207
 go_wp2
 go_region
 have KD:K_ w w.drew:= (K_.refl w).drew
 generalize hwd:w.drew=w1 at KD⊢
 clear hwd c1 c2
 have hr1:=row_kept HR.out KD
 have c1:w1.cell? ⟨rb,60,none⟩=some (.int .i64 (f:Int)):=by rw [hr1.cell (by omega)];rfl
 obtain ⟨k,hk⟩: ∃k,k= (f+1) % 60:= ⟨_,rfl⟩
 have hdm: ((f:Int)+1).tmod 60= (k:Int):=by rw [Int.tmod_eq_emod_of_nonneg (by omega)];omega
 have f1:=hr1.frozen 60
 have HR1:=Kz hr1
 have HK:=Kz hk
 clear hr1 HR hk
 go_upto_region 3 with fail
 have hr2:=row_put HR1.out 60 (.int .i64 (k:Int)) (G:=ringF V k (n+1)) (fun i hi=> by
  unfold ringF
  by_cases e:i=60
  ·subst e;simp
  ·by_cases e3:i < 60
   ·simp [e3,e]
   ·simp [e3,e])
 have kb:But (fun b=> b=rb) w (w1.setCell ⟨rb,60,none⟩ (.int .i64 (k:Int))):=But.set (S:=fun b=> b=rb) (But.of_kept KD) (p:= ⟨rb,60,none⟩) rfl _
 generalize hw2:w1.setCell ⟨rb,60,none⟩ (.int .i64 (k:Int))=w2 at hr2 kb⊢
 clear hw2 c1 f1 hdm
 have c2:w2.cell? ⟨rb,61,none⟩=some (.int .i64 ((n+1:Nat):Int)):=by rw [hr2.cell (by omega)];rfl
 have f2:=hr2.frozen 61
 have hsub: ((n+1:Nat):Int) - 1= (n:Int):=by omega
 have hr3:=row_put hr2 61 (.int .i64 (n:Int)) (G:=ringF V k n) (fun i hi=> by
  unfold ringF
  by_cases e:i=61
  ·subst e;simp
  ·have e2: ¬i < 60->i=60:=by omega
   by_cases e3:i < 60
   ·simp [e3,e]
   ·simp [e2 e3])
 have HR3:=Kz hr3
 have HB:=Kz (But.set (S:=fun b=> b=rb) kb (p:= ⟨rb,61,none⟩) rfl (.int .i64 (n:Int)))
 clear hr2 hr3 kb
 go_wp2_with fail
 go_ret
 refine ⟨rfl,⟨V,k, ?_, ?_, ?_,fun i hi=> ?_⟩,HB.out⟩
 ·rw [HK.out];omega
 ·have:=HN.out;omega
 ·rw [<-HN.out];exact HR3.out
 ·rw [<-HV.out i hi]
  have:=HK.out
  congr 1
  omega
theorem cmpLess_any (w:World) (x y:ByteArray):Calls Tryz.prog 186 #[.string x,.string y] w fun e w'=> e= .returned (.bool (Op.bytesLess x.toList y.toList))∧w'=w:=by
 cases h1:Op.bytesLess x.toList y.toList
 all_goals
  go_enter Tryz.func186,Tryz.ntmps186
  go_wp2
  go_ret
  exact ⟨rfl,rfl⟩
theorem slicesNaN_any (w:World) (x:ByteArray):Calls Tryz.prog 187 #[.string x] w fun e w'=> e= .returned (.bool false)∧w'=w:=by
 go_enter Tryz.func187,Tryz.ntmps187
 go_wp2
 go_ret
 exact ⟨rfl,rfl⟩
def FoundS (l:List ByteArray) (s:ByteArray) (e:Ending):Prop:= ∃(k:Nat) (b:Bool),e= .returned (.tuple #[.int .i64 (k:Int),.bool b])∧(b=true->k < l.length∧l.getD k ByteArray.empty=s)∧(b=false->s∉l)
theorem FoundS.mk {l:List ByteArray} {s:ByteArray} {e:Ending} (k:Nat) (b:Bool) (h:e= .returned (.tuple #[.int .i64 (k:Int),.bool b])) (h1:b=true->k < l.length∧l.getD k ByteArray.empty=s) (h2:b=false->s∉l):FoundS l s e:= ⟨k,b,h,h1,h2⟩
theorem bsearch_any (w:World) (a:Option Addr) (cap:Nat) (l:List ByteArray) (s:ByteArray) (hl:l.length<=1048576) (ha:AscB l) (hS:Strs w a l):
  Calls Tryz.prog 164 #[.slice a l.length cap,.string s] w fun e w'=> FoundS l s e∧w'=w:=by
 have HA:Hid (∀p q,p < q->q < l.length->lessX (l.getD p ByteArray.empty) (l.getD q ByteArray.empty)):=fun p q h1 h2=> by
  have:=List.pairwise_iff_getElem.1 ha p q (by omega) h2 h1
  simpa [List.getD,h2,show p < l.length by omega] using this
 clear ha
 go_enter Tryz.func164,Tryz.ntmps164
 go_wp2
 go_loopw [7,8] (fun x y wr=> ∃i j:Nat,x= .int .i64 i∧y= .int .i64 j∧i<=j∧j<=l.length∧Hid (∀t,t < i->lessX (l.getD t ByteArray.empty) s)∧Hid (∀t,j<=t->t < l.length->¬lessX (l.getD t ByteArray.empty) s)∧wr=w) (fun x y _=> (intOf y).toNat - (intOf x).toNat)
 case atStart=> exact ⟨0,l.length,rfl,rfl,Nat.zero_le _,Nat.le_refl _,Kz (fun t ht=> absurd ht (Nat.not_lt_zero _)),Kz (fun t h1 h2=> by omega),rfl⟩
 case round=>
  obtain ⟨i,j,rfl,rfl,hij,hjn,HB,HN,rfl⟩:=hrel
  by_cases hlt: (i:Int) < j
  ·obtain ⟨h,hh⟩: ∃h:Nat,h= (i+j) / 2:= ⟨_,rfl⟩
   have hhlt:h < l.length:=by omega
   have hhi:i<=h:=by omega
   have hhj:h < j:=by omega
   obtain ⟨b,o,rfl,hb,hcs⟩:=hS h hhlt
   obtain ⟨d,hd⟩: ∃d,d=l.getD h ByteArray.empty:= ⟨_,rfl⟩
   rw [<-hd] at hcs
   have HD:=Kz hd
   clear hd
   have hmid: ((i:Int)+ (j:Int)) / 2= (h:Int):=by omega
   have HH:=Kz hh
   clear hh
   go_wp2_with fail
   refine (cmpLess_any _ d s).mono ?_
   rintro e w1 ⟨rfl,rfl⟩
   clear hcs
   cases hls:Op.bytesLess d.toList s.toList
   ·go_wp2_with fail
    go_roundw
    case rel=>
     refine ⟨i,h,rfl,by go_num,hhi,by omega,HB,Kz (fun t h1 h2 hlt2=> ?_),trivial⟩
     have hno: ¬lessX (l.getD h ByteArray.empty) s:=fun g=> by rw [<-HD.out] at g;unfold lessX at g;rw [hls] at g;cases g
     rcases Nat.lt_or_ge h t with e | e
     ·exact hno (lessX_trans (HA.out h t e h2) hlt2)
     ·have:t=h:=by omega
      subst this
      exact hno hlt2
    case measure=> simp [intOf];omega
   ·go_wp2_with fail
    go_roundw
    case rel=>
     refine ⟨h+1,j,by go_num,rfl,by omega,hjn,Kz (fun t ht=> ?_),HN,trivial⟩
     have hyes:lessX (l.getD h ByteArray.empty) s:=by rw [<-HD.out];exact hls
     rcases Nat.lt_or_ge t h with e | e
     ·exact lessX_trans (HA.out t h e hhlt) hyes
     ·have:t=h:=by omega
      subst this
      exact hyes
    case measure=> simp [intOf];omega
  ·have hij':i=j:=by omega
   subst hij'
   have HMem:Hid (s∈l->i < l.length∧l.getD i ByteArray.empty=s):=fun hm=> by
    obtain ⟨q,hq,e⟩:=List.getElem_of_mem hm
    have e2:l.getD q ByteArray.empty=s:=by simpa [List.getD,hq] using e
    have h1: ¬q < i:=fun g=> by have:=HB.out q g;rw [e2] at this;exact lessX_irrefl _ this
    have h2:q=i:=by
     rcases Nat.lt_or_ge i q with g | g
     ·have h3:=HA.out i q g hq
      rw [e2] at h3
      exact absurd h3 (HN.out i (Nat.le_refl _) (by omega))
     ·omega
    subst h2
    exact ⟨hq,e2⟩
   by_cases hin:i < l.length
   ·obtain ⟨b,o,rfl,hb,hcs⟩:=hS i hin
    obtain ⟨d,hd⟩: ∃d,d=l.getD i ByteArray.empty:= ⟨_,rfl⟩
    rw [<-hd] at hcs
    have HD:=Kz hd
    clear hd
    have hii: (i:Int) < (l.length:Int):=by omega
    cases heq: (d.toList == s.toList)
    ·go_wp2_with (first | (go_at_call 187;refine (slicesNaN_any _ _).mono ?_;rintro e w1 ⟨rfl,rfl⟩))
     go_ret2
     exact ⟨FoundS.mk i false rfl (fun h=> by cases h) (fun _ hm=> by
      have h2:= (HMem.out hm).2
      rw [<-HD.out] at h2
      rw [h2] at heq
      simp at heq),rfl⟩
    ·go_wp2_with fail
     go_ret2
     exact ⟨FoundS.mk i true rfl (fun _=> ⟨hin,by rw [<-HD.out];exact beq_yes heq⟩) (fun h=> by cases h),rfl⟩
   ·go_wp2_with fail
    go_ret2
    exact ⟨FoundS.mk i false rfl (fun h=> by cases h) (fun _ hm=> hin (HMem.out hm).1),rfl⟩
structure NeedP (E:ByteArray->ByteArray->Prop) (nm:List ByteArray) (k:Nat) (S:List ByteArray) (j M:Nat) (need back:Nat->List Nat):Prop where
 fwd: ∀p q,q∈need p↔(p < k∧EdgeP E nm p q)∨(p=k∧∃hq:q < nm.length,nm[q]∈S.take j)
 bwd: ∀p q,p∈back q↔(p < k∧EdgeP E nm p q)∨(p=k∧∃hq:q < nm.length,nm[q]∈S.take j)
 asc: ∀p,(need p).Pairwise (· <= ·)
 len: ∀p,(need p).length<=M∧(back p).length<=M
structure NeedR (E:ByteArray->ByteArray->Prop) (nm:List ByteArray) (M:Nat) (need back:Nat->List Nat):Prop where
 fwd: ∀p q,q∈need p↔EdgeP E nm p q
 bwd: ∀p q,p∈back q↔EdgeP E nm p q
 asc: ∀p,(need p).Pairwise (· <= ·)
 len: ∀p,(need p).length<=M∧(back p).length<=M
section
variable {E : ByteArray -> ByteArray -> Prop} {nm S : List ByteArray} {k j M : Nat} {need back : Nat -> List Nat}
theorem NeedP.start (E:ByteArray->ByteArray->Prop) (nm S:List ByteArray):NeedP E nm 0 S 0 0 (fun _=> []) (fun _=> []):=
 ⟨fun p q=> by simp,fun p q=> by simp,fun p=> List.Pairwise.nil,fun p=> ⟨Nat.le_refl _,Nat.le_refl _⟩⟩
theorem NeedP.enter (h:NeedP E nm k S 0 M need back) (S':List ByteArray):NeedP E nm k S' 0 M need back:=
 ⟨fun p q=> by rw [h.fwd];simp,fun p q=> by rw [h.bwd];simp,h.asc,h.len⟩
theorem NeedP.leave (h:NeedP E nm k S j M need back) (hk:k < nm.length) (hj:S.length<=j) (hS: ∀y,y∈S↔E nm[k] y):NeedP E nm (k+1) [] 0 M need back:=by
 have key: ∀p q,(p < k∧EdgeP E nm p q)∨(p=k∧∃hq:q < nm.length,nm[q]∈S.take j)↔(p < k+1∧EdgeP E nm p q)∨(p=k+1∧∃hq:q < nm.length,nm[q]∈([]:List ByteArray).take 0):=fun p q=> by
  rw [List.take_of_length_le hj]
  constructor
  ·rintro (⟨h1,h2⟩ | ⟨rfl,hq,h2⟩)
   ·exact .inl ⟨by omega,h2⟩
   ·exact .inl ⟨by omega,hk,hq,(hS _).1 h2⟩
  ·rintro (⟨h1,hp,hq,h2⟩ | ⟨_,_,h2⟩)
   ·by_cases e:p=k
    ·subst e;exact .inr ⟨rfl,hq,(hS _).2 h2⟩
    ·exact .inl ⟨by omega,hp,hq,h2⟩
   ·simp at h2
 exact ⟨fun p q=> (h.fwd p q).trans (key p q),fun p q=> (h.bwd p q).trans (key p q),h.asc,h.len⟩
theorem NeedP.skip (h:NeedP E nm k S j M need back) (hj:j < S.length) (hno:S[j]∉nm):NeedP E nm k S (j+1) M need back:=by
 have key: ∀q:Nat,(∃hq:q < nm.length,nm[q]∈S.take j)↔∃hq:q < nm.length,nm[q]∈S.take (j+1):=fun q=> by
  rw [List.take_succ_eq_append_getElem hj]
  constructor
  ·rintro ⟨hq,h1⟩;exact ⟨hq,List.mem_append.2 (.inl h1)⟩
  ·rintro ⟨hq,h1⟩
   rcases List.mem_append.1 h1 with h2 | h2
   ·exact ⟨hq,h2⟩
   ·rw [List.mem_singleton] at h2
    exact absurd (by rw [<-h2];exact List.getElem_mem hq) hno
 exact ⟨fun p q=> by rw [h.fwd,key],fun p q=> by rw [h.bwd,key],h.asc,h.len⟩
theorem NeedP.put (hP:Places E nm) (h:NeedP E nm k S j M need back) (hj:j < S.length) (hS:S.Pairwise fun a b=> ¬lessX b a) {q:Nat} (hq:q < nm.length) (he:nm[q]=S[j]) (hk:k < nm.length) (hsub: ∀y∈S,E nm[k] y):
  NeedP E nm k S (j+1) (M+1) (fun p=> if p=k then need k++ [q] else need p) (fun p=> if p=q then back q++ [k] else back p):=by
 have key: ∀r:Nat,(∃hr:r < nm.length,nm[r]∈S.take (j+1))↔(∃hr:r < nm.length,nm[r]∈S.take j)∨r=q:=fun r=> by
  rw [List.take_succ_eq_append_getElem hj]
  constructor
  ·rintro ⟨hr,h1⟩
   rcases List.mem_append.1 h1 with h2 | h2
   ·exact .inl ⟨hr,h2⟩
   ·rw [List.mem_singleton,<-he] at h2
    exact .inr (hP.inj hr hq h2)
  ·rintro (⟨hr,h1⟩ | rfl)
   ·exact ⟨hr,List.mem_append.2 (.inl h1)⟩
   ·exact ⟨hq,List.mem_append.2 (.inr (by rw [he];simp))⟩
 refine ⟨fun p r=> ?_,fun p r=> ?_,fun p=> ?_,fun p=> ⟨?_, ?_⟩⟩
 ·rw [key]
  by_cases e:p=k
  ·subst e
   simp only [if_true,List.mem_append,List.mem_singleton,h.fwd]
   constructor
   ·rintro ((⟨h1,h2⟩ | ⟨_,h2⟩) | h2)
    ·exact .inl ⟨h1,h2⟩
    ·exact .inr ⟨trivial,.inl h2⟩
    ·exact .inr ⟨trivial,.inr h2⟩
   ·rintro (⟨h1,h2⟩ | ⟨_,h2 | h2⟩)
    ·exact .inl (.inl ⟨h1,h2⟩)
    ·exact .inl (.inr ⟨trivial,h2⟩)
    ·exact .inr h2
  ·show (r∈if p=k then need k++ [q] else need p)↔_
   rw [if_neg e,h.fwd]
   simp only [e,false_and,or_false]
 ·rw [key]
  by_cases e:r=q
  ·subst e
   simp only [if_true,List.mem_append,List.mem_singleton,h.bwd]
   constructor
   ·rintro ((h1 | ⟨h1,h2⟩) | h1)
    ·exact .inl h1
    ·exact .inr ⟨h1,.inl h2⟩
    ·exact .inr ⟨h1,.inr trivial⟩
   ·rintro (h1 | ⟨h1,h2 | _⟩)
    ·exact .inl (.inl h1)
    ·exact .inl (.inr ⟨h1,h2⟩)
    ·exact .inr h1
  ·show (p∈if r=q then back q++ [k] else back r)↔_
   rw [if_neg e,h.bwd]
   simp only [e,or_false]
 ·by_cases e:p=k
  ·subst e
   simp only [if_true]
   rw [List.pairwise_append]
   refine ⟨h.asc p,by simp,fun a ha b hb=> ?_⟩
   rw [List.mem_singleton] at hb
   subst hb
   rcases (h.fwd p a).1 ha with ⟨h1,_⟩ | ⟨_,har,h2⟩
   ·omega
   ·obtain ⟨i,hi,h3⟩:=List.mem_take_iff_getElem.1 h2
    have h4:=List.pairwise_iff_getElem.1 hS i j (by omega) hj (by omega)
    rw [h3,<-he,hP.less hq har] at h4
    omega
  ·simp only [if_neg e];exact h.asc p
 ·by_cases e:p=k
  ·simp only [e,if_true,List.length_append,List.length_singleton];have:= (h.len k).1;omega
  ·simp only [if_neg e];have:= (h.len p).1;omega
 ·by_cases e:p=q
  ·simp only [e,if_true,List.length_append,List.length_singleton];have:= (h.len q).2;omega
  ·simp only [if_neg e];have:= (h.len p).2;omega
theorem NeedP.whole (h:NeedP E nm nm.length [] 0 M need back):NeedR E nm M need back:=by
 have key: ∀p q,(p < nm.length∧EdgeP E nm p q)∨(p=nm.length∧∃hq:q < nm.length,nm[q]∈([]:List ByteArray).take 0)↔EdgeP E nm p q:=fun p q=> by
  constructor
  ·rintro (⟨_,h1⟩ | ⟨_,_,h1⟩)
   ·exact h1
   ·simp at h1
  ·intro h1
   exact .inl ⟨h1.1,h1⟩
 exact ⟨fun p q=> (h.fwd p q).trans (key p q),fun p q=> (h.bwd p q).trans (key p q),h.asc,h.len⟩
end
section
variable {R : Nat -> Nat -> Prop} {t : Nat}
structure PartP (R:Nat->Nat->Prop) (t n:Nat) (l:List Nat) (a q:Nat):Prop where
 len:l.length+q=n+1
 pos:1<=q
 more:2<=q->∃y,R a y∧Far R t (q - 1) y
 last: ∃l0,l=l0++ [a]
 rest: ∀r,CircP R t q a r->CircP R t n t (l.dropLast++r)
theorem PartP.start {n:Nat} (h:SizeP R t n):PartP R t n [t] t n:=by
 refine ⟨by simp;omega,h.1,fun h2=> ?_,⟨[],rfl⟩,fun r hr=> hr⟩
 obtain ⟨m,rfl⟩: ∃m,n=m+1:= ⟨n - 1,by omega⟩
 obtain ⟨y,h3,h4⟩:=h.2.1.first
 refine ⟨y,h3,h4,fun i hi hw=> h.2.2 (i+1) (by omega) (by omega) (.step h3 hw)⟩
theorem PartP.next {n q a x:Nat} {l:List Nat} (h:PartP R t n l a (q+1)) (hq:1<=q) (hx:LeastP (fun y=> R a y∧Far R t q y) x):PartP R t n (l++ [x]) x q:=by
 obtain ⟨l0,hl0⟩:=h.last
 refine ⟨by have:=h.len;rw [List.length_append];simp;omega,hq,fun h2=> ?_,⟨l,rfl⟩,fun r hr=> ?_⟩
 ·obtain ⟨m,rfl⟩: ∃m,q=m+1:= ⟨q - 1,by omega⟩
  exact hx.1.2.next
 ·have h1:=h.rest (a :: r) (CircP.step hx hr)
  rw [List.dropLast_concat]
  rw [hl0,List.dropLast_concat] at h1
  rw [hl0,List.append_assoc]
  exact h1
theorem PartP.done {n a:Nat} {l:List Nat} (h:PartP R t n l a 1):CircP R t n t l:=by
 obtain ⟨l0,hl0⟩:=h.last
 have h1:=h.rest [a] (CircP.stop a)
 rw [hl0,List.dropLast_concat] at h1
 rw [hl0]
 exact h1
theorem first_leastP {p:Nat->Prop} {l:List Nat} (ha:l.Pairwise (· <= ·)) (hp: ∀y,p y->y∈l) {k:Nat} (hk:k < l.length) (h:p l[k]) (hno: ∀j (hj:j < l.length),j < k->¬p l[j]):LeastP p l[k]:=by
 refine ⟨h,fun y hy=> ?_⟩
 obtain ⟨j,hj,rfl⟩:=List.getElem_of_mem (hp y hy)
 rcases Nat.lt_trichotomy j k with h1 | rfl | h1
 ·exact absurd hy (hno j hj h1)
 ·exact Nat.le_refl _
 ·exact List.pairwise_iff_getElem.1 ha k j hk hj h1
theorem CircP.len {n a:Nat} {l:List Nat} (h:CircP R t n a l):l.length=n:=by
 induction h with
 | stop=> rfl
 | step _ _ ih=> simp [ih]
end
