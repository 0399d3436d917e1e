import Derived.Test.YteabdfhkoloimaaKDOpen
import Derived.Test.YteabdfhkoloimaaKOOrder
import Derived.Laws.BytesArg
set_option maxRecDepth 100000
set_option maxHeartbeats 25600000
namespace Go.Proofs.Yteabdfhkoloimaa
open Go.RowKit
def Labelled (w w':World) (e:Ending):Prop:=
 ∃s:ByteArray,e= .returned (.string s)∧s.size<=2∧K_ w w'
theorem label_any (w:World) (i:Nat) (hi:i<=100000):
  Calls Try.prog 12 #[.int .i64 (i:Int)] w fun e w'=> Labelled w w' e:=by
 obtain ⟨q,hq⟩: ∃q,q=i % 26:= ⟨_,rfl⟩
 obtain ⟨q2,hq2⟩: ∃q,q=i / 26 % 3:= ⟨_,rfl⟩
 obtain ⟨d,hd⟩: ∃d,d=i / 26:= ⟨_,rfl⟩
 have e1: (i:Int).tmod 26= (q:Int):=by rw [Int.tmod_eq_emod_of_nonneg (by omega)];omega
 have e3: (i:Int).tdiv 26= (d:Int):=by rw [Int.tdiv_eq_ediv_of_nonneg (by omega)];omega
 have e2: (d:Int).tmod 3= (q2:Int):=by rw [Int.tmod_eq_emod_of_nonneg (by omega)];omega
 have b1:q < 26:=by omega
 have b2:q2 < 3:=by omega
 have e4:IntKind.i64.wrap (d:Int)= (d:Int):=by simp [IntKind.wrap,IntKind.bits,IntKind.signed];omega
 clear hq hq2 hd
 obtain ⟨S1,hS1,hz1⟩: ∃S1:ByteArray,(∀w:World,(Instr.slice 9 (.string ⟨#[97,98,99,100,101,102,103,104,105,106,107,108,109,110,111,112,113,114,115,116,117,118,119,120,121,122]⟩) (some (.int .i64 (q:Int))) none none).run Try.prog w= .ok (.string S1) w)∧(1:Int)<=S1.size:=
  ⟨_,fun w=> run_slice_string_l w 9 ⟨#[97,98,99,100,101,102,103,104,105,106,107,108,109,110,111,112,113,114,115,116,117,118,119,120,121,122]⟩ Try.underlying9 .i64 (q:Int) (by omega) (by show (q:Int)<=((26:Nat):Int);omega),by
   rw [ByteArray.size_extract];show (1:Int)<=((min 26 26 - (q:Int).toNat:Nat):Int);omega⟩
 obtain ⟨S2,hS2,hz2⟩: ∃S2:ByteArray,(∀w:World,(Instr.slice 9 (.string S1) none (some (.int .i64 1)) none).run Try.prog w= .ok (.string S2) w)∧S2.size=1:=
  ⟨_,fun w=> run_slice_string_h w 9 S1 Try.underlying9 .i64 1 (by omega) hz1,by
   rw [ByteArray.size_extract];show min 1 S1.size - 0=1;omega⟩
 go_enter Try.func12,Try.ntmps12
 go_wp2
 refine Qj.region (by kernel_rfl) (fun w'=> K_ w w') 11 (K_.refl w).drew (fun Qk=> ?_)
 refine Qj.tk 0 Qk ?_
 refine Qj.take 1 [2,3,10,11] (v:= .int .i64 (q:Int)) (by (simp only [List.getElem?_toArray,List.getElem?_cons_succ,List.getElem?_cons_zero];rfl)) (by kernel_rfl) (by kernel_rfl) (by kernel_rfl) (by kernel_rfl) (by exact fun _ _ _ h=> h) (Or.inl ⟨by rfl, ?_⟩) Qk ?_
 ·intro u hu
  try dsimp only at hu
  go_simp
  try with_reducible rfl
 try simp only [Act.put,upA,upB,upC]
 refine Qj.take 2 [3,10,11] (v:= .string S1) (by (simp only [List.getElem?_toArray,List.getElem?_cons_succ,List.getElem?_cons_zero];rfl)) (by kernel_rfl) (by kernel_rfl) (by kernel_rfl) (by kernel_rfl) (by exact fun _ _ _ h=> h) (Or.inl ⟨by rfl, ?_⟩) Qk ?_
 ·intro u hu
  try dsimp only at hu
  go_simp
  try with_reducible rfl
 try simp only [Act.put,upA,upB,upC]
 refine Qj.take 3 [10,11] (v:= .string S2) (by (simp only [List.getElem?_toArray,List.getElem?_cons_succ,List.getElem?_cons_zero];rfl)) (by kernel_rfl) (by kernel_rfl) (by kernel_rfl) (by kernel_rfl) (by exact fun _ _ _ h=> h) (Or.inl ⟨by rfl, ?_⟩) Qk ?_
 ·intro u hu
  try dsimp only at hu
  go_simp
  try with_reducible rfl
 try simp only [Act.put,upA,upB,upC]
 refine Qj.tk 5 Qk ?_
 refine Qj.take 6 [7,8,9,10,11] (v:= .int .i64 (d:Int)) (by (simp only [List.getElem?_toArray,List.getElem?_cons_succ,List.getElem?_cons_zero];rfl)) (by kernel_rfl) (by kernel_rfl) (by kernel_rfl) (by kernel_rfl) (by exact fun _ _ _ h=> h) (Or.inl ⟨by rfl, ?_⟩) Qk ?_
 ·intro u hu
  try dsimp only at hu
  go_simp
  try with_reducible rfl
 try simp only [Act.put,upA,upB,upC]
 refine Qj.take 7 [8,9,10,11] (v:= .int .i64 (q2:Int)) (by (simp only [List.getElem?_toArray,List.getElem?_cons_succ,List.getElem?_cons_zero];rfl)) (by kernel_rfl) (by kernel_rfl) (by kernel_rfl) (by kernel_rfl) (by exact fun _ _ _ h=> h) (Or.inl ⟨by rfl, ?_⟩) Qk ?_
 ·intro u hu
  try dsimp only at hu
  go_simp
  try with_reducible rfl
 try simp only [Act.put,upA,upB,upC]
 refine Qj.nx 4 (fun K hK=> ?_)
 rw [if_pos (by rfl)]
 go_simp
 refine hK.out _ _ (fun _=> (by repeat (first | apply K_.drew | apply K_.alloc | exact K_.refl _ | assumption))) ?_
 clear hK K
 try simp only [Act.put,upA,upB,upC]
 have b3:q2=0∨q2=1∨q2=2:=by omega
 obtain rfl | rfl | rfl:=b3
 all_goals
  refine Qj.nx 8 (fun K hK=> ?_)
  rw [if_pos (by rfl)]
  go_simp
  refine hK.out _ _ (fun _=> (by repeat (first | apply K_.drew | apply K_.alloc | exact K_.refl _ | assumption))) ?_
  clear hK K
  try simp only [Act.put,upA,upB,upC]
  refine Qj.nx 9 (fun K hK=> ?_)
  rw [if_pos (by rfl)]
  go_simp
  refine hK.out _ _ (fun _=> (by repeat (first | apply K_.drew | apply K_.alloc | exact K_.refl _ | assumption))) ?_
  clear hK K
  try simp only [Act.put,upA,upB,upC]
  refine Qj.nx 10 (fun K hK=> ?_)
  rw [if_pos (by rfl)]
  go_simp
  refine hK.out _ _ (fun _=> (by repeat (first | apply K_.drew | apply K_.alloc | exact K_.refl _ | assumption))) ?_
  clear hK K
  try simp only [Act.put,upA,upB,upC]
  refine Qj.nx 11 (fun K hK=> ?_)
  go_simp
  refine hK.out _ _ (fun h=> absurd rfl h) ?_
  clear hK K
  try simp only [Act.put,upA,upB,upC]
  refine Qj.dn ?_
  go_wp2
  go_ret
  exact ⟨_,rfl,by rw [ByteArray.size_append,hz2];decide,((K_.refl w).alloc _).drew⟩
theorem Rd.kept {w w':World} {rb:Nat} {a:Option Addr} {cap:Nat} {bs:List UInt8} {p:Nat} (h:Rd w rb a cap bs p) (k:K_ w w'):Rd w' rb a cap bs p:=by
 refine ⟨h.row.kept k,by rw [k.cell h.row.lt];exact h.c0,by rw [k.cell h.row.lt];exact h.c1,fun i hi=> ?_⟩
 obtain ⟨b,o,e,hne,hb,hc⟩:=h.bytes i hi
 exact ⟨b,o,e,hne,Nat.lt_of_lt_of_le hb k.size,by rw [k.cell hb];exact hc⟩
def Drawn (w w':World) (rb:Nat) (a:Option Addr) (cap:Nat) (bs:List UInt8) (p t m:Nat) (e:Ending):Prop:=
 ∃(s:ByteArray) (p':Nat),e= .returned (.string s)∧s.size<=m∧p<=p'∧p'<=p+t∧Rd w' rb a cap bs p'∧Xq rb (rb+1) w w'
theorem pick_at (w:World) (rb:Nat) (a:Option Addr) (cap:Nat) (bs:List UInt8) (p:Nat) (m:Int) (n:Nat) (hm:m= (n:Int)) (hR:Rd w rb a cap bs p) (hp:p<=1000000) (hn:n<=100000) (hbl:bs.length<=2000):
  Calls Try.prog 13 #[.pointer (some ⟨rb,0,none⟩),.int .i64 m] w fun e w'=> Picked w w' rb a cap bs p n e:=by
 rw [hm]
 exact pick_any w rb a cap bs p n hR hp hn hbl
theorem Xq.and_kept {lo hi:Nat} {a b c:World} (h:Xq lo hi a b) (k:K_ b c):Xq lo hi a c:=h.trans (.of_kept k)
theorem ask_any (w:World) (rb:Nat) (a:Option Addr) (cap:Nat) (bs:List UInt8) (p i n:Nat) (hR:Rd w rb a cap bs p) (hp:p<=900000) (hi:i<=100000) (hn:n<=100000) (hbl:bs.length<=2000):
  Calls Try.prog 33 #[.pointer (some ⟨rb,0,none⟩),.int .i64 (i:Int),.int .i64 (n:Int)] w fun e w'=> Drawn w w' rb a cap bs p 2 4 e:=by
 go_enter Try.func33,Try.ntmps33
 go_wp2_with fail
 refine (pick_at _ rb a cap bs p _ 12 rfl hR (by omega) (by omega) hbl).mono ?_
 rintro e w1 ⟨v,rfl,hv,hR1,kb1⟩
 have HR1:=Kz hR1
 have HK1:=Kz kb1
 clear hR1 kb1 hR
 by_cases h0:v=0
 ·have e0: ((v:Int) == 0)=true:=by simp [h0]
  clear hv
  go_wp2
  go_ret
  exact ⟨_,p+1,rfl,by decide,by omega,by omega,HR1.out,HK1.out⟩
 ·have e0: ((v:Int) == 0)=false:=by simpa using h0
  have last: ∀m:Nat,m<=100000->Calls Try.prog 13 #[.pointer (some ⟨rb,0,none⟩),.int .i64 (m:Int)] w1 fun e w'=> ∃q:Nat,e= .returned (.int .i64 (q:Int))∧q<=100000∧Rd w' rb a cap bs (p+2)∧Xq rb (rb+1) w w':=by
   intro m hm
   refine (pick_any _ rb a cap bs (p+1) m HR1.out (by omega) hm hbl).mono ?_
   rintro e w2 ⟨q,rfl,hq,hR2,kb2⟩
   exact ⟨q,rfl,by omega,hR2,HK1.out.trans kb2⟩
  have HL:=Kz last
  clear last
  by_cases h1:v=1
  ·have e1: ((v:Int) == 1)=true:=by simp [h1]
   clear hv h0 h1
   go_wp2_with fail
   refine (HL.out n hn).mono ?_
   rintro e w2 ⟨q,rfl,hq,hR2,kb2⟩
   have HR2:=Kz hR2
   have HK2:=Kz kb2
   clear hR2 kb2
   go_wp2_with fail
   refine (label_any _ q hq).mono ?_
   rintro e w3 ⟨s,rfl,hs,k3⟩
   go_wp2
   go_ret
   exact ⟨s,p+2,rfl,by omega,by omega,by omega,HR2.out.kept k3,HK2.out.and_kept k3⟩
  ·have e1: ((v:Int) == 1)=false:=by simp;omega
   clear hv h0 h1
   by_cases h2:i=0
   ·have e2: ((i:Int) == 0)=true:=by simp [h2]
    go_wp2_with fail
    refine (HL.out n hn).mono ?_
    rintro e w2 ⟨q,rfl,hq,hR2,kb2⟩
    have HR2:=Kz hR2
    have HK2:=Kz kb2
    clear hR2 kb2
    go_wp2_with fail
    refine (label_any _ q hq).mono ?_
    rintro e w3 ⟨s,rfl,hs,k3⟩
    go_wp2
    go_ret
    exact ⟨s,p+2,rfl,by omega,by omega,by omega,HR2.out.kept k3,HK2.out.and_kept k3⟩
   ·have e2: ((i:Int) == 0)=false:=by simpa using h2
    go_wp2_with fail
    refine (HL.out i hi).mono ?_
    rintro e w2 ⟨q,rfl,hq,hR2,kb2⟩
    have HR2:=Kz hR2
    have HK2:=Kz kb2
    clear hR2 kb2
    go_wp2_with fail
    refine (label_any _ q hq).mono ?_
    rintro e w3 ⟨s,rfl,hs,k3⟩
    go_wp2
    go_ret
    exact ⟨s,p+2,rfl,by omega,by omega,by omega,HR2.out.kept k3,HK2.out.and_kept k3⟩
theorem many_any (w:World) (s:ByteArray) (n:Nat) (hn:n<=1000) (hs:s.size<=100):
  Calls Try.prog 37 #[.string s,.int .i64 (n:Int)] w fun e w'=> (∃t:ByteArray,e= .returned (.string t)∧t.size<=n * s.size)∧w'=w:=by
 obtain ⟨B,hB⟩: ∃B,B=n * s.size:= ⟨_,rfl⟩
 have hB1:B<=100000:=by rw [hB];exact Nat.le_trans (Nat.mul_le_mul hn hs) (by omega)
 rw [<-hB]
 have HB:=Kz hB
 clear hB
 go_enter Try.func37,Try.ntmps37
 go_wp2
 go_loop [0,1,5] (fun x y z=> ∃(s' o:ByteArray) (m:Nat),x= .string s'∧y= .int .i64 (m:Int)∧z= .string o∧m<=n∧o.size+m * s'.size<=B∧(m=0∨s'.size<=B)) (fun _ y _=> (intOf y).toNat)
 case atStart=>
  refine ⟨s,_,n,rfl,rfl,rfl,Nat.le_refl _, ?_, ?_⟩
  ·have:=HB.out
   show 0+n * s.size<=B
   omega
  ·by_cases h:n=0
   ·exact .inl h
   ·refine .inr ?_
    rw [HB.out]
    exact Nat.le_mul_of_pos_left _ (by omega)
 case round=>
  obtain ⟨s',o,m,rfl,rfl,rfl,hm,hsz,hor⟩:=hrel
  by_cases h0:m=0
  ·have h0': ¬(0:Int) < (m:Int):=by omega
   have ho:o.size<=B:=by omega
   clear hsz hor
   go_wp2
   go_ret
   exact ⟨⟨o,rfl,ho⟩,rfl⟩
  ·have h0': (0:Int) < (m:Int):=by omega
   have hs':s'.size<=B:=by omega
   have ho:o.size<=B:=by omega
   obtain ⟨q,hq⟩: ∃q,q=m / 2:= ⟨_,rfl⟩
   have hq': (m:Int) / 2= (q:Int):=by omega
   have hqm:q < m:=by omega
   have hq0:q=0∨(s'++s').size<=B:=by
    rw [ByteArray.size_append]
    by_cases h:q=0
    ·exact .inl h
    ·have:2 * s'.size<=m * s'.size:=Nat.mul_le_mul_right _ (by omega)
     omega
   by_cases hr:m % 2=1
   ·have e1: (m:Int) % 2=1:=by omega
    have hf: (o++s').size+q * (s'++s').size<=B:=by
     rw [ByteArray.size_append,ByteArray.size_append]
     have:m * s'.size=q * (s'.size+s'.size)+s'.size:=by
      rw [show m=q+q+1 by omega,Nat.add_mul,Nat.add_mul,Nat.mul_add];omega
     omega
    have HF:=Kz hf
    have HQ:=Kz hq0
    clear hf hq0 hsz hor hq h0
    go_wp2
    go_round
    case rel=> exact ⟨s'++s',o++s',q,rfl,by go_num,rfl,by omega,HF.out,HQ.out⟩
    case measure=> simp [intOf];omega
   ·have e1: (m:Int) % 2=0:=by omega
    have hf:o.size+q * (s'++s').size<=B:=by
     rw [ByteArray.size_append]
     have:m * s'.size=q * (s'.size+s'.size):=by
      rw [show m=q+q by omega,Nat.add_mul,Nat.mul_add]
     omega
    have HF:=Kz hf
    have HQ:=Kz hq0
    clear hf hq0 hsz hor hq h0
    go_wp2
    go_round
    case rel=> exact ⟨s'++s',o,q,rfl,by go_num,rfl,by omega,HF.out,HQ.out⟩
    case measure=> simp [intOf];omega
def Digits (w w':World) (m:Nat) (e:Ending):Prop:= ∃s:ByteArray,e= .returned (.string s)∧s.size<=m∧K_ w w'
theorem dec_small (w:World) (n:Nat) (hn:n < 10):Calls Try.prog 35 #[.int .i64 (n:Int)] w fun e w'=> Digits w w' 1 e:=by
 have h1: (n:Int) < 10:=by omega
 have hc: (convert 22 9 (.slice (some ⟨w.heap.size,0,none⟩) 1 1)).run Try.prog (w.alloc (.cells #[.int .u8 (48+ (n:Int))] 5))= .ok (.string (strOfNums [48+ (n:Int)])) (w.alloc (.cells #[.int .u8 (48+ (n:Int))] 5)):=
  run_convert_bytes_arg (P:=Try.prog) _ 22 5 Try.underlying22 Try.underlying5 w.heap.size 0 1 1 [48+ (n:Int)] rfl (fun i hi=> by
   obtain rfl:i=0:=by omega
   rw [World.cell?_alloc_mark];rfl) 9 Try.underlying9
 go_enter Try.func35,Try.ntmps35
 go_wp2
 go_ret
 exact ⟨_,rfl,by rw [strOfNums_size];exact Nat.le_refl 1,(K_.refl w).alloc _⟩
theorem give_any (w:World) (rb:Nat) (a:Option Addr) (cap:Nat) (bs:List UInt8) (p:Nat) (hR:Rd w rb a cap bs p) (hp:p<=900000) (hbl:bs.length<=2000):
  Calls Try.prog 36 #[.pointer (some ⟨rb,0,none⟩)] w fun e w'=> Drawn w w' rb a cap bs p 2 31 e:=by
 go_enter Try.func36,Try.ntmps36
 go_wp2_with fail
 refine (pick_at _ rb a cap bs p _ 10 rfl hR (by omega) (by omega) hbl).mono ?_
 rintro e w1 ⟨v,rfl,hv,hR1,kb1⟩
 have HR1:=Kz hR1
 have HK1:=Kz kb1
 clear hR1 kb1 hR
 have last: ∀(m:Int) (n:Nat),m= (n:Int)->n<=100000->Calls Try.prog 13 #[.pointer (some ⟨rb,0,none⟩),.int .i64 m] w1 fun e w'=> ∃q:Nat,e= .returned (.int .i64 (q:Int))∧q<=n - 1∧Rd w' rb a cap bs (p+2)∧Xq rb (rb+1) w w':=by
  intro m n hm hn
  refine (pick_at _ rb a cap bs (p+1) m n hm HR1.out (by omega) hn hbl).mono ?_
  rintro e w2 ⟨q,rfl,hq,hR2,kb2⟩
  exact ⟨q,rfl,by omega,hR2,HK1.out.trans kb2⟩
 have HL:=Kz last
 clear last
 by_cases h0:v=0
 ·have e0: ((v:Int) == 0)=true:=by simp [h0]
  clear hv
  go_wp2
  go_ret
  exact ⟨_,p+1,rfl,by decide,by omega,by omega,HR1.out,HK1.out⟩
 have e0: ((v:Int) == 0)=false:=by simpa using h0
 by_cases h1:v=1
 ·have e1: ((v:Int) == 1)=true:=by simp [h1]
  clear hv
  go_wp2
  go_ret
  exact ⟨_,p+1,rfl,by decide,by omega,by omega,HR1.out,HK1.out⟩
 have e1: ((v:Int) == 1)=false:=by simp;omega
 by_cases h3:v=3
 ·have e3: ((v:Int) == 3)=true:=by simp [h3]
  clear hv h0 h1 h3
  go_wp2_with fail
  refine (HL.out _ 6 rfl (by omega)).mono ?_
  rintro e w2 ⟨q,rfl,hq,hR2,kb2⟩
  have HR2:=Kz hR2
  have HK2:=Kz kb2
  clear hR2 kb2
  go_wp2_with fail
  refine (label_any _ q (by omega)).mono ?_
  rintro e w3 ⟨s,rfl,hs,k3⟩
  go_wp2
  go_ret
  exact ⟨_,p+2,rfl,by rw [ByteArray.size_append];show 6+s.size<=31;omega,by omega,by omega,HR2.out.kept k3,HK2.out.and_kept k3⟩
 have e3: ((v:Int) == 3)=false:=by simp;omega
 by_cases h2:v=2
 ·have e2: ((v:Int) == 2)=true:=by simp [h2]
  clear hv h0 h1 h2 h3
  go_wp2_with fail
  refine (HL.out _ 2 rfl (by omega)).mono ?_
  rintro e w2 ⟨q,rfl,hq,hR2,kb2⟩
  have HR2:=Kz hR2
  have HK2:=Kz kb2
  clear hR2 kb2
  obtain ⟨m,hm⟩: ∃m:Nat,m=30 - q:= ⟨_,rfl⟩
  have hm':30 - (q:Int)= (m:Int):=by omega
  have hmb:m<=30:=by omega
  clear hm
  go_wp2_with fail
  refine (many_any _ ⟨#[103]⟩ m (by omega) (by decide)).mono ?_
  rintro e w3 ⟨⟨t,rfl,ht⟩,rfl⟩
  have ht':t.size<=30:=by
   have: (⟨#[103]⟩:ByteArray).size=1:=rfl
   rw [this] at ht
   omega
  clear ht
  go_wp2
  go_ret
  exact ⟨_,p+2,rfl,by omega,by omega,by omega,HR2.out,HK2.out⟩
 have e2: ((v:Int) == 2)=false:=by simp;omega
 clear hv h0 h1 h2 h3
 go_wp2_with fail
 refine (HL.out _ 3 rfl (by omega)).mono ?_
 rintro e w2 ⟨q,rfl,hq,hR2,kb2⟩
 have HR2:=Kz hR2
 have HK2:=Kz kb2
 clear hR2 kb2
 go_wp2_with fail
 refine (dec_small _ q (by omega)).mono ?_
 rintro e w3 ⟨s,rfl,hs,k3⟩
 go_wp2
 go_ret
 exact ⟨_,p+2,rfl,by rw [ByteArray.size_append];show 1+s.size<=31;omega,by omega,by omega,HR2.out.kept k3,HK2.out.and_kept k3⟩
theorem Try.dInfoStr : (Try.prog.info? 9).map (fun i=> (i.zero,i.size,i.bytes))=some (some (.string ByteArray.empty),1,16):=by kernel_rfl
theorem Try.dInfoCase : (Try.prog.info? 72).map (fun i=> (i.zero,i.size,i.bytes))=some (some (.agg #[.string ByteArray.empty,.int .i64 0]),2,24):=by kernel_rfl
theorem Try.dInfoStep : (Try.prog.info? 68).map (fun i=> (i.zero,i.size,i.bytes))=some (some (.agg #[.slice none 0 0,.int .i64 0,.slice none 0 0,.int .i64 0,.int .i64 0,.bool false,.bool false,.string ByteArray.empty]),8,96):=by kernel_rfl
theorem Try.dSizeAction : (Try.prog.info? 28).map (·.size)=some 2:=by kernel_rfl
theorem dInfo_parts {P:Program} {e:TypeId} {z:Value} {size bytes:Nat} (h: (P.info? e).map (fun i=> (i.zero,i.size,i.bytes))=some (some z,size,bytes)): ∃i,P.info? e=some i∧i.zero=some z∧i.size=size∧i.bytes=bytes:=by
 obtain ⟨i,hi,hzz⟩:=Option.map_eq_some_iff.1 h
 simp only [Prod.mk.injEq] at hzz
 exact ⟨i,hi,hzz.1,hzz.2.1,hzz.2.2⟩
theorem d_strs_one (l:List ByteArray): ∀u∈l.map Value.string,u.oneCell'=true:=by
 intro u hu
 obtain ⟨x,_,rfl⟩:=List.mem_map.1 hu
 rfl
theorem d_tstrs_of_owned {w:World} {base:Nat} {t:TypeId} {v:Value} {n:Nat} {l:List ByteArray} (h:w.ownsRow base t 1 v n (l.map Value.string)): ∃a cap,v= .slice a l.length cap∧l.length<=cap∧TStrs w t a l:=by
 have hn:n=l.length:=by have:=h.1;simp at this;omega
 subst hn
 rcases h.2 with ⟨rfl,h0⟩ | ⟨g,cap,cur,rfl,hb,hg,hnc,_,_,_⟩
 ·exact ⟨none,0,by rw [h0],by omega,.inl (List.eq_nil_of_length_eq_zero h0)⟩
 ·refine ⟨_,cap,rfl,hnc,.inr ⟨g,cur,_,rfl,hg,fun i hi=> ?_⟩⟩
  have:=h.cells (g:=g) rfl i (.string (l.getD i ByteArray.empty)) (by simp [List.getD,hi])
  rw [Addr.add_mid,Nat.zero_add] at this
  exact this
def dCaseCells (l:List CaseD):List Value:= (l.map CaseD.cells).flatten
theorem dCaseCells_length (l:List CaseD): (dCaseCells l).length=l.length * 2:=by
 induction l with
 | nil=> rfl
 | cons c r ih=> simp only [dCaseCells,List.map_cons,List.flatten_cons,List.length_append,List.length_cons] at ih⊢;rw [ih];simp [CaseD.cells];omega
theorem dCaseCells_snoc (l:List CaseD) (c:CaseD):dCaseCells (l++ [c])=dCaseCells l++c.cells:=by simp [dCaseCells]
theorem dCaseCells_one (l:List CaseD): ∀u∈dCaseCells l,u.oneCell'=true:=by
 intro u hu
 simp only [dCaseCells,List.mem_flatten,List.mem_map] at hu
 obtain ⟨_,⟨c,_,rfl⟩,hu⟩:=hu
 simp only [CaseD.cells,List.mem_cons,List.not_mem_nil,or_false] at hu
 rcases hu with rfl | rfl <;> rfl
theorem dCaseCells_get : ∀(l:List CaseD) (i j:Nat),i < l.length->j < 2->(dCaseCells l)[i * 2+j]? = ((l.getD i CaseD.zero).cells)[j]?
 | [],_,_,h,_=> absurd h (Nat.not_lt_zero _)
 | c :: r,0,j,_,hj=> by
  have e:dCaseCells (c :: r)=c.cells++dCaseCells r:=rfl
  rw [e,Nat.zero_mul,Nat.zero_add,List.getElem?_append_left (by simpa [CaseD.cells] using hj)]
  rfl
 | c :: r,i+1,j,h,hj=> by
  have e:dCaseCells (c :: r)=c.cells++dCaseCells r:=rfl
  have hl:c.cells.length=2:=rfl
  rw [e,List.getElem?_append_right (by rw [hl];omega),hl,show (i+1) * 2+j - 2=i * 2+j by omega,dCaseCells_get r i j (by simpa using h) hj]
  rfl
theorem d_tcases_of_owned {w:World} {base:Nat} {t:TypeId} {v:Value} {n:Nat} {l:List CaseD} (h:w.ownsRow base t 2 v n (dCaseCells l)): ∃a cap,v= .slice a l.length cap∧TCases w t a l:=by
 have hn:n=l.length:=by have:=h.1;rw [dCaseCells_length] at this;omega
 subst hn
 rcases h.2 with ⟨rfl,h0⟩ | ⟨g,cap,cur,rfl,hb,hg,hnc,_,_,_⟩
 ·exact ⟨none,0,by rw [h0],.inl (List.eq_nil_of_length_eq_zero h0)⟩
 ·refine ⟨_,cap,rfl,.inr ⟨g,cur,_,rfl,hg,fun i hi j u hu=> ?_⟩⟩
  have hj:j < 2:=by have:= (List.getElem?_eq_some_iff.1 hu).1;simpa [CaseD.cells] using this
  have:=h.cells (g:=g) rfl (i * 2+j) u (by rw [dCaseCells_get l i j hi hj];exact hu)
  rw [Addr.add_mid,Nat.zero_add] at this
  exact this
theorem d_step_one (s:Xz) (aa:Option Addr) (ca:Nat) (ac:Option Addr) (cc:Nat): ∀u∈s.cells aa ca ac cc,u.oneCell'=true:=by
 intro u hu
 have:=Xz.one s aa ca ac cc
 rw [Array.all_eq_true_iff_forall_mem] at this
 exact this u (by simpa using hu)
theorem Xq.sameKind {w w':World} {rb:Nat} {a:Option Addr} {cap:Nat} {bs:List UInt8} {p:Nat} (h:Xq rb (rb+1) w w') (hR:Rd w rb a cap bs p):SameKind 65 w w':=by
 intro b cur u fr hu hb
 obtain ⟨c,h1,_⟩:=hR.row
 have hne:b≠rb:=by
  rintro rfl
  rw [h1] at hb
  simp only [Option.some.injEq,Obj.cells.injEq] at hb
  exact hu hb.2.1.symm
 rw [h.block b (heap_lt hb) (by omega)]
 exact hb
theorem Xq.cell {w w':World} {lo hi:Nat} (h:Xq lo hi w w') {b o:Nat} (hb:b < w.heap.size) (hn:b < lo∨hi<=b):w'.cell? ⟨b,o,none⟩=w.cell? ⟨b,o,none⟩:=World.cell?_of_block (w:=w) (h.block b hb hn)
theorem RowT.but {w w':World} {lo hi b n:Nat} {t:TypeId} (h:RowT w b t n) (k:Xq lo hi w w') (hn:b < lo∨hi<=b):RowT w' b t n:=h.block (k.block b h.lt hn)
theorem in64_of {x:Int} (h: -1000<=x∧x<=1000):In64 x:=by unfold In64;omega
def CaseD.Tiny (c:CaseD):Prop:=c.text.size<=300∧ -1000<=c.goto∧c.goto<=1000
structure Xz.TinyN (m:Nat) (s:Xz):Prop where
 asks:s.asks.length<=m
 askEach: ∀x∈s.asks,x.size<=300
 on: -1000<=s.on∧s.on<=1000
 cases:s.cases.length<=m
 caseEach: ∀c∈s.cases,c.Tiny
 els:In64 s.els
 fall: -1000<=s.fall∧s.fall<=1000
 give:s.give.size<=300
theorem Xz.TinyN.fits {m:Nat} {s:Xz} (h:s.TinyN m) (hm:m<=1000):s.Fits:=by
 have:=h.asks;have:=h.cases;have:=h.on;have:=h.fall;have:=h.give
 refine ⟨?_,fun x hx=> ?_, ?_, ?_,fun c hc=> ⟨?_, ?_⟩, ?_, ?_, ?_⟩
 all_goals first | exact h.els | (unfold maxLen;omega) | (unfold In64;omega) | skip
 ·have:=h.askEach x hx;unfold maxLen;omega
 ·have:= (h.caseEach c hc).1;unfold maxLen;omega
 ·have:= (h.caseEach c hc).2;unfold In64;omega
abbrev Xz.Tiny (s:Xz):Prop:=Xz.TinyN 20 s
theorem Xz.TinyN.mono {m n:Nat} {s:Xz} (h:s.TinyN m) (hn:m<=n):s.TinyN n:= ⟨Nat.le_trans h.asks hn,h.askEach,h.on,Nat.le_trans h.cases hn,h.caseEach,h.els,h.fall,h.give⟩
structure SBox (w:World) (sb:Nat) (va vc:Value) (s:Xz):Prop where
 row:RowT w sb 68 8
 c0:w.cell? ⟨sb,0,none⟩=some va
 c1:w.cell? ⟨sb,1,none⟩=some (.int .i64 s.on)
 c2:w.cell? ⟨sb,2,none⟩=some vc
 c3:w.cell? ⟨sb,3,none⟩=some (.int .i64 s.els)
 c4:w.cell? ⟨sb,4,none⟩=some (.int .i64 s.fall)
 c5:w.cell? ⟨sb,5,none⟩=some (.bool s.fin)
 c6:w.cell? ⟨sb,6,none⟩=some (.bool s.bad)
 c7:w.cell? ⟨sb,7,none⟩=some (.string s.give)
theorem SBox.block {w w':World} {sb:Nat} {va vc:Value} {s:Xz} (h:SBox w sb va vc s) (k:w'.heap[sb]? =w.heap[sb]?):SBox w' sb va vc s:=by
 have hc: ∀o,w'.cell? ⟨sb,o,none⟩=w.cell? ⟨sb,o,none⟩:=fun o=> World.cell?_of_block (w:=w) k
 exact ⟨h.row.block k,(hc _).trans h.c0,(hc _).trans h.c1,(hc _).trans h.c2,(hc _).trans h.c3,(hc _).trans h.c4,(hc _).trans h.c5,(hc _).trans h.c6,(hc _).trans h.c7⟩
theorem SBox.kept {w w':World} {sb:Nat} {va vc:Value} {s:Xz} (h:SBox w sb va vc s) (k:K_ w w'):SBox w' sb va vc s:=h.block (k.block sb h.row.lt)
theorem SBox.cell {w:World} {sb:Nat} {va vc:Value} {s:Xz} (h:SBox w sb va vc s) {o:Nat} (ho:o < 8): (∃v,w.cell? ⟨sb,o,none⟩=some v)∧w.frozen? ⟨sb,o,none⟩=false:=h.row.row.at ho
theorem SBox.made (w:World) (els fall:Int):SBox (w.alloc (.cells #[.slice none 0 0,.int .i64 0,.slice none 0 0,.int .i64 els,.int .i64 fall,.bool false,.bool false,.string ⟨#[]⟩] 68)) w.heap.size (.slice none 0 0) (.slice none 0 0) ⟨[],0,[],els,fall,false,false,⟨#[]⟩⟩:=by
 have hr:=Zx w #[.slice none 0 0,.int .i64 0,.slice none 0 0,.int .i64 els,.int .i64 fall,.bool false,.bool false,.string ⟨#[]⟩] 68
 have hc: ∀j v,(#[.slice none 0 0,.int .i64 0,.slice none 0 0,.int .i64 els,.int .i64 fall,.bool false,.bool false,.string ⟨#[]⟩]:Array Value).toList[j]? =some v->(w.alloc (.cells #[.slice none 0 0,.int .i64 0,.slice none 0 0,.int .i64 els,.int .i64 fall,.bool false,.bool false,.string ⟨#[]⟩] 68)).cell? ⟨w.heap.size,j,none⟩=some v:=fun j v hv=> by
  have:=hr j v hv
  rw [Nat.zero_add] at this
  exact this
 exact ⟨RowT.made w _ _,hc 0 _ rfl,hc 1 _ rfl,hc 2 _ rfl,hc 3 _ rfl,hc 4 _ rfl,hc 5 _ rfl,hc 6 _ rfl,hc 7 _ rfl⟩
theorem SBox.on {w:World} {sb:Nat} {va vc:Value} {s:Xz} (h:SBox w sb va vc s) (x:Int):SBox (w.setCell ⟨sb,1,none⟩ (.int .i64 x)) sb va vc { s with on:=x }:=
 ⟨h.row.set _,(Xj (by omega) _).trans h.c0,set_hit h.row.row (by omega) _,(Xj (by omega) _).trans h.c2,(Xj (by omega) _).trans h.c3,(Xj (by omega) _).trans h.c4,(Xj (by omega) _).trans h.c5,(Xj (by omega) _).trans h.c6,(Xj (by omega) _).trans h.c7⟩
theorem SBox.els {w:World} {sb:Nat} {va vc:Value} {s:Xz} (h:SBox w sb va vc s) (x:Int):SBox (w.setCell ⟨sb,3,none⟩ (.int .i64 x)) sb va vc { s with els:=x }:=
 ⟨h.row.set _,(Xj (by omega) _).trans h.c0,(Xj (by omega) _).trans h.c1,(Xj (by omega) _).trans h.c2,set_hit h.row.row (by omega) _,(Xj (by omega) _).trans h.c4,(Xj (by omega) _).trans h.c5,(Xj (by omega) _).trans h.c6,(Xj (by omega) _).trans h.c7⟩
theorem SBox.fall {w:World} {sb:Nat} {va vc:Value} {s:Xz} (h:SBox w sb va vc s) (x:Int):SBox (w.setCell ⟨sb,4,none⟩ (.int .i64 x)) sb va vc { s with fall:=x }:=
 ⟨h.row.set _,(Xj (by omega) _).trans h.c0,(Xj (by omega) _).trans h.c1,(Xj (by omega) _).trans h.c2,(Xj (by omega) _).trans h.c3,set_hit h.row.row (by omega) _,(Xj (by omega) _).trans h.c5,(Xj (by omega) _).trans h.c6,(Xj (by omega) _).trans h.c7⟩
theorem SBox.fin {w:World} {sb:Nat} {va vc:Value} {s:Xz} (h:SBox w sb va vc s) (x:Bool):SBox (w.setCell ⟨sb,5,none⟩ (.bool x)) sb va vc { s with fin:=x }:=
 ⟨h.row.set _,(Xj (by omega) _).trans h.c0,(Xj (by omega) _).trans h.c1,(Xj (by omega) _).trans h.c2,(Xj (by omega) _).trans h.c3,(Xj (by omega) _).trans h.c4,set_hit h.row.row (by omega) _,(Xj (by omega) _).trans h.c6,(Xj (by omega) _).trans h.c7⟩
theorem SBox.bad {w:World} {sb:Nat} {va vc:Value} {s:Xz} (h:SBox w sb va vc s) (x:Bool):SBox (w.setCell ⟨sb,6,none⟩ (.bool x)) sb va vc { s with bad:=x }:=
 ⟨h.row.set _,(Xj (by omega) _).trans h.c0,(Xj (by omega) _).trans h.c1,(Xj (by omega) _).trans h.c2,(Xj (by omega) _).trans h.c3,(Xj (by omega) _).trans h.c4,(Xj (by omega) _).trans h.c5,set_hit h.row.row (by omega) _,(Xj (by omega) _).trans h.c7⟩
theorem SBox.give {w:World} {sb:Nat} {va vc:Value} {s:Xz} (h:SBox w sb va vc s) (x:ByteArray):SBox (w.setCell ⟨sb,7,none⟩ (.string x)) sb va vc { s with give:=x }:=
 ⟨h.row.set _,(Xj (by omega) _).trans h.c0,(Xj (by omega) _).trans h.c1,(Xj (by omega) _).trans h.c2,(Xj (by omega) _).trans h.c3,(Xj (by omega) _).trans h.c4,(Xj (by omega) _).trans h.c5,(Xj (by omega) _).trans h.c6,set_hit h.row.row (by omega) _⟩
theorem SBox.asks {w:World} {sb:Nat} {va vc:Value} {s:Xz} (h:SBox w sb va vc s) (v:Value) (l:List ByteArray):SBox (w.setCell ⟨sb,0,none⟩ v) sb v vc { s with asks:=l }:=
 ⟨h.row.set _,set_hit h.row.row (by omega) _,(Xj (by omega) _).trans h.c1,(Xj (by omega) _).trans h.c2,(Xj (by omega) _).trans h.c3,(Xj (by omega) _).trans h.c4,(Xj (by omega) _).trans h.c5,(Xj (by omega) _).trans h.c6,(Xj (by omega) _).trans h.c7⟩
theorem SBox.cases {w:World} {sb:Nat} {va vc:Value} {s:Xz} (h:SBox w sb va vc s) (v:Value) (l:List CaseD):SBox (w.setCell ⟨sb,2,none⟩ v) sb va v { s with cases:=l }:=
 ⟨h.row.set _,(Xj (by omega) _).trans h.c0,(Xj (by omega) _).trans h.c1,set_hit h.row.row (by omega) _,(Xj (by omega) _).trans h.c3,(Xj (by omega) _).trans h.c4,(Xj (by omega) _).trans h.c5,(Xj (by omega) _).trans h.c6,(Xj (by omega) _).trans h.c7⟩
theorem SBox.same {w w':World} {sb:Nat} {va vc:Value} {s:Xz} (h:SBox w sb va vc s) {t:TypeId} (k:SameKind t w w') (ht:68≠t):SBox w' sb va vc s:=by
 obtain ⟨cur,h1,_⟩:=h.row
 exact h.block ((k sb cur _ _ ht h1).trans h1.symm)
structure SStN (m:Nat) (W wr:World) (rb sb:Nat) (a:Option Addr) (cap:Nat) (bs:List UInt8) (p:Nat) (va vc:Value) (s:Xz):Prop where
 rd:Rd wr rb a cap bs p
 rd0: ∃p0,Rd W rb a cap bs p0
 sbl:W.heap.size<=sb
 kb:Xq rb (rb+1) W wr
 box:SBox wr sb va vc s
 asks:wr.ownsRow W.heap.size 9 1 va s.asks.length (s.asks.map Value.string)
 cases:wr.ownsRow W.heap.size 72 2 vc s.cases.length (dCaseCells s.cases)
 tiny:s.TinyN m
theorem SStN.rbl {mN:Nat} {W wr:World} {rb sb:Nat} {a:Option Addr} {cap:Nat} {bs:List UInt8} {p:Nat} {va vc:Value} {s:Xz} (h:SStN mN W wr rb sb a cap bs p va vc s):rb < W.heap.size:=let ⟨_,h0⟩:=h.rd0;h0.row.lt
theorem SStN.drawn {mN:Nat} {W wr w':World} {rb sb:Nat} {a:Option Addr} {cap:Nat} {bs:List UInt8} {p p':Nat} {va vc:Value} {s:Xz} (h:SStN mN W wr rb sb a cap bs p va vc s) (hR:Rd w' rb a cap bs p') (k:Xq rb (rb+1) wr w'):SStN mN W w' rb sb a cap bs p' va vc s:=by
 have hk:=k.sameKind h.rd
 have:=h.rbl
 have:=h.sbl
 exact ⟨hR,h.rd0,h.sbl,h.kb.trans k,h.box.block (k.block sb h.box.row.lt (by omega)),owns_kept h.asks hk (by decide),owns_kept h.cases hk (by decide),h.tiny⟩
theorem SStN.kept {mN:Nat} {W wr w':World} {rb sb:Nat} {a:Option Addr} {cap:Nat} {bs:List UInt8} {p:Nat} {va vc:Value} {s:Xz} (h:SStN mN W wr rb sb a cap bs p va vc s) (k:K_ wr w'):SStN mN W w' rb sb a cap bs p va vc s:=h.drawn (h.rd.kept k) (.of_kept k)
theorem Rd.below {W w w':World} {rb:Nat} {a:Option Addr} {cap:Nat} {bs:List UInt8} {p p0:Nat} (h:Rd w rb a cap bs p) (h0:Rd W rb a cap bs p0) (k:Below W.heap.size w w') (_hz:W.heap.size<=w.heap.size):Rd w' rb a cap bs p:=by
 have hc: ∀b o,b < W.heap.size->w'.cell? ⟨b,o,none⟩=w.cell? ⟨b,o,none⟩:=fun b o hl=> World.cell?_of_block (w:=w) (k.block b hl)
 have hr:=h0.row.lt
 have hs:=k.size
 refine ⟨h.row.block (k.block _ hr),(hc _ _ hr).trans h.c0,(hc _ _ hr).trans h.c1,fun i hi=> ?_⟩
 obtain ⟨b,o,e,hne,_,hcc⟩:=h.bytes i hi
 obtain ⟨b',o',e',_,hl,_⟩:=h0.bytes i hi
 rw [e] at e'
 simp only [Option.some.injEq,Addr.mk.injEq,and_true] at e'
 obtain ⟨rfl,rfl⟩:=e'
 exact ⟨b,o,e,hne,by omega,by rw [hc _ _ hl];exact hcc⟩
theorem SStN.field {mN:Nat} {W wr:World} {rb sb:Nat} {a:Option Addr} {cap:Nat} {bs:List UInt8} {p:Nat} {va vc:Value} {s s':Xz} (h:SStN mN W wr rb sb a cap bs p va vc s) {o:Nat} {v:Value} (hb:SBox (wr.setCell ⟨sb,o,none⟩ v) sb va vc s') (ha:s'.asks=s.asks) (hc:s'.cases=s.cases) (ht:s'.TinyN mN):SStN mN W (wr.setCell ⟨sb,o,none⟩ v) rb sb a cap bs p va vc s':=by
 have hk:=h.box.row.same (o:=o) v
 have hbl:Below W.heap.size wr (wr.setCell ⟨sb,o,none⟩ v):= (Below.refl _ _).setCell h.sbl v
 obtain ⟨p0,h0⟩:=h.rd0
 exact ⟨h.rd.below h0 hbl h.kb.size,h.rd0,h.sbl,h.kb.below hbl,hb,by rw [ha];exact owns_kept h.asks hk (by decide),by rw [hc];exact owns_kept h.cases hk (by decide),ht⟩
theorem SStN.on {mN:Nat} {W wr:World} {rb sb:Nat} {a:Option Addr} {cap:Nat} {bs:List UInt8} {p:Nat} {va vc:Value} {s:Xz} (h:SStN mN W wr rb sb a cap bs p va vc s) {x:Int} (hx: -1000<=x∧x<=1000):SStN mN W (wr.setCell ⟨sb,1,none⟩ (.int .i64 x)) rb sb a cap bs p va vc { s with on:=x }:=
 h.field (h.box.on x) rfl rfl ⟨h.tiny.asks,h.tiny.askEach,hx,h.tiny.cases,h.tiny.caseEach,h.tiny.els,h.tiny.fall,h.tiny.give⟩
theorem SStN.els {mN:Nat} {W wr:World} {rb sb:Nat} {a:Option Addr} {cap:Nat} {bs:List UInt8} {p:Nat} {va vc:Value} {s:Xz} (h:SStN mN W wr rb sb a cap bs p va vc s) {x:Int} (hx: -1000<=x∧x<=1000):SStN mN W (wr.setCell ⟨sb,3,none⟩ (.int .i64 x)) rb sb a cap bs p va vc { s with els:=x }:=
 h.field (h.box.els x) rfl rfl ⟨h.tiny.asks,h.tiny.askEach,h.tiny.on,h.tiny.cases,h.tiny.caseEach,in64_of hx,h.tiny.fall,h.tiny.give⟩
theorem SStN.fall {mN:Nat} {W wr:World} {rb sb:Nat} {a:Option Addr} {cap:Nat} {bs:List UInt8} {p:Nat} {va vc:Value} {s:Xz} (h:SStN mN W wr rb sb a cap bs p va vc s) {x:Int} (hx: -1000<=x∧x<=1000):SStN mN W (wr.setCell ⟨sb,4,none⟩ (.int .i64 x)) rb sb a cap bs p va vc { s with fall:=x }:=
 h.field (h.box.fall x) rfl rfl ⟨h.tiny.asks,h.tiny.askEach,h.tiny.on,h.tiny.cases,h.tiny.caseEach,h.tiny.els,hx,h.tiny.give⟩
theorem SStN.askBox {mN:Nat} {W wr w1 w2:World} {rb sb:Nat} {a:Option Addr} {cap:Nat} {bs:List UInt8} {p:Nat} {va vc:Value} {s:Xz} (h:SStN mN W wr rb sb a cap bs p va vc s) (k1:K_ wr w1) (hg:w1.grownBy w2 va.ownBlock):SBox w2 sb va vc s:=
 (h.kept k1).box.same (SameKind.of_grown (h.kept k1).asks hg) (by decide)
theorem SStN.caseBox {mN:Nat} {W wr w1 w2:World} {rb sb:Nat} {a:Option Addr} {cap:Nat} {bs:List UInt8} {p:Nat} {va vc:Value} {s:Xz} (h:SStN mN W wr rb sb a cap bs p va vc s) (k1:K_ wr w1) (hg:w1.grownBy w2 vc.ownBlock):SBox w2 sb va vc s:=
 (h.kept k1).box.same (SameKind.of_grown (h.kept k1).cases hg) (by decide)
theorem SStN.addAsk {mN:Nat} {W wr w1 w2:World} {rb sb:Nat} {a:Option Addr} {cap:Nat} {bs:List UInt8} {p:Nat} {va vc v':Value} {s:Xz} {x:ByteArray} (h:SStN mN W wr rb sb a cap bs p va vc s) (k1:K_ wr w1)
  (hown:w2.ownsRow W.heap.size 9 1 v' (s.asks.length+1) (s.asks.map Value.string++ [.string x])) (hg:w1.grownBy w2 va.ownBlock) (hl:s.asks.length+1<=mN) (hx:x.size<=300):SStN mN W (w2.setCell ⟨sb,0,none⟩ v') rb sb a cap bs p v' vc { s with asks:=s.asks++ [x] }:=by
 have h1:=h.kept k1
 have hk:SameKind 9 w1 w2:=SameKind.of_grown h1.asks hg
 have hb2:=h1.box.same hk (by decide)
 have hk2:=hb2.row.same (o:=0) v'
 have hbl:Below W.heap.size w1 (w2.setCell ⟨sb,0,none⟩ v'):= ((Below.refl _ _).grown hg h1.kb.size (fun k hk=> (h1.asks.lt k hk).1)).setCell h.sbl v'
 obtain ⟨p0,h0⟩:=h.rd0
 refine ⟨h1.rd.below h0 hbl h1.kb.size,h.rd0,h.sbl,h1.kb.below hbl,hb2.asks v' _, ?_,owns_kept (owns_kept h1.cases hk (by decide)) hk2 (by decide), ?_⟩
 ·have:=owns_kept hown hk2 (by decide)
  simpa using this
 ·refine ⟨by simpa using hl,fun y hy=> ?_,h.tiny.on,h.tiny.cases,h.tiny.caseEach,h.tiny.els,h.tiny.fall,h.tiny.give⟩
  simp only [List.mem_append,List.mem_singleton] at hy
  rcases hy with hy | rfl
  ·exact h.tiny.askEach y hy
  ·exact hx
theorem SStN.addCase {mN:Nat} {W wr w1 w2:World} {rb sb:Nat} {a:Option Addr} {cap:Nat} {bs:List UInt8} {p:Nat} {va vc v':Value} {s:Xz} {x:CaseD} (h:SStN mN W wr rb sb a cap bs p va vc s) (k1:K_ wr w1)
  (hown:w2.ownsRow W.heap.size 72 2 v' (s.cases.length+1) (dCaseCells s.cases++x.cells)) (hg:w1.grownBy w2 vc.ownBlock) (hl:s.cases.length+1<=mN) (hx:x.Tiny):SStN mN W (w2.setCell ⟨sb,2,none⟩ v') rb sb a cap bs p va v' { s with cases:=s.cases++ [x] }:=by
 have h1:=h.kept k1
 have hk:SameKind 72 w1 w2:=SameKind.of_grown h1.cases hg
 have hb2:=h1.box.same hk (by decide)
 have hk2:=hb2.row.same (o:=2) v'
 have hbl:Below W.heap.size w1 (w2.setCell ⟨sb,2,none⟩ v'):= ((Below.refl _ _).grown hg h1.kb.size (fun k hk=> (h1.cases.lt k hk).1)).setCell h.sbl v'
 obtain ⟨p0,h0⟩:=h.rd0
 refine ⟨h1.rd.below h0 hbl h1.kb.size,h.rd0,h.sbl,h1.kb.below hbl,hb2.cases v' _,owns_kept (owns_kept h1.asks hk (by decide)) hk2 (by decide), ?_, ?_⟩
 ·have:=owns_kept hown hk2 (by decide)
  rw [<-dCaseCells_snoc] at this
  simpa using this
 ·refine ⟨h.tiny.asks,h.tiny.askEach,h.tiny.on,by simpa using hl,fun y hy=> ?_,h.tiny.els,h.tiny.fall,h.tiny.give⟩
  simp only [List.mem_append,List.mem_singleton] at hy
  rcases hy with hy | rfl
  ·exact h.tiny.caseEach y hy
  ·exact hx
def NilOk (cs:List Value):Prop:= ∀n c,Value.slice none n c∈cs->n=0∧c=0
theorem NilOk.append {xs cs:List Value} (h:NilOk xs) (k:NilOk cs):NilOk (xs++cs):=fun n c hm=> by
 rcases List.mem_append.1 hm with h1 | h1
 ·exact h n c h1
 ·exact k n c h1
theorem nil_of_owned {w:World} {base size:Nat} {e:TypeId} {n c m:Nat} {xs:List Value} (h:w.ownsRow base e size (.slice none n c) m xs):n=0∧c=0:=by
 rcases h.2 with ⟨e,_⟩ | ⟨g,cap,cur,e,_⟩
 ·simp only [Value.slice.injEq,true_and] at e;exact e
 ·simp at e
theorem nil_cells {s:Xz} {aa ac:Option Addr} {ca cc:Nat} (h1:aa=none->s.asks.length=0∧ca=0) (h2:ac=none->s.cases.length=0∧cc=0):NilOk (s.cells aa ca ac cc):=by
 intro n c hm
 simp only [Xz.cells,List.mem_cons,List.not_mem_nil,or_false,Value.slice.injEq,reduceCtorEq,false_or,or_self] at hm
 rcases hm with ⟨e,rfl,rfl⟩ | ⟨e,rfl,rfl⟩
 ·exact h1 e.symm
 ·exact h2 e.symm
theorem SStN.nils {mN:Nat} {W wr:World} {rb sb:Nat} {a:Option Addr} {cap:Nat} {bs:List UInt8} {p:Nat} {aa ac:Option Addr} {n ca m cc:Nat} {s:Xz} (h:SStN mN W wr rb sb a cap bs p (.slice aa n ca) (.slice ac m cc) s) (hn:n=s.asks.length) (hm:m=s.cases.length):NilOk (s.cells aa ca ac cc):=by
 subst hn hm
 exact nil_cells (fun e=> by subst e;exact nil_of_owned h.asks) (fun e=> by subst e;exact nil_of_owned h.cases)
theorem SStN.cells {mN:Nat} {W wr:World} {rb sb:Nat} {a:Option Addr} {cap:Nat} {bs:List UInt8} {p:Nat} {va vc:Value} {s:Xz} (h:SStN mN W wr rb sb a cap bs p va vc s): ∃aa ca ac cc,va= .slice aa s.asks.length ca∧vc= .slice ac s.cases.length cc∧TStep wr 9 72 (s.cells aa ca ac cc) s:=by
 obtain ⟨aa,ca,ea,hca,ta⟩:=d_tstrs_of_owned h.asks
 obtain ⟨ac,cc,ec,tc⟩:=d_tcases_of_owned h.cases
 exact ⟨aa,ca,ac,cc,ea,ec,aa,ca,ac,cc,rfl,ta,tc,hca⟩
abbrev SSt (W wr:World) (rb sb:Nat) (a:Option Addr) (cap:Nat) (bs:List UInt8) (p:Nat) (va vc:Value) (s:Xz):Prop:=SStN 20 W wr rb sb a cap bs p va vc s
structure AStN (m:Nat) (w wr:World) (rb ab:Nat) (a:Option Addr) (cap:Nat) (bs:List UInt8) (p:Nat) (cost:Int) (v:Value) (L:List Xz) (xs:List Value):Prop where
 rd:Rd wr rb a cap bs p
 rd0: ∃p0,Rd w rb a cap bs p0
 abl:w.heap.size<=ab
 kb:Xq rb (rb+1) w wr
 row:RowT wr ab 28 2
 c0:wr.cell? ⟨ab,0,none⟩=some (.int .i64 cost)
 c1:wr.cell? ⟨ab,1,none⟩=some v
 own:wr.ownsRow w.heap.size 68 8 v L.length xs
 pack:PackedS wr 9 72 xs L
 tiny: ∀s∈L,s.TinyN m
 nils:NilOk xs
theorem AStN.rbl {mN:Nat} {w wr:World} {rb ab:Nat} {a:Option Addr} {cap:Nat} {bs:List UInt8} {p:Nat} {cost:Int} {v:Value} {L:List Xz} {xs:List Value} (h:AStN mN w wr rb ab a cap bs p cost v L xs):rb < w.heap.size:=let ⟨_,h0⟩:=h.rd0;h0.row.lt
theorem AStN.drawn {mN:Nat} {w wr w':World} {rb ab:Nat} {a:Option Addr} {cap:Nat} {bs:List UInt8} {p p':Nat} {cost:Int} {v:Value} {L:List Xz} {xs:List Value} (h:AStN mN w wr rb ab a cap bs p cost v L xs) (hR:Rd w' rb a cap bs p') (k:Xq rb (rb+1) wr w'):AStN mN w w' rb ab a cap bs p' cost v L xs:=by
 have hk:=k.sameKind h.rd
 have:=h.rbl
 have:=h.abl
 have hc: ∀o,w'.cell? ⟨ab,o,none⟩=wr.cell? ⟨ab,o,none⟩:=fun o=> k.cell h.row.lt (by omega)
 exact ⟨hR,h.rd0,h.abl,h.kb.trans k,h.row.but k (by omega),(hc _).trans h.c0,(hc _).trans h.c1,owns_kept h.own hk (by decide),h.pack.same hk (by decide) (by decide),h.tiny,h.nils⟩
theorem AStN.kept {mN:Nat} {w wr w':World} {rb ab:Nat} {a:Option Addr} {cap:Nat} {bs:List UInt8} {p:Nat} {cost:Int} {v:Value} {L:List Xz} {xs:List Value} (h:AStN mN w wr rb ab a cap bs p cost v L xs) (k:K_ wr w'):AStN mN w w' rb ab a cap bs p cost v L xs:=h.drawn (h.rd.kept k) (.of_kept k)
theorem PackedS.push {w:World} {ts tc:TypeId} {xs cs:List Value} {l:List Xz} {s:Xz} (h:PackedS w ts tc xs l) (hc:TStep w ts tc cs s):PackedS w ts tc (xs++cs) (l++ [s]):=by
 have e1: (l++ [s]).take l.length=l:=by simp
 have e2: (l++ [s]).take (l.length+1)=l++ [s]:=by rw [List.take_of_length_le];simp
 have:=PackedS.snoc (k:=l.length) (l:=l++ [s]) (by simp) (by rw [e1];exact h) (cs:=cs) (by simpa [List.getD] using hc)
 rw [e2] at this
 exact this
theorem AStN.pushRow {mN:Nat} {w wr w1 w2:World} {rb ab:Nat} {a:Option Addr} {cap:Nat} {bs:List UInt8} {p:Nat} {cost:Int} {v:Value} {L:List Xz} {xs:List Value} (h:AStN mN w wr rb ab a cap bs p cost v L xs) (k1:K_ wr w1) (hg:w1.grownBy w2 v.ownBlock):w2.cell? ⟨ab,1,none⟩=some v∧RowT w2 ab 28 2:=by
 have h1:=h.kept k1
 have hk:SameKind 68 w1 w2:=SameKind.of_grown h1.own hg
 obtain ⟨cur,g1,g2⟩:=h1.row
 have hb:=hk ab cur _ _ (by decide) g1
 exact ⟨by rw [World.cell?_of_block (w:=w1) (hb.trans g1.symm)];exact h1.c1,cur,hb,g2⟩
theorem AStN.push {mN:Nat} {w wr w1 w2:World} {rb ab:Nat} {a:Option Addr} {cap:Nat} {bs:List UInt8} {p:Nat} {cost:Int} {v v':Value} {L:List Xz} {xs cs:List Value} {s:Xz} (h:AStN mN w wr rb ab a cap bs p cost v L xs) (k1:K_ wr w1) (hs:TStep wr 9 72 cs s) (ht:s.TinyN mN) (hn:NilOk cs)
  (hown:w2.ownsRow w.heap.size 68 8 v' (L.length+1) (xs++cs)) (hg:w1.grownBy w2 v.ownBlock):AStN mN w (w2.setCell ⟨ab,1,none⟩ v') rb ab a cap bs p cost v' (L++ [s]) (xs++cs):=by
 have h1:=h.kept k1
 have hk:SameKind 68 w1 w2:=SameKind.of_grown h1.own hg
 have hr2:RowT w2 ab 28 2:=by
  obtain ⟨cur,g1,g2⟩:=h1.row
  exact ⟨cur,hk ab cur _ _ (by decide) g1,g2⟩
 have hc2:w2.cell? ⟨ab,0,none⟩=some (.int .i64 cost):=by
  obtain ⟨cur,g1,_⟩:=h1.row
  rw [World.cell?_of_block (w:=w1) ((hk ab cur _ _ (by decide) g1).trans g1.symm)]
  exact h1.c0
 have hk2:=hr2.same (o:=1) v'
 have hbl:Below w.heap.size w1 (w2.setCell ⟨ab,1,none⟩ v'):= ((Below.refl _ _).grown hg h1.kb.size (fun k hk=> (h1.own.lt k hk).1)).setCell h.abl v'
 obtain ⟨p0,h0⟩:=h.rd0
 refine ⟨h1.rd.below h0 hbl h1.kb.size,h.rd0,h.abl,h1.kb.below hbl,hr2.set _,(Xj (by omega) _).trans hc2,set_hit hr2.row (by omega) _, ?_, ?_,fun y hy=> ?_,h.nils.append hn⟩
 ·have:=owns_kept hown hk2 (by decide)
  simpa using this
 ·exact ((h1.pack.push (hs.same (u:=65) (SameKind.of_kept k1) (by decide) (by decide))).same hk (by decide) (by decide)).same hk2 (by decide) (by decide)
 ·simp only [List.mem_append,List.mem_singleton] at hy
  rcases hy with hy | rfl
  ·exact h.tiny y hy
  ·exact ht
theorem AStN.cost {mN:Nat} {w wr:World} {rb ab:Nat} {a:Option Addr} {cap:Nat} {bs:List UInt8} {p:Nat} {cost x:Int} {v:Value} {L:List Xz} {xs:List Value} (h:AStN mN w wr rb ab a cap bs p cost v L xs):AStN mN w (wr.setCell ⟨ab,0,none⟩ (.int .i64 x)) rb ab a cap bs p x v L xs:=by
 have hk:=h.row.same (o:=0) (.int .i64 x)
 have hbl:Below w.heap.size wr (wr.setCell ⟨ab,0,none⟩ (.int .i64 x)):= (Below.refl _ _).setCell h.abl _
 obtain ⟨p0,h0⟩:=h.rd0
 exact ⟨h.rd.below h0 hbl h.kb.size,h.rd0,h.abl,h.kb.below hbl,h.row.set _,set_hit h.row.row (by omega) _,(Xj (by omega) _).trans h.c1,owns_kept h.own hk (by decide),(h.pack.same hk (by decide) (by decide)),h.tiny,h.nils⟩
abbrev ASt (w wr:World) (rb ab:Nat) (a:Option Addr) (cap:Nat) (bs:List UInt8) (p:Nat) (cost:Int) (v:Value) (L:List Xz) (xs:List Value):Prop:=AStN 20 w wr rb ab a cap bs p cost v L xs
