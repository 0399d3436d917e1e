import Derived.Test.YteabdfhkoloimaaKOMarkD
import Derived.Test.YteabdfhkoloimaaProg
import Derived.WalkSpells
import Derived.WalkLawsBesides
import Derived.Deep.QuietTactic
import Derived.BigQuiet
set_option maxRecDepth 100000
set_option maxHeartbeats 25600000
namespace Go.Proofs.Yteabdfhkoloimaa
open Go.RowKit
structure Rd (w:World) (rb:Nat) (a:Option Addr) (cap:Nat) (bs:List UInt8) (p:Nat):Prop where
 row:RowT w rb 65 2
 c0:w.cell? ⟨rb,0,none⟩=some (.slice a bs.length cap)
 c1:w.cell? ⟨rb,1,none⟩=some (.int .i64 (p:Int))
 bytes: ∀i,i < bs.length->∃b o,a=some ⟨b,o,none⟩∧b≠rb∧b < w.heap.size∧w.cell? ⟨b,o+i,none⟩=some (.int .u8 ((bs.getD i 0).toNat:Int))
theorem Rd.drewN {w:World} {rb:Nat} {a:Option Addr} {cap:Nat} {bs:List UInt8} {p:Nat} (h:Rd w rb a cap bs p) (k:Nat):Rd (w.drewN k) rb a cap bs p:=
 ⟨h.row.block rfl,h.c0,h.c1,h.bytes⟩
theorem xor64 (a:Nat) (ha:a < 1099511627776):bits .xor .i64 (a:Int) ((a:Int) / 64)= ((a ^^^ a / 64:Nat):Int)∧a ^^^ a / 64 < 1099511627776:=by
 have hx:a ^^^ a / 64 < 2 ^ 40:=Nat.xor_lt_two_pow (by omega) (by omega)
 have d: ((a:Int) / 64)= ((a / 64:Nat):Int):=by omega
 have h1: (BitVec.ofInt 64 (a:Int)).toNat=a:=by
  rw [BitVec.ofInt_natCast,BitVec.toNat_ofNat];exact Nat.mod_eq_of_lt (by omega)
 have h2: (BitVec.ofInt 64 ((a / 64:Nat):Int)).toNat=a / 64:=by
  rw [BitVec.ofInt_natCast,BitVec.toNat_ofNat];exact Nat.mod_eq_of_lt (by omega)
 refine ⟨?_,by omega⟩
 rw [d]
 show IntKind.i64.wrap ((BitVec.ofInt 64 (a:Int) ^^^ BitVec.ofInt 64 ((a / 64:Nat):Int)).toNat:Int)=_
 rw [BitVec.toNat_xor,h1,h2]
 obtain ⟨z,hz⟩: ∃z,z=a ^^^ a / 64:= ⟨_,rfl⟩
 rw [<-hz] at hx⊢
 simp [IntKind.wrap,IntKind.bits,IntKind.signed]
 omega
def Picked (w w':World) (rb:Nat) (a:Option Addr) (cap:Nat) (bs:List UInt8) (p n:Nat) (e:Ending):Prop:=
 ∃v:Nat,e= .returned (.int .i64 (v:Int))∧v<=n - 1∧Rd w' rb a cap bs (p+1)∧Xq rb (rb+1) w w'
theorem pick_any (w:World) (rb:Nat) (a:Option Addr) (cap:Nat) (bs:List UInt8) (p n:Nat) (hR:Rd w rb a cap bs p) (hp:p<=1000000) (hn:n<=100000) (hbl:bs.length<=2000):
  Calls Try.prog 13 #[.pointer (some ⟨rb,0,none⟩),.int .i64 (n:Int)] w fun e w'=> Picked w w' rb a cap bs p n e:=by
 have c0:=hR.c0
 have c1:=hR.c1
 have zb:=hR.row.lt
 obtain ⟨_,f1⟩:=hR.row.row.at (i:=1) (by omega)
 have hR1:Rd (w.setCell ⟨rb,1,none⟩ (.int .i64 ((p:Int)+1))) rb a cap bs (p+1):=by
  refine ⟨hR.row.set _,by rw [Xj (by omega)];exact c0,by rw [set_hit hR.row.row (by omega)];rfl,fun i hi=> ?_⟩
  obtain ⟨b,o,e,hne,hb,hc⟩:=hR.bytes i hi
  exact ⟨b,o,e,hne,by rw [size_setCell];exact hb,by rw [World.cell?_setCell_other _ _ _ _ (fun e=> hne (congrArg Addr.block e).symm)];exact hc⟩
 have HR1:=Kz hR1
 have kb1:Xq rb (rb+1) w (w.setCell ⟨rb,1,none⟩ (.int .i64 ((p:Int)+1))):= (Xq.refl _ _ _).setCell (by simp) (by simp) _
 clear hR1
 by_cases hn1: (n:Int) < 1
 ·go_enter Try.func13,Try.ntmps13
  go_wp2
  go_ret
  exact ⟨0,rfl,Nat.zero_le _,HR1.out,kb1⟩
 ·by_cases hb0:bs.length=0
  ·have hb0': ((bs.length:Int) == 0)=true:=by simp [hb0]
   go_enter Try.func13,Try.ntmps13
   go_wp2
   go_ret
   exact ⟨0,rfl,Nat.zero_le _,HR1.out,kb1⟩
  ·have hb0': ((bs.length:Int) == 0)=false:=by simpa using hb0
   by_cases hk: (p:Int) < bs.length
   ·obtain ⟨b,o,rfl,hne,hb,hc⟩:=HR1.out.bytes p (by omega)
    obtain ⟨y,hy⟩: ∃y,y=bs.getD p 0:= ⟨_,rfl⟩
    rw [<-hy] at hc
    have hyb:=y.toNat_lt
    clear hy
    go_enter Try.func13,Try.ntmps13
    go_wp2
    go_ret
    refine ⟨y.toNat % n, ?_, ?_,HR1.out,kb1⟩
    ·simp
    ·have:=Nat.mod_lt y.toNat (by omega:0 < n)
     omega
   ·obtain ⟨q1,hq1⟩: ∃q1,q1=p % bs.length:= ⟨_,rfl⟩
    obtain ⟨q2,hq2⟩: ∃q2,q2= (p * 7+3) % bs.length:= ⟨_,rfl⟩
    obtain ⟨q3,hq3⟩: ∃q3,q3=p / bs.length:= ⟨_,rfl⟩
    have hl1:q1 < bs.length:=by rw [hq1];exact Nat.mod_lt _ (by omega)
    have hl2:q2 < bs.length:=by rw [hq2];exact Nat.mod_lt _ (by omega)
    have hl3:q3<=p:=by rw [hq3];exact Nat.div_le_self _ _
    have e1: (p:Int) % (bs.length:Int)= (q1:Int):=by rw [hq1];omega
    have e2: ((p:Int) * 7+3) % (bs.length:Int)= (q2:Int):=by rw [hq2];push_cast;rfl
    have e3: (p:Int) / (bs.length:Int)= (q3:Int):=by rw [hq3];push_cast;rfl
    obtain ⟨b,o,rfl,hne,hb,hc1⟩:=HR1.out.bytes q1 hl1
    obtain ⟨b',o',e',_,_,hc2⟩:=HR1.out.bytes q2 hl2
    simp only [Option.some.injEq,Addr.mk.injEq,and_true] at e'
    obtain ⟨rfl,rfl⟩:=e'
    obtain ⟨y1,hy1⟩: ∃y,y=bs.getD q1 0:= ⟨_,rfl⟩
    obtain ⟨y2,hy2⟩: ∃y,y=bs.getD q2 0:= ⟨_,rfl⟩
    rw [<-hy1] at hc1
    rw [<-hy2] at hc2
    have hyb1:=y1.toNat_lt
    have hyb2:=y2.toNat_lt
    clear hq1 hq2 hq3 hy1 hy2
    have i1: (q1:Int) < (bs.length:Int):=by omega
    have i2: (q2:Int) < (bs.length:Int):=by omega
    go_enter Try.func13,Try.ntmps13
    go_wp2
    go_quiet (fail)
    obtain ⟨X,hX⟩: ∃X:Nat,X=y1.toNat * 131+y2.toNat * 1117+p * 29+q3 * 53:= ⟨_,rfl⟩
    have hXi: (y1.toNat:Int) * 131+ (y2.toNat:Int) * 1117+ (p:Int) * 29+ (q3:Int) * 53= (X:Int):=by rw [hX];push_cast;rfl
    rw [hXi]
    have hXb:X < 1099511627776:=by omega
    obtain ⟨hxo,hzb⟩:=xor64 X hXb
    obtain ⟨Z,hZ⟩: ∃Z,Z=X ^^^ X / 64:= ⟨_,rfl⟩
    rw [<-hZ] at hxo hzb
    clear hZ hX hXi
    go_wp2
    go_ret
    refine ⟨Z % n, ?_, ?_,HR1.out.drewN nq,kb1.drewN nq⟩
    ·simp
    ·have:=Nat.mod_lt Z (by omega:0 < n)
     omega
