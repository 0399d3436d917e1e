import Derived.Test.YtgnkgfjmbmcfcaaGreatDoorKXWant0
import Derived.Deep.RegionLaw
set_option maxRecDepth 100000
set_option maxHeartbeats 25600000
namespace Go.Proofs.YtgnkgfjmbmcfcaaGreatDoor
open Go.RowKit
def freshX (v:ByteArray):List Value:=[.string v,.bool false,.bool false,.string ⟨#[]⟩,.int .i64 0,.int .i64 0,.slice none 0 0]
theorem freshX_one (v:ByteArray): ∀u∈freshX v,u.oneCell'=true:=Qz.one (Qz.fresh v) none 0
theorem wantX_any (wz w:World) (kb:Nat) (hkb:wz.heap.size<=kb) (a:Option Addr) (cap:Nat) (Kj:List Qq) (rd:Option Addr) (rc:Nat) (names:List ByteArray) (l:List Qz) (d0:Option Addr) (dc0:Nat) (xs0:List Value) (hwl:Kj.length<=1048576) (hrl:names.length<=100) (hll:l.length<=1000)
  (hK:KnX wz w kb a Kj.length cap l d0 dc0 xs0) (hS:Nodes wz a Kj) (hR:Strs wz rd names):
  Calls Tryz.prog 47 #[.pointer (some ⟨kb,0,none⟩),.slice rd names.length rc] w fun e w'=> e= .returned (.tuple #[])∧∃d dc xs,KnX wz w' kb a Kj.length cap (wantL (Q_ Kj) l names) d dc xs:=by
 have HK:=Kz hK
 clear hK
 go_enter Tryz.func47,Tryz.ntmps47
 go_wp2
 go_loopw [4] (fun i wr=> ∃(k:Nat) (d:Option Addr) (dc:Nat) (xs:List Value),k<=names.length∧i= .int .i64 k∧KnX wz wr kb a Kj.length cap (wantL (Q_ Kj) l (names.take k)) d dc xs) (fun i _=> names.length - (intOf i).toNat)
 case atStart=> exact ⟨0,d0,dc0,xs0,Nat.zero_le _,rfl,HK.out⟩
 case round=>
  obtain ⟨k,d,dc,xs,hk,rfl,hSt⟩:=hrel
  by_cases hlt:k < names.length
  ·obtain ⟨b,o,rfl,hb,hc⟩:=hR k hlt
   have Kr:K_ wz wr:=hSt.kw
   obtain ⟨R,hRk⟩: ∃R,R=wantL (Q_ Kj) l (names.take k):= ⟨_,rfl⟩
   have hsucc:=wantL_succ (Q_ Kj) l hlt
   rw [<-hRk] at hSt hsucc
   have hRl:R.length<=1100:=by rw [hRk];have:=wantL_len (Q_ Kj) (names.take k) l;rw [List.length_take] at this;omega
   obtain ⟨v,hvk⟩: ∃v,v=names.getD k ByteArray.empty:= ⟨_,rfl⟩
   rw [<-hvk] at hc hsucc
   have HSu:=Kz hsucc
   have c0:= (Kr.cell hb).trans hc
   have m0:=hSt.known.web
   have m1:=hSt.known.runs
   have zk:=hSt.known.row.lt
   have HRn:=Kz hSt.runs
   have HSt:=Kz hSt
   clear hRk hvk hsucc hSt HK
   have hbr:b < wr.heap.size:=Nat.lt_of_lt_of_le hb Kr.size
   have i0: (k:Int) < (names.length:Int):=by omega
   by_cases hin: (Q_ Kj v).isSome=true
   ·have Zz:Hid (∀w',K_ wr w'->(fun w'=> w'.cell? ⟨kb,0,none⟩=some (.slice a Kj.length cap)∧w'.cell? ⟨kb,1,none⟩=some (.slice d R.length dc)∧w'.cell? ⟨b,o+k,none⟩=some (.string v)) w'):=fun w' kk=> ⟨(kk.cell zk).trans m0,(kk.cell zk).trans m1,(kk.cell hbr).trans c0⟩
    by_cases hno: (Qj R v).isNone=true
    ·go_wp2
     go_region_held (fun w'=> w'.cell? ⟨kb,0,none⟩=some (.slice a Kj.length cap)∧w'.cell? ⟨kb,1,none⟩=some (.slice d R.length dc)∧w'.cell? ⟨b,o+k,none⟩=some (.string v)) (exact unhide Zz _ (by repeat (first | (with_reducible exact K_.refl _) | (with_reducible assumption) | apply K_.drew))) ((first | (go_at_call 55;refine (l2At_inX _ a cap Kj v hwl (hS.kept (Kr.trans (by repeat (first | (with_reducible exact K_.refl _) | (with_reducible assumption) | apply K_.drew)))) hin).mono ?_;rintro e w1 ⟨⟨r1,rfl⟩,kk1⟩;have k1:K_ wr w1:=K_.trans (by repeat (first | (with_reducible exact K_.refl _) | (with_reducible assumption) | apply K_.drew)) kk1) | (go_at_call 97;refine (find_noX _ kb a Kj.length cap d dc R v (by omega) (HSt.out.known.kept (k1.trans (by repeat (first | (with_reducible exact K_.refl _) | (with_reducible assumption) | apply K_.drew)))) (HRn.out.kept (k1.trans (by repeat (first | (with_reducible exact K_.refl _) | (with_reducible assumption) | apply K_.drew)))) hno).mono ?_;rintro e w2 ⟨⟨r2,rfl,hr2⟩,rfl⟩)))
     all_goals
      have hSt2:=HSt.out.kept k1
      have HSt2:=Kz hSt2
      have n1:=hSt2.known.runs
      have n0:= (k1.cell hbr).trans c0
      have z2:=hSt2.kw.size
      have hb2:b < w2.heap.size:=Nat.lt_of_lt_of_le hb z2
      have hk2:kb < w2.heap.size:=hSt2.known.row.lt
      have HSO4:Hid (∀w',K_ w2 w'->(fun w'=> w'.cell? ⟨kb,1,none⟩=some (.slice d R.length dc)∧w'.cell? ⟨b,o+k,none⟩=some (.string v)) w'):=fun w' bl=> ⟨(bl.cell hk2).trans n1,(bl.cell hb2).trans n0⟩
      obtain ⟨ino,hn0,hn1,hn2,hn3⟩:=xInfo_parts Tryz.xInfoRun
      clear hSt2
      go_wp2
      refine Qx.region (by kernel_rfl) (fun w'=> w'.cell? ⟨kb,1,none⟩=some (.slice d R.length dc)∧w'.cell? ⟨b,o+k,none⟩=some (.string v)) 14 ⟨n1,n0⟩ (fun Z_=> ?_)
      refine Qx.tk 0 Z_ ?_
      refine Qx.tk 1 Z_ ?_
      refine Qx.tk 2 Z_ ?_
      refine Qx.tk 3 Z_ ?_
      refine Qx.tk 4 Z_ ?_
      refine Qx.tk 5 Z_ ?_
      refine Qx.tk 6 Z_ ?_
      refine Qx.tk 7 Z_ ?_
      refine Qx.tk 8 Z_ ?_
      refine Qx.tk 9 Z_ ?_
      refine Qx.nx 10 (fun K hK=> ?_)
      go_simp
      have KW:K_ w2 (w2.alloc (.cells (freshX v).toArray 103)).drew:= ((K_.refl _).alloc _).drew
      refine hK.out _ _ (fun _=> HSO4.out _ KW) ?_
      clear hK K Z_
      try simp only [Act.put,upA,upB,upC]
      refine Qx.nx 11 (fun K hK=> ?_)
      refine step_append_lies _ rfl (.tmp 34) (.tmp 40) 51 rfl wz.heap.size 103 ino _ 7 80 Tryz.underlying51 hn0 hn1 hn2 hn3 rfl (by decide) (.slice d R.length dc) R.length xs (by simp [Act.eval]) (ownsRow_kept' HSt2.out.own KW) ⟨w2.heap.size,0,none⟩ 1 1 (freshX v) (by simp [Act.eval]) rfl (fun j u hu=> by rw [Addr.add_mid];exact Xz w2 (freshX v).toArray 103 j u (by simpa using hu)) (freshX_one v) (by omega) (by unfold maxLen;omega) (by omega) (by simp;omega) _ rfl ?_
      intro g6 cap6 w8 hown8 hgr8 hat hlt8
      obtain ⟨kz8,hK8⟩:=HSt2.out.grown KW hgr8
      have hr8:=hK8.row
      obtain ⟨⟨_,fo2⟩,fo1⟩:=hr8.row.at (i:=1) (by omega)
      have hHeld8:= (show _∧_ from ⟨hK8.runs,(kz8.cell hb).trans hc⟩)
      have HN8:=Kz (KnX.next (y:=Qz.fresh v) (xa:=none) (xc:=0) HSt2.out hkb KW hgr8 hown8 (fun i hi=> by cases hi) (fun _=> rfl))
      clear hown8 hgr8 hat hr8
      refine hK.out _ _ (fun _=> hHeld8) ?_
      clear hK K
      try simp only [Act.put,upA,upB,upC]
      have Z_:=hHeld8
      refine Qx.tk 12 Z_ ?_
      refine Qx.tk 13 Z_ ?_
      refine Qx.nx 14 (fun K hK=> ?_)
      go_simp
      refine hK.out _ _ (fun h=> absurd rfl h) ?_
      clear hK K
      try simp only [Act.put,upA,upB,upC]
      refine Qx.dn ?_
      go_wp2
      go_roundw
      case rel=> exact ⟨k+1,_,cap6,_,by omega,by go_num,by rw [HSu.out,if_pos ⟨hin,hno⟩];exact HN8.out⟩
      case measure=> simp [intOf];omega
    ·go_wp2
     go_region_held (fun w'=> w'.cell? ⟨kb,0,none⟩=some (.slice a Kj.length cap)∧w'.cell? ⟨kb,1,none⟩=some (.slice d R.length dc)∧w'.cell? ⟨b,o+k,none⟩=some (.string v)) (exact unhide Zz _ (by repeat (first | (with_reducible exact K_.refl _) | (with_reducible assumption) | apply K_.drew))) ((first | (go_at_call 55;refine (l2At_inX _ a cap Kj v hwl (hS.kept (Kr.trans (by repeat (first | (with_reducible exact K_.refl _) | (with_reducible assumption) | apply K_.drew)))) hin).mono ?_;rintro e w1 ⟨⟨r1,rfl⟩,kk1⟩;have k1:K_ wr w1:=K_.trans (by repeat (first | (with_reducible exact K_.refl _) | (with_reducible assumption) | apply K_.drew)) kk1) | (go_at_call 97;refine (find_inX _ kb a Kj.length cap d dc R v (by omega) (HSt.out.known.kept (k1.trans (by repeat (first | (with_reducible exact K_.refl _) | (with_reducible assumption) | apply K_.drew)))) (HRn.out.kept (k1.trans (by repeat (first | (with_reducible exact K_.refl _) | (with_reducible assumption) | apply K_.drew)))) hno).mono ?_;rintro e w2 ⟨⟨r2,rfl⟩,rfl⟩)))
     all_goals
      go_wp2
      go_roundw
      case rel=> exact ⟨k+1,d,dc,xs,by omega,by go_num,by rw [HSu.out,if_neg (fun h=> hno h.2)];exact HSt.out.kept k1⟩
      case measure=> simp [intOf];omega
   ·have Zz:Hid (∀w',K_ wr w'->(fun w'=> w'.cell? ⟨kb,0,none⟩=some (.slice a Kj.length cap)∧w'.cell? ⟨kb,1,none⟩=some (.slice d R.length dc)∧w'.cell? ⟨b,o+k,none⟩=some (.string v)) w'):=fun w' kk=> ⟨(kk.cell zk).trans m0,(kk.cell zk).trans m1,(kk.cell hbr).trans c0⟩
    go_wp2
    refine Qx.region (by kernel_rfl) (fun w'=> w'.cell? ⟨kb,0,none⟩=some (.slice a Kj.length cap)∧w'.cell? ⟨kb,1,none⟩=some (.slice d R.length dc)∧w'.cell? ⟨b,o+k,none⟩=some (.string v)) 18 ⟨m0,m1,c0⟩ (fun Z_=> ?_)
    refine Qx.tk 0 Z_ ?_
    refine Qx.tk 1 Z_ ?_
    refine Qx.tk 2 Z_ ?_
    refine Qx.tk 3 Z_ ?_
    refine Qx.tk 4 Z_ ?_
    refine Qx.tk 5 Z_ ?_
    refine Qx.tk 6 Z_ ?_
    refine Qx.tk 7 Z_ ?_
    refine Qx.nx 8 (fun K hK=> ?_)
    rw [if_pos (by rfl)]
    go_simp
    go_at_call 55
    refine (l2At_noX _ a cap Kj v hwl (hS.kept (Kr.trans (by repeat (first | (with_reducible exact K_.refl _) | (with_reducible assumption) | apply K_.drew)))) hin).mono ?_
    rintro e w1 ⟨rfl,kk1⟩
    have k1:K_ wr w1:=K_.trans (by repeat (first | (with_reducible exact K_.refl _) | (with_reducible assumption) | apply K_.drew)) kk1
    dsimp only
    refine hK.out _ _ (fun _=> Zz.out w1 k1) ?_
    clear hK K Z_
    have Z_:=Zz.out w1 k1
    try simp only [Act.put,upA,upB,upC]
    refine Qx.tk 9 Z_ ?_
    refine Qx.tk 10 Z_ ?_
    refine Qx.un 11 Z_ ?_
    refine Qx.un 12 Z_ ?_
    refine Qx.un 13 Z_ ?_
    refine Qx.un 14 Z_ ?_
    refine Qx.un 15 Z_ ?_
    refine Qx.un 16 Z_ ?_
    refine Qx.un 17 Z_ ?_
    refine Qx.nx 18 (fun K hK=> ?_)
    go_simp
    refine hK.out _ _ (fun h=> absurd rfl h) ?_
    clear hK K
    try simp only [Act.put,upA,upB,upC]
    refine Qx.dn ?_
    go_wp2
    go_roundw
    case rel=> exact ⟨k+1,d,dc,xs,by omega,by go_num,by rw [HSu.out,if_neg (fun h=> hin h.1)];exact HSt.out.kept k1⟩
    case measure=> simp [intOf];omega
  ·have hkl:k=names.length:=by omega
   subst hkl
   rw [List.take_length] at hSt
   have HSt:=Kz hSt
   clear hSt
   go_wp2
   go_end0
   exact ⟨rfl,_,_,_,HSt.out⟩
