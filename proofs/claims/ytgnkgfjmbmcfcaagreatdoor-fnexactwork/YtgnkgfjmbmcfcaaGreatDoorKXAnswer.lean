import Derived.Test.YtgnkgfjmbmcfcaaGreatDoorKRMark
import Derived.Test.YtgnkgfjmbmcfcaaGreatDoorKOOrder2
import Derived.Laws.IdiomStrings
import Derived.Deep.CutRange
set_option maxRecDepth 100000
set_option maxHeartbeats 25600000
namespace Go.Proofs.YtgnkgfjmbmcfcaaGreatDoor
open Go.RowKit
theorem Tryz.xSizeAns : (Tryz.prog.info? 112).map (·.size)=some 2:=by kernel_rfl
theorem bodyPost_ret_c2 {P:Program} {fn:Func} {R:Ending->World->Prop} {a:Act} {w:World} {p q:Tmp} {ty:TypeId} {b:Nat} (cs:List Value) (d:TypeDesc) (v:Value) (h:fn.results= #[.cell p ty,.tmp q])
  (hp:a.tmps.getD p undef= .pointer (some ⟨b,0,none⟩)) (hr:w.rangeAt b 0 cs) (hu:P.underlying ty=some d) (hd:d.isRow=true) (hi: (P.info? ty).map (·.size)=some cs.length)
  (hq:a.tmps.getD q undef=v) (hdef:a.defers=[]) (hR:R (.returned (.tuple #[.agg cs.toArray,v])) w):bodyPost P fn R .ret a w:=by
 refine bodyPost_ret ?_ hdef hR
 have hp':a.tmps[p]?.getD undef= .pointer (some ⟨b,0,none⟩):=by simpa using hp
 have hq':a.tmps[q]?.getD undef=v:=by simpa using hq
 simp only [results,h]
 simp [hp',hq',asAddr,run_loadVar_mid w b 0 ty cs d hr hu hd hi]
theorem K_.set_new {w w1:World} (k:K_ w w1) {i:Nat} (v:Value):K_ w (w1.setCell ⟨w.heap.size,i,none⟩ v):=Below.setCell k (p:= ⟨w.heap.size,i,none⟩) (Nat.le_refl _) v
theorem Zk {w:World} {b c o p:Nat} (h:b≠c) {v:Value}: (w.setCell ⟨c,p,none⟩ v).cell? ⟨b,o,none⟩=w.cell? ⟨b,o,none⟩:=World.cell?_setCell_other _ _ _ _ (fun e=> h (congrArg Addr.block e).symm)
def AnsSaidO (Kj:List Qq) (l:List Qz) (n:ByteArray) (e:Ending):Prop:=
 ∃(f:Bool) (t:ByteArray) (ok:Bool),e= .returned (.tuple #[.agg #[.bool f,.string t],.bool ok])∧ansOf (Q_ Kj) (Qj l) n= (if ok=true then some ⟨f,t⟩ else none)∧(ok=false->f=false∧t= ⟨#[]⟩)
theorem answer_anyO (w:World) (kb:Nat) (a:Option Addr) (cap:Nat) (Kj:List Qq) (d:Option Addr) (dc:Nat) (l:List Qz) (n:ByteArray) (hwl:Kj.length<=1048576) (hll:l.length<=1048576) (hn:n.size<=1000) (hK:KnownX w kb a Kj.length cap d l.length dc) (hN:Nodes w a Kj) (hS:RunsX w d l):
  Calls Tryz.prog 57 #[.pointer (some ⟨kb,0,none⟩),.string n] w fun e w'=> AnsSaidO Kj l n e∧K_ w w':=by
 have k0:K_ w (w.alloc (.cells #[.bool false,.string ⟨#[]⟩] 112)):= (K_.refl _).alloc _
 have hkbl:=hK.row.lt
 have q0:= (hK.kept k0).web
 have q1:= (hK.kept k0).row.lt
 go_enter Tryz.func57,Tryz.ntmps57
 go_wp2_with fail
 refine (l2At_place _ a cap Kj n hwl (hN.kept k0)).mono ?_
 rintro e w1 ⟨⟨r,rfl,hr⟩,K1⟩
 have HRw:Hid (RowT w1 w.heap.size 112 2):= (RowT.made w #[.bool false,.string ⟨#[]⟩] 112).kept K1
 obtain ⟨⟨_,x0⟩,f0⟩:=HRw.out.row.at (i:=0) (by omega)
 obtain ⟨⟨_,x1⟩,f1⟩:=HRw.out.row.at (i:=1) (by omega)
 have xz:=HRw.out.lt
 clear q0 q1
 rcases hr with ⟨k,hk,rfl,hact,_⟩ | ⟨rfl,hact⟩
 ·have hk0: ¬(k:Int) < 0:=by omega
  have hK1:= (hK.kept k0).kept K1
  have hS1:= (hS.kept k0).kept K1
  have HAct:=Kz hact
  clear hact
  go_wp2_with fail
  refine (findX w1 kb a Kj.length cap d dc l n hll hK1 hS1).mono ?_
  rintro e w2 ⟨⟨r2,rfl,hr2⟩,hw2⟩
  rw [hw2]
  clear hw2 w2
  rcases hr2 with ⟨j,hj,rfl,henv,_⟩ | ⟨rfl,henv⟩
  ·have hj0: ¬(j:Int) < 0:=by omega
   have hjl: (j:Int) < (l.length:Int):=by omega
   obtain ⟨y,hy⟩: ∃y,y=l.getD j Qz.zero:= ⟨_,rfl⟩
   rw [<-hy] at henv
   obtain ⟨b,o,_,_,rfl,hb0,_⟩:=hS j hj
   obtain ⟨b1,o1,xa,xc,e1,hb,hc,_,_⟩:=hS1 j hj
   simp only [Option.some.injEq,Addr.mk.injEq,and_true] at e1
   obtain ⟨rfl,rfl⟩:=e1
   rw [<-hy] at hc
   have c1:=hc 1 _ rfl
   have c2:=hc 2 _ rfl
   have c3:=hc 3 _ rfl
   have q1:=hK1.runs
   have qz:=hK1.row.lt
   have HEnv:=Kz henv
   have HC:=Kz hc
   clear hy hc henv hS1
   cases ho:y.over
   ·rw [ho] at c1
    go_wp2_with fail
    have hR:=World.rangeAt_setCells_same w1 w.heap.size 0 [.bool false,.string ⟨#[]⟩] (HRw.out.row.there (o:=0) (m:=2) (Nat.le_refl _))
    refine bodyPost_ret_c2 [.bool false,.string ⟨#[]⟩] _ (.bool false) Tryz.results57 rfl hR Tryz.underlying112 rfl Tryz.xSizeAns rfl rfl ?_
    exact ⟨⟨false,⟨#[]⟩,false,rfl,by unfold ansOf;rw [HAct.out,HEnv.out];simp [ho],fun _=> ⟨rfl,rfl⟩⟩,((k0.trans K1).set_new _).set_new _⟩
   ·rw [ho] at c1
    go_upto_region 6 with fail
    refine Qx.region (by kernel_rfl) (fun w'=> w'.cell? ⟨kb,1,none⟩=some (.slice (some ⟨b,o,none⟩) l.length dc)∧w'.cell? ⟨b,o+j * 7+2,none⟩=some (.bool y.fail)∧w'.cell? ⟨b,o+j * 7+3,none⟩=some (.string y.text)) 18 ⟨q1,c2,c3⟩ (fun Z_=> ?_)
    have x0d:w1.drew.cell? ⟨w.heap.size,0,none⟩=some _:=x0
    have x1d:w1.drew.cell? ⟨w.heap.size,1,none⟩=some _:=x1
    have f0d:w1.drew.frozen? ⟨w.heap.size,0,none⟩=false:=f0
    have f1d:w1.drew.frozen? ⟨w.heap.size,1,none⟩=false:=f1
    have xzd:w.heap.size < w1.drew.heap.size:=xz
    have Kd:K_ w1 w1.drew:= (K_.refl _).drew
    have HRd:=Kz (HRw.out.kept Kd)
    have K1d:=K1.trans Kd
    generalize hwd:w1.drew=wd at Z_ x0d x1d f0d f1d xzd HRd K1d⊢
    clear hwd Kd x0 x1 f0 f1 xz
    refine Qx.tk 0 Z_ ?_
    refine Qx.tk 1 Z_ ?_
    refine Qx.tk 2 Z_ ?_
    refine Qx.tk 3 Z_ ?_
    refine Qx.tk 4 Z_ ?_
    refine Qx.tk 5 Z_ ?_
    refine Qx.tk 6 Z_ ?_
    refine Qx.tk 7 Z_ ?_
    refine Qx.tk 8 Z_ ?_
    refine Qx.tk 9 Z_ ?_
    refine Qx.tk 10 Z_ ?_
    refine Qx.tk 11 Z_ ?_
    refine Qx.tk 12 Z_ ?_
    refine Qx.tk 13 Z_ ?_
    refine Qx.tk 14 Z_ ?_
    refine Qx.tk 15 Z_ ?_
    refine Qx.tk 16 Z_ ?_
    have hkb:kb≠w.heap.size:=by omega
    have hbb:b≠w.heap.size:=by omega
    refine Qx.nx 17 (fun K hK=> ?_)
    go_simp
    refine hK.out _ _ (fun _=> ⟨by rw [Zk hkb,Zk hkb];exact Z_.1,by rw [Zk hbb,Zk hbb];exact Z_.2.1,by rw [Zk hbb,Zk hbb];exact Z_.2.2⟩) ?_
    clear hK K
    try simp only [Act.put,upA,upB,upC]
    refine Qx.nx 18 (fun K hK=> ?_)
    go_simp
    refine hK.out _ _ (fun h=> absurd rfl h) ?_
    clear hK K
    try simp only [Act.put,upA,upB,upC]
    refine Qx.dn ?_
    go_wp2_with fail
    have hR:=World.rangeAt_setCells_same wd w.heap.size 0 [.bool y.fail,.string y.text] (HRd.out.row.there (o:=0) (m:=2) (Nat.le_refl _))
    refine bodyPost_ret_c2 [.bool y.fail,.string y.text] _ (.bool true) Tryz.results57 rfl hR Tryz.underlying112 rfl Tryz.xSizeAns rfl rfl ?_
    exact ⟨⟨y.fail,y.text,true,rfl,by unfold ansOf;rw [HAct.out,HEnv.out];simp [ho],fun h=> by cases h⟩,((k0.trans K1d).set_new _).set_new _⟩
  ·have HEnv:=Kz henv
   clear henv hS1
   go_wp2_with fail
   have hR:=World.rangeAt_setCells_same w1 w.heap.size 0 [.bool false,.string ⟨#[]⟩] (HRw.out.row.there (o:=0) (m:=2) (Nat.le_refl _))
   refine bodyPost_ret_c2 [.bool false,.string ⟨#[]⟩] _ (.bool false) Tryz.results57 rfl hR Tryz.underlying112 rfl Tryz.xSizeAns rfl rfl ?_
   exact ⟨⟨false,⟨#[]⟩,false,rfl,by unfold ansOf;rw [HAct.out,HEnv.out];rfl,fun _=> ⟨rfl,rfl⟩⟩,((k0.trans K1).set_new _).set_new _⟩
 ·have HAct:=Kz hact
  clear hact
  have f3: ¬9223372036854775807 < 3+n.size:=by omega
  go_wp2_with fail
  have hR:=World.rangeAt_setCells_same w1 w.heap.size 0 [.bool true,.string ((⟨#[110,111,32]⟩:ByteArray)++n)] (HRw.out.row.there (o:=0) (m:=2) (Nat.le_refl _))
  refine bodyPost_ret_c2 [.bool true,.string ((⟨#[110,111,32]⟩:ByteArray)++n)] _ (.bool true) Tryz.results57 rfl hR Tryz.underlying112 rfl Tryz.xSizeAns rfl rfl ?_
  exact ⟨⟨true,noOf n,true,rfl,by unfold ansOf;rw [HAct.out];rfl,fun h=> by cases h⟩,((k0.trans K1).set_new _).set_new _⟩
theorem answer_any (w:World) (kb:Nat) (a:Option Addr) (cap:Nat) (Kj:List Qq) (d:Option Addr) (dc:Nat) (l:List Qz) (n:ByteArray) (hwl:Kj.length<=1048576) (hll:l.length<=1048576) (hn:n.size<=1000) (hK:KnownX w kb a Kj.length cap d l.length dc) (hN:Nodes w a Kj) (hS:RunsX w d l):
  Calls Tryz.prog 57 #[.pointer (some ⟨kb,0,none⟩),.string n] w fun e w'=> AnsSaid Kj l n e∧K_ w w':=by
 refine (answer_anyO w kb a cap Kj d dc l n hwl hll hn hK hN hS).mono ?_
 rintro e w' ⟨⟨f,t,ok,h1,h2,_⟩,k⟩
 exact ⟨⟨f,t,ok,h1,h2⟩,k⟩
