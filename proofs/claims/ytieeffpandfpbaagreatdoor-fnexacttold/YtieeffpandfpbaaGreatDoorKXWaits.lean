import Derived.Test.YtieeffpandfpbaaGreatDoorKBBegin
import Derived.Deep.RegionHeld
set_option maxRecDepth 100000
set_option maxHeartbeats 25600000
namespace Go.Proofs.YtieeffpandfpbaaGreatDoor
open Go.RowKit
theorem runName_any (w:World) (x1 x2 x3 x4 x5 x6 x7:Value) (s:ByteArray) (hx:x1= .string s):
  Calls Tryz.prog 65 #[.agg #[x1,x2,x3,x4,x5,x6,x7]] w fun e w'=> e= .returned (.string s)∧K_ w w':=by
 subst hx
 go_enter Tryz.func65,Tryz.ntmps65
 go_wp2
 go_ret
 exact ⟨rfl,(K_.refl _).alloc _⟩
def RiseX (l:List Qq) (k:Nat):Prop:= ∀j,j+1 < k->lessX (l.getD j Qq.zero).name (l.getD (j+1) Qq.zero).name
theorem asc_of_rise {l:List Qq} (h:RiseX l l.length):AscX l:=by
 have h2: ∀i j,i < j->j < l.length->lessX (l.getD i Qq.zero).name (l.getD j Qq.zero).name:=by
  intro i j hij
  induction j with
  | zero=> intro _;omega
  | succ j ih=>
   intro hj
   by_cases e:i=j
   ·subst e;exact h i hj
   ·exact lessX_trans (ih (by omega) (by omega)) (h j hj)
 unfold AscX
 rw [List.pairwise_iff_getElem]
 intro i j hi hj hij
 have:=h2 i j hij hj
 simpa [List.getD,hi,hj] using this
theorem rise_of_asc {l:List Qq} (h:AscX l):RiseX l l.length:=fun j hj=> by
 have:=List.pairwise_iff_getElem.1 h j (j+1) (by omega) hj (by omega)
 simpa [List.getD,hj,(by omega:j < l.length)] using this
theorem ascendR_any (w:World) (a:Option Addr) (cap:Nat) (l:List Qq) (hl:l.length<=1048576) (hS:RunsX w a l):
  Calls Tryz.prog 66 #[.agg #[.slice a l.length cap,.func (.func 65) #[] #[]]] w fun e w'=> Says e (AscX l)∧K_ w w':=by
 have k0:K_ w (w.alloc (.cells #[.slice a l.length cap,.func (.func 65) #[] #[]] 120)):= (K_.refl _).alloc _
 go_enter Tryz.func66,Tryz.ntmps66
 go_wp2
 go_loopw [3] (fun i wr=> ∃n:Nat,1<=n∧n<=l.length+1∧i= .int .i64 n∧K_ (w.alloc (.cells #[.slice a l.length cap,.func (.func 65) #[] #[]] 120)) wr∧RiseX l n) (fun i _=> l.length+2 - (intOf i).toNat)
 case atStart=> exact ⟨1,by omega,by omega,rfl,K_.refl _,fun j hj=> absurd hj (by omega)⟩
 case round=>
  obtain ⟨n,hn1,hn2,rfl,hw,hg⟩:=hrel
  have HG:=Kj hg
  clear hg
  have hz1:=hw.size
  simp only [World.size_alloc] at hz1
  have z0:w.heap.size < wr.heap.size:=by omega
  obtain ⟨p0,p1⟩:=xBoxCells2 hw
  by_cases hlt:n < l.length
  ·have k1:K_ w wr:=k0.trans hw
   obtain ⟨b,o,aa,ca,rfl,hb,hc,_,_⟩:=hS.kept k1 (n - 1) (by omega)
   obtain ⟨b',o',ba,da,e',hb',hc',_,_⟩:=hS.kept k1 n hlt
   simp only [Option.some.injEq,Addr.mk.injEq,and_true] at e'
   obtain ⟨rfl,rfl⟩:=e'
   obtain ⟨x,hxk⟩: ∃x,x= (l.getD (n - 1) Qq.zero):= ⟨_,rfl⟩
   obtain ⟨y,hyk⟩: ∃y,y= (l.getD n Qq.zero):= ⟨_,rfl⟩
   rw [<-hxk] at hc
   rw [<-hyk] at hc'
   have HX:Hid (l.getD (n - 1) Qq.zero=x):=hxk.symm
   have HYK:Hid (l.getD (n - 1+1) Qq.zero=y):=by rw [hyk,show n - 1+1=n by omega];exact rfl
   clear hxk hyk
   have c0:wr.cell? ⟨b,o+ (n - 1) * 7,none⟩=some (.string x.name):=hc 0 _ rfl
   have c1:wr.cell? ⟨b,o+ (n - 1) * 7+1,none⟩=some (.bool x.over):=hc 1 _ rfl
   have c2:wr.cell? ⟨b,o+ (n - 1) * 7+2,none⟩=some (.bool x.fail):=hc 2 _ rfl
   have c3:wr.cell? ⟨b,o+ (n - 1) * 7+3,none⟩=some (.string x.text):=hc 3 _ rfl
   have c4:wr.cell? ⟨b,o+ (n - 1) * 7+4,none⟩=some (.int .i64 x.at'):=hc 4 _ rfl
   have c5:wr.cell? ⟨b,o+ (n - 1) * 7+5,none⟩=some (.int .i64 x.Zk):=hc 5 _ rfl
   have c6:wr.cell? ⟨b,o+ (n - 1) * 7+6,none⟩=some (.slice aa x.texts.length ca):=hc 6 _ rfl
   have d0:wr.cell? ⟨b,o+n * 7,none⟩=some (.string y.name):=hc' 0 _ rfl
   have d1:wr.cell? ⟨b,o+n * 7+1,none⟩=some (.bool y.over):=hc' 1 _ rfl
   have d2:wr.cell? ⟨b,o+n * 7+2,none⟩=some (.bool y.fail):=hc' 2 _ rfl
   have d3:wr.cell? ⟨b,o+n * 7+3,none⟩=some (.string y.text):=hc' 3 _ rfl
   have d4:wr.cell? ⟨b,o+n * 7+4,none⟩=some (.int .i64 y.at'):=hc' 4 _ rfl
   have d5:wr.cell? ⟨b,o+n * 7+5,none⟩=some (.int .i64 y.Zk):=hc' 5 _ rfl
   have d6:wr.cell? ⟨b,o+n * 7+6,none⟩=some (.slice ba y.texts.length da):=hc' 6 _ rfl
   clear hc hc'
   have i0: (0:Int)<=(n:Int) - 1:=by omega
   have i1: (n:Int) - 1 < (l.length:Int):=by omega
   have i2: (n:Int) < (l.length:Int):=by omega
   have i5: (1:Int)<=(n:Int):=by omega
   have i6: (n:Int)<=(l.length:Int):=by omega
   have i7:n<=l.length:=by omega
   have i3: ((n:Int) - 1).toNat=n - 1:=by omega
   have i4:IntKind.i64.wrap ((n:Int) - 1)= (n:Int) - 1:=wrap_i64_in (by omega) (by omega)
   have hSof: ∀w',K_ wr w'->(fun w'=> w'.cell? ⟨b,o+ (n - 1) * 7,none⟩=some (.string x.name)∧w'.cell? ⟨b,o+ (n - 1) * 7+1,none⟩=some (.bool x.over)∧w'.cell? ⟨b,o+ (n - 1) * 7+2,none⟩=some (.bool x.fail)∧w'.cell? ⟨b,o+ (n - 1) * 7+3,none⟩=some (.string x.text)∧w'.cell? ⟨b,o+ (n - 1) * 7+4,none⟩=some (.int .i64 x.at')∧w'.cell? ⟨b,o+ (n - 1) * 7+5,none⟩=some (.int .i64 x.Zk)∧w'.cell? ⟨b,o+ (n - 1) * 7+6,none⟩=some (.slice aa x.texts.length ca)∧w'.cell? ⟨b,o+n * 7,none⟩=some (.string y.name)∧w'.cell? ⟨b,o+n * 7+1,none⟩=some (.bool y.over)∧w'.cell? ⟨b,o+n * 7+2,none⟩=some (.bool y.fail)∧w'.cell? ⟨b,o+n * 7+3,none⟩=some (.string y.text)∧w'.cell? ⟨b,o+n * 7+4,none⟩=some (.int .i64 y.at')∧w'.cell? ⟨b,o+n * 7+5,none⟩=some (.int .i64 y.Zk)∧w'.cell? ⟨b,o+n * 7+6,none⟩=some (.slice ba y.texts.length da)∧w'.cell? ⟨w.heap.size,0,none⟩=some (.slice (some ⟨b,o,none⟩) l.length cap)∧w'.cell? ⟨w.heap.size,1,none⟩=some (.func (.func 65) #[] #[])) w':=fun w' kk=> ⟨(K_.cell kk hb).trans c0,(K_.cell kk hb).trans c1,(K_.cell kk hb).trans c2,(K_.cell kk hb).trans c3,(K_.cell kk hb).trans c4,(K_.cell kk hb).trans c5,(K_.cell kk hb).trans c6,(K_.cell kk hb).trans d0,(K_.cell kk hb).trans d1,(K_.cell kk hb).trans d2,(K_.cell kk hb).trans d3,(K_.cell kk hb).trans d4,(K_.cell kk hb).trans d5,(K_.cell kk hb).trans d6,(K_.cell kk z0).trans p0,(K_.cell kk z0).trans p1⟩
   have Zq:=Kj hSof
   clear hSof
   cases hbl:Op.bytesLess x.name.toList y.name.toList
   ·have hge:True:=trivial
    go_upto_region 4 with fail
    refine Z_.region (by kernel_rfl) (fun w'=> w'.cell? ⟨b,o+ (n - 1) * 7,none⟩=some (.string x.name)∧w'.cell? ⟨b,o+ (n - 1) * 7+1,none⟩=some (.bool x.over)∧w'.cell? ⟨b,o+ (n - 1) * 7+2,none⟩=some (.bool x.fail)∧w'.cell? ⟨b,o+ (n - 1) * 7+3,none⟩=some (.string x.text)∧w'.cell? ⟨b,o+ (n - 1) * 7+4,none⟩=some (.int .i64 x.at')∧w'.cell? ⟨b,o+ (n - 1) * 7+5,none⟩=some (.int .i64 x.Zk)∧w'.cell? ⟨b,o+ (n - 1) * 7+6,none⟩=some (.slice aa x.texts.length ca)∧w'.cell? ⟨b,o+n * 7,none⟩=some (.string y.name)∧w'.cell? ⟨b,o+n * 7+1,none⟩=some (.bool y.over)∧w'.cell? ⟨b,o+n * 7+2,none⟩=some (.bool y.fail)∧w'.cell? ⟨b,o+n * 7+3,none⟩=some (.string y.text)∧w'.cell? ⟨b,o+n * 7+4,none⟩=some (.int .i64 y.at')∧w'.cell? ⟨b,o+n * 7+5,none⟩=some (.int .i64 y.Zk)∧w'.cell? ⟨b,o+n * 7+6,none⟩=some (.slice ba y.texts.length da)∧w'.cell? ⟨w.heap.size,0,none⟩=some (.slice (some ⟨b,o,none⟩) l.length cap)∧w'.cell? ⟨w.heap.size,1,none⟩=some (.func (.func 65) #[] #[])) 17 (Zq.out _ ((K_.refl wr).drew)) (fun Zz=> ?_)
    have KD:K_ wr wr.drew:= (K_.refl wr).drew
    generalize hwd:wr.drew=wd at Zz KD⊢
    clear hwd
    refine Z_.tk 0 Zz ?_
    refine Z_.tk 1 Zz ?_
    refine Z_.tk 2 Zz ?_
    refine Z_.tk 3 Zz ?_
    refine Z_.tk 4 Zz ?_
    refine Z_.tk 5 Zz ?_
    refine Z_.tk 6 Zz ?_
    refine Z_.tk 7 Zz ?_
    refine Z_.tk 9 Zz ?_
    refine Z_.tk 10 Zz ?_
    refine Z_.tk 11 Zz ?_
    refine Z_.tk 12 Zz ?_
    refine Z_.tk 13 Zz ?_
    refine Z_.tk 14 Zz ?_
    refine Z_.tk 15 Zz ?_
    refine Z_.nx 8 (fun K hK=> ?_)
    rw [if_pos (by rfl)]
    go_simp
    go_at_call 65
    refine (runName_any _ _ _ _ _ _ _ _ _ rfl).mono ?_
    rintro e w1 ⟨rfl,hw1⟩
    have K1:=KD.trans hw1
    refine hK.out _ _ (fun _=> Zq.out _ K1) ?_
    clear hK K Zz
    try simp only [Act.put,upA,upB,upC]
    refine Z_.nx 16 (fun K hK=> ?_)
    rw [if_pos (by rfl)]
    go_simp
    go_at_call 65
    refine (runName_any _ _ _ _ _ _ _ _ _ rfl).mono ?_
    rintro e w2 ⟨rfl,hw2⟩
    have kk:=K1.trans hw2
    refine hK.out _ _ (fun _=> Zq.out _ kk) ?_
    clear hK K
    try simp only [Act.put,upA,upB,upC]
    refine Z_.nx 17 (fun K hK=> ?_)
    go_simp
    refine hK.out _ _ (fun h=> absurd rfl h) ?_
    clear hK K
    try simp only [Act.put,upA,upB,upC]
    refine Z_.dn ?_
    try dsimp only
    have kf:=hw.trans kk
    go_wp2
    go_ret
    exact ⟨Says.no fun h=> (by have h3:=rise_of_asc h (n - 1) (by omega);unfold lessX at h3;rw [HX.out,HYK.out,hbl] at h3;cases h3),k0.trans kf⟩
   ·have hge:True:=trivial
    go_upto_region 4 with fail
    refine Z_.region (by kernel_rfl) (fun w'=> w'.cell? ⟨b,o+ (n - 1) * 7,none⟩=some (.string x.name)∧w'.cell? ⟨b,o+ (n - 1) * 7+1,none⟩=some (.bool x.over)∧w'.cell? ⟨b,o+ (n - 1) * 7+2,none⟩=some (.bool x.fail)∧w'.cell? ⟨b,o+ (n - 1) * 7+3,none⟩=some (.string x.text)∧w'.cell? ⟨b,o+ (n - 1) * 7+4,none⟩=some (.int .i64 x.at')∧w'.cell? ⟨b,o+ (n - 1) * 7+5,none⟩=some (.int .i64 x.Zk)∧w'.cell? ⟨b,o+ (n - 1) * 7+6,none⟩=some (.slice aa x.texts.length ca)∧w'.cell? ⟨b,o+n * 7,none⟩=some (.string y.name)∧w'.cell? ⟨b,o+n * 7+1,none⟩=some (.bool y.over)∧w'.cell? ⟨b,o+n * 7+2,none⟩=some (.bool y.fail)∧w'.cell? ⟨b,o+n * 7+3,none⟩=some (.string y.text)∧w'.cell? ⟨b,o+n * 7+4,none⟩=some (.int .i64 y.at')∧w'.cell? ⟨b,o+n * 7+5,none⟩=some (.int .i64 y.Zk)∧w'.cell? ⟨b,o+n * 7+6,none⟩=some (.slice ba y.texts.length da)∧w'.cell? ⟨w.heap.size,0,none⟩=some (.slice (some ⟨b,o,none⟩) l.length cap)∧w'.cell? ⟨w.heap.size,1,none⟩=some (.func (.func 65) #[] #[])) 17 (Zq.out _ ((K_.refl wr).drew)) (fun Zz=> ?_)
    have KD:K_ wr wr.drew:= (K_.refl wr).drew
    generalize hwd:wr.drew=wd at Zz KD⊢
    clear hwd
    refine Z_.tk 0 Zz ?_
    refine Z_.tk 1 Zz ?_
    refine Z_.tk 2 Zz ?_
    refine Z_.tk 3 Zz ?_
    refine Z_.tk 4 Zz ?_
    refine Z_.tk 5 Zz ?_
    refine Z_.tk 6 Zz ?_
    refine Z_.tk 7 Zz ?_
    refine Z_.tk 9 Zz ?_
    refine Z_.tk 10 Zz ?_
    refine Z_.tk 11 Zz ?_
    refine Z_.tk 12 Zz ?_
    refine Z_.tk 13 Zz ?_
    refine Z_.tk 14 Zz ?_
    refine Z_.tk 15 Zz ?_
    refine Z_.nx 8 (fun K hK=> ?_)
    rw [if_pos (by rfl)]
    go_simp
    go_at_call 65
    refine (runName_any _ _ _ _ _ _ _ _ _ rfl).mono ?_
    rintro e w1 ⟨rfl,hw1⟩
    have K1:=KD.trans hw1
    refine hK.out _ _ (fun _=> Zq.out _ K1) ?_
    clear hK K Zz
    try simp only [Act.put,upA,upB,upC]
    refine Z_.nx 16 (fun K hK=> ?_)
    rw [if_pos (by rfl)]
    go_simp
    go_at_call 65
    refine (runName_any _ _ _ _ _ _ _ _ _ rfl).mono ?_
    rintro e w2 ⟨rfl,hw2⟩
    have kk:=K1.trans hw2
    refine hK.out _ _ (fun _=> Zq.out _ kk) ?_
    clear hK K
    try simp only [Act.put,upA,upB,upC]
    refine Z_.nx 17 (fun K hK=> ?_)
    go_simp
    refine hK.out _ _ (fun h=> absurd rfl h) ?_
    clear hK K
    try simp only [Act.put,upA,upB,upC]
    refine Z_.dn ?_
    try dsimp only
    have kf:=hw.trans kk
    go_wp2
    go_roundw
    case rel=>
     refine ⟨n+1,by omega,by omega,by go_num,kf,fun j hj=> ?_⟩
     by_cases e:j=n - 1
     ·subst e
      unfold lessX
      rw [HX.out,HYK.out,hbl]
     ·exact HG.out j (by omega)
    case measure=> simp [intOf];omega
  ·go_wp2
   go_ret
   exact ⟨Says.yes (asc_of_rise fun j hj=> HG.out j (by omega)),k0.trans hw⟩
def NamedX (r:List Qq) (l:List Qj):Prop:=r.length=l.length∧∀i,i < l.length->nameAt l i= (r.getD i Qq.zero).name.toList
theorem findLitR_any (w:World) (g:Nat) (x:Qq) (xa:Option Addr) (xc:Nat) (key:ByteArray) (hg:g < w.heap.size) (hc:w.cell? ⟨g,1,none⟩=some (.func (.func 65) #[] #[])):
  Calls Tryz.prog 157 #[.agg #[.string x.name,.bool x.over,.bool x.fail,.string x.text,.int .i64 x.at',.int .i64 x.Zk,.slice xa x.texts.length xc],.string key,.pointer (some ⟨g,0,none⟩)] w fun e w'=> e= .returned (.int .i64 (cmpD x.name.toList key.toList))∧K_ w w':=by
 have k0:K_ w (w.alloc (.cells #[.string x.name,.bool x.over,.bool x.fail,.string x.text,.int .i64 x.at',.int .i64 x.Zk,.slice xa x.texts.length xc] 83)):= (K_.refl _).alloc _
 have hgn: ¬g=w.heap.size:=by omega
 go_enter Tryz.func157,Tryz.ntmps157
 go_wp2_with fail
 refine (runName_any _ _ _ _ _ _ _ _ _ rfl).mono ?_
 rintro e w1 ⟨rfl,k1⟩
 go_wp2_with fail
 refine (compare_any _ x.name key).mono ?_
 rintro e w2 ⟨rfl,rfl⟩
 go_wp2
 go_ret
 exact ⟨rfl,k0.trans k1⟩
theorem searchR_any (w:World) (g:Nat) (a:Option Addr) (cap:Nat) (l:List Qj) (key:ByteArray) (hl:l.length<=1048576) (hr:Rises l) (hg:g < w.heap.size) (hc:w.cell? ⟨g,1,none⟩=some (.func (.func 65) #[] #[])) (r:List Qq) (hP:NamedX r l) (hS:RunsX w a r):
  Calls Tryz.prog 156 #[.slice a l.length cap,.string key,.func (.func 157) #[] #[.pointer (some ⟨g,0,none⟩)]] w
   fun e w'=> Found l key.toList e∧K_ w w':=by
 have HRi:=Kj hr
 clear hr
 go_enter Tryz.func156,Tryz.ntmps156
 go_wp2
 go_loopw [9,10] (fun x y wr=> ∃i j:Nat,x= .int .i64 i∧y= .int .i64 j∧i<=j∧j<=l.length∧(∀t,t < i->Op.bytesLess (nameAt l t) key.toList=true)∧(∀t,j<=t->t < l.length->Op.bytesLess (nameAt l t) key.toList=false)∧K_ w wr) (fun x y _=> (intOf y).toNat - (intOf x).toNat)
 case atStart=> exact ⟨0,l.length,rfl,rfl,Nat.zero_le _,Nat.le_refl _,fun t ht=> absurd ht (Nat.not_lt_zero _),fun t h1 h2=> by omega,K_.refl _⟩
 case round=>
  obtain ⟨i,j,rfl,rfl,hij,hjn,hbe,hbh,hw⟩:=hrel
  have HB:=Kj (And.intro hbe hbh)
  clear hbe hbh
  by_cases hlt: (i:Int) < j
  ·obtain ⟨h,hh⟩: ∃h:Nat,h= (i+j) / 2:= ⟨_,rfl⟩
   have hhlt:h < l.length:=by omega
   have hhi:i<=h:=by omega
   have hhj:h < j:=by omega
   obtain ⟨b,o,xa,xc,rfl,hb,hcs,_,_⟩:=hS.kept hw h (by rw [hP.1];exact hhlt)
   obtain ⟨x,hd⟩: ∃x,x=r.getD h Qq.zero:= ⟨_,rfl⟩
   rw [<-hd] at hcs
   have HD:Hid (nameAt l h=x.name.toList):=by rw [hd];exact hP.2 h hhlt
   have c0:wr.cell? ⟨b,o+h * 7,none⟩=some (.string x.name):=hcs 0 _ rfl
   have c1:wr.cell? ⟨b,o+h * 7+1,none⟩=some (.bool x.over):=hcs 1 _ rfl
   have c2:wr.cell? ⟨b,o+h * 7+2,none⟩=some (.bool x.fail):=hcs 2 _ rfl
   have c3:wr.cell? ⟨b,o+h * 7+3,none⟩=some (.string x.text):=hcs 3 _ rfl
   have c4:wr.cell? ⟨b,o+h * 7+4,none⟩=some (.int .i64 x.at'):=hcs 4 _ rfl
   have c5:wr.cell? ⟨b,o+h * 7+5,none⟩=some (.int .i64 x.Zk):=hcs 5 _ rfl
   have c6:wr.cell? ⟨b,o+h * 7+6,none⟩=some (.slice xa x.texts.length xc):=hcs 6 _ rfl
   clear hd hcs
   have hmid: ((i:Int)+ (j:Int)) / 2= (h:Int):=by omega
   have HH:=Kj hh
   clear hh
   have hg':g < wr.heap.size:=Nat.lt_of_lt_of_le hg hw.size
   have hc':wr.cell? ⟨g,1,none⟩=some (.func (.func 65) #[] #[]):=by rw [hw.cell hg];exact hc
   go_wp2_with fail
   refine (findLitR_any _ g x xa xc key hg' hc').mono ?_
   rintro e w1 ⟨rfl,k1⟩
   have hnm:nameAt l h=x.name.toList:=HD.out
   have HC:Hid (cmpD x.name.toList key.toList < 0↔Op.bytesLess (nameAt l h) key.toList=true):=by rw [hnm];exact cmpD_neg
   clear c0 c1 c2 c3 c4 c5 c6 hnm
   generalize cmpD x.name.toList key.toList=q at *
   have hw1:=hw.trans k1
   clear hw k1
   by_cases hneg:q < 0
   ·go_wp2
    go_roundw
    case rel=>
     obtain ⟨hbe,hbh⟩:=HB.out
     refine ⟨h+1,j,by go_num,rfl,by omega,hjn,fun t ht=> ?_,hbh,hw1⟩
     have hle:=HC.out.1 hneg
     by_cases e:t=h
     ·subst e;exact hle
     ·exact less_trans _ _ _ (HRi.out t h (by omega) hhlt) hle
    case measure=> simp [intOf];omega
   ·go_wp2
    go_roundw
    case rel=>
     obtain ⟨hbe,hbh⟩:=HB.out
     refine ⟨i,h,rfl,by go_num,hhi,by omega,hbe,fun t h1 h2=> ?_,hw1⟩
     have hle:Op.bytesLess (nameAt l h) key.toList=false:=by
      cases hq:Op.bytesLess (nameAt l h) key.toList
      ·rfl
      ·have:=HC.out.2 hq
       omega
     by_cases e:t=h
     ·subst e;exact hle
     ·cases hq:Op.bytesLess (nameAt l t) key.toList
      ·rfl
      ·rw [less_trans _ _ _ (HRi.out h t (by omega) h2) hq] at hle
       cases hle
    case measure=> simp [intOf];omega
  ·have hij':i=j:=by omega
   subst hij'
   have HPl:Hid (Place l key.toList i):= ⟨hjn,HB.out.1,HB.out.2⟩
   clear HB
   by_cases hin:i < l.length
   ·obtain ⟨b,o,xa,xc,rfl,hb,hcs,_,_⟩:=hS.kept hw i (by rw [hP.1];exact hin)
    obtain ⟨x,hd⟩: ∃x,x=r.getD i Qq.zero:= ⟨_,rfl⟩
    rw [<-hd] at hcs
    have HD:Hid (nameAt l i=x.name.toList):=by rw [hd];exact hP.2 i hin
    have c0:wr.cell? ⟨b,o+i * 7,none⟩=some (.string x.name):=hcs 0 _ rfl
    have c1:wr.cell? ⟨b,o+i * 7+1,none⟩=some (.bool x.over):=hcs 1 _ rfl
    have c2:wr.cell? ⟨b,o+i * 7+2,none⟩=some (.bool x.fail):=hcs 2 _ rfl
    have c3:wr.cell? ⟨b,o+i * 7+3,none⟩=some (.string x.text):=hcs 3 _ rfl
    have c4:wr.cell? ⟨b,o+i * 7+4,none⟩=some (.int .i64 x.at'):=hcs 4 _ rfl
    have c5:wr.cell? ⟨b,o+i * 7+5,none⟩=some (.int .i64 x.Zk):=hcs 5 _ rfl
    have c6:wr.cell? ⟨b,o+i * 7+6,none⟩=some (.slice xa x.texts.length xc):=hcs 6 _ rfl
    clear hd hcs
    have hg':g < wr.heap.size:=Nat.lt_of_lt_of_le hg hw.size
    have hc':wr.cell? ⟨g,1,none⟩=some (.func (.func 65) #[] #[]):=by rw [hw.cell hg];exact hc
    have hin': (i:Int) < l.length:=by omega
    go_wp2_with fail
    refine (findLitR_any _ g x xa xc key hg' hc').mono ?_
    rintro e w1 ⟨rfl,k1⟩
    have hnm:nameAt l i=x.name.toList:=HD.out
    have HC:Hid (cmpD x.name.toList key.toList=0↔nameAt l i=key.toList):=by rw [hnm];exact cmpD_zero
    clear c0 c1 c2 c3 c4 c5 c6 hnm
    generalize cmpD x.name.toList key.toList=q at *
    have hw1:=hw.trans k1
    clear hw k1
    go_wp2
    go_ret2
    refine ⟨Found.mk i _ rfl HPl.out ?_,hw1⟩
    rw [<-HC.out]
    simp [hin]
   ·have hin': ¬(i:Int) < l.length:=by omega
    go_wp2
    go_ret2
    exact ⟨Found.mk i false rfl HPl.out (by simp;intro h;exact absurd h hin),hw⟩
theorem findR_any (w:World) (a:Option Addr) (cap:Nat) (l:List Qj) (key:ByteArray) (hl:l.length<=1048576) (hr:Rises l) (r:List Qq) (hP:NamedX r l) (hS:RunsX w a r):
  Calls Tryz.prog 115 #[.agg #[.slice a l.length cap,.func (.func 65) #[] #[]],.string key] w
   fun e w'=> Found l key.toList e∧K_ w w':=by
 have k0:K_ w (w.alloc (.cells #[.slice a l.length cap,.func (.func 65) #[] #[]] 120)):= (K_.refl _).alloc _
 go_enter Tryz.func115,Tryz.ntmps115
 go_wp2_with fail
 refine (searchR_any _ w.heap.size a cap l key hl hr (by simp) (by simp) r hP (hS.kept k0)).mono ?_
 rintro e w1 ⟨hfo,k1⟩
 obtain ⟨p,f,rfl,hp,hf⟩:=hfo
 have HP:=Kj hp
 have HF:=Kj hf
 clear hp hf
 go_wp2
 go_ret2
 exact ⟨Found.mk p f rfl HP.out HF.out,k0.trans k1⟩
def nodesX (l:List Qq):List Qj:=l.map fun x=> ⟨x.name,0,[]⟩
theorem nodesX_named (l:List Qq):NamedX l (nodesX l):=by
 refine ⟨by simp [nodesX],fun i hi=> ?_⟩
 have hi':i < l.length:=by simpa [nodesX] using hi
 simp [nameAt,nodesX,List.getD,hi']
theorem nodesX_rises {l:List Qq} (h:AscX l):Rises (nodesX l):=by
 intro i j hij hj
 have hj':j < l.length:=by simpa [nodesX] using hj
 rw [(nodesX_named l).2 i (by omega),(nodesX_named l).2 j hj]
 have:=List.pairwise_iff_getElem.1 h i j (by omega) hj' hij
 simpa [List.getD,hj',(by omega:i < l.length),lessX] using this
def FindX (l:List Qq) (n:ByteArray) (e:Ending):Prop:=
 ∃(p:Nat) (f:Bool),e= .returned (.tuple #[.int .i64 p,.bool f])∧p<=l.length∧(if f then p < l.length∧Qk l n=some (l.getD p Qq.zero) else Qk l n=none)
theorem getD_mem {l:List Qq} {p:Nat} (h:p < l.length):l.getD p Qq.zero∈l:=by
 rw [List.getD_eq_getElem?_getD,List.getElem?_eq_getElem h]
 exact List.getElem_mem h
theorem found_env {l:List Qq} (hA:AscX l) {n:ByteArray} {e:Ending} (h:Found (nodesX l) n.toList e):FindX l n e:=by
 obtain ⟨p,f,rfl,⟨hp,hb,ha⟩,hf⟩:=h
 have hlen: (nodesX l).length=l.length:= (nodesX_named l).1.symm
 rw [hlen] at hp ha hf
 have hN: ∀i,i < l.length->nameAt (nodesX l) i= (l.getD i Qq.zero).name.toList:=fun i hi=> (nodesX_named l).2 i (by omega)
 refine ⟨p,f,rfl,hp, ?_⟩
 cases f with
 | true=>
  obtain ⟨h1,h2⟩:=hf.1 rfl
  rw [hN p h1] at h2
  refine ⟨h1, ?_⟩
  rw [<-toList_inj.1 h2]
  exact asc_env hA (getD_mem h1)
 | false=>
  cases he:Qk l n with
  | none=> rfl
  | some r=>
   exfalso
   obtain ⟨hm,hn⟩:=env_mem he
   obtain ⟨k,hk,hkr⟩:=List.getElem_of_mem hm
   have hg: (l.getD k Qq.zero)=r:=by simp [List.getD,hk,hkr]
   have hnk:nameAt (nodesX l) k=n.toList:=by rw [hN k hk,hg,hn]
   have hpk:p<=k:=by
    rcases Nat.lt_or_ge k p with h | h
    ·have:=hb k h
     rw [hnk,less_irrefl] at this
     cases this
    ·exact h
   rcases Nat.lt_or_eq_of_le hpk with h | h
   ·have h1:=ha p (Nat.le_refl _) (by omega)
    have h2:=nodesX_rises hA p k h (by omega)
    rw [hnk,h1] at h2
    cases h2
   ·subst h
    have:=hf.2 ⟨hk,hnk⟩
    cases this
theorem findX_any (w:World) (a:Option Addr) (cap:Nat) (l:List Qq) (n:ByteArray) (hl:l.length<=1048576) (hA:AscX l) (hS:RunsX w a l):
  Calls Tryz.prog 115 #[.agg #[.slice a l.length cap,.func (.func 65) #[] #[]],.string n] w
   fun e w'=> FindX l n e∧K_ w w':=by
 have hlen: (nodesX l).length=l.length:= (nodesX_named l).1.symm
 have h:=findR_any w a cap (nodesX l) n (by omega) (nodesX_rises hA) l (nodesX_named l) hS
 rw [hlen] at h
 exact h.mono fun e w' hh=> ⟨found_env hA hh.1,hh.2⟩
theorem says_dec {P Q:Prop} [Decidable P] (h:P↔Q):Says (.returned (.bool (decide P))) Q:=by
 by_cases hp:P
 ·rw [decide_eq_true hp];exact Says.yes (h.1 hp)
 ·rw [decide_eq_false hp];exact Says.no fun hq=> hp (h.2 hq)
theorem behind_any (w:World) (tb:Nat) (r x:Qq) (xa:Option Addr) (xc:Nat) (ht:tb < w.heap.size) (hc:w.cell? ⟨tb,5,none⟩=some (.int .i64 r.Zk)):
  Calls Tryz.prog 116 #[.pointer (some ⟨tb,0,none⟩),.agg #[.string x.name,.bool x.over,.bool x.fail,.string x.text,.int .i64 x.at',.int .i64 x.Zk,.slice xa x.texts.length xc]] w
   fun e w'=> Says e (behindI r x)∧K_ w w':=by
 have k0:K_ w (w.alloc (.cells #[.string x.name,.bool x.over,.bool x.fail,.string x.text,.int .i64 x.at',.int .i64 x.Zk,.slice xa x.texts.length xc] 83)):= (K_.refl _).alloc _
 have hne: ¬tb=w.heap.size:=by omega
 unfold behindI
 cases hov:x.over
 ·rw [hov] at k0
  go_enter Tryz.func116,Tryz.ntmps116
  go_wp2
  go_region
  all_goals
   go_wp2
   go_ret
   exact ⟨says_dec (by simp),k0.drew⟩
 ·rw [hov] at k0
  go_enter Tryz.func116,Tryz.ntmps116
  go_wp2
  go_region
  all_goals
   go_wp2
   go_ret
   exact ⟨Says.yes (Or.inl trivial),k0.drew⟩
theorem equalTexts_any (w:World) (a a':Option Addr) (c c':Nat) (l l':List ByteArray) (hl:l.length<=1048576) (_hl':l'.length<=1048576) (hS:Strs w a l) (hS':Strs w a' l'):
  Calls Tryz.prog 118 #[.slice a l.length c,.slice a' l'.length c'] w fun e w'=> e= .returned (.bool (decide (l=l')))∧K_ w w':=by
 go_enter Tryz.func118,Tryz.ntmps118
 by_cases hlen:l.length=l'.length
 ·have hlb: ((l.length:Int) != (l'.length:Int))=false:=by simp [hlen]
  have hle: (l.length:Int)= (l'.length:Int):=by omega
  go_wp2
  go_loopw [13] (fun i wr=> ∃k:Nat,k<=l.length∧i= .int .i64 k∧Hid (∀j,j < k->l.getD j ByteArray.empty=l'.getD j ByteArray.empty)∧K_ w wr) (fun i _=> l.length - (intOf i).toNat)
  case atStart=> exact ⟨0,Nat.zero_le _,rfl,Kj fun j hj=> absurd hj (Nat.not_lt_zero _),K_.refl _⟩
  case round=>
   obtain ⟨k,hk,rfl,HG,KW⟩:=hrel
   by_cases hlt:k < l.length
   ·obtain ⟨b,o,rfl,hb,hc⟩:=hS.kept KW k hlt
    obtain ⟨b',o',rfl,hb',hc'⟩:=hS'.kept KW k (by omega)
    have i0: (k:Int) < (l.length:Int):=by omega
    have i1: (k:Int) < (l'.length:Int):=by omega
    obtain ⟨x,hx⟩: ∃x,x=l.getD k ByteArray.empty:= ⟨_,rfl⟩
    obtain ⟨y,hy⟩: ∃y,y=l'.getD k ByteArray.empty:= ⟨_,rfl⟩
    rw [<-hx] at hc
    rw [<-hy] at hc'
    have HX:=Kj hx
    have HY:=Kj hy
    clear hx hy
    cases hne: (x.toList == y.toList)
    ·have hnb: (x.toList != y.toList)=true:=by rw [bne,hne];rfl
     go_upto_region 6 with fail
     go_quiet (fail)
     go_wp2_with fail
     go_ret
     have hnn: ¬l=l':=fun e=> by
      have h1:=beq_no hne
      rw [HX.out,HY.out,e] at h1
      exact h1 rfl
     exact ⟨by rw [decide_eq_false hnn];rfl,KW.drewN _⟩
    ·have hnb: (x.toList != y.toList)=false:=by rw [bne,hne];rfl
     go_upto_region 6 with fail
     go_quiet (fail)
     go_wp2_with fail
     go_roundw
     case rel=>
      refine ⟨k+1,by omega,by go_num,Kj fun j hj=> ?_,KW.drewN _⟩
      by_cases e:j=k
      ·rw [e,<-HX.out,<-HY.out];exact beq_yes hne
      ·exact HG.out j (by omega)
     case measure=> simp [intOf];omega
   ·go_wp2_with fail
    go_ret
    have hee:l=l':=list_ext_getD hlen fun j hj=> HG.out j (by omega)
    exact ⟨by rw [decide_eq_true hee];rfl,KW⟩
 ·have hlb: ((l.length:Int) != (l'.length:Int))=true:=by simp;omega
  have hle: ¬(l.length:Int)= (l'.length:Int):=by omega
  have hnn: ¬l=l':=fun e=> hlen (by rw [e])
  have HN:=Kj hnn
  clear hnn
  go_wp2
  go_ret
  exact ⟨by rw [decide_eq_false HN.out];rfl,K_.refl _⟩
theorem sameRunB_any (w:World) (tb:Nat) (r r':Qq) (ta xa:Option Addr) (tc xc:Nat) (ht:tb < w.heap.size) (hc:w.rangeAt tb 0 (r.cells ta tc)) (hl:r.texts.length<=1048576) (hl':r'.texts.length<=1048576) (hS:Strs w ta r.texts) (hS':Strs w xa r'.texts):
  Calls Tryz.prog 69 #[.pointer (some ⟨tb,0,none⟩),.agg #[.string r'.name,.bool r'.over,.bool r'.fail,.string r'.text,.int .i64 r'.at',.int .i64 r'.Zk,.slice xa r'.texts.length xc]] w
   fun e w'=> Says e (r=r')∧K_ w w':=by
 obtain ⟨n,ov,fl,tx,at1,vi,ts⟩:=r
 obtain ⟨n',ov',fl',tx',at1',vi',ts'⟩:=r'
 dsimp only at hl hl' hS hS'⊢
 have k0:K_ w (w.alloc (.cells #[.string n',.bool ov',.bool fl',.string tx',.int .i64 at1',.int .i64 vi',.slice xa ts'.length xc] 83)):= (K_.refl _).alloc _
 have hne: ¬tb=w.heap.size:=by omega
 have htW:tb < (w.alloc (.cells #[.string n',.bool ov',.bool fl',.string tx',.int .i64 at1',.int .i64 vi',.slice xa ts'.length xc] 83)).heap.size:=by simp;omega
 have hxW:w.heap.size < (w.alloc (.cells #[.string n',.bool ov',.bool fl',.string tx',.int .i64 at1',.int .i64 vi',.slice xa ts'.length xc] 83)).heap.size:=by simp
 have c0: (w.alloc (.cells #[.string n',.bool ov',.bool fl',.string tx',.int .i64 at1',.int .i64 vi',.slice xa ts'.length xc] 83)).cell? ⟨tb,0,none⟩=some (.string n):= (k0.cell ht).trans (by have h:=hc 0 _ rfl;simpa using h)
 have d0: (w.alloc (.cells #[.string n',.bool ov',.bool fl',.string tx',.int .i64 at1',.int .i64 vi',.slice xa ts'.length xc] 83)).cell? ⟨w.heap.size,0,none⟩=some (.string n'):=Xq w #[.string n',.bool ov',.bool fl',.string tx',.int .i64 at1',.int .i64 vi',.slice xa ts'.length xc] 83 0 _ rfl
 have c1: (w.alloc (.cells #[.string n',.bool ov',.bool fl',.string tx',.int .i64 at1',.int .i64 vi',.slice xa ts'.length xc] 83)).cell? ⟨tb,1,none⟩=some (.bool ov):= (k0.cell ht).trans (by have h:=hc 1 _ rfl;simpa using h)
 have d1: (w.alloc (.cells #[.string n',.bool ov',.bool fl',.string tx',.int .i64 at1',.int .i64 vi',.slice xa ts'.length xc] 83)).cell? ⟨w.heap.size,1,none⟩=some (.bool ov'):=Xq w #[.string n',.bool ov',.bool fl',.string tx',.int .i64 at1',.int .i64 vi',.slice xa ts'.length xc] 83 1 _ rfl
 have c2: (w.alloc (.cells #[.string n',.bool ov',.bool fl',.string tx',.int .i64 at1',.int .i64 vi',.slice xa ts'.length xc] 83)).cell? ⟨tb,2,none⟩=some (.bool fl):= (k0.cell ht).trans (by have h:=hc 2 _ rfl;simpa using h)
 have d2: (w.alloc (.cells #[.string n',.bool ov',.bool fl',.string tx',.int .i64 at1',.int .i64 vi',.slice xa ts'.length xc] 83)).cell? ⟨w.heap.size,2,none⟩=some (.bool fl'):=Xq w #[.string n',.bool ov',.bool fl',.string tx',.int .i64 at1',.int .i64 vi',.slice xa ts'.length xc] 83 2 _ rfl
 have c3: (w.alloc (.cells #[.string n',.bool ov',.bool fl',.string tx',.int .i64 at1',.int .i64 vi',.slice xa ts'.length xc] 83)).cell? ⟨tb,3,none⟩=some (.string tx):= (k0.cell ht).trans (by have h:=hc 3 _ rfl;simpa using h)
 have d3: (w.alloc (.cells #[.string n',.bool ov',.bool fl',.string tx',.int .i64 at1',.int .i64 vi',.slice xa ts'.length xc] 83)).cell? ⟨w.heap.size,3,none⟩=some (.string tx'):=Xq w #[.string n',.bool ov',.bool fl',.string tx',.int .i64 at1',.int .i64 vi',.slice xa ts'.length xc] 83 3 _ rfl
 have c4: (w.alloc (.cells #[.string n',.bool ov',.bool fl',.string tx',.int .i64 at1',.int .i64 vi',.slice xa ts'.length xc] 83)).cell? ⟨tb,4,none⟩=some (.int .i64 at1):= (k0.cell ht).trans (by have h:=hc 4 _ rfl;simpa using h)
 have d4: (w.alloc (.cells #[.string n',.bool ov',.bool fl',.string tx',.int .i64 at1',.int .i64 vi',.slice xa ts'.length xc] 83)).cell? ⟨w.heap.size,4,none⟩=some (.int .i64 at1'):=Xq w #[.string n',.bool ov',.bool fl',.string tx',.int .i64 at1',.int .i64 vi',.slice xa ts'.length xc] 83 4 _ rfl
 have c5: (w.alloc (.cells #[.string n',.bool ov',.bool fl',.string tx',.int .i64 at1',.int .i64 vi',.slice xa ts'.length xc] 83)).cell? ⟨tb,5,none⟩=some (.int .i64 vi):= (k0.cell ht).trans (by have h:=hc 5 _ rfl;simpa using h)
 have d5: (w.alloc (.cells #[.string n',.bool ov',.bool fl',.string tx',.int .i64 at1',.int .i64 vi',.slice xa ts'.length xc] 83)).cell? ⟨w.heap.size,5,none⟩=some (.int .i64 vi'):=Xq w #[.string n',.bool ov',.bool fl',.string tx',.int .i64 at1',.int .i64 vi',.slice xa ts'.length xc] 83 5 _ rfl
 have c6: (w.alloc (.cells #[.string n',.bool ov',.bool fl',.string tx',.int .i64 at1',.int .i64 vi',.slice xa ts'.length xc] 83)).cell? ⟨tb,6,none⟩=some (.slice ta ts.length tc):= (k0.cell ht).trans (by have h:=hc 6 _ rfl;simpa using h)
 have d6: (w.alloc (.cells #[.string n',.bool ov',.bool fl',.string tx',.int .i64 at1',.int .i64 vi',.slice xa ts'.length xc] 83)).cell? ⟨w.heap.size,6,none⟩=some (.slice xa ts'.length xc):=Xq w #[.string n',.bool ov',.bool fl',.string tx',.int .i64 at1',.int .i64 vi',.slice xa ts'.length xc] 83 6 _ rfl
 clear hc
 go_enter Tryz.func69,Tryz.ntmps69
 go_upto_region 1 with fail
 generalize hW: (w.alloc (.cells #[.string n',.bool ov',.bool fl',.string tx',.int .i64 at1',.int .i64 vi',.slice xa ts'.length xc] 83))=W at *
 clear hW
 go_cut [5] from 7 to 34 (fun s5 wx=> K_ W wx∧s5= .bool (decide (ov=ov'∧fl=fl'∧tx=tx')))
 case first=>
  by_cases h1:ov=ov'
  ·have b1: (ov == ov')=true:=by simp [h1]
   by_cases h2:fl=fl'
   ·have b2: (fl == fl')=true:=by simp [h2]
    have H1:=Kj h1
    have H2:=Kj h2
    clear h1 h2
    cases h3: (tx.toList == tx'.toList)
    ·go_region
     all_goals
      go_wp2_with fail
      go_meet
      exact ⟨(K_.refl _).drew,by rw [decide_eq_false (fun h=> beq_no h3 (by rw [h.2.2]))]⟩
    ·go_region
     all_goals
      go_wp2_with fail
      go_meet
      exact ⟨(K_.refl _).drew,by rw [decide_eq_true ⟨H1.out,H2.out,beq_yes h3⟩]⟩
   ·have b2: (fl == fl')=false:=by simp [h2]
    have H1:=Kj h1
    have H2:=Kj h2
    clear h1 h2
    go_region
    all_goals
     go_wp2_with fail
     go_meet
     exact ⟨(K_.refl _).drew,by rw [decide_eq_false (fun h=> H2.out h.2.1)]⟩
  ·have b1: (ov == ov')=false:=by simp [h1]
   have H1:=Kj h1
   clear h1
   go_region
   all_goals
    go_wp2_with fail
    go_meet
    exact ⟨(K_.refl _).drew,by rw [decide_eq_false (fun h=> H1.out h.1)]⟩
 case rest=>
  obtain ⟨kk,rfl⟩:=hcut
  generalize hE:decide (ov=ov'∧fl=fl'∧tx=tx')=sE
  have HE:=Kj hE
  clear hE
  obtain ⟨wA,rfl⟩: ∃wA,wA=wc:= ⟨_,rfl⟩
  have t0:wA.cell? ⟨tb,0,none⟩=some (.string n):= (kk.cell htW).trans c0
  have x0:wA.cell? ⟨w.heap.size,0,none⟩=some (.string n'):= (kk.cell hxW).trans d0
  have t1:wA.cell? ⟨tb,1,none⟩=some (.bool ov):= (kk.cell htW).trans c1
  have x1:wA.cell? ⟨w.heap.size,1,none⟩=some (.bool ov'):= (kk.cell hxW).trans d1
  have t2:wA.cell? ⟨tb,2,none⟩=some (.bool fl):= (kk.cell htW).trans c2
  have x2:wA.cell? ⟨w.heap.size,2,none⟩=some (.bool fl'):= (kk.cell hxW).trans d2
  have t3:wA.cell? ⟨tb,3,none⟩=some (.string tx):= (kk.cell htW).trans c3
  have x3:wA.cell? ⟨w.heap.size,3,none⟩=some (.string tx'):= (kk.cell hxW).trans d3
  have t4:wA.cell? ⟨tb,4,none⟩=some (.int .i64 at1):= (kk.cell htW).trans c4
  have x4:wA.cell? ⟨w.heap.size,4,none⟩=some (.int .i64 at1'):= (kk.cell hxW).trans d4
  have t5:wA.cell? ⟨tb,5,none⟩=some (.int .i64 vi):= (kk.cell htW).trans c5
  have x5:wA.cell? ⟨w.heap.size,5,none⟩=some (.int .i64 vi'):= (kk.cell hxW).trans d5
  have t6:wA.cell? ⟨tb,6,none⟩=some (.slice ta ts.length tc):= (kk.cell htW).trans c6
  have x6:wA.cell? ⟨w.heap.size,6,none⟩=some (.slice xa ts'.length xc):= (kk.cell hxW).trans d6
  clear c0 c1 c2 c3 c4 c5 c6 d0 d1 d2 d3 d4 d5 d6
  have K1:=k0.trans kk
  have htA:tb < wA.heap.size:=Nat.lt_of_lt_of_le htW kk.size
  have hxA:w.heap.size < wA.heap.size:=Nat.lt_of_lt_of_le hxW kk.size
  clear kk htW hxW k0
  go_upto_region 2 with fail
  go_cut [6] from 35 to 52 (fun s6 wx=> K_ wA wx∧s6= .bool (decide (at1=at1'∧vi=vi')))
  case first=>
   by_cases h1:at1=at1'
   ·have b1: (at1 == at1')=true:=by simp [h1]
    have H1:=Kj h1
    clear h1
    by_cases h2:vi=vi'
    ·have b2: (vi == vi')=true:=by simp [h2]
     have H2:=Kj h2
     clear h2
     go_region
     all_goals
      go_wp2_with fail
      go_meet
      exact ⟨(K_.refl _).drew,by rw [decide_eq_true ⟨H1.out,H2.out⟩]⟩
    ·have b2: (vi == vi')=false:=by simp [h2]
     have H2:=Kj h2
     clear h2
     go_region
     all_goals
      go_wp2_with fail
      go_meet
      exact ⟨(K_.refl _).drew,by rw [decide_eq_false (fun h=> H2.out h.2)]⟩
   ·have b1: (at1 == at1')=false:=by simp [h1]
    have H1:=Kj h1
    clear h1
    go_region
    all_goals
     go_wp2_with fail
     go_meet
     exact ⟨(K_.refl _).drew,by rw [decide_eq_false (fun h=> H1.out h.1)]⟩
  case rest=>
   obtain ⟨kk,rfl⟩:=hcut
   obtain ⟨wB,rfl⟩: ∃wB,wB=wc:= ⟨_,rfl⟩
   generalize hP:decide (at1=at1'∧vi=vi')=sP
   have HP:=Kj hP
   clear hP
   have u0:wB.cell? ⟨tb,0,none⟩=some (.string n):= (kk.cell htA).trans t0
   have y0:wB.cell? ⟨w.heap.size,0,none⟩=some (.string n'):= (kk.cell hxA).trans x0
   have u1:wB.cell? ⟨tb,1,none⟩=some (.bool ov):= (kk.cell htA).trans t1
   have y1:wB.cell? ⟨w.heap.size,1,none⟩=some (.bool ov'):= (kk.cell hxA).trans x1
   have u2:wB.cell? ⟨tb,2,none⟩=some (.bool fl):= (kk.cell htA).trans t2
   have y2:wB.cell? ⟨w.heap.size,2,none⟩=some (.bool fl'):= (kk.cell hxA).trans x2
   have u3:wB.cell? ⟨tb,3,none⟩=some (.string tx):= (kk.cell htA).trans t3
   have y3:wB.cell? ⟨w.heap.size,3,none⟩=some (.string tx'):= (kk.cell hxA).trans x3
   have u4:wB.cell? ⟨tb,4,none⟩=some (.int .i64 at1):= (kk.cell htA).trans t4
   have y4:wB.cell? ⟨w.heap.size,4,none⟩=some (.int .i64 at1'):= (kk.cell hxA).trans x4
   have u5:wB.cell? ⟨tb,5,none⟩=some (.int .i64 vi):= (kk.cell htA).trans t5
   have y5:wB.cell? ⟨w.heap.size,5,none⟩=some (.int .i64 vi'):= (kk.cell hxA).trans x5
   have u6:wB.cell? ⟨tb,6,none⟩=some (.slice ta ts.length tc):= (kk.cell htA).trans t6
   have y6:wB.cell? ⟨w.heap.size,6,none⟩=some (.slice xa ts'.length xc):= (kk.cell hxA).trans x6
   have K2:=K1.trans kk
   have htB:tb < wB.heap.size:=Nat.lt_of_lt_of_le htA kk.size
   have hxB:w.heap.size < wB.heap.size:=Nat.lt_of_lt_of_le hxA kk.size
   clear kk htA hxA K1 t0 t1 t2 t3 t4 t5 t6 x0 x1 x2 x3 x4 x5 x6
   have hT:=hS.kept K2
   have hX:=hS'.kept K2
   clear hS hS'
   go_upto_region 3 with fail
   cases h0: (n.toList == n'.toList)
   ·go_region
    all_goals
     go_wp2_with fail
     go_ret
     exact ⟨Says.no (by simp [beq_no h0]),K2.drew⟩
   ·have E0:=Kj (beq_yes h0)
    cases sE
    ·have hno:=of_decide_eq_false HE.out
     have HN:=Kj hno
     clear hno
     go_region
     all_goals
      go_wp2_with fail
      go_ret
      exact ⟨Says.no (fun h=> absurd (by first | exact ⟨h.2.1,h.2.2.1,h.2.2.2.1⟩ | (rw [Qq.mk.injEq] at h;exact ⟨h.2.1,h.2.2.1,h.2.2.2.1⟩)) HN.out),K2.drew⟩
    ·cases sP
     ·have hno:=of_decide_eq_false HP.out
      have HN:=Kj hno
      clear hno
      go_region
      all_goals
       go_wp2_with fail
       go_ret
       exact ⟨Says.no (fun h=> absurd (by first | exact ⟨h.2.2.2.2.1,h.2.2.2.2.2.1⟩ | (rw [Qq.mk.injEq] at h;exact ⟨h.2.2.2.2.1,h.2.2.2.2.2.1⟩)) HN.out),K2.drew⟩
     ·have HS0:True:=trivial
      have hSof: ∀w',K_ wB w'->(fun w'=> w'.cell? ⟨tb,0,none⟩=some (.string n)∧w'.cell? ⟨w.heap.size,0,none⟩=some (.string n')∧w'.cell? ⟨tb,6,none⟩=some (.slice ta ts.length tc)∧w'.cell? ⟨w.heap.size,6,none⟩=some (.slice xa ts'.length xc)) w':=fun w' kk=> ⟨(kk.cell htB).trans u0,(kk.cell hxB).trans y0,(kk.cell htB).trans u6,(kk.cell hxB).trans y6⟩
      have Zq:=Kj hSof
      clear hSof
      refine Z_.region (by kernel_rfl) (fun w'=> w'.cell? ⟨tb,0,none⟩=some (.string n)∧w'.cell? ⟨w.heap.size,0,none⟩=some (.string n')∧w'.cell? ⟨tb,6,none⟩=some (.slice ta ts.length tc)∧w'.cell? ⟨w.heap.size,6,none⟩=some (.slice xa ts'.length xc)) 24 (Zq.out _ ((K_.refl wB).drew)) (fun Zz=> ?_)
      have KD:K_ wB wB.drew:= (K_.refl wB).drew
      generalize hwd:wB.drew=wd at Zz KD⊢
      clear hwd
      refine Z_.tk 0 Zz ?_
      refine Z_.tk 1 Zz ?_
      refine Z_.tk 2 Zz ?_
      refine Z_.tk 3 Zz ?_
      refine Z_.tk 4 Zz ?_
      refine Z_.tk 5 Zz ?_
      refine Z_.tk 6 Zz ?_
      refine Z_.tk 7 Zz ?_
      refine Z_.tk 8 Zz ?_
      refine Z_.tk 9 Zz ?_
      refine Z_.tk 10 Zz ?_
      refine Z_.tk 11 Zz ?_
      refine Z_.tk 12 Zz ?_
      refine Z_.tk 13 Zz ?_
      refine Z_.tk 14 Zz ?_
      refine Z_.tk 15 Zz ?_
      refine Z_.tk 16 Zz ?_
      refine Z_.tk 17 Zz ?_
      refine Z_.tk 18 Zz ?_
      refine Z_.tk 19 Zz ?_
      refine Z_.tk 20 Zz ?_
      refine Z_.tk 21 Zz ?_
      refine Z_.nx 22 (fun K hK=> ?_)
      rw [if_pos (by rfl)]
      go_simp
      go_at_call 118
      refine (equalTexts_any _ ta xa tc xc ts ts' hl hl' (hT.kept KD) (hX.kept KD)).mono ?_
      rintro e w1 ⟨rfl,k1⟩
      refine hK.out _ _ (fun _=> Zq.out _ (KD.trans k1)) ?_
      clear hK K
      try simp only [Act.put,upA,upB,upC]
      refine Z_.nx 23 (fun K hK=> ?_)
      go_simp
      refine hK.out _ _ (fun _=> Zq.out _ (KD.trans k1)) ?_
      clear hK K
      try simp only [Act.put,upA,upB,upC]
      refine Z_.nx 24 (fun K hK=> ?_)
      go_simp
      refine hK.out _ _ (fun h=> absurd rfl h) ?_
      clear hK K
      try simp only [Act.put,upA,upB,upC]
      refine Z_.dn ?_
      go_wp2_with fail
      go_ret
      have h1:=of_decide_eq_true HE.out
      have h2:=of_decide_eq_true HP.out
      exact ⟨says_dec (by simp [E0.out,h1.1,h1.2.1,h1.2.2,h2.1,h2.2]),(K2.trans KD).trans k1⟩
theorem owns_low {w:World} {base base':Nat} {e:TypeId} {size n:Nat} {v:Value} {xs:List Value} (h:w.ownsRow base e size v n xs) (hb:base'<=base):w.ownsRow base' e size v n xs:=by
 refine ⟨h.1, ?_⟩
 rcases h.2 with h2 | ⟨g,cap,cur,h3,h4,h5⟩
 ·exact .inl h2
 ·exact .inr ⟨g,cap,cur,h3,Nat.le_trans hb h4,h5⟩
def StaysOwn (w w':World) (v v':Value) (l r:List ByteArray):Prop:= ∀B,B<=w.heap.size->w.ownsRow B 9 1 v l.length (l.map Value.string)->w'.ownsRow B 9 1 v' r.length (r.map Value.string)
theorem l6Put_own (w:World) (b o cap:Nat) (l:List ByteArray) (x:ByteArray) (hl:l.length<=100000) (hcl:l.length<=cap) (ha:AscB l) (hS:Strs w (some ⟨b,o,none⟩) l):
  Calls Tryz.prog 134 #[.slice (some ⟨b,o,none⟩) l.length cap,.string x] w fun e w'=> ∃b' o' c' r,e= .returned (.slice (some ⟨b',o',none⟩) r.length c')∧r.length<=c'∧PutB l x r∧Strs w' (some ⟨b',o',none⟩) r∧StaysOwn w w' (.slice (some ⟨b,o,none⟩) l.length cap) (.slice (some ⟨b',o',none⟩) r.length c') l r∧K_ w w':=by
 have HA:=Kj ha
 clear ha
 go_enter Tryz.func134,Tryz.ntmps134
 go_wp2
 go_loop [5] (fun i=> ∃k:Nat,k<=l.length∧i= .int .i64 k∧Hid (∀y∈l.take k,lessX y x)) (fun i=> l.length - (intOf i).toNat)
 case atStart=> exact ⟨0,Nat.zero_le _,rfl,Kj fun y hy=> by cases hy⟩
 case round=>
  obtain ⟨k,hk,rfl,HLs⟩:=hrel
  by_cases hlt:k < l.length
  ·obtain ⟨b1,o1,e1,hb,hc⟩:=hS k hlt
   cases e1
   obtain ⟨y,hy⟩: ∃y,y=l.getD k ByteArray.empty:= ⟨_,rfl⟩
   rw [<-hy] at hc
   have hyg:l[k]=y:=by rw [hy];simp [List.getD,hlt]
   have HY:=Kj hyg
   clear hy hyg
   have hki: (k:Int) < (l.length:Int):=by omega
   cases hle: (Op.bytesLess y.toList x.toList)
   ·have HLe:=Kj hle
    cases heq: (y.toList == x.toList)
    ·have HEq:=Kj heq
     have HGr:Hid (∀z∈l.drop k,lessX x z):=fun z hz=> by
      have hxy:lessX x y:=by
       rcases lessX_total x y with g | g | g
       ·exact g
       ·exact absurd g.symm (beq_no HEq.out)
       ·unfold lessX at g;rw [HLe.out] at g;cases g
      rw [List.drop_eq_getElem_cons hlt,HY.out] at hz
      rcases List.mem_cons.1 hz with rfl | hz
      ·exact hxy
      ·obtain ⟨j,hj,rfl⟩:=List.getElem_of_mem hz
       rw [List.getElem_drop]
       have h2:=List.pairwise_iff_getElem.1 HA.out k (k+1+j) hlt (by simp at hj;omega) (by omega)
       rw [HY.out] at h2
       exact lessX_trans hxy h2
     have HNo:Hid (x∉l):=fun h=> by
      rw [<-List.take_append_drop k l] at h
      rcases List.mem_append.1 h with h | h
      ·exact lessX_irrefl x (HLs.out x h)
      ·exact lessX_irrefl x (HGr.out x h)
     obtain ⟨l1,l2,hll,hk1⟩: ∃l1 l2,l=l1++l2∧k=l1.length:= ⟨l.take k,l.drop k,(List.take_append_drop k l).symm,by simp;omega⟩
     subst hk1
     have HPt:Hid (PutB l x (l1++x :: l2)):=by
      have e1:l.take l1.length=l1:=by rw [hll];simp
      have e2:l.drop l1.length=l2:=by rw [hll];simp
      refine .inr ⟨HNo.out,l1.length,hk,by rw [e1,e2],HLs.out,HGr.out⟩
     have hl2:l.length=l1.length+l2.length:=by rw [hll,List.length_append]
     have HS1:Hid (∀W,K_ w W->Strs W (some ⟨b,o,none⟩) l1):=fun W K i hi=> by
      obtain ⟨b',o',e',hb',hc'⟩:= (hS.kept K) i (by omega)
      refine ⟨b',o',e',hb', ?_⟩
      rw [hc',hll]
      simp [List.getD,List.getElem?_append_left hi]
     have HS2:Hid (∀W,K_ w W->Strs W (if cap=l1.length then (some ⟨b,o,none⟩:Option Addr) else some ⟨b,o+l1.length,none⟩) l2):=fun W K i hi=> by
      obtain ⟨b',o',e',hb',hc'⟩:= (hS.kept K) (l1.length+i) (by omega)
      cases e'
      rw [if_neg (by omega)]
      refine ⟨b,o+l1.length,rfl,hb', ?_⟩
      rw [Nat.add_assoc,hc',hll]
      simp [List.getD,List.getElem?_append_right]
     have hdl:l.length - l1.length=l2.length:=by omega
     have hc1:l1.length<=cap:=by omega
     have hc2:l1.length<=l.length:=by omega
     have hb1:l1.length<=100000:=by omega
     have hb2:l2.length<=100000:=by omega
     have HDl:=Kj hdl
     obtain ⟨ic,hi0,hi1,hi2,hi3⟩:=xInfo_parts Tryz.xInfoStr
     have HOE:Hid ((w.alloc (.cells #[] 9)).ownsRow w.heap.size 9 1 (.slice (some ⟨w.heap.size,0,none⟩) 0 0) 0 (([]:List ByteArray).map Value.string)):=World.ownsRow_made w #[] 0 (Nat.le_refl _) (Nat.zero_le _) rfl
     have hzE:w.heap.size<=(w.alloc (.cells #[] 9)).heap.size:=by simp
     have HKE:Hid (K_ w (w.alloc (.cells #[] 9))):= (K_.refl _).alloc _
     clear hll hl2 hdl
     go_upto_region 7 with (at_builtin;refine wpList_append_strs rfl (.tmp 34) (.tmp 37) 25 rfl w.heap.size 9 ic _ 16 Tryz.underlying25 hi0 hi1 hi2 hi3 rfl (.slice (some ⟨w.heap.size,0,none⟩) 0 0) 0 (([]:List ByteArray).map Value.string) rfl HOE.out (some ⟨b,o,none⟩) cap l1 rfl (HS1.out _ HKE.out) (by unfold maxLen;omega) (by omega) hzE ?_;intro v1 w1 ho1 hg1 hv1;rw [Nat.zero_add] at ho1;have HO1:=Kj ho1;have KP1:=kept_of_grown HKE.out (Nat.le_refl _) HOE.out hg1;obtain ⟨av1,cv1,rfl⟩:=own_slice ho1;clear ho1 hg1 hv1)
     refine Z_.region (by kernel_rfl) (fun _=> True) 8 trivial (fun Zz=> ?_)
     have KD:K_ w1 w1.drew:= (K_.refl w1).drew
     generalize hwd:w1.drew=wd at KD⊢
     clear hwd
     refine Z_.tk 0 Zz ?_
     refine Z_.tk 1 Zz ?_
     refine Z_.tk 4 Zz ?_
     refine Z_.tk 5 Zz ?_
     refine Z_.tk 6 Zz ?_
     generalize hgd: (if cap=l1.length then (some ⟨b,o,none⟩:Option Addr) else some ⟨b,o+l1.length,none⟩)=ad2 at HS2⊢
     clear hgd
     refine Z_.nx 2 (fun K hK=> ?_)
     go_simp
     have K5:K_ wd (wd.alloc (.cells #[.string x] 9)):= (K_.refl _).alloc _
     have HNs:Hid (Strs (wd.alloc (.cells #[.string x] 9)) (some ⟨wd.heap.size,0,none⟩) [x]):=fun q hq=> by
      obtain rfl:q=0:=by simpa using hq
      exact ⟨wd.heap.size,0,rfl,by simp,Xq wd #[.string x] 9 0 _ rfl⟩
     refine hK.out _ _ (fun _=> trivial) ?_
     clear hK K Zz
     have K5b:=KD.trans K5
     have HO5:=Kj (ownsRow_kept' HO1.out K5b)
     obtain ⟨eb,heb⟩: ∃eb,eb=wd.heap.size:= ⟨_,rfl⟩
     rw [<-heb] at HNs⊢
     generalize hwe:wd.alloc (.cells #[.string x] 9)=w5 at HNs K5b HO5⊢
     clear hwe K5 heb
     have KP5:=KP1.trans K5b
     have hz5:=KP5.size
     try simp only [Act.put,upA,upB,upC]
     refine Z_.nx 3 (fun K hK=> ?_)
     rw [if_pos (by rfl)]
     refine wp_append_strs (.tmp 39) (.tmp 41) 25 rfl w.heap.size 9 ic _ 16 Tryz.underlying25 hi0 hi1 hi2 hi3 rfl (.slice av1 l1.length cv1) l1.length (([]:List ByteArray).map Value.string++l1.map Value.string) rfl HO5.out (some ⟨eb,0,none⟩) 1 [x] rfl HNs.out (by unfold maxLen;simp;omega) (by simp;omega) hz5 ?_
     intro v6 w6 ho6 hg6 hv6
     have HO6:=Kj ho6
     have KP6:=kept_of_grown KP5 (Nat.le_refl _) HO5.out hg6
     obtain ⟨av6,cv6,rfl⟩:=own_slice ho6
     have hz6:=KP6.size
     refine hK.out _ _ (fun _=> trivial) ?_
     clear hK K ho6 hg6 hv6
     try simp only [Act.put,upA,upB,upC]
     refine Z_.nx 7 (fun K hK=> ?_)
     rw [if_pos (by rfl)]
     refine wp_append_strs (.tmp 42) (.tmp 45) 25 rfl w.heap.size 9 ic _ 16 Tryz.underlying25 hi0 hi1 hi2 hi3 rfl (.slice av6 (l1.length+ [x].length) cv6) (l1.length+ [x].length) ((([]:List ByteArray).map Value.string++l1.map Value.string)++ [x].map Value.string) rfl HO6.out ad2 (cap - l1.length) l2 (by rw [<-HDl.out];rfl) (HS2.out _ KP6) (by unfold maxLen;simp;omega) (by simp;omega) hz6 ?_
     intro v7 w7 ho7 hg7 hv7
     have HO7:=Kj ho7
     have KP7:=kept_of_grown KP6 (Nat.le_refl _) HO6.out hg7
     refine hK.out _ _ (fun _=> trivial) ?_
     clear hK K ho7 hg7 hv7
     try simp only [Act.put,upA,upB,upC]
     refine Z_.nx 8 (fun K hK=> ?_)
     go_simp
     refine hK.out _ _ (fun h=> absurd rfl h) ?_
     clear hK K
     try simp only [Act.put,upA,upB,upC]
     refine Z_.dn ?_
     go_wp2
     go_ret
     have hlen: (l1++x :: l2).length=l1.length+ [x].length+l2.length:=by simp;omega
     have ho:w7.ownsRow w.heap.size 9 1 v7 (l1++x :: l2).length ((l1++x :: l2).map Value.string):=by
      have h:=HO7.out
      rw [hlen]
      have e: (l1++x :: l2).map Value.string= ((([]:List ByteArray).map Value.string++l1.map Value.string)++ [x].map Value.string)++l2.map Value.string:=by simp
      rw [e]
      exact h
     rcases ho.2 with ⟨_,h0⟩ | ⟨g,cap7,cur7,e7,_,_,hn7,_,_,_⟩
     ·simp at h0
     ·obtain ⟨a9,c9,e9,h9⟩:=owned_strs ho
      rw [e7] at e9
      simp only [Value.slice.injEq,true_and] at e9
      rw [<-e9.1] at h9
      exact ⟨g,0,cap7,_,by rw [e7];rfl,hn7,HPt.out,h9,fun B hB _=> by rw [<-e7];exact owns_low ho hB,KP7⟩
    ·have HEq:=Kj (beq_yes heq)
     go_wp2
     go_ret
     exact ⟨b,o,cap,l,rfl,hcl,.inl ⟨by rw [<-HEq.out,<-HY.out];exact List.getElem_mem hlt,rfl⟩,hS,fun _ _ h=> h,K_.refl _⟩
   ·have HLe:=Kj hle
    go_wp2
    go_round
    case rel=>
     refine ⟨k+1,by omega,by go_num,Kj fun z hz=> ?_⟩
     rw [List.take_succ_eq_append_getElem hlt] at hz
     rcases List.mem_append.1 hz with hz | hz
     ·exact HLs.out z hz
     ·rw [List.mem_singleton,HY.out] at hz
      rw [hz];exact HLe.out
    case measure=> simp [intOf];omega
  ·have hke:k=l.length:=by omega
   have HGr:Hid (∀z∈l.drop k,lessX x z):=fun z hz=> by rw [hke,List.drop_length] at hz;cases hz
   have HNo:Hid (x∉l):=fun h=> by
    rw [<-List.take_append_drop k l] at h
    rcases List.mem_append.1 h with h | h
    ·exact lessX_irrefl x (HLs.out x h)
    ·exact lessX_irrefl x (HGr.out x h)
   obtain ⟨l1,l2,hll,hk1⟩: ∃l1 l2,l=l1++l2∧k=l1.length:= ⟨l.take k,l.drop k,(List.take_append_drop k l).symm,by simp;omega⟩
   subst hk1
   have HPt:Hid (PutB l x (l1++x :: l2)):=by
    have e1:l.take l1.length=l1:=by rw [hll];simp
    have e2:l.drop l1.length=l2:=by rw [hll];simp
    refine .inr ⟨HNo.out,l1.length,hk,by rw [e1,e2],HLs.out,HGr.out⟩
   have hl2:l.length=l1.length+l2.length:=by rw [hll,List.length_append]
   have HS1:Hid (∀W,K_ w W->Strs W (some ⟨b,o,none⟩) l1):=fun W K i hi=> by
    obtain ⟨b',o',e',hb',hc'⟩:= (hS.kept K) i (by omega)
    refine ⟨b',o',e',hb', ?_⟩
    rw [hc',hll]
    simp [List.getD,List.getElem?_append_left hi]
   have HS2:Hid (∀W,K_ w W->Strs W (if cap=l1.length then (some ⟨b,o,none⟩:Option Addr) else some ⟨b,o+l1.length,none⟩) l2):=fun W K i hi=> by
    obtain ⟨b',o',e',hb',hc'⟩:= (hS.kept K) (l1.length+i) (by omega)
    cases e'
    rw [if_neg (by omega)]
    refine ⟨b,o+l1.length,rfl,hb', ?_⟩
    rw [Nat.add_assoc,hc',hll]
    simp [List.getD,List.getElem?_append_right]
   have hdl:l.length - l1.length=l2.length:=by omega
   have hc1:l1.length<=cap:=by omega
   have hc2:l1.length<=l.length:=by omega
   have hb1:l1.length<=100000:=by omega
   have hb2:l2.length<=100000:=by omega
   have HDl:=Kj hdl
   obtain ⟨ic,hi0,hi1,hi2,hi3⟩:=xInfo_parts Tryz.xInfoStr
   have HOE:Hid ((w.alloc (.cells #[] 9)).ownsRow w.heap.size 9 1 (.slice (some ⟨w.heap.size,0,none⟩) 0 0) 0 (([]:List ByteArray).map Value.string)):=World.ownsRow_made w #[] 0 (Nat.le_refl _) (Nat.zero_le _) rfl
   have hzE:w.heap.size<=(w.alloc (.cells #[] 9)).heap.size:=by simp
   have HKE:Hid (K_ w (w.alloc (.cells #[] 9))):= (K_.refl _).alloc _
   clear hll hl2 hdl hke
   go_upto_region 7 with (at_builtin;refine wpList_append_strs rfl (.tmp 34) (.tmp 37) 25 rfl w.heap.size 9 ic _ 16 Tryz.underlying25 hi0 hi1 hi2 hi3 rfl (.slice (some ⟨w.heap.size,0,none⟩) 0 0) 0 (([]:List ByteArray).map Value.string) rfl HOE.out (some ⟨b,o,none⟩) cap l1 rfl (HS1.out _ HKE.out) (by unfold maxLen;omega) (by omega) hzE ?_;intro v1 w1 ho1 hg1 hv1;rw [Nat.zero_add] at ho1;have HO1:=Kj ho1;have KP1:=kept_of_grown HKE.out (Nat.le_refl _) HOE.out hg1;obtain ⟨av1,cv1,rfl⟩:=own_slice ho1;clear ho1 hg1 hv1)
   refine Z_.region (by kernel_rfl) (fun _=> True) 8 trivial (fun Zz=> ?_)
   have KD:K_ w1 w1.drew:= (K_.refl w1).drew
   generalize hwd:w1.drew=wd at KD⊢
   clear hwd
   refine Z_.tk 0 Zz ?_
   refine Z_.tk 1 Zz ?_
   refine Z_.tk 4 Zz ?_
   refine Z_.tk 5 Zz ?_
   refine Z_.tk 6 Zz ?_
   generalize hgd: (if cap=l1.length then (some ⟨b,o,none⟩:Option Addr) else some ⟨b,o+l1.length,none⟩)=ad2 at HS2⊢
   clear hgd
   refine Z_.nx 2 (fun K hK=> ?_)
   go_simp
   have K5:K_ wd (wd.alloc (.cells #[.string x] 9)):= (K_.refl _).alloc _
   have HNs:Hid (Strs (wd.alloc (.cells #[.string x] 9)) (some ⟨wd.heap.size,0,none⟩) [x]):=fun q hq=> by
    obtain rfl:q=0:=by simpa using hq
    exact ⟨wd.heap.size,0,rfl,by simp,Xq wd #[.string x] 9 0 _ rfl⟩
   refine hK.out _ _ (fun _=> trivial) ?_
   clear hK K Zz
   have K5b:=KD.trans K5
   have HO5:=Kj (ownsRow_kept' HO1.out K5b)
   obtain ⟨eb,heb⟩: ∃eb,eb=wd.heap.size:= ⟨_,rfl⟩
   rw [<-heb] at HNs⊢
   generalize hwe:wd.alloc (.cells #[.string x] 9)=w5 at HNs K5b HO5⊢
   clear hwe K5 heb
   have KP5:=KP1.trans K5b
   have hz5:=KP5.size
   try simp only [Act.put,upA,upB,upC]
   refine Z_.nx 3 (fun K hK=> ?_)
   rw [if_pos (by rfl)]
   refine wp_append_strs (.tmp 39) (.tmp 41) 25 rfl w.heap.size 9 ic _ 16 Tryz.underlying25 hi0 hi1 hi2 hi3 rfl (.slice av1 l1.length cv1) l1.length (([]:List ByteArray).map Value.string++l1.map Value.string) rfl HO5.out (some ⟨eb,0,none⟩) 1 [x] rfl HNs.out (by unfold maxLen;simp;omega) (by simp;omega) hz5 ?_
   intro v6 w6 ho6 hg6 hv6
   have HO6:=Kj ho6
   have KP6:=kept_of_grown KP5 (Nat.le_refl _) HO5.out hg6
   obtain ⟨av6,cv6,rfl⟩:=own_slice ho6
   have hz6:=KP6.size
   refine hK.out _ _ (fun _=> trivial) ?_
   clear hK K ho6 hg6 hv6
   try simp only [Act.put,upA,upB,upC]
   refine Z_.nx 7 (fun K hK=> ?_)
   rw [if_pos (by rfl)]
   refine wp_append_strs (.tmp 42) (.tmp 45) 25 rfl w.heap.size 9 ic _ 16 Tryz.underlying25 hi0 hi1 hi2 hi3 rfl (.slice av6 (l1.length+ [x].length) cv6) (l1.length+ [x].length) ((([]:List ByteArray).map Value.string++l1.map Value.string)++ [x].map Value.string) rfl HO6.out ad2 (cap - l1.length) l2 (by rw [<-HDl.out];rfl) (HS2.out _ KP6) (by unfold maxLen;simp;omega) (by simp;omega) hz6 ?_
   intro v7 w7 ho7 hg7 hv7
   have HO7:=Kj ho7
   have KP7:=kept_of_grown KP6 (Nat.le_refl _) HO6.out hg7
   refine hK.out _ _ (fun _=> trivial) ?_
   clear hK K ho7 hg7 hv7
   try simp only [Act.put,upA,upB,upC]
   refine Z_.nx 8 (fun K hK=> ?_)
   go_simp
   refine hK.out _ _ (fun h=> absurd rfl h) ?_
   clear hK K
   try simp only [Act.put,upA,upB,upC]
   refine Z_.dn ?_
   go_wp2
   go_ret
   have hlen: (l1++x :: l2).length=l1.length+ [x].length+l2.length:=by simp;omega
   have ho:w7.ownsRow w.heap.size 9 1 v7 (l1++x :: l2).length ((l1++x :: l2).map Value.string):=by
    have h:=HO7.out
    rw [hlen]
    have e: (l1++x :: l2).map Value.string= ((([]:List ByteArray).map Value.string++l1.map Value.string)++ [x].map Value.string)++l2.map Value.string:=by simp
    rw [e]
    exact h
   rcases ho.2 with ⟨_,h0⟩ | ⟨g,cap7,cur7,e7,_,_,hn7,_,_,_⟩
   ·simp at h0
   ·obtain ⟨a9,c9,e9,h9⟩:=owned_strs ho
    rw [e7] at e9
    simp only [Value.slice.injEq,true_and] at e9
    rw [<-e9.1] at h9
    exact ⟨g,0,cap7,_,by rw [e7];rfl,hn7,HPt.out,h9,fun B hB _=> by rw [<-e7];exact owns_low ho hB,KP7⟩
theorem WaitL.nil {W:Acts} {σ:Env} {n:ByteArray} (h: ∀s,¬WaitsX W σ n s):WaitL W σ n []:= ⟨List.Pairwise.nil,fun s=> ⟨fun e=> (by cases e),fun e=> (h s e).elim⟩⟩
def WaitsOwn (Kk:List Qj) (sl:List Qq) (name:ByteArray) (w w':World) (e:Ending):Prop:=
 ∃(b o c:Nat) (ns:List ByteArray),e= .returned (.slice (some ⟨b,o,none⟩) ns.length c)∧ns.length<=c∧Strs w' (some ⟨b,o,none⟩) ns∧WaitL (Qz Kk) (Qk sl) name ns∧w'.ownsRow w.heap.size 9 1 (.slice (some ⟨b,o,none⟩) ns.length c) ns.length (ns.map Value.string)
def WaitsSaid (Kk:List Qj) (sl:List Qq) (name:ByteArray) (w':World) (e:Ending):Prop:=
 ∃(b o c:Nat) (ns:List ByteArray),e= .returned (.slice (some ⟨b,o,none⟩) ns.length c)∧ns.length<=c∧Strs w' (some ⟨b,o,none⟩) ns∧WaitL (Qz Kk) (Qk sl) name ns
theorem l6Waits_own (w:World) (a:Option Addr) (cap:Nat) (Kk:List Qj) (ra:Option Addr) (rn rc:Nat) (d:Option Addr) (dc:Nat) (sl:List Qq) (name:ByteArray) (hwl:Kk.length<=1048576) (hsl:sl.length<=1048576) (hok:ActsOk (Qz Kk)) (hg:GoodL Kk sl) (hN:Nodes w a Kk) (hS:RunsX w d sl):
  Calls Tryz.prog 89 #[.agg #[.slice a Kk.length cap],.agg #[.slice ra rn rc,.slice d sl.length dc],.string name] w fun e w'=> WaitsOwn Kk sl name w w' e∧K_ w w':=by
 obtain ⟨WB,hWB⟩: ∃WB,WB= (w.alloc (.cells #[.slice a Kk.length cap] 37)).alloc (.cells #[.slice ra rn rc,.slice d sl.length dc] 41):= ⟨_,rfl⟩
 have kB:K_ w WB:=by rw [hWB];exact ((K_.refl _).alloc _).alloc _
 have hBs:WB.heap.size=w.heap.size+2:=by rw [hWB];simp
 have b0:WB.cell? ⟨w.heap.size,0,none⟩=some (.slice a Kk.length cap):=by rw [hWB,K_.cell (w:=w.alloc (.cells #[.slice a Kk.length cap] 37)) ((K_.refl _).alloc _) (by simp)];exact Xq w _ _ 0 _ rfl
 have s0:WB.cell? ⟨w.heap.size+1,0,none⟩=some (.slice ra rn rc):=by have:=Xq (w.alloc (.cells #[.slice a Kk.length cap] 37)) #[.slice ra rn rc,.slice d sl.length dc] 41 0 _ rfl;rw [World.size_alloc] at this;rw [hWB];exact this
 have s1:WB.cell? ⟨w.heap.size+1,1,none⟩=some (.slice d sl.length dc):=by have:=Xq (w.alloc (.cells #[.slice a Kk.length cap] 37)) #[.slice ra rn rc,.slice d sl.length dc] 41 1 _ rfl;rw [World.size_alloc] at this;rw [hWB];exact this
 have z0:w.heap.size < WB.heap.size:=by omega
 have z1:w.heap.size+1 < WB.heap.size:=by omega
 have HC:Hid (∀w',K_ WB w'->w'.cell? ⟨w.heap.size,0,none⟩=some (.slice a Kk.length cap)∧w'.cell? ⟨w.heap.size+1,0,none⟩=some (.slice ra rn rc)∧w'.cell? ⟨w.heap.size+1,1,none⟩=some (.slice d sl.length dc)∧w.heap.size < w'.heap.size∧w.heap.size+1 < w'.heap.size):=fun w' K=> ⟨(K.cell z0).trans b0,(K.cell z1).trans s0,(K.cell z1).trans s1,Nat.lt_of_lt_of_le z0 K.size,Nat.lt_of_lt_of_le z1 K.size⟩
 have kE:K_ WB (WB.alloc (.cells #[] 9)):= (K_.refl _).alloc _
 have HOE:Hid (∀u,K_ (WB.alloc (.cells #[] 9)) u->u.ownsRow w.heap.size 9 1 (.slice (some ⟨WB.heap.size,0,none⟩) 0 0) 0 (([]:List ByteArray).map Value.string)):=fun u k=> ownsRow_kept' (owns_low (World.ownsRow_made WB #[] 0 (Nat.le_refl _) (Nat.zero_le _) rfl) kB.size) k
 have HKB:=Kj kB
 have HGd:=Kj hg
 clear kB hBs b0 s0 s1 hg
 go_enter Tryz.func89,Tryz.ntmps89
 go_upto_region 1 with fail
 rw [<-hWB]
 clear hWB
 go_upto_region 2 with fail
 obtain ⟨WE,hWE⟩: ∃WE,WE=WB.alloc (.cells #[] 9):= ⟨_,rfl⟩
 rw [<-hWE] at kE HOE⊢
 clear hWE
 obtain ⟨b0,s0,s1,y0,y1⟩:=HC.out _ kE
 go_wp2_with fail
 refine (l4At_place WE ra rn rc d dc sl name hsl (hS.kept (HKB.out.trans kE))).mono ?_
 rintro e w1 ⟨⟨p,rfl,hp⟩,k1⟩
 have K1:=kE.trans k1
 have HO1:=Kj (HOE.out _ k1)
 clear b0 s0 s1 y0 y1 k1 kE HOE
 obtain ⟨b0,s0,s1,y0,y1⟩:=HC.out _ K1
 rcases hp with ⟨k,hk,rfl,henv,hkn⟩ | ⟨rfl,henv⟩
 rotate_left
 ·have HEn:=Kj henv
  clear henv
  go_wp2_with fail
  go_ret
  exact ⟨⟨WB.heap.size,0,0,[],rfl,Nat.le_refl _,(fun i hi=> by cases hi),(WaitL.nil fun s h=> by obtain ⟨r,_,hr,_⟩:=h;rw [HEn.out] at hr;cases hr),HO1.out⟩,HKB.out.trans K1⟩
 obtain ⟨r,hr⟩: ∃r,r=sl.getD k Qq.zero:= ⟨_,rfl⟩
 rw [<-hr] at henv hkn
 obtain ⟨rb,ro,xa,xc,e1,hrb,hrc,_,_⟩:= (hS.kept (HKB.out.trans K1)) k hk
 rw [<-hr] at hrc
 subst e1
 have t1:=hrc 1 _ rfl
 have t4:=hrc 4 _ rfl
 have t5:=hrc 5 _ rfl
 have hki: (k:Int) < (sl.length:Int):=by omega
 have HEn:=Kj henv
 clear henv hrc hr
 by_cases hov:r.over=true∨r.Zk=0
 ·have HOv:=Kj hov
  have HFin:Hid (WaitL (Qz Kk) (Qk sl) name []):=WaitL.nil fun s h=> by
   obtain ⟨r',_,hr',h1,h2,_⟩:=h
   rw [HEn.out] at hr'
   cases hr'
   rcases HOv.out with h3 | h3
   ·rw [h1] at h3;cases h3
   ·exact h2 h3
  have hcs:r.over=true∨(r.over=false∧r.Zk=0):=by
   rcases hov with h | h
   ·exact .inl h
   ·cases h1:r.over
    ·exact .inr ⟨rfl,h⟩
    ·exact .inl rfl
  clear hov
  rcases hcs with h | ⟨h,h2⟩
  ·rw [h] at t1
   go_wp2_with fail
   go_ret
   exact ⟨⟨WB.heap.size,0,0,[],rfl,Nat.le_refl _,(fun i hi=> by cases hi),HFin.out,HO1.out⟩,HKB.out.trans K1⟩
  ·rw [h] at t1
   rw [h2] at t5
   go_wp2_with fail
   go_ret
   exact ⟨⟨WB.heap.size,0,0,[],rfl,Nat.le_refl _,(fun i hi=> by cases hi),HFin.out,HO1.out⟩,HKB.out.trans K1⟩
 have ho:r.over=false:=by
  cases h1:r.over
  ·rfl
  ·exact absurd (.inl h1) hov
 have hv:r.Zk≠0:=fun e=> hov (.inr e)
 have hvb: (r.Zk == 0)=false:=by simpa using hv
 obtain ⟨A,hA,ha0,ha1⟩:= (HGd.out.good r (env_mem HEn.out).1).act
 rw [hkn] at hA
 obtain ⟨j,hj,hjn,hjf,rfl⟩:=acts_first hA
 obtain ⟨y,hy⟩: ∃y,y=Kk.getD j Qj.zero:= ⟨_,rfl⟩
 rw [<-hy] at hA ha1
 dsimp only at ha1
 obtain ⟨nb,nq,cs,e2,hnb0,hcs,na,nc,rfl,hSt⟩:=hN j hj
 subst e2
 rw [<-hy] at hcs hSt
 obtain ⟨ix,hix⟩: ∃ix:Nat,r.at'= (ix:Int):= ⟨r.at'.toNat,by omega⟩
 have hixl:ix < y.steps.length:=by omega
 obtain ⟨tb,tq,cs2,e3,htb,hcs2,aa,ca,ac,cc,rfl,hAs,_,_⟩:=hSt ix hixl
 subst e3
 obtain ⟨s,hs⟩: ∃s,s=y.steps.getD ix Xk.zero:= ⟨_,rfl⟩
 rw [<-hs] at hcs2 hAs
 have n2:=hcs 2 _ rfl
 have m0:=hcs2 0 _ rfl
 rw [Nat.add_zero] at m0
 have HStep:Hid (stepOf ⟨y.cost,y.steps⟩ r.at'=s):=by show _=_;unfold stepOf;rw [hix,hs];rfl
 have hal:s.asks.length<=5:=by have h:= (asks_ok (hok _ _ hA).1 ha0 ha1).1;rw [HStep.out] at h;exact h
 have HKn:=Kj hjn
 have HKf:=Kj hjf
 have HAct:=Kj hA
 have HVis:=Kj hv
 have HOv:=Kj ho
 have hji: (j:Int) < (Kk.length:Int):=by omega
 have hii: (ix:Int) < (y.steps.length:Int):=by omega
 rw [hix] at t4
 rw [ho] at t1
 have KN:=HKB.out.trans K1
 have HS5:Hid (∀w',K_ w1 w'->w'.cell? ⟨w.heap.size,0,none⟩=some (.slice (some ⟨nb,nq,none⟩) Kk.length cap)∧w'.cell? ⟨w.heap.size+1,1,none⟩=some (.slice (some ⟨rb,ro,none⟩) sl.length dc)∧w'.cell? ⟨rb,ro+k * 7+4,none⟩=some (.int .i64 (ix:Int))∧w'.cell? ⟨nb,nq+j * 3+2,none⟩=some (.slice (some ⟨tb,tq,none⟩) y.steps.length nc)∧w'.cell? ⟨tb,tq+ix * 8,none⟩=some (.slice aa s.asks.length ca)):=fun w' K=> ⟨(HC.out w' (K1.trans K)).1,(HC.out w' (K1.trans K)).2.2.1,(K.cell hrb).trans t4,((KN.trans K).cell hnb0).trans n2,((KN.trans K).cell htb).trans m0⟩
 have HN1:=Kj (hN.kept KN)
 have HAs:=Kj hAs
 clear hov hA hy hcs hSt hcs2 hAs hs hix ha0 ha1 hv ho hjn hjf n2 m0 hkn
 go_upto_region 5 with fail
 clear t1 t4 t5 hvb b0 s0 s1 y0 y1
 refine Z_.rg 18 HS5.out fun wd KD Zz=> ?_
 refine Z_.tk 0 Zz ?_
 refine Z_.tk 1 Zz ?_
 refine Z_.tk 2 Zz ?_
 refine Z_.tk 3 Zz ?_
 refine Z_.tk 9 Zz ?_
 refine Z_.tk 10 Zz ?_
 refine Z_.tk 11 Zz ?_
 refine Z_.tk 12 Zz ?_
 refine Z_.tk 13 Zz ?_
 refine Z_.tk 14 Zz ?_
 refine Z_.nx 4 (fun K hK=> ?_)
 rw [if_pos (by rfl)]
 go_simp
 go_at_call 44
 refine (l2At_place wd (some ⟨nb,nq,none⟩) cap Kk name hwl (HN1.out.kept KD)).mono ?_
 rintro e w2 ⟨⟨q,rfl,hq⟩,k2⟩
 have K2:=KD.trans k2
 obtain rfl:q= (j:Int):=by
  rcases hq with ⟨k',_,e',_,h1,h2⟩ | ⟨_,h1⟩
  ·rw [e',first_unique HKn.out HKf.out h1 h2]
  ·rw [HAct.out] at h1;cases h1
 clear hq
 dsimp only
 refine hK.out _ _ (fun _=> HS5.out _ K2) ?_
 clear hK K
 try simp only [Act.put,upA,upB,upC]
 clear Zz
 have Zz:=HS5.out _ K2
 refine Z_.tk 5 Zz ?_
 refine Z_.tk 6 Zz ?_
 refine Z_.tk 7 Zz ?_
 refine Z_.tk 8 Zz ?_
 refine Z_.tk 15 Zz ?_
 refine Z_.tk 16 Zz ?_
 refine Z_.tk 17 Zz ?_
 refine Z_.nx 18 (fun K hK=> ?_)
 go_simp
 refine hK.out _ _ (fun h=> absurd rfl h) ?_
 clear hK K
 try simp only [Act.put,upA,upB,upC]
 refine Z_.dn ?_
 clear Zz
 have K2':=K1.trans K2
 have HAs2:Hid (∀W,K_ w2 W->Strs W aa s.asks):=fun W K=> HAs.out.kept (KN.trans (K2.trans K))
 have HE2:Hid (Strs w2 (some ⟨WB.heap.size,0,none⟩) []):=fun i hi=> by cases hi
 go_wp2_with fail
 go_loopg [7,10] s.asks.length (fun gg x7 x10 wr=> ∃(i b o c:Nat) (ns:List ByteArray),x10= .int .i64 (i:Int)∧i+gg=s.asks.length∧x7= .slice (some ⟨b,o,none⟩) ns.length c∧ns.length<=c∧ns.length<=i∧Hid (AscB ns)∧Hid (∀z,z∈ns↔z∈s.asks.take i∧OpenN (Qk sl) z)∧Hid (Strs wr (some ⟨b,o,none⟩) ns)∧Hid (wr.ownsRow w.heap.size 9 1 (.slice (some ⟨b,o,none⟩) ns.length c) ns.length (ns.map Value.string))∧K_ w2 wr)
 case atStart=> exact ⟨0,WB.heap.size,0,0,[],rfl,by omega,rfl,Nat.le_refl _,Nat.le_refl _,Kj List.Pairwise.nil,Kj (fun z=> by simp),HE2,Kj (ownsRow_kept' HO1.out K2),K_.refl _⟩
 case round=>
  clear HE2 HS5
  obtain ⟨i,b,o,c,ns,rfl,hig,rfl,hnc,hni,HAsc,HMem,HNs,HOr,Kw⟩:=hrel
  have Kr:=K2'.trans Kw
  by_cases hlt:i < s.asks.length
  ·obtain ⟨ab,ao,rfl,hab,hac⟩:= (HAs2.out wr Kw) i hlt
   obtain ⟨x,hx⟩: ∃x,x=s.asks.getD i ByteArray.empty:= ⟨_,rfl⟩
   rw [<-hx] at hac
   have hxg:s.asks[i]=x:=by rw [hx];simp [List.getD,hlt]
   have HXg:=Kj hxg
   have hilt: (i:Int) < (s.asks.length:Int):=by omega
   have HS9:Hid (∀w',K_ wr w'->w'.cell? ⟨w.heap.size+1,0,none⟩=some (.slice ra rn rc)∧w'.cell? ⟨w.heap.size+1,1,none⟩=some (.slice (some ⟨rb,ro,none⟩) sl.length dc)∧w'.cell? ⟨ab,ao+i,none⟩=some (.string x)):=fun w' K=> ⟨(HC.out w' (Kr.trans K)).2.1,(HC.out w' (Kr.trans K)).2.2.1,(K.cell hab).trans hac⟩
   obtain ⟨_,c1,c2,y0,y1⟩:=HC.out wr Kr
   clear hx hxg
   go_upto_region 9 with fail
   clear c1 c2 hac
   refine Z_.rg 6 HS9.out fun wd KD Zz=> ?_
   refine Z_.tk 0 Zz ?_
   refine Z_.tk 1 Zz ?_
   refine Z_.tk 2 Zz ?_
   refine Z_.tk 3 Zz ?_
   refine Z_.tk 4 Zz ?_
   refine Z_.nx 5 (fun K hK=> ?_)
   rw [if_pos (by rfl)]
   go_simp
   go_at_call 58
   refine (l4At_place wd ra rn rc (some ⟨rb,ro,none⟩) dc sl x hsl (hS.kept (HKB.out.trans (Kr.trans KD)))).mono ?_
   rintro e w3 ⟨⟨q,rfl,hq⟩,k3⟩
   have K3:=KD.trans k3
   refine hK.out _ _ (fun _=> HS9.out _ K3) ?_
   clear hK K Zz
   try simp only [Act.put,upA,upB,upC]
   refine Z_.nx 6 (fun K hK=> ?_)
   go_simp
   refine hK.out _ _ (fun h=> absurd rfl h) ?_
   clear hK K
   try simp only [Act.put,upA,upB,upC]
   refine Z_.dn ?_
   obtain ⟨c0,c1,c2,y0,y1⟩:=HC.out w3 (Kr.trans K3)
   have hac:= (HS9.out _ K3).2.2
   have hab3:ab < w3.heap.size:=Nat.lt_of_lt_of_le hab K3.size
   have HNs3:=Kj (HNs.out.kept K3)
   have HOr3:=Kj (ownsRow_kept' HOr.out K3)
   have HWz:Hid (w.heap.size<=w3.heap.size):= (HKB.out.trans (Kr.trans K3)).size
   have hopen: ∀z,z∈s.asks.take (i+1)↔z∈s.asks.take i∨z=x:=fun z=> by rw [List.take_succ_eq_append_getElem hlt,HXg.out];simp
   have HOpn:=Kj hopen
   clear hopen k3
   rcases hq with ⟨k',hk',rfl,henv',_⟩ | ⟨rfl,henv'⟩
   ·obtain ⟨r',hr'⟩: ∃r',r'=sl.getD k' Qq.zero:= ⟨_,rfl⟩
    rw [<-hr'] at henv'
    obtain ⟨rb',ro',xa',xc',e4,hrb',hrc',_,_⟩:= (hS.kept (HKB.out.trans (Kr.trans K3))) k' hk'
    cases e4
    rw [<-hr'] at hrc'
    have t1:=hrc' 1 _ rfl
    have hki': (k':Int) < (sl.length:Int):=by omega
    have hk0: ¬((k':Int) < 0):=by omega
    have HEn':=Kj henv'
    clear henv' hrc' hr'
    cases hov':r'.over
    ·rw [hov'] at t1
     have HOv':=Kj hov'
     clear hov'
     go_wp2_with fail
     refine (l6Put_own w3 b o c ns x (by omega) hnc HAsc.out HNs3.out).mono ?_
     rintro e w4 ⟨b4,o4,c4,r4,rfl,hc4,hp4,hs4,hy4,k4⟩
     have HO4:=Kj (hy4 _ HWz.out HOr3.out)
     obtain ⟨ha4,hm4⟩:=hp4.asc HAsc.out
     have hl4:r4.length<=ns.length+1:=by
      rcases hp4 with ⟨_,rfl⟩ | ⟨_,q,hq,rfl,_,_⟩
      ·omega
      ·simp;omega
     have HA4:=Kj ha4
     have HM4:=Kj hm4
     have HS4:=Kj hs4
     have K4:=Kw.trans (K3.trans k4)
     clear ha4 hm4 hs4 hp4 hy4
     go_wp2_with fail
     go_roundg (gk - 1)
     case measure=> omega
     case rel=> exact ⟨i+1,b4,o4,c4,r4,by go_num,by omega,rfl,hc4,by omega,HA4,Kj (fun z=> by
      rw [HM4.out,HMem.out,HOpn.out]
      constructor
      ·rintro (⟨h1,h2⟩ | rfl)
       ·exact ⟨.inl h1,h2⟩
       ·exact ⟨.inr rfl,_,HEn'.out,HOv'.out⟩
      ·rintro ⟨h1 | rfl,h2⟩
       ·exact .inl ⟨h1,h2⟩
       ·exact .inr rfl),HS4,HO4,K4⟩
    ·rw [hov'] at t1
     have HOv':=Kj hov'
     clear hov'
     go_wp2_with fail
     go_roundg (gk - 1)
     case measure=> omega
     case rel=> exact ⟨i+1,b,o,c,ns,by go_num,by omega,rfl,hnc,by omega,HAsc,Kj (fun z=> by
      rw [HMem.out,HOpn.out]
      constructor
      ·rintro ⟨h1,h2⟩
       exact ⟨.inl h1,h2⟩
      ·rintro ⟨h1 | rfl,h2⟩
       ·exact ⟨h1,h2⟩
       ·obtain ⟨q,h3,h4⟩:=h2
        rw [HEn'.out] at h3
        cases h3
        rw [HOv'.out] at h4
        cases h4),HNs3,HOr3,Kw.trans K3⟩
   ·have HEn':=Kj henv'
    clear henv'
    go_wp2_with fail
    go_roundg (gk - 1)
    case measure=> omega
    case rel=> exact ⟨i+1,b,o,c,ns,by go_num,by omega,rfl,hnc,by omega,HAsc,Kj (fun z=> by
     rw [HMem.out,HOpn.out]
     constructor
     ·rintro ⟨h1,h2⟩
      exact ⟨.inl h1,h2⟩
     ·rintro ⟨h1 | rfl,h2⟩
      ·exact ⟨h1,h2⟩
      ·obtain ⟨q,h3,h4⟩:=h2
       rw [HEn'.out] at h3
       cases h3),HNs3,HOr3,Kw.trans K3⟩
  ·have hie:s.asks.take i=s.asks:=List.take_of_length_le (by omega)
   have HIe:=Kj hie
   clear hie
   go_wp2_with fail
   go_ret
   refine ⟨⟨b,o,c,ns,rfl,hnc,HNs.out,⟨HAsc.out,fun z=> ?_⟩,HOr.out⟩,HKB.out.trans Kr⟩
   rw [HMem.out,HIe.out]
   constructor
   ·rintro ⟨h1,h2⟩
    exact ⟨r,_,HEn.out,HOv.out,HVis.out,HAct.out,by rw [HStep.out];exact h1,h2⟩
   ·rintro ⟨r',A',hr',_,_,hA',h1,h2⟩
    rw [HEn.out] at hr'
    cases hr'
    rw [HAct.out] at hA'
    cases hA'
    rw [HStep.out] at h1
    exact ⟨h1,h2⟩
theorem l6Waits_any (w:World) (a:Option Addr) (cap:Nat) (Kk:List Qj) (ra:Option Addr) (rn rc:Nat) (d:Option Addr) (dc:Nat) (sl:List Qq) (name:ByteArray) (hwl:Kk.length<=1048576) (hsl:sl.length<=1048576) (hok:ActsOk (Qz Kk)) (hg:GoodL Kk sl) (hN:Nodes w a Kk) (hS:RunsX w d sl):
  Calls Tryz.prog 89 #[.agg #[.slice a Kk.length cap],.agg #[.slice ra rn rc,.slice d sl.length dc],.string name] w fun e w'=> WaitsSaid Kk sl name w' e∧K_ w w':=
 (l6Waits_own w a cap Kk ra rn rc d dc sl name hwl hsl hok hg hN hS).mono fun _e _w' ⟨⟨b,o,c,ns,h1,h2,h3,h4,_⟩,h5⟩=> ⟨⟨b,o,c,ns,h1,h2,h3,h4⟩,h5⟩
