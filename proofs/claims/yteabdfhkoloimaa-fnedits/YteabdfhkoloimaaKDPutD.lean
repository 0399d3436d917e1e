import Derived.Test.YteabdfhkoloimaaKDFinW
import Derived.Test.YteabdfhkoloimaaKDRing
import Derived.Test.YteabdfhkoloimaaKDWide
set_option maxRecDepth 100000
set_option maxHeartbeats 25600000
namespace Go.Proofs.Yteabdfhkoloimaa
open Go.RowKit
def SpoiltW (M N:Nat) (A0 wx:World) (rb wb res:Nat) (a:Option Addr) (cap:Nat) (bs:List UInt8) (p t:Nat):Prop:=
 ∃(va:Option Addr) (vc:Nat) (L:List Q_) (p':Nat),p<=p'∧p'<=p+t∧L.length<=N∧RowT wx res 25 1∧FinW M A0 wx rb wb a cap bs p' (.slice va L.length vc) L
theorem bytes_two {P:Program} (w:World) (t u v:TypeId) (ht:P.underlying t=some (.slice u)) (hu:P.underlying u=some (.int .u8)) (hv:P.underlying v=some .string) (x y:Int):
  (convert t v (.slice (some ⟨w.heap.size,0,none⟩) 2 2)).run P (w.alloc (.cells #[.int .u8 x,.int .u8 y] u))= .ok (.string (strOfNums [x,y])) (w.alloc (.cells #[.int .u8 x,.int .u8 y] u)):=
 run_convert_bytes_arg (P:=P) _ t u ht hu w.heap.size 0 2 2 [x,y] rfl (fun i hi=> by
  match i,hi with
  | 0,_=> rw [World.cell?_alloc_mark];rfl
  | 1,_=> rw [World.cell?_alloc_mark];rfl
  | i+2,hi=> exact absurd hi (by omega)) v hv
theorem endRow_steps (w:World):GSteps (w.alloc (.cells #[.slice none 0 0,.int .i64 0,.slice none 0 0,.int .i64 0,.int .i64 0,.bool true,.bool false,.string ⟨#[]⟩] 68)) (.slice (some ⟨w.heap.size,0,none⟩) 1 1) [endStep ⟨#[]⟩]:=by
 have hr:=Zx w #[.slice none 0 0,.int .i64 0,.slice none 0 0,.int .i64 0,.int .i64 0,.bool true,.bool false,.string ⟨#[]⟩] 68
 refine ⟨_,1,rfl,Nat.le_refl _,fun i hi=> ?_⟩
 obtain rfl:i=0:=by simpa using hi
 exact ⟨w.heap.size,0,_,_,(endStep ⟨#[]⟩).cells none 0 none 0,rfl,heap_alloc_new w _,hr,(endStep_t _ _).g,endStep_nil _⟩
theorem act_one (x:Int) (a:Option Addr) (n c:Nat): (#[.int .i64 x,.slice a n c]:Array Value).all (·.oneCell')=true:=by simp [Value.oneCell']
theorem nod_one (s:ByteArray) (x:Int) (a:Option Addr) (n c:Nat): (#[.string s,.int .i64 x,.slice a n c]:Array Value).all (·.oneCell')=true:=by simp [Value.oneCell']
theorem spoilW_any (mN:Nat) (hmN:mN<=900) (w:World) (rb:Nat) (a:Option Addr) (cap:Nat) (bs:List UInt8) (p:Nat) (a0:Option Addr) (cap0:Nat) (l:List Q_) (hR:Rd w rb a cap bs p) (hp:p<=700000) (hbl:bs.length<=2000) (hl:l.length<=200) (hty: ∀d∈l,d.TinyN mN) (hG:GNodes w (.slice a0 l.length cap0) l):
  Calls Try.prog 16 #[.pointer (some ⟨rb,0,none⟩),.agg #[.slice a0 l.length cap0]] w fun e w'=> DrewWeb (mN+10) (l.length+62) w w' rb a cap bs p 20 e:=by
 obtain ⟨A0,hA0⟩: ∃A0,A0= (w.alloc (.cells #[.slice a0 l.length cap0] 25)).alloc (.cells #[.slice none 0 0] 25):= ⟨_,rfl⟩
 have k0:K_ w A0:=by rw [hA0];exact ((K_.refl _).alloc _).alloc _
 have hA0s:A0.heap.size=w.heap.size+2:=by rw [hA0];simp
 have HRes0:Hid (RowT A0 (w.heap.size+1) 25 1):=by
  rw [hA0]
  have:=RowT.made (w.alloc (.cells #[.slice a0 l.length cap0] 25)) #[.slice none 0 0] 25
  rw [World.size_alloc] at this
  exact this
 have hrb:=hR.row.lt
 have HR0:=Kz hR
 have HRA:=Kz (hR.kept k0)
 have HGA:=Kz (hG.kept k0)
 clear hR hG
 go_enter Try.func16,Try.ntmps16
 go_upto_region 1 with fail
 rw [<-hA0]
 have HA0s:=Kz hA0s
 have b0:A0.cell? ⟨w.heap.size,0,none⟩=some (.slice a0 l.length cap0):=by
  rw [hA0,K_.cell (w:=w.alloc (.cells #[.slice a0 l.length cap0] 25)) ((K_.refl _).alloc _) (by simp)]
  exact Zx w _ _ 0 _ rfl
 have bz:w.heap.size < A0.heap.size:=by omega
 clear hA0 hA0s
 go_wp2_with fail
 refine (withoutG_any _ a0 cap0 l ⟨#[]⟩ (mN:=mN) (by omega) (by omega) hty HGA.out.nodesG).mono ?_
 rintro e w1 ⟨av,cv,xs,base,rfl,hba,hO,hP,k1⟩
 obtain ⟨L,hL⟩: ∃L,L=l.filter (otherN (⟨#[]⟩:ByteArray).toList):= ⟨_,rfl⟩
 rw [<-hL] at hO hP⊢
 have hLl:L.length<=200:=by rw [hL];exact Nat.le_trans (List.length_filter_le _ _) hl
 have hLl2:L.length<=l.length:=by rw [hL];exact List.length_filter_le _ _
 have hLt: ∀d∈L,d.TinyN mN:=fun d hd=> hty d (by rw [hL] at hd;exact (List.mem_filter.1 hd).1)
 have kw:K_ w1 (w1.alloc (.cells #[.slice av L.length cv] 25)):= (K_.refl _).alloc _
 have HW1:Hid (WStN mN A0 (w1.alloc (.cells #[.slice av L.length cv] 25)) rb w1.heap.size a cap bs p (.slice av L.length cv) L xs):=
  ⟨(HRA.out.kept k1).kept kw,⟨p,HRA.out⟩,k1.size,.of_kept (k1.trans kw),RowT.made w1 _ _,Zx w1 _ _ 0 _ rfl,owns_base (ownsRow_kept' hO kw) hba,hP.same (u:=25) (.of_kept kw) (by decide) (by decide) (by decide),hLt⟩
 have HRes1:=Kz ((HRes0.out.kept k1).kept kw)
 have hob:w.heap.size+1≠w1.heap.size:=by have:= (HRes0.out.kept k1).lt;omega
 clear hL hO hP hLt k1 kw b0 bz hba
 go_upto_region 2 with fail
 obtain ⟨w2,hw2⟩: ∃w2,w2=w1.alloc (.cells #[.slice av L.length cv] 25):= ⟨_,rfl⟩
 rw [<-hw2] at HW1 HRes1⊢
 clear hw2
 have y0:=HW1.out.c0
 have zb:=HW1.out.row.lt
 by_cases hL0:L.length=0
 ·have eL0: ((L.length:Int) == 0)=true:=by simp [hL0]
  clear hL0
  obtain ⟨⟨_,x0⟩,g0⟩:=HRes1.out.row.at (i:=0) (by omega)
  have xz:=HRes1.out.lt
  go_wp2
  have hR:=World.rangeAt_setCells_same w2 (w.heap.size+1) 0 [.slice av L.length cv] (HRes1.out.row.there (o:=0) (m:=1) (Nat.le_refl _))
  exact Zk [.slice av L.length cv] _ Try.results16 rfl hR Try.underlying25 rfl Try.sizeWebW rfl ((HW1.out.fin.mono (n:=mN+10) (by omega)).ends HRes1.out (by omega) k0 HR0.out rfl (Nat.le_refl _) (by omega) (by omega))
 have eL0: ((L.length:Int) == 0)=false:=by simpa using hL0
 have hLp:0 < L.length:=by omega
 obtain ⟨g,gc,ev,hgb,hgr,hgc⟩:=HW1.out.rowG hLp
 simp only [Value.slice.injEq,true_and] at ev
 obtain ⟨rfl,rfl⟩:=ev
 clear hL0 hgr
 go_wp2_with fail
 refine (pick_any _ rb a cap bs p L.length HW1.out.rd (by omega) (by omega) hbl).mono ?_
 rintro e w3 ⟨k,rfl,hk,hR3,kb3⟩
 have HW3:=Kz (HW1.out.drawn hR3 kb3)
 have HRes3:=Kz (HRes1.out.but kb3 (by omega))
 have hkL:k < L.length:=by omega
 clear hR3 kb3 HW1 HRes1 y0 zb eL0
 go_wp2_with fail
 refine (pick_at _ rb a cap bs (p+1) _ 5 rfl HW3.out.rd (by omega) (by omega) hbl).mono ?_
 rintro e w4 ⟨v4,rfl,hv4,hR4,kb4⟩
 have HW4:=Kz (HW3.out.drawn hR4 kb4)
 have HRes4:=Kz (HRes3.out.but kb4 (by omega))
 clear hR4 kb4 HW3 HRes3
 have HRow4:Hid (RowT w4 g 30 (cv * 3)):=by
  obtain ⟨g',c',ev,_,hgr,_⟩:=HW4.out.rowG hLp
  simp only [Value.slice.injEq,true_and,Option.some.injEq,Addr.mk.injEq,and_true] at ev
  obtain ⟨rfl,rfl⟩:=ev
  exact hgr
 go_upto_block 0 with fail
 go_cut [7,8,9] from 24 to 115 (fun _ _ _ wx=> SpoiltW (mN+10) (l.length+62) A0 wx rb w1.heap.size (w.heap.size+1) a cap bs p 20)
 case rest=>
  obtain ⟨va,vc,L',p',h1,h2,h3,hres,hF⟩:=hcut
  obtain ⟨wE,rfl⟩: ∃wE,wE=wc:= ⟨_,rfl⟩
  have HF:=Kz hF
  have HRs:=Kz hres
  have o0:=hF.c0
  have oz:=hF.row.lt
  obtain ⟨⟨_,x0⟩,g0⟩:=hres.row.at (i:=0) (by omega)
  have xz:=hres.lt
  clear hF hres HW4 HRes4 HRow4
  go_wp2
  have hR:=World.rangeAt_setCells_same wE (w.heap.size+1) 0 [.slice va L'.length vc] (HRs.out.row.there (o:=0) (m:=1) (Nat.le_refl _))
  exact Zk [.slice va L'.length vc] _ Try.results16 rfl hR Try.underlying25 rfl Try.sizeWebW rfl (HF.out.ends HRs.out (by omega) k0 HR0.out rfl h1 h2 h3)
 case first=>
  have y4:=HW4.out.c0
  have zb4:=HW4.out.row.lt
  have zg4:=HRow4.out.lt
  have hcv:k * 3+3<=cv * 3:=by omega
  have hne:w.heap.size+1≠g:=by have:=HA0s.out;omega
  have hki: (k:Int) < (L.length:Int):=by omega
  by_cases h0:v4=0
  ·have e0: ((v4:Int) == 0)=true:=by simp [h0]
   clear h0
   go_upto_region 10 with fail
   have HW5:=Kz (HW4.out.kept ((K_.refl w4).drew))
   have HRes5:=Kz (HRes4.out.kept ((K_.refl w4).drew))
   refine Qj.region (by kernel_rfl) (fun (v:World)=> v.cell? ⟨w1.heap.size,0,none⟩=some (.slice (some ⟨g,0,none⟩) L.length cv)) 14 HW5.out.c0 (fun Qk=> ?_)
   generalize hwd:w4.drew=wd at Qk HW5 HRes5⊢
   clear hwd y4 zb4 zg4 HW4 HRes4 HRow4
   refine Qj.tk 0 Qk ?_
   refine Qj.tk 1 Qk ?_
   refine Qj.tk 2 Qk ?_
   refine Qj.tk 3 Qk ?_
   refine Qj.tk 8 Qk ?_
   refine Qj.nx 4 (fun K hK=> ?_)
   rw [if_pos (by rfl)]
   go_simp
   go_at_call 13
   refine (pick_at _ rb a cap bs (p+2) _ 2 rfl HW5.out.rd (by omega) (by omega) hbl).mono ?_
   rintro e w5 ⟨q,rfl,hq,hR5,kb5⟩
   have HW6:=Kz (HW5.out.drawn hR5 kb5)
   have HRes6:=Kz (HRes5.out.but kb5 (by omega))
   dsimp only
   refine hK.out _ _ (fun _=> HW6.out.c0) ?_
   clear hK K Qk hR5 kb5 HW5 HRes5
   have Qk:=HW6.out.c0
   try simp only [Act.put,upA,upB,upC]
   have ew:IntKind.i64.wrap (20+ (q:Int))=20+ (q:Int):=by simp [IntKind.wrap,IntKind.bits,IntKind.signed];omega
   refine Qj.take 5 [6,7,9,10,11,12,13,14] (v:= .int .i64 (20+ (q:Int))) (by (simp only [List.getElem?_toArray,List.getElem?_cons_succ,List.getElem?_cons_zero];rfl)) (by kernel_rfl) (by kernel_rfl) (by kernel_rfl) (by kernel_rfl) (by exact fun _ _ _ h=> h) (Or.inl ⟨by rfl, ?_⟩) Qk ?_
   ·intro u hu
    try dsimp only at hu
    go_simp
    try with_reducible rfl
   try simp only [Act.put,upA,upB,upC]
   refine Qj.nx 6 (fun K hK=> ?_)
   rw [if_pos (by rfl)]
   go_simp
   go_at_call 37
   refine (many_at _ ⟨#[110]⟩ _ (20+q) (by push_cast;rfl) (by omega) (by decide)).mono ?_
   rintro e w6 ⟨⟨x,rfl,hx⟩,hw6⟩
   have hx':x.size<=300:=by have e1: (⟨#[110]⟩:ByteArray).size=1:=rfl;rw [e1] at hx;omega
   subst hw6
   dsimp only
   refine hK.out _ _ (fun _=> HW6.out.c0) ?_
   clear hK K
   try simp only [Act.put,upA,upB,upC]
   have hlits: ∀c∈([⟨#[]⟩,⟨#[45]⟩,⟨#[97,44,98]⟩,⟨#[97]⟩,x]:List ByteArray),c.size<=300:=by
    intro c hc
    simp only [List.mem_cons,List.not_mem_nil,or_false] at hc
    rcases hc with rfl | rfl | rfl | rfl | rfl <;> first | exact hx' | decide
   clear ew
   refine Qj.tw 7 9 (fun K hK=> ?_) (fun K hK=> ?_)
   ·rw [if_pos (by rfl)]
    go_simp
    have K3:K_ w6 (w6.alloc (.cells #[.string ⟨#[]⟩,.string ⟨#[45]⟩,.string ⟨#[97,44,98]⟩,.string ⟨#[97]⟩,.string x] 9)):= (K_.refl _).alloc _
    have HW7:=Kz (HW6.out.kept K3)
    have HRes7:=Kz (HRes6.out.kept K3)
    refine hK.out _ _ (fun _=> HW7.out.c0) ?_
    clear hK K
    try simp only [Act.put,upA,upB,upC]
    clear Qk K3
    refine Qj.nx 9 (fun K hK=> ?_)
    rw [if_pos (by rfl)]
    go_simp
    go_at_call 13
    refine (pick_at _ rb a cap bs (p+3) _ 5 rfl HW7.out.rd (by omega) (by omega) hbl).mono ?_
    rintro e wE ⟨q2,rfl,hq2,hR5,kb5⟩
    have HW8:=Kz (HW7.out.drawn hR5 kb5)
    have HRes8:=Kz (HRes7.out.but kb5 (by omega))
    obtain ⟨c,hc,hcz⟩:=lit_str [⟨#[]⟩,⟨#[45]⟩,⟨#[97,44,98]⟩,⟨#[97]⟩,x] kb5 HW6.out.rd.row.lt q2 (by show q2 < 5;omega) hlits
    have lz:w6.heap.size < wE.heap.size:=Nat.lt_of_lt_of_le (by simp) kb5.size
    clear hR5 kb5
    dsimp only
    refine hK.out _ _ (fun _=> HW8.out.c0) ?_
    clear hK K
    try simp only [Act.put,upA,upB,upC]
    have hqn: (q2:Int) < 5:=by omega
    refine Qj.nx 10 (fun K hK=> ?_)
    go_simp
    refine hK.out _ _ (fun _=> HW8.out.c0) ?_
    clear hK K
    try simp only [Act.put,upA,upB,upC]
    refine Qj.nx 11 (fun K hK=> ?_)
    go_simp
    refine hK.out _ _ (fun _=> HW8.out.c0) ?_
    clear hK K
    try simp only [Act.put,upA,upB,upC]
    have Qk:=HW8.out.c0
    refine Qj.tk 12 Qk ?_
    refine Qj.tk 13 Qk ?_
    have hrg:RowT wE g 30 (cv * 3):=by
     obtain ⟨g',c',ev,_,hgr,_⟩:=HW8.out.rowG hLp
     simp only [Value.slice.injEq,true_and,Option.some.injEq,Addr.mk.injEq,and_true] at ev
     obtain ⟨rfl,rfl⟩:=ev
     exact hgr
    have zg:=hrg.lt
    obtain ⟨⟨_,u0⟩,f0⟩:=hrg.row.at (i:=k * 3) (by omega)
    have HF:=Kz ((HW8.out.fin.mono (n:=mN+10) (by omega)).setName hgb hkL hrg hcv hcz)
    have HRF:=Kz (HRes8.out.sameT (hrg.same (o:=k * 3) (.string c)) (by decide)).1
    clear hrg
    refine Qj.nx 14 (fun K hK=> ?_)
    go_simp
    refine hK.out _ _ (fun h=> absurd rfl h) ?_
    clear hK K
    try simp only [Act.put,upA,upB,upC]
    refine Qj.dn ?_
    go_wp2_with fail
    go_meet
    exact ⟨some ⟨g,0,none⟩,cv,L.set k ⟨c,(L.getD k Q_.zero).cost,(L.getD k Q_.zero).steps⟩,p+4,by omega,by omega,by rw [List.length_set];omega,HRF.out,by rw [List.length_set];exact HF.out⟩
   ·rw [if_pos (by rfl)]
    go_simp
    go_at_call 13
    refine (pick_at _ rb a cap bs (p+3) _ 5 rfl HW6.out.rd (by omega) (by omega) hbl).mono ?_
    rintro e w7 ⟨q2,rfl,hq2,hR5,kb5⟩
    have HW7:=Kz (HW6.out.drawn hR5 kb5)
    have HRes7:=Kz (HRes6.out.but kb5 (by omega))
    clear hR5 kb5
    dsimp only
    refine hK.out _ _ (fun _=> HW7.out.c0) ?_
    clear hK K Qk
    try simp only [Act.put,upA,upB,upC]
    refine Qj.nx 7 (fun K hK=> ?_)
    rw [if_pos (by rfl)]
    go_simp
    have K3:K_ w7 (w7.alloc (.cells #[.string ⟨#[]⟩,.string ⟨#[45]⟩,.string ⟨#[97,44,98]⟩,.string ⟨#[97]⟩,.string x] 9)):= (K_.refl _).alloc _
    have HW8:=Kz (HW7.out.kept K3)
    have HRes8:=Kz (HRes7.out.kept K3)
    obtain ⟨c,hc,hcz⟩:=lit_str0 w7 9 [⟨#[]⟩,⟨#[45]⟩,⟨#[97,44,98]⟩,⟨#[97]⟩,x] q2 (by show q2 < 5;omega) hlits
    have lz:w7.heap.size < (w7.alloc (.cells #[.string ⟨#[]⟩,.string ⟨#[45]⟩,.string ⟨#[97,44,98]⟩,.string ⟨#[97]⟩,.string x] 9)).heap.size:=by simp
    have hc2: (w7.alloc (.cells #[.string ⟨#[]⟩,.string ⟨#[45]⟩,.string ⟨#[97,44,98]⟩,.string ⟨#[97]⟩,.string x] 9)).cell? ⟨w7.heap.size,q2,none⟩=some (.string c):=hc
    refine hK.out _ _ (fun _=> HW8.out.c0) ?_
    clear hK K hc K3
    generalize hwE:w7.alloc (.cells #[.string ⟨#[]⟩,.string ⟨#[45]⟩,.string ⟨#[97,44,98]⟩,.string ⟨#[97]⟩,.string x] 9)=wE at HW8 HRes8 lz hc2⊢
    clear hwE
    try simp only [Act.put,upA,upB,upC]
    have hqn: (q2:Int) < 5:=by omega
    refine Qj.nx 10 (fun K hK=> ?_)
    go_simp
    refine hK.out _ _ (fun _=> HW8.out.c0) ?_
    clear hK K
    try simp only [Act.put,upA,upB,upC]
    refine Qj.nx 11 (fun K hK=> ?_)
    go_simp
    refine hK.out _ _ (fun _=> HW8.out.c0) ?_
    clear hK K
    try simp only [Act.put,upA,upB,upC]
    have Qk:=HW8.out.c0
    refine Qj.tk 12 Qk ?_
    refine Qj.tk 13 Qk ?_
    have hrg:RowT wE g 30 (cv * 3):=by
     obtain ⟨g',c',ev,_,hgr,_⟩:=HW8.out.rowG hLp
     simp only [Value.slice.injEq,true_and,Option.some.injEq,Addr.mk.injEq,and_true] at ev
     obtain ⟨rfl,rfl⟩:=ev
     exact hgr
    have zg:=hrg.lt
    obtain ⟨⟨_,u0⟩,f0⟩:=hrg.row.at (i:=k * 3) (by omega)
    have HF:=Kz ((HW8.out.fin.mono (n:=mN+10) (by omega)).setName hgb hkL hrg hcv hcz)
    have HRF:=Kz (HRes8.out.sameT (hrg.same (o:=k * 3) (.string c)) (by decide)).1
    clear hrg
    refine Qj.nx 14 (fun K hK=> ?_)
    go_simp
    refine hK.out _ _ (fun h=> absurd rfl h) ?_
    clear hK K
    try simp only [Act.put,upA,upB,upC]
    refine Qj.dn ?_
    go_wp2_with fail
    go_meet
    exact ⟨some ⟨g,0,none⟩,cv,L.set k ⟨c,(L.getD k Q_.zero).cost,(L.getD k Q_.zero).steps⟩,p+4,by omega,by omega,by rw [List.length_set];omega,HRF.out,by rw [List.length_set];exact HF.out⟩
  by_cases h1:v4=1
  ·have e0: ((v4:Int) == 0)=false:=by simpa using h0
   have e1: ((v4:Int) == 1)=true:=by simp [h1]
   clear h0 h1
   obtain ⟨sa,sc,hrg,hGs⟩:=HW4.out.web.cells hkL
   obtain ⟨d,hd⟩: ∃d,d=L.getD k Q_.zero:= ⟨_,rfl⟩
   have hdt:=HW4.out.tiny d (by rw [hd];simp [List.getD,hkL])
   rw [<-hd] at hrg hGs
   have n1:=hrg 1 _ rfl
   have n2:=hrg 2 _ rfl
   have HGs:=Kz hGs
   have HSt:Hid (StepsN w4 sa d.steps):=by
    obtain ⟨a9,c9,e9,_,hS⟩:=hGs.stepsN
    simp only [Value.slice.injEq,true_and] at e9
    obtain ⟨rfl,rfl⟩:=e9
    exact hS
   have HD:=Kz hd
   have HDt:=Kz hdt
   clear hrg hGs hd hdt
   go_upto_region 12 with fail
   refine Qj.region (by kernel_rfl) (fun (v:World)=> v.cell? ⟨w1.heap.size,0,none⟩=some (.slice (some ⟨g,0,none⟩) L.length cv)∧v.cell? ⟨g,k * 3+1,none⟩=some (.int .i64 d.cost)∧v.cell? ⟨g,k * 3+2,none⟩=some (.slice sa d.steps.length sc)) 13 ⟨y4,n1,n2⟩ (fun Qk=> ?_)
   refine Qj.tk 0 Qk ?_
   refine Qj.tk 1 Qk ?_
   refine Qj.tk 2 Qk ?_
   refine Qj.tk 3 Qk ?_
   refine Qj.tk 4 Qk ?_
   refine Qj.tk 5 Qk ?_
   refine Qj.tk 6 Qk ?_
   refine Qj.tk 7 Qk ?_
   refine Qj.tk 8 Qk ?_
   refine Qj.tk 9 Qk ?_
   refine Qj.nx 10 (fun K hK=> ?_)
   rw [if_pos (by rfl)]
   go_simp
   go_at_call 15
   refine (spoil_any mN hmN _ rb a cap bs (p+2) d.cost sa sc d.steps ((HW4.out.kept ((K_.refl w4).drew)).rd) (by omega) hbl HDt.out.steps HDt.out.cost HDt.out.each (HSt.out.kept ((K_.refl w4).drew))).mono ?_
   rintro e w6 ⟨cost,u,LS,p6,rfl,hp6,hp6',hl6,hco,hty6,hSW,hR6,kb6⟩
   have HW6:=Kz ((HW4.out.kept ((K_.refl w4).drew)).drawn hR6 kb6)
   have HRes6:=Kz ((HRes4.out.kept ((K_.refl w4).drew)).but kb6 (by omega))
   have HG6:=Kz hSW.g
   obtain ⟨ua,uc,rfl⟩:=HG6.out.slice
   have hk6:=kb6.sameKind (HW4.out.kept ((K_.refl w4).drew)).rd
   have hrg:=HRow4.out.kept ((K_.refl w4).drew)
   have hrg6:=hrg.sameT hk6 (by decide)
   have hS6: (fun (v:World)=> v.cell? ⟨w1.heap.size,0,none⟩=some (.slice (some ⟨g,0,none⟩) L.length cv)∧v.cell? ⟨g,k * 3+1,none⟩=some (.int .i64 d.cost)∧v.cell? ⟨g,k * 3+2,none⟩=some (.slice sa d.steps.length sc)) w6:= ⟨HW6.out.c0,(hrg6.2 _).trans n1,(hrg6.2 _).trans n2⟩
   have HRg6:=Kz hrg6.1
   dsimp only
   refine hK.out _ _ (fun _=> hS6) ?_
   clear hK K Qk hSW hR6 kb6 hk6 hrg hrg6
   have Qk:=hS6
   try simp only [Act.put,upA,upB,upC]
   refine Qj.tk 11 Qk ?_
   refine Qj.tk 12 Qk ?_
   have HF:=Kz ((HW6.out.fin.mono (n:=mN+10) (by omega)).setAction hgb hkL HRg6.out hcv HG6.out hco hl6 hty6)
   have HRF:=Kz (HRes6.out.sameT (HRg6.out.setCells [.int .i64 cost,.slice ua LS.length uc] (k * 3+1)).2 (by decide)).1
   refine Qj.nx 13 (fun K hK=> ?_)
   rw [if_pos (by rfl)]
   refine wp_store_mid 28 _ _ rfl g (k * 3+1) #[.int .i64 cost,.slice ua LS.length uc] (by rfl) (by rfl) (HRg6.out.row.there (by simp;omega)) (by kernel_rfl) (act_one ..) ?_
   refine hK.out _ _ (fun h=> absurd rfl h) ?_
   clear hK K
   try simp only [Act.put]
   refine Qj.dn ?_
   go_wp2_with fail
   go_meet
   exact ⟨some ⟨g,0,none⟩,cv,L.set k ⟨(L.getD k Q_.zero).name,cost,LS⟩,p6,by omega,by omega,by rw [List.length_set];omega,HRF.out,by rw [List.length_set];exact HF.out⟩
  by_cases h2:v4=2
  ·have e0: ((v4:Int) == 0)=false:=by simpa using h0
   have e1: ((v4:Int) == 1)=false:=by rw [beq_eq_false_iff_ne];omega
   have e2: ((v4:Int) == 2)=true:=by simp [h2]
   clear h0 h1 h2
   go_wp2_with fail
   refine (pick_at _ rb a cap bs (p+2) _ 2 rfl HW4.out.rd (by omega) (by omega) hbl).mono ?_
   rintro e w5 ⟨q,rfl,hq,hR5,kb5⟩
   have HW5:=Kz (HW4.out.drawn hR5 kb5)
   have HRes5:=Kz (HRes4.out.but kb5 (by omega))
   clear hR5 kb5 HW4 HRes4 HRow4 y4 zb4 zg4
   obtain ⟨n1,hn1⟩: ∃n1:Nat,n1=60+q:= ⟨_,rfl⟩
   go_wp2
   go_loopg [8] (n1 - L.length) (fun gq x wr=> ∃(i:Nat) (v:Value) (L':List Q_) (ys:List Value),x= .int .i64 (i:Int)∧i+gq<=61∧n1<=L'.length+gq∧(gq=0∨L'.length+gq=n1)∧L'.length<=l.length+61∧RowT wr (w.heap.size+1) 25 1∧WStN mN A0 wr rb w1.heap.size a cap bs (p+3) v L' ys)
   case atStart=> exact ⟨0,_,L,xs,rfl,by omega,by omega,by omega,by omega,HRes5.out,HW5.out⟩
   case round=>
    clear HW5 HRes5
    obtain ⟨i,v,L',ys,rfl,hi,hn,hno,hl2,hres,hS⟩:=hrel
    obtain ⟨wO,rfl⟩: ∃wO,wO=wr:= ⟨_,rfl⟩
    have HO:=Kz hS
    have HRs:=Kz hres
    obtain ⟨va,vc,rfl⟩:=own_slice hS.own
    have y0:=hS.c0
    have zb:=hS.row.lt
    clear hS hres
    by_cases hlt: (L'.length:Int) < 60+ (q:Int)
    ·have hgq:0 < gk:=by omega
     obtain ⟨n,hn'⟩: ∃n,n=L'.length:= ⟨_,rfl⟩
     have hn60:n<=61:=by omega
     have HN:=Kz hn'
     rw [<-hn'] at y0 hlt hn hno hl2
     obtain ⟨q1,hq1⟩: ∃q1,q1=i / 26:= ⟨_,rfl⟩
     obtain ⟨q2,hq2⟩: ∃q2,q2=i % 26:= ⟨_,rfl⟩
     have et: (i:Int).tdiv 26= (q1:Int):=by rw [Int.tdiv_eq_ediv_of_nonneg (by omega)];omega
     have er: (i:Int).tmod 26= (q2:Int):=by rw [Int.tmod_eq_emod_of_nonneg (by omega)];omega
     have hq1b:q1<=2:=by omega
     have hq2b:q2<=25:=by omega
     clear hq1 hq2 hn'
     have HCv:=Kz (bytes_two (P:=Try.prog) wO 22 5 9 Try.underlying22 Try.underlying5 Try.underlying9 (97+ (q1:Int)) (97+ (q2:Int)))
     obtain ⟨bz,hbz⟩: ∃bz,bz=strOfNums [97+ (q1:Int),97+ (q2:Int)]:= ⟨_,rfl⟩
     have hbz2:bz.size=2:=by rw [hbz];rfl
     obtain ⟨nm,hnm⟩: ∃nm:ByteArray,(⟨#[122,122]⟩:ByteArray)++bz=nm:= ⟨_,rfl⟩
     have hnz:nm.size<=300:=by rw [<-hnm,ByteArray.size_append,hbz2];decide
     have hcv:=HCv.out
     rw [<-hbz] at hcv
     have f6: ¬9223372036854775807 < 2+bz.size:=by omega
     have f7: ¬9223372036854775807 < 4:=by omega
     obtain ⟨W1,hW1⟩: ∃W1,W1=wO.alloc (.cells #[.int .u8 (97+ (q1:Int)),.int .u8 (97+ (q2:Int))] 5):= ⟨_,rfl⟩
     have kW1:K_ wO W1:=by rw [hW1];exact (K_.refl _).alloc _
     have HG1:Hid (GSteps (W1.alloc (.cells #[.slice none 0 0,.int .i64 0,.slice none 0 0,.int .i64 0,.int .i64 0,.bool true,.bool false,.string ⟨#[]⟩] 68)) (.slice (some ⟨W1.heap.size,0,none⟩) 1 1) [endStep ⟨#[]⟩]):=endRow_steps W1
     have kW2:K_ W1 (W1.alloc (.cells #[.slice none 0 0,.int .i64 0,.slice none 0 0,.int .i64 0,.int .i64 0,.bool true,.bool false,.string ⟨#[]⟩] 68)):= (K_.refl _).alloc _
     obtain ⟨W2,hW2⟩: ∃W2,W2=W1.alloc (.cells #[.slice none 0 0,.int .i64 0,.slice none 0 0,.int .i64 0,.int .i64 0,.bool true,.bool false,.string ⟨#[]⟩] 68):= ⟨_,rfl⟩
     rw [<-hW2] at HG1 kW2
     have kW3:K_ W2 (W2.alloc (.cells #[.string nm,.int .i64 1,.slice (some ⟨W1.heap.size,0,none⟩) 1 1] 30)):= (K_.refl _).alloc _
     obtain ⟨W3,hW3⟩: ∃W3,W3=W2.alloc (.cells #[.string nm,.int .i64 1,.slice (some ⟨W1.heap.size,0,none⟩) 1 1] 30):= ⟨_,rfl⟩
     have hbx:=boxNode W2 nm 1 (.slice (some ⟨W1.heap.size,0,none⟩) 1 1)
     rw [<-hW3] at kW3 hbx
     have HK3:=Kz ((kW1.trans kW2).trans kW3)
     have HO3:=Kz (HO.out.kept HK3.out)
     have hOw:=HO3.out.own
     rw [<-HN.out] at hOw
     have HOw:=Kz hOw
     have HBz:=Kz HO3.out.kb.size
     have HBx:=Kz hbx
     have HG3:=Kz (HG1.out.same (u:=25) (.of_kept kW3) (by decide) (by decide) (by decide))
     have HD:Hid (Q_.TinyN mN ⟨nm,1,[endStep ⟨#[]⟩]⟩):= ⟨hnz,⟨by show (-1000:Int)<=1;decide,by show (1:Int)<=1000;decide⟩,by show 1<=21;omega,fun y hy=> by simp only [List.mem_singleton] at hy;subst hy;exact endStep_tiny (show (0:Nat)<=300 by omega)⟩
     obtain ⟨ino,hn0,hn1',hn2,hn3⟩:=dInfo_parts Try.infoNodeW
     have HE:Hid (((wO.alloc (.cells #[.int .u8 (97+ (q1:Int)),.int .u8 (97+ (q2:Int))] 5)).alloc (.cells #[.slice none 0 0,.int .i64 0,.slice none 0 0,.int .i64 0,.int .i64 0,.bool true,.bool false,.string ⟨#[]⟩] 68)).alloc (.cells #[.string ((⟨#[122,122]⟩:ByteArray)++strOfNums [97+ (q1:Int),97+ (q2:Int)]),.int .i64 1,.slice (some ⟨wO.heap.size+1,0,none⟩) 1 1] 30)=W3):=by
      show _=_
      rw [hW3,hW2,hW1,<-hnm,hbz]
      simp only [World.size_alloc]
     have eW1:wO.heap.size+1=W1.heap.size:=by rw [hW1];simp
     have eW2:wO.heap.size+1+1=W2.heap.size:=by rw [hW2,hW1];simp
     have HE1:=Kz eW1
     have HE2:=Kz eW2
     clear hW1 hW2 hW3 kW1 kW2 kW3 hbx hOw eW1 eW2 hnz HG1
     go_wp2_with (at_builtin;rw [HE.out];refine wpList_append_lies _ rfl (.tmp 85) (.tmp 101) 23 rfl A0.heap.size 30 ino _ 3 48 Try.underlying23 hn0 hn1' hn2 hn3 rfl (by decide) (.slice va n vc) n ys rfl HOw.out ⟨W2.heap.size,0,none⟩ 1 1 [.string nm,.int .i64 1,.slice (some ⟨W1.heap.size,0,none⟩) 1 1] (by rw [<-HE2.out];rfl) rfl HBx.out (oneNode _ _ _ _ _) (by omega) (by unfold maxLen;omega) (by omega) HBz.out _ rfl ?_;intro g9 c9 w9 hown hgr _ _;have hPR:=HO.out.pushRow HK3.out (by rw [<-HN.out];exact hgr);have y9:=hPR.1;have z9:=hPR.2.lt;have fo1:= (hPR.2.row.at (i:=0) (by omega)).2;have HP9:=Kz (HO.out.push (d:= ⟨nm,1,[endStep ⟨#[]⟩]⟩) HK3.out HG3.out HD.out (by rw [<-HN.out];exact hown) (by rw [<-HN.out];exact hgr));have HR9:Hid (RowT w9 (w.heap.size+1) 25 1):= ((HRs.out.kept HK3.out).sameT (SameKind.of_grown HOw.out hgr) (by decide)).1;clear hPR hown hgr)
     go_roundg (gk - 1)
     case rel=>
      have hP:=HP9.out
      have hlen: (L'++ [⟨nm,1,[endStep ⟨#[]⟩]⟩]:List Q_).length=n+1:=by rw [List.length_append,HN.out];rfl
      exact ⟨i+1,_,L'++ [⟨nm,1,[endStep ⟨#[]⟩]⟩],_,by go_num,by omega,by omega,by omega,by omega,HR9.out.block (Below.heap_setCell _ _ _ _ (by simpa using hob)),hP⟩
     case measure=> omega
    ·go_wp2_with fail
     go_meet
     exact ⟨va,vc,L',p+3,by omega,by omega,by omega,HRs.out,HO.out.fin.mono (by omega)⟩
  by_cases h3:v4=3
  ·have e0: ((v4:Int) == 0)=false:=by simpa using h0
   have e1: ((v4:Int) == 1)=false:=by rw [beq_eq_false_iff_ne];omega
   have e2: ((v4:Int) == 2)=false:=by rw [beq_eq_false_iff_ne];omega
   have e3: ((v4:Int) == 3)=true:=by simp [h3]
   clear h0 h1 h2 h3
   obtain ⟨sa,sc,hrg,hGs⟩:=HW4.out.web.cells hkL
   obtain ⟨d,hd⟩: ∃d,d=L.getD k Q_.zero:= ⟨_,rfl⟩
   have hdt:=HW4.out.tiny d (by rw [hd];simp [List.getD,hkL])
   rw [<-hd] at hrg hGs
   have n0:=hrg 0 _ rfl
   have n1:=hrg 1 _ rfl
   have n2:=hrg 2 _ rfl
   rw [Nat.add_zero] at n0
   have HGs:=Kz hGs
   have HDt:=Kz hdt
   clear hrg hGs hd hdt
   obtain ⟨ino,hn0,hn1',hn2,hn3⟩:=dInfo_parts Try.infoNodeW
   go_upto_region 20 with fail
   refine Qj.region (by kernel_rfl) (fun (v:World)=> v.cell? ⟨w1.heap.size,0,none⟩=some (.slice (some ⟨g,0,none⟩) L.length cv)) 10 y4 (fun Qk=> ?_)
   refine Qj.tk 0 Qk ?_
   refine Qj.tk 1 Qk ?_
   refine Qj.tk 2 Qk ?_
   refine Qj.tk 3 Qk ?_
   refine Qj.tk 4 Qk ?_
   refine Qj.tk 5 Qk ?_
   refine Qj.nx 6 (fun K hK=> ?_)
   go_simp
   refine hK.out _ _ (fun _=> y4) ?_
   clear hK K
   try simp only [Act.put,upA,upB,upC]
   refine Qj.nx 7 (fun K hK=> ?_)
   go_simp
   have KW:K_ w4 (w4.drew.alloc (.cells #[.string d.name,.int .i64 d.cost,.slice sa d.steps.length sc] 30)):= ((K_.refl w4).drew).alloc _
   refine hK.out _ _ (fun _=> (KW.cell zb4).trans y4) ?_
   clear hK K Qk
   try simp only [Act.put,upA,upB,upC]
   refine Qj.nx 8 (fun K hK=> ?_)
   have HW5:=Kz (HW4.out.kept KW)
   refine step_append_lies _ rfl (.tmp 107) (.tmp 113) 23 rfl A0.heap.size 30 ino _ 3 48 Try.underlying23 hn0 hn1' hn2 hn3 rfl (by decide) (.slice (some ⟨g,0,none⟩) L.length cv) L.length xs (by simp [Act.eval]) HW5.out.own ⟨w4.heap.size,0,none⟩ 1 1 [.string d.name,.int .i64 d.cost,.slice sa d.steps.length sc] (by simp [Act.eval]) rfl (boxNode _ _ _ _) (oneNode _ _ _ _ _) (by omega) (by unfold maxLen;omega) (by omega) HW5.out.kb.size _ rfl ?_
   intro g2 cap3 w6 hown3 hgr3 hat hlt3
   have hPR:=HW4.out.pushRow KW hgr3
   have y6:=hPR.1
   have zb6:=hPR.2.lt
   have fo1:= (hPR.2.row.at (i:=0) (by omega)).2
   obtain ⟨vo,fo2⟩:= (hPR.2.row.at (i:=0) (by omega)).1
   have HP6:=Kz (HW4.out.push (d:=d) KW (HGs.out.same (u:=25) (.of_kept KW) (by decide) (by decide) (by decide)) HDt.out hown3 hgr3)
   have hk6:=SameKind.of_grown HW5.out.own hgr3
   have HRes6:Hid (RowT w6 (w.heap.size+1) 25 1):= ((HRes4.out.kept KW).sameT hk6 (by decide)).1
   clear hPR hown3 hgr3 hat hk6 KW
   refine hK.out _ _ (fun _=> y6) ?_
   clear hK K
   try simp only [Act.put,upA,upB,upC]
   have Qk:=y6
   refine Qj.tk 9 Qk ?_
   refine Qj.nx 10 (fun K hK=> ?_)
   go_simp
   refine hK.out _ _ (fun h=> absurd rfl h) ?_
   clear hK K
   try simp only [Act.put,upA,upB,upC]
   refine Qj.dn ?_
   go_wp2_with fail
   go_meet
   have hF:=HP6.out.fin.mono (n:=mN+10) (by omega)
   have hlen: (L++ [d]).length=L.length+1:=by simp
   exact ⟨some ⟨g2,0,none⟩,cap3,L++ [d],p+2,by omega,by omega,by omega,HRes6.out.block (Below.heap_setCell _ _ _ _ (by simpa using hob)),by rw [hlen];exact hF⟩
  have e0: ((v4:Int) == 0)=false:=by simpa using h0
  have e1: ((v4:Int) == 1)=false:=by rw [beq_eq_false_iff_ne];omega
  have e2: ((v4:Int) == 2)=false:=by rw [beq_eq_false_iff_ne];omega
  have e3: ((v4:Int) == 3)=false:=by rw [beq_eq_false_iff_ne];omega
  clear h0 h1 h2 h3
  obtain ⟨sa,sc,hrg,hGs⟩:=HW4.out.web.cells hLp
  obtain ⟨d,hd⟩: ∃d,d=L.getD 0 Q_.zero:= ⟨_,rfl⟩
  have hdt:=HW4.out.tiny d (by rw [hd];simp [List.getD,hLp])
  rw [<-hd,Nat.zero_mul] at hrg
  rw [<-hd] at hGs
  have n0:=hrg 0 _ rfl
  have n1:=hrg 1 _ rfl
  have n2:=hrg 2 _ rfl
  simp only [Nat.zero_add] at n0 n1 n2
  have HGs:=Kz hGs
  have HDt:=Kz hdt
  have hL0i: (0:Int) < (L.length:Int):=by omega
  clear hrg hGs hd hdt
  go_upto_region 7 with fail
  obtain ⟨w5,hw5⟩: ∃w5,w5=w4.alloc (.cells #[.string d.name,.int .i64 d.cost,.slice sa d.steps.length sc] 30):= ⟨_,rfl⟩
  have K5:K_ w4 w5:=by rw [hw5];exact (K_.refl _).alloc _
  have hx:=Zx w4 #[.string d.name,.int .i64 d.cost,.slice sa d.steps.length sc] 30
  rw [<-hw5] at hx
  have x0:=hx 0 _ rfl
  have x1:=hx 1 _ rfl
  have x2:=hx 2 _ rfl
  simp only [Nat.zero_add] at x0 x1 x2
  have xz:w4.heap.size < w5.heap.size:=by rw [hw5];simp
  rw [<-hw5]
  have HW5:=Kz (HW4.out.kept K5)
  have HRes5:=Kz (HRes4.out.kept K5)
  have HRow5:=Kz (HRow4.out.kept K5)
  have HGs5:=Kz (HGs.out.same (u:=25) (.of_kept K5) (by decide) (by decide) (by decide))
  have hgx:g≠w4.heap.size:=by omega
  clear hw5 K5 hx y4 zb4 zg4 HW4 HRes4 HRow4 HGs n0 n1 n2
  have y5:=HW5.out.c0
  have zb5:=HW5.out.row.lt
  have zg5:=HRow5.out.lt
  obtain ⟨sa2,sc2,hrg,hGs⟩:=HW5.out.web.cells hkL
  obtain ⟨dk,hd⟩: ∃dk,dk=L.getD k Q_.zero:= ⟨_,rfl⟩
  have hdt:=HW5.out.tiny dk (by rw [hd];simp [List.getD,hkL])
  rw [<-hd] at hrg hGs
  have n0:=hrg 0 _ rfl
  have n1:=hrg 1 _ rfl
  have n2:=hrg 2 _ rfl
  rw [Nat.add_zero] at n0
  have HGk:=Kz hGs
  have HDk:=Kz hdt
  clear hrg hGs hd hdt
  have KD:K_ w5 w5.drew:= (K_.refl w5).drew
  have HF7:=Kz (((HW5.out.kept KD).fin.mono (n:=mN+10) (by omega)).setNode (k:=0) (d:=dk) hgb hLp (HRow5.out.kept KD) (by omega) (HGk.out.same (u:=25) (.of_kept KD) (by decide) (by decide) (by decide)) (HDk.out.mono (by omega)))
  have hs7:= (HRow5.out.kept KD).setCells [.string dk.name,.int .i64 dk.cost,.slice sa2 dk.steps.length sc2] (0 * 3)
  have HRow7:=Kz hs7.1
  have HRes7:=Kz ((HRes5.out.kept KD).sameT hs7.2 (by decide)).1
  have HGs7:=Kz ((HGs5.out.same (u:=25) (.of_kept KD) (by decide) (by decide) (by decide)).same hs7.2 (by decide) (by decide) (by decide))
  have hX7: ∀o v,w5.cell? ⟨w4.heap.size,o,none⟩=some v->(w5.drew.setCells g (0 * 3) [.string dk.name,.int .i64 dk.cost,.slice sa2 dk.steps.length sc2]).cell? ⟨w4.heap.size,o,none⟩=some v:=fun o v hv=> (World.rangeAt_setCells_apart (range_one (w:=w5.drew) (q:=o) hv) _ _ _ (.inl (fun e=> hgx (by simpa using e.symm)))) 0 _ rfl
  have x0':=hX7 _ _ x0
  have x1':=hX7 _ _ x1
  have x2':=hX7 _ _ x2
  have xz7:w4.heap.size < (w5.drew.setCells g (0 * 3) [.string dk.name,.int .i64 dk.cost,.slice sa2 dk.steps.length sc2]).heap.size:=by rw [size_setCells];exact xz
  clear hs7 hX7 KD
  refine Qj.region (by kernel_rfl) (fun (v:World)=> v.cell? ⟨w1.heap.size,0,none⟩=some (.slice (some ⟨g,0,none⟩) L.length cv)) 8 y5 (fun Qk=> ?_)
  refine Qj.tk 0 Qk ?_
  refine Qj.tk 1 Qk ?_
  refine Qj.tk 2 Qk ?_
  refine Qj.tk 3 Qk ?_
  refine Qj.tk 4 Qk ?_
  refine Qj.tk 5 Qk ?_
  refine Qj.nx 6 (fun K hK=> ?_)
  go_simp
  refine hK.out _ _ (fun _=> y5) ?_
  clear hK K
  try simp only [Act.put,upA,upB,upC]
  refine Qj.tk 7 Qk ?_
  refine Qj.nx 8 (fun K hK=> ?_)
  rw [if_pos (by rfl)]
  refine wp_store_mid 30 _ _ rfl g (0 * 3) #[.string dk.name,.int .i64 dk.cost,.slice sa2 dk.steps.length sc2] (by rfl) (by rfl) ((HRow5.out.kept ((K_.refl w5).drew)).row.there (by simp;omega)) (by kernel_rfl) (nod_one ..) ?_
  refine hK.out _ _ (fun h=> absurd rfl h) ?_
  clear hK K
  try simp only [Act.put]
  refine Qj.dn ?_
  obtain ⟨w7,hw7⟩: ∃w7,w7=w5.drew.setCells g (0 * 3) [.string dk.name,.int .i64 dk.cost,.slice sa2 dk.steps.length sc2]:= ⟨_,rfl⟩
  rw [<-hw7] at HF7 HRow7 HRes7 HGs7 x0' x1' x2' xz7
  have hw8:w5.drew.setCells g (0 * 3) (#[.string dk.name,.int .i64 dk.cost,.slice sa2 dk.steps.length sc2]:Array Value).toList=w7:=hw7.symm
  rw [hw8]
  clear hw8
  clear hw7
  have y7:=HF7.out.c0
  have zb7:=HF7.out.row.lt
  have zg7:=HRow7.out.lt
  have hl7:k < (L.set 0 dk).length:=by rw [List.length_set];exact hkL
  have HF8:=Kz (HF7.out.setNode (k:=k) (d:=d) hgb hl7 HRow7.out hcv HGs7.out (HDt.out.mono (by omega)))
  have HRF:=Kz (HRes7.out.sameT (HRow7.out.setCells [.string d.name,.int .i64 d.cost,.slice sa d.steps.length sc] (k * 3)).2 (by decide)).1
  have HTh:Hid (w7.there g (k * 3) 3):=HRow7.out.row.there (by omega)
  have hsz: (Try.prog.info? 30).map (·.size)=some 3:=by kernel_rfl
  have HSz:=Kz hsz
  clear hsz
  go_wp2_with (refine wpList_store_mid rfl 30 _ _ rfl g (k * 3) #[.string d.name,.int .i64 d.cost,.slice sa d.steps.length sc] rfl rfl HTh.out HSz.out (nod_one ..) ?_)
  go_meet
  exact ⟨some ⟨g,0,none⟩,cv,(L.set 0 dk).set k d,p+2,by omega,by omega,by rw [List.length_set,List.length_set];omega,HRF.out,by rw [List.length_set,List.length_set];exact HF8.out⟩
theorem FinW.rbl {m:Nat} {w wr:World} {rb wb:Nat} {a:Option Addr} {cap:Nat} {bs:List UInt8} {p:Nat} {v:Value} {L:List Q_} (h:FinW m w wr rb wb a cap bs p v L):rb < w.heap.size:=let ⟨_,h0⟩:=h.rd0;h0.row.lt
theorem FinW.drawn {m:Nat} {w wr w':World} {rb wb:Nat} {a:Option Addr} {cap:Nat} {bs:List UInt8} {p p':Nat} {v:Value} {L:List Q_} (h:FinW m w wr rb wb a cap bs p v L) (hR:Rd w' rb a cap bs p') (k:Xq rb (rb+1) wr w'):FinW m w w' rb wb a cap bs p' v L:=by
 have hk:=k.sameKind h.rd
 have:=h.rbl
 have:=h.wbl
 exact ⟨hR,h.rd0,h.wbl,h.kb.trans k,h.row.but k (by omega),(k.cell h.row.lt (by omega)).trans h.c0,h.web.same hk (by decide) (by decide) (by decide) (by decide),h.tiny,h.fr⟩
theorem FinW.kept {m:Nat} {w wr w':World} {rb wb:Nat} {a:Option Addr} {cap:Nat} {bs:List UInt8} {p:Nat} {v:Value} {L:List Q_} (h:FinW m w wr rb wb a cap bs p v L) (k:K_ wr w'):FinW m w w' rb wb a cap bs p v L:=h.drawn (h.rd.kept k) (.of_kept k)
theorem DrewWeb.mono {M M' N N':Nat} {w w':World} {rb:Nat} {a:Option Addr} {cap:Nat} {bs:List UInt8} {p t:Nat} {e:Ending} (h:DrewWeb M N w w' rb a cap bs p t e) (hM:M<=M') (hN:N<=N'):DrewWeb M' N' w w' rb a cap bs p t e:=by
 obtain ⟨v,L,p',h1,h2,h3,h4,h5,h6⟩:=h
 exact ⟨v,L,p',h1,h2,h3,by omega,fun d hd=> (h5 d hd).mono hM,h6⟩
theorem FinW.made {M:Nat} {A0 w1:World} {rb:Nat} {a:Option Addr} {cap:Nat} {bs:List UInt8} {p0 p1:Nat} {v:Value} {L:List Q_} (h0:Rd A0 rb a cap bs p0) (hR:Rd w1 rb a cap bs p1) (kb:Xq rb (rb+1) A0 w1) (hG:GNodes w1 v L) (ht: ∀d∈L,d.TinyN M) (hf:Fresh A0.heap.size v L):
  FinW M A0 (w1.alloc (.cells #[v] 25)) rb w1.heap.size a cap bs p1 v L:=
 have kw:K_ w1 (w1.alloc (.cells #[v] 25)):= (K_.refl _).alloc _
 ⟨hR.kept kw,⟨p0,h0⟩,kb.size,kb.and_kept kw,RowT.made w1 _ _,Zx w1 _ _ 0 _ rfl,hG.kept kw,ht,hf⟩
theorem anyW_any :WebSaid 11 1200 30 200 500000:=by
 intro w rb a cap bs p hR hp hbl
 have k0:K_ w (w.alloc (.cells #[.slice none 0 0] 25)):= (K_.refl _).alloc _
 have HA0:Hid (Rd (w.alloc (.cells #[.slice none 0 0] 25)) rb a cap bs p):=hR.kept k0
 have HRes:Hid (RowT (w.alloc (.cells #[.slice none 0 0] 25)) w.heap.size 25 1):=RowT.made w _ _
 have hrb:=hR.row.lt
 have HR0:=Kz hR
 clear hR
 go_enter Try.func11,Try.ntmps11
 go_wp2_with fail
 refine (drawW_any (Kz ring_any) (Kz wide_any) _ rb a cap bs p HA0.out (by omega) hbl).mono ?_
 rintro e w1 ⟨v,L,p1,rfl,hp1,hp1',hl,hty,hG,hR1,kb1,hf1⟩
 obtain ⟨va,vc,rfl,_,_⟩:=hG.slice
 have HF1:=Kz (FinW.made HA0.out hR1 kb1 hG hty hf1)
 have HRes1:=Kz ((HRes.out.but kb1 (by omega)).kept ((K_.refl w1).alloc (.cells #[.slice va L.length vc] 25)))
 clear hty hG hR1 kb1
 go_wp2_with fail
 refine (pick_at _ rb a cap bs p1 _ 24 rfl HF1.out.rd (by omega) (by omega) hbl).mono ?_
 rintro e w2 ⟨v2,rfl,hv2,hR2,kb2⟩
 have HF2:=Kz (HF1.out.drawn hR2 kb2)
 have HRes2:=Kz (HRes1.out.but kb2 (by omega))
 clear hR2 kb2 HF1 HRes1 HRes
 have y2:=HF2.out.c0
 have z2:=HF2.out.row.lt
 by_cases h0:v2=0
 ·have e0: ((v2:Int) == 0)=true:=by simp [h0]
  clear h0
  go_wp2_with fail
  refine (spoilW_any 20 (by omega) _ rb a cap bs (p1+1) va vc L HF2.out.rd (by omega) hbl (by omega) HF2.out.tiny HF2.out.web).mono ?_
  intro e w3 hd
  obtain ⟨v,rfl,hr3,⟨ua,un,uc,rfl⟩,hD⟩:= (hd.mono (M':=30) (N':=200) (by omega) (by omega)).via (p:=p) (t':=1200) HF2.out.kb k0 (by omega) (by omega) HR0.out (Nat.le_refl _) HRes2.out (by omega)
  have HD:=Kz hD
  have HR3:=Kz hr3
  have z3:=hr3.lt
  obtain ⟨⟨_,u0⟩,f0⟩:=hr3.row.at (i:=0) (by omega)
  clear hD hd hr3
  go_wp2
  have hR:=World.rangeAt_setCells_same w3 w.heap.size 0 [.slice ua un uc] (HR3.out.row.there (o:=0) (m:=1) (Nat.le_refl _))
  exact Zk [.slice ua un uc] _ Try.results11 rfl hR Try.underlying25 rfl Try.sizeWebW rfl HD.out
 ·have e0: ((v2:Int) == 0)=false:=by simpa using h0
  clear h0
  obtain ⟨⟨_,u0⟩,f0⟩:=HRes2.out.row.at (i:=0) (by omega)
  have zr:=HRes2.out.lt
  go_wp2
  have hR:=World.rangeAt_setCells_same w2 w.heap.size 0 [.slice va L.length vc] (HRes2.out.row.there (o:=0) (m:=1) (Nat.le_refl _))
  exact Zk [.slice va L.length vc] _ Try.results11 rfl hR Try.underlying25 rfl Try.sizeWebW rfl ((HF2.out.mono (n:=30) (by omega)).ends HRes2.out (Nat.le_refl _) k0 HR0.out rfl (by omega) (by omega) (by omega))
theorem bodyPost_ret_cells {P:Program} {fn:Func} {R:Ending->World->Prop} {a:Act} {w:World} {p q:Tmp} {ty tq:TypeId} {b b':Nat} (cs cs':List Value) (d d':TypeDesc) (h:fn.results= #[.cell p ty,.cell q tq])
  (hp:a.tmps.getD p undef= .pointer (some ⟨b,0,none⟩)) (hr:w.rangeAt b 0 cs) (hu:P.underlying ty=some d) (hd:d.isRow=true) (hi: (P.info? ty).map (·.size)=some cs.length)
  (hq:a.tmps.getD q undef= .pointer (some ⟨b',0,none⟩)) (hr':w.rangeAt b' 0 cs') (hu':P.underlying tq=some d') (hd':d'.isRow=true) (hi': (P.info? tq).map (·.size)=some cs'.length)
  (hdef:a.defers=[]) (hR:R (.returned (.tuple #[.agg cs.toArray,.agg cs'.toArray])) w):bodyPost P fn R .ret a w:=by
 refine bodyPost_ret ?_ hdef hR
 have hp':a.tmps[p]?.getD undef= .pointer (some ⟨b,0,none⟩):=by simpa using hp
 have hq':a.tmps[q]?.getD undef= .pointer (some ⟨b',0,none⟩):=by simpa using hq
 simp only [results,h]
 simp [hp',hq',asAddr,run_loadVar_mid w b 0 ty cs d hr hu hd hi,run_loadVar_mid w b' 0 tq cs' d' hr' hu' hd' hi']
theorem Try.sizeNodeW : (Try.prog.info? 30).map (·.size)=some 3:=by kernel_rfl
structure PutD (m:Nat) (w wr:World) (rb wb nb:Nat) (a:Option Addr) (cap:Nat) (bs:List UInt8) (p:Nat) (v:Value) (L:List Q_) (d:Q_) (ua:Option Addr) (uc:Nat):Prop where
 fw:FinW m w wr rb wb a cap bs p v L
 nbl:w.heap.size<=nb
 nrow:RowT wr nb 30 3
 n0:wr.cell? ⟨nb,0,none⟩=some (.string d.name)
 n1:wr.cell? ⟨nb,1,none⟩=some (.int .i64 d.cost)
 n2:wr.cell? ⟨nb,2,none⟩=some (.slice ua d.steps.length uc)
 steps:GSteps wr (.slice ua d.steps.length uc) d.steps
 dt:d.TinyN m
theorem PutD.drawn {m:Nat} {w wr w':World} {rb wb nb:Nat} {a:Option Addr} {cap:Nat} {bs:List UInt8} {p p':Nat} {v:Value} {L:List Q_} {d:Q_} {ua:Option Addr} {uc:Nat} (h:PutD m w wr rb wb nb a cap bs p v L d ua uc) (hR:Rd w' rb a cap bs p') (k:Xq rb (rb+1) wr w'):PutD m w w' rb wb nb a cap bs p' v L d ua uc:=by
 have hk:=k.sameKind h.fw.rd
 have h1:=h.fw.rbl
 have h2:=h.nbl
 have hc: ∀o,w'.cell? ⟨nb,o,none⟩=wr.cell? ⟨nb,o,none⟩:=fun o=> k.cell h.nrow.lt (by omega)
 exact ⟨h.fw.drawn hR k,h.nbl,h.nrow.but k (by omega),(hc _).trans h.n0,(hc _).trans h.n1,(hc _).trans h.n2,h.steps.same hk (by decide) (by decide) (by decide),h.dt⟩
theorem PutD.kept {m:Nat} {w wr w':World} {rb wb nb:Nat} {a:Option Addr} {cap:Nat} {bs:List UInt8} {p:Nat} {v:Value} {L:List Q_} {d:Q_} {ua:Option Addr} {uc:Nat} (h:PutD m w wr rb wb nb a cap bs p v L d ua uc) (k:K_ wr w'):PutD m w w' rb wb nb a cap bs p v L d ua uc:=h.drawn (h.fw.rd.kept k) (.of_kept k)
theorem PutD.mono {m n:Nat} {w wr:World} {rb wb nb:Nat} {a:Option Addr} {cap:Nat} {bs:List UInt8} {p:Nat} {v:Value} {L:List Q_} {d:Q_} {ua:Option Addr} {uc:Nat} (h:PutD m w wr rb wb nb a cap bs p v L d ua uc) (hm:m<=n):PutD n w wr rb wb nb a cap bs p v L d ua uc:=
 ⟨h.fw.mono hm,h.nbl,h.nrow,h.n0,h.n1,h.n2,h.steps,h.dt.mono hm⟩
theorem FinW.node {m:Nat} {w wr:World} {rb wb nb n:Nat} {a:Option Addr} {cap:Nat} {bs:List UInt8} {p:Nat} {v:Value} {L:List Q_} (h:FinW m w wr rb wb a cap bs p v L) (hn:w.heap.size<=nb) (hr:RowT wr nb 30 n) (hx:0 < L.length->∀g n c,v= .slice (some g) n c->g.block≠nb) (o:Nat) (x:Value):FinW m w (wr.setCell ⟨nb,o,none⟩ x) rb wb a cap bs p v L:=by
 obtain ⟨p0,h0⟩:=h.rd0
 have hbl:Below w.heap.size wr (wr.setCell ⟨nb,o,none⟩ x):= (Below.refl _ _).setCell (p:= ⟨nb,o,none⟩) hn _
 have hk:=hr.same (o:=o) x
 have hr2:=h.row.sameT hk (by decide)
 refine ⟨h.rd.below h0 hbl h.kb.size,h.rd0,h.wbl,h.kb.below hbl,hr2.1,(hr2.2 0).trans h.c0, ?_,h.tiny,h.fr⟩
 obtain ⟨a',cap',e,hc,hz,q⟩:=h.web
 refine ⟨a',cap',e,hc,hz,fun i hi=> ?_⟩
 obtain ⟨b,o2,cur,fr,y,ea,hb,hrg,ht⟩:=q i hi
 have hne:b≠nb:=by
  have:=hx (by omega) ⟨b,o2,none⟩ _ _ (by rw [e,ea])
  exact this
 have hb': (wr.setCell ⟨nb,o,none⟩ x).heap[b]? =wr.heap[b]? :=Below.heap_setCell _ _ _ _ hne
 exact ⟨b,o2,cur,fr,y,ea,hb'.trans hb,fun j u hu=> by rw [World.cell?_of_block hb'];exact hrg j u hu,ht.same hk (by decide) (by decide) (by decide)⟩
theorem FinW.setWeb {m:Nat} {w wr:World} {rb wb:Nat} {a:Option Addr} {cap:Nat} {bs:List UInt8} {p:Nat} {v v':Value} {L L':List Q_} (h:FinW m w wr rb wb a cap bs p v L) (hG:GNodes wr v' L') (ht: ∀d∈L',d.TinyN m) (hf:Fresh w.heap.size v' L'):FinW m w (wr.setCell ⟨wb,0,none⟩ v') rb wb a cap bs p v' L':=by
 obtain ⟨p0,h0⟩:=h.rd0
 have hbl:Below w.heap.size wr (wr.setCell ⟨wb,0,none⟩ v'):= (Below.refl _ _).setCell (p:= ⟨wb,0,none⟩) h.wbl _
 exact ⟨h.rd.below h0 hbl h.kb.size,h.rd0,h.wbl,h.kb.below hbl,h.row.set _,set_hit h.row.row (by omega) _,hG.same (h.row.same (o:=0) v') (by decide) (by decide) (by decide) (by decide),ht,hf⟩
theorem PutD.setWeb {m:Nat} {w wr:World} {rb wb nb:Nat} {a:Option Addr} {cap:Nat} {bs:List UInt8} {p:Nat} {v v':Value} {L L':List Q_} {d:Q_} {ua:Option Addr} {uc:Nat} (h:PutD m w wr rb wb nb a cap bs p v L d ua uc) (hG:GNodes wr v' L') (ht: ∀d∈L',d.TinyN m) (hf:Fresh w.heap.size v' L'):PutD m w (wr.setCell ⟨wb,0,none⟩ v') rb wb nb a cap bs p v' L' d ua uc:=by
 have hk:=h.fw.row.same (o:=0) v'
 have hr:=h.nrow.sameT hk (by decide)
 exact ⟨h.fw.setWeb hG ht hf,h.nbl,hr.1,(hr.2 _).trans h.n0,(hr.2 _).trans h.n1,(hr.2 _).trans h.n2,h.steps.same hk (by decide) (by decide) (by decide),h.dt⟩
theorem GNodes.apart {w:World} {v:Value} {L:List Q_} (h:GNodes w v L) (hl:0 < L.length): ∀g n c,v= .slice (some g) n c->g.block≠w.heap.size:=fun g n c e=> by
 obtain ⟨a',cap',e',hc,hz,q⟩:=h
 obtain ⟨b,o2,cur,fr,y,ea,hb,_,_⟩:=q 0 hl
 rw [e'] at e
 simp only [Value.slice.injEq] at e
 rw [ea] at e
 obtain ⟨e1,_,_⟩:=e
 simp only [Option.some.injEq] at e1
 subst e1
 have:=heap_lt hb
 simp
 omega
theorem PutD.setName {m:Nat} {w wr:World} {rb wb nb:Nat} {a:Option Addr} {cap:Nat} {bs:List UInt8} {p:Nat} {v:Value} {L:List Q_} {d:Q_} {ua:Option Addr} {uc:Nat} (h:PutD m w wr rb wb nb a cap bs p v L d ua uc) (hx:0 < L.length->∀g n c,v= .slice (some g) n c->g.block≠nb) {c:ByteArray} (hc:c.size<=300):PutD m w (wr.setCell ⟨nb,0,none⟩ (.string c)) rb wb nb a cap bs p v L ⟨c,d.cost,d.steps⟩ ua uc:=
 ⟨h.fw.node h.nbl h.nrow hx 0 _,h.nbl,h.nrow.set _,set_hit h.nrow.row (by omega) _,(Xj (by omega) _).trans h.n1,(Xj (by omega) _).trans h.n2,h.steps.same (h.nrow.same (o:=0) _) (by decide) (by decide) (by decide),⟨hc,h.dt.cost,h.dt.steps,h.dt.each⟩⟩
theorem PutD.setAction {m:Nat} {w wr:World} {rb wb nb:Nat} {a:Option Addr} {cap:Nat} {bs:List UInt8} {p:Nat} {v:Value} {L:List Q_} {d:Q_} {ua:Option Addr} {uc:Nat} (h:PutD m w wr rb wb nb a cap bs p v L d ua uc) (hx:0 < L.length->∀g n c,v= .slice (some g) n c->g.block≠nb) {cost:Int} {xa:Option Addr} {xc:Nat} {LS:List Xz} (hG:GSteps wr (.slice xa LS.length xc) LS) (hco: -1000<=cost∧cost<=1000) (hl:LS.length<=21) (hS: ∀s∈LS,s.TinyN m):
  PutD m w ((wr.setCell ⟨nb,1,none⟩ (.int .i64 cost)).setCell ⟨nb,2,none⟩ (.slice xa LS.length xc)) rb wb nb a cap bs p v L ⟨d.name,cost,LS⟩ xa xc:=by
 have r1:=h.nrow.set (o:=1) (.int .i64 cost)
 have k1:=h.nrow.same (o:=1) (.int .i64 cost)
 have k2:=r1.same (o:=2) (.slice xa LS.length xc)
 exact ⟨(h.fw.node h.nbl h.nrow hx 1 _).node h.nbl r1 hx 2 _,h.nbl,r1.set _,(Xj (by omega) _).trans ((Xj (by omega) _).trans h.n0),(Xj (by omega) _).trans (set_hit h.nrow.row (by omega) _),set_hit r1.row (by omega) _,(hG.same k1 (by decide) (by decide) (by decide)).same k2 (by decide) (by decide) (by decide),⟨h.dt.name,hco,hl,hS⟩⟩
theorem GNodes.off {w w2 w':World} {v:Value} {L:List Q_} {lo:Nat} (h:GNodes w v L) (hf:Fresh lo v L) (k1:SameKind 25 w w2) (k2:SameKind 30 w2 w') (hb: ∀b,lo<=b->w'.heap[b]? =w.heap[b]?):GNodes w' v L:=by
 obtain ⟨a',cap',e,hc,hz,q⟩:=h
 refine ⟨a',cap',e,hc,hz,fun i hi=> ?_⟩
 obtain ⟨b,o2,cur,fr,y,ea,hb0,hrg,ht⟩:=q i hi
 have hlo:lo<=b:=hf (by omega) ⟨b,o2,none⟩ _ _ (by rw [e,ea])
 have hb':=hb b hlo
 exact ⟨b,o2,cur,fr,y,ea,hb'.trans hb0,fun j u hu=> by rw [World.cell?_of_block hb'];exact hrg j u hu,(ht.same k1 (by decide) (by decide) (by decide)).same k2 (by decide) (by decide) (by decide)⟩
theorem heap_setCells_other {g b:Nat} (hb:b≠g): ∀(vs:List Value) (o:Nat) (w:World),(w.setCells g o vs).heap[b]? =w.heap[b]?
 | [],_,_=> rfl
 | v :: r,o,w=> by
  rw [World.setCells,heap_setCells_other hb r (o+1)]
  exact Below.heap_setCell _ _ _ _ hb
def DrawnP (M N:Nat) (B wx:World) (rb wb nb r0 r1:Nat) (a:Option Addr) (cap:Nat) (bs:List UInt8) (s6:Value):Prop:=
 ∃(va:Option Addr) (vc:Nat) (L:List Q_) (d:Q_) (ua:Option Addr) (uc p:Nat),s6= .pointer (some ⟨nb,0,none⟩)∧L.length<=N∧RowT wx r0 25 1∧RowT wx r1 30 3∧PutD M B wx rb wb nb a cap bs p (.slice va L.length vc) L d ua uc
def DrewPut (w w':World) (e:Ending):Prop:=
 ∃(va:Option Addr) (vc:Nat) (L:List Q_) (d:Q_) (ua:Option Addr) (uc:Nat),e= .returned (.tuple #[.agg #[.slice va L.length vc],.agg #[.string d.name,.int .i64 d.cost,.slice ua d.steps.length uc]])∧L.length<=300∧(∀x∈L,x.TinyN 40)∧d.TinyN 40∧
  GNodes w' (.slice va L.length vc) L∧GSteps w' (.slice ua d.steps.length uc) d.steps∧K_ w w'
