import Derived.Test.YteabdfhkoloimaaKDPutD
import Derived.Test.YteabdfhkoloimaaKOPutN
import Derived.Test.YteabdfhkoloimaaKLSame
import Derived.Test.YteabdfhkoloimaaKVEdits
set_option maxRecDepth 100000
set_option maxHeartbeats 25600000
namespace Go.Proofs.Yteabdfhkoloimaa
open Go.RowKit
theorem drawPut_any (w:World) (a:Option Addr) (cap:Nat) (bs:List UInt8) (hB:BytesAt w a bs) (hcap:bs.length<=cap) (hlen:bs.length<=100000000):
  Calls Try.prog 4 #[.slice a bs.length cap] w fun e w'=> DrewPut w w' e:=by
 obtain ⟨A0,hA0⟩: ∃A0,A0= (w.alloc (.cells #[.slice none 0 0] 25)).alloc (.cells #[.string ⟨#[]⟩,.int .i64 0,.slice none 0 0] 30):= ⟨_,rfl⟩
 have k0:K_ w A0:=by rw [hA0];exact ((K_.refl _).alloc _).alloc _
 have hA0s:A0.heap.size=w.heap.size+2:=by rw [hA0];simp
 have HR0:Hid (RowT A0 w.heap.size 25 1):=by rw [hA0];exact (RowT.made w _ _).kept ((K_.refl _).alloc _)
 have HN0:Hid (RowT A0 (w.heap.size+1) 30 3):=by
  rw [hA0]
  have:=RowT.made (w.alloc (.cells #[.slice none 0 0] 25)) #[.string ⟨#[]⟩,.int .i64 0,.slice none 0 0] 30
  rw [World.size_alloc] at this
  exact this
 have HB0:Hid (BytesAt A0 a bs):=fun i hi=> by
  obtain ⟨b,o,e,hb,hc⟩:=hB i hi
  exact ⟨b,o,e,Nat.lt_of_lt_of_le hb k0.size,(k0.cell hb).trans hc⟩
 have HA0s:=Kz hA0s
 clear hB
 go_enter Try.func4,Try.ntmps4
 go_upto_region 1 with fail
 rw [<-hA0]
 clear hA0 hA0s
 go_wp2_with fail
 refine (open_any _ a cap bs HB0.out hcap hlen).mono ?_
 rintro e w1 ⟨rb,rfl,hrb,hR1,k1⟩
 obtain ⟨cs,hcs⟩: ∃cs,cs=bs.take 2000:= ⟨_,rfl⟩
 have hbl:cs.length<=2000:=by rw [hcs,List.length_take];omega
 rw [<-hcs] at hR1
 have K1:=k0.trans k1
 have HRd1:=Kz hR1
 have HR1:=Kz (HR0.out.kept k1)
 have HN1:=Kz (HN0.out.kept k1)
 have hr0:w.heap.size < rb∨rb+1<=w.heap.size:=by have:=HA0s.out;omega
 have hr1:w.heap.size+1 < rb∨rb+1<=w.heap.size+1:=by have:=HA0s.out;omega
 have hwr:w.heap.size<=rb:=by have:=HA0s.out;omega
 have z1:w.heap.size+2<=w1.heap.size:=by have:=HA0s.out;have:=HRd1.out.row.lt;omega
 clear hcs hR1 k1 HR0 HN0 HB0
 go_wp2_with fail
 refine (anyW_any _ rb a cap cs 0 HRd1.out (by omega) hbl).mono ?_
 rintro e w2 ⟨v,L,p2,rfl,hp2,hp2',hl,hty,hG,hR2,kb2,hf2⟩
 obtain ⟨va,vc,rfl,_,_⟩:=hG.slice
 have kw:K_ w2 (w2.alloc (.cells #[.slice va L.length vc] 25)):= (K_.refl _).alloc _
 have HF1:=Kz (FinW.made HRd1.out hR2 kb2 hG hty hf2)
 have HR2:=Kz ((HR1.out.but kb2 hr0).kept kw)
 have HN2:=Kz ((HN1.out.but kb2 hr1).kept kw)
 clear hty hG hR2 kb2 kw HR1 HN1
 go_wp2_with fail
 refine (pick_at _ rb a cap cs p2 _ 14 rfl HF1.out.rd (by omega) (by omega) hbl).mono ?_
 rintro e w3 ⟨v3,rfl,hv3,hR3,kb3⟩
 have HF3:=Kz (HF1.out.drawn hR3 kb3)
 have HR3:=Kz (HR2.out.but kb3 hr0)
 have HN3:=Kz (HN2.out.but kb3 hr1)
 clear hR3 kb3 HF1 HR2 HN2
 go_wp2_with fail
 refine (label_at _ v3 _ rfl (by omega)).mono ?_
 rintro e w4 ⟨nm,rfl,hnm,k4⟩
 have HF4:=Kz (HF3.out.kept k4)
 have HR4:=Kz (HR3.out.kept k4)
 have HN4:=Kz (HN3.out.kept k4)
 clear k4 HF3 HR3 HN3
 go_wp2_with fail
 refine (drawAction_at _ rb a cap cs (p2+1) 4 8 _ _ rfl rfl HF4.out.rd (by omega) (by omega) (by omega) hbl).mono ?_
 rintro e w5 ⟨cost,us,LS,p5,rfl,hp5,hp5',hl1,hl20,hcost,hts,hTS,hR5,kb5⟩
 have HF5:=Kz (HF4.out.drawn hR5 kb5)
 have hG5:=hTS.g
 obtain ⟨sa,sc,rfl⟩:=hG5.slice
 have kn:K_ w5 (w5.alloc (.cells #[.string nm,.int .i64 cost,.slice sa LS.length sc] 30)):= (K_.refl _).alloc _
 have hrn:=Zx w5 #[.string nm,.int .i64 cost,.slice sa LS.length sc] 30
 have q0:=hrn 0 _ rfl
 have q1:=hrn 1 _ rfl
 have q2:=hrn 2 _ rfl
 simp only [Nat.zero_add] at q0 q1 q2
 have HP5:Hid (PutD 30 w1 (w5.alloc (.cells #[.string nm,.int .i64 cost,.slice sa LS.length sc] 30)) rb w2.heap.size w5.heap.size a cap cs p5 (.slice va L.length vc) L ⟨nm,cost,LS⟩ sa sc):=
  ⟨HF5.out.kept kn,HF5.out.kb.size,RowT.made w5 _ _,q0,q1,q2,hG5.same (u:=25) (.of_kept kn) (by decide) (by decide) (by decide),⟨by show nm.size<=300;omega,hcost,by show LS.length<=21;omega,fun s hs=> (hts s hs).mono (by omega)⟩⟩
 have HAp:Hid (0 < L.length->∀g n c,Value.slice va L.length vc= .slice (some g) n c->g.block≠w5.heap.size):=HF5.out.web.apart
 have HR5:=Kz ((HR4.out.but kb5 hr0).kept kn)
 have HN5:=Kz ((HN4.out.but kb5 hr1).kept kn)
 clear hG5 hTS hR5 kb5 kn hrn q0 q1 q2 hts hcost hl1 hl20 HF4 HF5 HR4 HN4
 go_wp2_with fail
 refine (pick_at _ rb a cap cs p5 _ 10 rfl HP5.out.fw.rd (by omega) (by omega) hbl).mono ?_
 rintro e w6 ⟨v6,rfl,hv6,hR6,kb6⟩
 have HP6:=Kz (HP5.out.drawn hR6 kb6)
 have HR6:=Kz (HR5.out.but kb6 hr0)
 have HN6:=Kz (HN5.out.but kb6 hr1)
 clear hR6 kb6 HP5 HR5 HN5
 go_upto_block 0 with fail
 go_cut [6] from 19 to 38 (fun s6 wx=> DrawnP 40 300 w1 wx rb w2.heap.size w5.heap.size w.heap.size (w.heap.size+1) a cap cs s6)
 case rest=>
  obtain ⟨xa,xc,L',d,ua,uc,p',rfl,hL',hres,hnod,hP⟩:=hcut
  obtain ⟨wE,rfl⟩: ∃wE,wE=wc:= ⟨_,rfl⟩
  have HP:=Kz hP
  have HRs:=Kz hres
  have HNs:=Kz hnod
  clear hP hres hnod HP6 HR6 HN6
  have hb1:=HP.out.fw.wbl
  have hb2:=HP.out.nbl
  have hS: (fun (v:World)=> v.cell? ⟨w2.heap.size,0,none⟩=some (.slice xa L'.length xc)∧v.cell? ⟨w5.heap.size,0,none⟩=some (.string d.name)∧v.cell? ⟨w5.heap.size,1,none⟩=some (.int .i64 d.cost)∧v.cell? ⟨w5.heap.size,2,none⟩=some (.slice ua d.steps.length uc)) wE:= ⟨HP.out.fw.c0,HP.out.n0,HP.out.n1,HP.out.n2⟩
  have HS:=Kz hS
  obtain ⟨⟨_,x0⟩,g0⟩:=HRs.out.row.at (i:=0) (by omega)
  have xz:=HRs.out.lt
  clear hS
  go_upto_region 11 with fail
  refine Qj.region (by kernel_rfl) (fun (v:World)=> v.cell? ⟨w2.heap.size,0,none⟩=some (.slice xa L'.length xc)∧v.cell? ⟨w5.heap.size,0,none⟩=some (.string d.name)∧v.cell? ⟨w5.heap.size,1,none⟩=some (.int .i64 d.cost)∧v.cell? ⟨w5.heap.size,2,none⟩=some (.slice ua d.steps.length uc)) 3 HS.out (fun Qk=> ?_)
  refine Qj.tk 0 Qk ?_
  refine Qj.tk 1 Qk ?_
  have hS2: (fun (v:World)=> v.cell? ⟨w2.heap.size,0,none⟩=some (.slice xa L'.length xc)∧v.cell? ⟨w5.heap.size,0,none⟩=some (.string d.name)∧v.cell? ⟨w5.heap.size,1,none⟩=some (.int .i64 d.cost)∧v.cell? ⟨w5.heap.size,2,none⟩=some (.slice ua d.steps.length uc)) (wE.drew.setCell ⟨w.heap.size,0,none⟩ (.slice xa L'.length xc)):=by
   have hs:=HS.out
   refine ⟨?_, ?_, ?_, ?_⟩ <;> rw [World.cell?_setCell_other _ _ _ _ (by simp <;> omega)]
   ·exact hs.1
   ·exact hs.2.1
   ·exact hs.2.2.1
   ·exact hs.2.2.2
  refine Qj.nx 2 (fun K hK=> ?_)
  go_simp
  refine hK.out _ _ (fun _=> hS2) ?_
  clear hK K Qk
  try simp only [Act.put,upA,upB,upC]
  have r9:RowT (wE.drew.setCell ⟨w.heap.size,0,none⟩ (.slice xa L'.length xc)) (w.heap.size+1) 30 3:= (HNs.out.kept ((K_.refl wE).drew)).block (Below.heap_setCell _ _ _ _ (by simp))
  have k8:= (HRs.out.kept ((K_.refl wE).drew)).same (o:=0) (.slice xa L'.length xc)
  have hk9:=r9.setCells [.string d.name,.int .i64 d.cost,.slice ua d.steps.length uc] 0
  have HR9:=Kz r9
  refine Qj.nx 3 (fun K hK=> ?_)
  rw [if_pos (by rfl)]
  refine wp_store_mid 30 _ _ rfl (w.heap.size+1) 0 #[.string d.name,.int .i64 d.cost,.slice ua d.steps.length uc] (by rfl) (by rfl) (HR9.out.row.there (by simp)) (by kernel_rfl) (nod_one ..) ?_
  refine hK.out _ _ (fun h=> absurd rfl h) ?_
  clear hK K
  try simp only [Act.put]
  refine Qj.dn ?_
  go_wp2
  have hrA: ((wE.drew.setCell ⟨w.heap.size,0,none⟩ (.slice xa L'.length xc)).setCells (w.heap.size+1) 0 [.string d.name,.int .i64 d.cost,.slice ua d.steps.length uc]).rangeAt w.heap.size 0 [.slice xa L'.length xc]:=World.rangeAt_setCells_apart (range_one (set_hit (HRs.out.kept ((K_.refl wE).drew)).row (by omega) _)) _ _ _ (.inl (by simp))
  have hrB: ((wE.drew.setCell ⟨w.heap.size,0,none⟩ (.slice xa L'.length xc)).setCells (w.heap.size+1) 0 [.string d.name,.int .i64 d.cost,.slice ua d.steps.length uc]).rangeAt (w.heap.size+1) 0 [.string d.name,.int .i64 d.cost,.slice ua d.steps.length uc]:=World.rangeAt_setCells_same _ _ _ _ (HR9.out.row.there (by simp))
  have hbk: ∀b,w1.heap.size<=b->((wE.drew.setCell ⟨w.heap.size,0,none⟩ (.slice xa L'.length xc)).setCells (w.heap.size+1) 0 [.string d.name,.int .i64 d.cost,.slice ua d.steps.length uc]).heap[b]? =wE.heap[b]? :=fun b hb=> by
   rw [heap_setCells_other (by omega)]
   exact Below.heap_setCell _ _ _ _ (by simp;omega)
  have hKk:K_ w wE:=HP.out.fw.kb.kept K1 hwr
  refine bodyPost_ret_cells [.slice xa L'.length xc] [.string d.name,.int .i64 d.cost,.slice ua d.steps.length uc] _ _ Try.results4 rfl hrA Try.underlying25 rfl Try.sizeWebW rfl hrB Try.underlying30 rfl Try.sizeNodeW rfl ⟨xa,xc,L',d,ua,uc,rfl,hL',HP.out.fw.tiny,HP.out.dt, ?_, ?_, ?_⟩
  ·exact (HP.out.fw.web.kept ((K_.refl wE).drew)).off HP.out.fw.fr k8 hk9.2 hbk
  ·exact ((HP.out.steps.same (u:=25) (.of_kept ((K_.refl wE).drew)) (by decide) (by decide) (by decide)).same k8 (by decide) (by decide) (by decide)).same hk9.2 (by decide) (by decide) (by decide)
  ·exact K_.setCells (by omega) _ _ ((hKk.drew).setCell (by simp) _)
 case first=>
  have hb1:=HP6.out.fw.wbl
  have hb2:=HP6.out.nbl
  have y6:=HP6.out.fw.c0
  have zb6:=HP6.out.fw.row.lt
  have n0:=HP6.out.n0
  have n1:=HP6.out.n1
  have n2:=HP6.out.n2
  have nz:=HP6.out.nrow.lt
  by_cases h0:v6=0
  ·have e0: ((v6:Int) == 0)=true:=by simp [h0]
   clear h0
   have K7:K_ w6 (w6.alloc (.cells #[.string ⟨#[]⟩,.string ⟨#[45]⟩,.string ⟨#[97,44,98]⟩] 9)):= (K_.refl _).alloc _
   have HP7:=Kz (HP6.out.kept K7)
   have HR7:=Kz (HR6.out.kept K7)
   have HN7:=Kz (HN6.out.kept K7)
   have hlits: ∀c∈([⟨#[]⟩,⟨#[45]⟩,⟨#[97,44,98]⟩]:List ByteArray),c.size<=300:=by
    intro c hc
    simp only [List.mem_cons,List.not_mem_nil,or_false] at hc
    rcases hc with rfl | rfl | rfl <;> decide
   have hrb6:=HP6.out.fw.rd.row.lt
   clear K7 y6 zb6 n0 n1 n2 nz
   go_wp2_with fail
   refine (pick_at _ rb a cap cs (p5+1) _ 3 rfl HP7.out.fw.rd (by omega) (by omega) hbl).mono ?_
   rintro e w8 ⟨q,rfl,hq,hR8,kb8⟩
   have HP8:=Kz (HP7.out.drawn hR8 kb8)
   have HR8:=Kz (HR7.out.but kb8 hr0)
   have HN8:=Kz (HN7.out.but kb8 hr1)
   obtain ⟨c,hc,hcz⟩:=lit_str [⟨#[]⟩,⟨#[45]⟩,⟨#[97,44,98]⟩] kb8 hrb6 q (by show q < 3;omega) hlits
   have lz:w6.heap.size < w8.heap.size:=Nat.lt_of_lt_of_le (by simp) kb8.size
   obtain ⟨⟨_,u0⟩,f0⟩:=HP8.out.nrow.row.at (i:=0) (by omega)
   have nz:=HP8.out.nrow.lt
   have hqn: (q:Int) < 3:=by omega
   clear hR8 kb8 hlits
   go_wp2_with fail
   go_meet
   exact ⟨va,vc,L,_,_,_,p5+2,rfl,by omega,HR8.out.block (Below.heap_setCell _ _ _ _ (by simp;omega)),HN8.out.block (Below.heap_setCell _ _ _ _ (by simp;omega)),(HP8.out.setName HAp.out hcz).mono (by omega)⟩
  have e0: ((v6:Int) == 0)=false:=by simpa using h0
  by_cases h1:v6=1
  ·have e1: ((v6:Int) == 1)=true:=by simp [h1]
   clear h0 h1
   have HSt:Hid (StepsN w6 sa LS):=by
    obtain ⟨a9,c9,e9,_,hS⟩:=HP6.out.steps.stepsN
    simp only [Value.slice.injEq,true_and] at e9
    obtain ⟨rfl,rfl⟩:=e9
    exact hS
   go_wp2_with fail
   refine (spoil_any 30 (by omega) _ rb a cap cs (p5+1) cost sa sc LS HP6.out.fw.rd (by omega) hbl HP6.out.dt.steps HP6.out.dt.cost HP6.out.dt.each HSt.out).mono ?_
   rintro e w8 ⟨cost2,u2,LS2,p8,rfl,hp8,hp8',hl8,hco8,hty8,hSW,hR8,kb8⟩
   have HP8:=Kz ((HP6.out.drawn hR8 kb8).mono (n:=40) (by omega))
   have HR8:=Kz (HR6.out.but kb8 hr0)
   have HN8:=Kz (HN6.out.but kb8 hr1)
   have HG8:=Kz hSW.g
   obtain ⟨xa,xc,rfl⟩:=HG8.out.slice
   obtain ⟨⟨_,u1⟩,f1⟩:=HP8.out.nrow.row.at (i:=1) (by omega)
   obtain ⟨⟨_,u2⟩,f2⟩:=HP8.out.nrow.row.at (i:=2) (by omega)
   have nz8:=HP8.out.nrow.lt
   have HA8:=Kz (HP8.out.setAction HAp.out HG8.out hco8 hl8 hty8)
   clear hSW hR8 kb8
   go_wp2_with fail
   go_meet
   exact ⟨va,vc,L,_,_,_,p8,rfl,by omega,(HR8.out.block (Below.heap_setCell _ _ _ _ (by simp;omega))).block (Below.heap_setCell _ _ _ _ (by simp;omega)),(HN8.out.block (Below.heap_setCell _ _ _ _ (by simp;omega))).block (Below.heap_setCell _ _ _ _ (by simp;omega)),HA8.out⟩
  have e1: ((v6:Int) == 1)=false:=by rw [beq_eq_false_iff_ne];omega
  by_cases h2:v6=2
  ·have e2: ((v6:Int) == 2)=true:=by simp [h2]
   clear h0 h1 h2
   go_wp2_with fail
   refine (spoilW_any 30 (by omega) _ rb a cap cs (p5+1) va vc L HP6.out.fw.rd (by omega) hbl hl HP6.out.fw.tiny HP6.out.fw.web).mono ?_
   rintro e w8 ⟨v8,L8,p8,rfl,hp8,hp8',hl8,hty8,hG8,hR8,kb8,hf8⟩
   obtain ⟨xa,xc,rfl,_,_⟩:=hG8.slice
   have HP8:=Kz ((HP6.out.drawn hR8 kb8).mono (n:=40) (by omega))
   have HR8:=Kz (HR6.out.but kb8 hr0)
   have HN8:=Kz (HN6.out.but kb8 hr1)
   obtain ⟨⟨_,u0⟩,f0⟩:=HP8.out.fw.row.row.at (i:=0) (by omega)
   have zb8:=HP8.out.fw.row.lt
   have hf9:Fresh w1.heap.size (.slice xa L8.length xc) L8:=hf8.mono HP6.out.fw.kb.size
   have HW8:=Kz (HP8.out.setWeb hG8 hty8 hf9)
   clear hG8 hty8 hf8 hf9 hR8 kb8
   go_wp2_with fail
   go_meet
   exact ⟨xa,xc,L8,_,_,_,p8,rfl,by omega,HR8.out.block (Below.heap_setCell _ _ _ _ (by simp;omega)),HN8.out.block (Below.heap_setCell _ _ _ _ (by simp;omega)),HW8.out⟩
  have e2: ((v6:Int) == 2)=false:=by rw [beq_eq_false_iff_ne];omega
  clear h0 h1 h2
  go_wp2_with fail
  go_meet
  exact ⟨va,vc,L,_,_,_,p5+1,rfl,by omega,HR6.out,HN6.out,HP6.out.mono (by omega)⟩
theorem Q_.TinyN.small {m:Nat} {d:Q_} (h:d.TinyN m) (hm:m<=1000):d.Small:=by
 have h1:=h.name
 have h2:=h.steps
 refine ⟨by omega,by omega,fun s hs=> ?_⟩
 have t:=h.each s hs
 have t1:=t.asks
 have t2:=t.cases
 have t3:=t.give
 exact ⟨by omega,fun x hx=> by have:=t.askEach x hx;omega,by omega,fun c hc=> by have:= (t.caseEach c hc).1;omega,by omega⟩
theorem GNodes.nilOr {w:World} {a:Option Addr} {n cap:Nat} {l:List Q_} (h:GNodes w (.slice a n cap) l):NilOr a cap l∧l.length<=cap:=by
 obtain ⟨a',cap',e,hc,hz,q⟩:=h
 simp only [Value.slice.injEq] at e
 obtain ⟨rfl,rfl,rfl⟩:=e
 refine ⟨?_,hc⟩
 cases a with
 | none=>
  have:=hz.1 rfl
  exact .inl ⟨rfl,this,List.eq_nil_of_length_eq_zero (by omega)⟩
 | some ad=>
  obtain ⟨b,o,sp⟩:=ad
  have:=hz.2 _ rfl
  simp only at this
  subst this
  exact .inr ⟨b,o,rfl⟩
theorem NodesIn.nilOr {w:World} {lo hi:Nat} {a:Option Addr} {l:List Q_} (h:NodesIn w lo hi a l) (hz:l=[]->a=none):NilOr a l.length l:=by
 rcases h with rfl | ⟨b,c,rfl,_⟩
 ·exact .inl ⟨hz rfl,rfl,rfl⟩
 ·exact .inr ⟨b,0,rfl⟩
theorem tiny_steps {m:Nat} {l:List Q_} (hm:m<=1000) (h: ∀d∈l,d.TinyN m): ∀d∈l,d.steps.length<=1048576∧∀s∈d.steps,s.asks.length<=1048576∧s.cases.length<=1048576:=fun d hd=> by
 have t:=h d hd
 have t1:=t.steps
 exact ⟨by omega,fun s hs=> by have a1:= (t.each s hs).asks;have a2:= (t.each s hs).cases;exact ⟨by omega,by omega⟩⟩
theorem lawEdits (w:World) (a:Option Addr) (cap:Nat) (bs:List UInt8) (hB:BytesAt w a bs) (hcap:bs.length<=cap):
  Calls Try.prog 3 #[.slice a bs.length cap] w fun e w'=> e= .returned (.bool true)∧K_ w w':=by
 by_cases hbig: (1048576:Int) < (bs.length:Int)
 ·go_enter Try.func3,Try.ntmps3
  go_wp2
  go_ret
  exact ⟨rfl,K_.refl _⟩
 go_enter Try.func3,Try.ntmps3
 go_wp2_with fail
 refine (drawPut_any _ a cap bs hB hcap (by omega)).mono ?_
 rintro e w1 ⟨va,vc,L,d,ua,uc,rfl,hL,hty,hdt,hG,hSt,k1⟩
 have HZ:=Kz hG.nilOr
 have HN:=Kz hG.nodes
 have HNG:=Kz hG.nodesG
 have HSs:=Kz hSt.steps
 have HSn:Hid (StepsN w1 ua d.steps):=by
  obtain ⟨a9,c9,e9,_,hS⟩:=hSt.stepsN
  simp only [Value.slice.injEq,true_and] at e9
  obtain ⟨rfl,rfl⟩:=e9
  exact hS
 have HTy:=Kz hty
 have HDt:=Kz hdt
 have hL2:L.length<=1048576:=by omega
 have hL3:L.length<=1000:=by omega
 clear hG hSt hty hdt
 obtain ⟨W2,hW2⟩: ∃W2,W2= (w1.alloc (.cells #[.slice va L.length vc] 25)).alloc (.cells #[.string d.name,.int .i64 d.cost,.slice ua d.steps.length uc] 30):= ⟨_,rfl⟩
 have K2:K_ w1 W2:=by rw [hW2];exact ((K_.refl _).alloc _).alloc _
 have hb0:=K_.range (w':=W2) (by rw [hW2];exact (K_.refl _).alloc _) (by simp) (Zx w1 #[.slice va L.length vc] 25)
 have hn0:=Zx (w1.alloc (.cells #[.slice va L.length vc] 25)) #[.string d.name,.int .i64 d.cost,.slice ua d.steps.length uc] 30
 rw [<-hW2,World.size_alloc] at hn0
 have v0:=hb0 0 _ rfl
 have n0:=hn0 0 _ rfl
 have n1:=hn0 1 _ rfl
 have n2:=hn0 2 _ rfl
 simp only [Nat.zero_add] at v0 n0 n1 n2
 have zn:w1.heap.size+1 < W2.heap.size:=by rw [hW2];simp
 have zv:w1.heap.size < W2.heap.size:=by omega
 go_upto_region 4 with fail
 rw [<-hW2]
 clear hW2 hb0 hn0
 go_wp2_with fail
 refine (implPutN_any _ va vc L d ua uc HZ.out.1 hL2 HZ.out.2 (fun x hx=> (HTy.out x hx).fits (by omega)) (fun x hx=> (HTy.out x hx).small (by omega)) (HDt.out.fits (by omega)) (HDt.out.small (by omega)) (HN.out.kept K2) (HSs.out.kept K2)).mono ?_
 rintro e w3 ⟨a3,c3,c,r,rfl,hPR,hN3,k3,hc3,hz3⟩
 subst hc3
 have HPR:=Kz hPR
 have HN3:=Kz hN3.nodes
 have HZ3:=Kz (hN3.nilOr hz3)
 have K3:=K2.trans k3
 have v3:= (k3.cell (o:=0) zv).trans v0
 have m0:= (k3.cell (o:=0) zn).trans n0
 have m1:= (k3.cell (o:=1) zn).trans n1
 have m2:= (k3.cell (o:=2) zn).trans n2
 have zv3:=Nat.lt_of_lt_of_le zv k3.size
 have zn3:=Nat.lt_of_lt_of_le zn k3.size
 have hrl:r.length<=60:=hPR.len
 have HTr:=Kz (hPR.tiny HTy.out HDt.out)
 clear hPR hN3 k3 v0 n0 n1 n2 hz3 K2
 obtain ⟨W4,hW4⟩: ∃W4,W4=w3.alloc (.cells #[.slice a3 r.length r.length] 25):= ⟨_,rfl⟩
 have K4:K_ w3 W4:=by rw [hW4];exact (K_.refl _).alloc _
 have x4:W4.cell? ⟨w3.heap.size,0,none⟩=some (.slice a3 r.length r.length):=by rw [hW4];exact Zx w3 #[.slice a3 r.length r.length] 25 0 _ rfl
 have zx4:w3.heap.size < W4.heap.size:=by rw [hW4];simp
 go_upto_region 5 with fail
 rw [<-hW4]
 clear hW4
 have v4:= (K4.cell (o:=0) zv3).trans v3
 have q0:= (K4.cell (o:=0) zn3).trans m0
 have q1:= (K4.cell (o:=1) zn3).trans m1
 have q2:= (K4.cell (o:=2) zn3).trans m2
 have zv4:=Nat.lt_of_lt_of_le zv3 K4.size
 have zn4:=Nat.lt_of_lt_of_le zn3 K4.size
 have KA:=K3.trans K4
 clear v3 m0 m1 m2
 go_wp2_with fail
 refine (putG_any _ va vc L d ua uc (mN:=40) (by omega) hL3 HTy.out HDt.out (HNG.out.kept KA) (HN.out.kept KA) (HSn.out.kept KA) (HSs.out.kept KA)).mono ?_
 rintro e w5 ⟨a5,c5,c',r',xs5,base5,rfl,hPR',hb5,hO5,hP5,k5⟩
 obtain ⟨rfl,rfl⟩:=HPR.out.unique hPR'
 have HN5:=Kz (GNodes.of_owned hO5 hP5).nodes
 have x5:= (k5.cell (o:=0) zx4).trans x4
 have v5:= (k5.cell (o:=0) zv4).trans v4
 have p0:= (k5.cell (o:=0) zn4).trans q0
 have p1:= (k5.cell (o:=1) zn4).trans q1
 have p2:= (k5.cell (o:=2) zn4).trans q2
 have zx5:=Nat.lt_of_lt_of_le zx4 k5.size
 have zn5:=Nat.lt_of_lt_of_le zn4 k5.size
 have K35:=K4.trans k5
 clear hPR' hb5 hO5 hP5 x4 v4 q0 q1 q2
 obtain ⟨W6,hW6⟩: ∃W6,W6=w5.alloc (.cells #[.slice a5 r.length c5] 25):= ⟨_,rfl⟩
 have K6:K_ w5 W6:=by rw [hW6];exact (K_.refl _).alloc _
 have y6:W6.cell? ⟨w5.heap.size,0,none⟩=some (.slice a5 r.length c5):=by rw [hW6];exact Zx w5 #[.slice a5 r.length c5] 25 0 _ rfl
 have zy6:w5.heap.size < W6.heap.size:=by rw [hW6];simp
 go_upto_region 6 with fail
 rw [<-hW6]
 clear hW6
 have x6:= (K6.cell (o:=0) zx5).trans x5
 have i0:= (K6.cell (o:=0) zn5).trans p0
 have i1:= (K6.cell (o:=1) zn5).trans p1
 have i2:= (K6.cell (o:=2) zn5).trans p2
 have zx6:=Nat.lt_of_lt_of_le zx5 K6.size
 have zn6:=Nat.lt_of_lt_of_le zn5 K6.size
 have K36:=K35.trans K6
 clear x5 v5 p0 p1 p2
 go_wp2_with fail
 refine (wWeb_yes _ a3 a5 r.length c5 r (by omega) (tiny_steps (m:=40) (by omega) HTr.out) (HN3.out.kept K36) (HN5.out.kept K6)).mono ?_
 rintro e w7 ⟨rfl,k7⟩
 have x7:= (k7.cell (o:=0) zx6).trans x6
 have j0:= (k7.cell (o:=0) zn6).trans i0
 have j1:= (k7.cell (o:=1) zn6).trans i1
 have j2:= (k7.cell (o:=2) zn6).trans i2
 have zx7:=Nat.lt_of_lt_of_le zx6 k7.size
 have zn7:=Nat.lt_of_lt_of_le zn6 k7.size
 have K37:=K36.trans k7
 have K07:K_ w w7:= (k1.trans K3).trans K37
 clear x6 i0 i1 i2 y6 zy6 K6 k7 K36 K35 k5 K4
 by_cases hc0:c=0
 ·have HC:Hid (WebCode L 0∧NameOk d.name∧ActionOk ⟨d.cost,d.steps⟩∧(putIn L d).length<=60∧r=putIn L d):=by
   rcases HPR.out with ⟨_,h,_⟩ | ⟨_,_,h,_⟩ | ⟨_,_,_,_,h,_⟩ | ⟨h1,h2,h3,h4,_,h5⟩
   ·omega
   ·omega
   ·omega
   ·exact ⟨h1,h2,h3,h4,h5⟩
  subst hc0
  have HCr:Hid (WebCode r 0):=by show WebCode r 0;rw [HC.out.2.2.2.2];exact put_code HC.out.1 HC.out.2.1 HC.out.2.2.1 HC.out.2.2.2.1
  go_wp2_with fail
  refine (implCheckWeb_any ascSaid _ a3 r.length r (by unfold maxLen;omega) (fun x hx=> (HTr.out x hx).fits (by omega)) (HN3.out.kept K37)).mono ?_
  rintro e w8 ⟨⟨c8,rfl,hc8⟩,k8⟩
  obtain rfl:=hc8.unique HCr.out
  have x8:= (k8.cell (o:=0) zx7).trans x7
  have s0:= (k8.cell (o:=0) zn7).trans j0
  have s1:= (k8.cell (o:=1) zn7).trans j1
  have s2:= (k8.cell (o:=2) zn7).trans j2
  have zx8:=Nat.lt_of_lt_of_le zx7 k8.size
  have zn8:=Nat.lt_of_lt_of_le zn7 k8.size
  have K38:=K37.trans k8
  have K08:=K07.trans k8
  have hnm:d.name.size<=maxLen:=by have:=HDt.out.name;unfold maxLen;omega
  clear x7 j0 j1 j2 hc8 k8 K37 K07
  go_wp2_with fail
  refine (implDropN_any _ a3 r.length r d.name hnm (by omega) (Nat.le_refl _) (fun x hx=> (HTr.out x hx).fits (by omega)) (fun x hx=> (HTr.out x hx).small (by omega)) (HN3.out.kept K38)).mono ?_
  rintro e w9 ⟨a9,c9,c',y,rfl,hDR,hN9,k9,hc9,hz9⟩
  subst hc9
  have hyy:c'=0∧y=L.filter (otherN d.name.toList):=by
   rw [HC.out.2.2.2.2] at hDR
   exact put_drop HC.out.1 HC.out.2.1 (by rw [<-HC.out.2.2.2.2];exact HCr.out) hDR
  obtain ⟨rfl,hy⟩:=hyy
  have hyl:y.length+1=r.length:=by rw [hy,HC.out.2.2.2.2];exact (putIn_length (rises_of_code HC.out.1)).symm
  have HY:=Kz hy
  have HTY:Hid (∀x∈y,x.TinyN 40):=fun x hx=> HTy.out x (by rw [hy] at hx;exact (List.mem_filter.1 hx).1)
  have HN9:=Kz hN9.nodes
  have HZ9:=Kz (hN9.nilOr hz9)
  have x9:= (k9.cell (o:=0) zx8).trans x8
  have t0:= (k9.cell (o:=0) zn8).trans s0
  have t1:= (k9.cell (o:=1) zn8).trans s1
  have t2:= (k9.cell (o:=2) zn8).trans s2
  have zx9:=Nat.lt_of_lt_of_le zx8 k9.size
  have zn9:=Nat.lt_of_lt_of_le zn8 k9.size
  have K39:=K38.trans k9
  have K09:=K08.trans k9
  clear x8 s0 s1 s2 hDR hN9 hz9 k9 K38 K08 hy
  have hye: ((r.length:Int) - 1)= (y.length:Int):=by omega
  have hyw:IntKind.i64.wrap (y.length:Int)= (y.length:Int):=by simp [IntKind.wrap,IntKind.bits,IntKind.signed];omega
  obtain ⟨WA,hWA⟩: ∃WA,WA=w9.alloc (.cells #[.slice a9 y.length y.length] 25):= ⟨_,rfl⟩
  have KA9:K_ w9 WA:=by rw [hWA];exact (K_.refl _).alloc _
  have yA:WA.cell? ⟨w9.heap.size,0,none⟩=some (.slice a9 y.length y.length):=by rw [hWA];exact Zx w9 #[.slice a9 y.length y.length] 25 0 _ rfl
  have zyA:w9.heap.size < WA.heap.size:=by rw [hWA];simp
  have xA:= (KA9.cell (o:=0) zx9).trans x9
  have uA0:= (KA9.cell (o:=0) zn9).trans t0
  have uA1:= (KA9.cell (o:=1) zn9).trans t1
  have uA2:= (KA9.cell (o:=2) zn9).trans t2
  have zxA:=Nat.lt_of_lt_of_le zx9 KA9.size
  have znA:=Nat.lt_of_lt_of_le zn9 KA9.size
  have KAB:=K09.trans KA9
  have HYl:=Kz hyl
  have hy60:y.length<=60:=by omega
  clear t0 t1 t2 x9 hyl
  go_upto_region 13 with fail
  rw [<-hWA]
  clear hWA
  go_wp2_with fail
  refine (implPutN_any _ a9 y.length y d ua uc HZ9.out (by omega) (Nat.le_refl _) (fun x hx=> (HTY.out x hx).fits (by omega)) (fun x hx=> (HTY.out x hx).small (by omega)) (HDt.out.fits (by omega)) (HDt.out.small (by omega)) (HN9.out.kept KA9) (HSs.out.kept ((K3.trans K39).trans KA9))).mono ?_
  rintro e wB ⟨aB,cB,cf,z,rfl,hPB,hNB,kB,hcB,hzB⟩
  subst hcB
  have hzz:cf=0∧z=r:=by
   rw [HC.out.2.2.2.2]
   rw [HY.out] at hPB
   exact put_again HC.out.1 HC.out.2.1 HC.out.2.2.1 HC.out.2.2.2.1 hPB
  obtain ⟨rfl,rfl⟩:=hzz
  have HNB:=Kz hNB.nodes
  have yB:= (kB.cell (o:=0) zyA).trans yA
  have xB:= (kB.cell (o:=0) zxA).trans xA
  have uB0:= (kB.cell (o:=0) znA).trans uA0
  have zyB:=Nat.lt_of_lt_of_le zyA kB.size
  have zxB:=Nat.lt_of_lt_of_le zxA kB.size
  have znB:=Nat.lt_of_lt_of_le znA kB.size
  have K9B:=KA9.trans kB
  have K0B:=KAB.trans kB
  clear yA xA uA0 uA1 uA2 hPB hNB hzB kB
  obtain ⟨WC,hWC⟩: ∃WC,WC=wB.alloc (.cells #[.slice aB z.length z.length] 25):= ⟨_,rfl⟩
  have KC:K_ wB WC:=by rw [hWC];exact (K_.refl _).alloc _
  have zC:WC.cell? ⟨wB.heap.size,0,none⟩=some (.slice aB z.length z.length):=by rw [hWC];exact Zx wB #[.slice aB z.length z.length] 25 0 _ rfl
  have zzC:wB.heap.size < WC.heap.size:=by rw [hWC];simp
  have yC:= (KC.cell (o:=0) zyB).trans yB
  have xC:= (KC.cell (o:=0) zxB).trans xB
  have uC0:= (KC.cell (o:=0) znB).trans uB0
  have zyC:=Nat.lt_of_lt_of_le zyB KC.size
  have zxC:=Nat.lt_of_lt_of_le zxB KC.size
  have znC:=Nat.lt_of_lt_of_le znB KC.size
  clear yB xB uB0
  go_upto_region 16 with fail
  rw [<-hWC]
  clear hWC
  go_wp2_with fail
  refine (implDropN_any _ a9 y.length y d.name hnm (by omega) (Nat.le_refl _) (fun x hx=> (HTY.out x hx).fits (by omega)) (fun x hx=> (HTY.out x hx).small (by omega)) (HN9.out.kept (K9B.trans KC))).mono ?_
  rintro e wD ⟨aD,cD,cg,yD,rfl,hDD,hND,kD,hcD,hzD⟩
  subst hcD
  have hg:cg=4:=by
   rw [HY.out] at hDD
   exact drop_gone HC.out.1 HC.out.2.1 hDD
  subst hg
  have zD:= (kD.cell (o:=0) zzC).trans zC
  have xD:= (kD.cell (o:=0) zxC).trans xC
  have zzD:=Nat.lt_of_lt_of_le zzC kD.size
  have zxD:=Nat.lt_of_lt_of_le zxC kD.size
  have KBD:=KC.trans kD
  clear zC yC xC uC0 hDD hND hzD
  obtain ⟨WE,hWE⟩: ∃WE,WE=wD.alloc (.cells #[.slice aD yD.length yD.length] 25):= ⟨_,rfl⟩
  have KE:K_ wD WE:=by rw [hWE];exact (K_.refl _).alloc _
  have zE:= (KE.cell (o:=0) zzD).trans zD
  have xE:= (KE.cell (o:=0) zxD).trans xD
  have zzE:=Nat.lt_of_lt_of_le zzD KE.size
  have zxE:=Nat.lt_of_lt_of_le zxD KE.size
  clear zD xD
  go_upto_region 17 with fail
  rw [<-hWE]
  clear hWE
  go_wp2_with fail
  refine (wWeb_yes _ aB a3 z.length z.length z (by omega) (tiny_steps (m:=40) (by omega) HTr.out) (HNB.out.kept (KBD.trans KE)) (HN3.out.kept ((((K39.trans K9B).trans KBD).trans KE)))).mono ?_
  rintro e wF ⟨rfl,kF⟩
  go_wp2_with fail
  go_ret
  exact ⟨rfl,((K0B.trans KBD).trans KE).trans kF⟩
 ·have HC:Hid (r=[]):=by
   rcases HPR.out with ⟨_,_,h⟩ | ⟨_,_,_,h⟩ | ⟨_,_,_,_,_,h⟩ | ⟨_,_,_,_,h,_⟩
   ·exact h
   ·exact h
   ·exact h
   ·exact absurd h hc0
  have hr0: ((r.length:Int) == 0)=true:=by rw [HC.out];rfl
  have hcb: (c != 0)=true:=by simpa using hc0
  go_wp2_with fail
  go_ret
  exact ⟨by first | rfl | simp [hr0],K07⟩
