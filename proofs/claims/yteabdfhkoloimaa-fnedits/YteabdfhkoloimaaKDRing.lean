import Derived.Test.YteabdfhkoloimaaKDSortW
set_option maxRecDepth 100000
set_option maxHeartbeats 25600000
namespace Go.Proofs.Yteabdfhkoloimaa
open Go.RowKit
structure RingSt (wO wr:World) (rb sb:Nat) (a:Option Addr) (cap:Nat) (bs:List UInt8) (p:Nat) (aa:Option Addr) (ca:Nat) (s:Xz):Prop where
 rd:Rd wr rb a cap bs p
 kb:Xq rb (rb+1) wO wr
 sbl:wO.heap.size<=sb
 box:SBox wr sb (.slice aa s.asks.length ca) (.slice none 0 0) s
 asks:GStrs wr aa s.asks
 room:s.asks.length<=ca
 nil:aa=none->s.asks.length=0∧ca=0
 cases:s.cases=[]
 tiny:s.TinyN 20
theorem RingSt.kept {wO wr w':World} {rb sb:Nat} {a:Option Addr} {cap:Nat} {bs:List UInt8} {p:Nat} {aa:Option Addr} {ca:Nat} {s:Xz} (h:RingSt wO wr rb sb a cap bs p aa ca s) (k:K_ wr w'):RingSt wO w' rb sb a cap bs p aa ca s:=
 ⟨h.rd.kept k,h.kb.and_kept k,h.sbl,h.box.kept k,h.asks.same (u:=25) (.of_kept k) (by decide),h.room,h.nil,h.cases,h.tiny⟩
theorem RingSt.drawn {wO wr w':World} {rb sb:Nat} {a:Option Addr} {cap:Nat} {bs:List UInt8} {p p':Nat} {aa:Option Addr} {ca:Nat} {s:Xz} (h:RingSt wO wr rb sb a cap bs p aa ca s) (hrb:rb < wO.heap.size) (hR:Rd w' rb a cap bs p') (k:Xq rb (rb+1) wr w'):RingSt wO w' rb sb a cap bs p' aa ca s:=by
 have hs:=h.sbl
 exact ⟨hR,h.kb.trans k,h.sbl,h.box.block (k.block sb h.box.row.lt (by omega)),h.asks.same (k.sameKind h.rd) (by decide),h.room,h.nil,h.cases,h.tiny⟩
theorem RingSt.steps {wO wr:World} {rb sb:Nat} {a:Option Addr} {cap:Nat} {bs:List UInt8} {p:Nat} {aa:Option Addr} {ca:Nat} {s:Xz} (h:RingSt wO wr rb sb a cap bs p aa ca s):
  GSteps (wr.alloc (.cells #[.slice aa s.asks.length ca,.int .i64 s.on,.slice none 0 0,.int .i64 s.els,.int .i64 s.fall,.bool s.fin,.bool s.bad,.string s.give,.slice none 0 0,.int .i64 0,.slice none 0 0,.int .i64 0,.int .i64 0,.bool true,.bool false,.string ⟨#[114]⟩] 68)) (.slice (some ⟨wr.heap.size,0,none⟩) 2 2) [s,endStep ⟨#[114]⟩]:=by
 have k:K_ wr (wr.alloc (.cells #[.slice aa s.asks.length ca,.int .i64 s.on,.slice none 0 0,.int .i64 s.els,.int .i64 s.fall,.bool s.fin,.bool s.bad,.string s.give,.slice none 0 0,.int .i64 0,.slice none 0 0,.int .i64 0,.int .i64 0,.bool true,.bool false,.string ⟨#[114]⟩] 68)):= (K_.refl _).alloc _
 have hr:=Zx wr #[.slice aa s.asks.length ca,.int .i64 s.on,.slice none 0 0,.int .i64 s.els,.int .i64 s.fall,.bool s.fin,.bool s.bad,.string s.give,.slice none 0 0,.int .i64 0,.slice none 0 0,.int .i64 0,.int .i64 0,.bool true,.bool false,.string ⟨#[114]⟩] 68
 have hcl:s.cases.length=0:=by rw [h.cases];rfl
 refine ⟨_,2,rfl,Nat.le_refl _,fun i hi=> ?_⟩
 match i,hi with
 | 0,_=>
  refine ⟨wr.heap.size,0,_,_,s.cells aa ca none 0,rfl,heap_alloc_new wr _,fun j u hu=> ?_,⟨aa,ca,none,0,rfl,h.asks.same (u:=25) (.of_kept k) (by decide),.inl h.cases,h.room⟩,nil_cells h.nil (fun _=> ⟨hcl,rfl⟩)⟩
  have hj:j < 8:=by have:= (List.getElem?_eq_some_iff.1 hu).1;simpa [Xz.cells] using this
  refine hr j u ?_
  rw [<-hu]
  unfold Xz.cells
  rw [hcl]
  match j,hj with
  | 0,_ | 1,_ | 2,_ | 3,_ | 4,_ | 5,_ | 6,_ | 7,_=> rfl
 | 1,_=>
  refine ⟨wr.heap.size,0,_,_,(endStep ⟨#[114]⟩).cells none 0 none 0,rfl,heap_alloc_new wr _,fun j u hu=> ?_,(endStep_t _ _).g,endStep_nil _⟩
  have hj:j < 8:=by have:= (List.getElem?_eq_some_iff.1 hu).1;simpa [Xz.cells] using this
  have:=hr (8+j) u
  rw [<-Nat.add_assoc] at this
  refine this ?_
  rw [<-hu]
  match j,hj with
  | 0,_ | 1,_ | 2,_ | 3,_ | 4,_ | 5,_ | 6,_ | 7,_=> rfl
theorem two_mem {α:Type} {p:α->Prop} {x y z:α} (h:x∈[y,z]) (hy:p y) (hz:p z):p x:=by
 simp only [List.mem_cons,List.not_mem_nil,or_false] at h
 rcases h with rfl | rfl
 ·exact hy
 ·exact hz
theorem SBox.ring (w:World) (va:Value) (l:List ByteArray):SBox (w.alloc (.cells #[va,.int .i64 0,.slice none 0 0,.int .i64 1,.int .i64 (-1),.bool false,.bool false,.string ⟨#[]⟩] 68)) w.heap.size va (.slice none 0 0) ⟨l,0,[],1, -1,false,false,⟨#[]⟩⟩:=by
 have hr:=Zx w #[va,.int .i64 0,.slice none 0 0,.int .i64 1,.int .i64 (-1),.bool false,.bool false,.string ⟨#[]⟩] 68
 have hc: ∀j v,(#[va,.int .i64 0,.slice none 0 0,.int .i64 1,.int .i64 (-1),.bool false,.bool false,.string ⟨#[]⟩]:Array Value).toList[j]? =some v->(w.alloc (.cells #[va,.int .i64 0,.slice none 0 0,.int .i64 1,.int .i64 (-1),.bool false,.bool false,.string ⟨#[]⟩] 68)).cell? ⟨w.heap.size,j,none⟩=some v:=fun j v hv=> by
  have:=hr j v hv
  rw [Nat.zero_add] at this
  exact this
 exact ⟨RowT.made w _ _,hc 0 _ rfl,hc 1 _ rfl,hc 2 _ rfl,hc 3 _ rfl,hc 4 _ rfl,hc 5 _ rfl,hc 6 _ rfl,hc 7 _ rfl⟩
theorem ring_made {wO w2:World} {rb:Nat} {a:Option Addr} {cap:Nat} {bs:List UInt8} {p:Nat} (hR:Rd wO rb a cap bs p) (k:K_ wO w2) {x:ByteArray} (hx:x.size<=300):
  SSt wO ((w2.alloc (.cells #[.string x] 9)).alloc (.cells #[.slice (some ⟨w2.heap.size,0,none⟩) 1 1,.int .i64 0,.slice none 0 0,.int .i64 1,.int .i64 (-1),.bool false,.bool false,.string ⟨#[]⟩] 68)) rb (w2.heap.size+1) a cap bs p (.slice (some ⟨w2.heap.size,0,none⟩) 1 1) (.slice none 0 0) ⟨[x],0,[],1, -1,false,false,⟨#[]⟩⟩:=by
 have k1:K_ w2 (w2.alloc (.cells #[.string x] 9)):= (K_.refl _).alloc _
 have k2:K_ (w2.alloc (.cells #[.string x] 9)) ((w2.alloc (.cells #[.string x] 9)).alloc (.cells #[.slice (some ⟨w2.heap.size,0,none⟩) 1 1,.int .i64 0,.slice none 0 0,.int .i64 1,.int .i64 (-1),.bool false,.bool false,.string ⟨#[]⟩] 68)):= (K_.refl _).alloc _
 have K:= (k.trans k1).trans k2
 have hz:=k.size
 have hb:=SBox.ring (w2.alloc (.cells #[.string x] 9)) (.slice (some ⟨w2.heap.size,0,none⟩) 1 1) [x]
 rw [World.size_alloc] at hb
 have ho: (w2.alloc (.cells #[.string x] 9)).ownsRow wO.heap.size 9 1 (.slice (some ⟨w2.heap.size,0,none⟩) 1 1) 1 [.string x]:= ⟨rfl,.inr ⟨w2.heap.size,1,_,rfl,k.size,heap_alloc_new w2 _,Nat.le_refl _,by unfold maxLen;omega,rfl,rfl⟩⟩
 exact ⟨hR.kept K,⟨p,hR⟩,by omega,.of_kept K,hb,ownsRow_kept' ho k2,World.ownsRow_nil _ _ _ _,⟨by show 1<=20;omega,(fun y hy=> by simp at hy;subst hy;exact hx),by show (-1000:Int)<=0∧(0:Int)<=1000;decide,Nat.zero_le _,(fun c hc=> by simp at hc),by show (-9223372036854775808:Int)<=1∧(1:Int)<=9223372036854775807;decide,by show (-1000:Int)<= -1∧(-1:Int)<=1000;decide,by show (0:Nat)<=300;omega⟩⟩
theorem SStN.ring {wO wr:World} {rb sb:Nat} {a:Option Addr} {cap:Nat} {bs:List UInt8} {p:Nat} {aa:Option Addr} {n ca:Nat} {s:Xz} (h:SSt wO wr rb sb a cap bs p (.slice aa n ca) (.slice none 0 0) s) (hc:s.cases=[]):n=s.asks.length∧RingSt wO wr rb sb a cap bs p aa ca s:=by
 obtain ⟨a9,c9,e9,h9,hT⟩:=d_tstrs_of_owned h.asks
 simp only [Value.slice.injEq] at e9
 obtain ⟨rfl,rfl,rfl⟩:=e9
 exact ⟨rfl,h.rd,h.kb,h.sbl,h.box,hT.g,h9,fun e=> by subst e;exact nil_of_owned h.asks,hc,h.tiny⟩
theorem SStN.tail {wO wr:World} {rb sb:Nat} {a:Option Addr} {cap:Nat} {bs:List UInt8} {p g c:Nat} {s:Xz} (h:SSt wO wr rb sb a cap bs p (.slice (some ⟨g,0,none⟩) s.asks.length c) (.slice none 0 0) s) (hc:s.cases=[]) (hl:1<=s.asks.length) {aa:Option Addr} (ha:aa=some ⟨g,0,none⟩∧c=1∨aa=some ⟨g,1,none⟩) {m:Nat} (hm:m+1=s.asks.length):
  RingSt wO (wr.setCell ⟨sb,0,none⟩ (.slice aa m (c - 1))) rb sb a cap bs p aa (c - 1) { s with asks:=s.asks.drop 1 }:=by
 obtain ⟨a9,c9,e9,h9,hT⟩:=d_tstrs_of_owned h.asks
 simp only [Value.slice.injEq,true_and] at e9
 obtain ⟨rfl,rfl⟩:=e9
 have hbl:Below wO.heap.size wr (wr.setCell ⟨sb,0,none⟩ (.slice aa m (c - 1))):= (Below.refl _ _).setCell h.sbl _
 obtain ⟨p0,h0⟩:=h.rd0
 have hd: (s.asks.drop 1).length=m:=by rw [List.length_drop];omega
 have hb:=h.box.asks (.slice aa m (c - 1)) (s.asks.drop 1)
 rcases hT with hT | ⟨b,cur,fr,eb,hh,hcell⟩
 ·rw [hT] at hl;simp at hl
 simp only [Option.some.injEq,Addr.mk.injEq,and_true] at eb
 subst eb
 have hG:GStrs wr aa (s.asks.drop 1):=GStrs.tail (b:=g) (o:=0) hh (fun i hi=> by rw [Nat.zero_add];exact hcell i hi) (fun hne=> by
  rcases ha with ⟨_,e⟩ | e
  ·exact absurd (List.eq_nil_of_length_eq_zero (by rw [hd];omega)) hne
  ·rw [Nat.zero_add];exact e)
 refine ⟨h.rd.below h0 hbl h.kb.size,h.kb.below hbl,h.sbl,by show SBox _ sb (.slice aa (s.asks.drop 1).length (c - 1)) _ _;rw [hd];exact hb,hG.same (h.box.row.same _) (by decide),by show (s.asks.drop 1).length<=c - 1;omega,fun e=> ?_,hc,⟨by show (s.asks.drop 1).length<=20;have:=h.tiny.asks;omega,fun y hy=> h.tiny.askEach y (List.mem_of_mem_drop hy),h.tiny.on,h.tiny.cases,h.tiny.caseEach,h.tiny.els,h.tiny.fall,h.tiny.give⟩⟩
 rcases ha with ⟨e',_⟩ | e' <;> (rw [e'] at e;cases e)
theorem ring_any :WebSaid 48 400 20 60 700000:=by
 intro w rb a cap bs p hR hp hbl
 have k0:K_ w (w.alloc (.cells #[.slice none 0 0] 25)):= (K_.refl _).alloc _
 have HA0:Hid (Rd (w.alloc (.cells #[.slice none 0 0] 25)) rb a cap bs p):=hR.kept k0
 have hrb:=hR.row.lt
 have HRes:Hid (RowT ((w.alloc (.cells #[.slice none 0 0] 25)).alloc (.cells #[.slice none 0 0] 25)) w.heap.size 25 1):= (RowT.made w _ _).kept ((K_.refl _).alloc _)
 have hmade:=WStN.made (mN:=20) HA0.out HA0.out (Xq.refl _ _ _)
 rw [World.size_alloc] at hmade
 have HS0:=Kz hmade
 have HR0:=Kz hR
 clear hR hmade
 go_enter Try.func48,Try.ntmps48
 go_wp2_with fail
 refine (pick_at _ rb a cap bs p _ 9 rfl HS0.out.rd (by omega) (by omega) hbl).mono ?_
 rintro e w1 ⟨v1,rfl,hv1,hR1,kb1⟩
 have HS1:=Kz (HS0.out.drawn hR1 kb1)
 have HRes1:=Kz (HRes.out.but kb1 (by omega))
 obtain ⟨n1,hn1⟩: ∃n1:Nat,n1=3+v1:= ⟨_,rfl⟩
 clear hR1 kb1 HS0 HRes
 go_wp2
 go_loopg [5] n1 (fun g x wr=> ∃(k:Nat) (p':Nat) (v:Value) (L:List Q_) (xs:List Value),x= .int .i64 (k:Int)∧k+g=n1∧L.length=k∧p<=p'∧p'<=p+1+12 * k∧RowT wr w.heap.size 25 1∧WStN 20 (w.alloc (.cells #[.slice none 0 0] 25)) wr rb (w.heap.size+1) a cap bs p' v L xs)
 case atStart=> exact ⟨0,p+1,_,[],[],rfl,by omega,rfl,by omega,by omega,HRes1.out,HS1.out⟩
 case round=>
  clear HS1 HRes1
  obtain ⟨k,p7,v,L,xs,rfl,hk,hL,hp7,hp7',hres,hS⟩:=hrel
  obtain ⟨wO,rfl⟩: ∃wO,wO=wr:= ⟨_,rfl⟩
  have HO:=Kz hS
  have HLk:=Kz hL
  have HRes:=Kz hres
  obtain ⟨av,cv,rfl⟩:=own_slice hS.own
  clear hS hL hres
  by_cases hlt: (k:Int) < 3+ (v1:Int)
  ·obtain ⟨qm,hqm⟩: ∃qm:Nat,qm= (k+1) % n1:= ⟨_,rfl⟩
   have etm: ((k:Int)+1).tmod (3+ (v1:Int))= (qm:Int):=by rw [Int.tmod_eq_emod_of_nonneg (by omega),hqm,hn1];push_cast;rfl
   have hqn:qm < n1:=by rw [hqm];exact Nat.mod_lt _ (by omega)
   have hn0z: ((3+ (v1:Int)) == 0)=false:=by rw [beq_eq_false_iff_ne];omega
   clear hqm
   go_wp2_with fail
   refine (label_at _ qm _ (by go_num) (by omega)).mono ?_
   rintro e w2 ⟨x0,rfl,hx0,k2⟩
   have HT0:=Kz (ring_made HO.out.rd k2 (x:=x0) (by omega))
   have hz02:=k2.size
   clear k2 etm hn0z
   obtain ⟨wS,hwS⟩: ∃wS,wS= (w2.alloc (.cells #[.string x0] 9)).alloc (.cells #[.slice (some ⟨w2.heap.size,0,none⟩) 1 1,.int .i64 0,.slice none 0 0,.int .i64 1,.int .i64 (-1),.bool false,.bool false,.string ⟨#[]⟩] 68):= ⟨_,rfl⟩
   rw [<-hwS] at HT0
   go_upto_region 7 with fail
   rw [<-hwS]
   clear hwS
   go_wp2_with fail
   refine (pick_at _ rb a cap bs p7 _ 3 rfl HT0.out.rd (by omega) (by omega) hbl).mono ?_
   rintro e w3 ⟨v3,rfl,hv3,hR3,kb3⟩
   have HT1:=Kz (HT0.out.drawn hR3 kb3)
   clear hR3 kb3 HT0
   go_upto_if 26 with fail
   go_cut [6,7] from 26 to 42 (fun s6 _ wx=> ∃(g c:Nat) (s:Xz) (p':Nat),s6= .pointer (some ⟨w2.heap.size+1,0,none⟩)∧p7<=p'∧p'<=p7+2∧1<=s.asks.length∧s.asks.length<=2∧s.cases=[]∧SSt wO wx rb (w2.heap.size+1) a cap bs p' (.slice (some ⟨g,0,none⟩) s.asks.length c) (.slice none 0 0) s)
   case first=>
    by_cases h3:v3=0
    ·have e3: ((v3:Int) == 0)=true:=by simp [h3]
     clear h3
     go_wp2_with fail
     refine (pick_at _ rb a cap bs (p7+1) _ n1 (by omega) HT1.out.rd (by omega) (by omega) hbl).mono ?_
     rintro e w4 ⟨v4,rfl,hv4,hR4,kb4⟩
     have HT2:=Kz (HT1.out.drawn hR4 kb4)
     clear hR4 kb4
     go_wp2_with fail
     refine (label_at _ v4 _ rfl (by omega)).mono ?_
     rintro e w5 ⟨x,rfl,hx,k5⟩
     have HT3:=Kz (HT2.out.kept k5)
     clear k5 HT2
     have y0:=HT3.out.box.c0
     have yz:=HT3.out.box.row.lt
     obtain ⟨_,f0⟩:=HT3.out.box.cell (o:=0) (by omega)
     have hc0:=HT3.out.asks.cells (g:=w2.heap.size) rfl 0 _ rfl
     have hgl:w2.heap.size < w5.heap.size:=by omega
     rw [Addr.add_mid,Nat.add_zero] at hc0
     cases hne: (x.toList == x0.toList)
     ·have hne':=hne
      obtain ⟨ia,ha0,ha1,ha2,ha3⟩:=dInfo_parts Try.dInfoStr
      have HK1:Hid (K_ w5 (w5.alloc (.cells #[.string x] 9))):= (K_.refl _).alloc _
      have HOw:=Kz (HT3.out.kept HK1.out).asks
      have hbz:wO.heap.size<=(w5.alloc (.cells #[.string x] 9)).heap.size:= (HT3.out.kept HK1.out).kb.size
      go_wp2_with (at_builtin;refine wpList_append_lies _ rfl (.tmp 38) (.tmp 40) 45 rfl wO.heap.size 9 ia _ 1 16 Try.underlying45 ha0 ha1 ha2 ha3 rfl (by decide) (.slice (some ⟨w2.heap.size,0,none⟩) 1 1) 1 [.string x0] rfl HOw.out ⟨w5.heap.size,0,none⟩ 1 1 [.string x] rfl rfl (boxStr w5 x) (oneStr x) (by omega) (by unfold maxLen;omega) (by omega) hbz _ rfl ?_;intro g c6 w6 hown2 hgr _ _;have hb2:=HT3.out.askBox HK1.out hgr;have y2:=hb2.c0;have z2:=hb2.row.lt;obtain ⟨_,f2⟩:=hb2.cell (o:=0) (by omega);have HO2:=Kz hown2;have HG2:=Kz hgr;clear hown2 hgr hb2)
      go_meet
      exact ⟨g,c6,⟨[x0,x],0,[],1, -1,false,false,⟨#[]⟩⟩,p7+2,rfl,by omega,by omega,by show 1<= [x0,x].length;simp,by show [x0,x].length<=2;simp,rfl,HT3.out.addAsk (x:=x) HK1.out HO2.out HG2.out (by show 1+1<=20;omega) (by omega)⟩
     ·go_wp2_with fail
      go_meet
      exact ⟨w2.heap.size,1,⟨[x0],0,[],1, -1,false,false,⟨#[]⟩⟩,p7+2,rfl,by omega,by omega,by show 1<= [x0].length;simp,by show [x0].length<=2;simp,rfl,HT3.out⟩
    ·have e3: ((v3:Int) == 0)=false:=by simpa using h3
     clear h3
     go_wp2_with fail
     go_meet
     exact ⟨w2.heap.size,1,⟨[x0],0,[],1, -1,false,false,⟨#[]⟩⟩,p7+1,rfl,by omega,by omega,by show 1<= [x0].length;simp,by show [x0].length<=2;simp,rfl,HT1.out⟩
   case rest=>
    obtain ⟨g,c,s0,p8,rfl,hp8,hp8',hs1,hs2,hsc,hS⟩:=hcut
    have HT:=Kz hS
    have HSc:=Kz hsc
    clear hS hsc HT1 hv3
    go_wp2_with fail
    refine (pick_at _ rb a cap bs p8 _ 6 rfl HT.out.rd (by omega) (by omega) hbl).mono ?_
    rintro e w5 ⟨v5,rfl,hv5,hR5,kb5⟩
    have HT2:=Kz (HT.out.drawn hR5 kb5)
    clear hR5 kb5 HT
    obtain ⟨m,hm⟩: ∃m,m+1=s0.asks.length:= ⟨s0.asks.length - 1,by omega⟩
    have y0:=HT2.out.box.c0
    have yz:=HT2.out.box.row.lt
    obtain ⟨_,f0⟩:=HT2.out.box.cell (o:=0) (by omega)
    rw [<-hm] at y0
    have HM:=Kz hm
    have hmb:m<=1:=by omega
    have hcg:m+1<=c:=by have:= (HT2.out.ring HSc.out).2.room;omega
    clear hm hs1 hs2
    go_upto_if 45 with fail
    go_cut [6] from 43 to 49 (fun s6 wx=> ∃(aa:Option Addr) (ca:Nat) (s:Xz),s6= .pointer (some ⟨w2.heap.size+1,0,none⟩)∧RingSt wO wx rb (w2.heap.size+1) a cap bs (p8+1) aa ca s)
    case first=>
     by_cases h5:v5=0
     ·have e5: ((v5:Int) == 0)=true:=by simp [h5]
      clear h5
      have i1: (1:Int)<=(m:Int)+1:=by omega
      have i2: (1:Int)<=(c:Int):=by omega
      by_cases hc1:c=1
      ·subst hc1
       obtain rfl:m=0:=by omega
       go_wp2_with fail
       go_meet
       exact ⟨_,_,_,rfl,HT2.out.tail HSc.out (by have:=HM.out;omega) (.inl ⟨rfl,rfl⟩) HM.out⟩
      ·go_wp2_with fail
       go_meet
       exact ⟨_,_,_,rfl,HT2.out.tail HSc.out (by have:=HM.out;omega) (.inr rfl) HM.out⟩
     ·have e5: ((v5:Int) == 0)=false:=by simpa using h5
      clear h5
      go_wp2_with fail
      go_meet
      exact ⟨_,_,s0,rfl,(HT2.out.ring HSc.out).2⟩
    case rest=>
     clear HT2 HSc y0 yz f0 HM hmb hcg hv5
     obtain ⟨aa,ca,s,rfl,hS⟩:=hcut
     obtain ⟨wA,rfl⟩: ∃wA,wA=wc:= ⟨_,rfl⟩
     have HT:=Kz hS
     have HO5:=Kz (HO.out.drawn hS.rd hS.kb)
     have hrne:w.heap.size < rb∨rb+1<=w.heap.size:=by omega
     have hrbO:rb < wO.heap.size:=HO.out.rd.row.lt
     have HRes5:=Kz (HRes.out.but hS.kb hrne)
     have y5:=HO5.out.c0
     rw [HLk.out] at y5
     have zb5:=HO5.out.row.lt
     have hsx:=hS.sbl
     clear hS HO HRes
     obtain ⟨ino,hn0,hn1',hn2,hn3⟩:=dInfo_parts Try.infoNodeW
     have Qx:Hid (∀(v:World) (p' q':Nat),WStN 20 (w.alloc (.cells #[.slice none 0 0] 25)) v rb (w.heap.size+1) a cap bs p' (.slice av L.length cv) L xs->RingSt wO v rb (w2.heap.size+1) a cap bs q' aa ca s->(fun (v:World)=> v.cell? ⟨w.heap.size+1,0,none⟩=some (.slice av k cv)∧v.cell? ⟨w2.heap.size+1,0,none⟩=some (.slice aa s.asks.length ca)∧v.cell? ⟨w2.heap.size+1,1,none⟩=some (.int .i64 s.on)∧v.cell? ⟨w2.heap.size+1,2,none⟩=some (.slice none 0 0)∧v.cell? ⟨w2.heap.size+1,3,none⟩=some (.int .i64 s.els)∧v.cell? ⟨w2.heap.size+1,4,none⟩=some (.int .i64 s.fall)∧v.cell? ⟨w2.heap.size+1,5,none⟩=some (.bool s.fin)∧v.cell? ⟨w2.heap.size+1,6,none⟩=some (.bool s.bad)∧v.cell? ⟨w2.heap.size+1,7,none⟩=some (.string s.give)) v):=fun v p' q' h1 h2=> ⟨by rw [<-HLk.out];exact h1.c0,h2.box.c0,h2.box.c1,h2.box.c2,h2.box.c3,h2.box.c4,h2.box.c5,h2.box.c6,h2.box.c7⟩
     have KD:K_ wA wA.drew:= (K_.refl wA).drew
     have HO6:=Kz (HO5.out.kept KD)
     have HT6:=Kz (HT.out.kept KD)
     have HRes6:=Kz (HRes5.out.kept KD)
     go_upto_region 13 with fail
     refine Qj.region (by kernel_rfl) (fun (v:World)=> v.cell? ⟨w.heap.size+1,0,none⟩=some (.slice av k cv)∧v.cell? ⟨w2.heap.size+1,0,none⟩=some (.slice aa s.asks.length ca)∧v.cell? ⟨w2.heap.size+1,1,none⟩=some (.int .i64 s.on)∧v.cell? ⟨w2.heap.size+1,2,none⟩=some (.slice none 0 0)∧v.cell? ⟨w2.heap.size+1,3,none⟩=some (.int .i64 s.els)∧v.cell? ⟨w2.heap.size+1,4,none⟩=some (.int .i64 s.fall)∧v.cell? ⟨w2.heap.size+1,5,none⟩=some (.bool s.fin)∧v.cell? ⟨w2.heap.size+1,6,none⟩=some (.bool s.bad)∧v.cell? ⟨w2.heap.size+1,7,none⟩=some (.string s.give)) 15 (Qx.out _ _ _ HO6.out HT6.out) (fun Qk=> ?_)
     generalize hwd:wA.drew=wd at Qk HO6 HT6 HRes6⊢
     clear hwd KD HO5 HT HRes5 y5 zb5
     refine Qj.tk 0 Qk ?_
     refine Qj.tk 1 Qk ?_
     refine Qj.tk 2 Qk ?_
     refine Qj.tk 4 Qk ?_
     refine Qj.tk 7 Qk ?_
     refine Qj.tk 8 Qk ?_
     refine Qj.tw 3 9 (fun K hK=> ?_) (fun K hK=> ?_)
     ·rw [if_pos (by rfl)]
      go_simp
      go_at_call 12
      refine (label_at _ k _ rfl (by omega)).mono ?_
      rintro e wl ⟨nm,rfl,hnm,kl⟩
      have HOl:=Kz (HO6.out.kept kl)
      have HTl:=Kz (HT6.out.kept kl)
      have HResl:=Kz (HRes6.out.kept kl)
      skip
      dsimp only
      refine hK.out _ _ (fun _=> Qx.out _ _ _ HOl.out HTl.out) ?_
      clear hK K Qk
      have Qk:=Qx.out _ _ _ HOl.out HTl.out
      try simp only [Act.put,upA,upB,upC]
      refine Qj.tw 5 9 (fun K hK=> ?_) (fun K hK=> ?_)
      ·rw [if_pos (by rfl)]
       go_simp
       go_at_call 13
       refine (pick_at _ rb a cap bs (p8+1) _ 4 rfl HOl.out.rd (by omega) (by omega) hbl).mono ?_
       rintro e wp ⟨vp,rfl,hvp,hRp,kbp⟩
       have HOp:=Kz (HOl.out.drawn hRp kbp)
       have HTp:=Kz (HTl.out.drawn hrbO hRp kbp)
       have HResp:=Kz (HResl.out.but kbp hrne)
       skip
       dsimp only
       refine hK.out _ _ (fun _=> Qx.out _ _ _ HOp.out HTp.out) ?_
       clear hK K Qk hRp kbp
       have Qk:=Qx.out _ _ _ HOp.out HTp.out
       try simp only [Act.put,upA,upB,upC]
       have ew:IntKind.i64.wrap (1+ (vp:Int))=1+ (vp:Int):=by simp [IntKind.wrap,IntKind.bits,IntKind.signed];omega
       refine Qj.take 6 [10,11,12,13,14,15] (v:= .int .i64 (1+ (vp:Int))) (by (simp only [List.getElem?_toArray,List.getElem?_cons_succ,List.getElem?_cons_zero];rfl)) (by kernel_rfl) (by kernel_rfl) (by kernel_rfl) (by kernel_rfl) (by exact fun _ _ _ h=> h) (Or.inl ⟨by rfl, ?_⟩) Qk ?_
       ·intro u hu
        try dsimp only at hu
        go_simp
        try with_reducible rfl
       try simp only [Act.put,upA,upB,upC]
       clear ew
       refine Qj.nx 9 (fun K hK=> ?_)
       go_simp
       obtain ⟨sB,hsB⟩: ∃sB,sB=wp.heap.size:= ⟨_,rfl⟩
       obtain ⟨wb,hwb⟩: ∃wb,wb=wp.alloc (.cells #[.slice aa s.asks.length ca,.int .i64 s.on,.slice none 0 0,.int .i64 s.els,.int .i64 s.fall,.bool s.fin,.bool s.bad,.string s.give,.slice none 0 0,.int .i64 0,.slice none 0 0,.int .i64 0,.int .i64 0,.bool true,.bool false,.string ⟨#[114]⟩] 68):= ⟨_,rfl⟩
       have kb9:K_ wp wb:=by rw [hwb];exact (K_.refl _).alloc _
       have hst:=HTp.out.steps
       rw [<-hwb,<-hsB] at hst
       have HGb:=Kz hst
       have HOb:=Kz (HOp.out.kept kb9)
       have HTb:=Kz (HTp.out.kept kb9)
       have HResb:=Kz (HResp.out.kept kb9)
       rw [<-hwb,<-hsB]
       refine hK.out _ _ (fun _=> Qx.out _ _ _ HOb.out HTb.out) ?_
       clear hK K Qk hst hwb hsB kb9
       have Qk:=Qx.out _ _ _ HOb.out HTb.out
       try simp only [Act.put,upA,upB,upC]
       refine Qj.tk 10 Qk ?_
       refine Qj.tk 11 Qk ?_
       refine Qj.nx 12 (fun K hK=> ?_)
       go_simp
       have KW:K_ wb (wb.alloc (.cells #[.string nm,.int .i64 (1+ (vp:Int)),.slice (some ⟨sB,0,none⟩) 2 2] 30)):= (K_.refl _).alloc _
       have HOk:=Kz (HOb.out.kept KW)
       have HTk:=Kz (HTb.out.kept KW)
       refine hK.out _ _ (fun _=> Qx.out _ _ _ HOk.out HTk.out) ?_
       clear hK K Qk
       try simp only [Act.put,upA,upB,upC]
       refine Qj.nx 13 (fun K hK=> ?_)
       have hOW:=HOk.out.own
       rw [HLk.out] at hOW
       have zw4:=HOk.out.kb.size
       have HTy:Hid (Q_.TinyN 20 ⟨nm,1+ (vp:Int),[s,endStep ⟨#[114]⟩]⟩):= ⟨by show nm.size<=300;omega,by show -1000<=1+ (vp:Int)∧1+ (vp:Int)<=1000;omega,by show 2<=21;omega,fun y hy=> two_mem (p:=fun y=> y.TinyN 20) hy HTk.out.tiny (endStep_tiny (g:= ⟨#[114]⟩) (show (1:Nat)<=300 by omega))⟩
       refine step_append_lies _ rfl (.tmp 51) (.tmp 62) 23 rfl (w.alloc (.cells #[.slice none 0 0] 25)).heap.size 30 ino _ 3 48 Try.underlying23 hn0 hn1' hn2 hn3 rfl (by decide) (.slice av k cv) k xs (by simp [Act.eval]) hOW ⟨wb.heap.size,0,none⟩ 1 1 [.string nm,.int .i64 (1+ (vp:Int)),.slice (some ⟨sB,0,none⟩) 2 2] (by simp [Act.eval]) rfl (boxNode _ _ _ _) (oneNode _ _ _ _ _) (by omega) (by unfold maxLen;omega) (by omega) zw4 _ rfl ?_
       intro g cap3 w8 hown3 hgr3 hat hlt3
       have hPR:=HOb.out.pushRow KW (by rw [HLk.out];exact hgr3)
       have y6:=hPR.1
       rw [HLk.out] at y6
       have zb6:=hPR.2.lt
       have fo1:= (hPR.2.row.at (i:=0) (by omega)).2
       obtain ⟨vo,fo2⟩:= (hPR.2.row.at (i:=0) (by omega)).1
       have hGs:=HGb.out.same (u:=25) (.of_kept KW) (by decide) (by decide) (by decide)
       have HP6:Hid (WStN 20 (w.alloc (.cells #[.slice none 0 0] 25)) (w8.setCell ⟨w.heap.size+1,0,none⟩ (.slice (some ⟨g,0,none⟩) (k+1) cap3)) rb (w.heap.size+1) a cap bs (p8+2) (.slice (some ⟨g,0,none⟩) (k+1) cap3) (L++ [⟨nm,1+ (vp:Int),[s,endStep ⟨#[114]⟩]⟩]) (xs++ [.string nm,.int .i64 (1+ (vp:Int)),.slice (some ⟨sB,0,none⟩) 2 2])):=
        HOb.out.push (d:= ⟨nm,1+ (vp:Int),[s,endStep ⟨#[114]⟩]⟩) KW hGs HTy.out (by rw [HLk.out];exact hown3) (by rw [HLk.out];exact hgr3)
       have hk6:=SameKind.of_grown hOW hgr3
       have HRes8:Hid (RowT w8 w.heap.size 25 1):=by
        obtain ⟨cur,g1,g2⟩:=HResb.out.kept KW
        exact ⟨cur,hk6 _ cur _ _ (by decide) g1,g2⟩
       have hbx:=HTk.out.box.same hk6 (by decide)
       have hq8: (fun (v:World)=> v.cell? ⟨w.heap.size+1,0,none⟩=some (.slice av k cv)∧v.cell? ⟨w2.heap.size+1,0,none⟩=some (.slice aa s.asks.length ca)∧v.cell? ⟨w2.heap.size+1,1,none⟩=some (.int .i64 s.on)∧v.cell? ⟨w2.heap.size+1,2,none⟩=some (.slice none 0 0)∧v.cell? ⟨w2.heap.size+1,3,none⟩=some (.int .i64 s.els)∧v.cell? ⟨w2.heap.size+1,4,none⟩=some (.int .i64 s.fall)∧v.cell? ⟨w2.heap.size+1,5,none⟩=some (.bool s.fin)∧v.cell? ⟨w2.heap.size+1,6,none⟩=some (.bool s.bad)∧v.cell? ⟨w2.heap.size+1,7,none⟩=some (.string s.give)) w8:= ⟨y6,hbx.c0,hbx.c1,hbx.c2,hbx.c3,hbx.c4,hbx.c5,hbx.c6,hbx.c7⟩
       clear hPR hOW hown3 hgr3 hat hk6 KW hGs hbx
       refine hK.out _ _ (fun _=> hq8) ?_
       clear hK K
       try simp only [Act.put,upA,upB,upC]
       have Qk:=hq8
       refine Qj.tk 14 Qk ?_
       refine Qj.nx 15 (fun K hK=> ?_)
       go_simp
       refine hK.out _ _ (fun h=> absurd rfl h) ?_
       clear hK K
       try simp only [Act.put,upA,upB,upC]
       refine Qj.dn ?_
       go_wp2
       go_roundg (gk - 1)
       case rel=> exact ⟨k+1,p8+2,_,_,_,by go_num,by omega,by rw [List.length_append,HLk.out];rfl,by omega,by omega,HRes8.out.block (Below.heap_setCell _ _ _ _ (by simp)),HP6.out⟩
       case measure=> omega
      ·go_simp
       obtain ⟨sB,hsB⟩: ∃sB,sB=wl.heap.size:= ⟨_,rfl⟩
       obtain ⟨wb,hwb⟩: ∃wb,wb=wl.alloc (.cells #[.slice aa s.asks.length ca,.int .i64 s.on,.slice none 0 0,.int .i64 s.els,.int .i64 s.fall,.bool s.fin,.bool s.bad,.string s.give,.slice none 0 0,.int .i64 0,.slice none 0 0,.int .i64 0,.int .i64 0,.bool true,.bool false,.string ⟨#[114]⟩] 68):= ⟨_,rfl⟩
       have kb9:K_ wl wb:=by rw [hwb];exact (K_.refl _).alloc _
       have hst:=HTl.out.steps
       rw [<-hwb,<-hsB] at hst
       have HGb:=Kz hst
       have HOb:=Kz (HOl.out.kept kb9)
       have HTb:=Kz (HTl.out.kept kb9)
       have HResb:=Kz (HResl.out.kept kb9)
       rw [<-hwb,<-hsB]
       refine hK.out _ _ (fun _=> Qx.out _ _ _ HOb.out HTb.out) ?_
       clear hK K Qk hst hwb hsB kb9
       have Qk:=Qx.out _ _ _ HOb.out HTb.out
       try simp only [Act.put,upA,upB,upC]
       refine Qj.nx 5 (fun K hK=> ?_)
       rw [if_pos (by rfl)]
       go_simp
       go_at_call 13
       refine (pick_at _ rb a cap bs (p8+1) _ 4 rfl HOb.out.rd (by omega) (by omega) hbl).mono ?_
       rintro e wp ⟨vp,rfl,hvp,hRp,kbp⟩
       have HOp:=Kz (HOb.out.drawn hRp kbp)
       have HTp:=Kz (HTb.out.drawn hrbO hRp kbp)
       have HResp:=Kz (HResb.out.but kbp hrne)
       have HGp:=Kz (HGb.out.same (kbp.sameKind HOb.out.rd) (by decide) (by decide) (by decide))
       dsimp only
       refine hK.out _ _ (fun _=> Qx.out _ _ _ HOp.out HTp.out) ?_
       clear hK K Qk hRp kbp
       have Qk:=Qx.out _ _ _ HOp.out HTp.out
       try simp only [Act.put,upA,upB,upC]
       have ew:IntKind.i64.wrap (1+ (vp:Int))=1+ (vp:Int):=by simp [IntKind.wrap,IntKind.bits,IntKind.signed];omega
       refine Qj.take 6 [10,11,12,13,14,15] (v:= .int .i64 (1+ (vp:Int))) (by (simp only [List.getElem?_toArray,List.getElem?_cons_succ,List.getElem?_cons_zero];rfl)) (by kernel_rfl) (by kernel_rfl) (by kernel_rfl) (by kernel_rfl) (by exact fun _ _ _ h=> h) (Or.inl ⟨by rfl, ?_⟩) Qk ?_
       ·intro u hu
        try dsimp only at hu
        go_simp
        try with_reducible rfl
       try simp only [Act.put,upA,upB,upC]
       clear ew
       refine Qj.tk 10 Qk ?_
       refine Qj.tk 11 Qk ?_
       refine Qj.nx 12 (fun K hK=> ?_)
       go_simp
       have KW:K_ wp (wp.alloc (.cells #[.string nm,.int .i64 (1+ (vp:Int)),.slice (some ⟨sB,0,none⟩) 2 2] 30)):= (K_.refl _).alloc _
       have HOk:=Kz (HOp.out.kept KW)
       have HTk:=Kz (HTp.out.kept KW)
       refine hK.out _ _ (fun _=> Qx.out _ _ _ HOk.out HTk.out) ?_
       clear hK K Qk
       try simp only [Act.put,upA,upB,upC]
       refine Qj.nx 13 (fun K hK=> ?_)
       have hOW:=HOk.out.own
       rw [HLk.out] at hOW
       have zw4:=HOk.out.kb.size
       have HTy:Hid (Q_.TinyN 20 ⟨nm,1+ (vp:Int),[s,endStep ⟨#[114]⟩]⟩):= ⟨by show nm.size<=300;omega,by show -1000<=1+ (vp:Int)∧1+ (vp:Int)<=1000;omega,by show 2<=21;omega,fun y hy=> two_mem (p:=fun y=> y.TinyN 20) hy HTk.out.tiny (endStep_tiny (g:= ⟨#[114]⟩) (show (1:Nat)<=300 by omega))⟩
       refine step_append_lies _ rfl (.tmp 51) (.tmp 62) 23 rfl (w.alloc (.cells #[.slice none 0 0] 25)).heap.size 30 ino _ 3 48 Try.underlying23 hn0 hn1' hn2 hn3 rfl (by decide) (.slice av k cv) k xs (by simp [Act.eval]) hOW ⟨wp.heap.size,0,none⟩ 1 1 [.string nm,.int .i64 (1+ (vp:Int)),.slice (some ⟨sB,0,none⟩) 2 2] (by simp [Act.eval]) rfl (boxNode _ _ _ _) (oneNode _ _ _ _ _) (by omega) (by unfold maxLen;omega) (by omega) zw4 _ rfl ?_
       intro g cap3 w8 hown3 hgr3 hat hlt3
       have hPR:=HOp.out.pushRow KW (by rw [HLk.out];exact hgr3)
       have y6:=hPR.1
       rw [HLk.out] at y6
       have zb6:=hPR.2.lt
       have fo1:= (hPR.2.row.at (i:=0) (by omega)).2
       obtain ⟨vo,fo2⟩:= (hPR.2.row.at (i:=0) (by omega)).1
       have hGs:=HGp.out.same (u:=25) (.of_kept KW) (by decide) (by decide) (by decide)
       have HP6:Hid (WStN 20 (w.alloc (.cells #[.slice none 0 0] 25)) (w8.setCell ⟨w.heap.size+1,0,none⟩ (.slice (some ⟨g,0,none⟩) (k+1) cap3)) rb (w.heap.size+1) a cap bs (p8+2) (.slice (some ⟨g,0,none⟩) (k+1) cap3) (L++ [⟨nm,1+ (vp:Int),[s,endStep ⟨#[114]⟩]⟩]) (xs++ [.string nm,.int .i64 (1+ (vp:Int)),.slice (some ⟨sB,0,none⟩) 2 2])):=
        HOp.out.push (d:= ⟨nm,1+ (vp:Int),[s,endStep ⟨#[114]⟩]⟩) KW hGs HTy.out (by rw [HLk.out];exact hown3) (by rw [HLk.out];exact hgr3)
       have hk6:=SameKind.of_grown hOW hgr3
       have HRes8:Hid (RowT w8 w.heap.size 25 1):=by
        obtain ⟨cur,g1,g2⟩:=HResp.out.kept KW
        exact ⟨cur,hk6 _ cur _ _ (by decide) g1,g2⟩
       have hbx:=HTk.out.box.same hk6 (by decide)
       have hq8: (fun (v:World)=> v.cell? ⟨w.heap.size+1,0,none⟩=some (.slice av k cv)∧v.cell? ⟨w2.heap.size+1,0,none⟩=some (.slice aa s.asks.length ca)∧v.cell? ⟨w2.heap.size+1,1,none⟩=some (.int .i64 s.on)∧v.cell? ⟨w2.heap.size+1,2,none⟩=some (.slice none 0 0)∧v.cell? ⟨w2.heap.size+1,3,none⟩=some (.int .i64 s.els)∧v.cell? ⟨w2.heap.size+1,4,none⟩=some (.int .i64 s.fall)∧v.cell? ⟨w2.heap.size+1,5,none⟩=some (.bool s.fin)∧v.cell? ⟨w2.heap.size+1,6,none⟩=some (.bool s.bad)∧v.cell? ⟨w2.heap.size+1,7,none⟩=some (.string s.give)) w8:= ⟨y6,hbx.c0,hbx.c1,hbx.c2,hbx.c3,hbx.c4,hbx.c5,hbx.c6,hbx.c7⟩
       clear hPR hOW hown3 hgr3 hat hk6 KW hGs hbx
       refine hK.out _ _ (fun _=> hq8) ?_
       clear hK K
       try simp only [Act.put,upA,upB,upC]
       have Qk:=hq8
       refine Qj.tk 14 Qk ?_
       refine Qj.nx 15 (fun K hK=> ?_)
       go_simp
       refine hK.out _ _ (fun h=> absurd rfl h) ?_
       clear hK K
       try simp only [Act.put,upA,upB,upC]
       refine Qj.dn ?_
       go_wp2
       go_roundg (gk - 1)
       case rel=> exact ⟨k+1,p8+2,_,_,_,by go_num,by omega,by rw [List.length_append,HLk.out];rfl,by omega,by omega,HRes8.out.block (Below.heap_setCell _ _ _ _ (by simp)),HP6.out⟩
       case measure=> omega
     ·go_simp
      obtain ⟨sB,hsB⟩: ∃sB,sB=wd.heap.size:= ⟨_,rfl⟩
      obtain ⟨wb,hwb⟩: ∃wb,wb=wd.alloc (.cells #[.slice aa s.asks.length ca,.int .i64 s.on,.slice none 0 0,.int .i64 s.els,.int .i64 s.fall,.bool s.fin,.bool s.bad,.string s.give,.slice none 0 0,.int .i64 0,.slice none 0 0,.int .i64 0,.int .i64 0,.bool true,.bool false,.string ⟨#[114]⟩] 68):= ⟨_,rfl⟩
      have kb9:K_ wd wb:=by rw [hwb];exact (K_.refl _).alloc _
      have hst:=HT6.out.steps
      rw [<-hwb,<-hsB] at hst
      have HGb:=Kz hst
      have HOb:=Kz (HO6.out.kept kb9)
      have HTb:=Kz (HT6.out.kept kb9)
      have HResb:=Kz (HRes6.out.kept kb9)
      rw [<-hwb,<-hsB]
      refine hK.out _ _ (fun _=> Qx.out _ _ _ HOb.out HTb.out) ?_
      clear hK K Qk hst hwb hsB kb9
      have Qk:=Qx.out _ _ _ HOb.out HTb.out
      try simp only [Act.put,upA,upB,upC]
      refine Qj.nx 3 (fun K hK=> ?_)
      rw [if_pos (by rfl)]
      go_simp
      go_at_call 12
      refine (label_at _ k _ rfl (by omega)).mono ?_
      rintro e wl ⟨nm,rfl,hnm,kl⟩
      have HOl:=Kz (HOb.out.kept kl)
      have HTl:=Kz (HTb.out.kept kl)
      have HResl:=Kz (HResb.out.kept kl)
      have HGl:=Kz (HGb.out.same (u:=25) (.of_kept kl) (by decide) (by decide) (by decide))
      dsimp only
      refine hK.out _ _ (fun _=> Qx.out _ _ _ HOl.out HTl.out) ?_
      clear hK K Qk
      have Qk:=Qx.out _ _ _ HOl.out HTl.out
      try simp only [Act.put,upA,upB,upC]
      refine Qj.nx 5 (fun K hK=> ?_)
      rw [if_pos (by rfl)]
      go_simp
      go_at_call 13
      refine (pick_at _ rb a cap bs (p8+1) _ 4 rfl HOl.out.rd (by omega) (by omega) hbl).mono ?_
      rintro e wp ⟨vp,rfl,hvp,hRp,kbp⟩
      have HOp:=Kz (HOl.out.drawn hRp kbp)
      have HTp:=Kz (HTl.out.drawn hrbO hRp kbp)
      have HResp:=Kz (HResl.out.but kbp hrne)
      have HGp:=Kz (HGl.out.same (kbp.sameKind HOl.out.rd) (by decide) (by decide) (by decide))
      dsimp only
      refine hK.out _ _ (fun _=> Qx.out _ _ _ HOp.out HTp.out) ?_
      clear hK K Qk hRp kbp
      have Qk:=Qx.out _ _ _ HOp.out HTp.out
      try simp only [Act.put,upA,upB,upC]
      have ew:IntKind.i64.wrap (1+ (vp:Int))=1+ (vp:Int):=by simp [IntKind.wrap,IntKind.bits,IntKind.signed];omega
      refine Qj.take 6 [10,11,12,13,14,15] (v:= .int .i64 (1+ (vp:Int))) (by (simp only [List.getElem?_toArray,List.getElem?_cons_succ,List.getElem?_cons_zero];rfl)) (by kernel_rfl) (by kernel_rfl) (by kernel_rfl) (by kernel_rfl) (by exact fun _ _ _ h=> h) (Or.inl ⟨by rfl, ?_⟩) Qk ?_
      ·intro u hu
       try dsimp only at hu
       go_simp
       try with_reducible rfl
      try simp only [Act.put,upA,upB,upC]
      clear ew
      refine Qj.tk 10 Qk ?_
      refine Qj.tk 11 Qk ?_
      refine Qj.nx 12 (fun K hK=> ?_)
      go_simp
      have KW:K_ wp (wp.alloc (.cells #[.string nm,.int .i64 (1+ (vp:Int)),.slice (some ⟨sB,0,none⟩) 2 2] 30)):= (K_.refl _).alloc _
      have HOk:=Kz (HOp.out.kept KW)
      have HTk:=Kz (HTp.out.kept KW)
      refine hK.out _ _ (fun _=> Qx.out _ _ _ HOk.out HTk.out) ?_
      clear hK K Qk
      try simp only [Act.put,upA,upB,upC]
      refine Qj.nx 13 (fun K hK=> ?_)
      have hOW:=HOk.out.own
      rw [HLk.out] at hOW
      have zw4:=HOk.out.kb.size
      have HTy:Hid (Q_.TinyN 20 ⟨nm,1+ (vp:Int),[s,endStep ⟨#[114]⟩]⟩):= ⟨by show nm.size<=300;omega,by show -1000<=1+ (vp:Int)∧1+ (vp:Int)<=1000;omega,by show 2<=21;omega,fun y hy=> two_mem (p:=fun y=> y.TinyN 20) hy HTk.out.tiny (endStep_tiny (g:= ⟨#[114]⟩) (show (1:Nat)<=300 by omega))⟩
      refine step_append_lies _ rfl (.tmp 51) (.tmp 62) 23 rfl (w.alloc (.cells #[.slice none 0 0] 25)).heap.size 30 ino _ 3 48 Try.underlying23 hn0 hn1' hn2 hn3 rfl (by decide) (.slice av k cv) k xs (by simp [Act.eval]) hOW ⟨wp.heap.size,0,none⟩ 1 1 [.string nm,.int .i64 (1+ (vp:Int)),.slice (some ⟨sB,0,none⟩) 2 2] (by simp [Act.eval]) rfl (boxNode _ _ _ _) (oneNode _ _ _ _ _) (by omega) (by unfold maxLen;omega) (by omega) zw4 _ rfl ?_
      intro g cap3 w8 hown3 hgr3 hat hlt3
      have hPR:=HOp.out.pushRow KW (by rw [HLk.out];exact hgr3)
      have y6:=hPR.1
      rw [HLk.out] at y6
      have zb6:=hPR.2.lt
      have fo1:= (hPR.2.row.at (i:=0) (by omega)).2
      obtain ⟨vo,fo2⟩:= (hPR.2.row.at (i:=0) (by omega)).1
      have hGs:=HGp.out.same (u:=25) (.of_kept KW) (by decide) (by decide) (by decide)
      have HP6:Hid (WStN 20 (w.alloc (.cells #[.slice none 0 0] 25)) (w8.setCell ⟨w.heap.size+1,0,none⟩ (.slice (some ⟨g,0,none⟩) (k+1) cap3)) rb (w.heap.size+1) a cap bs (p8+2) (.slice (some ⟨g,0,none⟩) (k+1) cap3) (L++ [⟨nm,1+ (vp:Int),[s,endStep ⟨#[114]⟩]⟩]) (xs++ [.string nm,.int .i64 (1+ (vp:Int)),.slice (some ⟨sB,0,none⟩) 2 2])):=
       HOp.out.push (d:= ⟨nm,1+ (vp:Int),[s,endStep ⟨#[114]⟩]⟩) KW hGs HTy.out (by rw [HLk.out];exact hown3) (by rw [HLk.out];exact hgr3)
      have hk6:=SameKind.of_grown hOW hgr3
      have HRes8:Hid (RowT w8 w.heap.size 25 1):=by
       obtain ⟨cur,g1,g2⟩:=HResp.out.kept KW
       exact ⟨cur,hk6 _ cur _ _ (by decide) g1,g2⟩
      have hbx:=HTk.out.box.same hk6 (by decide)
      have hq8: (fun (v:World)=> v.cell? ⟨w.heap.size+1,0,none⟩=some (.slice av k cv)∧v.cell? ⟨w2.heap.size+1,0,none⟩=some (.slice aa s.asks.length ca)∧v.cell? ⟨w2.heap.size+1,1,none⟩=some (.int .i64 s.on)∧v.cell? ⟨w2.heap.size+1,2,none⟩=some (.slice none 0 0)∧v.cell? ⟨w2.heap.size+1,3,none⟩=some (.int .i64 s.els)∧v.cell? ⟨w2.heap.size+1,4,none⟩=some (.int .i64 s.fall)∧v.cell? ⟨w2.heap.size+1,5,none⟩=some (.bool s.fin)∧v.cell? ⟨w2.heap.size+1,6,none⟩=some (.bool s.bad)∧v.cell? ⟨w2.heap.size+1,7,none⟩=some (.string s.give)) w8:= ⟨y6,hbx.c0,hbx.c1,hbx.c2,hbx.c3,hbx.c4,hbx.c5,hbx.c6,hbx.c7⟩
      clear hPR hOW hown3 hgr3 hat hk6 KW hGs hbx
      refine hK.out _ _ (fun _=> hq8) ?_
      clear hK K
      try simp only [Act.put,upA,upB,upC]
      have Qk:=hq8
      refine Qj.tk 14 Qk ?_
      refine Qj.nx 15 (fun K hK=> ?_)
      go_simp
      refine hK.out _ _ (fun h=> absurd rfl h) ?_
      clear hK K
      try simp only [Act.put,upA,upB,upC]
      refine Qj.dn ?_
      go_wp2
      go_roundg (gk - 1)
      case rel=> exact ⟨k+1,p8+2,_,_,_,by go_num,by omega,by rw [List.length_append,HLk.out];rfl,by omega,by omega,HRes8.out.block (Below.heap_setCell _ _ _ _ (by simp)),HP6.out⟩
      case measure=> omega
  ·have y0:=HO.out.c0
   rw [HLk.out] at y0
   have zb:=HO.out.row.lt
   have hG:=HO.out.web
   rw [HLk.out] at hG
   have hSo:=sortedG_any wO av cv L (mN:=20) (by omega) (by have:=HLk.out;omega) HO.out.tiny (by rw [HLk.out];exact hG)
   rw [HLk.out] at hSo
   have HSo:=Kz hSo
   clear hG hSo
   go_wp2_with fail
   refine HSo.out.mono ?_
   intro e w6 hs
   obtain ⟨va,vn,vc,rfl,hr6,hD⟩:=HO.out.sorted (p:=p) (t:=400) hs HRes.out (Nat.le_refl _) k0 HR0.out (by omega) (by omega)
   have HD:=Kz hD
   have HR6:=Kz hr6
   have z6:=hr6.lt
   obtain ⟨⟨_,u0⟩,f0⟩:=hr6.row.at (i:=0) (by omega)
   clear hD hr6 hs
   go_wp2
   have hR:=World.rangeAt_setCells_same w6 w.heap.size 0 [.slice va vn vc] (HR6.out.row.there (o:=0) (m:=1) (Nat.le_refl _))
   exact Zk [.slice va vn vc] _ Try.results48 rfl hR Try.underlying25 rfl Try.sizeWebW rfl HD.out
