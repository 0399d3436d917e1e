import Derived.Test.YteabdfhkoloimaaKDWebS
set_option maxRecDepth 100000
set_option maxHeartbeats 25600000
namespace Go.Proofs.Yteabdfhkoloimaa
open Go.RowKit
theorem drawAction_any (w:World) (rb:Nat) (a:Option Addr) (cap:Nat) (bs:List UInt8) (p i n:Nat) (hR:Rd w rb a cap bs p) (hp:p<=800000) (hi:i<=100000) (hn:n<=100000) (hbl:bs.length<=2000):
  Calls Try.prog 14 #[.pointer (some ⟨rb,0,none⟩),.int .i64 (i:Int),.int .i64 (n:Int)] w fun e w'=> DrewAction w w' rb a cap bs p 100 e:=by
 have k0:K_ w (w.alloc (.cells #[.int .i64 0,.slice none 0 0] 28)):= (K_.refl _).alloc _
 have HA0:Hid (Rd (w.alloc (.cells #[.int .i64 0,.slice none 0 0] 28)) rb a cap bs p):=hR.kept k0
 have HRes:Hid (RowT (w.alloc (.cells #[.int .i64 0,.slice none 0 0] 28)) w.heap.size 28 2):=RowT.made w _ _
 have hrb:=hR.row.lt
 have HR0:=Kz hR
 go_enter Try.func14,Try.ntmps14
 go_wp2_with fail
 refine (pick_at _ rb a cap bs p _ 6 rfl HA0.out (by omega) (by omega) hbl).mono ?_
 rintro e w1 ⟨v1,rfl,hv1,hR1,kb1⟩
 have HR1:=Kz hR1
 have HK1:=Kz kb1
 clear hR1 kb1 hR
 have HS1:=Kz (ASt.made HA0.out HR1.out HK1.out (1+ (v1:Int)))
 go_wp2_with fail
 refine (pick_at _ rb a cap bs (p+1) _ 10 rfl HS1.out.rd (by omega) (by omega) hbl).mono ?_
 rintro e w2 ⟨v2,rfl,hv2,hR2,kb2⟩
 have HS2:=Kz (HS1.out.drawn hR2 kb2)
 have r2:=HS2.out.row.row.at (i:=0) (by omega)
 obtain ⟨⟨_,q0⟩,f0⟩:=r2
 have hz2:=HS2.out.row.lt
 clear hR2 kb2
 go_upto_if 20 with fail
 go_cut [7] from 21 to 21 (fun s7 wx=> Priced (w.alloc (.cells #[.int .i64 0,.slice none 0 0] 28)) w1.heap.size rb a cap bs p s7 wx)
 case first=>
  by_cases h0:v2=0
  ·have e0: ((v2:Int) == 0)=true:=by simp [h0]
   go_wp2_with fail
   go_meet
   exact ⟨20,rfl,by omega,HS2.out.cost⟩
  ·have e0: ((v2:Int) == 0)=false:=by simpa using h0
   go_wp2_with fail
   go_meet
   exact ⟨_,rfl,by omega,HS2.out⟩
 case rest=>
  obtain ⟨cost,rfl,hcost,hS⟩:=hcut
  have HS3:=Kz hS
  clear hS HS1 HS2 HR1 HK1 hv1 hv2 q0 f0 hz2
  go_wp2_with fail
  refine (pick_at _ rb a cap bs (p+2) _ 4 rfl HS3.out.rd (by omega) (by omega) hbl).mono ?_
  rintro e w4 ⟨v4,rfl,hv4,hR4,kb4⟩
  have HS4:=Kz (HS3.out.drawn hR4 kb4)
  clear hR4 kb4 HS3
  go_upto_region 5 with fail
  go_cut [31] from 25 to 30 (fun s31 wx=> ∃(b:Bool) (p':Nat),s31= .bool b∧p+3<=p'∧p'<=p+4∧ASt (w.alloc (.cells #[.int .i64 0,.slice none 0 0] 28)) wx rb w1.heap.size a cap bs p' cost (.slice none 0 0) [] [])
  case first=>
   by_cases h0:i=0
   ·have e0: ((i:Int) == 0)=true:=by simp [h0]
    clear h0
    go_wp2_with fail
    refine (pick_at _ rb a cap bs (p+3) _ 3 rfl HS4.out.rd (by omega) (by omega) hbl).mono ?_
    rintro e w5 ⟨v5,rfl,hv5,hR5,kb5⟩
    have HS5:=Kz (HS4.out.drawn hR5 kb5)
    clear hR5 kb5
    go_wp2_with fail
    go_meet
    exact ⟨_,p+4,rfl,by omega,by omega,HS5.out⟩
   ·have e0: ((i:Int) == 0)=false:=by simpa using h0
    go_wp2_with fail
    go_meet
    exact ⟨_,p+3,rfl,by omega,by omega,HS4.out⟩
  case rest=>
   obtain ⟨b,p5,rfl,hp5,hp5',hS⟩:=hcut
   have HS5:=Kz hS
   clear hS HS4
   go_upto_if 31 with fail
   go_cut [8] from 25 to 30 (fun s8 wx=> Begun (w.alloc (.cells #[.int .i64 0,.slice none 0 0] 28)) w1.heap.size rb a cap bs p s8 wx)
   case first=>
    cases b
    ·go_wp2_with fail
     go_meet
     exact ⟨v4,cost,p5,rfl,by omega,hcost,by omega,by omega,HS5.out⟩
    ·go_wp2_with fail
     go_meet
     exact ⟨0,cost,p5,rfl,by omega,hcost,by omega,by omega,HS5.out⟩
   case rest=>
    clear hp5 hp5' HS5 hcost hv4
    obtain ⟨n1,cost,p6,rfl,hn1,hcost,hp6,hp6',hS⟩:=hcut
    have HS6:=Kz hS
    clear hS
    go_wp2
    go_loopg [9] n1 (fun g x wr=> ∃(k:Nat) (p':Nat) (v:Value) (L:List Xz) (xs:List Value),x= .int .i64 (k:Int)∧k+g=n1∧L.length=k∧p<=p'∧p'<=p+4+20 * k∧ASt (w.alloc (.cells #[.int .i64 0,.slice none 0 0] 28)) wr rb w1.heap.size a cap bs p' cost v L xs)
    case atStart=> exact ⟨0,p6,_,[],[],rfl,by omega,rfl,hp6,by omega,HS6.out⟩
    case round=>
     clear HS6
     obtain ⟨k,p7,v,L,xs,rfl,hk,hL,hp7,hp7',hS⟩:=hrel
     obtain ⟨wO,rfl⟩: ∃wO,wO=wr:= ⟨_,rfl⟩
     obtain ⟨gO,rfl⟩: ∃gO,gO=gk:= ⟨_,rfl⟩
     have HO:=Kz hS
     have HLk:=Kz hL
     clear hS hL
     by_cases hlt: (k:Int) < 1+ (n1:Int) - 1
     ·have HT0:=Kz (SSt.made HO.out.rd (els:= (k:Int)+1) (fall:= -1) (by omega) (by omega))
      have zO:rb < wO.heap.size:=HO.out.rd.row.lt
      go_wp2_with fail
      refine (pick_at _ rb a cap bs p7 _ 4 rfl HT0.out.rd (by omega) (by omega) hbl).mono ?_
      rintro e w8 ⟨q,rfl,hq,hR8,kb8⟩
      have HT1:=Kz (HT0.out.drawn hR8 kb8)
      clear hR8 kb8
      go_wp2
      go_loopg [11] q (fun g x wr=> ∃(va:Value) (s:Xz) (p':Nat),x= .int .i64 (g:Int)∧g<=q∧p<=p'∧p'+2 * g<=p7+1+2 * q∧s.asks.length+g<=q∧s.cases=[]∧SSt wO wr rb wO.heap.size a cap bs p' va (.slice none 0 0) s)
      case atStart=> exact ⟨_,_,p7+1,rfl,Nat.le_refl _,by omega,by omega,by simp,rfl,HT1.out⟩
      case round=>
       clear HT0 HT1
       obtain ⟨va,s,p8,rfl,hgq,hp8,hp8',hsl,hsc,hS⟩:=hrel
       have HS:=Kz hS
       have HSc:=Kz hsc
       clear hS hsc
       by_cases h0:gk=0
       ·have h0': ¬(0:Int) < (gk:Int):=by omega
        obtain ⟨av,cv,rfl⟩:=own_slice HS.out.asks
        obtain ⟨wI,rfl⟩: ∃wI,wI=wr:= ⟨_,rfl⟩
        have y0:=HS.out.box.c0
        have yz:=HS.out.box.row.lt
        have hal:s.asks.length<=20:=HS.out.tiny.asks
        obtain ⟨m,hm⟩: ∃m,m=s.asks.length:= ⟨_,rfl⟩
        rw [<-hm] at y0 hsl hal
        have HM:=Kz hm
        clear hm
        go_upto_if 68 with fail
        go_cut [10,11] from 32 to 116 (fun s10 _ wx=> ∃(s':Xz) (va:Value) (p':Nat),s10= .pointer (some ⟨wO.heap.size,0,none⟩)∧p<=p'∧p'<=p7+8∧s'.cases=[]∧SSt wO wx rb wO.heap.size a cap bs p' va (.slice none 0 0) s')
        case first=>
         by_cases hpos: (0:Int) < (m:Int)
         ·go_wp2_with fail
          refine (pick_any _ rb a cap bs p8 m HS.out.rd (by omega) (by omega) hbl).mono ?_
          rintro e w9 ⟨v9,rfl,hv9,hR9,kb9⟩
          have HS2:=Kz (HS.out.drawn hR9 kb9)
          have z2:=HS2.out.box.row.lt
          obtain ⟨⟨_,q1⟩,f1⟩:=HS2.out.box.cell (o:=1) (by omega)
          clear hR9 kb9
          go_wp2_with fail
          go_meet
          exact ⟨{ s with on:= (v9:Int)},_,p8+1,rfl,by omega,by omega,HSc.out,HS2.out.on (x:= (v9:Int)) (by omega)⟩
         ·go_wp2_with fail
          go_meet
          exact ⟨s,_,p8,rfl,by omega,by omega,HSc.out,HS.out⟩
        case rest=>
         clear HS HSc y0 yz hsl hal HM hp8 hp8' h0 h0' hgq
         obtain ⟨s,va,p9,rfl,hp9,hp9',hsc,hS⟩:=hcut
         have HS:=Kz hS
         have HSc:=Kz hsc
         clear hS hsc
         go_wp2_with fail
         refine (pick_at _ rb a cap bs p9 _ 3 rfl HS.out.rd (by omega) (by omega) hbl).mono ?_
         rintro e w10 ⟨q2,rfl,hq2,hR10,kb10⟩
         have HT1:=Kz (HS.out.drawn hR10 kb10)
         clear hR10 kb10 HS
         go_wp2
         go_loopg [13] q2 (fun g x wr=> ∃(vc:Value) (s':Xz) (p':Nat),x= .int .i64 (g:Int)∧g<=q2∧p<=p'∧p'+2 * g<=p9+1+2 * q2∧s'.cases.length+g<=q2∧SSt wO wr rb wO.heap.size a cap bs p' va vc s')
         case atStart=> exact ⟨_,s,p9+1,rfl,Nat.le_refl _,by omega,by omega,by rw [HSc.out];simp,HT1.out⟩
         case round=>
          clear HT1 HSc
          obtain ⟨vc,s',p10,rfl,hgq,hp10,hp10',hsl,hS⟩:=hrel
          have HS:=Kz hS
          clear hS
          by_cases h0:gk=0
          ·have h0': ¬(0:Int) < (gk:Int):=by omega
           obtain ⟨ac,cc,rfl⟩:=own_slice HS.out.cases
           obtain ⟨wJ,rfl⟩: ∃wJ,wJ=wr:= ⟨_,rfl⟩
           have hsl3:s'.cases.length<=20:=HS.out.tiny.cases
           go_wp2_with fail
           refine (pick_at _ rb a cap bs p10 _ 3 rfl HS.out.rd (by omega) (by omega) hbl).mono ?_
           rintro e w11 ⟨v11,rfl,hv11,hR11,kb11⟩
           have HS2:=Kz (HS.out.drawn hR11 kb11)
           have z2:=HS2.out.box.row.lt
           obtain ⟨⟨_,q4⟩,f4⟩:=HS2.out.box.cell (o:=4) (by omega)
           clear hR11 kb11 HS
           go_upto_if 103 with fail
           go_cut [10,13] from 32 to 116 (fun s10 _ wx=> ∃(s'':Xz),s10= .pointer (some ⟨wO.heap.size,0,none⟩)∧SSt wO wx rb wO.heap.size a cap bs (p10+1) va (.slice ac s'.cases.length cc) s'')
           case first=>
            by_cases h11:v11=0
            ·have e11: ((v11:Int) == 0)=true:=by simp [h11]
             clear h11
             go_wp2_with fail
             go_meet
             exact ⟨_,rfl,HS2.out.fall (x:= (k:Int)+1) (by omega)⟩
            ·have e11: ((v11:Int) == 0)=false:=by simpa using h11
             clear h11
             go_wp2_with fail
             go_meet
             exact ⟨s',rfl,HS2.out⟩
           case rest=>
            clear HS2 q4 f4 z2 hv11
            obtain ⟨s3,rfl,hS⟩:=hcut
            have HS3:=Kz hS
            clear hS
            go_wp2_with fail
            refine (pick_at _ rb a cap bs (p10+1) _ 16 rfl HS3.out.rd (by omega) (by omega) hbl).mono ?_
            rintro e w12 ⟨v12,rfl,hv12,hR12,kb12⟩
            have HS4:=Kz (HS3.out.drawn hR12 kb12)
            have z2:=HS4.out.box.row.lt
            obtain ⟨⟨_,q4⟩,f4⟩:=HS4.out.box.cell (o:=3) (by omega)
            clear hR12 kb12 HS3
            go_upto_if 109 with fail
            go_cut [10] from 32 to 116 (fun s10 wx=> ∃(s'':Xz),s10= .pointer (some ⟨wO.heap.size,0,none⟩)∧SSt wO wx rb wO.heap.size a cap bs (p10+2) va (.slice ac s'.cases.length cc) s'')
            case first=>
             by_cases h12:v12=0
             ·have e12: ((v12:Int) == 0)=true:=by simp [h12]
              clear h12
              go_wp2_with fail
              go_meet
              exact ⟨_,rfl,HS4.out.els (x:=0) (by omega)⟩
             ·have e12: ((v12:Int) == 0)=false:=by simpa using h12
              clear h12
              go_wp2_with fail
              go_meet
              exact ⟨s3,rfl,HS4.out⟩
            case rest=>
             clear HS4 q4 f4 z2 hv12
             obtain ⟨s4,rfl,hS⟩:=hcut
             have HS5:=Kz hS
             clear hS
             obtain ⟨av0,cv0,rfl⟩:=own_slice HO.out.own
             have HA:=Kz (HO.out.drawn HS5.out.rd HS5.out.kb)
             obtain ⟨aa,ca,ac4,cc4,rfl,evc,hT⟩:=HS5.out.cells
             rw [evc] at HS5
             have HT:=Kz hT
             clear hT evc
             have c0:=HS5.out.box.c0
             have c1:=HS5.out.box.c1
             have c2:=HS5.out.box.c2
             have c3:=HS5.out.box.c3
             have c4:=HS5.out.box.c4
             have c5:=HS5.out.box.c5
             have c6:=HS5.out.box.c6
             have c7:=HS5.out.box.c7
             have cz:=HS5.out.box.row.lt
             have a1:=HA.out.c1
             have az:=HA.out.row.lt
             have hLl:L.length<=3:=by have:=HLk.out;omega
             have k1:K_ wc (wc.alloc (.cells #[.slice aa s4.asks.length ca,.int .i64 s4.on,.slice ac4 s4.cases.length cc4,.int .i64 s4.els,.int .i64 s4.fall,.bool s4.fin,.bool s4.bad,.string s4.give] 68)):= (K_.refl _).alloc _
             have HK1:=Kz k1
             have HOw:=Kz (HA.out.kept k1).own
             have hbz:= (HA.out.kept k1).kb.size
             have hnews: ∀j u,(s4.cells aa ca ac4 cc4)[j]? =some u->(wc.alloc (.cells #[.slice aa s4.asks.length ca,.int .i64 s4.on,.slice ac4 s4.cases.length cc4,.int .i64 s4.els,.int .i64 s4.fall,.bool s4.fin,.bool s4.bad,.string s4.give] 68)).cell? ((⟨wc.heap.size,0,none⟩:Addr).add j)=some u:=fun j u hu=> by rw [Addr.add_mid];exact Zx wc #[.slice aa s4.asks.length ca,.int .i64 s4.on,.slice ac4 s4.cases.length cc4,.int .i64 s4.els,.int .i64 s4.fall,.bool s4.fin,.bool s4.bad,.string s4.give] 68 j u hu
             have HNw:=Kz hnews
             have HBz:=Kz hbz
             obtain ⟨ic,hc0,hc1,hc2,hc3⟩:=dInfo_parts Try.dInfoStep
             clear k1 hnews hbz
             go_wp2_with (at_builtin;refine wpList_append_own _ rfl (.tmp 112) (.tmp 114) 26 rfl (w.alloc (.cells #[.int .i64 0,.slice none 0 0] 28)).heap.size 68 ic _ 8 96 Try.underlying26 hc0 hc1 hc2 hc3 rfl (by decide) (.slice av0 L.length cv0) L.length xs rfl HOw.out ⟨wc.heap.size,0,none⟩ 1 1 (s4.cells aa ca ac4 cc4) rfl rfl HNw.out (d_step_one s4 aa ca ac4 cc4) (by unfold maxLen;omega) (by omega) HBz.out ?_;intro v' w2 hown2 hgr _;have hb2:=HA.out.pushRow HK1.out hgr;have z2:=hb2.2.lt;obtain ⟨⟨_,y2⟩,f2⟩:=hb2.2.row.at (i:=1) (by omega);have HO2:=Kz hown2;obtain ⟨av,cv,rfl⟩:=own_slice hown2;have HG2:=Kz hgr;clear hown2 hgr hb2)
             go_roundg (gO - 1)
             case measure=> omega
             case rel=> exact ⟨k+1,p10+2,_,L++ [s4],_,by go_num,by omega,by rw [List.length_append,HLk.out];rfl,by omega,by omega,HA.out.push HK1.out HT.out HS5.out.tiny (HS5.out.nils rfl rfl) HO2.out HG2.out⟩
          ·have h0': (0:Int) < (gk:Int):=by omega
           obtain ⟨ac,cc,rfl⟩:=own_slice HS.out.cases
           have hcl:s'.cases.length<=20:=HS.out.tiny.cases
           have HS1:=Kz (HS.out.kept ((K_.refl wr).drew))
           have y2:=HS1.out.box.c2
           have HS0:=Kz HS.out
           clear HS
           obtain ⟨m,hm⟩: ∃m:Nat,m=n1 - k:= ⟨_,rfl⟩
           have hmb:m<=3:=by omega
           have e8:IntKind.i64.wrap ((k:Int)+1)= (k:Int)+1:=by simp [IntKind.wrap,IntKind.bits,IntKind.signed];omega
           have e12:IntKind.i64.wrap (1+ (n1:Int) - (k:Int))= (m:Int)+1:=by simp [IntKind.wrap,IntKind.bits,IntKind.signed];omega
           have e13:IntKind.i64.wrap (m:Int)= (m:Int):=by simp [IntKind.wrap,IntKind.bits,IntKind.signed];omega
           clear hm
           go_upto_region 22 with fail
           refine Qj.region (by kernel_rfl) (fun w'=> w'.cell? ⟨wO.heap.size,2,none⟩=some (.slice ac s'.cases.length cc)) 20 y2 (fun Qk=> ?_)
           refine Qj.tk 0 Qk ?_
           refine Qj.tk 1 Qk ?_
           refine Qj.tk 2 Qk ?_
           refine Qj.tk 7 Qk ?_
           refine Qj.take 8 [15,16,17,18,19,20] (v:= .int .i64 ((k:Int)+1)) (by (simp only [List.getElem?_toArray,List.getElem?_cons_succ,List.getElem?_cons_zero];rfl)) (by kernel_rfl) (by kernel_rfl) (by kernel_rfl) (by kernel_rfl) (by exact fun _ _ _ h=> h) (Or.inl ⟨by rfl, ?_⟩) Qk ?_
           ·intro u hu
            try dsimp only at hu
            go_simp
            try with_reducible rfl
           try simp only [Act.put,upA,upB,upC]
           refine Qj.tk 9 Qk ?_
           refine Qj.tk 10 Qk ?_
           refine Qj.tk 11 Qk ?_
           refine Qj.take 12 [13,14,15,16,17,18,19,20] (v:= .int .i64 ((m:Int)+1)) (by (simp only [List.getElem?_toArray,List.getElem?_cons_succ,List.getElem?_cons_zero];rfl)) (by kernel_rfl) (by kernel_rfl) (by kernel_rfl) (by kernel_rfl) (by exact fun _ _ _ h=> h) (Or.inl ⟨by rfl, ?_⟩) Qk ?_
           ·intro u hu
            try dsimp only at hu
            go_simp
            try with_reducible rfl
           try simp only [Act.put,upA,upB,upC]
           refine Qj.take 13 [14,15,16,17,18,19,20] (v:= .int .i64 (m:Int)) (by (simp only [List.getElem?_toArray,List.getElem?_cons_succ,List.getElem?_cons_zero];rfl)) (by kernel_rfl) (by kernel_rfl) (by kernel_rfl) (by kernel_rfl) (by exact fun _ _ _ h=> h) (Or.inl ⟨by rfl, ?_⟩) Qk ?_
           ·intro u hu
            try dsimp only at hu
            go_simp
            try with_reducible rfl
           try simp only [Act.put,upA,upB,upC]
           refine Qj.nx 3 (fun K hK=> ?_)
           rw [if_pos (by rfl)]
           go_simp
           go_at_call 13
           refine (pick_at _ rb a cap bs p10 _ 3 rfl HS1.out.rd (by omega) (by omega) hbl).mono ?_
           rintro e w11 ⟨v11,rfl,hv11,hR11,kb11⟩
           have HS2:=Kz (HS1.out.drawn hR11 kb11)
           clear hR11 kb11
           dsimp only
           refine hK.out _ _ (fun _=> HS2.out.box.c2) ?_
           clear hK K Qk
           try simp only [Act.put,upA,upB,upC]
           have Qk:=HS2.out.box.c2
           refine Qj.nx 4 (fun K hK=> ?_)
           rw [if_pos (by rfl)]
           go_simp
           go_at_call 35
           refine (dec_small _ v11 (by omega)).mono ?_
           rintro e w12 ⟨t,rfl,ht,k12⟩
           have HS3:=Kz (HS2.out.kept k12)
           clear k12
           dsimp only
           refine hK.out _ _ (fun _=> HS3.out.box.c2) ?_
           clear hK K Qk
           try simp only [Act.put,upA,upB,upC]
           have Qk:=HS3.out.box.c2
           obtain ⟨t1,ht1⟩: ∃t1:ByteArray,(⟨#[118]⟩:ByteArray)++t=t1:= ⟨_,rfl⟩
           have hz1:t1.size<=2:=by rw [<-ht1,ByteArray.size_append];show 1+t.size<=2;omega
           have f5: ¬9223372036854775807 < 1+t.size:=by omega
           refine Qj.take 5 [6,16,17,18,19,20] (v:= .string t1) (by (simp only [List.getElem?_toArray,List.getElem?_cons_succ,List.getElem?_cons_zero];rfl)) (by kernel_rfl) (by kernel_rfl) (by kernel_rfl) (by kernel_rfl) (by exact fun _ _ _ h=> h) (Or.inl ⟨by rfl, ?_⟩) Qk ?_
           ·intro u hu
            try dsimp only at hu
            go_simp
            try with_reducible rfl
           try simp only [Act.put,upA,upB,upC]
           obtain ⟨tx,htx⟩: ∃tx:ByteArray,t1++ (⟨#[40,41]⟩:ByteArray)=tx:= ⟨_,rfl⟩
           have htz:tx.size<=300:=by rw [<-htx,ByteArray.size_append];show t1.size+2<=300;omega
           have f6: ¬9223372036854775807 < t1.size+2:=by omega
           refine Qj.take 6 [16,17,18,19,20] (v:= .string tx) (by (simp only [List.getElem?_toArray,List.getElem?_cons_succ,List.getElem?_cons_zero];rfl)) (by kernel_rfl) (by kernel_rfl) (by kernel_rfl) (by kernel_rfl) (by exact fun _ _ _ h=> h) (Or.inl ⟨by rfl, ?_⟩) Qk ?_
           ·intro u hu
            try dsimp only at hu
            go_simp
            try with_reducible rfl
           try simp only [Act.put,upA,upB,upC]
           clear ht1 htx f5 f6 hz1 ht
           refine Qj.nx 14 (fun K hK=> ?_)
           rw [if_pos (by rfl)]
           go_simp
           go_at_call 13
           refine (pick_at _ rb a cap bs (p10+1) _ m rfl HS3.out.rd (by omega) (by omega) hbl).mono ?_
           rintro e w13 ⟨v13,rfl,hv13,hR13,kb13⟩
           have HS4:=Kz (HS3.out.drawn hR13 kb13)
           clear hR13 kb13
           dsimp only
           refine hK.out _ _ (fun _=> HS4.out.box.c2) ?_
           clear hK K Qk
           try simp only [Act.put,upA,upB,upC]
           have Qk:=HS4.out.box.c2
           have e15:IntKind.i64.wrap ((k:Int)+1+ (v13:Int))= (k:Int)+1+ (v13:Int):=by simp [IntKind.wrap,IntKind.bits,IntKind.signed];omega
           refine Qj.take 15 [16,17,18,19,20] (v:= .int .i64 ((k:Int)+1+ (v13:Int))) (by (simp only [List.getElem?_toArray,List.getElem?_cons_succ,List.getElem?_cons_zero];rfl)) (by kernel_rfl) (by kernel_rfl) (by kernel_rfl) (by kernel_rfl) (by exact fun _ _ _ h=> h) (Or.inl ⟨by rfl, ?_⟩) Qk ?_
           ·intro u hu
            try dsimp only at hu
            go_simp
            try with_reducible rfl
           try simp only [Act.put,upA,upB,upC]
           refine Qj.tk 16 Qk ?_
           refine Qj.nx 17 (fun K hK=> ?_)
           go_simp
           have K17:K_ w13 (w13.alloc (.cells #[.string tx,.int .i64 ((k:Int)+1+ (v13:Int))] 72)):= (K_.refl _).alloc _
           have HS5:=Kz (HS4.out.kept K17)
           have HK17:=Kz K17
           refine hK.out _ _ (fun _=> HS5.out.box.c2) ?_
           clear hK K Qk K17
           try simp only [Act.put,upA,upB,upC]
           obtain ⟨ic,hc0,hc1,hc2,hc3⟩:=dInfo_parts Try.dInfoCase
           refine Qj.nx 18 (fun K hK=> ?_)
           refine step_append_lies _ rfl (.tmp 82) (.tmp 98) 66 rfl wO.heap.size 72 ic _ 2 24 Try.underlying66 hc0 hc1 hc2 hc3 rfl (by decide) (.slice ac s'.cases.length cc) s'.cases.length (dCaseCells s'.cases) (by simp [Act.eval]) HS5.out.cases ⟨w13.heap.size,0,none⟩ 1 1 [.string tx,.int .i64 ((k:Int)+1+ (v13:Int))] (by simp [Act.eval]) rfl (fun j u hu=> by rw [Addr.add_mid];exact Zx w13 #[.string tx,.int .i64 ((k:Int)+1+ (v13:Int))] 72 j u (by simpa using hu)) (fun u hu=> by simp at hu;rcases hu with rfl | rfl <;> rfl) (by omega) (by unfold maxLen;omega) (by omega) HS5.out.kb.size _ rfl ?_
           intro g cap3 w14 hown3 hgr3 hat hlt3
           have HB6:=Kz (HS4.out.caseBox HK17.out hgr3)
           have HS6:=Kz (HS4.out.addCase (x:= ⟨tx,(k:Int)+1+ (v13:Int)⟩) HK17.out hown3 hgr3 (by omega) ⟨htz,by show -1000<=(k:Int)+1+ (v13:Int);omega,by show (k:Int)+1+ (v13:Int)<=1000;omega⟩)
           have z6:=HB6.out.row.lt
           have y6:=HB6.out.c2
           obtain ⟨_,f6⟩:=HB6.out.cell (o:=2) (by omega)
           clear hown3 hgr3 hat hlt3
           refine hK.out _ _ (fun _=> HB6.out.c2) ?_
           clear hK K
           try simp only [Act.put,upA,upB,upC]
           have Qk:=HB6.out.c2
           refine Qj.tk 19 Qk ?_
           refine Qj.nx 20 (fun K hK=> ?_)
           go_simp
           refine hK.out _ _ (fun h=> absurd rfl h) ?_
           clear hK K
           try simp only [Act.put,upA,upB,upC]
           refine Qj.dn ?_
           go_wp2
           go_roundg (gk - 1)
           case measure=> omega
           case rel=> exact ⟨_,_,p10+2,by go_num,by omega,by omega,by omega,by show (s'.cases++ [_]).length+ (gk - 1)<=q2;rw [List.length_append];show s'.cases.length+1+ (gk - 1)<=q2;omega,HS6.out⟩
       ·have h0': (0:Int) < (gk:Int):=by omega
        go_wp2_with fail
        refine (ask_any _ rb a cap bs p8 i n HS.out.rd (by omega) hi hn hbl).mono ?_
        rintro e w9 ⟨x,p9,rfl,hx,hp9,hp9',hR9,kb9⟩
        have HS2:=Kz (HS.out.drawn hR9 kb9)
        have y0:=HS2.out.box.c0
        have yz:=HS2.out.box.row.lt
        clear hR9 kb9 HS
        go_upto_region 15 with fail
        go_cut [58] from 43 to 57 (fun s58 wx=> ∃b:Bool,s58= .bool b∧K_ w9 wx)
        case first=>
         obtain ⟨ia,ha0,ha1,ha2,ha3⟩:=dInfo_parts Try.dInfoStr
         have hO1: (w9.alloc (.cells #[] 9)).ownsRow w9.heap.size 9 1 (.slice (some ⟨w9.heap.size,0,none⟩) 0 0) 0 []:=World.ownsRow_made w9 #[] 0 (Nat.le_refl _) (Nat.zero_le _) rfl
         have HO1:=Kz hO1
         have kA:K_ w9 (w9.alloc (.cells #[] 9)):= (K_.refl _).alloc _
         have HKA:=Kz kA
         have hsl':s.asks.length<=20:=HS2.out.tiny.asks
         clear hO1 kA
         have fin: ∀(wA w2:World) (v1 v':Value) (n1:Nat) (xs1:List Value),K_ w9 wA->wA.ownsRow w9.heap.size 9 1 v1 n1 xs1->wA.grownBy w2 v1.ownBlock->w2.ownsRow w9.heap.size 9 1 v' (s.asks.length+1) ((s.asks++ [x]).map Value.string)->∃av cv,v'= .slice av (s.asks.length+1) cv∧K_ w9 w2∧Calls Try.prog 34 #[.slice av ((s.asks.length+1:Nat):Nat) cv] w2 fun e w'=> (∃b:Bool,e= .returned (.bool b))∧K_ w2 w':=by
          intro wA w2 v1 v' n1 xs1 kA hO1 hg hO
          obtain ⟨av,cv,e,_,hT⟩:=d_tstrs_of_owned hO
          have hlen: (s.asks++ [x]).length=s.asks.length+1:=by simp
          rw [hlen] at e
          refine ⟨av,cv,e, ?_,l1Names_len w2 av cv _ _ hlen (by rw [hlen];omega) (fun y hy=> ?_) hT.strs⟩
          ·exact Below.grown kA hg kA.size (fun k hk=> (hO1.lt k hk).1)
          ·simp only [List.mem_append,List.mem_singleton] at hy
           rcases hy with hy | rfl
           ·have:=HS2.out.tiny.askEach y hy;omega
           ·omega
         have HFin:=Kz fin
         clear fin
         rcases HS2.out.asks.2 with ⟨ev,hn0⟩ | ⟨g,cp,cur,ev,hb0,hg0,hnc,_,_,_⟩
         ·subst ev
          have HN0:Hid (s.asks=[]):=List.eq_nil_of_length_eq_zero hn0
          have HO1b:=Kz (ownsRow_kept' HO1.out ((K_.refl _).alloc (.cells #[.string x] 9)))
          have HKB:=Kz (HKA.out.alloc (.cells #[.string x] 9))
          have hbx: ∀j u,([.string x]:List Value)[j]? =some u->((w9.alloc (.cells #[] 9)).alloc (.cells #[.string x] 9)).cell? ((⟨w9.heap.size+1,0,none⟩:Addr).add j)=some u:=by
           have:=boxStr (w9.alloc (.cells #[] 9)) x
           rw [World.size_alloc] at this
           exact this
          have HBx:=Kz hbx
          have hbs:w9.heap.size<=((w9.alloc (.cells #[] 9)).alloc (.cells #[.string x] 9)).heap.size:=HKB.out.size
          clear hn0 hbx hsl hsl'
          go_wp2_with (first | (at_builtin;refine wpList_append_own_none _ rfl (.tmp 51) (.tmp 53) 45 rfl w9.heap.size 9 ia 1 Try.underlying45 ha0 (.slice (some ⟨w9.heap.size,0,none⟩) 0 0) 0 [] rfl HO1.out rfl ?_) | (at_builtin;refine wpList_append_own _ rfl (.tmp 54) (.tmp 56) 45 rfl w9.heap.size 9 ia _ 1 16 Try.underlying45 ha0 ha1 ha2 ha3 rfl (by decide) (.slice (some ⟨w9.heap.size,0,none⟩) 0 0) 0 [] rfl HO1b.out ⟨w9.heap.size+1,0,none⟩ 1 1 [.string x] rfl rfl HBx.out (oneStr x) (by unfold maxLen;omega) (by omega) hbs ?_;intro v' w2 hown2 hgr _;obtain ⟨av,cv,rfl,k2,hC⟩:=HFin.out _ w2 _ v' 0 [] HKB.out HO1b.out hgr (by rw [HN0.out];exact hown2);have HC:=Kz hC;have HK2:=Kz k2;clear hown2 hgr hC k2))
          refine HC.out.mono ?_
          rintro e w3 ⟨⟨b,rfl⟩,k3⟩
          go_wp2_with fail
          go_meet
          exact ⟨b,rfl,HK2.out.trans k3⟩
         ·subst ev
          have hnews: ∀j u,(s.asks.map Value.string)[j]? =some u->(w9.alloc (.cells #[] 9)).cell? ((⟨g,0,none⟩:Addr).add j)=some u:=fun j u hu=> (ownsRow_kept' HS2.out.asks HKA.out).cells (g:=g) rfl j u hu
          have HNews:=Kz hnews
          have hbs:w9.heap.size<=(w9.alloc (.cells #[] 9)).heap.size:=HKA.out.size
          have hgl:=heap_lt hg0
          clear hnews hg0 hb0
          go_wp2_with (first | (at_builtin;refine wpList_append_own _ rfl (.tmp 51) (.tmp 53) 45 rfl w9.heap.size 9 ia _ 1 16 Try.underlying45 ha0 ha1 ha2 ha3 rfl (by decide) (.slice (some ⟨w9.heap.size,0,none⟩) 0 0) 0 [] rfl HO1.out ⟨g,0,none⟩ s.asks.length cp (s.asks.map Value.string) rfl (by simp) HNews.out (d_strs_one _) (by unfold maxLen;omega) (by omega) hbs ?_;intro v1 wA hown1 hgr1 _;rw [Nat.zero_add,List.nil_append] at hown1;obtain ⟨av1,cv1,rfl⟩:=own_slice hown1;have HK1:=Kz (Below.grown HKA.out hgr1 HKA.out.size (fun k hk=> (HO1.out.lt k hk).1));have HO3:=Kz (ownsRow_kept' hown1 ((K_.refl wA).alloc (.cells #[.string x] 9)));have hbs2:w9.heap.size<=(wA.alloc (.cells #[.string x] 9)).heap.size:= (K_.alloc (a:=w9) HK1.out (.cells #[.string x] 9)).size;clear hown1 hgr1) | (at_builtin;refine wpList_append_own _ rfl (.tmp 54) (.tmp 56) 45 rfl w9.heap.size 9 ia _ 1 16 Try.underlying45 ha0 ha1 ha2 ha3 rfl (by decide) (.slice av1 s.asks.length cv1) s.asks.length (s.asks.map Value.string) rfl HO3.out ⟨wA.heap.size,0,none⟩ 1 1 [.string x] rfl rfl (boxStr wA x) (oneStr x) (by unfold maxLen;omega) (by omega) hbs2 ?_;intro v' w2 hown2 hgr _;obtain ⟨av,cv,rfl,k2,hC⟩:=HFin.out _ w2 _ v' _ _ (K_.alloc (a:=w9) HK1.out (.cells #[.string x] 9)) HO3.out hgr (by rw [List.map_append];exact hown2);have HC:=Kz hC;have HK2:=Kz k2;clear hown2 hgr hC k2))
          refine HC.out.mono ?_
          rintro e w3 ⟨⟨b,rfl⟩,k3⟩
          go_wp2_with fail
          go_meet
          exact ⟨b,rfl,HK2.out.trans k3⟩
        case rest=>
         obtain ⟨b,rfl,k10⟩:=hcut
         have HS3:=Kz (HS2.out.kept k10)
         clear HS2 y0 yz k10
         have y0:=HS3.out.box.c0
         have yz:=HS3.out.box.row.lt
         obtain ⟨_,f0⟩:=HS3.out.box.cell (o:=0) (by omega)
         cases b
         ·go_wp2
          go_roundg (gk - 1)
          case measure=> omega
          case rel=> exact ⟨va,s,p9,by go_num,by omega,by omega,by omega,by omega,HSc.out,HS3.out⟩
         ·obtain ⟨ia,ha0,ha1,ha2,ha3⟩:=dInfo_parts Try.dInfoStr
          have k1:K_ wc (wc.alloc (.cells #[.string x] 9)):= (K_.refl _).alloc _
          have HK1:=Kz k1
          have HOw:=Kz (HS3.out.kept k1).asks
          have hbz:wO.heap.size<=(wc.alloc (.cells #[.string x] 9)).heap.size:= (HS3.out.kept k1).kb.size
          have hal:s.asks.length<=20:=HS3.out.tiny.asks
          clear k1
          go_wp2_with (at_builtin;refine wpList_append_own _ rfl (.tmp 60) (.tmp 62) 45 rfl wO.heap.size 9 ia _ 1 16 Try.underlying45 ha0 ha1 ha2 ha3 rfl (by decide) va s.asks.length (s.asks.map Value.string) rfl HOw.out ⟨wc.heap.size,0,none⟩ 1 1 [.string x] rfl rfl (boxStr wc x) (oneStr x) (by unfold maxLen;omega) (by omega) hbz ?_;intro v' w2 hown2 hgr _;have hb2:=HS3.out.askBox HK1.out hgr;have y2:=hb2.c0;have z2:=hb2.row.lt;obtain ⟨_,f2⟩:=hb2.cell (o:=0) (by omega);have HO2:=Kz hown2;obtain ⟨av,cv,rfl⟩:=own_slice hown2;have HG2:=Kz hgr;clear hown2 hgr hb2)
          go_roundg (gk - 1)
          case measure=> omega
          case rel=> exact ⟨_,{ s with asks:=s.asks++ [x] },p9,by go_num,by omega,by omega,by omega,by show (s.asks++ [x]).length+ (gk - 1)<=q;rw [List.length_append];show s.asks.length+1+ (gk - 1)<=q;omega,HSc.out,HS3.out.addAsk HK1.out HO2.out HG2.out (by omega) (by omega)⟩
     ·have hkn:k=n1:=by omega
      clear hlt
      obtain ⟨av0,cv0,rfl⟩:=own_slice HO.out.own
      have HS1:=Kz (HO.out.kept ((K_.refl wO).drew))
      have HRs:Hid (RowT wO w.heap.size 28 2):=HRes.out.but HO.out.kb (by omega)
      have y1:=HS1.out.c1
      have hLl:L.length<=3:=by have:=HLk.out;omega
      have HOx:=Kz HO.out
      go_upto_region 28 with fail
      refine Qj.region (by kernel_rfl) (fun w'=> w'.cell? ⟨w1.heap.size,1,none⟩=some (.slice av0 L.length cv0)) 11 y1 (fun Qk=> ?_)
      refine Qj.tk 0 Qk ?_
      refine Qj.tk 1 Qk ?_
      refine Qj.tk 2 Qk ?_
      refine Qj.tk 5 Qk ?_
      refine Qj.nx 3 (fun K hK=> ?_)
      rw [if_pos (by rfl)]
      go_simp
      go_at_call 13
      refine (pick_at _ rb a cap bs p7 _ 8 rfl HS1.out.rd (by omega) (by omega) hbl).mono ?_
      rintro e w3 ⟨v3,rfl,hv3,hR3,kb3⟩
      have HS2:=Kz (HS1.out.drawn hR3 kb3)
      clear hR3 kb3
      dsimp only
      refine hK.out _ _ (fun _=> HS2.out.c1) ?_
      clear hK K Qk
      try simp only [Act.put,upA,upB,upC]
      have Qk:=HS2.out.c1
      obtain ⟨bb,hbb⟩: ∃bb:Bool,((v3:Int) == 0)=bb:= ⟨_,rfl⟩
      refine Qj.take 4 [7,8,9,10,11] (v:= .bool bb) (by (simp only [List.getElem?_toArray,List.getElem?_cons_succ,List.getElem?_cons_zero];rfl)) (by kernel_rfl) (by kernel_rfl) (by kernel_rfl) (by kernel_rfl) (by exact fun _ _ _ h=> h) (Or.inl ⟨by rfl, ?_⟩) Qk ?_
      ·intro u hu
       try dsimp only at hu
       go_simp
       try with_reducible rfl
      try simp only [Act.put,upA,upB,upC]
      clear hbb hv3
      refine Qj.nx 6 (fun K hK=> ?_)
      rw [if_pos (by rfl)]
      go_simp
      go_at_call 36
      refine (give_any _ rb a cap bs (p7+1) HS2.out.rd (by omega) hbl).mono ?_
      rintro e w4 ⟨gv,p8,rfl,hgv,hp8,hp8',hR4,kb4⟩
      have HS3:=Kz (HS2.out.drawn hR4 kb4)
      clear hR4 kb4
      dsimp only
      refine hK.out _ _ (fun _=> HS3.out.c1) ?_
      clear hK K Qk
      try simp only [Act.put,upA,upB,upC]
      have Qk:=HS3.out.c1
      refine Qj.tk 7 Qk ?_
      refine Qj.nx 8 (fun K hK=> ?_)
      go_simp
      have K17:K_ w4 (w4.alloc (.cells #[.slice none 0 0,.int .i64 0,.slice none 0 0,.int .i64 0,.int .i64 0,.bool true,.bool bb,.string gv] 68)):= (K_.refl _).alloc _
      have HS5:=Kz (HS3.out.kept K17)
      have HK17:=Kz K17
      refine hK.out _ _ (fun _=> HS5.out.c1) ?_
      clear hK K Qk K17
      try simp only [Act.put,upA,upB,upC]
      obtain ⟨ic,hc0,hc1,hc2,hc3⟩:=dInfo_parts Try.dInfoStep
      refine Qj.nx 9 (fun K hK=> ?_)
      refine step_append_lies _ rfl (.tmp 118) (.tmp 125) 26 rfl (w.alloc (.cells #[.int .i64 0,.slice none 0 0] 28)).heap.size 68 ic _ 8 96 Try.underlying26 hc0 hc1 hc2 hc3 rfl (by decide) (.slice av0 L.length cv0) L.length xs (by simp [Act.eval]) HS5.out.own ⟨w4.heap.size,0,none⟩ 1 1 [.slice none 0 0,.int .i64 0,.slice none 0 0,.int .i64 0,.int .i64 0,.bool true,.bool bb,.string gv] (by simp [Act.eval]) rfl (fun j u hu=> by rw [Addr.add_mid];exact Zx w4 #[.slice none 0 0,.int .i64 0,.slice none 0 0,.int .i64 0,.int .i64 0,.bool true,.bool bb,.string gv] 68 j u (by simpa using hu)) (d_step_one ⟨[],0,[],0,0,true,bb,gv⟩ none 0 none 0) (by omega) (by unfold maxLen;omega) (by omega) HS5.out.kb.size _ rfl ?_
      intro g cap3 w5 hown3 hgr3 hat hlt3
      have HB6:=Kz (HS3.out.pushRow HK17.out hgr3)
      have hTS:TStep w4 9 72 [.slice none 0 0,.int .i64 0,.slice none 0 0,.int .i64 0,.int .i64 0,.bool true,.bool bb,.string gv] ⟨[],0,[],0,0,true,bb,gv⟩:= ⟨none,0,none,0,rfl,.inl rfl,.inl rfl,Nat.le_refl _⟩
      have hTy:Xz.Tiny ⟨[],0,[],0,0,true,bb,gv⟩:= ⟨by simp,fun x hx=> by simp at hx,⟨by show (-1000:Int)<=0;omega,by show (0:Int)<=1000;omega⟩,by simp,fun x hx=> by simp at hx,in64_of ⟨by show (-1000:Int)<=0;omega,by show (0:Int)<=1000;omega⟩,⟨by show (-1000:Int)<=0;omega,by show (0:Int)<=1000;omega⟩,by show gv.size<=300;omega⟩
      have HS6:=Kz (HS3.out.push HK17.out hTS hTy (nil_cells (s:= ⟨[],0,[],0,0,true,bb,gv⟩) (fun _=> ⟨rfl,rfl⟩) (fun _=> ⟨rfl,rfl⟩)) hown3 hgr3)
      obtain ⟨⟨_,y6⟩,f6⟩:=HB6.out.2.row.at (i:=1) (by omega)
      have z6:=HB6.out.2.lt
      have y7:=HB6.out.1
      skip
      clear hown3 hgr3 hat hlt3 hTS hTy
      refine hK.out _ _ (fun _=> y7) ?_
      clear hK K
      try simp only [Act.put,upA,upB,upC]
      have Qk:=y7
      refine Qj.tk 10 Qk ?_
      refine Qj.nx 11 (fun K hK=> ?_)
      go_simp
      refine hK.out _ _ (fun h=> absurd rfl h) ?_
      clear hK K
      try simp only [Act.put,upA,upB,upC]
      refine Qj.dn ?_
      have o0:=HS6.out.c0
      have o1:=HS6.out.c1
      have oz:=HS6.out.row.lt
      have HR6:=Kz (HRes.out.but HS6.out.kb (by omega))
      obtain ⟨⟨_,x0⟩,g0⟩:=HR6.out.row.at (i:=0) (by omega)
      obtain ⟨⟨_,x1⟩,g1⟩:=HR6.out.row.at (i:=1) (by omega)
      have xz:=HR6.out.lt
      clear Qk y6 f6 z6 y7
      go_wp2
      have hR:=World.rangeAt_setCells_same (w5.setCell ⟨w1.heap.size,1,none⟩ (.slice (some ⟨g,0,none⟩) (L.length+1) cap3)) w.heap.size 0 [.int .i64 cost,.slice (some ⟨g,0,none⟩) (L.length+1) cap3] (HR6.out.row.there (o:=0) (m:=2) (Nat.le_refl _))
      refine Zk [.int .i64 cost,.slice (some ⟨g,0,none⟩) (L.length+1) cap3] _ Try.results14 rfl hR Try.underlying28 rfl Try.dSizeAction rfl ?_
      exact HS6.out.ends HR6.out k0 HR0.out rfl (by omega) (by omega) (by rw [List.length_append];show 1<=L.length+1;omega) (by rw [List.length_append];show L.length+1<=20;omega) (by omega)
