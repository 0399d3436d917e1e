import Derived.Test.YteabdfhkoloimaaKDSortW
import Derived.Test.YteabdfhkoloimaaKDHas
set_option maxRecDepth 100000
set_option maxHeartbeats 25600000
namespace Go.Proofs.Yteabdfhkoloimaa
open Go.RowKit
theorem wide_any :WebSaid 49 400 20 60 700000:=by
 intro w rb a cap bs p hR hp hbl
 have k0:K_ w (w.alloc (.cells #[.slice none 0 0] 25)):= (K_.refl _).alloc _
 have HA0:Hid (Rd (w.alloc (.cells #[.slice none 0 0] 25)) rb a cap bs p):=hR.kept k0
 have hrb:=hR.row.lt
 have HRes:Hid (RowT ((w.alloc (.cells #[.slice none 0 0] 25)).alloc (.cells #[.slice none 0 0] 25)) w.heap.size 25 1):= (RowT.made w _ _).kept ((K_.refl _).alloc _)
 have hmade:=WStN.made (mN:=20) HA0.out HA0.out (Xq.refl _ _ _)
 rw [World.size_alloc] at hmade
 have HS0:=Kz hmade
 have HR0:=Kz hR
 clear hR hmade
 go_enter Try.func49,Try.ntmps49
 go_wp2_with fail
 refine (pick_at _ rb a cap bs p _ 14 rfl HS0.out.rd (by omega) (by omega) hbl).mono ?_
 rintro e w1 ⟨v1,rfl,hv1,hR1,kb1⟩
 have HS1:=Kz (HS0.out.drawn hR1 kb1)
 have HRes1:=Kz (HRes.out.but kb1 (by omega))
 obtain ⟨n1,hn1⟩: ∃n1:Nat,n1=12+v1:= ⟨_,rfl⟩
 clear hR1 kb1 HS0 HRes
 go_wp2
 go_loopg [5] n1 (fun g x wr=> ∃(k:Nat) (p':Nat) (v:Value) (L:List Q_) (xs:List Value),x= .int .i64 (k:Int)∧k+g=n1∧L.length=k∧p<=p'∧p'<=p+1+12 * k∧RowT wr w.heap.size 25 1∧WStN 20 (w.alloc (.cells #[.slice none 0 0] 25)) wr rb (w.heap.size+1) a cap bs p' v L xs)
 case atStart=> exact ⟨0,p+1,_,[],[],rfl,by omega,rfl,by omega,by omega,HRes1.out,HS1.out⟩
 case round=>
  clear HS1 HRes1
  obtain ⟨k,p7,v,L,xs,rfl,hk,hL,hp7,hp7',hres,hS⟩:=hrel
  obtain ⟨wO,rfl⟩: ∃wO,wO=wr:= ⟨_,rfl⟩
  obtain ⟨gO,rfl⟩: ∃gO,gO=gk:= ⟨_,rfl⟩
  have HO:=Kz hS
  have HLk:=Kz hL
  have HRes:=Kz hres
  obtain ⟨av,cv,rfl⟩:=own_slice hS.own
  clear hS hL hres
  by_cases hlt: (k:Int) < 12+ (v1:Int)
  ·go_wp2_with fail
   refine (pick_at _ rb a cap bs p7 _ 9 rfl HO.out.rd (by omega) (by omega) hbl).mono ?_
   rintro e w2 ⟨v2,rfl,hv2,hR2,kb2⟩
   have HA1:=Kz (ASt.made HO.out.rd hR2 kb2 (1+ (v2:Int)))
   clear hR2 kb2
   go_wp2_with fail
   refine (pick_at _ rb a cap bs (p7+1) _ 3 rfl HA1.out.rd (by omega) (by omega) hbl).mono ?_
   rintro e w3 ⟨q,rfl,hq,hR3,kb3⟩
   have HA2:=Kz (HA1.out.drawn hR3 kb3)
   clear hR3 kb3 HA1
   go_wp2
   go_loopg [7] q (fun g x wr=> ∃(p':Nat) (v:Value) (LS:List Xz) (ys:List Value),x= .int .i64 (g:Int)∧g<=q∧p<=p'∧p'+5 * g<=p7+2+5 * q∧LS.length+g<=q∧ASt wO wr rb w2.heap.size a cap bs p' (1+ (v2:Int)) v LS ys)
   case atStart=> exact ⟨p7+2,_,[],[],rfl,Nat.le_refl _,by omega,by omega,by simp,HA2.out⟩
   case round=>
    clear HA2
    obtain ⟨p8,vs,LS,ys,rfl,hgq,hp8,hp8',hll,hS⟩:=hrel
    obtain ⟨wI,rfl⟩: ∃wI,wI=wr:= ⟨_,rfl⟩
    obtain ⟨gI,rfl⟩: ∃gI,gI=gk:= ⟨_,rfl⟩
    have HA:=Kz hS
    obtain ⟨sv,sc,rfl⟩:=own_slice hS.own
    have a1:=hS.c1
    have az:=hS.row.lt
    clear hS
    by_cases hg0: (0:Int) < (gI:Int)
    ·have hll3:LS.length<=3:=by omega
     have HT0:=Kz (SSt.made HA.out.rd (els:= (LS.length:Int)+1) (fall:= -1) (by omega) (by omega))
     go_wp2_with fail
     refine (pick_at _ rb a cap bs p8 _ 4 rfl HT0.out.rd (by omega) (by omega) hbl).mono ?_
     rintro e w4 ⟨q2,rfl,hq2,hR4,kb4⟩
     have HT1:=Kz (HT0.out.drawn hR4 kb4)
     clear hR4 kb4 HT0
     go_wp2
     go_loopg [9] (1+q2) (fun g x wr=> ∃(va:Value) (s:Xz) (p':Nat),x= .int .i64 (g:Int)∧g<=1+q2∧p<=p'∧p'+g<=p8+2+q2∧s.asks.length+g<=4∧s.cases=[]∧SSt wI wr rb wI.heap.size a cap bs p' va (.slice none 0 0) s)
     case atStart=> exact ⟨_,_,p8+1,by go_num,Nat.le_refl _,by omega,by omega,by show 0+ (1+q2)<=4;omega,rfl,HT1.out⟩
     case round=>
      clear HT1
      obtain ⟨va,s,p9,rfl,hgq2,hp9,hp9',hsl,hsc,hS⟩:=hrel
      have HS:=Kz hS
      have HSc:=Kz hsc
      clear hS hsc
      go_upto_region 12 with fail
      go_cut [43] from 38 to 43 (fun s43 wx=> ∃b:Bool,s43= .bool b∧wx=wr∧(b=true->0 < gk∧0 < k))
      case first=>
       by_cases h1: (0:Int) < (gk:Int)
       ·by_cases h2: (0:Int) < (k:Int)
        ·go_wp2_with fail
         go_meet
         exact ⟨_,rfl,rfl,fun _=> ⟨by omega,by omega⟩⟩
        ·go_wp2_with fail
         go_meet
         exact ⟨_,rfl,rfl,fun h=> by simp at h;omega⟩
       ·go_wp2_with fail
        go_meet
        exact ⟨false,rfl,rfl,fun h=> by cases h⟩
      case rest=>
       obtain ⟨b,rfl,rfl,hb⟩:=hcut
       have HB:=Kz hb
       clear hb
       cases b
       ·obtain ⟨wJ,rfl⟩: ∃wJ,wJ=wc:= ⟨_,rfl⟩
        have HA3:=Kz (HA.out.drawn HS.out.rd HS.out.kb)
        obtain ⟨aa,ca,ac4,cc4,rfl,evc,hT⟩:=HS.out.cells
        have HS5:=Kz HS.out
        rw [evc] at HS5
        have HT:=Kz hT
        clear hT evc HS
        have c0:=HS5.out.box.c0
        have c1:=HS5.out.box.c1
        have c2:=HS5.out.box.c2
        have c3:=HS5.out.box.c3
        have c4:=HS5.out.box.c4
        have c5:=HS5.out.box.c5
        have c6:=HS5.out.box.c6
        have c7:=HS5.out.box.c7
        have cz:=HS5.out.box.row.lt
        have b1:=HA3.out.c1
        have bz:=HA3.out.row.lt
        have HK1:Hid (K_ wJ (wJ.alloc (.cells #[.slice aa s.asks.length ca,.int .i64 s.on,.slice ac4 s.cases.length cc4,.int .i64 s.els,.int .i64 s.fall,.bool s.fin,.bool s.bad,.string s.give] 68))):= (K_.refl _).alloc _
        have HOw:=Kz (HA3.out.kept HK1.out).own
        have HBz:=Kz (HA3.out.kept HK1.out).kb.size
        have HNw:=Kz (boxStep wJ #[.slice aa s.asks.length ca,.int .i64 s.on,.slice ac4 s.cases.length cc4,.int .i64 s.els,.int .i64 s.fall,.bool s.fin,.bool s.bad,.string s.give])
        obtain ⟨ic,hc0,hc1,hc2,hc3⟩:=dInfo_parts Try.dInfoStep
        go_wp2_with (at_builtin;refine wpList_append_own _ rfl (.tmp 62) (.tmp 64) 26 rfl wO.heap.size 68 ic _ 8 96 Try.underlying26 hc0 hc1 hc2 hc3 rfl (by decide) (.slice sv LS.length sc) LS.length ys rfl HOw.out ⟨wJ.heap.size,0,none⟩ 1 1 (s.cells aa ca ac4 cc4) rfl rfl HNw.out (d_step_one s aa ca ac4 cc4) (by unfold maxLen;omega) (by omega) HBz.out ?_;intro v' w5 hown2 hgr _;have hb2:=HA3.out.pushRow HK1.out hgr;have z2:=hb2.2.lt;obtain ⟨⟨_,y2⟩,f2⟩:=hb2.2.row.at (i:=1) (by omega);have HO2:=Kz hown2;obtain ⟨av5,cv5,rfl⟩:=own_slice hown2;have HG2:=Kz hgr;clear hown2 hgr hb2)
        go_roundg (gI - 1)
        case measure=> omega
        case rel=> exact ⟨p9,_,LS++ [s],_,by go_num,by omega,by omega,by omega,by rw [List.length_append];show LS.length+1+ (gI - 1)<=q;omega,HA3.out.push HK1.out HT.out HS5.out.tiny (HS5.out.nils rfl rfl) HO2.out HG2.out⟩
       ·obtain ⟨hgp,hkp⟩:=HB.out rfl
        obtain ⟨wJ,rfl⟩: ∃wJ,wJ=wc:= ⟨_,rfl⟩
        go_wp2_with fail
        refine (pick_any _ rb a cap bs p9 k HS.out.rd (by omega) (by omega) hbl).mono ?_
        rintro e w5 ⟨v5,rfl,hv5,hR5,kb5⟩
        have HS2:=Kz (HS.out.drawn hR5 kb5)
        clear hR5 kb5 HS
        go_wp2_with fail
        refine (label_at _ v5 _ rfl (by omega)).mono ?_
        rintro e w6 ⟨x,rfl,hx,k6⟩
        have HS3:=Kz (HS2.out.kept k6)
        clear k6 HS2
        obtain ⟨sa2,sc2,rfl⟩:=own_slice HS3.out.asks
        have y0:=HS3.out.box.c0
        have yz:=HS3.out.box.row.lt
        obtain ⟨_,f0⟩:=HS3.out.box.cell (o:=0) (by omega)
        have hal:s.asks.length<=20:=HS3.out.tiny.asks
        have HSt:Hid (Strs w6 sa2 s.asks):=by
         obtain ⟨a9,c9,e9,_,hT⟩:=d_tstrs_of_owned HS3.out.asks
         simp only [Value.slice.injEq] at e9
         obtain ⟨rfl,_,rfl⟩:=e9
         exact hT.strs
        go_wp2_with fail
        refine (l6Has_any _ sa2 sc2 s.asks x (by omega) HSt.out).mono ?_
        rintro e w7 ⟨⟨r7,rfl,_⟩,rfl⟩
        cases r7
        ·obtain ⟨ia,ha0,ha1,ha2,ha3⟩:=dInfo_parts Try.dInfoStr
         have HK1:Hid (K_ w7 (w7.alloc (.cells #[.string x] 9))):= (K_.refl _).alloc _
         have HOw:=Kz (HS3.out.kept HK1.out).asks
         have hbz:wI.heap.size<=(w7.alloc (.cells #[.string x] 9)).heap.size:= (HS3.out.kept HK1.out).kb.size
         go_wp2_with (at_builtin;refine wpList_append_own _ rfl (.tmp 56) (.tmp 58) 45 rfl wI.heap.size 9 ia _ 1 16 Try.underlying45 ha0 ha1 ha2 ha3 rfl (by decide) (.slice sa2 s.asks.length sc2) s.asks.length (s.asks.map Value.string) rfl HOw.out ⟨w7.heap.size,0,none⟩ 1 1 [.string x] rfl rfl (boxStr w7 x) (oneStr x) (by unfold maxLen;omega) (by omega) hbz ?_;intro v' w8 hown2 hgr _;have hb2:=HS3.out.askBox HK1.out hgr;have y2:=hb2.c0;have z2:=hb2.row.lt;obtain ⟨_,f2⟩:=hb2.cell (o:=0) (by omega);have HO2:=Kz hown2;obtain ⟨av8,cv8,rfl⟩:=own_slice hown2;have HG2:=Kz hgr;clear hown2 hgr hb2)
         ·rename_i hfz
          rw [f2] at hfz
          cases hfz
         go_roundg (gk - 1)
         case measure=> omega
         case rel=> exact ⟨_,{ s with asks:=s.asks++ [x] },p9+1,by go_num,by omega,by omega,by omega,by show (s.asks++ [x]).length+ (gk - 1)<=4;rw [List.length_append];show s.asks.length+1+ (gk - 1)<=4;omega,HSc.out,HS3.out.addAsk HK1.out HO2.out HG2.out (by omega) (by omega)⟩
        ·go_wp2
         go_roundg (gk - 1)
         case measure=> omega
         case rel=> exact ⟨_,s,p9+1,by go_num,by omega,by omega,by omega,by omega,HSc.out,HS3.out⟩
    ·have hg0': ¬(0:Int) < (gI:Int):=hg0
     have hll3:LS.length<=3:=by omega
     obtain ⟨ic,hc0,hc1,hc2,hc3⟩:=dInfo_parts Try.dInfoStep
     have HK1:Hid (K_ wI (wI.alloc (.cells #[.slice none 0 0,.int .i64 0,.slice none 0 0,.int .i64 0,.int .i64 0,.bool true,.bool false,.string ⟨#[119]⟩] 68))):= (K_.refl _).alloc _
     have HOw:=Kz (HA.out.kept HK1.out).own
     have HBz:=Kz (HA.out.kept HK1.out).kb.size
     have HNw:=Kz (boxStep wI #[.slice none 0 0,.int .i64 0,.slice none 0 0,.int .i64 0,.int .i64 0,.bool true,.bool false,.string ⟨#[119]⟩])
     have HAx:=Kz HA.out
     go_upto_region 19 with (at_builtin;refine wpList_append_own _ rfl (.tmp 68) (.tmp 70) 26 rfl wO.heap.size 68 ic _ 8 96 Try.underlying26 hc0 hc1 hc2 hc3 rfl (by decide) (.slice sv LS.length sc) LS.length ys rfl HOw.out ⟨wI.heap.size,0,none⟩ 1 1 ((endStep ⟨#[119]⟩).cells none 0 none 0) rfl rfl HNw.out (d_step_one (endStep ⟨#[119]⟩) none 0 none 0) (by unfold maxLen;omega) (by omega) HBz.out ?_;intro v' w5 hown2 hgr _;have hb2:=HA.out.pushRow HK1.out hgr;have z2:=hb2.2.lt;obtain ⟨⟨_,y2⟩,f2⟩:=hb2.2.row.at (i:=1) (by omega);have HO2:=Kz hown2;obtain ⟨av5,cv5,rfl⟩:=own_slice hown2;have HG2:=Kz hgr;clear hown2 hgr hb2)
     have hA5:=HA.out.push HK1.out (endStep_t _ ⟨#[119]⟩) (endStep_tiny (show (1:Nat)<=300 by omega)) (endStep_nil _) HO2.out HG2.out
     have hlen: (LS++ [endStep ⟨#[119]⟩]).length=LS.length+1:=by simp
     obtain ⟨LT,hLT⟩: ∃LT,LT=LS++ [endStep ⟨#[119]⟩]:= ⟨_,rfl⟩
     rw [<-hLT] at hA5 hlen
     obtain ⟨nT,hnT⟩: ∃nT,nT=LS.length+1:= ⟨_,rfl⟩
     rw [<-hnT] at hA5 hlen⊢
     obtain ⟨wA,hwA⟩: ∃wA,wA=w5.setCell ⟨w2.heap.size,1,none⟩ (.slice av5 nT cv5):= ⟨_,rfl⟩
     rw [<-hwA] at hA5⊢
     have HA5:=Kz hA5
     have HLT:=Kz hlen
     have hnT4:nT<=4:=by omega
     have HO5:=Kz (HO.out.drawn hA5.rd hA5.kb)
     have hrne:w.heap.size < rb∨rb+1<=w.heap.size:=by omega
     have HRes5:=Kz (HRes.out.but hA5.kb hrne)
     have q0:=hA5.c0
     have q1:=hA5.c1
     have qz:=hA5.row.lt
     have y5:=HO5.out.c0
     rw [HLk.out] at y5
     have zb5:=HO5.out.row.lt
     have hwb:w.heap.size≠w.heap.size+1:=by omega
     clear hLT hnT hlen hwA hA5 HO2 HG2 HOw HNw HBz HK1 HA HAx a1 az z2 y2 f2 HRes
     obtain ⟨ino,hn0,hn1',hn2,hn3⟩:=dInfo_parts Try.infoNodeW
     have Qx:Hid (∀v:World,K_ wA v->(fun (v:World)=> v.cell? ⟨w.heap.size+1,0,none⟩=some (.slice av k cv)∧v.cell? ⟨w2.heap.size,0,none⟩=some (.int .i64 (1+ (v2:Int)))∧v.cell? ⟨w2.heap.size,1,none⟩=some (.slice av5 nT cv5)) v):=fun v kk=> ⟨(kk.cell zb5).trans y5,(kk.cell qz).trans q0,(kk.cell qz).trans q1⟩
     refine Qj.region (by kernel_rfl) (fun (v:World)=> v.cell? ⟨w.heap.size+1,0,none⟩=some (.slice av k cv)∧v.cell? ⟨w2.heap.size,0,none⟩=some (.int .i64 (1+ (v2:Int)))∧v.cell? ⟨w2.heap.size,1,none⟩=some (.slice av5 nT cv5)) 9 ⟨y5,q0,q1⟩ (fun Qk=> ?_)
     refine Qj.tk 0 Qk ?_
     refine Qj.tk 1 Qk ?_
     refine Qj.tk 2 Qk ?_
     refine Qj.tk 4 Qk ?_
     refine Qj.nx 3 (fun K hK=> ?_)
     rw [if_pos (by rfl)]
     go_simp
     go_at_call 12
     refine (label_at _ k _ rfl (by omega)).mono ?_
     rintro e w6 ⟨nm,rfl,hnm,k6⟩
     have K6:K_ wA w6:= ((K_.refl _).drew).trans k6
     dsimp only
     refine hK.out _ _ (fun _=> Qx.out w6 K6) ?_
     clear hK K Qk k6
     have Qk:=Qx.out w6 K6
     try simp only [Act.put,upA,upB,upC]
     refine Qj.tk 5 Qk ?_
     refine Qj.nx 6 (fun K hK=> ?_)
     go_simp
     have KW:K_ wA (w6.alloc (.cells #[.string nm,.int .i64 (1+ (v2:Int)),.slice av5 nT cv5] 30)):=K6.alloc _
     refine hK.out _ _ (fun _=> Qx.out _ KW) ?_
     clear hK K Qk
     try simp only [Act.put,upA,upB,upC]
     refine Qj.nx 7 (fun K hK=> ?_)
     have hOW:= (HO5.out.kept KW).own
     rw [HLk.out] at hOW
     have zw4:= (HO5.out.kept KW).kb.size
     have HTy:Hid (Q_.TinyN 20 ⟨nm,1+ (v2:Int),LT⟩):= ⟨by show nm.size<=300;omega,by show -1000<=1+ (v2:Int)∧1+ (v2:Int)<=1000;omega,by show LT.length<=21;have:=HLT.out;omega,HA5.out.tiny⟩
     refine step_append_lies _ rfl (.tmp 74) (.tmp 79) 23 rfl (w.alloc (.cells #[.slice none 0 0] 25)).heap.size 30 ino _ 3 48 Try.underlying23 hn0 hn1' hn2 hn3 rfl (by decide) (.slice av k cv) k xs (by simp [Act.eval]) hOW ⟨w6.heap.size,0,none⟩ 1 1 [.string nm,.int .i64 (1+ (v2:Int)),.slice av5 nT cv5] (by simp [Act.eval]) rfl (boxNode _ _ _ _) (oneNode _ _ _ _ _) (by omega) (by unfold maxLen;omega) (by omega) zw4 _ rfl ?_
     intro g cap3 w8 hown3 hgr3 hat hlt3
     have hPR:=HO5.out.pushRow KW (by rw [HLk.out];exact hgr3)
     have y6:=hPR.1
     rw [HLk.out] at y6
     have zb6:=hPR.2.lt
     have fo1:= (hPR.2.row.at (i:=0) (by omega)).2
     obtain ⟨vo,fo2⟩:= (hPR.2.row.at (i:=0) (by omega)).1
     have hGs:=HA5.out.g.same (u:=25) (.of_kept KW) (by decide) (by decide) (by decide)
     have HP6:Hid (WStN 20 (w.alloc (.cells #[.slice none 0 0] 25)) (w8.setCell ⟨w.heap.size+1,0,none⟩ (.slice (some ⟨g,0,none⟩) (k+1) cap3)) rb (w.heap.size+1) a cap bs p8 (.slice (some ⟨g,0,none⟩) (k+1) cap3) (L++ [⟨nm,1+ (v2:Int),LT⟩]) (xs++ [.string nm,.int .i64 (1+ (v2:Int)),.slice av5 nT cv5])):=
      HO5.out.push (d:= ⟨nm,1+ (v2:Int),LT⟩) KW hGs HTy.out (by rw [HLk.out];exact hown3) (by rw [HLk.out];exact hgr3)
     have hk6:=SameKind.of_grown hOW hgr3
     have HRes6:Hid (RowT w8 w.heap.size 25 1):=by
      obtain ⟨cur,g1,g2⟩:=HRes5.out.kept KW
      exact ⟨cur,hk6 _ cur _ _ (by decide) g1,g2⟩
     have hq8: (fun (v:World)=> v.cell? ⟨w.heap.size+1,0,none⟩=some (.slice av k cv)∧v.cell? ⟨w2.heap.size,0,none⟩=some (.int .i64 (1+ (v2:Int)))∧v.cell? ⟨w2.heap.size,1,none⟩=some (.slice av5 nT cv5)) w8:=by
      obtain ⟨cur,g1,g2⟩:=HA5.out.row.kept KW
      have hb:=hk6 _ cur _ _ (by decide) g1
      have hS:=Qx.out _ KW
      exact ⟨y6,by rw [World.cell?_of_block (hb.trans g1.symm)];exact hS.2.1,by rw [World.cell?_of_block (hb.trans g1.symm)];exact hS.2.2⟩
     clear hPR hOW hown3 hgr3 hat hk6 KW hGs
     refine hK.out _ _ (fun _=> hq8) ?_
     clear hK K
     try simp only [Act.put,upA,upB,upC]
     have Qk:=hq8
     refine Qj.tk 8 Qk ?_
     refine Qj.nx 9 (fun K hK=> ?_)
     go_simp
     refine hK.out _ _ (fun h=> absurd rfl h) ?_
     clear hK K
     try simp only [Act.put,upA,upB,upC]
     refine Qj.dn ?_
     go_wp2
     go_roundg (gO - 1)
     case rel=> exact ⟨k+1,p8,_,_,_,by go_num,by omega,by rw [List.length_append,HLk.out];rfl,by omega,by omega,HRes6.out.block (Below.heap_setCell _ _ _ _ (by simp)),HP6.out⟩
     case measure=> omega
  ·have y0:=HO.out.c0
   rw [HLk.out] at y0
   have zb:=HO.out.row.lt
   have hG:=HO.out.web
   rw [HLk.out] at hG
   have hSo:=sortedG_any wO av cv L (mN:=20) (by omega) (by have:=HLk.out;omega) HO.out.tiny (by rw [HLk.out];exact hG)
   rw [HLk.out] at hSo
   have HSo:=Kz hSo
   have HRs:=Kz HRes.out
   clear hG hSo
   go_wp2_with fail
   refine HSo.out.mono ?_
   intro e w6 hs
   obtain ⟨va,vn,vc,rfl,hr6,hD⟩:=HO.out.sorted (p:=p) (t:=400) hs HRes.out (Nat.le_refl _) k0 HR0.out (by omega) (by omega)
   have HD:=Kz hD
   have HR6:=Kz hr6
   have z6:=hr6.lt
   obtain ⟨⟨_,u0⟩,f0⟩:=hr6.row.at (i:=0) (by omega)
   clear hD hr6 hs
   go_wp2
   have hR:=World.rangeAt_setCells_same w6 w.heap.size 0 [.slice va vn vc] (HR6.out.row.there (o:=0) (m:=1) (Nat.le_refl _))
   exact Zk [.slice va vn vc] _ Try.results49 rfl hR Try.underlying25 rfl Try.sizeWebW rfl HD.out
