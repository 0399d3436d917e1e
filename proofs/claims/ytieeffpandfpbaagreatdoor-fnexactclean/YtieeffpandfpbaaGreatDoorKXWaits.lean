import Derived.Test.YtieeffpandfpbaaGreatDoorKBBegin
import Derived.Deep.RegionHeld
import Derived.Maps.RangeWalk
set_option maxRecDepth 100000
set_option maxHeartbeats 25600000
namespace Go.Proofs.YtieeffpandfpbaaGreatDoor
open Go.RowKit
theorem Tryz.zeroWS (w:World): (zeroValue 25).run Tryz.prog w= .ok (.slice none 0 0) w:=by kernel_rfl
structure OutM (w:World) (base mo M:Nat) (g:ByteArray->Value) (ol:ByteArray->List ByteArray):Prop where
 map: ∃N D,N<=M∧w.ownsMap Tryz.prog 9 asIs mo N D∧(∀s:ByteArray,s.size<=maxLen->D.atKey (keyLit s) (.held (.slice none 0 0))= .held (g s))∧∀s:ByteArray,Maps.has D (keyLit s)=true↔ol s≠[]
 row: ∀s,w.ownsRow base 9 1 (g s) (ol s).length ((ol s).map Value.string)
 sep: ∀s s',s≠s'->∀x,(g s).ownBlock=some x->(g s').ownBlock≠some x
 low:base<=mo
section
variable {w w1 w' : World} {base mo M : Nat} {g : ByteArray -> Value} {ol : ByteArray -> List ByteArray}
theorem OutM.look (h:OutM w base mo M g ol) {s:ByteArray} (hs:s.size<=maxLen): (Instr.lookup 139 (.map (some mo)) (.string s) false).run Tryz.prog w= .ok (g s) w:=by
 obtain ⟨N,D,_,hM,hf⟩:=h.map
 obtain ⟨v,ps,hrun,hv⟩:=hM.lookup Tryz.keyed Tryz.underlying139 (Tryz.zeroWS w) (zd:= .held (.slice none 0 0)) (zp:=[]) rfl (WideMaps.keyOf_string_mk Tryz.underlying9 hs)
 have e:=hf.1 s hs
 unfold asIs at hv
 simp only [Option.some.injEq,Prod.mk.injEq] at hv
 have e2: (DataW.held v:DataW Value)= .held (g s):=hv.1.trans e
 cases e2
 exact hrun
theorem OutM.but {S:Nat->Prop} (h:OutM w base mo M g ol) (k:But S w w') (h1: ¬S mo) (h2: ∀s b,(g s).ownBlock=some b->¬S b):OutM w' base mo M g ol:=by
 obtain ⟨N,D,hN,hM,hf⟩:=h.map
 exact ⟨⟨N,D,hN,map_but hM k h1,hf⟩,fun s=> k.owns (h.row s) (h2 s),h.sep,h.low⟩
theorem OutM.kept (h:OutM w base mo M g ol) (k:K_ w w'):OutM w' base mo M g ol:=
 h.but (S:=fun _=> False) (But.of_kept k) id (fun _ _ _=> id)
theorem OutM.put (h:OutM w base mo M g ol) {s:ByteArray} (hs:s.size<=maxLen) {x:ByteArray} {v':Value} (ho:w1.ownsRow base 9 1 v' ((ol s).length+1) ((ol s).map Value.string++ [.string x])) (hg:w.grownBy w1 (g s).ownBlock) (hv: ∀b,v'.ownBlock=some b->(g s).ownBlock=some b∨w.heap.size<=b) (hmx:M<=1000000):
  ∃w2,(Instr.mapUpdate 139 (.map (some mo)) (.string s) v').run Tryz.prog w1= .ok () w2∧OutM w2 base mo (M+1) (fun n=> if n=s then v' else g n) (fun n=> if n=s then ol s++ [x] else ol n)∧But (fun b=> (g s).ownBlock=some b∨b=mo) w w2:=by
 obtain ⟨N,D,hNl,hM,hf⟩:=h.map
 have k1:But (fun b=> (g s).ownBlock=some b) w w1:=But.of_grown hg (fun b e=> e)
 have hM1:=map_but hM k1 (fun e=> map_ne hM (Yz (h.row s) e) rfl)
 obtain ⟨w2,hrun,hM2,hg2⟩:=hM1.update Tryz.keyed Tryz.underlying139 (by unfold maxLen;omega) (WideMaps.keyOf_string_mk Tryz.underlying9 hs) (d:= .held v') (ps:=[]) rfl
 have kS:But (fun b=> (g s).ownBlock=some b∨b=mo) w w2:= (k1.mono (fun b _ e=> .inl e)).trans (But.of_grown hg2 (fun b e=> .inr (Option.some.inj e).symm))
 have k2:But (fun b=> b=mo) w1 w2:=But.of_grown hg2 (fun b e=> (Option.some.inj e).symm)
 have ne1: ∀{b:Nat} {t:TypeId},TypeAt w1 b t->¬b=mo:=fun hu e=> map_ne hM1 hu e
 have hmp:Maps.IsMap D:=by obtain ⟨es,clock,_,_,_,rfl⟩:=hM;exact ⟨_,rfl⟩
 refine ⟨w2,hrun,⟨⟨N+1,_,by omega,hM2,fun n hn=> ?_,fun n=> ?_⟩,fun n=> ?_,fun n n' hnn y hy hy'=> ?_,h.low⟩,kS⟩
 ·by_cases e:n=s
  ·rw [if_pos e,e]
   exact Maps.atKey_put_same (k:=keyLit s) hmp (by show WideAt.IsKeyLit (.string _);exact trivial) _ _
  ·rw [if_neg e,<-hf.1 n hn]
   exact Maps.atKey_put_other (keyLit_ne e) _ _
 ·by_cases e:n=s
  ·rw [if_pos e,e]
   exact ⟨fun _=> by simp,fun _=> Maps.has_put_same (k:=keyLit s) hmp (by show WideAt.IsKeyLit (.string _);exact trivial) (.held v')⟩
  ·rw [if_neg e,<-hf.2 n]
   exact Eq.to_iff (congrArg (· =true) (Maps.has_put_other (keyLit_ne e) _))
 ·by_cases e:n=s
  ·simp only [if_pos e]
   have e1: (ol s++ [x]).length= (ol s).length+1:=by simp
   have e2: (ol s++ [x]).map Value.string= (ol s).map Value.string++ [.string x]:=by simp
   rw [e1,e2]
   exact k2.owns ho (fun b e=> ne1 (Yz ho e))
  ·simp only [if_neg e]
   refine kS.owns (h.row n) (fun b e1 e2=> ?_)
   rcases e2 with e2 | e2
   ·exact h.sep n s e b e1 e2
   ·exact map_ne hM (Yz (h.row n) e1) e2
 ·by_cases e:n=s
  ·rw [if_pos e] at hy
   rw [if_neg (fun e'=> hnn (e.trans e'.symm))] at hy'
   rcases hv y hy with q | q
   ·exact h.sep s n' (fun e'=> hnn (e.trans e')) y q hy'
   ·have:= ((h.row n').lt y hy').2;omega
  ·rw [if_neg e] at hy
   by_cases e':n'=s
   ·rw [if_pos e'] at hy'
    rcases hv y hy' with q | q
    ·exact h.sep n s e y hy q
    ·have:= ((h.row n).lt y hy).2;omega
   ·rw [if_neg e'] at hy'
    exact h.sep n n' hnn y hy hy'
theorem OutM.made {base:Nat} (hb:base<=w.heap.size):OutM (w.alloc (.map #[] 0)) base w.heap.size 0 (fun _=> .slice none 0 0) (fun _=> []):=
 ⟨⟨0,.map [],Nat.le_refl _,World.ownsMap_made w Tryz.prog 9 asIs,fun s _=> rfl,fun s=> by simp [Maps.has]⟩,fun s=> World.ownsRow_nil _ _ _ _,fun s s' _ x h=> (by cases h),hb⟩
end
theorem owns_low {w:World} {base base':Nat} {e:TypeId} {size n:Nat} {v:Value} {xs:List Value} (h:w.ownsRow base e size v n xs) (hb:base'<=base):w.ownsRow base' e size v n xs:=by
 refine ⟨h.1, ?_⟩
 rcases h.2 with h2 | ⟨g,cap,cur,h3,h4,h5⟩
 ·exact .inl h2
 ·exact .inr ⟨g,cap,cur,h3,Nat.le_trans hb h4,h5⟩
def StaysOwn (w w':World) (v v':Value) (l r:List ByteArray):Prop:= ∀B,B<=w.heap.size->w.ownsRow B 9 1 v l.length (l.map Value.string)->w'.ownsRow B 9 1 v' r.length (r.map Value.string)
theorem l6Put_own (w:World) (b o cap:Nat) (l:List ByteArray) (x:ByteArray) (hl:l.length<=100000) (hcl:l.length<=cap) (ha:AscB l) (hS:Strs w (some ⟨b,o,none⟩) l):
  Calls Tryz.prog 134 #[.slice (some ⟨b,o,none⟩) l.length cap,.string x] w fun e w'=> ∃b' o' c' r,e= .returned (.slice (some ⟨b',o',none⟩) r.length c')∧r.length<=c'∧PutB l x r∧Strs w' (some ⟨b',o',none⟩) r∧StaysOwn w w' (.slice (some ⟨b,o,none⟩) l.length cap) (.slice (some ⟨b',o',none⟩) r.length c') l r∧K_ w w':=by
 have HA:=Kz ha
 clear ha
 go_enter Tryz.func134,Tryz.ntmps134
 go_wp2
 go_loop [5] (fun i=> ∃k:Nat,k<=l.length∧i= .int .i64 k∧Hid (∀y∈l.take k,lessX y x)) (fun i=> l.length - (intOf i).toNat)
 case atStart=> exact ⟨0,Nat.zero_le _,rfl,Kz fun y hy=> by cases hy⟩
 case round=>
  obtain ⟨k,hk,rfl,HLs⟩:=hrel
  by_cases hlt:k < l.length
  ·obtain ⟨b1,o1,e1,hb,hc⟩:=hS k hlt
   cases e1
   obtain ⟨y,hy⟩: ∃y,y=l.getD k ByteArray.empty:= ⟨_,rfl⟩
   rw [<-hy] at hc
   have hyg:l[k]=y:=by rw [hy];simp [List.getD,hlt]
   have HY:=Kz hyg
   clear hy hyg
   have hki: (k:Int) < (l.length:Int):=by omega
   cases hle: (Op.bytesLess y.toList x.toList)
   ·have HLe:=Kz hle
    cases heq: (y.toList == x.toList)
    ·have HEq:=Kz heq
     have HGr:Hid (∀z∈l.drop k,lessX x z):=fun z hz=> by
      have hxy:lessX x y:=by
       rcases lessX_total x y with g | g | g
       ·exact g
       ·exact absurd g.symm (beq_no HEq.out)
       ·unfold lessX at g;rw [HLe.out] at g;cases g
      rw [List.drop_eq_getElem_cons hlt,HY.out] at hz
      rcases List.mem_cons.1 hz with rfl | hz
      ·exact hxy
      ·obtain ⟨j,hj,rfl⟩:=List.getElem_of_mem hz
       rw [List.getElem_drop]
       have h2:=List.pairwise_iff_getElem.1 HA.out k (k+1+j) hlt (by simp at hj;omega) (by omega)
       rw [HY.out] at h2
       exact lessX_trans hxy h2
     have HNo:Hid (x∉l):=fun h=> by
      rw [<-List.take_append_drop k l] at h
      rcases List.mem_append.1 h with h | h
      ·exact lessX_irrefl x (HLs.out x h)
      ·exact lessX_irrefl x (HGr.out x h)
     obtain ⟨l1,l2,hll,hk1⟩: ∃l1 l2,l=l1++l2∧k=l1.length:= ⟨l.take k,l.drop k,(List.take_append_drop k l).symm,by simp;omega⟩
     subst hk1
     have HPt:Hid (PutB l x (l1++x :: l2)):=by
      have e1:l.take l1.length=l1:=by rw [hll];simp
      have e2:l.drop l1.length=l2:=by rw [hll];simp
      refine .inr ⟨HNo.out,l1.length,hk,by rw [e1,e2],HLs.out,HGr.out⟩
     have hl2:l.length=l1.length+l2.length:=by rw [hll,List.length_append]
     have HS1:Hid (∀W,K_ w W->Strs W (some ⟨b,o,none⟩) l1):=fun W K i hi=> by
      obtain ⟨b',o',e',hb',hc'⟩:= (hS.kept K) i (by omega)
      refine ⟨b',o',e',hb', ?_⟩
      rw [hc',hll]
      simp [List.getD,List.getElem?_append_left hi]
     have HS2:Hid (∀W,K_ w W->Strs W (if cap=l1.length then (some ⟨b,o,none⟩:Option Addr) else some ⟨b,o+l1.length,none⟩) l2):=fun W K i hi=> by
      obtain ⟨b',o',e',hb',hc'⟩:= (hS.kept K) (l1.length+i) (by omega)
      cases e'
      rw [if_neg (by omega)]
      refine ⟨b,o+l1.length,rfl,hb', ?_⟩
      rw [Nat.add_assoc,hc',hll]
      simp [List.getD,List.getElem?_append_right]
     have hdl:l.length - l1.length=l2.length:=by omega
     have hc1:l1.length<=cap:=by omega
     have hc2:l1.length<=l.length:=by omega
     have hb1:l1.length<=100000:=by omega
     have hb2:l2.length<=100000:=by omega
     have HDl:=Kz hdl
     obtain ⟨ic,hi0,hi1,hi2,hi3⟩:=xInfo_parts Tryz.xInfoStr
     have HOE:Hid ((w.alloc (.cells #[] 9)).ownsRow w.heap.size 9 1 (.slice (some ⟨w.heap.size,0,none⟩) 0 0) 0 (([]:List ByteArray).map Value.string)):=World.ownsRow_made w #[] 0 (Nat.le_refl _) (Nat.zero_le _) rfl
     have hzE:w.heap.size<=(w.alloc (.cells #[] 9)).heap.size:=by simp
     have HKE:Hid (K_ w (w.alloc (.cells #[] 9))):= (K_.refl _).alloc _
     clear hll hl2 hdl
     go_upto_region 7 with (at_builtin;refine wpList_append_strs rfl (.tmp 34) (.tmp 37) 25 rfl w.heap.size 9 ic _ 16 Tryz.underlying25 hi0 hi1 hi2 hi3 rfl (.slice (some ⟨w.heap.size,0,none⟩) 0 0) 0 (([]:List ByteArray).map Value.string) rfl HOE.out (some ⟨b,o,none⟩) cap l1 rfl (HS1.out _ HKE.out) (by unfold maxLen;omega) (by omega) hzE ?_;intro v1 w1 ho1 hg1 hv1;rw [Nat.zero_add] at ho1;have HO1:=Kz ho1;have KP1:=kept_of_grown HKE.out (Nat.le_refl _) HOE.out hg1;obtain ⟨av1,cv1,rfl⟩:=own_slice ho1;clear ho1 hg1 hv1)
     refine Qx.region (by kernel_rfl) (fun _=> True) 8 trivial (fun Z_=> ?_)
     have KD:K_ w1 w1.drew:= (K_.refl w1).drew
     generalize hwd:w1.drew=wd at KD⊢
     clear hwd
     refine Qx.tk 0 Z_ ?_
     refine Qx.tk 1 Z_ ?_
     refine Qx.tk 4 Z_ ?_
     refine Qx.tk 5 Z_ ?_
     refine Qx.tk 6 Z_ ?_
     generalize hgd: (if cap=l1.length then (some ⟨b,o,none⟩:Option Addr) else some ⟨b,o+l1.length,none⟩)=ad2 at HS2⊢
     clear hgd
     refine Qx.nx 2 (fun K hK=> ?_)
     go_simp
     have K5:K_ wd (wd.alloc (.cells #[.string x] 9)):= (K_.refl _).alloc _
     have HNs:Hid (Strs (wd.alloc (.cells #[.string x] 9)) (some ⟨wd.heap.size,0,none⟩) [x]):=fun q hq=> by
      obtain rfl:q=0:=by simpa using hq
      exact ⟨wd.heap.size,0,rfl,by simp,Xz wd #[.string x] 9 0 _ rfl⟩
     refine hK.out _ _ (fun _=> trivial) ?_
     clear hK K Z_
     have K5b:=KD.trans K5
     have HO5:=Kz (ownsRow_kept' HO1.out K5b)
     obtain ⟨eb,heb⟩: ∃eb,eb=wd.heap.size:= ⟨_,rfl⟩
     rw [<-heb] at HNs⊢
     generalize hwe:wd.alloc (.cells #[.string x] 9)=w5 at HNs K5b HO5⊢
     clear hwe K5 heb
     have KP5:=KP1.trans K5b
     have hz5:=KP5.size
     try simp only [Act.put,upA,upB,upC]
     refine Qx.nx 3 (fun K hK=> ?_)
     rw [if_pos (by rfl)]
     refine wp_append_strs (.tmp 39) (.tmp 41) 25 rfl w.heap.size 9 ic _ 16 Tryz.underlying25 hi0 hi1 hi2 hi3 rfl (.slice av1 l1.length cv1) l1.length (([]:List ByteArray).map Value.string++l1.map Value.string) rfl HO5.out (some ⟨eb,0,none⟩) 1 [x] rfl HNs.out (by unfold maxLen;simp;omega) (by simp;omega) hz5 ?_
     intro v6 w6 ho6 hg6 hv6
     have HO6:=Kz ho6
     have KP6:=kept_of_grown KP5 (Nat.le_refl _) HO5.out hg6
     obtain ⟨av6,cv6,rfl⟩:=own_slice ho6
     have hz6:=KP6.size
     refine hK.out _ _ (fun _=> trivial) ?_
     clear hK K ho6 hg6 hv6
     try simp only [Act.put,upA,upB,upC]
     refine Qx.nx 7 (fun K hK=> ?_)
     rw [if_pos (by rfl)]
     refine wp_append_strs (.tmp 42) (.tmp 45) 25 rfl w.heap.size 9 ic _ 16 Tryz.underlying25 hi0 hi1 hi2 hi3 rfl (.slice av6 (l1.length+ [x].length) cv6) (l1.length+ [x].length) ((([]:List ByteArray).map Value.string++l1.map Value.string)++ [x].map Value.string) rfl HO6.out ad2 (cap - l1.length) l2 (by rw [<-HDl.out];rfl) (HS2.out _ KP6) (by unfold maxLen;simp;omega) (by simp;omega) hz6 ?_
     intro v7 w7 ho7 hg7 hv7
     have HO7:=Kz ho7
     have KP7:=kept_of_grown KP6 (Nat.le_refl _) HO6.out hg7
     refine hK.out _ _ (fun _=> trivial) ?_
     clear hK K ho7 hg7 hv7
     try simp only [Act.put,upA,upB,upC]
     refine Qx.nx 8 (fun K hK=> ?_)
     go_simp
     refine hK.out _ _ (fun h=> absurd rfl h) ?_
     clear hK K
     try simp only [Act.put,upA,upB,upC]
     refine Qx.dn ?_
     go_wp2
     go_ret
     have hlen: (l1++x :: l2).length=l1.length+ [x].length+l2.length:=by simp;omega
     have ho:w7.ownsRow w.heap.size 9 1 v7 (l1++x :: l2).length ((l1++x :: l2).map Value.string):=by
      have h:=HO7.out
      rw [hlen]
      have e: (l1++x :: l2).map Value.string= ((([]:List ByteArray).map Value.string++l1.map Value.string)++ [x].map Value.string)++l2.map Value.string:=by simp
      rw [e]
      exact h
     rcases ho.2 with ⟨_,h0⟩ | ⟨g,cap7,cur7,e7,_,_,hn7,_,_,_⟩
     ·simp at h0
     ·obtain ⟨a9,c9,e9,h9⟩:=owned_strs ho
      rw [e7] at e9
      simp only [Value.slice.injEq,true_and] at e9
      rw [<-e9.1] at h9
      exact ⟨g,0,cap7,_,by rw [e7];rfl,hn7,HPt.out,h9,fun B hB _=> by rw [<-e7];exact owns_low ho hB,KP7⟩
    ·have HEq:=Kz (beq_yes heq)
     go_wp2
     go_ret
     exact ⟨b,o,cap,l,rfl,hcl,.inl ⟨by rw [<-HEq.out,<-HY.out];exact List.getElem_mem hlt,rfl⟩,hS,fun _ _ h=> h,K_.refl _⟩
   ·have HLe:=Kz hle
    go_wp2
    go_round
    case rel=>
     refine ⟨k+1,by omega,by go_num,Kz fun z hz=> ?_⟩
     rw [List.take_succ_eq_append_getElem hlt] at hz
     rcases List.mem_append.1 hz with hz | hz
     ·exact HLs.out z hz
     ·rw [List.mem_singleton,HY.out] at hz
      rw [hz];exact HLe.out
    case measure=> simp [intOf];omega
  ·have hke:k=l.length:=by omega
   have HGr:Hid (∀z∈l.drop k,lessX x z):=fun z hz=> by rw [hke,List.drop_length] at hz;cases hz
   have HNo:Hid (x∉l):=fun h=> by
    rw [<-List.take_append_drop k l] at h
    rcases List.mem_append.1 h with h | h
    ·exact lessX_irrefl x (HLs.out x h)
    ·exact lessX_irrefl x (HGr.out x h)
   obtain ⟨l1,l2,hll,hk1⟩: ∃l1 l2,l=l1++l2∧k=l1.length:= ⟨l.take k,l.drop k,(List.take_append_drop k l).symm,by simp;omega⟩
   subst hk1
   have HPt:Hid (PutB l x (l1++x :: l2)):=by
    have e1:l.take l1.length=l1:=by rw [hll];simp
    have e2:l.drop l1.length=l2:=by rw [hll];simp
    refine .inr ⟨HNo.out,l1.length,hk,by rw [e1,e2],HLs.out,HGr.out⟩
   have hl2:l.length=l1.length+l2.length:=by rw [hll,List.length_append]
   have HS1:Hid (∀W,K_ w W->Strs W (some ⟨b,o,none⟩) l1):=fun W K i hi=> by
    obtain ⟨b',o',e',hb',hc'⟩:= (hS.kept K) i (by omega)
    refine ⟨b',o',e',hb', ?_⟩
    rw [hc',hll]
    simp [List.getD,List.getElem?_append_left hi]
   have HS2:Hid (∀W,K_ w W->Strs W (if cap=l1.length then (some ⟨b,o,none⟩:Option Addr) else some ⟨b,o+l1.length,none⟩) l2):=fun W K i hi=> by
    obtain ⟨b',o',e',hb',hc'⟩:= (hS.kept K) (l1.length+i) (by omega)
    cases e'
    rw [if_neg (by omega)]
    refine ⟨b,o+l1.length,rfl,hb', ?_⟩
    rw [Nat.add_assoc,hc',hll]
    simp [List.getD,List.getElem?_append_right]
   have hdl:l.length - l1.length=l2.length:=by omega
   have hc1:l1.length<=cap:=by omega
   have hc2:l1.length<=l.length:=by omega
   have hb1:l1.length<=100000:=by omega
   have hb2:l2.length<=100000:=by omega
   have HDl:=Kz hdl
   obtain ⟨ic,hi0,hi1,hi2,hi3⟩:=xInfo_parts Tryz.xInfoStr
   have HOE:Hid ((w.alloc (.cells #[] 9)).ownsRow w.heap.size 9 1 (.slice (some ⟨w.heap.size,0,none⟩) 0 0) 0 (([]:List ByteArray).map Value.string)):=World.ownsRow_made w #[] 0 (Nat.le_refl _) (Nat.zero_le _) rfl
   have hzE:w.heap.size<=(w.alloc (.cells #[] 9)).heap.size:=by simp
   have HKE:Hid (K_ w (w.alloc (.cells #[] 9))):= (K_.refl _).alloc _
   clear hll hl2 hdl hke
   go_upto_region 7 with (at_builtin;refine wpList_append_strs rfl (.tmp 34) (.tmp 37) 25 rfl w.heap.size 9 ic _ 16 Tryz.underlying25 hi0 hi1 hi2 hi3 rfl (.slice (some ⟨w.heap.size,0,none⟩) 0 0) 0 (([]:List ByteArray).map Value.string) rfl HOE.out (some ⟨b,o,none⟩) cap l1 rfl (HS1.out _ HKE.out) (by unfold maxLen;omega) (by omega) hzE ?_;intro v1 w1 ho1 hg1 hv1;rw [Nat.zero_add] at ho1;have HO1:=Kz ho1;have KP1:=kept_of_grown HKE.out (Nat.le_refl _) HOE.out hg1;obtain ⟨av1,cv1,rfl⟩:=own_slice ho1;clear ho1 hg1 hv1)
   refine Qx.region (by kernel_rfl) (fun _=> True) 8 trivial (fun Z_=> ?_)
   have KD:K_ w1 w1.drew:= (K_.refl w1).drew
   generalize hwd:w1.drew=wd at KD⊢
   clear hwd
   refine Qx.tk 0 Z_ ?_
   refine Qx.tk 1 Z_ ?_
   refine Qx.tk 4 Z_ ?_
   refine Qx.tk 5 Z_ ?_
   refine Qx.tk 6 Z_ ?_
   generalize hgd: (if cap=l1.length then (some ⟨b,o,none⟩:Option Addr) else some ⟨b,o+l1.length,none⟩)=ad2 at HS2⊢
   clear hgd
   refine Qx.nx 2 (fun K hK=> ?_)
   go_simp
   have K5:K_ wd (wd.alloc (.cells #[.string x] 9)):= (K_.refl _).alloc _
   have HNs:Hid (Strs (wd.alloc (.cells #[.string x] 9)) (some ⟨wd.heap.size,0,none⟩) [x]):=fun q hq=> by
    obtain rfl:q=0:=by simpa using hq
    exact ⟨wd.heap.size,0,rfl,by simp,Xz wd #[.string x] 9 0 _ rfl⟩
   refine hK.out _ _ (fun _=> trivial) ?_
   clear hK K Z_
   have K5b:=KD.trans K5
   have HO5:=Kz (ownsRow_kept' HO1.out K5b)
   obtain ⟨eb,heb⟩: ∃eb,eb=wd.heap.size:= ⟨_,rfl⟩
   rw [<-heb] at HNs⊢
   generalize hwe:wd.alloc (.cells #[.string x] 9)=w5 at HNs K5b HO5⊢
   clear hwe K5 heb
   have KP5:=KP1.trans K5b
   have hz5:=KP5.size
   try simp only [Act.put,upA,upB,upC]
   refine Qx.nx 3 (fun K hK=> ?_)
   rw [if_pos (by rfl)]
   refine wp_append_strs (.tmp 39) (.tmp 41) 25 rfl w.heap.size 9 ic _ 16 Tryz.underlying25 hi0 hi1 hi2 hi3 rfl (.slice av1 l1.length cv1) l1.length (([]:List ByteArray).map Value.string++l1.map Value.string) rfl HO5.out (some ⟨eb,0,none⟩) 1 [x] rfl HNs.out (by unfold maxLen;simp;omega) (by simp;omega) hz5 ?_
   intro v6 w6 ho6 hg6 hv6
   have HO6:=Kz ho6
   have KP6:=kept_of_grown KP5 (Nat.le_refl _) HO5.out hg6
   obtain ⟨av6,cv6,rfl⟩:=own_slice ho6
   have hz6:=KP6.size
   refine hK.out _ _ (fun _=> trivial) ?_
   clear hK K ho6 hg6 hv6
   try simp only [Act.put,upA,upB,upC]
   refine Qx.nx 7 (fun K hK=> ?_)
   rw [if_pos (by rfl)]
   refine wp_append_strs (.tmp 42) (.tmp 45) 25 rfl w.heap.size 9 ic _ 16 Tryz.underlying25 hi0 hi1 hi2 hi3 rfl (.slice av6 (l1.length+ [x].length) cv6) (l1.length+ [x].length) ((([]:List ByteArray).map Value.string++l1.map Value.string)++ [x].map Value.string) rfl HO6.out ad2 (cap - l1.length) l2 (by rw [<-HDl.out];rfl) (HS2.out _ KP6) (by unfold maxLen;simp;omega) (by simp;omega) hz6 ?_
   intro v7 w7 ho7 hg7 hv7
   have HO7:=Kz ho7
   have KP7:=kept_of_grown KP6 (Nat.le_refl _) HO6.out hg7
   refine hK.out _ _ (fun _=> trivial) ?_
   clear hK K ho7 hg7 hv7
   try simp only [Act.put,upA,upB,upC]
   refine Qx.nx 8 (fun K hK=> ?_)
   go_simp
   refine hK.out _ _ (fun h=> absurd rfl h) ?_
   clear hK K
   try simp only [Act.put,upA,upB,upC]
   refine Qx.dn ?_
   go_wp2
   go_ret
   have hlen: (l1++x :: l2).length=l1.length+ [x].length+l2.length:=by simp;omega
   have ho:w7.ownsRow w.heap.size 9 1 v7 (l1++x :: l2).length ((l1++x :: l2).map Value.string):=by
    have h:=HO7.out
    rw [hlen]
    have e: (l1++x :: l2).map Value.string= ((([]:List ByteArray).map Value.string++l1.map Value.string)++ [x].map Value.string)++l2.map Value.string:=by simp
    rw [e]
    exact h
   rcases ho.2 with ⟨_,h0⟩ | ⟨g,cap7,cur7,e7,_,_,hn7,_,_,_⟩
   ·simp at h0
   ·obtain ⟨a9,c9,e9,h9⟩:=owned_strs ho
    rw [e7] at e9
    simp only [Value.slice.injEq,true_and] at e9
    rw [<-e9.1] at h9
    exact ⟨g,0,cap7,_,by rw [e7];rfl,hn7,HPt.out,h9,fun B hB _=> by rw [<-e7];exact owns_low ho hB,KP7⟩
theorem WaitL.nil {W:Acts} {σ:Env} {n:ByteArray} (h: ∀s,¬WaitsX W σ n s):WaitL W σ n []:= ⟨List.Pairwise.nil,fun s=> ⟨fun e=> (by cases e),fun e=> (h s e).elim⟩⟩
def WaitsOwn (Kj:List Qq) (sl:List Qz) (name:ByteArray) (w w':World) (e:Ending):Prop:=
 ∃(b o c:Nat) (ns:List ByteArray),e= .returned (.slice (some ⟨b,o,none⟩) ns.length c)∧ns.length<=c∧Strs w' (some ⟨b,o,none⟩) ns∧WaitL (Q_ Kj) (Qj sl) name ns∧w'.ownsRow w.heap.size 9 1 (.slice (some ⟨b,o,none⟩) ns.length c) ns.length (ns.map Value.string)
def WaitsSaid (Kj:List Qq) (sl:List Qz) (name:ByteArray) (w':World) (e:Ending):Prop:=
 ∃(b o c:Nat) (ns:List ByteArray),e= .returned (.slice (some ⟨b,o,none⟩) ns.length c)∧ns.length<=c∧Strs w' (some ⟨b,o,none⟩) ns∧WaitL (Q_ Kj) (Qj sl) name ns
theorem l6Waits_own (w:World) (a:Option Addr) (cap:Nat) (Kj:List Qq) (ra:Option Addr) (rn rc:Nat) (d:Option Addr) (dc:Nat) (sl:List Qz) (name:ByteArray) (hwl:Kj.length<=1048576) (hsl:sl.length<=1048576) (hok:ActsOk (Q_ Kj)) (hg:GoodL Kj sl) (hN:Nodes w a Kj) (hS:RunsX w d sl):
  Calls Tryz.prog 89 #[.agg #[.slice a Kj.length cap],.agg #[.slice ra rn rc,.slice d sl.length dc],.string name] w fun e w'=> WaitsOwn Kj sl name w w' e∧K_ w w':=by
 obtain ⟨WB,hWB⟩: ∃WB,WB= (w.alloc (.cells #[.slice a Kj.length cap] 37)).alloc (.cells #[.slice ra rn rc,.slice d sl.length dc] 41):= ⟨_,rfl⟩
 have kB:K_ w WB:=by rw [hWB];exact ((K_.refl _).alloc _).alloc _
 have hBs:WB.heap.size=w.heap.size+2:=by rw [hWB];simp
 have b0:WB.cell? ⟨w.heap.size,0,none⟩=some (.slice a Kj.length cap):=by rw [hWB,K_.cell (w:=w.alloc (.cells #[.slice a Kj.length cap] 37)) ((K_.refl _).alloc _) (by simp)];exact Xz w _ _ 0 _ rfl
 have s0:WB.cell? ⟨w.heap.size+1,0,none⟩=some (.slice ra rn rc):=by have:=Xz (w.alloc (.cells #[.slice a Kj.length cap] 37)) #[.slice ra rn rc,.slice d sl.length dc] 41 0 _ rfl;rw [World.size_alloc] at this;rw [hWB];exact this
 have s1:WB.cell? ⟨w.heap.size+1,1,none⟩=some (.slice d sl.length dc):=by have:=Xz (w.alloc (.cells #[.slice a Kj.length cap] 37)) #[.slice ra rn rc,.slice d sl.length dc] 41 1 _ rfl;rw [World.size_alloc] at this;rw [hWB];exact this
 have z0:w.heap.size < WB.heap.size:=by omega
 have z1:w.heap.size+1 < WB.heap.size:=by omega
 have HC:Hid (∀w',K_ WB w'->w'.cell? ⟨w.heap.size,0,none⟩=some (.slice a Kj.length cap)∧w'.cell? ⟨w.heap.size+1,0,none⟩=some (.slice ra rn rc)∧w'.cell? ⟨w.heap.size+1,1,none⟩=some (.slice d sl.length dc)∧w.heap.size < w'.heap.size∧w.heap.size+1 < w'.heap.size):=fun w' K=> ⟨(K.cell z0).trans b0,(K.cell z1).trans s0,(K.cell z1).trans s1,Nat.lt_of_lt_of_le z0 K.size,Nat.lt_of_lt_of_le z1 K.size⟩
 have kE:K_ WB (WB.alloc (.cells #[] 9)):= (K_.refl _).alloc _
 have HOE:Hid (∀u,K_ (WB.alloc (.cells #[] 9)) u->u.ownsRow w.heap.size 9 1 (.slice (some ⟨WB.heap.size,0,none⟩) 0 0) 0 (([]:List ByteArray).map Value.string)):=fun u k=> ownsRow_kept' (owns_low (World.ownsRow_made WB #[] 0 (Nat.le_refl _) (Nat.zero_le _) rfl) kB.size) k
 have HKB:=Kz kB
 have HGd:=Kz hg
 clear kB hBs b0 s0 s1 hg
 go_enter Tryz.func89,Tryz.ntmps89
 go_upto_region 1 with fail
 rw [<-hWB]
 clear hWB
 go_upto_region 2 with fail
 obtain ⟨WE,hWE⟩: ∃WE,WE=WB.alloc (.cells #[] 9):= ⟨_,rfl⟩
 rw [<-hWE] at kE HOE⊢
 clear hWE
 obtain ⟨b0,s0,s1,y0,y1⟩:=HC.out _ kE
 go_wp2_with fail
 refine (l4At_place WE ra rn rc d dc sl name hsl (hS.kept (HKB.out.trans kE))).mono ?_
 rintro e w1 ⟨⟨p,rfl,hp⟩,k1⟩
 have K1:=kE.trans k1
 have HO1:=Kz (HOE.out _ k1)
 clear b0 s0 s1 y0 y1 k1 kE HOE
 obtain ⟨b0,s0,s1,y0,y1⟩:=HC.out _ K1
 rcases hp with ⟨k,hk,rfl,henv,hkn⟩ | ⟨rfl,henv⟩
 rotate_left
 ·have HEn:=Kz henv
  clear henv
  go_wp2_with fail
  go_ret
  exact ⟨⟨WB.heap.size,0,0,[],rfl,Nat.le_refl _,(fun i hi=> by cases hi),(WaitL.nil fun s h=> by obtain ⟨r,_,hr,_⟩:=h;rw [HEn.out] at hr;cases hr),HO1.out⟩,HKB.out.trans K1⟩
 obtain ⟨r,hr⟩: ∃r,r=sl.getD k Qz.zero:= ⟨_,rfl⟩
 rw [<-hr] at henv hkn
 obtain ⟨rb,ro,xa,xc,e1,hrb,hrc,_,_⟩:= (hS.kept (HKB.out.trans K1)) k hk
 rw [<-hr] at hrc
 subst e1
 have t1:=hrc 1 _ rfl
 have t4:=hrc 4 _ rfl
 have t5:=hrc 5 _ rfl
 have hki: (k:Int) < (sl.length:Int):=by omega
 have HEn:=Kz henv
 clear henv hrc hr
 by_cases hov:r.over=true∨r.Zj=0
 ·have HOv:=Kz hov
  have HFin:Hid (WaitL (Q_ Kj) (Qj sl) name []):=WaitL.nil fun s h=> by
   obtain ⟨r',_,hr',h1,h2,_⟩:=h
   rw [HEn.out] at hr'
   cases hr'
   rcases HOv.out with h3 | h3
   ·rw [h1] at h3;cases h3
   ·exact h2 h3
  have hcs:r.over=true∨(r.over=false∧r.Zj=0):=by
   rcases hov with h | h
   ·exact .inl h
   ·cases h1:r.over
    ·exact .inr ⟨rfl,h⟩
    ·exact .inl rfl
  clear hov
  rcases hcs with h | ⟨h,h2⟩
  ·rw [h] at t1
   go_wp2_with fail
   go_ret
   exact ⟨⟨WB.heap.size,0,0,[],rfl,Nat.le_refl _,(fun i hi=> by cases hi),HFin.out,HO1.out⟩,HKB.out.trans K1⟩
  ·rw [h] at t1
   rw [h2] at t5
   go_wp2_with fail
   go_ret
   exact ⟨⟨WB.heap.size,0,0,[],rfl,Nat.le_refl _,(fun i hi=> by cases hi),HFin.out,HO1.out⟩,HKB.out.trans K1⟩
 have ho:r.over=false:=by
  cases h1:r.over
  ·rfl
  ·exact absurd (.inl h1) hov
 have hv:r.Zj≠0:=fun e=> hov (.inr e)
 have hvb: (r.Zj == 0)=false:=by simpa using hv
 obtain ⟨A,hA,ha0,ha1⟩:= (HGd.out.good r (env_mem HEn.out).1).act
 rw [hkn] at hA
 obtain ⟨j,hj,hjn,hjf,rfl⟩:=acts_first hA
 obtain ⟨y,hy⟩: ∃y,y=Kj.getD j Qq.zero:= ⟨_,rfl⟩
 rw [<-hy] at hA ha1
 dsimp only at ha1
 obtain ⟨nb,nq,cs,e2,hnb0,hcs,na,nc,rfl,hSt⟩:=hN j hj
 subst e2
 rw [<-hy] at hcs hSt
 obtain ⟨ix,hix⟩: ∃ix:Nat,r.at'= (ix:Int):= ⟨r.at'.toNat,by omega⟩
 have hixl:ix < y.steps.length:=by omega
 obtain ⟨tb,tq,cs2,e3,htb,hcs2,aa,ca,ac,cc,rfl,hAs,_,_⟩:=hSt ix hixl
 subst e3
 obtain ⟨s,hs⟩: ∃s,s=y.steps.getD ix Xj.zero:= ⟨_,rfl⟩
 rw [<-hs] at hcs2 hAs
 have n2:=hcs 2 _ rfl
 have m0:=hcs2 0 _ rfl
 rw [Nat.add_zero] at m0
 have HStep:Hid (stepOf ⟨y.cost,y.steps⟩ r.at'=s):=by show _=_;unfold stepOf;rw [hix,hs];rfl
 have hal:s.asks.length<=5:=by have h:= (asks_ok (hok _ _ hA).1 ha0 ha1).1;rw [HStep.out] at h;exact h
 have HKn:=Kz hjn
 have HKf:=Kz hjf
 have HAct:=Kz hA
 have HVis:=Kz hv
 have HOv:=Kz ho
 have hji: (j:Int) < (Kj.length:Int):=by omega
 have hii: (ix:Int) < (y.steps.length:Int):=by omega
 rw [hix] at t4
 rw [ho] at t1
 have KN:=HKB.out.trans K1
 have HS5:Hid (∀w',K_ w1 w'->w'.cell? ⟨w.heap.size,0,none⟩=some (.slice (some ⟨nb,nq,none⟩) Kj.length cap)∧w'.cell? ⟨w.heap.size+1,1,none⟩=some (.slice (some ⟨rb,ro,none⟩) sl.length dc)∧w'.cell? ⟨rb,ro+k * 7+4,none⟩=some (.int .i64 (ix:Int))∧w'.cell? ⟨nb,nq+j * 3+2,none⟩=some (.slice (some ⟨tb,tq,none⟩) y.steps.length nc)∧w'.cell? ⟨tb,tq+ix * 8,none⟩=some (.slice aa s.asks.length ca)):=fun w' K=> ⟨(HC.out w' (K1.trans K)).1,(HC.out w' (K1.trans K)).2.2.1,(K.cell hrb).trans t4,((KN.trans K).cell hnb0).trans n2,((KN.trans K).cell htb).trans m0⟩
 have HN1:=Kz (hN.kept KN)
 have HAs:=Kz hAs
 clear hov hA hy hcs hSt hcs2 hAs hs hix ha0 ha1 hv ho hjn hjf n2 m0 hkn
 go_upto_region 5 with fail
 clear t1 t4 t5 hvb b0 s0 s1 y0 y1
 refine Qx.rg 18 HS5.out fun wd KD Z_=> ?_
 refine Qx.tk 0 Z_ ?_
 refine Qx.tk 1 Z_ ?_
 refine Qx.tk 2 Z_ ?_
 refine Qx.tk 3 Z_ ?_
 refine Qx.tk 9 Z_ ?_
 refine Qx.tk 10 Z_ ?_
 refine Qx.tk 11 Z_ ?_
 refine Qx.tk 12 Z_ ?_
 refine Qx.tk 13 Z_ ?_
 refine Qx.tk 14 Z_ ?_
 refine Qx.nx 4 (fun K hK=> ?_)
 rw [if_pos (by rfl)]
 go_simp
 go_at_call 44
 refine (l2At_place wd (some ⟨nb,nq,none⟩) cap Kj name hwl (HN1.out.kept KD)).mono ?_
 rintro e w2 ⟨⟨q,rfl,hq⟩,k2⟩
 have K2:=KD.trans k2
 obtain rfl:q= (j:Int):=by
  rcases hq with ⟨k',_,e',_,h1,h2⟩ | ⟨_,h1⟩
  ·rw [e',first_unique HKn.out HKf.out h1 h2]
  ·rw [HAct.out] at h1;cases h1
 clear hq
 dsimp only
 refine hK.out _ _ (fun _=> HS5.out _ K2) ?_
 clear hK K
 try simp only [Act.put,upA,upB,upC]
 clear Z_
 have Z_:=HS5.out _ K2
 refine Qx.tk 5 Z_ ?_
 refine Qx.tk 6 Z_ ?_
 refine Qx.tk 7 Z_ ?_
 refine Qx.tk 8 Z_ ?_
 refine Qx.tk 15 Z_ ?_
 refine Qx.tk 16 Z_ ?_
 refine Qx.tk 17 Z_ ?_
 refine Qx.nx 18 (fun K hK=> ?_)
 go_simp
 refine hK.out _ _ (fun h=> absurd rfl h) ?_
 clear hK K
 try simp only [Act.put,upA,upB,upC]
 refine Qx.dn ?_
 clear Z_
 have K2':=K1.trans K2
 have HAs2:Hid (∀W,K_ w2 W->Strs W aa s.asks):=fun W K=> HAs.out.kept (KN.trans (K2.trans K))
 have HE2:Hid (Strs w2 (some ⟨WB.heap.size,0,none⟩) []):=fun i hi=> by cases hi
 go_wp2_with fail
 go_loopg [7,10] s.asks.length (fun gg x7 x10 wr=> ∃(i b o c:Nat) (ns:List ByteArray),x10= .int .i64 (i:Int)∧i+gg=s.asks.length∧x7= .slice (some ⟨b,o,none⟩) ns.length c∧ns.length<=c∧ns.length<=i∧Hid (AscB ns)∧Hid (∀z,z∈ns↔z∈s.asks.take i∧OpenN (Qj sl) z)∧Hid (Strs wr (some ⟨b,o,none⟩) ns)∧Hid (wr.ownsRow w.heap.size 9 1 (.slice (some ⟨b,o,none⟩) ns.length c) ns.length (ns.map Value.string))∧K_ w2 wr)
 case atStart=> exact ⟨0,WB.heap.size,0,0,[],rfl,by omega,rfl,Nat.le_refl _,Nat.le_refl _,Kz List.Pairwise.nil,Kz (fun z=> by simp),HE2,Kz (ownsRow_kept' HO1.out K2),K_.refl _⟩
 case round=>
  clear HE2 HS5
  obtain ⟨i,b,o,c,ns,rfl,hig,rfl,hnc,hni,HAsc,HMem,HNs,HOr,Kw⟩:=hrel
  have Kr:=K2'.trans Kw
  by_cases hlt:i < s.asks.length
  ·obtain ⟨ab,ao,rfl,hab,hac⟩:= (HAs2.out wr Kw) i hlt
   obtain ⟨x,hx⟩: ∃x,x=s.asks.getD i ByteArray.empty:= ⟨_,rfl⟩
   rw [<-hx] at hac
   have hxg:s.asks[i]=x:=by rw [hx];simp [List.getD,hlt]
   have HXg:=Kz hxg
   have hilt: (i:Int) < (s.asks.length:Int):=by omega
   have HS9:Hid (∀w',K_ wr w'->w'.cell? ⟨w.heap.size+1,0,none⟩=some (.slice ra rn rc)∧w'.cell? ⟨w.heap.size+1,1,none⟩=some (.slice (some ⟨rb,ro,none⟩) sl.length dc)∧w'.cell? ⟨ab,ao+i,none⟩=some (.string x)):=fun w' K=> ⟨(HC.out w' (Kr.trans K)).2.1,(HC.out w' (Kr.trans K)).2.2.1,(K.cell hab).trans hac⟩
   obtain ⟨_,c1,c2,y0,y1⟩:=HC.out wr Kr
   clear hx hxg
   go_upto_region 9 with fail
   clear c1 c2 hac
   refine Qx.rg 6 HS9.out fun wd KD Z_=> ?_
   refine Qx.tk 0 Z_ ?_
   refine Qx.tk 1 Z_ ?_
   refine Qx.tk 2 Z_ ?_
   refine Qx.tk 3 Z_ ?_
   refine Qx.tk 4 Z_ ?_
   refine Qx.nx 5 (fun K hK=> ?_)
   rw [if_pos (by rfl)]
   go_simp
   go_at_call 58
   refine (l4At_place wd ra rn rc (some ⟨rb,ro,none⟩) dc sl x hsl (hS.kept (HKB.out.trans (Kr.trans KD)))).mono ?_
   rintro e w3 ⟨⟨q,rfl,hq⟩,k3⟩
   have K3:=KD.trans k3
   refine hK.out _ _ (fun _=> HS9.out _ K3) ?_
   clear hK K Z_
   try simp only [Act.put,upA,upB,upC]
   refine Qx.nx 6 (fun K hK=> ?_)
   go_simp
   refine hK.out _ _ (fun h=> absurd rfl h) ?_
   clear hK K
   try simp only [Act.put,upA,upB,upC]
   refine Qx.dn ?_
   obtain ⟨c0,c1,c2,y0,y1⟩:=HC.out w3 (Kr.trans K3)
   have hac:= (HS9.out _ K3).2.2
   have hab3:ab < w3.heap.size:=Nat.lt_of_lt_of_le hab K3.size
   have HNs3:=Kz (HNs.out.kept K3)
   have HOr3:=Kz (ownsRow_kept' HOr.out K3)
   have HWz:Hid (w.heap.size<=w3.heap.size):= (HKB.out.trans (Kr.trans K3)).size
   have hopen: ∀z,z∈s.asks.take (i+1)↔z∈s.asks.take i∨z=x:=fun z=> by rw [List.take_succ_eq_append_getElem hlt,HXg.out];simp
   have HOpn:=Kz hopen
   clear hopen k3
   rcases hq with ⟨k',hk',rfl,henv',_⟩ | ⟨rfl,henv'⟩
   ·obtain ⟨r',hr'⟩: ∃r',r'=sl.getD k' Qz.zero:= ⟨_,rfl⟩
    rw [<-hr'] at henv'
    obtain ⟨rb',ro',xa',xc',e4,hrb',hrc',_,_⟩:= (hS.kept (HKB.out.trans (Kr.trans K3))) k' hk'
    cases e4
    rw [<-hr'] at hrc'
    have t1:=hrc' 1 _ rfl
    have hki': (k':Int) < (sl.length:Int):=by omega
    have hk0: ¬((k':Int) < 0):=by omega
    have HEn':=Kz henv'
    clear henv' hrc' hr'
    cases hov':r'.over
    ·rw [hov'] at t1
     have HOv':=Kz hov'
     clear hov'
     go_wp2_with fail
     refine (l6Put_own w3 b o c ns x (by omega) hnc HAsc.out HNs3.out).mono ?_
     rintro e w4 ⟨b4,o4,c4,r4,rfl,hc4,hp4,hs4,hy4,k4⟩
     have HO4:=Kz (hy4 _ HWz.out HOr3.out)
     obtain ⟨ha4,hm4⟩:=hp4.asc HAsc.out
     have hl4:r4.length<=ns.length+1:=by
      rcases hp4 with ⟨_,rfl⟩ | ⟨_,q,hq,rfl,_,_⟩
      ·omega
      ·simp;omega
     have HA4:=Kz ha4
     have HM4:=Kz hm4
     have HS4:=Kz hs4
     have K4:=Kw.trans (K3.trans k4)
     clear ha4 hm4 hs4 hp4 hy4
     go_wp2_with fail
     go_roundg (gk - 1)
     case measure=> omega
     case rel=> exact ⟨i+1,b4,o4,c4,r4,by go_num,by omega,rfl,hc4,by omega,HA4,Kz (fun z=> by
      rw [HM4.out,HMem.out,HOpn.out]
      constructor
      ·rintro (⟨h1,h2⟩ | rfl)
       ·exact ⟨.inl h1,h2⟩
       ·exact ⟨.inr rfl,_,HEn'.out,HOv'.out⟩
      ·rintro ⟨h1 | rfl,h2⟩
       ·exact .inl ⟨h1,h2⟩
       ·exact .inr rfl),HS4,HO4,K4⟩
    ·rw [hov'] at t1
     have HOv':=Kz hov'
     clear hov'
     go_wp2_with fail
     go_roundg (gk - 1)
     case measure=> omega
     case rel=> exact ⟨i+1,b,o,c,ns,by go_num,by omega,rfl,hnc,by omega,HAsc,Kz (fun z=> by
      rw [HMem.out,HOpn.out]
      constructor
      ·rintro ⟨h1,h2⟩
       exact ⟨.inl h1,h2⟩
      ·rintro ⟨h1 | rfl,h2⟩
       ·exact ⟨h1,h2⟩
       ·obtain ⟨q,h3,h4⟩:=h2
        rw [HEn'.out] at h3
        cases h3
        rw [HOv'.out] at h4
        cases h4),HNs3,HOr3,Kw.trans K3⟩
   ·have HEn':=Kz henv'
    clear henv'
    go_wp2_with fail
    go_roundg (gk - 1)
    case measure=> omega
    case rel=> exact ⟨i+1,b,o,c,ns,by go_num,by omega,rfl,hnc,by omega,HAsc,Kz (fun z=> by
     rw [HMem.out,HOpn.out]
     constructor
     ·rintro ⟨h1,h2⟩
      exact ⟨.inl h1,h2⟩
     ·rintro ⟨h1 | rfl,h2⟩
      ·exact ⟨h1,h2⟩
      ·obtain ⟨q,h3,h4⟩:=h2
       rw [HEn'.out] at h3
       cases h3),HNs3,HOr3,Kw.trans K3⟩
  ·have hie:s.asks.take i=s.asks:=List.take_of_length_le (by omega)
   have HIe:=Kz hie
   clear hie
   go_wp2_with fail
   go_ret
   refine ⟨⟨b,o,c,ns,rfl,hnc,HNs.out,⟨HAsc.out,fun z=> ?_⟩,HOr.out⟩,HKB.out.trans Kr⟩
   rw [HMem.out,HIe.out]
   constructor
   ·rintro ⟨h1,h2⟩
    exact ⟨r,_,HEn.out,HOv.out,HVis.out,HAct.out,by rw [HStep.out];exact h1,h2⟩
   ·rintro ⟨r',A',hr',_,_,hA',h1,h2⟩
    rw [HEn.out] at hr'
    cases hr'
    rw [HAct.out] at hA'
    cases hA'
    rw [HStep.out] at h1
    exact ⟨h1,h2⟩
theorem l6Waits_any (w:World) (a:Option Addr) (cap:Nat) (Kj:List Qq) (ra:Option Addr) (rn rc:Nat) (d:Option Addr) (dc:Nat) (sl:List Qz) (name:ByteArray) (hwl:Kj.length<=1048576) (hsl:sl.length<=1048576) (hok:ActsOk (Q_ Kj)) (hg:GoodL Kj sl) (hN:Nodes w a Kj) (hS:RunsX w d sl):
  Calls Tryz.prog 89 #[.agg #[.slice a Kj.length cap],.agg #[.slice ra rn rc,.slice d sl.length dc],.string name] w fun e w'=> WaitsSaid Kj sl name w' e∧K_ w w':=
 (l6Waits_own w a cap Kj ra rn rc d dc sl name hwl hsl hok hg hN hS).mono fun _e _w' ⟨⟨b,o,c,ns,h1,h2,h3,h4,_⟩,h5⟩=> ⟨⟨b,o,c,ns,h1,h2,h3,h4⟩,h5⟩
