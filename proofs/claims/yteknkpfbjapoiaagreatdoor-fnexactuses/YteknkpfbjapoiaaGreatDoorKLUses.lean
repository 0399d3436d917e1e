import Derived.Test.YteknkpfbjapoiaaGreatDoorKCLead
import Derived.Test.YteknkpfbjapoiaaGreatDoorKVUses
import Derived.Test.YteknkpfbjapoiaaGreatDoorKXUses
import Derived.Test.YteknkpfbjapoiaaGreatDoorKBSort
import Derived.Test.YteknkpfbjapoiaaGreatDoorKIter
import Derived.Sort.KeysCollected
import Derived.Test.YteknkpfbjapoiaaGreatDoorKCTold
import Derived.Test.YteknkpfbjapoiaaGreatDoorKBSeq
import Derived.Test.YteknkpfbjapoiaaGreatDoorKLReady
namespace Go.Proofs.YteknkpfbjapoiaaGreatDoor
open Go.RowKit Go.Sort
theorem keys_names {w:World} {mo N:Nat} {D:DataW Value} (h:w.ownsMap Tryz.prog 9 asIs mo N D) {ss:List (List UInt8)} (hp:ss.Perm (strKeys D)):
  ∃nm:List ByteArray,nm.length=ss.length∧nm.map Value.string= (ss.mergeSort fun x y=> decide (x≤y)).map encStr∧AscB nm∧∀s,s∈nm↔Maps.has D (keyLit s)=true:=by
 obtain ⟨es,hD,hpw,_⟩:=h.entries Tryz.keyed
 obtain ⟨es',hD',hko⟩:=h.keysOf
 obtain rfl:es=es':=by rw [hD] at hD';simpa using hD'
 subst hD
 have hk: ∀p∈es,∃x,p.1= .string x:=fun p hp=> by obtain ⟨v,hv⟩:=hko p hp;obtain ⟨x,_,hx,_⟩:=Maps.keyOf_str Tryz.underlying9 hv;exact ⟨x,hx⟩
 have hnd: (strKeys (.map es)).Nodup:=by
  refine List.pairwise_map.2 (hpw.imp_of_mem fun {p q} hp' hq' hne e=> hne ?_)
  obtain ⟨a,ha⟩:=hk p hp'
  obtain ⟨b,hb⟩:=hk q hq'
  rw [ha,hb] at e⊢
  exact congrArg _ e
 have hmem: ∀x,x∈strKeys (.map es)↔Maps.has (.map es) (.string x)=true:=fun x=> by
  rw [Maps.has_eq,List.any_eq_true]
  show x∈es.map (fun p=> strOf p.1)↔_
  rw [List.mem_map]
  constructor
  ·rintro ⟨p,hp',rfl⟩
   obtain ⟨a,ha⟩:=hk p hp'
   exact ⟨p,hp',by rw [ha];simp [Lit.sameKey,strOf]⟩
  ·rintro ⟨p,hp',hs⟩
   obtain ⟨a,ha⟩:=hk p hp'
   rw [ha] at hs
   exact ⟨p,hp',by rw [ha];simpa [Lit.sameKey,strOf] using hs⟩
 obtain ⟨l,hl⟩: ∃l:List ByteArray,l=ss.map fun x=> (⟨x.toArray⟩:ByteArray):= ⟨_,rfl⟩
 have hlm: (l.map fun s=> s.data.toList)=ss:=by
  rw [hl,List.map_map]
  have e: ((fun s:ByteArray=> s.data.toList) ∘ fun x:List UInt8=> (⟨x.toArray⟩:ByteArray))=id:=by funext x;simp
  rw [e,List.map_id]
 have hs:=sort_names l
 rw [hlm] at hs
 have hln:l.Nodup:=by
  have h1:ss.Nodup:=hp.nodup_iff.2 hnd
  rw [←hlm] at h1
  exact (List.pairwise_map.1 h1).imp fun {a b} hne e=> hne (by rw [e])
 obtain ⟨h1,h2⟩:=hs.asc hln
 refine ⟨_,by simp,by rw [List.map_map];rfl,h1,fun s=> ?_⟩
 rw [h2]
 show s∈l↔Maps.has (.map es) (.string s.data.toList)=true
 rw [←hmem,←hp.mem_iff,←hlm]
 constructor
 ·intro h3;exact List.mem_map_of_mem h3
 ·intro h3
  obtain ⟨s',h4,h5⟩:=List.mem_map.1 h3
  have:s'=s:=by
   have h6:s'.data=s.data:=by have:=congrArg List.toArray h5;simpa using this
   cases s';cases s;simp_all
  rw [←this];exact h4
structure ListsM (w:World) (mo:Nat) (kp:ByteArray→Prop) (ol:ByteArray→List ByteArray):Prop where
 map: ∃N D,N≤1000000∧w.ownsMap Tryz.prog 9 asIs mo N D∧(∀s:ByteArray,s.size≤maxLen→∃a c,D.atKey (keyLit s) (.held (.slice none 0 0))= .held (.slice a (ol s).length c)∧Strs w a (ol s))∧∀s:ByteArray,Maps.has D (keyLit s)=true↔kp s
 sub: ∀s,ol s≠[]→kp s
theorem ListsM.look {w w':World} {mo:Nat} {kp:ByteArray→Prop} {ol:ByteArray→List ByteArray} (h:ListsM w mo kp ol) (k:Kept w w') {s:ByteArray} (hs:s.size≤maxLen): ∃a c,(Instr.lookup 72 (.map (some mo)) (.string s) false).run Tryz.prog w'= .ok (.slice a (ol s).length c) w'∧Strs w' a (ol s):=by
 obtain ⟨N,D,_,hM,hf,_⟩:=h.map
 have hM':=map_but (S:=fun _=> False) hM (But.of_kept k) id
 obtain ⟨v,ps,hrun,hv⟩:=hM'.lookup Tryz.keyed Tryz.underlying72 (Tryz.zeroWS w') (zd:= .held (.slice none 0 0)) (zp:=[]) rfl (WideMaps.keyOf_string_mk Tryz.underlying9 hs)
 obtain ⟨a,c,h1,h2⟩:=hf s hs
 refine ⟨a,c, ?_,h2.kept k⟩
 unfold asIs at hv
 simp only [Option.some.injEq,Prod.mk.injEq] at hv
 have e2: (DataW.held v:DataW Value)= .held (.slice a (ol s).length c):=hv.1.trans h1
 cases e2
 exact hrun
def mulM (k:Nat):Nat:=k * 1000000
theorem mulM_succ (k:Nat):mulM (k+1)=mulM k+1000000:=by unfold mulM;omega
theorem mulM_le {k:Nat} (h:k≤60):mulM k≤60000000:=by unfold mulM;omega
def NeedsEnd (kp:ByteArray→Prop) (ol:ByteArray→List ByteArray) (w w':World) (e:Ending):Prop:=
 ∃(na:Option Addr) (nc:Nat) (nm:List ByteArray) (nb mb M:Nat) (need back:Nat→List Nat),e= .returned (.agg #[.slice na nm.length nc,.slice (some ⟨nb,0,none⟩) nm.length nm.length,.slice (some ⟨mb,0,none⟩) nm.length nm.length])∧AscB nm∧(∀s,s∈nm↔kp s)∧NeedV w' na nm nb mb need back∧NeedR (fun x y=> y∈ol x) nm M need back∧M≤60000000∧Kept w w'
structure ObM (u:World) (ob:Nat) (na:Option Addr) (nc n nb mb:Nat):Prop where
 c0:u.cell? ⟨ob,0,none⟩=some (.slice na n nc)
 c1:u.cell? ⟨ob,1,none⟩=some (.slice (some ⟨nb,0,none⟩) n n)
 c2:u.cell? ⟨ob,2,none⟩=some (.slice (some ⟨mb,0,none⟩) n n)
 ty:TypeAt u ob 81
theorem ObM.lt {u:World} {ob:Nat} {na:Option Addr} {nc n nb mb:Nat} (h:ObM u ob na nc n nb mb):ob < u.heap.size:=by
 obtain ⟨c,f,h1⟩:=h.ty
 exact heap_lt h1
theorem ObM.but {S:Nat→Prop} {u u':World} {ob:Nat} {na:Option Addr} {nc n nb mb:Nat} (h:ObM u ob na nc n nb mb) (k:But S u u') (hn: ¬S ob):ObM u' ob na nc n nb mb:=
 ⟨(k.cell h.lt hn).trans h.c0,(k.cell h.lt hn).trans h.c1,(k.cell h.lt hn).trans h.c2,by
  obtain ⟨c,f,h1⟩:=h.ty
  exact ⟨c,f,(k.block _ h.lt hn).trans h1⟩⟩
theorem ObM.kept {u u':World} {ob:Nat} {na:Option Addr} {nc n nb mb:Nat} (h:ObM u ob na nc n nb mb) (k:Kept u u'):ObM u' ob na nc n nb mb:=h.but (S:=fun _=> False) (But.of_kept k) id
def TabJ (w2:World) (na:Option Addr) (nc n:Nat) (a b:Act) (u:World):Prop:=
 ∃ob nb mb,b= { a with tmps:= ((((((((a.tmps.setIfInBounds 14 (.slice na n nc)).setIfInBounds 15 (.slice na n nc)).setIfInBounds 16 (.int .i64 (n:Int))).setIfInBounds 17 (.slice (some ⟨nb,0,none⟩) n n)).setIfInBounds 18 (.slice na n nc)).setIfInBounds 19 (.int .i64 (n:Int))).setIfInBounds 20 (.slice (some ⟨mb,0,none⟩) n n)).setIfInBounds 21 (.agg #[.slice na n nc,.slice (some ⟨nb,0,none⟩) n n,.slice (some ⟨mb,0,none⟩) n n])).setIfInBounds 4 (.pointer (some ⟨ob,0,none⟩))}∧
  ObM u ob na nc n nb mb∧u.rowIs nb 84 n (fun _=> .slice none 0 0)∧u.rowIs mb 84 n (fun _=> .slice none 0 0)∧nb≠mb∧w2.heap.size≤nb∧w2.heap.size≤mb∧Kept w2 u
theorem rowIs_of_made {u:World} {b n:Nat} {t:TypeId} {v:Value} (h:u.heap[b]? =some (.cells (madeCells #[v] n) t)):u.rowIs b t n (fun _=> v):=by
 obtain ⟨c,h1,h2⟩:=World.rowIs_made u v n t
 rw [heap_alloc_new] at h1
 cases h1
 exact ⟨_,h,h2⟩
theorem three_new (w2:World) (o1 o2 o3:Obj): ((((w2.alloc o1).alloc o2).alloc o3).drew).heap[w2.heap.size]? =some o1∧((((w2.alloc o1).alloc o2).alloc o3).drew).heap[w2.heap.size+1]? =some o2∧((((w2.alloc o1).alloc o2).alloc o3).drew).heap[w2.heap.size+1+1]? =some o3∧Kept w2 (((w2.alloc o1).alloc o2).alloc o3).drew:=by
 have h1:=heap_alloc_new w2 o1
 have h2:=heap_alloc_new (w2.alloc o1) o2
 have h3:=heap_alloc_new ((w2.alloc o1).alloc o2) o3
 rw [World.size_alloc] at h2
 rw [World.size_alloc,World.size_alloc] at h3
 have k3:Kept ((w2.alloc o1).alloc o2) (((w2.alloc o1).alloc o2).alloc o3).drew:= ((Kept.refl _).alloc _).drew
 have k2:Kept (w2.alloc o1) (((w2.alloc o1).alloc o2).alloc o3).drew:= (((Kept.refl _).alloc _).alloc _).drew
 exact ⟨(k2.block _ (heap_lt h1)).trans h1,(k3.block _ (heap_lt h2)).trans h2,h3,((((Kept.refl _).alloc _).alloc _).alloc _).drew⟩
theorem tab_facts {w2 u:World} {na:Option Addr} {nc n ob nb mb:Nat} (ho:u.heap[ob]? =some (.cells #[.slice na n nc,.slice (some ⟨nb,0,none⟩) n n,.slice (some ⟨mb,0,none⟩) n n] 81)) (h1:u.heap[nb]? =some (.cells (madeCells #[.slice none 0 0] n) 84)) (h2:u.heap[mb]? =some (.cells (madeCells #[.slice none 0 0] n) 84)) (hne:nb≠mb) (hz1:w2.heap.size≤nb) (hz2:w2.heap.size≤mb) (k:Kept w2 u):
  ObM u ob na nc n nb mb∧u.rowIs nb 84 n (fun _=> .slice none 0 0)∧u.rowIs mb 84 n (fun _=> .slice none 0 0)∧nb≠mb∧w2.heap.size≤nb∧w2.heap.size≤mb∧Kept w2 u:=
 ⟨⟨by simp [World.cell?,ho],by simp [World.cell?,ho],by simp [World.cell?,ho],⟨_,_,ho⟩⟩,rowIs_of_made h1,rowIs_of_made h2,hne,hz1,hz2,k⟩
theorem Tryz.sizeNeeds : (Tryz.prog.info? 81).map (·.size)=some 3:=by kernel_rfl
theorem Tryz.infoIntC : (Tryz.prog.info? 3).map (fun i=> (i.zero,i.size,i.bytes))=some (some (.int .i64 0),1,8):=by kernel_rfl
theorem Tryz.infoInts : (Tryz.prog.info? 84).map (fun i=> (i.zero,i.size,i.bytes))=some (some (.slice none 0 0),1,24):=by kernel_rfl
set_option maxRecDepth 100000 in
set_option maxHeartbeats 6400000 in
theorem needsOf_any (w:World) (mo:Nat) (kp:ByteArray→Prop) (ol:ByteArray→List ByteArray) (all:List ByteArray) (hall: ∀s,kp s→s∈all) (hal:all.length≤60) (hks: ∀s,kp s→s.size≤20) (hol: ∀s,(ol s).length≤1000000) (hL:ListsM w mo kp ol):
  Calls Tryz.prog 53 #[.map (some mo)] w fun e w'=> NeedsEnd kp ol w w' e:=by
 obtain ⟨N,D,hN,hM,hf,hhas⟩:=hL.map
 have hsz:=hM.size_le
 obtain ⟨W0,hW0⟩: ∃W0,W0=w.alloc (.cells #[.slice none 0 0,.slice none 0 0,.slice none 0 0] 81):= ⟨_,rfl⟩
 have k0:Kept w W0:=by rw [hW0];exact (Kept.refl _).alloc _
 have HR0:Hid (RowT W0 w.heap.size 81 3):=by rw [hW0];exact RowT.made w #[.slice none 0 0,.slice none 0 0,.slice none 0 0] 81
 have hM0:=map_but (S:=fun _=> False) hM (But.of_kept k0) id
 have HK1:=hide (callsIn_wide.1 (Tryz.maps_Keys_91 (some mo) W0))
 have HK2:=hide (callsIn_wide.1 (Tryz.slices_Sorted_keys_90_91 mo N D asIs W0 hM0 (by unfold maxLen;omega) (by omega)))
 have HM:=hide hM
 have HHas:=hide hhas
 have HL:=hide hL
 clear hM hM0 hf hhas hL hsz
 go_enter Tryz.func53,Tryz.ntmps53
 go_upto_region 1 with fail
 rw [←hW0]
 have hw0z:w.heap.size+1=W0.heap.size:=by rw [hW0];simp
 clear hW0
 go_wp2_with fail
 refine HK1.out.mono ?_
 rintro e w1 ⟨rfl,hw1⟩
 rw [hw1]
 clear hw1 w1
 go_wp2_with fail
 refine HK2.out.mono ?_
 rintro e w2 ⟨v,ss,rfl,hp,hrow,hnil,hb⟩
 obtain ⟨nm,hnl,hnv,hasc,hmem⟩:=keys_names HM.out hp
 rw [←hnv,←hnl] at hrow
 have k2:Kept W0 w2:=Kept.trans ((Kept.refl _).alloc _) hb
 obtain ⟨na,nc,e9,hns⟩:=owned_strs hrow
 subst e9
 have hn60:nm.length≤60:=by
  refine Nat.le_trans (List.Nodup.length_le_of_subset ?_ (fun x hx=> hall x ((HHas.out x).1 ((hmem x).1 hx)))) hal
  exact hasc.imp fun {a b} hab=> lessX_ne hab
 have HNs:=hide hns
 have HRow:=hide hrow
 have HK02:=hide k2
 have HAsc:=hide hasc
 have HMem:Hid (∀s,s∈nm↔kp s):=fun s=> (hmem s).trans (HHas.out s)
 have K2:=k0.trans k2
 clear hp hrow hnil hb hnl hnv hmem hns hasc HK1 HK2 k2 k0 HHas HM
 obtain ⟨n,hn⟩: ∃n,n=nm.length:= ⟨_,rfl⟩
 rw [←hn] at hn60⊢
 have HNn:=hide hn
 clear hn
 have hmk:=run_make_row' (P:=Tryz.prog) 79 84 _ _ Tryz.underlying79 Tryz.infoInts rfl .i64 .i64 n (by omega) (by omega)
 go_upto_region 2 with fail
 refine region_part (TabJ w2 na nc n) ?_ ?_
 ·go_region
  ·refine ⟨rfl,w2.heap.size+1+1,w2.heap.size,w2.heap.size+1, ?_,tab_facts (three_new w2 _ _ _).2.2.1 (three_new w2 _ _ _).1 (three_new w2 _ _ _).2.1 (by omega) (by omega) (by omega) (three_new w2 _ _ _).2.2.2⟩
   simp only [List.setIfInBounds_toArray,List.set_cons_zero,List.set_cons_succ]
  ·refine ⟨rfl,w2.heap.size+1,w2.heap.size,w2.heap.size+1+1, ?_,tab_facts (three_new w2 _ _ _).2.1 (three_new w2 _ _ _).1 (three_new w2 _ _ _).2.2.1 (by omega) (by omega) (by omega) (three_new w2 _ _ _).2.2.2⟩
   simp only [List.setIfInBounds_toArray,List.set_cons_zero,List.set_cons_succ]
  ·refine ⟨rfl,w2.heap.size+1+1,w2.heap.size+1,w2.heap.size, ?_,tab_facts (three_new w2 _ _ _).2.2.1 (three_new w2 _ _ _).2.1 (three_new w2 _ _ _).1 (by omega) (by omega) (by omega) (three_new w2 _ _ _).2.2.2⟩
   simp only [List.setIfInBounds_toArray,List.set_cons_zero,List.set_cons_succ]
  ·refine ⟨rfl,w2.heap.size+1,w2.heap.size+1+1,w2.heap.size, ?_,tab_facts (three_new w2 _ _ _).2.1 (three_new w2 _ _ _).2.2.1 (three_new w2 _ _ _).1 (by omega) (by omega) (by omega) (three_new w2 _ _ _).2.2.2⟩
   simp only [List.setIfInBounds_toArray,List.set_cons_zero,List.set_cons_succ]
  ·refine ⟨rfl,w2.heap.size,w2.heap.size+1,w2.heap.size+1+1, ?_,tab_facts (three_new w2 _ _ _).1 (three_new w2 _ _ _).2.1 (three_new w2 _ _ _).2.2.1 (by omega) (by omega) (by omega) (three_new w2 _ _ _).2.2.2⟩
   simp only [List.setIfInBounds_toArray,List.set_cons_zero,List.set_cons_succ]
  ·refine ⟨rfl,w2.heap.size,w2.heap.size+1+1,w2.heap.size+1, ?_,tab_facts (three_new w2 _ _ _).1 (three_new w2 _ _ _).2.2.1 (three_new w2 _ _ _).2.1 (by omega) (by omega) (by omega) (three_new w2 _ _ _).2.2.2⟩
   simp only [List.setIfInBounds_toArray,List.set_cons_zero,List.set_cons_succ]
 rintro b u ⟨ob,nb,mb,rfl,hOb,hr1,hr2,hne,hz1,hz2,k3⟩
 clear hmk
 simp only [List.setIfInBounds_toArray,List.set_cons_zero,List.set_cons_succ]
 have K3:=K2.trans k3
 have hu2:w2.heap.size≤u.heap.size:=k3.size
 have HNs3:=hide (HNs.out.kept k3)
 have HT3:Hid (TabM u u.heap.size n (fun c=> if c=true then nb else mb) (fun _ _=> .slice none 0 0) (fun _ _=> [])):=by
  refine ⟨fun c=> ?_,by simpa using hne,fun c p=> World.ownsRow_nil _ _ _ _,fun c p c' p' _ x h=> (by cases h)⟩
  cases c
  ·exact hr2
  ·exact hr1
 have HO3:=hide hOb
 have hnbu:=rowIs_lt hr1
 have hmbu:=rowIs_lt hr2
 have HP3:Hid (NeedP (fun x y=> y∈ol x) nm 0 [] 0 0 (fun _=> []) (fun _=> [])):=NeedP.start _ _ _
 have k3':=k3
 clear hr1 hr2 hOb k3
 go_wp2_with fail
 go_loopw [24] (fun x wr=> ∃(k M:Nat) (g:Bool→Nat→Value) (L:Bool→Nat→List Nat),k≤n∧x= .int .i64 (k:Int)∧M≤mulM k∧Hid (TabM wr u.heap.size n (fun c=> if c=true then nb else mb) g L)∧Hid (NeedP (fun x y=> y∈ol x) nm k [] 0 M (L true) (L false))∧Hid (ObM wr ob na nc n nb mb)∧Kept w2 wr∧u.heap.size≤wr.heap.size) (fun x _=> n - (intOf x).toNat)
 case atStart=> exact ⟨0,0,_,_,Nat.zero_le _,rfl,Nat.zero_le _,HT3,HP3,HO3,k3',Nat.le_refl _⟩
 case round=>
  clear HT3 HP3 HO3 k3'
  obtain ⟨k,M,g,L,hk,rfl,hMk,HT,HP,HO,Kr,hur⟩:=hrel
  by_cases hkl:k < n
  rotate_left
  ·obtain rfl:=HNn.out
   have hke:k=nm.length:=by omega
   subst hke
   obtain ⟨o0,o1,o2,oty⟩:=HO.out
   have hR0:=HR0.out.kept (HK02.out.trans Kr)
   obtain ⟨⟨_,x0⟩,g0⟩:=hR0.row.at (i:=0) (by omega)
   obtain ⟨⟨_,x1⟩,g1⟩:=hR0.row.at (i:=1) (by omega)
   obtain ⟨⟨_,x2⟩,g2⟩:=hR0.row.at (i:=2) (by omega)
   have HRR:=hide hR0
   clear hR0 oty
   go_wp2_with fail
   have hR:=World.rangeAt_setCells_same wr w.heap.size 0 [.slice na nm.length nc,.slice (some ⟨nb,0,none⟩) nm.length nm.length,.slice (some ⟨mb,0,none⟩) nm.length nm.length] (HRR.out.row.there (o:=0) (m:=3) (Nat.le_refl _))
   have kf:But (fun b=> b=w.heap.size) wr (wr.setCells w.heap.size 0 [.slice na nm.length nc,.slice (some ⟨nb,0,none⟩) nm.length nm.length,.slice (some ⟨mb,0,none⟩) nm.length nm.length]):=But.set (S:=fun b=> b=w.heap.size) (But.set (S:=fun b=> b=w.heap.size) (But.set (S:=fun b=> b=w.heap.size) (But.of_kept (Kept.refl wr)) (p:= ⟨w.heap.size,0,none⟩) rfl _) (p:= ⟨w.heap.size,1,none⟩) rfl _) (p:= ⟨w.heap.size,2,none⟩) rfl _
   have hzw:=HK02.out.size
   refine bodyPost_ret_cell [.slice na nm.length nc,.slice (some ⟨nb,0,none⟩) nm.length nm.length,.slice (some ⟨mb,0,none⟩) nm.length nm.length] _ Tryz.results53 rfl hR Tryz.underlying81 rfl Tryz.sizeNeeds rfl ⟨na,nc,nm,nb,mb,M,L true,L false,rfl,HAsc.out,HMem.out, ?_,HP.out.whole,Nat.le_trans hMk (mulM_le hn60),kf.kept (K2.trans Kr) (fun b e=> by rw [e];exact Nat.le_refl _)⟩
   have hstr:=kf.owns (ownsRow_kept' HRow.out Kr) (fun b e e2=> by have:= (HRow.out.lt b e).1;rw [World.size_alloc] at this;omega)
   obtain ⟨a9,c9,e9,hst9⟩:=owned_strs hstr
   simp only [Value.slice.injEq,true_and] at e9
   rw [←e9.1] at hst9
   exact TabM.read (HT.out.but kf (fun c e=> by cases c <;> simp at e <;> omega) (fun c p b e e2=> by have:= ((HT.out.own c p).lt b e).1;omega)) hst9
  have hkn:k < nm.length:=by have:=HNn.out;omega
  obtain ⟨rb,ro,e1,hrb,hrc⟩:= (HNs.out.kept Kr) k hkn
  subst e1
  obtain ⟨s,hs⟩: ∃s,s=nm.getD k ByteArray.empty:= ⟨_,rfl⟩
  rw [←hs] at hrc
  have hsk:nm[k]=s:=by rw [hs];simp [List.getD,hkn]
  have hkp:kp s:= (HMem.out s).1 (by rw [←hsk];exact List.getElem_mem hkn)
  have hss:s.size≤maxLen:=by have:=hks s hkp;unfold maxLen;omega
  obtain ⟨la,lc,hlook,hlst⟩:=HL.out.look (K2.trans Kr) hss
  have HSk:=hide hsk
  have hols:=hol s
  obtain ⟨Q,hQ⟩: ∃Q,Q=ol s:= ⟨_,rfl⟩
  rw [←hQ] at hlook hlst hols
  have HQ:=hide hQ
  have HLst:=hide hlst
  have hki: (k:Int) < (n:Int):=by omega
  clear hs hsk hkp hss hQ hlst
  go_wp2_with fail
  refine (values_any wr la Q.length lc).mono ?_
  rintro e w3 ⟨rfl,hw3⟩
  have k3:Kept wr w3:=by rw [hw3];exact (Kept.refl _).alloc _
  have hc3:w3.cell? ⟨wr.heap.size,0,none⟩=some (.slice la Q.length lc):=by rw [hw3];exact range_new wr #[.slice la Q.length lc] 25 0 _ rfl
  have hz3:wr.heap.size < w3.heap.size:=by rw [hw3];simp
  clear hw3 hlook hrc
  go_wp2_with fail
  refine (sorted_any w3 wr.heap.size la lc Q (by omega) hz3 hc3 (HLst.out.kept k3)).mono ?_
  rintro e w4 ⟨v4,ns,rfl,how,hsrt,k4⟩
  obtain ⟨va4,vc4,rfl⟩:=own_slice how
  have hnsl:ns.length≤1000000:=by rw [hsrt.1.length_eq];exact hols
  have HSrt:=hide hsrt
  have HOw:=hide how
  have HT4:=hide (HT.out.kept (k3.trans k4))
  have HO4:=hide (HO.out.kept (k3.trans k4))
  have HP4:=hide (HP.out.enter ns)
  have K4:=Kr.trans (k3.trans k4)
  have hu4:u.heap.size≤w4.heap.size:=Nat.le_trans hur (k3.trans k4).size
  have hw3z:w2.heap.size≤w3.heap.size:= (Kr.trans k3).size
  clear how hsrt hc3 hz3 HT HO HP k3 k4 Kr hur HLst hols hrb
  go_wp2_with fail
  go_loopw [35] (fun x wr=> ∃(j M:Nat) (g:Bool→Nat→Value) (L:Bool→Nat→List Nat),j≤ns.length∧x= .int .i64 (j:Int)∧M≤mulM k+j∧Hid (TabM wr u.heap.size n (fun c=> if c=true then nb else mb) g L)∧Hid (NeedP (fun x y=> y∈ol x) nm k ns j M (L true) (L false))∧Hid (ObM wr ob (some ⟨rb,ro,none⟩) nc n nb mb)∧Hid (wr.ownsRow w3.heap.size 9 1 (.slice va4 ns.length vc4) ns.length (ns.map Value.string))∧Kept w2 wr∧u.heap.size≤wr.heap.size) (fun x _=> ns.length - (intOf x).toNat)
  case atStart=> exact ⟨0,M,g,L,Nat.zero_le _,rfl,by omega,HT4,HP4,HO4,HOw,K4,hu4⟩
  case round=>
   clear HT4 HP4 HO4 HOw K4 hu4 hMk
   obtain ⟨j,M,g,L,hj,rfl,hMj,HT,HP,HO,HOw,Kr,hur⟩:=hrel
   by_cases hjl:j < ns.length
   rotate_left
   ·have hje:ns.length≤j:=by omega
    have HP5:Hid (NeedP (fun x y=> y∈ol x) nm (k+1) [] 0 M (L true) (L false)):=HP.out.leave hkn hje (fun y=> by rw [HSrt.out.1.mem_iff,HQ.out,HSk.out])
    go_wp2_with fail
    go_roundw
    case rel=> exact ⟨k+1,M,g,L,by omega,by go_num,by rw [mulM_succ];omega,HT,HP5,HO,Kr,hur⟩
    case measure=> simp [intOf];omega
   obtain ⟨a9,c9,e9,hst9⟩:=owned_strs HOw.out
   simp only [Value.slice.injEq,true_and] at e9
   rw [←e9.1] at hst9
   obtain ⟨qb,qo,e1,hqb,hqc⟩:=hst9 j hjl
   subst e1
   obtain ⟨s',hs'⟩: ∃s',s'=ns.getD j ByteArray.empty:= ⟨_,rfl⟩
   rw [←hs'] at hqc
   have hsj:ns[j]=s':=by rw [hs'];simp [List.getD,hjl]
   have HSj:=hide hsj
   have HBs:Hid (Calls Tryz.prog 93 #[.slice (some ⟨rb,ro,none⟩) n nc,.string s'] wr fun e w'=> FoundS nm s' e∧w'=wr):=by
    show Calls _ _ _ _ _
    rw [HNn.out]
    exact bsearch_any wr _ nc nm s' (by have:=HNn.out;omega) HAsc.out (HNs.out.kept Kr)
   have hji: (j:Int) < (ns.length:Int):=by omega
   clear e9 hst9 hs' hsj
   go_wp2_with fail
   refine HBs.out.mono ?_
   rintro e w5 ⟨⟨q,bq,rfl,hyes,hno⟩,hw5⟩
   rw [hw5]
   clear hw5 w5
   cases bq
   ·have HNo:=hide (hno rfl)
    clear hyes hno hqc
    have HP5:Hid (NeedP (fun x y=> y∈ol x) nm k ns (j+1) M (L true) (L false)):=HP.out.skip hjl (by rw [HSj.out];exact HNo.out)
    go_wp2_with fail
    go_roundw
    case rel=> exact ⟨j+1,M,g,L,by omega,by go_num,by omega,HT,HP5,HO,HOw,Kr,hur⟩
    case measure=> simp [intOf];omega
   obtain ⟨hqn,hqe⟩:=hyes rfl
   have hq2:q < n:=by have:=HNn.out;omega
   have HQe:Hid (nm[q]=s'):=by show nm[q]=s';rw [←hqe];simp [List.getD,hqn]
   have HNx:Hid (NeedP (fun x y=> y∈ol x) nm k ns (j+1) (M+1) (fun p=> if p=k then L true k++ [q] else L true p) (fun p=> if p=q then L false q++ [k] else L false p)):=HP.out.put ⟨HAsc.out,fun x y hxy=> (HMem.out x).2 (HL.out.sub x (fun e=> by rw [e] at hxy;cases hxy))⟩ hjl HSrt.out.2 hqn (by rw [HQe.out,HSj.out]) hkn (fun y hy=> by rw [HSrt.out.1.mem_iff,HQ.out] at hy;rw [HSk.out];exact hy)
   have hmM:=mulM_le (show k≤60 by omega)
   have hlt1:= (HP.out.len k).1
   have hlt2:= (HP.out.len q).2
   obtain ⟨ic,hc0,hc1,hc2,hc3⟩:=info_parts Tryz.infoIntC
   clear hyes hno hqe hqc
   obtain ⟨vaA,vcA,hgA⟩:=own_slice (HT.out.own true k)
   have HgA:=hide hgA
   have rA:wr.cell? ⟨nb,k,none⟩=some (.slice vaA (L true k).length vcA):=by have h:= (HT.out.row true).cell hkl;rw [hgA] at h;exact h
   have HSOA:Hid (∀w',Kept wr w'→w'.cell? ⟨ob,1,none⟩=some (.slice (some ⟨nb,0,none⟩) n n)∧w'.cell? ⟨nb,k,none⟩=some (.slice vaA (L true k).length vcA)):=fun w' K=> ⟨(K.cell HO.out.lt).trans HO.out.c1,(K.cell (rowIs_lt (HT.out.row true))).trans rA⟩
   clear hgA rA
   go_upto_region 11 with fail
   refine UpTo.region (by kernel_rfl) (fun w'=> w'.cell? ⟨ob,1,none⟩=some (.slice (some ⟨nb,0,none⟩) n n)∧w'.cell? ⟨nb,k,none⟩=some (.slice vaA (L true k).length vcA)) 12 (HSOA.out _ ((Kept.refl wr).drew)) (fun hHeld=> ?_)
   have KD:Kept wr wr.drew:= (Kept.refl wr).drew
   generalize hwd:wr.drew=wd at hHeld KD⊢
   clear hwd
   refine UpTo.tk 0 [1,11,12] hHeld ?_
   try simp only [Act.put,upA,upB,upC]
   refine UpTo.tk 1 [11,12] hHeld ?_
   try simp only [Act.put,upA,upB,upC]
   refine UpTo.tk 2 [11,12] hHeld ?_
   try simp only [Act.put,upA,upB,upC]
   refine UpTo.tk 3 [4,6,7,10,11,12] hHeld ?_
   try simp only [Act.put,upA,upB,upC]
   refine UpTo.tk 4 [6,7,10,11,12] hHeld ?_
   try simp only [Act.put,upA,upB,upC]
   refine UpTo.tk 5 [6,7,10,11,12] hHeld ?_
   try simp only [Act.put,upA,upB,upC]
   refine UpTo.tk 6 [7,10,11,12] hHeld ?_
   try simp only [Act.put,upA,upB,upC]
   refine UpTo.tk 7 [10,11,12] hHeld ?_
   try simp only [Act.put,upA,upB,upC]
   refine UpTo.tk 8 [9,10,11,12] hHeld ?_
   try simp only [Act.put,upA,upB,upC]
   refine UpTo.nx 9 (fun K hK=> ?_)
   go_simp
   have K5:Kept wd (wd.alloc (.cells #[.int .i64 (q:Int)] 3)):= (Kept.refl _).alloc _
   have hc5: (wd.alloc (.cells #[.int .i64 (q:Int)] 3)).cell? ⟨wd.heap.size,0,none⟩=some (.int .i64 (q:Int)):=range_new wd #[.int .i64 (q:Int)] 3 0 _ rfl
   have K5b:=KD.trans K5
   refine hK.out _ _ (fun _=> HSOA.out _ K5b) ?_
   clear hK K hHeld
   have HT6:=hide (HT.out.kept K5b)
   have HO6:=hide (HO.out.kept K5b)
   obtain ⟨eb,heb⟩: ∃eb,eb=wd.heap.size:= ⟨_,rfl⟩
   rw [←heb] at hc5⊢
   generalize hwe:wd.alloc (.cells #[.int .i64 (q:Int)] 3)=w6 at hc5 K5b HT6 HO6⊢
   clear hwe K5 heb KD
   have hrow6:=HT6.out.own true k
   rw [HgA.out] at hrow6
   have HR6:=hide hrow6
   have hz6:u.heap.size≤w6.heap.size:=Nat.le_trans (hur) K5b.size
   clear hrow6
   try simp only [Act.put,upA,upB,upC]
   refine UpTo.nx 10 (fun K hK=> ?_)
   refine step_append_lies _ rfl (.tmp 53) (.tmp 55) 84 rfl u.heap.size 3 ic _ 1 8 Tryz.underlying84 hc0 hc1 hc2 hc3 rfl (by decide) (.slice vaA (L true k).length vcA) (L true k).length ((L true k).map natV) rfl HR6.out ⟨eb,0,none⟩ 1 1 [.int .i64 (q:Int)] rfl rfl (fun j u hu=> ?_) (fun u hu=> ?_) (by decide) (by unfold maxLen;omega) (by omega) hz6 w6.heap.size rfl ?_
   ·match j,hu with
    | 0,hu=> simp at hu;subst hu;rw [Addr.add_mid];exact hc5
    | j+1,hu=> simp at hu
   ·simp at hu;subst hu;rfl
   intro gb gc w7 ho7 hg7 hv7 hgz7
   rw [←HgA.out] at hg7 hv7
   obtain ⟨hT8,hB8⟩:=HT6.out.put true k (x:=q) ho7 hg7 (fun y e=> by simp only [Value.ownBlock,Option.some.injEq] at e;subst e;rcases hv7 with h | h;exact .inl h;exact .inr (Nat.le_of_eq h.symm))
   have k67:But (fun b=> (g true k).ownBlock=some b) w6 w7:=But.of_grown hg7 (fun b e=> e)
   have hT7:w7.rowIs nb 84 n (g true):=rowIs_block (HT6.out.row true) (k67.block _ (rowIs_lt (HT6.out.row true)) (fun e=> type_ne (rowIs_type (HT6.out.row true)) (owns_type (HT6.out.own true k) e) (by decide) rfl))
   have f7:=hT7.frozen k
   have c7:=hT7.cell hkl
   have ho7b:w7.cell? ⟨ob,1,none⟩=some (.slice (some ⟨nb,0,none⟩) n n):= (k67.cell HO6.out.lt (fun e=> type_ne HO6.out.ty (owns_type (HT6.out.own true k) e) (by decide) rfl)).trans HO6.out.c1
   have HS7:Hid (w7.cell? ⟨ob,1,none⟩=some (.slice (some ⟨nb,0,none⟩) n n)∧w7.cell? ⟨nb,k,none⟩=some (.slice vaA (L true k).length vcA)):= ⟨ho7b,by rw [c7,HgA.out]⟩
   have HT8A:=hide hT8
   have HB8A:=hide hB8
   refine hK.out _ _ (fun _=> HS7.out) ?_
   clear hK K hT8 hB8 ho7 hg7 hv7 k67 hT7 ho7b hgz7 hc5
   have hHeld:=HS7.out
   try simp only [Act.put,upA,upB,upC]
   refine UpTo.tk 11 [12] hHeld ?_
   try simp only [Act.put,upA,upB,upC]
   refine UpTo.nx 12 (fun K hK=> ?_)
   go_simp
   refine hK.out _ _ (fun h=> absurd rfl h) ?_
   clear hK K hHeld
   try simp only [Act.put,upA,upB,upC]
   refine UpTo.done (by kernel_rfl) ?_
   have K56A:=hide (But.of_kept (S:=fun y=> (g true k).ownBlock=some y∨y= (if true=true then nb else mb)) K5b)
   have HBBA:=hide (K56A.out.trans HB8A.out)
   have HO8A:=hide (HO6.out.but HB8A.out (fun e=> by
    rcases e with e | e
    ·exact type_ne HO6.out.ty (owns_type (HT6.out.own true k) e) (by decide) rfl
    ·exact type_ne HO6.out.ty (rowIs_type (HT6.out.row true)) (by decide) e))
   generalize hw8:w7.setCell ⟨(if true=true then nb else mb),k,none⟩ (.slice (some ⟨gb,0,none⟩) ((L true k).length+1) gc)=w8A at HT8A HB8A HO8A HBBA
   have hw8b:w7.setCell ⟨nb,k,none⟩ (.slice (some ⟨gb,0,none⟩) ((L true k).length+1) gc)=w8A:=hw8
   rw [hw8b]
   clear hw8 hw8b c7 f7 HS7 HR6 hz6 HgA HSOA K56A HB8A HT6 HO6 K5b
   have hex: ∃(g2:Bool→Nat→Value) (L2:Bool→Nat→List Nat),Hid (TabM w8A u.heap.size n (fun c=> if c=true then nb else mb) g2 L2)∧Hid (L2=fun c p=> if c=true∧p=k then L true k++ [q] else L c p):= ⟨_,_,HT8A,hide rfl⟩
   obtain ⟨g2,L2,HT2,HL2⟩:=hex
   have hlt3: (L2 false q).length≤M:=by rw [HL2.out];simpa using hlt2
   have HOwA:=hide (HBBA.out.owns HOw.out (fun b e e2=> by
    rcases e2 with e2 | e2
    ·exact type_ne (owns_type HOw.out e) (owns_type (HT.out.own true k) e2) (by decide) rfl
    ·exact type_ne (owns_type HOw.out e) (rowIs_type (HT.out.row true)) (by decide) e2))
   have KA:Kept w2 w8A:=HBBA.out.kept Kr (fun b e=> by
    rcases e with e | e
    ·exact Nat.le_trans hu2 ((HT.out.own true k).lt b e).1
    ·rw [e];exact hz1)
   have hurA:u.heap.size≤w8A.heap.size:=Nat.le_trans hur HBBA.out.size
   have Kr':=Kr
   clear HT8A HBBA HT HO HOw Kr hur Kr'
   obtain ⟨vaB,vcB,hgB⟩:=own_slice (HT2.out.own false q)
   have HgB:=hide hgB
   have rB:w8A.cell? ⟨mb,q,none⟩=some (.slice vaB (L2 false q).length vcB):=by have h:= (HT2.out.row false).cell hq2;rw [hgB] at h;exact h
   have HSOB:Hid (∀w',Kept w8A w'→w'.cell? ⟨ob,2,none⟩=some (.slice (some ⟨mb,0,none⟩) n n)∧w'.cell? ⟨mb,q,none⟩=some (.slice vaB (L2 false q).length vcB)):=fun w' K=> ⟨(K.cell HO8A.out.lt).trans HO8A.out.c2,(K.cell (rowIs_lt (HT2.out.row false))).trans rB⟩
   clear hgB rB
   go_upto_region 12 with fail
   refine UpTo.region (by kernel_rfl) (fun w'=> w'.cell? ⟨ob,2,none⟩=some (.slice (some ⟨mb,0,none⟩) n n)∧w'.cell? ⟨mb,q,none⟩=some (.slice vaB (L2 false q).length vcB)) 12 (HSOB.out _ ((Kept.refl w8A).drew)) (fun hHeld=> ?_)
   have KD:Kept w8A w8A.drew:= (Kept.refl w8A).drew
   generalize hwd:w8A.drew=wd at hHeld KD⊢
   clear hwd
   refine UpTo.tk 0 [1,11,12] hHeld ?_
   try simp only [Act.put,upA,upB,upC]
   refine UpTo.tk 1 [11,12] hHeld ?_
   try simp only [Act.put,upA,upB,upC]
   refine UpTo.tk 2 [11,12] hHeld ?_
   try simp only [Act.put,upA,upB,upC]
   refine UpTo.tk 3 [4,6,7,10,11,12] hHeld ?_
   try simp only [Act.put,upA,upB,upC]
   refine UpTo.tk 4 [6,7,10,11,12] hHeld ?_
   try simp only [Act.put,upA,upB,upC]
   refine UpTo.tk 5 [6,7,10,11,12] hHeld ?_
   try simp only [Act.put,upA,upB,upC]
   refine UpTo.tk 6 [7,10,11,12] hHeld ?_
   try simp only [Act.put,upA,upB,upC]
   refine UpTo.tk 7 [10,11,12] hHeld ?_
   try simp only [Act.put,upA,upB,upC]
   refine UpTo.tk 8 [9,10,11,12] hHeld ?_
   try simp only [Act.put,upA,upB,upC]
   refine UpTo.nx 9 (fun K hK=> ?_)
   go_simp
   have K5:Kept wd (wd.alloc (.cells #[.int .i64 (k:Int)] 3)):= (Kept.refl _).alloc _
   have hc5: (wd.alloc (.cells #[.int .i64 (k:Int)] 3)).cell? ⟨wd.heap.size,0,none⟩=some (.int .i64 (k:Int)):=range_new wd #[.int .i64 (k:Int)] 3 0 _ rfl
   have K5b:=KD.trans K5
   refine hK.out _ _ (fun _=> HSOB.out _ K5b) ?_
   clear hK K hHeld
   have HT6:=hide (HT2.out.kept K5b)
   have HO6:=hide (HO8A.out.kept K5b)
   obtain ⟨eb,heb⟩: ∃eb,eb=wd.heap.size:= ⟨_,rfl⟩
   rw [←heb] at hc5⊢
   generalize hwe:wd.alloc (.cells #[.int .i64 (k:Int)] 3)=w6 at hc5 K5b HT6 HO6⊢
   clear hwe K5 heb KD
   have hrow6:=HT6.out.own false q
   rw [HgB.out] at hrow6
   have HR6:=hide hrow6
   have hz6:u.heap.size≤w6.heap.size:=Nat.le_trans (hurA) K5b.size
   clear hrow6
   try simp only [Act.put,upA,upB,upC]
   refine UpTo.nx 10 (fun K hK=> ?_)
   refine step_append_lies _ rfl (.tmp 65) (.tmp 67) 84 rfl u.heap.size 3 ic _ 1 8 Tryz.underlying84 hc0 hc1 hc2 hc3 rfl (by decide) (.slice vaB (L2 false q).length vcB) (L2 false q).length ((L2 false q).map natV) rfl HR6.out ⟨eb,0,none⟩ 1 1 [.int .i64 (k:Int)] rfl rfl (fun j u hu=> ?_) (fun u hu=> ?_) (by decide) (by unfold maxLen;omega) (by omega) hz6 w6.heap.size rfl ?_
   ·match j,hu with
    | 0,hu=> simp at hu;subst hu;rw [Addr.add_mid];exact hc5
    | j+1,hu=> simp at hu
   ·simp at hu;subst hu;rfl
   intro gb gc w7 ho7 hg7 hv7 hgz7
   rw [←HgB.out] at hg7 hv7
   obtain ⟨hT8,hB8⟩:=HT6.out.put false q (x:=k) ho7 hg7 (fun y e=> by simp only [Value.ownBlock,Option.some.injEq] at e;subst e;rcases hv7 with h | h;exact .inl h;exact .inr (Nat.le_of_eq h.symm))
   have k67:But (fun b=> (g2 false q).ownBlock=some b) w6 w7:=But.of_grown hg7 (fun b e=> e)
   have hT7:w7.rowIs mb 84 n (g2 false):=rowIs_block (HT6.out.row false) (k67.block _ (rowIs_lt (HT6.out.row false)) (fun e=> type_ne (rowIs_type (HT6.out.row false)) (owns_type (HT6.out.own false q) e) (by decide) rfl))
   have f7:=hT7.frozen q
   have c7:=hT7.cell hq2
   have ho7b:w7.cell? ⟨ob,2,none⟩=some (.slice (some ⟨mb,0,none⟩) n n):= (k67.cell HO6.out.lt (fun e=> type_ne HO6.out.ty (owns_type (HT6.out.own false q) e) (by decide) rfl)).trans HO6.out.c2
   have HS7:Hid (w7.cell? ⟨ob,2,none⟩=some (.slice (some ⟨mb,0,none⟩) n n)∧w7.cell? ⟨mb,q,none⟩=some (.slice vaB (L2 false q).length vcB)):= ⟨ho7b,by rw [c7,HgB.out]⟩
   have HT8B:=hide hT8
   have HB8B:=hide hB8
   refine hK.out _ _ (fun _=> HS7.out) ?_
   clear hK K hT8 hB8 ho7 hg7 hv7 k67 hT7 ho7b hgz7 hc5
   have hHeld:=HS7.out
   try simp only [Act.put,upA,upB,upC]
   refine UpTo.tk 11 [12] hHeld ?_
   try simp only [Act.put,upA,upB,upC]
   refine UpTo.nx 12 (fun K hK=> ?_)
   go_simp
   refine hK.out _ _ (fun h=> absurd rfl h) ?_
   clear hK K hHeld
   try simp only [Act.put,upA,upB,upC]
   refine UpTo.done (by kernel_rfl) ?_
   have K56B:=hide (But.of_kept (S:=fun y=> (g2 false q).ownBlock=some y∨y= (if false=true then nb else mb)) K5b)
   have HBBB:=hide (K56B.out.trans HB8B.out)
   have HO8B:=hide (HO6.out.but HB8B.out (fun e=> by
    rcases e with e | e
    ·exact type_ne HO6.out.ty (owns_type (HT6.out.own false q) e) (by decide) rfl
    ·exact type_ne HO6.out.ty (rowIs_type (HT6.out.row false)) (by decide) e))
   generalize hw8:w7.setCell ⟨(if false=true then nb else mb),q,none⟩ (.slice (some ⟨gb,0,none⟩) ((L2 false q).length+1) gc)=w8B at HT8B HB8B HO8B HBBB
   have hw8b:w7.setCell ⟨mb,q,none⟩ (.slice (some ⟨gb,0,none⟩) ((L2 false q).length+1) gc)=w8B:=hw8
   rw [hw8b]
   clear hw8 hw8b c7 f7 HS7 HR6 hz6 HgB HSOB K56B HB8B HT6 HO6 K5b
   have HOwB:=hide (HBBB.out.owns HOwA.out (fun b e e2=> by
    rcases e2 with e2 | e2
    ·exact type_ne (owns_type HOwA.out e) (owns_type (HT2.out.own false q) e2) (by decide) rfl
    ·exact type_ne (owns_type HOwA.out e) (rowIs_type (HT2.out.row false)) (by decide) e2))
   have KB:Kept w2 w8B:=HBBB.out.kept KA (fun b e=> by
    rcases e with e | e
    ·exact Nat.le_trans hu2 ((HT2.out.own false q).lt b e).1
    ·rw [e];exact hz2)
   have hurB:u.heap.size≤w8B.heap.size:=Nat.le_trans hurA HBBB.out.size
   have hex: ∃(g3:Bool→Nat→Value) (L3:Bool→Nat→List Nat),Hid (TabM w8B u.heap.size n (fun c=> if c=true then nb else mb) g3 L3)∧Hid (L3=fun c p=> if c=false∧p=q then L2 false q++ [k] else L2 c p):= ⟨_,_,HT8B,hide rfl⟩
   obtain ⟨g3,L3,HT3,HL3⟩:=hex
   have HN3:Hid (NeedP (fun x y=> y∈ol x) nm k ns (j+1) (M+1) (L3 true) (L3 false)):=by
    have e1:L3 true=fun p=> if p=k then L true k++ [q] else L true p:=by funext p;rw [HL3.out,HL2.out];simp
    have e2:L3 false=fun p=> if p=q then L false q++ [k] else L false p:=by funext p;rw [HL3.out,HL2.out];simp
    show NeedP _ _ _ _ _ _ _ _
    rw [e1,e2]
    exact HNx.out
   clear HT8B HBBB HT2 HOwA KA hurA HNx
   go_wp2_with fail
   go_roundw
   case rel=> exact ⟨j+1,M+1,g3,L3,by omega,by go_num,by omega,HT3,HN3,HO8B,HOwB,KB,hurB⟩
   case measure=> simp [intOf];omega
open Go.RowKit
def qvOf (l:List TaskM) (s:ByteArray):Value:=match l.find? (fun t=> decide (t.r.name=s)) with
 | some t=> t.qv
 | none=> .slice none 0 0
def strOf :Value→ByteArray
 | .string b=> b
 | _=> ByteArray.empty
def askOf (l:List TaskM) (s:ByteArray):List ByteArray:=match l.find? (fun t=> decide (t.r.name=s)) with
 | some t=> t.qs.map strOf
 | none=> []
theorem find_snoc {l:List TaskM} {u:TaskM} (hno: ∀t∈l,t.r.name≠u.r.name) (s:ByteArray): (l++ [u]).find? (fun t=> decide (t.r.name=s))=if s=u.r.name then some u else l.find? (fun t=> decide (t.r.name=s)):=by
 rw [List.find?_append]
 by_cases e:s=u.r.name
 ·rw [if_pos e]
  have:l.find? (fun t=> decide (t.r.name=s))=none:=by
   rw [List.find?_eq_none]
   intro t ht
   simpa [e] using hno t ht
  rw [this]
  simp [e]
 ·rw [if_neg e]
  have h2: [u].find? (fun t=> decide (t.r.name=s))=none:=by
   rw [List.find?_eq_none]
   intro t ht
   rw [List.mem_singleton] at ht
   subst ht
   simpa using fun g=> e g.symm
  rw [h2]
  simp
structure AskM (w:World) (mo:Nat) (l:List TaskM):Prop where
 map: ∃N D,N≤l.length∧w.ownsMap Tryz.prog 9 asIs mo N D∧(∀s:ByteArray,s.size≤maxLen→D.atKey (keyLit s) (.held (.slice none 0 0))= .held (qvOf l s))∧∀s:ByteArray,Maps.has D (keyLit s)=true↔∃t∈l,t.r.name=s
theorem AskM.made (w:World):AskM (w.alloc (.map #[] 0)) w.heap.size []:=
 ⟨⟨0,.map [],Nat.le_refl _,World.ownsMap_made w Tryz.prog 9 asIs,fun s _=> rfl,fun s=> by simp [Maps.has]⟩⟩
theorem AskM.kept {w w':World} {mo:Nat} {l:List TaskM} (h:AskM w mo l) (k:Kept w w'):AskM w' mo l:=by
 obtain ⟨N,D,hN,hM,hf⟩:=h.map
 exact ⟨⟨N,D,hN,map_but (S:=fun _=> False) hM (But.of_kept k) id,hf⟩⟩
theorem AskM.put {w:World} {mo:Nat} {l:List TaskM} (h:AskM w mo l) {u:TaskM} (hs:u.r.name.size≤maxLen) (hl:l.length≤1000) (hno: ∀t∈l,t.r.name≠u.r.name):
  ∃w2,(Instr.mapUpdate 72 (.map (some mo)) (.string u.r.name) u.qv).run Tryz.prog w= .ok () w2∧AskM w2 mo (l++ [u])∧But (fun b=> b=mo) w w2:=by
 obtain ⟨N,D,hNl,hM,hf⟩:=h.map
 obtain ⟨w2,hrun,hM2,hg2⟩:=hM.update Tryz.keyed Tryz.underlying72 (by unfold maxLen;omega) (WideMaps.keyOf_string_mk Tryz.underlying9 hs) (d:= .held u.qv) (ps:=[]) rfl
 have hmp:Maps.IsMap D:=by obtain ⟨es,clock,_,_,_,rfl⟩:=hM;exact ⟨_,rfl⟩
 refine ⟨w2,hrun,⟨⟨N+1,_,by rw [List.length_append];simp;omega,hM2,fun n hn=> ?_,fun n=> ?_⟩⟩,But.of_grown hg2 (fun b e=> (Option.some.inj e).symm)⟩
 ·unfold qvOf
  rw [find_snoc hno]
  by_cases e:n=u.r.name
  ·rw [if_pos e,e]
   exact Maps.atKey_put_same (k:=keyLit u.r.name) hmp (by show WideAt.IsKeyLit (.string _);exact trivial) _ _
  ·rw [if_neg e]
   have h1:=hf.1 n hn
   unfold qvOf at h1
   rw [←h1]
   exact Maps.atKey_put_other (keyLit_ne e) _ _
 ·by_cases e:n=u.r.name
  ·rw [e]
   exact ⟨fun _=> ⟨u,by simp,rfl⟩,fun _=> Maps.has_put_same (k:=keyLit u.r.name) hmp (by show WideAt.IsKeyLit (.string _);exact trivial) (.held u.qv)⟩
  ·refine (Eq.to_iff (congrArg (· =true) (Maps.has_put_other (keyLit_ne e) (.held u.qv)))).trans ((hf.2 n).trans ?_)
   constructor
   ·rintro ⟨t,ht,h1⟩;exact ⟨t,List.mem_append.2 (.inl ht),h1⟩
   ·rintro ⟨t,ht,h1⟩
    rcases List.mem_append.1 ht with g | g
    ·exact ⟨t,g,h1⟩
    ·rw [List.mem_singleton] at g;rw [g] at h1;exact absurd h1.symm e
theorem strOf_map (L:List ByteArray): (L.map Value.string).map strOf=L:=by
 induction L with
 | nil=> rfl
 | cons a L ih=> simp only [List.map_cons,ih];rfl
section
variable {G : Ghost} {webl : List NodeD} {wz w w' : World} {bb : Nat} {a : Option Addr} {cap : Nat} {rd : Option Addr} {rn rc : Nat} {mb mx : Nat} {ts : List TaskM} {d : Option Addr} {dc : Nat} {f : ByteArray → Value} {ws : ByteArray → List Nat}
theorem ask_task (hB:BM G webl wz w bb a cap rd rn rc mb mx ts d dc f ws) (hS:BS webl ts ws) {t:TaskM} (ht:t∈ts): ∃L,t.qs=L.map Value.string∧t.qs.map strOf=L∧Traj (actsOf webl) (envOf (runsOf ts)) t.r L∧L.length≤5 * mx∧∃qa qc,t.qv= .slice qa L.length qc∧Strs w qa L:=by
 obtain ⟨L,h1,h2⟩:=hS.qs t ht
 have h3:= (hB.task t ht).ask
 have h4:=hB.qb t ht
 rw [h2] at h3 h4
 rw [List.length_map] at h4
 obtain ⟨qa,qc,e,hs⟩:=owned_strs h3
 exact ⟨L,h2,by rw [h2];exact strOf_map L,h1,h4,qa,qc,e,hs⟩
theorem find_name {s:ByteArray} {t:TaskM} (h:ts.find? (fun u=> decide (u.r.name=s))=some t):t∈ts∧t.r.name=s:= ⟨List.mem_of_find?_eq_some h,by simpa using List.find?_some h⟩
theorem AskM.lists (hB:BM G webl wz w bb a cap rd rn rc mb mx ts d dc f ws) (hS:BS webl ts ws) (_hmx:mx≤9000) (hts:ts.length≤60) {mo:Nat} (h:AskM w mo ts):ListsM w mo (fun s=> s∈ts.map (·.r.name)) (askOf ts):=by
 obtain ⟨N,D,hN,hM,hf,hh⟩:=h.map
 refine ⟨⟨N,D,by omega,hM,fun s hs=> ?_,fun s=> ?_⟩,fun s hs=> ?_⟩
 ·rw [hf s hs]
  unfold qvOf askOf
  cases hF:ts.find? (fun t=> decide (t.r.name=s)) with
  | none=> exact ⟨none,0,rfl,fun i hi=> by cases hi⟩
  | some t=>
   obtain ⟨L,h1,h2,_,_,qa,qc,h5,h6⟩:=ask_task hB hS (find_name hF).1
   exact ⟨qa,qc,by simp only;rw [h5,h2],by simp only;rw [h2];exact h6⟩
 ·rw [hh s,List.mem_map]
 ·unfold askOf at hs
  cases hF:ts.find? (fun t=> decide (t.r.name=s)) with
  | none=> rw [hF] at hs;exact absurd rfl hs
  | some t=> exact List.mem_map.2 ⟨t,(find_name hF).1,(find_name hF).2⟩
theorem ask_len (hB:BM G webl wz w bb a cap rd rn rc mb mx ts d dc f ws) (hS:BS webl ts ws) (hmx:mx≤9000) (s:ByteArray): (askOf ts s).length≤1000000:=by
 unfold askOf
 cases hF:ts.find? (fun t=> decide (t.r.name=s)) with
 | none=> exact Nat.zero_le _
 | some t=>
  obtain ⟨L,_,h2,_,h4,_⟩:=ask_task hB hS (find_name hF).1
  simp only
  rw [h2]
  omega
theorem ask_iff (hB:BM G webl wz w bb a cap rd rn rc mb mx ts d dc f ws) (hS:BS webl ts ws) (x y:ByteArray):y∈askOf ts x↔AsksX (actsOf webl) (envOf (runsOf ts)) x y:=by
 unfold askOf
 cases hF:ts.find? (fun t=> decide (t.r.name=x)) with
 | none=>
  constructor
  ·intro h;cases h
  ·rintro ⟨r,L,h1,_⟩
   obtain ⟨h2,h3⟩:=env_mem h1
   obtain ⟨t,ht,rfl⟩:=List.mem_map.1 h2
   rw [List.find?_eq_none] at hF
   exact absurd h3 (by simpa using hF t ht)
 | some t=>
  obtain ⟨ht,hn⟩:=find_name hF
  obtain ⟨L,_,h2,h3,_⟩:=ask_task hB hS ht
  simp only
  rw [h2]
  have hr:=asc_env hS.good.asc (List.mem_map_of_mem (f:=fun t:TaskM=> t.r) ht)
  rw [hn] at hr
  obtain ⟨A,hA,_⟩:= (hS.good.good t.r (List.mem_map_of_mem (f:=fun t:TaskM=> t.r) ht)).act
  exact asksX_iff hr (by rw [hA];rfl) h3 y
end
section
variable {G : Ghost} {webl : List NodeD} {wz w w' : World} {bb : Nat} {a : Option Addr} {cap : Nat} {rd : Option Addr} {rn rc : Nat} {mb mx : Nat} {ts : List TaskM} {d : Option Addr} {dc : Nat} {f : ByteArray → Value} {ws : ByteArray → List Nat}
set_option maxRecDepth 100000 in
set_option maxHeartbeats 3200000 in
theorem asked_any (hB:BM G webl wz w bb a cap rd rn rc mb mx ts d dc f ws) (hS:BS webl ts ws) (hok:ActsOk (actsOf webl)) (hts:ts.length≤60):
  Calls Tryz.prog 101 #[.pointer (some ⟨bb,0,none⟩)] w fun e w'=> (∃mo,e= .returned (.map (some mo))∧AskM w' mo ts)∧Kept w w':=by
 obtain ⟨WM,hWM⟩: ∃WM,WM=w.alloc (.map #[] 0):= ⟨_,rfl⟩
 have kM:Kept w WM:=by rw [hWM];exact (Kept.refl _).alloc _
 obtain ⟨mo,hmo⟩: ∃mo,mo=w.heap.size:= ⟨_,rfl⟩
 have HM0:Hid (AskM WM mo []):=by rw [hWM,hmo];exact AskM.made w
 have Hmo:Hid (w.heap.size≤mo):=Nat.le_of_eq hmo.symm
 have HB:=hide (hB.kept kM)
 have HBw:=hide hB
 have HS:=hide hS
 have HNs:Hid (∀t∈ts,t.r.name.size≤maxLen):=fun t ht=> by
  obtain ⟨A,hA,_⟩:= (hS.good.good t.r (List.mem_map_of_mem (f:=fun t:TaskM=> t.r) ht)).act
  have:= (hok _ _ hA).2.2.1
  unfold maxLen
  omega
 have HOth:Hid (∀k (hk:k < ts.length),∀t∈ts.take k,t.r.name≠ts[k].r.name):=fun k hk t ht e=> by
  obtain ⟨j,hj,rfl⟩:=List.getElem_of_mem ht
  rw [List.length_take] at hj
  rw [List.getElem_take] at e
  have:=List.pairwise_iff_getElem.1 hB.asc j k (by simp [runsOf];omega) (by simpa [runsOf] using hk) (by omega)
  simp only [runsOf,List.getElem_map] at this
  exact lessX_ne this e
 have c3:=HB.out.c3
 have bz:=HB.out.row.lt
 clear hB hS
 have hmm: (Instr.makeMap 72 none).run Tryz.prog w= .ok (.map (some w.heap.size)) (w.alloc (.map #[] 0)):=rfl
 go_enter Tryz.func101,Tryz.ntmps101
 go_upto_region 2 with fail
 clear hmm
 rw [←hWM,←hmo]
 clear hWM hmo
 go_wp2
 go_loopw [13] (fun x wr=> ∃k:Nat,k≤ts.length∧x= .int .i64 (k:Int)∧Hid (AskM wr mo (ts.take k))∧Kept w wr) (fun x _=> ts.length - (intOf x).toNat)
 case atStart=> exact ⟨0,Nat.zero_le _,rfl,HM0,kM⟩
 case round=>
  clear HM0 c3 bz
  obtain ⟨k,hk,rfl,HM,Kr⟩:=hrel
  by_cases hlt:k < ts.length
  rotate_left
  ·have hnk: ¬((k:Int) < (ts.length:Int)):=by omega
   have HMw:Hid (AskM wr mo ts):=by have h:=HM.out;rw [show k=ts.length by omega,List.take_length] at h;exact h
   clear hlt
   go_wp2_with fail
   go_ret
   exact ⟨⟨mo,rfl,HMw.out⟩,Kr⟩
  have hkk: (k:Int) < (ts.length:Int):=by omega
  have HBr:=hide (HBw.out.kept Kr)
  obtain ⟨t,ht⟩: ∃t,t=ts[k]:= ⟨_,rfl⟩
  have hmem:t∈ts:=by rw [ht];exact List.getElem_mem hlt
  obtain ⟨ib,ic,hid,hib,hic⟩: ∃ib ic,d=some ⟨ib,0,none⟩∧ib < wr.heap.size∧wr.cell? ⟨ib,k,none⟩=some (.pointer (some ⟨t.tb,0,none⟩))∧ic=0:=by
   have hi:=HBr.out.items
   rcases hi.2 with ⟨h1,_⟩ | ⟨g,c,cur,h1,_,hg,_⟩
   ·simp only [Value.slice.injEq] at h1
    omega
   ·simp only [Value.slice.injEq] at h1
    refine ⟨g,0,h1.1,heap_lt hg, ?_,rfl⟩
    have h2:=hi.cells (g:=g) (by rw [h1.1];rfl) k t.ptr (by rw [List.getElem?_map,List.getElem?_eq_getElem hlt,ht];rfl)
    rw [Addr.add_mid,Nat.zero_add] at h2
    exact h2
  subst hid
  have hT:=HBr.out.task t hmem
  have q0:wr.cell? ⟨t.tb,0,none⟩=some (.string t.r.name):=hT.rng 0 _ rfl
  have q10:wr.cell? ⟨t.tb,10,none⟩=some t.qv:=by have h:=hT.rng 10 t.qv rfl;rw [Nat.zero_add] at h;exact h
  have tz:=hT.row.lt
  obtain ⟨nm,hnm⟩: ∃nm,nm=t.r.name:= ⟨_,rfl⟩
  obtain ⟨qa,qc,hqv⟩:=own_slice hT.ask
  rw [←hnm] at q0
  rw [hqv] at q10
  have HQv:=hide hqv
  have HNm:=hide hnm
  have HTe:=hide ht
  have HMem:=hide hmem
  have HSO:Hid (∀u,Kept wr u→u.cell? ⟨t.tb,0,none⟩=some (.string nm)∧u.cell? ⟨t.tb,10,none⟩=some (.slice qa t.qs.length qc)):=fun u K=> ⟨(K.cell tz).trans q0,(K.cell tz).trans q10⟩
  clear hT hqv hnm ht hmem
  go_upto_region 5 with fail
  refine UpTo.region (by kernel_rfl) (fun u=> u.cell? ⟨t.tb,0,none⟩=some (.string nm)∧u.cell? ⟨t.tb,10,none⟩=some (.slice qa t.qs.length qc)) 10 (HSO.out _ ((Kept.refl wr).drew)) (fun hHeld=> ?_)
  have KD:Kept wr wr.drew:= (Kept.refl wr).drew
  generalize hwd:wr.drew=wd at hHeld KD⊢
  clear hwd
  refine UpTo.tk 0 [10] hHeld ?_
  try simp only [Act.put,upA,upB,upC]
  refine UpTo.tk 1 [2,3,4,5,10] hHeld ?_
  try simp only [Act.put,upA,upB,upC]
  refine UpTo.tk 2 [3,4,5,10] hHeld ?_
  try simp only [Act.put,upA,upB,upC]
  refine UpTo.tk 3 [4,5,10] hHeld ?_
  try simp only [Act.put,upA,upB,upC]
  refine UpTo.tk 4 [5,10] hHeld ?_
  try simp only [Act.put,upA,upB,upC]
  refine UpTo.tk 5 [10] hHeld ?_
  try simp only [Act.put,upA,upB,upC]
  refine UpTo.tk 6 [7,8,9,10] hHeld ?_
  try simp only [Act.put,upA,upB,upC]
  refine UpTo.tk 7 [8,9,10] hHeld ?_
  try simp only [Act.put,upA,upB,upC]
  refine UpTo.tk 8 [9,10] hHeld ?_
  try simp only [Act.put,upA,upB,upC]
  refine UpTo.tk 9 [10] hHeld ?_
  try simp only [Act.put,upA,upB,upC]
  obtain ⟨w2,hrun,hM2,hbt⟩:= (HM.out.kept KD).put (u:=t) (HNs.out t HMem.out) (by rw [List.length_take];omega) (by rw [HTe.out];exact HOth.out k hlt)
  have HM2:Hid (AskM w2 mo (ts.take (k+1))):=by rw [List.take_succ_eq_append_getElem hlt,←HTe.out];exact hM2
  have K2:Kept w w2:=hbt.kept (Kr.trans KD) (fun b e=> by rw [e];exact Hmo.out)
  rw [←HNm.out,HQv.out] at hrun
  clear hM2 hbt HM
  refine UpTo.nx 10 (fun K hK=> ?_)
  go_simp
  refine hK.out _ _ (fun h=> absurd rfl h) ?_
  clear hK K
  try simp only [Act.put,upA,upB,upC]
  refine UpTo.done (by kernel_rfl) ?_
  clear hrun hHeld KD HSO q0 q10 tz
  go_wp2_with fail
  go_roundw
  case rel=> exact ⟨k+1,by omega,by go_num,HM2,K2⟩
  case measure=> simp [intOf];omega
end
def UsesEnd (E:ByteArray→ByteArray→Prop) (names:List ByteArray) (name:ByteArray) (w w':World) (e:Ending):Prop:=
 ∃(da:Option Addr) (ns:List ByteArray),e= .returned (.slice da ns.length ns.length)∧StrsIn w' w.heap.size w'.heap.size da ns∧ns.length≤60∧UsesL E names name ns∧Kept w w'
section
variable {G : Ghost} {webl : List NodeD} {wz w w' : World} {bb : Nat} {a : Option Addr} {cap : Nat} {rd : Option Addr} {rn rc : Nat} {mb mx : Nat} {ts : List TaskM} {d : Option Addr} {dc : Nat} {f : ByteArray → Value} {ws : ByteArray → List Nat}
set_option maxRecDepth 100000 in
set_option maxHeartbeats 6400000 in
theorem uses_any (hB:BM G webl wz w bb a cap rd rn rc mb mx ts d dc f ws) (hS:BS webl ts ws) (hok:ActsOk (actsOf webl)) (hmx:mx≤9000) (hts:ts.length≤60) (name:ByteArray):
  Calls Tryz.prog 57 #[.pointer (some ⟨bb,0,none⟩),.string name] w fun e w'=> UsesEnd (AsksX (actsOf webl) (envOf (runsOf ts))) (ts.map (·.r.name)) name w w' e:=by
 have HIff:=hide (ask_iff hB hS)
 have HKs:Hid (∀s,s∈ts.map (·.r.name)→s.size≤20):=fun s hs=> by
  obtain ⟨t,ht,rfl⟩:=List.mem_map.1 hs
  obtain ⟨A,hA,_⟩:= (hS.good.good t.r (List.mem_map_of_mem (f:=fun t:TaskM=> t.r) ht)).act
  exact (hok _ _ hA).2.2.1
 have HLen:=hide (ask_len hB hS hmx)
 have HB:=hide hB
 have HS:=hide hS
 clear hB hS
 go_enter Tryz.func57,Tryz.ntmps57
 go_wp2_with fail
 refine (asked_any HB.out HS.out hok hts).mono ?_
 rintro e w1 ⟨⟨mo,rfl,hM⟩,k1⟩
 have HLm:=hide (hM.lists (HB.out.kept k1) HS.out hmx hts)
 clear hM
 go_wp2_with fail
 refine (needsOf_any w1 mo _ (askOf ts) (ts.map (·.r.name)) (fun s h=> h) (by rw [List.length_map];exact hts) HKs.out HLen.out HLm.out).mono ?_
 rintro e w2 ⟨na,nc,nm,nb,mb2,M,need,back,rfl,hasc,hmem,hV,hR,hMM,k2⟩
 have hn60:nm.length≤60:=by
  refine Nat.le_trans (List.Nodup.length_le_of_subset ?_ (fun x hx=> (hmem x).1 hx)) (by rw [List.length_map];exact hts)
  exact hasc.imp fun {a b} hab=> lessX_ne hab
 have HPl:Hid (Places (fun x y=> y∈askOf ts x) nm):= ⟨hasc,fun x y hxy=> (hmem x).2 (HLm.out.sub x (fun e=> by rw [e] at hxy;cases hxy))⟩
 have HSm:Hid (∀s∈nm,s.size≤1048576):=fun s hs=> by have:=HKs.out s ((hmem s).1 hs);omega
 have HMe:=hide hmem
 have HR:=hide hR
 obtain ⟨W2,hW2⟩: ∃W2,W2=w2.alloc (.cells #[.slice na nm.length nc,.slice (some ⟨nb,0,none⟩) nm.length nm.length,.slice (some ⟨mb2,0,none⟩) nm.length nm.length] 81):= ⟨_,rfl⟩
 have kz2:Kept w2 W2:=by rw [hW2];exact (Kept.refl _).alloc _
 obtain ⟨xb,hxb⟩: ∃xb,xb=w2.heap.size:= ⟨_,rfl⟩
 have HSO:Hid (∀u,Kept W2 u→u.cell? ⟨xb,0,none⟩=some (.slice na nm.length nc)∧u.cell? ⟨xb,1,none⟩=some (.slice (some ⟨nb,0,none⟩) nm.length nm.length)∧u.cell? ⟨xb,2,none⟩=some (.slice (some ⟨mb2,0,none⟩) nm.length nm.length)):=fun u k=> by
  have z1:w2.heap.size < W2.heap.size:=by rw [hW2];simp
  have h:=range_new w2 #[.slice na nm.length nc,.slice (some ⟨nb,0,none⟩) nm.length nm.length,.slice (some ⟨mb2,0,none⟩) nm.length nm.length] 81
  rw [←hW2] at h
  rw [hxb]
  exact ⟨(k.cell z1).trans (h 0 _ rfl),(k.cell z1).trans (h 1 _ rfl),(k.cell z1).trans (h 2 _ rfl)⟩
 have HXz:Hid (xb < W2.heap.size):=by
  show xb < W2.heap.size
  rw [hxb,hW2]
  simp
 have HV2:=hide (hV.kept kz2)
 have K12:=k2.trans kz2
 have KW:=hide (k1.trans K12)
 have HK12:=hide K12
 have HW2:=hide hW2
 have HXb:=hide hxb
 clear hasc hmem hV hR k1 k2 kz2 K12 hW2 hxb
 go_upto_region 3 with fail
 rw [←HW2.out,←HXb.out]
 clear HW2 HXb
 obtain ⟨s0,s1,s2⟩:=HSO.out _ (Kept.refl W2)
 have xz:=HXz.out
 go_wp2_with fail
 clear s0 s1 s2 xz
 go_loopw [7,17] (fun x7 x17 wr=> ∃(i:Nat) (cs:List Nat) (av:Option Addr) (cv:Nat),i≤nm.length∧x17= .int .i64 (i:Int)∧x7= .slice av cs.length cv∧cs.length≤i∧Hid (wr.ownsRow W2.heap.size 3 1 (.slice av cs.length cv) cs.length (cs.map natV))∧Hid (cs.Nodup)∧Hid (∀q,q∈cs↔q < i∧∃hq:q < nm.length,name∈askOf ts nm[q])∧Kept W2 wr) (fun _ x17 _=> nm.length - (intOf x17).toNat)
 case atStart=> exact ⟨0,[],none,0,Nat.zero_le _,rfl,rfl,Nat.zero_le _,World.ownsRow_nil _ _ _ _,hide List.nodup_nil,hide (fun q=> by simp),Kept.refl _⟩
 case round=>
  obtain ⟨i,cs,av,cv,hi,rfl,rfl,hcl,HO,HNd,HC,Kr⟩:=hrel
  by_cases hil:i < nm.length
  rotate_left
  ·have hnl: ¬((i:Int) < (nm.length:Int)):=by omega
   have HNt:Hid (Nats wr av cs):=by
    obtain ⟨a9,c9,e9,_,h9⟩:=owned_nats HO.out rfl
    simp only [Value.slice.injEq,true_and] at e9
    rw [←e9.1] at h9
    exact h9
   have HC2:Hid (∀q,q∈cs↔∃hq:q < nm.length,name∈askOf ts nm[q]):=fun q=> by
    rw [HC.out]
    exact ⟨fun h=> h.2,fun h=> ⟨by obtain ⟨hq,_⟩:=h;omega,h⟩⟩
   clear hil
   go_upto_region 10 with fail
   refine UpTo.region (by kernel_rfl) (fun u=> u.cell? ⟨xb,0,none⟩=some (.slice na nm.length nc)∧u.cell? ⟨xb,1,none⟩=some (.slice (some ⟨nb,0,none⟩) nm.length nm.length)∧u.cell? ⟨xb,2,none⟩=some (.slice (some ⟨mb2,0,none⟩) nm.length nm.length)) 5 (HSO.out _ (Kr.trans ((Kept.refl wr).drew))) (fun hHeld=> ?_)
   have KD:Kept W2 wr.drew:=Kr.trans ((Kept.refl wr).drew)
   have HNt2:=hide (HNt.out.kept ((Kept.refl wr).drew))
   generalize hwd:wr.drew=wd at hHeld KD HNt2⊢
   clear hwd
   refine UpTo.tk 0 [4,5] hHeld ?_
   try simp only [Act.put,upA,upB,upC]
   refine UpTo.tk 1 [3,4,5] hHeld ?_
   try simp only [Act.put,upA,upB,upC]
   refine UpTo.tk 2 [3,4,5] hHeld ?_
   try simp only [Act.put,upA,upB,upC]
   refine UpTo.nx 3 (fun K hK=> ?_)
   rw [if_pos (by rfl)]
   go_simp
   go_at_call 97
   refine (leadingTo_any wd na nc nm nb mb2 need back _ M av cv cs (fun p hp=> by obtain ⟨h,_⟩:= (HC2.out p).1 hp;exact h) HNd.out hn60 hMM (HV2.out.kept KD) HR.out HNt2.out).mono ?_
   rintro e w3 ⟨pa,pc,best,rfl,hNb,hb60,hbp,hbe,k3⟩
   have K3:=KD.trans k3
   have HNb:=hide hNb
   have HBe:Hid (UsesL (fun x y=> y∈askOf ts x) (ts.map (·.r.name)) name (best.map (nameOf nm))):=uses_names HPl.out HMe.out HC2.out hbe hbp
   have HBm:Hid (∀p∈best,p < nm.length):=fun p hp=> ((hbe p).1 hp).1
   clear hNb hbe hbp
   dsimp only
   refine hK.out _ _ (fun _=> HSO.out _ K3) ?_
   clear hK K
   try simp only [Act.put,upA,upB,upC]
   clear hHeld
   refine UpTo.nx 4 (fun K hK=> ?_)
   rw [if_pos (by rfl)]
   go_simp
   go_at_call 54
   refine (told_any w3 na nc nm _ _ rfl rfl pa pc best HBm.out (by omega) (by omega) HSm.out (HV2.out.kept K3).names HNb.out).mono ?_
   rintro e w4 ⟨da,rfl,hT,k4⟩
   have K4:=K3.trans k4
   have HT:=hide hT
   have HK3:=hide K3
   clear hT
   dsimp only
   refine hK.out _ _ (fun _=> HSO.out _ K4) ?_
   clear hK K
   try simp only [Act.put,upA,upB,upC]
   refine UpTo.nx 5 (fun K hK=> ?_)
   go_simp
   refine hK.out _ _ (fun h=> absurd rfl h) ?_
   clear hK K
   try simp only [Act.put,upA,upB,upC]
   refine UpTo.done (by kernel_rfl) ?_
   clear HSO HR
   go_wp2_with fail
   go_ret
   have KA:=HK3.out.trans k4
   refine ⟨da,best.map (nameOf nm),by rw [List.length_map];rfl,HT.out.mono (Nat.le_trans KW.out.size HK3.out.size) (Nat.le_refl _),by rw [List.length_map];exact hb60, ?_,KW.out.trans KA⟩
   have he: (fun x y=> y∈askOf ts x)=AsksX (actsOf webl) (envOf (runsOf ts)):=by funext x y;exact propext (HIff.out x y)
   rw [←he]
   exact HBe.out
  have hii: (i:Int) < (nm.length:Int):=by omega
  obtain ⟨qb,qo,e1,hqb,hqc⟩:= (HV2.out.kept Kr).names i hil
  subst e1
  obtain ⟨x,hx⟩: ∃x,x=nm.getD i ByteArray.empty:= ⟨_,rfl⟩
  rw [←hx] at hqc
  have hxg:nm[i]=x:=by rw [hx];simp [List.getD,hil]
  have HXg:=hide hxg
  have hxm:x.size≤maxLen:=by have:=HSm.out nm[i] (List.getElem_mem hil);rw [hxg] at this;unfold maxLen;omega
  obtain ⟨la,lc,hrun,hLs⟩:=HLm.out.look (HK12.out.trans Kr) hxm
  have HLs:=hide hLs
  have hLl:=HLen.out x
  clear hx hxg hLs
  go_wp2_with fail
  refine (sContains_any wr la lc (askOf ts x) name (by omega) HLs.out).mono ?_
  rintro e w5 ⟨⟨bs,rfl,hbs⟩,hw5⟩
  rw [hw5]
  have HBs:=hide hbs
  clear hbs hw5 hrun
  cases bs
  ·have HC2:Hid (∀q,q∈cs↔q < i+1∧∃hq:q < nm.length,name∈askOf ts nm[q]):=fun q=> by
    rw [HC.out]
    constructor
    ·rintro ⟨h1,h2⟩;exact ⟨by omega,h2⟩
    ·rintro ⟨h1,h2,h3⟩
     by_cases e:q=i
     ·subst e;rw [HXg.out] at h3;have h4:=HBs.out.2 h3;cases h4
     ·exact ⟨by omega,h2,h3⟩
   go_wp2_with fail
   go_roundw
   case rel=> exact ⟨i+1,cs,av,cv,by omega,by go_num,rfl,by omega,HO,HNd,HC2,Kr⟩
   case measure=> simp [intOf];omega
  ·have HC2:Hid (∀q,q∈cs++ [i]↔q < i+1∧∃hq:q < nm.length,name∈askOf ts nm[q]):=fun q=> by
    rw [List.mem_append,List.mem_singleton,HC.out]
    constructor
    ·rintro (⟨h1,h2⟩ | rfl)
     ·exact ⟨by omega,h2⟩
     ·exact ⟨by omega,hil,by rw [HXg.out];exact HBs.out.1 rfl⟩
    ·rintro ⟨h1,h2⟩
     by_cases e:q=i
     ·exact .inr e
     ·exact .inl ⟨by omega,h2⟩
   have HN2:Hid ((cs++ [i]).Nodup):=by
    show (cs++ [i]).Nodup
    rw [List.nodup_append]
    exact ⟨HNd.out,by simp,fun a ha b hb e=> by rw [List.mem_singleton] at hb;rw [e,hb] at ha;have:= ((HC.out i).1 ha).1;omega⟩
   obtain ⟨ic,hc0,hc1,hc2,hc3⟩:=info_parts Tryz.infoIntL
   have ka:Kept wr (wr.alloc (.cells #[.int .i64 (i:Int)] 3)):= (Kept.refl _).alloc _
   have HOw:=hide (ownsRow_kept' HO.out ka)
   have HKK:=hide (Kr.trans ka)
   have hbz:W2.heap.size≤(wr.alloc (.cells #[.int .i64 (i:Int)] 3)).heap.size:=HKK.out.size
   have HNw:Hid (∀j u,([.int .i64 (i:Int)]:List Value)[j]? =some u→(wr.alloc (.cells #[.int .i64 (i:Int)] 3)).cell? ((⟨wr.heap.size,0,none⟩:Addr).add j)=some u):=fun j u hu=> by rw [Addr.add_mid];exact range_new wr #[.int .i64 (i:Int)] 3 j u hu
   have HOne:Hid (∀u∈([.int .i64 (i:Int)]:List Value),u.oneCell'=true):=fun u hu=> by simp only [List.mem_cons,List.not_mem_nil,or_false] at hu;subst hu;rfl
   clear ka
   go_wp2_with (at_builtin;refine wpList_append_own _ rfl (.tmp 27) (.tmp 29) 84 rfl W2.heap.size 3 ic _ 1 8 Tryz.underlying84 hc0 hc1 hc2 hc3 rfl (by decide) (.slice av cs.length cv) cs.length (cs.map natV) rfl HOw.out ⟨wr.heap.size,0,none⟩ 1 1 [.int .i64 (i:Int)] rfl rfl HNw.out HOne.out (by unfold maxLen;omega) (by omega) hbz ?_;intro v' w6 hown2 hgr _;have KP:=kept_of_grown HKK.out (Nat.le_refl _) HOw.out hgr;have HP2:=hide hown2;obtain ⟨av2,cv2,rfl⟩:=own_slice hown2;clear hown2 hgr)
   go_roundw
   case rel=> exact ⟨i+1,cs++ [i],av2,cv2,by omega,by go_num,by rw [List.length_append];rfl,by rw [List.length_append];simp;omega,hide (by rw [List.length_append,List.map_append];exact HP2.out),HN2,HC2,KP⟩
   case measure=> simp [intOf];omega
end
def UsesIEnd (webl:List NodeD) (roots:List ByteArray) (sl:List RunX) (name:ByteArray) (w w':World) (e:Ending):Prop:=
 ∃(da:Option Addr) (ns:List ByteArray),e= .returned (.slice da ns.length ns.length)∧StrsIn w' w.heap.size w'.heap.size da ns∧UsesAns webl roots sl name ns∧Kept w w'
set_option maxRecDepth 100000 in
set_option maxHeartbeats 6400000 in
theorem implUses_any (w:World) (a:Option Addr) (cap:Nat) (webl:List NodeD) (rd:Option Addr) (rc:Nat) (roots:List ByteArray) (ga:Option Addr) (gc:Nat) (sl:List RunX) (name:ByteArray) (_hnz:name.size≤maxLen) (hl:webl.length≤1048576) (hf: ∀s∈webl,s.Fits) (hrl:roots.length≤maxLen) (hrc:roots.length≤rc) (hrs: ∀s∈roots,s.size≤maxLen) (hsl:sl.length≤1048576) (hst: ∀r∈sl,r.texts.length≤1048576) (hS:Nodes w a webl) (hR:Strs w rd roots) (hG:RunsX w ga sl) (hFi:FinishOk w):
  Calls Tryz.prog 28 #[.agg #[.slice a webl.length cap],.agg #[.slice rd roots.length rc,.slice ga sl.length gc],.string name] w fun e w'=> UsesIEnd webl roots sl name w w' e:=by
 have k0:Kept w ((w.alloc (.cells #[.slice a webl.length cap] 37)).alloc (.cells #[.slice rd roots.length rc,.slice ga sl.length gc] 41)):= ((Kept.refl _).alloc _).alloc _
 go_enter Tryz.func28,Tryz.ntmps28
 go_wp2_with fail
 refine (resume_any _ a cap webl rd rc roots ga gc sl hl hf hrl hrc hrs hsl hst (hS.kept k0) (hR.kept k0) (hG.kept k0) (hFi.kept k0)).mono ?_
 rintro e w1 ⟨k1,hcase⟩
 have K1:=k0.trans k1
 rcases hcase with ⟨hno,rfl⟩ | ⟨hW,hRo,hA,wz,bb,mb,mx,ts,d,dc,f,ws,b,rfl,kz,hB,hBS,hmx,hb,hled,hend⟩
 ·have HNo:=hide hno
  clear hno k1 k0
  go_wp2_with fail
  go_ret
  exact ⟨none,[],rfl,.inl rfl,⟨Nat.zero_le _,.inr ⟨fun h=> HNo.out ⟨h.1,h.2.1,h.good.asc⟩,rfl⟩⟩,K1⟩
 have HV:=hide (hb.trans (res_valid hW hRo hBS hled hend))
 have HBi:=hide hb
 have HB:=hide hB
 have HBS:=hide hBS
 have HW:=hide hW
 clear hRo hA kz hb hled hend k1 k0 hB hBS hW
 cases b
 ·go_wp2_with fail
  go_ret
  exact ⟨none,[],rfl,.inl rfl,⟨Nat.zero_le _,.inr ⟨fun h=> (by have h2:=HV.out.2 h;cases h2),rfl⟩⟩,K1⟩
 have HRn:Hid (runsOf ts=sl):=HBi.out.1 rfl
 have HVx:Hid (ValidX webl roots sl):=HV.out.1 rfl
 clear HBi HV
 have hN6:=HB.out.len (web_len HW.out)
 go_wp2_with fail
 refine (uses_any HB.out HBS.out (web_acts HW.out) hmx hN6 name).mono ?_
 rintro e w2 ⟨da,ns,rfl,hT,hn60,hU,k2⟩
 have HT:=hide hT
 have HU:=hide hU
 clear hT hU
 go_wp2_with fail
 go_ret
 refine ⟨da,ns,rfl,HT.out.mono K1.size (Nat.le_refl _),⟨hn60,.inl ⟨HVx.out, ?_⟩⟩,K1.trans k2⟩
 have h:=HU.out
 have e:ts.map (·.r.name)=sl.map (·.name):=by rw [←HRn.out];simp [runsOf]
 rw [e,HRn.out] at h
 exact h
set_option maxRecDepth 100000 in
set_option maxHeartbeats 12800000 in
theorem lawUses (w:World) (a:Option Addr) (cap:Nat) (l:List NodeD) (rd:Option Addr) (rc:Nat) (roots:List ByteArray) (ga:Option Addr) (gc:Nat) (sl:List RunX) (name:ByteArray) (hl:l.length≤maxLen) (hs: ∀s∈l,s.Fits) (hrl:roots.length≤maxLen) (hrs: ∀s∈roots,s.size≤maxLen) (hsl:sl.length≤maxLen) (hsf: ∀r∈sl,r.Fits) (hN:Nodes w a l) (hR:Strs w rd roots) (hG:RunsX w ga sl) (hFi:FinishOk w):
  Calls Tryz.prog 6 #[.agg #[.slice a l.length cap],.agg #[.slice rd roots.length rc,.slice ga sl.length gc],.string name] w fun e w'=> e= .returned (.bool true)∧Kept w w':=by
 obtain ⟨W0,hW0⟩: ∃W0,W0= (w.alloc (.cells #[.slice a l.length cap] 24)).alloc (.cells #[.slice rd roots.length rc,.slice ga sl.length gc] 28):= ⟨_,rfl⟩
 have k0:Kept w W0:=by rw [hW0];exact ((Kept.refl _).alloc _).alloc _
 have HBox:Hid (∀w',Kept W0 w'→(fun w'=> w'.cell? ⟨w.heap.size,0,none⟩=some (.slice a l.length cap)∧w'.cell? ⟨w.heap.size+1,0,none⟩=some (.slice rd roots.length rc)∧w'.cell? ⟨w.heap.size+1,1,none⟩=some (.slice ga sl.length gc)) w'):=fun w' kk=> by
  have q0:= (box1 (w:=w) (v:= .slice a l.length cap) (t:=24) (w1:=w') (Kept.trans (by rw [hW0];exact (Kept.refl _).alloc _) kk)).1
  have q1:=box2 (w:=w.alloc (.cells #[.slice a l.length cap] 24)) (v0:= .slice rd roots.length rc) (v1:= .slice ga sl.length gc) (t:=28) (w1:=w') (Kept.trans (by rw [hW0];exact Kept.refl _) kk)
  simp only [World.size_alloc] at q1
  exact ⟨q0,q1.1,q1.2⟩
 have z0:w.heap.size+1+1≤W0.heap.size:=by rw [hW0];simp
 go_enter Tryz.func6,Tryz.ntmps6
 by_cases hnm: (1048576:Int) < (name.size:Int)
 ·go_wp2
  rw [←hW0]
  go_ret
  exact ⟨rfl,k0⟩
 go_wp2_with fail
 rw [←hW0]
 have hnz:name.size≤maxLen:=by unfold maxLen;omega
 clear hW0 hnm
 refine (szWeb_any _ a cap l 1048576 hl hs (hN.kept k0) (by omega) (by omega)).mono ?_
 rintro e w1 ⟨rfl,K1⟩
 by_cases hle: (szNodesD l:Int)≤1048576
 rotate_left
 ·rw [szL_neg (by omega)]
  go_wp2
  go_ret
  exact ⟨rfl,k0.trans K1⟩
 rw [szL_pos hle]
 obtain ⟨hl2,hs2⟩:=small_of_szN (l:=l) (n:=1048576) (by omega)
 obtain ⟨b0,b1,b2⟩:=HBox.out _ K1
 go_wp2_with fail
 refine (szState_any _ rd ga rc gc roots sl _ hrl hrs hsl hsf (hR.kept (k0.trans K1)) (hG.kept (k0.trans K1)) (by omega) (by omega)).mono ?_
 rintro e w2 ⟨rfl,k2⟩
 have K2:=K1.trans k2
 clear b0 b1 b2 K1 k2
 by_cases hle2: (szStateD roots sl:Int)≤1048576 - szNodesD l
 rotate_left
 ·rw [szL_neg (by omega)]
  go_wp2
  go_ret
  exact ⟨rfl,k0.trans K2⟩
 rw [szL_pos hle2]
 obtain ⟨hr2,hsl2,hst2⟩:=small_runs (roots:=roots) (l:=sl) (n:=1048576) (by omega)
 have hcN:1+ (l.map cntNode).sum+roots.length+ (sl.map cntRun).sum≤33554432:=by
  have h1:=cntNodesR_le l
  have h2:=cntRuns_le sl
  have h3:szStateD roots sl=szStrs roots+szRunsD sl:=rfl
  omega
 have hnn: ¬((1048576:Int) - szNodesD l - szStateD roots sl < 0):=by omega
 have HCn:=hide hcN
 clear hle hle2 hcN
 obtain ⟨b0,b1,b2⟩:=HBox.out _ K2
 have hz2:=K2.size
 have HSO:Hid (∀w',Kept w2 w'→(fun w'=> w'.cell? ⟨w.heap.size,0,none⟩=some (.slice a l.length cap)∧w'.cell? ⟨w.heap.size+1,0,none⟩=some (.slice rd roots.length rc)∧w'.cell? ⟨w.heap.size+1,1,none⟩=some (.slice ga sl.length gc)) w'):=fun w' kk=> HBox.out w' (K2.trans kk)
 go_upto_region 10 with fail
 refine UpTo.region (by kernel_rfl) (fun w'=> w'.cell? ⟨w.heap.size,0,none⟩=some (.slice a l.length cap)∧w'.cell? ⟨w.heap.size+1,0,none⟩=some (.slice rd roots.length rc)∧w'.cell? ⟨w.heap.size+1,1,none⟩=some (.slice ga sl.length gc)) 6 (HSO.out _ ((Kept.refl w2).drew)) (fun hHeld=> ?_)
 have KD:Kept w2 w2.drew:= (Kept.refl w2).drew
 generalize hwd:w2.drew=wd at hHeld KD⊢
 clear hwd
 refine UpTo.tk 0 [1,3,5,6] hHeld ?_
 try simp only [Act.put,upA,upB,upC]
 refine UpTo.tk 2 [3,5,6] hHeld ?_
 try simp only [Act.put,upA,upB,upC]
 refine UpTo.tk 4 [5,6] hHeld ?_
 try simp only [Act.put,upA,upB,upC]
 refine UpTo.nx 1 (fun K hK=> ?_)
 rw [if_pos (by rfl)]
 go_simp
 go_at_call 10
 refine (toWeb_any _ a cap l hl2 hs2 (hN.kept (k0.trans (K2.trans KD)))).mono ?_
 rintro e w3 ⟨bw,rfl,hN3,k3,hb1⟩
 refine hK.out _ _ (fun _=> HSO.out _ (KD.trans k3)) ?_
 clear hK K
 try simp only [Act.put,upA,upB,upC]
 refine UpTo.nx 3 (fun K hK=> ?_)
 rw [if_pos (by rfl)]
 go_simp
 go_at_call 11
 refine (toStateX_any _ rd ga rc gc roots sl hr2 hsl2 hst2 (hR.kept (k0.trans (K2.trans (KD.trans k3)))) (hG.kept (k0.trans (K2.trans (KD.trans k3))))).mono ?_
 rintro e w4 ⟨c1,c2,rfl,hR4,hG4,k4,hc1,hc2⟩
 refine hK.out _ _ (fun _=> HSO.out _ ((KD.trans k3).trans k4)) ?_
 clear hK K
 try simp only [Act.put,upA,upB,upC]
 refine UpTo.nx 5 (fun K hK=> ?_)
 rw [if_pos (by rfl)]
 go_simp
 go_at_call 27
 refine (specUses_any _ (some ⟨bw,0,none⟩) l.length l (some ⟨c1,0,none⟩) roots.length roots (some ⟨c2,0,none⟩) sl.length sl name hl2 hs hr2 hrs hsl2 hst2 (hN3.kept k4).nodes hG4.runs hR4).mono ?_
 rintro e w5 ⟨⟨dw,cw,ns,rfl,hT5,hd5⟩,k5⟩
 refine hK.out _ _ (fun _=> HSO.out _ (((KD.trans k3).trans k4).trans k5)) ?_
 clear hK K
 try simp only [Act.put,upA,upB,upC]
 refine UpTo.nx 6 (fun K hK=> ?_)
 go_simp
 refine hK.out _ _ (fun h=> absurd rfl h) ?_
 clear hK K
 try simp only [Act.put,upA,upB,upC]
 refine UpTo.done (by kernel_rfl) ?_
 have K3:Kept w2 w5:= ((KD.trans k3).trans k4).trans k5
 have K5:=K2.trans K3
 have HT:=hide hT5
 have HD5:=hide hd5
 have hn6:=UsesAns.len hd5
 clear KD k3 k4 k5 K3 HSO K2 b0 b1 b2 hN3 hR4 hG4 hT5 hd5 hb1 hc1 hc2 hnn
 obtain ⟨b0,b1,b2⟩:=HBox.out _ K5
 go_wp2_with fail
 refine (toWeb_in _ a cap l hl2 hs2 (hN.kept (k0.trans K5))).mono ?_
 rintro e w6 ⟨bx,rfl,hNx,k6⟩
 obtain ⟨W6,hW6⟩: ∃W6,W6=w6.alloc (.cells #[.slice (some ⟨bx,0,none⟩) l.length l.length] 37):= ⟨_,rfl⟩
 have kA:Kept w6 W6:=by rw [hW6];exact (Kept.refl _).alloc _
 have z6:W6.heap.size=w6.heap.size+1:=by rw [hW6];simp
 have K56:Kept w5 W6:=k6.trans kA
 have HNx:=hide hNx
 have hz6:=k6.size
 have hz5:=K5.size
 clear b0 b1 b2 hNx
 obtain ⟨b0,b1,b2⟩:=HBox.out _ (K5.trans K56)
 rw [hW6] at b0 b1 b2
 go_wp2_with fail
 rw [←hW6]
 rw [←hW6] at b0 b1 b2
 refine (toStateX_in _ rd ga rc gc roots sl hr2 hsl2 hst2 (hR.kept (k0.trans (K5.trans K56))) (hG.kept (k0.trans (K5.trans K56)))).mono ?_
 rintro e w7 ⟨bu,bv,mid,rfl,hRx,hGx,hm1,hm2,k7⟩
 obtain ⟨W7,hW7⟩: ∃W7,W7=w7.alloc (.cells #[.slice (some ⟨bu,0,none⟩) roots.length roots.length,.slice (some ⟨bv,0,none⟩) sl.length sl.length] 41):= ⟨_,rfl⟩
 have kB:Kept w7 W7:=by rw [hW7];exact (Kept.refl _).alloc _
 have z7:W7.heap.size=w7.heap.size+1:=by rw [hW7];simp
 have hz7:=k7.size
 have K57:Kept w5 W7:= (K56.trans k7).trans kB
 have HX:Hid (∀w',Kept W7 w'→(fun w'=> w'.cell? ⟨w6.heap.size,0,none⟩=some (.slice (some ⟨bx,0,none⟩) l.length l.length)∧w'.cell? ⟨w7.heap.size,0,none⟩=some (.slice (some ⟨bu,0,none⟩) roots.length roots.length)∧w'.cell? ⟨w7.heap.size,1,none⟩=some (.slice (some ⟨bv,0,none⟩) sl.length sl.length)∧(w'.cell? ⟨w.heap.size,0,none⟩=some (.slice a l.length cap)∧w'.cell? ⟨w.heap.size+1,0,none⟩=some (.slice rd roots.length rc)∧w'.cell? ⟨w.heap.size+1,1,none⟩=some (.slice ga sl.length gc))) w'):=fun w' kk=> by
  have q0:= (box1 (w:=w6) (w1:=w') (Kept.trans (by rw [←hW6];exact k7.trans kB) kk)).1
  have q1:=box2 (w:=w7) (v0:= .slice (some ⟨bu,0,none⟩) roots.length roots.length) (v1:= .slice (some ⟨bv,0,none⟩) sl.length sl.length) (t:=41) (w1:=w') (Kept.trans (by rw [hW7];exact Kept.refl _) kk)
  exact ⟨q0,q1.1,q1.2,HBox.out _ ((K5.trans K57).trans kk)⟩
 have HN7:=hide (HNx.out.same ((kA.trans (k7.trans kB)).same _ _))
 have HR7:=hide (hRx.same (kB.same _ _))
 have HG7:=hide (hGx.same (kB.same _ _))
 clear b0 b1 b2 hRx hGx HNx kA
 have hne: ¬w6.heap.size=w7.heap.size:=by omega
 have hw67:w6.heap.size < w7.heap.size:=by omega
 have q6:= (HX.out W7 (Kept.refl _)).1
 go_upto_region 13 with fail
 rw [←hW7]
 clear hW7 hW6 k7 kB k6
 obtain ⟨x0,x1,x2,b0,b1,b2⟩:=HX.out W7 (Kept.refl _)
 go_wp2_with fail
 refine (implUses_any W7 (some ⟨bx,0,none⟩) l.length l (some ⟨bu,0,none⟩) roots.length roots (some ⟨bv,0,none⟩) sl.length sl name hnz hl2 hs hrl (Nat.le_refl _) hrs hsl2 hst2 HN7.out.nodes HR7.out.strs HG7.out.runs (hFi.kept (k0.trans (K5.trans K57)))).mono ?_
 rintro e w8 ⟨da,ms,rfl,hS8,hd8,k8⟩
 obtain rfl:ms=ns:=UsesAns.one HD5.out hd8
 have HS8:=hide hS8
 clear hS8 hd8 x0 x1 x2 b0 b1 b2 q6
 have hml:ms.length≤maxLen:=by unfold maxLen;omega
 have z8:=k8.size
 go_wp2_with fail
 refine (eqStringS_yes _ da dw ms.length cw ms hml HS8.out.strs (HT.out.kept (K57.trans k8))).mono ?_
 rintro e w9 ⟨rfl,k9⟩
 have K79:=k8.trans k9
 have HX9:Hid (∀w',Kept w9 w'→(fun w'=> w'.cell? ⟨w6.heap.size,0,none⟩=some (.slice (some ⟨bx,0,none⟩) l.length l.length)∧w'.cell? ⟨w7.heap.size,0,none⟩=some (.slice (some ⟨bu,0,none⟩) roots.length roots.length)∧w'.cell? ⟨w7.heap.size,1,none⟩=some (.slice (some ⟨bv,0,none⟩) sl.length sl.length)∧(w'.cell? ⟨w.heap.size,0,none⟩=some (.slice a l.length cap)∧w'.cell? ⟨w.heap.size+1,0,none⟩=some (.slice rd roots.length rc)∧w'.cell? ⟨w.heap.size+1,1,none⟩=some (.slice ga sl.length gc))) w'):=fun w' kk=> HX.out w' (K79.trans kk)
 have KW9:=k0.trans ((K5.trans K57).trans K79)
 have HN9:=hide (HN7.out.same (K79.same _ _))
 have HR9:=hide (HR7.out.same (K79.same _ _))
 have HG9:=hide (HG7.out.same (K79.same _ _))
 have HS9:=hide (HS8.out.same (k9.same _ _))
 obtain ⟨x0,x1,x2,b0,b1,b2⟩:=HX9.out w9 (Kept.refl _)
 clear HN7 HR7 HG7 HS8
 go_upto_region 16 with fail
 refine UpTo.region (by kernel_rfl) (fun w'=> w'.cell? ⟨w6.heap.size,0,none⟩=some (.slice (some ⟨bx,0,none⟩) l.length l.length)∧w'.cell? ⟨w7.heap.size,0,none⟩=some (.slice (some ⟨bu,0,none⟩) roots.length roots.length)∧w'.cell? ⟨w7.heap.size,1,none⟩=some (.slice (some ⟨bv,0,none⟩) sl.length sl.length)∧(w'.cell? ⟨w.heap.size,0,none⟩=some (.slice a l.length cap)∧w'.cell? ⟨w.heap.size+1,0,none⟩=some (.slice rd roots.length rc)∧w'.cell? ⟨w.heap.size+1,1,none⟩=some (.slice ga sl.length gc))) 4 (HX9.out _ ((Kept.refl w9).drew)) (fun hHeld=> ?_)
 have KD:Kept w9 w9.drew:= (Kept.refl w9).drew
 generalize hwd:w9.drew=wd at hHeld KD⊢
 clear hwd
 refine UpTo.tk 0 [3,4] hHeld ?_
 try simp only [Act.put,upA,upB,upC]
 refine UpTo.tk 1 [2,3,4] hHeld ?_
 try simp only [Act.put,upA,upB,upC]
 refine UpTo.nx 2 (fun K hK=> ?_)
 rw [if_pos (by rfl)]
 go_simp
 go_at_call 10
 refine (toWeb_any _ a cap l hl2 hs2 (hN.kept (KW9.trans KD))).mono ?_
 rintro e wq ⟨bq,rfl,hNq,kq,hbq⟩
 refine hK.out _ _ (fun _=> HX9.out _ (KD.trans kq)) ?_
 clear hK K
 try simp only [Act.put,upA,upB,upC]
 refine UpTo.nx 3 (fun K hK=> ?_)
 rw [if_pos (by rfl)]
 go_simp
 go_at_call 14
 refine (eqWeb_yes _ (some ⟨bx,0,none⟩) (some ⟨bq,0,none⟩) l.length l.length l hl hs (HN9.out.same ((KD.trans kq).same _ _)).nodes hNq.nodes).mono ?_
 rintro e w10 ⟨rfl,k10⟩
 refine hK.out _ _ (fun _=> HX9.out _ ((KD.trans kq).trans k10)) ?_
 clear hK K
 try simp only [Act.put,upA,upB,upC]
 refine UpTo.nx 4 (fun K hK=> ?_)
 go_simp
 refine hK.out _ _ (fun h=> absurd rfl h) ?_
 clear hK K
 try simp only [Act.put,upA,upB,upC]
 refine UpTo.done (by kernel_rfl) ?_
 have K9b:= (KD.trans kq).trans k10
 have K7b:=K79.trans K9b
 clear KD kq k10 x0 x1 x2 b0 b1 b2 hNq hbq
 have HX10:Hid (∀w',Kept w10 w'→(fun w'=> w'.cell? ⟨w6.heap.size,0,none⟩=some (.slice (some ⟨bx,0,none⟩) l.length l.length)∧w'.cell? ⟨w7.heap.size,0,none⟩=some (.slice (some ⟨bu,0,none⟩) roots.length roots.length)∧w'.cell? ⟨w7.heap.size,1,none⟩=some (.slice (some ⟨bv,0,none⟩) sl.length sl.length)∧(w'.cell? ⟨w.heap.size,0,none⟩=some (.slice a l.length cap)∧w'.cell? ⟨w.heap.size+1,0,none⟩=some (.slice rd roots.length rc)∧w'.cell? ⟨w.heap.size+1,1,none⟩=some (.slice ga sl.length gc))) w'):=fun w' kk=> HX.out w' (K7b.trans kk)
 obtain ⟨x0,x1,x2,b0,b1,b2⟩:=HX10.out w10 (Kept.refl _)
 go_upto_region 18 with fail
 refine UpTo.region (by kernel_rfl) (fun w'=> w'.cell? ⟨w6.heap.size,0,none⟩=some (.slice (some ⟨bx,0,none⟩) l.length l.length)∧w'.cell? ⟨w7.heap.size,0,none⟩=some (.slice (some ⟨bu,0,none⟩) roots.length roots.length)∧w'.cell? ⟨w7.heap.size,1,none⟩=some (.slice (some ⟨bv,0,none⟩) sl.length sl.length)∧(w'.cell? ⟨w.heap.size,0,none⟩=some (.slice a l.length cap)∧w'.cell? ⟨w.heap.size+1,0,none⟩=some (.slice rd roots.length rc)∧w'.cell? ⟨w.heap.size+1,1,none⟩=some (.slice ga sl.length gc))) 4 (HX10.out _ ((Kept.refl w10).drew)) (fun hHeld=> ?_)
 have KD:Kept w10 w10.drew:= (Kept.refl w10).drew
 generalize hwd:w10.drew=wd at hHeld KD⊢
 clear hwd
 refine UpTo.tk 0 [3,4] hHeld ?_
 try simp only [Act.put,upA,upB,upC]
 refine UpTo.tk 1 [2,3,4] hHeld ?_
 try simp only [Act.put,upA,upB,upC]
 refine UpTo.nx 2 (fun K hK=> ?_)
 rw [if_pos (by rfl)]
 go_simp
 go_at_call 11
 refine (toStateX_any _ rd ga rc gc roots sl hr2 hsl2 hst2 (hR.kept ((KW9.trans K9b).trans KD)) (hG.kept ((KW9.trans K9b).trans KD))).mono ?_
 rintro e w11 ⟨d1,d2,rfl,hR11,hG11,k11,hd1,hd2⟩
 refine hK.out _ _ (fun _=> HX10.out _ (KD.trans k11)) ?_
 clear hK K
 try simp only [Act.put,upA,upB,upC]
 refine UpTo.nx 3 (fun K hK=> ?_)
 rw [if_pos (by rfl)]
 go_simp
 go_at_call 15
 refine (eqStateX_yes _ (some ⟨bu,0,none⟩) (some ⟨d1,0,none⟩) (some ⟨bv,0,none⟩) (some ⟨d2,0,none⟩) roots.length roots.length sl.length sl.length roots sl hrl hsl hsf (HR9.out.same (((K9b.trans KD).trans k11).same _ _)).strs hR11 (HG9.out.same (((K9b.trans KD).trans k11).same _ _)).runs hG11.runs).mono ?_
 rintro e w12 ⟨rfl,k12⟩
 refine hK.out _ _ (fun _=> HX10.out _ ((KD.trans k11).trans k12)) ?_
 clear hK K
 try simp only [Act.put,upA,upB,upC]
 refine UpTo.nx 4 (fun K hK=> ?_)
 go_simp
 refine hK.out _ _ (fun h=> absurd rfl h) ?_
 clear hK K
 try simp only [Act.put,upA,upB,upC]
 refine UpTo.done (by kernel_rfl) ?_
 have K9c:Kept w9 w12:= ((K9b.trans KD).trans k11).trans k12
 have K7c:=K79.trans K9c
 clear KD k11 k12 x0 x1 x2 b0 b1 b2 hR11 hG11 hd1 hd2 K9b K7b HX10
 obtain ⟨x0,x1,x2,b0,b1,b2⟩:=HX.out w12 K7c
 have HN12:=hide (HN9.out.same (K9c.same _ _))
 have HR12:=hide (HR9.out.same (K9c.same _ _))
 have HG12:=hide (HG9.out.same (K9c.same _ _))
 have HS12:=hide (HS9.out.same (K9c.same _ _))
 have z12:=K7c.size
 have K512:=K57.trans K7c
 have hcn:=HCn.out
 clear HN9 HR9 HG9 HS9 HX9 K9c
 go_wp2_with fail
 refine (markWeb_any _ w5.heap.size w6.heap.size (some ⟨bx,0,none⟩) l.length l 1 (by omega) (by omega) HN12.out).mono ?_
 rintro e w13 ⟨rfl,_,kb13⟩
 have K513:Kept w5 w13:=kb13.kept K512 (Nat.le_refl _)
 have z13:=kb13.size
 have y1:w13.cell? ⟨w7.heap.size,0,none⟩=some (.slice (some ⟨bu,0,none⟩) roots.length roots.length):= (World.cell?_of_block (w:=w12) (kb13.block _ (by show w7.heap.size < _;omega) (.inr (by show w6.heap.size≤w7.heap.size;omega)))).trans x1
 have y2:w13.cell? ⟨w7.heap.size,1,none⟩=some (.slice (some ⟨bv,0,none⟩) sl.length sl.length):= (World.cell?_of_block (w:=w12) (kb13.block _ (by show w7.heap.size < _;omega) (.inr (by show w6.heap.size≤w7.heap.size;omega)))).trans x2
 have HR13:=hide (HR12.out.same (kb13.same (l2:=W6.heap.size) (h2:=mid) (by omega)))
 have HG13:=hide (HG12.out.same (kb13.same (l2:=mid) (h2:=w7.heap.size) (by omega)))
 have HS13:=hide (HS12.out.same (kb13.same (l2:=W7.heap.size) (h2:=w8.heap.size) (by omega)))
 obtain ⟨kn,hkn⟩: ∃kn,kn=1+ (l.map cntNode).sum:= ⟨_,rfl⟩
 rw [←hkn]
 have hkn0:0 < kn:=by omega
 have hkn1:kn+roots.length+ (sl.map cntRun).sum≤33554432:=by omega
 clear hkn x0 x1 x2 b0 b1 b2 kb13 HN12 HR12 HG12 HS12
 go_wp2_with fail
 refine (markStateX_any _ W6.heap.size mid w7.heap.size (some ⟨bu,0,none⟩) (some ⟨bv,0,none⟩) roots.length sl.length roots sl kn hkn0 (by omega) hm1 hm2 (by omega) HR13.out HG13.out).mono ?_
 rintro e w14 ⟨rfl,_,_,kb14⟩
 have K514:Kept w5 w14:=kb14.kept K513 (by have:=K56.size;omega)
 have z14:=kb14.size
 have HS14:=hide (HS13.out.same (kb14.same (l2:=W7.heap.size) (h2:=w8.heap.size) (by omega)))
 obtain ⟨km,hkm⟩: ∃km,km=kn+roots.length+ (sl.map cntRun).sum:= ⟨_,rfl⟩
 rw [←hkm]
 have hkm0: ¬((km:Int) < 0):=by omega
 clear hkm y1 y2 kb14 HR13 HG13 HS13 hkn0 hkn1 hcn HCn
 go_wp2_with fail
 refine (eqStringS_yes _ da dw ms.length cw ms hml HS14.out.strs (HT.out.kept K514)).mono ?_
 rintro e w15 ⟨rfl,k15⟩
 have K515:=K514.trans k15
 have HS15:=hide (HS14.out.same (k15.same _ _))
 have z15:=k15.size
 clear HS14 k15
 go_wp2_with fail
 refine (markStringS_any _ W7.heap.size w8.heap.size da ms.length ms 1 (by omega) (by omega) HS15.out).mono ?_
 rintro e w16 ⟨rfl,hS16,kb16⟩
 have K516:Kept w5 w16:=kb16.kept K515 (by have:=K57.size;omega)
 obtain ⟨M,hM⟩: ∃M,M=1+ms.length:= ⟨_,rfl⟩
 rw [←hM]
 have hMM: ((M:Int) != (M:Int))=false:=by simp
 have hM0: ¬((M:Int) < 0):=by omega
 have HS16:=hide hS16
 have HM:=hide hM
 clear hM hS16 kb16 HS15
 go_wp2_with fail
 refine (heldStringS_yes _ da ms.length ms 1 (by omega) (by omega) HS16.out.strs).mono ?_
 rintro e w17 ⟨rfl,k17⟩
 rw [←HM.out]
 have K517:=K516.trans k17
 have HS17:=hide (HS16.out.same (k17.same _ _))
 have KW17:=k0.trans (K5.trans K517)
 have HSO17:Hid (∀w',Kept w17 w'→(fun w'=> w'.cell? ⟨w.heap.size,0,none⟩=some (.slice a l.length cap)∧w'.cell? ⟨w.heap.size+1,0,none⟩=some (.slice rd roots.length rc)∧w'.cell? ⟨w.heap.size+1,1,none⟩=some (.slice ga sl.length gc)) w'):=fun w' kk=> HBox.out w' ((K5.trans K517).trans kk)
 obtain ⟨b0,b1,b2⟩:=HSO17.out w17 (Kept.refl _)
 clear k17 HS16
 go_upto_region 33 with fail
 refine UpTo.region (by kernel_rfl) (fun w'=> w'.cell? ⟨w.heap.size,0,none⟩=some (.slice a l.length cap)∧w'.cell? ⟨w.heap.size+1,0,none⟩=some (.slice rd roots.length rc)∧w'.cell? ⟨w.heap.size+1,1,none⟩=some (.slice ga sl.length gc)) 6 (HSO17.out _ ((Kept.refl w17).drew)) (fun hHeld=> ?_)
 have KD:Kept w17 w17.drew:= (Kept.refl w17).drew
 generalize hwd:w17.drew=wd at hHeld KD⊢
 clear hwd
 refine UpTo.tk 0 [1,3,5,6] hHeld ?_
 try simp only [Act.put,upA,upB,upC]
 refine UpTo.tk 2 [3,5,6] hHeld ?_
 try simp only [Act.put,upA,upB,upC]
 refine UpTo.tk 4 [5,6] hHeld ?_
 try simp only [Act.put,upA,upB,upC]
 refine UpTo.nx 1 (fun K hK=> ?_)
 rw [if_pos (by rfl)]
 go_simp
 go_at_call 10
 refine (toWeb_any _ a cap l hl2 hs2 (hN.kept (KW17.trans KD))).mono ?_
 rintro e w18 ⟨b18,rfl,hN18,k18,hb18⟩
 refine hK.out _ _ (fun _=> HSO17.out _ (KD.trans k18)) ?_
 clear hK K
 try simp only [Act.put,upA,upB,upC]
 refine UpTo.nx 3 (fun K hK=> ?_)
 rw [if_pos (by rfl)]
 go_simp
 go_at_call 11
 refine (toStateX_any _ rd ga rc gc roots sl hr2 hsl2 hst2 (hR.kept (KW17.trans (KD.trans k18))) (hG.kept (KW17.trans (KD.trans k18)))).mono ?_
 rintro e w19 ⟨c19,d19,rfl,hR19,hG19,k19,hc19,hd19⟩
 refine hK.out _ _ (fun _=> HSO17.out _ ((KD.trans k18).trans k19)) ?_
 clear hK K
 try simp only [Act.put,upA,upB,upC]
 refine UpTo.nx 5 (fun K hK=> ?_)
 rw [if_pos (by rfl)]
 go_simp
 go_at_call 28
 refine (implUses_any _ (some ⟨b18,0,none⟩) l.length l (some ⟨c19,0,none⟩) roots.length roots (some ⟨d19,0,none⟩) sl.length sl name hnz hl2 hs hrl (Nat.le_refl _) hrs hsl2 hst2 (hN18.kept k19).nodes hR19 hG19.runs (hFi.kept (KW17.trans ((KD.trans k18).trans k19)))).mono ?_
 rintro e w20 ⟨dh,ms2,rfl,hS20,hd20,k20⟩
 obtain rfl:ms=ms2:= (UsesAns.one HD5.out hd20).symm
 refine hK.out _ _ (fun _=> HSO17.out _ (((KD.trans k18).trans k19).trans k20)) ?_
 clear hK K
 try simp only [Act.put,upA,upB,upC]
 refine UpTo.nx 6 (fun K hK=> ?_)
 go_simp
 refine hK.out _ _ (fun h=> absurd rfl h) ?_
 clear hK K
 try simp only [Act.put,upA,upB,upC]
 refine UpTo.done (by kernel_rfl) ?_
 have K17c:Kept w17 w20:= ((KD.trans k18).trans k19).trans k20
 have HS20:=hide (HS17.out.same (K17c.same _ _))
 have HU20:=hide hS20.strs
 have K520:=K517.trans K17c
 clear KD k18 k19 k20 b0 b1 b2 hN18 hb18 hR19 hG19 hc19 hd19 hS20 hd20 HS17
 go_wp2_with fail
 refine (eqStringS_yes _ dh dw ms.length cw ms hml HU20.out (HT.out.kept K520)).mono ?_
 rintro e w21 ⟨rfl,k21⟩
 have HS21:=hide (HS20.out.same (k21.same _ _))
 have K521:=K520.trans k21
 clear k21 HS20 HU20
 go_wp2_with fail
 refine (heldStringS_yes _ da ms.length ms 1 (by omega) (by omega) HS21.out.strs).mono ?_
 rintro e w22 ⟨rfl,k22⟩
 rw [←HM.out]
 have KF:=k0.trans (K5.trans (K521.trans k22))
 clear k22
 go_wp2
 go_ret
 exact ⟨rfl,KF⟩
end Go.Proofs.YteknkpfbjapoiaaGreatDoor
