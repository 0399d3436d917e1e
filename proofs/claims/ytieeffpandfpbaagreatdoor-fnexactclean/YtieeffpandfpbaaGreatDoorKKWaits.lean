import Derived.Test.YtieeffpandfpbaaGreatDoorKBSort
import Derived.Test.YtieeffpandfpbaaGreatDoorKIter
import Derived.Sort.KeysCollected
import Derived.Test.YtieeffpandfpbaaGreatDoorKRTold
import Derived.Test.YtieeffpandfpbaaGreatDoorKCResR
import Derived.Test.YtieeffpandfpbaaGreatDoorKBWaits
set_option maxRecDepth 100000
set_option maxHeartbeats 25600000
namespace Go.Proofs.YtieeffpandfpbaaGreatDoor
open Go.RowKit Go.Sort
theorem keys_names {w:World} {mo N:Nat} {D:DataW Value} (h:w.ownsMap Tryz.prog 9 asIs mo N D) {ss:List (List UInt8)} (hp:ss.Perm (strKeys D)):
  ∃nm:List ByteArray,nm.length=ss.length∧nm.map Value.string= (ss.mergeSort fun x y=> decide (x<=y)).map encStr∧AscB nm∧∀s,s∈nm↔Maps.has D (keyLit s)=true:=by
 obtain ⟨es,hD,hpw,_⟩:=h.entries Tryz.keyed
 obtain ⟨es',hD',hko⟩:=h.keysOf
 obtain rfl:es=es':=by rw [hD] at hD';simpa using hD'
 subst hD
 have hk: ∀p∈es,∃x,p.1= .string x:=fun p hp=> by obtain ⟨v,hv⟩:=hko p hp;obtain ⟨x,_,hx,_⟩:=Maps.keyOf_str Tryz.underlying9 hv;exact ⟨x,hx⟩
 have hnd: (strKeys (.map es)).Nodup:=by
  refine List.pairwise_map.2 (hpw.imp_of_mem fun {p q} hp' hq' hne e=> hne ?_)
  obtain ⟨a,ha⟩:=hk p hp'
  obtain ⟨b,hb⟩:=hk q hq'
  rw [ha,hb] at e⊢
  exact congrArg _ e
 have hmem: ∀x,x∈strKeys (.map es)↔Maps.has (.map es) (.string x)=true:=fun x=> by
  rw [Maps.has_eq,List.any_eq_true]
  show x∈es.map (fun p=> strOf p.1)↔_
  rw [List.mem_map]
  constructor
  ·rintro ⟨p,hp',rfl⟩
   obtain ⟨a,ha⟩:=hk p hp'
   exact ⟨p,hp',by rw [ha];simp [Lit.sameKey,strOf]⟩
  ·rintro ⟨p,hp',hs⟩
   obtain ⟨a,ha⟩:=hk p hp'
   rw [ha] at hs
   exact ⟨p,hp',by rw [ha];simpa [Lit.sameKey,strOf] using hs⟩
 obtain ⟨l,hl⟩: ∃l:List ByteArray,l=ss.map fun x=> (⟨x.toArray⟩:ByteArray):= ⟨_,rfl⟩
 have hlm: (l.map fun s=> s.data.toList)=ss:=by
  rw [hl,List.map_map]
  have e: ((fun s:ByteArray=> s.data.toList) ∘ fun x:List UInt8=> (⟨x.toArray⟩:ByteArray))=id:=by funext x;simp
  rw [e,List.map_id]
 have hs:=sort_names l
 rw [hlm] at hs
 have hln:l.Nodup:=by
  have h1:ss.Nodup:=hp.nodup_iff.2 hnd
  rw [<-hlm] at h1
  exact (List.pairwise_map.1 h1).imp fun {a b} hne e=> hne (by rw [e])
 obtain ⟨h1,h2⟩:=hs.asc hln
 refine ⟨_,by simp,by rw [List.map_map];rfl,h1,fun s=> ?_⟩
 rw [h2]
 show s∈l↔Maps.has (.map es) (.string s.data.toList)=true
 rw [<-hmem,<-hp.mem_iff,<-hlm]
 constructor
 ·intro h3;exact List.mem_map_of_mem h3
 ·intro h3
  obtain ⟨s',h4,h5⟩:=List.mem_map.1 h3
  have:s'=s:=by
   have h6:s'.data=s.data:=by have:=congrArg List.toArray h5;simpa using this
   cases s';cases s;simp_all
  rw [<-this];exact h4
structure ListsM (w:World) (mo:Nat) (kp:ByteArray->Prop) (ol:ByteArray->List ByteArray):Prop where
 map: ∃N D,N<=1000000∧w.ownsMap Tryz.prog 9 asIs mo N D∧(∀s:ByteArray,s.size<=maxLen->∃a c,D.atKey (keyLit s) (.held (.slice none 0 0))= .held (.slice a (ol s).length c)∧Strs w a (ol s))∧∀s:ByteArray,Maps.has D (keyLit s)=true↔kp s
 sub: ∀s,ol s≠[]->kp s
theorem ListsM.look {w w':World} {mo:Nat} {kp:ByteArray->Prop} {ol:ByteArray->List ByteArray} (h:ListsM w mo kp ol) (k:K_ w w') {s:ByteArray} (hs:s.size<=maxLen): ∃a c,(Instr.lookup 139 (.map (some mo)) (.string s) false).run Tryz.prog w'= .ok (.slice a (ol s).length c) w'∧Strs w' a (ol s):=by
 obtain ⟨N,D,_,hM,hf,_⟩:=h.map
 have hM':=map_but (S:=fun _=> False) hM (But.of_kept k) id
 obtain ⟨v,ps,hrun,hv⟩:=hM'.lookup Tryz.keyed Tryz.underlying139 (Tryz.zeroWS w') (zd:= .held (.slice none 0 0)) (zp:=[]) rfl (WideMaps.keyOf_string_mk Tryz.underlying9 hs)
 obtain ⟨a,c,h1,h2⟩:=hf s hs
 refine ⟨a,c, ?_,h2.kept k⟩
 unfold asIs at hv
 simp only [Option.some.injEq,Prod.mk.injEq] at hv
 have e2: (DataW.held v:DataW Value)= .held (.slice a (ol s).length c):=hv.1.trans h1
 cases e2
 exact hrun
def mulM (k:Nat):Nat:=k * 1000000
theorem mulM_succ (k:Nat):mulM (k+1)=mulM k+1000000:=by unfold mulM;omega
theorem mulM_le {k:Nat} (h:k<=60):mulM k<=60000000:=by unfold mulM;omega
def NeedsEnd (kp:ByteArray->Prop) (ol:ByteArray->List ByteArray) (w w':World) (e:Ending):Prop:=
 ∃(na:Option Addr) (nc:Nat) (nm:List ByteArray) (nb mb M:Nat) (need back:Nat->List Nat),e= .returned (.agg #[.slice na nm.length nc,.slice (some ⟨nb,0,none⟩) nm.length nm.length,.slice (some ⟨mb,0,none⟩) nm.length nm.length])∧AscB nm∧(∀s,s∈nm↔kp s)∧NeedV w' na nm nb mb need back∧NeedR (fun x y=> y∈ol x) nm M need back∧M<=60000000∧K_ w w'
structure ObM (u:World) (ob:Nat) (na:Option Addr) (nc n nb mb:Nat):Prop where
 c0:u.cell? ⟨ob,0,none⟩=some (.slice na n nc)
 c1:u.cell? ⟨ob,1,none⟩=some (.slice (some ⟨nb,0,none⟩) n n)
 c2:u.cell? ⟨ob,2,none⟩=some (.slice (some ⟨mb,0,none⟩) n n)
 ty:TypeAt u ob 184
theorem ObM.lt {u:World} {ob:Nat} {na:Option Addr} {nc n nb mb:Nat} (h:ObM u ob na nc n nb mb):ob < u.heap.size:=by
 obtain ⟨c,f,h1⟩:=h.ty
 exact heap_lt h1
theorem ObM.but {S:Nat->Prop} {u u':World} {ob:Nat} {na:Option Addr} {nc n nb mb:Nat} (h:ObM u ob na nc n nb mb) (k:But S u u') (hn: ¬S ob):ObM u' ob na nc n nb mb:=
 ⟨(k.cell h.lt hn).trans h.c0,(k.cell h.lt hn).trans h.c1,(k.cell h.lt hn).trans h.c2,by
  obtain ⟨c,f,h1⟩:=h.ty
  exact ⟨c,f,(k.block _ h.lt hn).trans h1⟩⟩
theorem ObM.kept {u u':World} {ob:Nat} {na:Option Addr} {nc n nb mb:Nat} (h:ObM u ob na nc n nb mb) (k:K_ u u'):ObM u' ob na nc n nb mb:=h.but (S:=fun _=> False) (But.of_kept k) id
def TabJ (w2:World) (na:Option Addr) (nc n:Nat) (a b:Act) (u:World):Prop:=
 ∃ob nb mb,b= { a with tmps:= ((((((((a.tmps.setIfInBounds 14 (.slice na n nc)).setIfInBounds 15 (.slice na n nc)).setIfInBounds 16 (.int .i64 (n:Int))).setIfInBounds 17 (.slice (some ⟨nb,0,none⟩) n n)).setIfInBounds 18 (.slice na n nc)).setIfInBounds 19 (.int .i64 (n:Int))).setIfInBounds 20 (.slice (some ⟨mb,0,none⟩) n n)).setIfInBounds 21 (.agg #[.slice na n nc,.slice (some ⟨nb,0,none⟩) n n,.slice (some ⟨mb,0,none⟩) n n])).setIfInBounds 4 (.pointer (some ⟨ob,0,none⟩))}∧
  ObM u ob na nc n nb mb∧u.rowIs nb 152 n (fun _=> .slice none 0 0)∧u.rowIs mb 152 n (fun _=> .slice none 0 0)∧nb≠mb∧w2.heap.size<=nb∧w2.heap.size<=mb∧K_ w2 u
theorem rowIs_of_made {u:World} {b n:Nat} {t:TypeId} {v:Value} (h:u.heap[b]? =some (.cells (madeCells #[v] n) t)):u.rowIs b t n (fun _=> v):=by
 obtain ⟨c,h1,h2⟩:=World.rowIs_made u v n t
 rw [heap_alloc_new] at h1
 cases h1
 exact ⟨_,h,h2⟩
theorem three_new (w2:World) (o1 o2 o3:Obj): ((((w2.alloc o1).alloc o2).alloc o3).drew).heap[w2.heap.size]? =some o1∧((((w2.alloc o1).alloc o2).alloc o3).drew).heap[w2.heap.size+1]? =some o2∧((((w2.alloc o1).alloc o2).alloc o3).drew).heap[w2.heap.size+1+1]? =some o3∧K_ w2 (((w2.alloc o1).alloc o2).alloc o3).drew:=by
 have h1:=heap_alloc_new w2 o1
 have h2:=heap_alloc_new (w2.alloc o1) o2
 have h3:=heap_alloc_new ((w2.alloc o1).alloc o2) o3
 rw [World.size_alloc] at h2
 rw [World.size_alloc,World.size_alloc] at h3
 have k3:K_ ((w2.alloc o1).alloc o2) (((w2.alloc o1).alloc o2).alloc o3).drew:= ((K_.refl _).alloc _).drew
 have k2:K_ (w2.alloc o1) (((w2.alloc o1).alloc o2).alloc o3).drew:= (((K_.refl _).alloc _).alloc _).drew
 exact ⟨(k2.block _ (heap_lt h1)).trans h1,(k3.block _ (heap_lt h2)).trans h2,h3,((((K_.refl _).alloc _).alloc _).alloc _).drew⟩
theorem tab_facts {w2 u:World} {na:Option Addr} {nc n ob nb mb:Nat} (ho:u.heap[ob]? =some (.cells #[.slice na n nc,.slice (some ⟨nb,0,none⟩) n n,.slice (some ⟨mb,0,none⟩) n n] 184)) (h1:u.heap[nb]? =some (.cells (madeCells #[.slice none 0 0] n) 152)) (h2:u.heap[mb]? =some (.cells (madeCells #[.slice none 0 0] n) 152)) (hne:nb≠mb) (hz1:w2.heap.size<=nb) (hz2:w2.heap.size<=mb) (k:K_ w2 u):
  ObM u ob na nc n nb mb∧u.rowIs nb 152 n (fun _=> .slice none 0 0)∧u.rowIs mb 152 n (fun _=> .slice none 0 0)∧nb≠mb∧w2.heap.size<=nb∧w2.heap.size<=mb∧K_ w2 u:=
 ⟨⟨by simp [World.cell?,ho],by simp [World.cell?,ho],by simp [World.cell?,ho],⟨_,_,ho⟩⟩,rowIs_of_made h1,rowIs_of_made h2,hne,hz1,hz2,k⟩
theorem Tryz.sizeNeeds : (Tryz.prog.info? 184).map (·.size)=some 3:=by kernel_rfl
theorem Tryz.infoIntC : (Tryz.prog.info? 3).map (fun i=> (i.zero,i.size,i.bytes))=some (some (.int .i64 0),1,8):=by kernel_rfl
theorem Tryz.infoInts : (Tryz.prog.info? 152).map (fun i=> (i.zero,i.size,i.bytes))=some (some (.slice none 0 0),1,24):=by kernel_rfl
theorem needsOf_any (w:World) (mo:Nat) (kp:ByteArray->Prop) (ol:ByteArray->List ByteArray) (all:List ByteArray) (hall: ∀s,kp s->s∈all) (hal:all.length<=60) (hks: ∀s,kp s->s.size<=20) (hol: ∀s,(ol s).length<=1000000) (hL:ListsM w mo kp ol):
  Calls Tryz.prog 124 #[.map (some mo)] w fun e w'=> NeedsEnd kp ol w w' e:=by
 obtain ⟨N,D,hN,hM,hf,hhas⟩:=hL.map
 have hsz:=hM.size_le
 obtain ⟨W0,hW0⟩: ∃W0,W0=w.alloc (.cells #[.slice none 0 0,.slice none 0 0,.slice none 0 0] 184):= ⟨_,rfl⟩
 have k0:K_ w W0:=by rw [hW0];exact (K_.refl _).alloc _
 have HR0:Hid (RowT W0 w.heap.size 184 3):=by rw [hW0];exact RowT.made w #[.slice none 0 0,.slice none 0 0,.slice none 0 0] 184
 have hM0:=map_but (S:=fun _=> False) hM (But.of_kept k0) id
 have HK1:=Kz (callsIn_wide.1 (Tryz.maps_Keys_165 (some mo) W0))
 have HK2:=Kz (callsIn_wide.1 (Tryz.slices_Sorted_keys_100_165 mo N D asIs W0 hM0 (by unfold maxLen;omega) (by omega)))
 have HM:=Kz hM
 have HHas:=Kz hhas
 have HL:=Kz hL
 clear hM hM0 hf hhas hL hsz
 go_enter Tryz.func124,Tryz.ntmps124
 go_upto_region 1 with fail
 rw [<-hW0]
 have hw0z:w.heap.size+1=W0.heap.size:=by rw [hW0];simp
 clear hW0
 go_wp2_with fail
 refine HK1.out.mono ?_
 rintro e w1 ⟨rfl,hw1⟩
 rw [hw1]
 clear hw1 w1
 go_wp2_with fail
 refine HK2.out.mono ?_
 rintro e w2 ⟨v,ss,rfl,hp,hrow,hnil,hb⟩
 obtain ⟨nm,hnl,hnv,hasc,hmem⟩:=keys_names HM.out hp
 rw [<-hnv,<-hnl] at hrow
 have k2:K_ W0 w2:=K_.trans ((K_.refl _).alloc _) hb
 obtain ⟨na,nc,e9,hns⟩:=owned_strs hrow
 subst e9
 have hn60:nm.length<=60:=by
  refine Nat.le_trans (List.Nodup.length_le_of_subset ?_ (fun x hx=> hall x ((HHas.out x).1 ((hmem x).1 hx)))) hal
  exact hasc.imp fun {a b} hab=> lessX_ne hab
 have HNs:=Kz hns
 have HRow:=Kz hrow
 have HK02:=Kz k2
 have HAsc:=Kz hasc
 have HMem:Hid (∀s,s∈nm↔kp s):=fun s=> (hmem s).trans (HHas.out s)
 have K2:=k0.trans k2
 clear hp hrow hnil hb hnl hnv hmem hns hasc HK1 HK2 k2 k0 HHas HM
 obtain ⟨n,hn⟩: ∃n,n=nm.length:= ⟨_,rfl⟩
 rw [<-hn] at hn60⊢
 have HNn:=Kz hn
 clear hn
 have hmk:=run_make_row' (P:=Tryz.prog) 182 152 _ _ Tryz.underlying182 Tryz.infoInts rfl .i64 .i64 n (by omega) (by omega)
 go_upto_region 2 with fail
 refine region_part (TabJ w2 na nc n) ?_ ?_
 ·go_region
  ·refine ⟨rfl,w2.heap.size+1+1,w2.heap.size,w2.heap.size+1, ?_,tab_facts (three_new w2 _ _ _).2.2.1 (three_new w2 _ _ _).1 (three_new w2 _ _ _).2.1 (by omega) (by omega) (by omega) (three_new w2 _ _ _).2.2.2⟩
   simp only [List.setIfInBounds_toArray,List.set_cons_zero,List.set_cons_succ]
  ·refine ⟨rfl,w2.heap.size+1,w2.heap.size,w2.heap.size+1+1, ?_,tab_facts (three_new w2 _ _ _).2.1 (three_new w2 _ _ _).1 (three_new w2 _ _ _).2.2.1 (by omega) (by omega) (by omega) (three_new w2 _ _ _).2.2.2⟩
   simp only [List.setIfInBounds_toArray,List.set_cons_zero,List.set_cons_succ]
  ·refine ⟨rfl,w2.heap.size+1+1,w2.heap.size+1,w2.heap.size, ?_,tab_facts (three_new w2 _ _ _).2.2.1 (three_new w2 _ _ _).2.1 (three_new w2 _ _ _).1 (by omega) (by omega) (by omega) (three_new w2 _ _ _).2.2.2⟩
   simp only [List.setIfInBounds_toArray,List.set_cons_zero,List.set_cons_succ]
  ·refine ⟨rfl,w2.heap.size+1,w2.heap.size+1+1,w2.heap.size, ?_,tab_facts (three_new w2 _ _ _).2.1 (three_new w2 _ _ _).2.2.1 (three_new w2 _ _ _).1 (by omega) (by omega) (by omega) (three_new w2 _ _ _).2.2.2⟩
   simp only [List.setIfInBounds_toArray,List.set_cons_zero,List.set_cons_succ]
  ·refine ⟨rfl,w2.heap.size,w2.heap.size+1,w2.heap.size+1+1, ?_,tab_facts (three_new w2 _ _ _).1 (three_new w2 _ _ _).2.1 (three_new w2 _ _ _).2.2.1 (by omega) (by omega) (by omega) (three_new w2 _ _ _).2.2.2⟩
   simp only [List.setIfInBounds_toArray,List.set_cons_zero,List.set_cons_succ]
  ·refine ⟨rfl,w2.heap.size,w2.heap.size+1+1,w2.heap.size+1, ?_,tab_facts (three_new w2 _ _ _).1 (three_new w2 _ _ _).2.2.1 (three_new w2 _ _ _).2.1 (by omega) (by omega) (by omega) (three_new w2 _ _ _).2.2.2⟩
   simp only [List.setIfInBounds_toArray,List.set_cons_zero,List.set_cons_succ]
 rintro b u ⟨ob,nb,mb,rfl,hOb,hr1,hr2,hne,hz1,hz2,k3⟩
 clear hmk
 simp only [List.setIfInBounds_toArray,List.set_cons_zero,List.set_cons_succ]
 have K3:=K2.trans k3
 have hu2:w2.heap.size<=u.heap.size:=k3.size
 have HNs3:=Kz (HNs.out.kept k3)
 have HT3:Hid (TabM u u.heap.size n (fun c=> if c=true then nb else mb) (fun _ _=> .slice none 0 0) (fun _ _=> [])):=by
  refine ⟨fun c=> ?_,by simpa using hne,fun c p=> World.ownsRow_nil _ _ _ _,fun c p c' p' _ x h=> (by cases h)⟩
  cases c
  ·exact hr2
  ·exact hr1
 have HO3:=Kz hOb
 have hnbu:=rowIs_lt hr1
 have hmbu:=rowIs_lt hr2
 have HP3:Hid (NeedP (fun x y=> y∈ol x) nm 0 [] 0 0 (fun _=> []) (fun _=> [])):=NeedP.start _ _ _
 have k3':=k3
 clear hr1 hr2 hOb k3
 go_wp2_with fail
 go_loopw [24] (fun x wr=> ∃(k M:Nat) (g:Bool->Nat->Value) (L:Bool->Nat->List Nat),k<=n∧x= .int .i64 (k:Int)∧M<=mulM k∧Hid (TabM wr u.heap.size n (fun c=> if c=true then nb else mb) g L)∧Hid (NeedP (fun x y=> y∈ol x) nm k [] 0 M (L true) (L false))∧Hid (ObM wr ob na nc n nb mb)∧K_ w2 wr∧u.heap.size<=wr.heap.size) (fun x _=> n - (intOf x).toNat)
 case atStart=> exact ⟨0,0,_,_,Nat.zero_le _,rfl,Nat.zero_le _,HT3,HP3,HO3,k3',Nat.le_refl _⟩
 case round=>
  clear HT3 HP3 HO3 k3'
  obtain ⟨k,M,g,L,hk,rfl,hMk,HT,HP,HO,Kr,hur⟩:=hrel
  by_cases hkl:k < n
  rotate_left
  ·obtain rfl:=HNn.out
   have hke:k=nm.length:=by omega
   subst hke
   obtain ⟨o0,o1,o2,oty⟩:=HO.out
   have hR0:=HR0.out.kept (HK02.out.trans Kr)
   obtain ⟨⟨_,x0⟩,g0⟩:=hR0.row.at (i:=0) (by omega)
   obtain ⟨⟨_,x1⟩,g1⟩:=hR0.row.at (i:=1) (by omega)
   obtain ⟨⟨_,x2⟩,g2⟩:=hR0.row.at (i:=2) (by omega)
   have HRR:=Kz hR0
   clear hR0 oty
   go_wp2_with fail
   have hR:=World.rangeAt_setCells_same wr w.heap.size 0 [.slice na nm.length nc,.slice (some ⟨nb,0,none⟩) nm.length nm.length,.slice (some ⟨mb,0,none⟩) nm.length nm.length] (HRR.out.row.there (o:=0) (m:=3) (Nat.le_refl _))
   have kf:But (fun b=> b=w.heap.size) wr (wr.setCells w.heap.size 0 [.slice na nm.length nc,.slice (some ⟨nb,0,none⟩) nm.length nm.length,.slice (some ⟨mb,0,none⟩) nm.length nm.length]):=But.set (S:=fun b=> b=w.heap.size) (But.set (S:=fun b=> b=w.heap.size) (But.set (S:=fun b=> b=w.heap.size) (But.of_kept (K_.refl wr)) (p:= ⟨w.heap.size,0,none⟩) rfl _) (p:= ⟨w.heap.size,1,none⟩) rfl _) (p:= ⟨w.heap.size,2,none⟩) rfl _
   have hzw:=HK02.out.size
   refine X_ [.slice na nm.length nc,.slice (some ⟨nb,0,none⟩) nm.length nm.length,.slice (some ⟨mb,0,none⟩) nm.length nm.length] _ Tryz.results124 rfl hR Tryz.underlying184 rfl Tryz.sizeNeeds rfl ⟨na,nc,nm,nb,mb,M,L true,L false,rfl,HAsc.out,HMem.out, ?_,HP.out.whole,Nat.le_trans hMk (mulM_le hn60),kf.kept (K2.trans Kr) (fun b e=> by rw [e];exact Nat.le_refl _)⟩
   have hstr:=kf.owns (ownsRow_kept' HRow.out Kr) (fun b e e2=> by have:= (HRow.out.lt b e).1;rw [World.size_alloc] at this;omega)
   obtain ⟨a9,c9,e9,hst9⟩:=owned_strs hstr
   simp only [Value.slice.injEq,true_and] at e9
   rw [<-e9.1] at hst9
   exact TabM.read (HT.out.but kf (fun c e=> by cases c <;> simp at e <;> omega) (fun c p b e e2=> by have:= ((HT.out.own c p).lt b e).1;omega)) hst9
  have hkn:k < nm.length:=by have:=HNn.out;omega
  obtain ⟨rb,ro,e1,hrb,hrc⟩:= (HNs.out.kept Kr) k hkn
  subst e1
  obtain ⟨s,hs⟩: ∃s,s=nm.getD k ByteArray.empty:= ⟨_,rfl⟩
  rw [<-hs] at hrc
  have hsk:nm[k]=s:=by rw [hs];simp [List.getD,hkn]
  have hkp:kp s:= (HMem.out s).1 (by rw [<-hsk];exact List.getElem_mem hkn)
  have hss:s.size<=maxLen:=by have:=hks s hkp;unfold maxLen;omega
  obtain ⟨la,lc,hlook,hlst⟩:=HL.out.look (K2.trans Kr) hss
  have HSk:=Kz hsk
  have hols:=hol s
  obtain ⟨Q,hQ⟩: ∃Q,Q=ol s:= ⟨_,rfl⟩
  rw [<-hQ] at hlook hlst hols
  have HQ:=Kz hQ
  have HLst:=Kz hlst
  have hki: (k:Int) < (n:Int):=by omega
  clear hs hsk hkp hss hQ hlst
  go_wp2_with fail
  refine (values_any wr la Q.length lc).mono ?_
  rintro e w3 ⟨rfl,hw3⟩
  have k3:K_ wr w3:=by rw [hw3];exact (K_.refl _).alloc _
  have hc3:w3.cell? ⟨wr.heap.size,0,none⟩=some (.slice la Q.length lc):=by rw [hw3];exact Xz wr #[.slice la Q.length lc] 25 0 _ rfl
  have hz3:wr.heap.size < w3.heap.size:=by rw [hw3];simp
  clear hw3 hlook hrc
  go_wp2_with fail
  refine (sorted_any w3 wr.heap.size la lc Q (by omega) hz3 hc3 (HLst.out.kept k3)).mono ?_
  rintro e w4 ⟨v4,ns,rfl,how,hsrt,k4⟩
  obtain ⟨va4,vc4,rfl⟩:=own_slice how
  have hnsl:ns.length<=1000000:=by rw [hsrt.1.length_eq];exact hols
  have HSrt:=Kz hsrt
  have HOw:=Kz how
  have HT4:=Kz (HT.out.kept (k3.trans k4))
  have HO4:=Kz (HO.out.kept (k3.trans k4))
  have HP4:=Kz (HP.out.enter ns)
  have K4:=Kr.trans (k3.trans k4)
  have hu4:u.heap.size<=w4.heap.size:=Nat.le_trans hur (k3.trans k4).size
  have hw3z:w2.heap.size<=w3.heap.size:= (Kr.trans k3).size
  clear how hsrt hc3 hz3 HT HO HP k3 k4 Kr hur HLst hols hrb
  go_wp2_with fail
  go_loopw [35] (fun x wr=> ∃(j M:Nat) (g:Bool->Nat->Value) (L:Bool->Nat->List Nat),j<=ns.length∧x= .int .i64 (j:Int)∧M<=mulM k+j∧Hid (TabM wr u.heap.size n (fun c=> if c=true then nb else mb) g L)∧Hid (NeedP (fun x y=> y∈ol x) nm k ns j M (L true) (L false))∧Hid (ObM wr ob (some ⟨rb,ro,none⟩) nc n nb mb)∧Hid (wr.ownsRow w3.heap.size 9 1 (.slice va4 ns.length vc4) ns.length (ns.map Value.string))∧K_ w2 wr∧u.heap.size<=wr.heap.size) (fun x _=> ns.length - (intOf x).toNat)
  case atStart=> exact ⟨0,M,g,L,Nat.zero_le _,rfl,by omega,HT4,HP4,HO4,HOw,K4,hu4⟩
  case round=>
   clear HT4 HP4 HO4 HOw K4 hu4 hMk
   obtain ⟨j,M,g,L,hj,rfl,hMj,HT,HP,HO,HOw,Kr,hur⟩:=hrel
   by_cases hjl:j < ns.length
   rotate_left
   ·have hje:ns.length<=j:=by omega
    have HP5:Hid (NeedP (fun x y=> y∈ol x) nm (k+1) [] 0 M (L true) (L false)):=HP.out.leave hkn hje (fun y=> by rw [HSrt.out.1.mem_iff,HQ.out,HSk.out])
    go_wp2_with fail
    go_roundw
    case rel=> exact ⟨k+1,M,g,L,by omega,by go_num,by rw [mulM_succ];omega,HT,HP5,HO,Kr,hur⟩
    case measure=> simp [intOf];omega
   obtain ⟨a9,c9,e9,hst9⟩:=owned_strs HOw.out
   simp only [Value.slice.injEq,true_and] at e9
   rw [<-e9.1] at hst9
   obtain ⟨qb,qo,e1,hqb,hqc⟩:=hst9 j hjl
   subst e1
   obtain ⟨s',hs'⟩: ∃s',s'=ns.getD j ByteArray.empty:= ⟨_,rfl⟩
   rw [<-hs'] at hqc
   have hsj:ns[j]=s':=by rw [hs'];simp [List.getD,hjl]
   have HSj:=Kz hsj
   have HBs:Hid (Calls Tryz.prog 167 #[.slice (some ⟨rb,ro,none⟩) n nc,.string s'] wr fun e w'=> FoundS nm s' e∧w'=wr):=by
    show Calls _ _ _ _ _
    rw [HNn.out]
    exact bsearch_any wr _ nc nm s' (by have:=HNn.out;omega) HAsc.out (HNs.out.kept Kr)
   have hji: (j:Int) < (ns.length:Int):=by omega
   clear e9 hst9 hs' hsj
   go_wp2_with fail
   refine HBs.out.mono ?_
   rintro e w5 ⟨⟨q,bq,rfl,hyes,hno⟩,hw5⟩
   rw [hw5]
   clear hw5 w5
   cases bq
   ·have HNo:=Kz (hno rfl)
    clear hyes hno hqc
    have HP5:Hid (NeedP (fun x y=> y∈ol x) nm k ns (j+1) M (L true) (L false)):=HP.out.skip hjl (by rw [HSj.out];exact HNo.out)
    go_wp2_with fail
    go_roundw
    case rel=> exact ⟨j+1,M,g,L,by omega,by go_num,by omega,HT,HP5,HO,HOw,Kr,hur⟩
    case measure=> simp [intOf];omega
   obtain ⟨hqn,hqe⟩:=hyes rfl
   have hq2:q < n:=by have:=HNn.out;omega
   have HQe:Hid (nm[q]=s'):=by show nm[q]=s';rw [<-hqe];simp [List.getD,hqn]
   have HNx:Hid (NeedP (fun x y=> y∈ol x) nm k ns (j+1) (M+1) (fun p=> if p=k then L true k++ [q] else L true p) (fun p=> if p=q then L false q++ [k] else L false p)):=HP.out.put ⟨HAsc.out,fun x y hxy=> (HMem.out x).2 (HL.out.sub x (fun e=> by rw [e] at hxy;cases hxy))⟩ hjl HSrt.out.2 hqn (by rw [HQe.out,HSj.out]) hkn (fun y hy=> by rw [HSrt.out.1.mem_iff,HQ.out] at hy;rw [HSk.out];exact hy)
   have hmM:=mulM_le (show k<=60 by omega)
   have hlt1:= (HP.out.len k).1
   have hlt2:= (HP.out.len q).2
   obtain ⟨ic,hc0,hc1,hc2,hc3⟩:=info_parts Tryz.infoIntC
   clear hyes hno hqe hqc
   obtain ⟨vaA,vcA,hgA⟩:=own_slice (HT.out.own true k)
   have HgA:=Kz hgA
   have rA:wr.cell? ⟨nb,k,none⟩=some (.slice vaA (L true k).length vcA):=by have h:= (HT.out.row true).cell hkl;rw [hgA] at h;exact h
   have HSOA:Hid (∀w',K_ wr w'->w'.cell? ⟨ob,1,none⟩=some (.slice (some ⟨nb,0,none⟩) n n)∧w'.cell? ⟨nb,k,none⟩=some (.slice vaA (L true k).length vcA)):=fun w' K=> ⟨(K.cell HO.out.lt).trans HO.out.c1,(K.cell (rowIs_lt (HT.out.row true))).trans rA⟩
   clear hgA rA
   go_upto_region 11 with fail
   refine Qx.rg 12 HSOA.out fun wd KD Z_=> ?_
   refine Qx.tk 0 Z_ ?_
   refine Qx.tk 1 Z_ ?_
   refine Qx.tk 2 Z_ ?_
   refine Qx.tk 3 Z_ ?_
   refine Qx.tk 4 Z_ ?_
   refine Qx.tk 5 Z_ ?_
   refine Qx.tk 6 Z_ ?_
   refine Qx.tk 7 Z_ ?_
   refine Qx.tk 8 Z_ ?_
   refine Qx.nx 9 (fun K hK=> ?_)
   go_simp
   have K5:K_ wd (wd.alloc (.cells #[.int .i64 (q:Int)] 3)):= (K_.refl _).alloc _
   have hc5: (wd.alloc (.cells #[.int .i64 (q:Int)] 3)).cell? ⟨wd.heap.size,0,none⟩=some (.int .i64 (q:Int)):=Xz wd #[.int .i64 (q:Int)] 3 0 _ rfl
   have K5b:=KD.trans K5
   refine hK.out _ _ (fun _=> HSOA.out _ K5b) ?_
   clear hK K Z_
   have HT6:=Kz (HT.out.kept K5b)
   have HO6:=Kz (HO.out.kept K5b)
   obtain ⟨eb,heb⟩: ∃eb,eb=wd.heap.size:= ⟨_,rfl⟩
   rw [<-heb] at hc5⊢
   generalize hwe:wd.alloc (.cells #[.int .i64 (q:Int)] 3)=w6 at hc5 K5b HT6 HO6⊢
   clear hwe K5 heb KD
   have hrow6:=HT6.out.own true k
   rw [HgA.out] at hrow6
   have HR6:=Kz hrow6
   have hz6:u.heap.size<=w6.heap.size:=Nat.le_trans (hur) K5b.size
   clear hrow6
   try simp only [Act.put,upA,upB,upC]
   refine Qx.nx 10 (fun K hK=> ?_)
   refine step_append_lies _ rfl (.tmp 53) (.tmp 55) 152 rfl u.heap.size 3 ic _ 1 8 Tryz.underlying152 hc0 hc1 hc2 hc3 rfl (by decide) (.slice vaA (L true k).length vcA) (L true k).length ((L true k).map natV) rfl HR6.out ⟨eb,0,none⟩ 1 1 [.int .i64 (q:Int)] rfl rfl (fun j u hu=> ?_) (fun u hu=> ?_) (by decide) (by unfold maxLen;omega) (by omega) hz6 w6.heap.size rfl ?_
   ·match j,hu with
    | 0,hu=> simp at hu;subst hu;rw [Addr.add_mid];exact hc5
    | j+1,hu=> simp at hu
   ·simp at hu;subst hu;rfl
   intro gb gc w7 ho7 hg7 hv7 hgz7
   rw [<-HgA.out] at hg7 hv7
   obtain ⟨hT8,hB8⟩:=HT6.out.put true k (x:=q) ho7 hg7 (fun y e=> by simp only [Value.ownBlock,Option.some.injEq] at e;subst e;rcases hv7 with h | h;exact .inl h;exact .inr (Nat.le_of_eq h.symm))
   have k67:But (fun b=> (g true k).ownBlock=some b) w6 w7:=But.of_grown hg7 (fun b e=> e)
   have hT7:w7.rowIs nb 152 n (g true):=rowIs_block (HT6.out.row true) (k67.block _ (rowIs_lt (HT6.out.row true)) (fun e=> type_ne (rowIs_type (HT6.out.row true)) (Yz (HT6.out.own true k) e) (by decide) rfl))
   have f7:=hT7.frozen k
   have c7:=hT7.cell hkl
   have ho7b:w7.cell? ⟨ob,1,none⟩=some (.slice (some ⟨nb,0,none⟩) n n):= (k67.cell HO6.out.lt (fun e=> type_ne HO6.out.ty (Yz (HT6.out.own true k) e) (by decide) rfl)).trans HO6.out.c1
   have HS7:Hid (w7.cell? ⟨ob,1,none⟩=some (.slice (some ⟨nb,0,none⟩) n n)∧w7.cell? ⟨nb,k,none⟩=some (.slice vaA (L true k).length vcA)):= ⟨ho7b,by rw [c7,HgA.out]⟩
   have HT8A:=Kz hT8
   have HB8A:=Kz hB8
   refine hK.out _ _ (fun _=> HS7.out) ?_
   clear hK K hT8 hB8 ho7 hg7 hv7 k67 hT7 ho7b hgz7 hc5
   have Z_:=HS7.out
   try simp only [Act.put,upA,upB,upC]
   refine Qx.tk 11 Z_ ?_
   refine Qx.nx 12 (fun K hK=> ?_)
   go_simp
   refine hK.out _ _ (fun h=> absurd rfl h) ?_
   clear hK K Z_
   try simp only [Act.put,upA,upB,upC]
   refine Qx.dn ?_
   have K56A:=Kz (But.of_kept (S:=fun y=> (g true k).ownBlock=some y∨y= (if true=true then nb else mb)) K5b)
   have HBBA:=Kz (K56A.out.trans HB8A.out)
   have HO8A:=Kz (HO6.out.but HB8A.out (fun e=> by
    rcases e with e | e
    ·exact type_ne HO6.out.ty (Yz (HT6.out.own true k) e) (by decide) rfl
    ·exact type_ne HO6.out.ty (rowIs_type (HT6.out.row true)) (by decide) e))
   generalize hw8:w7.setCell ⟨(if true=true then nb else mb),k,none⟩ (.slice (some ⟨gb,0,none⟩) ((L true k).length+1) gc)=w8A at HT8A HB8A HO8A HBBA
   have hw8b:w7.setCell ⟨nb,k,none⟩ (.slice (some ⟨gb,0,none⟩) ((L true k).length+1) gc)=w8A:=hw8
   rw [hw8b]
   clear hw8 hw8b c7 f7 HS7 HR6 hz6 HgA HSOA K56A HB8A HT6 HO6 K5b
   have hex: ∃(g2:Bool->Nat->Value) (L2:Bool->Nat->List Nat),Hid (TabM w8A u.heap.size n (fun c=> if c=true then nb else mb) g2 L2)∧Hid (L2=fun c p=> if c=true∧p=k then L true k++ [q] else L c p):= ⟨_,_,HT8A,Kz rfl⟩
   obtain ⟨g2,L2,HT2,HL2⟩:=hex
   have hlt3: (L2 false q).length<=M:=by rw [HL2.out];simpa using hlt2
   have HOwA:=Kz (HBBA.out.owns HOw.out (fun b e e2=> by
    rcases e2 with e2 | e2
    ·exact type_ne (Yz HOw.out e) (Yz (HT.out.own true k) e2) (by decide) rfl
    ·exact type_ne (Yz HOw.out e) (rowIs_type (HT.out.row true)) (by decide) e2))
   have KA:K_ w2 w8A:=HBBA.out.kept Kr (fun b e=> by
    rcases e with e | e
    ·exact Nat.le_trans hu2 ((HT.out.own true k).lt b e).1
    ·rw [e];exact hz1)
   have hurA:u.heap.size<=w8A.heap.size:=Nat.le_trans hur HBBA.out.size
   have Kr':=Kr
   clear HT8A HBBA HT HO HOw Kr hur Kr'
   obtain ⟨vaB,vcB,hgB⟩:=own_slice (HT2.out.own false q)
   have HgB:=Kz hgB
   have rB:w8A.cell? ⟨mb,q,none⟩=some (.slice vaB (L2 false q).length vcB):=by have h:= (HT2.out.row false).cell hq2;rw [hgB] at h;exact h
   have HSOB:Hid (∀w',K_ w8A w'->w'.cell? ⟨ob,2,none⟩=some (.slice (some ⟨mb,0,none⟩) n n)∧w'.cell? ⟨mb,q,none⟩=some (.slice vaB (L2 false q).length vcB)):=fun w' K=> ⟨(K.cell HO8A.out.lt).trans HO8A.out.c2,(K.cell (rowIs_lt (HT2.out.row false))).trans rB⟩
   clear hgB rB
   go_upto_region 12 with fail
   refine Qx.rg 12 HSOB.out fun wd KD Z_=> ?_
   refine Qx.tk 0 Z_ ?_
   refine Qx.tk 1 Z_ ?_
   refine Qx.tk 2 Z_ ?_
   refine Qx.tk 3 Z_ ?_
   refine Qx.tk 4 Z_ ?_
   refine Qx.tk 5 Z_ ?_
   refine Qx.tk 6 Z_ ?_
   refine Qx.tk 7 Z_ ?_
   refine Qx.tk 8 Z_ ?_
   refine Qx.nx 9 (fun K hK=> ?_)
   go_simp
   have K5:K_ wd (wd.alloc (.cells #[.int .i64 (k:Int)] 3)):= (K_.refl _).alloc _
   have hc5: (wd.alloc (.cells #[.int .i64 (k:Int)] 3)).cell? ⟨wd.heap.size,0,none⟩=some (.int .i64 (k:Int)):=Xz wd #[.int .i64 (k:Int)] 3 0 _ rfl
   have K5b:=KD.trans K5
   refine hK.out _ _ (fun _=> HSOB.out _ K5b) ?_
   clear hK K Z_
   have HT6:=Kz (HT2.out.kept K5b)
   have HO6:=Kz (HO8A.out.kept K5b)
   obtain ⟨eb,heb⟩: ∃eb,eb=wd.heap.size:= ⟨_,rfl⟩
   rw [<-heb] at hc5⊢
   generalize hwe:wd.alloc (.cells #[.int .i64 (k:Int)] 3)=w6 at hc5 K5b HT6 HO6⊢
   clear hwe K5 heb KD
   have hrow6:=HT6.out.own false q
   rw [HgB.out] at hrow6
   have HR6:=Kz hrow6
   have hz6:u.heap.size<=w6.heap.size:=Nat.le_trans (hurA) K5b.size
   clear hrow6
   try simp only [Act.put,upA,upB,upC]
   refine Qx.nx 10 (fun K hK=> ?_)
   refine step_append_lies _ rfl (.tmp 65) (.tmp 67) 152 rfl u.heap.size 3 ic _ 1 8 Tryz.underlying152 hc0 hc1 hc2 hc3 rfl (by decide) (.slice vaB (L2 false q).length vcB) (L2 false q).length ((L2 false q).map natV) rfl HR6.out ⟨eb,0,none⟩ 1 1 [.int .i64 (k:Int)] rfl rfl (fun j u hu=> ?_) (fun u hu=> ?_) (by decide) (by unfold maxLen;omega) (by omega) hz6 w6.heap.size rfl ?_
   ·match j,hu with
    | 0,hu=> simp at hu;subst hu;rw [Addr.add_mid];exact hc5
    | j+1,hu=> simp at hu
   ·simp at hu;subst hu;rfl
   intro gb gc w7 ho7 hg7 hv7 hgz7
   rw [<-HgB.out] at hg7 hv7
   obtain ⟨hT8,hB8⟩:=HT6.out.put false q (x:=k) ho7 hg7 (fun y e=> by simp only [Value.ownBlock,Option.some.injEq] at e;subst e;rcases hv7 with h | h;exact .inl h;exact .inr (Nat.le_of_eq h.symm))
   have k67:But (fun b=> (g2 false q).ownBlock=some b) w6 w7:=But.of_grown hg7 (fun b e=> e)
   have hT7:w7.rowIs mb 152 n (g2 false):=rowIs_block (HT6.out.row false) (k67.block _ (rowIs_lt (HT6.out.row false)) (fun e=> type_ne (rowIs_type (HT6.out.row false)) (Yz (HT6.out.own false q) e) (by decide) rfl))
   have f7:=hT7.frozen q
   have c7:=hT7.cell hq2
   have ho7b:w7.cell? ⟨ob,2,none⟩=some (.slice (some ⟨mb,0,none⟩) n n):= (k67.cell HO6.out.lt (fun e=> type_ne HO6.out.ty (Yz (HT6.out.own false q) e) (by decide) rfl)).trans HO6.out.c2
   have HS7:Hid (w7.cell? ⟨ob,2,none⟩=some (.slice (some ⟨mb,0,none⟩) n n)∧w7.cell? ⟨mb,q,none⟩=some (.slice vaB (L2 false q).length vcB)):= ⟨ho7b,by rw [c7,HgB.out]⟩
   have HT8B:=Kz hT8
   have HB8B:=Kz hB8
   refine hK.out _ _ (fun _=> HS7.out) ?_
   clear hK K hT8 hB8 ho7 hg7 hv7 k67 hT7 ho7b hgz7 hc5
   have Z_:=HS7.out
   try simp only [Act.put,upA,upB,upC]
   refine Qx.tk 11 Z_ ?_
   refine Qx.nx 12 (fun K hK=> ?_)
   go_simp
   refine hK.out _ _ (fun h=> absurd rfl h) ?_
   clear hK K Z_
   try simp only [Act.put,upA,upB,upC]
   refine Qx.dn ?_
   have K56B:=Kz (But.of_kept (S:=fun y=> (g2 false q).ownBlock=some y∨y= (if false=true then nb else mb)) K5b)
   have HBBB:=Kz (K56B.out.trans HB8B.out)
   have HO8B:=Kz (HO6.out.but HB8B.out (fun e=> by
    rcases e with e | e
    ·exact type_ne HO6.out.ty (Yz (HT6.out.own false q) e) (by decide) rfl
    ·exact type_ne HO6.out.ty (rowIs_type (HT6.out.row false)) (by decide) e))
   generalize hw8:w7.setCell ⟨(if false=true then nb else mb),q,none⟩ (.slice (some ⟨gb,0,none⟩) ((L2 false q).length+1) gc)=w8B at HT8B HB8B HO8B HBBB
   have hw8b:w7.setCell ⟨mb,q,none⟩ (.slice (some ⟨gb,0,none⟩) ((L2 false q).length+1) gc)=w8B:=hw8
   rw [hw8b]
   clear hw8 hw8b c7 f7 HS7 HR6 hz6 HgB HSOB K56B HB8B HT6 HO6 K5b
   have HOwB:=Kz (HBBB.out.owns HOwA.out (fun b e e2=> by
    rcases e2 with e2 | e2
    ·exact type_ne (Yz HOwA.out e) (Yz (HT2.out.own false q) e2) (by decide) rfl
    ·exact type_ne (Yz HOwA.out e) (rowIs_type (HT2.out.row false)) (by decide) e2))
   have KB:K_ w2 w8B:=HBBB.out.kept KA (fun b e=> by
    rcases e with e | e
    ·exact Nat.le_trans hu2 ((HT2.out.own false q).lt b e).1
    ·rw [e];exact hz2)
   have hurB:u.heap.size<=w8B.heap.size:=Nat.le_trans hurA HBBB.out.size
   have hex: ∃(g3:Bool->Nat->Value) (L3:Bool->Nat->List Nat),Hid (TabM w8B u.heap.size n (fun c=> if c=true then nb else mb) g3 L3)∧Hid (L3=fun c p=> if c=false∧p=q then L2 false q++ [k] else L2 c p):= ⟨_,_,HT8B,Kz rfl⟩
   obtain ⟨g3,L3,HT3,HL3⟩:=hex
   have HN3:Hid (NeedP (fun x y=> y∈ol x) nm k ns (j+1) (M+1) (L3 true) (L3 false)):=by
    have e1:L3 true=fun p=> if p=k then L true k++ [q] else L true p:=by funext p;rw [HL3.out,HL2.out];simp
    have e2:L3 false=fun p=> if p=q then L false q++ [k] else L false p:=by funext p;rw [HL3.out,HL2.out];simp
    show NeedP _ _ _ _ _ _ _ _
    rw [e1,e2]
    exact HNx.out
   clear HT8B HBBB HT2 HOwA KA hurA HNx
   go_wp2_with fail
   go_roundw
   case rel=> exact ⟨j+1,M+1,g3,L3,by omega,by go_num,by omega,HT3,HN3,HO8B,HOwB,KB,hurB⟩
   case measure=> simp [intOf];omega
open Go.RowKit
def CX (Kj:List Qq) (wz w:World) (cb:Nat) (a:Option Addr) (cap mr mt:Nat) (sl0:List Qz) (mx:Nat) (cl:ByteArray->Option CloM) (sl:List Qz):Prop:=
 ∃f kf un co,CM Kj wz w cb a cap mr mt mx cl f kf un co∧CS Kj wz cl f kf un co sl∧(∃k,Leads (ReadyX (Q_ Kj)) (doX (Q_ Kj)) (Qj sl0) (Qj sl) k)∧mx+6 * potL Kj sl<=9000
theorem CX.kept {Kj:List Qq} {wz w w':World} {cb:Nat} {a:Option Addr} {cap mr mt mx:Nat} {sl0 sl:List Qz} {cl:ByteArray->Option CloM} (h:CX Kj wz w cb a cap mr mt sl0 mx cl sl) (k:K_ w w'):CX Kj wz w' cb a cap mr mt sl0 mx cl sl:=by
 obtain ⟨f,kf,un,co,h1,h2⟩:=h
 exact ⟨f,kf,un,co,h1.kept k,h2⟩
structure PassC (Kj:List Qq) (slr sl:List Qz) (did:List ByteArray) (b:Bool):Prop where
 no:b=false->Qj sl=Qj slr∧∀s∈did,¬ReadyX (Q_ Kj) (Qj slr) s
 yes:b=true->potL Kj sl < potL Kj slr
 le:potL Kj sl<=potL Kj slr
 there: ∀s,(Qj slr s).isSome=true->(Qj sl s).isSome=true
theorem PassC.start (Kj:List Qq) (slr:List Qz):PassC Kj slr slr [] false:= ⟨fun _=> ⟨rfl,fun s hs=> (by cases hs)⟩,fun h=> (by cases h),Nat.le_refl _,fun _ h=> h⟩
theorem PassC.skip {Kj:List Qq} {slr sl:List Qz} {did:List ByteArray} {b:Bool} (h:PassC Kj slr sl did b) {s:ByteArray} (hs: ¬ReadyX (Q_ Kj) (Qj sl) s):PassC Kj slr sl (did++ [s]) b:=by
 refine ⟨fun hb=> ?_,h.yes,h.le,h.there⟩
 obtain ⟨h1,h2⟩:=h.no hb
 refine ⟨h1,fun x hx=> ?_⟩
 rcases List.mem_append.1 hx with g | g
 ·exact h2 x g
 ·rw [List.mem_singleton] at g;rw [g,<-h1];exact hs
theorem PassC.did {Kj:List Qq} {slr sl sl':List Qz} {l l':List ByteArray} {b:Bool} (h:PassC Kj slr sl l b) (hg:GoodL Kj sl) {s:ByteArray} (hs:ReadyX (Q_ Kj) (Qj sl) s) (he:Qj sl'=doX (Q_ Kj) (Qj sl) s):PassC Kj slr sl' l' true∧potL Kj sl' < potL Kj sl:=by
 have hp:potL Kj sl' < potL Kj sl:=by
  obtain ⟨r,hr,hc⟩:=hs
  unfold potL
  rw [he]
  exact (potAll_do hg.wf ⟨r,hr,hc⟩ _).2 (acts_in (hg.wf s r hr).web)
 exact ⟨⟨fun h=> (by cases h),fun _=> Nat.lt_of_lt_of_le hp h.le,Nat.le_of_lt (Nat.lt_of_lt_of_le hp h.le),fun x hx=> by rw [he];exact doX_some hs (h.there x hx)⟩,hp⟩
def AllC (Kj:List Qq) (wz:World) (cb:Nat) (a:Option Addr) (cap mr mt:Nat) (sl0:List Qz) (w':World):Prop:= ∃mx cl sl,CX Kj wz w' cb a cap mr mt sl0 mx cl sl∧AtEnd (ReadyX (Q_ Kj)) (Qj sl)
theorem cleanAll_any {Kj:List Qq} {wz w:World} {cb:Nat} {a:Option Addr} {cap mr mt mx:Nat} {cl:ByteArray->Option CloM} {sl:List Qz} (hX:CX Kj wz w cb a cap mr mt sl mx cl sl) (hok:ActsOk (Q_ Kj)) (hft: ∀y∈Kj,y.Fits) (hwl:Kj.length<=60) (hwr:Rises Kj) (hN:Nodes wz a Kj) (hFi:FinishOk wz):
  Calls Tryz.prog 51 #[.pointer (some ⟨cb,0,none⟩)] w fun e w'=> e= .returned (.tuple #[])∧AllC Kj wz cb a cap mr mt sl w':=by
 have HX:=Kz hX
 clear hX
 go_enter Tryz.func51,Tryz.ntmps51
 go_wp2
 go_loopg [2] (2 * potL Kj sl+1) (fun gg x2 wr=> ∃(b:Bool) (mxr:Nat) (clr:ByteArray->Option CloM) (slr:List Qz),x2= .bool b∧Hid (CX Kj wz wr cb a cap mr mt sl mxr clr slr)∧Hid (gg=2 * potL Kj slr+ (if b=true then 1 else 0))∧Hid (b=false->AtEnd (ReadyX (Q_ Kj)) (Qj slr)))
 case atStart=> exact ⟨true,mx,cl,sl,rfl,HX,Kz rfl,Kz (fun h=> by cases h)⟩
 case round=>
  obtain ⟨b,mxr,clr,slr,rfl,HXr,HG,HE⟩:=hrel
  cases b
  ·go_wp2_with fail
   refine bodyPost_end (results_none rfl _ _ _) rfl ?_
   exact ⟨rfl,mxr,clr,slr,HXr.out,HE.out (by trivial)⟩
  have hXr:=HXr.out
  obtain ⟨fr,kr,unr,cor,hCr,hSr,hled,hbud⟩:=hXr
  obtain ⟨N,D,hNl,hM,hf,hhas⟩:=hCr.runs
  have hsz:=hM.size_le
  have HK1:=Kz (callsIn_wide.1 (Tryz.maps_Keys_101 (some mr) wr))
  have HK2:=Kz (callsIn_wide.1 (Tryz.slices_Sorted_keys_100_101 mr N D asIs wr hM (by unfold maxLen;omega) (by omega)))
  have b2:=hCr.c2
  have zk:=hCr.row.lt
  have HM:=Kz hM
  have HHas:=Kz hhas
  have HCr:=Kz hCr
  have HSr:=Kz hSr
  clear hCr hSr hled hbud hM hf hhas hsz hNl
  go_wp2_with fail
  refine HK1.out.mono ?_
  rintro e w1 ⟨rfl,hw1⟩
  rw [hw1]
  clear hw1 w1
  go_wp2_with fail
  refine HK2.out.mono ?_
  rintro e w2 ⟨v,ss,rfl,hp,hrow,hnil,hb⟩
  obtain ⟨nm,hnl,hnv,hasc,hmem⟩:=keys_names HM.out hp
  rw [<-hnv,<-hnl] at hrow
  have k2:K_ wr w2:=K_.trans ((K_.refl _).alloc _) hb
  obtain ⟨na,nc,e9,hns⟩:=owned_strs hrow
  subst e9
  have HMem:Hid (∀s,s∈nm↔(Qj slr s).isSome=true):=fun s=> by
   rw [hmem s,HHas.out s,HSr.out.env s]
   cases clr s <;> simp
  have hn60:nm.length<=60:=by
   refine Nat.le_trans (List.Nodup.length_le_of_subset (l₂:=Kj.map (·.name)) ?_ (fun x hx=> ?_)) (by rw [List.length_map];exact hwl)
   ·exact hasc.imp fun {a b} hab=> lessX_ne hab
   ·obtain ⟨r,hr⟩:=Option.isSome_iff_exists.1 ((HMem.out x).1 hx)
    exact acts_in (HSr.out.good.wf x r hr).web
  have HRow:=Kz hrow
  have HNoC:Hid (∀b,(Value.slice na nm.length nc).ownBlock=some b->¬CMS cb mr mt clr b):=fun b hb=> HCr.out.far (by
   have:= (hrow.lt b hb).1
   rw [World.size_alloc] at this
   omega)
  have HX2:=Kz (HXr.out.kept k2)
  have HST2:Hid (CStep cb mr mt clr clr w2 w2):=CStep.kept (K_.refl _)
  clear hp hrow hnil hb hnl hnv hmem hns hasc HK1 HK2 HHas HM b2 zk
  go_wp2_with fail
  go_loopw [2,13] (fun x2 x13 wq=> ∃(k:Nat) (b:Bool) (mxq:Nat) (clq:ByteArray->Option CloM) (slq:List Qz),k<=nm.length∧x2= .bool b∧x13= .int .i64 (k:Int)∧Hid (CX Kj wz wq cb a cap mr mt sl mxq clq slq)∧Hid (CStep cb mr mt clr clq w2 wq)∧Hid (PassC Kj slr slq (nm.take k) b)) (fun _ x13 _=> nm.length - (intOf x13).toNat)
  case atStart=> exact ⟨0,false,mxr,clr,slr,Nat.zero_le _,rfl,rfl,HX2,HST2,Kz (PassC.start _ _)⟩
  case round=>
   obtain ⟨k,b,mxq,clq,slq,hk,rfl,rfl,HXq,HSTq,HPq⟩:=hrel
   by_cases hlt: (k:Int) < (nm.length:Int)
   ·have hkl:k < nm.length:=by omega
    obtain ⟨s,hs⟩: ∃s,s=nm.getD k ByteArray.empty:= ⟨_,rfl⟩
    have hcg:nm[k]=s:=by rw [hs];simp [List.getD,hkl]
    have HTk:Hid (nm.take (k+1)=nm.take k++ [s]):=by show _=_;rw [List.take_succ_eq_append_getElem hkl,hcg]
    obtain ⟨fq,kq,unq,coq,hCq,hSq,hledq,hbudq⟩:=HXq.out
    have hrq:=HSTq.out.but.owns HRow.out HNoC.out
    obtain ⟨a9,c9,e9,h9⟩:=owned_strs hrq
    simp only [Value.slice.injEq,true_and] at e9
    rw [<-e9.1] at h9
    obtain ⟨b',o,rfl,hb0,hc0⟩:=h9 k hkl
    rw [<-hs] at hc0
    have hin:=HPq.out.there s ((HMem.out s).1 (by rw [<-hcg];exact List.getElem_mem hkl))
    rw [hSq.env s] at hin
    obtain ⟨t,ht⟩: ∃t,clq s=some t:=by
     cases h:clq s with
     | none=> rw [h] at hin;cases hin
     | some t=> exact ⟨t,rfl⟩
    have HT:=Kz ht
    have HCq:=Kz hCq
    have HSq:=Kz hSq
    have HLq:=Kz hledq
    have HBq:=Kz hbudq
    have hmq:mxq<=9000:=by omega
    clear hs hcg hCq hSq hledq hbudq hrq e9 h9 hin ht
    go_wp2_with fail
    refine (cleanNext_any HCq.out HSq.out hok hft hwl hwr hN hFi s t HT.out (by omega)).mono ?_
    rintro e wn (⟨hno,rfl,kn⟩ | ⟨hcan,rfl,cln,fn,kfn,unn,con,sln,hCn,hSn,hSTn,hen⟩)
    ·have HXn:=Kz (HXq.out.kept kn)
     have HSTn:=Kz (HSTq.out.trans (CStep.kept kn))
     have HPn:Hid (PassC Kj slr slq (nm.take (k+1)) b):=by
      rw [HTk.out]
      exact HPq.out.skip (fun ⟨r,hr,hc⟩=> hno (by
       rw [HSq.out.env s,HT.out] at hr
       cases hr
       exact hc))
     clear hc0
     go_wp2_with fail
     go_roundw
     case rel=> exact ⟨k+1,b,mxq,clq,slq,by omega,rfl,by go_num,HXn,HSTn,HPn⟩
     case measure=> simp [intOf];omega
    ·have hrdy:ReadyX (Q_ Kj) (Qj slq) s:= ⟨t.r,by rw [HSq.out.env s,HT.out];rfl,hcan⟩
     obtain ⟨hPn,hpot⟩:=HPq.out.did (l':=nm.take (k+1)) HSq.out.good hrdy hen
     have HPn:=Kz hPn
     have HXn:Hid (CX Kj wz wn cb a cap mr mt sl (mxq+6) cln sln):=by
      obtain ⟨j,hj⟩:=HLq.out
      refine ⟨fn,kfn,unn,con,hCn,hSn,⟨j+1, ?_⟩, ?_⟩
      ·rw [hen];exact hj.trans (.step _ _ s 0 hrdy (.here _))
      ·have:=HBq.out;omega
     have HSTn:=Kz (HSTq.out.trans hSTn)
     clear hc0 hCn hSn hSTn hen hPn hrdy hcan hpot
     go_wp2_with fail
     go_roundw
     case rel=> exact ⟨k+1,true,mxq+6,cln,sln,by omega,rfl,by go_num,HXn,HSTn,HPn⟩
     case measure=> simp [intOf];omega
   ·have hke:k=nm.length:=by omega
    have hP:=HPq.out
    rw [hke,List.take_length] at hP
    have HP:=Kz hP
    clear hP
    go_wp2_with fail
    go_roundg (2 * potL Kj slq+ (if b=true then 1 else 0))
    case measure=>
     have h1:=HG.out
     have h2:=HP.out
     rw [if_pos (by trivial)] at h1
     cases b
     ·have:=h2.le;simp;omega
     ·have:=h2.yes rfl;simp;omega
    case rel=>
     refine ⟨b,mxq,clq,slq,rfl,HXq,Kz rfl,Kz (fun hb=> ?_)⟩
     obtain ⟨e1,e2⟩:=HP.out.no hb
     rw [e1]
     intro x hx
     obtain ⟨r,hr,hc⟩:=hx
     exact e2 x ((HMem.out x).2 (by rw [hr];rfl)) ⟨r,hr,hc⟩
section
variable {Kj : List Qq} {wz w : World} {cb : Nat} {a : Option Addr} {cap mr mt mx : Nat} {cl : ByteArray -> Option CloM} {f : ByteArray -> Value} {kf : ByteArray -> Prop} {un co : Int} {sl : List Qz}
theorem cleanResults_any (hB:CM Kj wz w cb a cap mr mt mx cl f kf un co) (hS:CS Kj wz cl f kf un co sl) (hwl:Kj.length<=1048576) (hwr:Rises Kj) (hN:Nodes wz a Kj) (ra:Option Addr) (rcap:Nat) (Kk:List ByteArray) (hrl:Kk.length<=1000) (hsz: ∀n∈Kk,n.size<=1000∧((cl n).isSome=true∨Q_ Kj n=none)) (htx: ∀n∈Kk,(resX (Q_ Kj) (Qj sl) n).text.size<=1048576) (hR:Strs w ra Kk):
  Calls Tryz.prog 70 #[.slice ra Kk.length rcap,.func (.func 103) #[.pointer (some ⟨cb,0,none⟩)] #[]] w fun e w'=> ∃a',e= .returned (.slice a' Kk.length Kk.length)∧RessIn w' w.heap.size w'.heap.size a' (Kk.map (resX (Q_ Kj) (Qj sl)))∧K_ w w':=by
 obtain ⟨R,hRx⟩: ∃R,R=resX (Q_ Kj) (Qj sl):= ⟨_,rfl⟩
 rw [<-hRx] at htx⊢
 have HRx:=Kz hRx
 have HB:=Kz hB
 have HS:=Kz hS
 have HOt:=Kz hS.opn
 have HSz:=Kz hsz
 have HTx:=Kz htx
 have HR:=Kz hR
 clear hRx hB hS hsz htx hR
 go_enter Tryz.func70,Tryz.ntmps70
 go_wp2
 go_loopw [5,12] (fun x5 x12 wr=> ∃(k:Nat) (av:Option Addr) (cv:Nat),k<=Kk.length∧x12= .int .i64 (k:Int)∧x5= .slice av k cv∧Hid (wr.ownsRow w.heap.size 79 4 (.slice av k cv) k (dResCells ((Kk.take k).map R)))∧K_ w wr) (fun _ x12 _=> Kk.length - (intOf x12).toNat)
 case atStart=> exact ⟨0,none,0,Nat.zero_le _,rfl,rfl,Kz (World.ownsRow_nil _ _ _ _),K_.refl _⟩
 case round=>
  obtain ⟨k,av,cv,hk,rfl,rfl,HO,Kr⟩:=hrel
  by_cases hlt:k < Kk.length
  rotate_left
  ·have hnk: ¬((k:Int) < (Kk.length:Int)):=by omega
   have hke:k=Kk.length:=by omega
   have HRe:Hid (Ress wr av (Kk.map R)):=by
    have h:=HO.out
    rw [hke,List.take_length] at h
    obtain ⟨a9,c9,e9,h9⟩:=owned_ress h
    simp only [Value.slice.injEq] at e9
    rw [e9.1]
    exact h9
   have hml: (Kk.map R).length=k:=by rw [List.length_map];exact hke.symm
   have HMl:=Kz hml
   have HKe:=Kz hke
   clear hlt hke hml
   go_wp2_with fail
   have hc:=copyRess_in wr av cv (Kk.map R) (by rw [List.length_map];omega) (fun c hc=> by
    obtain ⟨n,hn,rfl⟩:=List.mem_map.1 hc
    have h1:= (HSz.out n hn).1
    refine ⟨?_,HTx.out n hn⟩
    have: (R n).name=n:=by rw [HRx.out];unfold resX;cases ansOf (Q_ Kj) (Qj sl) n <;> rfl
    rw [this];omega) HRe.out
   rw [HMl.out] at hc
   refine hc.mono ?_
   rintro e w2 ⟨a2,rfl,hI,k2⟩
   have HI:=Kz hI
   clear hI hc
   go_wp2_with fail
   go_ret
   exact ⟨a2,by rw [HKe.out];rfl,HI.out.mono Kr.size (Nat.le_refl _),Kr.trans k2⟩
  have hkk: (k:Int) < (Kk.length:Int):=by omega
  obtain ⟨sb,so,e1,hsb,hsc⟩:= (HR.out.kept Kr) k hlt
  subst e1
  obtain ⟨nm,hnm⟩: ∃nm,nm=Kk.getD k ByteArray.empty:= ⟨_,rfl⟩
  rw [<-hnm] at hsc
  have hng:Kk[k]=nm:=by rw [hnm];simp [List.getD,hlt]
  have hmem:nm∈Kk:=by rw [<-hng];exact List.getElem_mem hlt
  have HNg:=Kz hng
  have HMem:=Kz hmem
  clear hnm hng hmem
  go_wp2_with fail
  refine (cleanAnswer_any (HB.out.kept Kr) HS.out hwl hwr hN nm (HSz.out nm HMem.out).1).mono ?_
  rintro e w3 ⟨⟨fl,tx,ok,rfl,hans,hopn⟩,k3⟩
  have HRes:Hid (R nm= ⟨nm,ok,fl,tx⟩):=by rw [HRx.out];exact res_said HOt.out hans (fun h=> by
   rcases (HSz.out nm HMem.out).2 with h1 | h1
   ·obtain ⟨t,ht⟩:=Option.isSome_iff_exists.1 h1
    have he:=HS.out.env nm
    rw [ht] at he
    exact ⟨t.r,he,hopn h t.r he⟩
   ·unfold ansOf at hans
    rw [h1,h] at hans
    cases hans)
  have k5:K_ w3 ((w3.alloc (.cells #[.bool fl,.string tx] 75)).alloc (.cells #[.string nm,.bool ok,.bool fl,.string tx] 79)):= ((K_.refl _).alloc _).alloc _
  have r0:=Xz w3 #[.bool fl,.string tx] 75 0 _ rfl
  have r1:=Xz w3 #[.bool fl,.string tx] 75 1 _ rfl
  simp only [Nat.zero_add] at r0 r1
  have HOw:=Kz (ownsRow_kept' HO.out (k3.trans k5))
  have hbz:w.heap.size<=((w3.alloc (.cells #[.bool fl,.string tx] 75)).alloc (.cells #[.string nm,.bool ok,.bool fl,.string tx] 79)).heap.size:= (Kr.trans (k3.trans k5)).size
  have HNw:Hid (∀j u,([.string nm,.bool ok,.bool fl,.string tx]:List Value)[j]? =some u->((w3.alloc (.cells #[.bool fl,.string tx] 75)).alloc (.cells #[.string nm,.bool ok,.bool fl,.string tx] 79)).cell? ((⟨w3.heap.size+1,0,none⟩:Addr).add j)=some u):=fun j u hu=> by have:=Xz (w3.alloc (.cells #[.bool fl,.string tx] 75)) #[.string nm,.bool ok,.bool fl,.string tx] 79 j u hu;rw [World.size_alloc] at this;rw [Addr.add_mid];exact this
  have HOne:Hid (∀u∈([.string nm,.bool ok,.bool fl,.string tx]:List Value),u.oneCell'=true):=fun u hu=> by simp only [List.mem_cons,List.not_mem_nil,or_false] at hu;rcases hu with rfl | rfl | rfl | rfl <;> rfl
  have KK:=Kz (Kr.trans (k3.trans k5))
  obtain ⟨ic,hc0,hc1,hc2,hc3⟩:=xInfo_parts Tryz.infoResult
  clear k3 k5 hans hopn hsc hsb
  go_wp2_with (at_builtin;refine wpList_append_own _ rfl (.tmp 22) (.tmp 30) 31 rfl w.heap.size 79 ic _ 4 40 Tryz.underlying31 hc0 hc1 hc2 hc3 rfl (by decide) (.slice av k cv) k (dResCells ((Kk.take k).map R)) rfl HOw.out ⟨w3.heap.size+1,0,none⟩ 1 1 [.string nm,.bool ok,.bool fl,.string tx] rfl rfl HNw.out HOne.out (by unfold maxLen;omega) (by omega) hbz ?_;intro v' w6 hown2 hgr _;have KP:=kept_of_grown KK.out (Nat.le_refl _) HOw.out hgr;have HP:=Kz hown2;obtain ⟨av2,cv2,rfl⟩:=own_slice hown2;clear hown2 hgr)
  go_roundw
  case rel=>
   refine ⟨k+1,av2,cv2,by omega,by go_num,rfl,Kz ?_,KP⟩
   rw [List.take_succ_eq_append_getElem hlt,List.map_append,List.map_cons,List.map_nil,HNg.out,HRes.out,dResCells_snoc]
   exact HP.out
  case measure=> simp [intOf];omega
end
def missL (W:Acts) (σ:Env) (l:List ByteArray):List ByteArray:=l.filter fun x=> (ansOf W σ x).isNone
def waitL (W:Acts) (σ:Env) (s:ByteArray):List ByteArray:=match σ s with
 | some r=> missL W σ (asksC W r)
 | none=> []
theorem missL_snoc (W:Acts) (σ:Env) (l:List ByteArray) (x:ByteArray):missL W σ (l++ [x])=if ansOf W σ x=none then missL W σ l++ [x] else missL W σ l:=by
 unfold missL
 rw [List.filter_append]
 cases h:ansOf W σ x <;> simp [h]
structure OutK (W:Acts) (σ:Env) (P:ByteArray->Prop) (ol:ByteArray->List ByteArray):Prop where
 yes: ∀n,P n->ol n=waitL W σ n
 no: ∀n,¬P n->ol n=[]
structure OutS (W:Acts) (σ:Env) (P:ByteArray->Prop) (s:ByteArray) (l:List ByteArray) (ol:ByteArray->List ByteArray):Prop where
 here:ol s=missL W σ l
 yes: ∀n,n≠s->P n->ol n=waitL W σ n
 no: ∀n,n≠s->¬P n->ol n=[]
theorem OutK.enter {W:Acts} {σ:Env} {P:ByteArray->Prop} {ol:ByteArray->List ByteArray} (h:OutK W σ P ol) {s:ByteArray} (hs: ¬P s):OutS W σ P s [] ol:= ⟨h.no s hs,fun n _=> h.yes n,fun n _=> h.no n⟩
theorem OutS.leave {W:Acts} {σ:Env} {P Q:ByteArray->Prop} {s:ByteArray} {l:List ByteArray} {ol:ByteArray->List ByteArray} (h:OutS W σ P s l ol) (hl:missL W σ l=waitL W σ s) (hQ: ∀n,Q n↔P n∨n=s):OutK W σ Q ol:=by
 refine ⟨fun n hn=> ?_,fun n hn=> ?_⟩
 ·by_cases e:n=s
  ·rw [e,h.here,hl]
  ·exact h.yes n e (((hQ n).1 hn).resolve_right e)
 ·by_cases e:n=s
  ·exact absurd ((hQ n).2 (.inr e)) hn
  ·exact h.no n e (fun hp=> hn ((hQ n).2 (.inl hp)))
theorem OutS.put {W:Acts} {σ:Env} {P:ByteArray->Prop} {s x:ByteArray} {l:List ByteArray} {ol:ByteArray->List ByteArray} (h:OutS W σ P s l ol) (hx:ansOf W σ x=none):OutS W σ P s (l++ [x]) (fun n=> if n=s then ol s++ [x] else ol n):=by
 refine ⟨?_,fun n e hp=> ?_,fun n e hp=> ?_⟩
 ·rw [if_pos rfl,missL_snoc,if_pos hx,h.here]
 ·rw [if_neg e];exact h.yes n e hp
 ·rw [if_neg e];exact h.no n e hp
theorem OutS.skip {W:Acts} {σ:Env} {P:ByteArray->Prop} {s x:ByteArray} {l:List ByteArray} {ol:ByteArray->List ByteArray} (h:OutS W σ P s l ol) (hx: ¬ansOf W σ x=none):OutS W σ P s (l++ [x]) ol:= ⟨by rw [missL_snoc,if_neg hx];exact h.here,h.yes,h.no⟩
def WaitsK (W:Acts) (σ:Env) (w w':World) (e:Ending):Prop:=
 ∃mo M g ol,e= .returned (.map (some mo))∧OutM w' w.heap.size mo M g ol∧(∀n,ol n=waitL W σ n)∧M<=600000∧K_ w w'
section
variable {Kj : List Qq} {wz w : World} {cb : Nat} {a : Option Addr} {cap mr mt mx : Nat} {cl : ByteArray -> Option CloM} {f : ByteArray -> Value} {kf : ByteArray -> Prop} {un co : Int} {sl : List Qz}
theorem cleanWaits_any (hC:CM Kj wz w cb a cap mr mt mx cl f kf un co) (hS:CS Kj wz cl f kf un co sl) (hok:ActsOk (Q_ Kj)) (hwl:Kj.length<=60) (hwr:Rises Kj) (hNo:Nodes wz a Kj) (hmx:mx<=9000):
  Calls Tryz.prog 104 #[.pointer (some ⟨cb,0,none⟩)] w fun e w'=> WaitsK (Q_ Kj) (Qj sl) w w' e:=by
 obtain ⟨ic,hc0,hc1,hc2,hc3⟩:=xInfo_parts Tryz.xInfoStr
 obtain ⟨N,D,hN,hM,hf,hkey⟩:=hC.turns
 have hsz:=hM.size_le
 obtain ⟨WM,hWM⟩: ∃WM,WM=w.alloc (.map #[] 0):= ⟨_,rfl⟩
 have kM:K_ w WM:=by rw [hWM];exact (K_.refl _).alloc _
 have HO0:Hid (OutM WM w.heap.size w.heap.size 0 (fun _=> .slice none 0 0) (fun _=> [])):=by rw [hWM];exact OutM.made (Nat.le_refl _)
 have zM:WM.heap.size=w.heap.size+1:=by rw [hWM];simp
 have HM:=Kz (map_but (S:=fun _=> False) hM (But.of_kept kM) id)
 have c3:WM.cell? ⟨cb,3,none⟩=some (.map (some mt)):= (hC.kept kM).c3
 have bz:cb < WM.heap.size:= (hC.kept kM).row.lt
 have mbz:mt < w.heap.size:=hM.lt
 have HC:=Kz hC
 have HS:=Kz hS
 have HF:=Kz hf
 have HKy:=Kz hkey
 clear hC hS hM hf hkey
 have hmm: (Instr.makeMap 139 none).run Tryz.prog w= .ok (.map (some w.heap.size)) (w.alloc (.map #[] 0)):=rfl
 go_enter Tryz.func104,Tryz.ntmps104
 go_upto_region 2 with fail
 clear hmm
 rw [<-hWM]
 clear hWM
 go_wp2_with (first | (at_range;refine wpList_range_own _ rfl _ 97 rfl 9 209 Tryz.keyed Tryz.underlying97 asIs mt N D rfl HM.out ?_;intro w0 hrg0 hg0 hs0))
 go_frame
 obtain ⟨ri,hri⟩: ∃ri,ri=WM.heap.size:= ⟨_,rfl⟩
 rw [<-hri] at hrg0 hs0⊢
 have K0:K_ w w0:= (But.of_grown (S:=fun _=> False) hg0 (fun b e=> by cases e)).kept kM (fun b e=> e.elim)
 have kG0:K_ WM w0:= (But.of_grown (S:=fun _=> False) hg0 (fun b e=> by cases e)).kept (K_.refl _) (fun b e=> e.elim)
 have HO1:=Kz (HO0.out.kept kG0)
 obtain ⟨mo,hmo⟩: ∃mo,mo=w.heap.size:= ⟨_,rfl⟩
 have HO1:Hid (OutM w0 w.heap.size mo 0 (fun _=> .slice none 0 0) (fun _=> [])):=by rw [hmo];exact HO1
 have hmr:mo < ri:=by omega
 have hwri:w.heap.size < ri:=by omega
 rw [<-hmo]
 have Hmo:Hid (w.heap.size<=mo):=Nat.le_of_eq hmo.symm
 clear hmo HO0 kG0 hg0 hs0 c3 hri zM kM HM
 go_loopw [4] (fun _ wr=> ∃(left:Lit->Bool) (cnt M:Nat) (g:ByteArray->Value) (ol:ByteArray->List ByteArray),wr.ranges Tryz.prog 9 asIs mt ri N D left cnt∧M+60 * cnt<=600000∧Hid (OutM wr w.heap.size mo M g ol)∧Hid (OutK (Q_ Kj) (Qj sl) (fun s=> Maps.has D (keyLit s)=true∧left (keyLit s)=false) ol)∧K_ w wr) (fun _ wr=> wr.rangeLeft mt ri)
 case atStart=> exact ⟨_,_,0,_,_,hrg0,by omega,HO1,Kz ⟨fun s h=> (by have h1:=h.1;have h2:=h.2;rw [h1] at h2;cases h2),fun _ _=> rfl⟩,K0⟩
 case round=>
  clear HO1 K0 hrg0
  obtain ⟨left,cnt,M,g,ol,hrg,hbud,HOm,HI,Kr⟩:=hrel
  go_wp2_with (first | (at_next;refine wpList_next_ranges (α:=ByteArray) (β:=Value) _ rfl _ rfl 9 Tryz.keyed asIs Value.string id (fun key kl hk=> by obtain ⟨x,hx,_⟩:=Maps.keyOf_str Tryz.underlying9 hk;exact ⟨_,hx⟩) (fun v y hv=> ⟨v,rfl⟩) mt ri N D left cnt rfl hrg ?_ ?_))
  ·intro hc0 hl0
   go_wp2
   go_ret
   refine ⟨mo,M,g,ol,rfl,HOm.out,fun n=> ?_,by omega,Kr⟩
   by_cases hh:Maps.has D (keyLit n)=true
   ·exact HI.out.yes n ⟨hh,hl0 _⟩
   ·rw [HI.out.no n (fun h=> hh h.1)]
    have h1: ¬kf n:=fun h=> hh ((HKy.out n).2 h)
    unfold waitL
    cases he:Qj sl n with
    | none=> rfl
    | some r=>
     have h2:=HS.out.env n
     rw [he] at h2
     have h3:r.Zj=0:=by
      refine Decidable.byContradiction fun hv=> h1 ((HS.out.key n).2 ?_)
      cases hc:cl n with
      | none=> rw [hc] at h2;cases h2
      | some t=> rw [hc] at h2;cases h2;exact ⟨t,rfl,hv⟩
     have h4:asksC (Q_ Kj) r=[]:=by unfold asksC;rw [if_pos (.inl h3)]
     show []=missL _ _ (asksC (Q_ Kj) r)
     rw [h4]
     rfl
  ·intro s c kl yd yp w1 cnt1 hkey hlk hv hat hrg1 hlt hg1 hs1 hen
   have hsm:s.size<=maxLen∧kl=keyLit s:=by
    obtain ⟨x',e1,e2,e3⟩:=Maps.keyOf_str Tryz.underlying9 hkey
    unfold encStr at e1
    injection e1 with e1
    subst e1
    exact ⟨by show x'.toArray.size<=maxLen;simpa using e3,by rw [e2];unfold keyLit;simp⟩
   obtain ⟨hsm,rfl⟩:=hsm
   have hcf:c=f s:=by
    have h1:=hat (.held turn0)
    rw [HF.out s hsm] at h1
    unfold asIs at hv
    simp only [Option.some.injEq,Prod.mk.injEq] at hv
    rw [<-hv.1] at h1
    injection h1 with h1
    exact h1.symm
   have hh:Maps.has D (keyLit s)=true:=Maps.has_true_of_atKey hat
   obtain ⟨t,ht,htv⟩:= (HS.out.key s).1 ((HKy.out s).1 hh)
   have htu:=HS.out.turn s
   rw [ht] at htu
   obtain ⟨u,qa,qc,hfs,hQ⟩:=htu
   obtain ⟨asks,hasks⟩: ∃asks,asks=asksC (Q_ Kj) t.r:= ⟨_,rfl⟩
   rw [<-hasks] at hfs hQ
   have henv:Qj sl s=some t.r:=by rw [HS.out.env s,ht];rfl
   have HWl:Hid (missL (Q_ Kj) (Qj sl) asks=waitL (Q_ Kj) (Qj sl) s):=by unfold waitL;rw [henv,hasks];exact rfl
   obtain ⟨hal,hasz⟩:=asksC_ok hok (HS.out.good.good t.r (env_mem henv).1)
   rw [<-hasks] at hal hasz
   have HOvA:Hid (t.r.over=true->asks=[]):=fun ho=> by rw [hasks];unfold asksC;rw [if_pos (.inr ho)]
   rw [hcf,hfs] at hen
   unfold turnV at hen
   have K1:K_ w w1:= (But.of_grown (S:=fun b=> b=ri) hg1 (fun b e=> (Option.some.inj e).symm)).kept Kr (fun b e=> by rw [e];omega)
   have HOm1:=Kz (HOm.out.but (But.of_grown (S:=fun b=> b=ri) hg1 (fun b e=> (Option.some.inj e).symm)) (by omega) (fun s' b e e2=> by rw [e2] at e;exact ranges_iter hrg (Yz (HOm.out.row s') e)))
   have HLk:=Kz hlk
   have HHas:=Kz hh
   have HQ:=Kz hQ
   have HIJ:=Kz (HI.out.enter (s:=s) (fun h=> by have h2:=h.2;rw [hlk] at h2;cases h2))
   rw [hcf,hfs]
   unfold turnV
   obtain ⟨W2,hW2⟩: ∃W2,W2=w1.alloc (.cells #[.int .i64 u,.slice qa asks.length qc,.bool t.r.over,.bool t.r.fail,.string t.r.text] 209):= ⟨_,rfl⟩
   have k2:K_ w1 W2:=by rw [hW2];exact (K_.refl _).alloc _
   have hr2:=Xz w1 #[.int .i64 u,.slice qa asks.length qc,.bool t.r.over,.bool t.r.fail,.string t.r.text] 209
   rw [<-hW2] at hr2
   have l1:W2.cell? ⟨w1.heap.size,1,none⟩=some (.slice qa asks.length qc):=hr2 1 _ rfl
   have l2:W2.cell? ⟨w1.heap.size,2,none⟩=some (.bool t.r.over):=hr2 2 _ rfl
   have lz:w1.heap.size < W2.heap.size:=by rw [hW2];simp
   have HOm2:=Kz (HOm1.out.kept k2)
   have hrg2:=ranges_but (S:=fun _=> False) hrg1 (But.of_kept k2) id id
   have K2:=K1.trans k2
   clear hfs hcf hlk hh hv hat hkey hg1 hs1 HOm HOm1 hQ ht htv hasks henv hr2
   go_upto_region 5 with fail
   rw [<-hW2]
   clear hW2 hen
   have HQQ:Hid (∀n,((Maps.has D (keyLit n)=true∧(left (keyLit n) && !(keyLit n).sameKey (keyLit s))=false)↔(Maps.has D (keyLit n)=true∧left (keyLit n)=false)∨n=s)):=fun s'=> by
    constructor
    ·rintro ⟨h1,h2⟩
     by_cases e:s'=s
     ·exact .inr e
     ·refine .inl ⟨h1, ?_⟩
      have h3: (keyLit s').sameKey (keyLit s)=false:=Maps.sameKey_ne (keyLit_ne e)
      rw [h3] at h2
      simpa using h2
    ·rintro (⟨h1,h2⟩ | rfl)
     ·exact ⟨h1,by rw [h2];rfl⟩
     ·exact ⟨HHas.out,by rw [key_same.2 rfl];simp⟩
   cases hov:t.r.over
   ·rw [hov] at l2
    clear hov
    go_wp2_with fail
    clear l1 l2
    go_loopw [24] (fun xi wq=> ∃(k M:Nat) (g:ByteArray->Value) (ol:ByteArray->List ByteArray),k<=asks.length∧xi= .int .i64 (k:Int)∧wq.ranges Tryz.prog 9 asIs mt ri N D (fun z=> left z && !z.sameKey (keyLit s)) cnt1∧M+ (asks.length - k)+60 * cnt1<=600000∧Hid (OutM wq w.heap.size mo M g ol)∧Hid (OutS (Q_ Kj) (Qj sl) (fun s=> Maps.has D (keyLit s)=true∧left (keyLit s)=false) s (asks.take k) ol)∧K_ w wq) (fun xi _=> asks.length - (intOf xi).toNat)
    case atStart=> exact ⟨0,M,g,ol,Nat.zero_le _,rfl,hrg2,by omega,HOm2,HIJ,K2⟩
    case round=>
     clear HOm2 HIJ K1 K2 k2 HI hrg2 hrg1
     obtain ⟨k,M,g,ol,hk,rfl,hrgq,hbq,HOm,HJ,Kq⟩:=hrel
     by_cases hlt2: (k:Int) < (asks.length:Int)
     ·have hkl:k < asks.length:=by omega
      obtain ⟨x,hx⟩: ∃x,x=asks.getD k ByteArray.empty:= ⟨_,rfl⟩
      obtain ⟨b,o,rfl,hb0,hcx⟩:=HQ.out k hkl
      rw [<-hx] at hcx
      have hcg:asks[k]=x:=by rw [hx];simp [List.getD,hkl]
      have HTk:Hid (asks.take (k+1)=asks.take k++ [x]):=by show _=_;rw [List.take_succ_eq_append_getElem hkl,hcg]
      have hxz:x.size<=20:=by rw [<-hcg];exact hasz _ (List.getElem_mem hkl)
      have cx:_=some (Value.string x):= ((HC.out.kw.trans Kq).cell hb0).trans hcx
      clear hcx hx hcg
      go_wp2_with fail
      refine (cleanMissing_any (HC.out.kept Kq) HS.out (by omega) hwr hNo x (by omega)).mono ?_
      rintro e w5 ⟨⟨r5,rfl,hr5⟩,k5⟩
      have K5:=Kq.trans k5
      have HR5:=Kz hr5
      have HOm5:=Kz (HOm.out.kept k5)
      have hrg5:=ranges_but (S:=fun _=> False) hrgq (But.of_kept k5) id id
      clear hr5 cx
      cases r5
      ·have HN5:Hid (OutS (Q_ Kj) (Qj sl) (fun s=> Maps.has D (keyLit s)=true∧left (keyLit s)=false) s (asks.take (k+1)) ol):=by
        rw [HTk.out]
        exact HJ.out.skip (fun h=> by have:=HR5.out.2 h;cases this)
       go_wp2_with fail
       go_roundw
       case rel=> exact ⟨k+1,M,g,ol,by omega,by go_num,hrg5,by omega,HOm5,HN5,K5⟩
       case measure=> simp [intOf];omega
      ·have HN5:Hid (OutS (Q_ Kj) (Qj sl) (fun s=> Maps.has D (keyLit s)=true∧left (keyLit s)=false) s (asks.take (k+1)) (fun n=> if n=s then ol s++ [x] else ol n)):=by
        rw [HTk.out]
        exact HJ.out.put (HR5.out.1 (by trivial))
       obtain ⟨va,vc,hg⟩:=own_slice (HOm5.out.row s)
       have Hg:=Kz hg
       have hlen: (ol s).length<=5:=by
        rw [HJ.out.here]
        unfold missL
        exact Nat.le_trans (List.length_filter_le _ _) (by rw [List.length_take];omega)
       have hlook:=HOm5.out.look hsm
       rw [hg] at hlook
       have k6:K_ w5 (w5.alloc (.cells #[.string x] 9)):= (K_.refl _).alloc _
       have HOm6:=Kz (HOm5.out.kept k6)
       have hrow6:=HOm6.out.row s
       rw [hg] at hrow6
       have HR6:=Kz hrow6
       have hz6:w.heap.size<=(w5.alloc (.cells #[.string x] 9)).heap.size:= (K5.trans k6).size
       have HNw:Hid (∀j u,([.string x]:List Value)[j]? =some u->(w5.alloc (.cells #[.string x] 9)).cell? ((⟨w5.heap.size,0,none⟩:Addr).add j)=some u):=fun j u hu=> by rw [Addr.add_mid];exact Xz w5 #[.string x] 9 j u hu
       have HOne:Hid (∀u∈([.string x]:List Value),u.oneCell'=true):=fun u hu=> by simp only [List.mem_cons,List.not_mem_nil,or_false] at hu;subst hu;rfl
       have hM6:M<=1000000:=by omega
       have hrg6:=ranges_but (S:=fun _=> False) hrg5 (But.of_kept k6) id id
       have K6:=K5.trans k6
       clear hg hrow6 k6
       go_wp2_with (at_builtin;refine wpList_append_lies _ rfl (.tmp 35) (.tmp 37) 25 rfl w.heap.size 9 ic _ 1 16 Tryz.underlying25 hc0 hc1 hc2 hc3 rfl (by decide) (.slice va (ol s).length vc) (ol s).length ((ol s).map Value.string) rfl HR6.out ⟨w5.heap.size,0,none⟩ 1 1 [.string x] rfl rfl HNw.out HOne.out (by omega) (by unfold maxLen;omega) (by omega) hz6 _ rfl ?_;intro gb gc w7 ho7 hg7 hv7 hgz7;rw [<-Hg.out] at hg7 hv7;obtain ⟨w8,hrun,hO8,hbut8⟩:=HOm6.out.put (s:=s) (x:=x) hsm ho7 hg7 (fun y e=> (by simp only [Value.ownBlock,Option.some.injEq] at e;subst e;rcases hv7 with h | h;exact .inl h;exact .inr (Nat.le_of_eq h.symm))) hM6;have HO8:=Kz hO8;have HBu:=Kz hbut8;clear hlook hO8 hbut8 ho7 hg7 hv7)
       have K8:K_ w w8:=HBu.out.kept K6 (fun b e=> by
        rcases e with e | e
        ·exact ((HOm6.out.row s).lt b e).1
        ·rw [e];exact Hmo.out)
       have hrg8:=ranges_but hrg6 HBu.out (fun e=> by
        rcases e with e | e
        ·exact ranges_map hrg6 (Yz (HOm6.out.row s) e)
        ·have:=Hmo.out;omega) (fun e=> by
        rcases e with e | e
        ·exact ranges_iter hrg6 (Yz (HOm6.out.row s) e)
        ·omega)
       go_wp2_with fail
       go_roundw
       case rel=> exact ⟨k+1,M+1,_,_,by omega,by go_num,hrg8,by omega,HO8,HN5,K8⟩
       case measure=> simp [intOf];omega
     ·have hkn:k=asks.length:=by omega
      go_wp2_with fail
      go_roundw
      case rel=>
       refine ⟨_,cnt1,M,g,ol,hrgq,by omega,HOm,Kz (HJ.out.leave (by rw [hkn,List.take_length];exact HWl.out) HQQ.out),Kq⟩
      case measure=> rw [hrgq.left_eq,hrg.left_eq];exact hlt
   ·rw [hov] at l2
    have hnil:=HOvA.out hov
    have HNil:=Kz hnil
    clear hov hnil
    go_wp2_with fail
    go_roundw
    case rel=>
     refine ⟨_,cnt1,M,g,ol,hrg2,by omega,HOm2,Kz (HIJ.out.leave (by rw [<-HNil.out];exact HWl.out) HQQ.out),K2⟩
    case measure=> rw [hrg2.left_eq,hrg.left_eq];exact hlt
end
