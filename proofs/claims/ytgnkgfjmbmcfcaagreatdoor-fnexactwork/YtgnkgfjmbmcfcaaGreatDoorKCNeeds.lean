import Derived.Test.YtgnkgfjmbmcfcaaGreatDoorKXJoin
import Derived.Test.YtgnkgfjmbmcfcaaGreatDoorKBSort
import Derived.Test.YtgnkgfjmbmcfcaaGreatDoorKIter
import Derived.Sort.KeysCollected
set_option maxRecDepth 100000
set_option maxHeartbeats 25600000
namespace Go.Proofs.YtgnkgfjmbmcfcaaGreatDoor
open Go.RowKit Go.Sort
theorem keys_names {w:World} {mo N:Nat} {D:DataW Value} (h:w.ownsMap Tryz.prog 9 asIs mo N D) {ss:List (List UInt8)} (hp:ss.Perm (strKeys D)):
  ∃nm:List ByteArray,nm.length=ss.length∧nm.map Value.string= (ss.mergeSort fun x y=> decide (x<=y)).map encStr∧AscB nm∧∀s,s∈nm↔Maps.has D (keyLit s)=true:=by
 obtain ⟨es,hD,hpw,_⟩:=h.entries Tryz.keyed
 obtain ⟨es',hD',hko⟩:=h.keysOf
 obtain rfl:es=es':=by rw [hD] at hD';simpa using hD'
 subst hD
 have hk: ∀p∈es,∃x,p.1= .string x:=fun p hp=> by obtain ⟨v,hv⟩:=hko p hp;obtain ⟨x,_,hx,_⟩:=Maps.keyOf_str Tryz.underlying9 hv;exact ⟨x,hx⟩
 have hnd: (strKeys (.map es)).Nodup:=by
  refine List.pairwise_map.2 (hpw.imp_of_mem fun {p q} hp' hq' hne e=> hne ?_)
  obtain ⟨a,ha⟩:=hk p hp'
  obtain ⟨b,hb⟩:=hk q hq'
  rw [ha,hb] at e⊢
  exact congrArg _ e
 have hmem: ∀x,x∈strKeys (.map es)↔Maps.has (.map es) (.string x)=true:=fun x=> by
  rw [Maps.has_eq,List.any_eq_true]
  show x∈es.map (fun p=> strOf p.1)↔_
  rw [List.mem_map]
  constructor
  ·rintro ⟨p,hp',rfl⟩
   obtain ⟨a,ha⟩:=hk p hp'
   exact ⟨p,hp',by rw [ha];simp [Lit.sameKey,strOf]⟩
  ·rintro ⟨p,hp',hs⟩
   obtain ⟨a,ha⟩:=hk p hp'
   rw [ha] at hs
   exact ⟨p,hp',by rw [ha];simpa [Lit.sameKey,strOf] using hs⟩
 obtain ⟨l,hl⟩: ∃l:List ByteArray,l=ss.map fun x=> (⟨x.toArray⟩:ByteArray):= ⟨_,rfl⟩
 have hlm: (l.map fun s=> s.data.toList)=ss:=by
  rw [hl,List.map_map]
  have e: ((fun s:ByteArray=> s.data.toList) ∘ fun x:List UInt8=> (⟨x.toArray⟩:ByteArray))=id:=by funext x;simp
  rw [e,List.map_id]
 have hs:=sort_names l
 rw [hlm] at hs
 have hln:l.Nodup:=by
  have h1:ss.Nodup:=hp.nodup_iff.2 hnd
  rw [<-hlm] at h1
  exact (List.pairwise_map.1 h1).imp fun {a b} hne e=> hne (by rw [e])
 obtain ⟨h1,h2⟩:=hs.asc hln
 refine ⟨_,by simp,by rw [List.map_map];rfl,h1,fun s=> ?_⟩
 rw [h2]
 show s∈l↔Maps.has (.map es) (.string s.data.toList)=true
 rw [<-hmem,<-hp.mem_iff,<-hlm]
 constructor
 ·intro h3;exact List.mem_map_of_mem h3
 ·intro h3
  obtain ⟨s',h4,h5⟩:=List.mem_map.1 h3
  have:s'=s:=by
   have h6:s'.data=s.data:=by have:=congrArg List.toArray h5;simpa using this
   cases s';cases s;simp_all
  rw [<-this];exact h4
structure ListsM (w:World) (mo:Nat) (kp:ByteArray->Prop) (ol:ByteArray->List ByteArray):Prop where
 map: ∃N D,N<=1000000∧w.ownsMap Tryz.prog 9 asIs mo N D∧(∀s:ByteArray,s.size<=maxLen->∃a c,D.atKey (keyLit s) (.held (.slice none 0 0))= .held (.slice a (ol s).length c)∧Strs w a (ol s))∧∀s:ByteArray,Maps.has D (keyLit s)=true↔kp s
 sub: ∀s,ol s≠[]->kp s
theorem ListsM.look {w w':World} {mo:Nat} {kp:ByteArray->Prop} {ol:ByteArray->List ByteArray} (h:ListsM w mo kp ol) (k:K_ w w') {s:ByteArray} (hs:s.size<=maxLen): ∃a c,(Instr.lookup 157 (.map (some mo)) (.string s) false).run Tryz.prog w'= .ok (.slice a (ol s).length c) w'∧Strs w' a (ol s):=by
 obtain ⟨N,D,_,hM,hf,_⟩:=h.map
 have hM':=map_but (S:=fun _=> False) hM (But.of_kept k) id
 obtain ⟨v,ps,hrun,hv⟩:=hM'.lookup Tryz.keyed Tryz.underlying157 (Tryz.zeroWS w') (zd:= .held (.slice none 0 0)) (zp:=[]) rfl (WideMaps.keyOf_string_mk Tryz.underlying9 hs)
 obtain ⟨a,c,h1,h2⟩:=hf s hs
 refine ⟨a,c, ?_,h2.kept k⟩
 unfold asIs at hv
 simp only [Option.some.injEq,Prod.mk.injEq] at hv
 have e2: (DataW.held v:DataW Value)= .held (.slice a (ol s).length c):=hv.1.trans h1
 cases e2
 exact hrun
def mulM (k:Nat):Nat:=k * 1000000
theorem mulM_succ (k:Nat):mulM (k+1)=mulM k+1000000:=by unfold mulM;omega
theorem mulM_le {k:Nat} (h:k<=60):mulM k<=60000000:=by unfold mulM;omega
def NeedsEnd (kp:ByteArray->Prop) (ol:ByteArray->List ByteArray) (w w':World) (e:Ending):Prop:=
 ∃(na:Option Addr) (nc:Nat) (nm:List ByteArray) (nb mb M:Nat) (need back:Nat->List Nat),e= .returned (.agg #[.slice na nm.length nc,.slice (some ⟨nb,0,none⟩) nm.length nm.length,.slice (some ⟨mb,0,none⟩) nm.length nm.length])∧AscB nm∧(∀s,s∈nm↔kp s)∧NeedV w' na nm nb mb need back∧NeedR (fun x y=> y∈ol x) nm M need back∧M<=60000000∧K_ w w'
structure ObM (u:World) (ob:Nat) (na:Option Addr) (nc n nb mb:Nat):Prop where
 c0:u.cell? ⟨ob,0,none⟩=some (.slice na n nc)
 c1:u.cell? ⟨ob,1,none⟩=some (.slice (some ⟨nb,0,none⟩) n n)
 c2:u.cell? ⟨ob,2,none⟩=some (.slice (some ⟨mb,0,none⟩) n n)
 ty:TypeAt u ob 203
theorem ObM.lt {u:World} {ob:Nat} {na:Option Addr} {nc n nb mb:Nat} (h:ObM u ob na nc n nb mb):ob < u.heap.size:=by
 obtain ⟨c,f,h1⟩:=h.ty
 exact heap_lt h1
theorem ObM.but {S:Nat->Prop} {u u':World} {ob:Nat} {na:Option Addr} {nc n nb mb:Nat} (h:ObM u ob na nc n nb mb) (k:But S u u') (hn: ¬S ob):ObM u' ob na nc n nb mb:=
 ⟨(k.cell h.lt hn).trans h.c0,(k.cell h.lt hn).trans h.c1,(k.cell h.lt hn).trans h.c2,by
  obtain ⟨c,f,h1⟩:=h.ty
  exact ⟨c,f,(k.block _ h.lt hn).trans h1⟩⟩
theorem ObM.kept {u u':World} {ob:Nat} {na:Option Addr} {nc n nb mb:Nat} (h:ObM u ob na nc n nb mb) (k:K_ u u'):ObM u' ob na nc n nb mb:=h.but (S:=fun _=> False) (But.of_kept k) id
def TabJ (w2:World) (na:Option Addr) (nc n:Nat) (a b:Act) (u:World):Prop:=
 ∃ob nb mb,b= { a with tmps:= ((((((((a.tmps.setIfInBounds 14 (.slice na n nc)).setIfInBounds 15 (.slice na n nc)).setIfInBounds 16 (.int .i64 (n:Int))).setIfInBounds 17 (.slice (some ⟨nb,0,none⟩) n n)).setIfInBounds 18 (.slice na n nc)).setIfInBounds 19 (.int .i64 (n:Int))).setIfInBounds 20 (.slice (some ⟨mb,0,none⟩) n n)).setIfInBounds 21 (.agg #[.slice na n nc,.slice (some ⟨nb,0,none⟩) n n,.slice (some ⟨mb,0,none⟩) n n])).setIfInBounds 4 (.pointer (some ⟨ob,0,none⟩))}∧
  ObM u ob na nc n nb mb∧u.rowIs nb 56 n (fun _=> .slice none 0 0)∧u.rowIs mb 56 n (fun _=> .slice none 0 0)∧nb≠mb∧w2.heap.size<=nb∧w2.heap.size<=mb∧K_ w2 u
theorem rowIs_of_made {u:World} {b n:Nat} {t:TypeId} {v:Value} (h:u.heap[b]? =some (.cells (madeCells #[v] n) t)):u.rowIs b t n (fun _=> v):=by
 obtain ⟨c,h1,h2⟩:=World.rowIs_made u v n t
 rw [heap_alloc_new] at h1
 cases h1
 exact ⟨_,h,h2⟩
theorem three_new (w2:World) (o1 o2 o3:Obj): ((((w2.alloc o1).alloc o2).alloc o3).drew).heap[w2.heap.size]? =some o1∧((((w2.alloc o1).alloc o2).alloc o3).drew).heap[w2.heap.size+1]? =some o2∧((((w2.alloc o1).alloc o2).alloc o3).drew).heap[w2.heap.size+1+1]? =some o3∧K_ w2 (((w2.alloc o1).alloc o2).alloc o3).drew:=by
 have h1:=heap_alloc_new w2 o1
 have h2:=heap_alloc_new (w2.alloc o1) o2
 have h3:=heap_alloc_new ((w2.alloc o1).alloc o2) o3
 rw [World.size_alloc] at h2
 rw [World.size_alloc,World.size_alloc] at h3
 have k3:K_ ((w2.alloc o1).alloc o2) (((w2.alloc o1).alloc o2).alloc o3).drew:= ((K_.refl _).alloc _).drew
 have k2:K_ (w2.alloc o1) (((w2.alloc o1).alloc o2).alloc o3).drew:= (((K_.refl _).alloc _).alloc _).drew
 exact ⟨(k2.block _ (heap_lt h1)).trans h1,(k3.block _ (heap_lt h2)).trans h2,h3,((((K_.refl _).alloc _).alloc _).alloc _).drew⟩
theorem tab_facts {w2 u:World} {na:Option Addr} {nc n ob nb mb:Nat} (ho:u.heap[ob]? =some (.cells #[.slice na n nc,.slice (some ⟨nb,0,none⟩) n n,.slice (some ⟨mb,0,none⟩) n n] 203)) (h1:u.heap[nb]? =some (.cells (madeCells #[.slice none 0 0] n) 56)) (h2:u.heap[mb]? =some (.cells (madeCells #[.slice none 0 0] n) 56)) (hne:nb≠mb) (hz1:w2.heap.size<=nb) (hz2:w2.heap.size<=mb) (k:K_ w2 u):
  ObM u ob na nc n nb mb∧u.rowIs nb 56 n (fun _=> .slice none 0 0)∧u.rowIs mb 56 n (fun _=> .slice none 0 0)∧nb≠mb∧w2.heap.size<=nb∧w2.heap.size<=mb∧K_ w2 u:=
 ⟨⟨by simp [World.cell?,ho],by simp [World.cell?,ho],by simp [World.cell?,ho],⟨_,_,ho⟩⟩,rowIs_of_made h1,rowIs_of_made h2,hne,hz1,hz2,k⟩
theorem Tryz.sizeNeeds : (Tryz.prog.info? 203).map (·.size)=some 3:=by kernel_rfl
theorem Tryz.infoIntC : (Tryz.prog.info? 3).map (fun i=> (i.zero,i.size,i.bytes))=some (some (.int .i64 0),1,8):=by kernel_rfl
theorem Tryz.infoInts : (Tryz.prog.info? 56).map (fun i=> (i.zero,i.size,i.bytes))=some (some (.slice none 0 0),1,24):=by kernel_rfl
theorem needsOf_any (w:World) (mo:Nat) (kp:ByteArray->Prop) (ol:ByteArray->List ByteArray) (all:List ByteArray) (hall: ∀s,kp s->s∈all) (hal:all.length<=60) (hks: ∀s,kp s->s.size<=20) (hol: ∀s,(ol s).length<=1000000) (hL:ListsM w mo kp ol):
  Calls Tryz.prog 132 #[.map (some mo)] w fun e w'=> NeedsEnd kp ol w w' e:=by
 obtain ⟨N,D,hN,hM,hf,hhas⟩:=hL.map
 have hsz:=hM.size_le
 obtain ⟨W0,hW0⟩: ∃W0,W0=w.alloc (.cells #[.slice none 0 0,.slice none 0 0,.slice none 0 0] 203):= ⟨_,rfl⟩
 have k0:K_ w W0:=by rw [hW0];exact (K_.refl _).alloc _
 have HR0:Hid (RowT W0 w.heap.size 203 3):=by rw [hW0];exact RowT.made w #[.slice none 0 0,.slice none 0 0,.slice none 0 0] 203
 have hM0:=map_but (S:=fun _=> False) hM (But.of_kept k0) id
 have HK1:=Kz (callsIn_wide.1 (Tryz.maps_Keys_162 (some mo) W0))
 have HK2:=Kz (callsIn_wide.1 (Tryz.slices_Sorted_keys_161_162 mo N D asIs W0 hM0 (by unfold maxLen;omega) (by omega)))
 have HM:=Kz hM
 have HHas:=Kz hhas
 have HL:=Kz hL
 clear hM hM0 hf hhas hL hsz
 go_enter Tryz.func132,Tryz.ntmps132
 go_upto_region 1 with fail
 rw [<-hW0]
 have hw0z:w.heap.size+1=W0.heap.size:=by rw [hW0];simp
 clear hW0
 go_wp2_with fail
 refine HK1.out.mono ?_
 rintro e w1 ⟨rfl,hw1⟩
 rw [hw1]
 clear hw1 w1
 go_wp2_with fail
 refine HK2.out.mono ?_
 rintro e w2 ⟨v,ss,rfl,hp,hrow,hnil,hb⟩
 obtain ⟨nm,hnl,hnv,hasc,hmem⟩:=keys_names HM.out hp
 rw [<-hnv,<-hnl] at hrow
 have k2:K_ W0 w2:=K_.trans ((K_.refl _).alloc _) hb
 obtain ⟨na,nc,e9,hns⟩:=owned_strs hrow
 subst e9
 have hn60:nm.length<=60:=by
  refine Nat.le_trans (List.Nodup.length_le_of_subset ?_ (fun x hx=> hall x ((HHas.out x).1 ((hmem x).1 hx)))) hal
  exact hasc.imp fun {a b} hab=> lessX_ne hab
 have HNs:=Kz hns
 have HRow:=Kz hrow
 have HK02:=Kz k2
 have HAsc:=Kz hasc
 have HMem:Hid (∀s,s∈nm↔kp s):=fun s=> (hmem s).trans (HHas.out s)
 have K2:=k0.trans k2
 clear hp hrow hnil hb hnl hnv hmem hns hasc HK1 HK2 k2 k0 HHas HM
 obtain ⟨n,hn⟩: ∃n,n=nm.length:= ⟨_,rfl⟩
 rw [<-hn] at hn60⊢
 have HNn:=Kz hn
 clear hn
 have hmk:=run_make_row' (P:=Tryz.prog) 201 56 _ _ Tryz.underlying201 Tryz.infoInts rfl .i64 .i64 n (by omega) (by omega)
 go_upto_region 2 with fail
 refine region_part (TabJ w2 na nc n) ?_ ?_
 ·go_region
  ·refine ⟨rfl,w2.heap.size+1+1,w2.heap.size,w2.heap.size+1, ?_,tab_facts (three_new w2 _ _ _).2.2.1 (three_new w2 _ _ _).1 (three_new w2 _ _ _).2.1 (by omega) (by omega) (by omega) (three_new w2 _ _ _).2.2.2⟩
   simp only [List.setIfInBounds_toArray,List.set_cons_zero,List.set_cons_succ]
  ·refine ⟨rfl,w2.heap.size+1,w2.heap.size,w2.heap.size+1+1, ?_,tab_facts (three_new w2 _ _ _).2.1 (three_new w2 _ _ _).1 (three_new w2 _ _ _).2.2.1 (by omega) (by omega) (by omega) (three_new w2 _ _ _).2.2.2⟩
   simp only [List.setIfInBounds_toArray,List.set_cons_zero,List.set_cons_succ]
  ·refine ⟨rfl,w2.heap.size+1+1,w2.heap.size+1,w2.heap.size, ?_,tab_facts (three_new w2 _ _ _).2.2.1 (three_new w2 _ _ _).2.1 (three_new w2 _ _ _).1 (by omega) (by omega) (by omega) (three_new w2 _ _ _).2.2.2⟩
   simp only [List.setIfInBounds_toArray,List.set_cons_zero,List.set_cons_succ]
  ·refine ⟨rfl,w2.heap.size+1,w2.heap.size+1+1,w2.heap.size, ?_,tab_facts (three_new w2 _ _ _).2.1 (three_new w2 _ _ _).2.2.1 (three_new w2 _ _ _).1 (by omega) (by omega) (by omega) (three_new w2 _ _ _).2.2.2⟩
   simp only [List.setIfInBounds_toArray,List.set_cons_zero,List.set_cons_succ]
  ·refine ⟨rfl,w2.heap.size,w2.heap.size+1,w2.heap.size+1+1, ?_,tab_facts (three_new w2 _ _ _).1 (three_new w2 _ _ _).2.1 (three_new w2 _ _ _).2.2.1 (by omega) (by omega) (by omega) (three_new w2 _ _ _).2.2.2⟩
   simp only [List.setIfInBounds_toArray,List.set_cons_zero,List.set_cons_succ]
  ·refine ⟨rfl,w2.heap.size,w2.heap.size+1+1,w2.heap.size+1, ?_,tab_facts (three_new w2 _ _ _).1 (three_new w2 _ _ _).2.2.1 (three_new w2 _ _ _).2.1 (by omega) (by omega) (by omega) (three_new w2 _ _ _).2.2.2⟩
   simp only [List.setIfInBounds_toArray,List.set_cons_zero,List.set_cons_succ]
 rintro b u ⟨ob,nb,mb,rfl,hOb,hr1,hr2,hne,hz1,hz2,k3⟩
 clear hmk
 simp only [List.setIfInBounds_toArray,List.set_cons_zero,List.set_cons_succ]
 have K3:=K2.trans k3
 have hu2:w2.heap.size<=u.heap.size:=k3.size
 have HNs3:=Kz (HNs.out.kept k3)
 have HT3:Hid (TabM u u.heap.size n (fun c=> if c=true then nb else mb) (fun _ _=> .slice none 0 0) (fun _ _=> [])):=by
  refine ⟨fun c=> ?_,by simpa using hne,fun c p=> World.ownsRow_nil _ _ _ _,fun c p c' p' _ x h=> (by cases h)⟩
  cases c
  ·exact hr2
  ·exact hr1
 have HO3:=Kz hOb
 have hnbu:=rowIs_lt hr1
 have hmbu:=rowIs_lt hr2
 have HP3:Hid (NeedP (fun x y=> y∈ol x) nm 0 [] 0 0 (fun _=> []) (fun _=> [])):=NeedP.start _ _ _
 have k3':=k3
 clear hr1 hr2 hOb k3
 go_wp2_with fail
 go_loopw [24] (fun x wr=> ∃(k M:Nat) (g:Bool->Nat->Value) (L:Bool->Nat->List Nat),k<=n∧x= .int .i64 (k:Int)∧M<=mulM k∧Hid (TabM wr u.heap.size n (fun c=> if c=true then nb else mb) g L)∧Hid (NeedP (fun x y=> y∈ol x) nm k [] 0 M (L true) (L false))∧Hid (ObM wr ob na nc n nb mb)∧K_ w2 wr∧u.heap.size<=wr.heap.size) (fun x _=> n - (intOf x).toNat)
 case atStart=> exact ⟨0,0,_,_,Nat.zero_le _,rfl,Nat.zero_le _,HT3,HP3,HO3,k3',Nat.le_refl _⟩
 case round=>
  clear HT3 HP3 HO3 k3'
  obtain ⟨k,M,g,L,hk,rfl,hMk,HT,HP,HO,Kr,hur⟩:=hrel
  by_cases hkl:k < n
  rotate_left
  ·obtain rfl:=HNn.out
   have hke:k=nm.length:=by omega
   subst hke
   obtain ⟨o0,o1,o2,oty⟩:=HO.out
   have hR0:=HR0.out.kept (HK02.out.trans Kr)
   obtain ⟨⟨_,x0⟩,g0⟩:=hR0.row.at (i:=0) (by omega)
   obtain ⟨⟨_,x1⟩,g1⟩:=hR0.row.at (i:=1) (by omega)
   obtain ⟨⟨_,x2⟩,g2⟩:=hR0.row.at (i:=2) (by omega)
   have HRR:=Kz hR0
   clear hR0 oty
   go_wp2_with fail
   have hR:=World.rangeAt_setCells_same wr w.heap.size 0 [.slice na nm.length nc,.slice (some ⟨nb,0,none⟩) nm.length nm.length,.slice (some ⟨mb,0,none⟩) nm.length nm.length] (HRR.out.row.there (o:=0) (m:=3) (Nat.le_refl _))
   have kf:But (fun b=> b=w.heap.size) wr (wr.setCells w.heap.size 0 [.slice na nm.length nc,.slice (some ⟨nb,0,none⟩) nm.length nm.length,.slice (some ⟨mb,0,none⟩) nm.length nm.length]):=But.set (S:=fun b=> b=w.heap.size) (But.set (S:=fun b=> b=w.heap.size) (But.set (S:=fun b=> b=w.heap.size) (But.of_kept (K_.refl wr)) (p:= ⟨w.heap.size,0,none⟩) rfl _) (p:= ⟨w.heap.size,1,none⟩) rfl _) (p:= ⟨w.heap.size,2,none⟩) rfl _
   have hzw:=HK02.out.size
   refine X_ [.slice na nm.length nc,.slice (some ⟨nb,0,none⟩) nm.length nm.length,.slice (some ⟨mb,0,none⟩) nm.length nm.length] _ Tryz.results132 rfl hR Tryz.underlying203 rfl Tryz.sizeNeeds rfl ⟨na,nc,nm,nb,mb,M,L true,L false,rfl,HAsc.out,HMem.out, ?_,HP.out.whole,Nat.le_trans hMk (mulM_le hn60),kf.kept (K2.trans Kr) (fun b e=> by rw [e];exact Nat.le_refl _)⟩
   have hstr:=kf.owns (ownsRow_kept' HRow.out Kr) (fun b e e2=> by have:= (HRow.out.lt b e).1;rw [World.size_alloc] at this;omega)
   obtain ⟨a9,c9,e9,hst9⟩:=owned_strs hstr
   simp only [Value.slice.injEq,true_and] at e9
   rw [<-e9.1] at hst9
   exact TabM.read (HT.out.but kf (fun c e=> by cases c <;> simp at e <;> omega) (fun c p b e e2=> by have:= ((HT.out.own c p).lt b e).1;omega)) hst9
  have hkn:k < nm.length:=by have:=HNn.out;omega
  obtain ⟨rb,ro,e1,hrb,hrc⟩:= (HNs.out.kept Kr) k hkn
  subst e1
  obtain ⟨s,hs⟩: ∃s,s=nm.getD k ByteArray.empty:= ⟨_,rfl⟩
  rw [<-hs] at hrc
  have hsk:nm[k]=s:=by rw [hs];simp [List.getD,hkn]
  have hkp:kp s:= (HMem.out s).1 (by rw [<-hsk];exact List.getElem_mem hkn)
  have hss:s.size<=maxLen:=by have:=hks s hkp;unfold maxLen;omega
  obtain ⟨la,lc,hlook,hlst⟩:=HL.out.look (K2.trans Kr) hss
  have HSk:=Kz hsk
  have hols:=hol s
  obtain ⟨Q,hQ⟩: ∃Q,Q=ol s:= ⟨_,rfl⟩
  rw [<-hQ] at hlook hlst hols
  have HQ:=Kz hQ
  have HLst:=Kz hlst
  have hki: (k:Int) < (n:Int):=by omega
  clear hs hsk hkp hss hQ hlst
  go_wp2_with fail
  refine (values_any wr la Q.length lc).mono ?_
  rintro e w3 ⟨rfl,hw3⟩
  have k3:K_ wr w3:=by rw [hw3];exact (K_.refl _).alloc _
  have hc3:w3.cell? ⟨wr.heap.size,0,none⟩=some (.slice la Q.length lc):=by rw [hw3];exact Xz wr #[.slice la Q.length lc] 25 0 _ rfl
  have hz3:wr.heap.size < w3.heap.size:=by rw [hw3];simp
  clear hw3 hlook hrc
  go_wp2_with fail
  refine (sorted_any w3 wr.heap.size la lc Q (by omega) hz3 hc3 (HLst.out.kept k3)).mono ?_
  rintro e w4 ⟨v4,ns,rfl,how,hsrt,k4⟩
  obtain ⟨va4,vc4,rfl⟩:=own_slice how
  have hnsl:ns.length<=1000000:=by rw [hsrt.1.length_eq];exact hols
  have HSrt:=Kz hsrt
  have HOw:=Kz how
  have HT4:=Kz (HT.out.kept (k3.trans k4))
  have HO4:=Kz (HO.out.kept (k3.trans k4))
  have HP4:=Kz (HP.out.enter ns)
  have K4:=Kr.trans (k3.trans k4)
  have hu4:u.heap.size<=w4.heap.size:=Nat.le_trans hur (k3.trans k4).size
  have hw3z:w2.heap.size<=w3.heap.size:= (Kr.trans k3).size
  clear how hsrt hc3 hz3 HT HO HP k3 k4 Kr hur HLst hols hrb
  go_wp2_with fail
  go_loopw [35] (fun x wr=> ∃(j M:Nat) (g:Bool->Nat->Value) (L:Bool->Nat->List Nat),j<=ns.length∧x= .int .i64 (j:Int)∧M<=mulM k+j∧Hid (TabM wr u.heap.size n (fun c=> if c=true then nb else mb) g L)∧Hid (NeedP (fun x y=> y∈ol x) nm k ns j M (L true) (L false))∧Hid (ObM wr ob (some ⟨rb,ro,none⟩) nc n nb mb)∧Hid (wr.ownsRow w3.heap.size 9 1 (.slice va4 ns.length vc4) ns.length (ns.map Value.string))∧K_ w2 wr∧u.heap.size<=wr.heap.size) (fun x _=> ns.length - (intOf x).toNat)
  case atStart=> exact ⟨0,M,g,L,Nat.zero_le _,rfl,by omega,HT4,HP4,HO4,HOw,K4,hu4⟩
  case round=>
   clear HT4 HP4 HO4 HOw K4 hu4 hMk
   obtain ⟨j,M,g,L,hj,rfl,hMj,HT,HP,HO,HOw,Kr,hur⟩:=hrel
   by_cases hjl:j < ns.length
   rotate_left
   ·have hje:ns.length<=j:=by omega
    have HP5:Hid (NeedP (fun x y=> y∈ol x) nm (k+1) [] 0 M (L true) (L false)):=HP.out.leave hkn hje (fun y=> by rw [HSrt.out.1.mem_iff,HQ.out,HSk.out])
    go_wp2_with fail
    go_roundw
    case rel=> exact ⟨k+1,M,g,L,by omega,by go_num,by rw [mulM_succ];omega,HT,HP5,HO,Kr,hur⟩
    case measure=> simp [intOf];omega
   obtain ⟨a9,c9,e9,hst9⟩:=owned_strs HOw.out
   simp only [Value.slice.injEq,true_and] at e9
   rw [<-e9.1] at hst9
   obtain ⟨qb,qo,e1,hqb,hqc⟩:=hst9 j hjl
   subst e1
   obtain ⟨s',hs'⟩: ∃s',s'=ns.getD j ByteArray.empty:= ⟨_,rfl⟩
   rw [<-hs'] at hqc
   have hsj:ns[j]=s':=by rw [hs'];simp [List.getD,hjl]
   have HSj:=Kz hsj
   have HBs:Hid (Calls Tryz.prog 164 #[.slice (some ⟨rb,ro,none⟩) n nc,.string s'] wr fun e w'=> FoundS nm s' e∧w'=wr):=by
    show Calls _ _ _ _ _
    rw [HNn.out]
    exact bsearch_any wr _ nc nm s' (by have:=HNn.out;omega) HAsc.out (HNs.out.kept Kr)
   have hji: (j:Int) < (ns.length:Int):=by omega
   clear e9 hst9 hs' hsj
   go_wp2_with fail
   refine HBs.out.mono ?_
   rintro e w5 ⟨⟨q,bq,rfl,hyes,hno⟩,hw5⟩
   rw [hw5]
   clear hw5 w5
   cases bq
   ·have HNo:=Kz (hno rfl)
    clear hyes hno hqc
    have HP5:Hid (NeedP (fun x y=> y∈ol x) nm k ns (j+1) M (L true) (L false)):=HP.out.skip hjl (by rw [HSj.out];exact HNo.out)
    go_wp2_with fail
    go_roundw
    case rel=> exact ⟨j+1,M,g,L,by omega,by go_num,by omega,HT,HP5,HO,HOw,Kr,hur⟩
    case measure=> simp [intOf];omega
   obtain ⟨hqn,hqe⟩:=hyes rfl
   have hq2:q < n:=by have:=HNn.out;omega
   have HQe:Hid (nm[q]=s'):=by show nm[q]=s';rw [<-hqe];simp [List.getD,hqn]
   have HNx:Hid (NeedP (fun x y=> y∈ol x) nm k ns (j+1) (M+1) (fun p=> if p=k then L true k++ [q] else L true p) (fun p=> if p=q then L false q++ [k] else L false p)):=HP.out.put ⟨HAsc.out,fun x y hxy=> (HMem.out x).2 (HL.out.sub x (fun e=> by rw [e] at hxy;cases hxy))⟩ hjl HSrt.out.2 hqn (by rw [HQe.out,HSj.out]) hkn (fun y hy=> by rw [HSrt.out.1.mem_iff,HQ.out] at hy;rw [HSk.out];exact hy)
   have hmM:=mulM_le (show k<=60 by omega)
   have hlt1:= (HP.out.len k).1
   have hlt2:= (HP.out.len q).2
   obtain ⟨ic,hc0,hc1,hc2,hc3⟩:=info_parts Tryz.infoIntC
   clear hyes hno hqe hqc
   obtain ⟨vaA,vcA,hgA⟩:=own_slice (HT.out.own true k)
   have HgA:=Kz hgA
   have rA:wr.cell? ⟨nb,k,none⟩=some (.slice vaA (L true k).length vcA):=by have h:= (HT.out.row true).cell hkl;rw [hgA] at h;exact h
   have HSOA:Hid (∀w',K_ wr w'->w'.cell? ⟨ob,1,none⟩=some (.slice (some ⟨nb,0,none⟩) n n)∧w'.cell? ⟨nb,k,none⟩=some (.slice vaA (L true k).length vcA)):=fun w' K=> ⟨(K.cell HO.out.lt).trans HO.out.c1,(K.cell (rowIs_lt (HT.out.row true))).trans rA⟩
   clear hgA rA
   go_upto_region 11 with fail
   refine Qx.rg 12 HSOA.out fun wd KD Z_=> ?_
   refine Qx.tk 0 Z_ ?_
   refine Qx.tk 1 Z_ ?_
   refine Qx.tk 2 Z_ ?_
   refine Qx.tk 3 Z_ ?_
   refine Qx.tk 4 Z_ ?_
   refine Qx.tk 5 Z_ ?_
   refine Qx.tk 6 Z_ ?_
   refine Qx.tk 7 Z_ ?_
   refine Qx.tk 8 Z_ ?_
   refine Qx.nx 9 (fun K hK=> ?_)
   go_simp
   have K5:K_ wd (wd.alloc (.cells #[.int .i64 (q:Int)] 3)):= (K_.refl _).alloc _
   have hc5: (wd.alloc (.cells #[.int .i64 (q:Int)] 3)).cell? ⟨wd.heap.size,0,none⟩=some (.int .i64 (q:Int)):=Xz wd #[.int .i64 (q:Int)] 3 0 _ rfl
   have K5b:=KD.trans K5
   refine hK.out _ _ (fun _=> HSOA.out _ K5b) ?_
   clear hK K Z_
   have HT6:=Kz (HT.out.kept K5b)
   have HO6:=Kz (HO.out.kept K5b)
   obtain ⟨eb,heb⟩: ∃eb,eb=wd.heap.size:= ⟨_,rfl⟩
   rw [<-heb] at hc5⊢
   generalize hwe:wd.alloc (.cells #[.int .i64 (q:Int)] 3)=w6 at hc5 K5b HT6 HO6⊢
   clear hwe K5 heb KD
   have hrow6:=HT6.out.own true k
   rw [HgA.out] at hrow6
   have HR6:=Kz hrow6
   have hz6:u.heap.size<=w6.heap.size:=Nat.le_trans (hur) K5b.size
   clear hrow6
   try simp only [Act.put,upA,upB,upC]
   refine Qx.nx 10 (fun K hK=> ?_)
   refine step_append_lies _ rfl (.tmp 53) (.tmp 55) 56 rfl u.heap.size 3 ic _ 1 8 Tryz.underlying56 hc0 hc1 hc2 hc3 rfl (by decide) (.slice vaA (L true k).length vcA) (L true k).length ((L true k).map natV) rfl HR6.out ⟨eb,0,none⟩ 1 1 [.int .i64 (q:Int)] rfl rfl (fun j u hu=> ?_) (fun u hu=> ?_) (by decide) (by unfold maxLen;omega) (by omega) hz6 w6.heap.size rfl ?_
   ·match j,hu with
    | 0,hu=> simp at hu;subst hu;rw [Addr.add_mid];exact hc5
    | j+1,hu=> simp at hu
   ·simp at hu;subst hu;rfl
   intro gb gc w7 ho7 hg7 hv7 hgz7
   rw [<-HgA.out] at hg7 hv7
   obtain ⟨hT8,hB8⟩:=HT6.out.put true k (x:=q) ho7 hg7 (fun y e=> by simp only [Value.ownBlock,Option.some.injEq] at e;subst e;rcases hv7 with h | h;exact .inl h;exact .inr (Nat.le_of_eq h.symm))
   have k67:But (fun b=> (g true k).ownBlock=some b) w6 w7:=But.of_grown hg7 (fun b e=> e)
   have hT7:w7.rowIs nb 56 n (g true):=rowIs_block (HT6.out.row true) (k67.block _ (rowIs_lt (HT6.out.row true)) (fun e=> type_ne (rowIs_type (HT6.out.row true)) (Yz (HT6.out.own true k) e) (by decide) rfl))
   have f7:=hT7.frozen k
   have c7:=hT7.cell hkl
   have ho7b:w7.cell? ⟨ob,1,none⟩=some (.slice (some ⟨nb,0,none⟩) n n):= (k67.cell HO6.out.lt (fun e=> type_ne HO6.out.ty (Yz (HT6.out.own true k) e) (by decide) rfl)).trans HO6.out.c1
   have HS7:Hid (w7.cell? ⟨ob,1,none⟩=some (.slice (some ⟨nb,0,none⟩) n n)∧w7.cell? ⟨nb,k,none⟩=some (.slice vaA (L true k).length vcA)):= ⟨ho7b,by rw [c7,HgA.out]⟩
   have HT8A:=Kz hT8
   have HB8A:=Kz hB8
   refine hK.out _ _ (fun _=> HS7.out) ?_
   clear hK K hT8 hB8 ho7 hg7 hv7 k67 hT7 ho7b hgz7 hc5
   have Z_:=HS7.out
   try simp only [Act.put,upA,upB,upC]
   refine Qx.tk 11 Z_ ?_
   refine Qx.nx 12 (fun K hK=> ?_)
   go_simp
   refine hK.out _ _ (fun h=> absurd rfl h) ?_
   clear hK K Z_
   try simp only [Act.put,upA,upB,upC]
   refine Qx.dn ?_
   have K56A:=Kz (But.of_kept (S:=fun y=> (g true k).ownBlock=some y∨y= (if true=true then nb else mb)) K5b)
   have HBBA:=Kz (K56A.out.trans HB8A.out)
   have HO8A:=Kz (HO6.out.but HB8A.out (fun e=> by
    rcases e with e | e
    ·exact type_ne HO6.out.ty (Yz (HT6.out.own true k) e) (by decide) rfl
    ·exact type_ne HO6.out.ty (rowIs_type (HT6.out.row true)) (by decide) e))
   generalize hw8:w7.setCell ⟨(if true=true then nb else mb),k,none⟩ (.slice (some ⟨gb,0,none⟩) ((L true k).length+1) gc)=w8A at HT8A HB8A HO8A HBBA
   have hw8b:w7.setCell ⟨nb,k,none⟩ (.slice (some ⟨gb,0,none⟩) ((L true k).length+1) gc)=w8A:=hw8
   rw [hw8b]
   clear hw8 hw8b c7 f7 HS7 HR6 hz6 HgA HSOA K56A HB8A HT6 HO6 K5b
   have hex: ∃(g2:Bool->Nat->Value) (L2:Bool->Nat->List Nat),Hid (TabM w8A u.heap.size n (fun c=> if c=true then nb else mb) g2 L2)∧Hid (L2=fun c p=> if c=true∧p=k then L true k++ [q] else L c p):= ⟨_,_,HT8A,Kz rfl⟩
   obtain ⟨g2,L2,HT2,HL2⟩:=hex
   have hlt3: (L2 false q).length<=M:=by rw [HL2.out];simpa using hlt2
   have HOwA:=Kz (HBBA.out.owns HOw.out (fun b e e2=> by
    rcases e2 with e2 | e2
    ·exact type_ne (Yz HOw.out e) (Yz (HT.out.own true k) e2) (by decide) rfl
    ·exact type_ne (Yz HOw.out e) (rowIs_type (HT.out.row true)) (by decide) e2))
   have KA:K_ w2 w8A:=HBBA.out.kept Kr (fun b e=> by
    rcases e with e | e
    ·exact Nat.le_trans hu2 ((HT.out.own true k).lt b e).1
    ·rw [e];exact hz1)
   have hurA:u.heap.size<=w8A.heap.size:=Nat.le_trans hur HBBA.out.size
   have Kr':=Kr
   clear HT8A HBBA HT HO HOw Kr hur Kr'
   obtain ⟨vaB,vcB,hgB⟩:=own_slice (HT2.out.own false q)
   have HgB:=Kz hgB
   have rB:w8A.cell? ⟨mb,q,none⟩=some (.slice vaB (L2 false q).length vcB):=by have h:= (HT2.out.row false).cell hq2;rw [hgB] at h;exact h
   have HSOB:Hid (∀w',K_ w8A w'->w'.cell? ⟨ob,2,none⟩=some (.slice (some ⟨mb,0,none⟩) n n)∧w'.cell? ⟨mb,q,none⟩=some (.slice vaB (L2 false q).length vcB)):=fun w' K=> ⟨(K.cell HO8A.out.lt).trans HO8A.out.c2,(K.cell (rowIs_lt (HT2.out.row false))).trans rB⟩
   clear hgB rB
   go_upto_region 12 with fail
   refine Qx.rg 12 HSOB.out fun wd KD Z_=> ?_
   refine Qx.tk 0 Z_ ?_
   refine Qx.tk 1 Z_ ?_
   refine Qx.tk 2 Z_ ?_
   refine Qx.tk 3 Z_ ?_
   refine Qx.tk 4 Z_ ?_
   refine Qx.tk 5 Z_ ?_
   refine Qx.tk 6 Z_ ?_
   refine Qx.tk 7 Z_ ?_
   refine Qx.tk 8 Z_ ?_
   refine Qx.nx 9 (fun K hK=> ?_)
   go_simp
   have K5:K_ wd (wd.alloc (.cells #[.int .i64 (k:Int)] 3)):= (K_.refl _).alloc _
   have hc5: (wd.alloc (.cells #[.int .i64 (k:Int)] 3)).cell? ⟨wd.heap.size,0,none⟩=some (.int .i64 (k:Int)):=Xz wd #[.int .i64 (k:Int)] 3 0 _ rfl
   have K5b:=KD.trans K5
   refine hK.out _ _ (fun _=> HSOB.out _ K5b) ?_
   clear hK K Z_
   have HT6:=Kz (HT2.out.kept K5b)
   have HO6:=Kz (HO8A.out.kept K5b)
   obtain ⟨eb,heb⟩: ∃eb,eb=wd.heap.size:= ⟨_,rfl⟩
   rw [<-heb] at hc5⊢
   generalize hwe:wd.alloc (.cells #[.int .i64 (k:Int)] 3)=w6 at hc5 K5b HT6 HO6⊢
   clear hwe K5 heb KD
   have hrow6:=HT6.out.own false q
   rw [HgB.out] at hrow6
   have HR6:=Kz hrow6
   have hz6:u.heap.size<=w6.heap.size:=Nat.le_trans (hurA) K5b.size
   clear hrow6
   try simp only [Act.put,upA,upB,upC]
   refine Qx.nx 10 (fun K hK=> ?_)
   refine step_append_lies _ rfl (.tmp 65) (.tmp 67) 56 rfl u.heap.size 3 ic _ 1 8 Tryz.underlying56 hc0 hc1 hc2 hc3 rfl (by decide) (.slice vaB (L2 false q).length vcB) (L2 false q).length ((L2 false q).map natV) rfl HR6.out ⟨eb,0,none⟩ 1 1 [.int .i64 (k:Int)] rfl rfl (fun j u hu=> ?_) (fun u hu=> ?_) (by decide) (by unfold maxLen;omega) (by omega) hz6 w6.heap.size rfl ?_
   ·match j,hu with
    | 0,hu=> simp at hu;subst hu;rw [Addr.add_mid];exact hc5
    | j+1,hu=> simp at hu
   ·simp at hu;subst hu;rfl
   intro gb gc w7 ho7 hg7 hv7 hgz7
   rw [<-HgB.out] at hg7 hv7
   obtain ⟨hT8,hB8⟩:=HT6.out.put false q (x:=k) ho7 hg7 (fun y e=> by simp only [Value.ownBlock,Option.some.injEq] at e;subst e;rcases hv7 with h | h;exact .inl h;exact .inr (Nat.le_of_eq h.symm))
   have k67:But (fun b=> (g2 false q).ownBlock=some b) w6 w7:=But.of_grown hg7 (fun b e=> e)
   have hT7:w7.rowIs mb 56 n (g2 false):=rowIs_block (HT6.out.row false) (k67.block _ (rowIs_lt (HT6.out.row false)) (fun e=> type_ne (rowIs_type (HT6.out.row false)) (Yz (HT6.out.own false q) e) (by decide) rfl))
   have f7:=hT7.frozen q
   have c7:=hT7.cell hq2
   have ho7b:w7.cell? ⟨ob,2,none⟩=some (.slice (some ⟨mb,0,none⟩) n n):= (k67.cell HO6.out.lt (fun e=> type_ne HO6.out.ty (Yz (HT6.out.own false q) e) (by decide) rfl)).trans HO6.out.c2
   have HS7:Hid (w7.cell? ⟨ob,2,none⟩=some (.slice (some ⟨mb,0,none⟩) n n)∧w7.cell? ⟨mb,q,none⟩=some (.slice vaB (L2 false q).length vcB)):= ⟨ho7b,by rw [c7,HgB.out]⟩
   have HT8B:=Kz hT8
   have HB8B:=Kz hB8
   refine hK.out _ _ (fun _=> HS7.out) ?_
   clear hK K hT8 hB8 ho7 hg7 hv7 k67 hT7 ho7b hgz7 hc5
   have Z_:=HS7.out
   try simp only [Act.put,upA,upB,upC]
   refine Qx.tk 11 Z_ ?_
   refine Qx.nx 12 (fun K hK=> ?_)
   go_simp
   refine hK.out _ _ (fun h=> absurd rfl h) ?_
   clear hK K Z_
   try simp only [Act.put,upA,upB,upC]
   refine Qx.dn ?_
   have K56B:=Kz (But.of_kept (S:=fun y=> (g2 false q).ownBlock=some y∨y= (if false=true then nb else mb)) K5b)
   have HBBB:=Kz (K56B.out.trans HB8B.out)
   have HO8B:=Kz (HO6.out.but HB8B.out (fun e=> by
    rcases e with e | e
    ·exact type_ne HO6.out.ty (Yz (HT6.out.own false q) e) (by decide) rfl
    ·exact type_ne HO6.out.ty (rowIs_type (HT6.out.row false)) (by decide) e))
   generalize hw8:w7.setCell ⟨(if false=true then nb else mb),q,none⟩ (.slice (some ⟨gb,0,none⟩) ((L2 false q).length+1) gc)=w8B at HT8B HB8B HO8B HBBB
   have hw8b:w7.setCell ⟨mb,q,none⟩ (.slice (some ⟨gb,0,none⟩) ((L2 false q).length+1) gc)=w8B:=hw8
   rw [hw8b]
   clear hw8 hw8b c7 f7 HS7 HR6 hz6 HgB HSOB K56B HB8B HT6 HO6 K5b
   have HOwB:=Kz (HBBB.out.owns HOwA.out (fun b e e2=> by
    rcases e2 with e2 | e2
    ·exact type_ne (Yz HOwA.out e) (Yz (HT2.out.own false q) e2) (by decide) rfl
    ·exact type_ne (Yz HOwA.out e) (rowIs_type (HT2.out.row false)) (by decide) e2))
   have KB:K_ w2 w8B:=HBBB.out.kept KA (fun b e=> by
    rcases e with e | e
    ·exact Nat.le_trans hu2 ((HT2.out.own false q).lt b e).1
    ·rw [e];exact hz2)
   have hurB:u.heap.size<=w8B.heap.size:=Nat.le_trans hurA HBBB.out.size
   have hex: ∃(g3:Bool->Nat->Value) (L3:Bool->Nat->List Nat),Hid (TabM w8B u.heap.size n (fun c=> if c=true then nb else mb) g3 L3)∧Hid (L3=fun c p=> if c=false∧p=q then L2 false q++ [k] else L2 c p):= ⟨_,_,HT8B,Kz rfl⟩
   obtain ⟨g3,L3,HT3,HL3⟩:=hex
   have HN3:Hid (NeedP (fun x y=> y∈ol x) nm k ns (j+1) (M+1) (L3 true) (L3 false)):=by
    have e1:L3 true=fun p=> if p=k then L true k++ [q] else L true p:=by funext p;rw [HL3.out,HL2.out];simp
    have e2:L3 false=fun p=> if p=q then L false q++ [k] else L false p:=by funext p;rw [HL3.out,HL2.out];simp
    show NeedP _ _ _ _ _ _ _ _
    rw [e1,e2]
    exact HNx.out
   clear HT8B HBBB HT2 HOwA KA hurA HNx
   go_wp2_with fail
   go_roundw
   case rel=> exact ⟨j+1,M+1,g3,L3,by omega,by go_num,by omega,HT3,HN3,HO8B,HOwB,KB,hurB⟩
   case measure=> simp [intOf];omega
