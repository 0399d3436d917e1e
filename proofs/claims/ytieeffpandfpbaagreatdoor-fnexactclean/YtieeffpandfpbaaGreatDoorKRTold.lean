import Derived.Test.YtieeffpandfpbaaGreatDoorKXAll
import Derived.Test.YtieeffpandfpbaaGreatDoorKBRound
import Derived.Test.YtieeffpandfpbaaGreatDoorKRCopy
import Derived.Test.YtieeffpandfpbaaGreatDoorKCResC
set_option maxRecDepth 100000
set_option maxHeartbeats 25600000
namespace Go.Proofs.YtieeffpandfpbaaGreatDoor
open Go.RowKit Go.Shelf
attribute [local go_sem] Oper.semAt_some
def RdI (w1:World) (c:Nat) (Kj:List Qq) (σ:Env) (rs:List Qz) (i:Nat) (W:World):Prop:=
 K_ w1 W∧c < W.heap.size∧∃(ns:List ByteArray) (v:Value),W.cell? ⟨c,0,none⟩=some v∧W.frozen? ⟨c,0,none⟩=false∧W.ownsRow (c+1) 9 1 v ns.length (ns.map Value.string)∧ReadyL (Q_ Kj) σ (rs.take i) ns
theorem RdI.calm {w1:World} {c:Nat} {Kj:List Qq} {σ:Env} {rs:List Qz} {i B:Nat} (hw:w1.heap.size<=c) (hc:c < B):Calm B (RdI w1 c Kj σ rs i):=by
 constructor
 ·rintro W o hB ⟨k,hz,ns,v,h1,h2,h3,h4⟩
  have ka:= (K_.refl W).alloc o
  exact ⟨k.trans ka,by rw [World.size_alloc];omega,ns,v,(ka.cell hz).trans h1,(ka.rules.2 c 0 hz).trans h2,(But.of_kept (S:=fun _=> False) ka).owns h3 (fun _ _=> id),h4⟩
 ·rintro W l o o' hl ho hn ⟨k,hz,ns,v,h1,h2,h3,h4⟩
  have kb:But (fun b=> b=l) W (W.putObj l o'):= ⟨rfl,rfl,rfl,by rw [World.putObj_size];exact Nat.le_refl _,fun b _ e=> World.putObj_heap_other e⟩
  refine ⟨kb.kept k (fun b e=> by rw [e];omega),by rw [World.putObj_size];exact hz,ns,v,(put_cell o' (by omega)).trans h1,(put_frozen o' (by omega)).trans h2,kb.owns h3 (fun b hb e=> ?_),h4⟩
  have:=type_cells (Yz h3 hb) (by rw [e];exact ho)
  rw [hn] at this
  cases this
open Go.RowKit
theorem le_sumR {α:Type} (f g:α->Nat) (c:Nat) (h: ∀x,f x<=c * g x): ∀l:List α,(l.map f).sum<=c * (l.map g).sum
 | []=> by simp
 | x :: r=> by
  have h1:=h x
  have h2:=le_sumR f g c h r
  simp only [List.map_cons,List.sum_cons,Nat.mul_add]
  omega
theorem sum_oneR {α:Type} (f:α->Nat): ∀l:List α,(l.map (fun x=> f x+1)).sum= (l.map f).sum+l.length
 | []=> rfl
 | x :: r=> by simp only [List.map_cons,List.sum_cons,List.length_cons,sum_oneR f r];omega
theorem cntStepsR_le (l:List Xj): (l.map cntStep).sum<=8 * szSteps l:=by
 have h:=le_sumR cntStep (fun s=> szStepD s+1) 8 (fun s=> by
  have h2:szStepD s= (s.asks.length+ (s.asks.map (·.size)).sum)+ (s.cases.length+ (s.cases.map (·.text.size)).sum)+s.give.size:=rfl
  unfold cntStep
  omega) l
 rw [sum_oneR] at h
 unfold szSteps
 omega
theorem cntNodesR_le (l:List Qq): (l.map cntNode).sum<=8 * szNodesD l:=by
 have h:=le_sumR cntNode (fun s=> szNodeD s+1) 8 (fun d=> by
  have h:=cntStepsR_le d.steps
  have h2:szNodeD d=d.name.size+szSteps d.steps:=rfl
  unfold cntNode
  omega) l
 rw [sum_oneR] at h
 unfold szNodesD
 omega
theorem ReadyL.one {Kj:List Qq} {Kk:List ByteArray} {sl:List Qz} {ns ms:List ByteArray} (h: (ValidX Kj Kk sl∧ReadyL (Q_ Kj) (Qj sl) sl ns)∨(¬ValidX Kj Kk sl∧ns=[])) (k: (ValidX Kj Kk sl∧ReadyL (Q_ Kj) (Qj sl) sl ms)∨(¬ValidX Kj Kk sl∧ms=[])):ms=ns:=by
 rcases h with ⟨h1,h2⟩ | ⟨h1,h2⟩
 ·rcases k with ⟨k1,k2⟩ | ⟨k1,k2⟩
  ·exact k2.unique h2
  ·exact absurd h1 k1
 ·rcases k with ⟨k1,k2⟩ | ⟨k1,k2⟩
  ·exact absurd k1 h1
  ·rw [h2,k2]
def StEnd (Kk:List ByteArray) (T:List Qz) (w w':World) (e:Ending):Prop:=
 ∃ra ds mid,e= .returned (.agg #[.slice ra Kk.length Kk.length,.slice ds T.length T.length])∧StrsIn w' w.heap.size mid ra Kk∧RunsInX w' mid w'.heap.size ds T∧w.heap.size<=mid∧mid<=w'.heap.size∧K_ w w'
section
variable {G : Ghost} {Kj : List Qq} {wz w w' : World} {bb : Nat} {a : Option Addr} {cap : Nat} {rd : Option Addr} {rc : Nat} {mb mx : Nat} {ts : List Zx} {d : Option Addr} {dc : Nat} {f : ByteArray -> Value} {ws : ByteArray -> List Nat}
end
attribute [local go_sem] Oper.semAt_some
def DoIEnd (Kj:List Qq) (Kk:List ByteArray) (sl:List Qz) (name:ByteArray) (w w':World) (e:Ending):Prop:=
 (ValidX Kj Kk sl∧∃T,DoneX Kj sl name T∧StEnd Kk T w w' e)∨(¬ValidX Kj Kk sl∧e= .returned (.agg #[.slice none 0 0,.slice none 0 0])∧K_ w w')
def DoI1 (W0:World) (p:Nat->Prop) (i:Nat) (W:World):Prop:=K_ W0 W∧∀j,j < i->¬p j
theorem DoI1.calm {W0:World} {p:Nat->Prop} {i:Nat}:Calm W0.heap.size (DoI1 W0 p i):=by
 constructor
 ·rintro W o hB ⟨k,h⟩
  exact ⟨k.alloc o,h⟩
 ·rintro W l o o' hl ho hn ⟨k,h⟩
  have kb:But (fun b=> b=l) W (W.putObj l o'):= ⟨rfl,rfl,rfl,by rw [World.putObj_size];exact Nat.le_refl _,fun b _ e=> World.putObj_heap_other e⟩
  exact ⟨kb.kept k (fun b e=> by rw [e];exact hl),h⟩
def DoI2 (W0:World) (Kf Kc:Nat->Prop) (Kj:List Qq) (wz:World) (bb:Nat) (a:Option Addr) (cap:Nat) (rd:Option Addr) (rn rc mb:Nat) (σ:Env) (name:ByteArray) (c:Code) (W:World):Prop:=
 c= .exit 0∧∃(mx:Nat) (ts2:List Zx) (d2:Option Addr) (dc2:Nat) (f2:ByteArray->Value) (ws2:ByteArray->List Nat),InB W0.heap.size Kf Kc [] W0 Kj wz W bb a cap rd rn rc mb mx ts2 d2 dc2 f2 ws2∧BS Kj ts2 ws2∧Qj (Qk ts2)=doX (Q_ Kj) σ name∧ReadyX (Q_ Kj) σ name
theorem DoI2.calm {W0:World} {Kf Kc:Nat->Prop} {Kj:List Qq} {wz:World} {bb:Nat} {a:Option Addr} {cap:Nat} {rd:Option Addr} {rn rc mb:Nat} {σ:Env} {name:ByteArray} {c:Code}:Calm W0.heap.size (DoI2 W0 Kf Kc Kj wz bb a cap rd rn rc mb σ name c):=by
 constructor
 ·rintro W o hB ⟨hc,mx,ts2,d2,dc2,f2,ws2,h1,h2⟩
  exact ⟨hc,mx,ts2,d2,dc2,f2,ws2,h1.kept ((K_.refl W).alloc o),h2⟩
 ·rintro W l o o' hl ho hn ⟨hc,mx,ts2,d2,dc2,f2,ws2,h1,h2⟩
  exact ⟨hc,mx,ts2,d2,dc2,f2,ws2,h1.calm o' hl ho hn,h2⟩
theorem strs_sets {w u:World} {lo g:Nat} {vs:List Value} {a:Option Addr} {l:List ByteArray} (h:Strs w a l) (hb:l≠[]->∀ad:Addr,a=some ad->lo<=ad.block) (hg:g < lo∨w.heap.size<=g) (k:K_ w u):Strs (u.setCells g 0 vs) a l:=by
 intro i hi
 obtain ⟨b,o,rfl,h1,hc⟩:=h i hi
 have h2:lo<=b:=hb (by rintro rfl;simp at hi) _ rfl
 have h3:=k.size
 exact ⟨b,o,rfl,by rw [size_setCells];omega,by rw [World.cell?_setCells_out g vs 0 u _ (fun e _=> by simp at e;omega),k.cell h1];exact hc⟩
def RunsLo (w:World) (lo:Nat) (d:Option Addr) (l:List Qz):Prop:=
 ∀i,i < l.length->∃b o xa xc,d=some ⟨b,o,none⟩∧b < w.heap.size∧lo<=b∧w.rangeAt b (o+i * 7) ((l.getD i Qz.zero).cells xa xc)∧Strs w xa (l.getD i Qz.zero).texts∧(xa=none->xc=0)∧((l.getD i Qz.zero).texts≠[]->∀ad:Addr,xa=some ad->lo<=ad.block)
theorem RunsLo.sets {w u:World} {lo g:Nat} {vs:List Value} {d:Option Addr} {l:List Qz} (h:RunsLo w lo d l) (hg:g < lo∨w.heap.size<=g) (k:K_ w u):RunsX (u.setCells g 0 vs) d l:=by
 intro i hi
 obtain ⟨b,o,xa,xc,rfl,h1,h2,h3,h4,h5,h6⟩:=h i hi
 have hk:=k.size
 have h3u:u.rangeAt b (o+i * 7) ((l.getD i Qz.zero).cells xa xc):=fun j v hv=> (k.cell h1).trans (h3 j v hv)
 exact ⟨b,o,xa,xc,rfl,by rw [size_setCells];omega,World.rangeAt_setCells_apart h3u g 0 vs (.inl (by omega)),strs_sets h4 h6 hg k,h5⟩
theorem owns_lo {w:World} {base k m n c:Nat} {t:TypeId} {a:Option Addr} {xs:List Value} (h:w.ownsRow base t k (.slice a n c) m xs): ∀ad:Addr,a=some ad->base<=ad.block:=by
 intro ad e
 subst e
 rcases h.2 with ⟨e,_⟩ | ⟨g,cap,cur,e,hb,_⟩
 ·cases e
 ·cases e;exact hb
theorem RunsXP.lo {w:World} {lo:Nat} {d:Option Addr} {l:List Qz} (h:RunsXP w (fun b=> lo<=b) d l) (hd: ∀ad:Addr,d=some ad->lo<=ad.block):RunsLo w lo d l:=fun i hi=> by
 obtain ⟨b,o,xa,xc,e,h1,h2,h3,h4,h5⟩:=h i hi
 exact ⟨b,o,xa,xc,e,h1,hd _ e,h2,h3,h4,fun _=> h5⟩
theorem RunsInX.lo {w:World} {lo hi:Nat} {d:Option Addr} {l:List Qz} (h:RunsInX w lo hi d l):RunsLo w lo d l:=by
 rcases h with rfl | ⟨b,c,ha,h1,h2,h3,hr,hm,hc⟩
 ·intro i hi
  simp at hi
 ·intro i hi
  obtain ⟨xa,xc,g1,g2,g3⟩:=hc i hi
  refine ⟨b,0,xa,xc,ha,hr.lt,h1,by rw [Nat.zero_add];exact g1,g2.strs,g3,fun hne ad e=> ?_⟩
  have q:=hm 0 i (Nat.zero_le _)
  rcases g2 with g2 | ⟨b',e',q1,_⟩
  ·exact absurd g2 hne
  ·rw [e'] at e
   cases e
   show lo<=b'
   omega
theorem StrsIn.lo {w:World} {lo hi:Nat} {a:Option Addr} {l:List ByteArray} (h:StrsIn w lo hi a l):l≠[]->∀ad:Addr,a=some ad->lo<=ad.block:=by
 intro hne ad e
 rcases h with h | ⟨b',e',q1,_⟩
 ·exact absurd h hne
 ·rw [e'] at e
  cases e
  exact q1
def DoD (Kj:List Qq) (Kk:List ByteArray) (sl:List Qz) (name:ByteArray) (R:List ByteArray) (T:List Qz):Prop:=
 (ValidX Kj Kk sl∧R=Kk∧DoneX Kj sl name T)∨(¬ValidX Kj Kk sl∧R=[]∧T=[])
theorem DoD.one {Kj:List Qq} {Kk R R':List ByteArray} {sl T T':List Qz} {name:ByteArray} (h:DoD Kj Kk sl name R T) (k:DoD Kj Kk sl name R' T'):R'=R∧T'=T:=by
 rcases h with ⟨h1,rfl,h2⟩ | ⟨h1,rfl,rfl⟩
 ·rcases k with ⟨_,rfl,k2⟩ | ⟨k1,_⟩
  ·exact ⟨rfl,k2.unique h2⟩
  ·exact absurd h1 k1
 ·rcases k with ⟨k1,_⟩ | ⟨_,rfl,rfl⟩
  ·exact absurd k1 h1
  ·exact ⟨rfl,rfl⟩
theorem sum_le_len {α:Type} (f:α->Nat) (c:Nat): ∀l:List α,(∀x∈l,f x<=c)->(l.map f).sum<=c * l.length
 | [],_=> by simp
 | x :: r,h=> by
  have h1:=h x (List.mem_cons_self ..)
  have h2:=sum_le_len f c r fun y hy=> h y (List.mem_cons_of_mem _ hy)
  simp only [List.map_cons,List.sum_cons,List.length_cons,Nat.mul_add]
  omega
theorem DoD.small {Kj:List Qq} {Kk R:List ByteArray} {sl T:List Qz} {name:ByteArray} (h:DoD Kj Kk sl name R T) (hf: ∀s∈Kj,s.Fits):R.length<=Kk.length∧T.length<=60∧(∀r∈T,r.Fits)∧(T.map cntRun).sum<=60360:=by
 rcases h with ⟨h1,rfl,h2⟩ | ⟨h1,rfl,rfl⟩
 ·have g:=h2.good (web_acts h1.1) h1.good
  have hl:T.length<=60:=Nat.le_trans g.len (web_len h1.1)
  have hs:=sum_le_len cntRun 1006 T fun x hx=> by
   have:=g.texts x hx
   have e:cntRun x=6+x.texts.length:=rfl
   omega
  refine ⟨Nat.le_refl _,hl,fun r hr=> ?_,by omega⟩
  have q:=g.good r hr
  obtain ⟨A,hA,_⟩:=q.act
  obtain ⟨k,hk,hn,_⟩:=acts_first hA
  have q1:=g.texts r hr
  have q2:=q.tx
  refine ⟨?_,by unfold maxLen;omega,by unfold maxLen;omega,fun t ht=> by have:=q.ts t ht;unfold maxLen;omega⟩
  rw [<-hn]
  have hm:Kj.getD k Qq.zero∈Kj:=by
   simp only [List.getD,List.getElem?_eq_getElem hk,Option.getD_some]
   exact List.getElem_mem hk
  exact (hf _ hm).name
 ·exact ⟨Nat.zero_le _,Nat.zero_le _,(fun r hr=> by cases hr),by simp⟩
def DoOut (Kj:List Qq) (Kk:List ByteArray) (sl:List Qz) (name:ByteArray) (w w':World) (e:Ending):Prop:=
 ∃(R:List ByteArray) (T:List Qz) (ra:Option Addr) (rc:Nat) (d:Option Addr) (dc:Nat),e= .returned (.agg #[.slice ra R.length rc,.slice d T.length dc])∧DoD Kj Kk sl name R T∧(∀(u:World) (g:Nat) (vs:List Value),(g < w.heap.size∨w'.heap.size<=g)->K_ w' u->Strs (u.setCells g 0 vs) ra R∧RunsX (u.setCells g 0 vs) d T)∧K_ w w'
theorem DoEnd.out {Kj:List Qq} {Kk:List ByteArray} {sl:List Qz} {name:ByteArray} {w w':World} {e:Ending} (h:DoEnd Kj Kk sl name w w' e):DoOut Kj Kk sl name w w' e:=by
 rcases h with ⟨h1,T,h2,ra,rc,d,dc,xs,rfl,hO,hQ,hP,k⟩ | ⟨h1,rfl,k⟩
 ·refine ⟨Kk,T,ra,rc,d,dc,rfl,.inl ⟨h1,rfl,h2⟩,fun u g vs hg ku=> ?_,k⟩
  obtain ⟨a9,c9,e9,h9⟩:=owned_strs hO
  simp only [Value.slice.injEq,true_and] at e9
  rw [<-e9.1] at h9
  obtain ⟨_,a8,c8,e8,h8⟩:=PackedX.runs hQ hP (K_.refl _)
  simp only [Value.slice.injEq,true_and] at e8
  rw [<-e8.1] at h8
  exact ⟨strs_sets h9 (fun _=> owns_lo hO) hg ku,(h8.lo (owns_lo hQ)).sets hg ku⟩
 ·exact ⟨[],[],none,0,none,0,rfl,.inr ⟨h1,rfl,rfl⟩,fun u g vs _ _=> ⟨fun i hi=> by simp at hi,fun i hi=> by simp at hi⟩,k⟩
theorem DoIEnd.ins {Kj:List Qq} {Kk:List ByteArray} {sl:List Qz} {name:ByteArray} {w w':World} {e:Ending} (h:DoIEnd Kj Kk sl name w w' e): ∃(R:List ByteArray) (T:List Qz) (ra:Option Addr) (rc:Nat) (d:Option Addr) (dc mid:Nat),e= .returned (.agg #[.slice ra R.length rc,.slice d T.length dc])∧DoD Kj Kk sl name R T∧StrsIn w' w.heap.size mid ra R∧RunsInX w' mid w'.heap.size d T∧w.heap.size<=mid∧mid<=w'.heap.size∧K_ w w':=by
 rcases h with ⟨h1,T,h2,ra,ds,mid,rfl,hO,hQ,m1,m2,k⟩ | ⟨h1,rfl,k⟩
 ·exact ⟨Kk,T,ra,_,ds,_,mid,rfl,.inl ⟨h1,rfl,h2⟩,hO,hQ,m1,m2,k⟩
 ·exact ⟨[],[],none,0,none,0,w.heap.size,rfl,.inr ⟨h1,rfl,rfl⟩,.inl rfl,.inl rfl,Nat.le_refl _,k.size,k⟩
theorem DoIEnd.out {Kj:List Qq} {Kk:List ByteArray} {sl:List Qz} {name:ByteArray} {w w':World} {e:Ending} (h:DoIEnd Kj Kk sl name w w' e):DoOut Kj Kk sl name w w' e:=by
 obtain ⟨R,T,ra,rc,d,dc,mid,rfl,hD,hS,hR,m1,m2,k⟩:=h.ins
 exact ⟨R,T,ra,rc,d,dc,rfl,hD,fun u g vs hg ku=> ⟨strs_sets hS.strs hS.lo hg ku,(hR.mono m1 (Nat.le_refl _)).lo.sets hg ku⟩,k⟩
theorem RowT.there {w:World} {b n:Nat} {t:TypeId} (h:RowT w b t n):w.there b 0 n:=fun j hj=> by
 obtain ⟨⟨v,hv⟩,hf⟩:=h.row.at hj
 rw [Nat.zero_add]
 exact ⟨by rw [hv];rfl,hf⟩
def turnV (u:Int) (qa:Option Addr) (ql qc:Nat) (ov fl:Bool) (tx:ByteArray):Value:= .agg #[.int .i64 u,.slice qa ql qc,.bool ov,.bool fl,.string tx]
theorem Tryz.sizeTurn5 : (Tryz.prog.info? 209).map (·.size)=some 5:=by kernel_rfl
theorem turn_one (u:Int) (qa:Option Addr) (ql qc:Nat) (ov fl:Bool) (tx:ByteArray): (#[Value.int .i64 u,Value.slice qa ql qc,Value.bool ov,Value.bool fl,Value.string tx].all (·.oneCell'))=true:=by simp [Value.oneCell']
theorem overWith_any (w:World) (fl:Bool) (tx:ByteArray):
  Calls Tryz.prog 145 #[.bool fl,.string tx] w fun e w'=> e= .returned (turnV 1 none 0 0 true fl tx)∧K_ w w':=by
 go_enter Tryz.func145,Tryz.ntmps145
 go_wp2
 exact X_ [.int .i64 1,.slice none 0 0,.bool true,.bool fl,.string tx] _ Tryz.results145 rfl (Xz w #[.int .i64 1,.slice none 0 0,.bool true,.bool fl,.string tx] 209) Tryz.underlying209 rfl Tryz.sizeTurn5 rfl ⟨rfl,(K_.refl _).alloc _⟩
def comeV (s:Xj) (aa:Option Addr) (ca:Nat) (L:List ByteArray):Value:=if s.fin=true then turnV 1 none 0 0 true s.bad (finB s.give L) else turnV 1 aa s.asks.length ca false false ⟨#[]⟩
theorem comeTo_any (wz w:World) (hFi:FinishOk wz) (kz:K_ wz w) (s:Xj) (aa:Option Addr) (ca:Nat) (ac:Option Addr) (cc:Nat) (xa:Option Addr) (xc:Nat) (L:List ByteArray) (hg:s.give.size<=maxLen) (hl:L.length<=maxLen) (hc:L.length<=xc) (hT:Strs w xa L):
  Calls Tryz.prog 142 #[.agg #[.slice aa s.asks.length ca,.int .i64 s.on,.slice ac s.cases.length cc,.int .i64 s.els,.int .i64 s.fall,.bool s.fin,.bool s.bad,.string s.give],.slice xa L.length xc] w fun e w'=> e= .returned (comeV s aa ca L)∧K_ w w':=by
 obtain ⟨W0,hW0⟩: ∃W0,W0= (w.alloc (.cells #[.slice aa s.asks.length ca,.int .i64 s.on,.slice ac s.cases.length cc,.int .i64 s.els,.int .i64 s.fall,.bool s.fin,.bool s.bad,.string s.give] 191)).alloc (.cells #[.int .i64 0,.slice none 0 0,.bool false,.bool false,.string ⟨#[]⟩] 209):= ⟨_,rfl⟩
 have k0:K_ w W0:=by rw [hW0];exact ((K_.refl _).alloc _).alloc _
 have HRes:Hid (RowT W0 (w.heap.size+1) 209 5):=by
  have h:=RowT.made (w.alloc (.cells #[.slice aa s.asks.length ca,.int .i64 s.on,.slice ac s.cases.length cc,.int .i64 s.els,.int .i64 s.fall,.bool s.fin,.bool s.bad,.string s.give] 191)) #[.int .i64 0,.slice none 0 0,.bool false,.bool false,.string ⟨#[]⟩] 209
  rw [World.size_alloc] at h
  rw [hW0]
  exact h
 have hst:=Xz w #[.slice aa s.asks.length ca,.int .i64 s.on,.slice ac s.cases.length cc,.int .i64 s.els,.int .i64 s.fall,.bool s.fin,.bool s.bad,.string s.give] 191
 have z0:w.heap.size < W0.heap.size:=by rw [hW0];simp;omega
 have HC:Hid (∀u,K_ W0 u->u.cell? ⟨w.heap.size,0,none⟩=some (.slice aa s.asks.length ca)∧u.cell? ⟨w.heap.size,5,none⟩=some (.bool s.fin)∧u.cell? ⟨w.heap.size,6,none⟩=some (.bool s.bad)∧u.cell? ⟨w.heap.size,7,none⟩=some (.string s.give)):=fun u K=> by
  have kk:K_ (w.alloc (.cells #[.slice aa s.asks.length ca,.int .i64 s.on,.slice ac s.cases.length cc,.int .i64 s.els,.int .i64 s.fall,.bool s.fin,.bool s.bad,.string s.give] 191)) u:=K_.trans (by rw [hW0];exact (K_.refl _).alloc _) K
  have hz:w.heap.size < (w.alloc (.cells #[.slice aa s.asks.length ca,.int .i64 s.on,.slice ac s.cases.length cc,.int .i64 s.els,.int .i64 s.fall,.bool s.fin,.bool s.bad,.string s.give] 191)).heap.size:=by simp
  exact ⟨(kk.cell hz).trans (hst 0 _ rfl),(kk.cell hz).trans (hst 5 _ rfl),(kk.cell hz).trans (hst 6 _ rfl),(kk.cell hz).trans (hst 7 _ rfl)⟩
 have HK0:=Kz k0
 clear hst k0
 go_enter Tryz.func142,Tryz.ntmps142
 go_upto_region 1 with fail
 rw [<-hW0]
 clear hW0
 obtain ⟨c0,c5,c6,c7⟩:=HC.out W0 (K_.refl _)
 cases hfin:s.fin
 ·rw [hfin] at c5
  obtain ⟨⟨_,fa0⟩,fb0⟩:=HRes.out.row.at (i:=0) (by omega)
  obtain ⟨⟨_,fa1⟩,fb1⟩:=HRes.out.row.at (i:=1) (by omega)
  obtain ⟨⟨_,fa2⟩,fb2⟩:=HRes.out.row.at (i:=2) (by omega)
  obtain ⟨⟨_,fa3⟩,fb3⟩:=HRes.out.row.at (i:=3) (by omega)
  obtain ⟨⟨_,fa4⟩,fb4⟩:=HRes.out.row.at (i:=4) (by omega)
  have hrz:=HRes.out.lt
  have HFin:=Kz hfin
  clear hfin
  go_wp2
  have hX:=World.rangeAt_setCells_same W0 (w.heap.size+1) 0 [.int .i64 1,.slice aa s.asks.length ca,.bool false,.bool false,.string ⟨#[]⟩] (HRes.out.row.there (o:=0) (m:=5) (Nat.le_refl _))
  refine X_ [.int .i64 1,.slice aa s.asks.length ca,.bool false,.bool false,.string ⟨#[]⟩] _ Tryz.results142 rfl hX Tryz.underlying209 rfl Tryz.sizeTurn5 rfl ⟨?_, ?_⟩
  ·unfold comeV;rw [if_neg (by rw [HFin.out];simp)];rfl
  ·exact kept_sets (g:=w.heap.size+1) (by omega) [.int .i64 1,.slice aa s.asks.length ca,.bool false,.bool false,.string ⟨#[]⟩] 0 HK0.out
 ·rw [hfin] at c5
  have HFin:=Kz hfin
  have Zz:Hid (∀u,K_ W0 u->u.cell? ⟨w.heap.size,6,none⟩=some (.bool s.bad)∧u.cell? ⟨w.heap.size,7,none⟩=some (.string s.give)):=fun u K=> ⟨(HC.out u K).2.2.1,(HC.out u K).2.2.2⟩
  clear hfin c0
  go_upto_region 2 with fail
  clear c5 c6 c7
  refine Qx.rg 7 Zz.out fun wd KD Z_=> ?_
  refine Qx.tk 0 Z_ ?_
  refine Qx.tk 1 Z_ ?_
  refine Qx.tk 2 Z_ ?_
  refine Qx.tk 3 Z_ ?_
  refine Qx.tk 4 Z_ ?_
  refine Qx.nx 5 (fun K hK=> ?_)
  rw [if_pos (by rfl)]
  go_simp
  go_at_call 161
  refine (hFi wd s.give xa xc L (kz.trans (HK0.out.trans KD)) hg hl (hT.kept (HK0.out.trans KD)) hc).mono ?_
  rintro e w6 ⟨rfl,k6⟩
  have K6:=KD.trans k6
  dsimp only
  refine hK.out _ _ (fun _=> Zz.out _ K6) ?_
  clear hK K Z_
  try simp only [Act.put,upA,upB,upC]
  refine Qx.nx 6 (fun K hK=> ?_)
  rw [if_pos (by rfl)]
  go_simp
  go_at_call 145
  refine (overWith_any w6 s.bad (finB s.give L)).mono ?_
  rintro e w7 ⟨rfl,k7⟩
  have K7:=K6.trans k7
  dsimp only
  refine hK.out _ _ (fun _=> Zz.out _ K7) ?_
  clear hK K
  try simp only [Act.put,upA,upB,upC]
  have HR7:=Kz (HRes.out.kept K7)
  refine Qx.nx 7 (fun K hK=> ?_)
  rw [if_pos (by rfl)]
  refine wp_store_mid 209 _ _ rfl (w.heap.size+1) 0 #[.int .i64 1,.slice none 0 0,.bool true,.bool s.bad,.string (finB s.give L)] (by rfl) (by rfl) HR7.out.there (by kernel_rfl) (turn_one ..) ?_
  refine hK.out _ _ (fun h=> absurd rfl h) ?_
  clear hK K
  try simp only [Act.put]
  refine Qx.dn ?_
  go_wp2
  have hX:=World.rangeAt_setCells_same w7 (w.heap.size+1) 0 [.int .i64 1,.slice none 0 0,.bool true,.bool s.bad,.string (finB s.give L)] (HR7.out.row.there (o:=0) (m:=5) (Nat.le_refl _))
  refine X_ [.int .i64 1,.slice none 0 0,.bool true,.bool s.bad,.string (finB s.give L)] _ Tryz.results142 rfl hX Tryz.underlying209 rfl Tryz.sizeTurn5 rfl ⟨?_, ?_⟩
  ·unfold comeV;rw [if_pos HFin.out];rfl
  ·exact kept_sets (g:=w.heap.size+1) (by omega) [.int .i64 1,.slice none 0 0,.bool true,.bool s.bad,.string (finB s.give L)] 0 (HK0.out.trans K7)
structure CloM where
 r:Qz
 cost:Int
 steps:List Xj
 sa:Option Addr
 sc:Nat
 vb:Nat
 ab:Nat
 tb:Nat
 xb:Nat
 tv:Value
def CloM.own (t:CloM):List Nat:=[t.vb,t.tb,t.xb]++t.tv.ownBlock.toList
def CloM.fn (t:CloM):Value:= .func (.func 141) #[] #[ptrB t.vb,ptrB t.ab,ptrB t.tb,ptrB t.xb]
structure CloAt (base:Nat) (w:World) (t:CloM):Prop where
 rv:RowT w t.vb 3 1
 cv:w.cell? ⟨t.vb,0,none⟩=some (.int .i64 t.r.Zj)
 rt:RowT w t.tb 3 1
 ct:w.cell? ⟨t.tb,0,none⟩=some (.int .i64 t.r.at')
 rx:RowT w t.xb 25 1
 cx:w.cell? ⟨t.xb,0,none⟩=some t.tv
 ra:RowT w t.ab 86 2
 ca:w.cell? ⟨t.ab,1,none⟩=some (.slice t.sa t.steps.length t.sc)
 txt:w.ownsRow base 9 1 t.tv t.r.texts.length (t.r.texts.map Value.string)
 low:base<=t.vb∧base<=t.tb∧base<=t.xb∧base<=t.ab
 ne:t.vb≠t.tb
theorem mem_own {t:CloM} {x:Nat}:x∈t.own↔x=t.vb∨x=t.tb∨x=t.xb∨t.tv.ownBlock=some x:=by
 unfold CloM.own
 rw [List.mem_append,Option.mem_toList]
 simp only [List.mem_cons,List.not_mem_nil,or_false]
 constructor
 ·rintro ((h | h | h) | h)
  ·exact .inl h
  ·exact .inr (.inl h)
  ·exact .inr (.inr (.inl h))
  ·exact .inr (.inr (.inr h))
 ·rintro (h | h | h | h)
  ·exact .inl (.inl h)
  ·exact .inl (.inr (.inl h))
  ·exact .inl (.inr (.inr h))
  ·exact .inr h
theorem CloAt.own_type {base:Nat} {w:World} {t:CloM} (h:CloAt base w t) {x:Nat} (hx:x∈t.own): (TypeAt w x 3∨TypeAt w x 25∨TypeAt w x 9)∧base<=x∧x < w.heap.size:=by
 rcases mem_own.1 hx with rfl | rfl | rfl | e
 ·exact ⟨.inl h.rv.type,h.low.1,h.rv.lt⟩
 ·exact ⟨.inl h.rt.type,h.low.2.1,h.rt.lt⟩
 ·exact ⟨.inr (.inl h.rx.type),h.low.2.2.1,h.rx.lt⟩
 ·exact ⟨.inr (.inr (Yz h.txt e)),h.txt.lt x e⟩
theorem CloAt.own_ne {base:Nat} {w:World} {t:CloM} (h:CloAt base w t) {b:Nat} {u:TypeId} (hu:TypeAt w b u) (h1:u≠3) (h2:u≠25) (h3:u≠9):b∉t.own:=fun hb=> by
 rcases (h.own_type hb).1 with g | g | g
 ·exact type_ne hu g h1 rfl
 ·exact type_ne hu g h2 rfl
 ·exact type_ne hu g h3 rfl
theorem CloAt.but {base:Nat} {S:Nat->Prop} {w w':World} {t:CloM} (h:CloAt base w t) (k:But S w w') (h1: ∀x∈t.own,¬S x) (h2: ¬S t.ab):CloAt base w' t:=by
 have s1:=h1 t.vb (mem_own.2 (.inl rfl))
 have s2:=h1 t.tb (mem_own.2 (.inr (.inl rfl)))
 have s3:=h1 t.xb (mem_own.2 (.inr (.inr (.inl rfl))))
 exact ⟨k.row h.rv s1,(k.cell h.rv.lt s1).trans h.cv,k.row h.rt s2,(k.cell h.rt.lt s2).trans h.ct,k.row h.rx s3,(k.cell h.rx.lt s3).trans h.cx,k.row h.ra h2,(k.cell h.ra.lt h2).trans h.ca,k.owns h.txt (fun b hb=> h1 b (mem_own.2 (.inr (.inr (.inr hb))))),h.low,h.ne⟩
theorem CloAt.kept {base:Nat} {w w':World} {t:CloM} (h:CloAt base w t) (k:K_ w w'):CloAt base w' t:=h.but (S:=fun _=> False) (But.of_kept k) (fun _ _=> id) id
theorem but_set {w:World} (b o:Nat) (v:Value):But (fun x=> x=b) w (w.setCell ⟨b,o,none⟩ v):=But.set (S:=fun x=> x=b) (But.of_kept (K_.refl w)) (p:= ⟨b,o,none⟩) rfl v
theorem but_setsK {S:Nat->Prop} {w:World} {g:Nat} (hg:S g∨w.heap.size<=g): ∀(vs:List Value) (o:Nat) {u:World},But S w u->But S w (u.setCells g o vs)
 | [],_,_,h=> h
 | v :: r,o,u,h=> by
  rw [World.setCells]
  refine but_setsK hg r (o+1) ?_
  rcases hg with e | e
  ·exact h.set (p:= ⟨g,o,none⟩) e v
  ·exact ⟨h.os,h.tape,h.output,by rw [size_setCell];exact h.size,fun b hb hn=> by rw [Below.heap_setCell _ _ _ _ (fun e'=> by have e2:b=g:=e';omega)];exact h.block b hb hn⟩
theorem CloAt.visit {base:Nat} {w:World} {t:CloM} (h:CloAt base w t) (v:Int):CloAt base (w.setCell ⟨t.vb,0,none⟩ (.int .i64 v)) { t with r:= { t.r with Zj:=v } }:=by
 have k:=but_set (w:=w) t.vb 0 (.int .i64 v)
 have n1: ¬t.tb=t.vb:=fun e=> h.ne e.symm
 have n2: ¬t.xb=t.vb:=type_ne h.rx.type h.rv.type (by decide)
 have n3: ¬t.ab=t.vb:=type_ne h.ra.type h.rv.type (by decide)
 obtain ⟨⟨_,f1⟩,f2⟩:=h.rv.row.at (i:=0) (by omega)
 exact ⟨h.rv.set _,World.cell?_setCell_same _ _ _ (by rw [f1]),k.row h.rt n1,(k.cell h.rt.lt n1).trans h.ct,k.row h.rx n2,(k.cell h.rx.lt n2).trans h.cx,k.row h.ra n3,(k.cell h.ra.lt n3).trans h.ca,k.owns h.txt (fun b hb=> type_ne (Yz h.txt hb) h.rv.type (by decide)),h.low,h.ne⟩
theorem CloAt.goto {base:Nat} {w:World} {t:CloM} (h:CloAt base w t) (v:Int):CloAt base (w.setCell ⟨t.tb,0,none⟩ (.int .i64 v)) { t with r:= { t.r with at':=v } }:=by
 have k:=but_set (w:=w) t.tb 0 (.int .i64 v)
 have n1: ¬t.vb=t.tb:=h.ne
 have n2: ¬t.xb=t.tb:=type_ne h.rx.type h.rt.type (by decide)
 have n3: ¬t.ab=t.tb:=type_ne h.ra.type h.rt.type (by decide)
 obtain ⟨⟨_,f1⟩,f2⟩:=h.rt.row.at (i:=0) (by omega)
 exact ⟨k.row h.rv n1,(k.cell h.rv.lt n1).trans h.cv,h.rt.set _,World.cell?_setCell_same _ _ _ (by rw [f1]),k.row h.rx n2,(k.cell h.rx.lt n2).trans h.cx,k.row h.ra n3,(k.cell h.ra.lt n3).trans h.ca,k.owns h.txt (fun b hb=> type_ne (Yz h.txt hb) h.rt.type (by decide)),h.low,h.ne⟩
theorem CloAt.more {base:Nat} {w w1:World} {t:CloM} (h:CloAt base w t) {v':Value} {l:List ByteArray} (ho:w1.ownsRow base 9 1 v' (t.r.texts.length+l.length) (t.r.texts.map Value.string++l.map Value.string)) (hg:w.grownBy w1 t.tv.ownBlock):CloAt base (w1.setCell ⟨t.xb,0,none⟩ v') { t with tv:=v',r:= { t.r with texts:=t.r.texts++l } }:=by
 have k1:But (fun b=> t.tv.ownBlock=some b) w w1:=But.of_grown hg (fun b e=> e)
 have k:But (fun b=> t.tv.ownBlock=some b∨b=t.xb) w (w1.setCell ⟨t.xb,0,none⟩ v'):= (k1.mono (fun b _ e=> .inl e)).set (p:= ⟨t.xb,0,none⟩) (.inr rfl) v'
 have ns: ∀{b:Nat} {u:TypeId},TypeAt w b u->u≠9->u≠25->¬(t.tv.ownBlock=some b∨b=t.xb):=fun hu h1 h2 e=> by
  rcases e with e | e
  ·exact type_ne hu (Yz h.txt e) h1 rfl
  ·exact type_ne hu h.rx.type h2 e
 have rx1:RowT w1 t.xb 25 1:=k1.row h.rx (fun e=> type_ne h.rx.type (Yz h.txt e) (by decide) rfl)
 obtain ⟨⟨_,f1⟩,f2⟩:=rx1.row.at (i:=0) (by omega)
 have n1:=ns h.rv.type (by decide) (by decide)
 have n2:=ns h.rt.type (by decide) (by decide)
 have n3:=ns h.ra.type (by decide) (by decide)
 refine ⟨k.row h.rv n1,(k.cell h.rv.lt n1).trans h.cv,k.row h.rt n2,(k.cell h.rt.lt n2).trans h.ct,rx1.set _,World.cell?_setCell_same _ _ _ (by rw [f1]),k.row h.ra n3,(k.cell h.ra.lt n3).trans h.ca, ?_,h.low,h.ne⟩
 show (w1.setCell ⟨t.xb,0,none⟩ v').ownsRow base 9 1 v' (t.r.texts++l).length ((t.r.texts++l).map Value.string)
 rw [List.length_append,List.map_append]
 exact (but_set (w:=w1) t.xb 0 v').owns ho (fun b e=> type_ne (Yz ho e) rx1.type (by decide))
theorem But.trans' {S:Nat->Prop} {w u v:World} (h:But S w u) (k:K_ u v):But S w v:=h.trans (But.of_kept k)
theorem clo_spent (w:World) {t:CloM} {base:Nat} (hC:CloAt base w t) (h20:t.r.Zj=20) (av:Value):
  Calls Tryz.prog 141 #[av,.pointer (some ⟨t.vb,0,none⟩),.pointer (some ⟨t.ab,0,none⟩),.pointer (some ⟨t.tb,0,none⟩),.pointer (some ⟨t.xb,0,none⟩)] w fun e w'=> e= .returned (turnV 0 none 0 0 true true spentB)∧K_ w w':=by
 have c0:=hC.cv
 rw [h20] at c0
 have vz:=hC.rv.lt
 have HC:=Kz hC
 clear hC h20
 go_enter Tryz.func141,Tryz.ntmps141
 go_wp2
 exact X_ [.int .i64 0,.slice none 0 0,.bool true,.bool true,.string spentB] _ Tryz.results141 rfl (Xz w #[.int .i64 0,.slice none 0 0,.bool true,.bool true,.string spentB] 209) Tryz.underlying209 rfl Tryz.sizeTurn5 rfl ⟨rfl,(K_.refl _).alloc _⟩
def Come (wz w:World) (t t':CloM) (s:Xj) (w':World) (e:Ending):Prop:= ∃(aa:Option Addr) (ca:Nat),e= .returned (comeV s aa ca t'.r.texts)∧Strs wz aa s.asks∧CloAt wz.heap.size w' t'∧But (· ∈t.own) w w'
theorem clo_first (wz w:World) (hFi:FinishOk wz) (kz:K_ wz w) {t:CloM} (hC:CloAt wz.heap.size w t) (hst:Steps wz t.sa t.steps) (h0:t.r.Zj=0) (ix:Nat) (hix:t.r.at'= (ix:Int)) (hixl:ix < t.steps.length) (s:Xj) (hs:s=t.steps.getD ix Xj.zero) (hgiv:s.give.size<=maxLen) (hl:t.r.texts.length<=1000) (av:Value):
  Calls Tryz.prog 141 #[av,.pointer (some ⟨t.vb,0,none⟩),.pointer (some ⟨t.ab,0,none⟩),.pointer (some ⟨t.tb,0,none⟩),.pointer (some ⟨t.xb,0,none⟩)] w fun e w'=> Come wz w t { t with r:= { t.r with Zj:=1 } } s w' e:=by
 obtain ⟨W0,hW0⟩: ∃W0,W0=w.alloc (.cells #[.int .i64 0,.slice none 0 0,.bool false,.bool false,.string ⟨#[]⟩] 209):= ⟨_,rfl⟩
 have k0:K_ w W0:=by rw [hW0];exact (K_.refl _).alloc _
 have HR0:Hid (RowT W0 w.heap.size 209 5):=by rw [hW0];exact RowT.made w #[.int .i64 0,.slice none 0 0,.bool false,.bool false,.string ⟨#[]⟩] 209
 have HC0:=Kz hC
 have HCa:=Kz (hC.kept k0)
 have hnew: ∀x∈t.own,x≠w.heap.size:=fun x hx e=> by have:= (hC.own_type hx).2.2;omega
 have habz:t.ab≠w.heap.size:=fun e=> by have:=hC.ra.lt;omega
 have hkS: ∀{u:World},But (· ∈t.own) w u->K_ wz u:=fun h=> h.kept kz (fun b hb=> (hC.own_type hb).2.1)
 have c0:W0.cell? ⟨t.vb,0,none⟩=some (.int .i64 t.r.Zj):=HCa.out.cv
 obtain ⟨⟨_,f1⟩,f0⟩:=HCa.out.rv.row.at (i:=0) (by omega)
 have vz:=HCa.out.rv.lt
 have hvw:=hC.rv.lt
 have HB0:Hid (But (· ∈t.own) w (W0.setCell ⟨t.vb,0,none⟩ (.int .i64 1))):=But.set (S:= (· ∈t.own)) (But.of_kept k0) (p:= ⟨t.vb,0,none⟩) (mem_own.2 (.inl rfl)) _
 obtain ⟨W1,hW1⟩: ∃W1,W1=W0.setCell ⟨t.vb,0,none⟩ (.int .i64 1):= ⟨_,rfl⟩
 have HCW1:Hid (CloAt wz.heap.size W1 { t with r:= { t.r with Zj:=1 } }):=by rw [hW1];exact HCa.out.visit 1
 have HRW1:Hid (RowT W1 w.heap.size 209 5):=by rw [hW1];exact (but_set (w:=W0) t.vb 0 (.int .i64 1)).row HR0.out (fun e=> by omega)
 have HBW1:Hid (But (· ∈t.own) w W1):=by rw [hW1];exact HB0.out
 have kzW1:=hkS HBW1.out
 have hsub: ∀x∈t.own,x∈t.own:=fun _ h=> h
 rw [h0] at c0
 have HH0:=Kz h0
 clear h0 hC k0 HB0 f1
 go_enter Tryz.func141,Tryz.ntmps141
 go_upto_region 1 with fail
 rw [<-hW0]
 clear hW0
 go_upto_region 5 with fail
 rw [<-hW1]
 clear hW1 c0 f0 vz
 obtain ⟨sb,so,cs,esa,hsb,hcs,aa,ca,ac,cc,rfl,hAs,hCs,_⟩:=hst ix hixl
 rw [<-hs] at hcs hAs hCs
 have t0:W1.cell? ⟨sb,so+ix * 8,none⟩=some (.slice aa s.asks.length ca):= (kzW1.cell hsb).trans (hcs 0 _ rfl)
 have t1:W1.cell? ⟨sb,so+ix * 8+1,none⟩=some (.int .i64 s.on):= (kzW1.cell hsb).trans (hcs 1 _ rfl)
 have t2:W1.cell? ⟨sb,so+ix * 8+2,none⟩=some (.slice ac s.cases.length cc):= (kzW1.cell hsb).trans (hcs 2 _ rfl)
 have t3:W1.cell? ⟨sb,so+ix * 8+3,none⟩=some (.int .i64 s.els):= (kzW1.cell hsb).trans (hcs 3 _ rfl)
 have t4:W1.cell? ⟨sb,so+ix * 8+4,none⟩=some (.int .i64 s.fall):= (kzW1.cell hsb).trans (hcs 4 _ rfl)
 have t5:W1.cell? ⟨sb,so+ix * 8+5,none⟩=some (.bool s.fin):= (kzW1.cell hsb).trans (hcs 5 _ rfl)
 have t6:W1.cell? ⟨sb,so+ix * 8+6,none⟩=some (.bool s.bad):= (kzW1.cell hsb).trans (hcs 6 _ rfl)
 have t7:W1.cell? ⟨sb,so+ix * 8+7,none⟩=some (.string s.give):= (kzW1.cell hsb).trans (hcs 7 _ rfl)
 have c8:W1.cell? ⟨t.ab,1,none⟩=some (.slice (some ⟨sb,so,none⟩) t.steps.length t.sc):=by rw [<-esa];exact HCW1.out.ca
 have c4:W1.cell? ⟨t.tb,0,none⟩=some (.int .i64 (ix:Int)):=by rw [<-hix];exact HCW1.out.ct
 obtain ⟨xa,xc,hxe,hxS⟩:=owned_strs HCW1.out.txt
 have hxE:=Kz hxe
 have HXS:=Kz hxS
 have HXC:Hid (t.r.texts.length<=xc):=by
  have h1:=HCW1.out.txt
  rw [hxe] at h1
  show _<=_
  rcases h1.2 with ⟨e,h0⟩ | ⟨g,cp,cur,e,_,_,hnc,_⟩
  ·have h0':t.r.texts.length=0:=h0
   omega
  ·simp only [Value.slice.injEq] at e
   have hnc':t.r.texts.length<=cp:=hnc
   omega
 have cx:W1.cell? ⟨t.xb,0,none⟩=some (.slice xa t.r.texts.length xc):=by rw [<-hxe];exact HCW1.out.cx
 have az:=HCW1.out.ra.lt
 have tz:=HCW1.out.rt.lt
 have xz:=HCW1.out.rx.lt
 have sz:sb < W1.heap.size:=Nat.lt_of_lt_of_le hsb kzW1.size
 have Zz:Hid (∀u,K_ W1 u->u.cell? ⟨t.ab,1,none⟩=some (.slice (some ⟨sb,so,none⟩) t.steps.length t.sc)∧u.cell? ⟨t.tb,0,none⟩=some (.int .i64 (ix:Int))∧u.cell? ⟨sb,so+ix * 8,none⟩=some (.slice aa s.asks.length ca)∧u.cell? ⟨sb,so+ix * 8+1,none⟩=some (.int .i64 s.on)∧u.cell? ⟨sb,so+ix * 8+2,none⟩=some (.slice ac s.cases.length cc)∧u.cell? ⟨sb,so+ix * 8+3,none⟩=some (.int .i64 s.els)∧u.cell? ⟨sb,so+ix * 8+4,none⟩=some (.int .i64 s.fall)∧u.cell? ⟨sb,so+ix * 8+5,none⟩=some (.bool s.fin)∧u.cell? ⟨sb,so+ix * 8+6,none⟩=some (.bool s.bad)∧u.cell? ⟨sb,so+ix * 8+7,none⟩=some (.string s.give)∧u.cell? ⟨t.xb,0,none⟩=some (.slice xa t.r.texts.length xc)):=fun u K=> ⟨(K.cell az).trans c8,(K.cell tz).trans c4,(K.cell sz).trans t0,(K.cell sz).trans t1,(K.cell sz).trans t2,(K.cell sz).trans t3,(K.cell sz).trans t4,(K.cell sz).trans t5,(K.cell sz).trans t6,(K.cell sz).trans t7,(K.cell xz).trans cx⟩
 have HAs:=Kz hAs
 have hii: (ix:Int) < (t.steps.length:Int):=by omega
 have kzW:=kzW1
 have HHs:=Kz hs
 have HHix:=Kz hix
 clear hs hix hxe hxS c8 c4 cx az tz xz sz hsb hcs hAs hCs esa t0 t1 t2 t3 t4 t5 t6 t7
 obtain ⟨qa,ql,qc,ov,fl,tx,hcv⟩: ∃qa ql qc ov fl tx,comeV s aa ca t.r.texts=turnV 1 qa ql qc ov fl tx:=by
  unfold comeV
  split
  ·exact ⟨_,_,_,_,_,_,rfl⟩
  ·exact ⟨_,_,_,_,_,_,rfl⟩
 have HCV:=Kz hcv
 clear hcv
 refine Qx.rg 7 Zz.out fun wd KD Z_=> ?_
 refine Qx.tk 0 Z_ ?_
 refine Qx.tk 1 Z_ ?_
 refine Qx.tk 2 Z_ ?_
 refine Qx.tk 3 Z_ ?_
 refine Qx.tk 4 Z_ ?_
 refine Qx.tk 5 Z_ ?_
 refine Qx.nx 6 (fun K hK=> ?_)
 rw [if_pos (by rfl)]
 go_simp
 go_at_call 142
 refine (comeTo_any wz wd hFi (kzW.trans KD) s aa ca ac cc xa xc (t.r.texts) hgiv (by unfold maxLen;omega) HXC.out (HXS.out.kept KD)).mono ?_
 rintro e wc ⟨rfl,kc⟩
 have KC:=KD.trans kc
 rw [HCV.out]
 dsimp only [turnV]
 refine hK.out _ _ (fun _=> Zz.out _ KC) ?_
 clear hK K Z_
 try simp only [Act.put,upA,upB,upC]
 have HRC:=Kz (HRW1.out.kept KC)
 refine Qx.nx 7 (fun K hK=> ?_)
 rw [if_pos (by rfl)]
 refine wp_store_mid 209 _ _ rfl w.heap.size 0 #[.int .i64 1,.slice qa ql qc,.bool ov,.bool fl,.string tx] (by rfl) (by rfl) HRC.out.there (by kernel_rfl) (turn_one ..) ?_
 refine hK.out _ _ (fun h=> absurd rfl h) ?_
 clear hK K
 try simp only [Act.put]
 refine Qx.dn ?_
 go_wp2
 have hX:=World.rangeAt_setCells_same wc w.heap.size 0 [.int .i64 1,.slice qa ql qc,.bool ov,.bool fl,.string tx] (HRC.out.row.there (o:=0) (m:=5) (Nat.le_refl _))
 refine X_ [.int .i64 1,.slice qa ql qc,.bool ov,.bool fl,.string tx] _ Tryz.results141 rfl hX Tryz.underlying209 rfl Tryz.sizeTurn5 rfl ?_
 have HCC:=HCW1.out.kept KC
 have kS:But (fun b=> b=w.heap.size) wc (wc.setCells w.heap.size 0 [.int .i64 1,.slice qa ql qc,.bool ov,.bool fl,.string tx]):=but_setsK (S:=fun b=> b=w.heap.size) (.inl rfl) _ 0 (But.of_kept (K_.refl _))
 have hCE:=HCC.but kS (fun x hx e=> HCC.own_ne HRC.out.type (by decide) (by decide) (by decide) (by have e2:x=w.heap.size:=e;rw [<-e2];exact hx)) (fun e=> by have e2:t.ab=w.heap.size:=e;have h2:=HC0.out.ra.lt;exact habz e2)
 have hBE:=but_setsK (S:= (· ∈t.own)) (.inr (Nat.le_refl _)) [.int .i64 1,.slice qa ql qc,.bool ov,.bool fl,.string tx] 0 (HBW1.out.trans' KC)
 exact ⟨aa,ca,by rw [HCV.out];rfl,HAs.out,hCE,hBE⟩
def CloGone (wz w:World) (t:CloM) (g:GoneD) (xs:List Xq) (w':World) (e:Ending):Prop:=
 (g.over=true∧e= .returned (turnV 1 none 0 0 true true g.text)∧CloAt wz.heap.size w' { t with r:= { t.r with Zj:=t.r.Zj+1 } }∧But (· ∈t.own) w w')∨
 (g.over=false∧∃tv',Come wz w t { t with tv:=tv',r:= { t.r with Zj:=t.r.Zj+1,at':=g.at',texts:=t.r.texts++goodOf xs } } (t.steps.getD g.at'.toNat Xj.zero) w' e∧∀x,tv'.ownBlock=some x->t.tv.ownBlock=some x∨w.heap.size<=x)
theorem clo_again (wz w:World) (hFi:FinishOk wz) (kz:K_ wz w) {t:CloM} (hC:CloAt wz.heap.size w t) (hst:Steps wz t.sa t.steps) (hv0:0 < t.r.Zj) (hv20:t.r.Zj < 20) (ix:Nat) (hix:t.r.at'= (ix:Int)) (hixl:ix < t.steps.length) (s:Xj) (hs:s=t.steps.getD ix Xj.zero) (hfin:s.fin=false) (b0:Nat) (da:Option Addr) (dc:Nat) (xs:List Xq) (hO:w.ownsRow b0 75 2 (.slice da xs.length dc) xs.length (dAnsCells xs))
  (hxl:xs.length<=5) (hxt: ∀x∈xs,x.text.size<=200) (hfo:Followed s xs (goOnF s xs)) (hF:s.Fits) (hasz: ∀x∈s.asks,x.size<=20) (hon:s.asks.length≠0->0<=s.on∧s.on < s.asks.length) (hto: (goOnF s xs).over=false->0<=(goOnF s xs).at'∧(goOnF s xs).at' < t.steps.length∧(t.steps.getD (goOnF s xs).at'.toNat Xj.zero).give.size<=maxLen) (hl:t.r.texts.length<=900):
  Calls Tryz.prog 141 #[.slice da xs.length dc,.pointer (some ⟨t.vb,0,none⟩),.pointer (some ⟨t.ab,0,none⟩),.pointer (some ⟨t.tb,0,none⟩),.pointer (some ⟨t.xb,0,none⟩)] w fun e w'=> CloGone wz w t (goOnF s xs) xs w' e:=by
 obtain ⟨is,hst0,hst1,hst2,hst3⟩:=xInfo_parts Tryz.xInfoStr
 obtain ⟨W0,hW0⟩: ∃W0,W0=w.alloc (.cells #[.int .i64 0,.slice none 0 0,.bool false,.bool false,.string ⟨#[]⟩] 209):= ⟨_,rfl⟩
 have k0:K_ w W0:=by rw [hW0];exact (K_.refl _).alloc _
 have HR0:Hid (RowT W0 w.heap.size 209 5):=by rw [hW0];exact RowT.made w #[.int .i64 0,.slice none 0 0,.bool false,.bool false,.string ⟨#[]⟩] 209
 have HC0:=Kz hC
 have HCa:=Kz (hC.kept k0)
 have hnew: ∀x∈t.own,x≠w.heap.size:=fun x hx e=> by have:= (hC.own_type hx).2.2;omega
 have habz:t.ab≠w.heap.size:=fun e=> by have:=hC.ra.lt;omega
 have hkS: ∀{u:World},But (· ∈t.own) w u->K_ wz u:=fun h=> h.kept kz (fun b hb=> (hC.own_type hb).2.1)
 have c0:W0.cell? ⟨t.vb,0,none⟩=some (.int .i64 t.r.Zj):=HCa.out.cv
 obtain ⟨⟨_,f1⟩,f0⟩:=HCa.out.rv.row.at (i:=0) (by omega)
 have vz:=HCa.out.rv.lt
 have hvw:=hC.rv.lt
 obtain ⟨v,hv⟩: ∃v,v=t.r.Zj:= ⟨_,rfl⟩
 rw [<-hv] at c0 hv0 hv20
 have HB0:Hid (But (· ∈t.own) w (W0.setCell ⟨t.vb,0,none⟩ (.int .i64 (v+1)))):=But.set (S:= (· ∈t.own)) (But.of_kept k0) (p:= ⟨t.vb,0,none⟩) (mem_own.2 (.inl rfl)) _
 obtain ⟨W1,hW1⟩: ∃W1,W1=W0.setCell ⟨t.vb,0,none⟩ (.int .i64 (v+1)):= ⟨_,rfl⟩
 have HCW1:Hid (CloAt wz.heap.size W1 { t with r:= { t.r with Zj:=v+1 } }):=by rw [hW1];exact HCa.out.visit (v+1)
 have HRW1:Hid (RowT W1 w.heap.size 209 5):=by rw [hW1];exact (but_set (w:=W0) t.vb 0 (.int .i64 (v+1))).row HR0.out (fun e=> by omega)
 have HBW1:Hid (But (· ∈t.own) w W1):=by rw [hW1];exact HB0.out
 have kzW1:=hkS HBW1.out
 have HO1:Hid (W1.ownsRow b0 75 2 (.slice da xs.length dc) xs.length (dAnsCells xs)):=HBW1.out.owns hO (fun b hb=> hC.own_ne (Yz hO hb) (by decide) (by decide) (by decide))
 have HV:=Kz hv
 have hb1: (v == 20)=false:=by simp only [beq_eq_false_iff_ne,ne_eq];omega
 have hb2: (v+1 == 1)=false:=by simp only [beq_eq_false_iff_ne,ne_eq];omega
 obtain ⟨sb,so,cs,esa,hsb,hcs,aa,ca,ac,cc,rfl,hAs,hCs,_⟩:=hst ix hixl
 rw [<-hs] at hcs hAs hCs
 have t0:W1.cell? ⟨sb,so+ix * 8,none⟩=some (.slice aa s.asks.length ca):= (kzW1.cell hsb).trans (hcs 0 _ rfl)
 have t1:W1.cell? ⟨sb,so+ix * 8+1,none⟩=some (.int .i64 s.on):= (kzW1.cell hsb).trans (hcs 1 _ rfl)
 have t2:W1.cell? ⟨sb,so+ix * 8+2,none⟩=some (.slice ac s.cases.length cc):= (kzW1.cell hsb).trans (hcs 2 _ rfl)
 have t3:W1.cell? ⟨sb,so+ix * 8+3,none⟩=some (.int .i64 s.els):= (kzW1.cell hsb).trans (hcs 3 _ rfl)
 have t4:W1.cell? ⟨sb,so+ix * 8+4,none⟩=some (.int .i64 s.fall):= (kzW1.cell hsb).trans (hcs 4 _ rfl)
 have t5:W1.cell? ⟨sb,so+ix * 8+5,none⟩=some (.bool false):=by rw [<-hfin];exact (kzW1.cell hsb).trans (hcs 5 _ rfl)
 have t6:W1.cell? ⟨sb,so+ix * 8+6,none⟩=some (.bool s.bad):= (kzW1.cell hsb).trans (hcs 6 _ rfl)
 have t7:W1.cell? ⟨sb,so+ix * 8+7,none⟩=some (.string s.give):= (kzW1.cell hsb).trans (hcs 7 _ rfl)
 have c8:W1.cell? ⟨t.ab,1,none⟩=some (.slice (some ⟨sb,so,none⟩) t.steps.length t.sc):=by rw [<-esa];exact HCW1.out.ca
 have c4:W1.cell? ⟨t.tb,0,none⟩=some (.int .i64 (ix:Int)):=by rw [<-hix];exact HCW1.out.ct
 have az:=HCW1.out.ra.lt
 have tz:=HCW1.out.rt.lt
 have sz:sb < W1.heap.size:=Nat.lt_of_lt_of_le hsb kzW1.size
 have hii: (ix:Int) < (t.steps.length:Int):=by omega
 have HAs:=Kz hAs
 have HCs:=Kz hCs
 have HFo:=Kz hfo
 have HTo:=Kz hto
 have HFin:=Kz hfin
 have HO0:=Kz hO
 have HSt:=Kz hst
 have HIx:=Kz hix
 have HSe:=Kz hs
 clear hC hO k0 HB0 f1 hv hcs hAs hCs hfo hto esa hst hix hs
 go_enter Tryz.func141,Tryz.ntmps141
 go_upto_region 1 with fail
 rw [<-hW0]
 clear hW0
 go_upto_region 6 with fail
 rw [<-hW1]
 clear hW1 c0 f0 vz hb1 hb2
 go_wp2_with fail
 refine (kindOf_ask W1 s aa ac ca cc).mono ?_
 rintro e w5 ⟨rfl,k5⟩
 obtain ⟨a9,c9,e9,_,hTA⟩:=d_tans_of_owned HO1.out
 simp only [Value.slice.injEq] at e9
 obtain ⟨rfl,hq9,rfl⟩:=e9
 clear hq9
 have HAn:=Kz hTA.answers
 clear hTA c8 c4 t0 t1 t2 t3 t4 t5 t6 t7 az tz sz
 go_wp2_with fail
 refine (follow_ask w5 s HFin.out aa ac da ca cc dc xs hF (HAs.out.kept (kzW1.trans k5)) (HCs.out.kept (kzW1.trans k5)) (by unfold maxLen;omega) (fun c hc=> by have:=hxt c hc;unfold maxLen;omega) (HAn.out.kept k5) hon (fun q hq=> by simp only [List.getD,List.getElem?_eq_getElem hq,Option.getD_some];exact hasz _ (List.getElem_mem hq))).mono ?_
 rintro e w6 ⟨⟨g,rfl,hfg⟩,k6⟩
 have hgg:goOnF s xs=g:=HFo.out.unique hfg
 have HGG:=Kz hgg
 dsimp only [GoneD.cells]
 have K6:=k5.trans k6
 clear hfg hgg
 obtain ⟨w7,hw7⟩: ∃w7,w7=w6.alloc (.cells #[.int .i64 g.code,.bool g.over,.int .i64 g.at',.string g.text] 198):= ⟨_,rfl⟩
 have K67:K_ w6 w7:=by rw [hw7];exact (K_.refl _).alloc _
 have p1:w7.cell? ⟨w6.heap.size,1,none⟩=some (.bool g.over):=by rw [hw7];exact Xz w6 #[.int .i64 g.code,.bool g.over,.int .i64 g.at',.string g.text] 198 1 _ rfl
 have p2:w7.cell? ⟨w6.heap.size,2,none⟩=some (.int .i64 g.at'):=by rw [hw7];exact Xz w6 #[.int .i64 g.code,.bool g.over,.int .i64 g.at',.string g.text] 198 2 _ rfl
 have p3:w7.cell? ⟨w6.heap.size,3,none⟩=some (.string g.text):=by rw [hw7];exact Xz w6 #[.int .i64 g.code,.bool g.over,.int .i64 g.at',.string g.text] 198 3 _ rfl
 have hz67:w6.heap.size < w7.heap.size:=by rw [hw7];simp
 go_upto_region 7 with fail
 rw [<-hw7]
 clear hw7
 have K7:=K6.trans K67
 cases hgo:g.over
 ·rw [hgo] at p1
  have HGo:=Kz hgo
  obtain ⟨hto0,hto1,hgiv2⟩:=HTo.out (by rw [HGG.out];exact hgo)
  rw [HGG.out] at hto0 hto1 hgiv2
  obtain ⟨iy,hiy⟩: ∃iy:Nat,g.at'= (iy:Int):= ⟨g.at'.toNat,by omega⟩
  have hiyl:iy < t.steps.length:=by omega
  obtain ⟨s2,hs2⟩: ∃s2,s2=t.steps.getD iy Xj.zero:= ⟨_,rfl⟩
  have HS2:Hid (t.steps.getD g.at'.toNat Xj.zero=s2):=by rw [hs2,hiy];rfl
  rw [HS2.out] at hgiv2
  have HC7:=Kz (HCW1.out.kept K7)
  have c4:w7.cell? ⟨t.tb,0,none⟩=some (.int .i64 t.r.at'):=HC7.out.ct
  obtain ⟨⟨_,f1⟩,f0⟩:=HC7.out.rt.row.at (i:=0) (by omega)
  have tz:=HC7.out.rt.lt
  obtain ⟨w8,hw8⟩: ∃w8,w8=w7.setCell ⟨t.tb,0,none⟩ (.int .i64 g.at'):= ⟨_,rfl⟩
  have HC8:Hid (CloAt wz.heap.size w8 { t with r:= { t.r with Zj:=v+1,at':=g.at' } }):=by rw [hw8];exact HC7.out.goto g.at'
  have HR8:Hid (RowT w8 w.heap.size 209 5):=by rw [hw8];exact (but_set (w:=w7) t.tb 0 (.int .i64 g.at')).row (HRW1.out.kept K7) (fun e=> by have h1:=hnew t.tb (mem_own.2 (.inr (.inl rfl)));exact h1 e.symm)
  have HB8:Hid (But (· ∈t.own) w w8):=by rw [hw8];exact But.set (S:= (· ∈t.own)) (HBW1.out.trans' K7) (p:= ⟨t.tb,0,none⟩) (mem_own.2 (.inr (.inl rfl))) _
  have HA8:Hid (Answers w8 da xs):=by
   have h1:=HB8.out.owns HO0.out (fun b hb=> HC0.out.own_ne (Yz HO0.out hb) (by decide) (by decide) (by decide))
   obtain ⟨a9,c9,e9,_,hTA⟩:=d_tans_of_owned h1
   simp only [Value.slice.injEq] at e9
   rw [e9.1]
   exact hTA.answers
  have HTv:Hid (t.tv=t.tv):=rfl
  have HS10:Hid (∀u,K_ w8 u->u.cell? ⟨t.xb,0,none⟩=some (t.tv)):=fun u K=> (HC8.out.kept K).cx
  obtain ⟨ta,tc,htv⟩:=own_slice HC8.out.txt
  have Htv:=Kz htv
  have HIy:=Kz hiy
  clear hgo f1 HTv htv hs2 hiy
  go_upto_region 10 with fail
  rw [<-hw8]
  clear hw8 p1 p2 p3 f0 tz c4
  refine Qx.rg 4 HS10.out fun wd KD Z_=> ?_
  refine Qx.tk 0 Z_ ?_
  refine Qx.tk 1 Z_ ?_
  refine Qx.nx 2 (fun K hK=> ?_)
  rw [if_pos (by rfl)]
  go_simp
  go_at_call 146
  refine (goodTexts_any wd da dc xs (by omega) (HA8.out.kept KD)).mono ?_
  rintro e w9 ⟨⟨ga,gc,rfl,hG9⟩,k9⟩
  have K9:=KD.trans k9
  have HC9:=Kz (HC8.out.kept K9)
  have HG9:=Kz hG9
  have hz9:wz.heap.size<=w9.heap.size:=Nat.le_trans (hkS HB8.out).size K9.size
  have hgl: (goodOf xs).length<=5:=by have:=goodOf_len xs;omega
  refine hK.out _ _ (fun _=> HS10.out _ K9) ?_
  clear hK K Z_ hG9
  try simp only [Act.put,upA,upB,upC]
  refine Qx.nx 3 (fun K hK=> ?_)
  rw [if_pos (by rfl)]
  refine wp_append_strs (.tmp 38) (.tmp 40) 25 rfl wz.heap.size 9 is _ 16 Tryz.underlying25 hst0 hst1 hst2 hst3 rfl t.tv t.r.texts.length (t.r.texts.map Value.string) rfl HC9.out.txt ga gc (goodOf xs) rfl HG9.out (by unfold maxLen;omega) (by omega) hz9 ?_
  intro v' wA hoA hgA hvA
  obtain ⟨va,vc,rfl⟩:=own_slice hoA
  have HCA:=Kz (HC9.out.more hoA hgA)
  have kA:But (fun b=> t.tv.ownBlock=some b) w9 wA:=But.of_grown hgA (fun b e=> e)
  have HBA:Hid (But (· ∈t.own) w wA):= ((HB8.out.trans' K9).trans ((kA.mono (fun b _ e=> mem_own.2 (.inr (.inr (.inr e)))))))
  have HRA:Hid (RowT wA w.heap.size 209 5):=kA.row (HR8.out.kept K9) (fun e=> hnew _ (mem_own.2 (.inr (.inr (.inr e)))) rfl)
  have hrA:RowT wA t.xb 25 1:=kA.row HC9.out.rx (fun e=> type_ne HC9.out.rx.type (Yz HC9.out.txt e) (by decide) rfl)
  have HSA:Hid (wA.cell? ⟨t.xb,0,none⟩=some t.tv):= (kA.cell HC9.out.rx.lt (fun e=> type_ne HC9.out.rx.type (Yz HC9.out.txt e) (by decide) rfl)).trans HC9.out.cx
  have HVA:Hid (∀x,(Value.slice va (t.r.texts.length+ (goodOf xs).length) vc).ownBlock=some x->t.tv.ownBlock=some x∨w.heap.size<=x):=fun x hx=> by
   rcases hvA x hx with e | e
   ·exact .inl e
   ·exact .inr (Nat.le_trans (Nat.le_trans HB8.out.size K9.size) e)
  obtain ⟨⟨_,x6⟩,f6⟩:=hrA.row.at (i:=0) (by omega)
  have tzA:=hrA.lt
  refine hK.out _ _ (fun _=> HSA.out) ?_
  clear hK K hoA hgA hvA
  try simp only [Act.put,upA,upB,upC]
  refine Qx.nx 4 (fun K hK=> ?_)
  go_simp
  refine hK.out _ _ (fun h=> absurd rfl h) ?_
  clear hK K
  try simp only [Act.put,upA,upB,upC]
  refine Qx.dn ?_
  obtain ⟨L,hL⟩: ∃L,L=t.r.texts++goodOf xs:= ⟨_,rfl⟩
  obtain ⟨WB,hWB⟩: ∃WB,WB=wA.setCell ⟨t.xb,0,none⟩ (.slice va (t.r.texts.length+ (goodOf xs).length) vc):= ⟨_,rfl⟩
  have HCWB:Hid (CloAt wz.heap.size WB { t with tv:= .slice va (t.r.texts.length+ (goodOf xs).length) vc,r:= { t.r with Zj:=v+1,at':=g.at',texts:=L } }):=by rw [hWB,hL];exact HCA.out
  have HRWB:Hid (RowT WB w.heap.size 209 5):=by rw [hWB];exact (but_set (w:=wA) t.xb 0 _).row HRA.out (fun e=> hnew t.xb (mem_own.2 (.inr (.inr (.inl rfl)))) e.symm)
  have HBWB:Hid (But (· ∈t.own) w WB):=by rw [hWB];exact But.set (S:= (· ∈t.own)) HBA.out (p:= ⟨t.xb,0,none⟩) (mem_own.2 (.inr (.inr (.inl rfl)))) _
  have kzWB:=hkS HBWB.out
  have hst:=HSt.out
  have hs2:s2=t.steps.getD iy Xj.zero:=by rw [<-HS2.out,HIy.out];rfl
  have hiy:=HIy.out
  have htl:L.length<=1000:=by rw [hL,List.length_append];omega
  have HL:=Kz hL
  rw [<-hWB]
  clear hL hWB x6 f6 tzA hrA kA KD
  go_upto_region 11 with fail
  obtain ⟨sb2,so2,cs2,esa2,hsb2,hcs2,aa2,ca2,ac2,cc2,rfl,hAs2,hCs2,_⟩:=hst iy hiyl
  rw [<-hs2] at hcs2 hAs2 hCs2
  have t02:WB.cell? ⟨sb2,so2+iy * 8,none⟩=some (.slice aa2 s2.asks.length ca2):= (kzWB.cell hsb2).trans (hcs2 0 _ rfl)
  have t12:WB.cell? ⟨sb2,so2+iy * 8+1,none⟩=some (.int .i64 s2.on):= (kzWB.cell hsb2).trans (hcs2 1 _ rfl)
  have t22:WB.cell? ⟨sb2,so2+iy * 8+2,none⟩=some (.slice ac2 s2.cases.length cc2):= (kzWB.cell hsb2).trans (hcs2 2 _ rfl)
  have t32:WB.cell? ⟨sb2,so2+iy * 8+3,none⟩=some (.int .i64 s2.els):= (kzWB.cell hsb2).trans (hcs2 3 _ rfl)
  have t42:WB.cell? ⟨sb2,so2+iy * 8+4,none⟩=some (.int .i64 s2.fall):= (kzWB.cell hsb2).trans (hcs2 4 _ rfl)
  have t52:WB.cell? ⟨sb2,so2+iy * 8+5,none⟩=some (.bool s2.fin):= (kzWB.cell hsb2).trans (hcs2 5 _ rfl)
  have t62:WB.cell? ⟨sb2,so2+iy * 8+6,none⟩=some (.bool s2.bad):= (kzWB.cell hsb2).trans (hcs2 6 _ rfl)
  have t72:WB.cell? ⟨sb2,so2+iy * 8+7,none⟩=some (.string s2.give):= (kzWB.cell hsb2).trans (hcs2 7 _ rfl)
  have c8:WB.cell? ⟨t.ab,1,none⟩=some (.slice (some ⟨sb2,so2,none⟩) t.steps.length t.sc):=by rw [<-esa2];exact HCWB.out.ca
  have c4:WB.cell? ⟨t.tb,0,none⟩=some (.int .i64 (iy:Int)):=by rw [<-hiy];exact HCWB.out.ct
  obtain ⟨xa,xc,hxe,hxS⟩:=owned_strs HCWB.out.txt
  have hxE:=Kz hxe
  have HXS:=Kz hxS
  have HXC:Hid (L.length<=xc):=by
   have h1:=HCWB.out.txt
   rw [hxe] at h1
   show _<=_
   rcases h1.2 with ⟨e,h0⟩ | ⟨g,cp,cur,e,_,_,hnc,_⟩
   ·have h0':L.length=0:=h0
    omega
   ·simp only [Value.slice.injEq] at e
    have hnc':L.length<=cp:=hnc
    omega
  have cx:WB.cell? ⟨t.xb,0,none⟩=some (.slice xa L.length xc):=by rw [<-hxe];exact HCWB.out.cx
  have az:=HCWB.out.ra.lt
  have tz:=HCWB.out.rt.lt
  have xz:=HCWB.out.rx.lt
  have sz2:sb2 < WB.heap.size:=Nat.lt_of_lt_of_le hsb2 kzWB.size
  have Zz:Hid (∀u,K_ WB u->u.cell? ⟨t.ab,1,none⟩=some (.slice (some ⟨sb2,so2,none⟩) t.steps.length t.sc)∧u.cell? ⟨t.tb,0,none⟩=some (.int .i64 (iy:Int))∧u.cell? ⟨sb2,so2+iy * 8,none⟩=some (.slice aa2 s2.asks.length ca2)∧u.cell? ⟨sb2,so2+iy * 8+1,none⟩=some (.int .i64 s2.on)∧u.cell? ⟨sb2,so2+iy * 8+2,none⟩=some (.slice ac2 s2.cases.length cc2)∧u.cell? ⟨sb2,so2+iy * 8+3,none⟩=some (.int .i64 s2.els)∧u.cell? ⟨sb2,so2+iy * 8+4,none⟩=some (.int .i64 s2.fall)∧u.cell? ⟨sb2,so2+iy * 8+5,none⟩=some (.bool s2.fin)∧u.cell? ⟨sb2,so2+iy * 8+6,none⟩=some (.bool s2.bad)∧u.cell? ⟨sb2,so2+iy * 8+7,none⟩=some (.string s2.give)∧u.cell? ⟨t.xb,0,none⟩=some (.slice xa L.length xc)):=fun u K=> ⟨(K.cell az).trans c8,(K.cell tz).trans c4,(K.cell sz2).trans t02,(K.cell sz2).trans t12,(K.cell sz2).trans t22,(K.cell sz2).trans t32,(K.cell sz2).trans t42,(K.cell sz2).trans t52,(K.cell sz2).trans t62,(K.cell sz2).trans t72,(K.cell xz).trans cx⟩
  have HAs2:=Kz hAs2
  have hii2: (iy:Int) < (t.steps.length:Int):=by omega
  have kzW:=kzWB
  have HHs2:=Kz hs2
  have HHix:=Kz hiy
  clear hs2 hiy hxe hxS c8 c4 cx az tz xz sz2 hsb2 hcs2 hAs2 hCs2 esa2 t02 t12 t22 t32 t42 t52 t62 t72
  obtain ⟨qa,ql,qc,ov,fl,tx,hcv⟩: ∃qa ql qc ov fl tx,comeV s2 aa2 ca2 L=turnV 1 qa ql qc ov fl tx:=by
   unfold comeV
   split
   ·exact ⟨_,_,_,_,_,_,rfl⟩
   ·exact ⟨_,_,_,_,_,_,rfl⟩
  have HCV:=Kz hcv
  clear hcv
  refine Qx.rg 7 Zz.out fun wd KD Z_=> ?_
  refine Qx.tk 0 Z_ ?_
  refine Qx.tk 1 Z_ ?_
  refine Qx.tk 2 Z_ ?_
  refine Qx.tk 3 Z_ ?_
  refine Qx.tk 4 Z_ ?_
  refine Qx.tk 5 Z_ ?_
  refine Qx.nx 6 (fun K hK=> ?_)
  rw [if_pos (by rfl)]
  go_simp
  go_at_call 142
  refine (comeTo_any wz wd hFi (kzW.trans KD) s2 aa2 ca2 ac2 cc2 xa xc (L) hgiv2 (by unfold maxLen;omega) HXC.out (HXS.out.kept KD)).mono ?_
  rintro e wc ⟨rfl,kc⟩
  have KC:=KD.trans kc
  rw [HCV.out]
  dsimp only [turnV]
  refine hK.out _ _ (fun _=> Zz.out _ KC) ?_
  clear hK K Z_
  try simp only [Act.put,upA,upB,upC]
  have HRC:=Kz (HRWB.out.kept KC)
  refine Qx.nx 7 (fun K hK=> ?_)
  rw [if_pos (by rfl)]
  refine wp_store_mid 209 _ _ rfl w.heap.size 0 #[.int .i64 1,.slice qa ql qc,.bool ov,.bool fl,.string tx] (by rfl) (by rfl) HRC.out.there (by kernel_rfl) (turn_one ..) ?_
  refine hK.out _ _ (fun h=> absurd rfl h) ?_
  clear hK K
  try simp only [Act.put]
  refine Qx.dn ?_
  go_wp2
  have hX:=World.rangeAt_setCells_same wc w.heap.size 0 [.int .i64 1,.slice qa ql qc,.bool ov,.bool fl,.string tx] (HRC.out.row.there (o:=0) (m:=5) (Nat.le_refl _))
  refine X_ [.int .i64 1,.slice qa ql qc,.bool ov,.bool fl,.string tx] _ Tryz.results141 rfl hX Tryz.underlying209 rfl Tryz.sizeTurn5 rfl ?_
  have HCC:=HCWB.out.kept KC
  have kS:But (fun b=> b=w.heap.size) wc (wc.setCells w.heap.size 0 [.int .i64 1,.slice qa ql qc,.bool ov,.bool fl,.string tx]):=but_setsK (S:=fun b=> b=w.heap.size) (.inl rfl) _ 0 (But.of_kept (K_.refl _))
  have hCE:=HCC.but kS (fun x hx e=> HCC.own_ne HRC.out.type (by decide) (by decide) (by decide) (by have e2:x=w.heap.size:=e;rw [<-e2];exact hx)) (fun e=> by have e2:t.ab=w.heap.size:=e;have h2:=HC0.out.ra.lt;exact habz e2)
  have hBE:=but_setsK (S:= (· ∈t.own)) (.inr (Nat.le_refl _)) [.int .i64 1,.slice qa ql qc,.bool ov,.bool fl,.string tx] 0 (HBWB.out.trans' KC)
  rw [HGG.out]
  rw [HV.out,HL.out] at hCE
  refine .inr ⟨HGo.out,_,⟨aa2,ca2, ?_, ?_,hCE,hBE⟩,HVA.out⟩
  ·rw [HS2.out];show _=Ending.returned (comeV s2 aa2 ca2 (t.r.texts++goodOf xs));rw [<-HL.out,HCV.out];rfl
  ·rw [HS2.out];exact HAs2.out
 ·rw [hgo] at p1
  have HGo:=Kz hgo
  have HRW7:=Kz (HRW1.out.kept K7)
  clear hgo
  go_wp2_with fail
  refine (overWith_any w7 true g.text).mono ?_
  rintro e w8 ⟨rfl,k8⟩
  dsimp only [turnV]
  have K8:=K7.trans k8
  have HR8:=Kz (HRW1.out.kept K8)
  obtain ⟨⟨_,fa0⟩,fb0⟩:=HR8.out.row.at (i:=0) (by omega)
  obtain ⟨⟨_,fa1⟩,fb1⟩:=HR8.out.row.at (i:=1) (by omega)
  obtain ⟨⟨_,fa2⟩,fb2⟩:=HR8.out.row.at (i:=2) (by omega)
  obtain ⟨⟨_,fa3⟩,fb3⟩:=HR8.out.row.at (i:=3) (by omega)
  obtain ⟨⟨_,fa4⟩,fb4⟩:=HR8.out.row.at (i:=4) (by omega)
  have hrz:=HR8.out.lt
  clear p1 p2 p3
  go_wp2_with fail
  have hX:=World.rangeAt_setCells_same w8 w.heap.size 0 [.int .i64 1,.slice none 0 0,.bool true,.bool true,.string g.text] (HR8.out.row.there (o:=0) (m:=5) (Nat.le_refl _))
  refine X_ [.int .i64 1,.slice none 0 0,.bool true,.bool true,.string g.text] _ Tryz.results141 rfl hX Tryz.underlying209 rfl Tryz.sizeTurn5 rfl ?_
  have HCC:=HCW1.out.kept K8
  have kS:But (fun b=> b=w.heap.size) w8 (w8.setCells w.heap.size 0 [.int .i64 1,.slice none 0 0,.bool true,.bool true,.string g.text]):=but_setsK (S:=fun b=> b=w.heap.size) (.inl rfl) _ 0 (But.of_kept (K_.refl _))
  have hCE:=HCC.but kS (fun x hx e=> hnew x hx e) (fun e=> habz e)
  have hBE:=but_setsK (S:= (· ∈t.own)) (.inr (Nat.le_refl _)) [.int .i64 1,.slice none 0 0,.bool true,.bool true,.string g.text] 0 (HBW1.out.trans' K8)
  rw [HGG.out]
  rw [HV.out] at hCE
  exact .inl ⟨HGo.out,rfl,hCE,hBE⟩
def asksC (W:Acts) (r:Qz):List ByteArray:=if r.Zj=0∨r.over=true then [] else match W r.name with
 | some A=> (stepOf A r.at').asks
 | none=> []
theorem CloAt.like {base:Nat} {w:World} {t:CloM} (h:CloAt base w t) {r':Qz} (h1:t.r.Zj=r'.Zj) (h2:t.r.at'=r'.at') (h3:t.r.texts=r'.texts):CloAt base w { t with r:=r' }:=
 ⟨h.rv,by rw [h.cv,h1],h.rt,by rw [h.ct,h2],h.rx,h.cx,h.ra,h.ca,by have:=h.txt;rw [h3] at this;exact this,h.low,h.ne⟩
def CloEnd (wz w:World) (t:CloM) (r':Qz) (asks:List ByteArray) (w':World) (e:Ending):Prop:=
 ∃(tv':Value) (qa:Option Addr) (qc:Nat),e= .returned (turnV (r'.Zj - t.r.Zj) qa asks.length qc r'.over r'.fail r'.text)∧Strs wz qa asks∧CloAt wz.heap.size w' { t with r:=r',tv:=tv' }∧But (· ∈t.own) w w'∧∀x,tv'.ownBlock=some x->t.tv.ownBlock=some x∨w.heap.size<=x
theorem strs_no (w:World):Strs w none []:=fun i hi=> absurd hi (Nat.not_lt_zero i)
theorem come_end {wz w w':World} {t:CloM} {tv':Value} {r1 r2:Qz} {A:ActionD} {s:Xj} {e:Ending} (h:Come wz w t { t with tv:=tv',r:=r2 } s w' e) (hs:s=stepOf A r1.at') (hv:r1.Zj=t.r.Zj) (ho:r1.over=false) (hf:r1.fail=false) (hx:r1.text= ⟨#[]⟩) (g1:r2.Zj=r1.Zj+1) (g2:r2.at'=r1.at') (g3:r2.texts=r1.texts) (hend:s.fin=true->s.asks=[]) (htv: ∀x,tv'.ownBlock=some x->t.tv.ownBlock=some x∨w.heap.size<=x):CloEnd wz w t (arrive A r1).1 (arrive A r1).2 w' e:=by
 obtain ⟨aa,ca,rfl,hA,hC,hB⟩:=h
 cases hfin:s.fin with
 | true=>
  have e1:arrive A r1= ({ r1 with Zj:=r1.Zj+1,over:=true,fail:=s.bad,text:=finB s.give r1.texts },[]):=by
   unfold arrive
   rw [<-hs,hend hfin,if_pos hfin]
  rw [e1]
  refine ⟨tv',none,0, ?_,strs_no wz, ?_,hB,htv⟩
  ·unfold comeV
   rw [if_pos hfin]
   show Ending.returned (turnV 1 none 0 0 true s.bad (finB s.give r2.texts))=Ending.returned (turnV (r1.Zj+1 - t.r.Zj) none 0 0 true s.bad (finB s.give r1.texts))
   rw [g3,show r1.Zj+1 - t.r.Zj=1 by omega]
  ·exact hC.like g1 g2 g3
 | false=>
  have e1:arrive A r1= ({ r1 with Zj:=r1.Zj+1 },s.asks):=by
   unfold arrive
   rw [<-hs,if_neg (by rw [hfin];simp)]
  rw [e1]
  refine ⟨tv',aa,ca, ?_,hA, ?_,hB,htv⟩
  ·unfold comeV
   rw [if_neg (by rw [hfin];simp)]
   show Ending.returned (turnV 1 aa s.asks.length ca false false ⟨#[]⟩)=Ending.returned (turnV (r1.Zj+1 - t.r.Zj) aa s.asks.length ca r1.over r1.fail r1.text)
   rw [ho,hf,hx,show r1.Zj+1 - t.r.Zj=1 by omega]
  ·exact hC.like g1 g2 g3
def CloM.task (t:CloM):Zx:= ⟨0,t.r,t.cost,t.steps,t.sa,t.sc,0,t.tv,t.tv,[],⟨#[]⟩⟩
def taskR (r:Qz):Zx:= ⟨0,r,0,[],none,0,0,.slice none 0 0,.slice none 0 0,[],⟨#[]⟩⟩
theorem runs_task (l:List Qz):Qk (l.map taskR)=l:=by
 unfold Qk
 rw [List.map_map]
 exact (List.map_congr_left (fun _ _=> rfl)).trans (List.map_id l)
theorem clo_any {Kj:List Qq} {sl:List Qz} (hok:ActsOk (Q_ Kj)) (hft: ∀y∈Kj,y.Fits) (hgl:GoodL Kj sl) (wz w:World) (hFi:FinishOk wz) (kz:K_ wz w) {t:CloM} (hC:CloAt wz.heap.size w t) (hA:Q_ Kj t.r.name=some ⟨t.cost,t.steps⟩) (hst:Steps wz t.sa t.steps) (hgd:t.r.Good Kj) (hc:CanGo (Q_ Kj) (Qj sl) t.r) (hop:t.r.fail=false∧t.r.text= ⟨#[]⟩) (b0:Nat) (da:Option Addr) (dc:Nat) (xs:List Xq) (hO:w.ownsRow b0 75 2 (.slice da xs.length dc) xs.length (dAnsCells xs))
  (hx:t.r.Zj≠0->Yq (Q_ Kj) (Qj sl) (stepOf ⟨t.cost,t.steps⟩ t.r.at').asks=some xs):
  Calls Tryz.prog 141 #[.slice da xs.length dc,.pointer (some ⟨t.vb,0,none⟩),.pointer (some ⟨t.ab,0,none⟩),.pointer (some ⟨t.tb,0,none⟩),.pointer (some ⟨t.xb,0,none⟩)] w fun e w'=> CloEnd wz w t (Y_ (Q_ Kj) (Qj sl) t.r).1 (Y_ (Q_ Kj) (Qj sl) t.r).2 w' e:=by
 obtain ⟨A',hA',h0,h1⟩:=hgd.act
 rw [hA] at hA'
 cases hA'
 dsimp only at h1
 have hlo:=hgd.lo
 have hhi:=hgd.hi
 have htl:=hgd.tl
 obtain ⟨ix,hix⟩: ∃ix:Nat,t.r.at'= (ix:Int):= ⟨t.r.at'.toNat,by omega⟩
 have hixl:ix < t.steps.length:=by omega
 have hsx:stepOf ⟨t.cost,t.steps⟩ t.r.at'=t.steps.getD ix Xj.zero:=by unfold stepOf;rw [hix];rfl
 have hend: ∀{x:Int},0<=x->x < t.steps.length->(stepOf ⟨t.cost,t.steps⟩ x).fin=true->(stepOf ⟨t.cost,t.steps⟩ x).asks=[]:=fun g0 g1 hf=> step_end_asks (t:=t.task) hok hA g0 g1 rfl hf
 have hgiv: ∀{x:Int},0<=x->x < t.steps.length->(stepOf ⟨t.cost,t.steps⟩ x).give.size<=maxLen:=fun g0 g1=> step_give (t:=t.task) hft hA g0 g1 rfl
 by_cases hv0:t.r.Zj=0
 ·have hn:Y_ (Q_ Kj) (Qj sl) t.r=arrive ⟨t.cost,t.steps⟩ t.r:=by
   unfold Y_
   rw [hA]
   simp only
   rw [if_pos hv0]
  rw [hn]
  refine (clo_first wz w hFi kz hC hst hv0 ix hix hixl _ hsx (hgiv h0 h1) (by omega) (.slice da xs.length dc)).mono (fun e w' h=> ?_)
  exact come_end (tv':=t.tv) (r1:=t.r) h rfl rfl hc.1 hop.1 hop.2 (by show (1:Int)=t.r.Zj+1;omega) rfl rfl (hend h0 h1) (fun x hx=> .inl hx)
 have hxs:=hx hv0
 by_cases hv20:t.r.Zj=20
 ·have hn:Y_ (Q_ Kj) (Qj sl) t.r= ({ t.r with over:=true,fail:=true,text:=spentB },[]):=by
   unfold Y_
   rw [hA]
   simp only
   rw [if_neg hv0,hxs]
   simp only
   rw [if_pos hv20]
  rw [hn]
  refine (clo_spent w hC hv20 (.slice da xs.length dc)).mono (fun e w' h=> ?_)
  obtain ⟨rfl,k⟩:=h
  refine ⟨t.tv,none,0, ?_,strs_no wz,(hC.kept k).like rfl rfl rfl,But.of_kept k,fun x hx=> .inl hx⟩
  show Ending.returned (turnV 0 none 0 0 true true spentB)=Ending.returned (turnV (t.r.Zj - t.r.Zj) none 0 0 true true spentB)
  rw [Int.sub_self]
 obtain ⟨s,hs⟩: ∃s,s=stepOf ⟨t.cost,t.steps⟩ t.r.at':= ⟨_,rfl⟩
 rw [<-hs] at hxs
 have e0:=runs_task sl
 obtain ⟨f1,f2,f3,f4,f5,f6,f7⟩:=step_facts (ts:=sl.map taskR) (t:=t.task) hok hft hA hgd (by rw [e0];exact hc) (by rw [e0];exact hgl) hv0 hs (by rw [e0];exact hxs)
 have hfo:=goOnF_followed f6
 have hxl:xs.length<=5:=by have:=f6.1;omega
 have hg:=nextOf_good hok hgl.env hgd hc
 have hto: (goOnF s xs).over=false->0<=(goOnF s xs).at'∧(goOnF s xs).at' < t.steps.length:=fun ho=> by
  have hn:Y_ (Q_ Kj) (Qj sl) t.r=arrive ⟨t.cost,t.steps⟩ { t.r with texts:=t.r.texts++goodOf xs,at':= (goOnF s xs).at' }:=by
   unfold Y_
   rw [hA]
   simp only
   rw [if_neg hv0,<-hs,hxs]
   simp only
   rw [if_neg hv20,if_neg (by rw [ho];simp)]
  obtain ⟨A',hA',g0,g1⟩:=hg.act
  have en: (Y_ (Q_ Kj) (Qj sl) t.r).1.name=t.r.name:=nextOf_name
  rw [en,hA] at hA'
  cases hA'
  have ea: (Y_ (Q_ Kj) (Qj sl) t.r).1.at'= (goOnF s xs).at':=by
   rw [hn]
   unfold arrive
   simp only
   split <;> rfl
  rw [ea] at g0 g1
  exact ⟨g0,g1⟩
 refine (clo_again wz w hFi kz hC hst (by omega) (by omega) ix hix hixl s (hs.trans hsx) f2 b0 da dc xs hO hxl f7 hfo f1 f4 f5 (fun ho=> ?_) (by omega)).mono (fun e w' h=> ?_)
 ·obtain ⟨g0,g1⟩:=hto ho
  exact ⟨g0,g1,hgiv g0 g1⟩
 rcases h with ⟨ho,rfl,hC',hB'⟩ | ⟨ho,tv',hCo,hown⟩
 ·have hn:Y_ (Q_ Kj) (Qj sl) t.r= ({ t.r with Zj:=t.r.Zj+1,over:=true,fail:=true,text:= (goOnF s xs).text },[]):=by
   unfold Y_
   rw [hA]
   simp only
   rw [if_neg hv0,<-hs,hxs]
   simp only
   rw [if_neg hv20,if_pos ho]
  rw [hn]
  refine ⟨t.tv,none,0, ?_,strs_no wz,hC'.like rfl rfl rfl,hB',fun x hx=> .inl hx⟩
  show Ending.returned (turnV 1 none 0 0 true true (goOnF s xs).text)=Ending.returned (turnV (t.r.Zj+1 - t.r.Zj) none 0 0 true true (goOnF s xs).text)
  rw [show t.r.Zj+1 - t.r.Zj=1 by omega]
 ·have hn:Y_ (Q_ Kj) (Qj sl) t.r=arrive ⟨t.cost,t.steps⟩ { t.r with texts:=t.r.texts++goodOf xs,at':= (goOnF s xs).at' }:=by
   unfold Y_
   rw [hA]
   simp only
   rw [if_neg hv0,<-hs,hxs]
   simp only
   rw [if_neg hv20,if_neg (by rw [ho];simp)]
  obtain ⟨g0,g1⟩:=hto ho
  rw [hn]
  exact come_end (r1:= { t.r with texts:=t.r.texts++goodOf xs,at':= (goOnF s xs).at' }) hCo rfl rfl hc.1 hop.1 hop.2 rfl rfl rfl (hend g0 g1) hown
theorem nextC_asks {Kj:List Qq} {sl:List Qz} (hok:ActsOk (Q_ Kj)) (hgl:GoodL Kj sl) {r:Qz} (hgd:r.Good Kj) (hc:CanGo (Q_ Kj) (Qj sl) r): (Y_ (Q_ Kj) (Qj sl) r).2=asksC (Q_ Kj) (Y_ (Q_ Kj) (Qj sl) r).1:=by
 have hg:=nextOf_good hok hgl.env hgd hc
 obtain ⟨A,hA,h0,h1⟩:=hgd.act
 have key: ∀r1:Qz,r1.name=r.name->r1.over=false->0<=r1.Zj->0<=r1.at'->r1.at' < A.steps.length->(arrive A r1).2=asksC (Q_ Kj) (arrive A r1).1:=fun r1 en eo ev e0 e1=> by
  unfold arrive asksC
  simp only
  cases hf: (stepOf A r1.at').fin with
  | true=>
   simp only [if_true,or_true]
   exact step_end_asks (t:= { taskR r with cost:=A.cost,steps:=A.steps }) hok hA e0 e1 rfl hf
  | false=>
   simp only [Bool.false_eq_true,if_false]
   rw [if_neg (by rw [eo];simp;omega),en,hA]
 unfold Y_ at hg⊢
 rw [hA] at hg⊢
 simp only at hg⊢
 split
 ·exact key r rfl hc.1 hgd.lo h0 h1
 ·rename_i hv0
  rw [if_neg hv0] at hg
  split
  ·next e=>
   exfalso
   rcases hc.2 with h | ⟨A2,xs,h2,h3⟩
   ·exact hv0 h
   ·rw [hA] at h2;cases h2;rw [e] at h3;cases h3
  ·next xs e=>
   rw [e] at hg
   simp only at hg
   split
   ·unfold asksC;simp
   ·rename_i hv20
    rw [if_neg hv20] at hg
    split
    ·unfold asksC;simp
    ·rename_i ho
     rw [if_neg ho] at hg
     obtain ⟨A',hA',g0,g1⟩:=hg.act
     have en: (arrive A { r with texts:=r.texts++goodOf xs,at':= (goOnF (stepOf A r.at') xs).at' }).1.name=r.name:=by unfold arrive;simp only;split <;> rfl
     have ea: (arrive A { r with texts:=r.texts++goodOf xs,at':= (goOnF (stepOf A r.at') xs).at' }).1.at'= (goOnF (stepOf A r.at') xs).at':=by unfold arrive;simp only;split <;> rfl
     rw [en,hA] at hA'
     cases hA'
     rw [ea] at g0 g1
     exact key _ rfl hc.1 hgd.lo g0 g1
def RunMade (wz w:World) (n:ByteArray) (cost:Int) (steps:List Xj) (sa:Option Addr) (w':World) (e:Ending):Prop:=
 ∃t:CloM,e= .returned t.fn∧CloAt wz.heap.size w' t∧t.r=Qz.fresh n∧t.cost=cost∧t.steps=steps∧t.sa=sa∧K_ w w'∧w.heap.size<=t.ab∧∀x∈t.own,w.heap.size<=x
theorem runOf_any (wz w:World) (kz:K_ wz w) (n:ByteArray) (cost:Int) (steps:List Xj) (sa:Option Addr) (sc:Nat):
  Calls Tryz.prog 99 #[.agg #[.int .i64 cost,.slice sa steps.length sc]] w fun e w'=> RunMade wz w n cost steps sa w' e:=by
 go_enter Tryz.func99,Tryz.ntmps99
 go_wp2
 go_ret
 obtain ⟨W1,h1⟩: ∃W1,W1=w.alloc (.cells #[.int .i64 cost,.slice sa steps.length sc] 86):= ⟨_,rfl⟩
 obtain ⟨W2,h2⟩: ∃W2,W2=W1.alloc (.cells #[.int .i64 0] 3):= ⟨_,rfl⟩
 obtain ⟨W3,h3⟩: ∃W3,W3=W2.alloc (.cells #[.int .i64 0] 3):= ⟨_,rfl⟩
 obtain ⟨W4,h4⟩: ∃W4,W4=W3.alloc (.cells #[.slice none 0 0] 25):= ⟨_,rfl⟩
 rw [<-h1,<-h2,<-h3,<-h4]
 have k1:K_ w W1:=by rw [h1];exact (K_.refl _).alloc _
 have k2:K_ W1 W2:=by rw [h2];exact (K_.refl _).alloc _
 have k3:K_ W2 W3:=by rw [h3];exact (K_.refl _).alloc _
 have k4:K_ W3 W4:=by rw [h4];exact (K_.refl _).alloc _
 have z1:W1.heap.size=w.heap.size+1:=by rw [h1,World.size_alloc]
 have z2:W2.heap.size=w.heap.size+1+1:=by rw [h2,World.size_alloc,z1]
 have z3:W3.heap.size=w.heap.size+1+1+1:=by rw [h3,World.size_alloc,z2]
 have r1:RowT W1 w.heap.size 86 2:=by rw [h1];exact RowT.made w _ _
 have r2:RowT W2 (w.heap.size+1) 3 1:=by rw [h2,<-z1];exact RowT.made W1 #[.int .i64 0] _
 have r3:RowT W3 (w.heap.size+1+1) 3 1:=by rw [h3,<-z2];exact RowT.made W2 #[.int .i64 0] _
 have r4:RowT W4 (w.heap.size+1+1+1) 25 1:=by rw [h4,<-z3];exact RowT.made W3 #[.slice none 0 0] _
 have c1:W1.cell? ⟨w.heap.size,1,none⟩=some (.slice sa steps.length sc):=by rw [h1];exact Xz w #[.int .i64 cost,.slice sa steps.length sc] 86 1 _ rfl
 have c2:W2.cell? ⟨w.heap.size+1,0,none⟩=some (.int .i64 0):=by rw [h2,<-z1];exact Xz W1 #[.int .i64 0] 3 0 _ rfl
 have c3:W3.cell? ⟨w.heap.size+1+1,0,none⟩=some (.int .i64 0):=by rw [h3,<-z2];exact Xz W2 #[.int .i64 0] 3 0 _ rfl
 have c4:W4.cell? ⟨w.heap.size+1+1+1,0,none⟩=some (.slice none 0 0):=by rw [h4,<-z3];exact Xz W3 #[.slice none 0 0] 25 0 _ rfl
 have hz:=kz.size
 refine ⟨⟨Qz.fresh n,cost,steps,sa,sc,w.heap.size+1+1,w.heap.size,w.heap.size+1,w.heap.size+1+1+1,.slice none 0 0⟩,rfl,⟨r3.kept k4,(k4.cell r3.lt).trans c3,(r2.kept k3).kept k4,(k4.cell (r2.kept k3).lt).trans ((k3.cell r2.lt).trans c2),r4,c4,((r1.kept k2).kept k3).kept k4,(k4.cell ((r1.kept k2).kept k3).lt).trans ((k3.cell (r1.kept k2).lt).trans ((k2.cell r1.lt).trans c1)),World.ownsRow_nil _ _ _ _,⟨?_, ?_, ?_, ?_⟩, ?_⟩,rfl,rfl,rfl,rfl,((k1.trans k2).trans k3).trans k4,Nat.le_refl _,fun x hx=> ?_⟩
 ·show wz.heap.size<=w.heap.size+1+1;omega
 ·show wz.heap.size<=w.heap.size+1;omega
 ·show wz.heap.size<=w.heap.size+1+1+1;omega
 ·exact hz
 ·show w.heap.size+1+1≠w.heap.size+1;omega
 ·rcases mem_own.1 hx with e | e | e | e
  ·have e2:x=w.heap.size+1+1:=e;omega
  ·have e2:x=w.heap.size+1:=e;omega
  ·have e2:x=w.heap.size+1+1+1:=e;omega
  ·cases e
theorem Tryz.zeroRun (w:World): (zeroValue 163).run Tryz.prog w= .ok .nilFunc w:=by kernel_rfl
theorem Tryz.zeroTurn (w:World): (zeroValue 209).run Tryz.prog w= .ok (turnV 0 none 0 0 false false ⟨#[]⟩) w:=by kernel_rfl
def turn0 :Value:=turnV 0 none 0 0 false false ⟨#[]⟩
def fnC (cl:ByteArray->Option CloM) (s:ByteArray):Value:=match cl s with
 | some t=> t.fn
 | none=> .nilFunc
theorem fnC_same {cl:ByteArray->Option CloM} {n:ByteArray} {t:CloM}:fnC (fun m=> if m=n then some t else cl m) n=t.fn:=by unfold fnC;simp
theorem fnC_other {cl:ByteArray->Option CloM} {n s:ByteArray} {t:CloM} (h:s≠n):fnC (fun m=> if m=n then some t else cl m) s=fnC cl s:=by unfold fnC;simp [h]
structure CM (Kj:List Qq) (wz w:World) (cb:Nat) (a:Option Addr) (cap mr mt mx:Nat) (cl:ByteArray->Option CloM) (f:ByteArray->Value) (kf:ByteArray->Prop) (un co:Int):Prop where
 kw:K_ wz w
 row:RowT w cb 99 6
 c0:w.cell? ⟨cb,0,none⟩=some (.slice a Kj.length cap)
 c1:w.cell? ⟨cb,1,none⟩=some (.func (.func 97) #[] #[])
 c2:w.cell? ⟨cb,2,none⟩=some (.map (some mr))
 c3:w.cell? ⟨cb,3,none⟩=some (.map (some mt))
 c4:w.cell? ⟨cb,4,none⟩=some (.int .i64 un)
 c5:w.cell? ⟨cb,5,none⟩=some (.int .i64 co)
 low:wz.heap.size<=cb
 clo: ∀n t,cl n=some t->t.r.name=n∧Q_ Kj n=some ⟨t.cost,t.steps⟩∧Steps wz t.sa t.steps∧CloAt wz.heap.size w t
 sep: ∀n m t u,cl n=some t->cl m=some u->n≠m->∀x∈t.own,x∉u.own
 runs: ∃N D,N<=mx∧w.ownsMap Tryz.prog 9 asIs mr N D∧(∀s:ByteArray,s.size<=maxLen->D.atKey (keyLit s) (.held .nilFunc)= .held (fnC cl s))∧∀s:ByteArray,Maps.has D (keyLit s)=true↔(cl s).isSome=true
 rlow:wz.heap.size<=mr
 turns: ∃N D,N<=mx∧w.ownsMap Tryz.prog 9 asIs mt N D∧(∀s:ByteArray,s.size<=maxLen->D.atKey (keyLit s) (.held turn0)= .held (f s))∧∀s:ByteArray,Maps.has D (keyLit s)=true↔kf s
 tlow:wz.heap.size<=mt
 mne:mr≠mt
section
variable {Kj : List Qq} {wz w w' : World} {cb : Nat} {a : Option Addr} {cap mr mt mx : Nat} {cl : ByteArray -> Option CloM} {f : ByteArray -> Value} {kf : ByteArray -> Prop} {un co : Int}
theorem CM.but {S:Nat->Prop} (h:CM Kj wz w cb a cap mr mt mx cl f kf un co) (k:But S w w') (hs: ∀b,S b->wz.heap.size<=b) (h1: ¬S cb) (h2: ¬S mr) (h3: ¬S mt) (h4: ∀n t,cl n=some t->¬S t.ab∧∀x∈t.own,¬S x):CM Kj wz w' cb a cap mr mt mx cl f kf un co:=by
 have hb:=h.row.lt
 obtain ⟨N1,D1,a1,a2,a3⟩:=h.runs
 obtain ⟨N2,D2,b1,b2,b3⟩:=h.turns
 exact ⟨k.kept h.kw hs,k.row h.row h1,(k.cell hb h1).trans h.c0,(k.cell hb h1).trans h.c1,(k.cell hb h1).trans h.c2,(k.cell hb h1).trans h.c3,(k.cell hb h1).trans h.c4,(k.cell hb h1).trans h.c5,h.low,
  fun n t e=> let g:=h.clo n t e;⟨g.1,g.2.1,g.2.2.1,g.2.2.2.but k (h4 n t e).2 (h4 n t e).1⟩,h.sep,⟨N1,D1,a1,map_but a2 k h2,a3⟩,h.rlow,⟨N2,D2,b1,map_but b2 k h3,b3⟩,h.tlow,h.mne⟩
theorem CM.kept (h:CM Kj wz w cb a cap mr mt mx cl f kf un co) (k:K_ w w'):CM Kj wz w' cb a cap mr mt mx cl f kf un co:=
 h.but (S:=fun _=> False) (But.of_kept k) (fun _ h=> h.elim) id id id (fun _ _ _=> ⟨id,fun _ _=> id⟩)
theorem CM.more {mx':Nat} (h:CM Kj wz w cb a cap mr mt mx cl f kf un co) (hm:mx<=mx'):CM Kj wz w cb a cap mr mt mx' cl f kf un co:=by
 obtain ⟨N1,D1,a1,a2⟩:=h.runs
 obtain ⟨N2,D2,b1,b2⟩:=h.turns
 exact ⟨h.kw,h.row,h.c0,h.c1,h.c2,h.c3,h.c4,h.c5,h.low,h.clo,h.sep,⟨N1,D1,Nat.le_trans a1 hm,a2⟩,h.rlow,⟨N2,D2,Nat.le_trans b1 hm,b2⟩,h.tlow,h.mne⟩
theorem CM.lookR (h:CM Kj wz w cb a cap mr mt mx cl f kf un co) {s:ByteArray} (hs:s.size<=maxLen): (Instr.lookup 96 (.map (some mr)) (.string s) false).run Tryz.prog w= .ok (fnC cl s) w:=by
 obtain ⟨N,D,_,hM,hf⟩:=h.runs
 obtain ⟨v,ps,hrun,hv⟩:=hM.lookup Tryz.keyed Tryz.underlying96 (Tryz.zeroRun w) (zd:= .held .nilFunc) (zp:=[]) rfl (WideMaps.keyOf_string_mk Tryz.underlying9 hs)
 have e:=hf.1 s hs
 unfold asIs at hv
 simp only [Option.some.injEq,Prod.mk.injEq] at hv
 have e2: (DataW.held v:DataW Value)= .held (fnC cl s):=hv.1.trans e
 cases e2
 exact hrun
theorem CM.lookT (h:CM Kj wz w cb a cap mr mt mx cl f kf un co) {s:ByteArray} (hs:s.size<=maxLen): (Instr.lookup 97 (.map (some mt)) (.string s) false).run Tryz.prog w= .ok (f s) w:=by
 obtain ⟨N,D,_,hM,hf⟩:=h.turns
 obtain ⟨v,ps,hrun,hv⟩:=hM.lookup Tryz.keyed Tryz.underlying97 (Tryz.zeroTurn w) (zd:= .held turn0) (zp:=[]) rfl (WideMaps.keyOf_string_mk Tryz.underlying9 hs)
 have e:=hf.1 s hs
 unfold asIs at hv
 simp only [Option.some.injEq,Prod.mk.injEq] at hv
 have e2: (DataW.held v:DataW Value)= .held (f s):=hv.1.trans e
 cases e2
 exact hrun
theorem CM.mr_ne (h:CM Kj wz w cb a cap mr mt mx cl f kf un co) {b:Nat} {t:TypeId} (k:TypeAt w b t):b≠mr∧b≠mt:=by
 obtain ⟨N1,D1,a1,a2,a3⟩:=h.runs
 obtain ⟨N2,D2,b1,b2,b3⟩:=h.turns
 exact ⟨map_ne a2 k,map_ne b2 k⟩
theorem CM.own_mr (h:CM Kj wz w cb a cap mr mt mx cl f kf un co) {n:ByteArray} {t:CloM} (e:cl n=some t):mr∉t.own∧mt∉t.own∧cb∉t.own:=by
 have hC:= (h.clo n t e).2.2.2
 refine ⟨fun hx=> ?_,fun hx=> ?_,hC.own_ne h.row.type (by decide) (by decide) (by decide)⟩
 ·rcases (hC.own_type hx).1 with g | g | g <;> exact (h.mr_ne g).1 rfl
 ·rcases (hC.own_type hx).1 with g | g | g <;> exact (h.mr_ne g).2 rfl
theorem CM.putT (h:CM Kj wz w cb a cap mr mt mx cl f kf un co) {s:ByteArray} (hs:s.size<=maxLen) (v:Value) (hmx:mx<=1000000):
  ∃w2,(Instr.mapUpdate 97 (.map (some mt)) (.string s) v).run Tryz.prog w= .ok () w2∧CM Kj wz w2 cb a cap mr mt (mx+1) cl (fun n=> if n=s then v else f n) (fun n=> n=s∨kf n) un co∧But (fun b=> b=mt) w w2:=by
 obtain ⟨N,D,hNl,hM,hf⟩:=h.turns
 obtain ⟨w2,hrun,hM2,hg2⟩:=hM.update Tryz.keyed Tryz.underlying97 (by unfold maxLen;omega) (WideMaps.keyOf_string_mk Tryz.underlying9 hs) (d:= .held v) (ps:=[]) rfl
 have k2:But (fun b=> b=mt) w w2:=But.of_grown hg2 (fun b e=> (Option.some.inj e).symm)
 have hmp:Maps.IsMap D:=by obtain ⟨es,clock,_,_,_,rfl⟩:=hM;exact ⟨_,rfl⟩
 have hb:=h.row.lt
 have h1: ¬cb=mt:= (h.mr_ne h.row.type).2
 obtain ⟨N1,D1,a1,a2,a3⟩:=h.runs
 refine ⟨w2,hrun,⟨k2.kept h.kw (fun b e=> by have e2:b=mt:=e;rw [e2];exact h.tlow),k2.row h.row h1,(k2.cell hb h1).trans h.c0,(k2.cell hb h1).trans h.c1,(k2.cell hb h1).trans h.c2,(k2.cell hb h1).trans h.c3,(k2.cell hb h1).trans h.c4,(k2.cell hb h1).trans h.c5,h.low, ?_,h.sep,⟨N1,D1,by omega,map_but a2 k2 h.mne,a3⟩,h.rlow,⟨N+1,_,by omega,hM2,fun n hn=> ?_,fun n=> ?_⟩,h.tlow,h.mne⟩,k2⟩
 ·intro n t e
  have g:=h.clo n t e
  exact ⟨g.1,g.2.1,g.2.2.1,g.2.2.2.but k2 (fun x hx e2=> (h.own_mr e).2.1 (by have e3:x=mt:=e2;rw [<-e3];exact hx)) (h.mr_ne g.2.2.2.ra.type).2⟩
 ·by_cases e:n=s
  ·rw [if_pos e,e]
   exact Maps.atKey_put_same (k:=keyLit s) hmp (by show WideAt.IsKeyLit (.string _);exact trivial) _ _
  ·rw [if_neg e,<-hf.1 n hn]
   exact Maps.atKey_put_other (keyLit_ne e) _ _
 ·by_cases e:n=s
  ·rw [e]
   exact ⟨fun _=> .inl rfl,fun _=> Maps.has_put_same (k:=keyLit s) hmp (by show WideAt.IsKeyLit (.string _);exact trivial) (.held v)⟩
  ·have e2: (n=s∨kf n)↔kf n:= ⟨fun h=> h.resolve_left e,.inr⟩
   rw [e2,<-hf.2 n]
   exact Eq.to_iff (congrArg (· =true) (Maps.has_put_other (keyLit_ne e) _))
theorem CM.putR (h:CM Kj wz w cb a cap mr mt mx cl f kf un co) {s:ByteArray} (hs:s.size<=maxLen) {t:CloM} (hn:t.r.name=s) (hA:Q_ Kj s=some ⟨t.cost,t.steps⟩) (hS:Steps wz t.sa t.steps) (hC:CloAt wz.heap.size w t) (hsep: ∀m u,m≠s->cl m=some u->∀x∈t.own,x∉u.own) (hmx:mx<=1000000):
  ∃w2,(Instr.mapUpdate 96 (.map (some mr)) (.string s) t.fn).run Tryz.prog w= .ok () w2∧CM Kj wz w2 cb a cap mr mt (mx+1) (fun n=> if n=s then some t else cl n) f kf un co∧But (fun b=> b=mr) w w2:=by
 obtain ⟨N,D,hNl,hM,hf⟩:=h.runs
 obtain ⟨w2,hrun,hM2,hg2⟩:=hM.update Tryz.keyed Tryz.underlying96 (by unfold maxLen;omega) (WideMaps.keyOf_string_mk Tryz.underlying9 hs) (d:= .held t.fn) (ps:=[]) rfl
 have k2:But (fun b=> b=mr) w w2:=But.of_grown hg2 (fun b e=> (Option.some.inj e).symm)
 have hmp:Maps.IsMap D:=by obtain ⟨es,clock,_,_,_,rfl⟩:=hM;exact ⟨_,rfl⟩
 have hb:=h.row.lt
 have h1: ¬cb=mr:= (h.mr_ne h.row.type).1
 have hC2: ∀{u:CloM},CloAt wz.heap.size w u->CloAt wz.heap.size w2 u:=fun {u} hu=> hu.but k2 (fun x hx e2=> by
  have e3:x=mr:=e2
  rcases (hu.own_type hx).1 with g | g | g <;> exact (h.mr_ne g).1 e3) (h.mr_ne hu.ra.type).1
 obtain ⟨N1,D1,a1,a2,a3⟩:=h.turns
 refine ⟨w2,hrun,⟨k2.kept h.kw (fun b e=> by have e2:b=mr:=e;rw [e2];exact h.rlow),k2.row h.row h1,(k2.cell hb h1).trans h.c0,(k2.cell hb h1).trans h.c1,(k2.cell hb h1).trans h.c2,(k2.cell hb h1).trans h.c3,(k2.cell hb h1).trans h.c4,(k2.cell hb h1).trans h.c5,h.low, ?_, ?_,⟨N+1,_,by omega,hM2,fun n hn=> ?_,fun n=> ?_⟩,h.rlow,⟨N1,D1,by omega,map_but a2 k2 (fun e=> h.mne e.symm),a3⟩,h.tlow,h.mne⟩,k2⟩
 ·intro n u e
  by_cases en:n=s
  ·rw [if_pos en] at e
   cases e
   rw [en]
   exact ⟨hn,hA,hS,hC2 hC⟩
  ·rw [if_neg en] at e
   have g:=h.clo n u e
   exact ⟨g.1,g.2.1,g.2.2.1,hC2 g.2.2.2⟩
 ·intro n m u v e1 e2 hnm x hx hy
  by_cases en:n=s
  ·rw [if_pos en] at e1
   cases e1
   rw [if_neg (fun e=> hnm (en.trans e.symm))] at e2
   exact hsep m v (fun e=> hnm (en.trans e.symm)) e2 x hx hy
  ·rw [if_neg en] at e1
   by_cases em:m=s
   ·rw [if_pos em] at e2
    cases e2
    exact hsep n u en e1 x hy hx
   ·rw [if_neg em] at e2
    exact h.sep n m u v e1 e2 hnm x hx hy
 ·by_cases e:n=s
  ·rw [e,fnC_same]
   exact Maps.atKey_put_same (k:=keyLit s) hmp (by show WideAt.IsKeyLit (.string _);exact trivial) _ _
  ·rw [fnC_other e,<-hf.1 n hn]
   exact Maps.atKey_put_other (keyLit_ne e) _ _
 ·by_cases e:n=s
  ·rw [if_pos e,e]
   exact ⟨fun _=> rfl,fun _=> Maps.has_put_same (k:=keyLit s) hmp (by show WideAt.IsKeyLit (.string _);exact trivial) (.held t.fn)⟩
  ·rw [if_neg e,<-hf.2 n]
   exact Eq.to_iff (congrArg (· =true) (Maps.has_put_other (keyLit_ne e) _))
theorem CM.called (h:CM Kj wz w cb a cap mr mt mx cl f kf un co) {n:ByteArray} {t:CloM} (e:cl n=some t) {r':Qz} {tv':Value} (hr:r'.name=t.r.name) (hC:CloAt wz.heap.size w' { t with r:=r',tv:=tv' }) (k:But (· ∈t.own) w w') (ho: ∀x,tv'.ownBlock=some x->t.tv.ownBlock=some x∨w.heap.size<=x):
  CM Kj wz w' cb a cap mr mt mx (fun m=> if m=n then some { t with r:=r',tv:=tv' } else cl m) f kf un co:=by
 have hb:=h.row.lt
 have g:=h.clo n t e
 obtain ⟨q1,q2,q3⟩:=h.own_mr e
 obtain ⟨N1,D1,a1,a2,a3,a4⟩:=h.runs
 obtain ⟨N2,D2,b1,b2,b3⟩:=h.turns
 have hof: ∀x∈({ t with r:=r',tv:=tv' }:CloM).own,x∈t.own∨w.heap.size<=x:=fun x hx=> by
  rcases mem_own.1 hx with q | q | q | q
  ·exact .inl (mem_own.2 (.inl q))
  ·exact .inl (mem_own.2 (.inr (.inl q)))
  ·exact .inl (mem_own.2 (.inr (.inr (.inl q))))
  ·rcases ho x q with q | q
   ·exact .inl (mem_own.2 (.inr (.inr (.inr q))))
   ·exact .inr q
 have hsp: ∀m u,m≠n->cl m=some u->∀x∈({ t with r:=r',tv:=tv' }:CloM).own,x∉u.own:=fun m u hm hu x hx hy=> by
  rcases hof x hx with q | q
  ·exact h.sep n m t u e hu (Ne.symm hm) x q hy
  ·have:= ((h.clo m u hu).2.2.2.own_type hy).2.2
   omega
 refine ⟨k.kept h.kw (fun b hb=> (g.2.2.2.own_type hb).2.1),k.row h.row q3,(k.cell hb q3).trans h.c0,(k.cell hb q3).trans h.c1,(k.cell hb q3).trans h.c2,(k.cell hb q3).trans h.c3,(k.cell hb q3).trans h.c4,(k.cell hb q3).trans h.c5,h.low, ?_, ?_,⟨N1,D1,a1,map_but a2 k q1,fun s hs=> ?_,fun s=> ?_⟩,h.rlow,⟨N2,D2,b1,map_but b2 k q2,b3⟩,h.tlow,h.mne⟩
 ·intro m u eu
  by_cases em:m=n
  ·rw [if_pos em] at eu
   cases eu
   rw [em]
   exact ⟨hr.trans g.1,g.2.1,g.2.2.1,hC⟩
  ·rw [if_neg em] at eu
   have gu:=h.clo m u eu
   exact ⟨gu.1,gu.2.1,gu.2.2.1,gu.2.2.2.but k (fun x hx hy=> h.sep m n u t eu e em x hx hy) (g.2.2.2.own_ne gu.2.2.2.ra.type (by decide) (by decide) (by decide))⟩
 ·intro p m u v e1 e2 hnm x hx hy
  by_cases en:p=n
  ·rw [if_pos en] at e1
   cases e1
   rw [if_neg (fun e=> hnm (en.trans e.symm))] at e2
   exact hsp m v (fun e=> hnm (en.trans e.symm)) e2 x hx hy
  ·rw [if_neg en] at e1
   by_cases em:m=n
   ·rw [if_pos em] at e2
    cases e2
    exact hsp p u en e1 x hy hx
   ·rw [if_neg em] at e2
    exact h.sep p m u v e1 e2 hnm x hx hy
 ·have:=a3 s hs
  rw [this]
  by_cases es:s=n
  ·rw [es,fnC_same]
   unfold fnC
   rw [e]
   rfl
  ·rw [fnC_other es]
 ·rw [a4 s]
  by_cases es:s=n
  ·rw [if_pos es,es,e]
   simp
  ·rw [if_neg es]
theorem CM.setU (h:CM Kj wz w cb a cap mr mt mx cl f kf un co) (v:Int):CM Kj wz (w.setCell ⟨cb,4,none⟩ (.int .i64 v)) cb a cap mr mt mx cl f kf v co:=by
 have k:=but_set (w:=w) cb 4 (.int .i64 v)
 obtain ⟨⟨_,f1⟩,f2⟩:=h.row.row.at (i:=4) (by omega)
 obtain ⟨N1,D1,a1,a2,a3⟩:=h.runs
 obtain ⟨N2,D2,b1,b2,b3⟩:=h.turns
 have o: ∀i,i≠4->(w.setCell ⟨cb,4,none⟩ (.int .i64 v)).cell? ⟨cb,i,none⟩=w.cell? ⟨cb,i,none⟩:=fun i hi=> World.cell?_setCell_other _ _ _ _ (fun e=> hi (congrArg Addr.off e).symm)
 exact ⟨k.kept h.kw (fun b e=> by have e2:b=cb:=e;rw [e2];exact h.low),h.row.set _,(o 0 (by omega)).trans h.c0,(o 1 (by omega)).trans h.c1,(o 2 (by omega)).trans h.c2,(o 3 (by omega)).trans h.c3,World.cell?_setCell_same _ _ _ (by rw [f1]),(o 5 (by omega)).trans h.c5,h.low,fun n t e=> let g:=h.clo n t e;⟨g.1,g.2.1,g.2.2.1,g.2.2.2.but k (fun x hx e2=> (h.own_mr e).2.2 (by have e3:x=cb:=e2;rw [<-e3];exact hx)) (type_ne g.2.2.2.ra.type h.row.type (by decide))⟩,h.sep,⟨N1,D1,a1,map_but a2 k (h.mr_ne h.row.type).1.symm,a3⟩,h.rlow,⟨N2,D2,b1,map_but b2 k (h.mr_ne h.row.type).2.symm,b3⟩,h.tlow,h.mne⟩
theorem CM.setC (h:CM Kj wz w cb a cap mr mt mx cl f kf un co) (v:Int):CM Kj wz (w.setCell ⟨cb,5,none⟩ (.int .i64 v)) cb a cap mr mt mx cl f kf un v:=by
 have k:=but_set (w:=w) cb 5 (.int .i64 v)
 obtain ⟨⟨_,f1⟩,f2⟩:=h.row.row.at (i:=5) (by omega)
 obtain ⟨N1,D1,a1,a2,a3⟩:=h.runs
 obtain ⟨N2,D2,b1,b2,b3⟩:=h.turns
 have o: ∀i,i≠5->(w.setCell ⟨cb,5,none⟩ (.int .i64 v)).cell? ⟨cb,i,none⟩=w.cell? ⟨cb,i,none⟩:=fun i hi=> World.cell?_setCell_other _ _ _ _ (fun e=> hi (congrArg Addr.off e).symm)
 exact ⟨k.kept h.kw (fun b e=> by have e2:b=cb:=e;rw [e2];exact h.low),h.row.set _,(o 0 (by omega)).trans h.c0,(o 1 (by omega)).trans h.c1,(o 2 (by omega)).trans h.c2,(o 3 (by omega)).trans h.c3,(o 4 (by omega)).trans h.c4,World.cell?_setCell_same _ _ _ (by rw [f1]),h.low,fun n t e=> let g:=h.clo n t e;⟨g.1,g.2.1,g.2.2.1,g.2.2.2.but k (fun x hx e2=> (h.own_mr e).2.2 (by have e3:x=cb:=e2;rw [<-e3];exact hx)) (type_ne g.2.2.2.ra.type h.row.type (by decide))⟩,h.sep,⟨N1,D1,a1,map_but a2 k (h.mr_ne h.row.type).1.symm,a3⟩,h.rlow,⟨N2,D2,b1,map_but b2 k (h.mr_ne h.row.type).2.symm,b3⟩,h.tlow,h.mne⟩
end
def TurnIs (Kj:List Qq) (wz:World) (o:Option CloM) (v:Value):Prop:=match o with
 | none=> v=turn0
 | some t=> ∃(u:Int) (qa:Option Addr) (qc:Nat),v=turnV u qa (asksC (Q_ Kj) t.r).length qc t.r.over t.r.fail t.r.text∧Strs wz qa (asksC (Q_ Kj) t.r)
structure CS (Kj:List Qq) (wz:World) (cl:ByteArray->Option CloM) (f:ByteArray->Value) (kf:ByteArray->Prop) (un co:Int) (sl:List Qz):Prop where
 good:GoodL Kj sl
 env: ∀n,Qj sl n= (cl n).map (·.r)
 turn: ∀s,TurnIs Kj wz (cl s) (f s)
 key: ∀s,kf s↔∃t,cl s=some t∧t.r.Zj≠0
 units:un=unitsX sl
 cost:co=costX (Q_ Kj) sl
 opn:OpenT (Qj sl)
def AnsSaidC (Kj:List Qq) (l:List Qz) (n:ByteArray) (e:Ending):Prop:=
 ∃(f:Bool) (t:ByteArray) (ok:Bool),e= .returned (.tuple #[.agg #[.bool f,.string t],.bool ok])∧ansOf (Q_ Kj) (Qj l) n= (if ok=true then some ⟨f,t⟩ else none)∧(ok=false->∀r,Qj l n=some r->f=r.fail∧t=r.text)
theorem CS.turnAt {Kj:List Qq} {wz:World} {cl:ByteArray->Option CloM} {f:ByteArray->Value} {kf:ByteArray->Prop} {un co:Int} {sl:List Qz} (h:CS Kj wz cl f kf un co sl) (n:ByteArray):
  ∃u qa ql qc ov fl tx,f n=turnV u qa ql qc ov fl tx∧((Q_ Kj n).isSome=true->ansOf (Q_ Kj) (Qj sl) n=if ov=true then some ⟨fl,tx⟩ else none)∧∀r,Qj sl n=some r->ov=r.over∧fl=r.fail∧tx=r.text:=by
 have ht:=h.turn n
 have he:=h.env n
 cases hc:cl n with
 | none=>
  rw [hc] at ht he
  refine ⟨0,none,0,0,false,false,⟨#[]⟩,ht,fun hA=> ?_,fun r hr=> ?_⟩
  ·obtain ⟨A,hA⟩:=Option.isSome_iff_exists.1 hA
   unfold ansOf
   rw [hA,he]
   rfl
  ·rw [he] at hr
   cases hr
 | some t=>
  rw [hc] at ht he
  obtain ⟨u,qa,qc,e1,_⟩:=ht
  refine ⟨u,qa,_,qc,_,_,_,e1,fun hA=> ?_,fun r hr=> ?_⟩
  ·obtain ⟨A,hA⟩:=Option.isSome_iff_exists.1 hA
   unfold ansOf
   rw [hA,he]
   rfl
  ·rw [he] at hr
   cases hr
   exact ⟨rfl,rfl,rfl⟩
section
variable {Kj : List Qq} {wz w : World} {cb : Nat} {a : Option Addr} {cap mr mt mx : Nat} {cl : ByteArray -> Option CloM} {f : ByteArray -> Value} {kf : ByteArray -> Prop} {un co : Int} {sl : List Qz}
theorem cleanAnswer_any (hC:CM Kj wz w cb a cap mr mt mx cl f kf un co) (hS:CS Kj wz cl f kf un co sl) (hwl:Kj.length<=1048576) (hwr:Rises Kj) (hN:Nodes wz a Kj) (n:ByteArray) (hsz:n.size<=1000):
  Calls Tryz.prog 103 #[.pointer (some ⟨cb,0,none⟩),.string n] w fun e w'=> AnsSaidC Kj sl n e∧K_ w w':=by
 have b0:=hC.c0
 have b1:=hC.c1
 have zk:=hC.row.lt
 have k0:K_ w (w.alloc (.cells #[.bool false,.string ⟨#[]⟩] 75)):= (K_.refl _).alloc _
 have HC:=Kz hC
 have HS:=Kz hS
 obtain ⟨W0,hW0⟩: ∃W0,W0=w.alloc (.cells #[.bool false,.string ⟨#[]⟩] 75):= ⟨_,rfl⟩
 rw [<-hW0] at k0
 have HR0:Hid (RowT W0 w.heap.size 75 2):=by rw [hW0];exact RowT.made w _ _
 have HC0:=Kz (hC.kept k0)
 have b0:=HC0.out.c0
 have b1:=HC0.out.c1
 have zk:=HC0.out.row.lt
 clear hC hS
 go_enter Tryz.func103,Tryz.ntmps103
 go_upto_region 1 with fail
 rw [<-hW0]
 clear hW0
 go_wp2_with fail
 refine (find_any W0 a cap Kj n hwl hwr (hN.kept HC0.out.kw)).mono ?_
 rintro e w1 ⟨⟨p,fd,rfl,hp,hf⟩,k1⟩
 have HP:=Kz hp
 have HF:=Kz hf
 have KW:=k0.trans k1
 have HC1:=Kz (HC0.out.kept k1)
 have HR1:=Kz (HR0.out.kept k1)
 clear hp hf b0 b1 zk
 cases fd
 ·go_wp2_with fail
  refine (absent_any w1 n hsz).mono ?_
  rintro e w2 ⟨rfl,k2⟩
  have HR2:=Kz (HR1.out.kept k2)
  obtain ⟨⟨_,x0⟩,f0⟩:=HR2.out.row.at (i:=0) (by decide)
  obtain ⟨⟨_,x1⟩,f1⟩:=HR2.out.row.at (i:=1) (by decide)
  have xz:=HR2.out.lt
  go_wp2_with fail
  have hR:=World.rangeAt_setCells_same w2 w.heap.size 0 [.bool true,.string (noOf n)] (HR2.out.row.there (o:=0) (m:=2) (Nat.le_refl _))
  refine bodyPost_ret_c2 [.bool true,.string (noOf n)] _ (.bool true) Tryz.results103 rfl hR Tryz.underlying75 rfl Tryz.xSizeAns rfl rfl ?_
  refine ⟨⟨true,noOf n,true,rfl, ?_,fun h=> by cases h⟩,kept_sets (g:=w.heap.size) (Nat.le_refl _) [.bool true,.string (noOf n)] 0 (KW.trans k2)⟩
  have hno:Q_ Kj n=none:=acts_none fun j hj e=> by
   have hna:nameAt Kj j=n.toList:=by unfold nameAt;rw [e]
   have e2:=Place.only hwr HP.out hj hna
   rw [e2] at hj hna
   have:=HF.out.2 ⟨hj,hna⟩
   cases this
  unfold ansOf
  rw [hno]
  rfl
 ·have hpl:= (HF.out.1 rfl).1
  have HAct:Hid ((Q_ Kj n).isSome=true):=by
   have e:=acts_at hpl (toList_inj.1 (HF.out.1 rfl).2) (fun j hj e=> by
    have hna:nameAt Kj j=n.toList:=by unfold nameAt;rw [e]
    have:=Place.only hwr HP.out (by omega) hna
    omega)
   show _=_
   rw [e]
   rfl
  obtain ⟨u,qa,ql,qc,ov,fl,tx,hfn,hsa,hsr⟩:=HS.out.turnAt n
  have HSA:=Kz hsa
  have HSR:=Kz hsr
  have hlk:=HC1.out.lookT (s:=n) (by unfold maxLen;omega)
  rw [hfn] at hlk
  unfold turnV at hlk
  have b3:=HC1.out.c3
  have zk:=HC1.out.row.lt
  obtain ⟨W2,hW2⟩: ∃W2,W2=w1.alloc (.cells #[.int .i64 u,.slice qa ql qc,.bool ov,.bool fl,.string tx] 209):= ⟨_,rfl⟩
  have k2:K_ w1 W2:=by rw [hW2];exact (K_.refl _).alloc _
  have HT2:Hid (∀v,K_ W2 v->v.cell? ⟨w1.heap.size,2,none⟩=some (.bool ov)∧v.cell? ⟨w1.heap.size,3,none⟩=some (.bool fl)∧v.cell? ⟨w1.heap.size,4,none⟩=some (.string tx)):=fun v K=> by
   have hr:=Xz w1 #[.int .i64 u,.slice qa ql qc,.bool ov,.bool fl,.string tx] 209
   have hz:w1.heap.size < W2.heap.size:=by rw [hW2];simp
   rw [<-hW2] at hr
   exact ⟨(K.cell hz).trans (hr 2 _ rfl),(K.cell hz).trans (hr 3 _ rfl),(K.cell hz).trans (hr 4 _ rfl)⟩
  have HR2:=Kz (HR1.out.kept k2)
  have K2:=KW.trans k2
  have HZ:Hid (w.heap.size < w1.heap.size):=HR1.out.lt
  have HLZ:Hid (w1.heap.size < W2.heap.size):=by rw [hW2];show _ < _;simp
  clear hfn hsa hsr hpl
  go_upto_region 5 with fail
  rw [<-hW2]
  clear hW2 hlk b3 zk
  obtain ⟨lb,hlb⟩: ∃lb,lb=w1.heap.size:= ⟨_,rfl⟩
  rw [<-hlb] at HT2 HZ HLZ⊢
  clear hlb
  refine Qx.region (by kernel_rfl) (fun v=> v.cell? ⟨lb,2,none⟩=some (.bool ov)∧v.cell? ⟨lb,3,none⟩=some (.bool fl)∧v.cell? ⟨lb,4,none⟩=some (.string tx)) 5 (HT2.out _ ((K_.refl W2).drew)) (fun Z_=> ?_)
  have KD:K_ W2 W2.drew:= (K_.refl W2).drew
  generalize hwd:W2.drew=wd at Z_ KD⊢
  clear hwd
  have HRd:=Kz (HR2.out.kept KD)
  refine Qx.tk 0 Z_ ?_
  refine Qx.tk 1 Z_ ?_
  refine Qx.tk 2 Z_ ?_
  refine Qx.tk 3 Z_ ?_
  obtain ⟨⟨_,x0⟩,f0⟩:=HRd.out.row.at (i:=0) (by decide)
  obtain ⟨⟨_,x1⟩,f1⟩:=HRd.out.row.at (i:=1) (by decide)
  have xz:=HRd.out.lt
  have hne:lb≠w.heap.size:=by have:=HZ.out;omega
  refine Qx.nx 4 (fun K hK=> ?_)
  go_simp
  refine hK.out _ _ ?_ ?_
  ·have kS:But (fun b=> b=w.heap.size) wd (wd.setCells w.heap.size 0 [.bool fl,.string tx]):=but_setsK (S:=fun b=> b=w.heap.size) (.inl rfl) _ 0 (But.of_kept (K_.refl _))
   exact fun _=> ⟨(kS.cell (Nat.lt_of_lt_of_le HLZ.out KD.size) hne).trans Z_.1,(kS.cell (Nat.lt_of_lt_of_le HLZ.out KD.size) hne).trans Z_.2.1,(kS.cell (Nat.lt_of_lt_of_le HLZ.out KD.size) hne).trans Z_.2.2⟩
  clear hK K
  try simp only [Act.put,upA,upB,upC]
  refine Qx.nx 5 (fun K hK=> ?_)
  go_simp
  refine hK.out _ _ (fun h=> absurd rfl h) ?_
  clear hK K
  try simp only [Act.put,upA,upB,upC]
  refine Qx.dn ?_
  go_wp2_with fail
  have hR:=World.rangeAt_setCells_same wd w.heap.size 0 [.bool fl,.string tx] (HRd.out.row.there (o:=0) (m:=2) (Nat.le_refl _))
  refine bodyPost_ret_c2 [.bool fl,.string tx] _ (.bool ov) Tryz.results103 rfl hR Tryz.underlying75 rfl Tryz.xSizeAns rfl rfl ?_
  exact ⟨⟨fl,tx,ov,rfl,HSA.out HAct.out,fun _ r hr=> (HSR.out r hr).2⟩,kept_sets (g:=w.heap.size) (Nat.le_refl _) [.bool fl,.string tx] 0 (K2.trans KD)⟩
theorem cleanMissing_any (hC:CM Kj wz w cb a cap mr mt mx cl f kf un co) (hS:CS Kj wz cl f kf un co sl) (hwl:Kj.length<=1048576) (hwr:Rises Kj) (hN:Nodes wz a Kj) (n:ByteArray) (hsz:n.size<=1000):
  Calls Tryz.prog 151 #[.pointer (some ⟨cb,0,none⟩),.string n] w fun e w'=> Says e (ansOf (Q_ Kj) (Qj sl) n=none)∧K_ w w':=by
 have HC:=Kz hC
 have HS:=Kz hS
 clear hC hS
 go_enter Tryz.func151,Tryz.ntmps151
 go_wp2_with fail
 refine (cleanAnswer_any HC.out HS.out hwl hwr hN n hsz).mono ?_
 rintro e w1 ⟨⟨fa,tx,ok,rfl,h1,_⟩,k1⟩
 have H1:=Kz h1
 clear h1
 go_wp2_with fail
 go_ret
 refine ⟨⟨!ok,rfl, ?_⟩,k1.alloc _⟩
 rw [H1.out]
 cases ok <;> simp
end
theorem Tryz.neqNil (w:World): (binOp .neq 163 .nilFunc .nilFunc).run Tryz.prog w= .ok (.bool false) w:=by kernel_rfl
theorem Tryz.neqFn (w:World) (v1 v2 v3 v4:Value): (binOp .neq 163 (.func (.func 141) #[] #[v1,v2,v3,v4]) .nilFunc).run Tryz.prog w= .ok (.bool true) w:=by kernel_rfl
def CMS (cb mr mt:Nat) (cl:ByteArray->Option CloM) (b:Nat):Prop:=b=cb∨b=mr∨b=mt∨∃n t,cl n=some t∧b∈t.own
structure CStep (cb mr mt:Nat) (cl cl':ByteArray->Option CloM) (w w':World):Prop where
 but:But (CMS cb mr mt cl) w w'
 own: ∀b,CMS cb mr mt cl' b->CMS cb mr mt cl b∨w.heap.size<=b
theorem CStep.kept {cb mr mt:Nat} {cl:ByteArray->Option CloM} {w w':World} (k:K_ w w'):CStep cb mr mt cl cl w w':= ⟨But.of_kept k,fun _ h=> .inl h⟩
theorem CStep.trans {cb mr mt:Nat} {cl cl' cl'':ByteArray->Option CloM} {w w' w'':World} (h:CStep cb mr mt cl cl' w w') (k:CStep cb mr mt cl' cl'' w' w''):CStep cb mr mt cl cl'' w w'':=by
 refine ⟨⟨k.but.os.trans h.but.os,k.but.tape.trans h.but.tape,k.but.output.trans h.but.output,Nat.le_trans h.but.size k.but.size,fun b hb hn=> ?_⟩,fun b hb=> ?_⟩
 ·refine (k.but.block b (Nat.lt_of_lt_of_le hb h.but.size) (fun e=> ?_)).trans (h.but.block b hb hn)
  rcases h.own b e with g | g
  ·exact hn g
  ·omega
 ·rcases k.own b hb with g | g
  ·exact h.own b g
  ·exact .inr (Nat.le_trans h.but.size g)
section
variable {Kj : List Qq} {wz w : World} {cb : Nat} {a : Option Addr} {cap mr mt mx : Nat} {cl : ByteArray -> Option CloM} {f : ByteArray -> Value} {kf : ByteArray -> Prop} {un co : Int}
theorem cleanWant_any (hC:CM Kj wz w cb a cap mr mt mx cl f kf un co) (hwl:Kj.length<=1048576) (hwr:Rises Kj) (hN:Nodes wz a Kj) (n:ByteArray) (hsz:n.size<=1000) (hmx:mx<=1000000):
  Calls Tryz.prog 50 #[.pointer (some ⟨cb,0,none⟩),.string n] w fun e w'=> e= .returned (.tuple #[])∧∃cl',CM Kj wz w' cb a cap mr mt (mx+1) cl' f kf un co∧CStep cb mr mt cl cl' w w'∧
   ((cl'=cl∧(Q_ Kj n=none∨(cl n).isSome=true))∨((Q_ Kj n).isSome=true∧cl n=none∧∃t,t.r=Qz.fresh n∧cl'=fun m=> if m=n then some t else cl m)):=by
 have b0:=hC.c0
 have b1:=hC.c1
 have zk:=hC.row.lt
 have HC:=Kz hC
 clear hC
 go_enter Tryz.func50,Tryz.ntmps50
 go_wp2_with fail
 refine (find_any _ a cap Kj n hwl hwr (hN.kept HC.out.kw)).mono ?_
 rintro e w1 ⟨⟨p,fd,rfl,hp,hf⟩,k1⟩
 have HP:=Kz hp
 have HF:=Kz hf
 have HC1:=Kz (HC.out.kept k1)
 clear hp hf b0 b1 zk
 cases fd
 ·go_wp2_with fail
  refine bodyPost_ret (results_none rfl _ _ _) rfl ?_
  refine ⟨rfl,cl,HC1.out.more (by omega),CStep.kept k1,.inl ⟨rfl,.inl (acts_none fun j hj e=> ?_)⟩⟩
  have hna:nameAt Kj j=n.toList:=by unfold nameAt;rw [e]
  have e2:=Place.only hwr HP.out hj hna
  rw [e2] at hj hna
  have:=HF.out.2 ⟨hj,hna⟩
  cases this
 have hpl:= (HF.out.1 rfl).1
 have HAct:Hid (Q_ Kj n=some ⟨(Kj.getD p Qq.zero).cost,(Kj.getD p Qq.zero).steps⟩):=acts_at hpl (toList_inj.1 (HF.out.1 rfl).2) (fun j hj e=> by
  have hna:nameAt Kj j=n.toList:=by unfold nameAt;rw [e]
  have:=Place.only hwr HP.out (by omega) hna
  omega)
 have hlk:=HC1.out.lookR (s:=n) (by unfold maxLen;omega)
 have b2:=HC1.out.c2
 have zk:=HC1.out.row.lt
 cases hcn:cl n with
 | some t=>
  have e0:fnC cl n= .func (.func 141) #[] #[ptrB t.vb,ptrB t.ab,ptrB t.tb,ptrB t.xb]:=by unfold fnC;rw [hcn];rfl
  rw [e0] at hlk
  have HCn:=Kz hcn
  have hneq:=Tryz.neqFn w1 (ptrB t.vb) (ptrB t.ab) (ptrB t.tb) (ptrB t.xb)
  clear hcn e0
  go_wp2_with fail
  refine bodyPost_ret (results_none rfl _ _ _) rfl ?_
  exact ⟨rfl,cl,HC1.out.more (by omega),CStep.kept k1,.inl ⟨rfl,.inr (by rw [HCn.out];rfl)⟩⟩
 | none=>
  have e0:fnC cl n= .nilFunc:=by unfold fnC;rw [hcn]
  rw [e0] at hlk
  have HCn:=Kz hcn
  have hneq:=Tryz.neqNil w1
  clear hcn e0
  obtain ⟨b,o,cs,rfl,hb0,hcs,aa,ca,rfl,hA⟩:=hN p hpl
  obtain ⟨y,hy⟩: ∃y,y=Kj.getD p Qq.zero:= ⟨_,rfl⟩
  rw [<-hy] at hcs hA HAct
  have hb:b < w1.heap.size:=Nat.lt_of_lt_of_le hb0 HC1.out.kw.size
  have c1:w1.cell? ⟨b,o+p * 3+1,none⟩=some (.int .i64 y.cost):= (HC1.out.kw.cell hb0).trans (hcs 1 _ rfl)
  have c2:w1.cell? ⟨b,o+p * 3+2,none⟩=some (.slice aa y.steps.length ca):= (HC1.out.kw.cell hb0).trans (hcs 2 _ rfl)
  have m0:=HC1.out.c0
  have Zz:Hid (∀v,K_ w1 v->v.cell? ⟨cb,2,none⟩=some (.map (some mr))∧v.cell? ⟨cb,0,none⟩=some (.slice (some ⟨b,o,none⟩) Kj.length cap)∧v.cell? ⟨b,o+p * 3+1,none⟩=some (.int .i64 y.cost)∧v.cell? ⟨b,o+p * 3+2,none⟩=some (.slice aa y.steps.length ca)):=fun v K=> ⟨(K.cell zk).trans b2,(K.cell zk).trans m0,(K.cell hb).trans c1,(K.cell hb).trans c2⟩
  have HA:=Kz hA
  have hpi: (p:Int) < (Kj.length:Int):=by omega
  clear hcs hA hy
  go_upto_region 2 with fail
  clear hlk hneq b2 zk c1 c2 m0 hb
  refine Qx.rg 15 Zz.out fun wd KD Z_=> ?_
  refine Qx.tk 0 Z_ ?_
  refine Qx.tk 1 Z_ ?_
  refine Qx.tk 2 Z_ ?_
  refine Qx.tk 3 Z_ ?_
  refine Qx.tk 4 Z_ ?_
  refine Qx.tk 5 Z_ ?_
  refine Qx.tk 6 Z_ ?_
  refine Qx.tk 7 Z_ ?_
  refine Qx.tk 8 Z_ ?_
  refine Qx.tk 9 Z_ ?_
  refine Qx.tk 10 Z_ ?_
  refine Qx.tk 11 Z_ ?_
  refine Qx.tk 12 Z_ ?_
  refine Qx.tk 13 Z_ ?_
  refine Qx.nx 14 (fun K hK=> ?_)
  rw [if_pos (by rfl)]
  go_simp
  go_at_call 99
  refine (runOf_any wz wd (HC1.out.kw.trans KD) n y.cost y.steps aa ca).mono ?_
  rintro e w3 ⟨t,rfl,hCt,htr,htc,hts,hta,k3,hab,hown⟩
  have K3:=KD.trans k3
  have HC3:=Kz (HC1.out.kept K3)
  have hwd1:=KD.size
  have hSep: ∀m u,m≠n->cl m=some u->∀x∈t.own,x∉u.own:=fun m u _ hu x hx hy=> by
   have h1:= ((HC1.out.clo m u hu).2.2.2.own_type hy).2.2
   have h2:=hown x hx
   omega
  obtain ⟨w4,hrun,hC4,hB4⟩:=HC3.out.putR (s:=n) (t:=t) (by unfold maxLen;omega) (by rw [htr];rfl) (by rw [htc,hts];exact HAct.out) (by rw [hta,hts];exact HA.out) hCt hSep hmx
  have HC4:=Kz hC4
  have HB4:=Kz hB4
  have HOwn:=Kz hown
  have HTr:=Kz htr
  refine hK.out _ _ (fun _=> Zz.out _ K3) ?_
  clear hK K Z_ hC4 hB4 hown htr htc hts hta hCt hSep
  try simp only [Act.put,upA,upB,upC]
  refine Qx.nx 15 (fun K hK=> ?_)
  go_simp
  refine hK.out _ _ (fun h=> absurd rfl h) ?_
  clear hK K
  try simp only [Act.put,upA,upB,upC]
  refine Qx.dn ?_
  go_wp2_with fail
  refine bodyPost_end (results_none rfl _ _ _) rfl ?_
  refine ⟨rfl,_,HC4.out, ?_,.inr ⟨by rw [HAct.out];rfl,HCn.out,t,HTr.out,rfl⟩⟩
  refine ⟨(But.of_kept (k1.trans K3)).trans (HB4.out.mono (fun b _ e=> .inr (.inl e))),fun b hb=> ?_⟩
  rcases hb with hb | hb | hb | ⟨m,u,hu,hx⟩
  ·exact .inl (.inl hb)
  ·exact .inl (.inr (.inl hb))
  ·exact .inl (.inr (.inr (.inl hb)))
  ·simp only at hu
   split at hu
   ·cases hu
    have h2:=HOwn.out b hx
    have h3:=k1.size
    exact .inr (by omega)
   ·exact .inl (.inr (.inr (.inr ⟨m,u,hu,hx⟩)))
theorem mul_small {u c:Int} (h0:0<=u) (h1:u<=1) (h2:0<=c) (h3:c<=20):0<=u * c∧u * c<=20:=by
 refine ⟨Int.mul_nonneg h0 h2, ?_⟩
 have:u * c<=1 * c:=Int.mul_le_mul_of_nonneg_right h1 h2
 omega
theorem cleanCount_any (hC:CM Kj wz w cb a cap mr mt mx cl f kf un co) (hwl:Kj.length<=1048576) (hwr:Rises Kj) (hN:Nodes wz a Kj) (n:ByteArray) (A:ActionD) (hact:Q_ Kj n=some A) (u:Int) (hu0:0<=u) (hu20:u<=1) (hc0:0<=A.cost) (hc20:A.cost<=20) (hun:0<=un∧un<=100000) (hco:0<=co∧co<=100000):
  Calls Tryz.prog 152 #[.pointer (some ⟨cb,0,none⟩),.string n,.int .i64 u] w fun e w'=> e= .returned (.tuple #[])∧CM Kj wz w' cb a cap mr mt mx cl f kf (un+u) (co+u * A.cost)∧CStep cb mr mt cl cl w w':=by
 have b0:=hC.c0
 have b1:=hC.c1
 have zk:=hC.row.lt
 have HC:=Kz hC
 have HAct0:=Kz hact
 clear hC hact
 go_enter Tryz.func152,Tryz.ntmps152
 go_wp2_with fail
 refine (find_any _ a cap Kj n hwl hwr (hN.kept HC.out.kw)).mono ?_
 rintro e w1 ⟨⟨p,fd,rfl,hp,hf⟩,k1⟩
 have HP:=Kz hp
 have HF:=Kz hf
 have HC1:=Kz (HC.out.kept k1)
 clear hp hf b0 b1 zk
 cases fd
 ·exfalso
  have hno:Q_ Kj n=none:=acts_none fun j hj e=> by
   have hna:nameAt Kj j=n.toList:=by unfold nameAt;rw [e]
   have e2:=Place.only hwr HP.out hj hna
   rw [e2] at hj hna
   have:=HF.out.2 ⟨hj,hna⟩
   cases this
  rw [HAct0.out] at hno
  cases hno
 have hpl:= (HF.out.1 rfl).1
 have HAct:Hid (Q_ Kj n=some ⟨(Kj.getD p Qq.zero).cost,(Kj.getD p Qq.zero).steps⟩):=acts_at hpl (toList_inj.1 (HF.out.1 rfl).2) (fun j hj e=> by
  have hna:nameAt Kj j=n.toList:=by unfold nameAt;rw [e]
  have:=Place.only hwr HP.out (by omega) hna
  omega)
 obtain ⟨b,o,cs,rfl,hb0,hcs,aa,ca,rfl,hA⟩:=hN p hpl
 obtain ⟨cst,hcst⟩: ∃cst,cst=A.cost:= ⟨_,rfl⟩
 have hc1:w1.cell? ⟨b,o+p * 3+1,none⟩=some (.int .i64 cst):=by
  have e:=HAct.out
  rw [HAct0.out] at e
  rw [hcst,Option.some.inj e]
  exact (HC1.out.kw.cell hb0).trans (hcs 1 _ rfl)
 have HCst:=Kz hcst
 rw [<-hcst] at hc0 hc20
 have hb:b < w1.heap.size:=Nat.lt_of_lt_of_le hb0 HC1.out.kw.size
 have b4:=HC1.out.c4
 have zk:=HC1.out.row.lt
 obtain ⟨⟨_,f1⟩,f4⟩:=HC1.out.row.row.at (i:=4) (by omega)
 obtain ⟨W2,hW2⟩: ∃W2,W2=w1.setCell ⟨cb,4,none⟩ (.int .i64 (un+u)):= ⟨_,rfl⟩
 have HC2:Hid (CM Kj wz W2 (cb) (some ⟨b,o,none⟩) cap mr mt mx cl f kf (un+u) co):=by rw [hW2];exact HC1.out.setU (un+u)
 have hbW:b < W2.heap.size:=by rw [hW2,size_setCell];exact hb
 have hne:b≠cb:=by have:=HC1.out.low;omega
 have Zz:Hid (∀v,K_ W2 v->v.cell? ⟨cb,5,none⟩=some (.int .i64 co)∧v.cell? ⟨cb,0,none⟩=some (.slice (some ⟨b,o,none⟩) Kj.length cap)∧v.cell? ⟨b,o+p * 3+1,none⟩=some (.int .i64 cst)):=fun v K=> ⟨(K.cell HC2.out.row.lt).trans HC2.out.c5,(K.cell HC2.out.row.lt).trans HC2.out.c0,(K.cell hbW).trans (by rw [hW2,Zk hne];exact hc1)⟩
 have hpi: (p:Int) < (Kj.length:Int):=by omega
 have hmul:=mul_small hu0 hu20 hc0 hc20
 clear hcs hA hcst hc1 hb hne hbW f1
 go_upto_region 2 with fail
 rw [<-hW2]
 have HW2:=Kz hW2
 clear hW2 b4 zk f4
 refine Qx.rg 19 Zz.out fun wd KD Z_=> ?_
 refine Qx.tk 0 Z_ ?_
 refine Qx.tk 1 Z_ ?_
 refine Qx.tk 2 Z_ ?_
 refine Qx.tk 3 Z_ ?_
 refine Qx.tk 4 Z_ ?_
 refine Qx.tk 5 Z_ ?_
 refine Qx.tk 6 Z_ ?_
 refine Qx.tk 7 Z_ ?_
 refine Qx.tk 8 Z_ ?_
 refine Qx.tk 9 Z_ ?_
 refine Qx.tk 10 Z_ ?_
 refine Qx.tk 11 Z_ ?_
 refine Qx.tk 12 Z_ ?_
 refine Qx.tk 13 Z_ ?_
 refine Qx.tk 14 Z_ ?_
 refine Qx.tk 15 Z_ ?_
 refine Qx.tk 16 Z_ ?_
 refine Qx.tk 17 Z_ ?_
 refine Qx.tk 18 Z_ ?_
 have HCd:=Kz (HC2.out.kept KD)
 obtain ⟨⟨_,x5⟩,f5⟩:=HCd.out.row.row.at (i:=5) (by omega)
 have zd:=HCd.out.row.lt
 refine Qx.nx 19 (fun K hK=> ?_)
 go_simp
 refine hK.out _ _ (fun h=> absurd rfl h) ?_
 clear hK K
 try simp only [Act.put,upA,upB,upC]
 refine Qx.dn ?_
 go_wp2_with fail
 refine bodyPost_end (results_none rfl _ _ _) rfl ?_
 have hw2:IntKind.i64.wrap (u * cst)=u * cst:=wrap_i64_in (by omega) (by omega)
 have hw3:IntKind.i64.wrap (co+u * cst)=co+u * cst:=wrap_i64_in (by omega) (by omega)
 rw [hw2,hw3,<-HCst.out]
 refine ⟨rfl,HCd.out.setC (co+u * cst), ?_⟩
 have q1:But (CMS cb mr mt cl) w w1:=But.of_kept k1
 have q2:But (CMS cb mr mt cl) w W2:=by rw [HW2.out];exact q1.set (p:= ⟨cb,4,none⟩) (.inl rfl) _
 exact ⟨(q2.trans' KD).set (p:= ⟨cb,5,none⟩) (.inl rfl) _,fun _ h=> .inl h⟩
end
section
variable {Kj : List Qq} {wz w : World} {cb : Nat} {a : Option Addr} {cap mr mt mx : Nat} {cl : ByteArray -> Option CloM} {f : ByteArray -> Value} {kf : ByteArray -> Prop} {un co : Int} {sl : List Qz}
theorem missingAt_any (hC:CM Kj wz w cb a cap mr mt mx cl f kf un co) (hS:CS Kj wz cl f kf un co sl) (hwl:Kj.length<=1048576) (hwr:Rises Kj) (hN:Nodes wz a Kj) (qa:Option Addr) (qc:Nat) (l:List ByteArray) (hl:l.length<=1048576) (hsz: ∀x∈l,x.size<=1000) (hQ:Strs wz qa l):
  Calls Tryz.prog 176 #[.slice qa l.length qc,.func (.func 151) #[.pointer (some ⟨cb,0,none⟩)] #[]] w fun e w'=> (∃i:Int,e= .returned (.int .i64 i)∧(0<=i↔∃n∈l,ansOf (Q_ Kj) (Qj sl) n=none))∧K_ w w':=by
 have HC:=Kz hC
 have HS:=Kz hS
 clear hC hS
 go_enter Tryz.func176,Tryz.ntmps176
 go_wp2
 go_loopw [8] (fun i wr=> ∃k:Nat,k<=l.length∧i= .int .i64 (k:Int)∧Hid (∀r∈l.take k,ansOf (Q_ Kj) (Qj sl) r≠none)∧K_ w wr) (fun i _=> l.length - (intOf i).toNat)
 case atStart=> exact ⟨0,Nat.zero_le _,rfl,Kz (fun r hr=> by simp at hr),K_.refl _⟩
 case round=>
  obtain ⟨k,hk,rfl,HN,hw⟩:=hrel
  by_cases hlt:k < l.length
  ·have KZ:=HC.out.kw.trans hw
   obtain ⟨b,o,rfl,hb0,hc0⟩:=hQ k hlt
   obtain ⟨n,hn⟩: ∃n,n=l.getD k ByteArray.empty:= ⟨_,rfl⟩
   rw [<-hn] at hc0
   have hcg:l[k]=n:=by rw [hn];simp [List.getD,hlt]
   have HCG:=Kz hcg
   have c0:_=some (Value.string n):= (KZ.cell hb0).trans hc0
   have hnz:n.size<=1000:=by rw [<-hcg];exact hsz _ (List.getElem_mem hlt)
   have hki: (k:Int) < (l.length:Int):=by omega
   clear hc0 hn hcg
   go_wp2_with fail
   refine (cleanMissing_any (HC.out.kept hw) HS.out hwl hwr hN n hnz).mono ?_
   rintro e w1 ⟨⟨r,rfl,hr⟩,k1⟩
   have K1:=hw.trans k1
   have HR:=Kz hr
   clear c0 hr
   cases hov:r
   ·have HN2:Hid (∀r∈l.take (k+1),ansOf (Q_ Kj) (Qj sl) r≠none):=fun x hx=> by
     rw [List.take_succ_eq_append_getElem hlt,HCG.out] at hx
     rcases List.mem_append.1 hx with h | h
     ·exact HN.out x h
     ·rw [List.mem_singleton] at h;rw [h];exact fun h2=> by have:=HR.out.2 h2;rw [hov] at this;cases this
    go_wp2_with fail
    go_roundw
    case rel=> exact ⟨k+1,by omega,by go_num,HN2,K1⟩
    case measure=> simp [intOf];omega
   ·go_wp2_with fail
    go_ret
    exact ⟨⟨_,rfl,fun _=> ⟨n,by rw [<-HCG.out];exact List.getElem_mem hlt,HR.out.1 hov⟩,fun _=> by omega⟩,K1⟩
  ·have hnk: ¬((k:Int) < (l.length:Int)):=by omega
   have HAll:Hid (∀r∈l,ansOf (Q_ Kj) (Qj sl) r≠none):=by have h:=HN.out;rw [List.take_of_length_le (by omega)] at h;exact h
   clear hlt
   go_wp2_with fail
   go_ret
   exact ⟨⟨_,rfl,fun h=> by omega,fun ⟨r,h1,h2⟩=> absurd h2 (HAll.out r h1)⟩,hw⟩
theorem anyMissing_any (hC:CM Kj wz w cb a cap mr mt mx cl f kf un co) (hS:CS Kj wz cl f kf un co sl) (hwl:Kj.length<=1048576) (hwr:Rises Kj) (hN:Nodes wz a Kj) (qa:Option Addr) (qc:Nat) (l:List ByteArray) (hl:l.length<=1048576) (hsz: ∀x∈l,x.size<=1000) (hQ:Strs wz qa l):
  Calls Tryz.prog 150 #[.slice qa l.length qc,.func (.func 151) #[.pointer (some ⟨cb,0,none⟩)] #[]] w fun e w'=> Says e (∃n∈l,ansOf (Q_ Kj) (Qj sl) n=none)∧K_ w w':=by
 have HC:=Kz hC
 have HS:=Kz hS
 clear hC hS
 go_enter Tryz.func150,Tryz.ntmps150
 go_wp2_with fail
 refine (missingAt_any HC.out HS.out hwl hwr hN qa qc l hl hsz hQ).mono ?_
 rintro e w1 ⟨⟨i,rfl,hi⟩,k1⟩
 cases h0:decide ((0:Int)<=i)
 ·have HI:Hid (¬∃n∈l,ansOf (Q_ Kj) (Qj sl) n=none):=fun h=> by have:=hi.2 h;simp [this] at h0
  clear hi
  go_wp2_with fail
  go_ret
  exact ⟨Says.no HI.out,k1⟩
 ·have HI:=Kz (hi.1 (by simpa using h0))
  clear hi
  go_wp2_with fail
  go_ret
  exact ⟨Says.yes HI.out,k1⟩
end
def sumX (g:Qz->Int) (l:List Qz):Int:= (l.map g).sum
theorem sumX_cons (g:Qz->Int) (x:Qz) (l:List Qz):sumX g (x :: l)=g x+sumX g l:=by simp [sumX]
theorem sumX_append (g:Qz->Int) (l l':List Qz):sumX g (l++l')=sumX g l+sumX g l':=by simp [sumX]
theorem sum_three (g:Qz->Int) (n:ByteArray): ∀l:List Qz,sumX g (l.filter fun x=> Op.bytesLess x.name.toList n.toList)+sumX g (l.filter fun x=> Op.bytesLess n.toList x.name.toList)+sumX g (l.filter fun x=> decide (x.name=n))=sumX g l
 | []=> rfl
 | x :: l=> by
  have ih:=sum_three g n l
  rw [sumX_cons]
  rcases lessX_total x.name n with h | h | h
  ·have h2:Op.bytesLess n.toList x.name.toList=false:=by
    cases e:Op.bytesLess n.toList x.name.toList with
    | false=> rfl
    | true=> exact absurd (lessX_trans h e) (lessX_irrefl _)
   have h3:decide (x.name=n)=false:=by simpa using lessX_ne h
   rw [List.filter_cons_of_pos (by exact h),List.filter_cons_of_neg (by rw [h2];simp),List.filter_cons_of_neg (by rw [h3];simp),sumX_cons]
   omega
  ·have h1:Op.bytesLess x.name.toList n.toList=false:=by
    cases e:Op.bytesLess x.name.toList n.toList with
    | false=> rfl
    | true=> rw [h] at e;exact absurd e (lessX_irrefl _)
   have h2:Op.bytesLess n.toList x.name.toList=false:=by
    cases e:Op.bytesLess n.toList x.name.toList with
    | false=> rfl
    | true=> rw [h] at e;exact absurd e (lessX_irrefl _)
   rw [List.filter_cons_of_neg (by rw [h1];simp),List.filter_cons_of_neg (by rw [h2];simp),List.filter_cons_of_pos (by simpa using h),sumX_cons]
   omega
  ·have h1:Op.bytesLess x.name.toList n.toList=false:=by
    cases e:Op.bytesLess x.name.toList n.toList with
    | false=> rfl
    | true=> exact absurd (lessX_trans h e) (lessX_irrefl _)
   have h3:decide (x.name=n)=false:=by simpa using (lessX_ne h).symm
   rw [List.filter_cons_of_neg (by rw [h1];simp),List.filter_cons_of_pos (by exact h),List.filter_cons_of_neg (by rw [h3];simp),sumX_cons]
   omega
theorem sum_eq (g:Qz->Int) (n:ByteArray): ∀{l:List Qz},AscX l->sumX g (l.filter fun x=> decide (x.name=n))=match Qj l n with | some r=> g r | none=> 0
 | [],_=> rfl
 | x :: l,h=> by
  have hx:=List.pairwise_cons.1 h
  by_cases e:x.name=n
  ·have e1:l.filter (fun x=> decide (x.name=n))=[]:=by
    rw [List.filter_eq_nil_iff]
    intro y hy hn
    have h1:=hx.1 y hy
    rw [e,<-(by simpa using hn:y.name=n)] at h1
    exact absurd h1 (lessX_irrefl _)
   have e2:Qj (x :: l) n=some x:=by unfold Qj;rw [List.find?_cons_of_pos (by simpa using e)]
   rw [List.filter_cons_of_pos (by simpa using e),e1,e2,sumX_cons]
   simp [sumX]
  ·have e2:Qj (x :: l) n=Qj l n:=by unfold Qj;rw [List.find?_cons_of_neg (by simpa using e)]
   rw [List.filter_cons_of_neg (by simpa using e),e2]
   exact sum_eq g n hx.2
theorem ins_sum (g:Qz->Int) {l:List Qz} {r:Qz} (h:AscX l):sumX g (insX l r)=sumX g l - (match Qj l r.name with | some r0=> g r0 | none=> 0)+g r:=by
 have h1:=sum_three g r.name l
 rw [sum_eq g r.name h] at h1
 unfold insX
 rw [sumX_append,sumX_cons]
 omega
theorem unitsX_eq (l:List Qz):unitsX l=sumX (fun r=> r.Zj) l:=rfl
theorem costX_eq (W:Acts) (l:List Qz):costX W l=sumX (fun r=> r.Zj * costOf W r.name) l:=rfl
theorem next_visits {Kj:List Qq} {σ:Env} {r:Qz} (hgd:r.Good Kj) (hc:CanGo (Q_ Kj) σ r): (Y_ (Q_ Kj) σ r).1.Zj≠0∧0<=(Y_ (Q_ Kj) σ r).1.Zj - r.Zj∧(Y_ (Q_ Kj) σ r).1.Zj - r.Zj<=1:=by
 obtain ⟨A,hA,_,_⟩:=hgd.act
 have hlo:=hgd.lo
 have key: ∀r1:Qz,(arrive A r1).1.Zj=r1.Zj+1:=fun r1=> by unfold arrive;simp only;split <;> rfl
 unfold Y_
 rw [hA]
 simp only
 split
 ·rw [key];omega
 ·rename_i hv
  split
  ·next e=>
   exfalso
   rcases hc.2 with h | ⟨A2,xs,h2,h3⟩
   ·exact hv h
   ·rw [hA] at h2;cases h2;rw [e] at h3;cases h3
  ·split
   ·simp only;omega
   ·split
    ·simp only;omega
    ·rw [key];simp only;omega
section
variable {Kj : List Qq} {wz : World} {cl : ByteArray -> Option CloM} {f : ByteArray -> Value} {kf : ByteArray -> Prop} {un co : Int} {sl : List Qz}
theorem CS.want (h:CS Kj wz cl f kf un co sl) (hok:ActsOk (Q_ Kj)) {n:ByteArray} (hA: (Q_ Kj n).isSome=true) (hn:cl n=none) {t:CloM} (ht:t.r=Qz.fresh n):CS Kj wz (fun m=> if m=n then some t else cl m) f kf un co (insX sl (Qz.fresh n)):=by
 have en:Qj sl n=none:=by rw [h.env n,hn];rfl
 refine ⟨⟨insX_asc h.good.asc,fun r hr=> ?_⟩,fun m=> ?_,fun s=> ?_,fun s=> ?_, ?_, ?_, ?_⟩
 ·rcases insX_mem.1 hr with rfl | ⟨h1,_⟩
  ·exact fresh_good hok hA
  ·exact h.good.good r h1
 ·rw [insX_env h.good.asc]
  by_cases e:m=n
  ·rw [if_pos e,if_pos (by exact e),<-ht];rfl
  ·rw [if_neg e,if_neg (by exact e)];exact h.env m
 ·by_cases e:s=n
  ·rw [if_pos e,e]
   have h1:=h.turn n
   rw [hn] at h1
   have e2:asksC (Q_ Kj) t.r=[]:=by unfold asksC;rw [if_pos (.inl (by rw [ht];rfl))]
   refine ⟨0,none,0, ?_, ?_⟩
   ·rw [e2,ht];exact h1
   ·rw [e2];exact strs_no wz
  ·rw [if_neg e];exact h.turn s
 ·rw [h.key s]
  by_cases e:s=n
  ·rw [if_pos e,e,hn]
   constructor
   ·rintro ⟨_,h1,_⟩;cases h1
   ·rintro ⟨t',h1,h2⟩
    cases h1
    exact absurd (by rw [ht];rfl) h2
  ·rw [if_neg e]
 ·rw [h.units,unitsX_eq,unitsX_eq,ins_sum _ h.good.asc]
  show sumX _ sl=sumX _ sl - (match Qj sl n with | some r0=> r0.Zj | none=> 0)+0
  rw [en]
  simp
 ·rw [h.cost,costX_eq,costX_eq,ins_sum _ h.good.asc]
  show sumX _ sl=sumX _ sl - (match Qj sl n with | some r0=> r0.Zj * costOf (Q_ Kj) r0.name | none=> 0)+0 * costOf (Q_ Kj) n
  rw [en]
  simp
 ·intro m r hr ho
  rw [insX_env h.good.asc] at hr
  split at hr
  ·cases hr;exact ⟨rfl,rfl⟩
  ·exact h.opn m r hr ho
theorem CS.done (h:CS Kj wz cl f kf un co sl) (hok:ActsOk (Q_ Kj)) {n:ByteArray} {t:CloM} (ht:cl n=some t) (hA:Q_ Kj n=some ⟨t.cost,t.steps⟩) (hc:CanGo (Q_ Kj) (Qj sl) t.r) {r':Qz} (hr':r'= (Y_ (Q_ Kj) (Qj sl) t.r).1) {tv':Value} {qa:Option Addr} {qc:Nat} (hq:Strs wz qa (Y_ (Q_ Kj) (Qj sl) t.r).2):
  CS Kj wz (fun m=> if m=n then some { t with r:=r',tv:=tv' } else cl m) (fun m=> if m=n then turnV (r'.Zj - t.r.Zj) qa (Y_ (Q_ Kj) (Qj sl) t.r).2.length qc r'.over r'.fail r'.text else f m) (fun m=> m=n∨kf m) (un+ (r'.Zj - t.r.Zj)) (co+ (r'.Zj - t.r.Zj) * t.cost) (insX sl r'):=by
 have en:Qj sl n=some t.r:=by rw [h.env n,ht];rfl
 obtain ⟨hm,hnm⟩:=env_mem en
 have hgd:=h.good.good t.r hm
 have hg':r'.Good Kj:=by rw [hr'];exact nextOf_good hok h.good.env hgd hc
 have hn':r'.name=n:=by rw [hr',nextOf_name];exact hnm
 have ha: (Y_ (Q_ Kj) (Qj sl) t.r).2=asksC (Q_ Kj) r':=by rw [hr'];exact nextC_asks hok h.good hgd hc
 have hco:costOf (Q_ Kj) n=t.cost:=costOf_some hA
 refine ⟨⟨insX_asc h.good.asc,fun r hr=> ?_⟩,fun m=> ?_,fun s=> ?_,fun s=> ?_, ?_, ?_, ?_⟩
 ·rcases insX_mem.1 hr with rfl | ⟨h1,_⟩
  ·exact hg'
  ·exact h.good.good r h1
 ·rw [insX_env h.good.asc,hn']
  by_cases e:m=n
  ·rw [if_pos e,if_pos e];rfl
  ·rw [if_neg e,if_neg e];exact h.env m
 ·by_cases e:s=n
  ·rw [if_pos e,if_pos e]
   rw [ha] at hq⊢
   exact ⟨_,qa,qc,rfl,hq⟩
  ·rw [if_neg e,if_neg e];exact h.turn s
 ·by_cases e:s=n
  ·rw [if_pos e]
   exact ⟨fun _=> ⟨_,rfl,by show r'.Zj≠0;rw [hr'];exact (next_visits hgd hc).1⟩,fun _=> .inl e⟩
  ·rw [if_neg e]
   have e2: (s=n∨kf s)↔kf s:= ⟨fun h=> h.resolve_left e,.inr⟩
   rw [e2]
   exact h.key s
 ·rw [h.units,unitsX_eq,unitsX_eq,ins_sum _ h.good.asc,hn',en]
  simp only
  omega
 ·rw [h.cost,costX_eq,costX_eq,ins_sum _ h.good.asc,hn',en]
  simp only
  rw [hnm,hco,Int.sub_mul]
  omega
 ·intro m r hr ho
  rw [insX_env h.good.asc,hn'] at hr
  split at hr
  ·cases hr
   rw [hr'] at ho⊢
   exact next_openT (h.opn n t.r en hc.1) ho
  ·exact h.opn m r hr ho
end
theorem asksC_eq {Kj:List Qq} {r:Qz} {A:ActionD} (hA:Q_ Kj r.name=some A) (ho:r.over=false) (hv:r.Zj≠0):asksC (Q_ Kj) r= (stepOf A r.at').asks:=by
 unfold asksC
 rw [if_neg (by rw [ho];simp [hv]),hA]
theorem asksC_ok {Kj:List Qq} {r:Qz} (hok:ActsOk (Q_ Kj)) (hg:r.Good Kj): (asksC (Q_ Kj) r).length<=5∧∀x∈asksC (Q_ Kj) r,x.size<=20:=by
 obtain ⟨A,hA,h0,h1⟩:=hg.act
 unfold asksC
 split
 ·exact ⟨by simp,fun x hx=> by cases hx⟩
 ·rw [hA]
  obtain ⟨g1,g2⟩:=asks_ok (hok _ _ hA).1 h0 h1
  exact ⟨g1,fun x hx=> (g2 x hx).2.1⟩
theorem all_answers {W:Acts} {σ:Env}: ∀{l:List ByteArray},(¬∃n∈l,ansOf W σ n=none)->∃xs,Yq W σ l=some xs
 | [],_=> ⟨[],rfl⟩
 | a :: l,h=> by
  obtain ⟨ys,hy⟩:=all_answers (l:=l) (fun ⟨n,h1,h2⟩=> h ⟨n,List.mem_cons_of_mem _ h1,h2⟩)
  cases ha:ansOf W σ a with
  | none=> exact absurd ⟨a,List.mem_cons_self,ha⟩ h
  | some x=> exact ⟨x :: ys,by unfold Yq;rw [ha,hy]⟩
theorem no_answers {W:Acts} {σ:Env}: ∀{l:List ByteArray} {xs:List Xq},Yq W σ l=some xs->¬∃n∈l,ansOf W σ n=none
 | [],_,_,h=> by obtain ⟨n,h1,_⟩:=h;cases h1
 | a :: l,xs,h,hn=> by
  unfold Yq at h
  cases ha:ansOf W σ a with
  | none=> rw [ha] at h;cases h
  | some x=>
   rw [ha] at h
   simp only at h
   cases hl:Yq W σ l with
   | none=> rw [hl] at h;cases h
   | some ys=>
    obtain ⟨n,h1,h2⟩:=hn
    rcases List.mem_cons.1 h1 with rfl | h1
    ·rw [ha] at h2;cases h2
    ·exact no_answers hl ⟨n,h1,h2⟩
theorem can_of {Kj:List Qq} {σ:Env} {r:Qz} {asks:List ByteArray} (hg:r.Good Kj) (ho:r.over=false) (ha:asks=asksC (Q_ Kj) r) (hn: ¬∃n∈asks,ansOf (Q_ Kj) σ n=none):CanGo (Q_ Kj) σ r∧∃xs,Yq (Q_ Kj) σ asks=some xs:=by
 obtain ⟨xs,hx⟩:=all_answers hn
 refine ⟨⟨ho, ?_⟩,xs,hx⟩
 by_cases hv:r.Zj=0
 ·exact .inl hv
 ·obtain ⟨A,hA,_,_⟩:=hg.act
  rw [ha,asksC_eq hA ho hv] at hx
  exact .inr ⟨A,xs,hA,hx⟩
theorem not_can {Kj:List Qq} {σ:Env} {r:Qz} (hg:r.Good Kj) (hn: ∃n∈asksC (Q_ Kj) r,ansOf (Q_ Kj) σ n=none) (hc:CanGo (Q_ Kj) σ r):False:=by
 by_cases hv:r.Zj=0
 ·obtain ⟨n,h1,_⟩:=hn
  unfold asksC at h1
  rw [if_pos (.inl hv)] at h1
  cases h1
 ·obtain ⟨A,hA,_,_⟩:=hg.act
  rcases hc.2 with h | ⟨A2,xs,h2,h3⟩
  ·exact hv h
  ·rw [hA] at h2
   cases h2
   rw [asksC_eq hA hc.1 hv] at hn
   exact no_answers h3 hn
def WantsX (W:Acts) (σ1:Env) (bs:List ByteArray) (σ:Env):Prop:= ∀m,σ m=match σ1 m with
 | some x=> some x
 | none=> if hasN bs m=true∧(W m).isSome=true then some (Qz.fresh m) else none
theorem WantsX.start (W:Acts) (σ:Env):WantsX W σ [] σ:=fun m=> by
 cases σ m with
 | some x=> rfl
 | none=> simp [hasN]
theorem hasN_snoc {l:List ByteArray} {x m:ByteArray}:hasN (l++ [x]) m=true↔hasN l m=true∨m=x:=by
 rw [hasN_iff,hasN_iff,List.mem_append,List.mem_singleton]
theorem WantsX.no {W:Acts} {σ1 σ:Env} {bs:List ByteArray} {x:ByteArray} (h:WantsX W σ1 bs σ) (hx:W x=none∨(σ x).isSome=true):WantsX W σ1 (bs++ [x]) σ:=fun m=> by
 have hm:=h m
 cases h1:σ1 m with
 | some y=> rw [h1] at hm;exact hm
 | none=>
  rw [h1] at hm
  simp only at hm⊢
  rw [hm]
  by_cases e:m=x
  ·subst e
   rcases hx with hx | hx
   ·rw [if_neg (by rw [hx];simp),if_neg (by rw [hx];simp)]
   ·rw [hm] at hx
    split at hx
    ·next g=> rw [if_pos g,if_pos ⟨hasN_snoc.2 (.inl g.1),g.2⟩]
    ·cases hx
  ·have e2: (hasN (bs++ [x]) m=true∧(W m).isSome=true)↔(hasN bs m=true∧(W m).isSome=true):=by
    rw [hasN_snoc]
    constructor
    ·rintro ⟨g | g,g2⟩
     ·exact ⟨g,g2⟩
     ·exact absurd g e
    ·rintro ⟨g,g2⟩;exact ⟨.inl g,g2⟩
   simp only [e2]
theorem WantsX.new {W:Acts} {σ1 σ σ':Env} {bs:List ByteArray} {x:ByteArray} (h:WantsX W σ1 bs σ) (hW: (W x).isSome=true) (hx:σ x=none) (h': ∀m,σ' m=if m=x then some (Qz.fresh x) else σ m):WantsX W σ1 (bs++ [x]) σ':=fun m=> by
 have hm:=h m
 rw [h' m]
 by_cases e:m=x
 ·subst e
  rw [if_pos rfl]
  rw [hx] at hm
  cases h1:σ1 m with
  | some y=> rw [h1] at hm;cases hm
  | none=>
   simp only
   rw [if_pos ⟨hasN_snoc.2 (.inr rfl),hW⟩]
 ·rw [if_neg e,hm]
  cases h1:σ1 m with
  | some y=> rfl
  | none=>
   have e2: (hasN (bs++ [x]) m=true∧(W m).isSome=true)↔(hasN bs m=true∧(W m).isSome=true):=by
    rw [hasN_snoc]
    constructor
    ·rintro ⟨g | g,g2⟩
     ·exact ⟨g,g2⟩
     ·exact absurd g e
    ·rintro ⟨g,g2⟩;exact ⟨.inl g,g2⟩
   simp only [e2]
theorem doX_wants {W:Acts} {sl sl':List Qz} {n:ByteArray} {r r':Qz} (hn:Qj sl n=some r) (ha:AscX sl) (hr:r'= (Y_ W (Qj sl) r).1) (h:WantsX W (Qj (insX sl r')) (Y_ W (Qj sl) r).2 (Qj sl')):Qj sl'=doX W (Qj sl) n:=by
 funext m
 have hnm:r'.name=n:=by rw [hr,nextOf_name];exact (env_mem hn).2
 rw [h m,doX_eq hn,insX_env ha,hnm]
 by_cases e:m=n
 ·rw [if_pos e,if_pos e,hr]
 ·rw [if_neg e,if_neg e]
  cases Qj sl m <;> rfl
section
variable {Kj : List Qq} {wz w : World} {cb : Nat} {a : Option Addr} {cap mr mt mx : Nat} {cl : ByteArray -> Option CloM} {f : ByteArray -> Value} {kf : ByteArray -> Prop} {un co : Int} {sl : List Qz}
theorem CM.far (h:CM Kj wz w cb a cap mr mt mx cl f kf un co) {b:Nat} (hb:w.heap.size<=b): ¬CMS cb mr mt cl b:=by
 obtain ⟨N1,D1,a1,⟨es1,ck1,a2,_⟩,_⟩:=h.runs
 obtain ⟨N2,D2,b1,⟨es2,ck2,b2,_⟩,_⟩:=h.turns
 rintro (e | e | e | ⟨n,t,ht,hx⟩)
 ·have:=h.row.lt;omega
 ·have:=heap_lt a2;omega
 ·have:=heap_lt b2;omega
 ·have:= ((h.clo n t ht).2.2.2.own_type hx).2.2;omega
theorem sums_now (hS:CS Kj wz cl f kf un co sl) (hok:ActsOk (Q_ Kj)) (hwl:Kj.length<=60):0<=un∧un<=1200∧0<=co∧co<=24000:=by
 have hl:sl.length<=60:=Nat.le_trans hS.good.len hwl
 have h:=sums_le hok hS.good hl sl.length
 rw [List.take_length] at h
 rw [hS.units,hS.cost]
 exact h
def NextEnd (Kj:List Qq) (wz w:World) (cb:Nat) (a:Option Addr) (cap mr mt mx:Nat) (cl:ByteArray->Option CloM) (sl:List Qz) (n:ByteArray) (t:CloM) (w':World) (e:Ending):Prop:=
 (¬CanGo (Q_ Kj) (Qj sl) t.r∧e= .returned (.bool false)∧K_ w w')∨
 (CanGo (Q_ Kj) (Qj sl) t.r∧e= .returned (.bool true)∧∃cl' f' kf' un' co' sl',CM Kj wz w' cb a cap mr mt (mx+6) cl' f' kf' un' co'∧CS Kj wz cl' f' kf' un' co' sl'∧CStep cb mr mt cl cl' w w'∧Qj sl'=doX (Q_ Kj) (Qj sl) n)
theorem cleanNext_any (hC:CM Kj wz w cb a cap mr mt mx cl f kf un co) (hS:CS Kj wz cl f kf un co sl) (hok:ActsOk (Q_ Kj)) (hft: ∀y∈Kj,y.Fits) (hwl:Kj.length<=60) (hwr:Rises Kj) (hN:Nodes wz a Kj) (hFi:FinishOk wz) (n:ByteArray) (t:CloM) (ht:cl n=some t) (hmx:mx<=900000):
  Calls Tryz.prog 102 #[.pointer (some ⟨cb,0,none⟩),.string n] w fun e w'=> NextEnd Kj wz w cb a cap mr mt mx cl sl n t w' e:=by
 obtain ⟨ia,ha0,ha1,ha2,ha3⟩:=xInfo_parts Tryz.dInfoAns
 have hclo:=hC.clo n t ht
 have hen:Qj sl n=some t.r:=by rw [hS.env n,ht];rfl
 obtain ⟨hmem,_⟩:=env_mem hen
 have hgd:=hS.good.good t.r hmem
 have hnz:n.size<=20:= (hok n _ hclo.2.1).2.2.1
 obtain ⟨asks,hasks⟩: ∃asks,asks=asksC (Q_ Kj) t.r:= ⟨_,rfl⟩
 obtain ⟨hal,hasz⟩:=asksC_ok hok hgd
 rw [<-hasks] at hal hasz
 have htu:=hS.turn n
 rw [ht] at htu
 obtain ⟨u,qa,qc,hfn,hQ⟩:=htu
 rw [<-hasks] at hfn hQ
 have hlk:=hC.lookT (s:=n) (by unfold maxLen;omega)
 rw [hfn] at hlk
 unfold turnV at hlk
 have b3:=hC.c3
 have zk:=hC.row.lt
 obtain ⟨W1,hW1⟩: ∃W1,W1=w.alloc (.cells #[.int .i64 u,.slice qa asks.length qc,.bool t.r.over,.bool t.r.fail,.string t.r.text] 209):= ⟨_,rfl⟩
 have k1:K_ w W1:=by rw [hW1];exact (K_.refl _).alloc _
 have hr1:=Xz w #[.int .i64 u,.slice qa asks.length qc,.bool t.r.over,.bool t.r.fail,.string t.r.text] 209
 rw [<-hW1] at hr1
 have l1:W1.cell? ⟨w.heap.size,1,none⟩=some (.slice qa asks.length qc):=hr1 1 _ rfl
 have l2:W1.cell? ⟨w.heap.size,2,none⟩=some (.bool t.r.over):=hr1 2 _ rfl
 have lz:w.heap.size < W1.heap.size:=by rw [hW1];simp
 have HC:=Kz hC
 have HS:=Kz hS
 have HC1:=Kz (hC.kept k1)
 have HQ:=Kz hQ
 have HT:=Kz ht
 have HEn:=Kz hen
 have HGd:=Kz hgd
 have HAsk:=Kz hasks
 have HClo:=Kz hclo
 have HClo2:Hid (Q_ Kj t.r.name=some ⟨t.cost,t.steps⟩):=by rw [hclo.1];exact hclo.2.1
 clear hC hS hfn hQ ht hen hmem hgd hasks hclo hr1
 go_enter Tryz.func102,Tryz.ntmps102
 go_upto_region 2 with fail
 rw [<-hW1]
 clear hW1 hlk b3 zk
 cases hov:t.r.over
 ·rw [hov] at l2
  have HOv:=Kz hov
  clear hov
  go_wp2_with fail
  refine (anyMissing_any HC1.out HS.out (by omega) hwr hN qa qc asks (by omega) (fun x hx=> by have:=hasz x hx;omega) HQ.out).mono ?_
  rintro e w2 ⟨⟨r2,rfl,hr2⟩,k2⟩
  have K2:=k1.trans k2
  have L1:= (k2.cell lz).trans l1
  have lz2:=Nat.lt_of_lt_of_le lz k2.size
  have HR2:=Kz hr2
  clear l1 l2 hr2 lz
  cases r2
  ·have hcan:CanGo (Q_ Kj) (Qj sl) t.r∧∃xs,Yq (Q_ Kj) (Qj sl) asks=some xs:=can_of HGd.out HOv.out HAsk.out (fun h=> by have:=HR2.out.2 h;cases this)
   obtain ⟨hcan,xs,hxs⟩:=hcan
   have HCan:=Kz hcan
   obtain ⟨hxl,hxa⟩:=answers_at hxs
   have HXs:=Kz hxs
   have HXa:=Kz hxa
   have HC2:=Kz (HC.out.kept K2)
   clear hcan hxs hxa
   go_wp2
   go_loopg [6,32] asks.length (fun gg x6 x32 wr=> ∃(k:Nat) (av:Option Addr) (cv:Nat),x6= .slice av k cv∧x32= .int .i64 (k:Int)∧k+gg=asks.length∧K_ w2 wr∧Hid (wr.ownsRow w2.heap.size 75 2 (.slice av k cv) k (dAnsCells (xs.take k))))
   case atStart=> exact ⟨0,none,0,rfl,rfl,by omega,K_.refl _,World.ownsRow_nil _ _ _ _⟩
   case round=>
    obtain ⟨k,av,cv,rfl,rfl,hkg,Kr,HO⟩:=hrel
    by_cases hlt: (k:Int) < (asks.length:Int)
    ·have hkl:k < asks.length:=by omega
     obtain ⟨m,hm⟩: ∃m,m=asks.getD k ByteArray.empty:= ⟨_,rfl⟩
     obtain ⟨x,hx⟩: ∃x,x=xs.getD k Xq.zero:= ⟨_,rfl⟩
     have hans:=HXa.out k hkl
     rw [<-hm,<-hx] at hans
     obtain ⟨b,o,rfl,hb0,hc0⟩:=HQ.out k hkl
     rw [<-hm] at hc0
     have KWr:=HC2.out.kw.trans Kr
     have c0:wr.cell? ⟨b,o+k,none⟩=some (.string m):= (KWr.cell hb0).trans hc0
     have hmz:m.size<=20:=by rw [hm];simp only [List.getD,List.getElem?_eq_getElem hkl,Option.getD_some];exact hasz _ (List.getElem_mem hkl)
     have HTk:Hid (xs.take (k+1)=xs.take k++ [x]):=by
      show _=_
      rw [List.take_succ_eq_append_getElem (by omega),hx]
      simp [List.getD,(by omega:k < xs.length)]
     have HAns:=Kz hans
     clear hm hx hans hc0
     go_wp2_with fail
     refine (cleanAnswer_any (HC2.out.kept Kr) HS.out (by omega) hwr hN m (by omega)).mono ?_
     rintro e w4 ⟨⟨fa,tx,ok,rfl,ha4,_⟩,k4⟩
     rw [HAns.out] at ha4
     cases ok
     ·simp at ha4
     simp only [if_true,Option.some.injEq] at ha4
     have K4:=Kr.trans k4
     have HO4:=Kz (ownsRow_kept' HO.out k4)
     have HX:Hid (x= ⟨fa,tx⟩):=ha4
     clear ha4 c0
     obtain ⟨W5,hW5⟩: ∃W5,W5= (w4.alloc (.cells #[.bool fa,.string tx] 75)).alloc (.cells #[.bool fa,.string tx] 75):= ⟨_,rfl⟩
     have K5:K_ w4 W5:=by rw [hW5];exact ((K_.refl _).alloc _).alloc _
     have HOw:=Kz (ownsRow_kept' HO4.out K5)
     have KK:=Kz (K4.trans K5)
     have hbz5:w2.heap.size<=W5.heap.size:=KK.out.size
     have HNw:Hid (∀j u,([.bool fa,.string tx]:List Value)[j]? =some u->W5.cell? ((⟨w4.heap.size+1,0,none⟩:Addr).add j)=some u):=fun j u hu=> by
      rw [Addr.add_mid,hW5]
      have:=Xz (w4.alloc (.cells #[.bool fa,.string tx] 75)) #[.bool fa,.string tx] 75 j u hu
      rw [World.size_alloc] at this
      exact this
     have HOne:Hid (∀u∈([.bool fa,.string tx]:List Value),u.oneCell'=true):=fun u hu=> by simp only [List.mem_cons,List.not_mem_nil,or_false] at hu;rcases hu with rfl | rfl <;> rfl
     have hk5:k<=5:=by omega
     have HW5:=Kz hW5
     clear hW5
     go_wp2_with (at_builtin;rw [<-HW5.out];refine wpList_append_own _ rfl (.tmp 42) (.tmp 44) 194 rfl w2.heap.size 75 ia _ 2 24 Tryz.underlying194 ha0 ha1 ha2 ha3 rfl (by decide) (.slice av k cv) k (dAnsCells (xs.take k)) rfl HOw.out ⟨w4.heap.size+1,0,none⟩ 1 1 [.bool fa,.string tx] rfl rfl HNw.out HOne.out (by unfold maxLen;omega) (by omega) hbz5 ?_;intro v' w6 hown2 hgr _;have KP:=kept_of_grown KK.out (Nat.le_refl _) HOw.out hgr;have HP:=Kz hown2;obtain ⟨av2,cv2,rfl⟩:=own_slice hown2;clear hown2 hgr)
     go_roundg (gk - 1)
     case measure=> omega
     case rel=> exact ⟨k+1,av2,cv2,rfl,by go_num,by omega,KP,Kz (by rw [HTk.out,dAnsCells_snoc,HX.out];exact HP.out)⟩
    ·have hxk:xs.length=k:=by omega
     have HXk:=Kz hxk
     have hO:=HO.out
     rw [List.take_of_length_le (by omega),<-hxk] at hO
     have HO3:=Kz hO
     have HC3:=Kz (HC2.out.kept Kr)
     have hlk:=HC3.out.lookR (s:=n) (by unfold maxLen;omega)
     have e0:fnC cl n= .func (.func 141) #[] #[.pointer (some ⟨t.vb,0,none⟩),.pointer (some ⟨t.ab,0,none⟩),.pointer (some ⟨t.tb,0,none⟩),.pointer (some ⟨t.xb,0,none⟩)]:=by unfold fnC;rw [HT.out];rfl
     rw [e0] at hlk
     have b2:=HC3.out.c2
     have zk:=HC3.out.row.lt
     clear hO hxk e0 L1
     go_wp2_with fail
     have hcl:=clo_any hok hft HS.out.good wz wr hFi HC3.out.kw ((HC3.out.clo n t HT.out).2.2.2) HClo2.out HClo.out.2.2.1 HGd.out HCan.out (HS.out.opn n t.r HEn.out HOv.out) w2.heap.size av cv xs HO3.out (fun hv=> by rw [<-asksC_eq HClo2.out HOv.out hv,<-HAsk.out];exact HXs.out)
     rw [HXk.out] at hcl
     refine hcl.mono ?_
     rintro e w6 ⟨tv',ra,rc,rfl,hrQ,hrC,hrB,hrO⟩
     obtain ⟨r',hr'⟩: ∃r',r'= (Y_ (Q_ Kj) (Qj sl) t.r).1:= ⟨_,rfl⟩
     obtain ⟨rasks,hras⟩: ∃rasks,rasks= (Y_ (Q_ Kj) (Qj sl) t.r).2:= ⟨_,rfl⟩
     obtain ⟨du,hdu⟩: ∃du,du=r'.Zj - t.r.Zj:= ⟨_,rfl⟩
     rw [<-hr'] at hrC⊢
     rw [<-hras] at hrQ⊢
     rw [<-hdu]
     dsimp only [turnV]
     have hnv:=next_visits HGd.out HCan.out
     rw [<-hr',<-hdu] at hnv
     have HCS:=Kz (HS.out.done hok HT.out HClo.out.2.1 HCan.out hr' (tv':=tv') (qa:=ra) (qc:=rc) (by rw [<-hras];exact hrQ))
     rw [<-hras,<-hdu] at HCS
     have hnm:r'.name=t.r.name:=by rw [hr',nextOf_name]
     have HC6:=Kz (HC3.out.called HT.out hnm hrC hrB hrO)
     have ST6:Hid (CStep cb mr mt cl (fun m=> if m=n then some { t with r:=r',tv:=tv' } else cl m) w w6):=by
      refine ⟨(But.of_kept (K2.trans Kr)).trans (hrB.mono (fun b _ hb=> .inr (.inr (.inr ⟨n,t,HT.out,hb⟩)))),fun b hb=> ?_⟩
      rcases hb with hb | hb | hb | ⟨m,v,hv,hx⟩
      ·exact .inl (.inl hb)
      ·exact .inl (.inr (.inl hb))
      ·exact .inl (.inr (.inr (.inl hb)))
      ·simp only at hv
       split at hv
       ·cases hv
        rcases mem_own.1 hx with q | q | q | q
        ·exact .inl (.inr (.inr (.inr ⟨n,t,HT.out,mem_own.2 (.inl q)⟩)))
        ·exact .inl (.inr (.inr (.inr ⟨n,t,HT.out,mem_own.2 (.inr (.inl q))⟩)))
        ·exact .inl (.inr (.inr (.inr ⟨n,t,HT.out,mem_own.2 (.inr (.inr (.inl q)))⟩)))
        ·rcases hrO b q with q | q
         ·exact .inl (.inr (.inr (.inr ⟨n,t,HT.out,mem_own.2 (.inr (.inr (.inr q)))⟩)))
         ·exact .inr (Nat.le_trans (K2.trans Kr).size q)
       ·exact .inl (.inr (.inr (.inr ⟨m,v,hv,hx⟩)))
     have HRQ:=Kz hrQ
     have HRr:=Kz hr'
     have HRa:=Kz hras
     have HDu:=Kz hdu
     obtain ⟨W7,hW7⟩: ∃W7,W7=w6.alloc (.cells #[.int .i64 du,.slice ra rasks.length rc,.bool r'.over,.bool r'.fail,.string r'.text] 209):= ⟨_,rfl⟩
     have k7:K_ w6 W7:=by rw [hW7];exact (K_.refl _).alloc _
     have hr7:=Xz w6 #[.int .i64 du,.slice ra rasks.length rc,.bool r'.over,.bool r'.fail,.string r'.text] 209
     rw [<-hW7] at hr7
     have nz7:w6.heap.size < W7.heap.size:=by rw [hW7];simp
     have HC7:=Kz (HC6.out.kept k7)
     have HNo:Hid (¬CMS cb mr mt (fun m=> if m=n then some { t with r:=r',tv:=tv' } else cl m) w6.heap.size):=HC6.out.far (Nat.le_refl _)
     have Zz:Hid (∀v,K_ W7 v->v.cell? ⟨cb,3,none⟩=some (.map (some mt))∧v.cell? ⟨w6.heap.size,0,none⟩=some (.int .i64 du)∧v.cell? ⟨w6.heap.size,1,none⟩=some (.slice ra rasks.length rc)∧v.cell? ⟨w6.heap.size,2,none⟩=some (.bool r'.over)∧v.cell? ⟨w6.heap.size,3,none⟩=some (.bool r'.fail)∧v.cell? ⟨w6.heap.size,4,none⟩=some (.string r'.text)):=fun v K=> ⟨((HC7.out.kept K).c3),(K.cell nz7).trans (hr7 0 _ rfl),(K.cell nz7).trans (hr7 1 _ rfl),(K.cell nz7).trans (hr7 2 _ rfl),(K.cell nz7).trans (hr7 3 _ rfl),(K.cell nz7).trans (hr7 4 _ rfl)⟩
     have HNZ:=Kz nz7
     have HRt:Hid (RowT W7 w6.heap.size 209 5):=by rw [hW7];exact RowT.made w6 _ _
     clear hcl hrQ hrC hrB hrO hr' hras hdu hnm hr7 hlk b2 zk nz7
     go_upto_region 12 with fail
     rw [<-hW7]
     clear hW7
     obtain ⟨nb,hnb⟩: ∃nb,nb=w6.heap.size:= ⟨_,rfl⟩
     rw [<-hnb] at Zz HNZ HNo HRt⊢
     clear hnb
     refine Qx.region (by kernel_rfl) (fun v=> v.cell? ⟨cb,3,none⟩=some (.map (some mt))∧v.cell? ⟨nb,0,none⟩=some (.int .i64 du)∧v.cell? ⟨nb,1,none⟩=some (.slice ra rasks.length rc)∧v.cell? ⟨nb,2,none⟩=some (.bool r'.over)∧v.cell? ⟨nb,3,none⟩=some (.bool r'.fail)∧v.cell? ⟨nb,4,none⟩=some (.string r'.text)) 6 (Zz.out _ ((K_.refl W7).drew)) (fun Z_=> ?_)
     have KD:K_ W7 W7.drew:= (K_.refl W7).drew
     generalize hwd:W7.drew=wd at Z_ KD⊢
     clear hwd
     refine Qx.tk 0 Z_ ?_
     refine Qx.tk 1 Z_ ?_
     refine Qx.tk 2 Z_ ?_
     refine Qx.tk 3 Z_ ?_
     refine Qx.tk 4 Z_ ?_
     refine Qx.tk 5 Z_ ?_
     obtain ⟨w8,hrun,hC8,hB8⟩:= (HC7.out.kept KD).putT (s:=n) (by unfold maxLen;omega) (.agg #[.int .i64 du,.slice ra rasks.length rc,.bool r'.over,.bool r'.fail,.string r'.text]) (by omega)
     have HC8:=Kz hC8
     have HB8:=Kz hB8
     clear hC8 hB8
     refine Qx.nx 6 (fun K hK=> ?_)
     go_simp
     refine hK.out _ _ (fun h=> absurd rfl h) ?_
     clear hK K Z_
     try simp only [Act.put,upA,upB,upC]
     refine Qx.dn ?_
     have nbz8:nb < w8.heap.size:=Nat.lt_of_lt_of_le HNZ.out (Nat.le_trans KD.size HB8.out.size)
     have hnbm: ¬nb=mt:=fun e=> HNo.out (.inr (.inr (.inl e)))
     obtain ⟨_,d0,d1,_,_,_⟩:=Zz.out _ KD
     have e0:w8.cell? ⟨nb,0,none⟩=some (.int .i64 du):= (HB8.out.cell (Nat.lt_of_lt_of_le HNZ.out KD.size) hnbm).trans d0
     have E1:Hid (w8.cell? ⟨nb,1,none⟩=some (.slice ra rasks.length rc)):= (HB8.out.cell (Nat.lt_of_lt_of_le HNZ.out KD.size) hnbm).trans d1
     have ST8:Hid (CStep cb mr mt cl (fun m=> if m=n then some { t with r:=r',tv:=tv' } else cl m) w w8):=ST6.out.trans ((CStep.kept (k7.trans KD)).trans ⟨HB8.out.mono (fun b _ e=> .inr (.inr (.inl e))),fun _ h=> .inl h⟩)
     have hsum:=sums_now HS.out hok hwl
     have hcst:=costOf_le hok n
     rw [costOf_some HClo.out.2.1] at hcst
     dsimp only at hcst
     clear d0 d1 hrun
     go_wp2_with fail
     refine (cleanCount_any HC8.out (by omega) hwr hN n _ HClo.out.2.1 du hnv.2.1 hnv.2.2 hcst.1 hcst.2 ⟨hsum.1,by omega⟩ ⟨hsum.2.2.1,by omega⟩).mono ?_
     rintro e w9 ⟨rfl,hC9,hst9⟩
     have ST9:=Kz (ST8.out.trans hst9)
     have HC9:=Kz hC9
     have e1:w9.cell? ⟨nb,1,none⟩=some (.slice ra rasks.length rc):= (hst9.but.cell nbz8 HNo.out).trans E1.out
     have nbz9:nb < w9.heap.size:=Nat.lt_of_lt_of_le nbz8 hst9.but.size
     clear hC9 hst9 e0
     go_wp2_with fail
     have hral:rasks.length<=5∧∀x∈rasks,x.size<=20:=by
      rw [HRa.out,nextC_asks hok HS.out.good HGd.out HCan.out]
      exact asksC_ok hok (nextOf_good hok HS.out.good.env HGd.out HCan.out)
     obtain ⟨hral,hrasz⟩:=hral
     clear e1
     obtain ⟨f',hf'⟩: ∃f':ByteArray->Value,f'=fun m=> if m=n then .agg #[.int .i64 du,.slice ra rasks.length rc,.bool r'.over,.bool r'.fail,.string r'.text] else f m:= ⟨_,rfl⟩
     have HC9':Hid (CM Kj wz w9 cb a cap mr mt (mx+1) (fun m=> if m=n then some { t with r:=r',tv:=tv' } else cl m) f' (fun m=> m=n∨kf m) (un+du) (co+du * t.cost)):=by rw [hf'];exact HC9.out
     have HCS':Hid (CS Kj wz (fun m=> if m=n then some { t with r:=r',tv:=tv' } else cl m) f' (fun m=> m=n∨kf m) (un+du) (co+du * t.cost) (insX sl r')):=by rw [hf'];exact HCS.out
     clear hf'
     go_loopw [69] (fun x69 wv=> ∃(j:Nat) (clj:ByteArray->Option CloM) (slj:List Qz),j<=rasks.length∧x69= .int .i64 (j:Int)∧Hid (CM Kj wz wv cb a cap mr mt (mx+1+j) clj f' (fun m=> m=n∨kf m) (un+du) (co+du * t.cost))∧Hid (CS Kj wz clj f' (fun m=> m=n∨kf m) (un+du) (co+du * t.cost) slj)∧Hid (CStep cb mr mt cl clj w wv)∧Hid (WantsX (Q_ Kj) (Qj (insX sl r')) (rasks.take j) (Qj slj))) (fun x69 _=> rasks.length - (intOf x69).toNat)
     case atStart=> exact ⟨0,_,_,Nat.zero_le _,rfl,HC9',HCS',ST9,Kz (WantsX.start _ _)⟩
     case round=>
      obtain ⟨j,clj,slj,hj,rfl,HCj,HSj,HTj,HWj⟩:=hrel
      by_cases hlt: (j:Int) < (rasks.length:Int)
      ·have hjl:j < rasks.length:=by omega
       obtain ⟨m,hm⟩: ∃m,m=rasks.getD j ByteArray.empty:= ⟨_,rfl⟩
       obtain ⟨b,o,rfl,hb0,hc0⟩:=HRQ.out j hjl
       rw [<-hm] at hc0
       have hcg:rasks[j]=m:=by rw [hm];simp [List.getD,hjl]
       have HTk:Hid (rasks.take (j+1)=rasks.take j++ [m]):=by show _=_;rw [List.take_succ_eq_append_getElem hjl,hcg]
       have c0:_=some (Value.string m):= (HCj.out.kw.cell hb0).trans hc0
       have hmz:m.size<=20:=by rw [<-hcg];exact hrasz _ (List.getElem_mem hjl)
       clear hc0 hm hcg
       go_wp2_with fail
       refine (cleanWant_any HCj.out (by omega) hwr hN m (by omega) (by omega)).mono ?_
       rintro e wn ⟨rfl,cln,hCn,hTn,hor⟩
       have HCn:=Kz hCn
       have HTn:=Kz (HTj.out.trans hTn)
       have HSn:Hid (∃sln,CS Kj wz cln f' (fun m=> m=n∨kf m) (un+du) (co+du * t.cost) sln∧WantsX (Q_ Kj) (Qj (insX sl r')) (rasks.take (j+1)) (Qj sln)):=by
        show∃sln,_
        rw [HTk.out]
        rcases hor with ⟨rfl,hw⟩ | ⟨hA,hno,tn,htn,rfl⟩
        ·exact ⟨slj,HSj.out,HWj.out.no (hw.imp id (fun h=> by rw [HSj.out.env m];simpa using h))⟩
        ·exact ⟨_,HSj.out.want hok hA hno htn,HWj.out.new hA (by rw [HSj.out.env m,hno];rfl) (fun s=> insX_env (r:=Qz.fresh m) HSj.out.good.asc s)⟩
       clear hCn hTn hor c0
       go_wp2_with fail
       go_roundw
       case rel=>
        obtain ⟨sln,h1,h2⟩:=HSn.out
        exact ⟨j+1,cln,sln,by omega,by go_num,HCn,h1,HTn,h2⟩
       case measure=> simp [intOf];omega
      ·have hje:j=rasks.length:=by omega
       have hjl:j<=5:=by omega
       go_wp2_with fail
       go_ret
       refine .inr ⟨HCan.out,rfl,clj,_,_,_,_,slj,HCj.out.more (by omega),HSj.out,HTj.out, ?_⟩
       have hW:=HWj.out
       rw [hje,List.take_length] at hW
       exact doX_wants HEn.out HS.out.good.asc HRr.out (by rw [<-HRa.out];exact hW)
  ·go_wp2_with fail
   go_ret
   exact .inl ⟨fun hc=> not_can HGd.out (by rw [<-HAsk.out];exact HR2.out.1 (by trivial)) hc,rfl,K2⟩
 ·rw [hov] at l2
  have HOv:=Kz hov
  clear hov
  go_wp2_with fail
  go_ret
  exact .inl ⟨fun hc=> (by have:=hc.1;rw [HOv.out] at this;cases this),rfl,k1⟩
end
def NoStr (w:World) (g:Nat):Prop:= ∀o s,w.cell? ⟨g,o,none⟩≠some (.string s)
theorem NoStr.kept {w w':World} {g:Nat} (h:NoStr w g) (hg:g < w.heap.size) (k:K_ w w'):NoStr w' g:=fun o s e=> h o s ((k.cell hg).symm.trans e)
theorem NoStr.far {w:World} {g:Nat} (hg:w.heap.size<=g):NoStr w g:=fun o s e=> by
 have h: (⟨g,o,none⟩:Addr).block < w.heap.size:=by
  unfold World.cell? at e
  simp only at e
  rcases h:w.heap[g]? with _ | ob
  ·rw [h] at e;simp at e
  ·exact (Array.getElem?_eq_some_iff.1 h).1
 exact absurd h (by show¬g < _;omega)
theorem strs_set_no {w:World} {g o:Nat} {v:Value} {a:Option Addr} {l:List ByteArray} (h:Strs w a l) (hg:NoStr w g):Strs (w.setCell ⟨g,o,none⟩ v) a l:=by
 intro i hi
 obtain ⟨b,p,rfl,h1,hc⟩:=h i hi
 refine ⟨b,p,rfl,by rw [size_setCell];exact h1, ?_⟩
 rw [World.cell?_setCell_other _ _ _ _ (fun e=> ?_)]
 ·exact hc
 ·have e1:g=b:=congrArg Addr.block e
  subst e1
  exact hg _ _ hc
theorem ress_set_no {w:World} {g o:Nat} {v:Value} {a:Option Addr} {l:List ResD} (h:Ress w a l) (hg:NoStr w g):Ress (w.setCell ⟨g,o,none⟩ v) a l:=by
 intro i hi
 obtain ⟨b,p,rfl,h1,hc⟩:=h i hi
 refine ⟨b,p,rfl,by rw [size_setCell];exact h1,fun j u hu=> ?_⟩
 rw [World.cell?_setCell_other _ _ _ _ (fun e=> ?_)]
 ·exact hc j u hu
 ·have e1:g=b:=congrArg Addr.block e
  subst e1
  exact hg _ _ (hc 0 _ rfl)
theorem strs_sets_no {w:World} {g:Nat} {vs:List Value} {a:Option Addr} {l:List ByteArray} (h:Strs w a l) (hg:NoStr w g):Strs (w.setCells g 0 vs) a l:=by
 intro i hi
 obtain ⟨b,p,rfl,h1,hc⟩:=h i hi
 refine ⟨b,p,rfl,by rw [size_setCells];exact h1, ?_⟩
 rw [World.cell?_setCells_out g vs 0 w _ (fun e _=> ?_)]
 ·exact hc
 ·have e1:b=g:=e
  subst e1
  exact (hg _ _ hc).elim
theorem ress_sets_no {w:World} {g:Nat} {vs:List Value} {a:Option Addr} {l:List ResD} (h:Ress w a l) (hg:NoStr w g):Ress (w.setCells g 0 vs) a l:=by
 intro i hi
 obtain ⟨b,p,rfl,h1,hc⟩:=h i hi
 refine ⟨b,p,rfl,by rw [size_setCells];exact h1,fun j u hu=> ?_⟩
 rw [World.cell?_setCells_out g vs 0 w _ (fun e _=> ?_)]
 ·exact hc j u hu
 ·have e1:b=g:=e
  subst e1
  exact (hg _ _ (hc 0 _ rfl)).elim
def OutD.cells (o:OutD) (a f:Option Addr) (c e0:Nat):List Value:=[.int .i64 o.code,.slice a o.res.length c,.slice f o.chain.length e0,.int .i64 o.units,.int .i64 o.cost]
theorem noStr_new {w:World} {k m n:Int} {a f:Option Addr} {c e0 rl cl:Nat} {t:TypeId}:NoStr (w.alloc (.cells #[.int .i64 k,.slice a rl c,.slice f cl e0,.int .i64 m,.int .i64 n] t)) w.heap.size:=fun o s e=> by
 have hr:=Xz w #[.int .i64 k,.slice a rl c,.slice f cl e0,.int .i64 m,.int .i64 n] t
 match o,e with
 | 0,e=> have:=hr 0 _ rfl;rw [e] at this;cases this
 | 1,e=> have:=hr 1 _ rfl;rw [e] at this;cases this
 | 2,e=> have:=hr 2 _ rfl;rw [e] at this;cases this
 | 3,e=> have:=hr 3 _ rfl;rw [e] at this;cases this
 | 4,e=> have:=hr 4 _ rfl;rw [e] at this;cases this
 | o+5,e=>
  have h:=World.alloc_heap_new w (.cells #[.int .i64 k,.slice a rl c,.slice f cl e0,.int .i64 m,.int .i64 n] t)
  unfold World.cell? at e
  simp only [h] at e
  simp at e
theorem noStr_row {w:World} {b:Nat} {t:TypeId} (hr:RowT w b t 5) (h: ∀o,o < 5->∀s,w.cell? ⟨b,o,none⟩≠some (.string s)):NoStr w b:=fun o s e=> by
 by_cases ho:o < 5
 ·exact h o ho s e
 ·obtain ⟨cur,hc,hl⟩:=hr
  unfold World.cell? at e
  simp only [hc] at e
  simp only [Option.isSome_none,Bool.false_eq_true,if_false] at e
  have h9:= (Array.getElem?_eq_some_iff.1 e).1
  omega
