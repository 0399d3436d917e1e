import Derived.Test.YtieeffpandfpbaaGreatDoorKCDist
import Derived.Test.YtieeffpandfpbaaGreatDoorKOConcat
import Derived.Deep.RegionHeld
import Derived.Deep.AppendLies
import Derived.Laws.OwnMore
set_option maxRecDepth 100000
set_option maxHeartbeats 25600000
namespace Go.Proofs.YtieeffpandfpbaaGreatDoor
open Go.RowKit
def RowsB (w:World) (b:Nat) (LL:List (List Value)) (P:Nat->Option Addr) (C:Nat->Nat):Prop:=
 b < w.heap.size∧∀i,i < LL.length->w.cell? ⟨b,i,none⟩=some (.slice (P i) (LL.getD i []).length (C i))∧((P i=none∧C i=0∧LL.getD i []=[])∨∃p1 p2,P i=some ⟨p1,p2,none⟩∧∀j u,(LL.getD i [])[j]? =some u->w.cell? ⟨p1,p2+j,none⟩=some u)
theorem RowsB.kept {w w':World} {b:Nat} {LL:List (List Value)} {P:Nat->Option Addr} {C:Nat->Nat} (h:RowsB w b LL P C) (k:K_ w w'):RowsB w' b LL P C:=
 ⟨Nat.lt_of_lt_of_le h.1 k.size,fun i hi=> ⟨by rw [k.cell h.1];exact (h.2 i hi).1,by
  rcases (h.2 i hi).2 with g | ⟨p1,p2,e,g⟩
  ·exact .inl g
  ·exact .inr ⟨p1,p2,e,fun j u hu=> by rw [k.cell (World.block_lt_of_cell? _ _ (g j u hu))];exact g j u hu⟩⟩⟩
theorem PackedN.one {w:World} {xs:List Value} {l:List Qq} (h:PackedN w xs l): ∀u∈xs,u.oneCell'=true:=by
 intro u hu
 obtain ⟨i,hi,rfl⟩:=List.getElem_of_mem hu
 obtain ⟨tb,_,_,e,_⟩:=h.2 i (by rw [<-h.1];exact hi)
 rw [List.getElem?_eq_getElem hi] at e
 rw [Option.some.inj e]
 rfl
def Zx.fresh (nb:Nat) (n:ByteArray) (cost:Int) (steps:List Xj) (sa:Option Addr) (sc:Nat):Zx:= ⟨nb,Qz.fresh n,cost,steps,sa,sc,0,.slice none 0 0,.slice none 0 0,[],⟨#[]⟩⟩
def WantR (Kj:List Qq) (ts:List Zx) (n:ByteArray) (ts':List Zx):Prop:=
 (ts'=ts∧(Q_ Kj n=none∨∃t∈ts,t.r.name=n))∨(∃p new,ts'=ts.take p++new :: ts.drop p∧new.r=Qz.fresh n∧(new.op=0∧new.bq= (⟨#[]⟩,[]))∧(∀t∈ts,t.r.name≠n)∧(Q_ Kj n).isSome=true)
section
variable {G : Ghost} {Kj : List Qq} {wz w w' : World} {bb : Nat} {a : Option Addr} {cap : Nat} {rd : Option Addr} {rn rc : Nat} {mb mx : Nat} {ts : List Zx} {d : Option Addr} {dc : Nat} {f : ByteArray -> Value} {ws : ByteArray -> List Nat}
end
section
variable {P : Program} {w : World}
theorem run_append_zero (base:Nat) (t ty e:TypeId) (i:TypeInfo) (size:Nat) (ht:P.underlying t=some (.slice e)) (hi:P.info? e=some i)
  (v:Value) (n:Nat) (xs:List Value) (hown:w.ownsRow base e size v n xs) (x:Option Addr) (c:Nat):
  (Builtin.append_ #[t,t] ty #[v,.slice x 0 c]).run P w= .ok v w:=by
 rcases hown.2 with ⟨rfl,rfl⟩ | ⟨g,cap,cur,rfl,_,_,hnc,_⟩
 ·cases x <;> simp [Builtin.append_,run_underlying ht,sizeOf,typeInfo,hi,Builtin.lenOf,Builtin.firstCells,loadCells,loadCellsFrom]
 ·cases x <;> simp [Builtin.append_,run_underlying ht,sizeOf,typeInfo,hi,Builtin.lenOf,Builtin.firstCells,hnc,storeCells,loadCells,loadCellsFrom]
theorem wp_append_strs {o:Oper} {a:Act} {K:Act->World->Prop} {Q:Exit->Act->World->Prop} (s x:Operand) (t:TypeId)
  (ho:o.op= .call { callee:= .builtin .append,args:= #[s,x],argTypes:= #[t,t] })
  (base:Nat) (e:TypeId) (i:TypeInfo) (z:Value) (bytes:Nat) (ht:P.underlying t=some (.slice e)) (hi:P.info? e=some i) (hz:i.zero=some z)
  (hsize:i.size=1) (hby:i.bytes=bytes) (hzs:z.cells.size=1)
  (v:Value) (n:Nat) (xs:List Value) (hs:a.eval s=v) (hown:w.ownsRow base e 1 v n xs)
  (ad:Option Addr) (c:Nat) (l:List ByteArray) (hx:a.eval x= .slice ad l.length c) (hl:Strs w ad l)
  (h63:n+l.length<=maxLen) (hbytes: (n+l.length) * bytes<=140737488355328) (hbase:base<=w.heap.size)
  (h: ∀v' w',w'.ownsRow base e 1 v' (n+l.length) (xs++l.map Value.string)->w.grownBy w' v.ownBlock->(∀g,v'.ownBlock=some g->v.ownBlock=some g∨w.heap.size<=g)->K (a.put o.dst v') w'):o.wp P a w K Q:=by
 by_cases h0:l.length=0
 ·have hl0:=List.length_eq_zero_iff.1 h0
  rw [h0] at hx
  refine Go.Lib.wp_append_run w s x t t ho v _ hs hx v w (run_append_zero base t o.type e i 1 ht hi v n xs hown ad c) (h v w ?_ ⟨rfl,rfl,rfl,Nat.le_refl _,fun _ _ _=> rfl⟩ (fun g e=> .inl e))
  rw [hl0]
  simpa using hown
 ·obtain ⟨b,q,e1,hb,_⟩:=hl 0 (by omega)
  refine wp_append_lies w s x t ho base e i z 1 bytes ht hi hz hsize hby hzs (by decide) v n xs hs hown ⟨b,q,none⟩ l.length c (l.map Value.string) (by rw [hx,e1]) (by simp) (fun j u hu=> ?_) (fun u hu=> by obtain ⟨x,_,rfl⟩:=List.mem_map.1 hu;rfl) (by omega) h63 hbytes hbase w.heap.size rfl (fun g cap w' h1 h2 h3 h4=> h _ w' h1 h2 (fun g' e=> ?_))
  ·have hj:j < l.length:=by have:= (List.getElem?_eq_some_iff.1 hu).1;simpa using this
   obtain ⟨b',q',e2,_,hc⟩:=hl j hj
   rw [e1] at e2
   simp only [Option.some.injEq,Addr.mk.injEq,and_true] at e2
   obtain ⟨rfl,rfl⟩:=e2
   rw [Addr.add_mid,hc]
   simp [hj] at hu
   simp [List.getD,hj,hu]
  ·simp only [Value.ownBlock,Option.some.injEq] at e
   subst e
   rcases h3 with h3 | h3
   ·exact .inl h3
   ·exact .inr (Nat.le_of_eq h3.symm)
theorem wpList_append_strs {ops:Array Oper} {rest:List Oper} {o:Oper} {a:Act} {Q:Exit->Act->World->Prop} (hgd:o.guard=none) (s x:Operand) (t:TypeId)
  (ho:o.op= .call { callee:= .builtin .append,args:= #[s,x],argTypes:= #[t,t] })
  (base:Nat) (e:TypeId) (i:TypeInfo) (z:Value) (bytes:Nat) (ht:P.underlying t=some (.slice e)) (hi:P.info? e=some i) (hz:i.zero=some z)
  (hsize:i.size=1) (hby:i.bytes=bytes) (hzs:z.cells.size=1)
  (v:Value) (n:Nat) (xs:List Value) (hs:a.eval s=v) (hown:w.ownsRow base e 1 v n xs)
  (ad:Option Addr) (c:Nat) (l:List ByteArray) (hx:a.eval x= .slice ad l.length c) (hl:Strs w ad l)
  (h63:n+l.length<=maxLen) (hbytes: (n+l.length) * bytes<=140737488355328) (hbase:base<=w.heap.size)
  (h: ∀v' w',w'.ownsRow base e 1 v' (n+l.length) (xs++l.map Value.string)->w.grownBy w' v.ownBlock->(∀g,v'.ownBlock=some g->v.ownBlock=some g∨w.heap.size<=g)->wpList P ops Q rest (a.put o.dst v') w'):wpList P ops Q (o :: rest) a w:=
 wpList_plain hgd fun _ hK=> wp_append_strs s x t ho base e i z bytes ht hi hz hsize hby hzs v n xs hs hown ad c l hx hl h63 hbytes hbase fun v' w' h2 h3 h4=> hK _ _ (h v' w' h2 h3 h4)
end
section
variable {G : Ghost} {Kj : List Qq} {wz w w' : World} {bb : Nat} {a : Option Addr} {cap : Nat} {rd : Option Addr} {rn rc : Nat} {mb mx : Nat} {ts : List Zx} {d : Option Addr} {dc : Nat} {f : ByteArray -> Value} {ws : ByteArray -> List Nat}
theorem BM.asked (h:BM G Kj wz w bb a cap rd rn rc mb mx ts d dc f ws) {i:Nat} {t:Zx} (hi:ts[i]? =some t) {w1:World} {v':Value} {l:List Value} (ho:w1.ownsRow wz.heap.size 9 1 v' (t.qs.length+l.length) (t.qs++l)) (hg:w.grownBy w1 t.qv.ownBlock) (hv: ∀g,v'.ownBlock=some g->t.qv.ownBlock=some g∨w.heap.size<=g) (hl5:l.length<=5):
  BM G Kj wz (w1.setCell ⟨t.tb,10,none⟩ v') bb a cap rd rn rc mb (mx+1) (ts.set i { t with qv:=v',qs:=t.qs++l }) d dc f ws:=by
 obtain ⟨hl,rfl⟩:=List.getElem?_eq_some_iff.1 hi
 have hT:=h.task _ (List.getElem_mem hl)
 have hn:=h.sep2 _ (List.getElem_mem hl)
 have k1:But (fun b=> b=ts[i].tb∨b∈ts[i].own) w w1:=But.of_grown hg (fun b e=> .inr (List.mem_append.2 (.inr (Option.mem_toList.2 e))))
 have k:But (fun b=> b=ts[i].tb∨b∈ts[i].own) w (w1.setCell ⟨ts[i].tb,10,none⟩ v'):=But.set k1 (p:= ⟨ts[i].tb,10,none⟩) (.inl rfl) v'
 have hq: ∀b,ts[i].qv.ownBlock=some b->ts[i].tb≠b:=fun b e=> type_ne hT.row.type (Yz hT.ask e) (by decide)
 have hb1:w1.heap[ts[i].tb]? =w.heap[ts[i].tb]? :=hg.block _ hT.row.lt (fun e=> hq _ e.symm rfl)
 have hr1:RowT w1 ts[i].tb 135 12:=hT.row.block hb1
 have hc1:w1.rangeAt ts[i].tb 0 ts[i].cells:=fun j u hu=> (World.cell?_of_block (w:=w) hb1).trans (hT.rng j u hu)
 have ne1: ∀{b:Nat},TypeAt w1 b 9->b≠ts[i].tb:=fun hu=> type_ne hu hr1.type (by decide)
 have kt:But (fun b=> b=ts[i].tb) w1 (w1.setCell ⟨ts[i].tb,10,none⟩ v'):=But.set (S:=fun b=> b=ts[i].tb) (But.of_kept (K_.refl w1)) (p:= ⟨ts[i].tb,10,none⟩) rfl v'
 have txt1:w1.ownsRow wz.heap.size 9 1 ts[i].tv ts[i].r.texts.length (ts[i].r.texts.map Value.string):= (But.of_grown (S:=fun b=> ts[i].qv.ownBlock=some b) hg (fun b e=> e)).owns hT.txt (fun b e e2=> by
  have h1:b∈ts[i].tv.ownBlock.toList:=Option.mem_toList.2 e
  have h2:b∈ts[i].qv.ownBlock.toList:=Option.mem_toList.2 e2
  unfold Zx.own at hn
  exact (List.nodup_append.1 hn).2.2 b h1 b h2 rfl)
 refine (h.more (Nat.le_succ mx)).turn hl k (fun b hb=> hb) ⟨hr1.set v',range_set hc1 hr1.row (by omega) v',kt.owns txt1 (fun b e=> ne1 (Yz txt1 e)), ?_,hT.low⟩ rfl rfl rfl rfl rfl (fun x hx=> ?_) ?_ (by have:=h.qb _ (List.getElem_mem hl);show (ts[i].qs++l).length<=5 * (mx+1);rw [List.length_append];omega)
 ·have e: ({ ts[i] with qv:=v',qs:=ts[i].qs++l }:Zx).qs.length=ts[i].qs.length+l.length:=by simp
  rw [e]
  exact kt.owns ho (fun b e=> ne1 (Yz ho e))
 ·unfold Zx.own at hx⊢
  rcases List.mem_append.1 hx with hx | hx
  ·exact .inl (List.mem_append.2 (.inl hx))
  ·rcases hv x (Option.mem_toList.1 hx) with e | e
   ·exact .inl (List.mem_append.2 (.inr (Option.mem_toList.2 e)))
   ·exact .inr e
 ·unfold Zx.own at hn⊢
  rw [List.nodup_append] at hn⊢
  refine ⟨hn.1, ?_,fun x hx y hy=> ?_⟩
  ·show (v'.ownBlock.toList).Nodup
   cases v'.ownBlock <;> simp
  ·rcases hv y (Option.mem_toList.1 hy) with e | e
   ·exact hn.2.2 x hx y (Option.mem_toList.2 e)
   ·have:= (hT.txt.lt x (Option.mem_toList.1 hx)).2
    omega
end
section
variable {G : Ghost} {Kj : List Qq} {wz w w' : World} {bb : Nat} {a : Option Addr} {cap : Nat} {rd : Option Addr} {rn rc : Nat} {mb mx : Nat} {ts : List Zx} {d : Option Addr} {dc : Nat} {f : ByteArray -> Value} {ws : ByteArray -> List Nat}
theorem BM.wait (h:BM G Kj wz w bb a cap rd rn rc mb mx ts d dc f ws) {s:ByteArray} (hs:s.size<=maxLen) {tb:Nat} {w1:World} {v':Value} (ho:w1.ownsRow wz.heap.size 125 1 v' ((ws s).length+1) ((ws s).map ptrB++ [ptrB tb])) (hg:w.grownBy w1 (f s).ownBlock) (hv: ∀g,v'.ownBlock=some g->(f s).ownBlock=some g∨w.heap.size<=g) (hmx:mx<=1000000):
  ∃w2,(Instr.mapUpdate 129 (.map (some mb)) (.string s) v').run Tryz.prog w1= .ok () w2∧BM G Kj wz w2 bb a cap rd rn rc mb (mx+1) ts d dc (fun n=> if n=s then v' else f n) (fun n=> if n=s then ws s++ [tb] else ws n):=by
 obtain ⟨N,D,hNl,hM,hf⟩:=h.map
 have k1:But (fun b=> (f s).ownBlock=some b) w w1:=But.of_grown hg (fun b e=> e)
 have hM1:=map_but hM k1 (fun e=> map_ne hM (Yz (h.wrow s) e) rfl)
 obtain ⟨w2,hrun,hM2,hg2⟩:=hM1.update Tryz.keyed Tryz.underlying129 (by unfold maxLen;omega) (WideMaps.keyOf_string_mk Tryz.underlying9 hs) (d:= .held v') (ps:=[]) rfl
 refine ⟨w2,hrun, ?_⟩
 have kS:But (fun b=> (f s).ownBlock=some b∨b=mb) w w2:= (k1.mono (fun b _ e=> .inl e)).trans (But.of_grown hg2 (fun b e=> .inr (Option.some.inj e).symm))
 have k2:But (fun b=> b=mb) w1 w2:=But.of_grown hg2 (fun b e=> (Option.some.inj e).symm)
 have ne: ∀{b:Nat} {t:TypeId},TypeAt w b t->t≠125->¬((f s).ownBlock=some b∨b=mb):=fun hu hn e=> by
  rcases e with e | e
  ·exact type_ne hu (Yz (h.wrow s) e) hn rfl
  ·exact map_ne hM hu e
 have ne1: ∀{b:Nat} {t:TypeId},TypeAt w1 b t->¬b=mb:=fun hu e=> map_ne hM1 hu e
 have hb:=h.row.lt
 have nb:=ne h.row.type (by decide)
 have hmp:Maps.IsMap D:=by obtain ⟨es,clock,_,_,_,rfl⟩:=hM;exact ⟨_,rfl⟩
 have hfen:Fen G w2 bb mb ts (fun n=> if n=s then v' else f n):=by
  have h0:=h.oth.but kS (fun b e=> by
   rcases e with e | e
   ·exact h.oth.nf s b e
   ·rw [e];exact h.oth.nm)
  refine ⟨h0.size,h0.lt,h0.same,h0.nb,h0.nm,h0.nt,fun n x hx=> ?_,h0.has⟩
  by_cases e:n=s
  ·simp only [if_pos e] at hx
   rcases hv x hx with g | g
   ·exact h.oth.nf s x g
   ·exact h.oth.far g
  ·simp only [if_neg e] at hx
   exact h.oth.nf n x hx
 refine ⟨kS.kept h.kw (fun b e=> ?_),kS.row h.row nb,(kS.cell hb nb).trans h.c0,(kS.cell hb nb).trans h.c1,(kS.cell hb nb).trans h.c2,(kS.cell hb nb).trans h.c3,(kS.cell hb nb).trans h.c4,(kS.cell hb nb).trans h.c5,h.low,kS.owns h.items (fun b e e2=> ?_),fun t ht=> (h.task t ht).but kS (ne (h.task t ht).row.type (by decide)) (fun x hx=> ne ((h.task t ht).own_type hx).1 (by decide)),h.act,h.asc,h.tbs,h.sep,h.sep2,⟨N+1,_,by omega,hM2,fun n hn=> ?_⟩,h.mlow,fun n=> ?_,fun n n' hnn x hx hx'=> ?_,fun n x hx e=> ?_,fun t ht=> Nat.le_trans (h.qb t ht) (by omega),hfen⟩
 ·rcases e with e | e
  ·exact ((h.wrow s).lt b e).1
  ·rw [e];exact h.mlow
 ·rcases e2 with e2 | e2
  ·exact h.isep s b e2 e
  ·exact map_ne hM (Yz h.items e) e2
 ·by_cases e:n=s
  ·rw [if_pos e,e]
   exact Maps.atKey_put_same (k:=keyLit s) hmp (by show WideAt.IsKeyLit (.string _);exact trivial) _ _
  ·rw [if_neg e,<-hf n hn]
   exact Maps.atKey_put_other (keyLit_ne e) _ _
 ·by_cases e:n=s
  ·simp only [if_pos e]
   have e1: (ws s++ [tb]).length= (ws s).length+1:=by simp
   have e2: (ws s++ [tb]).map ptrB= (ws s).map ptrB++ [ptrB tb]:=by simp
   rw [e1,e2]
   exact k2.owns ho (fun b e=> ne1 (Yz ho e))
  ·simp only [if_neg e]
   refine kS.owns (h.wrow n) (fun b e1 e2=> ?_)
   rcases e2 with e2 | e2
   ·exact h.wsep n s e b e1 e2
   ·exact map_ne hM (Yz (h.wrow n) e1) e2
 ·by_cases e:n=s
  ·rw [if_pos e] at hx
   rw [if_neg (fun e'=> hnn (e.trans e'.symm))] at hx'
   rcases hv x hx with g | g
   ·exact h.wsep s n' (fun e'=> hnn (e.trans e')) x g hx'
   ·have:= ((h.wrow n').lt x hx').2;omega
  ·rw [if_neg e] at hx
   by_cases e':n'=s
   ·rw [if_pos e'] at hx'
    rcases hv x hx' with g | g
    ·exact h.wsep n s e x hx g
    ·have:= ((h.wrow n).lt x hx).2;omega
   ·rw [if_neg e'] at hx'
    exact h.wsep n n' hnn x hx hx'
 ·by_cases e':n=s
  ·rw [if_pos e'] at hx
   rcases hv x hx with g | g
   ·exact h.isep s x g e
   ·have:= (h.items.lt x e).2;omega
  ·rw [if_neg e'] at hx
   exact h.isep n x hx e
end
def unans (Kj:List Qq) (ts:List Zx) (l:List ByteArray):List ByteArray:=l.filter fun a=> (ansOf (Q_ Kj) (Qj (Qk ts)) a).isNone
structure AskI (Kj:List Qq) (ts0:List Zx) (ws0:ByteArray->List Nat) (tb:Nat) (L1 L2:List ByteArray) (ts:List Zx) (ws:ByteArray->List Nat):Prop where
 env: ∀n,Qj (Qk ts) n=match Qj (Qk ts0) n with | some x=> some x | none=> if hasN L1 n=true∧(Q_ Kj n).isSome=true then some (Qz.fresh n) else none
 me: ∃t0∈ts0,∃t∈ts,t0.tb=tb∧t.tb=tb∧t.r=t0.r∧t.op=t0.op+ (unans Kj ts0 L2).length∧t.bq=t0.bq
 other: ∀t∈ts,t.tb≠tb->(∃t0∈ts0,t0.tb=t.tb∧t0.r=t.r∧t0.op=t.op∧t0.bq=t.bq)∨(t.r=Qz.fresh t.r.name∧(t.op=0∧t.bq= (⟨#[]⟩,[]))∧Qj (Qk ts0) t.r.name=none)
 old: ∀t0∈ts0,∃t∈ts,t.tb=t0.tb∧t.r=t0.r
 wt: ∀s,ws s=if hasN (unans Kj ts0 L2) s=true then ws0 s++ [tb] else ws0 s
theorem AskI.start {Kj:List Qq} {ts0:List Zx} {ws0:ByteArray->List Nat} {t:Zx} (h:t∈ts0):AskI Kj ts0 ws0 t.tb [] [] ts0 ws0:=
 ⟨fun n=> by cases Qj (Qk ts0) n <;> simp [hasN],⟨t,h,t,h,rfl,rfl,rfl,rfl,rfl⟩,fun u hu _=> .inl ⟨u,hu,rfl,rfl,rfl,rfl⟩,fun u hu=> ⟨u,hu,rfl,rfl⟩,fun s=> by simp [unans,hasN]⟩
theorem env_none_iff {ts:List Zx} {n:ByteArray}:Qj (Qk ts) n=none↔∀t∈ts,t.r.name≠n:=by
 unfold Qj
 rw [List.find?_eq_none]
 simp [Qk]
theorem AskI.want {Kj:List Qq} {ts0 ts ts':List Zx} {ws0 ws:ByteArray->List Nat} {tb:Nat} {L1 L2:List ByteArray} (h:AskI Kj ts0 ws0 tb L1 L2 ts ws) {n:ByteArray} (ha:AscX (Qk ts)) (ha':AscX (Qk ts')) (hn: (ts'.map (·.tb)).Nodup) (hw:WantR Kj ts n ts'):AskI Kj ts0 ws0 tb (L1++ [n]) L2 ts' ws:=by
 have hL: ∀m,hasN (L1++ [n]) m=true↔hasN L1 m=true∨m=n:=fun m=> by simp [hasN_iff]
 rcases hw with ⟨rfl,hw⟩ | ⟨p,new,rfl,hr,hop,hno,hsome⟩
 ·refine ⟨fun m=> ?_,h.me,h.other,h.old,h.wt⟩
  rw [h.env m]
  cases h0:Qj (Qk ts0) m with
  | some x=> rfl
  | none=>
   simp only
   by_cases e:m=n
   ·subst e
    rcases hw with hw | ⟨t,ht,e⟩
    ·rw [if_neg (by rw [hw];simp),if_neg (by rw [hw];simp)]
    ·by_cases hc:hasN L1 m=true∧(Q_ Kj m).isSome=true
     ·rw [if_pos hc,if_pos ⟨(hL m).2 (.inl hc.1),hc.2⟩]
     ·have:=h.env m
      rw [h0] at this
      simp only at this
      rw [if_neg hc] at this
      exact absurd e (env_none_iff.1 this t ht)
   ·by_cases hc:hasN L1 m=true∧(Q_ Kj m).isSome=true
    ·rw [if_pos hc,if_pos ⟨(hL m).2 (.inl hc.1),hc.2⟩]
    ·rw [if_neg hc,if_neg]
     rintro ⟨h1,h2⟩
     rcases (hL m).1 h1 with g | g
     ·exact hc ⟨g,h2⟩
     ·exact e g
 ·have hmem: ∀u,u∈ts.take p++new :: ts.drop p↔u=new∨u∈ts:=fun u=> by
   rw [List.mem_append,List.mem_cons]
   constructor
   ·rintro (h | h | h)
    ·exact .inr (List.mem_of_mem_take h)
    ·exact .inl h
    ·exact .inr (List.mem_of_mem_drop h)
   ·rintro (h | h)
    ·exact .inr (.inl h)
    ·rw [<-List.take_append_drop p ts] at h
     rcases List.mem_append.1 h with h | h
     ·exact .inl h
     ·exact .inr (.inr h)
  have hnone:Qj (Qk ts) n=none:=env_none_iff.2 hno
  have h0n:Qj (Qk ts0) n=none:=by
   have:=h.env n
   rw [hnone] at this
   cases h0:Qj (Qk ts0) n with
   | none=> rfl
   | some x=> rw [h0] at this;cases this
  have henv: ∀m,Qj (Qk (ts.take p++new :: ts.drop p)) m=if m=n then some (Qz.fresh n) else Qj (Qk ts) m:=fun m=> by
   by_cases e:m=n
   ·rw [if_pos e,e]
    have:=asc_env ha' (r:=new.r) (List.mem_map_of_mem ((hmem new).2 (.inl rfl)))
    rw [hr] at this
    exact this
   ·rw [if_neg e]
    cases h1:Qj (Qk ts) m with
    | some x=>
     obtain ⟨g1,g2⟩:=env_mem h1
     obtain ⟨u,hu,rfl⟩:=List.mem_map.1 g1
     have:=asc_env ha' (r:=u.r) (List.mem_map_of_mem ((hmem u).2 (.inr hu)))
     rw [g2] at this
     exact this
    | none=>
     rw [env_none_iff] at h1⊢
     intro u hu
     rcases (hmem u).1 hu with rfl | hu
     ·rw [hr];exact fun e2=> e e2.symm
     ·exact h1 u hu
  have htb: ∀u∈ts,u.tb≠new.tb:=fun u hu e=> by
   have e1: (ts.take p++new :: ts.drop p).map (·.tb)= (ts.take p).map (·.tb)++new.tb :: (ts.drop p).map (·.tb):=by simp
   rw [e1] at hn
   have h2:=List.nodup_append.1 hn
   rw [<-List.take_append_drop p ts] at hu
   rcases List.mem_append.1 hu with hu | hu
   ·exact h2.2.2 _ (List.mem_map_of_mem hu) _ (by simp) e
   ·exact (List.nodup_cons.1 h2.2.1).1 (by rw [<-e];exact List.mem_map_of_mem hu)
  refine ⟨fun m=> ?_, ?_,fun u hu hne=> ?_,fun t0 ht0=> ?_,h.wt⟩
  ·rw [henv m]
   by_cases e:m=n
   ·rw [if_pos e,e,h0n]
    simp only
    rw [if_pos ⟨(hL n).2 (.inr rfl),hsome⟩]
   ·rw [if_neg e,h.env m]
    cases h0:Qj (Qk ts0) m with
    | some x=> rfl
    | none=>
     simp only
     by_cases hc:hasN L1 m=true∧(Q_ Kj m).isSome=true
     ·rw [if_pos hc,if_pos ⟨(hL m).2 (.inl hc.1),hc.2⟩]
     ·rw [if_neg hc,if_neg]
      rintro ⟨h1,h2⟩
      rcases (hL m).1 h1 with g | g
      ·exact hc ⟨g,h2⟩
      ·exact e g
  ·obtain ⟨t0,h1,t,h2,h3⟩:=h.me
   exact ⟨t0,h1,t,(hmem t).2 (.inr h2),h3⟩
  ·rcases (hmem u).1 hu with rfl | hu
   ·exact .inr ⟨by rw [hr];rfl,hop,by rw [hr];exact h0n⟩
   ·exact h.other u hu hne
  ·obtain ⟨t,h1,h2⟩:=h.old t0 ht0
   exact ⟨t,(hmem t).2 (.inr h1),h2⟩
theorem AskI.ans {Kj:List Qq} {ts0 ts:List Zx} {ws0 ws:ByteArray->List Nat} {tb:Nat} {L1 L2:List ByteArray} (h:AskI Kj ts0 ws0 tb L1 L2 ts ws) (n:ByteArray):ansOf (Q_ Kj) (Qj (Qk ts)) n=ansOf (Q_ Kj) (Qj (Qk ts0)) n:=by
 unfold ansOf
 cases hA:Q_ Kj n with
 | none=> rfl
 | some A=>
  simp only
  rw [h.env n]
  cases h0:Qj (Qk ts0) n with
  | some x=> rfl
  | none=>
   simp only
   split
   ·rename_i r hr
    split at hr
    ·cases hr;rfl
    ·cases hr
   ·rfl
theorem AskI.skip {Kj:List Qq} {ts0 ts:List Zx} {ws0 ws:ByteArray->List Nat} {tb:Nat} {L1 L2:List ByteArray} (h:AskI Kj ts0 ws0 tb L1 L2 ts ws) {n:ByteArray} (hn: (ansOf (Q_ Kj) (Qj (Qk ts0)) n).isSome=true):AskI Kj ts0 ws0 tb L1 (L2++ [n]) ts ws:=by
 have e:unans Kj ts0 (L2++ [n])=unans Kj ts0 L2:=by
  unfold unans
  rw [List.filter_append]
  cases ha:ansOf (Q_ Kj) (Qj (Qk ts0)) n with
  | none=> rw [ha] at hn;cases hn
  | some x=> simp [ha]
 exact ⟨h.env,by rw [e];exact h.me,h.other,h.old,by rw [e];exact h.wt⟩
theorem AskI.wait {Kj:List Qq} {ts0 ts:List Zx} {ws0 ws:ByteArray->List Nat} {tb:Nat} {L1 L2:List ByteArray} (h:AskI Kj ts0 ws0 tb L1 L2 ts ws) {n:ByteArray} (hn:ansOf (Q_ Kj) (Qj (Qk ts0)) n=none) (hni:n∉L2) {i:Nat} {t t':Zx} (hi:ts[i]? =some t) (ht:t.tb=tb) (hnd: (ts.map (·.tb)).Nodup) (e1:t'.tb=tb) (e2:t'.r=t.r) (e3:t'.op=t.op+1) (e0:t'.bq=t.bq):AskI Kj ts0 ws0 tb L1 (L2++ [n]) (ts.set i t') (fun m=> if m=n then ws n++ [tb] else ws m):=by
 obtain ⟨hl,rfl⟩:=List.getElem?_eq_some_iff.1 hi
 have e:unans Kj ts0 (L2++ [n])=unans Kj ts0 L2++ [n]:=by
  unfold unans
  rw [List.filter_append]
  simp [hn]
 have hni2:n∉unans Kj ts0 L2:=fun h=> hni (List.mem_filter.1 h).1
 have hru:Qk (ts.set i t')=Qk ts:=by
  rw [runs_set hl,e2]
  have e0:ts[i].r= (Qk ts)[i]'(by simpa [Qk] using hl):=by simp [Qk]
  rw [e0,List.set_getElem_self]
 have mem: ∀u∈ts.set i t',u=t'∨(u∈ts∧u.tb≠tb):=fun u hu=> by
  obtain ⟨j,hj,rfl⟩:=List.getElem_of_mem hu
  rw [List.length_set] at hj
  rw [List.getElem_set]
  split
  ·exact .inl rfl
  ·rename_i hne
   refine .inr ⟨List.getElem_mem hj,fun e=> ?_⟩
   have hnd2:=List.pairwise_iff_getElem.1 hnd
   rcases Nat.lt_or_gt_of_ne hne with g | g
   ·have:=hnd2 i j (by simpa using hl) (by simpa using hj) g
    simp at this
    exact this (ht.trans e.symm)
   ·have:=hnd2 j i (by simpa using hj) (by simpa using hl) g
    simp at this
    exact this (e.trans ht.symm)
 have one: ∀u∈ts,u.tb=tb->u=ts[i]:=fun u hu e=> by
  obtain ⟨j,hj,rfl⟩:=List.getElem_of_mem hu
  by_cases hij:i=j
  ·subst hij;rfl
  ·have hnd2:=List.pairwise_iff_getElem.1 hnd
   rcases Nat.lt_or_gt_of_ne hij with g | g
   ·have:=hnd2 i j (by simpa using hl) (by simpa using hj) g
    simp at this
    exact absurd (ht.trans e.symm) this
   ·have:=hnd2 j i (by simpa using hj) (by simpa using hl) g
    simp at this
    exact absurd (e.trans ht.symm) this
 have hin:t'∈ts.set i t':=List.mem_iff_getElem.2 ⟨i,by rw [List.length_set];exact hl,by simp⟩
 have keep: ∀u∈ts,u.tb≠tb->u∈ts.set i t':=fun u hu hne=> by
  obtain ⟨j,hj,rfl⟩:=List.getElem_of_mem hu
  refine List.mem_iff_getElem.2 ⟨j,by rw [List.length_set];exact hj, ?_⟩
  rw [List.getElem_set,if_neg (fun e=> hne (by subst e;exact ht))]
 refine ⟨by rw [hru];exact h.env, ?_,fun u hu hne=> ?_,fun t0 ht0=> ?_,fun s=> ?_⟩
 ·obtain ⟨t0,h1,t,h2,h3,h4,h5,h6,h7⟩:=h.me
  have:=one t h2 h4
  subst this
  exact ⟨t0,h1,t',hin,h3,e1,by rw [e2,h5],by rw [e3,h6,e];simp;omega,e0.trans h7⟩
 ·rcases mem u hu with rfl | ⟨hu,_⟩
  ·exact absurd e1 hne
  ·exact h.other u hu hne
 ·obtain ⟨t,h1,h2,h3⟩:=h.old t0 ht0
  by_cases e4:t.tb=tb
  ·have:=one t h1 e4
   subst this
   exact ⟨t',hin,by rw [e1,<-e4,h2],by rw [e2,h3]⟩
  ·exact ⟨t,keep t h1 e4,h2,h3⟩
 ·rw [e]
  by_cases e4:s=n
  ·subst e4
   rw [if_pos rfl,if_pos (hasN_iff.2 (by simp)),h.wt s,if_neg (fun g=> hni2 (hasN_iff.1 g))]
  ·rw [if_neg e4,h.wt s]
   by_cases h5:hasN (unans Kj ts0 L2) s=true
   ·rw [if_pos h5,if_pos (hasN_iff.2 (List.mem_append.2 (.inl (hasN_iff.1 h5))))]
   ·rw [if_neg h5,if_neg (fun g=> by
     rcases List.mem_append.1 (hasN_iff.1 g) with g | g
     ·exact h5 (hasN_iff.2 g)
     ·exact e4 (List.mem_singleton.1 g))]
section
variable {G : Ghost} {Kj : List Qq} {wz w w' : World} {bb : Nat} {a : Option Addr} {cap : Nat} {rd : Option Addr} {rn rc : Nat} {mb mx : Nat} {ts : List Zx} {d : Option Addr} {dc : Nat} {f : ByteArray -> Value} {ws : ByteArray -> List Nat}
theorem BM.len (h:BM G Kj wz w bb a cap rd rn rc mb mx ts d dc f ws) (hw:Kj.length<=60):ts.length<=60:=by
 have h1:=List.Nodup.length_le_of_subset (asc_nodup h.asc) (l₂:=Kj.map (·.name)) (fun n hn=> by
  obtain ⟨r,hr,rfl⟩:=List.mem_map.1 hn
  obtain ⟨t,ht,rfl⟩:=List.mem_map.1 hr
  exact acts_in (by rw [(h.act t ht).1];rfl))
 simp [Qk] at h1
 omega
end
def GoodsI (xs:List Xq) (w':World) (e:Ending):Prop:= ∃(a:Option Addr) (c:Nat),e= .returned (.slice a (goodOf xs).length c)∧Strs w' a (goodOf xs)
theorem goodTexts_any (w:World) (d:Option Addr) (dc:Nat) (xs:List Xq) (hxl:xs.length<=1000) (hS:Answers w d xs):
  Calls Tryz.prog 146 #[.slice d xs.length dc] w fun e w'=> GoodsI xs w' e∧K_ w w':=by
 obtain ⟨ic,hc0,hc1,hc2,hc3⟩:=xInfo_parts Tryz.xInfoStr
 go_enter Tryz.func146,Tryz.ntmps146
 go_wp2
 go_loopg [3,8] xs.length (fun gg x3 x8 wr=> ∃(i:Nat) (av:Option Addr) (cv:Nat),x3= .slice av (goodOf (xs.take i)).length cv∧x8= .int .i64 (i:Int)∧i+gg=xs.length∧(goodOf (xs.take i)).length<=i∧K_ w wr∧Hid (wr.ownsRow w.heap.size 9 1 (.slice av (goodOf (xs.take i)).length cv) (goodOf (xs.take i)).length ((goodOf (xs.take i)).map Value.string)))
 case atStart=> exact ⟨0,none,0,rfl,rfl,by omega,Nat.le_refl _,K_.refl _,World.ownsRow_nil _ _ _ _⟩
 case round=>
  obtain ⟨i,av,cv,rfl,rfl,hi,hnl,Kr,HO⟩:=hrel
  by_cases hlt: (i:Int) < (xs.length:Int)
  ·have hil:i < xs.length:=by omega
   obtain ⟨b,o,rfl,hb,hc⟩:= (hS.kept Kr) i hil
   obtain ⟨x,hx⟩: ∃x,x=xs.getD i Xq.zero:= ⟨_,rfl⟩
   rw [<-hx] at hc
   have t0:=hc 0 _ rfl
   have t1:=hc 1 _ rfl
   rw [Nat.add_zero] at t0
   have HT:Hid (xs.take (i+1)=xs.take i++ [x]):=by show _=_;rw [List.take_succ_eq_append_getElem hil,hx];simp [List.getD,hil]
   obtain ⟨ns,hns⟩: ∃ns,ns=goodOf (xs.take i):= ⟨_,rfl⟩
   rw [<-hns] at hnl HO⊢
   have HNs:=Kz hns
   clear hc hx hns
   obtain ⟨W2,hW2⟩: ∃W2,W2=wr.alloc (.cells #[.bool x.fail,.string x.text] 75):= ⟨_,rfl⟩
   have K2:K_ wr W2:=by rw [hW2];exact (K_.refl _).alloc _
   have q0:W2.cell? ⟨wr.heap.size,0,none⟩=some (.bool x.fail):=by rw [hW2];exact Xz wr #[.bool x.fail,.string x.text] 75 0 _ rfl
   have q1:W2.cell? ⟨wr.heap.size,1,none⟩=some (.string x.text):=by rw [hW2];exact Xz wr #[.bool x.fail,.string x.text] 75 1 _ rfl
   have qz:wr.heap.size < W2.heap.size:=by rw [hW2];simp
   go_upto_region 5 with fail
   rw [<-hW2]
   clear hW2
   obtain ⟨fb,hfb⟩: ∃fb,fb=wr.heap.size:= ⟨_,rfl⟩
   rw [<-hfb] at q0 q1 qz⊢
   clear hfb
   have HO2:=Kz (ownsRow_kept' HO.out K2)
   have KW2:=Kr.trans K2
   cases hf:x.fail
   ·rw [hf] at q0
    have k1:K_ W2 (W2.alloc (.cells #[.string x.text] 9)):= (K_.refl _).alloc _
    have HOw:=Kz (ownsRow_kept' HO2.out k1)
    have KK:=Kz (KW2.trans k1)
    have hbz:w.heap.size<=(W2.alloc (.cells #[.string x.text] 9)).heap.size:=KK.out.size
    have HNw:Hid (∀j u,([.string x.text]:List Value)[j]? =some u->(W2.alloc (.cells #[.string x.text] 9)).cell? ((⟨W2.heap.size,0,none⟩:Addr).add j)=some u):=fun j u hu=> by rw [Addr.add_mid];exact Xz W2 #[.string x.text] 9 j u hu
    have HOne:Hid (∀u∈([.string x.text]:List Value),u.oneCell'=true):=fun u hu=> by simp only [List.mem_cons,List.not_mem_nil,or_false] at hu;subst hu;rfl
    clear k1
    go_wp2_with (at_builtin;refine wpList_append_own _ rfl (.tmp 15) (.tmp 18) 25 rfl w.heap.size 9 ic _ 1 16 Tryz.underlying25 hc0 hc1 hc2 hc3 rfl (by decide) (.slice av ns.length cv) ns.length (ns.map Value.string) rfl HOw.out ⟨W2.heap.size,0,none⟩ 1 1 [.string x.text] rfl rfl HNw.out HOne.out (by unfold maxLen;omega) (by omega) hbz ?_;intro v' w6 hown2 hgr _;have KP:=kept_of_grown KK.out (Nat.le_refl _) HOw.out hgr;have HP:=Kz hown2;obtain ⟨av2,cv2,rfl⟩:=own_slice hown2;clear hown2 hgr)
    go_roundg (gk - 1)
    case measure=> omega
    case rel=>
     have e:goodOf (xs.take (i+1))=ns++ [x.text]:=by rw [HT.out,goodOf_snoc,<-HNs.out,hf];rfl
     exact ⟨i+1,av2,cv2,by rw [e,List.length_append];rfl,by go_num,by omega,by rw [e,List.length_append];show ns.length+1<=i+1;omega,KP,Kz (by rw [e,List.map_append,List.length_append];exact HP.out)⟩
   ·rw [hf] at q0
    go_wp2
    go_roundg (gk - 1)
    case measure=> omega
    case rel=>
     have e:goodOf (xs.take (i+1))=ns:=by rw [HT.out,goodOf_snoc,<-HNs.out,hf];simp
     exact ⟨i+1,av,cv,by rw [e],by go_num,by omega,by rw [e];omega,KW2,Kz (by rw [e];exact HO2.out)⟩
  ·have hie:i=xs.length:=by omega
   obtain ⟨a9,c9,e9,h9⟩:=owned_strs HO.out
   simp only [Value.slice.injEq,true_and] at e9
   rw [<-e9.1] at h9
   have H9:=Kz h9
   clear h9 e9
   go_wp2_with fail
   go_ret
   rw [hie,List.take_length] at H9
   exact ⟨⟨av,cv,rfl,H9.out⟩,Kr⟩
section
variable {G : Ghost} {Kj : List Qq} {wz w w' : World} {bb : Nat} {a : Option Addr} {cap : Nat} {rd : Option Addr} {rn rc : Nat} {mb mx : Nat} {ts : List Zx} {d : Option Addr} {dc : Nat} {f : ByteArray -> Value} {ws : ByteArray -> List Nat}
theorem BM.texts (h:BM G Kj wz w bb a cap rd rn rc mb mx ts d dc f ws) {i:Nat} {t:Zx} (hi:ts[i]? =some t) {w1:World} {v':Value} {l:List ByteArray} (ho:w1.ownsRow wz.heap.size 9 1 v' (t.r.texts.length+l.length) (t.r.texts.map Value.string++l.map Value.string)) (hg:w.grownBy w1 t.tv.ownBlock) (hv: ∀g,v'.ownBlock=some g->t.tv.ownBlock=some g∨w.heap.size<=g):
  BM G Kj wz (w1.setCell ⟨t.tb,6,none⟩ v') bb a cap rd rn rc mb mx (ts.set i { t with tv:=v',r:= { t.r with texts:=t.r.texts++l } }) d dc f ws:=by
 obtain ⟨hl,rfl⟩:=List.getElem?_eq_some_iff.1 hi
 have hT:=h.task _ (List.getElem_mem hl)
 have hn:=h.sep2 _ (List.getElem_mem hl)
 have k1:But (fun b=> b=ts[i].tb∨b∈ts[i].own) w w1:=But.of_grown hg (fun b e=> .inr (List.mem_append.2 (.inl (Option.mem_toList.2 e))))
 have k:But (fun b=> b=ts[i].tb∨b∈ts[i].own) w (w1.setCell ⟨ts[i].tb,6,none⟩ v'):=But.set k1 (p:= ⟨ts[i].tb,6,none⟩) (.inl rfl) v'
 have hb1:w1.heap[ts[i].tb]? =w.heap[ts[i].tb]? :=hg.block _ hT.row.lt (fun e=> type_ne hT.row.type (Yz hT.txt e.symm) (by decide) rfl)
 have hr1:RowT w1 ts[i].tb 135 12:=hT.row.block hb1
 have hc1:w1.rangeAt ts[i].tb 0 ts[i].cells:=fun j u hu=> (World.cell?_of_block (w:=w) hb1).trans (hT.rng j u hu)
 have ne1: ∀{b:Nat},TypeAt w1 b 9->b≠ts[i].tb:=fun hu=> type_ne hu hr1.type (by decide)
 have kt:But (fun b=> b=ts[i].tb) w1 (w1.setCell ⟨ts[i].tb,6,none⟩ v'):=But.set (S:=fun b=> b=ts[i].tb) (But.of_kept (K_.refl w1)) (p:= ⟨ts[i].tb,6,none⟩) rfl v'
 have ask1:w1.ownsRow wz.heap.size 9 1 ts[i].qv ts[i].qs.length ts[i].qs:= (But.of_grown (S:=fun b=> ts[i].tv.ownBlock=some b) hg (fun b e=> e)).owns hT.ask (fun b e e2=> by
  have h1:b∈ts[i].tv.ownBlock.toList:=Option.mem_toList.2 e2
  have h2:b∈ts[i].qv.ownBlock.toList:=Option.mem_toList.2 e
  unfold Zx.own at hn
  exact (List.nodup_append.1 hn).2.2 b h1 b h2 rfl)
 refine h.turn hl k (fun b hb=> hb) ⟨hr1.set v',range_set hc1 hr1.row (by omega) v', ?_,kt.owns ask1 (fun b e=> ne1 (Yz ask1 e)),hT.low⟩ rfl rfl rfl rfl rfl (fun x hx=> ?_) ?_ (by have:=h.qb ts[i] (List.getElem_mem hl);exact this)
 ·show World.ownsRow _ _ _ _ v' (ts[i].r.texts++l).length ((ts[i].r.texts++l).map Value.string)
  rw [List.length_append,List.map_append]
  exact kt.owns ho (fun b e=> ne1 (Yz ho e))
 ·unfold Zx.own at hx⊢
  rcases List.mem_append.1 hx with hx | hx
  ·rcases hv x (Option.mem_toList.1 hx) with e | e
   ·exact .inl (List.mem_append.2 (.inl (Option.mem_toList.2 e)))
   ·exact .inr e
  ·exact .inl (List.mem_append.2 (.inr hx))
 ·unfold Zx.own at hn⊢
  rw [List.nodup_append] at hn⊢
  refine ⟨?_,hn.2.1,fun x hx y hy=> ?_⟩
  ·show (v'.ownBlock.toList).Nodup
   cases v'.ownBlock <;> simp
  ·rcases hv x (Option.mem_toList.1 hx) with e | e
   ·exact hn.2.2 x (Option.mem_toList.2 e) y hy
   ·have:= (hT.ask.lt y (Option.mem_toList.1 hy)).2
    omega
end
theorem answers_at {W:Acts} {σ:Env}: ∀{l:List ByteArray} {xs:List Xq},Yq W σ l=some xs->xs.length=l.length∧∀k,k < l.length->ansOf W σ (l.getD k ByteArray.empty)=some (xs.getD k Xq.zero)
 | [],xs,h=> by
  unfold Yq at h
  cases h
  exact ⟨rfl,fun k hk=> absurd hk (Nat.not_lt_zero _)⟩
 | n :: l,xs,h=> by
  unfold Yq at h
  cases ha:ansOf W σ n with
  | none=> rw [ha] at h;cases h
  | some x=>
   rw [ha] at h
   simp only at h
   cases hl:Yq W σ l with
   | none=> rw [hl] at h;cases h
   | some ys=>
    rw [hl] at h
    simp only [Option.some.injEq] at h
    subst h
    obtain ⟨h1,h2⟩:=answers_at hl
    refine ⟨by simp [h1],fun k hk=> ?_⟩
    cases k with
    | zero=> simpa using ha
    | succ k=> simpa using h2 k (by simpa using hk)
section
variable {G : Ghost} {Kj : List Qq} {wz w w' : World} {bb : Nat} {a : Option Addr} {cap : Nat} {rd : Option Addr} {rn rc : Nat} {mb mx : Nat} {ts : List Zx} {d : Option Addr} {dc : Nat} {f : ByteArray -> Value} {ws : ByteArray -> List Nat}
end
theorem set_mem {ts:List Zx} {i:Nat} {t t':Zx} (hi:ts[i]? =some t) (hn: (ts.map (·.tb)).Nodup): ∀u∈ts.set i t',u=t'∨(u∈ts∧u.tb≠t.tb):=fun u hu=> by
 obtain ⟨hl,rfl⟩:=List.getElem?_eq_some_iff.1 hi
 obtain ⟨j,hj,rfl⟩:=List.getElem_of_mem hu
 rw [List.length_set] at hj
 rw [List.getElem_set]
 split
 ·exact .inl rfl
 ·rename_i hne
  refine .inr ⟨List.getElem_mem hj,fun e=> ?_⟩
  have hnd2:=List.pairwise_iff_getElem.1 hn
  rcases Nat.lt_or_gt_of_ne hne with g | g
  ·have:=hnd2 i j (by simpa using hl) (by simpa using hj) g
   simp at this
   exact this e.symm
  ·have:=hnd2 j i (by simpa using hj) (by simpa using hl) g
   simp at this
   exact this e
theorem set_in {ts:List Zx} {i:Nat} {t t':Zx} (hi:ts[i]? =some t):t'∈ts.set i t'∧∀u∈ts,u.tb≠t.tb->u∈ts.set i t':=by
 obtain ⟨hl,rfl⟩:=List.getElem?_eq_some_iff.1 hi
 refine ⟨List.mem_iff_getElem.2 ⟨i,by rw [List.length_set];exact hl,by simp⟩,fun u hu hne=> ?_⟩
 obtain ⟨j,hj,rfl⟩:=List.getElem_of_mem hu
 refine List.mem_iff_getElem.2 ⟨j,by rw [List.length_set];exact hj, ?_⟩
 rw [List.getElem_set,if_neg (fun e=> hne (by subst e;rfl))]
theorem decT_mem {ts:List Zx} {l:List Nat} {u:Zx}:u∈decT ts l↔∃v∈ts,u=if v.tb∈l then { v with op:=v.op - 1 } else v:=by
 unfold decT
 rw [List.mem_map]
 constructor
 ·rintro ⟨v,h1,h2⟩;exact ⟨v,h1,h2.symm⟩
 ·rintro ⟨v,h1,h2⟩;exact ⟨v,h1,h2.symm⟩
theorem dec_bl {v:Zx} {l:List Nat}: (if v.tb∈l then { v with op:=v.op - 1 } else v:Zx).bl=v.bl:=by
 by_cases h:v.tb∈l
 ·rw [if_pos h]
 ·rw [if_neg h]
theorem dec_bq {v:Zx} {l:List Nat}: (if v.tb∈l then { v with op:=v.op - 1 } else v:Zx).qs=v.qs:=by
 by_cases h:v.tb∈l
 ·rw [if_pos h]
 ·rw [if_neg h]
theorem dec_same {v:Zx} {l:List Nat}: (if v.tb∈l then { v with op:=v.op - 1 } else v:Zx).tb=v.tb∧(if v.tb∈l then { v with op:=v.op - 1 } else v:Zx).r=v.r:=by
 by_cases h:v.tb∈l
 ·rw [if_pos h];exact ⟨rfl,rfl⟩
 ·rw [if_neg h];exact ⟨rfl,rfl⟩
theorem runs_dec (ts:List Zx) (l:List Nat):Qk (decT ts l)=Qk ts:=by
 unfold Qk decT
 rw [List.map_map]
 congr 1
 funext v
 exact dec_same.2
theorem env_set {l:List Qz} {i:Nat} {r r':Qz} (ha:AscX l) (hi:l[i]? =some r) (hn:r'.name=r.name) (m:ByteArray):Qj (l.set i r') m=if m=r.name then some r' else Qj l m:=by
 obtain ⟨hl,rfl⟩:=List.getElem?_eq_some_iff.1 hi
 have ha':=asc_set ha hl hn
 have hin:r'∈l.set i r':=List.mem_iff_getElem.2 ⟨i,by rw [List.length_set];exact hl,by simp⟩
 by_cases e:m=l[i].name
 ·rw [if_pos e]
  have:=asc_env ha' hin
  rw [hn,<-e] at this
  exact this
 ·rw [if_neg e]
  cases h:Qj l m with
  | some x=>
   obtain ⟨h1,h2⟩:=env_mem h
   obtain ⟨j,hj,rfl⟩:=List.getElem_of_mem h1
   have hji:i≠j:=fun e2=> e (by subst e2;exact h2.symm)
   have hx:l[j]∈l.set i r':=List.mem_iff_getElem.2 ⟨j,by rw [List.length_set];exact hj,by rw [List.getElem_set,if_neg hji]⟩
   have:=asc_env ha' hx
   rw [h2] at this
   exact this
  | none=>
   unfold Qj at h⊢
   rw [List.find?_eq_none] at h⊢
   intro x hx
   obtain ⟨j,hj,rfl⟩:=List.getElem_of_mem hx
   rw [List.length_set] at hj
   rw [List.getElem_set]
   split
   ·rw [hn];simpa using fun e2=> e e2.symm
   ·exact h _ (List.getElem_mem hj)
theorem filter_ne_len {l:List ByteArray} {n:ByteArray} (h:l.Nodup): (l.filter fun a=> !decide (a=n)).length=if hasN l n=true then l.length - 1 else l.length:=by
 induction l with
 | nil=> simp [hasN]
 | cons x l ih=>
  rw [List.nodup_cons] at h
  have ih:=ih h.2
  by_cases e:x=n
  ·subst e
   have hno: ¬hasN l x=true:=fun g=> h.1 (hasN_iff.1 g)
   rw [if_neg hno] at ih
   rw [if_pos (hasN_iff.2 (by simp))]
   simp [ih]
  ·have e1:hasN (x :: l) n=hasN l n:=by simp [hasN,e]
   rw [e1]
   simp only [List.filter_cons,e,decide_false,Bool.not_false,if_true,List.length_cons]
   rw [ih]
   by_cases g:hasN l n=true
   ·rw [if_pos g,if_pos g]
    have:0 < l.length:=List.length_pos_of_mem (hasN_iff.1 g)
    omega
   ·rw [if_neg g,if_neg g]
theorem BS.self {Kj:List Qq} {ts:List Zx} {ws:ByteArray->List Nat} (h:BS Kj ts ws) {t:Zx} (ht:t∈ts) (hc:CanGo (Q_ Kj) (Qj (Qk ts)) t.r):t.op=0∧pend (Q_ Kj) (Qj (Qk ts)) t.r=[]∧∀s,t.tb∉ws s:=by
 have hg:=h.good.good t.r (List.mem_map_of_mem ht)
 obtain ⟨A,hA,_⟩:=hg.act
 have hp:= ((canGo_iff (by rw [hA];rfl)).1 hc).2
 refine ⟨by rw [h.op t ht,hp];rfl,hp,fun s hs=> ?_⟩
 have:= (h.wt s t ht).1 hs
 rw [hp] at this
 cases this
theorem BS.ended {Kj:List Qq} (hok:ActsOk (Q_ Kj)) {ts:List Zx} {ws:ByteArray->List Nat} (h:BS Kj ts ws) (hn: (ts.map (·.tb)).Nodup) {i:Nat} {t t':Zx} (hi:ts[i]? =some t) (hc:CanGo (Q_ Kj) (Qj (Qk ts)) t.r) (hr:t'.r= (Y_ (Q_ Kj) (Qj (Qk ts)) t.r).1) (ho:t'.r.over=true) (ha: (Y_ (Q_ Kj) (Qj (Qk ts)) t.r).2=[]) (htb:t'.tb=t.tb) (hop:t'.op=t.op) (hbl:BlOk (Q_ Kj) t'.r t'.bl) (hqs:t'.qs=t.qs):
  BS Kj (decT (ts.set i t') (ws t.r.name)) (fun n=> if n=t.r.name then [] else ws n)∧Qj (Qk (decT (ts.set i t') (ws t.r.name)))=doX (Q_ Kj) (Qj (Qk ts)) t.r.name:=by
 have ht:t∈ts:=List.mem_of_getElem? hi
 obtain ⟨h1,h2,h3⟩:=h.self ht hc
 have hlr: (Qk ts)[i]? =some t.r:=by unfold Qk;rw [List.getElem?_map,hi];rfl
 have hli:i < ts.length:= (List.getElem?_eq_some_iff.1 hi).1
 have hnm:t'.r.name=t.r.name:=by rw [hr,nextOf_name]
 have hruns:Qk (decT (ts.set i t') (ws t.r.name))= (Qk ts).set i t'.r:=by rw [runs_dec,runs_set hli]
 have he0:Qj (Qk ts) t.r.name=some t.r:=asc_env h.good.asc (List.mem_map_of_mem ht)
 have henv:Qj (Qk (decT (ts.set i t') (ws t.r.name)))=doX (Q_ Kj) (Qj (Qk ts)) t.r.name:=by
  funext m
  rw [hruns,env_set h.good.asc hlr hnm,doX_eq he0,hr]
  by_cases e:m=t.r.name
  ·rw [if_pos e,if_pos e]
  ·rw [if_neg e,if_neg e]
   cases Qj (Qk ts) m with
   | some x=> rfl
   | none=>
    simp only
    rw [if_neg (by rw [ha];simp [hasN])]
 have hg:=h.good.good t.r (List.mem_map_of_mem ht)
 have hw: (Q_ Kj t.r.name).isSome=true:=by obtain ⟨A,hA,_⟩:=hg.act;rw [hA];rfl
 have hpo: ∀x:Qz,pend (Q_ Kj) (Qj (Qk (decT (ts.set i t') (ws t.r.name)))) x= (pend (Q_ Kj) (Qj (Qk ts)) x).filter (fun a=> !decide (a=t.r.name)):=fun x=> by
  rw [henv,pend_do he0 hc.1 hw,<-hr,if_pos ho]
 have hpt: ∀σ,pend (Q_ Kj) σ t'.r=[]:=fun σ=> by unfold pend;rw [if_pos (.inl ho)]
 have hnd: ∀u∈ts,(pend (Q_ Kj) (Qj (Qk ts)) u.r).Nodup:=fun u hu=> by
  obtain ⟨A,hA,g0,g1⟩:= (h.good.good u.r (List.mem_map_of_mem hu)).act
  exact pend_nodup hok hA g0 g1
 have hmem: ∀u∈decT (ts.set i t') (ws t.r.name),u=t'∨∃v∈ts,v.tb≠t.tb∧u=if v.tb∈ws t.r.name then { v with op:=v.op - 1 } else v:=fun u hu=> by
  obtain ⟨v,hv,rfl⟩:=decT_mem.1 hu
  rcases set_mem hi hn v hv with rfl | ⟨g1,g2⟩
  ·left
   rw [if_neg (by rw [htb];exact h3 _)]
  ·exact .inr ⟨v,g1,g2,rfl⟩
 refine ⟨⟨⟨by rw [hruns];exact asc_set h.good.asc (List.getElem?_eq_some_iff.1 hlr).1 (hnm.trans (congrArg Qz.name (List.getElem?_eq_some_iff.1 hlr).2).symm),fun x hx=> ?_⟩,fun u hu=> ?_,fun s u hu=> ?_,fun s=> ?_,fun s b hb=> ?_,fun u hu=> ?_,fun u hu=> ?_⟩,henv⟩
 rotate_right
 ·rw [henv]
  rcases hmem u hu with rfl | ⟨v,hv,_,rfl⟩
  ·have:= (h.qs t ht).unit hc
   rw [ha,List.map_nil,List.append_nil,<-hr,<-hqs] at this
   exact this.mono ⟨t.r,he0,hc⟩
  ·rw [dec_same.2,dec_bq];exact (h.qs v hv).mono ⟨t.r,he0,hc⟩
 rotate_right
 ·rcases hmem u hu with rfl | ⟨v,hv,_,rfl⟩
  ·exact hbl
  ·rw [dec_same.2,dec_bl];exact h.bl v hv
 ·obtain ⟨u,hu,rfl⟩:=List.mem_map.1 hx
  rcases hmem u hu with rfl | ⟨v,hv,_,rfl⟩
  ·rw [hr];exact nextOf_good hok h.good.env hg hc
  ·rw [dec_same.2];exact h.good.good v.r (List.mem_map_of_mem hv)
 ·rcases hmem u hu with rfl | ⟨v,hv,hne,rfl⟩
  ·rw [hpt,hop,h1];rfl
  ·rw [dec_same.2,hpo,filter_ne_len (hnd v hv)]
   by_cases g:v.tb∈ws t.r.name
   ·rw [if_pos g,if_pos (hasN_iff.2 ((h.wt _ v hv).1 g))]
    show v.op - 1=_
    rw [h.op v hv]
   ·rw [if_neg g,if_neg (fun g2=> g ((h.wt _ v hv).2 (hasN_iff.1 g2)))]
    exact h.op v hv
 ·rcases hmem u hu with rfl | ⟨v,hv,hne,rfl⟩
  ·rw [hpt]
   simp only [List.not_mem_nil,iff_false]
   intro g
   split at g
   ·cases g
   ·rw [htb] at g;exact h3 _ g
  ·rw [dec_same.1,dec_same.2,hpo,List.mem_filter]
   by_cases e:s=t.r.name
   ·simp [e]
   ·simp only [e,if_false]
    rw [h.wt s v hv]
    simp
 ·by_cases e:s=t.r.name
  ·rw [if_pos e];exact List.nodup_nil
  ·rw [if_neg e];exact h.wn s
 ·split at hb
  ·cases hb
  ·obtain ⟨v,hv,e⟩:=h.ww s b hb
   by_cases g:v.tb=t.tb
   ·exact absurd hb (by rw [<-e,g];exact h3 s)
   ·exact ⟨_,decT_mem.2 ⟨v,(set_in hi).2 v hv g,rfl⟩,by rw [dec_same.1];exact e⟩
theorem tb_one {ts:List Zx} (hn: (ts.map (·.tb)).Nodup) {u v:Zx} (hu:u∈ts) (hv:v∈ts) (e:u.tb=v.tb):u=v:=by
 obtain ⟨i,hi,rfl⟩:=List.getElem_of_mem hu
 obtain ⟨j,hj,rfl⟩:=List.getElem_of_mem hv
 have hnd2:=List.pairwise_iff_getElem.1 hn
 rcases Nat.lt_trichotomy i j with g | g | g
 ·have:=hnd2 i j (by simpa using hi) (by simpa using hj) g
  simp at this
  exact absurd e this
 ·subst g;rfl
 ·have:=hnd2 j i (by simpa using hj) (by simpa using hi) g
  simp at this
  exact absurd e.symm this
theorem alike_mem {ts ts':List Zx} (h: (ts'.map fun t=> (t.tb,t.r,t.op,t.bq))= (ts.map fun t=> (t.tb,t.r,t.op,t.bq))): (∀u∈ts',∃v∈ts,v.tb=u.tb∧v.r=u.r∧v.op=u.op∧v.bq=u.bq)∧(∀v∈ts,∃u∈ts',u.tb=v.tb∧u.r=v.r∧u.op=v.op∧u.bq=v.bq):=by
 constructor
 ·intro u hu
  have: (u.tb,u.r,u.op,u.bq)∈ts'.map fun t=> (t.tb,t.r,t.op,t.bq):=List.mem_map.2 ⟨u,hu,rfl⟩
  rw [h] at this
  obtain ⟨v,hv,e⟩:=List.mem_map.1 this
  simp only [Prod.mk.injEq] at e
  exact ⟨v,hv,e.1,e.2.1,e.2.2.1,e.2.2.2⟩
 ·intro v hv
  have: (v.tb,v.r,v.op,v.bq)∈ts.map fun t=> (t.tb,t.r,t.op,t.bq):=List.mem_map.2 ⟨v,hv,rfl⟩
  rw [<-h] at this
  obtain ⟨u,hu,e⟩:=List.mem_map.1 this
  simp only [Prod.mk.injEq] at e
  exact ⟨u,hu,e.1,e.2.1,e.2.2.1,e.2.2.2⟩
theorem alike_runs {ts ts':List Zx} (h: (ts'.map fun t=> (t.tb,t.r,t.op,t.bq))= (ts.map fun t=> (t.tb,t.r,t.op,t.bq))):Qk ts'=Qk ts:=by
 have:=congrArg (List.map fun p:Nat×Qz×Nat×ByteArray×List Value=> p.2.1) h
 rw [List.map_map,List.map_map] at this
 exact this
theorem BS.asked {Kj:List Qq} (hok:ActsOk (Q_ Kj)) {ts ts0 ts':List Zx} {ws ws':ByteArray->List Nat} (h:BS Kj ts ws) (hn: (ts.map (·.tb)).Nodup) {i:Nat} {t t1:Zx} (hi:ts[i]? =some t) (hc:CanGo (Q_ Kj) (Qj (Qk ts)) t.r) (hr:t1.r= (Y_ (Q_ Kj) (Qj (Qk ts)) t.r).1) (ho:t1.r.over=false) (hv:t1.r.Zj≠0) (htb:t1.tb=t.tb) (hop:t1.op=t.op∧t1.bl=t.bl∧t1.qs=t.qs++ (Y_ (Q_ Kj) (Qj (Qk ts)) t.r).2.map Value.string)
  (hal: (ts0.map fun t=> (t.tb,t.r,t.op,t.bq))= ((ts.set i t1).map fun t=> (t.tb,t.r,t.op,t.bq))) (ha':AscX (Qk ts')) (hn': (ts'.map (·.tb)).Nodup) {A:ActionD} (hA:Q_ Kj t.r.name=some A) (has: (Y_ (Q_ Kj) (Qj (Qk ts)) t.r).2= (stepOf A t1.r.at').asks) (hI:AskI Kj ts0 ws t.tb (Y_ (Q_ Kj) (Qj (Qk ts)) t.r).2 (Y_ (Q_ Kj) (Qj (Qk ts)) t.r).2 ts' ws'):
  BS Kj ts' ws'∧Qj (Qk ts')=doX (Q_ Kj) (Qj (Qk ts)) t.r.name:=by
 have ht:t∈ts:=List.mem_of_getElem? hi
 obtain ⟨h1,h2,h3⟩:=h.self ht hc
 have hlr: (Qk ts)[i]? =some t.r:=by unfold Qk;rw [List.getElem?_map,hi];rfl
 have hli:i < ts.length:= (List.getElem?_eq_some_iff.1 hi).1
 have hnm:t1.r.name=t.r.name:=by rw [hr,nextOf_name]
 have hr0:Qk ts0= (Qk ts).set i t1.r:=by rw [alike_runs hal,runs_set hli]
 have he0:Qj (Qk ts) t.r.name=some t.r:=asc_env h.good.asc (List.mem_map_of_mem ht)
 have hen0: ∀m,Qj (Qk ts0) m=if m=t.r.name then some t1.r else Qj (Qk ts) m:=fun m=> by rw [hr0];exact env_set h.good.asc hlr hnm m
 have henv:Qj (Qk ts')=doX (Q_ Kj) (Qj (Qk ts)) t.r.name:=by
  funext m
  rw [hI.env m,hen0,doX_eq he0,hr]
  by_cases e:m=t.r.name
  ·rw [if_pos e,if_pos e]
  ·rw [if_neg e,if_neg e]
   cases Qj (Qk ts) m <;> rfl
 have hg:=h.good.good t.r (List.mem_map_of_mem ht)
 have hw: (Q_ Kj t.r.name).isSome=true:=by rw [hA];rfl
 have hpo: ∀x:Qz,pend (Q_ Kj) (Qj (Qk ts')) x=pend (Q_ Kj) (Qj (Qk ts)) x:=fun x=> by
  rw [henv,pend_do he0 hc.1 hw,<-hr,if_neg (by rw [ho];simp)]
 have hpt:pend (Q_ Kj) (Qj (Qk ts')) t1.r=unans Kj ts0 (Y_ (Q_ Kj) (Qj (Qk ts)) t.r).2:=by
  unfold pend unans
  rw [if_neg (by rw [ho];simp [hv]),hnm,hA]
  simp only
  rw [has]
  congr 1
  funext a
  rw [hI.ans a]
 obtain ⟨t0,ht0,tm,htm,e1,e2,e3,e4,e5⟩:=hI.me
 obtain ⟨al1,al2⟩:=alike_mem hal
 have hr3:tm.r=t1.r∧t0.op=0∧tm.bl=t.bl∧tm.qs=t1.qs:=by
  obtain ⟨v,hv1,g1,g2,g3,g5⟩:=al1 t0 ht0
  rcases set_mem hi hn v hv1 with rfl | ⟨_,g4⟩
  ·exact ⟨by rw [e3,<-g2],by rw [<-g3,hop.1,h1],(congrArg Prod.fst (e5.trans g5.symm)).trans hop.2.1,congrArg Prod.snd (e5.trans g5.symm)⟩
  ·exact absurd (g1.trans e1) g4
 have old: ∀u∈ts',u.tb≠t.tb->(∃v∈ts,v.tb=u.tb∧v.r=u.r∧v.op=u.op∧v.bq=u.bq)∨(u.r=Qz.fresh u.r.name∧(u.op=0∧u.bq= (⟨#[]⟩,[]))∧Qj (Qk ts) u.r.name=none):=fun u hu hne=> by
  rcases hI.other u hu hne with ⟨u0,hu0,g1,g2,g3,g5⟩ | ⟨g1,g2,g3⟩
  ·obtain ⟨v,hv1,k1,k2,k3,k5⟩:=al1 u0 hu0
   rcases set_mem hi hn v hv1 with rfl | ⟨k4,_⟩
   ·exact absurd (g1.symm.trans (k1.symm.trans htb)) hne
   ·exact .inl ⟨v,k4,k1.trans g1,k2.trans g2,k3.trans g3,k5.trans g5⟩
  ·refine .inr ⟨g1,g2, ?_⟩
   rw [hen0] at g3
   split at g3
   ·cases g3
   ·exact g3
 have keep: ∀v∈ts,v.tb≠t.tb->∃u∈ts',u.tb=v.tb∧u.r=v.r:=fun v hv1 hne=> by
  obtain ⟨u0,hu0,g1,g2,_⟩:=al2 v ((set_in hi).2 v hv1 hne)
  obtain ⟨u,hu,k1,k2⟩:=hI.old u0 hu0
  exact ⟨u,hu,k1.trans g1,k2.trans g2⟩
 have hws: ∀s b,b∈ws' s↔b∈ws s∨(hasN (unans Kj ts0 (Y_ (Q_ Kj) (Qj (Qk ts)) t.r).2) s=true∧b=t.tb):=fun s b=> by
  rw [hI.wt s]
  split
  ·rename_i g;simp [g]
  ·rename_i g;simp [g]
 refine ⟨⟨⟨ha',fun x hx=> ?_⟩,fun u hu=> ?_,fun s u hu=> ?_,fun s=> ?_,fun s b hb=> ?_,fun u hu=> ?_,fun u hu=> ?_⟩,henv⟩
 rotate_right
 ·rw [henv]
  by_cases g:u.tb=t.tb
  ·have:=tb_one hn' hu htm (g.trans e2.symm)
   rw [this,hr3.1,hr3.2.2.2,hr,hop.2.2]
   exact ((h.qs t ht).unit hc).mono ⟨t.r,he0,hc⟩
  ·rcases old u hu g with ⟨v,hv1,_,g2,_,g3⟩ | ⟨g1,g2,_⟩
   ·rw [<-g2,<-show v.qs=u.qs from congrArg Prod.snd g3];exact (h.qs v hv1).mono ⟨t.r,he0,hc⟩
   ·exact QsOk.still (congrArg Prod.snd g2.2) g1
 rotate_right
 ·by_cases g:u.tb=t.tb
  ·have:=tb_one hn' hu htm (g.trans e2.symm)
   rw [this,hr3.1,hr3.2.2.1]
   exact BlOk.still ((h.bl t ht).open hc.1) ho
  ·rcases old u hu g with ⟨v,hv1,_,g2,_,g3⟩ | ⟨g1,g2,_⟩
   ·rw [<-g2,<-show v.bl=u.bl from congrArg Prod.fst g3];exact h.bl v hv1
   ·exact BlOk.still (congrArg Prod.fst g2.2) (by rw [g1];rfl)
 ·obtain ⟨u,hu,rfl⟩:=List.mem_map.1 hx
  by_cases g:u.tb=t.tb
  ·have:=tb_one hn' hu htm (g.trans e2.symm)
   rw [this,hr3.1,hr]
   exact nextOf_good hok h.good.env hg hc
  ·rcases old u hu g with ⟨v,hv1,_,g2,_⟩ | ⟨g1,_,_⟩
   ·rw [<-g2];exact h.good.good v.r (List.mem_map_of_mem hv1)
   ·have hsome: (Q_ Kj u.r.name).isSome=true:=by
     have h5:=asc_env ha' hx
     rw [hI.env] at h5
     rcases hI.other u hu g with ⟨u0,hu0,k1,k2,_⟩ | ⟨_,_,k3⟩
     ·obtain ⟨v,hv1,m1,m2,_⟩:=al1 u0 hu0
      rcases set_mem hi hn v hv1 with rfl | ⟨m4,_⟩
      ·exact absurd (k1.symm.trans (m1.symm.trans htb)) g
      ·obtain ⟨B,hB,_⟩:= (h.good.good v.r (List.mem_map_of_mem m4)).act
       rw [<-k2,<-m2,hB];rfl
     ·rw [k3] at h5
      simp only at h5
      split at h5
      ·rename_i h6;exact h6.2
      ·cases h5
    rw [g1]
    exact fresh_good hok hsome
 ·by_cases g:u.tb=t.tb
  ·have:=tb_one hn' hu htm (g.trans e2.symm)
   rw [this,hr3.1,hpt,e4,hr3.2.1,Nat.zero_add]
  ·rw [hpo]
   rcases old u hu g with ⟨v,hv1,_,g2,g3,_⟩ | ⟨g1,g2,_⟩
   ·rw [<-g2,<-g3];exact h.op v hv1
   ·rw [g1,g2.1,pend_fresh];rfl
 ·by_cases g:u.tb=t.tb
  ·have:=tb_one hn' hu htm (g.trans e2.symm)
   rw [this,hr3.1,hpt,hws,e2,hasN_iff]
   exact ⟨fun k=> by rcases k with k | k;exact absurd k (h3 s);exact k.1,fun k=> .inr ⟨k,rfl⟩⟩
  ·rw [hpo,hws]
   rcases old u hu g with ⟨v,hv1,g1,g2,g3⟩ | ⟨g1,g2,g3⟩
   ·rw [<-g1,<-g2,<-h.wt s v hv1]
    exact ⟨fun k=> by rcases k with k | ⟨_,k⟩;exact k;exact absurd (g1.symm.trans k) g,.inl⟩
   ·rw [g1,pend_fresh]
    simp only [List.not_mem_nil,iff_false]
    rintro (k | ⟨_,k⟩)
    ·obtain ⟨v,hv1,m1⟩:=h.ww s u.tb k
     obtain ⟨u2,hu2,m2,m3⟩:=keep v hv1 (fun e=> g (m1.symm.trans e))
     have:=tb_one hn' hu hu2 (m1.symm.trans m2.symm)
     have h5:=asc_env h.good.asc (List.mem_map_of_mem (f:=fun t:Zx=> t.r) hv1)
     rw [<-m3,<-this,g3] at h5
     cases h5
    ·exact g k
 ·rw [hI.wt s]
  split
  ·rw [List.nodup_append]
   exact ⟨h.wn s,by simp,fun x hx y hy e=> by rw [List.mem_singleton] at hy;rw [e,hy] at hx;exact h3 s hx⟩
  ·exact h.wn s
 ·rcases (hws s b).1 hb with k | ⟨_,k⟩
  ·obtain ⟨v,hv1,m1⟩:=h.ww s b k
   by_cases g:v.tb=t.tb
   ·exact absurd k (by rw [<-m1,g];exact h3 s)
   ·obtain ⟨u2,hu2,m2,_⟩:=keep v hv1 g
    exact ⟨u2,hu2,m2.trans m1⟩
  ·exact ⟨tm,htm,e2.trans k.symm⟩
def FinishOk (wz:World):Prop:= ∀(W:World) (give:ByteArray) (a:Option Addr) (cap:Nat) (l:List ByteArray),K_ wz W->give.size<=maxLen->l.length<=maxLen->Strs W a l->l.length<=cap->Calls Tryz.prog 161 #[.string give,.slice a l.length cap] W fun e w'=> e= .returned (.string (finB give l))∧K_ W w'
theorem BS.waiters {Kj:List Qq} (hok:ActsOk (Q_ Kj)) {ts:List Zx} {ws:ByteArray->List Nat} (h:BS Kj ts ws) (_hn: (ts.map (·.tb)).Nodup) {i:Nat} {t:Zx} (hi:ts[i]? =some t) (hc:CanGo (Q_ Kj) (Qj (Qk ts)) t.r): ∀b∈ws t.r.name,∃(j:Nat) (u:Zx),j≠i∧ts[j]? =some u∧u.tb=b∧1<=u.op∧u.op<=1000:=fun b hb=> by
 obtain ⟨u,hu,e⟩:=h.ww _ b hb
 obtain ⟨_,_,h3⟩:=h.self (List.mem_of_getElem? hi) hc
 obtain ⟨j,hj,rfl⟩:=List.getElem_of_mem hu
 have hp:= (h.wt t.r.name ts[j] hu).1 (by rw [e];exact hb)
 have ho:=h.op ts[j] hu
 refine ⟨j,ts[j],fun e2=> ?_,List.getElem?_eq_getElem hj,e, ?_, ?_⟩
 ·subst e2
  rw [List.getElem?_eq_getElem hj] at hi
  cases hi
  exact h3 _ (by rw [e];exact hb)
 ·rw [ho];exact List.length_pos_of_mem hp
 ·rw [ho]
  obtain ⟨A,hA,g0,g1⟩:= (h.good.good ts[j].r (List.mem_map_of_mem hu)).act
  have h5:= (asks_ok (hok _ _ hA).1 g0 g1).1
  unfold pend
  split
  ·exact Nat.zero_le _
  ·rw [hA]
   simp only
   have:=List.length_filter_le (fun a=> (ansOf (Q_ Kj) (Qj (Qk ts)) a).isNone) (stepOf A ts[j].r.at').asks
   omega
structure DoArr (Kj:List Qq) (σ:Env) (t t2:Zx):Prop where
 nx:Y_ (Q_ Kj) σ t.r= (if (stepOf ⟨t.cost,t.steps⟩ t2.r.at').fin=true then { t2.r with over:=true,fail:= (stepOf ⟨t.cost,t.steps⟩ t2.r.at').bad,text:=finB (stepOf ⟨t.cost,t.steps⟩ t2.r.at').give t2.r.texts } else t2.r,(stepOf ⟨t.cost,t.steps⟩ t2.r.at').asks)
 lo:0<=t2.r.at'
 hi:t2.r.at' < t.steps.length
 ov:t2.r.over=false
 vi:t2.r.Zj≠0
 nm:t2.r.name=t.r.name
theorem DoArr.first {Kj:List Qq} {σ:Env} {t t1:Zx} (h1:t1= { t with r:= { t.r with Zj:=t.r.Zj+1 } }) (hv:t.r.Zj=0) (hA:Q_ Kj t.r.name=some ⟨t.cost,t.steps⟩) (hc:CanGo (Q_ Kj) σ t.r) (h0:0<=t.r.at') (hl:t.r.at' < t.steps.length):DoArr Kj σ t t1:=by
 subst h1
 refine ⟨?_,h0,hl,hc.1,by show t.r.Zj+1≠0;omega,rfl⟩
 unfold Y_
 rw [hA]
 simp only
 rw [if_pos hv]
 rfl
theorem DoArr.gone {Kj:List Qq} {ts:List Zx} {t t2:Zx} {xs:List Xq} (hok:ActsOk (Q_ Kj)) (hgl:GoodL Kj (Qk ts)) (hgd:t.r.Good Kj) (hA:Q_ Kj t.r.name=some ⟨t.cost,t.steps⟩) (hc:CanGo (Q_ Kj) (Qj (Qk ts)) t.r) (hv:t.r.Zj≠0) (h20:t.r.Zj < 20) (hx:Yq (Q_ Kj) (Qj (Qk ts)) (stepOf ⟨t.cost,t.steps⟩ t.r.at').asks=some xs) (hg: (goOnF (stepOf ⟨t.cost,t.steps⟩ t.r.at') xs).over=false) (h2:t2.r= { t.r with Zj:=t.r.Zj+1,at':= (goOnF (stepOf ⟨t.cost,t.steps⟩ t.r.at') xs).at',texts:=t.r.texts++goodOf xs }):DoArr Kj (Qj (Qk ts)) t t2:=by
 have hnx:Y_ (Q_ Kj) (Qj (Qk ts)) t.r= (if (stepOf ⟨t.cost,t.steps⟩ t2.r.at').fin=true then { t2.r with over:=true,fail:= (stepOf ⟨t.cost,t.steps⟩ t2.r.at').bad,text:=finB (stepOf ⟨t.cost,t.steps⟩ t2.r.at').give t2.r.texts } else t2.r,(stepOf ⟨t.cost,t.steps⟩ t2.r.at').asks):=by
  unfold Y_
  rw [hA]
  simp only
  rw [if_neg hv,hx]
  simp only
  rw [if_neg (by omega),if_neg (by rw [hg];simp),h2]
  rfl
 have h3:= (nextOf_good hok hgl.env hgd hc).act
 obtain ⟨A',hA',g0,g1⟩:=h3
 rw [nextOf_name,hA] at hA'
 cases hA'
 have e: (Y_ (Q_ Kj) (Qj (Qk ts)) t.r).1.at'=t2.r.at':=by rw [hnx];simp only;split <;> rfl
 rw [e] at g0 g1
 exact ⟨hnx,g0,g1,by rw [h2];exact hc.1,by rw [h2];show t.r.Zj+1≠0;have:=hgd.lo;omega,by rw [h2]⟩
theorem step_facts {Kj:List Qq} {ts:List Zx} {t:Zx} {s:Xj} {xs:List Xq} (hok:ActsOk (Q_ Kj)) (hft: ∀y∈Kj,y.Fits) (hA:Q_ Kj t.r.name=some ⟨t.cost,t.steps⟩) (hgd:t.r.Good Kj) (hc:CanGo (Q_ Kj) (Qj (Qk ts)) t.r) (hgl:GoodL Kj (Qk ts)) (hv:t.r.Zj≠0) (hs:s=stepOf ⟨t.cost,t.steps⟩ t.r.at') (hx:Yq (Q_ Kj) (Qj (Qk ts)) s.asks=some xs):
  s.Fits∧s.fin=false∧s.asks.length<=5∧(∀x∈s.asks,x.size<=20)∧(s.asks.length≠0->0<=s.on∧s.on < s.asks.length)∧AnsOk s xs∧∀x∈xs,x.text.size<=200:=by
 obtain ⟨A',hA',h0,h1⟩:=hgd.act
 rw [hA] at hA'
 cases hA'
 have hfin:s.fin=false:=by rw [hs];exact hgd.stp _ hA hc.1 hv
 obtain ⟨g1,g2⟩:=asks_ok (hok _ _ hA).1 h0 h1
 rw [<-hs] at g1 g2
 have g3: ∀x∈s.asks,x.size<=20:=fun x hx=> (g2 x hx).2.1
 obtain ⟨a1,a2⟩:=answers_ok hgl.env g3 hx
 have hst:= (hok _ _ hA).1.2.2 t.r.at'.toNat (by dsimp only at h1⊢;omega)
 have hst2:StepOk s t.steps.length:=by rw [hs];exact hst
 have hon:= (hst2.2 hfin).1.2.2.2.2.2.2.2
 refine ⟨?_,hfin,g1,g3,fun hne=> ?_,a1,a2⟩
 ·obtain ⟨k,hk,_,_,e⟩:=acts_first hA
  simp only [ActionD.mk.injEq] at e
  have hy:=hft _ (List.getElem_mem hk)
  have hin:s∈(Kj.getD k Qq.zero).steps:=by
   rw [hs,<-e.2]
   unfold stepOf
   dsimp only at h1⊢
   have hlt:t.r.at'.toNat < t.steps.length:=by omega
   simp only [List.getD,List.getElem?_eq_getElem hlt,Option.getD_some]
   exact List.getElem_mem hlt
  simp only [List.getD,List.getElem?_eq_getElem hk,Option.getD_some] at hin
  exact hy.each s hin
 ·rcases hon with h | h
  ·rw [h];omega
  ·exact h
theorem step_ok {Kj:List Qq} {t:Zx} {s:Xj} {x:Int} (hok:ActsOk (Q_ Kj)) (hA:Q_ Kj t.r.name=some ⟨t.cost,t.steps⟩) (h0:0<=x) (h1:x < t.steps.length) (hs:s=stepOf ⟨t.cost,t.steps⟩ x):StepOk s t.steps.length:=by
 rw [hs]
 exact (hok _ _ hA).1.2.2 x.toNat (by dsimp only;omega)
theorem step_end_asks {Kj:List Qq} {t:Zx} {s:Xj} {x:Int} (hok:ActsOk (Q_ Kj)) (hA:Q_ Kj t.r.name=some ⟨t.cost,t.steps⟩) (h0:0<=x) (h1:x < t.steps.length) (hs:s=stepOf ⟨t.cost,t.steps⟩ x) (hf:s.fin=true):s.asks=[]:=
 List.length_eq_zero_iff.1 ((step_ok hok hA h0 h1 hs).1 hf).1
theorem step_give {Kj:List Qq} {t:Zx} {s:Xj} {x:Int} (hft: ∀y∈Kj,y.Fits) (hA:Q_ Kj t.r.name=some ⟨t.cost,t.steps⟩) (h0:0<=x) (h1:x < t.steps.length) (hs:s=stepOf ⟨t.cost,t.steps⟩ x):s.give.size<=maxLen:=by
 obtain ⟨k,hk,_,_,e⟩:=acts_first hA
 simp only [ActionD.mk.injEq] at e
 have hy:=hft _ (List.getElem_mem hk)
 have hin:s∈(Kj.getD k Qq.zero).steps:=by
  rw [hs,<-e.2]
  unfold stepOf
  dsimp only
  have hlt:x.toNat < t.steps.length:=by omega
  simp only [List.getD,List.getElem?_eq_getElem hlt,Option.getD_some]
  exact List.getElem_mem hlt
 simp only [List.getD,List.getElem?_eq_getElem hk,Option.getD_some] at hin
 exact (hy.each s hin).give
section
variable {G : Ghost} {Kj : List Qq} {wz w w' : World} {bb : Nat} {a : Option Addr} {cap : Nat} {rd : Option Addr} {rn rc : Nat} {mb mx : Nat} {ts : List Zx} {d : Option Addr} {dc : Nat} {f : ByteArray -> Value} {ws : ByteArray -> List Nat}
end
theorem rises_code {l:List Qq} (h:WebCode l 0):Rises l:=by
 have hn: ¬SomeFalls l:=by
  rcases h with ⟨_,e⟩ | ⟨_,_,e⟩ | ⟨_,_,_,e⟩ | ⟨_,_,_,_,e⟩ | ⟨_,_,h3,_,_⟩
  ·omega
  ·omega
  ·omega
  ·omega
  ·exact h3
 refine rises_of fun i hi=> ?_
 cases hq:Op.bytesLess (nameAt l i) (nameAt l (i+1))
 ·exact absurd ⟨i,hi,hq⟩ hn
 ·rfl
structure BegI (Kj:List Qq) (L:List ByteArray) (ts:List Zx):Prop where
 env: ∀n,Qj (Qk ts) n=if hasN L n=true∧(Q_ Kj n).isSome=true then some (Qz.fresh n) else none
 fr: ∀t∈ts,t.r=Qz.fresh t.r.name∧t.op=0∧t.bq= (⟨#[]⟩,[])
theorem BegI.nil (Kj:List Qq):BegI Kj [] []:= ⟨fun n=> by rw [if_neg (by simp [hasN])];rfl,fun t h=> by cases h⟩
theorem BegI.want {Kj:List Qq} {L:List ByteArray} {ts ts':List Zx} {n:ByteArray} (h:BegI Kj L ts) (ha:AscX (Qk ts)) (ha':AscX (Qk ts')) (hw:WantR Kj ts n ts'):BegI Kj (L++ [n]) ts':=by
 have hL: ∀m,hasN (L++ [n]) m=true↔hasN L m=true∨m=n:=fun m=> by simp [hasN_iff]
 rcases hw with ⟨rfl,hw⟩ | ⟨p,new,rfl,hr,hop,hno,hsome⟩
 ·refine ⟨fun m=> ?_,h.fr⟩
  rw [h.env m]
  by_cases hc:hasN L m=true∧(Q_ Kj m).isSome=true
  ·rw [if_pos hc,if_pos ⟨(hL m).2 (.inl hc.1),hc.2⟩]
  ·rw [if_neg hc,if_neg]
   rintro ⟨h1,h2⟩
   rcases (hL m).1 h1 with g | g
   ·exact hc ⟨g,h2⟩
   ·subst g
    rcases hw with hw | ⟨t,ht,e⟩
    ·rw [hw] at h2;cases h2
    ·have:=h.env m
     rw [if_neg hc] at this
     exact env_none_iff.1 this t ht e
 ·have hmem: ∀u,u∈ts.take p++new :: ts.drop p↔u=new∨u∈ts:=fun u=> by
   rw [List.mem_append,List.mem_cons]
   constructor
   ·rintro (h | h | h)
    ·exact .inr (List.mem_of_mem_take h)
    ·exact .inl h
    ·exact .inr (List.mem_of_mem_drop h)
   ·rintro (h | h)
    ·exact .inr (.inl h)
    ·rw [<-List.take_append_drop p ts] at h
     rcases List.mem_append.1 h with h | h
     ·exact .inl h
     ·exact .inr (.inr h)
  refine ⟨fun m=> ?_,fun u hu=> ?_⟩
  ·by_cases e:m=n
   ·subst e
    rw [if_pos ⟨(hL m).2 (.inr rfl),hsome⟩]
    have:=asc_env ha' (r:=new.r) (List.mem_map_of_mem ((hmem new).2 (.inl rfl)))
    rw [hr] at this
    exact this
   ·have e1:Qj (Qk (ts.take p++new :: ts.drop p)) m=Qj (Qk ts) m:=by
     cases h1:Qj (Qk ts) m with
     | some x=>
      obtain ⟨g1,g2⟩:=env_mem h1
      obtain ⟨u,hu,rfl⟩:=List.mem_map.1 g1
      have:=asc_env ha' (r:=u.r) (List.mem_map_of_mem ((hmem u).2 (.inr hu)))
      rw [g2] at this
      exact this
     | none=>
      rw [env_none_iff] at h1⊢
      intro u hu
      rcases (hmem u).1 hu with rfl | hu
      ·rw [hr];exact fun e2=> e e2.symm
      ·exact h1 u hu
    rw [e1,h.env m]
    by_cases hc:hasN L m=true∧(Q_ Kj m).isSome=true
    ·rw [if_pos hc,if_pos ⟨(hL m).2 (.inl hc.1),hc.2⟩]
    ·rw [if_neg hc,if_neg]
     rintro ⟨h1,h2⟩
     rcases (hL m).1 h1 with g | g
     ·exact hc ⟨g,h2⟩
     ·exact e g
  ·rcases (hmem u).1 hu with rfl | hu
   ·exact ⟨by rw [hr];rfl,hop⟩
   ·exact h.fr u hu
theorem BegI.done {Kj:List Qq} {Kk:List ByteArray} {ts:List Zx} (h:BegI Kj Kk ts) (hok:ActsOk (Q_ Kj)) (ha:AscX (Qk ts)):BS Kj ts (fun _=> [])∧Qj (Qk ts)=Qj (startL Kj Kk):=by
 refine ⟨⟨⟨ha,fun r hr=> ?_⟩,fun t ht=> ?_,fun s t ht=> ?_,fun _=> List.nodup_nil,fun s b hb=> (by cases hb),fun t ht=> BlOk.still (congrArg Prod.fst (h.fr t ht).2.2) (by rw [(h.fr t ht).1];rfl),fun t ht=> QsOk.still (congrArg Prod.snd (h.fr t ht).2.2) (h.fr t ht).1⟩, ?_⟩
 ·have h1:=asc_env ha hr
  rw [h.env] at h1
  split at h1
  ·rename_i h2
   have e2:Qz.fresh r.name=r:=Option.some.inj h1
   rw [<-e2]
   exact fresh_good hok h2.2
  ·cases h1
 ·obtain ⟨h1,h2⟩:=h.fr t ht
  rw [h1,pend_fresh,h2.1]
  rfl
 ·obtain ⟨h1,_⟩:=h.fr t ht
  rw [h1,pend_fresh]
  simp
 ·funext n
  rw [h.env n,startL_env]
theorem BM.begun {Kj:List Qq} {w3:World} {a:Option Addr} {cap:Nat} {rd:Option Addr} {rn rc:Nat} (hrb:RowT ((w3.alloc (.map #[] 0)).alloc (.cells #[.slice a Kj.length cap,.func (.func 97) #[] #[],.slice rd rn rc,.slice none 0 0,.func (.func 112) #[] #[],.map (some w3.heap.size)] 131)) (w3.heap.size+1) 131 6) (hcb: ((w3.alloc (.map #[] 0)).alloc (.cells #[.slice a Kj.length cap,.func (.func 97) #[] #[],.slice rd rn rc,.slice none 0 0,.func (.func 112) #[] #[],.map (some w3.heap.size)] 131)).rangeAt (w3.heap.size+1) 0 [.slice a Kj.length cap,.func (.func 97) #[] #[],.slice rd rn rc,.slice none 0 0,.func (.func 112) #[] #[],.map (some w3.heap.size)]):
  BM (Ghost.no w3) Kj w3 ((w3.alloc (.map #[] 0)).alloc (.cells #[.slice a Kj.length cap,.func (.func 97) #[] #[],.slice rd rn rc,.slice none 0 0,.func (.func 112) #[] #[],.map (some w3.heap.size)] 131)) (w3.heap.size+1) a cap rd rn rc w3.heap.size 0 [] none 0 (fun _=> .slice none 0 0) (fun _=> []):=
 ⟨((K_.refl _).alloc _).alloc _,hrb,hcb 0 _ rfl,hcb 1 _ rfl,hcb 2 _ rfl,hcb 3 _ rfl,hcb 4 _ rfl,hcb 5 _ rfl,Nat.le_succ _,World.ownsRow_nil _ _ _ _,fun t h=> (by cases h),fun t h=> (by cases h),List.Pairwise.nil,List.nodup_nil,List.Pairwise.nil,fun t h=> (by cases h),⟨0,.map [],Nat.le_refl _,(World.ownsMap_made w3 Tryz.prog 9 asIs).alloc _,fun s _=> rfl⟩,Nat.le_refl _,fun s=> World.ownsRow_nil _ _ _ _,fun s s' _ x h=> (by cases h),fun s x h=> (by cases h),fun t h=> (by cases h),Fen.no (by simp only [World.size_alloc];omega)⟩
