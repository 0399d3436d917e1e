import Derived.Test.YtbmhchdegdjfkaaGreatDoorKBEnd
import Derived.Test.YtbmhchdegdjfkaaGreatDoorKVNeeds
set_option maxRecDepth 100000
set_option maxHeartbeats 25600000
namespace Go.Proofs.YtbmhchdegdjfkaaGreatDoor
open Go.RowKit Go.Proofs.Tryz
variable {tb : Nat}
section
variable {G : bX} {Kq : List Qq} {wz w w' : LP} {bb : Nat} {a : LM} {cap : Nat} {rd : LM} {rn rc : Nat} {mb mx : Nat} {ts : List Zx} {d : LM} {dc : Nat} {f : LK -> LQ} {ws : LK -> List Nat}
theorem BM.qa(h:BM G Kq wz w bb a cap rd rn rc mb mx ts d dc f ws){s:LK}(i:s.size<=maxLen){w1:LP}(k:w.grownBy w1 (f s).ownBlock):(Instr.lookup 110 (.map (some mb)) (.string s) false).run prog w1= .ok (f s) w1:=by
 obtain⟨N,D,_,j,l⟩:=h.map;have m:w1.ownsMap prog 9 asIs mb N D:=il (S:=fun b=>(f s).ownBlock=some b) j (But.aI k (fun b e=>e)) (fun e=>gL j (Yz (h.eT s) e) rfl);obtain⟨v,q,n,c⟩:=m.lookup Tryz.keyed underlying110 (Tryz.IP w1) (zd:= .held (.slice none 0 0)) (zp:=[]) rfl (WideMaps.keyOf_string_mk underlying9 i);have e:=l s i;unfold asIs at c;simp only[KT,Prod.mk.injEq] at c;have p:(DataW.held v:DataW LQ)= .held (f s):=c.1.trans e;cases p;exact n
theorem BM.wait(h:BM G Kq wz w bb a cap rd rn rc mb mx ts d dc f ws){s:LK}(M:s.size<=maxLen){w1:LP}{r:LQ}(I:w1.ownsRow wz.heap.size 103 1 r ((ws s).length+1) ((ws s).map vY++ [vY tb]))(N:w.grownBy w1 (f s).ownBlock)(B:∀g,r.ownBlock=some g->(f s).ownBlock=some g\/w.heap.size<=g)(X:mx<=1000000):
  ∃w2,(Instr.mapUpdate 110 (.map (some mb)) (.string s) r).run prog w1= .ok () w2/\BM G Kq wz w2 bb a cap rd rn rc mb (mx+1) ts d dc (fun n=>if n=s then r else f n) (fun n=>if n=s then ws s++ [tb] else ws n):=by
 obtain⟨O,P,Y,v,Q⟩:=h.map;have J:But (fun b=>(f s).ownBlock=some b) w w1:=But.aI N (fun b e=>e);have K:=il v J (fun e=>gL v (Yz (h.eT s) e) rfl);obtain⟨w2,R,S,L⟩:=K.update Tryz.keyed underlying110 (by unfold maxLen;omega) (WideMaps.keyOf_string_mk underlying9 M) (d:= .held r) (ps:=[]) rfl;refine⟨w2,R, ?_⟩;have j:But (fun b=>(f s).ownBlock=some b\/b=mb) w w2:=(J.mono (fun b _ e=>.inl e)).trans (But.aI L (fun b e=>.inr (Lf e).symm));have T:But (fun b=>b=mb) w1 w2:=But.aI L (fun b e=>(Lf e).symm);have ne:∀{b:Nat} {t:TypeId},df w b t->t≠103->¬((f s).ownBlock=some b\/b=mb):=fun C F e=>by
  rcases e with e|e
  ·exact bi C (Yz (h.eT s) e) F rfl
  ·exact gL v C e
 have U:∀{b:Nat} {t:TypeId},df w1 b t->¬b=mb:=fun C e=>gL K C e
 have y:=h.row.lt;have m:=ne h.row.type (by decide);have V:Maps.IsMap P:=by obtain⟨Z,a0,_,_,_,rfl⟩:=v;exact⟨_,rfl⟩
 have W:Fen G w2 bb mb ts (fun n=>if n=s then r else f n):=by
  have p:=h.oth.but j (fun b e=>by
   rcases e with e|e
   ·exact h.oth.nf s b e
   ·rw[e];exact h.oth.nm)
  refine⟨p.size,p.lt,p.same,p.nb,p.nm,p.nt,fun n x c=>?_,p.has⟩;by_cases e:n=s
  ·simp only[Lt e] at c;rcases B x c with g|g
   ·exact h.oth.nf s x g
   ·exact h.oth.far g
  ·simp only[Lu e] at c;exact h.oth.nf n x c
 refine⟨j.kept h.kw (fun b e=>?_),j.row h.row m,(j.cell y m).trans h.c0,(j.cell y m).trans h.c1,(j.cell y m).trans h.c2,(j.cell y m).trans h.c3,(j.cell y m).trans h.c4,(j.cell y m).trans h.c5,h.low,j.owns h.items (fun b e i=>?_),fun t A=>(h.fO t A).but j (ne (h.fO t A).row.type (by decide)) (fun x c=>ne ((h.fO t A).dZ c).1 (by decide)),h.act,h.asc,h.tbs,h.sep,h.xB,⟨O+1,_,by omega,S,fun n F=>?_⟩,h.zK,fun n=>?_,fun n D H x c q=>?_,fun n x c e=>?_,fun t A=>JS (h.qb t A) (by omega),W,h.gi⟩
 ·rcases e with e|e
  ·exact ((h.eT s).lt b e).1
  ·rw[e];exact h.zK
 ·rcases i with i|i
  ·exact h.zH s b i e
  ·exact gL v (Yz h.items e) i
 ·by_cases e:n=s
  ·rw[Lt e,e];exact Maps.atKey_put_same (k:=dw s) V (by show WideAt.IsKeyLit (.string _);exact trivial) _ _
  ·rw[Lu e,<-Q n F];exact Maps.atKey_put_other (jD e) _ _
 ·by_cases e:n=s
  ·simp only[Lt e];have E:(ws s++ [tb]).length= (ws s).length+1:=by simp
   have i:(ws s++ [tb]).map vY= (ws s).map vY++ [vY tb]:=by simp
   rw[E,i];exact T.owns I (fun b e=>U (Yz I e))
  ·simp only[Lu e];refine j.owns (h.eT n) (fun b E i=>?_);rcases i with i | i
   ·exact h.xA n s e b E i
   ·exact gL v (Yz (h.eT n) E) i
 ·by_cases e:n=s
  ·rw[Lt e] at c;rw[Lu (fun l=>H (e.trans l.symm))] at q;rcases B x c with g | g
   ·exact h.xA s D (fun l=>H (e.trans l)) x g q
   ·have:=((h.eT D).lt x q).2;omega
  ·rw[Lu e] at c;by_cases l:D=s
   ·rw[Lt l] at q;rcases B x q with g|g
    ·exact h.xA n s e x c g
    ·have:=((h.eT n).lt x c).2;omega
   ·rw[Lu l] at q;exact h.xA n D H x c q
 ·by_cases l:n=s
  ·rw[Lt l] at c;rcases B x c with g|g
   ·exact h.zH s x g e
   ·have:=(h.items.lt x e).2;omega
  ·rw[Lu l] at c;exact h.zH n x c e
end
def jS(Kq:List Qq)(ts:List Zx)(l:List LK):List LK:=l.filter fun a=>(bP (Q_ Kq) (Qj (Qk ts)) a).isNone
structure nX (Kq:List Qq) (ts0:List Zx) (ws0:LK->List Nat) (tb:Nat) (L1 L2:List LK) (ts:List Zx) (ws:LK->List Nat):Prop where
 env:∀n,Qj (Qk ts) n=match Qj (Qk ts0) n with | some x=>some x | none=>if dW L1 n=true/\(Q_ Kq n).isSome=true then some (Qz.fresh n) else none
 me:∃t0∈ts0,∃t∈ts,t0.tb=tb/\t.tb=tb/\t.r=t0.r/\t.op=t0.op+ (jS Kq ts0 L2).length/\t.bq=t0.bq
 other:∀t∈ts,t.tb≠tb->(∃t0∈ts0,t0.tb=t.tb/\t0.r=t.r/\t0.op=t.op/\t0.bq=t.bq)\/(t.r=Qz.fresh t.r.name/\(t.op=0/\t.bq= (⟨#[]⟩,[]))/\Qj (Qk ts0) t.r.name=none)
 old:∀t0∈ts0,∃t∈ts,t.tb=t0.tb/\t.r=t0.r
 wt:∀s,ws s=if dW (jS Kq ts0 L2) s=true then ws0 s++ [tb] else ws0 s
variable {ws0 : LK -> List Nat} {Kq : List Qq} {ts0 : List Zx}
theorem nX.start{t:Zx}(h:t∈ts0):nX Kq ts0 ws0 t.tb [] [] ts0 ws0:=
 ⟨fun n=>by cases Qj (Qk ts0) n <;> simp[dW],⟨t,h,t,h,rfl,rfl,rfl,rfl,rfl⟩,fun u a _=>.inl ⟨u,a,rfl,rfl,rfl,rfl⟩,fun u a=>⟨u,a,rfl,rfl⟩,fun s=>by simp[jS,dW]⟩
variable {n : LK} {ts : List Zx}
theorem iE :Qj (Qk ts) n=none↔∀t∈ts,t.r.name≠n:=by
 unfold Qj;rw[List.find?_eq_none];simp[Qk]
variable {ws : LK -> List Nat} {L1 L2 : List LK}
theorem nX.want{k:List Zx}(h:nX Kq ts0 ws0 tb L1 L2 ts ws)(N:cO (Qk ts))(v:cO (Qk k))(w:(k.map (·.tb)).Nodup)(f:FL Kq ts n k):nX Kq ts0 ws0 tb (L1++ [n]) L2 k ws:=by
 have i:∀m,dW (L1++ [n]) m=true↔dW L1 m=true\/m=n:=fun m=>by simp[dY]
 rcases f with⟨rfl,f⟩|⟨p,new,rfl,l,A,B,C⟩
 ·refine⟨fun m=>?_,h.me,h.other,h.old,h.wt⟩;rw[h.env m];cases q:Qj (Qk ts0) m with
  | some x=>rfl
  | none=>
   simp only;by_cases e:m=n
   ·subst e;rcases f with f|⟨t,D,e⟩
    ·rw[Lu (by rw[f];simp),Lu (by rw[f];simp)]
    ·by_cases a:dW L1 m=true/\(Q_ Kq m).isSome=true
     ·rw[Lt a,Lt ⟨(i m).2 (.inl a.1),a.2⟩]
     ·have:=h.env m;rw[q] at this;simp only at this;rw[Lu a] at this;exact Lv e (iE.1 this t D)
   ·by_cases a:dW L1 m=true/\(Q_ Kq m).isSome=true
    ·rw[Lt a,Lt ⟨(i m).2 (.inl a.1),a.2⟩]
    ·rw[Lu a,Lu];rintro⟨c,d⟩;rcases (i m).1 c with g|g
     ·exact a ⟨g,d⟩
     ·exact e g
 ·have j:∀u,u∈ts.take p++new :: ts.drop p↔u=new\/u∈ts:=fun u=>by
   rw[JZ,Lb];constructor
   ·rintro (h|h|h)
    ·exact .inr (List.mem_of_mem_take h)
    ·exact .inl h
    ·exact .inr (List.mem_of_mem_drop h)
   ·rintro (h|h)
    ·exact .inr (.inl h)
    ·rw[<-Lj p ts] at h;rcases JZ.1 h with h|h
     ·exact .inl h
     ·exact .inr (.inr h)
  have E:Qj (Qk ts) n=none:=iE.2 B;have y:Qj (Qk ts0) n=none:=by
   have:=h.env n;rw[E] at this;cases q:Qj (Qk ts0) n with
   | none=>rfl
   | some x=>rw[q] at this;cases this
  have F:∀m,Qj (Qk (ts.take p++new :: ts.drop p)) m=if m=n then some (Qz.fresh n) else Qj (Qk ts) m:=fun m=>by
   by_cases e:m=n
   ·rw[Lt e,e];have:=bI v (r:=new.r) (Le ((j new).2 (.inl rfl)));rw[l] at this;exact this
   ·rw[Lu e];cases c:Qj (Qk ts) m with
    | some x=>
     obtain⟨G,H⟩:=bF c;obtain⟨u,b,rfl⟩:=Ku.1 G;have:=bI v (r:=u.r) (Le ((j u).2 (.inr b)));rw[H] at this;exact this
    | none=>
     rw[iE] at c⊢;intro u b;rcases (j u).1 b with rfl|b
     ·rw[l];exact fun I=>e I.symm
     ·exact c u b
  have O:∀u∈ts,u.tb≠new.tb:=fun u b e=>by
   have J:(ts.take p++new :: ts.drop p).map (·.tb)= (ts.take p).map (·.tb)++new.tb :: (ts.drop p).map (·.tb):=by simp
   rw[J] at w;have d:=List.nodup_append.1 w;rw[<-Lj p ts] at b;rcases JZ.1 b with b|b
   ·exact d.2.2 _ (Le b) _ (by simp) e
   ·exact (List.nodup_cons.1 d.2.1).1 (by rw[<-e];exact Le b)
  refine⟨fun m=>?_, ?_,fun u b K=>?_,fun s L=>?_,h.wt⟩
  ·rw[F m];by_cases e:m=n
   ·rw[Lt e,e,y];simp only;rw[Lt ⟨(i n).2 (.inr rfl),C⟩]
   ·rw[Lu e,h.env m];cases q:Qj (Qk ts0) m with
    | some x=>rfl
    | none=>
     simp only;by_cases a:dW L1 m=true/\(Q_ Kq m).isSome=true
     ·rw[Lt a,Lt ⟨(i m).2 (.inl a.1),a.2⟩]
     ·rw[Lu a,Lu];rintro⟨c,d⟩;rcases (i m).1 c with g|g
      ·exact a ⟨g,d⟩
      ·exact e g
  ·obtain⟨s,c,t,d,M⟩:=h.me;exact⟨s,c,t,(j t).2 (.inr d),M⟩
  ·rcases (j u).1 b with rfl|b
   ·exact .inr ⟨by rw[l];rfl,A,by rw[l];exact y⟩
   ·exact h.other u b K
  ·obtain⟨t,c,d⟩:=h.old s L;exact⟨t,(j t).2 (.inr c),d⟩
theorem nX.ans(h:nX Kq ts0 ws0 tb L1 L2 ts ws)(n:LK):bP (Q_ Kq) (Qj (Qk ts)) n=bP (Q_ Kq) (Qj (Qk ts0)) n:=by
 unfold bP;cases b:Q_ Kq n with
 | none=>rfl
 | some A=>
  simp only;rw[h.env n];cases c:Qj (Qk ts0) n with
  | some x=>rfl
  | none=>
   simp only
   split
   ·rename_i r hr
    split at hr
    ·cases hr;rfl
    ·cases hr
   ·rfl
theorem nX.skip(h:nX Kq ts0 ws0 tb L1 L2 ts ws)(b:(bP (Q_ Kq) (Qj (Qk ts0)) n).isSome=true):nX Kq ts0 ws0 tb L1 (L2++ [n]) ts ws:=by
 have e:jS Kq ts0 (L2++ [n])=jS Kq ts0 L2:=by
  unfold jS;rw[List.filter_append];cases d:bP (Q_ Kq) (Qj (Qk ts0)) n with
  | none=>rw[d] at b;cases b
  | some x=>simp[d]
 exact⟨h.env,by rw[e];exact h.me,h.other,h.old,by rw[e];exact h.wt⟩
theorem nX.wait(h:nX Kq ts0 ws0 tb L1 L2 ts ws)(F:bP (Q_ Kq) (Qj (Qk ts0)) n=none)(G:n∉L2){i:Nat}{t t':Zx}(H:ts[i]? =some t)(l:t.tb=tb)(C:(ts.map (·.tb)).Nodup)(x:t'.tb=tb)(y:t'.r=t.r)(I:t'.op=t.op+1)(A:t'.bq=t.bq):nX Kq ts0 ws0 tb L1 (L2++ [n]) (ts.set i t') (fun m=>if m=n then ws n++ [tb] else ws m):=by
 obtain⟨c,rfl⟩:=JW.1 H;have e:jS Kq ts0 (L2++ [n])=jS Kq ts0 L2++ [n]:=by
  unfold jS;rw[List.filter_append];simp[F]
 have J:n∉jS Kq ts0 L2:=fun h=>G (List.mem_filter.1 h).1
 have K:Qk (ts.set i t')=Qk ts:=by
  rw[nL c,y];have A:ts[i].r= (Qk ts)[i]'(by simpa[Qk] using c):=by simp[Qk]
  rw[A,List.set_getElem_self]
 have mem:∀u∈ts.set i t',u=t'\/(u∈ts/\u.tb≠tb):=fun u a=>by
  obtain⟨j,b,rfl⟩:=Kb a;rw[Lp] at b;rw[LJ]
  split
  ·exact .inl rfl
  ·rename_i f
   refine .inr ⟨J_ b,fun e=>?_⟩;have p:=Ka.1 C;rcases Nat.lt_or_gt_of_ne f with g | g
   ·have:=p i j (by simpa using c) (by simpa using b) g;simp at this;exact this (l.trans e.symm)
   ·have:=p j i (by simpa using b) (by simpa using c) g;simp at this;exact this (e.trans l.symm)
 have one:∀u∈ts,u.tb=tb->u=ts[i]:=fun u a e=>by
  obtain⟨j,b,rfl⟩:=Kb a;by_cases D:i=j
  ·subst D;rfl
  ·have p:=Ka.1 C;rcases Nat.lt_or_gt_of_ne D with g|g
   ·have:=p i j (by simpa using c) (by simpa using b) g;simp at this;exact Lv (l.trans e.symm) this
   ·have:=p j i (by simpa using b) (by simpa using c) g;simp at this;exact Lv (e.trans l.symm) this
 have E:t'∈ts.set i t':=List.mem_iff_getElem.2 ⟨i,by rw[Lp];exact c,by simp⟩;have keep:∀u∈ts,u.tb≠tb->u∈ts.set i t':=fun u a f=>by
  obtain⟨j,b,rfl⟩:=Kb a;refine List.mem_iff_getElem.2 ⟨j,by rw[Lp];exact b, ?_⟩;rw[LJ,Lu (fun e=>f (by subst e;exact l))]
 refine⟨by rw[K];exact h.env, ?_,fun u a f=>?_,fun B L=>?_,fun s=>?_⟩
 ·obtain⟨B,q,t,v,w,M,k,N,O⟩:=h.me;have:=one t v M;subst this;exact⟨B,q,t',E,w,x,by rw[y,k],by rw[I,N,e];simp;omega,A.trans O⟩
 ·rcases mem u a with rfl|⟨a,_⟩
  ·exact Lv x f
  ·exact h.other u a f
 ·obtain⟨t,q,v,w⟩:=h.old B L;by_cases d:t.tb=tb
  ·have:=one t q d;subst this;exact⟨t',E,by rw[x,<-d,v],by rw[y,w]⟩
  ·exact⟨t,keep t q d,v,w⟩
 ·rw[e];by_cases d:s=n
  ·subst d;rw[Lt rfl,Lt (dY.2 (by simp)),h.wt s,Lu (fun g=>J (dY.1 g))]
  ·rw[Lu d,h.wt s];by_cases k:dW (jS Kq ts0 L2) s=true
   ·rw[Lt k,Lt (dY.2 (JZ.2 (.inl (dY.1 k))))]
   ·rw[Lu k,Lu (fun g=>by
     rcases JZ.1 (dY.1 g) with g|g
     ·exact k (dY.2 g)
     ·exact d (JY.1 g))]
section
variable {G : bX} {Kq : List Qq} {wz w w' : LP} {bb : Nat} {a : LM} {cap : Nat} {rd : LM} {rn rc : Nat} {mb mx : Nat} {ts : List Zx} {d : LM} {dc : Nat} {f : LK -> LQ} {ws : LK -> List Nat}
theorem BM.len(h:BM G Kq wz w bb a cap rd rn rc mb mx ts d dc f ws)(j:Kq.length<=60):ts.length<=60:=by
 have b:=List.Nodup.length_le_of_subset (xX h.asc) (l₂:=Kq.map (·.name)) (fun n c=>by
  obtain⟨r,e,rfl⟩:=Ku.1 c;obtain⟨t,i,rfl⟩:=Ku.1 e;exact qK (by rw[(h.act t i).1];rfl))
 simp[Qk] at b;omega
def IU(G:bX)(Kq:List Qq)(wz:LP)(bb:Nat)(a:LM)(cap:Nat)(rd:LM)(rn rc mb mx:Nat)(ts0:List Zx)(ws0:LK->List Nat)(i:Nat)(t:Zx)(asks:List LK)(w':LP):Prop:=
 ∃(ts0' ts:List Zx) (d:LM) (dc:Nat) (f:LK->LQ) (ws:LK->List Nat),(ts0'.map fun t=>(t.tb,t.r,t.op,t.bq))= ((ts0.set i {t with qs:=t.qs++asks.map Value.string}).map fun t=>(t.tb,t.r,t.op,t.bq))/\BM G Kq wz w' bb a cap rd rn rc mb (mx+6) ts d dc f ws/\nX Kq ts0' ws0 t.tb asks asks ts ws
theorem yJ(H:BM G Kq wz w bb a cap rd rn rc mb mx ts d dc f ws){i:Nat}{t:Zx}(S:ts[i]? =some t)(aa:LM)(ca:Nat)(asks:List LK)(f3:asks.length<=5)(f4:∀x∈asks,x.size<=20)(f5:asks.Nodup)(hA:Strs wz aa asks)(j4:mx<=100000)(c4:Kq.length<=60)(f6:fE Kq)(hN:bN wz a Kq)(_hww:∀s b,b∈ws s->∃t∈ts,t.tb=b)(f7:∀s,(ws s).length<=1000)(f8:t.op<=1000):
  Calls prog 143 #[.pointer (some ⟨bb,0,none⟩),.pointer (some ⟨t.tb,0,none⟩),.slice aa asks.length ca] w fun e w'=>e= .returned (.tuple #[])/\IU G Kq wz bb a cap rd rn rc mb mx ts ws i t asks w':=by
 obtain⟨is,f9,g0,g2,g3⟩:=aQ Tryz.bY;obtain⟨ip,g4,g5,g6,g7⟩:=aQ Tryz.v_;have T:=H.at S;have g8:w.cell? ⟨t.tb,10,none⟩=some t.qv:=T.rng 10 _ rfl;have tz:=T.row.lt;have g9:=H.qb t (Kg S);have c6:=H.kw.size;have⟨HB,HI,I⟩:=dK H S T;clear H S T;go_enter func143,ntmps143
 go_wp2_with (at_builtin;refine fI rfl (.tmp 14) (.tmp 15) 26 rfl wz.heap.size 9 is _ 16 underlying26 f9 g0 g2 g3 rfl t.qv t.qs.length t.qs rfl I.o.ask aa ca asks rfl (hA.kept HB.o.kw) (by unfold maxLen;omega) (by omega) c6 ?_;intro v1 w1 a4 a5 c7;obtain⟨a6,a7,rfl⟩:=ax a4;have c8:w1.heap[t.tb]? =w.heap[t.tb]? :=a5.block _ tz (fun e=>bi I.o.row.type (Yz I.o.ask e.symm) (by decide) rfl);have a8:=I.o.row.block c8;obtain⟨⟨_,h0⟩,h3⟩:=a8.row.at (i:=10) (by omega);have h5:=a8.lt;have J:=Kz (HB.o.asked HI.o (l:=asks.map Value.string) (by rw[Lm];exact a4) a5 c7 (by simpa using f3));clear a4 a5 c7 c8 a8)
 obtain⟨E,a9⟩:=aj asks.length;obtain⟨B,U⟩:=aj (ts.set i {t with qv:= .slice a6 (t.qs.length+asks.length) a7,qs:=t.qs++asks.map Value.string});rw[<-U] at J;have h6:Hid ((B.map fun t=>(t.tb,t.r,t.op,t.bq))= ((ts.set i {t with qs:=t.qs++asks.map Value.string}).map fun t=>(t.tb,t.r,t.op,t.bq))):=by
  show _=_;rw[U,List.map_set,List.map_set]
  rfl
 have h7:Hid (B.map (·.tb)).Nodup:=J.o.tbs;have V:Hid (∃u∈B,u.tb=t.tb/\u.op=t.op):=by
  obtain⟨hl,rfl⟩:=JW.1 HI.o;exact⟨{ts[i] with qv:= .slice a6 (ts[i].qs.length+asks.length) a7,qs:=ts[i].qs++asks.map Value.string},by rw[U];exact List.mem_iff_getElem.2 ⟨i,by rw[Lp];exact hl,by rw[List.getElem_set_self]⟩,rfl,rfl⟩
 obtain⟨W1,c9⟩:=aj (w1.setCell ⟨t.tb,10,none⟩ (.slice a6 (t.qs.length+asks.length) a7));rw[<-c9] at J⊢;obtain⟨tb,b0⟩:=aj t.tb;rw[<-b0] at V⊢;have h8:=Kz b0;have h9:t.op<=1000:=f8;obtain⟨i0,d0⟩:=aj t.op;rw[<-d0] at V h9;have b1:=Kz a9;rw[<-a9];have j5:E<=5:=by omega
 clear c9 U b0 h0 h3 h5 g8 tz I HI HB g9 c6 d0 a9;go_wp2
 go_loopw [21] (fun x wr=>∃(k:Nat) (W:List Zx) (d2:LM) (b2:Nat) (F:LK->LQ) (p:LK->List Nat),k<=E/\x= .int .i64 k/\BM G Kq wz wr bb a cap rd rn rc mb (mx+1+k) W d2 b2 F p/\nX Kq B ws tb (asks.take k) (asks.take k) W p) (fun x _=>E-(intOf x).toNat)
 case atStart=>
  obtain⟨u,c,X,_⟩:=V.o;exact⟨0,B,d,dc,f,ws,JR _,rfl,J.o,by rw[<-X];exact nX.start c⟩
 case round=>
  clear J;obtain⟨k,W,d2,b2,F,p,hk,rfl,L,Y⟩:=hrel;by_cases j6:k<E;rotate_left
  ·obtain rfl:k=E:=by omega
   have Z:asks.take k=asks:=by rw[b1.o];exact KI
   rw[Z] at Y;go_wp2
   go_end0
   exact⟨rfl,B,W,d2,b2,F,p,h6.o,L.more (by omega),by rw[<-h8.o];exact Y⟩
  obtain⟨n,M⟩:∃n,asks[k]? =some n:=⟨_,JV (by have:=b1.o;omega)⟩;have i1:n∈asks:=Kg M;have j7:=f4 n i1;have Z:asks.take (k+1)=asks.take k++ [n]:=by
   obtain⟨h1,h2⟩:=JW.1 M;rw[JX h1,h2]
  have d1:n∉asks.take k:=fun h=>by
   obtain⟨h1,h2⟩:=JW.1 M;obtain⟨q,hq,e⟩:=Kb h;rw[Kt] at hq;rw[KM] at e;exact Ka.1 f5 q k (by omega) h1 (by omega) (e.trans h2.symm)
  obtain⟨b,o,rfl,i2,d4⟩:=hA k (by have:=b1.o;omega);have c0:wr.cell? ⟨b,o+k,none⟩=some (.string n):=by
   rw[L.kw.cell i2,d4];simp[List.getD,M]
  have j8:=L.len c4;have j9:(k:Int)<(E:Int):=by omega
  have⟨d5,i3,d6,i4⟩:=lg Z d1 L Y;clear M Z d1 d4 L Y;go_wp2_with fail
  refine (tu d6.o n (by omega) (by omega) f6 hN).mono ?_;rintro e w3 ⟨rfl,N,d3,b3,O,b4⟩;have k0:=O.len c4;have P:=Kz (i4.o.want d6.o.asc O.asc O.tbs b4);have i5:Hid ((∃t∈N,t.r.name=n)\/Q_ Kq n=none):=by
   rcases b4 with⟨rfl,h|h⟩|⟨k1,new,rfl,hr,_⟩
   ·exact .inr h
   ·exact .inl h
   ·exact .inl ⟨new,JZ.2 (.inr (by simp)),by rw[hr];rfl⟩
  have d7:=Kz O;clear O b4 c0;go_wp2_with fail
  refine (mU d7.o n (by omega) (by omega) i5.o).mono ?_;rintro e w4 ⟨⟨fa,tx,ok,rfl,b5⟩,k4⟩;rw[P.o.ans n] at b5;have d8:=Kz b5;have b6:=Kz (d7.o.kept k4);clear b5;cases ok;rotate_left
  ·go_wp2
   go_roundw
   case rel=>exact⟨k+1,N,d3,b3,F,p,by omega,by go_num,(b6.o.more (by omega)).kept (ag _ _),by rw[d5.o];exact P.o.skip (by rw[d8.o];rfl)⟩
   case measure=>simp[intOf];omega
  obtain⟨va,vc,hf⟩:=ax (b6.o.eT n);obtain⟨j,m,d9,e0,k2⟩:∃(j:Nat) (m:Zx),N[j]? =some m/\m.tb=tb/\m.op<=2000:=by
   obtain⟨t0,i6,m,h4,X,i7,k3,k5⟩:=P.o.me;obtain⟨j,hj,rfl⟩:=Kb h4;refine⟨j,N[j],JV hj,i7, ?_⟩;obtain⟨u,c,g1,i8⟩:=V.o;have k6:(jS Kq B (asks.take k)).length<=5:=JS (List.length_filter_le _ _) (by rw[Kt];omega);have k7:t0.op=i0:=by
    rw[<-i8];have e1:=h7.o;obtain⟨a0,e2,rfl⟩:=Kb i6;obtain⟨p2,e3,rfl⟩:=Kb c;have:a0=p2:=by
     rcases Ls a0 p2 with g|g|g
     ·have:=Ka.1 e1 a0 p2 (by simpa using e2) (by simpa using e3) g;simp at this;exact Lv (X.trans g1.symm) this
     ·exact g
     ·have:=Ka.1 e1 p2 a0 (by simpa using e3) (by simpa using e2) g;simp at this;exact Lv (g1.trans X.symm) this
    subst this
    rfl
   omega
  have k8:(p n).length<=1001:=by
   rw[P.o.wt n];have:=f7 n
   split
   ·rw[KS];simp;omega
   ·omega
  have⟨Hf,b7,C⟩:=dK hf d9 e0;clear hf d9 e0;obtain⟨W4,b8⟩:=aj (w4.alloc (.cells #[.bool fa,.string tx] 173));have a1:Hid (BM G Kq wz W4 bb a cap rd rn rc mb (mx+1+k) N d3 b3 F p):=by rw[b8];exact b6.o.kept (ag _ _)
  have e4:Hid (∀w',K_ W4 w'->w'.cell? ⟨bb,5,none⟩=some (.map (some mb))/\(Instr.lookup 110 (.map (some mb)) (.string n) false).run prog w'= .ok (.slice va (p n).length vc) w'):=fun w' K=>⟨(a1.o.kept K).c5,by rw[<-Hf.o];exact (a1.o.kept K).look (by unfold maxLen;omega)⟩
  go_upto_region 7 with fail
  rw[<-b8];clear b8 k4;refine bf 14 e4.o fun D KD a2=>?_
  refine au 0 a2 ?_;refine au 4 a2 ?_;refine au 8 a2 ?_;refine ah 12 (fun K A=>?_);go_simp
  have K5:K_ D (D.alloc (.cells #[.pointer (some ⟨tb,0,none⟩)] 103)):=ag _ _;have b9:(D.alloc (.cells #[.pointer (some ⟨tb,0,none⟩)] 103)).cell? ⟨D.heap.size,0,none⟩=some (.pointer (some ⟨tb,0,none⟩)):=Xz D #[.pointer (some ⟨tb,0,none⟩)] 103 0 _ rfl;have c1:=KD.trans K5;refine A.out _ _ (fun _=>e4.o _ c1) ?_;clear A K a2;have y:=Kz (a1.o.kept c1);obtain⟨eb,e5⟩:=aj D.heap.size;rw[<-e5] at b9⊢;generalize i9:D.alloc (.cells #[.pointer (some ⟨tb,0,none⟩)] 103)=w6 at b9 c1 y⊢;clear i9 K5 e5;have c2:=y.o.eT n;rw[Hf.o] at c2;have j0:=Kz c2;have j1:=y.o.kw.size;clear c2;try simp only[upP]
  refine ah 13 (fun K A=>?_);refine step_append_lies _ rfl (.tmp 46) (.tmp 48) 102 rfl wz.heap.size 103 ip _ 1 8 underlying102 g4 g5 g6 g7 rfl (by decide) (.slice va (p n).length vc) (p n).length ((p n).map vY) rfl j0.o ⟨eb,0,none⟩ 1 1 [vY tb] rfl rfl (fun j u c=>?_) (fun u c=>?_) (by decide) (by unfold maxLen;omega) (by omega) j1 w6.heap.size rfl ?_
  ·match j,c with
   | 0,c=>simp at c;subst c;rw[KZ];exact b9
   | j+1,c=>simp at c
  ·simp at c;subst c;rfl
  intro g gc Q e6 R c3 k9;rw[<-Hf.o] at R c3;obtain⟨w8,l0,e7⟩:=y.o.wait (s:=n) (tb:=tb) (by unfold maxLen;omega) e6 R (fun x e=>by simp only[Value.ownBlock,KT] at e;subst e;rcases c3 with h | h;exact .inl h;exact .inr (Kv h.symm)) (by omega);have e8:=Kz e7;have e9:But (fun b=>(F n).ownBlock=some b) w6 Q:=But.aI R (fun b e=>e);have j2:Hid (Q.cell? ⟨bb,5,none⟩=some (.map (some mb))/\(Instr.lookup 110 (.map (some mb)) (.string n) false).run prog Q= .ok (.slice va (p n).length vc) Q):=by
   have w':=Q;exact⟨(e9.cell y.o.row.lt (fun e=>bi y.o.row.type (Yz (y.o.eT n) e) (by decide) rfl)).trans y.o.c5,by have h:=y.o.qa (s:=n) (by unfold maxLen;omega) R;rw[Hf.o] at h;exact h⟩
  refine ae A (fun _=>j2.o) ?_;clear A K e7 e6 R c3 e9;refine ah 14 (fun K A=>?_);go_simp
  refine ae A (fun h=>Lv rfl h) ?_;clear A K;refine aB ?_;have a3:=e8.o.at b7.o;have o9:w8.cell? ⟨tb,9,none⟩=some (.int .i64 (m.op:Int)):=by rw[<-C.o];exact a3.rng 9 _ rfl
  have uz:tb<w8.heap.size:=by rw[<-C.o];exact a3.row.lt
  obtain⟨_,j3⟩:=a3.row.row.at (i:=9) (by omega);rw[C.o] at j3;have f0:=Kz (e8.o.store (t':={m with op:=m.op+1}) b7.o (o:=9) (v:= .int .i64 ((m.op+1:Nat):Int)) (by omega) rfl rfl rfl rfl rfl rfl rfl rfl rfl rfl);have f1:((m.op+1:Nat):Int)= (m.op:Int)+1:=by omega
  rw[f1,C.o] at f0;have f2:=Kz (P.o.wait (n:=n) (by rw[d8.o];rfl) i3.o b7.o C.o a1.o.tbs (t':={m with op:=m.op+1}) C.o rfl rfl rfl);rw[C.o] at f2;clear a3 f1;go_wp2
  go_roundw
  case rel=>exact⟨k+1,_,d3,b3,_,_,by omega,by go_num,f0.o,by rw[d5.o];exact f2.o⟩
  case measure=>simp[intOf];omega
end
def IY(xs:List Xq)(w':LP)(e:Ending):Prop:=∃(a:LM) (c:Nat),e= .returned (.slice a (aM xs).length c)/\Strs w' a (aM xs)
theorem xu(w:LP)(d:LM)(N:Nat)(a:List Xq)(a6:a.length<=1000)(O:ed w d a):
  Calls prog 171 #[.slice d a.length N] w fun e w'=>IY a w' e/\K_ w w':=by
 obtain⟨P,Q,R,S,T⟩:=aQ Tryz.bY;go_enter func171,ntmps171
 go_wp2
 go_loopg [3,8] a.length (fun U V W wr=>∃(i:Nat) (c:LM) (f:Nat),V= .slice c (aM (a.take i)).length f/\W= .int .i64 (i:Int)/\i+U=a.length/\(aM (a.take i)).length<=i/\K_ w wr/\Hid (wr.ownsRow w.heap.size 9 1 (.slice c (aM (a.take i)).length f) (aM (a.take i)).length ((aM (a.take i)).map Value.string)))
 case atStart=>exact⟨0,none,0,rfl,rfl,by omega,JP _,K_.refl _,Ld _ _ _ _⟩
 case round=>
  obtain⟨i,c,f,rfl,rfl,hi,X,p,q⟩:=hrel;by_cases a7:(i:Int)<(a.length:Int)
  ·have r:i<a.length:=by omega
   obtain⟨a8,o,rfl,hb,k⟩:=(O.kept p) i r;obtain⟨x,s⟩:=aj (a.getD i Xq.zero);rw[<-s] at k;have Y:=k 0 _ rfl;have t1:=k 1 _ rfl;rw[La] at Y;have D:Hid (a.take (i+1)=a.take i++ [x]):=by show _=_;rw[JX r,s];simp[List.getD,r]
   obtain⟨h,t⟩:=aj (aM (a.take i));rw[<-t] at X q⊢;have E:=Kz t;clear k s t;obtain⟨b,j⟩:=aj (wr.alloc (.cells #[.bool x.fail,.string x.text] 173));have F:K_ wr b:=by rw[j];exact ag _ _
   have v:b.cell? ⟨wr.heap.size,0,none⟩=some (.bool x.fail):=by rw[j];exact Xz wr #[.bool x.fail,.string x.text] 173 0 _ rfl
   have Z:b.cell? ⟨wr.heap.size,1,none⟩=some (.string x.text):=by rw[j];exact Xz wr #[.bool x.fail,.string x.text] 173 1 _ rfl
   have qz:wr.heap.size<b.heap.size:=by rw[j];simp
   go_upto_region 5 with fail
   rw[<-j];clear j;obtain⟨fb,G⟩:=aj wr.heap.size;rw[<-G] at v Z qz⊢;clear G;have H:=Kz (ai q.o F);have I:=p.trans F;cases l:x.fail
   ·rw[l] at v;have y:K_ b (b.alloc (.cells #[.string x.text] 9)):=ag _ _;have J:=Kz (ai H.o y);have K:=Kz (I.trans y);have a0:w.heap.size<=(b.alloc (.cells #[.string x.text] 9)).heap.size:=K.out.size;have a1:Hid (∀m u,([.string x.text]:List LQ)[m]? =some u->(b.alloc (.cells #[.string x.text] 9)).cell? ((⟨b.heap.size,0,none⟩:Addr).add m)=some u):=fun m u n=>by rw[KZ];exact Xz b #[.string x.text] 9 m u n
    have a2:Hid (∀u∈([.string x.text]:List LQ),u.oneCell'=true):=fun u n=>by simp only[Lb,Lc,or_false] at n;subst n;rfl
    clear y;go_wp2_with (at_builtin;refine wpList_append_own _ rfl (.tmp 15) (.tmp 18) 26 rfl w.heap.size 9 P _ 1 16 underlying26 Q R S T rfl (by decide) (.slice c h.length f) h.length (h.map Value.string) rfl J.o ⟨b.heap.size,0,none⟩ 1 1 [.string x.text] rfl rfl a1.o a2.o (by unfold maxLen;omega) (by omega) a0 ?_;intro v' w6 A L _;have KP:=aG K.out (JP _) J.o L;have HP:=Kz A;obtain⟨a3,a4,rfl⟩:=ax A;clear A L)
    go_roundg (gk-1)
    case measure=>omega
    case rel=>
     have e:aM (a.take (i+1))=h++ [x.text]:=by rw[D.o,kX,<-E.o,l];rfl
     exact⟨i+1,a3,a4,by rw[e,KS];rfl,by go_num,by omega,by rw[e,KS];show h.length+1<=i+1;omega,KP,Kz (by rw[e,LA,KS];exact HP.o)⟩
   ·rw[l] at v;go_wp2
    go_roundg (gk-1)
    case measure=>omega
    case rel=>
     have e:aM (a.take (i+1))=h:=by rw[D.o,kX,<-E.o,l];simp
     exact⟨i+1,c,f,by rw[e],by go_num,by omega,by rw[e];omega,I,Kz (by rw[e];exact H.o)⟩
  ·have a5:i=a.length:=by omega
   obtain⟨a9,c9,B,C⟩:=aX q.o;simp only[KX,true_and] at B;rw[<-B.1] at C;have M:=Kz C;clear C B;go_wp2
   go_ret
   rw[a5,KI] at M;exact⟨⟨c,f,rfl,M.o⟩,p⟩
section
variable {G : bX} {Kq : List Qq} {wz w w' : LP} {bb : Nat} {a : LM} {cap : Nat} {rd : LM} {rn rc : Nat} {mb mx : Nat} {ts : List Zx} {d : LM} {dc : Nat} {f : LK -> LQ} {ws : LK -> List Nat}
theorem BM.texts(m:BM G Kq wz w bb a cap rd rn rc mb mx ts d dc f ws){i:Nat}{t:Zx}(I:ts[i]? =some t){w1:LP}{c:LQ}{l:List LK}(y:w1.ownsRow wz.heap.size 9 1 c (t.r.texts.length+l.length) (t.r.texts.map Value.string++l.map Value.string))(q:w.grownBy w1 t.tv.ownBlock)(A:∀g,c.ownBlock=some g->t.tv.ownBlock=some g\/w.heap.size<=g):
  BM G Kq wz (w1.setCell ⟨t.tb,6,none⟩ c) bb a cap rd rn rc mb mx (ts.set i {t with tv:=c,r:={t.r with texts:=t.r.texts++l}}) d dc f ws:=by
 obtain⟨n,rfl⟩:=JW.1 I;have h:=m.fO _ (J_ n);have k:=m.xB _ (J_ n);have J:But (fun b=>b=ts[i].tb\/b∈ts[i].own) w w1:=But.aI q (fun b e=>.inr (JZ.2 (.inl (KL.2 e))));have K:But (fun b=>b=ts[i].tb\/b∈ts[i].own) w (w1.setCell ⟨ts[i].tb,6,none⟩ c):=But.set J (p:=⟨ts[i].tb,6,none⟩) (.inl rfl) c;have B:w1.heap[ts[i].tb]? =w.heap[ts[i].tb]? :=q.block _ h.row.lt (fun e=>bi h.row.type (Yz h.txt e.symm) (by decide) rfl);have s:aC w1 ts[i].tb 115 12:=h.row.block B;have L:w1.rangeAt ts[i].tb 0 ts[i].cells:=fun M u v=>(Ke (w:=w) B).trans (h.rng M u v)
 have C:∀{b:Nat},df w1 b 9->b≠ts[i].tb:=fun v=>bi v s.type (by decide)
 have D:But (fun b=>b=ts[i].tb) w1 (w1.setCell ⟨ts[i].tb,6,none⟩ c):=But.set (S:=fun b=>b=ts[i].tb) (But.aF (K_.refl w1)) (p:=⟨ts[i].tb,6,none⟩) rfl c;have E:w1.ownsRow wz.heap.size 9 1 ts[i].qv ts[i].qs.length ts[i].qs:=(But.aI (S:=fun b=>ts[i].tv.ownBlock=some b) q (fun b e=>e)).owns h.ask (fun b e N=>by
  have O:b∈ts[i].tv.ownBlock.toList:=KL.2 N;have P:b∈ts[i].qv.ownBlock.toList:=KL.2 e;unfold Zx.own at k;exact (List.nodup_append.1 k).2.2 b O b P rfl)
 refine m.turn n K (fun b Q=>Q) ⟨s.set c,oL L s.row (by omega) c, ?_,D.owns E (fun b e=>C (Yz E e)),h.low⟩ rfl rfl rfl rfl rfl (fun x j=>?_) ?_ (by have:=m.qb ts[i] (J_ n);exact this)
 ·show World.ownsRow _ _ _ _ c (ts[i].r.texts++l).length ((ts[i].r.texts++l).map Value.string);rw[KS,LA];exact D.owns y (fun b e=>C (Yz y e))
 ·unfold Zx.own at j⊢;rcases JZ.1 j with j|j
  ·rcases A x (KL.1 j) with e|e
   ·exact .inl (JZ.2 (.inl (KL.2 e)))
   ·exact .inr e
  ·exact .inl (JZ.2 (.inr j))
 ·unfold Zx.own at k⊢;rw[List.nodup_append] at k⊢;refine⟨?_,k.2.1,fun x j F H=>?_⟩
  ·show (c.ownBlock.toList).Nodup;cases c.ownBlock <;> simp
  ·rcases A x (KL.1 j) with e|e
   ·exact k.2.2 x (KL.2 e) F H
   ·have:=(h.ask.lt F (KL.1 H)).2;omega
end
theorem ul{W:fQ}{σ:Env}:∀{l:List LK} {xs:List Xq},Yq W σ l=some xs->xs.length=l.length/\∀k,k<l.length->bP W σ (l.getD k ByteArray.empty)=some (xs.getD k Xq.zero)
 | [],xs,h=>by
  unfold Yq at h;cases h;exact⟨rfl,fun k a=>aT a⟩
 | n :: l,xs,h=>by
  unfold Yq at h;cases b:bP W σ n with
  | none=>rw[b] at h;cases h
  | some x=>
   rw[b] at h;simp only at h;cases c:Yq W σ l with
   | none=>rw[c] at h;cases h
   | some ys=>
    rw[c] at h;simp only[KT] at h;subst h;obtain⟨d,e⟩:=ul c;refine⟨by simp[d],fun k a=>?_⟩;cases k with
    | zero=>simpa using b
    | succ k=>simpa using e k (by simpa using a)
section
variable {G : bX} {Kq : List Qq} {wz w w' : LP} {bb : Nat} {a : LM} {cap : Nat} {rd : LM} {rn rc : Nat} {mb mx : Nat} {ts : List Zx} {d : LM} {dc : Nat} {f : LK -> LQ} {ws : LK -> List Nat}
def Im(G:bX)(Kq:List Qq)(wz:LP)(bb:Nat)(a:LM)(cap:Nat)(rd:LM)(rn rc mb mx:Nat)(ts:List Zx)(d:LM)(dc:Nat)(f:LK->LQ)(ws:LK->List Nat)(i:Nat)(t:Zx)(g:bW)(xs:List Xq)(w':LP)(e:Ending):Prop:=
 (g.over=true/\e= .returned (.bool false)/\∃bl,(bl∈(stepOf ⟨t.cost,t.steps⟩ t.r.at').asks/\g.text= (⟨#[98,101,108,111,119,32]⟩:LK)++bl)/\BM G Kq wz w' bb a cap rd rn rc mb mx (h_ (ts.set i (({t with bl:=bl}:Zx).ended true g.text)) (ws t.r.name)) d dc (fun n=>if n=t.r.name then .slice none 0 0 else f n) (fun n=>if n=t.r.name then [] else ws n))\/
 (g.over=false/\e= .returned (.bool true)/\∃tv',BM G Kq wz w' bb a cap rd rn rc mb mx (ts.set i {t with tv:=tv',r:={t.r with at':=g.at',texts:=t.r.texts++aM xs}}) d dc f ws)
theorem wP(E:BM G Kq wz w bb a cap rd rn rc mb mx ts d dc f ws){i:Nat}{t:Zx}(hi:ts[i]? =some t)(s:Xj)(hs:s=stepOf ⟨t.cost,t.steps⟩ t.r.at')(p7:0<=t.r.at')(h1:t.r.at' < t.steps.length)(f8:s.fin=false)(h:List Xq)(j1:Yq (Q_ Kq) (Qj (Qk ts)) s.asks=some h)(f9:∀x∈h,x.text.size<=200)(g0:Followed s h (eY s h))(hF:s.Fits)(p8:s.asks.length<=5)(g1:∀x∈s.asks,x.size<=20)(j2:s.asks.length≠0->0<=s.on/\s.on<s.asks.length)(j3:Kq.length<=60)(p9:t.r.texts.length<=1000)
  (j4:t.r.name.size<=1000) (j5:(ws t.r.name).length<=1000) (hw:∀b∈ws t.r.name,∃(j:Nat) (u:Zx),j≠i/\ts[j]? =some u/\u.tb=b/\1<=u.op/\u.op<=1000) (j6:(ws t.r.name).Nodup):
  Calls prog 141 #[.pointer (some ⟨bb,0,none⟩),.pointer (some ⟨t.tb,0,none⟩)] w fun e w'=>Im G Kq wz bb a cap rd rn rc mb mx ts d dc f ws i t (eY s h) h w' e:=by
 obtain⟨ia,j7,j8,j9,k0⟩:=aQ Tryz.BA;obtain⟨is,k1,k2,k3,k7⟩:=aQ Tryz.bY;obtain⟨k,b6⟩:∃k:Nat,t.r.at'= (k:Int):=⟨t.r.at'.toNat,by omega⟩;have k9:k<t.steps.length:=by omega
 have hT:=E.at hi;have g2:=E.act t (Kg hi);obtain⟨B,C,cs,g3,T,N,J,I,O,P,rfl,b7,b8,_⟩:=g2.2 k k9;have g4:t.steps.getD k Xj.zero=s:=by rw[hs];unfold stepOf;rw[b6];rfl
 rw[g4] at N b7 b8;have c8:w.cell? ⟨t.tb,8,none⟩=some (.slice t.sa t.steps.length t.sc):=hT.rng 8 _ rfl;have c4:w.cell? ⟨t.tb,4,none⟩=some (.int .i64 t.r.at'):=hT.rng 4 _ rfl;rw[g3] at c8;rw[b6] at c4;have tz:=hT.row.lt;have Y:B<w.heap.size:=JQ T E.kw.size;have t0:w.cell? ⟨B,C+k*8,none⟩=some (.slice J s.asks.length I):=(E.kw.cell T).trans (N 0 _ rfl);have t1:w.cell? ⟨B,C+k*8+1,none⟩=some (.int .i64 s.on):=(E.kw.cell T).trans (N 1 _ rfl);have t2:w.cell? ⟨B,C+k*8+2,none⟩=some (.slice O s.cases.length P):=(E.kw.cell T).trans (N 2 _ rfl);have t3:w.cell? ⟨B,C+k*8+3,none⟩=some (.int .i64 s.els):=(E.kw.cell T).trans (N 3 _ rfl);have t4:w.cell? ⟨B,C+k*8+4,none⟩=some (.int .i64 s.fall):=(E.kw.cell T).trans (N 4 _ rfl);have t5:w.cell? ⟨B,C+k*8+5,none⟩=some (.bool false):=by rw[<-f8];exact (E.kw.cell T).trans (N 5 _ rfl)
 have t6:w.cell? ⟨B,C+k*8+6,none⟩=some (.bool s.bad):=(E.kw.cell T).trans (N 6 _ rfl);have t7:w.cell? ⟨B,C+k*8+7,none⟩=some (.string s.give):=(E.kw.cell T).trans (N 7 _ rfl);have g5:Hid (∀w',K_ w w'->w'.cell? ⟨t.tb,8,none⟩=some (.slice (some ⟨B,C,none⟩) t.steps.length t.sc)/\w'.cell? ⟨t.tb,4,none⟩=some (.int .i64 (k:Int))/\w'.cell? ⟨B,C+k*8,none⟩=some (.slice J s.asks.length I)/\w'.cell? ⟨B,C+k*8+1,none⟩=some (.int .i64 s.on)/\w'.cell? ⟨B,C+k*8+2,none⟩=some (.slice O s.cases.length P)/\w'.cell? ⟨B,C+k*8+3,none⟩=some (.int .i64 s.els)/\w'.cell? ⟨B,C+k*8+4,none⟩=some (.int .i64 s.fall)/\w'.cell? ⟨B,C+k*8+5,none⟩=some (.bool false)/\w'.cell? ⟨B,C+k*8+6,none⟩=some (.bool s.bad)/\w'.cell? ⟨B,C+k*8+7,none⟩=some (.string s.give)):=fun w' K=>⟨(K.cell tz).trans c8,(K.cell tz).trans c4,(K.cell Y).trans t0,(K.cell Y).trans t1,(K.cell Y).trans t2,(K.cell Y).trans t3,(K.cell Y).trans t4,(K.cell Y).trans t5,(K.cell Y).trans t6,(K.cell Y).trans t7⟩
 obtain⟨q0,g6⟩:=ul j1;have⟨l0,HB,HI,b9,l1⟩:=jb g6 E hi b7 b8;have⟨l2,HW,l3⟩:=dK g0 hw hs;have q1:=E.kw.size;have q2:(k:Int)<(t.steps.length:Int):=by omega
 have q3:=E.len j3;clear E hi hT g2 g3 N b7 b8 g4 c8 c4 t0 t1 t2 t3 t4 t5 t6 t7 g6 g0 hw b6 hs;go_enter func141,ntmps141
 go_upto_region 1 with fail
 refine bf 13 g5.o fun L U q=>?_
 refine au 0 q ?_;refine au 4 q ?_;refine au 8 q ?_;refine ah 12 (fun K y=>?_);go_simp
 have K2:K_ L (L.alloc (.cells #[.slice none 0 0,.int .i64 0,.slice none 0 0,.int .i64 0,.int .i64 0,.bool false,.bool false,.string ⟨#[]⟩] 83)):=ag _ _;have H:aC (L.alloc (.cells #[.slice none 0 0,.int .i64 0,.slice none 0 0,.int .i64 0,.int .i64 0,.bool false,.bool false,.string ⟨#[]⟩] 83)) L.heap.size 83 8:=aC.made L _ _;have KE:=U.trans K2;have nz:=U.size;obtain⟨v,g7⟩:=aj L.heap.size;refine y.out _ _ (fun _=>g5.o _ KE) ?_;clear y K q;rw[<-g7] at H nz⊢;generalize l4:L.alloc (.cells #[.slice none 0 0,.int .i64 0,.slice none 0 0,.int .i64 0,.int .i64 0,.bool false,.bool false,.string ⟨#[]⟩] 83)=wE at H KE⊢;clear l4 K2 g7;try simp only[upP]
 obtain⟨⟨_,v0⟩,f0⟩:=H.row.at (i:=0) (by omega);obtain⟨⟨_,v1⟩,l5⟩:=H.row.at (i:=1) (by omega);obtain⟨⟨_,v2⟩,f2⟩:=H.row.at (i:=2) (by omega);obtain⟨⟨_,v3⟩,f3⟩:=H.row.at (i:=3) (by omega);obtain⟨⟨_,v4⟩,f4⟩:=H.row.at (i:=4) (by omega);obtain⟨⟨_,v5⟩,f5⟩:=H.row.at (i:=5) (by omega);obtain⟨⟨_,v6⟩,f6⟩:=H.row.at (i:=6) (by omega);obtain⟨⟨_,v7⟩,l6⟩:=H.row.at (i:=7) (by omega);have vz:=H.lt;refine ah 13 (fun K y=>?_);go_simp
 refine ae y (fun M=>Lv rfl M) ?_;clear y K;refine aB ?_;have Q:=Kz (JU wE v 0 [.slice J s.asks.length I,.int .i64 s.on,.slice O s.cases.length P,.int .i64 s.els,.int .i64 s.fall,.bool false,.bool s.bad,.string s.give] (H.row.there (o:=0) (m:=8) (JP _)));have Z:=Kz (bQ (g:=v) nz [.slice J s.asks.length I,.int .i64 s.on,.slice O s.cases.length P,.int .i64 s.els,.int .i64 s.fall,.bool false,.bool s.bad,.string s.give] 0 KE);have g8:=Kz (aC.sets [.slice J s.asks.length I,.int .i64 s.on,.slice O s.cases.length P,.int .i64 s.els,.int .i64 s.fall,.bool false,.bool s.bad,.string s.give] 0 H);obtain⟨w2,c1⟩:=aj (wE.setCells v 0 [.slice J s.asks.length I,.int .i64 s.on,.slice O s.cases.length P,.int .i64 s.els,.int .i64 s.fall,.bool false,.bool s.bad,.string s.give]);rw[<-c1] at Q Z g8;go_upto_region 2 with fail
 have e2:((((((((wE.setCell ⟨v,0,none⟩ (.slice J s.asks.length I)).setCell ⟨v,1,none⟩ (.int .i64 s.on)).setCell ⟨v,2,none⟩ (.slice O s.cases.length P)).setCell ⟨v,3,none⟩ (.int .i64 s.els)).setCell ⟨v,4,none⟩ (.int .i64 s.fall)).setCell ⟨v,5,none⟩ (.bool false)).setCell ⟨v,6,none⟩ (.bool s.bad)).setCell ⟨v,7,none⟩ (.string s.give))=w2:=by rw[c1];rfl
 rw[e2];clear e2 c1 v0 v1 v2 v3 v4 v5 v6 v7 f0 l5 f2 f3 f4 f5 f6 l6 vz H KE nz U;have c2:=Kz (HB.o.kept Z.o);have l7:w2.cell? ⟨v,0,none⟩=some (.slice J s.asks.length I):=Q.o 0 _ rfl;have V:=g8.o.lt;have g9:Hid (∀w',K_ w2 w'->w'.cell? ⟨v,0,none⟩=some (.slice J s.asks.length I)/\w'.cell? ⟨v,1,none⟩=some (.int .i64 s.on)/\w'.cell? ⟨v,2,none⟩=some (.slice O s.cases.length P)/\w'.cell? ⟨v,3,none⟩=some (.int .i64 s.els)/\w'.cell? ⟨v,4,none⟩=some (.int .i64 s.fall)/\w'.cell? ⟨v,5,none⟩=some (.bool false)/\w'.cell? ⟨v,6,none⟩=some (.bool s.bad)/\w'.cell? ⟨v,7,none⟩=some (.string s.give)):=fun w' K=>⟨(K.cell V).trans (Q.o 0 _ rfl),(K.cell V).trans (Q.o 1 _ rfl),(K.cell V).trans (Q.o 2 _ rfl),(K.cell V).trans (Q.o 3 _ rfl),(K.cell V).trans (Q.o 4 _ rfl),(K.cell V).trans (Q.o 5 _ rfl),(K.cell V).trans (Q.o 6 _ rfl),(K.cell V).trans (Q.o 7 _ rfl)⟩
 go_wp2
 go_loopg [6,27] s.asks.length (fun gg x6 l8 wr=>∃(n:Nat) (W:LM) (cv:Nat),x6= .slice W n cv/\l8= .int .i64 (n:Int)/\n+gg=s.asks.length/\K_ w2 wr/\Hid (wr.ownsRow w2.heap.size 173 2 (.slice W n cv) n (di (h.take n))))
 case atStart=>exact⟨0,none,0,rfl,rfl,by omega,K_.refl _,Ld _ _ _ _⟩
 case round=>
  obtain⟨n,W,cv,rfl,rfl,q4,Kr,HO⟩:=hrel;by_cases q5:(n:Int)<(s.asks.length:Int)
  ·have b0:n<s.asks.length:=by omega
   obtain⟨a2,a0⟩:=aj (s.asks.getD n ByteArray.empty);obtain⟨x,hx⟩:=aj (h.getD n Xq.zero);have a1:=l0.o n b0;rw[<-a0,<-hx] at a1;obtain⟨b,o,rfl,c3,a3⟩:=b9.o n b0;rw[<-a0] at a3;have l9:=HB.o.kw.trans (Z.o.trans Kr);have c0:wr.cell? ⟨b,o+n,none⟩=some (.string a2):=(l9.cell c3).trans a3;have q6:a2.size<=20:=by rw[a0];simp only[List.getD,JV b0,Lx];exact g1 _ (J_ b0)
   have m0:Hid (h.take (n+1)=h.take n++ [x]):=by
    show _=_;rw[JX (by omega),hx];simp[List.getD,(by omega:n<h.length)]
   have c5:Hid ((∃t∈ts,t.r.name=a2)\/Q_ Kq a2=none):=by
    cases hA:Q_ Kq a2 with
    | none=>exact .inr rfl
    | some A=>
     refine .inl ?_;unfold bP at a1;rw[hA] at a1;simp only at a1;cases he:Qj (Qk ts) a2 with
     | none=>rw[he] at a1;cases a1
     | some r=>
      obtain⟨h1,h2⟩:=bF he;obtain⟨u,hu,rfl⟩:=Ku.1 h1;exact⟨u,hu,h2⟩
   have m1:=Kz a1;clear a0 hx a1 a3;go_wp2_with fail
   refine (mU (c2.o.kept Kr) a2 (by omega) (by omega) c5.o).mono ?_;rintro e w4 ⟨⟨fa,tx,ok,rfl,a7⟩,k4⟩;rw[m1.o] at a7;cases ok
   ·simp at a7
   simp only[if_true,KT] at a7;have K4:=Kr.trans k4;have m2:=Kz (ai HO.o k4);have HX:Hid (x= ⟨fa,tx⟩):=a7;clear a7 c0;obtain⟨W5,b1⟩:=aj ((w4.alloc (.cells #[.bool fa,.string tx] 173)).alloc (.cells #[.bool fa,.string tx] 173));have K5:K_ w4 W5:=by rw[b1];exact (ag _ _).alloc _
   have h0:=Kz (ai m2.o K5);have KK:=Kz (K4.trans K5);have m3:w2.heap.size<=W5.heap.size:=KK.out.size;have m4:Hid (∀j u,([.bool fa,.string tx]:List LQ)[j]? =some u->W5.cell? ((⟨w4.heap.size+1,0,none⟩:Addr).add j)=some u):=fun j u hu=>by
    rw[KZ,b1];have:=Xz (w4.alloc (.cells #[.bool fa,.string tx] 173)) #[.bool fa,.string tx] 173 j u hu;rw[KR] at this;exact this
   have m5:Hid (∀u∈([.bool fa,.string tx]:List LQ),u.oneCell'=true):=fun u hu=>by simp only[Lb,Lc,or_false] at hu;rcases hu with rfl | rfl <;> rfl
   have q7:n<=5:=by omega
   have m6:=Kz b1;clear b1;go_wp2_with (at_builtin;rw[<-m6.o];refine wpList_append_own _ rfl (.tmp 37) (.tmp 39) 131 rfl w2.heap.size 173 ia _ 2 24 underlying131 j7 j8 j9 k0 rfl (by decide) (.slice W n cv) n (di (h.take n)) rfl h0.o ⟨w4.heap.size+1,0,none⟩ 1 1 [.bool fa,.string tx] rfl rfl m4.o m5.o (by unfold maxLen;omega) (by omega) m3 ?_;intro v' F c6 h3 _;have KP:=aG KK.out (JP _) h0.o h3;have HP:=Kz c6;obtain⟨m7,m8,rfl⟩:=ax c6;clear c6 h3)
   go_roundg (gk-1)
   case measure=>omega
   case rel=>exact⟨n+1,m7,m8,rfl,by go_num,by omega,KP,Kz (by rw[m0.o,nV,HX.o];exact HP.o)⟩
  ·have h4:h.length=n:=by omega
   have b2:=Kz h4;have hO:=HO.o;rw[KJ (by omega)] at hO;obtain⟨a9,m9,e9,_,a8⟩:=jf hO;simp only[KX] at e9;obtain⟨rfl,n0,rfl⟩:=e9;clear n0;have⟨q8,h5⟩:=aH a8 a8.answers;obtain⟨u0,u1,u2,u3,u4,u5,u6,u7⟩:=g9.o wr Kr;have q9:=JQ V Kr.size;clear hO a8 l7 h4;go_wp2_with fail
   refine (uM wr s J O I P).mono ?_;rintro e w5 ⟨rfl,k5⟩;have K5:=Kr.trans k5;clear u0 u1 u2 u3 u4 u5 u6 u7;go_wp2_with fail
   have c7:=BP w5 s f8 J O W I P cv h hF (b9.o.kept (HB.o.kw.trans (Z.o.trans K5))) (l1.o.kept (HB.o.kw.trans (Z.o.trans K5))) (by unfold maxLen;omega) (fun c hc=>by have:=f9 c hc;unfold maxLen;omega) (h5.o.kept k5) j2 (fun D hq=>by simp only[List.getD,List.getElem?_eq_getElem hq,Option.getD_some];exact g1 _ (List.getElem_mem hq));rw[b2.o] at c7;refine c7.mono ?_;rintro e F ⟨⟨g,rfl,c9⟩,k6⟩;have h6:eY s h=g:=l2.o.unique c9;have⟨h7,n1⟩:=aH h6 c9;dsimp only[bW.cells];have K6:=K5.trans k6;clear c7 c9 h6;obtain⟨X,a4⟩:=aj (F.alloc (.cells #[.int .i64 g.code,.bool g.over,.int .i64 g.at',.string g.text] 135));have h8:K_ F X:=by rw[a4];exact ag _ _
   have p1:X.cell? ⟨F.heap.size,1,none⟩=some (.bool g.over):=by rw[a4];exact Xz F #[.int .i64 g.code,.bool g.over,.int .i64 g.at',.string g.text] 135 1 _ rfl
   have n2:X.cell? ⟨F.heap.size,2,none⟩=some (.int .i64 g.at'):=by rw[a4];exact Xz F #[.int .i64 g.code,.bool g.over,.int .i64 g.at',.string g.text] 135 2 _ rfl
   have p3:X.cell? ⟨F.heap.size,3,none⟩=some (.string g.text):=by rw[a4];exact Xz F #[.int .i64 g.code,.bool g.over,.int .i64 g.at',.string g.text] 135 3 _ rfl
   have h9:F.heap.size<X.heap.size:=by rw[a4];simp
   go_upto_region 10 with fail
   rw[<-a4];clear a4;have K7:=K6.trans h8;have i0:K_ wr X:=(k5.trans k6).trans h8;have c5:=h5;have n3:Hid (∀(d0:LQ) (b:Nat),b<w2.heap.size->ed (X.setCell ⟨b,4,none⟩ d0) W h):=fun d0 b hb=>by
    have h1:=ai HO.o i0;rw[KJ (by have:=b2.o;omega)] at h1;obtain⟨a9,m9,e9,_,a8⟩:=jf (aU h1 (p:=⟨b,4,none⟩) hb d0);simp only[KX] at e9;rw[e9.1];exact a8.answers
   cases R:g.over
   ·rw[R] at p1;have d1:=c2.o.kept K7;have d2:=d1.at HI.o;obtain⟨⟨_,x4⟩,f4⟩:=d2.row.row.at (i:=4) (by omega);have n4:=d2.row.lt;have b3:=Kz (d1.store (t':={t with r:={t.r with at':=g.at'}}) HI.o (o:=4) (v:= .int .i64 g.at') (by omega) rfl rfl rfl rfl rfl rfl rfl rfl rfl rfl);clear d1 d2;go_upto_region 15 with fail
    obtain⟨w8,d3⟩:=aj (X.setCell ⟨t.tb,4,none⟩ (.int .i64 g.at'));have n5:t.tb<w2.heap.size:=JQ tz Z.o.size;have n6:Hid (ed w8 W h):=by rw[d3];exact n3.o _ _ n5
    rw[<-d3] at b3⊢;clear d3 x4 f4 n4 p1 n2 p3;have d4:i<ts.length:=(JW.1 HI.o).1;have b4:Hid ((ts.set i {t with r:={t.r with at':=g.at'}})[i]? =some {t with r:={t.r with at':=g.at'}}):=Lr d4;have n7:=Kz (b3.o.at b4.o);obtain⟨ta,tc,n8⟩:=ax n7.o.txt;have r0:=Kz n8;have i1:Hid (∀w',K_ w8 w'->w'.cell? ⟨t.tb,6,none⟩=some (t.tv)):=fun w' K=>((b3.o.kept K).at b4.o).rng 6 _ rfl
    refine bf 12 i1.o fun L U q=>?_
    refine au 0 q ?_;refine af 4 q ?_;refine af 5 q ?_;refine af 6 q ?_;refine ak 7 (fun K y=>?_);go_simp
    go_at_call 171
    have d5:=xu L W cv h (by omega) (n6.o.kept U);rw[b2.o] at d5;refine d5.mono ?_;rintro e w9 ⟨⟨ga,gc,rfl,i2⟩,n9⟩;have K9:=U.trans n9;have a5:=Kz (b3.o.kept K9);have a6:=Kz (a5.o.at b4.o);have o0:=Kz i2;have d6:=a5.o.kw.size;have r1:(aM h).length<=5:=by have:=List.length_filter_le (fun x:Xq=>!x.fail) h;unfold aM;rw[Lm];omega
    refine ae y (fun _=>i1.o _ K9) ?_;clear y K q d5 i2;refine ak 8 (fun K y=>?_);refine fB (.tmp 73) (.tmp 75) 26 rfl wz.heap.size 9 is _ 16 underlying26 k1 k2 k3 k7 rfl t.tv t.r.texts.length (t.r.texts.map Value.string) rfl a6.o.txt ga gc (aM h) rfl o0.o (by unfold maxLen;omega) (by omega) d6 ?_;intro v' wA d7 d8 i3;obtain⟨va,vc,rfl⟩:=ax d7;have o1:=Kz (a5.o.texts (l:=aM h) b4.o d7 d8 i3);have d9:wA.heap[t.tb]? =w9.heap[t.tb]? :=d8.block _ a6.o.row.lt (fun e=>bi a6.o.row.type (Yz a6.o.txt e.symm) (by decide) rfl);have e0:aC wA t.tb 115 12:=a6.o.row.block d9;have i4:Hid (wA.cell? ⟨t.tb,6,none⟩=some t.tv):=(Ke (w:=w9) d9).trans (a6.o.rng 6 _ rfl);obtain⟨⟨_,x6⟩,f6⟩:=e0.row.at (i:=6) (by omega);have r2:=e0.lt;refine y.out _ _ (fun _=>i4.o) ?_;clear y K d7 d8 i3 d9 e0;have q:=i4.o;try simp only[upP]
    refine af 9 q ?_;refine af 10 q ?_;refine af 11 q ?_;refine ah 12 (fun K y=>?_);go_simp
    refine ae y (fun M=>Lv rfl M) ?_;clear y K q;refine aB ?_;have e1:=o1.o;rw[List.set_set] at e1;have o2:=Kz e1;clear e1;go_wp2
    go_ret
    rw[h7.o];exact .inr ⟨R,rfl,.slice va (t.r.texts.length+ (aM h).length) vc,o2.o⟩
   ·rw[R] at p1;obtain⟨D,o3,e3,i5,i6⟩:∃D,D<h.length/\gQ (h.getD D Xq.zero)/\lJ h gQ D/\g.text=jq s D:=by
     rcases n1.o with⟨_,e⟩|⟨_,⟨D,h1,h2,e4,⟨_,e⟩|⟨_,e⟩⟩|⟨_,r,_,e⟩⟩
     ·rw[e] at R;cases R
     ·exact⟨D,h1,h2,e4,by rw[e]⟩
     ·rw[e] at R;cases R
     ·rw[e] at R;cases R
    have e5:D<s.asks.length:=by omega
    obtain⟨b,o,rfl,c3,a3⟩:=b9.o D e5;obtain⟨S,b5⟩:=aj (s.asks.getD D ByteArray.empty);rw[<-b5] at a3;have o4:Hid (S∈(stepOf ⟨t.cost,t.steps⟩ t.r.at').asks/\g.text= (⟨#[98,101,108,111,119,32]⟩:LK)++S):=by
     refine⟨?_,by rw[i6,b5];rfl⟩;rw[<-l3.o,b5];simp only[List.getD,JV e5,Lx];exact J_ e5
    have e6:Hid (∀w',K_ X w'->w'.cell? ⟨v,0,none⟩=some (.slice (some ⟨b,o,none⟩) s.asks.length I)/\w'.cell? ⟨b,o+D,none⟩=some (.string S)):=fun w' K=>⟨(g9.o w' (K7.trans K)).1,((HB.o.kw.trans (Z.o.trans (K7.trans K))).cell c3).trans a3⟩
    have o5:Hid (∀r,yu h gQ r->r= (D:Int)):=fun r hr=>by
     rcases hr with⟨j,hj,rfl,hp,a0⟩|⟨_,a0⟩
     ·rcases Ls j D with M|M|M
      ·exact Lv hp (i5 j M)
      ·rw[M]
      ·exact Lv e3 (a0 D M)
     ·exact Lv e3 (a0 D o3)
    have r3:(D:Int)<(s.asks.length:Int):=by omega
    clear a3 b5 e3 i5 i6;go_upto_region 11 with fail
    refine bf 9 e6.o fun L U q=>?_
    refine au 0 q ?_;refine ak 4 (fun K y=>?_);go_simp
    go_at_call 169
    have e7:=xZ L W cv h (by unfold maxLen;omega) (fun c hc=>by have:=f9 c hc;unfold maxLen;omega) (c5.o.kept (i0.trans U));rw[b2.o] at e7;refine e7.mono ?_;rintro e w8 ⟨⟨r8,rfl,i7⟩,k8⟩;obtain rfl:=o5.o r8 i7;have K8:=U.trans k8;refine y.out _ _ (fun _=>e6.o _ K8) ?_;clear y K q i7 e7;have q:=e6.o _ K8;try simp only[upP]
    refine au 5 q ?_;have e8:=c2.o.kept (K7.trans K8);have f1:=e8.at HI.o;obtain⟨⟨_,o6⟩,o7⟩:=f1.row.row.at (i:=11) (by omega);have o8:=f1.row.lt;have a5:=Kz (e8.store (t':={t with bl:=S}) HI.o (o:=11) (v:= .string S) (by omega) rfl rfl rfl rfl rfl rfl rfl rfl rfl rfl);have p3:=(K8.cell (b:=F.heap.size) (o:=3) h9).trans p3;have i8:F.heap.size<w8.heap.size:=JQ h9 K8.size;have o9:F.heap.size≠t.tb:=by have:=(HB.o.at HI.o).row.lt;have r4:=(Z.o.trans K6).size;omega
    clear e8 f1;refine ah 9 (fun K y=>?_);go_simp
    refine ae y (fun M=>Lv rfl M) ?_;clear y K q;refine aB ?_;have d4:i<ts.length:=(JW.1 HI.o).1;have p0:(w8.setCell ⟨t.tb,11,none⟩ (.string S)).cell? ⟨F.heap.size,3,none⟩=some (.string g.text):=by rw[Zk o9];exact p3
    have d6:F.heap.size<(w8.setCell ⟨t.tb,11,none⟩ (.string S)).heap.size:=by rw[size_setCell];exact i8
    obtain⟨w9,i9⟩:=aj (w8.setCell ⟨t.tb,11,none⟩ (.string S));rw[<-i9] at a5 p0 d6⊢;clear i9 p3 o6 o7 o8 i8;go_wp2_with fail
    refine (l_ a5.o (i:=i) (t:={t with bl:=S}) (Lr d4) true g.text j4 j5 (fun b hb=>?_) j6).mono ?_
    ·obtain⟨j,u,j0,p2,e4,p4,p5⟩:=HW.o b hb;exact⟨j,u,by rw[Km (Ne.symm j0),Km (Ne.symm j0)];exact p2,e4,p4,p5⟩
    rintro e wF ⟨rfl,f7⟩;rw[List.set_set] at f7;have p6:=Kz f7;clear f7;go_wp2
    go_ret
    rw[h7.o];exact .inl ⟨R,rfl,S,o4.o,p6.o⟩
end
variable {ts : List Zx} {i : Nat} {t : Zx}
theorem tV{t':Zx}(d:ts[i]? =some t)(f:(ts.map (·.tb)).Nodup):∀u∈ts.set i t',u=t'\/(u∈ts/\u.tb≠t.tb):=fun u h=>by
 obtain⟨b,rfl⟩:=JW.1 d;obtain⟨j,a,rfl⟩:=Kb h;rw[Lp] at a;rw[LJ]
 split
 ·exact .inl rfl
 ·rename_i hne
  refine .inr ⟨J_ a,fun e=>?_⟩;have c:=Ka.1 f;rcases Nat.lt_or_gt_of_ne hne with g | g
  ·have:=c i j (by simpa using b) (by simpa using a) g;simp at this;exact this e.symm
  ·have:=c j i (by simpa using a) (by simpa using b) g;simp at this;exact this e
theorem zD{t':Zx}(a:ts[i]? =some t):t'∈ts.set i t'/\∀u∈ts,u.tb≠t.tb->u∈ts.set i t':=by
 obtain⟨b,rfl⟩:=JW.1 a;refine⟨List.mem_iff_getElem.2 ⟨i,by rw[Lp];exact b,by simp⟩,fun u c d=>?_⟩;obtain⟨j,f,rfl⟩:=Kb c;refine List.mem_iff_getElem.2 ⟨j,by rw[Lp];exact f, ?_⟩;rw[LJ,Lu (fun e=>d (by subst e;rfl))]
variable {l : List Nat}
theorem zY{u:Zx}:u∈h_ ts l↔∃v∈ts,u=if v.tb∈l then {v with op:=v.op-1} else v:=by
 unfold h_;rw[Ku];constructor
 ·rintro⟨v,a,b⟩;exact⟨v,a,b.symm⟩
 ·rintro⟨v,a,b⟩;exact⟨v,a,b.symm⟩
theorem Jg{v:Zx}:(if v.tb∈l then {v with op:=v.op-1} else v:Zx).bl=v.bl:=by
 by_cases h:v.tb∈l
 ·rw[Lt h]
 ·rw[Lu h]
theorem IV{v:Zx}:(if v.tb∈l then {v with op:=v.op-1} else v:Zx).qs=v.qs:=by
 by_cases h:v.tb∈l
 ·rw[Lt h]
 ·rw[Lu h]
theorem iY{v:Zx}:(if v.tb∈l then {v with op:=v.op-1} else v:Zx).tb=v.tb/\(if v.tb∈l then {v with op:=v.op-1} else v:Zx).r=v.r:=by
 by_cases h:v.tb∈l
 ·rw[Lt h];exact⟨rfl,rfl⟩
 ·rw[Lu h];exact⟨rfl,rfl⟩
theorem Gy(a:List Zx)(l:List Nat):Qk (h_ a l)=Qk a:=by
 unfold Qk h_;rw[List.map_map]
 congr 1
 funext v
 exact iY.2
theorem yP{l:List Qz}{r r':Qz}(p:cO l)(q:l[i]? =some r)(b:r'.name=r.name)(m:LK):Qj (l.set i r') m=if m=r.name then some r' else Qj l m:=by
 obtain⟨f,rfl⟩:=JW.1 q;have k:=yB p f b;have s:r'∈l.set i r':=List.mem_iff_getElem.2 ⟨i,by rw[Lp];exact f,by simp⟩;by_cases e:m=l[i].name
 ·rw[Lt e];have:=bI k s;rw[b,<-e] at this;exact this
 ·rw[Lu e];cases h:Qj l m with
  | some x=>
   obtain⟨t,n⟩:=bF h;obtain⟨j,a,rfl⟩:=Kb t;have v:i≠j:=fun c=>e (by subst c;exact n.symm)
   have d:l[j]∈l.set i r':=List.mem_iff_getElem.2 ⟨j,by rw[Lp];exact a,by rw[LJ,Lu v]⟩;have:=bI k d;rw[n] at this;exact this
  | none=>
   unfold Qj at h⊢;rw[List.find?_eq_none] at h⊢;intro x d;obtain⟨j,a,rfl⟩:=Kb d;rw[Lp] at a;rw[LJ]
   split
   ·rw[b];simpa using fun c=>e c.symm
   ·exact h _ (J_ a)
theorem wC{l:List LK}{n:LK}(h:l.Nodup):(l.filter fun a=>!decide (a=n)).length=if dW l n=true then l.length-1 else l.length:=by
 induction l with
 | nil=>simp[dW]
 | cons x l b=>
  rw[List.nodup_cons] at h;have b:=b h.2;by_cases e:x=n
  ·subst e;have c:¬dW l x=true:=fun g=>h.1 (dY.1 g)
   rw[Lu c] at b;rw[Lt (dY.2 (by simp))];simp[b]
  ·have d:dW (x :: l) n=dW l n:=by simp[dW,e]
   rw[d];simp only[List.filter_cons,e,decide_false,Bool.not_false,if_true,KY];rw[b];by_cases g:dW l n=true
   ·rw[Lt g,Lt g];have:0<l.length:=List.length_pos_of_mem (dY.1 g);omega
   ·rw[Lu g,Lu g]
variable {ws : LK -> List Nat} {Kq : List Qq}
theorem BS.self(h:BS Kq ts ws)(a:t∈ts)(c:bZ (Q_ Kq) (Qj (Qk ts)) t.r):t.op=0/\pend (Q_ Kq) (Qj (Qk ts)) t.r=[]/\∀s,t.tb∉ws s:=by
 have d:=h.good.good t.r (Le a);obtain⟨A,e,_⟩:=d.act;have b:=((xK (by rw[e];rfl)).1 c).2;refine⟨by rw[h.op t a,b];rfl,b,fun s f=>?_⟩;have:=(h.wt s t a).1 f;rw[b] at this;cases this
theorem BS.ended(F:bT (Q_ Kq))(h:BS Kq ts ws)(O:(ts.map (·.tb)).Nodup){t':Zx}(j:ts[i]? =some t)(f:bZ (Q_ Kq) (Qj (Qk ts)) t.r)(k:t'.r= (Y_ (Q_ Kq) (Qj (Qk ts)) t.r).1)(G:t'.r.over=true)(H:(Y_ (Q_ Kq) (Qj (Qk ts)) t.r).2=[])(I:t'.tb=t.tb)(P:t'.op=t.op)(Q:yC (Q_ Kq) t'.r t'.bl)(R:t'.qs=t.qs):
  BS Kq (h_ (ts.set i t') (ws t.r.name)) (fun n=>if n=t.r.name then [] else ws n)/\Qj (Qk (h_ (ts.set i t') (ws t.r.name)))=doX (Q_ Kq) (Qj (Qk ts)) t.r.name:=by
 have p:t∈ts:=Kg j;obtain⟨S,h2,y⟩:=h.self p f;have A:(Qk ts)[i]? =some t.r:=by unfold Qk;rw[List.getElem?_map,j];rfl
 have T:i<ts.length:=(JW.1 j).1;have J:t'.r.name=t.r.name:=by rw[k,eG]
 have K:Qk (h_ (ts.set i t') (ws t.r.name))= (Qk ts).set i t'.r:=by rw[Gy,nL T]
 have q:Qj (Qk ts) t.r.name=some t.r:=bI h.good.asc (Le p);have B:Qj (Qk (h_ (ts.set i t') (ws t.r.name)))=doX (Q_ Kq) (Qj (Qk ts)) t.r.name:=by
  funext m
  rw[K,yP h.good.asc A J,ik q,k];by_cases e:m=t.r.name
  ·rw[Lt e,Lt e]
  ·rw[Lu e,Lu e];cases Qj (Qk ts) m with
   | some x=>rfl
   | none=>
    simp only;rw[Lu (by rw[H];simp[dW])]
 have L:=h.good.good t.r (Le p);have U:(Q_ Kq t.r.name).isSome=true:=by obtain⟨V,C,_⟩:=L.act;rw[C];rfl
 have M:∀x:Qz,pend (Q_ Kq) (Qj (Qk (h_ (ts.set i t') (ws t.r.name)))) x= (pend (Q_ Kq) (Qj (Qk ts)) x).filter (fun a=>!decide (a=t.r.name)):=fun x=>by
  rw[B,Dk q f.1 U,<-k,Lt G]
 have N:∀σ,pend (Q_ Kq) σ t'.r=[]:=fun σ=>by unfold pend;rw[Lt (.inl G)]
 have W:∀u∈ts,(pend (Q_ Kq) (Qj (Qk ts)) u.r).Nodup:=fun u d=>by
  obtain⟨V,C,X,D⟩:=(h.good.good u.r (Le d)).act;exact BJ F C X D
 have l:∀u∈h_ (ts.set i t') (ws t.r.name),u=t'\/∃v∈ts,v.tb≠t.tb/\u=if v.tb∈ws t.r.name then {v with op:=v.op-1} else v:=fun u d=>by
  obtain⟨v,c,rfl⟩:=zY.1 d;rcases tV j O v c with rfl|⟨D,E⟩
  ·left
   rw[Lu (by rw[I];exact y _)]
  ·exact .inr ⟨v,D,E,rfl⟩
 refine⟨⟨⟨by rw[K];exact yB h.good.asc (JW.1 A).1 (J.trans (congrArg Qz.name (JW.1 A).2).symm),fun x Y=>?_⟩,fun u d=>?_,fun s u d=>?_,fun s=>?_,fun s b w=>?_,fun u d=>?_,fun u d=>?_⟩,B⟩
 rotate_right
 ·rw[B];rcases l u d with rfl|⟨v,c,_,rfl⟩
  ·have:=(h.qs t p).unit f;rw[H,List.map_nil,List.append_nil,<-k,<-R] at this;exact this.mono ⟨t.r,q,f⟩
  ·rw[iY.2,IV];exact (h.qs v c).mono ⟨t.r,q,f⟩
 rotate_right
 ·rcases l u d with rfl|⟨v,c,_,rfl⟩
  ·exact Q
  ·rw[iY.2,Jg];exact h.bl v c
 ·obtain⟨u,d,rfl⟩:=Ku.1 Y;rcases l u d with rfl|⟨v,c,_,rfl⟩
  ·rw[k];exact fG F h.good.env L f
  ·rw[iY.2];exact h.good.good v.r (Le c)
 ·rcases l u d with rfl|⟨v,c,Z,rfl⟩
  ·rw[N,P,S];rfl
  ·rw[iY.2,M,wC (W v c)];by_cases g:v.tb∈ws t.r.name
   ·rw[Lt g,Lt (dY.2 ((h.wt _ v c).1 g))];show v.op-1=_;rw[h.op v c]
   ·rw[Lu g,Lu (fun E=>g ((h.wt _ v c).2 (dY.1 E)))];exact h.op v c
 ·rcases l u d with rfl|⟨v,c,Z,rfl⟩
  ·rw[N];simp only[Lc,iff_false];intro g
   split at g
   ·cases g
   ·rw[I] at g;exact y _ g
  ·rw[iY.1,iY.2,M,List.mem_filter];by_cases e:s=t.r.name
   ·simp[e]
   ·simp only[e,if_false];rw[h.wt s v c];simp
 ·by_cases e:s=t.r.name
  ·rw[Lt e];exact List.nodup_nil
  ·rw[Lu e];exact h.wn s
 ·split at w
  ·cases w
  ·obtain⟨v,c,e⟩:=h.ww s b w;by_cases g:v.tb=t.tb
   ·exact Lv w (by rw[<-e,g];exact y s)
   ·exact⟨_,zY.2 ⟨v,(zD j).2 v c g,rfl⟩,by rw[iY.1];exact e⟩
theorem pV(d:(ts.map (·.tb)).Nodup){u v:Zx}(f:u∈ts)(h:v∈ts)(e:u.tb=v.tb):u=v:=by
 obtain⟨i,a,rfl⟩:=Kb f;obtain⟨j,b,rfl⟩:=Kb h;have c:=Ka.1 d;rcases Ls i j with g|g|g
 ·have:=c i j (by simpa using a) (by simpa using b) g;simp at this;exact Lv e this
 ·subst g;rfl
 ·have:=c j i (by simpa using b) (by simpa using a) g;simp at this;exact Lv e.symm this
variable {ts' : List Zx}
theorem Es(h:(ts'.map fun t=>(t.tb,t.r,t.op,t.bq))= (ts.map fun t=>(t.tb,t.r,t.op,t.bq))):(∀u∈ts',∃v∈ts,v.tb=u.tb/\v.r=u.r/\v.op=u.op/\v.bq=u.bq)/\(∀v∈ts,∃u∈ts',u.tb=v.tb/\u.r=v.r/\u.op=v.op/\u.bq=v.bq):=by
 constructor
 ·intro u b;have:(u.tb,u.r,u.op,u.bq)∈ts'.map fun t=>(t.tb,t.r,t.op,t.bq):=Ku.2 ⟨u,b,rfl⟩
  rw[h] at this;obtain⟨v,c,e⟩:=Ku.1 this;simp only[Prod.mk.injEq] at e;exact⟨v,c,e.1,e.2.1,e.2.2.1,e.2.2.2⟩
 ·intro v c;have:(v.tb,v.r,v.op,v.bq)∈ts.map fun t=>(t.tb,t.r,t.op,t.bq):=Ku.2 ⟨v,c,rfl⟩
  rw[<-h] at this;obtain⟨u,b,e⟩:=Ku.1 this;simp only[Prod.mk.injEq] at e;exact⟨u,b,e.1,e.2.1,e.2.2.1,e.2.2.2⟩
theorem B_(h:(ts'.map fun t=>(t.tb,t.r,t.op,t.bq))= (ts.map fun t=>(t.tb,t.r,t.op,t.bq))):Qk ts'=Qk ts:=by
 have:=congrArg (List.map fun p:Nat×Qz×Nat×LK×List LQ=>p.2.1) h;rw[List.map_map,List.map_map] at this;exact this
theorem BS.asked(a2:bT (Q_ Kq)){ts0:List Zx}{S:LK->List Nat}(l:BS Kq ts ws)(T:(ts.map (·.tb)).Nodup){t1:Zx}(x:ts[i]? =some t)(y:bZ (Q_ Kq) (Qj (Qk ts)) t.r)(H:t1.r= (Y_ (Q_ Kq) (Qj (Qk ts)) t.r).1)(U:t1.r.over=false)(hv:t1.r.Zj≠0)(a3:t1.tb=t.tb)(V:t1.op=t.op/\t1.bl=t.bl/\t1.qs=t.qs++ (Y_ (Q_ Kq) (Qj (Qk ts)) t.r).2.map Value.string)
 (a4:(ts0.map fun t=>(t.tb,t.r,t.op,t.bq))= ((ts.set i t1).map fun t=>(t.tb,t.r,t.op,t.bq))) (a5:cO (Qk ts')) (E:(ts'.map (·.tb)).Nodup) {A:fP} (hA:Q_ Kq t.r.name=some A) (b0:(Y_ (Q_ Kq) (Qj (Qk ts)) t.r).2= (stepOf A t1.r.at').asks) (n:nX Kq ts0 ws t.tb (Y_ (Q_ Kq) (Qj (Qk ts)) t.r).2 (Y_ (Q_ Kq) (Qj (Qk ts)) t.r).2 ts' S):
  BS Kq ts' S/\Qj (Qk ts')=doX (Q_ Kq) (Qj (Qk ts)) t.r.name:=by
 have I:t∈ts:=Kg x;obtain⟨h1,h2,W⟩:=l.self I y;have b1:(Qk ts)[i]? =some t.r:=by unfold Qk;rw[List.getElem?_map,x];rfl
 have b2:i<ts.length:=(JW.1 x).1;have a6:t1.r.name=t.r.name:=by rw[H,eG]
 have b3:Qk ts0= (Qk ts).set i t1.r:=by rw[B_ a4,nL b2]
 have O:Qj (Qk ts) t.r.name=some t.r:=bI l.good.asc (Le I);have a7:∀p,Qj (Qk ts0) p=if p=t.r.name then some t1.r else Qj (Qk ts) p:=fun p=>by rw[b3];exact yP l.good.asc b1 a6 p
 have X:Qj (Qk ts')=doX (Q_ Kq) (Qj (Qk ts)) t.r.name:=by
  funext p
  rw[n.env p,a7,ik O,H];by_cases e:p=t.r.name
  ·rw[Lt e,Lt e]
  ·rw[Lu e,Lu e];cases Qj (Qk ts) p <;> rfl
 have hg:=l.good.good t.r (Le I);have hw:(Q_ Kq t.r.name).isSome=true:=by rw[hA];rfl
 have a8:∀J:Qz,pend (Q_ Kq) (Qj (Qk ts')) J=pend (Q_ Kq) (Qj (Qk ts)) J:=fun J=>by
  rw[X,Dk O y.1 hw,<-H,Lu (by rw[U];simp)]
 have a9:pend (Q_ Kq) (Qj (Qk ts')) t1.r=jS Kq ts0 (Y_ (Q_ Kq) (Qj (Qk ts)) t.r).2:=by
  unfold pend jS;rw[Lu (by rw[U];simp[hv]),a6,hA];simp only;rw[b0]
  congr 1
  funext a
  rw[n.ans a]
 obtain⟨t0,b4,P,F,e1,C,e3,e4,e5⟩:=n.me;obtain⟨Y,b5⟩:=Es a4;have q:P.r=t1.r/\t0.op=0/\P.bl=t.bl/\P.qs=t1.qs:=by
  obtain⟨v,d,h,c,m,Q⟩:=Y t0 b4;rcases tV x T v d with rfl|⟨_,g4⟩
  ·exact⟨by rw[e3,<-c],by rw[<-m,V.1,h1],(congrArg Prod.fst (e5.trans Q.symm)).trans V.2.1,congrArg Prod.snd (e5.trans Q.symm)⟩
  ·exact Lv (h.trans e1) g4
 have old:∀u∈ts',u.tb≠t.tb->(∃v∈ts,v.tb=u.tb/\v.r=u.r/\v.op=u.op/\v.bq=u.bq)\/(u.r=Qz.fresh u.r.name/\(u.op=0/\u.bq= (⟨#[]⟩,[]))/\Qj (Qk ts) u.r.name=none):=fun u j R=>by
  rcases n.other u j R with⟨u0,K,h,c,m,Q⟩|⟨h,c,m⟩
  ·obtain⟨v,d,G,L,Z,k5⟩:=Y u0 K;rcases tV x T v d with rfl|⟨k4,_⟩
   ·exact Lv (h.symm.trans (G.symm.trans a3)) R
   ·exact .inl ⟨v,k4,G.trans h,L.trans c,Z.trans m,k5.trans Q⟩
  ·refine .inr ⟨h,c, ?_⟩;rw[a7] at m
   split at m
   ·cases m
   ·exact m
 have keep:∀v∈ts,v.tb≠t.tb->∃u∈ts',u.tb=v.tb/\u.r=v.r:=fun v d R=>by
  obtain⟨u0,K,h,c,_⟩:=b5 v ((zD x).2 v d R);obtain⟨u,j,G,L⟩:=n.old u0 K;exact⟨u,j,G.trans h,L.trans c⟩
 have a0:∀s b,b∈S s↔b∈ws s\/(dW (jS Kq ts0 (Y_ (Q_ Kq) (Qj (Qk ts)) t.r).2) s=true/\b=t.tb):=fun s b=>by
  rw[n.wt s]
  split
  ·rename_i g;simp[g]
  ·rename_i g;simp[g]
 refine⟨⟨⟨a5,fun J M=>?_⟩,fun u j=>?_,fun s u j=>?_,fun s=>?_,fun s b hb=>?_,fun u j=>?_,fun u j=>?_⟩,X⟩
 rotate_right
 ·rw[X];by_cases g:u.tb=t.tb
  ·have:=pV E j F (g.trans C.symm);rw[this,q.1,q.2.2.2,H,V.2.2];exact ((l.qs t I).unit y).mono ⟨t.r,O,y⟩
  ·rcases old u j g with⟨v,d,_,c,_,m⟩|⟨h,c,_⟩
   ·rw[<-c,<-show v.qs=u.qs from congrArg Prod.snd m];exact (l.qs v d).mono ⟨t.r,O,y⟩
   ·exact uV.still (congrArg Prod.snd c.2) h
 rotate_right
 ·by_cases g:u.tb=t.tb
  ·have:=pV E j F (g.trans C.symm);rw[this,q.1,q.2.2.1];exact yC.still ((l.bl t I).open y.1) U
  ·rcases old u j g with⟨v,d,_,c,_,m⟩|⟨h,c,_⟩
   ·rw[<-c,<-show v.bl=u.bl from congrArg Prod.fst m];exact l.bl v d
   ·exact yC.still (congrArg Prod.fst c.2) (by rw[h];rfl)
 ·obtain⟨u,j,rfl⟩:=Ku.1 M;by_cases g:u.tb=t.tb
  ·have:=pV E j F (g.trans C.symm);rw[this,q.1,H];exact fG a2 l.good.env hg y
  ·rcases old u j g with⟨v,d,_,c,_⟩|⟨h,_,_⟩
   ·rw[<-c];exact l.good.good v.r (Le d)
   ·have b6:(Q_ Kq u.r.name).isSome=true:=by
     have w:=bI a5 M;rw[n.env] at w;rcases n.other u j g with⟨u0,K,G,L,_⟩|⟨_,_,Z⟩
     ·obtain⟨v,d,D,N,_⟩:=Y u0 K;rcases tV x T v d with rfl|⟨m4,_⟩
      ·exact Lv (G.symm.trans (D.symm.trans a3)) g
      ·obtain⟨B,hB,_⟩:=(l.good.good v.r (Le m4)).act;rw[<-L,<-N,hB];rfl
     ·rw[Z] at w;simp only at w
      split at w
      ·rename_i h6;exact h6.2
      ·cases w
    rw[h];exact jL a2 b6
 ·by_cases g:u.tb=t.tb
  ·have:=pV E j F (g.trans C.symm);rw[this,q.1,a9,e4,q.2.1,KH]
  ·rw[a8];rcases old u j g with⟨v,d,_,c,m,_⟩|⟨h,c,_⟩
   ·rw[<-c,<-m];exact l.op v d
   ·rw[h,c.1,ma];rfl
 ·by_cases g:u.tb=t.tb
  ·have:=pV E j F (g.trans C.symm);rw[this,q.1,a9,a0,C,dY];exact⟨fun k=>by rcases k with k | k;exact Lv k (W s);exact k.1,fun k=>.inr ⟨k,rfl⟩⟩
  ·rw[a8,a0];rcases old u j g with⟨v,d,h,c,m⟩|⟨h,c,m⟩
   ·rw[<-h,<-c,<-l.wt s v d];exact⟨fun k=>by rcases k with k | ⟨_,k⟩;exact k;exact Lv (h.symm.trans k) g,.inl⟩
   ·rw[h,ma];simp only[Lc,iff_false];rintro (k|⟨_,k⟩)
    ·obtain⟨v,d,D⟩:=l.ww s u.tb k;obtain⟨u2,a1,N,m3⟩:=keep v d (fun e=>g (D.symm.trans e));have:=pV E j a1 (D.symm.trans N.symm);have w:=bI l.good.asc (Le (f:=fun t:Zx=>t.r) d);rw[<-m3,<-this,m] at w;cases w
    ·exact g k
 ·rw[n.wt s]
  split
  ·rw[List.nodup_append];exact⟨l.wn s,by simp,fun J M b7 hy e=>by rw[JY] at hy;rw[e,hy] at M;exact W s M⟩
  ·exact l.wn s
 ·rcases (a0 s b).1 hb with k|⟨_,k⟩
  ·obtain⟨v,d,D⟩:=l.ww s b k;by_cases g:v.tb=t.tb
   ·exact Lv k (by rw[<-D,g];exact W s)
   ·obtain⟨u2,a1,N,_⟩:=keep v d g;exact⟨u2,a1,N.trans D⟩
  ·exact⟨P,F,C.trans k.symm⟩
def fT(wz:LP):Prop:=∀(W:LP) (give:LK) (a:LM) (cap:Nat) (l:List LK),K_ wz W->give.size<=maxLen->l.length<=maxLen->Strs W a l->l.length<=cap->Calls prog 142 #[.string give,.slice a l.length cap] W fun e w'=>e= .returned (.string (mZ give l))/\K_ W w'
theorem Eg(w:LP)(tb:Nat)(v:Int)(a:w.cell? ⟨tb,5,none⟩=some (.int .i64 v)):
  Calls prog 139 #[.pointer (some ⟨tb,0,none⟩)] w fun e w'=>Says e (v=20)/\w'=w:=by
 go_enter func139,ntmps139
 go_wp2
 go_ret
 exact⟨by simp[Says],rfl⟩
theorem o_{W:fQ}{σ:Env}{r:Qz}{A:fP}(h:bZ W σ r)(c:W r.name=some A)(d:r.Zj≠0):∃a,Yq W σ (stepOf A r.at').asks=some a:=by
 rcases h.2 with h|⟨f,a,b,e⟩
 ·exact Lv h d
 ·rw[c] at b;cases b;exact⟨a,e⟩
variable {Kq : List Qq} {ts : List Zx}
theorem BS.Jn{a:LK->List Nat}(h:BS Kq ts a)(s:LK):(a s).length<=ts.length:=by
 have c:=List.Nodup.length_le_of_subset (h.wn s) (l₂:=ts.map (·.tb)) (fun b d=>by
  obtain⟨t,e,f⟩:=h.ww s b d;exact Ku.2 ⟨t,e,f⟩)
 simpa using c
variable {t : Zx}
theorem BS.waiters(p:bT (Q_ Kq)){k:LK->List Nat}(h:BS Kq ts k)(_hn:(ts.map (·.tb)).Nodup){i:Nat}(d:ts[i]? =some t)(q:bZ (Q_ Kq) (Qj (Qk ts)) t.r):∀b∈k t.r.name,∃(j:Nat) (u:Zx),j≠i/\ts[j]? =some u/\u.tb=b/\1<=u.op/\u.op<=1000:=fun b e=>by
 obtain⟨u,c,f⟩:=h.ww _ b e;obtain⟨_,_,s⟩:=h.self (Kg d) q;obtain⟨j,l,rfl⟩:=Kb c;have v:=(h.wt t.r.name ts[j] c).1 (by rw[f];exact e);have m:=h.op ts[j] c;refine⟨j,ts[j],fun w=>?_,JV l,f, ?_, ?_⟩
 ·subst w;rw[JV l] at d;cases d;exact s _ (by rw[f];exact e)
 ·rw[m];exact List.length_pos_of_mem v
 ·rw[m];obtain⟨A,n,x,y⟩:=(h.good.good ts[j].r (Le c)).act;have B:=(iV (p _ _ n).1 x y).1;unfold pend
  split
  ·exact JR _
  ·rw[n];simp only;have:=List.length_filter_le (fun a=>(bP (Q_ Kq) (Qj (Qk ts)) a).isNone) (stepOf A ts[j].r.at').asks;omega
structure sV (Kq:List Qq) (σ:Env) (t t2:Zx):Prop where
 nx:Y_ (Q_ Kq) σ t.r= (if (stepOf ⟨t.cost,t.steps⟩ t2.r.at').fin=true then {t2.r with over:=true,fail:=(stepOf ⟨t.cost,t.steps⟩ t2.r.at').bad,text:=mZ (stepOf ⟨t.cost,t.steps⟩ t2.r.at').give t2.r.texts} else t2.r,(stepOf ⟨t.cost,t.steps⟩ t2.r.at').asks)
 lo:0<=t2.r.at'
 hi:t2.r.at' < t.steps.length
 ov:t2.r.over=false
 vi:t2.r.Zj≠0
 nm:t2.r.name=t.r.name
theorem sV.first{σ:Env}{t1:Zx}(a:t1= {t with r:={t.r with Zj:=t.r.Zj+1}})(b:t.r.Zj=0)(c:Q_ Kq t.r.name=some ⟨t.cost,t.steps⟩)(d:bZ (Q_ Kq) σ t.r)(e:0<=t.r.at')(f:t.r.at' < t.steps.length):sV Kq σ t t1:=by
 subst a;refine⟨?_,e,f,d.1,by show t.r.Zj+1≠0;omega,rfl⟩;unfold Y_;rw[c];simp only;rw[Lt b]
 rfl
variable {xs : List Xq}
theorem EG{σ:Env}(a:Q_ Kq t.r.name=some ⟨t.cost,t.steps⟩)(b:t.r.Zj≠0)(e:t.r.Zj<20)(c:Yq (Q_ Kq) σ (stepOf ⟨t.cost,t.steps⟩ t.r.at').asks=some xs)(d:(eY (stepOf ⟨t.cost,t.steps⟩ t.r.at') xs).over=true):Y_ (Q_ Kq) σ t.r= ({t.r with Zj:=t.r.Zj+1,over:=true,fail:=true,text:=(eY (stepOf ⟨t.cost,t.steps⟩ t.r.at') xs).text},[]):=by
 unfold Y_;rw[a];simp only;rw[Lu b,c];simp only;rw[Lu (by omega),Lt d]
theorem sV.gone{a:Zx}(i:bT (Q_ Kq))(j:dB Kq (Qk ts))(hgd:t.r.Good Kq)(b:Q_ Kq t.r.name=some ⟨t.cost,t.steps⟩)(c:bZ (Q_ Kq) (Qj (Qk ts)) t.r)(k:t.r.Zj≠0)(q:t.r.Zj<20)(l:Yq (Q_ Kq) (Qj (Qk ts)) (stepOf ⟨t.cost,t.steps⟩ t.r.at').asks=some xs)(m:(eY (stepOf ⟨t.cost,t.steps⟩ t.r.at') xs).over=false)(h2:a.r= {t.r with Zj:=t.r.Zj+1,at':=(eY (stepOf ⟨t.cost,t.steps⟩ t.r.at') xs).at',texts:=t.r.texts++aM xs}):sV Kq (Qj (Qk ts)) t a:=by
 have d:Y_ (Q_ Kq) (Qj (Qk ts)) t.r= (if (stepOf ⟨t.cost,t.steps⟩ a.r.at').fin=true then {a.r with over:=true,fail:=(stepOf ⟨t.cost,t.steps⟩ a.r.at').bad,text:=mZ (stepOf ⟨t.cost,t.steps⟩ a.r.at').give a.r.texts} else a.r,(stepOf ⟨t.cost,t.steps⟩ a.r.at').asks):=by
  unfold Y_;rw[b];simp only;rw[Lu k,l];simp only;rw[Lu (by omega),Lu (by rw[m];simp),h2]
  rfl
 have n:=(fG i j.env hgd c).act;obtain⟨s,e,f,h⟩:=n;rw[eG,b] at e;cases e;have p:(Y_ (Q_ Kq) (Qj (Qk ts)) t.r).1.at'=a.r.at':=by rw[d];simp only;split <;> rfl
 rw[p] at f h;exact⟨d,f,h,by rw[h2];exact c.1,by rw[h2];show t.r.Zj+1≠0;have:=hgd.lo;omega,by rw[h2]⟩
theorem mX{W:fQ}{σ b:Env}(h:∀a,bP W b a=bP W σ a):∀l,Yq W b l=Yq W σ l
 | []=>rfl
 | a :: l=>by unfold Yq;rw[h a,mX h l]
theorem xh{i:Nat}{t1:Zx}(b:cO (Qk ts))(c:ts[i]? =some t)(_ho:t.r.over=false)(d:t1= {t with r:={t.r with Zj:=t.r.Zj+1}}){l:List LK}:Yq (Q_ Kq) (Qj (Qk (ts.set i t1))) l=Yq (Q_ Kq) (Qj (Qk ts)) l:=by
 refine mX (fun n=>?_) l;have h:i<ts.length:=(JW.1 c).1;have f:(Qk ts)[i]? =some t.r:=by unfold Qk;rw[List.getElem?_map,c];rfl
 unfold bP;cases Q_ Kq n with
 | none=>rfl
 | some A=>
  simp only;rw[nL h,yP b f (by rw[d])];by_cases e:n=t.r.name
  ·rw[Lt e,e,bI b (Kg f),d]
  ·rw[Lu e]
variable {s : Xj}
theorem Cq(f:bT (Q_ Kq))(v:∀y∈Kq,y.Fits)(a:Q_ Kq t.r.name=some ⟨t.cost,t.steps⟩)(hgd:t.r.Good Kq)(w:bZ (Q_ Kq) (Qj (Qk ts)) t.r)(A:dB Kq (Qk ts))(B:t.r.Zj≠0)(b:s=stepOf ⟨t.cost,t.steps⟩ t.r.at')(c:Yq (Q_ Kq) (Qj (Qk ts)) s.asks=some xs):
  s.Fits/\s.fin=false/\s.asks.length<=5/\(∀x∈s.asks,x.size<=20)/\(s.asks.length≠0->0<=s.on/\s.on<s.asks.length)/\vG s xs/\∀x∈xs,x.text.size<=200:=by
 obtain⟨K,i,C,d⟩:=hgd.act;rw[a] at i;cases i;have j:s.fin=false:=by rw[b];exact hgd.stp _ a w.1 B
 obtain⟨k,l⟩:=iV (f _ _ a).1 C d;rw[<-b] at k l;have m:∀x∈s.asks,x.size<=20:=fun x c=>(l x c).2.1
 obtain⟨D,E⟩:=pX A.env m c;have F:=(f _ _ a).1.2.2 t.r.at'.toNat (by dsimp only at d⊢;omega);have G:ku s t.steps.length:=by rw[b];exact F
 have H:=(G.2 j).1.2.2.2.2.2.2.2;refine⟨?_,j,k,m,fun L=>?_,D,E⟩
 ·obtain⟨I,n,_,_,e⟩:=gP a;simp only[fP.mk.injEq] at e;have J:=v _ (J_ n);have p:s∈(Kq.getD I Qq.zero).steps:=by
   rw[b,<-e.2];unfold stepOf;dsimp only at d⊢;have q:t.r.at'.toNat<t.steps.length:=by omega
   simp only[List.getD,JV q,Lx];exact J_ q
  simp only[List.getD,JV n,Lx] at p;exact J.each s p
 ·rcases H with h|h
  ·rw[h];omega
  ·exact h
theorem step_ok{x:Int}(a:bT (Q_ Kq))(b:Q_ Kq t.r.name=some ⟨t.cost,t.steps⟩)(d:0<=x)(e:x<t.steps.length)(c:s=stepOf ⟨t.cost,t.steps⟩ x):ku s t.steps.length:=by
 rw[c];exact (a _ _ b).1.2.2 x.toNat (by dsimp only;omega)
theorem wY{x:Int}(a:bT (Q_ Kq))(b:Q_ Kq t.r.name=some ⟨t.cost,t.steps⟩)(c:0<=x)(d:x<t.steps.length)(e:s=stepOf ⟨t.cost,t.steps⟩ x)(f:s.fin=true):s.asks=[]:=
 Kh.1 ((step_ok a b c d e).1 f).1
theorem tL{x:Int}(c:bT (Q_ Kq))(d:Q_ Kq t.r.name=some ⟨t.cost,t.steps⟩)(e:0<=x)(f:x<t.steps.length)(i:s=stepOf ⟨t.cost,t.steps⟩ x):s.asks.Nodup:=by
 have h:=step_ok c d e f i;cases a:s.fin with
 | true=>rw[Kh.1 (h.1 a).1];exact List.nodup_nil
 | false=>
  have j:=(h.2 a).1.2.2.2.1;rw[List.Nodup,Ka];intro k l m b n p;have:=(j l b).2 k n;simp only[List.getD,JV m,JV b,Lx] at this;exact this p
theorem DY{x:Int}(d:∀y∈Kq,y.Fits)(f:Q_ Kq t.r.name=some ⟨t.cost,t.steps⟩)(j:0<=x)(l:x<t.steps.length)(h:s=stepOf ⟨t.cost,t.steps⟩ x):s.give.size<=maxLen:=by
 obtain⟨k,a,_,_,e⟩:=gP f;simp only[fP.mk.injEq] at e;have i:=d _ (J_ a);have b:s∈(Kq.getD k Qq.zero).steps:=by
  rw[h,<-e.2];unfold stepOf;dsimp only;have c:x.toNat<t.steps.length:=by omega
  simp only[List.getD,JV c,Lx];exact J_ c
 simp only[List.getD,JV a,Lx] at b;exact (i.each s b).give
theorem Ew{a:Zx}(c:bT (Q_ Kq))(d:dB Kq (Qk ts))(hgd:t.r.Good Kq)(e:bZ (Q_ Kq) (Qj (Qk ts)) t.r)(h:sV Kq (Qj (Qk ts)) t a):a.r.texts.length<=1000:=by
 have b:=fG c d.env hgd e;have f:(Y_ (Q_ Kq) (Qj (Qk ts)) t.r).1.texts=a.r.texts:=by rw[h.nx];simp only;split <;> rfl
 have i:=b.tl;have j:=b.hi;rw[f] at i;omega
def Jv(G:bX)(Kq:List Qq)(wz:LP)(bb:Nat)(a:LM)(cap:Nat)(rd:LM)(rn rc mb mx:Nat)(ts:List Zx)(d:LM)(dc:Nat)(f:LK->LQ)(ws:LK->List Nat)(i:Nat)(t:Zx)(b:Bool)(w':LP):Prop:=
 (b=true/\∃ts' f' ws',BM G Kq wz w' bb a cap rd rn rc mb mx ts' d dc f' ws'/\BS Kq ts' ws'/\Qj (Qk ts')=doX (Q_ Kq) (Qj (Qk ts)) t.r.name)\/
 (b=false/\∃t2,BM G Kq wz w' bb a cap rd rn rc mb mx (ts.set i t2) d dc f ws/\t2.tb=t.tb/\(t2.op=t.op/\t2.bl=t.bl/\t2.qs=t.qs)/\t2.cost=t.cost/\t2.steps=t.steps/\sV Kq (Qj (Qk ts)) t t2)
section
variable {G : bX} {Kq : List Qq} {wz w w' : LP} {bb : Nat} {a : LM} {cap : Nat} {rd : LM} {rn rc : Nat} {mb mx : Nat} {ts : List Zx} {d : LM} {dc : Nat} {f : LK -> LQ} {ws : LK -> List Nat}
theorem zS(hB:BM G Kq wz w bb a cap rd rn rc mb mx ts d dc f ws)(hS:BS Kq ts ws){i:Nat}(hi:ts[i]? =some t)(hc:bZ (Q_ Kq) (Qj (Qk ts)) t.r)(F:bT (Q_ Kq))(e5:∀y∈Kq,y.Fits)(c2:Kq.length<=60)(i9:fE Kq)(hN:bN wz a Kq)(m1:mx<=90000)(j0:fT wz):
  Calls prog 106 #[.pointer (some ⟨bb,0,none⟩),.pointer (some ⟨t.tb,0,none⟩)] w fun e w'=>e= .returned (.tuple #[])/\∃X d' dc' f' a1,BM G Kq wz w' bb a cap rd rn rc mb (mx+6) X d' dc' f' a1/\BS Kq X a1/\Qj (Qk X)=doX (Q_ Kq) (Qj (Qk ts)) t.r.name:=by
 have ht:t∈ts:=List.mem_of_getElem? hi;obtain⟨m2,j1,m3⟩:=hS.self ht hc;have hgd:=hS.good.good t.r (List.mem_map_of_mem ht);have hA:=(hB.act t ht).1;obtain⟨A',e6,e7,c3⟩:=hgd.act;rw[hA] at e6;cases e6;dsimp only at c3;have hT:=hB.at hi;have j2:w.cell? ⟨t.tb,5,none⟩=some (.int .i64 t.r.Zj):=hT.rng 5 _ rfl;have tz:=hT.row.lt;obtain⟨_,e8⟩:=hT.row.row.at (i:=5) (by omega);have lo:=hgd.lo;have m4:=hgd.hi;have m5:=hB.len c2;have f0:i<ts.length:=(List.getElem?_eq_some_iff.1 hi).1;have c4:=Kz (hS.waiters F hB.tbs hi hc);have m6:=hS.Jn t.r.name;have c5:t.r.name.size<=1000:=by have:=(F _ _ hA).2.2.1;omega
 have⟨HB,q,H,B,x⟩:=jb hB hS hi hc hA;have HG:=Kz hgd;clear hB hS hi hc hA hT hgd j1;go_enter func106,ntmps106
 go_wp2_with fail
 refine (Eg w t.tb t.r.Zj j2).mono ?_;rintro e w0 ⟨c6,f1⟩;rw[f1];clear f1 w0;rcases c6.cases with⟨rfl,a9⟩|⟨rfl,a9⟩
 ·have b7:=Kz a9;clear a9 c6;go_wp2_with fail
  refine (l_ HB.o H.o true nK c5 (by omega) (fun b O=>?_) (q.o.wn _)).mono ?_
  ·obtain⟨b0,u,Y,b1,h3,h4,h5⟩:=c4.o b O;exact⟨b0,u,by rw[Km (Ne.symm Y)];exact b1,h3,h4,h5⟩
  rintro e wF ⟨rfl,a2⟩;have c7:=Kz a2;clear a2;go_wp2_with fail
  refine bodyPost_ret (results_none rfl _ _ _) rfl ?_;obtain⟨xs,Z⟩:=o_ B.o x.o (by have:=b7.o;omega);have n:Y_ (Q_ Kq) (Qj (Qk ts)) t.r= ({t.r with over:=true,fail:=true,text:=nK},[]):=by
   unfold Y_;rw[x.o];simp only;rw[Lu (by have:=b7.o;omega),Z];simp only;rw[Lt b7.o]
  obtain⟨q1,q2⟩:=q.o.ended F HB.o.tbs (t':=t.ended true nK) H.o B.o (by rw[n];rfl) rfl (by rw[n]) rfl rfl (.inl ⟨(q.o.bl t (Kg H.o)).open B.o.1,fun _ _=>.inl rfl⟩) rfl;exact⟨rfl,_,d,dc,_,_,c7.o.more (by omega),q1,q2⟩
 ·have b7:=Kz a9;have f2:t.r.Zj<20:=by omega
  clear a9 c6;obtain⟨P,b8⟩:∃P:Zx,P= {t with r:={t.r with Zj:=t.r.Zj+1}}:=⟨_,rfl⟩;obtain⟨W1,c9⟩:=aj (w.setCell ⟨t.tb,5,none⟩ (.int .i64 (t.r.Zj+1)));have d0:Hid (BM G Kq wz W1 bb a cap rd rn rc mb mx (ts.set i P) d dc f ws):=by rw[c9,b8];exact HB.o.store H.o (by omega) rfl rfl rfl rfl rfl rfl rfl rfl rfl rfl
  have f3:Hid ((ts.set i P)[i]? =some P):=Lr f0;go_upto_region 3 with fail
  rw[<-c9];clear c9;have j3:W1.cell? ⟨t.tb,5,none⟩=some (.int .i64 (t.r.Zj+1)):=by have h:=(d0.o.at f3.o).rng 5 _ rfl;rw[b8] at h;exact h
  have k:=Kz b8;clear b8;go_cut [30] from 19 to 29 (fun j4 wx=>∃b:Bool,j4= .bool b/\Jv G Kq wz bb a cap rd rn rc mb mx ts d dc f ws i t b wx)
  case first=>
   by_cases a3:t.r.Zj=0
   ·have j5:¬(1:Int)<t.r.Zj+1:=by omega
    have j6:=Kz a3;clear a3;go_wp2
    go_meet
    exact⟨false,rfl,.inr ⟨rfl,P,d0.o,by rw[k.o],by rw[k.o];exact⟨rfl,rfl,rfl⟩,by rw[k.o],by rw[k.o],sV.first k.o j6.o x.o B.o e7 c3⟩⟩
   ·have j5:(1:Int)<t.r.Zj+1:=by omega
    have d1:=Kz a3;obtain⟨xs,Z⟩:=o_ B.o x.o a3;obtain⟨s,I⟩:=aj (stepOf ⟨t.cost,t.steps⟩ t.r.at');rw[<-I] at Z;obtain⟨hF,Q,b2,f4,f5,f6,f7⟩:=Cq F e5 x.o HG.o B.o q.o.good a3 I Z;have f8:Yq (Q_ Kq) (Qj (Qk (ts.set i P))) s.asks=some xs:=by rw[xh q.o.good.asc H.o B.o.1 k.o];exact Z
    have j7:t.r.texts.length<=1000:=by have:=HG.o.tl;omega
    have⟨f9,a4⟩:=aH Z I;have g0:=Kz (wP d0.o (t:=P) f3.o s (by rw[k.o];exact I) (by rw[k.o];exact e7) (by rw[k.o];exact c3) Q xs f8 f7 (kD f6) hF b2 f4 f5 c2 (by rw[k.o];exact j7) (by rw[k.o];exact c5) (by rw[k.o];show (ws t.r.name).length<=1000;omega) (fun b O=>by
     rw[k.o] at O;obtain⟨b0,u,Y,b1,h3,h4,h5⟩:=c4.o b O;exact⟨b0,u,Y,by rw[Km (Ne.symm Y)];exact b1,h3,h4,h5⟩) (by rw[k.o];exact q.o.wn _))
    have j8:Hid (P.tb=t.tb):=by rw[k.o];rfl
    rw[j8.o] at g0;clear a3 Z I hF Q b2 f4 f5 f6 f7 f8;go_wp2_with fail
    refine g0.o.mono ?_;rintro e C (⟨b3,rfl,bl,g2,b4⟩|⟨b3,rfl,m7,b4⟩)
    ·have g3:=Kz g2;clear g2;have⟨d2,d3⟩:=aH b4 b3;clear b4 b3;go_wp2
     go_meet
     have b5:=d2.o;rw[k.o,List.set_set] at b5;have n:=EG x.o d1.o f2 (by rw[<-a4.o];exact f9.o) (by rw[<-a4.o];exact d3.o);obtain⟨q1,q2⟩:=q.o.ended F HB.o.tbs (t':=(({t with bl:=bl,r:={t.r with Zj:=t.r.Zj+1}}:Zx).ended true (eY s xs).text)) H.o B.o (by rw[n,a4.o];rfl) rfl (by rw[n]) rfl rfl (.inr ⟨rfl,rfl,⟨⟨t.cost,t.steps⟩,x.o,HG.o.stp _ x.o B.o.1 d1.o,by have h:=g3.o.1;rw[k.o] at h;exact h⟩,g3.o.2⟩) rfl;exact⟨true,rfl,.inl ⟨rfl,_,_,_,b5,q1,q2⟩⟩
    ·have d2:=Kz b4;have d3:=Kz b3;clear b4 b3;go_wp2
     go_meet
     have b5:=d2.o;rw[k.o,List.set_set] at b5;exact⟨false,rfl,.inr ⟨rfl,_,b5,rfl,⟨rfl,rfl,rfl⟩,rfl,rfl,sV.gone F q.o.good HG.o x.o B.o d1.o f2 (by rw[<-a4.o];exact f9.o) (by rw[<-a4.o];exact d3.o) (by rw[<-a4.o])⟩⟩
  case rest=>
   obtain⟨b,rfl,hm⟩:=hcut;obtain⟨C,rfl⟩:=aj wc;rcases hm with⟨rfl,X,f',a1,g4,g5,g6⟩|⟨rfl,c,E,e1,e2,j9,d4,R⟩
   ·have k0:=Kz g4;have⟨k1,k2⟩:=aH g5 g6;clear g4 g5 g6;go_wp2_with fail
    refine bodyPost_ret (results_none rfl _ _ _) rfl ?_;exact⟨rfl,X,d,dc,f',a1,k0.o.more (by omega),k1.o,k2.o⟩
   have b9:(ts.set i c)[i]? =some c:=Lr f0;have c0:=E.at b9;have g7:=E.act c (Kg b9);obtain⟨j,d5⟩:∃j:Nat,c.r.at'= (j:Int):=⟨c.r.at'.toNat,by have:=R.lo;omega⟩;have k3:j<c.steps.length:=by have:=R.hi;rw[d4];omega
   obtain⟨l,p,cs,g8,S,M,T,U,a0,cc,rfl,d6,g9,_⟩:=g7.2 j k3;obtain⟨s,I⟩:=aj (stepOf ⟨t.cost,t.steps⟩ c.r.at');have h1:c.steps.getD j Xj.zero=s:=by rw[I,d4];unfold stepOf;rw[d5];rfl
   rw[h1] at M d6 g9;have c8:C.cell? ⟨t.tb,8,none⟩=some (.slice c.sa c.steps.length c.sc):=by rw[<-e1];exact c0.rng 8 _ rfl
   have d7:C.cell? ⟨t.tb,4,none⟩=some (.int .i64 c.r.at'):=by rw[<-e1];exact c0.rng 4 _ rfl
   rw[g8] at c8;rw[d5] at d7;have h2:t.tb<C.heap.size:=by rw[<-e1];exact c0.row.lt
   have W:l<C.heap.size:=JQ S E.kw.size;have y0:C.cell? ⟨l,p+j*8,none⟩=some (.slice T s.asks.length U):=(E.kw.cell S).trans (M 0 _ rfl);have y1:C.cell? ⟨l,p+j*8+1,none⟩=some (.int .i64 s.on):=(E.kw.cell S).trans (M 1 _ rfl);have y2:C.cell? ⟨l,p+j*8+2,none⟩=some (.slice a0 s.cases.length cc):=(E.kw.cell S).trans (M 2 _ rfl);have y3:C.cell? ⟨l,p+j*8+3,none⟩=some (.int .i64 s.els):=(E.kw.cell S).trans (M 3 _ rfl);have y4:C.cell? ⟨l,p+j*8+4,none⟩=some (.int .i64 s.fall):=(E.kw.cell S).trans (M 4 _ rfl);have y5:C.cell? ⟨l,p+j*8+5,none⟩=some (.bool s.fin):=(E.kw.cell S).trans (M 5 _ rfl);have y6:C.cell? ⟨l,p+j*8+6,none⟩=some (.bool s.bad):=(E.kw.cell S).trans (M 6 _ rfl);have y7:C.cell? ⟨l,p+j*8+7,none⟩=some (.string s.give):=(E.kw.cell S).trans (M 7 _ rfl);have h6:Hid (∀w',K_ C w'->w'.cell? ⟨t.tb,8,none⟩=some (.slice (some ⟨l,p,none⟩) c.steps.length c.sc)/\w'.cell? ⟨t.tb,4,none⟩=some (.int .i64 (j:Int))/\w'.cell? ⟨l,p+j*8,none⟩=some (.slice T s.asks.length U)/\w'.cell? ⟨l,p+j*8+1,none⟩=some (.int .i64 s.on)/\w'.cell? ⟨l,p+j*8+2,none⟩=some (.slice a0 s.cases.length cc)/\w'.cell? ⟨l,p+j*8+3,none⟩=some (.int .i64 s.els)/\w'.cell? ⟨l,p+j*8+4,none⟩=some (.int .i64 s.fall)/\w'.cell? ⟨l,p+j*8+5,none⟩=some (.bool s.fin)/\w'.cell? ⟨l,p+j*8+6,none⟩=some (.bool s.bad)/\w'.cell? ⟨l,p+j*8+7,none⟩=some (.string s.give)):=fun w' K=>⟨(K.cell h2).trans c8,(K.cell h2).trans d7,(K.cell W).trans y0,(K.cell W).trans y1,(K.cell W).trans y2,(K.cell W).trans y3,(K.cell W).trans y4,(K.cell W).trans y5,(K.cell W).trans y6,(K.cell W).trans y7⟩
   have⟨h7,a5,k4,N,a6⟩:=jb E b9 d6 R I;have⟨E1,E2⟩:=aH e1 e2;have m8:(j:Int)<(c.steps.length:Int):=by omega
   obtain⟨g1,h8⟩:=iV (F _ _ x.o).1 R.lo (by exact R.hi);rw[<-I] at g1 h8;have k5:s.give.size<=maxLen:=DY e5 x.o R.lo R.hi I;have m9:c.r.texts.length<=1000:=Ew F q.o.good HG.o B.o R;clear E b9 c0 g7 g8 M d6 g9 h1 c8 d7 y0 y1 y2 y3 y4 y5 y6 y7 R d5 I e1 e2 j9 d4 j3;go_upto_region 4 with fail
   refine bf 13 h6.o fun V KD J=>?_
   refine au 0 J ?_;refine au 4 J ?_;refine au 8 J ?_;refine ah 12 (fun K L=>?_);go_simp
   have K2:K_ V (V.alloc (.cells #[.slice none 0 0,.int .i64 0,.slice none 0 0,.int .i64 0,.int .i64 0,.bool false,.bool false,.string ⟨#[]⟩] 83)):=ag _ _;have D:aC (V.alloc (.cells #[.slice none 0 0,.int .i64 0,.slice none 0 0,.int .i64 0,.int .i64 0,.bool false,.bool false,.string ⟨#[]⟩] 83)) V.heap.size 83 8:=aC.made V _ _;have KE:=KD.trans K2;have nz:=KD.size;obtain⟨A,i0⟩:=aj V.heap.size;refine L.out _ _ (fun _=>h6.o _ KE) ?_;clear L K J;rw[<-i0] at D nz⊢;generalize k7:V.alloc (.cells #[.slice none 0 0,.int .i64 0,.slice none 0 0,.int .i64 0,.int .i64 0,.bool false,.bool false,.string ⟨#[]⟩] 83)=wE at D KE⊢;clear k7 K2 i0;try simp only[upP]
   obtain⟨⟨_,v0⟩,k8⟩:=D.row.at (i:=0) (by omega);obtain⟨⟨_,v1⟩,k9⟩:=D.row.at (i:=1) (by omega);obtain⟨⟨_,v2⟩,l0⟩:=D.row.at (i:=2) (by omega);obtain⟨⟨_,v3⟩,l1⟩:=D.row.at (i:=3) (by omega);obtain⟨⟨_,v4⟩,l2⟩:=D.row.at (i:=4) (by omega);obtain⟨⟨_,v5⟩,e8⟩:=D.row.at (i:=5) (by omega);obtain⟨⟨_,v6⟩,l3⟩:=D.row.at (i:=6) (by omega);obtain⟨⟨_,v7⟩,l4⟩:=D.row.at (i:=7) (by omega);have vz:=D.lt;refine ah 13 (fun K L=>?_);go_simp
   refine ae L (fun h=>Lv rfl h) ?_;clear L K;refine aB ?_;have b6:=Kz (JU wE A 0 [.slice T s.asks.length U,.int .i64 s.on,.slice a0 s.cases.length cc,.int .i64 s.els,.int .i64 s.fall,.bool s.fin,.bool s.bad,.string s.give] (D.row.there (o:=0) (m:=8) (JP _)));have d8:=Kz (bQ (g:=A) nz [.slice T s.asks.length U,.int .i64 s.on,.slice a0 s.cases.length cc,.int .i64 s.els,.int .i64 s.fall,.bool s.fin,.bool s.bad,.string s.give] 0 KE);have i1:=Kz (aC.sets [.slice T s.asks.length U,.int .i64 s.on,.slice a0 s.cases.length cc,.int .i64 s.els,.int .i64 s.fall,.bool s.fin,.bool s.bad,.string s.give] 0 D);obtain⟨w5,d9⟩:=aj (wE.setCells A 0 [.slice T s.asks.length U,.int .i64 s.on,.slice a0 s.cases.length cc,.int .i64 s.els,.int .i64 s.fall,.bool s.fin,.bool s.bad,.string s.give]);rw[<-d9] at b6 d8 i1;go_upto_region 5 with fail
   have i2:((((((((wE.setCell ⟨A,0,none⟩ (.slice T s.asks.length U)).setCell ⟨A,1,none⟩ (.int .i64 s.on)).setCell ⟨A,2,none⟩ (.slice a0 s.cases.length cc)).setCell ⟨A,3,none⟩ (.int .i64 s.els)).setCell ⟨A,4,none⟩ (.int .i64 s.fall)).setCell ⟨A,5,none⟩ (.bool s.fin)).setCell ⟨A,6,none⟩ (.bool s.bad)).setCell ⟨A,7,none⟩ (.string s.give))=w5:=by rw[d9];rfl
   rw[i2];clear i2 d9 v0 v1 v2 v3 v4 v5 v6 v7 k8 k9 l0 l1 l2 e8 l3 l4 vz D KE nz KD;have a7:=Kz (h7.o.kept d8.o);have q5:w5.cell? ⟨A,5,none⟩=some (.bool s.fin):=b6.o 5 _ rfl;have gz:=i1.o.lt;cases Q:s.fin
   ·rw[Q] at q5;have n0:w5.cell? ⟨A,0,none⟩=some (.slice T s.asks.length U):=b6.o 0 _ rfl;have i3:=Kz (yJ a7.o a5.o T U s.asks g1 (fun l5 hx=>(h8 l5 hx).2.1) (tL F x.o N.o.lo N.o.hi a6.o) k4.o (by omega) c2 i9 hN (fun s' b O=>?_) (fun s'=>by have:=q.o.Jn s';omega) (by rw[E2.out.1];omega));rotate_left
    ·obtain⟨v,hv,e⟩:=q.o.ww s' b O;by_cases g:v.tb=t.tb
     ·exact⟨c,(zD H.o).1,by rw[E1.out,<-g,e]⟩
     ·exact⟨v,(zD H.o).2 v hv g,e⟩
    rw[E1.out] at i3;go_wp2_with fail
    refine i3.o.mono ?_;rintro e w6 ⟨rfl,l6,X,d',dc',f',a1,b2,i4,i5⟩;have⟨e0,l7,l8⟩:=dK i4 i5 b2;clear i4 i5 b2;go_wp2
    go_end0
    have n:=N.o.nx;rw[<-a6.o,Q] at n;simp only[Bool.false_eq_true,if_false] at n;obtain⟨z1,z2⟩:=q.o.asked F HB.o.tbs (ts0:=l6) (t1:={c with qs:=c.qs++s.asks.map Value.string}) H.o B.o (by show c.r=_;rw[n]) N.o.ov N.o.vi E1.out ⟨E2.out.1,E2.out.2.1,by show c.qs++_=_;rw[n,E2.out.2.2]⟩ (by have h:=l8.o;rw[List.set_set] at h;exact h) e0.o.asc e0.o.tbs x.o (by show _= (stepOf _ c.r.at').asks;rw[n,a6.o]) (by have h:=l7.o;rw[E1.out] at h;rw[n];exact h);exact⟨rfl,X,d',dc',f',a1,e0.o,z1,z2⟩
   ·rw[Q] at q5;have i6:Hid (∀w',K_ w5 w'->w'.cell? ⟨A,6,none⟩=some (.bool s.bad)/\w'.cell? ⟨A,7,none⟩=some (.string s.give)/\w'.cell? ⟨t.tb,6,none⟩=some (c.tv)):=fun w' K=>⟨(K.cell gz).trans (b6.o 6 _ rfl),(K.cell gz).trans (b6.o 7 _ rfl),by rw[<-E1.out];exact ((a7.o.kept K).at a5.o).rng 6 _ rfl⟩
    obtain⟨ta,tc,c1⟩:=ax (a7.o.at a5.o).txt;have l9:=Kz c1;have i7:Hid (c.r.texts.length<=tc/\∀e3,K_ w5 e3->Strs e3 ta c.r.texts):=by
     refine⟨?_,fun e3 K=>?_⟩
     ·have i8:=(a7.o.at a5.o).txt;rw[c1] at i8;rcases i8.2 with⟨e,h0⟩|⟨g,cp,n1,e,_,_,n2,_⟩
      ·omega
      ·simp only[KX] at e;omega
     ·obtain⟨n3,n4,e9,h9⟩:=aX ((a7.o.kept K).at a5.o).txt;rw[c1] at e9;simp only[KX] at e9;rw[e9.1];exact h9
    clear c1;go_upto_region 6 with fail
    refine bf 12 i6.o fun V KD J=>?_
    refine au 0 J ?_;refine au 4 J ?_;refine af 8 J ?_;refine af 9 J ?_;refine af 10 J ?_;refine ak 11 (fun K L=>?_);go_simp
    go_at_call 142
    rw[l9.o];refine (j0 V s.give ta tc c.r.texts (h7.o.kw.trans (d8.o.trans KD)) k5 (by unfold maxLen;omega) (i7.o.2 _ KD) i7.o.1).mono ?_;rintro e w6 ⟨rfl,k6⟩;have K6:=KD.trans k6;refine ae L (fun _=>i6.o _ K6) ?_;clear L K J;refine ak 12 (fun K L=>?_);go_simp
    go_at_call 140
    have a8:=N.o.nm;have e4:=l_ (a7.o.kept K6) a5.o s.bad (mZ s.give c.r.texts) (by rw[a8];exact c5) (by rw[a8];omega) (fun b O=>by
     rw[a8] at O;obtain⟨b0,u,Y,b1,h3,h4,h5⟩:=c4.o b O;exact⟨b0,u,by rw[Km (Ne.symm Y),Km (Ne.symm Y)];exact b1,h3,h4,h5⟩) (by rw[a8];exact q.o.wn _)
    rw[E1.out,a8] at e4;refine e4.mono ?_;rintro e wF ⟨rfl,a2⟩;rw[List.set_set] at a2;have c7:=Kz a2;clear a2 e4 a8;refine ae L (fun h=>Lv rfl h) ?_;clear L K;refine aB ?_;go_wp2_with fail
    refine bodyPost_ret (results_none rfl _ _ _) rfl ?_;have n:=N.o.nx;rw[<-a6.o,Q] at n;simp only[if_true] at n;have m0:s.asks=[]:=wY F x.o N.o.lo N.o.hi a6.o Q;obtain⟨z1,z2⟩:=q.o.ended F HB.o.tbs (t':=c.ended s.bad (mZ s.give c.r.texts)) H.o B.o (by rw[n];rfl) rfl (by rw[n];exact m0) E1.out E2.out.1 (.inl ⟨E2.out.2.1.trans ((q.o.bl t (Kg H.o)).open B.o.1),fun _ _=>.inr ⟨⟨t.cost,t.steps⟩,by show Q_ Kq c.r.name=_;rw[N.o.nm];exact x.o,by show (stepOf ⟨t.cost,t.steps⟩ c.r.at').fin=true;rw[<-a6.o];exact Q⟩⟩) E2.out.2.2;exact⟨rfl,_,d,dc,_,_,c7.o.more (by omega),z1,z2⟩
end
theorem vw{l:List Qq}(h:bn l 0):fE l:=by
 have a:¬gZ l:=by
  rcases h with⟨_,e⟩|⟨_,_,e⟩|⟨_,_,_,e⟩|⟨_,_,_,_,e⟩|⟨_,_,b,_,_⟩
  ·omega
  ·omega
  ·omega
  ·omega
  ·exact b
 refine Bf fun i c=>?_
 cases d:Op.bytesLess (nameAt l i) (nameAt l (i+1))
 ·exact Lv ⟨i,c,d⟩ a
 ·rfl
structure yD (Kq:List Qq) (L:List LK) (ts:List Zx):Prop where
 env:∀n,Qj (Qk ts) n=if dW L n=true/\(Q_ Kq n).isSome=true then some (Qz.fresh n) else none
 fr:∀t∈ts,t.r=Qz.fresh t.r.name/\t.op=0/\t.bq= (⟨#[]⟩,[])
theorem yD.nil(a:List Qq):yD a [] []:=⟨fun n=>by rw[Lu (by simp[dW])];rfl,fun t h=>by cases h⟩
variable {Kq : List Qq}
theorem yD.want{L:List LK}{b l:List Zx}{n:LK}(h:yD Kq L b)(E:cO (Qk b))(s:cO (Qk l))(e:FL Kq b n l):yD Kq (L++ [n]) l:=by
 have f:∀m,dW (L++ [n]) m=true↔dW L m=true\/m=n:=fun m=>by simp[dY]
 rcases e with⟨rfl,e⟩|⟨p,new,rfl,q,t,F,v⟩
 ·refine⟨fun m=>?_,h.fr⟩;rw[h.env m];by_cases a:dW L m=true/\(Q_ Kq m).isSome=true
  ·rw[Lt a,Lt ⟨(f m).2 (.inl a.1),a.2⟩]
  ·rw[Lu a,Lu];rintro⟨d,i⟩;rcases (f m).1 d with g|g
   ·exact a ⟨g,i⟩
   ·subst g;rcases e with e|⟨w,y,j⟩
    ·rw[e] at i;cases i
    ·have:=h.env m;rw[Lu a] at this;exact iE.1 this w y j
 ·have k:∀u,u∈b.take p++new :: b.drop p↔u=new\/u∈b:=fun u=>by
   rw[JZ,Lb];constructor
   ·rintro (h|h|h)
    ·exact .inr (List.mem_of_mem_take h)
    ·exact .inl h
    ·exact .inr (List.mem_of_mem_drop h)
   ·rintro (h|h)
    ·exact .inr (.inl h)
    ·rw[<-Lj p b] at h;rcases JZ.1 h with h|h
     ·exact .inl h
     ·exact .inr (.inr h)
  refine⟨fun m=>?_,fun u c=>?_⟩
  ·by_cases j:m=n
   ·subst j;rw[Lt ⟨(f m).2 (.inr rfl),v⟩];have:=bI s (r:=new.r) (Le ((k new).2 (.inl rfl)));rw[q] at this;exact this
   ·have A:Qj (Qk (b.take p++new :: b.drop p)) m=Qj (Qk b) m:=by
     cases d:Qj (Qk b) m with
     | some x=>
      obtain⟨B,C⟩:=bF d;obtain⟨u,c,rfl⟩:=Ku.1 B;have:=bI s (r:=u.r) (Le ((k u).2 (.inr c)));rw[C] at this;exact this
     | none=>
      rw[iE] at d⊢;intro u c;rcases (k u).1 c with rfl|c
      ·rw[q];exact fun D=>j D.symm
      ·exact d u c
    rw[A,h.env m];by_cases a:dW L m=true/\(Q_ Kq m).isSome=true
    ·rw[Lt a,Lt ⟨(f m).2 (.inl a.1),a.2⟩]
    ·rw[Lu a,Lu];rintro⟨d,i⟩;rcases (f m).1 d with g|g
     ·exact a ⟨g,i⟩
     ·exact j g
  ·rcases (k u).1 c with rfl|c
   ·exact⟨by rw[q];rfl,t⟩
   ·exact h.fr u c
theorem yD.done{Kk:List LK}{c:List Zx}(h:yD Kq Kk c)(f:bT (Q_ Kq))(e:cO (Qk c)):BS Kq c (fun _=>[])/\Qj (Qk c)=Qj (bV Kq Kk):=by
 refine⟨⟨⟨e,fun r i=>?_⟩,fun t a=>?_,fun s t a=>?_,fun _=>List.nodup_nil,fun s l j=>(by cases j),fun t a=>yC.still (congrArg Prod.fst (h.fr t a).2.2) (by rw[(h.fr t a).1];rfl),fun t a=>uV.still (congrArg Prod.snd (h.fr t a).2.2) (h.fr t a).1⟩, ?_⟩
 ·have b:=bI e i;rw[h.env] at b
  split at b
  ·rename_i d
   have k:Qz.fresh r.name=r:=Lf b;rw[<-k];exact jL f d.2
  ·cases b
 ·obtain⟨b,d⟩:=h.fr t a;rw[b,ma,d.1]
  rfl
 ·obtain⟨b,_⟩:=h.fr t a;rw[b,ma];simp
 ·funext n
  rw[h.env n,pO]
theorem BM.begun{b:LP}{a:LM}{d:Nat}{e:LM}{f i:Nat}(j:aC ((b.alloc (.map #[] 0)).alloc (.cells #[.slice a Kq.length d,.func (.func 133) #[] #[],.slice e f i,.slice none 0 0,.func (.func 101) #[] #[],.map (some b.heap.size)] 112)) (b.heap.size+1) 112 6)(c:((b.alloc (.map #[] 0)).alloc (.cells #[.slice a Kq.length d,.func (.func 133) #[] #[],.slice e f i,.slice none 0 0,.func (.func 101) #[] #[],.map (some b.heap.size)] 112)).rangeAt (b.heap.size+1) 0 [.slice a Kq.length d,.func (.func 133) #[] #[],.slice e f i,.slice none 0 0,.func (.func 101) #[] #[],.map (some b.heap.size)]):
  BM (bX.no b) Kq b ((b.alloc (.map #[] 0)).alloc (.cells #[.slice a Kq.length d,.func (.func 133) #[] #[],.slice e f i,.slice none 0 0,.func (.func 101) #[] #[],.map (some b.heap.size)] 112)) (b.heap.size+1) a d e f i b.heap.size 0 [] none 0 (fun _=>.slice none 0 0) (fun _=>[]):=
 ⟨(ag _ _).alloc _,j,c 0 _ rfl,c 1 _ rfl,c 2 _ rfl,c 3 _ rfl,c 4 _ rfl,c 5 _ rfl,Nat.le_succ _,Ld _ _ _ _,fun t h=>(by cases h),fun t h=>(by cases h),List.Pairwise.nil,List.nodup_nil,List.Pairwise.nil,fun t h=>(by cases h),⟨0,.map [],JP _,(World.ownsMap_made b prog 9 asIs).alloc _,fun s _=>rfl⟩,JP _,fun s=>Ld _ _ _ _,fun s k _ x h=>(by cases h),fun s x h=>(by cases h),fun t h=>(by cases h),Fen.no (by simp only[KR];omega),fun _ h=>(by cases h)⟩
def Jk(Kq:List Qq)(Kk:List LK)(a:LM)(cap:Nat)(rd:LM)(rc:Nat)(w w':LP)(e:Ending):Prop:=
 K_ w w'/\((¬(bn Kq 0/\eO Kk)/\e= .returned (.tuple #[.pointer none,.bool false]))\/
  (bn Kq 0/\eO Kk/\∃wz bb mb ts d dc,e= .returned (.tuple #[.pointer (some ⟨bb,0,none⟩),.bool true])/\K_ w wz/\BM (bX.no wz) Kq wz w' bb a cap rd Kk.length rc mb 0 ts d dc (fun _=>.slice none 0 0) (fun _=>[])/\BS Kq ts (fun _=>[])/\Qj (Qk ts)=Qj (bV Kq Kk)))
theorem CX(w:LP)(a:LM)(f:Nat)(c:List Qq)(h:LM)(i:Nat)(Kk:List LK)(X:c.length<=1048576)(Y:∀s∈c,s.Fits)(Z:Kk.length<=maxLen)(a0:Kk.length<=i)(a1:∀s∈Kk,s.size<=maxLen)(O:bN w a c)(P:Strs w h Kk):
  Calls prog 57 #[.agg #[.slice a c.length f],.slice h Kk.length i] w fun e w'=>Jk c Kk a f h i w w' e:=by
 have a2:c.length<=maxLen:=by unfold maxLen;omega
 go_enter func57,ntmps57
 go_wp2_with fail
 refine (rZ Ht _ a f c a2 Y (O.kept (by repeat (first | apply K_.alloc | exact K_.refl _)))).mono ?_;rintro e w1 ⟨⟨Q,rfl,l⟩,q⟩;have r:K_ w w1:=K_.trans (ag _ _) q;have z1:=q.size;simp only[KR] at z1;have R:=qf (w:=w) q;have m:=Kz l;clear l q;have a3:w.heap.size<w1.heap.size:=by omega
 by_cases C:Q=0
 ·subst C;go_wp2_with fail
  refine (uG _ h i Kk Z a0 a1 (P.kept r)).mono ?_;rintro e w2 ⟨D,t⟩;have q2:=(t.cell (o:=0) a3).trans R;have E:=r.trans t;have z2:=t.size;clear R r t;have b5:w.heap.size<w2.heap.size:=by omega
  rcases D.cases with⟨rfl,S⟩|⟨rfl,T⟩
  ·have v:=Kz S;clear S D;go_wp2_with fail
   refine (vU _ a c.length f).mono ?_;rintro e b ⟨rfl,F⟩;have n:=E.trans F;have z3:=F.size;clear q2 F E;have a4:(Instr.makeMap 110 none).run prog b= .ok (.map (some b.heap.size)) (b.alloc (.map #[] 0)):=rfl;go_wp2
   clear a4;have U:K_ w ((b.alloc (.map #[] 0)).alloc (.cells #[.slice a c.length f,.func (.func 133) #[] #[],.slice h Kk.length i,.slice none 0 0,.func (.func 101) #[] #[],.map (some b.heap.size)] 112)):=(n.alloc _).alloc _;have x:=Xz (b.alloc (.map #[] 0)) #[.slice a c.length f,.func (.func 133) #[] #[],.slice h Kk.length i,.slice none 0 0,.func (.func 101) #[] #[],.map (some b.heap.size)] 112;simp only[KR] at x;have G:=aC.made (b.alloc (.map #[] 0)) #[.slice a c.length f,.func (.func 133) #[] #[],.slice h Kk.length i,.slice none 0 0,.func (.func 101) #[] #[],.map (some b.heap.size)] 112;simp only[KR] at G;have V:BM (bX.no b) c b ((b.alloc (.map #[] 0)).alloc (.cells #[.slice a c.length f,.func (.func 133) #[] #[],.slice h Kk.length i,.slice none 0 0,.func (.func 101) #[] #[],.map (some b.heap.size)] 112)) (b.heap.size+1) a f h Kk.length i b.heap.size 0 [] none 0 (fun _=>.slice none 0 0) (fun _=>[]):=BM.begun G x;have⟨a5,b6⟩:=aH V U;clear x G V U;have a6:=gG m.o;go_loopw [29] (fun H wr=>∃(k:Nat) (y:List Zx) (d:LM) (I:Nat),k<=Kk.length/\H= .int .i64 k/\BM (bX.no b) c b wr (b.heap.size+1) a f h Kk.length i b.heap.size 0 y d I (fun _=>.slice none 0 0) (fun _=>[])/\yD c (Kk.take k) y) (fun H _=>Kk.length-(intOf H).toNat)
   case atStart=>exact⟨0,[],none,0,JR _,rfl,a5.o,yD.nil c⟩
   case round=>
    obtain⟨k,y,d,I,hk,rfl,j,p⟩:=hrel;have b7:=j.len a6;have b8:Kk.length<=10:=v.o.2.1;by_cases J:k<Kk.length
    ·obtain⟨a7,o,rfl,hb,l⟩:=P k J;obtain⟨K,L⟩:=aj (Kk.getD k ByteArray.empty);rw[<-L] at l;have c0:wr.cell? ⟨a7,o+k,none⟩=some (.string K):=((n.trans j.kw).cell hb).trans l;have a8:Hid (Kk.take (k+1)=Kk.take k++ [K]):=by show _=_;rw[JX J,L];simp[List.getD,J]
     have HW:=Kz (tu j K (by omega) X (vw m.o) (O.kept n));have⟨a9,A⟩:=aH j.asc p;have i0:(k:Int)<(Kk.length:Int):=by omega
     clear L j p l;go_wp2_with fail
     refine (a_ HW).mono ?_;rintro e w5 ⟨rfl,b0,d5,b1,M,W⟩;have b2:=Kz M;have b3:=Kz (A.o.want a9.o M.asc W);clear M W;go_wp2
     go_roundw
     case rel=>exact⟨k+1,b0,d5,b1,by omega,by go_num,b2.o,by rw[a8.out];exact b3.o⟩
     case measure=>simp[intOf];omega
    ·have b4:k=Kk.length:=by omega
     subst b4;rw[KI] at p;have⟨B,A⟩:=aH j p;clear j p;go_wp2
     go_ret2
     exact⟨n.trans B.o.kw,.inr ⟨m.o,v.o,b,_,_,y,d,I,rfl,n,B.o,(A.o.done (aZ m.o) B.o.asc).1,(A.o.done (aZ m.o) B.o.asc).2⟩⟩
  ·have v:=Kz T;clear T D;go_wp2
   go_ret2
   exact⟨E,.inl ⟨fun N=>v.o N.2,rfl⟩⟩
 ·have x:(Q == 0)=false:=by simpa using C
  go_wp2
  go_ret2
  exact⟨r,.inl ⟨fun N=>C (m.o.unique N.1),rfl⟩⟩
theorem iW(w:LP)(a b c d f h i:LQ)(s:LK)(j:a= .string s):
  Calls prog 58 #[.agg #[a,b,c,d,f,h,i]] w fun e w'=>e= .returned (.string s)/\K_ w w':=by
 subst j;go_enter func58,ntmps58
 go_wp2
 go_ret
 exact⟨rfl,ag _ _⟩
def Gf(l:List Qz)(k:Nat):Prop:=∀j,j+1<k->aP (l.getD j Qz.zero).name (l.getD (j+1) Qz.zero).name
variable {l : List Qz}
theorem Av(h:Gf l l.length):cO l:=by
 have c:∀i j,i<j->j<l.length->aP (l.getD i Qz.zero).name (l.getD j Qz.zero).name:=by
  intro i j b
  induction j with
  | zero=>intro _;omega
  | succ j ih=>
   intro a;by_cases d:i=j
   ·subst d;exact h i a
   ·exact fF (ih (by omega) (by omega)) (h j a)
 unfold cO;rw[Ka];intro i j e a b;have:=c i j b a;simpa[List.getD,e,a] using this
theorem AO(h:cO l):Gf l l.length:=fun j b=>by
 have:=Ka.1 h j (j+1) (by omega) b (by omega);simpa[List.getD,b,(by omega:j<l.length)] using this
theorem Bb(w:LP)(a:LM)(k:Nat)(l:List Qz)(hl:l.length<=1048576)(O:bD w a l):
  Calls prog 59 #[.agg #[.slice a l.length k,.func (.func 58) #[] #[]]] w fun e w'=>Says e (cO l)/\K_ w w':=by
 have D:K_ w (w.alloc (.cells #[.slice a l.length k,.func (.func 58) #[] #[]] 98)):=ag _ _;go_enter func59,ntmps59
 go_wp2
 go_loopw [3] (fun E wr=>∃n:Nat,1<=n/\n<=l.length+1/\E= .int .i64 n/\K_ (w.alloc (.cells #[.slice a l.length k,.func (.func 58) #[] #[]] 98)) wr/\Gf l n) (fun E _=>l.length+2-(intOf E).toNat)
 case atStart=>exact⟨1,by omega,by omega,rfl,K_.refl _,fun q F=>Lv F (by omega)⟩
 case round=>
  obtain⟨n,a2,a3,rfl,m,P⟩:=hrel;have Q:=Kz P;clear P;have Y:=m.size;simp only[KR] at Y;have R:w.heap.size<wr.heap.size:=by omega
  obtain⟨Z,p1⟩:=uH m;by_cases a0:n<l.length
  ·have S:K_ w wr:=D.trans m;obtain⟨b,o,v,A,rfl,h,i,_,_⟩:=O.kept S (n-1) (by omega);obtain⟨b',o',B,C,T,a4,j,_,_⟩:=O.kept S n a0;simp only[KT,LG,and_true] at T;obtain⟨rfl,rfl⟩:=T;obtain⟨x,G⟩:=aj ((l.getD (n-1) Qz.zero));obtain⟨y,H⟩:=aj ((l.getD n Qz.zero));rw[<-G] at i;rw[<-H] at j;have U:Hid (l.getD (n-1) Qz.zero=x):=G.symm;have V:Hid (l.getD (n-1+1) Qz.zero=y):=by rw[H,show n-1+1=n by omega];exact rfl
   clear G H;have c0:wr.cell? ⟨b,o+ (n-1)*7,none⟩=some (.string x.name):=i 0 _ rfl;have c1:wr.cell? ⟨b,o+ (n-1)*7+1,none⟩=some (.bool x.over):=i 1 _ rfl;have c2:wr.cell? ⟨b,o+ (n-1)*7+2,none⟩=some (.bool x.fail):=i 2 _ rfl;have c3:wr.cell? ⟨b,o+ (n-1)*7+3,none⟩=some (.string x.text):=i 3 _ rfl;have c4:wr.cell? ⟨b,o+ (n-1)*7+4,none⟩=some (.int .i64 x.at'):=i 4 _ rfl;have c5:wr.cell? ⟨b,o+ (n-1)*7+5,none⟩=some (.int .i64 x.Zj):=i 5 _ rfl;have c6:wr.cell? ⟨b,o+ (n-1)*7+6,none⟩=some (.slice v x.texts.length A):=i 6 _ rfl;have d0:wr.cell? ⟨b,o+n*7,none⟩=some (.string y.name):=j 0 _ rfl;have d1:wr.cell? ⟨b,o+n*7+1,none⟩=some (.bool y.over):=j 1 _ rfl;have d2:wr.cell? ⟨b,o+n*7+2,none⟩=some (.bool y.fail):=j 2 _ rfl;have d3:wr.cell? ⟨b,o+n*7+3,none⟩=some (.string y.text):=j 3 _ rfl;have d4:wr.cell? ⟨b,o+n*7+4,none⟩=some (.int .i64 y.at'):=j 4 _ rfl;have d5:wr.cell? ⟨b,o+n*7+5,none⟩=some (.int .i64 y.Zj):=j 5 _ rfl;have d6:wr.cell? ⟨b,o+n*7+6,none⟩=some (.slice B y.texts.length C):=j 6 _ rfl;clear i j;have i0:(0:Int)<=(n:Int)-1:=by omega
   have i1:(n:Int)-1<(l.length:Int):=by omega
   have i2:(n:Int)<(l.length:Int):=by omega
   have i5:(1:Int)<=(n:Int):=by omega
   have i6:(n:Int)<=(l.length:Int):=by omega
   have i7:n<=l.length:=by omega
   have i3:((n:Int)-1).toNat=n-1:=by omega
   have i4:IntKind.i64.wrap ((n:Int)-1)= (n:Int)-1:=sQ (by omega) (by omega);have W:∀w',K_ wr w'->(fun w'=>w'.cell? ⟨b,o+ (n-1)*7,none⟩=some (.string x.name)/\w'.cell? ⟨b,o+ (n-1)*7+1,none⟩=some (.bool x.over)/\w'.cell? ⟨b,o+ (n-1)*7+2,none⟩=some (.bool x.fail)/\w'.cell? ⟨b,o+ (n-1)*7+3,none⟩=some (.string x.text)/\w'.cell? ⟨b,o+ (n-1)*7+4,none⟩=some (.int .i64 x.at')/\w'.cell? ⟨b,o+ (n-1)*7+5,none⟩=some (.int .i64 x.Zj)/\w'.cell? ⟨b,o+ (n-1)*7+6,none⟩=some (.slice v x.texts.length A)/\w'.cell? ⟨b,o+n*7,none⟩=some (.string y.name)/\w'.cell? ⟨b,o+n*7+1,none⟩=some (.bool y.over)/\w'.cell? ⟨b,o+n*7+2,none⟩=some (.bool y.fail)/\w'.cell? ⟨b,o+n*7+3,none⟩=some (.string y.text)/\w'.cell? ⟨b,o+n*7+4,none⟩=some (.int .i64 y.at')/\w'.cell? ⟨b,o+n*7+5,none⟩=some (.int .i64 y.Zj)/\w'.cell? ⟨b,o+n*7+6,none⟩=some (.slice B y.texts.length C)/\w'.cell? ⟨w.heap.size,0,none⟩=some (.slice (some ⟨b,o,none⟩) l.length k)/\w'.cell? ⟨w.heap.size,1,none⟩=some (.func (.func 58) #[] #[])) w':=fun w' c=>⟨(K_.cell c h).trans c0,(K_.cell c h).trans c1,(K_.cell c h).trans c2,(K_.cell c h).trans c3,(K_.cell c h).trans c4,(K_.cell c h).trans c5,(K_.cell c h).trans c6,(K_.cell c h).trans d0,(K_.cell c h).trans d1,(K_.cell c h).trans d2,(K_.cell c h).trans d3,(K_.cell c h).trans d4,(K_.cell c h).trans d5,(K_.cell c h).trans d6,(K_.cell c R).trans Z,(K_.cell c R).trans p1⟩
   have p:=Kz W;clear W;cases X:Op.bytesLess x.name.toList y.name.toList
   ·have a1:True:=trivial;go_upto_region 4 with fail
    refine Qx.region (by kernel_rfl) (fun w'=>w'.cell? ⟨b,o+ (n-1)*7,none⟩=some (.string x.name)/\w'.cell? ⟨b,o+ (n-1)*7+1,none⟩=some (.bool x.over)/\w'.cell? ⟨b,o+ (n-1)*7+2,none⟩=some (.bool x.fail)/\w'.cell? ⟨b,o+ (n-1)*7+3,none⟩=some (.string x.text)/\w'.cell? ⟨b,o+ (n-1)*7+4,none⟩=some (.int .i64 x.at')/\w'.cell? ⟨b,o+ (n-1)*7+5,none⟩=some (.int .i64 x.Zj)/\w'.cell? ⟨b,o+ (n-1)*7+6,none⟩=some (.slice v x.texts.length A)/\w'.cell? ⟨b,o+n*7,none⟩=some (.string y.name)/\w'.cell? ⟨b,o+n*7+1,none⟩=some (.bool y.over)/\w'.cell? ⟨b,o+n*7+2,none⟩=some (.bool y.fail)/\w'.cell? ⟨b,o+n*7+3,none⟩=some (.string y.text)/\w'.cell? ⟨b,o+n*7+4,none⟩=some (.int .i64 y.at')/\w'.cell? ⟨b,o+n*7+5,none⟩=some (.int .i64 y.Zj)/\w'.cell? ⟨b,o+n*7+6,none⟩=some (.slice B y.texts.length C)/\w'.cell? ⟨w.heap.size,0,none⟩=some (.slice (some ⟨b,o,none⟩) l.length k)/\w'.cell? ⟨w.heap.size,1,none⟩=some (.func (.func 58) #[] #[])) 17 (p.o _ (aL wr)) (fun d=>?_);have r:K_ wr wr.drew:=aL wr;generalize I:wr.drew=wd at d r⊢;clear I;refine au 0 d ?_;refine au 4 d ?_;refine au 9 d ?_;refine af 13 d ?_;refine af 14 d ?_;refine af 15 d ?_;refine ak 8 (fun K f=>?_);go_simp
    go_at_call 58
    refine (iW _ _ _ _ _ _ _ _ _ rfl).mono ?_;rintro e w1 ⟨rfl,J⟩;have s:=r.trans J;refine ae f (fun _=>p.o _ s) ?_;clear f K d;refine ak 16 (fun K f=>?_);go_simp
    go_at_call 58
    refine (iW _ _ _ _ _ _ _ _ _ rfl).mono ?_;rintro e w2 ⟨rfl,L⟩;have c:=s.trans L;refine ae f (fun _=>p.o _ c) ?_;clear f K;refine ah 17 (fun K f=>?_);go_simp
    refine ae f (fun t=>absurd rfl t) ?_;clear f K;refine aB ?_;try dsimp only
    have M:=m.trans c;go_wp2
    go_ret
    exact⟨Says.no fun t=>(by have N:=AO t (n-1) (by omega);unfold aP at N;rw[U.o,V.o,X] at N;cases N),D.trans M⟩
   ·have a1:True:=trivial;go_upto_region 4 with fail
    refine Qx.region (by kernel_rfl) (fun w'=>w'.cell? ⟨b,o+ (n-1)*7,none⟩=some (.string x.name)/\w'.cell? ⟨b,o+ (n-1)*7+1,none⟩=some (.bool x.over)/\w'.cell? ⟨b,o+ (n-1)*7+2,none⟩=some (.bool x.fail)/\w'.cell? ⟨b,o+ (n-1)*7+3,none⟩=some (.string x.text)/\w'.cell? ⟨b,o+ (n-1)*7+4,none⟩=some (.int .i64 x.at')/\w'.cell? ⟨b,o+ (n-1)*7+5,none⟩=some (.int .i64 x.Zj)/\w'.cell? ⟨b,o+ (n-1)*7+6,none⟩=some (.slice v x.texts.length A)/\w'.cell? ⟨b,o+n*7,none⟩=some (.string y.name)/\w'.cell? ⟨b,o+n*7+1,none⟩=some (.bool y.over)/\w'.cell? ⟨b,o+n*7+2,none⟩=some (.bool y.fail)/\w'.cell? ⟨b,o+n*7+3,none⟩=some (.string y.text)/\w'.cell? ⟨b,o+n*7+4,none⟩=some (.int .i64 y.at')/\w'.cell? ⟨b,o+n*7+5,none⟩=some (.int .i64 y.Zj)/\w'.cell? ⟨b,o+n*7+6,none⟩=some (.slice B y.texts.length C)/\w'.cell? ⟨w.heap.size,0,none⟩=some (.slice (some ⟨b,o,none⟩) l.length k)/\w'.cell? ⟨w.heap.size,1,none⟩=some (.func (.func 58) #[] #[])) 17 (p.o _ (aL wr)) (fun d=>?_);have r:K_ wr wr.drew:=aL wr;generalize I:wr.drew=wd at d r⊢;clear I;refine au 0 d ?_;refine au 4 d ?_;refine au 9 d ?_;refine af 13 d ?_;refine af 14 d ?_;refine af 15 d ?_;refine ak 8 (fun K f=>?_);go_simp
    go_at_call 58
    refine (iW _ _ _ _ _ _ _ _ _ rfl).mono ?_;rintro e w1 ⟨rfl,J⟩;have s:=r.trans J;refine ae f (fun _=>p.o _ s) ?_;clear f K d;refine ak 16 (fun K f=>?_);go_simp
    go_at_call 58
    refine (iW _ _ _ _ _ _ _ _ _ rfl).mono ?_;rintro e w2 ⟨rfl,L⟩;have c:=s.trans L;refine ae f (fun _=>p.o _ c) ?_;clear f K;refine ah 17 (fun K f=>?_);go_simp
    refine ae f (fun t=>absurd rfl t) ?_;clear f K;refine aB ?_;try dsimp only
    have M:=m.trans c;go_wp2
    go_roundw
    case rel=>
     refine⟨n+1,by omega,by omega,by go_num,M,fun q F=>?_⟩;by_cases e:q=n-1
     ·subst e;unfold aP;rw[U.o,V.o,X]
     ·exact Q.o q (by omega)
    case measure=>simp[intOf];omega
  ·go_wp2
   go_ret
   exact⟨Says.yes (Av fun q F=>Q.o q (by omega)),D.trans m⟩
def CB(r:List Qz)(l:List Qq):Prop:=r.length=l.length/\∀i,i<l.length->nameAt l i= (r.getD i Qz.zero).name.toList
theorem qL(w:LP)(g:Nat)(x:Qz)(xa:LM)(xc:Nat)(a:LK)(d:g<w.heap.size)(f:w.cell? ⟨g,1,none⟩=some (.func (.func 58) #[] #[])):
  Calls prog 137 #[.agg #[.string x.name,.bool x.over,.bool x.fail,.string x.text,.int .i64 x.at',.int .i64 x.Zj,.slice xa x.texts.length xc],.string a,.pointer (some ⟨g,0,none⟩)] w fun e w'=>e= .returned (.int .i64 (jM x.name.toList a.toList))/\K_ w w':=by
 have b:K_ w (w.alloc (.cells #[.string x.name,.bool x.over,.bool x.fail,.string x.text,.int .i64 x.at',.int .i64 x.Zj,.slice xa x.texts.length xc] 40)):=ag _ _;have h:¬g=w.heap.size:=by omega
 go_enter func137,ntmps137
 go_wp2_with fail
 refine (iW _ _ _ _ _ _ _ _ _ rfl).mono ?_;rintro e w1 ⟨rfl,c⟩;go_wp2_with fail
 refine (om _ x.name a).mono ?_;rintro e w2 ⟨rfl,rfl⟩;go_wp2
 go_ret
 exact⟨rfl,b.trans c⟩
theorem zZ(w:LP)(g:Nat)(a:LM)(a2:Nat)(l:List Qq)(d:LK)(hl:l.length<=1048576)(T:fE l)(B:g<w.heap.size)(U:w.cell? ⟨g,1,none⟩=some (.func (.func 58) #[] #[]))(r:List Qz)(C:CB r l)(V:bD w a r):
  Calls prog 136 #[.slice a l.length a2,.string d,.func (.func 137) #[] #[.pointer (some ⟨g,0,none⟩)]] w
   fun e w'=>Found l d.toList e/\K_ w w':=by
 have W:=Kz T;clear T;go_enter func136,ntmps136
 go_wp2
 go_loopw [9,10] (fun x G wr=>∃i j:Nat,x= .int .i64 i/\G= .int .i64 j/\i<=j/\j<=l.length/\(∀t,t<i->Op.bytesLess (nameAt l t) d.toList=true)/\(∀t,j<=t->t<l.length->Op.bytesLess (nameAt l t) d.toList=false)/\K_ w wr) (fun x G _=>(intOf G).toNat-(intOf x).toNat)
 case atStart=>exact⟨0,l.length,rfl,rfl,JR _,JP _,fun t X=>aT X,fun t h1 Y=>by omega,K_.refl _⟩
 case round=>
  obtain⟨i,j,rfl,rfl,a7,Z,n,p,f⟩:=hrel;have q:=Kz (And.intro n p);clear n p;by_cases a8:(i:Int)<j
  ·obtain⟨h,hh⟩:∃h:Nat,h= (i+j) / 2:=⟨_,rfl⟩;have H:h<l.length:=by omega
   have a3:i<=h:=by omega
   have a9:h<j:=by omega
   obtain⟨b,o,s,v,rfl,hb,c,_,_⟩:=V.kept f h (by rw[C.1];exact H);obtain⟨x,k⟩:=aj (r.getD h Qz.zero);rw[<-k] at c;have I:Hid (nameAt l h=x.name.toList):=by rw[k];exact C.2 h H
   have J:wr.cell? ⟨b,o+h*7,none⟩=some (.string x.name):=c 0 _ rfl;have K:wr.cell? ⟨b,o+h*7+1,none⟩=some (.bool x.over):=c 1 _ rfl;have L:wr.cell? ⟨b,o+h*7+2,none⟩=some (.bool x.fail):=c 2 _ rfl;have M:wr.cell? ⟨b,o+h*7+3,none⟩=some (.string x.text):=c 3 _ rfl;have N:wr.cell? ⟨b,o+h*7+4,none⟩=some (.int .i64 x.at'):=c 4 _ rfl;have O:wr.cell? ⟨b,o+h*7+5,none⟩=some (.int .i64 x.Zj):=c 5 _ rfl;have P:wr.cell? ⟨b,o+h*7+6,none⟩=some (.slice s x.texts.length v):=c 6 _ rfl;clear k c;have b0:((i:Int)+ (j:Int)) / 2= (h:Int):=by omega
   have HH:=Kz hh;clear hh;have Q:g<wr.heap.size:=JQ B f.size;have R:wr.cell? ⟨g,1,none⟩=some (.func (.func 58) #[] #[]):=by rw[f.cell B];exact U
   go_wp2_with fail
   refine (qL _ g x s v d Q R).mono ?_;rintro e w1 ⟨rfl,y⟩;have A:nameAt l h=x.name.toList:=I.o;have D:Hid (jM x.name.toList d.toList<0↔Op.bytesLess (nameAt l h) d.toList=true):=by rw[A];exact uT
   clear J K L M N O P A;generalize jM x.name.toList d.toList=a0 at *;have E:=f.trans y;clear f y;by_cases a4:a0<0
   ·go_wp2
    go_roundw
    case rel=>
     obtain⟨n,p⟩:=q.o;refine⟨h+1,j,by go_num,rfl,by omega,Z,fun t X=>?_,p,E⟩;have m:=D.o.1 a4;by_cases e:t=h
     ·subst e;exact m
     ·exact dX _ _ _ (W.o t h (by omega) H) m
    case measure=>simp[intOf];omega
   ·go_wp2
    go_roundw
    case rel=>
     obtain⟨n,p⟩:=q.o;refine⟨i,h,rfl,by go_num,a3,by omega,n,fun t h1 Y=>?_,E⟩;have m:Op.bytesLess (nameAt l h) d.toList=false:=by
      cases S:Op.bytesLess (nameAt l h) d.toList
      ·rfl
      ·have:=D.o.2 S;omega
     by_cases e:t=h
     ·subst e;exact m
     ·cases S:Op.bytesLess (nameAt l t) d.toList
      ·rfl
      ·rw[dX _ _ _ (W.o h t (by omega) Y) S] at m;cases m
    case measure=>simp[intOf];omega
  ·have a5:i=j:=by omega
   subst a5;have a1:Hid (Place l d.toList i):=⟨Z,q.o.1,q.o.2⟩;clear q;by_cases F:i<l.length
   ·obtain⟨b,o,s,v,rfl,hb,c,_,_⟩:=V.kept f i (by rw[C.1];exact F);obtain⟨x,k⟩:=aj (r.getD i Qz.zero);rw[<-k] at c;have I:Hid (nameAt l i=x.name.toList):=by rw[k];exact C.2 i F
    have J:wr.cell? ⟨b,o+i*7,none⟩=some (.string x.name):=c 0 _ rfl;have K:wr.cell? ⟨b,o+i*7+1,none⟩=some (.bool x.over):=c 1 _ rfl;have L:wr.cell? ⟨b,o+i*7+2,none⟩=some (.bool x.fail):=c 2 _ rfl;have M:wr.cell? ⟨b,o+i*7+3,none⟩=some (.string x.text):=c 3 _ rfl;have N:wr.cell? ⟨b,o+i*7+4,none⟩=some (.int .i64 x.at'):=c 4 _ rfl;have O:wr.cell? ⟨b,o+i*7+5,none⟩=some (.int .i64 x.Zj):=c 5 _ rfl;have P:wr.cell? ⟨b,o+i*7+6,none⟩=some (.slice s x.texts.length v):=c 6 _ rfl;clear k c;have Q:g<wr.heap.size:=JQ B f.size;have R:wr.cell? ⟨g,1,none⟩=some (.func (.func 58) #[] #[]):=by rw[f.cell B];exact U
    have a6:(i:Int)<l.length:=by omega
    go_wp2_with fail
    refine (qL _ g x s v d Q R).mono ?_;rintro e w1 ⟨rfl,y⟩;have A:nameAt l i=x.name.toList:=I.o;have D:Hid (jM x.name.toList d.toList=0↔nameAt l i=d.toList):=by rw[A];exact rY
    clear J K L M N O P A;generalize jM x.name.toList d.toList=a0 at *;have E:=f.trans y;clear f y;go_wp2
    go_ret2
    refine⟨Found.mk i _ rfl a1.o ?_,E⟩;rw[<-D.o];simp[F]
   ·have a6:¬(i:Int)<l.length:=by omega
    go_wp2
    go_ret2
    exact⟨Found.mk i false rfl a1.o (by simp;intro h;exact Lv h F),f⟩
theorem EC(w:LP)(a:LM)(b:Nat)(l:List Qq)(c:LK)(i:l.length<=1048576)(j:fE l)(r:List Qz)(k:CB r l)(m:bD w a r):
  Calls prog 104 #[.agg #[.slice a l.length b,.func (.func 58) #[] #[]],.string c] w
   fun e w'=>Found l c.toList e/\K_ w w':=by
 have d:K_ w (w.alloc (.cells #[.slice a l.length b,.func (.func 58) #[] #[]] 98)):=ag _ _;go_enter func104,ntmps104
 go_wp2_with fail
 refine (zZ _ w.heap.size a b l c i j (by simp) (by simp) r k (m.kept d)).mono ?_;rintro e w1 ⟨n,p⟩;obtain⟨q,s,rfl,f,h⟩:=n;have⟨t,v⟩:=aH f h;clear f h;go_wp2
 go_ret2
 exact⟨Found.mk q s rfl t.o v.o,d.trans p⟩
def jl(l:List Qz):List Qq:=l.map fun x=>⟨x.name,0,[]⟩
theorem gm(l:List Qz):CB l (jl l):=by
 refine⟨by simp[jl],fun i b=>?_⟩;have c:i<l.length:=by simpa[jl] using b
 simp[nameAt,jl,List.getD,c]
theorem qF(h:cO l):fE (jl l):=by
 intro i j f c;have d:j<l.length:=by simpa[jl] using c
 rw[(gm l).2 i (by omega),(gm l).2 j c];have:=Ka.1 h i j (by omega) d f;simpa[List.getD,d,(by omega:i<l.length),aP] using this
def IG(l:List Qz)(n:LK)(e:Ending):Prop:=
 ∃(p:Nat) (f:Bool),e= .returned (.tuple #[.int .i64 p,.bool f])/\p<=l.length/\(if f then p<l.length/\Qj l n=some (l.getD p Qz.zero) else Qj l n=none)
theorem Ac{p:Nat}(h:p<l.length):l.getD p Qz.zero∈l:=by
 rw[List.getD_eq_getElem?_getD,JV h];exact J_ h
theorem Eb(j:cO l){n:LK}{e:Ending}(h:Found (jl l) n.toList e):IG l n e:=by
 obtain⟨p,m,rfl,⟨q,v,s⟩,c⟩:=h;have w:(jl l).length=l.length:=(gm l).1.symm;rw[w] at q s c;have t:∀i,i<l.length->nameAt (jl l) i= (l.getD i Qz.zero).name.toList:=fun i E=>(gm l).2 i (by omega)
 refine⟨p,m,rfl,q, ?_⟩;cases m with
 | true=>
  obtain⟨a,b⟩:=c.1 rfl;rw[t p a] at b;refine⟨a, ?_⟩;rw[<-toList_inj.1 b];exact bI j (Ac a)
 | false=>
  cases x:Qj l n with
  | none=>rfl
  | some r=>
   exfalso
   obtain⟨y,A⟩:=bF x;obtain⟨k,d,B⟩:=Kb y;have C:(l.getD k Qz.zero)=r:=by simp[List.getD,d,B]
   have f:nameAt (jl l) k=n.toList:=by rw[t k d,C,A]
   have D:p<=k:=by
    rcases Nat.lt_or_ge k p with h|h
    ·have:=v k h;rw[f,dG] at this;cases this
    ·exact h
   rcases Nat.lt_or_eq_of_le D with h|h
   ·have a:=s p (JP _) (by omega);have b:=qF j p k h (by omega);rw[f,a] at b;cases b
   ·subst h;have:=c.2 ⟨d,f⟩;cases this
theorem D_(w:LP)(a:LM)(b:Nat)(l:List Qz)(n:LK)(j:l.length<=1048576)(c:cO l)(f:bD w a l):
  Calls prog 104 #[.agg #[.slice a l.length b,.func (.func 58) #[] #[]],.string n] w
   fun e w'=>IG l n e/\K_ w w':=by
 have i:(jl l).length=l.length:=(gm l).1.symm;have h:=EC w a b (jl l) n (by omega) (qF c) l (gm l) f;rw[i] at h;exact h.mono fun e w' d=>⟨Eb c d.1,d.2⟩
theorem zU{P Q:Prop}[Decidable P](h:P↔Q):Says (.returned (.bool (decide P))) Q:=by
 by_cases a:P
 ·rw[decide_eq_true a];exact Says.yes (h.1 a)
 ·rw[decide_eq_false a];exact Says.no fun c=>a (h.2 c)
theorem CS(w:LP)(tb:Nat)(r x:Qz)(xa:LM)(xc:Nat)(c:tb<w.heap.size)(d:w.cell? ⟨tb,5,none⟩=some (.int .i64 r.Zj)):
  Calls prog 105 #[.pointer (some ⟨tb,0,none⟩),.agg #[.string x.name,.bool x.over,.bool x.fail,.string x.text,.int .i64 x.at',.int .i64 x.Zj,.slice xa x.texts.length xc]] w
   fun e w'=>Says e (dz r x)/\K_ w w':=by
 have a:K_ w (w.alloc (.cells #[.string x.name,.bool x.over,.bool x.fail,.string x.text,.int .i64 x.at',.int .i64 x.Zj,.slice xa x.texts.length xc] 40)):=ag _ _;have f:¬tb=w.heap.size:=by omega
 unfold dz;cases b:x.over
 ·rw[b] at a;go_enter func105,ntmps105
  go_wp2
  go_region
  all_goals
   go_wp2
   go_ret
   exact⟨zU (by simp),a.drew⟩
 ·rw[b] at a;go_enter func105,ntmps105
  go_wp2
  go_region
  all_goals
   go_wp2
   go_ret
   exact⟨Says.yes (Or.inl trivial),a.drew⟩
