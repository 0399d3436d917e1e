import Derived.Test.YtbmhchdegdjfkaaGreatDoorKBTask
import Derived.Test.YtbmhchdegdjfkaaGreatDoorKOPutB
set_option maxRecDepth 100000
set_option maxHeartbeats 25600000
namespace Go.Proofs.YtbmhchdegdjfkaaGreatDoor
open Go.RowKit Go.Proofs.Tryz
variable {Kq : List Qz}
theorem kI(h:bu Kq 0):Kq.length<=60:=by
 rcases h with⟨_,h⟩|⟨_,_,h⟩|⟨_,_,_,h⟩|⟨_,_,_,_,h⟩|⟨h,_⟩
 ·cases h
 ·cases h
 ·cases h
 ·cases h
 ·omega
theorem Am(h:bu Kq 0){k:Nat}(c:k<Kq.length):iI (Kq.getD k Qz.zero).name/\fZ ⟨(Kq.getD k Qz.zero).cost,(Kq.getD k Qz.zero).steps⟩:=by
 rcases h with⟨_,h⟩|⟨_,_,h⟩|⟨_,_,_,h⟩|⟨_,_,_,_,h⟩|⟨_,d,_,e,_⟩
 ·cases h
 ·cases h
 ·cases h
 ·cases h
 ·refine⟨Classical.byContradiction fun b=>d ⟨k,c,b⟩,Classical.byContradiction fun b=>e ⟨k,c,b⟩⟩
theorem dL(h:bu Kq 0):bV (Kk Kq):=fun n A c=>by
 obtain⟨k,d,e,_,rfl⟩:=fI c;obtain⟨a,f⟩:=Am h d;rw[e] at a;exact⟨f,a⟩
theorem lw(h:bu Kq 0):gT Kq:=fun y d s e=>by
 obtain⟨k,a,rfl⟩:=Jk d;have b:=(Am h a).2;simp only[List.getD,Jd a,Kl] at b;obtain⟨i,f,rfl⟩:=Jk e;have c:=gD (i:=(i:Int)) b (by omega) (by show (i:Int)<((Kq[k].steps.length:Nat):Int);omega);have j:stepOf ⟨Kq[k].cost,Kq[k].steps⟩ (i:Int)=Kq[k].steps[i]:=by simp[stepOf,List.getD,f]
 rw[j] at c;exact⟨by omega,fun x l=>by have:=(c.2 x l).2.1;omega⟩
structure rY (wr:KH) (xb:Nat) (Kj:List KC) (L:List Q_) (ra:KG) (rc:Nat) (d:KG) (dc:Nat):Prop where
 row:au wr xb 29 2
 c0:wr.cell? ⟨xb,0,none⟩=some (.slice ra Kj.length rc)
 c1:wr.cell? ⟨xb,1,none⟩=some (.slice d L.length dc)
 rts:Strs wr ra Kj
 rns:bK wr d L
variable {Kj : List KC} {L : List Q_} {xb : Nat} {ra : KG}
theorem rY.kept{w w':KH}{b c:Nat}{d:KG}(h:rY w xb Kj L ra b d c)(k:K_ w w'):rY w' xb Kj L ra b d c:=
 ⟨h.row.kept k,(k.cell h.row.lt).trans h.c0,(k.cell h.row.lt).trans h.c1,h.rts.kept k,h.rns.kept k⟩
theorem rY.made{w:KH}{a b:Nat}{d:KG}(c:Strs w ra Kj)(e:bK w d L):rY (w.alloc (.cells #[.slice ra Kj.length a,.slice d L.length b] 29)) w.heap.size Kj L ra a d b:=
 ⟨au.made w _ _,X_ w #[.slice ra Kj.length a,.slice d L.length b] 29 0 _ rfl,X_ w #[.slice ra Kj.length a,.slice d L.length b] 29 1 _ rfl,c.kept (ag _ _),e.kept (ag _ _)⟩
theorem rY.laid{W w':KH}{a e:Nat}{d:KG}{k:List KI}(i:xb<W.heap.size)(l:au w' xb 29 2)(q:w'.ownsRow W.heap.size 9 1 (.slice ra Kj.length a) Kj.length (Kj.map Value.string))(r:w'.ownsRow W.heap.size 40 7 (.slice d L.length e) L.length k)(s:aZ w' (fun b=>W.heap.size<=b) k L):rY (w'.setCells xb 0 [.slice ra Kj.length a,.slice d L.length e]) xb Kj L ra a d e:=by
 have n:=Jc w' xb 0 [.slice ra Kj.length a,.slice d L.length e] (l.row.there (o:=0) (m:=2) (IZ _));refine⟨au.sets _ _ l,n 0 _ rfl,n 1 _ rfl, ?_, ?_⟩
 ·have j:=aR (aR q (p:=⟨xb,0,none⟩) i (.slice ra Kj.length a)) (p:=⟨xb,1,none⟩) i (.slice d L.length e);obtain⟨t,v,f,h⟩:=bi j;simp only[JJ,true_and] at f;rw[<-f.1] at h;exact h
 ·have j:=aR (aR r (p:=⟨xb,0,none⟩) i (.slice ra Kj.length a)) (p:=⟨xb,1,none⟩) i (.slice d L.length e);have w:=(s.set (c:=xb) (p:=0) (fun b x=>by omega) (.slice ra Kj.length a)).set (c:=xb) (p:=1) (fun b x=>by omega) (.slice d L.length e);obtain⟨_,t,v,f,h⟩:=aZ.runs j w (K_.refl _);simp only[JJ,true_and] at f;rw[<-f.1] at h;exact h.runs
theorem gJ.but{w w':KH}{a:KG}{l:List KC}(h:gJ w xb a l)(k:Xj xb (xb+1) w w'):gJ w' xb a l:=fun i d=>by
 obtain⟨b,o,e,c,f,j⟩:=h i d;exact⟨b,o,e,I_ c k.size,f,by rw[Jl (w:=w) (k.block b c (by omega))];exact j⟩
theorem gJ.owned{w:KH}{base:Nat}{t:TypeId}{a:KG}{c:Nat}{l:List KC}(h:w.ownsRow base t 1 (.slice a l.length c) l.length (l.map Value.string))(j:xb<base):gJ w xb a l:=by
 rcases h.2 with⟨e,d⟩|⟨g,k,m,e,n,f,p,_,_,_⟩
 ·intro i b;rw[d] at b;exact aP b
 ·intro i b;simp only[JJ] at e;obtain⟨rfl,_,rfl⟩:=e;refine⟨g,0,rfl,aN f,by omega, ?_⟩;have:=h.cells (g:=g) rfl i (.string (l.getD i ByteArray.empty)) (by simp[List.getD,b]);rw[JL] at this;exact this
theorem Xj.sets{b c:Nat}{a:KH}{g:Nat}(d:b<=g)(h2:g<c):∀(vs:List KI) (o:Nat) {u:KH},Xj b c a u->Xj b c a (u.setCells g o vs)
 | [],_,_,h=>h
 | v :: r,o,_,h=>by rw[World.setCells];exact Xj.sets d h2 r (o+1) (h.setCell (p:=⟨g,o,none⟩) d h2 v)
def fU(Kq:List Qz)(Kj:List KC)(sl:List Q_):Prop:=bu Kq 0/\fV Kj/\sl.length<=Kq.length/\GU Kq Kj sl
structure Bz (Kq:List Qz) (Kj:List KC) (sl:List Q_) (L:List Q_) (bb:Bool) (gg:Nat):Prop where
 good:fM Kq L
 led:∃k,bI (Behind (W:=Kk Kq) a_ (Qq sl)) (doX (Kk Kq)) (Qq (b_ Kq Kj)) (Qq L) k
 fin:bb=false->AtEnd (Behind (W:=Kk Kq) a_ (Qq sl)) (Qq L)
 pot:gg=2*oU Kq L+ (if bb=true then 1 else 0)
theorem Bz.begin(a:bu Kq 0)(Kj:List KC)(b:List Q_):Bz Kq Kj b (b_ Kq Kj) true (2*oU Kq (b_ Kq Kj)+1):=
 ⟨kL (dL a) Kj,⟨0,.here _⟩,fun h=>(by cases h),rfl⟩
theorem Bz.next{c a:List Q_}{d:List KC}{b:Bool}{e:Nat}(f:Bz Kq Kj c a true e)(i:fH (Kk Kq) (Qq a) a d)(h:gm Kq (Qq c) (Qq (b_ Kq Kj)) d a L d.length b):Bz Kq Kj c L b (2*oU Kq L+ (if b=true then 1 else 0))/\2*oU Kq L+ (if b=true then 1 else 0)<e:=by
 refine⟨⟨h.good,h.led,fun j=>?_,rfl⟩, ?_⟩
 ·subst j;exact (h.FU f.good i).2
 ·rw[f.pot];cases b with
  | true=>have:=h.yes rfl;simp only[if_true];omega
  | false=>rw[(h.no rfl).1];simp
theorem sD{G σ:Env}{n:KC}(h:G n=none):¬Behind (W:=Kk Kq) a_ G σ n:=fun c=>by
 obtain⟨_,g,_,a,_⟩:=c.2;rw[h] at a;cases a
theorem oK{G σ:Env}{n:KC}{r g:Q_}(c:σ n=some r)(d:G n=some g)(h:¬a_ r g):¬Behind (W:=Kk Kq) a_ G σ n:=fun e=>by
 obtain⟨i,j,a,b,f⟩:=e.2;rw[c] at a;rw[d] at b;cases a;cases b;exact h f
def eG :KC:=⟨#[98,101,108,111,119,32]⟩
theorem qW{a b:KC}(h:eG++a=eG++b):a=b:=by
 have c:=congrArg (fun x:KC=>x.data.toList) h;simp only[ByteArray.data_append,Array.toList_append] at c;exact ByteArray.ext (Array.toList_inj.1 (List.append_cancel_left c))
theorem iV{b:KC}:eG++b≠eY:=fun h=>by
 have c:=congrArg ByteArray.size h;rw[ByteArray.size_append] at c;have d:eG.size=6:=by decide
 have e:eY.size=5:=by decide
 omega
section
variable (W : dQ) (σ : Env)
inductive iN :KC->List KC->Prop
 | gone {n:KC} (h:σ n=none):iN n [n]
 | own {n:KC} {r:Q_} {A:dD} (h:σ n=some r) (ho:r.over=true) (hf:r.fail=true) (hA:W n=some A) (he:(stepOf A r.at').fin=true\/r.text=eY):iN n [n]
 | more {n b:KC} {l:List KC} {r:Q_} {A:dD} (h:σ n=some r) (ho:r.over=true) (hf:r.fail=true) (hA:W n=some A) (hn:(stepOf A r.at').fin=false) (ht:r.text=eG++b) (hb:1<=b.size) (hc:iN b l):iN n (n :: l)
def BQ(n:KC)(out:List KC):Prop:=
 (σ n=none/\out=[])\/(∃r,σ n=some r/\¬(r.over=true/\r.fail=true)/\out=[])\/(∃r,σ n=some r/\r.over=true/\r.fail=true/\iN W σ n out)
structure oO (k:Nat) (ord:KC->Nat):Prop where
 lt:∀n r,σ n=some r->r.over=true->ord n<k
 ok:∀n r,σ n=some r->r.over=true->r.fail=true->∃A,W n=some A/\(((stepOf A r.at').fin=true\/r.text=eY)\/
  (∃b,(stepOf A r.at').fin=false/\b∈(stepOf A r.at').asks/\r.text=eG++b/\((W b=none/\σ b=none)\/∃q,σ b=some q/\q.over=true/\q.fail=true/\ord b<ord n)))
end
variable {W : dQ} {n : KC} {σ : Env}
theorem iN.unique{l m:List KC}(h:iN W σ n l)(g:iN W σ n m):l=m:=by
 induction h generalizing m with
 | gone h=>
  cases g with
  | gone=>rfl
  | own=>rfl
  | more h'=>rw[h] at h';cases h'
 | own h ho hf hA he=>
  cases g with
  | gone=>rfl
  | own=>rfl
  | more h' ho' hf' hA' hn' ht'=>
   rw[h] at h';cases h';rw[hA] at hA';cases hA';rcases he with e|e
   ·rw[hn'] at e;cases e
   ·rw[e] at ht';exact Ki ht'.symm iV
 | more h ho hf hA hn ht hb hc ih=>
  cases g with
  | gone h'=>rw[h] at h';cases h'
  | own h' ho' hf' hA' he'=>
   rw[h] at h';cases h';rw[hA] at hA';cases hA';rcases he' with e|e
   ·rw[hn] at e;cases e
   ·rw[e] at ht;exact Ki ht.symm iV
  | more h' ho' hf' hA' hn' ht' hb' hc'=>
   rw[h] at h';cases h';have e:=qW (ht.symm.trans ht');subst e;rw[ih hc']
theorem BQ.unique{l m:List KC}(h:BQ W σ n l)(g:BQ W σ n m):l=m:=by
 rcases h with⟨b,rfl⟩ | ⟨r,b,c,rfl⟩ | ⟨r,b,c,e,f⟩ <;> rcases g with⟨a,rfl⟩ | ⟨q,a,d,rfl⟩ | ⟨q,a,d,i,j⟩
 ·rfl
 ·rfl
 ·rw[b] at a;cases a
 ·rfl
 ·rfl
 ·rw[b] at a;cases a;exact Ki ⟨d,i⟩ c
 ·rw[b] at a;cases a
 ·rw[b] at a;cases a;exact Ki ⟨c,e⟩ d
 ·exact f.unique j
theorem iN.head{l:List KC}(h:iN W σ n l):∃m,l=n :: m:=by
 cases h with
 | gone=>exact⟨[],rfl⟩
 | own=>exact⟨[],rfl⟩
 | more=>exact⟨_,rfl⟩
theorem mF :∀{l:List KC} {xs:List Xz},Yz W σ l=some xs->∀{i:Nat},i<xs.length->i<l.length/\bA W σ (l.getD i ByteArray.empty)=some (xs.getD i Xz.zero)
 | [],xs,h,i,hi=>by
  simp only[Yz,JI] at h;subst h;simp at hi
 | a :: l,xs,h,i,hi=>by
  unfold Yz at h;cases b:bA W σ a with
  | none=>simp[b] at h
  | some x=>
   cases c:Yz W σ l with
   | none=>simp[b,c] at h
   | some ys=>
    simp only[b,c,JI] at h;subst h;cases i with
    | zero=>exact⟨by simp,by simpa using b⟩
    | succ i=>
     obtain⟨d,e⟩:=mF c (i:=i) (by simpa using hi);exact⟨by simpa using d,by simpa using e⟩
variable {Kq : List Qz}
theorem AO(d:bV (Kk Kq))(h:dP Kq σ)(b:dI (Kk Kq) σ n):dP Kq (doX (Kk Kq) σ n):=by
 obtain⟨r,b,f⟩:=b;intro m q a;rw[gG b] at a;by_cases e:m=n
 ·rw[Kg e] at a;cases a;exact⟨by rw[bZ,e];exact (h n r b).1,dU d h (h n r b).2 f⟩
 ·rw[Kh e] at a;cases c:σ m with
  | some x=>
   rw[c] at a;cases a;exact h m _ c
  | none=>
   rw[c] at a;simp only at a
   split at a
   ·rename_i h2
    cases a;exact⟨rfl,iD d h2.2⟩
   ·cases a
theorem Fp{r:Q_}(w:dP Kq σ)(y:σ r.name=some r)(j:aV (Kk Kq) σ r)(a:(Xx (Kk Kq) σ r).1.over=true):∃A,Kk Kq r.name=some A/\(((stepOf A (Xx (Kk Kq) σ r).1.at').fin=true\/(Xx (Kk Kq) σ r).1.text=eY)\/
  (∃b,(stepOf A (Xx (Kk Kq) σ r).1.at').fin=false/\b∈(stepOf A (Xx (Kk Kq) σ r).1.at').asks/\(Xx (Kk Kq) σ r).1.text=eG++b/\∃x,bA (Kk Kq) σ b=some x/\x.fail=true)):=by
 have hgd:=(w _ _ y).2;obtain⟨A,k,_,_⟩:=hgd.act;refine⟨A,k, ?_⟩;have m:∀q:Q_,q.over=false->(bQ A q).1.over=true->(stepOf A (bQ A q).1.at').fin=true:=fun q B h=>by
  unfold bQ at h⊢;simp only at h⊢;by_cases d:(stepOf A q.at').fin=true
  ·rw[Kg d];exact d
  ·rw[Kh d] at h;simp only at h;rw[B] at h;cases h
 unfold Xx at a⊢;rw[k] at a⊢;simp only at a⊢;by_cases l:r.Zq=0
 ·rw[Kg l] at a⊢;exact .inl (.inl (m r j.1 a))
 ·rw[Kh l] at a⊢;rcases j.2 with e|⟨H,f,n,p⟩
  ·exact Ki e l
  ·rw[k] at n;cases n;rw[p] at a⊢;simp only at a⊢;by_cases s:r.Zq=20
   ·rw[Kg s];exact .inl (.inr rfl)
   ·rw[Kh s] at a⊢;by_cases c:(bR (stepOf A r.at') f).over=true
    ·rw[Kg c];refine .inr ?_;show∃b,(stepOf A r.at').fin=false/\b∈(stepOf A r.at').asks/\(bR (stepOf A r.at') f).text=eG++b/\_;unfold bR at c⊢;cases d:kU f 0 with
     | none=>rw[d] at c;simp at c
     | some i=>
      rw[d] at c;simp only at c⊢;obtain⟨C,I,D,E,_⟩:=kD d;have F:i=C:=by omega
      subst F;by_cases t:(stepOf A r.at').fall= -1
      ·rw[Kg t];obtain⟨v,G⟩:=mF p D;refine⟨(stepOf A r.at').asks.getD i ByteArray.empty,hgd.stp A k j.1 l, ?_,rfl,_,G,E⟩;simp only[List.getD,Jd v,Kl];exact Ji v
      ·rw[Kh t] at c;simp at c
    ·rw[Kh c] at a⊢;exact .inl (.inl (m {r with texts:=r.texts++aL f,at':=(bR (stepOf A r.at') f).at'} j.1 a))
theorem oO.did{k:Nat}{F:KC->Nat}(x:oO (Kk Kq) σ k F)(y:dP Kq σ)(M:dI (Kk Kq) σ n):oO (Kk Kq) (doX (Kk Kq) σ n) (k+1) (fun m=>if m=n then k else F m):=by
 obtain⟨G,h,H⟩:=M;have I:G.name=n:=(y n G h).1;have J:∀m,Kk Kq m=none->σ m=none:=fun m r=>by
  cases N:σ m with
  | none=>rfl
  | some q=>
   obtain⟨j,l⟩:=y m q N;obtain⟨A,i,_⟩:=l.act;rw[j,r] at i;cases i
 have old:∀m q,m≠n->doX (Kk Kq) σ n m=some q->q.over=true->σ m=some q:=fun m q e c d=>by
  rw[gG h,Kh e] at c;cases r:σ m with
  | some O=>rw[r] at c;exact c
  | none=>
   rw[r] at c;simp only at c
   split at c
   ·cases c;cases d
   ·cases c
 have K:∀b q,σ b=some q->q.over=true->b≠n/\doX (Kk Kq) σ n b=some q:=fun b q f d=>by
  have s:b≠n:=fun e=>by
   rw[e,h] at f;cases f;rw[H.1] at d;cases d
  exact⟨s,iH s f⟩
 have none:∀b,Kk Kq b=none->doX (Kk Kq) σ n b=none:=fun b f=>by
  have s:b≠n:=fun e=>by
   have:=J b f;rw[e,h] at this;cases this
  rw[gG h,Kh s,J b f];simp only;rw[Kh (by rw[f];simp)]
 refine⟨fun m q c d=>?_,fun m q c d P=>?_⟩
 ·by_cases e:m=n
  ·simp only[Kg e];omega
  ·simp only[Kh e];have:=x.lt m q (old m q e c d) d;omega
 ·by_cases e:m=n
  ·subst e;rw[jW h] at c;cases c;obtain⟨A,i,C⟩:=Fp y (by rw[I];exact h) H d;rw[I] at i;refine⟨A,i,C.imp id ?_⟩;rintro⟨b,j,l,t,O,a,v⟩;refine⟨b,j,l,t, ?_⟩;unfold bA at a;cases f:Kk Kq b with
   | none=>exact .inl ⟨rfl,none b f⟩
   | some B=>
    rw[f] at a;simp only at a;cases w:σ b with
    | none=>rw[w] at a;cases a
    | some q=>
     rw[w] at a;simp only at a;by_cases p:q.over=true
     ·rw[Kg p] at a;cases a;obtain⟨D,E⟩:=K b q w p;exact .inr ⟨q,E,p,v,by simp only[Kh D,if_true];exact x.lt b q w p⟩
     ·rw[Kh p] at a;cases a
  ·obtain⟨A,i,C⟩:=x.ok m q (old m q e c d) d P;refine⟨A,i,C.imp id ?_⟩;rintro⟨b,j,l,t,⟨a,_⟩|⟨L,a,v,Q,R⟩⟩
   ·exact⟨b,j,l,t,.inl ⟨a,none b a⟩⟩
   ·obtain⟨D,E⟩:=K b L a v;exact⟨b,j,l,t,.inr ⟨L,E,v,Q,by simp only[Kh D,Kh e];exact R⟩⟩
theorem oO.chain{k:Nat}{C:KC->Nat}(d:bV (Kk Kq))(E:oO (Kk Kq) σ k C)(p:dP Kq σ):∀(m:Nat) (n:KC) (r:Q_),C n<=m->σ n=some r->r.over=true->r.fail=true->∃l,iN (Kk Kq) σ n l/\l.length<=C n+2/\∀x∈l,1<=x.size/\x.size<=20:=by
 intro m
 induction m with
 | zero=>
  intro n r I c f h;obtain⟨A,a,D|⟨j,v,w,y,⟨B,q⟩|⟨F,B,q,G,J⟩⟩⟩:=E.ok n r c f h
  ·exact⟨[n],.own c f h a D,by simp,fun x b=>by rw[Jg] at b;rw[b];exact⟨(d n A a).2.1,(d n A a).2.2.1⟩⟩
  ·obtain⟨H,i,s,t⟩:=(p n r c).2.act;rw[(p n r c).1,a] at i;cases i;have e:=(gD (d n A a).1 s t).2 j w;exact⟨[n,j],.more c f h a v y e.1 (.gone q),by simp,fun x b=>by
    rcases JN.1 b with rfl|b
    ·exact⟨(d x A a).2.1,(d x A a).2.2.1⟩
    ·rw[Jg] at b;rw[b];exact⟨e.1,e.2.1⟩⟩
  ·omega
 | succ m ih=>
  intro n r I c f h;obtain⟨A,a,D|⟨j,v,w,y,⟨B,q⟩|⟨F,B,q,G,J⟩⟩⟩:=E.ok n r c f h
  ·exact⟨[n],.own c f h a D,by simp,fun x b=>by rw[Jg] at b;rw[b];exact⟨(d n A a).2.1,(d n A a).2.2.1⟩⟩
  ·obtain⟨H,i,s,t⟩:=(p n r c).2.act;rw[(p n r c).1,a] at i;cases i;have e:=(gD (d n A a).1 s t).2 j w;exact⟨[n,j],.more c f h a v y e.1 (.gone q),by simp,fun x b=>by
    rcases JN.1 b with rfl|b
    ·exact⟨(d x A a).2.1,(d x A a).2.2.1⟩
    ·rw[Jg] at b;rw[b];exact⟨e.1,e.2.1⟩⟩
  ·obtain⟨l,K,M,L⟩:=ih j F (by omega) B q G;obtain⟨H,i,s,t⟩:=(p n r c).2.act;rw[(p n r c).1,a] at i;cases i;have e:=(gD (d n A a).1 s t).2 j w;exact⟨n :: l,.more c f h a v y e.1 K,by simp only[JK];omega,fun x b=>by
    rcases JN.1 b with rfl|b
    ·exact⟨(d x A a).2.1,(d x A a).2.2.1⟩
    ·exact L x b⟩
def rq(σ:Env):Prop:=∀n r,σ n=some r->r.over=false->r.fail=false
theorem rJ{A:dD}{r:Q_}(h:r.fail=false)(a:(bQ A r).1.over=false):(bQ A r).1.fail=false:=by
 unfold bQ at a⊢;simp only at a⊢;by_cases b:(stepOf A r.at').fin=true
 ·rw[Kg b] at a;cases a
 ·rw[Kh b];exact h
theorem DX{r:Q_}(h:r.fail=false)(a:(Xx W σ r).1.over=false):(Xx W σ r).1.fail=false:=by
 unfold Xx at a⊢;cases e:W r.name with
 | none=>exact h
 | some A=>
  rw[e] at a;simp only at a⊢;by_cases b:r.Zq=0
  ·rw[Kg b] at a⊢;exact rJ h a
  ·rw[Kh b] at a⊢;cases f:Yz W σ (stepOf A r.at').asks with
   | none=>exact h
   | some xs=>
    rw[f] at a;simp only at a⊢;by_cases c:r.Zq=20
    ·rw[Kg c] at a;cases a
    ·rw[Kh c] at a⊢;by_cases d:(bR (stepOf A r.at') xs).over=true
     ·rw[Kg d] at a;cases a
     ·rw[Kh d] at a⊢;exact rJ (by exact h) a
theorem rq.did(h:rq σ)(f:dI W σ n):rq (doX W σ n):=by
 obtain⟨r,c,i⟩:=f;intro m q a d;rw[gG c] at a;by_cases e:m=n
 ·rw[Kg e] at a;cases a;exact DX (h n r c i.1) d
 ·rw[Kh e] at a;cases b:σ m with
  | some x=>rw[b] at a;cases a;exact h m _ b d
  | none=>
   rw[b] at a;simp only at a
   split at a
   ·cases a;rfl
   ·cases a
variable {Kj : List KC} {sl : List Q_}
theorem fU.open(b:fU Kq Kj sl):rq (Qq sl):=by
 obtain⟨_,_,_,j,L,e,c,_,rfl⟩:=b;refine c.keeps (P:=rq) (fun σ m h d=>h.did d.1) (fun m r a f=>?_);rw[iG] at a
 split at a
 ·cases a;rfl
 ·cases a
theorem fU.why(l:fU Kq Kj sl)(n:KC):∃out,BQ (Kk Kq) (Qq sl) n out/\out.length<=1400/\∀x∈out,1<=x.size/\x.size<=20:=by
 have m:=dL l.1;have v:oU Kq (b_ Kq Kj)<=1380:=by
  have d:=Ei Kq (b_ Kq Kj);have e:=kI l.1;omega
 obtain⟨_,_,_,G,L,H,w,_,rfl⟩:=l;have y:=kL m Kj;have A:(fun σ:Env=>dP Kq σ/\∃k b,k+dO (Kq.map (·.name)) σ<=1380/\oO (Kk Kq) σ k b) (Qq L):=by
  refine w.keeps (P:=fun σ:Env=>dP Kq σ/\∃k b,k+dO (Kq.map (·.name)) σ<=1380/\oO (Kk Kq) σ k b) ?_ ⟨y.env,0,fun _=>0,by unfold oU at v;omega,⟨fun p r a q=>?_,fun p r a q=>?_⟩⟩
  ·rintro σ p ⟨f,k,b,B,i⟩ j;have t:WfX (Kk Kq) σ:=fun C r a=>by
    obtain⟨d,e⟩:=f C r a;obtain⟨I,D,_⟩:=e.act;exact⟨d,by rw[<-d,D];rfl,e.lo,e.hi⟩
   refine⟨AO m f j.1,k+1,_, ?_,i.did f j.1⟩;obtain⟨r,a,_⟩:=j.1;have:=(lF t j.1 (Kq.map (·.name))).2 (nZ (t p r a).web);omega
  ·rw[iG] at a
   split at a
   ·cases a;cases q
   ·cases a
  ·rw[iG] at a
   split at a
   ·cases a;cases q
   ·cases a
 obtain⟨f,k,b,B,i⟩:=A;cases h:Qq L n with
 | none=>exact⟨[],.inl ⟨h,rfl⟩,by simp,fun x s=>by cases s⟩
 | some r=>
  by_cases c:r.over=true/\r.fail=true
  ·obtain⟨E,d,e,F⟩:=i.chain m f (b n) n r (IZ _) h c.1 c.2;have:=i.lt n r h c.1;exact⟨E,.inr (.inr ⟨r,h,c.1,c.2,d⟩),by omega,F⟩
  ·exact⟨[],.inr (.inl ⟨r,h,c,rfl⟩),by simp,fun x s=>by cases s⟩
def mq(Kq:List Qz)(Kj:List KC)(sl:List Q_)(name:KC)(ns:List KC):Prop:=(fU Kq Kj sl/\BQ (Kk Kq) (Qq sl) name ns)\/(¬fU Kq Kj sl/\ns=[])
theorem mq.len{a:KC}{b:List KC}(h:mq Kq Kj sl a b):b.length<=1400:=by
 rcases h with⟨c,d⟩|⟨_,rfl⟩
 ·obtain⟨out,e,f,_⟩:=c.why a;rw[d.unique e];exact f
 ·exact Ja _
theorem mq.one{e:KC}{f h:List KC}(i:mq Kq Kj sl e f)(k:mq Kq Kj sl e h):h=f:=by
 rcases i with⟨c,d⟩|⟨c,d⟩
 ·rcases k with⟨a,b⟩|⟨a,b⟩
  ·exact b.unique d
  ·exact Ki c a
 ·rcases k with⟨a,b⟩|⟨a,b⟩
  ·exact Ki a c
  ·rw[d,b]
def lH(l:List KC):Prop:=l.Pairwise bU
theorem Cu :∀{l m:List KC},lH l->lH m->(∀s,s∈l↔s∈m)->l=m
 | [],[],_,_,_=>rfl
 | [],y :: m,_,_,h=>by have:=(h y).2 (by simp);cases this
 | x :: l,[],_,_,h=>by have:=(h x).1 (by simp);cases this
 | x :: l,y :: m,hl,hm,h=>by
  obtain⟨c,f⟩:=Ku.1 hl;obtain⟨d,i⟩:=Ku.1 hm;have e:x=y:=by
   rcases JN.1 ((h x).1 (by simp)) with e|e
   ·exact e
   ·rcases JN.1 ((h y).2 (by simp)) with b|b
    ·exact b.symm
    ·exact Ki (c y b) (iR (d x e))
  subst e
  congr 1
  refine Cu f i (fun s=>?_);constructor
  ·intro a;rcases JN.1 ((h s).1 (Jp _ a)) with e|e
   ·rw[e] at a;exact Ki (c x a) (bH x)
   ·exact e
  ·intro a;rcases JN.1 ((h s).2 (Jp _ a)) with e|e
   ·rw[e] at a;exact Ki (d x a) (bH x)
   ·exact e
def Ef(l:List KC)(x:KC)(r:List KC):Prop:=(x∈l/\r=l)\/(x∉l/\∃k,k<=l.length/\r=l.take k++x :: l.drop k/\(∀y∈l.take k,bU y x)/\∀y∈l.drop k,bU x y)
theorem Ef.asc{l r:List KC}{x:KC}(h:Ef l x r)(b:lH l):lH r/\∀s,s∈r↔s∈l\/s=x:=by
 rcases h with⟨e,rfl⟩|⟨e,k,n,rfl,f,i⟩
 ·exact⟨b,fun s=>⟨.inl,fun h=>h.elim id (fun j=>by rw[j];exact e)⟩⟩
 ·have c:lH (l.take k++l.drop k):=by rw[JY];exact b
  unfold lH at c⊢;rw[Jy] at c⊢;refine⟨⟨c.1,Ku.2 ⟨i,c.2.1⟩,fun a b m d=>?_⟩,fun s=>?_⟩
  ·rcases JN.1 d with rfl|d
   ·exact f a b
   ·exact c.2.2 a b m d
  ·rw[Jh,JN];constructor
   ·rintro (h|h|h)
    ·exact .inl (List.mem_of_mem_take h)
    ·exact .inr h
    ·exact .inl (List.mem_of_mem_drop h)
   ·rintro (h|h)
    ·rw[<-JY k l] at h;rcases Jh.1 h with h|h
     ·exact .inl h
     ·exact .inr (.inr h)
    ·exact .inr (.inl h)
section
variable (W : dQ) (σ : Env)
end
theorem rW{A:dD}{r:Q_}:(bQ A r).2= (stepOf A (bQ A r).1.at').asks:=by
 unfold bQ;simp only
 split <;> rfl
theorem Ch{W:dQ}{σ:Env}{r:Q_}{A:dD}(c:W r.name=some A)(h:aV W σ r)(a:(Xx W σ r).1.over=false):(Xx W σ r).2= (stepOf A (Xx W σ r).1.at').asks:=by
 unfold Xx at a⊢;rw[c] at a⊢;simp only at a⊢;by_cases b:r.Zq=0
 ·rw[Kg b];exact rW
 ·rw[Kh b] at a⊢;rcases h.2 with i|⟨l,j,d,k⟩
  ·exact Ki i b
  ·rw[c] at d;cases d;rw[k] at a⊢;simp only at a⊢;by_cases e:r.Zq=20
   ·rw[Kg e] at a;cases a
   ·rw[Kh e] at a⊢;by_cases f:(bR (stepOf A r.at') j).over=true
    ·rw[Kg f] at a;cases a
    ·rw[Kh f];exact rW
structure mr (E:KC->KC->Prop) (nm:List KC):Prop where
 asc:lH nm
 all:∀x y,E x y->x∈nm
def iX(E:KC->KC->Prop)(nm:List KC)(p q:Nat):Prop:=∃(hp:p<nm.length) (hq:q<nm.length),E nm[p] nm[q]
section
variable {E : KC -> KC -> Prop} {nm : List KC}
theorem mr.less(h:mr E nm){p q:Nat}(a:p<nm.length)(b:q<nm.length):bU nm[p] nm[q]↔p<q:=by
 have c:=Jj.1 h.asc;constructor
 ·intro d;rcases Ke p q with e|e|e
  ·exact e
  ·subst e;exact Ki d (bH _)
  ·exact Ki d (iR (c q p b a e))
 ·exact c p q a b
theorem mr.inj(h:mr E nm){p q:Nat}(b:p<nm.length)(c:q<nm.length)(e:nm[p]=nm[q]):p=q:=by
 rcases Ke p q with g|g|g
 ·have:=(h.less b c).2 g;rw[e] at this;exact Ki this (bH _)
 ·exact g
 ·have:=(h.less c b).2 g;rw[e] at this;exact Ki this (bH _)
theorem mr.place(h:mr E nm){x y:KC}(b:E x y):∃(p:Nat) (hp:p<nm.length),nm[p]=x:=Jk (h.all x y b)
theorem Gh{n:Nat}{p q:Nat}(h:gp (iX E nm) n p q)(c:p<nm.length):∃b:q<nm.length,gp E n nm[p] nm[q]:=by
 induction h with
 | here a=>exact⟨c,.here _⟩
 | step h _ ih=>
  obtain⟨_,d,e⟩:=h;obtain⟨b,f⟩:=ih d;exact⟨b,.step e f⟩
def nameOf(nm:List KC)(p:Nat):KC:=nm.getD p ByteArray.empty
theorem lK{p:Nat}(a:p<nm.length):nameOf nm p=nm[p]:=by simp[nameOf,List.getD,a]
end
section
variable {E : KC -> KC -> Prop} {x : KC} {out more list : List KC}
theorem uC{l:List KC}(h:lH l):l.Nodup:=h.imp fun {_a _b} b=>dA b
end
theorem gZ.one{W:dQ}{σ:Env}{r:Q_}{L e:List KC}(f:(W r.name).isSome=true)(v:gZ W σ r L)(w:gZ W σ r e):L=e:=by
 obtain⟨x,c,h⟩:=v;obtain⟨m,b,k⟩:=w;have l:∀{i j:Nat} {A B:List KC},aJ W σ r.name i= (r,A)->aJ W σ r.name j= (r,B)->(∀q,q<i->aV W σ (aJ W σ r.name q).1)->(∀q,q<j->aV W σ (aJ W σ r.name q).1)->¬i<j:=fun {i j A B} y n C p D=>by
  have d:=(p i D).1;have s:=dR f C d;rw[y] at d s;have t:=dR f p (by rw[n];exact d);rw[n] at t;simp only at s t;omega
 have:x=m:=by
  have a:=l c b h k;have E:=l b c k h;omega
 subst this;rw[c] at b;exact (Prod.mk.inj b).2
def lQ(W:dQ)(σ:Env):Prop:=∀n r,σ n=some r->r.name=n/\∃L,gZ W σ r L
theorem lQ.did{W:dQ}{σ:Env}{n:KC}(j:lQ W σ)(b:dI W σ n):lQ W (doX W σ n):=by
 obtain⟨r,d,l⟩:=b;have b:dI W σ n:=⟨r,d,l⟩;intro m q a;rw[gG d] at a;by_cases e:m=n
 ·rw[Kg e] at a;cases a;obtain⟨f,L,h⟩:=j n r d;exact⟨by rw[bZ,f,e],_,(h.unit l).mono b⟩
 ·rw[Kh e] at a;cases i:σ m with
  | some x=>
   rw[i] at a;simp only[JI] at a;subst a;obtain⟨f,L,h⟩:=j m x i;exact⟨f,L,h.mono b⟩
  | none=>
   rw[i] at a;simp only at a
   split at a
   ·cases a;exact⟨rfl,_,gZ.start m⟩
   ·cases a
variable {Kj : List KC} {Kq : List Qz}
theorem fU.IX{b:List Q_}(c:fU Kq Kj b):lQ (Kk Kq) (Qq b):=by
 obtain⟨_,_,_,j,L,f,d,_,rfl⟩:=c;exact d.keeps (P:=fun σ:Env=>lQ (Kk Kq) σ) (fun σ m h e=>h.did e.1) (fun n r a=>by
  rw[iG] at a
  split at a
  ·cases a;exact⟨rfl,_,gZ.start n⟩
  ·cases a)
def gF(W:dQ)(σ:Env)(x y:KC):Prop:=∃r L,σ x=some r/\gZ W σ r L/\y∈L
def EH(E:KC->KC->Prop)(name x:KC):Prop:=∃n,gp E (n+1) x name
def pE(E:KC->KC->Prop)(names:List KC)(name:KC)(ns:List KC):Prop:=lH ns/\∀s,s∈ns↔s∈names/\EH E name s
structure ow (E:KC->KC->Prop) (names:List KC) (name:KC) (l0:Nat) (done out:List KC) (b:Bool):Prop where
 asc:lH out
 sub:∀s∈out,s∈names/\EH E name s
 cl:b=false->∀x∈done,∀y,E x y->(y=name\/y∈out)->x∈out
 le:l0<=out.length
 gr:b=true->l0<out.length
structure oq (E:KC->KC->Prop) (names:List KC) (name:KC) (l0:Nat) (done:List KC) (x:KC) (asks:List KC) (k:Nat) (out:List KC) (b:Bool):Prop where
 i:ow E names name l0 done out b
 cur:b=false->∀y∈asks.take k,(y=name\/y∈out)->x∈out
variable {ns : List KC}
section
variable {E : KC -> KC -> Prop} {names done asks out : List KC} {name x : KC} {l0 k : Nat} {b : Bool}
theorem ow.start(E:KC->KC->Prop)(b:List KC)(c:KC){out:List KC}(d:lH out)(e:∀s∈out,s∈b/\EH E c s):ow E b c out.length [] out false:=
 ⟨d,e,fun _ x f=>(by cases f),IZ _,fun h=>by cases h⟩
theorem ow.enter(h:ow E names name l0 done out b)(x:KC)(asks:List KC):oq E names name l0 done x asks 0 out b:=⟨h,fun _ y c=>by simp at c⟩
theorem oq.skip(h:oq E names name l0 done x asks k out b)(d:k<asks.length)(e:¬((asks[k]=name\/asks[k]∈out)/\x∉out)):oq E names name l0 done x asks (k+1) out b:=by
 refine⟨h.i,fun f y a c=>?_⟩;rw[Jf d] at a;rcases Jh.1 a with g | g
 ·exact h.cur f y g c
 ·rw[Jg] at g;subst g;exact Classical.byContradiction fun j=>e ⟨c,j⟩
theorem oq.put{a:List KC}(h:oq E names name l0 done x asks k out b)(j:k<asks.length)(l:x∈names)(m:∀y∈asks,E x y)(n:asks[k]=name\/asks[k]∈out)(p:x∉out)(q:lH a)(f:∀s,s∈a↔s∈out\/s=x):oq E names name l0 done x asks (k+1) a true:=by
 have w:out.length+1<=a.length:=by
  have r:(x :: out).Nodup:=List.nodup_cons.2 ⟨p,uC h.i.asc⟩;exact List.Nodup.length_le_of_subset r (fun s c=>(f s).2 (by rcases JN.1 c with g | g;exact .inr g;exact .inl g))
 have A:=h.i.le;refine⟨⟨q,fun s c=>?_,fun e=>(by cases e),by omega,fun _=>by omega⟩,fun e=>(by cases e)⟩;rcases (f s).1 c with g | rfl
 ·exact h.i.sub s g
 ·refine⟨l, ?_⟩;have d:=m _ (Ji j);rcases n with g|g
  ·rw[g] at d;exact⟨0,gp.one d⟩
  ·obtain⟨t,v⟩:=(h.i.sub _ g).2;exact⟨t+1,.step d v⟩
theorem oq.leave(h:oq E names name l0 done x asks k out b)(e:asks.length<=k)(f:∀y,E x y->y∈asks):ow E names name l0 (done++ [x]) out b:=by
 refine⟨h.i.asc,h.i.sub,fun a z j y c d=>?_,h.i.le,h.i.gr⟩;rcases Jh.1 j with g | g
 ·exact h.i.cl a z g y c d
 ·rw[Jg] at g;subst g;exact h.cur a y (by rw[JC e];exact f y c) d
theorem ow.whole(h:ow E names name l0 names out false)(e:∀x y,E x y->x∈names):pE E names name out:=by
 refine⟨h.asc,fun s=>⟨h.sub s, ?_⟩⟩;rintro⟨_,n,i⟩
 induction n generalizing s with
 | zero=>
  obtain⟨c,a,d⟩:=i.first
  rw[d.zero] at a;exact h.cl rfl s (e _ _ a) _ a (.inl rfl)
 | succ n ih=>
  obtain⟨c,a,d⟩:=i.first
  have j:c∈names:=by
   obtain⟨l,k,_⟩:=d.first
   exact e _ _ k
  exact h.cl rfl s (e _ _ a) _ a (.inr (ih c j d))
theorem ow.len(h:ow E names name l0 done out b):out.length<=names.length:=List.Nodup.length_le_of_subset (uC h.asc) (fun s d=>(h.sub s d).1)
theorem pE.unique{a:List KC}(h:pE E names name ns)(k:pE E names name a):a=ns:=Cu k.1 h.1 (fun s=>(k.2 s).trans (h.2 s).symm)
theorem AQ{d:List KC}(j:mr E d)(k:∀s,s∈d↔s∈names){l m:List Nat}(r:∀q,q∈m↔∃e:q<d.length,E d[q] name)(f:∀p,p∈l↔p<d.length/\n_ (iX E d) m p)(w:l.Pairwise (· < ·)):pE E names name (l.map (nameOf d)):=by
 refine⟨?_,fun s=>?_⟩
 ·unfold lH;rw[List.pairwise_map];exact w.imp_of_mem fun {p q} b e x=>by
   have a:=((f p).1 b).1;have c:=((f q).1 e).1;rw[lK a,lK c];exact (j.less a c).2 x
 ·rw[Ju];constructor
  ·rintro⟨p,b,rfl⟩;obtain⟨a,i,y,n,h⟩:=(f p).1 b;obtain⟨c,A⟩:=(r i).1 y;rw[lK a];obtain⟨t,B⟩:=Gh h a;exact⟨(k _).1 (Ji a),n,by have:=B.trans (gp.one A);exact this⟩
  ·rintro⟨v,n,h⟩;obtain⟨p,b,rfl⟩:=Jk ((k s).2 v);refine⟨p,(f p).2 ⟨b, ?_⟩,lK b⟩;clear v
   induction n generalizing p with
   | zero=>
    obtain⟨i,a,c⟩:=h.first
    rw[c.zero] at a;exact⟨p,(r p).2 ⟨b,a⟩,0,.here p⟩
   | succ n ih=>
    obtain⟨i,a,c⟩:=h.first
    obtain⟨H,t,_⟩:=c.first
    obtain⟨q,e,rfl⟩:=j.place t;obtain⟨C,D,F,G⟩:=ih q e c;exact⟨C,D,F+1,.step ⟨b,e,a⟩ G⟩
end
theorem wV{W:dQ}{σ:Env}{x:KC}{r:Q_}{L:List KC}(a:σ x=some r)(d:(W r.name).isSome=true)(b:gZ W σ r L)(y:KC):y∈L↔gF W σ x y:=by
 constructor
 ·exact fun h=>⟨r,L,a,b,h⟩
 ·rintro⟨i,j,c,e,f⟩;rw[a] at c;cases c;rw[b.one d e];exact f
def iA(Kq:List Qz)(Kj:List KC)(sl:List Q_)(name:KC)(ns:List KC):Prop:=ns.length<=60/\((fU Kq Kj sl/\pE (gF (Kk Kq) (Qq sl)) (sl.map (·.name)) name ns)\/(¬fU Kq Kj sl/\ns=[]))
theorem iA.len{a:List Q_}{b:KC}(h:iA Kq Kj a b ns):ns.length<=60:=h.1
theorem iA.one{e:List Q_}{f:KC}{h:List KC}(i:iA Kq Kj e f ns)(k:iA Kq Kj e f h):h=ns:=by
 rcases i.2 with⟨c,d⟩|⟨c,d⟩
 ·rcases k.2 with⟨a,b⟩|⟨a,b⟩
  ·exact d.unique b
  ·exact Ki c a
 ·rcases k.2 with⟨a,b⟩|⟨a,b⟩
  ·exact Ki a c
  ·rw[d,b]
section
variable {G : bW} {Kq : List Qz} {wz w w' : KH} {bb : Nat} {a : KG} {cap : Nat} {rd : KG} {rn rc : Nat} {mb mx : Nat} {ts : List Zk} {d : KG} {dc : Nat} {f : KC -> KI} {ws : KC -> List Nat}
theorem BM.store(j:BM G Kq wz w bb a cap rd rn rc mb mx ts d dc f ws){i:Nat}{t t':Zk}(C:ts[i]? =some t){o:Nat}{v:KI}(D:o<12)(e:t'.cells=t.cells.set o v)(k:t'.tb=t.tb)(E:t'.r.name=t.r.name)(F:t'.cost=t.cost)(H:t'.steps=t.steps)(I:t'.sa=t.sa)(q:t'.tv=t.tv)(s:t'.qv=t.qv)(y:t'.qs=t.qs)(J:t'.r.texts=t.r.texts):
  BM G Kq wz (w.setCell ⟨t.tb,o,none⟩ v) bb a cap rd rn rc mb mx (ts.set i t') d dc f ws:=by
 obtain⟨l,rfl⟩:=Je.1 C;have b:=j.fE _ (Ji l);have m:But (fun c=>c=ts[i].tb) w (w.setCell ⟨ts[i].tb,o,none⟩ v):=But.set (S:=fun c=>c=ts[i].tb) (But.aC (K_.refl w)) (p:=⟨ts[i].tb,o,none⟩) rfl v;have A:∀x∈ts[i].own,x≠ts[i].tb:=fun x n=>aQ (b.dZ n).1 b.row.type (by decide)
 have B:t'.own=ts[i].own:=by unfold Zk.own;rw[q,s]
 refine j.turn l m (fun c h=>.inl h) ⟨by rw[k];exact b.row.set v,by rw[k,e];exact lI b.rng b.row.row D v, ?_, ?_,by rw[k];exact b.low⟩ k E F H I (fun x n=>.inl (by rw[<-B];exact n)) (by rw[B];exact j.vR _ (Ji l)) (by rw[y];exact j.qb _ (Ji l))
 ·rw[q,J];exact m.owns b.txt (fun c h=>A c (Jh.2 (.inl (JD.2 h))))
 ·rw[s,y];exact m.owns b.ask (fun c h=>A c (Jh.2 (.inr (JD.2 h))))
theorem BM.at(h:BM G Kq wz w bb a cap rd rn rc mb mx ts d dc f ws){i:Nat}{t:Zk}(c:ts[i]? =some t):jH wz.heap.size w t:=h.fE t (Jm c)
theorem Tryz.He(w:KH):(zeroValue 102).run prog w= .ok (.slice none 0 0) w:=by kernel_rfl
theorem Tryz.keyed :Maps.Keyed prog 9:=Maps.string_keyed underlying9
theorem BM.look(h:BM G Kq wz w bb a cap rd rn rc mb mx ts d dc f ws){s:KC}(c:s.size<=maxLen):(Instr.lookup 110 (.map (some mb)) (.string s) false).run prog w= .ok (f s) w:=by
 obtain⟨N,D,_,i,j⟩:=h.map;obtain⟨v,m,k,b⟩:=i.lookup Tryz.keyed underlying110 (Tryz.He w) (zd:= .held (.slice none 0 0)) (zp:=[]) rfl (WideMaps.keyOf_string_mk underlying9 c);have e:=j s c;unfold asIs at b;simp only[JI,Prod.mk.injEq] at b;have l:(DataW.held v:DataW KI)= .held (f s):=b.1.trans e;cases l;exact k
theorem nW{s b:KC}(h:s≠b):je s≠je b:=fun e=>h (by
 unfold je at e;simp only[Lit.string.injEq] at e;exact xQ e)
theorem BM.del(h:BM G Kq wz w bb a cap rd rn rc mb mx ts d dc f ws){s:KC}(A:s.size<=maxLen)(q:TypeId):∃w',(Builtin.delete_ #[110,9] q #[.map (some mb),.string s]).run prog w= .ok (.tuple #[]) w'/\But (fun b=>b=mb) w w'/\BM G Kq wz w' bb a cap rd rn rc mb mx ts d dc (fun n=>if n=s then .slice none 0 0 else f n) (fun n=>if n=s then [] else ws n):=by
 obtain⟨N,L,B,r,C⟩:=h.map;obtain⟨w',D,E,F⟩:=r.drop Tryz.keyed underlying110 (WideMaps.keyOf_string_mk underlying9 A) q;have k:But (fun b=>b=mb) w w':=But.aK F.grown (fun b e=>(JR e).symm);refine⟨w',D,k, ?_⟩;have m:∀{b:Nat} {t:TypeId},bX w b t->¬b=mb:=fun H e=>jF r H e
 have l:=h.row.lt;have i:=m h.row.type;have I:Fen G w' bb mb ts (fun n=>if n=s then .slice none 0 0 else f n):=by
  have j:=h.oth.but k (fun b e=>by rw[e];exact h.oth.nm);refine⟨j.size,j.lt,j.same,j.nb,j.nm,j.nt,fun n x c=>?_,j.has⟩;by_cases e:n=s
  ·simp only[Kg e] at c;cases c
  ·simp only[Kh e] at c;exact h.oth.nf n x c
 refine⟨k.kept h.kw (fun b e=>by rw[e];exact h.yM),k.row h.row i,(k.cell l i).trans h.c0,(k.cell l i).trans h.c1,(k.cell l i).trans h.c2,(k.cell l i).trans h.c3,(k.cell l i).trans h.c4,(k.cell l i).trans h.c5,h.low,k.owns h.items (fun b e=>m (Y_ h.items e)),fun t p=>(h.fE t p).but k (m (h.fE t p).row.type) (fun x c=>m ((h.fE t p).dZ c).1),h.act,h.asc,h.tbs,h.sep,h.vR,⟨N,_,B,E,fun n J=>?_⟩,h.yM,fun n=>?_,fun n v K x c=>?_,fun n x c=>?_,h.qb,I,h.gi⟩
 ·by_cases e:n=s
  ·rw[Kg e,e];exact Maps.atKey_del_same _
  ·rw[Kh e,<-C n J];exact Maps.atKey_del_other (nW e) _
 ·by_cases e:n=s
  ·simp only[Kg e];exact JP _ _ _ _
  ·simp only[Kh e];exact k.owns (h.dJ n) (fun b e=>m (Y_ (h.dJ n) e))
 ·by_cases e:n=s
  ·rw[Kg e] at c;cases c
  ·rw[Kh e] at c;by_cases y:v=s
   ·rw[Kg y];intro h;cases h
   ·rw[Kh y];exact h.vQ n v K x c
 ·by_cases e:n=s
  ·rw[Kg e] at c;cases c
  ·rw[Kh e] at c;exact h.yJ n x c
end
def g_(ts:List Zk)(l:List Nat):List Zk:=ts.map fun t=>if t.tb∈l then {t with op:=t.op-1} else t
theorem Ad{a:List Zk}{l:List Nat}{i:Nat}(h:i<(g_ a l).length)(c:i<a.length):(g_ a l)[i]=if a[i].tb∈l then {a[i] with op:=a[i].op-1} else a[i]:=by simp[g_]
theorem zT(a:List Zk):g_ a []=a:=by simp[g_]
theorem wX{a:List Zk}{l:List Nat}{b j:Nat}{t:Zk}(p:(a.map (·.tb)).Nodup)(q:b∉l)(r:a[j]? =some t)(f:t.tb=b):g_ a (l++ [b])= (g_ a l).set j {t with op:=t.op-1}/\(g_ a l)[j]? =some t:=by
 obtain⟨k,rfl⟩:=Je.1 r;have s:(g_ a l)[j]? =some a[j]:=by
  unfold g_;rw[List.getElem?_map,Jd k];simp only[Option.map_some,JI];rw[Kh (by rw[f];exact q)]
 refine⟨?_,s⟩;apply List.ext_getElem
 ·simp[g_]
 ·intro i m w;have c:i<a.length:=by simpa[g_] using m
  rw[Ky,Ad m c];by_cases e:j=i
  ·subst e;rw[Kg rfl,Kg (by rw[f];simp)]
  ·rw[Kh e,Ad (by simpa[g_] using c) c];have v:a[i].tb≠b:=by
    rw[<-f];have n:=Jj.1 p;rcases Nat.lt_or_gt_of_ne e with h|h
    ·have:=n j i (by simpa using k) (by simpa using c) h;simp at this;exact fun e=>this e.symm
    ·have:=n i j (by simpa using c) (by simpa using k) h;simpa using this
   by_cases d:a[i].tb∈l
   ·rw[Kg d,Kg (Jh.2 (.inl d))]
   ·rw[Kh d,Kh (by rw[Jh,Jg];rintro (h|h);exact d h;exact v h)]
theorem Cq{b:List Zk}{l:List Nat}{i:Nat}{t:Zk}(h:b[i]? =some t):∃u,(g_ b l)[i]? =some u/\u.tb=t.tb/\u.r=t.r:=by
 refine⟨if t.tb∈l then {t with op:=t.op-1} else t,by unfold g_;rw[List.getElem?_map,h];rfl, ?_, ?_⟩
 ·by_cases h:t.tb∈l
  ·rw[Kg h]
  ·rw[Kh h]
 ·by_cases h:t.tb∈l
  ·rw[Kg h]
  ·rw[Kh h]
def Zk.ended(t:Zk)(fl:Bool)(tx:KC):Zk:={t with r:={t.r with over:=true,fail:=fl,text:=tx}}
section
variable {G : bW} {Kq : List Qz} {wz w w' : KH} {bb : Nat} {a : KG} {cap : Nat} {rd : KG} {rn rc : Nat} {mb mx : Nat} {ts : List Zk} {d : KG} {dc : Nat} {f : KC -> KI} {ws : KC -> List Nat}
theorem BM.ended(l:BM G Kq wz w bb a cap rd rn rc mb mx ts d dc f ws){i:Nat}{t:Zk}(e:ts[i]? =some t)(b:Bool)(c:KC):BM G Kq wz (((w.setCell ⟨t.tb,1,none⟩ (.bool true)).setCell ⟨t.tb,2,none⟩ (.bool b)).setCell ⟨t.tb,3,none⟩ (.string c)) bb a cap rd rn rc mb mx (ts.set i (t.ended b c)) d dc f ws:=by
 have h:i<ts.length:=(Je.1 e).1;have m:=l.store (t':={t with r:={t.r with over:=true}}) e (o:=1) (v:= .bool true) (by omega) rfl rfl rfl rfl rfl rfl rfl rfl rfl rfl;have j:=m.store (t':={t with r:={t.r with over:=true,fail:=b}}) (Kb h) (o:=2) (v:= .bool b) (by omega) rfl rfl rfl rfl rfl rfl rfl rfl rfl rfl;rw[List.set_set] at j;have k:=j.store (t':=t.ended b c) (Kb h) (o:=3) (v:= .string c) (by omega) rfl rfl rfl rfl rfl rfl rfl rfl rfl rfl;rw[List.set_set] at k;exact k
theorem lS(hB:BM G Kq wz w bb a cap rd rn rc mb mx ts d dc f ws){i:Nat}{t:Zk}(hi:ts[i]? =some t)(D:Bool)(E:KC)(b9:t.r.name.size<=1000)(c0:(ws t.r.name).length<=1000)(hw:∀b∈ws t.r.name,∃(a2:Nat) (u:Zk),(ts.set i (t.ended D E))[a2]? =some u/\u.tb=b/\1<=u.op/\u.op<=1000)(b2:(ws t.r.name).Nodup):
  Calls prog 140 #[.pointer (some ⟨bb,0,none⟩),.pointer (some ⟨t.tb,0,none⟩),.bool D,.string E] w fun e w'=>e= .returned (.tuple #[])/\BM G Kq wz w' bb a cap rd rn rc mb mx (g_ (ts.set i (t.ended D E)) (ws t.r.name)) d dc (fun n=>if n=t.r.name then .slice none 0 0 else f n) (fun n=>if n=t.r.name then [] else ws n):=by
 obtain⟨q,hm⟩:=ah ((ws t.r.name).length);have R:=hB.at hi;obtain⟨⟨_,x1⟩,f1⟩:=R.row.row.at (i:=1) (by omega);obtain⟨⟨_,x2⟩,f2⟩:=R.row.row.at (i:=2) (by omega);obtain⟨⟨_,x3⟩,f3⟩:=R.row.row.at (i:=3) (by omega);have tz:=R.row.lt;obtain⟨W1,a3⟩:=ah (((w.setCell ⟨t.tb,1,none⟩ (.bool true)).setCell ⟨t.tb,2,none⟩ (.bool D)).setCell ⟨t.tb,3,none⟩ (.string E));have a1:BM G Kq wz W1 bb a cap rd rn rc mb mx (ts.set i (t.ended D E)) d dc f ws:=by
  rw[a3];exact hB.ended hi D E
 obtain⟨va,vc,hf⟩:=ax (a1.dJ t.r.name);rw[<-hm] at hf;have b3:i<ts.length:=(Je.1 hi).1;have a4:(ts.set i (t.ended D E))[i]? =some (t.ended D E):=by rw[Kb b3]
 obtain⟨T1,a5⟩:=ah (ts.set i (t.ended D E));rw[<-a5] at a1 a4 hw⊢;have⟨c1,I,a6,Hf,H⟩:=iU a5 a1 a4 hf hm;have⟨HW,HN⟩:=aD hw b2;have c2:q<=1000:=by omega
 have S:Hid (∀w',K_ W1 w'->w'.cell? ⟨bb,5,none⟩=some (.map (some mb))/\w'.cell? ⟨t.tb,0,none⟩=some (.string t.r.name)/\(Instr.lookup 110 (.map (some mb)) (.string t.r.name) false).run prog w'= .ok (.slice va q vc) w'):=fun w' K=>⟨(I.o.kept K).c5,((I.o.kept K).at a6.o).rng 0 _ rfl,by rw[<-Hf.o];exact (I.o.kept K).look (by unfold maxLen;omega)⟩
 clear hB a1 R hi a4 a5 hf hm hw b2 b3;go_enter func140,ntmps140
 go_upto_region 1 with fail
 rw[<-a3];clear a3 x1 x2 x3 f1 f2 f3 tz;refine bS 10 S.o fun wd x p=>?_
 refine aB 0 p ?_;refine aB 4 p ?_;refine ae 8 p ?_;refine ae 9 p ?_;refine bG 10 11 (fun K c=>?_) (fun K c=>?_)
 ·rw[Kg (by rfl)];go_simp
  refine c.out _ _ (fun _=>S.o _ x) ?_;clear c K;try simp only[Act.put,upA,upB,upC]
  refine af 11 (fun K c=>?_);go_simp
  refine c.out _ _ (fun _=>S.o _ x) ?_;clear c K;try simp only[Act.put,upA,upB,upC]
  refine ay ?_;have T:=Kz (I.o.kept x);clear p;go_wp2
  go_loopw [35] (fun J wr=>∃k:Nat,k<=q/\J= .int .i64 k/\BM G Kq wz wr bb a cap rd rn rc mb mx (g_ T1 ((ws t.r.name).take k)) d dc f ws) (fun J _=>q-(intOf J).toNat)
  case atStart=>exact⟨0,Ja _,rfl,by rw[List.take_zero,zT];exact T.o⟩
  case round=>
   clear T x;obtain⟨k,hk,rfl,j⟩:=hrel;by_cases b4:k<q
   ·obtain⟨m,y⟩:∃m,(ws t.r.name)[k]? =some m:=⟨_,Jd (by have:=H.o;omega)⟩;have U:m∈ws t.r.name:=Jm y;obtain⟨a2,u,V,L,b5,b6⟩:=HW.o m U;have A:(ws t.r.name).take (k+1)= (ws t.r.name).take k++ [m]:=by
     obtain⟨B,C⟩:=Je.1 y;rw[Jf B,C]
    have W:m∉(ws t.r.name).take k:=fun h=>by
     have a7:=HN.o;obtain⟨B,C⟩:=Je.1 y;obtain⟨a8,hq,e⟩:=Jk h;rw[Jt] at hq;rw[JE] at e;have:=Jj.1 a7 a8 k (by omega) B (by omega);exact this (e.trans C.symm)
    obtain⟨M,N⟩:=wX I.o.tbs W V L;rw[<-A] at M;have F:=j.at N;have o9:wr.cell? ⟨u.tb,9,none⟩=some (.int .i64 (u.op:Int)):=F.rng 9 _ rfl;have uz:=F.row.lt;obtain⟨_,g9⟩:=F.row.row.at (i:=9) (by omega);have O:=j.dJ t.r.name;rw[Hf.o] at O;obtain⟨b,o,rfl,hb,X⟩:=eH (by have:=O;rw[<-H.o] at this;exact this) k (by simp;have:=H.o;omega);have b7:wr.cell? ⟨b,o+k,none⟩=some (.pointer (some ⟨u.tb,0,none⟩)):=by rw[X k (vP m) (by simp[y]),<-L];rfl
    have P:=Kz (j.store (t':={u with op:=u.op-1}) N (o:=9) (v:= .int .i64 ((u.op-1:Nat):Int)) (by omega) rfl rfl rfl rfl rfl rfl rfl rfl rfl rfl);rw[<-M] at P;have Y:((u.op-1:Nat):Int)= (u.op:Int)-1:=by omega
    rw[Y] at P;have i0:(k:Int)<(q:Int):=by omega
    clear X O F M N A W U y V L Y j;go_wp2
    go_roundw
    case rel=>exact⟨k+1,by omega,by go_num,P.o⟩
    case measure=>simp[intOf];omega
   ·obtain rfl:k=q:=by omega
    have A:(ws t.r.name).take k=ws t.r.name:=by rw[H.o];exact JB
    rw[A] at j;have Q:=Kz j;clear j A;have a9:=Kz (Cq (l:=ws t.r.name) a6.o);have b0:Hid (∀w',K_ wr w'->w'.cell? ⟨bb,5,none⟩=some (.map (some mb))/\w'.cell? ⟨t.tb,0,none⟩=some (.string t.r.name)):=fun w' K=>⟨(Q.o.kept K).c5,by obtain⟨u,B,C,h3⟩:=a9.o;have Z:=((Q.o.kept K).at B).rng 0 _ rfl;rw[C,h3] at Z;exact Z⟩
    go_upto_region 6 with fail
    refine bS 9 b0.o fun wd x p=>?_
    refine aB 0 p ?_;refine aB 4 p ?_;refine ae 8 p ?_;obtain⟨w9,b8,_,a0⟩:=(Q.o.kept x).del (s:=t.r.name) (by unfold maxLen;omega) 0;have b1:=Kz a0;clear a0;refine ai 9 (fun K c=>?_);go_simp
    refine c.out _ _ (fun h=>Ki rfl h) ?_;clear c K;try simp only[Act.put,upA,upB,upC]
    refine ay ?_;go_wp2
    go_end0
    exact⟨rfl,b1.o⟩
 ·rw[Kg (by rfl)];go_simp
  refine c.out _ _ (fun _=>S.o _ x) ?_;clear c K;try simp only[Act.put,upA,upB,upC]
  refine af 10 (fun K c=>?_);go_simp
  refine c.out _ _ (fun _=>S.o _ x) ?_;clear c K;try simp only[Act.put,upA,upB,upC]
  refine ay ?_;have T:=Kz (I.o.kept x);clear p;go_wp2
  go_loopw [35] (fun J wr=>∃k:Nat,k<=q/\J= .int .i64 k/\BM G Kq wz wr bb a cap rd rn rc mb mx (g_ T1 ((ws t.r.name).take k)) d dc f ws) (fun J _=>q-(intOf J).toNat)
  case atStart=>exact⟨0,Ja _,rfl,by rw[List.take_zero,zT];exact T.o⟩
  case round=>
   clear T x;obtain⟨k,hk,rfl,j⟩:=hrel;by_cases b4:k<q
   ·obtain⟨m,y⟩:∃m,(ws t.r.name)[k]? =some m:=⟨_,Jd (by have:=H.o;omega)⟩;have U:m∈ws t.r.name:=Jm y;obtain⟨a2,u,V,L,b5,b6⟩:=HW.o m U;have A:(ws t.r.name).take (k+1)= (ws t.r.name).take k++ [m]:=by
     obtain⟨B,C⟩:=Je.1 y;rw[Jf B,C]
    have W:m∉(ws t.r.name).take k:=fun h=>by
     have a7:=HN.o;obtain⟨B,C⟩:=Je.1 y;obtain⟨a8,hq,e⟩:=Jk h;rw[Jt] at hq;rw[JE] at e;have:=Jj.1 a7 a8 k (by omega) B (by omega);exact this (e.trans C.symm)
    obtain⟨M,N⟩:=wX I.o.tbs W V L;rw[<-A] at M;have F:=j.at N;have o9:wr.cell? ⟨u.tb,9,none⟩=some (.int .i64 (u.op:Int)):=F.rng 9 _ rfl;have uz:=F.row.lt;obtain⟨_,g9⟩:=F.row.row.at (i:=9) (by omega);have O:=j.dJ t.r.name;rw[Hf.o] at O;obtain⟨b,o,rfl,hb,X⟩:=eH (by have:=O;rw[<-H.o] at this;exact this) k (by simp;have:=H.o;omega);have b7:wr.cell? ⟨b,o+k,none⟩=some (.pointer (some ⟨u.tb,0,none⟩)):=by rw[X k (vP m) (by simp[y]),<-L];rfl
    have P:=Kz (j.store (t':={u with op:=u.op-1}) N (o:=9) (v:= .int .i64 ((u.op-1:Nat):Int)) (by omega) rfl rfl rfl rfl rfl rfl rfl rfl rfl rfl);rw[<-M] at P;have Y:((u.op-1:Nat):Int)= (u.op:Int)-1:=by omega
    rw[Y] at P;have i0:(k:Int)<(q:Int):=by omega
    clear X O F M N A W U y V L Y j;go_wp2
    go_roundw
    case rel=>exact⟨k+1,by omega,by go_num,P.o⟩
    case measure=>simp[intOf];omega
   ·obtain rfl:k=q:=by omega
    have A:(ws t.r.name).take k=ws t.r.name:=by rw[H.o];exact JB
    rw[A] at j;have Q:=Kz j;clear j A;have a9:=Kz (Cq (l:=ws t.r.name) a6.o);have b0:Hid (∀w',K_ wr w'->w'.cell? ⟨bb,5,none⟩=some (.map (some mb))/\w'.cell? ⟨t.tb,0,none⟩=some (.string t.r.name)):=fun w' K=>⟨(Q.o.kept K).c5,by obtain⟨u,B,C,h3⟩:=a9.o;have Z:=((Q.o.kept K).at B).rng 0 _ rfl;rw[C,h3] at Z;exact Z⟩
    go_upto_region 6 with fail
    refine bS 9 b0.o fun wd x p=>?_
    refine aB 0 p ?_;refine aB 4 p ?_;refine ae 8 p ?_;obtain⟨w9,b8,_,a0⟩:=(Q.o.kept x).del (s:=t.r.name) (by unfold maxLen;omega) 0;have b1:=Kz a0;clear a0;refine ai 9 (fun K c=>?_);go_simp
    refine c.out _ _ (fun h=>Ki rfl h) ?_;clear c K;try simp only[Act.put,upA,upB,upC]
    refine ay ?_;go_wp2
    go_end0
    exact⟨rfl,b1.o⟩
end
def mJ(V:Nat->Nat)(f n i:Nat):KI:= .int .i64 ((if i<60 then V i else if i=60 then f else n:Nat):Int)
structure iC (w:KH) (rb:Nat) (Q:List Nat):Prop where
 ex:∃V f,f<60/\Q.length<=60/\w.rowIs rb 165 62 (mJ V f Q.length)/\∀i,i<Q.length->V ((f+i) % 60)=Q.getD i 0
theorem iC.block{w w':KH}{a:Nat}{Q:List Nat}(h:iC w a Q)(k:w'.heap[a]? =w.heap[a]?):iC w' a Q:=by
 obtain⟨V,f,b,d,⟨c,e,i⟩,j⟩:=h;exact⟨V,f,b,d,⟨c,k.trans e,i⟩,j⟩
theorem nY{w:KH}{b n:Nat}{t:TypeId}{F G:Nat->KI}(h:w.rowIs b t n F)(i:Nat)(v:KI)(c:∀p,p<n->G p=if p=i then v else F p):(w.setCell ⟨b,i,none⟩ v).rowIs b t n G:=by
 obtain⟨d,e,f,j⟩:=World.rowIs.set h i v;refine⟨d,e,f,fun p a=>?_⟩;rw[j p a,c p a]
theorem nD{w w':KH}{b n:Nat}{t:TypeId}{F:Nat->KI}(h:w.rowIs b t n F)(k:K_ w w'):w'.rowIs b t n F:=by
 obtain⟨e,c,f⟩:=h;exact⟨e,(k.block b (aN c)).trans c,f⟩
theorem CJ(w:KH)(a:Nat)(Q:List Nat)(p:Nat)(v:iC w a Q)(F:Q.length<60):
  Calls prog 115 #[.pointer (some ⟨a,0,none⟩),.int .i64 (p:Int)] w fun e w'=>e= .returned (.tuple #[])/\iC w' a (Q++ [p])/\But (fun b=>b=a) w w':=by
 obtain⟨V,f,H,hn,c,x⟩:=v.ex;obtain⟨n,q⟩:=ah Q.length;rw[<-q] at c F;obtain⟨k,y⟩:=ah ((f+n) % 60);have I:k<60:=by omega
 have J:w.cell? ⟨a,60,none⟩=some (.int .i64 (f:Int)):=by rw[c.cell (by omega)];rfl
 have A:w.cell? ⟨a,61,none⟩=some (.int .i64 (n:Int)):=by rw[c.cell (by omega)];rfl
 have K:((f:Int)+ (n:Int)).tmod 60= (k:Int):=by rw[Int.tmod_eq_emod_of_nonneg (by omega)];omega
 have r:=fun i=>c.frozen i
 have L:=r k;have B:=r 61;have a0:(k:Int)<60:=by omega
 have M:=c.cell (show k<62 by omega);have s:=nY c k (.int .i64 (p:Int)) (G:=mJ (fun i=>if i=k then p else V i) f n) (fun i d=>by
  unfold mJ;by_cases e:i=k
  ·subst e;simp[I]
  ·simp[e])
 obtain⟨w1,h⟩:=ah (w.setCell ⟨a,k,none⟩ (.int .i64 (p:Int)));rw[<-h] at s;have C:But (fun b=>b=a) w w1:=by rw[h];exact But.set (S:=fun b=>b=a) (But.aC (K_.refl w)) (p:=⟨a,k,none⟩) rfl _
 have⟨N,O⟩:=aD s C;have P:Hid (∀i,i<Q.length->V ((f+i) % 60)=Q.getD i 0):=x;have R:Hid (k= (f+n) % 60):=y;have t:Hid (n=Q.length):=q;clear c r s C x y q v;go_enter func115,ntmps115
 go_wp2
 go_region
 rw[<-h];have j:K_ w1 w1.drew:=aG w1;generalize T:w1.drew=w2 at j⊢;clear h T J A L B M K;have l:=nD N.o j;have A:w2.cell? ⟨a,61,none⟩=some (.int .i64 (n:Int)):=by rw[l.cell (by omega)];rfl
 have B:=l.frozen 61;have U:=Kz l;have W:=Kz (O.o.trans (But.aC j));clear l j;go_wp2
 go_end0
 refine⟨rfl,⟨fun i=>if i=k then p else V i,f,H,by rw[JH];simp;have:=t.o;omega, ?_,fun i d=>?_⟩,But.set (S:=fun b=>b=a) W.o (p:=⟨a,61,none⟩) rfl _⟩
 ·rw[JH];refine nY U.o 61 _ (fun i d=>?_);unfold mJ;have m:=t.o;by_cases e:i=61
  ·subst e;simp[m]
  ·have X:¬i<60->i=60:=by omega
   by_cases D:i<60
   ·simp[D,e]
   ·simp[X D]
 ·rw[JH] at d;have m:=t.o;have Y:=R.o;by_cases e:i=Q.length
  ·subst e;simp only[<-m,<-Y,if_true,List.getD];rw[m];simp
  ·have E:i<Q.length:=by simp at d;omega
   have Z:(f+i) % 60≠k:=by omega
   simp only[Kh Z,P.o i E,List.getD,JU E]
theorem zZ(w:KH)(a:Nat)(Q:List Nat)(p:Nat)(v:iC w a (p :: Q)):
  Calls prog 116 #[.pointer (some ⟨a,0,none⟩)] w fun e w'=>e= .returned (.int .i64 (p:Int))/\iC w' a Q/\But (fun b=>b=a) w w':=by
 obtain⟨V,f,x,J,c,q⟩:=v.ex;obtain⟨n,j⟩:=ah Q.length;have y:V f=p:=by have:=q 0 (by simp);simpa[Nat.mod_eq_of_lt x] using this
 rw[JK,<-j] at c;rw[JK,<-j] at J;have W:(f:Int)<60:=by omega
 have A:Hid (∀u,w.rowIs a 165 62 (mJ V f (n+1))->K_ w u->u.cell? ⟨a,60,none⟩=some (.int .i64 (f:Int))/\u.cell? ⟨a,f,none⟩=some (.int .i64 (p:Int))):=fun u c k=>by
  have B:=nD c k;refine⟨by rw[B.cell (by omega)];rfl, ?_⟩;rw[B.cell (by omega)];unfold mJ;rw[Kg x,y]
 obtain⟨r,C⟩:=A.o w c (K_.refl w);have D:=Kz c;have K:Hid (∀i,i<Q.length->V ((f+ (i+1)) % 60)=Q.getD i 0):=fun i l=>by have:=q (i+1) (by simp;omega);simpa using this
 have E:Hid (n=Q.length):=j;clear c q j v y A;go_enter func116,ntmps116
 go_wp2
 go_region
 have s:K_ w w.drew:=aG w;generalize L:w.drew=w1 at s⊢;clear L r C;have m:=nD D.o s;have r:w1.cell? ⟨a,60,none⟩=some (.int .i64 (f:Int)):=by rw[m.cell (by omega)];rfl
 obtain⟨k,F⟩:=ah ((f+1) % 60);have M:((f:Int)+1).tmod 60= (k:Int):=by rw[Int.tmod_eq_emod_of_nonneg (by omega)];omega
 have N:=m.frozen 60;have⟨O,H⟩:=aD m F;clear m D F;go_upto_region 3 with fail
 have d:=nY O.o 60 (.int .i64 (k:Int)) (G:=mJ V k (n+1)) (fun i l=>by
  unfold mJ;by_cases e:i=60
  ·subst e;simp
  ·by_cases h:i<60
   ·simp[h,e]
   ·simp[h,e])
 have t:But (fun b=>b=a) w (w1.setCell ⟨a,60,none⟩ (.int .i64 (k:Int))):=But.set (S:=fun b=>b=a) (But.aC s) (p:=⟨a,60,none⟩) rfl _;generalize P:w1.setCell ⟨a,60,none⟩ (.int .i64 (k:Int))=w2 at d t⊢;clear P r N M;have C:w2.cell? ⟨a,61,none⟩=some (.int .i64 ((n+1:Nat):Int)):=by rw[d.cell (by omega)];rfl
 have X:=d.frozen 61;have Y:((n+1:Nat):Int)-1= (n:Int):=by omega
 have I:=nY d 61 (.int .i64 (n:Int)) (G:=mJ V k n) (fun i l=>by
  unfold mJ;by_cases e:i=61
  ·subst e;simp
  ·have R:¬i<60->i=60:=by omega
   by_cases h:i<60
   ·simp[h,e]
   ·simp[R h])
 have T:=Kz I;have U:=Kz (But.set (S:=fun b=>b=a) t (p:=⟨a,61,none⟩) rfl (.int .i64 (n:Int)));clear d I t;go_wp2
 go_ret
 refine⟨rfl,⟨V,k, ?_, ?_, ?_,fun i l=>?_⟩,U.o⟩
 ·rw[H.o];omega
 ·have:=E.o;omega
 ·rw[<-E.o];exact T.o
 ·rw[<-K.o i l];have:=H.o
  congr 1
  omega
theorem zt(w:KH)(x y:KC):Calls prog 113 #[.string x,.string y] w fun e w'=>e= .returned (.bool (Op.bytesLess x.toList y.toList))/\w'=w:=by
 cases a:Op.bytesLess x.toList y.toList
 all_goals
  go_enter func113,ntmps113
  go_wp2
  go_ret
  exact⟨rfl,rfl⟩
theorem vG(w:KH)(x:KC):Calls prog 114 #[.string x] w fun e w'=>e= .returned (.bool false)/\w'=w:=by
 go_enter func114,ntmps114
 go_wp2
 go_ret
 exact⟨rfl,rfl⟩
def oL(l:List KC)(s:KC)(e:Ending):Prop:=∃(k:Nat) (b:Bool),e= .returned (.tuple #[.int .i64 (k:Int),.bool b])/\(b=true->k<l.length/\l.getD k ByteArray.empty=s)/\(b=false->s∉l)
theorem oL.mk{l:List KC}{s:KC}{e:Ending}(k:Nat)(b:Bool)(h:e= .returned (.tuple #[.int .i64 (k:Int),.bool b]))(c:b=true->k<l.length/\l.getD k ByteArray.empty=s)(h2:b=false->s∉l):oL l s e:=⟨k,b,h,c,h2⟩
theorem zu(w:KH)(a:KG)(R:Nat)(l:List KC)(s:KC)(W:l.length<=1048576)(E:lH l)(F:Strs w a l):
  Calls prog 71 #[.slice a l.length R,.string s] w fun e w'=>oL l s e/\w'=w:=by
 have v:Hid (∀p q,p<q->q<l.length->bU (l.getD p ByteArray.empty) (l.getD q ByteArray.empty)):=fun p q n c=>by
  have:=Jj.1 E p q (by omega) c n;simpa[List.getD,c,show p<l.length by omega] using this
 clear E;go_enter func71,ntmps71
 go_wp2
 go_loopw [7,8] (fun x y wr=>∃i j:Nat,x= .int .i64 i/\y= .int .i64 j/\i<=j/\j<=l.length/\Hid (∀t,t<i->bU (l.getD t ByteArray.empty) s)/\Hid (∀t,j<=t->t<l.length->¬bU (l.getD t ByteArray.empty) s)/\wr=w) (fun x y _=>(intOf y).toNat-(intOf x).toNat)
 case atStart=>exact⟨0,l.length,rfl,rfl,Ja _,IZ _,Kz (fun t G=>aP G),Kz (fun t n c=>by omega),rfl⟩
 case round=>
  obtain⟨i,j,rfl,rfl,X,S,H,I,rfl⟩:=hrel;by_cases Y:(i:Int)<j
  ·obtain⟨h,J⟩:∃h:Nat,h= (i+j) / 2:=⟨_,rfl⟩;have K:h<l.length:=by omega
   have T:i<=h:=by omega
   have Z:h<j:=by omega
   obtain⟨b,o,rfl,U,r⟩:=F h K;obtain⟨d,f⟩:=ah (l.getD h ByteArray.empty);rw[<-f] at r;have k:=Kz f;clear f;have a0:((i:Int)+ (j:Int)) / 2= (h:Int):=by omega
   have HH:=Kz J;clear J;go_wp2_with fail
   refine (zt _ d s).mono ?_;rintro e w1 ⟨rfl,rfl⟩;clear r;cases L:Op.bytesLess d.toList s.toList
   ·go_wp2
    go_roundw
    case rel=>
     refine⟨i,h,rfl,by go_num,T,by omega,H,Kz (fun t n c M=>?_),trivial⟩;have N:¬bU (l.getD h ByteArray.empty) s:=fun g=>by rw[<-k.o] at g;unfold bU at g;rw[L] at g;cases g
     rcases Nat.lt_or_ge h t with e|e
     ·exact N (f_ (v.o h t e c) M)
     ·have:t=h:=by omega
      subst this;exact N M
    case measure=>simp[intOf];omega
   ·go_wp2
    go_roundw
    case rel=>
     refine⟨h+1,j,by go_num,rfl,by omega,S,Kz (fun t G=>?_),I,trivial⟩;have O:bU (l.getD h ByteArray.empty) s:=by rw[<-k.o];exact L
     rcases Nat.lt_or_ge t h with e|e
     ·exact f_ (v.o t h e K) O
     ·have:t=h:=by omega
      subst this;exact O
    case measure=>simp[intOf];omega
  ·have V:i=j:=by omega
   subst V;have P:Hid (s∈l->i<l.length/\l.getD i ByteArray.empty=s):=fun m=>by
    obtain⟨q,A,e⟩:=Jk m;have B:l.getD q ByteArray.empty=s:=by simpa[List.getD,A] using e
    have n:¬q<i:=fun g=>by have:=H.o q g;rw[B] at this;exact bH _ this
    have c:q=i:=by
     rcases Nat.lt_or_ge i q with g|g
     ·have Q:=v.o i q g A;rw[B] at Q;exact Ki Q (I.o i (IZ _) (by omega))
     ·omega
    subst c;exact⟨A,B⟩
   by_cases C:i<l.length
   ·obtain⟨b,o,rfl,U,r⟩:=F i C;obtain⟨d,f⟩:=ah (l.getD i ByteArray.empty);rw[<-f] at r;have k:=Kz f;clear f;have a1:(i:Int)<(l.length:Int):=by omega
    cases D:(d.toList == s.toList)
    ·go_wp2_with (first | (go_at_call 114;refine (vG _ _).mono ?_;rintro e w1 ⟨rfl,rfl⟩))
     go_ret2
     exact⟨oL.mk i false rfl (fun h=>by cases h) (fun _ m=>by
      have c:=(P.o m).2;rw[<-k.o] at c;rw[c] at D;simp at D),rfl⟩
    ·go_wp2
     go_ret2
     exact⟨oL.mk i true rfl (fun _=>⟨C,by rw[<-k.o];exact fu D⟩) (fun h=>by cases h),rfl⟩
   ·go_wp2
    go_ret2
    exact⟨oL.mk i false rfl (fun h=>by cases h) (fun _ m=>C (P.o m).1),rfl⟩
structure fP (E:KC->KC->Prop) (nm:List KC) (k:Nat) (S:List KC) (j M:Nat) (need back:Nat->List Nat):Prop where
 fwd:∀p q,q∈need p↔(p<k/\iX E nm p q)\/(p=k/\∃hq:q<nm.length,nm[q]∈S.take j)
 bwd:∀p q,p∈back q↔(p<k/\iX E nm p q)\/(p=k/\∃hq:q<nm.length,nm[q]∈S.take j)
 asc:∀p,(need p).Pairwise (· <= ·)
 len:∀p,(need p).length<=M/\(back p).length<=M
structure Fw (E:KC->KC->Prop) (nm:List KC) (M:Nat) (need back:Nat->List Nat):Prop where
 fwd:∀p q,q∈need p↔iX E nm p q
 bwd:∀p q,p∈back q↔iX E nm p q
 asc:∀p,(need p).Pairwise (· <= ·)
 len:∀p,(need p).length<=M/\(back p).length<=M
section
variable {E : KC -> KC -> Prop} {nm S : List KC} {k j M : Nat} {need back : Nat -> List Nat}
theorem fP.start(E:KC->KC->Prop)(c S:List KC):fP E c 0 S 0 0 (fun _=>[]) (fun _=>[]):=
 ⟨fun p q=>by simp,fun p q=>by simp,fun p=>List.Pairwise.nil,fun p=>⟨IZ _,IZ _⟩⟩
theorem fP.enter(h:fP E nm k S 0 M need back)(b:List KC):fP E nm k b 0 M need back:=
 ⟨fun p q=>by rw[h.fwd];simp,fun p q=>by rw[h.bwd];simp,h.asc,h.len⟩
theorem fP.leave(h:fP E nm k S j M need back)(f:k<nm.length)(i:S.length<=j)(c:∀y,y∈S↔E nm[k] y):fP E nm (k+1) [] 0 M need back:=by
 have d:∀p q,(p<k/\iX E nm p q)\/(p=k/\∃b:q<nm.length,nm[q]∈S.take j)↔(p<k+1/\iX E nm p q)\/(p=k+1/\∃b:q<nm.length,nm[q]∈([]:List KC).take 0):=fun p q=>by
  rw[JC i];constructor
  ·rintro (⟨l,a⟩|⟨rfl,b,a⟩)
   ·exact .inl ⟨by omega,a⟩
   ·exact .inl ⟨by omega,f,b,(c _).1 a⟩
  ·rintro (⟨l,m,b,a⟩|⟨_,_,a⟩)
   ·by_cases e:p=k
    ·subst e;exact .inr ⟨rfl,b,(c _).2 a⟩
    ·exact .inl ⟨by omega,m,b,a⟩
   ·simp at a
 exact⟨fun p q=>(h.fwd p q).trans (d p q),fun p q=>(h.bwd p q).trans (d p q),h.asc,h.len⟩
theorem fP.skip(h:fP E nm k S j M need back)(e:j<S.length)(f:S[j]∉nm):fP E nm k S (j+1) M need back:=by
 have d:∀q:Nat,(∃a:q<nm.length,nm[q]∈S.take j)↔∃a:q<nm.length,nm[q]∈S.take (j+1):=fun q=>by
  rw[Jf e];constructor
  ·rintro⟨a,c⟩;exact⟨a,Jh.2 (.inl c)⟩
  ·rintro⟨a,c⟩;rcases Jh.1 c with b|b
   ·exact⟨a,b⟩
   ·rw[Jg] at b;exact Ki (by rw[<-b];exact Ji a) f
 exact⟨fun p q=>by rw[h.fwd,d],fun p q=>by rw[h.bwd,d],h.asc,h.len⟩
theorem fP.put(m:mr E nm)(h:fP E nm k S j M need back)(n:j<S.length)(v:S.Pairwise fun a b=>¬bU b a){q:Nat}(i:q<nm.length)(l:nm[q]=S[j])(D:k<nm.length)(F:∀y∈S,E nm[k] y):
  fP E nm k S (j+1) (M+1) (fun p=>if p=k then need k++ [q] else need p) (fun p=>if p=q then back q++ [k] else back p):=by
 have s:∀r:Nat,(∃f:r<nm.length,nm[r]∈S.take (j+1))↔(∃f:r<nm.length,nm[r]∈S.take j)\/r=q:=fun r=>by
  rw[Jf n];constructor
  ·rintro⟨f,d⟩;rcases Jh.1 d with c|c
   ·exact .inl ⟨f,c⟩
   ·rw[Jg,<-l] at c;exact .inr (m.inj f i c)
  ·rintro (⟨f,d⟩|rfl)
   ·exact⟨f,Jh.2 (.inl d)⟩
   ·exact⟨i,Jh.2 (.inr (by rw[l];simp))⟩
 refine⟨fun p r=>?_,fun p r=>?_,fun p=>?_,fun p=>⟨?_, ?_⟩⟩
 ·rw[s];by_cases e:p=k
  ·subst e;simp only[if_true,Jh,Jg,h.fwd];constructor
   ·rintro ((⟨d,c⟩|⟨_,c⟩) | c)
    ·exact .inl ⟨d,c⟩
    ·exact .inr ⟨trivial,.inl c⟩
    ·exact .inr ⟨trivial,.inr c⟩
   ·rintro (⟨d,c⟩|⟨_,c|c⟩)
    ·exact .inl (.inl ⟨d,c⟩)
    ·exact .inl (.inr ⟨trivial,c⟩)
    ·exact .inr c
  ·show (r∈if p=k then need k++ [q] else need p)↔_;rw[Kh e,h.fwd];simp only[e,false_and,or_false]
 ·rw[s];by_cases e:r=q
  ·subst e;simp only[if_true,Jh,Jg,h.bwd];constructor
   ·rintro ((d|⟨d,c⟩) | d)
    ·exact .inl d
    ·exact .inr ⟨d,.inl c⟩
    ·exact .inr ⟨d,.inr trivial⟩
   ·rintro (d|⟨d,c|_⟩)
    ·exact .inl (.inl d)
    ·exact .inl (.inr ⟨d,c⟩)
    ·exact .inr d
  ·show (p∈if r=q then back q++ [k] else back r)↔_;rw[Kh e,h.bwd];simp only[e,or_false]
 ·by_cases e:p=k
  ·subst e;simp only[if_true];rw[Jy];refine⟨h.asc p,by simp,fun a w b t=>?_⟩;rw[Jg] at t;subst t;rcases (h.fwd p a).1 w with⟨d,_⟩ | ⟨_,x,c⟩
   ·omega
   ·obtain⟨A,G,B⟩:=List.mem_take_iff_getElem.1 c;have C:=Jj.1 v A j (by omega) n (by omega);rw[B,<-l,m.less i x] at C;omega
  ·simp only[Kh e];exact h.asc p
 ·by_cases e:p=k
  ·simp only[e,if_true,JH,Kt];have:=(h.len k).1;omega
  ·simp only[Kh e];have:=(h.len p).1;omega
 ·by_cases e:p=q
  ·simp only[e,if_true,JH,Kt];have:=(h.len q).2;omega
  ·simp only[Kh e];have:=(h.len p).2;omega
theorem fP.whole(h:fP E nm nm.length [] 0 M need back):Fw E nm M need back:=by
 have e:∀p q,(p<nm.length/\iX E nm p q)\/(p=nm.length/\∃hq:q<nm.length,nm[q]∈([]:List KC).take 0)↔iX E nm p q:=fun p q=>by
  constructor
  ·rintro (⟨_,c⟩|⟨_,_,c⟩)
   ·exact c
   ·simp at c
  ·intro c;exact .inl ⟨c.1,c⟩
 exact⟨fun p q=>(h.fwd p q).trans (e p q),fun p q=>(h.bwd p q).trans (e p q),h.asc,h.len⟩
end
section
variable {R : Nat -> Nat -> Prop} {t : Nat}
end
