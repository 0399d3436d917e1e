import Derived.Test.YtgnkgfjmbmcfcaaGreatDoorKURes
import Derived.Test.YtgnkgfjmbmcfcaaGreatDoorKBData
set_option maxRecDepth 100000
set_option maxHeartbeats 25600000
namespace Go.Proofs.YtgnkgfjmbmcfcaaGreatDoor
open Go.RowKit Go.Proofs.Tryz
def aF.zero :aF:=⟨0,0,⟨#[]⟩⟩
def aF.cells(r:aF):List QA:=[.int .i64 r.at',.int .i64 (r.worker:Int),.string r.name]
def mR(w:Qy)(a:Qx)(l:List aF):Prop:=
 ∀i,i<l.length->∃b o,a=some ⟨b,o,none⟩/\b<w.heap.size/\w.rangeAt b (o+i*3) (l.getD i aF.zero).cells
variable {l : List aF} {a : Qx} {w : Qy}
theorem mR.kept{w':Qy}(h:mR w a l)(k:K_ w w'):mR w' a l:=by
 intro i c;obtain⟨d,o,e,b,f⟩:=h i c;exact⟨d,o,e,OV b k.size,k.range b f⟩
def iG(w:Qy)(lo hi:Nat)(a:Qx)(l:List aF):Prop:=
 l=[]\/∃b,a=some ⟨b,0,none⟩/\lo<=b/\b<hi/\Row w b (l.length*3)/\∀i,i<l.length->w.rangeAt b (i*3) (l.getD i aF.zero).cells
theorem iG.same{w':Qy}{lo hi:Nat}(h:iG w lo hi a l)(k:Same lo hi w w'):iG w' lo hi a l:=by
 rcases h with h|⟨b,f,c,d,e,g⟩
 ·exact .inl h
 ·exact .inr ⟨b,f,c,d,k.row c d e,fun i hi=>k.range c d e.lt (g i hi)⟩
theorem iG.mono{lo hi c d:Nat}(h:iG w lo hi a l)(i:c<=lo)(h2:hi<=d):iG w c d a l:=by
 rcases h with h|⟨b,e,j,k,f,g⟩
 ·exact .inl h
 ·exact .inr ⟨b,e,by omega,by omega,f,g⟩
theorem iG.Ac{lo hi:Nat}(h:iG w lo hi a l):mR w a l:=by
 rcases h with rfl|⟨b,c,f,g,d,e⟩
 ·intro i hi;simp at hi
 ·intro i hi;exact⟨b,0,c,d.lt,by rw[PD];exact e i hi⟩
def sG(k:Nat):aF:=⟨k,k+1,fP (k+2)⟩
def fB(l:List aF)(k:Nat):List aF:=l.mapIdx fun i _=>sG (k+i*3)
theorem kF(l:List aF)(k:Nat):(fB l k).length=l.length:=by simp[fB]
theorem qG(l:List aF)(k i:Nat)(h:i<l.length):(fB l k).getD i aF.zero=sG (k+i*3):=by simp[fB,List.getD,h]
theorem Fj(w:Qy)(x y:Int)(z:Qw):
  Calls prog 88 #[.agg #[.int .i64 x,.int .i64 y,.string z],.agg #[.int .i64 x,.int .i64 y,.string z]] w fun e w'=>e= .returned (.bool true)/\K_ w w':=by
 go_enter func88,ntmps88
 go_wp2
 go_ret
 exact⟨rfl,by repeat (first | apply K_.alloc | apply K_.drew | exact K_.refl _)⟩
theorem vI(w:Qy)(a h:Qx)(cap m:Nat)(l:List aF)(n:l.length<=maxLen)
  (p:mR w a l) (q:mR w h l):
  Calls prog 34 #[.slice a l.length cap,.slice h l.length m] w fun e w'=>e= .returned (.bool true)/\K_ w w':=by
 unfold maxLen at n;go_enter func34,ntmps34
 go_wp2
 go_loopw [5] (fun i wr=>∃k:Nat,k<=l.length/\i= .int .i64 k/\K_ w wr) (fun i _=>l.length-(intOf i).toNat)
 case atStart=>exact⟨0,OW _,rfl,K_.refl _⟩
 case round=>
  obtain⟨k,t,rfl,f⟩:=hrel;by_cases j:k<l.length
  ·obtain⟨b,o,rfl,v,c⟩:=p.kept f k j;obtain⟨x,y,rfl,z,d⟩:=q.kept f k j;generalize l.getD k aF.zero=g at *;have r:=c 0 _ rfl;have A:=c 1 _ rfl;have B:=c 2 _ rfl;have s:=d 0 _ rfl;have C:=d 1 _ rfl;have D:=d 2 _ rfl;simp only[PR] at r s;clear c d;go_wp2
   go_region_with (go_at_call 88;refine (Fj _ g.at' (g.worker:Int) g.name).mono ?_;rintro e E ⟨rfl,F⟩)
   all_goals
    go_wp2
    go_roundw
    case rel=>exact⟨k+1,by omega,by go_num,by repeat (first | assumption | apply K_.drew | refine K_.trans ?_ (by assumption))⟩
    case measure=>simp[intOf];omega
  ·go_wp2
   go_ret
   exact⟨rfl,f⟩
theorem Mx{b o:Nat}{x y z:QA}(e:w.cell? ⟨b,o,none⟩=some x)(f:w.cell? ⟨b,o+1,none⟩=some y)(h2:w.cell? ⟨b,o+2,none⟩=some z):w.rangeAt b o [x,y,z]:=by
 intro i v a
 match i,a with
 | 0,a=>simp at a;subst a;exact e
 | 1,a=>simp at a;subst a;exact f
 | 2,a=>simp at a;subst a;exact h2
 | i+3,a=>simp at a
theorem qQ(w:Qy)(lo hi:Nat)(a:Qx)(cap:Nat)(l:List aF)(k:Nat)(h0:0<k)(h1:k+l.length*3<=4611686018427387904)(N:iG w lo hi a l):
  Calls prog 39 #[.slice a l.length cap,.int .i64 k] w fun e w'=>e= .returned (.int .i64 ((k+l.length*3:Nat):Int))/\iG w' lo hi a (fB l k)/\Xj lo hi w w':=by
 rcases N with rfl|⟨B,rfl,O,P,s,Q⟩
 ·go_enter func39,ntmps39
  go_wp2
  go_loopw [1,5] (fun x i wr=>x= .int .i64 k/\i= .int .i64 0/\wr=w) (fun _ _ _=>0)
  case atStart=>exact⟨rfl,rfl,rfl⟩
  case round=>
   obtain⟨rfl,rfl,rfl⟩:=hrel;go_wp2
   go_ret
   exact⟨by simp,.inl rfl,Xj.refl _ _ _⟩
 ·clear Q;go_enter func39,ntmps39
  go_wp2
  go_loopw [1,5] (fun x i wr=>∃j m:Nat,j<=l.length/\i= .int .i64 j/\x= .int .i64 m/\m=k+j*3/\Xj lo hi w wr/\Row wr B (l.length*3)/\∀t,t<j->wr.rangeAt B (t*3) (sG (k+t*3)).cells) (fun _ i _=>l.length-(intOf i).toNat)
  case atStart=>exact⟨0,k,OW _,rfl,rfl,by omega,Xj.refl _ _ _,s,fun t v=>aB v⟩
  case round=>
   obtain⟨j,m,hj,rfl,rfl,y,A,b,C⟩:=hrel;clear s;have⟨h,D⟩:=aD y C;by_cases a0:j<l.length
   ·have a1:0<m:=by omega
    have a2:m+3<=4611686018427387904:=by omega
    have a3:=b.lt;clear C y;obtain⟨E,F,G⟩:∃txt,txt=fP (m+2)/\∀z:Int,z= ((m+2:Nat):Int)->∀W,Calls prog 38 #[.int .i64 z] W fun e w'=>e= .returned (.string txt)/\K_ W w':=⟨_,rfl,fun z R W=>by rw[R];exact fZ W _ (by omega) (by omega)⟩
    have⟨S,H⟩:=aD F G;obtain⟨⟨_,T⟩,U⟩:=b.at (i:=j*3) (by omega);obtain⟨⟨_,V⟩,X⟩:=b.at (i:=j*3+1) (by omega);have n:=Kz b;clear F G b;go_wp2_with fail
    refine (H.o _ (by omega) _).mono ?_;rintro e I ⟨rfl,c⟩;have p:=n.o.set ⟨B,j*3,none⟩ rfl (.int .i64 (m:Int));have d:=p.set ⟨B,j*3+1,none⟩ rfl (.int .i64 ((m:Int)+1));have f:I.cell? ⟨B,j*3,none⟩=some (.int .i64 (m:Int)):=by rw[c.cell d.lt,Xk (by omega)];exact bH n.o (by omega) _
    have g:I.cell? ⟨B,j*3+1,none⟩=some (.int .i64 ((m:Int)+1)):=by rw[c.cell d.lt];exact bH p (by omega) _
    have J:=(((lW.refl B (j*3) (j*3+3) B B wr).setCell (o:=j*3) (by omega) (by omega) (.int .i64 (m:Int))).setCell (o:=j*3+1) (by omega) (by omega) (.int .i64 ((m:Int)+1))).kept c d.lt;have q:=d.kept c;obtain⟨⟨_,a4⟩,f3⟩:=q.at (i:=j*3+2) (by omega);have K:=Kz q;have Y:=Kz (J.setCell (o:=j*3+2) (by omega) (by omega) (.string E));have Z:=Kz (And.intro f g);clear f g p d J q c n H U T X V;go_wp2
    go_roundw
    case rel=>
     have L:=Y.o;refine⟨j+1,m+3,by omega,by go_num,by go_num,by have:=h.o;omega,A.trans (L.keptBut (by omega) (by omega) (by omega) (by omega)),K.o.set _ rfl _,fun t v=>?_⟩;by_cases e:t=j
     ·subst e;obtain⟨f,g⟩:=Z.o;have em:sG (k+t*3)= ⟨(m:Int),m+1,fP (m+2)⟩:=by unfold sG;rw[<-h.o]
      rw[em];have M:=bH K.o (show t*3+2<l.length*3 by omega) (.string E);rw[S.o] at M⊢;exact Mx (by rw[Xk (by omega)];exact f) (by rw[Xk (by omega),g];rfl) M
     ·exact L.range (by simp[aF.cells];omega) (D.o t (by omega))
    case measure=>simp[intOf];omega
   ·have:j=l.length:=by omega
    subst this;go_wp2
    go_ret
    refine⟨aU (by have:=h.o;omega),.inr ⟨B,rfl,O,P,by rw[kF];exact b,fun i r=>?_⟩,A⟩;rw[kF] at r;rw[qG _ _ _ r];exact D.o i r
theorem qO(w:Qy)(a:Qx)(cap:Nat)(l:List aF)(k:Nat)(H:0<k)(I:k+l.length*3<=4611686018427387904)(t:mR w a (fB l k)):
  Calls prog 41 #[.slice a l.length cap,.int .i64 k] w fun e w'=>e= .returned (.int .i64 ((k+l.length*3:Nat):Int))/\K_ w w':=by
 go_enter func41,ntmps41
 go_wp2
 go_loopw [1,5] (fun v i wr=>∃j m:Nat,j<=l.length/\i= .int .i64 j/\v= .int .i64 m/\m=k+j*3/\K_ w wr) (fun _ i _=>l.length-(intOf i).toNat)
 case atStart=>exact⟨0,k,OW _,rfl,rfl,by omega,K_.refl _⟩
 case round=>
  obtain⟨j,m,J,rfl,rfl,d,f⟩:=hrel;have h:=Kz d;by_cases n:j<l.length
  ·obtain⟨b,o,rfl,x,c⟩:=t.kept f j (by rw[kF];exact n);rw[qG _ _ _ n,<-d] at c;have K:m+3<=4611686018427387904:=by omega
   have L:0<m:=by omega
   obtain⟨g,p,q⟩:∃txt,txt=fP (m+2)/\∀z:Int,z= ((m+2:Nat):Int)->∀W,Calls prog 38 #[.int .i64 z] W fun e w'=>e= .returned (.string txt)/\K_ W w':=⟨_,rfl,fun z y W=>by rw[y];exact fZ W _ (by omega) (by omega)⟩
   have r:wr.cell? ⟨b,o+j*3+0,none⟩=some (.int .i64 (m:Int)):=c 0 _ rfl;have A:wr.cell? ⟨b,o+j*3+1,none⟩=some (.int .i64 ((m:Int)+1)):=c 1 _ rfl;have s:=c 2 (.string g) (by rw[p];rfl);rw[PR] at r;have B:=Kz q;clear c p q d;have C:Hid (∀w',K_ wr w'->(fun w'=>w'.cell? ⟨b,o+j*3+2,none⟩=some (.string g)) w'):=fun w' D=>(D.cell x).trans s
   go_wp2
   go_region_held (fun w'=>w'.cell? ⟨b,o+j*3+2,none⟩=some (.string g)) (exact aP C _ (by repeat (first | (with_reducible exact K_.refl _) | (with_reducible assumption) | apply K_.drew))) ((go_at_call 38;refine (B.o _ (by omega) _).mono ?_;rintro e E ⟨rfl,F⟩;have G:K_ wr E:=K_.trans (by repeat (first | (with_reducible exact K_.refl _) | (with_reducible assumption) | apply K_.drew)) F))
   all_goals
    clear r A s;go_wp2
    go_roundw
    case rel=>exact⟨j+1,m+3,by omega,by go_num,by go_num,by have:=h.o;omega,by repeat (first | exact f.trans G | apply K_.drew)⟩
    case measure=>simp[intOf];omega
  ·have:j=l.length:=by omega
   subst this;go_wp2
   go_ret
   exact⟨aU (by have:=h.o;omega),f⟩
variable {Kq : List Qz}
theorem nS(h:cu Kq 0):Kq.length<=60:=by
 rcases h with⟨_,h⟩|⟨_,_,h⟩|⟨_,_,_,h⟩|⟨_,_,_,_,h⟩|⟨h,_⟩
 ·cases h
 ·cases h
 ·cases h
 ·cases h
 ·omega
theorem Dv(h:cu Kq 0){k:Nat}(c:k<Kq.length):oq (Kq.getD k Qz.zero).name/\lu ⟨(Kq.getD k Qz.zero).cost,(Kq.getD k Qz.zero).steps⟩:=by
 rcases h with⟨_,h⟩|⟨_,_,h⟩|⟨_,_,_,h⟩|⟨_,_,_,_,h⟩|⟨_,d,_,e,_⟩
 ·cases h
 ·cases h
 ·cases h
 ·cases h
 ·refine⟨Classical.byContradiction fun b=>d ⟨k,c,b⟩,Classical.byContradiction fun b=>e ⟨k,c,b⟩⟩
theorem lK(h:cu Kq 0):a_ (Kk Kq):=fun n A c=>by
 obtain⟨k,d,e,_,rfl⟩:=gm c;obtain⟨a,f⟩:=Dv h d;rw[e] at a;exact⟨f,a⟩
theorem AR(h:cu Kq 0):kY Kq:=fun y d s e=>by
 obtain⟨k,a,rfl⟩:=Ph d;have b:=(Dv h a).2;simp only[List.getD,OZ a,Ql] at b;obtain⟨i,f,rfl⟩:=Ph e;have c:=jM (i:=(i:Int)) b (by omega) (by show (i:Int)<((Kq[k].steps.length:Nat):Int);omega);have g:stepOf ⟨Kq[k].cost,Kq[k].steps⟩ (i:Int)=Kq[k].steps[i]:=by simp[stepOf,List.getD,f]
 rw[g] at c;exact⟨by omega,fun x j=>by have:=(c.2 x j).2.1;omega⟩
def iN(Kq:List Qz)(Kj:List Qw)(sl:List Q_):Prop:=cu Kq 0/\eO Kj/\sl.length<=Kq.length/\Oy Kq Kj sl
theorem iN.good{b:List Qw}{a:List Q_}(h:iN Kq b a):dU Kq a:=by
 obtain⟨_,_,_,k,L,d,_,_,rfl⟩:=h;exact d
section
variable (W : aZ) (σ : Env)
end
theorem FC{Kq:List Qz}{σ:Env}{n:Qw}(g:a_ (Kk Kq))(h:iD Kq σ)(b:bD (Kk Kq) σ n):iD Kq (doX (Kk Kq) σ n):=by
 obtain⟨r,b,i⟩:=b;intro m q a;rw[jw b] at a;by_cases e:m=n
 ·rw[Qg e] at a;cases a;exact⟨by rw[fe,e];exact (h n r b).1,fM g h (h n r b).2 i⟩
 ·rw[Qh e] at a;cases f:σ m with
  | some x=>
   rw[f] at a;cases a;exact h m _ f
  | none=>
   rw[f] at a;simp only at a
   split at a
   ·rename_i h2
    cases a;exact⟨rfl,lM g h2.2⟩
   ·cases a
def oN(l:List Qw):Prop:=l.Pairwise aH
theorem oN.nodup{l:List Qw}(h:oN l):l.Nodup:=h.imp fun b=>fE b
def Gb(l:List Qw)(x:Qw)(r:List Qw):Prop:=(x∈l/\r=l)\/(x∉l/\∃k,k<=l.length/\r=l.take k++x :: l.drop k/\(∀y∈l.take k,aH y x)/\∀y∈l.drop k,aH x y)
theorem Gb.asc{l r:List Qw}{x:Qw}(h:Gb l x r)(b:oN l):oN r/\∀s,s∈r↔s∈l\/s=x:=by
 rcases h with⟨e,rfl⟩|⟨e,k,m,rfl,f,g⟩
 ·exact⟨b,fun s=>⟨.inl,fun h=>h.elim id (fun i=>by rw[i];exact e)⟩⟩
 ·have c:oN (l.take k++l.drop k):=by rw[Qa];exact b
  unfold oN at c⊢;rw[Py] at c⊢;refine⟨⟨c.1,Qs.2 ⟨g,c.2.1⟩,fun a b j d=>?_⟩,fun s=>?_⟩
  ·rcases PS.1 d with rfl|d
   ·exact f a b
   ·exact c.2.2 a b j d
  ·rw[Pe,PS];constructor
   ·rintro (h|h|h)
    ·exact .inl (List.mem_of_mem_take h)
    ·exact .inr h
    ·exact .inl (List.mem_of_mem_drop h)
   ·rintro (h|h)
    ·rw[<-Qa k l] at h;rcases Pe.1 h with h|h
     ·exact .inl h
     ·exact .inr (.inr h)
    ·exact .inr (.inl h)
section
variable (W : aZ) (σ : Env)
def Ni(s:Qw):Prop:=∃q,σ s=some q/\q.over=false
def bC(n s:Qw):Prop:=∃r A,σ n=some r/\r.over=false/\r.Zq≠0/\W n=some A/\s∈(stepOf A r.at').asks/\Ni σ s
def sS(n:Qw)(ns:List Qw):Prop:=oN ns/\∀s,s∈ns↔bC W σ n s
def nU :Prop:=∀n r A,σ n=some r->r.over=false->r.Zq≠0->W n=some A->∀s∈(stepOf A r.at').asks,(W s).isSome=true->(σ s).isSome=true
end
theorem vM{A:fA}{r:Q_}:(gu A r).2= (stepOf A (gu A r).1.at').asks:=by
 unfold gu;simp only
 split <;> rfl
theorem Fa{W:aZ}{σ:Env}{r:Q_}{A:fA}(c:W r.name=some A)(g:bL W σ r)(a:(Xx W σ r).1.over=false):(Xx W σ r).2= (stepOf A (Xx W σ r).1.at').asks:=by
 unfold Xx at a⊢;rw[c] at a⊢;simp only at a⊢;by_cases b:r.Zq=0
 ·rw[Qg b];exact vM
 ·rw[Qh b] at a⊢;rcases g.2 with h|⟨k,i,d,j⟩
  ·exact Qi h b
  ·rw[c] at d;cases d;rw[j] at a⊢;simp only at a⊢;by_cases e:r.Zq=20
   ·rw[Qg e] at a;cases a
   ·rw[Qh e] at a⊢;by_cases f:(fq (stepOf A r.at') i).over=true
    ·rw[Qg f] at a;cases a
    ·rw[Qh f];exact vM
variable {Kq : List Qz}
theorem nU.did{σ:Env}(l:nU (Kk Kq) σ)(p:iD Kq σ){n:Qw}(q:bD (Kk Kq) σ n):nU (Kk Kq) (doX (Kk Kq) σ n):=by
 obtain⟨r,b,t⟩:=q;have v:r.name=n:=(p n r b).1;intro m z A a f g h s i j;rw[jw b] at a;rw[jw b];by_cases e:s=n
 ·rw[Qg e];rfl
 rw[Qh e];cases w:σ s with
 | some x=>rfl
 | none=>
  simp only;by_cases c:m=n
  ·rw[Qg c] at a;cases a;subst c;have y:fK (Xx (Kk Kq) σ r).2 s=true:=by
    rw[dV,Fa (by rw[v];exact h) t f];exact i
   simp[y,j]
  ·rw[Qh c] at a;cases d:σ m with
   | some x=>
    rw[d] at a;cases a;have k:=l m _ A d f g h s i j;rw[w] at k;exact Qi k (by simp)
   | none=>
    rw[d] at a;simp only at a
    split at a
    ·cases a;exact Qi rfl g
    ·cases a
theorem iN.asked{c:List Qw}{d:List Q_}(a:iN Kq c d):nU (Kk Kq) (Qq d):=by
 have e:=lK a.1;obtain⟨_,_,_,j,L,i,g,_,rfl⟩:=a;have h:=g.keeps (P:=fun σ:Env=>iD Kq σ/\nU (Kk Kq) σ) (fun σ m h f=>⟨FC e h.1 f.1,h.2.did h.1 f.1⟩) ⟨(oP e c).env,fun n r A b k a=>by
  rw[lw] at b
  split at b
  ·cases b;exact Qi rfl a
  ·cases b⟩
 exact h.2
theorem Ed{σ:Env}(l:iD Kq σ)(w:nU (Kk Kq) σ){n:Qw}{r:Q_}(d:σ n=some r)(s:Qw):s∈pend (Kk Kq) σ r↔bC (Kk Kq) σ n s:=by
 obtain⟨i,hgd⟩:=l n r d;obtain⟨A,b,_⟩:=hgd.act;rw[i] at b;unfold pend;constructor
 ·intro h
  split at h
  ·cases h
  ·rename_i h0
   rw[i,b] at h;simp only[List.mem_filter] at h;obtain⟨e,a⟩:=h;have f:r.over=false:=by
    cases x:r.over
    ·rfl
    ·exact Qi (.inl x) h0
   have g:r.Zq≠0:=fun y=>h0 (.inr y)
   refine⟨r,A,d,f,g,b,e, ?_⟩;unfold bE at a;cases j:Kk Kq s with
   | none=>rw[j] at a;cases a
   | some B=>
    rw[j] at a;simp only at a;have m:=w n r A d f g b s e (by rw[j];rfl);cases k:σ s with
    | none=>rw[k] at m;cases m
    | some q=>
     rw[k] at a;simp only at a;cases c:q.over
     ·exact⟨q,k,c⟩
     ·rw[Qg c] at a;cases a
 ·rintro⟨E,F,p,f,g,t,e,q,c,z⟩;rw[d] at p;cases p;rw[b] at t;cases t;rw[Qh (by rw[f];simp[g]),i,b];simp only[List.mem_filter];refine⟨e, ?_⟩;obtain⟨C,D⟩:=l s q c;obtain⟨B,v,_⟩:=D.act;rw[C] at v;unfold bE;rw[v,c];simp[z]
theorem sS.len(g:a_ (Kk Kq)){σ:Env}(i:iD Kq σ){n:Qw}{b:List Qw}(h:sS (Kk Kq) σ n b):b.length<=5:=by
 cases d:b with
 | nil=>simp
 | cons x l=>
  obtain⟨r,A,e,_,_,c,_⟩:=(h.2 x).1 (by rw[d];simp);obtain⟨j,hgd⟩:=i n r e;obtain⟨k,a,m,p⟩:=hgd.act;rw[j,c] at a;cases a;have v:=(jM (g n A c).1 m p).1;have:=List.Nodup.length_le_of_subset h.1.nodup (l₂:=(stepOf A r.at').asks) (fun s q=>by
   obtain⟨w,k,f,_,_,a,t,_⟩:=(h.2 s).1 q;rw[e] at f;cases f;rw[c] at a;cases a;exact t)
  rw[<-d];omega
structure jg (E:Qw->Qw->Prop) (nm:List Qw):Prop where
 asc:oN nm
 all:∀x y,E x y->x∈nm
def dz(E:Qw->Qw->Prop)(nm:List Qw)(p q:Nat):Prop:=∃(hp:p<nm.length) (hq:q<nm.length),E nm[p] nm[q]
variable {best : List Nat} {n p : Nat}
section
variable {E : Qw -> Qw -> Prop} {nm : List Qw}
theorem jg.less(h:jg E nm){q:Nat}(a:p<nm.length)(b:q<nm.length):aH nm[p] nm[q]↔p<q:=by
 have c:=Pg.1 h.asc;constructor
 ·intro d;rcases Qf p q with e|e|e
  ·exact e
  ·subst e;exact Qi d (aI _)
  ·exact Qi d (di (c q p b a e))
 ·exact c p q a b
theorem jg.inj(h:jg E nm){q:Nat}(c:p<nm.length)(d:q<nm.length)(e:nm[p]=nm[q]):p=q:=by
 rcases Qf p q with g|g|g
 ·have:=(h.less c d).2 g;rw[e] at this;exact Qi this (aI _)
 ·exact g
 ·have:=(h.less d c).2 g;rw[e] at this;exact Qi this (aI _)
theorem jg.place(h:jg E nm){x y:Qw}(b:E x y):∃(p:Nat) (hp:p<nm.length),nm[p]=x:=Ph (h.all x y b)
theorem v_{q:Nat}(h:aW (dz E nm) n p q)(d:p<nm.length):∃c:q<nm.length,aW E n nm[p] nm[q]:=by
 induction h with
 | here a=>exact⟨d,.here _⟩
 | step h _ ih=>
  obtain⟨_,e,f⟩:=h;obtain⟨c,g⟩:=ih e;exact⟨c,.step f g⟩
theorem jg.back(h:jg E nm):∀{n:Nat} {p q:Nat} (b:p<nm.length) (a:q<nm.length),aW E n nm[p] nm[q]->aW (dz E nm) n p q:=by
 intro n
 induction n with
 | zero=>intro p q b a c;rw[h.inj b a c.zero];exact .here q
 | succ n ih=>
  intro p q b a c;obtain⟨f,g,d⟩:=c.first
  have:∃(r:Nat) (e:r<nm.length),nm[r]=f:=by
   cases n with
   | zero=>exact⟨q,a,d.zero.symm⟩
   | succ m=>
    obtain⟨j,i,_⟩:=d.first
    exact h.place i
  obtain⟨r,e,rfl⟩:=this;exact .step ⟨b,e,g⟩ (ih e a d)
theorem jg.far(h:jg E nm){q:Nat}(b:p<nm.length)(g:q<nm.length):Far (dz E nm) q n p↔Far E nm[q] n nm[p]:=by
 constructor
 ·intro a;exact⟨(v_ a.1 b).2,fun m d e=>a.2 m d (h.back b g e)⟩
 ·intro a;exact⟨h.back b g a.1,fun m d e=>a.2 m d (v_ e b).2⟩
def Bt(p:Nat->Prop)(x:Nat):Prop:=p x/\∀y,p y->x<=y
inductive mh (R:Nat->Nat->Prop) (t:Nat):Nat->Nat->List Nat->Prop
 | stop (a:Nat):mh R t 1 a [a]
 | step {n:Nat} {a x:Nat} {l:List Nat} (h:Bt (fun y=>R a y/\Far R t n y) x) (r:mh R t n x l):mh R t (n+1) a (a :: l)
def nameOf(nm:List Qw)(p:Nat):Qw:=nm.getD p ByteArray.empty
theorem uj(a:p<nm.length):nameOf nm p=nm[p]:=by simp[nameOf,List.getD,a]
theorem mh.names(h:jg E nm){t:Nat}(f:t<nm.length){a:Nat}{l:List Nat}(g:mh (dz E nm) t n a l)(b:a<nm.length):pU E nm[t] n nm[a] (l.map (nameOf nm)):=by
 induction g with
 | stop a=>rw[List.map_cons,List.map_nil,uj b];exact .stop _
 | @step n a x l hl r ih=>
  obtain⟨⟨⟨_,c,i⟩,j⟩,k⟩:=hl;rw[List.map_cons,uj b];refine .step ⟨⟨i,(h.far c f).1 j⟩,fun y d p=>?_⟩ (ih c);have v:1<=n:=by cases r <;> omega
  obtain⟨m,rfl⟩:∃m,n=m+1:=⟨n-1,by omega⟩;obtain⟨z,q,_⟩:=d.2.next;obtain⟨s,e,rfl⟩:=h.place q;have w:=k s ⟨⟨b,e,d.1⟩,(h.far e f).2 d.2⟩;have A:=(h.less e c).1 p;omega
def mf(R:Nat->Nat->Prop)(t n:Nat):Prop:=1<=n/\aW R n t t/\∀m,1<=m->m<n->¬aW R m t t
structure jU (R:Nat->Nat->Prop) (k:Nat) (best:List Nat):Prop where
 no:best=[]->∀t,t<k->∀n,¬mf R t n
 yes:best≠[]->∃t n,t<k/\mf R t n/\mh R t n t best/\best.length=n/\(∀h,h<k->∀j,mf R h j->n<=j/\(h<t->n<j))
theorem jU.start(R:Nat->Nat->Prop):jU R 0 []:=⟨fun _ _t a=>aB a,fun h=>Qi rfl h⟩
theorem mf.unique{R:Nat->Nat->Prop}{t m:Nat}(h:mf R t n)(g:mf R t m):n=m:=by
 rcases Qf n m with e|e|e
 ·exact Qi h.2.1 (g.2.2 n h.1 e)
 ·exact e
 ·exact Qi g.2.1 (h.2.2 m g.1 e)
theorem jU.skip{R:Nat->Nat->Prop}{k:Nat}(h:jU R k best)(a:∀n,mf R k n->best≠[]/\best.length<=n):jU R (k+1) best:=by
 refine⟨fun e t m n b=>?_,fun e=>?_⟩
 ·by_cases g:t=k
  ·subst g;exact (a n b).1 e
  ·exact h.no e t (by omega) n b
 ·obtain⟨t,n,p,d,f,i,l⟩:=h.yes e;refine⟨t,n,by omega,d,f,i,fun q r j c=>?_⟩;by_cases g:q=k
  ·subst g;have:=(a j c).2;exact⟨by omega,fun s=>by omega⟩
  ·exact l q (by omega) j c
theorem jU.take{R:Nat->Nat->Prop}{k:Nat}{l:List Nat}(h:jU R k best)(c:mf R k n)(d:mh R k n k l)(f:l.length=n)(a:best=[]\/n<best.length):jU R (k+1) l:=by
 have g:l≠[]:=by cases d <;> simp
 refine⟨fun e=>Qi e g,fun _=>⟨k,n,by omega,c,d,f,fun q p j b=>?_⟩⟩;by_cases i:q=k
 ·subst i;have:=c.unique b;exact⟨by omega,fun r=>by omega⟩
 ·rcases a with rfl|a
  ·exact Qi b (h.no rfl q (by omega) j)
  ·obtain⟨t,s,v,w,x,y,m⟩:=h.yes (by intro e;rw[e] at a;simp at a);have:=(m q (by omega) j b).1;exact⟨by omega,fun _=>by omega⟩
theorem jU.Ob(h:jg E nm)(i:jU (dz E nm) nm.length best):uP E (best.map (nameOf nm)):=by
 have k:∀x n,1<=n->aW E n x x->∃(p:Nat) (a:p<nm.length),nm[p]=x:=fun x n f c=>by
  obtain⟨m,rfl⟩:∃m,n=m+1:=⟨n-1,by omega⟩;obtain⟨b,i,_⟩:=c.first
  exact h.place i
 have l:∀n p (a:p<nm.length),1<=n->aW E n nm[p] nm[p]->∃m,m<=n/\mf (dz E nm) p m:=by
  intro n
  induction n using Nat.strongRecOn with
  | ind n ih=>
   intro p a f c;by_cases d:∃m,1<=m/\m<n/\aW (dz E nm) m p p
   ·obtain⟨m,g,e,q⟩:=d;obtain⟨y,F,z⟩:=ih m e p a g (v_ q a).2;exact⟨y,by omega,z⟩
   ·exact⟨n,OU _,f,h.back a a c,fun m g e q=>d ⟨m,g,e,q⟩⟩
 by_cases r:best=[]
 ·refine .inl ⟨fun x n f c=>?_,by rw[r];rfl⟩;obtain⟨p,a,rfl⟩:=k x n f c;obtain⟨m,_,d⟩:=l n p a f c;exact i.no r p a m d
 ·obtain⟨A,n,j,d,B,_,s⟩:=i.yes r;refine .inr ⟨n,nm[A],d.1,fun x t v c=>?_,⟨(v_ d.2.1 j).2,fun C w D=>?_⟩,B.names h j j⟩
  ·obtain⟨p,a,rfl⟩:=k x t v c;obtain⟨m,g,e⟩:=l t p a v c;have:=(s p a m e).1;omega
  ·obtain⟨p,a,rfl⟩:=k C n d.1 w;obtain⟨m,g,e⟩:=l n p a d.1 w;have:=(s p a m e).2 ((h.less a j).1 D);omega
end
section
variable (E : Qw -> Qw -> Prop) (g : Qw)
def dR(b:Nat)(x:Qw)(v:Nat):Prop:=(aH x g->v=0)/\(¬aH x g->(v≠0->dS E g v x/\v<b)/\∀m,m<b->dS E g m x->v=m)
end
variable {x : Qw} {n : Nat}
section
variable {E : Qw -> Qw -> Prop} {g : Qw}
theorem dR.start :dR E g 1 x 0:=⟨fun _=>rfl,fun _=>⟨fun h=>Qi rfl h,fun m d b=>by have:=b.1.pos;omega⟩⟩
theorem dR.keep{v:Nat}(h:dR E g n x v)(a:v≠0\/aH x g):dR E g (n+1) x v:=by
 refine⟨h.1,fun b=>?_⟩;rcases a with a | a
 ·obtain⟨d,f⟩:=h.2 b;obtain⟨c,i⟩:=d a;exact⟨fun _=>⟨c,by omega⟩,fun m _ e=>c.unique e⟩
 ·exact Qi a b
def Hit(E:Qw->Qw->Prop)(g:Qw)(n:Nat)(x s:Qw):Prop:=E x s/\((n=1/\s=g)\/(1<n/\aH g s/\dS E g (n-1) s))
theorem GL(h:1<=n)(f:∀m,m<n->¬dS E g m x):(∃s,Hit E g n x s)↔dS E g n x:=by
 rcases Nat.lt_or_ge 1 n with d|d
 ·obtain⟨q,rfl⟩:∃q,n=q+1:=⟨n-1,by omega⟩;rw[dS.succ (by omega)];constructor
  ·rintro⟨s,a,⟨b,_⟩|⟨_,b,c⟩⟩
   ·omega
   ·exact⟨⟨s,a,b,by simpa using c⟩,fun m i=>f m (by omega)⟩
  ·rintro⟨⟨s,a,b,c⟩,_⟩;exact⟨s,a,.inr ⟨d,b,by simpa using c⟩⟩
 ·have:n=1:=by omega
  subst this;rw[dS.one];constructor
  ·rintro⟨s,a,⟨_,rfl⟩|⟨b,_⟩⟩
   ·exact a
   ·omega
  ·intro a;exact⟨g,a,.inl ⟨rfl,rfl⟩⟩
theorem dR.hit(d:1<=n)(h:dR E g n x 0)(c:¬aH x g)(e:∃s,Hit E g n x s):dR E g (n+1) x n:=by
 have f:∀m,m<n->¬dS E g m x:=fun m b a=>by
  have:=(h.2 c).2 m b a;have:=a.1.pos;omega
 have a:=(GL d f).1 e;exact⟨fun i=>Qi i c,fun _=>⟨fun _=>⟨a,by omega⟩,fun m _ b=>a.unique b⟩⟩
theorem dR.miss(d:1<=n)(h:dR E g n x 0)(f:¬aH x g)(i:¬∃s,Hit E g n x s):dR E g (n+1) x 0:=by
 have b:∀m,m<n->¬dS E g m x:=fun m c a=>by
  have:=(h.2 f).2 m c a;have:=a.1.pos;omega
 refine⟨fun _=>rfl,fun _=>⟨fun e=>Qi rfl e,fun m c a=>?_⟩⟩;rcases Nat.lt_or_ge m n with e | e
 ·exact Qi a (b m e)
 ·have:m=n:=by omega
  subst this;exact Qi ((GL d b).2 a) i
theorem dR.ask{b:Nat}{s:Qw}{v:Nat}(h:dR E g b s v)(c:aH g s)(d:1<n)(f:n<=b):v=n-1↔dS E g (n-1) s:=by
 have a:¬aH s g:=di c;constructor
 ·intro e;have:=((h.2 a).1 (by omega)).1;rw[e] at this;exact this
 ·exact (h.2 a).2 (n-1) (by omega)
theorem dR.whole{names:List Qw}(d:∀x y,E x y->x∈names){v:Nat}(h:dR E g (names.length+1) x v)(b:¬aH x g):(v≠0->dS E g v x)/\(∀m,dS E g m x->v=m):=
 ⟨fun e=>((h.2 b).1 e).1,fun m c=>(h.2 b).2 m (by have:=c.bound d;omega) c⟩
theorem jS.start(E:Qw->Qw->Prop):jS E [] []:=⟨fun _ g h=>(by cases h),fun h=>Qi rfl h⟩
theorem mg.len{a:Qw}{l:List Qw}(h:mg E g n a l):l.length=n:=by
 induction h with
 | stop=>rfl
 | step _ _ ih=>simp[ih]
theorem jS.skip{b a:List Qw}(h:jS E b a){g:Qw}(d:∀n,dS E g n g->a≠[]/\a.length<=n)(l:∀x∈b,aH x g):jS E (b++ [g]) a:=by
 refine⟨fun e x c n f=>?_,fun e=>?_⟩
 ·rcases Pe.1 c with q|q
  ·exact h.no e x q n f
  ·rw[Pd] at q;subst q;exact (d n f).1 e
 ·obtain⟨t,n,i,m,p,r,s⟩:=h.yes e;refine⟨t,n,Pe.2 (.inl i),m,p,r,fun x c j k=>?_⟩;rcases Pe.1 c with q | q
  ·exact s x q j k
  ·rw[Pd] at q;subst q;have:=(d j k).2;exact⟨by omega,fun v=>Qi v (di (l t i))⟩
theorem jS.take{h c l:List Qw}(i:jS E h c){g:Qw}(d:dS E g n g)(j:mg E g n g l)(b:c=[]\/n<c.length):jS E (h++ [g]) l:=by
 have a:=j.len;have p:l≠[]:=fun e=>by rw[e] at a;have:=d.1.pos;simp at a;omega
 refine⟨fun e=>Qi e p,fun _=>⟨g,n,Pe.2 (.inr (by simp)),d,j,a,fun x r k f=>?_⟩⟩;rcases Pe.1 r with q | q
 ·rcases b with rfl|b
  ·exact Qi f (i.no rfl x q k)
  ·obtain⟨t,m,v,w,y,z,s⟩:=i.yes (by intro e;rw[e] at b;simp at b);have:=(s x q k f).1;exact⟨by omega,fun _=>by omega⟩
 ·rw[Pd] at q;subst q;have:=d.unique f;exact⟨by omega,fun a=>Qi a (aI _)⟩
end
variable {l : List Qw}
section
variable {E : Qw -> Qw -> Prop} {g : Qw}
structure oJ (E:Qw->Qw->Prop) (g:Qw) (n:Nat) (l:List Qw) (a:Qw) (q:Nat):Prop where
 len:l.length+q=n+1
 pos:1<=q
 far:dS E g q a
 last:∃l0,l=l0++ [a]
 rest:∀r,mg E g q a r->mg E g n g (l.dropLast++r)
theorem oJ.start{n:Nat}(h:dS E g n g):oJ E g n [g] g n:=
 ⟨by simp;omega,h.1.pos,h,⟨[],rfl⟩,fun r b=>b⟩
theorem oJ.next{n q:Nat}{a x:Qw}(h:oJ E g n l a (q+1))(f:1<=q)(c:iM (fun y=>E a y/\aH g y/\dS E g q y) x):oJ E g n (l++ [x]) x q:=by
 obtain⟨j,d⟩:=h.last;refine⟨by have:=h.len;rw[PM];simp;omega,f,c.1.2.2,⟨l,rfl⟩,fun r i=>?_⟩;have e:=h.rest (a :: r) (mg.step c i);rw[List.dropLast_concat];rw[d,List.dropLast_concat] at e;rw[d,List.append_assoc];exact e
theorem oJ.done{n:Nat}{a:Qw}(h:oJ E g n l a 1):mg E g n g l:=by
 obtain⟨e,c⟩:=h.last;have d:=h.rest [a] (mg.stop a);rw[c,List.dropLast_concat] at d;rw[c];exact d
theorem oJ.more{n q:Nat}{a:Qw}(h:oJ E g n l a (q+1))(c:1<=q):∃y,E a y/\aH g y/\dS E g q y:=((dS.succ c).1 h.far).1
theorem Du{p:Qw->Prop}(d:oN l)(e:∀y,p y->y∈l){k:Nat}(f:k<l.length)(h:p l[k])(g:∀y∈l.take k,¬p y):iM p l[k]:=by
 refine⟨h,fun y a b=>?_⟩;obtain⟨j,i,rfl⟩:=Ph (e y a);rcases Qf j k with c | rfl | c
 ·exact g l[j] (by rw[List.mem_take_iff_getElem];exact⟨j,by omega,rfl⟩) a
 ·exact aI _ b
 ·exact di b (Pg.1 d k j f i c)
end
def oI(V:Nat->Nat)(f n i:Nat):QA:= .int .i64 ((if i<60 then V i else if i=60 then f else n:Nat):Int)
structure nG (w:Qy) (rb:Nat) (Q:List Nat):Prop where
 ex:∃V f,f<60/\Q.length<=60/\w.rowIs rb 284 62 (oI V f Q.length)/\∀i,i<Q.length->V ((f+i) % 60)=Q.getD i 0
theorem nG.block{w w':Qy}{a:Nat}{Q:List Nat}(h:nG w a Q)(k:w'.heap[a]? =w.heap[a]?):nG w' a Q:=by
 obtain⟨V,f,b,d,⟨c,e,g⟩,i⟩:=h;exact⟨V,f,b,d,⟨c,k.trans e,g⟩,i⟩
theorem qp{w:Qy}{b n:Nat}{t:TypeId}{F G:Nat->QA}(h:w.rowIs b t n F)(i:Nat)(v:QA)(c:∀p,p<n->G p=if p=i then v else F p):(w.setCell ⟨b,i,none⟩ v).rowIs b t n G:=by
 obtain⟨d,e,f,g⟩:=World.rowIs.set h i v;refine⟨d,e,f,fun p a=>?_⟩;rw[g p a,c p a]
theorem ni{w w':Qy}{b n:Nat}{t:TypeId}{F:Nat->QA}(h:w.rowIs b t n F)(k:K_ w w'):w'.rowIs b t n F:=by
 obtain⟨e,c,f⟩:=h;exact⟨e,(k.block b (aV c)).trans c,f⟩
theorem Ht(w:Qy)(a:Nat)(Q:List Nat)(p:Nat)(v:nG w a Q)(E:Q.length<60):
  Calls prog 206 #[.pointer (some ⟨a,0,none⟩),.int .i64 (p:Int)] w fun e w'=>e= .returned (.tuple #[])/\nG w' a (Q++ [p])/\But (fun b=>b=a) w w':=by
 obtain⟨V,f,F,hn,c,x⟩:=v.ex;obtain⟨n,q⟩:=ag Q.length;rw[<-q] at c E;obtain⟨k,y⟩:=ag ((f+n) % 60);have H:k<60:=by omega
 have I:w.cell? ⟨a,60,none⟩=some (.int .i64 (f:Int)):=by rw[c.cell (by omega)];rfl
 have z:w.cell? ⟨a,61,none⟩=some (.int .i64 (n:Int)):=by rw[c.cell (by omega)];rfl
 have J:((f:Int)+ (n:Int)).tmod 60= (k:Int):=by rw[Int.tmod_eq_emod_of_nonneg (by omega)];omega
 have r:=fun i=>c.frozen i
 have K:=r k;have A:=r 61;have a0:(k:Int)<60:=by omega
 have L:=c.cell (show k<62 by omega);have s:=qp c k (.int .i64 (p:Int)) (G:=oI (fun i=>if i=k then p else V i) f n) (fun i g=>by
  unfold oI;by_cases e:i=k
  ·subst e;simp[H]
  ·simp[e])
 obtain⟨d,h⟩:=ag (w.setCell ⟨a,k,none⟩ (.int .i64 (p:Int)));rw[<-h] at s;have B:But (fun b=>b=a) w d:=by rw[h];exact But.set (S:=fun b=>b=a) (But.aj (K_.refl w)) (p:=⟨a,k,none⟩) rfl _
 have⟨M,N⟩:=aD s B;have O:Hid (∀i,i<Q.length->V ((f+i) % 60)=Q.getD i 0):=x;have P:Hid (k= (f+n) % 60):=y;have t:Hid (n=Q.length):=q;clear c r s B x y q v;go_enter func206,ntmps206
 go_wp2
 go_region
 rw[<-h];have j:K_ d d.drew:=bB d;generalize R:d.drew=T at j⊢;clear h R I z K A L J;have l:=ni M.o j;have z:T.cell? ⟨a,61,none⟩=some (.int .i64 (n:Int)):=by rw[l.cell (by omega)];rfl
 have A:=l.frozen 61;have U:=Kz l;have W:=Kz (N.o.trans (But.aj j));clear l j;go_wp2
 go_end0
 refine⟨rfl,⟨fun i=>if i=k then p else V i,f,F,by rw[PM];simp;have:=t.o;omega, ?_,fun i g=>?_⟩,But.set (S:=fun b=>b=a) W.o (p:=⟨a,61,none⟩) rfl _⟩
 ·rw[PM];refine qp U.o 61 _ (fun i g=>?_);unfold oI;have m:=t.o;by_cases e:i=61
  ·subst e;simp[m]
  ·have X:¬i<60->i=60:=by omega
   by_cases C:i<60
   ·simp[C,e]
   ·simp[X C]
 ·rw[PM] at g;have m:=t.o;have Y:=P.o;by_cases e:i=Q.length
  ·subst e;simp only[<-m,<-Y,if_true,List.getD];rw[m];simp
  ·have D:i<Q.length:=by simp at g;omega
   have Z:(f+i) % 60≠k:=by omega
   simp only[Qh Z,O.o i D,List.getD,PY D]
theorem Ke(w:Qy)(a:Nat)(Q:List Nat)(p:Nat)(v:nG w a (p :: Q)):
  Calls prog 207 #[.pointer (some ⟨a,0,none⟩)] w fun e w'=>e= .returned (.int .i64 (p:Int))/\nG w' a Q/\But (fun b=>b=a) w w':=by
 obtain⟨V,f,x,I,c,m⟩:=v.ex;obtain⟨n,h⟩:=ag Q.length;have y:V f=p:=by have:=m 0 (by simp);simpa[Nat.mod_eq_of_lt x] using this
 rw[PP,<-h] at c;rw[PP,<-h] at I;have W:(f:Int)<60:=by omega
 have z:Hid (∀u,w.rowIs a 284 62 (oI V f (n+1))->K_ w u->u.cell? ⟨a,60,none⟩=some (.int .i64 (f:Int))/\u.cell? ⟨a,f,none⟩=some (.int .i64 (p:Int))):=fun u c k=>by
  have A:=ni c k;refine⟨by rw[A.cell (by omega)];rfl, ?_⟩;rw[A.cell (by omega)];unfold oI;rw[Qg x,y]
 obtain⟨q,B⟩:=z.o w c (K_.refl w);have C:=Kz c;have J:Hid (∀i,i<Q.length->V ((f+ (i+1)) % 60)=Q.getD i 0):=fun i j=>by have:=m (i+1) (by simp;omega);simpa using this
 have D:Hid (n=Q.length):=h;clear c m h v y z;go_enter func207,ntmps207
 go_wp2
 go_region
 have r:K_ w w.drew:=bB w;generalize K:w.drew=s at r⊢;clear K q B;have l:=ni C.o r;have q:s.cell? ⟨a,60,none⟩=some (.int .i64 (f:Int)):=by rw[l.cell (by omega)];rfl
 obtain⟨k,E⟩:=ag ((f+1) % 60);have L:((f:Int)+1).tmod 60= (k:Int):=by rw[Int.tmod_eq_emod_of_nonneg (by omega)];omega
 have M:=l.frozen 60;have⟨N,F⟩:=aD l E;clear l C E;go_upto_region 3 with fail
 have d:=qp N.o 60 (.int .i64 (k:Int)) (G:=oI V k (n+1)) (fun i j=>by
  unfold oI;by_cases e:i=60
  ·subst e;simp
  ·by_cases g:i<60
   ·simp[g,e]
   ·simp[g,e])
 have t:But (fun b=>b=a) w (s.setCell ⟨a,60,none⟩ (.int .i64 (k:Int))):=But.set (S:=fun b=>b=a) (But.aj r) (p:=⟨a,60,none⟩) rfl _;generalize O:s.setCell ⟨a,60,none⟩ (.int .i64 (k:Int))=P at d t⊢;clear O q M L;have B:P.cell? ⟨a,61,none⟩=some (.int .i64 ((n+1:Nat):Int)):=by rw[d.cell (by omega)];rfl
 have X:=d.frozen 61;have Y:((n+1:Nat):Int)-1= (n:Int):=by omega
 have H:=qp d 61 (.int .i64 (n:Int)) (G:=oI V k n) (fun i j=>by
  unfold oI;by_cases e:i=61
  ·subst e;simp
  ·have R:¬i<60->i=60:=by omega
   by_cases g:i<60
   ·simp[g,e]
   ·simp[R g])
 have T:=Kz H;have U:=Kz (But.set (S:=fun b=>b=a) t (p:=⟨a,61,none⟩) rfl (.int .i64 (n:Int)));clear d H t;go_wp2
 go_ret
 refine⟨rfl,⟨V,k, ?_, ?_, ?_,fun i j=>?_⟩,U.o⟩
 ·rw[F.o];omega
 ·have:=D.o;omega
 ·rw[<-D.o];exact T.o
 ·rw[<-J.o i j];have:=F.o
  congr 1
  omega
theorem Ex(w:Qy)(x y:Qw):Calls prog 186 #[.string x,.string y] w fun e w'=>e= .returned (.bool (Op.bytesLess x.toList y.toList))/\w'=w:=by
 cases a:Op.bytesLess x.toList y.toList
 all_goals
  go_enter func186,ntmps186
  go_wp2
  go_ret
  exact⟨rfl,rfl⟩
theorem zw(w:Qy)(x:Qw):Calls prog 187 #[.string x] w fun e w'=>e= .returned (.bool false)/\w'=w:=by
 go_enter func187,ntmps187
 go_wp2
 go_ret
 exact⟨rfl,rfl⟩
def rM(l:List Qw)(s:Qw)(e:Ending):Prop:=∃(k:Nat) (b:Bool),e= .returned (.tuple #[.int .i64 (k:Int),.bool b])/\(b=true->k<l.length/\l.getD k ByteArray.empty=s)/\(b=false->s∉l)
theorem rM.mk{l:List Qw}{s:Qw}{e:Ending}(k:Nat)(b:Bool)(h:e= .returned (.tuple #[.int .i64 (k:Int),.bool b]))(c:b=true->k<l.length/\l.getD k ByteArray.empty=s)(h2:b=false->s∉l):rM l s e:=⟨k,b,h,c,h2⟩
theorem Ez(w:Qy)(a:Qx)(cap:Nat)(l:List Qw)(s:Qw)(V:l.length<=1048576)(D:oN l)(E:Strs w a l):
  Calls prog 164 #[.slice a l.length cap,.string s] w fun e w'=>rM l s e/\w'=w:=by
 have v:Hid (∀p q,p<q->q<l.length->aH (l.getD p ByteArray.empty) (l.getD q ByteArray.empty)):=fun p q n c=>by
  have:=Pg.1 D p q (by omega) c n;simpa[List.getD,c,show p<l.length by omega] using this
 clear D;go_enter func164,ntmps164
 go_wp2
 go_loopw [7,8] (fun x y wr=>∃i j:Nat,x= .int .i64 i/\y= .int .i64 j/\i<=j/\j<=l.length/\Hid (∀t,t<i->aH (l.getD t ByteArray.empty) s)/\Hid (∀t,j<=t->t<l.length->¬aH (l.getD t ByteArray.empty) s)/\wr=w) (fun x y _=>(intOf y).toNat-(intOf x).toNat)
 case atStart=>exact⟨0,l.length,rfl,rfl,OW _,OU _,Kz (fun t F=>aB F),Kz (fun t n c=>by omega),rfl⟩
 case round=>
  obtain⟨i,j,rfl,rfl,W,Q,G,H,rfl⟩:=hrel;by_cases X:(i:Int)<j
  ·obtain⟨h,I⟩:∃h:Nat,h= (i+j) / 2:=⟨_,rfl⟩;have J:h<l.length:=by omega
   have R:i<=h:=by omega
   have Y:h<j:=by omega
   obtain⟨b,o,rfl,S,r⟩:=E h J;obtain⟨d,f⟩:=ag (l.getD h ByteArray.empty);rw[<-f] at r;have k:=Kz f;clear f;have Z:((i:Int)+ (j:Int)) / 2= (h:Int):=by omega
   have HH:=Kz I;clear I;go_wp2_with fail
   refine (Ex _ d s).mono ?_;rintro e T ⟨rfl,rfl⟩;clear r;cases K:Op.bytesLess d.toList s.toList
   ·go_wp2
    go_roundw
    case rel=>
     refine⟨i,h,rfl,by go_num,R,by omega,G,Kz (fun t n c L=>?_),trivial⟩;have M:¬aH (l.getD h ByteArray.empty) s:=fun g=>by rw[<-k.o] at g;unfold aH at g;rw[K] at g;cases g
     rcases Nat.lt_or_ge h t with e|e
     ·exact M (gV (v.o h t e c) L)
     ·have:t=h:=by omega
      subst this;exact M L
    case measure=>simp[intOf];omega
   ·go_wp2
    go_roundw
    case rel=>
     refine⟨h+1,j,by go_num,rfl,by omega,Q,Kz (fun t F=>?_),H,trivial⟩;have N:aH (l.getD h ByteArray.empty) s:=by rw[<-k.o];exact K
     rcases Nat.lt_or_ge t h with e|e
     ·exact gV (v.o t h e J) N
     ·have:t=h:=by omega
      subst this;exact N
    case measure=>simp[intOf];omega
  ·have U:i=j:=by omega
   subst U;have O:Hid (s∈l->i<l.length/\l.getD i ByteArray.empty=s):=fun m=>by
    obtain⟨q,z,e⟩:=Ph m;have A:l.getD q ByteArray.empty=s:=by simpa[List.getD,z] using e
    have n:¬q<i:=fun g=>by have:=G.o q g;rw[A] at this;exact aI _ this
    have c:q=i:=by
     rcases Nat.lt_or_ge i q with g|g
     ·have P:=v.o i q g z;rw[A] at P;exact Qi P (H.o i (OU _) (by omega))
     ·omega
    subst c;exact⟨z,A⟩
   by_cases B:i<l.length
   ·obtain⟨b,o,rfl,S,r⟩:=E i B;obtain⟨d,f⟩:=ag (l.getD i ByteArray.empty);rw[<-f] at r;have k:=Kz f;clear f;have a0:(i:Int)<(l.length:Int):=by omega
    cases C:(d.toList == s.toList)
    ·go_wp2_with (first | (go_at_call 187;refine (zw _ _).mono ?_;rintro e T ⟨rfl,rfl⟩))
     go_ret2
     exact⟨rM.mk i false rfl (fun h=>by cases h) (fun _ m=>by
      have c:=(O.o m).2;rw[<-k.o] at c;rw[c] at C;simp at C),rfl⟩
    ·go_wp2
     go_ret2
     exact⟨rM.mk i true rfl (fun _=>⟨B,by rw[<-k.o];exact iX C⟩) (fun h=>by cases h),rfl⟩
   ·go_wp2
    go_ret2
    exact⟨rM.mk i false rfl (fun h=>by cases h) (fun _ m=>B (O.o m).1),rfl⟩
structure gF (E:Qw->Qw->Prop) (nm:List Qw) (k:Nat) (S:List Qw) (j M:Nat) (need back:Nat->List Nat):Prop where
 fwd:∀p q,q∈need p↔(p<k/\dz E nm p q)\/(p=k/\∃hq:q<nm.length,nm[q]∈S.take j)
 bwd:∀p q,p∈back q↔(p<k/\dz E nm p q)\/(p=k/\∃hq:q<nm.length,nm[q]∈S.take j)
 asc:∀p,(need p).Pairwise (· <= ·)
 len:∀p,(need p).length<=M/\(back p).length<=M
structure Eg (E:Qw->Qw->Prop) (nm:List Qw) (M:Nat) (need back:Nat->List Nat):Prop where
 fwd:∀p q,q∈need p↔dz E nm p q
 bwd:∀p q,p∈back q↔dz E nm p q
 asc:∀p,(need p).Pairwise (· <= ·)
 len:∀p,(need p).length<=M/\(back p).length<=M
section
variable {E : Qw -> Qw -> Prop} {nm S : List Qw} {k j M : Nat} {need back : Nat -> List Nat}
theorem gF.start(E:Qw->Qw->Prop)(c S:List Qw):gF E c 0 S 0 0 (fun _=>[]) (fun _=>[]):=
 ⟨fun p q=>by simp,fun p q=>by simp,fun p=>List.Pairwise.nil,fun p=>⟨OU _,OU _⟩⟩
theorem gF.enter(h:gF E nm k S 0 M need back)(S':List Qw):gF E nm k S' 0 M need back:=
 ⟨fun p q=>by rw[h.fwd];simp,fun p q=>by rw[h.bwd];simp,h.asc,h.len⟩
theorem gF.leave(h:gF E nm k S j M need back)(f:k<nm.length)(g:S.length<=j)(c:∀y,y∈S↔E nm[k] y):gF E nm (k+1) [] 0 M need back:=by
 have d:∀p q,(p<k/\dz E nm p q)\/(p=k/\∃b:q<nm.length,nm[q]∈S.take j)↔(p<k+1/\dz E nm p q)\/(p=k+1/\∃b:q<nm.length,nm[q]∈([]:List Qw).take 0):=fun p q=>by
  rw[PG g];constructor
  ·rintro (⟨i,a⟩|⟨rfl,b,a⟩)
   ·exact .inl ⟨by omega,a⟩
   ·exact .inl ⟨by omega,f,b,(c _).1 a⟩
  ·rintro (⟨i,l,b,a⟩|⟨_,_,a⟩)
   ·by_cases e:p=k
    ·subst e;exact .inr ⟨rfl,b,(c _).2 a⟩
    ·exact .inl ⟨by omega,l,b,a⟩
   ·simp at a
 exact⟨fun p q=>(h.fwd p q).trans (d p q),fun p q=>(h.bwd p q).trans (d p q),h.asc,h.len⟩
theorem gF.skip(h:gF E nm k S j M need back)(e:j<S.length)(f:S[j]∉nm):gF E nm k S (j+1) M need back:=by
 have d:∀q:Nat,(∃a:q<nm.length,nm[q]∈S.take j)↔∃a:q<nm.length,nm[q]∈S.take (j+1):=fun q=>by
  rw[Pb e];constructor
  ·rintro⟨a,c⟩;exact⟨a,Pe.2 (.inl c)⟩
  ·rintro⟨a,c⟩;rcases Pe.1 c with b|b
   ·exact⟨a,b⟩
   ·rw[Pd] at b;exact Qi (by rw[<-b];exact Pf a) f
 exact⟨fun p q=>by rw[h.fwd,d],fun p q=>by rw[h.bwd,d],h.asc,h.len⟩
theorem gF.put(l:jg E nm)(h:gF E nm k S j M need back)(m:j<S.length)(t:S.Pairwise fun a b=>¬aH b a){q:Nat}(g:q<nm.length)(i:nm[q]=S[j])(B:k<nm.length)(C:∀y∈S,E nm[k] y):
  gF E nm k S (j+1) (M+1) (fun p=>if p=k then need k++ [q] else need p) (fun p=>if p=q then back q++ [k] else back p):=by
 have n:∀r:Nat,(∃f:r<nm.length,nm[r]∈S.take (j+1))↔(∃f:r<nm.length,nm[r]∈S.take j)\/r=q:=fun r=>by
  rw[Pb m];constructor
  ·rintro⟨f,d⟩;rcases Pe.1 d with c|c
   ·exact .inl ⟨f,c⟩
   ·rw[Pd,<-i] at c;exact .inr (l.inj f g c)
  ·rintro (⟨f,d⟩|rfl)
   ·exact⟨f,Pe.2 (.inl d)⟩
   ·exact⟨g,Pe.2 (.inr (by rw[i];simp))⟩
 refine⟨fun p r=>?_,fun p r=>?_,fun p=>?_,fun p=>⟨?_, ?_⟩⟩
 ·rw[n];by_cases e:p=k
  ·subst e;simp only[if_true,Pe,Pd,h.fwd];constructor
   ·rintro ((⟨d,c⟩|⟨_,c⟩) | c)
    ·exact .inl ⟨d,c⟩
    ·exact .inr ⟨trivial,.inl c⟩
    ·exact .inr ⟨trivial,.inr c⟩
   ·rintro (⟨d,c⟩|⟨_,c|c⟩)
    ·exact .inl (.inl ⟨d,c⟩)
    ·exact .inl (.inr ⟨trivial,c⟩)
    ·exact .inr c
  ·show (r∈if p=k then need k++ [q] else need p)↔_;rw[Qh e,h.fwd];simp only[e,false_and,or_false]
 ·rw[n];by_cases e:r=q
  ·subst e;simp only[if_true,Pe,Pd,h.bwd];constructor
   ·rintro ((d|⟨d,c⟩) | d)
    ·exact .inl d
    ·exact .inr ⟨d,.inl c⟩
    ·exact .inr ⟨d,.inr trivial⟩
   ·rintro (d|⟨d,c|_⟩)
    ·exact .inl (.inl d)
    ·exact .inl (.inr ⟨d,c⟩)
    ·exact .inr d
  ·show (p∈if r=q then back q++ [k] else back r)↔_;rw[Qh e,h.bwd];simp only[e,or_false]
 ·by_cases e:p=k
  ·subst e;simp only[if_true];rw[Py];refine⟨h.asc p,by simp,fun a v b s=>?_⟩;rw[Pd] at s;subst s;rcases (h.fwd p a).1 v with⟨d,_⟩ | ⟨_,w,c⟩
   ·omega
   ·obtain⟨x,D,z⟩:=List.mem_take_iff_getElem.1 c;have A:=Pg.1 t x j (by omega) m (by omega);rw[z,<-i,l.less g w] at A;omega
  ·simp only[Qh e];exact h.asc p
 ·by_cases e:p=k
  ·simp only[e,if_true,PM,Qr];have:=(h.len k).1;omega
  ·simp only[Qh e];have:=(h.len p).1;omega
 ·by_cases e:p=q
  ·simp only[e,if_true,PM,Qr];have:=(h.len q).2;omega
  ·simp only[Qh e];have:=(h.len p).2;omega
theorem gF.whole(h:gF E nm nm.length [] 0 M need back):Eg E nm M need back:=by
 have e:∀p q,(p<nm.length/\dz E nm p q)\/(p=nm.length/\∃hq:q<nm.length,nm[q]∈([]:List Qw).take 0)↔dz E nm p q:=fun p q=>by
  constructor
  ·rintro (⟨_,c⟩|⟨_,_,c⟩)
   ·exact c
   ·simp at c
  ·intro c;exact .inl ⟨c.1,c⟩
 exact⟨fun p q=>(h.fwd p q).trans (e p q),fun p q=>(h.bwd p q).trans (e p q),h.asc,h.len⟩
end
section
variable {R : Nat -> Nat -> Prop} {t : Nat}
structure qJ (R:Nat->Nat->Prop) (t n:Nat) (l:List Nat) (a q:Nat):Prop where
 len:l.length+q=n+1
 pos:1<=q
 more:2<=q->∃y,R a y/\Far R t (q-1) y
 last:∃l0,l=l0++ [a]
 rest:∀r,mh R t q a r->mh R t n t (l.dropLast++r)
theorem qJ.start{n:Nat}(h:mf R t n):qJ R t n [t] t n:=by
 refine⟨by simp;omega,h.1,fun e=>?_,⟨[],rfl⟩,fun r b=>b⟩;obtain⟨m,rfl⟩:∃m,n=m+1:=⟨n-1,by omega⟩;obtain⟨y,a,c⟩:=h.2.1.first
 refine⟨y,a,c,fun i f d=>h.2.2 (i+1) (by omega) (by omega) (.step a d)⟩
theorem qJ.next{n q a x:Nat}{l:List Nat}(h:qJ R t n l a (q+1))(g:1<=q)(c:Bt (fun y=>R a y/\Far R t q y) x):qJ R t n (l++ [x]) x q:=by
 obtain⟨j,d⟩:=h.last;refine⟨by have:=h.len;rw[PM];simp;omega,g,fun k=>?_,⟨l,rfl⟩,fun r i=>?_⟩
 ·obtain⟨m,rfl⟩:∃m,q=m+1:=⟨q-1,by omega⟩;exact c.1.2.next
 ·have f:=h.rest (a :: r) (mh.step c i);rw[List.dropLast_concat];rw[d,List.dropLast_concat] at f;rw[d,List.append_assoc];exact f
theorem qJ.done{n a:Nat}{l:List Nat}(h:qJ R t n l a 1):mh R t n t l:=by
 obtain⟨e,c⟩:=h.last;have d:=h.rest [a] (mh.stop a);rw[c,List.dropLast_concat] at d;rw[c];exact d
theorem BX{p:Nat->Prop}{l:List Nat}(d:l.Pairwise (· <= ·))(e:∀y,p y->y∈l){k:Nat}(f:k<l.length)(h:p l[k])(g:∀j (a:j<l.length),j<k->¬p l[j]):Bt p l[k]:=by
 refine⟨h,fun y c=>?_⟩;obtain⟨j,a,rfl⟩:=Ph (e y c);rcases Qf j k with b | rfl | b
 ·exact Qi c (g j a b)
 ·exact OU _
 ·exact Pg.1 d k j f a b
end
