import Derived.Test.YtgnkgfjmbmcfcaaGreatDoorKWImpl
import Derived.Deep.RegionHeld
set_option maxRecDepth 100000
set_option maxHeartbeats 25600000
namespace Go.Proofs.YtgnkgfjmbmcfcaaGreatDoor
open Go.RowKit Go.Proofs.Tryz
theorem Oh(W:Qy)(c:UInt8)(cap:Nat):(convert 166 9 (.slice (some ⟨W.heap.size,0,none⟩) 1 cap)).run prog (W.alloc (.cells #[.int .u8 (c.toNat:Int)] 5))= .ok (.string ⟨#[c]⟩) (W.alloc (.cells #[.int .u8 (c.toNat:Int)] 5)):=
 run_convert_bytes_back (P:=prog) _ 166 9 5 ⟨W.heap.size,0,none⟩ cap [c] underlying166 underlying5 underlying9 (fun i b=>by
  obtain rfl:i=0:=by simpa using b
  simp[Addr.add])
theorem GV(c:UInt8)(l:List UInt8):(⟨#[c]⟩:Qw)++ ⟨l.toArray⟩= ⟨(c :: l).toArray⟩:=by
 have:=ByteArray.mk_append_mk [c] l;simpa using this
theorem Lv(m:Nat):((UInt8.ofNat (48+m % 10)).toNat:Int)=48+ (m:Int) % 10:=by
 have:(UInt8.ofNat (48+m % 10)).toNat=48+m % 10:=by
  rw[UInt8.toNat_ofNat'];omega
 rw[this];omega
theorem fZ(w:Qy)(k:Nat)(p:0<k)(h:k<=4611686018427387904):
  Calls prog 38 #[.int .i64 k] w fun e w'=>e= .returned (.string (fP k))/\K_ w w':=by
 go_enter func38,ntmps38
 go_wp2
 go_loopw [0,3] (fun x y wr=>∃(m:Nat) (l:List UInt8),m<=k/\x= .int .i64 m/\y= .string ⟨l.toArray⟩/\BD m l=BD k []/\l.length+m<=4611686018427387904/\K_ w wr) (fun x _ _=>(intOf x).toNat)
 case atStart=>exact⟨k,[],OU _,rfl,rfl,rfl,by simpa using h,K_.refl _⟩
 case round=>
  obtain⟨m,l,q,rfl,rfl,d,r,f⟩:=hrel;have a:=Kz d;clear d;have s:(⟨l.toArray⟩:Qw).size=l.length:=rfl;by_cases t:(0:Int)<m
  ·obtain⟨c,b⟩:∃c:UInt8,c=UInt8.ofNat (48+m % 10):=⟨_,rfl⟩;have i:=Oh wr c 1;have g:(c.toNat:Int)=48+ (m:Int) % 10:=by rw[b];exact Lv m
   rw[g] at i;have j:=Kz b;clear b g;go_wp2
   go_roundw
   case rel=>
    refine⟨m / 10,c :: l,by omega,by go_num,by rw[GV], ?_,by simp;omega,f.alloc _⟩;rw[<-a.o,Kl (by omega:0<m),j.o]
   case measure=>simp[intOf];omega
  ·have n:m=0:=by omega
   subst n;rw[Je] at a;go_wp2
   go_ret
   refine⟨?_,f⟩;unfold fP;rw[<-a.o,<-GV]
   rfl
theorem Lp(k j:Nat)(c:0<k)(a:k+j<=4611686018427387904):∃s,s=fP (k+j)/\∀W,Calls prog 38 #[.int .i64 ((k:Int)+ (j:Int))] W fun e w'=>e= .returned (.string s)/\K_ W w':=
 ⟨_,rfl,fun W=>by
  have b:(k:Int)+ (j:Int)= ((k+j:Nat):Int):=by omega
  rw[b];exact fZ W (k+j) (by omega) a⟩
theorem kJ(w:Qy)(lo hi:Nat)(a:Qx)(cap:Nat)(l:List Qw)(k:Nat)(C:0<k)(O:k+l.length<=4611686018427387904)(D:cZ w lo hi a l):
  Calls prog 14 #[.slice a l.length cap,.int .i64 k] w fun e w'=>e= .returned (.int .i64 ((k+l.length:Nat):Int))/\cZ w' lo hi a (fo l k)/\Xj lo hi w w':=by
 rcases D with rfl|⟨B,rfl,p,q,r,E⟩
 ·go_enter func14,ntmps14
  go_wp2
  go_loopw [1,5] (fun x i wr=>x= .int .i64 k/\i= .int .i64 0/\wr=w) (fun _ _ _=>0)
  case atStart=>exact⟨rfl,rfl,rfl⟩
  case round=>
   obtain⟨rfl,rfl,rfl⟩:=hrel;go_wp2
   go_ret
   exact⟨by simp,.inl rfl,Xj.refl _ _ _⟩
 ·go_enter func14,ntmps14
  go_wp2
  go_loopw [1,5] (fun x i wr=>∃j:Nat,j<=l.length/\i= .int .i64 j/\x= .int .i64 ((k:Int)+j)/\Xj lo hi w wr/\Row wr B l.length/\∀t,t<j->wr.cell? ⟨B,t,none⟩=some (.string (fP (k+t)))) (fun _ i _=>l.length-(intOf i).toNat)
  case atStart=>exact⟨0,OW _,rfl,by simp,Xj.refl _ _ _,r,fun t b=>aB b⟩
  case round=>
   obtain⟨j,P,rfl,rfl,c,d,v⟩:=hrel;clear r E;have⟨f,g⟩:=aD d v;clear v;by_cases F:j<l.length
   ·have G:=d.lt;have y:Hid (∃s,s=fP (k+j)/\∀W,Calls prog 38 #[.int .i64 ((k:Int)+ (j:Int))] W fun e w'=>e= .returned (.string s)/\K_ W w'):=Lp k j C (by omega);obtain⟨s,z,A⟩:=y.o;have⟨H,I⟩:=aD z A;clear z A y;go_wp2_with fail
    refine (I.o _).mono ?_;rintro e J ⟨rfl,h⟩;have m:=f.o.kept h;have K:=Kz m;have L:Hid (∀t,t<j->J.cell? ⟨B,t,none⟩=some (.string (fP (k+t)))):=fun t b=>by rw[h.cell G];exact g.o t b
    obtain⟨⟨old,M⟩,Q⟩:=m.at F;have N:=c.trans (.aj h);clear f g d m c;go_wp2
    go_roundw
    case rel=>
     refine⟨j+1,by omega,by go_num,by go_num,N.setCell p q _,K.o.set _ rfl _,fun t b=>?_⟩;by_cases e:t=j
     ·subst e;rw[Qb _ _ _ M,H.o]
     ·rw[Pq _ _ _ _ (by simp <;> omega)];exact L.o t (by omega)
    case measure=>simp[intOf];omega
   ·have:j=l.length:=by omega
    subst this;go_wp2
    go_ret
    refine⟨aU (by omega),.inr ⟨B,rfl,p,q,by rw[gG];exact f.o,fun i n=>?_⟩,c⟩;rw[gG] at n;rw[qZ _ _ _ n];exact g.o i n
theorem vR(w:Qy)(a:Qx)(cap:Nat)(l:List Qw)(k:Nat)(q:0<k)(A:k+l.length<=4611686018427387904)(r:Strs w a (fo l k)):
  Calls prog 94 #[.slice a l.length cap,.int .i64 k] w fun e w'=>e= .returned (.int .i64 ((k+l.length:Nat):Int))/\K_ w w':=by
 go_enter func94,ntmps94
 go_wp2
 go_loopw [1,5] (fun x i wr=>∃j:Nat,j<=l.length/\i= .int .i64 j/\x= .int .i64 ((k:Int)+j)/\K_ w wr) (fun _ i _=>l.length-(intOf i).toNat)
 case atStart=>exact⟨0,OW _,rfl,by simp,K_.refl _⟩
 case round=>
  obtain⟨j,B,rfl,rfl,c⟩:=hrel;by_cases f:j<l.length
  ·obtain⟨b,o,rfl,g,d⟩:=r j (by rw[gG];exact f);rw[qZ _ _ _ f] at d;have t:b<wr.heap.size:=OV g c.size;have h:wr.cell? ⟨b,o+j,none⟩=some (.string (fP (k+j))):=by rw[c.cell g];exact d
   clear d;obtain⟨s,m,n⟩:=Lp k j q (by omega);rw[<-m] at h;have v:=Kz n;clear m n;go_wp2
   go_region_with (go_at_call 38;refine (v.o _).mono ?_;rintro e y ⟨rfl,z⟩;have p:K_ wr y:=K_.trans (by repeat (first | apply K_.drew | exact K_.refl _)) z;have C:=(p.cell t).trans h)
   all_goals
    go_wp2
    go_roundw
    case rel=>exact⟨j+1,by omega,by go_num,by go_num,by repeat (first | exact c.trans p | apply K_.drew)⟩
    case measure=>simp[intOf];omega
  ·have:j=l.length:=by omega
   subst this;go_wp2
   go_ret
   exact⟨aU (by omega),c⟩
theorem GM(m:Nat)(a:0<m)(b:m<=4611686018427387904):∃s,s=fP m/\∀W,Calls prog 38 #[.int .i64 (m:Int)] W fun e w'=>e= .returned (.string s)/\K_ W w':=
 ⟨_,rfl,fun W=>fZ W m a b⟩
variable {b o : Nat} {w : Qy}
theorem Nt{x y:QA}(d:w.cell? ⟨b,o,none⟩=some x)(e:w.cell? ⟨b,o+1,none⟩=some y):w.rangeAt b o [x,y]:=by
 intro i v a
 match i,a with
 | 0,a=>simp at a;subst a;exact d
 | 1,a=>simp at a;subst a;exact e
 | i+2,a=>simp at a
theorem MO{x y old a:QA}(c:w.cell? ⟨b,o,none⟩=some old)(d:w.cell? ⟨b,o+1,none⟩=some a):((w.setCell ⟨b,o,none⟩ x).setCell ⟨b,o+1,none⟩ y).rangeAt b o [x,y]:=by
 have e:(w.setCell ⟨b,o,none⟩ x).cell? ⟨b,o+1,none⟩=some a:=by rw[Pq _ _ _ _ (by simp)];exact d
 refine Nt ?_ ?_
 ·rw[Pq _ _ _ _ (by simp),Qb _ _ _ c]
 ·rw[Qb _ _ _ e]
theorem zi(w:Qy)(lo hi:Nat)(a:Qx)(cap:Nat)(l:List aT)(k:Nat)(S:0<k)(T:k+l.length*2<=4611686018427387904)(E:dM w lo hi a l):
  Calls prog 137 #[.slice a l.length cap,.int .i64 k] w fun e w'=>e= .returned (.int .i64 ((k+l.length*2:Nat):Int))/\dM w' lo hi a (gY l k)/\Xj lo hi w w':=by
 rcases E with rfl|⟨B,rfl,d,f,v,F⟩
 ·go_enter func137,ntmps137
  go_wp2
  go_loopw [1,5] (fun x i wr=>x= .int .i64 k/\i= .int .i64 0/\wr=w) (fun _ _ _=>0)
  case atStart=>exact⟨rfl,rfl,rfl⟩
  case round=>
   obtain⟨rfl,rfl,rfl⟩:=hrel;go_wp2
   go_ret
   exact⟨by simp,.inl rfl,Xj.refl _ _ _⟩
 ·go_enter func137,ntmps137
  go_wp2
  go_loopw [1,5] (fun x i wr=>∃j m:Nat,j<=l.length/\i= .int .i64 j/\x= .int .i64 m/\m=k+j*2/\Xj lo hi w wr/\Row wr B (l.length*2)/\∀t,t<j->wr.rangeAt B (t*2) (mW (k+t*2)).cells) (fun _ i _=>l.length-(intOf i).toNat)
  case atStart=>exact⟨0,k,OW _,rfl,rfl,by omega,Xj.refl _ _ _,v,fun t b=>aB b⟩
  case round=>
   obtain⟨j,m,U,rfl,rfl,y,g,h,z⟩:=hrel;clear v F;have⟨n,p,q⟩:=bA h z y;by_cases V:j<l.length
   ·have G:=h.lt;have W:m+2<=4611686018427387904:=by omega
    obtain⟨H,A,C⟩:=GM m (by omega) (by omega);have⟨I,J⟩:=aD A C;clear A C z y;go_wp2_with fail
    refine (J.o _).mono ?_;rintro e K ⟨rfl,r⟩;have c:=n.o.kept r;have L:=Kz c;have M:Hid (∀t,t<j->K.rangeAt B (t*2) (mW (k+t*2)).cells):=fun t b=>r.range G (p.o t b)
    obtain⟨⟨old,N⟩,X⟩:=c.at (i:=j*2) (by omega);obtain⟨⟨Y,O⟩,Z⟩:=c.at (i:=j*2+1) (by omega);have P:=g.trans (.aj r);clear n p h c g;go_wp2
    go_roundw
    case rel=>
     refine⟨j+1,m+2,by omega,by go_num,by go_num,by have:=q.o;omega,(P.setCell d f _).setCell d f _,(L.o.set _ rfl _).set _ rfl _,fun t b=>?_⟩;by_cases e:t=j
     ·subst e;have Q:mW (k+t*2)= ⟨H,((m+1:Nat):Int)⟩:=by unfold mW;rw[<-q.o,I.o]
      rw[Q];exact MO N O
     ·intro i R D;have a0:i<2:=by have:=(O_.1 D).1;simpa[aT.cells] using this
      rw[Pq _ _ _ _ (by simp <;> omega),Pq _ _ _ _ (by simp <;> omega)];exact M.o t (by omega) i R D
    case measure=>simp[intOf];omega
   ·have:j=l.length:=by omega
    subst this;go_wp2
    go_ret
    refine⟨aU (by have:=q.o;omega),.inr ⟨B,rfl,d,f,by rw[jr];exact n.o,fun i s=>?_⟩,g⟩;rw[jr] at s;rw[yS _ _ _ s];exact p.o i s
structure lW (B p q lo hi:Nat) (w w':Qy):Prop where
 os:w'.os=w.os
 tape:w'.tape=w.tape
 output:w'.output=w.output
 size:w.heap.size<=w'.heap.size
 block:∀k,k<w.heap.size->k≠B->(k<lo\/hi<=k)->w'.heap[k]? =w.heap[k]?
 cell:∀o,(o<p\/q<=o)->w'.cell? ⟨B,o,none⟩=w.cell? ⟨B,o,none⟩
theorem lW.refl(B p q lo hi:Nat)(w:Qy):lW B p q lo hi w w:=⟨rfl,rfl,rfl,OU _,fun _ _ _ _=>rfl,fun _ _=>rfl⟩
variable {B hi lo p q : Nat}
theorem lW.but{l2 h2:Nat}{a b c:Qy}(h:lW B p q lo hi a b)(k:Xj l2 h2 b c)(l:lo<=l2)(m:h2<=hi)(f:B<l2\/h2<=B)(g:B<b.heap.size):lW B p q lo hi a c:=
 ⟨k.os.trans h.os,k.tape.trans h.tape,k.output.trans h.output,OX h.size k.size,
  fun i e j d=>(k.block i (OV e h.size) (by omega)).trans (h.block i e j d),
  fun o d=>(Pi (w:=b) (k.block B g f)).trans (h.cell o d)⟩
theorem lW.kept{a b c:Qy}(h:lW B p q lo hi a b)(k:K_ b c)(f:B<b.heap.size):lW B p q lo hi a c:=
 ⟨k.os.trans h.os,k.tape.trans h.tape,k.output.trans h.output,OX h.size k.size,
  fun i e g d=>(k.block i (OV e h.size)).trans (h.block i e g d),
  fun o d=>(k.cell f).trans (h.cell o d)⟩
theorem lW.setCell{a b:Qy}(h:lW B p q lo hi a b)(j:p<=o)(h2:o<q)(v:QA):lW B p q lo hi a (b.setCell ⟨B,o,none⟩ v):=
 ⟨h.os,h.tape,h.output,by rw[size_setCell];exact h.size,fun k f d g=>by rw[Below.heap_setCell _ _ _ _ d];exact h.block k f d g,
  fun t i=>by rw[Pq _ _ _ _ (by simp <;> omega)];exact h.cell t i⟩
variable {w' : Qy}
theorem lW.same{l2 h2:Nat}(h:lW B p q lo hi w w')(d:h2<=lo\/hi<=l2)(e:B<l2\/h2<=B):Same l2 h2 w w':=
 fun b f g c=>h.block b c (by omega) (by omega)
theorem lW.keptBut{l2 h2:Nat}(h:lW B p q lo hi w w')(b:l2<=lo)(c:hi<=h2)(d:l2<=B)(e:B<h2):Xj l2 h2 w w':=
 ⟨h.os,h.tape,h.output,h.size,fun k a f=>h.block k a (by omega) (by omega)⟩
theorem lW.range{cs:List QA}(h:lW B p q lo hi w w')(f:o+cs.length<=p\/q<=o)(d:w.rangeAt B o cs):w'.rangeAt B o cs:=by
 intro i v b;have g:=(O_.1 b).1;rw[h.cell (o+i) (by omega)];exact d i v b
theorem NQ{c d e f g h i j:QA}(l:w.cell? ⟨b,o,none⟩=some c)(m:w.cell? ⟨b,o+1,none⟩=some d)(h2:w.cell? ⟨b,o+2,none⟩=some e)(n:w.cell? ⟨b,o+3,none⟩=some f)
 (p:w.cell? ⟨b,o+4,none⟩=some g) (q:w.cell? ⟨b,o+5,none⟩=some h) (r:w.cell? ⟨b,o+6,none⟩=some i) (s:w.cell? ⟨b,o+7,none⟩=some j):w.rangeAt b o [c,d,e,f,g,h,i,j]:=by
 intro k v a
 match k,a with
 | 0,a=>simp at a;subst a;exact l
 | 1,a=>simp at a;subst a;exact m
 | 2,a=>simp at a;subst a;exact h2
 | 3,a=>simp at a;subst a;exact n
 | 4,a=>simp at a;subst a;exact p
 | 5,a=>simp at a;subst a;exact q
 | 6,a=>simp at a;subst a;exact r
 | 7,a=>simp at a;subst a;exact s
 | k+8,a=>simp at a
theorem NM{c d e:QA}(g:w.cell? ⟨b,o,none⟩=some c)(h:w.cell? ⟨b,o+1,none⟩=some d)(h2:w.cell? ⟨b,o+2,none⟩=some e):w.rangeAt b o [c,d,e]:=by
 intro i v a
 match i,a with
 | 0,a=>simp at a;subst a;exact g
 | 1,a=>simp at a;subst a;exact h
 | 2,a=>simp at a;subst a;exact h2
 | i+3,a=>simp at a
theorem Ls{n:Nat}(h:Row w b n)(g:o+7<n)(v3 v4 a c:QA):∃W,W= (((w.setCell ⟨b,o+3,none⟩ v3).setCell ⟨b,o+4,none⟩ v4).setCell ⟨b,o+5,none⟩ a).setCell ⟨b,o+6,none⟩ c/\Row W b n/\
  W.cell? ⟨b,o,none⟩=w.cell? ⟨b,o,none⟩/\W.cell? ⟨b,o+1,none⟩=w.cell? ⟨b,o+1,none⟩/\W.cell? ⟨b,o+2,none⟩=w.cell? ⟨b,o+2,none⟩/\W.cell? ⟨b,o+3,none⟩=some v3/\W.cell? ⟨b,o+4,none⟩=some v4/\W.cell? ⟨b,o+5,none⟩=some a/\W.cell? ⟨b,o+6,none⟩=some c:=by
 have d:=h.set ⟨b,o+3,none⟩ rfl v3;have e:=d.set ⟨b,o+4,none⟩ rfl v4;have f:=e.set ⟨b,o+5,none⟩ rfl a;refine⟨_,rfl,f.set _ rfl _, ?_, ?_, ?_, ?_, ?_, ?_, ?_⟩
 ·rw[Xk (by omega),Xk (by omega),Xk (by omega),Xk (by omega)]
 ·rw[Xk (by omega),Xk (by omega),Xk (by omega),Xk (by omega)]
 ·rw[Xk (by omega),Xk (by omega),Xk (by omega),Xk (by omega)]
 ·rw[Xk (by omega),Xk (by omega),Xk (by omega)];exact bH h (by omega) _
 ·rw[Xk (by omega),Xk (by omega)];exact bH d (by omega) _
 ·rw[Xk (by omega)];exact bH e (by omega) _
 ·exact bH f (by omega) _
theorem IA(m d:Nat)(z:Int)(h:z= ((m+d:Nat):Int)):(z % 3 == 0)=decide ((m+d) % 3=0):=by
 subst h;rw[Bool.eq_iff_iff];simp;omega
def jK(l:List Xq)(k j t:Nat):Xq:=if t<j then jP (l.getD t Xq.zero) (k+sumTo dE l t) else l.getD t Xq.zero
theorem FQ(l:List Xq):l.length<=(l.map dE).sum:=by
 induction l with
 | nil=>simp
 | cons s r ih=>
  simp only[PP,List.map_cons,List.sum_cons];have:6<=dE s:=by unfold dE;omega
  omega
theorem xB(s:Xq)(k:Nat)(a:Qx)(ca:Nat)(b:Qx)(cc:Nat):(jP s k).cells a ca b cc=
  [.slice a s.asks.length ca,.int .i64 ((k+s.asks.length:Nat):Int),.slice b s.cases.length cc,.int .i64 ((k+s.asks.length+1+s.cases.length*2:Nat):Int),.int .i64 ((k+s.asks.length+1+s.cases.length*2+1:Nat):Int),
   .bool (decide ((k+s.asks.length+1+s.cases.length*2+2) % 3=0)),.bool (decide ((k+s.asks.length+1+s.cases.length*2+3) % 3=0)),.string (fP (k+s.asks.length+1+s.cases.length*2+4))]:=by
 simp[jP,Xq.cells,gG,jr]
theorem Ab(w:Qy)(lo hi:Nat)(a:Qx)(cap:Nat)(l:List Xq)(k:Nat)(h7:0<k)(h8:k+ (l.map dE).sum<=4611686018427387904)(hS:StepsIn w lo hi a l):
  Calls prog 91 #[.slice a l.length cap,.int .i64 k] w fun e w'=>e= .returned (.int .i64 ((k+ (l.map dE).sum:Nat):Int))/\StepsIn w' lo hi a (jv l k)/\Xj lo hi w w':=by
 have h9:=FQ l;rcases hS with rfl|⟨B,c,rfl,b0,R,e0,hr,b1,hf⟩
 ·go_enter func91,ntmps91
  go_wp2
  go_loopw [1,5] (fun S n wr=>S= .int .i64 k/\n= .int .i64 0/\wr=w) (fun _ _ _=>0)
  case atStart=>exact⟨rfl,rfl,rfl⟩
  case round=>
   obtain⟨rfl,rfl,rfl⟩:=hrel;go_wp2
   go_ret
   exact⟨by simp,.inl rfl,Xj.refl _ _ _⟩
 ·have p:=Kz b1;clear b1;go_enter func91,ntmps91
  go_wp2
  go_loopw [1,5] (fun S n wr=>∃j m:Nat,j<=l.length/\n= .int .i64 j/\S= .int .i64 m/\m=k+sumTo dE l j/\Xj lo hi w wr/\Row wr B (l.length*8)/\∀t,t<l.length->jB wr B t (c t) (c (t+1)) (jK l k j t)) (fun _ n _=>l.length-(intOf n).toNat)
  case atStart=>exact⟨0,k,OW _,rfl,rfl,by rw[eD];omega,Xj.refl _ _ _,hr,fun t T=>by simpa[jK] using hf t T⟩
  case round=>
   obtain⟨j,m,hj,rfl,rfl,hm,hw,C,U⟩:=hrel;clear hr hf;have⟨V,HF⟩:=aD hm U;by_cases b2:j<l.length
   ·have b3:=U j b2;have b4:jK l k j j=l.getD j Xq.zero:=by simp[jK]
    rw[b4] at b3;have X:=iK dE l Xq.zero j b2;have e3:=sumTo_le dE l (j+1);obtain⟨D,Y,q,E,mid,g1,g2,Z,a0,g5,g6⟩:=b3;obtain⟨s,a1⟩:=ag (l.getD j Xq.zero);rw[<-a1] at Z a0 g5 g6 X;have e4:m+dE s<=4611686018427387904:=by omega
    have i0:0<m:=by omega
    have e5:dE s=s.asks.length+s.cases.length*2+6:=rfl;have⟨e6,e7⟩:=aD a1 X;clear U b4 a1 hm X e3;have a2:B<c j:=OV R (p.o 0 j (OW _));have a3:=C.lt;have c0:=Z 0 _ rfl;have c2:=Z 2 _ rfl;rw[PR] at c0;have e8:=Kz g5;go_wp2_with fail
    refine (kJ _ (c j) mid D Y s.asks m (by omega) (by omega) a0).mono ?_;rintro e w1 ⟨rfl,b5,v⟩;obtain⟨b,a4⟩:=ag (m+s.asks.length);rw[<-a4];have e9:b+s.cases.length*2+6<=4611686018427387904:=by omega
    have a5:=Kz a4;clear a4 e4 e5;have t1:=(lW.refl B (j*8) (j*8+8) (c j) (c (j+1)) wr).but v (OU _) g2 (.inl a2) a3;have x:Row w1 B (l.length*8):=(v.same (l2:=B) (h2:=B+1) (by omega)).row (OU _) (by omega) C;have s1:=v.same (l2:=B) (h2:=B+1) (by omega);have b6:=(s1.cell (o:=j*8) (OU _) (by omega) a3).trans c0;have b7:=(s1.cell (o:=j*8+2) (OU _) (by omega) a3).trans c2;obtain⟨⟨_,f0⟩,f1⟩:=x.at (i:=j*8+1) (by omega);have b8:=Kz b5;have b9:=Kz (e8.o.same (v.same (l2:=mid) (h2:=c (j+1)) (by omega)));have c1:∀W,dM W mid (c (j+1)) q s.cases->Calls prog 137 #[.slice q s.cases.length E,.int .i64 ((b:Int)+1)] W fun e w'=>e= .returned (.int .i64 ((b+1+s.cases.length*2:Nat):Int))/\dM w' mid (c (j+1)) q (gY s.cases (b+1))/\Xj mid (c (j+1)) W w':=by
     intro W hW;have:=zi W mid (c (j+1)) q E s.cases (b+1) (by omega) (by omega) hW;rw[show ((b+1:Nat):Int)= (b:Int)+1 by omega] at this;exact this
    have c3:=Kz c1;clear c0 c2 C a0 g5 b5 c1 v s1;go_wp2_with fail
    refine (c3.o _ (b9.o.same (Same.setCell _ (.inl (by show B<mid;omega)) _))).mono ?_;rintro e F ⟨rfl,c4,G⟩;obtain⟨g,a6⟩:=ag (b+1+s.cases.length*2);rw[<-a6];have i1:g+5<=4611686018427387904:=by omega
    have c5:=Kz a6;clear a6 e9;have f2:B<w1.heap.size:=x.lt;have t2:=(t1.setCell (o:=j*8+1) (by omega) (by omega) (.int .i64 (b:Int))).but G g1 (OU _) (.inl (by omega)) (by rw[size_setCell];exact f2);have y:Row (w1.setCell ⟨B,j*8+1,none⟩ (.int .i64 (b:Int))) B (l.length*8):=x.set _ rfl _;have z:=G.same (l2:=B) (h2:=B+1) (by omega);have r:Row F B (l.length*8):=z.row (OU _) (by omega) y;have c6:F.cell? ⟨B,j*8,none⟩=some (.slice D s.asks.length Y):=by rw[z.cell (OU _) (by omega) y.lt,Xk (by omega)];exact b6
    have e1:F.cell? ⟨B,j*8+1,none⟩=some (.int .i64 (b:Int)):=by rw[z.cell (OU _) (by omega) y.lt];exact bH x (by omega) _
    have e2:F.cell? ⟨B,j*8+2,none⟩=some (.slice q s.cases.length E):=by rw[z.cell (OU _) (by omega) y.lt,Xk (by omega)];exact b7
    have c7:=Kz ((b8.o.same (Same.setCell _ (.inl (by show B<c j;omega)) _)).same (G.same (l2:=c j) (h2:=mid) (by omega)));have c8:=Kz c4;obtain⟨⟨_,f3⟩,f4⟩:=r.at (i:=j*8+3) (by omega);obtain⟨⟨_,f5⟩,f6⟩:=r.at (i:=j*8+4) (by omega);obtain⟨⟨_,f7⟩,f8⟩:=r.at (i:=j*8+5) (by omega);obtain⟨⟨_,f9⟩,g0⟩:=r.at (i:=j*8+6) (by omega);have⟨c9,d0⟩:=aD t2 r;obtain⟨H,d1,d2⟩:∃H,H=fP (g+4)/\∀a7:Int,a7= ((g+4:Nat):Int)->∀W,Calls prog 38 #[.int .i64 a7] W fun e w'=>e= .returned (.string H)/\K_ W w':=⟨_,rfl,fun a7 hz W=>by rw[hz];exact fZ W _ (by omega) (by omega)⟩
    have⟨g3,d3⟩:=aD d1 d2;clear d1;have⟨d4,d5,d6⟩:=bA c6 e1 e2;clear b9 c3 c4 G x y t1 t2 z b6 b7 f1 f0 d2 c6 e1 e2 r b8;go_wp2_with fail
    obtain⟨W3,A,a8,q0,q1,q2,q3,q4,q5,q6⟩:=Ls (o:=j*8) d0.o (by omega) (.int .i64 (g:Int)) (.int .i64 ((g:Int)+1)) (.bool (((g:Int)+1+1) % 3 == 0)) (.bool (((g:Int)+1+1+1) % 3 == 0));have t3:lW B (j*8) (j*8+8) (c j) (c (j+1)) wr W3:=by
     rw[A];exact (((c9.o.setCell (by omega) (by omega) _).setCell (by omega) (by omega) _).setCell (by omega) (by omega) _).setCell (by omega) (by omega) _
    have d7:Hid (cZ W3 (c j) mid D (fo s.asks m)):=by
     have f:B<c j:=a2;rw[A];exact (((c7.o.same (Same.setCell _ (.inl f) _)).same (Same.setCell _ (.inl f) _)).same (Same.setCell _ (.inl f) _)).same (Same.setCell _ (.inl f) _)
    have d8:Hid (dM W3 mid (c (j+1)) q (gY s.cases (b+1))):=by
     have f:B<mid:=by omega
     rw[A];exact (((c8.o.same (Same.setCell _ (.inl f) _)).same (Same.setCell _ (.inl f) _)).same (Same.setCell _ (.inl f) _)).same (Same.setCell _ (.inl f) _)
    rw[<-A];rw[d4.o] at q0;rw[d5.o] at q1;rw[d6.o] at q2;rw[IA g 2 _ (by omega)] at q5;rw[IA g 3 _ (by omega)] at q6;clear A d4 d5 d6 c9 d0 c7 c8 f4 f3 f6 f5 f8 f7 g0 f9;refine (d3.o _ (by omega) _).mono ?_;rintro e w3 ⟨rfl,d⟩;have i:=a8.lt;have a9:=a8.kept d;have I:=(d.cell i).trans q0;have J:=(d.cell i).trans q1;have K:=(d.cell i).trans q2;have L:=(d.cell i).trans q3;have M:=(d.cell i).trans q4;have N:=(d.cell i).trans q5;have O:=(d.cell i).trans q6;have t4:=t3.kept d i;have g4:=Kz (d7.o.same (d.same _ _));have g7:=Kz (d8.o.same (d.same _ _));obtain⟨⟨_,i2⟩,i3⟩:=a9.at (i:=j*8+7) (by omega);have⟨d9,g8⟩:=aD a9 t4;have HY:=Kz (And.intro I (And.intro J (And.intro K (And.intro L (And.intro M (And.intro N O))))));clear q0 q1 q2 q3 q4 q5 q6 I J K L M N O a8 a9 t3 t4 d7 d8 d d3;go_wp2
    go_roundw
    case rel=>
     obtain⟨I,J,K,L,M,N,O⟩:=HY.o;have P:=g8.o.setCell (o:=j*8+7) (by omega) (by omega) (.string H);refine⟨j+1,g+5,by omega,by go_num,by go_num,by have e1:=V.o;have e2:=e7.o;have i4:=a5.o;have i5:=c5.o;have i6:dE s=s.asks.length+s.cases.length*2+6:=rfl;omega,hw.trans (P.keptBut (by omega) (by have:=p.o (j+1) l.length (by omega);omega) b0 (by have:=p.o 0 l.length (by omega);omega)),d9.o.set _ rfl _,fun t T=>?_⟩;by_cases e:t=j
     ·subst e;have em:jK l k (t+1) t=jP s m:=by
       unfold jK;rw[Qg (by omega),<-e6.o,<-V.o]
      rw[em];have f:B<c t:=a2;have g9:B<mid:=by omega
      refine⟨D,Y,q,E,mid,g1,g2, ?_,g4.o.same (Same.setCell _ (.inl f) _), ?_,by rw[show (jP s m).asks=fo s.asks m from rfl,gG];exact g6⟩
      ·rw[xB,<-a5.o,<-c5.o,<-g3.o];refine NQ ?_ ?_ ?_ ?_ ?_ ?_ ?_ (bH d9.o (by omega) _)
       ·rw[Xk (by omega)];exact I
       ·rw[Xk (by omega)];exact J
       ·rw[Xk (by omega)];exact K
       ·rw[Xk (by omega)];exact L
       ·rw[Xk (by omega)];exact M
       ·rw[Xk (by omega)];exact N
       ·rw[Xk (by omega)];exact O
      ·rw[show (jP s m).cases=gY s.cases (m+s.asks.length+1) from rfl,<-a5.o];exact g7.o.same (Same.setCell _ (.inl g9) _)
     ·have em:jK l k (j+1) t=jK l k j t:=by
       unfold jK;by_cases h:t<j
       ·rw[Qg h,Qg (by omega)]
       ·rw[Qh h,Qh (by omega)]
      rw[em];have h0:B<c t:=OV R (p.o 0 t (OW _));obtain⟨h1,h3,h4,h5,h6,z1,z2,z3,z4,z5,z6⟩:=HF.o t T;have hd:c (t+1)<=c j\/c (j+1)<=c t:=by
       by_cases h:t<j
       ·exact .inl (p.o _ _ (by omega))
       ·exact .inr (p.o _ _ (by omega))
      exact⟨h1,h3,h4,h5,h6,z1,z2,P.range (by simp[Xq.cells];omega) z3,z4.same (P.same (by omega) (.inl h0)),z5.same (P.same (by omega) (.inl (by omega))),z6⟩
    case measure=>simp[intOf];omega
   ·have:j=l.length:=by omega
    subst this;go_wp2
    go_ret
    refine⟨aU (by have:=V.o;rw[jD] at this;omega),.inr ⟨B,c,rfl,b0,R,by rw[gZ];exact e0,by rw[gZ];exact C,p.o,fun n Q=>?_⟩,hw⟩;rw[gZ] at Q;have:=HF.o n Q;rw[yz _ _ _ Q];unfold jK at this;rw[Qg Q] at this;exact this
structure dh where
 name:Qw
 over:Bool
 fail:Bool
 text:Qw
def dh.zero :dh:=⟨⟨#[]⟩,false,false,⟨#[]⟩⟩
def dh.cells(r:dh):List QA:=[.string r.name,.bool r.over,.bool r.fail,.string r.text]
def iY(w:Qy)(a:Qx)(l:List dh):Prop:=
 ∀i,i<l.length->∃b o,a=some ⟨b,o,none⟩/\b<w.heap.size/\w.rangeAt b (o+i*4) (l.getD i dh.zero).cells
variable {l : List dh} {a : Qx}
theorem iY.kept(h:iY w a l)(k:K_ w w'):iY w' a l:=by
 intro i c;obtain⟨d,o,e,b,f⟩:=h i c;exact⟨d,o,e,OV b k.size,k.range b f⟩
def fI(w:Qy)(lo hi:Nat)(a:Qx)(l:List dh):Prop:=
 l=[]\/∃b,a=some ⟨b,0,none⟩/\lo<=b/\b<hi/\Row w b (l.length*4)/\∀i,i<l.length->w.rangeAt b (i*4) (l.getD i dh.zero).cells
theorem fI.same(h:fI w lo hi a l)(k:Same lo hi w w'):fI w' lo hi a l:=by
 rcases h with h|⟨b,f,c,d,e,g⟩
 ·exact .inl h
 ·exact .inr ⟨b,f,c,d,k.row c d e,fun i hi=>k.range c d e.lt (g i hi)⟩
theorem fI.mono{c d:Nat}(h:fI w lo hi a l)(i:c<=lo)(h2:hi<=d):fI w c d a l:=by
 rcases h with h|⟨b,e,j,k,f,g⟩
 ·exact .inl h
 ·exact .inr ⟨b,e,by omega,by omega,f,g⟩
theorem fI.JJ(h:fI w lo hi a l):iY w a l:=by
 rcases h with rfl|⟨b,c,f,g,d,e⟩
 ·intro i hi;simp at hi
 ·intro i hi;exact⟨b,0,c,d.lt,by rw[PD];exact e i hi⟩
def sQ(k:Nat):dh:=⟨fP k,decide ((k+1) % 3=0),decide ((k+2) % 3=0),fP (k+3)⟩
def gT(l:List dh)(k:Nat):List dh:=l.mapIdx fun i _=>sQ (k+i*4)
theorem ko(l:List dh)(k:Nat):(gT l k).length=l.length:=by simp[gT]
theorem qL(l:List dh)(k i:Nat)(h:i<l.length):(gT l k).getD i dh.zero=sQ (k+i*4):=by simp[gT,List.getD,h]
theorem Cu(w:Qy)(r:dh):
  Calls prog 135 #[.agg #[.string r.name,.bool r.over,.bool r.fail,.string r.text],.agg #[.string r.name,.bool r.over,.bool r.fail,.string r.text]] w fun e w'=>e= .returned (.bool true)/\K_ w w':=by
 go_enter func135,ntmps135
 go_wp2
 go_ret
 exact⟨rfl,by repeat (first | apply K_.alloc | apply K_.drew | exact K_.refl _)⟩
theorem zA(w:Qy)(a g:Qx)(cap j:Nat)(l:List dh)(m:l.length<=maxLen)
  (n:iY w a l) (p:iY w g l):
  Calls prog 89 #[.slice a l.length cap,.slice g l.length j] w fun e w'=>e= .returned (.bool true)/\K_ w w':=by
 unfold maxLen at m;go_enter func89,ntmps89
 go_wp2
 go_loopw [5] (fun i wr=>∃k:Nat,k<=l.length/\i= .int .i64 k/\K_ w wr) (fun i _=>l.length-(intOf i).toNat)
 case atStart=>exact⟨0,OW _,rfl,K_.refl _⟩
 case round=>
  obtain⟨k,t,rfl,f⟩:=hrel;by_cases h:k<l.length
  ·obtain⟨b,o,rfl,v,c⟩:=n.kept f k h;obtain⟨x,y,rfl,z,d⟩:=p.kept f k h;generalize l.getD k dh.zero=q at *;have r:=c 0 _ rfl;have A:=c 1 _ rfl;have B:=c 2 _ rfl;have C:=c 3 _ rfl;have s:=d 0 _ rfl;have D:=d 1 _ rfl;have E:=d 2 _ rfl;have F:=d 3 _ rfl;simp only[PR] at r s;clear c d;go_wp2
   go_region_with (go_at_call 135;refine (Cu _ q).mono ?_;rintro e G ⟨rfl,H⟩)
   all_goals
    go_wp2
    go_roundw
    case rel=>exact⟨k+1,by omega,by go_num,by repeat (first | assumption | apply K_.drew | refine K_.trans ?_ (by assumption))⟩
    case measure=>simp[intOf];omega
  ·go_wp2
   go_ret
   exact⟨rfl,f⟩
theorem NH{x y z u:QA}(e:w.cell? ⟨b,o,none⟩=some x)(f:w.cell? ⟨b,o+1,none⟩=some y)(h2:w.cell? ⟨b,o+2,none⟩=some z)(g:w.cell? ⟨b,o+3,none⟩=some u):w.rangeAt b o [x,y,z,u]:=by
 intro i v a
 match i,a with
 | 0,a=>simp at a;subst a;exact e
 | 1,a=>simp at a;subst a;exact f
 | 2,a=>simp at a;subst a;exact h2
 | 3,a=>simp at a;subst a;exact g
 | i+4,a=>simp at a
theorem vY(w:Qy)(lo hi:Nat)(a:Qx)(cap:Nat)(l:List dh)(k:Nat)(h0:0<k)(h1:k+l.length*4<=4611686018427387904)(Y:fI w lo hi a l):
  Calls prog 92 #[.slice a l.length cap,.int .i64 k] w fun e w'=>e= .returned (.int .i64 ((k+l.length*4:Nat):Int))/\fI w' lo hi a (gT l k)/\Xj lo hi w w':=by
 rcases Y with rfl|⟨B,rfl,Z,a0,E,hf⟩
 ·go_enter func92,ntmps92
  go_wp2
  go_loopw [1,5] (fun x i wr=>x= .int .i64 k/\i= .int .i64 0/\wr=w) (fun _ _ _=>0)
  case atStart=>exact⟨rfl,rfl,rfl⟩
  case round=>
   obtain⟨rfl,rfl,rfl⟩:=hrel;go_wp2
   go_ret
   exact⟨by simp,.inl rfl,Xj.refl _ _ _⟩
 ·clear hf;go_enter func92,ntmps92
  go_wp2
  go_loopw [1,5] (fun x i wr=>∃j m:Nat,j<=l.length/\i= .int .i64 j/\x= .int .i64 m/\m=k+j*4/\Xj lo hi w wr/\Row wr B (l.length*4)/\∀t,t<j->wr.rangeAt B (t*4) (sQ (k+t*4)).cells) (fun _ i _=>l.length-(intOf i).toNat)
  case atStart=>exact⟨0,k,OW _,rfl,rfl,by omega,Xj.refl _ _ _,E,fun t F=>aB F⟩
  case round=>
   obtain⟨j,m,hj,rfl,rfl,G,H,p,I⟩:=hrel;clear E;have⟨q,J⟩:=aD G I;by_cases a9:j<l.length
   ·have a1:0<m:=by omega
    have b0:m+4<=4611686018427387904:=by omega
    have a2:=p.lt;clear I G;obtain⟨b,K,L⟩:=GM m a1 (by omega);obtain⟨M,N,O⟩:∃b,b=fP (m+3)/\∀z:Int,z= ((m+3:Nat):Int)->∀W,Calls prog 38 #[.int .i64 z] W fun e w'=>e= .returned (.string b)/\K_ W w':=⟨_,rfl,fun z hz W=>by rw[hz];exact fZ W _ (by omega) (by omega)⟩
    have⟨a3,P,a4,Q⟩:=oZ K L N O;clear K L N O;go_wp2_with fail
    refine (P.o _).mono ?_;rintro e w1 ⟨rfl,r⟩;have f:=p.kept r;obtain⟨⟨_,a5⟩,f0⟩:=f.at (i:=j*4) (by omega);obtain⟨⟨_,a6⟩,f1⟩:=f.at (i:=j*4+1) (by omega);obtain⟨⟨_,a7⟩,f2⟩:=f.at (i:=j*4+2) (by omega);have R:=(lW.refl B (j*4) (j*4+4) B B wr).kept r a2;have⟨s,S⟩:=aD f R;clear p r P f R;go_wp2_with fail
    refine (Q.o _ (by omega) _).mono ?_;rintro e v ⟨rfl,c⟩;have y:=s.o.set ⟨B,j*4,none⟩ rfl (.string b);have A:=y.set ⟨B,j*4+1,none⟩ rfl (.bool (((m:Int)+1) % 3 == 0));have d:=A.set ⟨B,j*4+2,none⟩ rfl (.bool (((m:Int)+1+1) % 3 == 0));have g:v.cell? ⟨B,j*4,none⟩=some (.string b):=by rw[c.cell d.lt,Xk (by omega),Xk (by omega)];exact bH s.o (by omega) _
    have h:v.cell? ⟨B,j*4+1,none⟩=some (.bool (((m:Int)+1) % 3 == 0)):=by rw[c.cell d.lt,Xk (by omega)];exact bH y (by omega) _
    have n:v.cell? ⟨B,j*4+2,none⟩=some (.bool (((m:Int)+1+1) % 3 == 0)):=by rw[c.cell d.lt];exact bH A (by omega) _
    have T:=(((S.o.setCell (o:=j*4) (by omega) (by omega) (.string b)).setCell (o:=j*4+1) (by omega) (by omega) (.bool (((m:Int)+1) % 3 == 0))).setCell (o:=j*4+2) (by omega) (by omega) (.bool (((m:Int)+1+1) % 3 == 0))).kept c d.lt;have C:=d.kept c;obtain⟨⟨_,b1⟩,f3⟩:=C.at (i:=j*4+3) (by omega);have U:=Kz C;have a8:=Kz (T.setCell (o:=j*4+3) (by omega) (by omega) (.string M));have HE:=Kz (And.intro g (And.intro h n));clear g h n y A d T C c s S Q f0 a5 f1 a6 f2 a7;go_wp2
    go_roundw
    case rel=>
     have V:=a8.o;refine⟨j+1,m+4,by omega,by go_num,by go_num,by have:=q.o;omega,H.trans (V.keptBut (by omega) (by omega) (by omega) (by omega)),U.o.set _ rfl _,fun t F=>?_⟩;by_cases e:t=j
     ·subst e;obtain⟨g,h,n⟩:=HE.o;rw[IA m 1 _ (by omega)] at h;rw[IA m 2 _ (by omega)] at n;rw[a3.o] at g;have em:sQ (k+t*4)= ⟨fP m,decide ((m+1) % 3=0),decide ((m+2) % 3=0),fP (m+3)⟩:=by unfold sQ;rw[<-q.o]
      rw[em];have X:=bH U.o (show t*4+3<l.length*4 by omega) (.string M);rw[a4.o] at X⊢;exact NH (by rw[Xk (by omega)];exact g) (by rw[Xk (by omega)];exact h) (by rw[Xk (by omega)];exact n) X
     ·exact V.range (by simp[dh.cells];omega) (J.o t (by omega))
    case measure=>simp[intOf];omega
   ·have:j=l.length:=by omega
    subst this;go_wp2
    go_ret
    refine⟨aU (by have:=q.o;omega),.inr ⟨B,rfl,Z,a0,by rw[ko];exact p,fun i D=>?_⟩,H⟩;rw[ko] at D;rw[qL _ _ _ D];exact J.o i D
theorem vU(w:Qy)(a:Qx)(cap:Nat)(l:List dh)(k:Nat)(X:0<k)(Y:k+l.length*4<=4611686018427387904)(G:iY w a (gT l k)):
  Calls prog 93 #[.slice a l.length cap,.int .i64 k] w fun e w'=>e= .returned (.int .i64 ((k+l.length*4:Nat):Int))/\K_ w w':=by
 go_enter func93,ntmps93
 go_wp2
 go_loopw [1,5] (fun H q wr=>∃j m:Nat,j<=l.length/\q= .int .i64 j/\H= .int .i64 m/\m=k+j*4/\K_ w wr) (fun _ q _=>l.length-(intOf q).toNat)
 case atStart=>exact⟨0,k,OW _,rfl,rfl,by omega,K_.refl _⟩
 case round=>
  obtain⟨j,m,Z,rfl,rfl,r,s⟩:=hrel;have y:=Kz r;by_cases A:j<l.length
  ·obtain⟨b,o,rfl,f,g⟩:=G.kept s j (by rw[ko];exact A);rw[qL _ _ _ A,<-r] at g;have a0:m+4<=4611686018427387904:=by omega
   have I:0<m:=by omega
   obtain⟨c,B,C⟩:=GM m I (by omega);obtain⟨h,D,E⟩:∃c,c=fP (m+3)/\∀z:Int,z= ((m+3:Nat):Int)->∀W,Calls prog 38 #[.int .i64 z] W fun e w'=>e= .returned (.string c)/\K_ W w':=⟨_,rfl,fun z J W=>by rw[J];exact fZ W _ (by omega) (by omega)⟩
   have i:=g 0 (.string c) (by rw[B];rfl);have t:=g 1 (.bool (decide ((m+1) % 3=0))) rfl;have v:=g 2 (.bool (decide ((m+2) % 3=0))) rfl;have x:=g 3 (.string h) (by rw[D];rfl);rw[<-IA m 1 ((m:Int)+1) (by omega)] at t;rw[<-IA m 2 ((m:Int)+1+1) (by omega)] at v;rw[PR] at i;have⟨K,L⟩:=aD C E;clear g B C D E r;have F:Hid (∀w',K_ wr w'->(fun w'=>w'.cell? ⟨b,o+j*4,none⟩=some (.string c)/\w'.cell? ⟨b,o+j*4+3,none⟩=some (.string h)) w'):=fun w' n=>⟨(n.cell f).trans i,(n.cell f).trans x⟩
   go_wp2
   go_region_held (fun w'=>w'.cell? ⟨b,o+j*4,none⟩=some (.string c)/\w'.cell? ⟨b,o+j*4+3,none⟩=some (.string h)) (exact aP F _ (by repeat (first | (with_reducible exact K_.refl _) | (with_reducible assumption) | apply K_.drew))) ((go_at_call 38;refine (K.o _).mono ?_;rintro e p ⟨rfl,M⟩;have d:K_ wr p:=K_.trans (by repeat (first | (with_reducible exact K_.refl _) | (with_reducible assumption) | apply K_.drew)) M))
   all_goals
    have N:=(d.cell (o:=o+j*4) f).trans i;have O:=(d.cell (o:=o+j*4+1) f).trans t;have P:=(d.cell (o:=o+j*4+2) f).trans v;have Q:=(d.cell (o:=o+j*4+3) f).trans x;have z1:=d.size;have a1:b<p.heap.size:=by omega
    have R:Hid (∀w',K_ p w'->(fun w'=>w'.cell? ⟨b,o+j*4,none⟩=some (.string c)/\w'.cell? ⟨b,o+j*4+3,none⟩=some (.string h)) w'):=fun w' n=>F.o w' (d.trans n)
    go_wp2
    go_region_held (fun w'=>w'.cell? ⟨b,o+j*4,none⟩=some (.string c)/\w'.cell? ⟨b,o+j*4+3,none⟩=some (.string h)) (exact aP R _ (by repeat (first | (with_reducible exact K_.refl _) | (with_reducible assumption) | apply K_.drew))) ((go_at_call 38;refine (L.o _ (by omega) _).mono ?_;rintro e S ⟨rfl,T⟩;have U:K_ p S:=K_.trans (by repeat (first | (with_reducible exact K_.refl _) | (with_reducible assumption) | apply K_.drew)) T))
    all_goals
     have V:=d.trans U;clear i t v x N O P Q;go_wp2
     go_roundw
     case rel=>exact⟨j+1,m+4,by omega,by go_num,by go_num,by have:=y.o;omega,by repeat (first | exact s.trans V | apply K_.drew)⟩
     case measure=>simp[intOf];omega
  ·have:j=l.length:=by omega
   subst this;go_wp2
   go_ret
   exact⟨aU (by have:=y.o;omega),s⟩
