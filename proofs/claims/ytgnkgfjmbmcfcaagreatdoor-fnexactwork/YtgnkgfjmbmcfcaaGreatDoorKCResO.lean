import Derived.Test.YtgnkgfjmbmcfcaaGreatDoorKURes
import Derived.Test.YtgnkgfjmbmcfcaaGreatDoorKOPack
import Derived.Test.YtgnkgfjmbmcfcaaGreatDoorKShelf
set_option maxRecDepth 100000
set_option maxHeartbeats 25600000
namespace Go.Proofs.YtgnkgfjmbmcfcaaGreatDoor
open Go.RowKit Go.Proofs.Tryz
def mH(w:Qy)(B j lo hi:Nat)(d:Qz):Prop:=∃a cap,w.rangeAt B (j*3) (d.cells a cap)/\StepsIn w lo hi a d.steps
def ed(w:Qy)(lo hi:Nat)(a:Qx)(l:List Qz):Prop:=
 l=[]\/∃(b:Nat) (c:Nat->Nat),a=some ⟨b,0,none⟩/\lo<=b/\b<c 0/\c l.length<=hi/\Row w b (l.length*3)/\(∀i j,i<=j->c i<=c j)/\∀i,i<l.length->mH w b i (c i) (c (i+1)) (l.getD i Qz.zero)
variable {l : List Qz} {hi lo : Nat} {a : Qx} {w : Qy}
theorem ed.same{w':Qy}(h:ed w lo hi a l)(k:Same lo hi w w'):ed w' lo hi a l:=by
 rcases h with h|⟨e,c,n,d,f,g,j,b,p⟩
 ·exact .inl h
 ·have m:e<hi:=OV f (OX (b 0 _ (OW _)) g);refine .inr ⟨e,c,n,d,f,g,k.row d m j,b,fun i q=>?_⟩;obtain⟨r,s,t,v⟩:=p i q;refine⟨r,s,k.range d m j.lt t,v.same (k.mono ?_ ?_)⟩
  ·have:=b 0 i (OW _);omega
  ·have:=b (i+1) l.length (by omega);omega
theorem ed.mono{c d:Nat}(h:ed w lo hi a l)(m:c<=lo)(h2:hi<=d):ed w c d a l:=by
 rcases h with h|⟨b,e,f,n,g,p,i,j,k⟩
 ·exact .inl h
 ·exact .inr ⟨b,e,f,by omega,g,by omega,i,j,k⟩
theorem ed.nodes(h:ed w lo hi a l):bJ w a l:=by
 rcases h with rfl|⟨b,c,d,n,p,q,e,r,f⟩
 ·intro i hi;simp at hi
 ·intro i hi;obtain⟨g,j,k,m⟩:=f i hi;exact⟨b,0,_,d,e.lt,by rw[PD];exact k,g,j,rfl,m.steps⟩
def dC(d:Qz):Nat:=(d.steps.map dE).sum+2
def ng(d:Qz)(k:Nat):Qz:={name:=fP k,cost:=((k+1:Nat):Int),steps:=jv d.steps (k+2)}
def kX(l:List Qz)(k:Nat):List Qz:=l.mapIdx fun i d=>ng d (k+sumTo dC l i)
theorem jy(l:List Qz)(k:Nat):(kX l k).length=l.length:=by simp[kX]
theorem yJ(l:List Qz)(k i:Nat)(h:i<l.length):(kX l k).getD i Qz.zero=ng (l.getD i Qz.zero) (k+sumTo dC l i):=by simp[kX,List.getD,h]
theorem wW(d:Qz)(k:Nat)(a:Qx)(cap:Nat):(ng d k).cells a cap=[.string (fP k),.int .i64 ((k+1:Nat):Int),.slice a d.steps.length cap]:=by
 simp[ng,Qz.cells,gZ]
def jH(l:List Qz)(k j t:Nat):Qz:=if t<j then ng (l.getD t Qz.zero) (k+sumTo dC l t) else l.getD t Qz.zero
theorem Dp(l:List Qz):l.length<=(l.map dC).sum:=by
 induction l with
 | nil=>simp
 | cons s r ih=>
  simp only[PP,List.map_cons,List.sum_cons];have:2<=dC s:=by unfold dC;omega
  omega
theorem cZ.setCell{l:List Qw}(h:cZ w lo hi a l){p:Addr}(c:p.block<lo)(v:QA):cZ (w.setCell p v) lo hi a l:=h.same (Same.setCell _ (.inl c) _)
theorem dM.setCell{l:List aT}(h:dM w lo hi a l){p:Addr}(c:p.block<lo)(v:QA):dM (w.setCell p v) lo hi a l:=h.same (Same.setCell _ (.inl c) _)
theorem StepsIn.setCell{l:List Xq}(h:StepsIn w lo hi a l){p:Addr}(c:p.block<lo)(v:QA):StepsIn (w.setCell p v) lo hi a l:=h.same (Same.setCell _ (.inl c) _)
theorem ed.setCell(h:ed w lo hi a l){p:Addr}(c:p.block<lo)(v:QA):ed (w.setCell p v) lo hi a l:=h.same (Same.setCell _ (.inl c) _)
theorem Same.setCells{g:Nat}(a:g<lo\/hi<=g):∀(vs:List QA) (o:Nat) (w:Qy),Same lo hi w (w.setCells g o vs)
 | [],_,_=>fun _ _ _ _=>rfl
 | v :: r,o,w=>by
  rw[World.setCells];intro b c d e;have f:=Same.setCells a r (o+1) (w.setCell ⟨g,o,none⟩ v) b c d (by rw[size_setCell];exact e);exact f.trans (Same.setCell w (p:=⟨g,o,none⟩) a v b c d e)
theorem sH(w:Qy)(a:Qx)(cap:Nat)(l:List Qw)(A:l.length<=1048576)
  (r:Strs w a l):
  Calls prog 8 #[.slice a l.length cap] w fun e w'=>∃b,e= .returned (.slice (some ⟨b,0,none⟩) l.length l.length)/\cZ w' w.heap.size w'.heap.size (some ⟨b,0,none⟩) l/\K_ w w':=by
 have s:=run_make_row' (P:=prog) 25 9 _ _ underlying25 Tryz.wP rfl .i64 .i64 l.length (by omega) (by omega);go_enter func8,ntmps8
 go_wp2
 clear s;have h:=World.rowIs_made w (.string ByteArray.empty) l.length 9;have m:K_ w (w.alloc (.cells (madeCells #[.string ByteArray.empty] l.length) 9)):=Below.alloc (Below.refl _ _) (OU _) _;go_loopw [4] (fun i wr=>∃k:Nat,k<=l.length/\i= .int .i64 k/\K_ w wr/\(∃d,wr.rowIs w.heap.size 9 l.length d)/\∀j,j<k->wr.cell? ⟨w.heap.size,j,none⟩=some (.string (l.getD j ByteArray.empty))) (fun i _=>l.length-(intOf i).toNat)
 case atStart=>exact⟨0,OW _,rfl,m,⟨_,h⟩,fun j n=>aB n⟩
 case round=>
  obtain⟨k,B,rfl,f,⟨d,c⟩,g⟩:=hrel;clear h m;by_cases p:k<l.length
  ·obtain⟨b,o,rfl,C,D⟩:=r.kept f k p;have E:=c.frozen k;have t:=c.cell p;have⟨v,x⟩:=aD c g;clear c g;generalize q:l.getD k ByteArray.empty=y at *;have z:=Kz q;clear q;go_wp2
   go_roundw
   case rel=>
    refine⟨k+1,by omega,by go_num,Below.setCell f (OU _) _,⟨_,(aP v).set k (.string y)⟩,fun j n=>?_⟩;by_cases e:j=k
    ·subst e;rw[Qb _ _ _ t,aP z]
    ·rw[Pq _ _ _ _ (by simp <;> omega)];exact aP x j (by omega)
   case measure=>simp[intOf];omega
  ·go_wp2
   go_ret
   have:k=l.length:=by omega
   subst this;exact⟨w.heap.size,rfl,.inr ⟨w.heap.size,rfl,OU _,c.lt,⟨_,d,c⟩,g⟩,f⟩
theorem Fw(w:Qy)(a:Qx)(cap:Nat)(l:List aT)(I:l.length<=1048576)
  (A:dw w a l):
  Calls prog 193 #[.slice a l.length cap] w fun e w'=>∃b,e= .returned (.slice (some ⟨b,0,none⟩) l.length l.length)/\dM w' w.heap.size w'.heap.size (some ⟨b,0,none⟩) l/\K_ w w':=by
 have B:=dJ (P:=prog) 170 212 _ _ _ underlying170 Tryz.ED .i64 .i64 l.length (by omega) (by omega);go_enter func193,ntmps193
 go_wp2
 clear B;have n:=Row.made w (madeCells #[.string ByteArray.empty,.int .i64 0] (l.length*2)) 212;rw[size_madeCells] at n;have s:K_ w (w.alloc (.cells (madeCells #[.string ByteArray.empty,.int .i64 0] (l.length*2)) 212)):=ak _ _;go_loopw [4] (fun i wr=>∃k:Nat,k<=l.length/\i= .int .i64 k/\K_ w wr/\Row wr w.heap.size (l.length*2)/\∀j,j<k->wr.rangeAt w.heap.size (j*2) (l.getD j aT.zero).cells) (fun i _=>l.length-(intOf i).toNat)
 case atStart=>exact⟨0,OW _,rfl,s,n,fun j f=>aB f⟩
 case round=>
  obtain⟨k,J,rfl,g,d,p⟩:=hrel;clear n s;by_cases C:k<l.length
  ·obtain⟨b,o,rfl,K,q⟩:=A.kept g k C;have t:=Kz p;clear p;generalize v:l.getD k aT.zero=c at *;have D:=Kz v;clear v;have x:=q 0 _ rfl;have E:=q 1 _ rfl;simp only[PR] at x;clear q;go_wp2_with fail
   refine (yu _ c).mono ?_;rintro e y ⟨rfl,h⟩;have F:=g.trans h;have r:=d.kept h;have z:=r.there (o:=k*2) (m:=2) (by omega);have G:Hid (Row y w.heap.size (l.length*2)):=r;have H:Hid (∀j,j<k->y.rangeAt w.heap.size (j*2) (l.getD j aT.zero).cells):=fun j f=>h.range d.lt (t.o j f)
   clear t x E g h d r;go_wp2_with (refine wpList_store_mid rfl 212 _ _ rfl w.heap.size (k*2) #[.string c.text,.int .i64 c.goto] rfl rfl z Tryz.EI (aT.one c) ?_)
   go_roundw
   case rel=>
    refine⟨k+1,by omega,by go_num,K_.setCells (OU _) _ _ F,Row.setCells _ _ G.o,fun j f=>?_⟩;by_cases e:j=k
    ·subst e;rw[aP D];exact OY _ _ _ _ z
    ·exact Pm (H.o j (by omega)) _ _ _ (by simp[aT.cells];omega)
   case measure=>simp[intOf];omega
  ·go_wp2
   go_ret
   have:k=l.length:=by omega
   subst this;exact⟨w.heap.size,rfl,.inr ⟨w.heap.size,rfl,OU _,d.lt,d,p⟩,g⟩
theorem Jp(w:Qy)(s:Xq)(h i:Qx)(ca cc:Nat)(q:s.asks.length<=1048576)(h2:s.cases.length<=1048576)(r:Strs w h s.asks)(t:dw w i s.cases):
  Calls prog 172 #[.agg #[.slice h s.asks.length ca,.int .i64 s.on,.slice i s.cases.length cc,.int .i64 s.els,.int .i64 s.fall,.bool s.fin,.bool s.bad,.string s.give]] w fun e w'=>∃a b mid hi,e= .returned (.agg (s.cells (some ⟨a,0,none⟩) s.asks.length (some ⟨b,0,none⟩) s.cases.length).toArray)/\(cZ w' w.heap.size mid (some ⟨a,0,none⟩) s.asks/\dM w' mid hi (some ⟨b,0,none⟩) s.cases/\w.heap.size<=mid/\mid<=hi/\hi<=w'.heap.size)/\K_ w w':=by
 go_enter func172,ntmps172
 go_wp2_with fail
 refine (sH _ _ _ _ q (r.kept (by repeat (first | apply K_.alloc | exact K_.refl _)))).mono ?_;rintro e c ⟨a,rfl,j,f⟩;obtain⟨F,G⟩:=f.rules;have v:=f.size;simp only[PL] at j v;have l:Row c (w.heap.size+1) 8:=Row.kept (Row.alloc (by have:=Row.made (w.alloc (.cells #[.slice h s.asks.length ca,.int .i64 s.on,.slice i s.cases.length cc,.int .i64 s.els,.int .i64 s.fall,.bool s.fin,.bool s.bad,.string s.give] 242)) #[.slice none 0 0,.int .i64 0,.slice none 0 0,.int .i64 0,.int .i64 0,.bool false,.bool false,.string ⟨#[]⟩] 172;simpa using this) _) f;have k:K_ w c:=K_.trans (by repeat (first | apply K_.alloc | exact K_.refl _)) f;clear f;go_wp2_with fail
 refine (Fw _ _ _ _ h2 (t.kept (by repeat (first | (refine K_.setCell ?_ (by simp <;> omega) _) | exact k)))).mono ?_;rintro e g ⟨b,rfl,n,d⟩;obtain⟨x,y⟩:=d.rules;have z:=d.size;simp only[size_setCell] at n z x y;have A:K_ w g:=K_.trans (by repeat (first | (refine K_.setCell ?_ (by simp <;> omega) _) | exact k)) d;have B:=((j.setCell (p:=⟨w.heap.size+1+1,0,none⟩) (by simp <;> omega) (.slice (some ⟨a,0,none⟩) s.asks.length s.asks.length)).setCell (p:=⟨w.heap.size+1+1,1,none⟩) (by simp <;> omega) (.int .i64 s.on)).same (d.same _ _);have C:Hid (Row g (w.heap.size+1) 8):=Row.kept (by repeat (first | refine Row.set ?_ _ rfl _ | exact l)) d;clear d k j l;have H:w.heap.size<c.heap.size:=by omega
 have I:w.heap.size+1<c.heap.size:=by omega
 have J:w.heap.size+1+1<c.heap.size:=by omega
 go_wp2
 have D:Row ((((((g.setCell ⟨w.heap.size+1+1,2,none⟩ (.slice (some ⟨b,0,none⟩) s.cases.length s.cases.length)).setCell ⟨w.heap.size+1+1,3,none⟩ (.int .i64 s.els)).setCell ⟨w.heap.size+1+1,4,none⟩ (.int .i64 s.fall)).setCell ⟨w.heap.size+1+1,5,none⟩ (.bool s.fin)).setCell ⟨w.heap.size+1+1,6,none⟩ (.bool s.bad)).setCell ⟨w.heap.size+1+1,7,none⟩ (.string s.give)) (w.heap.size+1) 8:=by
  repeat (first | refine Row.set ?_ _ rfl _ | exact C.o)
 have E:=OY _ (w.heap.size+1) 0 (s.cells (some ⟨a,0,none⟩) s.asks.length (some ⟨b,0,none⟩) s.cases.length) (D.there (o:=0) (m:=8) (OU _));refine Zx (s.cells (some ⟨a,0,none⟩) s.asks.length (some ⟨b,0,none⟩) s.cases.length) _ results172 rfl E underlying172 rfl Tryz.tF rfl ⟨a,b,c.heap.size,g.heap.size,rfl,⟨cZ.mono (lo:=w.heap.size+1+1+1) ?_ (by omega) (OU _), ?_,by omega,by omega,by simp⟩, ?_⟩
 ·repeat (first | (refine cZ.setCell ?_ (by simp <;> omega) _) | exact B)
 ·repeat (first | (refine dM.setCell ?_ (by simp <;> omega) _) | exact n)
 ·repeat (first | (refine K_.setCell ?_ (by simp <;> omega) _) | exact A)
def cutAt(c:Nat->Nat)(k z t:Nat):Nat:=if t<=k then c t else z
theorem gU{c:Nat->Nat}{k z t:Nat}(h:t<=k):cutAt c k z t=c t:=by simp[cutAt,h]
theorem lL{c:Nat->Nat}{k z t:Nat}(h:k<t):cutAt c k z t=z:=by simp[cutAt];omega
theorem yG{c:Nat->Nat}{k z:Nat}(h:∀i j,i<=j->c i<=c j)(e:c k<=z):∀i j,i<=j->cutAt c k z i<=cutAt c k z j:=by
 intro i j f;by_cases b:i<=k
 ·by_cases g:j<=k
  ·rw[gU b,gU g];exact h i j f
  ·rw[gU b,lL (by omega)];exact OX (h i k b) e
 ·rw[lL (by omega),lL (by omega)];exact OU _
theorem jB.kept{w':Qy}{B j:Nat}{s:Xq}(h:jB w B j lo hi s)(k:K_ w w')(c:B<w.heap.size):jB w' B j lo hi s:=
 h.same (k.same _ _) (rangeAt_of_block (k.block B c) _)
theorem jB.setCells{B j o:Nat}{s:Xq}{vs:List QA}(h:jB w B j lo hi s)(a:B<lo)(b:j*8+8<=o\/o+vs.length<=j*8):jB (w.setCells B o vs) B j lo hi s:=by
 obtain⟨c,d,e,f,mid,g,i,k,l,m,n⟩:=h;exact⟨c,d,e,f,mid,g,i,Pm k _ _ _ (by right;simpa[Xq.cells] using b),l.same (Same.setCells (.inl a) _ _ _),m.same (Same.setCells (.inl (by omega)) _ _ _),n⟩
theorem mH.kept{w':Qy}{B j:Nat}{d:Qz}(h:mH w B j lo hi d)(k:K_ w w')(b:B<w.heap.size):mH w' B j lo hi d:=by
 obtain⟨a,c,e,f⟩:=h;exact⟨a,c,k.range b e,f.same (k.same _ _)⟩
theorem mH.setCells{B j o:Nat}{d:Qz}{vs:List QA}(h:mH w B j lo hi d)(b:B<lo)(c:j*3+3<=o\/o+vs.length<=j*3):mH (w.setCells B o vs) B j lo hi d:=by
 obtain⟨a,e,f,g⟩:=h;exact⟨a,e,Pm f _ _ _ (by right;simpa[Qz.cells] using c),g.same (Same.setCells (.inl b) _ _ _)⟩
theorem FH(w:Qy)(a:Qx)(cap:Nat)(l:List Xq)(hl:l.length<=1048576)(p:∀s∈l,s.asks.length<=1048576/\s.cases.length<=1048576)
  (N:Steps w a l):
  Calls prog 142 #[.slice a l.length cap] w fun e w'=>∃b,e= .returned (.slice (some ⟨b,0,none⟩) l.length l.length)/\StepsIn w' w.heap.size w'.heap.size (some ⟨b,0,none⟩) l/\K_ w w':=by
 have O:=dJ (P:=prog) 86 172 _ _ _ underlying86 Tryz.EG .i64 .i64 l.length (by omega) (by omega);go_enter func142,ntmps142
 go_wp2
 clear O;have z:=Row.made w (madeCells #[.slice none 0 0,.int .i64 0,.slice none 0 0,.int .i64 0,.int .i64 0,.bool false,.bool false,.string ⟨#[]⟩] (l.length*8)) 172;rw[size_madeCells] at z;have C:K_ w (w.alloc (.cells (madeCells #[.slice none 0 0,.int .i64 0,.slice none 0 0,.int .i64 0,.int .i64 0,.bool false,.bool false,.string ⟨#[]⟩] (l.length*8)) 172)):=ak _ _;go_loopw [4] (fun i wr=>∃k:Nat,k<=l.length/\i= .int .i64 k/\K_ w wr/\Row wr w.heap.size (l.length*8)/\∃c:Nat->Nat,w.heap.size<c 0/\c k<=wr.heap.size/\(∀i j,i<=j->c i<=c j)/\∀j,j<k->jB wr w.heap.size j (c j) (c (j+1)) (l.getD j Xq.zero)) (fun i _=>l.length-(intOf i).toNat)
 case atStart=>exact⟨0,OW _,rfl,C,z,fun _=>w.heap.size+1,Px _,by simp,fun _ _ _=>OU _,fun j q=>aB q⟩
 case round=>
  obtain⟨k,hk,rfl,r,h,c,t,D,f,A⟩:=hrel;have E:=Kz f;clear f;clear z C;by_cases F:k<l.length
  ·obtain⟨b,o,g,rfl,hb,d,Q,R,S,T,rfl,G,H,a7⟩:=N.kept r k F;have I:=p (l.getD k Xq.zero) (by simp[List.getD,F]);have J:=Kz A;clear A;generalize p:l.getD k Xq.zero=s at *;have U:=Kz p;clear p;have K:=d 0 _ rfl;have V:=d 1 _ rfl;have W:=d 2 _ rfl;have X:=d 3 _ rfl;have Y:=d 4 _ rfl;have Z:=d 5 _ rfl;have c6:=d 6 _ rfl;have c7:=d 7 _ rfl;simp only[PR] at K;clear d;go_wp2_with fail
   refine (Jp _ s Q S R T I.1 I.2 G H).mono ?_;rintro e v ⟨b1,b2,mid,hi,rfl,⟨g1,g2,g3,g4,g5⟩,n⟩;have a8:=n.size;have a9:=h.lt;have a0:=r.trans n;have B:=h.kept n;generalize x:s.cells (some ⟨b1,0,none⟩) s.asks.length (some ⟨b2,0,none⟩) s.cases.length=g;have y:g.length=8:=by rw[<-x];rfl
   have a1:g.toArray.all (·.oneCell')=true:=by rw[<-x];exact Xq.one s _ _ _ _
   have L:v.there w.heap.size (k*8) g.toArray.size:=by simpa[y] using B.there (o:=k*8) (m:=8) (by omega)
   have M:(prog.info? 172).map (·.size)=some g.toArray.size:=by rw[Tryz.tF];simp[y]
   have⟨a2,a3,a4⟩:=bA x y M;clear x y M;have HR:Hid (Row v w.heap.size (l.length*8)):=B;have a5:Hid (∀j,j<k->jB v w.heap.size j (c j) (c (j+1)) (l.getD j Xq.zero)):=fun j q=>(J.o j q).kept n h.lt
   clear J K V W X Y Z c6 c7 r n h B G H;go_wp2_with (refine wpList_store_mid rfl 172 _ _ rfl w.heap.size (k*8) g.toArray rfl rfl L (aP a4) a1 ?_)
   go_roundw
   case rel=>
    have f:=E.o;refine⟨k+1,by omega,by go_num,K_.setCells (OU _) _ _ a0,Row.setCells _ _ HR.o,cutAt c k v.heap.size,by rw[gU (OW _)];exact t,by rw[lL (by omega),size_setCells];exact OU _,yG f (by omega),fun j q=>?_⟩;by_cases e:j=k
    ·subst e;rw[aP U,gU (OU _),lL (by omega)];have a6:w.heap.size<c j:=OV t (f 0 j (OW _));exact⟨_,_,_,_,mid,by omega,by omega,by rw[a2.o];exact OY _ _ _ _ (by simpa using L),(g1.mono D (OU _)).same (Same.setCells (.inl a6) _ _ _),(g2.mono (OU _) g5).same (Same.setCells (.inl (by omega)) _ _ _),OU _⟩
    ·rw[gU (by omega),gU (by omega)];exact (a5.o j (by omega)).setCells (OV t (f 0 j (OW _))) (by rw[a3.o];omega)
   case measure=>simp[intOf];omega
  ·go_wp2
   go_ret
   have:k=l.length:=by omega
   subst this;exact⟨w.heap.size,rfl,.inr ⟨w.heap.size,c,rfl,OU _,t,D,h,E.o,A⟩,r⟩
theorem Eu(w:Qy)(cost:Int)(a:Qx)(cap:Nat)(l:List Xq)(h:l.length<=1048576)(i:∀s∈l,s.asks.length<=1048576/\s.cases.length<=1048576)
  (j:Steps w a l):
  Calls prog 104 #[.agg #[.int .i64 cost,.slice a l.length cap]] w fun e w'=>∃b,e= .returned (.agg #[.int .i64 cost,.slice (some ⟨b,0,none⟩) l.length l.length])/\StepsIn w' w.heap.size w'.heap.size (some ⟨b,0,none⟩) l/\K_ w w':=by
 go_enter func104,ntmps104
 go_wp2_with fail
 refine (FH _ a cap l h i (j.kept (by repeat (first | apply K_.alloc | exact K_.refl _)))).mono ?_;rintro e d ⟨b,rfl,f,c⟩;obtain⟨t,v⟩:=c.rules;have k:=c.size;simp only[PL] at f k;have n:K_ w d:=K_.trans (by repeat (first | apply K_.alloc | exact K_.refl _)) c;have g:Row d (w.heap.size+1) 2:=Row.kept (Row.alloc (by have:=Row.made (w.alloc (.cells #[.int .i64 cost,.slice a l.length cap] 82)) #[.int .i64 0,.slice none 0 0] 88;simpa using this) _) c;have p:=Kz g;clear c g;go_wp2
 have q:Row (d.setCell ⟨w.heap.size+1+1,1,none⟩ (.slice (some ⟨b,0,none⟩) l.length l.length)) (w.heap.size+1) 2:=Row.set p.o _ rfl _;have r:=OY _ (w.heap.size+1) 0 [.int .i64 cost,.slice (some ⟨b,0,none⟩) l.length l.length] (q.there (o:=0) (m:=2) (OU _));refine Zx [.int .i64 cost,.slice (some ⟨b,0,none⟩) l.length l.length] _ results104 rfl r underlying88 rfl Tryz.y_ rfl ⟨b,rfl,StepsIn.mono (lo:=w.heap.size+1+1+1) (hi:=d.heap.size) ?_ (by omega) (by simp), ?_⟩
 ·repeat (first | (refine StepsIn.setCell ?_ (by simp <;> omega) _) | exact f)
 ·repeat (first | (refine K_.setCell ?_ (by simp <;> omega) _) | exact n)
theorem Jn(w:Qy)(d:Qz)(a:Qx)(cap:Nat)(i:d.steps.length<=1048576)(j:∀s∈d.steps,s.asks.length<=1048576/\s.cases.length<=1048576)(k:Steps w a d.steps):
  Calls prog 59 #[.agg #[.string d.name,.int .i64 d.cost,.slice a d.steps.length cap]] w fun e w'=>∃b,e= .returned (.agg (d.cells (some ⟨b,0,none⟩) d.steps.length).toArray)/\StepsIn w' w.heap.size w'.heap.size (some ⟨b,0,none⟩) d.steps/\K_ w w':=by
 go_enter func59,ntmps59
 go_wp2_with fail
 refine (Eu _ d.cost a cap d.steps i j (k.kept (by repeat (first | apply K_.alloc | exact K_.refl _)))).mono ?_;rintro e f ⟨b,rfl,g,c⟩;obtain⟨t,v⟩:=c.rules;have l:=c.size;simp only[PL] at g l;have n:K_ w f:=K_.trans (by repeat (first | apply K_.alloc | exact K_.refl _)) c;have h:Row f (w.heap.size+1) 3:=Row.kept (Row.alloc (by have:=Row.made (w.alloc (.cells #[.string d.name,.int .i64 d.cost,.slice a d.steps.length cap] 84)) #[.string ⟨#[]⟩,.int .i64 0,.slice none 0 0] 90;simpa using this) _) c;have p:=Kz h;clear c h;go_wp2
 have q:Row ((f.setCell ⟨w.heap.size+1+1,1,none⟩ (.int .i64 d.cost)).setCell ⟨w.heap.size+1+1,2,none⟩ (.slice (some ⟨b,0,none⟩) d.steps.length d.steps.length)) (w.heap.size+1) 3:=Row.set (Row.set p.o _ rfl _) _ rfl _;have r:=OY _ (w.heap.size+1) 0 (d.cells (some ⟨b,0,none⟩) d.steps.length) (q.there (o:=0) (m:=3) (OU _));refine Zx (d.cells (some ⟨b,0,none⟩) d.steps.length) _ results59 rfl r underlying90 rfl Tryz.tO rfl ⟨b,rfl,StepsIn.mono (lo:=w.heap.size+1+1+1) (hi:=f.heap.size) ?_ (by omega) (by simp), ?_⟩
 ·repeat (first | (refine StepsIn.setCell ?_ (by simp <;> omega) _) | exact g)
 ·repeat (first | (refine K_.setCell ?_ (by simp <;> omega) _) | exact n)
theorem Fv(w:Qy)(a:Qx)(cap:Nat)(l:List Qz)(hl:l.length<=1048576)(n:∀s∈l,s.steps.length<=1048576/\∀x∈s.steps,x.asks.length<=1048576/\x.cases.length<=1048576)
  (N:bJ w a l):
  Calls prog 27 #[.slice a l.length cap] w fun e w'=>∃b,e= .returned (.slice (some ⟨b,0,none⟩) l.length l.length)/\ed w' w.heap.size w'.heap.size (some ⟨b,0,none⟩) l/\K_ w w':=by
 have O:=dJ (P:=prog) 35 90 _ _ _ underlying35 Tryz.EA .i64 .i64 l.length (by omega) (by omega);go_enter func27,ntmps27
 go_wp2
 clear O;have A:=Row.made w (madeCells #[.string ⟨#[]⟩,.int .i64 0,.slice none 0 0] (l.length*3)) 90;rw[size_madeCells] at A;have D:K_ w (w.alloc (.cells (madeCells #[.string ⟨#[]⟩,.int .i64 0,.slice none 0 0] (l.length*3)) 90)):=ak _ _;go_loopw [4] (fun i wr=>∃k:Nat,k<=l.length/\i= .int .i64 k/\K_ w wr/\Row wr w.heap.size (l.length*3)/\∃c:Nat->Nat,w.heap.size<c 0/\c k<=wr.heap.size/\(∀i j,i<=j->c i<=c j)/\∀j,j<k->mH wr w.heap.size j (c j) (c (j+1)) (l.getD j Qz.zero)) (fun i _=>l.length-(intOf i).toNat)
 case atStart=>exact⟨0,OW _,rfl,D,A,fun _=>w.heap.size+1,Px _,by simp,fun _ _ _=>OU _,fun j p=>aB p⟩
 case round=>
  obtain⟨k,hk,rfl,q,g,c,r,E,d,B⟩:=hrel;have F:=Kz d;clear d;clear A D;by_cases G:k<l.length
  ·obtain⟨b,o,f,rfl,hb,t,Q,R,rfl,H⟩:=N.kept q k G;have I:=n (l.getD k Qz.zero) (by simp[List.getD,G]);have J:=Kz B;clear B;generalize n:l.getD k Qz.zero=s at *;have S:=Kz n;clear n;have K:=t 0 _ rfl;have T:=t 1 _ rfl;have U:=t 2 _ rfl;simp only[PR] at K;clear t;go_wp2_with fail
   refine (Jn _ s Q R I.1 I.2 H).mono ?_;rintro e v ⟨V,rfl,W,h⟩;have a4:=h.size;have a5:=g.lt;have X:=q.trans h;have C:=g.kept h;generalize y:s.cells (some ⟨V,0,none⟩) s.steps.length=f;have z:f.length=3:=by rw[<-y];rfl
   have Y:f.toArray.all (·.oneCell')=true:=by rw[<-y];exact Qz.one s _ _
   have L:v.there w.heap.size (k*3) f.toArray.size:=by simpa[z] using C.there (o:=k*3) (m:=3) (by omega)
   have M:(prog.info? 90).map (·.size)=some f.toArray.size:=by rw[Tryz.tO];simp[z]
   have⟨Z,a0,a1⟩:=bA y z M;clear y z M;have HR:Hid (Row v w.heap.size (l.length*3)):=C;have a2:Hid (∀j,j<k->mH v w.heap.size j (c j) (c (j+1)) (l.getD j Qz.zero)):=fun j p=>(J.o j p).kept h g.lt
   clear J K T U q h g C H;go_wp2_with (refine wpList_store_mid rfl 90 _ _ rfl w.heap.size (k*3) f.toArray rfl rfl L (aP a1) Y ?_)
   go_roundw
   case rel=>
    have d:=F.o;refine⟨k+1,by omega,by go_num,K_.setCells (OU _) _ _ X,Row.setCells _ _ HR.o,cutAt c k v.heap.size,by rw[gU (OW _)];exact r,by rw[lL (by omega),size_setCells];exact OU _,yG d (by omega),fun j p=>?_⟩;by_cases e:j=k
    ·subst e;rw[aP S,gU (OU _),lL (by omega)];have a3:w.heap.size<c j:=OV r (d 0 j (OW _));exact⟨_,_,by rw[Z.o];exact OY _ _ _ _ (by simpa using L),(W.mono E (OU _)).same (Same.setCells (.inl a3) _ _ _)⟩
    ·rw[gU (by omega),gU (by omega)];exact (a2.o j (by omega)).setCells (OV r (d 0 j (OW _))) (by rw[a0.o];omega)
   case measure=>simp[intOf];omega
  ·go_wp2
   go_ret
   have:k=l.length:=by omega
   subst this;exact⟨w.heap.size,rfl,.inr ⟨w.heap.size,c,rfl,OU _,r,E,g,F.o,B⟩,q⟩
theorem Lh(w:Qy)(a:Qx)(cap:Nat)(l:List Qz)(h:l.length<=1048576)(i:∀s∈l,s.steps.length<=1048576/\∀x∈s.steps,x.asks.length<=1048576/\x.cases.length<=1048576)(j:bJ w a l):
  Calls prog 7 #[.agg #[.slice a l.length cap]] w fun e w'=>∃b,e= .returned (.agg #[.slice (some ⟨b,0,none⟩) l.length l.length])/\ed w' w.heap.size w'.heap.size (some ⟨b,0,none⟩) l/\K_ w w':=by
 go_enter func7,ntmps7
 go_wp2_with fail
 refine (Fv _ a cap l h i (j.kept (by repeat (first | apply K_.alloc | exact K_.refl _)))).mono ?_;rintro e d ⟨b,rfl,f,c⟩;obtain⟨t,v⟩:=c.rules;have k:=c.size;simp only[PL] at f k;have n:K_ w d:=K_.trans (by repeat (first | apply K_.alloc | exact K_.refl _)) c;have g:Row d (w.heap.size+1) 1:=Row.kept (Row.alloc (by have:=Row.made (w.alloc (.cells #[.slice a l.length cap] 24)) #[.slice none 0 0] 37;simpa using this) _) c;have p:=Kz g;clear c g;go_wp2
 have q:Row (d.setCell ⟨w.heap.size+1+1,0,none⟩ (.slice (some ⟨b,0,none⟩) l.length l.length)) (w.heap.size+1) 1:=Row.set p.o _ rfl _;have r:=OY _ (w.heap.size+1) 0 [.slice (some ⟨b,0,none⟩) l.length l.length] (q.there (o:=0) (m:=1) (OU _));refine Zx [.slice (some ⟨b,0,none⟩) l.length l.length] _ results7 rfl r underlying37 rfl Tryz.Im rfl ⟨b,rfl,ed.mono (lo:=w.heap.size+1+1+1) (hi:=d.heap.size) ?_ (by omega) (by simp), ?_⟩
 ·repeat (first | (refine ed.setCell ?_ (by simp <;> omega) _) | exact f)
 ·repeat (first | (refine K_.setCell ?_ (by simp <;> omega) _) | exact n)
theorem qw(w:Qy)(s:Qw)(b:s.size<=1048576):Calls prog 127 #[.string s] w fun e w'=>e= .returned (.string s)/\K_ w w':=by
 go_enter func127,ntmps127
 go_wp2_with fail
 refine (Tryz.stringslite_Clone s _ (by omega)).mono ?_;rintro e c ⟨rfl,a⟩;go_wp2
 go_ret
 exact⟨rfl,a⟩
theorem C_(w:Qy)(a:Qx)(cap:Nat)(l:List Qw)(L:l.length<=1048576)(z:∀s∈l,s.size<=1048576)(A:Strs w a l):
  Calls prog 165 #[.slice a l.length cap,.func (.func 127) #[] #[]] w fun e w'=>∃a',e= .returned (.slice a' l.length l.length)/\cZ w' w.heap.size w'.heap.size a' l/\K_ w w':=by
 by_cases q:l.length=0
 ·have B:l=[]:=Qo q;subst B;go_enter func165,ntmps165
  go_wp2
  go_ret
  exact⟨none,rfl,.inl rfl,K_.refl _⟩
 ·have C:=run_make_row' (P:=prog) 25 9 _ _ underlying25 Tryz.wP rfl .i64 .i64 l.length (by omega) (by omega);have D:((l.length:Int) == 0)=false:=by simpa using q
  go_enter func165,ntmps165
  go_wp2
  clear C D;have r:Row (w.alloc (.cells (madeCells #[.string ByteArray.empty] l.length) 9)) w.heap.size l.length:=⟨_,_,World.rowIs_made w (.string ByteArray.empty) l.length 9⟩;have t:K_ w (w.alloc (.cells (madeCells #[.string ByteArray.empty] l.length) 9)):=Below.alloc (Below.refl _ _) (OU _) _;go_loopw [16] (fun i wr=>∃k:Nat,k<=l.length/\i= .int .i64 k/\K_ w wr/\Row wr w.heap.size l.length/\∀j,j<k->wr.cell? ⟨w.heap.size,j,none⟩=some (.string (l.getD j ByteArray.empty))) (fun i _=>l.length-(intOf i).toNat)
  case atStart=>exact⟨0,OW _,rfl,t,r,fun j d=>aB d⟩
  case round=>
   obtain⟨k,M,rfl,f,c,v⟩:=hrel;clear r t;have h:=Kz v;by_cases m:k<l.length
   ·obtain⟨b,o,rfl,N,x⟩:=A.kept f k m;have y:=z (l.getD k ByteArray.empty) (by simp[List.getD,m]);obtain⟨s,n⟩:=ag (l.getD k ByteArray.empty);rw[<-n] at x y;have E:=Kz n;clear n v;have F:=c.lt;go_wp2_with fail
    refine (qw _ s y).mono ?_;rintro e G ⟨rfl,g⟩;have p:=c.kept g;have H:=Kz p;have I:Hid (∀j,j<k->G.cell? ⟨w.heap.size,j,none⟩=some (.string (l.getD j ByteArray.empty))):=fun j d=>by rw[g.cell F];exact h.o j d
    obtain⟨⟨old,J⟩,O⟩:=p.at m;have K:=f.trans g;clear h c p f g x;go_wp2
    go_roundw
    case rel=>
     refine⟨k+1,by omega,by go_num,K.setCell (OU _) _,H.o.set _ rfl _,fun j d=>?_⟩;by_cases e:j=k
     ·subst e;rw[Qb _ _ _ J,E.o]
     ·rw[Pq _ _ _ _ (by simp <;> omega)];exact I.o j (by omega)
    case measure=>simp[intOf];omega
   ·have:k=l.length:=by omega
    subst this;go_wp2
    go_ret
    exact⟨_,rfl,.inr ⟨w.heap.size,rfl,OU _,c.lt,c,h.o⟩,f⟩
theorem Tryz.ze :(prog.info? 116).map (·.size)=some 4:=by kernel_rfl
theorem Tryz.rP :(prog.info? 116).map (fun i=>(i.zero,i.size,i.bytes))=some (some (.agg #[.string ByteArray.empty,.bool false,.bool false,.string ByteArray.empty]),4,40):=by kernel_rfl
theorem dh.one(r:dh):(#[.string r.name,.bool r.over,.bool r.fail,.string r.text]:Array QA).all (·.oneCell')=true:=
 all_oneCell_toArray (cs:=[.string r.name,.bool r.over,.bool r.fail,.string r.text]) (by simp[Value.oneCell'])
theorem xy(w:Qy)(r:dh)(y:r.name.size<=1048576)(z:r.text.size<=1048576):
  Calls prog 129 #[.agg #[.string r.name,.bool r.over,.bool r.fail,.string r.text]] w fun e w'=>e= .returned (.agg #[.string r.name,.bool r.over,.bool r.fail,.string r.text])/\K_ w w':=by
 go_enter func129,ntmps129
 go_wp2_with fail
 refine (qw _ r.name y).mono ?_;rintro e a ⟨rfl,b⟩;have h:Row a w.heap.size 4:=Row.kept (Row.alloc (by have:=Row.made w #[.string r.name,.bool r.over,.bool r.fail,.string r.text] 116;simpa using this) _) b;have A:a.cell? ⟨w.heap.size,0,none⟩=some (.string r.name):=by rw[b.cell (by simp <;> omega)];simp
 have p:a.cell? ⟨w.heap.size,1,none⟩=some (.bool r.over):=by rw[b.cell (by simp <;> omega)];simp
 have q:a.cell? ⟨w.heap.size,2,none⟩=some (.bool r.fail):=by rw[b.cell (by simp <;> omega)];simp
 have s:a.cell? ⟨w.heap.size,3,none⟩=some (.string r.text):=by rw[b.cell (by simp <;> omega)];simp
 have t:Row a (w.heap.size+1) 4:=Row.kept (by have:=Row.made (w.alloc (.cells #[.string r.name,.bool r.over,.bool r.fail,.string r.text] 116)) #[.string ⟨#[]⟩,.bool false,.bool false,.string ⟨#[]⟩] 116;simpa using this) b;have v:K_ w a:=K_.trans (by repeat (first | apply K_.alloc | exact K_.refl _)) b;have B:=(h.at (i:=0) (by omega)).2;have C:=h.lt;have⟨k,x⟩:=aD h t;have j:=Kz (And.intro p (And.intro q s));clear b t h p q;go_wp2_with fail
 have l:Row (a.setCell ⟨w.heap.size,0,none⟩ (.string r.name)) w.heap.size 4:=k.o.set _ rfl _;refine (qw _ r.text z).mono ?_;rintro e d ⟨rfl,c⟩;have f:=l.lt;have n:=l.kept c;have H:d.cell? ⟨w.heap.size,0,none⟩=some (.string r.name):=by rw[c.cell f];exact bH k.o (by omega) _
 have I:d.cell? ⟨w.heap.size,1,none⟩=some (.bool r.over):=by rw[c.cell f,Xk (by omega)];exact j.o.1
 have J:d.cell? ⟨w.heap.size,2,none⟩=some (.bool r.fail):=by rw[c.cell f,Xk (by omega)];exact j.o.2.1
 have K:d.cell? ⟨w.heap.size,3,none⟩=some (.string r.text):=by rw[c.cell f,Xk (by omega)];exact j.o.2.2
 have g:Hid (Row d (w.heap.size+1) 4):=(x.o.set _ rfl _).kept c;have D:Hid (K_ w d):=K_.trans (K_.setCell v (by simp) _) c;have L:=(n.at (i:=3) (by omega)).2;have M:=n.lt;obtain⟨⟨N,O⟩,P⟩:=g.o.at (i:=0) (by omega);obtain⟨⟨Q,R⟩,S⟩:=g.o.at (i:=1) (by omega);obtain⟨⟨T,U⟩,V⟩:=g.o.at (i:=2) (by omega);obtain⟨⟨W,X⟩,Y⟩:=g.o.at (i:=3) (by omega);clear c l f A s C B k x j v n;go_wp2
 have E:Row (d.setCell ⟨w.heap.size,3,none⟩ (.string r.text)) (w.heap.size+1) 4:=Row.set g.o _ rfl _;have F:=OY _ (w.heap.size+1) 0 r.cells (E.there (o:=0) (m:=4) (OU _));refine Zx r.cells _ results129 rfl F underlying116 rfl Tryz.ze rfl ⟨rfl, ?_⟩;have G:=D.o
 repeat (first | (refine K_.setCell ?_ (by simp <;> omega) _) | exact G)
theorem Dy(w:Qy)(a:Qx)(cap:Nat)(l:List dh)(V:l.length<=1048576)(F:∀c∈l,c.name.size<=1048576/\c.text.size<=1048576)(G:iY w a l):
  Calls prog 128 #[.slice a l.length cap,.func (.func 129) #[] #[]] w fun e w'=>∃a',e= .returned (.slice a' l.length l.length)/\fI w' w.heap.size w'.heap.size a' l/\K_ w w':=by
 by_cases z:l.length=0
 ·have H:l=[]:=Qo z;subst H;go_enter func128,ntmps128
  go_wp2
  go_ret
  exact⟨none,rfl,.inl rfl,K_.refl _⟩
 ·have I:=dJ (P:=prog) 29 116 _ _ _ underlying29 Tryz.rP .i64 .i64 l.length (by omega) (by omega);have J:((l.length:Int) == 0)=false:=by simpa using z
  go_enter func128,ntmps128
  go_wp2
  clear I J;have r:=Row.made w (madeCells #[.string ByteArray.empty,.bool false,.bool false,.string ByteArray.empty] (l.length*4)) 116;rw[size_madeCells] at r;have A:K_ w (w.alloc (.cells (madeCells #[.string ByteArray.empty,.bool false,.bool false,.string ByteArray.empty] (l.length*4)) 116)):=ak _ _;go_loopw [16] (fun s wr=>∃k:Nat,k<=l.length/\s= .int .i64 k/\K_ w wr/\Row wr w.heap.size (l.length*4)/\∀j,j<k->wr.rangeAt w.heap.size (j*4) (l.getD j dh.zero).cells) (fun s _=>l.length-(intOf s).toNat)
  case atStart=>exact⟨0,OW _,rfl,A,r,fun j g=>aB g⟩
  case round=>
   obtain⟨k,W,rfl,h,f,t⟩:=hrel;clear r A;by_cases B:k<l.length
   ·obtain⟨b,o,rfl,X,d⟩:=G.kept h k B;have i:=F (l.getD k dh.zero) (by simp[List.getD,B]);have C:=Kz t;clear t;obtain⟨c,v⟩:=ag (l.getD k dh.zero);rw[<-v] at d i;have K:=Kz v;clear v;have D:=d 0 _ rfl;have L:=d 1 _ rfl;have M:=d 2 _ rfl;have N:=d 3 _ rfl;simp only[PR] at D;clear d;have O:=f.lt;go_wp2_with fail
    refine (xy _ c i.1 i.2).mono ?_;rintro e n ⟨rfl,E⟩;have p:K_ wr n:=K_.trans (by repeat (first | (refine K_.setCell ?_ (by simp) _) | apply K_.alloc | exact K_.refl _)) E;have Q:=h.trans p;have x:=f.kept p;have y:=x.there (o:=k*4) (m:=4) (by omega);have⟨R,S⟩:=aD y x;have T:Hid (∀j,j<k->n.rangeAt w.heap.size (j*4) (l.getD j dh.zero).cells):=fun j g=>p.range O (C.o j g)
    clear C D L M N h E p f x;go_wp2_with (refine wpList_store_mid ?hgd 116 (.tmp 26) (.tmp 25) (by with_reducible rfl) w.heap.size (k*4) #[.string c.name,.bool c.over,.bool c.fail,.string c.text] ?hx ?hy ?ht ?hi ?h1 ?_)
    case hgd=>rfl
    case hx=>rfl
    case hy=>rfl
    case ht=>exact y
    case hi=>exact Tryz.ze
    case h1=>exact dh.one c
    generalize q:World.setCells n w.heap.size (k*4) (Array.toList #[.string c.name,.bool c.over,.bool c.fail,.string c.text])=Y;have U:=Kz q;clear q y i;go_wp2
    go_roundw
    case rel=>
     have q:=U.o;subst q;refine⟨k+1,by omega,by go_num,K_.setCells (OU _) c.cells (k*4) Q,Row.setCells c.cells (k*4) S.o,fun j g=>?_⟩;by_cases e:j=k
     ·subst e;rw[<-K.o];exact OY n w.heap.size (j*4) c.cells R.o
     ·exact Pm (T.o j (by omega)) w.heap.size (k*4) c.cells (by simp[dh.cells];omega)
    case measure=>simp[intOf];omega
   ·go_wp2
    go_ret
    have:k=l.length:=by omega
    subst this;exact⟨_,rfl,.inr ⟨w.heap.size,rfl,OU _,f.lt,f,t⟩,h⟩
theorem DJ(w:Qy)(r:dh):
  Calls prog 81 #[.agg #[.string r.name,.bool r.over,.bool r.fail,.string r.text]] w fun e w'=>e= .returned (.bool (!r.over))/\K_ w w':=by
 go_enter func81,ntmps81
 go_wp2
 go_ret
 exact⟨rfl,ak _ _⟩
theorem zt(w:Qy)(a:Qx)(cap:Nat)(l:List dh)(G:l.length<=1048576)(x:iY w a l):
  Calls prog 131 #[.slice a l.length cap,.func (.func 81) #[] #[]] w fun e w'=>(∃i:Int,e= .returned (.int .i64 i)/\(0<=i↔∃r∈l,r.over=false))/\K_ w w':=by
 go_enter func131,ntmps131
 go_wp2
 go_loopw [8] (fun i wr=>∃k:Nat,k<=l.length/\i= .int .i64 (k:Int)/\Hid (∀r∈l.take k,r.over=true)/\K_ w wr) (fun i _=>l.length-(intOf i).toNat)
 case atStart=>exact⟨0,OW _,rfl,Kz (fun r g=>by simp at g),K_.refl _⟩
 case round=>
  obtain⟨k,H,rfl,n,j⟩:=hrel;by_cases f:k<l.length
  ·obtain⟨b,o,rfl,I,d⟩:=x.kept j k f;obtain⟨c,m⟩:=ag (l.getD k dh.zero);rw[<-m] at d;have p:l[k]=c:=by rw[m];simp[List.getD,f]
   have q:=Kz p;have s:=d 0 _ rfl;have y:=d 1 _ rfl;have z:=d 2 _ rfl;have A:=d 3 _ rfl;simp only[PR] at s;have J:(k:Int)<(l.length:Int):=by omega
   clear d m p;go_wp2_with fail
   refine (DJ _ c).mono ?_;rintro e K ⟨rfl,B⟩;have t:=j.trans B;clear s y z A;cases v:c.over
   ·go_wp2
    go_ret
    exact⟨⟨_,rfl,fun _=>⟨c,by rw[<-q.o];exact Pf f,v⟩,fun _=>by omega⟩,t⟩
   ·have C:Hid (∀r∈l.take (k+1),r.over=true):=fun r g=>by
     rw[Pb f,q.o] at g;rcases Pe.1 g with h|h
     ·exact n.o r h
     ·rw[Pd] at h;rw[h];exact v
    go_wp2
    go_roundw
    case rel=>exact⟨k+1,by omega,by go_num,C,t⟩
    case measure=>simp[intOf];omega
  ·have L:¬((k:Int)<(l.length:Int)):=by omega
   have D:Hid (∀r∈l,r.over=true):=by have h:=n.o;rw[PG (by omega)] at h;exact h
   clear f;go_wp2
   go_ret
   exact⟨⟨_,rfl,fun h=>by omega,fun ⟨r,E,F⟩=>by have:=D.o r E;rw[F] at this;cases this⟩,j⟩
theorem xP(w:Qy)(a:Qx)(cap:Nat)(l:List dh)(g:l.length<=1048576)(h:iY w a l):
  Calls prog 80 #[.slice a l.length cap,.func (.func 81) #[] #[]] w fun e w'=>Says e (∃r∈l,r.over=false)/\K_ w w':=by
 go_enter func80,ntmps80
 go_wp2_with fail
 refine (zt w a cap l g h).mono ?_;rintro e k ⟨⟨i,rfl,b⟩,d⟩;cases f:decide ((0:Int)<=i)
 ·have c:Hid (¬∃r∈l,r.over=false):=fun j=>by have:=b.2 j;simp[this] at f
  clear b;go_wp2
  go_ret
  exact⟨Says.no c.o,d⟩
 ·have c:=Kz (b.1 (by simpa using f));clear b;go_wp2
  go_ret
  exact⟨Says.yes c.o,d⟩
