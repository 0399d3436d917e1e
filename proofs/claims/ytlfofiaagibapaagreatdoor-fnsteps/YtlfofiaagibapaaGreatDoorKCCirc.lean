import Derived.Test.YtlfofiaagibapaaGreatDoorKCRing
import Derived.Test.YtlfofiaagibapaaGreatDoorKVNeeds
import Derived.Deep.WholeRow
set_option maxRecDepth 100000
set_option maxHeartbeats 25600000
namespace Go.Proofs.YtlfofiaagibapaaGreatDoor
open Go.RowKit Go.Proofs.Tryz
variable {w:NN}
theorem uP{P:Program}{id:Nat}{d:Array Oper}{Q:Exit->Act->NN->Prop}{a:Act}(J:Act->Act->NN->Prop)(h:(Code.region id d true).wp P (λx b u=>x=.normal/\J a b u) a w)(i:∀b u,J a b u->Q .normal b u):(Code.region id d true).wp P Q a w:=wp_mono h λe b u c=>by
  obtain⟨rfl,c⟩:=c;exact i b u c
def jG(n:Nat):NP:=.a (n:Int)
variable {n:Nat}{F:Nat -> NP}{t:TypeId}
theorem gF{b:Nat}(h:w.rowIs b t n F):bA w b t:=by
 let⟨c,d,_⟩:=h;exact⟨c,_,d⟩
theorem gp{w':NN}{b:Nat}(h:w.rowIs b t n F)(k:w'.heap[b]? =w.heap[b]?):w'.rowIs b t n F:=by
 let⟨c,d,e⟩:=h;exact⟨c,k.trans d,e⟩
theorem fF{b:Nat}(h:w.rowIs b t n F):b<w.heap.size:=by
 let⟨d,c,_⟩:=h;exact aM c
theorem Gh{b:Nat}{G:Nat->NP}(h:w.rowIs b t n F)(e:∀p,p<n->G p=F p):w.rowIs b t n G:=by
 let⟨c,d,f,i⟩:=h;exact⟨c,d,f,λp a=>by rw[i p a,e p a]⟩
def t_(w:NN)(a:NM)(l:List Nat):Prop:=∀i,i<l.length->∃b o,a=some ⟨b,o,none⟩/\b<w.heap.size/\w.cell? ⟨b,o+i,none⟩=some (.a ((l.getD i 0:Nat):Int))
theorem t_.kept{w':NN}{a:NM}{l:List Nat}(h:t_ w a l)(k:K_ w w'):t_ w' a l:=λi c=>by
 let⟨d,o,e,b,f⟩:=h i c;exact⟨d,o,e,Mk b k.size,(k.cell b).trans f⟩
theorem xA{base:Nat}{v:NP}{l:List Nat}(h:w.ownsRow base t 1 v n (l.map jG))(f:n=l.length):∃a b,v=.slice a l.length b/\n<=b/\t_ w a l:=by
 obtain⟨a,b,rfl⟩:=aF h;refine⟨a,b,by rw[f],?_,λi d=>?_⟩
 .rcases h.2 with⟨e,c⟩|⟨_,_,_,e,_,_,c,_⟩
  .simp only[Nb] at e;omega
  .simp only[Nb] at e;omega
 .obtain⟨j,o,c,k,m⟩:=ed h i (by simpa using d);exact⟨j,o,c,k,by have:=m i (jG (l.getD i 0)) (by simp[List.getD,d]);exact this⟩
structure oO (w:NN)(base n:Nat)(blk:Bool->Nat)(g:Bool->Nat->NP)(L:Bool->Nat->List Nat):Prop where
 row:∀c,w.rowIs (blk c) 87 n (g c)
 ne:blk true≠blk false
 own:∀c p,w.ownsRow base 3 1 (g c p) (L c p).length ((L c p).map jG)
 sep:∀c p c' p',¬(c'=c/\p'=p)->∀x,(g c p).ownBlock=some x->(g c' p').ownBlock≠some x
section
variable {w w1 w':NN}{base n:Nat}{blk:Bool -> Nat}{g:Bool -> Nat -> NP}{L:Bool -> Nat -> List Nat}
theorem oO.but{S:Nat->Prop}(h:oO w base n blk g L)(k:But S w w')(d:∀c,¬S (blk c))(h2:∀c p b,(g c p).ownBlock=some b->¬S b):oO w' base n blk g L:=⟨λc=>gp (h.row c) (k.block _ (fF (h.row c)) (d c)),h.ne,λc p=>k.owns (h.own c p) (h2 c p),h.sep⟩
theorem oO.kept(h:oO w base n blk g L)(k:K_ w w'):oO w' base n blk g L:=h.but (S:=λ_=>False) (But.ax k) (λ_=>id) (λ_ _ _ _=>id)
theorem oO.put(h:oO w base n blk g L)(b:Bool)(p:Nat){d:NP}{x:Nat}(v:w1.ownsRow base 3 1 d ((L b p).length+1) ((L b p).map jG++[jG x]))(D:w.grownBy w1 (g b p).ownBlock)(E:∀y,d.ownBlock=some y->(g b p).ownBlock=some y\/w.heap.size<=y):oO (w1.setCell ⟨blk b,p,none⟩ d) base n blk (λc q=>if c=b/\q=p then d else g c q) (λc q=>if c=b/\q=p then L b p++[x] else L c q)/\But (λy=>(g b p).ownBlock=some y\/y=blk b) w (w1.setCell ⟨blk b,p,none⟩ d):=by
 have s:But (λy=>(g b p).ownBlock=some y) w w1:=But.aI D λy e=>e;have f:∀c,w1.rowIs (blk c) 87 n (g c):=λc=>gp (h.row c) (s.block _ (fF (h.row c)) λe=>aU (gF (h.row c)) (Y_ (h.own b p) e) E8 rfl)
 have k:But (λy=>y=blk b) w1 (w1.setCell ⟨blk b,p,none⟩ d):=But.set (S:=λy=>y=blk b) (But.ax (K_.refl w1)) (p:=⟨blk b,p,none⟩) rfl d;have z:∀c q,¬(c=b/\q=p)->w1.ownsRow base 3 1 (g c q) (L c q).length ((L c q).map jG):=λc q l=>s.owns (h.own c q) (λy e a=>h.sep c q b p (λA=>l ⟨A.1.symm,A.2.symm⟩) y e a)
 refine⟨⟨λc=>?_,h.ne,λc q=>?_,λc q m r l y i=>?_⟩,?_⟩
 .by_cases e:c=b
  .subst e;exact qB (f c) p d (λq I=>E9)
  .refine Gh (gp (f c) (k.block _ (fF (f c)) λa=>?_)) (λq _=>by simp[e]);have j:=h.ne;cases c<;>cases b<;>first|exact e rfl|exact j a|exact j a.symm
 .by_cases e:c=b/\q=p
  .simp only[Nz e,M_,ND,NG,List.map_cons,List.map_nil];exact k.owns v (λy t a=>aU (Y_ v t) (gF (f b)) E8 a)
  .simp only[NA e];exact k.owns (z c q e) λy t a=>aU (Y_ (z c q e) t) (gF (f b)) E8 a
 .have B:∀c q,¬(c=b/\q=p)->∀y,d.ownBlock=some y->(g c q).ownBlock≠some y:=λc q F y G C=>by
   rcases E y G with j|j
   .exact h.sep b p c q F y j C
   .have:=((h.own c q).lt y C).2;omega
  by_cases e:c=b/\q=p
  .simp only[Nz e] at i;have a:¬(m=b/\r=p):=λa=>l ⟨a.1.trans e.1.symm,a.2.trans e.2.symm⟩
   simp only[NA a];exact B m r a y i
  .simp only[NA e] at i;by_cases a:m=b/\r=p
   .simp only[Nz a];exact λH=>B c q e y H i
   .simp only[NA a];exact h.sep c q m r l y i
 .exact (s.mono λy _ e=>Or.inl e).trans (k.mono λy _ e=>Or.inr e)
end
structure uS (w:NN)(na:NM)(nm:List NL)(nb mb:Nat)(need back:Nat->List Nat):Prop where
 names:Strs w na nm
 nbl:nb<w.heap.size
 mbl:mb<w.heap.size
 fwd:∀p,p<nm.length->∃a c,w.cell? ⟨nb,p,none⟩=some (.slice a (need p).length c)/\t_ w a (need p)
 bwd:∀p,p<nm.length->∃a c,w.cell? ⟨mb,p,none⟩=some (.slice a (back p).length c)/\t_ w a (back p)
theorem uS.kept{w':NN}{f:NM}{i:List NL}{nb j:Nat}{l back:Nat->List Nat}(h:uS w f i nb j l back)(k:K_ w w'):uS w' f i nb j l back:=⟨h.names.kept k,Mk h.nbl k.size,Mk h.mbl k.size,λp b=>by
  let⟨a,c,d,e⟩:=h.fwd p b;exact⟨a,c,(k.cell h.nbl).trans d,e.kept k⟩,λp b=>by
  let⟨a,c,d,e⟩:=h.bwd p b;exact⟨a,c,(k.cell h.mbl).trans d,e.kept k⟩⟩
theorem oO.read{base:Nat}{blk:Bool->Nat}{g:Bool->Nat->NP}{L:Bool->Nat->List Nat}{e:NM}{b:List NL}(h:oO w base b.length blk g L)(i:Strs w e b):uS w e b (blk true) (blk false) (L true) (L false):=by
 have f:∀c p,p<b.length->∃a d,w.cell? ⟨blk c,p,none⟩=some (.slice a (L c p).length d)/\t_ w a (L c p):=λc p j=>by
  let⟨a,d,k,_,l⟩:=xA (h.own c p) rfl;exact⟨a,d,by rw[(h.row c).cell j,k],l⟩
 exact⟨i,fF (h.row true),fF (h.row false),f true,f false⟩
theorem Eg{l:List Nat}{p q:Nat->Bool}(h:∀x,q x=true->p x=true){s:Nat}(b:s∈l)(c:p s=true)(h2:q s=false):l.countP q+1<=l.countP p:=by
 induction l with
 |nil=>cases b
 |cons a l ih=>
  rw[List.countP_cons,List.countP_cons];rcases Nh.1 b with rfl|b
  .have:=List.countP_mono_left (l:=l) (p:=q) (q:=p) λx _=>h x;simp only[c,h2,if_true];simp;omega
  .have f:=ih b;have d:=h a;cases e:q a
   .simp;omega
   .simp[d e];omega
def unseen(A:Nat->Nat):Nat:=(List.range 60).countP (λp=>A p == 0)
theorem vQ{A:Nat->Nat}{s v:Nat}(c:s<60)(d:A s=0)(b:v≠0):unseen (λr=>if r=s then v else A r)+1<=unseen A:=by
 refine Eg (s:=s) (λx a=>?_) (List.mem_range.2 c) (by simp[d]) (by simp[b]);by_cases e:x=s
 .rw[e] at a;simp[b] at a
 .simpa[e] using a
theorem Dl{Q:List Nat}{s:Nat}(c:Q.Nodup)(d:∀p∈Q,p<60)(e:s<60)(f:s∉Q):Q.length<60:=by
 have h:(s :: Q).Nodup:=List.nodup_cons.2 ⟨f,c⟩;have:=List.Nodup.length_le_of_subset (l₂:=List.range 60) h (λx b=>by
  rcases Nh.1 b with rfl|b
  .exact List.mem_range.2 e
  .exact List.mem_range.2 (d x b))
 simp at this;omega
def jg(w:NN)(ab:Nat)(A:Nat->Nat):Prop:=w.rowIs ab 242 60 (λi=>jG (A i))
theorem jg.put{w:NN}{a:Nat}{A:Nat->Nat}(h:jg w a A)(i v:Nat):jg (w.setCell ⟨a,i,none⟩ (.a (v:Int))) a (λr=>if r=i then v else A r):=qB h i _ (λp _=>by by_cases e:p=i<;>simp[e,jG])
theorem mW.size{w:NN}{a:Nat}{Q:List Nat}(h:mW w a Q):w.cell? ⟨a,61,none⟩=some (.a (Q.length:Int)):=by
 let⟨V,f,_,_,d,_⟩:=h.ex;rw[d.cell E5]
 rfl
def oN(A:Nat->Nat):Array NP:=((List.range 60).map λi=>jG (A i)).toArray
structure IA (R:Nat->Nat->Prop)(t:Nat)(A:Nat->Nat)(size:Nat):Prop where
 no:size=0->∀n,¬lM R t n
 yes:size≠0->lM R t size/\∀r n,n+1<=size->(A r=n+1↔Far R t n r)
def Ki(R:Nat->Nat->Prop)(t:Nat)(w w':NN)(e:Ending):Prop:=∃(A:Nat->Nat)(size:Nat),e=.returned (.tuple #[.agg (oN A),.a (size:Int)])/\IA R t A size/\size<=60/\K_ w w'
theorem zG{w:NN}{c:Nat}{A:Nat->Nat}(h:jg w c A):w.rangeAt c 0 ((List.range 60).map λi=>jG (A i)):=λj v a=>by
 rw[List.getElem?_map] at a;by_cases b:j<60
 .rw[List.getElem?_range b] at a;simp only[Option.map_some,Na] at a;rw[MR,<-a];exact h.cell b
 .rw[List.getElem?_eq_none (by simpa using b)] at a;cases a
theorem Tryz.rP :(prog.info? 242).map (·.size)=some 60:=F4
theorem sF{P:Program}{e:Func}{R:Ending->NN->Prop}{a:Act}{w:NN}{p q:Tmp}{c:TypeId}{b:Nat}(cs:List NP)(d:TypeDesc)(v:NP)(h:e.results= #[.cell p c,.tmp q])(f:a.tmps.getD p undef=.c b)(i:w.rangeAt b 0 cs)(j:P.underlying c=some d)(k:d.isRow=true)(hi:(P.info? c).map (·.size)=some cs.length)(l:a.tmps.getD q undef=v)(m:a.defers=[])(n:R (.returned (.tuple #[.agg cs.toArray,v])) w):bodyPost P e R .ret a w:=by
 refine bodyPost_ret ?_ m n;have r:a.tmps[p]?.getD undef=.c b:=by simpa using f
 have s:a.tmps[q]?.getD undef=v:=by simpa using l
 simp only[results,h];simp[r,s,asAddr,run_loadVar_mid w b 0 c cs d i j k hi]
theorem gW(A:Nat->Nat):(oN A).size=60:=by simp[oN]
theorem uf(A:Nat->Nat):(oN A).all (·.oneCell')=true:=by simp[oN,jG,Value.oneCell']
theorem z60 :List.toArray (List.replicate 60 (Value.int .i64 0))=Array.replicate 60 (Value.int .i64 0):=rfl
theorem z62 :List.toArray (List.replicate 62 (Value.int .i64 0))=Array.replicate 62 (Value.int .i64 0):=rfl
theorem yC(w:NN)(T:NM)(nc:Nat)(a:List NL)(nb L:Nat)(c1 back:Nat->List Nat)(E:NL->NL->Prop)(c2:Nat)(t:Nat)(ht:t<a.length)(hn:a.length<=60)(hM:c2<=60000000)(hV:uS w T a nb L c1 back)(hR:CR E a c2 c1 back):Calls prog 193 #[.agg #[.slice T a.length nc,.b nb a.length a.length,.b L a.length a.length],.a (t:Int)] w λe w'=>Ki (dK E a) t w w' e:=by
 go_enter func193,ntmps193
 go_upto_region 1 with fail
 rw (transparency:=.default) [z60]
 go_step3
 go_upto_region 4 with fail
 rw (transparency:=.default) [z60,z62];obtain⟨f,J⟩:=aj (w.alloc (.cells #[.slice T a.length nc,.b nb a.length a.length,.b L a.length a.length] 187));have k1:K_ w f:=by rw[J];exact ah _ _
 have s2:f.cell? ⟨w.heap.size,2,none⟩=some (.b L a.length a.length):=by rw[J];exact X_ w #[.slice T a.length nc,.b nb a.length a.length,.b L a.length a.length] 187 2 _ rfl
 have z1:w.heap.size<f.heap.size:=by rw[J];simp
 have c3:w.heap.size+1=f.heap.size:=by rw[J];simp
 obtain⟨d,M⟩:=aj (f.alloc (.cells (Array.replicate 60 (.a 0)) 242));have k2:K_ f d:=by rw[M];exact ah _ _
 have a3:Hid (ay d f.heap.size 242 60):=by have h:=ay.made f (Array.replicate 60 (.a 0)) 242;rw[Array.size_replicate] at h;rw[M];exact h
 have e9:f.heap.size+1=d.heap.size:=by rw[M];simp
 obtain⟨z,N⟩:=aj (d.alloc (.cells (Array.replicate 60 (.a 0)) 242));have k3:K_ d z:=by rw[N];exact ah _ _
 have a4:jg z d.heap.size (λ_=>0):=by
  have h:=World.rowIs_alloc d (Array.replicate 60 (.a 0)) 242 (λ_=>jG 0) (λi B=>by simp at B;simp[jG,B]);rw[Array.size_replicate] at h;rw[N];exact h
 have f0:d.heap.size+1=z.heap.size:=by rw[N];simp
 obtain⟨C,U⟩:=aj (z.alloc (.cells (Array.replicate 62 (.a 0)) 272));have k4:K_ z C:=by rw[U];exact ah _ _
 have r4:mW C z.heap.size []:=by
  refine⟨λ_=>0,0,E5,E9,?_,λi B=>aO B⟩;have h:=World.rowIs_alloc z (Array.replicate 62 (.a 0)) 272 (oo (λ_=>0) 0 0) (λi B=>by simp at B;simp[oo,B]);rw[Array.size_replicate] at h;rw[U];exact h
 rw[<-J,<-M,<-N,<-U];obtain⟨c,c4⟩:=aj d.heap.size;obtain⟨j,c5⟩:=aj z.heap.size;have V:w.heap.size+1=f.heap.size:=c3;have c6:w.heap.size+1+1=c:=E5;have c7:w.heap.size+1+1+1=j:=E5;rw[c7,c6,V];rw[<-c4] at a4;rw[<-c5] at r4;have O:c≠j:=E5;have W:=Kz (ng a4 k4);have f1:=W.out.frozen t;have f2:=W.out.cell (show t<60 by omega);have h9:(t:Int)<60:=E5;have K4:=k3.trans k4;have c8:=Kz r4;have X:=Kz (jg.put W.out t 1);have a5:Hid (But (λb=>b=c\/b=j) C (C.setCell ⟨c,t,none⟩ (.a (1:Int)))):=But.set (S:=λb=>b=c\/b=j) (But.ax (K_.refl C)) (p:=⟨c,t,none⟩) (.inl rfl) _;have Y:=Kz (k1.trans k2);have f3:=Kz k2;have a6:=Kz (c8.o.block (w':=C.setCell ⟨c,t,none⟩ (.a (1:Int))) (Below.heap_setCell _ _ _ _ λe=>O (Eq.symm e)));have c9:Hid (d.heap.size<=c):=by show d.heap.size<=c;omega
 have Z:Hid (d.heap.size<=j):=by show d.heap.size<=j;omega
 have HZ:Hid (w.heap.size<d.heap.size/\f.heap.size<d.heap.size/\w.heap.size<f.heap.size):=⟨E5,E5,E5⟩;have f4:=Kz ((f3.o.cell z1).trans s2);obtain⟨b4,a7⟩:=aj f.heap.size;rw[<-a7] at a3 HZ⊢;have i0:=Kz a7;clear J M N U V c6 c7 a4 r4 k3 k4 k1 k2 f0 e9 c3 c4 c5 z1 s2 a7;go_upto_region 5 with fail
 have a8:Hid (K_ d (C.setCell ⟨c,t,none⟩ (.a (1:Int)))):=a5.o.kept K4 (λb e=>by rcases e with e|e<;>rw[e]<;>first|exact c9.o|exact Z.o);generalize f5:C.setCell ⟨c,t,none⟩ (.a (1:Int))=W5 at X a5 a6 a8⊢;clear f5 f1 f2 a5 c8 W K4;go_wp2_with fail
 refine (Fa W5 j [] t a6.o E9).mono ?_;rintro e w6 ⟨rfl,d0,a9⟩;have d1:Hid (mW w6 j [t]):=d0;have d2:Hid (jg w6 c λr=>if r=t then 1 else (λ_=>0) r):=gp X.o (a9.block _ (fF X.o) λe=>O e);have d3:Hid (K_ d w6):=a9.kept a8.o (λb e=>by rw[e];exact Z.o);have d4:Hid (Bfs (dK E a) t (λr=>if r=t then 1 else (λ_=>0) r) [t]):=Bfs.start _ t;have d5:Hid (∀r,(λr=>if r=t then 1 else (λ_=>0) r) r+unseen (λr=>if r=t then 1 else (λ_=>0) r)<=60):=λr=>by
  have h1:=vQ (A:=λ_=>0) (v:=1) (show t<60 by omega) rfl E5;have h2:unseen (λ_=>0)<=60:=by unfold unseen;have:=List.countP_le_length (l:=List.range 60) (p:=λ_=>(0:Nat) == 0);simp
  by_cases e:r=t
  .simp only[e,if_true];omega
  .simp only[NA e];omega
 clear d0 a9 X a6 a8;go_wp2_with fail
 go_step3
 go_wp2
 go_loopg [8] (2*unseen (λr=>if r=t then 1 else (λ_=>0) r)+1) (λgg x8 wr=>∃(A:Nat->Nat)(Q:List Nat),x8=.a 0/\Hid (2*unseen A+Q.length=gg)/\Hid (∀r,A r+unseen A<=60)/\Hid (jg wr c A)/\Hid (mW wr j Q)/\Hid (Bfs (dK E a) t A Q)/\Hid (∀p∈Q,p<a.length)/\Hid (K_ d wr))
 case atStart=>exact⟨_,[t],rfl,Kz rfl,d5,d2,d1,d4,Kz (λp hp=>by rw[Mt] at hp;rw[hp];exact ht),d3⟩
 case round=>
  clear d2 d1 d4 d3 d5;obtain⟨A,Q,rfl,K,y,k,H,HB,D,n⟩:=hrel;have b0:=H.o.size;cases Q with
  |nil=>
   have i1:M4 wr j 61 (.a 0):=b0;clear b0;have HD:Hid (IA (dK E a) t A 0):=⟨λ_ f6 F=>HB.o.none f6 F.1 F.2.1,λh=>NB rfl h⟩;go_upto_region 17 with fail
   have b1:=a3.o.kept n.o;have P:=Kz (b1.row.there (o:=0) (m:=60) (Mj _));have b2:=Kz (zG k.o);go_wp2_with (first|(refine wpList_load_mid rfl 242 (.tmp 6) rfl c 0 rfl _ _ b2.o underlying242 rfl Tryz.rP ?_)|(refine wpList_store_mid rfl 242 (.tmp 4) (.tmp 49) rfl b4 0 (oN A) rfl rfl (by rw[gW];exact P.o) (by rw[gW];exact Tryz.rP) (uf A) ?_))
   try rw[Exit.noGoto_ret]
   refine sF ((List.range 60).map λi=>jG (A i)) _ (.a ((0:Nat):Int)) results193 rfl (Mo wr b4 0 ((List.range 60).map λi=>jG (A i)) (by rw[Nt,List.length_range];exact P.o)) underlying242 rfl (by rw[Nt,List.length_range];exact Tryz.rP) rfl rfl ⟨A,0,rfl,HD.o,E5,?_⟩;exact K_.setCells (Nat.le_of_lt HZ.o.2.2) _ _ (Y.o.trans n.o)
  |cons p Q=>
   have f7:(0:Int)<((p :: Q).length:Int):=E9;have f8:p<a.length:=D.o p E9;obtain⟨ba,bc,d6,d7⟩:=hV.bwd p f8;go_wp2_with fail
   refine (IU wr j Q p H.o).mono ?_;rintro e w1 ⟨rfl,d8,b3⟩;have d9:=Kz d8;have e0:Hid (jg w1 c A):=gp k.o (b3.block _ (fF k.o) λe=>O e);have a0:Hid (K_ d w1):=b3.kept n.o (λb e=>by rw[e];exact Z.o);have x:=Kz HB.o.take;have e1:Hid (∀q∈Q,q<a.length):=λq R=>D.o q (MH _ R)
   have e2:Hid (2*unseen A+Q.length<gk):=by have h:=K.o;rw[Nc] at h;show 2*unseen A+Q.length<gk;omega
   have f9:=Kz d7;have q2:=(a0.o.cell HZ.o.1).trans f4.o;have q3:=((Y.o.trans a0.o).cell hV.mbl).trans d6;have i2:(p:Int)<(a.length:Int):=E5;have i3:=(hR.len p).2;clear d8 b3 d7 d6 b0 f7 k H HB D n K;go_wp2_with fail
   clear q2 q3;go_loopw [8,26] (λx8 b5 wr=>∃(i:Nat)(A:Nat->Nat)(Q:List Nat),x8=.a 0/\b5=.a (i:Int)/\i<=(back p).length/\Hid (2*unseen A+Q.length<gk)/\Hid (∀r,A r+unseen A<=60)/\Hid (jg wr c A)/\Hid (mW wr j Q)/\Hid (ow (dK E a) t p ((back p).take i) A Q)/\Hid (∀q∈Q,q<a.length)/\Hid (K_ d wr)) (λ_ b5 _=>(back p).length-(intOf b5).toNat)
   case atStart=>exact⟨0,A,Q,rfl,rfl,Ml _,e2,y,e0,d9,x,e1,a0⟩
   case round=>
    clear e2 y e0 d9 x e1 a0;obtain⟨i,A,Q,rfl,rfl,B,K,y,k,H,x,D,n⟩:=hrel;by_cases a1:i<(back p).length;rotate_left
    .have g0:Hid (Bfs (dK E a) t A Q):=x.o.ends (λs F=>by rw[MU E5];exact (hR.bwd s p).2 F);go_wp2
     go_roundg (2*unseen A+Q.length)
     case measure=>exact K.o
     case rel=>exact⟨A,Q,rfl,Kz rfl,y,k,H,g0,D,n⟩
    obtain⟨sb,so,V,i4,g1⟩:=(f9.o.kept (Y.o.trans n.o)) i a1;subst V;obtain⟨s,F⟩:=aj ((back p).getD i 0);rw[<-F] at g1;have b6:(back p)[i]=s:=by rw[F];simp[List.getD,a1]
    have HE:Hid (dK E a s p):=(hR.bwd s p).1 (by rw[<-b6];exact Mw a1);have g2:=HE.o.1;have e3:Hid ((back p).take (i+1)= (back p).take i++[s]):=by show _=_;rw[Ms a1,b6]
    have i5:(i:Int)<((back p).length:Int):=E5;have cp:=k.o.cell (show p<60 by omega);have cs:=k.o.cell (show s<60 by omega);unfold jG at cp cs;have i6:(p:Int)<60:=E5;have i7:(s:Int)<60:=E5;clear F b6;by_cases G:s=t
    .have g3:((s:Int) == (t:Int))=true:=by simp[G]
     have b7:=Kz (x.o.found (by have h:=HE.o;rw[G] at h;exact h));have e4:=Kz x.o.pos;have HD:Hid (IA (dK E a) t A (A p)):=⟨λh=>NB h e4.o,λ_=>⟨⟨by have:=e4.o;omega,b7.o.1,b7.o.2.1⟩,b7.o.2.2⟩⟩;have e5:A p<=60:=by have:=y.o p;omega
     clear G cs;go_upto_region 17 with fail
     have b1:=a3.o.kept n.o;have P:=Kz (b1.row.there (o:=0) (m:=60) (Mj _));have b2:=Kz (zG k.o);go_wp2_with (first|(refine wpList_load_mid rfl 242 (.tmp 6) rfl c 0 rfl _ _ b2.o underlying242 rfl Tryz.rP ?_)|(refine wpList_store_mid rfl 242 (.tmp 4) (.tmp 49) rfl b4 0 (oN A) rfl rfl (by rw[gW];exact P.o) (by rw[gW];exact Tryz.rP) (uf A) ?_))
     try rw[Exit.noGoto_ret]
     refine sF ((List.range 60).map λi=>jG (A i)) _ (.a ((A p:Nat):Int)) results193 rfl (Mo wr b4 0 ((List.range 60).map λi=>jG (A i)) (by rw[Nt,List.length_range];exact P.o)) underlying242 rfl (by rw[Nt,List.length_range];exact Tryz.rP) rfl rfl ⟨A,A p,rfl,HD.o,e5,?_⟩;exact K_.setCells (Nat.le_of_lt HZ.o.2.2) _ _ (Y.o.trans n.o)
    have g3:((s:Int) == (t:Int))=false:=F6;by_cases I:A s=0;rotate_left
    .have g4:((A s:Int) == 0)=false:=F6;have g5:=Kz (x.o.old I G);clear I G cp;go_wp2
     go_roundw
     case rel=>exact⟨i+1,A,Q,rfl,F3,E5,K,y,k,H,Kz (by rw[e3.o];exact g5.o),D,n⟩
     case measure=>simp[intOf];omega
    have g4:((A s:Int) == 0)=true:=by simp[I]
    have g6:=Kz (x.o.new HE.o I G);have g7:Q.length<60:=Dl x.o.nd (λq R=>Mk (D.o q R) hn) E5 λh=>x.o.q s h I;have e6:=Kz (vQ (v:=A p+1) (show s<60 by omega) I E5);have e5:A p<=60:=by have:=y.o p;omega
    have fs:=k.o.frozen s;have a2:=Kz (jg.put k.o s (A p+1));have e7:((A p:Int)+1)= ((A p+1:Nat):Int):=E5;have b8:Hid (K_ d (wr.setCell ⟨c,s,none⟩ (.a ((A p+1:Nat):Int)))):=(But.set (S:=λb=>b=c) (But.ax (K_.refl wr)) (p:=⟨c,s,none⟩) rfl _).kept n.o (λb e=>by rw[e];exact c9.o);have b9:=Kz (H.o.block (w':=wr.setCell ⟨c,s,none⟩ (.a ((A p+1:Nat):Int))) (Below.heap_setCell _ _ _ _ λe=>O (Eq.symm e)));have i8:Hid (s≠t):=G;have g8:=Kz e7;clear G I e7;go_upto_region 15 with fail
    rw[g8.o];generalize g9:wr.setCell ⟨c,s,none⟩ (.a ((A p+1:Nat):Int))=w7 at a2 b8 b9⊢;clear g9 fs cp cs;go_wp2_with fail
    refine (Fa w7 j Q s b9.o g7).mono ?_;rintro e w8 ⟨rfl,e8,c0⟩;have h0:=Kz e8;have h4:Hid (jg w8 c λr=>if r=s then A p+1 else A r):=gp a2.o (c0.block _ (fF a2.o) λe=>O e);have h5:Hid (K_ d w8):=c0.kept b8.o (λb e=>by rw[e];exact Z.o);have h6:Hid (2*unseen (λr=>if r=s then A p+1 else A r)+(Q++[s]).length<gk):=by
     have h1:=e6.o;have h2:=K.o;rw[M_];simp only[Nc,List.length_nil];show _<_;omega
    have h7:Hid (∀r,(λr=>if r=s then A p+1 else A r) r+unseen (λr=>if r=s then A p+1 else A r)<=60):=λr=>by
     have h1:=e6.o;have h2:=y.o r;have h3:=y.o p;by_cases e:r=s
     .simp only[e,if_true];omega
     .simp only[NA e];omega
    have h8:Hid (∀q∈Q++[s],q<a.length):=λq R=>by
     rcases Mv.1 R with h|h
     .exact D.o q h
     .rw[Mt] at h;rw[h];exact g2
    clear e8 c0 a2 b8 b9;go_wp2
    go_roundw
    case rel=>exact⟨i+1,_,_,rfl,F3,E5,h6,h7,h4,h0,Kz (by rw[e3.o];exact g6.o),h8,h5⟩
    case measure=>simp[intOf];omega
theorem tY{P:Program}{h:Array Oper}{rest:List Oper}{e:Oper}{a:Act}{f:NN}{Q:Exit->Act->NN->Prop}(hgd:e.guard=none)(d:TypeId)(x y:Operand)(j:e.op=.store d x y)(c b:Array NP)(k:a.eval x=.c f.heap.size)(l:a.eval y=.agg b)(hi:(P.info? d).map (·.size)=some b.size)(m:c.size=b.size)(n:b.all (·.oneCell')=true)(p:wpList P h Q rest (a.put e.dst undef) (f.alloc (.cells b d))):wpList P h Q (e :: rest) a (f.alloc (.cells c d)):=wpList_plain hgd λ_ q=>by
  unfold Oper.wp execOp;simp only[j,k,l,Instr.storeAt,Instr.sureAddr,Sem.run_bind,Sem.run_pure,Result.andThen_ok,run_storeVar_new f d c b hi m n];exact q _ _ p
theorem Tryz.Jy :(prog.info? 3).map (λi=>(i.zero,i.size,i.bytes))=some (some (.a 0),1,8):=F4
theorem jg.new(w:NN)(A:Nat->Nat):jg (w.alloc (.cells (oN A) 242)) w.heap.size A:=by
 have h:=World.rowIs_alloc w (oN A) 242 (λi=>jG (A i)) (λi c=>by
  rw[gW] at c;simp[oN,c])
 rw[gW] at h;exact h
theorem Ik(w:NN)(a b:Nat)(A:Nat->Nat)(left p:Nat)(c:p<60)(d:jg w a A)(h:w.cell? ⟨b,0,none⟩=some (.a (left:Int))):Calls prog 195 #[.a (p:Int),.c a,.c b] w λe w'=>e=.returned (.bool (((A p:Nat):Int) == (left:Int)))/\K_ w w':=by
 have f:=d.cell c;unfold jG at f;have i:(p:Int)<60:=E5;go_enter func195,ntmps195
 go_wp2
 go_region
 go_wp2
 go_ret
 exact⟨rfl,(aY _)⟩
def Lh(A:Nat->Nat)(left:Nat)(l:List Nat)(e:Ending):Prop:=∃k,e=.returned (.a ((k:Nat):Int))/\∃hk:k<l.length,A l[k]=left/\∀j (hj:j<l.length),j<k->A l[j]≠left
theorem ym(w:NN)(s:NM)(y:Nat)(l:List Nat)(m d:Nat)(A:Nat->Nat)(left:Nat)(M:l.length<=60000000)(z:∀p∈l,p<60)(B:d<w.heap.size)(C:t_ w s l)(D:jg w m A)(E:w.cell? ⟨d,0,none⟩=some (.a (left:Int)))(F:∃p∈l,A p=left):Calls prog 194 #[.slice s l.length y,.func (.func 195) #[] #[.c m,.c d]] w λe w'=>Lh A left l e/\K_ w w':=by
 go_enter func194,ntmps194
 go_wp2
 go_loopw [8] (λx wr=>∃i:Nat,i<=l.length/\x=.a (i:Int)/\Hid (∀j (f:j<l.length),j<i->A l[j]≠left)/\K_ w wr) (λx _=>l.length-(intOf x).toNat)
 case atStart=>exact⟨0,Ml _,rfl,Kz λj _ G=>aO G,K_.refl _⟩
 case round=>
  obtain⟨i,N,rfl,n,h⟩:=hrel;by_cases k:i<l.length;rotate_left
  .exfalso
   let⟨p,a,H⟩:=F;obtain⟨j,f,rfl⟩:=MB a;exact n.o j f E5 H
  let⟨b,o,I,O,J⟩:=(C.kept h) i k;subst I;let⟨p,a⟩:=aj (l.getD i 0);rw[<-a] at J;have q:l[i]=p:=by rw[a];simp[List.getD,k]
  have t:=Kz q;have K:p<60:=z p (by rw[<-q];exact Mw k);have P:(i:Int)<(l.length:Int):=E5;clear a;go_wp2_with fail
  refine (Ik wr m d A left p K (ng D h) ((h.cell B).trans E)).mono ?_;rintro e Q ⟨rfl,L⟩;have v:=h.trans L;by_cases r:A p=left
  .have c:(((A p:Nat):Int) == (left:Int))=true:=by simp[r]
   rw[c];go_wp2
   go_ret
   exact⟨⟨i,rfl,k,by rw[t.o];exact r,n.o⟩,v⟩
  .have c:(((A p:Nat):Int) == (left:Int))=false:=F6;rw[c];go_wp2
   go_roundw
   case rel=>
    refine⟨i+1,E5,F3,Kz λj f R=>?_,v⟩;rcases Nat.lt_or_ge j i with e|e
    .exact n.o j f e
    .have:j=i:=E5;subst this;rw[t.o];exact r
   case measure=>simp[intOf];omega
def Kb(R:Nat->Nat->Prop)(n t:Nat)(w w':NN)(e:Ending):Prop:=∃(av:NM)(cv:Nat)(l:List Nat),e=.returned (.slice av l.length cv)/\t_ w' av l/\l.length<=60/\(∀p∈l,p<n)/\(l=[]->∀m,¬lM R t m)/\(l≠[]->∃m,lM R t m/\lW R t m t l/\l.length=m)/\K_ w w'
theorem xY(w:NN)(n:NM)(D:Nat)(a:List NL)(nb r:Nat)(m back:Nat->List Nat)(E:NL->NL->Prop)(a4:Nat)(t:Nat)(ht:t<a.length)(hn:a.length<=60)(hM:a4<=60000000)(X:uS w n a nb r m back)(s:CR E a a4 m back):Calls prog 171 #[.agg #[.slice n a.length D,.b nb a.length a.length,.b r a.length a.length],.a (t:Int)] w λe w'=>Kb (dK E a) a.length t w w' e:=by
 let⟨J,F⟩:=aj (w.alloc (.cells #[.slice n a.length D,.b nb a.length a.length,.b r a.length a.length] 187));have k1:K_ w J:=by rw[F];exact ah _ _
 have s0:J.cell? ⟨w.heap.size,0,none⟩=some (.slice n a.length D):=by rw[F];exact X_ w #[.slice n a.length D,.b nb a.length a.length,.b r a.length a.length] 187 0 _ rfl
 have s1:J.cell? ⟨w.heap.size,1,none⟩=some (.b nb a.length a.length):=by rw[F];exact X_ w #[.slice n a.length D,.b nb a.length a.length,.b r a.length a.length] 187 1 _ rfl
 have s2:J.cell? ⟨w.heap.size,2,none⟩=some (.b r a.length a.length):=by rw[F];exact X_ w #[.slice n a.length D,.b nb a.length a.length,.b r a.length a.length] 187 2 _ rfl
 have z1:w.heap.size<J.heap.size:=by rw[F];simp
 go_enter func171,ntmps171
 go_upto_region 1 with fail
 rw[<-F];clear F;go_wp2_with fail
 refine (yC J n D a nb r m back E a4 t ht hn hM (X.kept k1) s).mono ?_;rintro e K ⟨G,size,rfl,hD,i7,Y⟩;have⟨HD,c1⟩:=aH hD s1;let⟨P,L⟩:=aj (oN G);have HI:Hid ((prog.info? 242).map (·.size)=some P.size):=by rw[L,gW];exact Tryz.rP
 have f2:Hid ((Array.replicate 60 (Value.int .i64 0)).size=P.size):=by show _=_;rw[L,gW];simp
 have f3:Hid (P.all (·.oneCell')=true):=by rw[L];exact uf G
 let⟨c,Q⟩:=aj (K.alloc (.cells P 242));have Z:K_ K c:=by rw[Q];exact ah _ _
 have c2:Hid (jg c K.heap.size G):=by rw[Q,L];exact jg.new K G
 rw[<-L];have M:=(k1.trans Y).trans Z;have c3:=Mk z1 (Y.trans Z).size;have c4:=Kz (((Y.trans Z).cell z1).trans c1.o);let⟨ab,c5⟩:=aj K.heap.size;have f4:K.heap.size<c.heap.size:=by rw[Q];simp
 have⟨f5,f6⟩:=aH Q c5;clear L Q c5 c1 Z Y k1 z1;go_upto_region 2 with (rw (transparency:=.default) [z60];refine tY rfl 242 (.tmp 5) (.tmp 15) rfl _ P rfl rfl HI.o f2.o f3.o ?_)
 rw[<-f5.o];rw[<-f6.o] at c2 f4⊢;by_cases R:size=0
 .have f7:((size:Int) == 0)=true:=by simp[R]
  have f8:=Kz (HD.o.no R);go_wp2
  go_ret
  exact⟨none,0,[],rfl,λi hi=>aO hi,Ml _,λp v=>(by cases v),λ_=>f8.o,λh=>NB rfl h,M⟩
 have f7:((size:Int) == 0)=false:=F6;let⟨a5,c6⟩:=HD.o.yes R;have⟨c7,c8⟩:=aH a5 c6;have i8:=a5.1;let⟨d,S⟩:=aj (c.alloc (.cells #[.a (t:Int)] 3));have kB:K_ c d:=by rw[S];exact ah _ _
 have a0:Hid (c.heap.size+1=d.heap.size):=by show _=_;rw[S];simp
 have a6:d.ownsRow c.heap.size 3 1 (.b c.heap.size 1 1) [t].length ([t].map jG):=by
  rw[S];exact⟨rfl,.inr ⟨c.heap.size,1,_,rfl,Mj _,heap_alloc_new c _,Mj _,F5,rfl,rfl⟩⟩
 let⟨WC,T⟩:=aj (d.alloc (.cells #[.a (size:Int)] 3));have kC:K_ d WC:=by rw[T];exact ah _ _
 have a7:Hid (ay WC d.heap.size 3 1):=by rw[T];exact ay.made d #[.a (size:Int)] 3
 have a8:Hid (M4 WC d.heap.size 0 (.a (size:Int))):=by rw[T];exact X_ d #[.a (size:Int)] 3 0 _ rfl
 have b0:=Kz (au a6 kC);have d0:=Kz (kB.trans kC);have⟨d1,d2,f9⟩:=di S T a6;clear S T;go_upto_region 6 with fail
 rw[<-d1.o,<-d2.o,a0.o];have N:Hid (c.heap.size<=d.heap.size/\∀f,(Value.slice (some ⟨c.heap.size,0,none⟩) [t].length 1).ownBlock=some f->f≠d.heap.size):=⟨by have:=a0.o;omega,λf e=>by simp only[Value.ownBlock,Na] at e;have:=a0.o;omega⟩;let⟨oa,b1⟩:=aj c.heap.size;let⟨k,d3⟩:=aj d.heap.size;rw[<-b1] at b0 N⊢;rw[<-d3] at N a7 a8⊢;have b2:=Kz b1;clear b1 d3 f9 a0 d1 d2;go_wp2
 go_loopg [7,8,9] size (λgg x7 x8 x9 wr=>∃(l:List Nat)(b k:Nat)(z:NM)(H:Nat),x7=.slice z l.length H/\x8=.a (b:Int)/\x9=.c k/\Hid (qK (dK E a) t size l b gg)/\Hid (∀p∈l,p<a.length)/\Hid (wr.ownsRow oa 3 1 (.slice z l.length H) l.length (l.map jG))/\Hid (ay wr k 3 1)/\Hid (M4 wr k 0 (.a (gg:Int)))/\Hid (oa<=k/\∀f,(Value.slice z l.length H).ownBlock=some f->f≠k)/\Hid (K_ c wr))
 case atStart=>exact⟨[t],t,k,_,1,rfl,rfl,rfl,Kz (qK.start c7.o),Kz (λp v=>by rw[Mt] at v;rw[v];exact ht),b0,a7,a8,N,d0⟩
 case round=>
  clear b0 a7 a8 N d0;obtain⟨l,b,k,z,H,rfl,rfl,rfl,A,b3,HO,a1,a2,N,I⟩:=hrel;have cl:=a2.o;have g0:=A.o.pos;have g1:=A.o.len;by_cases b4:gk=1
  .have i9:¬((1:Int)<(gk:Int)):=E5;have g2:Hid (lW (dK E a) t size t l):=by have h:=A.o;rw[b4] at h;exact h.done
   have d4:Hid (l.length=size):=by show l.length=size;omega
   have g3:Hid (l≠[]):=by let⟨l0,e⟩:=A.o.last;show l≠[];rw[e];simp
   have g4:Hid (t_ wr z l):=by
    let⟨a9,c9,e9,_,h9⟩:=xA HO.o rfl;simp only[Nb,true_and] at e9;rw[<-e9.1] at h9;exact h9
   clear b4 g1 g0;go_wp2
   go_ret
   exact⟨z,H,l,rfl,g4.o,by have:=d4.o;omega,b3.o,λe=>NB e g3.o,λ_=>⟨size,c7.o,g2.o,d4.o⟩,M.trans I.o⟩
  have j0:1<=l.length:=by let⟨l0,e⟩:=A.o.last;rw[e];simp
  have j1:(1:Int)<(gk:Int):=E5;obtain⟨q,hq⟩:∃q,gk=q+1:=⟨gk-1,E5⟩;have g5:1<=q:=E5;have HQ:=Kz hq;have g6:b<a.length:=b3.o b (by let⟨l0,e⟩:=A.o.last;rw[e];simp);let⟨da,dc,b5,d5⟩:=X.fwd b g6;have g7:Hid (∃p∈m b,G p=gk):=by
   let⟨y,h1,h2⟩:=A.o.more E5;exact⟨y,(s.fwd b y).2 h1,by have:=(c8.o y (gk-1) E5).2 h2;omega⟩
  have g8:=Mm (s.len b).1 hM;have g9:Hid (∀p∈m b,p<60):=λp v=>by have:=((s.fwd b p).1 v).2.1;omega
  have q1:=(I.o.cell c3).trans c4.o;have q2:=((M.trans I.o).cell X.nbl).trans b5;have j2:(b:Int)<(a.length:Int):=E5;have⟨d6,h0⟩:=aH d5 b5;clear hq;go_wp2_with fail
  refine (ym wr da dc (m b) ab k G gk g8 g9.o a1.o.lt (d6.o.kept (M.trans I.o)) (ng c2.o I.o) a2.o g7.o).mono ?_;rintro e B ⟨⟨a3,rfl,O,d7,d8⟩,U⟩;have V:=Kz (I.o.trans U);let⟨x,hx⟩:=aj ((m b)[a3]);have h3:Hid (Ar (λy=>dK E a b y/\Far (dK E a) t q y) x):=by
   have h4:=HQ.o;rw[hx];have d9:∀y,G y=gk↔Far (dK E a) t q y:=λy=>by rw[h4];exact c8.o y q E5
   exact AV (p:=λy=>dK E a b y/\Far (dK E a) t q y) (s.asc b) (λy hy=>(s.fwd b y).2 hy.1) O ⟨(s.fwd b _).1 (Mw O),(d9 _).1 d7⟩ λj hj h5 h=>d8 j hj h5 ((d9 _).2 h.2)
  have h6:x<a.length:=by have:=((s.fwd b x).1 (by rw[hx];exact Mw O)).2.1;exact this
  let⟨eb,eo,e1,j3,h7⟩:=(d6.o.kept (M.trans V.o)) a3 O;subst e1;have e0:(m b).getD a3 0=x:=by rw[hx];simp[List.getD,O]
  rw[e0] at h7;have j4:(a3:Int)<((m b).length:Int):=E5;have q1:=(V.o.cell c3).trans c4.o;have q2:=((M.trans V.o).cell X.nbl).trans h0.o;clear hx e0 d7 d8 O cl;have e2:=(U.cell a1.o.lt).trans a2.o;have e3:=Kz (au HO.o U);have b6:=Kz (a1.o.kept U);let⟨ic,h8,i0,i1,i2⟩:=info_parts Tryz.Jy;have W:K_ B (B.alloc (.cells #[.a (x:Int)] 3)):=ah _ _;have b7:=Kz (au e3.o W);have b8:=Kz (V.o.trans W);have e4:oa<=(B.alloc (.cells #[.a (x:Int)] 3)).heap.size:=by rw[b2.o];exact b8.o.size
  have e5:Hid (∀j u,([.a (x:Int)]:List NP)[j]? =some u->(B.alloc (.cells #[.a (x:Int)] 3)).cell? ((⟨B.heap.size,0,none⟩:Addr).add j)=some u):=λj u hu=>by rw[Nf];exact X_ B #[.a (x:Int)] 3 j u hu
  have e6:Hid (∀u∈([.a (x:Int)]:List NP),u.oneCell'=true):=λu hu=>by simp only[Nh,Ni,or_false] at hu;subst hu;rfl
  have e7:=Kz (b6.o.kept W);have e8:=Kz ((W.cell b6.o.lt).trans e2);have j5:l.length<=60:=E5;go_upto_region 11 with (at_builtin;refine wpList_append_own _ rfl (.tmp 42) (.tmp 44) 87 rfl oa 3 ic _ 1 8 underlying87 h8 i0 i1 i2 rfl E8 (.slice z l.length H) l.length (l.map jG) rfl b7.o ⟨B.heap.size,0,none⟩ 1 1 [.a (x:Int)] rfl rfl e5.o e6.o F5 E5 e4 ?_;intro v' C b9 c0 _)
  have KP:Hid (K_ c C):=aK b8.o (by rw[b2.o];exact Mj _) b7.o c0;have kg:But (λf=>(Value.slice z l.length H).ownBlock=some f) (B.alloc (.cells #[.a (x:Int)] 3)) C:=But.aI c0 λf e=>e;have f0:=e7.o.lt;have j6:M4 C k 0 (.a (gk:Int)):=(kg.cell f0 λe=>N.o.2 k e rfl).trans e8.o;have f1:=Kz b9;obtain⟨i3,i4,rfl⟩:=aF b9;clear b9 c0 kg f0 e7 e8 e5 e6 b7 b8 e4 W b6 e3 HO a1 a2 I V;have i5:Hid (qK (dK E a) t size l b (q+1)):=by have h:=A.o;rw[HQ.o] at h;exact h
  have i6:Hid ((gk:Int)-1= (q:Int)):=by show _=_;have:=HQ.o;omega
  go_wp2_with fail
  rw[i6.o];have k8:K_ C (C.alloc (.cells #[.a (q:Int)] 3)):=ah _ _;go_roundg q
  case measure=>have:=HQ.o;omega
  case rel=>
   refine⟨l++[x],x,C.heap.size,i3,i4,by rw[M_];rfl,rfl,rfl,Kz (i5.o.next g5 h3.o),Kz λp v=>?_,Kz ?_,Kz (ay.made C #[.a (q:Int)] 3),Kz (X_ C #[.a (q:Int)] 3 0 _ rfl),Kz ⟨?_,λf e=>?_⟩,Kz (KP.out.trans k8)⟩
   .rcases Mv.1 v with h|h
    .exact b3.o p h
    .rw[Mt] at h;rw[h];exact h6
   .rw[M_,ND];exact au f1.o k8
   .rw[b2.o];exact KP.out.size
   .rw[M_] at e;have:=(f1.o.lt f e).2;omega
def Gu(R:Nat->Nat->Prop)(n:Nat)(w w':NN)(e:Ending):Prop:=∃(av:NM)(cv:Nat)(best:List Nat),e=.returned (.slice av best.length cv)/\t_ w' av best/\best.length<=60/\(∀p∈best,p<n)/\jA R n best/\K_ w w'
theorem Dm(w:NN)(d:NM)(j:Nat)(a:List NL)(nb f:Nat)(z back:Nat->List Nat)(E:NL->NL->Prop)(M:Nat)(hn:a.length<=60)(hM:M<=60000000)(hV:uS w d a nb f z back)(hR:CR E a M z back):Calls prog 131 #[.agg #[.slice d a.length j,.b nb a.length a.length,.b f a.length a.length]] w λe w'=>Gu (dK E a) a.length w w' e:=by
 let⟨q,k⟩:=aj (w.alloc (.cells #[.slice d a.length j,.b nb a.length a.length,.b f a.length a.length] 187));have R:K_ w q:=by rw[k];exact ah _ _
 have S:Hid (∀u,K_ q u->M4 u w.heap.size 0 (.slice d a.length j)/\M4 u w.heap.size 1 (.b nb a.length a.length)/\M4 u w.heap.size 2 (.b f a.length a.length)):=λu A=>by
  have B:w.heap.size<q.heap.size:=by rw[k];simp
  have r:=X_ w #[.slice d a.length j,.b nb a.length a.length,.b f a.length a.length] 187;rw[<-k] at r;exact⟨(A.cell B).trans (r 0 _ rfl),(A.cell B).trans (r 1 _ rfl),(A.cell B).trans (r 2 _ rfl)⟩
 go_enter func131,ntmps131
 go_upto_region 1 with fail
 rw[<-k];clear k;let⟨C,D,F⟩:=S.o _ (K_.refl _);go_wp2_with fail
 clear C D F;go_loopw [3,9] (λx3 G wr=>∃(i:Nat)(b:List Nat)(h:NM)(m:Nat),i<=a.length/\G=.a (i:Int)/\x3=.slice h b.length m/\b.length<=60/\Hid (t_ wr h b)/\Hid (∀T∈b,T<a.length)/\Hid (jA (dK E a) i b)/\K_ q wr) (λ_ G _=>a.length-(intOf G).toNat)
 case atStart=>exact⟨0,[],none,0,Ml _,rfl,rfl,Ml _,Kz λi U=>aO U,Kz (λT hp=>by cases hp),Kz (jA.start _),K_.refl _⟩
 case round=>
  obtain⟨i,b,h,m,U,rfl,rfl,H,I,J,n,s⟩:=hrel;by_cases a5:i<a.length;rotate_left
  .have a6:i=a.length:=E5;subst a6;go_wp2
   go_ret
   exact⟨h,m,b,rfl,I.o,H,J.o,n.o,R.trans s⟩
  let⟨C,D,F⟩:=S.o _ s;have b1:(i:Int)<(a.length:Int):=E5;go_wp2_with fail
  refine (xY wr d j a nb f z back E M i a5 hn hM (hV.kept (R.trans s)) hR).mono ?_;rintro e w2 ⟨V,W,l,rfl,X,Y,Z,a0,a1,K⟩;have⟨a2,a3⟩:=aH X Z;have a4:=Kz (I.o.kept K);have t:=s.trans K;have⟨a7,a8⟩:=aH a0 a1;clear C D F X Z a0 a1 I K;by_cases v:l.length=0
  .have hg:¬((0:Int)<(l.length:Int)):=E5;have L:Hid (jA (dK E a) (i+1) b):=n.o.skip λx N=>NB N (a7.o (MF.1 v) x);go_wp2
   go_roundw
   case rel=>exact⟨i+1,b,h,m,E5,F3,rfl,H,a4,J,L,t⟩
   case measure=>simp[intOf];omega
  have hg:(0:Int)<(l.length:Int):=E5;have O:=Kz (a8.o λe=>v (by rw[e];rfl));by_cases c:b.length=0
  .have a9:((b.length:Int) == 0)=true:=by simp[c]
   have P:Hid (jA (dK E a) (i+1) l):=by
    let⟨x,p,Q,y⟩:=O.o;exact n.o.take p Q y (.inl (MF.1 c))
   clear c;go_wp2
   go_roundw
   case rel=>exact⟨i+1,l,V,W,E5,F3,rfl,Y,a2,a3,P,t⟩
   case measure=>simp[intOf];omega
  have a9:((b.length:Int) == 0)=false:=by simp;exact λe=>c (by rw[e];rfl)
  by_cases b2:l.length<b.length
  .have b0:(l.length:Int)<(b.length:Int):=E5;have P:Hid (jA (dK E a) (i+1) l):=by
    let⟨x,p,Q,y⟩:=O.o;exact n.o.take p Q y (.inr E5)
   clear c;go_wp2
   go_roundw
   case rel=>exact⟨i+1,l,V,W,E5,F3,rfl,Y,a2,a3,P,t⟩
   case measure=>simp[intOf];omega
  .have b0:¬((l.length:Int)<(b.length:Int)):=E5;have L:Hid (jA (dK E a) (i+1) b):=n.o.skip (λx N=>by
    let⟨m',p,_,y⟩:=O.o;have:=p.unique N;exact⟨λe=>c (by rw[e];rfl),E5⟩)
   clear c;go_wp2
   go_roundw
   case rel=>exact⟨i+1,b,h,m,E5,F3,rfl,H,a4,J,L,t⟩
   case measure=>simp[intOf];omega
