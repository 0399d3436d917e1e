import Derived.Test.YtjbipapbckajnaaGreatDoorKLOutc
import Derived.Test.YtjbipapbckajnaaGreatDoorKBPickNo
set_option maxRecDepth 100000
set_option maxHeartbeats 25600000
namespace Go.Proofs.YtjbipapbckajnaaGreatDoor
open Go.RowKit Go.Proofs.Tryz
structure jk (m:Nat) (w wr:Pv) (rb wb:Nat) (a:Pt) (cap:Nat) (bs:List UInt8) (p:Nat) (v:Pw) (L:List Qq):Prop where
 rd:Rd wr rb a cap bs p
 rd0:∃p0,Rd w rb a cap bs p0
 wbl:w.heap.size<=wb
 kb:Xk rb (rb+1) w wr
 row:aB wr wb 25 1
 c0:wr.cell? ⟨wb,0,none⟩=some v
 web:bM wr v L
 tiny:∀d∈L,d.TinyN m
 fr:lV w.heap.size v L
variable {L : List Qq} {bs : List UInt8} {cap m p rb wb : Nat} {a : Pt} {v : Pw} {w wr : Pv}
theorem gu.fin{c:List Pw}(h:gu m w wr rb wb a cap bs p v L c):jk m w wr rb wb a cap bs p v L:=
 ⟨h.rd,h.rd0,h.wbl,h.kb,h.row,h.c0,h.web,h.tiny,lV.gN h.own⟩
variable {n : Nat}
theorem jk.mono(h:jk m w wr rb wb a cap bs p v L)(c:m<=n):jk n w wr rb wb a cap bs p v L:=
 ⟨h.rd,h.rd0,h.wbl,h.kb,h.row,h.c0,h.web,(λd e=>(h.tiny d e).mono c),h.fr⟩
variable {N : Nat} {A0 : Pv}
theorem jk.ends{M:Nat}{b:Pv}{p' t:Nat}{e:Ending}(h:jk M A0 b rb wb a cap bs p' v L){c:Nat}(k:aB b c 25 1)(l:w.heap.size<=c)(k0:K_ w A0){m:Nat}(n:Rd w rb a cap bs m)
 (q:e= .returned (.agg #[v])) (r:p<=p') (h2:p'<=p+t) (s:L.length<=N):jd M N w (b.setCell ⟨c,0,none⟩ v) rb a cap bs p t e:=by
 have x:=k.same (o:=0) v;have d:Below w.heap.size b (b.setCell ⟨c,0,none⟩ v):=(Below.refl _ _).setCell (p:=⟨c,0,none⟩) l _;have f:Xk rb (rb+1) w b:=⟨h.kb.os.trans k0.os,h.kb.tape.trans k0.tape,h.kb.output.trans k0.output,NT k0.size h.kb.size,λi j y=>(h.kb.block i (NR j k0.size) y).trans (k0.block i j)⟩;exact⟨v,L,p',q,r,h2,s,h.tiny,h.web.same x A8 A8 A8 A8,h.rd.below n d f.size,f.below d,h.fr.mono k0.size⟩
variable {c g k : Nat}
theorem bM.put{o:Nat}{d:Qq}{u:Pw}{vs:List Pw}(p:bM w (.b g n c) L)(C:k<L.length)(q:aB w g 88 N)(D:k*3<=o/\o+vs.length<=k*3+3)
 (r:(w.setCells g o vs).rangeAt g (k*3) [.string d.name,.a d.cost,u]) (s:dB w u d.steps):bM (w.setCells g o vs) (.b g n c) (L.set k d):=by
 obtain⟨t,h⟩:=q.setCells vs o;obtain⟨E,F,e,v,x,y⟩:=p;simp only[OG] at e;obtain⟨rfl,rfl,rfl⟩:=e;refine⟨_,c,by rw[OZ],by rw[OZ];exact v,x,λi a=>?_⟩;rw[OZ] at a;obtain⟨j,l,_⟩:=t;by_cases e:i=k
 .subst e;have f:(L.set i d).getD i Qq.zero=d:=by simp[List.getD,a]
  rw[f];exact⟨g,0,j,_,u,rfl,l,by rw[Ow];exact r,s.same h A8 A8 A8⟩
 .have f:(L.set k d).getD i Qq.zero=L.getD i Qq.zero:=by simp[List.getD,Ne.symm e]
  rw[f];obtain⟨b,G,H,I,z,m,J,A,B⟩:=y i a;simp only[OE,Po,and_true] at m;obtain⟨rfl,rfl⟩:=m;exact⟨g,0,j,_,z,rfl,l,Oh A _ _ _ (by right;simp;omega),B.same h A8 A8 A8⟩
theorem Bw{d:Qq}(a:∀x∈L,x.TinyN m)(b:d.TinyN m):∀x∈L.set k d,x.TinyN m:=λx c=>by
 rcases List.mem_or_eq_of_mem_set c with h|rfl
 .exact a x h
 .exact b
theorem jk.put{o:Nat}{d:Qq}{u:Pw}{vs:List Pw}(h:jk m A0 wr rb wb a cap bs p (.b g n c) L)(j:A0.heap.size<=g)(l:k<L.length)(b:aB wr g 88 N)(q:k*3<=o/\o+vs.length<=k*3+3)
 (r:(wr.setCells g o vs).rangeAt g (k*3) [.string d.name,.a d.cost,u]) (s:dB wr u d.steps) (t:d.TinyN m):jk m A0 (wr.setCells g o vs) rb wb a cap bs p (.b g n c) (L.set k d):=by
 obtain⟨x,v⟩:=h.rd0;have e:Below A0.heap.size wr (wr.setCells g o vs):=Below.setCells' j vs o (Below.refl _ _);obtain⟨_,w⟩:=b.setCells vs o;have f:=h.row.ji w A8;exact⟨h.rd.below v e h.kb.size,h.rd0,h.wbl,h.kb.below e,f.1,(f.2 0).trans h.c0,h.web.put l b q r s,Bw h.tiny t,λi=>h.fr (by rw[OZ] at i;exact i)⟩
theorem bM.cells(i:bM w (.b g n c) L)(j:k<L.length):
  ∃a b,w.rangeAt g (k*3) [.string (L.getD k Qq.zero).name,.a (L.getD k Qq.zero).cost,.slice a (L.getD k Qq.zero).steps.length b]/\dB w (.slice a (L.getD k Qq.zero).steps.length b) (L.getD k Qq.zero).steps:=by
 obtain⟨l,m,e,p,r,q⟩:=i;simp only[OG] at e;obtain⟨rfl,rfl,rfl⟩:=e;obtain⟨s,t,v,x,y,d,z,f,h⟩:=q k j;simp only[OE,Po,and_true] at d;obtain⟨rfl,rfl⟩:=d;obtain⟨a,b,rfl⟩:=h.slice;rw[Ow] at f;exact⟨a,b,f,h⟩
theorem Aw{b q:Nat}(h:w.cell? ⟨b,q,none⟩=some v):w.rangeAt b q [v]:=λj x a=>by
 match j,a with
 | 0,a=>simp at a;subst a;exact h
 | j+1,a=>simp at a
theorem vC{b q:Nat}{x y z:Pw}(f:w.cell? ⟨b,q,none⟩=some x)(h:w.cell? ⟨b,q+1,none⟩=some y)(h2:w.cell? ⟨b,q+2,none⟩=some z):w.rangeAt b q [x,y,z]:=λj v a=>by
 match j,a with
 | 0,a=>simp at a;subst a;exact f
 | 1,a=>simp at a;subst a;exact h
 | 2,a=>simp at a;subst a;exact h2
 | j+3,a=>simp at a
theorem Gh(w:Pv)(g o:Nat)(v:Pw):w.setCells g o [v]=w.setCell ⟨g,o,none⟩ v:=rfl
theorem jk.Gu(h:jk m A0 wr rb wb a cap bs p (.b g n c) L)(j:A0.heap.size<=g)(b:k<L.length)(f:aB wr g 88 N)(r:k*3+3<=N){s:Ps}(l:s.size<=300):
  jk m A0 (wr.setCell ⟨g,k*3,none⟩ (.string s)) rb wb a cap bs p (.b g n c) (L.set k ⟨s,(L.getD k Qq.zero).cost,(L.getD k Qq.zero).steps⟩):=by
 obtain⟨t,v,i,q⟩:=h.web.cells b;have e:=h.tiny (L.getD k Qq.zero) (by simp[List.getD,b]);rw[<-Gh];refine h.put (d:=⟨s,(L.getD k Qq.zero).cost,(L.getD k Qq.zero).steps⟩) j b f ⟨NQ _,A9⟩ ?_ q ⟨l,e.cost,e.steps,e.each⟩;rw[Gh];exact vC (bu f.row A7 _) ((Xx A7 _).trans (i 1 _ rfl)) ((Xx A7 _).trans (i 2 _ rfl))
theorem jk.I_(h:jk m A0 wr rb wb a cap bs p (.b g n c) L)(j:A0.heap.size<=g)(e:k<L.length)(f:aB wr g 88 N)(z:k*3+3<=N){cost:Int}{u:Pw}{b:List Xj}(l:dB wr u b)(r: -1000<=cost/\cost<=1000)(t:b.length<=21)(w:∀s∈b,s.TinyN m):
  jk m A0 (wr.setCells g (k*3+1) [.a cost,u]) rb wb a cap bs p (.b g n c) (L.set k ⟨(L.getD k Qq.zero).name,cost,b⟩):=by
 obtain⟨A,B,x,_⟩:=h.web.cells e;have y:=h.tiny (L.getD k Qq.zero) (by simp[List.getD,e]);refine h.put (d:=⟨(L.getD k Qq.zero).name,cost,b⟩) j e f ⟨A7,A9⟩ ?_ l ⟨y.name,r,t,w⟩;have i:=NU wr g (k*3+1) [.a cost,u] (f.row.there D6);exact vC (Oh (Aw (q:=k*3) (v:= .string (L.getD k Qq.zero).name) (by have:=x 0 _ rfl;rwa [OJ] at this)) _ _ _ (by right;simp only[OH,List.length_nil];omega) 0 _ rfl) (i 0 _ rfl) (i 1 _ rfl)
theorem jk.setNode(h:jk m A0 wr rb wb a cap bs p (.b g n c) L)(e:A0.heap.size<=g)(f:k<L.length)(b:aB wr g 88 N)(l:k*3+3<=N){d:Qq}{u:Pw}(i:dB wr u d.steps)(j:d.TinyN m):
  jk m A0 (wr.setCells g (k*3) [.string d.name,.a d.cost,u]) rb wb a cap bs p (.b g n c) (L.set k d):=
 h.put e f b ⟨NQ _,A9⟩ (NU wr g (k*3) _ (b.row.there D6)) i j
theorem gu.uR{b:List Pw}(h:gu m w wr rb wb a cap bs p v L b)(l:0<L.length):∃g c,v= .b g L.length c/\w.heap.size<=g/\aB wr g 88 (c*3)/\L.length<=c:=by
 rcases h.own.2 with⟨_,e⟩|⟨g,c,d,e,f,i,j,_,k,_⟩
 .omega
 .exact⟨g,c,e,f,⟨d,i,k⟩,j⟩
def LX(M N:Nat)(A0 wx:Pv)(rb wb res:Nat)(a:Pt)(cap:Nat)(bs:List UInt8)(p t:Nat):Prop:=
 ∃(va:Pt) (vc:Nat) (L:List Qq) (p':Nat),p<=p'/\p'<=p+t/\L.length<=N/\aB wx res 25 1/\jk M A0 wx rb wb a cap bs p' (.slice va L.length vc) L
theorem GJ{P:Program}(w:Pv)(t u v:TypeId)(d:P.underlying t=some (.slice u))(e:P.underlying u=some (.int .u8))(f:P.underlying v=some .string)(x y:Int):
  (convert t v (.b w.heap.size 2 2)).run P (w.alloc (.cells #[.int .u8 x,.int .u8 y] u))= .ok (.string (strOfNums [x,y])) (w.alloc (.cells #[.int .u8 x,.int .u8 y] u)):=
 run_convert_bytes_arg (P:=P) _ t u d e w.heap.size 0 2 2 [x,y] rfl (λi b=>by
  match i,b with
  | 0,_=>rw[World.cell?_alloc_mark];rfl
  | 1,_=>rw[World.cell?_alloc_mark];rfl
  | i+2,b=>exact Pg b A7) v f
theorem A_(w:Pv):dB (w.alloc (.cells #[J3,.a 0,J3,.a 0,.a 0,.bool true,.bool false,.string ⟨#[]⟩] 176)) (.b w.heap.size 1 1) [bY ⟨#[]⟩]:=by
 have a:=Xz w #[J3,.a 0,J3,.a 0,.a 0,.bool true,.bool false,.string ⟨#[]⟩] 176;refine⟨_,1,rfl,NQ _,λi c=>?_⟩;obtain rfl:i=0:=by simpa using c
 exact⟨w.heap.size,0,_,_,(bY ⟨#[]⟩).cells none 0 none 0,rfl,heap_alloc_new w _,a,(uu _ _).g,qf _⟩
theorem LM(x:Int)(a:Pt)(n c:Nat):(#[.a x,.slice a n c]:Array Pw).all (·.oneCell')=true:=G5
theorem FP(s:Ps)(x:Int)(a:Pt)(n c:Nat):(#[.string s,.a x,.slice a n c]:Array Pw).all (·.oneCell')=true:=G5
theorem EQ(mN:Nat)(k7:mN<=900)(w:Pv)(rb:Nat)(a:Pt)(cap:Nat)(bs:List UInt8)(p:Nat)(a3:Pt)(a4:Nat)(l:List Qq)(Z:Rd w rb a cap bs p)(hp:p<=700000)(a5:bs.length<=2000)(hl:l.length<=200)(h0:∀d∈l,d.TinyN mN)(hG:bM w (.slice a3 l.length a4) l):
  Calls prog 110 #[.c rb,.agg #[.slice a3 l.length a4]] w λe w'=>jd (mN+10) (l.length+62) w w' rb a cap bs p 20 e:=by
 obtain⟨S,b4⟩:=ai ((w.alloc (.cells #[.slice a3 l.length a4] 25)).alloc (.cells #[J3] 25));have k0:K_ w S:=by rw[b4];exact (ah _ _).alloc _
 have h4:S.heap.size=w.heap.size+2:=by rw[b4];simp
 have h5:Hid (aB S (w.heap.size+1) 25 1):=by
  rw[b4];have:=aB.made (w.alloc (.cells #[.slice a3 l.length a4] 25)) #[J3] 25;rw[OC] at this;exact this
 have p3:=Z.row.lt;have h6:=Kz Z;have h7:=Kz (Z.kept k0);have k8:=Kz (hG.kept k0);clear Z hG;go_enter func110,ntmps110
 go_upto_region 1 with fail
 rw[<-b4];have k9:=Kz h4;have l0:S.cell? ⟨w.heap.size,0,none⟩=some (.slice a3 l.length a4):=by
  rw[b4,K_.cell (w:=w.alloc (.cells #[.slice a3 l.length a4] 25)) (ah _ _) A9];exact Xz w _ _ 0 _ rfl
 have bz:w.heap.size<S.heap.size:=A7;clear b4 h4;go_wp2_with fail
 refine (tK _ a3 a4 l ⟨#[]⟩ (mN:=mN) A7 A7 h0 k8.o.Lg).mono ?_;rintro e A ⟨av,q,xs,base,rfl,h8,hO,hP,k1⟩;obtain⟨L,hL⟩:=ai (l.filter (bZ (⟨#[]⟩:Ps).toList));rw[<-hL] at hO hP⊢;have p4:L.length<=200:=by rw[hL];exact NT (List.length_filter_le _ _) hl
 have p5:L.length<=l.length:=by rw[hL];exact List.length_filter_le _ _
 have h9:∀d∈L,d.TinyN mN:=λd r=>h0 d (by rw[hL] at r;exact (List.mem_filter.1 r).1)
 have kw:K_ A (A.alloc (.cells #[.slice av L.length q] 25)):=ah _ _;have a0:Hid (gu mN S (A.alloc (.cells #[.slice av L.length q] 25)) rb A.heap.size a cap bs p (.slice av L.length q) L xs):=
  ⟨(h7.o.kept k1).kept kw,⟨p,h7.o⟩,k1.size,.au (k1.trans kw),aB.made A _ _,Xz A _ _ 0 _ rfl,gQ (ak hO kw) h8,hP.same (u:=25) (.au kw) A8 A8 A8,h9⟩
 have a6:=Kz ((h5.o.kept k1).kept kw);have i0:w.heap.size+1≠A.heap.size:=by have:=(h5.o.kept k1).lt;omega
 clear hL hO hP h9 k1 kw l0 bz h8;go_upto_region 2 with fail
 obtain⟨w2,i1⟩:=ai (A.alloc (.cells #[.slice av L.length q] 25));rw[<-i1] at a0 a6⊢;clear i1;have y0:=a0.o.c0;have zb:=a0.o.row.lt;by_cases d1:L.length=0
 .have i2:((L.length:Int) == 0)=true:=by simp[d1]
  clear d1;obtain⟨⟨_,x0⟩,g0⟩:=a6.o.row.at (i:=0) A7;have xz:=a6.o.lt;go_wp2
  have Z:=NU w2 (w.heap.size+1) 0 [.slice av L.length q] (a6.o.row.there (o:=0) (m:=1) (NQ _));exact X_ [.slice av L.length q] _ results110 rfl Z underlying25 rfl Tryz.g_ rfl ((a0.o.fin.mono (n:=mN+10) A7).ends a6.o A7 k0 h6.o rfl (NQ _) A7 A7)
 have i2:((L.length:Int) == 0)=false:=by simpa using d1
 have a7:0<L.length:=A7;obtain⟨g,gc,I,c2,F,p7⟩:=a0.o.uR a7;simp only[OG,true_and] at I;obtain⟨rfl,rfl⟩:=I;clear d1 F;go_wp2_with fail
 refine (pq _ rb a cap bs p L.length a0.o.rd A7 A7 a5).mono ?_;rintro e w3 ⟨k,rfl,hk,i3,e8⟩;have e9:=Kz (a0.o.drawn i3 e8);have i4:=Kz (a6.o.but e8 A7);have T:k<L.length:=A7;clear i3 e8 a0 a6 y0 zb i2;go_wp2_with fail
 refine (aM _ rb a cap bs (p+1) _ 5 rfl e9.o.rd A7 A7 a5).mono ?_;rintro e i ⟨s,rfl,p8,i5,f0⟩;have j:=Kz (e9.o.drawn i5 f0);have X:=Kz (i4.o.but f0 A7);clear i5 f0 e9 i4;have a8:Hid (aB i g 88 (q*3)):=by
  obtain⟨g',c',I,_,F,_⟩:=j.o.uR a7;simp only[OG,true_and,OE,Po,and_true] at I;obtain⟨rfl,rfl⟩:=I;exact F
 go_upto_block 0 with fail
 go_cut [7,8,9] from 24 to 115 (λ_ _ _ wx=>LX (mN+10) (l.length+62) S wx rb A.heap.size (w.heap.size+1) a cap bs p 20)
 case rest=>
  obtain⟨va,vc,D,p',h1,h2,h3,b0,hF⟩:=hcut;obtain⟨wE,rfl⟩:=ai wc;have⟨HF,c3⟩:=aH hF b0;have p9:=hF.c0;have oz:=hF.row.lt;obtain⟨⟨_,x0⟩,g0⟩:=b0.row.at (i:=0) A7;have xz:=b0.lt;clear hF b0 j X a8;go_wp2
  have Z:=NU wE (w.heap.size+1) 0 [.slice va D.length vc] (c3.o.row.there (o:=0) (m:=1) (NQ _));exact X_ [.slice va D.length vc] _ results110 rfl Z underlying25 rfl Tryz.g_ rfl (HF.o.ends c3.o A7 k0 h6.o rfl h1 h2 h3)
 case first=>
  have y4:=j.o.c0;have d2:=j.o.row.lt;have f1:=a8.o.lt;have b5:k*3+3<=q*3:=A7;have q0:w.heap.size+1≠g:=by have:=k9.o;omega
  have q2:(k:Int)<(L.length:Int):=A7;by_cases U:s=0
  .have d3:((s:Int) == 0)=true:=by simp[U]
   clear U;go_upto_region 10 with fail
   have t:=Kz (j.o.kept (bD i));have a1:=Kz (X.o.kept (bD i));refine Qx.region C9 (λ(v:Pv)=>v.cell? ⟨A.heap.size,0,none⟩=some (.b g L.length q)) 14 t.o.c0 (λh=>?_);generalize l1:i.drew=wd at h t a1⊢;clear l1 y4 d2 f1 j X a8;refine ax 0 h ?_;refine ae 8 h ?_;refine aF 4 (λK b=>?_);go_simp
   go_at_call 19
   refine (aM _ rb a cap bs (p+2) _ 2 rfl t.o.rd A7 A7 a5).mono ?_;rintro e B ⟨b1,rfl,hq,J,x⟩;have V:=Kz (t.o.drawn J x);have b6:=Kz (a1.o.but x A7);dsimp only;refine b.out _ _ (λ_=>V.o.c0) ?_;clear b K h J x t a1;have h:=V.o.c0;try simp only[upP]
   have ew:IntKind.i64.wrap (20+ (b1:Int))=20+ (b1:Int):=E8;refine cB 5 (.a (20+ (b1:Int))) h ?_ ?_
   .intro u hu;try dsimp only at hu
    go_simp
    try with_reducible rfl
   try simp only[upP]
   refine aF 6 (λK b=>?_);go_simp
   go_at_call 163
   refine (wh _ ⟨#[110]⟩ _ (20+b1) (by push_cast;rfl) A7 A8).mono ?_;rintro e w6 ⟨⟨M,rfl,hx⟩,l2⟩;have l3:M.size<=300:=by have c4:(⟨#[110]⟩:Ps).size=1:=rfl;rw[c4] at hx;omega
   subst l2;dsimp only;refine af b (λ_=>V.o.c0) ?_;clear b K;have i6:∀c∈([⟨#[]⟩,⟨#[45]⟩,⟨#[97,44,98]⟩,⟨#[97]⟩,M]:List Ps),c.size<=300:=by
    intro c hc;simp only[OL,OM,or_false] at hc;rcases hc with rfl | rfl | rfl | rfl | rfl <;> first | exact l3 | decide
   clear ew;refine iy 7 9 (λK b=>?_) (λK b=>?_)
   .rw[Pe D8];go_simp
    have K3:K_ w6 (w6.alloc (.cells #[.string ⟨#[]⟩,.string ⟨#[45]⟩,.string ⟨#[97,44,98]⟩,.string ⟨#[97]⟩,.string M] 9)):=ah _ _;have b7:=Kz (V.o.kept K3);have b8:=Kz (b6.o.kept K3);refine af b (λ_=>b7.o.c0) ?_;clear b K;clear h K3;refine aF 9 (λK b=>?_);go_simp
    go_at_call 19
    refine (aM _ rb a cap bs (p+3) _ 5 rfl b7.o.rd A7 A7 a5).mono ?_;rintro e wE ⟨y,rfl,f2,J,x⟩;have C:=Kz (b7.o.drawn J x);have d4:=Kz (b8.o.but x A7);obtain⟨c,hc,f3⟩:=Bh [⟨#[]⟩,⟨#[45]⟩,⟨#[97,44,98]⟩,⟨#[97]⟩,M] x V.o.rd.row.lt y (by show y<5;omega) i6;have lz:w6.heap.size<wE.heap.size:=Nat.lt_of_lt_of_le A9 x.size;clear J x;dsimp only;refine af b (λ_=>C.o.c0) ?_;clear b K;have l4:(y:Int)<5:=A7;refine aj 10 (λK b=>?_);go_simp
    refine af b (λ_=>C.o.c0) ?_;clear b K;refine aj 11 (λK b=>?_);go_simp
    refine af b (λ_=>C.o.c0) ?_;clear b K;have h:=C.o.c0;refine ae 12 h ?_;refine ae 13 h ?_;have f:aB wE g 88 (q*3):=by
     obtain⟨g',c',I,_,F,_⟩:=C.o.uR a7;simp only[OG,true_and,OE,Po,and_true] at I;obtain⟨rfl,rfl⟩:=I;exact F
    have zg:=f.lt;obtain⟨⟨_,u0⟩,l5⟩:=f.row.at (i:=k*3) A7;have HF:=Kz ((C.o.fin.mono (n:=mN+10) A7).Gu c2 T f b5 f3);have b2:=Kz (d4.o.ji (f.same (o:=k*3) (.string c)) A8).1;clear f;refine aj 14 (λK b=>?_);go_simp
    refine af b (λY=>Pg rfl Y) ?_;clear b K;refine aG ?_;go_wp2
    go_meet
    exact⟨some ⟨g,0,none⟩,q,L.set k ⟨c,(L.getD k Qq.zero).cost,(L.getD k Qq.zero).steps⟩,p+4,A7,A7,by rw[OZ];omega,b2.o,by rw[OZ];exact HF.o⟩
   .rw[Pe D8];go_simp
    go_at_call 19
    refine (aM _ rb a cap bs (p+3) _ 5 rfl V.o.rd A7 A7 a5).mono ?_;rintro e N ⟨y,rfl,f2,J,x⟩;have b7:=Kz (V.o.drawn J x);have b8:=Kz (b6.o.but x A7);clear J x;dsimp only;refine af b (λ_=>b7.o.c0) ?_;clear b K h;refine aF 7 (λK b=>?_);go_simp
    have K3:K_ N (N.alloc (.cells #[.string ⟨#[]⟩,.string ⟨#[45]⟩,.string ⟨#[97,44,98]⟩,.string ⟨#[97]⟩,.string M] 9)):=ah _ _;have C:=Kz (b7.o.kept K3);have d4:=Kz (b8.o.kept K3);obtain⟨c,hc,f3⟩:=Db N 9 [⟨#[]⟩,⟨#[45]⟩,⟨#[97,44,98]⟩,⟨#[97]⟩,M] y (by show y<5;omega) i6;have lz:N.heap.size<(N.alloc (.cells #[.string ⟨#[]⟩,.string ⟨#[45]⟩,.string ⟨#[97,44,98]⟩,.string ⟨#[97]⟩,.string M] 9)).heap.size:=A9;have l6:(N.alloc (.cells #[.string ⟨#[]⟩,.string ⟨#[45]⟩,.string ⟨#[97,44,98]⟩,.string ⟨#[97]⟩,.string M] 9)).cell? ⟨N.heap.size,y,none⟩=some (.string c):=hc;refine b.out _ _ (λ_=>C.o.c0) ?_;clear b K hc K3;generalize l7:N.alloc (.cells #[.string ⟨#[]⟩,.string ⟨#[45]⟩,.string ⟨#[97,44,98]⟩,.string ⟨#[97]⟩,.string M] 9)=wE at C d4 lz l6⊢;clear l7;try simp only[upP]
    have l4:(y:Int)<5:=A7;refine aj 10 (λK b=>?_);go_simp
    refine af b (λ_=>C.o.c0) ?_;clear b K;refine aj 11 (λK b=>?_);go_simp
    refine af b (λ_=>C.o.c0) ?_;clear b K;have h:=C.o.c0;refine ae 12 h ?_;refine ae 13 h ?_;have f:aB wE g 88 (q*3):=by
     obtain⟨g',c',I,_,F,_⟩:=C.o.uR a7;simp only[OG,true_and,OE,Po,and_true] at I;obtain⟨rfl,rfl⟩:=I;exact F
    have zg:=f.lt;obtain⟨⟨_,u0⟩,l5⟩:=f.row.at (i:=k*3) A7;have HF:=Kz ((C.o.fin.mono (n:=mN+10) A7).Gu c2 T f b5 f3);have b2:=Kz (d4.o.ji (f.same (o:=k*3) (.string c)) A8).1;clear f;refine aj 14 (λK b=>?_);go_simp
    refine af b (λY=>Pg rfl Y) ?_;clear b K;refine aG ?_;go_wp2
    go_meet
    exact⟨some ⟨g,0,none⟩,q,L.set k ⟨c,(L.getD k Qq.zero).cost,(L.getD k Qq.zero).steps⟩,p+4,A7,A7,by rw[OZ];omega,b2.o,by rw[OZ];exact HF.o⟩
  by_cases h1:s=1
  .have d3:((s:Int) == 0)=false:=by simpa using U
   have c4:((s:Int) == 1)=true:=by simp[h1]
   clear U h1;obtain⟨G,O,f,z⟩:=j.o.web.cells T;obtain⟨d,r⟩:=ai (L.getD k Qq.zero);have Q:=j.o.tiny d (by rw[r];simp[List.getD,T]);rw[<-r] at f z;have E:=f 1 _ rfl;have n2:=f 2 _ rfl;have c5:=Kz z;have l8:Hid (kW i G d.steps):=by
    obtain⟨a9,c9,i7,_,hS⟩:=z.FJ;simp only[OG,true_and] at i7;obtain⟨rfl,rfl⟩:=i7;exact hS
   have⟨HD,b3⟩:=aH r Q;clear f z r Q;go_upto_region 12 with fail
   refine Qx.region C9 (λ(v:Pv)=>v.cell? ⟨A.heap.size,0,none⟩=some (.b g L.length q)/\v.cell? ⟨g,k*3+1,none⟩=some (.a d.cost)/\v.cell? ⟨g,k*3+2,none⟩=some (.slice G d.steps.length O)) 13 ⟨y4,E,n2⟩ (λh=>?_);refine ax 0 h ?_;refine ax 4 h ?_;refine ae 8 h ?_;refine ae 9 h ?_;refine aF 10 (λK b=>?_);go_simp
   go_at_call 164
   refine (GH mN k7 _ rb a cap bs (p+2) d.cost G O d.steps ((j.o.kept (bD i)).rd) A7 a5 b3.o.steps b3.o.cost b3.o.each (l8.o.kept (bD i))).mono ?_;rintro e w6 ⟨cost,u,LS,p6,rfl,q3,q4,l9,m0,m1,i8,i9,d5⟩;have V:=Kz ((j.o.kept (bD i)).drawn i9 d5);have b6:=Kz ((X.o.kept (bD i)).but d5 A7);have j0:=Kz i8.g;obtain⟨ua,uc,rfl⟩:=j0.o.slice;have c6:=d5.sameKind (j.o.kept (bD i)).rd;have f:=a8.o.kept (bD i);have d6:=f.ji c6 A8;have j1:(λ(v:Pv)=>v.cell? ⟨A.heap.size,0,none⟩=some (.b g L.length q)/\v.cell? ⟨g,k*3+1,none⟩=some (.a d.cost)/\v.cell? ⟨g,k*3+2,none⟩=some (.slice G d.steps.length O)) w6:=⟨V.o.c0,(d6.2 _).trans E,(d6.2 _).trans n2⟩;have f4:=Kz d6.1;dsimp only;refine b.out _ _ (λ_=>j1) ?_;clear b K h i8 i9 d5 c6 f d6;have h:=j1;try simp only[upP]
   refine ae 11 h ?_;refine ae 12 h ?_;have HF:=Kz ((V.o.fin.mono (n:=mN+10) A7).I_ c2 T f4.o b5 j0.o m0 l9 m1);have b2:=Kz (b6.o.ji (f4.o.setCells [.a cost,.slice ua LS.length uc] (k*3+1)).2 A8).1;refine aF 13 (λK b=>?_);refine wp_store_mid 73 _ _ rfl g (k*3+1) #[.a cost,.slice ua LS.length uc] D8 D8 (f4.o.row.there D6) C9 (LM ..) ?_;refine af b (λY=>Pg rfl Y) ?_;clear b K;refine aG ?_;go_wp2
   go_meet
   exact⟨some ⟨g,0,none⟩,q,L.set k ⟨(L.getD k Qq.zero).name,cost,LS⟩,p6,A7,A7,by rw[OZ];omega,b2.o,by rw[OZ];exact HF.o⟩
  by_cases h2:s=2
  .have d3:((s:Int) == 0)=false:=by simpa using U
   have c4:((s:Int) == 1)=false:=by rw[beq_eq_false_iff_ne];omega
   have e2:((s:Int) == 2)=true:=by simp[h2]
   clear U h1 h2;go_wp2_with fail
   refine (aM _ rb a cap bs (p+2) _ 2 rfl j.o.rd A7 A7 a5).mono ?_;rintro e B ⟨b1,rfl,hq,J,x⟩;have t:=Kz (j.o.drawn J x);have a1:=Kz (X.o.but x A7);clear J x j X a8 y4 d2 f1;obtain⟨E,q5⟩:∃E:Nat,E=60+b1:=⟨_,rfl⟩;go_wp2
   go_loopg [8] (E-L.length) (λgq M wr=>∃(a2:Nat) (v:Pw) (D:List Qq) (ys:List Pw),M= .a (a2:Int)/\a2+gq<=61/\E<=D.length+gq/\(gq=0\/D.length+gq=E)/\D.length<=l.length+61/\aB wr (w.heap.size+1) 25 1/\gu mN S wr rb A.heap.size a cap bs (p+3) v D ys)
   case atStart=>exact⟨0,_,L,xs,rfl,A7,A7,A7,A7,a1.o,t.o⟩
   case round=>
    clear t a1;obtain⟨a2,v,D,ys,rfl,hi,hn,m2,m3,b0,hS⟩:=hrel;obtain⟨wO,rfl⟩:=ai wr;have⟨HO,c3⟩:=aH hS b0;obtain⟨va,vc,rfl⟩:=ay hS.own;have y0:=hS.c0;have zb:=hS.row.lt;clear hS b0;by_cases m4:(D.length:Int)<60+ (b1:Int)
    .have q6:0<gk:=A7;obtain⟨d7,f5⟩:=ai (D.length);have q7:d7<=61:=A7;have HN:=Kz f5;rw[<-f5] at y0 m4 hn m2 m3;obtain⟨q1,m5⟩:=ai (a2 / 26);obtain⟨y,f2⟩:=ai (a2 % 26);have et:(a2:Int).tdiv 26= (q1:Int):=by rw[Int.tdiv_eq_ediv_of_nonneg A7];omega
     have er:(a2:Int).tmod 26= (y:Int):=by rw[Int.tmod_eq_emod_of_nonneg A7];omega
     have q8:q1<=2:=A7;have q9:y<=25:=A7;clear m5 f2 f5;have m6:=Kz (GJ (P:=prog) wO 22 5 9 underlying22 underlying5 underlying9 (97+ (q1:Int)) (97+ (y:Int)));obtain⟨bz,f7⟩:=ai (strOfNums [97+ (q1:Int),97+ (y:Int)]);have m7:bz.size=2:=by rw[f7];rfl
     obtain⟨R,j2⟩:∃R:Ps,(⟨#[122,122]⟩:Ps)++bz=R:=⟨_,rfl⟩;have j3:R.size<=300:=by rw[<-j2,ByteArray.size_append,m7];decide
     have b5:=m6.o;rw[<-f7] at b5;have f6:¬9223372036854775807<2+bz.size:=A7;have r0:¬9223372036854775807<4:=A7;obtain⟨H,c7⟩:=ai (wO.alloc (.cells #[.int .u8 (97+ (q1:Int)),.int .u8 (97+ (y:Int))] 5));have j4:K_ wO H:=by rw[c7];exact ah _ _
     have f8:Hid (dB (H.alloc (.cells #[J3,.a 0,J3,.a 0,.a 0,.bool true,.bool false,.string ⟨#[]⟩] 176)) (.b H.heap.size 1 1) [bY ⟨#[]⟩]):=A_ H;have f9:K_ H (H.alloc (.cells #[J3,.a 0,J3,.a 0,.a 0,.bool true,.bool false,.string ⟨#[]⟩] 176)):=ah _ _;obtain⟨W2,d8⟩:=ai (H.alloc (.cells #[J3,.a 0,J3,.a 0,.a 0,.bool true,.bool false,.string ⟨#[]⟩] 176));rw[<-d8] at f8 f9;have d9:K_ W2 (W2.alloc (.cells #[.string R,.a 1,.b H.heap.size 1 1] 88)):=ah _ _;obtain⟨W3,g1⟩:=ai (W2.alloc (.cells #[.string R,.a 1,.b H.heap.size 1 1] 88));have g2:=nZ W2 R 1 (.b H.heap.size 1 1);rw[<-g1] at d9 g2;have e0:=Kz ((j4.trans f9).trans d9);have j5:=Kz (HO.o.kept e0.o);have g3:=j5.o.own;rw[<-HN.o] at g3;have⟨j6,m8,m9⟩:=fu g3 j5.o.kb.size g2;have n1:=Kz (f8.o.same (u:=25) (.au d9) A8 A8 A8);have HD:Hid (Qq.TinyN mN ⟨R,1,[bY ⟨#[]⟩]⟩):=⟨j3,⟨by show (-1000:Int)<=1;decide,by show (1:Int)<=1000;decide⟩,by show 1<=21;omega,λr1 hy=>by simp only[NZ] at hy;subst hy;exact iU (show (0:Nat)<=300 by omega)⟩;obtain⟨g4,g5,g6,g7,g8⟩:=aS Tryz.nK;have HE:Hid (((wO.alloc (.cells #[.int .u8 (97+ (q1:Int)),.int .u8 (97+ (y:Int))] 5)).alloc (.cells #[J3,.a 0,J3,.a 0,.a 0,.bool true,.bool false,.string ⟨#[]⟩] 176)).alloc (.cells #[.string ((⟨#[122,122]⟩:Ps)++strOfNums [97+ (q1:Int),97+ (y:Int)]),.a 1,.b (wO.heap.size+1) 1 1] 88)=W3):=by
      show _=_;rw[g1,d8,c7,<-j2,f7];simp only[OC]
     have j7:wO.heap.size+1=H.heap.size:=by rw[c7];simp
     have j8:wO.heap.size+1+1=W2.heap.size:=by rw[d8,c7];simp
     have⟨r2,n3⟩:=aH j7 j8;clear c7 d8 g1 j4 f9 d9 g2 g3 j7 j8 j3 f8;go_wp2_with (at_builtin;rw[HE.o];refine wpList_append_lies _ rfl (.tmp 85) (.tmp 101) 23 rfl S.heap.size 88 g4 _ 3 48 underlying23 g5 g6 g7 g8 rfl A8 (.slice va d7 vc) d7 ys rfl j6.o ⟨W2.heap.size,0,none⟩ 1 1 [.string R,.a 1,.b H.heap.size 1 1] (by rw[<-n3.o];rfl) rfl m9.o (oo _ _ _ _ _) A7 D5 A7 m8.o _ rfl ?_;intro r3 c9 w9 j9 F _ _;have W:=HO.o.fZ e0.o (by rw[<-HN.o];exact F);have r4:=W.1;have z9:=W.2.lt;have n4:=(W.2.row.at (i:=0) A7).2;have n5:=Kz (HO.o.push (d:=⟨R,1,[bY ⟨#[]⟩]⟩) e0.o n1.o HD.o (by rw[<-HN.o];exact j9) (by rw[<-HN.o];exact F));have n6:Hid (aB w9 (w.heap.size+1) 25 1):=((c3.o.kept e0.o).ji (aC.aI j6.o F) A8).1;clear W j9 F)
     go_roundg (gk-1)
     case rel=>
      have hP:=n5.o;have k2:(D++ [⟨R,1,[bY ⟨#[]⟩]⟩]:List Qq).length=d7+1:=by rw[OD,HN.o];rfl
      exact⟨a2+1,_,D++ [⟨R,1,[bY ⟨#[]⟩]⟩],_,C8,A7,A7,A7,A7,n6.o.block (Below.heap_setCell _ _ _ _ (by simpa using i0)),hP⟩
     case measure=>omega
    .go_wp2
     go_meet
     exact⟨va,vc,D,p+3,A7,A7,A7,c3.o,HO.o.fin.mono A7⟩
  by_cases h3:s=3
  .have d3:((s:Int) == 0)=false:=by simpa using U
   have c4:((s:Int) == 1)=false:=by rw[beq_eq_false_iff_ne];omega
   have e2:((s:Int) == 2)=false:=by rw[beq_eq_false_iff_ne];omega
   have e3:((s:Int) == 3)=true:=by simp[h3]
   clear U h1 h2 h3;obtain⟨G,O,f,z⟩:=j.o.web.cells T;obtain⟨d,r⟩:=ai (L.getD k Qq.zero);have Q:=j.o.tiny d (by rw[r];simp[List.getD,T]);rw[<-r] at f z;have n0:=f 0 _ rfl;have E:=f 1 _ rfl;have n2:=f 2 _ rfl;rw[OJ] at n0;have⟨c5,b3⟩:=aH z Q;clear f z r Q;obtain⟨g4,g5,g6,g7,g8⟩:=aS Tryz.nK;go_upto_region 20 with fail
   refine Qx.region C9 (λ(v:Pv)=>v.cell? ⟨A.heap.size,0,none⟩=some (.b g L.length q)) 10 y4 (λh=>?_);refine ax 0 h ?_;refine ae 4 h ?_;refine ae 5 h ?_;refine aj 6 (λK b=>?_);go_simp
   refine af b (λ_=>y4) ?_;clear b K;refine aj 7 (λK b=>?_);go_simp
   have KW:K_ i (i.drew.alloc (.cells #[.string d.name,.a d.cost,.slice G d.steps.length O] 88)):=(bD i).alloc _;refine af b (λ_=>(KW.cell d2).trans y4) ?_;clear b K h;refine aj 8 (λK b=>?_);have t:=Kz (j.o.kept KW);refine step_append_lies _ rfl (.tmp 107) (.tmp 113) 23 rfl S.heap.size 88 g4 _ 3 48 underlying23 g5 g6 g7 g8 rfl A8 (.b g L.length q) L.length xs D9 t.o.own ⟨i.heap.size,0,none⟩ 1 1 [.string d.name,.a d.cost,.slice G d.steps.length O] D9 rfl (nZ _ _ _ _) (oo _ _ _ _ _) A7 D5 A7 t.o.kb.size _ rfl ?_;intro n7 n8 w6 k3 e1 n9 r5;have W:=j.o.fZ KW e1;have y6:=W.1;have r6:=W.2.lt;have n4:=(W.2.row.at (i:=0) A7).2;obtain⟨vo,r7⟩:=(W.2.row.at (i:=0) A7).1;have o0:=Kz (j.o.push (d:=d) KW (c5.o.same (u:=25) (.au KW) A8 A8 A8) b3.o k3 e1);have c6:=aC.aI t.o.own e1;have b6:Hid (aB w6 (w.heap.size+1) 25 1):=((X.o.kept KW).ji c6 A8).1;clear W k3 e1 n9 c6 KW;refine af b (λ_=>y6) ?_;clear b K;have h:=y6;refine ae 9 h ?_;refine aj 10 (λK b=>?_);go_simp
   refine af b (λY=>Pg rfl Y) ?_;clear b K;refine aG ?_;go_wp2
   go_meet
   have hF:=o0.o.fin.mono (n:=mN+10) A7;have k2:(L++ [d]).length=L.length+1:=A9;exact⟨some ⟨n7,0,none⟩,n8,L++ [d],p+2,A7,A7,A7,b6.o.block (Below.heap_setCell _ _ _ _ (by simpa using i0)),by rw[k2];exact hF⟩
  have d3:((s:Int) == 0)=false:=by simpa using U
  have c4:((s:Int) == 1)=false:=by rw[beq_eq_false_iff_ne];omega
  have e2:((s:Int) == 2)=false:=by rw[beq_eq_false_iff_ne];omega
  have e3:((s:Int) == 3)=false:=by rw[beq_eq_false_iff_ne];omega
  clear U h1 h2 h3;obtain⟨G,O,f,z⟩:=j.o.web.cells a7;obtain⟨d,r⟩:=ai (L.getD 0 Qq.zero);have Q:=j.o.tiny d (by rw[r];simp[List.getD,a7]);rw[<-r,Nat.zero_mul] at f;rw[<-r] at z;have n0:=f 0 _ rfl;have E:=f 1 _ rfl;have n2:=f 2 _ rfl;simp only[Ow] at n0 E n2;have⟨c5,b3⟩:=aH z Q;have r8:(0:Int)<(L.length:Int):=A7;clear f z r Q;go_upto_region 7 with fail
  obtain⟨B,c8⟩:=ai (i.alloc (.cells #[.string d.name,.a d.cost,.slice G d.steps.length O] 88));have K5:K_ i B:=by rw[c8];exact ah _ _
  have hx:=Xz i #[.string d.name,.a d.cost,.slice G d.steps.length O] 88;rw[<-c8] at hx;have x0:=hx 0 _ rfl;have x1:=hx 1 _ rfl;have x2:=hx 2 _ rfl;simp only[Ow] at x0 x1 x2;have xz:i.heap.size<B.heap.size:=by rw[c8];simp
  rw[<-c8];have t:=Kz (j.o.kept K5);have a1:=Kz (X.o.kept K5);have e4:=Kz (a8.o.kept K5);have o1:=Kz (c5.o.same (u:=25) (.au K5) A8 A8 A8);have o2:g≠i.heap.size:=A7;clear c8 K5 hx y4 d2 f1 j X a8 c5 n0 E n2;have y5:=t.o.c0;have r9:=t.o.row.lt;have s0:=e4.o.lt;obtain⟨b9,c1,f,z⟩:=t.o.web.cells T;obtain⟨n,r⟩:=ai (L.getD k Qq.zero);have Q:=t.o.tiny n (by rw[r];simp[List.getD,T]);rw[<-r] at f z;have n0:=f 0 _ rfl;have E:=f 1 _ rfl;have n2:=f 2 _ rfl;rw[OJ] at n0;have⟨o3,o4⟩:=aH z Q;clear f z r Q;have KD:K_ B B.drew:=bD B;have e5:=Kz (((t.o.kept KD).fin.mono (n:=mN+10) A7).setNode (k:=0) (d:=n) c2 a7 (e4.o.kept KD) A7 (o3.o.same (u:=25) (.au KD) A8 A8 A8) (o4.o.mono A7));have e6:=(e4.o.kept KD).setCells [.string n.name,.a n.cost,.slice b9 n.steps.length c1] (0*3);have d0:=Kz e6.1;have b8:=Kz ((a1.o.kept KD).ji e6.2 A8).1;have k4:=Kz ((o1.o.same (u:=25) (.au KD) A8 A8 A8).same e6.2 A8 A8 A8);have e7:∀o v,B.cell? ⟨i.heap.size,o,none⟩=some v->(B.drew.setCells g (0*3) [.string n.name,.a n.cost,.slice b9 n.steps.length c1]).cell? ⟨i.heap.size,o,none⟩=some v:=λo v hv=>(Oh (Aw (w:=B.drew) (q:=o) hv) _ _ _ (.inl (λe=>o2 (by simpa using e.symm)))) 0 _ rfl
  have o5:=e7 _ _ x0;have o6:=e7 _ _ x1;have o7:=e7 _ _ x2;have o8:i.heap.size<(B.drew.setCells g (0*3) [.string n.name,.a n.cost,.slice b9 n.steps.length c1]).heap.size:=by rw[size_setCells];exact xz
  clear e6 e7 KD;refine Qx.region C9 (λ(v:Pv)=>v.cell? ⟨A.heap.size,0,none⟩=some (.b g L.length q)) 8 y5 (λh=>?_);refine ax 0 h ?_;refine ae 4 h ?_;refine ae 5 h ?_;refine aj 6 (λK b=>?_);go_simp
  refine af b (λ_=>y5) ?_;clear b K;refine ae 7 h ?_;refine aF 8 (λK b=>?_);refine wp_store_mid 88 _ _ rfl g (0*3) #[.string n.name,.a n.cost,.slice b9 n.steps.length c1] D8 D8 ((e4.o.kept (bD B)).row.there D6) C9 (FP ..) ?_;refine af b (λY=>Pg rfl Y) ?_;clear b K;refine aG ?_;obtain⟨N,g9⟩:=ai (B.drew.setCells g (0*3) [.string n.name,.a n.cost,.slice b9 n.steps.length c1]);rw[<-g9] at e5 d0 b8 k4 o5 o6 o7 o8;have k5:B.drew.setCells g (0*3) (#[.string n.name,.a n.cost,.slice b9 n.steps.length c1]:Array Pw).toList=N:=g9.symm;rw[k5];clear k5;clear g9;have s1:=e5.o.c0;have s2:=e5.o.row.lt;have s3:=d0.o.lt;have o9:k<(L.set 0 n).length:=by rw[OZ];exact T
  have p0:=Kz (e5.o.setNode (k:=k) (d:=d) c2 o9 d0.o b5 k4.o (b3.o.mono A7));have b2:=Kz (b8.o.ji (d0.o.setCells [.string d.name,.a d.cost,.slice G d.steps.length O] (k*3)).2 A8).1;have p1:Hid (N.there g (k*3) 3):=d0.o.row.there A7;have k6:(prog.info? 88).map (·.size)=some 3:=C9;have p2:=Kz k6;clear k6;go_wp2_with (refine wpList_store_mid rfl 88 _ _ rfl g (k*3) #[.string d.name,.a d.cost,.slice G d.steps.length O] rfl rfl p1.o p2.o (FP ..) ?_)
  go_meet
  exact⟨some ⟨g,0,none⟩,q,(L.set 0 n).set k d,p+2,A7,A7,by rw[OZ,OZ];omega,b2.o,by rw[OZ,OZ];exact p0.o⟩
structure jQ (wO wr:Pv) (rb sb:Nat) (a:Pt) (cap:Nat) (bs:List UInt8) (p:Nat) (aa:Pt) (ca:Nat) (s:Xj):Prop where
 rd:Rd wr rb a cap bs p
 kb:Xk rb (rb+1) wO wr
 sbl:wO.heap.size<=sb
 box:dD wr sb (.slice aa s.asks.length ca) J3 s
 asks:oD wr aa s.asks
 room:s.asks.length<=ca
 nil:aa=none->s.asks.length=0/\ca=0
 cases:s.cases=[]
 tiny:s.TinyN 20
variable {ca sb : Nat} {aa : Pt} {s : Xj} {w' wO : Pv}
theorem jQ.kept(h:jQ wO wr rb sb a cap bs p aa ca s)(k:K_ wr w'):jQ wO w' rb sb a cap bs p aa ca s:=
 ⟨h.rd.kept k,h.kb.gp k,h.sbl,h.box.kept k,h.asks.same (u:=25) (.au k) A8,h.room,h.nil,h.cases,h.tiny⟩
theorem jQ.drawn{p':Nat}(h:jQ wO wr rb sb a cap bs p aa ca s)(d:rb<wO.heap.size)(c:Rd w' rb a cap bs p')(k:Xk rb (rb+1) wr w'):jQ wO w' rb sb a cap bs p' aa ca s:=by
 have e:=h.sbl;exact⟨c,h.kb.trans k,h.sbl,h.box.block (k.block sb h.box.row.lt A7),h.asks.same (k.sameKind h.rd) A8,h.room,h.nil,h.cases,h.tiny⟩
theorem jQ.steps(h:jQ wO wr rb sb a cap bs p aa ca s):
  dB (wr.alloc (.cells #[.slice aa s.asks.length ca,.a s.on,J3,.a s.els,.a s.fall,.bool s.fin,.bool s.bad,.string s.give,J3,.a 0,J3,.a 0,.a 0,.bool true,.bool false,.string ⟨#[114]⟩] 176)) (.b wr.heap.size 2 2) [s,bY ⟨#[114]⟩]:=by
 have k:K_ wr (wr.alloc (.cells #[.slice aa s.asks.length ca,.a s.on,J3,.a s.els,.a s.fall,.bool s.fin,.bool s.bad,.string s.give,J3,.a 0,J3,.a 0,.a 0,.bool true,.bool false,.string ⟨#[114]⟩] 176)):=ah _ _;have d:=Xz wr #[.slice aa s.asks.length ca,.a s.on,J3,.a s.els,.a s.fall,.bool s.fin,.bool s.bad,.string s.give,J3,.a 0,J3,.a 0,.a 0,.bool true,.bool false,.string ⟨#[114]⟩] 176;have e:s.cases.length=0:=by rw[h.cases];rfl
 refine⟨_,2,rfl,NQ _,λi f=>?_⟩
 match i,f with
 | 0,_=>
  refine⟨wr.heap.size,0,_,_,s.cells aa ca none 0,rfl,heap_alloc_new wr _,λj u b=>?_,⟨aa,ca,none,0,rfl,h.asks.same (u:=25) (.au k) A8,.inl h.cases,h.room⟩,kM h.nil (λ_=>⟨e,rfl⟩)⟩;have c:j<8:=by have:=(NW.1 b).1;simpa[Xj.cells] using this
  refine d j u ?_;rw[<-b];unfold Xj.cells;rw[e]
  match j,c with
  | 0,_ | 1,_ | 2,_ | 3,_ | 4,_ | 5,_ | 6,_ | 7,_=>rfl
 | 1,_=>
  refine⟨wr.heap.size,0,_,_,(bY ⟨#[114]⟩).cells none 0 none 0,rfl,heap_alloc_new wr _,λj u b=>?_,(uu _ _).g,qf _⟩;have c:j<8:=by have:=(NW.1 b).1;simpa[Xj.cells] using this
  have:=d (8+j) u;rw[<-Nat.add_assoc] at this;refine this ?_;rw[<-b]
  match j,c with
  | 0,_ | 1,_ | 2,_ | 3,_ | 4,_ | 5,_ | 6,_ | 7,_=>rfl
theorem Bc{α:Type}{p:α->Prop}{x y z:α}(h:x∈[y,z])(d:p y)(e:p z):p x:=by
 simp only[OL,OM,or_false] at h;rcases h with rfl|rfl
 .exact d
 .exact e
theorem dD.ring(w:Pv)(b:Pw)(l:List Ps):dD (w.alloc (.cells #[b,.a 0,J3,.a 1,.a (-1),.bool false,.bool false,.string ⟨#[]⟩] 176)) w.heap.size b J3 ⟨l,0,[],1, -1,false,false,⟨#[]⟩⟩:=by
 have e:=Xz w #[b,.a 0,J3,.a 1,.a (-1),.bool false,.bool false,.string ⟨#[]⟩] 176;have a:∀j v,(#[b,.a 0,J3,.a 1,.a (-1),.bool false,.bool false,.string ⟨#[]⟩]:Array Pw).toList[j]? =some v->J4 (w.alloc (.cells #[b,.a 0,J3,.a 1,.a (-1),.bool false,.bool false,.string ⟨#[]⟩] 176)) w.heap.size j v:=λj v f=>by
  have:=e j v f;rw[Ow] at this;exact this
 exact⟨aB.made w _ _,a 0 _ rfl,a 1 _ rfl,a 2 _ rfl,a 3 _ rfl,a 4 _ rfl,a 5 _ rfl,a 6 _ rfl,a 7 _ rfl⟩
theorem Il{w2:Pv}(b:Rd wO rb a cap bs p)(k:K_ wO w2){x:Ps}(h:x.size<=300):
  SSt wO ((w2.alloc (.cells #[.string x] 9)).alloc (.cells #[.b w2.heap.size 1 1,.a 0,J3,.a 1,.a (-1),.bool false,.bool false,.string ⟨#[]⟩] 176)) rb (w2.heap.size+1) a cap bs p (.b w2.heap.size 1 1) J3 ⟨[x],0,[],1, -1,false,false,⟨#[]⟩⟩:=by
 have i:K_ w2 (w2.alloc (.cells #[.string x] 9)):=ah _ _;have c:K_ (w2.alloc (.cells #[.string x] 9)) ((w2.alloc (.cells #[.string x] 9)).alloc (.cells #[.b w2.heap.size 1 1,.a 0,J3,.a 1,.a (-1),.bool false,.bool false,.string ⟨#[]⟩] 176)):=ah _ _;have K:=(k.trans i).trans c;have m:=k.size;have e:=dD.ring (w2.alloc (.cells #[.string x] 9)) (.b w2.heap.size 1 1) [x];rw[OC] at e;have j:(w2.alloc (.cells #[.string x] 9)).ownsRow wO.heap.size 9 1 (.b w2.heap.size 1 1) 1 [.string x]:=⟨rfl,.inr ⟨w2.heap.size,1,_,rfl,k.size,heap_alloc_new w2 _,NQ _,D5,rfl,rfl⟩⟩;exact⟨b.kept K,⟨p,b⟩,A7,.au K,e,ak j c,OO _ _ _ _,⟨by show 1<=20;omega,(λy f=>by simp at f;subst f;exact h),I7,NS _,(λq l=>by simp at l),by show (-9223372036854775808:Int)<=1/\(1:Int)<=9223372036854775807;decide,by show (-1000:Int)<= -1/\(-1:Int)<=1000;decide,by show (0:Nat)<=300;omega⟩⟩
theorem gG.ring(h:SSt wO wr rb sb a cap bs p (.slice aa n ca) J3 s)(c:s.cases=[]):n=s.asks.length/\jQ wO wr rb sb a cap bs p aa ca s:=by
 obtain⟨i,j,b,d,e⟩:=di h.asks;simp only[OG] at b;obtain⟨rfl,rfl,rfl⟩:=b;exact⟨rfl,h.rd,h.kb,h.sbl,h.box,e.g,d,λf=>by subst f;exact iR h.asks,c,h.tiny⟩
theorem gG.tail(h:SSt wO wr rb sb a cap bs p (.b g s.asks.length c) J3 s)(r:s.cases=[])(f:1<=s.asks.length)(i:aa=some ⟨g,0,none⟩/\c=1\/aa=some ⟨g,1,none⟩)(E:m+1=s.asks.length):
  jQ wO (wr.setCell ⟨sb,0,none⟩ (.slice aa m (c-1))) rb sb a cap bs p aa (c-1) {s with asks:=s.asks.drop 1}:=by
 obtain⟨F,G,j,H,d⟩:=di h.asks;simp only[OG,true_and] at j;obtain⟨rfl,rfl⟩:=j;have k:Below wO.heap.size wr (wr.setCell ⟨sb,0,none⟩ (.slice aa m (c-1))):=(Below.refl _ _).setCell h.sbl _;obtain⟨I,t⟩:=h.rd0;have l:(s.asks.drop 1).length=m:=I6;have v:=h.box.asks (.slice aa m (c-1)) (s.asks.drop 1);rcases d with d|⟨b,J,K,n,w,x⟩
 .rw[d] at f;simp at f
 simp only[OE,Po,and_true] at n;subst n;have y:oD wr aa (s.asks.drop 1):=oD.tail (b:=g) (o:=0) w (λz A=>by rw[Ow];exact x z A) (λB=>by
  rcases i with⟨_,e⟩|e
  .exact Pg (Pj (by rw[l];omega)) B
  .rw[Ow];exact e)
 refine⟨h.rd.below t k h.kb.size,h.kb.below k,h.sbl,by show dD _ sb (.slice aa (s.asks.drop 1).length (c-1)) _ _;rw[l];exact v,y.same (h.box.row.same _) A8,by show (s.asks.drop 1).length<=c-1;omega,λe=>?_,r,⟨by show (s.asks.drop 1).length<=20;have:=h.tiny.asks;omega,λC D=>h.tiny.eZ C (List.mem_of_mem_drop D),h.tiny.on,h.tiny.cases,h.tiny.dG,h.tiny.els,h.tiny.fall,h.tiny.give⟩⟩;rcases i with⟨q,_⟩ | q <;> (rw[q] at e;cases e)
theorem JE :qR 159 400 20 60 700000:=by
 intro w p a r x b0 hR hp a9;have k0:K_ w (w.alloc (.cells #[J3] 25)):=ah _ _;have g0:Hid (Rd (w.alloc (.cells #[J3] 25)) p a r x b0):=hR.kept k0;have l8:=hR.row.lt;have b1:Hid (aB ((w.alloc (.cells #[J3] 25)).alloc (.cells #[J3] 25)) w.heap.size 25 1):=(aB.made w _ _).kept (ah _ _);have e2:=gu.made (mN:=20) g0.o g0.o (Xk.refl _ _ _);rw[OC] at e2;have⟨e4,i7⟩:=aH e2 hR;clear hR e2;go_enter func159,ntmps159
 go_wp2_with fail
 refine (aM _ p a r x b0 _ 9 rfl e4.o.rd A7 A7 a9).mono ?_;rintro J w1 ⟨v1,rfl,l9,g3,e5⟩;have g4:=Kz (e4.o.drawn g3 e5);have g5:=Kz (b1.o.but e5 A7);obtain⟨n1,i8⟩:∃n1:Nat,n1=3+v1:=⟨_,rfl⟩;clear g3 e5 e4 b1;go_wp2
 go_loopg [5] n1 (λg H wr=>∃(k:Nat) (p':Nat) (v:Pw) (a0:List Qq) (xs:List Pw),H= .a (k:Int)/\k+g=n1/\a0.length=k/\b0<=p'/\p'<=b0+1+12*k/\aB wr w.heap.size 25 1/\gu 20 (w.alloc (.cells #[J3] 25)) wr p (w.heap.size+1) a r x p' v a0 xs)
 case atStart=>exact⟨0,b0+1,_,[],[],rfl,A7,rfl,A7,A7,g5.o,g4.o⟩
 case round=>
  clear g4 g5;obtain⟨k,p7,v,a0,xs,rfl,hk,hL,m0,m1,g6,F⟩:=hrel;obtain⟨wO,rfl⟩:=ai wr;have⟨HO,j,b1⟩:=fu F hL g6;obtain⟨av,cv,rfl⟩:=ay F.own;clear F hL g6;by_cases m2:(k:Int)<3+ (v1:Int)
  .obtain⟨qm,e6⟩:∃qm:Nat,qm= (k+1) % n1:=⟨_,rfl⟩;have i9:((k:Int)+1).tmod (3+ (v1:Int))= (qm:Int):=by rw[Int.tmod_eq_emod_of_nonneg A7,e6,i8];push_cast;rfl
   have m3:qm<n1:=by rw[e6];exact Nat.mod_lt _ A7
   have j0:((3+ (v1:Int)) == 0)=false:=by rw[beq_eq_false_iff_ne];omega
   clear e6;go_wp2_with fail
   refine (jK _ qm _ C8 A7).mono ?_;rintro J b ⟨G,rfl,m4,k2⟩;have d3:=Kz (Il HO.o.rd k2 (x:=G) A7);have m5:=k2.size;clear k2 i9 j0;obtain⟨wS,e7⟩:=ai ((b.alloc (.cells #[.string G] 9)).alloc (.cells #[.b b.heap.size 1 1,.a 0,J3,.a 1,.a (-1),.bool false,.bool false,.string ⟨#[]⟩] 176));rw[<-e7] at d3;go_upto_region 7 with fail
   rw[<-e7];clear e7;go_wp2_with fail
   refine (aM _ p a r x p7 _ 3 rfl d3.o.rd A7 A7 a9).mono ?_;rintro J w3 ⟨v3,rfl,j1,g7,g8⟩;have d4:=Kz (d3.o.drawn g7 g8);clear g7 g8 d3;go_upto_if 26 with fail
   go_cut [6,7] from 26 to 42 (λs6 _ wx=>∃(g b3:Nat) (s:Xj) (p':Nat),s6= .c (b.heap.size+1)/\p7<=p'/\p'<=p7+2/\1<=s.asks.length/\s.asks.length<=2/\s.cases=[]/\SSt wO wx p (b.heap.size+1) a r x p' (.b g s.asks.length b3) J3 s)
   case first=>
    by_cases h3:v3=0
    .have e3:((v3:Int) == 0)=true:=by simp[h3]
     clear h3;go_wp2_with fail
     refine (aM _ p a r x (p7+1) _ n1 A7 d4.o.rd A7 A7 a9).mono ?_;rintro J w4 ⟨v4,rfl,m6,g9,h0⟩;have L:=Kz (d4.o.drawn g9 h0);clear g9 h0;go_wp2_with fail
     refine (jK _ v4 _ rfl A7).mono ?_;rintro J w5 ⟨H,rfl,hx,h1⟩;have a1:=Kz (L.o.kept h1);clear h1 L;have y0:=a1.o.box.c0;have yz:=a1.o.box.row.lt;obtain⟨_,e8⟩:=a1.o.box.cell (o:=0) A7;have j2:=a1.o.asks.cells (g:=b.heap.size) rfl 0 _ rfl;have m7:b.heap.size<w5.heap.size:=A7;rw[OI,OJ] at j2;cases j3:(H.toList == G.toList)
     .have m8:=j3;obtain⟨ia,j4,j5,j6,j7⟩:=aS Tryz.gM;have d5:Hid (K_ w5 (w5.alloc (.cells #[.string H] 9))):=ah _ _;have j8:=Kz (a1.o.kept d5.o).asks;have j9:wO.heap.size<=(w5.alloc (.cells #[.string H] 9)).heap.size:=(a1.o.kept d5.o).kb.size;go_wp2_with (at_builtin;refine wpList_append_lies _ rfl (.tmp 38) (.tmp 40) 26 rfl wO.heap.size 9 ia _ 1 16 underlying26 j4 j5 j6 j7 rfl A8 (.b b.heap.size 1 1) 1 [.string G] rfl j8.o ⟨w5.heap.size,0,none⟩ 1 1 [.string H] rfl rfl (lK w5 H) (kY H) A7 D5 A7 j9 _ rfl ?_;intro g c6 w6 h4 e9 _ _;have d6:=a1.o.uS d5.o e9;have y2:=d6.c0;have z2:=d6.row.lt;obtain⟨_,f2⟩:=d6.cell (o:=0) A7;have k1:=Kz h4;have k3:=Kz e9;clear h4 e9 d6)
      go_meet
      exact⟨g,c6,⟨[G,H],0,[],1, -1,false,false,⟨#[]⟩⟩,p7+2,rfl,A7,A7,by show 1<= [G,H].length;simp,by show [G,H].length<=2;simp,rfl,a1.o.qI (x:=H) d5.o k1.o k3.o (by show 1+1<=20;omega) A7⟩
     .go_wp2
      go_meet
      exact⟨b.heap.size,1,⟨[G],0,[],1, -1,false,false,⟨#[]⟩⟩,p7+2,rfl,A7,A7,by show 1<= [G].length;simp,by show [G].length<=2;simp,rfl,a1.o⟩
    .have e3:((v3:Int) == 0)=false:=by simpa using h3
     clear h3;go_wp2
     go_meet
     exact⟨b.heap.size,1,⟨[G],0,[],1, -1,false,false,⟨#[]⟩⟩,p7+1,rfl,A7,A7,by show 1<= [G].length;simp,by show [G].length<=2;simp,rfl,d4.o⟩
   case rest=>
    obtain⟨g,b3,s0,M,rfl,m9,n0,k4,k5,h6,F⟩:=hcut;have⟨HT,b4⟩:=aH F h6;clear F h6 d4 j1;go_wp2_with fail
    refine (aM _ p a r x M _ 6 rfl HT.o.rd A7 A7 a9).mono ?_;rintro J w5 ⟨v5,rfl,k6,h7,h8⟩;have L:=Kz (HT.o.drawn h7 h8);clear h7 h8 HT;obtain⟨b2,hm⟩:∃b2,b2+1=s0.asks.length:=⟨s0.asks.length-1,A7⟩;have y0:=L.o.box.c0;have yz:=L.o.box.row.lt;obtain⟨_,e8⟩:=L.o.box.cell (o:=0) A7;rw[<-hm] at y0;have HM:=Kz hm;have k7:b2<=1:=A7;have k8:b2+1<=b3:=by have:=(L.o.ring b4.o).2.room;omega
    clear hm k4 k5;go_upto_if 45 with fail
    go_cut [6] from 43 to 49 (λs6 wx=>∃(N:Pt) (O:Nat) (s:Xj),s6= .c (b.heap.size+1)/\jQ wO wx p (b.heap.size+1) a r x (M+1) N O s)
    case first=>
     by_cases h5:v5=0
     .have k9:((v5:Int) == 0)=true:=by simp[h5]
      clear h5;have i1:(1:Int)<=(b2:Int)+1:=A7;have i2:(1:Int)<=(b3:Int):=A7;by_cases l0:b3=1
      .subst l0;obtain rfl:b2=0:=A7;go_wp2
       go_meet
       exact⟨_,_,_,rfl,L.o.tail b4.o (by have:=HM.o;omega) (.inl ⟨rfl,rfl⟩) HM.o⟩
      .go_wp2
       go_meet
       exact⟨_,_,_,rfl,L.o.tail b4.o (by have:=HM.o;omega) (.inr rfl) HM.o⟩
     .have k9:((v5:Int) == 0)=false:=by simpa using h5
      clear h5;go_wp2
      go_meet
      exact⟨_,_,s0,rfl,(L.o.ring b4.o).2⟩
    case rest=>
     clear L b4 y0 yz e8 HM k7 k8 k6;obtain⟨N,O,s,rfl,F⟩:=hcut;obtain⟨wA,rfl⟩:=ai wc;have HT:=Kz F;have d7:=Kz (HO.o.drawn F.rd F.kb);have d8:w.heap.size<p\/p+1<=w.heap.size:=A7;have f0:p<wO.heap.size:=HO.o.rd.row.lt;have h9:=Kz (b1.o.but F.kb d8);have y5:=d7.o.c0;rw[j.o] at y5;have l1:=d7.o.row.lt;have n2:=F.sbl;clear F HO b1;obtain⟨f1,f3,f4,f5,f6⟩:=aS Tryz.nK;have n:Hid (∀(v:Pv) (p' q':Nat),gu 20 (w.alloc (.cells #[J3] 25)) v p (w.heap.size+1) a r x p' (.slice av a0.length cv) a0 xs->jQ wO v p (b.heap.size+1) a r x q' N O s->(λ(v:Pv)=>J4 v (w.heap.size+1) 0 (.slice av k cv)/\J4 v (b.heap.size+1) 0 (.slice N s.asks.length O)/\J4 v (b.heap.size+1) 1 (.a s.on)/\J4 v (b.heap.size+1) 2 J3/\J4 v (b.heap.size+1) 3 (.a s.els)/\J4 v (b.heap.size+1) 4 (.a s.fall)/\J4 v (b.heap.size+1) 5 (.bool s.fin)/\J4 v (b.heap.size+1) 6 (.bool s.bad)/\J4 v (b.heap.size+1) 7 (.string s.give)) v):=λv p' q' l2 h2=>⟨by rw[<-j.o];exact l2.c0,h2.box.c0,h2.box.c1,h2.box.c2,h2.box.c3,h2.box.c4,h2.box.c5,h2.box.c6,h2.box.c7⟩
     have KD:K_ wA wA.drew:=bD wA;have d9:=Kz (d7.o.kept KD);have b5:=Kz (HT.o.kept KD);have f7:=Kz (h9.o.kept KD);go_upto_region 13 with fail
     refine Qx.region C9 (λ(v:Pv)=>J4 v (w.heap.size+1) 0 (.slice av k cv)/\J4 v (b.heap.size+1) 0 (.slice N s.asks.length O)/\J4 v (b.heap.size+1) 1 (.a s.on)/\J4 v (b.heap.size+1) 2 J3/\J4 v (b.heap.size+1) 3 (.a s.els)/\J4 v (b.heap.size+1) 4 (.a s.fall)/\J4 v (b.heap.size+1) 5 (.bool s.fin)/\J4 v (b.heap.size+1) 6 (.bool s.bad)/\J4 v (b.heap.size+1) 7 (.string s.give)) 15 (n.o _ _ _ d9.o b5.o) (λe=>?_);generalize l3:wA.drew=wd at e d9 b5 f7⊢;clear l3 KD d7 HT h9 y5 l1;refine ae 0 e ?_;refine ae 1 e ?_;refine ae 2 e ?_;refine ae 4 e ?_;refine ae 7 e ?_;refine ae 8 e ?_;refine iy 3 9 (λK c=>?_) (λK c=>?_)
     .rw[Pe D8];go_simp
      go_at_call 111
      refine (jK _ k _ rfl A7).mono ?_;rintro J wl ⟨m,rfl,l4,kl⟩;have P:=Kz (d9.o.kept kl);have a2:=Kz (b5.o.kept kl);have e0:=Kz (f7.o.kept kl)
      skip
      dsimp only;refine c.out _ _ (λ_=>n.o _ _ _ P.o a2.o) ?_;clear c K e;have e:=n.o _ _ _ P.o a2.o;try simp only[upP]
      refine iy 5 9 (λK c=>?_) (λK c=>?_)
      .rw[Pe D8];go_simp
       go_at_call 19
       refine (aM _ p a r x (M+1) _ 4 rfl P.o.rd A7 A7 a9).mono ?_;rintro J Q ⟨f,rfl,i0,R,y⟩;have z:=Kz (P.o.drawn R y);have I:=Kz (a2.o.drawn f0 R y);have b6:=Kz (e0.o.but y d8)
       skip
       dsimp only;refine c.out _ _ (λ_=>n.o _ _ _ z.o I.o) ?_;clear c K e R y;have e:=n.o _ _ _ z.o I.o;try simp only[upP]
       have ew:IntKind.i64.wrap (1+ (f:Int))=1+ (f:Int):=E8;refine cB 6 (.a (1+ (f:Int))) e ?_ ?_
       .intro u hu;try dsimp only at hu
        go_simp
        try with_reducible rfl
       try simp only[upP]
       clear ew;refine aj 9 (λK c=>?_);go_simp
       obtain⟨S,T⟩:=ai Q.heap.size;obtain⟨wb,B⟩:=ai (Q.alloc (.cells #[.slice N s.asks.length O,.a s.on,J3,.a s.els,.a s.fall,.bool s.fin,.bool s.bad,.string s.give,J3,.a 0,J3,.a 0,.a 0,.bool true,.bool false,.string ⟨#[114]⟩] 176));have C:K_ Q wb:=by rw[B];exact ah _ _
       have U:=I.o.steps;rw[<-B,<-T] at U;have b7:=Kz U;have A:=Kz (z.o.kept C);have V:=Kz (I.o.kept C);have b8:=Kz (b6.o.kept C);rw[<-B,<-T];refine c.out _ _ (λ_=>n.o _ _ _ A.o V.o) ?_;clear c K e U B T C;have e:=n.o _ _ _ A.o V.o;try simp only[upP]
       refine ae 10 e ?_;refine ae 11 e ?_;refine aj 12 (λK c=>?_);go_simp
       have l:K_ wb (wb.alloc (.cells #[.string m,.a (1+ (f:Int)),.b S 2 2] 88)):=ah _ _;have W:=Kz (A.o.kept l);have X:=Kz (V.o.kept l);refine af c (λ_=>n.o _ _ _ W.o X.o) ?_;clear c K e;refine aj 13 (λK c=>?_);have D:=W.o.own;rw[j.o] at D;have b9:=W.o.kb.size;have c8:Hid (Qq.TinyN 20 ⟨m,1+ (f:Int),[s,bY ⟨#[114]⟩]⟩):=⟨by show m.size<=300;omega,by show -1000<=1+ (f:Int)/\1+ (f:Int)<=1000;omega,by show 2<=21;omega,λa3 hy=>Bc (p:=λa3=>a3.TinyN 20) hy X.o.tiny (iU (g:=⟨#[114]⟩) (show (1:Nat)<=300 by omega))⟩;refine step_append_lies _ rfl (.tmp 51) (.tmp 62) 23 rfl (w.alloc (.cells #[J3] 25)).heap.size 88 f1 _ 3 48 underlying23 f3 f4 f5 f6 rfl A8 (.slice av k cv) k xs D9 D ⟨wb.heap.size,0,none⟩ 1 1 [.string m,.a (1+ (f:Int)),.b S 2 2] D9 rfl (nZ _ _ _ _) (oo _ _ _ _ _) A7 D5 A7 b9 _ rfl ?_;intro g a4 Y a5 E c9 i3;have q:=A.o.fZ l (by rw[j.o];exact E);have y6:=q.1;rw[j.o] at y6;have i4:=q.2.lt;have i5:=(q.2.row.at (i:=0) A7).2;obtain⟨vo,i6⟩:=(q.2.row.at (i:=0) A7).1;have a6:=b7.o.same (u:=25) (.au l) A8 A8 A8;have d0:Hid (gu 20 (w.alloc (.cells #[J3] 25)) (Y.setCell ⟨w.heap.size+1,0,none⟩ (.b g (k+1) a4)) p (w.heap.size+1) a r x (M+2) (.b g (k+1) a4) (a0++ [⟨m,1+ (f:Int),[s,bY ⟨#[114]⟩]⟩]) (xs++ [.string m,.a (1+ (f:Int)),.b S 2 2])):=
        A.o.push (d:=⟨m,1+ (f:Int),[s,bY ⟨#[114]⟩]⟩) l a6 c8.o (by rw[j.o];exact a5) (by rw[j.o];exact E)
       have Z:=aC.aI D E;have d1:Hid (aB Y w.heap.size 25 1):=by
        obtain⟨a7,g1,g2⟩:=b8.o.kept l;exact⟨a7,Z _ a7 _ _ A8 g1,g2⟩
       have h:=X.o.box.same Z A8;have a8:(λ(v:Pv)=>J4 v (w.heap.size+1) 0 (.slice av k cv)/\J4 v (b.heap.size+1) 0 (.slice N s.asks.length O)/\J4 v (b.heap.size+1) 1 (.a s.on)/\J4 v (b.heap.size+1) 2 J3/\J4 v (b.heap.size+1) 3 (.a s.els)/\J4 v (b.heap.size+1) 4 (.a s.fall)/\J4 v (b.heap.size+1) 5 (.bool s.fin)/\J4 v (b.heap.size+1) 6 (.bool s.bad)/\J4 v (b.heap.size+1) 7 (.string s.give)) Y:=⟨y6,h.c0,h.c1,h.c2,h.c3,h.c4,h.c5,h.c6,h.c7⟩;clear q D a5 E c9 Z l a6 h;refine af c (λ_=>a8) ?_;clear c K;have e:=a8;refine ae 14 e ?_;refine aj 15 (λK c=>?_);go_simp
       refine af c (λd2=>Pg rfl d2) ?_;clear c K;refine aG ?_;go_wp2
       go_roundg (gk-1)
       case rel=>exact⟨k+1,M+2,_,_,_,C8,A7,by rw[OD,j.o];rfl,A7,A7,d1.o.block (Below.heap_setCell _ _ _ _ A9),d0.o⟩
       case measure=>omega
      .go_simp
       obtain⟨S,T⟩:=ai wl.heap.size;obtain⟨wb,B⟩:=ai (wl.alloc (.cells #[.slice N s.asks.length O,.a s.on,J3,.a s.els,.a s.fall,.bool s.fin,.bool s.bad,.string s.give,J3,.a 0,J3,.a 0,.a 0,.bool true,.bool false,.string ⟨#[114]⟩] 176));have C:K_ wl wb:=by rw[B];exact ah _ _
       have U:=a2.o.steps;rw[<-B,<-T] at U;have b7:=Kz U;have A:=Kz (P.o.kept C);have V:=Kz (a2.o.kept C);have b8:=Kz (e0.o.kept C);rw[<-B,<-T];refine c.out _ _ (λ_=>n.o _ _ _ A.o V.o) ?_;clear c K e U B T C;have e:=n.o _ _ _ A.o V.o;try simp only[upP]
       refine aF 5 (λK c=>?_);go_simp
       go_at_call 19
       refine (aM _ p a r x (M+1) _ 4 rfl A.o.rd A7 A7 a9).mono ?_;rintro J Q ⟨f,rfl,i0,R,y⟩;have z:=Kz (A.o.drawn R y);have I:=Kz (V.o.drawn f0 R y);have b6:=Kz (b8.o.but y d8);have f8:=Kz (b7.o.same (y.sameKind A.o.rd) A8 A8 A8);dsimp only;refine c.out _ _ (λ_=>n.o _ _ _ z.o I.o) ?_;clear c K e R y;have e:=n.o _ _ _ z.o I.o;try simp only[upP]
       have ew:IntKind.i64.wrap (1+ (f:Int))=1+ (f:Int):=E8;refine cB 6 (.a (1+ (f:Int))) e ?_ ?_
       .intro u hu;try dsimp only at hu
        go_simp
        try with_reducible rfl
       try simp only[upP]
       clear ew;refine ae 10 e ?_;refine ae 11 e ?_;refine aj 12 (λK c=>?_);go_simp
       have l:K_ Q (Q.alloc (.cells #[.string m,.a (1+ (f:Int)),.b S 2 2] 88)):=ah _ _;have W:=Kz (z.o.kept l);have X:=Kz (I.o.kept l);refine af c (λ_=>n.o _ _ _ W.o X.o) ?_;clear c K e;refine aj 13 (λK c=>?_);have D:=W.o.own;rw[j.o] at D;have b9:=W.o.kb.size;have c8:Hid (Qq.TinyN 20 ⟨m,1+ (f:Int),[s,bY ⟨#[114]⟩]⟩):=⟨by show m.size<=300;omega,by show -1000<=1+ (f:Int)/\1+ (f:Int)<=1000;omega,by show 2<=21;omega,λa3 hy=>Bc (p:=λa3=>a3.TinyN 20) hy X.o.tiny (iU (g:=⟨#[114]⟩) (show (1:Nat)<=300 by omega))⟩;refine step_append_lies _ rfl (.tmp 51) (.tmp 62) 23 rfl (w.alloc (.cells #[J3] 25)).heap.size 88 f1 _ 3 48 underlying23 f3 f4 f5 f6 rfl A8 (.slice av k cv) k xs D9 D ⟨Q.heap.size,0,none⟩ 1 1 [.string m,.a (1+ (f:Int)),.b S 2 2] D9 rfl (nZ _ _ _ _) (oo _ _ _ _ _) A7 D5 A7 b9 _ rfl ?_;intro g a4 Y a5 E c9 i3;have q:=z.o.fZ l (by rw[j.o];exact E);have y6:=q.1;rw[j.o] at y6;have i4:=q.2.lt;have i5:=(q.2.row.at (i:=0) A7).2;obtain⟨vo,i6⟩:=(q.2.row.at (i:=0) A7).1;have a6:=f8.o.same (u:=25) (.au l) A8 A8 A8;have d0:Hid (gu 20 (w.alloc (.cells #[J3] 25)) (Y.setCell ⟨w.heap.size+1,0,none⟩ (.b g (k+1) a4)) p (w.heap.size+1) a r x (M+2) (.b g (k+1) a4) (a0++ [⟨m,1+ (f:Int),[s,bY ⟨#[114]⟩]⟩]) (xs++ [.string m,.a (1+ (f:Int)),.b S 2 2])):=
        z.o.push (d:=⟨m,1+ (f:Int),[s,bY ⟨#[114]⟩]⟩) l a6 c8.o (by rw[j.o];exact a5) (by rw[j.o];exact E)
       have Z:=aC.aI D E;have d1:Hid (aB Y w.heap.size 25 1):=by
        obtain⟨a7,g1,g2⟩:=b6.o.kept l;exact⟨a7,Z _ a7 _ _ A8 g1,g2⟩
       have h:=X.o.box.same Z A8;have a8:(λ(v:Pv)=>J4 v (w.heap.size+1) 0 (.slice av k cv)/\J4 v (b.heap.size+1) 0 (.slice N s.asks.length O)/\J4 v (b.heap.size+1) 1 (.a s.on)/\J4 v (b.heap.size+1) 2 J3/\J4 v (b.heap.size+1) 3 (.a s.els)/\J4 v (b.heap.size+1) 4 (.a s.fall)/\J4 v (b.heap.size+1) 5 (.bool s.fin)/\J4 v (b.heap.size+1) 6 (.bool s.bad)/\J4 v (b.heap.size+1) 7 (.string s.give)) Y:=⟨y6,h.c0,h.c1,h.c2,h.c3,h.c4,h.c5,h.c6,h.c7⟩;clear q D a5 E c9 Z l a6 h;refine af c (λ_=>a8) ?_;clear c K;have e:=a8;refine ae 14 e ?_;refine aj 15 (λK c=>?_);go_simp
       refine af c (λd2=>Pg rfl d2) ?_;clear c K;refine aG ?_;go_wp2
       go_roundg (gk-1)
       case rel=>exact⟨k+1,M+2,_,_,_,C8,A7,by rw[OD,j.o];rfl,A7,A7,d1.o.block (Below.heap_setCell _ _ _ _ A9),d0.o⟩
       case measure=>omega
     .go_simp
      obtain⟨S,T⟩:=ai wd.heap.size;obtain⟨wb,B⟩:=ai (wd.alloc (.cells #[.slice N s.asks.length O,.a s.on,J3,.a s.els,.a s.fall,.bool s.fin,.bool s.bad,.string s.give,J3,.a 0,J3,.a 0,.a 0,.bool true,.bool false,.string ⟨#[114]⟩] 176));have C:K_ wd wb:=by rw[B];exact ah _ _
      have U:=b5.o.steps;rw[<-B,<-T] at U;have b7:=Kz U;have A:=Kz (d9.o.kept C);have V:=Kz (b5.o.kept C);have b8:=Kz (f7.o.kept C);rw[<-B,<-T];refine c.out _ _ (λ_=>n.o _ _ _ A.o V.o) ?_;clear c K e U B T C;have e:=n.o _ _ _ A.o V.o;try simp only[upP]
      refine aF 3 (λK c=>?_);go_simp
      go_at_call 111
      refine (jK _ k _ rfl A7).mono ?_;rintro J wl ⟨m,rfl,l4,kl⟩;have P:=Kz (A.o.kept kl);have a2:=Kz (V.o.kept kl);have e0:=Kz (b8.o.kept kl);have l5:=Kz (b7.o.same (u:=25) (.au kl) A8 A8 A8);dsimp only;refine c.out _ _ (λ_=>n.o _ _ _ P.o a2.o) ?_;clear c K e;have e:=n.o _ _ _ P.o a2.o;try simp only[upP]
      refine aF 5 (λK c=>?_);go_simp
      go_at_call 19
      refine (aM _ p a r x (M+1) _ 4 rfl P.o.rd A7 A7 a9).mono ?_;rintro J Q ⟨f,rfl,i0,R,y⟩;have z:=Kz (P.o.drawn R y);have I:=Kz (a2.o.drawn f0 R y);have b6:=Kz (e0.o.but y d8);have f8:=Kz (l5.o.same (y.sameKind P.o.rd) A8 A8 A8);dsimp only;refine c.out _ _ (λ_=>n.o _ _ _ z.o I.o) ?_;clear c K e R y;have e:=n.o _ _ _ z.o I.o;try simp only[upP]
      have ew:IntKind.i64.wrap (1+ (f:Int))=1+ (f:Int):=E8;refine cB 6 (.a (1+ (f:Int))) e ?_ ?_
      .intro u hu;try dsimp only at hu
       go_simp
       try with_reducible rfl
      try simp only[upP]
      clear ew;refine ae 10 e ?_;refine ae 11 e ?_;refine aj 12 (λK c=>?_);go_simp
      have l:K_ Q (Q.alloc (.cells #[.string m,.a (1+ (f:Int)),.b S 2 2] 88)):=ah _ _;have W:=Kz (z.o.kept l);have X:=Kz (I.o.kept l);refine af c (λ_=>n.o _ _ _ W.o X.o) ?_;clear c K e;refine aj 13 (λK c=>?_);have D:=W.o.own;rw[j.o] at D;have b9:=W.o.kb.size;have c8:Hid (Qq.TinyN 20 ⟨m,1+ (f:Int),[s,bY ⟨#[114]⟩]⟩):=⟨by show m.size<=300;omega,by show -1000<=1+ (f:Int)/\1+ (f:Int)<=1000;omega,by show 2<=21;omega,λa3 hy=>Bc (p:=λa3=>a3.TinyN 20) hy X.o.tiny (iU (g:=⟨#[114]⟩) (show (1:Nat)<=300 by omega))⟩;refine step_append_lies _ rfl (.tmp 51) (.tmp 62) 23 rfl (w.alloc (.cells #[J3] 25)).heap.size 88 f1 _ 3 48 underlying23 f3 f4 f5 f6 rfl A8 (.slice av k cv) k xs D9 D ⟨Q.heap.size,0,none⟩ 1 1 [.string m,.a (1+ (f:Int)),.b S 2 2] D9 rfl (nZ _ _ _ _) (oo _ _ _ _ _) A7 D5 A7 b9 _ rfl ?_;intro g a4 Y a5 E c9 i3;have q:=z.o.fZ l (by rw[j.o];exact E);have y6:=q.1;rw[j.o] at y6;have i4:=q.2.lt;have i5:=(q.2.row.at (i:=0) A7).2;obtain⟨vo,i6⟩:=(q.2.row.at (i:=0) A7).1;have a6:=f8.o.same (u:=25) (.au l) A8 A8 A8;have d0:Hid (gu 20 (w.alloc (.cells #[J3] 25)) (Y.setCell ⟨w.heap.size+1,0,none⟩ (.b g (k+1) a4)) p (w.heap.size+1) a r x (M+2) (.b g (k+1) a4) (a0++ [⟨m,1+ (f:Int),[s,bY ⟨#[114]⟩]⟩]) (xs++ [.string m,.a (1+ (f:Int)),.b S 2 2])):=
       z.o.push (d:=⟨m,1+ (f:Int),[s,bY ⟨#[114]⟩]⟩) l a6 c8.o (by rw[j.o];exact a5) (by rw[j.o];exact E)
      have Z:=aC.aI D E;have d1:Hid (aB Y w.heap.size 25 1):=by
       obtain⟨a7,g1,g2⟩:=b6.o.kept l;exact⟨a7,Z _ a7 _ _ A8 g1,g2⟩
      have h:=X.o.box.same Z A8;have a8:(λ(v:Pv)=>J4 v (w.heap.size+1) 0 (.slice av k cv)/\J4 v (b.heap.size+1) 0 (.slice N s.asks.length O)/\J4 v (b.heap.size+1) 1 (.a s.on)/\J4 v (b.heap.size+1) 2 J3/\J4 v (b.heap.size+1) 3 (.a s.els)/\J4 v (b.heap.size+1) 4 (.a s.fall)/\J4 v (b.heap.size+1) 5 (.bool s.fin)/\J4 v (b.heap.size+1) 6 (.bool s.bad)/\J4 v (b.heap.size+1) 7 (.string s.give)) Y:=⟨y6,h.c0,h.c1,h.c2,h.c3,h.c4,h.c5,h.c6,h.c7⟩;clear q D a5 E c9 Z l a6 h;refine af c (λ_=>a8) ?_;clear c K;have e:=a8;refine ae 14 e ?_;refine aj 15 (λK c=>?_);go_simp
      refine af c (λd2=>Pg rfl d2) ?_;clear c K;refine aG ?_;go_wp2
      go_roundg (gk-1)
      case rel=>exact⟨k+1,M+2,_,_,_,C8,A7,by rw[OD,j.o];rfl,A7,A7,d1.o.block (Below.heap_setCell _ _ _ _ A9),d0.o⟩
      case measure=>omega
  .have y0:=HO.o.c0;rw[j.o] at y0;have zb:=HO.o.row.lt;have hG:=HO.o.web;rw[j.o] at hG;have f9:=vG wO av cv a0 (mN:=20) A7 (by have:=j.o;omega) HO.o.tiny (by rw[j.o];exact hG);rw[j.o] at f9;have l6:=Kz f9;clear hG f9;go_wp2_with fail
   refine l6.o.mono ?_;intro J w6 hs;obtain⟨va,vn,vc,rfl,e1,hD⟩:=HO.o.sorted (p:=b0) (t:=400) hs b1.o (NQ _) k0 i7.o A7 A7;have⟨HD,l7⟩:=aH hD e1;have z6:=e1.lt;obtain⟨⟨_,u0⟩,e8⟩:=e1.row.at (i:=0) A7;clear hD e1 hs;go_wp2
   have hR:=NU w6 w.heap.size 0 [.slice va vn vc] (l7.o.row.there (o:=0) (m:=1) (NQ _));exact X_ [.slice va vn vc] _ results159 rfl hR underlying25 rfl Tryz.g_ rfl HD.o
theorem Jr :qR 160 400 20 60 700000:=by
 intro w l a C D H T hp Z;have k0:K_ w (w.alloc (.cells #[J3] 25)):=ah _ _;have d5:Hid (Rd (w.alloc (.cells #[J3] 25)) l a C D H):=T.kept k0;have j5:=T.row.lt;have Q:Hid (aB ((w.alloc (.cells #[J3] 25)).alloc (.cells #[J3] 25)) w.heap.size 25 1):=(aB.made w _ _).kept (ah _ _);have b7:=gu.made (mN:=20) d5.o d5.o (Xk.refl _ _ _);rw[OC] at b7;have⟨b8,g6⟩:=aH b7 T;clear T b7;go_enter func160,ntmps160
 go_wp2_with fail
 refine (aM _ l a C D H _ 14 rfl b8.o.rd A7 A7 Z).mono ?_;rintro e w1 ⟨v1,rfl,j6,d6,b9⟩;have d7:=Kz (b8.o.drawn d6 b9);have d8:=Kz (Q.o.but b9 A7);obtain⟨n1,j7⟩:∃n1:Nat,n1=12+v1:=⟨_,rfl⟩;clear d6 b9 b8 Q;go_wp2
 go_loopg [5] n1 (λg x wr=>∃(k:Nat) (p':Nat) (v:Pw) (a0:List Qq) (xs:List Pw),x= .a (k:Int)/\k+g=n1/\a0.length=k/\H<=p'/\p'<=H+1+12*k/\aB wr w.heap.size 25 1/\gu 20 (w.alloc (.cells #[J3] 25)) wr l (w.heap.size+1) a C D p' v a0 xs)
 case atStart=>exact⟨0,H+1,_,[],[],rfl,A7,rfl,A7,A7,d8.o,d7.o⟩
 case round=>
  clear d7 d8;obtain⟨k,p7,v,a0,xs,rfl,hk,hL,j8,j9,d9,f⟩:=hrel;obtain⟨wO,rfl⟩:=ai wr;obtain⟨gO,rfl⟩:=ai gk;have⟨I,n,Q⟩:=fu f hL d9;obtain⟨av,cv,rfl⟩:=ay f.own;clear f hL d9;by_cases k1:(k:Int)<12+ (v1:Int)
  .go_wp2_with fail
   refine (aM _ l a C D p7 _ 9 rfl I.o.rd A7 A7 Z).mono ?_;rintro e J ⟨j,rfl,k2,e0,e1⟩;have c3:=Kz (ASt.made I.o.rd e0 e1 (1+ (j:Int)));clear e0 e1;go_wp2_with fail
   refine (aM _ l a C D (p7+1) _ 3 rfl c3.o.rd A7 A7 Z).mono ?_;rintro e w3 ⟨a2,rfl,hq,e2,e3⟩;have e4:=Kz (c3.o.drawn e2 e3);clear e2 e3 c3;go_wp2
   go_loopg [7] a2 (λg x wr=>∃(p':Nat) (v:Pw) (c:List Xj) (ys:List Pw),x= .a (g:Int)/\g<=a2/\H<=p'/\p'+5*g<=p7+2+5*a2/\c.length+g<=a2/\ASt wO wr l J.heap.size a C D p' (1+ (j:Int)) v c ys)
   case atStart=>exact⟨p7+2,_,[],[],rfl,NQ _,A7,A7,A9,e4.o⟩
   case round=>
    clear e4;obtain⟨p8,vs,c,ys,rfl,k3,k4,k5,k7,f⟩:=hrel;obtain⟨K,rfl⟩:=ai wr;obtain⟨gI,rfl⟩:=ai gk;have L:=Kz f;obtain⟨sv,sc,rfl⟩:=ay f.own;have a1:=f.c1;have az:=f.row.lt;clear f;by_cases g7:(0:Int)<(gI:Int)
    .have g8:c.length<=3:=A7;have c4:=Kz (SSt.made L.o.rd (els:=(c.length:Int)+1) (fall:= -1) A7 A7);go_wp2_with fail
     refine (aM _ l a C D p8 _ 4 rfl c4.o.rd A7 A7 Z).mono ?_;rintro e w4 ⟨q2,rfl,k8,e5,e6⟩;have e7:=Kz (c4.o.drawn e5 e6);clear e5 e6 c4;go_wp2
     go_loopg [9] (1+q2) (λg x wr=>∃(va:Pw) (s:Xj) (p':Nat),x= .a (g:Int)/\g<=1+q2/\H<=p'/\p'+g<=p8+2+q2/\s.asks.length+g<=4/\s.cases=[]/\SSt K wr l K.heap.size a C D p' va J3 s)
     case atStart=>exact⟨_,_,p8+1,C8,NQ _,A7,A7,by show 0+ (1+q2)<=4;omega,rfl,e7.o⟩
     case round=>
      clear e7;obtain⟨va,s,p9,rfl,k9,l0,l1,l2,e8,f⟩:=hrel;have⟨M,f0⟩:=aH f e8;clear f e8;go_upto_region 12 with fail
      go_cut [43] from 38 to 43 (λg9 wx=>∃b:Bool,g9= .bool b/\wx=wr/\(b=true->0<gk/\0<k))
      case first=>
       by_cases l3:(0:Int)<(gk:Int)
       .by_cases h2:(0:Int)<(k:Int)
        .go_wp2
         go_meet
         exact⟨_,rfl,rfl,λ_=>⟨A7,A7⟩⟩
        .go_wp2
         go_meet
         exact⟨_,rfl,rfl,λa3=>by simp at a3;omega⟩
       .go_wp2
        go_meet
        exact⟨false,rfl,rfl,λa3=>by cases a3⟩
      case rest=>
       obtain⟨b,rfl,rfl,hb⟩:=hcut;have HB:=Kz hb;clear hb;cases b
       .obtain⟨wJ,rfl⟩:=ai wc;have U:=Kz (L.o.drawn M.o.rd M.o.kb);obtain⟨aa,ca,a5,a6,rfl,f1,hT⟩:=M.o.cells;have p:=Kz M.o;rw[f1] at p;have HT:=Kz hT;clear hT f1 M;have c0:=p.o.box.c0;have c1:=p.o.box.c1;have c2:=p.o.box.c2;have l4:=p.o.box.c3;have l5:=p.o.box.c4;have c5:=p.o.box.c5;have l6:=p.o.box.c6;have l7:=p.o.box.c7;have cz:=p.o.box.row.lt;have b1:=U.o.c1;have bz:=U.o.row.lt;have h:Hid (K_ wJ (wJ.alloc (.cells #[.slice aa s.asks.length ca,.a s.on,.slice a5 s.cases.length a6,.a s.els,.a s.fall,.bool s.fin,.bool s.bad,.string s.give] 176))):=ah _ _;have V:=Kz (U.o.kept h.o).own;have a7:=Kz (U.o.kept h.o).kb.size;have a8:=Kz (F_ wJ #[.slice aa s.asks.length ca,.a s.on,.slice a5 s.cases.length a6,.a s.els,.a s.fall,.bool s.fin,.bool s.bad,.string s.give]);obtain⟨ic,c6,c7,c8,d0⟩:=aS Tryz.kR;go_wp2_with (at_builtin;refine wpList_append_own _ rfl (.tmp 62) (.tmp 64) 71 rfl wO.heap.size 176 ic _ 8 96 underlying71 c6 c7 c8 d0 rfl A8 (.slice sv c.length sc) c.length ys rfl V.o ⟨wJ.heap.size,0,none⟩ 1 1 (s.cells aa ca a5 a6) rfl rfl a8.o (jm s aa ca a5 a6) D5 A7 a7.o ?_;intro v' w5 r y _;have q:=U.o.fZ h.o y;have z2:=q.2.lt;obtain⟨⟨_,y2⟩,f2⟩:=q.2.row.at (i:=1) A7;have W:=Kz r;obtain⟨N,O,rfl⟩:=ay r;have X:=Kz y;clear r y q)
        go_roundg (gI-1)
        case measure=>omega
        case rel=>exact⟨p9,_,c++ [s],_,C8,A7,A7,A7,by rw[OD];show c.length+1+ (gI-1)<=a2;omega,U.o.push h.o HT.o p.o.tiny (p.o.oP rfl rfl) W.o X.o⟩
       .obtain⟨l8,l9⟩:=HB.o rfl;obtain⟨wJ,rfl⟩:=ai wc;go_wp2_with fail
        refine (pq _ l a C D p9 k M.o.rd A7 A7 Z).mono ?_;rintro e w5 ⟨v5,rfl,m0,f3,f4⟩;have f5:=Kz (M.o.drawn f3 f4);clear f3 f4 M;go_wp2_with fail
        refine (jK _ v5 _ rfl A7).mono ?_;rintro e G ⟨x,rfl,hx,k6⟩;have z:=Kz (f5.o.kept k6);clear k6 f5;obtain⟨d1,f6,rfl⟩:=ay z.o.asks;have y0:=z.o.box.c0;have yz:=z.o.box.row.lt;obtain⟨_,h0⟩:=z.o.box.cell (o:=0) A7;have m1:s.asks.length<=20:=z.o.tiny.asks;have h1:Hid (Strs G d1 s.asks):=by
         obtain⟨a9,c9,e9,_,hT⟩:=di z.o.asks;simp only[OG] at e9;obtain⟨rfl,_,rfl⟩:=e9;exact hT.strs
        go_wp2_with fail
        refine (uP _ d1 f6 s.asks x A7 h1.o).mono ?_;rintro e w7 ⟨⟨r7,rfl,_⟩,rfl⟩;cases r7
        .obtain⟨ia,h3,h4,h5,h6⟩:=aS Tryz.gM;have h:Hid (K_ w7 (w7.alloc (.cells #[.string x] 9))):=ah _ _;have V:=Kz (z.o.kept h.o).asks;have h7:K.heap.size<=(w7.alloc (.cells #[.string x] 9)).heap.size:=(z.o.kept h.o).kb.size;go_wp2_with (at_builtin;refine wpList_append_own _ rfl (.tmp 56) (.tmp 58) 26 rfl K.heap.size 9 ia _ 1 16 underlying26 h3 h4 h5 h6 rfl A8 (.slice d1 s.asks.length f6) s.asks.length (s.asks.map Value.string) rfl V.o ⟨w7.heap.size,0,none⟩ 1 1 [.string x] rfl rfl (lK w7 x) (kY x) D5 A7 h7 ?_;intro v' w8 r y _;have q:=z.o.uS h.o y;have y2:=q.c0;have z2:=q.row.lt;obtain⟨_,f2⟩:=q.cell (o:=0) A7;have W:=Kz r;obtain⟨m2,m3,rfl⟩:=ay r;have X:=Kz y;clear r y q)
         .rename_i hfz
          rw[f2] at hfz;cases hfz
         go_roundg (gk-1)
         case measure=>omega
         case rel=>exact⟨_,{s with asks:=s.asks++ [x]},p9+1,C8,A7,A7,A7,by show (s.asks++ [x]).length+ (gk-1)<=4;rw[OD];show s.asks.length+1+ (gk-1)<=4;omega,f0.o,z.o.qI h.o W.o X.o A7 A7⟩
        .go_wp2
         go_roundg (gk-1)
         case measure=>omega
         case rel=>exact⟨_,s,p9+1,C8,A7,A7,A7,A7,f0.o,z.o⟩
    .have m4:¬(0:Int)<(gI:Int):=g7;have g8:c.length<=3:=A7;obtain⟨ic,c6,c7,c8,d0⟩:=aS Tryz.kR;have h:Hid (K_ K (K.alloc (.cells #[J3,.a 0,J3,.a 0,.a 0,.bool true,.bool false,.string ⟨#[119]⟩] 176))):=ah _ _;have V:=Kz (L.o.kept h.o).own;have a7:=Kz (L.o.kept h.o).kb.size;have a8:=Kz (F_ K #[J3,.a 0,J3,.a 0,.a 0,.bool true,.bool false,.string ⟨#[119]⟩]);have h8:=Kz L.o;go_upto_region 19 with (at_builtin;refine wpList_append_own _ rfl (.tmp 68) (.tmp 70) 71 rfl wO.heap.size 176 ic _ 8 96 underlying71 c6 c7 c8 d0 rfl A8 (.slice sv c.length sc) c.length ys rfl V.o ⟨K.heap.size,0,none⟩ 1 1 ((bY ⟨#[119]⟩).cells none 0 none 0) rfl rfl a8.o (jm (bY ⟨#[119]⟩) none 0 none 0) D5 A7 a7.o ?_;intro v' w5 r y _;have q:=L.o.fZ h.o y;have z2:=q.2.lt;obtain⟨⟨_,y2⟩,f2⟩:=q.2.row.at (i:=1) A7;have W:=Kz r;obtain⟨N,O,rfl⟩:=ay r;have X:=Kz y;clear r y q)
     have A:=L.o.push h.o (uu _ ⟨#[119]⟩) (iU (show (1:Nat)<=300 by omega)) (qf _) W.o X.o;have b0:(c++ [bY ⟨#[119]⟩]).length=c.length+1:=A9;obtain⟨LT,f7⟩:=ai (c++ [bY ⟨#[119]⟩]);rw[<-f7] at A b0;obtain⟨P,f8⟩:=ai (c.length+1);rw[<-f8] at A b0⊢;obtain⟨wA,f9⟩:=ai (w5.setCell ⟨J.heap.size,1,none⟩ (.slice N P O));rw[<-f9] at A⊢;have⟨d2,h9⟩:=aH A b0;have m5:P<=4:=A7;have Y:=Kz (I.o.drawn A.rd A.kb);have i0:w.heap.size<l\/l+1<=w.heap.size:=A7;have i1:=Kz (Q.o.but A.kb i0);have q0:=A.c0;have q1:=A.c1;have qz:=A.row.lt;have y5:=Y.o.c0;rw[n.o] at y5;have i2:=Y.o.row.lt;have m6:w.heap.size≠w.heap.size+1:=A7;clear f7 f8 b0 f9 A W X V a8 a7 h L h8 a1 az z2 y2 f2 Q;obtain⟨i3,i4,i5,i6,i7⟩:=aS Tryz.nK;have b2:Hid (∀v:Pv,K_ wA v->(λ(v:Pv)=>v.cell? ⟨w.heap.size+1,0,none⟩=some (.slice av k cv)/\v.cell? ⟨J.heap.size,0,none⟩=some (.a (1+ (j:Int)))/\v.cell? ⟨J.heap.size,1,none⟩=some (.slice N P O)) v):=λv kk=>⟨(kk.cell i2).trans y5,(kk.cell qz).trans q0,(kk.cell qz).trans q1⟩
     refine Qx.region C9 (λ(v:Pv)=>v.cell? ⟨w.heap.size+1,0,none⟩=some (.slice av k cv)/\v.cell? ⟨J.heap.size,0,none⟩=some (.a (1+ (j:Int)))/\v.cell? ⟨J.heap.size,1,none⟩=some (.slice N P O)) 9 ⟨y5,q0,q1⟩ (λE=>?_);refine ae 0 E ?_;refine ae 1 E ?_;refine ae 2 E ?_;refine ae 4 E ?_;refine aF 3 (λR B=>?_);go_simp
     go_at_call 111
     refine (jK _ k _ rfl A7).mono ?_;rintro e G ⟨S,rfl,m7,k6⟩;have K6:K_ wA G:=(bD _).trans k6;dsimp only;refine B.out _ _ (λ_=>b2.o G K6) ?_;clear B R E k6;have E:=b2.o G K6;try simp only[upP]
     refine ae 5 E ?_;refine aj 6 (λR B=>?_);go_simp
     have F:K_ wA (G.alloc (.cells #[.string S,.a (1+ (j:Int)),.slice N P O] 88)):=K6.alloc _;refine af B (λ_=>b2.o _ F) ?_;clear B R E;refine aj 7 (λR B=>?_);have b3:=(Y.o.kept F).own;rw[n.o] at b3;have i8:=(Y.o.kept F).kb.size;have i9:Hid (Qq.TinyN 20 ⟨S,1+ (j:Int),LT⟩):=⟨by show S.size<=300;omega,by show -1000<=1+ (j:Int)/\1+ (j:Int)<=1000;omega,by show LT.length<=21;have:=h9.o;omega,d2.o.tiny⟩;refine step_append_lies _ rfl (.tmp 74) (.tmp 79) 23 rfl (w.alloc (.cells #[J3] 25)).heap.size 88 i3 _ 3 48 underlying23 i4 i5 i6 i7 rfl A8 (.slice av k cv) k xs D9 b3 ⟨G.heap.size,0,none⟩ 1 1 [.string S,.a (1+ (j:Int)),.slice N P O] D9 rfl (nZ _ _ _ _) (oo _ _ _ _ _) A7 D5 A7 i8 _ rfl ?_;intro g g0 w8 g2 b4 j0 m8;have a4:=Y.o.fZ F (by rw[n.o];exact b4);have y6:=a4.1;rw[n.o] at y6;have m9:=a4.2.lt;have n0:=(a4.2.row.at (i:=0) A7).2;obtain⟨vo,n2⟩:=(a4.2.row.at (i:=0) A7).1;have g3:=d2.o.g.same (u:=25) (.au F) A8 A8 A8;have j1:Hid (gu 20 (w.alloc (.cells #[J3] 25)) (w8.setCell ⟨w.heap.size+1,0,none⟩ (.b g (k+1) g0)) l (w.heap.size+1) a C D p8 (.b g (k+1) g0) (a0++ [⟨S,1+ (j:Int),LT⟩]) (xs++ [.string S,.a (1+ (j:Int)),.slice N P O])):=
      Y.o.push (d:=⟨S,1+ (j:Int),LT⟩) F g3 i9.o (by rw[n.o];exact g2) (by rw[n.o];exact b4)
     have d3:=aC.aI b3 b4;have j2:Hid (aB w8 w.heap.size 25 1):=by
      obtain⟨b5,g1,g4⟩:=i1.o.kept F;exact⟨b5,d3 _ b5 _ _ A8 g1,g4⟩
     have g5:(λ(v:Pv)=>v.cell? ⟨w.heap.size+1,0,none⟩=some (.slice av k cv)/\v.cell? ⟨J.heap.size,0,none⟩=some (.a (1+ (j:Int)))/\v.cell? ⟨J.heap.size,1,none⟩=some (.slice N P O)) w8:=by
      obtain⟨b5,g1,g4⟩:=d2.o.row.kept F;have hb:=d3 _ b5 _ _ A8 g1;have f:=b2.o _ F;exact⟨y6,by rw[Od (hb.trans g1.symm)];exact f.2.1,by rw[Od (hb.trans g1.symm)];exact f.2.2⟩
     clear a4 b3 g2 b4 j0 d3 F g3;refine af B (λ_=>g5) ?_;clear B R;have E:=g5;refine ae 8 E ?_;refine aj 9 (λR B=>?_);go_simp
     refine af B (λa3=>Pg rfl a3) ?_;clear B R;refine aG ?_;go_wp2
     go_roundg (gO-1)
     case rel=>exact⟨k+1,p8,_,_,_,C8,A7,by rw[OD,n.o];rfl,A7,A7,j2.o.block (Below.heap_setCell _ _ _ _ A9),j1.o⟩
     case measure=>omega
  .have y0:=I.o.c0;rw[n.o] at y0;have zb:=I.o.row.lt;have hG:=I.o.web;rw[n.o] at hG;have d4:=vG wO av cv a0 (mN:=20) A7 (by have:=n.o;omega) I.o.tiny (by rw[n.o];exact hG);rw[n.o] at d4;have⟨j3,n3⟩:=aH d4 Q.o;clear hG d4;go_wp2_with fail
   refine j3.o.mono ?_;intro e G hs;obtain⟨va,vn,vc,rfl,b6,hD⟩:=I.o.sorted (p:=H) (t:=400) hs Q.o (NQ _) k0 g6.o A7 A7;have⟨HD,j4⟩:=aH hD b6;have z6:=b6.lt;obtain⟨⟨_,u0⟩,h0⟩:=b6.row.at (i:=0) A7;clear hD b6 hs;go_wp2
   have T:=NU G w.heap.size 0 [.slice va vn vc] (j4.o.row.there (o:=0) (m:=1) (NQ _));exact X_ [.slice va vn vc] _ results160 rfl T underlying25 rfl Tryz.g_ rfl HD.o
theorem jk.rbl(h:jk m w wr rb wb a cap bs p v L):rb<w.heap.size:=let ⟨_,h0⟩:=h.rd0;h0.row.lt
theorem jk.drawn{p':Nat}(h:jk m w wr rb wb a cap bs p v L)(c:Rd w' rb a cap bs p')(k:Xk rb (rb+1) wr w'):jk m w w' rb wb a cap bs p' v L:=by
 have d:=k.sameKind h.rd;have:=h.rbl;have:=h.wbl;exact⟨c,h.rd0,h.wbl,h.kb.trans k,h.row.but k A7,(k.cell h.row.lt A7).trans h.c0,h.web.same d A8 A8 A8 A8,h.tiny,h.fr⟩
theorem jd.mono{M M' N':Nat}{t:Nat}{e:Ending}(h:jd M N w w' rb a cap bs p t e)(b:M<=M')(n:N<=N'):jd M' N' w w' rb a cap bs p t e:=by
 obtain⟨v,L,c,d,f,i,q,j,k⟩:=h;exact⟨v,L,c,d,f,i,A7,λl m=>(j l m).mono b,k⟩
theorem jk.made{M:Nat}{w1:Pv}{e f:Nat}(i:Rd A0 rb a cap bs e)(j:Rd w1 rb a cap bs f)(h:Xk rb (rb+1) A0 w1)(k:bM w1 v L)(l:∀d∈L,d.TinyN M)(m:lV A0.heap.size v L):
  jk M A0 (w1.alloc (.cells #[v] 25)) rb w1.heap.size a cap bs f v L:=
 have b:K_ w1 (w1.alloc (.cells #[v] 25)):=ah _ _
 ⟨j.kept b,⟨e,i⟩,h.size,h.gp b,aB.made w1 _ _,Xz w1 _ _ 0 _ rfl,k.kept b,l,m⟩
theorem Kl :qR 53 1200 30 200 500000:=by
 intro w e a f h q b X r;have s:K_ w (w.alloc (.cells #[J3] 25)):=ah _ _;have A:Hid (Rd (w.alloc (.cells #[J3] 25)) e a f h q):=b.kept s;have B:Hid (aB (w.alloc (.cells #[J3] 25)) w.heap.size 25 1):=aB.made w _ _;have Y:=b.row.lt;have C:=Kz b;clear b;go_enter func53,ntmps53
 go_wp2_with fail
 refine (IY (Kz JE) (Kz Jr) _ e a f h q A.o A7 r).mono ?_;rintro D O ⟨P,L,E,rfl,Z,a0,hl,F,t,G,v,Q⟩;obtain⟨j,k,rfl,_,_⟩:=t.slice;have x:=Kz (jk.made A.o G v t F Q);have H:=Kz ((B.o.but v A7).kept ((K_.refl O).alloc (.cells #[.slice j L.length k] 25)));clear F t G v;go_wp2_with fail
 refine (aM _ e a f h E _ 24 rfl x.o.rd A7 A7 r).mono ?_;rintro D R ⟨y,rfl,a1,I,z⟩;have c:=Kz (x.o.drawn I z);have d:=Kz (H.o.but z A7);clear I z x H B;have y2:=c.o.c0;have z2:=c.o.row.lt;by_cases l:y=0
 .have S:((y:Int) == 0)=true:=by simp[l]
  clear l;go_wp2_with fail
  refine (EQ 20 A7 _ e a f h (E+1) j k L c.o.rd A7 r A7 c.o.tiny c.o.web).mono ?_;intro D T J;obtain⟨P,rfl,p,⟨K,un,M,rfl⟩,N⟩:=(J.mono (M':=30) (N':=200) A7 A7).via (p:=q) (t':=1200) c.o.kb s A7 A7 C.o (NQ _) d.o A7;have⟨U,V⟩:=aH N p;have z3:=p.lt;obtain⟨⟨_,u0⟩,W⟩:=p.row.at (i:=0) A7;clear N J p;go_wp2
  have b:=NU T w.heap.size 0 [.slice K un M] (V.o.row.there (o:=0) (m:=1) (NQ _));exact X_ [.slice K un M] _ results53 rfl b underlying25 rfl Tryz.g_ rfl U.o
 .have S:((y:Int) == 0)=false:=by simpa using l
  clear l;obtain⟨⟨_,u0⟩,W⟩:=d.o.row.at (i:=0) A7;have zr:=d.o.lt;go_wp2
  have b:=NU R w.heap.size 0 [.slice j L.length k] (d.o.row.there (o:=0) (m:=1) (NQ _));exact X_ [.slice j L.length k] _ results53 rfl b underlying25 rfl Tryz.g_ rfl ((c.o.mono (n:=30) A7).ends d.o (NQ _) s C.o rfl A7 A7 A7)
section
variable {W wr w' : Pv} {rb ob : Nat} {a : Pt} {cap : Nat} {bs : List UInt8} {p p' : Nat} {cost : Int} {v : Pw} {L : List Xj} {u : Pw} {l : List Xq}
end
section
variable {W wr w' : Pv} {rb ob : Nat} {a : Pt} {cap : Nat} {bs : List UInt8} {p p' : Nat} {cost : Int} {v : Pw} {L : List Xj} {u : Pw} {l : List Xq}
end
theorem BytesAt.kept{w w':Pv}{a:Pt}{bs:List UInt8}(h:BytesAt w a bs)(k:K_ w w'):BytesAt w' a bs:=λi c=>by
 obtain⟨d,o,e,b,f⟩:=h i c;exact⟨d,o,e,NR b k.size,by rw[k.cell b];exact f⟩
theorem vM{P:Program}{fn:Func}{R:Ending->Pv->Prop}{a:Act}{w:Pv}{p t:Tmp}{c:TypeId}{b:Nat}(cs:List Pw)(v:Pw)(d:TypeDesc)(h:fn.results= #[.cell p c,.tmp t])
  (e:a.tmps.getD p undef= .c b) (f:w.rangeAt b 0 cs) (i:P.underlying c=some d) (j:d.isRow=true) (hi:(P.info? c).map (·.size)=some cs.length)
  (k:a.tmps.getD t undef=v) (l:a.defers=[]) (m:R (.returned (.tuple #[.agg cs.toArray,v])) w):bodyPost P fn R .ret a w:=by
 refine bodyPost_ret ?_ l m;have n:a.tmps[p]?.getD undef= .c b:=by simpa using e
 have q:a.tmps[t]?.getD undef=v:=by simpa using k
 simp only[results,h];simp[n,q,asAddr,run_loadVar_mid w b 0 c cs d f i j hi]
theorem uB{P:Program}{fn:Func}{R:Ending->Pv->Prop}{a:Act}{w:Pv}{p t s:Tmp}{c:TypeId}{b:Nat}(cs:List Pw)(v u:Pw)(d:TypeDesc)(h:fn.results= #[.cell p c,.tmp t,.tmp s])
  (e:a.tmps.getD p undef= .c b) (f:w.rangeAt b 0 cs) (i:P.underlying c=some d) (j:d.isRow=true) (hi:(P.info? c).map (·.size)=some cs.length)
  (k:a.tmps.getD t undef=v) (l:a.tmps.getD s undef=u) (m:a.defers=[]) (n:R (.returned (.tuple #[.agg cs.toArray,v,u])) w):bodyPost P fn R .ret a w:=by
 refine bodyPost_ret ?_ m n;have q:a.tmps[p]?.getD undef= .c b:=by simpa using e
 have r:a.tmps[t]?.getD undef=v:=by simpa using k
 have x:a.tmps[s]?.getD undef=u:=by simpa using l
 simp only[results,h];simp[q,r,x,asAddr,run_loadVar_mid w b 0 c cs d f i j hi]
def MP(w w':Pv)(e:Ending):Prop:=
 ∃(na:Pt) (nc:Nat) (L:List Qq) (g c:Nat) (Kk:List Ps),e= .returned (.tuple #[.agg #[.slice na L.length nc],.b g Kk.length c])/\L.length<=200/\(∀d∈L,d.TinyN 30)/\bM w' (.slice na L.length nc) L/\Kk.length<=c/\Kk.length<=12/\(∀x∈Kk,x.size<=300)/\fA w' 9 (some ⟨g,0,none⟩) Kk/\K_ w w'
theorem zi(w:Pv)(a:Pt)(cap:Nat)(bs:List UInt8)(H:BytesAt w a bs)(I:bs.length<=cap)(J:bs.length<=100000000):
  Calls prog 18 #[.slice a bs.length cap] w λe w'=>MP w w' e:=by
 have s:K_ w (w.alloc (.cells #[J3] 25)):=ah _ _;have M:=Kz (aB.made w #[J3] 25);have N:=Kz (H.kept s);have O:=Kz s;clear H s;go_enter func18,ntmps18
 go_wp2_with fail
 refine (Cu _ a cap bs N.o I J).mono ?_;rintro e X ⟨i,rfl,Y,t,v⟩;obtain⟨x,y⟩:=ai (bs.take 2000);have P:x.length<=2000:=by rw[y,Oo];omega
 rw[<-y] at t;rw[OC] at Y;have Z:=Kz t;have a0:=Kz (O.o.trans v);have Q:=Kz (M.o.kept v)
 
 clear t v y N O M I J;go_wp2_with fail
 refine (Kl X i a cap x 0 Z.o A7 P).mono ?_;rintro e j ⟨b9,L,p1,rfl,c0,c1,hl,z,A,B,C,a1⟩;obtain⟨b,c,rfl,_,_⟩:=A.slice;obtain⟨d,l⟩:=ai (j.alloc (.cells #[.slice b L.length c] 25));obtain⟨n,D⟩:=ai j.heap.size;have p:K_ j d:=by rw[l];exact ah _ _
 have a2:i<j.heap.size:=B.row.lt;have a3:d.heap.size=j.heap.size+1:=by rw[l];simp
 have E:Hid (∀u,Xk i (i+1) d u->u.cell? ⟨n,0,none⟩=some (.slice b L.length c)/\n<u.heap.size):=λu R=>by
  have hz:=R.size;refine⟨(Od (w:=d) (a:=⟨n,0,none⟩) (R.block n A7 A7)).trans ?_,A7⟩;rw[l,D];exact Xz j _ _ 0 _ rfl
 have S:=Kz (B.kept p);have T:=Kz (A.kept p);have a4:=Kz ((C.kept a0.o A7).trans p);have a5:=Kz ((Q.o.but C A7).kept p);have a6:Hid (∀F∈L,F.name.size<=300):=λF hd=>(z F hd).name
 have a7:=Kz z;have a8:n≠w.heap.size:=A7;go_upto_region 3 with fail
 rw[<-l,<-D];clear l D a3 p B A C a1 z Q a2;refine wG 5 E.o (.au (bD d)) (λf=>?_);have r:K_ d d.drew:=bD d;generalize a9:d.drew=wd at f r⊢;clear a9;refine ae 0 f ?_;refine ae 1 f ?_;refine ae 2 f ?_;refine aF 3 (λK h=>?_);go_simp
 go_at_call 54
 refine (GZ wd i a cap x p1 b c L (S.o.kept r) A7 P (T.o.kept r) A7 a6.o).mono ?_;rintro e k ⟨g,b0,Kk,p3,rfl,b1,b2,b3,U,_,_,b4,V⟩;have q:Xk i (i+1) d k:=(Xk.au r).trans V;have b5:=Kz (T.o.same (q.sameKind S.o) A8 A8 A8 A8);have G:=Kz (a5.o.but q A7);have b6:=Kz (q.kept a4.o A7);have b7:=Kz U;clear U b4 V;dsimp only;refine af h (λ_=>E.o _ q) ?_;clear h K f;have f:=E.o _ q;refine aF 4 (λK h=>?_);refine wp_store_mid 25 _ _ rfl w.heap.size 0 #[.slice b L.length c] D8 D8 (G.o.row.there (o:=0) (m:=1) (Nat.le_refl _)) C9 G5 ?_;refine af h (λ_=>⟨by rw[World.setCells,World.setCells,Zk a8];exact f.1,by rw[World.setCells,World.setCells,size_setCell];exact f.2⟩) ?_;clear h K;refine aj 5 (λK h=>?_);go_simp
 refine af h (λb8=>Pg rfl b8) ?_;clear h K;refine aG ?_;go_wp2
 have hR:=NU k w.heap.size 0 [.slice b L.length c] (G.o.row.there (o:=0) (m:=1) (NQ _));have W:aC 25 k (k.setCells w.heap.size 0 [.slice b L.length c]):=G.o.same _;have kf:K_ w (k.setCells w.heap.size 0 [.slice b L.length c]):=(Xk.sets (NQ w.heap.size) (Nat.lt_succ_self _) [.slice b L.length c] 0 (Xk.refl _ _ k)).kept b6.o (NQ _);exact vM [.slice b L.length c] _ _ results18 rfl hR underlying25 rfl Tryz.g_ rfl rfl ⟨b,c,L,g,b0,Kk,rfl,hl,a7.o,b5.o.same W A8 A8 A8 A8,b1,b2,b3,b7.o.same W A8,kf⟩
theorem Tryz.La :(prog.info? 3).map (λi=>(i.zero,i.size,i.bytes))=some (some (.a 0),1,8):=C9
theorem MO(w:Pv)(x:Int):∀j u,([.a x]:List Pw)[j]? =some u->(w.alloc (.cells #[.a x] 3)).cell? ((⟨w.heap.size,0,none⟩:Addr).add j)=some u:=λj u a=>by
 rw[OI];exact Xz w #[.a x] 3 j u a
theorem MU(x:Int):∀u∈([.a x]:List Pw),u.oneCell'=true:=λu a=>by simp at a;subst a;rfl
theorem zG{w:Pv}{base:Nat}{t:TypeId}{a:Pt}{n m cap:Nat}{l:List Int}(h:w.ownsRow base t 1 (.slice a m cap) n (l.map (Value.int .i64))):Ints w a l:=by
 have c:n=l.length:=by have:=h.1;simp at this;omega
 subst c;rcases h.2 with⟨_,f⟩|⟨g,j,k,e,p,d,_,_,_,_⟩
 .intro i b;omega
 .simp only[OG] at e;obtain⟨rfl,_,_⟩:=e;intro i b;have:=h.cells (g:=g) rfl i (.a (l.getD i 0)) (by simp[List.getD,b]);rw[OI] at this;exact⟨g,0,rfl,aO d,this⟩
structure ISt (W wr:Pv) (rb:Nat) (a:Pt) (cap:Nat) (bs:List UInt8) (p:Nat) (v:Pw) (l:List Int):Prop where
 rd:Rd wr rb a cap bs p
 rd0:∃p0,Rd W rb a cap bs p0
 kb:Xk rb (rb+1) W wr
 own:wr.ownsRow W.heap.size 3 1 v l.length (l.map (Value.int .i64))
 sz:∀x∈l,In64 x
section
variable {W wr w' : Pv} {rb : Nat} {a : Pt} {cap : Nat} {bs : List UInt8} {p p' : Nat} {v : Pw} {l : List Int}
theorem ISt.drawn(h:ISt W wr rb a cap bs p v l)(c:Rd w' rb a cap bs p')(k:Xk rb (rb+1) wr w'):ISt W w' rb a cap bs p' v l:=
 ⟨c,h.rd0,h.kb.trans k,aU h.own (k.sameKind h.rd) A8,h.sz⟩
theorem ISt.kept(h:ISt W wr rb a cap bs p v l)(k:K_ wr w'):ISt W w' rb a cap bs p v l:=h.drawn (h.rd.kept k) (.au k)
theorem ISt.push{w1 w2:Pv}{d:Pw}{x:Int}(h:ISt W wr rb a cap bs p v l)(f:K_ wr w1)(i:w2.ownsRow W.heap.size 3 1 d (l.length+1) (l.map (Value.int .i64)++ [.a x]))(j:w1.grownBy w2 v.ownBlock)(k:In64 x):ISt W w2 rb a cap bs p d (l++ [x]):=by
 have b:=h.kept f;have e:Below W.heap.size w1 w2:=(Below.refl _ _).grown j b.kb.size (λm n=>(b.own.lt m n).1);obtain⟨r,q⟩:=h.rd0;refine⟨b.rd.below q e b.kb.size,h.rd0,b.kb.below e,by simpa using i,λy c=>?_⟩;simp only[N_,NZ] at c;rcases c with c | rfl
 .exact h.sz y c
 .exact k
end
def NI(w w':Pv)(e:Ending):Prop:=
 ∃(na:Pt) (nc:Nat) (L:List Qq) (g c:Nat) (Kk:List Ps) (pa:Pt) (pc:Nat) (picks:List Int),e= .returned (.tuple #[.agg #[.slice na L.length nc],.b g Kk.length c,.slice pa picks.length pc])/\L.length<=200/\(∀d∈L,d.TinyN 30)/\bM w' (.slice na L.length nc) L/\Kk.length<=c/\Kk.length<=12/\(∀x∈Kk,x.size<=300)/\fA w' 9 (some ⟨g,0,none⟩) Kk/\picks.length<=10/\(∀p∈picks,In64 p)/\Ints w' pa picks/\K_ w w'
theorem zt(w:Pv)(a:Pt)(cap:Nat)(bs:List UInt8)(V:BytesAt w a bs)(D:bs.length<=cap)(E:bs.length<=100000000):
  Calls prog 5 #[.slice a bs.length cap] w λe w'=>NI w w' e:=by
 have F:K_ w (w.alloc (.cells #[J3] 25)):=ah _ _;have W:=Kz (aB.made w #[J3] 25);have G:=Kz (V.kept F);have X:=Kz F;clear V F;go_enter func5,ntmps5
 go_wp2_with fail
 refine (Cu _ a cap bs G.o D E).mono ?_;rintro e b5 ⟨d,rfl,b6,H,f⟩;obtain⟨k,I⟩:=ai (bs.take 2000);have t:k.length<=2000:=by rw[I,Oo];omega
 rw[<-I] at H;rw[OC] at b6;have J:=Kz H;have Y:=Kz (X.o.trans f);have Z:=Kz (W.o.kept f)
 
 have a0:=Kz (G.o.kept f);clear H f I G X W;go_wp2_with fail
 refine (zi b5 a cap bs a0.o D E).mono ?_;rintro e p ⟨h,j,L,g,b7,Kk,rfl,hl,a1,hG,b8,b9,c0,hT,K⟩;obtain⟨c,r⟩:=ai (p.alloc (.cells #[.slice h L.length j] 25));obtain⟨s,M⟩:=ai p.heap.size;have v:K_ p c:=by rw[r];exact ah _ _
 have y:=K.trans v;have c1:d<p.heap.size:=NR J.o.row.lt K.size;have c2:c.heap.size=p.heap.size+1:=by rw[r];simp
 have HC:Hid (∀u,Xk d (d+1) c u->J4 u s 0 (.slice h L.length j)/\s<u.heap.size):=λu ku=>by
  have hz:=ku.size;refine⟨(Od (w:=c) (a:=⟨s,0,none⟩) (ku.block s A7 A7)).trans ?_,A7⟩;rw[r,M];exact Xz p _ _ 0 _ rfl
 have c3:=Kz (hG.kept v);have c4:=Kz (hT.same (u:=25) (aC.au v) A8);have c5:=Kz (Y.o.trans y);have N:=Kz (J.o.kept y);have c6:=Kz (Z.o.kept y);have c7:=Kz a1;have b:Hid (ISt c (c.alloc (.cells #[] 3)) d a cap k 0 (.b c.heap.size 0 0) []):=by
  have kk:K_ c (c.alloc (.cells #[] 3)):=ah _ _;exact⟨N.o.kept kk,⟨0,N.o⟩,.au kk,Ov c #[] 0 (NQ _) (NS _) rfl,λx hx=>by simp at hx⟩
 have d6:s≠w.heap.size:=A7;go_upto_region 3 with fail
 rw[<-r,<-M];clear r M c2 v K y hG hT a1 Z a0 Y J D E c1;go_wp2_with fail
 refine (aM _ d a cap k 0 _ 9 rfl b.o.rd A7 A7 t).mono ?_;rintro e w2 ⟨n,rfl,hn,a2,a3⟩;have a4:=Kz (b.o.drawn a2 a3);clear a2 a3 b;go_wp2
 go_loopg [8,9] n (λz x8 x9 wr=>∃(p':Nat) (l:List Int),x9= .a (z:Int)/\z<=n/\p'+3*z<=1+3*n/\l.length+z<=n/\ISt c wr d a cap k p' x8 l)
 case atStart=>exact⟨1,[],rfl,NQ _,A7,A9,a4.o⟩
 case round=>
  clear a4;obtain⟨A,l,rfl,hg,d7,d8,hO⟩:=hrel;have b:=Kz hO;clear hO;obtain⟨av,cv,rfl⟩:=ay b.o.own;by_cases d9:(0:Int)<(gk:Int)
  .go_wp2_with fail
   refine (aM _ d a cap k A _ 30 rfl b.o.rd A7 A7 t).mono ?_;rintro e w3 ⟨q1,rfl,e0,a5,a6⟩;have O:=Kz (b.o.drawn a5 a6);clear a5 a6 b;go_wp2_with fail
   refine (aM _ d a cap k (A+1) _ 30 rfl O.o.rd A7 A7 t).mono ?_;rintro e P ⟨q2,rfl,e1,a7,a8⟩;have a9:=Kz (O.o.drawn a7 a8);have K4:K_ P (P.alloc (.cells #[.a (q1:Int),.a (q2:Int),.a 1000003,.a (-1)] 3)):=ah _ _;have Q:=Kz (a9.o.kept K4);clear a7 a8 O K4;go_wp2_with fail
   refine (aM _ d a cap k (A+2) _ 4 rfl Q.o.rd A7 A7 t).mono ?_;rintro e q ⟨R,rfl,hq,b2,B⟩;have S:=Kz (Q.o.drawn b2 B);obtain⟨x,b3,hx⟩:=Ls [(q1:Int),(q2:Int),1000003, -1] B a9.o.rd.row.lt R (by show R<4;omega);have c8:In64 x:=by simp at b3;unfold In64;omega
   have lz:P.heap.size<q.heap.size:=NR A9 B.size;have e2:(R:Int)<4:=A7;have f:K_ q (q.alloc (.cells #[.a x] 3)):=ah _ _;have c9:=Kz f;have d0:=Kz (S.o.kept f).own;have d1:c.heap.size<=(q.alloc (.cells #[.a x] 3)).heap.size:=(S.o.kept f).kb.size;obtain⟨ia,d2,d3,d4,d5⟩:=aS Tryz.La;clear b2 B Q f b3;go_wp2_with (at_builtin;refine wpList_append_own _ rfl (.tmp 24) (.tmp 34) 27 rfl c.heap.size 3 ia _ 1 8 underlying27 d2 d3 d4 d5 rfl A8 (.slice av l.length cv) l.length (l.map (Value.int .i64)) rfl d0.o ⟨q.heap.size,0,none⟩ 1 1 [.a x] rfl rfl (MO q x) (MU x) D5 A7 d1 ?_;intro v' w8 T b4 _;have HP:=Kz (S.o.push c9.o T b4 c8);obtain⟨e3,e4,rfl⟩:=ay T;clear T b4)
   go_roundg (gk-1)
   case measure=>omega
   case rel=>exact⟨A+3,l++ [x],C8,A7,A7,H8,HP.o⟩
  .obtain⟨b0,b1⟩:=HC.o _ b.o.kb;have C:=Kz (c6.o.but b.o.kb A7);obtain⟨⟨_,u0⟩,e5⟩:=C.o.row.at (i:=0) A8;have zr:=C.o.lt;go_wp2
   have hR:=NU wr w.heap.size 0 [.slice h L.length j] (C.o.row.there (o:=0) (m:=1) (NQ _));have U:aC 25 wr (wr.setCells w.heap.size 0 [.slice h L.length j]):=C.o.same _;have kf:K_ w (wr.setCells w.heap.size 0 [.slice h L.length j]):=(Xk.sets (NQ w.heap.size) (Nat.lt_succ_self _) [.slice h L.length j] 0 (Xk.refl _ _ wr)).kept (b.o.kb.kept c5.o A7) (NQ _);have hs:=b.o.kb.sameKind N.o;exact uB [.slice h L.length j] _ _ _ results5 rfl hR underlying25 rfl Tryz.g_ rfl rfl rfl ⟨h,j,L,g,b7,Kk,av,cv,l,rfl,hl,c7.o,(c3.o.same hs A8 A8 A8 A8).same U A8 A8 A8 A8,b8,b9,c0,(c4.o.same hs A8).same U A8,A7,b.o.sz,zG (aU b.o.own U A8),kf⟩
