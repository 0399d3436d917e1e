import Derived.Test.YtbmhchdegdjfkaaGreatDoorKXStart
import Derived.Test.YtbmhchdegdjfkaaGreatDoorKXNext
set_option maxRecDepth 100000
set_option maxHeartbeats 25600000
namespace Go.Proofs.YtbmhchdegdjfkaaGreatDoor
open Go.RowKit Go.Proofs.Tryz
def gJ(w:KH)(nb:Nat)(a:KG)(l:List KC):Prop:=∀i,i<l.length->∃b o,a=some ⟨b,o,none⟩/\b<w.heap.size/\b≠nb/\w.cell? ⟨b,o+i,none⟩=some (.string (l.getD i ByteArray.empty))
variable {a : KG} {w w' : KH}
theorem gJ.new{l:List KC}(h:Strs w a l)(k:K_ w w'):gJ w' w.heap.size a l:=fun i c=>by
 obtain⟨d,o,e,b,f⟩:=h i c;exact⟨d,o,e,I_ b k.size,by omega,(k.cell b).trans f⟩
variable {nb : Nat}
theorem gJ.IV{n0 c:Nat}{l:List KC}(h:dS n0 w c a l)(k:n0<=nb)(h2:nb<c+2):gJ w nb a l:=fun i d=>by
 obtain⟨b,o,e,f,m,j⟩:=h i d;exact⟨b,o,e,f,by omega,j⟩
theorem gJ.Ha{l:List KC}:∀(vs:List KI) (p:Nat) {w:KH},gJ w nb a l->gJ (w.setCells nb p vs) nb a l
 | [],_,_,h=>h
 | v :: r,p,w,h=>by
  rw[World.setCells];refine gJ.Ha r (p+1) fun i c=>?_
  obtain⟨d,o,e,f,b,j⟩:=h i c;exact⟨d,o,e,by rw[size_setCell];exact f,b,by rw[Zj b];exact j⟩
theorem gJ.sets{l:List KC}(h:gJ w nb a l)(b:List KI)(p:Nat):Strs (w.setCells nb p b) a l:=fun i c=>by
 obtain⟨d,o,e,f,_,j⟩:=gJ.Ha b p h i c;exact⟨d,o,e,f,j⟩
variable {b n : Nat} {t : TypeId}
theorem au.sets :∀(vs:List KI) (p:Nat) {w:KH},au w b t n->au (w.setCells b p vs) b t n
 | [],_,_,h=>h
 | v :: r,p,_,h=>by rw[World.setCells];exact au.sets r (p+1) (h.set v)
theorem eZ.laid(h:au w nb 40 7){q:Q_}{a:KG}{b:Nat}:eZ (w.setCells nb 0 (q.cells a b)) nb q a b:=
 ⟨au.sets _ _ h,Jc w nb 0 (q.cells a b) (h.row.there (o:=0) (m:=7) (IZ _))⟩
variable {W : dQ} {σ : Env} {r : Q_}
theorem Du :(Xx W σ r).2=[]\/∃A,W r.name=some A/\(Xx W σ r).2= (stepOf A (Xx W σ r).1.at').asks:=by
 unfold Xx;cases d:W r.name with
 | none=>exact .inl rfl
 | some A=>
  simp only;by_cases a:r.Zq=0
  ·rw[Kg a];refine .inr ⟨A,rfl, ?_⟩;unfold bQ
   split <;> rfl
  ·rw[Kh a];cases Yz W σ (stepOf A r.at').asks with
   | none=>exact .inl rfl
   | some xs=>
    simp only;by_cases b:r.Zq=20
    ·rw[Kg b];exact .inl rfl
    ·rw[Kh b];by_cases c:(bR (stepOf A r.at') xs).over=true
     ·rw[Kg c];exact .inl rfl
     ·rw[Kh c];refine .inr ⟨A,rfl, ?_⟩;unfold bQ
      split <;> rfl
theorem vC{a:List Qz}(c:bV (Kk a))(f:dP a σ)(h:r.Good a)(i:aV (Kk a) σ r):(Xx (Kk a) σ r).2.length<=5:=by
 rcases Du (W:=Kk a) (σ:=σ) (r:=r) with e|⟨A,d,e⟩
 ·rw[e];exact Ja _
 ·obtain⟨l,b,j,k⟩:=(dU c f h i).act;rw[bZ] at b;rw[d] at b;cases b;rw[e];exact (gD (c _ _ d).1 j k).1
theorem yg(w:KH)(a:KG)(t:Nat)(f:List Qz)(D E G:Nat)(Kj:List KC)(d:KG)(H:Nat)(l:List Q_)(c8:KC)(r:Q_)(m5:f.length<=1000)(m6:l.length<=900)(f4:gT f)(c9:bV (Kk f))(j4:∀y∈f,y.Fits)(j5:Kj.length<=10)
  (a7:fM f l) (hr:Qq l c8=some r) (d0:aV (Kk f) (Qq l) r) (hN:bY w a f) (hS:bK w d l) (hR:Strs w (some ⟨D,E,none⟩) Kj):
  Calls prog 50 #[.agg #[.slice a f.length t],.agg #[.slice (some ⟨D,E,none⟩) Kj.length G,.slice d l.length H],.string c8] w fun e w'=>qF Kj (doL (Kk f) l r) w w' e:=by
 obtain⟨k,hk,d1⟩:∃k,k<l.length/\l.getD k Q_.zero=r:=by
  obtain⟨k,I,h2⟩:=Jk (bC hr).1;exact⟨k,I,by simp only[List.getD,Jd I,Kl,h2]⟩
 have d2:=a7.good r (bC hr).1;have d3:=a7.env;have d4:l.length<=1048576:=by omega
 have d5:f.length<=1048576:=by omega
 obtain⟨b,o,xa,xc,rfl,Y,R,d6,f5⟩:=hS k hk;rw[d1] at R d6;have j6:=Kz f5;clear f5;obtain⟨x,Z⟩:=ah (((w.alloc (.cells #[.slice a f.length t] 25)).alloc (.cells #[.slice (some ⟨D,E,none⟩) Kj.length G,.slice (some ⟨b,o,none⟩) l.length H] 29)).alloc (.cells #[.slice none 0 0,.slice none 0 0] 29));have L:K_ w x:=by rw[Z];exact ((ag _ _).alloc _).alloc _
 have j7:x.heap.size=w.heap.size+3:=by rw[Z];simp
 have b0:x.cell? ⟨w.heap.size,0,none⟩=some (.slice a f.length t):=by rw[Z,K_.cell (w:=w.alloc (.cells #[.slice a f.length t] 25)) ((ag _ _).alloc _) (by simp)];exact X_ w _ _ 0 _ rfl
 have S:x.cell? ⟨w.heap.size+1,0,none⟩=some (.slice (some ⟨D,E,none⟩) Kj.length G):=by have:=X_ (w.alloc (.cells #[.slice a f.length t] 25)) #[.slice (some ⟨D,E,none⟩) Kj.length G,.slice (some ⟨b,o,none⟩) l.length H] 29 0 _ rfl;rw[JG] at this;rw[Z,K_.cell (w:=(w.alloc (.cells #[.slice a f.length t] 25)).alloc (.cells #[.slice (some ⟨D,E,none⟩) Kj.length G,.slice (some ⟨b,o,none⟩) l.length H] 29)) (ag _ _) (by simp)];exact this
 have s1:x.cell? ⟨w.heap.size+1,1,none⟩=some (.slice (some ⟨b,o,none⟩) l.length H):=by have:=X_ (w.alloc (.cells #[.slice a f.length t] 25)) #[.slice (some ⟨D,E,none⟩) Kj.length G,.slice (some ⟨b,o,none⟩) l.length H] 29 1 _ rfl;rw[JG] at this;rw[Z,K_.cell (w:=(w.alloc (.cells #[.slice a f.length t] 25)).alloc (.cells #[.slice (some ⟨D,E,none⟩) Kj.length G,.slice (some ⟨b,o,none⟩) l.length H] 29)) (ag _ _) (by simp)];exact this
 have f6:Hid (au x (w.heap.size+1+1) 29 2):=by
  have I:=au.made ((w.alloc (.cells #[.slice a f.length t] 25)).alloc (.cells #[.slice (some ⟨D,E,none⟩) Kj.length G,.slice (some ⟨b,o,none⟩) l.length H] 29)) #[.slice none 0 0,.slice none 0 0] 29;simp only[JG] at I;rw[Z];exact I
 have z0:w.heap.size<x.heap.size:=by omega
 have z1:w.heap.size+1<x.heap.size:=by omega
 have a2:b<x.heap.size:=I_ Y L.size;have t0:x.cell? ⟨b,o+k*7,none⟩=some (.string r.name):=(L.cell Y).trans (R 0 _ rfl);have t1:x.cell? ⟨b,o+k*7+1,none⟩=some (.bool r.over):=(L.cell Y).trans (R 1 _ rfl);have t2:x.cell? ⟨b,o+k*7+2,none⟩=some (.bool r.fail):=(L.cell Y).trans (R 2 _ rfl);have t3:x.cell? ⟨b,o+k*7+3,none⟩=some (.string r.text):=(L.cell Y).trans (R 3 _ rfl);have t4:x.cell? ⟨b,o+k*7+4,none⟩=some (.int .i64 r.at'):=(L.cell Y).trans (R 4 _ rfl);have t5:x.cell? ⟨b,o+k*7+5,none⟩=some (.int .i64 r.Zq):=(L.cell Y).trans (R 5 _ rfl);have t6:x.cell? ⟨b,o+k*7+6,none⟩=some (.slice xa r.texts.length xc):=(L.cell Y).trans (R 6 _ rfl);have J:Hid (∀w',K_ x w'->w'.cell? ⟨w.heap.size,0,none⟩=some (.slice a f.length t)/\w'.cell? ⟨w.heap.size+1,0,none⟩=some (.slice (some ⟨D,E,none⟩) Kj.length G)/\w'.cell? ⟨w.heap.size+1,1,none⟩=some (.slice (some ⟨b,o,none⟩) l.length H)/\w'.cell? ⟨b,o+k*7,none⟩=some (.string r.name)/\w'.cell? ⟨b,o+k*7+1,none⟩=some (.bool r.over)/\w'.cell? ⟨b,o+k*7+2,none⟩=some (.bool r.fail)/\w'.cell? ⟨b,o+k*7+3,none⟩=some (.string r.text)/\w'.cell? ⟨b,o+k*7+4,none⟩=some (.int .i64 r.at')/\w'.cell? ⟨b,o+k*7+5,none⟩=some (.int .i64 r.Zq)/\w'.cell? ⟨b,o+k*7+6,none⟩=some (.slice xa r.texts.length xc)):=fun w' K=>⟨(K.cell z0).trans b0,(K.cell z1).trans S,(K.cell z1).trans s1,(K.cell a2).trans t0,(K.cell a2).trans t1,(K.cell a2).trans t2,(K.cell a2).trans t3,(K.cell a2).trans t4,(K.cell a2).trans t5,(K.cell a2).trans t6⟩
 have f7:Hid (∀W,K_ x W->Calls prog 87 #[.agg #[.slice a f.length t],.agg #[.slice (some ⟨D,E,none⟩) Kj.length G,.slice (some ⟨b,o,none⟩) l.length H],.agg #[.string r.name,.bool r.over,.bool r.fail,.string r.text,.int .i64 r.at',.int .i64 r.Zq,.slice xa r.texts.length xc]] W fun e w'=>Says e (aV (Kk f) (Qq l) r)/\K_ W w'):=fun W K=>xq W a t f (some ⟨D,E,none⟩) Kj.length G (some ⟨b,o,none⟩) H l r xa xc d5 d4 f4 (fun _ _=>d2.act) (hN.kept (L.trans K)) (hS.kept (L.trans K))
 have d7:Hid (∀W,K_ x W->Calls prog 88 #[.agg #[.slice a f.length t],.agg #[.slice (some ⟨D,E,none⟩) Kj.length G,.slice (some ⟨b,o,none⟩) l.length H],.agg #[.string r.name,.bool r.over,.bool r.fail,.string r.text,.int .i64 r.at',.int .i64 r.Zq,.slice xa r.texts.length xc]] W fun e w'=>tF w.heap.size (W.heap.size+2) (Kk f) (Qq l) r w' e/\K_ W w'):=fun W K=>EQ w W (L.trans K) a t f (some ⟨D,E,none⟩) Kj.length G (some ⟨b,o,none⟩) H l r xa xc d5 d4 f4 c9 j4 d2 d3 d0 hN (hS.kept (L.trans K)) d6 j6.o
 have⟨b1,HN,HS,j8,e0⟩:=iU L hN hS hR d0;have⟨f8,f9,j9⟩:=eB d2 hr d1;clear hr d1;clear L j7 R hN hS hR d0 d6 t0 t1 t2 t3 t4 t5 t6 b0 S s1;go_enter func50,ntmps50
 go_upto_region 1 with fail
 rw[<-Z];clear Z;obtain⟨b0,S,s1,_⟩:=J.o _ (K_.refl _);go_wp2_with fail
 refine (gQ _ (some ⟨D,E,none⟩) Kj.length G (some ⟨b,o,none⟩) H l c8 d4 (HS.o.kept b1.o)).mono ?_;rintro e w1 ⟨⟨q1,rfl,g0⟩,K1⟩;obtain rfl:q1= (k:Int):=by
  rcases g0 with⟨a8,hj,e1,I,h2⟩|⟨_,I⟩
  ·rw[e1];have e2:l.getD a8 Q_.zero=l.getD k Q_.zero:=by rw[f9.o] at I;rw[<-JR I,j9.o]
   simp only[List.getD,Jd hj,Jd hk,Kl] at e2;have g1:=congrArg Q_.name e2;have g2:=Jj.1 a7.asc;rcases Ke a8 k with s|s|s
   ·exact Ki g1 (dA (g2 a8 k hj hk s))
   ·rw[s]
   ·exact Ki g1.symm (dA (g2 k a8 hk hj s))
  ·rw[f9.o] at I;cases I
 clear g0 b0 S s1;have m7:¬(k:Int)<0:=by omega
 have m8:(k:Int)<(l.length:Int):=by omega
 go_upto_region 2 with fail
 refine gL 12 J.o (K1.drew) (fun j=>?_);have B:K_ w1 w1.drew:=aG w1;generalize e3:w1.drew=M at j B⊢;clear e3;refine aB 0 j ?_;refine aB 4 j ?_;refine ae 8 j ?_;refine ae 9 j ?_;refine ai 10 (fun K h=>?_);go_simp
 go_at_call 87
 refine (f7.o M (K1.trans B)).mono ?_;rintro e w2 ⟨g3,k2⟩;have K2:=(K1.trans B).trans k2;rcases g3.cases with⟨rfl,_⟩|⟨rfl,k0⟩;rotate_left
 ·exact Ki e0.o k0
 clear g3 k2;dsimp only;refine h.out _ _ (fun _=>J.o _ K2) ?_;clear h K j B K1;have j:=J.o _ K2;try simp only[Act.put,upA,upB,upC]
 refine ae 11 j ?_;refine af 12 (fun K h=>?_);go_simp
 refine h.out _ _ (fun s=>Ki rfl s) ?_;clear h K;try simp only[Act.put,upA,upB,upC]
 refine ay ?_;clear j;go_upto_region 4 with fail
 go_cut [8,9] from 29 to 39 (fun s8 s9 wx=>∃A q C F a0 kc,s8= .pointer (some ⟨A,0,none⟩)/\s9= .slice a0 (Xx (Kk f) (Qq l) r).2.length kc/\q= (Xx (Kk f) (Qq l) r).1/\K_ x wx/\x.heap.size<=A/\eZ wx A q C F/\Strs wx C q.texts/\(C=none->F=0)/\Strs wx a0 (Xx (Kk f) (Qq l) r).2)
 case first=>
  refine gL 13 J.o (K2.drew) (fun j=>?_);have B:K_ w2 w2.drew:=aG w2;generalize e3:w2.drew=M at j B⊢;clear e3;refine aB 0 j ?_;refine ae 4 j ?_;refine ae 5 j ?_;refine ae 6 j ?_;refine bG 7 11 (fun K h=>?_) (fun K h=>?_)
  ·rw[Kg (by rfl)];go_simp
   go_at_call 88
   refine (d7.o M (K2.trans B)).mono ?_;rintro e w3 ⟨⟨C,F,a0,kc,rfl,Q,a1,N⟩,k3⟩;obtain⟨q,O⟩:=ah ((Xx (Kk f) (Qq l) r).1);obtain⟨asks,P⟩:=ah ((Xx (Kk f) (Qq l) r).2);rw[<-O] at Q⊢;rw[<-P] at N⊢;have⟨HQ,HA,b8,a3,e4⟩:=iU O P Q N a1;clear Q N a1 O P;dsimp only[Q_.cells];have T:=(K2.trans B).trans k3;refine h.out _ _ (fun _=>J.o _ T) ?_;clear h K j;have j:=J.o _ T;try simp only[Act.put,upA,upB,upC]
   refine ae 8 j ?_;refine ae 9 j ?_;refine ae 10 j ?_;refine af 11 (fun K h=>?_);go_simp
   have K4:K_ w3 (w3.alloc (.cells #[.string ⟨#[]⟩,.bool false,.bool false,.string ⟨#[]⟩,.int .i64 0,.int .i64 0,.slice none 0 0] 40)):=ag _ _;refine h.out _ _ (fun _=>J.o _ (T.trans K4)) ?_;clear h K;try simp only[Act.put,upA,upB,upC]
   have U:au (w3.alloc (.cells #[.string ⟨#[]⟩,.bool false,.bool false,.string ⟨#[]⟩,.int .i64 0,.int .i64 0,.slice none 0 0] 40)) w3.heap.size 40 7:=au.made w3 _ _;have KE:=T.trans K4;have b2:=Kz (gJ.new b8.o.strs K4);have b3:=Kz (gJ.new a3.o.strs K4);have V:=T.size;obtain⟨A,a9⟩:=ah w3.heap.size;rw[<-a9] at U b2 b3 V⊢;generalize b4:w3.alloc (.cells #[.string ⟨#[]⟩,.bool false,.bool false,.string ⟨#[]⟩,.int .i64 0,.int .i64 0,.slice none 0 0] 40)=wE at U KE b2 b3⊢;clear b4 K4 a9 b8 a3;obtain⟨⟨⟨_,v0⟩,g5⟩,⟨⟨_,v1⟩,g7⟩,⟨⟨_,v2⟩,f2⟩,⟨⟨_,v3⟩,k1⟩,⟨⟨_,v4⟩,k4⟩,⟨⟨_,v5⟩,k5⟩,⟨_,v6⟩,k6⟩:=U.row.AB;have vz:=U.lt;refine af 12 (fun K h=>?_);go_simp
   refine h.out _ _ ?_ ?_
   ·exact fun _=>J.o _ (bT (g:=A) V [.string q.name,.bool q.over,.bool q.fail,.string q.text,.int .i64 q.at',.int .i64 q.Zq,.slice C q.texts.length F] 0 KE)
   clear h K;try simp only[Act.put,upA,upB,upC]
   refine af 13 (fun K h=>?_);go_simp
   refine h.out _ _ (fun s=>Ki rfl s) ?_;clear h K;try simp only[Act.put,upA,upB,upC]
   refine ay ?_;go_wp2
   go_meet
   exact⟨A,q,C,F,a0,kc,rfl,by rw[HA.o],HQ.o,bT (g:=A) V [.string q.name,.bool q.over,.bool q.fail,.string q.text,.int .i64 q.at',.int .i64 q.Zq,.slice C q.texts.length F] 0 KE,V,eZ.laid U,b2.o.sets [.string q.name,.bool q.over,.bool q.fail,.string q.text,.int .i64 q.at',.int .i64 q.Zq,.slice C q.texts.length F] 0,e4.o,by rw[<-HA.o];exact b3.o.sets [.string q.name,.bool q.over,.bool q.fail,.string q.text,.int .i64 q.at',.int .i64 q.Zq,.slice C q.texts.length F] 0⟩
  ·rw[Kg (by rfl)];go_simp
   have g8:K_ M (M.alloc (.cells #[.string ⟨#[]⟩,.bool false,.bool false,.string ⟨#[]⟩,.int .i64 0,.int .i64 0,.slice none 0 0] 40)):=ag _ _;have b9:=(K2.trans B).trans g8;have c0:au (M.alloc (.cells #[.string ⟨#[]⟩,.bool false,.bool false,.string ⟨#[]⟩,.int .i64 0,.int .i64 0,.slice none 0 0] 40)) M.heap.size 40 7:=au.made M _ _;have V:=(K2.trans B).size;obtain⟨A,a9⟩:=ah M.heap.size;rw[<-a9] at c0 V⊢;generalize b4:M.alloc (.cells #[.string ⟨#[]⟩,.bool false,.bool false,.string ⟨#[]⟩,.int .i64 0,.int .i64 0,.slice none 0 0] 40)=wF at c0 b9⊢;clear b4 g8 a9;refine h.out _ _ (fun _=>J.o _ b9) ?_;clear h K;try simp only[Act.put,upA,upB,upC]
   refine ai 7 (fun K h=>?_);go_simp
   go_at_call 88
   refine (d7.o wF b9).mono ?_;rintro e w3 ⟨⟨C,F,a0,kc,rfl,Q,a1,N⟩,k3⟩;obtain⟨q,O⟩:=ah ((Xx (Kk f) (Qq l) r).1);obtain⟨asks,P⟩:=ah ((Xx (Kk f) (Qq l) r).2);rw[<-O] at Q⊢;rw[<-P] at N⊢;have⟨HQ,HA,b8,a3,e4⟩:=iU O P Q N a1;clear Q N a1 O P;dsimp only[Q_.cells];have T:=b9.trans k3;refine h.out _ _ (fun _=>J.o _ T) ?_;clear h K j;have j:=J.o _ T;try simp only[Act.put,upA,upB,upC]
   refine ae 8 j ?_;refine ae 9 j ?_;refine ae 10 j ?_;have U:=c0.kept k3;have KE:=T;have m9:=c0.lt;have b2:=Kz (gJ.IV (nb:=A) b8.o (by omega) (by omega));have b3:=Kz (gJ.IV (nb:=A) a3.o (by omega) (by omega));obtain⟨⟨⟨_,v0⟩,g5⟩,⟨⟨_,v1⟩,g7⟩,⟨⟨_,v2⟩,f2⟩,⟨⟨_,v3⟩,k1⟩,⟨⟨_,v4⟩,k4⟩,⟨⟨_,v5⟩,k5⟩,⟨_,v6⟩,k6⟩:=U.row.AB;have vz:=U.lt;refine af 12 (fun K h=>?_);go_simp
   refine h.out _ _ ?_ ?_
   ·exact fun _=>J.o _ (bT (g:=A) V [.string q.name,.bool q.over,.bool q.fail,.string q.text,.int .i64 q.at',.int .i64 q.Zq,.slice C q.texts.length F] 0 KE)
   clear h K;try simp only[Act.put,upA,upB,upC]
   refine af 13 (fun K h=>?_);go_simp
   refine h.out _ _ (fun s=>Ki rfl s) ?_;clear h K;try simp only[Act.put,upA,upB,upC]
   refine ay ?_;go_wp2
   go_meet
   exact⟨A,q,C,F,a0,kc,rfl,by rw[HA.o],HQ.o,bT (g:=A) V [.string q.name,.bool q.over,.bool q.fail,.string q.text,.int .i64 q.at',.int .i64 q.Zq,.slice C q.texts.length F] 0 KE,V,eZ.laid U,b2.o.sets [.string q.name,.bool q.over,.bool q.fail,.string q.text,.int .i64 q.at',.int .i64 q.Zq,.slice C q.texts.length F] 0,e4.o,by rw[<-HA.o];exact b3.o.sets [.string q.name,.bool q.over,.bool q.fail,.string q.text,.int .i64 q.at',.int .i64 q.Zq,.slice C q.texts.length F] 0⟩
 case rest=>
  obtain⟨A,q,C,F,a0,kc,rfl,rfl,O,Kx,a9,e5,Q,a1,N⟩:=hcut;obtain⟨w4,rfl⟩:=ah wc;have c1:q.Good f:=by rw[O];exact dU c9 d3 f8.o e0.o
  have k7:(Xx (Kk f) (Qq l) r).2.length<=5:=vC c9 d3 f8.o e0.o;obtain⟨asks,P⟩:=ah ((Xx (Kk f) (Qq l) r).2);rw[<-P] at k7 N⊢;have g9:Hid ((fB (Kk f) (dz l q) asks).foldl dz []=doL (Kk f) l r):=by show _=_;rw[P,O];rfl
  have h0:q.texts.length<=1000:=by have I:=c1.tl;have h2:=c1.hi;omega
  obtain⟨h1,h4,h5,h6,g4,h7,g6⟩:=e5.all;have gz:=e5.row.lt;have⟨a3,k8⟩:=aD N c1;have h8:Hid (∀W,K_ w4 W->Calls prog 89 #[.slice (some ⟨b,o,none⟩) l.length H,.agg #[.string q.name,.bool q.over,.bool q.fail,.string q.text,.int .i64 q.at',.int .i64 q.Zq,.slice C q.texts.length F]] W fun e w'=>∃v,e= .returned v/\ER W w' (fun _=>True) v (dz l q)/\K_ W w'):=fun W hW=>zL W (some ⟨b,o,none⟩) H l q C F (by omega) h0 a7.asc (fun _=>True) (fun _ _=>trivial) ((HS.o.kept (b1.o.trans (Kx.trans hW))).all) (Q.kept hW) a1
  obtain⟨b0,S,s1,_⟩:=J.o _ Kx;have l0:=I_ z0 Kx.size;have l1:=I_ z1 Kx.size;have b5:Hid (∀w',K_ w4 w'->w'.cell? ⟨w.heap.size,0,none⟩=some (.slice a f.length t)/\w'.cell? ⟨w.heap.size+1,1,none⟩=some (.slice (some ⟨b,o,none⟩) l.length H)/\w'.cell? ⟨A,0,none⟩=some (.string q.name)/\w'.cell? ⟨A,1,none⟩=some (.bool q.over)/\w'.cell? ⟨A,2,none⟩=some (.bool q.fail)/\w'.cell? ⟨A,3,none⟩=some (.string q.text)/\w'.cell? ⟨A,4,none⟩=some (.int .i64 q.at')/\w'.cell? ⟨A,5,none⟩=some (.int .i64 q.Zq)/\w'.cell? ⟨A,6,none⟩=some (.slice C q.texts.length F)):=fun w' K=>⟨(K.cell l0).trans b0,(K.cell l1).trans s1,(K.cell gz).trans h1,(K.cell gz).trans h4,(K.cell gz).trans h5,(K.cell gz).trans h6,(K.cell gz).trans g4,(K.cell gz).trans h7,(K.cell gz).trans g6⟩
  clear O P N c1 Q a1 e5 h1 h4 h5 h6 g4 h7 g6 b0 S s1 d7 f7;go_upto_region 5 with fail
  refine bS 7 b5.o fun M B j=>?_
  refine aB 0 j ?_;refine ai 4 (fun K h=>?_);go_simp
  go_at_call 89
  refine (h8.o M B).mono ?_;rintro e X ⟨v5,rfl,l2,l3⟩;have K5:=B.trans l3;obtain⟨w6,h9,c2,e6,e7,i0⟩:=l2;obtain⟨av,cv,rfl⟩:=ax e7;have⟨i1,i2⟩:=aD e7 i0;have i3:=Kz (HN.o.kept (b1.o.trans (Kx.trans (B.trans c2))));have i4:=Kz (a3.o.kept (B.trans c2));have i5:=Kz e6;have i6:=Kz (B.trans c2);have n0:=e6.size;clear e7 i0 c2 e6;refine h.out _ _ (fun _=>b5.o _ K5) ?_;clear h K j;have j:=b5.o _ K5;try simp only[Act.put,upA,upB,upC]
  refine ae 5 j ?_;refine af 6 (fun K h=>?_);go_simp
  have c3:K_ X (X.alloc (.cells #[.slice a f.length t,.slice av (dz l q).length cv] 140)):=ag _ _;have c4:Hid (KnX w6 (X.alloc (.cells #[.slice a f.length t,.slice av (dz l q).length cv] 140)) X.heap.size a f.length t (dz l q) av cv h9):=⟨i5.o.trans c3,⟨au.made X _ _,X_ X #[.slice a f.length t,.slice av (dz l q).length cv] 140 0 _ rfl,X_ X #[.slice a f.length t,.slice av (dz l q).length cv] 140 1 _ rfl⟩,aj i1.o c3,i2.o⟩;have K7:=K5.trans c3;obtain⟨kb,i7⟩:=ah X.heap.size;have l4:w6.heap.size<=kb:=by omega
  refine h.out _ _ (fun _=>b5.o _ K7) ?_;clear h K j;rw[<-i7] at c4⊢;generalize b4:X.alloc (.cells #[.slice a f.length t,.slice av (dz l q).length cv] 140)=w7 at c4 K7⊢;clear b4 c3 i7;try simp only[Act.put,upA,upB,upC]
  refine af 7 (fun K h=>?_);go_simp
  refine h.out _ _ (fun s=>Ki rfl s) ?_;clear h K;try simp only[Act.put,upA,upB,upC]
  refine ay ?_;go_wp2_with fail
  refine (wY w6 w7 kb l4 a t f a0 kc asks (dz l q) av cv h9 d5 (by omega) (by have:=sN l q;omega) c4.o i3.o i4.o).mono ?_;rintro e w8 ⟨rfl,d8,e8,n1,b6⟩;have i8:K_ w4 w8:=i6.o.trans b6.kw;have m1:=b6.known.runs;have kz:=b6.known.row.lt;have e9:=Kz b6.runs;obtain⟨a4,b7⟩:=ah (fB (Kk f) (dz l q) asks);have n2:a4.length<=1000:=by have I:=nU (Kk f) asks (dz l q);have h2:=sN l q;rw[b7];omega
  have i9:Hid (∀c5∈a4,c5.texts.length<=1000):=fun c5 hx=>by
   rw[b7] at hx;rcases qO _ _ _ _ hx with s|⟨n,rfl⟩
   ·rcases pG.1 s with rfl|⟨I,_⟩
    ·exact h0
    ·have h2:=(a7.good c5 I).tl;have h3:=(a7.good c5 I).hi;omega
   ·exact Ja _
  have j0:Hid (a4.foldl dz []=doL (Kk f) l r):=by show _=_;rw[b7];exact g9.o
  rw[<-b7] at e9 m1;have K8:=Kx.trans i8;have l5:Hid (∀W,K_ w8 W->Calls prog 86 #[.slice (some ⟨D,E,none⟩) Kj.length G,.slice d8 a4.length e8] W fun e w'=>qF Kj (doL (Kk f) l r) W w' e):=fun W hW=>by
   have s:=uh W D E G Kj d8 e8 a4 j5 (by omega) i9.o (fun a8=>by have:=nH a4 a8;omega) (j8.o.kept (b1.o.trans (K8.trans hW))) (e9.o.kept hW);rw[j0.o] at s;exact s
  obtain⟨_,S,_⟩:=J.o _ K8;have l6:=I_ z1 K8.size;have j1:Hid (∀w',K_ w8 w'->w'.cell? ⟨w.heap.size+1,0,none⟩=some (.slice (some ⟨D,E,none⟩) Kj.length G)/\w'.cell? ⟨kb,1,none⟩=some (.slice d8 a4.length e8)):=fun w' K=>⟨(K.cell l6).trans S,(K.cell kz).trans m1⟩
  have j2:=Kz (f6.o.kept K8);have l7:=b1.o.trans K8;clear b6 b7 e9 j0 i9 g9 m1 S i8 c4 i3 i4 i5 i6 i1 i2 h8 b5 J f6 HN HS a3 k8;go_upto_region 7 with fail
  refine bS 7 j1.o fun M B j=>?_
  refine aB 0 j ?_;refine ae 4 j ?_;refine ae 5 j ?_;refine ai 6 (fun K h=>?_);go_simp
  go_at_call 86
  refine (l5.o M B).mono ?_;rintro e w9 ⟨ra,a5,d9,a6,l8,rfl,j3,f0,f1,k9⟩;obtain⟨c6,f3⟩:=ah (doL (Kk f) l r);rw[<-f3] at f0 f1⊢;have l9:=Kz f3;have K9:=B.trans k9;have z9:=K9.size;have zd:=B.size;have⟨m0,m2,m3⟩:=eB j3 f0 f1;have c7:=Kz (j2.o.kept K9);obtain⟨⟨_,x0⟩,g5⟩:=c7.o.row.at (i:=0) (by omega);obtain⟨⟨_,x1⟩,g7⟩:=c7.o.row.at (i:=1) (by omega);have n3:=j2.o.lt;have n4:=c7.o.lt;clear j3 f0 f1 f3;refine h.out _ _ (fun _=>j1.o _ K9) ?_;clear h K j;try simp only[Act.put,upA,upB,upC]
  refine af 7 (fun K h=>?_);go_simp
  refine h.out _ _ (fun s=>Ki rfl s) ?_;clear h K;try simp only[Act.put,upA,upB,upC]
  refine ay ?_;go_wp2_with fail
  have m4:=Jc w9 (w.heap.size+1+1) 0 [.slice ra Kj.length a5,.slice d9 c6.length a6] (c7.o.row.there (o:=0) (m:=2) (IZ _));have hO:=aR (aR m2.o (p:=⟨w.heap.size+1+1,0,none⟩) (by show w.heap.size+1+1<_;omega) (.slice ra Kj.length a5)) (p:=⟨w.heap.size+1+1,1,none⟩) (by show w.heap.size+1+1<_;omega) (.slice d9 c6.length a6);have hT:=aR (aR m0.o (p:=⟨w.heap.size+1+1,0,none⟩) (by show w.heap.size+1+1<_;omega) (.slice ra Kj.length a5)) (p:=⟨w.heap.size+1+1,1,none⟩) (by show w.heap.size+1+1<_;omega) (.slice d9 c6.length a6);have hP:=(m3.o.set (c:=w.heap.size+1+1) (p:=0) (fun b s=>by omega) (.slice ra Kj.length a5)).set (c:=w.heap.size+1+1) (p:=1) (fun b s=>by omega) (.slice d9 c6.length a6);obtain rfl:=l9.o;exact Zx [.slice ra Kj.length a5,.slice d9 (doL (Kk f) l r).length a6] _ results50 rfl m4 underlying29 rfl Tryz.bB rfl ⟨ra,a5,d9,a6,l8,rfl,bJ hT (by omega),bJ hO (by omega),qh hP (fun b s=>by omega),bT (g:=w.heap.size+1+1) (by omega) [.slice ra Kj.length a5,.slice d9 (doL (Kk f) l r).length a6] 0 (l7.trans K9)⟩
def bE(w:KH)(P:Nat->Prop)(xs:List KI)(l:List Q_):Prop:=xs.length=l.length*7/\∀i,i<l.length->∃xa xc,(xs.drop (i*7)).take 7= (l.getD i Q_.zero).cells xa xc/\eD w 9 xa (l.getD i Q_.zero).texts/\(xa=none->xc=0)/\(∀ad:Addr,xa=some ad->P ad.block)/\w.ownsRow 0 9 1 (.slice xa (l.getD i Q_.zero).texts.length xc) (l.getD i Q_.zero).texts.length ((l.getD i Q_.zero).texts.map Value.string)
theorem bE.nil(w:KH)(P:Nat->Prop):bE w P [] []:=⟨rfl,fun i a=>by simp at a⟩
variable {l : List Q_} {xs : List KI} {P : Nat -> Prop}
theorem bE.same{u:TypeId}(h:bE w P xs l)(k:ak u w w')(a:9≠u):bE w' P xs l:=⟨h.1,fun i b=>by obtain⟨c,d,e,f,j,m,n⟩:=h.2 i b;exact⟨c,d,e,f.same k a,j,m,aH n k a⟩⟩
theorem bE.kept(h:bE w P xs l)(k:K_ w w'):bE w' P xs l:=h.same (u:=40) (ak.aC k) (by decide)
theorem bE.plain(h:bE w P xs l):aZ w P xs l:=⟨h.1,fun i a=>by obtain⟨b,c,d,e,f,j,_⟩:=h.2 i a;exact⟨b,c,d,e.strs,f,j⟩⟩
variable {xa : KG}
theorem bE.snoc{xc:Nat}(h:bE w P xs l)(e:eD w 9 xa r.texts)(f:xa=none->xc=0)(j:∀ad:Addr,xa=some ad->P ad.block)(k:w.ownsRow 0 9 1 (.slice xa r.texts.length xc) r.texts.length (r.texts.map Value.string)):bE w P (xs++r.cells xa xc) (l++ [r]):=by
 refine⟨by simp[h.1,Q_.cells];omega,fun i c=>?_⟩;rw[JH] at c;simp only[JK,List.length_nil] at c;by_cases d:i<l.length
 ·have a:(l++ [r]).getD i Q_.zero=l.getD i Q_.zero:=by simp[List.getD,JU d]
  have b:((xs++r.cells xa xc).drop (i*7)).take 7= (xs.drop (i*7)).take 7:=by
   rw[List.drop_append_of_le_length (by rw[h.1];omega),List.take_append_of_le_length (by rw[List.length_drop,h.1];omega)]
  rw[a,b];exact h.2 i d
 ·obtain rfl:i=l.length:=by omega
  have a:(l++ [r]).getD l.length Q_.zero=r:=by simp[List.getD]
  have b:((xs++r.cells xa xc).drop (l.length*7)).take 7=r.cells xa xc:=by
   rw[<-h.1,List.drop_left]
   rfl
  rw[a,b];exact⟨xa,xc,rfl,e,f,j,k⟩
theorem bE.weak{Q:Nat->Prop}(h:bE w P xs l)(a:∀b,P b->Q b):bE w Q xs l:=
 ⟨h.1,fun i c=>by obtain⟨d,f,e,j,k,m,n⟩:=h.2 i c;exact⟨d,f,e,j,k,fun p e=>a _ (m p e),n⟩⟩
def BF(xs:List KI):Prop:=∀i j (a b:Addr) n c m e,i<j->xs[i*7+6]? =some (.slice (some a) n c)->xs[j*7+6]? =some (.slice (some b) m e)->a.block<b.block
def H_(xs:List KI)(z:Nat):Prop:=∀i (a:Addr) n c,xs[i*7+6]? =some (.slice (some a) n c)->a.block<z
variable {i : Nat}
theorem yn{xc t:Nat}{u:KI}(b:xs.length=t*7)(h:(xs++r.cells xa xc)[i*7+6]? =some u):(i<t/\xs[i*7+6]? =some u)\/(i=t/\u= .slice xa r.texts.length xc):=by
 by_cases d:i<t
 ·rw[JU (by omega)] at h;exact .inl ⟨d,h⟩
 ·have c:=(Je.1 h).1;rw[JH,b] at c;simp only[Q_.cells,JK,List.length_nil] at c;obtain rfl:i=t:=by omega
  rw[JV (by omega),b,Nat.add_sub_cancel_left] at h;exact .inr ⟨rfl,by simpa[Q_.cells] using h.symm⟩
def Hy(Kj:List KC)(T:List Q_)(w w':KH)(e:Ending):Prop:=
 ∃ra rc d dc xs z,e= .returned (.agg #[.slice ra Kj.length rc,.slice d T.length dc])/\w'.ownsRow w.heap.size 9 1 (.slice ra Kj.length rc) Kj.length (Kj.map Value.string)/\w'.ownsRow w.heap.size 40 7 (.slice d T.length dc) T.length xs/\bE w' (fun b=>z<=b) xs T/\w.heap.size<=z/\(∀g,(Value.slice ra Kj.length rc).ownBlock=some g->g<z)/\BF xs/\K_ w w'
variable {base : Nat}
theorem dw{c:Nat}{l:List KC}(h:w.ownsRow base t 1 (.slice a n c) n (l.map Value.string)):eD w t a l/\(a=none->c=0)/\∀b:Addr,a=some b->base<=b.block:=by
 have m:n=l.length:=by have:=h.1;simp at this;omega
 rcases h.2 with⟨e,p⟩|⟨g,q,d,e,f,j,r,_,_,_⟩
 ·simp only[JJ] at e;obtain⟨rfl,_,rfl⟩:=e;refine⟨.inl (Jn.1 (by omega)),fun _=>rfl,fun _ e=>by cases e⟩
 ·simp only[JJ] at e;obtain⟨rfl,_,rfl⟩:=e;refine⟨.inr ⟨g,d,_,rfl,j,fun i k=>?_⟩,fun e=>(by cases e),fun b e=>by cases e;exact f⟩;have:=h.cells (g:=g) rfl i (.string (l.getD i ByteArray.empty)) (by simp[List.getD,k]);rw[JL,JA] at this;exact this
theorem vw(w:KH)(p:Addr)(v:KI)(t:TypeId):((w.setCell p v).alloc (.cells #[] t)).ownsRow 0 t 1 (.slice (some ⟨w.heap.size,0,none⟩) 0 0) 0 []:=by
 have h:=Jz (base:=0) (e:=t) (size:=1) (w.setCell p v) #[] 0 (Ja _) (Ja _) rfl
 rwa [size_setCell] at h
structure CpX (W1 wr:KH) (sb:Nat) (ra:KG) (n rc:Nat) (d:KG) (t:List Q_) (dc:Nat) (xs:List KI):Prop where
 kb:Xj sb (sb+1) W1 wr
 row:au wr sb 29 2
 Kj:wr.cell? ⟨sb,0,none⟩=some (.slice ra n rc)
 runs:wr.cell? ⟨sb,1,none⟩=some (.slice d t.length dc)
 own:wr.ownsRow W1.heap.size 40 7 (.slice d t.length dc) t.length xs
 pack:bE wr (fun b=>sb<b) xs t
 ap:BF xs
 bd:H_ xs wr.heap.size
theorem CpX.kept{b wr:KH}{c e f:Nat}{j d:KG}{t:List Q_}(h:CpX b wr c j n e d t f xs)(k:K_ wr w'):CpX b w' c j n e d t f xs:=
 ⟨h.kb.trans (Xj.aC k),h.row.kept k,(k.cell h.row.lt).trans h.Kj,(k.cell h.row.lt).trans h.runs,aj h.own k,h.pack.kept k,h.ap,fun i a n l m=>I_ (h.bd i a n l m) k.size⟩
theorem GV{b:Nat}{v:KI}(c:au w b 29 2)(h:w.ownsRow base 40 7 v n xs):some b≠v.ownBlock:=by
 rcases h.2 with⟨rfl,_⟩|⟨g,f,i,rfl,_,d,_⟩
 ·intro e;cases e
 ·intro e;simp only[Value.ownBlock,JI] at e;subst e;obtain⟨j,a,_⟩:=c;rw[d] at a;simp only[JI,Obj.cells.injEq] at a;exact Ki a.2.1 (by decide)
theorem CpX.next{j wr W k:KH}{c B C q:Nat}{D d r:KG}{t:List Q_}{y:Q_}{xc:Nat}(h:CpX j wr c D n B d t C xs)(J:c<j.heap.size)(E:K_ wr W)(b:W.grownBy k (Value.slice d t.length C).ownBlock)
 (K:k.ownsRow j.heap.size 40 7 (.slice r (t.length+1) q) (t.length+1) (xs++y.cells xa xc)) (L:eD W 9 xa y.texts) (M:xa=none->xc=0) (N:∀ad:Addr,xa=some ad->c<ad.block) (F:W.ownsRow 0 9 1 (.slice xa y.texts.length xc) y.texts.length (y.texts.map Value.string)) (O:∀ad:Addr,xa=some ad->wr.heap.size<=ad.block):
  CpX j (k.setCell ⟨c,1,none⟩ (.slice r (t.length+1) q)) c D n B r (t++ [y]) q (xs++y.cells xa xc):=by
 have a:=h.kept E;have G:k.heap[c]? =W.heap[c]? :=b.block c a.row.lt (GV a.row a.own);have H:(t++ [y]).length=t.length+1:=by simp
 have s:=a.row.block G;have v:=(ak.aK a.own b);refine⟨?_,s.set _, ?_, ?_, ?_, ?_,fun l P i f n m Q x R A S=>?_,fun l i n m A=>?_⟩
 ·refine Xj.setCell ⟨b.os.trans a.kb.os,b.tape.trans a.kb.tape,b.output.trans a.kb.output,Jb a.kb.size b.size,fun f I T=>(b.block f (I_ I a.kb.size) (fun x=>?_)).trans (a.kb.block f I T)⟩ (IZ _) (Jw _) _;have:=(a.own.lt f x.symm).1;omega
 ·rw[Xk (by omega),Jl (w:=W) G];exact a.Kj
 ·rw[H];exact aS s.row (by omega) _
 ·rw[H];exact aR K J _
 ·exact ((a.pack.same v (by decide)).snoc (L.same v (by decide)) M N (aH F v (by decide))).same (s.same (o:=1) _) (by decide)
 ·rcases yn h.pack.1 S with⟨_,p⟩ | ⟨rfl,p⟩ <;> rcases yn h.pack.1 A with⟨_,e⟩ | ⟨U,e⟩
  ·exact h.ap l P i f n m Q x R e p
  ·omega
  ·simp only[JJ] at p;have:=O f p.1.symm;have:=h.bd l i n m e;omega
  ·omega
 ·rw[size_setCell];rcases yn h.pack.1 A with⟨_,e⟩|⟨_,e⟩
  ·have:=h.bd l i n m e;have:=E.size;have:=b.size;omega
  ·simp only[JJ] at e;have V:=(F.lt i.block (by rw[<-e.1];rfl)).2;have:=b.size;omega
theorem xh(w:KH)(C D J:Nat)(Kj:List KC)(a:KG)(K:Nat)(R:List Q_)(i6:Kj.length<=1000)(i7:R.length<=10000)(f6:∀r∈R,r.texts.length<=1000)(hR:Strs w (some ⟨C,D,none⟩) Kj)(hS:bK w a R):
  Calls prog 53 #[.agg #[.slice (some ⟨C,D,none⟩) Kj.length J,.slice a R.length K]] w fun e w'=>Hy Kj R w w' e:=by
 obtain⟨is,hi,c6,c7,c8⟩:=aO Tryz.dh;obtain⟨f7,f8,f9,g0,g1⟩:=aO Tryz.nQ;obtain⟨d,L⟩:=ah ((w.alloc (.cells #[.slice (some ⟨C,D,none⟩) Kj.length J,.slice a R.length K] 29)).alloc (.cells #[.slice none 0 0,.slice none 0 0] 29));have b2:K_ w d:=by rw[L];exact (ag _ _).alloc _
 have c9:au d (w.heap.size+1) 29 2:=by
  have U:=au.made (w.alloc (.cells #[.slice (some ⟨C,D,none⟩) Kj.length J,.slice a R.length K] 29)) #[.slice none 0 0,.slice none 0 0] 29;simp only[JG] at U;rw[L];exact U
 have c0:d.cell? ⟨w.heap.size,0,none⟩=some (.slice (some ⟨C,D,none⟩) Kj.length J):=by rw[L,K_.cell (w:=w.alloc (.cells #[.slice (some ⟨C,D,none⟩) Kj.length J,.slice a R.length K] 29)) (ag _ _) (by simp)];exact X_ w _ _ 0 _ rfl
 have c1:d.cell? ⟨w.heap.size,1,none⟩=some (.slice a R.length K):=by rw[L,K_.cell (w:=w.alloc (.cells #[.slice (some ⟨C,D,none⟩) Kj.length J,.slice a R.length K] 29)) (ag _ _) (by simp)];exact X_ w _ _ 1 _ rfl
 have i8:w.heap.size+2<=d.heap.size:=by rw[L];simp
 have z0:w.heap.size<d.heap.size:=by omega
 have HC:Hid (∀w',K_ d w'->w'.cell? ⟨w.heap.size,1,none⟩=some (.slice a R.length K)):=fun w' g2=>(g2.cell (by omega)).trans c1
 have d0:=Kz c9;have E:Hid (K_ d (d.alloc (.cells #[] 9))):=ag _ _;have b3:Hid ((d.alloc (.cells #[] 9)).ownsRow d.heap.size 9 1 (.slice (some ⟨d.heap.size,0,none⟩) 0 0) 0 (([]:List KC).map Value.string)):=Jz d #[] 0 (IZ _) (Ja _) rfl;have d1:Hid (∀j u,(Kj.map Value.string)[j]? =some u->(d.alloc (.cells #[] 9)).cell? ((⟨C,D,none⟩:Addr).add j)=some u):=fun j u n=>by
  have M:j<Kj.length:=by have:=(Je.1 n).1;simpa using this
  obtain⟨b,o,e,hb,h⟩:=(hR.kept (b2.trans E.o)) j M;simp only[JI] at e;rw[e,JL,h];simp[M] at n;simp[List.getD,M,n]
 have a1:Hid (∀u∈Kj.map Value.string,u.oneCell'=true):=fun u n=>by obtain⟨b4,_,rfl⟩:=Ju.1 n;rfl
 have a2:d.heap.size<=(d.alloc (.cells #[] 9)).heap.size:=E.o.size;clear c9;go_enter func53,ntmps53
 go_upto_region 1 with fail
 rw[<-L];clear L;go_wp2_with (at_builtin;refine wpList_append_own _ rfl (.tmp 6) (.tmp 8) 26 rfl d.heap.size 9 is _ 1 16 underlying26 hi c6 c7 c8 rfl (by decide) (.slice (some ⟨d.heap.size,0,none⟩) 0 0) 0 [] rfl b3.o ⟨C,D,none⟩ Kj.length J (Kj.map Value.string) rfl (by simp) d1.o a1.o (by unfold maxLen;omega) (by omega) a2 ?_;intro v6 S a3 d2 _;have a4:K_ d S:=aF E.o (IZ _) b3.o d2;rw[JA,List.nil_append] at a3;obtain⟨q,s,rfl⟩:=ax a3;have b5:=Kz a3;clear a3 d2)
 obtain⟨A,V⟩:=ah (S.alloc (.cells #[.slice q Kj.length s,.slice none 0 0] 29));obtain⟨x,T⟩:=ah S.heap.size;have a5:K_ S A:=by rw[V];exact ag _ _
 have b6:Hid (au A x 29 2):=by rw[V,T];exact au.made S #[.slice q Kj.length s,.slice none 0 0] 29
 have d3:A.rangeAt x 0 [.slice q Kj.length s,.slice none 0 0]:=by rw[V,T];exact X_ S #[.slice q Kj.length s,.slice none 0 0] 29
 have g3:=Kz d3;have d4:=Kz (d0.o.kept (a4.trans a5));have g4:=Kz (aj b5.o a5);have d5:K_ d A:=a4.trans a5;have K1:K_ w A:=b2.trans d5;have g5:=a4.size;have i9:x+1<=A.heap.size:=b6.o.lt;have j0:w.heap.size+1<x:=by omega
 have a6:d.heap.size<=x:=by omega
 have d6:Hid (∀g,(Value.slice q Kj.length s).ownBlock=some g->g<x):=fun g e=>by rw[T];exact (b5.o.lt g e).2
 rw[<-V,<-T];clear d3 b5 b3 d1 d0 V T a1 a2 E a5 a4 g5 b2 c0 c1;go_loopw [4] (fun i wr=>∃(k:Nat) (G:KG) (H:Nat) (xs:List KI),k<=R.length/\i= .int .i64 k/\CpX A wr x q Kj.length s G (R.take k) H xs) (fun i _=>R.length-(intOf i).toNat)
 case atStart=>
  have h:=g3.o;exact⟨0,none,0,[],Ja _,rfl,⟨Xj.refl _ _ _,b6.o,h 0 _ rfl,h 1 _ rfl,JP _ _ _ _,bE.nil _ _,(fun i j a b g7 c j1 e _ W=>by simp at W),fun i a g7 c W=>by simp at W⟩⟩
 case round=>
  obtain⟨k,G,H,xs,hk,rfl,t⟩:=hrel;have d7:K_ d wr:=t.kb.kept d5 a6;have s1:=HC.o wr d7;have j2:w.heap.size<wr.heap.size:=by have:=d7.size;omega
  by_cases X:k<R.length
  ·have Kr:K_ w wr:=t.kb.kept K1 (by omega);obtain⟨b,o,N,Y,rfl,hb,h,b7,d8⟩:=hS.kept Kr k X;obtain⟨y,hy⟩:=ah (R.getD k Q_.zero);have d9:Hid (R.take (k+1)=R.take k++ [y]):=by show _=_;rw[Jf X,hy];simp[List.getD,X]
   have j3:y.texts.length<=1000:=by rw[hy];simp only[List.getD,X,Jd,Kl];exact f6 _ (Ji X)
   obtain⟨a7,ht⟩:=ah (R.take k);have e0:a7.length=k:=by rw[ht,Jt];omega
   rw[<-ht] at t d9;rw[<-hy] at h b7;have d6:=Kz e0;have j4:a7.length<=10000:=by omega
   have F:=Kz t;have q0:wr.cell? ⟨b,o+k*7,none⟩=some (.string y.name):=h 0 _ rfl;have q1:wr.cell? ⟨b,o+k*7+1,none⟩=some (.bool y.over):=h 1 _ rfl;have q2:wr.cell? ⟨b,o+k*7+2,none⟩=some (.bool y.fail):=h 2 _ rfl;have q3:wr.cell? ⟨b,o+k*7+3,none⟩=some (.string y.text):=h 3 _ rfl;have q4:wr.cell? ⟨b,o+k*7+4,none⟩=some (.int .i64 y.at'):=h 4 _ rfl;have q5:wr.cell? ⟨b,o+k*7+5,none⟩=some (.int .i64 y.Zq):=h 5 _ rfl;have O:wr.cell? ⟨b,o+k*7+6,none⟩=some (.slice N y.texts.length Y):=h 6 _ rfl;have⟨e1,g8⟩:=aD b7 d8;have i0:(k:Int)<(R.length:Int):=by omega
   clear h hy ht e0 t b7 d8;obtain⟨f,a8⟩:=ah (wr.alloc (.cells #[.string y.name,.bool y.over,.bool y.fail,.string y.text,.int .i64 y.at',.int .i64 y.Zq,.slice N y.texts.length Y] 40));have K2:K_ wr f:=by rw[a8];exact ag _ _
   have P:Hid (eZ f wr.heap.size y N Y):=by rw[a8];exact⟨au.made wr #[.string y.name,.bool y.over,.bool y.fail,.string y.text,.int .i64 y.at',.int .i64 y.Zq,.slice N y.texts.length Y] 40,X_ wr _ _⟩
   go_upto_region 6 with fail
   rw[<-a8];clear a8;obtain⟨B,e2⟩:=ah wr.heap.size;have j5:A.heap.size<=B:=by have:=F.o.kb.size;omega
   have e3:wr.heap.size<=B:=by omega
   rw[<-e2] at P⊢;clear e2;have E:Hid (K_ f (f.alloc (.cells #[] 9))):=ag _ _;have a9:Hid ((f.alloc (.cells #[] 9)).ownsRow f.heap.size 9 1 (.slice (some ⟨f.heap.size,0,none⟩) 0 0) 0 (([]:List KC).map Value.string)):=Jz f #[] 0 (IZ _) (Ja _) rfl;go_cut [5] from 23 to 27 (fun s5 wx=>∃l v,s5= .pointer (some ⟨B,0,none⟩)/\K_ wr wx/\eZ wx B y l v/\eD wx 9 l y.texts/\(l=none->v=0)/\(∀m:Addr,l=some m->B<m.block)/\wx.ownsRow 0 9 1 (.slice l y.texts.length v) y.texts.length (y.texts.map Value.string))
   case first=>
    clear q0 q1 q2 q3 q4 q5 O;obtain⟨q0,q1,q2,q3,q4,q5,O⟩:=P.o.all;have Z:=P.o.row.lt;obtain⟨_,g6⟩:=P.o.row.row.at (i:=6) (by omega);rcases (show N=none\/∃m,N=some m from by cases N with|none=>exact .inl rfl|some b4=>exact .inr ⟨b4,rfl⟩) with rfl|⟨m,rfl⟩
    ·have h0:y.texts=[]:=by
      cases g9:y.texts with
      | nil=>rfl
      | cons a7 ts=>exfalso;obtain⟨b,o,e,_⟩:=e1.o 0 (by rw[g9];simp);cases e
     have e4:=g8.o rfl;have e5:f.cell? ⟨B,6,none⟩=some (.slice none 0 0):=by rw[O,h0,e4];rfl
     have H0:=Kz h0;clear O h0 e4;have O:=e5;clear e5;go_wp2_with (at_builtin;refine wpList_append_own_none _ rfl (.tmp 23) (.tmp 25) 26 rfl f.heap.size 9 is 1 underlying26 hi (.slice (some ⟨f.heap.size,0,none⟩) 0 0) 0 [] rfl a9.o rfl ?_)
     go_meet
     exact⟨_,_,rfl,K_.alloc (Below.setCell K2 (p:=⟨B,6,none⟩) e3 _) _,(P.o.put (xa':=some ⟨f.heap.size,0,none⟩) (xc':=0) (by omega) (by simp[Q_.cells,H0.o])).kept (ag _ _),.inl H0.o,(fun e=>by cases e),(fun m e=>by cases e;exact Z),(by rw[H0.o];exact vw f _ _ _)⟩
    ·have h1:Hid (∀j u,(y.texts.map Value.string)[j]? =some u->(f.alloc (.cells #[] 9)).cell? (m.add j)=some u):=fun j u n=>by
      have M:j<y.texts.length:=by have:=(Je.1 n).1;simpa using this
      obtain⟨b,o,e,hb,h⟩:=(e1.o.kept (K2.trans E.o)) j M;simp only[JI] at e;subst e;rw[JL,h];simp[M] at n;simp[List.getD,M,n]
     have a1:Hid (∀u∈y.texts.map Value.string,u.oneCell'=true):=fun u n=>by obtain⟨b4,_,rfl⟩:=Ju.1 n;rfl
     have a2:f.heap.size<=(f.alloc (.cells #[] 9)).heap.size:=E.o.size;go_wp2_with (at_builtin;refine wpList_append_own _ rfl (.tmp 23) (.tmp 25) 26 rfl f.heap.size 9 is _ 1 16 underlying26 hi c6 c7 c8 rfl (by decide) (.slice (some ⟨f.heap.size,0,none⟩) 0 0) 0 [] rfl a9.o m y.texts.length Y (y.texts.map Value.string) rfl (by simp) h1.o a1.o (by unfold maxLen;omega) (by omega) a2 ?_;intro v1 w8 b0 e6 _;rw[JA,List.nil_append] at b0;have e7:=aF E.o (IZ _) a9.o e6;have e8:=Kz b0;obtain⟨e9,f1,rfl⟩:=ax b0;have b1:=Kz (P.o.kept e7);have j6:=b1.o.all.2.2.2.2.2.2;have j7:=b1.o.row.lt;obtain⟨_,j8⟩:=b1.o.row.row.at (i:=6) (by omega);clear b0 e6)
     go_meet
     obtain⟨U,h2,h3⟩:=dw (aR e8.o (p:=⟨B,6,none⟩) Z (.slice e9 y.texts.length f1));exact⟨_,_,rfl,Below.setCell (K2.trans e7) (p:=⟨B,6,none⟩) e3 _,b1.o.put (by omega) rfl,U,h2,(fun m e=>I_ Z (h3 m e)),bJ (aR e8.o (p:=⟨B,6,none⟩) Z (.slice e9 y.texts.length f1)) (Ja _)⟩
   case rest=>
    obtain⟨l,v,rfl,k2,b8,a6,h4,f2,f3⟩:=hcut;have h5:=Kz f3;clear f3;obtain⟨w2,rfl⟩:=ah wc;clear q0 q1 q2 q3 q4 q5 O hb a9 E P s1;obtain⟨q0,q1,q2,q3,q4,q5,O⟩:=b8.all;have Z:=b8.row.lt;have Q:=F.o.kept k2;have m1:=Q.runs;have mz:=Q.row.lt;obtain⟨⟨_,y1⟩,j9⟩:=Q.row.row.at (i:=1) (by omega);have b9:=Kz Q;have I:K_ w2 (w2.alloc (.cells #[.string y.name,.bool y.over,.bool y.fail,.string y.text,.int .i64 y.at',.int .i64 y.Zq,.slice l y.texts.length v] 40)):=ag _ _;have h6:A.heap.size<=(w2.alloc (.cells #[.string y.name,.bool y.over,.bool y.fail,.string y.text,.int .i64 y.at',.int .i64 y.Zq,.slice l y.texts.length v] 40)).heap.size:=Jb Q.kb.size I.size;have f4:=Kz (aj Q.own I);have h7:=Kz (a6.same (u:=40) (ak.aC I) (by decide));have h8:Hid (∀j u,(y.cells l v)[j]? =some u->(w2.alloc (.cells #[.string y.name,.bool y.over,.bool y.fail,.string y.text,.int .i64 y.at',.int .i64 y.Zq,.slice l y.texts.length v] 40)).cell? ((⟨w2.heap.size,0,none⟩:Addr).add j)=some u):=fun j u n=>by rw[JL];exact X_ w2 (y.cells l v).toArray 40 j u (by simpa using n)
    clear Q a6 b8;go_wp2_with (at_builtin;refine wpList_append_own _ rfl (.tmp 29) (.tmp 31) 27 rfl A.heap.size 40 f7 _ 7 80 underlying27 f8 f9 g0 g1 rfl (by decide) _ a7.length _ rfl f4.o ⟨w2.heap.size,0,none⟩ 1 1 (y.cells l v) rfl rfl h8.o (Q_.one y l v) (by unfold maxLen;omega) (by omega) h6 ?_;intro v6 w9 c2 c3 _;obtain⟨av,cv,rfl⟩:=ax c2;have h9:=Kz (F.o.next (by omega) (k2.trans I) c3 c2 h7.o h4 (fun m e=>by have:=f2 m e;omega) (aH (u:=40) h5.o (ak.aC I) (by decide)) (fun m e=>by have U:=f2 m e;omega));have f5:w9.heap[x]? = (w2.alloc (.cells #[.string y.name,.bool y.over,.bool y.fail,.string y.text,.int .i64 y.at',.int .i64 y.Zq,.slice l y.texts.length v] 40)).heap[x]? :=c3.block x (b9.o.kept I).row.lt (GV (b9.o.kept I).row f4.o);have c4:=(b9.o.kept I).row.block f5;obtain⟨⟨_,u1⟩,k0⟩:=c4.row.at (i:=1) (by omega);have u9:=c4.lt;clear c2 c3 f5 c4)
    go_roundw
    case rel=>exact⟨k+1,av,cv,xs++y.cells l v,by omega,by go_num,by rw[d9.o];exact h9.o⟩
    case measure=>simp[intOf];omega
  ·have i1:k=R.length:=by omega
   subst i1;rw[JB] at t;have k1:=t.Kj;have m1:=t.runs;have a0:=d4.o.block (t.kb.block _ d4.o.lt (by omega));obtain⟨⟨_,t0⟩,f0⟩:=a0.row.at (i:=0) (by omega);obtain⟨⟨_,t1⟩,k3⟩:=a0.row.at (i:=1) (by omega);have⟨c5,F⟩:=aD a0 t;have T:=t.row.lt;have k4:=a0.lt;have zk:=t.kb.size;clear a0 t;go_wp2
   have i2:=Jc wr (w.heap.size+1) 0 [.slice q Kj.length s,.slice G R.length H] (c5.o.row.there (o:=0) (m:=2) (IZ _));have hO:=aR (aR F.o.own (p:=⟨w.heap.size+1,0,none⟩) (by show w.heap.size+1<_;omega) (.slice q Kj.length s)) (p:=⟨w.heap.size+1,1,none⟩) (by show w.heap.size+1<_;omega) (.slice G R.length H);have i3:=Aj g4.o F.o.kb b6.o (by decide);have i4:=aR (aR i3 (p:=⟨w.heap.size+1,0,none⟩) (by show w.heap.size+1<_;omega) (.slice q Kj.length s)) (p:=⟨w.heap.size+1,1,none⟩) (by show w.heap.size+1<_;omega) (.slice G R.length H);have i5:=(F.o.pack.same (c5.o.same (o:=0) (.slice q Kj.length s)) (by decide)).same ((c5.o.set (o:=0) (.slice q Kj.length s)).same (o:=1) (.slice G R.length H)) (by decide);refine Zx [.slice q Kj.length s,.slice G R.length H] _ results53 rfl i2 underlying29 rfl Tryz.bB rfl ⟨q,s,G,H,xs,x,rfl,bJ i4 (by omega),bJ hO (by omega),i5.weak (fun b W=>Nat.le_of_lt W),by omega,d6.o,F.o.ap, ?_⟩;exact ((F.o.kb.kept K1 (by omega)).setCell (by show w.heap.size<=w.heap.size+1;omega) _).setCell (by show w.heap.size<=w.heap.size+1;omega) _
structure But (S:Nat->Prop) (w w':KH):Prop where
 os:w'.os=w.os
 tape:w'.tape=w.tape
 output:w'.output=w.output
 size:w.heap.size<=w'.heap.size
 block:∀b,b<w.heap.size->¬S b->w'.heap[b]? =w.heap[b]?
section
variable {S : Nat -> Prop} {w w' w'' wz : KH}
theorem But.aC(h:K_ w w'):But S w w':=⟨h.os,h.tape,h.output,h.size,fun b c _=>h.block b c⟩
theorem But.aK{row:Option Nat}(h:w.grownBy w' row)(c:∀b,row=some b->S b):But S w w':=⟨h.os,h.tape,h.output,h.size,fun b d e=>h.block b d (fun f=>e (c b f.symm))⟩
theorem But.trans(h:But S w w')(k:But S w' w''):But S w w'':=⟨k.os.trans h.os,k.tape.trans h.tape,k.output.trans h.output,Jb h.size k.size,fun b c d=>(k.block b (I_ c h.size) d).trans (h.block b c d)⟩
theorem But.set(h:But S w w'){p:Addr}(c:S p.block)(v:KI):But S w (w'.setCell p v):=⟨h.os,h.tape,h.output,by rw[size_setCell];exact h.size,fun d e b=>by rw[Below.heap_setCell _ _ _ _ (fun f=>b (by rw[f];exact c))];exact h.block d e b⟩
theorem But.mono{a:Nat->Prop}(h:But S w w')(d:∀b,b<w.heap.size->S b->a b):But a w w':=⟨h.os,h.tape,h.output,h.size,fun b c e=>h.block b c (fun f=>e (d b c f))⟩
theorem But.kept(h:But S w w')(k:K_ wz w)(d:∀b,S b->wz.heap.size<=b):K_ wz w':=
 ⟨h.os.trans k.os,h.tape.trans k.tape,h.output.trans k.output,Jb k.size h.size,fun b c=>(h.block b (I_ c k.size) (fun e=>by have:=d b e;omega)).trans (k.block b c)⟩
theorem But.cell(h:But S w w'){o:Nat}(c:b<w.heap.size)(d:¬S b):w'.cell? ⟨b,o,none⟩=w.cell? ⟨b,o,none⟩:=Jl (w:=w) (h.block b c d)
theorem But.row(h:But S w w')(a:au w b t n)(d:¬S b):au w' b t n:=a.block (h.block b a.lt d)
theorem But.range(h:But S w w'){o:Nat}(c:au w b t n)(d:¬S b){cs:List KI}(e:w.rangeAt b o cs):w'.rangeAt b o cs:=fun j v i=>(h.cell c.lt d).trans (e j v i)
theorem But.owns(h:But S w w'){size:Nat}{e:TypeId}{v:KI}(a:w.ownsRow base e size v n xs)(d:∀b,v.ownBlock=some b->¬S b):w'.ownsRow base e size v n xs:=by
 refine⟨a.1, ?_⟩;rcases a.2 with f|⟨g,i,j,rfl,k,c,rest⟩
 ·exact .inl f
 ·exact .inr ⟨g,i,j,rfl,k,by rw[h.block g (aN c) (d g rfl)];exact c,rest⟩
end
def bX(w:KH)(b:Nat)(t:TypeId):Prop:=∃cur fr,w.heap[b]? =some (Obj.cells cur t fr)
theorem au.type(h:au w b t n):bX w b t:=let ⟨cur,h1,_⟩:=h;⟨cur,_,h1⟩
theorem Y_{size:Nat}{e:TypeId}{v:KI}(h:w.ownsRow base e size v n xs)(a:v.ownBlock=some b):bX w b e:=by
 rcases h.2 with⟨rfl,_⟩|⟨g,f,c,rfl,_,d,_⟩
 ·cases a
 ·simp only[Value.ownBlock,JI] at a;subst a;exact⟨c,_,d⟩
theorem aQ{c:Nat}{u:TypeId}(h:bX w b t)(k:bX w c u)(d:t≠u):b≠c:=by
 rintro rfl;obtain⟨f,i,e⟩:=h;obtain⟨j,l,a⟩:=k;rw[e] at a;simp only[JI,Obj.cells.injEq] at a;exact d a.2.1
structure Zk where
 tb:Nat
 r:Q_
 cost:Int
 steps:List Xq
 sa:KG
 sc:Nat
 op:Nat
 tv:KI
 qv:KI
 qs:List KI
 bl:KC
def Zk.cells(t:Zk):List KI:=[.string t.r.name,.bool t.r.over,.bool t.r.fail,.string t.r.text,.int .i64 t.r.at',.int .i64 t.r.Zq,t.tv,.int .i64 t.cost,.slice t.sa t.steps.length t.sc,.int .i64 (t.op:Int),t.qv,.string t.bl]
def Zk.ptr(t:Zk):KI:= .pointer (some ⟨t.tb,0,none⟩)
def Zk.own(t:Zk):List Nat:=t.tv.ownBlock.toList++t.qv.ownBlock.toList
def vP(b:Nat):KI:= .pointer (some ⟨b,0,none⟩)
structure jH (base:Nat) (w:KH) (t:Zk):Prop where
 row:au w t.tb 115 12
 rng:w.rangeAt t.tb 0 t.cells
 txt:w.ownsRow base 9 1 t.tv t.r.texts.length (t.r.texts.map Value.string)
 ask:w.ownsRow base 9 1 t.qv t.qs.length t.qs
 low:base<=t.tb
theorem jH.dZ{t:Zk}(h:jH base w t){x:Nat}(a:x∈t.own):bX w x 9/\base<=x/\x<w.heap.size:=by
 unfold Zk.own at a;rcases Jh.1 a with a|a
 ·have e:=JD.1 a;exact⟨Y_ h.txt e,h.txt.lt x e⟩
 ·have e:=JD.1 a;exact⟨Y_ h.ask e,h.ask.lt x e⟩
variable {S : Nat -> Prop}
theorem jH.but{t:Zk}(h:jH base w t)(k:But S w w')(d:¬S t.tb)(h2:∀x∈t.own,¬S x):jH base w' t:=
 ⟨k.row h.row d,k.range h.row d h.rng,k.owns h.txt (fun b c=>h2 b (Jh.2 (.inl (JD.2 c)))),k.owns h.ask (fun b c=>h2 b (Jh.2 (.inr (JD.2 c)))),h.low⟩
def asIs(v:KI):Option (DataW KI×List MemPlace):=some (.held v,[])
def je(s:KC):Lit:= .string s.data.toList
def Qj(ts:List Zk):List Q_:=ts.map (·.r)
structure bW where
 wo:KH
 K:Nat->Prop
 ps:List (Nat×KC)
 I:Nat->Prop
def bW.no(w:KH):bW:=⟨w,fun _=>False,[],fun _=>False⟩
structure Fen (G:bW) (w:KH) (bb mb:Nat) (ts:List Zk) (f:KC->KI):Prop where
 size:G.wo.heap.size<=w.heap.size
 lt:∀k,G.K k->k<G.wo.heap.size
 same:∀k,G.K k->w.heap[k]? =G.wo.heap[k]?
 nb:¬G.K bb
 nm:¬G.K mb
 nt:∀t∈ts,¬G.K t.tb/\∀x∈t.own,¬G.K x
 nf:∀s x,(f s).ownBlock=some x->¬G.K x
 has:∀p∈G.ps,∃t∈ts,t.tb=p.1/\t.r.name=p.2
variable {mb : Nat}
theorem Fen.but{G:bW}{c:Nat}{d:List Zk}{f:KC->KI}(h:Fen G w c mb d f)(k:But S w w')(e:∀b,S b->¬G.K b):Fen G w' c mb d f:=
 ⟨Jb h.size k.size,h.lt,fun b a=>(k.block b (I_ (h.lt b a) h.size) (fun i=>e b i a)).trans (h.same b a),h.nb,h.nm,h.nt,h.nf,h.has⟩
theorem Fen.far{G:bW}{a:Nat}{b:List Zk}{f:KC->KI}(h:Fen G w a mb b f){x:Nat}(d:w.heap.size<=x):¬G.K x:=fun c=>by
 have e:=h.lt x c;have i:=h.size;omega
theorem Fen.no{c:Nat}{d:List Zk}{f:KC->KI}(h:w.heap.size<=w'.heap.size):Fen (bW.no w) w' c mb d f:=
 ⟨h,fun _ e=>e.elim,fun _ e=>e.elim,id,id,fun _ _=>⟨id,fun _ _=>id⟩,fun _ _ _=>id,fun _ h=>(by cases h)⟩
structure BM (G:bW) (Kq:List Qz) (wz w:KH) (bb:Nat) (a:KG) (cap:Nat) (rd:KG) (rn rc:Nat) (mb mx:Nat) (ts:List Zk) (d:KG) (dc:Nat) (f:KC->KI) (ws:KC->List Nat):Prop where
 kw:K_ wz w
 row:au w bb 112 6
 c0:w.cell? ⟨bb,0,none⟩=some (.slice a Kq.length cap)
 c1:w.cell? ⟨bb,1,none⟩=some (.func (.func 133) #[] #[])
 c2:w.cell? ⟨bb,2,none⟩=some (.slice rd rn rc)
 c3:w.cell? ⟨bb,3,none⟩=some (.slice d ts.length dc)
 c4:w.cell? ⟨bb,4,none⟩=some (.func (.func 101) #[] #[])
 c5:w.cell? ⟨bb,5,none⟩=some (.map (some mb))
 low:wz.heap.size<=bb
 items:w.ownsRow wz.heap.size 103 1 (.slice d ts.length dc) ts.length (ts.map Zk.ptr)
 fE:∀t∈ts,jH wz.heap.size w t
 act:∀t∈ts,Kk Kq t.r.name=some ⟨t.cost,t.steps⟩/\Steps wz t.sa t.steps
 asc:cZ (Qj ts)
 tbs:(ts.map (·.tb)).Nodup
 sep:ts.Pairwise fun t u=>∀x∈t.own,x∉u.own
 vR:∀t∈ts,t.own.Nodup
 map:∃N D,N<=mx/\w.ownsMap prog 9 asIs mb N D/\∀s:KC,s.size<=maxLen->D.atKey (je s) (.held (.slice none 0 0))= .held (f s)
 yM:wz.heap.size<=mb
 dJ:∀s,w.ownsRow wz.heap.size 103 1 (f s) (ws s).length ((ws s).map vP)
 vQ:∀s s',s≠s'->∀x,(f s).ownBlock=some x->(f s').ownBlock≠some x
 yJ:∀s x,(f s).ownBlock=some x->(Value.slice d ts.length dc).ownBlock≠some x
 qb:∀t∈ts,t.qs.length<=5*mx
 oth:Fen G w bb mb ts f
 gi:∀x,(Value.slice d ts.length dc).ownBlock=some x->¬(G.I x/\G.K x)
theorem kv{N:Nat}{D:DataW KI}(h:w.ownsMap prog 9 asIs mb N D)(k:But S w w')(d:¬S mb):w'.ownsMap prog 9 asIs mb N D:=by
 obtain⟨e,f,b,F,i,j⟩:=h;exact⟨e,f,by rw[k.block mb (aN b) d];exact b,F,i,j⟩
theorem jF{N:Nat}{D:DataW KI}(h:w.ownsMap prog 9 asIs mb N D)(k:bX w b t):b≠mb:=by
 rintro rfl;obtain⟨d,e,c,_⟩:=h;obtain⟨f,i,a⟩:=k;rw[c] at a;cases a
section
variable {G : bW} {Kq : List Qz} {wz w w' : KH} {bb : Nat} {a : KG} {cap : Nat} {rd : KG} {rn rc : Nat} {mb mx : Nat} {ts : List Zk} {d : KG} {dc : Nat} {f : KC -> KI} {ws : KC -> List Nat}
theorem BM.but(h:BM G Kq wz w bb a cap rd rn rc mb mx ts d dc f ws)(k:But S w w')(l:∀b,S b->wz.heap.size<=b)(c:¬S bb)(h2:¬S mb)(m:∀b,(Value.slice d ts.length dc).ownBlock=some b->¬S b)(n:∀s b,(f s).ownBlock=some b->¬S b)(j:∀t∈ts,¬S t.tb/\∀x∈t.own,¬S x)(p:∀b,S b->¬G.K b):BM G Kq wz w' bb a cap rd rn rc mb mx ts d dc f ws:=by
 have e:=h.row.lt;refine⟨k.kept h.kw l,k.row h.row c,(k.cell e c).trans h.c0,(k.cell e c).trans h.c1,(k.cell e c).trans h.c2,(k.cell e c).trans h.c3,(k.cell e c).trans h.c4,(k.cell e c).trans h.c5,h.low,k.owns h.items m,fun t i=>(h.fE t i).but k (j t i).1 (j t i).2,h.act,h.asc,h.tbs,h.sep,h.vR, ?_,h.yM,fun s=>k.owns (h.dJ s) (n s),h.vQ,h.yJ,h.qb,h.oth.but k p,h.gi⟩;obtain⟨N,D,q,r,v⟩:=h.map;exact⟨N,D,q,kv r k h2,v⟩
theorem BM.kept(h:BM G Kq wz w bb a cap rd rn rc mb mx ts d dc f ws)(k:K_ w w'):BM G Kq wz w' bb a cap rd rn rc mb mx ts d dc f ws:=
 h.but (S:=fun _=>False) (But.aC k) (fun _ h=>h.elim) id id (fun _ _=>id) (fun _ _ _=>id) (fun _ _=>⟨id,fun _ _=>id⟩) (fun _ h=>h.elim)
theorem BM.more{c:Nat}(h:BM G Kq wz w bb a cap rd rn rc mb mx ts d dc f ws)(e:mx<=c):BM G Kq wz w bb a cap rd rn rc mb c ts d dc f ws:=
 ⟨h.kw,h.row,h.c0,h.c1,h.c2,h.c3,h.c4,h.c5,h.low,h.items,h.fE,h.act,h.asc,h.tbs,h.sep,h.vR,(by obtain⟨N,D,j,k⟩:=h.map;exact⟨N,D,Jb j e,k⟩),h.yM,h.dJ,h.vQ,h.yJ,fun t m=>Jb (h.qb t m) (Nat.mul_le_mul_left 5 e),h.oth,h.gi⟩
theorem bF{α:Type}{l:List α}(h:i<l.length):l[i]∈l:=Ji h
theorem ng{t':Zk}(_hi:i<ts.length):Qj (ts.set i t')= (Qj ts).set i t'.r:=by simp[Qj,List.map_set]
theorem xG{r':Q_}(h:cZ l)(k:i<l.length)(b:r'.name=l[i].name):cZ (l.set i r'):=by
 unfold cZ at h⊢;rw[Jj] at h⊢;intro p q c d j;rw[Ka] at c d;rw[Ky,Ky];have:=h p q c d j
 split <;> split
 ·omega
 ·rename_i e _;subst e;rw[b];exact this
 ·rename_i _ e;subst e;rw[b];exact this
 ·exact this
theorem BM.turn(h:BM G Kq wz w bb a cap rd rn rc mb mx ts d dc f ws)(l:i<ts.length)(k:But S w w')(A:∀b,S b->b=ts[i].tb\/b∈ts[i].own){t':Zk}(Z:jH wz.heap.size w' t')(F:t'.tb=ts[i].tb)(L:t'.r.name=ts[i].r.name)(M:t'.cost=ts[i].cost)(e4:t'.steps=ts[i].steps)(e5:t'.sa=ts[i].sa)(N:∀x∈t'.own,x∈ts[i].own\/w.heap.size<=x)(hn:t'.own.Nodup)(a0:t'.qs.length<=5*mx):BM G Kq wz w' bb a cap rd rn rc mb mx (ts.set i t') d dc f ws:=by
 have B:=h.row.lt;have s:=h.fE ts[i] (bF l);have t:(ts.set i t').length=ts.length:=Ka ..;have O:∀{b:Nat} {u:TypeId},bX w b u->u≠115->u≠9->¬S b:=fun m h1 h2 p=>by
  rcases A _ p with e|e
  ·exact aQ m s.row.type h1 e
  ·exact aQ m (s.dZ e).1 h2 rfl
 have hm:=h.map;obtain⟨a1,a2,hN,P,hf⟩:=hm;have a3:¬S mb:=fun p=>by
  rcases A _ p with e|e
  ·exact jF P s.row.type e.symm
  ·exact jF P (s.dZ e).1 rfl
 have v:¬S bb:=O h.row.type (by decide) (by decide);have T:∀(j:Nat) (c:j<ts.length),j≠i->¬S ts[j].tb/\∀x∈ts[j].own,¬S x:=fun j c q=>by
  have U:=h.fE ts[j] (bF c);refine⟨fun p=>?_,fun x n p=>?_⟩
  ·rcases A _ p with e|e
   ·have V:=Jj.1 h.tbs;rcases Nat.lt_or_gt_of_ne q with y|y
    ·have:=V j i (by simpa using c) (by simpa using l) y;simp at this;exact this e
    ·have:=V i j (by simpa using l) (by simpa using c) y;simp at this;exact this e.symm
   ·exact aQ U.row.type (s.dZ e).1 (by decide) rfl
  ·rcases A _ p with e|e
   ·exact aQ (U.dZ n).1 s.row.type (by decide) e
   ·have C:=Jj.1 h.sep;rcases Nat.lt_or_gt_of_ne q with y|y
    ·exact C j i c l y x n e
    ·exact C i j l c y x e n
 have mem:∀u∈ts.set i t',u=t'\/∃(j:Nat) (c:j<ts.length),j≠i/\u=ts[j]:=fun u m=>by
  obtain⟨j,c,rfl⟩:=Jk m;rw[t] at c;rw[Ky]
  split
  ·exact .inl rfl
  ·rename_i e;exact .inr ⟨j,c,Ne.symm e,rfl⟩
 have a4:∀b,S b->wz.heap.size<=b:=fun b p=>by
  rcases A b p with e|e
  ·rw[e];exact s.low
  ·exact (s.dZ e).2.1
 have a5:∀b,S b->¬G.K b:=fun b p=>by
  rcases A b p with e|e
  ·rw[e];exact (h.oth.nt _ (bF l)).1
  ·exact (h.oth.nt _ (bF l)).2 b e
 have a6:Fen G w' bb mb (ts.set i t') f:=by
  have D:=h.oth.but k a5;refine⟨D.size,D.lt,D.same,D.nb,D.nm,fun u m=>?_,D.nf,fun H E=>?_⟩;rotate_left
  ·obtain⟨u,m,W,I⟩:=h.oth.has H E;obtain⟨j,c,rfl⟩:=Jk m;by_cases e:j=i
   ·subst e;exact⟨t',List.mem_set c _,by rw[F];exact W,by rw[L];exact I⟩
   ·refine⟨ts[j], ?_,W,I⟩;have M:(ts.set i t')[j]'(by rw[t];exact c)=ts[j]:=by rw[Ky,Kh (Ne.symm e)]
    rw[<-M];exact Ji _
  rcases mem u m with rfl|⟨j,c,q,rfl⟩
  ·refine⟨by rw[F];exact (h.oth.nt _ (bF l)).1,fun x n=>?_⟩;rcases N x n with g | g
   ·exact (h.oth.nt _ (bF l)).2 x g
   ·exact h.oth.far g
  ·exact h.oth.nt _ (bF c)
 refine⟨k.kept h.kw a4,k.row h.row v,(k.cell B v).trans h.c0,(k.cell B v).trans h.c1,(k.cell B v).trans h.c2,by rw[t];exact (k.cell B v).trans h.c3,(k.cell B v).trans h.c4,(k.cell B v).trans h.c5,h.low, ?_, ?_, ?_, ?_, ?_, ?_, ?_,⟨a1,a2,hN,kv P k a3,hf⟩,h.yM,fun X=>k.owns (h.dJ X) (fun b e=>O (Y_ (h.dJ X) e) (by decide) (by decide)),h.vQ,by rw[t];exact h.yJ,fun u m=>by rcases mem u m with rfl | ⟨j,c,q,rfl⟩;exact a0;exact h.qb _ (bF c),a6,by rw[t];exact h.gi⟩
 ·have e:(ts.set i t').map Zk.ptr=ts.map Zk.ptr:=by
   rw[List.map_set];have Q:t'.ptr= (ts.map Zk.ptr)[i]'(by simpa using l):=by simp[Zk.ptr,F]
   rw[Q,List.set_getElem_self]
  rw[t,e];exact k.owns h.items (fun b e=>O (Y_ h.items e) (by decide) (by decide))
 ·intro u m;rcases mem u m with rfl|⟨j,c,q,rfl⟩
  ·exact Z
  ·exact (h.fE _ (bF c)).but k (T j c q).1 (T j c q).2
 ·intro u m;rcases mem u m with rfl|⟨j,c,q,rfl⟩
  ·rw[L,M,e4,e5];exact h.act _ (bF l)
  ·exact h.act _ (bF c)
 ·rw[ng l];exact xG h.asc (by simpa[Qj] using l) (by simp[Qj,L])
 ·have e:(ts.set i t').map (·.tb)=ts.map (·.tb):=by
   rw[List.map_set];have Q:t'.tb= (ts.map (·.tb))[i]'(by simpa using l):=by simp[F]
   rw[Q,List.set_getElem_self]
  rw[e];exact h.tbs
 ·rw[Jj];have C:=Jj.1 h.sep;intro H Y E J R x n;rw[t] at E J;rw[Ky] at n⊢
  split at n
  ·rename_i e
   subst e;rw[Kh (by omega)];rcases N x n with g|g
   ·exact C i Y l J R x g
   ·intro I;have:=((h.fE _ (bF J)).dZ I).2.2;omega
  ·split
   ·rename_i e
    subst e;intro g;rcases N x g with g|g
    ·exact C H i E l R x n g
    ·have:=((h.fE _ (bF E)).dZ n).2.2;omega
   ·exact C H Y E J R x n
 ·intro u m;rcases mem u m with rfl|⟨j,c,q,rfl⟩
  ·exact hn
  ·exact h.vR _ (bF c)
end
def xI(W:dQ)(r:Q_)(bl:KC):Prop:=
 (bl= ⟨#[]⟩/\(r.over=true->r.fail=true->r.text=eY\/∃A,W r.name=some A/\(stepOf A r.at').fin=true))\/
 (r.over=true/\r.fail=true/\(∃A,W r.name=some A/\(stepOf A r.at').fin=false/\bl∈(stepOf A r.at').asks)/\r.text= (⟨#[98,101,108,111,119,32]⟩:KC)++bl)
theorem xI.open{b:KC}(h:xI W r b)(c:r.over=false):b= ⟨#[]⟩:=by
 rcases h with h|⟨h,_⟩
 ·exact h.1
 ·rw[c] at h;cases h
theorem xI.still{a:KC}(c:a= ⟨#[]⟩)(d:r.over=false):xI W r a:= .inl ⟨c,fun h=>by rw[d] at h;cases h⟩
def uk(W:dQ)(σ:Env)(r:Q_)(qs:List KI):Prop:=∃L,gZ W σ r L/\qs=L.map Value.string
theorem uk.mono{m:KC}{a:List KI}(h:uk W σ r a)(c:dI W σ m):uk W (doX W σ m) r a:=by
 obtain⟨L,e,f⟩:=h;exact⟨L,e.mono c,f⟩
theorem uk.unit{a:List KI}(h:uk W σ r a)(c:aV W σ r):uk W σ (Xx W σ r).1 (a++ (Xx W σ r).2.map Value.string):=by
 obtain⟨L,d,e⟩:=h;exact⟨_,d.unit c,by rw[e,Km]⟩
theorem uk.still{a:List KI}(b:a=[])(c:r=Q_.fresh r.name):uk W σ r a:=⟨[],by rw[c];exact gZ.start _,b⟩
def Zk.bq(t:Zk):KC×List KI:=(t.bl,t.qs)
structure BS (Kq:List Qz) (ts:List Zk) (ws:KC->List Nat):Prop where
 good:fM Kq (Qj ts)
 op:∀t∈ts,t.op= (pend (Kk Kq) (Qq (Qj ts)) t.r).length
 wt:∀s,∀t∈ts,(t.tb∈ws s↔s∈pend (Kk Kq) (Qq (Qj ts)) t.r)
 wn:∀s,(ws s).Nodup
 ww:∀s b,b∈ws s->∃t∈ts,t.tb=b
 bl:∀t∈ts,xI (Kk Kq) t.r t.bl
 qs:∀t∈ts,uk (Kk Kq) (Qq (Qj ts)) t.r t.qs
def jq(w:KH)(xs:List KI)(l:List Qz):Prop:=
 xs.length=l.length/\∀i,i<l.length->∃tb cur fr,xs[i]? =some (.pointer (some ⟨tb,0,none⟩))/\w.heap[tb]? =some (Obj.cells cur 115 fr)/\w.cell? ⟨tb,0,none⟩=some (.string (l.getD i Qz.zero).name)
theorem jq.kept{w w':KH}{b:List KI}{l:List Qz}(h:jq w b l)(k:K_ w w'):jq w' b l:=
 ⟨h.1,fun i d=>by
  obtain⟨c,e,f,j,a,m⟩:=h.2 i d;exact⟨c,e,f,j,by rw[k.block c (aN a)];exact a,(k.cell (aN a)).trans m⟩⟩
def qN(w:KH)(a:KG)(xs:List KI):Prop:=∀i,i<xs.length->∃b o,a=some ⟨b,o,none⟩/\b<w.heap.size/\∀j u,xs[j]? =some u->w.cell? ⟨b,o+j,none⟩=some u
theorem qN.kept{w w':KH}{a:KG}{b:List KI}(h:qN w a b)(k:K_ w w'):qN w' a b:=by
 intro i d;obtain⟨f,o,e,c,j⟩:=h i d;exact⟨f,o,e,I_ c k.size,fun l u m=>(k.cell c).trans (j l u m)⟩
theorem eH{w:KH}{base n:Nat}{t:TypeId}{a:KG}{c:Nat}{b:List KI}(h:w.ownsRow base t 1 (.slice a n c) n b):qN w a b:=by
 have k:b.length=n:=by have:=h.1;omega
 rcases h.2 with⟨e,l⟩|⟨g,m,p,e,q,d,r,_,_,_⟩
 ·exact fun i f=>by omega
 ·simp only[JJ] at e;obtain⟨rfl,_,rfl⟩:=e;refine fun i f=>⟨g,0,rfl,aN d,fun s u j=>?_⟩
  have:=h.cells (g:=g) rfl _ _ j;rw[JL] at this;exact this
theorem sS(w:KH)(tb:Nat)(n:KC)(a:w.cell? ⟨tb,0,none⟩=some (.string n)):
  Calls prog 101 #[.pointer (some ⟨tb,0,none⟩)] w fun e w'=>e= .returned (.string n)/\w'=w:=by
 go_enter func101,ntmps101
 go_wp2
 go_ret
 exact⟨rfl,rfl⟩
theorem oW(w:KH)(g:Nat)(n:KC)(tb:Nat)(a:KC)(c:g<w.heap.size)(d:tb<w.heap.size)(b:w.cell? ⟨tb,0,none⟩=some (.string n))(f:w.cell? ⟨g,1,none⟩=some (.func (.func 101) #[] #[])):
  Calls prog 158 #[.pointer (some ⟨tb,0,none⟩),.string a,.pointer (some ⟨g,0,none⟩)] w fun e w'=>e= .returned (.int .i64 (jD n.toList a.toList))/\K_ w w':=by
 go_enter func158,ntmps158
 go_wp2_with fail
 refine (sS _ tb n b).mono ?_;rintro e w1 ⟨rfl,rfl⟩;go_wp2_with fail
 refine (nO _ n a).mono ?_;rintro e w2 ⟨rfl,rfl⟩;go_wp2
 go_ret
 exact⟨rfl,K_.refl _⟩
theorem Aw(w:KH)(g:Nat)(a:KG)(a2:Nat)(l:List Qz)(c:KC)(hl:l.length<=1048576)(R:fG l)(D:g<w.heap.size)(S:w.cell? ⟨g,1,none⟩=some (.func (.func 101) #[] #[]))(T:List KI)(E:jq w T l)(U:qN w a T):
  Calls prog 157 #[.slice a l.length a2,.string c,.func (.func 158) #[] #[.pointer (some ⟨g,0,none⟩)]] w
   fun e w'=>Found l c.toList e/\K_ w w':=by
 have V:=Kz R;clear R;go_enter func157,ntmps157
 go_wp2
 go_loopw [9,10] (fun I J wr=>∃i j:Nat,I= .int .i64 i/\J= .int .i64 j/\i<=j/\j<=l.length/\(∀t,t<i->Op.bytesLess (nameAt l t) c.toList=true)/\(∀t,j<=t->t<l.length->Op.bytesLess (nameAt l t) c.toList=false)/\K_ w wr) (fun I J _=>(intOf J).toNat-(intOf I).toNat)
 case atStart=>exact⟨0,l.length,rfl,rfl,Ja _,IZ _,fun t W=>aP W,fun t h1 X=>by omega,K_.refl _⟩
 case round=>
  obtain⟨i,j,rfl,rfl,a8,Y,p,q,d⟩:=hrel;have r:=Kz (And.intro p q);clear p q;by_cases a9:(i:Int)<j
  ·obtain⟨h,Z⟩:∃h:Nat,h= (i+j) / 2:=⟨_,rfl⟩;have K:h<l.length:=by omega
   have a3:i<=h:=by omega
   have b0:h<j:=by omega
   obtain⟨b,o,rfl,hb,s⟩:=U.kept d h (by rw[E.1];exact K);obtain⟨v,a4,fr,x,y,k⟩:=(E.kept d).2 h K;obtain⟨f,m⟩:=ah (l.getD h Qz.zero);rw[<-m] at k;have L:=Kz m;have M:=s _ _ x;have A:wr.cell? ⟨v,0,none⟩=some (.string f.name):=k;have N:=aN y;clear m s k x y;have b1:((i:Int)+ (j:Int)) / 2= (h:Int):=by omega
   have HH:=Kz Z;clear Z;have O:g<wr.heap.size:=I_ D d.size;have P:wr.cell? ⟨g,1,none⟩=some (.func (.func 101) #[] #[]):=by rw[d.cell D];exact S
   go_wp2_with fail
   refine (oW _ g f.name v c O N A P).mono ?_;rintro e w1 ⟨rfl,B⟩;have C:nameAt l h=f.name.toList:=by unfold nameAt;rw[<-L.o]
   have F:Hid (jD f.name.toList c.toList<0↔Op.bytesLess (nameAt l h) c.toList=true):=by rw[C];exact ui
   clear M A C;generalize jD f.name.toList c.toList=a0 at *;have G:=d.trans B;clear d B;by_cases a5:a0<0
   ·go_wp2
    go_roundw
    case rel=>
     obtain⟨p,q⟩:=r.o;refine⟨h+1,j,by go_num,rfl,by omega,Y,fun t W=>?_,q,G⟩;have n:=F.o.1 a5;by_cases e:t=h
     ·subst e;exact n
     ·exact dW _ _ _ (V.o t h (by omega) K) n
    case measure=>simp[intOf];omega
   ·go_wp2
    go_roundw
    case rel=>
     obtain⟨p,q⟩:=r.o;refine⟨i,h,rfl,by go_num,a3,by omega,p,fun t h1 X=>?_,G⟩;have n:Op.bytesLess (nameAt l h) c.toList=false:=by
      cases Q:Op.bytesLess (nameAt l h) c.toList
      ·rfl
      ·have:=F.o.2 Q;omega
     by_cases e:t=h
     ·subst e;exact n
     ·cases Q:Op.bytesLess (nameAt l t) c.toList
      ·rfl
      ·rw[dW _ _ _ (V.o h t (by omega) X) Q] at n;cases n
    case measure=>simp[intOf];omega
  ·have a6:i=j:=by omega
   subst a6;have a1:Hid (Place l c.toList i):=⟨Y,r.o.1,r.o.2⟩;clear r;by_cases H:i<l.length
   ·obtain⟨b,o,rfl,hb,s⟩:=U.kept d i (by rw[E.1];exact H);obtain⟨v,a4,fr,x,y,k⟩:=(E.kept d).2 i H;obtain⟨f,m⟩:=ah (l.getD i Qz.zero);rw[<-m] at k;have L:=Kz m;have M:=s _ _ x;have A:wr.cell? ⟨v,0,none⟩=some (.string f.name):=k;have N:=aN y;clear m s k x y;have O:g<wr.heap.size:=I_ D d.size;have P:wr.cell? ⟨g,1,none⟩=some (.func (.func 101) #[] #[]):=by rw[d.cell D];exact S
    have a7:(i:Int)<l.length:=by omega
    go_wp2_with fail
    refine (oW _ g f.name v c O N A P).mono ?_;rintro e w1 ⟨rfl,B⟩;have C:nameAt l i=f.name.toList:=by unfold nameAt;rw[<-L.o]
    have F:Hid (jD f.name.toList c.toList=0↔nameAt l i=c.toList):=by rw[C];exact qY
    clear M A C;generalize jD f.name.toList c.toList=a0 at *;have G:=d.trans B;clear d B;go_wp2
    go_ret2
    refine⟨Found.mk i _ rfl a1.o ?_,G⟩;rw[<-F.o];simp[H]
   ·have a7:¬(i:Int)<l.length:=by omega
    go_wp2
    go_ret2
    exact⟨Found.mk i false rfl a1.o (by simp;intro h;exact Ki h H),d⟩
theorem vW(w:KH)(a:KG)(b:Nat)(l:List Qz)(c:KC)(j:l.length<=1048576)(k:fG l)(d:List KI)(m:jq w d l)(n:qN w a d):
  Calls prog 117 #[.agg #[.slice a l.length b,.func (.func 101) #[] #[]],.string c] w
   fun e w'=>Found l c.toList e/\K_ w w':=by
 have f:K_ w (w.alloc (.cells #[.slice a l.length b,.func (.func 101) #[] #[]] 106)):=ag _ _;go_enter func117,ntmps117
 go_wp2_with fail
 refine (Aw _ w.heap.size a b l c j k (by simp) (by simp) d (m.kept f) (n.kept f)).mono ?_;rintro e w1 ⟨p,q⟩;obtain⟨r,s,rfl,h,i⟩:=p;have⟨t,v⟩:=aD h i;clear h i;go_wp2
 go_ret2
 exact⟨Found.mk r s rfl t.o v.o,f.trans q⟩
def iy(ts:List Zk):List Qz:=ts.map fun t=>⟨t.r.name,0,[]⟩
theorem dH(a:List Zk):(iy a).length=a.length:=by simp[iy]
theorem gV{a:List Zk}{i:Nat}(h:i<a.length):((iy a).getD i Qz.zero).name=a[i].r.name:=by simp[iy,List.getD,h]
theorem qy{b:List Zk}(h:cZ (Qj b)):fG (iy b):=fun i j f a=>by
 rw[dH] at a;unfold nameAt;rw[gV (by omega),gV a];have:=Jj.1 h i j (by simp[Qj];omega) (by simpa[Qj] using a) f;unfold bU at this;simpa[Qj] using this
section
variable {G : bW} {Kq : List Qz} {wz w w' : KH} {bb : Nat} {a : KG} {cap : Nat} {rd : KG} {rn rc : Nat} {mb mx : Nat} {ts : List Zk} {d : KG} {dc : Nat} {f : KC -> KI} {ws : KC -> List Nat}
theorem BM.packed(h:BM G Kq wz w bb a cap rd rn rc mb mx ts d dc f ws):jq w (ts.map Zk.ptr) (iy ts):=
 ⟨by simp[iy],fun i b=>by
  rw[dH] at b;have c:=h.fE ts[i] (Ji b);obtain⟨e,j,_⟩:=c.row;exact⟨ts[i].tb,e,_,by simp[b,Zk.ptr],j,by rw[gV b];exact c.rng 0 _ rfl⟩⟩
def Af(ts:List Zk)(n:KC)(e:Ending):Prop:=(∃(i:Nat) (hi:i<ts.length),ts[i].r.name=n/\e= .returned ts[i].ptr)\/((∀t∈ts,t.r.name≠n)/\e= .returned (.pointer none))
theorem iK(c:BM G Kq wz w bb a cap rd rn rc mb mx ts d dc f ws)(n:KC)(P:ts.length<=1048576):
  Calls prog 74 #[.pointer (some ⟨bb,0,none⟩),.string n] w fun e w'=>Af ts n e/\K_ w w':=by
 have v:=c.c3;have F:=c.c4;have Q:=c.row.lt;have l:=dH ts;have h:=Kz c;clear c;go_enter func74,ntmps74
 go_wp2_with fail
 have m:=vW w d dc (iy ts) n (by omega) (qy h.o.asc) (ts.map Zk.ptr) h.o.packed (eH h.o.items);rw[l] at m;refine m.mono ?_;rintro e w1 ⟨⟨p,H,rfl,x,y⟩,q⟩;have⟨I,A,R⟩:=eB x y l;clear x y m l v F;have j:=h.o.kept q;have v:=j.c3;have S:=j.row.lt;cases H
 ·go_wp2
  go_ret
  refine⟨.inr ⟨fun T J e=>?_,rfl⟩,q⟩;obtain⟨B,C,rfl⟩:=Jk J;have K:=I.o;have L:¬(p<(iy ts).length/\nameAt (iy ts) p=n.toList):=fun M=>by have:=A.o.2 M;cases this
  have s:nameAt (iy ts) B=n.toList:=by unfold nameAt;rw[gV C,e]
  have t:B<(iy ts).length:=by rw[dH];exact C
  have N:=Place.only (qy h.o.asc) K t s;rw[N] at t s;exact L ⟨t,s⟩
 ·obtain⟨i,k⟩:=A.o.1 rfl;rw[dH] at i;have D:ts[p].r.name=n:=by unfold nameAt at k;rw[gV i] at k;exact toList_inj.1 k
  obtain⟨b,o,rfl,U,E⟩:=eH j.items p (by simpa using i);have V:w1.cell? ⟨b,o+p,none⟩=some ts[p].ptr:=E p _ (by simp[i]);have W:(p:Int)<(ts.length:Int):=by omega
  have O:=Kz D;clear D E k j;go_wp2
  go_ret
  exact⟨.inl ⟨p,i,O.o,rfl⟩,q⟩
theorem BP(w:KH)(n:KC)(a:n.size<=1000):
  Calls prog 183 #[.string n] w fun e w'=>e= .returned (.agg #[.bool true,.string (um n)])/\K_ w w':=by
 go_enter func183,ntmps183
 have b:¬9223372036854775807<3+n.size:=by omega
 go_wp2
 exact Zx [.bool true,.string (um n)] _ results183 rfl (X_ w #[.bool true,.string (um n)] 173) underlying173 rfl Tryz.jX rfl ⟨rfl,ag _ _⟩
def Ew(Kq:List Qz)(l:List Q_)(n:KC)(e:Ending):Prop:=
 ∃(f:Bool) (t:KC) (ok:Bool),e= .returned (.tuple #[.agg #[.bool f,.string t],.bool ok])/\bA (Kk Kq) (Qq l) n= (if ok=true then some ⟨f,t⟩ else none)/\(ok=false->∃r,Qq l n=some r/\f=r.fail/\t=r.text)
theorem qB(p:BM G Kq wz w bb a cap rd rn rc mb mx ts d dc f ws)(n:KC)(S:ts.length<=1048576)(T:n.size<=1000)(x:(∃t∈ts,t.r.name=n)\/Kk Kq n=none):
  Calls prog 166 #[.pointer (some ⟨bb,0,none⟩),.string n] w fun e w'=>Ew Kq (Qj ts) n e/\K_ w w':=by
 have y:K_ w (w.alloc (.cells #[.bool false,.string ⟨#[]⟩] 173)):=ag _ _;go_enter func166,ntmps166
 go_wp2_with fail
 refine (iK (p.kept y) n S).mono ?_;rintro e w1 ⟨⟨i,A,B,rfl⟩|⟨L,rfl⟩,q⟩
 ·obtain⟨t,b⟩:=ah (ts[i]);have C:=p.fE ts[i] (Ji A);rw[<-b] at C B;have s:=C.rng;have M:w.cell? ⟨t.tb,1,none⟩=some (.bool t.r.over):=s 1 _ rfl;have N:w.cell? ⟨t.tb,2,none⟩=some (.bool t.r.fail):=s 2 _ rfl;have O:w.cell? ⟨t.tb,3,none⟩=some (.string t.r.text):=s 3 _ rfl;have D:=C.row.lt;have E:Hid (∀w',K_ w w'->w'.cell? ⟨t.tb,1,none⟩=some (.bool t.r.over)/\w'.cell? ⟨t.tb,2,none⟩=some (.bool t.r.fail)/\w'.cell? ⟨t.tb,3,none⟩=some (.string t.r.text)):=fun w' K=>⟨(K.cell D).trans M,(K.cell D).trans N,(K.cell D).trans O⟩
  have F:=Kz ((au.made w #[.bool false,.string ⟨#[]⟩] 173).kept q);have c:=(y.trans q);obtain⟨U,V,W⟩:=E.o _ c;have⟨X,Y⟩:=aD B b;have P:ts[i].ptr= .pointer (some ⟨t.tb,0,none⟩):=by rw[<-b];rfl
  rw[P];clear b B M N O s P;go_upto_region 4 with fail
  refine gL 17 E.o (c.drew) (fun j=>?_);have H:K_ w w1.drew:=c.drew;have k:=Kz (F.o.kept (aG w1));generalize Z:w1.drew=wd at j H k⊢;clear Z U V W;refine aB 0 j ?_;refine aB 4 j ?_;refine aB 8 j ?_;refine aB 12 j ?_;obtain⟨⟨_,x0⟩,f0⟩:=k.o.row.at (i:=0) (by decide);obtain⟨⟨_,x1⟩,f1⟩:=k.o.row.at (i:=1) (by decide);have xz:=k.o.lt;refine af 16 (fun K l=>?_);go_simp
  refine l.out _ _ ?_ ?_
  ·exact fun _=>E.o _ (bT (g:=w.heap.size) (IZ _) [.bool t.r.fail,.string t.r.text] 0 H)
  clear l K;try simp only[Act.put,upA,upB,upC]
  refine af 17 (fun K l=>?_);go_simp
  refine l.out _ _ (fun h=>Ki rfl h) ?_;clear l K;try simp only[Act.put,upA,upB,upC]
  refine ay ?_;go_wp2_with fail
  have I:=Jc wd w.heap.size 0 [.bool t.r.fail,.string t.r.text] (k.o.row.there (o:=0) (m:=2) (IZ _));refine aU [.bool t.r.fail,.string t.r.text] _ (.bool t.r.over) results166 rfl I underlying173 rfl Tryz.jX rfl rfl ?_;refine⟨⟨t.r.fail,t.r.text,t.r.over,rfl, ?_⟩,bT (g:=w.heap.size) (IZ _) [.bool t.r.fail,.string t.r.text] 0 H⟩;have Q:=(p.act ts[i] (Ji A)).1;have J:=bn p.asc (JQ (Ji A):ts[i].r∈Qj ts);rw[<-Y.o,X.o] at Q J;refine⟨by unfold bA;rw[Q,J],fun _=>⟨t.r,J,rfl,rfl⟩⟩
 ·have F:=Kz ((au.made w #[.bool false,.string ⟨#[]⟩] 173).kept q);have c:=(y.trans q);have a0:=Kz L;clear L;go_wp2_with fail
  refine (BP w1 n T).mono ?_;rintro e w2 ⟨rfl,R⟩;have v:=Kz (F.o.kept R);obtain⟨⟨_,x0⟩,f0⟩:=v.o.row.at (i:=0) (by decide);obtain⟨⟨_,x1⟩,f1⟩:=v.o.row.at (i:=1) (by decide);have xz:=v.o.lt;go_wp2_with fail
  have I:=Jc w2 w.heap.size 0 [.bool true,.string (um n)] (v.o.row.there (o:=0) (m:=2) (IZ _));refine aU [.bool true,.string (um n)] _ (.bool true) results166 rfl I underlying173 rfl Tryz.jX rfl rfl ?_;refine⟨⟨true,um n,true,rfl, ?_⟩,bT (g:=w.heap.size) (IZ _) [.bool true,.string (um n)] 0 (c.trans R)⟩;rcases x with⟨t,b,e⟩|x
  ·exact Ki e (a0.o t b)
  ·exact⟨by unfold bA;rw[x];rfl,fun h=>by cases h⟩
theorem mM(b:BM G Kq wz w bb a cap rd rn rc mb mx ts d dc f ws)(n:KC)(c:ts.length<=1048576)(h:n.size<=1000)(i:(∃t∈ts,t.r.name=n)\/Kk Kq n=none):
  Calls prog 166 #[.pointer (some ⟨bb,0,none⟩),.string n] w fun e w'=>Cv Kq (Qj ts) n e/\K_ w w':=by
 refine (qB b n c h i).mono ?_;rintro e w' ⟨⟨f,t,j,k,l,_⟩,m⟩;exact⟨⟨f,t,j,k,l⟩,m⟩
end
