import Derived.Test.YtbmhchdegdjfkaaGreatDoorKVNeeds
import Derived.Test.YtbmhchdegdjfkaaGreatDoorKFImpl2
set_option maxRecDepth 100000
set_option maxHeartbeats 25600000
namespace Go.Proofs.YtbmhchdegdjfkaaGreatDoor
open Go.RowKit Go.Proofs.Tryz
theorem yO(w:KH)(a:KG)(q:Nat)(b:List Qz)(j k r:Nat)(Kj:List KC)(P:b.length<=1048576)(B:∀s∈b,s.Fits)(t:¬(bu b 0/\fV Kj))(Q:Kj.length<=1048576)(C:∀s∈Kj,s.size<=maxLen)(D:bY w a b)(E:Strs w (some ⟨j,k,none⟩) Kj):
  Calls prog 48 #[.agg #[.slice a b.length q],.slice (some ⟨j,k,none⟩) Kj.length r] w fun e w'=>e= .returned (.agg #[.slice none 0 0,.slice none 0 0])/\K_ w w':=by
 have F:=Kz t;clear t;go_enter func48,ntmps48
 go_wp2_with fail
 refine (gy _ a q b (by unfold maxLen;omega) B (D.kept (by repeat (first | apply K_.alloc | exact K_.refl _)))).mono ?_;rintro e w1 ⟨⟨v,rfl,x⟩,c⟩;have f:K_ w w1:=K_.trans (by repeat (first | apply K_.alloc | exact K_.refl _)) c;have G:=c.size;simp only[JG] at G;have H:=oV (w:=w) (K_.trans (ag _ _) c);have l:=wh c;simp only[JG] at l;have d:Hid (au w1 (w.heap.size+1) 29 2):=l;obtain⟨⟨_,I⟩,J⟩:=d.o.row.at (i:=0) (by omega);obtain⟨⟨_,K⟩,L⟩:=d.o.row.at (i:=1) (by omega);have M:=Kz x;clear l x c;have R:w.heap.size<w1.heap.size:=by omega
 have S:w.heap.size+1<w1.heap.size:=by omega
 by_cases y:v=0
 ·subst y;go_wp2_with fail
  refine (kX _ (some ⟨j,k,none⟩) r Kj (by unfold maxLen;omega) C (E.kept f)).mono ?_;rintro e w2 ⟨A,h⟩;have n:=Kz (d.o.kept h);have N:=f.trans h;have T:=h.size;obtain⟨⟨_,U⟩,V⟩:=n.o.row.at (i:=0) (by omega);obtain⟨⟨_,W⟩,X⟩:=n.o.row.at (i:=1) (by omega);clear H I K J L d f h;rcases A.cases with⟨rfl,O⟩|⟨rfl,_⟩
  ·exact Ki ⟨M.o,O⟩ F.o
  ·clear A;go_wp2
   have p:=Jc w2 (w.heap.size+1) 0 [.slice none 0 0,.slice none 0 0] (n.o.row.there (o:=0) (m:=2) (IZ _));exact Zx [.slice none 0 0,.slice none 0 0] _ results48 rfl p underlying29 rfl Tryz.bB rfl ⟨rfl,(N.setCell (by simp) _).setCell (by simp) _⟩
 ·have Y:(v == 0)=false:=by simpa using y
  go_wp2
  have p:=Jc w1 (w.heap.size+1) 0 [.slice none 0 0,.slice none 0 0] (d.o.row.there (o:=0) (m:=2) (IZ _));exact Zx [.slice none 0 0,.slice none 0 0] _ results48 rfl p underlying29 rfl Tryz.bB rfl ⟨rfl,(f.setCell (by simp) _).setCell (by simp) _⟩
theorem AU(w:KH):Calls prog 53 #[.agg #[.slice none 0 0,.slice none 0 0]] w fun e w'=>∃g c,e= .returned (.agg #[.slice (some ⟨g,0,none⟩) 0 c,.slice none 0 0])/\K_ w w':=by
 obtain⟨B,C,I,J,K⟩:=aO Tryz.dh;obtain⟨a,d⟩:=ah ((w.alloc (.cells #[.slice none 0 0,.slice none 0 0] 29)).alloc (.cells #[.slice none 0 0,.slice none 0 0] 29));have t:K_ w a:=by rw[d];exact (ag _ _).alloc _
 have v:Hid (au a (w.heap.size+1) 29 2):=by
  have x:=au.made (w.alloc (.cells #[.slice none 0 0,.slice none 0 0] 29)) #[.slice none 0 0,.slice none 0 0] 29;simp only[JG] at x;rw[d];exact x
 have D:a.cell? ⟨w.heap.size,0,none⟩=some (.slice none 0 0):=by rw[d,K_.cell (w:=w.alloc (.cells #[.slice none 0 0,.slice none 0 0] 29)) (ag _ _) (by simp)];exact X_ w _ _ 0 _ rfl
 have y:a.cell? ⟨w.heap.size,1,none⟩=some (.slice none 0 0):=by rw[d,K_.cell (w:=w.alloc (.cells #[.slice none 0 0,.slice none 0 0] 29)) (ag _ _) (by simp)];exact X_ w _ _ 1 _ rfl
 have L:w.heap.size+2<=a.heap.size:=by rw[d];simp
 have E:w.heap.size<a.heap.size:=by omega
 have A:=Kz t;have p:Hid ((a.alloc (.cells #[] 9)).ownsRow a.heap.size 9 1 (.slice (some ⟨a.heap.size,0,none⟩) 0 0) 0 (([]:List KC).map Value.string)):=Jz a #[] 0 (IZ _) (Ja _) rfl;clear t;go_enter func53,ntmps53
 go_upto_region 1 with fail
 rw[<-d];clear d;go_wp2_with (at_builtin;refine wpList_append_own_none _ rfl (.tmp 6) (.tmp 8) 26 rfl a.heap.size 9 B 1 underlying26 C (.slice (some ⟨a.heap.size,0,none⟩) 0 0) 0 [] rfl p.o rfl ?_)
 obtain⟨f,j⟩:=ah (a.alloc (.cells #[] 9));have k:K_ a f:=by rw[j];exact ag _ _
 rw[<-j] at p⊢;obtain⟨b,h⟩:=ah (f.alloc (.cells #[.slice (some ⟨a.heap.size,0,none⟩) 0 0,.slice none 0 0] 29));have l:K_ f b:=by rw[h];exact ag _ _
 obtain⟨i,q⟩:=ah (a.heap.size+1);have r:i=f.heap.size:=by rw[q,j];simp
 have s:b.rangeAt i 0 [.slice (some ⟨a.heap.size,0,none⟩) 0 0,.slice none 0 0]:=by rw[h,r];exact X_ f #[.slice (some ⟨a.heap.size,0,none⟩) 0 0,.slice none 0 0] 29
 have M:b.cell? ⟨i,0,none⟩=some (.slice (some ⟨a.heap.size,0,none⟩) 0 0):=s 0 _ rfl;have N:b.cell? ⟨i,1,none⟩=some (.slice none 0 0):=s 1 _ rfl;have O:b.cell? ⟨w.heap.size,1,none⟩=some (.slice none 0 0):=((k.trans l).cell E).trans y;have n:=Kz (v.o.kept (k.trans l));have F:=Kz (A.o.trans (k.trans l));have P:i<b.heap.size:=by rw[r,h];simp
 have Q:w.heap.size+1<b.heap.size:=n.o.lt;obtain⟨⟨_,R⟩,S⟩:=n.o.row.at (i:=0) (by omega);obtain⟨⟨_,T⟩,U⟩:=n.o.row.at (i:=1) (by omega);rw[<-h,<-q];clear s h q r j k l D y p v A;go_loopw [4] (fun G wr=>G= .int .i64 0/\wr=b) (fun _ _=>0)
 case atStart=>exact⟨rfl,rfl⟩
 case round=>
  obtain⟨rfl,rfl⟩:=hrel;go_wp2
  have H:=Jc wr (w.heap.size+1) 0 [.slice (some ⟨a.heap.size,0,none⟩) 0 0,.slice none 0 0] (n.o.row.there (o:=0) (m:=2) (IZ _));refine Zx [.slice (some ⟨a.heap.size,0,none⟩) 0 0,.slice none 0 0] _ results53 rfl H underlying29 rfl Tryz.bB rfl ⟨_,_,rfl, ?_⟩;exact (F.o.setCell (by show w.heap.size<=w.heap.size+1;omega) _).setCell (by show w.heap.size<=w.heap.size+1;omega) _
def vT(v:KI)(n:Nat):Prop:=∃g c,v= .slice (some ⟨g,0,none⟩) n c
theorem pQ{w:KH}{base size:Nat}{e:TypeId}{v:KI}{n:Nat}{a:List KI}(h:w.ownsRow base e size v n a)(d:0<n):vT v n:=by
 rcases h.2 with⟨_,e⟩|⟨g,c,f,e,_⟩
 ·omega
 ·exact⟨g,c,e⟩
def vS(w w':KH)(rb:Nat)(a:KG)(cap:Nat)(bs:List UInt8)(p:Nat)(e:Ending):Prop:=
 ∃(g c:Nat) (l:List KC) (p':Nat),e= .returned (.slice (some ⟨g,0,none⟩) l.length c)/\l.length<=c/\l.length<=12/\(∀x∈l,x.size<=300)/\eD w' 9 (some ⟨g,0,none⟩) l/\p<=p'/\p'<=p+20/\Rd w' rb a cap bs p'/\Xj rb (rb+1) w w'
section
variable {W wr : KH} {rb : Nat} {a : KG} {cap : Nat} {bs : List UInt8} {p q : Nat} {v : KI} {l : List KC}
theorem OSt.Kj(h:OSt W wr rb a cap bs q v l)(d:vT v l.length)(f:l.length<=12)(i:p<=q)(h2:q<=p+20):vS W wr rb a cap bs p (.returned v):=by
 obtain⟨n,c,e,j,k⟩:=bf h.own;obtain⟨g,m,b⟩:=d;rw[b] at e;simp only[JJ] at e;obtain⟨rfl,_,rfl⟩:=e;exact⟨g,m,l,q,by rw[b],j,f,h.sz,k,i,h2,h.rd,h.kb⟩
theorem OSt.front{w2:KH}{d:KI}{x:KC}(h:OSt W wr rb a cap bs q v l)(k:K_ wr w2)(e:w2.ownsRow W.heap.size 9 1 d (1+l.length) ([.string x]++l.map Value.string))(f:x.size<=300):OSt W w2 rb a cap bs q d (x :: l):=by
 refine⟨h.rd.kept k,h.rd0,h.kb.eX k,by rw[JK,Nat.add_comm];exact e,fun y c=>?_⟩;rcases JN.1 c with rfl | c
 ·exact f
 ·exact h.sz y c
theorem OSt.strs(h:OSt W wr rb a cap bs q v l):∃sa c,v= .slice sa l.length c/\l.length<=c/\eD wr 9 sa l:=bf h.own
theorem AP{l:List KC}{i:Nat}(f:i<=26)(h:∀j,j<i->jL j∈l):i<=l.length:=by
 have b:((List.range i).map jL).Nodup:=by
  rw[List.Nodup,List.pairwise_map];refine List.Pairwise.imp_of_mem ?_ List.pairwise_lt_range;intro x y a c k e;have m:=List.mem_range.1 a;have n:=List.mem_range.1 c;have:=BO (by omega) (by omega) e;omega
 have:=List.Nodup.length_le_of_subset b (l₂:=l) (fun x a=>by
  obtain⟨j,d,rfl⟩:=Ju.1 a;exact h j (List.mem_range.1 d))
 simpa using this
end
theorem qH(w:KH)(q:Nat)(a:KG)(v:Nat)(r:List UInt8)(p:Nat)(W:KG)(D:Nat)(L:List Qz)(hR:Rd w q a v r p)(hp:p<=900000)(X:r.length<=2000)(hN:aX w (.slice W L.length D) L)(hL:L.length<=100000)(E:∀d∈L,d.name.size<=300):
  Calls prog 94 #[.pointer (some ⟨q,0,none⟩),.agg #[.slice W L.length D]] w fun e w'=>vS w w' q a v r p e:=by
 obtain⟨F,a1⟩:=ah (w.alloc (.cells #[.slice W L.length D] 25));have kB:K_ w F:=by rw[a1];exact ag _ _
 have b0:F.cell? ⟨w.heap.size,0,none⟩=some (.slice W L.length D):=by rw[a1];exact X_ w _ _ 0 _ rfl
 have a9:w.heap.size<F.heap.size:=by rw[a1];simp
 have f:=Kz (OSt.made hR (hR.kept kB) (.aC kB));have h:K_ F (F.alloc (.cells #[] 9)):=ag _ _;have c0:(F.alloc (.cells #[] 9)).cell? ⟨w.heap.size,0,none⟩=some (.slice W L.length D):=(h.cell a9).trans b0;have b1:=Kz (hN.nodes.kept (kB.trans h));go_enter func94,ntmps94
 have b8:w.heap.size<(F.alloc (.cells #[] 9)).heap.size:=I_ a9 h.size;rw[a1] at c0 f b1 b8;rw[JG] at f;clear h kB b0 a9 hN a1 F;go_upto_if 13 with fail
 have b9:vT (.slice (some ⟨w.heap.size+1,0,none⟩) 0 0) 0:=⟨_,_,rfl⟩;go_cut [5] from 13 to 25 (fun s5 wx=>∃l:List KC,OSt w wx q a v r p s5 l/\vT s5 l.length/\l.length<=1)
 case first=>
  by_cases f2:0<L.length
  ·have hk:L.length-1<L.length:=by omega
   obtain⟨nb,no,cs,e1,f3,b2,c1⟩:=b1.out (L.length-1) hk;obtain⟨x,M⟩:=ah ((L.getD (L.length-1) Qz.zero).name);have d6:x.size<=300:=by
    rw[M];simp only[List.getD,Jd hk,Kl];exact E _ (Ji hk)
   obtain⟨b3,hm⟩:=ah (L.length-1);rw[<-hm] at b2 M c1;obtain⟨sa,sc,e2,_⟩:=c1;have f4:((w.alloc (.cells #[.slice W L.length D] 25)).alloc (.cells #[] 9)).cell? ⟨nb,no+b3*3,none⟩=some (.string x):=by
    have:=b2 0 (.string x) (by rw[e2,M];rfl);simpa using this
   have c2:(L.length:Int)-1= (b3:Int):=by omega
   have f5:(b3:Int)<(L.length:Int):=by omega
   subst e1;have K1:K_ ((w.alloc (.cells #[.slice (some ⟨nb,no,none⟩) L.length D] 25)).alloc (.cells #[] 9)) (((w.alloc (.cells #[.slice (some ⟨nb,no,none⟩) L.length D] 25)).alloc (.cells #[] 9)).alloc (.cells #[.string x] 9)):=ag _ _;have G:=Kz K1;have H:=Kz (f.o.kept K1).own;have N:=(f.o.kept K1).kb.size;obtain⟨O,P,Q,R,S⟩:=aM Tryz.d_;clear M hm b2 e2 hk K1;go_wp2_with (at_builtin;refine wpList_append_own _ rfl (.tmp 14) (.tmp 24) 26 rfl w.heap.size 9 O _ 1 16 underlying26 P Q R S rfl (by decide) (.slice (some ⟨w.heap.size+1,0,none⟩) 0 0) 0 [] rfl H.o ⟨w.heap.size+2,0,none⟩ 1 1 [.string x] rfl rfl (by simpa using iB ((w.alloc (.cells #[.slice (some ⟨nb,no,none⟩) L.length D] 25)).alloc (.cells #[] 9)) x) (ib x) (by unfold maxLen;omega) (by omega) N ?_;intro v' w2 k y _;have T:=Kz (f.o.push G.o k y d6);have U:=pQ k (by omega);clear k y)
   go_meet
   exact⟨[x],T.o,U,IZ _⟩
  ·go_wp2
   go_meet
   exact⟨[],f.o,b9,Ja _⟩
 case rest=>
  obtain⟨l0,I,J,hl⟩:=hcut;have⟨b4,c3⟩:=aD I J;clear I J f b9 b1 c0 b8;go_wp2_with fail
  refine (aI _ q a v r p _ 4 rfl b4.o.rd (by omega) (by omega) X).mono ?_;rintro e w2 ⟨a5,rfl,hn,c4,c5⟩;have c6:=Kz (b4.o.drawn c4 c5);clear c4 c5 b4;go_wp2
  go_loopg [5,6] a5 (fun g x5 x6 wr=>∃(p':Nat) (l:List KC),x6= .int .i64 (g:Int)/\g<=a5/\p<=p'/\p'+2*g<=p+1+2*a5/\l.length+g<=1+a5/\OSt w wr q a v r p' x5 l/\vT x5 l.length)
  case atStart=>exact⟨p+1,l0,rfl,IZ _,by omega,by omega,by omega,c6.o,c3.o⟩
  case round=>
   clear c6 c3 hl;obtain⟨C,l,rfl,hg,f6,d7,d8,I,J⟩:=hrel;have⟨f,Y⟩:=aD I J;obtain⟨ob,oc,rfl⟩:=J;clear I;by_cases f7:(0:Int)<(gk:Int)
   ·go_wp2_with fail
    refine (aI _ q a v r C _ 12 rfl f.o.rd (by omega) (by omega) X).mono ?_;rintro e w3 ⟨A,rfl,d9,a2,a3⟩;have B:=Kz (f.o.drawn a2 a3);clear a2 a3 f;go_wp2_with fail
    refine (iW _ A _ rfl (by omega)).mono ?_;rintro e w4 ⟨x0,rfl,f8,k4⟩;have s:=Kz (B.o.kept k4);clear k4 B;go_wp2_with fail
    refine (aI _ q a v r (C+1) _ 10 rfl s.o.rd (by omega) (by omega) X).mono ?_;rintro e w5 ⟨q5,rfl,f9,c7,c8⟩;have K:=Kz (s.o.drawn c7 c8);clear c7 c8 s;go_upto_if 37 with fail
    go_cut [7] from 37 to 38 (fun s7 wx=>∃x:KC,s7= .string x/\x.size<=300/\wx=w5)
    case first=>
     by_cases h5:q5=0
     ·have c2:((q5:Int) == 0)=true:=by simp[h5]
      clear h5;go_wp2
      go_meet
      exact⟨_,rfl,by decide,rfl⟩
     ·have c2:((q5:Int) == 0)=false:=by simpa using h5
      clear h5;go_wp2
      go_meet
      exact⟨_,rfl,by omega,rfl⟩
    case rest=>
     obtain⟨x,rfl,M,rfl⟩:=hcut;have a6:Hid (Strs wc (some ⟨ob,0,none⟩) l):=by
      obtain⟨sa,c,e,_,E⟩:=K.o.strs;simp only[JJ] at e;obtain⟨rfl,_,_⟩:=e;exact E.strs
     go_wp2_with fail
     refine (jA _ (some ⟨ob,0,none⟩) oc l x (by omega) a6.o).mono ?_;rintro e t ⟨b5,rfl⟩;rcases b5.cases with⟨rfl,_⟩|⟨rfl,_⟩
     ·go_wp2
      go_roundg (gk-1)
      case measure=>omega
      case rel=>exact⟨C+2,l,by go_num,by omega,by omega,by omega,by omega,K.o,Y.o⟩
     ·obtain⟨O,P,Q,R,S⟩:=aM Tryz.d_;have h:K_ t (t.alloc (.cells #[.string x] 9)):=ag _ _;have G:=Kz h;have H:Hid ((t.alloc (.cells #[.string x] 9)).ownsRow t.heap.size 9 1 (.slice (some ⟨t.heap.size,0,none⟩) 1 1) 1 ([x].map Value.string)):=World.ownsRow_lit t #[.string x] 1 (IZ _) (by decide) rfl;have e0:Hid (∀j u,(l.map Value.string)[j]? =some u->(t.alloc (.cells #[.string x] 9)).cell? ((⟨ob,0,none⟩:Addr).add j)=some u):=fun j u hu=>by
       have Z:j<l.length:=by have:=(Je.1 hu).1;simpa using this
       obtain⟨b,o,e,hb,V⟩:=(a6.o.kept G.o) j Z;simp only[JI] at e;rw[e,JL,V];simp[Z] at hu;simp[List.getD,Z,hu]
      have e3:Hid (∀u∈l.map Value.string,u.oneCell'=true):=fun u hu=>by obtain⟨c9,_,rfl⟩:=Ju.1 hu;rfl
      have N:t.heap.size<=(t.alloc (.cells #[.string x] 9)).heap.size:=h.size;have e4:=Kz K.o.kb.size;clear h;go_wp2_with (at_builtin;refine wpList_append_own _ rfl (.tmp 43) (.tmp 44) 26 rfl t.heap.size 9 O _ 1 16 underlying26 P Q R S rfl (by decide) (.slice (some ⟨t.heap.size,0,none⟩) 1 1) 1 ([x].map Value.string) rfl H.o ⟨ob,0,none⟩ l.length oc (l.map Value.string) rfl (by simp) e0.o e3.o (by unfold maxLen;omega) (by omega) N ?_;intro v' n k y _;have T:=Kz (K.o.front (aF G.o (IZ _) H.o y) (bJ k e4.o) M);have U:=pQ k (by omega);clear k y)
      go_roundg (gk-1)
      case measure=>omega
      case rel=>exact⟨C+2,x :: l,by go_num,by omega,by omega,by omega,by rw[JK];omega,T.o,by rw[JK,Nat.add_comm];exact U⟩
   ·have e5:l.length<=5:=by omega
    have g0:C<=p+7:=by omega
    clear d8 d7;go_wp2_with fail
    refine (aI _ q a v r C _ 50 rfl f.o.rd (by omega) (by omega) X).mono ?_;rintro e w3 ⟨A,rfl,d9,a2,a3⟩;have B:=Kz (f.o.drawn a2 a3);clear a2 a3 f;by_cases h0:A=0
    ·have e6:((A:Int) == 0)=true:=by simp[h0]
     obtain⟨p0,d0⟩:=B.o.rd0;have HE:=Kz (OSt.made d0 B.o.rd B.o.kb);clear d0;clear h0;go_wp2
     go_ret
     exact OSt.Kj HE.o ⟨_,_,rfl⟩ (by simp) (by omega) (by omega)
    have e6:((A:Int) == 0)=false:=by simpa using h0
    clear h0;by_cases h1:A=1
    ·have e1:((A:Int) == 1)=true:=by simp[h1]
     clear h1;have K3:K_ w3 (w3.alloc (.cells #[.string ⟨#[]⟩,.string ⟨#[45]⟩,.string ⟨#[103,111,110,101]⟩] 9)):=ag _ _;have s:=Kz (B.o.kept K3);clear K3;go_wp2_with fail
     refine (aI _ q a v r (C+1) _ 3 rfl s.o.rd (by omega) (by omega) X).mono ?_;rintro e n ⟨b6,rfl,hq,d1,a7⟩;have K:=Kz (s.o.drawn d1 a7);obtain⟨c,V,e7⟩:=pg [⟨#[]⟩,⟨#[45]⟩,⟨#[103,111,110,101]⟩] a7 B.o.rd.row.lt b6 (by show b6<3;omega) (by
      intro c V;simp only[JN,JO,or_false] at V;rcases V with rfl | rfl | rfl <;> decide)
     have lz:w3.heap.size<n.heap.size:=I_ (by simp) a7.size;have g1:(b6:Int)<3:=by omega
     have h:K_ n (n.alloc (.cells #[.string c] 9)):=ag _ _;have G:=Kz h;have H:=Kz (K.o.kept h).own;have N:w.heap.size<=(n.alloc (.cells #[.string c] 9)).heap.size:=(K.o.kept h).kb.size;obtain⟨O,P,Q,R,S⟩:=aM Tryz.d_;clear d1 a7 s h;go_wp2_with (at_builtin;refine wpList_append_own _ rfl (.tmp 53) (.tmp 59) 26 rfl w.heap.size 9 O _ 1 16 underlying26 P Q R S rfl (by decide) (.slice (some ⟨ob,0,none⟩) l.length oc) l.length (l.map Value.string) rfl H.o ⟨n.heap.size,0,none⟩ 1 1 [.string c] rfl rfl (iB n c) (ib c) (by unfold maxLen;omega) (by omega) N ?_;intro v' w8 k y _;have T:=Kz (K.o.push G.o k y e7);have U:=pQ k (by omega);clear k y)
     go_ret
     exact OSt.Kj T.o (by rw[JH];exact U) (by rw[JH];simp;omega) (by omega) (by omega)
    have e1:((A:Int) == 1)=false:=by simp;omega
    clear h1;by_cases h2:A=2
    ·have e2:((A:Int) == 2)=true:=by simp[h2]
     clear h2;go_wp2
     go_loopg [5,8] 11 (fun g x5 x8 wr=>∃(i:Nat) (l:List KC),x8= .int .i64 (i:Int)/\i+g=11/\l.length<=11/\Hid (∀j,j<i->jL j∈l)/\OSt w wr q a v r (C+1) x5 l/\vT x5 l.length)
     case atStart=>exact⟨0,l,rfl,rfl,by omega,Kz (fun j Z=>by omega),B.o,Y.o⟩
     case round=>
      clear B Y e5;obtain⟨i,m,rfl,hi,e8,HJ,I,J⟩:=hrel;have⟨f,Y⟩:=aD I J;obtain⟨pb,pc,rfl⟩:=J;have g2:i<=m.length:=AP (by omega) HJ.o;clear I;by_cases d2:(m.length:Int)<11
      ·go_wp2_with fail
       refine (tK _ i (by omega)).mono ?_;rintro e w4 ⟨x,rfl,M,a4,k4⟩;have s:=Kz (f.o.kept k4);have HX:=Kz (a4 (by omega));clear k4 a4;have a6:Hid (Strs w4 (some ⟨pb,0,none⟩) m):=by
        obtain⟨sa,c,e,_,E⟩:=s.o.strs;simp only[JJ] at e;obtain⟨rfl,_,_⟩:=e;exact E.strs
       go_wp2_with fail
       refine (jA _ (some ⟨pb,0,none⟩) pc m x (by omega) a6.o).mono ?_;rintro e t ⟨b5,rfl⟩;rcases b5.cases with⟨rfl,a0⟩|⟨rfl,a0⟩
       ·have e9:Hid (∀j,j<i+1->jL j∈m):=fun j Z=>by
         by_cases e:j=i
         ·rw[e,<-HX.o];exact a0
         ·exact HJ.o j (by omega)
        clear a0;go_wp2
        go_roundg (gk-1)
        case measure=>omega
        case rel=>exact⟨i+1,m,by go_num,by omega,e8,e9,s.o,Y.o⟩
       ·clear a0;go_wp2_with fail
        refine (tK _ i (by omega)).mono ?_;rintro e n ⟨x2,rfl,g3,a4,k7⟩;have f0:=Kz (a4 (by omega));have b7:=Kz (s.o.kept k7);have h:K_ n (n.alloc (.cells #[.string x2] 9)):=ag _ _;have G:=Kz h;have H:=Kz (b7.o.kept h).own;have N:w.heap.size<=(n.alloc (.cells #[.string x2] 9)).heap.size:=(b7.o.kept h).kb.size;obtain⟨O,P,Q,R,S⟩:=aM Tryz.d_;clear k7 h a4 s;go_wp2_with (at_builtin;refine wpList_append_own _ rfl (.tmp 73) (.tmp 76) 26 rfl w.heap.size 9 O _ 1 16 underlying26 P Q R S rfl (by decide) (.slice (some ⟨pb,0,none⟩) m.length pc) m.length (m.map Value.string) rfl H.o ⟨n.heap.size,0,none⟩ 1 1 [.string x2] rfl rfl (iB n x2) (ib x2) (by unfold maxLen;omega) (by omega) N ?_;intro v' w8 k y _;have T:=Kz (b7.o.push G.o k y (by omega));have U:=pQ k (by omega);clear k y)
        go_roundg (gk-1)
        case measure=>omega
        case rel=>exact⟨i+1,m++ [x2],by go_num,by omega,by rw[JH];simp;omega,Kz (fun j Z=>by
         by_cases e:j=i
         ·rw[e,<-f0.o];simp
         ·exact List.mem_append_left _ (HJ.o j (by omega))),T.o,by rw[JH];exact U⟩
      ·have d3:m.length=11:=by omega
       have HL:=Kz d3;have g4:11<=pc:=by
        obtain⟨sa,c,e,V,E⟩:=f.o.strs;simp only[JJ] at e;obtain⟨_,_,rfl⟩:=e;omega
       have g5:¬(m.length:Int)<11:=d2;clear d3 d2;go_wp2_with fail
       refine (aI _ q a v r (C+1) _ 2 rfl f.o.rd (by omega) (by omega) X).mono ?_;rintro e w8 ⟨q8,rfl,g6,d4,d5⟩;have a8:=Kz (f.o.drawn d4 d5);have g7:(10:Int)+ (q8:Int)<=(pc:Int):=by omega
       clear d4 d5 f;go_wp2
       go_ret
       obtain⟨sa,c,e,V,E⟩:=a8.o.strs;simp only[JJ] at e;obtain⟨rfl,_,rfl⟩:=e;have f1:(m.take (10+q8)).length=10+q8:=by rw[Jt,HL.o];omega
       exact⟨pb,pc,m.take (10+q8),C+2,by rw[f1];congr 2 <;> omega,by omega,by omega,fun c9 a0=>a8.o.sz c9 (List.mem_of_mem_take a0),E.take _,by omega,by omega,a8.o.rd,a8.o.kb⟩
    have e2:((A:Int) == 2)=false:=by simp;omega
    clear h2;go_wp2
    go_ret
    exact OSt.Kj B.o Y.o (by omega) (by omega) (by omega)
def NoS(w:KH)(g:Nat):Prop:=∀o s,w.cell? ⟨g,o,none⟩≠some (.string s)
variable {w : KH}
theorem xH{g:Nat}{t:TypeId}{x y:KI}(b:au w g t 2)(c:w.cell? ⟨g,0,none⟩=some x)(d:w.cell? ⟨g,1,none⟩=some y)(f:∀s,x≠ .string s)(h:∀s,y≠ .string s):NoS w g:=by
 intro o s e;obtain⟨i,j,k⟩:=b;have a:w.cell? ⟨g,o,none⟩=i[o]? :=by simp[World.cell?,j]
 match o,e,a with
 | 0,e,_=>exact f s (by rw[c] at e;exact JR e)
 | 1,e,_=>exact h s (by rw[d] at e;exact JR e)
 | o+2,e,a=>rw[a,Array.getElem?_eq_none (by omega)] at e;cases e
theorem Rd.noS{b:Nat}{a:KG}{c:Nat}{d:List UInt8}{p:Nat}(h:Rd w b a c d p):NoS w b:=xH h.row h.c0 h.c1 (fun _ e=>by cases e) (fun _ e=>by cases e)
section
variable {w w' : KH} {g : Nat}
theorem Strs.noS{a:KG}{l:List KC}(h:Strs w a l)(f:NoS w g)(k:Xj g (g+1) w w'):Strs w' a l:=by
 intro i j;obtain⟨b,o,e,c,d⟩:=h i j;have m:b≠g:=fun e=>f _ _ (by rw[<-e];exact d)
 exact⟨b,o,e,I_ c k.size,by rw[k.cell c (by omega)];exact d⟩
theorem bK.noS{a:KG}{l:List Q_}(h:bK w a l)(c:NoS w g)(k:Xj g (g+1) w w'):bK w' a l:=by
 intro i j;obtain⟨b,o,m,n,e,d,f,p,q⟩:=h i j;have t:b≠g:=fun e=>c _ _ (by rw[<-e];exact f 0 _ rfl)
 exact⟨b,o,m,n,e,I_ d k.size,fun r u s=>by rw[k.cell d (by omega)];exact f r u s,p.noS c k,q⟩
end
def StZ(Kq:List Qz)(w:KH)(v1 v2:KI):Prop:=
 (v1= .slice none 0 0/\v2= .slice none 0 0)\/∃Kj sl b o rc d dc,v1= .slice (some ⟨b,o,none⟩) (List.length Kj) rc/\v2= .slice d (List.length sl) dc/\bu Kq 0/\fV Kj/\fM Kq sl/\Strs w (some ⟨b,o,none⟩) Kj/\bK w d sl
variable {Kq : List Qz}
theorem StZ.noS{w':KH}{g:Nat}{v1 v2:KI}(h:StZ Kq w v1 v2)(a:NoS w g)(k:Xj g (g+1) w w'):StZ Kq w' v1 v2:=by
 rcases h with h|⟨Kj,b,c,o,d,e,f,i,j,l,m,n,p,q⟩
 ·exact .inl h
 ·exact .inr ⟨Kj,b,c,o,d,e,f,i,j,l,m,n,p.noS a k,q.noS a k⟩
theorem StZ.kept{w':KH}{v1 v2:KI}(h:StZ Kq w v1 v2)(k:K_ w w'):StZ Kq w' v1 v2:=by
 rcases h with h|⟨Kj,a,b,o,c,d,e,f,i,j,l,m,n,p⟩
 ·exact .inl h
 ·exact .inr ⟨Kj,a,b,o,c,d,e,f,i,j,l,m,n.kept k,p.kept k⟩
theorem StZ.slices{v1 v2:KI}(h:StZ Kq w v1 v2):∃a n c d m e,v1= .slice a n c/\v2= .slice d m e:=by
 rcases h with⟨b,f⟩|⟨Kj,i,j,o,k,d,l,b,f,_⟩
 ·exact⟨_,_,_,_,_,_,b,f⟩
 ·exact⟨_,_,_,_,_,_,b,f⟩
theorem qF.z{Kj:List KC}{T:List Q_}{w':KH}{e:Ending}(h:qF Kj T w w' e)(i:bu Kq 0)(b:fV Kj)(j:fM Kq T):∃v1 v2,e= .returned (.agg #[v1,v2])/\StZ Kq w' v1 v2/\K_ w w':=by
 obtain⟨v,k,l,m,x,rfl,n,p,q,r⟩:=h;obtain⟨y,A,c,d⟩:=bi n;simp only[JJ,true_and] at c;obtain⟨rfl,rfl⟩:=c;obtain⟨_,B,C,f,s⟩:=aZ.runs p q (K_.refl _);simp only[JJ,true_and] at f;obtain⟨rfl,rfl⟩:=f;obtain⟨t,o,rfl,_,_⟩:=d 0 (by have:=b.1;omega);exact⟨_,_,rfl,.inr ⟨Kj,T,t,o,k,l,m,rfl,rfl,i,b,j,d,s.runs⟩,r⟩
theorem BN{m:Nat}{L:List Qz}(f:m<=1000)(h:∀d∈L,d.TinyN m):gT L:=fun y b s c=>by
 have a:=(h y b).each s c;exact⟨by have:=a.asks;omega,fun x e=>by have:=a.dF x e;omega⟩
theorem xk{m:Nat}{L:List Qz}(a:m<=1000)(h:∀d∈L,d.TinyN m):∀d∈L,d.Fits:=fun d c=>(h d c).fits a
theorem lN(w:KH)(a:KG)(i:Nat)(b:List Qz)(c d j:Nat)(Kj:List KC)(k:b.length<=1048576)(l:∀s∈b,s.Fits)(q:Kj.length<=1048576)(r:∀s∈Kj,s.size<=300)(m:bY w a b)(n:Strs w (some ⟨c,d,none⟩) Kj):
  Calls prog 48 #[.agg #[.slice a b.length i],.slice (some ⟨c,d,none⟩) Kj.length j] w fun e w'=>∃v1 v2,e= .returned (.agg #[v1,v2])/\StZ b w' v1 v2/\K_ w w':=by
 have p:∀s∈Kj,s.size<=maxLen:=fun s t=>by have:=r s t;unfold maxLen;omega
 by_cases h:bu b 0/\fV Kj
 ·exact (tL w a i b c d j Kj k l h.1 h.2 p m n).mono fun _ _ f=>f.z h.1 h.2 (kL (dL h.1) Kj)
 ·exact (yO w a i b c d j Kj k l h q p m n).mono fun _ _ f=>⟨_,_,f.1,.inl ⟨rfl,rfl⟩,f.2⟩
theorem sW(w:KH)(c:Array KI)(t:TypeId)(h:∀v∈c.toList,∀s,v≠ .string s):NoS (w.alloc (.cells c t)) w.heap.size:=by
 intro o s e;rw[World.cell?_alloc_mark] at e;have d:c.toList[o]? =some (.string s):=by simpa using e
 exact h _ (Jm d) s rfl
variable {w w' : KH}
theorem NoS.block{g:Nat}(h:NoS w g)(k:w'.heap[g]? =w.heap[g]?):NoS w' g:=fun o s e=>h o s (by rw[<-Jl (w:=w) (w':=w') (a:=⟨g,o,none⟩) k];exact e)
theorem uM{v1 v2:KI}(h:∃a n c d m e,v1=Value.slice a n c/\v2=Value.slice d m e):(∀s,v1≠ .string s)/\∀s,v2≠ .string s:=by
 obtain⟨a,n,c,d,m,e,rfl,rfl⟩:=h;exact⟨fun _ e=>(by cases e),fun _ e=>(by cases e)⟩
variable {n : Nat} {t : TypeId}
theorem fO{g:Nat}(k:Xj g (g+1) w w')(d:au w g t n):ak t w w':=by
 intro c f u h e a;have i:c≠g:=by
  rintro rfl;obtain⟨j,b,_⟩:=d;rw[a] at b;simp only[JI,Obj.cells.injEq] at b;exact e b.2.1
 rw[k.block c (aN a) (by omega)];exact a
theorem qJ{b c m:Nat}{u:TypeId}(h:au w b t n)(k:au w c u m)(e:t≠u):b≠c:=by
 rintro rfl;obtain⟨x,f,_⟩:=h;obtain⟨y,a,_⟩:=k;rw[f] at a;simp only[JI,Obj.cells.injEq] at a;exact e a.2.1
theorem jJ(a d:KG)(n c m e:Nat):(#[Value.slice a n c,Value.slice d m e].all (·.oneCell'))=true:=by simp[Value.oneCell']
theorem Av(a:KG)(n c:Nat):(#[Value.slice a n c].all (·.oneCell'))=true:=by simp[Value.oneCell']
theorem cO{b:Nat}(h:au w b t n):w.there b 0 n:=h.row.there (o:=0) (m:=n) (by omega)
structure DS0 (w wr:KH) (rb wb:Nat) (a:KG) (cap:Nat) (bs:List UInt8) (p:Nat) (na:KG) (nc:Nat) (L:List Qz):Prop where
 rd:Rd wr rb a cap bs p
 rd0:∃p0,Rd w rb a cap bs p0
 kb:Xj rb (rb+1) w wr
 r1:au wr w.heap.size 25 1
 n1:NoS wr w.heap.size
 r2:au wr (w.heap.size+1) 29 2
 n2:NoS wr (w.heap.size+1)
 dJ:au wr wb 25 1
 wc:wr.cell? ⟨wb,0,none⟩=some (.slice na L.length nc)
 wl:w.heap.size+2<=wb
 nd:aX wr (.slice na L.length nc) L
def SZ(w:KH)(sb:Nat):Prop:=au w sb 29 2/\NoS w sb
structure SV (L:List Qz) (wr:KH) (sb:Nat) (v1 v2:KI):Prop where
 row:au wr sb 29 2
 c0:wr.cell? ⟨sb,0,none⟩=some v1
 c1:wr.cell? ⟨sb,1,none⟩=some v2
 st:StZ L wr v1 v2
section
variable {w wr w' : KH} {rb wb sb : Nat} {a : KG} {cap : Nat} {bs : List UInt8} {p p' : Nat} {na : KG} {nc : Nat} {L : List Qz} {v1 v2 : KI}
theorem DS0.rbl(h:DS0 w wr rb wb a cap bs p na nc L):rb<w.heap.size:=let ⟨_,h0⟩:=h.rd0;h0.row.lt
theorem DS0.drawn(h:DS0 w wr rb wb a cap bs p na nc L)(d:Rd w' rb a cap bs p')(k:Xj rb (rb+1) wr w'):DS0 w w' rb wb a cap bs p' na nc L:=by
 have e:=k.sameKind h.rd;have i:=h.rbl;have f:=h.wl;have b:=k.block _ h.r1.lt (by omega);have c:=k.block _ h.r2.lt (by omega);exact⟨d,h.rd0,h.kb.trans k,h.r1.block b,h.n1.block b,h.r2.block c,h.n2.block c,h.dJ.but k (by omega),(k.cell h.dJ.lt (by omega)).trans h.wc,f,h.nd.same e (by decide) (by decide) (by decide) (by decide)⟩
theorem DS0.kept(h:DS0 w wr rb wb a cap bs p na nc L)(k:K_ wr w'):DS0 w w' rb wb a cap bs p na nc L:=h.drawn (h.rd.kept k) (.aC k)
theorem DS0.but(h:DS0 w wr rb wb a cap bs p na nc L)(f:au wr sb t n)(k:Xj sb (sb+1) wr w')(y:w.heap.size+2<=sb)(A:sb≠wb)(i:79≠t)(j:83≠t)(l:9≠t)(m:177≠t):DS0 w w' rb wb a cap bs p na nc L:=by
 have q:=fO k f;have B:=h.rbl;have r:=h.wl;obtain⟨s,b⟩:=h.rd0;have c:Below w.heap.size wr w':=⟨k.os,k.tape,k.output,k.size,fun v x=>k.block v (I_ x h.kb.size) (by omega)⟩;have d:=k.block _ h.r1.lt (by omega);have e:=k.block _ h.r2.lt (by omega);exact⟨h.rd.below b c h.kb.size,⟨s,b⟩,h.kb.below c,h.r1.block d,h.n1.block d,h.r2.block e,h.n2.block e,h.dJ.but k (by omega),(k.cell h.dJ.lt (by omega)).trans h.wc,r,h.nd.same q i j l m⟩
theorem SZ.made(w:KH):SZ (w.alloc (.cells #[.slice none 0 0,.slice none 0 0] 29)) w.heap.size:=
 ⟨au.made w _ _,sW w _ _ (fun v a s e=>by simp at a;rw[a] at e;cases e)⟩
theorem SZ.drawn(h:SZ wr sb)(d:Rd wr rb a cap bs p)(k:Xj rb (rb+1) wr w'):SZ w' sb:=by
 have c:=k.block _ h.1.lt (by have:=qJ h.1 d.row (by decide);omega);exact⟨h.1.block c,h.2.block c⟩
theorem SZ.kept(h:SZ wr sb)(k:K_ wr w'):SZ w' sb:=⟨h.1.kept k,h.2.block (k.block _ h.1.lt)⟩
theorem SV.z(h:SV L wr sb v1 v2):SZ wr sb:=⟨h.row,xH h.row h.c0 h.c1 (uM h.st.slices).1 (uM h.st.slices).2⟩
theorem SV.drawn(h:SV L wr sb v1 v2)(d:Rd wr rb a cap bs p)(k:Xj rb (rb+1) wr w'):SV L w' sb v1 v2:=by
 have c:=k.block _ h.row.lt (by have:=qJ h.row d.row (by decide);omega);exact⟨h.row.block c,(Jl (w:=wr) c).trans h.c0,(Jl (w:=wr) c).trans h.c1,h.st.noS d.noS k⟩
theorem SV.kept(h:SV L wr sb v1 v2)(k:K_ wr w'):SV L w' sb v1 v2:=⟨h.row.kept k,(k.cell h.row.lt).trans h.c0,(k.cell h.row.lt).trans h.c1,h.st.kept k⟩
theorem SZ.put(h:SZ wr sb)(c:StZ L wr v1 v2):SV L (wr.setCells sb 0 [v1,v2]) sb v1 v2:=by
 have b:=Jc wr sb 0 [v1,v2] (cO h.1);exact⟨au.sets _ _ h.1,b 0 _ rfl,b 1 _ rfl,c.noS h.2 (Xj.sets (IZ _) (Jw _) _ 0 (Xj.refl _ _ _))⟩
theorem DS0.put(h:DS0 w wr rb wb a cap bs p na nc L)(c:SZ wr sb)(d:w.heap.size+2<=sb):DS0 w (wr.setCells sb 0 [v1,v2]) rb wb a cap bs p na nc L:=
 h.but c.1 (Xj.sets (IZ _) (Jw _) _ 0 (Xj.refl _ _ _)) d (qJ c.1 h.dJ (by decide)) (by decide) (by decide) (by decide) (by decide)
end
structure mR (N:Nat) (r:Q_):Prop where
 name:r.name.size<=300
 text:r.text.size<=300+N
 texts:r.texts.length<=200+N
 at': -1000-2*(N:Int)<=r.at'/\r.at'<=1000+2*N
 vis: -1000-2*(N:Int)<=r.Zq/\r.Zq<=1000+2*N
variable {N : Nat}
theorem mR.mono{M:Nat}{r:Q_}(h:mR N r)(b:N<=M):mR M r:=by
 have a:=h.name;have c:=h.text;have d:=h.texts;have e:=h.at';have f:=h.vis;exact⟨a,by omega,by omega,by omega,by omega⟩
theorem Ee{a:List Qz}{r:Q_}(b:bV (Kk a))(h:r.Good a):mR 0 r:=by
 obtain⟨A,c,e,f⟩:=h.act;have i:=(b _ _ c).1.2.1.2;have d:=(b _ _ c).2;have j:=h.tl;have k:=h.lo;have l:=h.hi;have m:=h.tx;exact⟨by have:=d.2.1;omega,by omega,by omega,by omega,by omega⟩
structure StU (N:Nat) (w:KH) (ra:KG) (rc:Nat) (d:KG) (Kj:List KC) (sl:List Q_):Prop where
 rn:Kj.length<=10+N
 rl:Kj.length<=rc
 rz:∀s∈Kj,s.size<=300
 ri:N=0->∃g o,ra=some ⟨g,o,none⟩
 rs:Strs w ra Kj
 sn:sl.length<=60+N
 sb:∀r∈sl,mR N r
 rr:bK w d sl
variable {sl : List Q_} {rc : Nat} {d ra : KG}
theorem StU.noS{g:Nat}{Kj:List KC}(h:StU N w ra rc d Kj sl)(b:NoS w g)(k:Xj g (g+1) w w'):StU N w' ra rc d Kj sl:=⟨h.rn,h.rl,h.rz,h.ri,h.rs.noS b k,h.sn,h.sb,h.rr.noS b k⟩
theorem StU.mono{M:Nat}{Kj:List KC}(h:StU N w ra rc d Kj sl)(b:N<=M):StU M w ra rc d Kj sl:=⟨by have:=h.rn;omega,h.rl,h.rz,(fun f=>h.ri (by omega)),h.rs,by have:=h.sn;omega,fun r e=>(h.sb r e).mono b,h.rr⟩
theorem StU.kept{Kj:List KC}(h:StU N w ra rc d Kj sl)(k:K_ w w'):StU N w' ra rc d Kj sl:=⟨h.rn,h.rl,h.rz,h.ri,h.rs.kept k,h.sn,h.sb,h.rr.kept k⟩
def Bp(K M N:Nat)(w w':KH)(rb:Nat)(a:KG)(cap:Nat)(bs:List UInt8)(p t:Nat)(e:Ending):Prop:=
 ∃(na:KG) (nc:Nat) (L:List Qz) (ra:KG) (rc:Nat) (d:KG) (dc:Nat) (Kj:List KC) (sl:List Q_) (p':Nat),e= .returned (.tuple #[.agg #[.slice na L.length nc],.agg #[.slice ra Kj.length rc,.slice d sl.length dc]])/\p<=p'/\p'<=p+t/\L.length<=N/\(∀d∈L,d.TinyN M)/\aX w' (.slice na L.length nc) L/\StU K w' ra rc d Kj sl/\Rd w' rb a cap bs p'/\Xj rb (rb+1) w w'
variable {l0 : List Qz} {bs : List UInt8} {cap p rb wb wn : Nat} {a na wa : KG} {u : KH}
theorem DS0.ends{K M:Nat}{p0 t:Nat}{c:Nat}{L:List Qz}{f:Nat}{Kj:List KC}(h:DS0 w u rb wb a cap bs p wa wn l0)(m:aX u (.slice na L.length c) L)(n:StU K u ra rc d Kj sl)(q:p0<=p)(h2:p<=p0+t)(r:L.length<=N)(s:∀d∈L,d.TinyN M):
  Bp K M N w ((u.setCells w.heap.size 0 [.slice na L.length c]).setCells (w.heap.size+1) 0 [.slice ra Kj.length rc,.slice d sl.length f]) rb a cap bs p0 t (.returned (.tuple #[.agg #[.slice na L.length c],.agg #[.slice ra Kj.length rc,.slice d sl.length f]])):=by
 obtain⟨x,v⟩:=h.rd0;have b:Xj w.heap.size (w.heap.size+1) u (u.setCells w.heap.size 0 [.slice na L.length c]):=Xj.sets (IZ _) (Jw _) _ 0 (Xj.refl _ _ _);have j:=b.block _ h.r2.lt (by omega);have e:Xj (w.heap.size+1) (w.heap.size+1+1) (u.setCells w.heap.size 0 [.slice na L.length c]) ((u.setCells w.heap.size 0 [.slice na L.length c]).setCells (w.heap.size+1) 0 [.slice ra Kj.length rc,.slice d sl.length f]):=Xj.sets (IZ _) (Jw _) _ 0 (Xj.refl _ _ _);have k:Below w.heap.size u ((u.setCells w.heap.size 0 [.slice na L.length c]).setCells (w.heap.size+1) 0 [.slice ra Kj.length rc,.slice d sl.length f]):=
  ⟨e.os.trans b.os,e.tape.trans b.tape,e.output.trans b.output,Jb b.size e.size,fun i l=>(e.block i (I_ (I_ l h.kb.size) b.size) (by omega)).trans (b.block i (I_ l h.kb.size) (by omega))⟩
 exact⟨na,c,L,ra,rc,d,f,Kj,sl,p,rfl,q,h2,r,s,(m.same (fO b h.r1) (by decide) (by decide) (by decide) (by decide)).same (fO e (h.r2.block j)) (by decide) (by decide) (by decide) (by decide),(n.noS h.n1 b).noS (h.n2.block j) e,h.rd.below v k h.kb.size,h.kb.below k⟩
theorem DS0.range(h:DS0 w u rb wb a cap bs p wa wn l0)(v v1 v2:KI):
  au (u.setCells w.heap.size 0 [v]) (w.heap.size+1) 29 2/\((u.setCells w.heap.size 0 [v]).setCells (w.heap.size+1) 0 [v1,v2]).rangeAt w.heap.size 0 [v]/\((u.setCells w.heap.size 0 [v]).setCells (w.heap.size+1) 0 [v1,v2]).rangeAt (w.heap.size+1) 0 [v1,v2]:=by
 have c:Xj w.heap.size (w.heap.size+1) u (u.setCells w.heap.size 0 [v]):=Xj.sets (IZ _) (Jw _) _ 0 (Xj.refl _ _ _);have b:=h.r2.block (c.block _ h.r2.lt (by omega));refine⟨b,fun j x d=>?_,Jc _ (w.heap.size+1) 0 [v1,v2] (cO b)⟩;rw[World.cell?_setCells_out (w.heap.size+1) [v1,v2] 0 _ _ (fun e _=>by have f:w.heap.size=w.heap.size+1:=e;omega)];exact Jc u w.heap.size 0 [v] (cO h.r1) j x d
theorem DS0.w1{c:Oper}{x y:Operand}{b:Act}{K:Act->KH->Prop}{Q:Exit->Act->KH->Prop}{d:Nat}(h:DS0 w u rb wb a cap bs p wa wn l0)(i:c.op= .store 25 x y)(j:b.eval x= .pointer (some ⟨w.heap.size,0,none⟩))(k:b.eval y= .agg #[.slice na n d])(l:K (b.put c.dst undef) (u.setCells w.heap.size 0 [.slice na n d])):c.wp prog b u K Q:=
 wp_store_mid 25 _ _ i w.heap.size 0 #[.slice na n d] j k (cO h.r1) (by kernel_rfl) (Av ..) l
theorem DS0.w2{e:Oper}{x y:Operand}{b:Act}{K:Act->KH->Prop}{Q:Exit->Act->KH->Prop}{f m k c:Nat}(h:DS0 w u rb wb a cap bs p wa wn l0)(l:e.op= .store 29 x y)(q:b.eval x= .pointer (some ⟨w.heap.size+1,0,none⟩))(r:b.eval y= .agg #[.slice ra m rc,.slice d k c])(s:K (b.put e.dst undef) ((u.setCells w.heap.size 0 [.slice na n f]).setCells (w.heap.size+1) 0 [.slice ra m rc,.slice d k c])):e.wp prog b (u.setCells w.heap.size 0 [.slice na n f]) K Q:=
 wp_store_mid 29 _ _ l (w.heap.size+1) 0 #[.slice ra m rc,.slice d k c] q r (cO (h.range (.slice na n f) (.slice ra m rc) (.slice d k c)).1) (by kernel_rfl) (jJ ..) s
theorem DS0.st1(h:DS0 w u rb wb a cap bs p wa wn l0){v x:KI}{g o:Nat}(c:au u g t n)(f:w.heap.size+2<=g)(d:u.cell? ⟨g,o,none⟩=some x):(u.setCells w.heap.size 0 [v]).cell? ⟨g,o,none⟩=some x:=by
 have e:Xj w.heap.size (w.heap.size+1) u (u.setCells w.heap.size 0 [v]):=Xj.sets (IZ _) (Jw _) _ 0 (Xj.refl _ _ _);have:=h.wl;exact (e.cell c.lt (by omega)).trans d
theorem v_(w:KH)(L:List Qz)(v1 v2:KI)(i:StZ L w v1 v2):Calls prog 53 #[.agg #[v1,v2]] w fun e w'=>∃j h d k Kj b,e= .returned (.agg #[.slice j (List.length Kj) h,.slice d (List.length b) k])/\StU 0 w' j h d Kj b/\K_ w w':=by
 rcases i with⟨rfl,rfl⟩|⟨Kj,b,l,o,h,d,k,rfl,rfl,p,a,q,f,y⟩
 ·refine (AU w).mono ?_;rintro e w' ⟨g,A,rfl,m⟩;exact⟨_,A,none,0,[],[],rfl,⟨Ja _,Ja _,fun B f=>(by cases f),(fun _=>⟨g,0,rfl⟩),fun n c=>(by simp at c),Ja _,fun r a=>(by cases a),fun n c=>(by simp at c)⟩,m⟩
 ·have K:=a.1;have M:=a.2.1;have N:=q.len;have O:=kI p;have s:∀r∈b,mR 0 r:=fun r a=>Ee (dL p) (q.good r a)
  refine (xh w l o h Kj d k b (by omega) (by omega) (fun r a=>by have:=(s r a).texts;omega) f y).mono ?_;rintro e w' ⟨j,C,D,E,P,_,rfl,F,G,H,_,_,_,m⟩;obtain⟨Q,R,t,I,v⟩:=bf F;simp only[JJ,true_and] at t;obtain⟨rfl,rfl⟩:=t;obtain⟨_,S,T,x,J⟩:=aZ.runs G H.plain (K_.refl _);simp only[JJ,true_and] at x;obtain⟨rfl,rfl⟩:=x;obtain⟨l,o,rfl,_,_⟩:=v.strs 0 (by omega);exact⟨_,C,D,E,Kj,b,rfl,⟨by omega,I,fun B f=>(by
   obtain⟨n,c,rfl⟩:=Jk f;have i:=(a.2.2 n c).1.2.1;simp only[List.getD,Jd c,Kl] at i;omega),(fun _=>⟨l,o,rfl⟩),v.strs,by omega,s,J.runs⟩,m⟩
structure lU (m:Nat) (w wr:KH) (rb wb:Nat) (a:KG) (cap:Nat) (bs:List UInt8) (p:Nat) (v:KI) (L:List Qz):Prop where
 rd:Rd wr rb a cap bs p
 rd0:∃p0,Rd w rb a cap bs p0
 wbl:w.heap.size<=wb
 kb:Xj rb (rb+1) w wr
 row:au wr wb 25 1
 c0:wr.cell? ⟨wb,0,none⟩=some v
 web:aX wr v L
 tiny:∀d∈L,d.TinyN m
 fr:lC w.heap.size v L
variable {L : List Qz} {bs : List UInt8} {xs : List KI} {cap m p rb wb : Nat} {a : KG} {v : KI} {w wr : KH}
theorem fD.fin(h:fD m w wr rb wb a cap bs p v L xs):lU m w wr rb wb a cap bs p v L:=
 ⟨h.rd,h.rd0,h.wbl,h.kb,h.row,h.c0,h.web,h.tiny,lC.fQ h.own⟩
variable {n : Nat}
theorem lU.mono(h:lU m w wr rb wb a cap bs p v L)(c:m<=n):lU n w wr rb wb a cap bs p v L:=
 ⟨h.rd,h.rd0,h.wbl,h.kb,h.row,h.c0,h.web,(fun d e=>(h.tiny d e).mono c),h.fr⟩
variable {N : Nat} {A0 : KH}
theorem lU.ends{M:Nat}{c:KH}{f t:Nat}{e:Ending}(h:lU M A0 c rb wb a cap bs f v L){d:Nat}(m:au c d 25 1)(n:w.heap.size<=d)(b:K_ w A0){q:Nat}(r:Rd w rb a cap bs q)
 (s:e= .returned (.agg #[v])) (x:p<=f) (h2:f<=p+t) (y:L.length<=N):kM M N w (c.setCell ⟨d,0,none⟩ v) rb a cap bs p t e:=by
 have A:=m.same (o:=0) v;have i:Below w.heap.size c (c.setCell ⟨d,0,none⟩ v):=(Below.refl _ _).setCell (p:=⟨d,0,none⟩) n _;have j:Xj rb (rb+1) w c:=⟨h.kb.os.trans b.os,h.kb.tape.trans b.tape,h.kb.output.trans b.output,Jb b.size h.kb.size,fun k l B=>(h.kb.block k (I_ l b.size) B).trans (b.block k l)⟩;exact⟨v,L,f,s,x,h2,y,h.tiny,h.web.same A (by decide) (by decide) (by decide) (by decide),h.rd.below r i j.size,j.below i,h.fr.mono b.size⟩
variable {c g k : Nat}
theorem aX.put{o:Nat}{d:Qz}{u:KI}{a:List KI}(q:aX w (.slice (some ⟨g,0,none⟩) n c) L)(E:k<L.length)(r:au w g 79 N)(F:k*3<=o/\o+a.length<=k*3+3)
 (s:(w.setCells g o a).rangeAt g (k*3) [.string d.name,.int .i64 d.cost,u]) (t:cB w u d.steps):aX (w.setCells g o a) (.slice (some ⟨g,0,none⟩) n c) (L.set k d):=by
 obtain⟨v,j⟩:=r.setCells a o;obtain⟨G,H,e,x,y,A⟩:=q;simp only[JJ] at e;obtain⟨rfl,rfl,rfl⟩:=e;refine⟨_,c,by rw[Ka],by rw[Ka];exact x,y,fun i f=>?_⟩;rw[Ka] at f;obtain⟨l,m,_⟩:=v;by_cases e:i=k
 ·subst e;have h:(L.set i d).getD i Qz.zero=d:=by simp[List.getD,f]
  rw[h];exact⟨g,0,l,_,u,rfl,m,by rw[JA];exact s,t.same j (by decide) (by decide) (by decide)⟩
 ·have h:(L.set k d).getD i Qz.zero=L.getD i Qz.zero:=by simp[List.getD,Ne.symm e]
  rw[h];obtain⟨b,I,J,K,B,p,M,C,D⟩:=A i f;simp only[JI,Kv,and_true] at p;obtain⟨rfl,rfl⟩:=p;exact⟨g,0,l,_,B,rfl,m,Jo C _ _ _ (by right;simp;omega),D.same j (by decide) (by decide) (by decide)⟩
theorem xS{d:Qz}(a:∀x∈L,x.TinyN m)(b:d.TinyN m):∀x∈L.set k d,x.TinyN m:=fun x c=>by
 rcases List.mem_or_eq_of_mem_set c with h|rfl
 ·exact a x h
 ·exact b
theorem lU.put{o:Nat}{d:Qz}{u:KI}{b:List KI}(h:lU m A0 wr rb wb a cap bs p (.slice (some ⟨g,0,none⟩) n c) L)(l:A0.heap.size<=g)(q:k<L.length)(e:au wr g 79 N)(r:k*3<=o/\o+b.length<=k*3+3)
 (s:(wr.setCells g o b).rangeAt g (k*3) [.string d.name,.int .i64 d.cost,u]) (t:cB wr u d.steps) (v:d.TinyN m):lU m A0 (wr.setCells g o b) rb wb a cap bs p (.slice (some ⟨g,0,none⟩) n c) (L.set k d):=by
 obtain⟨y,w⟩:=h.rd0;have f:Below A0.heap.size wr (wr.setCells g o b):=Below.setCells' l b o (Below.refl _ _);obtain⟨_,x⟩:=e.setCells b o;have i:=h.row.eF x (by decide);exact⟨h.rd.below w f h.kb.size,h.rd0,h.wbl,h.kb.below f,i.1,(i.2 0).trans h.c0,h.web.put q e r s t,xS h.tiny v,fun j=>h.fr (by rw[Ka] at j;exact j)⟩
theorem aX.cells(i:aX w (.slice (some ⟨g,0,none⟩) n c) L)(j:k<L.length):
  ∃a b,w.rangeAt g (k*3) [.string (L.getD k Qz.zero).name,.int .i64 (L.getD k Qz.zero).cost,.slice a (L.getD k Qz.zero).steps.length b]/\cB w (.slice a (L.getD k Qz.zero).steps.length b) (L.getD k Qz.zero).steps:=by
 obtain⟨l,m,e,p,r,q⟩:=i;simp only[JJ] at e;obtain⟨rfl,rfl,rfl⟩:=e;obtain⟨s,t,v,x,y,d,A,f,h⟩:=q k j;simp only[JI,Kv,and_true] at d;obtain⟨rfl,rfl⟩:=d;obtain⟨a,b,rfl⟩:=h.slice;rw[JA] at f;exact⟨a,b,f,h⟩
theorem wN{b q:Nat}(h:w.cell? ⟨b,q,none⟩=some v):w.rangeAt b q [v]:=fun j x a=>by
 match j,a with
 | 0,a=>simp at a;subst a;exact h
 | j+1,a=>simp at a
theorem rP{b q:Nat}{x y z:KI}(d:w.cell? ⟨b,q,none⟩=some x)(e:w.cell? ⟨b,q+1,none⟩=some y)(h2:w.cell? ⟨b,q+2,none⟩=some z):w.rangeAt b q [x,y,z]:=fun j v a=>by
 match j,a with
 | 0,a=>simp at a;subst a;exact d
 | 1,a=>simp at a;subst a;exact e
 | 2,a=>simp at a;subst a;exact h2
 | j+3,a=>simp at a
theorem CK(w:KH)(g o:Nat)(v:KI):w.setCells g o [v]=w.setCell ⟨g,o,none⟩ v:=rfl
theorem lU.CW(h:lU m A0 wr rb wb a cap bs p (.slice (some ⟨g,0,none⟩) n c) L)(j:A0.heap.size<=g)(b:k<L.length)(f:au wr g 79 N)(r:k*3+3<=N){s:KC}(l:s.size<=300):
  lU m A0 (wr.setCell ⟨g,k*3,none⟩ (.string s)) rb wb a cap bs p (.slice (some ⟨g,0,none⟩) n c) (L.set k ⟨s,(L.getD k Qz.zero).cost,(L.getD k Qz.zero).steps⟩):=by
 obtain⟨t,v,i,q⟩:=h.web.cells b;have e:=h.tiny (L.getD k Qz.zero) (by simp[List.getD,b]);rw[<-CK];refine h.put (d:=⟨s,(L.getD k Qz.zero).cost,(L.getD k Qz.zero).steps⟩) j b f ⟨IZ _,by simp⟩ ?_ q ⟨l,e.cost,e.steps,e.each⟩;rw[CK];exact rP (aS f.row (by omega) _) ((Xk (by omega) _).trans (i 1 _ rfl)) ((Xk (by omega) _).trans (i 2 _ rfl))
theorem lU.Eo(h:lU m A0 wr rb wb a cap bs p (.slice (some ⟨g,0,none⟩) n c) L)(j:A0.heap.size<=g)(e:k<L.length)(f:au wr g 79 N)(A:k*3+3<=N){cost:Int}{u:KI}{b:List Xq}(l:cB wr u b)(r: -1000<=cost/\cost<=1000)(t:b.length<=21)(w:∀s∈b,s.TinyN m):
  lU m A0 (wr.setCells g (k*3+1) [.int .i64 cost,u]) rb wb a cap bs p (.slice (some ⟨g,0,none⟩) n c) (L.set k ⟨(L.getD k Qz.zero).name,cost,b⟩):=by
 obtain⟨B,C,x,_⟩:=h.web.cells e;have y:=h.tiny (L.getD k Qz.zero) (by simp[List.getD,e]);refine h.put (d:=⟨(L.getD k Qz.zero).name,cost,b⟩) j e f ⟨by omega,by simp⟩ ?_ l ⟨y.name,r,t,w⟩;have i:=Jc wr g (k*3+1) [.int .i64 cost,u] (f.row.there (by simp;omega));exact rP (Jo (wN (q:=k*3) (v:= .string (L.getD k Qz.zero).name) (by have:=x 0 _ rfl;rwa [JM] at this)) _ _ _ (by right;simp only[JK,List.length_nil];omega) 0 _ rfl) (i 0 _ rfl) (i 1 _ rfl)
theorem lU.setNode(h:lU m A0 wr rb wb a cap bs p (.slice (some ⟨g,0,none⟩) n c) L)(e:A0.heap.size<=g)(f:k<L.length)(b:au wr g 79 N)(l:k*3+3<=N){d:Qz}{u:KI}(i:cB wr u d.steps)(j:d.TinyN m):
  lU m A0 (wr.setCells g (k*3) [.string d.name,.int .i64 d.cost,u]) rb wb a cap bs p (.slice (some ⟨g,0,none⟩) n c) (L.set k d):=
 h.put e f b ⟨IZ _,by simp⟩ (Jc wr g (k*3) _ (b.row.there (by simp;omega))) i j
theorem fD.GH(h:fD m w wr rb wb a cap bs p v L xs)(k:0<L.length):∃g c,v= .slice (some ⟨g,0,none⟩) L.length c/\w.heap.size<=g/\au wr g 79 (c*3)/\L.length<=c:=by
 rcases h.own.2 with⟨_,e⟩|⟨g,c,b,e,d,f,i,_,j,_⟩
 ·omega
 ·exact⟨g,c,e,d,⟨b,f,j⟩,i⟩
def GD(M N:Nat)(A0 wx:KH)(rb wb res:Nat)(a:KG)(cap:Nat)(bs:List UInt8)(p t:Nat):Prop:=
 ∃(va:KG) (vc:Nat) (L:List Qz) (p':Nat),p<=p'/\p'<=p+t/\L.length<=N/\au wx res 25 1/\lU M A0 wx rb wb a cap bs p' (.slice va L.length vc) L
theorem De{P:Program}(w:KH)(t u v:TypeId)(c:P.underlying t=some (.slice u))(d:P.underlying u=some (.int .u8))(e:P.underlying v=some .string)(x y:Int):
  (convert t v (.slice (some ⟨w.heap.size,0,none⟩) 2 2)).run P (w.alloc (.cells #[.int .u8 x,.int .u8 y] u))= .ok (.string (strOfNums [x,y])) (w.alloc (.cells #[.int .u8 x,.int .u8 y] u)):=
 run_convert_bytes_arg (P:=P) _ t u c d w.heap.size 0 2 2 [x,y] rfl (fun i a=>by
  match i,a with
  | 0,_=>rw[World.cell?_alloc_mark];rfl
  | 1,_=>rw[World.cell?_alloc_mark];rfl
  | i+2,a=>exact Ki a (by omega)) v e
theorem xB(w:KH):cB (w.alloc (.cells #[.slice none 0 0,.int .i64 0,.slice none 0 0,.int .i64 0,.int .i64 0,.bool true,.bool false,.string ⟨#[]⟩] 83)) (.slice (some ⟨w.heap.size,0,none⟩) 1 1) [bL ⟨#[]⟩]:=by
 have a:=X_ w #[.slice none 0 0,.int .i64 0,.slice none 0 0,.int .i64 0,.int .i64 0,.bool true,.bool false,.string ⟨#[]⟩] 83;refine⟨_,1,rfl,IZ _,fun i c=>?_⟩;obtain rfl:i=0:=by simpa using c
 exact⟨w.heap.size,0,_,_,(bL ⟨#[]⟩).cells none 0 none 0,rfl,heap_alloc_new w _,a,(qG _ _).g,nA _⟩
theorem Gv(x:Int)(a:KG)(n c:Nat):(#[.int .i64 x,.slice a n c]:Array KI).all (·.oneCell')=true:=by simp[Value.oneCell']
theorem Co(s:KC)(x:Int)(a:KG)(n c:Nat):(#[.string s,.int .i64 x,.slice a n c]:Array KI).all (·.oneCell')=true:=by simp[Value.oneCell']
theorem Bn(mN:Nat)(k7:mN<=900)(w:KH)(D:Nat)(a:KG)(H:Nat)(E:List UInt8)(p:Nat)(a5:KG)(a6:Nat)(l:List Qz)(hR:Rd w D a H E p)(hp:p<=700000)(a7:E.length<=2000)(hl:l.length<=200)(h4:∀d∈l,d.TinyN mN)(hG:aX w (.slice a5 l.length a6) l):
  Calls prog 56 #[.pointer (some ⟨D,0,none⟩),.agg #[.slice a5 l.length a6]] w fun e w'=>kM (mN+10) (l.length+62) w w' D a H E p 20 e:=by
 obtain⟨W,b5⟩:=ah ((w.alloc (.cells #[.slice a5 l.length a6] 25)).alloc (.cells #[.slice none 0 0] 25));have k0:K_ w W:=by rw[b5];exact (ag _ _).alloc _
 have h5:W.heap.size=w.heap.size+2:=by rw[b5];simp
 have h6:Hid (au W (w.heap.size+1) 25 1):=by
  rw[b5];have:=au.made (w.alloc (.cells #[.slice a5 l.length a6] 25)) #[.slice none 0 0] 25;rw[JG] at this;exact this
 have p6:=hR.row.lt;have h7:=Kz hR;have h8:=Kz (hR.kept k0);have k8:=Kz (hG.kept k0);clear hR hG;go_enter func56,ntmps56
 go_upto_region 1 with fail
 rw[<-b5];have k9:=Kz h5;have l0:W.cell? ⟨w.heap.size,0,none⟩=some (.slice a5 l.length a6):=by
  rw[b5,K_.cell (w:=w.alloc (.cells #[.slice a5 l.length a6] 25)) (ag _ _) (by simp)];exact X_ w _ _ 0 _ rfl
 have bz:w.heap.size<W.heap.size:=by omega
 clear b5 h5;go_wp2_with fail
 refine (pM _ a5 a6 l ⟨#[]⟩ (mN:=mN) (by omega) (by omega) h4 k8.o.FQ).mono ?_;rintro e w1 ⟨av,q,xs,base,rfl,h9,hO,hP,k1⟩;obtain⟨L,hL⟩:=ah (l.filter (bM (⟨#[]⟩:KC).toList));rw[<-hL] at hO hP⊢;have p7:L.length<=200:=by rw[hL];exact Jb (List.length_filter_le _ _) hl
 have p8:L.length<=l.length:=by rw[hL];exact List.length_filter_le _ _
 have i0:∀d∈L,d.TinyN mN:=fun d r=>h4 d (by rw[hL] at r;exact (List.mem_filter.1 r).1)
 have kw:K_ w1 (w1.alloc (.cells #[.slice av L.length q] 25)):=ag _ _;have a2:Hid (fD mN W (w1.alloc (.cells #[.slice av L.length q] 25)) D w1.heap.size a H E p (.slice av L.length q) L xs):=
  ⟨(h8.o.kept k1).kept kw,⟨p,h8.o⟩,k1.size,.aC (k1.trans kw),au.made w1 _ _,X_ w1 _ _ 0 _ rfl,bJ (aj hO kw) h9,hP.same (u:=25) (.aC kw) (by decide) (by decide) (by decide),i0⟩
 have a8:=Kz ((h6.o.kept k1).kept kw);have i1:w.heap.size+1≠w1.heap.size:=by have:=(h6.o.kept k1).lt;omega
 clear hL hO hP i0 k1 kw l0 bz h9;go_upto_region 2 with fail
 obtain⟨w2,i2⟩:=ah (w1.alloc (.cells #[.slice av L.length q] 25));rw[<-i2] at a2 a8⊢;clear i2;have y0:=a2.o.c0;have zb:=a2.o.row.lt;by_cases d0:L.length=0
 ·have i3:((L.length:Int) == 0)=true:=by simp[d0]
  clear d0;obtain⟨⟨_,x0⟩,l1⟩:=a8.o.row.at (i:=0) (by omega);have xz:=a8.o.lt;go_wp2
  have hR:=Jc w2 (w.heap.size+1) 0 [.slice av L.length q] (a8.o.row.there (o:=0) (m:=1) (IZ _));exact Zx [.slice av L.length q] _ results56 rfl hR underlying25 rfl Tryz.fC rfl ((a2.o.fin.mono (n:=mN+10) (by omega)).ends a8.o (by omega) k0 h7.o rfl (IZ _) (by omega) (by omega))
 have i3:((L.length:Int) == 0)=false:=by simpa using d0
 have a9:0<L.length:=by omega
 obtain⟨g,gc,N,c3,I,p9⟩:=a2.o.GH a9;simp only[JJ,true_and] at N;obtain⟨rfl,rfl⟩:=N;clear d0 I;go_wp2_with fail
 refine (iO _ D a H E p L.length a2.o.rd (by omega) (by omega) a7).mono ?_;rintro e w3 ⟨k,rfl,hk,i4,e7⟩;have e8:=Kz (a2.o.drawn i4 e7);have i5:=Kz (a8.o.but e7 (by omega));have X:k<L.length:=by omega
 clear i4 e7 a2 a8 y0 zb i3;go_wp2_with fail
 refine (aI _ D a H E (p+1) _ 5 rfl e8.o.rd (by omega) (by omega) a7).mono ?_;rintro e i ⟨s,rfl,q0,i6,f1⟩;have j:=Kz (e8.o.drawn i6 f1);have a1:=Kz (i5.o.but f1 (by omega));clear i6 f1 e8 i5;have b0:Hid (au i g 79 (q*3)):=by
  obtain⟨g',c',N,_,I,_⟩:=j.o.GH a9;simp only[JJ,true_and,JI,Kv,and_true] at N;obtain⟨rfl,rfl⟩:=N;exact I
 go_upto_block 0 with fail
 go_cut [7,8,9] from 24 to 115 (fun _ _ _ wx=>GD (mN+10) (l.length+62) W wx D w1.heap.size (w.heap.size+1) a H E p 20)
 case rest=>
  obtain⟨va,vc,F,p',h1,h2,h3,b1,hF⟩:=hcut;obtain⟨wE,rfl⟩:=ah wc;have⟨HF,c4⟩:=aD hF b1;have q2:=hF.c0;have oz:=hF.row.lt;obtain⟨⟨_,x0⟩,l1⟩:=b1.row.at (i:=0) (by omega);have xz:=b1.lt;clear hF b1 j a1 b0;go_wp2
  have hR:=Jc wE (w.heap.size+1) 0 [.slice va F.length vc] (c4.o.row.there (o:=0) (m:=1) (IZ _));exact Zx [.slice va F.length vc] _ results56 rfl hR underlying25 rfl Tryz.fC rfl (HF.o.ends c4.o (by omega) k0 h7.o rfl h1 h2 h3)
 case first=>
  have y4:=j.o.c0;have d1:=j.o.row.lt;have f2:=b0.o.lt;have b6:k*3+3<=q*3:=by omega
  have q3:w.heap.size+1≠g:=by have:=k9.o;omega
  have q4:(k:Int)<(L.length:Int):=by omega
  by_cases Y:s=0
  ·have d2:((s:Int) == 0)=true:=by simp[Y]
   clear Y;go_upto_region 10 with fail
   have t:=Kz (j.o.kept (aG i));have a3:=Kz (a1.o.kept (aG i));refine Qk.region (by kernel_rfl) (fun (v:KH)=>v.cell? ⟨w1.heap.size,0,none⟩=some (.slice (some ⟨g,0,none⟩) L.length q)) 14 t.o.c0 (fun h=>?_);generalize l2:i.drew=wd at h t a3⊢;clear l2 y4 d1 f2 j a1 b0;refine aB 0 h ?_;refine ae 8 h ?_;refine ai 4 (fun K b=>?_);go_simp
   go_at_call 21
   refine (aI _ D a H E (p+2) _ 2 rfl t.o.rd (by omega) (by omega) a7).mono ?_;rintro e B ⟨b2,rfl,hq,O,x⟩;have Z:=Kz (t.o.drawn O x);have b7:=Kz (a3.o.but x (by omega));dsimp only;refine b.out _ _ (fun _=>Z.o.c0) ?_;clear b K h O x t a3;have h:=Z.o.c0;try simp only[Act.put,upA,upB,upC]
   have ew:IntKind.i64.wrap (20+ (b2:Int))=20+ (b2:Int):=by simp[IntKind.wrap,IntKind.bits,IntKind.signed];omega
   refine Qk.take 5 [6,7,9,10,11,12,13,14] (v:= .int .i64 (20+ (b2:Int))) (by (simp only[Kw,JW,JX];rfl)) (by kernel_rfl) (by kernel_rfl) (by kernel_rfl) (by kernel_rfl) (by exact fun _ _ _ Q=>Q) (Or.inl ⟨by rfl, ?_⟩) h ?_
   ·intro u hu;try dsimp only at hu
    go_simp
    try with_reducible rfl
   try simp only[Act.put,upA,upB,upC]
   refine ai 6 (fun K b=>?_);go_simp
   go_at_call 96
   refine (sG _ ⟨#[110]⟩ _ (20+b2) (by push_cast;rfl) (by omega) (by decide)).mono ?_;rintro e w6 ⟨⟨R,rfl,hx⟩,l3⟩;have l4:R.size<=300:=by have e1:(⟨#[110]⟩:KC).size=1:=rfl;rw[e1] at hx;omega
   subst l3;dsimp only;refine b.out _ _ (fun _=>Z.o.c0) ?_;clear b K;try simp only[Act.put,upA,upB,upC]
   have i7:∀c∈([⟨#[]⟩,⟨#[45]⟩,⟨#[97,44,98]⟩,⟨#[97]⟩,R]:List KC),c.size<=300:=by
    intro c hc;simp only[JN,JO,or_false] at hc;rcases hc with rfl | rfl | rfl | rfl | rfl <;> first | exact l4 | decide
   clear ew;refine bG 7 9 (fun K b=>?_) (fun K b=>?_)
   ·rw[Kg (by rfl)];go_simp
    have K3:K_ w6 (w6.alloc (.cells #[.string ⟨#[]⟩,.string ⟨#[45]⟩,.string ⟨#[97,44,98]⟩,.string ⟨#[97]⟩,.string R] 9)):=ag _ _;have b8:=Kz (Z.o.kept K3);have b9:=Kz (b7.o.kept K3);refine b.out _ _ (fun _=>b8.o.c0) ?_;clear b K;try simp only[Act.put,upA,upB,upC]
    clear h K3;refine ai 9 (fun K b=>?_);go_simp
    go_at_call 21
    refine (aI _ D a H E (p+3) _ 5 rfl b8.o.rd (by omega) (by omega) a7).mono ?_;rintro e wE ⟨y,rfl,f3,O,x⟩;have C:=Kz (b8.o.drawn O x);have d3:=Kz (b9.o.but x (by omega));obtain⟨c,hc,f4⟩:=pg [⟨#[]⟩,⟨#[45]⟩,⟨#[97,44,98]⟩,⟨#[97]⟩,R] x Z.o.rd.row.lt y (by show y<5;omega) i7;have lz:w6.heap.size<wE.heap.size:=Nat.lt_of_lt_of_le (by simp) x.size;clear O x;dsimp only;refine b.out _ _ (fun _=>C.o.c0) ?_;clear b K;try simp only[Act.put,upA,upB,upC]
    have l5:(y:Int)<5:=by omega
    refine af 10 (fun K b=>?_);go_simp
    refine b.out _ _ (fun _=>C.o.c0) ?_;clear b K;try simp only[Act.put,upA,upB,upC]
    refine af 11 (fun K b=>?_);go_simp
    refine b.out _ _ (fun _=>C.o.c0) ?_;clear b K;try simp only[Act.put,upA,upB,upC]
    have h:=C.o.c0;refine ae 12 h ?_;refine ae 13 h ?_;have f:au wE g 79 (q*3):=by
     obtain⟨g',c',N,_,I,_⟩:=C.o.GH a9;simp only[JJ,true_and,JI,Kv,and_true] at N;obtain⟨rfl,rfl⟩:=N;exact I
    have zg:=f.lt;obtain⟨⟨_,u0⟩,f0⟩:=f.row.at (i:=k*3) (by omega);have HF:=Kz ((C.o.fin.mono (n:=mN+10) (by omega)).CW c3 X f b6 f4);have b3:=Kz (d3.o.eF (f.same (o:=k*3) (.string c)) (by decide)).1;clear f;refine af 14 (fun K b=>?_);go_simp
    refine b.out _ _ (fun Q=>Ki rfl Q) ?_;clear b K;try simp only[Act.put,upA,upB,upC]
    refine ay ?_;go_wp2
    go_meet
    exact⟨some ⟨g,0,none⟩,q,L.set k ⟨c,(L.getD k Qz.zero).cost,(L.getD k Qz.zero).steps⟩,p+4,by omega,by omega,by rw[Ka];omega,b3.o,by rw[Ka];exact HF.o⟩
   ·rw[Kg (by rfl)];go_simp
    go_at_call 21
    refine (aI _ D a H E (p+3) _ 5 rfl Z.o.rd (by omega) (by omega) a7).mono ?_;rintro e S ⟨y,rfl,f3,O,x⟩;have b8:=Kz (Z.o.drawn O x);have b9:=Kz (b7.o.but x (by omega));clear O x;dsimp only;refine b.out _ _ (fun _=>b8.o.c0) ?_;clear b K h;try simp only[Act.put,upA,upB,upC]
    refine ai 7 (fun K b=>?_);go_simp
    have K3:K_ S (S.alloc (.cells #[.string ⟨#[]⟩,.string ⟨#[45]⟩,.string ⟨#[97,44,98]⟩,.string ⟨#[97]⟩,.string R] 9)):=ag _ _;have C:=Kz (b8.o.kept K3);have d3:=Kz (b9.o.kept K3);obtain⟨c,hc,f4⟩:=pJ S 9 [⟨#[]⟩,⟨#[45]⟩,⟨#[97,44,98]⟩,⟨#[97]⟩,R] y (by show y<5;omega) i7;have lz:S.heap.size<(S.alloc (.cells #[.string ⟨#[]⟩,.string ⟨#[45]⟩,.string ⟨#[97,44,98]⟩,.string ⟨#[97]⟩,.string R] 9)).heap.size:=by simp
    have l6:(S.alloc (.cells #[.string ⟨#[]⟩,.string ⟨#[45]⟩,.string ⟨#[97,44,98]⟩,.string ⟨#[97]⟩,.string R] 9)).cell? ⟨S.heap.size,y,none⟩=some (.string c):=hc;refine b.out _ _ (fun _=>C.o.c0) ?_;clear b K hc K3;generalize l7:S.alloc (.cells #[.string ⟨#[]⟩,.string ⟨#[45]⟩,.string ⟨#[97,44,98]⟩,.string ⟨#[97]⟩,.string R] 9)=wE at C d3 lz l6⊢;clear l7;try simp only[Act.put,upA,upB,upC]
    have l5:(y:Int)<5:=by omega
    refine af 10 (fun K b=>?_);go_simp
    refine b.out _ _ (fun _=>C.o.c0) ?_;clear b K;try simp only[Act.put,upA,upB,upC]
    refine af 11 (fun K b=>?_);go_simp
    refine b.out _ _ (fun _=>C.o.c0) ?_;clear b K;try simp only[Act.put,upA,upB,upC]
    have h:=C.o.c0;refine ae 12 h ?_;refine ae 13 h ?_;have f:au wE g 79 (q*3):=by
     obtain⟨g',c',N,_,I,_⟩:=C.o.GH a9;simp only[JJ,true_and,JI,Kv,and_true] at N;obtain⟨rfl,rfl⟩:=N;exact I
    have zg:=f.lt;obtain⟨⟨_,u0⟩,f0⟩:=f.row.at (i:=k*3) (by omega);have HF:=Kz ((C.o.fin.mono (n:=mN+10) (by omega)).CW c3 X f b6 f4);have b3:=Kz (d3.o.eF (f.same (o:=k*3) (.string c)) (by decide)).1;clear f;refine af 14 (fun K b=>?_);go_simp
    refine b.out _ _ (fun Q=>Ki rfl Q) ?_;clear b K;try simp only[Act.put,upA,upB,upC]
    refine ay ?_;go_wp2
    go_meet
    exact⟨some ⟨g,0,none⟩,q,L.set k ⟨c,(L.getD k Qz.zero).cost,(L.getD k Qz.zero).steps⟩,p+4,by omega,by omega,by rw[Ka];omega,b3.o,by rw[Ka];exact HF.o⟩
  by_cases h1:s=1
  ·have d2:((s:Int) == 0)=false:=by simpa using Y
   have e1:((s:Int) == 1)=true:=by simp[h1]
   clear Y h1;obtain⟨J,T,f,A⟩:=j.o.web.cells X;obtain⟨d,r⟩:=ah (L.getD k Qz.zero);have U:=j.o.tiny d (by rw[r];simp[List.getD,X]);rw[<-r] at f A;have G:=f 1 _ rfl;have n2:=f 2 _ rfl;have c5:=Kz A;have l8:Hid (jE i J d.steps):=by
    obtain⟨q5,l9,e9,_,hS⟩:=A.Ck;simp only[JJ,true_and] at e9;obtain⟨rfl,rfl⟩:=e9;exact hS
   have⟨HD,b4⟩:=aD r U;clear f A r U;go_upto_region 12 with fail
   refine Qk.region (by kernel_rfl) (fun (v:KH)=>v.cell? ⟨w1.heap.size,0,none⟩=some (.slice (some ⟨g,0,none⟩) L.length q)/\v.cell? ⟨g,k*3+1,none⟩=some (.int .i64 d.cost)/\v.cell? ⟨g,k*3+2,none⟩=some (.slice J d.steps.length T)) 13 ⟨y4,G,n2⟩ (fun h=>?_);refine aB 0 h ?_;refine aB 4 h ?_;refine ae 8 h ?_;refine ae 9 h ?_;refine ai 10 (fun K b=>?_);go_simp
   go_at_call 97
   refine (Db mN k7 _ D a H E (p+2) d.cost J T d.steps ((j.o.kept (aG i)).rd) (by omega) a7 b4.o.steps b4.o.cost b4.o.each (l8.o.kept (aG i))).mono ?_;rintro e w6 ⟨cost,u,LS,m0,rfl,q6,q7,m1,m2,m3,i8,i9,d4⟩;have Z:=Kz ((j.o.kept (aG i)).drawn i9 d4);have b7:=Kz ((a1.o.kept (aG i)).but d4 (by omega));have j0:=Kz i8.g;obtain⟨ua,uc,rfl⟩:=j0.o.slice;have c6:=d4.sameKind (j.o.kept (aG i)).rd;have f:=b0.o.kept (aG i);have d5:=f.eF c6 (by decide);have j1:(fun (v:KH)=>v.cell? ⟨w1.heap.size,0,none⟩=some (.slice (some ⟨g,0,none⟩) L.length q)/\v.cell? ⟨g,k*3+1,none⟩=some (.int .i64 d.cost)/\v.cell? ⟨g,k*3+2,none⟩=some (.slice J d.steps.length T)) w6:=⟨Z.o.c0,(d5.2 _).trans G,(d5.2 _).trans n2⟩;have f5:=Kz d5.1;dsimp only;refine b.out _ _ (fun _=>j1) ?_;clear b K h i8 i9 d4 c6 f d5;have h:=j1;try simp only[Act.put,upA,upB,upC]
   refine ae 11 h ?_;refine ae 12 h ?_;have HF:=Kz ((Z.o.fin.mono (n:=mN+10) (by omega)).Eo c3 X f5.o b6 j0.o m2 m1 m3);have b3:=Kz (b7.o.eF (f5.o.setCells [.int .i64 cost,.slice ua LS.length uc] (k*3+1)).2 (by decide)).1;refine ai 13 (fun K b=>?_);refine wp_store_mid 77 _ _ rfl g (k*3+1) #[.int .i64 cost,.slice ua LS.length uc] (by rfl) (by rfl) (f5.o.row.there (by simp;omega)) (by kernel_rfl) (Gv ..) ?_;refine b.out _ _ (fun Q=>Ki rfl Q) ?_;clear b K;try simp only[Act.put]
   refine ay ?_;go_wp2
   go_meet
   exact⟨some ⟨g,0,none⟩,q,L.set k ⟨(L.getD k Qz.zero).name,cost,LS⟩,m0,by omega,by omega,by rw[Ka];omega,b3.o,by rw[Ka];exact HF.o⟩
  by_cases h2:s=2
  ·have d2:((s:Int) == 0)=false:=by simpa using Y
   have e1:((s:Int) == 1)=false:=by rw[beq_eq_false_iff_ne];omega
   have e2:((s:Int) == 2)=true:=by simp[h2]
   clear Y h1 h2;go_wp2_with fail
   refine (aI _ D a H E (p+2) _ 2 rfl j.o.rd (by omega) (by omega) a7).mono ?_;rintro e B ⟨b2,rfl,hq,O,x⟩;have t:=Kz (j.o.drawn O x);have a3:=Kz (a1.o.but x (by omega));clear O x j a1 b0 y4 d1 f2;obtain⟨G,q8⟩:∃G:Nat,G=60+b2:=⟨_,rfl⟩;go_wp2
   go_loopg [8] (G-L.length) (fun gq R wr=>∃(a4:Nat) (v:KI) (F:List Qz) (ys:List KI),R= .int .i64 (a4:Int)/\a4+gq<=61/\G<=F.length+gq/\(gq=0\/F.length+gq=G)/\F.length<=l.length+61/\au wr (w.heap.size+1) 25 1/\fD mN W wr D w1.heap.size a H E (p+3) v F ys)
   case atStart=>exact⟨0,_,L,xs,rfl,by omega,by omega,by omega,by omega,a3.o,t.o⟩
   case round=>
    clear t a3;obtain⟨a4,v,F,ys,rfl,hi,hn,m4,m5,b1,hS⟩:=hrel;obtain⟨wO,rfl⟩:=ah wr;have⟨HO,c4⟩:=aD hS b1;obtain⟨va,vc,rfl⟩:=ax hS.own;have y0:=hS.c0;have zb:=hS.row.lt;clear hS b1;by_cases m6:(F.length:Int)<60+ (b2:Int)
    ·have q9:0<gk:=by omega
     obtain⟨d6,f7⟩:=ah (F.length);have r0:d6<=61:=by omega
     have HN:=Kz f7;rw[<-f7] at y0 m6 hn m4 m5;obtain⟨q1,m7⟩:=ah (a4 / 26);obtain⟨y,f3⟩:=ah (a4 % 26);have et:(a4:Int).tdiv 26= (q1:Int):=by rw[Int.tdiv_eq_ediv_of_nonneg (by omega)];omega
     have er:(a4:Int).tmod 26= (y:Int):=by rw[Int.tmod_eq_emod_of_nonneg (by omega)];omega
     have r1:q1<=2:=by omega
     have r2:y<=25:=by omega
     clear m7 f3 f7;have m8:=Kz (De (P:=prog) wO 22 5 9 underlying22 underlying5 underlying9 (97+ (q1:Int)) (97+ (y:Int)));obtain⟨bz,f8⟩:=ah (strOfNums [97+ (q1:Int),97+ (y:Int)]);have m9:bz.size=2:=by rw[f8];rfl
     obtain⟨V,j2⟩:∃V:KC,(⟨#[122,122]⟩:KC)++bz=V:=⟨_,rfl⟩;have j3:V.size<=300:=by rw[<-j2,ByteArray.size_append,m9];decide
     have b6:=m8.o;rw[<-f8] at b6;have f6:¬9223372036854775807<2+bz.size:=by omega
     have r3:¬9223372036854775807<4:=by omega
     obtain⟨M,c7⟩:=ah (wO.alloc (.cells #[.int .u8 (97+ (q1:Int)),.int .u8 (97+ (y:Int))] 5));have j4:K_ wO M:=by rw[c7];exact ag _ _
     have f9:Hid (cB (M.alloc (.cells #[.slice none 0 0,.int .i64 0,.slice none 0 0,.int .i64 0,.int .i64 0,.bool true,.bool false,.string ⟨#[]⟩] 83)) (.slice (some ⟨M.heap.size,0,none⟩) 1 1) [bL ⟨#[]⟩]):=xB M;have g0:K_ M (M.alloc (.cells #[.slice none 0 0,.int .i64 0,.slice none 0 0,.int .i64 0,.int .i64 0,.bool true,.bool false,.string ⟨#[]⟩] 83)):=ag _ _;obtain⟨W2,d7⟩:=ah (M.alloc (.cells #[.slice none 0 0,.int .i64 0,.slice none 0 0,.int .i64 0,.int .i64 0,.bool true,.bool false,.string ⟨#[]⟩] 83));rw[<-d7] at f9 g0;have d8:K_ W2 (W2.alloc (.cells #[.string V,.int .i64 1,.slice (some ⟨M.heap.size,0,none⟩) 1 1] 79)):=ag _ _;obtain⟨W3,g1⟩:=ah (W2.alloc (.cells #[.string V,.int .i64 1,.slice (some ⟨M.heap.size,0,none⟩) 1 1] 79));have g2:=mi W2 V 1 (.slice (some ⟨M.heap.size,0,none⟩) 1 1);rw[<-g1] at d8 g2;have d9:=Kz ((j4.trans g0).trans d8);have j5:=Kz (HO.o.kept d9.o);have g3:=j5.o.own;rw[<-HN.o] at g3;have⟨j6,n1,n3⟩:=eB g3 j5.o.kb.size g2;have n4:=Kz (f9.o.same (u:=25) (.aC d8) (by decide) (by decide) (by decide));have HD:Hid (Qz.TinyN mN ⟨V,1,[bL ⟨#[]⟩]⟩):=⟨j3,⟨by show (-1000:Int)<=1;decide,by show (1:Int)<=1000;decide⟩,by show 1<=21;omega,fun r4 hy=>by simp only[Jg] at hy;subst hy;exact iq (show (0:Nat)<=300 by omega)⟩;obtain⟨g4,g5,g6,g7,g8⟩:=aM Tryz.lL;have HE:Hid (((wO.alloc (.cells #[.int .u8 (97+ (q1:Int)),.int .u8 (97+ (y:Int))] 5)).alloc (.cells #[.slice none 0 0,.int .i64 0,.slice none 0 0,.int .i64 0,.int .i64 0,.bool true,.bool false,.string ⟨#[]⟩] 83)).alloc (.cells #[.string ((⟨#[122,122]⟩:KC)++strOfNums [97+ (q1:Int),97+ (y:Int)]),.int .i64 1,.slice (some ⟨wO.heap.size+1,0,none⟩) 1 1] 79)=W3):=by
      show _=_;rw[g1,d7,c7,<-j2,f8];simp only[JG]
     have j7:wO.heap.size+1=M.heap.size:=by rw[c7];simp
     have j8:wO.heap.size+1+1=W2.heap.size:=by rw[d7,c7];simp
     have⟨r5,n5⟩:=aD j7 j8;clear c7 d7 g1 j4 g0 d8 g2 g3 j7 j8 j3 f9;go_wp2_with (at_builtin;rw[HE.o];refine wpList_append_lies _ rfl (.tmp 85) (.tmp 101) 23 rfl W.heap.size 79 g4 _ 3 48 underlying23 g5 g6 g7 g8 rfl (by decide) (.slice va d6 vc) d6 ys rfl j6.o ⟨W2.heap.size,0,none⟩ 1 1 [.string V,.int .i64 1,.slice (some ⟨M.heap.size,0,none⟩) 1 1] (by rw[<-n5.o];rfl) rfl n3.o (mI _ _ _ _ _) (by omega) (by unfold maxLen;omega) (by omega) n1.o _ rfl ?_;intro g9 l9 w9 j9 I _ _;have a0:=HO.o.fw d9.o (by rw[<-HN.o];exact I);have y9:=a0.1;have z9:=a0.2.lt;have n6:=(a0.2.row.at (i:=0) (by omega)).2;have n7:=Kz (HO.o.push (d:=⟨V,1,[bL ⟨#[]⟩]⟩) d9.o n4.o HD.o (by rw[<-HN.o];exact j9) (by rw[<-HN.o];exact I));have n8:Hid (au w9 (w.heap.size+1) 25 1):=((c4.o.kept d9.o).eF (ak.aK j6.o I) (by decide)).1;clear a0 j9 I)
     go_roundg (gk-1)
     case rel=>
      have hP:=n7.o;have k2:(F++ [⟨V,1,[bL ⟨#[]⟩]⟩]:List Qz).length=d6+1:=by rw[JH,HN.o];rfl
      exact⟨a4+1,_,F++ [⟨V,1,[bL ⟨#[]⟩]⟩],_,by go_num,by omega,by omega,by omega,by omega,n8.o.block (Below.heap_setCell _ _ _ _ (by simpa using i1)),hP⟩
     case measure=>omega
    ·go_wp2
     go_meet
     exact⟨va,vc,F,p+3,by omega,by omega,by omega,c4.o,HO.o.fin.mono (by omega)⟩
  by_cases h3:s=3
  ·have d2:((s:Int) == 0)=false:=by simpa using Y
   have e1:((s:Int) == 1)=false:=by rw[beq_eq_false_iff_ne];omega
   have e2:((s:Int) == 2)=false:=by rw[beq_eq_false_iff_ne];omega
   have n9:((s:Int) == 3)=true:=by simp[h3]
   clear Y h1 h2 h3;obtain⟨J,T,f,A⟩:=j.o.web.cells X;obtain⟨d,r⟩:=ah (L.getD k Qz.zero);have U:=j.o.tiny d (by rw[r];simp[List.getD,X]);rw[<-r] at f A;have n0:=f 0 _ rfl;have G:=f 1 _ rfl;have n2:=f 2 _ rfl;rw[JM] at n0;have⟨c5,b4⟩:=aD A U;clear f A r U;obtain⟨g4,g5,g6,g7,g8⟩:=aM Tryz.lL;go_upto_region 20 with fail
   refine Qk.region (by kernel_rfl) (fun (v:KH)=>v.cell? ⟨w1.heap.size,0,none⟩=some (.slice (some ⟨g,0,none⟩) L.length q)) 10 y4 (fun h=>?_);refine aB 0 h ?_;refine ae 4 h ?_;refine ae 5 h ?_;refine af 6 (fun K b=>?_);go_simp
   refine b.out _ _ (fun _=>y4) ?_;clear b K;try simp only[Act.put,upA,upB,upC]
   refine af 7 (fun K b=>?_);go_simp
   have KW:K_ i (i.drew.alloc (.cells #[.string d.name,.int .i64 d.cost,.slice J d.steps.length T] 79)):=(aG i).alloc _;refine b.out _ _ (fun _=>(KW.cell d1).trans y4) ?_;clear b K h;try simp only[Act.put,upA,upB,upC]
   refine af 8 (fun K b=>?_);have t:=Kz (j.o.kept KW);refine step_append_lies _ rfl (.tmp 107) (.tmp 113) 23 rfl W.heap.size 79 g4 _ 3 48 underlying23 g5 g6 g7 g8 rfl (by decide) (.slice (some ⟨g,0,none⟩) L.length q) L.length xs (by simp[Act.eval]) t.o.own ⟨i.heap.size,0,none⟩ 1 1 [.string d.name,.int .i64 d.cost,.slice J d.steps.length T] (by simp[Act.eval]) rfl (mi _ _ _ _) (mI _ _ _ _ _) (by omega) (by unfold maxLen;omega) (by omega) t.o.kb.size _ rfl ?_;intro o0 o1 w6 k3 e0 o2 r6;have a0:=j.o.fw KW e0;have y6:=a0.1;have r7:=a0.2.lt;have n6:=(a0.2.row.at (i:=0) (by omega)).2;obtain⟨vo,r8⟩:=(a0.2.row.at (i:=0) (by omega)).1;have o3:=Kz (j.o.push (d:=d) KW (c5.o.same (u:=25) (.aC KW) (by decide) (by decide) (by decide)) b4.o k3 e0);have c6:=ak.aK t.o.own e0;have b7:Hid (au w6 (w.heap.size+1) 25 1):=((a1.o.kept KW).eF c6 (by decide)).1;clear a0 k3 e0 o2 c6 KW;refine b.out _ _ (fun _=>y6) ?_;clear b K;try simp only[Act.put,upA,upB,upC]
   have h:=y6;refine ae 9 h ?_;refine af 10 (fun K b=>?_);go_simp
   refine b.out _ _ (fun Q=>Ki rfl Q) ?_;clear b K;try simp only[Act.put,upA,upB,upC]
   refine ay ?_;go_wp2
   go_meet
   have hF:=o3.o.fin.mono (n:=mN+10) (by omega);have k2:(L++ [d]).length=L.length+1:=by simp
   exact⟨some ⟨o0,0,none⟩,o1,L++ [d],p+2,by omega,by omega,by omega,b7.o.block (Below.heap_setCell _ _ _ _ (by simpa using i1)),by rw[k2];exact hF⟩
  have d2:((s:Int) == 0)=false:=by simpa using Y
  have e1:((s:Int) == 1)=false:=by rw[beq_eq_false_iff_ne];omega
  have e2:((s:Int) == 2)=false:=by rw[beq_eq_false_iff_ne];omega
  have n9:((s:Int) == 3)=false:=by rw[beq_eq_false_iff_ne];omega
  clear Y h1 h2 h3;obtain⟨J,T,f,A⟩:=j.o.web.cells a9;obtain⟨d,r⟩:=ah (L.getD 0 Qz.zero);have U:=j.o.tiny d (by rw[r];simp[List.getD,a9]);rw[<-r,Nat.zero_mul] at f;rw[<-r] at A;have n0:=f 0 _ rfl;have G:=f 1 _ rfl;have n2:=f 2 _ rfl;simp only[JA] at n0 G n2;have⟨c5,b4⟩:=aD A U;have r9:(0:Int)<(L.length:Int):=by omega
  clear f A r U;go_upto_region 7 with fail
  obtain⟨B,c8⟩:=ah (i.alloc (.cells #[.string d.name,.int .i64 d.cost,.slice J d.steps.length T] 79));have K5:K_ i B:=by rw[c8];exact ag _ _
  have hx:=X_ i #[.string d.name,.int .i64 d.cost,.slice J d.steps.length T] 79;rw[<-c8] at hx;have x0:=hx 0 _ rfl;have x1:=hx 1 _ rfl;have x2:=hx 2 _ rfl;simp only[JA] at x0 x1 x2;have xz:i.heap.size<B.heap.size:=by rw[c8];simp
  rw[<-c8];have t:=Kz (j.o.kept K5);have a3:=Kz (a1.o.kept K5);have e3:=Kz (b0.o.kept K5);have o4:=Kz (c5.o.same (u:=25) (.aC K5) (by decide) (by decide) (by decide));have o5:g≠i.heap.size:=by omega
  clear c8 K5 hx y4 d1 f2 j a1 b0 c5 n0 G n2;have y5:=t.o.c0;have s0:=t.o.row.lt;have s1:=e3.o.lt;obtain⟨c1,c2,f,A⟩:=t.o.web.cells X;obtain⟨n,r⟩:=ah (L.getD k Qz.zero);have U:=t.o.tiny n (by rw[r];simp[List.getD,X]);rw[<-r] at f A;have n0:=f 0 _ rfl;have G:=f 1 _ rfl;have n2:=f 2 _ rfl;rw[JM] at n0;have⟨o6,o7⟩:=aD A U;clear f A r U;have KD:K_ B B.drew:=aG B;have e4:=Kz (((t.o.kept KD).fin.mono (n:=mN+10) (by omega)).setNode (k:=0) (d:=n) c3 a9 (e3.o.kept KD) (by omega) (o6.o.same (u:=25) (.aC KD) (by decide) (by decide) (by decide)) (o7.o.mono (by omega)));have e5:=(e3.o.kept KD).setCells [.string n.name,.int .i64 n.cost,.slice c1 n.steps.length c2] (0*3);have c9:=Kz e5.1;have b9:=Kz ((a3.o.kept KD).eF e5.2 (by decide)).1;have k4:=Kz ((o4.o.same (u:=25) (.aC KD) (by decide) (by decide) (by decide)).same e5.2 (by decide) (by decide) (by decide));have e6:∀o v,B.cell? ⟨i.heap.size,o,none⟩=some v->(B.drew.setCells g (0*3) [.string n.name,.int .i64 n.cost,.slice c1 n.steps.length c2]).cell? ⟨i.heap.size,o,none⟩=some v:=fun o v hv=>(Jo (wN (w:=B.drew) (q:=o) hv) _ _ _ (.inl (fun e=>o5 (by simpa using e.symm)))) 0 _ rfl
  have o8:=e6 _ _ x0;have o9:=e6 _ _ x1;have p0:=e6 _ _ x2;have p1:i.heap.size<(B.drew.setCells g (0*3) [.string n.name,.int .i64 n.cost,.slice c1 n.steps.length c2]).heap.size:=by rw[size_setCells];exact xz
  clear e5 e6 KD;refine Qk.region (by kernel_rfl) (fun (v:KH)=>v.cell? ⟨w1.heap.size,0,none⟩=some (.slice (some ⟨g,0,none⟩) L.length q)) 8 y5 (fun h=>?_);refine aB 0 h ?_;refine ae 4 h ?_;refine ae 5 h ?_;refine af 6 (fun K b=>?_);go_simp
  refine b.out _ _ (fun _=>y5) ?_;clear b K;try simp only[Act.put,upA,upB,upC]
  refine ae 7 h ?_;refine ai 8 (fun K b=>?_);refine wp_store_mid 79 _ _ rfl g (0*3) #[.string n.name,.int .i64 n.cost,.slice c1 n.steps.length c2] (by rfl) (by rfl) ((e3.o.kept (aG B)).row.there (by simp;omega)) (by kernel_rfl) (Co ..) ?_;refine b.out _ _ (fun Q=>Ki rfl Q) ?_;clear b K;try simp only[Act.put]
  refine ay ?_;obtain⟨S,h0⟩:=ah (B.drew.setCells g (0*3) [.string n.name,.int .i64 n.cost,.slice c1 n.steps.length c2]);rw[<-h0] at e4 c9 b9 k4 o8 o9 p0 p1;have k5:B.drew.setCells g (0*3) (#[.string n.name,.int .i64 n.cost,.slice c1 n.steps.length c2]:Array KI).toList=S:=h0.symm;rw[k5];clear k5;clear h0;have s2:=e4.o.c0;have s3:=e4.o.row.lt;have s4:=c9.o.lt;have p2:k<(L.set 0 n).length:=by rw[Ka];exact X
  have p3:=Kz (e4.o.setNode (k:=k) (d:=d) c3 p2 c9.o b6 k4.o (b4.o.mono (by omega)));have b3:=Kz (b9.o.eF (c9.o.setCells [.string d.name,.int .i64 d.cost,.slice J d.steps.length T] (k*3)).2 (by decide)).1;have p4:Hid (S.there g (k*3) 3):=c9.o.row.there (by omega);have k6:(prog.info? 79).map (·.size)=some 3:=by kernel_rfl
  have p5:=Kz k6;clear k6;go_wp2_with (refine wpList_store_mid rfl 79 _ _ rfl g (k*3) #[.string d.name,.int .i64 d.cost,.slice J d.steps.length T] rfl rfl p4.o p5.o (Co ..) ?_)
  go_meet
  exact⟨some ⟨g,0,none⟩,q,(L.set 0 n).set k d,p+2,by omega,by omega,by rw[Ka,Ka];omega,b3.o,by rw[Ka,Ka];exact p3.o⟩
theorem ED :p_ 125 400 20 60 700000:=by
 intro w l a D E I T hp Z;have k0:K_ w (w.alloc (.cells #[.slice none 0 0] 25)):=ag _ _;have d5:Hid (Rd (w.alloc (.cells #[.slice none 0 0] 25)) l a D E I):=T.kept k0;have j5:=T.row.lt;have Q:Hid (au ((w.alloc (.cells #[.slice none 0 0] 25)).alloc (.cells #[.slice none 0 0] 25)) w.heap.size 25 1):=(au.made w _ _).kept (ag _ _);have b7:=fD.made (mN:=20) d5.o d5.o (Xj.refl _ _ _);rw[JG] at b7;have⟨b8,g6⟩:=aD b7 T;clear T b7;go_enter func125,ntmps125
 go_wp2_with fail
 refine (aI _ l a D E I _ 14 rfl b8.o.rd (by omega) (by omega) Z).mono ?_;rintro e w1 ⟨v1,rfl,j6,d6,b9⟩;have d7:=Kz (b8.o.drawn d6 b9);have d8:=Kz (Q.o.but b9 (by omega));obtain⟨n1,j7⟩:∃n1:Nat,n1=12+v1:=⟨_,rfl⟩;clear d6 b9 b8 Q;go_wp2
 go_loopg [5] n1 (fun g x wr=>∃(k:Nat) (p':Nat) (v:KI) (a0:List Qz) (xs:List KI),x= .int .i64 (k:Int)/\k+g=n1/\a0.length=k/\I<=p'/\p'<=I+1+12*k/\au wr w.heap.size 25 1/\fD 20 (w.alloc (.cells #[.slice none 0 0] 25)) wr l (w.heap.size+1) a D E p' v a0 xs)
 case atStart=>exact⟨0,I+1,_,[],[],rfl,by omega,rfl,by omega,by omega,d8.o,d7.o⟩
 case round=>
  clear d7 d8;obtain⟨k,p7,v,a0,xs,rfl,hk,hL,j8,j9,d9,f⟩:=hrel;obtain⟨wO,rfl⟩:=ah wr;obtain⟨gO,rfl⟩:=ah gk;have⟨J,n,Q⟩:=eB f hL d9;obtain⟨av,cv,rfl⟩:=ax f.own;clear f hL d9;by_cases k1:(k:Int)<12+ (v1:Int)
  ·go_wp2_with fail
   refine (aI _ l a D E p7 _ 9 rfl J.o.rd (by omega) (by omega) Z).mono ?_;rintro e w2 ⟨j,rfl,k2,e0,e1⟩;have c3:=Kz (ASt.made J.o.rd e0 e1 (1+ (j:Int)));clear e0 e1;go_wp2_with fail
   refine (aI _ l a D E (p7+1) _ 3 rfl c3.o.rd (by omega) (by omega) Z).mono ?_;rintro e w3 ⟨a2,rfl,hq,e2,e3⟩;have e4:=Kz (c3.o.drawn e2 e3);clear e2 e3 c3;go_wp2
   go_loopg [7] a2 (fun g x wr=>∃(p':Nat) (v:KI) (c:List Xq) (ys:List KI),x= .int .i64 (g:Int)/\g<=a2/\I<=p'/\p'+5*g<=p7+2+5*a2/\c.length+g<=a2/\ASt wO wr l w2.heap.size a D E p' (1+ (j:Int)) v c ys)
   case atStart=>exact⟨p7+2,_,[],[],rfl,IZ _,by omega,by omega,by simp,e4.o⟩
   case round=>
    clear e4;obtain⟨p8,vs,c,ys,rfl,k3,k4,k5,k7,f⟩:=hrel;obtain⟨K,rfl⟩:=ah wr;obtain⟨gI,rfl⟩:=ah gk;have L:=Kz f;obtain⟨sv,sc,rfl⟩:=ax f.own;have a1:=f.c1;have az:=f.row.lt;clear f;by_cases g7:(0:Int)<(gI:Int)
    ·have g8:c.length<=3:=by omega
     have c4:=Kz (SSt.made L.o.rd (els:=(c.length:Int)+1) (fall:= -1) (by omega) (by omega));go_wp2_with fail
     refine (aI _ l a D E p8 _ 4 rfl c4.o.rd (by omega) (by omega) Z).mono ?_;rintro e w4 ⟨q2,rfl,k8,e5,e6⟩;have e7:=Kz (c4.o.drawn e5 e6);clear e5 e6 c4;go_wp2
     go_loopg [9] (1+q2) (fun g x wr=>∃(va:KI) (s:Xq) (p':Nat),x= .int .i64 (g:Int)/\g<=1+q2/\I<=p'/\p'+g<=p8+2+q2/\s.asks.length+g<=4/\s.cases=[]/\SSt K wr l K.heap.size a D E p' va (.slice none 0 0) s)
     case atStart=>exact⟨_,_,p8+1,by go_num,IZ _,by omega,by omega,by show 0+ (1+q2)<=4;omega,rfl,e7.o⟩
     case round=>
      clear e7;obtain⟨va,s,p9,rfl,k9,l0,l1,l2,e8,f⟩:=hrel;have⟨M,f0⟩:=aD f e8;clear f e8;go_upto_region 12 with fail
      go_cut [43] from 38 to 43 (fun g9 wx=>∃b:Bool,g9= .bool b/\wx=wr/\(b=true->0<gk/\0<k))
      case first=>
       by_cases l3:(0:Int)<(gk:Int)
       ·by_cases h2:(0:Int)<(k:Int)
        ·go_wp2
         go_meet
         exact⟨_,rfl,rfl,fun _=>⟨by omega,by omega⟩⟩
        ·go_wp2
         go_meet
         exact⟨_,rfl,rfl,fun a3=>by simp at a3;omega⟩
       ·go_wp2
        go_meet
        exact⟨false,rfl,rfl,fun a3=>by cases a3⟩
      case rest=>
       obtain⟨b,rfl,rfl,hb⟩:=hcut;have HB:=Kz hb;clear hb;cases b
       ·obtain⟨wJ,rfl⟩:=ah wc;have U:=Kz (L.o.drawn M.o.rd M.o.kb);obtain⟨aa,ca,a5,a6,rfl,f1,hT⟩:=M.o.cells;have p:=Kz M.o;rw[f1] at p;have HT:=Kz hT;clear hT f1 M;have c0:=p.o.box.c0;have c1:=p.o.box.c1;have c2:=p.o.box.c2;have l4:=p.o.box.c3;have l5:=p.o.box.c4;have c5:=p.o.box.c5;have l6:=p.o.box.c6;have l7:=p.o.box.c7;have cz:=p.o.box.row.lt;have b1:=U.o.c1;have bz:=U.o.row.lt;have h:Hid (K_ wJ (wJ.alloc (.cells #[.slice aa s.asks.length ca,.int .i64 s.on,.slice a5 s.cases.length a6,.int .i64 s.els,.int .i64 s.fall,.bool s.fin,.bool s.bad,.string s.give] 83))):=ag _ _;have V:=Kz (U.o.kept h.o).own;have a7:=Kz (U.o.kept h.o).kb.size;have a8:=Kz (Cx wJ #[.slice aa s.asks.length ca,.int .i64 s.on,.slice a5 s.cases.length a6,.int .i64 s.els,.int .i64 s.fall,.bool s.fin,.bool s.bad,.string s.give]);obtain⟨ic,c6,c7,c8,d0⟩:=aM Tryz.jB;go_wp2_with (at_builtin;refine wpList_append_own _ rfl (.tmp 62) (.tmp 64) 75 rfl wO.heap.size 83 ic _ 8 96 underlying75 c6 c7 c8 d0 rfl (by decide) (.slice sv c.length sc) c.length ys rfl V.o ⟨wJ.heap.size,0,none⟩ 1 1 (s.cells aa ca a5 a6) rfl rfl a8.o (iF s aa ca a5 a6) (by unfold maxLen;omega) (by omega) a7.o ?_;intro v' w5 r y _;have q:=U.o.fw h.o y;have z2:=q.2.lt;obtain⟨⟨_,y2⟩,f2⟩:=q.2.row.at (i:=1) (by omega);have W:=Kz r;obtain⟨N,O,rfl⟩:=ax r;have X:=Kz y;clear r y q)
        go_roundg (gI-1)
        case measure=>omega
        case rel=>exact⟨p9,_,c++ [s],_,by go_num,by omega,by omega,by omega,by rw[JH];show c.length+1+ (gI-1)<=a2;omega,U.o.push h.o HT.o p.o.tiny (p.o.mU rfl rfl) W.o X.o⟩
       ·obtain⟨l8,l9⟩:=HB.o rfl;obtain⟨wJ,rfl⟩:=ah wc;go_wp2_with fail
        refine (iO _ l a D E p9 k M.o.rd (by omega) (by omega) Z).mono ?_;rintro e w5 ⟨v5,rfl,m0,f3,f4⟩;have f5:=Kz (M.o.drawn f3 f4);clear f3 f4 M;go_wp2_with fail
        refine (iW _ v5 _ rfl (by omega)).mono ?_;rintro e H ⟨x,rfl,hx,k6⟩;have A:=Kz (f5.o.kept k6);clear k6 f5;obtain⟨d1,f6,rfl⟩:=ax A.o.asks;have y0:=A.o.box.c0;have yz:=A.o.box.row.lt;obtain⟨_,h0⟩:=A.o.box.cell (o:=0) (by omega);have m1:s.asks.length<=20:=A.o.tiny.asks;have h1:Hid (Strs H d1 s.asks):=by
         obtain⟨a9,c9,e9,_,hT⟩:=bf A.o.asks;simp only[JJ] at e9;obtain⟨rfl,_,rfl⟩:=e9;exact hT.strs
        go_wp2_with fail
        refine (jA _ d1 f6 s.asks x (by omega) h1.o).mono ?_;rintro e w7 ⟨⟨r7,rfl,_⟩,rfl⟩;cases r7
        ·obtain⟨ia,h3,h4,h5,h6⟩:=aM Tryz.d_;have h:Hid (K_ w7 (w7.alloc (.cells #[.string x] 9))):=ag _ _;have V:=Kz (A.o.kept h.o).asks;have h7:K.heap.size<=(w7.alloc (.cells #[.string x] 9)).heap.size:=(A.o.kept h.o).kb.size;go_wp2_with (at_builtin;refine wpList_append_own _ rfl (.tmp 56) (.tmp 58) 26 rfl K.heap.size 9 ia _ 1 16 underlying26 h3 h4 h5 h6 rfl (by decide) (.slice d1 s.asks.length f6) s.asks.length (s.asks.map Value.string) rfl V.o ⟨w7.heap.size,0,none⟩ 1 1 [.string x] rfl rfl (iB w7 x) (ib x) (by unfold maxLen;omega) (by omega) h7 ?_;intro v' w8 r y _;have q:=A.o.ry h.o y;have y2:=q.c0;have z2:=q.row.lt;obtain⟨_,f2⟩:=q.cell (o:=0) (by omega);have W:=Kz r;obtain⟨m2,m3,rfl⟩:=ax r;have X:=Kz y;clear r y q)
         ·rename_i hfz
          rw[f2] at hfz;cases hfz
         go_roundg (gk-1)
         case measure=>omega
         case rel=>exact⟨_,{s with asks:=s.asks++ [x]},p9+1,by go_num,by omega,by omega,by omega,by show (s.asks++ [x]).length+ (gk-1)<=4;rw[JH];show s.asks.length+1+ (gk-1)<=4;omega,f0.o,A.o.nT h.o W.o X.o (by omega) (by omega)⟩
        ·go_wp2
         go_roundg (gk-1)
         case measure=>omega
         case rel=>exact⟨_,s,p9+1,by go_num,by omega,by omega,by omega,by omega,f0.o,A.o⟩
    ·have m4:¬(0:Int)<(gI:Int):=g7;have g8:c.length<=3:=by omega
     obtain⟨ic,c6,c7,c8,d0⟩:=aM Tryz.jB;have h:Hid (K_ K (K.alloc (.cells #[.slice none 0 0,.int .i64 0,.slice none 0 0,.int .i64 0,.int .i64 0,.bool true,.bool false,.string ⟨#[119]⟩] 83))):=ag _ _;have V:=Kz (L.o.kept h.o).own;have a7:=Kz (L.o.kept h.o).kb.size;have a8:=Kz (Cx K #[.slice none 0 0,.int .i64 0,.slice none 0 0,.int .i64 0,.int .i64 0,.bool true,.bool false,.string ⟨#[119]⟩]);have h8:=Kz L.o;go_upto_region 19 with (at_builtin;refine wpList_append_own _ rfl (.tmp 68) (.tmp 70) 75 rfl wO.heap.size 83 ic _ 8 96 underlying75 c6 c7 c8 d0 rfl (by decide) (.slice sv c.length sc) c.length ys rfl V.o ⟨K.heap.size,0,none⟩ 1 1 ((bL ⟨#[119]⟩).cells none 0 none 0) rfl rfl a8.o (iF (bL ⟨#[119]⟩) none 0 none 0) (by unfold maxLen;omega) (by omega) a7.o ?_;intro v' w5 r y _;have q:=L.o.fw h.o y;have z2:=q.2.lt;obtain⟨⟨_,y2⟩,f2⟩:=q.2.row.at (i:=1) (by omega);have W:=Kz r;obtain⟨N,O,rfl⟩:=ax r;have X:=Kz y;clear r y q)
     have B:=L.o.push h.o (qG _ ⟨#[119]⟩) (iq (show (1:Nat)<=300 by omega)) (nA _) W.o X.o;have b0:(c++ [bL ⟨#[119]⟩]).length=c.length+1:=by simp
     obtain⟨LT,f7⟩:=ah (c++ [bL ⟨#[119]⟩]);rw[<-f7] at B b0;obtain⟨P,f8⟩:=ah (c.length+1);rw[<-f8] at B b0⊢;obtain⟨wA,f9⟩:=ah (w5.setCell ⟨w2.heap.size,1,none⟩ (.slice N P O));rw[<-f9] at B⊢;have⟨d2,h9⟩:=aD B b0;have m5:P<=4:=by omega
     have Y:=Kz (J.o.drawn B.rd B.kb);have i0:w.heap.size<l\/l+1<=w.heap.size:=by omega
     have i1:=Kz (Q.o.but B.kb i0);have q0:=B.c0;have q1:=B.c1;have qz:=B.row.lt;have y5:=Y.o.c0;rw[n.o] at y5;have i2:=Y.o.row.lt;have m6:w.heap.size≠w.heap.size+1:=by omega
     clear f7 f8 b0 f9 B W X V a8 a7 h L h8 a1 az z2 y2 f2 Q;obtain⟨i3,i4,i5,i6,i7⟩:=aM Tryz.lL;have b2:Hid (∀v:KH,K_ wA v->(fun (v:KH)=>v.cell? ⟨w.heap.size+1,0,none⟩=some (.slice av k cv)/\v.cell? ⟨w2.heap.size,0,none⟩=some (.int .i64 (1+ (j:Int)))/\v.cell? ⟨w2.heap.size,1,none⟩=some (.slice N P O)) v):=fun v kk=>⟨(kk.cell i2).trans y5,(kk.cell qz).trans q0,(kk.cell qz).trans q1⟩
     refine Qk.region (by kernel_rfl) (fun (v:KH)=>v.cell? ⟨w.heap.size+1,0,none⟩=some (.slice av k cv)/\v.cell? ⟨w2.heap.size,0,none⟩=some (.int .i64 (1+ (j:Int)))/\v.cell? ⟨w2.heap.size,1,none⟩=some (.slice N P O)) 9 ⟨y5,q0,q1⟩ (fun F=>?_);refine ae 0 F ?_;refine ae 1 F ?_;refine ae 2 F ?_;refine ae 4 F ?_;refine ai 3 (fun R C=>?_);go_simp
     go_at_call 24
     refine (iW _ k _ rfl (by omega)).mono ?_;rintro e H ⟨S,rfl,m7,k6⟩;have K6:K_ wA H:=(aG _).trans k6;dsimp only;refine C.out _ _ (fun _=>b2.o H K6) ?_;clear C R F k6;have F:=b2.o H K6;try simp only[Act.put,upA,upB,upC]
     refine ae 5 F ?_;refine af 6 (fun R C=>?_);go_simp
     have G:K_ wA (H.alloc (.cells #[.string S,.int .i64 (1+ (j:Int)),.slice N P O] 79)):=K6.alloc _;refine C.out _ _ (fun _=>b2.o _ G) ?_;clear C R F;try simp only[Act.put,upA,upB,upC]
     refine af 7 (fun R C=>?_);have b3:=(Y.o.kept G).own;rw[n.o] at b3;have i8:=(Y.o.kept G).kb.size;have i9:Hid (Qz.TinyN 20 ⟨S,1+ (j:Int),LT⟩):=⟨by show S.size<=300;omega,by show -1000<=1+ (j:Int)/\1+ (j:Int)<=1000;omega,by show LT.length<=21;have:=h9.o;omega,d2.o.tiny⟩;refine step_append_lies _ rfl (.tmp 74) (.tmp 79) 23 rfl (w.alloc (.cells #[.slice none 0 0] 25)).heap.size 79 i3 _ 3 48 underlying23 i4 i5 i6 i7 rfl (by decide) (.slice av k cv) k xs (by simp[Act.eval]) b3 ⟨H.heap.size,0,none⟩ 1 1 [.string S,.int .i64 (1+ (j:Int)),.slice N P O] (by simp[Act.eval]) rfl (mi _ _ _ _) (mI _ _ _ _ _) (by omega) (by unfold maxLen;omega) (by omega) i8 _ rfl ?_;intro g g0 w8 g2 b4 j0 m8;have a4:=Y.o.fw G (by rw[n.o];exact b4);have y6:=a4.1;rw[n.o] at y6;have m9:=a4.2.lt;have n0:=(a4.2.row.at (i:=0) (by omega)).2;obtain⟨vo,n2⟩:=(a4.2.row.at (i:=0) (by omega)).1;have g3:=d2.o.g.same (u:=25) (.aC G) (by decide) (by decide) (by decide);have j1:Hid (fD 20 (w.alloc (.cells #[.slice none 0 0] 25)) (w8.setCell ⟨w.heap.size+1,0,none⟩ (.slice (some ⟨g,0,none⟩) (k+1) g0)) l (w.heap.size+1) a D E p8 (.slice (some ⟨g,0,none⟩) (k+1) g0) (a0++ [⟨S,1+ (j:Int),LT⟩]) (xs++ [.string S,.int .i64 (1+ (j:Int)),.slice N P O])):=
      Y.o.push (d:=⟨S,1+ (j:Int),LT⟩) G g3 i9.o (by rw[n.o];exact g2) (by rw[n.o];exact b4)
     have d3:=ak.aK b3 b4;have j2:Hid (au w8 w.heap.size 25 1):=by
      obtain⟨b5,g1,g4⟩:=i1.o.kept G;exact⟨b5,d3 _ b5 _ _ (by decide) g1,g4⟩
     have g5:(fun (v:KH)=>v.cell? ⟨w.heap.size+1,0,none⟩=some (.slice av k cv)/\v.cell? ⟨w2.heap.size,0,none⟩=some (.int .i64 (1+ (j:Int)))/\v.cell? ⟨w2.heap.size,1,none⟩=some (.slice N P O)) w8:=by
      obtain⟨b5,g1,g4⟩:=d2.o.row.kept G;have hb:=d3 _ b5 _ _ (by decide) g1;have f:=b2.o _ G;exact⟨y6,by rw[Jl (hb.trans g1.symm)];exact f.2.1,by rw[Jl (hb.trans g1.symm)];exact f.2.2⟩
     clear a4 b3 g2 b4 j0 d3 G g3;refine C.out _ _ (fun _=>g5) ?_;clear C R;try simp only[Act.put,upA,upB,upC]
     have F:=g5;refine ae 8 F ?_;refine af 9 (fun R C=>?_);go_simp
     refine C.out _ _ (fun a3=>Ki rfl a3) ?_;clear C R;try simp only[Act.put,upA,upB,upC]
     refine ay ?_;go_wp2
     go_roundg (gO-1)
     case rel=>exact⟨k+1,p8,_,_,_,by go_num,by omega,by rw[JH,n.o];rfl,by omega,by omega,j2.o.block (Below.heap_setCell _ _ _ _ (by simp)),j1.o⟩
     case measure=>omega
  ·have y0:=J.o.c0;rw[n.o] at y0;have zb:=J.o.row.lt;have hG:=J.o.web;rw[n.o] at hG;have d4:=rT wO av cv a0 (mN:=20) (by omega) (by have:=n.o;omega) J.o.tiny (by rw[n.o];exact hG);rw[n.o] at d4;have⟨j3,n3⟩:=aD d4 Q.o;clear hG d4;go_wp2_with fail
   refine j3.o.mono ?_;intro e H hs;obtain⟨va,vn,vc,rfl,b6,hD⟩:=J.o.sorted (p:=I) (t:=400) hs Q.o (IZ _) k0 g6.o (by omega) (by omega);have⟨HD,j4⟩:=aD hD b6;have z6:=b6.lt;obtain⟨⟨_,u0⟩,h0⟩:=b6.row.at (i:=0) (by omega);clear hD b6 hs;go_wp2
   have T:=Jc H w.heap.size 0 [.slice va vn vc] (j4.o.row.there (o:=0) (m:=1) (IZ _));exact Zx [.slice va vn vc] _ results125 rfl T underlying25 rfl Tryz.fC rfl HD.o
theorem dV{P:Program}{i:Func}{R:Ending->KH->Prop}{a:Act}{p q:Tmp}{c e:TypeId}{b f:Nat}(cs h:List KI)(d d':TypeDesc)(k:i.results= #[.cell p c,.cell q e])
 (l:a.tmps.getD p undef= .pointer (some ⟨b,0,none⟩)) (m:w.rangeAt b 0 cs) (n:P.underlying c=some d) (r:d.isRow=true) (s:(P.info? c).map (·.size)=some cs.length)
 (t:a.tmps.getD q undef= .pointer (some ⟨f,0,none⟩)) (v:w.rangeAt f 0 h) (x:P.underlying e=some d') (y:d'.isRow=true) (A:(P.info? e).map (·.size)=some h.length)
 (B:a.defers=[]) (C:R (.returned (.tuple #[.agg cs.toArray,.agg h.toArray])) w):bodyPost P i R .ret a w:=by
 refine bodyPost_ret ?_ B C;have D:a.tmps[p]?.getD undef= .pointer (some ⟨b,0,none⟩):=by simpa using l
 have E:a.tmps[q]?.getD undef= .pointer (some ⟨f,0,none⟩):=by simpa using t
 simp only[results,k];simp[D,E,asAddr,run_loadVar_mid w b 0 c cs d m n r s,run_loadVar_mid w f 0 e h d' v x y A]
theorem rQ{P:Program}{id:Nat}{d:Array Oper}{Q:Exit->Act->KH->Prop}{a:Act}(J:Act->Act->KH->Prop)(h:(Code.region id d true).wp P (fun x b u=>x= .normal/\J a b u) a w)(i:∀b u,J a b u->Q .normal b u):(Code.region id d true).wp P Q a w:=
 wp_mono h fun e b u c=>by
  obtain⟨rfl,c⟩:=c;exact i b u c
def IQ(w:KH)(rb wb:Nat)(a:KG)(cap:Nat)(bs:List UInt8)(p:Nat)(na:KG)(nc:Nat)(L:List Qz)(x b:Act)(u:KH):Prop:=
 ∃(t0 t1 t2 t3 t4:KI) (sb:Nat) (v1 v2:KI) (p':Nat),b= (((((x.put (some 11) t0).put (some 12) t1).put (some 13) t2).put (some 14) t3).put (some 15) t4).put (some 5) (.pointer (some ⟨sb,0,none⟩))/\p<=p'/\p'<=p+20/\w.heap.size+2<=sb/\DS0 w u rb wb a cap bs p' na nc L/\SV L u sb v1 v2
def Es(F t K M N B:Nat):Prop:=∀(w:KH) (rb:Nat) (a:KG) (cap:Nat) (bs:List UInt8) (p:Nat),Rd w rb a cap bs p->p<=B->bs.length<=2000->
 Calls prog F #[.pointer (some ⟨rb,0,none⟩)] w fun e w'=>Bp K M N w w' rb a cap bs p t e
theorem Dw :Es 54 2000 0 20 60 500000:=by
 intro w q G H I e9 hR hp a5;obtain⟨W0,a7⟩:=ah ((w.alloc (.cells #[.slice none 0 0] 25)).alloc (.cells #[.slice none 0 0,.slice none 0 0] 29));have k0:K_ w W0:=by rw[a7];exact (ag _ _).alloc _
 have f0:W0.heap.size=w.heap.size+2:=by rw[a7];simp
 have c7:Hid (au W0 w.heap.size 25 1/\NoS W0 w.heap.size):=by
  rw[a7];have kk:K_ (w.alloc (.cells #[.slice none 0 0] 25)) ((w.alloc (.cells #[.slice none 0 0] 25)).alloc (.cells #[.slice none 0 0,.slice none 0 0] 29)):=ag _ _;exact⟨(au.made w _ _).kept kk,(sW w _ _ (fun h6 hv j5 m=>by simp at hv;rw[hv] at m;cases m)).block (kk.block _ (by simp))⟩
 have c8:Hid (SZ W0 (w.heap.size+1)):=by
  have j:=SZ.made (w.alloc (.cells #[.slice none 0 0] 25));simp only[JG] at j;rw[a7];exact j
 have f1:=Kz (hR.kept k0);have⟨h7,a8⟩:=aD hR k0;have j6:=hR.row.lt;have f2:=Kz f0;clear hR k0 f0;go_enter func54,ntmps54
 go_upto_region 1 with fail
 rw[<-a7];clear a7;go_wp2_with fail
 refine (Em (Kz EN) (Kz ED) _ q G H I e9 f1.o (by omega) a5).mono ?_;rintro m w1 ⟨h6,L,p1,rfl,j7,j8,hL,c1,hG,f3,V,_⟩;obtain⟨f,h,rfl,_,_⟩:=hG.slice;obtain⟨W1,c2⟩:=ah (w1.alloc (.cells #[.slice f L.length h] 25));obtain⟨S,d0⟩:=ah w1.heap.size;have d1:Hid (DS0 w W1 q S G H I p1 f h L):=by
  have k1:K_ w1 W1:=by rw[c2];exact ag _ _
  have z0:=f2.o;have zk:=V.size;have b1:=V.block w.heap.size c7.o.1.lt (by omega);have b2:=V.block (w.heap.size+1) c8.o.1.lt (by omega);refine⟨f3.kept k1,⟨e9,h7.o⟩,Xj.eX ⟨V.os.trans a8.o.os,V.tape.trans a8.o.tape,V.output.trans a8.o.output,Jb a8.o.size V.size,fun J hi ho=>(V.block J (I_ hi a8.o.size) ho).trans (a8.o.block J hi)⟩ k1,(c7.o.1.block b1).kept k1,(c7.o.2.block b1).block (k1.block _ (by omega)),(c8.o.1.block b2).kept k1,(c8.o.2.block b2).block (k1.block _ (by omega)), ?_, ?_,by omega,hG.kept k1⟩
  ·rw[c2,d0];exact au.made w1 _ _
  ·rw[c2,d0];exact X_ w1 _ _ 0 _ rfl
 have f4:=Kz c1;have c3:=Kz (xk (by omega) c1);have f5:=Kz (BN (by omega) c1);have d4:Hid (∀d∈L,d.name.size<=300):=fun d hd=>(c1 d hd).name
 go_upto_region 2 with fail
 rw[<-c2,<-d0];clear c2 d0 c1 hG f3 V c7 c8 f2 f1;refine rQ (IQ w q S G H I p1 f h L) ?_ ?_
 ·refine Qk.region (by kernel_rfl) (fun u=>u.cell? ⟨S,0,none⟩=some (.slice f L.length h)) 6 (d1.o.kept (aG _)).wc (fun e=>?_);have a:=Kz (d1.o.kept (aG W1));generalize W:W1.drew=r at e a⊢;clear W d1;refine ae 0 e ?_;refine ae 1 e ?_;refine ae 2 e ?_;refine bG 3 5 (fun K b=>?_) (fun K b=>?_)
  ·rw[Kg (by rfl)];go_simp
   go_at_call 94
   refine (qH r q G H I p1 f h L a.o.rd (by omega) a5 a.o.nd (by omega) d4.o).mono ?_;rintro m w2 ⟨X,Y,Z,M,rfl,_,f6,a9,a2,b0,b3,N,t⟩;have a:=Kz (a.o.drawn N t);have HT:=Kz a2.strs;clear N t a2;dsimp only;refine b.out _ _ (fun _=>a.o.wc) ?_;clear b K e;try simp only[Act.put,upA,upB,upC]
   have e:=a.o.wc;refine bG 4 5 (fun K b=>?_) (fun K b=>?_)
   ·rw[Kg (by rfl)];go_simp
    go_at_call 48
    refine (lN w2 f h L X 0 Y Z (by omega) c3.o (by omega) a9 a.o.nd.nodes HT.o).mono ?_;rintro m O ⟨E,F,rfl,v,T⟩;have a:=Kz (a.o.kept T);have p:=Kz v;clear v;dsimp only;refine b.out _ _ (fun _=>a.o.wc) ?_;clear b K e;try simp only[Act.put,upA,upB,upC]
    have e:=a.o.wc;refine ai 5 (fun K b=>?_);go_simp
    have i:=Kz (SZ.made O);have a3:w.heap.size+2<=O.heap.size:=Jb (Nat.le_of_lt (Nat.lt_of_le_of_lt a.o.wl a.o.dJ.lt)) (IZ _);have a:=Kz (a.o.kept ((K_.refl O).alloc (.cells #[.slice none 0 0,.slice none 0 0] 29)));have p:=Kz (p.o.kept ((K_.refl O).alloc (.cells #[.slice none 0 0,.slice none 0 0] 29)));refine b.out _ _ (fun _=>a.o.wc) ?_;clear b K e;try simp only[Act.put,upA,upB,upC]
    have e:=a.o.wc;obtain⟨x,y,A,B,C,D,rfl,rfl⟩:=p.o.slices;refine ai 6 (fun K b=>?_);refine wp_store_mid 29 _ _ rfl O.heap.size 0 #[.slice x y A,.slice B C D] (by rfl) (by rfl) (cO i.o.1) (by kernel_rfl) (jJ ..) ?_;refine b.out _ _ (fun j=>Ki rfl j) ?_;clear b K;try simp only[Act.put]
    refine ay ⟨rfl, ?_⟩;refine⟨.agg #[.slice f L.length h],.pointer (some ⟨q,0,none⟩),.agg #[.slice f L.length h],.slice (some ⟨X,0,none⟩) Z.length Y,.agg #[.slice x y A,.slice B C D],O.heap.size,_,_,M, ?_,b0,b3,a3,a.o.put i.o a3,i.o.put p.o⟩;simp only[Act.put,List.setIfInBounds_toArray,List.set_cons_zero,JS]
   ·rw[Kg (by rfl)];go_simp
    have i:=Kz (SZ.made w2);have a3:w.heap.size+2<=w2.heap.size:=Jb (Nat.le_of_lt (Nat.lt_of_le_of_lt a.o.wl a.o.dJ.lt)) (IZ _);have a:=Kz (a.o.kept ((K_.refl w2).alloc (.cells #[.slice none 0 0,.slice none 0 0] 29)));have HT:=Kz (HT.o.kept ((K_.refl w2).alloc (.cells #[.slice none 0 0,.slice none 0 0] 29)));refine b.out _ _ (fun _=>a.o.wc) ?_;clear b K e;try simp only[Act.put,upA,upB,upC]
    have e:=a.o.wc;refine ai 4 (fun K b=>?_);go_simp
    go_at_call 48
    refine (lN (w2.alloc (.cells #[.slice none 0 0,.slice none 0 0] 29)) f h L X 0 Y Z (by omega) c3.o (by omega) a9 a.o.nd.nodes HT.o).mono ?_;rintro m O ⟨E,F,rfl,v,T⟩;have i:=Kz (i.o.kept T);have a:=Kz (a.o.kept T);have p:=Kz v;clear v;dsimp only;refine b.out _ _ (fun _=>a.o.wc) ?_;clear b K e;try simp only[Act.put,upA,upB,upC]
    have e:=a.o.wc;obtain⟨x,y,A,B,C,D,rfl,rfl⟩:=p.o.slices;refine ai 6 (fun K b=>?_);refine wp_store_mid 29 _ _ rfl w2.heap.size 0 #[.slice x y A,.slice B C D] (by rfl) (by rfl) (cO i.o.1) (by kernel_rfl) (jJ ..) ?_;refine b.out _ _ (fun j=>Ki rfl j) ?_;clear b K;try simp only[Act.put]
    refine ay ⟨rfl, ?_⟩;refine⟨.agg #[.slice f L.length h],.pointer (some ⟨q,0,none⟩),.agg #[.slice f L.length h],.slice (some ⟨X,0,none⟩) Z.length Y,.agg #[.slice x y A,.slice B C D],w2.heap.size,_,_,M, ?_,b0,b3,a3,a.o.put i.o a3,i.o.put p.o⟩;simp only[Act.put,List.setIfInBounds_toArray,List.set_cons_zero,JS]
  ·rw[Kg (by rfl)];go_simp
   have i:=Kz (SZ.made r);have a3:w.heap.size+2<=r.heap.size:=Jb (Nat.le_of_lt (Nat.lt_of_le_of_lt a.o.wl a.o.dJ.lt)) (IZ _);have a:=Kz (a.o.kept ((K_.refl r).alloc (.cells #[.slice none 0 0,.slice none 0 0] 29)));refine b.out _ _ (fun _=>a.o.wc) ?_;clear b K e;try simp only[Act.put,upA,upB,upC]
   have e:=a.o.wc;refine ai 3 (fun K b=>?_);go_simp
   go_at_call 94
   refine (qH (r.alloc (.cells #[.slice none 0 0,.slice none 0 0] 29)) q G H I p1 f h L a.o.rd (by omega) a5 a.o.nd (by omega) d4.o).mono ?_;rintro m w2 ⟨X,Y,Z,M,rfl,_,f6,a9,a2,b0,b3,N,t⟩;have i:=Kz (i.o.drawn a.o.rd t);have a:=Kz (a.o.drawn N t);have HT:=Kz a2.strs;clear N t a2;dsimp only;refine b.out _ _ (fun _=>a.o.wc) ?_;clear b K e;try simp only[Act.put,upA,upB,upC]
   have e:=a.o.wc;refine ai 4 (fun K b=>?_);go_simp
   go_at_call 48
   refine (lN w2 f h L X 0 Y Z (by omega) c3.o (by omega) a9 a.o.nd.nodes HT.o).mono ?_;rintro m O ⟨E,F,rfl,v,T⟩;have i:=Kz (i.o.kept T);have a:=Kz (a.o.kept T);have p:=Kz v;clear v;dsimp only;refine b.out _ _ (fun _=>a.o.wc) ?_;clear b K e;try simp only[Act.put,upA,upB,upC]
   have e:=a.o.wc;obtain⟨x,y,A,B,C,D,rfl,rfl⟩:=p.o.slices;refine ai 6 (fun K b=>?_);refine wp_store_mid 29 _ _ rfl r.heap.size 0 #[.slice x y A,.slice B C D] (by rfl) (by rfl) (cO i.o.1) (by kernel_rfl) (jJ ..) ?_;refine b.out _ _ (fun j=>Ki rfl j) ?_;clear b K;try simp only[Act.put]
   refine ay ⟨rfl, ?_⟩;refine⟨.agg #[.slice f L.length h],.pointer (some ⟨q,0,none⟩),.agg #[.slice f L.length h],.slice (some ⟨X,0,none⟩) Z.length Y,.agg #[.slice x y A,.slice B C D],r.heap.size,_,_,M, ?_,b0,b3,a3,a.o.put i.o a3,i.o.put p.o⟩;simp only[Act.put,List.setIfInBounds_toArray,List.set_cons_zero,JS]
 rintro _ w5 ⟨t0,t1,t2,t3,t4,P,E,F,M,rfl,b0,b3,b4,Q,n⟩;try simp only[Act.put,upA,upB,upC]
 have⟨f7,f8⟩:=aD Q n;clear Q n d1;go_wp2
 go_loopg [6] 3 (fun g x6 wr=>∃(J p':Nat) (E F:KI),x6= .int .i64 (J:Int)/\J+g=3/\M<=p'/\p'<=M+20*J/\DS0 w wr q S G H I p' f h L/\SV L wr P E F)
 case atStart=>exact⟨0,M,E,F,rfl,rfl,IZ _,IZ _,f7.o,f8.o⟩
 case round=>
  clear f7 f8 E F;obtain⟨J,p3,E,F,rfl,hi,j9,h8,Q,n⟩:=hrel;obtain⟨s1,s2,s3,s4,s5,s6,rfl,rfl⟩:=n.st.slices;have⟨a,c⟩:=aD Q n;have c0:=n.c0;have cz:=n.row.lt;clear Q n;go_upto_region 4 with fail
  go_cut [23] from 16 to 23 (fun h9 R=>∃a0:Bool,h9= .bool a0/\R=wr/\(a0=true->J<3))
  case first=>
   by_cases h3:(J:Int)<3
   ·go_wp2
    go_meet
    exact⟨_,rfl,rfl,fun _=>by omega⟩
   ·go_wp2
    go_meet
    exact⟨false,rfl,rfl,fun j=>by cases j⟩
  case rest=>
   obtain⟨a0,rfl,rfl,hb⟩:=hcut;have HB:=Kz hb;clear hb c0;cases a0
   ·have k2:p3<=M+60:=by omega
    clear h8 hi HB;go_wp2_with fail
    refine (aI _ q G H I p3 _ 40 rfl a.o.rd (by omega) (by omega) a5).mono ?_;rintro m w2 ⟨q2,rfl,i0,N,t⟩;have f9:=Kz (c.o.drawn a.o.rd t);have d2:=Kz (a.o.drawn N t);clear N t a c cz;go_wp2_with fail
    refine (aI _ q G H I (p3+1) _ 3 rfl d2.o.rd (by omega) (by omega) a5).mono ?_;rintro m O ⟨q3,rfl,i1,g0,d5⟩;have g1:=Kz (f9.o.drawn d2.o.rd d5);have g2:=Kz (d2.o.drawn g0 d5);clear g0 d5 d2 f9;go_upto_if 35 with fail
    go_cut [7] from 35 to 36 (fun s7 R=>∃b5:Nat,s7= .int .i64 (b5:Int)/\b5<=600/\R=O)
    case first=>
     by_cases h5:q3=0
     ·have i2:((q3:Int) == 0)=true:=by simp[h5]
      clear h5;go_wp2
      go_meet
      exact⟨600,rfl,IZ _,rfl⟩
     ·have i2:((q3:Int) == 0)=false:=by simpa using h5
      clear h5;go_wp2
      go_meet
      exact⟨q2,rfl,by omega,rfl⟩
    case rest=>
     obtain⟨b5,rfl,hn,rfl⟩:=hcut;go_wp2
     go_loopg [7] b5 (fun g x7 wr=>∃(p':Nat) (E F:KI),x7= .int .i64 (g:Int)/\g<=b5/\p3<=p'/\p'+g<=p3+2+b5/\DS0 w wr q S G H I p' f h L/\SV L wr P E F)
     case atStart=>exact⟨p3+2,_,_,rfl,IZ _,by omega,by omega,g2.o,g1.o⟩
     case round=>
      clear g2 g1 s1 s2 s3 s4 s5 s6 i0 i1;obtain⟨p7,E,F,rfl,k3,k4,k5,Q,n⟩:=hrel;have⟨a,c⟩:=aD Q n;obtain⟨s1,s2,s3,s4,s5,s6,rfl,rfl⟩:=n.st.slices;clear Q n;by_cases k6:(0:Int)<(gk:Int)
      ·have c0:=c.o.c0;have d6:=c.o.c1;have cz:=c.o.row.lt;have cw:=a.o.wc;have zw:=a.o.dJ.lt;go_upto_region 12 with fail
       go_cut [8] from 37 to 43 (fun s8 R=>∃(la:KG) (l:List KC) (lc:Nat),s8= .slice la l.length lc/\DS0 w R q S G H I p7 f h L/\SV L R P (.slice s1 s2 s3) (.slice s4 s5 s6)/\Hid (0<l.length->Strs R la l/\∃Kj k qb qo,s1=some ⟨qb,qo,none⟩/\s2=Kj.length/\s5=k.length/\bu L 0/\fV Kj/\fM L k/\Strs R s1 Kj/\bK R s4 k/\fH (Kk L) (Qq k) k l))
       case first=>
        rcases c.o.st with⟨c4,c5⟩|⟨Kj,k,qb,qo,rc,d,dc,c4,c5,hW,hY,a6,hS,hX⟩
        ·simp only[JJ] at c4 c5;obtain⟨rfl,rfl,rfl⟩:=c4;obtain⟨rfl,rfl,rfl⟩:=c5;go_wp2_with fail
         refine (qX wr f h L none 0 0 none 0 [] (by omega) (by simp) f5.o (fun U hr=>by cases hr) a.o.nd.nodes (fun J hi=>by simp at hi)).mono ?_;rintro m w8 ⟨⟨la,lc,l,rfl,a1,_⟩,s⟩;obtain rfl:l=[]:=Kn (by have:=a1.len;simpa using this);have d7:=Kz (a.o.kept s);have d8:=Kz (c.o.kept s);clear c0 d6 cz cw zw s a1;go_wp2
         go_meet
         exact⟨_,[],_,rfl,d7.o,d8.o,Kz (fun j=>by cases j)⟩
        ·simp only[JJ] at c4 c5;obtain⟨rfl,rfl,rfl⟩:=c4;obtain⟨rfl,rfl,rfl⟩:=c5;have⟨HW,HY,b6,HS,HX⟩:=iU hW hY a6 hS hX;have i3:=a6.len;have k7:=hY.1;clear hW hY a6 hS hX;go_wp2_with fail
         refine (qX wr f h L (some ⟨qb,qo,none⟩) Kj.length s3 s4 s6 k (by omega) (by omega) f5.o (fun U hr _ _=>(b6.o.good U hr).act) a.o.nd.nodes HX.o).mono ?_;rintro m w8 ⟨⟨la,lc,l,rfl,a1,g3⟩,s⟩;have d9:=Kz a1;have a4:Hid (Strs w8 la l):=by
          obtain⟨k8,c9,g4,i4⟩:=bi g3;simp only[JJ,true_and] at g4;obtain⟨rfl,rfl⟩:=g4;exact i4
         have d7:=Kz (a.o.kept s);have d8:=Kz (c.o.kept s);have i5:=Kz (HS.o.kept s);have i6:=Kz (HX.o.kept s);clear c0 d6 cz cw zw s a1 g3;go_wp2
         go_meet
         exact⟨_,l,_,rfl,d7.o,d8.o,Kz (fun _=>⟨a4.o,Kj,k,qb,qo,rfl,rfl,rfl,HW.o,HY.o,b6.o,i5.o,i6.o,d9.o⟩)⟩
       case rest=>
        clear a c c0 d6 cz cw zw;obtain⟨la,l,lc,rfl,Q,n,e0⟩:=hcut;have⟨a,c⟩:=aD Q n;have c0:=n.c0;have cz:=n.row.lt;clear Q n;obtain⟨wy,rfl⟩:=ah wc;go_upto_region 13 with fail
        go_cut [51] from 43 to 51 (fun i7 R=>∃a0:Bool,i7= .bool a0/\R=wy/\(a0=false->0<l.length))
        case first=>
         by_cases c6:l.length=0
         ·have i8:((l.length:Int) == 0)=true:=by simp[c6]
          clear c6;go_wp2
          go_meet
          exact⟨true,rfl,rfl,fun j=>by cases j⟩
         ·have i8:((l.length:Int) == 0)=false:=by simpa using c6
          have i9:=Kz c6;clear c6;go_wp2
          go_meet
          exact⟨_,rfl,rfl,fun _=>Nat.pos_of_ne_zero i9.o⟩
        case rest=>
         obtain⟨a0,rfl,rfl,hb⟩:=hcut;have e1:=Kz hb;clear hb c0 cz;cases a0
         ·have e2:=e1.o rfl;obtain⟨g5,Kj,k,qb,qo,rfl,rfl,rfl,hW,hY,a6,hS,hX,a1⟩:=e0.o e2;obtain⟨rc,rfl⟩:=ah s3;obtain⟨d,rfl⟩:=ah s4;obtain⟨dc,rfl⟩:=ah s6;have⟨HW,HY,b6,d9,a4⟩:=iU hW hY a6 a1 g5;have⟨b7,b8,j0⟩:=eB hS hX e2;have i3:=a6.len;have l0:=a1.len;have l1:=hY.2.1;clear hW hY a6 hS hX a1 g5 e2 e0 e1;go_wp2
          refine Qk.region (by kernel_rfl) (fun u=>u.cell? ⟨S,0,none⟩=some (.slice f L.length h)/\u.cell? ⟨P,0,none⟩=some (.slice (some ⟨qb,qo,none⟩) Kj.length rc)/\u.cell? ⟨P,1,none⟩=some (.slice d k.length dc)) 10 ⟨(a.o.kept (aG _)).wc,(c.o.kept (aG _)).c0,(c.o.kept (aG _)).c1⟩ (fun e=>?_);have c:=Kz (c.o.kept (aG wc));have a:=Kz (a.o.kept (aG wc));have a4:=Kz (a4.o.kept (aG wc));have b7:=Kz (b7.o.kept (aG wc));have b8:=Kz (b8.o.kept (aG wc));generalize W:wc.drew=r at e a c a4 b7 b8⊢;clear W;refine aB 0 e ?_;refine ae 4 e ?_;refine ae 5 e ?_;refine ai 6 (fun K b=>?_);go_simp
          go_at_call 21
          refine (iO r q G H I p7 l.length a.o.rd (by omega) (by omega) a5).mono ?_;rintro m w8 ⟨kk,rfl,l2,g6,b9⟩;have a4:=Kz (a4.o.noS a.o.rd.noS b9);have b7:=Kz (b7.o.noS a.o.rd.noS b9);have b8:=Kz (b8.o.noS a.o.rd.noS b9);have c:=Kz (c.o.drawn a.o.rd b9);have a:=Kz (a.o.drawn g6 b9);have e3:kk<l.length:=by have:=j0.o;omega
          obtain⟨d3,e4⟩:=ah (l.getD kk ByteArray.empty);obtain⟨lb,lo,rfl,l3,j1⟩:=a4.o kk e3;rw[<-e4] at j1;have j2:Hid (∃U,U∈k/\Qq k d3=some U/\aV (Kk L) (Qq k) U):=by
           have hm:d3∈l:=by rw[e4];simp only[List.getD,Jd e3,Kl];exact Ji e3
           obtain⟨U,h1,h2,h3⟩:=(d9.o.mem d3).1 hm;exact⟨U,h1,by rw[<-h2];exact bn b6.o.asc h1,h3⟩
          obtain⟨U,g7,g8,g9⟩:=j2.o;have⟨j3,h0,j4⟩:=eB g8 g9 g7;have l4:(kk:Int)<(l.length:Int):=by omega
          clear g6 b9 e4 g8 g9 g7;dsimp only;refine b.out _ _ (fun _=>⟨a.o.wc,c.o.c0,c.o.c1⟩) ?_;clear b K e;try simp only[Act.put,upA,upB,upC]
          refine ai 7 (fun K b=>?_);go_simp
          refine b.out _ _ (fun _=>⟨a.o.wc,c.o.c0,c.o.c1⟩) ?_;clear b K;try simp only[Act.put,upA,upB,upC]
          refine ai 8 (fun K b=>?_);go_simp
          refine b.out _ _ (fun _=>⟨a.o.wc,c.o.c0,c.o.c1⟩) ?_;clear b K;try simp only[Act.put,upA,upB,upC]
          refine ai 9 (fun K b=>?_);go_simp
          go_at_call 50
          refine (yg w8 f h L qb qo rc Kj d dc k d3 U (by omega) (by omega) (lw HW.o) (dL HW.o) c3.o (by omega) b6.o j3.o h0.o a.o.nd.nodes b8.o b7.o).mono ?_;rintro m w9 h4;obtain⟨E,F,rfl,v,k9⟩:=h4.z HW.o HY.o (Aa (dL HW.o) b6.o j4.o h0.o);have i:=Kz (c.o.z.kept k9);have c:=Kz (c.o.kept k9);have a:=Kz (a.o.kept k9);have p:=Kz v;clear v h4;dsimp only;refine b.out _ _ (fun _=>⟨a.o.wc,c.o.c0,c.o.c1⟩) ?_;clear b K;try simp only[Act.put,upA,upB,upC]
          obtain⟨x,y,A,B,C,D,rfl,rfl⟩:=p.o.slices;refine ai 10 (fun K b=>?_);refine wp_store_mid 29 _ _ rfl P 0 #[.slice x y A,.slice B C D] (by rfl) (by rfl) (cO i.o.1) (by kernel_rfl) (jJ ..) ?_;refine b.out _ _ (fun j=>Ki rfl j) ?_;clear b K;try simp only[Act.put]
          refine ay ?_;go_wp2_with fail
          have e5:=Kz (a.o.put (v1:= .slice x y A) (v2:= .slice B C D) i.o b4);have e6:=Kz (i.o.put p.o);go_roundg (gk-1)
          case measure=>omega
          case rel=>exact⟨p7+1,_,_,by go_num,by omega,by omega,by omega,e5.o,e6.o⟩
         ·clear e0 e1;go_wp2
          refine Qk.region (by kernel_rfl) (fun u=>u.cell? ⟨S,0,none⟩=some (.slice f L.length h)/\u.cell? ⟨P,0,none⟩=some (.slice s1 s2 s3)/\u.cell? ⟨P,1,none⟩=some (.slice s4 s5 s6)) 4 ⟨(a.o.kept (aG _)).wc,(c.o.kept (aG _)).c0,(c.o.kept (aG _)).c1⟩ (fun e=>?_);have c:=Kz (c.o.kept (aG wc));have a:=Kz (a.o.kept (aG wc));generalize W:wc.drew=r at e a c⊢;clear W;refine ae 0 e ?_;refine ae 1 e ?_;refine ai 2 (fun K b=>?_);go_simp
          go_at_call 53
          refine (v_ r L _ _ c.o.st).mono ?_;rintro m w8 ⟨ra,rc,d,dc,Kj,k,rfl,hU,s⟩;have a:=Kz (a.o.kept s);have c:=Kz (c.o.kept s);have HU:=Kz hU;clear hU;dsimp only;refine b.out _ _ (fun _=>⟨a.o.wc,c.o.c0,c.o.c1⟩) ?_;clear b K e;try simp only[Act.put,upA,upB,upC]
          obtain⟨_,e7,e8⟩:=a.o.range (.slice f L.length h) (.slice ra Kj.length rc) (.slice d k.length dc);refine ai 3 (fun K b=>?_);refine a.o.w1 rfl rfl rfl ?_;refine b.out _ _ (fun _=>⟨a.o.st1 a.o.dJ a.o.wl a.o.wc,a.o.st1 c.o.row b4 c.o.c0,a.o.st1 c.o.row b4 c.o.c1⟩) ?_;clear b K;try simp only[Act.put]
          refine ai 4 (fun K b=>?_);refine a.o.w2 rfl rfl rfl ?_;refine b.out _ _ (fun j=>Ki rfl j) ?_;clear b K;try simp only[Act.put]
          refine ay ?_;go_wp2_with fail
          exact dV [.slice f L.length h] [.slice ra Kj.length rc,.slice d k.length dc] _ _ results54 rfl e7 underlying25 rfl Tryz.fC rfl e8 underlying29 rfl Tryz.bB rfl (a.o.ends a.o.nd HU.o (by omega) (by omega) hL f4.o)
      ·go_wp2
       refine Qk.region (by kernel_rfl) (fun u=>u.cell? ⟨S,0,none⟩=some (.slice f L.length h)/\u.cell? ⟨P,0,none⟩=some (.slice s1 s2 s3)/\u.cell? ⟨P,1,none⟩=some (.slice s4 s5 s6)) 4 ⟨(a.o.kept (aG _)).wc,(c.o.kept (aG _)).c0,(c.o.kept (aG _)).c1⟩ (fun e=>?_);have c:=Kz (c.o.kept (aG wr));have a:=Kz (a.o.kept (aG wr));generalize W:wr.drew=r at e a c⊢;clear W;refine ae 0 e ?_;refine ae 1 e ?_;refine ai 2 (fun K b=>?_);go_simp
       go_at_call 53
       refine (v_ r L _ _ c.o.st).mono ?_;rintro m w8 ⟨ra,rc,d,dc,Kj,k,rfl,hU,s⟩;have a:=Kz (a.o.kept s);have c:=Kz (c.o.kept s);have HU:=Kz hU;clear hU;dsimp only;refine b.out _ _ (fun _=>⟨a.o.wc,c.o.c0,c.o.c1⟩) ?_;clear b K e;try simp only[Act.put,upA,upB,upC]
       obtain⟨_,e7,e8⟩:=a.o.range (.slice f L.length h) (.slice ra Kj.length rc) (.slice d k.length dc);refine ai 3 (fun K b=>?_);refine a.o.w1 rfl rfl rfl ?_;refine b.out _ _ (fun _=>⟨a.o.st1 a.o.dJ a.o.wl a.o.wc,a.o.st1 c.o.row b4 c.o.c0,a.o.st1 c.o.row b4 c.o.c1⟩) ?_;clear b K;try simp only[Act.put]
       refine ai 4 (fun K b=>?_);refine a.o.w2 rfl rfl rfl ?_;refine b.out _ _ (fun j=>Ki rfl j) ?_;clear b K;try simp only[Act.put]
       refine ay ?_;go_wp2_with fail
       exact dV [.slice f L.length h] [.slice ra Kj.length rc,.slice d k.length dc] _ _ results54 rfl e7 underlying25 rfl Tryz.fC rfl e8 underlying29 rfl Tryz.bB rfl (a.o.ends a.o.nd HU.o (by omega) (by omega) hL f4.o)
   ·have l5:=HB.o rfl;clear HB;go_wp2
    refine Qk.region (by kernel_rfl) (fun u=>u.cell? ⟨S,0,none⟩=some (.slice f L.length h)) 5 (a.o.kept (aG _)).wc (fun e=>?_);have i:=Kz (c.o.z.kept (aG wc));have a:=Kz (a.o.kept (aG wc));generalize W:wc.drew=r at e a i⊢;clear W c;refine ae 0 e ?_;refine ae 1 e ?_;refine ae 2 e ?_;refine ai 3 (fun K b=>?_);go_simp
    go_at_call 94
    refine (qH r q G H I p3 f h L a.o.rd (by omega) a5 a.o.nd (by omega) d4.o).mono ?_;rintro m w2 ⟨X,Y,Z,M,rfl,_,f6,a9,a2,b0,b3,N,t⟩;have i:=Kz (i.o.drawn a.o.rd t);have a:=Kz (a.o.drawn N t);have HT:=Kz a2.strs;clear N t a2;dsimp only;refine b.out _ _ (fun _=>a.o.wc) ?_;clear b K e;try simp only[Act.put,upA,upB,upC]
    have e:=a.o.wc;refine ai 4 (fun K b=>?_);go_simp
    go_at_call 48
    refine (lN w2 f h L X 0 Y Z (by omega) c3.o (by omega) a9 a.o.nd.nodes HT.o).mono ?_;rintro m O ⟨E,F,rfl,v,T⟩;have i:=Kz (i.o.kept T);have a:=Kz (a.o.kept T);have p:=Kz v;clear v;dsimp only;refine b.out _ _ (fun _=>a.o.wc) ?_;clear b K e;try simp only[Act.put,upA,upB,upC]
    have e:=a.o.wc;obtain⟨x,y,A,B,C,D,rfl,rfl⟩:=p.o.slices;refine ai 5 (fun K b=>?_);refine wp_store_mid 29 _ _ rfl P 0 #[.slice x y A,.slice B C D] (by rfl) (by rfl) (cO i.o.1) (by kernel_rfl) (jJ ..) ?_;refine b.out _ _ (fun j=>Ki rfl j) ?_;clear b K;try simp only[Act.put]
    refine ay ?_;go_wp2_with fail
    have e5:=Kz (a.o.put (v1:= .slice x y A) (v2:= .slice B C D) i.o b4);have e6:=Kz (i.o.put p.o);go_roundg (gk-1)
    case measure=>omega
    case rel=>exact⟨J+1,M,_,_,by go_num,by omega,by omega,by omega,e5.o,e6.o⟩
variable {w' : KH}
theorem SZ.qj{u:TypeId}(h:SZ w g)(k:ak u w w')(b:29≠u):SZ w' g:=by
 obtain⟨c,d⟩:=h.1.eF k b;exact⟨c,fun o s e=>h.2 o s (by rw[<-d o];exact e)⟩
theorem eD.blk{t:TypeId}{l:List KC}(h:eD w t a l)(k:∀g:Addr,a=some g->w'.heap[g.block]? =w.heap[g.block]?):eD w' t a l:=by
 rcases h with h|⟨b,e,f,c,i,j⟩
 ·exact .inl h
 ·have d:w'.heap[b]? =w.heap[b]? :=k _ c;exact .inr ⟨b,e,f,c,d.trans i,fun m n=>by rw[Jl (w:=w) d];exact j m n⟩
variable {base : Nat}
theorem xE{size:Nat}{e:TypeId}(h:w.ownsRow base e size v n xs)(k:∀g,v.ownBlock=some g->w'.heap[g]? =w.heap[g]?):w'.ownsRow base e size v n xs:=by
 refine⟨h.1, ?_⟩;rcases h.2 with a|⟨g,b,c,rfl,d,f,rest⟩
 ·exact .inl a
 ·exact .inr ⟨g,b,c,rfl,d,(k g rfl).trans f,rest⟩
theorem nJ{size:Nat}{e:TypeId}(h:w.ownsRow base e size (.slice a n c) n xs)(g:Addr)(b:a=some g):(Value.slice a n c).ownBlock=some g.block:=by
 subst b;rfl
variable {P : Nat -> Prop}
theorem bE.grown{l:List Q_}{f:Option Nat}(h:bE w P xs l)(g:w.grownBy w' f)(m:∀b,P b->some b≠f):bE w' P xs l:=by
 refine⟨h.1,fun n p=>?_⟩;obtain⟨c,q,e,r,s,i,d⟩:=h.2 n p;have j:∀a:Addr,c=some a->w'.heap[a.block]? =w.heap[a.block]? :=fun a e=>g.block _ (d.lt a.block (nJ d a e)).2 (m _ (i a e))
 exact⟨c,q,e,r.blk j,s,i,xE d (fun t k=>by
  cases c with
  | none=>cases k
  | some a=>
   have v:a.block=t:=by simpa[Value.ownBlock] using k
   rw[<-v];exact j a rfl)⟩
theorem bE.erase{l:List Q_}(h:bE w P xs l)(e:k<l.length):bE w P (xs.take (k*7)++xs.drop ((k+1)*7)) (l.eraseIdx k):=by
 have j:=h.1;have c:(xs.take (k*7)).length=k*7:=by rw[Jt];omega
 have f:(l.eraseIdx k).length=l.length-1:=List.length_eraseIdx_of_lt e;refine⟨by rw[JH,c,List.length_drop,f];omega,fun i m=>?_⟩;by_cases d:i<k
 ·have a:(l.eraseIdx k).getD i Q_.zero=l.getD i Q_.zero:=by simp[List.getD,List.getElem?_eraseIdx,d]
  have b:((xs.take (k*7)++xs.drop ((k+1)*7)).drop (i*7)).take 7= (xs.drop (i*7)).take 7:=by
   rw[List.drop_append_of_le_length (by omega),List.take_append_of_le_length (by rw[List.length_drop];omega),List.drop_take,List.take_take]
   congr 1
   omega
  rw[a,b];exact h.2 i (by omega)
 ·have a:(l.eraseIdx k).getD i Q_.zero=l.getD (i+1) Q_.zero:=by simp[List.getD,List.getElem?_eraseIdx,d]
  have b:((xs.take (k*7)++xs.drop ((k+1)*7)).drop (i*7)).take 7= (xs.drop ((i+1)*7)).take 7:=by
   rw[List.drop_append,List.drop_of_length_le (by omega),List.nil_append,c,List.drop_drop]
   congr 2
   omega
  rw[a,b];exact h.2 (i+1) (by omega)
theorem bE.one{l:List Q_}(h:bE w P xs l):∀u∈xs,u.oneCell'=true:=fun u b=>by
 obtain⟨i,f,rfl⟩:=Jk b;have j:=h.1;obtain⟨c,d,e,_⟩:=h.2 (i / 7) (by omega);have a:xs[i]∈(xs.drop (i / 7*7)).take 7:=by
  have:((xs.drop (i / 7*7)).take 7)[i % 7]? =some xs[i]:=by
   rw[List.getElem?_take,Kg (by omega),List.getElem?_drop,Je];refine⟨by omega, ?_⟩
   congr 1
   omega
  exact Jm this
 rw[e] at a;exact Q_.one _ c d _ a
structure SpS (N:Nat) (w wr:KH) (rb sb:Nat) (a:KG) (cap:Nat) (bs:List UInt8) (p:Nat) (ra:KG) (rc:Nat) (d:KG) (dc:Nat) (Kj:List KC) (sl:List Q_) (xs:List KI) (z:Nat):Prop where
 rd:Rd wr rb a cap bs p
 rd0:∃p0,Rd w rb a cap bs p0
 kb:Xj rb (rb+1) w wr
 res:SZ wr (w.heap.size+1)
 row:au wr sb 29 2
 c0:wr.cell? ⟨sb,0,none⟩=some (.slice ra Kj.length rc)
 c1:wr.cell? ⟨sb,1,none⟩=some (.slice d sl.length dc)
 sbl:w.heap.size+2<=sb
 yK:wr.ownsRow (w.heap.size+2) 9 1 (.slice ra Kj.length rc) Kj.length (Kj.map Value.string)
 jY:wr.ownsRow (w.heap.size+2) 40 7 (.slice d sl.length dc) sl.length xs
 pack:bE wr (fun b=>z<=b) xs sl
 ap:BF xs
 zl:w.heap.size+2<=z
 r0:∀g,(Value.slice ra Kj.length rc).ownBlock=some g->g<z
 rn:Kj.length<=10+N
 rz:∀s∈Kj,s.size<=300
 sn:sl.length<=60+N
 sb':∀r∈sl,mR N r
structure SpK (N:Nat) (w wr:KH) (rb sb:Nat) (a:KG) (cap:Nat) (bs:List UInt8) (p:Nat) (ra:KG) (rc:Nat) (d:KG) (dc:Nat) (Kj:List KC) (sl:List Q_) (xs:List KI) (k:Nat):Prop where
 rd:Rd wr rb a cap bs p
 rd0:∃p0,Rd w rb a cap bs p0
 kb:Xj rb (rb+1) w wr
 res:SZ wr (w.heap.size+1)
 row:au wr sb 29 2
 c0:wr.cell? ⟨sb,0,none⟩=some (.slice ra Kj.length rc)
 c1:wr.cell? ⟨sb,1,none⟩=some (.slice d sl.length dc)
 sbl:w.heap.size+2<=sb
 rts:eD wr 9 ra Kj/\Kj.length<=rc
 jY:wr.ownsRow (w.heap.size+2) 40 7 (.slice d sl.length dc) sl.length xs
 pack:xs.length=sl.length*7/\∀i,i<sl.length->i≠k->∃xa xc,(xs.drop (i*7)).take 7= (sl.getD i Q_.zero).cells xa xc/\eD wr 9 xa (sl.getD i Q_.zero).texts/\(xa=none->xc=0)
 rn:Kj.length<=10+N
 rz:∀s∈Kj,s.size<=300
 sn:sl.length<=60+N
 sb':∀r∈sl,mR N r
structure SpB (N:Nat) (w wr:KH) (rb sb:Nat) (a:KG) (cap:Nat) (bs:List UInt8) (p:Nat) (ra:KG) (rc:Nat) (Kj:List KC):Prop where
 rd:Rd wr rb a cap bs p
 rd0:∃p0,Rd w rb a cap bs p0
 kb:Xj rb (rb+1) w wr
 res:SZ wr (w.heap.size+1)
 row:au wr sb 29 2
 c0:wr.cell? ⟨sb,0,none⟩=some (.slice ra Kj.length rc)
 sbl:w.heap.size+2<=sb
 rts:eD wr 9 ra Kj/\Kj.length<=rc
 rn:Kj.length<=10+N
 rz:∀s∈Kj,s.size<=300
structure A_ (N:Nat) (w u:KH) (rb sb:Nat) (a:KG) (cap:Nat) (bs:List UInt8) (p:Nat) (ra:KG) (rc:Nat) (d:KG) (dc:Nat) (Kj:List KC) (sl:List Q_):Prop where
 rd:Rd u rb a cap bs p
 rd0:∃p0,Rd w rb a cap bs p0
 kb:Xj rb (rb+1) w u
 res:SZ u (w.heap.size+1)
 row:au u sb 29 2
 c0:u.cell? ⟨sb,0,none⟩=some (.slice ra Kj.length rc)
 c1:u.cell? ⟨sb,1,none⟩=some (.slice d sl.length dc)
 st:StU N u ra rc d Kj sl
def Ev(N:Nat)(w w':KH)(rb:Nat)(a:KG)(cap:Nat)(bs:List UInt8)(p t:Nat)(e:Ending):Prop:=
 ∃(ra:KG) (rc:Nat) (d:KG) (dc:Nat) (Kj:List KC) (sl:List Q_) (p':Nat),e= .returned (.agg #[.slice ra Kj.length rc,.slice d sl.length dc])/\p<=p'/\p'<=p+t/\StU N w' ra rc d Kj sl/\Rd w' rb a cap bs p'/\Xj rb (rb+1) w w'
variable {dc' xb xc : Nat} {d' xa : KG} {r : Q_} {u : KH}
section
variable {N : Nat} {w wr w' : KH} {rb sb : Nat} {a : KG} {cap : Nat} {bs : List UInt8} {p p' : Nat} {ra : KG} {rc : Nat} {d : KG} {dc : Nat} {Kj : List KC} {sl : List Q_} {xs : List KI} {z k : Nat}
theorem A_.ends{p0 t:Nat}(h:A_ N w wr rb sb a cap bs p ra rc d dc Kj sl)(e:p0<=p)(h2:p<=p0+t):Ev N w ((wr.setCell ⟨w.heap.size+1,0,none⟩ (.slice ra Kj.length rc)).setCell ⟨w.heap.size+1,1,none⟩ (.slice d sl.length dc)) rb a cap bs p0 t (.returned (.agg #[.slice ra Kj.length rc,.slice d sl.length dc])):=by
 obtain⟨k,f⟩:=h.rd0;have b:Xj (w.heap.size+1) (w.heap.size+1+1) wr (wr.setCells (w.heap.size+1) 0 [.slice ra Kj.length rc,.slice d sl.length dc]):=Xj.sets (IZ _) (Jw _) _ 0 (Xj.refl _ _ _);have c:Below w.heap.size wr (wr.setCells (w.heap.size+1) 0 [.slice ra Kj.length rc,.slice d sl.length dc]):=⟨b.os,b.tape,b.output,b.size,fun i j=>b.block i (I_ j h.kb.size) (by omega)⟩;exact⟨ra,rc,d,dc,Kj,sl,p,rfl,e,h2,h.st.noS h.res.2 b,h.rd.below f c h.kb.size,h.kb.below c⟩
theorem SpS.drawn(h:SpS N w wr rb sb a cap bs p ra rc d dc Kj sl xs z)(f:Rd w' rb a cap bs p')(k:Xj rb (rb+1) wr w'):SpS N w w' rb sb a cap bs p' ra rc d dc Kj sl xs z:=by
 have c:=k.sameKind h.rd;have e:=h.row.eF c (by decide);exact⟨f,h.rd0,h.kb.trans k,h.res.qj c (by decide),e.1,(e.2 0).trans h.c0,(e.2 1).trans h.c1,h.sbl,aH h.yK c (by decide),aH h.jY c (by decide),h.pack.same c (by decide),h.ap,h.zl,h.r0,h.rn,h.rz,h.sn,h.sb'⟩
theorem SpS.kept(h:SpS N w wr rb sb a cap bs p ra rc d dc Kj sl xs z)(k:K_ wr w'):SpS N w w' rb sb a cap bs p ra rc d dc Kj sl xs z:=h.drawn (h.rd.kept k) (.aC k)
theorem SpS.but(h:SpS N w wr rb sb a cap bs p ra rc d dc Kj sl xs z)(j:au wr xb 40 n)(k:Xj xb (xb+1) wr w')(s:w.heap.size+2<=xb)(l:∀g,(Value.slice d sl.length dc).ownBlock=some g->g<xb):SpS N w w' rb sb a cap bs p ra rc d dc Kj sl xs z:=by
 have b:=fO k j;obtain⟨m,e⟩:=h.rd0;have c:=h.row.eF b (by decide);have f:Below w.heap.size wr w':=⟨k.os,k.tape,k.output,k.size,fun q r=>k.block q (I_ r h.kb.size) (by omega)⟩;exact⟨h.rd.below e f h.kb.size,⟨m,e⟩,h.kb.below f,h.res.qj b (by decide),c.1,(c.2 0).trans h.c0,(c.2 1).trans h.c1,h.sbl,aH h.yK b (by decide),xE h.jY (fun g i=>k.block g (h.jY.lt g i).2 (by have:=l g i;omega)),h.pack.same b (by decide),h.ap,h.zl,h.r0,h.rn,h.rz,h.sn,h.sb'⟩
theorem SpS.weak(h:SpS N w wr rb sb a cap bs p ra rc d dc Kj sl xs z)(k:Nat):SpK N w wr rb sb a cap bs p ra rc d dc Kj sl xs k:=by
 obtain⟨r,s,b,c,e⟩:=bf h.yK;simp only[JJ,true_and] at b;obtain⟨rfl,rfl⟩:=b;exact⟨h.rd,h.rd0,h.kb,h.res,h.row,h.c0,h.c1,h.sbl,⟨e,c⟩,h.jY,⟨h.pack.1,fun i f _=>by obtain⟨j,l,m,n,q,_⟩:=h.pack.2 i f;exact⟨j,l,m,n,q⟩⟩,h.rn,h.rz,h.sn,h.sb'⟩
theorem SpS.grown{I:List KI}(h:SpS N w wr rb sb a cap bs p ra rc d dc Kj sl xs z)(J:k<sl.length)(K:(xs.drop (k*7)).take 7= (sl.getD k Q_.zero).cells xa xc)(L:wr.ownsRow 0 9 1 (.slice xa n xc) n I)(M:∀g:Addr,xa=some g->z<=g.block)(b:wr.grownBy w' (Value.slice xa n xc).ownBlock):SpK N w w' rb sb a cap bs p ra rc d dc Kj sl xs k:=by
 have l:=ak.aK L b;obtain⟨O,t⟩:=h.rd0;have q:=h.row.eF l (by decide);have v:∀g,(Value.slice xa n xc).ownBlock=some g->z<=g:=fun g e=>by
  cases xa with
  | none=>cases e
  | some ad=>
   have c:ad.block=g:=by simpa[Value.ownBlock] using e
   rw[<-c];exact M ad rfl
 have U:=h.zl;have x:Below w.heap.size wr w':=⟨b.os,b.tape,b.output,b.size,fun i f=>b.block i (I_ f h.kb.size) (fun e=>by have:=v i e.symm;omega)⟩;have y:=h.weak k;refine⟨h.rd.below t x h.kb.size,⟨O,t⟩,h.kb.below x,h.res.qj l (by decide),q.1,(q.2 0).trans h.c0,(q.2 1).trans h.c1,h.sbl,⟨y.rts.1.blk (fun g e=>?_),y.rts.2⟩,aH h.jY l (by decide),⟨h.pack.1,fun i f P=>?_⟩,h.rn,h.rz,h.sn,h.sb'⟩
 ·have A:=nJ h.yK g e;exact b.block _ (h.yK.lt _ A).2 (fun c=>by have B:=v _ c.symm;have C:=h.r0 _ A;omega)
 ·obtain⟨Q,R,D,B,C,V,E⟩:=h.pack.2 i f;refine⟨Q,R,D,B.blk (fun g e=>b.block _ (E.lt _ (nJ E g e)).2 (fun c=>?_)),C⟩;cases xa with
  | none=>cases c
  | some ad=>
   have W:ad.block=g.block:=by simpa[Value.ownBlock] using c.symm
   subst e;have F:∀j (r:KG) (m e:Nat),j<sl.length->(xs.drop (j*7)).take 7= (sl.getD j Q_.zero).cells r e->xs[j*7+6]? =some (.slice r (sl.getD j Q_.zero).texts.length e):=fun j r _ e X S=>by
    have:=congrArg (fun T:List KI=>T[6]?) S;simpa[List.getElem?_take,List.getElem?_drop,Q_.cells] using this
   have G:=F i _ 0 _ f D;have H:=F k _ 0 _ J K;rcases Nat.lt_or_gt_of_ne P with s|s
   ·have:=h.ap i k _ _ _ _ _ _ s G H;omega
   ·have:=h.ap k i _ _ _ _ _ _ s H G;omega
theorem SpK.but(h:SpK N w wr rb sb a cap bs p ra rc d dc Kj sl xs k)(q:au wr xb 40 n)(b:Xj xb (xb+1) wr w')(C:w.heap.size+2<=xb)(r:∀g,(Value.slice d sl.length dc).ownBlock=some g->g<xb):SpK N w w' rb sb a cap bs p ra rc d dc Kj sl xs k:=by
 have c:=fO b q;obtain⟨s,j⟩:=h.rd0;have e:=h.row.eF c (by decide);have l:Below w.heap.size wr w':=⟨b.os,b.tape,b.output,b.size,fun i f=>b.block i (I_ f h.kb.size) (by omega)⟩;exact⟨h.rd.below j l h.kb.size,⟨s,j⟩,h.kb.below l,h.res.qj c (by decide),e.1,(e.2 0).trans h.c0,(e.2 1).trans h.c1,h.sbl,⟨h.rts.1.same c (by decide),h.rts.2⟩,xE h.jY (fun g m=>b.block g (h.jY.lt g m).2 (by have:=r g m;omega)),⟨h.pack.1,fun i f t=>by obtain⟨v,x,y,A,B⟩:=h.pack.2 i f t;exact⟨v,x,y,A.same c (by decide),B⟩⟩,h.rn,h.rz,h.sn,h.sb'⟩
theorem SpK.put(h:SpK N w wr rb sb a cap bs p ra rc d dc Kj sl xs k)(Q:k<sl.length)(y:d=some ⟨g,0,none⟩)(A:mR (N+1) r)(B:eD wr 9 xa r.texts)(f:xa=none->xc=0):
  A_ (N+1) w (wr.setCells g (k*7) (r.cells xa xc)) rb sb a cap bs p ra rc d dc Kj (sl.set k r)/\wr.there g (k*7) 7:=by
 subst y;rcases h.jY.2 with⟨e,_⟩|⟨R,S,C,e,T,D,U,V,E,W⟩
 ·simp at e
 simp only[JJ,JI,Kv,and_true,true_and] at e;obtain⟨rfl,rfl⟩:=e;have q:au wr g 40 (dc*7):=⟨C,D,E⟩;have s:wr.there g (k*7) 7:=q.row.there (by omega);obtain⟨t,b⟩:=q.setCells (r.cells xa xc) (k*7);have j:=h.row.eF b (by decide);obtain⟨F,v⟩:=h.rd0;have x:Below w.heap.size wr (wr.setCells g (k*7) (r.cells xa xc)):=Below.setCells' (by omega) (r.cells xa xc) (k*7) (Below.refl _ _);have G:=Jc wr g (k*7) (r.cells xa xc) s;have H:=h.rts.1;refine⟨⟨h.rd.below v x h.kb.size,⟨F,v⟩,h.kb.below x,h.res.qj b (by decide),j.1,(j.2 0).trans h.c0,by rw[Ka];exact (j.2 1).trans h.c1,⟨by have:=h.rn;omega,h.rts.2,h.rz,(fun e=>by omega),(H.same b (by decide)).strs,by rw[Ka];have:=h.sn;omega,fun I f=>?_,fun i l=>?_⟩⟩,s⟩
 ·rcases List.mem_or_eq_of_mem_set f with m|rfl
  ·exact (h.sb' I m).mono (Nat.le_succ _)
  ·exact A
 ·rw[Ka] at l;by_cases e:i=k
  ·subst e;have n:(sl.set i r).getD i Q_.zero=r:=by simp[List.getD,l]
   rw[n];exact⟨g,0,xa,xc,rfl,t.lt,by rw[JA];exact G,(B.same b (by decide)).strs,f⟩
  ·have n:(sl.set k r).getD i Q_.zero=sl.getD i Q_.zero:=by simp[List.getD,Ne.symm e]
   rw[n];obtain⟨J,K,L,m,M⟩:=h.pack.2 i l e;refine⟨g,0,J,K,rfl,t.lt, ?_,(m.same b (by decide)).strs,M⟩;refine Jo (fun O u c=>?_) _ _ _ (by right;simp[Q_.cells];omega);rw[<-L] at c;have P:O<7:=by have:=(Je.1 c).1;rw[Jt] at this;omega
   rw[List.getElem?_take,Kg P,List.getElem?_drop] at c;have:=h.jY.cells (g:=g) rfl _ _ c;rw[JL,JA] at this;rw[JA];exact this
theorem SpB.CR{sl':List Q_}{e:List KI}(h:SpB N w u rb sb a cap bs p ra rc Kj)(k:u.ownsRow base 40 7 (.slice d' sl'.length dc') sl'.length e)(l:bE u P e sl')(v:sl'.length<=61+N)(c:∀r∈sl',mR (N+1) r):
  A_ (N+1) w (u.setCell ⟨sb,1,none⟩ (.slice d' sl'.length dc')) rb sb a cap bs p ra rc d' dc' Kj sl':=by
 have d:=h.row.same (o:=1) (.slice d' sl'.length dc');obtain⟨m,f⟩:=h.rd0;have x:=h.sbl;have b:Xj sb (sb+1) u (u.setCell ⟨sb,1,none⟩ (.slice d' sl'.length dc')):=(Xj.refl _ _ _).setCell (p:=⟨sb,1,none⟩) (IZ _) (Jw _) _;have i:Below w.heap.size u (u.setCell ⟨sb,1,none⟩ (.slice d' sl'.length dc')):=⟨b.os,b.tape,b.output,b.size,fun n q=>b.block n (I_ q h.kb.size) (by omega)⟩;have s:SZ (u.setCell ⟨sb,1,none⟩ (.slice d' sl'.length dc')) (w.heap.size+1):=by
  have c:=b.block _ h.res.1.lt (by omega);exact⟨h.res.1.block c,h.res.2.block c⟩
 obtain⟨_,y,A,j,t⟩:=aZ.runs (aH k d (by decide)) (l.same d (by decide)).plain (K_.refl _);simp only[JJ,true_and] at j;obtain⟨rfl,rfl⟩:=j;exact⟨h.rd.below f i h.kb.size,⟨m,f⟩,h.kb.below i,s,h.row.set _,by rw[Xk (by omega)];exact h.c0,aS h.row.row (by omega) _,⟨by have:=h.rn;omega,h.rts.2,h.rz,(fun B=>by omega),(h.rts.1.same d (by decide)).strs,by omega,c,t.runs⟩⟩
theorem SpS.CU{V:KH}{c:KG}{e:Nat}{s:KC}(h:SpS N w V rb sb a cap bs p ra rc d dc Kj sl xs z)(m:V.grownBy u (Value.slice ra Kj.length rc).ownBlock)(G:u.ownsRow (w.heap.size+2) 9 1 (.slice c (Kj.length+1) e) (Kj.length+1) (Kj.map Value.string++ [.string s]))(H:s.size<=300):
  au u sb 29 2/\u.cell? ⟨sb,0,none⟩=some (.slice ra Kj.length rc)/\A_ (N+1) w (u.setCell ⟨sb,0,none⟩ (.slice c (Kj.length+1) e)) rb sb a cap bs p c e d dc (Kj++ [s]) sl:=by
 have q:=ak.aK h.yK m;have f:=h.row.eF q (by decide);have r:=f.1.same (o:=0) (.slice c (Kj.length+1) e);obtain⟨I,A⟩:=h.rd0;have T:=h.sbl;have i:Xj sb (sb+1) u (u.setCell ⟨sb,0,none⟩ (.slice c (Kj.length+1) e)):=(Xj.refl _ _ _).setCell (p:=⟨sb,0,none⟩) (IZ _) (Jw _) _;have j:Below w.heap.size V u:=(Below.refl _ _).grown m h.kb.size (fun g J=>by have:=(h.yK.lt g J).1;omega);have B:Below w.heap.size V (u.setCell ⟨sb,0,none⟩ (.slice c (Kj.length+1) e)):=⟨i.os.trans j.os,i.tape.trans j.tape,i.output.trans j.output,Jb j.size i.size,fun C D=>(i.block C (I_ (I_ D h.kb.size) j.size) (by omega)).trans (j.block C D)⟩;have K:SZ (u.setCell ⟨sb,0,none⟩ (.slice c (Kj.length+1) e)) (w.heap.size+1):=by
  have t:=h.res.qj q (by decide);have v:=i.block _ t.1.lt (by omega);exact⟨t.1.block v,t.2.block v⟩
 have x:(Kj++ [s]).length=Kj.length+1:=by simp
 have L:=aH G r (by decide);obtain⟨U,W,y,M,O⟩:=bf (l:=Kj++ [s]) (n:=Kj.length+1) (by rw[Km];exact L);rw[x] at y;simp only[JJ,true_and] at y;obtain⟨rfl,rfl⟩:=y;obtain⟨_,X,Y,E,P⟩:=aZ.runs (aH (aH h.jY q (by decide)) r (by decide)) ((h.pack.grown m (fun b v F=>by have:=h.r0 b F.symm;omega)).same r (by decide)).plain (K_.refl _);simp only[JJ,true_and] at E;obtain⟨rfl,rfl⟩:=E;refine⟨f.1,(f.2 0).trans h.c0,h.rd.below A B h.kb.size,⟨I,A⟩,h.kb.below B,K,f.1.set _,by rw[x];exact aS f.1.row (by omega) _,by rw[Xk (by omega)];exact (f.2 1).trans h.c1,⟨by rw[x];have:=h.rn;omega,M,fun Q k=>?_,(fun F=>by omega),O.strs,by have:=h.sn;omega,fun R S=>(h.sb' R S).mono (Nat.le_succ _),P.runs⟩⟩
 ·rcases Jh.1 k with k|k
  ·exact h.rz Q k
  ·rw[Jg] at k;rw[k];exact H
structure SpX (N:Nat) (w wr:KH) (rb sb xb:Nat) (a:KG) (cap:Nat) (bs:List UInt8) (p:Nat) (ra:KG) (rc:Nat) (d:KG) (dc:Nat) (Kj:List KC) (sl:List Q_) (xs:List KI) (z:Nat) (r:Q_) (xa:KG) (xc:Nat):Prop where
 st:SpS N w wr rb sb a cap bs p ra rc d dc Kj sl xs z
 box:eZ wr xb r xa xc
 tx:wr.ownsRow 0 9 1 (.slice xa r.texts.length xc) r.texts.length (r.texts.map Value.string)
 xl:w.heap.size+2<=xb
 ne:∀g,(Value.slice d sl.length dc).ownBlock=some g->g<xb
theorem eZ.qj{u:TypeId}{w w':KH}{b:Nat}(h:eZ w b r xa xc)(k:ak u w w')(c:40≠u):eZ w' b r xa xc:=by
 obtain⟨d,e⟩:=h.row.eF k c;exact⟨d,fun j v i=>(e _).trans (h.rng j v i)⟩
theorem SpX.drawn(h:SpX N w wr rb sb xb a cap bs p ra rc d dc Kj sl xs z r xa xc)(e:Rd w' rb a cap bs p')(k:Xj rb (rb+1) wr w'):SpX N w w' rb sb xb a cap bs p' ra rc d dc Kj sl xs z r xa xc:=by
 have c:=k.sameKind h.st.rd;exact⟨h.st.drawn e k,h.box.qj c (by decide),aH h.tx c (by decide),h.xl,h.ne⟩
theorem SpX.kept(h:SpX N w wr rb sb xb a cap bs p ra rc d dc Kj sl xs z r xa xc)(k:K_ wr w'):SpX N w w' rb sb xb a cap bs p ra rc d dc Kj sl xs z r xa xc:=h.drawn (h.st.rd.kept k) (.aC k)
def SpJ(w:KH)(rb sb xb:Nat)(a:KG)(cap:Nat)(bs:List UInt8)(p:Nat)(ra:KG)(rc:Nat)(d:KG)(dc:Nat)(Kj:List KC)(sl:List Q_)(xs:List KI)(k:Nat)(wx:KH):Prop:=
 ∃(r:Q_) (xa:KG) (xc p':Nat),p<=p'/\p'<=p+9/\mR 1 r/\eZ wx xb r xa xc/\eD wx 9 xa r.texts/\(xa=none->xc=0)/\SpK 0 w wx rb sb a cap bs p' ra rc d dc Kj sl xs k
theorem SpX.put{r':Q_}{p0 o:Nat}(h:SpX 0 w wr rb sb xb a cap bs p ra rc d dc Kj sl xs z r xa xc)(b:o<7)(e:r'.cells xa xc= (r.cells xa xc).set o v)(c:r'.texts=r.texts)(f:mR 1 r')(i:p0<=p)(h2:p<=p0+9):SpJ w rb sb xb a cap bs p0 ra rc d dc Kj sl xs k (wr.setCell ⟨xb,o,none⟩ v):=by
 have j:Xj xb (xb+1) wr (wr.setCell ⟨xb,o,none⟩ v):=(Xj.refl _ _ _).setCell (p:=⟨xb,o,none⟩) (IZ _) (Jw _) _;have l:=h.box.row.same (o:=o) v;obtain⟨m,n,_⟩:=dw (aH h.tx l (by decide));exact⟨r',xa,xc,p,i,h2,f,h.box.put b e,by rw[c];exact m,n,(h.st.but h.box.row j h.xl h.ne).weak k⟩
theorem SpX.grown{xa':KG}{xc' p0:Nat}{s:KC}(h:SpX 0 w wr rb sb xb a cap bs p ra rc d dc Kj sl xs z r xa xc)(e:k<sl.length)(f:r=sl.getD k Q_.zero)(i:(xs.drop (k*7)).take 7=r.cells xa xc)(j:∀g:Addr,xa=some g->z<=g.block)(c:wr.grownBy u (Value.slice xa r.texts.length xc).ownBlock)
 (m:u.ownsRow 0 9 1 (.slice xa' (r.texts.length+1) xc') (r.texts.length+1) (r.texts.map Value.string++ [.string s])) (n:mR 1 {r with texts:=r.texts++ [s]}) (q:p0<=p) (h2:p<=p0+9):au u xb 40 7/\SpJ w rb sb xb a cap bs p0 ra rc d dc Kj sl xs k (u.setCell ⟨xb,6,none⟩ (.slice xa' (r.texts.length+1) xc')):=by
 have t:=ak.aK h.tx c;have b:=h.box.qj t (by decide);have v:Xj xb (xb+1) u (u.setCell ⟨xb,6,none⟩ (.slice xa' (r.texts.length+1) xc')):=(Xj.refl _ _ _).setCell (p:=⟨xb,6,none⟩) (IZ _) (Jw _) _;have x:=b.row.same (o:=6) (.slice xa' (r.texts.length+1) xc');have C:(r.texts++ [s]).length=r.texts.length+1:=by simp
 obtain⟨y,A,_⟩:=dw (l:=r.texts++ [s]) (aH (by rw[Km];exact m) x (by decide));have B:=h.st.grown e (by rw[<-f];exact i) h.tx j c;exact⟨b.row,{r with texts:=r.texts++ [s]},xa',xc',p,q,h2,n,b.put (by omega) (by simp[Q_.cells]),y,A,B.but b.row v h.xl h.ne⟩
theorem SpX.Iw(h:SpX 0 w wr rb sb xb a cap bs p ra rc d dc Kj sl xs z r xa xc)(q:r=sl.getD k Q_.zero)(s:k<sl.length)(_hx:(xs.drop (k*7)).take 7=r.cells xa xc)(t:∀g:Addr,xa=some g->z<=g.block)(e:wr.grownBy u (Value.slice d sl.length dc).ownBlock)(v:u.ownsRow (w.heap.size+2) 40 7 (.slice d' (sl.length+1) dc') (sl.length+1) (xs++r.cells xa xc)):
  au u sb 29 2/\A_ 1 w (u.setCell ⟨sb,1,none⟩ (.slice d' (sl.length+1) dc')) rb sb a cap bs p ra rc d' dc' Kj (sl++ [r]):=by
 have b:=ak.aK h.st.jY e;obtain⟨x,j⟩:=h.st.rd0;have f:=h.st.row.eF b (by decide);have l:Below w.heap.size wr u:=(Below.refl _ _).grown e h.st.kb.size (fun g e=>by have:=(h.st.jY.lt g e).1;omega);have i:(sl++ [r]).length=sl.length+1:=by simp
 obtain⟨y,A,_⟩:=dw h.tx;have B:=(h.st.pack.same b (by decide)).snoc (y.same b (by decide)) A t (aH h.tx b (by decide));have m:=h.st.weak 0;have C:r∈sl:=by rw[q];simp[List.getD,s]
 have D:SpB 0 w u rb sb a cap bs p ra rc Kj:=⟨h.st.rd.below j l h.st.kb.size,⟨x,j⟩,h.st.kb.below l,h.st.res.1.eF b (by decide) |>.1 |> fun E=>⟨E,fun o F G=>h.st.res.2 o F (by rw[<-(h.st.res.1.eF b (by decide)).2 o];exact G)⟩,f.1,(f.2 0).trans h.st.c0,h.st.sbl,⟨m.rts.1.same b (by decide),m.rts.2⟩,h.st.rn,h.st.rz⟩;have n:=D.CR (d':=d') (dc':=dc') (sl':=sl++ [r]) (by rw[i];exact v) B (by rw[i];have:=h.st.sn;omega) (fun H c=>by
  rcases Jh.1 c with c|c
  ·exact (h.st.sb' H c).mono (by omega)
  ·rw[Jg] at c;rw[c];exact (h.st.sb' r C).mono (by omega))
 rw[i] at n;exact⟨f.1,n⟩
theorem SpS.Iu(h:SpS 0 w wr rb sb a cap bs p ra rc d dc Kj sl xs z)(c:k<sl.length)(e:K_ wr u)(f:u.ownsRow base 40 7 (.slice d' (sl.eraseIdx k).length dc') (sl.eraseIdx k).length (xs.take (k*7)++xs.drop ((k+1)*7))):
  A_ 1 w (u.setCell ⟨sb,1,none⟩ (.slice d' (sl.eraseIdx k).length dc')) rb sb a cap bs p ra rc d' dc' Kj (sl.eraseIdx k):=by
 have b:=h.kept e;have i:=b.weak 0;have j:SpB 0 w u rb sb a cap bs p ra rc Kj:=⟨b.rd,b.rd0,b.kb,b.res,b.row,b.c0,b.sbl,i.rts,b.rn,b.rz⟩;exact j.CR f (b.pack.erase c) (by have:=List.length_eraseIdx_le sl k;have:=h.sn;omega) (fun x l=>(h.sb' x (List.mem_of_mem_eraseIdx l)).mono (by omega))
end
theorem Bo(w:KH)(L:Nat)(a:KG)(R:Nat)(N:List UInt8)(p:Nat)(ra:KG)(rc:Nat)(d:KG)(dc:Nat)(Kj:List KC)(j:List Q_)(hR:Rd w L a R N p)(hp:p<=700000)(a8:N.length<=2000)(hS:StU 0 w ra rc d Kj j):
  Calls prog 55 #[.pointer (some ⟨L,0,none⟩),.agg #[.slice ra Kj.length rc,.slice d j.length dc]] w fun e w'=>Ev 1 w w' L a R N p 9 e:=by
 obtain⟨gb,go,rfl⟩:=hS.ri rfl;obtain⟨W0,a9⟩:=ah ((w.alloc (.cells #[.slice (some ⟨gb,go,none⟩) Kj.length rc,.slice d j.length dc] 29)).alloc (.cells #[.slice none 0 0,.slice none 0 0] 29));have k0:K_ w W0:=by rw[a9];exact (ag _ _).alloc _
 have h3:W0.heap.size=w.heap.size+2:=by rw[a9];simp
 have h4:Hid (SZ W0 (w.heap.size+1)):=by
  have h:=SZ.made (w.alloc (.cells #[.slice (some ⟨gb,go,none⟩) Kj.length rc,.slice d j.length dc] 29));simp only[JG] at h;rw[a9];exact h
 have c0:W0.cell? ⟨w.heap.size,0,none⟩=some (.slice (some ⟨gb,go,none⟩) Kj.length rc):=by rw[a9,K_.cell (w:=w.alloc (.cells #[.slice (some ⟨gb,go,none⟩) Kj.length rc,.slice d j.length dc] 29)) (ag _ _) (by simp)];exact X_ w _ _ 0 _ rfl
 have c1:W0.cell? ⟨w.heap.size,1,none⟩=some (.slice d j.length dc):=by rw[a9,K_.cell (w:=w.alloc (.cells #[.slice (some ⟨gb,go,none⟩) Kj.length rc,.slice d j.length dc] 29)) (ag _ _) (by simp)];exact X_ w _ _ 1 _ rfl
 have z0:w.heap.size<W0.heap.size:=by omega
 have h8:=Kz (hR.kept k0);have⟨k7,f8,h9,b0⟩:=jh hR k0 h3 hS;have i0:=hS.rn;have k8:=hS.sn;clear hR k0 h3 hS;go_enter func55,ntmps55
 go_upto_region 1 with fail
 rw[<-a9];clear a9;go_wp2_with fail
 refine (xh W0 gb go rc Kj d dc j (by omega) (by omega) (fun r hr=>by have:=(b0.o.sb r hr).texts;omega) (b0.o.rs.kept f8.o) (b0.o.rr.kept f8.o)).mono ?_;rintro e w1 ⟨H,I,d1,B,X,z,rfl,hT,hO,hP,hz,i1,i2,k1⟩;obtain⟨W1,c7⟩:=ah (w1.alloc (.cells #[.slice H Kj.length I,.slice d1 j.length B] 29));obtain⟨sb,e1⟩:=ah w1.heap.size;have b7:Hid (SpS 0 w W1 L sb a R N p H I d1 B Kj j X z):=by
  have kw:K_ w1 W1:=by rw[c7];exact ag _ _
  have z0:=h9.o;have zk:=k1.size;have J:W1.rangeAt sb 0 [.slice H Kj.length I,.slice d1 j.length B]:=by rw[c7,e1];exact X_ w1 #[.slice H Kj.length I,.slice d1 j.length B] 29
  exact⟨(h8.o.kept k1).kept kw,⟨p,k7.o⟩,.aC ((f8.o.trans k1).trans kw),(h4.o.kept k1).kept kw,(by rw[c7,e1];exact au.made w1 _ _),J 0 _ rfl,J 1 _ rfl,by omega,aj (bJ hT (by omega)) kw,aj (bJ hO (by omega)) kw,hP.kept kw,i2,by omega,i1,b0.o.rn,b0.o.rz,b0.o.sn,b0.o.sb⟩
 go_upto_region 2 with fail
 rw[<-c7,<-e1];clear c7 e1 hT hO hP hz i1 i2 k1 h4 h9 h8 c0 c1 z0;have c1:=b7.o.c1;have cz:=b7.o.row.lt;go_cut [18] from 10 to 18 (fun k9 wx=>∃(b:Bool) (p':Nat),k9= .bool b/\p<=p'/\p'<=p+1/\SpS 0 w wx L sb a R N p' H I d1 B Kj j X z/\(b=false->0<j.length))
 case first=>
  by_cases c8:j.length=0
  ·have l0:((j.length:Int) == 0)=true:=by simp[c8]
   clear c8;go_wp2
   go_meet
   exact⟨true,p,rfl,IZ _,by omega,b7.o,fun h=>by cases h⟩
  ·have l0:((j.length:Int) == 0)=false:=by simpa using c8
   have l1:=Kz c8;clear c8;go_wp2_with fail
   refine (aI _ L a R N p _ 8 rfl b7.o.rd (by omega) (by omega) a8).mono ?_;rintro e w2 ⟨q2,rfl,o2,c9,d0⟩;have A:=Kz (b7.o.drawn c9 d0);clear c9 d0;go_wp2
   go_meet
   exact⟨_,p+1,rfl,by omega,IZ _,A.o,fun _=>Nat.pos_of_ne_zero l1.o⟩
 case rest=>
  clear b7 c1 cz;obtain⟨b,p1,rfl,o3,o4,hS,hb⟩:=hcut;have⟨t,HB⟩:=aD hS hb;clear hS hb;cases b
  ·have o5:=HB.o rfl;clear HB;have c1:=t.o.c1;have cz:=t.o.row.lt;go_wp2_with fail
   refine (iO _ L a R N p1 j.length t.o.rd (by omega) (by omega) a8).mono ?_;rintro e w2 ⟨l,rfl,hk,c9,d0⟩;have A:=Kz (t.o.drawn c9 d0);have b1:l<j.length:=by omega
   clear c9 d0 t c1 cz hk;obtain⟨g,rfl,o6⟩:∃g,d1=some ⟨g,0,none⟩/\j.length<=B:=by
    rcases A.o.jY.2 with⟨e,h0⟩|⟨g,o7,o8,e,_,_,l2,_⟩
    ·omega
    ·simp only[JJ,true_and] at e;obtain⟨rfl,rfl⟩:=e;exact⟨g,rfl,l2⟩
   have l3:=(A.o.jY.lt g rfl).2;have o9:=(A.o.jY.lt g rfl).1;obtain⟨r,hr⟩:=ah (j.getD l Q_.zero);obtain⟨Y,Z,e2,f9,l4,i3,g2⟩:=A.o.pack.2 l b1;rw[<-hr] at e2 f9 g2;have g3:mR 0 r:=A.o.sb' r (by rw[hr];simp[List.getD,b1]);have s:=g3.mono (M:=1) (by omega);have⟨e4,i4,i5,i6⟩:=jh g3 hr e2 i3;have W:∀E g4,(r.cells Y Z)[E]? =some g4->w2.cell? ⟨g,l*7+E,none⟩=some g4:=fun E g4 hv=>by
    rw[<-e2] at hv;have hj:E<7:=by have:=(Je.1 hv).1;rw[Jt] at this;omega
    rw[List.getElem?_take,Kg hj,List.getElem?_drop] at hv;have:=A.o.jY.cells (g:=g) rfl _ _ hv;rw[JL,JA] at this;exact this
   have q0:=W 0 _ rfl;have q1:=W 1 _ rfl;have q2:=W 2 _ rfl;have q3:=W 3 _ rfl;have q4:=W 4 _ rfl;have q5:=W 5 _ rfl;have q6:=W 6 _ rfl;rw[JM] at q0;have c1:=A.o.c1;have cz:=A.o.row.lt;have l5:(l:Int)<(j.length:Int):=by omega
   have⟨l6,i7⟩:=aD f9 g2;clear hr e2 i3 f9 l4 g2 W;obtain⟨w3,e5⟩:=ah (w2.alloc (.cells #[.string r.name,.bool r.over,.bool r.fail,.string r.text,.int .i64 r.at',.int .i64 r.Zq,.slice Y r.texts.length Z] 40));obtain⟨xb,e6⟩:=ah w2.heap.size;have g5:Hid (SpX 0 w w3 L sb xb a R N (p1+1) H I (some ⟨g,0,none⟩) B Kj j X z r Y Z):=by
    have kw:K_ w2 w3:=by rw[e5];exact ag _ _
    refine⟨A.o.kept kw, ?_,aH (u:=40) i7.o (ak.aC kw) (by decide),by have:=A.o.sbl;omega,fun q e=>?_⟩
    ·rw[e5,e6];exact⟨au.made w2 #[.string r.name,.bool r.over,.bool r.fail,.string r.text,.int .i64 r.at',.int .i64 r.Zq,.slice Y r.texts.length Z] 40,X_ w2 _ _⟩
    ·rw[e6];exact (A.o.jY.lt q e).2
   go_upto_region 7 with fail
   rw[<-e5,<-e6];clear e5 e6 A l6 i7 q0 q1 q2 q3 q4 q5 q6 c1 cz g3 l3;go_wp2_with fail
   refine (aI _ L a R N (p1+1) _ 9 rfl g5.o.st.rd (by omega) (by omega) a8).mono ?_;rintro e n ⟨y,rfl,p2,i8,i9⟩;have f:=Kz (g5.o.drawn i8 i9);clear i8 i9 g5
   go_upto_block 0 with fail
   go_cut [42] from 43 to 118 (fun _ wx=>SpJ w L sb xb a R N p H I (some ⟨g,0,none⟩) B Kj j X l wx)
   case rest=>
    obtain⟨x,b8,b9,p3,p4,p5,l7,g6,j0,j1,d3⟩:=hcut;obtain⟨q0,q1,q2,q3,q4,q5,q6⟩:=g6.all;have qz:=g6.row.lt;have c1:=d3.c1;have zx:=d3.row.lt;obtain⟨a0,j2⟩:=d3.put b1 rfl l7 j0 j1;have⟨m,l8⟩:=aD a0 j2;have l9:Hid ((#[.string x.name,.bool x.over,.bool x.fail,.string x.text,.int .i64 x.at',.int .i64 x.Zq,.slice b8 x.texts.length b9]:Array KI).all (·.oneCell')=true):=all_oneCell_toArray (cs:=x.cells b8 b9) (by simp[Q_.cells,Value.oneCell']);have m0:Hid ((#[.string x.name,.bool x.over,.bool x.fail,.string x.text,.int .i64 x.at',.int .i64 x.Zq,.slice b8 x.texts.length b9]:Array KI).toList=x.cells b8 b9):=rfl;have m1:Hid ((prog.info? 40).map (·.size)=some 7):=by show _=_;kernel_rfl
    have l5:(l:Int)<(j.length:Int):=by omega
    have zg:=(d3.jY.lt g rfl).2;clear a0 j2 d3 g6 j0 j1;go_upto_region 27 with fail
    go_wp2_with (refine wpList_store_mid rfl 40 _ _ rfl g (l*7) #[.string x.name,.bool x.over,.bool x.fail,.string x.text,.int .i64 x.at',.int .i64 x.Zq,.slice b8 x.texts.length b9] rfl rfl l8.o m1.o l9.o ?_;rw[m0.o];generalize hU:wc.setCells g (l*7) (x.cells b8 b9)=b2 at m⊢;obtain⟨a1,a3⟩:=ah (j.set l x);have S:j.length=a1.length:=(by rw[a3];simp);rw[<-a3] at m;rw[S];have c2:=m.o.c0;have c3:=m.o.c1;have ez:=m.o.row.lt;obtain⟨⟨_,x0⟩,g0⟩:=m.o.res.1.row.at (i:=0) (by omega);obtain⟨⟨_,x1⟩,g1⟩:=m.o.res.1.row.at (i:=1) (by omega);have xz:=m.o.res.1.lt;clear hU a3 S)
    have a5:=Jc b2 (w.heap.size+1) 0 [.slice H Kj.length I,.slice (some ⟨g,0,none⟩) a1.length B] (cO m.o.res.1);exact Zx [.slice H Kj.length I,.slice (some ⟨g,0,none⟩) a1.length B] _ results55 rfl a5 underlying29 rfl Tryz.bB rfl (m.o.ends (by omega) (by omega))
   case first=>
    by_cases h0:y=0
    ·have c2:((y:Int) == 0)=true:=by simp[h0]
     clear h0;have a2:=Kz (f.o.kept ((K_.refl n).alloc (.cells #[.string ⟨#[122,122]⟩,.string ⟨#[97]⟩,.string ⟨#[]⟩] 9)));go_wp2_with fail
     refine (aI _ L a R N (p1+2) _ 3 rfl a2.o.st.rd (by omega) (by omega) a8).mono ?_;rintro e F ⟨q,rfl,W,T,G⟩;obtain⟨C,J,d4⟩:=pg [⟨#[122,122]⟩,⟨#[97]⟩,⟨#[]⟩] G f.o.st.rd.row.lt q (by show q<3;omega) (by
      intro C J;simp only[JN,JO,or_false] at J;rcases J with rfl | rfl | rfl <;> decide)
     have lz:n.heap.size<F.heap.size:=I_ (by simp) G.size;have U:=Kz (a2.o.drawn T G);have j3:(q:Int)<3:=by omega
     clear T G a2;have q0:=U.o.box.all.1;have qz:=U.o.box.row.lt;obtain⟨_,g0⟩:=U.o.box.row.row.at (i:=0) (by omega);go_wp2
     go_meet
     exact U.o.put (r':={r with name:=C}) (o:=0) (by omega) (by simp[Q_.cells]) rfl ⟨d4,s.text,s.texts,s.at',s.vis⟩ (by omega) (by omega)
    have c2:((y:Int) == 0)=false:=by simp;omega
    clear h0;by_cases g7:y=1
    ·have c3:((y:Int) == 1)=true:=by simp[g7]
     clear g7;obtain⟨q0,q1,q2,q3,q4,q5,q6⟩:=f.o.box.all;have qz:=f.o.box.row.lt;obtain⟨_,g1⟩:=f.o.box.row.row.at (i:=1) (by omega);go_wp2
     go_meet
     exact f.o.put (r':={r with over:= !r.over}) (o:=1) (by omega) (by simp[Q_.cells]) rfl ⟨s.name,s.text,s.texts,s.at',s.vis⟩ (by omega) (by omega)
    have c3:((y:Int) == 1)=false:=by simp;omega
    clear g7;by_cases h2:y=2
    ·have m2:((y:Int) == 2)=true:=by simp[h2]
     clear h2;obtain⟨q0,q1,q2,q3,q4,q5,q6⟩:=f.o.box.all;have qz:=f.o.box.row.lt;obtain⟨_,p6⟩:=f.o.box.row.row.at (i:=2) (by omega);go_wp2
     go_meet
     exact f.o.put (r':={r with fail:= !r.fail}) (o:=2) (by omega) (by simp[Q_.cells]) rfl ⟨s.name,s.text,s.texts,s.at',s.vis⟩ (by omega) (by omega)
    have m2:((y:Int) == 2)=false:=by simp;omega
    clear h2;by_cases g8:y=3
    ·have e3:((y:Int) == 3)=true:=by simp[g8]
     clear g8;obtain⟨q0,q1,q2,q3,q4,q5,q6⟩:=f.o.box.all;have qz:=f.o.box.row.lt;obtain⟨_,p7⟩:=f.o.box.row.row.at (i:=3) (by omega);have m3:=e4.o.text;have j4:(⟨#[120]⟩:KC).size=1:=rfl;have p8:¬9223372036854775807<r.text.size+ (⟨#[120]⟩:KC).size:=by rw[j4];omega
     go_wp2
     go_meet
     exact f.o.put (r':={r with text:=r.text++ ⟨#[120]⟩}) (o:=3) (by omega) (by simp[Q_.cells]) rfl ⟨s.name,by show (r.text++ ⟨#[120]⟩).size<=301;rw[ByteArray.size_append,j4];omega,s.texts,s.at',s.vis⟩ (by omega) (by omega)
    have e3:((y:Int) == 3)=false:=by simp;omega
    clear g8;by_cases g9:y=4
    ·have m4:((y:Int) == 4)=true:=by simp[g9]
     clear g9;go_upto_region 19 with fail
     have m5:=e4.o.at';have qv:n.drew.cell? ⟨xb,4,none⟩=some (.int .i64 r.at'):=(f.o.kept (aG n)).box.all.2.2.2.2.1;refine Qk.region (by kernel_rfl) (fun u=>u.cell? ⟨xb,4,none⟩=some (.int .i64 r.at')) 8 qv (fun k=>?_);have f:=Kz (f.o.kept (aG n));have zx:=f.o.box.row.lt;generalize b3:n.drew=O at k f zx⊢;clear b3 qv;have j5:IntKind.i64.wrap (r.at'+1)=r.at'+1:=by simp[IntKind.wrap,IntKind.bits,IntKind.signed];omega
     refine aB 0 k ?_;refine ai 4 (fun K c=>?_);go_simp
     go_at_call 21
     refine (aI _ L a R N (p1+2) _ 2 rfl f.o.st.rd (by omega) (by omega) a8).mono ?_;rintro e F ⟨q,rfl,W,T,G⟩;have U:=Kz (f.o.drawn T G);clear T G f k zx;have k:F.cell? ⟨xb,4,none⟩=some (.int .i64 r.at'):=U.o.box.all.2.2.2.2.1;have zx:=U.o.box.row.lt;obtain⟨_,f0⟩:=U.o.box.row.row.at (i:=4) (by omega);dsimp only;refine c.out _ _ (fun _=>k) ?_;clear c K;try simp only[Act.put,upA,upB,upC]
     have m6:IntKind.i64.wrap (2*(q:Int))=2*(q:Int):=by simp[IntKind.wrap,IntKind.bits,IntKind.signed];omega
     have m7:IntKind.i64.wrap (r.at'+1-2*(q:Int))=r.at'+1-2*(q:Int):=by simp[IntKind.wrap,IntKind.bits,IntKind.signed];omega
     refine af 5 (fun K c=>?_);go_simp
     refine c.out _ _ (fun _=>k) ?_;clear c K;try simp only[Act.put,upA,upB,upC]
     refine af 6 (fun K c=>?_);go_simp
     refine c.out _ _ (fun _=>k) ?_;clear c K;try simp only[Act.put,upA,upB,upC]
     refine ae 7 k ?_;refine af 8 (fun K c=>?_);go_simp
     refine c.out _ _ (fun h=>Ki rfl h) ?_;clear c K;try simp only[Act.put,upA,upB,upC]
     refine ay ?_;go_wp2
     go_meet
     have c4:mR 1 {r with at':=r.at'+1-2*(q:Int)}:=⟨s.name,s.text,s.texts,(by show -1000-2*((1:Nat):Int)<=r.at'+1-2*(q:Int)/\r.at'+1-2*(q:Int)<=1000+2*((1:Nat):Int);omega),s.vis⟩;exact U.o.put (r':={r with at':=r.at'+1-2*(q:Int)}) (o:=4) (by omega) (by simp[Q_.cells]) rfl c4 (by omega) (by omega)
    have m4:((y:Int) == 4)=false:=by simp;omega
    clear g9;by_cases h5:y=5
    ·have m8:((y:Int) == 5)=true:=by simp[h5]
     clear h5;go_upto_region 21 with fail
     have m5:=e4.o.vis;have qv:n.drew.cell? ⟨xb,5,none⟩=some (.int .i64 r.Zq):=(f.o.kept (aG n)).box.all.2.2.2.2.2.1;refine Qk.region (by kernel_rfl) (fun u=>u.cell? ⟨xb,5,none⟩=some (.int .i64 r.Zq)) 8 qv (fun k=>?_);have f:=Kz (f.o.kept (aG n));have zx:=f.o.box.row.lt;generalize b3:n.drew=O at k f zx⊢;clear b3 qv;have j5:IntKind.i64.wrap (r.Zq+1)=r.Zq+1:=by simp[IntKind.wrap,IntKind.bits,IntKind.signed];omega
     refine aB 0 k ?_;refine ai 4 (fun K c=>?_);go_simp
     go_at_call 21
     refine (aI _ L a R N (p1+2) _ 2 rfl f.o.st.rd (by omega) (by omega) a8).mono ?_;rintro e F ⟨q,rfl,W,T,G⟩;have U:=Kz (f.o.drawn T G);clear T G f k zx;have k:F.cell? ⟨xb,5,none⟩=some (.int .i64 r.Zq):=U.o.box.all.2.2.2.2.2.1;have zx:=U.o.box.row.lt;obtain⟨_,f0⟩:=U.o.box.row.row.at (i:=5) (by omega);dsimp only;refine c.out _ _ (fun _=>k) ?_;clear c K;try simp only[Act.put,upA,upB,upC]
     have m6:IntKind.i64.wrap (2*(q:Int))=2*(q:Int):=by simp[IntKind.wrap,IntKind.bits,IntKind.signed];omega
     have m7:IntKind.i64.wrap (r.Zq+1-2*(q:Int))=r.Zq+1-2*(q:Int):=by simp[IntKind.wrap,IntKind.bits,IntKind.signed];omega
     refine af 5 (fun K c=>?_);go_simp
     refine c.out _ _ (fun _=>k) ?_;clear c K;try simp only[Act.put,upA,upB,upC]
     refine af 6 (fun K c=>?_);go_simp
     refine c.out _ _ (fun _=>k) ?_;clear c K;try simp only[Act.put,upA,upB,upC]
     refine ae 7 k ?_;refine af 8 (fun K c=>?_);go_simp
     refine c.out _ _ (fun h=>Ki rfl h) ?_;clear c K;try simp only[Act.put,upA,upB,upC]
     refine ay ?_;go_wp2
     go_meet
     have c4:mR 1 {r with Zq:=r.Zq+1-2*(q:Int)}:=⟨s.name,s.text,s.texts,s.at',(by show -1000-2*((1:Nat):Int)<=r.Zq+1-2*(q:Int)/\r.Zq+1-2*(q:Int)<=1000+2*((1:Nat):Int);omega)⟩;exact U.o.put (r':={r with Zq:=r.Zq+1-2*(q:Int)}) (o:=5) (by omega) (by simp[Q_.cells]) rfl c4 (by omega) (by omega)
    have m8:((y:Int) == 5)=false:=by simp;omega
    clear h5;by_cases h6:y=6
    ·have m9:((y:Int) == 6)=true:=by simp[h6]
     clear h6;have a2:=Kz (f.o.kept ((K_.refl n).alloc (.cells #[.string (⟨#[118,48,40,41]⟩:KC)] 9)));obtain⟨q0,q1,q2,q3,q4,q5,q6⟩:=f.o.box.all;have qz:=f.o.box.row.lt;have m3:=e4.o.texts;obtain⟨ia,d5,d6,d7,d8⟩:=aM Tryz.d_;have c4:mR 1 {r with texts:=r.texts++ [(⟨#[118,48,40,41]⟩:KC)]}:=⟨s.name,s.text,by show (r.texts++ [(⟨#[118,48,40,41]⟩:KC)]).length<=201;rw[JH];simp;omega,s.at',s.vis⟩;have n0:=Kz c4;clear c4;go_wp2_with (at_builtin;refine wpList_append_own _ rfl (.tmp 98) (.tmp 99) 26 rfl 0 9 ia _ 1 16 underlying26 d5 d6 d7 d8 rfl (by decide) (.slice Y r.texts.length Z) r.texts.length (r.texts.map Value.string) rfl a2.o.tx ⟨n.heap.size,0,none⟩ 1 1 [.string (⟨#[118,48,40,41]⟩:KC)] rfl rfl (iB n (⟨#[118,48,40,41]⟩:KC)) (ib (⟨#[118,48,40,41]⟩:KC)) (by unfold maxLen;omega) (by omega) (Ja _) ?_;intro v' w9 P a4 _;obtain⟨p9,q7,rfl⟩:=ax P;have hG:=a2.o.grown (p0:=p) b1 i4.o i5.o i6.o a4 P n0.o (by omega) (by omega);have D:=hG.1;have HJ:=Kz hG.2;obtain⟨⟨_,y6⟩,q8⟩:=D.row.at (i:=6) (by omega);have y9:=D.lt;clear hG a4 P D)
     go_meet
     exact HJ.o
    have m9:((y:Int) == 6)=false:=by simp;omega
    clear h6;by_cases h7:y=7
    ·have e7:((y:Int) == 7)=true:=by simp[h7]
     clear h7;go_upto_region 25 with fail
     refine Qk.region (by kernel_rfl) (fun u=>u.cell? ⟨sb,1,none⟩=some (.slice (some ⟨g,0,none⟩) j.length B)) 13 (f.o.kept (aG n)).st.c1 (fun k=>?_);have f:=Kz (f.o.kept (aG n));have zx:=f.o.st.row.lt;generalize b3:n.drew=O at k f zx⊢;clear b3;have q9:(l:Int)<=(B:Int):=by omega
     have r0:(0:Int)<=(l:Int)+1:=by omega
     have r1:(l:Int)+1<=(j.length:Int):=by omega
     have j5:IntKind.i64.wrap ((l:Int)+1)= (l:Int)+1:=by simp[IntKind.wrap,IntKind.bits,IntKind.signed];omega
     refine aB 1 k ?_;refine aB 6 k ?_;refine ae 10 k ?_;obtain⟨d9,j6,j7⟩:∃d9:Addr,(if B=l+1 then (some ⟨g,0,none⟩:KG) else some ⟨g,(l+1)*7,none⟩)=some d9/\(d9= ⟨g,(l+1)*7,none⟩\/l+1=j.length):=by
      by_cases e:B=l+1
      ·exact⟨_,Kg e,.inr (by omega)⟩
      ·exact⟨_,Kh e,.inl rfl⟩
     rw[j6];have n1:=Kz j7;clear j6 j7;obtain⟨e8,e9,f1,f2,f3⟩:=aO Tryz.nQ;have r3:=f.o.st.jY.1;have r4:=f.o.st.sn;refine ai 0 (fun K c=>?_);go_simp
     have f4:Hid (K_ O (O.alloc (.cells #[] 40))):=ag _ _;have j8:Hid ((O.alloc (.cells #[] 40)).ownsRow O.heap.size 40 7 (.slice (some ⟨O.heap.size,0,none⟩) 0 0) 0 []):=Jz O #[] 0 (IZ _) (Ja _) rfl;refine c.out _ _ (fun _=>(f.o.kept f4.o).st.c1) ?_;clear c K k;try simp only[Act.put,upA,upB,upC]
     have n2:=f4.o.size;have n3:Hid (∀E u,(X.take (l*7))[E]? =some u->(O.alloc (.cells #[] 40)).cell? ((⟨g,0,none⟩:Addr).add E)=some u):=fun E u V=>(f.o.kept f4.o).st.jY.cells (g:=g) rfl E u (by rw[List.getElem?_take] at V;split at V;exact V;cases V)
     have n4:Hid (∀u∈X.take (l*7),u.oneCell'=true):=fun u V=>f.o.st.pack.one u (List.mem_of_mem_take V)
     refine ai 5 (fun K c=>?_);refine wp_append_own _ (.tmp 104) (.tmp 108) 27 rfl O.heap.size 40 e8 _ 7 80 underlying27 e9 f1 f2 f3 rfl (by decide) (.slice (some ⟨O.heap.size,0,none⟩) 0 0) 0 [] rfl j8.o ⟨g,0,none⟩ l B (X.take (l*7)) rfl (by rw[List.length_take];omega) n3.o n4.o (by unfold maxLen;omega) (by omega) n2 ?_;intro r5 F f5 j9 _;have f6:=Kz (aF f4.o (Nat.le_refl _) j8.o j9);rw[Nat.zero_add,List.nil_append] at f5;obtain⟨n5,c5,rfl⟩:=ax f5;have k2:=Kz f5;clear f5 j9;dsimp only;refine c.out _ _ (fun _=>(f.o.kept f6.o).st.c1) ?_;clear c K;try simp only[Act.put,upA,upB,upC]
     have n6:=f6.o.size;have n7:Hid (∀E u,(X.drop ((l+1)*7))[E]? =some u->F.cell? (d9.add E)=some u):=fun E u V=>by
      rw[List.getElem?_drop] at V;rcases n1.o with e|e
      ·have:=(f.o.kept f6.o).st.jY.cells (g:=g) rfl _ u V;rw[JL,JA] at this;rw[e,JL];exact this
      ·have:=(Je.1 V).1;omega
     have n8:Hid (∀u∈X.drop ((l+1)*7),u.oneCell'=true):=fun u V=>f.o.st.pack.one u (List.mem_of_mem_drop V)
     refine ai 11 (fun K c=>?_);refine wp_append_own _ (.tmp 109) (.tmp 114) 27 rfl O.heap.size 40 e8 _ 7 80 underlying27 e9 f1 f2 f3 rfl (by decide) (.slice n5 l c5) l (X.take (l*7)) rfl k2.o d9 (j.length-(l+1)) (B-(l+1)) (X.drop ((l+1)*7)) rfl (by rw[List.length_drop];omega) n7.o n8.o (by unfold maxLen;omega) (by omega) n6 ?_;intro r6 w6 f7 k3 _;have k4:=Kz (aF f6.o (IZ _) k2.o k3);have k5:l+ (j.length-(l+1))= (j.eraseIdx l).length:=by rw[List.length_eraseIdx_of_lt b1];omega
     rw[k5] at f7;obtain⟨a6,c6,rfl⟩:=ax f7;have m:=Kz (f.o.st.Iu b1 k4.o f7);have k6:=Kz (f.o.kept k4.o);have k:=k6.o.st.c1;have D:=k6.o.st.row;clear f7 k3;dsimp only;refine c.out _ _ (fun _=>k) ?_;clear c K;try simp only[Act.put,upA,upB,upC]
     refine ae 12 k ?_;obtain⟨⟨_,y0⟩,f0⟩:=D.row.at (i:=1) (by omega);have rz:=D.lt;refine af 13 (fun K c=>?_);go_simp
     refine c.out _ _ (fun h=>Ki rfl h) ?_;clear c K y0 f0 rz k D;try simp only[Act.put,upA,upB,upC]
     refine ay ?_;obtain⟨a1,a3⟩:=ah (j.eraseIdx l);rw[<-a3] at m;rw[<-a3];generalize hU:w6.setCell ⟨sb,1,none⟩ (.slice a6 a1.length c6)=b2 at m⊢;have v:=Kz m.o;clear hU m a3 k5;have c2:=v.o.c0;have c3:=v.o.c1;have ez:=v.o.row.lt;obtain⟨⟨_,x0⟩,g0⟩:=v.o.res.1.row.at (i:=0) (by omega);obtain⟨⟨_,x1⟩,g1⟩:=v.o.res.1.row.at (i:=1) (by omega);have xz:=v.o.res.1.lt;go_wp2
     have a5:=Jc b2 (w.heap.size+1) 0 [.slice H Kj.length I,.slice a6 a1.length c6] (cO v.o.res.1);exact Zx [.slice H Kj.length I,.slice a6 a1.length c6] _ results55 rfl a5 underlying29 rfl Tryz.bB rfl (v.o.ends (by omega) (by omega))
    have e7:((y:Int) == 7)=false:=by simp;omega
    clear h7;obtain⟨q0,q1,q2,q3,q4,q5,q6⟩:=f.o.box.all;have qz:=f.o.box.row.lt;have c1:=f.o.st.c1;have zx:=f.o.st.row.lt;have k1:K_ n (n.alloc (.cells #[.string r.name,.bool r.over,.bool r.fail,.string r.text,.int .i64 r.at',.int .i64 r.Zq,.slice Y r.texts.length Z] 40)):=ag _ _;have a2:=Kz (f.o.kept k1);have n9:Hid (∀E u,(r.cells Y Z)[E]? =some u->(n.alloc (.cells #[.string r.name,.bool r.over,.bool r.fail,.string r.text,.int .i64 r.at',.int .i64 r.Zq,.slice Y r.texts.length Z] 40)).cell? ((⟨n.heap.size,0,none⟩:Addr).add E)=some u):=fun E u V=>by rw[JL];exact X_ n (r.cells Y Z).toArray 40 E u (by simpa using V)
    have e0:w.heap.size+2<=(n.alloc (.cells #[.string r.name,.bool r.over,.bool r.fail,.string r.text,.int .i64 r.at',.int .i64 r.Zq,.slice Y r.texts.length Z] 40)).heap.size:=Nat.le_of_lt (Nat.lt_of_le_of_lt a2.o.st.sbl a2.o.st.row.lt);obtain⟨e8,e9,f1,f2,f3⟩:=aO Tryz.nQ;have k8:=a2.o.st.sn;clear k1;go_wp2_with (at_builtin;refine wpList_append_own _ rfl (.tmp 43) (.tmp 45) 27 rfl (w.heap.size+2) 40 e8 _ 7 80 underlying27 e9 f1 f2 f3 rfl (by decide) (.slice (some ⟨g,0,none⟩) j.length B) j.length X rfl a2.o.st.jY ⟨n.heap.size,0,none⟩ 1 1 (r.cells Y Z) rfl rfl n9.o (Q_.one r Y Z) (by unfold maxLen;omega) (by omega) e0 ?_;intro v' w9 P a4 _;obtain⟨d2,h1,rfl⟩:=ax P;have a0:=a2.o.Iw i4.o b1 i5.o i6.o a4 P;have D:=a0.1;have m:=Kz a0.2;obtain⟨⟨_,y1⟩,r7⟩:=D.row.at (i:=1) (by omega);have y9:=D.lt;obtain⟨a1,a3⟩:=ah (j++ [r]);have S:j.length+1=a1.length:=(by rw[a3];simp);rw[S,<-a3] at m;rw[S];have c2:=m.o.c0;have c3:=m.o.c1;have ez:=m.o.row.lt;obtain⟨⟨_,x0⟩,g0⟩:=m.o.res.1.row.at (i:=0) (by omega);obtain⟨⟨_,x1⟩,g1⟩:=m.o.res.1.row.at (i:=1) (by omega);have xz:=m.o.res.1.lt;clear a0 a4 P D S a3)
    have a5:=Jc (w9.setCell ⟨sb,1,none⟩ (.slice d2 a1.length h1)) (w.heap.size+1) 0 [.slice H Kj.length I,.slice d2 a1.length h1] (cO m.o.res.1);exact Zx [.slice H Kj.length I,.slice d2 a1.length h1] _ results55 rfl a5 underlying29 rfl Tryz.bB rfl (m.o.ends (by omega) (by omega))
  ·clear HB;go_wp2
   refine Qk.region (by kernel_rfl) (fun u=>u.cell? ⟨sb,0,none⟩=some (.slice H Kj.length I)) 10 (t.o.kept (aG _)).c0 (fun k=>?_);have t:=Kz (t.o.kept (aG wc));generalize b3:wc.drew=O at k t⊢;clear b3;refine ae 0 k ?_;refine ae 1 k ?_;refine ae 3 k ?_;refine bG 2 4 (fun K c=>?_) (fun K c=>?_)
   ·rw[Kg (by rfl)];go_simp
    have A:=Kz (t.o.kept ((K_.refl O).alloc (.cells #[.string ⟨#[97]⟩,.string ⟨#[]⟩,.string ⟨#[103,111,110,101]⟩] 9)));refine c.out _ _ (fun _=>A.o.c0) ?_;clear c K k;try simp only[Act.put,upA,upB,upC]
    refine ai 4 (fun K c=>?_);go_simp
    go_at_call 21
    refine (aI _ L a R N p1 _ 3 rfl A.o.rd (by omega) (by omega) a8).mono ?_;rintro e F ⟨q,rfl,W,T,G⟩;obtain⟨C,J,d4⟩:=pg [⟨#[97]⟩,⟨#[]⟩,⟨#[103,111,110,101]⟩] G t.o.rd.row.lt q (by show q<3;omega) (by
     intro C J;simp only[JN,JO,or_false] at J;rcases J with rfl | rfl | rfl <;> decide)
    have lz:O.heap.size<F.heap.size:=I_ (by simp) G.size;have t:=Kz (A.o.drawn T G);have j3:(q:Int)<3:=by omega
    clear T G A;dsimp only;refine c.out _ _ (fun _=>t.o.c0) ?_;clear c K;try simp only[Act.put,upA,upB,upC]
    refine af 5 (fun K c=>?_);go_simp
    refine c.out _ _ (fun _=>t.o.c0) ?_;clear c K;try simp only[Act.put,upA,upB,upC]
    refine af 6 (fun K c=>?_);go_simp
    refine c.out _ _ (fun _=>t.o.c0) ?_;clear c K;try simp only[Act.put,upA,upB,upC]
    refine ai 7 (fun K c=>?_);go_simp
    have Q:=Kz (t.o.kept ((K_.refl F).alloc (.cells #[.string C] 9)));refine c.out _ _ (fun _=>Q.o.c0) ?_;clear c K;try simp only[Act.put,upA,upB,upC]
    obtain⟨ia,d5,d6,d7,d8⟩:=aM Tryz.d_;have i0:=Q.o.rn;have e0:w.heap.size+2<=(F.alloc (.cells #[.string C] 9)).heap.size:=Nat.le_of_lt (Nat.lt_of_le_of_lt Q.o.sbl Q.o.row.lt);refine ai 8 (fun K c=>?_);refine wp_append_own _ (.tmp 20) (.tmp 26) 26 rfl (w.heap.size+2) 9 ia _ 1 16 underlying26 d5 d6 d7 d8 rfl (by decide) (.slice H Kj.length I) Kj.length (Kj.map Value.string) rfl Q.o.yK ⟨F.heap.size,0,none⟩ 1 1 [.string C] rfl rfl (iB F C) (ib C) (by unfold maxLen;omega) (by omega) e0 ?_;intro v' w9 P a4 _;obtain⟨r2,b4,rfl⟩:=ax P;obtain⟨D,b5,a0⟩:=Q.o.CU a4 P d4;have m:=Kz a0;clear a0 a4 P;dsimp only;refine c.out _ _ (fun _=>b5) ?_;clear c K;try simp only[Act.put,upA,upB,upC]
    have k:=b5;refine ae 9 k ?_;obtain⟨⟨_,y0⟩,f0⟩:=D.row.at (i:=0) (by omega);have rz:=D.lt;refine af 10 (fun K c=>?_);go_simp
    refine c.out _ _ (fun h=>Ki rfl h) ?_;clear c K y0 f0 rz b5 k D;try simp only[Act.put,upA,upB,upC]
    refine ay ?_;obtain⟨a7,b6⟩:=ah (Kj++ [C]);have S:Kj.length+1=a7.length:=by rw[b6];simp
    rw[S,<-b6] at m;rw[S];generalize hU:w9.setCell ⟨sb,0,none⟩ (.slice r2 a7.length b4)=b2 at m⊢;have v:=Kz m.o;clear hU m Q t S b6;have c2:=v.o.c0;have c3:=v.o.c1;have ez:=v.o.row.lt;obtain⟨⟨_,x0⟩,g0⟩:=v.o.res.1.row.at (i:=0) (by omega);obtain⟨⟨_,x1⟩,g1⟩:=v.o.res.1.row.at (i:=1) (by omega);have xz:=v.o.res.1.lt;go_wp2
    have a5:=Jc b2 (w.heap.size+1) 0 [.slice r2 a7.length b4,.slice d1 j.length B] (cO v.o.res.1);exact Zx [.slice r2 a7.length b4,.slice d1 j.length B] _ results55 rfl a5 underlying29 rfl Tryz.bB rfl (v.o.ends (by omega) (by omega))
   ·rw[Kg (by rfl)];go_simp
    go_at_call 21
    refine (aI _ L a R N p1 _ 3 rfl t.o.rd (by omega) (by omega) a8).mono ?_;rintro e n ⟨q,rfl,W,T,G⟩;have A:=Kz (t.o.drawn T G);have j3:(q:Int)<3:=by omega
    clear T G t;dsimp only;refine c.out _ _ (fun _=>A.o.c0) ?_;clear c K k;try simp only[Act.put,upA,upB,upC]
    refine ai 2 (fun K c=>?_);go_simp
    have t:=Kz (A.o.kept ((K_.refl n).alloc (.cells #[.string ⟨#[97]⟩,.string ⟨#[]⟩,.string ⟨#[103,111,110,101]⟩] 9)));obtain⟨C,J,d4⟩:=pJ n 9 [⟨#[97]⟩,⟨#[]⟩,⟨#[103,111,110,101]⟩] q (by show q<3;omega) (by
     intro C J;simp only[JN,JO,or_false] at J;rcases J with rfl | rfl | rfl <;> decide)
    have o0:(n.alloc (.cells #[.string ⟨#[97]⟩,.string ⟨#[]⟩,.string ⟨#[103,111,110,101]⟩] 9)).cell? ⟨n.heap.size,q,none⟩=some (.string C):=J;have lz:n.heap.size<(n.alloc (.cells #[.string ⟨#[97]⟩,.string ⟨#[]⟩,.string ⟨#[103,111,110,101]⟩] 9)).heap.size:=by simp
    clear J A;refine c.out _ _ (fun _=>t.o.c0) ?_;clear c K;try simp only[Act.put,upA,upB,upC]
    generalize o1:n.alloc (.cells #[.string ⟨#[97]⟩,.string ⟨#[]⟩,.string ⟨#[103,111,110,101]⟩] 9)=F at t o0 lz⊢;clear o1;refine af 5 (fun K c=>?_);go_simp
    refine c.out _ _ (fun _=>t.o.c0) ?_;clear c K;try simp only[Act.put,upA,upB,upC]
    refine af 6 (fun K c=>?_);go_simp
    refine c.out _ _ (fun _=>t.o.c0) ?_;clear c K;try simp only[Act.put,upA,upB,upC]
    refine ai 7 (fun K c=>?_);go_simp
    have Q:=Kz (t.o.kept ((K_.refl F).alloc (.cells #[.string C] 9)));refine c.out _ _ (fun _=>Q.o.c0) ?_;clear c K;try simp only[Act.put,upA,upB,upC]
    obtain⟨ia,d5,d6,d7,d8⟩:=aM Tryz.d_;have i0:=Q.o.rn;have e0:w.heap.size+2<=(F.alloc (.cells #[.string C] 9)).heap.size:=Nat.le_of_lt (Nat.lt_of_le_of_lt Q.o.sbl Q.o.row.lt);refine ai 8 (fun K c=>?_);refine wp_append_own _ (.tmp 20) (.tmp 26) 26 rfl (w.heap.size+2) 9 ia _ 1 16 underlying26 d5 d6 d7 d8 rfl (by decide) (.slice H Kj.length I) Kj.length (Kj.map Value.string) rfl Q.o.yK ⟨F.heap.size,0,none⟩ 1 1 [.string C] rfl rfl (iB F C) (ib C) (by unfold maxLen;omega) (by omega) e0 ?_;intro v' w9 P a4 _;obtain⟨r2,b4,rfl⟩:=ax P;obtain⟨D,b5,a0⟩:=Q.o.CU a4 P d4;have m:=Kz a0;clear a0 a4 P;dsimp only;refine c.out _ _ (fun _=>b5) ?_;clear c K;try simp only[Act.put,upA,upB,upC]
    have k:=b5;refine ae 9 k ?_;obtain⟨⟨_,y0⟩,f0⟩:=D.row.at (i:=0) (by omega);have rz:=D.lt;refine af 10 (fun K c=>?_);go_simp
    refine c.out _ _ (fun h=>Ki rfl h) ?_;clear c K y0 f0 rz b5 k D;try simp only[Act.put,upA,upB,upC]
    refine ay ?_;obtain⟨a7,b6⟩:=ah (Kj++ [C]);have S:Kj.length+1=a7.length:=by rw[b6];simp
    rw[S,<-b6] at m;rw[S];generalize hU:w9.setCell ⟨sb,0,none⟩ (.slice r2 a7.length b4)=b2 at m⊢;have v:=Kz m.o;clear hU m Q t S b6;have c2:=v.o.c0;have c3:=v.o.c1;have ez:=v.o.row.lt;obtain⟨⟨_,x0⟩,g0⟩:=v.o.res.1.row.at (i:=0) (by omega);obtain⟨⟨_,x1⟩,g1⟩:=v.o.res.1.row.at (i:=1) (by omega);have xz:=v.o.res.1.lt;go_wp2
    have a5:=Jc b2 (w.heap.size+1) 0 [.slice r2 a7.length b4,.slice d1 j.length B] (cO v.o.res.1);exact Zx [.slice r2 a7.length b4,.slice d1 j.length B] _ results55 rfl a5 underlying29 rfl Tryz.bB rfl (v.o.ends (by omega) (by omega))
structure SU (N:Nat) (w wr:KH) (sb:Nat) (ra:KG) (rc:Nat) (d:KG) (dc:Nat) (Kj:List KC) (sl:List Q_):Prop where
 row:au wr sb 29 2
 c0:wr.cell? ⟨sb,0,none⟩=some (.slice ra Kj.length rc)
 c1:wr.cell? ⟨sb,1,none⟩=some (.slice d sl.length dc)
 st:StU N wr ra rc d Kj sl
 sl:w.heap.size+2<=sb
section
variable {N : Nat} {w wr w' : KH} {rb sb : Nat} {a : KG} {cap : Nat} {bs : List UInt8} {p : Nat} {ra : KG} {rc : Nat} {d : KG} {dc : Nat} {Kj : List KC} {sl : List Q_}
theorem SU.drawn(h:SU N w wr sb ra rc d dc Kj sl)(e:Rd wr rb a cap bs p)(k:Xj rb (rb+1) wr w'):SU N w w' sb ra rc d dc Kj sl:=by
 have c:=k.block _ h.row.lt (by have:=qJ h.row e.row (by decide);omega);exact⟨h.row.block c,(Jl (w:=wr) c).trans h.c0,(Jl (w:=wr) c).trans h.c1,h.st.noS e.noS k,h.sl⟩
theorem SU.kept(h:SU N w wr sb ra rc d dc Kj sl)(k:K_ wr w'):SU N w w' sb ra rc d dc Kj sl:=⟨h.row.kept k,(k.cell h.row.lt).trans h.c0,(k.cell h.row.lt).trans h.c1,h.st.kept k,h.sl⟩
end
theorem Fe{M N K t:Nat}{w m w1:KH}{r:Nat}{a:KG}{v:Nat}{x:List UInt8}{p:Nat}{e:Ending}(C:∃p0,Rd w r a v x p0)(n:K_ w m)(V:m.heap.size=w.heap.size+2)(y:au m w.heap.size 25 1/\NoS m w.heap.size)(h2:SZ m (w.heap.size+1))(s:Bp K M N m w1 r a v x p t e):
  ∃b c L f h d i Kj j q,e= .returned (.tuple #[.agg #[.slice b (List.length L) c],.agg #[.slice f (List.length Kj) h,.slice d (List.length j) i]])/\p<=q/\q<=p+t/\L.length<=N/\(∀d∈L,d.TinyN M)/\DS0 w ((w1.alloc (.cells #[.slice b L.length c] 25)).alloc (.cells #[.slice f Kj.length h,.slice d j.length i] 29)) r w1.heap.size a v x q b c L/\SU K w ((w1.alloc (.cells #[.slice b L.length c] 25)).alloc (.cells #[.slice f Kj.length h,.slice d j.length i] 29)) (w1.heap.size+1) f h d i Kj j:=by
 obtain⟨b,c,L,f,h,d,i,Kj,j,q,rfl,H,I,J,O,P,Q,R,k⟩:=s;have W:r<w.heap.size:=let ⟨_,h0⟩:=C;h0.row.lt
 have S:K_ w1 (w1.alloc (.cells #[.slice b L.length c] 25)):=ag _ _;have A:K_ (w1.alloc (.cells #[.slice b L.length c] 25)) ((w1.alloc (.cells #[.slice b L.length c] 25)).alloc (.cells #[.slice f Kj.length h,.slice d j.length i] 29)):=ag _ _;have l:=S.trans A;have D:=k.block w.heap.size y.1.lt (by omega);have E:=k.block (w.heap.size+1) h2.1.lt (by omega);have X:=k.size;have T:au ((w1.alloc (.cells #[.slice b L.length c] 25)).alloc (.cells #[.slice f Kj.length h,.slice d j.length i] 29)) (w1.heap.size+1) 29 2:=by
  have s:=au.made (w1.alloc (.cells #[.slice b L.length c] 25)) #[.slice f Kj.length h,.slice d j.length i] 29;simp only[JG] at s;exact s
 have B:=X_ (w1.alloc (.cells #[.slice b L.length c] 25)) #[.slice f Kj.length h,.slice d j.length i] 29;simp only[JG] at B;refine⟨b,c,L,f,h,d,i,Kj,j,q,rfl,H,I,J,O,⟨R.kept l,C,Xj.eX ⟨k.os.trans n.os,k.tape.trans n.tape,k.output.trans n.output,Jb n.size k.size,fun F G U=>(k.block F (I_ G n.size) U).trans (n.block F G)⟩ l,(y.1.block D).kept l,(y.2.block D).block (l.block _ (by omega)),(h2.1.block E).kept l,(h2.2.block E).block (l.block _ (by omega)),(au.made w1 _ _).kept A,(A.cell (by simp)).trans (X_ w1 _ _ 0 _ rfl),by omega,P.kept l⟩,⟨T,B 0 _ rfl,B 1 _ rfl,Q.kept l,by omega⟩⟩
theorem zf(w:KH):(au ((w.alloc (.cells #[.slice none 0 0] 25)).alloc (.cells #[.slice none 0 0,.slice none 0 0] 29)) w.heap.size 25 1/\NoS ((w.alloc (.cells #[.slice none 0 0] 25)).alloc (.cells #[.slice none 0 0,.slice none 0 0] 29)) w.heap.size)/\SZ ((w.alloc (.cells #[.slice none 0 0] 25)).alloc (.cells #[.slice none 0 0,.slice none 0 0] 29)) (w.heap.size+1):=by
 have a:K_ (w.alloc (.cells #[.slice none 0 0] 25)) ((w.alloc (.cells #[.slice none 0 0] 25)).alloc (.cells #[.slice none 0 0,.slice none 0 0] 29)):=ag _ _;have h:=SZ.made (w.alloc (.cells #[.slice none 0 0] 25));simp only[JG] at h;exact⟨⟨(au.made w _ _).kept a,(sW w _ _ (fun v c s e=>by simp at c;rw[c] at e;cases e)).block (a.block _ (by simp))⟩,h⟩
theorem FC :Es 25 2100 1 30 200 400000:=by
 intro B C D E F a2 O hp G;obtain⟨W0,r⟩:=ah ((B.alloc (.cells #[.slice none 0 0] 25)).alloc (.cells #[.slice none 0 0,.slice none 0 0] 29));have P:K_ B W0:=by rw[r];exact (ag _ _).alloc _
 have a3:W0.heap.size=B.heap.size+2:=by rw[r];simp
 have Q:=zf B;rw[<-r] at Q;have R:=Kz Q;have a4:=Kz (O.kept P);have⟨b7,b8,a5⟩:=eB O P a3;clear O P a3 Q;go_enter func25,ntmps25
 go_upto_region 1 with fail
 rw[<-r];clear r;go_wp2_with fail
 refine (Dw _ C D E F a2 a4.o (by omega) G).mono ?_;intro S w1 m;obtain⟨f,h,L,i,j,d,k,Kj,l,T,rfl,c4,c5,hL,a6,U,V⟩:=Fe ⟨a2,b7.o⟩ b8.o a5.o R.o.1 R.o.2 m;obtain⟨W1,H⟩:=ah ((w1.alloc (.cells #[.slice f L.length h] 25)).alloc (.cells #[.slice i Kj.length j,.slice d l.length k] 29));obtain⟨W,X⟩:=ah w1.heap.size;obtain⟨p,Y⟩:=ah (w1.heap.size+1);rw[<-H,<-X] at U;rw[<-H,<-Y] at V;have⟨I,a7,Z⟩:=eB U V a6;go_upto_region 2 with fail
 rw[<-H,<-Y,<-X];clear H X Y U V m a4 R a5 a6;go_wp2_with fail
 refine (aI _ C D E F T _ 12 rfl I.o.rd (by omega) (by omega) G).mono ?_;rintro S w2 ⟨q,rfl,c6,a8,a0⟩;have b:=Kz (a7.o.drawn I.o.rd a0);have a:=Kz (I.o.drawn a8 a0);clear a8 a0 I a7;by_cases J:q=0
 ·have e0:((q:Int) == 0)=true:=by simp[J]
  clear J;go_wp2
  refine Qk.region (by kernel_rfl) (fun u=>u.cell? ⟨W,0,none⟩=some (.slice f L.length h)/\u.cell? ⟨p,0,none⟩=some (.slice i Kj.length j)/\u.cell? ⟨p,1,none⟩=some (.slice d l.length k)) 5 ⟨(a.o.kept (aG _)).wc,(b.o.kept (aG _)).c0,(b.o.kept (aG _)).c1⟩ (fun e=>?_);have b:=Kz (b.o.kept (aG w2));have a:=Kz (a.o.kept (aG w2));generalize s:w2.drew=N at e a b⊢;clear s;refine ae 0 e ?_;refine ae 1 e ?_;refine ae 2 e ?_;refine ai 3 (fun K c=>?_);go_simp
  go_at_call 55
  refine (Bo N C D E F (T+1) i j d k Kj l a.o.rd (by omega) G b.o.st).mono ?_;rintro S w8 ⟨a9,b0,d2,b1,b2,b3,p8,rfl,b9,c2,hU,t,n⟩;have b:=Kz (b.o.drawn a.o.rd n);have a:=Kz (a.o.drawn t n);have⟨v,w⟩:=aD hU a.o.nd;clear hU t n;dsimp only;refine c.out _ _ (fun _=>⟨a.o.wc,b.o.c0,b.o.c1⟩) ?_;clear c K e;try simp only[Act.put,upA,upB,upC]
  obtain⟨_,x,y⟩:=a.o.range (.slice f L.length h) (.slice a9 b2.length b0) (.slice d2 b3.length b1);refine ai 4 (fun K c=>?_);refine a.o.w1 rfl rfl rfl ?_;refine c.out _ _ (fun _=>⟨a.o.st1 a.o.dJ a.o.wl a.o.wc,a.o.st1 b.o.row b.o.sl b.o.c0,a.o.st1 b.o.row b.o.sl b.o.c1⟩) ?_;clear c K;try simp only[Act.put]
  refine ai 5 (fun K c=>?_);refine a.o.w2 rfl rfl rfl ?_;refine c.out _ _ (fun A=>Ki rfl A) ?_;clear c K;try simp only[Act.put]
  refine ay ?_;go_wp2_with fail
  exact dV [.slice f L.length h] [.slice a9 b2.length b0,.slice d2 b3.length b1] _ _ results25 rfl x underlying25 rfl Tryz.fC rfl y underlying29 rfl Tryz.bB rfl (a.o.ends w.o v.o (by omega) (by omega) (by omega) (fun d m=>(Z.o d m).mono (by omega)))
 have e0:((q:Int) == 0)=false:=by simpa using J
 clear J;by_cases h1:q=1
 ·have e1:((q:Int) == 1)=true:=by simp[h1]
  clear h1;go_wp2
  refine Qk.region (by kernel_rfl) (fun u=>u.cell? ⟨W,0,none⟩=some (.slice f L.length h)/\u.cell? ⟨p,0,none⟩=some (.slice i Kj.length j)/\u.cell? ⟨p,1,none⟩=some (.slice d l.length k)) 5 ⟨(a.o.kept (aG _)).wc,(b.o.kept (aG _)).c0,(b.o.kept (aG _)).c1⟩ (fun e=>?_);have b:=Kz (b.o.kept (aG w2));have a:=Kz (a.o.kept (aG w2));generalize s:w2.drew=N at e a b⊢;clear s;refine ae 0 e ?_;refine ae 1 e ?_;refine ae 3 e ?_;refine ai 2 (fun K c=>?_);go_simp
  go_at_call 56
  refine (Bn 20 (by omega) N C D E F (T+1) f h L a.o.rd (by omega) G (by omega) Z.o a.o.nd).mono ?_;rintro S w8 ⟨v8,L8,p8,rfl,b9,c2,c7,b4,a1,t,n,_⟩;obtain⟨b5,b6,rfl,_,_⟩:=a1.slice;have v:=Kz ((b.o.st.noS a.o.rd.noS n).mono (M:=1) (by omega));have b:=Kz (b.o.drawn a.o.rd n);have a:=Kz (a.o.drawn t n);have⟨w,c3⟩:=aD a1 b4;clear a1 t n b4;dsimp only;refine c.out _ _ (fun _=>⟨a.o.wc,b.o.c0,b.o.c1⟩) ?_;clear c K e;try simp only[Act.put,upA,upB,upC]
  obtain⟨_,x,y⟩:=a.o.range (.slice b5 L8.length b6) (.slice i Kj.length j) (.slice d l.length k);refine ai 4 (fun K c=>?_);refine a.o.w1 rfl rfl rfl ?_;refine c.out _ _ (fun _=>⟨a.o.st1 a.o.dJ a.o.wl a.o.wc,a.o.st1 b.o.row b.o.sl b.o.c0,a.o.st1 b.o.row b.o.sl b.o.c1⟩) ?_;clear c K;try simp only[Act.put]
  refine ai 5 (fun K c=>?_);refine a.o.w2 rfl rfl rfl ?_;refine c.out _ _ (fun A=>Ki rfl A) ?_;clear c K;try simp only[Act.put]
  refine ay ?_;go_wp2_with fail
  exact dV [.slice b5 L8.length b6] [.slice i Kj.length j,.slice d l.length k] _ _ results25 rfl x underlying25 rfl Tryz.fC rfl y underlying29 rfl Tryz.bB rfl (a.o.ends w.o v.o (by omega) (by omega) (by omega) (fun d m=>(c3.o d m).mono (by omega)))
 have e1:((q:Int) == 1)=false:=by simp;omega
 clear h1;have c8:=Kz b.o.st;go_wp2
 refine Qk.region (by kernel_rfl) (fun u=>u.cell? ⟨W,0,none⟩=some (.slice f L.length h)/\u.cell? ⟨p,0,none⟩=some (.slice i Kj.length j)/\u.cell? ⟨p,1,none⟩=some (.slice d l.length k)) 3 ⟨(a.o.kept (aG _)).wc,(b.o.kept (aG _)).c0,(b.o.kept (aG _)).c1⟩ (fun e=>?_);have b:=Kz (b.o.kept (aG w2));have a:=Kz (a.o.kept (aG w2));generalize s:w2.drew=N at e a b⊢;clear s;refine ae 0 e ?_;refine ae 1 e ?_;have v:=Kz (b.o.st.mono (M:=1) (by omega));have w:=Kz a.o.nd;obtain⟨_,x,y⟩:=a.o.range (.slice f L.length h) (.slice i Kj.length j) (.slice d l.length k);refine ai 2 (fun K c=>?_);refine a.o.w1 rfl rfl rfl ?_;refine c.out _ _ (fun _=>⟨a.o.st1 a.o.dJ a.o.wl a.o.wc,a.o.st1 b.o.row b.o.sl b.o.c0,a.o.st1 b.o.row b.o.sl b.o.c1⟩) ?_;clear c K;try simp only[Act.put]
 refine ai 3 (fun K c=>?_);refine a.o.w2 rfl rfl rfl ?_;refine c.out _ _ (fun A=>Ki rfl A) ?_;clear c K;try simp only[Act.put]
 refine ay ?_;go_wp2_with fail
 exact dV [.slice f L.length h] [.slice i Kj.length j,.slice d l.length k] _ _ results25 rfl x underlying25 rfl Tryz.fC rfl y underlying29 rfl Tryz.bB rfl (a.o.ends w.o v.o (by omega) (by omega) (by omega) (fun d m=>(Z.o d m).mono (by omega)))
variable {w : KH}
theorem qM{P:Program}{i:Func}{R:Ending->KH->Prop}{a:Act}{p q t:Tmp}{c e:TypeId}{b f:Nat}(cs h:List KI)(v:KI)(d d':TypeDesc)(k:i.results= #[.cell p c,.cell q e,.tmp t])
 (l:a.tmps.getD p undef= .pointer (some ⟨b,0,none⟩)) (m:w.rangeAt b 0 cs) (n:P.underlying c=some d) (r:d.isRow=true) (s:(P.info? c).map (·.size)=some cs.length)
 (x:a.tmps.getD q undef= .pointer (some ⟨f,0,none⟩)) (y:w.rangeAt f 0 h) (A:P.underlying e=some d') (B:d'.isRow=true) (C:(P.info? e).map (·.size)=some h.length)
 (D:a.tmps.getD t undef=v) (E:a.defers=[]) (F:R (.returned (.tuple #[.agg cs.toArray,.agg h.toArray,v])) w):bodyPost P i R .ret a w:=by
 refine bodyPost_ret ?_ E F;have G:a.tmps[p]?.getD undef= .pointer (some ⟨b,0,none⟩):=by simpa using l
 have H:a.tmps[q]?.getD undef= .pointer (some ⟨f,0,none⟩):=by simpa using x
 have I:a.tmps[t]?.getD undef=v:=by simpa using D
 simp only[results,k];simp[G,H,I,asAddr,run_loadVar_mid w b 0 c cs d m n r s,run_loadVar_mid w f 0 e h d' y A B C]
structure DZ (w wr:KH) (wb sb:Nat) (na:KG) (nc:Nat) (L:List Qz) (ra:KG) (rc:Nat) (d:KG) (dc:Nat) (Kj:List KC) (sl:List Q_) (f1 f2:Bool):Prop where
 kw:K_ w wr
 r1:au wr w.heap.size 25 1
 n1:NoS wr w.heap.size
 r2:SZ wr (w.heap.size+1)
 dJ:au wr wb 25 1
 wc:wr.cell? ⟨wb,0,none⟩=some (.slice na L.length nc)
 wl:w.heap.size+2<=wb
 nd:aX wr (.slice na L.length nc) L
 row:au wr sb 29 2
 c0:wr.cell? ⟨sb,0,none⟩=some (.slice ra Kj.length rc)
 c1:wr.cell? ⟨sb,1,none⟩=some (.slice d sl.length dc)
 st:StU 1 wr ra rc d Kj sl
 sbl:w.heap.size+2<=sb
 g1:f1=true->wr.rangeAt w.heap.size 0 [.slice na L.length nc]
 g2:f2=true->wr.rangeAt (w.heap.size+1) 0 [.slice ra Kj.length rc,.slice d sl.length dc]
theorem jw{w':KH}{b o:Nat}{cs:List KI}(h:w.rangeAt b o cs)(k:w'.heap[b]? =w.heap[b]?):w'.rangeAt b o cs:=fun j v f=>(Jl (w:=w) (a:=⟨b,o+j,none⟩) k).trans (h j v f)
section
variable {w wr w' : KH} {rb wb sb : Nat} {a : KG} {cap : Nat} {bs : List UInt8} {p : Nat} {na : KG} {nc : Nat} {L : List Qz} {ra : KG} {rc : Nat} {d : KG} {dc : Nat} {Kj : List KC} {sl : List Q_} {f1 f2 : Bool}
theorem DZ.drawn(h:DZ w wr wb sb na nc L ra rc d dc Kj sl f1 f2)(m:w.heap.size+2<=rb)(b:Rd wr rb a cap bs p)(k:Xj rb (rb+1) wr w'):DZ w w' wb sb na nc L ra rc d dc Kj sl f1 f2:=by
 have l:=k.sameKind b;have c:=k.block _ h.r1.lt (by omega);have e:=k.block _ h.r2.1.lt (by omega);have j:=k.block _ h.dJ.lt (by have:=qJ h.dJ b.row (by decide);omega);have f:=k.block _ h.row.lt (by have:=qJ h.row b.row (by decide);omega);exact⟨k.kept h.kw (by omega),h.r1.block c,h.n1.block c,⟨h.r2.1.block e,h.r2.2.block e⟩,h.dJ.block j,(Jl (w:=wr) j).trans h.wc,h.wl,h.nd.same l (by decide) (by decide) (by decide) (by decide),h.row.block f,(Jl (w:=wr) f).trans h.c0,(Jl (w:=wr) f).trans h.c1,h.st.noS b.noS k,h.sbl,fun i=>jw (h.g1 i) c,fun i=>jw (h.g2 i) e⟩
theorem DZ.kept(h:DZ w wr wb sb na nc L ra rc d dc Kj sl f1 f2)(k:K_ wr w'):DZ w w' wb sb na nc L ra rc d dc Kj sl f1 f2:=by
 have a:=k.block _ h.r1.lt;have b:=k.block _ h.r2.1.lt;exact⟨h.kw.trans k,h.r1.block a,h.n1.block a,h.r2.kept k,h.dJ.kept k,(k.cell h.dJ.lt).trans h.wc,h.wl,h.nd.kept k,h.row.kept k,(k.cell h.row.lt).trans h.c0,(k.cell h.row.lt).trans h.c1,h.st.kept k,h.sbl,fun e=>jw (h.g1 e) a,fun e=>jw (h.g2 e) b⟩
theorem DZ.Cn(h:DZ w wr wb sb na nc L ra rc d dc Kj sl f1 f2):DZ w (wr.setCells w.heap.size 0 [.slice na L.length nc]) wb sb na nc L ra rc d dc Kj sl true f2:=by
 have k:Xj w.heap.size (w.heap.size+1) wr (wr.setCells w.heap.size 0 [.slice na L.length nc]):=Xj.sets (IZ _) (Jw _) _ 0 (Xj.refl _ _ _);have m:=fO k h.r1;have n:=h.wl;have p:=h.sbl;have a:=k.block _ h.r2.1.lt (by omega);have f:=k.block _ h.dJ.lt (by omega);have b:=k.block _ h.row.lt (by omega);have i:=Jc wr w.heap.size 0 [.slice na L.length nc] (cO h.r1);have j:au (wr.setCells w.heap.size 0 [.slice na L.length nc]) w.heap.size 25 1:=au.sets _ _ h.r1;have q:NoS (wr.setCells w.heap.size 0 [.slice na L.length nc]) w.heap.size:=fun o t e=>by
  obtain⟨r,s,v⟩:=j;have c:(wr.setCells w.heap.size 0 [.slice na L.length nc]).cell? ⟨w.heap.size,o,none⟩=r[o]? :=by simp[World.cell?,s]
  match o,e,c with
  | 0,e,_=>have l:=i 0 _ rfl;rw[JM] at l;rw[l] at e;cases e
  | o+1,e,c=>rw[c,Array.getElem?_eq_none (by omega)] at e;cases e
 exact⟨k.kept h.kw (IZ _),j,q,⟨h.r2.1.block a,h.r2.2.block a⟩,h.dJ.block f,(Jl (w:=wr) f).trans h.wc,n,h.nd.same m (by decide) (by decide) (by decide) (by decide),h.row.block b,(Jl (w:=wr) b).trans h.c0,(Jl (w:=wr) b).trans h.c1,h.st.noS h.n1 k,p,fun _=>i,fun e=>jw (h.g2 e) a⟩
theorem DZ.uU(h:DZ w wr wb sb na nc L ra rc d dc Kj sl f1 f2):DZ w (wr.setCells (w.heap.size+1) 0 [.slice ra Kj.length rc,.slice d sl.length dc]) wb sb na nc L ra rc d dc Kj sl f1 true:=by
 have k:Xj (w.heap.size+1) (w.heap.size+1+1) wr (wr.setCells (w.heap.size+1) 0 [.slice ra Kj.length rc,.slice d sl.length dc]):=Xj.sets (IZ _) (Jw _) _ 0 (Xj.refl _ _ _);have j:=fO k h.r2.1;have l:=h.wl;have m:=h.sbl;have a:=k.block _ h.r1.lt (by omega);have f:=k.block _ h.dJ.lt (by omega);have b:=k.block _ h.row.lt (by omega);have c:=Jc wr (w.heap.size+1) 0 [.slice ra Kj.length rc,.slice d sl.length dc] (cO h.r2.1);have i:au (wr.setCells (w.heap.size+1) 0 [.slice ra Kj.length rc,.slice d sl.length dc]) (w.heap.size+1) 29 2:=au.sets _ _ h.r2.1;exact⟨k.kept h.kw (by omega),h.r1.block a,h.n1.block a,⟨i,xH i (c 0 _ rfl) (c 1 _ rfl) (fun _ e=>by cases e) (fun _ e=>by cases e)⟩,h.dJ.block f,(Jl (w:=wr) f).trans h.wc,l,h.nd.same j (by decide) (by decide) (by decide) (by decide),h.row.block b,(Jl (w:=wr) b).trans h.c0,(Jl (w:=wr) b).trans h.c1,h.st.noS h.r2.2 k,m,fun e=>jw (h.g1 e) a,fun _=>c⟩
theorem DZ.made{w1:KH}(b:K_ ((w.alloc (.cells #[.slice none 0 0] 25)).alloc (.cells #[.slice none 0 0,.slice none 0 0] 29)) w1)(k:aX w1 (.slice na L.length nc) L)(l:StU 1 w1 ra rc d Kj sl):
  DZ w ((w1.alloc (.cells #[.slice na L.length nc] 25)).alloc (.cells #[.slice ra Kj.length rc,.slice d sl.length dc] 29)) w1.heap.size (w1.heap.size+1) na nc L ra rc d dc Kj sl false false:=by
 have m:K_ w1 (w1.alloc (.cells #[.slice na L.length nc] 25)):=ag _ _;have c:K_ (w1.alloc (.cells #[.slice na L.length nc] 25)) ((w1.alloc (.cells #[.slice na L.length nc] 25)).alloc (.cells #[.slice ra Kj.length rc,.slice d sl.length dc] 29)):=ag _ _;have a:=m.trans c;have e:=b.trans a;obtain⟨⟨i,n⟩,p⟩:=zf w;have q:=b.size;simp only[JG] at q;have j:=au.made (w1.alloc (.cells #[.slice na L.length nc] 25)) #[.slice ra Kj.length rc,.slice d sl.length dc] 29;simp only[JG] at j;have f:=X_ (w1.alloc (.cells #[.slice na L.length nc] 25)) #[.slice ra Kj.length rc,.slice d sl.length dc] 29;simp only[JG] at f;exact⟨((ag _ _).alloc _ |>.trans b).trans a,i.kept e,n.block (e.block _ i.lt),p.kept e,(au.made w1 _ _).kept c,(c.cell (by simp)).trans (X_ w1 _ _ 0 _ rfl),by omega,k.kept a,j,f 0 _ rfl,f 1 _ rfl,l.kept a,by omega,fun h=>(by cases h),fun h=>(by cases h)⟩
end
def CE(M N:Nat)(w w':KH)(e:Ending):Prop:=
 ∃(na:KG) (nc:Nat) (L:List Qz) (ra:KG) (rc:Nat) (d:KG) (dc:Nat) (Kj:List KC) (sl:List Q_) (nm:KC),e= .returned (.tuple #[.agg #[.slice na L.length nc],.agg #[.slice ra Kj.length rc,.slice d sl.length dc],.string nm])/\nm.size<=300/\L.length<=N/\(∀d∈L,d.TinyN M)/\aX w' (.slice na L.length nc) L/\StU 1 w' ra rc d Kj sl/\K_ w w'
variable {L : List Qz} {sl : List Q_} {dc nc rc sb wb : Nat} {d na ra : KG} {wr : KH}
theorem DZ.ends{M N:Nat}{Kj:List KC}{a:KC}{b c:Bool}(h:DZ w wr wb sb na nc L ra rc d dc Kj sl b c)(e:a.size<=300)(f:L.length<=N)(i:∀d∈L,d.TinyN M):CE M N w wr (.returned (.tuple #[.agg #[.slice na L.length nc],.agg #[.slice ra Kj.length rc,.slice d sl.length dc],.string a])):=
 ⟨na,nc,L,ra,rc,d,dc,Kj,sl,a,rfl,e,f,i,h.nd,h.st,h.kw⟩
theorem DZ.w1{b:Oper}{x y:Operand}{a:Act}{K:Act->KH->Prop}{Q:Exit->Act->KH->Prop}{Kj:List KC}{f h:Bool}(i:DZ w wr wb sb na nc L ra rc d dc Kj sl f h)(j:b.op= .store 25 x y)(k:a.eval x= .pointer (some ⟨w.heap.size,0,none⟩))(l:a.eval y= .agg #[.slice na L.length nc])(m:K (a.put b.dst undef) (wr.setCells w.heap.size 0 [.slice na L.length nc])):b.wp prog a wr K Q:=
 wp_store_mid 25 _ _ j w.heap.size 0 #[.slice na L.length nc] k l (cO i.r1) (by kernel_rfl) (Av ..) m
theorem DZ.w2{b:Oper}{x y:Operand}{a:Act}{K:Act->KH->Prop}{Q:Exit->Act->KH->Prop}{Kj:List KC}{f h:Bool}(i:DZ w wr wb sb na nc L ra rc d dc Kj sl f h)(j:b.op= .store 29 x y)(k:a.eval x= .pointer (some ⟨w.heap.size+1,0,none⟩))(l:a.eval y= .agg #[.slice ra Kj.length rc,.slice d sl.length dc])(m:K (a.put b.dst undef) (wr.setCells (w.heap.size+1) 0 [.slice ra Kj.length rc,.slice d sl.length dc])):b.wp prog a wr K Q:=
 wp_store_mid 29 _ _ j (w.heap.size+1) 0 #[.slice ra Kj.length rc,.slice d sl.length dc] k l (cO i.r2.1) (by kernel_rfl) (jJ ..) m
theorem DZ.fin{M N:Nat}{c:Func}{a:Act}{Kj:List KC}{b:KC}(h:DZ w wr wb sb na nc L ra rc d dc Kj sl true true)(f:c.results= #[.cell 2 25,.cell 3 29,.tmp 4])(i:b.size<=300)(j:L.length<=N)(k:∀d∈L,d.TinyN M)(h2:a.tmps.getD 2 undef= .pointer (some ⟨w.heap.size,0,none⟩))(l:a.tmps.getD 3 undef= .pointer (some ⟨w.heap.size+1,0,none⟩))(m:a.tmps.getD 4 undef= .string b)(n:a.defers=[]):bodyPost prog c (fun e w'=>CE M N w w' e) .ret a wr:=
 qM [.slice na L.length nc] [.slice ra Kj.length rc,.slice d sl.length dc] (.string b) _ _ f h2 (h.g1 rfl) underlying25 rfl Tryz.fC l (h.g2 rfl) underlying29 rfl Tryz.bB m n (h.ends i j k)
def pu(w:KH)(lb:Nat):Prop:=au w lb 9 3/\∀q,q<3->∃c:KC,w.cell? ⟨lb,q,none⟩=some (.string c)/\c.size<=300
theorem mh(w:KH):pu (w.alloc (.cells #[.string ⟨#[103,111,110,101]⟩,.string ⟨#[97]⟩,.string ⟨#[]⟩] 9)) w.heap.size:=
 ⟨au.made w _ _,fun q d=>by
  obtain⟨c,e,f⟩:=pJ w 9 [⟨#[103,111,110,101]⟩,⟨#[97]⟩,⟨#[]⟩] q d (by
   intro c b;simp only[JN,JO,or_false] at b;rcases b with rfl | rfl | rfl <;> decide)
  exact⟨c,e,f⟩⟩
theorem pu.same{u:TypeId}{w':KH}{a:Nat}(h:pu w a)(k:ak u w w')(b:9≠u):pu w' a:=by
 obtain⟨d,e⟩:=h.1.eF k b;exact⟨d,fun q f=>by obtain⟨c,i,j⟩:=h.2 q f;exact⟨c,(e q).trans i,j⟩⟩
theorem pu.drawn{w':KH}{b c:Nat}{a:KG}{d:Nat}{e:List UInt8}{p:Nat}(h:pu w c)(f:Rd w b a d e p)(k:Xj b (b+1) w w'):pu w' c:=h.same (k.sameKind f) (by decide)
theorem pu.at{a:Nat}(h:pu w a)(q:Nat)(d:q<3):∃c:KC,w.cell? ⟨a,q,none⟩=some (.string c)/\c.size<=300/\a<w.heap.size:=let ⟨c,h1,h2⟩:=h.2 q d;⟨c,h1,h2,h.1.lt⟩
theorem vK(w:KH)(a:KG)(D:Nat)(J:List UInt8)(hB:BytesAt w a J)(c4:J.length<=D)(c5:J.length<=100000000):
  Calls prog 40 #[.slice a J.length D] w fun e w'=>CE 30 200 w w' e:=by
 obtain⟨Y,S⟩:=ah ((w.alloc (.cells #[.slice none 0 0] 25)).alloc (.cells #[.slice none 0 0,.slice none 0 0] 29));have k0:K_ w Y:=by rw[S];exact (ag _ _).alloc _
 have b1:Hid (Y.heap.size=w.heap.size+2):=by show _=_;rw[S];simp
 have b2:Hid (∀(w1:KH) (k:KG) (l:Nat) (L:List Qz) (p:KG) (q:Nat) (d:KG) (t:Nat) (Kj:List KC) (i:List Q_),K_ Y w1->aX w1 (.slice k L.length l) L->StU 1 w1 p q d Kj i->DZ w ((w1.alloc (.cells #[.slice k L.length l] 25)).alloc (.cells #[.slice p Kj.length q,.slice d i.length t] 29)) w1.heap.size (w1.heap.size+1) k l L p q d t Kj i false false):=by rw[S];exact fun _ _ _ _ _ _ _ _ _ _ h1 h2 h3=>DZ.made h1 h2 h3
 have b3:Hid (BytesAt Y a J):=fun c6 hi=>by
  obtain⟨M,o,e,N,m⟩:=hB c6 hi;exact⟨M,o,e,I_ N k0.size,(k0.cell N).trans m⟩
 clear hB k0;go_enter func40,ntmps40
 go_upto_region 1 with fail
 rw[<-S];clear S;go_wp2_with fail
 refine (EA _ a D J b3.o c4 c5).mono ?_;rintro e wA ⟨G,rfl,c7,a2,kA⟩;obtain⟨H,a3⟩:=ah (J.take 2000);have T:H.length<=2000:=by rw[a3,Jt];omega
 rw[<-a3] at a2;have⟨b4,b5⟩:=aD a2 kA;have Z:w.heap.size+2<=G:=by have:=b1.o;omega
 clear a2 kA a3 b3;go_wp2_with fail
 refine (FC _ G a D H 0 b4.o (by omega) T).mono ?_;rintro e w1 ⟨k,l,L,p,q,d,t,Kj,i,U,rfl,d6,d7,E,b6,hG,hU,b7,b8⟩;obtain⟨W1,a0⟩:=ah ((w1.alloc (.cells #[.slice k L.length l] 25)).alloc (.cells #[.slice p Kj.length q,.slice d i.length t] 29));obtain⟨wb,a4⟩:=ah w1.heap.size;obtain⟨V,a5⟩:=ah (w1.heap.size+1);have a6:=b2.o w1 k l L p q d t Kj i (zh b5.o c7 b8) hG hU;rw[<-a0,<-a5,<-a4] at a6;have⟨W,F⟩:=aD a6 b6;have a1:Hid (Rd W1 G a D H U):=by rw[a0];exact b7.kept ((ag _ _).alloc _)
 have d8:=hU.sn;go_upto_region 3 with fail
 rw[<-a0,<-a5,<-a4];clear a0 a4 a5 a6 b6 hG hU b7 b8 b2 b1 b5 b4;have c1:=W.o.c1;have cz:=W.o.row.lt;go_cut [23] from 15 to 23 (fun c8 wx=>∃(M:Bool) (p':Nat),c8= .bool M/\p'<=U+1/\Rd wx G a D H p'/\DZ w wx wb V k l L p q d t Kj i false false/\(M=true->0<i.length))
 case first=>
  by_cases d9:(0:Int)<(i.length:Int)
  ·go_wp2_with fail
   refine (aI _ G a D H U _ 4 rfl a1.o (by omega) (by omega) T).mono ?_;rintro e w2 ⟨q2,rfl,e0,X,b9⟩;have c9:=Kz (W.o.drawn Z a1.o b9);have d0:=Kz X;clear X b9;go_wp2
   go_meet
   exact⟨_,U+1,rfl,IZ _,d0.o,c9.o,fun _=>by omega⟩
  ·go_wp2
   go_meet
   exact⟨false,U,rfl,by omega,a1.o,W.o,fun h=>by cases h⟩
 case rest=>
  clear W a1 c1 cz;obtain⟨M,p2,rfl,e1,X,c2,N⟩:=hcut;have⟨b,n,HB⟩:=eB c2 X N;clear c2 X N;cases M
  ·clear HB;go_wp2
   refine Qk.region (by kernel_rfl) (fun u=>u.cell? ⟨wb,0,none⟩=some (.slice k L.length l)/\u.cell? ⟨V,0,none⟩=some (.slice p Kj.length q)/\u.cell? ⟨V,1,none⟩=some (.slice d i.length t)) 9 (have h:=b.o.kept (aG _);⟨h.wc,h.c0,h.c1⟩) (fun j=>?_);have b:=Kz (b.o.kept (aG wc));have n:=Kz (n.o.kept (aG wc));generalize a7:wc.drew=O at j b n⊢;clear a7;refine ae 0 j ?_;refine ae 1 j ?_;refine ae 3 j ?_;clear j;refine bG 2 4 (fun K c=>?_) (fun K c=>?_)
   ·rw[Kg (by rfl)];go_simp
    have A:K_ O (O.alloc (.cells #[.string ⟨#[103,111,110,101]⟩,.string ⟨#[97]⟩,.string ⟨#[]⟩] 9)):=ag _ _;have f:=Kz (mh O);have b:=Kz (b.o.kept A);have n:=Kz (n.o.kept A)
    
    obtain⟨lb,C⟩:=ah O.heap.size;rw[<-C] at f⊢;refine c.out _ _ (fun _=>⟨b.o.wc,b.o.c0,b.o.c1⟩) ?_;clear c K C;try simp only[Act.put,upA,upB,upC]
    generalize P:O.alloc (.cells #[.string ⟨#[103,111,110,101]⟩,.string ⟨#[97]⟩,.string ⟨#[]⟩] 9)=wL at b f n⊢;clear P A;refine ai 4 (fun K c=>?_);go_simp
    go_at_call 21
    refine (aI _ G a D H p2 _ 3 rfl n.o (by omega) (by omega) T).mono ?_;rintro e x ⟨B,rfl,hq,a8,Q⟩;have f:=Kz (f.o.drawn n.o Q)
    
    have b:=Kz (b.o.drawn Z n.o Q);have d1:(B:Int)<3:=by omega
    clear a8 Q n;dsimp only;refine c.out _ _ (fun _=>⟨b.o.wc,b.o.c0,b.o.c1⟩) ?_;clear c K;try simp only[Act.put,upA,upB,upC]
    have j:=(show _/\_/\_ from ⟨b.o.wc,b.o.c0,b.o.c1⟩);refine ae 5 j ?_;refine bG 6 7 (fun K c=>?_) (fun K c=>?_)
    ·rw[Kg (by rfl)];obtain⟨I,m,r,s⟩:=f.o.at B (by omega);go_simp
     refine c.out _ _ (fun _=>⟨b.o.wc,b.o.c0,b.o.c1⟩) ?_;clear c K m s;try simp only[Act.put,upA,upB,upC]
     refine ai 7 (fun K c=>?_);refine b.o.w1 rfl rfl rfl ?_;have b:=Kz b.o.Cn;refine c.out _ _ (fun _=>⟨b.o.wc,b.o.c0,b.o.c1⟩) ?_;clear c K;try simp only[Act.put]
     refine ai 8 (fun K c=>?_);refine b.o.w2 rfl rfl rfl ?_;have b:=Kz b.o.uU;refine c.out _ _ (fun _=>⟨b.o.wc,b.o.c0,b.o.c1⟩) ?_;clear c K;try simp only[Act.put]
     refine af 9 (fun K c=>?_);go_simp
     refine c.out _ _ (fun h=>Ki rfl h) ?_;clear c K;try simp only[Act.put,upA,upB,upC]
     refine ay ?_;go_wp2_with fail
     exact b.o.fin results40 r E F.o rfl rfl rfl rfl
    ·rw[Kg (by rfl)];have y:=Kz (f.o.same (fO (Xj.sets (IZ _) (Jw _) [.slice k L.length l] 0 (Xj.refl w.heap.size (w.heap.size+1) _)) b.o.r1) (by decide));refine b.o.w1 rfl rfl rfl ?_;have b:=Kz b.o.Cn;refine c.out _ _ (fun _=>⟨b.o.wc,b.o.c0,b.o.c1⟩) ?_;clear c K;try simp only[Act.put]
     have f:=Kz y.o;clear y;refine bG 6 8 (fun K c=>?_) (fun K c=>?_)
     ·rw[Kg (by rfl)];obtain⟨I,m,r,s⟩:=f.o.at B (by omega);go_simp
      refine c.out _ _ (fun _=>⟨b.o.wc,b.o.c0,b.o.c1⟩) ?_;clear c K m s;try simp only[Act.put,upA,upB,upC]
      refine ai 8 (fun K c=>?_);refine b.o.w2 rfl rfl rfl ?_;have b:=Kz b.o.uU;refine c.out _ _ (fun _=>⟨b.o.wc,b.o.c0,b.o.c1⟩) ?_;clear c K;try simp only[Act.put]
      refine af 9 (fun K c=>?_);go_simp
      refine c.out _ _ (fun h=>Ki rfl h) ?_;clear c K;try simp only[Act.put,upA,upB,upC]
      refine ay ?_;go_wp2_with fail
      exact b.o.fin results40 r E F.o rfl rfl rfl rfl
     ·rw[Kg (by rfl)];have y:=Kz (f.o.same (fO (Xj.sets (IZ _) (Jw _) [.slice p Kj.length q,.slice d i.length t] 0 (Xj.refl (w.heap.size+1) (w.heap.size+1+1) _)) b.o.r2.1) (by decide));refine b.o.w2 rfl rfl rfl ?_;have b:=Kz b.o.uU;refine c.out _ _ (fun _=>⟨b.o.wc,b.o.c0,b.o.c1⟩) ?_;clear c K;try simp only[Act.put]
      have f:=Kz y.o;clear y;refine ai 6 (fun K c=>?_);obtain⟨I,m,r,s⟩:=f.o.at B (by omega);go_simp
      refine c.out _ _ (fun _=>⟨b.o.wc,b.o.c0,b.o.c1⟩) ?_;clear c K m s;try simp only[Act.put,upA,upB,upC]
      refine af 9 (fun K c=>?_);go_simp
      refine c.out _ _ (fun h=>Ki rfl h) ?_;clear c K;try simp only[Act.put,upA,upB,upC]
      refine ay ?_;go_wp2_with fail
      exact b.o.fin results40 r E F.o rfl rfl rfl rfl
   ·rw[Kg (by rfl)];go_simp
    go_at_call 21
    refine (aI _ G a D H p2 _ 3 rfl n.o (by omega) (by omega) T).mono ?_;rintro e x ⟨B,rfl,hq,a8,Q⟩
    
    have b:=Kz (b.o.drawn Z n.o Q);have d1:(B:Int)<3:=by omega
    clear a8 Q n;dsimp only;refine c.out _ _ (fun _=>⟨b.o.wc,b.o.c0,b.o.c1⟩) ?_;clear c K;try simp only[Act.put,upA,upB,upC]
    refine bG 2 7 (fun K c=>?_) (fun K c=>?_)
    ·rw[Kg (by rfl)];go_simp
     have A:K_ x (x.alloc (.cells #[.string ⟨#[103,111,110,101]⟩,.string ⟨#[97]⟩,.string ⟨#[]⟩] 9)):=ag _ _;have f:=Kz (mh x);have b:=Kz (b.o.kept A)
     
     obtain⟨lb,C⟩:=ah x.heap.size;rw[<-C] at f⊢;refine c.out _ _ (fun _=>⟨b.o.wc,b.o.c0,b.o.c1⟩) ?_;clear c K C;try simp only[Act.put,upA,upB,upC]
     generalize P:x.alloc (.cells #[.string ⟨#[103,111,110,101]⟩,.string ⟨#[97]⟩,.string ⟨#[]⟩] 9)=wL at b f⊢;clear P A;have j:=(show _/\_/\_ from ⟨b.o.wc,b.o.c0,b.o.c1⟩);refine ae 5 j ?_;refine bG 6 7 (fun K c=>?_) (fun K c=>?_)
     ·rw[Kg (by rfl)];obtain⟨I,m,r,s⟩:=f.o.at B (by omega);go_simp
      refine c.out _ _ (fun _=>⟨b.o.wc,b.o.c0,b.o.c1⟩) ?_;clear c K m s;try simp only[Act.put,upA,upB,upC]
      refine ai 7 (fun K c=>?_);refine b.o.w1 rfl rfl rfl ?_;have b:=Kz b.o.Cn;refine c.out _ _ (fun _=>⟨b.o.wc,b.o.c0,b.o.c1⟩) ?_;clear c K;try simp only[Act.put]
      refine ai 8 (fun K c=>?_);refine b.o.w2 rfl rfl rfl ?_;have b:=Kz b.o.uU;refine c.out _ _ (fun _=>⟨b.o.wc,b.o.c0,b.o.c1⟩) ?_;clear c K;try simp only[Act.put]
      refine af 9 (fun K c=>?_);go_simp
      refine c.out _ _ (fun h=>Ki rfl h) ?_;clear c K;try simp only[Act.put,upA,upB,upC]
      refine ay ?_;go_wp2_with fail
      exact b.o.fin results40 r E F.o rfl rfl rfl rfl
     ·rw[Kg (by rfl)];have y:=Kz (f.o.same (fO (Xj.sets (IZ _) (Jw _) [.slice k L.length l] 0 (Xj.refl w.heap.size (w.heap.size+1) _)) b.o.r1) (by decide));refine b.o.w1 rfl rfl rfl ?_;have b:=Kz b.o.Cn;refine c.out _ _ (fun _=>⟨b.o.wc,b.o.c0,b.o.c1⟩) ?_;clear c K;try simp only[Act.put]
      have f:=Kz y.o;clear y;refine bG 6 8 (fun K c=>?_) (fun K c=>?_)
      ·rw[Kg (by rfl)];obtain⟨I,m,r,s⟩:=f.o.at B (by omega);go_simp
       refine c.out _ _ (fun _=>⟨b.o.wc,b.o.c0,b.o.c1⟩) ?_;clear c K m s;try simp only[Act.put,upA,upB,upC]
       refine ai 8 (fun K c=>?_);refine b.o.w2 rfl rfl rfl ?_;have b:=Kz b.o.uU;refine c.out _ _ (fun _=>⟨b.o.wc,b.o.c0,b.o.c1⟩) ?_;clear c K;try simp only[Act.put]
       refine af 9 (fun K c=>?_);go_simp
       refine c.out _ _ (fun h=>Ki rfl h) ?_;clear c K;try simp only[Act.put,upA,upB,upC]
       refine ay ?_;go_wp2_with fail
       exact b.o.fin results40 r E F.o rfl rfl rfl rfl
      ·rw[Kg (by rfl)];have y:=Kz (f.o.same (fO (Xj.sets (IZ _) (Jw _) [.slice p Kj.length q,.slice d i.length t] 0 (Xj.refl (w.heap.size+1) (w.heap.size+1+1) _)) b.o.r2.1) (by decide));refine b.o.w2 rfl rfl rfl ?_;have b:=Kz b.o.uU;refine c.out _ _ (fun _=>⟨b.o.wc,b.o.c0,b.o.c1⟩) ?_;clear c K;try simp only[Act.put]
       have f:=Kz y.o;clear y;refine ai 6 (fun K c=>?_);obtain⟨I,m,r,s⟩:=f.o.at B (by omega);go_simp
       refine c.out _ _ (fun _=>⟨b.o.wc,b.o.c0,b.o.c1⟩) ?_;clear c K m s;try simp only[Act.put,upA,upB,upC]
       refine af 9 (fun K c=>?_);go_simp
       refine c.out _ _ (fun h=>Ki rfl h) ?_;clear c K;try simp only[Act.put,upA,upB,upC]
       refine ay ?_;go_wp2_with fail
       exact b.o.fin results40 r E F.o rfl rfl rfl rfl
    ·rw[Kg (by rfl)];refine b.o.w1 rfl rfl rfl ?_;have b:=Kz b.o.Cn;refine c.out _ _ (fun _=>⟨b.o.wc,b.o.c0,b.o.c1⟩) ?_;clear c K;try simp only[Act.put]
     refine bG 2 8 (fun K c=>?_) (fun K c=>?_)
     ·rw[Kg (by rfl)];go_simp
      have A:K_ (x.setCells w.heap.size 0 [.slice k L.length l]) ((x.setCells w.heap.size 0 [.slice k L.length l]).alloc (.cells #[.string ⟨#[103,111,110,101]⟩,.string ⟨#[97]⟩,.string ⟨#[]⟩] 9)):=ag _ _;have f:=Kz (mh (x.setCells w.heap.size 0 [.slice k L.length l]));have b:=Kz (b.o.kept A)
      
      obtain⟨lb,C⟩:=ah ((x.setCells w.heap.size 0 [.slice k L.length l]).heap.size);rw[<-C] at f⊢;refine c.out _ _ (fun _=>⟨b.o.wc,b.o.c0,b.o.c1⟩) ?_;clear c K C;try simp only[Act.put,upA,upB,upC]
      generalize P:(x.setCells w.heap.size 0 [.slice k L.length l]).alloc (.cells #[.string ⟨#[103,111,110,101]⟩,.string ⟨#[97]⟩,.string ⟨#[]⟩] 9)=wL at b f⊢;clear P A;have j:=(show _/\_/\_ from ⟨b.o.wc,b.o.c0,b.o.c1⟩);refine ae 5 j ?_;refine bG 6 8 (fun K c=>?_) (fun K c=>?_)
      ·rw[Kg (by rfl)];obtain⟨I,m,r,s⟩:=f.o.at B (by omega);go_simp
       refine c.out _ _ (fun _=>⟨b.o.wc,b.o.c0,b.o.c1⟩) ?_;clear c K m s;try simp only[Act.put,upA,upB,upC]
       refine ai 8 (fun K c=>?_);refine b.o.w2 rfl rfl rfl ?_;have b:=Kz b.o.uU;refine c.out _ _ (fun _=>⟨b.o.wc,b.o.c0,b.o.c1⟩) ?_;clear c K;try simp only[Act.put]
       refine af 9 (fun K c=>?_);go_simp
       refine c.out _ _ (fun h=>Ki rfl h) ?_;clear c K;try simp only[Act.put,upA,upB,upC]
       refine ay ?_;go_wp2_with fail
       exact b.o.fin results40 r E F.o rfl rfl rfl rfl
      ·rw[Kg (by rfl)];have y:=Kz (f.o.same (fO (Xj.sets (IZ _) (Jw _) [.slice p Kj.length q,.slice d i.length t] 0 (Xj.refl (w.heap.size+1) (w.heap.size+1+1) _)) b.o.r2.1) (by decide));refine b.o.w2 rfl rfl rfl ?_;have b:=Kz b.o.uU;refine c.out _ _ (fun _=>⟨b.o.wc,b.o.c0,b.o.c1⟩) ?_;clear c K;try simp only[Act.put]
       have f:=Kz y.o;clear y;refine ai 6 (fun K c=>?_);obtain⟨I,m,r,s⟩:=f.o.at B (by omega);go_simp
       refine c.out _ _ (fun _=>⟨b.o.wc,b.o.c0,b.o.c1⟩) ?_;clear c K m s;try simp only[Act.put,upA,upB,upC]
       refine af 9 (fun K c=>?_);go_simp
       refine c.out _ _ (fun h=>Ki rfl h) ?_;clear c K;try simp only[Act.put,upA,upB,upC]
       refine ay ?_;go_wp2_with fail
       exact b.o.fin results40 r E F.o rfl rfl rfl rfl
     ·rw[Kg (by rfl)];refine b.o.w2 rfl rfl rfl ?_;have b:=Kz b.o.uU;refine c.out _ _ (fun _=>⟨b.o.wc,b.o.c0,b.o.c1⟩) ?_;clear c K;try simp only[Act.put]
      refine ai 2 (fun K c=>?_);go_simp
      have A:K_ ((x.setCells w.heap.size 0 [.slice k L.length l]).setCells (w.heap.size+1) 0 [.slice p Kj.length q,.slice d i.length t]) (((x.setCells w.heap.size 0 [.slice k L.length l]).setCells (w.heap.size+1) 0 [.slice p Kj.length q,.slice d i.length t]).alloc (.cells #[.string ⟨#[103,111,110,101]⟩,.string ⟨#[97]⟩,.string ⟨#[]⟩] 9)):=ag _ _;have f:=Kz (mh ((x.setCells w.heap.size 0 [.slice k L.length l]).setCells (w.heap.size+1) 0 [.slice p Kj.length q,.slice d i.length t]));have b:=Kz (b.o.kept A)
      
      obtain⟨lb,C⟩:=ah (((x.setCells w.heap.size 0 [.slice k L.length l]).setCells (w.heap.size+1) 0 [.slice p Kj.length q,.slice d i.length t]).heap.size);rw[<-C] at f⊢;refine c.out _ _ (fun _=>⟨b.o.wc,b.o.c0,b.o.c1⟩) ?_;clear c K C;try simp only[Act.put,upA,upB,upC]
      generalize P:((x.setCells w.heap.size 0 [.slice k L.length l]).setCells (w.heap.size+1) 0 [.slice p Kj.length q,.slice d i.length t]).alloc (.cells #[.string ⟨#[103,111,110,101]⟩,.string ⟨#[97]⟩,.string ⟨#[]⟩] 9)=wL at b f⊢;clear P A;have j:=(show _/\_/\_ from ⟨b.o.wc,b.o.c0,b.o.c1⟩);refine ae 5 j ?_;refine ai 6 (fun K c=>?_);obtain⟨I,m,r,s⟩:=f.o.at B (by omega);go_simp
      refine c.out _ _ (fun _=>⟨b.o.wc,b.o.c0,b.o.c1⟩) ?_;clear c K m s;try simp only[Act.put,upA,upB,upC]
      refine af 9 (fun K c=>?_);go_simp
      refine c.out _ _ (fun h=>Ki rfl h) ?_;clear c K;try simp only[Act.put,upA,upB,upC]
      refine ay ?_;go_wp2_with fail
      exact b.o.fin results40 r E F.o rfl rfl rfl rfl
  ·have e2:=HB.o rfl;clear HB;go_wp2
   refine Qk.region (by kernel_rfl) (fun u=>u.cell? ⟨wb,0,none⟩=some (.slice k L.length l)/\u.cell? ⟨V,0,none⟩=some (.slice p Kj.length q)/\u.cell? ⟨V,1,none⟩=some (.slice d i.length t)/\bK u d i) 14 (have h:=b.o.kept (aG _);⟨h.wc,h.c0,h.c1,h.st.rr⟩) (fun j=>?_);have b:=Kz (b.o.kept (aG wc));have n:=Kz (n.o.kept (aG wc));generalize a7:wc.drew=O at j b n⊢;clear a7;refine aB 0 j ?_;refine aB 4 j ?_;refine ai 8 (fun K c=>?_);go_simp
   go_at_call 21
   refine (iO O G a D H p2 i.length n.o (by omega) (by omega) T).mono ?_;rintro e w8 ⟨R,rfl,hk,d2,c3⟩;have b:=Kz (b.o.drawn Z n.o c3);have a9:R<i.length:=by omega
   have e3:(R:Int)<(i.length:Int):=by omega
   obtain⟨b0,hr⟩:=ah (i.getD R Q_.zero);obtain⟨rg,ro,xa,xc,d3,_,_,_,_⟩:=b.o.st.rr R a9;have hq:∀u,bK u (some ⟨rg,ro,none⟩) i->u.cell? ⟨rg,ro+R*7,none⟩=some (.string b0.name)/\rg<u.heap.size:=fun u hu=>by
    obtain⟨M,o,xa,xc,e,N,d4,_,_⟩:=hu R a9;simp only[JI,Kv,and_true] at e;obtain⟨rfl,rfl⟩:=e;have:=d4 0 _ rfl;rw[<-hr] at this;exact⟨this,N⟩
   have d5:b0.name.size<=300:=(b.o.st.sb b0 (by rw[hr];simp[List.getD,a9])).name;subst d3;have HQ:=Kz hq;clear d2 c3 hr hq hk;dsimp only;refine c.out _ _ (fun _=>⟨b.o.wc,b.o.c0,b.o.c1,b.o.st.rr⟩) ?_;clear c K j;try simp only[Act.put,upA,upB,upC]
   have j:=(show _/\_/\_/\_ from ⟨b.o.wc,b.o.c0,b.o.c1,b.o.st.rr⟩);refine ae 9 j ?_;refine ae 10 j ?_;refine Qk.take 11 [14] (v:=?_) (by (simp only[Kw,JW,JX];rfl)) (by kernel_rfl) (by kernel_rfl) (by kernel_rfl) (by kernel_rfl) (by exact fun _ _ _ h=>h) (Or.inl ⟨by rfl, ?_⟩) j ?_;rotate_left
   ·intro u hu;obtain⟨e4,e5⟩:=HQ.o u hu.2.2.2;go_simp
    try with_reducible rfl
   try simp only[Act.put,upA,upB,upC]
   refine ai 12 (fun K c=>?_);refine b.o.w1 rfl rfl rfl ?_;have b:=Kz b.o.Cn;refine c.out _ _ (fun _=>⟨b.o.wc,b.o.c0,b.o.c1,b.o.st.rr⟩) ?_;clear c K;try simp only[Act.put]
   refine ai 13 (fun K c=>?_);refine b.o.w2 rfl rfl rfl ?_;have b:=Kz b.o.uU;refine c.out _ _ (fun _=>⟨b.o.wc,b.o.c0,b.o.c1,b.o.st.rr⟩) ?_;clear c K;try simp only[Act.put]
   refine af 14 (fun K c=>?_);go_simp
   refine c.out _ _ (fun h=>Ki rfl h) ?_;clear c K;try simp only[Act.put,upA,upB,upC]
   refine ay ?_;go_wp2_with fail
   exact b.o.fin results40 d5 E F.o rfl rfl rfl rfl
theorem zU(w:KH)(a:KG)(B:Nat)(f:List UInt8)(O:BytesAt w a f)(a0:f.length<=B)(a1:f.length<=100000000):
  Calls prog 13 #[.slice a f.length B] w fun e w'=>CE 30 200 w w' e:=by
 obtain⟨C,t⟩:=ah ((w.alloc (.cells #[.slice none 0 0] 25)).alloc (.cells #[.slice none 0 0,.slice none 0 0] 29));have D:K_ w C:=by rw[t];exact (ag _ _).alloc _
 have P:Hid (∀(w1:KH) (k:KG) (l:Nat) (L:List Qz) (m:KG) (n:Nat) (d:KG) (p:Nat) (Kj:List KC) (c:List Q_),K_ C w1->aX w1 (.slice k L.length l) L->StU 1 w1 m n d Kj c->DZ w ((w1.alloc (.cells #[.slice k L.length l] 25)).alloc (.cells #[.slice m Kj.length n,.slice d c.length p] 29)) w1.heap.size (w1.heap.size+1) k l L m n d p Kj c false false):=by rw[t];exact fun _ _ _ _ _ _ _ _ _ _ h1 h2 h3=>DZ.made h1 h2 h3
 have Q:Hid (BytesAt C a f):=fun i R=>by
  obtain⟨q,o,e,s,hc⟩:=O i R;exact⟨q,o,e,I_ s D.size,(D.cell s).trans hc⟩
 clear O D;go_enter func13,ntmps13
 go_upto_region 1 with fail
 rw[<-t];clear t;go_wp2_with fail
 refine (vK _ a B f Q.o a0 a1).mono ?_;rintro e w1 ⟨k,l,L,m,n,d,p,Kj,c,a2,rfl,S,hL,T,U,E,V⟩;obtain⟨W1,F⟩:=ah ((w1.alloc (.cells #[.slice k L.length l] 25)).alloc (.cells #[.slice m Kj.length n,.slice d c.length p] 29));obtain⟨wb,G⟩:=ah w1.heap.size;obtain⟨W,H⟩:=ah (w1.heap.size+1);have I:=P.o w1 k l L m n d p Kj c V U E;rw[<-F,<-H,<-G] at I;have⟨r,a3⟩:=aD I T;have a7:=E.sn;go_upto_region 2 with fail
 rw[<-F,<-H,<-G];clear F G H I T U E V P Q;have c1:=r.o.c1;have cz:=r.o.row.lt;obtain⟨J,X⟩:∃J:Nat,J=f.length % 3:=⟨_,rfl⟩;have a8:(f.length:Int).tmod 3= (J:Int):=by rw[Int.tmod_eq_emod_of_nonneg (by omega),X];omega
 clear X;go_wp2
 go_loopg [7,8] c.length (fun gg x7 x8 wr=>∃(i:Nat) (v:KC),x7= .string v/\v.size<=300/\x8= .int .i64 (i:Int)/\i+gg=c.length/\wr=W1)
 case atStart=>exact⟨0,a2,rfl,S,rfl,by omega,rfl⟩
 case round=>
  clear S;obtain⟨i,v,rfl,Y,rfl,R,rfl⟩:=hrel;go_upto_region 3 with fail
  go_cut [25] from 15 to 25 (fun a4 wx=>∃q:Bool,a4= .bool q/\wx=wr/\(q=true->i<c.length))
  case first=>
   by_cases a9:(i:Int)<(c.length:Int)
   ·go_wp2
    go_meet
    exact⟨_,rfl,rfl,fun _=>by omega⟩
   ·go_wp2
    go_meet
    exact⟨false,rfl,rfl,fun h=>by cases h⟩
  case rest=>
   obtain⟨q,rfl,rfl,s⟩:=hcut;have M:=Kz s;clear s;cases q
   ·clear M c1 cz;go_wp2
    refine Qk.region (by kernel_rfl) (fun u=>u.cell? ⟨wb,0,none⟩=some (.slice k L.length l)/\u.cell? ⟨W,0,none⟩=some (.slice m Kj.length n)/\u.cell? ⟨W,1,none⟩=some (.slice d c.length p)) 5 (have h:=r.o.kept (aG _);⟨h.wc,h.c0,h.c1⟩) (fun x=>?_);have b:=Kz (r.o.kept (aG wc));generalize a5:wc.drew=wd at x b⊢;clear a5;refine ae 0 x ?_;refine ae 1 x ?_;refine ae 2 x ?_;refine ai 3 (fun K j=>?_);refine b.o.w1 rfl rfl rfl ?_;have b:=Kz b.o.Cn;refine j.out _ _ (fun _=>⟨b.o.wc,b.o.c0,b.o.c1⟩) ?_;clear j K;try simp only[Act.put]
    refine ai 4 (fun K j=>?_);refine b.o.w2 rfl rfl rfl ?_;have b:=Kz b.o.uU;refine j.out _ _ (fun _=>⟨b.o.wc,b.o.c0,b.o.c1⟩) ?_;clear j K;try simp only[Act.put]
    refine af 5 (fun K j=>?_);go_simp
    refine j.out _ _ (fun h=>Ki rfl h) ?_;clear j K;try simp only[Act.put,upA,upB,upC]
    refine ay ?_;go_wp2_with fail
    exact b.o.fin results13 Y hL a3.o rfl rfl rfl rfl
   ·have Z:=M.o rfl;clear M;obtain⟨rg,ro,xa,xc,rfl,b0,y,_,_⟩:=r.o.st.rr i Z;obtain⟨A,N⟩:=ah (c.getD i Q_.zero);rw[<-N] at y;have a6:A.name.size<=300:=(r.o.st.sb A (by rw[N];simp[List.getD,Z])).name;have q0:=y 0 _ rfl;have q2:=y 2 _ rfl;rw[JM] at q0;have b1:(i:Int)<(c.length:Int):=by omega
    clear N y;cases hf:A.fail
    ·rw[hf] at q2;go_wp2
     go_roundg (gk-1)
     case measure=>omega
     case rel=>exact⟨i+1,v,rfl,Y,by go_num,by omega,rfl⟩
    ·rw[hf] at q2;go_wp2
     go_roundg (gk-1)
     case measure=>omega
     case rel=>exact⟨i+1,A.name,rfl,a6,by go_num,by omega,rfl⟩
