import Derived.Test.YtbmhchdegdjfkaaGreatDoorKVNeeds
import Derived.Test.YtbmhchdegdjfkaaGreatDoorKFImpl2
set_option maxRecDepth 100000
set_option maxHeartbeats 25600000
namespace Go.Proofs.YtbmhchdegdjfkaaGreatDoor
open Go.RowKit Go.Proofs.Tryz
theorem zN(w:LP)(a:LM)(q:Nat)(b:List Qq)(j k r:Nat)(Kk:List LK)(P:b.length<=1048576)(B:∀s∈b,s.Fits)(t:¬(bn b 0/\eO Kk))(Q:Kk.length<=1048576)(C:∀s∈Kk,s.size<=maxLen)(D:bN w a b)(E:Strs w (some ⟨j,k,none⟩) Kk):
  Calls prog 48 #[.agg #[.slice a b.length q],.slice (some ⟨j,k,none⟩) Kk.length r] w fun e w'=>e= .returned (.agg #[.slice none 0 0,.slice none 0 0])/\K_ w w':=by
 have F:=Kz t;clear t;go_enter func48,ntmps48
 go_wp2_with fail
 refine (fu _ a q b (by unfold maxLen;omega) B (D.kept (by repeat (first | apply K_.alloc | exact K_.refl _)))).mono ?_;rintro e w1 ⟨⟨v,rfl,x⟩,c⟩;have f:K_ w w1:=K_.trans (by repeat (first | apply K_.alloc | exact K_.refl _)) c;have G:=c.size;simp only[KR] at G;have H:=qf (w:=w) (K_.trans (ag _ _) c);have l:=xN c;simp only[KR] at l;have d:Hid (aC w1 (w.heap.size+1) 29 2):=l;obtain⟨⟨_,I⟩,J⟩:=d.o.row.at (i:=0) (by omega);obtain⟨⟨_,K⟩,L⟩:=d.o.row.at (i:=1) (by omega);have M:=Kz x;clear l x c;have R:w.heap.size<w1.heap.size:=by omega
 have S:w.heap.size+1<w1.heap.size:=by omega
 by_cases y:v=0
 ·subst y;go_wp2_with fail
  refine (iQ _ (some ⟨j,k,none⟩) r Kk (by unfold maxLen;omega) C (E.kept f)).mono ?_;rintro e w2 ⟨A,h⟩;have n:=Kz (d.o.kept h);have N:=f.trans h;have T:=h.size;obtain⟨⟨_,U⟩,V⟩:=n.o.row.at (i:=0) (by omega);obtain⟨⟨_,W⟩,X⟩:=n.o.row.at (i:=1) (by omega);clear H I K J L d f h;rcases A.cases with⟨rfl,O⟩|⟨rfl,_⟩
  ·exact Lv ⟨M.o,O⟩ F.o
  ·clear A;go_wp2
   have p:=JU w2 (w.heap.size+1) 0 [.slice none 0 0,.slice none 0 0] (n.o.row.there (o:=0) (m:=2) (JP _));exact X_ [.slice none 0 0,.slice none 0 0] _ results48 rfl p underlying29 rfl Tryz.bH rfl ⟨rfl,(N.setCell (by simp) _).setCell (by simp) _⟩
 ·have Y:(v == 0)=false:=by simpa using y
  go_wp2
  have p:=JU w1 (w.heap.size+1) 0 [.slice none 0 0,.slice none 0 0] (d.o.row.there (o:=0) (m:=2) (JP _));exact X_ [.slice none 0 0,.slice none 0 0] _ results48 rfl p underlying29 rfl Tryz.bH rfl ⟨rfl,(f.setCell (by simp) _).setCell (by simp) _⟩
theorem BH(w:LP):Calls prog 53 #[.agg #[.slice none 0 0,.slice none 0 0]] w fun e w'=>∃g c,e= .returned (.agg #[.slice (some ⟨g,0,none⟩) 0 c,.slice none 0 0])/\K_ w w':=by
 obtain⟨B,C,I,J,K⟩:=aQ Tryz.bY;obtain⟨a,d⟩:=aj ((w.alloc (.cells #[.slice none 0 0,.slice none 0 0] 29)).alloc (.cells #[.slice none 0 0,.slice none 0 0] 29));have t:K_ w a:=by rw[d];exact (ag _ _).alloc _
 have v:Hid (aC a (w.heap.size+1) 29 2):=by
  have x:=aC.made (w.alloc (.cells #[.slice none 0 0,.slice none 0 0] 29)) #[.slice none 0 0,.slice none 0 0] 29;simp only[KR] at x;rw[d];exact x
 have D:a.cell? ⟨w.heap.size,0,none⟩=some (.slice none 0 0):=by rw[d,K_.cell (w:=w.alloc (.cells #[.slice none 0 0,.slice none 0 0] 29)) (ag _ _) (by simp)];exact Xz w _ _ 0 _ rfl
 have y:a.cell? ⟨w.heap.size,1,none⟩=some (.slice none 0 0):=by rw[d,K_.cell (w:=w.alloc (.cells #[.slice none 0 0,.slice none 0 0] 29)) (ag _ _) (by simp)];exact Xz w _ _ 1 _ rfl
 have L:w.heap.size+2<=a.heap.size:=by rw[d];simp
 have E:w.heap.size<a.heap.size:=by omega
 have A:=Kz t;have p:Hid ((a.alloc (.cells #[] 9)).ownsRow a.heap.size 9 1 (.slice (some ⟨a.heap.size,0,none⟩) 0 0) 0 (([]:List LK).map Value.string)):=KG a #[] 0 (JP _) (JR _) rfl;clear t;go_enter func53,ntmps53
 go_upto_region 1 with fail
 rw[<-d];clear d;go_wp2_with (at_builtin;refine wpList_append_own_none _ rfl (.tmp 6) (.tmp 8) 26 rfl a.heap.size 9 B 1 underlying26 C (.slice (some ⟨a.heap.size,0,none⟩) 0 0) 0 [] rfl p.o rfl ?_)
 obtain⟨f,j⟩:=aj (a.alloc (.cells #[] 9));have k:K_ a f:=by rw[j];exact ag _ _
 rw[<-j] at p⊢;obtain⟨b,h⟩:=aj (f.alloc (.cells #[.slice (some ⟨a.heap.size,0,none⟩) 0 0,.slice none 0 0] 29));have l:K_ f b:=by rw[h];exact ag _ _
 obtain⟨i,q⟩:=aj (a.heap.size+1);have r:i=f.heap.size:=by rw[q,j];simp
 have s:b.rangeAt i 0 [.slice (some ⟨a.heap.size,0,none⟩) 0 0,.slice none 0 0]:=by rw[h,r];exact Xz f #[.slice (some ⟨a.heap.size,0,none⟩) 0 0,.slice none 0 0] 29
 have M:b.cell? ⟨i,0,none⟩=some (.slice (some ⟨a.heap.size,0,none⟩) 0 0):=s 0 _ rfl;have N:b.cell? ⟨i,1,none⟩=some (.slice none 0 0):=s 1 _ rfl;have O:b.cell? ⟨w.heap.size,1,none⟩=some (.slice none 0 0):=((k.trans l).cell E).trans y;have n:=Kz (v.o.kept (k.trans l));have F:=Kz (A.o.trans (k.trans l));have P:i<b.heap.size:=by rw[r,h];simp
 have Q:w.heap.size+1<b.heap.size:=n.o.lt;obtain⟨⟨_,R⟩,S⟩:=n.o.row.at (i:=0) (by omega);obtain⟨⟨_,T⟩,U⟩:=n.o.row.at (i:=1) (by omega);rw[<-h,<-q];clear s h q r j k l D y p v A;go_loopw [4] (fun G wr=>G= .int .i64 0/\wr=b) (fun _ _=>0)
 case atStart=>exact⟨rfl,rfl⟩
 case round=>
  obtain⟨rfl,rfl⟩:=hrel;go_wp2
  have H:=JU wr (w.heap.size+1) 0 [.slice (some ⟨a.heap.size,0,none⟩) 0 0,.slice none 0 0] (n.o.row.there (o:=0) (m:=2) (JP _));refine X_ [.slice (some ⟨a.heap.size,0,none⟩) 0 0,.slice none 0 0] _ results53 rfl H underlying29 rfl Tryz.bH rfl ⟨_,_,rfl, ?_⟩;exact (F.o.setCell (by show w.heap.size<=w.heap.size+1;omega) _).setCell (by show w.heap.size<=w.heap.size+1;omega) _
def xD(v:LQ)(n:Nat):Prop:=∃g c,v= .slice (some ⟨g,0,none⟩) n c
theorem qG{w:LP}{base size:Nat}{e:TypeId}{v:LQ}{n:Nat}{a:List LQ}(h:w.ownsRow base e size v n a)(d:0<n):xD v n:=by
 rcases h.2 with⟨_,e⟩|⟨g,c,f,e,_⟩
 ·omega
 ·exact⟨g,c,e⟩
def xC(w w':LP)(rb:Nat)(a:LM)(cap:Nat)(bs:List UInt8)(p:Nat)(e:Ending):Prop:=
 ∃(g c:Nat) (l:List LK) (p':Nat),e= .returned (.slice (some ⟨g,0,none⟩) l.length c)/\l.length<=c/\l.length<=12/\(∀x∈l,x.size<=300)/\fA w' 9 (some ⟨g,0,none⟩) l/\p<=p'/\p'<=p+20/\Rd w' rb a cap bs p'/\Xk rb (rb+1) w w'
section
variable {W wr : LP} {rb : Nat} {a : LM} {cap : Nat} {bs : List UInt8} {p q : Nat} {v : LQ} {l : List LK}
theorem OSt.Kk(h:OSt W wr rb a cap bs q v l)(d:xD v l.length)(f:l.length<=12)(i:p<=q)(h2:q<=p+20):xC W wr rb a cap bs p (.returned v):=by
 obtain⟨n,c,e,j,k⟩:=bg h.own;obtain⟨g,m,b⟩:=d;rw[b] at e;simp only[KX] at e;obtain⟨rfl,_,rfl⟩:=e;exact⟨g,m,l,q,by rw[b],j,f,h.sz,k,i,h2,h.rd,h.kb⟩
theorem OSt.front{w2:LP}{d:LQ}{x:LK}(h:OSt W wr rb a cap bs q v l)(k:K_ wr w2)(e:w2.ownsRow W.heap.size 9 1 d (1+l.length) ([.string x]++l.map Value.string))(f:x.size<=300):OSt W w2 rb a cap bs q d (x :: l):=by
 refine⟨h.rd.kept k,h.rd0,h.kb.eP k,by rw[KY,Nat.add_comm];exact e,fun y c=>?_⟩;rcases Lb.1 c with rfl | c
 ·exact f
 ·exact h.sz y c
theorem OSt.strs(h:OSt W wr rb a cap bs q v l):∃sa c,v= .slice sa l.length c/\l.length<=c/\fA wr 9 sa l:=bg h.own
theorem BD{l:List LK}{i:Nat}(f:i<=26)(h:∀j,j<i->jW j∈l):i<=l.length:=by
 have b:((List.range i).map jW).Nodup:=by
  rw[List.Nodup,List.pairwise_map];refine List.Pairwise.imp_of_mem ?_ List.pairwise_lt_range;intro x y a c k d;have m:=List.mem_range.1 a;have n:=List.mem_range.1 c;have:=CG (by omega) (by omega) d;omega
 have:=List.Nodup.length_le_of_subset b (l₂:=l) (fun x a=>by
  obtain⟨j,e,rfl⟩:=Ku.1 a;exact h j (List.mem_range.1 e))
 simpa using this
end
theorem rE(w:LP)(q:Nat)(a:LM)(v:Nat)(r:List UInt8)(p:Nat)(W:LM)(D:Nat)(L:List Qq)(hR:Rd w q a v r p)(hp:p<=900000)(X:r.length<=2000)(hN:bB w (.slice W L.length D) L)(hL:L.length<=100000)(E:∀d∈L,d.name.size<=300):
  Calls prog 94 #[.pointer (some ⟨q,0,none⟩),.agg #[.slice W L.length D]] w fun e w'=>xC w w' q a v r p e:=by
 obtain⟨F,a1⟩:=aj (w.alloc (.cells #[.slice W L.length D] 25));have kB:K_ w F:=by rw[a1];exact ag _ _
 have b0:F.cell? ⟨w.heap.size,0,none⟩=some (.slice W L.length D):=by rw[a1];exact Xz w _ _ 0 _ rfl
 have a9:w.heap.size<F.heap.size:=by rw[a1];simp
 have f:=Kz (OSt.made hR (hR.kept kB) (.aF kB));have h:K_ F (F.alloc (.cells #[] 9)):=ag _ _;have c0:(F.alloc (.cells #[] 9)).cell? ⟨w.heap.size,0,none⟩=some (.slice W L.length D):=(h.cell a9).trans b0;have b1:=Kz (hN.nodes.kept (kB.trans h));go_enter func94,ntmps94
 have b8:w.heap.size<(F.alloc (.cells #[] 9)).heap.size:=JQ a9 h.size;rw[a1] at c0 f b1 b8;rw[KR] at f;clear h kB b0 a9 hN a1 F;go_upto_if 13 with fail
 have b9:xD (.slice (some ⟨w.heap.size+1,0,none⟩) 0 0) 0:=⟨_,_,rfl⟩;go_cut [5] from 13 to 25 (fun s5 wx=>∃l:List LK,OSt w wx q a v r p s5 l/\xD s5 l.length/\l.length<=1)
 case first=>
  by_cases f2:0<L.length
  ·have hk:L.length-1<L.length:=by omega
   obtain⟨nb,no,cs,e1,f3,b2,c1⟩:=b1.out (L.length-1) hk;obtain⟨x,M⟩:=aj ((L.getD (L.length-1) Qq.zero).name);have d6:x.size<=300:=by
    rw[M];simp only[List.getD,JV hk,Lx];exact E _ (J_ hk)
   obtain⟨b3,hm⟩:=aj (L.length-1);rw[<-hm] at b2 M c1;obtain⟨sa,sc,e2,_⟩:=c1;have f4:((w.alloc (.cells #[.slice W L.length D] 25)).alloc (.cells #[] 9)).cell? ⟨nb,no+b3*3,none⟩=some (.string x):=by
    have:=b2 0 (.string x) (by rw[e2,M];rfl);simpa using this
   have c2:(L.length:Int)-1= (b3:Int):=by omega
   have f5:(b3:Int)<(L.length:Int):=by omega
   subst e1;have K1:K_ ((w.alloc (.cells #[.slice (some ⟨nb,no,none⟩) L.length D] 25)).alloc (.cells #[] 9)) (((w.alloc (.cells #[.slice (some ⟨nb,no,none⟩) L.length D] 25)).alloc (.cells #[] 9)).alloc (.cells #[.string x] 9)):=ag _ _;have G:=Kz K1;have H:=Kz (f.o.kept K1).own;have N:=(f.o.kept K1).kb.size;obtain⟨O,P,Q,R,S⟩:=aN Tryz.d_;clear M hm b2 e2 hk K1;go_wp2_with (at_builtin;refine wpList_append_own _ rfl (.tmp 14) (.tmp 24) 26 rfl w.heap.size 9 O _ 1 16 underlying26 P Q R S rfl (by decide) (.slice (some ⟨w.heap.size+1,0,none⟩) 0 0) 0 [] rfl H.o ⟨w.heap.size+2,0,none⟩ 1 1 [.string x] rfl rfl (by simpa using iH ((w.alloc (.cells #[.slice (some ⟨nb,no,none⟩) L.length D] 25)).alloc (.cells #[] 9)) x) (iq x) (by unfold maxLen;omega) (by omega) N ?_;intro v' w2 k y _;have T:=Kz (f.o.push G.o k y d6);have U:=qG k (by omega);clear k y)
   go_meet
   exact⟨[x],T.o,U,JP _⟩
  ·go_wp2
   go_meet
   exact⟨[],f.o,b9,JR _⟩
 case rest=>
  obtain⟨l0,I,J,hl⟩:=hcut;have⟨b4,c3⟩:=aH I J;clear I J f b9 b1 c0 b8;go_wp2_with fail
  refine (aK _ q a v r p _ 4 rfl b4.o.rd (by omega) (by omega) X).mono ?_;rintro e w2 ⟨a5,rfl,hn,c4,c5⟩;have c6:=Kz (b4.o.drawn c4 c5);clear c4 c5 b4;go_wp2
  go_loopg [5,6] a5 (fun g x5 x6 wr=>∃(p':Nat) (l:List LK),x6= .int .i64 (g:Int)/\g<=a5/\p<=p'/\p'+2*g<=p+1+2*a5/\l.length+g<=1+a5/\OSt w wr q a v r p' x5 l/\xD x5 l.length)
  case atStart=>exact⟨p+1,l0,rfl,JP _,by omega,by omega,by omega,c6.o,c3.o⟩
  case round=>
   clear c6 c3 hl;obtain⟨C,l,rfl,hg,f6,d7,d8,I,J⟩:=hrel;have⟨f,Y⟩:=aH I J;obtain⟨ob,oc,rfl⟩:=J;clear I;by_cases f7:(0:Int)<(gk:Int)
   ·go_wp2_with fail
    refine (aK _ q a v r C _ 12 rfl f.o.rd (by omega) (by omega) X).mono ?_;rintro e w3 ⟨A,rfl,d9,a2,a3⟩;have B:=Kz (f.o.drawn a2 a3);clear a2 a3 f;go_wp2_with fail
    refine (jd _ A _ rfl (by omega)).mono ?_;rintro e w4 ⟨x0,rfl,f8,k4⟩;have s:=Kz (B.o.kept k4);clear k4 B;go_wp2_with fail
    refine (aK _ q a v r (C+1) _ 10 rfl s.o.rd (by omega) (by omega) X).mono ?_;rintro e w5 ⟨q5,rfl,f9,c7,c8⟩;have K:=Kz (s.o.drawn c7 c8);clear c7 c8 s;go_upto_if 37 with fail
    go_cut [7] from 37 to 38 (fun s7 wx=>∃x:LK,s7= .string x/\x.size<=300/\wx=w5)
    case first=>
     by_cases h5:q5=0
     ·have c2:((q5:Int) == 0)=true:=by simp[h5]
      clear h5;go_wp2
      go_meet
      exact⟨_,rfl,by decide,rfl⟩
     ·have c2:((q5:Int) == 0)=false:=by simpa using h5
      clear h5;go_wp2
      go_meet
      exact⟨_,rfl,by omega,rfl⟩
    case rest=>
     obtain⟨x,rfl,M,rfl⟩:=hcut;have a6:Hid (Strs wc (some ⟨ob,0,none⟩) l):=by
      obtain⟨sa,c,e,_,E⟩:=K.o.strs;simp only[KX] at e;obtain⟨rfl,_,_⟩:=e;exact E.strs
     go_wp2_with fail
     refine (oP _ (some ⟨ob,0,none⟩) oc l x (by omega) a6.o).mono ?_;rintro e t ⟨b5,rfl⟩;rcases b5.cases with⟨rfl,_⟩|⟨rfl,_⟩
     ·go_wp2
      go_roundg (gk-1)
      case measure=>omega
      case rel=>exact⟨C+2,l,by go_num,by omega,by omega,by omega,by omega,K.o,Y.o⟩
     ·obtain⟨O,P,Q,R,S⟩:=aN Tryz.d_;have h:K_ t (t.alloc (.cells #[.string x] 9)):=ag _ _;have G:=Kz h;have H:Hid ((t.alloc (.cells #[.string x] 9)).ownsRow t.heap.size 9 1 (.slice (some ⟨t.heap.size,0,none⟩) 1 1) 1 ([x].map Value.string)):=World.ownsRow_lit t #[.string x] 1 (JP _) (by decide) rfl;have e0:Hid (∀j u,(l.map Value.string)[j]? =some u->(t.alloc (.cells #[.string x] 9)).cell? ((⟨ob,0,none⟩:Addr).add j)=some u):=fun j u hu=>by
       have Z:j<l.length:=by have:=(JW.1 hu).1;simpa using this
       obtain⟨b,o,e,hb,V⟩:=(a6.o.kept G.o) j Z;simp only[KT] at e;rw[e,KZ,V];simp[Z] at hu;simp[List.getD,Z,hu]
      have e3:Hid (∀u∈l.map Value.string,u.oneCell'=true):=fun u hu=>by obtain⟨c9,_,rfl⟩:=Ku.1 hu;rfl
      have N:t.heap.size<=(t.alloc (.cells #[.string x] 9)).heap.size:=h.size;have e4:=Kz K.o.kb.size;clear h;go_wp2_with (at_builtin;refine wpList_append_own _ rfl (.tmp 43) (.tmp 44) 26 rfl t.heap.size 9 O _ 1 16 underlying26 P Q R S rfl (by decide) (.slice (some ⟨t.heap.size,0,none⟩) 1 1) 1 ([x].map Value.string) rfl H.o ⟨ob,0,none⟩ l.length oc (l.map Value.string) rfl (by simp) e0.o e3.o (by unfold maxLen;omega) (by omega) N ?_;intro v' n k y _;have T:=Kz (K.o.front (aG G.o (JP _) H.o y) (bC k e4.o) M);have U:=qG k (by omega);clear k y)
      go_roundg (gk-1)
      case measure=>omega
      case rel=>exact⟨C+2,x :: l,by go_num,by omega,by omega,by omega,by rw[KY];omega,T.o,by rw[KY,Nat.add_comm];exact U⟩
   ·have e5:l.length<=5:=by omega
    have g0:C<=p+7:=by omega
    clear d8 d7;go_wp2_with fail
    refine (aK _ q a v r C _ 50 rfl f.o.rd (by omega) (by omega) X).mono ?_;rintro e w3 ⟨A,rfl,d9,a2,a3⟩;have B:=Kz (f.o.drawn a2 a3);clear a2 a3 f;by_cases h0:A=0
    ·have e6:((A:Int) == 0)=true:=by simp[h0]
     obtain⟨p0,d0⟩:=B.o.rd0;have HE:=Kz (OSt.made d0 B.o.rd B.o.kb);clear d0;clear h0;go_wp2
     go_ret
     exact OSt.Kk HE.o ⟨_,_,rfl⟩ (by simp) (by omega) (by omega)
    have e6:((A:Int) == 0)=false:=by simpa using h0
    clear h0;by_cases h1:A=1
    ·have e1:((A:Int) == 1)=true:=by simp[h1]
     clear h1;have K3:K_ w3 (w3.alloc (.cells #[.string ⟨#[]⟩,.string ⟨#[45]⟩,.string ⟨#[103,111,110,101]⟩] 9)):=ag _ _;have s:=Kz (B.o.kept K3);clear K3;go_wp2_with fail
     refine (aK _ q a v r (C+1) _ 3 rfl s.o.rd (by omega) (by omega) X).mono ?_;rintro e n ⟨b6,rfl,hq,d1,a7⟩;have K:=Kz (s.o.drawn d1 a7);obtain⟨c,V,e7⟩:=qp [⟨#[]⟩,⟨#[45]⟩,⟨#[103,111,110,101]⟩] a7 B.o.rd.row.lt b6 (by show b6<3;omega) (by
      intro c V;simp only[Lb,Lc,or_false] at V;rcases V with rfl | rfl | rfl <;> decide)
     have lz:w3.heap.size<n.heap.size:=JQ (by simp) a7.size;have g1:(b6:Int)<3:=by omega
     have h:K_ n (n.alloc (.cells #[.string c] 9)):=ag _ _;have G:=Kz h;have H:=Kz (K.o.kept h).own;have N:w.heap.size<=(n.alloc (.cells #[.string c] 9)).heap.size:=(K.o.kept h).kb.size;obtain⟨O,P,Q,R,S⟩:=aN Tryz.d_;clear d1 a7 s h;go_wp2_with (at_builtin;refine wpList_append_own _ rfl (.tmp 53) (.tmp 59) 26 rfl w.heap.size 9 O _ 1 16 underlying26 P Q R S rfl (by decide) (.slice (some ⟨ob,0,none⟩) l.length oc) l.length (l.map Value.string) rfl H.o ⟨n.heap.size,0,none⟩ 1 1 [.string c] rfl rfl (iH n c) (iq c) (by unfold maxLen;omega) (by omega) N ?_;intro v' w8 k y _;have T:=Kz (K.o.push G.o k y e7);have U:=qG k (by omega);clear k y)
     go_ret
     exact OSt.Kk T.o (by rw[KS];exact U) (by rw[KS];simp;omega) (by omega) (by omega)
    have e1:((A:Int) == 1)=false:=by simp;omega
    clear h1;by_cases h2:A=2
    ·have e2:((A:Int) == 2)=true:=by simp[h2]
     clear h2;go_wp2
     go_loopg [5,8] 11 (fun g x5 x8 wr=>∃(i:Nat) (l:List LK),x8= .int .i64 (i:Int)/\i+g=11/\l.length<=11/\Hid (∀j,j<i->jW j∈l)/\OSt w wr q a v r (C+1) x5 l/\xD x5 l.length)
     case atStart=>exact⟨0,l,rfl,rfl,by omega,Kz (fun j Z=>by omega),B.o,Y.o⟩
     case round=>
      clear B Y e5;obtain⟨i,m,rfl,hi,e8,HJ,I,J⟩:=hrel;have⟨f,Y⟩:=aH I J;obtain⟨pb,pc,rfl⟩:=J;have g2:i<=m.length:=BD (by omega) HJ.o;clear I;by_cases d2:(m.length:Int)<11
      ·go_wp2_with fail
       refine (uE _ i (by omega)).mono ?_;rintro e w4 ⟨x,rfl,M,a4,k4⟩;have s:=Kz (f.o.kept k4);have HX:=Kz (a4 (by omega));clear k4 a4;have a6:Hid (Strs w4 (some ⟨pb,0,none⟩) m):=by
        obtain⟨sa,c,e,_,E⟩:=s.o.strs;simp only[KX] at e;obtain⟨rfl,_,_⟩:=e;exact E.strs
       go_wp2_with fail
       refine (oP _ (some ⟨pb,0,none⟩) pc m x (by omega) a6.o).mono ?_;rintro e t ⟨b5,rfl⟩;rcases b5.cases with⟨rfl,a0⟩|⟨rfl,a0⟩
       ·have e9:Hid (∀j,j<i+1->jW j∈m):=fun j Z=>by
         by_cases e:j=i
         ·rw[e,<-HX.o];exact a0
         ·exact HJ.o j (by omega)
        clear a0;go_wp2
        go_roundg (gk-1)
        case measure=>omega
        case rel=>exact⟨i+1,m,by go_num,by omega,e8,e9,s.o,Y.o⟩
       ·clear a0;go_wp2_with fail
        refine (uE _ i (by omega)).mono ?_;rintro e n ⟨x2,rfl,g3,a4,k7⟩;have f0:=Kz (a4 (by omega));have b7:=Kz (s.o.kept k7);have h:K_ n (n.alloc (.cells #[.string x2] 9)):=ag _ _;have G:=Kz h;have H:=Kz (b7.o.kept h).own;have N:w.heap.size<=(n.alloc (.cells #[.string x2] 9)).heap.size:=(b7.o.kept h).kb.size;obtain⟨O,P,Q,R,S⟩:=aN Tryz.d_;clear k7 h a4 s;go_wp2_with (at_builtin;refine wpList_append_own _ rfl (.tmp 73) (.tmp 76) 26 rfl w.heap.size 9 O _ 1 16 underlying26 P Q R S rfl (by decide) (.slice (some ⟨pb,0,none⟩) m.length pc) m.length (m.map Value.string) rfl H.o ⟨n.heap.size,0,none⟩ 1 1 [.string x2] rfl rfl (iH n x2) (iq x2) (by unfold maxLen;omega) (by omega) N ?_;intro v' w8 k y _;have T:=Kz (b7.o.push G.o k y (by omega));have U:=qG k (by omega);clear k y)
        go_roundg (gk-1)
        case measure=>omega
        case rel=>exact⟨i+1,m++ [x2],by go_num,by omega,by rw[KS];simp;omega,Kz (fun j Z=>by
         by_cases e:j=i
         ·rw[e,<-f0.o];simp
         ·exact List.mem_append_left _ (HJ.o j (by omega))),T.o,by rw[KS];exact U⟩
      ·have d3:m.length=11:=by omega
       have HL:=Kz d3;have g4:11<=pc:=by
        obtain⟨sa,c,e,V,E⟩:=f.o.strs;simp only[KX] at e;obtain⟨_,_,rfl⟩:=e;omega
       have g5:¬(m.length:Int)<11:=d2;clear d3 d2;go_wp2_with fail
       refine (aK _ q a v r (C+1) _ 2 rfl f.o.rd (by omega) (by omega) X).mono ?_;rintro e w8 ⟨q8,rfl,g6,d4,d5⟩;have a8:=Kz (f.o.drawn d4 d5);have g7:(10:Int)+ (q8:Int)<=(pc:Int):=by omega
       clear d4 d5 f;go_wp2
       go_ret
       obtain⟨sa,c,e,V,E⟩:=a8.o.strs;simp only[KX] at e;obtain⟨rfl,_,rfl⟩:=e;have f1:(m.take (10+q8)).length=10+q8:=by rw[Kt,HL.o];omega
       exact⟨pb,pc,m.take (10+q8),C+2,by rw[f1];congr 2 <;> omega,by omega,by omega,fun c9 a0=>a8.o.sz c9 (List.mem_of_mem_take a0),E.take _,by omega,by omega,a8.o.rd,a8.o.kb⟩
    have e2:((A:Int) == 2)=false:=by simp;omega
    clear h2;go_wp2
    go_ret
    exact OSt.Kk B.o Y.o (by omega) (by omega) (by omega)
def NoS(w:LP)(g:Nat):Prop:=∀o s,w.cell? ⟨g,o,none⟩≠some (.string s)
variable {w : LP}
theorem Df{g:Nat}{t:TypeId}{x y:LQ}(b:aC w g t 2)(c:w.cell? ⟨g,0,none⟩=some x)(d:w.cell? ⟨g,1,none⟩=some y)(f:∀s,x≠ .string s)(h:∀s,y≠ .string s):NoS w g:=by
 intro o s e;obtain⟨i,j,k⟩:=b;have a:w.cell? ⟨g,o,none⟩=i[o]? :=by simp[World.cell?,j]
 match o,e,a with
 | 0,e,_=>exact f s (by rw[c] at e;exact Lf e)
 | 1,e,_=>exact h s (by rw[d] at e;exact Lf e)
 | o+2,e,a=>rw[a,Array.getElem?_eq_none (by omega)] at e;cases e
theorem Rd.noS{b:Nat}{a:LM}{c:Nat}{d:List UInt8}{p:Nat}(h:Rd w b a c d p):NoS w b:=Df h.row h.c0 h.c1 (fun _ e=>by cases e) (fun _ e=>by cases e)
section
variable {w w' : LP} {g : Nat}
theorem Strs.noS{a:LM}{l:List LK}(h:Strs w a l)(f:NoS w g)(k:Xk g (g+1) w w'):Strs w' a l:=by
 intro i j;obtain⟨b,o,e,c,d⟩:=h i j;have m:b≠g:=fun e=>f _ _ (by rw[<-e];exact d)
 exact⟨b,o,e,JQ c k.size,by rw[k.cell c (by omega)];exact d⟩
theorem bD.noS{a:LM}{l:List Qz}(h:bD w a l)(c:NoS w g)(k:Xk g (g+1) w w'):bD w' a l:=by
 intro i j;obtain⟨b,o,m,n,e,d,f,p,q⟩:=h i j;have t:b≠g:=fun e=>c _ _ (by rw[<-e];exact f 0 _ rfl)
 exact⟨b,o,m,n,e,JQ d k.size,fun r u s=>by rw[k.cell d (by omega)];exact f r u s,p.noS c k,q⟩
end
def StZ(Kq:List Qq)(w:LP)(v1 v2:LQ):Prop:=
 (v1= .slice none 0 0/\v2= .slice none 0 0)\/∃Kk sl b o rc d dc,v1= .slice (some ⟨b,o,none⟩) (List.length Kk) rc/\v2= .slice d (List.length sl) dc/\bn Kq 0/\eO Kk/\dB Kq sl/\Strs w (some ⟨b,o,none⟩) Kk/\bD w d sl
variable {Kq : List Qq}
theorem StZ.noS{w':LP}{g:Nat}{v1 v2:LQ}(h:StZ Kq w v1 v2)(a:NoS w g)(k:Xk g (g+1) w w'):StZ Kq w' v1 v2:=by
 rcases h with h|⟨Kk,b,c,o,d,e,f,i,j,l,m,n,p,q⟩
 ·exact .inl h
 ·exact .inr ⟨Kk,b,c,o,d,e,f,i,j,l,m,n,p.noS a k,q.noS a k⟩
theorem StZ.kept{w':LP}{v1 v2:LQ}(h:StZ Kq w v1 v2)(k:K_ w w'):StZ Kq w' v1 v2:=by
 rcases h with h|⟨Kk,a,b,o,c,d,e,f,i,j,l,m,n,p⟩
 ·exact .inl h
 ·exact .inr ⟨Kk,a,b,o,c,d,e,f,i,j,l,m,n.kept k,p.kept k⟩
theorem StZ.slices{v1 v2:LQ}(h:StZ Kq w v1 v2):∃a n c d m e,v1= .slice a n c/\v2= .slice d m e:=by
 rcases h with⟨b,f⟩|⟨Kk,i,j,o,k,d,l,b,f,_⟩
 ·exact⟨_,_,_,_,_,_,b,f⟩
 ·exact⟨_,_,_,_,_,_,b,f⟩
theorem pK.z{Kk:List LK}{T:List Qz}{w':LP}{e:Ending}(h:pK Kk T w w' e)(i:bn Kq 0)(b:eO Kk)(j:dB Kq T):∃v1 v2,e= .returned (.agg #[v1,v2])/\StZ Kq w' v1 v2/\K_ w w':=by
 obtain⟨v,k,l,m,x,rfl,n,p,q,r⟩:=h;obtain⟨y,A,c,d⟩:=aX n;simp only[KX,true_and] at c;obtain⟨rfl,rfl⟩:=c;obtain⟨_,B,C,f,s⟩:=aW.runs p q (K_.refl _);simp only[KX,true_and] at f;obtain⟨rfl,rfl⟩:=f;obtain⟨t,o,rfl,_,_⟩:=d 0 (by have:=b.1;omega);exact⟨_,_,rfl,.inr ⟨Kk,T,t,o,k,l,m,rfl,rfl,i,b,j,d,s.runs⟩,r⟩
theorem CF{m:Nat}{L:List Qq}(f:m<=1000)(h:∀d∈L,d.TinyN m):jC L:=fun y b s c=>by
 have a:=(h y b).each s c;exact⟨by have:=a.asks;omega,fun x e=>by have:=a.dM x e;omega⟩
theorem rX{m:Nat}{L:List Qq}(a:m<=1000)(h:∀d∈L,d.TinyN m):∀d∈L,d.Fits:=fun d c=>(h d c).fits a
theorem lZ(w:LP)(a:LM)(i:Nat)(b:List Qq)(c d j:Nat)(Kk:List LK)(k:b.length<=1048576)(l:∀s∈b,s.Fits)(q:Kk.length<=1048576)(r:∀s∈Kk,s.size<=300)(m:bN w a b)(n:Strs w (some ⟨c,d,none⟩) Kk):
  Calls prog 48 #[.agg #[.slice a b.length i],.slice (some ⟨c,d,none⟩) Kk.length j] w fun e w'=>∃v1 v2,e= .returned (.agg #[v1,v2])/\StZ b w' v1 v2/\K_ w w':=by
 have p:∀s∈Kk,s.size<=maxLen:=fun s t=>by have:=r s t;unfold maxLen;omega
 by_cases h:bn b 0/\eO Kk
 ·exact (pM w a i b c d j Kk k l h.1 h.2 p m n).mono fun _ _ f=>f.z h.1 h.2 (gX (aZ h.1) Kk)
 ·exact (zN w a i b c d j Kk k l h q p m n).mono fun _ _ f=>⟨_,_,f.1,.inl ⟨rfl,rfl⟩,f.2⟩
theorem uu(w:LP)(c:Array LQ)(t:TypeId)(h:∀v∈c.toList,∀s,v≠ .string s):NoS (w.alloc (.cells c t)) w.heap.size:=by
 intro o s e;rw[World.cell?_alloc_mark] at e;have d:c.toList[o]? =some (.string s):=by simpa using e
 exact h _ (Kg d) s rfl
variable {w w' : LP}
theorem NoS.block{g:Nat}(h:NoS w g)(k:w'.heap[g]? =w.heap[g]?):NoS w' g:=fun o s e=>h o s (by rw[<-Ke (w:=w) (w':=w') (a:=⟨g,o,none⟩) k];exact e)
theorem vS{v1 v2:LQ}(h:∃a n c d m e,v1=Value.slice a n c/\v2=Value.slice d m e):(∀s,v1≠ .string s)/\∀s,v2≠ .string s:=by
 obtain⟨a,n,c,d,m,e,rfl,rfl⟩:=h;exact⟨fun _ e=>(by cases e),fun _ e=>(by cases e)⟩
variable {n : Nat} {t : TypeId}
theorem ky{g:Nat}(k:Xk g (g+1) w w')(d:aC w g t n):ay t w w':=by
 intro c f u h e a;have i:c≠g:=by
  rintro rfl;obtain⟨j,b,_⟩:=d;rw[a] at b;simp only[KT,Obj.cells.injEq] at b;exact e b.2.1
 rw[k.block c (aO a) (by omega)];exact a
theorem uQ{b c m:Nat}{u:TypeId}(h:aC w b t n)(k:aC w c u m)(e:t≠u):b≠c:=by
 rintro rfl;obtain⟨x,f,_⟩:=h;obtain⟨y,a,_⟩:=k;rw[f] at a;simp only[KT,Obj.cells.injEq] at a;exact e a.2.1
theorem jT(a d:LM)(n c m e:Nat):(#[Value.slice a n c,Value.slice d m e].all (·.oneCell'))=true:=by simp[Value.oneCell']
theorem Bt(a:LM)(n c:Nat):(#[Value.slice a n c].all (·.oneCell'))=true:=by simp[Value.oneCell']
theorem cK{b:Nat}(h:aC w b t n):w.there b 0 n:=h.row.there (o:=0) (m:=n) (by omega)
structure DS0 (w wr:LP) (rb wb:Nat) (a:LM) (cap:Nat) (bs:List UInt8) (p:Nat) (na:LM) (nc:Nat) (L:List Qq):Prop where
 rd:Rd wr rb a cap bs p
 rd0:∃p0,Rd w rb a cap bs p0
 kb:Xk rb (rb+1) w wr
 r1:aC wr w.heap.size 25 1
 n1:NoS wr w.heap.size
 r2:aC wr (w.heap.size+1) 29 2
 n2:NoS wr (w.heap.size+1)
 eT:aC wr wb 25 1
 wc:wr.cell? ⟨wb,0,none⟩=some (.slice na L.length nc)
 wl:w.heap.size+2<=wb
 nd:bB wr (.slice na L.length nc) L
def SZ(w:LP)(sb:Nat):Prop:=aC w sb 29 2/\NoS w sb
structure SV (L:List Qq) (wr:LP) (sb:Nat) (v1 v2:LQ):Prop where
 row:aC wr sb 29 2
 c0:wr.cell? ⟨sb,0,none⟩=some v1
 c1:wr.cell? ⟨sb,1,none⟩=some v2
 st:StZ L wr v1 v2
section
variable {w wr w' : LP} {rb wb sb : Nat} {a : LM} {cap : Nat} {bs : List UInt8} {p p' : Nat} {na : LM} {nc : Nat} {L : List Qq} {v1 v2 : LQ}
theorem DS0.rbl(h:DS0 w wr rb wb a cap bs p na nc L):rb<w.heap.size:=let ⟨_,h0⟩:=h.rd0;h0.row.lt
theorem DS0.drawn(h:DS0 w wr rb wb a cap bs p na nc L)(d:Rd w' rb a cap bs p')(k:Xk rb (rb+1) wr w'):DS0 w w' rb wb a cap bs p' na nc L:=by
 have e:=k.sameKind h.rd;have i:=h.rbl;have f:=h.wl;have b:=k.block _ h.r1.lt (by omega);have c:=k.block _ h.r2.lt (by omega);exact⟨d,h.rd0,h.kb.trans k,h.r1.block b,h.n1.block b,h.r2.block c,h.n2.block c,h.eT.but k (by omega),(k.cell h.eT.lt (by omega)).trans h.wc,f,h.nd.same e (by decide) (by decide) (by decide) (by decide)⟩
theorem DS0.kept(h:DS0 w wr rb wb a cap bs p na nc L)(k:K_ wr w'):DS0 w w' rb wb a cap bs p na nc L:=h.drawn (h.rd.kept k) (.aF k)
theorem DS0.but(h:DS0 w wr rb wb a cap bs p na nc L)(f:aC wr sb t n)(k:Xk sb (sb+1) wr w')(y:w.heap.size+2<=sb)(A:sb≠wb)(i:79≠t)(j:83≠t)(l:9≠t)(m:177≠t):DS0 w w' rb wb a cap bs p na nc L:=by
 have q:=ky k f;have B:=h.rbl;have r:=h.wl;obtain⟨s,b⟩:=h.rd0;have c:Below w.heap.size wr w':=⟨k.os,k.tape,k.output,k.size,fun v x=>k.block v (JQ x h.kb.size) (by omega)⟩;have d:=k.block _ h.r1.lt (by omega);have e:=k.block _ h.r2.lt (by omega);exact⟨h.rd.below b c h.kb.size,⟨s,b⟩,h.kb.below c,h.r1.block d,h.n1.block d,h.r2.block e,h.n2.block e,h.eT.but k (by omega),(k.cell h.eT.lt (by omega)).trans h.wc,r,h.nd.same q i j l m⟩
theorem SZ.made(w:LP):SZ (w.alloc (.cells #[.slice none 0 0,.slice none 0 0] 29)) w.heap.size:=
 ⟨aC.made w _ _,uu w _ _ (fun v a s e=>by simp at a;rw[a] at e;cases e)⟩
theorem SZ.drawn(h:SZ wr sb)(d:Rd wr rb a cap bs p)(k:Xk rb (rb+1) wr w'):SZ w' sb:=by
 have c:=k.block _ h.1.lt (by have:=uQ h.1 d.row (by decide);omega);exact⟨h.1.block c,h.2.block c⟩
theorem SZ.kept(h:SZ wr sb)(k:K_ wr w'):SZ w' sb:=⟨h.1.kept k,h.2.block (k.block _ h.1.lt)⟩
theorem SV.z(h:SV L wr sb v1 v2):SZ wr sb:=⟨h.row,Df h.row h.c0 h.c1 (vS h.st.slices).1 (vS h.st.slices).2⟩
theorem SV.drawn(h:SV L wr sb v1 v2)(d:Rd wr rb a cap bs p)(k:Xk rb (rb+1) wr w'):SV L w' sb v1 v2:=by
 have c:=k.block _ h.row.lt (by have:=uQ h.row d.row (by decide);omega);exact⟨h.row.block c,(Ke (w:=wr) c).trans h.c0,(Ke (w:=wr) c).trans h.c1,h.st.noS d.noS k⟩
theorem SV.kept(h:SV L wr sb v1 v2)(k:K_ wr w'):SV L w' sb v1 v2:=⟨h.row.kept k,(k.cell h.row.lt).trans h.c0,(k.cell h.row.lt).trans h.c1,h.st.kept k⟩
theorem SZ.put(h:SZ wr sb)(c:StZ L wr v1 v2):SV L (wr.setCells sb 0 [v1,v2]) sb v1 v2:=by
 have b:=JU wr sb 0 [v1,v2] (cK h.1);exact⟨aC.sets _ _ h.1,b 0 _ rfl,b 1 _ rfl,c.noS h.2 (Xk.sets (JP _) (Ky _) _ 0 (Xk.refl _ _ _))⟩
theorem DS0.put(h:DS0 w wr rb wb a cap bs p na nc L)(c:SZ wr sb)(d:w.heap.size+2<=sb):DS0 w (wr.setCells sb 0 [v1,v2]) rb wb a cap bs p na nc L:=
 h.but c.1 (Xk.sets (JP _) (Ky _) _ 0 (Xk.refl _ _ _)) d (uQ c.1 h.eT (by decide)) (by decide) (by decide) (by decide) (by decide)
end
structure nG (N:Nat) (r:Qz):Prop where
 name:r.name.size<=300
 text:r.text.size<=300+N
 texts:r.texts.length<=200+N
 at': -1000-2*(N:Int)<=r.at'/\r.at'<=1000+2*N
 vis: -1000-2*(N:Int)<=r.Zj/\r.Zj<=1000+2*N
variable {N : Nat}
theorem nG.mono{M:Nat}{r:Qz}(h:nG N r)(b:N<=M):nG M r:=by
 have a:=h.name;have c:=h.text;have d:=h.texts;have e:=h.at';have f:=h.vis;exact⟨a,by omega,by omega,by omega,by omega⟩
theorem yg{a:List Qq}{r:Qz}(b:bT (Q_ a))(h:r.Good a):nG 0 r:=by
 obtain⟨A,c,e,f⟩:=h.act;have i:=(b _ _ c).1.2.1.2;have d:=(b _ _ c).2;have j:=h.tl;have k:=h.lo;have l:=h.hi;have m:=h.tx;exact⟨by have:=d.2.1;omega,by omega,by omega,by omega,by omega⟩
structure StU (N:Nat) (w:LP) (ra:LM) (rc:Nat) (d:LM) (Kk:List LK) (sl:List Qz):Prop where
 rn:Kk.length<=10+N
 rl:Kk.length<=rc
 rz:∀s∈Kk,s.size<=300
 ri:N=0->∃g o,ra=some ⟨g,o,none⟩
 rs:Strs w ra Kk
 sn:sl.length<=60+N
 sb:∀r∈sl,nG N r
 rr:bD w d sl
variable {sl : List Qz} {rc : Nat} {d ra : LM}
theorem StU.noS{g:Nat}{Kk:List LK}(h:StU N w ra rc d Kk sl)(b:NoS w g)(k:Xk g (g+1) w w'):StU N w' ra rc d Kk sl:=⟨h.rn,h.rl,h.rz,h.ri,h.rs.noS b k,h.sn,h.sb,h.rr.noS b k⟩
theorem StU.mono{M:Nat}{Kk:List LK}(h:StU N w ra rc d Kk sl)(b:N<=M):StU M w ra rc d Kk sl:=⟨by have:=h.rn;omega,h.rl,h.rz,(fun f=>h.ri (by omega)),h.rs,by have:=h.sn;omega,fun r e=>(h.sb r e).mono b,h.rr⟩
theorem StU.kept{Kk:List LK}(h:StU N w ra rc d Kk sl)(k:K_ w w'):StU N w' ra rc d Kk sl:=⟨h.rn,h.rl,h.rz,h.ri,h.rs.kept k,h.sn,h.sb,h.rr.kept k⟩
def Cg(K M N:Nat)(w w':LP)(rb:Nat)(a:LM)(cap:Nat)(bs:List UInt8)(p t:Nat)(e:Ending):Prop:=
 ∃(na:LM) (nc:Nat) (L:List Qq) (ra:LM) (rc:Nat) (d:LM) (dc:Nat) (Kk:List LK) (sl:List Qz) (p':Nat),e= .returned (.tuple #[.agg #[.slice na L.length nc],.agg #[.slice ra Kk.length rc,.slice d sl.length dc]])/\p<=p'/\p'<=p+t/\L.length<=N/\(∀d∈L,d.TinyN M)/\bB w' (.slice na L.length nc) L/\StU K w' ra rc d Kk sl/\Rd w' rb a cap bs p'/\Xk rb (rb+1) w w'
variable {l0 : List Qq} {bs : List UInt8} {cap p rb wb wn : Nat} {a na wa : LM} {u : LP}
theorem DS0.ends{K M:Nat}{p0 t:Nat}{c:Nat}{L:List Qq}{f:Nat}{Kk:List LK}(h:DS0 w u rb wb a cap bs p wa wn l0)(m:bB u (.slice na L.length c) L)(n:StU K u ra rc d Kk sl)(q:p0<=p)(h2:p<=p0+t)(r:L.length<=N)(s:∀d∈L,d.TinyN M):
  Cg K M N w ((u.setCells w.heap.size 0 [.slice na L.length c]).setCells (w.heap.size+1) 0 [.slice ra Kk.length rc,.slice d sl.length f]) rb a cap bs p0 t (.returned (.tuple #[.agg #[.slice na L.length c],.agg #[.slice ra Kk.length rc,.slice d sl.length f]])):=by
 obtain⟨x,v⟩:=h.rd0;have b:Xk w.heap.size (w.heap.size+1) u (u.setCells w.heap.size 0 [.slice na L.length c]):=Xk.sets (JP _) (Ky _) _ 0 (Xk.refl _ _ _);have j:=b.block _ h.r2.lt (by omega);have e:Xk (w.heap.size+1) (w.heap.size+1+1) (u.setCells w.heap.size 0 [.slice na L.length c]) ((u.setCells w.heap.size 0 [.slice na L.length c]).setCells (w.heap.size+1) 0 [.slice ra Kk.length rc,.slice d sl.length f]):=Xk.sets (JP _) (Ky _) _ 0 (Xk.refl _ _ _);have k:Below w.heap.size u ((u.setCells w.heap.size 0 [.slice na L.length c]).setCells (w.heap.size+1) 0 [.slice ra Kk.length rc,.slice d sl.length f]):=
  ⟨e.os.trans b.os,e.tape.trans b.tape,e.output.trans b.output,JS b.size e.size,fun i l=>(e.block i (JQ (JQ l h.kb.size) b.size) (by omega)).trans (b.block i (JQ l h.kb.size) (by omega))⟩
 exact⟨na,c,L,ra,rc,d,f,Kk,sl,p,rfl,q,h2,r,s,(m.same (ky b h.r1) (by decide) (by decide) (by decide) (by decide)).same (ky e (h.r2.block j)) (by decide) (by decide) (by decide) (by decide),(n.noS h.n1 b).noS (h.n2.block j) e,h.rd.below v k h.kb.size,h.kb.below k⟩
theorem DS0.range(h:DS0 w u rb wb a cap bs p wa wn l0)(v v1 v2:LQ):
  aC (u.setCells w.heap.size 0 [v]) (w.heap.size+1) 29 2/\((u.setCells w.heap.size 0 [v]).setCells (w.heap.size+1) 0 [v1,v2]).rangeAt w.heap.size 0 [v]/\((u.setCells w.heap.size 0 [v]).setCells (w.heap.size+1) 0 [v1,v2]).rangeAt (w.heap.size+1) 0 [v1,v2]:=by
 have c:Xk w.heap.size (w.heap.size+1) u (u.setCells w.heap.size 0 [v]):=Xk.sets (JP _) (Ky _) _ 0 (Xk.refl _ _ _);have b:=h.r2.block (c.block _ h.r2.lt (by omega));refine⟨b,fun j x d=>?_,JU _ (w.heap.size+1) 0 [v1,v2] (cK b)⟩;rw[World.cell?_setCells_out (w.heap.size+1) [v1,v2] 0 _ _ (fun e _=>by have f:w.heap.size=w.heap.size+1:=e;omega)];exact JU u w.heap.size 0 [v] (cK h.r1) j x d
theorem DS0.w1{c:Oper}{x y:Operand}{b:Act}{K:Act->LP->Prop}{Q:Exit->Act->LP->Prop}{d:Nat}(h:DS0 w u rb wb a cap bs p wa wn l0)(i:c.op= .store 25 x y)(j:b.eval x= .pointer (some ⟨w.heap.size,0,none⟩))(k:b.eval y= .agg #[.slice na n d])(l:K (b.put c.dst undef) (u.setCells w.heap.size 0 [.slice na n d])):c.wp prog b u K Q:=
 wp_store_mid 25 _ _ i w.heap.size 0 #[.slice na n d] j k (cK h.r1) (by kernel_rfl) (Bt ..) l
theorem DS0.w2{e:Oper}{x y:Operand}{b:Act}{K:Act->LP->Prop}{Q:Exit->Act->LP->Prop}{f m k c:Nat}(h:DS0 w u rb wb a cap bs p wa wn l0)(l:e.op= .store 29 x y)(q:b.eval x= .pointer (some ⟨w.heap.size+1,0,none⟩))(r:b.eval y= .agg #[.slice ra m rc,.slice d k c])(s:K (b.put e.dst undef) ((u.setCells w.heap.size 0 [.slice na n f]).setCells (w.heap.size+1) 0 [.slice ra m rc,.slice d k c])):e.wp prog b (u.setCells w.heap.size 0 [.slice na n f]) K Q:=
 wp_store_mid 29 _ _ l (w.heap.size+1) 0 #[.slice ra m rc,.slice d k c] q r (cK (h.range (.slice na n f) (.slice ra m rc) (.slice d k c)).1) (by kernel_rfl) (jT ..) s
theorem DS0.st1(h:DS0 w u rb wb a cap bs p wa wn l0){v x:LQ}{g o:Nat}(c:aC u g t n)(f:w.heap.size+2<=g)(d:u.cell? ⟨g,o,none⟩=some x):(u.setCells w.heap.size 0 [v]).cell? ⟨g,o,none⟩=some x:=by
 have e:Xk w.heap.size (w.heap.size+1) u (u.setCells w.heap.size 0 [v]):=Xk.sets (JP _) (Ky _) _ 0 (Xk.refl _ _ _);have:=h.wl;exact (e.cell c.lt (by omega)).trans d
theorem xM(w:LP)(L:List Qq)(v1 v2:LQ)(i:StZ L w v1 v2):Calls prog 53 #[.agg #[v1,v2]] w fun e w'=>∃j h d k Kk b,e= .returned (.agg #[.slice j (List.length Kk) h,.slice d (List.length b) k])/\StU 0 w' j h d Kk b/\K_ w w':=by
 rcases i with⟨rfl,rfl⟩|⟨Kk,b,l,o,h,d,k,rfl,rfl,p,a,q,f,y⟩
 ·refine (BH w).mono ?_;rintro e w' ⟨g,A,rfl,m⟩;exact⟨_,A,none,0,[],[],rfl,⟨JR _,JR _,fun B f=>(by cases f),(fun _=>⟨g,0,rfl⟩),fun n c=>(by simp at c),JR _,fun r a=>(by cases a),fun n c=>(by simp at c)⟩,m⟩
 ·have K:=a.1;have M:=a.2.1;have N:=q.len;have O:=gG p;have s:∀r∈b,nG 0 r:=fun r a=>yg (aZ p) (q.good r a)
  refine (rW w l o h Kk d k b (by omega) (by omega) (fun r a=>by have:=(s r a).texts;omega) f y).mono ?_;rintro e w' ⟨j,C,D,E,P,_,rfl,F,G,H,_,_,_,m⟩;obtain⟨Q,R,t,I,v⟩:=bg F;simp only[KX,true_and] at t;obtain⟨rfl,rfl⟩:=t;obtain⟨_,S,T,x,J⟩:=aW.runs G H.plain (K_.refl _);simp only[KX,true_and] at x;obtain⟨rfl,rfl⟩:=x;obtain⟨l,o,rfl,_,_⟩:=v.strs 0 (by omega);exact⟨_,C,D,E,Kk,b,rfl,⟨by omega,I,fun B f=>(by
   obtain⟨n,c,rfl⟩:=Kb f;have i:=(a.2.2 n c).1.2.1;simp only[List.getD,JV c,Lx] at i;omega),(fun _=>⟨l,o,rfl⟩),v.strs,by omega,s,J.runs⟩,m⟩
structure mf (m:Nat) (w wr:LP) (rb wb:Nat) (a:LM) (cap:Nat) (bs:List UInt8) (p:Nat) (v:LQ) (L:List Qq):Prop where
 rd:Rd wr rb a cap bs p
 rd0:∃p0,Rd w rb a cap bs p0
 wbl:w.heap.size<=wb
 kb:Xk rb (rb+1) w wr
 row:aC wr wb 25 1
 c0:wr.cell? ⟨wb,0,none⟩=some v
 web:bB wr v L
 tiny:∀d∈L,d.TinyN m
 fr:lN w.heap.size v L
variable {L : List Qq} {bs : List UInt8} {xs : List LQ} {cap m p rb wb : Nat} {a : LM} {v : LQ} {w wr : LP}
theorem fD.fin(h:fD m w wr rb wb a cap bs p v L xs):mf m w wr rb wb a cap bs p v L:=
 ⟨h.rd,h.rd0,h.wbl,h.kb,h.row,h.c0,h.web,h.tiny,lN.fM h.own⟩
variable {n : Nat}
theorem mf.mono(h:mf m w wr rb wb a cap bs p v L)(c:m<=n):mf n w wr rb wb a cap bs p v L:=
 ⟨h.rd,h.rd0,h.wbl,h.kb,h.row,h.c0,h.web,(fun d e=>(h.tiny d e).mono c),h.fr⟩
variable {N : Nat} {A0 : LP}
theorem mf.ends{M:Nat}{c:LP}{f t:Nat}{e:Ending}(h:mf M A0 c rb wb a cap bs f v L){d:Nat}(m:aC c d 25 1)(n:w.heap.size<=d)(b:K_ w A0){q:Nat}(r:Rd w rb a cap bs q)
 (s:e= .returned (.agg #[v])) (x:p<=f) (h2:f<=p+t) (y:L.length<=N):kY M N w (c.setCell ⟨d,0,none⟩ v) rb a cap bs p t e:=by
 have A:=m.same (o:=0) v;have i:Below w.heap.size c (c.setCell ⟨d,0,none⟩ v):=(Below.refl _ _).setCell (p:=⟨d,0,none⟩) n _;have j:Xk rb (rb+1) w c:=⟨h.kb.os.trans b.os,h.kb.tape.trans b.tape,h.kb.output.trans b.output,JS b.size h.kb.size,fun k l B=>(h.kb.block k (JQ l b.size) B).trans (b.block k l)⟩;exact⟨v,L,f,s,x,h2,y,h.tiny,h.web.same A (by decide) (by decide) (by decide) (by decide),h.rd.below r i j.size,j.below i,h.fr.mono b.size⟩
variable {c g k : Nat}
theorem bB.put{o:Nat}{d:Qq}{u:LQ}{a:List LQ}(q:bB w (.slice (some ⟨g,0,none⟩) n c) L)(E:k<L.length)(r:aC w g 79 N)(F:k*3<=o/\o+a.length<=k*3+3)
 (s:(w.setCells g o a).rangeAt g (k*3) [.string d.name,.int .i64 d.cost,u]) (t:b_ w u d.steps):bB (w.setCells g o a) (.slice (some ⟨g,0,none⟩) n c) (L.set k d):=by
 obtain⟨v,j⟩:=r.setCells a o;obtain⟨G,H,e,x,y,A⟩:=q;simp only[KX] at e;obtain⟨rfl,rfl,rfl⟩:=e;refine⟨_,c,by rw[Lp],by rw[Lp];exact x,y,fun i f=>?_⟩;rw[Lp] at f;obtain⟨l,m,_⟩:=v;by_cases e:i=k
 ·subst e;have h:(L.set i d).getD i Qq.zero=d:=by simp[List.getD,f]
  rw[h];exact⟨g,0,l,_,u,rfl,m,by rw[KH];exact s,t.same j (by decide) (by decide) (by decide)⟩
 ·have h:(L.set k d).getD i Qq.zero=L.getD i Qq.zero:=by simp[List.getD,Ne.symm e]
  rw[h];obtain⟨b,I,J,K,B,p,M,C,D⟩:=A i f;simp only[KT,LG,and_true] at p;obtain⟨rfl,rfl⟩:=p;exact⟨g,0,l,_,B,rfl,m,Ki C _ _ _ (by right;simp;omega),D.same j (by decide) (by decide) (by decide)⟩
theorem yO{d:Qq}(a:∀x∈L,x.TinyN m)(b:d.TinyN m):∀x∈L.set k d,x.TinyN m:=fun x c=>by
 rcases List.mem_or_eq_of_mem_set c with h|rfl
 ·exact a x h
 ·exact b
theorem mf.put{o:Nat}{d:Qq}{u:LQ}{b:List LQ}(h:mf m A0 wr rb wb a cap bs p (.slice (some ⟨g,0,none⟩) n c) L)(l:A0.heap.size<=g)(q:k<L.length)(e:aC wr g 79 N)(r:k*3<=o/\o+b.length<=k*3+3)
 (s:(wr.setCells g o b).rangeAt g (k*3) [.string d.name,.int .i64 d.cost,u]) (t:b_ wr u d.steps) (v:d.TinyN m):mf m A0 (wr.setCells g o b) rb wb a cap bs p (.slice (some ⟨g,0,none⟩) n c) (L.set k d):=by
 obtain⟨y,w⟩:=h.rd0;have f:Below A0.heap.size wr (wr.setCells g o b):=Below.setCells' l b o (Below.refl _ _);obtain⟨_,x⟩:=e.setCells b o;have i:=h.row.eQ x (by decide);exact⟨h.rd.below w f h.kb.size,h.rd0,h.wbl,h.kb.below f,i.1,(i.2 0).trans h.c0,h.web.put q e r s t,yO h.tiny v,fun j=>h.fr (by rw[Lp] at j;exact j)⟩
theorem bB.cells(i:bB w (.slice (some ⟨g,0,none⟩) n c) L)(j:k<L.length):
  ∃a b,w.rangeAt g (k*3) [.string (L.getD k Qq.zero).name,.int .i64 (L.getD k Qq.zero).cost,.slice a (L.getD k Qq.zero).steps.length b]/\b_ w (.slice a (L.getD k Qq.zero).steps.length b) (L.getD k Qq.zero).steps:=by
 obtain⟨l,m,e,p,r,q⟩:=i;simp only[KX] at e;obtain⟨rfl,rfl,rfl⟩:=e;obtain⟨s,t,v,x,y,d,A,f,h⟩:=q k j;simp only[KT,LG,and_true] at d;obtain⟨rfl,rfl⟩:=d;obtain⟨a,b,rfl⟩:=h.slice;rw[KH] at f;exact⟨a,b,f,h⟩
theorem xU{b q:Nat}(h:w.cell? ⟨b,q,none⟩=some v):w.rangeAt b q [v]:=fun j x a=>by
 match j,a with
 | 0,a=>simp at a;subst a;exact h
 | j+1,a=>simp at a
theorem sU{b q:Nat}{x y z:LQ}(d:w.cell? ⟨b,q,none⟩=some x)(e:w.cell? ⟨b,q+1,none⟩=some y)(h2:w.cell? ⟨b,q+2,none⟩=some z):w.rangeAt b q [x,y,z]:=fun j v a=>by
 match j,a with
 | 0,a=>simp at a;subst a;exact d
 | 1,a=>simp at a;subst a;exact e
 | 2,a=>simp at a;subst a;exact h2
 | j+3,a=>simp at a
theorem Dv(w:LP)(g o:Nat)(v:LQ):w.setCells g o [v]=w.setCell ⟨g,o,none⟩ v:=rfl
theorem mf.DK(h:mf m A0 wr rb wb a cap bs p (.slice (some ⟨g,0,none⟩) n c) L)(j:A0.heap.size<=g)(b:k<L.length)(f:aC wr g 79 N)(r:k*3+3<=N){s:LK}(l:s.size<=300):
  mf m A0 (wr.setCell ⟨g,k*3,none⟩ (.string s)) rb wb a cap bs p (.slice (some ⟨g,0,none⟩) n c) (L.set k ⟨s,(L.getD k Qq.zero).cost,(L.getD k Qq.zero).steps⟩):=by
 obtain⟨t,v,i,q⟩:=h.web.cells b;have e:=h.tiny (L.getD k Qq.zero) (by simp[List.getD,b]);rw[<-Dv];refine h.put (d:=⟨s,(L.getD k Qq.zero).cost,(L.getD k Qq.zero).steps⟩) j b f ⟨JP _,by simp⟩ ?_ q ⟨l,e.cost,e.steps,e.each⟩;rw[Dv];exact sU (bG f.row (by omega) _) ((Xx (by omega) _).trans (i 1 _ rfl)) ((Xx (by omega) _).trans (i 2 _ rfl))
theorem mf.EZ(h:mf m A0 wr rb wb a cap bs p (.slice (some ⟨g,0,none⟩) n c) L)(j:A0.heap.size<=g)(e:k<L.length)(f:aC wr g 79 N)(A:k*3+3<=N){cost:Int}{u:LQ}{b:List Xj}(l:b_ wr u b)(r: -1000<=cost/\cost<=1000)(t:b.length<=21)(w:∀s∈b,s.TinyN m):
  mf m A0 (wr.setCells g (k*3+1) [.int .i64 cost,u]) rb wb a cap bs p (.slice (some ⟨g,0,none⟩) n c) (L.set k ⟨(L.getD k Qq.zero).name,cost,b⟩):=by
 obtain⟨B,C,x,_⟩:=h.web.cells e;have y:=h.tiny (L.getD k Qq.zero) (by simp[List.getD,e]);refine h.put (d:=⟨(L.getD k Qq.zero).name,cost,b⟩) j e f ⟨by omega,by simp⟩ ?_ l ⟨y.name,r,t,w⟩;have i:=JU wr g (k*3+1) [.int .i64 cost,u] (f.row.there (by simp;omega));exact sU (Ki (xU (q:=k*3) (v:= .string (L.getD k Qq.zero).name) (by have:=x 0 _ rfl;rwa [La] at this)) _ _ _ (by right;simp only[KY,List.length_nil];omega) 0 _ rfl) (i 0 _ rfl) (i 1 _ rfl)
theorem mf.setNode(h:mf m A0 wr rb wb a cap bs p (.slice (some ⟨g,0,none⟩) n c) L)(e:A0.heap.size<=g)(f:k<L.length)(b:aC wr g 79 N)(l:k*3+3<=N){d:Qq}{u:LQ}(i:b_ wr u d.steps)(j:d.TinyN m):
  mf m A0 (wr.setCells g (k*3) [.string d.name,.int .i64 d.cost,u]) rb wb a cap bs p (.slice (some ⟨g,0,none⟩) n c) (L.set k d):=
 h.put e f b ⟨JP _,by simp⟩ (JU wr g (k*3) _ (b.row.there (by simp;omega))) i j
theorem fD.Ip(h:fD m w wr rb wb a cap bs p v L xs)(k:0<L.length):∃g c,v= .slice (some ⟨g,0,none⟩) L.length c/\w.heap.size<=g/\aC wr g 79 (c*3)/\L.length<=c:=by
 rcases h.own.2 with⟨_,e⟩|⟨g,c,b,e,d,f,i,_,j,_⟩
 ·omega
 ·exact⟨g,c,e,d,⟨b,f,j⟩,i⟩
def Il(M N:Nat)(A0 wx:LP)(rb wb res:Nat)(a:LM)(cap:Nat)(bs:List UInt8)(p t:Nat):Prop:=
 ∃(va:LM) (vc:Nat) (L:List Qq) (p':Nat),p<=p'/\p'<=p+t/\L.length<=N/\aC wx res 25 1/\mf M A0 wx rb wb a cap bs p' (.slice va L.length vc) L
theorem DX{P:Program}(w:LP)(t u v:TypeId)(c:P.underlying t=some (.slice u))(d:P.underlying u=some (.int .u8))(e:P.underlying v=some .string)(x y:Int):
  (convert t v (.slice (some ⟨w.heap.size,0,none⟩) 2 2)).run P (w.alloc (.cells #[.int .u8 x,.int .u8 y] u))= .ok (.string (strOfNums [x,y])) (w.alloc (.cells #[.int .u8 x,.int .u8 y] u)):=
 run_convert_bytes_arg (P:=P) _ t u c d w.heap.size 0 2 2 [x,y] rfl (fun i a=>by
  match i,a with
  | 0,_=>rw[World.cell?_alloc_mark];rfl
  | 1,_=>rw[World.cell?_alloc_mark];rfl
  | i+2,a=>exact Lv a (by omega)) v e
theorem yt(w:LP):b_ (w.alloc (.cells #[.slice none 0 0,.int .i64 0,.slice none 0 0,.int .i64 0,.int .i64 0,.bool true,.bool false,.string ⟨#[]⟩] 83)) (.slice (some ⟨w.heap.size,0,none⟩) 1 1) [bR ⟨#[]⟩]:=by
 have a:=Xz w #[.slice none 0 0,.int .i64 0,.slice none 0 0,.int .i64 0,.int .i64 0,.bool true,.bool false,.string ⟨#[]⟩] 83;refine⟨_,1,rfl,JP _,fun i c=>?_⟩;obtain rfl:i=0:=by simpa using c
 exact⟨w.heap.size,0,_,_,(bR ⟨#[]⟩).cells none 0 none 0,rfl,heap_alloc_new w _,a,(rD _ _).g,nS _⟩
theorem Ie(x:Int)(a:LM)(n c:Nat):(#[.int .i64 x,.slice a n c]:Array LQ).all (·.oneCell')=true:=by simp[Value.oneCell']
theorem Dg(s:LK)(x:Int)(a:LM)(n c:Nat):(#[.string s,.int .i64 x,.slice a n c]:Array LQ).all (·.oneCell')=true:=by simp[Value.oneCell']
theorem Cc(mN:Nat)(k7:mN<=900)(w:LP)(D:Nat)(a:LM)(H:Nat)(E:List UInt8)(p:Nat)(a0:LM)(a6:Nat)(l:List Qq)(hR:Rd w D a H E p)(hp:p<=700000)(a7:E.length<=2000)(hl:l.length<=200)(h4:∀d∈l,d.TinyN mN)(hG:bB w (.slice a0 l.length a6) l):
  Calls prog 56 #[.pointer (some ⟨D,0,none⟩),.agg #[.slice a0 l.length a6]] w fun e w'=>kY (mN+10) (l.length+62) w w' D a H E p 20 e:=by
 obtain⟨V,b5⟩:=aj ((w.alloc (.cells #[.slice a0 l.length a6] 25)).alloc (.cells #[.slice none 0 0] 25));have k0:K_ w V:=by rw[b5];exact (ag _ _).alloc _
 have h5:V.heap.size=w.heap.size+2:=by rw[b5];simp
 have h6:Hid (aC V (w.heap.size+1) 25 1):=by
  rw[b5];have:=aC.made (w.alloc (.cells #[.slice a0 l.length a6] 25)) #[.slice none 0 0] 25;rw[KR] at this;exact this
 have p6:=hR.row.lt;have h7:=Kz hR;have h8:=Kz (hR.kept k0);have k8:=Kz (hG.kept k0);clear hR hG;go_enter func56,ntmps56
 go_upto_region 1 with fail
 rw[<-b5];have k9:=Kz h5;have l0:V.cell? ⟨w.heap.size,0,none⟩=some (.slice a0 l.length a6):=by
  rw[b5,K_.cell (w:=w.alloc (.cells #[.slice a0 l.length a6] 25)) (ag _ _) (by simp)];exact Xz w _ _ 0 _ rfl
 have bz:w.heap.size<V.heap.size:=by omega
 clear b5 h5;go_wp2_with fail
 refine (qE _ a0 a6 l ⟨#[]⟩ (mN:=mN) (by omega) (by omega) h4 k8.o.GR).mono ?_;rintro e w1 ⟨av,q,xs,base,rfl,h9,hO,hP,k1⟩;obtain⟨L,hL⟩:=aj (l.filter (bS (⟨#[]⟩:LK).toList));rw[<-hL] at hO hP⊢;have p7:L.length<=200:=by rw[hL];exact JS (List.length_filter_le _ _) hl
 have p8:L.length<=l.length:=by rw[hL];exact List.length_filter_le _ _
 have i0:∀d∈L,d.TinyN mN:=fun d r=>h4 d (by rw[hL] at r;exact (List.mem_filter.1 r).1)
 have kw:K_ w1 (w1.alloc (.cells #[.slice av L.length q] 25)):=ag _ _;have a3:Hid (fD mN V (w1.alloc (.cells #[.slice av L.length q] 25)) D w1.heap.size a H E p (.slice av L.length q) L xs):=
  ⟨(h8.o.kept k1).kept kw,⟨p,h8.o⟩,k1.size,.aF (k1.trans kw),aC.made w1 _ _,Xz w1 _ _ 0 _ rfl,bC (ai hO kw) h9,hP.same (u:=25) (.aF kw) (by decide) (by decide) (by decide),i0⟩
 have a8:=Kz ((h6.o.kept k1).kept kw);have i1:w.heap.size+1≠w1.heap.size:=by have:=(h6.o.kept k1).lt;omega
 clear hL hO hP i0 k1 kw l0 bz h9;go_upto_region 2 with fail
 obtain⟨w2,i2⟩:=aj (w1.alloc (.cells #[.slice av L.length q] 25));rw[<-i2] at a3 a8⊢;clear i2;have y0:=a3.o.c0;have zb:=a3.o.row.lt;by_cases d0:L.length=0
 ·have i3:((L.length:Int) == 0)=true:=by simp[d0]
  clear d0;obtain⟨⟨_,x0⟩,l1⟩:=a8.o.row.at (i:=0) (by omega);have xz:=a8.o.lt;go_wp2
  have hR:=JU w2 (w.heap.size+1) 0 [.slice av L.length q] (a8.o.row.there (o:=0) (m:=1) (JP _));exact X_ [.slice av L.length q] _ results56 rfl hR underlying25 rfl Tryz.fC rfl ((a3.o.fin.mono (n:=mN+10) (by omega)).ends a8.o (by omega) k0 h7.o rfl (JP _) (by omega) (by omega))
 have i3:((L.length:Int) == 0)=false:=by simpa using d0
 have a9:0<L.length:=by omega
 obtain⟨g,gc,N,c3,I,p9⟩:=a3.o.Ip a9;simp only[KX,true_and] at N;obtain⟨rfl,rfl⟩:=N;clear d0 I;go_wp2_with fail
 refine (jO _ D a H E p L.length a3.o.rd (by omega) (by omega) a7).mono ?_;rintro e w3 ⟨k,rfl,hk,i4,e7⟩;have e8:=Kz (a3.o.drawn i4 e7);have i5:=Kz (a8.o.but e7 (by omega));have W:k<L.length:=by omega
 clear i4 e7 a3 a8 y0 zb i3;go_wp2_with fail
 refine (aK _ D a H E (p+1) _ 5 rfl e8.o.rd (by omega) (by omega) a7).mono ?_;rintro e i ⟨s,rfl,q0,i6,f1⟩;have j:=Kz (e8.o.drawn i6 f1);have a1:=Kz (i5.o.but f1 (by omega));clear i6 f1 e8 i5;have b0:Hid (aC i g 79 (q*3)):=by
  obtain⟨g',c',N,_,I,_⟩:=j.o.Ip a9;simp only[KX,true_and,KT,LG,and_true] at N;obtain⟨rfl,rfl⟩:=N;exact I
 go_upto_block 0 with fail
 go_cut [7,8,9] from 24 to 115 (fun _ _ _ wx=>Il (mN+10) (l.length+62) V wx D w1.heap.size (w.heap.size+1) a H E p 20)
 case rest=>
  obtain⟨va,vc,F,p',h1,h2,h3,b1,hF⟩:=hcut;obtain⟨wE,rfl⟩:=aj wc;have⟨HF,c4⟩:=aH hF b1;have q2:=hF.c0;have oz:=hF.row.lt;obtain⟨⟨_,x0⟩,l1⟩:=b1.row.at (i:=0) (by omega);have xz:=b1.lt;clear hF b1 j a1 b0;go_wp2
  have hR:=JU wE (w.heap.size+1) 0 [.slice va F.length vc] (c4.o.row.there (o:=0) (m:=1) (JP _));exact X_ [.slice va F.length vc] _ results56 rfl hR underlying25 rfl Tryz.fC rfl (HF.o.ends c4.o (by omega) k0 h7.o rfl h1 h2 h3)
 case first=>
  have y4:=j.o.c0;have d1:=j.o.row.lt;have f2:=b0.o.lt;have b6:k*3+3<=q*3:=by omega
  have q3:w.heap.size+1≠g:=by have:=k9.o;omega
  have q4:(k:Int)<(L.length:Int):=by omega
  by_cases X:s=0
  ·have d2:((s:Int) == 0)=true:=by simp[X]
   clear X;go_upto_region 10 with fail
   have t:=Kz (j.o.kept (aL i));have a4:=Kz (a1.o.kept (aL i));refine Qx.region (by kernel_rfl) (fun (v:LP)=>v.cell? ⟨w1.heap.size,0,none⟩=some (.slice (some ⟨g,0,none⟩) L.length q)) 14 t.o.c0 (fun h=>?_);generalize l2:i.drew=wd at h t a4⊢;clear l2 y4 d1 f2 j a1 b0;refine au 0 h ?_;refine af 8 h ?_;refine ak 4 (fun K b=>?_);go_simp
   go_at_call 21
   refine (aK _ D a H E (p+2) _ 2 rfl t.o.rd (by omega) (by omega) a7).mono ?_;rintro e B ⟨b2,rfl,hq,O,x⟩;have Y:=Kz (t.o.drawn O x);have b7:=Kz (a4.o.but x (by omega));dsimp only;refine b.out _ _ (fun _=>Y.o.c0) ?_;clear b K h O x t a4;have h:=Y.o.c0;try simp only[upP]
   have ew:IntKind.i64.wrap (20+ (b2:Int))=20+ (b2:Int):=by simp[IntKind.wrap,IntKind.bits,IntKind.signed];omega
   refine bJ 5 (.int .i64 (20+ (b2:Int))) h ?_ ?_
   ·intro u hu;try dsimp only at hu
    go_simp
    try with_reducible rfl
   try simp only[upP]
   refine ak 6 (fun K b=>?_);go_simp
   go_at_call 96
   refine (tX _ ⟨#[110]⟩ _ (20+b2) (by push_cast;rfl) (by omega) (by decide)).mono ?_;rintro e w6 ⟨⟨Q,rfl,hx⟩,l3⟩;have l4:Q.size<=300:=by have e1:(⟨#[110]⟩:LK).size=1:=rfl;rw[e1] at hx;omega
   subst l3;dsimp only;refine ae b (fun _=>Y.o.c0) ?_;clear b K;have i7:∀c∈([⟨#[]⟩,⟨#[45]⟩,⟨#[97,44,98]⟩,⟨#[97]⟩,Q]:List LK),c.size<=300:=by
    intro c hc;simp only[Lb,Lc,or_false] at hc;rcases hc with rfl | rfl | rfl | rfl | rfl <;> first | exact l4 | decide
   clear ew;refine dx 7 9 (fun K b=>?_) (fun K b=>?_)
   ·rw[Lt (by rfl)];go_simp
    have K3:K_ w6 (w6.alloc (.cells #[.string ⟨#[]⟩,.string ⟨#[45]⟩,.string ⟨#[97,44,98]⟩,.string ⟨#[97]⟩,.string Q] 9)):=ag _ _;have b8:=Kz (Y.o.kept K3);have b9:=Kz (b7.o.kept K3);refine ae b (fun _=>b8.o.c0) ?_;clear b K;clear h K3;refine ak 9 (fun K b=>?_);go_simp
    go_at_call 21
    refine (aK _ D a H E (p+3) _ 5 rfl b8.o.rd (by omega) (by omega) a7).mono ?_;rintro e wE ⟨y,rfl,f3,O,x⟩;have C:=Kz (b8.o.drawn O x);have d3:=Kz (b9.o.but x (by omega));obtain⟨c,hc,f4⟩:=qp [⟨#[]⟩,⟨#[45]⟩,⟨#[97,44,98]⟩,⟨#[97]⟩,Q] x Y.o.rd.row.lt y (by show y<5;omega) i7;have lz:w6.heap.size<wE.heap.size:=Nat.lt_of_lt_of_le (by simp) x.size;clear O x;dsimp only;refine ae b (fun _=>C.o.c0) ?_;clear b K;have l5:(y:Int)<5:=by omega
    refine ah 10 (fun K b=>?_);go_simp
    refine ae b (fun _=>C.o.c0) ?_;clear b K;refine ah 11 (fun K b=>?_);go_simp
    refine ae b (fun _=>C.o.c0) ?_;clear b K;have h:=C.o.c0;refine af 12 h ?_;refine af 13 h ?_;have f:aC wE g 79 (q*3):=by
     obtain⟨g',c',N,_,I,_⟩:=C.o.Ip a9;simp only[KX,true_and,KT,LG,and_true] at N;obtain⟨rfl,rfl⟩:=N;exact I
    have zg:=f.lt;obtain⟨⟨_,u0⟩,f0⟩:=f.row.at (i:=k*3) (by omega);have HF:=Kz ((C.o.fin.mono (n:=mN+10) (by omega)).DK c3 W f b6 f4);have b3:=Kz (d3.o.eQ (f.same (o:=k*3) (.string c)) (by decide)).1;clear f;refine ah 14 (fun K b=>?_);go_simp
    refine ae b (fun a2=>Lv rfl a2) ?_;clear b K;refine aB ?_;go_wp2
    go_meet
    exact⟨some ⟨g,0,none⟩,q,L.set k ⟨c,(L.getD k Qq.zero).cost,(L.getD k Qq.zero).steps⟩,p+4,by omega,by omega,by rw[Lp];omega,b3.o,by rw[Lp];exact HF.o⟩
   ·rw[Lt (by rfl)];go_simp
    go_at_call 21
    refine (aK _ D a H E (p+3) _ 5 rfl Y.o.rd (by omega) (by omega) a7).mono ?_;rintro e R ⟨y,rfl,f3,O,x⟩;have b8:=Kz (Y.o.drawn O x);have b9:=Kz (b7.o.but x (by omega));clear O x;dsimp only;refine ae b (fun _=>b8.o.c0) ?_;clear b K h;refine ak 7 (fun K b=>?_);go_simp
    have K3:K_ R (R.alloc (.cells #[.string ⟨#[]⟩,.string ⟨#[45]⟩,.string ⟨#[97,44,98]⟩,.string ⟨#[97]⟩,.string Q] 9)):=ag _ _;have C:=Kz (b8.o.kept K3);have d3:=Kz (b9.o.kept K3);obtain⟨c,hc,f4⟩:=uO R 9 [⟨#[]⟩,⟨#[45]⟩,⟨#[97,44,98]⟩,⟨#[97]⟩,Q] y (by show y<5;omega) i7;have lz:R.heap.size<(R.alloc (.cells #[.string ⟨#[]⟩,.string ⟨#[45]⟩,.string ⟨#[97,44,98]⟩,.string ⟨#[97]⟩,.string Q] 9)).heap.size:=by simp
    have l6:(R.alloc (.cells #[.string ⟨#[]⟩,.string ⟨#[45]⟩,.string ⟨#[97,44,98]⟩,.string ⟨#[97]⟩,.string Q] 9)).cell? ⟨R.heap.size,y,none⟩=some (.string c):=hc;refine b.out _ _ (fun _=>C.o.c0) ?_;clear b K hc K3;generalize l7:R.alloc (.cells #[.string ⟨#[]⟩,.string ⟨#[45]⟩,.string ⟨#[97,44,98]⟩,.string ⟨#[97]⟩,.string Q] 9)=wE at C d3 lz l6⊢;clear l7;try simp only[upP]
    have l5:(y:Int)<5:=by omega
    refine ah 10 (fun K b=>?_);go_simp
    refine ae b (fun _=>C.o.c0) ?_;clear b K;refine ah 11 (fun K b=>?_);go_simp
    refine ae b (fun _=>C.o.c0) ?_;clear b K;have h:=C.o.c0;refine af 12 h ?_;refine af 13 h ?_;have f:aC wE g 79 (q*3):=by
     obtain⟨g',c',N,_,I,_⟩:=C.o.Ip a9;simp only[KX,true_and,KT,LG,and_true] at N;obtain⟨rfl,rfl⟩:=N;exact I
    have zg:=f.lt;obtain⟨⟨_,u0⟩,f0⟩:=f.row.at (i:=k*3) (by omega);have HF:=Kz ((C.o.fin.mono (n:=mN+10) (by omega)).DK c3 W f b6 f4);have b3:=Kz (d3.o.eQ (f.same (o:=k*3) (.string c)) (by decide)).1;clear f;refine ah 14 (fun K b=>?_);go_simp
    refine ae b (fun a2=>Lv rfl a2) ?_;clear b K;refine aB ?_;go_wp2
    go_meet
    exact⟨some ⟨g,0,none⟩,q,L.set k ⟨c,(L.getD k Qq.zero).cost,(L.getD k Qq.zero).steps⟩,p+4,by omega,by omega,by rw[Lp];omega,b3.o,by rw[Lp];exact HF.o⟩
  by_cases h1:s=1
  ·have d2:((s:Int) == 0)=false:=by simpa using X
   have e1:((s:Int) == 1)=true:=by simp[h1]
   clear X h1;obtain⟨J,S,f,A⟩:=j.o.web.cells W;obtain⟨d,r⟩:=aj (L.getD k Qq.zero);have T:=j.o.tiny d (by rw[r];simp[List.getD,W]);rw[<-r] at f A;have G:=f 1 _ rfl;have n2:=f 2 _ rfl;have c5:=Kz A;have l8:Hid (jN i J d.steps):=by
    obtain⟨q5,l9,e9,_,hS⟩:=A.Da;simp only[KX,true_and] at e9;obtain⟨rfl,rfl⟩:=e9;exact hS
   have⟨HD,b4⟩:=aH r T;clear f A r T;go_upto_region 12 with fail
   refine Qx.region (by kernel_rfl) (fun (v:LP)=>v.cell? ⟨w1.heap.size,0,none⟩=some (.slice (some ⟨g,0,none⟩) L.length q)/\v.cell? ⟨g,k*3+1,none⟩=some (.int .i64 d.cost)/\v.cell? ⟨g,k*3+2,none⟩=some (.slice J d.steps.length S)) 13 ⟨y4,G,n2⟩ (fun h=>?_);refine au 0 h ?_;refine au 4 h ?_;refine af 8 h ?_;refine af 9 h ?_;refine ak 10 (fun K b=>?_);go_simp
   go_at_call 97
   refine (DU mN k7 _ D a H E (p+2) d.cost J S d.steps ((j.o.kept (aL i)).rd) (by omega) a7 b4.o.steps b4.o.cost b4.o.each (l8.o.kept (aL i))).mono ?_;rintro e w6 ⟨cost,u,LS,m0,rfl,q6,q7,m1,m2,m3,i8,i9,d4⟩;have Y:=Kz ((j.o.kept (aL i)).drawn i9 d4);have b7:=Kz ((a1.o.kept (aL i)).but d4 (by omega));have j0:=Kz i8.g;obtain⟨ua,uc,rfl⟩:=j0.o.slice;have c6:=d4.sameKind (j.o.kept (aL i)).rd;have f:=b0.o.kept (aL i);have d5:=f.eQ c6 (by decide);have j1:(fun (v:LP)=>v.cell? ⟨w1.heap.size,0,none⟩=some (.slice (some ⟨g,0,none⟩) L.length q)/\v.cell? ⟨g,k*3+1,none⟩=some (.int .i64 d.cost)/\v.cell? ⟨g,k*3+2,none⟩=some (.slice J d.steps.length S)) w6:=⟨Y.o.c0,(d5.2 _).trans G,(d5.2 _).trans n2⟩;have f5:=Kz d5.1;dsimp only;refine b.out _ _ (fun _=>j1) ?_;clear b K h i8 i9 d4 c6 f d5;have h:=j1;try simp only[upP]
   refine af 11 h ?_;refine af 12 h ?_;have HF:=Kz ((Y.o.fin.mono (n:=mN+10) (by omega)).EZ c3 W f5.o b6 j0.o m2 m1 m3);have b3:=Kz (b7.o.eQ (f5.o.setCells [.int .i64 cost,.slice ua LS.length uc] (k*3+1)).2 (by decide)).1;refine ak 13 (fun K b=>?_);refine wp_store_mid 77 _ _ rfl g (k*3+1) #[.int .i64 cost,.slice ua LS.length uc] (by rfl) (by rfl) (f5.o.row.there (by simp;omega)) (by kernel_rfl) (Ie ..) ?_;refine ae b (fun a2=>Lv rfl a2) ?_;clear b K;refine aB ?_;go_wp2
   go_meet
   exact⟨some ⟨g,0,none⟩,q,L.set k ⟨(L.getD k Qq.zero).name,cost,LS⟩,m0,by omega,by omega,by rw[Lp];omega,b3.o,by rw[Lp];exact HF.o⟩
  by_cases h2:s=2
  ·have d2:((s:Int) == 0)=false:=by simpa using X
   have e1:((s:Int) == 1)=false:=by rw[beq_eq_false_iff_ne];omega
   have e2:((s:Int) == 2)=true:=by simp[h2]
   clear X h1 h2;go_wp2_with fail
   refine (aK _ D a H E (p+2) _ 2 rfl j.o.rd (by omega) (by omega) a7).mono ?_;rintro e B ⟨b2,rfl,hq,O,x⟩;have t:=Kz (j.o.drawn O x);have a4:=Kz (a1.o.but x (by omega));clear O x j a1 b0 y4 d1 f2;obtain⟨G,q8⟩:∃G:Nat,G=60+b2:=⟨_,rfl⟩;go_wp2
   go_loopg [8] (G-L.length) (fun gq Q wr=>∃(a5:Nat) (v:LQ) (F:List Qq) (ys:List LQ),Q= .int .i64 (a5:Int)/\a5+gq<=61/\G<=F.length+gq/\(gq=0\/F.length+gq=G)/\F.length<=l.length+61/\aC wr (w.heap.size+1) 25 1/\fD mN V wr D w1.heap.size a H E (p+3) v F ys)
   case atStart=>exact⟨0,_,L,xs,rfl,by omega,by omega,by omega,by omega,a4.o,t.o⟩
   case round=>
    clear t a4;obtain⟨a5,v,F,ys,rfl,hi,hn,m4,m5,b1,hS⟩:=hrel;obtain⟨wO,rfl⟩:=aj wr;have⟨HO,c4⟩:=aH hS b1;obtain⟨va,vc,rfl⟩:=ax hS.own;have y0:=hS.c0;have zb:=hS.row.lt;clear hS b1;by_cases m6:(F.length:Int)<60+ (b2:Int)
    ·have q9:0<gk:=by omega
     obtain⟨d6,f7⟩:=aj (F.length);have r0:d6<=61:=by omega
     have HN:=Kz f7;rw[<-f7] at y0 m6 hn m4 m5;obtain⟨q1,m7⟩:=aj (a5 / 26);obtain⟨y,f3⟩:=aj (a5 % 26);have et:(a5:Int).tdiv 26= (q1:Int):=by rw[Int.tdiv_eq_ediv_of_nonneg (by omega)];omega
     have er:(a5:Int).tmod 26= (y:Int):=by rw[Int.tmod_eq_emod_of_nonneg (by omega)];omega
     have r1:q1<=2:=by omega
     have r2:y<=25:=by omega
     clear m7 f3 f7;have m8:=Kz (DX (P:=prog) wO 22 5 9 underlying22 underlying5 underlying9 (97+ (q1:Int)) (97+ (y:Int)));obtain⟨bz,f8⟩:=aj (strOfNums [97+ (q1:Int),97+ (y:Int)]);have m9:bz.size=2:=by rw[f8];rfl
     obtain⟨U,j2⟩:∃U:LK,(⟨#[122,122]⟩:LK)++bz=U:=⟨_,rfl⟩;have j3:U.size<=300:=by rw[<-j2,ByteArray.size_append,m9];decide
     have b6:=m8.o;rw[<-f8] at b6;have f6:¬9223372036854775807<2+bz.size:=by omega
     have r3:¬9223372036854775807<4:=by omega
     obtain⟨M,c7⟩:=aj (wO.alloc (.cells #[.int .u8 (97+ (q1:Int)),.int .u8 (97+ (y:Int))] 5));have j4:K_ wO M:=by rw[c7];exact ag _ _
     have f9:Hid (b_ (M.alloc (.cells #[.slice none 0 0,.int .i64 0,.slice none 0 0,.int .i64 0,.int .i64 0,.bool true,.bool false,.string ⟨#[]⟩] 83)) (.slice (some ⟨M.heap.size,0,none⟩) 1 1) [bR ⟨#[]⟩]):=yt M;have g0:K_ M (M.alloc (.cells #[.slice none 0 0,.int .i64 0,.slice none 0 0,.int .i64 0,.int .i64 0,.bool true,.bool false,.string ⟨#[]⟩] 83)):=ag _ _;obtain⟨W2,d7⟩:=aj (M.alloc (.cells #[.slice none 0 0,.int .i64 0,.slice none 0 0,.int .i64 0,.int .i64 0,.bool true,.bool false,.string ⟨#[]⟩] 83));rw[<-d7] at f9 g0;have d8:K_ W2 (W2.alloc (.cells #[.string U,.int .i64 1,.slice (some ⟨M.heap.size,0,none⟩) 1 1] 79)):=ag _ _;obtain⟨W3,g1⟩:=aj (W2.alloc (.cells #[.string U,.int .i64 1,.slice (some ⟨M.heap.size,0,none⟩) 1 1] 79));have g2:=mG W2 U 1 (.slice (some ⟨M.heap.size,0,none⟩) 1 1);rw[<-g1] at d8 g2;have d9:=Kz ((j4.trans g0).trans d8);have j5:=Kz (HO.o.kept d9.o);have g3:=j5.o.own;rw[<-HN.o] at g3;have⟨j6,n1,n3⟩:=dK g3 j5.o.kb.size g2;have n4:=Kz (f9.o.same (u:=25) (.aF d8) (by decide) (by decide) (by decide));have HD:Hid (Qq.TinyN mN ⟨U,1,[bR ⟨#[]⟩]⟩):=⟨j3,⟨by show (-1000:Int)<=1;decide,by show (1:Int)<=1000;decide⟩,by show 1<=21;omega,fun r4 hy=>by simp only[JY] at hy;subst hy;exact iB (show (0:Nat)<=300 by omega)⟩;obtain⟨g4,g5,g6,g7,g8⟩:=aN Tryz.lX;have HE:Hid (((wO.alloc (.cells #[.int .u8 (97+ (q1:Int)),.int .u8 (97+ (y:Int))] 5)).alloc (.cells #[.slice none 0 0,.int .i64 0,.slice none 0 0,.int .i64 0,.int .i64 0,.bool true,.bool false,.string ⟨#[]⟩] 83)).alloc (.cells #[.string ((⟨#[122,122]⟩:LK)++strOfNums [97+ (q1:Int),97+ (y:Int)]),.int .i64 1,.slice (some ⟨wO.heap.size+1,0,none⟩) 1 1] 79)=W3):=by
      show _=_;rw[g1,d7,c7,<-j2,f8];simp only[KR]
     have j7:wO.heap.size+1=M.heap.size:=by rw[c7];simp
     have j8:wO.heap.size+1+1=W2.heap.size:=by rw[d7,c7];simp
     have⟨r5,n5⟩:=aH j7 j8;clear c7 d7 g1 j4 g0 d8 g2 g3 j7 j8 j3 f9;go_wp2_with (at_builtin;rw[HE.o];refine wpList_append_lies _ rfl (.tmp 85) (.tmp 101) 23 rfl V.heap.size 79 g4 _ 3 48 underlying23 g5 g6 g7 g8 rfl (by decide) (.slice va d6 vc) d6 ys rfl j6.o ⟨W2.heap.size,0,none⟩ 1 1 [.string U,.int .i64 1,.slice (some ⟨M.heap.size,0,none⟩) 1 1] (by rw[<-n5.o];rfl) rfl n3.o (mO _ _ _ _ _) (by omega) (by unfold maxLen;omega) (by omega) n1.o _ rfl ?_;intro g9 l9 w9 j9 I _ _;have Z:=HO.o.fe d9.o (by rw[<-HN.o];exact I);have y9:=Z.1;have z9:=Z.2.lt;have n6:=(Z.2.row.at (i:=0) (by omega)).2;have n7:=Kz (HO.o.push (d:=⟨U,1,[bR ⟨#[]⟩]⟩) d9.o n4.o HD.o (by rw[<-HN.o];exact j9) (by rw[<-HN.o];exact I));have n8:Hid (aC w9 (w.heap.size+1) 25 1):=((c4.o.kept d9.o).eQ (ay.aI j6.o I) (by decide)).1;clear Z j9 I)
     go_roundg (gk-1)
     case rel=>
      have hP:=n7.o;have k2:(F++ [⟨U,1,[bR ⟨#[]⟩]⟩]:List Qq).length=d6+1:=by rw[KS,HN.o];rfl
      exact⟨a5+1,_,F++ [⟨U,1,[bR ⟨#[]⟩]⟩],_,by go_num,by omega,by omega,by omega,by omega,n8.o.block (Below.heap_setCell _ _ _ _ (by simpa using i1)),hP⟩
     case measure=>omega
    ·go_wp2
     go_meet
     exact⟨va,vc,F,p+3,by omega,by omega,by omega,c4.o,HO.o.fin.mono (by omega)⟩
  by_cases h3:s=3
  ·have d2:((s:Int) == 0)=false:=by simpa using X
   have e1:((s:Int) == 1)=false:=by rw[beq_eq_false_iff_ne];omega
   have e2:((s:Int) == 2)=false:=by rw[beq_eq_false_iff_ne];omega
   have n9:((s:Int) == 3)=true:=by simp[h3]
   clear X h1 h2 h3;obtain⟨J,S,f,A⟩:=j.o.web.cells W;obtain⟨d,r⟩:=aj (L.getD k Qq.zero);have T:=j.o.tiny d (by rw[r];simp[List.getD,W]);rw[<-r] at f A;have n0:=f 0 _ rfl;have G:=f 1 _ rfl;have n2:=f 2 _ rfl;rw[La] at n0;have⟨c5,b4⟩:=aH A T;clear f A r T;obtain⟨g4,g5,g6,g7,g8⟩:=aN Tryz.lX;go_upto_region 20 with fail
   refine Qx.region (by kernel_rfl) (fun (v:LP)=>v.cell? ⟨w1.heap.size,0,none⟩=some (.slice (some ⟨g,0,none⟩) L.length q)) 10 y4 (fun h=>?_);refine au 0 h ?_;refine af 4 h ?_;refine af 5 h ?_;refine ah 6 (fun K b=>?_);go_simp
   refine ae b (fun _=>y4) ?_;clear b K;refine ah 7 (fun K b=>?_);go_simp
   have KW:K_ i (i.drew.alloc (.cells #[.string d.name,.int .i64 d.cost,.slice J d.steps.length S] 79)):=(aL i).alloc _;refine ae b (fun _=>(KW.cell d1).trans y4) ?_;clear b K h;refine ah 8 (fun K b=>?_);have t:=Kz (j.o.kept KW);refine step_append_lies _ rfl (.tmp 107) (.tmp 113) 23 rfl V.heap.size 79 g4 _ 3 48 underlying23 g5 g6 g7 g8 rfl (by decide) (.slice (some ⟨g,0,none⟩) L.length q) L.length xs (by simp[Act.eval]) t.o.own ⟨i.heap.size,0,none⟩ 1 1 [.string d.name,.int .i64 d.cost,.slice J d.steps.length S] (by simp[Act.eval]) rfl (mG _ _ _ _) (mO _ _ _ _ _) (by omega) (by unfold maxLen;omega) (by omega) t.o.kb.size _ rfl ?_;intro o0 o1 w6 k3 e0 o2 r6;have Z:=j.o.fe KW e0;have y6:=Z.1;have r7:=Z.2.lt;have n6:=(Z.2.row.at (i:=0) (by omega)).2;obtain⟨vo,r8⟩:=(Z.2.row.at (i:=0) (by omega)).1;have o3:=Kz (j.o.push (d:=d) KW (c5.o.same (u:=25) (.aF KW) (by decide) (by decide) (by decide)) b4.o k3 e0);have c6:=ay.aI t.o.own e0;have b7:Hid (aC w6 (w.heap.size+1) 25 1):=((a1.o.kept KW).eQ c6 (by decide)).1;clear Z k3 e0 o2 c6 KW;refine ae b (fun _=>y6) ?_;clear b K;have h:=y6;refine af 9 h ?_;refine ah 10 (fun K b=>?_);go_simp
   refine ae b (fun a2=>Lv rfl a2) ?_;clear b K;refine aB ?_;go_wp2
   go_meet
   have hF:=o3.o.fin.mono (n:=mN+10) (by omega);have k2:(L++ [d]).length=L.length+1:=by simp
   exact⟨some ⟨o0,0,none⟩,o1,L++ [d],p+2,by omega,by omega,by omega,b7.o.block (Below.heap_setCell _ _ _ _ (by simpa using i1)),by rw[k2];exact hF⟩
  have d2:((s:Int) == 0)=false:=by simpa using X
  have e1:((s:Int) == 1)=false:=by rw[beq_eq_false_iff_ne];omega
  have e2:((s:Int) == 2)=false:=by rw[beq_eq_false_iff_ne];omega
  have n9:((s:Int) == 3)=false:=by rw[beq_eq_false_iff_ne];omega
  clear X h1 h2 h3;obtain⟨J,S,f,A⟩:=j.o.web.cells a9;obtain⟨d,r⟩:=aj (L.getD 0 Qq.zero);have T:=j.o.tiny d (by rw[r];simp[List.getD,a9]);rw[<-r,Nat.zero_mul] at f;rw[<-r] at A;have n0:=f 0 _ rfl;have G:=f 1 _ rfl;have n2:=f 2 _ rfl;simp only[KH] at n0 G n2;have⟨c5,b4⟩:=aH A T;have r9:(0:Int)<(L.length:Int):=by omega
  clear f A r T;go_upto_region 7 with fail
  obtain⟨B,c8⟩:=aj (i.alloc (.cells #[.string d.name,.int .i64 d.cost,.slice J d.steps.length S] 79));have K5:K_ i B:=by rw[c8];exact ag _ _
  have hx:=Xz i #[.string d.name,.int .i64 d.cost,.slice J d.steps.length S] 79;rw[<-c8] at hx;have x0:=hx 0 _ rfl;have x1:=hx 1 _ rfl;have x2:=hx 2 _ rfl;simp only[KH] at x0 x1 x2;have xz:i.heap.size<B.heap.size:=by rw[c8];simp
  rw[<-c8];have t:=Kz (j.o.kept K5);have a4:=Kz (a1.o.kept K5);have e3:=Kz (b0.o.kept K5);have o4:=Kz (c5.o.same (u:=25) (.aF K5) (by decide) (by decide) (by decide));have o5:g≠i.heap.size:=by omega
  clear c8 K5 hx y4 d1 f2 j a1 b0 c5 n0 G n2;have y5:=t.o.c0;have s0:=t.o.row.lt;have s1:=e3.o.lt;obtain⟨c1,c2,f,A⟩:=t.o.web.cells W;obtain⟨n,r⟩:=aj (L.getD k Qq.zero);have T:=t.o.tiny n (by rw[r];simp[List.getD,W]);rw[<-r] at f A;have n0:=f 0 _ rfl;have G:=f 1 _ rfl;have n2:=f 2 _ rfl;rw[La] at n0;have⟨o6,o7⟩:=aH A T;clear f A r T;have KD:K_ B B.drew:=aL B;have e4:=Kz (((t.o.kept KD).fin.mono (n:=mN+10) (by omega)).setNode (k:=0) (d:=n) c3 a9 (e3.o.kept KD) (by omega) (o6.o.same (u:=25) (.aF KD) (by decide) (by decide) (by decide)) (o7.o.mono (by omega)));have e5:=(e3.o.kept KD).setCells [.string n.name,.int .i64 n.cost,.slice c1 n.steps.length c2] (0*3);have c9:=Kz e5.1;have b9:=Kz ((a4.o.kept KD).eQ e5.2 (by decide)).1;have k4:=Kz ((o4.o.same (u:=25) (.aF KD) (by decide) (by decide) (by decide)).same e5.2 (by decide) (by decide) (by decide));have e6:∀o v,B.cell? ⟨i.heap.size,o,none⟩=some v->(B.drew.setCells g (0*3) [.string n.name,.int .i64 n.cost,.slice c1 n.steps.length c2]).cell? ⟨i.heap.size,o,none⟩=some v:=fun o v hv=>(Ki (xU (w:=B.drew) (q:=o) hv) _ _ _ (.inl (fun e=>o5 (by simpa using e.symm)))) 0 _ rfl
  have o8:=e6 _ _ x0;have o9:=e6 _ _ x1;have p0:=e6 _ _ x2;have p1:i.heap.size<(B.drew.setCells g (0*3) [.string n.name,.int .i64 n.cost,.slice c1 n.steps.length c2]).heap.size:=by rw[size_setCells];exact xz
  clear e5 e6 KD;refine Qx.region (by kernel_rfl) (fun (v:LP)=>v.cell? ⟨w1.heap.size,0,none⟩=some (.slice (some ⟨g,0,none⟩) L.length q)) 8 y5 (fun h=>?_);refine au 0 h ?_;refine af 4 h ?_;refine af 5 h ?_;refine ah 6 (fun K b=>?_);go_simp
  refine ae b (fun _=>y5) ?_;clear b K;refine af 7 h ?_;refine ak 8 (fun K b=>?_);refine wp_store_mid 79 _ _ rfl g (0*3) #[.string n.name,.int .i64 n.cost,.slice c1 n.steps.length c2] (by rfl) (by rfl) ((e3.o.kept (aL B)).row.there (by simp;omega)) (by kernel_rfl) (Dg ..) ?_;refine ae b (fun a2=>Lv rfl a2) ?_;clear b K;refine aB ?_;obtain⟨R,h0⟩:=aj (B.drew.setCells g (0*3) [.string n.name,.int .i64 n.cost,.slice c1 n.steps.length c2]);rw[<-h0] at e4 c9 b9 k4 o8 o9 p0 p1;have k5:B.drew.setCells g (0*3) (#[.string n.name,.int .i64 n.cost,.slice c1 n.steps.length c2]:Array LQ).toList=R:=h0.symm;rw[k5];clear k5;clear h0;have s2:=e4.o.c0;have s3:=e4.o.row.lt;have s4:=c9.o.lt;have p2:k<(L.set 0 n).length:=by rw[Lp];exact W
  have p3:=Kz (e4.o.setNode (k:=k) (d:=d) c3 p2 c9.o b6 k4.o (b4.o.mono (by omega)));have b3:=Kz (b9.o.eQ (c9.o.setCells [.string d.name,.int .i64 d.cost,.slice J d.steps.length S] (k*3)).2 (by decide)).1;have p4:Hid (R.there g (k*3) 3):=c9.o.row.there (by omega);have k6:(prog.info? 79).map (·.size)=some 3:=by kernel_rfl
  have p5:=Kz k6;clear k6;go_wp2_with (refine wpList_store_mid rfl 79 _ _ rfl g (k*3) #[.string d.name,.int .i64 d.cost,.slice J d.steps.length S] rfl rfl p4.o p5.o (Dg ..) ?_)
  go_meet
  exact⟨some ⟨g,0,none⟩,q,(L.set 0 n).set k d,p+2,by omega,by omega,by rw[Lp,Lp];omega,b3.o,by rw[Lp,Lp];exact p3.o⟩
variable {w' : LP}
theorem SZ.qR{u:TypeId}(h:SZ w g)(k:ay u w w')(b:29≠u):SZ w' g:=by
 obtain⟨c,d⟩:=h.1.eQ k b;exact⟨c,fun o s e=>h.2 o s (by rw[<-d o];exact e)⟩
theorem fA.blk{t:TypeId}{l:List LK}(h:fA w t a l)(k:∀g:Addr,a=some g->w'.heap[g.block]? =w.heap[g.block]?):fA w' t a l:=by
 rcases h with h|⟨b,e,f,c,i,j⟩
 ·exact .inl h
 ·have d:w'.heap[b]? =w.heap[b]? :=k _ c;exact .inr ⟨b,e,f,c,d.trans i,fun m n=>by rw[Ke (w:=w) d];exact j m n⟩
variable {base : Nat}
theorem yA{size:Nat}{e:TypeId}(h:w.ownsRow base e size v n xs)(k:∀g,v.ownBlock=some g->w'.heap[g]? =w.heap[g]?):w'.ownsRow base e size v n xs:=by
 refine⟨h.1, ?_⟩;rcases h.2 with a|⟨g,b,c,rfl,d,f,rest⟩
 ·exact .inl a
 ·exact .inr ⟨g,b,c,rfl,d,(k g rfl).trans f,rest⟩
theorem nY{size:Nat}{e:TypeId}(h:w.ownsRow base e size (.slice a n c) n xs)(g:Addr)(b:a=some g):(Value.slice a n c).ownBlock=some g.block:=by
 subst b;rfl
variable {P : Nat -> Prop}
theorem bL.grown{l:List Qz}{f:Option Nat}(h:bL w P xs l)(g:w.grownBy w' f)(m:∀b,P b->some b≠f):bL w' P xs l:=by
 refine⟨h.1,fun n p=>?_⟩;obtain⟨c,q,e,r,s,i,d⟩:=h.2 n p;have j:∀a:Addr,c=some a->w'.heap[a.block]? =w.heap[a.block]? :=fun a e=>g.block _ (d.lt a.block (nY d a e)).2 (m _ (i a e))
 exact⟨c,q,e,r.blk j,s,i,yA d (fun t k=>by
  cases c with
  | none=>cases k
  | some a=>
   have v:a.block=t:=by simpa[Value.ownBlock] using k
   rw[<-v];exact j a rfl)⟩
theorem bL.erase{l:List Qz}(h:bL w P xs l)(e:k<l.length):bL w P (xs.take (k*7)++xs.drop ((k+1)*7)) (l.eraseIdx k):=by
 have j:=h.1;have c:(xs.take (k*7)).length=k*7:=by rw[Kt];omega
 have f:(l.eraseIdx k).length=l.length-1:=List.length_eraseIdx_of_lt e;refine⟨by rw[KS,c,List.length_drop,f];omega,fun i m=>?_⟩;by_cases d:i<k
 ·have a:(l.eraseIdx k).getD i Qz.zero=l.getD i Qz.zero:=by simp[List.getD,List.getElem?_eraseIdx,d]
  have b:((xs.take (k*7)++xs.drop ((k+1)*7)).drop (i*7)).take 7= (xs.drop (i*7)).take 7:=by
   rw[List.drop_append_of_le_length (by omega),List.take_append_of_le_length (by rw[List.length_drop];omega),List.drop_take,List.take_take]
   congr 1
   omega
  rw[a,b];exact h.2 i (by omega)
 ·have a:(l.eraseIdx k).getD i Qz.zero=l.getD (i+1) Qz.zero:=by simp[List.getD,List.getElem?_eraseIdx,d]
  have b:((xs.take (k*7)++xs.drop ((k+1)*7)).drop (i*7)).take 7= (xs.drop ((i+1)*7)).take 7:=by
   rw[List.drop_append,List.drop_of_length_le (by omega),List.nil_append,c,List.drop_drop]
   congr 2
   omega
  rw[a,b];exact h.2 (i+1) (by omega)
theorem bL.one{l:List Qz}(h:bL w P xs l):∀u∈xs,u.oneCell'=true:=fun u b=>by
 obtain⟨i,f,rfl⟩:=Kb b;have j:=h.1;obtain⟨c,d,e,_⟩:=h.2 (i / 7) (by omega);have a:xs[i]∈(xs.drop (i / 7*7)).take 7:=by
  have:((xs.drop (i / 7*7)).take 7)[i % 7]? =some xs[i]:=by
   rw[List.getElem?_take,Lt (by omega),List.getElem?_drop,JW];refine⟨by omega, ?_⟩
   congr 1
   omega
  exact Kg this
 rw[e] at a;exact Qz.one _ c d _ a
structure SpS (N:Nat) (w wr:LP) (rb sb:Nat) (a:LM) (cap:Nat) (bs:List UInt8) (p:Nat) (ra:LM) (rc:Nat) (d:LM) (dc:Nat) (Kk:List LK) (sl:List Qz) (xs:List LQ) (z:Nat):Prop where
 rd:Rd wr rb a cap bs p
 rd0:∃p0,Rd w rb a cap bs p0
 kb:Xk rb (rb+1) w wr
 res:SZ wr (w.heap.size+1)
 row:aC wr sb 29 2
 c0:wr.cell? ⟨sb,0,none⟩=some (.slice ra Kk.length rc)
 c1:wr.cell? ⟨sb,1,none⟩=some (.slice d sl.length dc)
 sbl:w.heap.size+2<=sb
 zI:wr.ownsRow (w.heap.size+2) 9 1 (.slice ra Kk.length rc) Kk.length (Kk.map Value.string)
 kI:wr.ownsRow (w.heap.size+2) 40 7 (.slice d sl.length dc) sl.length xs
 pack:bL wr (fun b=>z<=b) xs sl
 ap:Cu xs
 zl:w.heap.size+2<=z
 r0:∀g,(Value.slice ra Kk.length rc).ownBlock=some g->g<z
 rn:Kk.length<=10+N
 rz:∀s∈Kk,s.size<=300
 sn:sl.length<=60+N
 sb':∀r∈sl,nG N r
structure SpK (N:Nat) (w wr:LP) (rb sb:Nat) (a:LM) (cap:Nat) (bs:List UInt8) (p:Nat) (ra:LM) (rc:Nat) (d:LM) (dc:Nat) (Kk:List LK) (sl:List Qz) (xs:List LQ) (k:Nat):Prop where
 rd:Rd wr rb a cap bs p
 rd0:∃p0,Rd w rb a cap bs p0
 kb:Xk rb (rb+1) w wr
 res:SZ wr (w.heap.size+1)
 row:aC wr sb 29 2
 c0:wr.cell? ⟨sb,0,none⟩=some (.slice ra Kk.length rc)
 c1:wr.cell? ⟨sb,1,none⟩=some (.slice d sl.length dc)
 sbl:w.heap.size+2<=sb
 rts:fA wr 9 ra Kk/\Kk.length<=rc
 kI:wr.ownsRow (w.heap.size+2) 40 7 (.slice d sl.length dc) sl.length xs
 pack:xs.length=sl.length*7/\∀i,i<sl.length->i≠k->∃xa xc,(xs.drop (i*7)).take 7= (sl.getD i Qz.zero).cells xa xc/\fA wr 9 xa (sl.getD i Qz.zero).texts/\(xa=none->xc=0)
 rn:Kk.length<=10+N
 rz:∀s∈Kk,s.size<=300
 sn:sl.length<=60+N
 sb':∀r∈sl,nG N r
structure SpB (N:Nat) (w wr:LP) (rb sb:Nat) (a:LM) (cap:Nat) (bs:List UInt8) (p:Nat) (ra:LM) (rc:Nat) (Kk:List LK):Prop where
 rd:Rd wr rb a cap bs p
 rd0:∃p0,Rd w rb a cap bs p0
 kb:Xk rb (rb+1) w wr
 res:SZ wr (w.heap.size+1)
 row:aC wr sb 29 2
 c0:wr.cell? ⟨sb,0,none⟩=some (.slice ra Kk.length rc)
 sbl:w.heap.size+2<=sb
 rts:fA wr 9 ra Kk/\Kk.length<=rc
 rn:Kk.length<=10+N
 rz:∀s∈Kk,s.size<=300
structure BN (N:Nat) (w u:LP) (rb sb:Nat) (a:LM) (cap:Nat) (bs:List UInt8) (p:Nat) (ra:LM) (rc:Nat) (d:LM) (dc:Nat) (Kk:List LK) (sl:List Qz):Prop where
 rd:Rd u rb a cap bs p
 rd0:∃p0,Rd w rb a cap bs p0
 kb:Xk rb (rb+1) w u
 res:SZ u (w.heap.size+1)
 row:aC u sb 29 2
 c0:u.cell? ⟨sb,0,none⟩=some (.slice ra Kk.length rc)
 c1:u.cell? ⟨sb,1,none⟩=some (.slice d sl.length dc)
 st:StU N u ra rc d Kk sl
def Fh(N:Nat)(w w':LP)(rb:Nat)(a:LM)(cap:Nat)(bs:List UInt8)(p t:Nat)(e:Ending):Prop:=
 ∃(ra:LM) (rc:Nat) (d:LM) (dc:Nat) (Kk:List LK) (sl:List Qz) (p':Nat),e= .returned (.agg #[.slice ra Kk.length rc,.slice d sl.length dc])/\p<=p'/\p'<=p+t/\StU N w' ra rc d Kk sl/\Rd w' rb a cap bs p'/\Xk rb (rb+1) w w'
variable {dc' xb xc : Nat} {d' xa : LM} {r : Qz} {u : LP}
section
variable {N : Nat} {w wr w' : LP} {rb sb : Nat} {a : LM} {cap : Nat} {bs : List UInt8} {p p' : Nat} {ra : LM} {rc : Nat} {d : LM} {dc : Nat} {Kk : List LK} {sl : List Qz} {xs : List LQ} {z k : Nat}
theorem BN.ends{p0 t:Nat}(h:BN N w wr rb sb a cap bs p ra rc d dc Kk sl)(e:p0<=p)(h2:p<=p0+t):Fh N w ((wr.setCell ⟨w.heap.size+1,0,none⟩ (.slice ra Kk.length rc)).setCell ⟨w.heap.size+1,1,none⟩ (.slice d sl.length dc)) rb a cap bs p0 t (.returned (.agg #[.slice ra Kk.length rc,.slice d sl.length dc])):=by
 obtain⟨k,f⟩:=h.rd0;have b:Xk (w.heap.size+1) (w.heap.size+1+1) wr (wr.setCells (w.heap.size+1) 0 [.slice ra Kk.length rc,.slice d sl.length dc]):=Xk.sets (JP _) (Ky _) _ 0 (Xk.refl _ _ _);have c:Below w.heap.size wr (wr.setCells (w.heap.size+1) 0 [.slice ra Kk.length rc,.slice d sl.length dc]):=⟨b.os,b.tape,b.output,b.size,fun i j=>b.block i (JQ j h.kb.size) (by omega)⟩;exact⟨ra,rc,d,dc,Kk,sl,p,rfl,e,h2,h.st.noS h.res.2 b,h.rd.below f c h.kb.size,h.kb.below c⟩
theorem SpS.drawn(h:SpS N w wr rb sb a cap bs p ra rc d dc Kk sl xs z)(f:Rd w' rb a cap bs p')(k:Xk rb (rb+1) wr w'):SpS N w w' rb sb a cap bs p' ra rc d dc Kk sl xs z:=by
 have c:=k.sameKind h.rd;have e:=h.row.eQ c (by decide);exact⟨f,h.rd0,h.kb.trans k,h.res.qR c (by decide),e.1,(e.2 0).trans h.c0,(e.2 1).trans h.c1,h.sbl,aJ h.zI c (by decide),aJ h.kI c (by decide),h.pack.same c (by decide),h.ap,h.zl,h.r0,h.rn,h.rz,h.sn,h.sb'⟩
theorem SpS.kept(h:SpS N w wr rb sb a cap bs p ra rc d dc Kk sl xs z)(k:K_ wr w'):SpS N w w' rb sb a cap bs p ra rc d dc Kk sl xs z:=h.drawn (h.rd.kept k) (.aF k)
theorem SpS.but(h:SpS N w wr rb sb a cap bs p ra rc d dc Kk sl xs z)(j:aC wr xb 40 n)(k:Xk xb (xb+1) wr w')(s:w.heap.size+2<=xb)(l:∀g,(Value.slice d sl.length dc).ownBlock=some g->g<xb):SpS N w w' rb sb a cap bs p ra rc d dc Kk sl xs z:=by
 have b:=ky k j;obtain⟨m,e⟩:=h.rd0;have c:=h.row.eQ b (by decide);have f:Below w.heap.size wr w':=⟨k.os,k.tape,k.output,k.size,fun q r=>k.block q (JQ r h.kb.size) (by omega)⟩;exact⟨h.rd.below e f h.kb.size,⟨m,e⟩,h.kb.below f,h.res.qR b (by decide),c.1,(c.2 0).trans h.c0,(c.2 1).trans h.c1,h.sbl,aJ h.zI b (by decide),yA h.kI (fun g i=>k.block g (h.kI.lt g i).2 (by have:=l g i;omega)),h.pack.same b (by decide),h.ap,h.zl,h.r0,h.rn,h.rz,h.sn,h.sb'⟩
theorem SpS.weak(h:SpS N w wr rb sb a cap bs p ra rc d dc Kk sl xs z)(k:Nat):SpK N w wr rb sb a cap bs p ra rc d dc Kk sl xs k:=by
 obtain⟨r,s,b,c,e⟩:=bg h.zI;simp only[KX,true_and] at b;obtain⟨rfl,rfl⟩:=b;exact⟨h.rd,h.rd0,h.kb,h.res,h.row,h.c0,h.c1,h.sbl,⟨e,c⟩,h.kI,⟨h.pack.1,fun i f _=>by obtain⟨j,l,m,n,q,_⟩:=h.pack.2 i f;exact⟨j,l,m,n,q⟩⟩,h.rn,h.rz,h.sn,h.sb'⟩
theorem SpS.grown{I:List LQ}(h:SpS N w wr rb sb a cap bs p ra rc d dc Kk sl xs z)(J:k<sl.length)(K:(xs.drop (k*7)).take 7= (sl.getD k Qz.zero).cells xa xc)(L:wr.ownsRow 0 9 1 (.slice xa n xc) n I)(M:∀g:Addr,xa=some g->z<=g.block)(b:wr.grownBy w' (Value.slice xa n xc).ownBlock):SpK N w w' rb sb a cap bs p ra rc d dc Kk sl xs k:=by
 have l:=ay.aI L b;obtain⟨O,t⟩:=h.rd0;have q:=h.row.eQ l (by decide);have v:∀g,(Value.slice xa n xc).ownBlock=some g->z<=g:=fun g e=>by
  cases xa with
  | none=>cases e
  | some ad=>
   have c:ad.block=g:=by simpa[Value.ownBlock] using e
   rw[<-c];exact M ad rfl
 have U:=h.zl;have x:Below w.heap.size wr w':=⟨b.os,b.tape,b.output,b.size,fun i f=>b.block i (JQ f h.kb.size) (fun e=>by have:=v i e.symm;omega)⟩;have y:=h.weak k;refine⟨h.rd.below t x h.kb.size,⟨O,t⟩,h.kb.below x,h.res.qR l (by decide),q.1,(q.2 0).trans h.c0,(q.2 1).trans h.c1,h.sbl,⟨y.rts.1.blk (fun g e=>?_),y.rts.2⟩,aJ h.kI l (by decide),⟨h.pack.1,fun i f P=>?_⟩,h.rn,h.rz,h.sn,h.sb'⟩
 ·have A:=nY h.zI g e;exact b.block _ (h.zI.lt _ A).2 (fun c=>by have B:=v _ c.symm;have C:=h.r0 _ A;omega)
 ·obtain⟨Q,R,D,B,C,V,E⟩:=h.pack.2 i f;refine⟨Q,R,D,B.blk (fun g e=>b.block _ (E.lt _ (nY E g e)).2 (fun c=>?_)),C⟩;cases xa with
  | none=>cases c
  | some ad=>
   have W:ad.block=g.block:=by simpa[Value.ownBlock] using c.symm
   subst e;have F:∀j (r:LM) (m e:Nat),j<sl.length->(xs.drop (j*7)).take 7= (sl.getD j Qz.zero).cells r e->xs[j*7+6]? =some (.slice r (sl.getD j Qz.zero).texts.length e):=fun j r _ e X S=>by
    have:=congrArg (fun T:List LQ=>T[6]?) S;simpa[List.getElem?_take,List.getElem?_drop,Qz.cells] using this
   have G:=F i _ 0 _ f D;have H:=F k _ 0 _ J K;rcases Nat.lt_or_gt_of_ne P with s|s
   ·have:=h.ap i k _ _ _ _ _ _ s G H;omega
   ·have:=h.ap k i _ _ _ _ _ _ s H G;omega
theorem SpK.but(h:SpK N w wr rb sb a cap bs p ra rc d dc Kk sl xs k)(q:aC wr xb 40 n)(b:Xk xb (xb+1) wr w')(C:w.heap.size+2<=xb)(r:∀g,(Value.slice d sl.length dc).ownBlock=some g->g<xb):SpK N w w' rb sb a cap bs p ra rc d dc Kk sl xs k:=by
 have c:=ky b q;obtain⟨s,j⟩:=h.rd0;have e:=h.row.eQ c (by decide);have l:Below w.heap.size wr w':=⟨b.os,b.tape,b.output,b.size,fun i f=>b.block i (JQ f h.kb.size) (by omega)⟩;exact⟨h.rd.below j l h.kb.size,⟨s,j⟩,h.kb.below l,h.res.qR c (by decide),e.1,(e.2 0).trans h.c0,(e.2 1).trans h.c1,h.sbl,⟨h.rts.1.same c (by decide),h.rts.2⟩,yA h.kI (fun g m=>b.block g (h.kI.lt g m).2 (by have:=r g m;omega)),⟨h.pack.1,fun i f t=>by obtain⟨v,x,y,A,B⟩:=h.pack.2 i f t;exact⟨v,x,y,A.same c (by decide),B⟩⟩,h.rn,h.rz,h.sn,h.sb'⟩
theorem SpK.put(h:SpK N w wr rb sb a cap bs p ra rc d dc Kk sl xs k)(Q:k<sl.length)(y:d=some ⟨g,0,none⟩)(A:nG (N+1) r)(B:fA wr 9 xa r.texts)(f:xa=none->xc=0):
  BN (N+1) w (wr.setCells g (k*7) (r.cells xa xc)) rb sb a cap bs p ra rc d dc Kk (sl.set k r)/\wr.there g (k*7) 7:=by
 subst y;rcases h.kI.2 with⟨e,_⟩|⟨R,S,C,e,T,D,U,V,E,W⟩
 ·simp at e
 simp only[KX,KT,LG,and_true,true_and] at e;obtain⟨rfl,rfl⟩:=e;have q:aC wr g 40 (dc*7):=⟨C,D,E⟩;have s:wr.there g (k*7) 7:=q.row.there (by omega);obtain⟨t,b⟩:=q.setCells (r.cells xa xc) (k*7);have j:=h.row.eQ b (by decide);obtain⟨F,v⟩:=h.rd0;have x:Below w.heap.size wr (wr.setCells g (k*7) (r.cells xa xc)):=Below.setCells' (by omega) (r.cells xa xc) (k*7) (Below.refl _ _);have G:=JU wr g (k*7) (r.cells xa xc) s;have H:=h.rts.1;refine⟨⟨h.rd.below v x h.kb.size,⟨F,v⟩,h.kb.below x,h.res.qR b (by decide),j.1,(j.2 0).trans h.c0,by rw[Lp];exact (j.2 1).trans h.c1,⟨by have:=h.rn;omega,h.rts.2,h.rz,(fun e=>by omega),(H.same b (by decide)).strs,by rw[Lp];have:=h.sn;omega,fun I f=>?_,fun i l=>?_⟩⟩,s⟩
 ·rcases List.mem_or_eq_of_mem_set f with m|rfl
  ·exact (h.sb' I m).mono (Nat.le_succ _)
  ·exact A
 ·rw[Lp] at l;by_cases e:i=k
  ·subst e;have n:(sl.set i r).getD i Qz.zero=r:=by simp[List.getD,l]
   rw[n];exact⟨g,0,xa,xc,rfl,t.lt,by rw[KH];exact G,(B.same b (by decide)).strs,f⟩
  ·have n:(sl.set k r).getD i Qz.zero=sl.getD i Qz.zero:=by simp[List.getD,Ne.symm e]
   rw[n];obtain⟨J,K,L,m,M⟩:=h.pack.2 i l e;refine⟨g,0,J,K,rfl,t.lt, ?_,(m.same b (by decide)).strs,M⟩;refine Ki (fun O u c=>?_) _ _ _ (by right;simp[Qz.cells];omega);rw[<-L] at c;have P:O<7:=by have:=(JW.1 c).1;rw[Kt] at this;omega
   rw[List.getElem?_take,Lt P,List.getElem?_drop] at c;have:=h.kI.cells (g:=g) rfl _ _ c;rw[KZ,KH] at this;rw[KH];exact this
theorem SpB.DD{sl':List Qz}{e:List LQ}(h:SpB N w u rb sb a cap bs p ra rc Kk)(k:u.ownsRow base 40 7 (.slice d' sl'.length dc') sl'.length e)(l:bL u P e sl')(v:sl'.length<=61+N)(c:∀r∈sl',nG (N+1) r):
  BN (N+1) w (u.setCell ⟨sb,1,none⟩ (.slice d' sl'.length dc')) rb sb a cap bs p ra rc d' dc' Kk sl':=by
 have d:=h.row.same (o:=1) (.slice d' sl'.length dc');obtain⟨m,f⟩:=h.rd0;have x:=h.sbl;have b:Xk sb (sb+1) u (u.setCell ⟨sb,1,none⟩ (.slice d' sl'.length dc')):=(Xk.refl _ _ _).setCell (p:=⟨sb,1,none⟩) (JP _) (Ky _) _;have i:Below w.heap.size u (u.setCell ⟨sb,1,none⟩ (.slice d' sl'.length dc')):=⟨b.os,b.tape,b.output,b.size,fun n q=>b.block n (JQ q h.kb.size) (by omega)⟩;have s:SZ (u.setCell ⟨sb,1,none⟩ (.slice d' sl'.length dc')) (w.heap.size+1):=by
  have c:=b.block _ h.res.1.lt (by omega);exact⟨h.res.1.block c,h.res.2.block c⟩
 obtain⟨_,y,A,j,t⟩:=aW.runs (aJ k d (by decide)) (l.same d (by decide)).plain (K_.refl _);simp only[KX,true_and] at j;obtain⟨rfl,rfl⟩:=j;exact⟨h.rd.below f i h.kb.size,⟨m,f⟩,h.kb.below i,s,h.row.set _,by rw[Xx (by omega)];exact h.c0,bG h.row.row (by omega) _,⟨by have:=h.rn;omega,h.rts.2,h.rz,(fun B=>by omega),(h.rts.1.same d (by decide)).strs,by omega,c,t.runs⟩⟩
theorem SpS.DI{V:LP}{c:LM}{e:Nat}{s:LK}(h:SpS N w V rb sb a cap bs p ra rc d dc Kk sl xs z)(m:V.grownBy u (Value.slice ra Kk.length rc).ownBlock)(G:u.ownsRow (w.heap.size+2) 9 1 (.slice c (Kk.length+1) e) (Kk.length+1) (Kk.map Value.string++ [.string s]))(H:s.size<=300):
  aC u sb 29 2/\u.cell? ⟨sb,0,none⟩=some (.slice ra Kk.length rc)/\BN (N+1) w (u.setCell ⟨sb,0,none⟩ (.slice c (Kk.length+1) e)) rb sb a cap bs p c e d dc (Kk++ [s]) sl:=by
 have q:=ay.aI h.zI m;have f:=h.row.eQ q (by decide);have r:=f.1.same (o:=0) (.slice c (Kk.length+1) e);obtain⟨I,A⟩:=h.rd0;have T:=h.sbl;have i:Xk sb (sb+1) u (u.setCell ⟨sb,0,none⟩ (.slice c (Kk.length+1) e)):=(Xk.refl _ _ _).setCell (p:=⟨sb,0,none⟩) (JP _) (Ky _) _;have j:Below w.heap.size V u:=(Below.refl _ _).grown m h.kb.size (fun g J=>by have:=(h.zI.lt g J).1;omega);have B:Below w.heap.size V (u.setCell ⟨sb,0,none⟩ (.slice c (Kk.length+1) e)):=⟨i.os.trans j.os,i.tape.trans j.tape,i.output.trans j.output,JS j.size i.size,fun C D=>(i.block C (JQ (JQ D h.kb.size) j.size) (by omega)).trans (j.block C D)⟩;have K:SZ (u.setCell ⟨sb,0,none⟩ (.slice c (Kk.length+1) e)) (w.heap.size+1):=by
  have t:=h.res.qR q (by decide);have v:=i.block _ t.1.lt (by omega);exact⟨t.1.block v,t.2.block v⟩
 have x:(Kk++ [s]).length=Kk.length+1:=by simp
 have L:=aJ G r (by decide);obtain⟨U,W,y,M,O⟩:=bg (l:=Kk++ [s]) (n:=Kk.length+1) (by rw[LA];exact L);rw[x] at y;simp only[KX,true_and] at y;obtain⟨rfl,rfl⟩:=y;obtain⟨_,X,Y,E,P⟩:=aW.runs (aJ (aJ h.kI q (by decide)) r (by decide)) ((h.pack.grown m (fun b v F=>by have:=h.r0 b F.symm;omega)).same r (by decide)).plain (K_.refl _);simp only[KX,true_and] at E;obtain⟨rfl,rfl⟩:=E;refine⟨f.1,(f.2 0).trans h.c0,h.rd.below A B h.kb.size,⟨I,A⟩,h.kb.below B,K,f.1.set _,by rw[x];exact bG f.1.row (by omega) _,by rw[Xx (by omega)];exact (f.2 1).trans h.c1,⟨by rw[x];have:=h.rn;omega,M,fun Q k=>?_,(fun F=>by omega),O.strs,by have:=h.sn;omega,fun R S=>(h.sb' R S).mono (Nat.le_succ _),P.runs⟩⟩
 ·rcases JZ.1 k with k|k
  ·exact h.rz Q k
  ·rw[JY] at k;rw[k];exact H
structure SpX (N:Nat) (w wr:LP) (rb sb xb:Nat) (a:LM) (cap:Nat) (bs:List UInt8) (p:Nat) (ra:LM) (rc:Nat) (d:LM) (dc:Nat) (Kk:List LK) (sl:List Qz) (xs:List LQ) (z:Nat) (r:Qz) (xa:LM) (xc:Nat):Prop where
 st:SpS N w wr rb sb a cap bs p ra rc d dc Kk sl xs z
 box:iG wr xb r xa xc
 tx:wr.ownsRow 0 9 1 (.slice xa r.texts.length xc) r.texts.length (r.texts.map Value.string)
 xl:w.heap.size+2<=xb
 ne:∀g,(Value.slice d sl.length dc).ownBlock=some g->g<xb
theorem iG.qR{u:TypeId}{w w':LP}{b:Nat}(h:iG w b r xa xc)(k:ay u w w')(c:40≠u):iG w' b r xa xc:=by
 obtain⟨d,e⟩:=h.row.eQ k c;exact⟨d,fun j v i=>(e _).trans (h.rng j v i)⟩
theorem SpX.drawn(h:SpX N w wr rb sb xb a cap bs p ra rc d dc Kk sl xs z r xa xc)(e:Rd w' rb a cap bs p')(k:Xk rb (rb+1) wr w'):SpX N w w' rb sb xb a cap bs p' ra rc d dc Kk sl xs z r xa xc:=by
 have c:=k.sameKind h.st.rd;exact⟨h.st.drawn e k,h.box.qR c (by decide),aJ h.tx c (by decide),h.xl,h.ne⟩
theorem SpX.kept(h:SpX N w wr rb sb xb a cap bs p ra rc d dc Kk sl xs z r xa xc)(k:K_ wr w'):SpX N w w' rb sb xb a cap bs p ra rc d dc Kk sl xs z r xa xc:=h.drawn (h.st.rd.kept k) (.aF k)
def SpJ(w:LP)(rb sb xb:Nat)(a:LM)(cap:Nat)(bs:List UInt8)(p:Nat)(ra:LM)(rc:Nat)(d:LM)(dc:Nat)(Kk:List LK)(sl:List Qz)(xs:List LQ)(k:Nat)(wx:LP):Prop:=
 ∃(r:Qz) (xa:LM) (xc p':Nat),p<=p'/\p'<=p+9/\nG 1 r/\iG wx xb r xa xc/\fA wx 9 xa r.texts/\(xa=none->xc=0)/\SpK 0 w wx rb sb a cap bs p' ra rc d dc Kk sl xs k
theorem SpX.put{r':Qz}{p0 o:Nat}(h:SpX 0 w wr rb sb xb a cap bs p ra rc d dc Kk sl xs z r xa xc)(b:o<7)(e:r'.cells xa xc= (r.cells xa xc).set o v)(c:r'.texts=r.texts)(f:nG 1 r')(i:p0<=p)(h2:p<=p0+9):SpJ w rb sb xb a cap bs p0 ra rc d dc Kk sl xs k (wr.setCell ⟨xb,o,none⟩ v):=by
 have j:Xk xb (xb+1) wr (wr.setCell ⟨xb,o,none⟩ v):=(Xk.refl _ _ _).setCell (p:=⟨xb,o,none⟩) (JP _) (Ky _) _;have l:=h.box.row.same (o:=o) v;obtain⟨m,n,_⟩:=lh (aJ h.tx l (by decide));exact⟨r',xa,xc,p,i,h2,f,h.box.put b e,by rw[c];exact m,n,(h.st.but h.box.row j h.xl h.ne).weak k⟩
theorem SpX.grown{xa':LM}{xc' p0:Nat}{s:LK}(h:SpX 0 w wr rb sb xb a cap bs p ra rc d dc Kk sl xs z r xa xc)(e:k<sl.length)(f:r=sl.getD k Qz.zero)(i:(xs.drop (k*7)).take 7=r.cells xa xc)(j:∀g:Addr,xa=some g->z<=g.block)(c:wr.grownBy u (Value.slice xa r.texts.length xc).ownBlock)
 (m:u.ownsRow 0 9 1 (.slice xa' (r.texts.length+1) xc') (r.texts.length+1) (r.texts.map Value.string++ [.string s])) (n:nG 1 {r with texts:=r.texts++ [s]}) (q:p0<=p) (h2:p<=p0+9):aC u xb 40 7/\SpJ w rb sb xb a cap bs p0 ra rc d dc Kk sl xs k (u.setCell ⟨xb,6,none⟩ (.slice xa' (r.texts.length+1) xc')):=by
 have t:=ay.aI h.tx c;have b:=h.box.qR t (by decide);have v:Xk xb (xb+1) u (u.setCell ⟨xb,6,none⟩ (.slice xa' (r.texts.length+1) xc')):=(Xk.refl _ _ _).setCell (p:=⟨xb,6,none⟩) (JP _) (Ky _) _;have x:=b.row.same (o:=6) (.slice xa' (r.texts.length+1) xc');have C:(r.texts++ [s]).length=r.texts.length+1:=by simp
 obtain⟨y,A,_⟩:=lh (l:=r.texts++ [s]) (aJ (by rw[LA];exact m) x (by decide));have B:=h.st.grown e (by rw[<-f];exact i) h.tx j c;exact⟨b.row,{r with texts:=r.texts++ [s]},xa',xc',p,q,h2,n,b.put (by omega) (by simp[Qz.cells]),y,A,B.but b.row v h.xl h.ne⟩
theorem SpX.Jt(h:SpX 0 w wr rb sb xb a cap bs p ra rc d dc Kk sl xs z r xa xc)(q:r=sl.getD k Qz.zero)(s:k<sl.length)(_hx:(xs.drop (k*7)).take 7=r.cells xa xc)(t:∀g:Addr,xa=some g->z<=g.block)(e:wr.grownBy u (Value.slice d sl.length dc).ownBlock)(v:u.ownsRow (w.heap.size+2) 40 7 (.slice d' (sl.length+1) dc') (sl.length+1) (xs++r.cells xa xc)):
  aC u sb 29 2/\BN 1 w (u.setCell ⟨sb,1,none⟩ (.slice d' (sl.length+1) dc')) rb sb a cap bs p ra rc d' dc' Kk (sl++ [r]):=by
 have b:=ay.aI h.st.kI e;obtain⟨x,j⟩:=h.st.rd0;have f:=h.st.row.eQ b (by decide);have l:Below w.heap.size wr u:=(Below.refl _ _).grown e h.st.kb.size (fun g e=>by have:=(h.st.kI.lt g e).1;omega);have i:(sl++ [r]).length=sl.length+1:=by simp
 obtain⟨y,A,_⟩:=lh h.tx;have B:=(h.st.pack.same b (by decide)).snoc (y.same b (by decide)) A t (aJ h.tx b (by decide));have m:=h.st.weak 0;have C:r∈sl:=by rw[q];simp[List.getD,s]
 have D:SpB 0 w u rb sb a cap bs p ra rc Kk:=⟨h.st.rd.below j l h.st.kb.size,⟨x,j⟩,h.st.kb.below l,h.st.res.1.eQ b (by decide) |>.1 |> fun E=>⟨E,fun o F G=>h.st.res.2 o F (by rw[<-(h.st.res.1.eQ b (by decide)).2 o];exact G)⟩,f.1,(f.2 0).trans h.st.c0,h.st.sbl,⟨m.rts.1.same b (by decide),m.rts.2⟩,h.st.rn,h.st.rz⟩;have n:=D.DD (d':=d') (dc':=dc') (sl':=sl++ [r]) (by rw[i];exact v) B (by rw[i];have:=h.st.sn;omega) (fun H c=>by
  rcases JZ.1 c with c|c
  ·exact (h.st.sb' H c).mono (by omega)
  ·rw[JY] at c;rw[c];exact (h.st.sb' r C).mono (by omega))
 rw[i] at n;exact⟨f.1,n⟩
theorem SpS.Js(h:SpS 0 w wr rb sb a cap bs p ra rc d dc Kk sl xs z)(c:k<sl.length)(e:K_ wr u)(f:u.ownsRow base 40 7 (.slice d' (sl.eraseIdx k).length dc') (sl.eraseIdx k).length (xs.take (k*7)++xs.drop ((k+1)*7))):
  BN 1 w (u.setCell ⟨sb,1,none⟩ (.slice d' (sl.eraseIdx k).length dc')) rb sb a cap bs p ra rc d' dc' Kk (sl.eraseIdx k):=by
 have b:=h.kept e;have i:=b.weak 0;have j:SpB 0 w u rb sb a cap bs p ra rc Kk:=⟨b.rd,b.rd0,b.kb,b.res,b.row,b.c0,b.sbl,i.rts,b.rn,b.rz⟩;exact j.DD f (b.pack.erase c) (by have:=List.length_eraseIdx_le sl k;have:=h.sn;omega) (fun x l=>(h.sb' x (List.mem_of_mem_eraseIdx l)).mono (by omega))
end
theorem Ce(w:LP)(L:Nat)(a:LM)(R:Nat)(N:List UInt8)(p:Nat)(ra:LM)(rc:Nat)(d:LM)(dc:Nat)(Kk:List LK)(j:List Qz)(hR:Rd w L a R N p)(hp:p<=700000)(a8:N.length<=2000)(hS:StU 0 w ra rc d Kk j):
  Calls prog 55 #[.pointer (some ⟨L,0,none⟩),.agg #[.slice ra Kk.length rc,.slice d j.length dc]] w fun e w'=>Fh 1 w w' L a R N p 9 e:=by
 obtain⟨gb,go,rfl⟩:=hS.ri rfl;obtain⟨W0,a9⟩:=aj ((w.alloc (.cells #[.slice (some ⟨gb,go,none⟩) Kk.length rc,.slice d j.length dc] 29)).alloc (.cells #[.slice none 0 0,.slice none 0 0] 29));have k0:K_ w W0:=by rw[a9];exact (ag _ _).alloc _
 have h3:W0.heap.size=w.heap.size+2:=by rw[a9];simp
 have h4:Hid (SZ W0 (w.heap.size+1)):=by
  have h:=SZ.made (w.alloc (.cells #[.slice (some ⟨gb,go,none⟩) Kk.length rc,.slice d j.length dc] 29));simp only[KR] at h;rw[a9];exact h
 have c0:W0.cell? ⟨w.heap.size,0,none⟩=some (.slice (some ⟨gb,go,none⟩) Kk.length rc):=by rw[a9,K_.cell (w:=w.alloc (.cells #[.slice (some ⟨gb,go,none⟩) Kk.length rc,.slice d j.length dc] 29)) (ag _ _) (by simp)];exact Xz w _ _ 0 _ rfl
 have c1:W0.cell? ⟨w.heap.size,1,none⟩=some (.slice d j.length dc):=by rw[a9,K_.cell (w:=w.alloc (.cells #[.slice (some ⟨gb,go,none⟩) Kk.length rc,.slice d j.length dc] 29)) (ag _ _) (by simp)];exact Xz w _ _ 1 _ rfl
 have z0:w.heap.size<W0.heap.size:=by omega
 have h8:=Kz (hR.kept k0);have⟨k7,f8,h9,b0⟩:=lg hR k0 h3 hS;have i0:=hS.rn;have k8:=hS.sn;clear hR k0 h3 hS;go_enter func55,ntmps55
 go_upto_region 1 with fail
 rw[<-a9];clear a9;go_wp2_with fail
 refine (rW W0 gb go rc Kk d dc j (by omega) (by omega) (fun r hr=>by have:=(b0.o.sb r hr).texts;omega) (b0.o.rs.kept f8.o) (b0.o.rr.kept f8.o)).mono ?_;rintro e w1 ⟨H,I,d1,B,X,z,rfl,hT,hO,hP,hz,i1,i2,k1⟩;obtain⟨W1,c7⟩:=aj (w1.alloc (.cells #[.slice H Kk.length I,.slice d1 j.length B] 29));obtain⟨sb,e1⟩:=aj w1.heap.size;have b7:Hid (SpS 0 w W1 L sb a R N p H I d1 B Kk j X z):=by
  have kw:K_ w1 W1:=by rw[c7];exact ag _ _
  have z0:=h9.o;have zk:=k1.size;have J:W1.rangeAt sb 0 [.slice H Kk.length I,.slice d1 j.length B]:=by rw[c7,e1];exact Xz w1 #[.slice H Kk.length I,.slice d1 j.length B] 29
  exact⟨(h8.o.kept k1).kept kw,⟨p,k7.o⟩,.aF ((f8.o.trans k1).trans kw),(h4.o.kept k1).kept kw,(by rw[c7,e1];exact aC.made w1 _ _),J 0 _ rfl,J 1 _ rfl,by omega,ai (bC hT (by omega)) kw,ai (bC hO (by omega)) kw,hP.kept kw,i2,by omega,i1,b0.o.rn,b0.o.rz,b0.o.sn,b0.o.sb⟩
 go_upto_region 2 with fail
 rw[<-c7,<-e1];clear c7 e1 hT hO hP hz i1 i2 k1 h4 h9 h8 c0 c1 z0;have c1:=b7.o.c1;have cz:=b7.o.row.lt;go_cut [18] from 10 to 18 (fun k9 wx=>∃(b:Bool) (p':Nat),k9= .bool b/\p<=p'/\p'<=p+1/\SpS 0 w wx L sb a R N p' H I d1 B Kk j X z/\(b=false->0<j.length))
 case first=>
  by_cases c8:j.length=0
  ·have l0:((j.length:Int) == 0)=true:=by simp[c8]
   clear c8;go_wp2
   go_meet
   exact⟨true,p,rfl,JP _,by omega,b7.o,fun h=>by cases h⟩
  ·have l0:((j.length:Int) == 0)=false:=by simpa using c8
   have l1:=Kz c8;clear c8;go_wp2_with fail
   refine (aK _ L a R N p _ 8 rfl b7.o.rd (by omega) (by omega) a8).mono ?_;rintro e w2 ⟨q2,rfl,o2,c9,d0⟩;have A:=Kz (b7.o.drawn c9 d0);clear c9 d0;go_wp2
   go_meet
   exact⟨_,p+1,rfl,by omega,JP _,A.o,fun _=>Nat.pos_of_ne_zero l1.o⟩
 case rest=>
  clear b7 c1 cz;obtain⟨b,p1,rfl,o3,o4,hS,hb⟩:=hcut;have⟨t,HB⟩:=aH hS hb;clear hS hb;cases b
  ·have o5:=HB.o rfl;clear HB;have c1:=t.o.c1;have cz:=t.o.row.lt;go_wp2_with fail
   refine (jO _ L a R N p1 j.length t.o.rd (by omega) (by omega) a8).mono ?_;rintro e w2 ⟨l,rfl,hk,c9,d0⟩;have A:=Kz (t.o.drawn c9 d0);have b1:l<j.length:=by omega
   clear c9 d0 t c1 cz hk;obtain⟨g,rfl,o6⟩:∃g,d1=some ⟨g,0,none⟩/\j.length<=B:=by
    rcases A.o.kI.2 with⟨e,h0⟩|⟨g,o7,o8,e,_,_,l2,_⟩
    ·omega
    ·simp only[KX,true_and] at e;obtain⟨rfl,rfl⟩:=e;exact⟨g,rfl,l2⟩
   have l3:=(A.o.kI.lt g rfl).2;have o9:=(A.o.kI.lt g rfl).1;obtain⟨r,hr⟩:=aj (j.getD l Qz.zero);obtain⟨Y,Z,e2,f9,l4,i3,g2⟩:=A.o.pack.2 l b1;rw[<-hr] at e2 f9 g2;have g3:nG 0 r:=A.o.sb' r (by rw[hr];simp[List.getD,b1]);have s:=g3.mono (M:=1) (by omega);have⟨e4,i4,i5,i6⟩:=lg g3 hr e2 i3;have W:∀E g4,(r.cells Y Z)[E]? =some g4->w2.cell? ⟨g,l*7+E,none⟩=some g4:=fun E g4 hv=>by
    rw[<-e2] at hv;have hj:E<7:=by have:=(JW.1 hv).1;rw[Kt] at this;omega
    rw[List.getElem?_take,Lt hj,List.getElem?_drop] at hv;have:=A.o.kI.cells (g:=g) rfl _ _ hv;rw[KZ,KH] at this;exact this
   have q0:=W 0 _ rfl;have q1:=W 1 _ rfl;have q2:=W 2 _ rfl;have q3:=W 3 _ rfl;have q4:=W 4 _ rfl;have q5:=W 5 _ rfl;have q6:=W 6 _ rfl;rw[La] at q0;have c1:=A.o.c1;have cz:=A.o.row.lt;have l5:(l:Int)<(j.length:Int):=by omega
   have⟨l6,i7⟩:=aH f9 g2;clear hr e2 i3 f9 l4 g2 W;obtain⟨w3,e5⟩:=aj (w2.alloc (.cells #[.string r.name,.bool r.over,.bool r.fail,.string r.text,.int .i64 r.at',.int .i64 r.Zj,.slice Y r.texts.length Z] 40));obtain⟨xb,e6⟩:=aj w2.heap.size;have g5:Hid (SpX 0 w w3 L sb xb a R N (p1+1) H I (some ⟨g,0,none⟩) B Kk j X z r Y Z):=by
    have kw:K_ w2 w3:=by rw[e5];exact ag _ _
    refine⟨A.o.kept kw, ?_,aJ (u:=40) i7.o (ay.aF kw) (by decide),by have:=A.o.sbl;omega,fun q e=>?_⟩
    ·rw[e5,e6];exact⟨aC.made w2 #[.string r.name,.bool r.over,.bool r.fail,.string r.text,.int .i64 r.at',.int .i64 r.Zj,.slice Y r.texts.length Z] 40,Xz w2 _ _⟩
    ·rw[e6];exact (A.o.kI.lt q e).2
   go_upto_region 7 with fail
   rw[<-e5,<-e6];clear e5 e6 A l6 i7 q0 q1 q2 q3 q4 q5 q6 c1 cz g3 l3;go_wp2_with fail
   refine (aK _ L a R N (p1+1) _ 9 rfl g5.o.st.rd (by omega) (by omega) a8).mono ?_;rintro e n ⟨y,rfl,p2,i8,i9⟩;have f:=Kz (g5.o.drawn i8 i9);clear i8 i9 g5
   go_upto_block 0 with fail
   go_cut [42] from 43 to 118 (fun _ wx=>SpJ w L sb xb a R N p H I (some ⟨g,0,none⟩) B Kk j X l wx)
   case rest=>
    obtain⟨x,b8,b9,p3,p4,p5,l7,g6,j0,j1,d3⟩:=hcut;obtain⟨q0,q1,q2,q3,q4,q5,q6⟩:=g6.all;have qz:=g6.row.lt;have c1:=d3.c1;have zx:=d3.row.lt;obtain⟨a0,j2⟩:=d3.put b1 rfl l7 j0 j1;have⟨m,l8⟩:=aH a0 j2;have l9:Hid ((#[.string x.name,.bool x.over,.bool x.fail,.string x.text,.int .i64 x.at',.int .i64 x.Zj,.slice b8 x.texts.length b9]:Array LQ).all (·.oneCell')=true):=all_oneCell_toArray (cs:=x.cells b8 b9) (by simp[Qz.cells,Value.oneCell']);have m0:Hid ((#[.string x.name,.bool x.over,.bool x.fail,.string x.text,.int .i64 x.at',.int .i64 x.Zj,.slice b8 x.texts.length b9]:Array LQ).toList=x.cells b8 b9):=rfl;have m1:Hid ((prog.info? 40).map (·.size)=some 7):=by show _=_;kernel_rfl
    have l5:(l:Int)<(j.length:Int):=by omega
    have zg:=(d3.kI.lt g rfl).2;clear a0 j2 d3 g6 j0 j1;go_upto_region 27 with fail
    go_wp2_with (refine wpList_store_mid rfl 40 _ _ rfl g (l*7) #[.string x.name,.bool x.over,.bool x.fail,.string x.text,.int .i64 x.at',.int .i64 x.Zj,.slice b8 x.texts.length b9] rfl rfl l8.o m1.o l9.o ?_;rw[m0.o];generalize hU:wc.setCells g (l*7) (x.cells b8 b9)=b2 at m⊢;obtain⟨a1,a3⟩:=aj (j.set l x);have S:j.length=a1.length:=(by rw[a3];simp);rw[<-a3] at m;rw[S];have c2:=m.o.c0;have c3:=m.o.c1;have ez:=m.o.row.lt;obtain⟨⟨_,x0⟩,g0⟩:=m.o.res.1.row.at (i:=0) (by omega);obtain⟨⟨_,x1⟩,g1⟩:=m.o.res.1.row.at (i:=1) (by omega);have xz:=m.o.res.1.lt;clear hU a3 S)
    have a5:=JU b2 (w.heap.size+1) 0 [.slice H Kk.length I,.slice (some ⟨g,0,none⟩) a1.length B] (cK m.o.res.1);exact X_ [.slice H Kk.length I,.slice (some ⟨g,0,none⟩) a1.length B] _ results55 rfl a5 underlying29 rfl Tryz.bH rfl (m.o.ends (by omega) (by omega))
   case first=>
    by_cases h0:y=0
    ·have c2:((y:Int) == 0)=true:=by simp[h0]
     clear h0;have a2:=Kz (f.o.kept ((K_.refl n).alloc (.cells #[.string ⟨#[122,122]⟩,.string ⟨#[97]⟩,.string ⟨#[]⟩] 9)));go_wp2_with fail
     refine (aK _ L a R N (p1+2) _ 3 rfl a2.o.st.rd (by omega) (by omega) a8).mono ?_;rintro e F ⟨q,rfl,W,T,G⟩;obtain⟨C,J,d4⟩:=qp [⟨#[122,122]⟩,⟨#[97]⟩,⟨#[]⟩] G f.o.st.rd.row.lt q (by show q<3;omega) (by
      intro C J;simp only[Lb,Lc,or_false] at J;rcases J with rfl | rfl | rfl <;> decide)
     have lz:n.heap.size<F.heap.size:=JQ (by simp) G.size;have U:=Kz (a2.o.drawn T G);have j3:(q:Int)<3:=by omega
     clear T G a2;have q0:=U.o.box.all.1;have qz:=U.o.box.row.lt;obtain⟨_,g0⟩:=U.o.box.row.row.at (i:=0) (by omega);go_wp2
     go_meet
     exact U.o.put (r':={r with name:=C}) (o:=0) (by omega) (by simp[Qz.cells]) rfl ⟨d4,s.text,s.texts,s.at',s.vis⟩ (by omega) (by omega)
    have c2:((y:Int) == 0)=false:=by simp;omega
    clear h0;by_cases g7:y=1
    ·have c3:((y:Int) == 1)=true:=by simp[g7]
     clear g7;obtain⟨q0,q1,q2,q3,q4,q5,q6⟩:=f.o.box.all;have qz:=f.o.box.row.lt;obtain⟨_,g1⟩:=f.o.box.row.row.at (i:=1) (by omega);go_wp2
     go_meet
     exact f.o.put (r':={r with over:= !r.over}) (o:=1) (by omega) (by simp[Qz.cells]) rfl ⟨s.name,s.text,s.texts,s.at',s.vis⟩ (by omega) (by omega)
    have c3:((y:Int) == 1)=false:=by simp;omega
    clear g7;by_cases h2:y=2
    ·have m2:((y:Int) == 2)=true:=by simp[h2]
     clear h2;obtain⟨q0,q1,q2,q3,q4,q5,q6⟩:=f.o.box.all;have qz:=f.o.box.row.lt;obtain⟨_,p6⟩:=f.o.box.row.row.at (i:=2) (by omega);go_wp2
     go_meet
     exact f.o.put (r':={r with fail:= !r.fail}) (o:=2) (by omega) (by simp[Qz.cells]) rfl ⟨s.name,s.text,s.texts,s.at',s.vis⟩ (by omega) (by omega)
    have m2:((y:Int) == 2)=false:=by simp;omega
    clear h2;by_cases g8:y=3
    ·have e3:((y:Int) == 3)=true:=by simp[g8]
     clear g8;obtain⟨q0,q1,q2,q3,q4,q5,q6⟩:=f.o.box.all;have qz:=f.o.box.row.lt;obtain⟨_,p7⟩:=f.o.box.row.row.at (i:=3) (by omega);have m3:=e4.o.text;have j4:(⟨#[120]⟩:LK).size=1:=rfl;have p8:¬9223372036854775807<r.text.size+ (⟨#[120]⟩:LK).size:=by rw[j4];omega
     go_wp2
     go_meet
     exact f.o.put (r':={r with text:=r.text++ ⟨#[120]⟩}) (o:=3) (by omega) (by simp[Qz.cells]) rfl ⟨s.name,by show (r.text++ ⟨#[120]⟩).size<=301;rw[ByteArray.size_append,j4];omega,s.texts,s.at',s.vis⟩ (by omega) (by omega)
    have e3:((y:Int) == 3)=false:=by simp;omega
    clear g8;by_cases g9:y=4
    ·have m4:((y:Int) == 4)=true:=by simp[g9]
     clear g9;go_upto_region 19 with fail
     have m5:=e4.o.at';have qv:n.drew.cell? ⟨xb,4,none⟩=some (.int .i64 r.at'):=(f.o.kept (aL n)).box.all.2.2.2.2.1;refine Qx.region (by kernel_rfl) (fun u=>u.cell? ⟨xb,4,none⟩=some (.int .i64 r.at')) 8 qv (fun k=>?_);have f:=Kz (f.o.kept (aL n));have zx:=f.o.box.row.lt;generalize b3:n.drew=O at k f zx⊢;clear b3 qv;have j5:IntKind.i64.wrap (r.at'+1)=r.at'+1:=by simp[IntKind.wrap,IntKind.bits,IntKind.signed];omega
     refine au 0 k ?_;refine ak 4 (fun K c=>?_);go_simp
     go_at_call 21
     refine (aK _ L a R N (p1+2) _ 2 rfl f.o.st.rd (by omega) (by omega) a8).mono ?_;rintro e F ⟨q,rfl,W,T,G⟩;have U:=Kz (f.o.drawn T G);clear T G f k zx;have k:F.cell? ⟨xb,4,none⟩=some (.int .i64 r.at'):=U.o.box.all.2.2.2.2.1;have zx:=U.o.box.row.lt;obtain⟨_,f0⟩:=U.o.box.row.row.at (i:=4) (by omega);dsimp only;refine ae c (fun _=>k) ?_;clear c K;have m6:IntKind.i64.wrap (2*(q:Int))=2*(q:Int):=by simp[IntKind.wrap,IntKind.bits,IntKind.signed];omega
     have m7:IntKind.i64.wrap (r.at'+1-2*(q:Int))=r.at'+1-2*(q:Int):=by simp[IntKind.wrap,IntKind.bits,IntKind.signed];omega
     refine ah 5 (fun K c=>?_);go_simp
     refine ae c (fun _=>k) ?_;clear c K;refine ah 6 (fun K c=>?_);go_simp
     refine ae c (fun _=>k) ?_;clear c K;refine af 7 k ?_;refine ah 8 (fun K c=>?_);go_simp
     refine ae c (fun h=>Lv rfl h) ?_;clear c K;refine aB ?_;go_wp2
     go_meet
     have c4:nG 1 {r with at':=r.at'+1-2*(q:Int)}:=⟨s.name,s.text,s.texts,(by show -1000-2*((1:Nat):Int)<=r.at'+1-2*(q:Int)/\r.at'+1-2*(q:Int)<=1000+2*((1:Nat):Int);omega),s.vis⟩;exact U.o.put (r':={r with at':=r.at'+1-2*(q:Int)}) (o:=4) (by omega) (by simp[Qz.cells]) rfl c4 (by omega) (by omega)
    have m4:((y:Int) == 4)=false:=by simp;omega
    clear g9;by_cases h5:y=5
    ·have m8:((y:Int) == 5)=true:=by simp[h5]
     clear h5;go_upto_region 21 with fail
     have m5:=e4.o.vis;have qv:n.drew.cell? ⟨xb,5,none⟩=some (.int .i64 r.Zj):=(f.o.kept (aL n)).box.all.2.2.2.2.2.1;refine Qx.region (by kernel_rfl) (fun u=>u.cell? ⟨xb,5,none⟩=some (.int .i64 r.Zj)) 8 qv (fun k=>?_);have f:=Kz (f.o.kept (aL n));have zx:=f.o.box.row.lt;generalize b3:n.drew=O at k f zx⊢;clear b3 qv;have j5:IntKind.i64.wrap (r.Zj+1)=r.Zj+1:=by simp[IntKind.wrap,IntKind.bits,IntKind.signed];omega
     refine au 0 k ?_;refine ak 4 (fun K c=>?_);go_simp
     go_at_call 21
     refine (aK _ L a R N (p1+2) _ 2 rfl f.o.st.rd (by omega) (by omega) a8).mono ?_;rintro e F ⟨q,rfl,W,T,G⟩;have U:=Kz (f.o.drawn T G);clear T G f k zx;have k:F.cell? ⟨xb,5,none⟩=some (.int .i64 r.Zj):=U.o.box.all.2.2.2.2.2.1;have zx:=U.o.box.row.lt;obtain⟨_,f0⟩:=U.o.box.row.row.at (i:=5) (by omega);dsimp only;refine ae c (fun _=>k) ?_;clear c K;have m6:IntKind.i64.wrap (2*(q:Int))=2*(q:Int):=by simp[IntKind.wrap,IntKind.bits,IntKind.signed];omega
     have m7:IntKind.i64.wrap (r.Zj+1-2*(q:Int))=r.Zj+1-2*(q:Int):=by simp[IntKind.wrap,IntKind.bits,IntKind.signed];omega
     refine ah 5 (fun K c=>?_);go_simp
     refine ae c (fun _=>k) ?_;clear c K;refine ah 6 (fun K c=>?_);go_simp
     refine ae c (fun _=>k) ?_;clear c K;refine af 7 k ?_;refine ah 8 (fun K c=>?_);go_simp
     refine ae c (fun h=>Lv rfl h) ?_;clear c K;refine aB ?_;go_wp2
     go_meet
     have c4:nG 1 {r with Zj:=r.Zj+1-2*(q:Int)}:=⟨s.name,s.text,s.texts,s.at',(by show -1000-2*((1:Nat):Int)<=r.Zj+1-2*(q:Int)/\r.Zj+1-2*(q:Int)<=1000+2*((1:Nat):Int);omega)⟩;exact U.o.put (r':={r with Zj:=r.Zj+1-2*(q:Int)}) (o:=5) (by omega) (by simp[Qz.cells]) rfl c4 (by omega) (by omega)
    have m8:((y:Int) == 5)=false:=by simp;omega
    clear h5;by_cases h6:y=6
    ·have m9:((y:Int) == 6)=true:=by simp[h6]
     clear h6;have a2:=Kz (f.o.kept ((K_.refl n).alloc (.cells #[.string (⟨#[118,48,40,41]⟩:LK)] 9)));obtain⟨q0,q1,q2,q3,q4,q5,q6⟩:=f.o.box.all;have qz:=f.o.box.row.lt;have m3:=e4.o.texts;obtain⟨ia,d5,d6,d7,d8⟩:=aN Tryz.d_;have c4:nG 1 {r with texts:=r.texts++ [(⟨#[118,48,40,41]⟩:LK)]}:=⟨s.name,s.text,by show (r.texts++ [(⟨#[118,48,40,41]⟩:LK)]).length<=201;rw[KS];simp;omega,s.at',s.vis⟩;have n0:=Kz c4;clear c4;go_wp2_with (at_builtin;refine wpList_append_own _ rfl (.tmp 98) (.tmp 99) 26 rfl 0 9 ia _ 1 16 underlying26 d5 d6 d7 d8 rfl (by decide) (.slice Y r.texts.length Z) r.texts.length (r.texts.map Value.string) rfl a2.o.tx ⟨n.heap.size,0,none⟩ 1 1 [.string (⟨#[118,48,40,41]⟩:LK)] rfl rfl (iH n (⟨#[118,48,40,41]⟩:LK)) (iq (⟨#[118,48,40,41]⟩:LK)) (by unfold maxLen;omega) (by omega) (JR _) ?_;intro v' w9 P a4 _;obtain⟨p9,q7,rfl⟩:=ax P;have hG:=a2.o.grown (p0:=p) b1 i4.o i5.o i6.o a4 P n0.o (by omega) (by omega);have D:=hG.1;have HJ:=Kz hG.2;obtain⟨⟨_,y6⟩,q8⟩:=D.row.at (i:=6) (by omega);have y9:=D.lt;clear hG a4 P D)
     go_meet
     exact HJ.o
    have m9:((y:Int) == 6)=false:=by simp;omega
    clear h6;by_cases h7:y=7
    ·have e7:((y:Int) == 7)=true:=by simp[h7]
     clear h7;go_upto_region 25 with fail
     refine Qx.region (by kernel_rfl) (fun u=>u.cell? ⟨sb,1,none⟩=some (.slice (some ⟨g,0,none⟩) j.length B)) 13 (f.o.kept (aL n)).st.c1 (fun k=>?_);have f:=Kz (f.o.kept (aL n));have zx:=f.o.st.row.lt;generalize b3:n.drew=O at k f zx⊢;clear b3;have q9:(l:Int)<=(B:Int):=by omega
     have r0:(0:Int)<=(l:Int)+1:=by omega
     have r1:(l:Int)+1<=(j.length:Int):=by omega
     have j5:IntKind.i64.wrap ((l:Int)+1)= (l:Int)+1:=by simp[IntKind.wrap,IntKind.bits,IntKind.signed];omega
     refine au 1 k ?_;refine au 6 k ?_;refine af 10 k ?_;obtain⟨d9,j6,j7⟩:∃d9:Addr,(if B=l+1 then (some ⟨g,0,none⟩:LM) else some ⟨g,(l+1)*7,none⟩)=some d9/\(d9= ⟨g,(l+1)*7,none⟩\/l+1=j.length):=by
      by_cases e:B=l+1
      ·exact⟨_,Lt e,.inr (by omega)⟩
      ·exact⟨_,Lu e,.inl rfl⟩
     rw[j6];have n1:=Kz j7;clear j6 j7;obtain⟨e8,e9,f1,f2,f3⟩:=aQ Tryz.ou;have r3:=f.o.st.kI.1;have r4:=f.o.st.sn;refine ak 0 (fun K c=>?_);go_simp
     have f4:Hid (K_ O (O.alloc (.cells #[] 40))):=ag _ _;have j8:Hid ((O.alloc (.cells #[] 40)).ownsRow O.heap.size 40 7 (.slice (some ⟨O.heap.size,0,none⟩) 0 0) 0 []):=KG O #[] 0 (JP _) (JR _) rfl;refine ae c (fun _=>(f.o.kept f4.o).st.c1) ?_;clear c K k;have n2:=f4.o.size;have n3:Hid (∀E u,(X.take (l*7))[E]? =some u->(O.alloc (.cells #[] 40)).cell? ((⟨g,0,none⟩:Addr).add E)=some u):=fun E u V=>(f.o.kept f4.o).st.kI.cells (g:=g) rfl E u (by rw[List.getElem?_take] at V;split at V;exact V;cases V)
     have n4:Hid (∀u∈X.take (l*7),u.oneCell'=true):=fun u V=>f.o.st.pack.one u (List.mem_of_mem_take V)
     refine ak 5 (fun K c=>?_);refine wp_append_own _ (.tmp 104) (.tmp 108) 27 rfl O.heap.size 40 e8 _ 7 80 underlying27 e9 f1 f2 f3 rfl (by decide) (.slice (some ⟨O.heap.size,0,none⟩) 0 0) 0 [] rfl j8.o ⟨g,0,none⟩ l B (X.take (l*7)) rfl (by rw[List.length_take];omega) n3.o n4.o (by unfold maxLen;omega) (by omega) n2 ?_;intro r5 F f5 j9 _;have f6:=Kz (aG f4.o (Nat.le_refl _) j8.o j9);rw[Nat.zero_add,List.nil_append] at f5;obtain⟨n5,c5,rfl⟩:=ax f5;have k2:=Kz f5;clear f5 j9;dsimp only;refine ae c (fun _=>(f.o.kept f6.o).st.c1) ?_;clear c K;have n6:=f6.o.size;have n7:Hid (∀E u,(X.drop ((l+1)*7))[E]? =some u->F.cell? (d9.add E)=some u):=fun E u V=>by
      rw[List.getElem?_drop] at V;rcases n1.o with e|e
      ·have:=(f.o.kept f6.o).st.kI.cells (g:=g) rfl _ u V;rw[KZ,KH] at this;rw[e,KZ];exact this
      ·have:=(JW.1 V).1;omega
     have n8:Hid (∀u∈X.drop ((l+1)*7),u.oneCell'=true):=fun u V=>f.o.st.pack.one u (List.mem_of_mem_drop V)
     refine ak 11 (fun K c=>?_);refine wp_append_own _ (.tmp 109) (.tmp 114) 27 rfl O.heap.size 40 e8 _ 7 80 underlying27 e9 f1 f2 f3 rfl (by decide) (.slice n5 l c5) l (X.take (l*7)) rfl k2.o d9 (j.length-(l+1)) (B-(l+1)) (X.drop ((l+1)*7)) rfl (by rw[List.length_drop];omega) n7.o n8.o (by unfold maxLen;omega) (by omega) n6 ?_;intro r6 w6 f7 k3 _;have k4:=Kz (aG f6.o (JP _) k2.o k3);have k5:l+ (j.length-(l+1))= (j.eraseIdx l).length:=by rw[List.length_eraseIdx_of_lt b1];omega
     rw[k5] at f7;obtain⟨a6,c6,rfl⟩:=ax f7;have m:=Kz (f.o.st.Js b1 k4.o f7);have k6:=Kz (f.o.kept k4.o);have k:=k6.o.st.c1;have D:=k6.o.st.row;clear f7 k3;dsimp only;refine ae c (fun _=>k) ?_;clear c K;refine af 12 k ?_;obtain⟨⟨_,y0⟩,f0⟩:=D.row.at (i:=1) (by omega);have rz:=D.lt;refine ah 13 (fun K c=>?_);go_simp
     refine ae c (fun h=>Lv rfl h) ?_;clear c K y0 f0 rz k D;refine aB ?_;obtain⟨a1,a3⟩:=aj (j.eraseIdx l);rw[<-a3] at m;rw[<-a3];generalize hU:w6.setCell ⟨sb,1,none⟩ (.slice a6 a1.length c6)=b2 at m⊢;have v:=Kz m.o;clear hU m a3 k5;have c2:=v.o.c0;have c3:=v.o.c1;have ez:=v.o.row.lt;obtain⟨⟨_,x0⟩,g0⟩:=v.o.res.1.row.at (i:=0) (by omega);obtain⟨⟨_,x1⟩,g1⟩:=v.o.res.1.row.at (i:=1) (by omega);have xz:=v.o.res.1.lt;go_wp2
     have a5:=JU b2 (w.heap.size+1) 0 [.slice H Kk.length I,.slice a6 a1.length c6] (cK v.o.res.1);exact X_ [.slice H Kk.length I,.slice a6 a1.length c6] _ results55 rfl a5 underlying29 rfl Tryz.bH rfl (v.o.ends (by omega) (by omega))
    have e7:((y:Int) == 7)=false:=by simp;omega
    clear h7;obtain⟨q0,q1,q2,q3,q4,q5,q6⟩:=f.o.box.all;have qz:=f.o.box.row.lt;have c1:=f.o.st.c1;have zx:=f.o.st.row.lt;have k1:K_ n (n.alloc (.cells #[.string r.name,.bool r.over,.bool r.fail,.string r.text,.int .i64 r.at',.int .i64 r.Zj,.slice Y r.texts.length Z] 40)):=ag _ _;have a2:=Kz (f.o.kept k1);have n9:Hid (∀E u,(r.cells Y Z)[E]? =some u->(n.alloc (.cells #[.string r.name,.bool r.over,.bool r.fail,.string r.text,.int .i64 r.at',.int .i64 r.Zj,.slice Y r.texts.length Z] 40)).cell? ((⟨n.heap.size,0,none⟩:Addr).add E)=some u):=fun E u V=>by rw[KZ];exact Xz n (r.cells Y Z).toArray 40 E u (by simpa using V)
    have e0:w.heap.size+2<=(n.alloc (.cells #[.string r.name,.bool r.over,.bool r.fail,.string r.text,.int .i64 r.at',.int .i64 r.Zj,.slice Y r.texts.length Z] 40)).heap.size:=Nat.le_of_lt (Nat.lt_of_le_of_lt a2.o.st.sbl a2.o.st.row.lt);obtain⟨e8,e9,f1,f2,f3⟩:=aQ Tryz.ou;have k8:=a2.o.st.sn;clear k1;go_wp2_with (at_builtin;refine wpList_append_own _ rfl (.tmp 43) (.tmp 45) 27 rfl (w.heap.size+2) 40 e8 _ 7 80 underlying27 e9 f1 f2 f3 rfl (by decide) (.slice (some ⟨g,0,none⟩) j.length B) j.length X rfl a2.o.st.kI ⟨n.heap.size,0,none⟩ 1 1 (r.cells Y Z) rfl rfl n9.o (Qz.one r Y Z) (by unfold maxLen;omega) (by omega) e0 ?_;intro v' w9 P a4 _;obtain⟨d2,h1,rfl⟩:=ax P;have a0:=a2.o.Jt i4.o b1 i5.o i6.o a4 P;have D:=a0.1;have m:=Kz a0.2;obtain⟨⟨_,y1⟩,r7⟩:=D.row.at (i:=1) (by omega);have y9:=D.lt;obtain⟨a1,a3⟩:=aj (j++ [r]);have S:j.length+1=a1.length:=(by rw[a3];simp);rw[S,<-a3] at m;rw[S];have c2:=m.o.c0;have c3:=m.o.c1;have ez:=m.o.row.lt;obtain⟨⟨_,x0⟩,g0⟩:=m.o.res.1.row.at (i:=0) (by omega);obtain⟨⟨_,x1⟩,g1⟩:=m.o.res.1.row.at (i:=1) (by omega);have xz:=m.o.res.1.lt;clear a0 a4 P D S a3)
    have a5:=JU (w9.setCell ⟨sb,1,none⟩ (.slice d2 a1.length h1)) (w.heap.size+1) 0 [.slice H Kk.length I,.slice d2 a1.length h1] (cK m.o.res.1);exact X_ [.slice H Kk.length I,.slice d2 a1.length h1] _ results55 rfl a5 underlying29 rfl Tryz.bH rfl (m.o.ends (by omega) (by omega))
  ·clear HB;go_wp2
   refine Qx.region (by kernel_rfl) (fun u=>u.cell? ⟨sb,0,none⟩=some (.slice H Kk.length I)) 10 (t.o.kept (aL _)).c0 (fun k=>?_);have t:=Kz (t.o.kept (aL wc));generalize b3:wc.drew=O at k t⊢;clear b3;refine af 0 k ?_;refine af 1 k ?_;refine af 3 k ?_;refine dx 2 4 (fun K c=>?_) (fun K c=>?_)
   ·rw[Lt (by rfl)];go_simp
    have A:=Kz (t.o.kept ((K_.refl O).alloc (.cells #[.string ⟨#[97]⟩,.string ⟨#[]⟩,.string ⟨#[103,111,110,101]⟩] 9)));refine ae c (fun _=>A.o.c0) ?_;clear c K k;refine ak 4 (fun K c=>?_);go_simp
    go_at_call 21
    refine (aK _ L a R N p1 _ 3 rfl A.o.rd (by omega) (by omega) a8).mono ?_;rintro e F ⟨q,rfl,W,T,G⟩;obtain⟨C,J,d4⟩:=qp [⟨#[97]⟩,⟨#[]⟩,⟨#[103,111,110,101]⟩] G t.o.rd.row.lt q (by show q<3;omega) (by
     intro C J;simp only[Lb,Lc,or_false] at J;rcases J with rfl | rfl | rfl <;> decide)
    have lz:O.heap.size<F.heap.size:=JQ (by simp) G.size;have t:=Kz (A.o.drawn T G);have j3:(q:Int)<3:=by omega
    clear T G A;dsimp only;refine ae c (fun _=>t.o.c0) ?_;clear c K;refine ah 5 (fun K c=>?_);go_simp
    refine ae c (fun _=>t.o.c0) ?_;clear c K;refine ah 6 (fun K c=>?_);go_simp
    refine ae c (fun _=>t.o.c0) ?_;clear c K;refine ak 7 (fun K c=>?_);go_simp
    have Q:=Kz (t.o.kept ((K_.refl F).alloc (.cells #[.string C] 9)));refine ae c (fun _=>Q.o.c0) ?_;clear c K;obtain⟨ia,d5,d6,d7,d8⟩:=aN Tryz.d_;have i0:=Q.o.rn;have e0:w.heap.size+2<=(F.alloc (.cells #[.string C] 9)).heap.size:=Nat.le_of_lt (Nat.lt_of_le_of_lt Q.o.sbl Q.o.row.lt);refine ak 8 (fun K c=>?_);refine wp_append_own _ (.tmp 20) (.tmp 26) 26 rfl (w.heap.size+2) 9 ia _ 1 16 underlying26 d5 d6 d7 d8 rfl (by decide) (.slice H Kk.length I) Kk.length (Kk.map Value.string) rfl Q.o.zI ⟨F.heap.size,0,none⟩ 1 1 [.string C] rfl rfl (iH F C) (iq C) (by unfold maxLen;omega) (by omega) e0 ?_;intro v' w9 P a4 _;obtain⟨r2,b4,rfl⟩:=ax P;obtain⟨D,b5,a0⟩:=Q.o.DI a4 P d4;have m:=Kz a0;clear a0 a4 P;dsimp only;refine ae c (fun _=>b5) ?_;clear c K;have k:=b5;refine af 9 k ?_;obtain⟨⟨_,y0⟩,f0⟩:=D.row.at (i:=0) (by omega);have rz:=D.lt;refine ah 10 (fun K c=>?_);go_simp
    refine ae c (fun h=>Lv rfl h) ?_;clear c K y0 f0 rz b5 k D;refine aB ?_;obtain⟨a7,b6⟩:=aj (Kk++ [C]);have S:Kk.length+1=a7.length:=by rw[b6];simp
    rw[S,<-b6] at m;rw[S];generalize hU:w9.setCell ⟨sb,0,none⟩ (.slice r2 a7.length b4)=b2 at m⊢;have v:=Kz m.o;clear hU m Q t S b6;have c2:=v.o.c0;have c3:=v.o.c1;have ez:=v.o.row.lt;obtain⟨⟨_,x0⟩,g0⟩:=v.o.res.1.row.at (i:=0) (by omega);obtain⟨⟨_,x1⟩,g1⟩:=v.o.res.1.row.at (i:=1) (by omega);have xz:=v.o.res.1.lt;go_wp2
    have a5:=JU b2 (w.heap.size+1) 0 [.slice r2 a7.length b4,.slice d1 j.length B] (cK v.o.res.1);exact X_ [.slice r2 a7.length b4,.slice d1 j.length B] _ results55 rfl a5 underlying29 rfl Tryz.bH rfl (v.o.ends (by omega) (by omega))
   ·rw[Lt (by rfl)];go_simp
    go_at_call 21
    refine (aK _ L a R N p1 _ 3 rfl t.o.rd (by omega) (by omega) a8).mono ?_;rintro e n ⟨q,rfl,W,T,G⟩;have A:=Kz (t.o.drawn T G);have j3:(q:Int)<3:=by omega
    clear T G t;dsimp only;refine ae c (fun _=>A.o.c0) ?_;clear c K k;refine ak 2 (fun K c=>?_);go_simp
    have t:=Kz (A.o.kept ((K_.refl n).alloc (.cells #[.string ⟨#[97]⟩,.string ⟨#[]⟩,.string ⟨#[103,111,110,101]⟩] 9)));obtain⟨C,J,d4⟩:=uO n 9 [⟨#[97]⟩,⟨#[]⟩,⟨#[103,111,110,101]⟩] q (by show q<3;omega) (by
     intro C J;simp only[Lb,Lc,or_false] at J;rcases J with rfl | rfl | rfl <;> decide)
    have o0:(n.alloc (.cells #[.string ⟨#[97]⟩,.string ⟨#[]⟩,.string ⟨#[103,111,110,101]⟩] 9)).cell? ⟨n.heap.size,q,none⟩=some (.string C):=J;have lz:n.heap.size<(n.alloc (.cells #[.string ⟨#[97]⟩,.string ⟨#[]⟩,.string ⟨#[103,111,110,101]⟩] 9)).heap.size:=by simp
    clear J A;refine ae c (fun _=>t.o.c0) ?_;clear c K;generalize o1:n.alloc (.cells #[.string ⟨#[97]⟩,.string ⟨#[]⟩,.string ⟨#[103,111,110,101]⟩] 9)=F at t o0 lz⊢;clear o1;refine ah 5 (fun K c=>?_);go_simp
    refine ae c (fun _=>t.o.c0) ?_;clear c K;refine ah 6 (fun K c=>?_);go_simp
    refine ae c (fun _=>t.o.c0) ?_;clear c K;refine ak 7 (fun K c=>?_);go_simp
    have Q:=Kz (t.o.kept ((K_.refl F).alloc (.cells #[.string C] 9)));refine ae c (fun _=>Q.o.c0) ?_;clear c K;obtain⟨ia,d5,d6,d7,d8⟩:=aN Tryz.d_;have i0:=Q.o.rn;have e0:w.heap.size+2<=(F.alloc (.cells #[.string C] 9)).heap.size:=Nat.le_of_lt (Nat.lt_of_le_of_lt Q.o.sbl Q.o.row.lt);refine ak 8 (fun K c=>?_);refine wp_append_own _ (.tmp 20) (.tmp 26) 26 rfl (w.heap.size+2) 9 ia _ 1 16 underlying26 d5 d6 d7 d8 rfl (by decide) (.slice H Kk.length I) Kk.length (Kk.map Value.string) rfl Q.o.zI ⟨F.heap.size,0,none⟩ 1 1 [.string C] rfl rfl (iH F C) (iq C) (by unfold maxLen;omega) (by omega) e0 ?_;intro v' w9 P a4 _;obtain⟨r2,b4,rfl⟩:=ax P;obtain⟨D,b5,a0⟩:=Q.o.DI a4 P d4;have m:=Kz a0;clear a0 a4 P;dsimp only;refine ae c (fun _=>b5) ?_;clear c K;have k:=b5;refine af 9 k ?_;obtain⟨⟨_,y0⟩,f0⟩:=D.row.at (i:=0) (by omega);have rz:=D.lt;refine ah 10 (fun K c=>?_);go_simp
    refine ae c (fun h=>Lv rfl h) ?_;clear c K y0 f0 rz b5 k D;refine aB ?_;obtain⟨a7,b6⟩:=aj (Kk++ [C]);have S:Kk.length+1=a7.length:=by rw[b6];simp
    rw[S,<-b6] at m;rw[S];generalize hU:w9.setCell ⟨sb,0,none⟩ (.slice r2 a7.length b4)=b2 at m⊢;have v:=Kz m.o;clear hU m Q t S b6;have c2:=v.o.c0;have c3:=v.o.c1;have ez:=v.o.row.lt;obtain⟨⟨_,x0⟩,g0⟩:=v.o.res.1.row.at (i:=0) (by omega);obtain⟨⟨_,x1⟩,g1⟩:=v.o.res.1.row.at (i:=1) (by omega);have xz:=v.o.res.1.lt;go_wp2
    have a5:=JU b2 (w.heap.size+1) 0 [.slice r2 a7.length b4,.slice d1 j.length B] (cK v.o.res.1);exact X_ [.slice r2 a7.length b4,.slice d1 j.length B] _ results55 rfl a5 underlying29 rfl Tryz.bH rfl (v.o.ends (by omega) (by omega))
structure jX (E:LK->LK->Prop) (x:LK) (ns:List LK):Prop where
 asc:iI ns
 sub:∀s∈ns,∃n,aR E (n+1) x s
 base:∀s,E x s->s∈ns
def zF(E:LK->LK->Prop)(x:LK)(ns:List LK):Prop:=iI ns/\∀s,s∈ns↔∃n,aR E (n+1) x s
structure gy (E:LK->LK->Prop) (out:List LK) (k:Nat) (list:List LK) (j:Nat) (more:List LK):Prop where
 asc:iI more
 iff:∀s,s∈more↔s∈out\/(∃c∈out.take k,E c s)\/s∈list.take j
section
variable {E : LK -> LK -> Prop} {x : LK} {out more list : List LK}
theorem iN{l:List LK}(h:iI l):l.Nodup:=h.imp fun {_a _b} b=>dA b
theorem gy.start(h:iI out):gy E out 0 [] 0 out:=⟨h,fun s=>by simp⟩
theorem gy.enter{k:Nat}(h:gy E out k [] 0 more)(b:List LK):gy E out k b 0 more:=⟨h.asc,fun s=>by rw[h.iff];simp⟩
theorem gy.step{k j:Nat}{b:List LK}(h:gy E out k list j more)(d:j<list.length)(e:iI b)(f:∀s,s∈b↔s∈more\/s=list[j]):gy E out k list (j+1) b:=by
 refine⟨e,fun s=>?_⟩;rw[f,h.iff,JX d,JZ,JY];constructor
 ·rintro ((a|a|a) | a)
  ·exact .inl a
  ·exact .inr (.inl a)
  ·exact .inr (.inr (.inl a))
  ·exact .inr (.inr (.inr a))
 ·rintro (a|a|a|a)
  ·exact .inl (.inl a)
  ·exact .inl (.inr (.inl a))
  ·exact .inl (.inr (.inr a))
  ·exact .inr a
theorem gy.leave{k j:Nat}(h:gy E out k list j more)(f:k<out.length)(i:list.length<=j)(e:∀s,s∈list↔E out[k] s):gy E out (k+1) [] 0 more:=by
 refine⟨h.asc,fun s=>?_⟩;rw[h.iff,KJ i,JX f];constructor
 ·rintro (a|⟨d,a,b⟩|a)
  ·exact .inl a
  ·exact .inr (.inl ⟨d,JZ.2 (.inl a),b⟩)
  ·exact .inr (.inl ⟨out[k],JZ.2 (.inr (by simp)),(e s).1 a⟩)
 ·rintro (a|⟨d,a,b⟩|a)
  ·exact .inl a
  ·rcases JZ.1 a with c|c
   ·exact .inr (.inl ⟨d,c,b⟩)
   ·rw[JY] at c;rw[c] at b;exact .inr (.inr ((e s).2 b))
  ·simp at a
theorem gy.len{k j:Nat}(a:iI out)(h:gy E out k list j more):out.length<=more.length:=List.Nodup.length_le_of_subset (iN a) (fun s d=>(h.iff s).2 (.inl d))
theorem jX.done(h:jX E x out)(i:gy E out out.length [] 0 more)(v:more.length=out.length):zF E x out:=by
 have k:∀s∈more,s∈out:=fun s d=>by
  by_cases j:s∈out
  ·exact j
  ·have:=List.Nodup.length_le_of_subset (l₁:=s :: out) (l₂:=more) (List.nodup_cons.2 ⟨j,iN h.asc⟩) (fun y e=>by
    rcases Lb.1 e with rfl|e
    ·exact d
    ·exact (i.iff y).2 (.inl e))
   simp at this;omega
 have l:∀c∈out,∀s,E c s->s∈out:=fun c m s d=>k s ((i.iff s).2 (.inr (.inl ⟨c,by rw[KI];exact m,d⟩)))
 refine⟨h.asc,fun s=>⟨h.sub s, ?_⟩⟩;rintro⟨n,f⟩;obtain⟨b,p,q⟩:=f.first
 have r:∀{n:Nat} {b s:LK},aR E n b s->b∈out->s∈out:=by
  intro n b s f
  induction f with
  | here a=>exact id
  | step h3 _ ih=>exact fun t=>ih (l _ t _ h3)
 exact r q (h.base b p)
theorem jX.next(h:jX E x out)(b:gy E out out.length [] 0 more):jX E x more:=by
 refine⟨b.asc,fun s d=>?_,fun s d=>(b.iff s).2 (.inl (h.base s d))⟩;rcases (b.iff s).1 d with a | ⟨c,a,e⟩ | a
 ·exact h.sub s a
 ·rw[KI] at a;obtain⟨n,f⟩:=h.sub c a;exact⟨n+1,by have:=f.trans (aR.one e);exact this⟩
 ·simp at a
theorem jX.len(h:jX E x out){names:List LK}(j:∀a b,E a b->b∈names):out.length<=names.length:=by
 refine List.Nodup.length_le_of_subset (iN h.asc) (fun s f=>?_);obtain⟨n,i⟩:=h.sub s f;clear f h;generalize l:n+1=m at i
 induction i generalizing n with
 | here a=>cases l
 | @step m a b c h1 r ih=>
  cases m with
  | zero=>rw[<-r.zero];exact j _ _ h1
  | succ m=>exact ih m rfl
end
def OnC(E:LK->LK->Prop)(c:LK):Prop:=∃n,aR E (n+1) c c
def Cs(E:LK->LK->Prop)(x:LK):Prop:=∃c n,aR E n x c/\OnC E c
def iK(E:LK->LK->Prop)(names ns:List LK):Prop:=iI ns/\∀s,s∈ns↔s∈names/\Cs E s
structure gT (E:LK->LK->Prop) (done:List LK) (x:LK) (reach:List LK) (k:Nat) (out:List LK):Prop where
 asc:iI out
 iff:∀s,s∈out↔(s∈done/\Cs E s)\/(s=x/\∃c∈reach.take k,OnC E c)
section
variable {E : LK -> LK -> Prop} {done reach out : List LK} {x : LK}
theorem gT.enter(h:iK E done out)(x:LK)(b:List LK):gT E done x b 0 out:=⟨h.1,fun s=>by rw[h.2];simp⟩
theorem gT.skip{k:Nat}(h:gT E done x reach k out)(f:k<reach.length)(i:¬OnC E reach[k]):gT E done x reach (k+1) out:=by
 refine⟨h.asc,fun s=>?_⟩;rw[h.iff,JX f];constructor
 ·rintro (a|⟨a,d,e,b⟩)
  ·exact .inl a
  ·exact .inr ⟨a,d,JZ.2 (.inl e),b⟩
 ·rintro (a|⟨a,d,e,b⟩)
  ·exact .inl a
  ·rcases JZ.1 e with c|c
   ·exact .inr ⟨a,d,c,b⟩
   ·rw[JY] at c;rw[c] at b;exact Lv b i
theorem gT.put{k:Nat}{b:List LK}(h:gT E done x reach k out)(d:k<reach.length)(e:OnC E reach[k])(f:iI b)(i:∀s,s∈b↔s∈out\/s=x):gT E done x reach (k+1) b:=by
 refine⟨f,fun s=>?_⟩;rw[i,h.iff,JX d];constructor
 ·rintro ((a|⟨a,c,j,l⟩) | a)
  ·exact .inl a
  ·exact .inr ⟨a,c,JZ.2 (.inl j),l⟩
  ·exact .inr ⟨a,reach[k],JZ.2 (.inr (by simp)),e⟩
 ·rintro (a|⟨a,_⟩)
  ·exact .inl (.inl a)
  ·exact .inr a
theorem gT.leave{k:Nat}{d:List LK}(h:gT E done x (d++ [x]) k out)(j:(d++ [x]).length<=k)(f:zF E x d):iK E (done++ [x]) out:=by
 refine⟨h.asc,fun s=>?_⟩;rw[h.iff,KJ j,JZ,JY];have i:(∃c∈d++ [x],OnC E c)↔Cs E x:=by
  constructor
  ·rintro⟨c,b,a⟩;rcases JZ.1 b with e|e
   ·obtain⟨n,l⟩:=(f.2 c).1 e;exact⟨c,n+1,l,a⟩
   ·rw[JY] at e;exact⟨c,0,by rw[e];exact .here x,a⟩
  ·rintro⟨c,n,b,a⟩;cases n with
   | zero=>rw[<-b.zero] at a;exact⟨x,by simp,a⟩
   | succ n=>exact⟨c,JZ.2 (.inl ((f.2 c).2 ⟨n,b⟩)),a⟩
 constructor
 ·rintro (⟨b,a⟩|⟨rfl,a⟩)
  ·exact⟨.inl b,a⟩
  ·exact⟨.inr rfl,i.1 a⟩
 ·rintro⟨b|rfl,a⟩
  ·exact .inl ⟨b,a⟩
  ·exact .inr ⟨rfl,i.2 a⟩
theorem iK.unique{names b c:List LK}(h:iK E names b)(k:iK E names c):c=b:=by
 have e:∀s,s∈c↔s∈b:=fun s=>(k.2 s).trans (h.2 s).symm
 exact (List.perm_ext_iff_of_nodup (iN k.1) (iN h.1)).2 e |>.eq_of_pairwise (le:=fun a d=>aP a d) (fun a d _ _ f i=>Lv i (dH f)) k.1 h.1
end
